/-
  NARROWER THAN 'FOR EVERY INPUT', by the rows' own cells (each row's printed sentence says how): ArgsCheck: loops · ArgsNames: loops.
  DERIVED. THE GIVEN ROWS OF THIS SEAT. 4 by the template 'for every input the law returns true; each argument reads behind the call as it read before'; 0 by the template 'total and deterministic' (their statements: YthmgmfmecfmeeaaTotals.lean).
  GIVEN WITH THE SEED: the statements are not yours to turn. If you find one false, say at which input.
  Laid BY PROGRAM, IN A SANDBOX (cutbox-rows.mjs): the forced cells as the released guide's own fill.sh prints them over the translation bb9707f3f2908d0b… (all of the seat's roots in one cut). By AI agents, Wed Nov 11 2026. No macro, syntax, notation, axiom, sorry.
-/
import Derived.Test.YthmgmfmecfmeeaaChecked
import GoSem.Claim
import GoSem.ClaimJoined
import GoSem.ClaimMapViews
import Derived.JoinedTies
import Derived.KernelRfl
namespace Go.Proofs.Ythmgmfmecfmeeaa
/- THE CELL 'sum', in the pinned program and in every row, IS THE sha256 OF THE DUMP (.gsa) THAT YthmgmfmecfmeeaaProg.lean LOADS. Nothing in Lean hashes anything: it is a label: what it is worth is what the hold of that sum in a sandbox is worth. -/
noncomputable def Try.pinned : Pinned := { name := "ythmgmfmecfmeeaa", sum := "bb9707f3f2908d0b25d120f47d60a7c403f3cd16a28ae8b7b6020c9f18512438", checked := Try.checked }
namespace Rows
def none {H : Type} : Left H := { results := [], args := [] }

/-- 'choirlaw7.ArgsTell': WHATEVER THE INPUT: true; the input reads as it did. -/
def argsTellSpec : ChangeSpec := { name := "argsTell", fn := fun _ => fun
  | [d1, d2, d3] => { results := [.lit (.bool true)], args := [d1, d2, d3] }
  | _ => none }
def argsTellRow : OpenClaim := { program := "ythmgmfmecfmeeaa", sum := "bb9707f3f2908d0b25d120f47d60a7c403f3cd16a28ae8b7b6020c9f18512438", func := "choir/choirlaw7.ArgsTell", spec := "argsTell", inPlace := ["math.Float64frombits", "math.Float64bits"], unfollowed := true, recurses := true, plainKeys := false, apart := false }
def ArgsTellSaid : Prop := argsTellRow.holds Try.pinned (OpenSpec.ofChange argsTellSpec)

/-- ITS FALSE NEIGHBOUR: 'it returns false'. Refute it at one input. -/
def argsTellWrong : ChangeSpec := { name := "argsTell", fn := fun _ => fun
  | [d1, d2, d3] => { results := [.lit (.bool false)], args := [d1, d2, d3] }
  | _ => none }
def ArgsTellWrongFalsely : Prop := argsTellRow.holds Try.pinned (OpenSpec.ofChange argsTellWrong)

/-- 'choirlaw7.ArgsCheck': WHATEVER THE INPUT: true; the input reads as it did. -/
def argsCheckSpec : ChangeSpec := { name := "argsCheck", fn := fun _ => fun
  | [d1, d2, d3, d4, d5] => { results := [.lit (.bool true)], args := [d1, d2, d3, d4, d5] }
  | _ => none }
def argsCheckRow : OpenClaim := { program := "ythmgmfmecfmeeaa", sum := "bb9707f3f2908d0b25d120f47d60a7c403f3cd16a28ae8b7b6020c9f18512438", func := "choir/choirlaw7.ArgsCheck", spec := "argsCheck", unfollowed := true, recurses := true, loops := true, plainKeys := false, apart := false }
def ArgsCheckSaid : Prop := argsCheckRow.holds Try.pinned (OpenSpec.ofChange argsCheckSpec)

/-- ITS FALSE NEIGHBOUR: 'it returns false'. Refute it at one input. -/
def argsCheckWrong : ChangeSpec := { name := "argsCheck", fn := fun _ => fun
  | [d1, d2, d3, d4, d5] => { results := [.lit (.bool false)], args := [d1, d2, d3, d4, d5] }
  | _ => none }
def ArgsCheckWrongFalsely : Prop := argsCheckRow.holds Try.pinned (OpenSpec.ofChange argsCheckWrong)

/-- 'choirlaw7.ArgsNames': WHATEVER THE INPUT: true; the input reads as it did. -/
def argsNamesSpec : ChangeSpec := { name := "argsNames", fn := fun _ => fun
  | [d1, d2] => { results := [.lit (.bool true)], args := [d1, d2] }
  | _ => none }
def argsNamesRow : OpenClaim := { program := "ythmgmfmecfmeeaa", sum := "bb9707f3f2908d0b25d120f47d60a7c403f3cd16a28ae8b7b6020c9f18512438", func := "choir/choirlaw7.ArgsNames", spec := "argsNames", unfollowed := true, recurses := true, loops := true, plainKeys := false, apart := false }
def ArgsNamesSaid : Prop := argsNamesRow.holds Try.pinned (OpenSpec.ofChange argsNamesSpec)

/-- ITS FALSE NEIGHBOUR: 'it returns false'. Refute it at one input. -/
def argsNamesWrong : ChangeSpec := { name := "argsNames", fn := fun _ => fun
  | [d1, d2] => { results := [.lit (.bool false)], args := [d1, d2] }
  | _ => none }
def ArgsNamesWrongFalsely : Prop := argsNamesRow.holds Try.pinned (OpenSpec.ofChange argsNamesWrong)

/-- 'choirlaw7.ArgsSteps': WHATEVER THE INPUT: true; the input reads as it did. -/
def argsStepsSpec : ChangeSpec := { name := "argsSteps", fn := fun _ => fun
  | [d1, d2, d3] => { results := [.lit (.bool true)], args := [d1, d2, d3] }
  | _ => none }
def argsStepsRow : OpenClaim := { program := "ythmgmfmecfmeeaa", sum := "bb9707f3f2908d0b25d120f47d60a7c403f3cd16a28ae8b7b6020c9f18512438", func := "choir/choirlaw7.ArgsSteps", spec := "argsSteps", unfollowed := true, recurses := true, plainKeys := false, apart := false }
def ArgsStepsSaid : Prop := argsStepsRow.holds Try.pinned (OpenSpec.ofChange argsStepsSpec)

/-- ITS FALSE NEIGHBOUR: 'it returns false'. Refute it at one input. -/
def argsStepsWrong : ChangeSpec := { name := "argsSteps", fn := fun _ => fun
  | [d1, d2, d3] => { results := [.lit (.bool false)], args := [d1, d2, d3] }
  | _ => none }
def ArgsStepsWrongFalsely : Prop := argsStepsRow.holds Try.pinned (OpenSpec.ofChange argsStepsWrong)

/- THE SECOND FORM. 'bulk': how many values and letters a reading holds, each counted each time it is reached (what is shared counts as often as it is met; a slice's spare places count too). A statement '..UptoSaid' is the law's where the arguments, and the package variables that the reading takes, are together of bulk at most 1048576: NARROWER than '..Said'. Prove '..Said' where nothing that the law and all that it calls make is longer than what came in: it says more and counts as full. Else prove '..UptoSaid'. A law counts once. -/
mutual
def uptoBulk {H : Type} : DataW H → Nat
  | .lit (.string bytes) => bytes.length + 1
  | .lit _ => 1
  | .nil => 1
  | .ptr d => uptoBulk d + 1
  | .slice elems spare => uptoBulkAll elems + uptoBulkAll spare + 1
  | .agg parts => uptoBulkAll parts + 1
  | .iface _ d => uptoBulk d + 1
  | .map entries => uptoBulkEntries entries + 1
  | .held _ => 1
def uptoBulkAll {H : Type} : List (DataW H) → Nat
  | [] => 0
  | d :: r => uptoBulk d + uptoBulkAll r
def uptoBulkEntries {H : Type} : List (Lit × DataW H) → Nat
  | [] => 0
  | x :: r => uptoBulkEntry x + uptoBulkEntries r
def uptoBulkEntry {H : Type} : Lit × DataW H → Nat
  | (.string bytes, d) => bytes.length + uptoBulk d + 1
  | (_, d) => uptoBulk d + 1
 end
def uptoSmall : (H : Type) → List (DataW H) → Bool := fun _ ds => decide (uptoBulkAll ds ≤ 1048576)
def OpenSpec.upto (s : _root_.Go.ChangeSpec) : _root_.Go.OpenSpec := { _root_.Go.OpenSpec.ofChange s with cond := some uptoSmall }

/-- 'choirlaw7.ArgsTell', WHERE WHAT IT READS IS OF BULK AT MOST 1048576: true; the input reads as it did. -/
def argsTellUptoRow : OpenClaim := { program := "ythmgmfmecfmeeaa", sum := "bb9707f3f2908d0b25d120f47d60a7c403f3cd16a28ae8b7b6020c9f18512438", func := "choir/choirlaw7.ArgsTell", spec := "argsTell", inPlace := ["math.Float64frombits", "math.Float64bits"], unfollowed := true, recurses := true, plainKeys := false, apart := false, narrowed := true }
def ArgsTellUptoSaid : Prop := argsTellUptoRow.holds Try.pinned (OpenSpec.upto argsTellSpec)

/-- 'choirlaw7.ArgsCheck', WHERE WHAT IT READS IS OF BULK AT MOST 1048576: true; the input reads as it did. -/
def argsCheckUptoRow : OpenClaim := { program := "ythmgmfmecfmeeaa", sum := "bb9707f3f2908d0b25d120f47d60a7c403f3cd16a28ae8b7b6020c9f18512438", func := "choir/choirlaw7.ArgsCheck", spec := "argsCheck", unfollowed := true, recurses := true, loops := true, plainKeys := false, apart := false, narrowed := true }
def ArgsCheckUptoSaid : Prop := argsCheckUptoRow.holds Try.pinned (OpenSpec.upto argsCheckSpec)

/-- 'choirlaw7.ArgsNames', WHERE WHAT IT READS IS OF BULK AT MOST 1048576: true; the input reads as it did. -/
def argsNamesUptoRow : OpenClaim := { program := "ythmgmfmecfmeeaa", sum := "bb9707f3f2908d0b25d120f47d60a7c403f3cd16a28ae8b7b6020c9f18512438", func := "choir/choirlaw7.ArgsNames", spec := "argsNames", unfollowed := true, recurses := true, loops := true, plainKeys := false, apart := false, narrowed := true }
def ArgsNamesUptoSaid : Prop := argsNamesUptoRow.holds Try.pinned (OpenSpec.upto argsNamesSpec)

/-- 'choirlaw7.ArgsSteps', WHERE WHAT IT READS IS OF BULK AT MOST 1048576: true; the input reads as it did. -/
def argsStepsUptoRow : OpenClaim := { program := "ythmgmfmecfmeeaa", sum := "bb9707f3f2908d0b25d120f47d60a7c403f3cd16a28ae8b7b6020c9f18512438", func := "choir/choirlaw7.ArgsSteps", spec := "argsSteps", unfollowed := true, recurses := true, plainKeys := false, apart := false, narrowed := true }
def ArgsStepsUptoSaid : Prop := argsStepsUptoRow.holds Try.pinned (OpenSpec.upto argsStepsSpec)

end Rows
end Go.Proofs.Ythmgmfmecfmeeaa
