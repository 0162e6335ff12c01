/-
  NARROWER THAN 'FOR EVERY INPUT', by the rows' own cells (each row's printed sentence says how): RegisterPlays: loops · RegisterRaw: loops · RegisterKeeps: loops.
  DERIVED. THE GIVEN ROWS OF THIS SEAT. 4 by the template 'for every input the law returns true; each argument reads behind the call as it read before'; 0 by the template 'total and deterministic' (their statements: YteoimpagdgnkbaaTotals.lean).
  GIVEN WITH THE SEED: the statements are not yours to turn. If you find one false, say at which input.
  Laid BY PROGRAM, IN A SANDBOX (cutbox-rows.mjs): the forced cells as the released guide's own fill.sh prints them over the translation 9d7c7e002b2fb50f… (all of the seat's roots in one cut). By AI agents, Wed Nov 11 2026. No macro, syntax, notation, axiom, sorry.
-/
import Derived.Test.YteoimpagdgnkbaaChecked
import GoSem.Claim
import GoSem.ClaimJoined
import GoSem.ClaimMapViews
import Derived.JoinedTies
import Derived.KernelRfl
namespace Go.Proofs.Yteoimpagdgnkbaa
/- THE CELL 'sum', in the pinned program and in every row, IS THE sha256 OF THE DUMP (.gsa) THAT YteoimpagdgnkbaaProg.lean LOADS. Nothing in Lean hashes anything: it is a label: what it is worth is what the hold of that sum in a sandbox is worth. -/
noncomputable def Try.pinned : Pinned := { name := "yteoimpagdgnkbaa", sum := "9d7c7e002b2fb50fd0687fd0a3fe430ccb3c1aa0f8a059c4b5bbf683e7168494", checked := Try.checked }
namespace Rows
def none {H : Type} : Left H := { results := [], args := [] }

/-- 'choirlaw8.RegisterPlays': WHATEVER THE INPUT: true; the input reads as it did. -/
def registerPlaysSpec : ChangeSpec := { name := "registerPlays", fn := fun _ => fun
  | [d] => { results := [.lit (.bool true)], args := [d] }
  | _ => none }
def registerPlaysRow : OpenClaim := { program := "yteoimpagdgnkbaa", sum := "9d7c7e002b2fb50fd0687fd0a3fe430ccb3c1aa0f8a059c4b5bbf683e7168494", func := "choir/choirlaw8.RegisterPlays", spec := "registerPlays", inPlace := ["math.Float64frombits", "math.Float64bits"], unfollowed := true, recurses := true, loops := true, plainKeys := false, apart := false }
def RegisterPlaysSaid : Prop := registerPlaysRow.holds Try.pinned (OpenSpec.ofChange registerPlaysSpec)

/-- ITS FALSE NEIGHBOUR: 'it returns false'. Refute it at one input. -/
def registerPlaysWrong : ChangeSpec := { name := "registerPlays", fn := fun _ => fun
  | [d] => { results := [.lit (.bool false)], args := [d] }
  | _ => none }
def RegisterPlaysWrongFalsely : Prop := registerPlaysRow.holds Try.pinned (OpenSpec.ofChange registerPlaysWrong)

/-- 'choirlaw8.RegisterRaw': WHATEVER THE INPUT: true; the input reads as it did. -/
def registerRawSpec : ChangeSpec := { name := "registerRaw", fn := fun _ => fun
  | [d1, d2, d3] => { results := [.lit (.bool true)], args := [d1, d2, d3] }
  | _ => none }
def registerRawRow : OpenClaim := { program := "yteoimpagdgnkbaa", sum := "9d7c7e002b2fb50fd0687fd0a3fe430ccb3c1aa0f8a059c4b5bbf683e7168494", func := "choir/choirlaw8.RegisterRaw", spec := "registerRaw", inPlace := ["math.Float64frombits", "math.Float64bits"], unfollowed := true, recurses := true, loops := true, plainKeys := false, apart := false }
def RegisterRawSaid : Prop := registerRawRow.holds Try.pinned (OpenSpec.ofChange registerRawSpec)

/-- ITS FALSE NEIGHBOUR: 'it returns false'. Refute it at one input. -/
def registerRawWrong : ChangeSpec := { name := "registerRaw", fn := fun _ => fun
  | [d1, d2, d3] => { results := [.lit (.bool false)], args := [d1, d2, d3] }
  | _ => none }
def RegisterRawWrongFalsely : Prop := registerRawRow.holds Try.pinned (OpenSpec.ofChange registerRawWrong)

/-- 'choirlaw8.RegisterFloats': WHATEVER THE INPUT: true; the input reads as it did. -/
def registerFloatsSpec : ChangeSpec := { name := "registerFloats", fn := fun _ => fun
  | [d1, d2] => { results := [.lit (.bool true)], args := [d1, d2] }
  | _ => none }
def registerFloatsRow : OpenClaim := { program := "yteoimpagdgnkbaa", sum := "9d7c7e002b2fb50fd0687fd0a3fe430ccb3c1aa0f8a059c4b5bbf683e7168494", func := "choir/choirlaw8.RegisterFloats", spec := "registerFloats", inPlace := ["math.Float64frombits", "math.Float64bits"], unfollowed := true, recurses := true, plainKeys := false, apart := false }
def RegisterFloatsSaid : Prop := registerFloatsRow.holds Try.pinned (OpenSpec.ofChange registerFloatsSpec)

/-- ITS FALSE NEIGHBOUR: 'it returns false'. Refute it at one input. -/
def registerFloatsWrong : ChangeSpec := { name := "registerFloats", fn := fun _ => fun
  | [d1, d2] => { results := [.lit (.bool false)], args := [d1, d2] }
  | _ => none }
def RegisterFloatsWrongFalsely : Prop := registerFloatsRow.holds Try.pinned (OpenSpec.ofChange registerFloatsWrong)

/-- 'choirlaw8.RegisterKeeps': WHATEVER THE INPUT: true; the input reads as it did. -/
def registerKeepsSpec : ChangeSpec := { name := "registerKeeps", fn := fun _ => fun
  | [d] => { results := [.lit (.bool true)], args := [d] }
  | _ => none }
def registerKeepsRow : OpenClaim := { program := "yteoimpagdgnkbaa", sum := "9d7c7e002b2fb50fd0687fd0a3fe430ccb3c1aa0f8a059c4b5bbf683e7168494", func := "choir/choirlaw8.RegisterKeeps", spec := "registerKeeps", inPlace := ["math.Float64frombits", "math.Float64bits"], unfollowed := true, recurses := true, loops := true, plainKeys := false, apart := false }
def RegisterKeepsSaid : Prop := registerKeepsRow.holds Try.pinned (OpenSpec.ofChange registerKeepsSpec)

/-- ITS FALSE NEIGHBOUR: 'it returns false'. Refute it at one input. -/
def registerKeepsWrong : ChangeSpec := { name := "registerKeeps", fn := fun _ => fun
  | [d] => { results := [.lit (.bool false)], args := [d] }
  | _ => none }
def RegisterKeepsWrongFalsely : Prop := registerKeepsRow.holds Try.pinned (OpenSpec.ofChange registerKeepsWrong)

/- THE SECOND FORM. 'bulk': how many values and letters a reading holds, each counted each time it is reached (what is shared counts as often as it is met; a slice's spare places count too). A statement '..UptoSaid' is the law's where the arguments, and the package variables that the reading takes, are together of bulk at most 1048576: NARROWER than '..Said'. Prove '..Said' where nothing that the law and all that it calls make is longer than what came in: it says more and counts as full. Else prove '..UptoSaid'. A law counts once. -/
mutual
def uptoBulk {H : Type} : DataW H → Nat
  | .lit (.string bytes) => bytes.length + 1
  | .lit _ => 1
  | .nil => 1
  | .ptr d => uptoBulk d + 1
  | .slice elems spare => uptoBulkAll elems + uptoBulkAll spare + 1
  | .agg parts => uptoBulkAll parts + 1
  | .iface _ d => uptoBulk d + 1
  | .map entries => uptoBulkEntries entries + 1
  | .held _ => 1
def uptoBulkAll {H : Type} : List (DataW H) → Nat
  | [] => 0
  | d :: r => uptoBulk d + uptoBulkAll r
def uptoBulkEntries {H : Type} : List (Lit × DataW H) → Nat
  | [] => 0
  | x :: r => uptoBulkEntry x + uptoBulkEntries r
def uptoBulkEntry {H : Type} : Lit × DataW H → Nat
  | (.string bytes, d) => bytes.length + uptoBulk d + 1
  | (_, d) => uptoBulk d + 1
 end
def uptoSmall : (H : Type) → List (DataW H) → Bool := fun _ ds => decide (uptoBulkAll ds ≤ 1048576)
def OpenSpec.upto (s : _root_.Go.ChangeSpec) : _root_.Go.OpenSpec := { _root_.Go.OpenSpec.ofChange s with cond := some uptoSmall }

/-- 'choirlaw8.RegisterPlays', WHERE WHAT IT READS IS OF BULK AT MOST 1048576: true; the input reads as it did. -/
def registerPlaysUptoRow : OpenClaim := { program := "yteoimpagdgnkbaa", sum := "9d7c7e002b2fb50fd0687fd0a3fe430ccb3c1aa0f8a059c4b5bbf683e7168494", func := "choir/choirlaw8.RegisterPlays", spec := "registerPlays", inPlace := ["math.Float64frombits", "math.Float64bits"], unfollowed := true, recurses := true, loops := true, plainKeys := false, apart := false, narrowed := true }
def RegisterPlaysUptoSaid : Prop := registerPlaysUptoRow.holds Try.pinned (OpenSpec.upto registerPlaysSpec)

/-- 'choirlaw8.RegisterRaw', WHERE WHAT IT READS IS OF BULK AT MOST 1048576: true; the input reads as it did. -/
def registerRawUptoRow : OpenClaim := { program := "yteoimpagdgnkbaa", sum := "9d7c7e002b2fb50fd0687fd0a3fe430ccb3c1aa0f8a059c4b5bbf683e7168494", func := "choir/choirlaw8.RegisterRaw", spec := "registerRaw", inPlace := ["math.Float64frombits", "math.Float64bits"], unfollowed := true, recurses := true, loops := true, plainKeys := false, apart := false, narrowed := true }
def RegisterRawUptoSaid : Prop := registerRawUptoRow.holds Try.pinned (OpenSpec.upto registerRawSpec)

/-- 'choirlaw8.RegisterFloats', WHERE WHAT IT READS IS OF BULK AT MOST 1048576: true; the input reads as it did. -/
def registerFloatsUptoRow : OpenClaim := { program := "yteoimpagdgnkbaa", sum := "9d7c7e002b2fb50fd0687fd0a3fe430ccb3c1aa0f8a059c4b5bbf683e7168494", func := "choir/choirlaw8.RegisterFloats", spec := "registerFloats", inPlace := ["math.Float64frombits", "math.Float64bits"], unfollowed := true, recurses := true, plainKeys := false, apart := false, narrowed := true }
def RegisterFloatsUptoSaid : Prop := registerFloatsUptoRow.holds Try.pinned (OpenSpec.upto registerFloatsSpec)

/-- 'choirlaw8.RegisterKeeps', WHERE WHAT IT READS IS OF BULK AT MOST 1048576: true; the input reads as it did. -/
def registerKeepsUptoRow : OpenClaim := { program := "yteoimpagdgnkbaa", sum := "9d7c7e002b2fb50fd0687fd0a3fe430ccb3c1aa0f8a059c4b5bbf683e7168494", func := "choir/choirlaw8.RegisterKeeps", spec := "registerKeeps", inPlace := ["math.Float64frombits", "math.Float64bits"], unfollowed := true, recurses := true, loops := true, plainKeys := false, apart := false, narrowed := true }
def RegisterKeepsUptoSaid : Prop := registerKeepsUptoRow.holds Try.pinned (OpenSpec.upto registerKeepsSpec)

end Rows
end Go.Proofs.Yteoimpagdgnkbaa
