/-
  NARROWER THAN 'FOR EVERY INPUT', by the rows' own cells (each row's printed sentence says how): CounterPlays: loops · CounterRaw: loops.
  DERIVED. THE GIVEN ROWS OF THIS SEAT. 4 by the template 'for every input the law returns true; each argument reads behind the call as it read before'; 0 by the template 'total and deterministic' (their statements: YtmhogdigkdcnfaaTotals.lean).
  GIVEN WITH THE SEED: the statements are not yours to turn. If you find one false, say at which input.
  Laid BY PROGRAM, IN A SANDBOX (cutbox-rows.mjs): the forced cells as the released guide's own fill.sh prints them over the translation 39ae1e5ed79d5cbc… (all of the seat's roots in one cut). By AI agents, Wed Nov 11 2026. No macro, syntax, notation, axiom, sorry.
-/
import Derived.Test.YtmhogdigkdcnfaaChecked
import GoSem.Claim
import GoSem.ClaimJoined
import GoSem.ClaimMapViews
import Derived.JoinedTies
import Derived.KernelRfl
namespace Go.Proofs.Ytmhogdigkdcnfaa
/- THE CELL 'sum', in the pinned program and in every row, IS THE sha256 OF THE DUMP (.gsa) THAT YtmhogdigkdcnfaaProg.lean LOADS. Nothing in Lean hashes anything: it is a label: what it is worth is what the hold of that sum in a sandbox is worth. -/
noncomputable def Try.pinned : Pinned := { name := "ytmhogdigkdcnfaa", sum := "39ae1e5ed79d5cbcfc580b8f481c313b126394dcf2e3778eb72bc492a2d8cd06", checked := Try.checked }
namespace Rows
def none {H : Type} : Left H := { results := [], args := [] }

/-- 'choirlaw9.CounterPlays': WHATEVER THE INPUT: true; the input reads as it did. -/
def counterPlaysSpec : ChangeSpec := { name := "counterPlays", fn := fun _ => fun
  | [d] => { results := [.lit (.bool true)], args := [d] }
  | _ => none }
def counterPlaysRow : OpenClaim := { program := "ytmhogdigkdcnfaa", sum := "39ae1e5ed79d5cbcfc580b8f481c313b126394dcf2e3778eb72bc492a2d8cd06", func := "choir/choirlaw9.CounterPlays", spec := "counterPlays", inPlace := ["math.Float64frombits", "math.Float64bits"], unfollowed := true, recurses := true, loops := true, plainKeys := false, apart := false }
def CounterPlaysSaid : Prop := counterPlaysRow.holds Try.pinned (OpenSpec.ofChange counterPlaysSpec)

/-- ITS FALSE NEIGHBOUR: 'it returns false'. Refute it at one input. -/
def counterPlaysWrong : ChangeSpec := { name := "counterPlays", fn := fun _ => fun
  | [d] => { results := [.lit (.bool false)], args := [d] }
  | _ => none }
def CounterPlaysWrongFalsely : Prop := counterPlaysRow.holds Try.pinned (OpenSpec.ofChange counterPlaysWrong)

/-- 'choirlaw9.CounterRaw': WHATEVER THE INPUT: true; the input reads as it did. -/
def counterRawSpec : ChangeSpec := { name := "counterRaw", fn := fun _ => fun
  | [d1, d2, d3] => { results := [.lit (.bool true)], args := [d1, d2, d3] }
  | _ => none }
def counterRawRow : OpenClaim := { program := "ytmhogdigkdcnfaa", sum := "39ae1e5ed79d5cbcfc580b8f481c313b126394dcf2e3778eb72bc492a2d8cd06", func := "choir/choirlaw9.CounterRaw", spec := "counterRaw", inPlace := ["math.Float64frombits", "math.Float64bits"], unfollowed := true, recurses := true, loops := true, plainKeys := false, apart := false }
def CounterRawSaid : Prop := counterRawRow.holds Try.pinned (OpenSpec.ofChange counterRawSpec)

/-- ITS FALSE NEIGHBOUR: 'it returns false'. Refute it at one input. -/
def counterRawWrong : ChangeSpec := { name := "counterRaw", fn := fun _ => fun
  | [d1, d2, d3] => { results := [.lit (.bool false)], args := [d1, d2, d3] }
  | _ => none }
def CounterRawWrongFalsely : Prop := counterRawRow.holds Try.pinned (OpenSpec.ofChange counterRawWrong)

/-- 'choirlaw9.CounterSums': WHATEVER THE INPUT: true; the input reads as it did. -/
def counterSumsSpec : ChangeSpec := { name := "counterSums", fn := fun _ => fun
  | [d] => { results := [.lit (.bool true)], args := [d] }
  | _ => none }
def counterSumsRow : OpenClaim := { program := "ytmhogdigkdcnfaa", sum := "39ae1e5ed79d5cbcfc580b8f481c313b126394dcf2e3778eb72bc492a2d8cd06", func := "choir/choirlaw9.CounterSums", spec := "counterSums", inPlace := ["math.Float64frombits", "math.Float64bits"], unfollowed := true, recurses := true, plainKeys := false, apart := false }
def CounterSumsSaid : Prop := counterSumsRow.holds Try.pinned (OpenSpec.ofChange counterSumsSpec)

/-- ITS FALSE NEIGHBOUR: 'it returns false'. Refute it at one input. -/
def counterSumsWrong : ChangeSpec := { name := "counterSums", fn := fun _ => fun
  | [d] => { results := [.lit (.bool false)], args := [d] }
  | _ => none }
def CounterSumsWrongFalsely : Prop := counterSumsRow.holds Try.pinned (OpenSpec.ofChange counterSumsWrong)

/-- 'choirlaw9.CounterEdges': WHATEVER THE INPUT: true; the input reads as it did. -/
def counterEdgesSpec : ChangeSpec := { name := "counterEdges", fn := fun _ => fun
  | [d1, d2, d3] => { results := [.lit (.bool true)], args := [d1, d2, d3] }
  | _ => none }
def counterEdgesRow : OpenClaim := { program := "ytmhogdigkdcnfaa", sum := "39ae1e5ed79d5cbcfc580b8f481c313b126394dcf2e3778eb72bc492a2d8cd06", func := "choir/choirlaw9.CounterEdges", spec := "counterEdges", inPlace := ["math.Float64frombits", "math.Float64bits"], unfollowed := true, recurses := true, plainKeys := false, apart := false }
def CounterEdgesSaid : Prop := counterEdgesRow.holds Try.pinned (OpenSpec.ofChange counterEdgesSpec)

/-- ITS FALSE NEIGHBOUR: 'it returns false'. Refute it at one input. -/
def counterEdgesWrong : ChangeSpec := { name := "counterEdges", fn := fun _ => fun
  | [d1, d2, d3] => { results := [.lit (.bool false)], args := [d1, d2, d3] }
  | _ => none }
def CounterEdgesWrongFalsely : Prop := counterEdgesRow.holds Try.pinned (OpenSpec.ofChange counterEdgesWrong)

/- THE SECOND FORM. 'bulk': how many values and letters a reading holds, each counted each time it is reached (what is shared counts as often as it is met; a slice's spare places count too). A statement '..UptoSaid' is the law's where the arguments, and the package variables that the reading takes, are together of bulk at most 1048576: NARROWER than '..Said'. Prove '..Said' where nothing that the law and all that it calls make is longer than what came in: it says more and counts as full. Else prove '..UptoSaid'. A law counts once. -/
mutual
def uptoBulk {H : Type} : DataW H → Nat
  | .lit (.string bytes) => bytes.length + 1
  | .lit _ => 1
  | .nil => 1
  | .ptr d => uptoBulk d + 1
  | .slice elems spare => uptoBulkAll elems + uptoBulkAll spare + 1
  | .agg parts => uptoBulkAll parts + 1
  | .iface _ d => uptoBulk d + 1
  | .map entries => uptoBulkEntries entries + 1
  | .held _ => 1
def uptoBulkAll {H : Type} : List (DataW H) → Nat
  | [] => 0
  | d :: r => uptoBulk d + uptoBulkAll r
def uptoBulkEntries {H : Type} : List (Lit × DataW H) → Nat
  | [] => 0
  | x :: r => uptoBulkEntry x + uptoBulkEntries r
def uptoBulkEntry {H : Type} : Lit × DataW H → Nat
  | (.string bytes, d) => bytes.length + uptoBulk d + 1
  | (_, d) => uptoBulk d + 1
 end
def uptoSmall : (H : Type) → List (DataW H) → Bool := fun _ ds => decide (uptoBulkAll ds ≤ 1048576)
def OpenSpec.upto (s : _root_.Go.ChangeSpec) : _root_.Go.OpenSpec := { _root_.Go.OpenSpec.ofChange s with cond := some uptoSmall }

/-- 'choirlaw9.CounterPlays', WHERE WHAT IT READS IS OF BULK AT MOST 1048576: true; the input reads as it did. -/
def counterPlaysUptoRow : OpenClaim := { program := "ytmhogdigkdcnfaa", sum := "39ae1e5ed79d5cbcfc580b8f481c313b126394dcf2e3778eb72bc492a2d8cd06", func := "choir/choirlaw9.CounterPlays", spec := "counterPlays", inPlace := ["math.Float64frombits", "math.Float64bits"], unfollowed := true, recurses := true, loops := true, plainKeys := false, apart := false, narrowed := true }
def CounterPlaysUptoSaid : Prop := counterPlaysUptoRow.holds Try.pinned (OpenSpec.upto counterPlaysSpec)

/-- 'choirlaw9.CounterRaw', WHERE WHAT IT READS IS OF BULK AT MOST 1048576: true; the input reads as it did. -/
def counterRawUptoRow : OpenClaim := { program := "ytmhogdigkdcnfaa", sum := "39ae1e5ed79d5cbcfc580b8f481c313b126394dcf2e3778eb72bc492a2d8cd06", func := "choir/choirlaw9.CounterRaw", spec := "counterRaw", inPlace := ["math.Float64frombits", "math.Float64bits"], unfollowed := true, recurses := true, loops := true, plainKeys := false, apart := false, narrowed := true }
def CounterRawUptoSaid : Prop := counterRawUptoRow.holds Try.pinned (OpenSpec.upto counterRawSpec)

/-- 'choirlaw9.CounterSums', WHERE WHAT IT READS IS OF BULK AT MOST 1048576: true; the input reads as it did. -/
def counterSumsUptoRow : OpenClaim := { program := "ytmhogdigkdcnfaa", sum := "39ae1e5ed79d5cbcfc580b8f481c313b126394dcf2e3778eb72bc492a2d8cd06", func := "choir/choirlaw9.CounterSums", spec := "counterSums", inPlace := ["math.Float64frombits", "math.Float64bits"], unfollowed := true, recurses := true, plainKeys := false, apart := false, narrowed := true }
def CounterSumsUptoSaid : Prop := counterSumsUptoRow.holds Try.pinned (OpenSpec.upto counterSumsSpec)

/-- 'choirlaw9.CounterEdges', WHERE WHAT IT READS IS OF BULK AT MOST 1048576: true; the input reads as it did. -/
def counterEdgesUptoRow : OpenClaim := { program := "ytmhogdigkdcnfaa", sum := "39ae1e5ed79d5cbcfc580b8f481c313b126394dcf2e3778eb72bc492a2d8cd06", func := "choir/choirlaw9.CounterEdges", spec := "counterEdges", inPlace := ["math.Float64frombits", "math.Float64bits"], unfollowed := true, recurses := true, plainKeys := false, apart := false, narrowed := true }
def CounterEdgesUptoSaid : Prop := counterEdgesUptoRow.holds Try.pinned (OpenSpec.upto counterEdgesSpec)

end Rows
end Go.Proofs.Ytmhogdigkdcnfaa
