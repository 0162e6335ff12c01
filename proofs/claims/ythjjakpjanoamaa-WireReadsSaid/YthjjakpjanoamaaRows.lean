/-
  NARROWER THAN 'FOR EVERY INPUT', by the rows' own cells (each row's printed sentence says how): WireReads: loops · WireTogether: loops.
  DERIVED. THE GIVEN ROWS OF THIS SEAT. 8 by the template 'for every input the law returns true; each argument reads behind the call as it read before'; 0 by the template 'total and deterministic' (their statements: YthjjakpjanoamaaTotals.lean).
  GIVEN WITH THE SEED: the statements are not yours to turn. If you find one false, say at which input.
  Laid BY PROGRAM, IN A SANDBOX (cutbox-rows.mjs): the forced cells as the released guide's own fill.sh prints them over the translation a90015dc83330c66… (all of the seat's roots in one cut). By AI agents, Wed Nov 11 2026. No macro, syntax, notation, axiom, sorry.
-/
import Derived.Test.YthjjakpjanoamaaChecked
import GoSem.Claim
import GoSem.ClaimJoined
import GoSem.ClaimMapViews
import Derived.JoinedTies
import Derived.KernelRfl
namespace Go.Proofs.Ythjjakpjanoamaa
/- THE CELL 'sum', in the pinned program and in every row, IS THE sha256 OF THE DUMP (.gsa) THAT YthjjakpjanoamaaProg.lean LOADS. Nothing in Lean hashes anything: it is a label: what it is worth is what the hold of that sum in a sandbox is worth. -/
noncomputable def Try.pinned : Pinned := { name := "ythjjakpjanoamaa", sum := "a90015dc83330c662f0d5674bfd81b620cf5f1449ac4f6a2abd53dc5fc4d1242", checked := Try.checked }
namespace Rows
def none {H : Type} : Left H := { results := [], args := [] }

/-- 'choirlaw3.WireReads': WHATEVER THE INPUT: true; the input reads as it did. -/
def wireReadsSpec : ChangeSpec := { name := "wireReads", fn := fun _ => fun
  | [d1, d2, d3, d4, d5] => { results := [.lit (.bool true)], args := [d1, d2, d3, d4, d5] }
  | _ => none }
def wireReadsRow : OpenClaim := { program := "ythjjakpjanoamaa", sum := "a90015dc83330c662f0d5674bfd81b620cf5f1449ac4f6a2abd53dc5fc4d1242", func := "choir/choirlaw3.WireReads", spec := "wireReads", inPlace := ["math.Float64frombits", "math.Float64bits"], recurses := true, loops := true, plainKeys := false, apart := false }
def WireReadsSaid : Prop := wireReadsRow.holds Try.pinned (OpenSpec.ofChange wireReadsSpec)

/-- ITS FALSE NEIGHBOUR: 'it returns false'. Refute it at one input. -/
def wireReadsWrong : ChangeSpec := { name := "wireReads", fn := fun _ => fun
  | [d1, d2, d3, d4, d5] => { results := [.lit (.bool false)], args := [d1, d2, d3, d4, d5] }
  | _ => none }
def WireReadsWrongFalsely : Prop := wireReadsRow.holds Try.pinned (OpenSpec.ofChange wireReadsWrong)

/-- 'choirlaw3.WireTogether': WHATEVER THE INPUT: true; the input reads as it did. -/
def wireTogetherSpec : ChangeSpec := { name := "wireTogether", fn := fun _ => fun
  | [d] => { results := [.lit (.bool true)], args := [d] }
  | _ => none }
def wireTogetherRow : OpenClaim := { program := "ythjjakpjanoamaa", sum := "a90015dc83330c662f0d5674bfd81b620cf5f1449ac4f6a2abd53dc5fc4d1242", func := "choir/choirlaw3.WireTogether", spec := "wireTogether", inPlace := ["math.Float64frombits", "math.Float64bits"], recurses := true, loops := true, plainKeys := false, apart := false }
def WireTogetherSaid : Prop := wireTogetherRow.holds Try.pinned (OpenSpec.ofChange wireTogetherSpec)

/-- ITS FALSE NEIGHBOUR: 'it returns false'. Refute it at one input. -/
def wireTogetherWrong : ChangeSpec := { name := "wireTogether", fn := fun _ => fun
  | [d] => { results := [.lit (.bool false)], args := [d] }
  | _ => none }
def WireTogetherWrongFalsely : Prop := wireTogetherRow.holds Try.pinned (OpenSpec.ofChange wireTogetherWrong)

/-- 'choirlaw4.FrameBack': WHATEVER THE INPUT: true; the input reads as it did. -/
def frameBackSpec : ChangeSpec := { name := "frameBack", fn := fun _ => fun
  | [d1, d2, d3] => { results := [.lit (.bool true)], args := [d1, d2, d3] }
  | _ => none }
def frameBackRow : OpenClaim := { program := "ythjjakpjanoamaa", sum := "a90015dc83330c662f0d5674bfd81b620cf5f1449ac4f6a2abd53dc5fc4d1242", func := "choir/choirlaw4.FrameBack", spec := "frameBack", plainKeys := false, apart := false }
def FrameBackSaid : Prop := frameBackRow.holds Try.pinned (OpenSpec.ofChange frameBackSpec)

/-- ITS FALSE NEIGHBOUR: 'it returns false'. Refute it at one input. -/
def frameBackWrong : ChangeSpec := { name := "frameBack", fn := fun _ => fun
  | [d1, d2, d3] => { results := [.lit (.bool false)], args := [d1, d2, d3] }
  | _ => none }
def FrameBackWrongFalsely : Prop := frameBackRow.holds Try.pinned (OpenSpec.ofChange frameBackWrong)

/-- 'choirlaw4.FrameReads': WHATEVER THE INPUT: true; the input reads as it did. -/
def frameReadsSpec : ChangeSpec := { name := "frameReads", fn := fun _ => fun
  | [d1, d2, d3, d4, d5] => { results := [.lit (.bool true)], args := [d1, d2, d3, d4, d5] }
  | _ => none }
def frameReadsRow : OpenClaim := { program := "ythjjakpjanoamaa", sum := "a90015dc83330c662f0d5674bfd81b620cf5f1449ac4f6a2abd53dc5fc4d1242", func := "choir/choirlaw4.FrameReads", spec := "frameReads", plainKeys := false, apart := false }
def FrameReadsSaid : Prop := frameReadsRow.holds Try.pinned (OpenSpec.ofChange frameReadsSpec)

/-- ITS FALSE NEIGHBOUR: 'it returns false'. Refute it at one input. -/
def frameReadsWrong : ChangeSpec := { name := "frameReads", fn := fun _ => fun
  | [d1, d2, d3, d4, d5] => { results := [.lit (.bool false)], args := [d1, d2, d3, d4, d5] }
  | _ => none }
def FrameReadsWrongFalsely : Prop := frameReadsRow.holds Try.pinned (OpenSpec.ofChange frameReadsWrong)

/-- 'choirlaw4.FrameTurned': WHATEVER THE INPUT: true; the input reads as it did. -/
def frameTurnedSpec : ChangeSpec := { name := "frameTurned", fn := fun _ => fun
  | [d1, d2, d3] => { results := [.lit (.bool true)], args := [d1, d2, d3] }
  | _ => none }
def frameTurnedRow : OpenClaim := { program := "ythjjakpjanoamaa", sum := "a90015dc83330c662f0d5674bfd81b620cf5f1449ac4f6a2abd53dc5fc4d1242", func := "choir/choirlaw4.FrameTurned", spec := "frameTurned", plainKeys := false, apart := false }
def FrameTurnedSaid : Prop := frameTurnedRow.holds Try.pinned (OpenSpec.ofChange frameTurnedSpec)

/-- ITS FALSE NEIGHBOUR: 'it returns false'. Refute it at one input. -/
def frameTurnedWrong : ChangeSpec := { name := "frameTurned", fn := fun _ => fun
  | [d1, d2, d3] => { results := [.lit (.bool false)], args := [d1, d2, d3] }
  | _ => none }
def FrameTurnedWrongFalsely : Prop := frameTurnedRow.holds Try.pinned (OpenSpec.ofChange frameTurnedWrong)

/-- 'choirlaw4.FrameScans': WHATEVER THE INPUT: true; the input reads as it did. -/
def frameScansSpec : ChangeSpec := { name := "frameScans", fn := fun _ => fun
  | [d1, d2, d3, d4] => { results := [.lit (.bool true)], args := [d1, d2, d3, d4] }
  | _ => none }
def frameScansRow : OpenClaim := { program := "ythjjakpjanoamaa", sum := "a90015dc83330c662f0d5674bfd81b620cf5f1449ac4f6a2abd53dc5fc4d1242", func := "choir/choirlaw4.FrameScans", spec := "frameScans", plainKeys := false, apart := false }
def FrameScansSaid : Prop := frameScansRow.holds Try.pinned (OpenSpec.ofChange frameScansSpec)

/-- ITS FALSE NEIGHBOUR: 'it returns false'. Refute it at one input. -/
def frameScansWrong : ChangeSpec := { name := "frameScans", fn := fun _ => fun
  | [d1, d2, d3, d4] => { results := [.lit (.bool false)], args := [d1, d2, d3, d4] }
  | _ => none }
def FrameScansWrongFalsely : Prop := frameScansRow.holds Try.pinned (OpenSpec.ofChange frameScansWrong)

/-- 'choirlaw4.FrameSums': WHATEVER THE INPUT: true; the input reads as it did. -/
def frameSumsSpec : ChangeSpec := { name := "frameSums", fn := fun _ => fun
  | [d1, d2, d3] => { results := [.lit (.bool true)], args := [d1, d2, d3] }
  | _ => none }
def frameSumsRow : OpenClaim := { program := "ythjjakpjanoamaa", sum := "a90015dc83330c662f0d5674bfd81b620cf5f1449ac4f6a2abd53dc5fc4d1242", func := "choir/choirlaw4.FrameSums", spec := "frameSums", plainKeys := false, apart := false }
def FrameSumsSaid : Prop := frameSumsRow.holds Try.pinned (OpenSpec.ofChange frameSumsSpec)

/-- ITS FALSE NEIGHBOUR: 'it returns false'. Refute it at one input. -/
def frameSumsWrong : ChangeSpec := { name := "frameSums", fn := fun _ => fun
  | [d1, d2, d3] => { results := [.lit (.bool false)], args := [d1, d2, d3] }
  | _ => none }
def FrameSumsWrongFalsely : Prop := frameSumsRow.holds Try.pinned (OpenSpec.ofChange frameSumsWrong)

/-- 'choirlaw4.FrameGreat': WHATEVER THE INPUT: true; the input reads as it did. -/
def frameGreatSpec : ChangeSpec := { name := "frameGreat", fn := fun _ => fun
  | [d] => { results := [.lit (.bool true)], args := [d] }
  | _ => none }
def frameGreatRow : OpenClaim := { program := "ythjjakpjanoamaa", sum := "a90015dc83330c662f0d5674bfd81b620cf5f1449ac4f6a2abd53dc5fc4d1242", func := "choir/choirlaw4.FrameGreat", spec := "frameGreat", plainKeys := false, apart := false }
def FrameGreatSaid : Prop := frameGreatRow.holds Try.pinned (OpenSpec.ofChange frameGreatSpec)

/-- ITS FALSE NEIGHBOUR: 'it returns false'. Refute it at one input. -/
def frameGreatWrong : ChangeSpec := { name := "frameGreat", fn := fun _ => fun
  | [d] => { results := [.lit (.bool false)], args := [d] }
  | _ => none }
def FrameGreatWrongFalsely : Prop := frameGreatRow.holds Try.pinned (OpenSpec.ofChange frameGreatWrong)

/- THE SECOND FORM. 'bulk': how many values and letters a reading holds, each counted each time it is reached (what is shared counts as often as it is met; a slice's spare places count too). A statement '..UptoSaid' is the law's where the arguments, and the package variables that the reading takes, are together of bulk at most 1048576: NARROWER than '..Said'. Prove '..Said' where nothing that the law and all that it calls make is longer than what came in: it says more and counts as full. Else prove '..UptoSaid'. A law counts once. -/
mutual
def uptoBulk {H : Type} : DataW H → Nat
  | .lit (.string bytes) => bytes.length + 1
  | .lit _ => 1
  | .nil => 1
  | .ptr d => uptoBulk d + 1
  | .slice elems spare => uptoBulkAll elems + uptoBulkAll spare + 1
  | .agg parts => uptoBulkAll parts + 1
  | .iface _ d => uptoBulk d + 1
  | .map entries => uptoBulkEntries entries + 1
  | .held _ => 1
def uptoBulkAll {H : Type} : List (DataW H) → Nat
  | [] => 0
  | d :: r => uptoBulk d + uptoBulkAll r
def uptoBulkEntries {H : Type} : List (Lit × DataW H) → Nat
  | [] => 0
  | x :: r => uptoBulkEntry x + uptoBulkEntries r
def uptoBulkEntry {H : Type} : Lit × DataW H → Nat
  | (.string bytes, d) => bytes.length + uptoBulk d + 1
  | (_, d) => uptoBulk d + 1
 end
def uptoSmall : (H : Type) → List (DataW H) → Bool := fun _ ds => decide (uptoBulkAll ds ≤ 1048576)
def OpenSpec.upto (s : _root_.Go.ChangeSpec) : _root_.Go.OpenSpec := { _root_.Go.OpenSpec.ofChange s with cond := some uptoSmall }

/-- 'choirlaw3.WireReads', WHERE WHAT IT READS IS OF BULK AT MOST 1048576: true; the input reads as it did. -/
def wireReadsUptoRow : OpenClaim := { program := "ythjjakpjanoamaa", sum := "a90015dc83330c662f0d5674bfd81b620cf5f1449ac4f6a2abd53dc5fc4d1242", func := "choir/choirlaw3.WireReads", spec := "wireReads", inPlace := ["math.Float64frombits", "math.Float64bits"], recurses := true, loops := true, plainKeys := false, apart := false, narrowed := true }
def WireReadsUptoSaid : Prop := wireReadsUptoRow.holds Try.pinned (OpenSpec.upto wireReadsSpec)

/-- 'choirlaw3.WireTogether', WHERE WHAT IT READS IS OF BULK AT MOST 1048576: true; the input reads as it did. -/
def wireTogetherUptoRow : OpenClaim := { program := "ythjjakpjanoamaa", sum := "a90015dc83330c662f0d5674bfd81b620cf5f1449ac4f6a2abd53dc5fc4d1242", func := "choir/choirlaw3.WireTogether", spec := "wireTogether", inPlace := ["math.Float64frombits", "math.Float64bits"], recurses := true, loops := true, plainKeys := false, apart := false, narrowed := true }
def WireTogetherUptoSaid : Prop := wireTogetherUptoRow.holds Try.pinned (OpenSpec.upto wireTogetherSpec)

/-- 'choirlaw4.FrameBack', WHERE WHAT IT READS IS OF BULK AT MOST 1048576: true; the input reads as it did. -/
def frameBackUptoRow : OpenClaim := { program := "ythjjakpjanoamaa", sum := "a90015dc83330c662f0d5674bfd81b620cf5f1449ac4f6a2abd53dc5fc4d1242", func := "choir/choirlaw4.FrameBack", spec := "frameBack", plainKeys := false, apart := false, narrowed := true }
def FrameBackUptoSaid : Prop := frameBackUptoRow.holds Try.pinned (OpenSpec.upto frameBackSpec)

/-- 'choirlaw4.FrameReads', WHERE WHAT IT READS IS OF BULK AT MOST 1048576: true; the input reads as it did. -/
def frameReadsUptoRow : OpenClaim := { program := "ythjjakpjanoamaa", sum := "a90015dc83330c662f0d5674bfd81b620cf5f1449ac4f6a2abd53dc5fc4d1242", func := "choir/choirlaw4.FrameReads", spec := "frameReads", plainKeys := false, apart := false, narrowed := true }
def FrameReadsUptoSaid : Prop := frameReadsUptoRow.holds Try.pinned (OpenSpec.upto frameReadsSpec)

/-- 'choirlaw4.FrameTurned', WHERE WHAT IT READS IS OF BULK AT MOST 1048576: true; the input reads as it did. -/
def frameTurnedUptoRow : OpenClaim := { program := "ythjjakpjanoamaa", sum := "a90015dc83330c662f0d5674bfd81b620cf5f1449ac4f6a2abd53dc5fc4d1242", func := "choir/choirlaw4.FrameTurned", spec := "frameTurned", plainKeys := false, apart := false, narrowed := true }
def FrameTurnedUptoSaid : Prop := frameTurnedUptoRow.holds Try.pinned (OpenSpec.upto frameTurnedSpec)

/-- 'choirlaw4.FrameScans', WHERE WHAT IT READS IS OF BULK AT MOST 1048576: true; the input reads as it did. -/
def frameScansUptoRow : OpenClaim := { program := "ythjjakpjanoamaa", sum := "a90015dc83330c662f0d5674bfd81b620cf5f1449ac4f6a2abd53dc5fc4d1242", func := "choir/choirlaw4.FrameScans", spec := "frameScans", plainKeys := false, apart := false, narrowed := true }
def FrameScansUptoSaid : Prop := frameScansUptoRow.holds Try.pinned (OpenSpec.upto frameScansSpec)

/-- 'choirlaw4.FrameSums', WHERE WHAT IT READS IS OF BULK AT MOST 1048576: true; the input reads as it did. -/
def frameSumsUptoRow : OpenClaim := { program := "ythjjakpjanoamaa", sum := "a90015dc83330c662f0d5674bfd81b620cf5f1449ac4f6a2abd53dc5fc4d1242", func := "choir/choirlaw4.FrameSums", spec := "frameSums", plainKeys := false, apart := false, narrowed := true }
def FrameSumsUptoSaid : Prop := frameSumsUptoRow.holds Try.pinned (OpenSpec.upto frameSumsSpec)

/-- 'choirlaw4.FrameGreat', WHERE WHAT IT READS IS OF BULK AT MOST 1048576: true; the input reads as it did. -/
def frameGreatUptoRow : OpenClaim := { program := "ythjjakpjanoamaa", sum := "a90015dc83330c662f0d5674bfd81b620cf5f1449ac4f6a2abd53dc5fc4d1242", func := "choir/choirlaw4.FrameGreat", spec := "frameGreat", plainKeys := false, apart := false, narrowed := true }
def FrameGreatUptoSaid : Prop := frameGreatUptoRow.holds Try.pinned (OpenSpec.upto frameGreatSpec)

end Rows
end Go.Proofs.Ythjjakpjanoamaa
