/-
  NARROWER THAN 'FOR EVERY INPUT', by the rows' own cells (each row's printed sentence says how): DedupPlays: loops.
  DERIVED. THE GIVEN ROWS OF THIS SEAT. 3 by the template 'for every input the law returns true; each argument reads behind the call as it read before'; 0 by the template 'total and deterministic' (their statements: YtijfgmhdkflfmaaTotals.lean).
  GIVEN WITH THE SEED: the statements are not yours to turn. If you find one false, say at which input.
  Laid BY PROGRAM, IN A SANDBOX (cutbox-rows.mjs): the forced cells as the released guide's own fill.sh prints them over the translation b7bfb4234b015f14… (all of the seat's roots in one cut). By AI agents, Wed Nov 11 2026. No macro, syntax, notation, axiom, sorry.
-/
import Derived.Test.YtijfgmhdkflfmaaChecked
import GoSem.Claim
import GoSem.ClaimJoined
import GoSem.ClaimMapViews
import Derived.JoinedTies
import Derived.KernelRfl
namespace Go.Proofs.Ytijfgmhdkflfmaa
/- THE CELL 'sum', in the pinned program and in every row, IS THE sha256 OF THE DUMP (.gsa) THAT YtijfgmhdkflfmaaProg.lean LOADS. Nothing in Lean hashes anything: it is a label: what it is worth is what the hold of that sum in a sandbox is worth. -/
noncomputable def Try.pinned : Pinned := { name := "ytijfgmhdkflfmaa", sum := "b7bfb4234b015f14640ddffaa8f7b7cfe7f6bd36a4797c97f717c0e604c2c82a", checked := Try.checked }
namespace Rows
def none {H : Type} : Left H := { results := [], args := [] }

/-- 'choirlaw16.DedupPlays': WHATEVER THE INPUT: true; the input reads as it did. -/
def dedupPlaysSpec : ChangeSpec := { name := "dedupPlays", fn := fun _ => fun
  | [d] => { results := [.lit (.bool true)], args := [d] }
  | _ => none }
def dedupPlaysRow : OpenClaim := { program := "ytijfgmhdkflfmaa", sum := "b7bfb4234b015f14640ddffaa8f7b7cfe7f6bd36a4797c97f717c0e604c2c82a", func := "choir/choirlaw16.DedupPlays", spec := "dedupPlays", inPlace := ["math.Float64frombits", "slices.overlaps[choir/dedup.call]", "math.Float64bits"], unfollowed := true, recurses := true, loops := true, plainKeys := false, apart := false }
def DedupPlaysSaid : Prop := dedupPlaysRow.holds Try.pinned (OpenSpec.ofChange dedupPlaysSpec)

/-- ITS FALSE NEIGHBOUR: 'it returns false'. Refute it at one input. -/
def dedupPlaysWrong : ChangeSpec := { name := "dedupPlays", fn := fun _ => fun
  | [d] => { results := [.lit (.bool false)], args := [d] }
  | _ => none }
def DedupPlaysWrongFalsely : Prop := dedupPlaysRow.holds Try.pinned (OpenSpec.ofChange dedupPlaysWrong)

/-- 'choirlaw16.DedupOld': WHATEVER THE INPUT: true; the input reads as it did. -/
def dedupOldSpec : ChangeSpec := { name := "dedupOld", fn := fun _ => fun
  | [d1, d2, d3] => { results := [.lit (.bool true)], args := [d1, d2, d3] }
  | _ => none }
def dedupOldRow : OpenClaim := { program := "ytijfgmhdkflfmaa", sum := "b7bfb4234b015f14640ddffaa8f7b7cfe7f6bd36a4797c97f717c0e604c2c82a", func := "choir/choirlaw16.DedupOld", spec := "dedupOld", inPlace := ["math.Float64frombits", "slices.overlaps[choir/dedup.call]"], unfollowed := true, recurses := true, plainKeys := false, apart := false }
def DedupOldSaid : Prop := dedupOldRow.holds Try.pinned (OpenSpec.ofChange dedupOldSpec)

/-- ITS FALSE NEIGHBOUR: 'it returns false'. Refute it at one input. -/
def dedupOldWrong : ChangeSpec := { name := "dedupOld", fn := fun _ => fun
  | [d1, d2, d3] => { results := [.lit (.bool false)], args := [d1, d2, d3] }
  | _ => none }
def DedupOldWrongFalsely : Prop := dedupOldRow.holds Try.pinned (OpenSpec.ofChange dedupOldWrong)

/-- 'choirlaw16.DedupApart': WHATEVER THE INPUT: true; the input reads as it did. -/
def dedupApartSpec : ChangeSpec := { name := "dedupApart", fn := fun _ => fun
  | [d1, d2] => { results := [.lit (.bool true)], args := [d1, d2] }
  | _ => none }
def dedupApartRow : OpenClaim := { program := "ytijfgmhdkflfmaa", sum := "b7bfb4234b015f14640ddffaa8f7b7cfe7f6bd36a4797c97f717c0e604c2c82a", func := "choir/choirlaw16.DedupApart", spec := "dedupApart", inPlace := ["math.Float64frombits", "slices.overlaps[choir/dedup.call]"], unfollowed := true, recurses := true, plainKeys := false, apart := false }
def DedupApartSaid : Prop := dedupApartRow.holds Try.pinned (OpenSpec.ofChange dedupApartSpec)

/-- ITS FALSE NEIGHBOUR: 'it returns false'. Refute it at one input. -/
def dedupApartWrong : ChangeSpec := { name := "dedupApart", fn := fun _ => fun
  | [d1, d2] => { results := [.lit (.bool false)], args := [d1, d2] }
  | _ => none }
def DedupApartWrongFalsely : Prop := dedupApartRow.holds Try.pinned (OpenSpec.ofChange dedupApartWrong)

/- THE SECOND FORM. 'bulk': how many values and letters a reading holds, each counted each time it is reached (what is shared counts as often as it is met; a slice's spare places count too). A statement '..UptoSaid' is the law's where the arguments, and the package variables that the reading takes, are together of bulk at most 1048576: NARROWER than '..Said'. Prove '..Said' where nothing that the law and all that it calls make is longer than what came in: it says more and counts as full. Else prove '..UptoSaid'. A law counts once. -/
mutual
def uptoBulk {H : Type} : DataW H → Nat
  | .lit (.string bytes) => bytes.length + 1
  | .lit _ => 1
  | .nil => 1
  | .ptr d => uptoBulk d + 1
  | .slice elems spare => uptoBulkAll elems + uptoBulkAll spare + 1
  | .agg parts => uptoBulkAll parts + 1
  | .iface _ d => uptoBulk d + 1
  | .map entries => uptoBulkEntries entries + 1
  | .held _ => 1
def uptoBulkAll {H : Type} : List (DataW H) → Nat
  | [] => 0
  | d :: r => uptoBulk d + uptoBulkAll r
def uptoBulkEntries {H : Type} : List (Lit × DataW H) → Nat
  | [] => 0
  | x :: r => uptoBulkEntry x + uptoBulkEntries r
def uptoBulkEntry {H : Type} : Lit × DataW H → Nat
  | (.string bytes, d) => bytes.length + uptoBulk d + 1
  | (_, d) => uptoBulk d + 1
 end
def uptoSmall : (H : Type) → List (DataW H) → Bool := fun _ ds => decide (uptoBulkAll ds ≤ 1048576)
def OpenSpec.upto (s : _root_.Go.ChangeSpec) : _root_.Go.OpenSpec := { _root_.Go.OpenSpec.ofChange s with cond := some uptoSmall }

/-- 'choirlaw16.DedupPlays', WHERE WHAT IT READS IS OF BULK AT MOST 1048576: true; the input reads as it did. -/
def dedupPlaysUptoRow : OpenClaim := { program := "ytijfgmhdkflfmaa", sum := "b7bfb4234b015f14640ddffaa8f7b7cfe7f6bd36a4797c97f717c0e604c2c82a", func := "choir/choirlaw16.DedupPlays", spec := "dedupPlays", inPlace := ["math.Float64frombits", "slices.overlaps[choir/dedup.call]", "math.Float64bits"], unfollowed := true, recurses := true, loops := true, plainKeys := false, apart := false, narrowed := true }
def DedupPlaysUptoSaid : Prop := dedupPlaysUptoRow.holds Try.pinned (OpenSpec.upto dedupPlaysSpec)

/-- 'choirlaw16.DedupOld', WHERE WHAT IT READS IS OF BULK AT MOST 1048576: true; the input reads as it did. -/
def dedupOldUptoRow : OpenClaim := { program := "ytijfgmhdkflfmaa", sum := "b7bfb4234b015f14640ddffaa8f7b7cfe7f6bd36a4797c97f717c0e604c2c82a", func := "choir/choirlaw16.DedupOld", spec := "dedupOld", inPlace := ["math.Float64frombits", "slices.overlaps[choir/dedup.call]"], unfollowed := true, recurses := true, plainKeys := false, apart := false, narrowed := true }
def DedupOldUptoSaid : Prop := dedupOldUptoRow.holds Try.pinned (OpenSpec.upto dedupOldSpec)

/-- 'choirlaw16.DedupApart', WHERE WHAT IT READS IS OF BULK AT MOST 1048576: true; the input reads as it did. -/
def dedupApartUptoRow : OpenClaim := { program := "ytijfgmhdkflfmaa", sum := "b7bfb4234b015f14640ddffaa8f7b7cfe7f6bd36a4797c97f717c0e604c2c82a", func := "choir/choirlaw16.DedupApart", spec := "dedupApart", inPlace := ["math.Float64frombits", "slices.overlaps[choir/dedup.call]"], unfollowed := true, recurses := true, plainKeys := false, apart := false, narrowed := true }
def DedupApartUptoSaid : Prop := dedupApartUptoRow.holds Try.pinned (OpenSpec.upto dedupApartSpec)

end Rows
end Go.Proofs.Ytijfgmhdkflfmaa
