/-
  Five cells stored over, in a row.
-/
import Derived.Test.YtijfgmhdkflfmaaRow
namespace Go.Proofs.Ytijfgmhdkflfmaa
open Go.RowKit
namespace Num
set_option linter.unusedSimpArgs false
set_option linter.unusedVariables false
def set5 (w : World) (g o : Nat) (u0 u1 u2 u3 u4 : Value) : World := ((((w.setCell ⟨g, o, none⟩ u0).setCell ⟨g, o + 1, none⟩ u1).setCell ⟨g, o + 2, none⟩ u2).setCell ⟨g, o + 3, none⟩ u3).setCell ⟨g, o + 4, none⟩ u4
theorem set5_other {w : World} {g o b : Nat} {u0 u1 u2 u3 u4 : Value} (h : b ≠ g) : (set5 w g o u0 u1 u2 u3 u4).heap[b]? = w.heap[b]? := by
  unfold set5
  iterate 5 rw [Below.heap_setCell _ _ _ _ (by exact h)]
theorem set5_size (w : World) (g o : Nat) (u0 u1 u2 u3 u4 : Value) : (set5 w g o u0 u1 u2 u3 u4).heap.size = w.heap.size := by
  unfold set5
  simp [World.setCell]
theorem set5_same {w : World} {g o : Nat} {v0 v1 v2 v3 v4 : Value} (u0 u1 u2 u3 u4 : Value) (d0 : w.cell? ⟨g, o, none⟩ = some v0) (d1 : w.cell? ⟨g, o + 1, none⟩ = some v1) (d2 : w.cell? ⟨g, o + 2, none⟩ = some v2) (d3 : w.cell? ⟨g, o + 3, none⟩ = some v3) (d4 : w.cell? ⟨g, o + 4, none⟩ = some v4) :
    (set5 w g o u0 u1 u2 u3 u4).cell? ⟨g, o, none⟩ = some u0 ∧ (set5 w g o u0 u1 u2 u3 u4).cell? ⟨g, o + 1, none⟩ = some u1 ∧ (set5 w g o u0 u1 u2 u3 u4).cell? ⟨g, o + 2, none⟩ = some u2 ∧ (set5 w g o u0 u1 u2 u3 u4).cell? ⟨g, o + 3, none⟩ = some u3 ∧ (set5 w g o u0 u1 u2 u3 u4).cell? ⟨g, o + 4, none⟩ = some u4 := by
  unfold set5
  refine ⟨?_, ?_, ?_, ?_, ?_⟩ <;> simp [World.cell?_setCell_same, World.cell?_setCell_other, d0, d1, d2, d3, d4]
theorem set5_cell {w : World} {g o i : Nat} {u0 u1 u2 u3 u4 : Value} (h : i < o ∨ o + 5 ≤ i) : (set5 w g o u0 u1 u2 u3 u4).cell? ⟨g, i, none⟩ = w.cell? ⟨g, i, none⟩ := by
  unfold set5
  have e0 : (⟨g, i, none⟩ : Addr) ≠ ⟨g, o, none⟩ := fun e => by injection e with _ e; omega
  have e1 : (⟨g, i, none⟩ : Addr) ≠ ⟨g, o + 1, none⟩ := fun e => by injection e with _ e; omega
  have e2 : (⟨g, i, none⟩ : Addr) ≠ ⟨g, o + 2, none⟩ := fun e => by injection e with _ e; omega
  have e3 : (⟨g, i, none⟩ : Addr) ≠ ⟨g, o + 3, none⟩ := fun e => by injection e with _ e; omega
  have e4 : (⟨g, i, none⟩ : Addr) ≠ ⟨g, o + 4, none⟩ := fun e => by injection e with _ e; omega
  have n0 : ¬ i = o := by omega
  have n1 : ¬ i = o + 1 := by omega
  have n2 : ¬ i = o + 2 := by omega
  have n3 : ¬ i = o + 3 := by omega
  have n4 : ¬ i = o + 4 := by omega
  simp [World.cell?_setCell_other, e0, e1, e2, e3, e4, n0, n1, n2, n3, n4]
theorem set5_below {W w : World} {B g o : Nat} (h : Below B W w) (hg : B ≤ g) (u0 u1 u2 u3 u4 : Value) : Below B W (set5 w g o u0 u1 u2 u3 u4) :=
  ((((h.setCell (p := ⟨g, o, none⟩) hg u0).setCell (p := ⟨g, o + 1, none⟩) hg u1).setCell (p := ⟨g, o + 2, none⟩) hg u2).setCell (p := ⟨g, o + 3, none⟩) hg u3).setCell (p := ⟨g, o + 4, none⟩) hg u4
theorem alloc_cell {w : World} {g i : Nat} (h : g < w.heap.size) (ob : Obj) : (w.alloc ob).cell? ⟨g, i, none⟩ = w.cell? ⟨g, i, none⟩ := by
  unfold World.cell?
  rw [Below.heap_alloc w ob g h]
end Num
end Go.Proofs.Ytijfgmhdkflfmaa
