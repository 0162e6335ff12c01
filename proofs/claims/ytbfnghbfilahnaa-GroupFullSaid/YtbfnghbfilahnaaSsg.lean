/-
  What laid blocks, and drew.
-/
import Derived.Test.YtbfnghbfilahnaaRow
import Derived.Test.YtbfnghbfilahnaaInts
import Derived.Sort.Grow
namespace Go.Proofs.Ytbfnghbfilahnaa
open Go.RowKit
namespace Num
set_option linter.unusedSimpArgs false
set_option linter.unusedVariables false
/-- What laid blocks, and drew. -/
def Gr (w w' : World) : Prop := ∃ q os', w' = Sort.grow (w.drewN q) os'
theorem gr_refl (w : World) : Gr w w := ⟨0, #[], by rw [Sort.grow_empty]; rfl⟩
theorem gr_alloc {w x : World} (h : Gr w x) (o : Obj) : Gr w (x.alloc o) := by
  obtain ⟨q, os, rfl⟩ := h
  exact ⟨q, os ++ #[o], by rw [Sort.alloc_eq_grow, Sort.grow_grow]⟩
theorem gr_drew {w x : World} (h : Gr w x) : Gr w x.drew := by
  obtain ⟨q, os, rfl⟩ := h
  exact ⟨q + 1, os, rfl⟩
theorem gr_trans {w x y : World} (h : Gr w x) (k : Gr x y) : Gr w y := by
  obtain ⟨q, os, rfl⟩ := h
  obtain ⟨q', os', rfl⟩ := k
  refine ⟨q + q', os ++ os', ?_⟩
  rw [← Sort.grow_grow]
  show Sort.grow { w with heap := w.heap ++ os, drawn := _ } os' = Sort.grow { w with heap := w.heap ++ os, drawn := _ } os'
  congr 2
  show w.drawn + q + q' = w.drawn + (q + q')
  omega
theorem gr_below {w x : World} (h : Gr w x) : Below w.heap.size w x := by
  obtain ⟨q, os, rfl⟩ := h
  refine ⟨rfl, rfl, rfl, ?_, fun k hk => ?_⟩
  · show w.heap.size ≤ (w.heap ++ os).size
    rw [Array.size_append]; omega
  · show (w.heap ++ os)[k]? = w.heap[k]?
    rw [Array.getElem?_append_left hk]
end Num
end Go.Proofs.Ytbfnghbfilahnaa
