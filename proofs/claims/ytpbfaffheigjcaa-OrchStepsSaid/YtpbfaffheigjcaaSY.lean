/-
  A box stored over as a row; what stays (split off YD).
-/
import Derived.Test.YtpbfaffheigjcaaHQ
import Derived.Test.YtpbfaffheigjcaaQA
namespace Go.Proofs.Ytpbfaffheigjcaa
open Go.RowKit
namespace Num
open Ints
set_option linter.unusedSimpArgs false
set_option linter.unusedVariables false
theorem set5_row {w : World} {b : Nat} {a0 a1 a2 a3 a4 : Value} {t : TypeId} (h : w.heap[b]? = some (.cells #[a0, a1, a2, a3, a4] t (0, 0))) (v0 v1 v2 v3 v4 : Value) :
    (set5 w b 0 v0 v1 v2 v3 v4).heap[b]? = some (.cells #[v0, v1, v2, v3, v4] t (0, 0)) := by
  simp [set5, World.setCell, Array.getElem?_modify, h]
theorem stay_refl (B : Nat) (x : World) : Stay B x x := fun _ _ _ => rfl
theorem stay_trans {B : Nat} {x y z : World} (h : Stay B x y) (hs : x.heap.size ≤ y.heap.size) (hb : Below y.heap.size y z) : Stay B x z := fun b h1 h2 => (hb.block b (Nat.lt_of_lt_of_le h2 hs)).trans (h b h1 h2)
theorem stay_set {B : Nat} {x y : World} (h : Stay B x y) {g : Nat} (hg : g < B) (u0 u1 u2 u3 u4 : Value) : Stay B x (set5 y g 0 u0 u1 u2 u3 u4) := fun b h1 h2 => (set5_other (by omega)).trans (h b h1 h2)
end Num
end Go.Proofs.Ytpbfaffheigjcaa
