/-
  What package table's put keeps in memory.
-/
import Derived.Test.YtamogpbbaihaaaaQF
namespace Go.Proofs.Ytamogpbbaihaaaa
open Go.RowKit
namespace Num
open Ints
set_option linter.unusedSimpArgs false
set_option linter.unusedVariables false
/-- A list of two values, a list of one, in a block of its own. -/
theorem row2_rep {x : World} {n g : Nat} {u0 u1 u2 u3 u4 v0 v1 v2 v3 v4 : Value} {A B : VT (n + 1)} (h : x.heap[g]? = some (.cells #[u0, u1, u2, u3, u4, v0, v1, v2, v3, v4] 27 (0, 0))) (ha : Rep x (n + 1) (.agg #[u0, u1, u2, u3, u4]) A) (hb : Rep x (n + 1) (.agg #[v0, v1, v2, v3, v4]) B) :
    RepL x (Rep x (n + 1)) (some ⟨g, 0, none⟩) 2 2 [A, B] := by
  refine ⟨rfl, Nat.le_refl _, by unfold maxLen; omega, fun _ => ⟨g, 0, rfl, fun i hi => ?_⟩⟩
  have hi' : i = 0 ∨ i = 1 := by simp at hi; omega
  rcases hi' with rfl | rfl
  · exact ⟨_, _, _, _, _, row_cell h 0, row_cell h 1, row_cell h 2, row_cell h 3, row_cell h 4, ha⟩
  · exact ⟨_, _, _, _, _, row_cell h 5, row_cell h 6, row_cell h 7, row_cell h 8, row_cell h 9, hb⟩
theorem row1_rep {α : Type} {R : Value → α → Prop} {x : World} {g : Nat} {u0 u1 u2 u3 u4 : Value} {A : α} (h : x.heap[g]? = some (.cells #[u0, u1, u2, u3, u4] 27 (0, 0))) (ha : R (.agg #[u0, u1, u2, u3, u4]) A) :
    RepL x R (some ⟨g, 0, none⟩) 1 1 [A] := by
  refine ⟨rfl, Nat.le_refl _, by unfold maxLen; omega, fun _ => ⟨g, 0, rfl, fun i hi => ?_⟩⟩
  have hi' : i = 0 := by simp at hi; omega
  subst hi'
  exact ⟨_, _, _, _, _, row_cell h 0, row_cell h 1, row_cell h 2, row_cell h 3, row_cell h 4, ha⟩
theorem list_rep {x : World} {n : Nat} {p : Option Addr} {l c : Nat} {L : List (VT n)} (h : RepL x (Rep x n) p l c L) : Rep x (n + 1) (.agg #[.int .i64 4, .int .i64 0, .float .f64 0, .string ⟨#[]⟩, .slice p l c]) (4, 0, 0, ⟨#[]⟩, L) :=
  ⟨p, l, c, rfl, (by decide : okI 4), (by decide : okI 0), (by decide : (0 : Nat) < 2 ^ 64), (by decide : (⟨#[]⟩ : ByteArray).size ≤ maxLen), h⟩
/-- An old entry, or the new one, in block ge. -/
def RQ (n ge : Nat) (k : ByteArray) (V : VT (n + 1)) (w : World) : Value → VT (n + 2) → Prop := fun v T => Rep w (n + 2) v T ∨ (v = .agg #[.int .i64 4, .int .i64 0, .float .f64 0, .string ⟨#[]⟩, .slice (some ⟨ge, 0, none⟩) 2 2] ∧ T = pairT n k V)
theorem rq_one (n ge : Nat) (k : ByteArray) (V : VT (n + 1)) (w : World) : One5 (RQ n ge k V w) := by
  intro u0 u1 u2 u3 u4 T h
  rcases h with h | ⟨h, _⟩
  · exact rep_one w (n + 2) _ _ _ _ _ _ h
  · injection h with h
    simp only [Array.mk.injEq, List.cons.injEq, and_true] at h
    obtain ⟨rfl, rfl, rfl, rfl, rfl⟩ := h
    exact ⟨rfl, rfl, rfl, rfl, rfl⟩
theorem rq_rep {n ge : Nat} {k : ByteArray} {V : VT (n + 1)} {w y : World} {u0 u1 u2 u3 u4 v0 v1 v2 v3 v4 : Value} (hb : Below w.heap.size w y) (hrow : y.heap[ge]? = some (.cells #[u0, u1, u2, u3, u4, v0, v1, v2, v3, v4] 27 (0, 0))) (hk : Rep w (n + 1) (.agg #[u0, u1, u2, u3, u4]) (3, 0, 0, k, [])) (hv : Rep w (n + 1) (.agg #[v0, v1, v2, v3, v4]) V) :
    ∀ v T, RQ n ge k V w v T → Rep y (n + 2) v T := by
  rintro v T (h | ⟨rfl, rfl⟩)
  · exact rep_keep hb _ _ _ h
  · exact list_rep (row2_rep hrow (rep_keep hb _ _ _ hk) (rep_keep hb _ _ _ hv))
theorem rq_old {n ge : Nat} {k : ByteArray} {V : VT (n + 1)} {w x : World} {p : Option Addr} {l c : Nat} {L : List (VT (n + 2))} (hb : Below w.heap.size w x) (h : RepL w (Rep w (n + 2)) p l c L) : RepL x (RQ n ge k V w) p l c L := repL_keep hb (fun _ _ h => Or.inl h) h
theorem rq_new {n ge g : Nat} {k : ByteArray} {V : VT (n + 1)} {w x : World} (h : x.heap[g]? = some (.cells #[.int .i64 4, .int .i64 0, .float .f64 0, .string ⟨#[]⟩, .slice (some ⟨ge, 0, none⟩) 2 2] 27 (0, 0))) : RepL x (RQ n ge k V w) (some ⟨g, 0, none⟩) 1 1 [pairT n k V] := row1_rep h (Or.inr ⟨rfl, rfl⟩)
/-- What put keeps: its five boxes. -/
def PA (p : Option Addr) (l c : Nat) (k : ByteArray) (q : Option Addr) (d : Nat) (K3 I3 : Int) (F3 : Nat) (S3 : ByteArray) (q3 : Option Addr) (m3 d3 : Nat) (x0 x1 x2 x3 x4 y0 y1 y2 y3 y4 : Value) (w z : World) : Prop := z.cell? ⟨w.heap.size, 4, none⟩ = some (.slice p l c) ∧ z.cell? ⟨w.heap.size + 1, 0, none⟩ = some (.int .i64 3) ∧ z.cell? ⟨w.heap.size + 1, 1, none⟩ = some (.int .i64 0) ∧ z.cell? ⟨w.heap.size + 1, 2, none⟩ = some (.float .f64 0) ∧ z.cell? ⟨w.heap.size + 1, 3, none⟩ = some (.string k) ∧ z.cell? ⟨w.heap.size + 1, 4, none⟩ = some (.slice q 0 d) ∧ z.cell? ⟨w.heap.size + 1 + 1, 0, none⟩ = some (.int .i64 K3) ∧ z.cell? ⟨w.heap.size + 1 + 1, 1, none⟩ = some (.int .i64 I3) ∧ z.cell? ⟨w.heap.size + 1 + 1, 2, none⟩ = some (.float .f64 F3) ∧ z.cell? ⟨w.heap.size + 1 + 1, 3, none⟩ = some (.string S3) ∧ z.cell? ⟨w.heap.size + 1 + 1, 4, none⟩ = some (.slice q3 m3 d3) ∧ z.cell? ⟨w.heap.size + 1 + 1 + 1, 0, none⟩ = some (x0) ∧ z.cell? ⟨w.heap.size + 1 + 1 + 1, 1, none⟩ = some (x1) ∧ z.cell? ⟨w.heap.size + 1 + 1 + 1, 2, none⟩ = some (x2) ∧ z.cell? ⟨w.heap.size + 1 + 1 + 1, 3, none⟩ = some (x3) ∧ z.cell? ⟨w.heap.size + 1 + 1 + 1, 4, none⟩ = some (x4) ∧ z.cell? ⟨w.heap.size + 1 + 1 + 1 + 1, 0, none⟩ = some (y0) ∧ z.cell? ⟨w.heap.size + 1 + 1 + 1 + 1, 1, none⟩ = some (y1) ∧ z.cell? ⟨w.heap.size + 1 + 1 + 1 + 1, 2, none⟩ = some (y2) ∧ z.cell? ⟨w.heap.size + 1 + 1 + 1 + 1, 3, none⟩ = some (y3) ∧ z.cell? ⟨w.heap.size + 1 + 1 + 1 + 1, 4, none⟩ = some (y4) ∧ Below w.heap.size w z ∧ (∀ o, z.frozen? ⟨w.heap.size + 1 + 1 + 1, o, none⟩ = false) ∧ (∀ o, z.frozen? ⟨w.heap.size + 1 + 1 + 1 + 1, o, none⟩ = false)
theorem pa_step {p : Option Addr} {l c : Nat} {k : ByteArray} {q : Option Addr} {d : Nat} {K3 I3 : Int} {F3 : Nat} {S3 : ByteArray} {q3 : Option Addr} {m3 d3 : Nat} {x0 x1 x2 x3 x4 y0 y1 y2 y3 y4 : Value} {w x y : World} (h : PA p l c k q d K3 I3 F3 S3 q3 m3 d3 x0 x1 x2 x3 x4 y0 y1 y2 y3 y4 w x) (hb : Below x.heap.size x y) : PA p l c k q d K3 I3 F3 S3 q3 m3 d3 x0 x1 x2 x3 x4 y0 y1 y2 y3 y4 w y :=
  ⟨cell_keep hb h.1, cell_keep hb h.2.1, cell_keep hb h.2.2.1, cell_keep hb h.2.2.2.1, cell_keep hb h.2.2.2.2.1, cell_keep hb h.2.2.2.2.2.1, cell_keep hb h.2.2.2.2.2.2.1, cell_keep hb h.2.2.2.2.2.2.2.1, cell_keep hb h.2.2.2.2.2.2.2.2.1, cell_keep hb h.2.2.2.2.2.2.2.2.2.1, cell_keep hb h.2.2.2.2.2.2.2.2.2.2.1, cell_keep hb h.2.2.2.2.2.2.2.2.2.2.2.1, cell_keep hb h.2.2.2.2.2.2.2.2.2.2.2.2.1, cell_keep hb h.2.2.2.2.2.2.2.2.2.2.2.2.2.1, cell_keep hb h.2.2.2.2.2.2.2.2.2.2.2.2.2.2.1, cell_keep hb h.2.2.2.2.2.2.2.2.2.2.2.2.2.2.2.1, cell_keep hb h.2.2.2.2.2.2.2.2.2.2.2.2.2.2.2.2.1, cell_keep hb h.2.2.2.2.2.2.2.2.2.2.2.2.2.2.2.2.2.1, cell_keep hb h.2.2.2.2.2.2.2.2.2.2.2.2.2.2.2.2.2.2.1, cell_keep hb h.2.2.2.2.2.2.2.2.2.2.2.2.2.2.2.2.2.2.2.1, cell_keep hb h.2.2.2.2.2.2.2.2.2.2.2.2.2.2.2.2.2.2.2.2.1, bel_step h.2.2.2.2.2.2.2.2.2.2.2.2.2.2.2.2.2.2.2.2.2.1 hb, fun o => (hb.frozen (p := ⟨w.heap.size + 1 + 1 + 1, o, none⟩) (show w.heap.size + 1 + 1 + 1 < x.heap.size from cell_lt h.2.2.2.2.2.2.2.2.2.2.2.1)).trans (h.2.2.2.2.2.2.2.2.2.2.2.2.2.2.2.2.2.2.2.2.2.2.1 o), fun o => (hb.frozen (p := ⟨w.heap.size + 1 + 1 + 1 + 1, o, none⟩) (show w.heap.size + 1 + 1 + 1 + 1 < x.heap.size from cell_lt h.2.2.2.2.2.2.2.2.2.2.2.2.2.2.2.2.1)).trans (h.2.2.2.2.2.2.2.2.2.2.2.2.2.2.2.2.2.2.2.2.2.2.2 o)⟩
def PC (p : Option Addr) (l c : Nat) (k : ByteArray) (q : Option Addr) (d : Nat) (K3 I3 : Int) (F3 : Nat) (S3 : ByteArray) (q3 : Option Addr) (m3 d3 : Nat) (w z : World) : Prop := z.cell? ⟨w.heap.size, 4, none⟩ = some (.slice p l c) ∧ z.cell? ⟨w.heap.size + 1, 0, none⟩ = some (.int .i64 3) ∧ z.cell? ⟨w.heap.size + 1, 1, none⟩ = some (.int .i64 0) ∧ z.cell? ⟨w.heap.size + 1, 2, none⟩ = some (.float .f64 0) ∧ z.cell? ⟨w.heap.size + 1, 3, none⟩ = some (.string k) ∧ z.cell? ⟨w.heap.size + 1, 4, none⟩ = some (.slice q 0 d) ∧ z.cell? ⟨w.heap.size + 1 + 1, 0, none⟩ = some (.int .i64 K3) ∧ z.cell? ⟨w.heap.size + 1 + 1, 1, none⟩ = some (.int .i64 I3) ∧ z.cell? ⟨w.heap.size + 1 + 1, 2, none⟩ = some (.float .f64 F3) ∧ z.cell? ⟨w.heap.size + 1 + 1, 3, none⟩ = some (.string S3) ∧ z.cell? ⟨w.heap.size + 1 + 1, 4, none⟩ = some (.slice q3 m3 d3)
theorem pa_pc {p : Option Addr} {l c : Nat} {k : ByteArray} {q : Option Addr} {d : Nat} {K3 I3 : Int} {F3 : Nat} {S3 : ByteArray} {q3 : Option Addr} {m3 d3 : Nat} {x0 x1 x2 x3 x4 y0 y1 y2 y3 y4 : Value} {w x : World} (h : PA p l c k q d K3 I3 F3 S3 q3 m3 d3 x0 x1 x2 x3 x4 y0 y1 y2 y3 y4 w x) : PC p l c k q d K3 I3 F3 S3 q3 m3 d3 w x := ⟨h.1, h.2.1, h.2.2.1, h.2.2.2.1, h.2.2.2.2.1, h.2.2.2.2.2.1, h.2.2.2.2.2.2.1, h.2.2.2.2.2.2.2.1, h.2.2.2.2.2.2.2.2.1, h.2.2.2.2.2.2.2.2.2.1, h.2.2.2.2.2.2.2.2.2.2.1⟩
theorem pa_p3 {p : Option Addr} {l c : Nat} {k : ByteArray} {q : Option Addr} {d : Nat} {K3 I3 : Int} {F3 : Nat} {S3 : ByteArray} {q3 : Option Addr} {m3 d3 : Nat} {x0 x1 x2 x3 x4 y0 y1 y2 y3 y4 : Value} {w x : World} (h : PA p l c k q d K3 I3 F3 S3 q3 m3 d3 x0 x1 x2 x3 x4 y0 y1 y2 y3 y4 w x) : x.cell? ⟨w.heap.size, 4, none⟩ = some (.slice p l c) ∧ x.cell? ⟨w.heap.size + 1, 0, none⟩ = some (.int .i64 3) ∧ x.cell? ⟨w.heap.size + 1, 1, none⟩ = some (.int .i64 0) ∧ x.cell? ⟨w.heap.size + 1, 2, none⟩ = some (.float .f64 0) ∧ x.cell? ⟨w.heap.size + 1, 3, none⟩ = some (.string k) ∧ x.cell? ⟨w.heap.size + 1, 4, none⟩ = some (.slice q 0 d) ∧ x.cell? ⟨w.heap.size + 1 + 1, 0, none⟩ = some (.int .i64 K3) ∧ x.cell? ⟨w.heap.size + 1 + 1, 1, none⟩ = some (.int .i64 I3) ∧ x.cell? ⟨w.heap.size + 1 + 1, 2, none⟩ = some (.float .f64 F3) ∧ x.cell? ⟨w.heap.size + 1 + 1, 3, none⟩ = some (.string S3) ∧ x.cell? ⟨w.heap.size + 1 + 1, 4, none⟩ = some (.slice q3 m3 d3) ∧ x.cell? ⟨w.heap.size + 1 + 1 + 1, 0, none⟩ = some (x0) ∧ x.cell? ⟨w.heap.size + 1 + 1 + 1, 1, none⟩ = some (x1) ∧ x.cell? ⟨w.heap.size + 1 + 1 + 1, 2, none⟩ = some (x2) ∧ x.cell? ⟨w.heap.size + 1 + 1 + 1, 3, none⟩ = some (x3) ∧ x.cell? ⟨w.heap.size + 1 + 1 + 1, 4, none⟩ = some (x4) := ⟨h.1, h.2.1, h.2.2.1, h.2.2.2.1, h.2.2.2.2.1, h.2.2.2.2.2.1, h.2.2.2.2.2.2.1, h.2.2.2.2.2.2.2.1, h.2.2.2.2.2.2.2.2.1, h.2.2.2.2.2.2.2.2.2.1, h.2.2.2.2.2.2.2.2.2.2.1, h.2.2.2.2.2.2.2.2.2.2.2.1, h.2.2.2.2.2.2.2.2.2.2.2.2.1, h.2.2.2.2.2.2.2.2.2.2.2.2.2.1, h.2.2.2.2.2.2.2.2.2.2.2.2.2.2.1, h.2.2.2.2.2.2.2.2.2.2.2.2.2.2.2.1⟩
theorem pa_drew {p : Option Addr} {l c : Nat} {k : ByteArray} {q : Option Addr} {d : Nat} {K3 I3 : Int} {F3 : Nat} {S3 : ByteArray} {q3 : Option Addr} {m3 d3 : Nat} {x0 x1 x2 x3 x4 y0 y1 y2 y3 y4 : Value} {w x : World} (h : PA p l c k q d K3 I3 F3 S3 q3 m3 d3 x0 x1 x2 x3 x4 y0 y1 y2 y3 y4 w x) : PA p l c k q d K3 I3 F3 S3 q3 m3 d3 x0 x1 x2 x3 x4 y0 y1 y2 y3 y4 w x.drew := pa_step h (Below.drew (Below.refl _ _))
end Num
end Go.Proofs.Ytamogpbbaihaaaa
