/-
  Package table: run: del, get.
-/
import Derived.Test.YtamogpbbaihaaaaQK
namespace Go.Proofs.Ytamogpbbaihaaaa
open Go.RowKit
namespace Num
open Ints
set_option linter.unusedSimpArgs false
set_option linter.unusedVariables false
/-- What run keeps, of del and get. -/
def RN (p : Option Addr) (l c : Nat) (bl ol : Nat) (k : ByteArray) (q : Option Addr) (d : Nat) (x0 x1 x2 x3 x4 y0 y1 y2 y3 y4 : Value) (w z : World) : Prop := z.cell? ⟨w.heap.size, 0, none⟩ = some (.int .i64 4) ∧ z.cell? ⟨w.heap.size, 1, none⟩ = some (.int .i64 0) ∧ z.cell? ⟨w.heap.size, 2, none⟩ = some (.float .f64 0) ∧ z.cell? ⟨w.heap.size, 3, none⟩ = some (.string ⟨#[]⟩) ∧ z.cell? ⟨w.heap.size, 4, none⟩ = some (.slice p l c) ∧ z.cell? ⟨bl, ol, none⟩ = some (.int .i64 3) ∧ z.cell? ⟨bl, ol + 1, none⟩ = some (.int .i64 0) ∧ z.cell? ⟨bl, ol + 2, none⟩ = some (.float .f64 0) ∧ z.cell? ⟨bl, ol + 3, none⟩ = some (.string k) ∧ z.cell? ⟨bl, ol + 4, none⟩ = some (.slice q 0 d) ∧ z.cell? ⟨w.heap.size + 1, 0, none⟩ = some (x0) ∧ z.cell? ⟨w.heap.size + 1, 1, none⟩ = some (x1) ∧ z.cell? ⟨w.heap.size + 1, 2, none⟩ = some (x2) ∧ z.cell? ⟨w.heap.size + 1, 3, none⟩ = some (x3) ∧ z.cell? ⟨w.heap.size + 1, 4, none⟩ = some (x4) ∧ z.cell? ⟨w.heap.size + 1 + 1, 0, none⟩ = some (y0) ∧ z.cell? ⟨w.heap.size + 1 + 1, 1, none⟩ = some (y1) ∧ z.cell? ⟨w.heap.size + 1 + 1, 2, none⟩ = some (y2) ∧ z.cell? ⟨w.heap.size + 1 + 1, 3, none⟩ = some (y3) ∧ z.cell? ⟨w.heap.size + 1 + 1, 4, none⟩ = some (y4) ∧ Below w.heap.size w z ∧ (∀ o, z.frozen? ⟨w.heap.size + 1, o, none⟩ = false) ∧ (∀ o, z.frozen? ⟨w.heap.size + 1 + 1, o, none⟩ = false)
section
variable {p : Option Addr} {l c : Nat} {bl ol : Nat} {k : ByteArray} {q : Option Addr} {d : Nat} {x0 x1 x2 x3 x4 y0 y1 y2 y3 y4 : Value} {w x y : World}
theorem rn_step (h : RN p l c bl ol k q d x0 x1 x2 x3 x4 y0 y1 y2 y3 y4 w x) (hb : Below x.heap.size x y) : RN p l c bl ol k q d x0 x1 x2 x3 x4 y0 y1 y2 y3 y4 w y :=
  ⟨cell_keep hb h.1, cell_keep hb h.2.1, cell_keep hb h.2.2.1, cell_keep hb h.2.2.2.1, cell_keep hb h.2.2.2.2.1, cell_keep hb h.2.2.2.2.2.1, cell_keep hb h.2.2.2.2.2.2.1, cell_keep hb h.2.2.2.2.2.2.2.1, cell_keep hb h.2.2.2.2.2.2.2.2.1, cell_keep hb h.2.2.2.2.2.2.2.2.2.1, cell_keep hb h.2.2.2.2.2.2.2.2.2.2.1, cell_keep hb h.2.2.2.2.2.2.2.2.2.2.2.1, cell_keep hb h.2.2.2.2.2.2.2.2.2.2.2.2.1, cell_keep hb h.2.2.2.2.2.2.2.2.2.2.2.2.2.1, cell_keep hb h.2.2.2.2.2.2.2.2.2.2.2.2.2.2.1, cell_keep hb h.2.2.2.2.2.2.2.2.2.2.2.2.2.2.2.1, cell_keep hb h.2.2.2.2.2.2.2.2.2.2.2.2.2.2.2.2.1, cell_keep hb h.2.2.2.2.2.2.2.2.2.2.2.2.2.2.2.2.2.1, cell_keep hb h.2.2.2.2.2.2.2.2.2.2.2.2.2.2.2.2.2.2.1, cell_keep hb h.2.2.2.2.2.2.2.2.2.2.2.2.2.2.2.2.2.2.2.1, bel_step h.2.2.2.2.2.2.2.2.2.2.2.2.2.2.2.2.2.2.2.2.1 hb, fun o => (hb.frozen (p := ⟨w.heap.size + 1, o, none⟩) (show w.heap.size + 1 < x.heap.size from cell_lt h.2.2.2.2.2.2.2.2.2.2.1)).trans (h.2.2.2.2.2.2.2.2.2.2.2.2.2.2.2.2.2.2.2.2.2.1 o), fun o => (hb.frozen (p := ⟨w.heap.size + 1 + 1, o, none⟩) (show w.heap.size + 1 + 1 < x.heap.size from cell_lt h.2.2.2.2.2.2.2.2.2.2.2.2.2.2.2.1)).trans (h.2.2.2.2.2.2.2.2.2.2.2.2.2.2.2.2.2.2.2.2.2.2 o)⟩
theorem rn_ro (h : RN p l c bl ol k q d x0 x1 x2 x3 x4 y0 y1 y2 y3 y4 w x) : x.cell? ⟨w.heap.size, 0, none⟩ = some (.int .i64 4) ∧ x.cell? ⟨w.heap.size, 1, none⟩ = some (.int .i64 0) ∧ x.cell? ⟨w.heap.size, 2, none⟩ = some (.float .f64 0) ∧ x.cell? ⟨w.heap.size, 3, none⟩ = some (.string ⟨#[]⟩) ∧ x.cell? ⟨w.heap.size, 4, none⟩ = some (.slice p l c) ∧ x.cell? ⟨bl, ol, none⟩ = some (.int .i64 3) ∧ x.cell? ⟨bl, ol + 1, none⟩ = some (.int .i64 0) ∧ x.cell? ⟨bl, ol + 2, none⟩ = some (.float .f64 0) ∧ x.cell? ⟨bl, ol + 3, none⟩ = some (.string k) ∧ x.cell? ⟨bl, ol + 4, none⟩ = some (.slice q 0 d) := ⟨h.1, h.2.1, h.2.2.1, h.2.2.2.1, h.2.2.2.2.1, h.2.2.2.2.2.1, h.2.2.2.2.2.2.1, h.2.2.2.2.2.2.2.1, h.2.2.2.2.2.2.2.2.1, h.2.2.2.2.2.2.2.2.2.1⟩
theorem rn_r1 (h : RN p l c bl ol k q d x0 x1 x2 x3 x4 y0 y1 y2 y3 y4 w x) : x.cell? ⟨w.heap.size, 0, none⟩ = some (.int .i64 4) ∧ x.cell? ⟨w.heap.size, 1, none⟩ = some (.int .i64 0) ∧ x.cell? ⟨w.heap.size, 2, none⟩ = some (.float .f64 0) ∧ x.cell? ⟨w.heap.size, 3, none⟩ = some (.string ⟨#[]⟩) ∧ x.cell? ⟨w.heap.size, 4, none⟩ = some (.slice p l c) ∧ x.cell? ⟨bl, ol, none⟩ = some (.int .i64 3) ∧ x.cell? ⟨bl, ol + 1, none⟩ = some (.int .i64 0) ∧ x.cell? ⟨bl, ol + 2, none⟩ = some (.float .f64 0) ∧ x.cell? ⟨bl, ol + 3, none⟩ = some (.string k) ∧ x.cell? ⟨bl, ol + 4, none⟩ = some (.slice q 0 d) ∧ x.cell? ⟨w.heap.size + 1, 0, none⟩ = some (x0) ∧ x.cell? ⟨w.heap.size + 1, 1, none⟩ = some (x1) ∧ x.cell? ⟨w.heap.size + 1, 2, none⟩ = some (x2) ∧ x.cell? ⟨w.heap.size + 1, 3, none⟩ = some (x3) ∧ x.cell? ⟨w.heap.size + 1, 4, none⟩ = some (x4) := ⟨h.1, h.2.1, h.2.2.1, h.2.2.2.1, h.2.2.2.2.1, h.2.2.2.2.2.1, h.2.2.2.2.2.2.1, h.2.2.2.2.2.2.2.1, h.2.2.2.2.2.2.2.2.1, h.2.2.2.2.2.2.2.2.2.1, h.2.2.2.2.2.2.2.2.2.2.1, h.2.2.2.2.2.2.2.2.2.2.2.1, h.2.2.2.2.2.2.2.2.2.2.2.2.1, h.2.2.2.2.2.2.2.2.2.2.2.2.2.1, h.2.2.2.2.2.2.2.2.2.2.2.2.2.2.1⟩
theorem rn_all (h : RN p l c bl ol k q d x0 x1 x2 x3 x4 y0 y1 y2 y3 y4 w x) : x.cell? ⟨w.heap.size, 0, none⟩ = some (.int .i64 4) ∧ x.cell? ⟨w.heap.size, 1, none⟩ = some (.int .i64 0) ∧ x.cell? ⟨w.heap.size, 2, none⟩ = some (.float .f64 0) ∧ x.cell? ⟨w.heap.size, 3, none⟩ = some (.string ⟨#[]⟩) ∧ x.cell? ⟨w.heap.size, 4, none⟩ = some (.slice p l c) ∧ x.cell? ⟨bl, ol, none⟩ = some (.int .i64 3) ∧ x.cell? ⟨bl, ol + 1, none⟩ = some (.int .i64 0) ∧ x.cell? ⟨bl, ol + 2, none⟩ = some (.float .f64 0) ∧ x.cell? ⟨bl, ol + 3, none⟩ = some (.string k) ∧ x.cell? ⟨bl, ol + 4, none⟩ = some (.slice q 0 d) ∧ x.cell? ⟨w.heap.size + 1, 0, none⟩ = some (x0) ∧ x.cell? ⟨w.heap.size + 1, 1, none⟩ = some (x1) ∧ x.cell? ⟨w.heap.size + 1, 2, none⟩ = some (x2) ∧ x.cell? ⟨w.heap.size + 1, 3, none⟩ = some (x3) ∧ x.cell? ⟨w.heap.size + 1, 4, none⟩ = some (x4) ∧ x.cell? ⟨w.heap.size + 1 + 1, 0, none⟩ = some (y0) ∧ x.cell? ⟨w.heap.size + 1 + 1, 1, none⟩ = some (y1) ∧ x.cell? ⟨w.heap.size + 1 + 1, 2, none⟩ = some (y2) ∧ x.cell? ⟨w.heap.size + 1 + 1, 3, none⟩ = some (y3) ∧ x.cell? ⟨w.heap.size + 1 + 1, 4, none⟩ = some (y4) := ⟨h.1, h.2.1, h.2.2.1, h.2.2.2.1, h.2.2.2.2.1, h.2.2.2.2.2.1, h.2.2.2.2.2.2.1, h.2.2.2.2.2.2.2.1, h.2.2.2.2.2.2.2.2.1, h.2.2.2.2.2.2.2.2.2.1, h.2.2.2.2.2.2.2.2.2.2.1, h.2.2.2.2.2.2.2.2.2.2.2.1, h.2.2.2.2.2.2.2.2.2.2.2.2.1, h.2.2.2.2.2.2.2.2.2.2.2.2.2.1, h.2.2.2.2.2.2.2.2.2.2.2.2.2.2.1, h.2.2.2.2.2.2.2.2.2.2.2.2.2.2.2.1, h.2.2.2.2.2.2.2.2.2.2.2.2.2.2.2.2.1, h.2.2.2.2.2.2.2.2.2.2.2.2.2.2.2.2.2.1, h.2.2.2.2.2.2.2.2.2.2.2.2.2.2.2.2.2.2.1, h.2.2.2.2.2.2.2.2.2.2.2.2.2.2.2.2.2.2.2.1⟩
theorem rn_drew (h : RN p l c bl ol k q d x0 x1 x2 x3 x4 y0 y1 y2 y3 y4 w x) : RN p l c bl ol k q d x0 x1 x2 x3 x4 y0 y1 y2 y3 y4 w x.drew := rn_step h (Below.drew (Below.refl _ _))
theorem rn_set1 (hlt_bl : bl < w.heap.size) (h : RN p l c bl ol k q d x0 x1 x2 x3 x4 y0 y1 y2 y3 y4 w x) (u0 u1 u2 u3 u4 : Value) : RN p l c bl ol k q d u0 u1 u2 u3 u4 y0 y1 y2 y3 y4 w (set5 x (w.heap.size + 1) 0 u0 u1 u2 u3 u4) := by
  have e : ∀ c i, c ≠ w.heap.size + 1 → (set5 x (w.heap.size + 1) 0 u0 u1 u2 u3 u4).cell? ⟨c, i, none⟩ = x.cell? ⟨c, i, none⟩ := fun c i hc => World.cell?_of_block (set5_other hc)
  have hs := set5_same (g := w.heap.size + 1) (o := 0) u0 u1 u2 u3 u4 h.2.2.2.2.2.2.2.2.2.2.1 h.2.2.2.2.2.2.2.2.2.2.2.1 h.2.2.2.2.2.2.2.2.2.2.2.2.1 h.2.2.2.2.2.2.2.2.2.2.2.2.2.1 h.2.2.2.2.2.2.2.2.2.2.2.2.2.2.1
  unfold RN at h ⊢
  obtain ⟨g0, g1, g2, g3, g4, g5, g6, g7, g8, g9, g10, g11, g12, g13, g14, g15, g16, g17, g18, g19, g20, g21, g22⟩ := h
  refine ⟨(e _ _ (by omega)).trans g0, (e _ _ (by omega)).trans g1, (e _ _ (by omega)).trans g2, (e _ _ (by omega)).trans g3, (e _ _ (by omega)).trans g4, (e _ _ (by omega)).trans g5, (e _ _ (by omega)).trans g6, (e _ _ (by omega)).trans g7, (e _ _ (by omega)).trans g8, (e _ _ (by omega)).trans g9, hs.1, hs.2.1, hs.2.2.1, hs.2.2.2.1, hs.2.2.2.2, (e _ _ (by omega)).trans g15, (e _ _ (by omega)).trans g16, (e _ _ (by omega)).trans g17, (e _ _ (by omega)).trans g18, (e _ _ (by omega)).trans g19, set5_below g20 (by omega) _ _ _ _ _, fun o => ?_, fun o => ?_⟩
  all_goals (unfold set5; simp only [World.frozen?_setCell]; first | exact g21 o | exact g22 o)
theorem rn_set2 (hlt_bl : bl < w.heap.size) (h : RN p l c bl ol k q d x0 x1 x2 x3 x4 y0 y1 y2 y3 y4 w x) (u0 u1 u2 u3 u4 : Value) : RN p l c bl ol k q d x0 x1 x2 x3 x4 u0 u1 u2 u3 u4 w (set5 x (w.heap.size + 1 + 1) 0 u0 u1 u2 u3 u4) := by
  have e : ∀ c i, c ≠ w.heap.size + 1 + 1 → (set5 x (w.heap.size + 1 + 1) 0 u0 u1 u2 u3 u4).cell? ⟨c, i, none⟩ = x.cell? ⟨c, i, none⟩ := fun c i hc => World.cell?_of_block (set5_other hc)
  have hs := set5_same (g := w.heap.size + 1 + 1) (o := 0) u0 u1 u2 u3 u4 h.2.2.2.2.2.2.2.2.2.2.2.2.2.2.2.1 h.2.2.2.2.2.2.2.2.2.2.2.2.2.2.2.2.1 h.2.2.2.2.2.2.2.2.2.2.2.2.2.2.2.2.2.1 h.2.2.2.2.2.2.2.2.2.2.2.2.2.2.2.2.2.2.1 h.2.2.2.2.2.2.2.2.2.2.2.2.2.2.2.2.2.2.2.1
  unfold RN at h ⊢
  obtain ⟨g0, g1, g2, g3, g4, g5, g6, g7, g8, g9, g10, g11, g12, g13, g14, g15, g16, g17, g18, g19, g20, g21, g22⟩ := h
  refine ⟨(e _ _ (by omega)).trans g0, (e _ _ (by omega)).trans g1, (e _ _ (by omega)).trans g2, (e _ _ (by omega)).trans g3, (e _ _ (by omega)).trans g4, (e _ _ (by omega)).trans g5, (e _ _ (by omega)).trans g6, (e _ _ (by omega)).trans g7, (e _ _ (by omega)).trans g8, (e _ _ (by omega)).trans g9, (e _ _ (by omega)).trans g10, (e _ _ (by omega)).trans g11, (e _ _ (by omega)).trans g12, (e _ _ (by omega)).trans g13, (e _ _ (by omega)).trans g14, hs.1, hs.2.1, hs.2.2.1, hs.2.2.2.1, hs.2.2.2.2, set5_below g20 (by omega) _ _ _ _ _, fun o => ?_, fun o => ?_⟩
  all_goals (unfold set5; simp only [World.frozen?_setCell]; first | exact g21 o | exact g22 o)
end
set_option maxRecDepth 100000 in
set_option maxHeartbeats 4000000 in
theorem run_del (n : Nat) (p : Option Addr) (l c : Nat) (bl ol : Nat) (k : ByteArray) (q : Option Addr) (d : Nat) (cl : Nat) (w : World) (n0 : w.cell? ⟨bl, ol, none⟩ = some (.int .i64 3)) (n1 : w.cell? ⟨bl, ol + 1, none⟩ = some (.int .i64 0)) (n2 : w.cell? ⟨bl, ol + 2, none⟩ = some (.float .f64 0)) (n3 : w.cell? ⟨bl, ol + 3, none⟩ = some (.string k)) (n4 : w.cell? ⟨bl, ol + 4, none⟩ = some (.slice q 0 d)) (T : VT (n + 3)) (H : VT (n + 1))
    (HDEL : Hid (∀ W, Below w.heap.size w W → Calls Try.prog 51 #[.agg #[.int .i64 4, .int .i64 0, .float .f64 0, .string ⟨#[]⟩, .slice p l c], .agg #[.int .i64 3, .int .i64 0, .float .f64 0, .string k, .slice q 0 d]] W fun e w' => ∃ t u, e = .returned (.tuple #[t, u]) ∧ Below W.heap.size W w' ∧ (∀ y, Below w.heap.size w y → Stay W.heap.size w' y → Rep y (n + 3) t T) ∧ Rep w (n + 1) u H)) :
    Calls Try.prog 25 #[.agg #[.int .i64 4, .int .i64 0, .float .f64 0, .string ⟨#[]⟩, .slice p l c], .string { data := #[100, 101, 108] }, .slice (some ⟨bl, ol, none⟩) 1 cl] w fun e w' => RunQ w (n + 3) (n + 1) T H 0 e w' := by
  have hbl : bl < w.heap.size := cell_lt n0
  obtain ⟨oa, hoa⟩ : ∃ o, Obj.cells #[.int .i64 4, .int .i64 0, .float .f64 0, .string ⟨#[]⟩, .slice p l c] 27 = o := ⟨_, rfl⟩
  obtain ⟨oz, hoz⟩ : ∃ o, Obj.cells #[.int .i64 0, .int .i64 0, .float .f64 0, .string ⟨#[]⟩, .slice none 0 0] 27 = o := ⟨_, rfl⟩
  have hB : Below w.heap.size w (((w.alloc oa).alloc oz).alloc oz) := bel_alloc (bel_alloc (bel_alloc (Below.refl w.heap.size w) oa) oz) oz
  have r0 := row_alloc_step (row_alloc_step (row_alloc w #[.int .i64 4, .int .i64 0, .float .f64 0, .string ⟨#[]⟩, .slice p l c] 27) oz) oz
  rw [hoa] at r0
  have r1 := row_alloc_step (row_alloc (w.alloc oa) #[.int .i64 0, .int .i64 0, .float .f64 0, .string ⟨#[]⟩, .slice none 0 0] 27) oz
  rw [hoz] at r1
  have r2 := row_alloc ((w.alloc oa).alloc oz) #[.int .i64 0, .int .i64 0, .float .f64 0, .string ⟨#[]⟩, .slice none 0 0] 27
  rw [hoz] at r2
  simp only [World.size_alloc] at r0 r1 r2
  have HB := Lib.hid hB
  subst hoa hoz
  have HG0 := Lib.hid (show RN p l c bl ol k q d (.int .i64 0) (.int .i64 0) (.float .f64 0) (.string ⟨#[]⟩) (.slice none 0 0) (.int .i64 0) (.int .i64 0) (.float .f64 0) (.string ⟨#[]⟩) (.slice none 0 0) w (((w.alloc (.cells #[.int .i64 4, .int .i64 0, .float .f64 0, .string ⟨#[]⟩, .slice p l c] 27)).alloc (.cells #[.int .i64 0, .int .i64 0, .float .f64 0, .string ⟨#[]⟩, .slice none 0 0] 27)).alloc (.cells #[.int .i64 0, .int .i64 0, .float .f64 0, .string ⟨#[]⟩, .slice none 0 0] 27)) ∧ ((((w.alloc (.cells #[.int .i64 4, .int .i64 0, .float .f64 0, .string ⟨#[]⟩, .slice p l c] 27)).alloc (.cells #[.int .i64 0, .int .i64 0, .float .f64 0, .string ⟨#[]⟩, .slice none 0 0] 27)).alloc (.cells #[.int .i64 0, .int .i64 0, .float .f64 0, .string ⟨#[]⟩, .slice none 0 0] 27))).heap.size = w.heap.size + 1 + 1 + 1 from ⟨⟨row_cell r0 0, row_cell r0 1, row_cell r0 2, row_cell r0 3, row_cell r0 4, cell_keep hB n0, cell_keep hB n1, cell_keep hB n2, cell_keep hB n3, cell_keep hB n4, row_cell r1 0, row_cell r1 1, row_cell r1 2, row_cell r1 3, row_cell r1 4, row_cell r2 0, row_cell r2 1, row_cell r2 2, row_cell r2 3, row_cell r2 4, HB.out, fun o => row_frz r1 o, fun o => row_frz r2 o⟩, by simp only [World.size_alloc]⟩)
  clear r0 r1 r2 hB HB n0 n1 n2 n3 n4
  go_enter Try.func25, Try.ntmps25
  go_upto_region 6 with fail
  revert HG0
  generalize (((w.alloc (.cells #[.int .i64 4, .int .i64 0, .float .f64 0, .string ⟨#[]⟩, .slice p l c] 27)).alloc (.cells #[.int .i64 0, .int .i64 0, .float .f64 0, .string ⟨#[]⟩, .slice none 0 0] 27)).alloc (.cells #[.int .i64 0, .int .i64 0, .float .f64 0, .string ⟨#[]⟩, .slice none 0 0] 27)) = Wz
  intro HG0
  have HP0 := Lib.hid HG0.out.1
  have hzw := HG0.out.2
  have hp0 := HP0.out
  have l0 : w.heap.size < Wz.heap.size := by omega
  refine wp_region_held_drew (S := (fun z => z.cell? ⟨w.heap.size, 0, none⟩ = some (.int .i64 4) ∧ z.cell? ⟨w.heap.size, 1, none⟩ = some (.int .i64 0) ∧ z.cell? ⟨w.heap.size, 2, none⟩ = some (.float .f64 0) ∧ z.cell? ⟨w.heap.size, 3, none⟩ = some (.string ⟨#[]⟩) ∧ z.cell? ⟨w.heap.size, 4, none⟩ = some (.slice p l c) ∧ z.cell? ⟨bl, ol, none⟩ = some (.int .i64 3) ∧ z.cell? ⟨bl, ol + 1, none⟩ = some (.int .i64 0) ∧ z.cell? ⟨bl, ol + 2, none⟩ = some (.float .f64 0) ∧ z.cell? ⟨bl, ol + 3, none⟩ = some (.string k) ∧ z.cell? ⟨bl, ol + 4, none⟩ = some (.slice q 0 d))) (by kernel_rfl) ?_ (fun hHeld => ?_)
  · exact rn_ro (rn_drew HP0.out)
  refine wpAnyH_take (i := 0) (oi := ?_) (v := ?_) ?hid0 (by kernel_rfl) ?hfd0 ?hrd0 ?hQd0 ?hyd0 (by assumption) ?restd0
  case hid0 => (simp only [List.getElem?_toArray, List.getElem?_cons_zero, List.getElem?_cons_succ]; rfl)
  case hfd0 => kernel_rfl
  case hrd0 => kernel_rfl
  case hyd0 => (refine Or.inl ⟨by rfl, ?_⟩; intro wS hSw; (try dsimp only at hSw); go_simp; (try with_reducible rfl))
  case hQd0 => exact fun _ _ _ h => h
  (try simp only [Act.put, List.setIfInBounds_toArray, List.set_cons_zero, List.set_cons_succ])
  refine wpAnyH_take (i := 1) (oi := ?_) (v := ?_) ?hid1 (by kernel_rfl) ?hfd1 ?hrd1 ?hQd1 ?hyd1 (by assumption) ?restd1
  case hid1 => (simp only [List.getElem?_toArray, List.getElem?_cons_zero, List.getElem?_cons_succ]; rfl)
  case hfd1 => kernel_rfl
  case hrd1 => kernel_rfl
  case hyd1 => (refine Or.inl ⟨by rfl, ?_⟩; intro wS hSw; (try dsimp only at hSw); go_simp; (try with_reducible rfl))
  case hQd1 => exact fun _ _ _ h => h
  (try simp only [Act.put, List.setIfInBounds_toArray, List.set_cons_zero, List.set_cons_succ])
  refine wpAnyH_take (i := 2) (oi := ?_) (v := ?_) ?hid2 (by kernel_rfl) ?hfd2 ?hrd2 ?hQd2 ?hyd2 (by assumption) ?restd2
  case hid2 => (simp only [List.getElem?_toArray, List.getElem?_cons_zero, List.getElem?_cons_succ]; rfl)
  case hfd2 => kernel_rfl
  case hrd2 => kernel_rfl
  case hyd2 => (refine Or.inl ⟨by rfl, ?_⟩; intro wS hSw; (try dsimp only at hSw); go_simp; (try with_reducible rfl))
  case hQd2 => exact fun _ _ _ h => h
  (try simp only [Act.put, List.setIfInBounds_toArray, List.set_cons_zero, List.set_cons_succ])
  refine wpAnyH_take (i := 3) (oi := ?_) (v := ?_) ?hid3 (by kernel_rfl) ?hfd3 ?hrd3 ?hQd3 ?hyd3 (by assumption) ?restd3
  case hid3 => (simp only [List.getElem?_toArray, List.getElem?_cons_zero, List.getElem?_cons_succ]; rfl)
  case hfd3 => kernel_rfl
  case hrd3 => kernel_rfl
  case hyd3 => (refine Or.inl ⟨by rfl, ?_⟩; intro wS hSw; (try dsimp only at hSw); go_simp; (try with_reducible rfl))
  case hQd3 => exact fun _ _ _ h => h
  (try simp only [Act.put, List.setIfInBounds_toArray, List.set_cons_zero, List.set_cons_succ])
  refine wpAnyH_ready (rs := [4]) (by kernel_rfl) (by simp) ?_
  refine AllReadyH.cons (o := ?_) ?hod4 ?hstd4 AllReadyH.nil
  case hod4 => (simp only [List.getElem?_toArray, List.getElem?_cons_zero, List.getElem?_cons_succ]; rfl)
  intro K hK
  go_simp
  go_at_call 51; refine (HDEL.out _ (rn_drew HP0.out).2.2.2.2.2.2.2.2.2.2.2.2.2.2.2.2.2.2.2.2.1).mono ?_; rintro e w10 ⟨tt, u, rfl, hb10, ht, hu⟩; have hq10 := rn_step (rn_drew HP0.out) hb10; obtain ⟨Kt, It, Ft, St, qt, mt, dt, rfl, _⟩ := rep_shape (ht w10 hq10.2.2.2.2.2.2.2.2.2.2.2.2.2.2.2.2.2.2.2.2.1 (fun _ _ _ => rfl)); obtain ⟨Ku, Iu, Fu, Su, qu, mu, du, rfl, _⟩ := rep_shape hu; have HTT := Lib.hid ht; have HU := Lib.hid hu; clear hb10 ht hu
  go_wp2_with fail
  refine hK.out _ _ ?hsd4 (fun hHeld => ?_)
  case hsd4 => exact rn_ro hq10
  clear hK K
  (try simp only [Act.put, List.setIfInBounds_toArray, List.set_cons_zero, List.set_cons_succ])
  refine wpAnyH_take (i := 5) (oi := ?_) (v := ?_) ?hid5 (by kernel_rfl) ?hfd5 ?hrd5 ?hQd5 ?hyd5 (by assumption) ?restd5
  case hid5 => (simp only [List.getElem?_toArray, List.getElem?_cons_zero, List.getElem?_cons_succ]; rfl)
  case hfd5 => kernel_rfl
  case hrd5 => kernel_rfl
  case hyd5 => (refine Or.inl ⟨by rfl, ?_⟩; intro wS hSw; (try dsimp only at hSw); go_simp; (try with_reducible rfl))
  case hQd5 => exact fun _ _ _ h => h
  (try simp only [Act.put, List.setIfInBounds_toArray, List.set_cons_zero, List.set_cons_succ])
  refine wpAnyH_take (i := 6) (oi := ?_) (v := ?_) ?hid6 (by kernel_rfl) ?hfd6 ?hrd6 ?hQd6 ?hyd6 (by assumption) ?restd6
  case hid6 => (simp only [List.getElem?_toArray, List.getElem?_cons_zero, List.getElem?_cons_succ]; rfl)
  case hfd6 => kernel_rfl
  case hrd6 => kernel_rfl
  case hyd6 => (refine Or.inl ⟨by rfl, ?_⟩; intro wS hSw; (try dsimp only at hSw); go_simp; (try with_reducible rfl))
  case hQd6 => exact fun _ _ _ h => h
  (try simp only [Act.put, List.setIfInBounds_toArray, List.set_cons_zero, List.set_cons_succ])
  refine wpAnyH_take (i := 7) (oi := ?_) (v := ?_) ?hid7 (by kernel_rfl) ?hfd7 ?hrd7 ?hQd7 ?hyd7 (by assumption) ?restd7
  case hid7 => (simp only [List.getElem?_toArray, List.getElem?_cons_zero, List.getElem?_cons_succ]; rfl)
  case hfd7 => kernel_rfl
  case hrd7 => kernel_rfl
  case hyd7 => (refine Or.inl ⟨by rfl, ?_⟩; intro wS hSw; (try dsimp only at hSw); go_simp; (try with_reducible rfl))
  case hQd7 => exact fun _ _ _ h => h
  (try simp only [Act.put, List.setIfInBounds_toArray, List.set_cons_zero, List.set_cons_succ])
  refine wpAnyH_ready (rs := [8]) (by kernel_rfl) (by simp) ?_
  refine AllReadyH.cons (o := ?_) ?hod8 ?hstd8 AllReadyH.nil
  case hod8 => (simp only [List.getElem?_toArray, List.getElem?_cons_zero, List.getElem?_cons_succ]; rfl)
  intro K hK
  have b30 := hq10.2.2.2.2.2.2.2.2.2.2.1; have b31 := hq10.2.2.2.2.2.2.2.2.2.2.2.1; have b32 := hq10.2.2.2.2.2.2.2.2.2.2.2.2.1; have b33 := hq10.2.2.2.2.2.2.2.2.2.2.2.2.2.1; have b34 := hq10.2.2.2.2.2.2.2.2.2.2.2.2.2.2.1; have b3f := hq10.2.2.2.2.2.2.2.2.2.2.2.2.2.2.2.2.2.2.2.2.2.1; have b3l := cell_lt b30; go_simp
  have hq11 := rn_set1 hbl hq10 (.int .i64 Kt) (.int .i64 It) (.float .f64 Ft) (.string St) (.slice qt mt dt); clear b30 b31 b32 b33 b34 b3f b3l
  go_wp2_with fail
  refine hK.out _ _ ?hsd8 (fun hHeld => ?_)
  case hsd8 => exact rn_ro hq11
  clear hK K
  (try simp only [Act.put, List.setIfInBounds_toArray, List.set_cons_zero, List.set_cons_succ])
  refine wpAnyH_ready (rs := [9]) (by kernel_rfl) (by simp) ?_
  refine AllReadyH.cons (o := ?_) ?hod9 ?hstd9 AllReadyH.nil
  case hod9 => (simp only [List.getElem?_toArray, List.getElem?_cons_zero, List.getElem?_cons_succ]; rfl)
  intro K hK
  have b40 := hq10.2.2.2.2.2.2.2.2.2.2.2.2.2.2.2.1; have b41 := hq10.2.2.2.2.2.2.2.2.2.2.2.2.2.2.2.2.1; have b42 := hq10.2.2.2.2.2.2.2.2.2.2.2.2.2.2.2.2.2.1; have b43 := hq10.2.2.2.2.2.2.2.2.2.2.2.2.2.2.2.2.2.2.1; have b44 := hq10.2.2.2.2.2.2.2.2.2.2.2.2.2.2.2.2.2.2.2.1; have b4f := hq10.2.2.2.2.2.2.2.2.2.2.2.2.2.2.2.2.2.2.2.2.2.2; have b4l := cell_lt b40; go_simp
  have hq12 := rn_set2 hbl hq11 (.int .i64 Ku) (.int .i64 Iu) (.float .f64 Fu) (.string Su) (.slice qu mu du); clear b40 b41 b42 b43 b44 b4f b4l
  go_wp2_with fail
  refine hK.out _ _ ?hsd9 (fun hHeld => ?_)
  case hsd9 => exact rn_ro hq12
  clear hK K
  (try simp only [Act.put, List.setIfInBounds_toArray, List.set_cons_zero, List.set_cons_succ])
  refine wpAnyH_done (by kernel_rfl) ?_ _
  have HGF := Lib.hid (show RN p l c bl ol k q d (.int .i64 Kt) (.int .i64 It) (.float .f64 Ft) (.string St) (.slice qt mt dt) (.int .i64 Ku) (.int .i64 Iu) (.float .f64 Fu) (.string Su) (.slice qu mu du) w ((((((((((w10.setCell ⟨w.heap.size + 1, 0, none⟩ (.int .i64 Kt)).setCell ⟨w.heap.size + 1, 1, none⟩ (.int .i64 It)).setCell ⟨w.heap.size + 1, 2, none⟩ (.float .f64 Ft)).setCell ⟨w.heap.size + 1, 3, none⟩ (.string St)).setCell ⟨w.heap.size + 1, 4, none⟩ (.slice qt mt dt)).setCell ⟨w.heap.size + 1 + 1, 0, none⟩ (.int .i64 Ku)).setCell ⟨w.heap.size + 1 + 1, 1, none⟩ (.int .i64 Iu)).setCell ⟨w.heap.size + 1 + 1, 2, none⟩ (.float .f64 Fu)).setCell ⟨w.heap.size + 1 + 1, 3, none⟩ (.string Su)).setCell ⟨w.heap.size + 1 + 1, 4, none⟩ (.slice qu mu du)) ∧ ∀ b : Nat, b ≠ w.heap.size + 1 → b ≠ w.heap.size + 1 + 1 → (((((((((((w10.setCell ⟨w.heap.size + 1, 0, none⟩ (.int .i64 Kt)).setCell ⟨w.heap.size + 1, 1, none⟩ (.int .i64 It)).setCell ⟨w.heap.size + 1, 2, none⟩ (.float .f64 Ft)).setCell ⟨w.heap.size + 1, 3, none⟩ (.string St)).setCell ⟨w.heap.size + 1, 4, none⟩ (.slice qt mt dt)).setCell ⟨w.heap.size + 1 + 1, 0, none⟩ (.int .i64 Ku)).setCell ⟨w.heap.size + 1 + 1, 1, none⟩ (.int .i64 Iu)).setCell ⟨w.heap.size + 1 + 1, 2, none⟩ (.float .f64 Fu)).setCell ⟨w.heap.size + 1 + 1, 3, none⟩ (.string Su)).setCell ⟨w.heap.size + 1 + 1, 4, none⟩ (.slice qu mu du))).heap[b]? = w10.heap[b]? from ⟨hq12, fun b h1 h2 => (set5_other (w := set5 w10 (w.heap.size + 1) 0 (.int .i64 Kt) (.int .i64 It) (.float .f64 Ft) (.string St) (.slice qt mt dt)) (g := w.heap.size + 1 + 1) (o := 0) h2).trans (set5_other (g := w.heap.size + 1) (o := 0) h1)⟩)
  clear hq12 hq11 hHeld hq10
  revert HGF
  generalize ((((((((((w10.setCell ⟨w.heap.size + 1, 0, none⟩ (.int .i64 Kt)).setCell ⟨w.heap.size + 1, 1, none⟩ (.int .i64 It)).setCell ⟨w.heap.size + 1, 2, none⟩ (.float .f64 Ft)).setCell ⟨w.heap.size + 1, 3, none⟩ (.string St)).setCell ⟨w.heap.size + 1, 4, none⟩ (.slice qt mt dt)).setCell ⟨w.heap.size + 1 + 1, 0, none⟩ (.int .i64 Ku)).setCell ⟨w.heap.size + 1 + 1, 1, none⟩ (.int .i64 Iu)).setCell ⟨w.heap.size + 1 + 1, 2, none⟩ (.float .f64 Fu)).setCell ⟨w.heap.size + 1 + 1, 3, none⟩ (.string Su)).setCell ⟨w.heap.size + 1 + 1, 4, none⟩ (.slice qu mu du)) = Wg
  intro HGF
  have HQG := Lib.hid HGF.out.1
  have HSG := Lib.hid HGF.out.2
  clear HGF
  have hqg := HQG.out
  have lg1 : w.heap.size + 1 < Wg.heap.size := cell_lt hqg.2.2.2.2.2.2.2.2.2.2.1
  have lg2 : w.heap.size + 1 + 1 < Wg.heap.size := cell_lt hqg.2.2.2.2.2.2.2.2.2.2.2.2.2.2.2.1
  clear hqg
  go_upto_region 7 with fail
  refine wp_region_held_drew (S := (fun z => z.cell? ⟨w.heap.size, 0, none⟩ = some (.int .i64 4) ∧ z.cell? ⟨w.heap.size, 1, none⟩ = some (.int .i64 0) ∧ z.cell? ⟨w.heap.size, 2, none⟩ = some (.float .f64 0) ∧ z.cell? ⟨w.heap.size, 3, none⟩ = some (.string ⟨#[]⟩) ∧ z.cell? ⟨w.heap.size, 4, none⟩ = some (.slice p l c) ∧ z.cell? ⟨bl, ol, none⟩ = some (.int .i64 3) ∧ z.cell? ⟨bl, ol + 1, none⟩ = some (.int .i64 0) ∧ z.cell? ⟨bl, ol + 2, none⟩ = some (.float .f64 0) ∧ z.cell? ⟨bl, ol + 3, none⟩ = some (.string k) ∧ z.cell? ⟨bl, ol + 4, none⟩ = some (.slice q 0 d) ∧ z.cell? ⟨w.heap.size + 1, 0, none⟩ = some (.int .i64 Kt) ∧ z.cell? ⟨w.heap.size + 1, 1, none⟩ = some (.int .i64 It) ∧ z.cell? ⟨w.heap.size + 1, 2, none⟩ = some (.float .f64 Ft) ∧ z.cell? ⟨w.heap.size + 1, 3, none⟩ = some (.string St) ∧ z.cell? ⟨w.heap.size + 1, 4, none⟩ = some (.slice qt mt dt) ∧ z.cell? ⟨w.heap.size + 1 + 1, 0, none⟩ = some (.int .i64 Ku) ∧ z.cell? ⟨w.heap.size + 1 + 1, 1, none⟩ = some (.int .i64 Iu) ∧ z.cell? ⟨w.heap.size + 1 + 1, 2, none⟩ = some (.float .f64 Fu) ∧ z.cell? ⟨w.heap.size + 1 + 1, 3, none⟩ = some (.string Su) ∧ z.cell? ⟨w.heap.size + 1 + 1, 4, none⟩ = some (.slice qu mu du))) (by kernel_rfl) ?_ (fun hHeld => ?_)
  · exact rn_all (rn_drew HQG.out)
  have HDW := Lib.hid (show RN p l c bl ol k q d (.int .i64 Kt) (.int .i64 It) (.float .f64 Ft) (.string St) (.slice qt mt dt) (.int .i64 Ku) (.int .i64 Iu) (.float .f64 Fu) (.string Su) (.slice qu mu du) w Wg.drew ∧ ∀ b : Nat, Wg.drew.heap[b]? = Wg.heap[b]? from ⟨rn_drew HQG.out, fun _ => rfl⟩)
  have hdz : Wg.drew.heap.size = Wg.heap.size := rfl
  revert HDW hHeld hdz
  generalize Wg.drew = Wd
  intro hHeld HDW hdz
  refine wpAnyH_take (i := 0) (oi := ?_) (v := ?_) ?hidx0 (by kernel_rfl) ?hfdx0 ?hrdx0 ?hQdx0 ?hydx0 (by assumption) ?restdx0
  case hidx0 => (simp only [List.getElem?_toArray, List.getElem?_cons_zero, List.getElem?_cons_succ]; rfl)
  case hfdx0 => kernel_rfl
  case hrdx0 => kernel_rfl
  case hydx0 => (refine Or.inl ⟨by rfl, ?_⟩; intro wS hSw; (try dsimp only at hSw); go_simp; (try with_reducible rfl))
  case hQdx0 => exact fun _ _ _ h => h
  (try simp only [Act.put, List.setIfInBounds_toArray, List.set_cons_zero, List.set_cons_succ])
  refine wpAnyH_take (i := 1) (oi := ?_) (v := ?_) ?hidx1 (by kernel_rfl) ?hfdx1 ?hrdx1 ?hQdx1 ?hydx1 (by assumption) ?restdx1
  case hidx1 => (simp only [List.getElem?_toArray, List.getElem?_cons_zero, List.getElem?_cons_succ]; rfl)
  case hfdx1 => kernel_rfl
  case hrdx1 => kernel_rfl
  case hydx1 => (refine Or.inl ⟨by rfl, ?_⟩; intro wS hSw; (try dsimp only at hSw); go_simp; (try with_reducible rfl))
  case hQdx1 => exact fun _ _ _ h => h
  (try simp only [Act.put, List.setIfInBounds_toArray, List.set_cons_zero, List.set_cons_succ])
  refine wpAnyH_ready (rs := [2]) (by kernel_rfl) (by simp) ?_
  refine AllReadyH.cons (o := ?_) ?hodx2 ?hstdx2 AllReadyH.nil
  case hodx2 => (simp only [List.getElem?_toArray, List.getElem?_cons_zero, List.getElem?_cons_succ]; rfl)
  intro K hK
  have hqd := HDW.out.1; have b30 := hqd.2.2.2.2.2.2.2.2.2.2.1; have b31 := hqd.2.2.2.2.2.2.2.2.2.2.2.1; have b32 := hqd.2.2.2.2.2.2.2.2.2.2.2.2.1; have b33 := hqd.2.2.2.2.2.2.2.2.2.2.2.2.2.1; have b34 := hqd.2.2.2.2.2.2.2.2.2.2.2.2.2.2.1; have b3f := hqd.2.2.2.2.2.2.2.2.2.2.2.2.2.2.2.2.2.2.2.2.2.1; have b3l := cell_lt b30; go_simp
  have hq11 := rn_set1 hbl hqd (.int .i64 Kt) (.int .i64 It) (.float .f64 Ft) (.string St) (.slice qt mt dt); clear b30 b31 b32 b33 b34 b3f b3l
  go_wp2_with fail
  refine hK.out _ _ ?hsdx2 (fun hHeld => ?_)
  case hsdx2 => exact rn_all hq11
  clear hK K
  (try simp only [Act.put, List.setIfInBounds_toArray, List.set_cons_zero, List.set_cons_succ])
  refine wpAnyH_ready (rs := [3]) (by kernel_rfl) (by simp) ?_
  refine AllReadyH.cons (o := ?_) ?hodx3 ?hstdx3 AllReadyH.nil
  case hodx3 => (simp only [List.getElem?_toArray, List.getElem?_cons_zero, List.getElem?_cons_succ]; rfl)
  intro K hK
  have b40 := hqd.2.2.2.2.2.2.2.2.2.2.2.2.2.2.2.1; have b41 := hqd.2.2.2.2.2.2.2.2.2.2.2.2.2.2.2.2.1; have b42 := hqd.2.2.2.2.2.2.2.2.2.2.2.2.2.2.2.2.2.1; have b43 := hqd.2.2.2.2.2.2.2.2.2.2.2.2.2.2.2.2.2.2.1; have b44 := hqd.2.2.2.2.2.2.2.2.2.2.2.2.2.2.2.2.2.2.2.1; have b4f := hqd.2.2.2.2.2.2.2.2.2.2.2.2.2.2.2.2.2.2.2.2.2.2; have b4l := cell_lt b40; go_simp
  have hq12 := rn_set2 hbl hq11 (.int .i64 Ku) (.int .i64 Iu) (.float .f64 Fu) (.string Su) (.slice qu mu du); clear b40 b41 b42 b43 b44 b4f b4l
  go_wp2_with fail
  refine hK.out _ _ ?hsdx3 (fun hHeld => ?_)
  case hsdx3 => exact rn_all hq12
  clear hK K
  (try simp only [Act.put, List.setIfInBounds_toArray, List.set_cons_zero, List.set_cons_succ])
  refine wpAnyH_take (i := 4) (oi := ?_) (v := ?_) ?hidx4 (by kernel_rfl) ?hfdx4 ?hrdx4 ?hQdx4 ?hydx4 (by assumption) ?restdx4
  case hidx4 => (simp only [List.getElem?_toArray, List.getElem?_cons_zero, List.getElem?_cons_succ]; rfl)
  case hfdx4 => kernel_rfl
  case hrdx4 => kernel_rfl
  case hydx4 => (refine Or.inl ⟨by rfl, ?_⟩; intro wS hSw; (try dsimp only at hSw); go_simp; (try with_reducible rfl))
  case hQdx4 => exact fun _ _ _ h => h
  (try simp only [Act.put, List.setIfInBounds_toArray, List.set_cons_zero, List.set_cons_succ])
  refine wpAnyH_done (by kernel_rfl) ?_ _
  have HGF := Lib.hid (show RN p l c bl ol k q d (.int .i64 Kt) (.int .i64 It) (.float .f64 Ft) (.string St) (.slice qt mt dt) (.int .i64 Ku) (.int .i64 Iu) (.float .f64 Fu) (.string Su) (.slice qu mu du) w ((((((((((Wd.setCell ⟨w.heap.size + 1, 0, none⟩ (.int .i64 Kt)).setCell ⟨w.heap.size + 1, 1, none⟩ (.int .i64 It)).setCell ⟨w.heap.size + 1, 2, none⟩ (.float .f64 Ft)).setCell ⟨w.heap.size + 1, 3, none⟩ (.string St)).setCell ⟨w.heap.size + 1, 4, none⟩ (.slice qt mt dt)).setCell ⟨w.heap.size + 1 + 1, 0, none⟩ (.int .i64 Ku)).setCell ⟨w.heap.size + 1 + 1, 1, none⟩ (.int .i64 Iu)).setCell ⟨w.heap.size + 1 + 1, 2, none⟩ (.float .f64 Fu)).setCell ⟨w.heap.size + 1 + 1, 3, none⟩ (.string Su)).setCell ⟨w.heap.size + 1 + 1, 4, none⟩ (.slice qu mu du)) ∧ ∀ b : Nat, b ≠ w.heap.size + 1 → b ≠ w.heap.size + 1 + 1 → (((((((((((Wd.setCell ⟨w.heap.size + 1, 0, none⟩ (.int .i64 Kt)).setCell ⟨w.heap.size + 1, 1, none⟩ (.int .i64 It)).setCell ⟨w.heap.size + 1, 2, none⟩ (.float .f64 Ft)).setCell ⟨w.heap.size + 1, 3, none⟩ (.string St)).setCell ⟨w.heap.size + 1, 4, none⟩ (.slice qt mt dt)).setCell ⟨w.heap.size + 1 + 1, 0, none⟩ (.int .i64 Ku)).setCell ⟨w.heap.size + 1 + 1, 1, none⟩ (.int .i64 Iu)).setCell ⟨w.heap.size + 1 + 1, 2, none⟩ (.float .f64 Fu)).setCell ⟨w.heap.size + 1 + 1, 3, none⟩ (.string Su)).setCell ⟨w.heap.size + 1 + 1, 4, none⟩ (.slice qu mu du))).heap[b]? = Wd.heap[b]? from ⟨hq12, fun b h1 h2 => (set5_other (w := set5 Wd (w.heap.size + 1) 0 (.int .i64 Kt) (.int .i64 It) (.float .f64 Ft) (.string St) (.slice qt mt dt)) (g := w.heap.size + 1 + 1) (o := 0) h2).trans (set5_other (g := w.heap.size + 1) (o := 0) h1)⟩)
  clear hq12 hq11 hHeld
  revert HGF
  generalize ((((((((((Wd.setCell ⟨w.heap.size + 1, 0, none⟩ (.int .i64 Kt)).setCell ⟨w.heap.size + 1, 1, none⟩ (.int .i64 It)).setCell ⟨w.heap.size + 1, 2, none⟩ (.float .f64 Ft)).setCell ⟨w.heap.size + 1, 3, none⟩ (.string St)).setCell ⟨w.heap.size + 1, 4, none⟩ (.slice qt mt dt)).setCell ⟨w.heap.size + 1 + 1, 0, none⟩ (.int .i64 Ku)).setCell ⟨w.heap.size + 1 + 1, 1, none⟩ (.int .i64 Iu)).setCell ⟨w.heap.size + 1 + 1, 2, none⟩ (.float .f64 Fu)).setCell ⟨w.heap.size + 1 + 1, 3, none⟩ (.string Su)).setCell ⟨w.heap.size + 1 + 1, 4, none⟩ (.slice qu mu du)) = Wf
  intro HGF
  have hqf := HGF.out.1
  have b30 := hqf.2.2.2.2.2.2.2.2.2.2.1
  have b31 := hqf.2.2.2.2.2.2.2.2.2.2.2.1
  have b32 := hqf.2.2.2.2.2.2.2.2.2.2.2.2.1
  have b33 := hqf.2.2.2.2.2.2.2.2.2.2.2.2.2.1
  have b34 := hqf.2.2.2.2.2.2.2.2.2.2.2.2.2.2.1
  have b40 := hqf.2.2.2.2.2.2.2.2.2.2.2.2.2.2.2.1
  have b41 := hqf.2.2.2.2.2.2.2.2.2.2.2.2.2.2.2.2.1
  have b42 := hqf.2.2.2.2.2.2.2.2.2.2.2.2.2.2.2.2.2.1
  have b43 := hqf.2.2.2.2.2.2.2.2.2.2.2.2.2.2.2.2.2.2.1
  have b44 := hqf.2.2.2.2.2.2.2.2.2.2.2.2.2.2.2.2.2.2.2.1
  clear hqf
  go_wp2
  refine bodyPost_ret (v := .tuple #[.agg #[.int .i64 Kt, .int .i64 It, .float .f64 Ft, .string St, .slice qt mt dt], .agg #[.int .i64 Ku, .int .i64 Iu, .float .f64 Fu, .string Su, .slice qu mu du], .int .i64 0]) (by simp [results, Try.results25, go_sem, b30, b31, b32, b33, b34, b40, b41, b42, b43, b44]) rfl ⟨_, _, rfl, HGF.out.1.2.2.2.2.2.2.2.2.2.2.2.2.2.2.2.2.2.2.2.2.1, HTT.out Wf HGF.out.1.2.2.2.2.2.2.2.2.2.2.2.2.2.2.2.2.2.2.2.2.1 (fun b h1 h2 => (HGF.out.2 b (by rw [World.size_drew] at h1; omega) (by rw [World.size_drew] at h1; omega)).trans ((HDW.out.2 b).trans (HSG.out b (by rw [World.size_drew] at h1; omega) (by rw [World.size_drew] at h1; omega)))), rep_keep HGF.out.1.2.2.2.2.2.2.2.2.2.2.2.2.2.2.2.2.2.2.2.2.1 _ _ _ HU.out⟩
set_option maxRecDepth 100000 in
set_option maxHeartbeats 4000000 in
theorem run_get (n : Nat) (p : Option Addr) (l c : Nat) (bl ol : Nat) (k : ByteArray) (q : Option Addr) (d : Nat) (cl : Nat) (w : World) (n0 : w.cell? ⟨bl, ol, none⟩ = some (.int .i64 3)) (n1 : w.cell? ⟨bl, ol + 1, none⟩ = some (.int .i64 0)) (n2 : w.cell? ⟨bl, ol + 2, none⟩ = some (.float .f64 0)) (n3 : w.cell? ⟨bl, ol + 3, none⟩ = some (.string k)) (n4 : w.cell? ⟨bl, ol + 4, none⟩ = some (.slice q 0 d)) (T : VT (n + 3)) (H : VT (n + 1)) (HS : Hid (Rep w (n + 3) (.agg #[.int .i64 4, .int .i64 0, .float .f64 0, .string ⟨#[]⟩, .slice p l c]) T)) (a bh : Nat) (q9 : Option Addr) (hab : a ≤ bh) (hbc : bh ≤ c)
    (HF : Hid (∀ W, Below w.heap.size w W → Calls Try.prog 52 #[.slice p l c, .string k] W fun e w' => e = .returned (.tuple #[.int .i64 a, .int .i64 bh]) ∧ Below W.heap.size W w'))
    (HH : Hid (∀ W, Below w.heap.size w W → Calls Try.prog 53 #[.slice q9 (bh - a) (c - a)] W fun e w' => ∃ u, e = .returned u ∧ Below W.heap.size W w' ∧ Rep w (n + 1) u H))
    (hq9 : (if c = a then p else p.map (·.add (a * 5))) = q9) :
    Calls Try.prog 25 #[.agg #[.int .i64 4, .int .i64 0, .float .f64 0, .string ⟨#[]⟩, .slice p l c], .string { data := #[103, 101, 116] }, .slice (some ⟨bl, ol, none⟩) 1 cl] w fun e w' => RunQ w (n + 3) (n + 1) T H 0 e w' := by
  have hbl : bl < w.heap.size := cell_lt n0
  have ha0 : (0 : Int) ≤ (a : Int) := by omega
  have hab2 : (a : Int) ≤ (bh : Int) := by omega
  have hbc2 : (bh : Int) ≤ (c : Int) := by omega
  obtain ⟨oa, hoa⟩ : ∃ o, Obj.cells #[.int .i64 4, .int .i64 0, .float .f64 0, .string ⟨#[]⟩, .slice p l c] 27 = o := ⟨_, rfl⟩
  obtain ⟨oz, hoz⟩ : ∃ o, Obj.cells #[.int .i64 0, .int .i64 0, .float .f64 0, .string ⟨#[]⟩, .slice none 0 0] 27 = o := ⟨_, rfl⟩
  have hB : Below w.heap.size w (((w.alloc oa).alloc oz).alloc oz) := bel_alloc (bel_alloc (bel_alloc (Below.refl w.heap.size w) oa) oz) oz
  have r0 := row_alloc_step (row_alloc_step (row_alloc w #[.int .i64 4, .int .i64 0, .float .f64 0, .string ⟨#[]⟩, .slice p l c] 27) oz) oz
  rw [hoa] at r0
  have r1 := row_alloc_step (row_alloc (w.alloc oa) #[.int .i64 0, .int .i64 0, .float .f64 0, .string ⟨#[]⟩, .slice none 0 0] 27) oz
  rw [hoz] at r1
  have r2 := row_alloc ((w.alloc oa).alloc oz) #[.int .i64 0, .int .i64 0, .float .f64 0, .string ⟨#[]⟩, .slice none 0 0] 27
  rw [hoz] at r2
  simp only [World.size_alloc] at r0 r1 r2
  have HB := Lib.hid hB
  subst hoa hoz
  have HG0 := Lib.hid (show RN p l c bl ol k q d (.int .i64 0) (.int .i64 0) (.float .f64 0) (.string ⟨#[]⟩) (.slice none 0 0) (.int .i64 0) (.int .i64 0) (.float .f64 0) (.string ⟨#[]⟩) (.slice none 0 0) w (((w.alloc (.cells #[.int .i64 4, .int .i64 0, .float .f64 0, .string ⟨#[]⟩, .slice p l c] 27)).alloc (.cells #[.int .i64 0, .int .i64 0, .float .f64 0, .string ⟨#[]⟩, .slice none 0 0] 27)).alloc (.cells #[.int .i64 0, .int .i64 0, .float .f64 0, .string ⟨#[]⟩, .slice none 0 0] 27)) ∧ ((((w.alloc (.cells #[.int .i64 4, .int .i64 0, .float .f64 0, .string ⟨#[]⟩, .slice p l c] 27)).alloc (.cells #[.int .i64 0, .int .i64 0, .float .f64 0, .string ⟨#[]⟩, .slice none 0 0] 27)).alloc (.cells #[.int .i64 0, .int .i64 0, .float .f64 0, .string ⟨#[]⟩, .slice none 0 0] 27))).heap.size = w.heap.size + 1 + 1 + 1 from ⟨⟨row_cell r0 0, row_cell r0 1, row_cell r0 2, row_cell r0 3, row_cell r0 4, cell_keep hB n0, cell_keep hB n1, cell_keep hB n2, cell_keep hB n3, cell_keep hB n4, row_cell r1 0, row_cell r1 1, row_cell r1 2, row_cell r1 3, row_cell r1 4, row_cell r2 0, row_cell r2 1, row_cell r2 2, row_cell r2 3, row_cell r2 4, HB.out, fun o => row_frz r1 o, fun o => row_frz r2 o⟩, by simp only [World.size_alloc]⟩)
  clear r0 r1 r2 hB HB n0 n1 n2 n3 n4
  go_enter Try.func25, Try.ntmps25
  go_upto_region 9 with fail
  revert HG0
  generalize (((w.alloc (.cells #[.int .i64 4, .int .i64 0, .float .f64 0, .string ⟨#[]⟩, .slice p l c] 27)).alloc (.cells #[.int .i64 0, .int .i64 0, .float .f64 0, .string ⟨#[]⟩, .slice none 0 0] 27)).alloc (.cells #[.int .i64 0, .int .i64 0, .float .f64 0, .string ⟨#[]⟩, .slice none 0 0] 27)) = Wz
  intro HG0
  have HP0 := Lib.hid HG0.out.1
  have hzw := HG0.out.2
  have hp0 := HP0.out
  have l0 : w.heap.size < Wz.heap.size := by omega
  refine wp_region_held_drew (S := (fun z => z.cell? ⟨w.heap.size, 0, none⟩ = some (.int .i64 4) ∧ z.cell? ⟨w.heap.size, 1, none⟩ = some (.int .i64 0) ∧ z.cell? ⟨w.heap.size, 2, none⟩ = some (.float .f64 0) ∧ z.cell? ⟨w.heap.size, 3, none⟩ = some (.string ⟨#[]⟩) ∧ z.cell? ⟨w.heap.size, 4, none⟩ = some (.slice p l c) ∧ z.cell? ⟨bl, ol, none⟩ = some (.int .i64 3) ∧ z.cell? ⟨bl, ol + 1, none⟩ = some (.int .i64 0) ∧ z.cell? ⟨bl, ol + 2, none⟩ = some (.float .f64 0) ∧ z.cell? ⟨bl, ol + 3, none⟩ = some (.string k) ∧ z.cell? ⟨bl, ol + 4, none⟩ = some (.slice q 0 d))) (by kernel_rfl) ?_ (fun hHeld => ?_)
  · exact rn_ro (rn_drew HP0.out)
  refine wpAnyH_take (i := 0) (oi := ?_) (v := ?_) ?hig0 (by kernel_rfl) ?hfg0 ?hrg0 ?hQg0 ?hyg0 (by assumption) ?restg0
  case hig0 => (simp only [List.getElem?_toArray, List.getElem?_cons_zero, List.getElem?_cons_succ]; rfl)
  case hfg0 => kernel_rfl
  case hrg0 => kernel_rfl
  case hyg0 => (refine Or.inl ⟨by rfl, ?_⟩; intro wS hSw; (try dsimp only at hSw); go_simp; (try with_reducible rfl))
  case hQg0 => exact fun _ _ _ h => h
  (try simp only [Act.put, List.setIfInBounds_toArray, List.set_cons_zero, List.set_cons_succ])
  refine wpAnyH_take (i := 1) (oi := ?_) (v := ?_) ?hig1 (by kernel_rfl) ?hfg1 ?hrg1 ?hQg1 ?hyg1 (by assumption) ?restg1
  case hig1 => (simp only [List.getElem?_toArray, List.getElem?_cons_zero, List.getElem?_cons_succ]; rfl)
  case hfg1 => kernel_rfl
  case hrg1 => kernel_rfl
  case hyg1 => (refine Or.inl ⟨by rfl, ?_⟩; intro wS hSw; (try dsimp only at hSw); go_simp; (try with_reducible rfl))
  case hQg1 => exact fun _ _ _ h => h
  (try simp only [Act.put, List.setIfInBounds_toArray, List.set_cons_zero, List.set_cons_succ])
  refine wpAnyH_take (i := 2) (oi := ?_) (v := ?_) ?hig2 (by kernel_rfl) ?hfg2 ?hrg2 ?hQg2 ?hyg2 (by assumption) ?restg2
  case hig2 => (simp only [List.getElem?_toArray, List.getElem?_cons_zero, List.getElem?_cons_succ]; rfl)
  case hfg2 => kernel_rfl
  case hrg2 => kernel_rfl
  case hyg2 => (refine Or.inl ⟨by rfl, ?_⟩; intro wS hSw; (try dsimp only at hSw); go_simp; (try with_reducible rfl))
  case hQg2 => exact fun _ _ _ h => h
  (try simp only [Act.put, List.setIfInBounds_toArray, List.set_cons_zero, List.set_cons_succ])
  refine wpAnyH_take (i := 3) (oi := ?_) (v := ?_) ?hig3 (by kernel_rfl) ?hfg3 ?hrg3 ?hQg3 ?hyg3 (by assumption) ?restg3
  case hig3 => (simp only [List.getElem?_toArray, List.getElem?_cons_zero, List.getElem?_cons_succ]; rfl)
  case hfg3 => kernel_rfl
  case hrg3 => kernel_rfl
  case hyg3 => (refine Or.inl ⟨by rfl, ?_⟩; intro wS hSw; (try dsimp only at hSw); go_simp; (try with_reducible rfl))
  case hQg3 => exact fun _ _ _ h => h
  (try simp only [Act.put, List.setIfInBounds_toArray, List.set_cons_zero, List.set_cons_succ])
  refine wpAnyH_take (i := 4) (oi := ?_) (v := ?_) ?hig4 (by kernel_rfl) ?hfg4 ?hrg4 ?hQg4 ?hyg4 (by assumption) ?restg4
  case hig4 => (simp only [List.getElem?_toArray, List.getElem?_cons_zero, List.getElem?_cons_succ]; rfl)
  case hfg4 => kernel_rfl
  case hrg4 => kernel_rfl
  case hyg4 => (refine Or.inl ⟨by rfl, ?_⟩; intro wS hSw; (try dsimp only at hSw); go_simp; (try with_reducible rfl))
  case hQg4 => exact fun _ _ _ h => h
  (try simp only [Act.put, List.setIfInBounds_toArray, List.set_cons_zero, List.set_cons_succ])
  refine wpAnyH_take (i := 5) (oi := ?_) (v := ?_) ?hig5 (by kernel_rfl) ?hfg5 ?hrg5 ?hQg5 ?hyg5 (by assumption) ?restg5
  case hig5 => (simp only [List.getElem?_toArray, List.getElem?_cons_zero, List.getElem?_cons_succ]; rfl)
  case hfg5 => kernel_rfl
  case hrg5 => kernel_rfl
  case hyg5 => (refine Or.inl ⟨by rfl, ?_⟩; intro wS hSw; (try dsimp only at hSw); go_simp; (try with_reducible rfl))
  case hQg5 => exact fun _ _ _ h => h
  (try simp only [Act.put, List.setIfInBounds_toArray, List.set_cons_zero, List.set_cons_succ])
  refine wpAnyH_ready (rs := [6]) (by kernel_rfl) (by simp) ?_
  refine AllReadyH.cons (o := ?_) ?hog6 ?hstg6 AllReadyH.nil
  case hog6 => (simp only [List.getElem?_toArray, List.getElem?_cons_zero, List.getElem?_cons_succ]; rfl)
  intro K hK
  go_simp
  go_at_call 52; refine (HF.out _ (rn_drew HP0.out).2.2.2.2.2.2.2.2.2.2.2.2.2.2.2.2.2.2.2.2.1).mono ?_; rintro e w9 ⟨rfl, hb9⟩; have hq9' := rn_step (rn_drew HP0.out) hb9; clear hb9
  go_wp2_with fail
  refine hK.out _ _ ?hsg6 (fun hHeld => ?_)
  case hsg6 => exact rn_ro hq9'
  clear hK K
  (try simp only [Act.put, List.setIfInBounds_toArray, List.set_cons_zero, List.set_cons_succ])
  refine wpAnyH_take (i := 7) (oi := ?_) (v := ?_) ?hig7 (by kernel_rfl) ?hfg7 ?hrg7 ?hQg7 ?hyg7 (by assumption) ?restg7
  case hig7 => (simp only [List.getElem?_toArray, List.getElem?_cons_zero, List.getElem?_cons_succ]; rfl)
  case hfg7 => kernel_rfl
  case hrg7 => kernel_rfl
  case hyg7 => (refine Or.inl ⟨by rfl, ?_⟩; intro wS hSw; (try dsimp only at hSw); go_simp; (try with_reducible rfl))
  case hQg7 => exact fun _ _ _ h => h
  (try simp only [Act.put, List.setIfInBounds_toArray, List.set_cons_zero, List.set_cons_succ])
  refine wpAnyH_take (i := 8) (oi := ?_) (v := ?_) ?hig8 (by kernel_rfl) ?hfg8 ?hrg8 ?hQg8 ?hyg8 (by assumption) ?restg8
  case hig8 => (simp only [List.getElem?_toArray, List.getElem?_cons_zero, List.getElem?_cons_succ]; rfl)
  case hfg8 => kernel_rfl
  case hrg8 => kernel_rfl
  case hyg8 => (refine Or.inl ⟨by rfl, ?_⟩; intro wS hSw; (try dsimp only at hSw); go_simp; (try with_reducible rfl))
  case hQg8 => exact fun _ _ _ h => h
  (try simp only [Act.put, List.setIfInBounds_toArray, List.set_cons_zero, List.set_cons_succ])
  refine wpAnyH_take (i := 9) (oi := ?_) (v := ?_) ?hig9 (by kernel_rfl) ?hfg9 ?hrg9 ?hQg9 ?hyg9 (by assumption) ?restg9
  case hig9 => (simp only [List.getElem?_toArray, List.getElem?_cons_zero, List.getElem?_cons_succ]; rfl)
  case hfg9 => kernel_rfl
  case hrg9 => kernel_rfl
  case hyg9 => (refine Or.inl ⟨by rfl, ?_⟩; intro wS hSw; (try dsimp only at hSw); go_simp; (try with_reducible rfl))
  case hQg9 => exact fun _ _ _ h => h
  (try simp only [Act.put, List.setIfInBounds_toArray, List.set_cons_zero, List.set_cons_succ])
  refine wpAnyH_take (i := 10) (oi := ?_) (v := ?_) ?hig10 (by kernel_rfl) ?hfg10 ?hrg10 ?hQg10 ?hyg10 (by assumption) ?restg10
  case hig10 => (simp only [List.getElem?_toArray, List.getElem?_cons_zero, List.getElem?_cons_succ]; rfl)
  case hfg10 => kernel_rfl
  case hrg10 => kernel_rfl
  case hyg10 => (refine Or.inl ⟨by rfl, ?_⟩; intro wS hSw; (try dsimp only at hSw); go_simp; (try with_reducible rfl))
  case hQg10 => exact fun _ _ _ h => h
  (try simp only [Act.put, List.setIfInBounds_toArray, List.set_cons_zero, List.set_cons_succ])
  refine wpAnyH_take (i := 11) (oi := ?_) (v := ?_) ?hig11 (by kernel_rfl) ?hfg11 ?hrg11 ?hQg11 ?hyg11 (by assumption) ?restg11
  case hig11 => (simp only [List.getElem?_toArray, List.getElem?_cons_zero, List.getElem?_cons_succ]; rfl)
  case hfg11 => kernel_rfl
  case hrg11 => kernel_rfl
  case hyg11 => (refine Or.inl ⟨by rfl, ?_⟩; intro wS hSw; (try dsimp only at hSw); go_simp; (try with_reducible rfl))
  case hQg11 => exact fun _ _ _ h => h
  (try simp only [Act.put, List.setIfInBounds_toArray, List.set_cons_zero, List.set_cons_succ])
  refine wpAnyH_done (by kernel_rfl) ?_ _
  have HQG := Lib.hid hq9'
  have lg0 : w.heap.size < w9.heap.size := cell_lt hq9'.1
  clear hq9' hHeld
  go_upto_region 10 with fail
  refine wp_region_held_drew (S := (fun z => z.cell? ⟨w.heap.size, 0, none⟩ = some (.int .i64 4) ∧ z.cell? ⟨w.heap.size, 1, none⟩ = some (.int .i64 0) ∧ z.cell? ⟨w.heap.size, 2, none⟩ = some (.float .f64 0) ∧ z.cell? ⟨w.heap.size, 3, none⟩ = some (.string ⟨#[]⟩) ∧ z.cell? ⟨w.heap.size, 4, none⟩ = some (.slice p l c) ∧ z.cell? ⟨bl, ol, none⟩ = some (.int .i64 3) ∧ z.cell? ⟨bl, ol + 1, none⟩ = some (.int .i64 0) ∧ z.cell? ⟨bl, ol + 2, none⟩ = some (.float .f64 0) ∧ z.cell? ⟨bl, ol + 3, none⟩ = some (.string k) ∧ z.cell? ⟨bl, ol + 4, none⟩ = some (.slice q 0 d))) (by kernel_rfl) ?_ (fun hHeld => ?_)
  · exact rn_ro (rn_drew HQG.out)
  refine wpAnyH_take (i := 0) (oi := ?_) (v := ?_) ?higx0 (by kernel_rfl) ?hfgx0 ?hrgx0 ?hQgx0 ?hygx0 (by assumption) ?restgx0
  case higx0 => (simp only [List.getElem?_toArray, List.getElem?_cons_zero, List.getElem?_cons_succ]; rfl)
  case hfgx0 => kernel_rfl
  case hrgx0 => kernel_rfl
  case hygx0 => (refine Or.inl ⟨by rfl, ?_⟩; intro wS hSw; (try dsimp only at hSw); go_simp; (try with_reducible rfl))
  case hQgx0 => exact fun _ _ _ h => h
  (try simp only [Act.put, List.setIfInBounds_toArray, List.set_cons_zero, List.set_cons_succ])
  refine wpAnyH_take (i := 1) (oi := ?_) (v := ?_) ?higx1 (by kernel_rfl) ?hfgx1 ?hrgx1 ?hQgx1 ?hygx1 (by assumption) ?restgx1
  case higx1 => (simp only [List.getElem?_toArray, List.getElem?_cons_zero, List.getElem?_cons_succ]; rfl)
  case hfgx1 => kernel_rfl
  case hrgx1 => kernel_rfl
  case hygx1 => (refine Or.inl ⟨by rfl, ?_⟩; intro wS hSw; (try dsimp only at hSw); go_simp; (try with_reducible rfl))
  case hQgx1 => exact fun _ _ _ h => h
  (try simp only [Act.put, List.setIfInBounds_toArray, List.set_cons_zero, List.set_cons_succ])
  refine wpAnyH_take (i := 2) (oi := ?_) (v := ?_) ?higx2 (by kernel_rfl) ?hfgx2 ?hrgx2 ?hQgx2 ?hygx2 (by assumption) ?restgx2
  case higx2 => (simp only [List.getElem?_toArray, List.getElem?_cons_zero, List.getElem?_cons_succ]; rfl)
  case hfgx2 => kernel_rfl
  case hrgx2 => kernel_rfl
  case hygx2 => (refine Or.inl ⟨by rfl, ?_⟩; intro wS hSw; (try dsimp only at hSw); go_simp; (try with_reducible rfl))
  case hQgx2 => exact fun _ _ _ h => h
  (try simp only [Act.put, List.setIfInBounds_toArray, List.set_cons_zero, List.set_cons_succ])
  refine wpAnyH_take (i := 3) (oi := ?_) (v := ?_) ?higx3 (by kernel_rfl) ?hfgx3 ?hrgx3 ?hQgx3 ?hygx3 (by assumption) ?restgx3
  case higx3 => (simp only [List.getElem?_toArray, List.getElem?_cons_zero, List.getElem?_cons_succ]; rfl)
  case hfgx3 => kernel_rfl
  case hrgx3 => kernel_rfl
  case hygx3 => (refine Or.inl ⟨by rfl, ?_⟩; intro wS hSw; (try dsimp only at hSw); go_simp; (try with_reducible rfl))
  case hQgx3 => exact fun _ _ _ h => h
  (try simp only [Act.put, List.setIfInBounds_toArray, List.set_cons_zero, List.set_cons_succ])
  refine wpAnyH_take (i := 4) (oi := ?_) (v := ?_) ?higx4 (by kernel_rfl) ?hfgx4 ?hrgx4 ?hQgx4 ?hygx4 (by assumption) ?restgx4
  case higx4 => (simp only [List.getElem?_toArray, List.getElem?_cons_zero, List.getElem?_cons_succ]; rfl)
  case hfgx4 => kernel_rfl
  case hrgx4 => kernel_rfl
  case hygx4 => (refine Or.inl ⟨by rfl, ?_⟩; intro wS hSw; (try dsimp only at hSw); go_simp; (try with_reducible rfl))
  case hQgx4 => exact fun _ _ _ h => h
  (try simp only [Act.put, List.setIfInBounds_toArray, List.set_cons_zero, List.set_cons_succ])
  refine wpAnyH_take (i := 5) (oi := ?_) (v := ?_) ?higx5 (by kernel_rfl) ?hfgx5 ?hrgx5 ?hQgx5 ?hygx5 (by assumption) ?restgx5
  case higx5 => (simp only [List.getElem?_toArray, List.getElem?_cons_zero, List.getElem?_cons_succ]; rfl)
  case hfgx5 => kernel_rfl
  case hrgx5 => kernel_rfl
  case hygx5 => (refine Or.inl ⟨by rfl, ?_⟩; intro wS hSw; (try dsimp only at hSw); go_simp; (try with_reducible rfl))
  case hQgx5 => exact fun _ _ _ h => h
  (try simp only [Act.put, List.setIfInBounds_toArray, List.set_cons_zero, List.set_cons_succ])
  refine wpAnyH_ready (rs := [6]) (by kernel_rfl) (by simp) ?_
  refine AllReadyH.cons (o := ?_) ?hogx6 ?hstgx6 AllReadyH.nil
  case hogx6 => (simp only [List.getElem?_toArray, List.getElem?_cons_zero, List.getElem?_cons_succ]; rfl)
  intro K hK
  go_simp
  go_at_call 53; refine (HH.out _ (rn_drew HQG.out).2.2.2.2.2.2.2.2.2.2.2.2.2.2.2.2.2.2.2.2.1).mono ?_; rintro e w10 ⟨u, rfl, hb10, hu⟩; have hq10 := rn_step (rn_drew HQG.out) hb10; obtain ⟨Ku, Iu, Fu, Su, qu, mu, du, rfl, _⟩ := rep_shape hu; have HU := Lib.hid hu; clear hb10 hu
  go_wp2_with fail
  refine hK.out _ _ ?hsgx6 (fun hHeld => ?_)
  case hsgx6 => exact rn_ro hq10
  clear hK K
  (try simp only [Act.put, List.setIfInBounds_toArray, List.set_cons_zero, List.set_cons_succ])
  refine wpAnyH_ready (rs := [7]) (by kernel_rfl) (by simp) ?_
  refine AllReadyH.cons (o := ?_) ?hogx7 ?hstgx7 AllReadyH.nil
  case hogx7 => (simp only [List.getElem?_toArray, List.getElem?_cons_zero, List.getElem?_cons_succ]; rfl)
  intro K hK
  have b30 := hq10.2.2.2.2.2.2.2.2.2.2.1; have b31 := hq10.2.2.2.2.2.2.2.2.2.2.2.1; have b32 := hq10.2.2.2.2.2.2.2.2.2.2.2.2.1; have b33 := hq10.2.2.2.2.2.2.2.2.2.2.2.2.2.1; have b34 := hq10.2.2.2.2.2.2.2.2.2.2.2.2.2.2.1; have b3f := hq10.2.2.2.2.2.2.2.2.2.2.2.2.2.2.2.2.2.2.2.2.2.1; have b3l := cell_lt b30; go_simp
  have hq11 := rn_set1 hbl hq10 (.int .i64 4) (.int .i64 0) (.float .f64 0) (.string ⟨#[]⟩) (.slice p l c); clear b30 b31 b32 b33 b34 b3f b3l
  go_wp2_with fail
  refine hK.out _ _ ?hsgx7 (fun hHeld => ?_)
  case hsgx7 => exact rn_ro hq11
  clear hK K
  (try simp only [Act.put, List.setIfInBounds_toArray, List.set_cons_zero, List.set_cons_succ])
  refine wpAnyH_ready (rs := [8]) (by kernel_rfl) (by simp) ?_
  refine AllReadyH.cons (o := ?_) ?hogx8 ?hstgx8 AllReadyH.nil
  case hogx8 => (simp only [List.getElem?_toArray, List.getElem?_cons_zero, List.getElem?_cons_succ]; rfl)
  intro K hK
  have b40 := hq10.2.2.2.2.2.2.2.2.2.2.2.2.2.2.2.1; have b41 := hq10.2.2.2.2.2.2.2.2.2.2.2.2.2.2.2.2.1; have b42 := hq10.2.2.2.2.2.2.2.2.2.2.2.2.2.2.2.2.2.1; have b43 := hq10.2.2.2.2.2.2.2.2.2.2.2.2.2.2.2.2.2.2.1; have b44 := hq10.2.2.2.2.2.2.2.2.2.2.2.2.2.2.2.2.2.2.2.1; have b4f := hq10.2.2.2.2.2.2.2.2.2.2.2.2.2.2.2.2.2.2.2.2.2.2; have b4l := cell_lt b40; go_simp
  have hq12 := rn_set2 hbl hq11 (.int .i64 Ku) (.int .i64 Iu) (.float .f64 Fu) (.string Su) (.slice qu mu du); clear b40 b41 b42 b43 b44 b4f b4l
  go_wp2_with fail
  refine hK.out _ _ ?hsgx8 (fun hHeld => ?_)
  case hsgx8 => exact rn_ro hq12
  clear hK K
  (try simp only [Act.put, List.setIfInBounds_toArray, List.set_cons_zero, List.set_cons_succ])
  refine wpAnyH_take (i := 9) (oi := ?_) (v := ?_) ?higx9 (by kernel_rfl) ?hfgx9 ?hrgx9 ?hQgx9 ?hygx9 (by assumption) ?restgx9
  case higx9 => (simp only [List.getElem?_toArray, List.getElem?_cons_zero, List.getElem?_cons_succ]; rfl)
  case hfgx9 => kernel_rfl
  case hrgx9 => kernel_rfl
  case hygx9 => (refine Or.inl ⟨by rfl, ?_⟩; intro wS hSw; (try dsimp only at hSw); go_simp; (try with_reducible rfl))
  case hQgx9 => exact fun _ _ _ h => h
  (try simp only [Act.put, List.setIfInBounds_toArray, List.set_cons_zero, List.set_cons_succ])
  refine wpAnyH_done (by kernel_rfl) ?_ _
  have HGF := Lib.hid (show RN p l c bl ol k q d (.int .i64 4) (.int .i64 0) (.float .f64 0) (.string ⟨#[]⟩) (.slice p l c) (.int .i64 Ku) (.int .i64 Iu) (.float .f64 Fu) (.string Su) (.slice qu mu du) w ((((((((((w10.setCell ⟨w.heap.size + 1, 0, none⟩ (.int .i64 4)).setCell ⟨w.heap.size + 1, 1, none⟩ (.int .i64 0)).setCell ⟨w.heap.size + 1, 2, none⟩ (.float .f64 0)).setCell ⟨w.heap.size + 1, 3, none⟩ (.string ⟨#[]⟩)).setCell ⟨w.heap.size + 1, 4, none⟩ (.slice p l c)).setCell ⟨w.heap.size + 1 + 1, 0, none⟩ (.int .i64 Ku)).setCell ⟨w.heap.size + 1 + 1, 1, none⟩ (.int .i64 Iu)).setCell ⟨w.heap.size + 1 + 1, 2, none⟩ (.float .f64 Fu)).setCell ⟨w.heap.size + 1 + 1, 3, none⟩ (.string Su)).setCell ⟨w.heap.size + 1 + 1, 4, none⟩ (.slice qu mu du)) ∧ ∀ b : Nat, b ≠ w.heap.size + 1 → b ≠ w.heap.size + 1 + 1 → (((((((((((w10.setCell ⟨w.heap.size + 1, 0, none⟩ (.int .i64 4)).setCell ⟨w.heap.size + 1, 1, none⟩ (.int .i64 0)).setCell ⟨w.heap.size + 1, 2, none⟩ (.float .f64 0)).setCell ⟨w.heap.size + 1, 3, none⟩ (.string ⟨#[]⟩)).setCell ⟨w.heap.size + 1, 4, none⟩ (.slice p l c)).setCell ⟨w.heap.size + 1 + 1, 0, none⟩ (.int .i64 Ku)).setCell ⟨w.heap.size + 1 + 1, 1, none⟩ (.int .i64 Iu)).setCell ⟨w.heap.size + 1 + 1, 2, none⟩ (.float .f64 Fu)).setCell ⟨w.heap.size + 1 + 1, 3, none⟩ (.string Su)).setCell ⟨w.heap.size + 1 + 1, 4, none⟩ (.slice qu mu du))).heap[b]? = w10.heap[b]? from ⟨hq12, fun b h1 h2 => (set5_other (w := set5 w10 (w.heap.size + 1) 0 (.int .i64 4) (.int .i64 0) (.float .f64 0) (.string ⟨#[]⟩) (.slice p l c)) (g := w.heap.size + 1 + 1) (o := 0) h2).trans (set5_other (g := w.heap.size + 1) (o := 0) h1)⟩)
  clear hq12 hq11 hHeld
  revert HGF
  generalize ((((((((((w10.setCell ⟨w.heap.size + 1, 0, none⟩ (.int .i64 4)).setCell ⟨w.heap.size + 1, 1, none⟩ (.int .i64 0)).setCell ⟨w.heap.size + 1, 2, none⟩ (.float .f64 0)).setCell ⟨w.heap.size + 1, 3, none⟩ (.string ⟨#[]⟩)).setCell ⟨w.heap.size + 1, 4, none⟩ (.slice p l c)).setCell ⟨w.heap.size + 1 + 1, 0, none⟩ (.int .i64 Ku)).setCell ⟨w.heap.size + 1 + 1, 1, none⟩ (.int .i64 Iu)).setCell ⟨w.heap.size + 1 + 1, 2, none⟩ (.float .f64 Fu)).setCell ⟨w.heap.size + 1 + 1, 3, none⟩ (.string Su)).setCell ⟨w.heap.size + 1 + 1, 4, none⟩ (.slice qu mu du)) = Wf
  intro HGF
  have hqf := HGF.out.1
  have b30 := hqf.2.2.2.2.2.2.2.2.2.2.1
  have b31 := hqf.2.2.2.2.2.2.2.2.2.2.2.1
  have b32 := hqf.2.2.2.2.2.2.2.2.2.2.2.2.1
  have b33 := hqf.2.2.2.2.2.2.2.2.2.2.2.2.2.1
  have b34 := hqf.2.2.2.2.2.2.2.2.2.2.2.2.2.2.1
  have b40 := hqf.2.2.2.2.2.2.2.2.2.2.2.2.2.2.2.1
  have b41 := hqf.2.2.2.2.2.2.2.2.2.2.2.2.2.2.2.2.1
  have b42 := hqf.2.2.2.2.2.2.2.2.2.2.2.2.2.2.2.2.2.1
  have b43 := hqf.2.2.2.2.2.2.2.2.2.2.2.2.2.2.2.2.2.2.1
  have b44 := hqf.2.2.2.2.2.2.2.2.2.2.2.2.2.2.2.2.2.2.2.1
  clear hqf
  go_wp2
  refine bodyPost_ret (v := .tuple #[.agg #[.int .i64 4, .int .i64 0, .float .f64 0, .string ⟨#[]⟩, .slice p l c], .agg #[.int .i64 Ku, .int .i64 Iu, .float .f64 Fu, .string Su, .slice qu mu du], .int .i64 0]) (by simp [results, Try.results25, go_sem, b30, b31, b32, b33, b34, b40, b41, b42, b43, b44]) rfl ⟨_, _, rfl, HGF.out.1.2.2.2.2.2.2.2.2.2.2.2.2.2.2.2.2.2.2.2.2.1, rep_keep HGF.out.1.2.2.2.2.2.2.2.2.2.2.2.2.2.2.2.2.2.2.2.2.1 _ _ _ HS.out, rep_keep HGF.out.1.2.2.2.2.2.2.2.2.2.2.2.2.2.2.2.2.2.2.2.2.1 _ _ _ HU.out⟩
end Num
end Go.Proofs.Ytamogpbbaihaaaa
