/-
  Package queue: run: push, nth.
-/
import Derived.Test.YtodjnhhnjncgdaaEA
import Derived.Deep.RegionHeld3
import Derived.RegionTactic
import Derived.Deep.DeepCutAuto
namespace Go.Proofs.Ytodjnhhnjncgdaa
open Go.RowKit
namespace Num
open Ints
set_option linter.unusedSimpArgs false
set_option linter.unusedVariables false
/-- What run keeps, of push and nth. -/
def VP (p : Option Addr) (l c : Nat) (bl ol : Nat) (K3 I3 : Int) (F3 : Nat) (S3 : ByteArray) (q3 : Option Addr) (m3 d3 : Nat) (x0 x1 x2 x3 x4 y0 y1 y2 y3 y4 : Value) (w z : World) : Prop := z.cell? ⟨w.heap.size, 0, none⟩ = some (.int .i64 4) ∧ z.cell? ⟨w.heap.size, 1, none⟩ = some (.int .i64 0) ∧ z.cell? ⟨w.heap.size, 2, none⟩ = some (.float .f64 0) ∧ z.cell? ⟨w.heap.size, 3, none⟩ = some (.string ⟨#[]⟩) ∧ z.cell? ⟨w.heap.size, 4, none⟩ = some (.slice p l c) ∧ z.cell? ⟨bl, ol, none⟩ = some (.int .i64 K3) ∧ z.cell? ⟨bl, ol + 1, none⟩ = some (.int .i64 I3) ∧ z.cell? ⟨bl, ol + 2, none⟩ = some (.float .f64 F3) ∧ z.cell? ⟨bl, ol + 3, none⟩ = some (.string S3) ∧ z.cell? ⟨bl, ol + 4, none⟩ = some (.slice q3 m3 d3) ∧ z.cell? ⟨w.heap.size + 1, 0, none⟩ = some (x0) ∧ z.cell? ⟨w.heap.size + 1, 1, none⟩ = some (x1) ∧ z.cell? ⟨w.heap.size + 1, 2, none⟩ = some (x2) ∧ z.cell? ⟨w.heap.size + 1, 3, none⟩ = some (x3) ∧ z.cell? ⟨w.heap.size + 1, 4, none⟩ = some (x4) ∧ z.cell? ⟨w.heap.size + 1 + 1, 0, none⟩ = some (y0) ∧ z.cell? ⟨w.heap.size + 1 + 1, 1, none⟩ = some (y1) ∧ z.cell? ⟨w.heap.size + 1 + 1, 2, none⟩ = some (y2) ∧ z.cell? ⟨w.heap.size + 1 + 1, 3, none⟩ = some (y3) ∧ z.cell? ⟨w.heap.size + 1 + 1, 4, none⟩ = some (y4) ∧ Below w.heap.size w z ∧ (∀ o, z.frozen? ⟨w.heap.size + 1, o, none⟩ = false) ∧ (∀ o, z.frozen? ⟨w.heap.size + 1 + 1, o, none⟩ = false)
section
variable {p : Option Addr} {l c : Nat} {bl ol : Nat} {K3 I3 : Int} {F3 : Nat} {S3 : ByteArray} {q3 : Option Addr} {m3 d3 : Nat} {x0 x1 x2 x3 x4 y0 y1 y2 y3 y4 : Value} {w x y : World}
theorem vp_step (h : VP p l c bl ol K3 I3 F3 S3 q3 m3 d3 x0 x1 x2 x3 x4 y0 y1 y2 y3 y4 w x) (hb : Below x.heap.size x y) : VP p l c bl ol K3 I3 F3 S3 q3 m3 d3 x0 x1 x2 x3 x4 y0 y1 y2 y3 y4 w y :=
  ⟨cell_keep hb h.1, cell_keep hb h.2.1, cell_keep hb h.2.2.1, cell_keep hb h.2.2.2.1, cell_keep hb h.2.2.2.2.1, cell_keep hb h.2.2.2.2.2.1, cell_keep hb h.2.2.2.2.2.2.1, cell_keep hb h.2.2.2.2.2.2.2.1, cell_keep hb h.2.2.2.2.2.2.2.2.1, cell_keep hb h.2.2.2.2.2.2.2.2.2.1, cell_keep hb h.2.2.2.2.2.2.2.2.2.2.1, cell_keep hb h.2.2.2.2.2.2.2.2.2.2.2.1, cell_keep hb h.2.2.2.2.2.2.2.2.2.2.2.2.1, cell_keep hb h.2.2.2.2.2.2.2.2.2.2.2.2.2.1, cell_keep hb h.2.2.2.2.2.2.2.2.2.2.2.2.2.2.1, cell_keep hb h.2.2.2.2.2.2.2.2.2.2.2.2.2.2.2.1, cell_keep hb h.2.2.2.2.2.2.2.2.2.2.2.2.2.2.2.2.1, cell_keep hb h.2.2.2.2.2.2.2.2.2.2.2.2.2.2.2.2.2.1, cell_keep hb h.2.2.2.2.2.2.2.2.2.2.2.2.2.2.2.2.2.2.1, cell_keep hb h.2.2.2.2.2.2.2.2.2.2.2.2.2.2.2.2.2.2.2.1, bel_step h.2.2.2.2.2.2.2.2.2.2.2.2.2.2.2.2.2.2.2.2.1 hb, fun o => (hb.frozen (p := ⟨w.heap.size + 1, o, none⟩) (show w.heap.size + 1 < x.heap.size from cell_lt h.2.2.2.2.2.2.2.2.2.2.1)).trans (h.2.2.2.2.2.2.2.2.2.2.2.2.2.2.2.2.2.2.2.2.2.1 o), fun o => (hb.frozen (p := ⟨w.heap.size + 1 + 1, o, none⟩) (show w.heap.size + 1 + 1 < x.heap.size from cell_lt h.2.2.2.2.2.2.2.2.2.2.2.2.2.2.2.1)).trans (h.2.2.2.2.2.2.2.2.2.2.2.2.2.2.2.2.2.2.2.2.2.2 o)⟩
theorem vp_ro (h : VP p l c bl ol K3 I3 F3 S3 q3 m3 d3 x0 x1 x2 x3 x4 y0 y1 y2 y3 y4 w x) : x.cell? ⟨w.heap.size, 0, none⟩ = some (.int .i64 4) ∧ x.cell? ⟨w.heap.size, 1, none⟩ = some (.int .i64 0) ∧ x.cell? ⟨w.heap.size, 2, none⟩ = some (.float .f64 0) ∧ x.cell? ⟨w.heap.size, 3, none⟩ = some (.string ⟨#[]⟩) ∧ x.cell? ⟨w.heap.size, 4, none⟩ = some (.slice p l c) ∧ x.cell? ⟨bl, ol, none⟩ = some (.int .i64 K3) ∧ x.cell? ⟨bl, ol + 1, none⟩ = some (.int .i64 I3) ∧ x.cell? ⟨bl, ol + 2, none⟩ = some (.float .f64 F3) ∧ x.cell? ⟨bl, ol + 3, none⟩ = some (.string S3) ∧ x.cell? ⟨bl, ol + 4, none⟩ = some (.slice q3 m3 d3) := ⟨h.1, h.2.1, h.2.2.1, h.2.2.2.1, h.2.2.2.2.1, h.2.2.2.2.2.1, h.2.2.2.2.2.2.1, h.2.2.2.2.2.2.2.1, h.2.2.2.2.2.2.2.2.1, h.2.2.2.2.2.2.2.2.2.1⟩
theorem vp_r1 (h : VP p l c bl ol K3 I3 F3 S3 q3 m3 d3 x0 x1 x2 x3 x4 y0 y1 y2 y3 y4 w x) : x.cell? ⟨w.heap.size, 0, none⟩ = some (.int .i64 4) ∧ x.cell? ⟨w.heap.size, 1, none⟩ = some (.int .i64 0) ∧ x.cell? ⟨w.heap.size, 2, none⟩ = some (.float .f64 0) ∧ x.cell? ⟨w.heap.size, 3, none⟩ = some (.string ⟨#[]⟩) ∧ x.cell? ⟨w.heap.size, 4, none⟩ = some (.slice p l c) ∧ x.cell? ⟨bl, ol, none⟩ = some (.int .i64 K3) ∧ x.cell? ⟨bl, ol + 1, none⟩ = some (.int .i64 I3) ∧ x.cell? ⟨bl, ol + 2, none⟩ = some (.float .f64 F3) ∧ x.cell? ⟨bl, ol + 3, none⟩ = some (.string S3) ∧ x.cell? ⟨bl, ol + 4, none⟩ = some (.slice q3 m3 d3) ∧ x.cell? ⟨w.heap.size + 1, 0, none⟩ = some (x0) ∧ x.cell? ⟨w.heap.size + 1, 1, none⟩ = some (x1) ∧ x.cell? ⟨w.heap.size + 1, 2, none⟩ = some (x2) ∧ x.cell? ⟨w.heap.size + 1, 3, none⟩ = some (x3) ∧ x.cell? ⟨w.heap.size + 1, 4, none⟩ = some (x4) := ⟨h.1, h.2.1, h.2.2.1, h.2.2.2.1, h.2.2.2.2.1, h.2.2.2.2.2.1, h.2.2.2.2.2.2.1, h.2.2.2.2.2.2.2.1, h.2.2.2.2.2.2.2.2.1, h.2.2.2.2.2.2.2.2.2.1, h.2.2.2.2.2.2.2.2.2.2.1, h.2.2.2.2.2.2.2.2.2.2.2.1, h.2.2.2.2.2.2.2.2.2.2.2.2.1, h.2.2.2.2.2.2.2.2.2.2.2.2.2.1, h.2.2.2.2.2.2.2.2.2.2.2.2.2.2.1⟩
theorem vp_all (h : VP p l c bl ol K3 I3 F3 S3 q3 m3 d3 x0 x1 x2 x3 x4 y0 y1 y2 y3 y4 w x) : x.cell? ⟨w.heap.size, 0, none⟩ = some (.int .i64 4) ∧ x.cell? ⟨w.heap.size, 1, none⟩ = some (.int .i64 0) ∧ x.cell? ⟨w.heap.size, 2, none⟩ = some (.float .f64 0) ∧ x.cell? ⟨w.heap.size, 3, none⟩ = some (.string ⟨#[]⟩) ∧ x.cell? ⟨w.heap.size, 4, none⟩ = some (.slice p l c) ∧ x.cell? ⟨bl, ol, none⟩ = some (.int .i64 K3) ∧ x.cell? ⟨bl, ol + 1, none⟩ = some (.int .i64 I3) ∧ x.cell? ⟨bl, ol + 2, none⟩ = some (.float .f64 F3) ∧ x.cell? ⟨bl, ol + 3, none⟩ = some (.string S3) ∧ x.cell? ⟨bl, ol + 4, none⟩ = some (.slice q3 m3 d3) ∧ x.cell? ⟨w.heap.size + 1, 0, none⟩ = some (x0) ∧ x.cell? ⟨w.heap.size + 1, 1, none⟩ = some (x1) ∧ x.cell? ⟨w.heap.size + 1, 2, none⟩ = some (x2) ∧ x.cell? ⟨w.heap.size + 1, 3, none⟩ = some (x3) ∧ x.cell? ⟨w.heap.size + 1, 4, none⟩ = some (x4) ∧ x.cell? ⟨w.heap.size + 1 + 1, 0, none⟩ = some (y0) ∧ x.cell? ⟨w.heap.size + 1 + 1, 1, none⟩ = some (y1) ∧ x.cell? ⟨w.heap.size + 1 + 1, 2, none⟩ = some (y2) ∧ x.cell? ⟨w.heap.size + 1 + 1, 3, none⟩ = some (y3) ∧ x.cell? ⟨w.heap.size + 1 + 1, 4, none⟩ = some (y4) := ⟨h.1, h.2.1, h.2.2.1, h.2.2.2.1, h.2.2.2.2.1, h.2.2.2.2.2.1, h.2.2.2.2.2.2.1, h.2.2.2.2.2.2.2.1, h.2.2.2.2.2.2.2.2.1, h.2.2.2.2.2.2.2.2.2.1, h.2.2.2.2.2.2.2.2.2.2.1, h.2.2.2.2.2.2.2.2.2.2.2.1, h.2.2.2.2.2.2.2.2.2.2.2.2.1, h.2.2.2.2.2.2.2.2.2.2.2.2.2.1, h.2.2.2.2.2.2.2.2.2.2.2.2.2.2.1, h.2.2.2.2.2.2.2.2.2.2.2.2.2.2.2.1, h.2.2.2.2.2.2.2.2.2.2.2.2.2.2.2.2.1, h.2.2.2.2.2.2.2.2.2.2.2.2.2.2.2.2.2.1, h.2.2.2.2.2.2.2.2.2.2.2.2.2.2.2.2.2.2.1, h.2.2.2.2.2.2.2.2.2.2.2.2.2.2.2.2.2.2.2.1⟩
theorem vp_drew (h : VP p l c bl ol K3 I3 F3 S3 q3 m3 d3 x0 x1 x2 x3 x4 y0 y1 y2 y3 y4 w x) : VP p l c bl ol K3 I3 F3 S3 q3 m3 d3 x0 x1 x2 x3 x4 y0 y1 y2 y3 y4 w x.drew := vp_step h (Below.drew (Below.refl _ _))
theorem vp_set1 (hlt_bl : bl < w.heap.size) (h : VP p l c bl ol K3 I3 F3 S3 q3 m3 d3 x0 x1 x2 x3 x4 y0 y1 y2 y3 y4 w x) (u0 u1 u2 u3 u4 : Value) : VP p l c bl ol K3 I3 F3 S3 q3 m3 d3 u0 u1 u2 u3 u4 y0 y1 y2 y3 y4 w (set5 x (w.heap.size + 1) 0 u0 u1 u2 u3 u4) := by
  have e : ∀ c i, c ≠ w.heap.size + 1 → (set5 x (w.heap.size + 1) 0 u0 u1 u2 u3 u4).cell? ⟨c, i, none⟩ = x.cell? ⟨c, i, none⟩ := fun c i hc => World.cell?_of_block (set5_other hc)
  have hs := set5_same (g := w.heap.size + 1) (o := 0) u0 u1 u2 u3 u4 h.2.2.2.2.2.2.2.2.2.2.1 h.2.2.2.2.2.2.2.2.2.2.2.1 h.2.2.2.2.2.2.2.2.2.2.2.2.1 h.2.2.2.2.2.2.2.2.2.2.2.2.2.1 h.2.2.2.2.2.2.2.2.2.2.2.2.2.2.1
  unfold VP at h ⊢
  obtain ⟨g0, g1, g2, g3, g4, g5, g6, g7, g8, g9, g10, g11, g12, g13, g14, g15, g16, g17, g18, g19, g20, g21, g22⟩ := h
  refine ⟨(e _ _ (by omega)).trans g0, (e _ _ (by omega)).trans g1, (e _ _ (by omega)).trans g2, (e _ _ (by omega)).trans g3, (e _ _ (by omega)).trans g4, (e _ _ (by omega)).trans g5, (e _ _ (by omega)).trans g6, (e _ _ (by omega)).trans g7, (e _ _ (by omega)).trans g8, (e _ _ (by omega)).trans g9, hs.1, hs.2.1, hs.2.2.1, hs.2.2.2.1, hs.2.2.2.2, (e _ _ (by omega)).trans g15, (e _ _ (by omega)).trans g16, (e _ _ (by omega)).trans g17, (e _ _ (by omega)).trans g18, (e _ _ (by omega)).trans g19, set5_below g20 (by omega) _ _ _ _ _, fun o => ?_, fun o => ?_⟩
  all_goals (unfold set5; simp only [World.frozen?_setCell]; first | exact g21 o | exact g22 o)
theorem vp_set2 (hlt_bl : bl < w.heap.size) (h : VP p l c bl ol K3 I3 F3 S3 q3 m3 d3 x0 x1 x2 x3 x4 y0 y1 y2 y3 y4 w x) (u0 u1 u2 u3 u4 : Value) : VP p l c bl ol K3 I3 F3 S3 q3 m3 d3 x0 x1 x2 x3 x4 u0 u1 u2 u3 u4 w (set5 x (w.heap.size + 1 + 1) 0 u0 u1 u2 u3 u4) := by
  have e : ∀ c i, c ≠ w.heap.size + 1 + 1 → (set5 x (w.heap.size + 1 + 1) 0 u0 u1 u2 u3 u4).cell? ⟨c, i, none⟩ = x.cell? ⟨c, i, none⟩ := fun c i hc => World.cell?_of_block (set5_other hc)
  have hs := set5_same (g := w.heap.size + 1 + 1) (o := 0) u0 u1 u2 u3 u4 h.2.2.2.2.2.2.2.2.2.2.2.2.2.2.2.1 h.2.2.2.2.2.2.2.2.2.2.2.2.2.2.2.2.1 h.2.2.2.2.2.2.2.2.2.2.2.2.2.2.2.2.2.1 h.2.2.2.2.2.2.2.2.2.2.2.2.2.2.2.2.2.2.1 h.2.2.2.2.2.2.2.2.2.2.2.2.2.2.2.2.2.2.2.1
  unfold VP at h ⊢
  obtain ⟨g0, g1, g2, g3, g4, g5, g6, g7, g8, g9, g10, g11, g12, g13, g14, g15, g16, g17, g18, g19, g20, g21, g22⟩ := h
  refine ⟨(e _ _ (by omega)).trans g0, (e _ _ (by omega)).trans g1, (e _ _ (by omega)).trans g2, (e _ _ (by omega)).trans g3, (e _ _ (by omega)).trans g4, (e _ _ (by omega)).trans g5, (e _ _ (by omega)).trans g6, (e _ _ (by omega)).trans g7, (e _ _ (by omega)).trans g8, (e _ _ (by omega)).trans g9, (e _ _ (by omega)).trans g10, (e _ _ (by omega)).trans g11, (e _ _ (by omega)).trans g12, (e _ _ (by omega)).trans g13, (e _ _ (by omega)).trans g14, hs.1, hs.2.1, hs.2.2.1, hs.2.2.2.1, hs.2.2.2.2, set5_below g20 (by omega) _ _ _ _ _, fun o => ?_, fun o => ?_⟩
  all_goals (unfold set5; simp only [World.frozen?_setCell]; first | exact g21 o | exact g22 o)
end
set_option maxRecDepth 100000 in
set_option maxHeartbeats 4000000 in
theorem run_push (n : Nat) (p : Option Addr) (l c : Nat) (bl ol : Nat) (K3 I3 : Int) (F3 : Nat) (S3 : ByteArray) (q3 : Option Addr) (m3 d3 : Nat) (cl : Nat) (w : World) (v0 : w.cell? ⟨bl, ol, none⟩ = some (.int .i64 K3)) (v1 : w.cell? ⟨bl, ol + 1, none⟩ = some (.int .i64 I3)) (v2 : w.cell? ⟨bl, ol + 2, none⟩ = some (.float .f64 F3)) (v3 : w.cell? ⟨bl, ol + 3, none⟩ = some (.string S3)) (v4 : w.cell? ⟨bl, ol + 4, none⟩ = some (.slice q3 m3 d3)) (T : VT (n + 2)) (H : VT (n + 1)) (z : Int)
    (HPUT : Hid (∀ W, Below w.heap.size w W → Calls Try.prog 47 #[.slice p l c, .agg #[.int .i64 K3, .int .i64 I3, .float .f64 F3, .string S3, .slice q3 m3 d3]] W fun e w' => ∃ t u, e = .returned (.tuple #[t, u, .int .i64 z]) ∧ Below W.heap.size W w' ∧ (∀ y, Below w.heap.size w y → Stay W.heap.size w' y → Rep y (n + 2) t T) ∧ Rep w (n + 1) u H)) :
    Calls Try.prog 24 #[.agg #[.int .i64 4, .int .i64 0, .float .f64 0, .string ⟨#[]⟩, .slice p l c], .string { data := #[112, 117, 115, 104] }, .slice (some ⟨bl, ol, none⟩) 1 cl] w fun e w' => RunQ w (n + 2) (n + 1) T H z e w' := by
  have hbl : bl < w.heap.size := cell_lt v0
  obtain ⟨oa, hoa⟩ : ∃ o, Obj.cells #[.int .i64 4, .int .i64 0, .float .f64 0, .string ⟨#[]⟩, .slice p l c] 27 = o := ⟨_, rfl⟩
  obtain ⟨oz, hoz⟩ : ∃ o, Obj.cells #[.int .i64 0, .int .i64 0, .float .f64 0, .string ⟨#[]⟩, .slice none 0 0] 27 = o := ⟨_, rfl⟩
  have hB : Below w.heap.size w (((w.alloc oa).alloc oz).alloc oz) := bel_alloc (bel_alloc (bel_alloc (Below.refl w.heap.size w) oa) oz) oz
  have r0 := row_alloc_step (row_alloc_step (row_alloc w #[.int .i64 4, .int .i64 0, .float .f64 0, .string ⟨#[]⟩, .slice p l c] 27) oz) oz
  rw [hoa] at r0
  have r1 := row_alloc_step (row_alloc (w.alloc oa) #[.int .i64 0, .int .i64 0, .float .f64 0, .string ⟨#[]⟩, .slice none 0 0] 27) oz
  rw [hoz] at r1
  have r2 := row_alloc ((w.alloc oa).alloc oz) #[.int .i64 0, .int .i64 0, .float .f64 0, .string ⟨#[]⟩, .slice none 0 0] 27
  rw [hoz] at r2
  simp only [World.size_alloc] at r0 r1 r2
  have HB := Lib.hid hB
  subst hoa hoz
  have HG0 := Lib.hid (show VP p l c bl ol K3 I3 F3 S3 q3 m3 d3 (.int .i64 0) (.int .i64 0) (.float .f64 0) (.string ⟨#[]⟩) (.slice none 0 0) (.int .i64 0) (.int .i64 0) (.float .f64 0) (.string ⟨#[]⟩) (.slice none 0 0) w (((w.alloc (.cells #[.int .i64 4, .int .i64 0, .float .f64 0, .string ⟨#[]⟩, .slice p l c] 27)).alloc (.cells #[.int .i64 0, .int .i64 0, .float .f64 0, .string ⟨#[]⟩, .slice none 0 0] 27)).alloc (.cells #[.int .i64 0, .int .i64 0, .float .f64 0, .string ⟨#[]⟩, .slice none 0 0] 27)) ∧ ((((w.alloc (.cells #[.int .i64 4, .int .i64 0, .float .f64 0, .string ⟨#[]⟩, .slice p l c] 27)).alloc (.cells #[.int .i64 0, .int .i64 0, .float .f64 0, .string ⟨#[]⟩, .slice none 0 0] 27)).alloc (.cells #[.int .i64 0, .int .i64 0, .float .f64 0, .string ⟨#[]⟩, .slice none 0 0] 27))).heap.size = w.heap.size + 1 + 1 + 1 from ⟨⟨row_cell r0 0, row_cell r0 1, row_cell r0 2, row_cell r0 3, row_cell r0 4, cell_keep hB v0, cell_keep hB v1, cell_keep hB v2, cell_keep hB v3, cell_keep hB v4, row_cell r1 0, row_cell r1 1, row_cell r1 2, row_cell r1 3, row_cell r1 4, row_cell r2 0, row_cell r2 1, row_cell r2 2, row_cell r2 3, row_cell r2 4, HB.out, fun o => row_frz r1 o, fun o => row_frz r2 o⟩, by simp only [World.size_alloc]⟩)
  clear r0 r1 r2 hB HB v0 v1 v2 v3 v4
  go_enter Try.func24, Try.ntmps24
  go_upto_region 4 with fail
  revert HG0
  generalize (((w.alloc (.cells #[.int .i64 4, .int .i64 0, .float .f64 0, .string ⟨#[]⟩, .slice p l c] 27)).alloc (.cells #[.int .i64 0, .int .i64 0, .float .f64 0, .string ⟨#[]⟩, .slice none 0 0] 27)).alloc (.cells #[.int .i64 0, .int .i64 0, .float .f64 0, .string ⟨#[]⟩, .slice none 0 0] 27)) = Wz
  intro HG0
  have HP0 := Lib.hid HG0.out.1
  have hzw := HG0.out.2
  have hp0 := HP0.out
  have l0 : w.heap.size < Wz.heap.size := by omega
  refine wp_region_held_drew (S := (fun z => z.cell? ⟨w.heap.size, 0, none⟩ = some (.int .i64 4) ∧ z.cell? ⟨w.heap.size, 1, none⟩ = some (.int .i64 0) ∧ z.cell? ⟨w.heap.size, 2, none⟩ = some (.float .f64 0) ∧ z.cell? ⟨w.heap.size, 3, none⟩ = some (.string ⟨#[]⟩) ∧ z.cell? ⟨w.heap.size, 4, none⟩ = some (.slice p l c) ∧ z.cell? ⟨bl, ol, none⟩ = some (.int .i64 K3) ∧ z.cell? ⟨bl, ol + 1, none⟩ = some (.int .i64 I3) ∧ z.cell? ⟨bl, ol + 2, none⟩ = some (.float .f64 F3) ∧ z.cell? ⟨bl, ol + 3, none⟩ = some (.string S3) ∧ z.cell? ⟨bl, ol + 4, none⟩ = some (.slice q3 m3 d3))) (by kernel_rfl) ?_ (fun hHeld => ?_)
  · exact vp_ro (vp_drew HP0.out)
  refine wpAnyH_take (i := 0) (oi := ?_) (v := ?_) ?hip0 (by kernel_rfl) ?hfp0 ?hrp0 ?hQp0 ?hyp0 (by assumption) ?restp0
  case hip0 => (simp only [List.getElem?_toArray, List.getElem?_cons_zero, List.getElem?_cons_succ]; rfl)
  case hfp0 => kernel_rfl
  case hrp0 => kernel_rfl
  case hyp0 => (refine Or.inl ⟨by rfl, ?_⟩; intro wS hSw; (try dsimp only at hSw); go_simp; (try with_reducible rfl))
  case hQp0 => exact fun _ _ _ h => h
  (try simp only [Act.put, List.setIfInBounds_toArray, List.set_cons_zero, List.set_cons_succ])
  refine wpAnyH_take (i := 1) (oi := ?_) (v := ?_) ?hip1 (by kernel_rfl) ?hfp1 ?hrp1 ?hQp1 ?hyp1 (by assumption) ?restp1
  case hip1 => (simp only [List.getElem?_toArray, List.getElem?_cons_zero, List.getElem?_cons_succ]; rfl)
  case hfp1 => kernel_rfl
  case hrp1 => kernel_rfl
  case hyp1 => (refine Or.inl ⟨by rfl, ?_⟩; intro wS hSw; (try dsimp only at hSw); go_simp; (try with_reducible rfl))
  case hQp1 => exact fun _ _ _ h => h
  (try simp only [Act.put, List.setIfInBounds_toArray, List.set_cons_zero, List.set_cons_succ])
  refine wpAnyH_take (i := 2) (oi := ?_) (v := ?_) ?hip2 (by kernel_rfl) ?hfp2 ?hrp2 ?hQp2 ?hyp2 (by assumption) ?restp2
  case hip2 => (simp only [List.getElem?_toArray, List.getElem?_cons_zero, List.getElem?_cons_succ]; rfl)
  case hfp2 => kernel_rfl
  case hrp2 => kernel_rfl
  case hyp2 => (refine Or.inl ⟨by rfl, ?_⟩; intro wS hSw; (try dsimp only at hSw); go_simp; (try with_reducible rfl))
  case hQp2 => exact fun _ _ _ h => h
  (try simp only [Act.put, List.setIfInBounds_toArray, List.set_cons_zero, List.set_cons_succ])
  refine wpAnyH_take (i := 3) (oi := ?_) (v := ?_) ?hip3 (by kernel_rfl) ?hfp3 ?hrp3 ?hQp3 ?hyp3 (by assumption) ?restp3
  case hip3 => (simp only [List.getElem?_toArray, List.getElem?_cons_zero, List.getElem?_cons_succ]; rfl)
  case hfp3 => kernel_rfl
  case hrp3 => kernel_rfl
  case hyp3 => (refine Or.inl ⟨by rfl, ?_⟩; intro wS hSw; (try dsimp only at hSw); go_simp; (try with_reducible rfl))
  case hQp3 => exact fun _ _ _ h => h
  (try simp only [Act.put, List.setIfInBounds_toArray, List.set_cons_zero, List.set_cons_succ])
  refine wpAnyH_take (i := 4) (oi := ?_) (v := ?_) ?hip4 (by kernel_rfl) ?hfp4 ?hrp4 ?hQp4 ?hyp4 (by assumption) ?restp4
  case hip4 => (simp only [List.getElem?_toArray, List.getElem?_cons_zero, List.getElem?_cons_succ]; rfl)
  case hfp4 => kernel_rfl
  case hrp4 => kernel_rfl
  case hyp4 => (refine Or.inl ⟨by rfl, ?_⟩; intro wS hSw; (try dsimp only at hSw); go_simp; (try with_reducible rfl))
  case hQp4 => exact fun _ _ _ h => h
  (try simp only [Act.put, List.setIfInBounds_toArray, List.set_cons_zero, List.set_cons_succ])
  refine wpAnyH_ready (rs := [5]) (by kernel_rfl) (by simp) ?_
  refine AllReadyH.cons (o := ?_) ?hop5 ?hstp5 AllReadyH.nil
  case hop5 => (simp only [List.getElem?_toArray, List.getElem?_cons_zero, List.getElem?_cons_succ]; rfl)
  intro K hK
  go_simp
  go_at_call 47; refine (HPUT.out _ (vp_drew HP0.out).2.2.2.2.2.2.2.2.2.2.2.2.2.2.2.2.2.2.2.2.1).mono ?_; rintro e w10 ⟨tt, u, rfl, hb10, ht, hu⟩; have hq10 := vp_step (vp_drew HP0.out) hb10; obtain ⟨Kt, It, Ft, St, qt, mt, dt, rfl, _⟩ := rep_shape (ht w10 hq10.2.2.2.2.2.2.2.2.2.2.2.2.2.2.2.2.2.2.2.2.1 (fun _ _ _ => rfl)); obtain ⟨Ku, Iu, Fu, Su, qu, mu, du, rfl, _⟩ := rep_shape hu; have HTT := Lib.hid ht; have HU := Lib.hid hu; clear hb10 ht hu
  go_wp2_with fail
  refine hK.out _ _ ?hsp5 (fun hHeld => ?_)
  case hsp5 => exact vp_ro hq10
  clear hK K
  (try simp only [Act.put, List.setIfInBounds_toArray, List.set_cons_zero, List.set_cons_succ])
  refine wpAnyH_take (i := 6) (oi := ?_) (v := ?_) ?hip6 (by kernel_rfl) ?hfp6 ?hrp6 ?hQp6 ?hyp6 (by assumption) ?restp6
  case hip6 => (simp only [List.getElem?_toArray, List.getElem?_cons_zero, List.getElem?_cons_succ]; rfl)
  case hfp6 => kernel_rfl
  case hrp6 => kernel_rfl
  case hyp6 => (refine Or.inl ⟨by rfl, ?_⟩; intro wS hSw; (try dsimp only at hSw); go_simp; (try with_reducible rfl))
  case hQp6 => exact fun _ _ _ h => h
  (try simp only [Act.put, List.setIfInBounds_toArray, List.set_cons_zero, List.set_cons_succ])
  refine wpAnyH_take (i := 7) (oi := ?_) (v := ?_) ?hip7 (by kernel_rfl) ?hfp7 ?hrp7 ?hQp7 ?hyp7 (by assumption) ?restp7
  case hip7 => (simp only [List.getElem?_toArray, List.getElem?_cons_zero, List.getElem?_cons_succ]; rfl)
  case hfp7 => kernel_rfl
  case hrp7 => kernel_rfl
  case hyp7 => (refine Or.inl ⟨by rfl, ?_⟩; intro wS hSw; (try dsimp only at hSw); go_simp; (try with_reducible rfl))
  case hQp7 => exact fun _ _ _ h => h
  (try simp only [Act.put, List.setIfInBounds_toArray, List.set_cons_zero, List.set_cons_succ])
  refine wpAnyH_take (i := 8) (oi := ?_) (v := ?_) ?hip8 (by kernel_rfl) ?hfp8 ?hrp8 ?hQp8 ?hyp8 (by assumption) ?restp8
  case hip8 => (simp only [List.getElem?_toArray, List.getElem?_cons_zero, List.getElem?_cons_succ]; rfl)
  case hfp8 => kernel_rfl
  case hrp8 => kernel_rfl
  case hyp8 => (refine Or.inl ⟨by rfl, ?_⟩; intro wS hSw; (try dsimp only at hSw); go_simp; (try with_reducible rfl))
  case hQp8 => exact fun _ _ _ h => h
  (try simp only [Act.put, List.setIfInBounds_toArray, List.set_cons_zero, List.set_cons_succ])
  refine wpAnyH_ready (rs := [9]) (by kernel_rfl) (by simp) ?_
  refine AllReadyH.cons (o := ?_) ?hop9 ?hstp9 AllReadyH.nil
  case hop9 => (simp only [List.getElem?_toArray, List.getElem?_cons_zero, List.getElem?_cons_succ]; rfl)
  intro K hK
  have b30 := hq10.2.2.2.2.2.2.2.2.2.2.1; have b31 := hq10.2.2.2.2.2.2.2.2.2.2.2.1; have b32 := hq10.2.2.2.2.2.2.2.2.2.2.2.2.1; have b33 := hq10.2.2.2.2.2.2.2.2.2.2.2.2.2.1; have b34 := hq10.2.2.2.2.2.2.2.2.2.2.2.2.2.2.1; have b3f := hq10.2.2.2.2.2.2.2.2.2.2.2.2.2.2.2.2.2.2.2.2.2.1; have b3l := cell_lt b30; go_simp
  have hq11 := vp_set1 hbl hq10 (.int .i64 Kt) (.int .i64 It) (.float .f64 Ft) (.string St) (.slice qt mt dt); clear b30 b31 b32 b33 b34 b3f b3l
  go_wp2_with fail
  refine hK.out _ _ ?hsp9 (fun hHeld => ?_)
  case hsp9 => exact vp_ro hq11
  clear hK K
  (try simp only [Act.put, List.setIfInBounds_toArray, List.set_cons_zero, List.set_cons_succ])
  refine wpAnyH_ready (rs := [10]) (by kernel_rfl) (by simp) ?_
  refine AllReadyH.cons (o := ?_) ?hop10 ?hstp10 AllReadyH.nil
  case hop10 => (simp only [List.getElem?_toArray, List.getElem?_cons_zero, List.getElem?_cons_succ]; rfl)
  intro K hK
  have b40 := hq10.2.2.2.2.2.2.2.2.2.2.2.2.2.2.2.1; have b41 := hq10.2.2.2.2.2.2.2.2.2.2.2.2.2.2.2.2.1; have b42 := hq10.2.2.2.2.2.2.2.2.2.2.2.2.2.2.2.2.2.1; have b43 := hq10.2.2.2.2.2.2.2.2.2.2.2.2.2.2.2.2.2.2.1; have b44 := hq10.2.2.2.2.2.2.2.2.2.2.2.2.2.2.2.2.2.2.2.1; have b4f := hq10.2.2.2.2.2.2.2.2.2.2.2.2.2.2.2.2.2.2.2.2.2.2; have b4l := cell_lt b40; go_simp
  have hq12 := vp_set2 hbl hq11 (.int .i64 Ku) (.int .i64 Iu) (.float .f64 Fu) (.string Su) (.slice qu mu du); clear b40 b41 b42 b43 b44 b4f b4l
  go_wp2_with fail
  refine hK.out _ _ ?hsp10 (fun hHeld => ?_)
  case hsp10 => exact vp_ro hq12
  clear hK K
  (try simp only [Act.put, List.setIfInBounds_toArray, List.set_cons_zero, List.set_cons_succ])
  refine wpAnyH_take (i := 11) (oi := ?_) (v := ?_) ?hip11 (by kernel_rfl) ?hfp11 ?hrp11 ?hQp11 ?hyp11 (by assumption) ?restp11
  case hip11 => (simp only [List.getElem?_toArray, List.getElem?_cons_zero, List.getElem?_cons_succ]; rfl)
  case hfp11 => kernel_rfl
  case hrp11 => kernel_rfl
  case hyp11 => (refine Or.inl ⟨by rfl, ?_⟩; intro wS hSw; (try dsimp only at hSw); go_simp; (try with_reducible rfl))
  case hQp11 => exact fun _ _ _ h => h
  (try simp only [Act.put, List.setIfInBounds_toArray, List.set_cons_zero, List.set_cons_succ])
  refine wpAnyH_done (by kernel_rfl) ?_ _
  have HGF := Lib.hid (show VP p l c bl ol K3 I3 F3 S3 q3 m3 d3 (.int .i64 Kt) (.int .i64 It) (.float .f64 Ft) (.string St) (.slice qt mt dt) (.int .i64 Ku) (.int .i64 Iu) (.float .f64 Fu) (.string Su) (.slice qu mu du) w ((((((((((w10.setCell ⟨w.heap.size + 1, 0, none⟩ (.int .i64 Kt)).setCell ⟨w.heap.size + 1, 1, none⟩ (.int .i64 It)).setCell ⟨w.heap.size + 1, 2, none⟩ (.float .f64 Ft)).setCell ⟨w.heap.size + 1, 3, none⟩ (.string St)).setCell ⟨w.heap.size + 1, 4, none⟩ (.slice qt mt dt)).setCell ⟨w.heap.size + 1 + 1, 0, none⟩ (.int .i64 Ku)).setCell ⟨w.heap.size + 1 + 1, 1, none⟩ (.int .i64 Iu)).setCell ⟨w.heap.size + 1 + 1, 2, none⟩ (.float .f64 Fu)).setCell ⟨w.heap.size + 1 + 1, 3, none⟩ (.string Su)).setCell ⟨w.heap.size + 1 + 1, 4, none⟩ (.slice qu mu du)) ∧ ∀ b : Nat, b ≠ w.heap.size + 1 → b ≠ w.heap.size + 1 + 1 → (((((((((((w10.setCell ⟨w.heap.size + 1, 0, none⟩ (.int .i64 Kt)).setCell ⟨w.heap.size + 1, 1, none⟩ (.int .i64 It)).setCell ⟨w.heap.size + 1, 2, none⟩ (.float .f64 Ft)).setCell ⟨w.heap.size + 1, 3, none⟩ (.string St)).setCell ⟨w.heap.size + 1, 4, none⟩ (.slice qt mt dt)).setCell ⟨w.heap.size + 1 + 1, 0, none⟩ (.int .i64 Ku)).setCell ⟨w.heap.size + 1 + 1, 1, none⟩ (.int .i64 Iu)).setCell ⟨w.heap.size + 1 + 1, 2, none⟩ (.float .f64 Fu)).setCell ⟨w.heap.size + 1 + 1, 3, none⟩ (.string Su)).setCell ⟨w.heap.size + 1 + 1, 4, none⟩ (.slice qu mu du))).heap[b]? = w10.heap[b]? from ⟨hq12, fun b h1 h2 => (set5_other (w := set5 w10 (w.heap.size + 1) 0 (.int .i64 Kt) (.int .i64 It) (.float .f64 Ft) (.string St) (.slice qt mt dt)) (g := w.heap.size + 1 + 1) (o := 0) h2).trans (set5_other (g := w.heap.size + 1) (o := 0) h1)⟩)
  clear hq12 hq11 hHeld
  revert HGF
  generalize ((((((((((w10.setCell ⟨w.heap.size + 1, 0, none⟩ (.int .i64 Kt)).setCell ⟨w.heap.size + 1, 1, none⟩ (.int .i64 It)).setCell ⟨w.heap.size + 1, 2, none⟩ (.float .f64 Ft)).setCell ⟨w.heap.size + 1, 3, none⟩ (.string St)).setCell ⟨w.heap.size + 1, 4, none⟩ (.slice qt mt dt)).setCell ⟨w.heap.size + 1 + 1, 0, none⟩ (.int .i64 Ku)).setCell ⟨w.heap.size + 1 + 1, 1, none⟩ (.int .i64 Iu)).setCell ⟨w.heap.size + 1 + 1, 2, none⟩ (.float .f64 Fu)).setCell ⟨w.heap.size + 1 + 1, 3, none⟩ (.string Su)).setCell ⟨w.heap.size + 1 + 1, 4, none⟩ (.slice qu mu du)) = Wf
  intro HGF
  have hqf := HGF.out.1
  have b30 := hqf.2.2.2.2.2.2.2.2.2.2.1
  have b31 := hqf.2.2.2.2.2.2.2.2.2.2.2.1
  have b32 := hqf.2.2.2.2.2.2.2.2.2.2.2.2.1
  have b33 := hqf.2.2.2.2.2.2.2.2.2.2.2.2.2.1
  have b34 := hqf.2.2.2.2.2.2.2.2.2.2.2.2.2.2.1
  have b40 := hqf.2.2.2.2.2.2.2.2.2.2.2.2.2.2.2.1
  have b41 := hqf.2.2.2.2.2.2.2.2.2.2.2.2.2.2.2.2.1
  have b42 := hqf.2.2.2.2.2.2.2.2.2.2.2.2.2.2.2.2.2.1
  have b43 := hqf.2.2.2.2.2.2.2.2.2.2.2.2.2.2.2.2.2.2.1
  have b44 := hqf.2.2.2.2.2.2.2.2.2.2.2.2.2.2.2.2.2.2.2.1
  clear hqf
  go_wp2
  refine bodyPost_ret (v := .tuple #[.agg #[.int .i64 Kt, .int .i64 It, .float .f64 Ft, .string St, .slice qt mt dt], .agg #[.int .i64 Ku, .int .i64 Iu, .float .f64 Fu, .string Su, .slice qu mu du], .int .i64 z]) (by simp [results, Try.results24, go_sem, b30, b31, b32, b33, b34, b40, b41, b42, b43, b44]) rfl ⟨_, _, rfl, HGF.out.1.2.2.2.2.2.2.2.2.2.2.2.2.2.2.2.2.2.2.2.2.1, HTT.out Wf HGF.out.1.2.2.2.2.2.2.2.2.2.2.2.2.2.2.2.2.2.2.2.2.1 (fun b h1 h2 => HGF.out.2 b (by rw [World.size_drew] at h1; omega) (by rw [World.size_drew] at h1; omega)), rep_keep HGF.out.1.2.2.2.2.2.2.2.2.2.2.2.2.2.2.2.2.2.2.2.2.1 _ _ _ HU.out⟩
set_option maxRecDepth 100000 in
set_option maxHeartbeats 4000000 in
theorem run_nth (n : Nat) (p : Option Addr) (l c : Nat) (bl ol : Nat) (K3 I3 : Int) (F3 : Nat) (S3 : ByteArray) (q3 : Option Addr) (m3 d3 : Nat) (cl : Nat) (w : World) (v0 : w.cell? ⟨bl, ol, none⟩ = some (.int .i64 K3)) (v1 : w.cell? ⟨bl, ol + 1, none⟩ = some (.int .i64 I3)) (v2 : w.cell? ⟨bl, ol + 2, none⟩ = some (.float .f64 F3)) (v3 : w.cell? ⟨bl, ol + 3, none⟩ = some (.string S3)) (v4 : w.cell? ⟨bl, ol + 4, none⟩ = some (.slice q3 m3 d3)) (T : VT (n + 2)) (H : VT (n + 1)) (z : Int) (HS : Hid (Rep w (n + 2) (.agg #[.int .i64 4, .int .i64 0, .float .f64 0, .string ⟨#[]⟩, .slice p l c]) T))
    (HN : Hid (∀ W, Below w.heap.size w W → Calls Try.prog 50 #[.slice p l c, .int .i64 I3] W fun e w' => ∃ u, e = .returned (.tuple #[u, .int .i64 z]) ∧ Below W.heap.size W w' ∧ Rep w (n + 1) u H)) :
    Calls Try.prog 24 #[.agg #[.int .i64 4, .int .i64 0, .float .f64 0, .string ⟨#[]⟩, .slice p l c], .string { data := #[110, 116, 104] }, .slice (some ⟨bl, ol, none⟩) 1 cl] w fun e w' => RunQ w (n + 2) (n + 1) T H z e w' := by
  have hbl : bl < w.heap.size := cell_lt v0
  obtain ⟨oa, hoa⟩ : ∃ o, Obj.cells #[.int .i64 4, .int .i64 0, .float .f64 0, .string ⟨#[]⟩, .slice p l c] 27 = o := ⟨_, rfl⟩
  obtain ⟨oz, hoz⟩ : ∃ o, Obj.cells #[.int .i64 0, .int .i64 0, .float .f64 0, .string ⟨#[]⟩, .slice none 0 0] 27 = o := ⟨_, rfl⟩
  have hB : Below w.heap.size w (((w.alloc oa).alloc oz).alloc oz) := bel_alloc (bel_alloc (bel_alloc (Below.refl w.heap.size w) oa) oz) oz
  have r0 := row_alloc_step (row_alloc_step (row_alloc w #[.int .i64 4, .int .i64 0, .float .f64 0, .string ⟨#[]⟩, .slice p l c] 27) oz) oz
  rw [hoa] at r0
  have r1 := row_alloc_step (row_alloc (w.alloc oa) #[.int .i64 0, .int .i64 0, .float .f64 0, .string ⟨#[]⟩, .slice none 0 0] 27) oz
  rw [hoz] at r1
  have r2 := row_alloc ((w.alloc oa).alloc oz) #[.int .i64 0, .int .i64 0, .float .f64 0, .string ⟨#[]⟩, .slice none 0 0] 27
  rw [hoz] at r2
  simp only [World.size_alloc] at r0 r1 r2
  have HB := Lib.hid hB
  subst hoa hoz
  have HG0 := Lib.hid (show VP p l c bl ol K3 I3 F3 S3 q3 m3 d3 (.int .i64 0) (.int .i64 0) (.float .f64 0) (.string ⟨#[]⟩) (.slice none 0 0) (.int .i64 0) (.int .i64 0) (.float .f64 0) (.string ⟨#[]⟩) (.slice none 0 0) w (((w.alloc (.cells #[.int .i64 4, .int .i64 0, .float .f64 0, .string ⟨#[]⟩, .slice p l c] 27)).alloc (.cells #[.int .i64 0, .int .i64 0, .float .f64 0, .string ⟨#[]⟩, .slice none 0 0] 27)).alloc (.cells #[.int .i64 0, .int .i64 0, .float .f64 0, .string ⟨#[]⟩, .slice none 0 0] 27)) ∧ ((((w.alloc (.cells #[.int .i64 4, .int .i64 0, .float .f64 0, .string ⟨#[]⟩, .slice p l c] 27)).alloc (.cells #[.int .i64 0, .int .i64 0, .float .f64 0, .string ⟨#[]⟩, .slice none 0 0] 27)).alloc (.cells #[.int .i64 0, .int .i64 0, .float .f64 0, .string ⟨#[]⟩, .slice none 0 0] 27))).heap.size = w.heap.size + 1 + 1 + 1 from ⟨⟨row_cell r0 0, row_cell r0 1, row_cell r0 2, row_cell r0 3, row_cell r0 4, cell_keep hB v0, cell_keep hB v1, cell_keep hB v2, cell_keep hB v3, cell_keep hB v4, row_cell r1 0, row_cell r1 1, row_cell r1 2, row_cell r1 3, row_cell r1 4, row_cell r2 0, row_cell r2 1, row_cell r2 2, row_cell r2 3, row_cell r2 4, HB.out, fun o => row_frz r1 o, fun o => row_frz r2 o⟩, by simp only [World.size_alloc]⟩)
  clear r0 r1 r2 hB HB v0 v1 v2 v3 v4
  go_enter Try.func24, Try.ntmps24
  go_upto_region 11 with fail
  revert HG0
  generalize (((w.alloc (.cells #[.int .i64 4, .int .i64 0, .float .f64 0, .string ⟨#[]⟩, .slice p l c] 27)).alloc (.cells #[.int .i64 0, .int .i64 0, .float .f64 0, .string ⟨#[]⟩, .slice none 0 0] 27)).alloc (.cells #[.int .i64 0, .int .i64 0, .float .f64 0, .string ⟨#[]⟩, .slice none 0 0] 27)) = Wz
  intro HG0
  have HP0 := Lib.hid HG0.out.1
  have hzw := HG0.out.2
  have hp0 := HP0.out
  have l0 : w.heap.size < Wz.heap.size := by omega
  refine wp_region_held_drew (S := (fun z => z.cell? ⟨w.heap.size, 0, none⟩ = some (.int .i64 4) ∧ z.cell? ⟨w.heap.size, 1, none⟩ = some (.int .i64 0) ∧ z.cell? ⟨w.heap.size, 2, none⟩ = some (.float .f64 0) ∧ z.cell? ⟨w.heap.size, 3, none⟩ = some (.string ⟨#[]⟩) ∧ z.cell? ⟨w.heap.size, 4, none⟩ = some (.slice p l c) ∧ z.cell? ⟨bl, ol, none⟩ = some (.int .i64 K3) ∧ z.cell? ⟨bl, ol + 1, none⟩ = some (.int .i64 I3) ∧ z.cell? ⟨bl, ol + 2, none⟩ = some (.float .f64 F3) ∧ z.cell? ⟨bl, ol + 3, none⟩ = some (.string S3) ∧ z.cell? ⟨bl, ol + 4, none⟩ = some (.slice q3 m3 d3))) (by kernel_rfl) ?_ (fun hHeld => ?_)
  · exact vp_ro (vp_drew HP0.out)
  refine wpAnyH_take (i := 0) (oi := ?_) (v := ?_) ?hin0 (by kernel_rfl) ?hfn0 ?hrn0 ?hQn0 ?hyn0 (by assumption) ?restn0
  case hin0 => (simp only [List.getElem?_toArray, List.getElem?_cons_zero, List.getElem?_cons_succ]; rfl)
  case hfn0 => kernel_rfl
  case hrn0 => kernel_rfl
  case hyn0 => (refine Or.inl ⟨by rfl, ?_⟩; intro wS hSw; (try dsimp only at hSw); go_simp; (try with_reducible rfl))
  case hQn0 => exact fun _ _ _ h => h
  (try simp only [Act.put, List.setIfInBounds_toArray, List.set_cons_zero, List.set_cons_succ])
  refine wpAnyH_take (i := 1) (oi := ?_) (v := ?_) ?hin1 (by kernel_rfl) ?hfn1 ?hrn1 ?hQn1 ?hyn1 (by assumption) ?restn1
  case hin1 => (simp only [List.getElem?_toArray, List.getElem?_cons_zero, List.getElem?_cons_succ]; rfl)
  case hfn1 => kernel_rfl
  case hrn1 => kernel_rfl
  case hyn1 => (refine Or.inl ⟨by rfl, ?_⟩; intro wS hSw; (try dsimp only at hSw); go_simp; (try with_reducible rfl))
  case hQn1 => exact fun _ _ _ h => h
  (try simp only [Act.put, List.setIfInBounds_toArray, List.set_cons_zero, List.set_cons_succ])
  refine wpAnyH_take (i := 2) (oi := ?_) (v := ?_) ?hin2 (by kernel_rfl) ?hfn2 ?hrn2 ?hQn2 ?hyn2 (by assumption) ?restn2
  case hin2 => (simp only [List.getElem?_toArray, List.getElem?_cons_zero, List.getElem?_cons_succ]; rfl)
  case hfn2 => kernel_rfl
  case hrn2 => kernel_rfl
  case hyn2 => (refine Or.inl ⟨by rfl, ?_⟩; intro wS hSw; (try dsimp only at hSw); go_simp; (try with_reducible rfl))
  case hQn2 => exact fun _ _ _ h => h
  (try simp only [Act.put, List.setIfInBounds_toArray, List.set_cons_zero, List.set_cons_succ])
  refine wpAnyH_take (i := 3) (oi := ?_) (v := ?_) ?hin3 (by kernel_rfl) ?hfn3 ?hrn3 ?hQn3 ?hyn3 (by assumption) ?restn3
  case hin3 => (simp only [List.getElem?_toArray, List.getElem?_cons_zero, List.getElem?_cons_succ]; rfl)
  case hfn3 => kernel_rfl
  case hrn3 => kernel_rfl
  case hyn3 => (refine Or.inl ⟨by rfl, ?_⟩; intro wS hSw; (try dsimp only at hSw); go_simp; (try with_reducible rfl))
  case hQn3 => exact fun _ _ _ h => h
  (try simp only [Act.put, List.setIfInBounds_toArray, List.set_cons_zero, List.set_cons_succ])
  refine wpAnyH_take (i := 4) (oi := ?_) (v := ?_) ?hin4 (by kernel_rfl) ?hfn4 ?hrn4 ?hQn4 ?hyn4 (by assumption) ?restn4
  case hin4 => (simp only [List.getElem?_toArray, List.getElem?_cons_zero, List.getElem?_cons_succ]; rfl)
  case hfn4 => kernel_rfl
  case hrn4 => kernel_rfl
  case hyn4 => (refine Or.inl ⟨by rfl, ?_⟩; intro wS hSw; (try dsimp only at hSw); go_simp; (try with_reducible rfl))
  case hQn4 => exact fun _ _ _ h => h
  (try simp only [Act.put, List.setIfInBounds_toArray, List.set_cons_zero, List.set_cons_succ])
  refine wpAnyH_take (i := 5) (oi := ?_) (v := ?_) ?hin5 (by kernel_rfl) ?hfn5 ?hrn5 ?hQn5 ?hyn5 (by assumption) ?restn5
  case hin5 => (simp only [List.getElem?_toArray, List.getElem?_cons_zero, List.getElem?_cons_succ]; rfl)
  case hfn5 => kernel_rfl
  case hrn5 => kernel_rfl
  case hyn5 => (refine Or.inl ⟨by rfl, ?_⟩; intro wS hSw; (try dsimp only at hSw); go_simp; (try with_reducible rfl))
  case hQn5 => exact fun _ _ _ h => h
  (try simp only [Act.put, List.setIfInBounds_toArray, List.set_cons_zero, List.set_cons_succ])
  refine wpAnyH_ready (rs := [6]) (by kernel_rfl) (by simp) ?_
  refine AllReadyH.cons (o := ?_) ?hon6 ?hstn6 AllReadyH.nil
  case hon6 => (simp only [List.getElem?_toArray, List.getElem?_cons_zero, List.getElem?_cons_succ]; rfl)
  intro K hK
  go_simp
  go_at_call 50; refine (HN.out _ (vp_drew HP0.out).2.2.2.2.2.2.2.2.2.2.2.2.2.2.2.2.2.2.2.2.1).mono ?_; rintro e w10 ⟨u, rfl, hb10, hu⟩; have hq10 := vp_step (vp_drew HP0.out) hb10; obtain ⟨Ku, Iu, Fu, Su, qu, mu, du, rfl, _⟩ := rep_shape hu; have HU := Lib.hid hu; clear hb10 hu
  go_wp2_with fail
  refine hK.out _ _ ?hsn6 (fun hHeld => ?_)
  case hsn6 => exact vp_ro hq10
  clear hK K
  (try simp only [Act.put, List.setIfInBounds_toArray, List.set_cons_zero, List.set_cons_succ])
  refine wpAnyH_take (i := 7) (oi := ?_) (v := ?_) ?hin7 (by kernel_rfl) ?hfn7 ?hrn7 ?hQn7 ?hyn7 (by assumption) ?restn7
  case hin7 => (simp only [List.getElem?_toArray, List.getElem?_cons_zero, List.getElem?_cons_succ]; rfl)
  case hfn7 => kernel_rfl
  case hrn7 => kernel_rfl
  case hyn7 => (refine Or.inl ⟨by rfl, ?_⟩; intro wS hSw; (try dsimp only at hSw); go_simp; (try with_reducible rfl))
  case hQn7 => exact fun _ _ _ h => h
  (try simp only [Act.put, List.setIfInBounds_toArray, List.set_cons_zero, List.set_cons_succ])
  refine wpAnyH_take (i := 8) (oi := ?_) (v := ?_) ?hin8 (by kernel_rfl) ?hfn8 ?hrn8 ?hQn8 ?hyn8 (by assumption) ?restn8
  case hin8 => (simp only [List.getElem?_toArray, List.getElem?_cons_zero, List.getElem?_cons_succ]; rfl)
  case hfn8 => kernel_rfl
  case hrn8 => kernel_rfl
  case hyn8 => (refine Or.inl ⟨by rfl, ?_⟩; intro wS hSw; (try dsimp only at hSw); go_simp; (try with_reducible rfl))
  case hQn8 => exact fun _ _ _ h => h
  (try simp only [Act.put, List.setIfInBounds_toArray, List.set_cons_zero, List.set_cons_succ])
  refine wpAnyH_take (i := 9) (oi := ?_) (v := ?_) ?hin9 (by kernel_rfl) ?hfn9 ?hrn9 ?hQn9 ?hyn9 (by assumption) ?restn9
  case hin9 => (simp only [List.getElem?_toArray, List.getElem?_cons_zero, List.getElem?_cons_succ]; rfl)
  case hfn9 => kernel_rfl
  case hrn9 => kernel_rfl
  case hyn9 => (refine Or.inl ⟨by rfl, ?_⟩; intro wS hSw; (try dsimp only at hSw); go_simp; (try with_reducible rfl))
  case hQn9 => exact fun _ _ _ h => h
  (try simp only [Act.put, List.setIfInBounds_toArray, List.set_cons_zero, List.set_cons_succ])
  refine wpAnyH_ready (rs := [10]) (by kernel_rfl) (by simp) ?_
  refine AllReadyH.cons (o := ?_) ?hon10 ?hstn10 AllReadyH.nil
  case hon10 => (simp only [List.getElem?_toArray, List.getElem?_cons_zero, List.getElem?_cons_succ]; rfl)
  intro K hK
  have b40 := hq10.2.2.2.2.2.2.2.2.2.2.2.2.2.2.2.1; have b41 := hq10.2.2.2.2.2.2.2.2.2.2.2.2.2.2.2.2.1; have b42 := hq10.2.2.2.2.2.2.2.2.2.2.2.2.2.2.2.2.2.1; have b43 := hq10.2.2.2.2.2.2.2.2.2.2.2.2.2.2.2.2.2.2.1; have b44 := hq10.2.2.2.2.2.2.2.2.2.2.2.2.2.2.2.2.2.2.2.1; have b4f := hq10.2.2.2.2.2.2.2.2.2.2.2.2.2.2.2.2.2.2.2.2.2.2; have b4l := cell_lt b40; go_simp
  have hq12 := vp_set2 hbl hq10 (.int .i64 Ku) (.int .i64 Iu) (.float .f64 Fu) (.string Su) (.slice qu mu du); clear b40 b41 b42 b43 b44 b4f b4l
  go_wp2_with fail
  refine hK.out _ _ ?hsn10 (fun hHeld => ?_)
  case hsn10 => exact vp_ro hq12
  clear hK K
  (try simp only [Act.put, List.setIfInBounds_toArray, List.set_cons_zero, List.set_cons_succ])
  refine wpAnyH_take (i := 11) (oi := ?_) (v := ?_) ?hin11 (by kernel_rfl) ?hfn11 ?hrn11 ?hQn11 ?hyn11 (by assumption) ?restn11
  case hin11 => (simp only [List.getElem?_toArray, List.getElem?_cons_zero, List.getElem?_cons_succ]; rfl)
  case hfn11 => kernel_rfl
  case hrn11 => kernel_rfl
  case hyn11 => (refine Or.inl ⟨by rfl, ?_⟩; intro wS hSw; (try dsimp only at hSw); go_simp; (try with_reducible rfl))
  case hQn11 => exact fun _ _ _ h => h
  (try simp only [Act.put, List.setIfInBounds_toArray, List.set_cons_zero, List.set_cons_succ])
  refine wpAnyH_done (by kernel_rfl) ?_ _
  have HQG := Lib.hid (show VP p l c bl ol K3 I3 F3 S3 q3 m3 d3 (.int .i64 0) (.int .i64 0) (.float .f64 0) (.string ⟨#[]⟩) (.slice none 0 0) (.int .i64 Ku) (.int .i64 Iu) (.float .f64 Fu) (.string Su) (.slice qu mu du) w (((((w10.setCell ⟨w.heap.size + 1 + 1, 0, none⟩ (.int .i64 Ku)).setCell ⟨w.heap.size + 1 + 1, 1, none⟩ (.int .i64 Iu)).setCell ⟨w.heap.size + 1 + 1, 2, none⟩ (.float .f64 Fu)).setCell ⟨w.heap.size + 1 + 1, 3, none⟩ (.string Su)).setCell ⟨w.heap.size + 1 + 1, 4, none⟩ (.slice qu mu du)) from hq12)
  clear hq12 hHeld hq10
  revert HQG
  generalize (((((w10.setCell ⟨w.heap.size + 1 + 1, 0, none⟩ (.int .i64 Ku)).setCell ⟨w.heap.size + 1 + 1, 1, none⟩ (.int .i64 Iu)).setCell ⟨w.heap.size + 1 + 1, 2, none⟩ (.float .f64 Fu)).setCell ⟨w.heap.size + 1 + 1, 3, none⟩ (.string Su)).setCell ⟨w.heap.size + 1 + 1, 4, none⟩ (.slice qu mu du)) = Wg
  intro HQG
  have hqg := HQG.out
  have lg0 : w.heap.size < Wg.heap.size := cell_lt hqg.1
  have lg2 : w.heap.size + 1 + 1 < Wg.heap.size := cell_lt hqg.2.2.2.2.2.2.2.2.2.2.2.2.2.2.2.1
  clear hqg
  go_upto_region 12 with fail
  refine wp_region_held_drew (S := (fun z => z.cell? ⟨w.heap.size, 0, none⟩ = some (.int .i64 4) ∧ z.cell? ⟨w.heap.size, 1, none⟩ = some (.int .i64 0) ∧ z.cell? ⟨w.heap.size, 2, none⟩ = some (.float .f64 0) ∧ z.cell? ⟨w.heap.size, 3, none⟩ = some (.string ⟨#[]⟩) ∧ z.cell? ⟨w.heap.size, 4, none⟩ = some (.slice p l c) ∧ z.cell? ⟨bl, ol, none⟩ = some (.int .i64 K3) ∧ z.cell? ⟨bl, ol + 1, none⟩ = some (.int .i64 I3) ∧ z.cell? ⟨bl, ol + 2, none⟩ = some (.float .f64 F3) ∧ z.cell? ⟨bl, ol + 3, none⟩ = some (.string S3) ∧ z.cell? ⟨bl, ol + 4, none⟩ = some (.slice q3 m3 d3) ∧ z.cell? ⟨w.heap.size + 1 + 1, 0, none⟩ = some (.int .i64 Ku) ∧ z.cell? ⟨w.heap.size + 1 + 1, 1, none⟩ = some (.int .i64 Iu) ∧ z.cell? ⟨w.heap.size + 1 + 1, 2, none⟩ = some (.float .f64 Fu) ∧ z.cell? ⟨w.heap.size + 1 + 1, 3, none⟩ = some (.string Su) ∧ z.cell? ⟨w.heap.size + 1 + 1, 4, none⟩ = some (.slice qu mu du))) (by kernel_rfl) ?_ (fun hHeld => ?_)
  · have hh := vp_drew HQG.out; exact ⟨hh.1, hh.2.1, hh.2.2.1, hh.2.2.2.1, hh.2.2.2.2.1, hh.2.2.2.2.2.1, hh.2.2.2.2.2.2.1, hh.2.2.2.2.2.2.2.1, hh.2.2.2.2.2.2.2.2.1, hh.2.2.2.2.2.2.2.2.2.1, hh.2.2.2.2.2.2.2.2.2.2.2.2.2.2.2.1, hh.2.2.2.2.2.2.2.2.2.2.2.2.2.2.2.2.1, hh.2.2.2.2.2.2.2.2.2.2.2.2.2.2.2.2.2.1, hh.2.2.2.2.2.2.2.2.2.2.2.2.2.2.2.2.2.2.1, hh.2.2.2.2.2.2.2.2.2.2.2.2.2.2.2.2.2.2.2.1⟩
  have HDW := Lib.hid (vp_drew HQG.out)
  have hdz : Wg.drew.heap.size = Wg.heap.size := rfl
  revert HDW hHeld hdz
  generalize Wg.drew = Wd
  intro hHeld HDW hdz
  refine wpAnyH_take (i := 0) (oi := ?_) (v := ?_) ?hinx0 (by kernel_rfl) ?hfnx0 ?hrnx0 ?hQnx0 ?hynx0 (by assumption) ?restnx0
  case hinx0 => (simp only [List.getElem?_toArray, List.getElem?_cons_zero, List.getElem?_cons_succ]; rfl)
  case hfnx0 => kernel_rfl
  case hrnx0 => kernel_rfl
  case hynx0 => (refine Or.inl ⟨by rfl, ?_⟩; intro wS hSw; (try dsimp only at hSw); go_simp; (try with_reducible rfl))
  case hQnx0 => exact fun _ _ _ h => h
  (try simp only [Act.put, List.setIfInBounds_toArray, List.set_cons_zero, List.set_cons_succ])
  refine wpAnyH_take (i := 1) (oi := ?_) (v := ?_) ?hinx1 (by kernel_rfl) ?hfnx1 ?hrnx1 ?hQnx1 ?hynx1 (by assumption) ?restnx1
  case hinx1 => (simp only [List.getElem?_toArray, List.getElem?_cons_zero, List.getElem?_cons_succ]; rfl)
  case hfnx1 => kernel_rfl
  case hrnx1 => kernel_rfl
  case hynx1 => (refine Or.inl ⟨by rfl, ?_⟩; intro wS hSw; (try dsimp only at hSw); go_simp; (try with_reducible rfl))
  case hQnx1 => exact fun _ _ _ h => h
  (try simp only [Act.put, List.setIfInBounds_toArray, List.set_cons_zero, List.set_cons_succ])
  refine wpAnyH_take (i := 2) (oi := ?_) (v := ?_) ?hinx2 (by kernel_rfl) ?hfnx2 ?hrnx2 ?hQnx2 ?hynx2 (by assumption) ?restnx2
  case hinx2 => (simp only [List.getElem?_toArray, List.getElem?_cons_zero, List.getElem?_cons_succ]; rfl)
  case hfnx2 => kernel_rfl
  case hrnx2 => kernel_rfl
  case hynx2 => (refine Or.inl ⟨by rfl, ?_⟩; intro wS hSw; (try dsimp only at hSw); go_simp; (try with_reducible rfl))
  case hQnx2 => exact fun _ _ _ h => h
  (try simp only [Act.put, List.setIfInBounds_toArray, List.set_cons_zero, List.set_cons_succ])
  refine wpAnyH_ready (rs := [3]) (by kernel_rfl) (by simp) ?_
  refine AllReadyH.cons (o := ?_) ?honx3 ?hstnx3 AllReadyH.nil
  case honx3 => (simp only [List.getElem?_toArray, List.getElem?_cons_zero, List.getElem?_cons_succ]; rfl)
  intro K hK
  have hqd := HDW.out; have b30 := hqd.2.2.2.2.2.2.2.2.2.2.1; have b31 := hqd.2.2.2.2.2.2.2.2.2.2.2.1; have b32 := hqd.2.2.2.2.2.2.2.2.2.2.2.2.1; have b33 := hqd.2.2.2.2.2.2.2.2.2.2.2.2.2.1; have b34 := hqd.2.2.2.2.2.2.2.2.2.2.2.2.2.2.1; have b3f := hqd.2.2.2.2.2.2.2.2.2.2.2.2.2.2.2.2.2.2.2.2.2.1; have b3l := cell_lt b30; go_simp
  have hq11 := vp_set1 hbl hqd (.int .i64 4) (.int .i64 0) (.float .f64 0) (.string ⟨#[]⟩) (.slice p l c); clear b30 b31 b32 b33 b34 b3f b3l
  go_wp2_with fail
  refine hK.out _ _ ?hsnx3 (fun hHeld => ?_)
  case hsnx3 => exact ⟨hq11.1, hq11.2.1, hq11.2.2.1, hq11.2.2.2.1, hq11.2.2.2.2.1, hq11.2.2.2.2.2.1, hq11.2.2.2.2.2.2.1, hq11.2.2.2.2.2.2.2.1, hq11.2.2.2.2.2.2.2.2.1, hq11.2.2.2.2.2.2.2.2.2.1, hq11.2.2.2.2.2.2.2.2.2.2.2.2.2.2.2.1, hq11.2.2.2.2.2.2.2.2.2.2.2.2.2.2.2.2.1, hq11.2.2.2.2.2.2.2.2.2.2.2.2.2.2.2.2.2.1, hq11.2.2.2.2.2.2.2.2.2.2.2.2.2.2.2.2.2.2.1, hq11.2.2.2.2.2.2.2.2.2.2.2.2.2.2.2.2.2.2.2.1⟩
  clear hK K
  (try simp only [Act.put, List.setIfInBounds_toArray, List.set_cons_zero, List.set_cons_succ])
  refine wpAnyH_ready (rs := [4]) (by kernel_rfl) (by simp) ?_
  refine AllReadyH.cons (o := ?_) ?honx4 ?hstnx4 AllReadyH.nil
  case honx4 => (simp only [List.getElem?_toArray, List.getElem?_cons_zero, List.getElem?_cons_succ]; rfl)
  intro K hK
  have b40 := hqd.2.2.2.2.2.2.2.2.2.2.2.2.2.2.2.1; have b41 := hqd.2.2.2.2.2.2.2.2.2.2.2.2.2.2.2.2.1; have b42 := hqd.2.2.2.2.2.2.2.2.2.2.2.2.2.2.2.2.2.1; have b43 := hqd.2.2.2.2.2.2.2.2.2.2.2.2.2.2.2.2.2.2.1; have b44 := hqd.2.2.2.2.2.2.2.2.2.2.2.2.2.2.2.2.2.2.2.1; have b4f := hqd.2.2.2.2.2.2.2.2.2.2.2.2.2.2.2.2.2.2.2.2.2.2; have b4l := cell_lt b40; go_simp
  have hq12 := vp_set2 hbl hq11 (.int .i64 Ku) (.int .i64 Iu) (.float .f64 Fu) (.string Su) (.slice qu mu du); clear b40 b41 b42 b43 b44 b4f b4l
  go_wp2_with fail
  refine hK.out _ _ ?hsnx4 (fun hHeld => ?_)
  case hsnx4 => exact ⟨hq12.1, hq12.2.1, hq12.2.2.1, hq12.2.2.2.1, hq12.2.2.2.2.1, hq12.2.2.2.2.2.1, hq12.2.2.2.2.2.2.1, hq12.2.2.2.2.2.2.2.1, hq12.2.2.2.2.2.2.2.2.1, hq12.2.2.2.2.2.2.2.2.2.1, hq12.2.2.2.2.2.2.2.2.2.2.2.2.2.2.2.1, hq12.2.2.2.2.2.2.2.2.2.2.2.2.2.2.2.2.1, hq12.2.2.2.2.2.2.2.2.2.2.2.2.2.2.2.2.2.1, hq12.2.2.2.2.2.2.2.2.2.2.2.2.2.2.2.2.2.2.1, hq12.2.2.2.2.2.2.2.2.2.2.2.2.2.2.2.2.2.2.2.1⟩
  clear hK K
  (try simp only [Act.put, List.setIfInBounds_toArray, List.set_cons_zero, List.set_cons_succ])
  refine wpAnyH_take (i := 5) (oi := ?_) (v := ?_) ?hinx5 (by kernel_rfl) ?hfnx5 ?hrnx5 ?hQnx5 ?hynx5 (by assumption) ?restnx5
  case hinx5 => (simp only [List.getElem?_toArray, List.getElem?_cons_zero, List.getElem?_cons_succ]; rfl)
  case hfnx5 => kernel_rfl
  case hrnx5 => kernel_rfl
  case hynx5 => (refine Or.inl ⟨by rfl, ?_⟩; intro wS hSw; (try dsimp only at hSw); go_simp; (try with_reducible rfl))
  case hQnx5 => exact fun _ _ _ h => h
  (try simp only [Act.put, List.setIfInBounds_toArray, List.set_cons_zero, List.set_cons_succ])
  refine wpAnyH_done (by kernel_rfl) ?_ _
  have HGF := Lib.hid (show VP p l c bl ol K3 I3 F3 S3 q3 m3 d3 (.int .i64 4) (.int .i64 0) (.float .f64 0) (.string ⟨#[]⟩) (.slice p l c) (.int .i64 Ku) (.int .i64 Iu) (.float .f64 Fu) (.string Su) (.slice qu mu du) w ((((((((((Wd.setCell ⟨w.heap.size + 1, 0, none⟩ (.int .i64 4)).setCell ⟨w.heap.size + 1, 1, none⟩ (.int .i64 0)).setCell ⟨w.heap.size + 1, 2, none⟩ (.float .f64 0)).setCell ⟨w.heap.size + 1, 3, none⟩ (.string ⟨#[]⟩)).setCell ⟨w.heap.size + 1, 4, none⟩ (.slice p l c)).setCell ⟨w.heap.size + 1 + 1, 0, none⟩ (.int .i64 Ku)).setCell ⟨w.heap.size + 1 + 1, 1, none⟩ (.int .i64 Iu)).setCell ⟨w.heap.size + 1 + 1, 2, none⟩ (.float .f64 Fu)).setCell ⟨w.heap.size + 1 + 1, 3, none⟩ (.string Su)).setCell ⟨w.heap.size + 1 + 1, 4, none⟩ (.slice qu mu du)) ∧ ∀ b : Nat, b ≠ w.heap.size + 1 → b ≠ w.heap.size + 1 + 1 → (((((((((((Wd.setCell ⟨w.heap.size + 1, 0, none⟩ (.int .i64 4)).setCell ⟨w.heap.size + 1, 1, none⟩ (.int .i64 0)).setCell ⟨w.heap.size + 1, 2, none⟩ (.float .f64 0)).setCell ⟨w.heap.size + 1, 3, none⟩ (.string ⟨#[]⟩)).setCell ⟨w.heap.size + 1, 4, none⟩ (.slice p l c)).setCell ⟨w.heap.size + 1 + 1, 0, none⟩ (.int .i64 Ku)).setCell ⟨w.heap.size + 1 + 1, 1, none⟩ (.int .i64 Iu)).setCell ⟨w.heap.size + 1 + 1, 2, none⟩ (.float .f64 Fu)).setCell ⟨w.heap.size + 1 + 1, 3, none⟩ (.string Su)).setCell ⟨w.heap.size + 1 + 1, 4, none⟩ (.slice qu mu du))).heap[b]? = Wd.heap[b]? from ⟨hq12, fun b h1 h2 => (set5_other (w := set5 Wd (w.heap.size + 1) 0 (.int .i64 4) (.int .i64 0) (.float .f64 0) (.string ⟨#[]⟩) (.slice p l c)) (g := w.heap.size + 1 + 1) (o := 0) h2).trans (set5_other (g := w.heap.size + 1) (o := 0) h1)⟩)
  clear hq12 hq11 hHeld
  revert HGF
  generalize ((((((((((Wd.setCell ⟨w.heap.size + 1, 0, none⟩ (.int .i64 4)).setCell ⟨w.heap.size + 1, 1, none⟩ (.int .i64 0)).setCell ⟨w.heap.size + 1, 2, none⟩ (.float .f64 0)).setCell ⟨w.heap.size + 1, 3, none⟩ (.string ⟨#[]⟩)).setCell ⟨w.heap.size + 1, 4, none⟩ (.slice p l c)).setCell ⟨w.heap.size + 1 + 1, 0, none⟩ (.int .i64 Ku)).setCell ⟨w.heap.size + 1 + 1, 1, none⟩ (.int .i64 Iu)).setCell ⟨w.heap.size + 1 + 1, 2, none⟩ (.float .f64 Fu)).setCell ⟨w.heap.size + 1 + 1, 3, none⟩ (.string Su)).setCell ⟨w.heap.size + 1 + 1, 4, none⟩ (.slice qu mu du)) = Wf
  intro HGF
  have hqf := HGF.out.1
  have b30 := hqf.2.2.2.2.2.2.2.2.2.2.1
  have b31 := hqf.2.2.2.2.2.2.2.2.2.2.2.1
  have b32 := hqf.2.2.2.2.2.2.2.2.2.2.2.2.1
  have b33 := hqf.2.2.2.2.2.2.2.2.2.2.2.2.2.1
  have b34 := hqf.2.2.2.2.2.2.2.2.2.2.2.2.2.2.1
  have b40 := hqf.2.2.2.2.2.2.2.2.2.2.2.2.2.2.2.1
  have b41 := hqf.2.2.2.2.2.2.2.2.2.2.2.2.2.2.2.2.1
  have b42 := hqf.2.2.2.2.2.2.2.2.2.2.2.2.2.2.2.2.2.1
  have b43 := hqf.2.2.2.2.2.2.2.2.2.2.2.2.2.2.2.2.2.2.1
  have b44 := hqf.2.2.2.2.2.2.2.2.2.2.2.2.2.2.2.2.2.2.2.1
  clear hqf
  go_wp2
  refine bodyPost_ret (v := .tuple #[.agg #[.int .i64 4, .int .i64 0, .float .f64 0, .string ⟨#[]⟩, .slice p l c], .agg #[.int .i64 Ku, .int .i64 Iu, .float .f64 Fu, .string Su, .slice qu mu du], .int .i64 z]) (by simp [results, Try.results24, go_sem, b30, b31, b32, b33, b34, b40, b41, b42, b43, b44]) rfl ⟨_, _, rfl, HGF.out.1.2.2.2.2.2.2.2.2.2.2.2.2.2.2.2.2.2.2.2.2.1, rep_keep HGF.out.1.2.2.2.2.2.2.2.2.2.2.2.2.2.2.2.2.2.2.2.2.1 _ _ _ HS.out, rep_keep HGF.out.1.2.2.2.2.2.2.2.2.2.2.2.2.2.2.2.2.2.2.2.2.1 _ _ _ HU.out⟩
end Num
end Go.Proofs.Ytodjnhhnjncgdaa
