/-
  Package queue: push.
-/
import Derived.Test.YtodjnhhnjncgdaaEA
import Derived.Test.YtodjnhhnjncgdaaEP
import Derived.Deep.RegionHeld3
import Derived.RegionTactic
import Derived.Deep.DeepCutAuto
namespace Go.Proofs.Ytodjnhhnjncgdaa
open Go.RowKit
namespace Num
open Ints
set_option linter.unusedSimpArgs false
set_option linter.unusedVariables false
/-- What push keeps: its boxes. -/
def PU (K3 I3 : Int) (F3 : Nat) (S3 : ByteArray) (q3 : Option Addr) (m3 d3 : Nat) (x0 x1 x2 x3 x4 y0 y1 y2 y3 y4 : Value) (w z : World) : Prop := z.cell? ⟨w.heap.size, 0, none⟩ = some (.int .i64 K3) ∧ z.cell? ⟨w.heap.size, 1, none⟩ = some (.int .i64 I3) ∧ z.cell? ⟨w.heap.size, 2, none⟩ = some (.float .f64 F3) ∧ z.cell? ⟨w.heap.size, 3, none⟩ = some (.string S3) ∧ z.cell? ⟨w.heap.size, 4, none⟩ = some (.slice q3 m3 d3) ∧ z.cell? ⟨w.heap.size + 1, 0, none⟩ = some (x0) ∧ z.cell? ⟨w.heap.size + 1, 1, none⟩ = some (x1) ∧ z.cell? ⟨w.heap.size + 1, 2, none⟩ = some (x2) ∧ z.cell? ⟨w.heap.size + 1, 3, none⟩ = some (x3) ∧ z.cell? ⟨w.heap.size + 1, 4, none⟩ = some (x4) ∧ z.cell? ⟨w.heap.size + 1 + 1, 0, none⟩ = some (y0) ∧ z.cell? ⟨w.heap.size + 1 + 1, 1, none⟩ = some (y1) ∧ z.cell? ⟨w.heap.size + 1 + 1, 2, none⟩ = some (y2) ∧ z.cell? ⟨w.heap.size + 1 + 1, 3, none⟩ = some (y3) ∧ z.cell? ⟨w.heap.size + 1 + 1, 4, none⟩ = some (y4) ∧ Below w.heap.size w z ∧ (∀ o, z.frozen? ⟨w.heap.size + 1, o, none⟩ = false) ∧ (∀ o, z.frozen? ⟨w.heap.size + 1 + 1, o, none⟩ = false)
section
variable {K3 I3 : Int} {F3 : Nat} {S3 : ByteArray} {q3 : Option Addr} {m3 d3 : Nat} {x0 x1 x2 x3 x4 y0 y1 y2 y3 y4 : Value} {w x y : World}
theorem pu_step (h : PU K3 I3 F3 S3 q3 m3 d3 x0 x1 x2 x3 x4 y0 y1 y2 y3 y4 w x) (hb : Below x.heap.size x y) : PU K3 I3 F3 S3 q3 m3 d3 x0 x1 x2 x3 x4 y0 y1 y2 y3 y4 w y :=
  ⟨cell_keep hb h.1, cell_keep hb h.2.1, cell_keep hb h.2.2.1, cell_keep hb h.2.2.2.1, cell_keep hb h.2.2.2.2.1, cell_keep hb h.2.2.2.2.2.1, cell_keep hb h.2.2.2.2.2.2.1, cell_keep hb h.2.2.2.2.2.2.2.1, cell_keep hb h.2.2.2.2.2.2.2.2.1, cell_keep hb h.2.2.2.2.2.2.2.2.2.1, cell_keep hb h.2.2.2.2.2.2.2.2.2.2.1, cell_keep hb h.2.2.2.2.2.2.2.2.2.2.2.1, cell_keep hb h.2.2.2.2.2.2.2.2.2.2.2.2.1, cell_keep hb h.2.2.2.2.2.2.2.2.2.2.2.2.2.1, cell_keep hb h.2.2.2.2.2.2.2.2.2.2.2.2.2.2.1, bel_step h.2.2.2.2.2.2.2.2.2.2.2.2.2.2.2.1 hb, fun o => (hb.frozen (p := ⟨w.heap.size + 1, o, none⟩) (show w.heap.size + 1 < x.heap.size from cell_lt h.2.2.2.2.2.1)).trans (h.2.2.2.2.2.2.2.2.2.2.2.2.2.2.2.2.1 o), fun o => (hb.frozen (p := ⟨w.heap.size + 1 + 1, o, none⟩) (show w.heap.size + 1 + 1 < x.heap.size from cell_lt h.2.2.2.2.2.2.2.2.2.2.1)).trans (h.2.2.2.2.2.2.2.2.2.2.2.2.2.2.2.2.2 o)⟩
theorem pu_ro (h : PU K3 I3 F3 S3 q3 m3 d3 x0 x1 x2 x3 x4 y0 y1 y2 y3 y4 w x) : x.cell? ⟨w.heap.size, 0, none⟩ = some (.int .i64 K3) ∧ x.cell? ⟨w.heap.size, 1, none⟩ = some (.int .i64 I3) ∧ x.cell? ⟨w.heap.size, 2, none⟩ = some (.float .f64 F3) ∧ x.cell? ⟨w.heap.size, 3, none⟩ = some (.string S3) ∧ x.cell? ⟨w.heap.size, 4, none⟩ = some (.slice q3 m3 d3) := ⟨h.1, h.2.1, h.2.2.1, h.2.2.2.1, h.2.2.2.2.1⟩
theorem pu_r1 (h : PU K3 I3 F3 S3 q3 m3 d3 x0 x1 x2 x3 x4 y0 y1 y2 y3 y4 w x) : x.cell? ⟨w.heap.size, 0, none⟩ = some (.int .i64 K3) ∧ x.cell? ⟨w.heap.size, 1, none⟩ = some (.int .i64 I3) ∧ x.cell? ⟨w.heap.size, 2, none⟩ = some (.float .f64 F3) ∧ x.cell? ⟨w.heap.size, 3, none⟩ = some (.string S3) ∧ x.cell? ⟨w.heap.size, 4, none⟩ = some (.slice q3 m3 d3) ∧ x.cell? ⟨w.heap.size + 1, 0, none⟩ = some (x0) ∧ x.cell? ⟨w.heap.size + 1, 1, none⟩ = some (x1) ∧ x.cell? ⟨w.heap.size + 1, 2, none⟩ = some (x2) ∧ x.cell? ⟨w.heap.size + 1, 3, none⟩ = some (x3) ∧ x.cell? ⟨w.heap.size + 1, 4, none⟩ = some (x4) := ⟨h.1, h.2.1, h.2.2.1, h.2.2.2.1, h.2.2.2.2.1, h.2.2.2.2.2.1, h.2.2.2.2.2.2.1, h.2.2.2.2.2.2.2.1, h.2.2.2.2.2.2.2.2.1, h.2.2.2.2.2.2.2.2.2.1⟩
theorem pu_all (h : PU K3 I3 F3 S3 q3 m3 d3 x0 x1 x2 x3 x4 y0 y1 y2 y3 y4 w x) : x.cell? ⟨w.heap.size, 0, none⟩ = some (.int .i64 K3) ∧ x.cell? ⟨w.heap.size, 1, none⟩ = some (.int .i64 I3) ∧ x.cell? ⟨w.heap.size, 2, none⟩ = some (.float .f64 F3) ∧ x.cell? ⟨w.heap.size, 3, none⟩ = some (.string S3) ∧ x.cell? ⟨w.heap.size, 4, none⟩ = some (.slice q3 m3 d3) ∧ x.cell? ⟨w.heap.size + 1, 0, none⟩ = some (x0) ∧ x.cell? ⟨w.heap.size + 1, 1, none⟩ = some (x1) ∧ x.cell? ⟨w.heap.size + 1, 2, none⟩ = some (x2) ∧ x.cell? ⟨w.heap.size + 1, 3, none⟩ = some (x3) ∧ x.cell? ⟨w.heap.size + 1, 4, none⟩ = some (x4) ∧ x.cell? ⟨w.heap.size + 1 + 1, 0, none⟩ = some (y0) ∧ x.cell? ⟨w.heap.size + 1 + 1, 1, none⟩ = some (y1) ∧ x.cell? ⟨w.heap.size + 1 + 1, 2, none⟩ = some (y2) ∧ x.cell? ⟨w.heap.size + 1 + 1, 3, none⟩ = some (y3) ∧ x.cell? ⟨w.heap.size + 1 + 1, 4, none⟩ = some (y4) := ⟨h.1, h.2.1, h.2.2.1, h.2.2.2.1, h.2.2.2.2.1, h.2.2.2.2.2.1, h.2.2.2.2.2.2.1, h.2.2.2.2.2.2.2.1, h.2.2.2.2.2.2.2.2.1, h.2.2.2.2.2.2.2.2.2.1, h.2.2.2.2.2.2.2.2.2.2.1, h.2.2.2.2.2.2.2.2.2.2.2.1, h.2.2.2.2.2.2.2.2.2.2.2.2.1, h.2.2.2.2.2.2.2.2.2.2.2.2.2.1, h.2.2.2.2.2.2.2.2.2.2.2.2.2.2.1⟩
theorem pu_drew (h : PU K3 I3 F3 S3 q3 m3 d3 x0 x1 x2 x3 x4 y0 y1 y2 y3 y4 w x) : PU K3 I3 F3 S3 q3 m3 d3 x0 x1 x2 x3 x4 y0 y1 y2 y3 y4 w x.drew := pu_step h (Below.drew (Below.refl _ _))
theorem pu_set1 (h : PU K3 I3 F3 S3 q3 m3 d3 x0 x1 x2 x3 x4 y0 y1 y2 y3 y4 w x) (u0 u1 u2 u3 u4 : Value) : PU K3 I3 F3 S3 q3 m3 d3 u0 u1 u2 u3 u4 y0 y1 y2 y3 y4 w (set5 x (w.heap.size + 1) 0 u0 u1 u2 u3 u4) := by
  have e : ∀ c i, c ≠ w.heap.size + 1 → (set5 x (w.heap.size + 1) 0 u0 u1 u2 u3 u4).cell? ⟨c, i, none⟩ = x.cell? ⟨c, i, none⟩ := fun c i hc => World.cell?_of_block (set5_other hc)
  have hs := set5_same (g := w.heap.size + 1) (o := 0) u0 u1 u2 u3 u4 h.2.2.2.2.2.1 h.2.2.2.2.2.2.1 h.2.2.2.2.2.2.2.1 h.2.2.2.2.2.2.2.2.1 h.2.2.2.2.2.2.2.2.2.1
  unfold PU at h ⊢
  obtain ⟨g0, g1, g2, g3, g4, g5, g6, g7, g8, g9, g10, g11, g12, g13, g14, g15, g16, g17⟩ := h
  refine ⟨(e _ _ (by omega)).trans g0, (e _ _ (by omega)).trans g1, (e _ _ (by omega)).trans g2, (e _ _ (by omega)).trans g3, (e _ _ (by omega)).trans g4, hs.1, hs.2.1, hs.2.2.1, hs.2.2.2.1, hs.2.2.2.2, (e _ _ (by omega)).trans g10, (e _ _ (by omega)).trans g11, (e _ _ (by omega)).trans g12, (e _ _ (by omega)).trans g13, (e _ _ (by omega)).trans g14, set5_below g15 (by omega) _ _ _ _ _, fun o => ?_, fun o => ?_⟩
  all_goals (unfold set5; simp only [World.frozen?_setCell]; first | exact g16 o | exact g17 o)
theorem pu_set2 (h : PU K3 I3 F3 S3 q3 m3 d3 x0 x1 x2 x3 x4 y0 y1 y2 y3 y4 w x) (u0 u1 u2 u3 u4 : Value) : PU K3 I3 F3 S3 q3 m3 d3 x0 x1 x2 x3 x4 u0 u1 u2 u3 u4 w (set5 x (w.heap.size + 1 + 1) 0 u0 u1 u2 u3 u4) := by
  have e : ∀ c i, c ≠ w.heap.size + 1 + 1 → (set5 x (w.heap.size + 1 + 1) 0 u0 u1 u2 u3 u4).cell? ⟨c, i, none⟩ = x.cell? ⟨c, i, none⟩ := fun c i hc => World.cell?_of_block (set5_other hc)
  have hs := set5_same (g := w.heap.size + 1 + 1) (o := 0) u0 u1 u2 u3 u4 h.2.2.2.2.2.2.2.2.2.2.1 h.2.2.2.2.2.2.2.2.2.2.2.1 h.2.2.2.2.2.2.2.2.2.2.2.2.1 h.2.2.2.2.2.2.2.2.2.2.2.2.2.1 h.2.2.2.2.2.2.2.2.2.2.2.2.2.2.1
  unfold PU at h ⊢
  obtain ⟨g0, g1, g2, g3, g4, g5, g6, g7, g8, g9, g10, g11, g12, g13, g14, g15, g16, g17⟩ := h
  refine ⟨(e _ _ (by omega)).trans g0, (e _ _ (by omega)).trans g1, (e _ _ (by omega)).trans g2, (e _ _ (by omega)).trans g3, (e _ _ (by omega)).trans g4, (e _ _ (by omega)).trans g5, (e _ _ (by omega)).trans g6, (e _ _ (by omega)).trans g7, (e _ _ (by omega)).trans g8, (e _ _ (by omega)).trans g9, hs.1, hs.2.1, hs.2.2.1, hs.2.2.2.1, hs.2.2.2.2, set5_below g15 (by omega) _ _ _ _ _, fun o => ?_, fun o => ?_⟩
  all_goals (unfold set5; simp only [World.frozen?_setCell]; first | exact g16 o | exact g17 o)
end
set_option maxRecDepth 100000 in
set_option maxHeartbeats 4000000 in
theorem qpush_ok (n : Nat) (p : Option Addr) (l c : Nat) (K3 I3 : Int) (F3 : Nat) (S3 : ByteArray) (q3 : Option Addr) (m3 d3 : Nat) (L : List (VT (n + 1))) (V : VT (n + 1)) (w0 w : World) (HBW : Hid (Below w0.heap.size w0 w)) (HL : Hid (RepL w0 (Rep w0 (n + 1)) p l c L)) (HV : Hid (Rep w0 (n + 1) (.agg #[.int .i64 K3, .int .i64 I3, .float .f64 F3, .string S3, .slice q3 m3 d3]) V)) (hl : l ≤ 32) (hne : l ≠ 32)
    (HC : Hid (checkM (measT (n + 2) ((4, 0, 0, ⟨#[]⟩, L ++ [V]) : VT (n + 2))) = 0 ∧ deepT (n + 2) ((4, 0, 0, ⟨#[]⟩, L ++ [V]) : VT (n + 2)) 64 = false ∧ partsT (n + 2) ((4, 0, 0, ⟨#[]⟩, L ++ [V]) : VT (n + 2)) ≤ 1000)) :
    Calls Try.prog 47 #[.slice p l c, .agg #[.int .i64 K3, .int .i64 I3, .float .f64 F3, .string S3, .slice q3 m3 d3]] w fun e w' => ∃ t, e = .returned (.tuple #[t, .agg #[.int .i64 1, .int .i64 ((l : Int) + 1), .float .f64 0, .string ⟨#[]⟩, .slice none 0 0], .int .i64 0]) ∧ Below w.heap.size w w' ∧ ∀ y, Below w0.heap.size w0 y → Stay w.heap.size w' y → Rep y (n + 2) t ((4, 0, 0, ⟨#[]⟩, L ++ [V]) : VT (n + 2)) := by
  obtain ⟨ov, hov⟩ : ∃ o, Obj.cells #[.int .i64 K3, .int .i64 I3, .float .f64 F3, .string S3, .slice q3 m3 d3] 27 = o := ⟨_, rfl⟩
  obtain ⟨oz, hoz⟩ : ∃ o, Obj.cells #[.int .i64 0, .int .i64 0, .float .f64 0, .string ⟨#[]⟩, .slice none 0 0] 27 = o := ⟨_, rfl⟩
  have hB : Below w.heap.size w (((w.alloc ov).alloc oz).alloc oz) := bel_alloc (bel_alloc (bel_alloc (Below.refl w.heap.size w) ov) oz) oz
  have r0 := row_alloc_step (row_alloc_step (row_alloc w #[.int .i64 K3, .int .i64 I3, .float .f64 F3, .string S3, .slice q3 m3 d3] 27) oz) oz
  rw [hov] at r0
  have r1 := row_alloc_step (row_alloc (w.alloc ov) #[.int .i64 0, .int .i64 0, .float .f64 0, .string ⟨#[]⟩, .slice none 0 0] 27) oz
  rw [hoz] at r1
  have r2 := row_alloc ((w.alloc ov).alloc oz) #[.int .i64 0, .int .i64 0, .float .f64 0, .string ⟨#[]⟩, .slice none 0 0] 27
  rw [hoz] at r2
  simp only [World.size_alloc] at r0 r1 r2
  have HB := Lib.hid hB
  subst hov hoz
  have HG0 := Lib.hid (show PU K3 I3 F3 S3 q3 m3 d3 (.int .i64 0) (.int .i64 0) (.float .f64 0) (.string ⟨#[]⟩) (.slice none 0 0) (.int .i64 0) (.int .i64 0) (.float .f64 0) (.string ⟨#[]⟩) (.slice none 0 0) w (((w.alloc (.cells #[.int .i64 K3, .int .i64 I3, .float .f64 F3, .string S3, .slice q3 m3 d3] 27)).alloc (.cells #[.int .i64 0, .int .i64 0, .float .f64 0, .string ⟨#[]⟩, .slice none 0 0] 27)).alloc (.cells #[.int .i64 0, .int .i64 0, .float .f64 0, .string ⟨#[]⟩, .slice none 0 0] 27)) ∧ ((((w.alloc (.cells #[.int .i64 K3, .int .i64 I3, .float .f64 F3, .string S3, .slice q3 m3 d3] 27)).alloc (.cells #[.int .i64 0, .int .i64 0, .float .f64 0, .string ⟨#[]⟩, .slice none 0 0] 27)).alloc (.cells #[.int .i64 0, .int .i64 0, .float .f64 0, .string ⟨#[]⟩, .slice none 0 0] 27))).heap.size = w.heap.size + 1 + 1 + 1 from ⟨⟨row_cell r0 0, row_cell r0 1, row_cell r0 2, row_cell r0 3, row_cell r0 4, row_cell r1 0, row_cell r1 1, row_cell r1 2, row_cell r1 3, row_cell r1 4, row_cell r2 0, row_cell r2 1, row_cell r2 2, row_cell r2 3, row_cell r2 4, HB.out, fun o => row_frz r1 o, fun o => row_frz r2 o⟩, by simp only [World.size_alloc]⟩)
  clear r0 r1 r2 hB HB
  have hl32 : ((l : Int) == 32) = false := by rw [beq_eq_false_iff_ne]; omega
  clear hne
  go_enter Try.func47, Try.ntmps47
  go_upto_region 3 with fail
  revert HG0
  generalize (((w.alloc (.cells #[.int .i64 K3, .int .i64 I3, .float .f64 F3, .string S3, .slice q3 m3 d3] 27)).alloc (.cells #[.int .i64 0, .int .i64 0, .float .f64 0, .string ⟨#[]⟩, .slice none 0 0] 27)).alloc (.cells #[.int .i64 0, .int .i64 0, .float .f64 0, .string ⟨#[]⟩, .slice none 0 0] 27)) = Wz
  intro HG0
  have HP0 := Lib.hid HG0.out.1
  have hzw := HG0.out.2
  have l0 : w.heap.size < Wz.heap.size := by omega
  refine wp_region_held_drew (S := (fun z => z.cell? ⟨w.heap.size, 0, none⟩ = some (.int .i64 K3) ∧ z.cell? ⟨w.heap.size, 1, none⟩ = some (.int .i64 I3) ∧ z.cell? ⟨w.heap.size, 2, none⟩ = some (.float .f64 F3) ∧ z.cell? ⟨w.heap.size, 3, none⟩ = some (.string S3) ∧ z.cell? ⟨w.heap.size, 4, none⟩ = some (.slice q3 m3 d3))) (by kernel_rfl) ?_ (fun hHeld => ?_)
  · exact pu_ro (pu_drew HP0.out)
  have HWZ := Lib.hid (pu_drew HP0.out)
  have hdz : Wz.drew.heap.size = Wz.heap.size := rfl
  revert HWZ hHeld hdz
  generalize Wz.drew = Wd
  intro hHeld HWZ hdz
  have hbz : w.heap.size + 1 + 1 + 1 ≤ Wd.heap.size := by omega
  clear hdz hzw l0
  refine wpAnyH_take (i := 0) (oi := ?_) (v := ?_) ?hia0 (by kernel_rfl) ?hfa0 ?hra0 ?hQa0 ?hya0 (by assumption) ?resta0
  case hia0 => (simp only [List.getElem?_toArray, List.getElem?_cons_zero, List.getElem?_cons_succ]; rfl)
  case hfa0 => kernel_rfl
  case hra0 => kernel_rfl
  case hya0 => (refine Or.inl ⟨by rfl, ?_⟩; intro wS hSw; (try dsimp only at hSw); go_simp; (try with_reducible rfl))
  case hQa0 => exact fun _ _ _ h => h
  (try simp only [Act.put, List.setIfInBounds_toArray, List.set_cons_zero, List.set_cons_succ])
  refine wpAnyH_take (i := 2) (oi := ?_) (v := ?_) ?hia2 (by kernel_rfl) ?hfa2 ?hra2 ?hQa2 ?hya2 (by assumption) ?resta2
  case hia2 => (simp only [List.getElem?_toArray, List.getElem?_cons_zero, List.getElem?_cons_succ]; rfl)
  case hfa2 => kernel_rfl
  case hra2 => kernel_rfl
  case hya2 => (refine Or.inl ⟨by rfl, ?_⟩; intro wS hSw; (try dsimp only at hSw); go_simp; (try with_reducible rfl))
  case hQa2 => exact fun _ _ _ h => h
  (try simp only [Act.put, List.setIfInBounds_toArray, List.set_cons_zero, List.set_cons_succ])
  have HLd := Lib.hid (repL_at (bel_step HBW.out HWZ.out.2.2.2.2.2.2.2.2.2.2.2.2.2.2.2.1) HL.out)
  refine wpAnyH_ready (rs := [1, 3]) (by kernel_rfl) (by simp) ?_
  refine AllReadyH.cons (o := ?_) ?hoPa ?hstPa (AllReadyH.cons (o := ?_) ?hoRa ?hstRa AllReadyH.nil)
  case hoPa => (simp only [List.getElem?_toArray, List.getElem?_cons_zero, List.getElem?_cons_succ]; rfl)
  case hoRa => (simp only [List.getElem?_toArray, List.getElem?_cons_zero, List.getElem?_cons_succ]; rfl)
  case hstPa =>
    have HO := Lib.hid (ow_none Wd Wd (Rep w0 (n + 1)) (Below.refl _ _) (Nat.le_refl _))
    intro K hK
    refine step_ovs rfl (.const (.slice none 0 0)) (.tmp 12) rfl (rep_one w0 (n + 1)) Wd Wd none 0 0 [] p l c L rfl rfl HO.out HLd.out (by omega) ?_; intro p1 c1 w1 ho1; rw [Nat.zero_add, List.nil_append] at ho1; have hq1 := pu_step HWZ.out (ow_rep ho1).2; have HO1 := Lib.hid ho1; clear ho1
    go_wp2_with fail
    refine hK.out _ _ ?hsPa (fun hHeld => ?_)
    case hsPa => exact pu_ro hq1
    clear hK K
    (try simp only [Act.put, List.setIfInBounds_toArray, List.set_cons_zero, List.set_cons_succ])
    refine wpAnyH_ready (rs := [3]) (by kernel_rfl) (by simp) ?_
    refine AllReadyH.cons (o := ?_) ?hoaP3 ?hstaP3 AllReadyH.nil
    case hoaP3 => (simp only [List.getElem?_toArray, List.getElem?_cons_zero, List.getElem?_cons_succ]; rfl)
    intro K hK
    go_simp
    have hal1 := bel_alloc (Below.refl w1.heap.size w1) (.cells #[.int .i64 K3, .int .i64 I3, .float .f64 F3, .string S3, .slice q3 m3 d3] 27); have hq2 := pu_step hq1 hal1; have hro2 := row_alloc w1 #[.int .i64 K3, .int .i64 I3, .float .f64 F3, .string S3, .slice q3 m3 d3] 27; have ho2 := ow_step HO1.out hal1; clear hal1
    go_wp2_with fail
    refine hK.out _ _ ?hsaP3 (fun hHeld => ?_)
    case hsaP3 => exact pu_ro hq2
    clear hK K
    (try simp only [Act.put, List.setIfInBounds_toArray, List.set_cons_zero, List.set_cons_succ])
    have hM := row1_rep (R := Rep w0 (n + 1)) hro2 HV.out
    refine wpAnyH_ready (rs := [4]) (by kernel_rfl) (by simp) ?_
    refine AllReadyH.cons (o := ?_) ?hoaP4 ?hstaP4 AllReadyH.nil
    case hoaP4 => (simp only [List.getElem?_toArray, List.getElem?_cons_zero, List.getElem?_cons_succ]; rfl)
    intro K hK
    skip
    refine step_ovs rfl (.tmp 13) (.tmp 15) rfl (rep_one w0 (n + 1)) Wd _ p1 l c1 L _ 1 1 [V] rfl rfl ho2 hM (by omega) ?_; intro p2 c2 w3 ho3; have hq3 := pu_step HWZ.out (ow_rep ho3).2; have HY := Lib.hid (ow_rep ho3).1; clear ho3 ho2 hM hro2 hq2
    go_wp2_with fail
    refine hK.out _ _ ?hsaP4 (fun hHeld => ?_)
    case hsaP4 => exact pu_ro hq3
    clear hK K
    (try simp only [Act.put, List.setIfInBounds_toArray, List.set_cons_zero, List.set_cons_succ])
    refine wpAnyH_ready (rs := [5]) (by kernel_rfl) (by simp) ?_
    refine AllReadyH.cons (o := ?_) ?hoaP5 ?hstaP5 AllReadyH.nil
    case hoaP5 => (simp only [List.getElem?_toArray, List.getElem?_cons_zero, List.getElem?_cons_succ]; rfl)
    intro K hK
    go_simp
    go_at_call 79; refine (qlist_any _ _ _ _).mono ?_; rintro e w4 ⟨rfl, hb4⟩; have hq4 := pu_step hq3 hb4; have hst4 := stay_below (B := Wd.heap.size) hb4; have hz4 := hb4.size; clear hb4 hq3
    go_wp2_with fail
    refine hK.out _ _ ?hsaP5 (fun hHeld => ?_)
    case hsaP5 => exact pu_ro hq4
    clear hK K
    (try simp only [Act.put, List.setIfInBounds_toArray, List.set_cons_zero, List.set_cons_succ])
    refine wpAnyH_ready (rs := [6]) (by kernel_rfl) (by simp) ?_
    refine AllReadyH.cons (o := ?_) ?hoaP6 ?hstaP6 AllReadyH.nil
    case hoaP6 => (simp only [List.getElem?_toArray, List.getElem?_cons_zero, List.getElem?_cons_succ]; rfl)
    intro K hK
    have b30 := hq4.2.2.2.2.2.1; have b31 := hq4.2.2.2.2.2.2.1; have b32 := hq4.2.2.2.2.2.2.2.1; have b33 := hq4.2.2.2.2.2.2.2.2.1; have b34 := hq4.2.2.2.2.2.2.2.2.2.1; have b3f := hq4.2.2.2.2.2.2.2.2.2.2.2.2.2.2.2.2.1; have b3l := cell_lt b30; go_simp
    have hq5 := pu_set1 hq4 (.int .i64 4) (.int .i64 0) (.float .f64 0) (.string ⟨#[]⟩) (.slice p2 (l + 1) c2); have hst5 : Stay Wd.heap.size w3 (((((w4.setCell ⟨w.heap.size + 1, 0, none⟩ (.int .i64 4)).setCell ⟨w.heap.size + 1, 1, none⟩ (.int .i64 0)).setCell ⟨w.heap.size + 1, 2, none⟩ (.float .f64 0)).setCell ⟨w.heap.size + 1, 3, none⟩ (.string ⟨#[]⟩)).setCell ⟨w.heap.size + 1, 4, none⟩ (.slice p2 (l + 1) c2)) := fun b h1 h2 => (set5_other (g := w.heap.size + 1) (o := 0) (by omega)).trans (hst4 b h1 h2); clear b30 b31 b32 b33 b34 b3f b3l
    go_wp2_with fail
    refine hK.out _ _ ?hsaP6 (fun hHeld => ?_)
    case hsaP6 => exact pu_ro hq5
    clear hK K
    (try simp only [Act.put, List.setIfInBounds_toArray, List.set_cons_zero, List.set_cons_succ])
    refine wpAnyH_done (by kernel_rfl) ?_ _
    have HG8 := Lib.hid (show PU K3 I3 F3 S3 q3 m3 d3 (.int .i64 4) (.int .i64 0) (.float .f64 0) (.string ⟨#[]⟩) (.slice p2 (l + 1) c2) (.int .i64 0) (.int .i64 0) (.float .f64 0) (.string ⟨#[]⟩) (.slice none 0 0) w (((((w4.setCell ⟨w.heap.size + 1, 0, none⟩ (.int .i64 4)).setCell ⟨w.heap.size + 1, 1, none⟩ (.int .i64 0)).setCell ⟨w.heap.size + 1, 2, none⟩ (.float .f64 0)).setCell ⟨w.heap.size + 1, 3, none⟩ (.string ⟨#[]⟩)).setCell ⟨w.heap.size + 1, 4, none⟩ (.slice p2 (l + 1) c2)) ∧ Stay Wd.heap.size w3 (((((w4.setCell ⟨w.heap.size + 1, 0, none⟩ (.int .i64 4)).setCell ⟨w.heap.size + 1, 1, none⟩ (.int .i64 0)).setCell ⟨w.heap.size + 1, 2, none⟩ (.float .f64 0)).setCell ⟨w.heap.size + 1, 3, none⟩ (.string ⟨#[]⟩)).setCell ⟨w.heap.size + 1, 4, none⟩ (.slice p2 (l + 1) c2)) ∧ w3.heap.size ≤ ((((((w4.setCell ⟨w.heap.size + 1, 0, none⟩ (.int .i64 4)).setCell ⟨w.heap.size + 1, 1, none⟩ (.int .i64 0)).setCell ⟨w.heap.size + 1, 2, none⟩ (.float .f64 0)).setCell ⟨w.heap.size + 1, 3, none⟩ (.string ⟨#[]⟩)).setCell ⟨w.heap.size + 1, 4, none⟩ (.slice p2 (l + 1) c2))).heap.size from ⟨hq5, hst5, by show w3.heap.size ≤ (set5 w4 (w.heap.size + 1) 0 (.int .i64 4) (.int .i64 0) (.float .f64 0) (.string ⟨#[]⟩) (.slice p2 (l + 1) c2)).heap.size; rw [set5_size]; exact hz4⟩)
    clear hq5 hst5 hq4 hst4 hz4 hHeld
    revert HG8
    generalize (((((w4.setCell ⟨w.heap.size + 1, 0, none⟩ (.int .i64 4)).setCell ⟨w.heap.size + 1, 1, none⟩ (.int .i64 0)).setCell ⟨w.heap.size + 1, 2, none⟩ (.float .f64 0)).setCell ⟨w.heap.size + 1, 3, none⟩ (.string ⟨#[]⟩)).setCell ⟨w.heap.size + 1, 4, none⟩ (.slice p2 (l + 1) c2)) = W8
    intro HG8
    obtain ⟨hq8, hst8, hz8⟩ := HG8.out
    have hrep : ∀ y, Below w0.heap.size w0 y → Stay Wd.heap.size w3 y → Rep y (n + 2) (.agg #[.int .i64 4, .int .i64 0, .float .f64 0, .string ⟨#[]⟩, .slice p2 (l + 1) c2]) ((4, 0, 0, ⟨#[]⟩, L ++ [V]) : VT (n + 2)) := fun y hby hst => list_rep (repL_mono (fun _ _ h => rep_keep hby _ _ _ h) (HY.out y hst))
    have HREP := Lib.hid hrep
    have hck := check_any (n + 2) 4 0 0 ⟨#[]⟩ p2 (l + 1) c2 ((4, 0, 0, ⟨#[]⟩, L ++ [V]) : VT (n + 2)) W8 (hrep W8 (bel_step HBW.out hq8.2.2.2.2.2.2.2.2.2.2.2.2.2.2.2.1) hst8) HC.out.2.1 HC.out.2.2
    rw [HC.out.1] at hck
    have HCK := Lib.hid hck
    have HQ8 := Lib.hid hq8
    have HST8 := Lib.hid hst8
    have HZ8 := Lib.hid hz8
    have b30 := hq8.2.2.2.2.2.1
    have b31 := hq8.2.2.2.2.2.2.1
    have b32 := hq8.2.2.2.2.2.2.2.1
    have b33 := hq8.2.2.2.2.2.2.2.2.1
    have b34 := hq8.2.2.2.2.2.2.2.2.2.1
    have b3l := cell_lt b30
    clear hck hq8 hst8 hz8 HG8 hrep HY
    go_wp2_with fail
    go_at_call 37; refine HCK.out.mono ?_; rintro e w9 ⟨rfl, hb9⟩
    have HQ9 := Lib.hid (pu_step HQ8.out hb9)
    have HST9 := Lib.hid (show Stay Wd.heap.size w3 w9 from fun b h1 h2 => (hb9.block b (Nat.lt_of_lt_of_le h2 HZ8.out)).trans (HST8.out b h1 h2))
    have HZ9 := Lib.hid (Nat.le_trans HZ8.out hb9.size)
    clear b30 b31 b32 b33 b34 b3l hb9 HCK HQ8 HST8 HZ8
    go_upto_region 6 with fail
    have hp := HQ9.out
    have l1 : w.heap.size + 1 < w9.heap.size := cell_lt hp.2.2.2.2.2.1
    clear hp
    refine wp_region_held_drew (S := (fun z => z.cell? ⟨w.heap.size, 0, none⟩ = some (.int .i64 K3) ∧ z.cell? ⟨w.heap.size, 1, none⟩ = some (.int .i64 I3) ∧ z.cell? ⟨w.heap.size, 2, none⟩ = some (.float .f64 F3) ∧ z.cell? ⟨w.heap.size, 3, none⟩ = some (.string S3) ∧ z.cell? ⟨w.heap.size, 4, none⟩ = some (.slice q3 m3 d3) ∧ z.cell? ⟨w.heap.size + 1, 0, none⟩ = some (.int .i64 4) ∧ z.cell? ⟨w.heap.size + 1, 1, none⟩ = some (.int .i64 0) ∧ z.cell? ⟨w.heap.size + 1, 2, none⟩ = some (.float .f64 0) ∧ z.cell? ⟨w.heap.size + 1, 3, none⟩ = some (.string ⟨#[]⟩) ∧ z.cell? ⟨w.heap.size + 1, 4, none⟩ = some (.slice p2 (l + 1) c2))) (by kernel_rfl) ?_ (fun hHeld => ?_)
    · exact pu_r1 (pu_drew HQ9.out)
    refine wpAnyH_take (i := 0) (oi := ?_) (v := ?_) ?hiaPx0 (by kernel_rfl) ?hfaPx0 ?hraPx0 ?hQaPx0 ?hyaPx0 (by assumption) ?restaPx0
    case hiaPx0 => (simp only [List.getElem?_toArray, List.getElem?_cons_zero, List.getElem?_cons_succ]; rfl)
    case hfaPx0 => kernel_rfl
    case hraPx0 => kernel_rfl
    case hyaPx0 => (refine Or.inl ⟨by rfl, ?_⟩; intro wS hSw; (try dsimp only at hSw); go_simp; (try with_reducible rfl))
    case hQaPx0 => exact fun _ _ _ h => h
    (try simp only [Act.put, List.setIfInBounds_toArray, List.set_cons_zero, List.set_cons_succ])
    refine wpAnyH_take (i := 1) (oi := ?_) (v := ?_) ?hiaPx1 (by kernel_rfl) ?hfaPx1 ?hraPx1 ?hQaPx1 ?hyaPx1 (by assumption) ?restaPx1
    case hiaPx1 => (simp only [List.getElem?_toArray, List.getElem?_cons_zero, List.getElem?_cons_succ]; rfl)
    case hfaPx1 => kernel_rfl
    case hraPx1 => kernel_rfl
    case hyaPx1 => (refine Or.inl ⟨by rfl, ?_⟩; intro wS hSw; (try dsimp only at hSw); go_simp; (try with_reducible rfl))
    case hQaPx1 => exact fun _ _ _ h => h
    (try simp only [Act.put, List.setIfInBounds_toArray, List.set_cons_zero, List.set_cons_succ])
    refine wpAnyH_take (i := 2) (oi := ?_) (v := ?_) ?hiaPx2 (by kernel_rfl) ?hfaPx2 ?hraPx2 ?hQaPx2 ?hyaPx2 (by assumption) ?restaPx2
    case hiaPx2 => (simp only [List.getElem?_toArray, List.getElem?_cons_zero, List.getElem?_cons_succ]; rfl)
    case hfaPx2 => kernel_rfl
    case hraPx2 => kernel_rfl
    case hyaPx2 => (refine Or.inl ⟨by rfl, ?_⟩; intro wS hSw; (try dsimp only at hSw); go_simp; (try with_reducible rfl))
    case hQaPx2 => exact fun _ _ _ h => h
    (try simp only [Act.put, List.setIfInBounds_toArray, List.set_cons_zero, List.set_cons_succ])
    refine wpAnyH_ready (rs := [3]) (by kernel_rfl) (by simp) ?_
    refine AllReadyH.cons (o := ?_) ?hoaPx3 ?hstaPx3 AllReadyH.nil
    case hoaPx3 => (simp only [List.getElem?_toArray, List.getElem?_cons_zero, List.getElem?_cons_succ]; rfl)
    intro K hK
    go_simp
    go_at_call 51; refine (qcount_any _ _ _ _).mono ?_; rintro e w10 ⟨rfl, hb10⟩; have hq10 := pu_step (pu_drew HQ9.out) hb10; have hz10 := Nat.le_trans HZ9.out hb10.size; have hst10 : Stay Wd.heap.size w3 w10 := (fun b h1 h2 => (hb10.block b (Nat.lt_of_lt_of_le h2 HZ9.out)).trans (HST9.out b h1 h2)); clear hb10
    go_wp2_with fail
    refine hK.out _ _ ?hsaPx3 (fun hHeld => ?_)
    case hsaPx3 => exact pu_r1 hq10
    clear hK K
    (try simp only [Act.put, List.setIfInBounds_toArray, List.set_cons_zero, List.set_cons_succ])
    refine wpAnyH_ready (rs := [4]) (by kernel_rfl) (by simp) ?_
    refine AllReadyH.cons (o := ?_) ?hoaPx4 ?hstaPx4 AllReadyH.nil
    case hoaPx4 => (simp only [List.getElem?_toArray, List.getElem?_cons_zero, List.getElem?_cons_succ]; rfl)
    intro K hK
    have b30 := hq10.2.2.2.2.2.1; have b31 := hq10.2.2.2.2.2.2.1; have b32 := hq10.2.2.2.2.2.2.2.1; have b33 := hq10.2.2.2.2.2.2.2.2.1; have b34 := hq10.2.2.2.2.2.2.2.2.2.1; have b3f := hq10.2.2.2.2.2.2.2.2.2.2.2.2.2.2.2.2.1; have b3l := cell_lt b30; go_simp
    have hq11 := pu_set1 hq10 (.int .i64 4) (.int .i64 0) (.float .f64 0) (.string ⟨#[]⟩) (.slice p2 (l + 1) c2); have hst11 : Stay Wd.heap.size w3 (((((w10.setCell ⟨w.heap.size + 1, 0, none⟩ (.int .i64 4)).setCell ⟨w.heap.size + 1, 1, none⟩ (.int .i64 0)).setCell ⟨w.heap.size + 1, 2, none⟩ (.float .f64 0)).setCell ⟨w.heap.size + 1, 3, none⟩ (.string ⟨#[]⟩)).setCell ⟨w.heap.size + 1, 4, none⟩ (.slice p2 (l + 1) c2)) := fun b h1 h2 => (set5_other (g := w.heap.size + 1) (o := 0) (by omega)).trans (hst10 b h1 h2); clear b30 b31 b32 b33 b34 b3f b3l
    go_wp2_with fail
    refine hK.out _ _ ?hsaPx4 (fun hHeld => ?_)
    case hsaPx4 => exact pu_r1 hq11
    clear hK K
    (try simp only [Act.put, List.setIfInBounds_toArray, List.set_cons_zero, List.set_cons_succ])
    refine wpAnyH_ready (rs := [5]) (by kernel_rfl) (by simp) ?_
    refine AllReadyH.cons (o := ?_) ?hoaPx5 ?hstaPx5 AllReadyH.nil
    case hoaPx5 => (simp only [List.getElem?_toArray, List.getElem?_cons_zero, List.getElem?_cons_succ]; rfl)
    intro K hK
    have b40 := hq10.2.2.2.2.2.2.2.2.2.2.1; have b41 := hq10.2.2.2.2.2.2.2.2.2.2.2.1; have b42 := hq10.2.2.2.2.2.2.2.2.2.2.2.2.1; have b43 := hq10.2.2.2.2.2.2.2.2.2.2.2.2.2.1; have b44 := hq10.2.2.2.2.2.2.2.2.2.2.2.2.2.2.1; have b4f := hq10.2.2.2.2.2.2.2.2.2.2.2.2.2.2.2.2.2; have b4l := cell_lt b40; go_simp
    have hq12 := pu_set2 hq11 (.int .i64 1) (.int .i64 ((l : Int) + 1)) (.float .f64 0) (.string ⟨#[]⟩) (.slice none 0 0); have hst12 : Stay Wd.heap.size w3 ((((((((((w10.setCell ⟨w.heap.size + 1, 0, none⟩ (.int .i64 4)).setCell ⟨w.heap.size + 1, 1, none⟩ (.int .i64 0)).setCell ⟨w.heap.size + 1, 2, none⟩ (.float .f64 0)).setCell ⟨w.heap.size + 1, 3, none⟩ (.string ⟨#[]⟩)).setCell ⟨w.heap.size + 1, 4, none⟩ (.slice p2 (l + 1) c2)).setCell ⟨w.heap.size + 1 + 1, 0, none⟩ (.int .i64 1)).setCell ⟨w.heap.size + 1 + 1, 1, none⟩ (.int .i64 ((l : Int) + 1))).setCell ⟨w.heap.size + 1 + 1, 2, none⟩ (.float .f64 0)).setCell ⟨w.heap.size + 1 + 1, 3, none⟩ (.string ⟨#[]⟩)).setCell ⟨w.heap.size + 1 + 1, 4, none⟩ (.slice none 0 0)) := fun b h1 h2 => (set5_other (g := w.heap.size + 1 + 1) (o := 0) (by omega)).trans (hst11 b h1 h2); clear b40 b41 b42 b43 b44 b4f b4l
    go_wp2_with fail
    refine hK.out _ _ ?hsaPx5 (fun hHeld => ?_)
    case hsaPx5 => exact pu_r1 hq12
    clear hK K
    (try simp only [Act.put, List.setIfInBounds_toArray, List.set_cons_zero, List.set_cons_succ])
    refine wpAnyH_take (i := 6) (oi := ?_) (v := ?_) ?hiaPx6 (by kernel_rfl) ?hfaPx6 ?hraPx6 ?hQaPx6 ?hyaPx6 (by assumption) ?restaPx6
    case hiaPx6 => (simp only [List.getElem?_toArray, List.getElem?_cons_zero, List.getElem?_cons_succ]; rfl)
    case hfaPx6 => kernel_rfl
    case hraPx6 => kernel_rfl
    case hyaPx6 => (refine Or.inl ⟨by rfl, ?_⟩; intro wS hSw; (try dsimp only at hSw); go_simp; (try with_reducible rfl))
    case hQaPx6 => exact fun _ _ _ h => h
    (try simp only [Act.put, List.setIfInBounds_toArray, List.set_cons_zero, List.set_cons_succ])
    refine wpAnyH_done (by kernel_rfl) ?_ _
    have HGF := Lib.hid (show PU K3 I3 F3 S3 q3 m3 d3 (.int .i64 4) (.int .i64 0) (.float .f64 0) (.string ⟨#[]⟩) (.slice p2 (l + 1) c2) (.int .i64 1) (.int .i64 ((l : Int) + 1)) (.float .f64 0) (.string ⟨#[]⟩) (.slice none 0 0) w ((((((((((w10.setCell ⟨w.heap.size + 1, 0, none⟩ (.int .i64 4)).setCell ⟨w.heap.size + 1, 1, none⟩ (.int .i64 0)).setCell ⟨w.heap.size + 1, 2, none⟩ (.float .f64 0)).setCell ⟨w.heap.size + 1, 3, none⟩ (.string ⟨#[]⟩)).setCell ⟨w.heap.size + 1, 4, none⟩ (.slice p2 (l + 1) c2)).setCell ⟨w.heap.size + 1 + 1, 0, none⟩ (.int .i64 1)).setCell ⟨w.heap.size + 1 + 1, 1, none⟩ (.int .i64 ((l : Int) + 1))).setCell ⟨w.heap.size + 1 + 1, 2, none⟩ (.float .f64 0)).setCell ⟨w.heap.size + 1 + 1, 3, none⟩ (.string ⟨#[]⟩)).setCell ⟨w.heap.size + 1 + 1, 4, none⟩ (.slice none 0 0)) ∧ Stay Wd.heap.size w3 ((((((((((w10.setCell ⟨w.heap.size + 1, 0, none⟩ (.int .i64 4)).setCell ⟨w.heap.size + 1, 1, none⟩ (.int .i64 0)).setCell ⟨w.heap.size + 1, 2, none⟩ (.float .f64 0)).setCell ⟨w.heap.size + 1, 3, none⟩ (.string ⟨#[]⟩)).setCell ⟨w.heap.size + 1, 4, none⟩ (.slice p2 (l + 1) c2)).setCell ⟨w.heap.size + 1 + 1, 0, none⟩ (.int .i64 1)).setCell ⟨w.heap.size + 1 + 1, 1, none⟩ (.int .i64 ((l : Int) + 1))).setCell ⟨w.heap.size + 1 + 1, 2, none⟩ (.float .f64 0)).setCell ⟨w.heap.size + 1 + 1, 3, none⟩ (.string ⟨#[]⟩)).setCell ⟨w.heap.size + 1 + 1, 4, none⟩ (.slice none 0 0)) ∧ w3.heap.size ≤ (((((((((((w10.setCell ⟨w.heap.size + 1, 0, none⟩ (.int .i64 4)).setCell ⟨w.heap.size + 1, 1, none⟩ (.int .i64 0)).setCell ⟨w.heap.size + 1, 2, none⟩ (.float .f64 0)).setCell ⟨w.heap.size + 1, 3, none⟩ (.string ⟨#[]⟩)).setCell ⟨w.heap.size + 1, 4, none⟩ (.slice p2 (l + 1) c2)).setCell ⟨w.heap.size + 1 + 1, 0, none⟩ (.int .i64 1)).setCell ⟨w.heap.size + 1 + 1, 1, none⟩ (.int .i64 ((l : Int) + 1))).setCell ⟨w.heap.size + 1 + 1, 2, none⟩ (.float .f64 0)).setCell ⟨w.heap.size + 1 + 1, 3, none⟩ (.string ⟨#[]⟩)).setCell ⟨w.heap.size + 1 + 1, 4, none⟩ (.slice none 0 0))).heap.size from ⟨hq12, hst12, by show w3.heap.size ≤ (set5 (set5 w10 (w.heap.size + 1) 0 (.int .i64 4) (.int .i64 0) (.float .f64 0) (.string ⟨#[]⟩) (.slice p2 (l + 1) c2)) (w.heap.size + 1 + 1) 0 (.int .i64 1) (.int .i64 ((l : Int) + 1)) (.float .f64 0) (.string ⟨#[]⟩) (.slice none 0 0)).heap.size; rw [set5_size, set5_size]; exact hz10⟩)
    clear hq12 hst12 hq11 hst11 hq10 hst10 hHeld
    revert HGF
    generalize ((((((((((w10.setCell ⟨w.heap.size + 1, 0, none⟩ (.int .i64 4)).setCell ⟨w.heap.size + 1, 1, none⟩ (.int .i64 0)).setCell ⟨w.heap.size + 1, 2, none⟩ (.float .f64 0)).setCell ⟨w.heap.size + 1, 3, none⟩ (.string ⟨#[]⟩)).setCell ⟨w.heap.size + 1, 4, none⟩ (.slice p2 (l + 1) c2)).setCell ⟨w.heap.size + 1 + 1, 0, none⟩ (.int .i64 1)).setCell ⟨w.heap.size + 1 + 1, 1, none⟩ (.int .i64 ((l : Int) + 1))).setCell ⟨w.heap.size + 1 + 1, 2, none⟩ (.float .f64 0)).setCell ⟨w.heap.size + 1 + 1, 3, none⟩ (.string ⟨#[]⟩)).setCell ⟨w.heap.size + 1 + 1, 4, none⟩ (.slice none 0 0)) = Wf
    intro HGF
    have hqf := HGF.out.1
    have HYF := Lib.hid (show ∀ y, Below w0.heap.size w0 y → Stay w.heap.size Wf y → Rep y (n + 2) (.agg #[.int .i64 4, .int .i64 0, .float .f64 0, .string ⟨#[]⟩, .slice p2 (l + 1) c2]) ((4, 0, 0, ⟨#[]⟩, L ++ [V]) : VT (n + 2)) from fun y hby hst => HREP.out y hby (fun b h1 h2 => (hst b (by omega) (Nat.lt_of_lt_of_le h2 HGF.out.2.2)).trans (HGF.out.2.1 b h1 h2)))
    have b30 := hqf.2.2.2.2.2.1
    have b31 := hqf.2.2.2.2.2.2.1
    have b32 := hqf.2.2.2.2.2.2.2.1
    have b33 := hqf.2.2.2.2.2.2.2.2.1
    have b34 := hqf.2.2.2.2.2.2.2.2.2.1
    have b40 := hqf.2.2.2.2.2.2.2.2.2.2.1
    have b41 := hqf.2.2.2.2.2.2.2.2.2.2.2.1
    have b42 := hqf.2.2.2.2.2.2.2.2.2.2.2.2.1
    have b43 := hqf.2.2.2.2.2.2.2.2.2.2.2.2.2.1
    have b44 := hqf.2.2.2.2.2.2.2.2.2.2.2.2.2.2.1
    clear hqf
    go_wp2
    refine bodyPost_ret (v := .tuple #[.agg #[.int .i64 4, .int .i64 0, .float .f64 0, .string ⟨#[]⟩, .slice p2 (l + 1) c2], .agg #[.int .i64 1, .int .i64 ((l : Int) + 1), .float .f64 0, .string ⟨#[]⟩, .slice none 0 0], .int .i64 0]) (by simp [results, Try.results47, go_sem, b30, b31, b32, b33, b34, b40, b41, b42, b43, b44]) rfl ⟨_, rfl, HGF.out.1.2.2.2.2.2.2.2.2.2.2.2.2.2.2.2.1, HYF.out⟩
  case hstRa =>
    have hal1 := bel_alloc (Below.refl Wd.heap.size Wd) (.cells #[.int .i64 K3, .int .i64 I3, .float .f64 F3, .string S3, .slice q3 m3 d3] 27)
    have HWE := Lib.hid (pu_step HWZ.out hal1)
    have hro2 := row_alloc Wd #[.int .i64 K3, .int .i64 I3, .float .f64 F3, .string S3, .slice q3 m3 d3] 27
    have HLe := Lib.hid (repL_at hal1 HLd.out)
    replace hbz : w.heap.size + 1 + 1 + 1 ≤ (Wd.alloc (.cells #[.int .i64 K3, .int .i64 I3, .float .f64 F3, .string S3, .slice q3 m3 d3] 27)).heap.size := by rw [World.size_alloc]; omega
    clear hal1
    intro K hK
    go_simp
    revert HWE hro2 HLe hbz
    generalize Wd.alloc (.cells #[.int .i64 K3, .int .i64 I3, .float .f64 F3, .string S3, .slice q3 m3 d3] 27) = We
    intro HWE hro2 HLe hbz
    refine hK.out _ _ ?hsRa (fun hHeld => ?_)
    case hsRa => exact pu_ro HWE.out
    clear hK K
    (try simp only [Act.put, List.setIfInBounds_toArray, List.set_cons_zero, List.set_cons_succ])
    have HO := Lib.hid (ow_none We We (Rep w0 (n + 1)) (Below.refl _ _) (Nat.le_refl _))
    refine wpAnyH_ready (rs := [1]) (by kernel_rfl) (by simp) ?_
    refine AllReadyH.cons (o := ?_) ?hoaR1 ?hstaR1 AllReadyH.nil
    case hoaR1 => (simp only [List.getElem?_toArray, List.getElem?_cons_zero, List.getElem?_cons_succ]; rfl)
    intro K hK
    skip
    refine step_ovs rfl (.const (.slice none 0 0)) (.tmp 12) rfl (rep_one w0 (n + 1)) We We none 0 0 [] p l c L rfl rfl HO.out HLe.out (by omega) ?_; intro p1 c1 w1 ho2; rw [Nat.zero_add, List.nil_append] at ho2; have hq2 := pu_step HWE.out (ow_rep ho2).2; replace hro2 := row_step hro2 (ow_rep ho2).2
    go_wp2_with fail
    refine hK.out _ _ ?hsaR1 (fun hHeld => ?_)
    case hsaR1 => exact pu_ro hq2
    clear hK K
    (try simp only [Act.put, List.setIfInBounds_toArray, List.set_cons_zero, List.set_cons_succ])
    have hM := row1_rep (R := Rep w0 (n + 1)) hro2 HV.out
    refine wpAnyH_ready (rs := [4]) (by kernel_rfl) (by simp) ?_
    refine AllReadyH.cons (o := ?_) ?hoaR4 ?hstaR4 AllReadyH.nil
    case hoaR4 => (simp only [List.getElem?_toArray, List.getElem?_cons_zero, List.getElem?_cons_succ]; rfl)
    intro K hK
    skip
    refine step_ovs rfl (.tmp 13) (.tmp 15) rfl (rep_one w0 (n + 1)) We _ p1 l c1 L _ 1 1 [V] rfl rfl ho2 hM (by omega) ?_; intro p2 c2 w3 ho3; have hq3 := pu_step HWE.out (ow_rep ho3).2; have HY := Lib.hid (ow_rep ho3).1; clear ho3 ho2 hM hro2 hq2
    go_wp2_with fail
    refine hK.out _ _ ?hsaR4 (fun hHeld => ?_)
    case hsaR4 => exact pu_ro hq3
    clear hK K
    (try simp only [Act.put, List.setIfInBounds_toArray, List.set_cons_zero, List.set_cons_succ])
    refine wpAnyH_ready (rs := [5]) (by kernel_rfl) (by simp) ?_
    refine AllReadyH.cons (o := ?_) ?hoaR5 ?hstaR5 AllReadyH.nil
    case hoaR5 => (simp only [List.getElem?_toArray, List.getElem?_cons_zero, List.getElem?_cons_succ]; rfl)
    intro K hK
    go_simp
    go_at_call 79; refine (qlist_any _ _ _ _).mono ?_; rintro e w4 ⟨rfl, hb4⟩; have hq4 := pu_step hq3 hb4; have hst4 := stay_below (B := We.heap.size) hb4; have hz4 := hb4.size; clear hb4 hq3
    go_wp2_with fail
    refine hK.out _ _ ?hsaR5 (fun hHeld => ?_)
    case hsaR5 => exact pu_ro hq4
    clear hK K
    (try simp only [Act.put, List.setIfInBounds_toArray, List.set_cons_zero, List.set_cons_succ])
    refine wpAnyH_ready (rs := [6]) (by kernel_rfl) (by simp) ?_
    refine AllReadyH.cons (o := ?_) ?hoaR6 ?hstaR6 AllReadyH.nil
    case hoaR6 => (simp only [List.getElem?_toArray, List.getElem?_cons_zero, List.getElem?_cons_succ]; rfl)
    intro K hK
    have b30 := hq4.2.2.2.2.2.1; have b31 := hq4.2.2.2.2.2.2.1; have b32 := hq4.2.2.2.2.2.2.2.1; have b33 := hq4.2.2.2.2.2.2.2.2.1; have b34 := hq4.2.2.2.2.2.2.2.2.2.1; have b3f := hq4.2.2.2.2.2.2.2.2.2.2.2.2.2.2.2.2.1; have b3l := cell_lt b30; go_simp
    have hq5 := pu_set1 hq4 (.int .i64 4) (.int .i64 0) (.float .f64 0) (.string ⟨#[]⟩) (.slice p2 (l + 1) c2); have hst5 : Stay We.heap.size w3 (((((w4.setCell ⟨w.heap.size + 1, 0, none⟩ (.int .i64 4)).setCell ⟨w.heap.size + 1, 1, none⟩ (.int .i64 0)).setCell ⟨w.heap.size + 1, 2, none⟩ (.float .f64 0)).setCell ⟨w.heap.size + 1, 3, none⟩ (.string ⟨#[]⟩)).setCell ⟨w.heap.size + 1, 4, none⟩ (.slice p2 (l + 1) c2)) := fun b h1 h2 => (set5_other (g := w.heap.size + 1) (o := 0) (by omega)).trans (hst4 b h1 h2); clear b30 b31 b32 b33 b34 b3f b3l
    go_wp2_with fail
    refine hK.out _ _ ?hsaR6 (fun hHeld => ?_)
    case hsaR6 => exact pu_ro hq5
    clear hK K
    (try simp only [Act.put, List.setIfInBounds_toArray, List.set_cons_zero, List.set_cons_succ])
    refine wpAnyH_done (by kernel_rfl) ?_ _
    have HG8 := Lib.hid (show PU K3 I3 F3 S3 q3 m3 d3 (.int .i64 4) (.int .i64 0) (.float .f64 0) (.string ⟨#[]⟩) (.slice p2 (l + 1) c2) (.int .i64 0) (.int .i64 0) (.float .f64 0) (.string ⟨#[]⟩) (.slice none 0 0) w (((((w4.setCell ⟨w.heap.size + 1, 0, none⟩ (.int .i64 4)).setCell ⟨w.heap.size + 1, 1, none⟩ (.int .i64 0)).setCell ⟨w.heap.size + 1, 2, none⟩ (.float .f64 0)).setCell ⟨w.heap.size + 1, 3, none⟩ (.string ⟨#[]⟩)).setCell ⟨w.heap.size + 1, 4, none⟩ (.slice p2 (l + 1) c2)) ∧ Stay We.heap.size w3 (((((w4.setCell ⟨w.heap.size + 1, 0, none⟩ (.int .i64 4)).setCell ⟨w.heap.size + 1, 1, none⟩ (.int .i64 0)).setCell ⟨w.heap.size + 1, 2, none⟩ (.float .f64 0)).setCell ⟨w.heap.size + 1, 3, none⟩ (.string ⟨#[]⟩)).setCell ⟨w.heap.size + 1, 4, none⟩ (.slice p2 (l + 1) c2)) ∧ w3.heap.size ≤ ((((((w4.setCell ⟨w.heap.size + 1, 0, none⟩ (.int .i64 4)).setCell ⟨w.heap.size + 1, 1, none⟩ (.int .i64 0)).setCell ⟨w.heap.size + 1, 2, none⟩ (.float .f64 0)).setCell ⟨w.heap.size + 1, 3, none⟩ (.string ⟨#[]⟩)).setCell ⟨w.heap.size + 1, 4, none⟩ (.slice p2 (l + 1) c2))).heap.size from ⟨hq5, hst5, by show w3.heap.size ≤ (set5 w4 (w.heap.size + 1) 0 (.int .i64 4) (.int .i64 0) (.float .f64 0) (.string ⟨#[]⟩) (.slice p2 (l + 1) c2)).heap.size; rw [set5_size]; exact hz4⟩)
    clear hq5 hst5 hq4 hst4 hz4 hHeld
    revert HG8
    generalize (((((w4.setCell ⟨w.heap.size + 1, 0, none⟩ (.int .i64 4)).setCell ⟨w.heap.size + 1, 1, none⟩ (.int .i64 0)).setCell ⟨w.heap.size + 1, 2, none⟩ (.float .f64 0)).setCell ⟨w.heap.size + 1, 3, none⟩ (.string ⟨#[]⟩)).setCell ⟨w.heap.size + 1, 4, none⟩ (.slice p2 (l + 1) c2)) = W8
    intro HG8
    obtain ⟨hq8, hst8, hz8⟩ := HG8.out
    have hrep : ∀ y, Below w0.heap.size w0 y → Stay We.heap.size w3 y → Rep y (n + 2) (.agg #[.int .i64 4, .int .i64 0, .float .f64 0, .string ⟨#[]⟩, .slice p2 (l + 1) c2]) ((4, 0, 0, ⟨#[]⟩, L ++ [V]) : VT (n + 2)) := fun y hby hst => list_rep (repL_mono (fun _ _ h => rep_keep hby _ _ _ h) (HY.out y hst))
    have HREP := Lib.hid hrep
    have hck := check_any (n + 2) 4 0 0 ⟨#[]⟩ p2 (l + 1) c2 ((4, 0, 0, ⟨#[]⟩, L ++ [V]) : VT (n + 2)) W8 (hrep W8 (bel_step HBW.out hq8.2.2.2.2.2.2.2.2.2.2.2.2.2.2.2.1) hst8) HC.out.2.1 HC.out.2.2
    rw [HC.out.1] at hck
    have HCK := Lib.hid hck
    have HQ8 := Lib.hid hq8
    have HST8 := Lib.hid hst8
    have HZ8 := Lib.hid hz8
    have b30 := hq8.2.2.2.2.2.1
    have b31 := hq8.2.2.2.2.2.2.1
    have b32 := hq8.2.2.2.2.2.2.2.1
    have b33 := hq8.2.2.2.2.2.2.2.2.1
    have b34 := hq8.2.2.2.2.2.2.2.2.2.1
    have b3l := cell_lt b30
    clear hck hq8 hst8 hz8 HG8 hrep HY
    go_wp2_with fail
    go_at_call 37; refine HCK.out.mono ?_; rintro e w9 ⟨rfl, hb9⟩
    have HQ9 := Lib.hid (pu_step HQ8.out hb9)
    have HST9 := Lib.hid (show Stay We.heap.size w3 w9 from fun b h1 h2 => (hb9.block b (Nat.lt_of_lt_of_le h2 HZ8.out)).trans (HST8.out b h1 h2))
    have HZ9 := Lib.hid (Nat.le_trans HZ8.out hb9.size)
    clear b30 b31 b32 b33 b34 b3l hb9 HCK HQ8 HST8 HZ8
    go_upto_region 6 with fail
    have hp := HQ9.out
    have l1 : w.heap.size + 1 < w9.heap.size := cell_lt hp.2.2.2.2.2.1
    clear hp
    refine wp_region_held_drew (S := (fun z => z.cell? ⟨w.heap.size, 0, none⟩ = some (.int .i64 K3) ∧ z.cell? ⟨w.heap.size, 1, none⟩ = some (.int .i64 I3) ∧ z.cell? ⟨w.heap.size, 2, none⟩ = some (.float .f64 F3) ∧ z.cell? ⟨w.heap.size, 3, none⟩ = some (.string S3) ∧ z.cell? ⟨w.heap.size, 4, none⟩ = some (.slice q3 m3 d3) ∧ z.cell? ⟨w.heap.size + 1, 0, none⟩ = some (.int .i64 4) ∧ z.cell? ⟨w.heap.size + 1, 1, none⟩ = some (.int .i64 0) ∧ z.cell? ⟨w.heap.size + 1, 2, none⟩ = some (.float .f64 0) ∧ z.cell? ⟨w.heap.size + 1, 3, none⟩ = some (.string ⟨#[]⟩) ∧ z.cell? ⟨w.heap.size + 1, 4, none⟩ = some (.slice p2 (l + 1) c2))) (by kernel_rfl) ?_ (fun hHeld => ?_)
    · exact pu_r1 (pu_drew HQ9.out)
    refine wpAnyH_take (i := 0) (oi := ?_) (v := ?_) ?hiaRx0 (by kernel_rfl) ?hfaRx0 ?hraRx0 ?hQaRx0 ?hyaRx0 (by assumption) ?restaRx0
    case hiaRx0 => (simp only [List.getElem?_toArray, List.getElem?_cons_zero, List.getElem?_cons_succ]; rfl)
    case hfaRx0 => kernel_rfl
    case hraRx0 => kernel_rfl
    case hyaRx0 => (refine Or.inl ⟨by rfl, ?_⟩; intro wS hSw; (try dsimp only at hSw); go_simp; (try with_reducible rfl))
    case hQaRx0 => exact fun _ _ _ h => h
    (try simp only [Act.put, List.setIfInBounds_toArray, List.set_cons_zero, List.set_cons_succ])
    refine wpAnyH_take (i := 1) (oi := ?_) (v := ?_) ?hiaRx1 (by kernel_rfl) ?hfaRx1 ?hraRx1 ?hQaRx1 ?hyaRx1 (by assumption) ?restaRx1
    case hiaRx1 => (simp only [List.getElem?_toArray, List.getElem?_cons_zero, List.getElem?_cons_succ]; rfl)
    case hfaRx1 => kernel_rfl
    case hraRx1 => kernel_rfl
    case hyaRx1 => (refine Or.inl ⟨by rfl, ?_⟩; intro wS hSw; (try dsimp only at hSw); go_simp; (try with_reducible rfl))
    case hQaRx1 => exact fun _ _ _ h => h
    (try simp only [Act.put, List.setIfInBounds_toArray, List.set_cons_zero, List.set_cons_succ])
    refine wpAnyH_take (i := 2) (oi := ?_) (v := ?_) ?hiaRx2 (by kernel_rfl) ?hfaRx2 ?hraRx2 ?hQaRx2 ?hyaRx2 (by assumption) ?restaRx2
    case hiaRx2 => (simp only [List.getElem?_toArray, List.getElem?_cons_zero, List.getElem?_cons_succ]; rfl)
    case hfaRx2 => kernel_rfl
    case hraRx2 => kernel_rfl
    case hyaRx2 => (refine Or.inl ⟨by rfl, ?_⟩; intro wS hSw; (try dsimp only at hSw); go_simp; (try with_reducible rfl))
    case hQaRx2 => exact fun _ _ _ h => h
    (try simp only [Act.put, List.setIfInBounds_toArray, List.set_cons_zero, List.set_cons_succ])
    refine wpAnyH_ready (rs := [3]) (by kernel_rfl) (by simp) ?_
    refine AllReadyH.cons (o := ?_) ?hoaRx3 ?hstaRx3 AllReadyH.nil
    case hoaRx3 => (simp only [List.getElem?_toArray, List.getElem?_cons_zero, List.getElem?_cons_succ]; rfl)
    intro K hK
    go_simp
    go_at_call 51; refine (qcount_any _ _ _ _).mono ?_; rintro e w10 ⟨rfl, hb10⟩; have hq10 := pu_step (pu_drew HQ9.out) hb10; have hz10 := Nat.le_trans HZ9.out hb10.size; have hst10 : Stay We.heap.size w3 w10 := (fun b h1 h2 => (hb10.block b (Nat.lt_of_lt_of_le h2 HZ9.out)).trans (HST9.out b h1 h2)); clear hb10
    go_wp2_with fail
    refine hK.out _ _ ?hsaRx3 (fun hHeld => ?_)
    case hsaRx3 => exact pu_r1 hq10
    clear hK K
    (try simp only [Act.put, List.setIfInBounds_toArray, List.set_cons_zero, List.set_cons_succ])
    refine wpAnyH_ready (rs := [4]) (by kernel_rfl) (by simp) ?_
    refine AllReadyH.cons (o := ?_) ?hoaRx4 ?hstaRx4 AllReadyH.nil
    case hoaRx4 => (simp only [List.getElem?_toArray, List.getElem?_cons_zero, List.getElem?_cons_succ]; rfl)
    intro K hK
    have b30 := hq10.2.2.2.2.2.1; have b31 := hq10.2.2.2.2.2.2.1; have b32 := hq10.2.2.2.2.2.2.2.1; have b33 := hq10.2.2.2.2.2.2.2.2.1; have b34 := hq10.2.2.2.2.2.2.2.2.2.1; have b3f := hq10.2.2.2.2.2.2.2.2.2.2.2.2.2.2.2.2.1; have b3l := cell_lt b30; go_simp
    have hq11 := pu_set1 hq10 (.int .i64 4) (.int .i64 0) (.float .f64 0) (.string ⟨#[]⟩) (.slice p2 (l + 1) c2); have hst11 : Stay We.heap.size w3 (((((w10.setCell ⟨w.heap.size + 1, 0, none⟩ (.int .i64 4)).setCell ⟨w.heap.size + 1, 1, none⟩ (.int .i64 0)).setCell ⟨w.heap.size + 1, 2, none⟩ (.float .f64 0)).setCell ⟨w.heap.size + 1, 3, none⟩ (.string ⟨#[]⟩)).setCell ⟨w.heap.size + 1, 4, none⟩ (.slice p2 (l + 1) c2)) := fun b h1 h2 => (set5_other (g := w.heap.size + 1) (o := 0) (by omega)).trans (hst10 b h1 h2); clear b30 b31 b32 b33 b34 b3f b3l
    go_wp2_with fail
    refine hK.out _ _ ?hsaRx4 (fun hHeld => ?_)
    case hsaRx4 => exact pu_r1 hq11
    clear hK K
    (try simp only [Act.put, List.setIfInBounds_toArray, List.set_cons_zero, List.set_cons_succ])
    refine wpAnyH_ready (rs := [5]) (by kernel_rfl) (by simp) ?_
    refine AllReadyH.cons (o := ?_) ?hoaRx5 ?hstaRx5 AllReadyH.nil
    case hoaRx5 => (simp only [List.getElem?_toArray, List.getElem?_cons_zero, List.getElem?_cons_succ]; rfl)
    intro K hK
    have b40 := hq10.2.2.2.2.2.2.2.2.2.2.1; have b41 := hq10.2.2.2.2.2.2.2.2.2.2.2.1; have b42 := hq10.2.2.2.2.2.2.2.2.2.2.2.2.1; have b43 := hq10.2.2.2.2.2.2.2.2.2.2.2.2.2.1; have b44 := hq10.2.2.2.2.2.2.2.2.2.2.2.2.2.2.1; have b4f := hq10.2.2.2.2.2.2.2.2.2.2.2.2.2.2.2.2.2; have b4l := cell_lt b40; go_simp
    have hq12 := pu_set2 hq11 (.int .i64 1) (.int .i64 ((l : Int) + 1)) (.float .f64 0) (.string ⟨#[]⟩) (.slice none 0 0); have hst12 : Stay We.heap.size w3 ((((((((((w10.setCell ⟨w.heap.size + 1, 0, none⟩ (.int .i64 4)).setCell ⟨w.heap.size + 1, 1, none⟩ (.int .i64 0)).setCell ⟨w.heap.size + 1, 2, none⟩ (.float .f64 0)).setCell ⟨w.heap.size + 1, 3, none⟩ (.string ⟨#[]⟩)).setCell ⟨w.heap.size + 1, 4, none⟩ (.slice p2 (l + 1) c2)).setCell ⟨w.heap.size + 1 + 1, 0, none⟩ (.int .i64 1)).setCell ⟨w.heap.size + 1 + 1, 1, none⟩ (.int .i64 ((l : Int) + 1))).setCell ⟨w.heap.size + 1 + 1, 2, none⟩ (.float .f64 0)).setCell ⟨w.heap.size + 1 + 1, 3, none⟩ (.string ⟨#[]⟩)).setCell ⟨w.heap.size + 1 + 1, 4, none⟩ (.slice none 0 0)) := fun b h1 h2 => (set5_other (g := w.heap.size + 1 + 1) (o := 0) (by omega)).trans (hst11 b h1 h2); clear b40 b41 b42 b43 b44 b4f b4l
    go_wp2_with fail
    refine hK.out _ _ ?hsaRx5 (fun hHeld => ?_)
    case hsaRx5 => exact pu_r1 hq12
    clear hK K
    (try simp only [Act.put, List.setIfInBounds_toArray, List.set_cons_zero, List.set_cons_succ])
    refine wpAnyH_take (i := 6) (oi := ?_) (v := ?_) ?hiaRx6 (by kernel_rfl) ?hfaRx6 ?hraRx6 ?hQaRx6 ?hyaRx6 (by assumption) ?restaRx6
    case hiaRx6 => (simp only [List.getElem?_toArray, List.getElem?_cons_zero, List.getElem?_cons_succ]; rfl)
    case hfaRx6 => kernel_rfl
    case hraRx6 => kernel_rfl
    case hyaRx6 => (refine Or.inl ⟨by rfl, ?_⟩; intro wS hSw; (try dsimp only at hSw); go_simp; (try with_reducible rfl))
    case hQaRx6 => exact fun _ _ _ h => h
    (try simp only [Act.put, List.setIfInBounds_toArray, List.set_cons_zero, List.set_cons_succ])
    refine wpAnyH_done (by kernel_rfl) ?_ _
    have HGF := Lib.hid (show PU K3 I3 F3 S3 q3 m3 d3 (.int .i64 4) (.int .i64 0) (.float .f64 0) (.string ⟨#[]⟩) (.slice p2 (l + 1) c2) (.int .i64 1) (.int .i64 ((l : Int) + 1)) (.float .f64 0) (.string ⟨#[]⟩) (.slice none 0 0) w ((((((((((w10.setCell ⟨w.heap.size + 1, 0, none⟩ (.int .i64 4)).setCell ⟨w.heap.size + 1, 1, none⟩ (.int .i64 0)).setCell ⟨w.heap.size + 1, 2, none⟩ (.float .f64 0)).setCell ⟨w.heap.size + 1, 3, none⟩ (.string ⟨#[]⟩)).setCell ⟨w.heap.size + 1, 4, none⟩ (.slice p2 (l + 1) c2)).setCell ⟨w.heap.size + 1 + 1, 0, none⟩ (.int .i64 1)).setCell ⟨w.heap.size + 1 + 1, 1, none⟩ (.int .i64 ((l : Int) + 1))).setCell ⟨w.heap.size + 1 + 1, 2, none⟩ (.float .f64 0)).setCell ⟨w.heap.size + 1 + 1, 3, none⟩ (.string ⟨#[]⟩)).setCell ⟨w.heap.size + 1 + 1, 4, none⟩ (.slice none 0 0)) ∧ Stay We.heap.size w3 ((((((((((w10.setCell ⟨w.heap.size + 1, 0, none⟩ (.int .i64 4)).setCell ⟨w.heap.size + 1, 1, none⟩ (.int .i64 0)).setCell ⟨w.heap.size + 1, 2, none⟩ (.float .f64 0)).setCell ⟨w.heap.size + 1, 3, none⟩ (.string ⟨#[]⟩)).setCell ⟨w.heap.size + 1, 4, none⟩ (.slice p2 (l + 1) c2)).setCell ⟨w.heap.size + 1 + 1, 0, none⟩ (.int .i64 1)).setCell ⟨w.heap.size + 1 + 1, 1, none⟩ (.int .i64 ((l : Int) + 1))).setCell ⟨w.heap.size + 1 + 1, 2, none⟩ (.float .f64 0)).setCell ⟨w.heap.size + 1 + 1, 3, none⟩ (.string ⟨#[]⟩)).setCell ⟨w.heap.size + 1 + 1, 4, none⟩ (.slice none 0 0)) ∧ w3.heap.size ≤ (((((((((((w10.setCell ⟨w.heap.size + 1, 0, none⟩ (.int .i64 4)).setCell ⟨w.heap.size + 1, 1, none⟩ (.int .i64 0)).setCell ⟨w.heap.size + 1, 2, none⟩ (.float .f64 0)).setCell ⟨w.heap.size + 1, 3, none⟩ (.string ⟨#[]⟩)).setCell ⟨w.heap.size + 1, 4, none⟩ (.slice p2 (l + 1) c2)).setCell ⟨w.heap.size + 1 + 1, 0, none⟩ (.int .i64 1)).setCell ⟨w.heap.size + 1 + 1, 1, none⟩ (.int .i64 ((l : Int) + 1))).setCell ⟨w.heap.size + 1 + 1, 2, none⟩ (.float .f64 0)).setCell ⟨w.heap.size + 1 + 1, 3, none⟩ (.string ⟨#[]⟩)).setCell ⟨w.heap.size + 1 + 1, 4, none⟩ (.slice none 0 0))).heap.size from ⟨hq12, hst12, by show w3.heap.size ≤ (set5 (set5 w10 (w.heap.size + 1) 0 (.int .i64 4) (.int .i64 0) (.float .f64 0) (.string ⟨#[]⟩) (.slice p2 (l + 1) c2)) (w.heap.size + 1 + 1) 0 (.int .i64 1) (.int .i64 ((l : Int) + 1)) (.float .f64 0) (.string ⟨#[]⟩) (.slice none 0 0)).heap.size; rw [set5_size, set5_size]; exact hz10⟩)
    clear hq12 hst12 hq11 hst11 hq10 hst10 hHeld
    revert HGF
    generalize ((((((((((w10.setCell ⟨w.heap.size + 1, 0, none⟩ (.int .i64 4)).setCell ⟨w.heap.size + 1, 1, none⟩ (.int .i64 0)).setCell ⟨w.heap.size + 1, 2, none⟩ (.float .f64 0)).setCell ⟨w.heap.size + 1, 3, none⟩ (.string ⟨#[]⟩)).setCell ⟨w.heap.size + 1, 4, none⟩ (.slice p2 (l + 1) c2)).setCell ⟨w.heap.size + 1 + 1, 0, none⟩ (.int .i64 1)).setCell ⟨w.heap.size + 1 + 1, 1, none⟩ (.int .i64 ((l : Int) + 1))).setCell ⟨w.heap.size + 1 + 1, 2, none⟩ (.float .f64 0)).setCell ⟨w.heap.size + 1 + 1, 3, none⟩ (.string ⟨#[]⟩)).setCell ⟨w.heap.size + 1 + 1, 4, none⟩ (.slice none 0 0)) = Wf
    intro HGF
    have hqf := HGF.out.1
    have HYF := Lib.hid (show ∀ y, Below w0.heap.size w0 y → Stay w.heap.size Wf y → Rep y (n + 2) (.agg #[.int .i64 4, .int .i64 0, .float .f64 0, .string ⟨#[]⟩, .slice p2 (l + 1) c2]) ((4, 0, 0, ⟨#[]⟩, L ++ [V]) : VT (n + 2)) from fun y hby hst => HREP.out y hby (fun b h1 h2 => (hst b (by omega) (Nat.lt_of_lt_of_le h2 HGF.out.2.2)).trans (HGF.out.2.1 b h1 h2)))
    have b30 := hqf.2.2.2.2.2.1
    have b31 := hqf.2.2.2.2.2.2.1
    have b32 := hqf.2.2.2.2.2.2.2.1
    have b33 := hqf.2.2.2.2.2.2.2.2.1
    have b34 := hqf.2.2.2.2.2.2.2.2.2.1
    have b40 := hqf.2.2.2.2.2.2.2.2.2.2.1
    have b41 := hqf.2.2.2.2.2.2.2.2.2.2.2.1
    have b42 := hqf.2.2.2.2.2.2.2.2.2.2.2.2.1
    have b43 := hqf.2.2.2.2.2.2.2.2.2.2.2.2.2.1
    have b44 := hqf.2.2.2.2.2.2.2.2.2.2.2.2.2.2.1
    clear hqf
    go_wp2
    refine bodyPost_ret (v := .tuple #[.agg #[.int .i64 4, .int .i64 0, .float .f64 0, .string ⟨#[]⟩, .slice p2 (l + 1) c2], .agg #[.int .i64 1, .int .i64 ((l : Int) + 1), .float .f64 0, .string ⟨#[]⟩, .slice none 0 0], .int .i64 0]) (by simp [results, Try.results47, go_sem, b30, b31, b32, b33, b34, b40, b41, b42, b43, b44]) rfl ⟨_, rfl, HGF.out.1.2.2.2.2.2.2.2.2.2.2.2.2.2.2.2.1, HYF.out⟩
set_option maxRecDepth 100000 in
set_option maxHeartbeats 4000000 in
theorem qpush_no (n : Nat) (p : Option Addr) (l c : Nat) (K3 I3 : Int) (F3 : Nat) (S3 : ByteArray) (q3 : Option Addr) (m3 d3 : Nat) (L : List (VT (n + 1))) (V : VT (n + 1)) (w0 w : World) (HBW : Hid (Below w0.heap.size w0 w)) (HL : Hid (RepL w0 (Rep w0 (n + 1)) p l c L)) (HV : Hid (Rep w0 (n + 1) (.agg #[.int .i64 K3, .int .i64 I3, .float .f64 F3, .string S3, .slice q3 m3 d3]) V)) (hl : l ≤ 32) (hne : l ≠ 32)
    (z : Int) (hz : (z != 0) = true) (HC : Hid (checkM (measT (n + 2) ((4, 0, 0, ⟨#[]⟩, L ++ [V]) : VT (n + 2))) = z ∧ deepT (n + 2) ((4, 0, 0, ⟨#[]⟩, L ++ [V]) : VT (n + 2)) 64 = false ∧ partsT (n + 2) ((4, 0, 0, ⟨#[]⟩, L ++ [V]) : VT (n + 2)) ≤ 1000)) :
    Calls Try.prog 47 #[.slice p l c, .agg #[.int .i64 K3, .int .i64 I3, .float .f64 F3, .string S3, .slice q3 m3 d3]] w fun e w' => e = .returned (.tuple #[.agg #[.int .i64 0, .int .i64 0, .float .f64 0, .string ⟨#[]⟩, .slice none 0 0], .agg #[.int .i64 0, .int .i64 0, .float .f64 0, .string ⟨#[]⟩, .slice none 0 0], .int .i64 33]) ∧ Below w.heap.size w w' := by
  obtain ⟨ov, hov⟩ : ∃ o, Obj.cells #[.int .i64 K3, .int .i64 I3, .float .f64 F3, .string S3, .slice q3 m3 d3] 27 = o := ⟨_, rfl⟩
  obtain ⟨oz, hoz⟩ : ∃ o, Obj.cells #[.int .i64 0, .int .i64 0, .float .f64 0, .string ⟨#[]⟩, .slice none 0 0] 27 = o := ⟨_, rfl⟩
  have hB : Below w.heap.size w (((w.alloc ov).alloc oz).alloc oz) := bel_alloc (bel_alloc (bel_alloc (Below.refl w.heap.size w) ov) oz) oz
  have r0 := row_alloc_step (row_alloc_step (row_alloc w #[.int .i64 K3, .int .i64 I3, .float .f64 F3, .string S3, .slice q3 m3 d3] 27) oz) oz
  rw [hov] at r0
  have r1 := row_alloc_step (row_alloc (w.alloc ov) #[.int .i64 0, .int .i64 0, .float .f64 0, .string ⟨#[]⟩, .slice none 0 0] 27) oz
  rw [hoz] at r1
  have r2 := row_alloc ((w.alloc ov).alloc oz) #[.int .i64 0, .int .i64 0, .float .f64 0, .string ⟨#[]⟩, .slice none 0 0] 27
  rw [hoz] at r2
  simp only [World.size_alloc] at r0 r1 r2
  have HB := Lib.hid hB
  subst hov hoz
  have HG0 := Lib.hid (show PU K3 I3 F3 S3 q3 m3 d3 (.int .i64 0) (.int .i64 0) (.float .f64 0) (.string ⟨#[]⟩) (.slice none 0 0) (.int .i64 0) (.int .i64 0) (.float .f64 0) (.string ⟨#[]⟩) (.slice none 0 0) w (((w.alloc (.cells #[.int .i64 K3, .int .i64 I3, .float .f64 F3, .string S3, .slice q3 m3 d3] 27)).alloc (.cells #[.int .i64 0, .int .i64 0, .float .f64 0, .string ⟨#[]⟩, .slice none 0 0] 27)).alloc (.cells #[.int .i64 0, .int .i64 0, .float .f64 0, .string ⟨#[]⟩, .slice none 0 0] 27)) ∧ ((((w.alloc (.cells #[.int .i64 K3, .int .i64 I3, .float .f64 F3, .string S3, .slice q3 m3 d3] 27)).alloc (.cells #[.int .i64 0, .int .i64 0, .float .f64 0, .string ⟨#[]⟩, .slice none 0 0] 27)).alloc (.cells #[.int .i64 0, .int .i64 0, .float .f64 0, .string ⟨#[]⟩, .slice none 0 0] 27))).heap.size = w.heap.size + 1 + 1 + 1 from ⟨⟨row_cell r0 0, row_cell r0 1, row_cell r0 2, row_cell r0 3, row_cell r0 4, row_cell r1 0, row_cell r1 1, row_cell r1 2, row_cell r1 3, row_cell r1 4, row_cell r2 0, row_cell r2 1, row_cell r2 2, row_cell r2 3, row_cell r2 4, HB.out, fun o => row_frz r1 o, fun o => row_frz r2 o⟩, by simp only [World.size_alloc]⟩)
  clear r0 r1 r2 hB HB
  have hl32 : ((l : Int) == 32) = false := by rw [beq_eq_false_iff_ne]; omega
  clear hne
  go_enter Try.func47, Try.ntmps47
  go_upto_region 3 with fail
  revert HG0
  generalize (((w.alloc (.cells #[.int .i64 K3, .int .i64 I3, .float .f64 F3, .string S3, .slice q3 m3 d3] 27)).alloc (.cells #[.int .i64 0, .int .i64 0, .float .f64 0, .string ⟨#[]⟩, .slice none 0 0] 27)).alloc (.cells #[.int .i64 0, .int .i64 0, .float .f64 0, .string ⟨#[]⟩, .slice none 0 0] 27)) = Wz
  intro HG0
  have HP0 := Lib.hid HG0.out.1
  have hzw := HG0.out.2
  have l0 : w.heap.size < Wz.heap.size := by omega
  refine wp_region_held_drew (S := (fun z => z.cell? ⟨w.heap.size, 0, none⟩ = some (.int .i64 K3) ∧ z.cell? ⟨w.heap.size, 1, none⟩ = some (.int .i64 I3) ∧ z.cell? ⟨w.heap.size, 2, none⟩ = some (.float .f64 F3) ∧ z.cell? ⟨w.heap.size, 3, none⟩ = some (.string S3) ∧ z.cell? ⟨w.heap.size, 4, none⟩ = some (.slice q3 m3 d3))) (by kernel_rfl) ?_ (fun hHeld => ?_)
  · exact pu_ro (pu_drew HP0.out)
  have HWZ := Lib.hid (pu_drew HP0.out)
  have hdz : Wz.drew.heap.size = Wz.heap.size := rfl
  revert HWZ hHeld hdz
  generalize Wz.drew = Wd
  intro hHeld HWZ hdz
  have hbz : w.heap.size + 1 + 1 + 1 ≤ Wd.heap.size := by omega
  clear hdz hzw l0
  refine wpAnyH_take (i := 0) (oi := ?_) (v := ?_) ?hia0 (by kernel_rfl) ?hfa0 ?hra0 ?hQa0 ?hya0 (by assumption) ?resta0
  case hia0 => (simp only [List.getElem?_toArray, List.getElem?_cons_zero, List.getElem?_cons_succ]; rfl)
  case hfa0 => kernel_rfl
  case hra0 => kernel_rfl
  case hya0 => (refine Or.inl ⟨by rfl, ?_⟩; intro wS hSw; (try dsimp only at hSw); go_simp; (try with_reducible rfl))
  case hQa0 => exact fun _ _ _ h => h
  (try simp only [Act.put, List.setIfInBounds_toArray, List.set_cons_zero, List.set_cons_succ])
  refine wpAnyH_take (i := 2) (oi := ?_) (v := ?_) ?hia2 (by kernel_rfl) ?hfa2 ?hra2 ?hQa2 ?hya2 (by assumption) ?resta2
  case hia2 => (simp only [List.getElem?_toArray, List.getElem?_cons_zero, List.getElem?_cons_succ]; rfl)
  case hfa2 => kernel_rfl
  case hra2 => kernel_rfl
  case hya2 => (refine Or.inl ⟨by rfl, ?_⟩; intro wS hSw; (try dsimp only at hSw); go_simp; (try with_reducible rfl))
  case hQa2 => exact fun _ _ _ h => h
  (try simp only [Act.put, List.setIfInBounds_toArray, List.set_cons_zero, List.set_cons_succ])
  have HLd := Lib.hid (repL_at (bel_step HBW.out HWZ.out.2.2.2.2.2.2.2.2.2.2.2.2.2.2.2.1) HL.out)
  refine wpAnyH_ready (rs := [1, 3]) (by kernel_rfl) (by simp) ?_
  refine AllReadyH.cons (o := ?_) ?hoPa ?hstPa (AllReadyH.cons (o := ?_) ?hoRa ?hstRa AllReadyH.nil)
  case hoPa => (simp only [List.getElem?_toArray, List.getElem?_cons_zero, List.getElem?_cons_succ]; rfl)
  case hoRa => (simp only [List.getElem?_toArray, List.getElem?_cons_zero, List.getElem?_cons_succ]; rfl)
  case hstPa =>
    have HO := Lib.hid (ow_none Wd Wd (Rep w0 (n + 1)) (Below.refl _ _) (Nat.le_refl _))
    intro K hK
    refine step_ovs rfl (.const (.slice none 0 0)) (.tmp 12) rfl (rep_one w0 (n + 1)) Wd Wd none 0 0 [] p l c L rfl rfl HO.out HLd.out (by omega) ?_; intro p1 c1 w1 ho1; rw [Nat.zero_add, List.nil_append] at ho1; have hq1 := pu_step HWZ.out (ow_rep ho1).2; have HO1 := Lib.hid ho1; clear ho1
    go_wp2_with fail
    refine hK.out _ _ ?hsPa (fun hHeld => ?_)
    case hsPa => exact pu_ro hq1
    clear hK K
    (try simp only [Act.put, List.setIfInBounds_toArray, List.set_cons_zero, List.set_cons_succ])
    refine wpAnyH_ready (rs := [3]) (by kernel_rfl) (by simp) ?_
    refine AllReadyH.cons (o := ?_) ?hoaP3 ?hstaP3 AllReadyH.nil
    case hoaP3 => (simp only [List.getElem?_toArray, List.getElem?_cons_zero, List.getElem?_cons_succ]; rfl)
    intro K hK
    go_simp
    have hal1 := bel_alloc (Below.refl w1.heap.size w1) (.cells #[.int .i64 K3, .int .i64 I3, .float .f64 F3, .string S3, .slice q3 m3 d3] 27); have hq2 := pu_step hq1 hal1; have hro2 := row_alloc w1 #[.int .i64 K3, .int .i64 I3, .float .f64 F3, .string S3, .slice q3 m3 d3] 27; have ho2 := ow_step HO1.out hal1; clear hal1
    go_wp2_with fail
    refine hK.out _ _ ?hsaP3 (fun hHeld => ?_)
    case hsaP3 => exact pu_ro hq2
    clear hK K
    (try simp only [Act.put, List.setIfInBounds_toArray, List.set_cons_zero, List.set_cons_succ])
    have hM := row1_rep (R := Rep w0 (n + 1)) hro2 HV.out
    refine wpAnyH_ready (rs := [4]) (by kernel_rfl) (by simp) ?_
    refine AllReadyH.cons (o := ?_) ?hoaP4 ?hstaP4 AllReadyH.nil
    case hoaP4 => (simp only [List.getElem?_toArray, List.getElem?_cons_zero, List.getElem?_cons_succ]; rfl)
    intro K hK
    skip
    refine step_ovs rfl (.tmp 13) (.tmp 15) rfl (rep_one w0 (n + 1)) Wd _ p1 l c1 L _ 1 1 [V] rfl rfl ho2 hM (by omega) ?_; intro p2 c2 w3 ho3; have hq3 := pu_step HWZ.out (ow_rep ho3).2; have HY := Lib.hid (ow_rep ho3).1; clear ho3 ho2 hM hro2 hq2
    go_wp2_with fail
    refine hK.out _ _ ?hsaP4 (fun hHeld => ?_)
    case hsaP4 => exact pu_ro hq3
    clear hK K
    (try simp only [Act.put, List.setIfInBounds_toArray, List.set_cons_zero, List.set_cons_succ])
    refine wpAnyH_ready (rs := [5]) (by kernel_rfl) (by simp) ?_
    refine AllReadyH.cons (o := ?_) ?hoaP5 ?hstaP5 AllReadyH.nil
    case hoaP5 => (simp only [List.getElem?_toArray, List.getElem?_cons_zero, List.getElem?_cons_succ]; rfl)
    intro K hK
    go_simp
    go_at_call 79; refine (qlist_any _ _ _ _).mono ?_; rintro e w4 ⟨rfl, hb4⟩; have hq4 := pu_step hq3 hb4; have hst4 := stay_below (B := Wd.heap.size) hb4; have hz4 := hb4.size; clear hb4 hq3
    go_wp2_with fail
    refine hK.out _ _ ?hsaP5 (fun hHeld => ?_)
    case hsaP5 => exact pu_ro hq4
    clear hK K
    (try simp only [Act.put, List.setIfInBounds_toArray, List.set_cons_zero, List.set_cons_succ])
    refine wpAnyH_ready (rs := [6]) (by kernel_rfl) (by simp) ?_
    refine AllReadyH.cons (o := ?_) ?hoaP6 ?hstaP6 AllReadyH.nil
    case hoaP6 => (simp only [List.getElem?_toArray, List.getElem?_cons_zero, List.getElem?_cons_succ]; rfl)
    intro K hK
    have b30 := hq4.2.2.2.2.2.1; have b31 := hq4.2.2.2.2.2.2.1; have b32 := hq4.2.2.2.2.2.2.2.1; have b33 := hq4.2.2.2.2.2.2.2.2.1; have b34 := hq4.2.2.2.2.2.2.2.2.2.1; have b3f := hq4.2.2.2.2.2.2.2.2.2.2.2.2.2.2.2.2.1; have b3l := cell_lt b30; go_simp
    have hq5 := pu_set1 hq4 (.int .i64 4) (.int .i64 0) (.float .f64 0) (.string ⟨#[]⟩) (.slice p2 (l + 1) c2); have hst5 : Stay Wd.heap.size w3 (((((w4.setCell ⟨w.heap.size + 1, 0, none⟩ (.int .i64 4)).setCell ⟨w.heap.size + 1, 1, none⟩ (.int .i64 0)).setCell ⟨w.heap.size + 1, 2, none⟩ (.float .f64 0)).setCell ⟨w.heap.size + 1, 3, none⟩ (.string ⟨#[]⟩)).setCell ⟨w.heap.size + 1, 4, none⟩ (.slice p2 (l + 1) c2)) := fun b h1 h2 => (set5_other (g := w.heap.size + 1) (o := 0) (by omega)).trans (hst4 b h1 h2); clear b30 b31 b32 b33 b34 b3f b3l
    go_wp2_with fail
    refine hK.out _ _ ?hsaP6 (fun hHeld => ?_)
    case hsaP6 => exact pu_ro hq5
    clear hK K
    (try simp only [Act.put, List.setIfInBounds_toArray, List.set_cons_zero, List.set_cons_succ])
    refine wpAnyH_done (by kernel_rfl) ?_ _
    have HG8 := Lib.hid (show PU K3 I3 F3 S3 q3 m3 d3 (.int .i64 4) (.int .i64 0) (.float .f64 0) (.string ⟨#[]⟩) (.slice p2 (l + 1) c2) (.int .i64 0) (.int .i64 0) (.float .f64 0) (.string ⟨#[]⟩) (.slice none 0 0) w (((((w4.setCell ⟨w.heap.size + 1, 0, none⟩ (.int .i64 4)).setCell ⟨w.heap.size + 1, 1, none⟩ (.int .i64 0)).setCell ⟨w.heap.size + 1, 2, none⟩ (.float .f64 0)).setCell ⟨w.heap.size + 1, 3, none⟩ (.string ⟨#[]⟩)).setCell ⟨w.heap.size + 1, 4, none⟩ (.slice p2 (l + 1) c2)) ∧ Stay Wd.heap.size w3 (((((w4.setCell ⟨w.heap.size + 1, 0, none⟩ (.int .i64 4)).setCell ⟨w.heap.size + 1, 1, none⟩ (.int .i64 0)).setCell ⟨w.heap.size + 1, 2, none⟩ (.float .f64 0)).setCell ⟨w.heap.size + 1, 3, none⟩ (.string ⟨#[]⟩)).setCell ⟨w.heap.size + 1, 4, none⟩ (.slice p2 (l + 1) c2)) ∧ w3.heap.size ≤ ((((((w4.setCell ⟨w.heap.size + 1, 0, none⟩ (.int .i64 4)).setCell ⟨w.heap.size + 1, 1, none⟩ (.int .i64 0)).setCell ⟨w.heap.size + 1, 2, none⟩ (.float .f64 0)).setCell ⟨w.heap.size + 1, 3, none⟩ (.string ⟨#[]⟩)).setCell ⟨w.heap.size + 1, 4, none⟩ (.slice p2 (l + 1) c2))).heap.size from ⟨hq5, hst5, by show w3.heap.size ≤ (set5 w4 (w.heap.size + 1) 0 (.int .i64 4) (.int .i64 0) (.float .f64 0) (.string ⟨#[]⟩) (.slice p2 (l + 1) c2)).heap.size; rw [set5_size]; exact hz4⟩)
    clear hq5 hst5 hq4 hst4 hz4 hHeld
    revert HG8
    generalize (((((w4.setCell ⟨w.heap.size + 1, 0, none⟩ (.int .i64 4)).setCell ⟨w.heap.size + 1, 1, none⟩ (.int .i64 0)).setCell ⟨w.heap.size + 1, 2, none⟩ (.float .f64 0)).setCell ⟨w.heap.size + 1, 3, none⟩ (.string ⟨#[]⟩)).setCell ⟨w.heap.size + 1, 4, none⟩ (.slice p2 (l + 1) c2)) = W8
    intro HG8
    obtain ⟨hq8, hst8, hz8⟩ := HG8.out
    have hrep : ∀ y, Below w0.heap.size w0 y → Stay Wd.heap.size w3 y → Rep y (n + 2) (.agg #[.int .i64 4, .int .i64 0, .float .f64 0, .string ⟨#[]⟩, .slice p2 (l + 1) c2]) ((4, 0, 0, ⟨#[]⟩, L ++ [V]) : VT (n + 2)) := fun y hby hst => list_rep (repL_mono (fun _ _ h => rep_keep hby _ _ _ h) (HY.out y hst))
    have HREP := Lib.hid hrep
    have hck := check_any (n + 2) 4 0 0 ⟨#[]⟩ p2 (l + 1) c2 ((4, 0, 0, ⟨#[]⟩, L ++ [V]) : VT (n + 2)) W8 (hrep W8 (bel_step HBW.out hq8.2.2.2.2.2.2.2.2.2.2.2.2.2.2.2.1) hst8) HC.out.2.1 HC.out.2.2
    rw [HC.out.1] at hck
    have HCK := Lib.hid hck
    have HQ8 := Lib.hid hq8
    have HST8 := Lib.hid hst8
    have HZ8 := Lib.hid hz8
    have b30 := hq8.2.2.2.2.2.1
    have b31 := hq8.2.2.2.2.2.2.1
    have b32 := hq8.2.2.2.2.2.2.2.1
    have b33 := hq8.2.2.2.2.2.2.2.2.1
    have b34 := hq8.2.2.2.2.2.2.2.2.2.1
    have b3l := cell_lt b30
    clear hck hq8 hst8 hz8 HG8 hrep HY
    go_wp2_with fail
    go_at_call 37; refine HCK.out.mono ?_; rintro e w9 ⟨rfl, hb9⟩
    have HQ9 := Lib.hid (pu_step HQ8.out hb9)
    have HST9 := Lib.hid (show Stay Wd.heap.size w3 w9 from fun b h1 h2 => (hb9.block b (Nat.lt_of_lt_of_le h2 HZ8.out)).trans (HST8.out b h1 h2))
    have HZ9 := Lib.hid (Nat.le_trans HZ8.out hb9.size)
    clear b30 b31 b32 b33 b34 b3l hb9 HCK HQ8 HST8 HZ8
    have hp := HQ9.out
    have p0 := hp.2.2.2.2.2.1
    have p1 := hp.2.2.2.2.2.2.1
    have p2 := hp.2.2.2.2.2.2.2.1
    have p3 := hp.2.2.2.2.2.2.2.2.1
    have p4 := hp.2.2.2.2.2.2.2.2.2.1
    have s0 := hp.2.2.2.2.2.2.2.2.2.2.1
    have s1 := hp.2.2.2.2.2.2.2.2.2.2.2.1
    have s2 := hp.2.2.2.2.2.2.2.2.2.2.2.2.1
    have s3 := hp.2.2.2.2.2.2.2.2.2.2.2.2.2.1
    have s4 := hp.2.2.2.2.2.2.2.2.2.2.2.2.2.2.1
    have f1 := hp.2.2.2.2.2.2.2.2.2.2.2.2.2.2.2.2.1
    have f2 := hp.2.2.2.2.2.2.2.2.2.2.2.2.2.2.2.2.2
    have HBX := Lib.hid hp.2.2.2.2.2.2.2.2.2.2.2.2.2.2.2.1
    have l2 : w.heap.size + 1 + 1 < w9.heap.size := cell_lt s0
    clear hp
    go_wp2
    refine bodyPost_ret (v := .tuple #[.agg #[.int .i64 0, .int .i64 0, .float .f64 0, .string ⟨#[]⟩, .slice none 0 0], .agg #[.int .i64 0, .int .i64 0, .float .f64 0, .string ⟨#[]⟩, .slice none 0 0], .int .i64 33]) (by simp [results, Try.results47, go_sem, World.cell?_setCell_same, World.cell?_setCell_other, p0, p1, p2, p3, p4, s0, s1, s2, s3, s4]) rfl ⟨rfl, ?_⟩
    exact set5_below (g := w.heap.size + 1 + 1) (o := 0) (set5_below (g := w.heap.size + 1) (o := 0) HBX.out (by omega) _ _ _ _ _) (by omega) _ _ _ _ _
  case hstRa =>
    have hal1 := bel_alloc (Below.refl Wd.heap.size Wd) (.cells #[.int .i64 K3, .int .i64 I3, .float .f64 F3, .string S3, .slice q3 m3 d3] 27)
    have HWE := Lib.hid (pu_step HWZ.out hal1)
    have hro2 := row_alloc Wd #[.int .i64 K3, .int .i64 I3, .float .f64 F3, .string S3, .slice q3 m3 d3] 27
    have HLe := Lib.hid (repL_at hal1 HLd.out)
    replace hbz : w.heap.size + 1 + 1 + 1 ≤ (Wd.alloc (.cells #[.int .i64 K3, .int .i64 I3, .float .f64 F3, .string S3, .slice q3 m3 d3] 27)).heap.size := by rw [World.size_alloc]; omega
    clear hal1
    intro K hK
    go_simp
    revert HWE hro2 HLe hbz
    generalize Wd.alloc (.cells #[.int .i64 K3, .int .i64 I3, .float .f64 F3, .string S3, .slice q3 m3 d3] 27) = We
    intro HWE hro2 HLe hbz
    refine hK.out _ _ ?hsRa (fun hHeld => ?_)
    case hsRa => exact pu_ro HWE.out
    clear hK K
    (try simp only [Act.put, List.setIfInBounds_toArray, List.set_cons_zero, List.set_cons_succ])
    have HO := Lib.hid (ow_none We We (Rep w0 (n + 1)) (Below.refl _ _) (Nat.le_refl _))
    refine wpAnyH_ready (rs := [1]) (by kernel_rfl) (by simp) ?_
    refine AllReadyH.cons (o := ?_) ?hoaR1 ?hstaR1 AllReadyH.nil
    case hoaR1 => (simp only [List.getElem?_toArray, List.getElem?_cons_zero, List.getElem?_cons_succ]; rfl)
    intro K hK
    skip
    refine step_ovs rfl (.const (.slice none 0 0)) (.tmp 12) rfl (rep_one w0 (n + 1)) We We none 0 0 [] p l c L rfl rfl HO.out HLe.out (by omega) ?_; intro p1 c1 w1 ho2; rw [Nat.zero_add, List.nil_append] at ho2; have hq2 := pu_step HWE.out (ow_rep ho2).2; replace hro2 := row_step hro2 (ow_rep ho2).2
    go_wp2_with fail
    refine hK.out _ _ ?hsaR1 (fun hHeld => ?_)
    case hsaR1 => exact pu_ro hq2
    clear hK K
    (try simp only [Act.put, List.setIfInBounds_toArray, List.set_cons_zero, List.set_cons_succ])
    have hM := row1_rep (R := Rep w0 (n + 1)) hro2 HV.out
    refine wpAnyH_ready (rs := [4]) (by kernel_rfl) (by simp) ?_
    refine AllReadyH.cons (o := ?_) ?hoaR4 ?hstaR4 AllReadyH.nil
    case hoaR4 => (simp only [List.getElem?_toArray, List.getElem?_cons_zero, List.getElem?_cons_succ]; rfl)
    intro K hK
    skip
    refine step_ovs rfl (.tmp 13) (.tmp 15) rfl (rep_one w0 (n + 1)) We _ p1 l c1 L _ 1 1 [V] rfl rfl ho2 hM (by omega) ?_; intro p2 c2 w3 ho3; have hq3 := pu_step HWE.out (ow_rep ho3).2; have HY := Lib.hid (ow_rep ho3).1; clear ho3 ho2 hM hro2 hq2
    go_wp2_with fail
    refine hK.out _ _ ?hsaR4 (fun hHeld => ?_)
    case hsaR4 => exact pu_ro hq3
    clear hK K
    (try simp only [Act.put, List.setIfInBounds_toArray, List.set_cons_zero, List.set_cons_succ])
    refine wpAnyH_ready (rs := [5]) (by kernel_rfl) (by simp) ?_
    refine AllReadyH.cons (o := ?_) ?hoaR5 ?hstaR5 AllReadyH.nil
    case hoaR5 => (simp only [List.getElem?_toArray, List.getElem?_cons_zero, List.getElem?_cons_succ]; rfl)
    intro K hK
    go_simp
    go_at_call 79; refine (qlist_any _ _ _ _).mono ?_; rintro e w4 ⟨rfl, hb4⟩; have hq4 := pu_step hq3 hb4; have hst4 := stay_below (B := We.heap.size) hb4; have hz4 := hb4.size; clear hb4 hq3
    go_wp2_with fail
    refine hK.out _ _ ?hsaR5 (fun hHeld => ?_)
    case hsaR5 => exact pu_ro hq4
    clear hK K
    (try simp only [Act.put, List.setIfInBounds_toArray, List.set_cons_zero, List.set_cons_succ])
    refine wpAnyH_ready (rs := [6]) (by kernel_rfl) (by simp) ?_
    refine AllReadyH.cons (o := ?_) ?hoaR6 ?hstaR6 AllReadyH.nil
    case hoaR6 => (simp only [List.getElem?_toArray, List.getElem?_cons_zero, List.getElem?_cons_succ]; rfl)
    intro K hK
    have b30 := hq4.2.2.2.2.2.1; have b31 := hq4.2.2.2.2.2.2.1; have b32 := hq4.2.2.2.2.2.2.2.1; have b33 := hq4.2.2.2.2.2.2.2.2.1; have b34 := hq4.2.2.2.2.2.2.2.2.2.1; have b3f := hq4.2.2.2.2.2.2.2.2.2.2.2.2.2.2.2.2.1; have b3l := cell_lt b30; go_simp
    have hq5 := pu_set1 hq4 (.int .i64 4) (.int .i64 0) (.float .f64 0) (.string ⟨#[]⟩) (.slice p2 (l + 1) c2); have hst5 : Stay We.heap.size w3 (((((w4.setCell ⟨w.heap.size + 1, 0, none⟩ (.int .i64 4)).setCell ⟨w.heap.size + 1, 1, none⟩ (.int .i64 0)).setCell ⟨w.heap.size + 1, 2, none⟩ (.float .f64 0)).setCell ⟨w.heap.size + 1, 3, none⟩ (.string ⟨#[]⟩)).setCell ⟨w.heap.size + 1, 4, none⟩ (.slice p2 (l + 1) c2)) := fun b h1 h2 => (set5_other (g := w.heap.size + 1) (o := 0) (by omega)).trans (hst4 b h1 h2); clear b30 b31 b32 b33 b34 b3f b3l
    go_wp2_with fail
    refine hK.out _ _ ?hsaR6 (fun hHeld => ?_)
    case hsaR6 => exact pu_ro hq5
    clear hK K
    (try simp only [Act.put, List.setIfInBounds_toArray, List.set_cons_zero, List.set_cons_succ])
    refine wpAnyH_done (by kernel_rfl) ?_ _
    have HG8 := Lib.hid (show PU K3 I3 F3 S3 q3 m3 d3 (.int .i64 4) (.int .i64 0) (.float .f64 0) (.string ⟨#[]⟩) (.slice p2 (l + 1) c2) (.int .i64 0) (.int .i64 0) (.float .f64 0) (.string ⟨#[]⟩) (.slice none 0 0) w (((((w4.setCell ⟨w.heap.size + 1, 0, none⟩ (.int .i64 4)).setCell ⟨w.heap.size + 1, 1, none⟩ (.int .i64 0)).setCell ⟨w.heap.size + 1, 2, none⟩ (.float .f64 0)).setCell ⟨w.heap.size + 1, 3, none⟩ (.string ⟨#[]⟩)).setCell ⟨w.heap.size + 1, 4, none⟩ (.slice p2 (l + 1) c2)) ∧ Stay We.heap.size w3 (((((w4.setCell ⟨w.heap.size + 1, 0, none⟩ (.int .i64 4)).setCell ⟨w.heap.size + 1, 1, none⟩ (.int .i64 0)).setCell ⟨w.heap.size + 1, 2, none⟩ (.float .f64 0)).setCell ⟨w.heap.size + 1, 3, none⟩ (.string ⟨#[]⟩)).setCell ⟨w.heap.size + 1, 4, none⟩ (.slice p2 (l + 1) c2)) ∧ w3.heap.size ≤ ((((((w4.setCell ⟨w.heap.size + 1, 0, none⟩ (.int .i64 4)).setCell ⟨w.heap.size + 1, 1, none⟩ (.int .i64 0)).setCell ⟨w.heap.size + 1, 2, none⟩ (.float .f64 0)).setCell ⟨w.heap.size + 1, 3, none⟩ (.string ⟨#[]⟩)).setCell ⟨w.heap.size + 1, 4, none⟩ (.slice p2 (l + 1) c2))).heap.size from ⟨hq5, hst5, by show w3.heap.size ≤ (set5 w4 (w.heap.size + 1) 0 (.int .i64 4) (.int .i64 0) (.float .f64 0) (.string ⟨#[]⟩) (.slice p2 (l + 1) c2)).heap.size; rw [set5_size]; exact hz4⟩)
    clear hq5 hst5 hq4 hst4 hz4 hHeld
    revert HG8
    generalize (((((w4.setCell ⟨w.heap.size + 1, 0, none⟩ (.int .i64 4)).setCell ⟨w.heap.size + 1, 1, none⟩ (.int .i64 0)).setCell ⟨w.heap.size + 1, 2, none⟩ (.float .f64 0)).setCell ⟨w.heap.size + 1, 3, none⟩ (.string ⟨#[]⟩)).setCell ⟨w.heap.size + 1, 4, none⟩ (.slice p2 (l + 1) c2)) = W8
    intro HG8
    obtain ⟨hq8, hst8, hz8⟩ := HG8.out
    have hrep : ∀ y, Below w0.heap.size w0 y → Stay We.heap.size w3 y → Rep y (n + 2) (.agg #[.int .i64 4, .int .i64 0, .float .f64 0, .string ⟨#[]⟩, .slice p2 (l + 1) c2]) ((4, 0, 0, ⟨#[]⟩, L ++ [V]) : VT (n + 2)) := fun y hby hst => list_rep (repL_mono (fun _ _ h => rep_keep hby _ _ _ h) (HY.out y hst))
    have HREP := Lib.hid hrep
    have hck := check_any (n + 2) 4 0 0 ⟨#[]⟩ p2 (l + 1) c2 ((4, 0, 0, ⟨#[]⟩, L ++ [V]) : VT (n + 2)) W8 (hrep W8 (bel_step HBW.out hq8.2.2.2.2.2.2.2.2.2.2.2.2.2.2.2.1) hst8) HC.out.2.1 HC.out.2.2
    rw [HC.out.1] at hck
    have HCK := Lib.hid hck
    have HQ8 := Lib.hid hq8
    have HST8 := Lib.hid hst8
    have HZ8 := Lib.hid hz8
    have b30 := hq8.2.2.2.2.2.1
    have b31 := hq8.2.2.2.2.2.2.1
    have b32 := hq8.2.2.2.2.2.2.2.1
    have b33 := hq8.2.2.2.2.2.2.2.2.1
    have b34 := hq8.2.2.2.2.2.2.2.2.2.1
    have b3l := cell_lt b30
    clear hck hq8 hst8 hz8 HG8 hrep HY
    go_wp2_with fail
    go_at_call 37; refine HCK.out.mono ?_; rintro e w9 ⟨rfl, hb9⟩
    have HQ9 := Lib.hid (pu_step HQ8.out hb9)
    have HST9 := Lib.hid (show Stay We.heap.size w3 w9 from fun b h1 h2 => (hb9.block b (Nat.lt_of_lt_of_le h2 HZ8.out)).trans (HST8.out b h1 h2))
    have HZ9 := Lib.hid (Nat.le_trans HZ8.out hb9.size)
    clear b30 b31 b32 b33 b34 b3l hb9 HCK HQ8 HST8 HZ8
    have hp := HQ9.out
    have p0 := hp.2.2.2.2.2.1
    have p1 := hp.2.2.2.2.2.2.1
    have p2 := hp.2.2.2.2.2.2.2.1
    have p3 := hp.2.2.2.2.2.2.2.2.1
    have p4 := hp.2.2.2.2.2.2.2.2.2.1
    have s0 := hp.2.2.2.2.2.2.2.2.2.2.1
    have s1 := hp.2.2.2.2.2.2.2.2.2.2.2.1
    have s2 := hp.2.2.2.2.2.2.2.2.2.2.2.2.1
    have s3 := hp.2.2.2.2.2.2.2.2.2.2.2.2.2.1
    have s4 := hp.2.2.2.2.2.2.2.2.2.2.2.2.2.2.1
    have f1 := hp.2.2.2.2.2.2.2.2.2.2.2.2.2.2.2.2.1
    have f2 := hp.2.2.2.2.2.2.2.2.2.2.2.2.2.2.2.2.2
    have HBX := Lib.hid hp.2.2.2.2.2.2.2.2.2.2.2.2.2.2.2.1
    have l2 : w.heap.size + 1 + 1 < w9.heap.size := cell_lt s0
    clear hp
    go_wp2
    refine bodyPost_ret (v := .tuple #[.agg #[.int .i64 0, .int .i64 0, .float .f64 0, .string ⟨#[]⟩, .slice none 0 0], .agg #[.int .i64 0, .int .i64 0, .float .f64 0, .string ⟨#[]⟩, .slice none 0 0], .int .i64 33]) (by simp [results, Try.results47, go_sem, World.cell?_setCell_same, World.cell?_setCell_other, p0, p1, p2, p3, p4, s0, s1, s2, s3, s4]) rfl ⟨rfl, ?_⟩
    exact set5_below (g := w.heap.size + 1 + 1) (o := 0) (set5_below (g := w.heap.size + 1) (o := 0) HBX.out (by omega) _ _ _ _ _) (by omega) _ _ _ _ _
set_option maxRecDepth 100000 in
set_option maxHeartbeats 4000000 in
theorem qpush_full (p : Option Addr) (c : Nat) (K3 I3 : Int) (F3 : Nat) (S3 : ByteArray) (q3 : Option Addr) (m3 d3 : Nat) (w : World) :
    Calls Try.prog 47 #[.slice p 32 c, .agg #[.int .i64 K3, .int .i64 I3, .float .f64 F3, .string S3, .slice q3 m3 d3]] w fun e w' => e = .returned (.tuple #[.agg #[.int .i64 0, .int .i64 0, .float .f64 0, .string ⟨#[]⟩, .slice none 0 0], .agg #[.int .i64 0, .int .i64 0, .float .f64 0, .string ⟨#[]⟩, .slice none 0 0], .int .i64 33]) ∧ Below w.heap.size w w' := by
  obtain ⟨ov, hov⟩ : ∃ o, Obj.cells #[.int .i64 K3, .int .i64 I3, .float .f64 F3, .string S3, .slice q3 m3 d3] 27 = o := ⟨_, rfl⟩
  obtain ⟨oz, hoz⟩ : ∃ o, Obj.cells #[.int .i64 0, .int .i64 0, .float .f64 0, .string ⟨#[]⟩, .slice none 0 0] 27 = o := ⟨_, rfl⟩
  have hB : Below w.heap.size w (((w.alloc ov).alloc oz).alloc oz) := bel_alloc (bel_alloc (bel_alloc (Below.refl w.heap.size w) ov) oz) oz
  have r0 := row_alloc_step (row_alloc_step (row_alloc w #[.int .i64 K3, .int .i64 I3, .float .f64 F3, .string S3, .slice q3 m3 d3] 27) oz) oz
  rw [hov] at r0
  have r1 := row_alloc_step (row_alloc (w.alloc ov) #[.int .i64 0, .int .i64 0, .float .f64 0, .string ⟨#[]⟩, .slice none 0 0] 27) oz
  rw [hoz] at r1
  have r2 := row_alloc ((w.alloc ov).alloc oz) #[.int .i64 0, .int .i64 0, .float .f64 0, .string ⟨#[]⟩, .slice none 0 0] 27
  rw [hoz] at r2
  simp only [World.size_alloc] at r0 r1 r2
  have HB := Lib.hid hB
  subst hov hoz
  have HG0 := Lib.hid (show PU K3 I3 F3 S3 q3 m3 d3 (.int .i64 0) (.int .i64 0) (.float .f64 0) (.string ⟨#[]⟩) (.slice none 0 0) (.int .i64 0) (.int .i64 0) (.float .f64 0) (.string ⟨#[]⟩) (.slice none 0 0) w (((w.alloc (.cells #[.int .i64 K3, .int .i64 I3, .float .f64 F3, .string S3, .slice q3 m3 d3] 27)).alloc (.cells #[.int .i64 0, .int .i64 0, .float .f64 0, .string ⟨#[]⟩, .slice none 0 0] 27)).alloc (.cells #[.int .i64 0, .int .i64 0, .float .f64 0, .string ⟨#[]⟩, .slice none 0 0] 27)) ∧ ((((w.alloc (.cells #[.int .i64 K3, .int .i64 I3, .float .f64 F3, .string S3, .slice q3 m3 d3] 27)).alloc (.cells #[.int .i64 0, .int .i64 0, .float .f64 0, .string ⟨#[]⟩, .slice none 0 0] 27)).alloc (.cells #[.int .i64 0, .int .i64 0, .float .f64 0, .string ⟨#[]⟩, .slice none 0 0] 27))).heap.size = w.heap.size + 1 + 1 + 1 from ⟨⟨row_cell r0 0, row_cell r0 1, row_cell r0 2, row_cell r0 3, row_cell r0 4, row_cell r1 0, row_cell r1 1, row_cell r1 2, row_cell r1 3, row_cell r1 4, row_cell r2 0, row_cell r2 1, row_cell r2 2, row_cell r2 3, row_cell r2 4, HB.out, fun o => row_frz r1 o, fun o => row_frz r2 o⟩, by simp only [World.size_alloc]⟩)
  clear r0 r1 r2 hB HB
  have hp := HG0.out.1
  have p0 := hp.2.2.2.2.2.1
  have p1 := hp.2.2.2.2.2.2.1
  have p2 := hp.2.2.2.2.2.2.2.1
  have p3 := hp.2.2.2.2.2.2.2.2.1
  have p4 := hp.2.2.2.2.2.2.2.2.2.1
  have s0 := hp.2.2.2.2.2.2.2.2.2.2.1
  have s1 := hp.2.2.2.2.2.2.2.2.2.2.2.1
  have s2 := hp.2.2.2.2.2.2.2.2.2.2.2.2.1
  have s3 := hp.2.2.2.2.2.2.2.2.2.2.2.2.2.1
  have s4 := hp.2.2.2.2.2.2.2.2.2.2.2.2.2.2.1
  have f1 := hp.2.2.2.2.2.2.2.2.2.2.2.2.2.2.2.2.1
  have f2 := hp.2.2.2.2.2.2.2.2.2.2.2.2.2.2.2.2.2
  clear hp
  go_enter Try.func47, Try.ntmps47
  go_wp2
  refine bodyPost_ret (v := .tuple #[.agg #[.int .i64 0, .int .i64 0, .float .f64 0, .string ⟨#[]⟩, .slice none 0 0], .agg #[.int .i64 0, .int .i64 0, .float .f64 0, .string ⟨#[]⟩, .slice none 0 0], .int .i64 33]) (by simp [results, Try.results47, go_sem]) rfl ⟨rfl, ?_⟩
  exact bel_alloc (bel_alloc (bel_alloc (Below.refl w.heap.size w) _) _) _
end Num
end Go.Proofs.Ytodjnhhnjncgdaa
