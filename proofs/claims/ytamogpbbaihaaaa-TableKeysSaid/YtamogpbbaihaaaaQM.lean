/-
  Package table: run: keys, size.
-/
import Derived.Test.YtamogpbbaihaaaaQK
namespace Go.Proofs.Ytamogpbbaihaaaa
open Go.RowKit
namespace Num
open Ints
set_option linter.unusedSimpArgs false
set_option linter.unusedVariables false
/-- What run keeps, of keys and size. -/
def RK (p : Option Addr) (l c : Nat) (x0 x1 x2 x3 x4 y0 y1 y2 y3 y4 : Value) (w z : World) : Prop := z.cell? ⟨w.heap.size, 0, none⟩ = some (.int .i64 4) ∧ z.cell? ⟨w.heap.size, 1, none⟩ = some (.int .i64 0) ∧ z.cell? ⟨w.heap.size, 2, none⟩ = some (.float .f64 0) ∧ z.cell? ⟨w.heap.size, 3, none⟩ = some (.string ⟨#[]⟩) ∧ z.cell? ⟨w.heap.size, 4, none⟩ = some (.slice p l c) ∧ z.cell? ⟨w.heap.size + 1, 0, none⟩ = some (x0) ∧ z.cell? ⟨w.heap.size + 1, 1, none⟩ = some (x1) ∧ z.cell? ⟨w.heap.size + 1, 2, none⟩ = some (x2) ∧ z.cell? ⟨w.heap.size + 1, 3, none⟩ = some (x3) ∧ z.cell? ⟨w.heap.size + 1, 4, none⟩ = some (x4) ∧ z.cell? ⟨w.heap.size + 1 + 1, 0, none⟩ = some (y0) ∧ z.cell? ⟨w.heap.size + 1 + 1, 1, none⟩ = some (y1) ∧ z.cell? ⟨w.heap.size + 1 + 1, 2, none⟩ = some (y2) ∧ z.cell? ⟨w.heap.size + 1 + 1, 3, none⟩ = some (y3) ∧ z.cell? ⟨w.heap.size + 1 + 1, 4, none⟩ = some (y4) ∧ Below w.heap.size w z ∧ (∀ o, z.frozen? ⟨w.heap.size + 1, o, none⟩ = false) ∧ (∀ o, z.frozen? ⟨w.heap.size + 1 + 1, o, none⟩ = false)
section
variable {p : Option Addr} {l c : Nat} {x0 x1 x2 x3 x4 y0 y1 y2 y3 y4 : Value} {w x y : World}
theorem rk_step (h : RK p l c x0 x1 x2 x3 x4 y0 y1 y2 y3 y4 w x) (hb : Below x.heap.size x y) : RK p l c x0 x1 x2 x3 x4 y0 y1 y2 y3 y4 w y :=
  ⟨cell_keep hb h.1, cell_keep hb h.2.1, cell_keep hb h.2.2.1, cell_keep hb h.2.2.2.1, cell_keep hb h.2.2.2.2.1, cell_keep hb h.2.2.2.2.2.1, cell_keep hb h.2.2.2.2.2.2.1, cell_keep hb h.2.2.2.2.2.2.2.1, cell_keep hb h.2.2.2.2.2.2.2.2.1, cell_keep hb h.2.2.2.2.2.2.2.2.2.1, cell_keep hb h.2.2.2.2.2.2.2.2.2.2.1, cell_keep hb h.2.2.2.2.2.2.2.2.2.2.2.1, cell_keep hb h.2.2.2.2.2.2.2.2.2.2.2.2.1, cell_keep hb h.2.2.2.2.2.2.2.2.2.2.2.2.2.1, cell_keep hb h.2.2.2.2.2.2.2.2.2.2.2.2.2.2.1, bel_step h.2.2.2.2.2.2.2.2.2.2.2.2.2.2.2.1 hb, fun o => (hb.frozen (p := ⟨w.heap.size + 1, o, none⟩) (show w.heap.size + 1 < x.heap.size from cell_lt h.2.2.2.2.2.1)).trans (h.2.2.2.2.2.2.2.2.2.2.2.2.2.2.2.2.1 o), fun o => (hb.frozen (p := ⟨w.heap.size + 1 + 1, o, none⟩) (show w.heap.size + 1 + 1 < x.heap.size from cell_lt h.2.2.2.2.2.2.2.2.2.2.1)).trans (h.2.2.2.2.2.2.2.2.2.2.2.2.2.2.2.2.2 o)⟩
theorem rk_ro (h : RK p l c x0 x1 x2 x3 x4 y0 y1 y2 y3 y4 w x) : x.cell? ⟨w.heap.size, 0, none⟩ = some (.int .i64 4) ∧ x.cell? ⟨w.heap.size, 1, none⟩ = some (.int .i64 0) ∧ x.cell? ⟨w.heap.size, 2, none⟩ = some (.float .f64 0) ∧ x.cell? ⟨w.heap.size, 3, none⟩ = some (.string ⟨#[]⟩) ∧ x.cell? ⟨w.heap.size, 4, none⟩ = some (.slice p l c) := ⟨h.1, h.2.1, h.2.2.1, h.2.2.2.1, h.2.2.2.2.1⟩
theorem rk_r1 (h : RK p l c x0 x1 x2 x3 x4 y0 y1 y2 y3 y4 w x) : x.cell? ⟨w.heap.size, 0, none⟩ = some (.int .i64 4) ∧ x.cell? ⟨w.heap.size, 1, none⟩ = some (.int .i64 0) ∧ x.cell? ⟨w.heap.size, 2, none⟩ = some (.float .f64 0) ∧ x.cell? ⟨w.heap.size, 3, none⟩ = some (.string ⟨#[]⟩) ∧ x.cell? ⟨w.heap.size, 4, none⟩ = some (.slice p l c) ∧ x.cell? ⟨w.heap.size + 1, 0, none⟩ = some (x0) ∧ x.cell? ⟨w.heap.size + 1, 1, none⟩ = some (x1) ∧ x.cell? ⟨w.heap.size + 1, 2, none⟩ = some (x2) ∧ x.cell? ⟨w.heap.size + 1, 3, none⟩ = some (x3) ∧ x.cell? ⟨w.heap.size + 1, 4, none⟩ = some (x4) := ⟨h.1, h.2.1, h.2.2.1, h.2.2.2.1, h.2.2.2.2.1, h.2.2.2.2.2.1, h.2.2.2.2.2.2.1, h.2.2.2.2.2.2.2.1, h.2.2.2.2.2.2.2.2.1, h.2.2.2.2.2.2.2.2.2.1⟩
theorem rk_all (h : RK p l c x0 x1 x2 x3 x4 y0 y1 y2 y3 y4 w x) : x.cell? ⟨w.heap.size, 0, none⟩ = some (.int .i64 4) ∧ x.cell? ⟨w.heap.size, 1, none⟩ = some (.int .i64 0) ∧ x.cell? ⟨w.heap.size, 2, none⟩ = some (.float .f64 0) ∧ x.cell? ⟨w.heap.size, 3, none⟩ = some (.string ⟨#[]⟩) ∧ x.cell? ⟨w.heap.size, 4, none⟩ = some (.slice p l c) ∧ x.cell? ⟨w.heap.size + 1, 0, none⟩ = some (x0) ∧ x.cell? ⟨w.heap.size + 1, 1, none⟩ = some (x1) ∧ x.cell? ⟨w.heap.size + 1, 2, none⟩ = some (x2) ∧ x.cell? ⟨w.heap.size + 1, 3, none⟩ = some (x3) ∧ x.cell? ⟨w.heap.size + 1, 4, none⟩ = some (x4) ∧ x.cell? ⟨w.heap.size + 1 + 1, 0, none⟩ = some (y0) ∧ x.cell? ⟨w.heap.size + 1 + 1, 1, none⟩ = some (y1) ∧ x.cell? ⟨w.heap.size + 1 + 1, 2, none⟩ = some (y2) ∧ x.cell? ⟨w.heap.size + 1 + 1, 3, none⟩ = some (y3) ∧ x.cell? ⟨w.heap.size + 1 + 1, 4, none⟩ = some (y4) := ⟨h.1, h.2.1, h.2.2.1, h.2.2.2.1, h.2.2.2.2.1, h.2.2.2.2.2.1, h.2.2.2.2.2.2.1, h.2.2.2.2.2.2.2.1, h.2.2.2.2.2.2.2.2.1, h.2.2.2.2.2.2.2.2.2.1, h.2.2.2.2.2.2.2.2.2.2.1, h.2.2.2.2.2.2.2.2.2.2.2.1, h.2.2.2.2.2.2.2.2.2.2.2.2.1, h.2.2.2.2.2.2.2.2.2.2.2.2.2.1, h.2.2.2.2.2.2.2.2.2.2.2.2.2.2.1⟩
theorem rk_drew (h : RK p l c x0 x1 x2 x3 x4 y0 y1 y2 y3 y4 w x) : RK p l c x0 x1 x2 x3 x4 y0 y1 y2 y3 y4 w x.drew := rk_step h (Below.drew (Below.refl _ _))
theorem rk_set1 (h : RK p l c x0 x1 x2 x3 x4 y0 y1 y2 y3 y4 w x) (u0 u1 u2 u3 u4 : Value) : RK p l c u0 u1 u2 u3 u4 y0 y1 y2 y3 y4 w (set5 x (w.heap.size + 1) 0 u0 u1 u2 u3 u4) := by
  have e : ∀ c i, c ≠ w.heap.size + 1 → (set5 x (w.heap.size + 1) 0 u0 u1 u2 u3 u4).cell? ⟨c, i, none⟩ = x.cell? ⟨c, i, none⟩ := fun c i hc => World.cell?_of_block (set5_other hc)
  have hs := set5_same (g := w.heap.size + 1) (o := 0) u0 u1 u2 u3 u4 h.2.2.2.2.2.1 h.2.2.2.2.2.2.1 h.2.2.2.2.2.2.2.1 h.2.2.2.2.2.2.2.2.1 h.2.2.2.2.2.2.2.2.2.1
  unfold RK at h ⊢
  obtain ⟨g0, g1, g2, g3, g4, g5, g6, g7, g8, g9, g10, g11, g12, g13, g14, g15, g16, g17⟩ := h
  refine ⟨(e _ _ (by omega)).trans g0, (e _ _ (by omega)).trans g1, (e _ _ (by omega)).trans g2, (e _ _ (by omega)).trans g3, (e _ _ (by omega)).trans g4, hs.1, hs.2.1, hs.2.2.1, hs.2.2.2.1, hs.2.2.2.2, (e _ _ (by omega)).trans g10, (e _ _ (by omega)).trans g11, (e _ _ (by omega)).trans g12, (e _ _ (by omega)).trans g13, (e _ _ (by omega)).trans g14, set5_below g15 (by omega) _ _ _ _ _, fun o => ?_, fun o => ?_⟩
  all_goals (unfold set5; simp only [World.frozen?_setCell]; first | exact g16 o | exact g17 o)
theorem rk_set2 (h : RK p l c x0 x1 x2 x3 x4 y0 y1 y2 y3 y4 w x) (u0 u1 u2 u3 u4 : Value) : RK p l c x0 x1 x2 x3 x4 u0 u1 u2 u3 u4 w (set5 x (w.heap.size + 1 + 1) 0 u0 u1 u2 u3 u4) := by
  have e : ∀ c i, c ≠ w.heap.size + 1 + 1 → (set5 x (w.heap.size + 1 + 1) 0 u0 u1 u2 u3 u4).cell? ⟨c, i, none⟩ = x.cell? ⟨c, i, none⟩ := fun c i hc => World.cell?_of_block (set5_other hc)
  have hs := set5_same (g := w.heap.size + 1 + 1) (o := 0) u0 u1 u2 u3 u4 h.2.2.2.2.2.2.2.2.2.2.1 h.2.2.2.2.2.2.2.2.2.2.2.1 h.2.2.2.2.2.2.2.2.2.2.2.2.1 h.2.2.2.2.2.2.2.2.2.2.2.2.2.1 h.2.2.2.2.2.2.2.2.2.2.2.2.2.2.1
  unfold RK at h ⊢
  obtain ⟨g0, g1, g2, g3, g4, g5, g6, g7, g8, g9, g10, g11, g12, g13, g14, g15, g16, g17⟩ := h
  refine ⟨(e _ _ (by omega)).trans g0, (e _ _ (by omega)).trans g1, (e _ _ (by omega)).trans g2, (e _ _ (by omega)).trans g3, (e _ _ (by omega)).trans g4, (e _ _ (by omega)).trans g5, (e _ _ (by omega)).trans g6, (e _ _ (by omega)).trans g7, (e _ _ (by omega)).trans g8, (e _ _ (by omega)).trans g9, hs.1, hs.2.1, hs.2.2.1, hs.2.2.2.1, hs.2.2.2.2, set5_below g15 (by omega) _ _ _ _ _, fun o => ?_, fun o => ?_⟩
  all_goals (unfold set5; simp only [World.frozen?_setCell]; first | exact g16 o | exact g17 o)
end
set_option maxRecDepth 100000 in
set_option maxHeartbeats 4000000 in
theorem run_keys (n : Nat) (p : Option Addr) (l c : Nat) (pl : Option Addr) (ll cl : Nat) (w : World) (T : VT (n + 3)) (H : VT (n + 2)) (HS : Hid (Rep w (n + 3) (.agg #[.int .i64 4, .int .i64 0, .float .f64 0, .string ⟨#[]⟩, .slice p l c]) T))
    (HNM : Hid (∀ W, Below w.heap.size w W → Calls Try.prog 54 #[.slice p l c] W fun e w' => ∃ pu lu cu, e = .returned (.agg #[.int .i64 4, .int .i64 0, .float .f64 0, .string ⟨#[]⟩, .slice pu lu cu]) ∧ Below W.heap.size W w' ∧ ∀ y, Below w.heap.size w y → Stay W.heap.size w' y → Rep y (n + 2) (.agg #[.int .i64 4, .int .i64 0, .float .f64 0, .string ⟨#[]⟩, .slice pu lu cu]) H)) :
    Calls Try.prog 25 #[.agg #[.int .i64 4, .int .i64 0, .float .f64 0, .string ⟨#[]⟩, .slice p l c], .string { data := #[107, 101, 121, 115] }, .slice pl ll cl] w fun e w' => RunQ w (n + 3) (n + 2) T H 0 e w' := by
  obtain ⟨oa, hoa⟩ : ∃ o, Obj.cells #[.int .i64 4, .int .i64 0, .float .f64 0, .string ⟨#[]⟩, .slice p l c] 27 = o := ⟨_, rfl⟩
  obtain ⟨oz, hoz⟩ : ∃ o, Obj.cells #[.int .i64 0, .int .i64 0, .float .f64 0, .string ⟨#[]⟩, .slice none 0 0] 27 = o := ⟨_, rfl⟩
  have hB : Below w.heap.size w (((w.alloc oa).alloc oz).alloc oz) := bel_alloc (bel_alloc (bel_alloc (Below.refl w.heap.size w) oa) oz) oz
  have r0 := row_alloc_step (row_alloc_step (row_alloc w #[.int .i64 4, .int .i64 0, .float .f64 0, .string ⟨#[]⟩, .slice p l c] 27) oz) oz
  rw [hoa] at r0
  have r1 := row_alloc_step (row_alloc (w.alloc oa) #[.int .i64 0, .int .i64 0, .float .f64 0, .string ⟨#[]⟩, .slice none 0 0] 27) oz
  rw [hoz] at r1
  have r2 := row_alloc ((w.alloc oa).alloc oz) #[.int .i64 0, .int .i64 0, .float .f64 0, .string ⟨#[]⟩, .slice none 0 0] 27
  rw [hoz] at r2
  simp only [World.size_alloc] at r0 r1 r2
  have HB := Lib.hid hB
  subst hoa hoz
  have HG0 := Lib.hid (show RK p l c (.int .i64 0) (.int .i64 0) (.float .f64 0) (.string ⟨#[]⟩) (.slice none 0 0) (.int .i64 0) (.int .i64 0) (.float .f64 0) (.string ⟨#[]⟩) (.slice none 0 0) w (((w.alloc (.cells #[.int .i64 4, .int .i64 0, .float .f64 0, .string ⟨#[]⟩, .slice p l c] 27)).alloc (.cells #[.int .i64 0, .int .i64 0, .float .f64 0, .string ⟨#[]⟩, .slice none 0 0] 27)).alloc (.cells #[.int .i64 0, .int .i64 0, .float .f64 0, .string ⟨#[]⟩, .slice none 0 0] 27)) ∧ ((((w.alloc (.cells #[.int .i64 4, .int .i64 0, .float .f64 0, .string ⟨#[]⟩, .slice p l c] 27)).alloc (.cells #[.int .i64 0, .int .i64 0, .float .f64 0, .string ⟨#[]⟩, .slice none 0 0] 27)).alloc (.cells #[.int .i64 0, .int .i64 0, .float .f64 0, .string ⟨#[]⟩, .slice none 0 0] 27))).heap.size = w.heap.size + 1 + 1 + 1 from ⟨⟨row_cell r0 0, row_cell r0 1, row_cell r0 2, row_cell r0 3, row_cell r0 4, row_cell r1 0, row_cell r1 1, row_cell r1 2, row_cell r1 3, row_cell r1 4, row_cell r2 0, row_cell r2 1, row_cell r2 2, row_cell r2 3, row_cell r2 4, HB.out, fun o => row_frz r1 o, fun o => row_frz r2 o⟩, by simp only [World.size_alloc]⟩)
  clear r0 r1 r2 hB HB 
  go_enter Try.func25, Try.ntmps25
  go_upto_region 12 with fail
  revert HG0
  generalize (((w.alloc (.cells #[.int .i64 4, .int .i64 0, .float .f64 0, .string ⟨#[]⟩, .slice p l c] 27)).alloc (.cells #[.int .i64 0, .int .i64 0, .float .f64 0, .string ⟨#[]⟩, .slice none 0 0] 27)).alloc (.cells #[.int .i64 0, .int .i64 0, .float .f64 0, .string ⟨#[]⟩, .slice none 0 0] 27)) = Wz
  intro HG0
  have HP0 := Lib.hid HG0.out.1
  have hzw := HG0.out.2
  have hp0 := HP0.out
  have l0 : w.heap.size < Wz.heap.size := by omega
  refine wp_region_held_drew (S := (fun z => z.cell? ⟨w.heap.size, 0, none⟩ = some (.int .i64 4) ∧ z.cell? ⟨w.heap.size, 1, none⟩ = some (.int .i64 0) ∧ z.cell? ⟨w.heap.size, 2, none⟩ = some (.float .f64 0) ∧ z.cell? ⟨w.heap.size, 3, none⟩ = some (.string ⟨#[]⟩) ∧ z.cell? ⟨w.heap.size, 4, none⟩ = some (.slice p l c))) (by kernel_rfl) ?_ (fun hHeld => ?_)
  · exact rk_ro (rk_drew HP0.out)
  refine wpAnyH_take (i := 0) (oi := ?_) (v := ?_) ?hik0 (by kernel_rfl) ?hfk0 ?hrk0 ?hQk0 ?hyk0 (by assumption) ?restk0
  case hik0 => (simp only [List.getElem?_toArray, List.getElem?_cons_zero, List.getElem?_cons_succ]; rfl)
  case hfk0 => kernel_rfl
  case hrk0 => kernel_rfl
  case hyk0 => (refine Or.inl ⟨by rfl, ?_⟩; intro wS hSw; (try dsimp only at hSw); go_simp; (try with_reducible rfl))
  case hQk0 => exact fun _ _ _ h => h
  (try simp only [Act.put, List.setIfInBounds_toArray, List.set_cons_zero, List.set_cons_succ])
  refine wpAnyH_take (i := 1) (oi := ?_) (v := ?_) ?hik1 (by kernel_rfl) ?hfk1 ?hrk1 ?hQk1 ?hyk1 (by assumption) ?restk1
  case hik1 => (simp only [List.getElem?_toArray, List.getElem?_cons_zero, List.getElem?_cons_succ]; rfl)
  case hfk1 => kernel_rfl
  case hrk1 => kernel_rfl
  case hyk1 => (refine Or.inl ⟨by rfl, ?_⟩; intro wS hSw; (try dsimp only at hSw); go_simp; (try with_reducible rfl))
  case hQk1 => exact fun _ _ _ h => h
  (try simp only [Act.put, List.setIfInBounds_toArray, List.set_cons_zero, List.set_cons_succ])
  refine wpAnyH_take (i := 2) (oi := ?_) (v := ?_) ?hik2 (by kernel_rfl) ?hfk2 ?hrk2 ?hQk2 ?hyk2 (by assumption) ?restk2
  case hik2 => (simp only [List.getElem?_toArray, List.getElem?_cons_zero, List.getElem?_cons_succ]; rfl)
  case hfk2 => kernel_rfl
  case hrk2 => kernel_rfl
  case hyk2 => (refine Or.inl ⟨by rfl, ?_⟩; intro wS hSw; (try dsimp only at hSw); go_simp; (try with_reducible rfl))
  case hQk2 => exact fun _ _ _ h => h
  (try simp only [Act.put, List.setIfInBounds_toArray, List.set_cons_zero, List.set_cons_succ])
  refine wpAnyH_ready (rs := [3]) (by kernel_rfl) (by simp) ?_
  refine AllReadyH.cons (o := ?_) ?hok3 ?hstk3 AllReadyH.nil
  case hok3 => (simp only [List.getElem?_toArray, List.getElem?_cons_zero, List.getElem?_cons_succ]; rfl)
  intro K hK
  go_simp
  go_at_call 54; refine (HNM.out _ (rk_drew HP0.out).2.2.2.2.2.2.2.2.2.2.2.2.2.2.2.1).mono ?_; rintro e w10 ⟨pu, lu, cu, rfl, hb10, hu⟩; have hq10 := rk_step (rk_drew HP0.out) hb10; have HU := Lib.hid hu; have hzz := hb10.size; clear hb10 hu
  go_wp2_with fail
  refine hK.out _ _ ?hsk3 (fun hHeld => ?_)
  case hsk3 => exact rk_ro hq10
  clear hK K
  (try simp only [Act.put, List.setIfInBounds_toArray, List.set_cons_zero, List.set_cons_succ])
  refine wpAnyH_ready (rs := [4]) (by kernel_rfl) (by simp) ?_
  refine AllReadyH.cons (o := ?_) ?hok4 ?hstk4 AllReadyH.nil
  case hok4 => (simp only [List.getElem?_toArray, List.getElem?_cons_zero, List.getElem?_cons_succ]; rfl)
  intro K hK
  have b30 := hq10.2.2.2.2.2.1; have b31 := hq10.2.2.2.2.2.2.1; have b32 := hq10.2.2.2.2.2.2.2.1; have b33 := hq10.2.2.2.2.2.2.2.2.1; have b34 := hq10.2.2.2.2.2.2.2.2.2.1; have b3f := hq10.2.2.2.2.2.2.2.2.2.2.2.2.2.2.2.2.1; have b3l := cell_lt b30; go_simp
  have hq11 := rk_set1 hq10 (.int .i64 4) (.int .i64 0) (.float .f64 0) (.string ⟨#[]⟩) (.slice p l c); clear b30 b31 b32 b33 b34 b3f b3l
  go_wp2_with fail
  refine hK.out _ _ ?hsk4 (fun hHeld => ?_)
  case hsk4 => exact rk_ro hq11
  clear hK K
  (try simp only [Act.put, List.setIfInBounds_toArray, List.set_cons_zero, List.set_cons_succ])
  refine wpAnyH_ready (rs := [5]) (by kernel_rfl) (by simp) ?_
  refine AllReadyH.cons (o := ?_) ?hok5 ?hstk5 AllReadyH.nil
  case hok5 => (simp only [List.getElem?_toArray, List.getElem?_cons_zero, List.getElem?_cons_succ]; rfl)
  intro K hK
  have b40 := hq10.2.2.2.2.2.2.2.2.2.2.1; have b41 := hq10.2.2.2.2.2.2.2.2.2.2.2.1; have b42 := hq10.2.2.2.2.2.2.2.2.2.2.2.2.1; have b43 := hq10.2.2.2.2.2.2.2.2.2.2.2.2.2.1; have b44 := hq10.2.2.2.2.2.2.2.2.2.2.2.2.2.2.1; have b4f := hq10.2.2.2.2.2.2.2.2.2.2.2.2.2.2.2.2.2; have b4l := cell_lt b40; go_simp
  have hq12 := rk_set2 hq11 (.int .i64 4) (.int .i64 0) (.float .f64 0) (.string ⟨#[]⟩) (.slice pu lu cu); clear b40 b41 b42 b43 b44 b4f b4l
  go_wp2_with fail
  refine hK.out _ _ ?hsk5 (fun hHeld => ?_)
  case hsk5 => exact rk_ro hq12
  clear hK K
  (try simp only [Act.put, List.setIfInBounds_toArray, List.set_cons_zero, List.set_cons_succ])
  refine wpAnyH_take (i := 6) (oi := ?_) (v := ?_) ?hik6 (by kernel_rfl) ?hfk6 ?hrk6 ?hQk6 ?hyk6 (by assumption) ?restk6
  case hik6 => (simp only [List.getElem?_toArray, List.getElem?_cons_zero, List.getElem?_cons_succ]; rfl)
  case hfk6 => kernel_rfl
  case hrk6 => kernel_rfl
  case hyk6 => (refine Or.inl ⟨by rfl, ?_⟩; intro wS hSw; (try dsimp only at hSw); go_simp; (try with_reducible rfl))
  case hQk6 => exact fun _ _ _ h => h
  (try simp only [Act.put, List.setIfInBounds_toArray, List.set_cons_zero, List.set_cons_succ])
  refine wpAnyH_done (by kernel_rfl) ?_ _
  have HGF := Lib.hid (show RK p l c (.int .i64 4) (.int .i64 0) (.float .f64 0) (.string ⟨#[]⟩) (.slice p l c) (.int .i64 4) (.int .i64 0) (.float .f64 0) (.string ⟨#[]⟩) (.slice pu lu cu) w ((((((((((w10.setCell ⟨w.heap.size + 1, 0, none⟩ (.int .i64 4)).setCell ⟨w.heap.size + 1, 1, none⟩ (.int .i64 0)).setCell ⟨w.heap.size + 1, 2, none⟩ (.float .f64 0)).setCell ⟨w.heap.size + 1, 3, none⟩ (.string ⟨#[]⟩)).setCell ⟨w.heap.size + 1, 4, none⟩ (.slice p l c)).setCell ⟨w.heap.size + 1 + 1, 0, none⟩ (.int .i64 4)).setCell ⟨w.heap.size + 1 + 1, 1, none⟩ (.int .i64 0)).setCell ⟨w.heap.size + 1 + 1, 2, none⟩ (.float .f64 0)).setCell ⟨w.heap.size + 1 + 1, 3, none⟩ (.string ⟨#[]⟩)).setCell ⟨w.heap.size + 1 + 1, 4, none⟩ (.slice pu lu cu)) ∧ ∀ b : Nat, b ≠ w.heap.size + 1 → b ≠ w.heap.size + 1 + 1 → (((((((((((w10.setCell ⟨w.heap.size + 1, 0, none⟩ (.int .i64 4)).setCell ⟨w.heap.size + 1, 1, none⟩ (.int .i64 0)).setCell ⟨w.heap.size + 1, 2, none⟩ (.float .f64 0)).setCell ⟨w.heap.size + 1, 3, none⟩ (.string ⟨#[]⟩)).setCell ⟨w.heap.size + 1, 4, none⟩ (.slice p l c)).setCell ⟨w.heap.size + 1 + 1, 0, none⟩ (.int .i64 4)).setCell ⟨w.heap.size + 1 + 1, 1, none⟩ (.int .i64 0)).setCell ⟨w.heap.size + 1 + 1, 2, none⟩ (.float .f64 0)).setCell ⟨w.heap.size + 1 + 1, 3, none⟩ (.string ⟨#[]⟩)).setCell ⟨w.heap.size + 1 + 1, 4, none⟩ (.slice pu lu cu))).heap[b]? = w10.heap[b]? from ⟨hq12, fun b h1 h2 => (set5_other (w := set5 w10 (w.heap.size + 1) 0 (.int .i64 4) (.int .i64 0) (.float .f64 0) (.string ⟨#[]⟩) (.slice p l c)) (g := w.heap.size + 1 + 1) (o := 0) h2).trans (set5_other (g := w.heap.size + 1) (o := 0) h1)⟩)
  clear hq12 hq11 hHeld
  revert HGF
  generalize ((((((((((w10.setCell ⟨w.heap.size + 1, 0, none⟩ (.int .i64 4)).setCell ⟨w.heap.size + 1, 1, none⟩ (.int .i64 0)).setCell ⟨w.heap.size + 1, 2, none⟩ (.float .f64 0)).setCell ⟨w.heap.size + 1, 3, none⟩ (.string ⟨#[]⟩)).setCell ⟨w.heap.size + 1, 4, none⟩ (.slice p l c)).setCell ⟨w.heap.size + 1 + 1, 0, none⟩ (.int .i64 4)).setCell ⟨w.heap.size + 1 + 1, 1, none⟩ (.int .i64 0)).setCell ⟨w.heap.size + 1 + 1, 2, none⟩ (.float .f64 0)).setCell ⟨w.heap.size + 1 + 1, 3, none⟩ (.string ⟨#[]⟩)).setCell ⟨w.heap.size + 1 + 1, 4, none⟩ (.slice pu lu cu)) = Wf
  intro HGF
  have hqf := HGF.out.1
  have b30 := hqf.2.2.2.2.2.1
  have b31 := hqf.2.2.2.2.2.2.1
  have b32 := hqf.2.2.2.2.2.2.2.1
  have b33 := hqf.2.2.2.2.2.2.2.2.1
  have b34 := hqf.2.2.2.2.2.2.2.2.2.1
  have b40 := hqf.2.2.2.2.2.2.2.2.2.2.1
  have b41 := hqf.2.2.2.2.2.2.2.2.2.2.2.1
  have b42 := hqf.2.2.2.2.2.2.2.2.2.2.2.2.1
  have b43 := hqf.2.2.2.2.2.2.2.2.2.2.2.2.2.1
  have b44 := hqf.2.2.2.2.2.2.2.2.2.2.2.2.2.2.1
  clear hqf
  go_wp2
  refine bodyPost_ret (v := .tuple #[.agg #[.int .i64 4, .int .i64 0, .float .f64 0, .string ⟨#[]⟩, .slice p l c], .agg #[.int .i64 4, .int .i64 0, .float .f64 0, .string ⟨#[]⟩, .slice pu lu cu], .int .i64 0]) (by simp [results, Try.results25, go_sem, b30, b31, b32, b33, b34, b40, b41, b42, b43, b44]) rfl ⟨_, _, rfl, HGF.out.1.2.2.2.2.2.2.2.2.2.2.2.2.2.2.2.1, rep_keep HGF.out.1.2.2.2.2.2.2.2.2.2.2.2.2.2.2.2.1 _ _ _ HS.out, HU.out Wf HGF.out.1.2.2.2.2.2.2.2.2.2.2.2.2.2.2.2.1 (fun b h1 h2 => HGF.out.2 b (by rw [World.size_drew] at h1; omega) (by rw [World.size_drew] at h1; omega))⟩
set_option maxRecDepth 100000 in
set_option maxHeartbeats 4000000 in
theorem run_size (n : Nat) (p : Option Addr) (l c : Nat) (pl : Option Addr) (ll cl : Nat) (w : World) (T : VT (n + 3)) (HS : Hid (Rep w (n + 3) (.agg #[.int .i64 4, .int .i64 0, .float .f64 0, .string ⟨#[]⟩, .slice p l c]) T)) (hl : l ≤ 1000) :
    Calls Try.prog 25 #[.agg #[.int .i64 4, .int .i64 0, .float .f64 0, .string ⟨#[]⟩, .slice p l c], .string { data := #[115, 105, 122, 101] }, .slice pl ll cl] w fun e w' => RunQ w (n + 3) (n + 1) T (numT n l) 0 e w' := by
  obtain ⟨oa, hoa⟩ : ∃ o, Obj.cells #[.int .i64 4, .int .i64 0, .float .f64 0, .string ⟨#[]⟩, .slice p l c] 27 = o := ⟨_, rfl⟩
  obtain ⟨oz, hoz⟩ : ∃ o, Obj.cells #[.int .i64 0, .int .i64 0, .float .f64 0, .string ⟨#[]⟩, .slice none 0 0] 27 = o := ⟨_, rfl⟩
  have hB : Below w.heap.size w (((w.alloc oa).alloc oz).alloc oz) := bel_alloc (bel_alloc (bel_alloc (Below.refl w.heap.size w) oa) oz) oz
  have r0 := row_alloc_step (row_alloc_step (row_alloc w #[.int .i64 4, .int .i64 0, .float .f64 0, .string ⟨#[]⟩, .slice p l c] 27) oz) oz
  rw [hoa] at r0
  have r1 := row_alloc_step (row_alloc (w.alloc oa) #[.int .i64 0, .int .i64 0, .float .f64 0, .string ⟨#[]⟩, .slice none 0 0] 27) oz
  rw [hoz] at r1
  have r2 := row_alloc ((w.alloc oa).alloc oz) #[.int .i64 0, .int .i64 0, .float .f64 0, .string ⟨#[]⟩, .slice none 0 0] 27
  rw [hoz] at r2
  simp only [World.size_alloc] at r0 r1 r2
  have HB := Lib.hid hB
  subst hoa hoz
  have HG0 := Lib.hid (show RK p l c (.int .i64 0) (.int .i64 0) (.float .f64 0) (.string ⟨#[]⟩) (.slice none 0 0) (.int .i64 0) (.int .i64 0) (.float .f64 0) (.string ⟨#[]⟩) (.slice none 0 0) w (((w.alloc (.cells #[.int .i64 4, .int .i64 0, .float .f64 0, .string ⟨#[]⟩, .slice p l c] 27)).alloc (.cells #[.int .i64 0, .int .i64 0, .float .f64 0, .string ⟨#[]⟩, .slice none 0 0] 27)).alloc (.cells #[.int .i64 0, .int .i64 0, .float .f64 0, .string ⟨#[]⟩, .slice none 0 0] 27)) ∧ ((((w.alloc (.cells #[.int .i64 4, .int .i64 0, .float .f64 0, .string ⟨#[]⟩, .slice p l c] 27)).alloc (.cells #[.int .i64 0, .int .i64 0, .float .f64 0, .string ⟨#[]⟩, .slice none 0 0] 27)).alloc (.cells #[.int .i64 0, .int .i64 0, .float .f64 0, .string ⟨#[]⟩, .slice none 0 0] 27))).heap.size = w.heap.size + 1 + 1 + 1 from ⟨⟨row_cell r0 0, row_cell r0 1, row_cell r0 2, row_cell r0 3, row_cell r0 4, row_cell r1 0, row_cell r1 1, row_cell r1 2, row_cell r1 3, row_cell r1 4, row_cell r2 0, row_cell r2 1, row_cell r2 2, row_cell r2 3, row_cell r2 4, HB.out, fun o => row_frz r1 o, fun o => row_frz r2 o⟩, by simp only [World.size_alloc]⟩)
  clear r0 r1 r2 hB HB 
  go_enter Try.func25, Try.ntmps25
  go_upto_region 2 with fail
  revert HG0
  generalize (((w.alloc (.cells #[.int .i64 4, .int .i64 0, .float .f64 0, .string ⟨#[]⟩, .slice p l c] 27)).alloc (.cells #[.int .i64 0, .int .i64 0, .float .f64 0, .string ⟨#[]⟩, .slice none 0 0] 27)).alloc (.cells #[.int .i64 0, .int .i64 0, .float .f64 0, .string ⟨#[]⟩, .slice none 0 0] 27)) = Wz
  intro HG0
  have HP0 := Lib.hid HG0.out.1
  have hzw := HG0.out.2
  have hp0 := HP0.out
  have l0 : w.heap.size < Wz.heap.size := by omega
  refine wp_region_held_drew (S := (fun z => z.cell? ⟨w.heap.size, 0, none⟩ = some (.int .i64 4) ∧ z.cell? ⟨w.heap.size, 1, none⟩ = some (.int .i64 0) ∧ z.cell? ⟨w.heap.size, 2, none⟩ = some (.float .f64 0) ∧ z.cell? ⟨w.heap.size, 3, none⟩ = some (.string ⟨#[]⟩) ∧ z.cell? ⟨w.heap.size, 4, none⟩ = some (.slice p l c))) (by kernel_rfl) ?_ (fun hHeld => ?_)
  · exact rk_ro (rk_drew HP0.out)
  have HDW := Lib.hid (rk_drew HP0.out)
  have hdz : Wz.drew.heap.size = Wz.heap.size := rfl
  revert HDW hHeld hdz
  generalize Wz.drew = Wd
  intro hHeld HDW hdz
  refine wpAnyH_take (i := 0) (oi := ?_) (v := ?_) ?hiz0 (by kernel_rfl) ?hfz0 ?hrz0 ?hQz0 ?hyz0 (by assumption) ?restz0
  case hiz0 => (simp only [List.getElem?_toArray, List.getElem?_cons_zero, List.getElem?_cons_succ]; rfl)
  case hfz0 => kernel_rfl
  case hrz0 => kernel_rfl
  case hyz0 => (refine Or.inl ⟨by rfl, ?_⟩; intro wS hSw; (try dsimp only at hSw); go_simp; (try with_reducible rfl))
  case hQz0 => exact fun _ _ _ h => h
  (try simp only [Act.put, List.setIfInBounds_toArray, List.set_cons_zero, List.set_cons_succ])
  refine wpAnyH_take (i := 1) (oi := ?_) (v := ?_) ?hiz1 (by kernel_rfl) ?hfz1 ?hrz1 ?hQz1 ?hyz1 (by assumption) ?restz1
  case hiz1 => (simp only [List.getElem?_toArray, List.getElem?_cons_zero, List.getElem?_cons_succ]; rfl)
  case hfz1 => kernel_rfl
  case hrz1 => kernel_rfl
  case hyz1 => (refine Or.inl ⟨by rfl, ?_⟩; intro wS hSw; (try dsimp only at hSw); go_simp; (try with_reducible rfl))
  case hQz1 => exact fun _ _ _ h => h
  (try simp only [Act.put, List.setIfInBounds_toArray, List.set_cons_zero, List.set_cons_succ])
  refine wpAnyH_take (i := 2) (oi := ?_) (v := ?_) ?hiz2 (by kernel_rfl) ?hfz2 ?hrz2 ?hQz2 ?hyz2 (by assumption) ?restz2
  case hiz2 => (simp only [List.getElem?_toArray, List.getElem?_cons_zero, List.getElem?_cons_succ]; rfl)
  case hfz2 => kernel_rfl
  case hrz2 => kernel_rfl
  case hyz2 => (refine Or.inl ⟨by rfl, ?_⟩; intro wS hSw; (try dsimp only at hSw); go_simp; (try with_reducible rfl))
  case hQz2 => exact fun _ _ _ h => h
  (try simp only [Act.put, List.setIfInBounds_toArray, List.set_cons_zero, List.set_cons_succ])
  refine wpAnyH_take (i := 3) (oi := ?_) (v := ?_) ?hiz3 (by kernel_rfl) ?hfz3 ?hrz3 ?hQz3 ?hyz3 (by assumption) ?restz3
  case hiz3 => (simp only [List.getElem?_toArray, List.getElem?_cons_zero, List.getElem?_cons_succ]; rfl)
  case hfz3 => kernel_rfl
  case hrz3 => kernel_rfl
  case hyz3 => (refine Or.inl ⟨by rfl, ?_⟩; intro wS hSw; (try dsimp only at hSw); go_simp; (try with_reducible rfl))
  case hQz3 => exact fun _ _ _ h => h
  (try simp only [Act.put, List.setIfInBounds_toArray, List.set_cons_zero, List.set_cons_succ])
  refine wpAnyH_take (i := 4) (oi := ?_) (v := ?_) ?hiz4 (by kernel_rfl) ?hfz4 ?hrz4 ?hQz4 ?hyz4 (by assumption) ?restz4
  case hiz4 => (simp only [List.getElem?_toArray, List.getElem?_cons_zero, List.getElem?_cons_succ]; rfl)
  case hfz4 => kernel_rfl
  case hrz4 => kernel_rfl
  case hyz4 => (refine Or.inl ⟨by rfl, ?_⟩; intro wS hSw; (try dsimp only at hSw); go_simp; (try with_reducible rfl))
  case hQz4 => exact fun _ _ _ h => h
  (try simp only [Act.put, List.setIfInBounds_toArray, List.set_cons_zero, List.set_cons_succ])
  refine wpAnyH_ready (rs := [5]) (by kernel_rfl) (by simp) ?_
  refine AllReadyH.cons (o := ?_) ?hoz5 ?hstz5 AllReadyH.nil
  case hoz5 => (simp only [List.getElem?_toArray, List.getElem?_cons_zero, List.getElem?_cons_succ]; rfl)
  intro K hK
  have hqd := HDW.out; have b30 := hqd.2.2.2.2.2.1; have b31 := hqd.2.2.2.2.2.2.1; have b32 := hqd.2.2.2.2.2.2.2.1; have b33 := hqd.2.2.2.2.2.2.2.2.1; have b34 := hqd.2.2.2.2.2.2.2.2.2.1; have b3f := hqd.2.2.2.2.2.2.2.2.2.2.2.2.2.2.2.2.1; have b3l := cell_lt b30; go_simp
  have hq11 := rk_set1 hqd (.int .i64 4) (.int .i64 0) (.float .f64 0) (.string ⟨#[]⟩) (.slice p l c); clear b30 b31 b32 b33 b34 b3f b3l
  go_wp2_with fail
  refine hK.out _ _ ?hsz5 (fun hHeld => ?_)
  case hsz5 => exact rk_ro hq11
  clear hK K
  (try simp only [Act.put, List.setIfInBounds_toArray, List.set_cons_zero, List.set_cons_succ])
  refine wpAnyH_ready (rs := [6]) (by kernel_rfl) (by simp) ?_
  refine AllReadyH.cons (o := ?_) ?hoz6 ?hstz6 AllReadyH.nil
  case hoz6 => (simp only [List.getElem?_toArray, List.getElem?_cons_zero, List.getElem?_cons_succ]; rfl)
  intro K hK
  have b40 := hqd.2.2.2.2.2.2.2.2.2.2.1; have b41 := hqd.2.2.2.2.2.2.2.2.2.2.2.1; have b42 := hqd.2.2.2.2.2.2.2.2.2.2.2.2.1; have b43 := hqd.2.2.2.2.2.2.2.2.2.2.2.2.2.1; have b44 := hqd.2.2.2.2.2.2.2.2.2.2.2.2.2.2.1; have b4f := hqd.2.2.2.2.2.2.2.2.2.2.2.2.2.2.2.2.2; have b4l := cell_lt b40; go_simp
  have hq12 := rk_set2 hq11 (.int .i64 1) (.int .i64 l) (.float .f64 0) (.string ⟨#[]⟩) (.slice none 0 0); clear b40 b41 b42 b43 b44 b4f b4l
  go_wp2_with fail
  refine hK.out _ _ ?hsz6 (fun hHeld => ?_)
  case hsz6 => exact rk_ro hq12
  clear hK K
  (try simp only [Act.put, List.setIfInBounds_toArray, List.set_cons_zero, List.set_cons_succ])
  refine wpAnyH_take (i := 7) (oi := ?_) (v := ?_) ?hiz7 (by kernel_rfl) ?hfz7 ?hrz7 ?hQz7 ?hyz7 (by assumption) ?restz7
  case hiz7 => (simp only [List.getElem?_toArray, List.getElem?_cons_zero, List.getElem?_cons_succ]; rfl)
  case hfz7 => kernel_rfl
  case hrz7 => kernel_rfl
  case hyz7 => (refine Or.inl ⟨by rfl, ?_⟩; intro wS hSw; (try dsimp only at hSw); go_simp; (try with_reducible rfl))
  case hQz7 => exact fun _ _ _ h => h
  (try simp only [Act.put, List.setIfInBounds_toArray, List.set_cons_zero, List.set_cons_succ])
  refine wpAnyH_done (by kernel_rfl) ?_ _
  have HGF := Lib.hid (show RK p l c (.int .i64 4) (.int .i64 0) (.float .f64 0) (.string ⟨#[]⟩) (.slice p l c) (.int .i64 1) (.int .i64 l) (.float .f64 0) (.string ⟨#[]⟩) (.slice none 0 0) w ((((((((((Wd.setCell ⟨w.heap.size + 1, 0, none⟩ (.int .i64 4)).setCell ⟨w.heap.size + 1, 1, none⟩ (.int .i64 0)).setCell ⟨w.heap.size + 1, 2, none⟩ (.float .f64 0)).setCell ⟨w.heap.size + 1, 3, none⟩ (.string ⟨#[]⟩)).setCell ⟨w.heap.size + 1, 4, none⟩ (.slice p l c)).setCell ⟨w.heap.size + 1 + 1, 0, none⟩ (.int .i64 1)).setCell ⟨w.heap.size + 1 + 1, 1, none⟩ (.int .i64 l)).setCell ⟨w.heap.size + 1 + 1, 2, none⟩ (.float .f64 0)).setCell ⟨w.heap.size + 1 + 1, 3, none⟩ (.string ⟨#[]⟩)).setCell ⟨w.heap.size + 1 + 1, 4, none⟩ (.slice none 0 0)) ∧ ∀ b : Nat, b ≠ w.heap.size + 1 → b ≠ w.heap.size + 1 + 1 → (((((((((((Wd.setCell ⟨w.heap.size + 1, 0, none⟩ (.int .i64 4)).setCell ⟨w.heap.size + 1, 1, none⟩ (.int .i64 0)).setCell ⟨w.heap.size + 1, 2, none⟩ (.float .f64 0)).setCell ⟨w.heap.size + 1, 3, none⟩ (.string ⟨#[]⟩)).setCell ⟨w.heap.size + 1, 4, none⟩ (.slice p l c)).setCell ⟨w.heap.size + 1 + 1, 0, none⟩ (.int .i64 1)).setCell ⟨w.heap.size + 1 + 1, 1, none⟩ (.int .i64 l)).setCell ⟨w.heap.size + 1 + 1, 2, none⟩ (.float .f64 0)).setCell ⟨w.heap.size + 1 + 1, 3, none⟩ (.string ⟨#[]⟩)).setCell ⟨w.heap.size + 1 + 1, 4, none⟩ (.slice none 0 0))).heap[b]? = Wd.heap[b]? from ⟨hq12, fun b h1 h2 => (set5_other (w := set5 Wd (w.heap.size + 1) 0 (.int .i64 4) (.int .i64 0) (.float .f64 0) (.string ⟨#[]⟩) (.slice p l c)) (g := w.heap.size + 1 + 1) (o := 0) h2).trans (set5_other (g := w.heap.size + 1) (o := 0) h1)⟩)
  clear hq12 hq11 hHeld
  revert HGF
  generalize ((((((((((Wd.setCell ⟨w.heap.size + 1, 0, none⟩ (.int .i64 4)).setCell ⟨w.heap.size + 1, 1, none⟩ (.int .i64 0)).setCell ⟨w.heap.size + 1, 2, none⟩ (.float .f64 0)).setCell ⟨w.heap.size + 1, 3, none⟩ (.string ⟨#[]⟩)).setCell ⟨w.heap.size + 1, 4, none⟩ (.slice p l c)).setCell ⟨w.heap.size + 1 + 1, 0, none⟩ (.int .i64 1)).setCell ⟨w.heap.size + 1 + 1, 1, none⟩ (.int .i64 l)).setCell ⟨w.heap.size + 1 + 1, 2, none⟩ (.float .f64 0)).setCell ⟨w.heap.size + 1 + 1, 3, none⟩ (.string ⟨#[]⟩)).setCell ⟨w.heap.size + 1 + 1, 4, none⟩ (.slice none 0 0)) = Wf
  intro HGF
  have hqf := HGF.out.1
  have b30 := hqf.2.2.2.2.2.1
  have b31 := hqf.2.2.2.2.2.2.1
  have b32 := hqf.2.2.2.2.2.2.2.1
  have b33 := hqf.2.2.2.2.2.2.2.2.1
  have b34 := hqf.2.2.2.2.2.2.2.2.2.1
  have b40 := hqf.2.2.2.2.2.2.2.2.2.2.1
  have b41 := hqf.2.2.2.2.2.2.2.2.2.2.2.1
  have b42 := hqf.2.2.2.2.2.2.2.2.2.2.2.2.1
  have b43 := hqf.2.2.2.2.2.2.2.2.2.2.2.2.2.1
  have b44 := hqf.2.2.2.2.2.2.2.2.2.2.2.2.2.2.1
  clear hqf
  go_wp2
  refine bodyPost_ret (v := .tuple #[.agg #[.int .i64 4, .int .i64 0, .float .f64 0, .string ⟨#[]⟩, .slice p l c], .agg #[.int .i64 1, .int .i64 l, .float .f64 0, .string ⟨#[]⟩, .slice none 0 0], .int .i64 0]) (by simp [results, Try.results25, go_sem, b30, b31, b32, b33, b34, b40, b41, b42, b43, b44]) rfl ⟨_, _, rfl, HGF.out.1.2.2.2.2.2.2.2.2.2.2.2.2.2.2.2.1, rep_keep HGF.out.1.2.2.2.2.2.2.2.2.2.2.2.2.2.2.2.1 _ _ _ HS.out, leafR _ n 1 l 0 ⟨#[]⟩ (by decide) (by unfold okI; omega) (by decide) (by decide)⟩
end Num
end Go.Proofs.Ytamogpbbaihaaaa
