/-
  Package table: del; put where there is no room.
-/
import Derived.Test.YtamogpbbaihaaaaQG
import Derived.Deep.RegionHeld3
import Derived.RegionTactic
import Derived.Deep.DeepCutAuto
namespace Go.Proofs.Ytamogpbbaihaaaa
open Go.RowKit
namespace Num
open Ints
set_option linter.unusedSimpArgs false
set_option linter.unusedVariables false
/-- What del keeps: its boxes. -/
def PD (p : Option Addr) (l c : Nat) (k : ByteArray) (q : Option Addr) (d : Nat) (x0 x1 x2 x3 x4 y0 y1 y2 y3 y4 : Value) (w z : World) : Prop := z.cell? ⟨w.heap.size, 4, none⟩ = some (.slice p l c) ∧ z.cell? ⟨w.heap.size + 1, 0, none⟩ = some (.int .i64 3) ∧ z.cell? ⟨w.heap.size + 1, 1, none⟩ = some (.int .i64 0) ∧ z.cell? ⟨w.heap.size + 1, 2, none⟩ = some (.float .f64 0) ∧ z.cell? ⟨w.heap.size + 1, 3, none⟩ = some (.string k) ∧ z.cell? ⟨w.heap.size + 1, 4, none⟩ = some (.slice q 0 d) ∧ z.cell? ⟨w.heap.size + 1 + 1, 0, none⟩ = some (x0) ∧ z.cell? ⟨w.heap.size + 1 + 1, 1, none⟩ = some (x1) ∧ z.cell? ⟨w.heap.size + 1 + 1, 2, none⟩ = some (x2) ∧ z.cell? ⟨w.heap.size + 1 + 1, 3, none⟩ = some (x3) ∧ z.cell? ⟨w.heap.size + 1 + 1, 4, none⟩ = some (x4) ∧ z.cell? ⟨w.heap.size + 1 + 1 + 1, 0, none⟩ = some (y0) ∧ z.cell? ⟨w.heap.size + 1 + 1 + 1, 1, none⟩ = some (y1) ∧ z.cell? ⟨w.heap.size + 1 + 1 + 1, 2, none⟩ = some (y2) ∧ z.cell? ⟨w.heap.size + 1 + 1 + 1, 3, none⟩ = some (y3) ∧ z.cell? ⟨w.heap.size + 1 + 1 + 1, 4, none⟩ = some (y4) ∧ Below w.heap.size w z ∧ (∀ o, z.frozen? ⟨w.heap.size + 1 + 1, o, none⟩ = false) ∧ (∀ o, z.frozen? ⟨w.heap.size + 1 + 1 + 1, o, none⟩ = false)
section
variable {p : Option Addr} {l c : Nat} {k : ByteArray} {q : Option Addr} {d : Nat} {x0 x1 x2 x3 x4 y0 y1 y2 y3 y4 : Value} {w x y : World}
theorem pd_step (h : PD p l c k q d x0 x1 x2 x3 x4 y0 y1 y2 y3 y4 w x) (hb : Below x.heap.size x y) : PD p l c k q d x0 x1 x2 x3 x4 y0 y1 y2 y3 y4 w y :=
  ⟨cell_keep hb h.1, cell_keep hb h.2.1, cell_keep hb h.2.2.1, cell_keep hb h.2.2.2.1, cell_keep hb h.2.2.2.2.1, cell_keep hb h.2.2.2.2.2.1, cell_keep hb h.2.2.2.2.2.2.1, cell_keep hb h.2.2.2.2.2.2.2.1, cell_keep hb h.2.2.2.2.2.2.2.2.1, cell_keep hb h.2.2.2.2.2.2.2.2.2.1, cell_keep hb h.2.2.2.2.2.2.2.2.2.2.1, cell_keep hb h.2.2.2.2.2.2.2.2.2.2.2.1, cell_keep hb h.2.2.2.2.2.2.2.2.2.2.2.2.1, cell_keep hb h.2.2.2.2.2.2.2.2.2.2.2.2.2.1, cell_keep hb h.2.2.2.2.2.2.2.2.2.2.2.2.2.2.1, cell_keep hb h.2.2.2.2.2.2.2.2.2.2.2.2.2.2.2.1, bel_step h.2.2.2.2.2.2.2.2.2.2.2.2.2.2.2.2.1 hb, fun o => (hb.frozen (p := ⟨w.heap.size + 1 + 1, o, none⟩) (show w.heap.size + 1 + 1 < x.heap.size from cell_lt h.2.2.2.2.2.2.1)).trans (h.2.2.2.2.2.2.2.2.2.2.2.2.2.2.2.2.2.1 o), fun o => (hb.frozen (p := ⟨w.heap.size + 1 + 1 + 1, o, none⟩) (show w.heap.size + 1 + 1 + 1 < x.heap.size from cell_lt h.2.2.2.2.2.2.2.2.2.2.2.1)).trans (h.2.2.2.2.2.2.2.2.2.2.2.2.2.2.2.2.2.2 o)⟩
theorem pd_ro (h : PD p l c k q d x0 x1 x2 x3 x4 y0 y1 y2 y3 y4 w x) : x.cell? ⟨w.heap.size, 4, none⟩ = some (.slice p l c) ∧ x.cell? ⟨w.heap.size + 1, 0, none⟩ = some (.int .i64 3) ∧ x.cell? ⟨w.heap.size + 1, 1, none⟩ = some (.int .i64 0) ∧ x.cell? ⟨w.heap.size + 1, 2, none⟩ = some (.float .f64 0) ∧ x.cell? ⟨w.heap.size + 1, 3, none⟩ = some (.string k) ∧ x.cell? ⟨w.heap.size + 1, 4, none⟩ = some (.slice q 0 d) := ⟨h.1, h.2.1, h.2.2.1, h.2.2.2.1, h.2.2.2.2.1, h.2.2.2.2.2.1⟩
theorem pd_r1 (h : PD p l c k q d x0 x1 x2 x3 x4 y0 y1 y2 y3 y4 w x) : x.cell? ⟨w.heap.size, 4, none⟩ = some (.slice p l c) ∧ x.cell? ⟨w.heap.size + 1, 0, none⟩ = some (.int .i64 3) ∧ x.cell? ⟨w.heap.size + 1, 1, none⟩ = some (.int .i64 0) ∧ x.cell? ⟨w.heap.size + 1, 2, none⟩ = some (.float .f64 0) ∧ x.cell? ⟨w.heap.size + 1, 3, none⟩ = some (.string k) ∧ x.cell? ⟨w.heap.size + 1, 4, none⟩ = some (.slice q 0 d) ∧ x.cell? ⟨w.heap.size + 1 + 1, 0, none⟩ = some (x0) ∧ x.cell? ⟨w.heap.size + 1 + 1, 1, none⟩ = some (x1) ∧ x.cell? ⟨w.heap.size + 1 + 1, 2, none⟩ = some (x2) ∧ x.cell? ⟨w.heap.size + 1 + 1, 3, none⟩ = some (x3) ∧ x.cell? ⟨w.heap.size + 1 + 1, 4, none⟩ = some (x4) := ⟨h.1, h.2.1, h.2.2.1, h.2.2.2.1, h.2.2.2.2.1, h.2.2.2.2.2.1, h.2.2.2.2.2.2.1, h.2.2.2.2.2.2.2.1, h.2.2.2.2.2.2.2.2.1, h.2.2.2.2.2.2.2.2.2.1, h.2.2.2.2.2.2.2.2.2.2.1⟩
theorem pd_all (h : PD p l c k q d x0 x1 x2 x3 x4 y0 y1 y2 y3 y4 w x) : x.cell? ⟨w.heap.size, 4, none⟩ = some (.slice p l c) ∧ x.cell? ⟨w.heap.size + 1, 0, none⟩ = some (.int .i64 3) ∧ x.cell? ⟨w.heap.size + 1, 1, none⟩ = some (.int .i64 0) ∧ x.cell? ⟨w.heap.size + 1, 2, none⟩ = some (.float .f64 0) ∧ x.cell? ⟨w.heap.size + 1, 3, none⟩ = some (.string k) ∧ x.cell? ⟨w.heap.size + 1, 4, none⟩ = some (.slice q 0 d) ∧ x.cell? ⟨w.heap.size + 1 + 1, 0, none⟩ = some (x0) ∧ x.cell? ⟨w.heap.size + 1 + 1, 1, none⟩ = some (x1) ∧ x.cell? ⟨w.heap.size + 1 + 1, 2, none⟩ = some (x2) ∧ x.cell? ⟨w.heap.size + 1 + 1, 3, none⟩ = some (x3) ∧ x.cell? ⟨w.heap.size + 1 + 1, 4, none⟩ = some (x4) ∧ x.cell? ⟨w.heap.size + 1 + 1 + 1, 0, none⟩ = some (y0) ∧ x.cell? ⟨w.heap.size + 1 + 1 + 1, 1, none⟩ = some (y1) ∧ x.cell? ⟨w.heap.size + 1 + 1 + 1, 2, none⟩ = some (y2) ∧ x.cell? ⟨w.heap.size + 1 + 1 + 1, 3, none⟩ = some (y3) ∧ x.cell? ⟨w.heap.size + 1 + 1 + 1, 4, none⟩ = some (y4) := ⟨h.1, h.2.1, h.2.2.1, h.2.2.2.1, h.2.2.2.2.1, h.2.2.2.2.2.1, h.2.2.2.2.2.2.1, h.2.2.2.2.2.2.2.1, h.2.2.2.2.2.2.2.2.1, h.2.2.2.2.2.2.2.2.2.1, h.2.2.2.2.2.2.2.2.2.2.1, h.2.2.2.2.2.2.2.2.2.2.2.1, h.2.2.2.2.2.2.2.2.2.2.2.2.1, h.2.2.2.2.2.2.2.2.2.2.2.2.2.1, h.2.2.2.2.2.2.2.2.2.2.2.2.2.2.1, h.2.2.2.2.2.2.2.2.2.2.2.2.2.2.2.1⟩
theorem pd_drew (h : PD p l c k q d x0 x1 x2 x3 x4 y0 y1 y2 y3 y4 w x) : PD p l c k q d x0 x1 x2 x3 x4 y0 y1 y2 y3 y4 w x.drew := pd_step h (Below.drew (Below.refl _ _))
theorem pd_set1 (h : PD p l c k q d x0 x1 x2 x3 x4 y0 y1 y2 y3 y4 w x) (u0 u1 u2 u3 u4 : Value) : PD p l c k q d u0 u1 u2 u3 u4 y0 y1 y2 y3 y4 w (set5 x (w.heap.size + 1 + 1) 0 u0 u1 u2 u3 u4) := by
  have e : ∀ c i, c ≠ w.heap.size + 1 + 1 → (set5 x (w.heap.size + 1 + 1) 0 u0 u1 u2 u3 u4).cell? ⟨c, i, none⟩ = x.cell? ⟨c, i, none⟩ := fun c i hc => World.cell?_of_block (set5_other hc)
  have hs := set5_same (g := w.heap.size + 1 + 1) (o := 0) u0 u1 u2 u3 u4 h.2.2.2.2.2.2.1 h.2.2.2.2.2.2.2.1 h.2.2.2.2.2.2.2.2.1 h.2.2.2.2.2.2.2.2.2.1 h.2.2.2.2.2.2.2.2.2.2.1
  unfold PD at h ⊢
  obtain ⟨g0, g1, g2, g3, g4, g5, g6, g7, g8, g9, g10, g11, g12, g13, g14, g15, g16, g17, g18⟩ := h
  refine ⟨(e _ _ (by omega)).trans g0, (e _ _ (by omega)).trans g1, (e _ _ (by omega)).trans g2, (e _ _ (by omega)).trans g3, (e _ _ (by omega)).trans g4, (e _ _ (by omega)).trans g5, hs.1, hs.2.1, hs.2.2.1, hs.2.2.2.1, hs.2.2.2.2, (e _ _ (by omega)).trans g11, (e _ _ (by omega)).trans g12, (e _ _ (by omega)).trans g13, (e _ _ (by omega)).trans g14, (e _ _ (by omega)).trans g15, set5_below g16 (by omega) _ _ _ _ _, fun o => ?_, fun o => ?_⟩
  all_goals (unfold set5; simp only [World.frozen?_setCell]; first | exact g17 o | exact g18 o)
theorem pd_set2 (h : PD p l c k q d x0 x1 x2 x3 x4 y0 y1 y2 y3 y4 w x) (u0 u1 u2 u3 u4 : Value) : PD p l c k q d x0 x1 x2 x3 x4 u0 u1 u2 u3 u4 w (set5 x (w.heap.size + 1 + 1 + 1) 0 u0 u1 u2 u3 u4) := by
  have e : ∀ c i, c ≠ w.heap.size + 1 + 1 + 1 → (set5 x (w.heap.size + 1 + 1 + 1) 0 u0 u1 u2 u3 u4).cell? ⟨c, i, none⟩ = x.cell? ⟨c, i, none⟩ := fun c i hc => World.cell?_of_block (set5_other hc)
  have hs := set5_same (g := w.heap.size + 1 + 1 + 1) (o := 0) u0 u1 u2 u3 u4 h.2.2.2.2.2.2.2.2.2.2.2.1 h.2.2.2.2.2.2.2.2.2.2.2.2.1 h.2.2.2.2.2.2.2.2.2.2.2.2.2.1 h.2.2.2.2.2.2.2.2.2.2.2.2.2.2.1 h.2.2.2.2.2.2.2.2.2.2.2.2.2.2.2.1
  unfold PD at h ⊢
  obtain ⟨g0, g1, g2, g3, g4, g5, g6, g7, g8, g9, g10, g11, g12, g13, g14, g15, g16, g17, g18⟩ := h
  refine ⟨(e _ _ (by omega)).trans g0, (e _ _ (by omega)).trans g1, (e _ _ (by omega)).trans g2, (e _ _ (by omega)).trans g3, (e _ _ (by omega)).trans g4, (e _ _ (by omega)).trans g5, (e _ _ (by omega)).trans g6, (e _ _ (by omega)).trans g7, (e _ _ (by omega)).trans g8, (e _ _ (by omega)).trans g9, (e _ _ (by omega)).trans g10, hs.1, hs.2.1, hs.2.2.1, hs.2.2.2.1, hs.2.2.2.2, set5_below g16 (by omega) _ _ _ _ _, fun o => ?_, fun o => ?_⟩
  all_goals (unfold set5; simp only [World.frozen?_setCell]; first | exact g17 o | exact g18 o)
end
set_option maxRecDepth 100000 in
set_option maxHeartbeats 4000000 in
theorem tdel_ok (n : Nat) (p : Option Addr) (l c : Nat) (k : ByteArray) (q : Option Addr) (d : Nat) (a bh : Nat) (L : List (VT (n + 2))) (H : VT (n + 1)) (q9 : Option Addr) (w0 w : World) (HBW : Hid (Below w0.heap.size w0 w)) (hl : l ≤ 32) (hab : a ≤ bh) (hbl : bh ≤ l) (hlc : l ≤ c)
    (HL : Hid (RepL w0 (Rep w0 (n + 2)) p l c L)) (HF : Hid (∀ W, Below w.heap.size w W → Calls Try.prog 52 #[.slice p l c, .string k] W fun e w' => e = .returned (.tuple #[.int .i64 a, .int .i64 bh]) ∧ Below W.heap.size W w'))
    (HH : Hid (∀ W, Below w.heap.size w W → Calls Try.prog 53 #[.slice q9 (bh - a) (c - a)] W fun e w' => ∃ u, e = .returned u ∧ Below W.heap.size W w' ∧ Rep w0 (n + 1) u H))
    (hq9 : (if c = a then p else p.map (·.add (a * 5))) = q9) :
    Calls Try.prog 51 #[.agg #[.int .i64 4, .int .i64 0, .float .f64 0, .string ⟨#[]⟩, .slice p l c], .agg #[.int .i64 3, .int .i64 0, .float .f64 0, .string k, .slice q 0 d]] w fun e w' => ∃ t u, e = .returned (.tuple #[t, u]) ∧ Below w.heap.size w w' ∧ (∀ y, Below w0.heap.size w0 y → Stay w.heap.size w' y → Rep y (n + 3) t (4, 0, 0, ⟨#[]⟩, L.take a ++ ([] ++ L.drop bh))) ∧ Rep w0 (n + 1) u H := by
  obtain ⟨oa, hoa⟩ : ∃ o, Obj.cells #[.int .i64 4, .int .i64 0, .float .f64 0, .string ⟨#[]⟩, .slice p l c] 27 = o := ⟨_, rfl⟩
  obtain ⟨ob, hob⟩ : ∃ o, Obj.cells #[.int .i64 3, .int .i64 0, .float .f64 0, .string k, .slice q 0 d] 27 = o := ⟨_, rfl⟩
  obtain ⟨oz, hoz⟩ : ∃ o, Obj.cells #[.int .i64 0, .int .i64 0, .float .f64 0, .string ⟨#[]⟩, .slice none 0 0] 27 = o := ⟨_, rfl⟩
  have hB : Below w.heap.size w ((((w.alloc oa).alloc ob).alloc oz).alloc oz) := bel_alloc (bel_alloc (bel_alloc (bel_alloc (Below.refl w.heap.size w) oa) ob) oz) oz
  have r0 := row_alloc_step (row_alloc_step (row_alloc_step (row_alloc w #[.int .i64 4, .int .i64 0, .float .f64 0, .string ⟨#[]⟩, .slice p l c] 27) ob) oz) oz
  rw [hoa] at r0
  have r1 := row_alloc_step (row_alloc_step (row_alloc (w.alloc oa) #[.int .i64 3, .int .i64 0, .float .f64 0, .string k, .slice q 0 d] 27) oz) oz
  rw [hob] at r1
  have r2 := row_alloc_step (row_alloc ((w.alloc oa).alloc ob) #[.int .i64 0, .int .i64 0, .float .f64 0, .string ⟨#[]⟩, .slice none 0 0] 27) oz
  rw [hoz] at r2
  have r3 := row_alloc (((w.alloc oa).alloc ob).alloc oz) #[.int .i64 0, .int .i64 0, .float .f64 0, .string ⟨#[]⟩, .slice none 0 0] 27
  rw [hoz] at r3
  simp only [World.size_alloc] at r0 r1 r2 r3
  have HB := Lib.hid hB
  subst hoa hob hoz
  have HP0 := Lib.hid (show PD p l c k q d (.int .i64 0) (.int .i64 0) (.float .f64 0) (.string ⟨#[]⟩) (.slice none 0 0) (.int .i64 0) (.int .i64 0) (.float .f64 0) (.string ⟨#[]⟩) (.slice none 0 0) w ((((w.alloc (.cells #[.int .i64 4, .int .i64 0, .float .f64 0, .string ⟨#[]⟩, .slice p l c] 27)).alloc (.cells #[.int .i64 3, .int .i64 0, .float .f64 0, .string k, .slice q 0 d] 27)).alloc (.cells #[.int .i64 0, .int .i64 0, .float .f64 0, .string ⟨#[]⟩, .slice none 0 0] 27)).alloc (.cells #[.int .i64 0, .int .i64 0, .float .f64 0, .string ⟨#[]⟩, .slice none 0 0] 27)) from ⟨row_cell r0 4, row_cell r1 0, row_cell r1 1, row_cell r1 2, row_cell r1 3, row_cell r1 4, row_cell r2 0, row_cell r2 1, row_cell r2 2, row_cell r2 3, row_cell r2 4, row_cell r3 0, row_cell r3 1, row_cell r3 2, row_cell r3 3, row_cell r3 4, HB.out, fun o => row_frz r2 o, fun o => row_frz r3 o⟩)
  clear r0 r1 r2 r3 hB
  have ha0 : (0 : Int) ≤ (a : Int) := by omega
  have hab2 : (a : Int) ≤ (bh : Int) := by omega
  have hbc : (bh : Int) ≤ (c : Int) := by omega
  go_enter Try.func51, Try.ntmps51
  go_wp2_with fail
  go_at_call 52; refine (HF.out _ HB.out).mono ?_; rintro e w1 ⟨rfl, hb1⟩
  have hp1 := pd_step HP0.out hb1
  have HP1 := Lib.hid hp1
  have hz1 : w.heap.size + 1 + 1 + 1 < w1.heap.size := cell_lt hp1.2.2.2.2.2.2.2.2.2.2.2.1
  have l0 := cell_lt hp1.1; have l1 := cell_lt hp1.2.1
  have hz0 : w.heap.size ≤ w1.heap.size := by omega
  clear hb1 HB HP0 HF hp1
  go_upto_region 2 with fail
  refine wp_region_held_drew (S := (fun z => z.cell? ⟨w.heap.size, 4, none⟩ = some (.slice p l c) ∧ z.cell? ⟨w.heap.size + 1, 0, none⟩ = some (.int .i64 3) ∧ z.cell? ⟨w.heap.size + 1, 1, none⟩ = some (.int .i64 0) ∧ z.cell? ⟨w.heap.size + 1, 2, none⟩ = some (.float .f64 0) ∧ z.cell? ⟨w.heap.size + 1, 3, none⟩ = some (.string k) ∧ z.cell? ⟨w.heap.size + 1, 4, none⟩ = some (.slice q 0 d))) (by kernel_rfl) ?_ (fun hHeld => ?_)
  · exact pd_ro (pd_drew HP1.out)
  refine wpAnyH_take (i := 0) (oi := ?_) (v := ?_) ?hid0 (by kernel_rfl) ?hfd0 ?hrd0 ?hQd0 ?hyd0 (by assumption) ?restd0
  case hid0 => (simp only [List.getElem?_toArray, List.getElem?_cons_zero, List.getElem?_cons_succ]; rfl)
  case hfd0 => kernel_rfl
  case hrd0 => kernel_rfl
  case hyd0 => (refine Or.inl ⟨by rfl, ?_⟩; intro wS hSw; (try dsimp only at hSw); go_simp; (try with_reducible rfl))
  case hQd0 => exact fun _ _ _ h => h
  (try simp only [Act.put, List.setIfInBounds_toArray, List.set_cons_zero, List.set_cons_succ])
  refine wpAnyH_take (i := 1) (oi := ?_) (v := ?_) ?hid1 (by kernel_rfl) ?hfd1 ?hrd1 ?hQd1 ?hyd1 (by assumption) ?restd1
  case hid1 => (simp only [List.getElem?_toArray, List.getElem?_cons_zero, List.getElem?_cons_succ]; rfl)
  case hfd1 => kernel_rfl
  case hrd1 => kernel_rfl
  case hyd1 => (refine Or.inl ⟨by rfl, ?_⟩; intro wS hSw; (try dsimp only at hSw); go_simp; (try with_reducible rfl))
  case hQd1 => exact fun _ _ _ h => h
  (try simp only [Act.put, List.setIfInBounds_toArray, List.set_cons_zero, List.set_cons_succ])
  refine wpAnyH_take (i := 2) (oi := ?_) (v := ?_) ?hid2 (by kernel_rfl) ?hfd2 ?hrd2 ?hQd2 ?hyd2 (by assumption) ?restd2
  case hid2 => (simp only [List.getElem?_toArray, List.getElem?_cons_zero, List.getElem?_cons_succ]; rfl)
  case hfd2 => kernel_rfl
  case hrd2 => kernel_rfl
  case hyd2 => (refine Or.inl ⟨by rfl, ?_⟩; intro wS hSw; (try dsimp only at hSw); go_simp; (try with_reducible rfl))
  case hQd2 => exact fun _ _ _ h => h
  (try simp only [Act.put, List.setIfInBounds_toArray, List.set_cons_zero, List.set_cons_succ])
  refine wpAnyH_take (i := 3) (oi := ?_) (v := ?_) ?hid3 (by kernel_rfl) ?hfd3 ?hrd3 ?hQd3 ?hyd3 (by assumption) ?restd3
  case hid3 => (simp only [List.getElem?_toArray, List.getElem?_cons_zero, List.getElem?_cons_succ]; rfl)
  case hfd3 => kernel_rfl
  case hrd3 => kernel_rfl
  case hyd3 => (refine Or.inl ⟨by rfl, ?_⟩; intro wS hSw; (try dsimp only at hSw); go_simp; (try with_reducible rfl))
  case hQd3 => exact fun _ _ _ h => h
  (try simp only [Act.put, List.setIfInBounds_toArray, List.set_cons_zero, List.set_cons_succ])
  refine wpAnyH_take (i := 6) (oi := ?_) (v := ?_) ?hid6 (by kernel_rfl) ?hfd6 ?hrd6 ?hQd6 ?hyd6 (by assumption) ?restd6
  case hid6 => (simp only [List.getElem?_toArray, List.getElem?_cons_zero, List.getElem?_cons_succ]; rfl)
  case hfd6 => kernel_rfl
  case hrd6 => kernel_rfl
  case hyd6 => (refine Or.inl ⟨by rfl, ?_⟩; intro wS hSw; (try dsimp only at hSw); go_simp; (try with_reducible rfl))
  case hQd6 => exact fun _ _ _ h => h
  (try simp only [Act.put, List.setIfInBounds_toArray, List.set_cons_zero, List.set_cons_succ])
  refine wpAnyH_take (i := 7) (oi := ?_) (v := ?_) ?hid7 (by kernel_rfl) ?hfd7 ?hrd7 ?hQd7 ?hyd7 (by assumption) ?restd7
  case hid7 => (simp only [List.getElem?_toArray, List.getElem?_cons_zero, List.getElem?_cons_succ]; rfl)
  case hfd7 => kernel_rfl
  case hrd7 => kernel_rfl
  case hyd7 => (refine Or.inl ⟨by rfl, ?_⟩; intro wS hSw; (try dsimp only at hSw); go_simp; (try with_reducible rfl))
  case hQd7 => exact fun _ _ _ h => h
  (try simp only [Act.put, List.setIfInBounds_toArray, List.set_cons_zero, List.set_cons_succ])
  refine wpAnyH_take (i := 8) (oi := ?_) (v := ?_) ?hid8 (by kernel_rfl) ?hfd8 ?hrd8 ?hQd8 ?hyd8 (by assumption) ?restd8
  case hid8 => (simp only [List.getElem?_toArray, List.getElem?_cons_zero, List.getElem?_cons_succ]; rfl)
  case hfd8 => kernel_rfl
  case hrd8 => kernel_rfl
  case hyd8 => (refine Or.inl ⟨by rfl, ?_⟩; intro wS hSw; (try dsimp only at hSw); go_simp; (try with_reducible rfl))
  case hQd8 => exact fun _ _ _ h => h
  (try simp only [Act.put, List.setIfInBounds_toArray, List.set_cons_zero, List.set_cons_succ])
  refine wpAnyH_take (i := 9) (oi := ?_) (v := ?_) ?hid9 (by kernel_rfl) ?hfd9 ?hrd9 ?hQd9 ?hyd9 (by assumption) ?restd9
  case hid9 => (simp only [List.getElem?_toArray, List.getElem?_cons_zero, List.getElem?_cons_succ]; rfl)
  case hfd9 => kernel_rfl
  case hrd9 => kernel_rfl
  case hyd9 => (refine Or.inl ⟨by rfl, ?_⟩; intro wS hSw; (try dsimp only at hSw); go_simp; (try with_reducible rfl))
  case hQd9 => exact fun _ _ _ h => h
  (try simp only [Act.put, List.setIfInBounds_toArray, List.set_cons_zero, List.set_cons_succ])
  refine wpAnyH_take (i := 10) (oi := ?_) (v := ?_) ?hid10 (by kernel_rfl) ?hfd10 ?hrd10 ?hQd10 ?hyd10 (by assumption) ?restd10
  case hid10 => (simp only [List.getElem?_toArray, List.getElem?_cons_zero, List.getElem?_cons_succ]; rfl)
  case hfd10 => kernel_rfl
  case hrd10 => kernel_rfl
  case hyd10 => (refine Or.inl ⟨by rfl, ?_⟩; intro wS hSw; (try dsimp only at hSw); go_simp; (try with_reducible rfl))
  case hQd10 => exact fun _ _ _ h => h
  (try simp only [Act.put, List.setIfInBounds_toArray, List.set_cons_zero, List.set_cons_succ])
  refine wpAnyH_ready (rs := [4]) (by kernel_rfl) (by simp) ?_
  refine AllReadyH.cons (o := ?_) ?hod4 ?hstd4 AllReadyH.nil
  case hod4 => (simp only [List.getElem?_toArray, List.getElem?_cons_zero, List.getElem?_cons_succ]; rfl)
  intro K hK
  go_simp
  have hq0 := pd_drew HP1.out; have hs9 := spliced_any (rep_one w0 (n + 2)) p l c a bh L none 0 0 [] _ (repL_keep (bel_step HBW.out hq0.2.2.2.2.2.2.2.2.2.2.2.2.2.2.2.2.1) (fun _ _ h => h) HL.out) ⟨rfl, Nat.le_refl _, Nat.zero_le _, fun h => absurd h (Nat.lt_irrefl _)⟩ hab hbl (by omega) (by omega); go_at_call 84; refine hs9.mono ?_; rintro e w6 ⟨p6, c6, rfl, hb6, hy6⟩; have hq4 := pd_step hq0 hb6; have hgz6 := hb6.size; have HY := Lib.hid (show ∀ y, Below w0.heap.size w0 y → Stay w1.heap.size w6 y → Rep y (n + 3) (.agg #[.int .i64 4, .int .i64 0, .float .f64 0, .string ⟨#[]⟩, .slice p6 (a + 0 + (l - bh)) c6]) (4, 0, 0, ⟨#[]⟩, L.take a ++ ([] ++ L.drop bh)) from fun y hby hst => list_rep (repL_mono (fun _ _ h => rep_keep hby _ _ _ h) (hy6 y (fun b h1 h2 => hst b (by rw [World.size_drew] at h1; exact h1) h2)))); clear hs9 hb6 hy6 hq0
  go_wp2_with fail
  refine hK.out _ _ ?hsd4 (fun hHeld => ?_)
  case hsd4 => exact pd_ro hq4
  clear hK K
  (try simp only [Act.put, List.setIfInBounds_toArray, List.set_cons_zero, List.set_cons_succ])
  refine wpAnyH_ready (rs := [5]) (by kernel_rfl) (by simp) ?_
  refine AllReadyH.cons (o := ?_) ?hod5 ?hstd5 AllReadyH.nil
  case hod5 => (simp only [List.getElem?_toArray, List.getElem?_cons_zero, List.getElem?_cons_succ]; rfl)
  intro K hK
  go_simp
  go_at_call 83; refine (tlist_any _ _ _ _).mono ?_; rintro e w7 ⟨rfl, hb7⟩; have hq5 := pd_step hq4 hb7; have hst7 := stay_below (B := w1.heap.size) hb7; have hz7 := hb7.size; clear hb7 hq4
  go_wp2_with fail
  refine hK.out _ _ ?hsd5 (fun hHeld => ?_)
  case hsd5 => exact pd_ro hq5
  clear hK K
  (try simp only [Act.put, List.setIfInBounds_toArray, List.set_cons_zero, List.set_cons_succ])
  refine wpAnyH_ready (rs := [11]) (by kernel_rfl) (by simp) ?_
  refine AllReadyH.cons (o := ?_) ?hod11 ?hstd11 AllReadyH.nil
  case hod11 => (simp only [List.getElem?_toArray, List.getElem?_cons_zero, List.getElem?_cons_succ]; rfl)
  intro K hK
  go_simp
  go_at_call 53; refine (HH.out _ hq5.2.2.2.2.2.2.2.2.2.2.2.2.2.2.2.2.1).mono ?_; rintro e w10 ⟨u, rfl, hb10, hu⟩; obtain ⟨Ku, Iu, Fu, Su, qu, mu, du, rfl, _⟩ := rep_shape hu; have hq10 := pd_step hq5 hb10; have hst10 : Stay w1.heap.size w6 w10 := (fun b h1 h2 => (hb10.block b (Nat.lt_of_lt_of_le h2 hz7)).trans (hst7 b h1 h2)); have hz10 := Nat.le_trans hz7 hb10.size; clear hb10
  go_wp2_with fail
  refine hK.out _ _ ?hsd11 (fun hHeld => ?_)
  case hsd11 => exact pd_ro hq10
  clear hK K
  (try simp only [Act.put, List.setIfInBounds_toArray, List.set_cons_zero, List.set_cons_succ])
  refine wpAnyH_ready (rs := [12]) (by kernel_rfl) (by simp) ?_
  refine AllReadyH.cons (o := ?_) ?hod12 ?hstd12 AllReadyH.nil
  case hod12 => (simp only [List.getElem?_toArray, List.getElem?_cons_zero, List.getElem?_cons_succ]; rfl)
  intro K hK
  have b30 := hq10.2.2.2.2.2.2.1; have b31 := hq10.2.2.2.2.2.2.2.1; have b32 := hq10.2.2.2.2.2.2.2.2.1; have b33 := hq10.2.2.2.2.2.2.2.2.2.1; have b34 := hq10.2.2.2.2.2.2.2.2.2.2.1; have b3f := hq10.2.2.2.2.2.2.2.2.2.2.2.2.2.2.2.2.2.1; have b3l := cell_lt b30; go_simp
  have hq11 := pd_set1 hq10 (.int .i64 4) (.int .i64 0) (.float .f64 0) (.string ⟨#[]⟩) (.slice p6 (a + 0 + (l - bh)) c6); have hst11 : Stay w1.heap.size w6 (((((w10.setCell ⟨w.heap.size + 1 + 1, 0, none⟩ (.int .i64 4)).setCell ⟨w.heap.size + 1 + 1, 1, none⟩ (.int .i64 0)).setCell ⟨w.heap.size + 1 + 1, 2, none⟩ (.float .f64 0)).setCell ⟨w.heap.size + 1 + 1, 3, none⟩ (.string ⟨#[]⟩)).setCell ⟨w.heap.size + 1 + 1, 4, none⟩ (.slice p6 (a + 0 + (l - bh)) c6)) := fun b h1 h2 => (set5_other (g := w.heap.size + 1 + 1) (o := 0) (by omega)).trans (hst10 b h1 h2); clear b30 b31 b32 b33 b34 b3f b3l
  go_wp2_with fail
  refine hK.out _ _ ?hsd12 (fun hHeld => ?_)
  case hsd12 => exact pd_ro hq11
  clear hK K
  (try simp only [Act.put, List.setIfInBounds_toArray, List.set_cons_zero, List.set_cons_succ])
  refine wpAnyH_ready (rs := [13]) (by kernel_rfl) (by simp) ?_
  refine AllReadyH.cons (o := ?_) ?hod13 ?hstd13 AllReadyH.nil
  case hod13 => (simp only [List.getElem?_toArray, List.getElem?_cons_zero, List.getElem?_cons_succ]; rfl)
  intro K hK
  have b40 := hq10.2.2.2.2.2.2.2.2.2.2.2.1; have b41 := hq10.2.2.2.2.2.2.2.2.2.2.2.2.1; have b42 := hq10.2.2.2.2.2.2.2.2.2.2.2.2.2.1; have b43 := hq10.2.2.2.2.2.2.2.2.2.2.2.2.2.2.1; have b44 := hq10.2.2.2.2.2.2.2.2.2.2.2.2.2.2.2.1; have b4f := hq10.2.2.2.2.2.2.2.2.2.2.2.2.2.2.2.2.2.2; have b4l := cell_lt b40; go_simp
  have hq12 := pd_set2 hq11 (.int .i64 Ku) (.int .i64 Iu) (.float .f64 Fu) (.string Su) (.slice qu mu du); have hst12 : Stay w1.heap.size w6 ((((((((((w10.setCell ⟨w.heap.size + 1 + 1, 0, none⟩ (.int .i64 4)).setCell ⟨w.heap.size + 1 + 1, 1, none⟩ (.int .i64 0)).setCell ⟨w.heap.size + 1 + 1, 2, none⟩ (.float .f64 0)).setCell ⟨w.heap.size + 1 + 1, 3, none⟩ (.string ⟨#[]⟩)).setCell ⟨w.heap.size + 1 + 1, 4, none⟩ (.slice p6 (a + 0 + (l - bh)) c6)).setCell ⟨w.heap.size + 1 + 1 + 1, 0, none⟩ (.int .i64 Ku)).setCell ⟨w.heap.size + 1 + 1 + 1, 1, none⟩ (.int .i64 Iu)).setCell ⟨w.heap.size + 1 + 1 + 1, 2, none⟩ (.float .f64 Fu)).setCell ⟨w.heap.size + 1 + 1 + 1, 3, none⟩ (.string Su)).setCell ⟨w.heap.size + 1 + 1 + 1, 4, none⟩ (.slice qu mu du)) := fun b h1 h2 => (set5_other (g := w.heap.size + 1 + 1 + 1) (o := 0) (by omega)).trans (hst11 b h1 h2); clear b40 b41 b42 b43 b44 b4f b4l
  go_wp2_with fail
  refine hK.out _ _ ?hsd13 (fun hHeld => ?_)
  case hsd13 => exact pd_ro hq12
  clear hK K
  (try simp only [Act.put, List.setIfInBounds_toArray, List.set_cons_zero, List.set_cons_succ])
  refine wpAnyH_done (by kernel_rfl) ?_ _
  have HGF := Lib.hid (show PD p l c k q d (.int .i64 4) (.int .i64 0) (.float .f64 0) (.string ⟨#[]⟩) (.slice p6 (a + 0 + (l - bh)) c6) (.int .i64 Ku) (.int .i64 Iu) (.float .f64 Fu) (.string Su) (.slice qu mu du) w ((((((((((w10.setCell ⟨w.heap.size + 1 + 1, 0, none⟩ (.int .i64 4)).setCell ⟨w.heap.size + 1 + 1, 1, none⟩ (.int .i64 0)).setCell ⟨w.heap.size + 1 + 1, 2, none⟩ (.float .f64 0)).setCell ⟨w.heap.size + 1 + 1, 3, none⟩ (.string ⟨#[]⟩)).setCell ⟨w.heap.size + 1 + 1, 4, none⟩ (.slice p6 (a + 0 + (l - bh)) c6)).setCell ⟨w.heap.size + 1 + 1 + 1, 0, none⟩ (.int .i64 Ku)).setCell ⟨w.heap.size + 1 + 1 + 1, 1, none⟩ (.int .i64 Iu)).setCell ⟨w.heap.size + 1 + 1 + 1, 2, none⟩ (.float .f64 Fu)).setCell ⟨w.heap.size + 1 + 1 + 1, 3, none⟩ (.string Su)).setCell ⟨w.heap.size + 1 + 1 + 1, 4, none⟩ (.slice qu mu du)) ∧ Stay w1.heap.size w6 ((((((((((w10.setCell ⟨w.heap.size + 1 + 1, 0, none⟩ (.int .i64 4)).setCell ⟨w.heap.size + 1 + 1, 1, none⟩ (.int .i64 0)).setCell ⟨w.heap.size + 1 + 1, 2, none⟩ (.float .f64 0)).setCell ⟨w.heap.size + 1 + 1, 3, none⟩ (.string ⟨#[]⟩)).setCell ⟨w.heap.size + 1 + 1, 4, none⟩ (.slice p6 (a + 0 + (l - bh)) c6)).setCell ⟨w.heap.size + 1 + 1 + 1, 0, none⟩ (.int .i64 Ku)).setCell ⟨w.heap.size + 1 + 1 + 1, 1, none⟩ (.int .i64 Iu)).setCell ⟨w.heap.size + 1 + 1 + 1, 2, none⟩ (.float .f64 Fu)).setCell ⟨w.heap.size + 1 + 1 + 1, 3, none⟩ (.string Su)).setCell ⟨w.heap.size + 1 + 1 + 1, 4, none⟩ (.slice qu mu du)) ∧ w6.heap.size ≤ (((((((((((w10.setCell ⟨w.heap.size + 1 + 1, 0, none⟩ (.int .i64 4)).setCell ⟨w.heap.size + 1 + 1, 1, none⟩ (.int .i64 0)).setCell ⟨w.heap.size + 1 + 1, 2, none⟩ (.float .f64 0)).setCell ⟨w.heap.size + 1 + 1, 3, none⟩ (.string ⟨#[]⟩)).setCell ⟨w.heap.size + 1 + 1, 4, none⟩ (.slice p6 (a + 0 + (l - bh)) c6)).setCell ⟨w.heap.size + 1 + 1 + 1, 0, none⟩ (.int .i64 Ku)).setCell ⟨w.heap.size + 1 + 1 + 1, 1, none⟩ (.int .i64 Iu)).setCell ⟨w.heap.size + 1 + 1 + 1, 2, none⟩ (.float .f64 Fu)).setCell ⟨w.heap.size + 1 + 1 + 1, 3, none⟩ (.string Su)).setCell ⟨w.heap.size + 1 + 1 + 1, 4, none⟩ (.slice qu mu du))).heap.size from ⟨hq12, hst12, by show w6.heap.size ≤ (set5 (set5 w10 (w.heap.size + 1 + 1) 0 (.int .i64 4) (.int .i64 0) (.float .f64 0) (.string ⟨#[]⟩) (.slice p6 (a + 0 + (l - bh)) c6)) (w.heap.size + 1 + 1 + 1) 0 (.int .i64 Ku) (.int .i64 Iu) (.float .f64 Fu) (.string Su) (.slice qu mu du)).heap.size; rw [set5_size, set5_size]; exact hz10⟩)
  have HU := Lib.hid hu
  clear hq12 hst12 hq11 hst11 hq10 hst10 hu hHeld hq5 hst7
  revert HGF
  generalize ((((((((((w10.setCell ⟨w.heap.size + 1 + 1, 0, none⟩ (.int .i64 4)).setCell ⟨w.heap.size + 1 + 1, 1, none⟩ (.int .i64 0)).setCell ⟨w.heap.size + 1 + 1, 2, none⟩ (.float .f64 0)).setCell ⟨w.heap.size + 1 + 1, 3, none⟩ (.string ⟨#[]⟩)).setCell ⟨w.heap.size + 1 + 1, 4, none⟩ (.slice p6 (a + 0 + (l - bh)) c6)).setCell ⟨w.heap.size + 1 + 1 + 1, 0, none⟩ (.int .i64 Ku)).setCell ⟨w.heap.size + 1 + 1 + 1, 1, none⟩ (.int .i64 Iu)).setCell ⟨w.heap.size + 1 + 1 + 1, 2, none⟩ (.float .f64 Fu)).setCell ⟨w.heap.size + 1 + 1 + 1, 3, none⟩ (.string Su)).setCell ⟨w.heap.size + 1 + 1 + 1, 4, none⟩ (.slice qu mu du)) = Wf
  intro HGF
  have hqf := HGF.out.1
  have HYF := Lib.hid (show ∀ y, Below w0.heap.size w0 y → Stay w.heap.size Wf y → Rep y (n + 3) (.agg #[.int .i64 4, .int .i64 0, .float .f64 0, .string ⟨#[]⟩, .slice p6 (a + 0 + (l - bh)) c6]) (4, 0, 0, ⟨#[]⟩, L.take a ++ ([] ++ L.drop bh)) from fun y hby hst => HY.out y hby (fun b h1 h2 => (hst b (by omega) (Nat.lt_of_lt_of_le h2 HGF.out.2.2)).trans (HGF.out.2.1 b h1 h2)))
  have b30 := hqf.2.2.2.2.2.2.1
  have b31 := hqf.2.2.2.2.2.2.2.1
  have b32 := hqf.2.2.2.2.2.2.2.2.1
  have b33 := hqf.2.2.2.2.2.2.2.2.2.1
  have b34 := hqf.2.2.2.2.2.2.2.2.2.2.1
  have b40 := hqf.2.2.2.2.2.2.2.2.2.2.2.1
  have b41 := hqf.2.2.2.2.2.2.2.2.2.2.2.2.1
  have b42 := hqf.2.2.2.2.2.2.2.2.2.2.2.2.2.1
  have b43 := hqf.2.2.2.2.2.2.2.2.2.2.2.2.2.2.1
  have b44 := hqf.2.2.2.2.2.2.2.2.2.2.2.2.2.2.2.1
  clear hqf
  go_wp2
  refine bodyPost_ret (v := .tuple #[.agg #[.int .i64 4, .int .i64 0, .float .f64 0, .string ⟨#[]⟩, .slice p6 (a + 0 + (l - bh)) c6], .agg #[.int .i64 Ku, .int .i64 Iu, .float .f64 Fu, .string Su, .slice qu mu du]]) (by simp [results, Try.results51, go_sem, b30, b31, b32, b33, b34, b40, b41, b42, b43, b44]) rfl ⟨_, _, rfl, HGF.out.1.2.2.2.2.2.2.2.2.2.2.2.2.2.2.2.2.1, HYF.out, HU.out⟩
set_option maxRecDepth 100000 in
set_option maxHeartbeats 4000000 in
theorem tput_full (n : Nat) (p : Option Addr) (l c : Nat) (k : ByteArray) (q : Option Addr) (d : Nat) (K3 I3 : Int) (F3 : Nat) (S3 : ByteArray) (q3 : Option Addr) (m3 d3 : Nat) (a bh : Nat) (w : World) (hab : a = bh) (hl : l = 32) (ha : a ≤ l) (HF : Hid (∀ W, Below w.heap.size w W → Calls Try.prog 52 #[.slice p l c, .string k] W fun e w' => e = .returned (.tuple #[.int .i64 a, .int .i64 bh]) ∧ Below W.heap.size W w')) :
    Calls Try.prog 50 #[.agg #[.int .i64 4, .int .i64 0, .float .f64 0, .string ⟨#[]⟩, .slice p l c], .agg #[.int .i64 3, .int .i64 0, .float .f64 0, .string k, .slice q 0 d], .agg #[.int .i64 K3, .int .i64 I3, .float .f64 F3, .string S3, .slice q3 m3 d3]] w fun e w' => e = .returned (.tuple #[.agg #[.int .i64 0, .int .i64 0, .float .f64 0, .string ⟨#[]⟩, .slice none 0 0], .agg #[.int .i64 0, .int .i64 0, .float .f64 0, .string ⟨#[]⟩, .slice none 0 0], .int .i64 33]) ∧ Below w.heap.size w w' := by
  obtain ⟨oa, hoa⟩ : ∃ o, Obj.cells #[.int .i64 4, .int .i64 0, .float .f64 0, .string ⟨#[]⟩, .slice p l c] 27 = o := ⟨_, rfl⟩
  obtain ⟨ob, hob⟩ : ∃ o, Obj.cells #[.int .i64 3, .int .i64 0, .float .f64 0, .string k, .slice q 0 d] 27 = o := ⟨_, rfl⟩
  obtain ⟨oc, hoc⟩ : ∃ o, Obj.cells #[.int .i64 K3, .int .i64 I3, .float .f64 F3, .string S3, .slice q3 m3 d3] 27 = o := ⟨_, rfl⟩
  obtain ⟨oz, hoz⟩ : ∃ o, Obj.cells #[.int .i64 0, .int .i64 0, .float .f64 0, .string ⟨#[]⟩, .slice none 0 0] 27 = o := ⟨_, rfl⟩
  have hB : Below w.heap.size w (((((w.alloc oa).alloc ob).alloc oc).alloc oz).alloc oz) := bel_alloc (bel_alloc (bel_alloc (bel_alloc (bel_alloc (Below.refl w.heap.size w) oa) ob) oc) oz) oz
  have r0 := row_alloc_step (row_alloc_step (row_alloc_step (row_alloc_step (row_alloc w #[.int .i64 4, .int .i64 0, .float .f64 0, .string ⟨#[]⟩, .slice p l c] 27) ob) oc) oz) oz
  rw [hoa] at r0
  have r1 := row_alloc_step (row_alloc_step (row_alloc_step (row_alloc (w.alloc oa) #[.int .i64 3, .int .i64 0, .float .f64 0, .string k, .slice q 0 d] 27) oc) oz) oz
  rw [hob] at r1
  have r2 := row_alloc_step (row_alloc_step (row_alloc ((w.alloc oa).alloc ob) #[.int .i64 K3, .int .i64 I3, .float .f64 F3, .string S3, .slice q3 m3 d3] 27) oz) oz
  rw [hoc] at r2
  have r3 := row_alloc_step (row_alloc (((w.alloc oa).alloc ob).alloc oc) #[.int .i64 0, .int .i64 0, .float .f64 0, .string ⟨#[]⟩, .slice none 0 0] 27) oz
  rw [hoz] at r3
  have r4 := row_alloc ((((w.alloc oa).alloc ob).alloc oc).alloc oz) #[.int .i64 0, .int .i64 0, .float .f64 0, .string ⟨#[]⟩, .slice none 0 0] 27
  rw [hoz] at r4
  simp only [World.size_alloc] at r0 r1 r2 r3 r4
  have HB := Lib.hid hB
  subst hoa hob hoc hoz
  have R0 := Lib.hid r0; have R3 := Lib.hid r3; have R4 := Lib.hid r4
  clear r0 r1 r2 r3 r4 hB
  have hxx : ((a : Int) == (bh : Int)) = true := by rw [beq_iff_eq]; omega
  have hll : ((l : Int) == 32) = true := by rw [beq_iff_eq]; omega
  clear hab hl ha
  go_enter Try.func50, Try.ntmps50
  go_wp2_with fail
  go_at_call 52; refine (HF.out _ HB.out).mono ?_; rintro e w1 ⟨rfl, hb1⟩
  have HB1 := Lib.hid (bel_step HB.out hb1)
  have x0 := row_step R0.out hb1; have x3 := row_step R3.out hb1; have x4 := row_step R4.out hb1
  have c4 := row_cell x0 4
  have p0 := row_cell x3 0; have p1 := row_cell x3 1; have p2 := row_cell x3 2; have p3 := row_cell x3 3; have p4 := row_cell x3 4
  have s0 := row_cell x4 0; have s1 := row_cell x4 1; have s2 := row_cell x4 2; have s3 := row_cell x4 3; have s4 := row_cell x4 4
  simp only [List.getElem?_toArray, List.getElem?_cons_zero, List.getElem?_cons_succ] at c4 p0 p1 p2 p3 p4 s0 s1 s2 s3 s4
  have f3 := fun o => row_frz x3 o
  have f4 := fun o => row_frz x4 o
  have l4 := row_lt x4
  clear hb1 HB HF x0 x3 x4 R0 R3 R4
  go_wp2
  refine bodyPost_ret (v := .tuple #[.agg #[.int .i64 0, .int .i64 0, .float .f64 0, .string ⟨#[]⟩, .slice none 0 0], .agg #[.int .i64 0, .int .i64 0, .float .f64 0, .string ⟨#[]⟩, .slice none 0 0], .int .i64 33]) (by simp [results, Try.results50, go_sem, World.cell?_setCell_same, World.cell?_setCell_other, p0, p1, p2, p3, p4, s0, s1, s2, s3, s4]) rfl ⟨rfl, ?_⟩
  exact set5_below (g := w.heap.size + 1 + 1 + 1 + 1) (o := 0) (set5_below (g := w.heap.size + 1 + 1 + 1) (o := 0) HB1.out (by omega) _ _ _ _ _) (by omega) _ _ _ _ _
end Num
end Go.Proofs.Ytamogpbbaihaaaa
