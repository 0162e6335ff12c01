/-
  IdOrder's walk.
-/
import Derived.Test.YtbodakfgoijeeaaDoorIJ
import Derived.Deep.DeepCutAuto
import Derived.Deep.RegionHeld3
import Derived.Deep.RegionWith
namespace Go.Proofs.YtbodakfgoijeeaaDoor
open Go.RowKit Go.Sort Go.Lib
namespace Num
set_option linter.unusedSimpArgs false
set_option linter.unusedVariables false
theorem sid_of {w W : World} (hg : Good w) (h : Below w.heap.size w W) : Sid w W := ⟨good_keep hg h, h⟩
/-- The three cells of an id's block. -/
def Rw (W : World) (b : Nat) (x y z : Int) : Prop := W.heap[b]? = some (.cells #[.int .u32 x, .int .u32 y, .int .u16 z] 25 (0, 0))
theorem rw_set0 {W : World} {b : Nat} {x y z : Int} (h : Rw W b x y z) (v : Int) : Rw (W.setCell ⟨b, 0, none⟩ (.int .u32 v)) b v y z := by
  unfold Rw at *
  simp [World.setCell, Array.getElem?_modify, h]
theorem rw_set1 {W : World} {b : Nat} {x y z : Int} (h : Rw W b x y z) (v : Int) : Rw (W.setCell ⟨b, 1, none⟩ (.int .u32 v)) b x v z := by
  unfold Rw at *
  simp [World.setCell, Array.getElem?_modify, h]
theorem rw_other {W : World} {a b o : Nat} {x y z : Int} (h : Rw W a x y z) (hne : a ≠ b) (v : Value) : Rw (W.setCell ⟨b, o, none⟩ v) a x y z := by
  unfold Rw at *
  rw [Below.heap_setCell W ⟨b, o, none⟩ v a hne]
  exact h
theorem rw_step {W W' : World} {b : Nat} {x y z : Int} (h : Rw W b x y z) (hb : Below W.heap.size W W') : Rw W' b x y z := row_step h hb
theorem rw_cells {W : World} {b : Nat} {x y z : Int} (h : Rw W b x y z) : (W.cell? ⟨b, 0, none⟩ = some (.int .u32 x) ∧ W.cell? ⟨b, 1, none⟩ = some (.int .u32 y) ∧ W.cell? ⟨b, 2, none⟩ = some (.int .u16 z)) ∧ (W.frozen? ⟨b, 0, none⟩ = false ∧ W.frozen? ⟨b, 1, none⟩ = false ∧ W.frozen? ⟨b, 2, none⟩ = false) ∧ b < W.heap.size :=
  ⟨⟨row_cell h 0, row_cell h 1, row_cell h 2⟩, ⟨row_frz h 0, row_frz h 1, row_frz h 2⟩, row_lt h⟩
/-- The world behind a step of IdOrder. -/
def So (w : World) (a1 a2 a3 c1 c2 c3 : Int) (W : World) : Prop := Rw W w.heap.size a1 a2 a3 ∧ Rw W (w.heap.size + 1) c1 c2 c3 ∧ Below w.heap.size w W
theorem so_step {w W W' : World} {a1 a2 a3 c1 c2 c3 : Int} (h : So w a1 a2 a3 c1 c2 c3 W) (hb : Below W.heap.size W W') : So w a1 a2 a3 c1 c2 c3 W' := ⟨rw_step h.1 hb, rw_step h.2.1 hb, h.2.2.trans (hb.mono h.2.2.size)⟩
theorem so_set0 {w W : World} {a1 a2 a3 c1 c2 c3 : Int} (h : So w a1 a2 a3 c1 c2 c3 W) (v : Int) : So w a1 a2 a3 v c2 c3 (W.setCell ⟨w.heap.size + 1, 0, none⟩ (.int .u32 v)) := ⟨rw_other h.1 (by omega) _, rw_set0 h.2.1 v, h.2.2.setCell (p := ⟨w.heap.size + 1, 0, none⟩) (Nat.le_succ _) _⟩
theorem so_set1 {w W : World} {a1 a2 a3 c1 c2 c3 : Int} (h : So w a1 a2 a3 c1 c2 c3 W) (v : Int) : So w a1 a2 a3 c1 v c3 (W.setCell ⟨w.heap.size + 1, 1, none⟩ (.int .u32 v)) := ⟨rw_other h.1 (by omega) _, rw_set1 h.2.1 v, h.2.2.setCell (p := ⟨w.heap.size + 1, 1, none⟩) (Nat.le_succ _) _⟩
theorem so_cells {w W : World} {a1 a2 a3 c1 c2 c3 : Int} (h : So w a1 a2 a3 c1 c2 c3 W) : (W.cell? ⟨w.heap.size, 0, none⟩ = some (.int .u32 a1) ∧ W.cell? ⟨w.heap.size, 1, none⟩ = some (.int .u32 a2) ∧ W.cell? ⟨w.heap.size, 2, none⟩ = some (.int .u16 a3)) ∧ (W.cell? ⟨w.heap.size + 1, 0, none⟩ = some (.int .u32 c1) ∧ W.cell? ⟨w.heap.size + 1, 1, none⟩ = some (.int .u32 c2) ∧ W.cell? ⟨w.heap.size + 1, 2, none⟩ = some (.int .u16 c3)) :=
  ⟨(rw_cells h.1).1, (rw_cells h.2.1).1⟩
def S7 (w : World) (a1 a2 a3 c1 c2 c3 : Int) (W : World) : Prop := W.cell? ⟨w.heap.size, 0, none⟩ = some (.int .u32 a1) ∧ W.cell? ⟨w.heap.size, 1, none⟩ = some (.int .u32 a2) ∧ W.cell? ⟨w.heap.size, 2, none⟩ = some (.int .u16 a3) ∧ W.cell? ⟨w.heap.size + 1, 0, none⟩ = some (.int .u32 c1) ∧ W.cell? ⟨w.heap.size + 1, 1, none⟩ = some (.int .u32 c2) ∧ W.cell? ⟨w.heap.size + 1, 2, none⟩ = some (.int .u16 c3) ∧ So w a1 a2 a3 c1 c2 c3 W
theorem s7_of {w W : World} {a1 a2 a3 c1 c2 c3 : Int} (h : So w a1 a2 a3 c1 c2 c3 W) : S7 w a1 a2 a3 c1 c2 c3 W := ⟨(so_cells h).1.1, (so_cells h).1.2.1, (so_cells h).1.2.2, (so_cells h).2.1, (so_cells h).2.2.1, (so_cells h).2.2.2, h⟩
theorem s7_step {w W W' : World} {a1 a2 a3 c1 c2 c3 : Int} (h : S7 w a1 a2 a3 c1 c2 c3 W) (hb : Below W.heap.size W W') : S7 w a1 a2 a3 c1 c2 c3 W' := s7_of (so_step h.2.2.2.2.2.2 hb)
theorem s7_drew {w W : World} {a1 a2 a3 c1 c2 c3 : Int} (h : S7 w a1 a2 a3 c1 c2 c3 W) : S7 w a1 a2 a3 c1 c2 c3 W.drew := s7_step h (Below.drew (Below.refl _ _))
/-- Behind a call of a round of IdOrder's loop: both ids' blocks, the numbers' block. -/
def S9 (w : World) (a1 a2 a3 c1 c2 c3 n : Int) (N : Nat) (W : World) : Prop := So w a1 a2 a3 c1 c2 c3 W ∧ W.heap[N]? = some (.cells #[.int .i64 n, .int .i64 (n.tmod 10)] 3 (0, 0))
def S8 (w : World) (a1 a2 a3 c1 c2 c3 n : Int) (N B : Nat) (p q r : Value) (W : World) : Prop := W.cell? ⟨w.heap.size, 0, none⟩ = some (.int .u32 a1) ∧ W.cell? ⟨w.heap.size, 1, none⟩ = some (.int .u32 a2) ∧ W.cell? ⟨w.heap.size, 2, none⟩ = some (.int .u16 a3) ∧ W.cell? ⟨B, 0, none⟩ = some p ∧ W.cell? ⟨B, 1, none⟩ = some q ∧ W.cell? ⟨B, 2, none⟩ = some r ∧ S9 w a1 a2 a3 c1 c2 c3 n N W
theorem s8_step {w W W' : World} {a1 a2 a3 c1 c2 c3 n : Int} {N B : Nat} {p q r : Value} (h : S8 w a1 a2 a3 c1 c2 c3 n N B p q r W) (hb : Below W.heap.size W W') : S8 w a1 a2 a3 c1 c2 c3 n N B p q r W' := by
  obtain ⟨h0, h1, h2, h3, h4, h5, h6, h7⟩ := h
  exact ⟨cell_keep hb h0, cell_keep hb h1, cell_keep hb h2, cell_keep hb h3, cell_keep hb h4, cell_keep hb h5, so_step h6 hb, row_step h7 hb⟩
theorem s8_drew {w W : World} {a1 a2 a3 c1 c2 c3 n : Int} {N B : Nat} {p q r : Value} (h : S8 w a1 a2 a3 c1 c2 c3 n N B p q r W) : S8 w a1 a2 a3 c1 c2 c3 n N B p q r W.drew := s8_step h (Below.drew (Below.refl _ _))
theorem s8_new {w W : World} {a1 a2 a3 c1 c2 c3 n : Int} {N : Nat} (p q r : Value) (h : So w a1 a2 a3 c1 c2 c3 W) (hr : W.heap[N]? = some (.cells #[.int .i64 n, .int .i64 (n.tmod 10)] 3 (0, 0))) :
    S8 w a1 a2 a3 c1 c2 c3 n N W.heap.size p q r (W.alloc (.cells #[p, q, r] 25)) := by
  have hb : Below W.heap.size W (W.alloc (.cells #[p, q, r] 25)) := Below.alloc (Below.refl _ _) (Nat.le_refl _) _
  have hn := row_alloc W #[p, q, r] 25
  have ho := so_step h hb
  exact ⟨(so_cells ho).1.1, (so_cells ho).1.2.1, (so_cells ho).1.2.2, row_cell hn 0, row_cell hn 1, row_cell hn 2, ho, row_step hr hb⟩
set_option maxRecDepth 100000 in
set_option maxHeartbeats 8000000 in
theorem order_law (a1 a2 a3 b1 b2 b3 n near : Int) (w : World) (hg : Good w) : Calls Tryd.prog 4 #[.agg #[.int .u32 a1, .int .u32 a2, .int .u16 a3], .agg #[.int .u32 b1, .int .u32 b2, .int .u16 b3], .int .i64 n, .int .u8 near] w fun e w' => e = .returned (.bool true) ∧ Below w.heap.size w w' := by
  have HK := Lib.hid (fun (W : World) (h : Sid w W) => known_any W h.1)
  have HG := Lib.hid hg
  have ra := row_alloc_step (row_alloc w #[.int .u32 a1, .int .u32 a2, .int .u16 a3] 25) (.cells #[.int .u32 b1, .int .u32 b2, .int .u16 b3] 25)
  have rb := row_alloc (w.alloc (.cells #[.int .u32 a1, .int .u32 a2, .int .u16 a3] 25)) #[.int .u32 b1, .int .u32 b2, .int .u16 b3] 25
  simp only [World.size_alloc] at rb
  have H0 := Lib.hid (show So w a1 a2 a3 b1 b2 b3 ((w.alloc (.cells #[.int .u32 a1, .int .u32 a2, .int .u16 a3] 25)).alloc (.cells #[.int .u32 b1, .int .u32 b2, .int .u16 b3] 25)) from ⟨ra, rb, bel_alloc (bel_alloc (Below.refl _ _) _) _⟩)
  clear hg ra rb
  go_enter Tryd.func4, Tryd.ntmps4
  go_upto_if 18 with (go_at_call 6; refine (HK.out _ (sid_of HG.out H0.out.2.2)).mono ?_; rintro e w1 ⟨rfl, hb1⟩; have H1 := Lib.hid (so_step H0.out hb1); clear hb1)
  go_cut [] (fun wx => ∃ c1 : Int, So w a1 a2 a3 c1 b2 b3 wx)
  case first =>
    obtain ⟨⟨x0, x1, x2⟩, y0, y1, y2⟩ := so_cells H1.out
    have f0 := (rw_cells H1.out.2.1).2.1.1
    have hlt := (rw_cells H1.out.2.1).2.2
    go_wp2
    all_goals go_meet
    all_goals first | exact ⟨_, H1.out⟩ | exact ⟨_, so_set0 H1.out _⟩
  case rest =>
  obtain ⟨c1, hc⟩ := hcut
  have H2 := Lib.hid hc
  clear hc
  go_upto_if 24 with fail
  go_cut [] (fun wx => ∃ c2 : Int, So w a1 a2 a3 c1 c2 b3 wx)
  case first =>
    obtain ⟨⟨x0, x1, x2⟩, y0, y1, y2⟩ := so_cells H2.out
    have f1 := (rw_cells H2.out.2.1).2.1.2.1
    have hlt := (rw_cells H2.out.2.1).2.2
    go_wp2
    all_goals go_meet
    all_goals first | exact ⟨_, H2.out⟩ | exact ⟨_, so_set1 H2.out _⟩
  case rest =>
  obtain ⟨c2, hc⟩ := hcut
  have H3 := Lib.hid hc
  clear hc
  go_upto_region 7 with fail
  go_cut [48] (fun s48 wx => s48 = .bool false ∧ So w a1 a2 a3 c1 c2 b3 wx)
  case first =>
    have HP := Lib.hid (fun x1 x2 x3 y1 y2 y3 (W : World) => pless_any x1 x2 x3 y1 y2 y3 W)
    have HQ := Lib.hid (fun x1 x2 x3 y1 y2 y3 (W : World) => rless_any x1 x2 x3 y1 y2 y3 W)
    unfold Id at HP HQ
    have haa : lessT a1 a2 a3 a1 a2 a3 = false := by unfold lessT; rw [decide_eq_false_iff_not]; omega
    have hkk := s7_of H3.out
    go_region_held3 (fun w' => w'.cell? ⟨w.heap.size, 0, none⟩ = some (.int .u32 a1) ∧ w'.cell? ⟨w.heap.size, 1, none⟩ = some (.int .u32 a2) ∧ w'.cell? ⟨w.heap.size, 2, none⟩ = some (.int .u16 a3) ∧ w'.cell? ⟨w.heap.size + 1, 0, none⟩ = some (.int .u32 c1) ∧ w'.cell? ⟨w.heap.size + 1, 1, none⟩ = some (.int .u32 c2) ∧ w'.cell? ⟨w.heap.size + 1, 2, none⟩ = some (.int .u16 b3) ∧ So w a1 a2 a3 c1 c2 b3 w') (first | exact (by assumption : S7 _ _ _ _ _ _ _ _) | exact s7_drew (by assumption)) (first
      | (go_at_call 11; refine (HP.out _ _ _ _ _ _ _).mono ?_; rintro e w' ⟨rfl, hb⟩; have hk : S7 w a1 a2 a3 c1 c2 b3 w' := s7_step (by assumption) hb; clear hb)
      | (go_at_call 12; refine (HQ.out _ _ _ _ _ _ _).mono ?_; rintro e w' ⟨rfl, hb⟩; have hk : S7 w a1 a2 a3 c1 c2 b3 w' := s7_step (by assumption) hb; clear hb))
    all_goals
      have HF := Lib.hid (by assumption : S7 w a1 a2 a3 c1 c2 b3 _)
      go_wp2_with fail
      go_meet
      exact ⟨rfl, HF.out.2.2.2.2.2.2⟩
  case rest =>
  obtain ⟨rfl, hc⟩ := hcut
  have H4 := Lib.hid hc
  clear hc
  have HW := Lib.hid (row_alloc wc #[.int .i64 n, .int .i64 (n.tmod 10)] 3)
  go_wp2_with fail
  go_loopw [54] (fun i wr => ∃ k : Nat, k ≤ 2 ∧ i = .int .i64 k ∧ So w a1 a2 a3 c1 c2 b3 wr ∧ wr.heap[wc.heap.size]? = some (.cells #[.int .i64 n, .int .i64 (n.tmod 10)] 3 (0, 0))) (fun i _ => 2 - (RowKit.intOf i).toNat)
  case atStart => exact ⟨0, by omega, rfl, so_step H4.out (Below.alloc (Below.refl _ _) (Nat.le_refl _) _), HW.out⟩
  case round =>
    obtain ⟨k, hk, rfl, hso, hrow⟩ := hrel
    have H5 := Lib.hid hso
    have R5 := Lib.hid hrow
    clear hso hrow
    by_cases hlt : k < 2
    · obtain ⟨v, hv⟩ : ∃ v : Int, wr.cell? ⟨wc.heap.size, k, none⟩ = some (.int .i64 v) := by
        rcases (show k = 0 ∨ k = 1 by omega) with rfl | rfl
        · exact ⟨n, row_cell R5.out 0⟩
        · exact ⟨_, row_cell R5.out 1⟩
      have hlt' : (k : Int) < 2 := by omega
      have hwk0 : wrap64 ((k : Int) + 1) = ((k + 1 : Nat) : Int) := by unfold wrap64; omega
      have hwk := Lib.hid hwk0
      clear hwk0
      obtain ⟨⟨x0, x1, x2⟩, y0, y1, y2⟩ := so_cells H5.out
      by_cases h3 : a3 = 0
      · by_cases hv1 : v < 1
        · have HN := Lib.hid (show ∀ W : World, Calls Tryd.prog 13 #[.agg #[.int .u32 a1, .int .u32 a2, .int .u16 a3], .int .i64 v] W fun e w' => e = .returned (.tuple #[.agg #[.int .u32 0, .int .u32 0, .int .u16 0], .bool false]) ∧ Below W.heap.size W w' from fun W => by have h := nested_any a1 a2 a3 v W; unfold nestV at h; rw [if_neg (by omega)] at h; exact h)
          have HGE := Lib.hid (show decide (1 ≤ v) = false by rw [decide_eq_false_iff_not]; omega)
          clear hv1
          subst h3
          go_wp2_with fail
          go_at_call 13; refine (HN.out _).mono ?_; rintro e w2 ⟨rfl, hb2⟩
          have H6 := Lib.hid (so_step H5.out hb2)
          have R6 := Lib.hid (row_step R5.out hb2)
          have h8 := s8_new (.int .u32 0) (.int .u32 0) (.int .u16 0) (so_step H5.out hb2) (row_step R5.out hb2)
          clear hb2 x0 x1 x2 y0 y1 y2 hv
          obtain ⟨⟨x0, x1, x2⟩, _⟩ := so_cells H6.out
          have xlt := (rw_cells H6.out.1).2.2
          go_wp2_with fail
          clear x0 x1 x2 xlt
          generalize w2.alloc (.cells #[.int .u32 0, .int .u32 0, .int .u16 0] 25) = w3 at h8 ⊢
          (try have hge := HGE.out)
          (try have hle := HLE.out)
          refine wp_region_held_drew (S := (fun w' => w'.cell? ⟨w.heap.size, 0, none⟩ = some (.int .u32 a1) ∧ w'.cell? ⟨w.heap.size, 1, none⟩ = some (.int .u32 a2) ∧ w'.cell? ⟨w.heap.size, 2, none⟩ = some (.int .u16 0) ∧ w'.cell? ⟨w2.heap.size, 0, none⟩ = some (.int .u32 0) ∧ w'.cell? ⟨w2.heap.size, 1, none⟩ = some (.int .u32 0) ∧ w'.cell? ⟨w2.heap.size, 2, none⟩ = some (.int .u16 0) ∧ S9 w a1 a2 0 c1 c2 b3 n wc.heap.size w')) (by kernel_rfl) ?_ (fun hHeld => ?_)
          · exact s8_drew h8
          refine wpAnyH_take (i := 0) (oi := ?_) (v := ?_) ?hib0 (by kernel_rfl) ?hfb0 ?hrb0 ?hQb0 ?hyb0 (by assumption) ?restb0
          case hib0 => (simp only [List.getElem?_toArray, List.getElem?_cons_zero, List.getElem?_cons_succ]; rfl)
          case hfb0 => kernel_rfl
          case hrb0 => kernel_rfl
          case hyb0 => (refine Or.inl ⟨by rfl, ?_⟩; intro wS hSw; (try dsimp only at hSw); go_simp; (try with_reducible rfl))
          case hQb0 => exact fun _ _ _ h => h
          (try simp only [Act.put, List.setIfInBounds_toArray, List.set_cons_zero, List.set_cons_succ])
          refine wpAnyH_take (i := 1) (oi := ?_) (v := ?_) ?hib1 (by kernel_rfl) ?hfb1 ?hrb1 ?hQb1 ?hyb1 (by assumption) ?restb1
          case hib1 => (simp only [List.getElem?_toArray, List.getElem?_cons_zero, List.getElem?_cons_succ]; rfl)
          case hfb1 => kernel_rfl
          case hrb1 => kernel_rfl
          case hyb1 => (refine Or.inl ⟨by rfl, ?_⟩; intro wS hSw; (try dsimp only at hSw); go_simp; (try with_reducible rfl))
          case hQb1 => exact fun _ _ _ h => h
          (try simp only [Act.put, List.setIfInBounds_toArray, List.set_cons_zero, List.set_cons_succ])
          refine wpAnyH_take (i := 2) (oi := ?_) (v := ?_) ?hib2 (by kernel_rfl) ?hfb2 ?hrb2 ?hQb2 ?hyb2 (by assumption) ?restb2
          case hib2 => (simp only [List.getElem?_toArray, List.getElem?_cons_zero, List.getElem?_cons_succ]; rfl)
          case hfb2 => kernel_rfl
          case hrb2 => kernel_rfl
          case hyb2 => (refine Or.inl ⟨by rfl, ?_⟩; intro wS hSw; (try dsimp only at hSw); go_simp; (try with_reducible rfl))
          case hQb2 => exact fun _ _ _ h => h
          (try simp only [Act.put, List.setIfInBounds_toArray, List.set_cons_zero, List.set_cons_succ])
          refine wpAnyH_take (i := 3) (oi := ?_) (v := ?_) ?hib3 (by kernel_rfl) ?hfb3 ?hrb3 ?hQb3 ?hyb3 (by assumption) ?restb3
          case hib3 => (simp only [List.getElem?_toArray, List.getElem?_cons_zero, List.getElem?_cons_succ]; rfl)
          case hfb3 => kernel_rfl
          case hrb3 => kernel_rfl
          case hyb3 => (refine Or.inl ⟨by rfl, ?_⟩; intro wS hSw; (try dsimp only at hSw); go_simp; (try with_reducible rfl))
          case hQb3 => exact fun _ _ _ h => h
          (try simp only [Act.put, List.setIfInBounds_toArray, List.set_cons_zero, List.set_cons_succ])
          refine wpAnyH_take (i := 4) (oi := ?_) (v := ?_) ?hib4 (by kernel_rfl) ?hfb4 ?hrb4 ?hQb4 ?hyb4 (by assumption) ?restb4
          case hib4 => (simp only [List.getElem?_toArray, List.getElem?_cons_zero, List.getElem?_cons_succ]; rfl)
          case hfb4 => kernel_rfl
          case hrb4 => kernel_rfl
          case hyb4 => (refine Or.inl ⟨by rfl, ?_⟩; intro wS hSw; (try dsimp only at hSw); go_simp; (try with_reducible rfl))
          case hQb4 => exact fun _ _ _ h => h
          (try simp only [Act.put, List.setIfInBounds_toArray, List.set_cons_zero, List.set_cons_succ])
          refine wpAnyH_take (i := 5) (oi := ?_) (v := ?_) ?hib5 (by kernel_rfl) ?hfb5 ?hrb5 ?hQb5 ?hyb5 (by assumption) ?restb5
          case hib5 => (simp only [List.getElem?_toArray, List.getElem?_cons_zero, List.getElem?_cons_succ]; rfl)
          case hfb5 => kernel_rfl
          case hrb5 => kernel_rfl
          case hyb5 => (refine Or.inl ⟨by rfl, ?_⟩; intro wS hSw; (try dsimp only at hSw); go_simp; (try with_reducible rfl))
          case hQb5 => exact fun _ _ _ h => h
          (try simp only [Act.put, List.setIfInBounds_toArray, List.set_cons_zero, List.set_cons_succ])
          refine wpAnyH_take (i := 6) (oi := ?_) (v := ?_) ?hib6 (by kernel_rfl) ?hfb6 ?hrb6 ?hQb6 ?hyb6 (by assumption) ?restb6
          case hib6 => (simp only [List.getElem?_toArray, List.getElem?_cons_zero, List.getElem?_cons_succ]; rfl)
          case hfb6 => kernel_rfl
          case hrb6 => kernel_rfl
          case hyb6 => (refine Or.inl ⟨by rfl, ?_⟩; intro wS hSw; (try dsimp only at hSw); go_simp; (try with_reducible rfl))
          case hQb6 => exact fun _ _ _ h => h
          (try simp only [Act.put, List.setIfInBounds_toArray, List.set_cons_zero, List.set_cons_succ])
          refine wpAnyH_take (i := 7) (oi := ?_) (v := ?_) ?hib7 (by kernel_rfl) ?hfb7 ?hrb7 ?hQb7 ?hyb7 (by assumption) ?restb7
          case hib7 => (simp only [List.getElem?_toArray, List.getElem?_cons_zero, List.getElem?_cons_succ]; rfl)
          case hfb7 => kernel_rfl
          case hrb7 => kernel_rfl
          case hyb7 => (refine Or.inl ⟨by rfl, ?_⟩; intro wS hSw; (try dsimp only at hSw); go_simp; (try with_reducible rfl))
          case hQb7 => exact fun _ _ _ h => h
          (try simp only [Act.put, List.setIfInBounds_toArray, List.set_cons_zero, List.set_cons_succ])
          refine wpAnyH_take (i := 8) (oi := ?_) (v := ?_) ?hib8 (by kernel_rfl) ?hfb8 ?hrb8 ?hQb8 ?hyb8 (by assumption) ?restb8
          case hib8 => (simp only [List.getElem?_toArray, List.getElem?_cons_zero, List.getElem?_cons_succ]; rfl)
          case hfb8 => kernel_rfl
          case hrb8 => kernel_rfl
          case hyb8 => (refine Or.inl ⟨by rfl, ?_⟩; intro wS hSw; (try dsimp only at hSw); go_simp; (try with_reducible rfl))
          case hQb8 => exact fun _ _ _ h => h
          (try simp only [Act.put, List.setIfInBounds_toArray, List.set_cons_zero, List.set_cons_succ])
          refine wpAnyH_take (i := 9) (oi := ?_) (v := undef) ?hib9 (by kernel_rfl) ?hfb9 ?hrb9 ?hQb9 ?hyb9 (by assumption) ?restb9
          case hib9 => (simp only [List.getElem?_toArray, List.getElem?_cons_zero, List.getElem?_cons_succ]; rfl)
          case hfb9 => kernel_rfl
          case hrb9 => kernel_rfl
          case hyb9 => exact Or.inr ⟨by rfl, rfl⟩
          case hQb9 => exact fun _ _ _ h => h
          (try simp only [Act.put, List.setIfInBounds_toArray, List.set_cons_zero, List.set_cons_succ])
          refine wpAnyH_take (i := 10) (oi := ?_) (v := undef) ?hib10 (by kernel_rfl) ?hfb10 ?hrb10 ?hQb10 ?hyb10 (by assumption) ?restb10
          case hib10 => (simp only [List.getElem?_toArray, List.getElem?_cons_zero, List.getElem?_cons_succ]; rfl)
          case hfb10 => kernel_rfl
          case hrb10 => kernel_rfl
          case hyb10 => exact Or.inr ⟨by rfl, rfl⟩
          case hQb10 => exact fun _ _ _ h => h
          (try simp only [Act.put, List.setIfInBounds_toArray, List.set_cons_zero, List.set_cons_succ])
          refine wpAnyH_take (i := 11) (oi := ?_) (v := ?_) ?hib11 (by kernel_rfl) ?hfb11 ?hrb11 ?hQb11 ?hyb11 (by assumption) ?restb11
          case hib11 => (simp only [List.getElem?_toArray, List.getElem?_cons_zero, List.getElem?_cons_succ]; rfl)
          case hfb11 => kernel_rfl
          case hrb11 => kernel_rfl
          case hyb11 => (refine Or.inl ⟨by rfl, ?_⟩; intro wS hSw; (try dsimp only at hSw); go_simp; (try with_reducible rfl))
          case hQb11 => exact fun _ _ _ h => h
          (try simp only [Act.put, List.setIfInBounds_toArray, List.set_cons_zero, List.set_cons_succ])
          refine wpAnyH_take (i := 12) (oi := ?_) (v := ?_) ?hib12 (by kernel_rfl) ?hfb12 ?hrb12 ?hQb12 ?hyb12 (by assumption) ?restb12
          case hib12 => (simp only [List.getElem?_toArray, List.getElem?_cons_zero, List.getElem?_cons_succ]; rfl)
          case hfb12 => kernel_rfl
          case hrb12 => kernel_rfl
          case hyb12 => (refine Or.inl ⟨by rfl, ?_⟩; intro wS hSw; (try dsimp only at hSw); go_simp; (try with_reducible rfl))
          case hQb12 => exact fun _ _ _ h => h
          (try simp only [Act.put, List.setIfInBounds_toArray, List.set_cons_zero, List.set_cons_succ])
          refine wpAnyH_take (i := 13) (oi := ?_) (v := ?_) ?hib13 (by kernel_rfl) ?hfb13 ?hrb13 ?hQb13 ?hyb13 (by assumption) ?restb13
          case hib13 => (simp only [List.getElem?_toArray, List.getElem?_cons_zero, List.getElem?_cons_succ]; rfl)
          case hfb13 => kernel_rfl
          case hrb13 => kernel_rfl
          case hyb13 => (refine Or.inl ⟨by rfl, ?_⟩; intro wS hSw; (try dsimp only at hSw); go_simp; (try with_reducible rfl))
          case hQb13 => exact fun _ _ _ h => h
          (try simp only [Act.put, List.setIfInBounds_toArray, List.set_cons_zero, List.set_cons_succ])
          refine wpAnyH_take (i := 14) (oi := ?_) (v := ?_) ?hib14 (by kernel_rfl) ?hfb14 ?hrb14 ?hQb14 ?hyb14 (by assumption) ?restb14
          case hib14 => (simp only [List.getElem?_toArray, List.getElem?_cons_zero, List.getElem?_cons_succ]; rfl)
          case hfb14 => kernel_rfl
          case hrb14 => kernel_rfl
          case hyb14 => (refine Or.inl ⟨by rfl, ?_⟩; intro wS hSw; (try dsimp only at hSw); go_simp; (try with_reducible rfl))
          case hQb14 => exact fun _ _ _ h => h
          (try simp only [Act.put, List.setIfInBounds_toArray, List.set_cons_zero, List.set_cons_succ])
          refine wpAnyH_take (i := 15) (oi := ?_) (v := ?_) ?hib15 (by kernel_rfl) ?hfb15 ?hrb15 ?hQb15 ?hyb15 (by assumption) ?restb15
          case hib15 => (simp only [List.getElem?_toArray, List.getElem?_cons_zero, List.getElem?_cons_succ]; rfl)
          case hfb15 => kernel_rfl
          case hrb15 => kernel_rfl
          case hyb15 => (refine Or.inl ⟨by rfl, ?_⟩; intro wS hSw; (try dsimp only at hSw); go_simp; (try with_reducible rfl))
          case hQb15 => exact fun _ _ _ h => h
          (try simp only [Act.put, List.setIfInBounds_toArray, List.set_cons_zero, List.set_cons_succ])
          refine wpAnyH_take (i := 16) (oi := ?_) (v := undef) ?hib16 (by kernel_rfl) ?hfb16 ?hrb16 ?hQb16 ?hyb16 (by assumption) ?restb16
          case hib16 => (simp only [List.getElem?_toArray, List.getElem?_cons_zero, List.getElem?_cons_succ]; rfl)
          case hfb16 => kernel_rfl
          case hrb16 => kernel_rfl
          case hyb16 => exact Or.inr ⟨by rfl, rfl⟩
          case hQb16 => exact fun _ _ _ h => h
          (try simp only [Act.put, List.setIfInBounds_toArray, List.set_cons_zero, List.set_cons_succ])
          refine wpAnyH_take (i := 17) (oi := ?_) (v := undef) ?hib17 (by kernel_rfl) ?hfb17 ?hrb17 ?hQb17 ?hyb17 (by assumption) ?restb17
          case hib17 => (simp only [List.getElem?_toArray, List.getElem?_cons_zero, List.getElem?_cons_succ]; rfl)
          case hfb17 => kernel_rfl
          case hrb17 => kernel_rfl
          case hyb17 => exact Or.inr ⟨by rfl, rfl⟩
          case hQb17 => exact fun _ _ _ h => h
          (try simp only [Act.put, List.setIfInBounds_toArray, List.set_cons_zero, List.set_cons_succ])
          refine wpAnyH_take (i := 18) (oi := ?_) (v := undef) ?hib18 (by kernel_rfl) ?hfb18 ?hrb18 ?hQb18 ?hyb18 (by assumption) ?restb18
          case hib18 => (simp only [List.getElem?_toArray, List.getElem?_cons_zero, List.getElem?_cons_succ]; rfl)
          case hfb18 => kernel_rfl
          case hrb18 => kernel_rfl
          case hyb18 => exact Or.inr ⟨by rfl, rfl⟩
          case hQb18 => exact fun _ _ _ h => h
          (try simp only [Act.put, List.setIfInBounds_toArray, List.set_cons_zero, List.set_cons_succ])
          refine wpAnyH_take (i := 19) (oi := ?_) (v := undef) ?hib19 (by kernel_rfl) ?hfb19 ?hrb19 ?hQb19 ?hyb19 (by assumption) ?restb19
          case hib19 => (simp only [List.getElem?_toArray, List.getElem?_cons_zero, List.getElem?_cons_succ]; rfl)
          case hfb19 => kernel_rfl
          case hrb19 => kernel_rfl
          case hyb19 => exact Or.inr ⟨by rfl, rfl⟩
          case hQb19 => exact fun _ _ _ h => h
          (try simp only [Act.put, List.setIfInBounds_toArray, List.set_cons_zero, List.set_cons_succ])
          refine wpAnyH_take (i := 20) (oi := ?_) (v := undef) ?hib20 (by kernel_rfl) ?hfb20 ?hrb20 ?hQb20 ?hyb20 (by assumption) ?restb20
          case hib20 => (simp only [List.getElem?_toArray, List.getElem?_cons_zero, List.getElem?_cons_succ]; rfl)
          case hfb20 => kernel_rfl
          case hrb20 => kernel_rfl
          case hyb20 => exact Or.inr ⟨by rfl, rfl⟩
          case hQb20 => exact fun _ _ _ h => h
          (try simp only [Act.put, List.setIfInBounds_toArray, List.set_cons_zero, List.set_cons_succ])
          refine wpAnyH_take (i := 21) (oi := ?_) (v := undef) ?hib21 (by kernel_rfl) ?hfb21 ?hrb21 ?hQb21 ?hyb21 (by assumption) ?restb21
          case hib21 => (simp only [List.getElem?_toArray, List.getElem?_cons_zero, List.getElem?_cons_succ]; rfl)
          case hfb21 => kernel_rfl
          case hrb21 => kernel_rfl
          case hyb21 => exact Or.inr ⟨by rfl, rfl⟩
          case hQb21 => exact fun _ _ _ h => h
          (try simp only [Act.put, List.setIfInBounds_toArray, List.set_cons_zero, List.set_cons_succ])
          refine wpAnyH_take (i := 22) (oi := ?_) (v := undef) ?hib22 (by kernel_rfl) ?hfb22 ?hrb22 ?hQb22 ?hyb22 (by assumption) ?restb22
          case hib22 => (simp only [List.getElem?_toArray, List.getElem?_cons_zero, List.getElem?_cons_succ]; rfl)
          case hfb22 => kernel_rfl
          case hrb22 => kernel_rfl
          case hyb22 => exact Or.inr ⟨by rfl, rfl⟩
          case hQb22 => exact fun _ _ _ h => h
          (try simp only [Act.put, List.setIfInBounds_toArray, List.set_cons_zero, List.set_cons_succ])
          refine wpAnyH_take (i := 23) (oi := ?_) (v := undef) ?hib23 (by kernel_rfl) ?hfb23 ?hrb23 ?hQb23 ?hyb23 (by assumption) ?restb23
          case hib23 => (simp only [List.getElem?_toArray, List.getElem?_cons_zero, List.getElem?_cons_succ]; rfl)
          case hfb23 => kernel_rfl
          case hrb23 => kernel_rfl
          case hyb23 => exact Or.inr ⟨by rfl, rfl⟩
          case hQb23 => exact fun _ _ _ h => h
          (try simp only [Act.put, List.setIfInBounds_toArray, List.set_cons_zero, List.set_cons_succ])
          refine wpAnyH_take (i := 24) (oi := ?_) (v := undef) ?hib24 (by kernel_rfl) ?hfb24 ?hrb24 ?hQb24 ?hyb24 (by assumption) ?restb24
          case hib24 => (simp only [List.getElem?_toArray, List.getElem?_cons_zero, List.getElem?_cons_succ]; rfl)
          case hfb24 => kernel_rfl
          case hrb24 => kernel_rfl
          case hyb24 => exact Or.inr ⟨by rfl, rfl⟩
          case hQb24 => exact fun _ _ _ h => h
          (try simp only [Act.put, List.setIfInBounds_toArray, List.set_cons_zero, List.set_cons_succ])
          refine wpAnyH_take (i := 25) (oi := ?_) (v := undef) ?hib25 (by kernel_rfl) ?hfb25 ?hrb25 ?hQb25 ?hyb25 (by assumption) ?restb25
          case hib25 => (simp only [List.getElem?_toArray, List.getElem?_cons_zero, List.getElem?_cons_succ]; rfl)
          case hfb25 => kernel_rfl
          case hrb25 => kernel_rfl
          case hyb25 => exact Or.inr ⟨by rfl, rfl⟩
          case hQb25 => exact fun _ _ _ h => h
          (try simp only [Act.put, List.setIfInBounds_toArray, List.set_cons_zero, List.set_cons_succ])
          refine wpAnyH_take (i := 26) (oi := ?_) (v := undef) ?hib26 (by kernel_rfl) ?hfb26 ?hrb26 ?hQb26 ?hyb26 (by assumption) ?restb26
          case hib26 => (simp only [List.getElem?_toArray, List.getElem?_cons_zero, List.getElem?_cons_succ]; rfl)
          case hfb26 => kernel_rfl
          case hrb26 => kernel_rfl
          case hyb26 => exact Or.inr ⟨by rfl, rfl⟩
          case hQb26 => exact fun _ _ _ h => h
          (try simp only [Act.put, List.setIfInBounds_toArray, List.set_cons_zero, List.set_cons_succ])
          refine wpAnyH_take (i := 27) (oi := ?_) (v := undef) ?hib27 (by kernel_rfl) ?hfb27 ?hrb27 ?hQb27 ?hyb27 (by assumption) ?restb27
          case hib27 => (simp only [List.getElem?_toArray, List.getElem?_cons_zero, List.getElem?_cons_succ]; rfl)
          case hfb27 => kernel_rfl
          case hrb27 => kernel_rfl
          case hyb27 => exact Or.inr ⟨by rfl, rfl⟩
          case hQb27 => exact fun _ _ _ h => h
          (try simp only [Act.put, List.setIfInBounds_toArray, List.set_cons_zero, List.set_cons_succ])
          refine wpAnyH_take (i := 28) (oi := ?_) (v := undef) ?hib28 (by kernel_rfl) ?hfb28 ?hrb28 ?hQb28 ?hyb28 (by assumption) ?restb28
          case hib28 => (simp only [List.getElem?_toArray, List.getElem?_cons_zero, List.getElem?_cons_succ]; rfl)
          case hfb28 => kernel_rfl
          case hrb28 => kernel_rfl
          case hyb28 => exact Or.inr ⟨by rfl, rfl⟩
          case hQb28 => exact fun _ _ _ h => h
          (try simp only [Act.put, List.setIfInBounds_toArray, List.set_cons_zero, List.set_cons_succ])
          refine wpAnyH_take (i := 29) (oi := ?_) (v := undef) ?hib29 (by kernel_rfl) ?hfb29 ?hrb29 ?hQb29 ?hyb29 (by assumption) ?restb29
          case hib29 => (simp only [List.getElem?_toArray, List.getElem?_cons_zero, List.getElem?_cons_succ]; rfl)
          case hfb29 => kernel_rfl
          case hrb29 => kernel_rfl
          case hyb29 => exact Or.inr ⟨by rfl, rfl⟩
          case hQb29 => exact fun _ _ _ h => h
          (try simp only [Act.put, List.setIfInBounds_toArray, List.set_cons_zero, List.set_cons_succ])
          refine wpAnyH_take (i := 30) (oi := ?_) (v := undef) ?hib30 (by kernel_rfl) ?hfb30 ?hrb30 ?hQb30 ?hyb30 (by assumption) ?restb30
          case hib30 => (simp only [List.getElem?_toArray, List.getElem?_cons_zero, List.getElem?_cons_succ]; rfl)
          case hfb30 => kernel_rfl
          case hrb30 => kernel_rfl
          case hyb30 => exact Or.inr ⟨by rfl, rfl⟩
          case hQb30 => exact fun _ _ _ h => h
          (try simp only [Act.put, List.setIfInBounds_toArray, List.set_cons_zero, List.set_cons_succ])
          refine wpAnyH_take (i := 31) (oi := ?_) (v := ?_) ?hib31 (by kernel_rfl) ?hfb31 ?hrb31 ?hQb31 ?hyb31 (by assumption) ?restb31
          case hib31 => (simp only [List.getElem?_toArray, List.getElem?_cons_zero, List.getElem?_cons_succ]; rfl)
          case hfb31 => kernel_rfl
          case hrb31 => kernel_rfl
          case hyb31 => (refine Or.inl ⟨by rfl, ?_⟩; intro wS hSw; (try dsimp only at hSw); go_simp; (try with_reducible rfl))
          case hQb31 => exact fun _ _ _ h => h
          (try simp only [Act.put, List.setIfInBounds_toArray, List.set_cons_zero, List.set_cons_succ])
          refine wpAnyH_take (i := 32) (oi := ?_) (v := ?_) ?hib32 (by kernel_rfl) ?hfb32 ?hrb32 ?hQb32 ?hyb32 (by assumption) ?restb32
          case hib32 => (simp only [List.getElem?_toArray, List.getElem?_cons_zero, List.getElem?_cons_succ]; rfl)
          case hfb32 => kernel_rfl
          case hrb32 => kernel_rfl
          case hyb32 => (refine Or.inl ⟨by rfl, ?_⟩; intro wS hSw; (try dsimp only at hSw); go_simp; (try with_reducible rfl))
          case hQb32 => exact fun _ _ _ h => h
          (try simp only [Act.put, List.setIfInBounds_toArray, List.set_cons_zero, List.set_cons_succ])
          refine wpAnyH_take (i := 33) (oi := ?_) (v := ?_) ?hib33 (by kernel_rfl) ?hfb33 ?hrb33 ?hQb33 ?hyb33 (by assumption) ?restb33
          case hib33 => (simp only [List.getElem?_toArray, List.getElem?_cons_zero, List.getElem?_cons_succ]; rfl)
          case hfb33 => kernel_rfl
          case hrb33 => kernel_rfl
          case hyb33 => (refine Or.inl ⟨by rfl, ?_⟩; intro wS hSw; (try dsimp only at hSw); go_simp; (try with_reducible rfl))
          case hQb33 => exact fun _ _ _ h => h
          (try simp only [Act.put, List.setIfInBounds_toArray, List.set_cons_zero, List.set_cons_succ])
          refine wpAnyH_take (i := 34) (oi := ?_) (v := ?_) ?hib34 (by kernel_rfl) ?hfb34 ?hrb34 ?hQb34 ?hyb34 (by assumption) ?restb34
          case hib34 => (simp only [List.getElem?_toArray, List.getElem?_cons_zero, List.getElem?_cons_succ]; rfl)
          case hfb34 => kernel_rfl
          case hrb34 => kernel_rfl
          case hyb34 => (refine Or.inl ⟨by rfl, ?_⟩; intro wS hSw; (try dsimp only at hSw); go_simp; (try with_reducible rfl))
          case hQb34 => exact fun _ _ _ h => h
          (try simp only [Act.put, List.setIfInBounds_toArray, List.set_cons_zero, List.set_cons_succ])
          refine wpAnyH_take (i := 35) (oi := ?_) (v := ?_) ?hib35 (by kernel_rfl) ?hfb35 ?hrb35 ?hQb35 ?hyb35 (by assumption) ?restb35
          case hib35 => (simp only [List.getElem?_toArray, List.getElem?_cons_zero, List.getElem?_cons_succ]; rfl)
          case hfb35 => kernel_rfl
          case hrb35 => kernel_rfl
          case hyb35 => (refine Or.inl ⟨by rfl, ?_⟩; intro wS hSw; (try dsimp only at hSw); go_simp; (try with_reducible rfl))
          case hQb35 => exact fun _ _ _ h => h
          (try simp only [Act.put, List.setIfInBounds_toArray, List.set_cons_zero, List.set_cons_succ])
          refine wpAnyH_take (i := 36) (oi := ?_) (v := ?_) ?hib36 (by kernel_rfl) ?hfb36 ?hrb36 ?hQb36 ?hyb36 (by assumption) ?restb36
          case hib36 => (simp only [List.getElem?_toArray, List.getElem?_cons_zero, List.getElem?_cons_succ]; rfl)
          case hfb36 => kernel_rfl
          case hrb36 => kernel_rfl
          case hyb36 => (refine Or.inl ⟨by rfl, ?_⟩; intro wS hSw; (try dsimp only at hSw); go_simp; (try with_reducible rfl))
          case hQb36 => exact fun _ _ _ h => h
          (try simp only [Act.put, List.setIfInBounds_toArray, List.set_cons_zero, List.set_cons_succ])
          refine wpAnyH_take (i := 37) (oi := ?_) (v := ?_) ?hib37 (by kernel_rfl) ?hfb37 ?hrb37 ?hQb37 ?hyb37 (by assumption) ?restb37
          case hib37 => (simp only [List.getElem?_toArray, List.getElem?_cons_zero, List.getElem?_cons_succ]; rfl)
          case hfb37 => kernel_rfl
          case hrb37 => kernel_rfl
          case hyb37 => (refine Or.inl ⟨by rfl, ?_⟩; intro wS hSw; (try dsimp only at hSw); go_simp; (try with_reducible rfl))
          case hQb37 => exact fun _ _ _ h => h
          (try simp only [Act.put, List.setIfInBounds_toArray, List.set_cons_zero, List.set_cons_succ])
          refine wpAnyH_take (i := 38) (oi := ?_) (v := ?_) ?hib38 (by kernel_rfl) ?hfb38 ?hrb38 ?hQb38 ?hyb38 (by assumption) ?restb38
          case hib38 => (simp only [List.getElem?_toArray, List.getElem?_cons_zero, List.getElem?_cons_succ]; rfl)
          case hfb38 => kernel_rfl
          case hrb38 => kernel_rfl
          case hyb38 => (refine Or.inl ⟨by rfl, ?_⟩; intro wS hSw; (try dsimp only at hSw); go_simp; (try with_reducible rfl))
          case hQb38 => exact fun _ _ _ h => h
          (try simp only [Act.put, List.setIfInBounds_toArray, List.set_cons_zero, List.set_cons_succ])
          refine wpAnyH_take (i := 39) (oi := ?_) (v := ?_) ?hib39 (by kernel_rfl) ?hfb39 ?hrb39 ?hQb39 ?hyb39 (by assumption) ?restb39
          case hib39 => (simp only [List.getElem?_toArray, List.getElem?_cons_zero, List.getElem?_cons_succ]; rfl)
          case hfb39 => kernel_rfl
          case hrb39 => kernel_rfl
          case hyb39 => (refine Or.inl ⟨by rfl, ?_⟩; intro wS hSw; (try dsimp only at hSw); go_simp; (try with_reducible rfl))
          case hQb39 => exact fun _ _ _ h => h
          (try simp only [Act.put, List.setIfInBounds_toArray, List.set_cons_zero, List.set_cons_succ])
          refine wpAnyH_take (i := 40) (oi := ?_) (v := ?_) ?hib40 (by kernel_rfl) ?hfb40 ?hrb40 ?hQb40 ?hyb40 (by assumption) ?restb40
          case hib40 => (simp only [List.getElem?_toArray, List.getElem?_cons_zero, List.getElem?_cons_succ]; rfl)
          case hfb40 => kernel_rfl
          case hrb40 => kernel_rfl
          case hyb40 => (refine Or.inl ⟨by rfl, ?_⟩; intro wS hSw; (try dsimp only at hSw); go_simp; (try with_reducible rfl))
          case hQb40 => exact fun _ _ _ h => h
          (try simp only [Act.put, List.setIfInBounds_toArray, List.set_cons_zero, List.set_cons_succ])
          refine wpAnyH_take (i := 41) (oi := ?_) (v := ?_) ?hib41 (by kernel_rfl) ?hfb41 ?hrb41 ?hQb41 ?hyb41 (by assumption) ?restb41
          case hib41 => (simp only [List.getElem?_toArray, List.getElem?_cons_zero, List.getElem?_cons_succ]; rfl)
          case hfb41 => kernel_rfl
          case hrb41 => kernel_rfl
          case hyb41 => (refine Or.inl ⟨by rfl, ?_⟩; intro wS hSw; (try dsimp only at hSw); go_simp; (try with_reducible rfl))
          case hQb41 => exact fun _ _ _ h => h
          (try simp only [Act.put, List.setIfInBounds_toArray, List.set_cons_zero, List.set_cons_succ])
          refine wpAnyH_done (by kernel_rfl) ?_ _
          have H7 := Lib.hid (by assumption : _ ∧ _ ∧ _ ∧ _ ∧ _ ∧ _ ∧ S9 w a1 a2 0 c1 c2 b3 n wc.heap.size _).2.2.2.2.2.2
          go_wp2_with fail
          go_round
          case rel => exact ⟨k + 1, by omega, by first | rfl | go_num, H7.out.1, H7.out.2⟩
          case measure => simp [RowKit.intOf]; omega

        · by_cases hv8 : 8 < v
          · have HN := Lib.hid (show ∀ W : World, Calls Tryd.prog 13 #[.agg #[.int .u32 a1, .int .u32 a2, .int .u16 a3], .int .i64 v] W fun e w' => e = .returned (.tuple #[.agg #[.int .u32 0, .int .u32 0, .int .u16 0], .bool false]) ∧ Below W.heap.size W w' from fun W => by have h := nested_any a1 a2 a3 v W; unfold nestV at h; rw [if_neg (by omega)] at h; exact h)
            have HGE := Lib.hid (show decide (1 ≤ v) = true by rw [decide_eq_true_eq]; omega)
            have HLE := Lib.hid (show decide (v ≤ 8) = false by rw [decide_eq_false_iff_not]; omega)
            clear hv1 hv8
            subst h3
            go_wp2_with fail
            go_at_call 13; refine (HN.out _).mono ?_; rintro e w2 ⟨rfl, hb2⟩
            have H6 := Lib.hid (so_step H5.out hb2)
            have R6 := Lib.hid (row_step R5.out hb2)
            have h8 := s8_new (.int .u32 0) (.int .u32 0) (.int .u16 0) (so_step H5.out hb2) (row_step R5.out hb2)
            clear hb2 x0 x1 x2 y0 y1 y2 hv
            obtain ⟨⟨x0, x1, x2⟩, _⟩ := so_cells H6.out
            have xlt := (rw_cells H6.out.1).2.2
            go_wp2_with fail
            clear x0 x1 x2 xlt
            generalize w2.alloc (.cells #[.int .u32 0, .int .u32 0, .int .u16 0] 25) = w3 at h8 ⊢
            (try have hge := HGE.out)
            (try have hle := HLE.out)
            refine wp_region_held_drew (S := (fun w' => w'.cell? ⟨w.heap.size, 0, none⟩ = some (.int .u32 a1) ∧ w'.cell? ⟨w.heap.size, 1, none⟩ = some (.int .u32 a2) ∧ w'.cell? ⟨w.heap.size, 2, none⟩ = some (.int .u16 0) ∧ w'.cell? ⟨w2.heap.size, 0, none⟩ = some (.int .u32 0) ∧ w'.cell? ⟨w2.heap.size, 1, none⟩ = some (.int .u32 0) ∧ w'.cell? ⟨w2.heap.size, 2, none⟩ = some (.int .u16 0) ∧ S9 w a1 a2 0 c1 c2 b3 n wc.heap.size w')) (by kernel_rfl) ?_ (fun hHeld => ?_)
            · exact s8_drew h8
            refine wpAnyH_take (i := 0) (oi := ?_) (v := ?_) ?hic0 (by kernel_rfl) ?hfc0 ?hrc0 ?hQc0 ?hyc0 (by assumption) ?restc0
            case hic0 => (simp only [List.getElem?_toArray, List.getElem?_cons_zero, List.getElem?_cons_succ]; rfl)
            case hfc0 => kernel_rfl
            case hrc0 => kernel_rfl
            case hyc0 => (refine Or.inl ⟨by rfl, ?_⟩; intro wS hSw; (try dsimp only at hSw); go_simp; (try with_reducible rfl))
            case hQc0 => exact fun _ _ _ h => h
            (try simp only [Act.put, List.setIfInBounds_toArray, List.set_cons_zero, List.set_cons_succ])
            refine wpAnyH_take (i := 1) (oi := ?_) (v := ?_) ?hic1 (by kernel_rfl) ?hfc1 ?hrc1 ?hQc1 ?hyc1 (by assumption) ?restc1
            case hic1 => (simp only [List.getElem?_toArray, List.getElem?_cons_zero, List.getElem?_cons_succ]; rfl)
            case hfc1 => kernel_rfl
            case hrc1 => kernel_rfl
            case hyc1 => (refine Or.inl ⟨by rfl, ?_⟩; intro wS hSw; (try dsimp only at hSw); go_simp; (try with_reducible rfl))
            case hQc1 => exact fun _ _ _ h => h
            (try simp only [Act.put, List.setIfInBounds_toArray, List.set_cons_zero, List.set_cons_succ])
            refine wpAnyH_take (i := 2) (oi := ?_) (v := ?_) ?hic2 (by kernel_rfl) ?hfc2 ?hrc2 ?hQc2 ?hyc2 (by assumption) ?restc2
            case hic2 => (simp only [List.getElem?_toArray, List.getElem?_cons_zero, List.getElem?_cons_succ]; rfl)
            case hfc2 => kernel_rfl
            case hrc2 => kernel_rfl
            case hyc2 => (refine Or.inl ⟨by rfl, ?_⟩; intro wS hSw; (try dsimp only at hSw); go_simp; (try with_reducible rfl))
            case hQc2 => exact fun _ _ _ h => h
            (try simp only [Act.put, List.setIfInBounds_toArray, List.set_cons_zero, List.set_cons_succ])
            refine wpAnyH_take (i := 3) (oi := ?_) (v := ?_) ?hic3 (by kernel_rfl) ?hfc3 ?hrc3 ?hQc3 ?hyc3 (by assumption) ?restc3
            case hic3 => (simp only [List.getElem?_toArray, List.getElem?_cons_zero, List.getElem?_cons_succ]; rfl)
            case hfc3 => kernel_rfl
            case hrc3 => kernel_rfl
            case hyc3 => (refine Or.inl ⟨by rfl, ?_⟩; intro wS hSw; (try dsimp only at hSw); go_simp; (try with_reducible rfl))
            case hQc3 => exact fun _ _ _ h => h
            (try simp only [Act.put, List.setIfInBounds_toArray, List.set_cons_zero, List.set_cons_succ])
            refine wpAnyH_take (i := 4) (oi := ?_) (v := ?_) ?hic4 (by kernel_rfl) ?hfc4 ?hrc4 ?hQc4 ?hyc4 (by assumption) ?restc4
            case hic4 => (simp only [List.getElem?_toArray, List.getElem?_cons_zero, List.getElem?_cons_succ]; rfl)
            case hfc4 => kernel_rfl
            case hrc4 => kernel_rfl
            case hyc4 => (refine Or.inl ⟨by rfl, ?_⟩; intro wS hSw; (try dsimp only at hSw); go_simp; (try with_reducible rfl))
            case hQc4 => exact fun _ _ _ h => h
            (try simp only [Act.put, List.setIfInBounds_toArray, List.set_cons_zero, List.set_cons_succ])
            refine wpAnyH_take (i := 5) (oi := ?_) (v := ?_) ?hic5 (by kernel_rfl) ?hfc5 ?hrc5 ?hQc5 ?hyc5 (by assumption) ?restc5
            case hic5 => (simp only [List.getElem?_toArray, List.getElem?_cons_zero, List.getElem?_cons_succ]; rfl)
            case hfc5 => kernel_rfl
            case hrc5 => kernel_rfl
            case hyc5 => (refine Or.inl ⟨by rfl, ?_⟩; intro wS hSw; (try dsimp only at hSw); go_simp; (try with_reducible rfl))
            case hQc5 => exact fun _ _ _ h => h
            (try simp only [Act.put, List.setIfInBounds_toArray, List.set_cons_zero, List.set_cons_succ])
            refine wpAnyH_take (i := 6) (oi := ?_) (v := ?_) ?hic6 (by kernel_rfl) ?hfc6 ?hrc6 ?hQc6 ?hyc6 (by assumption) ?restc6
            case hic6 => (simp only [List.getElem?_toArray, List.getElem?_cons_zero, List.getElem?_cons_succ]; rfl)
            case hfc6 => kernel_rfl
            case hrc6 => kernel_rfl
            case hyc6 => (refine Or.inl ⟨by rfl, ?_⟩; intro wS hSw; (try dsimp only at hSw); go_simp; (try with_reducible rfl))
            case hQc6 => exact fun _ _ _ h => h
            (try simp only [Act.put, List.setIfInBounds_toArray, List.set_cons_zero, List.set_cons_succ])
            refine wpAnyH_take (i := 7) (oi := ?_) (v := ?_) ?hic7 (by kernel_rfl) ?hfc7 ?hrc7 ?hQc7 ?hyc7 (by assumption) ?restc7
            case hic7 => (simp only [List.getElem?_toArray, List.getElem?_cons_zero, List.getElem?_cons_succ]; rfl)
            case hfc7 => kernel_rfl
            case hrc7 => kernel_rfl
            case hyc7 => (refine Or.inl ⟨by rfl, ?_⟩; intro wS hSw; (try dsimp only at hSw); go_simp; (try with_reducible rfl))
            case hQc7 => exact fun _ _ _ h => h
            (try simp only [Act.put, List.setIfInBounds_toArray, List.set_cons_zero, List.set_cons_succ])
            refine wpAnyH_take (i := 8) (oi := ?_) (v := ?_) ?hic8 (by kernel_rfl) ?hfc8 ?hrc8 ?hQc8 ?hyc8 (by assumption) ?restc8
            case hic8 => (simp only [List.getElem?_toArray, List.getElem?_cons_zero, List.getElem?_cons_succ]; rfl)
            case hfc8 => kernel_rfl
            case hrc8 => kernel_rfl
            case hyc8 => (refine Or.inl ⟨by rfl, ?_⟩; intro wS hSw; (try dsimp only at hSw); go_simp; (try with_reducible rfl))
            case hQc8 => exact fun _ _ _ h => h
            (try simp only [Act.put, List.setIfInBounds_toArray, List.set_cons_zero, List.set_cons_succ])
            refine wpAnyH_take (i := 9) (oi := ?_) (v := ?_) ?hic9 (by kernel_rfl) ?hfc9 ?hrc9 ?hQc9 ?hyc9 (by assumption) ?restc9
            case hic9 => (simp only [List.getElem?_toArray, List.getElem?_cons_zero, List.getElem?_cons_succ]; rfl)
            case hfc9 => kernel_rfl
            case hrc9 => kernel_rfl
            case hyc9 => (refine Or.inl ⟨by rfl, ?_⟩; intro wS hSw; (try dsimp only at hSw); go_simp; (try with_reducible rfl))
            case hQc9 => exact fun _ _ _ h => h
            (try simp only [Act.put, List.setIfInBounds_toArray, List.set_cons_zero, List.set_cons_succ])
            refine wpAnyH_take (i := 10) (oi := ?_) (v := ?_) ?hic10 (by kernel_rfl) ?hfc10 ?hrc10 ?hQc10 ?hyc10 (by assumption) ?restc10
            case hic10 => (simp only [List.getElem?_toArray, List.getElem?_cons_zero, List.getElem?_cons_succ]; rfl)
            case hfc10 => kernel_rfl
            case hrc10 => kernel_rfl
            case hyc10 => (refine Or.inl ⟨by rfl, ?_⟩; intro wS hSw; (try dsimp only at hSw); go_simp; (try with_reducible rfl))
            case hQc10 => exact fun _ _ _ h => h
            (try simp only [Act.put, List.setIfInBounds_toArray, List.set_cons_zero, List.set_cons_succ])
            refine wpAnyH_take (i := 11) (oi := ?_) (v := ?_) ?hic11 (by kernel_rfl) ?hfc11 ?hrc11 ?hQc11 ?hyc11 (by assumption) ?restc11
            case hic11 => (simp only [List.getElem?_toArray, List.getElem?_cons_zero, List.getElem?_cons_succ]; rfl)
            case hfc11 => kernel_rfl
            case hrc11 => kernel_rfl
            case hyc11 => (refine Or.inl ⟨by rfl, ?_⟩; intro wS hSw; (try dsimp only at hSw); go_simp; (try with_reducible rfl))
            case hQc11 => exact fun _ _ _ h => h
            (try simp only [Act.put, List.setIfInBounds_toArray, List.set_cons_zero, List.set_cons_succ])
            refine wpAnyH_take (i := 12) (oi := ?_) (v := ?_) ?hic12 (by kernel_rfl) ?hfc12 ?hrc12 ?hQc12 ?hyc12 (by assumption) ?restc12
            case hic12 => (simp only [List.getElem?_toArray, List.getElem?_cons_zero, List.getElem?_cons_succ]; rfl)
            case hfc12 => kernel_rfl
            case hrc12 => kernel_rfl
            case hyc12 => (refine Or.inl ⟨by rfl, ?_⟩; intro wS hSw; (try dsimp only at hSw); go_simp; (try with_reducible rfl))
            case hQc12 => exact fun _ _ _ h => h
            (try simp only [Act.put, List.setIfInBounds_toArray, List.set_cons_zero, List.set_cons_succ])
            refine wpAnyH_take (i := 13) (oi := ?_) (v := ?_) ?hic13 (by kernel_rfl) ?hfc13 ?hrc13 ?hQc13 ?hyc13 (by assumption) ?restc13
            case hic13 => (simp only [List.getElem?_toArray, List.getElem?_cons_zero, List.getElem?_cons_succ]; rfl)
            case hfc13 => kernel_rfl
            case hrc13 => kernel_rfl
            case hyc13 => (refine Or.inl ⟨by rfl, ?_⟩; intro wS hSw; (try dsimp only at hSw); go_simp; (try with_reducible rfl))
            case hQc13 => exact fun _ _ _ h => h
            (try simp only [Act.put, List.setIfInBounds_toArray, List.set_cons_zero, List.set_cons_succ])
            refine wpAnyH_take (i := 14) (oi := ?_) (v := ?_) ?hic14 (by kernel_rfl) ?hfc14 ?hrc14 ?hQc14 ?hyc14 (by assumption) ?restc14
            case hic14 => (simp only [List.getElem?_toArray, List.getElem?_cons_zero, List.getElem?_cons_succ]; rfl)
            case hfc14 => kernel_rfl
            case hrc14 => kernel_rfl
            case hyc14 => (refine Or.inl ⟨by rfl, ?_⟩; intro wS hSw; (try dsimp only at hSw); go_simp; (try with_reducible rfl))
            case hQc14 => exact fun _ _ _ h => h
            (try simp only [Act.put, List.setIfInBounds_toArray, List.set_cons_zero, List.set_cons_succ])
            refine wpAnyH_take (i := 15) (oi := ?_) (v := ?_) ?hic15 (by kernel_rfl) ?hfc15 ?hrc15 ?hQc15 ?hyc15 (by assumption) ?restc15
            case hic15 => (simp only [List.getElem?_toArray, List.getElem?_cons_zero, List.getElem?_cons_succ]; rfl)
            case hfc15 => kernel_rfl
            case hrc15 => kernel_rfl
            case hyc15 => (refine Or.inl ⟨by rfl, ?_⟩; intro wS hSw; (try dsimp only at hSw); go_simp; (try with_reducible rfl))
            case hQc15 => exact fun _ _ _ h => h
            (try simp only [Act.put, List.setIfInBounds_toArray, List.set_cons_zero, List.set_cons_succ])
            refine wpAnyH_take (i := 16) (oi := ?_) (v := undef) ?hic16 (by kernel_rfl) ?hfc16 ?hrc16 ?hQc16 ?hyc16 (by assumption) ?restc16
            case hic16 => (simp only [List.getElem?_toArray, List.getElem?_cons_zero, List.getElem?_cons_succ]; rfl)
            case hfc16 => kernel_rfl
            case hrc16 => kernel_rfl
            case hyc16 => exact Or.inr ⟨by rfl, rfl⟩
            case hQc16 => exact fun _ _ _ h => h
            (try simp only [Act.put, List.setIfInBounds_toArray, List.set_cons_zero, List.set_cons_succ])
            refine wpAnyH_take (i := 17) (oi := ?_) (v := undef) ?hic17 (by kernel_rfl) ?hfc17 ?hrc17 ?hQc17 ?hyc17 (by assumption) ?restc17
            case hic17 => (simp only [List.getElem?_toArray, List.getElem?_cons_zero, List.getElem?_cons_succ]; rfl)
            case hfc17 => kernel_rfl
            case hrc17 => kernel_rfl
            case hyc17 => exact Or.inr ⟨by rfl, rfl⟩
            case hQc17 => exact fun _ _ _ h => h
            (try simp only [Act.put, List.setIfInBounds_toArray, List.set_cons_zero, List.set_cons_succ])
            refine wpAnyH_take (i := 18) (oi := ?_) (v := undef) ?hic18 (by kernel_rfl) ?hfc18 ?hrc18 ?hQc18 ?hyc18 (by assumption) ?restc18
            case hic18 => (simp only [List.getElem?_toArray, List.getElem?_cons_zero, List.getElem?_cons_succ]; rfl)
            case hfc18 => kernel_rfl
            case hrc18 => kernel_rfl
            case hyc18 => exact Or.inr ⟨by rfl, rfl⟩
            case hQc18 => exact fun _ _ _ h => h
            (try simp only [Act.put, List.setIfInBounds_toArray, List.set_cons_zero, List.set_cons_succ])
            refine wpAnyH_take (i := 19) (oi := ?_) (v := undef) ?hic19 (by kernel_rfl) ?hfc19 ?hrc19 ?hQc19 ?hyc19 (by assumption) ?restc19
            case hic19 => (simp only [List.getElem?_toArray, List.getElem?_cons_zero, List.getElem?_cons_succ]; rfl)
            case hfc19 => kernel_rfl
            case hrc19 => kernel_rfl
            case hyc19 => exact Or.inr ⟨by rfl, rfl⟩
            case hQc19 => exact fun _ _ _ h => h
            (try simp only [Act.put, List.setIfInBounds_toArray, List.set_cons_zero, List.set_cons_succ])
            refine wpAnyH_take (i := 20) (oi := ?_) (v := undef) ?hic20 (by kernel_rfl) ?hfc20 ?hrc20 ?hQc20 ?hyc20 (by assumption) ?restc20
            case hic20 => (simp only [List.getElem?_toArray, List.getElem?_cons_zero, List.getElem?_cons_succ]; rfl)
            case hfc20 => kernel_rfl
            case hrc20 => kernel_rfl
            case hyc20 => exact Or.inr ⟨by rfl, rfl⟩
            case hQc20 => exact fun _ _ _ h => h
            (try simp only [Act.put, List.setIfInBounds_toArray, List.set_cons_zero, List.set_cons_succ])
            refine wpAnyH_take (i := 21) (oi := ?_) (v := undef) ?hic21 (by kernel_rfl) ?hfc21 ?hrc21 ?hQc21 ?hyc21 (by assumption) ?restc21
            case hic21 => (simp only [List.getElem?_toArray, List.getElem?_cons_zero, List.getElem?_cons_succ]; rfl)
            case hfc21 => kernel_rfl
            case hrc21 => kernel_rfl
            case hyc21 => exact Or.inr ⟨by rfl, rfl⟩
            case hQc21 => exact fun _ _ _ h => h
            (try simp only [Act.put, List.setIfInBounds_toArray, List.set_cons_zero, List.set_cons_succ])
            refine wpAnyH_take (i := 22) (oi := ?_) (v := undef) ?hic22 (by kernel_rfl) ?hfc22 ?hrc22 ?hQc22 ?hyc22 (by assumption) ?restc22
            case hic22 => (simp only [List.getElem?_toArray, List.getElem?_cons_zero, List.getElem?_cons_succ]; rfl)
            case hfc22 => kernel_rfl
            case hrc22 => kernel_rfl
            case hyc22 => exact Or.inr ⟨by rfl, rfl⟩
            case hQc22 => exact fun _ _ _ h => h
            (try simp only [Act.put, List.setIfInBounds_toArray, List.set_cons_zero, List.set_cons_succ])
            refine wpAnyH_take (i := 23) (oi := ?_) (v := undef) ?hic23 (by kernel_rfl) ?hfc23 ?hrc23 ?hQc23 ?hyc23 (by assumption) ?restc23
            case hic23 => (simp only [List.getElem?_toArray, List.getElem?_cons_zero, List.getElem?_cons_succ]; rfl)
            case hfc23 => kernel_rfl
            case hrc23 => kernel_rfl
            case hyc23 => exact Or.inr ⟨by rfl, rfl⟩
            case hQc23 => exact fun _ _ _ h => h
            (try simp only [Act.put, List.setIfInBounds_toArray, List.set_cons_zero, List.set_cons_succ])
            refine wpAnyH_take (i := 24) (oi := ?_) (v := undef) ?hic24 (by kernel_rfl) ?hfc24 ?hrc24 ?hQc24 ?hyc24 (by assumption) ?restc24
            case hic24 => (simp only [List.getElem?_toArray, List.getElem?_cons_zero, List.getElem?_cons_succ]; rfl)
            case hfc24 => kernel_rfl
            case hrc24 => kernel_rfl
            case hyc24 => exact Or.inr ⟨by rfl, rfl⟩
            case hQc24 => exact fun _ _ _ h => h
            (try simp only [Act.put, List.setIfInBounds_toArray, List.set_cons_zero, List.set_cons_succ])
            refine wpAnyH_take (i := 25) (oi := ?_) (v := undef) ?hic25 (by kernel_rfl) ?hfc25 ?hrc25 ?hQc25 ?hyc25 (by assumption) ?restc25
            case hic25 => (simp only [List.getElem?_toArray, List.getElem?_cons_zero, List.getElem?_cons_succ]; rfl)
            case hfc25 => kernel_rfl
            case hrc25 => kernel_rfl
            case hyc25 => exact Or.inr ⟨by rfl, rfl⟩
            case hQc25 => exact fun _ _ _ h => h
            (try simp only [Act.put, List.setIfInBounds_toArray, List.set_cons_zero, List.set_cons_succ])
            refine wpAnyH_take (i := 26) (oi := ?_) (v := undef) ?hic26 (by kernel_rfl) ?hfc26 ?hrc26 ?hQc26 ?hyc26 (by assumption) ?restc26
            case hic26 => (simp only [List.getElem?_toArray, List.getElem?_cons_zero, List.getElem?_cons_succ]; rfl)
            case hfc26 => kernel_rfl
            case hrc26 => kernel_rfl
            case hyc26 => exact Or.inr ⟨by rfl, rfl⟩
            case hQc26 => exact fun _ _ _ h => h
            (try simp only [Act.put, List.setIfInBounds_toArray, List.set_cons_zero, List.set_cons_succ])
            refine wpAnyH_take (i := 27) (oi := ?_) (v := undef) ?hic27 (by kernel_rfl) ?hfc27 ?hrc27 ?hQc27 ?hyc27 (by assumption) ?restc27
            case hic27 => (simp only [List.getElem?_toArray, List.getElem?_cons_zero, List.getElem?_cons_succ]; rfl)
            case hfc27 => kernel_rfl
            case hrc27 => kernel_rfl
            case hyc27 => exact Or.inr ⟨by rfl, rfl⟩
            case hQc27 => exact fun _ _ _ h => h
            (try simp only [Act.put, List.setIfInBounds_toArray, List.set_cons_zero, List.set_cons_succ])
            refine wpAnyH_take (i := 28) (oi := ?_) (v := undef) ?hic28 (by kernel_rfl) ?hfc28 ?hrc28 ?hQc28 ?hyc28 (by assumption) ?restc28
            case hic28 => (simp only [List.getElem?_toArray, List.getElem?_cons_zero, List.getElem?_cons_succ]; rfl)
            case hfc28 => kernel_rfl
            case hrc28 => kernel_rfl
            case hyc28 => exact Or.inr ⟨by rfl, rfl⟩
            case hQc28 => exact fun _ _ _ h => h
            (try simp only [Act.put, List.setIfInBounds_toArray, List.set_cons_zero, List.set_cons_succ])
            refine wpAnyH_take (i := 29) (oi := ?_) (v := undef) ?hic29 (by kernel_rfl) ?hfc29 ?hrc29 ?hQc29 ?hyc29 (by assumption) ?restc29
            case hic29 => (simp only [List.getElem?_toArray, List.getElem?_cons_zero, List.getElem?_cons_succ]; rfl)
            case hfc29 => kernel_rfl
            case hrc29 => kernel_rfl
            case hyc29 => exact Or.inr ⟨by rfl, rfl⟩
            case hQc29 => exact fun _ _ _ h => h
            (try simp only [Act.put, List.setIfInBounds_toArray, List.set_cons_zero, List.set_cons_succ])
            refine wpAnyH_take (i := 30) (oi := ?_) (v := undef) ?hic30 (by kernel_rfl) ?hfc30 ?hrc30 ?hQc30 ?hyc30 (by assumption) ?restc30
            case hic30 => (simp only [List.getElem?_toArray, List.getElem?_cons_zero, List.getElem?_cons_succ]; rfl)
            case hfc30 => kernel_rfl
            case hrc30 => kernel_rfl
            case hyc30 => exact Or.inr ⟨by rfl, rfl⟩
            case hQc30 => exact fun _ _ _ h => h
            (try simp only [Act.put, List.setIfInBounds_toArray, List.set_cons_zero, List.set_cons_succ])
            refine wpAnyH_take (i := 31) (oi := ?_) (v := ?_) ?hic31 (by kernel_rfl) ?hfc31 ?hrc31 ?hQc31 ?hyc31 (by assumption) ?restc31
            case hic31 => (simp only [List.getElem?_toArray, List.getElem?_cons_zero, List.getElem?_cons_succ]; rfl)
            case hfc31 => kernel_rfl
            case hrc31 => kernel_rfl
            case hyc31 => (refine Or.inl ⟨by rfl, ?_⟩; intro wS hSw; (try dsimp only at hSw); go_simp; (try with_reducible rfl))
            case hQc31 => exact fun _ _ _ h => h
            (try simp only [Act.put, List.setIfInBounds_toArray, List.set_cons_zero, List.set_cons_succ])
            refine wpAnyH_take (i := 32) (oi := ?_) (v := ?_) ?hic32 (by kernel_rfl) ?hfc32 ?hrc32 ?hQc32 ?hyc32 (by assumption) ?restc32
            case hic32 => (simp only [List.getElem?_toArray, List.getElem?_cons_zero, List.getElem?_cons_succ]; rfl)
            case hfc32 => kernel_rfl
            case hrc32 => kernel_rfl
            case hyc32 => (refine Or.inl ⟨by rfl, ?_⟩; intro wS hSw; (try dsimp only at hSw); go_simp; (try with_reducible rfl))
            case hQc32 => exact fun _ _ _ h => h
            (try simp only [Act.put, List.setIfInBounds_toArray, List.set_cons_zero, List.set_cons_succ])
            refine wpAnyH_take (i := 33) (oi := ?_) (v := ?_) ?hic33 (by kernel_rfl) ?hfc33 ?hrc33 ?hQc33 ?hyc33 (by assumption) ?restc33
            case hic33 => (simp only [List.getElem?_toArray, List.getElem?_cons_zero, List.getElem?_cons_succ]; rfl)
            case hfc33 => kernel_rfl
            case hrc33 => kernel_rfl
            case hyc33 => (refine Or.inl ⟨by rfl, ?_⟩; intro wS hSw; (try dsimp only at hSw); go_simp; (try with_reducible rfl))
            case hQc33 => exact fun _ _ _ h => h
            (try simp only [Act.put, List.setIfInBounds_toArray, List.set_cons_zero, List.set_cons_succ])
            refine wpAnyH_take (i := 34) (oi := ?_) (v := ?_) ?hic34 (by kernel_rfl) ?hfc34 ?hrc34 ?hQc34 ?hyc34 (by assumption) ?restc34
            case hic34 => (simp only [List.getElem?_toArray, List.getElem?_cons_zero, List.getElem?_cons_succ]; rfl)
            case hfc34 => kernel_rfl
            case hrc34 => kernel_rfl
            case hyc34 => (refine Or.inl ⟨by rfl, ?_⟩; intro wS hSw; (try dsimp only at hSw); go_simp; (try with_reducible rfl))
            case hQc34 => exact fun _ _ _ h => h
            (try simp only [Act.put, List.setIfInBounds_toArray, List.set_cons_zero, List.set_cons_succ])
            refine wpAnyH_take (i := 35) (oi := ?_) (v := ?_) ?hic35 (by kernel_rfl) ?hfc35 ?hrc35 ?hQc35 ?hyc35 (by assumption) ?restc35
            case hic35 => (simp only [List.getElem?_toArray, List.getElem?_cons_zero, List.getElem?_cons_succ]; rfl)
            case hfc35 => kernel_rfl
            case hrc35 => kernel_rfl
            case hyc35 => (refine Or.inl ⟨by rfl, ?_⟩; intro wS hSw; (try dsimp only at hSw); go_simp; (try with_reducible rfl))
            case hQc35 => exact fun _ _ _ h => h
            (try simp only [Act.put, List.setIfInBounds_toArray, List.set_cons_zero, List.set_cons_succ])
            refine wpAnyH_take (i := 36) (oi := ?_) (v := ?_) ?hic36 (by kernel_rfl) ?hfc36 ?hrc36 ?hQc36 ?hyc36 (by assumption) ?restc36
            case hic36 => (simp only [List.getElem?_toArray, List.getElem?_cons_zero, List.getElem?_cons_succ]; rfl)
            case hfc36 => kernel_rfl
            case hrc36 => kernel_rfl
            case hyc36 => (refine Or.inl ⟨by rfl, ?_⟩; intro wS hSw; (try dsimp only at hSw); go_simp; (try with_reducible rfl))
            case hQc36 => exact fun _ _ _ h => h
            (try simp only [Act.put, List.setIfInBounds_toArray, List.set_cons_zero, List.set_cons_succ])
            refine wpAnyH_take (i := 37) (oi := ?_) (v := ?_) ?hic37 (by kernel_rfl) ?hfc37 ?hrc37 ?hQc37 ?hyc37 (by assumption) ?restc37
            case hic37 => (simp only [List.getElem?_toArray, List.getElem?_cons_zero, List.getElem?_cons_succ]; rfl)
            case hfc37 => kernel_rfl
            case hrc37 => kernel_rfl
            case hyc37 => (refine Or.inl ⟨by rfl, ?_⟩; intro wS hSw; (try dsimp only at hSw); go_simp; (try with_reducible rfl))
            case hQc37 => exact fun _ _ _ h => h
            (try simp only [Act.put, List.setIfInBounds_toArray, List.set_cons_zero, List.set_cons_succ])
            refine wpAnyH_take (i := 38) (oi := ?_) (v := ?_) ?hic38 (by kernel_rfl) ?hfc38 ?hrc38 ?hQc38 ?hyc38 (by assumption) ?restc38
            case hic38 => (simp only [List.getElem?_toArray, List.getElem?_cons_zero, List.getElem?_cons_succ]; rfl)
            case hfc38 => kernel_rfl
            case hrc38 => kernel_rfl
            case hyc38 => (refine Or.inl ⟨by rfl, ?_⟩; intro wS hSw; (try dsimp only at hSw); go_simp; (try with_reducible rfl))
            case hQc38 => exact fun _ _ _ h => h
            (try simp only [Act.put, List.setIfInBounds_toArray, List.set_cons_zero, List.set_cons_succ])
            refine wpAnyH_take (i := 39) (oi := ?_) (v := ?_) ?hic39 (by kernel_rfl) ?hfc39 ?hrc39 ?hQc39 ?hyc39 (by assumption) ?restc39
            case hic39 => (simp only [List.getElem?_toArray, List.getElem?_cons_zero, List.getElem?_cons_succ]; rfl)
            case hfc39 => kernel_rfl
            case hrc39 => kernel_rfl
            case hyc39 => (refine Or.inl ⟨by rfl, ?_⟩; intro wS hSw; (try dsimp only at hSw); go_simp; (try with_reducible rfl))
            case hQc39 => exact fun _ _ _ h => h
            (try simp only [Act.put, List.setIfInBounds_toArray, List.set_cons_zero, List.set_cons_succ])
            refine wpAnyH_take (i := 40) (oi := ?_) (v := ?_) ?hic40 (by kernel_rfl) ?hfc40 ?hrc40 ?hQc40 ?hyc40 (by assumption) ?restc40
            case hic40 => (simp only [List.getElem?_toArray, List.getElem?_cons_zero, List.getElem?_cons_succ]; rfl)
            case hfc40 => kernel_rfl
            case hrc40 => kernel_rfl
            case hyc40 => (refine Or.inl ⟨by rfl, ?_⟩; intro wS hSw; (try dsimp only at hSw); go_simp; (try with_reducible rfl))
            case hQc40 => exact fun _ _ _ h => h
            (try simp only [Act.put, List.setIfInBounds_toArray, List.set_cons_zero, List.set_cons_succ])
            refine wpAnyH_take (i := 41) (oi := ?_) (v := ?_) ?hic41 (by kernel_rfl) ?hfc41 ?hrc41 ?hQc41 ?hyc41 (by assumption) ?restc41
            case hic41 => (simp only [List.getElem?_toArray, List.getElem?_cons_zero, List.getElem?_cons_succ]; rfl)
            case hfc41 => kernel_rfl
            case hrc41 => kernel_rfl
            case hyc41 => (refine Or.inl ⟨by rfl, ?_⟩; intro wS hSw; (try dsimp only at hSw); go_simp; (try with_reducible rfl))
            case hQc41 => exact fun _ _ _ h => h
            (try simp only [Act.put, List.setIfInBounds_toArray, List.set_cons_zero, List.set_cons_succ])
            refine wpAnyH_done (by kernel_rfl) ?_ _
            have H7 := Lib.hid (by assumption : _ ∧ _ ∧ _ ∧ _ ∧ _ ∧ _ ∧ S9 w a1 a2 0 c1 c2 b3 n wc.heap.size _).2.2.2.2.2.2
            go_wp2_with fail
            go_round
            case rel => exact ⟨k + 1, by omega, by first | rfl | go_num, H7.out.1, H7.out.2⟩
            case measure => simp [RowKit.intOf]; omega

          · have HN := Lib.hid (show ∀ W : World, Calls Tryd.prog 13 #[.agg #[.int .u32 a1, .int .u32 a2, .int .u16 a3], .int .i64 v] W fun e w' => e = .returned (.tuple #[.agg #[.int .u32 a1, .int .u32 a2, .int .u16 v], .bool true]) ∧ Below W.heap.size W w' from fun W => by have h := nested_any a1 a2 a3 v W; unfold nestV at h; rw [if_pos (by omega)] at h; exact h)
            have HGE := Lib.hid (show decide (1 ≤ v) = true by rw [decide_eq_true_eq]; omega)
            have HLE := Lib.hid (show decide (v ≤ 8) = true by rw [decide_eq_true_eq]; omega)
            have wv : IntKind.u16.wrap v = v := by rw [IntKind.wrap_u16]; omega
            clear hv1 hv8
            subst h3
            go_wp2_with fail
            go_at_call 13; refine (HN.out _).mono ?_; rintro e w2 ⟨rfl, hb2⟩
            have H6 := Lib.hid (so_step H5.out hb2)
            have R6 := Lib.hid (row_step R5.out hb2)
            have h8 := s8_new (.int .u32 a1) (.int .u32 a2) (.int .u16 v) (so_step H5.out hb2) (row_step R5.out hb2)
            clear hb2 x0 x1 x2 y0 y1 y2 hv
            obtain ⟨⟨x0, x1, x2⟩, _⟩ := so_cells H6.out
            have xlt := (rw_cells H6.out.1).2.2
            go_wp2_with fail
            clear x0 x1 x2 xlt
            generalize w2.alloc (.cells #[.int .u32 a1, .int .u32 a2, .int .u16 v] 25) = w3 at h8 ⊢
            have HR := Lib.hid (show ∀ W : World, Calls Tryd.prog 14 #[.agg #[.int .u32 a1, .int .u32 a2, .int .u16 v]] W fun e w' => e = .returned (.agg #[.int .u32 a1, .int .u32 a2, .int .u16 0]) ∧ Below W.heap.size W w' from fun W => root_any a1 a2 v W)
            (try have hge := HGE.out)
            (try have hle := HLE.out)
            refine wp_region_held_drew (S := (fun w' => w'.cell? ⟨w.heap.size, 0, none⟩ = some (.int .u32 a1) ∧ w'.cell? ⟨w.heap.size, 1, none⟩ = some (.int .u32 a2) ∧ w'.cell? ⟨w.heap.size, 2, none⟩ = some (.int .u16 0) ∧ w'.cell? ⟨w2.heap.size, 0, none⟩ = some (.int .u32 a1) ∧ w'.cell? ⟨w2.heap.size, 1, none⟩ = some (.int .u32 a2) ∧ w'.cell? ⟨w2.heap.size, 2, none⟩ = some (.int .u16 v) ∧ S9 w a1 a2 0 c1 c2 b3 n wc.heap.size w')) (by kernel_rfl) ?_ (fun hHeld => ?_)
            · exact s8_drew h8
            refine wpAnyH_take (i := 0) (oi := ?_) (v := ?_) ?hid0 (by kernel_rfl) ?hfd0 ?hrd0 ?hQd0 ?hyd0 (by assumption) ?restd0
            case hid0 => (simp only [List.getElem?_toArray, List.getElem?_cons_zero, List.getElem?_cons_succ]; rfl)
            case hfd0 => kernel_rfl
            case hrd0 => kernel_rfl
            case hyd0 => (refine Or.inl ⟨by rfl, ?_⟩; intro wS hSw; (try dsimp only at hSw); go_simp; (try with_reducible rfl))
            case hQd0 => exact fun _ _ _ h => h
            (try simp only [Act.put, List.setIfInBounds_toArray, List.set_cons_zero, List.set_cons_succ])
            refine wpAnyH_take (i := 1) (oi := ?_) (v := ?_) ?hid1 (by kernel_rfl) ?hfd1 ?hrd1 ?hQd1 ?hyd1 (by assumption) ?restd1
            case hid1 => (simp only [List.getElem?_toArray, List.getElem?_cons_zero, List.getElem?_cons_succ]; rfl)
            case hfd1 => kernel_rfl
            case hrd1 => kernel_rfl
            case hyd1 => (refine Or.inl ⟨by rfl, ?_⟩; intro wS hSw; (try dsimp only at hSw); go_simp; (try with_reducible rfl))
            case hQd1 => exact fun _ _ _ h => h
            (try simp only [Act.put, List.setIfInBounds_toArray, List.set_cons_zero, List.set_cons_succ])
            refine wpAnyH_take (i := 2) (oi := ?_) (v := ?_) ?hid2 (by kernel_rfl) ?hfd2 ?hrd2 ?hQd2 ?hyd2 (by assumption) ?restd2
            case hid2 => (simp only [List.getElem?_toArray, List.getElem?_cons_zero, List.getElem?_cons_succ]; rfl)
            case hfd2 => kernel_rfl
            case hrd2 => kernel_rfl
            case hyd2 => (refine Or.inl ⟨by rfl, ?_⟩; intro wS hSw; (try dsimp only at hSw); go_simp; (try with_reducible rfl))
            case hQd2 => exact fun _ _ _ h => h
            (try simp only [Act.put, List.setIfInBounds_toArray, List.set_cons_zero, List.set_cons_succ])
            refine wpAnyH_take (i := 3) (oi := ?_) (v := ?_) ?hid3 (by kernel_rfl) ?hfd3 ?hrd3 ?hQd3 ?hyd3 (by assumption) ?restd3
            case hid3 => (simp only [List.getElem?_toArray, List.getElem?_cons_zero, List.getElem?_cons_succ]; rfl)
            case hfd3 => kernel_rfl
            case hrd3 => kernel_rfl
            case hyd3 => (refine Or.inl ⟨by rfl, ?_⟩; intro wS hSw; (try dsimp only at hSw); go_simp; (try with_reducible rfl))
            case hQd3 => exact fun _ _ _ h => h
            (try simp only [Act.put, List.setIfInBounds_toArray, List.set_cons_zero, List.set_cons_succ])
            refine wpAnyH_take (i := 4) (oi := ?_) (v := ?_) ?hid4 (by kernel_rfl) ?hfd4 ?hrd4 ?hQd4 ?hyd4 (by assumption) ?restd4
            case hid4 => (simp only [List.getElem?_toArray, List.getElem?_cons_zero, List.getElem?_cons_succ]; rfl)
            case hfd4 => kernel_rfl
            case hrd4 => kernel_rfl
            case hyd4 => (refine Or.inl ⟨by rfl, ?_⟩; intro wS hSw; (try dsimp only at hSw); go_simp; (try with_reducible rfl))
            case hQd4 => exact fun _ _ _ h => h
            (try simp only [Act.put, List.setIfInBounds_toArray, List.set_cons_zero, List.set_cons_succ])
            refine wpAnyH_take (i := 5) (oi := ?_) (v := ?_) ?hid5 (by kernel_rfl) ?hfd5 ?hrd5 ?hQd5 ?hyd5 (by assumption) ?restd5
            case hid5 => (simp only [List.getElem?_toArray, List.getElem?_cons_zero, List.getElem?_cons_succ]; rfl)
            case hfd5 => kernel_rfl
            case hrd5 => kernel_rfl
            case hyd5 => (refine Or.inl ⟨by rfl, ?_⟩; intro wS hSw; (try dsimp only at hSw); go_simp; (try with_reducible rfl))
            case hQd5 => exact fun _ _ _ h => h
            (try simp only [Act.put, List.setIfInBounds_toArray, List.set_cons_zero, List.set_cons_succ])
            refine wpAnyH_take (i := 6) (oi := ?_) (v := ?_) ?hid6 (by kernel_rfl) ?hfd6 ?hrd6 ?hQd6 ?hyd6 (by assumption) ?restd6
            case hid6 => (simp only [List.getElem?_toArray, List.getElem?_cons_zero, List.getElem?_cons_succ]; rfl)
            case hfd6 => kernel_rfl
            case hrd6 => kernel_rfl
            case hyd6 => (refine Or.inl ⟨by rfl, ?_⟩; intro wS hSw; (try dsimp only at hSw); go_simp; (try with_reducible rfl))
            case hQd6 => exact fun _ _ _ h => h
            (try simp only [Act.put, List.setIfInBounds_toArray, List.set_cons_zero, List.set_cons_succ])
            refine wpAnyH_take (i := 7) (oi := ?_) (v := ?_) ?hid7 (by kernel_rfl) ?hfd7 ?hrd7 ?hQd7 ?hyd7 (by assumption) ?restd7
            case hid7 => (simp only [List.getElem?_toArray, List.getElem?_cons_zero, List.getElem?_cons_succ]; rfl)
            case hfd7 => kernel_rfl
            case hrd7 => kernel_rfl
            case hyd7 => (refine Or.inl ⟨by rfl, ?_⟩; intro wS hSw; (try dsimp only at hSw); go_simp; (try with_reducible rfl))
            case hQd7 => exact fun _ _ _ h => h
            (try simp only [Act.put, List.setIfInBounds_toArray, List.set_cons_zero, List.set_cons_succ])
            refine wpAnyH_take (i := 8) (oi := ?_) (v := ?_) ?hid8 (by kernel_rfl) ?hfd8 ?hrd8 ?hQd8 ?hyd8 (by assumption) ?restd8
            case hid8 => (simp only [List.getElem?_toArray, List.getElem?_cons_zero, List.getElem?_cons_succ]; rfl)
            case hfd8 => kernel_rfl
            case hrd8 => kernel_rfl
            case hyd8 => (refine Or.inl ⟨by rfl, ?_⟩; intro wS hSw; (try dsimp only at hSw); go_simp; (try with_reducible rfl))
            case hQd8 => exact fun _ _ _ h => h
            (try simp only [Act.put, List.setIfInBounds_toArray, List.set_cons_zero, List.set_cons_succ])
            refine wpAnyH_take (i := 9) (oi := ?_) (v := ?_) ?hid9 (by kernel_rfl) ?hfd9 ?hrd9 ?hQd9 ?hyd9 (by assumption) ?restd9
            case hid9 => (simp only [List.getElem?_toArray, List.getElem?_cons_zero, List.getElem?_cons_succ]; rfl)
            case hfd9 => kernel_rfl
            case hrd9 => kernel_rfl
            case hyd9 => (refine Or.inl ⟨by rfl, ?_⟩; intro wS hSw; (try dsimp only at hSw); go_simp; (try with_reducible rfl))
            case hQd9 => exact fun _ _ _ h => h
            (try simp only [Act.put, List.setIfInBounds_toArray, List.set_cons_zero, List.set_cons_succ])
            refine wpAnyH_take (i := 10) (oi := ?_) (v := ?_) ?hid10 (by kernel_rfl) ?hfd10 ?hrd10 ?hQd10 ?hyd10 (by assumption) ?restd10
            case hid10 => (simp only [List.getElem?_toArray, List.getElem?_cons_zero, List.getElem?_cons_succ]; rfl)
            case hfd10 => kernel_rfl
            case hrd10 => kernel_rfl
            case hyd10 => (refine Or.inl ⟨by rfl, ?_⟩; intro wS hSw; (try dsimp only at hSw); go_simp; (try with_reducible rfl))
            case hQd10 => exact fun _ _ _ h => h
            (try simp only [Act.put, List.setIfInBounds_toArray, List.set_cons_zero, List.set_cons_succ])
            refine wpAnyH_take (i := 11) (oi := ?_) (v := ?_) ?hid11 (by kernel_rfl) ?hfd11 ?hrd11 ?hQd11 ?hyd11 (by assumption) ?restd11
            case hid11 => (simp only [List.getElem?_toArray, List.getElem?_cons_zero, List.getElem?_cons_succ]; rfl)
            case hfd11 => kernel_rfl
            case hrd11 => kernel_rfl
            case hyd11 => (refine Or.inl ⟨by rfl, ?_⟩; intro wS hSw; (try dsimp only at hSw); go_simp; (try with_reducible rfl))
            case hQd11 => exact fun _ _ _ h => h
            (try simp only [Act.put, List.setIfInBounds_toArray, List.set_cons_zero, List.set_cons_succ])
            refine wpAnyH_take (i := 12) (oi := ?_) (v := ?_) ?hid12 (by kernel_rfl) ?hfd12 ?hrd12 ?hQd12 ?hyd12 (by assumption) ?restd12
            case hid12 => (simp only [List.getElem?_toArray, List.getElem?_cons_zero, List.getElem?_cons_succ]; rfl)
            case hfd12 => kernel_rfl
            case hrd12 => kernel_rfl
            case hyd12 => (refine Or.inl ⟨by rfl, ?_⟩; intro wS hSw; (try dsimp only at hSw); go_simp; (try with_reducible rfl))
            case hQd12 => exact fun _ _ _ h => h
            (try simp only [Act.put, List.setIfInBounds_toArray, List.set_cons_zero, List.set_cons_succ])
            refine wpAnyH_take (i := 13) (oi := ?_) (v := ?_) ?hid13 (by kernel_rfl) ?hfd13 ?hrd13 ?hQd13 ?hyd13 (by assumption) ?restd13
            case hid13 => (simp only [List.getElem?_toArray, List.getElem?_cons_zero, List.getElem?_cons_succ]; rfl)
            case hfd13 => kernel_rfl
            case hrd13 => kernel_rfl
            case hyd13 => (refine Or.inl ⟨by rfl, ?_⟩; intro wS hSw; (try dsimp only at hSw); go_simp; (try with_reducible rfl))
            case hQd13 => exact fun _ _ _ h => h
            (try simp only [Act.put, List.setIfInBounds_toArray, List.set_cons_zero, List.set_cons_succ])
            refine wpAnyH_take (i := 14) (oi := ?_) (v := ?_) ?hid14 (by kernel_rfl) ?hfd14 ?hrd14 ?hQd14 ?hyd14 (by assumption) ?restd14
            case hid14 => (simp only [List.getElem?_toArray, List.getElem?_cons_zero, List.getElem?_cons_succ]; rfl)
            case hfd14 => kernel_rfl
            case hrd14 => kernel_rfl
            case hyd14 => (refine Or.inl ⟨by rfl, ?_⟩; intro wS hSw; (try dsimp only at hSw); go_simp; (try with_reducible rfl))
            case hQd14 => exact fun _ _ _ h => h
            (try simp only [Act.put, List.setIfInBounds_toArray, List.set_cons_zero, List.set_cons_succ])
            refine wpAnyH_take (i := 15) (oi := ?_) (v := ?_) ?hid15 (by kernel_rfl) ?hfd15 ?hrd15 ?hQd15 ?hyd15 (by assumption) ?restd15
            case hid15 => (simp only [List.getElem?_toArray, List.getElem?_cons_zero, List.getElem?_cons_succ]; rfl)
            case hfd15 => kernel_rfl
            case hrd15 => kernel_rfl
            case hyd15 => (refine Or.inl ⟨by rfl, ?_⟩; intro wS hSw; (try dsimp only at hSw); go_simp; (try with_reducible rfl))
            case hQd15 => exact fun _ _ _ h => h
            (try simp only [Act.put, List.setIfInBounds_toArray, List.set_cons_zero, List.set_cons_succ])
            refine wpAnyH_take (i := 16) (oi := ?_) (v := ?_) ?hid16 (by kernel_rfl) ?hfd16 ?hrd16 ?hQd16 ?hyd16 (by assumption) ?restd16
            case hid16 => (simp only [List.getElem?_toArray, List.getElem?_cons_zero, List.getElem?_cons_succ]; rfl)
            case hfd16 => kernel_rfl
            case hrd16 => kernel_rfl
            case hyd16 => (refine Or.inl ⟨by rfl, ?_⟩; intro wS hSw; (try dsimp only at hSw); go_simp; (try with_reducible rfl))
            case hQd16 => exact fun _ _ _ h => h
            (try simp only [Act.put, List.setIfInBounds_toArray, List.set_cons_zero, List.set_cons_succ])
            refine wpAnyH_take (i := 17) (oi := ?_) (v := ?_) ?hid17 (by kernel_rfl) ?hfd17 ?hrd17 ?hQd17 ?hyd17 (by assumption) ?restd17
            case hid17 => (simp only [List.getElem?_toArray, List.getElem?_cons_zero, List.getElem?_cons_succ]; rfl)
            case hfd17 => kernel_rfl
            case hrd17 => kernel_rfl
            case hyd17 => (refine Or.inl ⟨by rfl, ?_⟩; intro wS hSw; (try dsimp only at hSw); go_simp; (try with_reducible rfl))
            case hQd17 => exact fun _ _ _ h => h
            (try simp only [Act.put, List.setIfInBounds_toArray, List.set_cons_zero, List.set_cons_succ])
            refine wpAnyH_take (i := 18) (oi := ?_) (v := ?_) ?hid18 (by kernel_rfl) ?hfd18 ?hrd18 ?hQd18 ?hyd18 (by assumption) ?restd18
            case hid18 => (simp only [List.getElem?_toArray, List.getElem?_cons_zero, List.getElem?_cons_succ]; rfl)
            case hfd18 => kernel_rfl
            case hrd18 => kernel_rfl
            case hyd18 => (refine Or.inl ⟨by rfl, ?_⟩; intro wS hSw; (try dsimp only at hSw); go_simp; (try with_reducible rfl))
            case hQd18 => exact fun _ _ _ h => h
            (try simp only [Act.put, List.setIfInBounds_toArray, List.set_cons_zero, List.set_cons_succ])
            refine wpAnyH_take (i := 19) (oi := ?_) (v := ?_) ?hid19 (by kernel_rfl) ?hfd19 ?hrd19 ?hQd19 ?hyd19 (by assumption) ?restd19
            case hid19 => (simp only [List.getElem?_toArray, List.getElem?_cons_zero, List.getElem?_cons_succ]; rfl)
            case hfd19 => kernel_rfl
            case hrd19 => kernel_rfl
            case hyd19 => (refine Or.inl ⟨by rfl, ?_⟩; intro wS hSw; (try dsimp only at hSw); go_simp; (try with_reducible rfl))
            case hQd19 => exact fun _ _ _ h => h
            (try simp only [Act.put, List.setIfInBounds_toArray, List.set_cons_zero, List.set_cons_succ])
            refine wpAnyH_take (i := 20) (oi := ?_) (v := ?_) ?hid20 (by kernel_rfl) ?hfd20 ?hrd20 ?hQd20 ?hyd20 (by assumption) ?restd20
            case hid20 => (simp only [List.getElem?_toArray, List.getElem?_cons_zero, List.getElem?_cons_succ]; rfl)
            case hfd20 => kernel_rfl
            case hrd20 => kernel_rfl
            case hyd20 => (refine Or.inl ⟨by rfl, ?_⟩; intro wS hSw; (try dsimp only at hSw); go_simp; (try with_reducible rfl))
            case hQd20 => exact fun _ _ _ h => h
            (try simp only [Act.put, List.setIfInBounds_toArray, List.set_cons_zero, List.set_cons_succ])
            refine wpAnyH_take (i := 21) (oi := ?_) (v := ?_) ?hid21 (by kernel_rfl) ?hfd21 ?hrd21 ?hQd21 ?hyd21 (by assumption) ?restd21
            case hid21 => (simp only [List.getElem?_toArray, List.getElem?_cons_zero, List.getElem?_cons_succ]; rfl)
            case hfd21 => kernel_rfl
            case hrd21 => kernel_rfl
            case hyd21 => (refine Or.inl ⟨by rfl, ?_⟩; intro wS hSw; (try dsimp only at hSw); go_simp; (try with_reducible rfl))
            case hQd21 => exact fun _ _ _ h => h
            (try simp only [Act.put, List.setIfInBounds_toArray, List.set_cons_zero, List.set_cons_succ])
            refine wpAnyH_take (i := 22) (oi := ?_) (v := ?_) ?hid22 (by kernel_rfl) ?hfd22 ?hrd22 ?hQd22 ?hyd22 (by assumption) ?restd22
            case hid22 => (simp only [List.getElem?_toArray, List.getElem?_cons_zero, List.getElem?_cons_succ]; rfl)
            case hfd22 => kernel_rfl
            case hrd22 => kernel_rfl
            case hyd22 => (refine Or.inl ⟨by rfl, ?_⟩; intro wS hSw; (try dsimp only at hSw); go_simp; (try with_reducible rfl))
            case hQd22 => exact fun _ _ _ h => h
            (try simp only [Act.put, List.setIfInBounds_toArray, List.set_cons_zero, List.set_cons_succ])
            refine wpAnyH_take (i := 23) (oi := ?_) (v := ?_) ?hid23 (by kernel_rfl) ?hfd23 ?hrd23 ?hQd23 ?hyd23 (by assumption) ?restd23
            case hid23 => (simp only [List.getElem?_toArray, List.getElem?_cons_zero, List.getElem?_cons_succ]; rfl)
            case hfd23 => kernel_rfl
            case hrd23 => kernel_rfl
            case hyd23 => (refine Or.inl ⟨by rfl, ?_⟩; intro wS hSw; (try dsimp only at hSw); go_simp; (try with_reducible rfl))
            case hQd23 => exact fun _ _ _ h => h
            (try simp only [Act.put, List.setIfInBounds_toArray, List.set_cons_zero, List.set_cons_succ])
            refine wpAnyH_take (i := 24) (oi := ?_) (v := ?_) ?hid24 (by kernel_rfl) ?hfd24 ?hrd24 ?hQd24 ?hyd24 (by assumption) ?restd24
            case hid24 => (simp only [List.getElem?_toArray, List.getElem?_cons_zero, List.getElem?_cons_succ]; rfl)
            case hfd24 => kernel_rfl
            case hrd24 => kernel_rfl
            case hyd24 => (refine Or.inl ⟨by rfl, ?_⟩; intro wS hSw; (try dsimp only at hSw); go_simp; (try with_reducible rfl))
            case hQd24 => exact fun _ _ _ h => h
            (try simp only [Act.put, List.setIfInBounds_toArray, List.set_cons_zero, List.set_cons_succ])
            refine wpAnyH_take (i := 25) (oi := ?_) (v := ?_) ?hid25 (by kernel_rfl) ?hfd25 ?hrd25 ?hQd25 ?hyd25 (by assumption) ?restd25
            case hid25 => (simp only [List.getElem?_toArray, List.getElem?_cons_zero, List.getElem?_cons_succ]; rfl)
            case hfd25 => kernel_rfl
            case hrd25 => kernel_rfl
            case hyd25 => (refine Or.inl ⟨by rfl, ?_⟩; intro wS hSw; (try dsimp only at hSw); go_simp; (try with_reducible rfl))
            case hQd25 => exact fun _ _ _ h => h
            (try simp only [Act.put, List.setIfInBounds_toArray, List.set_cons_zero, List.set_cons_succ])
            refine wpAnyH_take (i := 26) (oi := ?_) (v := ?_) ?hid26 (by kernel_rfl) ?hfd26 ?hrd26 ?hQd26 ?hyd26 (by assumption) ?restd26
            case hid26 => (simp only [List.getElem?_toArray, List.getElem?_cons_zero, List.getElem?_cons_succ]; rfl)
            case hfd26 => kernel_rfl
            case hrd26 => kernel_rfl
            case hyd26 => (refine Or.inl ⟨by rfl, ?_⟩; intro wS hSw; (try dsimp only at hSw); go_simp; (try with_reducible rfl))
            case hQd26 => exact fun _ _ _ h => h
            (try simp only [Act.put, List.setIfInBounds_toArray, List.set_cons_zero, List.set_cons_succ])
            refine wpAnyH_take (i := 28) (oi := ?_) (v := ?_) ?hid28 (by kernel_rfl) ?hfd28 ?hrd28 ?hQd28 ?hyd28 (by assumption) ?restd28
            case hid28 => (simp only [List.getElem?_toArray, List.getElem?_cons_zero, List.getElem?_cons_succ]; rfl)
            case hfd28 => kernel_rfl
            case hrd28 => kernel_rfl
            case hyd28 => (refine Or.inl ⟨by rfl, ?_⟩; intro wS hSw; (try dsimp only at hSw); go_simp; (try with_reducible rfl))
            case hQd28 => exact fun _ _ _ h => h
            (try simp only [Act.put, List.setIfInBounds_toArray, List.set_cons_zero, List.set_cons_succ])
            refine wpAnyH_ready (rs := [27]) (by kernel_rfl) (by simp) ?_
            refine AllReadyH.cons (o := ?_) ?hod27 ?hstd27 AllReadyH.nil
            case hod27 => (simp only [List.getElem?_toArray, List.getElem?_cons_zero, List.getElem?_cons_succ]; rfl)
            intro K hK
            go_simp
            go_at_call 14; refine (HR.out _).mono ?_; rintro e w4 ⟨rfl, hb4⟩; have hk8 := s8_step hHeld hb4; clear hb4
            go_wp2_with fail
            refine hK.out _ _ ?hsd27 (fun hHeld => ?_)
            case hsd27 => exact hk8
            clear hK K
            (try simp only [Act.put, List.setIfInBounds_toArray, List.set_cons_zero, List.set_cons_succ])
            refine wpAnyH_take (i := 29) (oi := ?_) (v := ?_) ?hid29 (by kernel_rfl) ?hfd29 ?hrd29 ?hQd29 ?hyd29 (by assumption) ?restd29
            case hid29 => (simp only [List.getElem?_toArray, List.getElem?_cons_zero, List.getElem?_cons_succ]; rfl)
            case hfd29 => kernel_rfl
            case hrd29 => kernel_rfl
            case hyd29 => (refine Or.inl ⟨by rfl, ?_⟩; intro wS hSw; (try dsimp only at hSw); go_simp; (try with_reducible rfl))
            case hQd29 => exact fun _ _ _ h => h
            (try simp only [Act.put, List.setIfInBounds_toArray, List.set_cons_zero, List.set_cons_succ])
            refine wpAnyH_take (i := 30) (oi := ?_) (v := ?_) ?hid30 (by kernel_rfl) ?hfd30 ?hrd30 ?hQd30 ?hyd30 (by assumption) ?restd30
            case hid30 => (simp only [List.getElem?_toArray, List.getElem?_cons_zero, List.getElem?_cons_succ]; rfl)
            case hfd30 => kernel_rfl
            case hrd30 => kernel_rfl
            case hyd30 => (refine Or.inl ⟨by rfl, ?_⟩; intro wS hSw; (try dsimp only at hSw); go_simp; (try with_reducible rfl))
            case hQd30 => exact fun _ _ _ h => h
            (try simp only [Act.put, List.setIfInBounds_toArray, List.set_cons_zero, List.set_cons_succ])
            refine wpAnyH_take (i := 31) (oi := ?_) (v := ?_) ?hid31 (by kernel_rfl) ?hfd31 ?hrd31 ?hQd31 ?hyd31 (by assumption) ?restd31
            case hid31 => (simp only [List.getElem?_toArray, List.getElem?_cons_zero, List.getElem?_cons_succ]; rfl)
            case hfd31 => kernel_rfl
            case hrd31 => kernel_rfl
            case hyd31 => (refine Or.inl ⟨by rfl, ?_⟩; intro wS hSw; (try dsimp only at hSw); go_simp; (try with_reducible rfl))
            case hQd31 => exact fun _ _ _ h => h
            (try simp only [Act.put, List.setIfInBounds_toArray, List.set_cons_zero, List.set_cons_succ])
            refine wpAnyH_take (i := 32) (oi := ?_) (v := ?_) ?hid32 (by kernel_rfl) ?hfd32 ?hrd32 ?hQd32 ?hyd32 (by assumption) ?restd32
            case hid32 => (simp only [List.getElem?_toArray, List.getElem?_cons_zero, List.getElem?_cons_succ]; rfl)
            case hfd32 => kernel_rfl
            case hrd32 => kernel_rfl
            case hyd32 => (refine Or.inl ⟨by rfl, ?_⟩; intro wS hSw; (try dsimp only at hSw); go_simp; (try with_reducible rfl))
            case hQd32 => exact fun _ _ _ h => h
            (try simp only [Act.put, List.setIfInBounds_toArray, List.set_cons_zero, List.set_cons_succ])
            refine wpAnyH_take (i := 33) (oi := ?_) (v := ?_) ?hid33 (by kernel_rfl) ?hfd33 ?hrd33 ?hQd33 ?hyd33 (by assumption) ?restd33
            case hid33 => (simp only [List.getElem?_toArray, List.getElem?_cons_zero, List.getElem?_cons_succ]; rfl)
            case hfd33 => kernel_rfl
            case hrd33 => kernel_rfl
            case hyd33 => (refine Or.inl ⟨by rfl, ?_⟩; intro wS hSw; (try dsimp only at hSw); go_simp; (try with_reducible rfl))
            case hQd33 => exact fun _ _ _ h => h
            (try simp only [Act.put, List.setIfInBounds_toArray, List.set_cons_zero, List.set_cons_succ])
            refine wpAnyH_take (i := 34) (oi := ?_) (v := ?_) ?hid34 (by kernel_rfl) ?hfd34 ?hrd34 ?hQd34 ?hyd34 (by assumption) ?restd34
            case hid34 => (simp only [List.getElem?_toArray, List.getElem?_cons_zero, List.getElem?_cons_succ]; rfl)
            case hfd34 => kernel_rfl
            case hrd34 => kernel_rfl
            case hyd34 => (refine Or.inl ⟨by rfl, ?_⟩; intro wS hSw; (try dsimp only at hSw); go_simp; (try with_reducible rfl))
            case hQd34 => exact fun _ _ _ h => h
            (try simp only [Act.put, List.setIfInBounds_toArray, List.set_cons_zero, List.set_cons_succ])
            refine wpAnyH_take (i := 35) (oi := ?_) (v := ?_) ?hid35 (by kernel_rfl) ?hfd35 ?hrd35 ?hQd35 ?hyd35 (by assumption) ?restd35
            case hid35 => (simp only [List.getElem?_toArray, List.getElem?_cons_zero, List.getElem?_cons_succ]; rfl)
            case hfd35 => kernel_rfl
            case hrd35 => kernel_rfl
            case hyd35 => (refine Or.inl ⟨by rfl, ?_⟩; intro wS hSw; (try dsimp only at hSw); go_simp; (try with_reducible rfl))
            case hQd35 => exact fun _ _ _ h => h
            (try simp only [Act.put, List.setIfInBounds_toArray, List.set_cons_zero, List.set_cons_succ])
            refine wpAnyH_take (i := 36) (oi := ?_) (v := ?_) ?hid36 (by kernel_rfl) ?hfd36 ?hrd36 ?hQd36 ?hyd36 (by assumption) ?restd36
            case hid36 => (simp only [List.getElem?_toArray, List.getElem?_cons_zero, List.getElem?_cons_succ]; rfl)
            case hfd36 => kernel_rfl
            case hrd36 => kernel_rfl
            case hyd36 => (refine Or.inl ⟨by rfl, ?_⟩; intro wS hSw; (try dsimp only at hSw); go_simp; (try with_reducible rfl))
            case hQd36 => exact fun _ _ _ h => h
            (try simp only [Act.put, List.setIfInBounds_toArray, List.set_cons_zero, List.set_cons_succ])
            refine wpAnyH_take (i := 37) (oi := ?_) (v := undef) ?hid37 (by kernel_rfl) ?hfd37 ?hrd37 ?hQd37 ?hyd37 (by assumption) ?restd37
            case hid37 => (simp only [List.getElem?_toArray, List.getElem?_cons_zero, List.getElem?_cons_succ]; rfl)
            case hfd37 => kernel_rfl
            case hrd37 => kernel_rfl
            case hyd37 => exact Or.inr ⟨by rfl, rfl⟩
            case hQd37 => exact fun _ _ _ h => h
            (try simp only [Act.put, List.setIfInBounds_toArray, List.set_cons_zero, List.set_cons_succ])
            refine wpAnyH_take (i := 38) (oi := ?_) (v := undef) ?hid38 (by kernel_rfl) ?hfd38 ?hrd38 ?hQd38 ?hyd38 (by assumption) ?restd38
            case hid38 => (simp only [List.getElem?_toArray, List.getElem?_cons_zero, List.getElem?_cons_succ]; rfl)
            case hfd38 => kernel_rfl
            case hrd38 => kernel_rfl
            case hyd38 => exact Or.inr ⟨by rfl, rfl⟩
            case hQd38 => exact fun _ _ _ h => h
            (try simp only [Act.put, List.setIfInBounds_toArray, List.set_cons_zero, List.set_cons_succ])
            refine wpAnyH_take (i := 39) (oi := ?_) (v := undef) ?hid39 (by kernel_rfl) ?hfd39 ?hrd39 ?hQd39 ?hyd39 (by assumption) ?restd39
            case hid39 => (simp only [List.getElem?_toArray, List.getElem?_cons_zero, List.getElem?_cons_succ]; rfl)
            case hfd39 => kernel_rfl
            case hrd39 => kernel_rfl
            case hyd39 => exact Or.inr ⟨by rfl, rfl⟩
            case hQd39 => exact fun _ _ _ h => h
            (try simp only [Act.put, List.setIfInBounds_toArray, List.set_cons_zero, List.set_cons_succ])
            refine wpAnyH_take (i := 40) (oi := ?_) (v := ?_) ?hid40 (by kernel_rfl) ?hfd40 ?hrd40 ?hQd40 ?hyd40 (by assumption) ?restd40
            case hid40 => (simp only [List.getElem?_toArray, List.getElem?_cons_zero, List.getElem?_cons_succ]; rfl)
            case hfd40 => kernel_rfl
            case hrd40 => kernel_rfl
            case hyd40 => (refine Or.inl ⟨by rfl, ?_⟩; intro wS hSw; (try dsimp only at hSw); go_simp; (try with_reducible rfl))
            case hQd40 => exact fun _ _ _ h => h
            (try simp only [Act.put, List.setIfInBounds_toArray, List.set_cons_zero, List.set_cons_succ])
            refine wpAnyH_take (i := 41) (oi := ?_) (v := ?_) ?hid41 (by kernel_rfl) ?hfd41 ?hrd41 ?hQd41 ?hyd41 (by assumption) ?restd41
            case hid41 => (simp only [List.getElem?_toArray, List.getElem?_cons_zero, List.getElem?_cons_succ]; rfl)
            case hfd41 => kernel_rfl
            case hrd41 => kernel_rfl
            case hyd41 => (refine Or.inl ⟨by rfl, ?_⟩; intro wS hSw; (try dsimp only at hSw); go_simp; (try with_reducible rfl))
            case hQd41 => exact fun _ _ _ h => h
            (try simp only [Act.put, List.setIfInBounds_toArray, List.set_cons_zero, List.set_cons_succ])
            refine wpAnyH_done (by kernel_rfl) ?_ _
            have H7 := Lib.hid (by assumption : _ ∧ _ ∧ _ ∧ _ ∧ _ ∧ _ ∧ S9 w a1 a2 0 c1 c2 b3 n wc.heap.size _).2.2.2.2.2.2
            go_wp2_with fail
            go_round
            case rel => exact ⟨k + 1, by omega, by first | rfl | go_num, H7.out.1, H7.out.2⟩
            case measure => simp [RowKit.intOf]; omega

      · have HN := Lib.hid (show ∀ W : World, Calls Tryd.prog 13 #[.agg #[.int .u32 a1, .int .u32 a2, .int .u16 a3], .int .i64 v] W fun e w' => e = .returned (.tuple #[.agg #[.int .u32 0, .int .u32 0, .int .u16 0], .bool false]) ∧ Below W.heap.size W w' from fun W => by have h := nested_any a1 a2 a3 v W; unfold nestV at h; rw [if_neg (fun h => h3 h.1)] at h; exact h)
        have b3z : (a3 == 0) = false := by rw [beq_eq_false_iff_ne]; exact h3
        go_wp2_with fail
        go_at_call 13; refine (HN.out _).mono ?_; rintro e w2 ⟨rfl, hb2⟩
        have H6 := Lib.hid (so_step H5.out hb2)
        have R6 := Lib.hid (row_step R5.out hb2)
        have h8 := s8_new (.int .u32 0) (.int .u32 0) (.int .u16 0) (so_step H5.out hb2) (row_step R5.out hb2)
        clear hb2 x0 x1 x2 y0 y1 y2 hv
        obtain ⟨⟨x0, x1, x2⟩, _⟩ := so_cells H6.out
        have xlt := (rw_cells H6.out.1).2.2
        go_wp2_with fail
        clear x0 x1 x2 xlt
        generalize w2.alloc (.cells #[.int .u32 0, .int .u32 0, .int .u16 0] 25) = w3 at h8 ⊢
        (try have hge := HGE.out)
        (try have hle := HLE.out)
        refine wp_region_held_drew (S := (fun w' => w'.cell? ⟨w.heap.size, 0, none⟩ = some (.int .u32 a1) ∧ w'.cell? ⟨w.heap.size, 1, none⟩ = some (.int .u32 a2) ∧ w'.cell? ⟨w.heap.size, 2, none⟩ = some (.int .u16 a3) ∧ w'.cell? ⟨w2.heap.size, 0, none⟩ = some (.int .u32 0) ∧ w'.cell? ⟨w2.heap.size, 1, none⟩ = some (.int .u32 0) ∧ w'.cell? ⟨w2.heap.size, 2, none⟩ = some (.int .u16 0) ∧ S9 w a1 a2 a3 c1 c2 b3 n wc.heap.size w')) (by kernel_rfl) ?_ (fun hHeld => ?_)
        · exact s8_drew h8
        refine wpAnyH_take (i := 0) (oi := ?_) (v := ?_) ?hia0 (by kernel_rfl) ?hfa0 ?hra0 ?hQa0 ?hya0 (by assumption) ?resta0
        case hia0 => (simp only [List.getElem?_toArray, List.getElem?_cons_zero, List.getElem?_cons_succ]; rfl)
        case hfa0 => kernel_rfl
        case hra0 => kernel_rfl
        case hya0 => (refine Or.inl ⟨by rfl, ?_⟩; intro wS hSw; (try dsimp only at hSw); go_simp; (try with_reducible rfl))
        case hQa0 => exact fun _ _ _ h => h
        (try simp only [Act.put, List.setIfInBounds_toArray, List.set_cons_zero, List.set_cons_succ])
        refine wpAnyH_take (i := 1) (oi := ?_) (v := ?_) ?hia1 (by kernel_rfl) ?hfa1 ?hra1 ?hQa1 ?hya1 (by assumption) ?resta1
        case hia1 => (simp only [List.getElem?_toArray, List.getElem?_cons_zero, List.getElem?_cons_succ]; rfl)
        case hfa1 => kernel_rfl
        case hra1 => kernel_rfl
        case hya1 => (refine Or.inl ⟨by rfl, ?_⟩; intro wS hSw; (try dsimp only at hSw); go_simp; (try with_reducible rfl))
        case hQa1 => exact fun _ _ _ h => h
        (try simp only [Act.put, List.setIfInBounds_toArray, List.set_cons_zero, List.set_cons_succ])
        refine wpAnyH_take (i := 2) (oi := ?_) (v := ?_) ?hia2 (by kernel_rfl) ?hfa2 ?hra2 ?hQa2 ?hya2 (by assumption) ?resta2
        case hia2 => (simp only [List.getElem?_toArray, List.getElem?_cons_zero, List.getElem?_cons_succ]; rfl)
        case hfa2 => kernel_rfl
        case hra2 => kernel_rfl
        case hya2 => (refine Or.inl ⟨by rfl, ?_⟩; intro wS hSw; (try dsimp only at hSw); go_simp; (try with_reducible rfl))
        case hQa2 => exact fun _ _ _ h => h
        (try simp only [Act.put, List.setIfInBounds_toArray, List.set_cons_zero, List.set_cons_succ])
        refine wpAnyH_take (i := 3) (oi := ?_) (v := ?_) ?hia3 (by kernel_rfl) ?hfa3 ?hra3 ?hQa3 ?hya3 (by assumption) ?resta3
        case hia3 => (simp only [List.getElem?_toArray, List.getElem?_cons_zero, List.getElem?_cons_succ]; rfl)
        case hfa3 => kernel_rfl
        case hra3 => kernel_rfl
        case hya3 => (refine Or.inl ⟨by rfl, ?_⟩; intro wS hSw; (try dsimp only at hSw); go_simp; (try with_reducible rfl))
        case hQa3 => exact fun _ _ _ h => h
        (try simp only [Act.put, List.setIfInBounds_toArray, List.set_cons_zero, List.set_cons_succ])
        refine wpAnyH_take (i := 4) (oi := ?_) (v := ?_) ?hia4 (by kernel_rfl) ?hfa4 ?hra4 ?hQa4 ?hya4 (by assumption) ?resta4
        case hia4 => (simp only [List.getElem?_toArray, List.getElem?_cons_zero, List.getElem?_cons_succ]; rfl)
        case hfa4 => kernel_rfl
        case hra4 => kernel_rfl
        case hya4 => (refine Or.inl ⟨by rfl, ?_⟩; intro wS hSw; (try dsimp only at hSw); go_simp; (try with_reducible rfl))
        case hQa4 => exact fun _ _ _ h => h
        (try simp only [Act.put, List.setIfInBounds_toArray, List.set_cons_zero, List.set_cons_succ])
        refine wpAnyH_take (i := 5) (oi := ?_) (v := undef) ?hia5 (by kernel_rfl) ?hfa5 ?hra5 ?hQa5 ?hya5 (by assumption) ?resta5
        case hia5 => (simp only [List.getElem?_toArray, List.getElem?_cons_zero, List.getElem?_cons_succ]; rfl)
        case hfa5 => kernel_rfl
        case hra5 => kernel_rfl
        case hya5 => exact Or.inr ⟨by rfl, rfl⟩
        case hQa5 => exact fun _ _ _ h => h
        (try simp only [Act.put, List.setIfInBounds_toArray, List.set_cons_zero, List.set_cons_succ])
        refine wpAnyH_take (i := 6) (oi := ?_) (v := undef) ?hia6 (by kernel_rfl) ?hfa6 ?hra6 ?hQa6 ?hya6 (by assumption) ?resta6
        case hia6 => (simp only [List.getElem?_toArray, List.getElem?_cons_zero, List.getElem?_cons_succ]; rfl)
        case hfa6 => kernel_rfl
        case hra6 => kernel_rfl
        case hya6 => exact Or.inr ⟨by rfl, rfl⟩
        case hQa6 => exact fun _ _ _ h => h
        (try simp only [Act.put, List.setIfInBounds_toArray, List.set_cons_zero, List.set_cons_succ])
        refine wpAnyH_take (i := 7) (oi := ?_) (v := ?_) ?hia7 (by kernel_rfl) ?hfa7 ?hra7 ?hQa7 ?hya7 (by assumption) ?resta7
        case hia7 => (simp only [List.getElem?_toArray, List.getElem?_cons_zero, List.getElem?_cons_succ]; rfl)
        case hfa7 => kernel_rfl
        case hra7 => kernel_rfl
        case hya7 => (refine Or.inl ⟨by rfl, ?_⟩; intro wS hSw; (try dsimp only at hSw); go_simp; (try with_reducible rfl))
        case hQa7 => exact fun _ _ _ h => h
        (try simp only [Act.put, List.setIfInBounds_toArray, List.set_cons_zero, List.set_cons_succ])
        refine wpAnyH_take (i := 8) (oi := ?_) (v := ?_) ?hia8 (by kernel_rfl) ?hfa8 ?hra8 ?hQa8 ?hya8 (by assumption) ?resta8
        case hia8 => (simp only [List.getElem?_toArray, List.getElem?_cons_zero, List.getElem?_cons_succ]; rfl)
        case hfa8 => kernel_rfl
        case hra8 => kernel_rfl
        case hya8 => (refine Or.inl ⟨by rfl, ?_⟩; intro wS hSw; (try dsimp only at hSw); go_simp; (try with_reducible rfl))
        case hQa8 => exact fun _ _ _ h => h
        (try simp only [Act.put, List.setIfInBounds_toArray, List.set_cons_zero, List.set_cons_succ])
        refine wpAnyH_take (i := 9) (oi := ?_) (v := undef) ?hia9 (by kernel_rfl) ?hfa9 ?hra9 ?hQa9 ?hya9 (by assumption) ?resta9
        case hia9 => (simp only [List.getElem?_toArray, List.getElem?_cons_zero, List.getElem?_cons_succ]; rfl)
        case hfa9 => kernel_rfl
        case hra9 => kernel_rfl
        case hya9 => exact Or.inr ⟨by rfl, rfl⟩
        case hQa9 => exact fun _ _ _ h => h
        (try simp only [Act.put, List.setIfInBounds_toArray, List.set_cons_zero, List.set_cons_succ])
        refine wpAnyH_take (i := 10) (oi := ?_) (v := undef) ?hia10 (by kernel_rfl) ?hfa10 ?hra10 ?hQa10 ?hya10 (by assumption) ?resta10
        case hia10 => (simp only [List.getElem?_toArray, List.getElem?_cons_zero, List.getElem?_cons_succ]; rfl)
        case hfa10 => kernel_rfl
        case hra10 => kernel_rfl
        case hya10 => exact Or.inr ⟨by rfl, rfl⟩
        case hQa10 => exact fun _ _ _ h => h
        (try simp only [Act.put, List.setIfInBounds_toArray, List.set_cons_zero, List.set_cons_succ])
        refine wpAnyH_take (i := 11) (oi := ?_) (v := ?_) ?hia11 (by kernel_rfl) ?hfa11 ?hra11 ?hQa11 ?hya11 (by assumption) ?resta11
        case hia11 => (simp only [List.getElem?_toArray, List.getElem?_cons_zero, List.getElem?_cons_succ]; rfl)
        case hfa11 => kernel_rfl
        case hra11 => kernel_rfl
        case hya11 => (refine Or.inl ⟨by rfl, ?_⟩; intro wS hSw; (try dsimp only at hSw); go_simp; (try with_reducible rfl))
        case hQa11 => exact fun _ _ _ h => h
        (try simp only [Act.put, List.setIfInBounds_toArray, List.set_cons_zero, List.set_cons_succ])
        refine wpAnyH_take (i := 12) (oi := ?_) (v := ?_) ?hia12 (by kernel_rfl) ?hfa12 ?hra12 ?hQa12 ?hya12 (by assumption) ?resta12
        case hia12 => (simp only [List.getElem?_toArray, List.getElem?_cons_zero, List.getElem?_cons_succ]; rfl)
        case hfa12 => kernel_rfl
        case hra12 => kernel_rfl
        case hya12 => (refine Or.inl ⟨by rfl, ?_⟩; intro wS hSw; (try dsimp only at hSw); go_simp; (try with_reducible rfl))
        case hQa12 => exact fun _ _ _ h => h
        (try simp only [Act.put, List.setIfInBounds_toArray, List.set_cons_zero, List.set_cons_succ])
        refine wpAnyH_take (i := 13) (oi := ?_) (v := ?_) ?hia13 (by kernel_rfl) ?hfa13 ?hra13 ?hQa13 ?hya13 (by assumption) ?resta13
        case hia13 => (simp only [List.getElem?_toArray, List.getElem?_cons_zero, List.getElem?_cons_succ]; rfl)
        case hfa13 => kernel_rfl
        case hra13 => kernel_rfl
        case hya13 => (refine Or.inl ⟨by rfl, ?_⟩; intro wS hSw; (try dsimp only at hSw); go_simp; (try with_reducible rfl))
        case hQa13 => exact fun _ _ _ h => h
        (try simp only [Act.put, List.setIfInBounds_toArray, List.set_cons_zero, List.set_cons_succ])
        refine wpAnyH_take (i := 14) (oi := ?_) (v := ?_) ?hia14 (by kernel_rfl) ?hfa14 ?hra14 ?hQa14 ?hya14 (by assumption) ?resta14
        case hia14 => (simp only [List.getElem?_toArray, List.getElem?_cons_zero, List.getElem?_cons_succ]; rfl)
        case hfa14 => kernel_rfl
        case hra14 => kernel_rfl
        case hya14 => (refine Or.inl ⟨by rfl, ?_⟩; intro wS hSw; (try dsimp only at hSw); go_simp; (try with_reducible rfl))
        case hQa14 => exact fun _ _ _ h => h
        (try simp only [Act.put, List.setIfInBounds_toArray, List.set_cons_zero, List.set_cons_succ])
        refine wpAnyH_take (i := 15) (oi := ?_) (v := ?_) ?hia15 (by kernel_rfl) ?hfa15 ?hra15 ?hQa15 ?hya15 (by assumption) ?resta15
        case hia15 => (simp only [List.getElem?_toArray, List.getElem?_cons_zero, List.getElem?_cons_succ]; rfl)
        case hfa15 => kernel_rfl
        case hra15 => kernel_rfl
        case hya15 => (refine Or.inl ⟨by rfl, ?_⟩; intro wS hSw; (try dsimp only at hSw); go_simp; (try with_reducible rfl))
        case hQa15 => exact fun _ _ _ h => h
        (try simp only [Act.put, List.setIfInBounds_toArray, List.set_cons_zero, List.set_cons_succ])
        refine wpAnyH_take (i := 16) (oi := ?_) (v := undef) ?hia16 (by kernel_rfl) ?hfa16 ?hra16 ?hQa16 ?hya16 (by assumption) ?resta16
        case hia16 => (simp only [List.getElem?_toArray, List.getElem?_cons_zero, List.getElem?_cons_succ]; rfl)
        case hfa16 => kernel_rfl
        case hra16 => kernel_rfl
        case hya16 => exact Or.inr ⟨by rfl, rfl⟩
        case hQa16 => exact fun _ _ _ h => h
        (try simp only [Act.put, List.setIfInBounds_toArray, List.set_cons_zero, List.set_cons_succ])
        refine wpAnyH_take (i := 17) (oi := ?_) (v := undef) ?hia17 (by kernel_rfl) ?hfa17 ?hra17 ?hQa17 ?hya17 (by assumption) ?resta17
        case hia17 => (simp only [List.getElem?_toArray, List.getElem?_cons_zero, List.getElem?_cons_succ]; rfl)
        case hfa17 => kernel_rfl
        case hra17 => kernel_rfl
        case hya17 => exact Or.inr ⟨by rfl, rfl⟩
        case hQa17 => exact fun _ _ _ h => h
        (try simp only [Act.put, List.setIfInBounds_toArray, List.set_cons_zero, List.set_cons_succ])
        refine wpAnyH_take (i := 18) (oi := ?_) (v := undef) ?hia18 (by kernel_rfl) ?hfa18 ?hra18 ?hQa18 ?hya18 (by assumption) ?resta18
        case hia18 => (simp only [List.getElem?_toArray, List.getElem?_cons_zero, List.getElem?_cons_succ]; rfl)
        case hfa18 => kernel_rfl
        case hra18 => kernel_rfl
        case hya18 => exact Or.inr ⟨by rfl, rfl⟩
        case hQa18 => exact fun _ _ _ h => h
        (try simp only [Act.put, List.setIfInBounds_toArray, List.set_cons_zero, List.set_cons_succ])
        refine wpAnyH_take (i := 19) (oi := ?_) (v := undef) ?hia19 (by kernel_rfl) ?hfa19 ?hra19 ?hQa19 ?hya19 (by assumption) ?resta19
        case hia19 => (simp only [List.getElem?_toArray, List.getElem?_cons_zero, List.getElem?_cons_succ]; rfl)
        case hfa19 => kernel_rfl
        case hra19 => kernel_rfl
        case hya19 => exact Or.inr ⟨by rfl, rfl⟩
        case hQa19 => exact fun _ _ _ h => h
        (try simp only [Act.put, List.setIfInBounds_toArray, List.set_cons_zero, List.set_cons_succ])
        refine wpAnyH_take (i := 20) (oi := ?_) (v := undef) ?hia20 (by kernel_rfl) ?hfa20 ?hra20 ?hQa20 ?hya20 (by assumption) ?resta20
        case hia20 => (simp only [List.getElem?_toArray, List.getElem?_cons_zero, List.getElem?_cons_succ]; rfl)
        case hfa20 => kernel_rfl
        case hra20 => kernel_rfl
        case hya20 => exact Or.inr ⟨by rfl, rfl⟩
        case hQa20 => exact fun _ _ _ h => h
        (try simp only [Act.put, List.setIfInBounds_toArray, List.set_cons_zero, List.set_cons_succ])
        refine wpAnyH_take (i := 21) (oi := ?_) (v := undef) ?hia21 (by kernel_rfl) ?hfa21 ?hra21 ?hQa21 ?hya21 (by assumption) ?resta21
        case hia21 => (simp only [List.getElem?_toArray, List.getElem?_cons_zero, List.getElem?_cons_succ]; rfl)
        case hfa21 => kernel_rfl
        case hra21 => kernel_rfl
        case hya21 => exact Or.inr ⟨by rfl, rfl⟩
        case hQa21 => exact fun _ _ _ h => h
        (try simp only [Act.put, List.setIfInBounds_toArray, List.set_cons_zero, List.set_cons_succ])
        refine wpAnyH_take (i := 22) (oi := ?_) (v := undef) ?hia22 (by kernel_rfl) ?hfa22 ?hra22 ?hQa22 ?hya22 (by assumption) ?resta22
        case hia22 => (simp only [List.getElem?_toArray, List.getElem?_cons_zero, List.getElem?_cons_succ]; rfl)
        case hfa22 => kernel_rfl
        case hra22 => kernel_rfl
        case hya22 => exact Or.inr ⟨by rfl, rfl⟩
        case hQa22 => exact fun _ _ _ h => h
        (try simp only [Act.put, List.setIfInBounds_toArray, List.set_cons_zero, List.set_cons_succ])
        refine wpAnyH_take (i := 23) (oi := ?_) (v := undef) ?hia23 (by kernel_rfl) ?hfa23 ?hra23 ?hQa23 ?hya23 (by assumption) ?resta23
        case hia23 => (simp only [List.getElem?_toArray, List.getElem?_cons_zero, List.getElem?_cons_succ]; rfl)
        case hfa23 => kernel_rfl
        case hra23 => kernel_rfl
        case hya23 => exact Or.inr ⟨by rfl, rfl⟩
        case hQa23 => exact fun _ _ _ h => h
        (try simp only [Act.put, List.setIfInBounds_toArray, List.set_cons_zero, List.set_cons_succ])
        refine wpAnyH_take (i := 24) (oi := ?_) (v := undef) ?hia24 (by kernel_rfl) ?hfa24 ?hra24 ?hQa24 ?hya24 (by assumption) ?resta24
        case hia24 => (simp only [List.getElem?_toArray, List.getElem?_cons_zero, List.getElem?_cons_succ]; rfl)
        case hfa24 => kernel_rfl
        case hra24 => kernel_rfl
        case hya24 => exact Or.inr ⟨by rfl, rfl⟩
        case hQa24 => exact fun _ _ _ h => h
        (try simp only [Act.put, List.setIfInBounds_toArray, List.set_cons_zero, List.set_cons_succ])
        refine wpAnyH_take (i := 25) (oi := ?_) (v := undef) ?hia25 (by kernel_rfl) ?hfa25 ?hra25 ?hQa25 ?hya25 (by assumption) ?resta25
        case hia25 => (simp only [List.getElem?_toArray, List.getElem?_cons_zero, List.getElem?_cons_succ]; rfl)
        case hfa25 => kernel_rfl
        case hra25 => kernel_rfl
        case hya25 => exact Or.inr ⟨by rfl, rfl⟩
        case hQa25 => exact fun _ _ _ h => h
        (try simp only [Act.put, List.setIfInBounds_toArray, List.set_cons_zero, List.set_cons_succ])
        refine wpAnyH_take (i := 26) (oi := ?_) (v := undef) ?hia26 (by kernel_rfl) ?hfa26 ?hra26 ?hQa26 ?hya26 (by assumption) ?resta26
        case hia26 => (simp only [List.getElem?_toArray, List.getElem?_cons_zero, List.getElem?_cons_succ]; rfl)
        case hfa26 => kernel_rfl
        case hra26 => kernel_rfl
        case hya26 => exact Or.inr ⟨by rfl, rfl⟩
        case hQa26 => exact fun _ _ _ h => h
        (try simp only [Act.put, List.setIfInBounds_toArray, List.set_cons_zero, List.set_cons_succ])
        refine wpAnyH_take (i := 27) (oi := ?_) (v := undef) ?hia27 (by kernel_rfl) ?hfa27 ?hra27 ?hQa27 ?hya27 (by assumption) ?resta27
        case hia27 => (simp only [List.getElem?_toArray, List.getElem?_cons_zero, List.getElem?_cons_succ]; rfl)
        case hfa27 => kernel_rfl
        case hra27 => kernel_rfl
        case hya27 => exact Or.inr ⟨by rfl, rfl⟩
        case hQa27 => exact fun _ _ _ h => h
        (try simp only [Act.put, List.setIfInBounds_toArray, List.set_cons_zero, List.set_cons_succ])
        refine wpAnyH_take (i := 28) (oi := ?_) (v := undef) ?hia28 (by kernel_rfl) ?hfa28 ?hra28 ?hQa28 ?hya28 (by assumption) ?resta28
        case hia28 => (simp only [List.getElem?_toArray, List.getElem?_cons_zero, List.getElem?_cons_succ]; rfl)
        case hfa28 => kernel_rfl
        case hra28 => kernel_rfl
        case hya28 => exact Or.inr ⟨by rfl, rfl⟩
        case hQa28 => exact fun _ _ _ h => h
        (try simp only [Act.put, List.setIfInBounds_toArray, List.set_cons_zero, List.set_cons_succ])
        refine wpAnyH_take (i := 29) (oi := ?_) (v := undef) ?hia29 (by kernel_rfl) ?hfa29 ?hra29 ?hQa29 ?hya29 (by assumption) ?resta29
        case hia29 => (simp only [List.getElem?_toArray, List.getElem?_cons_zero, List.getElem?_cons_succ]; rfl)
        case hfa29 => kernel_rfl
        case hra29 => kernel_rfl
        case hya29 => exact Or.inr ⟨by rfl, rfl⟩
        case hQa29 => exact fun _ _ _ h => h
        (try simp only [Act.put, List.setIfInBounds_toArray, List.set_cons_zero, List.set_cons_succ])
        refine wpAnyH_take (i := 30) (oi := ?_) (v := undef) ?hia30 (by kernel_rfl) ?hfa30 ?hra30 ?hQa30 ?hya30 (by assumption) ?resta30
        case hia30 => (simp only [List.getElem?_toArray, List.getElem?_cons_zero, List.getElem?_cons_succ]; rfl)
        case hfa30 => kernel_rfl
        case hra30 => kernel_rfl
        case hya30 => exact Or.inr ⟨by rfl, rfl⟩
        case hQa30 => exact fun _ _ _ h => h
        (try simp only [Act.put, List.setIfInBounds_toArray, List.set_cons_zero, List.set_cons_succ])
        refine wpAnyH_take (i := 31) (oi := ?_) (v := ?_) ?hia31 (by kernel_rfl) ?hfa31 ?hra31 ?hQa31 ?hya31 (by assumption) ?resta31
        case hia31 => (simp only [List.getElem?_toArray, List.getElem?_cons_zero, List.getElem?_cons_succ]; rfl)
        case hfa31 => kernel_rfl
        case hra31 => kernel_rfl
        case hya31 => (refine Or.inl ⟨by rfl, ?_⟩; intro wS hSw; (try dsimp only at hSw); go_simp; (try with_reducible rfl))
        case hQa31 => exact fun _ _ _ h => h
        (try simp only [Act.put, List.setIfInBounds_toArray, List.set_cons_zero, List.set_cons_succ])
        refine wpAnyH_take (i := 32) (oi := ?_) (v := ?_) ?hia32 (by kernel_rfl) ?hfa32 ?hra32 ?hQa32 ?hya32 (by assumption) ?resta32
        case hia32 => (simp only [List.getElem?_toArray, List.getElem?_cons_zero, List.getElem?_cons_succ]; rfl)
        case hfa32 => kernel_rfl
        case hra32 => kernel_rfl
        case hya32 => (refine Or.inl ⟨by rfl, ?_⟩; intro wS hSw; (try dsimp only at hSw); go_simp; (try with_reducible rfl))
        case hQa32 => exact fun _ _ _ h => h
        (try simp only [Act.put, List.setIfInBounds_toArray, List.set_cons_zero, List.set_cons_succ])
        refine wpAnyH_take (i := 33) (oi := ?_) (v := ?_) ?hia33 (by kernel_rfl) ?hfa33 ?hra33 ?hQa33 ?hya33 (by assumption) ?resta33
        case hia33 => (simp only [List.getElem?_toArray, List.getElem?_cons_zero, List.getElem?_cons_succ]; rfl)
        case hfa33 => kernel_rfl
        case hra33 => kernel_rfl
        case hya33 => (refine Or.inl ⟨by rfl, ?_⟩; intro wS hSw; (try dsimp only at hSw); go_simp; (try with_reducible rfl))
        case hQa33 => exact fun _ _ _ h => h
        (try simp only [Act.put, List.setIfInBounds_toArray, List.set_cons_zero, List.set_cons_succ])
        refine wpAnyH_take (i := 34) (oi := ?_) (v := ?_) ?hia34 (by kernel_rfl) ?hfa34 ?hra34 ?hQa34 ?hya34 (by assumption) ?resta34
        case hia34 => (simp only [List.getElem?_toArray, List.getElem?_cons_zero, List.getElem?_cons_succ]; rfl)
        case hfa34 => kernel_rfl
        case hra34 => kernel_rfl
        case hya34 => (refine Or.inl ⟨by rfl, ?_⟩; intro wS hSw; (try dsimp only at hSw); go_simp; (try with_reducible rfl))
        case hQa34 => exact fun _ _ _ h => h
        (try simp only [Act.put, List.setIfInBounds_toArray, List.set_cons_zero, List.set_cons_succ])
        refine wpAnyH_take (i := 35) (oi := ?_) (v := ?_) ?hia35 (by kernel_rfl) ?hfa35 ?hra35 ?hQa35 ?hya35 (by assumption) ?resta35
        case hia35 => (simp only [List.getElem?_toArray, List.getElem?_cons_zero, List.getElem?_cons_succ]; rfl)
        case hfa35 => kernel_rfl
        case hra35 => kernel_rfl
        case hya35 => (refine Or.inl ⟨by rfl, ?_⟩; intro wS hSw; (try dsimp only at hSw); go_simp; (try with_reducible rfl))
        case hQa35 => exact fun _ _ _ h => h
        (try simp only [Act.put, List.setIfInBounds_toArray, List.set_cons_zero, List.set_cons_succ])
        refine wpAnyH_take (i := 36) (oi := ?_) (v := ?_) ?hia36 (by kernel_rfl) ?hfa36 ?hra36 ?hQa36 ?hya36 (by assumption) ?resta36
        case hia36 => (simp only [List.getElem?_toArray, List.getElem?_cons_zero, List.getElem?_cons_succ]; rfl)
        case hfa36 => kernel_rfl
        case hra36 => kernel_rfl
        case hya36 => (refine Or.inl ⟨by rfl, ?_⟩; intro wS hSw; (try dsimp only at hSw); go_simp; (try with_reducible rfl))
        case hQa36 => exact fun _ _ _ h => h
        (try simp only [Act.put, List.setIfInBounds_toArray, List.set_cons_zero, List.set_cons_succ])
        refine wpAnyH_take (i := 37) (oi := ?_) (v := ?_) ?hia37 (by kernel_rfl) ?hfa37 ?hra37 ?hQa37 ?hya37 (by assumption) ?resta37
        case hia37 => (simp only [List.getElem?_toArray, List.getElem?_cons_zero, List.getElem?_cons_succ]; rfl)
        case hfa37 => kernel_rfl
        case hra37 => kernel_rfl
        case hya37 => (refine Or.inl ⟨by rfl, ?_⟩; intro wS hSw; (try dsimp only at hSw); go_simp; (try with_reducible rfl))
        case hQa37 => exact fun _ _ _ h => h
        (try simp only [Act.put, List.setIfInBounds_toArray, List.set_cons_zero, List.set_cons_succ])
        refine wpAnyH_take (i := 38) (oi := ?_) (v := ?_) ?hia38 (by kernel_rfl) ?hfa38 ?hra38 ?hQa38 ?hya38 (by assumption) ?resta38
        case hia38 => (simp only [List.getElem?_toArray, List.getElem?_cons_zero, List.getElem?_cons_succ]; rfl)
        case hfa38 => kernel_rfl
        case hra38 => kernel_rfl
        case hya38 => (refine Or.inl ⟨by rfl, ?_⟩; intro wS hSw; (try dsimp only at hSw); go_simp; (try with_reducible rfl))
        case hQa38 => exact fun _ _ _ h => h
        (try simp only [Act.put, List.setIfInBounds_toArray, List.set_cons_zero, List.set_cons_succ])
        refine wpAnyH_take (i := 39) (oi := ?_) (v := ?_) ?hia39 (by kernel_rfl) ?hfa39 ?hra39 ?hQa39 ?hya39 (by assumption) ?resta39
        case hia39 => (simp only [List.getElem?_toArray, List.getElem?_cons_zero, List.getElem?_cons_succ]; rfl)
        case hfa39 => kernel_rfl
        case hra39 => kernel_rfl
        case hya39 => (refine Or.inl ⟨by rfl, ?_⟩; intro wS hSw; (try dsimp only at hSw); go_simp; (try with_reducible rfl))
        case hQa39 => exact fun _ _ _ h => h
        (try simp only [Act.put, List.setIfInBounds_toArray, List.set_cons_zero, List.set_cons_succ])
        refine wpAnyH_take (i := 40) (oi := ?_) (v := ?_) ?hia40 (by kernel_rfl) ?hfa40 ?hra40 ?hQa40 ?hya40 (by assumption) ?resta40
        case hia40 => (simp only [List.getElem?_toArray, List.getElem?_cons_zero, List.getElem?_cons_succ]; rfl)
        case hfa40 => kernel_rfl
        case hra40 => kernel_rfl
        case hya40 => (refine Or.inl ⟨by rfl, ?_⟩; intro wS hSw; (try dsimp only at hSw); go_simp; (try with_reducible rfl))
        case hQa40 => exact fun _ _ _ h => h
        (try simp only [Act.put, List.setIfInBounds_toArray, List.set_cons_zero, List.set_cons_succ])
        refine wpAnyH_take (i := 41) (oi := ?_) (v := ?_) ?hia41 (by kernel_rfl) ?hfa41 ?hra41 ?hQa41 ?hya41 (by assumption) ?resta41
        case hia41 => (simp only [List.getElem?_toArray, List.getElem?_cons_zero, List.getElem?_cons_succ]; rfl)
        case hfa41 => kernel_rfl
        case hra41 => kernel_rfl
        case hya41 => (refine Or.inl ⟨by rfl, ?_⟩; intro wS hSw; (try dsimp only at hSw); go_simp; (try with_reducible rfl))
        case hQa41 => exact fun _ _ _ h => h
        (try simp only [Act.put, List.setIfInBounds_toArray, List.set_cons_zero, List.set_cons_succ])
        refine wpAnyH_done (by kernel_rfl) ?_ _
        have H7 := Lib.hid (by assumption : _ ∧ _ ∧ _ ∧ _ ∧ _ ∧ _ ∧ S9 w a1 a2 a3 c1 c2 b3 n wc.heap.size _).2.2.2.2.2.2
        go_wp2_with fail
        go_round
        case rel => exact ⟨k + 1, by omega, by first | rfl | go_num, H7.out.1, H7.out.2⟩
        case measure => simp [RowKit.intOf]; omega

    · have hlt' : ¬ (k : Int) < 2 := by omega
      have HR := Lib.hid (show ∀ W : World, Calls Tryd.prog 14 #[.agg #[.int .u32 a1, .int .u32 a2, .int .u16 a3]] W fun e w' => e = .returned (.agg #[.int .u32 a1, .int .u32 a2, .int .u16 0]) ∧ Below W.heap.size W w' from fun W => root_any a1 a2 a3 W)
      obtain ⟨⟨x0, x1, x2⟩, y0, y1, y2⟩ := so_cells H5.out
      go_wp2_with fail
      go_at_call 14; refine (HR.out _).mono ?_; rintro e w2 ⟨rfl, hb2⟩
      have H6 := Lib.hid (so_step H5.out hb2)
      clear hb2 x0 x1 x2 y0 y1 y2
      obtain ⟨⟨x0, x1, x2⟩, y0, y1, y2⟩ := so_cells H6.out
      have xlt := (rw_cells H6.out.1).2.2
      have HB := Lib.hid (bel_alloc H6.out.2.2 (.cells #[.int .u32 a1, .int .u32 a2, .int .u16 0] 25))
      go_wp2
      go_ret
      exact ⟨rfl, HB.out⟩
end Num
end Go.Proofs.YtbodakfgoijeeaaDoor
