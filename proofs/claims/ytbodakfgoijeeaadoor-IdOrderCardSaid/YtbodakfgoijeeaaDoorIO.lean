/-
  IdOrder's walk.
-/
import Derived.Test.YtbodakfgoijeeaaDoorIJ
import Derived.Deep.DeepCutAuto
import Derived.Deep.RegionHeld3
import Derived.Deep.RegionWith
namespace Go.Proofs.YtbodakfgoijeeaaDoor
open Go.RowKit Go.Sort Go.Lib
namespace Num
set_option linter.unusedSimpArgs false
set_option linter.unusedVariables false
theorem sid_of {w W : World} (hg : Good w) (h : Below w.heap.size w W) : Sid w W := ⟨good_keep hg h, h⟩
/-- The three cells of an id's block. -/
def Rw (W : World) (b : Nat) (x y z : Int) : Prop := W.heap[b]? = some (.cells #[.int .u32 x, .int .u32 y, .int .u16 z] 25 (0, 0))
theorem rw_set0 {W : World} {b : Nat} {x y z : Int} (h : Rw W b x y z) (v : Int) : Rw (W.setCell ⟨b, 0, none⟩ (.int .u32 v)) b v y z := by
  unfold Rw at *
  simp [World.setCell, Array.getElem?_modify, h]
theorem rw_set1 {W : World} {b : Nat} {x y z : Int} (h : Rw W b x y z) (v : Int) : Rw (W.setCell ⟨b, 1, none⟩ (.int .u32 v)) b x v z := by
  unfold Rw at *
  simp [World.setCell, Array.getElem?_modify, h]
theorem rw_other {W : World} {a b o : Nat} {x y z : Int} (h : Rw W a x y z) (hne : a ≠ b) (v : Value) : Rw (W.setCell ⟨b, o, none⟩ v) a x y z := by
  unfold Rw at *
  rw [Below.heap_setCell W ⟨b, o, none⟩ v a hne]
  exact h
theorem rw_step {W W' : World} {b : Nat} {x y z : Int} (h : Rw W b x y z) (hb : Below W.heap.size W W') : Rw W' b x y z := row_step h hb
theorem rw_cells {W : World} {b : Nat} {x y z : Int} (h : Rw W b x y z) : (W.cell? ⟨b, 0, none⟩ = some (.int .u32 x) ∧ W.cell? ⟨b, 1, none⟩ = some (.int .u32 y) ∧ W.cell? ⟨b, 2, none⟩ = some (.int .u16 z)) ∧ (W.frozen? ⟨b, 0, none⟩ = false ∧ W.frozen? ⟨b, 1, none⟩ = false ∧ W.frozen? ⟨b, 2, none⟩ = false) ∧ b < W.heap.size :=
  ⟨⟨row_cell h 0, row_cell h 1, row_cell h 2⟩, ⟨row_frz h 0, row_frz h 1, row_frz h 2⟩, row_lt h⟩
/-- The world behind a step of IdOrder. -/
def So (w : World) (a1 a2 a3 c1 c2 c3 : Int) (W : World) : Prop := Rw W w.heap.size a1 a2 a3 ∧ Rw W (w.heap.size + 1) c1 c2 c3 ∧ Below w.heap.size w W
theorem so_step {w W W' : World} {a1 a2 a3 c1 c2 c3 : Int} (h : So w a1 a2 a3 c1 c2 c3 W) (hb : Below W.heap.size W W') : So w a1 a2 a3 c1 c2 c3 W' := ⟨rw_step h.1 hb, rw_step h.2.1 hb, h.2.2.trans (hb.mono h.2.2.size)⟩
theorem so_set0 {w W : World} {a1 a2 a3 c1 c2 c3 : Int} (h : So w a1 a2 a3 c1 c2 c3 W) (v : Int) : So w a1 a2 a3 v c2 c3 (W.setCell ⟨w.heap.size + 1, 0, none⟩ (.int .u32 v)) := ⟨rw_other h.1 (by omega) _, rw_set0 h.2.1 v, h.2.2.setCell (p := ⟨w.heap.size + 1, 0, none⟩) (Nat.le_succ _) _⟩
theorem so_set1 {w W : World} {a1 a2 a3 c1 c2 c3 : Int} (h : So w a1 a2 a3 c1 c2 c3 W) (v : Int) : So w a1 a2 a3 c1 v c3 (W.setCell ⟨w.heap.size + 1, 1, none⟩ (.int .u32 v)) := ⟨rw_other h.1 (by omega) _, rw_set1 h.2.1 v, h.2.2.setCell (p := ⟨w.heap.size + 1, 1, none⟩) (Nat.le_succ _) _⟩
theorem so_cells {w W : World} {a1 a2 a3 c1 c2 c3 : Int} (h : So w a1 a2 a3 c1 c2 c3 W) : (W.cell? ⟨w.heap.size, 0, none⟩ = some (.int .u32 a1) ∧ W.cell? ⟨w.heap.size, 1, none⟩ = some (.int .u32 a2) ∧ W.cell? ⟨w.heap.size, 2, none⟩ = some (.int .u16 a3)) ∧ (W.cell? ⟨w.heap.size + 1, 0, none⟩ = some (.int .u32 c1) ∧ W.cell? ⟨w.heap.size + 1, 1, none⟩ = some (.int .u32 c2) ∧ W.cell? ⟨w.heap.size + 1, 2, none⟩ = some (.int .u16 c3)) :=
  ⟨(rw_cells h.1).1, (rw_cells h.2.1).1⟩
def S7 (w : World) (a1 a2 a3 c1 c2 c3 : Int) (W : World) : Prop := W.cell? ⟨w.heap.size, 0, none⟩ = some (.int .u32 a1) ∧ W.cell? ⟨w.heap.size, 1, none⟩ = some (.int .u32 a2) ∧ W.cell? ⟨w.heap.size, 2, none⟩ = some (.int .u16 a3) ∧ W.cell? ⟨w.heap.size + 1, 0, none⟩ = some (.int .u32 c1) ∧ W.cell? ⟨w.heap.size + 1, 1, none⟩ = some (.int .u32 c2) ∧ W.cell? ⟨w.heap.size + 1, 2, none⟩ = some (.int .u16 c3) ∧ So w a1 a2 a3 c1 c2 c3 W
theorem s7_of {w W : World} {a1 a2 a3 c1 c2 c3 : Int} (h : So w a1 a2 a3 c1 c2 c3 W) : S7 w a1 a2 a3 c1 c2 c3 W := ⟨(so_cells h).1.1, (so_cells h).1.2.1, (so_cells h).1.2.2, (so_cells h).2.1, (so_cells h).2.2.1, (so_cells h).2.2.2, h⟩
theorem s7_step {w W W' : World} {a1 a2 a3 c1 c2 c3 : Int} (h : S7 w a1 a2 a3 c1 c2 c3 W) (hb : Below W.heap.size W W') : S7 w a1 a2 a3 c1 c2 c3 W' := s7_of (so_step h.2.2.2.2.2.2 hb)
theorem s7_drew {w W : World} {a1 a2 a3 c1 c2 c3 : Int} (h : S7 w a1 a2 a3 c1 c2 c3 W) : S7 w a1 a2 a3 c1 c2 c3 W.drew := s7_step h (Below.drew (Below.refl _ _))
set_option maxRecDepth 100000 in
set_option maxHeartbeats 8000000 in
theorem order_law (a1 a2 a3 b1 b2 b3 n near : Int) (w : World) (hg : Good w) : Calls Tryd.prog 4 #[.agg #[.int .u32 a1, .int .u32 a2, .int .u16 a3], .agg #[.int .u32 b1, .int .u32 b2, .int .u16 b3], .int .i64 n, .int .u8 near] w fun e w' => e = .returned (.bool true) ∧ Below w.heap.size w w' := by
  have HK := Lib.hid (fun (W : World) (h : Sid w W) => known_any W h.1)
  have HG := Lib.hid hg
  have ra := row_alloc_step (row_alloc w #[.int .u32 a1, .int .u32 a2, .int .u16 a3] 25) (.cells #[.int .u32 b1, .int .u32 b2, .int .u16 b3] 25)
  have rb := row_alloc (w.alloc (.cells #[.int .u32 a1, .int .u32 a2, .int .u16 a3] 25)) #[.int .u32 b1, .int .u32 b2, .int .u16 b3] 25
  simp only [World.size_alloc] at rb
  have H0 := Lib.hid (show So w a1 a2 a3 b1 b2 b3 ((w.alloc (.cells #[.int .u32 a1, .int .u32 a2, .int .u16 a3] 25)).alloc (.cells #[.int .u32 b1, .int .u32 b2, .int .u16 b3] 25)) from ⟨ra, rb, bel_alloc (bel_alloc (Below.refl _ _) _) _⟩)
  clear hg ra rb
  go_enter Tryd.func4, Tryd.ntmps4
  go_upto_if 18 with (go_at_call 6; refine (HK.out _ (sid_of HG.out H0.out.2.2)).mono ?_; rintro e w1 ⟨rfl, hb1⟩; have H1 := Lib.hid (so_step H0.out hb1); clear hb1)
  go_cut [] (fun wx => ∃ c1 : Int, So w a1 a2 a3 c1 b2 b3 wx)
  case first =>
    obtain ⟨⟨x0, x1, x2⟩, y0, y1, y2⟩ := so_cells H1.out
    have f0 := (rw_cells H1.out.2.1).2.1.1
    have hlt := (rw_cells H1.out.2.1).2.2
    go_wp2
    all_goals go_meet
    all_goals first | exact ⟨_, H1.out⟩ | exact ⟨_, so_set0 H1.out _⟩
  case rest =>
  obtain ⟨c1, hc⟩ := hcut
  have H2 := Lib.hid hc
  clear hc
  go_upto_if 24 with fail
  go_cut [] (fun wx => ∃ c2 : Int, So w a1 a2 a3 c1 c2 b3 wx)
  case first =>
    obtain ⟨⟨x0, x1, x2⟩, y0, y1, y2⟩ := so_cells H2.out
    have f1 := (rw_cells H2.out.2.1).2.1.2.1
    have hlt := (rw_cells H2.out.2.1).2.2
    go_wp2
    all_goals go_meet
    all_goals first | exact ⟨_, H2.out⟩ | exact ⟨_, so_set1 H2.out _⟩
  case rest =>
  obtain ⟨c2, hc⟩ := hcut
  have H3 := Lib.hid hc
  clear hc
  go_upto_region 7 with fail
  go_cut [48] (fun s48 wx => s48 = .bool false ∧ So w a1 a2 a3 c1 c2 b3 wx)
  case first =>
    have HP := Lib.hid (fun x1 x2 x3 y1 y2 y3 (W : World) => pless_any x1 x2 x3 y1 y2 y3 W)
    have HQ := Lib.hid (fun x1 x2 x3 y1 y2 y3 (W : World) => rless_any x1 x2 x3 y1 y2 y3 W)
    unfold Id at HP HQ
    have haa : lessT a1 a2 a3 a1 a2 a3 = false := by unfold lessT; rw [decide_eq_false_iff_not]; omega
    have hkk := s7_of H3.out
    go_region_held3 (fun w' => w'.cell? ⟨w.heap.size, 0, none⟩ = some (.int .u32 a1) ∧ w'.cell? ⟨w.heap.size, 1, none⟩ = some (.int .u32 a2) ∧ w'.cell? ⟨w.heap.size, 2, none⟩ = some (.int .u16 a3) ∧ w'.cell? ⟨w.heap.size + 1, 0, none⟩ = some (.int .u32 c1) ∧ w'.cell? ⟨w.heap.size + 1, 1, none⟩ = some (.int .u32 c2) ∧ w'.cell? ⟨w.heap.size + 1, 2, none⟩ = some (.int .u16 b3) ∧ So w a1 a2 a3 c1 c2 b3 w') (first | exact (by assumption : S7 _ _ _ _ _ _ _ _) | exact s7_drew (by assumption)) (first
      | (go_at_call 11; refine (HP.out _ _ _ _ _ _ _).mono ?_; rintro e w' ⟨rfl, hb⟩; have hk : S7 w a1 a2 a3 c1 c2 b3 w' := s7_step (by assumption) hb; clear hb)
      | (go_at_call 12; refine (HQ.out _ _ _ _ _ _ _).mono ?_; rintro e w' ⟨rfl, hb⟩; have hk : S7 w a1 a2 a3 c1 c2 b3 w' := s7_step (by assumption) hb; clear hb))
    all_goals
      have HF := Lib.hid (by assumption : S7 w a1 a2 a3 c1 c2 b3 _)
      go_wp2_with fail
      go_meet
      exact ⟨rfl, HF.out.2.2.2.2.2.2⟩
  case rest =>
  obtain ⟨rfl, hc⟩ := hcut
  have H4 := Lib.hid hc
  clear hc
  have HW := Lib.hid (row_alloc wc #[.int .i64 n, .int .i64 (n.tmod 10)] 3)
  go_wp2_with fail
  go_loopw [54] (fun i wr => ∃ k : Nat, k ≤ 2 ∧ i = .int .i64 k ∧ So w a1 a2 a3 c1 c2 b3 wr ∧ wr.heap[wc.heap.size]? = some (.cells #[.int .i64 n, .int .i64 (n.tmod 10)] 3 (0, 0))) (fun i _ => 2 - (RowKit.intOf i).toNat)
  case atStart => exact ⟨0, by omega, rfl, so_step H4.out (Below.alloc (Below.refl _ _) (Nat.le_refl _) _), HW.out⟩
  case round =>
    obtain ⟨k, hk, rfl, hso, hrow⟩ := hrel
    have H5 := Lib.hid hso
    have R5 := Lib.hid hrow
    clear hso hrow
    by_cases hlt : k < 2
    · obtain ⟨v, hv⟩ : ∃ v : Int, wr.cell? ⟨wc.heap.size, k, none⟩ = some (.int .i64 v) := by
        rcases (show k = 0 ∨ k = 1 by omega) with rfl | rfl
        · exact ⟨n, row_cell R5.out 0⟩
        · exact ⟨_, row_cell R5.out 1⟩
      have hlt' : (k : Int) < 2 := by omega
      have hwk : wrap64 ((k : Int) + 1) = ((k + 1 : Nat) : Int) := by unfold wrap64; omega
      obtain ⟨⟨x0, x1, x2⟩, y0, y1, y2⟩ := so_cells H5.out
      by_cases h3 : a3 = 0
      · by_cases hv1 : v < 1
        · sorry
        · by_cases hv8 : 8 < v
          · sorry
          · sorry
      · have HN := Lib.hid (show ∀ W : World, Calls Tryd.prog 13 #[.agg #[.int .u32 a1, .int .u32 a2, .int .u16 a3], .int .i64 v] W fun e w' => e = .returned (.tuple #[.agg #[.int .u32 0, .int .u32 0, .int .u16 0], .bool false]) ∧ Below W.heap.size W w' from fun W => by have h := nested_any a1 a2 a3 v W; unfold nestV at h; rw [if_neg (fun h => h3 h.1)] at h; exact h)
        have b3z : (a3 == 0) = false := by rw [beq_eq_false_iff_ne]; exact h3
        go_wp2_with fail
        go_at_call 13; refine (HN.out _).mono ?_; rintro e w2 ⟨rfl, hb2⟩
        have H6 := Lib.hid (so_step H5.out hb2)
        have R6 := Lib.hid (row_step R5.out hb2)
        clear hb2 x0 x1 x2 y0 y1 y2 hv
        obtain ⟨⟨x0, x1, x2⟩, _⟩ := so_cells H6.out
        have xlt := (rw_cells H6.out.1).2.2
        go_wp2_with fail
        trace_state
        sorry
    · obtain rfl : k = 2 := by omega
      sorry
end Num
end Go.Proofs.YtbodakfgoijeeaaDoor
