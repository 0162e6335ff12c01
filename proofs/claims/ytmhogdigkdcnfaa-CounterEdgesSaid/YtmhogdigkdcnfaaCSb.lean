/-
  The example of chapter 9.
-/
import Derived.Test.YtmhogdigkdcnfaaCSk
import Derived.Test.YtmhogdigkdcnfaaHGs
import Derived.Deep.RegionHeld3
import Derived.Deep.DeepCutAuto
namespace Go.Proofs.Ytmhogdigkdcnfaa
open Go.RowKit
namespace Num
open Ints
set_option linter.unusedSimpArgs false
set_option linter.unusedVariables false
theorem cnt_start (w : World) : Calls Try.prog 8 #[.string { data := #[99, 111, 117, 110, 116, 101, 114] }] w fun e w' => ∃ q m d, e = .returned (.tuple #[.agg #[.int .i64 4, .int .i64 0, .float .f64 0, .string ⟨#[]⟩, .slice q m d], .bool true]) ∧ Rep w' 2 (.agg #[.int .i64 4, .int .i64 0, .float .f64 0, .string ⟨#[]⟩, .slice q m d]) (cntS 0 0 0) ∧ Below w.heap.size w w' := by
  refine (rstC w).mono ?_
  rintro e w' ⟨v0, v1, v2, v3, v4, rfl, hr, hb⟩
  obtain ⟨q, m, d, hv, h⟩ := hr
  injection hv with hv
  simp only [Array.mk.injEq, List.cons.injEq, and_true] at hv
  obtain ⟨rfl, rfl, rfl, rfl, rfl⟩ := hv
  exact ⟨q, m, d, rfl, ⟨q, m, d, rfl, h⟩, hb⟩
set_option maxRecDepth 100000 in
set_option maxHeartbeats 4000000 in
theorem known9 (w : World) : Calls Try.prog 7 #[] w fun e w' => e = .returned (.bool true) ∧ Below w.heap.size w w' := by
  go_enter Try.func7, Try.ntmps7
  go_upto_region 2 with (go_at_call 8; refine (cnt_start _).mono ?_; rintro e w1 ⟨q, m, d, rfl, hr1, hb1⟩; have hal := bel_alloc (Below.refl w1.heap.size w1) (.cells #[.int .i64 4, .int .i64 0, .float .f64 0, .string ⟨#[]⟩, .slice q m d] 27); have HS := Lib.hid (And.intro (cs_row (row_alloc w1 #[.int .i64 4, .int .i64 0, .float .f64 0, .string ⟨#[]⟩, .slice q m d] 27)) (show RC1 w (.agg #[.int .i64 4, .int .i64 0, .float .f64 0, .string ⟨#[]⟩, .slice q m d]) 2 (cntS 0 0 0) _ from ⟨bel_step hb1 hal, rep_keep hal _ _ _ hr1⟩)); clear hb1 hr1 hal)
  revert HS
  generalize w1.alloc (.cells #[.int .i64 4, .int .i64 0, .float .f64 0, .string ⟨#[]⟩, .slice q m d] 27) = W
  generalize w1.heap.size = sb
  intro HS
  obtain ⟨hs0, hr0⟩ := HS.out
  go_cut [3, 4, 5] (fun s3 s4 s5 wx => ∃ tb vb Kt It Ft Zt qt mt dt Kv Iv Fv Zv qv mv dv, s3 = .pointer (some ⟨tb, 0, none⟩) ∧ s4 = .pointer (some ⟨vb, 0, none⟩) ∧ s5 = .int .i64 0 ∧ CS wx tb (.int .i64 Kt) (.int .i64 It) (.float .f64 Ft) (.string Zt) (.slice qt mt dt) ∧ CS wx vb (.int .i64 Kv) (.int .i64 Iv) (.float .f64 Fv) (.string Zv) (.slice qv mv dv) ∧ RC1 w (.agg #[.int .i64 Kt, .int .i64 It, .float .f64 Ft, .string Zt, .slice qt mt dt]) 2 (cntS 0 1 4602678819172646912) wx ∧ Rep wx 2 (.agg #[.int .i64 Kv, .int .i64 Iv, .float .f64 Fv, .string Zv, .slice qv mv dv]) (floV 1 4602678819172646912))
  case first =>
    have hlt := cs_lt hs0
    have hws := hr0.1.size
    have hc : Flo.canon 4602678819172646912 = 4602678819172646912 := by decide +kernel
    have hR : cntD 0 addC (cntS 0 0 0) [floV 1 4602678819172646912] = (cntS 0 1 4602678819172646912, floV 1 4602678819172646912, 0) := (cnt_add 0 0 4602678819172646912 (by decide) (by decide)).trans (by rw [show Flo.cop .add (Flo.canon 0) 4602678819172646912 = 4602678819172646912 by decide +kernel]; rfl)
    have HH := Lib.hid (And.intro hc hR)
    clear hc hR
    go_region_held3 (fun x => x.cell? ⟨sb, 0, none⟩ = some (.int .i64 4) ∧ x.cell? ⟨sb, 1, none⟩ = some (.int .i64 0) ∧ x.cell? ⟨sb, 2, none⟩ = some (.float .f64 0) ∧ x.cell? ⟨sb, 3, none⟩ = some (.string ⟨#[]⟩) ∧ x.cell? ⟨sb, 4, none⟩ = some (.slice q m d)) ((show CS _ sb (.int .i64 4) (.int .i64 0) (.float .f64 0) (.string ⟨#[]⟩) (.slice q m d); (repeat (with_reducible first | assumption | refine cs_alloc ?_ _ | refine cs_drew ?_ | (refine cs_set ?_ ?_; rotate_left; omega))))) (first
      | (go_at_call 17; refine (float_ref_any _ _).mono ?_; rintro e wF ⟨rfl, hb⟩; rw [HH.out.1]; have hkF : CS wF sb (.int .i64 4) (.int .i64 0) (.float .f64 0) (.string ⟨#[]⟩) (.slice q m d) := cs_step (by (repeat (with_reducible first | assumption | refine cs_alloc ?_ _ | refine cs_drew ?_))) hb; have hrF : RC1 w (.agg #[.int .i64 4, .int .i64 0, .float .f64 0, .string ⟨#[]⟩, .slice q m d]) 2 (cntS 0 0 0) wF := rc_step (by (repeat (with_reducible first | assumption | refine rc_alloc ?_ _ | refine rc_drew ?_))) hb; obtain ⟨hcF, hfF⟩ := bcell hb; (try simp only [World.size_alloc, World.size_drew] at hcF hfF); have zF := hb.size; (try simp only [World.size_alloc, World.size_drew] at zF); (try have ylFW0 : W.heap.size < wF.heap.size := by omega); (try have ynFW0 : wF.heap.size ≠ W.heap.size := by omega); (try have ymFW0 : wF.heap.size + 1 ≠ W.heap.size := by omega); (try have ykFW0 : W.heap.size < wF.heap.size + 1 := by omega); (try have ylFW1 : W.heap.size + 1 < wF.heap.size := by omega); (try have ynFW1 : wF.heap.size ≠ W.heap.size + 1 := by omega); (try have ymFW1 : wF.heap.size + 1 ≠ W.heap.size + 1 := by omega); (try have ykFW1 : W.heap.size + 1 < wF.heap.size + 1 := by omega); clear hb)
      | (go_at_call 11; refine (cdo_rc (w := w) (by (repeat (with_reducible first | assumption | refine rc_alloc ?_ _ | refine rc_drew ?_))) (by first | exact lf_new (by simp only [World.size_alloc]) (by decide) | (refine lf_alloc ?_ _; first | exact lf_new (by simp only [World.size_alloc]) (by decide) | (refine lf_alloc ?_ _; exact lf_new (by simp only [World.size_alloc]) (by decide)))) _ HH.out.2).mono ?_; rintro e wD ⟨t, v, rfl, hb, ht, hv⟩; obtain ⟨Kt, It, Ft, Zt, qt, mt, dt, rfl, _⟩ := repS_shape ht; obtain ⟨Kv, Iv, Fv, Zv, qv, mv, dv, rfl, _⟩ := repS_shape hv; have hkD : CS wD sb (.int .i64 4) (.int .i64 0) (.float .f64 0) (.string ⟨#[]⟩) (.slice q m d) := cs_step (by (repeat (with_reducible first | assumption | refine cs_alloc ?_ _ | refine cs_drew ?_))) hb; have hrD : RC1 w (.agg #[.int .i64 4, .int .i64 0, .float .f64 0, .string ⟨#[]⟩, .slice q m d]) 2 (cntS 0 0 0) wD := rc_step (by (repeat (with_reducible first | assumption | refine rc_alloc ?_ _ | refine rc_drew ?_))) hb; have hBD := hrD.1; (try simp only [World.size_alloc, World.size_drew] at ht hv); have HTV := Lib.hid (And.intro ht hv); clear ht hv; obtain ⟨hcD, hfD⟩ := bcell hb; (try simp only [World.size_alloc, World.size_drew] at hcD hfD); have zD := hb.size; (try simp only [World.size_alloc, World.size_drew] at zD); (try have ylDW0 : W.heap.size < wD.heap.size := by omega); (try have ynDW0 : wD.heap.size ≠ W.heap.size := by omega); (try have ymDW0 : wD.heap.size + 1 ≠ W.heap.size := by omega); (try have ykDW0 : W.heap.size < wD.heap.size + 1 := by omega); (try have ylDW1 : W.heap.size + 1 < wD.heap.size := by omega); (try have ynDW1 : wD.heap.size ≠ W.heap.size + 1 := by omega); (try have ymDW1 : wD.heap.size + 1 ≠ W.heap.size + 1 := by omega); (try have ykDW1 : W.heap.size + 1 < wD.heap.size + 1 := by omega); (try have ylDwF0 : wF.heap.size < wD.heap.size := by omega); (try have ynDwF0 : wD.heap.size ≠ wF.heap.size := by omega); (try have ymDwF0 : wD.heap.size + 1 ≠ wF.heap.size := by omega); (try have ykDwF0 : wF.heap.size < wD.heap.size + 1 := by omega); (try have ylDwF1 : wF.heap.size + 1 < wD.heap.size := by omega); (try have ynDwF1 : wD.heap.size ≠ wF.heap.size + 1 := by omega); (try have ymDwF1 : wD.heap.size + 1 ≠ wF.heap.size + 1 := by omega); (try have ykDwF1 : wF.heap.size + 1 < wD.heap.size + 1 := by omega); (try have ylDwF2 : wF.heap.size + 1 + 1 < wD.heap.size := by omega); (try have ynDwF2 : wD.heap.size ≠ wF.heap.size + 1 + 1 := by omega); (try have ymDwF2 : wD.heap.size + 1 ≠ wF.heap.size + 1 + 1 := by omega); (try have ykDwF2 : wF.heap.size + 1 + 1 < wD.heap.size + 1 := by omega); clear hb))
    all_goals (go_wp2_with fail)
    all_goals go_meet
    all_goals
      clear hkF hrF hkD hrD hs0 hr0 HS HH
      refine ⟨_, _, Kt, It, Ft, Zt, qt, mt, dt, Kv, Iv, Fv, Zv, qv, mv, dv, rfl, rfl, rfl, ?_, ?_, ⟨?_, ?_⟩, ?_⟩
      · (repeat (with_reducible first | exact cs_new (by simp only [World.size_alloc, World.size_setCell]) | refine cs_alloc ?_ _ | refine cs_set5 (u0 := .int .i64 0) (u1 := .int .i64 0) (u2 := .float .f64 0) (u3 := .string ⟨#[]⟩) (u4 := .slice none 0 0) ?_ | (refine cs_other ?_ ?_; rotate_left; omega)))
        all_goals (unfold CS; simp [go_sem, *]; done)
      · (repeat (with_reducible first | exact cs_new (by simp only [World.size_alloc, World.size_setCell]) | refine cs_alloc ?_ _ | refine cs_set5 (u0 := .int .i64 0) (u1 := .int .i64 0) (u2 := .float .f64 0) (u3 := .string ⟨#[]⟩) (u4 := .slice none 0 0) ?_ | (refine cs_other ?_ ?_; rotate_left; omega)))
        all_goals (unfold CS; simp [go_sem, *]; done)
      · (repeat (with_reducible first | exact hBD | refine bel_alloc ?_ _ | (refine bel_set5 ?_ ?_; rotate_left; omega)))
      · refine rep_out HTV.out.1 (fun b hb1 hb2 => ?_)
        (repeat (with_reducible first | exact rfl | (refine hk_alloc ?_ ?_; rotate_left; ((try simp only [World.size_alloc, World.size_setCell]); omega)) | (refine hk_set5 ?_ ?_; rotate_left; omega)))
      · refine rep_out HTV.out.2 (fun b hb1 hb2 => ?_)
        (repeat (with_reducible first | exact rfl | (refine hk_alloc ?_ ?_; rotate_left; ((try simp only [World.size_alloc, World.size_setCell]); omega)) | (refine hk_set5 ?_ ?_; rotate_left; omega)))
  case rest =>
  obtain ⟨tb, vb, Kt, It, Ft, Zt, qt, mt, dt, Kv, Iv, Fv, Zv, qv, mv, dv, rfl, rfl, rfl, hct, hcv, hrt, hrv⟩ := hcut
  have HDO := Lib.hid (cdo_nil wc _ 1 4602678819172646912 (by decide) hrt.2 countC (Or.inl rfl) (cntS 0 1 4602678819172646912, intV 1 1, 0) (by unfold cntR; rw [if_neg (by decide), if_pos rfl, show Flo.canon 4602678819172646912 = 4602678819172646912 by decide +kernel]))
  unfold DoP at HDO
  obtain ⟨rfl, rfl, rfl, rfl, rfl⟩ := rep_leaf hrv
  have HQ := Lib.hid (show (FloatKind.f64.format.order 4602678819172646912 4602678819172646912 == some .eq) = true by decide +kernel)
  have HRV := Lib.hid hrv
  have HRT := Lib.hid hrt
  have HCV := Lib.hid (show CS wc vb (.int .i64 2) (.int .i64 0) (.float .f64 4602678819172646912) (.string ⟨#[]⟩) (.slice qv 0 dv) from hcv)
  have HCT := Lib.hid hct
  obtain ⟨x0, x1, x2, x3, x4⟩ := hct
  clear hrt hrv HS hs0 hr0 hcv
  go_wp2_with fail
  go_at_call 11; refine HDO.out.mono ?_; rintro e w2 ⟨t, v, rfl, hb2, ht, hv⟩
  obtain ⟨K5, I5, F5, S5, q5, m5, d5, rfl, _⟩ := repS_shape ht
  obtain ⟨q6, d6, rfl⟩ := num_shape hv
  have hal := bel_alloc (bel_alloc hb2 (.cells #[.int .i64 K5, .int .i64 I5, .float .f64 F5, .string S5, .slice q5 m5 d5] 27)) (.cells #[.int .i64 1, .int .i64 1, .float .f64 0, .string ⟨#[]⟩, .slice q6 0 d6] 27)
  have HB2 := Lib.hid (bel_step HRT.out.1 hal)
  have ha := cright_any 0 _ _ _ (rep_keep hal _ _ _ HRT.out.2)
  have hb := fun W (h : Below (((w2.alloc (.cells #[.int .i64 K5, .int .i64 I5, .float .f64 F5, .string S5, .slice q5 m5 d5] 27)).alloc (.cells #[.int .i64 1, .int .i64 1, .float .f64 0, .string ⟨#[]⟩, .slice q6 0 d6] 27))).heap.size ((w2.alloc (.cells #[.int .i64 K5, .int .i64 I5, .float .f64 F5, .string S5, .slice q5 m5 d5] 27)).alloc (.cells #[.int .i64 1, .int .i64 1, .float .f64 0, .string ⟨#[]⟩, .slice q6 0 d6] 27)) W) => cright_any 0 _ _ W (rep_keep h _ _ _ (rep_keep hal _ _ _ HRV.out))
  rw [show cntB 0 (cntS 0 1 4602678819172646912) = true by rfl] at ha
  rw [show cntB 0 (floV 1 4602678819172646912) = false by rfl] at hb
  have HA := Lib.hid ha
  have HB := Lib.hid hb
  have HCV2 := Lib.hid (cs_step HCV.out hal)
  obtain ⟨x0, x1, x2, x3, x4⟩ := cs_step HCT.out hb2
  obtain ⟨y0, y1, y2, y3, y4⟩ := cs_step HCV.out hb2
  have lt1 := cell_lt x0
  have lt2 := cell_lt y0
  have g1 : w2.heap.size ≠ tb := by show w2.heap.size ≠ tb; have h : tb < w2.heap.size := lt1; omega
  have g2 : w2.heap.size ≠ vb := by have h : vb < w2.heap.size := lt2; omega
  have g3 : w2.heap.size + 1 ≠ tb := by have h : tb < w2.heap.size := lt1; omega
  have g4 : w2.heap.size + 1 ≠ vb := by have h : vb < w2.heap.size := lt2; omega
  have g5 : tb < w2.heap.size + 1 := by have h : tb < w2.heap.size := lt1; omega
  have g6 : vb < w2.heap.size + 1 := by have h : vb < w2.heap.size := lt2; omega
  have hq := HQ.out
  clear hb2 ht hv hal ha hb HDO HCT HCV HRT HRV HQ
  go_wp2_with fail
  go_at_call 14; refine HA.out.mono ?_; rintro e w3 ⟨rfl, hb3⟩
  have HB3 := Lib.hid (bel_step HB2.out hb3)
  have HBB := Lib.hid (HB.out _ hb3)
  have z := cs_step HCV2.out hb3
  clear y0 y1 y2 y3 y4 x0 x1 x2 x3 x4 HB HA HCV2 HB2 hb3
  obtain ⟨y0, y1, y2, y3, y4⟩ := z
  go_wp2_with fail
  go_at_call 14; refine HBB.out.mono ?_; rintro e w4 ⟨rfl, hb4⟩
  have HB4 := Lib.hid (bel_step HB3.out hb4)
  clear hb4 HB3 HBB y0 y1 y2 y3 y4
  go_wp2
  go_ret
  exact ⟨rfl, HB4.out⟩
end Num
end Go.Proofs.Ytmhogdigkdcnfaa
