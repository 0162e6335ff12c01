/-
  CounterSums, at any list of floats.
-/
import Derived.Test.YtmhogdigkdcnfaaCSb
import Derived.Test.YtmhogdigkdcnfaaRFl
import Derived.Deep.RegionHeld3
import Derived.Deep.DeepCutAuto
namespace Go.Proofs.Ytmhogdigkdcnfaa
open Go.RowKit
namespace Num
open Ints
set_option linter.unusedSimpArgs false
set_option linter.unusedVariables false
/-- What a round keeps behind Do: the state's box, both new boxes, the new state, the answer. -/
def AD (w x : World) (sb tb vb : Nat) (q : Option Addr) (m d : Nat) (qt : Option Addr) (mt dt : Nat) (qv : Option Addr) (dv : Nat) (i : Int) (sm : Nat) : Prop :=
  x.cell? ⟨vb, 0, none⟩ = some (.int .i64 2) ∧ x.cell? ⟨vb, 1, none⟩ = some (.int .i64 0) ∧ x.cell? ⟨vb, 2, none⟩ = some (.float .f64 sm) ∧ x.cell? ⟨vb, 3, none⟩ = some (.string ⟨#[]⟩) ∧ x.cell? ⟨vb, 4, none⟩ = some (.slice qv 0 dv) ∧
  SBX x sb (.int .i64 4) (.int .i64 0) (.float .f64 0) (.string ⟨#[]⟩) (.slice q m d) ∧ CS x tb (.int .i64 4) (.int .i64 0) (.float .f64 0) (.string ⟨#[]⟩) (.slice qt mt dt) ∧
  Below w.heap.size w x ∧ RepS (fun b => sb + 1 ≤ b) x 2 (.agg #[.int .i64 4, .int .i64 0, .float .f64 0, .string ⟨#[]⟩, .slice qt mt dt]) (cntS 0 i sm) ∧ Rep x 2 (.agg #[.int .i64 2, .int .i64 0, .float .f64 sm, .string ⟨#[]⟩, .slice qv 0 dv]) (floV 1 sm)
theorem ad_step {w x y : World} {sb tb vb : Nat} {q : Option Addr} {m d : Nat} {qt : Option Addr} {mt dt : Nat} {qv : Option Addr} {dv : Nat} {i : Int} {sm : Nat} (h : AD w x sb tb vb q m d qt mt dt qv dv i sm) (hb : Below x.heap.size x y) : AD w y sb tb vb q m d qt mt dt qv dv i sm :=
  ⟨cell_keep hb h.1, cell_keep hb h.2.1, cell_keep hb h.2.2.1, cell_keep hb h.2.2.2.1, cell_keep hb h.2.2.2.2.1, sbx_step h.2.2.2.2.2.1 hb, cs_step h.2.2.2.2.2.2.1 hb, bel_step h.2.2.2.2.2.2.2.1 hb, repS_stay hb _ _ _ h.2.2.2.2.2.2.2.2.1, rep_keep hb _ _ _ h.2.2.2.2.2.2.2.2.2⟩
/-- What is kept behind the loop: the total's box, the count's. -/
def AE (w x : World) (vb nb : Nat) (qv : Option Addr) (dv : Nat) (k : Int) (sm : Nat) : Prop :=
  x.cell? ⟨vb, 0, none⟩ = some (.int .i64 2) ∧ x.cell? ⟨vb, 1, none⟩ = some (.int .i64 0) ∧ x.cell? ⟨vb, 2, none⟩ = some (.float .f64 sm) ∧ x.cell? ⟨vb, 3, none⟩ = some (.string ⟨#[]⟩) ∧ x.cell? ⟨vb, 4, none⟩ = some (.slice qv 0 dv) ∧ x.cell? ⟨nb, 1, none⟩ = some (.int .i64 k) ∧
  Below w.heap.size w x ∧ Rep x 2 (.agg #[.int .i64 2, .int .i64 0, .float .f64 sm, .string ⟨#[]⟩, .slice qv 0 dv]) (floV 1 sm)
theorem ae_step {w x y : World} {vb nb : Nat} {qv : Option Addr} {dv : Nat} {k : Int} {sm : Nat} (h : AE w x vb nb qv dv k sm) (hb : Below x.heap.size x y) : AE w y vb nb qv dv k sm :=
  ⟨cell_keep hb h.1, cell_keep hb h.2.1, cell_keep hb h.2.2.1, cell_keep hb h.2.2.2.1, cell_keep hb h.2.2.2.2.1, cell_keep hb h.2.2.2.2.2.1, bel_step h.2.2.2.2.2.2.1 hb, rep_keep hb _ _ _ h.2.2.2.2.2.2.2⟩
theorem ae_drew {w x : World} {vb nb : Nat} {qv : Option Addr} {dv : Nat} {k : Int} {sm : Nat} (h : AE w x vb nb qv dv k sm) : AE w x.drew vb nb qv dv k sm := ae_step h (Below.drew (Below.refl _ _))
theorem ad_drew {w x : World} {sb tb vb : Nat} {q : Option Addr} {m d : Nat} {qt : Option Addr} {mt dt : Nat} {qv : Option Addr} {dv : Nat} {i : Int} {sm : Nat} (h : AD w x sb tb vb q m d qt mt dt qv dv i sm) : AD w x.drew sb tb vb q m d qt mt dt qv dv i sm := ad_step h (Below.drew (Below.refl _ _))
/-- A sum of two Floats runs, whatever it comes to. -/
theorem add_runs (W : World) (x y sm : Nat) (h : Flo.cop .add x y = sm) : ∃ (s : Nat) (W' : World), s < 2 ^ 64 ∧ Flo.canon s = sm ∧ (W' = W ∨ W' = W.drew) ∧ ∀ t, (binOp .add t (.float .f64 x) (.float .f64 y)).run Try.prog W = .ok (.float .f64 s) W' := by
  cases hf : floatBits .add .f64 x y with
  | some r => exact ⟨r, W, Flo.floatBits_lt hf, (Flo.cop_some hf).symm.trans h, Or.inl rfl, fun t => run_float_arith W .add t .f64 x y r hf⟩
  | none => exact ⟨_, W.drew, Flo.drawn_lt _ _ _, (Flo.canon_drawn _ _ _).trans ((Flo.cop_none hf).symm.trans h), Or.inr rfl, fun t => Flo.run_none W .add t x y (Or.inl rfl) hf⟩
set_option maxRecDepth 100000 in
set_option maxHeartbeats 4000000 in
theorem sums_any (p : Option Addr) (l c : Nat) (Fs : List Nat) (hF : ∀ y ∈ Fs, y < 2 ^ 64) (w : World) (h : RepF w p l c Fs) :
    Calls Try.prog 5 #[.slice p l c] w fun e w' => e = .returned (.bool true) ∧ Below w.heap.size w w' := by
  obtain ⟨hl, hlc, hcm, hel⟩ := h
  unfold maxLen at hcm
  have HL := Lib.hid hl
  have HE := Lib.hid hel
  have HF := Lib.hid hF
  clear hl hel hF
  by_cases h60 : 60 < l
  · go_enter Try.func5, Try.ntmps5
    go_wp2_with fail
    go_at_call 7; refine (known9 _).mono ?_; rintro e w0 ⟨rfl, hb0⟩
    go_wp2
    go_ret
    exact ⟨rfl, hb0⟩
  have hl60 : l ≤ 60 := by omega
  go_enter Try.func5, Try.ntmps5
  go_wp2_with fail
  go_at_call 7; refine (known9 _).mono ?_; rintro e w0 ⟨rfl, hb0⟩
  have HB0 := Lib.hid hb0
  clear hb0
  go_wp2_with fail
  go_at_call 8; refine (cnt_start _).mono ?_; rintro e w1 ⟨q, m, d, rfl, hr1, hb1⟩
  have hal := bel_alloc (Below.refl w1.heap.size w1) (.cells #[.int .i64 4, .int .i64 0, .float .f64 0, .string ⟨#[]⟩, .slice q m d] 27)
  have hrow := row_alloc w1 #[.int .i64 4, .int .i64 0, .float .f64 0, .string ⟨#[]⟩, .slice q m d] 27
  have HS := Lib.hid (And.intro (show SBX _ _ _ _ _ _ _ from ⟨cs_row hrow, fun o => row_frz hrow o⟩) (And.intro (show RC1 w (.agg #[.int .i64 4, .int .i64 0, .float .f64 0, .string ⟨#[]⟩, .slice q m d]) 2 (cntS 0 0 0) _ from ⟨bel_step HB0.out (bel_step hb1 hal), rep_keep hal _ _ _ hr1⟩) (show w.heap.size ≤ w1.heap.size from (bel_step HB0.out hb1).size)))
  clear hb1 hr1 hal hrow HB0
  go_wp2
  revert HS
  generalize w1.alloc (.cells #[.int .i64 4, .int .i64 0, .float .f64 0, .string ⟨#[]⟩, .slice q m d] 27) = W0
  generalize w1.heap.size = sb
  intro HS
  have hsb : w.heap.size ≤ sb := HS.out.2.2
  go_loopw [5, 6] (fun v i wr => ∃ (k x : Nat) (q : Option Addr) (m d : Nat), k ≤ l ∧ i = .int .i64 k ∧ v = .float .f64 x ∧ x < 2 ^ 64 ∧ SBX wr sb (.int .i64 4) (.int .i64 0) (.float .f64 0) (.string ⟨#[]⟩) (.slice q m d) ∧ RC1 w (.agg #[.int .i64 4, .int .i64 0, .float .f64 0, .string ⟨#[]⟩, .slice q m d]) 2 (cntS 0 k (Flo.canon x)) wr) (fun _ i _ => l - (intOf i).toNat)
  case atStart => exact ⟨0, 0, q, m, d, by omega, rfl, rfl, by decide, HS.out.1, by rw [show Flo.canon 0 = 0 by decide +kernel]; exact HS.out.2.1⟩
  case round =>
    clear HS
    obtain ⟨k, x, q, m, d, hk, rfl, rfl, hx, hs, hr⟩ := hrel
    by_cases hkl : k < l
    · obtain ⟨lb, lo, hp, hcell⟩ := HE.out (by omega)
      subst hp
      have hkL : k < Fs.length := by have := HL.out; omega
      have hwl := hcell k hkL
      have hy := HF.out _ (List.getElem_mem hkL)
      obtain ⟨y, hyd⟩ : ∃ y, Fs[k] = y := ⟨_, rfl⟩
      rw [hyd] at hwl hy
      have hlb : lb < w.heap.size := cell_lt hwl
      have hs0 := sbx_csl hs (cell_keep hr.1 hwl)
      have hr0 := hr
      have hws := hr.1.size
      have hlt : sb < wr.heap.size := cs_lt hs.1
      have hk0 : (0 : Int) ≤ (k : Int) := by omega
      have hkl2 : (k : Int) < (l : Int) := by omega
      obtain ⟨sm, hsm⟩ : ∃ sm, Flo.cop .add x y = sm := ⟨_, rfl⟩
      have hR : cntD 0 addC (cntS 0 k (Flo.canon x)) [floV 1 (Flo.canon y)] = (cntS 0 (k + 1) sm, floV 1 sm, 0) := by
        have h := cnt_add (k : Int) (Flo.canon x) (Flo.canon y) hk0 (by omega)
        rw [Flo.canon_canon, cop_canon_add, hsm] at h
        exact h
      have HH := Lib.hid (And.intro (Flo.canon_lt hy) hR)
      have HSM := Lib.hid hsm
      have HX := Lib.hid (And.intro hx hy)
      clear hs hr hR hcell hwl hyd hsm hx hy hkL
      have hc6 := hs0.2.2.2.2.2.1
      go_upto_region 10 with fail
      clear hc6
      go_cut [7, 8, 9] from 25 to 58 (fun s7 s8 s9 wx => ∃ tb vb Kt It Ft Zt qt mt dt Kv Iv Fv Zv qv mv dv, s7 = .pointer (some ⟨tb, 0, none⟩) ∧ s8 = .pointer (some ⟨vb, 0, none⟩) ∧ s9 = .int .i64 0 ∧ CS wx tb (.int .i64 Kt) (.int .i64 It) (.float .f64 Ft) (.string Zt) (.slice qt mt dt) ∧ CS wx vb (.int .i64 Kv) (.int .i64 Iv) (.float .f64 Fv) (.string Zv) (.slice qv mv dv) ∧ (Below w.heap.size w wx ∧ RepS (fun b => sb + 1 ≤ b) wx 2 (.agg #[.int .i64 Kt, .int .i64 It, .float .f64 Ft, .string Zt, .slice qt mt dt]) (cntS 0 (k + 1) sm)) ∧ Rep wx 2 (.agg #[.int .i64 Kv, .int .i64 Iv, .float .f64 Fv, .string Zv, .slice qv mv dv]) (floV 1 sm) ∧ CSL wx sb (.int .i64 4) (.int .i64 0) (.float .f64 0) (.string ⟨#[]⟩) (.slice q m d) lb (lo + k) y)
      case first =>
        have hc0 := hs0.1
        go_region_held3 (fun x => x.cell? ⟨sb, 0, none⟩ = some (.int .i64 4) ∧ x.cell? ⟨sb, 1, none⟩ = some (.int .i64 0) ∧ x.cell? ⟨sb, 2, none⟩ = some (.float .f64 0) ∧ x.cell? ⟨sb, 3, none⟩ = some (.string ⟨#[]⟩) ∧ x.cell? ⟨sb, 4, none⟩ = some (.slice q m d) ∧ x.cell? ⟨lb, lo + k, none⟩ = some (.float .f64 y) ∧ ∀ o, x.frozen? ⟨sb, o, none⟩ = false) ((show CSL _ sb (.int .i64 4) (.int .i64 0) (.float .f64 0) (.string ⟨#[]⟩) (.slice q m d) lb (lo + k) y; (repeat (with_reducible first | assumption | refine csl_alloc ?_ _ | refine csl_drew ?_ | (refine csl_set ?_ ?_ ?_; rotate_left; omega; omega))))) (first
          | (go_at_call 17; refine (float_ref_any _ _).mono ?_; rintro e wF ⟨rfl, hb⟩; have hkF : CSL wF sb (.int .i64 4) (.int .i64 0) (.float .f64 0) (.string ⟨#[]⟩) (.slice q m d) lb (lo + k) y := csl_step (by (repeat (with_reducible first | assumption | refine csl_alloc ?_ _ | refine csl_drew ?_))) hb; have hrF : RC1 w (.agg #[.int .i64 4, .int .i64 0, .float .f64 0, .string ⟨#[]⟩, .slice q m d]) 2 (cntS 0 k (Flo.canon x)) wF := rc_step (by (repeat (with_reducible first | assumption | refine rc_alloc ?_ _ | refine rc_drew ?_))) hb; obtain ⟨hcF, hfF⟩ := bcell hb; (try simp only [World.size_alloc, World.size_drew] at hcF hfF); have zF := hb.size; (try simp only [World.size_alloc, World.size_drew] at zF); (try have ylFwr0 : wr.heap.size < wF.heap.size := by omega); (try have ynFwr0 : wF.heap.size ≠ wr.heap.size := by omega); (try have ymFwr0 : wF.heap.size + 1 ≠ wr.heap.size := by omega); (try have ykFwr0 : wr.heap.size < wF.heap.size + 1 := by omega); (try have ylFwr1 : wr.heap.size + 1 < wF.heap.size := by omega); (try have ynFwr1 : wF.heap.size ≠ wr.heap.size + 1 := by omega); (try have ymFwr1 : wF.heap.size + 1 ≠ wr.heap.size + 1 := by omega); (try have ykFwr1 : wr.heap.size + 1 < wF.heap.size + 1 := by omega); clear hb)
          | (go_at_call 11; refine (cdo_rc (w := w) (by (repeat (with_reducible first | assumption | refine rc_alloc ?_ _ | refine rc_drew ?_))) (by first | exact lf_new (by simp only [World.size_alloc]) HH.out.1 | (refine lf_alloc ?_ _; first | exact lf_new (by simp only [World.size_alloc]) HH.out.1 | (refine lf_alloc ?_ _; exact lf_new (by simp only [World.size_alloc]) HH.out.1))) _ HH.out.2).mono ?_; rintro e wD ⟨t, v, rfl, hb, ht, hv⟩; obtain ⟨Kt, It, Ft, Zt, qt, mt, dt, rfl, _⟩ := repS_shape ht; obtain ⟨Kv, Iv, Fv, Zv, qv, mv, dv, rfl, _⟩ := repS_shape hv; have hkD : CSL wD sb (.int .i64 4) (.int .i64 0) (.float .f64 0) (.string ⟨#[]⟩) (.slice q m d) lb (lo + k) y := csl_step (by (repeat (with_reducible first | assumption | refine csl_alloc ?_ _ | refine csl_drew ?_))) hb; have hrD : RC1 w (.agg #[.int .i64 4, .int .i64 0, .float .f64 0, .string ⟨#[]⟩, .slice q m d]) 2 (cntS 0 k (Flo.canon x)) wD := rc_step (by (repeat (with_reducible first | assumption | refine rc_alloc ?_ _ | refine rc_drew ?_))) hb; have hBD := hrD.1; (try simp only [World.size_alloc, World.size_drew] at ht hv); have HTV := Lib.hid (And.intro ht hv); clear ht hv; obtain ⟨hcD, hfD⟩ := bcell hb; (try simp only [World.size_alloc, World.size_drew] at hcD hfD); have zD := hb.size; (try simp only [World.size_alloc, World.size_drew] at zD); (try have ylDwr0 : wr.heap.size < wD.heap.size := by omega); (try have ynDwr0 : wD.heap.size ≠ wr.heap.size := by omega); (try have ymDwr0 : wD.heap.size + 1 ≠ wr.heap.size := by omega); (try have ykDwr0 : wr.heap.size < wD.heap.size + 1 := by omega); (try have ylDwr1 : wr.heap.size + 1 < wD.heap.size := by omega); (try have ynDwr1 : wD.heap.size ≠ wr.heap.size + 1 := by omega); (try have ymDwr1 : wD.heap.size + 1 ≠ wr.heap.size + 1 := by omega); (try have ykDwr1 : wr.heap.size + 1 < wD.heap.size + 1 := by omega); (try have ylDwF0 : wF.heap.size < wD.heap.size := by omega); (try have ynDwF0 : wD.heap.size ≠ wF.heap.size := by omega); (try have ymDwF0 : wD.heap.size + 1 ≠ wF.heap.size := by omega); (try have ykDwF0 : wF.heap.size < wD.heap.size + 1 := by omega); (try have ylDwF1 : wF.heap.size + 1 < wD.heap.size := by omega); (try have ynDwF1 : wD.heap.size ≠ wF.heap.size + 1 := by omega); (try have ymDwF1 : wD.heap.size + 1 ≠ wF.heap.size + 1 := by omega); (try have ykDwF1 : wF.heap.size + 1 < wD.heap.size + 1 := by omega); (try have ylDwF2 : wF.heap.size + 1 + 1 < wD.heap.size := by omega); (try have ynDwF2 : wD.heap.size ≠ wF.heap.size + 1 + 1 := by omega); (try have ymDwF2 : wD.heap.size + 1 ≠ wF.heap.size + 1 + 1 := by omega); (try have ykDwF2 : wF.heap.size + 1 + 1 < wD.heap.size + 1 := by omega); clear hb))
        all_goals (go_wp2_with fail)
        all_goals go_meet
        all_goals
          clear hkF hrF hrD hs0 hr0 HH
          refine ⟨_, _, Kt, It, Ft, Zt, qt, mt, dt, Kv, Iv, Fv, Zv, qv, mv, dv, rfl, rfl, rfl, ?_, ?_, ⟨?_, ?_⟩, ?_, ?_⟩
          · (repeat (with_reducible first | exact cs_new (by simp only [World.size_alloc, World.size_setCell]) | refine cs_alloc ?_ _ | refine cs_set5 (u0 := .int .i64 0) (u1 := .int .i64 0) (u2 := .float .f64 0) (u3 := .string ⟨#[]⟩) (u4 := .slice none 0 0) ?_ | (refine cs_other ?_ ?_; rotate_left; omega)))
            all_goals (unfold CS; simp [go_sem, *]; done)
          · (repeat (with_reducible first | exact cs_new (by simp only [World.size_alloc, World.size_setCell]) | refine cs_alloc ?_ _ | refine cs_set5 (u0 := .int .i64 0) (u1 := .int .i64 0) (u2 := .float .f64 0) (u3 := .string ⟨#[]⟩) (u4 := .slice none 0 0) ?_ | (refine cs_other ?_ ?_; rotate_left; omega)))
            all_goals (unfold CS; simp [go_sem, *]; done)
          · (repeat (with_reducible first | exact hBD | refine bel_alloc ?_ _ | (refine bel_set5 ?_ ?_; rotate_left; omega)))
          · refine rep_outS HTV.out.1 (by omega) (fun b hb1 hb2 => ?_)
            (repeat (with_reducible first | exact rfl | (refine hk_alloc ?_ ?_; rotate_left; ((try simp only [World.size_alloc, World.size_setCell]); omega)) | (refine hk_set5 ?_ ?_; rotate_left; omega)))
          · refine rep_out HTV.out.2 (fun b hb1 hb2 => ?_)
            (repeat (with_reducible first | exact rfl | (refine hk_alloc ?_ ?_; rotate_left; ((try simp only [World.size_alloc, World.size_setCell]); omega)) | (refine hk_set5 ?_ ?_; rotate_left; omega)))
          · (repeat (with_reducible first | exact hkD | refine csl_alloc ?_ _ | (refine csl_set5 ?_ ?_ ?_; rotate_left; omega; omega)))
      case rest =>
      obtain ⟨tb, vb, Kt, It, Ft, Zt, qt, mt, dt, Kv, Iv, Fv, Zv, qv, mv, dv, rfl, rfl, rfl, hct, hcv, hrt, hrv, hkc⟩ := hcut
      obtain ⟨rfl, rfl, rfl, rfl, rfl⟩ := rep_leaf hrv
      obtain ⟨rfl, rfl, rfl, rfl⟩ := rep_cnt5 (repS_rep _ _ _ hrt.2)
      have hsmF : Fv = Fv := rfl
      obtain ⟨sn, W', hsn, hcn, hW, hrun⟩ := add_runs wc x y _ HSM.out
      have HAD : AD w wc sb tb vb q m d qt mt dt qv dv (k + 1) _ := ⟨hcv.1, hcv.2.1, hcv.2.2.1, hcv.2.2.2.1, hcv.2.2.2.2, csl_sbx hkc, hct, hrt.1, hrt.2, hrv⟩
      have HA2 := Lib.hid (show AD w W' sb tb vb q m d qt mt dt qv dv (k + 1) _ by rcases hW with rfl | rfl; exact HAD; exact ad_drew HAD)
      have HN := Lib.hid hcn
      have HSN := Lib.hid hsn
      have hcl := hkc.2.2.2.2.2.1
      clear hct hcv hrt hrv hkc HAD hW hcn hsn hs0 hr0
      go_upto_region 12 with fail
      clear hrun hcl
      have hk := HA2.out
      have hvl : vb < W'.heap.size := cell_lt hk.1
      go_region_held3 (fun z => z.cell? ⟨vb, 0, none⟩ = some (.int .i64 2) ∧ z.cell? ⟨vb, 1, none⟩ = some (.int .i64 0) ∧ z.cell? ⟨vb, 2, none⟩ = some (.float .f64 Fv) ∧ z.cell? ⟨vb, 3, none⟩ = some (.string ⟨#[]⟩) ∧ z.cell? ⟨vb, 4, none⟩ = some (.slice qv 0 dv) ∧ SBX z sb (.int .i64 4) (.int .i64 0) (.float .f64 0) (.string ⟨#[]⟩) (.slice q m d) ∧ CS z tb (.int .i64 4) (.int .i64 0) (.float .f64 0) (.string ⟨#[]⟩) (.slice qt mt dt) ∧ Below w.heap.size w z ∧ RepS (fun b => sb + 1 ≤ b) z 2 (.agg #[.int .i64 4, .int .i64 0, .float .f64 0, .string ⟨#[]⟩, .slice qt mt dt]) (cntS 0 (k + 1) Fv) ∧ Rep z 2 (.agg #[.int .i64 2, .int .i64 0, .float .f64 Fv, .string ⟨#[]⟩, .slice qv 0 dv]) (floV 1 Fv)) (first | exact (by assumption : AD w _ sb tb vb q m d qt mt dt qv dv (k + 1) Fv) | exact ad_drew (by assumption)) (first
        | (go_at_call 17; refine (float_ref_any _ _).mono ?_; rintro e wF ⟨rfl, hb⟩; have hkF : AD w wF sb tb vb q m d qt mt dt qv dv (k + 1) Fv := ad_step (by first | assumption | exact ad_drew (by assumption)) hb; clear hb)
        | (go_at_call 13; refine (same_any 2 _ _ (floV 1 Fv) _ (hkF.2.2.2.2.2.2.2.2.2) (by rw [HN.out]; exact leafR _ 1 2 0 Fv ⟨#[]⟩ (by decide) (by decide) (by rw [← HN.out]; exact Flo.canon_lt HSN.out) (by decide))).mono ?_; rintro e wD ⟨rfl, hb⟩; have hkD : AD w wD sb tb vb q m d qt mt dt qv dv (k + 1) Fv := ad_step (by first | exact hkF | exact ad_drew hkF) hb; clear hb))
      have hk3 := hkD
      obtain ⟨tc0, tc1, tc2, tc3, tc4⟩ := hkD.2.2.2.2.2.2.1
      obtain ⟨⟨sc0, sc1, sc2, sc3, sc4⟩, sfz⟩ := hkD.2.2.2.2.2.1
      have htl : tb < wD.heap.size := cell_lt tc0
      have hsl : sb < wD.heap.size := cell_lt sc0
      have HKD := Lib.hid hkD
      clear hkD hk3 hkF hk
      go_wp2
      go_roundw
      case rel =>
        refine ⟨k + 1, sn, _, _, _, by omega, by go_num, rfl, HSN.out, sbx_set5 HKD.out.2.2.2.2.2.1, bel_set5 HKD.out.2.2.2.2.2.2.2.1 hsb, ?_⟩
        rw [HN.out]
        exact rep_out HKD.out.2.2.2.2.2.2.2.2.1 (fun b hb1 hb2 => hk_set5 rfl (by omega))
      case measure => simp [intOf]; omega
    · obtain rfl : k = l := by omega
      clear HE HF
      have HTO := Lib.hid (cdo_nil wr _ k (Flo.canon x) (by omega) hr.2 totalC (Or.inr (Or.inr rfl)) (cntS 0 k (Flo.canon x), floV 1 (Flo.canon x), 0) (by unfold cntR; rw [if_neg (by decide), if_neg (by decide), if_neg (by decide), Flo.canon_canon]))
      unfold DoP at HTO
      have HS := Lib.hid hs
      have HR := Lib.hid hr
      obtain ⟨⟨sc0, sc1, sc2, sc3, sc4⟩, sfz⟩ := hs
      have hsl : sb < wr.heap.size := cell_lt sc0
      clear hr
      go_wp2_with fail
      go_at_call 11; refine HTO.out.mono ?_; rintro e w2 ⟨t, v, rfl, hb2, ht, hv⟩
      obtain ⟨K5, I5, F5, S5, q5, m5, d5, rfl, _⟩ := repS_shape ht
      obtain ⟨q6, d6, rfl⟩ := num_shape hv
      have hal0 := bel_alloc (bel_alloc (Below.refl w2.heap.size w2) (.cells #[.int .i64 K5, .int .i64 I5, .float .f64 F5, .string S5, .slice q5 m5 d5] 27)) (.cells #[.int .i64 2, .int .i64 0, .float .f64 (Flo.canon x), .string ⟨#[]⟩, .slice q6 0 d6] 27)
      have hal := bel_step hb2 hal0
      have hvc : CS ((w2.alloc (.cells #[.int .i64 K5, .int .i64 I5, .float .f64 F5, .string S5, .slice q5 m5 d5] 27)).alloc (.cells #[.int .i64 2, .int .i64 0, .float .f64 (Flo.canon x), .string ⟨#[]⟩, .slice q6 0 d6] 27)) (w2.heap.size + 1) _ _ _ _ _ := cs_new (World.size_alloc _ _).symm
      have HV2 := Lib.hid (And.intro hvc (rep_keep hal0 _ _ _ (repS_rep _ _ _ hv)))
      have HS2 := Lib.hid (sbx_step HS.out hal)
      have HR2 := Lib.hid (rc_step HR.out hal)
      have HCO := Lib.hid (cdo_nil ((w2.alloc (.cells #[.int .i64 K5, .int .i64 I5, .float .f64 F5, .string S5, .slice q5 m5 d5] 27)).alloc (.cells #[.int .i64 2, .int .i64 0, .float .f64 (Flo.canon x), .string ⟨#[]⟩, .slice q6 0 d6] 27)) _ k (Flo.canon x) (by omega) HR2.out.2 countC (Or.inl rfl) (cntS 0 k (Flo.canon x), intV 1 k, 0) (by unfold cntR; rw [if_neg (by decide), if_pos rfl, Flo.canon_canon]))
      unfold DoP at HCO
      have z := sbx_step HS.out hb2
      clear sc0 sc1 sc2 sc3 sc4 sfz hsl
      obtain ⟨⟨sc0, sc1, sc2, sc3, sc4⟩, sfz⟩ := z
      have hsl : sb < w2.heap.size := cell_lt sc0
      have hn1 : w2.heap.size ≠ sb := by omega
      have hn2 : w2.heap.size + 1 ≠ sb := by omega
      have hn3 : sb < w2.heap.size + 1 := by omega
      clear hb2 ht hv hal0 hal hvc HTO HS HR
      go_wp2_with fail
      go_at_call 11; refine HCO.out.mono ?_; rintro e w3 ⟨t, v, rfl, hb3, ht, hv⟩
      obtain ⟨K7, I7, F7, S7, q7, m7, d7, rfl, _⟩ := repS_shape ht
      obtain ⟨q8, d8, rfl⟩ := num_shape hv
      have hal0 := bel_alloc (bel_alloc (Below.refl w3.heap.size w3) (.cells #[.int .i64 K7, .int .i64 I7, .float .f64 F7, .string S7, .slice q7 m7 d7] 27)) (.cells #[.int .i64 1, .int .i64 k, .float .f64 0, .string ⟨#[]⟩, .slice q8 0 d8] 27)
      have hal := bel_step hb3 hal0
      have hnc : CS ((w3.alloc (.cells #[.int .i64 K7, .int .i64 I7, .float .f64 F7, .string S7, .slice q7 m7 d7] 27)).alloc (.cells #[.int .i64 1, .int .i64 k, .float .f64 0, .string ⟨#[]⟩, .slice q8 0 d8] 27)) (w3.heap.size + 1) _ _ _ _ _ := cs_new (World.size_alloc _ _).symm
      have hv3 := cs_step HV2.out.1 hal
      have HE := Lib.hid (show AE w ((w3.alloc (.cells #[.int .i64 K7, .int .i64 I7, .float .f64 F7, .string S7, .slice q7 m7 d7] 27)).alloc (.cells #[.int .i64 1, .int .i64 k, .float .f64 0, .string ⟨#[]⟩, .slice q8 0 d8] 27)) (w2.heap.size + 1) (w3.heap.size + 1) q6 d6 k (Flo.canon x) from ⟨hv3.1, hv3.2.1, hv3.2.2.1, hv3.2.2.2.1, hv3.2.2.2.2, hnc.2.1, bel_step HR2.out.1 hal, rep_keep hal _ _ _ HV2.out.2⟩)
      clear sc0 sc1 sc2 sc3 sc4 sfz hsl hn1 hn2 hn3 hb3 ht hv hal0 hal hnc hv3 HCO HV2 HS2 HR2
      go_wp2_with fail
      revert HE
      generalize (w3.alloc (.cells #[.int .i64 K7, .int .i64 I7, .float .f64 F7, .string S7, .slice q7 m7 d7] 27)).alloc (.cells #[.int .i64 1, .int .i64 k, .float .f64 0, .string ⟨#[]⟩, .slice q8 0 d8] 27) = W5
      generalize w3.heap.size + 1 = nb
      generalize w2.heap.size + 1 = vb
      intro HE
      have HX := Lib.hid (Flo.canon_lt hx)
      have hk9 := HE.out
      have hvl : vb < W5.heap.size := cell_lt hk9.1
      have hnl : nb < W5.heap.size := cell_lt hk9.2.2.2.2.2.1
      clear hx
      go_region_held3 (fun z => z.cell? ⟨vb, 0, none⟩ = some (.int .i64 2) ∧ z.cell? ⟨vb, 1, none⟩ = some (.int .i64 0) ∧ z.cell? ⟨vb, 2, none⟩ = some (.float .f64 (Flo.canon x)) ∧ z.cell? ⟨vb, 3, none⟩ = some (.string ⟨#[]⟩) ∧ z.cell? ⟨vb, 4, none⟩ = some (.slice q6 0 d6) ∧ z.cell? ⟨nb, 1, none⟩ = some (.int .i64 k) ∧ Below w.heap.size w z ∧ Rep z 2 (.agg #[.int .i64 2, .int .i64 0, .float .f64 (Flo.canon x), .string ⟨#[]⟩, .slice q6 0 d6]) (floV 1 (Flo.canon x))) (first | exact (by assumption : AE w _ vb nb q6 d6 k (Flo.canon x)) | exact ae_drew (by assumption)) (first
        | (go_at_call 17; refine (float_ref_any _ _).mono ?_; rintro e wF ⟨rfl, hb⟩; have hkF : AE w wF vb nb q6 d6 k (Flo.canon x) := ae_step (by first | assumption | exact ae_drew (by assumption)) hb; clear hb)
        | (go_at_call 13; refine (same_any 2 _ _ (floV 1 (Flo.canon x)) _ (hkF.2.2.2.2.2.2.2) (leafR _ 1 2 0 (Flo.canon x) ⟨#[]⟩ (by decide) (by decide) HX.out (by decide))).mono ?_; rintro e wD ⟨rfl, hb⟩; have hkD : AE w wD vb nb q6 d6 k (Flo.canon x) := ae_step (by first | exact hkF | exact ae_drew hkF) hb; clear hb))
      all_goals
        have HF := Lib.hid (by assumption : AE w _ vb nb q6 d6 k (Flo.canon x))
        go_wp2
        go_ret
        exact ⟨rfl, HF.out.2.2.2.2.2.2.1⟩
end Num
end Go.Proofs.Ytmhogdigkdcnfaa
