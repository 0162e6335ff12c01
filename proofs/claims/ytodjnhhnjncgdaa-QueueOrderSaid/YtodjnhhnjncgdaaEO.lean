/-
  QueueOrder: what the law does.
-/
import Derived.Test.YtodjnhhnjncgdaaEO1
import Derived.Test.YtodjnhhnjncgdaaEO2
import Derived.Test.YtodjnhhnjncgdaaEO3
import Derived.Test.YtodjnhhnjncgdaaEO4
import Derived.Test.YtodjnhhnjncgdaaMJ
import Derived.Deep.RegionHeld3
import Derived.RegionTactic
import Derived.Deep.DeepCutAuto
namespace Go.Proofs.Ytodjnhhnjncgdaa
open Go.RowKit
namespace Num
open Ints
set_option linter.unusedSimpArgs false
set_option linter.unusedVariables false
set_option maxRecDepth 100000 in
set_option maxHeartbeats 4000000 in
theorem order11 (p : Option Addr) (l c : Nat) (X : List Int) (w : World) (h : RdH w p l c X) (hB : Short X) :
    Calls Try.prog 5 #[.slice p l c] w fun e w' => e = .returned (.bool true) ∧ Below w.heap.size w w' := by
  have hlen : X.length = l := h.1
  have hcc : c ≤ 9223372036854775807 := by have := h.2.2.1; unfold maxLen at this; omega
  have hlc := h.2.1
  have HX := Lib.hid h
  have HBY := Lib.hid hB
  have HLEN := Lib.hid hlen
  have hl0 : (0 : Int) ≤ (l : Int) := by omega
  clear h hB hlen
  by_cases hbig : 80 < l
  · have hb : (80 : Int) < (l : Int) := by omega
    go_enter Try.func5, Try.ntmps5
    go_wp2_with (go_at_call 7; refine (known11 _).mono ?_; rintro e w1 ⟨rfl, hb1⟩)
    go_ret
    exact ⟨rfl, hb1⟩
  have hs : ¬ (80 : Int) < (l : Int) := by omega
  clear hbig
  go_enter Try.func5, Try.ntmps5
  go_wp2_with (first
    | (go_at_call 7; refine (known11 _).mono ?_; rintro e w1 ⟨rfl, hb1⟩; have HB1 := Lib.hid hb1; clear hb1)
    | (go_at_call 17; refine (list_ref_any _ _ _ _).mono ?_; rintro e w2 ⟨rfl, hb2⟩; have HB2 := Lib.hid (bel_step HB1.out hb2); clear hb2))
  have HS := Lib.hid (show FB w w2.heap.size none 0 0 (w2.alloc (.cells #[.int .i64 4, .int .i64 0, .float .f64 0, .string ⟨#[]⟩, .slice none 0 0] 27)) ∧ w2.heap.size < (w2.alloc (.cells #[.int .i64 4, .int .i64 0, .float .f64 0, .string ⟨#[]⟩, .slice none 0 0] 27)).heap.size from ⟨⟨cs_new rfl, bel_alloc HB2.out _, fun o => row_frz (row_alloc w2 #[.int .i64 4, .int .i64 0, .float .f64 0, .string ⟨#[]⟩, .slice none 0 0] 27) o⟩, by rw [World.size_alloc]; exact Nat.lt_succ_self _⟩)
  have h1 : w.heap.size ≤ w2.heap.size := HB2.out.size
  clear HB2 HB1
  revert HS h1
  generalize w2.alloc (.cells #[.int .i64 4, .int .i64 0, .float .f64 0, .string ⟨#[]⟩, .slice none 0 0] 27) = W
  generalize w2.heap.size = sb
  intro HS h1
  have HSW := Lib.hid HS.out.2
  go_loopw [4, 5] (fun vw iv wr => ∃ (i : Nat) (Y : List Int) (qs : Option Addr) (ms ds : Nat) (pw : Option Addr) (lw cw : Nat), i ≤ l ∧ iv = .int .i64 i ∧ vw = .slice pw lw cw ∧ lw ≤ 32 ∧ (∀ y ∈ Y, okI y) ∧ FB w sb qs ms ds wr ∧ RepS (fun b => sb < b) wr 2 (.agg #[.int .i64 4, .int .i64 0, .float .f64 0, .string ⟨#[]⟩, .slice qs ms ds]) (intsQ Y) ∧ OwW W wr pw lw cw Y ∧ W.heap.size ≤ wr.heap.size) (fun _ iv _ => l - (intOf iv).toNat)
  case atStart => exact ⟨0, [], none, 0, 0, none, 0, 0, by omega, rfl, rfl, by omega, fun y hy => absurd hy List.not_mem_nil, HS.out.1, repS_nilQ _ _, ow_new _ _, Nat.le_refl _⟩
  case round =>
    obtain ⟨i, Y, qs, ms, ds, pw, lw, cw, hil, rfl, rfl, hlw, hok, hfb, hst, how, hWw⟩ := hrel
    have HFB := Lib.hid hfb
    have HSR := Lib.hid hst
    have HOW := Lib.hid how
    have HOK := Lib.hid hok
    have HYL := Lib.hid (show Y.length = lw from how.1)
    have HWW := Lib.hid hWw
    clear hfb hst how hok hWw HS
    by_cases hlt : i < l
    · have hi0 : (0 : Int) ≤ (i : Int) := by omega
      have hil2 : (i : Int) < (l : Int) := by omega
      have hix : i < X.length := by have := HLEN.out; omega
      obtain ⟨nb, no, hpb, hit⟩ := HX.out.2.2.2 (by omega)
      subst hpb
      have hcw := hit i hix
      obtain ⟨x, hx⟩ : ∃ x, X[i] = x := ⟨_, rfl⟩
      have hxb := HBY.out X[i] (List.getElem_mem hix)
      rw [hx] at hcw hxb
      have hc := cell_keep (HFB.out.2.1) hcw
      have hnb : nb < w.heap.size := cell_lt hcw
      have HFX := Lib.hid (show FBX w sb qs ms ds nb no i x wr from ⟨HFB.out, hc⟩)
      have HOX := Lib.hid (show okI x by unfold okI; omega)
      have HSTr := Lib.hid (repS_rep _ _ _ HSR.out)
      have hwx : IntKind.i64.wrap x = x := by rw [IntKind.wrap_i64]; omega
      clear hx hcw hit hix
      by_cases hx0 : 0 ≤ x
      · obtain ⟨z, TT, UU, hz, HDO⟩ : ∃ (z : Int) (TT : VT 2) (UU : VT 1), ((lw < 32 ∧ z = 0 ∧ TT = intsQ (Y ++ [x]) ∧ UU = numT 0 ((lw : Int) + 1)) ∨ (lw = 32 ∧ z = 33 ∧ TT = nilT 1 ∧ UU = nilT 0)) ∧ Hid (∀ (W : World) (g : Nat), Rep W 2 (.agg #[.int .i64 4, .int .i64 0, .float .f64 0, .string ⟨#[]⟩, .slice qs ms ds]) (intsQ Y) → L1 g x W → Calls Try.prog 11 #[.agg #[.int .i64 4, .int .i64 0, .float .f64 0, .string ⟨#[]⟩, .slice qs ms ds], .string { data := #[112, 117, 115, 104] }, .slice (some ⟨g, 0, none⟩) 1 1] W fun e w' => DoQ W 2 1 TT UU z e w') := by
          by_cases h32 : lw < 32
          · refine ⟨0, _, _, Or.inl ⟨h32, rfl, rfl, rfl⟩, Lib.hid (fun W g hs hr => ?_)⟩
            have h := push_I (by have := HYL.out; omega) hs hr
            rw [HYL.out] at h
            exact h
          · exact ⟨33, _, _, Or.inr ⟨by omega, rfl, rfl, rfl⟩, Lib.hid (fun W g hs hr => full_I (by have := HYL.out; omega) hs hr)⟩
        have HZ := Lib.hid hz
        clear hz
        go_upto_region 11 with fail
        have hsbr : sb < wr.heap.size := cs_lt HFB.out.1
        have hwr0 : w.heap.size ≤ wr.heap.size := HFB.out.2.1.size
        refine reg11_any w wr sb qs ms ds Y TT UU z nb no l c i x _ _ _ _ _ _ _ _ _ _ _ _ _ _ _ _ _ _ _ _ _ _ _ _ _ _ _ _ _ _ _ _ _ _ _ _ _ _ _ _ _ _ _ _ _ _ _ _ _ _ _ _ _ _ _ _ _ _ _ _ _ _ _ _ _ _ _ _ _ _ _ _ _ _ _ _ _ _ _ _ _ _ _ _ _ _ _ _ _ _ _ _ _ _ _ _ _ _ _ _ _ _ _ _ _ _ _ _ _ _ _ _ _ _ _ _ _ _ _ _ _ _ _ _ _ _ _ _ _ _ _ _ _ _ _ _ _ _ _ _ _ _ _ _ _ _ _ _ _ _ _ _ _ _ _ _ _ _ _ _ _ (fun _ _ d _ _ h => by cases d <;> exact h) hi0 hil2 hwx hnb HOX HFX HDO hsbr hwr0 HSTr ?_
        intro gA gB gE Kt It Ft Zt qt mt dt Kv Iv Fv Zv qv mv dv wc hcut
        obtain ⟨hca, hcb, hfx, hbel, hrt, hrv, hgA, hgB⟩ := hcut
        clear hsbr hwr0
        have hwr := HWW.out
        have hsw := HSW.out
        have hww : w.heap.size ≤ wr.heap.size := HFB.out.2.1.size
        rcases HZ.out with ⟨h32, rfl, rfl, rfl⟩ | ⟨h32, rfl, rfl, rfl⟩
        · obtain ⟨rfl, rfl, rfl, rfl⟩ := rep_q4 (repS_rep _ _ _ hrt)
          obtain ⟨rfl, rfl, rfl, rfl, rfl⟩ := rep_leaf (repS_rep _ _ _ hrv)
          have hni : ¬ (32 : Int) ≤ (lw : Int) := by omega
          have how := oww_below HOW.out hbel
          have hblk := oww_blk HOW.out
          have HRT := Lib.hid hrt
          have HFC := Lib.hid hfx.1
          have HCA := Lib.hid hca
          have HCB := Lib.hid hcb
          have HBL := Lib.hid hbel
          have HBK := Lib.hid hblk
          have hgr := row_alloc wc #[.int .i64 x] 2
          have hal := bel_alloc (Below.refl wc.heap.size wc) (.cells #[.int .i64 x] 2)
          have howa := oww_below how hal
          have HAL := Lib.hid hal
          have HOA := Lib.hid howa
          have HGR := Lib.hid hgr
          have hcx := hfx.2
          have hnl : nb < wc.heap.size := cell_lt hcx
          have hbz := hbel.size
          clear hrv hrt hfx hca hcb hbel how hblk hgr hal howa HDO HZ HFB HFX HSTr HSR hc
          go_upto_region 16 with (at_builtin; refine wp_oww rfl (.tmp 57) (.tmp 63) rfl W _ pw lw cw Y wc.heap.size x rfl rfl HOA.out (by have := HAL.out.size; omega) HGR.out (by omega) ?_; intro p5 c5 w5 how5 hg5; have HO5 := Lib.hid how5; have HG5 := Lib.hid hg5; clear how5 hg5)
          have hal := HAL.out
          have hg5 := HG5.out
          have haz : wc.heap.size ≤ (wc.alloc (.cells #[.int .i64 x] 2)).heap.size := hal.size
          have hneA : some gA ≠ pw.map (·.block) := row_ne (x := wc) HBK.out (Or.inr hgA)
          have hneB : some gB ≠ pw.map (·.block) := row_ne (x := wc) HBK.out (Or.inr hgB)
          have hneS : some sb ≠ pw.map (·.block) := row_ne (x := wc) HBK.out (Or.inl hsw)
          have hcA5 := cs_grown (cs_step HCA.out hal) hg5 hneA
          have hcB5 := cs_grown (cs_step HCB.out hal) hg5 hneB
          have hf5 := fb_grown (fb_step HFC.out hal) hg5 hneS (by omega) (fun k hk => by have := HBK.out k hk; omega)
          have hrt5 := repS_keep (w' := w5) (fun b hb => hg5.block b (by have := hb.2; omega) (row_ne (x := wc) HBK.out (Or.inr hb.1.1))) _ _ _ (repS_lt _ _ _ (repS_step hal HRT.out))
          have hz5 := hg5.size
          have HF5 := Lib.hid hf5
          have HRT5 := Lib.hid (repS_mono (S' := fun b => sb < b) (fun b hb => by have := hb.1.1; omega) _ _ _ hrt5)
          obtain ⟨t0, t1, t2, t3, t4⟩ := hcA5
          obtain ⟨v0, v1, v2, v3, v4⟩ := hcB5
          obtain ⟨⟨s0, s1, s2, s3, s4⟩, _, sf⟩ := hf5
          have sl := cell_lt s0
          have HZ5 := Lib.hid (show W.heap.size ≤ w5.heap.size by omega)
          clear hneA hneB hneS hg5 hal hrt5 HG5 HAL HCA HCB HFC HRT HGR HOA HBK HBL hcx
          go_wp2
          go_roundw
          case rel => exact ⟨i + 1, Y ++ [x], qt, mt, dt, p5, lw + 1, c5, by omega, by go_num, rfl, by omega, fun y hy => by rcases List.mem_append.1 hy with hy | hy; exact HOK.out y hy; rw [List.mem_singleton.1 hy]; exact HOX.out, fb_new HF5.out h1 qt mt dt, repS_set HRT5.out (fun b hb => by omega), oww_keep HO5.out (by show w5.heap.size ≤ (set5 w5 sb 0 _ _ _ _ _).heap.size; rw [set5_size]; exact Nat.le_refl _) (fun a ha => set5_other (g := sb) (o := 0) (by have := (oww_blk HO5.out a.block (by rw [ha]; rfl)).1; omega)), by show W.heap.size ≤ (set5 w5 sb 0 _ _ _ _ _).heap.size; rw [set5_size]; exact HZ5.out⟩
          case measure => simp [intOf]; omega
        · have hni : (32 : Int) ≤ (lw : Int) := by omega
          have HFC := Lib.hid hfx.1
          have HSC := Lib.hid (repS_step hbel HSR.out)
          have HOC := Lib.hid (oww_below HOW.out hbel)
          have HZC := Lib.hid (Nat.le_trans HWW.out hbel.size)
          clear hrv hrt hfx hca hcb hbel HDO HZ HFB HFX HSTr HSR HOW hc h32
          go_wp2
          go_roundw
          case rel => exact ⟨i + 1, Y, qs, ms, ds, pw, lw, cw, by omega, by go_num, rfl, by omega, HOK.out, HFC.out, HSC.out, HOC.out, HZC.out⟩
          case measure => simp [intOf]; omega
      · obtain ⟨x0, x1, x2, x3, x4⟩ := HFB.out.1
        have xl := cell_lt x0
        go_upto_region 20 with (first
          | (go_at_call 11; refine (pop_I (X := Y) (by have := HYL.out; omega) HSTr.out).mono ?_; rintro e w8 ⟨t, v, rfl, hb8, ht, hv⟩; obtain ⟨Kt, It, Ft, Zt, qt, mt, dt, rfl, _⟩ := repS_shape ht; obtain ⟨Kv, Iv, Fv, Zv, qv, mv, dv, rfl, _⟩ := repS_shape hv
             have hsb := cs_lt HFB.out.1
             have hal := bel_alloc (bel_alloc (Below.refl w8.heap.size w8) (.cells #[.int .i64 Kt, .int .i64 It, .float .f64 Ft, .string Zt, .slice qt mt dt] 27)) (.cells #[.int .i64 Kv, .int .i64 Iv, .float .f64 Fv, .string Zv, .slice qv mv dv] 27)
             have hbl := bel_step hb8 hal
             have HT := Lib.hid (show Below wr.heap.size wr ((w8.alloc (.cells #[.int .i64 Kt, .int .i64 It, .float .f64 Ft, .string Zt, .slice qt mt dt] 27)).alloc (.cells #[.int .i64 Kv, .int .i64 Iv, .float .f64 Fv, .string Zv, .slice qv mv dv] 27)) ∧ CS ((w8.alloc (.cells #[.int .i64 Kt, .int .i64 It, .float .f64 Ft, .string Zt, .slice qt mt dt] 27)).alloc (.cells #[.int .i64 Kv, .int .i64 Iv, .float .f64 Fv, .string Zv, .slice qv mv dv] 27)) w8.heap.size (.int .i64 Kt) (.int .i64 It) (.float .f64 Ft) (.string Zt) (.slice qt mt dt) ∧ CS ((w8.alloc (.cells #[.int .i64 Kt, .int .i64 It, .float .f64 Ft, .string Zt, .slice qt mt dt] 27)).alloc (.cells #[.int .i64 Kv, .int .i64 Iv, .float .f64 Fv, .string Zv, .slice qv mv dv] 27)) (w8.heap.size + 1) (.int .i64 Kv) (.int .i64 Iv) (.float .f64 Fv) (.string Zv) (.slice qv mv dv) ∧ RepS (fun b => sb < b) ((w8.alloc (.cells #[.int .i64 Kt, .int .i64 It, .float .f64 Ft, .string Zt, .slice qt mt dt] 27)).alloc (.cells #[.int .i64 Kv, .int .i64 Iv, .float .f64 Fv, .string Zv, .slice qv mv dv] 27)) 2 (.agg #[.int .i64 Kt, .int .i64 It, .float .f64 Ft, .string Zt, .slice qt mt dt]) (intsQ (Y.drop 1)) ∧ RepS (fun b => sb < b) ((w8.alloc (.cells #[.int .i64 Kt, .int .i64 It, .float .f64 Ft, .string Zt, .slice qt mt dt] 27)).alloc (.cells #[.int .i64 Kv, .int .i64 Iv, .float .f64 Fv, .string Zv, .slice qv mv dv] 27)) 1 (.agg #[.int .i64 Kv, .int .i64 Iv, .float .f64 Fv, .string Zv, .slice qv mv dv]) (headT 0 (numsT Y)) from
               ⟨hbl, cs_alloc (cs_new rfl) _, cs_new (World.size_alloc _ _).symm, repS_step hal (repS_mono (fun b hb => Nat.lt_of_lt_of_le hsb hb) _ _ _ ht), repS_step hal (repS_mono (fun b hb => Nat.lt_of_lt_of_le hsb hb) _ _ _ hv)⟩)
             clear hb8 ht hv hal hbl hsb))
        revert HT
        generalize (w8.alloc (.cells #[.int .i64 Kt, .int .i64 It, .float .f64 Ft, .string Zt, .slice qt mt dt] 27)).alloc (.cells #[.int .i64 Kv, .int .i64 Iv, .float .f64 Fv, .string Zv, .slice qv mv dv] 27) = wx
        generalize w8.heap.size + 1 = kb
        generalize w8.heap.size = tb
        intro HT
        obtain ⟨hbx, hct, hcv, hrt, hrv⟩ := HT.out
        have how := oww_below HOW.out hbx
        have hfx := fb_step HFB.out hbx
        have HZX := Lib.hid (Nat.le_trans HWW.out hbx.size)
        clear x0 x1 x2 x3 x4 xl HT hbx HOW HFB HFX HSTr HSR hc
        have hsw := HSW.out
        rcases Y with _ | ⟨y, Yr⟩
        · obtain rfl : 0 = lw := HYL.out
          obtain ⟨rfl, rfl, rfl, rfl, rfl⟩ := rep_leaf (repS_rep _ _ _ hrv)
          have HRT := Lib.hid hrt
          have HFC := Lib.hid hfx
          have HOC := Lib.hid how
          have HCT := Lib.hid hct
          clear hrt hrv hfx how hct
          refine wp_region_held_drew (S := (fun z => z.cell? ⟨kb, 0, none⟩ = some (.int .i64 0) ∧ z.cell? ⟨kb, 1, none⟩ = some (.int .i64 0) ∧ z.cell? ⟨kb, 2, none⟩ = some (.float .f64 0) ∧ z.cell? ⟨kb, 3, none⟩ = some (.string ⟨#[]⟩) ∧ z.cell? ⟨kb, 4, none⟩ = some (.slice qv 0 dv))) (by kernel_rfl) ?_ (fun hHeld => ?_)
          · exact cs_drew hcv
          have HD9 := Lib.hid (show Below wx.heap.size wx wx.drew from Below.drew (Below.refl _ _))
          revert HD9 hHeld
          generalize wx.drew = Wd
          intro hHeld HD9
          refine wpAnyH_take (i := 0) (oi := ?_) (v := ?_) ?hin0 (by kernel_rfl) ?hfn0 ?hrn0 ?hQn0 ?hyn0 (by assumption) ?restn0
          case hin0 => (simp only [List.getElem?_toArray, List.getElem?_cons_zero, List.getElem?_cons_succ]; rfl)
          case hfn0 => kernel_rfl
          case hrn0 => kernel_rfl
          case hyn0 => (refine Or.inl ⟨by rfl, ?_⟩; intro wS hSw; (try dsimp only at hSw); go_simp; (try with_reducible rfl))
          case hQn0 => exact fun _ _ _ h => h
          (try simp only [Act.put, List.setIfInBounds_toArray, List.set_cons_zero, List.set_cons_succ])
          refine wpAnyH_take (i := 1) (oi := ?_) (v := ?_) ?hin1 (by kernel_rfl) ?hfn1 ?hrn1 ?hQn1 ?hyn1 (by assumption) ?restn1
          case hin1 => (simp only [List.getElem?_toArray, List.getElem?_cons_zero, List.getElem?_cons_succ]; rfl)
          case hfn1 => kernel_rfl
          case hrn1 => kernel_rfl
          case hyn1 => (refine Or.inl ⟨by rfl, ?_⟩; intro wS hSw; (try dsimp only at hSw); go_simp; (try with_reducible rfl))
          case hQn1 => exact fun _ _ _ h => h
          (try simp only [Act.put, List.setIfInBounds_toArray, List.set_cons_zero, List.set_cons_succ])
          refine wpAnyH_take (i := 2) (oi := ?_) (v := ?_) ?hin2 (by kernel_rfl) ?hfn2 ?hrn2 ?hQn2 ?hyn2 (by assumption) ?restn2
          case hin2 => (simp only [List.getElem?_toArray, List.getElem?_cons_zero, List.getElem?_cons_succ]; rfl)
          case hfn2 => kernel_rfl
          case hrn2 => kernel_rfl
          case hyn2 => (refine Or.inl ⟨by rfl, ?_⟩; intro wS hSw; (try dsimp only at hSw); go_simp; (try with_reducible rfl))
          case hQn2 => exact fun _ _ _ h => h
          (try simp only [Act.put, List.setIfInBounds_toArray, List.set_cons_zero, List.set_cons_succ])
          refine wpAnyH_take (i := 3) (oi := ?_) (v := ?_) ?hin3 (by kernel_rfl) ?hfn3 ?hrn3 ?hQn3 ?hyn3 (by assumption) ?restn3
          case hin3 => (simp only [List.getElem?_toArray, List.getElem?_cons_zero, List.getElem?_cons_succ]; rfl)
          case hfn3 => kernel_rfl
          case hrn3 => kernel_rfl
          case hyn3 => (refine Or.inl ⟨by rfl, ?_⟩; intro wS hSw; (try dsimp only at hSw); go_simp; (try with_reducible rfl))
          case hQn3 => exact fun _ _ _ h => h
          (try simp only [Act.put, List.setIfInBounds_toArray, List.set_cons_zero, List.set_cons_succ])
          refine wpAnyH_take (i := 4) (oi := ?_) (v := ?_) ?hin4 (by kernel_rfl) ?hfn4 ?hrn4 ?hQn4 ?hyn4 (by assumption) ?restn4
          case hin4 => (simp only [List.getElem?_toArray, List.getElem?_cons_zero, List.getElem?_cons_succ]; rfl)
          case hfn4 => kernel_rfl
          case hrn4 => kernel_rfl
          case hyn4 => (refine Or.inl ⟨by rfl, ?_⟩; intro wS hSw; (try dsimp only at hSw); go_simp; (try with_reducible rfl))
          case hQn4 => exact fun _ _ _ h => h
          (try simp only [Act.put, List.setIfInBounds_toArray, List.set_cons_zero, List.set_cons_succ])
          refine wpAnyH_take (i := 5) (oi := ?_) (v := ?_) ?hin5 (by kernel_rfl) ?hfn5 ?hrn5 ?hQn5 ?hyn5 (by assumption) ?restn5
          case hin5 => (simp only [List.getElem?_toArray, List.getElem?_cons_zero, List.getElem?_cons_succ]; rfl)
          case hfn5 => kernel_rfl
          case hrn5 => kernel_rfl
          case hyn5 => (refine Or.inl ⟨by rfl, ?_⟩; intro wS hSw; (try dsimp only at hSw); go_simp; (try with_reducible rfl))
          case hQn5 => exact fun _ _ _ h => h
          (try simp only [Act.put, List.setIfInBounds_toArray, List.set_cons_zero, List.set_cons_succ])
          refine wpAnyH_take (i := 6) (oi := ?_) (v := ?_) ?hin6 (by kernel_rfl) ?hfn6 ?hrn6 ?hQn6 ?hyn6 (by assumption) ?restn6
          case hin6 => (simp only [List.getElem?_toArray, List.getElem?_cons_zero, List.getElem?_cons_succ]; rfl)
          case hfn6 => kernel_rfl
          case hrn6 => kernel_rfl
          case hyn6 => (refine Or.inl ⟨by rfl, ?_⟩; intro wS hSw; (try dsimp only at hSw); go_simp; (try with_reducible rfl))
          case hQn6 => exact fun _ _ _ h => h
          (try simp only [Act.put, List.setIfInBounds_toArray, List.set_cons_zero, List.set_cons_succ])
          refine wpAnyH_take (i := 7) (oi := ?_) (v := ?_) ?hin7 (by kernel_rfl) ?hfn7 ?hrn7 ?hQn7 ?hyn7 (by assumption) ?restn7
          case hin7 => (simp only [List.getElem?_toArray, List.getElem?_cons_zero, List.getElem?_cons_succ]; rfl)
          case hfn7 => kernel_rfl
          case hrn7 => kernel_rfl
          case hyn7 => (refine Or.inl ⟨by rfl, ?_⟩; intro wS hSw; (try dsimp only at hSw); go_simp; (try with_reducible rfl))
          case hQn7 => exact fun _ _ _ h => h
          (try simp only [Act.put, List.setIfInBounds_toArray, List.set_cons_zero, List.set_cons_succ])
          refine wpAnyH_take (i := 8) (oi := ?_) (v := ?_) ?hin8 (by kernel_rfl) ?hfn8 ?hrn8 ?hQn8 ?hyn8 (by assumption) ?restn8
          case hin8 => (simp only [List.getElem?_toArray, List.getElem?_cons_zero, List.getElem?_cons_succ]; rfl)
          case hfn8 => kernel_rfl
          case hrn8 => kernel_rfl
          case hyn8 => (refine Or.inl ⟨by rfl, ?_⟩; intro wS hSw; (try dsimp only at hSw); go_simp; (try with_reducible rfl))
          case hQn8 => exact fun _ _ _ h => h
          (try simp only [Act.put, List.setIfInBounds_toArray, List.set_cons_zero, List.set_cons_succ])
          refine wpAnyH_take (i := 9) (oi := ?_) (v := ?_) ?hin9 (by kernel_rfl) ?hfn9 ?hrn9 ?hQn9 ?hyn9 (by assumption) ?restn9
          case hin9 => (simp only [List.getElem?_toArray, List.getElem?_cons_zero, List.getElem?_cons_succ]; rfl)
          case hfn9 => kernel_rfl
          case hrn9 => kernel_rfl
          case hyn9 => (refine Or.inl ⟨by rfl, ?_⟩; intro wS hSw; (try dsimp only at hSw); go_simp; (try with_reducible rfl))
          case hQn9 => exact fun _ _ _ h => h
          (try simp only [Act.put, List.setIfInBounds_toArray, List.set_cons_zero, List.set_cons_succ])
          refine wpAnyH_take (i := 10) (oi := ?_) (v := ?_) ?hin10 (by kernel_rfl) ?hfn10 ?hrn10 ?hQn10 ?hyn10 (by assumption) ?restn10
          case hin10 => (simp only [List.getElem?_toArray, List.getElem?_cons_zero, List.getElem?_cons_succ]; rfl)
          case hfn10 => kernel_rfl
          case hrn10 => kernel_rfl
          case hyn10 => (refine Or.inl ⟨by rfl, ?_⟩; intro wS hSw; (try dsimp only at hSw); go_simp; (try with_reducible rfl))
          case hQn10 => exact fun _ _ _ h => h
          (try simp only [Act.put, List.setIfInBounds_toArray, List.set_cons_zero, List.set_cons_succ])
          refine wpAnyH_take (i := 11) (oi := ?_) (v := ?_) ?hin11 (by kernel_rfl) ?hfn11 ?hrn11 ?hQn11 ?hyn11 (by assumption) ?restn11
          case hin11 => (simp only [List.getElem?_toArray, List.getElem?_cons_zero, List.getElem?_cons_succ]; rfl)
          case hfn11 => kernel_rfl
          case hrn11 => kernel_rfl
          case hyn11 => (refine Or.inl ⟨by rfl, ?_⟩; intro wS hSw; (try dsimp only at hSw); go_simp; (try with_reducible rfl))
          case hQn11 => exact fun _ _ _ h => h
          (try simp only [Act.put, List.setIfInBounds_toArray, List.set_cons_zero, List.set_cons_succ])
          refine wpAnyH_take (i := 12) (oi := ?_) (v := ?_) ?hin12 (by kernel_rfl) ?hfn12 ?hrn12 ?hQn12 ?hyn12 (by assumption) ?restn12
          case hin12 => (simp only [List.getElem?_toArray, List.getElem?_cons_zero, List.getElem?_cons_succ]; rfl)
          case hfn12 => kernel_rfl
          case hrn12 => kernel_rfl
          case hyn12 => (refine Or.inl ⟨by rfl, ?_⟩; intro wS hSw; (try dsimp only at hSw); go_simp; (try with_reducible rfl))
          case hQn12 => exact fun _ _ _ h => h
          (try simp only [Act.put, List.setIfInBounds_toArray, List.set_cons_zero, List.set_cons_succ])
          refine wpAnyH_take (i := 13) (oi := ?_) (v := ?_) ?hin13 (by kernel_rfl) ?hfn13 ?hrn13 ?hQn13 ?hyn13 (by assumption) ?restn13
          case hin13 => (simp only [List.getElem?_toArray, List.getElem?_cons_zero, List.getElem?_cons_succ]; rfl)
          case hfn13 => kernel_rfl
          case hrn13 => kernel_rfl
          case hyn13 => (refine Or.inl ⟨by rfl, ?_⟩; intro wS hSw; (try dsimp only at hSw); go_simp; (try with_reducible rfl))
          case hQn13 => exact fun _ _ _ h => h
          (try simp only [Act.put, List.setIfInBounds_toArray, List.set_cons_zero, List.set_cons_succ])
          refine wpAnyH_take (i := 14) (oi := ?_) (v := ?_) ?hin14 (by kernel_rfl) ?hfn14 ?hrn14 ?hQn14 ?hyn14 (by assumption) ?restn14
          case hin14 => (simp only [List.getElem?_toArray, List.getElem?_cons_zero, List.getElem?_cons_succ]; rfl)
          case hfn14 => kernel_rfl
          case hrn14 => kernel_rfl
          case hyn14 => (refine Or.inl ⟨by rfl, ?_⟩; intro wS hSw; (try dsimp only at hSw); go_simp; (try with_reducible rfl))
          case hQn14 => exact fun _ _ _ h => h
          (try simp only [Act.put, List.setIfInBounds_toArray, List.set_cons_zero, List.set_cons_succ])
          refine wpAnyH_take (i := 15) (oi := ?_) (v := ?_) ?hin15 (by kernel_rfl) ?hfn15 ?hrn15 ?hQn15 ?hyn15 (by assumption) ?restn15
          case hin15 => (simp only [List.getElem?_toArray, List.getElem?_cons_zero, List.getElem?_cons_succ]; rfl)
          case hfn15 => kernel_rfl
          case hrn15 => kernel_rfl
          case hyn15 => (refine Or.inl ⟨by rfl, ?_⟩; intro wS hSw; (try dsimp only at hSw); go_simp; (try with_reducible rfl))
          case hQn15 => exact fun _ _ _ h => h
          (try simp only [Act.put, List.setIfInBounds_toArray, List.set_cons_zero, List.set_cons_succ])
          refine wpAnyH_take (i := 16) (oi := ?_) (v := ?_) ?hin16 (by kernel_rfl) ?hfn16 ?hrn16 ?hQn16 ?hyn16 (by assumption) ?restn16
          case hin16 => (simp only [List.getElem?_toArray, List.getElem?_cons_zero, List.getElem?_cons_succ]; rfl)
          case hfn16 => kernel_rfl
          case hrn16 => kernel_rfl
          case hyn16 => (refine Or.inl ⟨by rfl, ?_⟩; intro wS hSw; (try dsimp only at hSw); go_simp; (try with_reducible rfl))
          case hQn16 => exact fun _ _ _ h => h
          (try simp only [Act.put, List.setIfInBounds_toArray, List.set_cons_zero, List.set_cons_succ])
          refine wpAnyH_take (i := 17) (oi := ?_) (v := undef) ?hin17 (by kernel_rfl) ?hfn17 ?hrn17 ?hQn17 ?hyn17 (by assumption) ?restn17
          case hin17 => (simp only [List.getElem?_toArray, List.getElem?_cons_zero, List.getElem?_cons_succ]; rfl)
          case hfn17 => kernel_rfl
          case hrn17 => kernel_rfl
          case hyn17 => exact Or.inr ⟨by rfl, rfl⟩
          case hQn17 => exact fun _ _ _ h => h
          (try simp only [Act.put, List.setIfInBounds_toArray, List.set_cons_zero, List.set_cons_succ])
          refine wpAnyH_take (i := 18) (oi := ?_) (v := undef) ?hin18 (by kernel_rfl) ?hfn18 ?hrn18 ?hQn18 ?hyn18 (by assumption) ?restn18
          case hin18 => (simp only [List.getElem?_toArray, List.getElem?_cons_zero, List.getElem?_cons_succ]; rfl)
          case hfn18 => kernel_rfl
          case hrn18 => kernel_rfl
          case hyn18 => exact Or.inr ⟨by rfl, rfl⟩
          case hQn18 => exact fun _ _ _ h => h
          (try simp only [Act.put, List.setIfInBounds_toArray, List.set_cons_zero, List.set_cons_succ])
          refine wpAnyH_take (i := 19) (oi := ?_) (v := undef) ?hin19 (by kernel_rfl) ?hfn19 ?hrn19 ?hQn19 ?hyn19 (by assumption) ?restn19
          case hin19 => (simp only [List.getElem?_toArray, List.getElem?_cons_zero, List.getElem?_cons_succ]; rfl)
          case hfn19 => kernel_rfl
          case hrn19 => kernel_rfl
          case hyn19 => exact Or.inr ⟨by rfl, rfl⟩
          case hQn19 => exact fun _ _ _ h => h
          (try simp only [Act.put, List.setIfInBounds_toArray, List.set_cons_zero, List.set_cons_succ])
          refine wpAnyH_take (i := 20) (oi := ?_) (v := undef) ?hin20 (by kernel_rfl) ?hfn20 ?hrn20 ?hQn20 ?hyn20 (by assumption) ?restn20
          case hin20 => (simp only [List.getElem?_toArray, List.getElem?_cons_zero, List.getElem?_cons_succ]; rfl)
          case hfn20 => kernel_rfl
          case hrn20 => kernel_rfl
          case hyn20 => exact Or.inr ⟨by rfl, rfl⟩
          case hQn20 => exact fun _ _ _ h => h
          (try simp only [Act.put, List.setIfInBounds_toArray, List.set_cons_zero, List.set_cons_succ])
          refine wpAnyH_take (i := 21) (oi := ?_) (v := undef) ?hin21 (by kernel_rfl) ?hfn21 ?hrn21 ?hQn21 ?hyn21 (by assumption) ?restn21
          case hin21 => (simp only [List.getElem?_toArray, List.getElem?_cons_zero, List.getElem?_cons_succ]; rfl)
          case hfn21 => kernel_rfl
          case hrn21 => kernel_rfl
          case hyn21 => exact Or.inr ⟨by rfl, rfl⟩
          case hQn21 => exact fun _ _ _ h => h
          (try simp only [Act.put, List.setIfInBounds_toArray, List.set_cons_zero, List.set_cons_succ])
          refine wpAnyH_take (i := 22) (oi := ?_) (v := undef) ?hin22 (by kernel_rfl) ?hfn22 ?hrn22 ?hQn22 ?hyn22 (by assumption) ?restn22
          case hin22 => (simp only [List.getElem?_toArray, List.getElem?_cons_zero, List.getElem?_cons_succ]; rfl)
          case hfn22 => kernel_rfl
          case hrn22 => kernel_rfl
          case hyn22 => exact Or.inr ⟨by rfl, rfl⟩
          case hQn22 => exact fun _ _ _ h => h
          (try simp only [Act.put, List.setIfInBounds_toArray, List.set_cons_zero, List.set_cons_succ])
          refine wpAnyH_take (i := 23) (oi := ?_) (v := undef) ?hin23 (by kernel_rfl) ?hfn23 ?hrn23 ?hQn23 ?hyn23 (by assumption) ?restn23
          case hin23 => (simp only [List.getElem?_toArray, List.getElem?_cons_zero, List.getElem?_cons_succ]; rfl)
          case hfn23 => kernel_rfl
          case hrn23 => kernel_rfl
          case hyn23 => exact Or.inr ⟨by rfl, rfl⟩
          case hQn23 => exact fun _ _ _ h => h
          (try simp only [Act.put, List.setIfInBounds_toArray, List.set_cons_zero, List.set_cons_succ])
          refine wpAnyH_take (i := 24) (oi := ?_) (v := ?_) ?hin24 (by kernel_rfl) ?hfn24 ?hrn24 ?hQn24 ?hyn24 (by assumption) ?restn24
          case hin24 => (simp only [List.getElem?_toArray, List.getElem?_cons_zero, List.getElem?_cons_succ]; rfl)
          case hfn24 => kernel_rfl
          case hrn24 => kernel_rfl
          case hyn24 => (refine Or.inl ⟨by rfl, ?_⟩; intro wS hSw; (try dsimp only at hSw); go_simp; (try with_reducible rfl))
          case hQn24 => exact fun _ _ _ h => h
          (try simp only [Act.put, List.setIfInBounds_toArray, List.set_cons_zero, List.set_cons_succ])
          refine wpAnyH_take (i := 25) (oi := ?_) (v := ?_) ?hin25 (by kernel_rfl) ?hfn25 ?hrn25 ?hQn25 ?hyn25 (by assumption) ?restn25
          case hin25 => (simp only [List.getElem?_toArray, List.getElem?_cons_zero, List.getElem?_cons_succ]; rfl)
          case hfn25 => kernel_rfl
          case hrn25 => kernel_rfl
          case hyn25 => (refine Or.inl ⟨by rfl, ?_⟩; intro wS hSw; (try dsimp only at hSw); go_simp; (try with_reducible rfl))
          case hQn25 => exact fun _ _ _ h => h
          (try simp only [Act.put, List.setIfInBounds_toArray, List.set_cons_zero, List.set_cons_succ])
          refine wpAnyH_done (by kernel_rfl) ?_ _
          have HW9 := HD9
          have hb9 := HW9.out
          have HF9 := Lib.hid (fb_step HFC.out hb9)
          have HRT9 := Lib.hid (repS_step hb9 HRT.out)
          have HO9 := Lib.hid (oww_below HOC.out hb9)
          have HZ9 := Lib.hid (Nat.le_trans HZX.out hb9.size)
          obtain ⟨t0, t1, t2, t3, t4⟩ := cs_step HCT.out hb9
          obtain ⟨⟨s0, s1, s2, s3, s4⟩, _, sf⟩ := HF9.out
          have sl := cell_lt s0
          obtain ⟨rfl, rfl, rfl, rfl⟩ := rep_q4 (repS_rep _ _ _ HRT9.out)
          clear hb9 HW9 HD9 hHeld HFC HRT HOC HZX HCT hcv
          go_wp2
          go_roundw
          case rel => exact ⟨i + 1, [], qt, mt, dt, pw, 0, cw, by omega, by go_num, rfl, by omega, fun y hy => absurd hy List.not_mem_nil, fb_new HF9.out h1 qt mt dt, repS_set HRT9.out (fun b hb => by omega), oww_keep HO9.out (by show _ ≤ (set5 _ sb 0 _ _ _ _ _).heap.size; rw [set5_size]; exact Nat.le_refl _) (fun a ha => set5_other (g := sb) (o := 0) (by have := (oww_blk HO9.out a.block (by rw [ha]; rfl)).1; omega)), by show _ ≤ (set5 _ sb 0 _ _ _ _ _).heap.size; rw [set5_size]; exact HZ9.out⟩
          case measure => simp [intOf]; omega
        · obtain ⟨rfl, rfl, rfl, rfl, rfl⟩ := rep_leaf (repS_rep _ _ _ hrv)
          have hlw1 : 0 < lw := by have := HYL.out; rw [← this]; exact Nat.succ_pos _
          obtain ⟨g, off, rfl, hgW, hgx, hcys⟩ := oww_at how hlw1
          have hcy := hcys 0 (Nat.succ_pos _)
          simp only [Nat.add_zero, List.getElem_cons_zero] at hcy
          have hcwc := how.2.1
          have hcwm : cw ≤ 9223372036854775807 := by have := how.2.2.1; unfold maxLen at this; omega
          obtain ⟨q9, hq9⟩ : ∃ q, (if cw = 1 then some (⟨g, off, none⟩ : Addr) else some ⟨g, off + 1, none⟩) = q := ⟨_, rfl⟩
          have hl1 : (0 : Int) < (lw : Int) := by omega
          have hl2 : (1 : Int) ≤ (lw : Int) := by omega
          have hl3 : ((lw : Int) == 0) = false := by rw [beq_eq_false_iff_ne]; omega
          have HV := Lib.hid (repS_rep _ _ _ hrv)
          have HOY := Lib.hid (show okI Iv from HOK.out Iv List.mem_cons_self)
          have HRT := Lib.hid hrt
          have HFC := Lib.hid hfx
          have HOC := Lib.hid how
          have HCT := Lib.hid hct
          clear hrt hrv hfx how hct hcys
          refine wp_region_held_drew (S := (fun z => z.cell? ⟨kb, 0, none⟩ = some (.int .i64 1) ∧ z.cell? ⟨kb, 1, none⟩ = some (.int .i64 Iv) ∧ z.cell? ⟨kb, 2, none⟩ = some (.float .f64 0) ∧ z.cell? ⟨kb, 3, none⟩ = some (.string ⟨#[]⟩) ∧ z.cell? ⟨kb, 4, none⟩ = some (.slice qv 0 dv) ∧ z.cell? ⟨g, off, none⟩ = some (.int .i64 Iv))) (by kernel_rfl) ?_ (fun hHeld => ?_)
          · exact ⟨cell_keep (Below.drew (Below.refl _ _)) hcv.1, cell_keep (Below.drew (Below.refl _ _)) hcv.2.1, cell_keep (Below.drew (Below.refl _ _)) hcv.2.2.1, cell_keep (Below.drew (Below.refl _ _)) hcv.2.2.2.1, cell_keep (Below.drew (Below.refl _ _)) hcv.2.2.2.2, cell_keep (Below.drew (Below.refl _ _)) hcy⟩
          have HD9 := Lib.hid (show Below wx.heap.size wx wx.drew from Below.drew (Below.refl _ _))
          revert HD9 hHeld
          generalize wx.drew = Wd
          intro hHeld HD9
          refine wpAnyH_take (i := 0) (oi := ?_) (v := ?_) ?hiy0 (by kernel_rfl) ?hfy0 ?hry0 ?hQy0 ?hyy0 (by assumption) ?resty0
          case hiy0 => (simp only [List.getElem?_toArray, List.getElem?_cons_zero, List.getElem?_cons_succ]; rfl)
          case hfy0 => kernel_rfl
          case hry0 => kernel_rfl
          case hyy0 => (refine Or.inl ⟨by rfl, ?_⟩; intro wS hSw; (try dsimp only at hSw); go_simp; (try with_reducible rfl))
          case hQy0 => exact fun _ _ _ h => h
          (try simp only [Act.put, List.setIfInBounds_toArray, List.set_cons_zero, List.set_cons_succ])
          refine wpAnyH_take (i := 1) (oi := ?_) (v := ?_) ?hiy1 (by kernel_rfl) ?hfy1 ?hry1 ?hQy1 ?hyy1 (by assumption) ?resty1
          case hiy1 => (simp only [List.getElem?_toArray, List.getElem?_cons_zero, List.getElem?_cons_succ]; rfl)
          case hfy1 => kernel_rfl
          case hry1 => kernel_rfl
          case hyy1 => (refine Or.inl ⟨by rfl, ?_⟩; intro wS hSw; (try dsimp only at hSw); go_simp; (try with_reducible rfl))
          case hQy1 => exact fun _ _ _ h => h
          (try simp only [Act.put, List.setIfInBounds_toArray, List.set_cons_zero, List.set_cons_succ])
          refine wpAnyH_take (i := 2) (oi := ?_) (v := ?_) ?hiy2 (by kernel_rfl) ?hfy2 ?hry2 ?hQy2 ?hyy2 (by assumption) ?resty2
          case hiy2 => (simp only [List.getElem?_toArray, List.getElem?_cons_zero, List.getElem?_cons_succ]; rfl)
          case hfy2 => kernel_rfl
          case hry2 => kernel_rfl
          case hyy2 => (refine Or.inl ⟨by rfl, ?_⟩; intro wS hSw; (try dsimp only at hSw); go_simp; (try with_reducible rfl))
          case hQy2 => exact fun _ _ _ h => h
          (try simp only [Act.put, List.setIfInBounds_toArray, List.set_cons_zero, List.set_cons_succ])
          refine wpAnyH_take (i := 3) (oi := ?_) (v := ?_) ?hiy3 (by kernel_rfl) ?hfy3 ?hry3 ?hQy3 ?hyy3 (by assumption) ?resty3
          case hiy3 => (simp only [List.getElem?_toArray, List.getElem?_cons_zero, List.getElem?_cons_succ]; rfl)
          case hfy3 => kernel_rfl
          case hry3 => kernel_rfl
          case hyy3 => (refine Or.inl ⟨by rfl, ?_⟩; intro wS hSw; (try dsimp only at hSw); go_simp; (try with_reducible rfl))
          case hQy3 => exact fun _ _ _ h => h
          (try simp only [Act.put, List.setIfInBounds_toArray, List.set_cons_zero, List.set_cons_succ])
          refine wpAnyH_take (i := 4) (oi := ?_) (v := ?_) ?hiy4 (by kernel_rfl) ?hfy4 ?hry4 ?hQy4 ?hyy4 (by assumption) ?resty4
          case hiy4 => (simp only [List.getElem?_toArray, List.getElem?_cons_zero, List.getElem?_cons_succ]; rfl)
          case hfy4 => kernel_rfl
          case hry4 => kernel_rfl
          case hyy4 => (refine Or.inl ⟨by rfl, ?_⟩; intro wS hSw; (try dsimp only at hSw); go_simp; (try with_reducible rfl))
          case hQy4 => exact fun _ _ _ h => h
          (try simp only [Act.put, List.setIfInBounds_toArray, List.set_cons_zero, List.set_cons_succ])
          refine wpAnyH_take (i := 5) (oi := ?_) (v := ?_) ?hiy5 (by kernel_rfl) ?hfy5 ?hry5 ?hQy5 ?hyy5 (by assumption) ?resty5
          case hiy5 => (simp only [List.getElem?_toArray, List.getElem?_cons_zero, List.getElem?_cons_succ]; rfl)
          case hfy5 => kernel_rfl
          case hry5 => kernel_rfl
          case hyy5 => (refine Or.inl ⟨by rfl, ?_⟩; intro wS hSw; (try dsimp only at hSw); go_simp; (try with_reducible rfl))
          case hQy5 => exact fun _ _ _ h => h
          (try simp only [Act.put, List.setIfInBounds_toArray, List.set_cons_zero, List.set_cons_succ])
          refine wpAnyH_take (i := 6) (oi := ?_) (v := ?_) ?hiy6 (by kernel_rfl) ?hfy6 ?hry6 ?hQy6 ?hyy6 (by assumption) ?resty6
          case hiy6 => (simp only [List.getElem?_toArray, List.getElem?_cons_zero, List.getElem?_cons_succ]; rfl)
          case hfy6 => kernel_rfl
          case hry6 => kernel_rfl
          case hyy6 => (refine Or.inl ⟨by rfl, ?_⟩; intro wS hSw; (try dsimp only at hSw); go_simp; (try with_reducible rfl))
          case hQy6 => exact fun _ _ _ h => h
          (try simp only [Act.put, List.setIfInBounds_toArray, List.set_cons_zero, List.set_cons_succ])
          refine wpAnyH_take (i := 7) (oi := ?_) (v := undef) ?hiy7 (by kernel_rfl) ?hfy7 ?hry7 ?hQy7 ?hyy7 (by assumption) ?resty7
          case hiy7 => (simp only [List.getElem?_toArray, List.getElem?_cons_zero, List.getElem?_cons_succ]; rfl)
          case hfy7 => kernel_rfl
          case hry7 => kernel_rfl
          case hyy7 => exact Or.inr ⟨by rfl, rfl⟩
          case hQy7 => exact fun _ _ _ h => h
          (try simp only [Act.put, List.setIfInBounds_toArray, List.set_cons_zero, List.set_cons_succ])
          refine wpAnyH_take (i := 8) (oi := ?_) (v := undef) ?hiy8 (by kernel_rfl) ?hfy8 ?hry8 ?hQy8 ?hyy8 (by assumption) ?resty8
          case hiy8 => (simp only [List.getElem?_toArray, List.getElem?_cons_zero, List.getElem?_cons_succ]; rfl)
          case hfy8 => kernel_rfl
          case hry8 => kernel_rfl
          case hyy8 => exact Or.inr ⟨by rfl, rfl⟩
          case hQy8 => exact fun _ _ _ h => h
          (try simp only [Act.put, List.setIfInBounds_toArray, List.set_cons_zero, List.set_cons_succ])
          refine wpAnyH_take (i := 9) (oi := ?_) (v := undef) ?hiy9 (by kernel_rfl) ?hfy9 ?hry9 ?hQy9 ?hyy9 (by assumption) ?resty9
          case hiy9 => (simp only [List.getElem?_toArray, List.getElem?_cons_zero, List.getElem?_cons_succ]; rfl)
          case hfy9 => kernel_rfl
          case hry9 => kernel_rfl
          case hyy9 => exact Or.inr ⟨by rfl, rfl⟩
          case hQy9 => exact fun _ _ _ h => h
          (try simp only [Act.put, List.setIfInBounds_toArray, List.set_cons_zero, List.set_cons_succ])
          refine wpAnyH_take (i := 10) (oi := ?_) (v := ?_) ?hiy10 (by kernel_rfl) ?hfy10 ?hry10 ?hQy10 ?hyy10 (by assumption) ?resty10
          case hiy10 => (simp only [List.getElem?_toArray, List.getElem?_cons_zero, List.getElem?_cons_succ]; rfl)
          case hfy10 => kernel_rfl
          case hry10 => kernel_rfl
          case hyy10 => (refine Or.inl ⟨by rfl, ?_⟩; intro wS hSw; (try dsimp only at hSw); go_simp; (try with_reducible rfl))
          case hQy10 => exact fun _ _ _ h => h
          (try simp only [Act.put, List.setIfInBounds_toArray, List.set_cons_zero, List.set_cons_succ])
          refine wpAnyH_take (i := 11) (oi := ?_) (v := ?_) ?hiy11 (by kernel_rfl) ?hfy11 ?hry11 ?hQy11 ?hyy11 (by assumption) ?resty11
          case hiy11 => (simp only [List.getElem?_toArray, List.getElem?_cons_zero, List.getElem?_cons_succ]; rfl)
          case hfy11 => kernel_rfl
          case hry11 => kernel_rfl
          case hyy11 => (refine Or.inl ⟨by rfl, ?_⟩; intro wS hSw; (try dsimp only at hSw); go_simp; (try with_reducible rfl))
          case hQy11 => exact fun _ _ _ h => h
          (try simp only [Act.put, List.setIfInBounds_toArray, List.set_cons_zero, List.set_cons_succ])
          refine wpAnyH_take (i := 12) (oi := ?_) (v := ?_) ?hiy12 (by kernel_rfl) ?hfy12 ?hry12 ?hQy12 ?hyy12 (by assumption) ?resty12
          case hiy12 => (simp only [List.getElem?_toArray, List.getElem?_cons_zero, List.getElem?_cons_succ]; rfl)
          case hfy12 => kernel_rfl
          case hry12 => kernel_rfl
          case hyy12 => (refine Or.inl ⟨by rfl, ?_⟩; intro wS hSw; (try dsimp only at hSw); go_simp; (try with_reducible rfl))
          case hQy12 => exact fun _ _ _ h => h
          (try simp only [Act.put, List.setIfInBounds_toArray, List.set_cons_zero, List.set_cons_succ])
          refine wpAnyH_take (i := 13) (oi := ?_) (v := ?_) ?hiy13 (by kernel_rfl) ?hfy13 ?hry13 ?hQy13 ?hyy13 (by assumption) ?resty13
          case hiy13 => (simp only [List.getElem?_toArray, List.getElem?_cons_zero, List.getElem?_cons_succ]; rfl)
          case hfy13 => kernel_rfl
          case hry13 => kernel_rfl
          case hyy13 => (refine Or.inl ⟨by rfl, ?_⟩; intro wS hSw; (try dsimp only at hSw); go_simp; (try with_reducible rfl))
          case hQy13 => exact fun _ _ _ h => h
          (try simp only [Act.put, List.setIfInBounds_toArray, List.set_cons_zero, List.set_cons_succ])
          refine wpAnyH_take (i := 14) (oi := ?_) (v := ?_) ?hiy14 (by kernel_rfl) ?hfy14 ?hry14 ?hQy14 ?hyy14 (by assumption) ?resty14
          case hiy14 => (simp only [List.getElem?_toArray, List.getElem?_cons_zero, List.getElem?_cons_succ]; rfl)
          case hfy14 => kernel_rfl
          case hry14 => kernel_rfl
          case hyy14 => (refine Or.inl ⟨by rfl, ?_⟩; intro wS hSw; (try dsimp only at hSw); go_simp; (try with_reducible rfl))
          case hQy14 => exact fun _ _ _ h => h
          (try simp only [Act.put, List.setIfInBounds_toArray, List.set_cons_zero, List.set_cons_succ])
          refine wpAnyH_take (i := 15) (oi := ?_) (v := ?_) ?hiy15 (by kernel_rfl) ?hfy15 ?hry15 ?hQy15 ?hyy15 (by assumption) ?resty15
          case hiy15 => (simp only [List.getElem?_toArray, List.getElem?_cons_zero, List.getElem?_cons_succ]; rfl)
          case hfy15 => kernel_rfl
          case hry15 => kernel_rfl
          case hyy15 => (refine Or.inl ⟨by rfl, ?_⟩; intro wS hSw; (try dsimp only at hSw); go_simp; (try with_reducible rfl))
          case hQy15 => exact fun _ _ _ h => h
          (try simp only [Act.put, List.setIfInBounds_toArray, List.set_cons_zero, List.set_cons_succ])
          refine wpAnyH_take (i := 16) (oi := ?_) (v := ?_) ?hiy16 (by kernel_rfl) ?hfy16 ?hry16 ?hQy16 ?hyy16 (by assumption) ?resty16
          case hiy16 => (simp only [List.getElem?_toArray, List.getElem?_cons_zero, List.getElem?_cons_succ]; rfl)
          case hfy16 => kernel_rfl
          case hry16 => kernel_rfl
          case hyy16 => (refine Or.inl ⟨by rfl, ?_⟩; intro wS hSw; (try dsimp only at hSw); go_simp; (try with_reducible rfl))
          case hQy16 => exact fun _ _ _ h => h
          (try simp only [Act.put, List.setIfInBounds_toArray, List.set_cons_zero, List.set_cons_succ])
          refine wpAnyH_take (i := 17) (oi := ?_) (v := ?_) ?hiy17 (by kernel_rfl) ?hfy17 ?hry17 ?hQy17 ?hyy17 (by assumption) ?resty17
          case hiy17 => (simp only [List.getElem?_toArray, List.getElem?_cons_zero, List.getElem?_cons_succ]; rfl)
          case hfy17 => kernel_rfl
          case hry17 => kernel_rfl
          case hyy17 => (refine Or.inl ⟨by rfl, ?_⟩; intro wS hSw; (try dsimp only at hSw); go_simp; (try with_reducible rfl))
          case hQy17 => exact fun _ _ _ h => h
          (try simp only [Act.put, List.setIfInBounds_toArray, List.set_cons_zero, List.set_cons_succ])
          refine wpAnyH_take (i := 18) (oi := ?_) (v := ?_) ?hiy18 (by kernel_rfl) ?hfy18 ?hry18 ?hQy18 ?hyy18 (by assumption) ?resty18
          case hiy18 => (simp only [List.getElem?_toArray, List.getElem?_cons_zero, List.getElem?_cons_succ]; rfl)
          case hfy18 => kernel_rfl
          case hry18 => kernel_rfl
          case hyy18 => (refine Or.inl ⟨by rfl, ?_⟩; intro wS hSw; (try dsimp only at hSw); go_simp; (try with_reducible rfl))
          case hQy18 => exact fun _ _ _ h => h
          (try simp only [Act.put, List.setIfInBounds_toArray, List.set_cons_zero, List.set_cons_succ])
          refine wpAnyH_take (i := 19) (oi := ?_) (v := ?_) ?hiy19 (by kernel_rfl) ?hfy19 ?hry19 ?hQy19 ?hyy19 (by assumption) ?resty19
          case hiy19 => (simp only [List.getElem?_toArray, List.getElem?_cons_zero, List.getElem?_cons_succ]; rfl)
          case hfy19 => kernel_rfl
          case hry19 => kernel_rfl
          case hyy19 => (refine Or.inl ⟨by rfl, ?_⟩; intro wS hSw; (try dsimp only at hSw); go_simp; (try with_reducible rfl))
          case hQy19 => exact fun _ _ _ h => h
          (try simp only [Act.put, List.setIfInBounds_toArray, List.set_cons_zero, List.set_cons_succ])
          refine wpAnyH_take (i := 20) (oi := ?_) (v := ?_) ?hiy20 (by kernel_rfl) ?hfy20 ?hry20 ?hQy20 ?hyy20 (by assumption) ?resty20
          case hiy20 => (simp only [List.getElem?_toArray, List.getElem?_cons_zero, List.getElem?_cons_succ]; rfl)
          case hfy20 => kernel_rfl
          case hry20 => kernel_rfl
          case hyy20 => (refine Or.inl ⟨by rfl, ?_⟩; intro wS hSw; (try dsimp only at hSw); go_simp; (try with_reducible rfl))
          case hQy20 => exact fun _ _ _ h => h
          (try simp only [Act.put, List.setIfInBounds_toArray, List.set_cons_zero, List.set_cons_succ])
          refine wpAnyH_ready (rs := [21]) (by kernel_rfl) (by simp) ?_
          refine AllReadyH.cons (o := ?_) ?hoy21 ?hsty21 AllReadyH.nil
          case hoy21 => (simp only [List.getElem?_toArray, List.getElem?_cons_zero, List.getElem?_cons_succ]; rfl)
          intro K hK
          go_simp
          go_at_call 18; refine (int_ref_any _ _).mono ?_; rintro e w10 ⟨rfl, hb10⟩; have HW10 := Lib.hid (bel_step HD9.out hb10); clear hb10
          go_wp2_with fail
          refine hK.out _ _ ?hsy21 (fun hHeld => ?_)
          case hsy21 => exact ⟨cell_keep HW10.out hcv.1, cell_keep HW10.out hcv.2.1, cell_keep HW10.out hcv.2.2.1, cell_keep HW10.out hcv.2.2.2.1, cell_keep HW10.out hcv.2.2.2.2, cell_keep HW10.out hcy⟩
          clear hK K
          (try simp only [Act.put, List.setIfInBounds_toArray, List.set_cons_zero, List.set_cons_succ])
          refine wpAnyH_ready (rs := [22]) (by kernel_rfl) (by simp) ?_
          refine AllReadyH.cons (o := ?_) ?hoy22 ?hsty22 AllReadyH.nil
          case hoy22 => (simp only [List.getElem?_toArray, List.getElem?_cons_zero, List.getElem?_cons_succ]; rfl)
          intro K hK
          go_simp
          go_at_call 13; refine (same_any 1 _ _ (numT 0 Iv) _ (rep_keep HW10.out _ _ _ HV.out) (num_any 0 _ Iv HOY.out)).mono ?_; rintro e w11 ⟨rfl, hb11⟩; have HW9 := Lib.hid (bel_step HW10.out hb11); clear hb11
          go_wp2_with fail
          refine hK.out _ _ ?hsy22 (fun hHeld => ?_)
          case hsy22 => exact ⟨cell_keep HW9.out hcv.1, cell_keep HW9.out hcv.2.1, cell_keep HW9.out hcv.2.2.1, cell_keep HW9.out hcv.2.2.2.1, cell_keep HW9.out hcv.2.2.2.2, cell_keep HW9.out hcy⟩
          clear hK K
          (try simp only [Act.put, List.setIfInBounds_toArray, List.set_cons_zero, List.set_cons_succ])
          refine wpAnyH_take (i := 23) (oi := ?_) (v := ?_) ?hiy23 (by kernel_rfl) ?hfy23 ?hry23 ?hQy23 ?hyy23 (by assumption) ?resty23
          case hiy23 => (simp only [List.getElem?_toArray, List.getElem?_cons_zero, List.getElem?_cons_succ]; rfl)
          case hfy23 => kernel_rfl
          case hry23 => kernel_rfl
          case hyy23 => (refine Or.inl ⟨by rfl, ?_⟩; intro wS hSw; (try dsimp only at hSw); go_simp; (try with_reducible rfl))
          case hQy23 => exact fun _ _ _ h => h
          (try simp only [Act.put, List.setIfInBounds_toArray, List.set_cons_zero, List.set_cons_succ])
          refine wpAnyH_take (i := 24) (oi := ?_) (v := ?_) ?hiy24 (by kernel_rfl) ?hfy24 ?hry24 ?hQy24 ?hyy24 (by assumption) ?resty24
          case hiy24 => (simp only [List.getElem?_toArray, List.getElem?_cons_zero, List.getElem?_cons_succ]; rfl)
          case hfy24 => kernel_rfl
          case hry24 => kernel_rfl
          case hyy24 => (refine Or.inl ⟨by rfl, ?_⟩; intro wS hSw; (try dsimp only at hSw); go_simp; (try with_reducible rfl))
          case hQy24 => exact fun _ _ _ h => h
          (try simp only [Act.put, List.setIfInBounds_toArray, List.set_cons_zero, List.set_cons_succ])
          refine wpAnyH_take (i := 25) (oi := ?_) (v := ?_) ?hiy25 (by kernel_rfl) ?hfy25 ?hry25 ?hQy25 ?hyy25 (by assumption) ?resty25
          case hiy25 => (simp only [List.getElem?_toArray, List.getElem?_cons_zero, List.getElem?_cons_succ]; rfl)
          case hfy25 => kernel_rfl
          case hry25 => kernel_rfl
          case hyy25 => (refine Or.inl ⟨by rfl, ?_⟩; intro wS hSw; (try dsimp only at hSw); go_simp; (try with_reducible rfl))
          case hQy25 => exact fun _ _ _ h => h
          (try simp only [Act.put, List.setIfInBounds_toArray, List.set_cons_zero, List.set_cons_succ])
          refine wpAnyH_done (by kernel_rfl) ?_ _
          have hb9 := HW9.out
          have HF9 := Lib.hid (fb_step HFC.out hb9)
          have HRT9 := Lib.hid (repS_step hb9 HRT.out)
          have ho9 := oww_tail (oww_below HOC.out hb9) hlw1
          rw [hq9] at ho9
          have HO9 := Lib.hid ho9
          have HZ9 := Lib.hid (Nat.le_trans HZX.out hb9.size)
          obtain ⟨t0, t1, t2, t3, t4⟩ := cs_step HCT.out hb9
          obtain ⟨⟨s0, s1, s2, s3, s4⟩, _, sf⟩ := HF9.out
          have sl := cell_lt s0
          obtain ⟨rfl, rfl, rfl, rfl⟩ := rep_q4 (repS_rep _ _ _ HRT9.out)
          clear hb9 HW9 HD9 hHeld HFC HRT HOC HZX HCT hcv hcy ho9 HV HW10
          go_wp2
          go_roundw
          case rel => exact ⟨i + 1, Yr, qt, mt, dt, q9, lw - 1, cw - 1, by omega, by go_num, rfl, by omega, fun z hz => HOK.out z (List.mem_cons_of_mem _ hz), fb_new HF9.out h1 qt mt dt, repS_set HRT9.out (fun b hb => by omega), oww_keep HO9.out (by show _ ≤ (set5 _ sb 0 _ _ _ _ _).heap.size; rw [set5_size]; exact Nat.le_refl _) (fun a ha => set5_other (g := sb) (o := 0) (by have := (oww_blk HO9.out a.block (by rw [ha]; rfl)).1; omega)), by show _ ≤ (set5 _ sb 0 _ _ _ _ _).heap.size; rw [set5_size]; exact HZ9.out⟩
          case measure => simp [intOf]; omega
    · have hilt : ¬ (i : Int) < (l : Int) := by omega
      clear hlt hil
      have HEX := Lib.hid HX.out.1
      revert HFB HSR HOW HWW
      generalize wr = wq
      intro HFB HSR HOW HWW
      go_wp2_with fail
      go_loopw [12] (fun jv wr => ∃ jj : Nat, jj ≤ lw ∧ jv = .int .i64 jj ∧ FB w sb qs ms ds wr ∧ RepS (fun b => sb < b) wr 2 (.agg #[.int .i64 4, .int .i64 0, .float .f64 0, .string ⟨#[]⟩, .slice qs ms ds]) (intsQ Y) ∧ OwW W wr pw lw cw Y) (fun jv _ => lw - (intOf jv).toNat)
      case atStart => exact ⟨0, by omega, rfl, HFB.out, HSR.out, HOW.out⟩
      case round =>
        clear HFB HSR HOW HWW
        obtain ⟨jj, hjl, rfl, hfb, hst, how⟩ := hrel
        have HFB := Lib.hid hfb
        have HSR := Lib.hid hst
        have HSTr := Lib.hid (repS_rep _ _ _ hst)
        have HOW := Lib.hid how
        clear hfb hst how
        by_cases hjt : jj < lw
        · have hj0 : (0 : Int) ≤ (jj : Int) := by omega
          have hjl2 : (jj : Int) < (lw : Int) := by omega
          have HOX := Lib.hid (show okI (jj : Int) by unfold okI; omega)
          have hjY : jj < Y.length := by have := HYL.out; omega
          obtain ⟨z, TT, UU, hz, HDO⟩ : ∃ (z : Int) (TT : VT 2) (UU : VT 1), (z = 0 ∧ UU = numT 0 Y[jj]) ∧ Hid (∀ (W : World) (g : Nat), Rep W 2 (.agg #[.int .i64 4, .int .i64 0, .float .f64 0, .string ⟨#[]⟩, .slice qs ms ds]) (intsQ Y) → L1 g (jj : Nat) W → Calls Try.prog 11 #[.agg #[.int .i64 4, .int .i64 0, .float .f64 0, .string ⟨#[]⟩, .slice qs ms ds], .string { data := #[110, 116, 104] }, .slice (some ⟨g, 0, none⟩) 1 1] W fun e w' => DoQ W 2 1 TT UU z e w') := ⟨0, _, _, ⟨rfl, rfl⟩, Lib.hid (fun W g hs hr => nth_I (by have := HYL.out; omega) hjY hs hr)⟩
          have HZ := Lib.hid hz
          clear hz
          go_upto_region 28 with fail
          have hsbr : sb < wr.heap.size := cs_lt HFB.out.1
          have hwr0 : w.heap.size ≤ wr.heap.size := HFB.out.2.1.size
          refine reg28_any w wr sb qs ms ds Y TT UU z jj _ _ _ _ _ _ _ _ _ _ _ _ _ _ _ _ _ _ _ _ _ _ _ _ _ _ _ _ _ _ _ _ _ _ _ _ _ _ _ _ _ _ _ _ _ _ _ _ _ _ _ _ _ _ _ _ _ _ _ _ _ _ _ _ _ _ _ _ _ _ _ _ _ _ _ _ _ _ _ _ _ _ _ _ _ _ _ _ _ _ _ _ _ _ _ _ _ _ _ _ _ _ _ _ _ _ _ _ _ _ _ _ _ _ _ _ _ _ _ _ _ _ _ _ _ _ _ _ _ _ _ _ _ _ _ _ _ _ _ _ _ _ _ _ _ _ _ _ _ _ _ _ _ _ _ _ _ _ _ _ _ _ (fun _ _ d _ _ h => by cases d <;> exact h) HOX HFB HDO hsbr hwr0 HSTr ?_
          intro gA gB gE Kt It Ft Zt qt mt dt Kv Iv Fv Zv qv mv dv wc hcut
          obtain ⟨hca, hcb, hfx, hbel, hrt, hrv⟩ := hcut
          clear hsbr hwr0
          obtain ⟨rfl, rfl⟩ := HZ.out
          have hlf := rep_leaf (repS_rep _ _ _ hrv)
          have hlv : Iv = Y[jj] := hlf.2.1
          have how := oww_below HOW.out hbel
          obtain ⟨g, off, rfl, hgW, hgx, hcys⟩ := oww_at how (by omega)
          have hcy := hcys jj hjY
          rw [← hlv] at hcy
          clear hlf hlv
          have hcwc := how.2.1
          have HFC := Lib.hid hfx
          have HSC := Lib.hid (repS_step hbel HSR.out)
          have HOC := Lib.hid how
          clear hrt hrv hfx how hca hbel HDO HZ HFB HSR HSTr HOW hcys hjY
          go_upto_region 29 with fail
          refine wp_region_held_drew (S := (fun z => z.cell? ⟨gB, 1, none⟩ = some (.int .i64 Iv) ∧ z.cell? ⟨g, off + jj, none⟩ = some (.int .i64 Iv))) (by kernel_rfl) ?_ (fun hHeld => ?_)
          · exact ⟨cell_keep (Below.drew (Below.refl _ _)) hcb.2.1, cell_keep (Below.drew (Below.refl _ _)) hcy⟩
          have HD9 := Lib.hid (show Below wc.heap.size wc wc.drew from Below.drew (Below.refl _ _))
          revert HD9 hHeld
          generalize wc.drew = Wd
          intro hHeld HD9
          refine wpAnyH_take (i := 0) (oi := ?_) (v := ?_) ?hip0 (by kernel_rfl) ?hfp0 ?hrp0 ?hQp0 ?hyp0 (by assumption) ?restp0
          case hip0 => (simp only [List.getElem?_toArray, List.getElem?_cons_zero, List.getElem?_cons_succ]; rfl)
          case hfp0 => kernel_rfl
          case hrp0 => kernel_rfl
          case hyp0 => (refine Or.inl ⟨by rfl, ?_⟩; intro wS hSw; (try dsimp only at hSw); go_simp; (try with_reducible rfl))
          case hQp0 => exact fun _ _ _ h => h
          (try simp only [Act.put, List.setIfInBounds_toArray, List.set_cons_zero, List.set_cons_succ])
          refine wpAnyH_take (i := 1) (oi := ?_) (v := ?_) ?hip1 (by kernel_rfl) ?hfp1 ?hrp1 ?hQp1 ?hyp1 (by assumption) ?restp1
          case hip1 => (simp only [List.getElem?_toArray, List.getElem?_cons_zero, List.getElem?_cons_succ]; rfl)
          case hfp1 => kernel_rfl
          case hrp1 => kernel_rfl
          case hyp1 => (refine Or.inl ⟨by rfl, ?_⟩; intro wS hSw; (try dsimp only at hSw); go_simp; (try with_reducible rfl))
          case hQp1 => exact fun _ _ _ h => h
          (try simp only [Act.put, List.setIfInBounds_toArray, List.set_cons_zero, List.set_cons_succ])
          refine wpAnyH_take (i := 2) (oi := ?_) (v := ?_) ?hip2 (by kernel_rfl) ?hfp2 ?hrp2 ?hQp2 ?hyp2 (by assumption) ?restp2
          case hip2 => (simp only [List.getElem?_toArray, List.getElem?_cons_zero, List.getElem?_cons_succ]; rfl)
          case hfp2 => kernel_rfl
          case hrp2 => kernel_rfl
          case hyp2 => (refine Or.inl ⟨by rfl, ?_⟩; intro wS hSw; (try dsimp only at hSw); go_simp; (try with_reducible rfl))
          case hQp2 => exact fun _ _ _ h => h
          (try simp only [Act.put, List.setIfInBounds_toArray, List.set_cons_zero, List.set_cons_succ])
          refine wpAnyH_take (i := 3) (oi := ?_) (v := ?_) ?hip3 (by kernel_rfl) ?hfp3 ?hrp3 ?hQp3 ?hyp3 (by assumption) ?restp3
          case hip3 => (simp only [List.getElem?_toArray, List.getElem?_cons_zero, List.getElem?_cons_succ]; rfl)
          case hfp3 => kernel_rfl
          case hrp3 => kernel_rfl
          case hyp3 => (refine Or.inl ⟨by rfl, ?_⟩; intro wS hSw; (try dsimp only at hSw); go_simp; (try with_reducible rfl))
          case hQp3 => exact fun _ _ _ h => h
          (try simp only [Act.put, List.setIfInBounds_toArray, List.set_cons_zero, List.set_cons_succ])
          refine wpAnyH_take (i := 4) (oi := ?_) (v := ?_) ?hip4 (by kernel_rfl) ?hfp4 ?hrp4 ?hQp4 ?hyp4 (by assumption) ?restp4
          case hip4 => (simp only [List.getElem?_toArray, List.getElem?_cons_zero, List.getElem?_cons_succ]; rfl)
          case hfp4 => kernel_rfl
          case hrp4 => kernel_rfl
          case hyp4 => (refine Or.inl ⟨by rfl, ?_⟩; intro wS hSw; (try dsimp only at hSw); go_simp; (try with_reducible rfl))
          case hQp4 => exact fun _ _ _ h => h
          (try simp only [Act.put, List.setIfInBounds_toArray, List.set_cons_zero, List.set_cons_succ])
          refine wpAnyH_take (i := 5) (oi := ?_) (v := ?_) ?hip5 (by kernel_rfl) ?hfp5 ?hrp5 ?hQp5 ?hyp5 (by assumption) ?restp5
          case hip5 => (simp only [List.getElem?_toArray, List.getElem?_cons_zero, List.getElem?_cons_succ]; rfl)
          case hfp5 => kernel_rfl
          case hrp5 => kernel_rfl
          case hyp5 => (refine Or.inl ⟨by rfl, ?_⟩; intro wS hSw; (try dsimp only at hSw); go_simp; (try with_reducible rfl))
          case hQp5 => exact fun _ _ _ h => h
          (try simp only [Act.put, List.setIfInBounds_toArray, List.set_cons_zero, List.set_cons_succ])
          refine wpAnyH_take (i := 6) (oi := ?_) (v := ?_) ?hip6 (by kernel_rfl) ?hfp6 ?hrp6 ?hQp6 ?hyp6 (by assumption) ?restp6
          case hip6 => (simp only [List.getElem?_toArray, List.getElem?_cons_zero, List.getElem?_cons_succ]; rfl)
          case hfp6 => kernel_rfl
          case hrp6 => kernel_rfl
          case hyp6 => (refine Or.inl ⟨by rfl, ?_⟩; intro wS hSw; (try dsimp only at hSw); go_simp; (try with_reducible rfl))
          case hQp6 => exact fun _ _ _ h => h
          (try simp only [Act.put, List.setIfInBounds_toArray, List.set_cons_zero, List.set_cons_succ])
          refine wpAnyH_take (i := 7) (oi := ?_) (v := ?_) ?hip7 (by kernel_rfl) ?hfp7 ?hrp7 ?hQp7 ?hyp7 (by assumption) ?restp7
          case hip7 => (simp only [List.getElem?_toArray, List.getElem?_cons_zero, List.getElem?_cons_succ]; rfl)
          case hfp7 => kernel_rfl
          case hrp7 => kernel_rfl
          case hyp7 => (refine Or.inl ⟨by rfl, ?_⟩; intro wS hSw; (try dsimp only at hSw); go_simp; (try with_reducible rfl))
          case hQp7 => exact fun _ _ _ h => h
          (try simp only [Act.put, List.setIfInBounds_toArray, List.set_cons_zero, List.set_cons_succ])
          refine wpAnyH_take (i := 8) (oi := ?_) (v := ?_) ?hip8 (by kernel_rfl) ?hfp8 ?hrp8 ?hQp8 ?hyp8 (by assumption) ?restp8
          case hip8 => (simp only [List.getElem?_toArray, List.getElem?_cons_zero, List.getElem?_cons_succ]; rfl)
          case hfp8 => kernel_rfl
          case hrp8 => kernel_rfl
          case hyp8 => (refine Or.inl ⟨by rfl, ?_⟩; intro wS hSw; (try dsimp only at hSw); go_simp; (try with_reducible rfl))
          case hQp8 => exact fun _ _ _ h => h
          (try simp only [Act.put, List.setIfInBounds_toArray, List.set_cons_zero, List.set_cons_succ])
          refine wpAnyH_take (i := 9) (oi := ?_) (v := ?_) ?hip9 (by kernel_rfl) ?hfp9 ?hrp9 ?hQp9 ?hyp9 (by assumption) ?restp9
          case hip9 => (simp only [List.getElem?_toArray, List.getElem?_cons_zero, List.getElem?_cons_succ]; rfl)
          case hfp9 => kernel_rfl
          case hrp9 => kernel_rfl
          case hyp9 => (refine Or.inl ⟨by rfl, ?_⟩; intro wS hSw; (try dsimp only at hSw); go_simp; (try with_reducible rfl))
          case hQp9 => exact fun _ _ _ h => h
          (try simp only [Act.put, List.setIfInBounds_toArray, List.set_cons_zero, List.set_cons_succ])
          refine wpAnyH_take (i := 10) (oi := ?_) (v := ?_) ?hip10 (by kernel_rfl) ?hfp10 ?hrp10 ?hQp10 ?hyp10 (by assumption) ?restp10
          case hip10 => (simp only [List.getElem?_toArray, List.getElem?_cons_zero, List.getElem?_cons_succ]; rfl)
          case hfp10 => kernel_rfl
          case hrp10 => kernel_rfl
          case hyp10 => (refine Or.inl ⟨by rfl, ?_⟩; intro wS hSw; (try dsimp only at hSw); go_simp; (try with_reducible rfl))
          case hQp10 => exact fun _ _ _ h => h
          (try simp only [Act.put, List.setIfInBounds_toArray, List.set_cons_zero, List.set_cons_succ])
          refine wpAnyH_done (by kernel_rfl) ?_ _
          have HF9 := Lib.hid (fb_step HFC.out HD9.out)
          have HS9 := Lib.hid (repS_step HD9.out HSC.out)
          have HO9 := Lib.hid (oww_below HOC.out HD9.out)
          clear hHeld HD9 HFC HSC HOC hcb hcy
          go_wp2
          go_roundw
          case rel => exact ⟨jj + 1, by omega, by go_num, HF9.out, HS9.out, HO9.out⟩
          case measure => simp [intOf]; omega
        · have hjlt : ¬ (jj : Int) < (lw : Int) := by omega
          have HOL := Lib.hid (show okI (lw : Int) by unfold okI; omega)
          have HN1 := Lib.hid (fun (W : World) (g : Nat) (hs : Rep W 2 (.agg #[.int .i64 4, .int .i64 0, .float .f64 0, .string ⟨#[]⟩, .slice qs ms ds]) (intsQ Y)) (hr : L1 g (lw : Nat) W) => none_I (by have := HYL.out; omega) (Or.inr (by have := HYL.out; omega)) hs hr)
          have HN2 := Lib.hid (fun (W : World) (g : Nat) (hs : Rep W 2 (.agg #[.int .i64 4, .int .i64 0, .float .f64 0, .string ⟨#[]⟩, .slice qs ms ds]) (intsQ Y)) (hr : L1 g (-1) W) => none_I (by have := HYL.out; omega) (Or.inl (by omega)) hs hr)
          clear hjt hjl HOW
          obtain ⟨z, TT, UU, hz, HDO⟩ : ∃ (z : Int) (TT : VT 2) (UU : VT 1), z = 34 ∧ Hid (∀ (W : World) (g : Nat), Rep W 2 (.agg #[.int .i64 4, .int .i64 0, .float .f64 0, .string ⟨#[]⟩, .slice qs ms ds]) (intsQ Y) → L1 g (lw : Nat) W → Calls Try.prog 11 #[.agg #[.int .i64 4, .int .i64 0, .float .f64 0, .string ⟨#[]⟩, .slice qs ms ds], .string { data := #[110, 116, 104] }, .slice (some ⟨g, 0, none⟩) 1 1] W fun e w' => DoQ W 2 1 TT UU z e w') := ⟨34, _, _, rfl, HN1⟩
          have HZ := Lib.hid hz
          clear hz
          go_upto_region 31 with fail
          have hsbr : sb < wr.heap.size := cs_lt HFB.out.1
          have hwr0 : w.heap.size ≤ wr.heap.size := HFB.out.2.1.size
          refine reg31_any w wr sb qs ms ds Y TT UU z pw lw cw _ _ _ _ _ _ _ _ _ _ _ _ _ _ _ _ _ _ _ _ _ _ _ _ _ _ _ _ _ _ _ _ _ _ _ _ _ _ _ _ _ _ _ _ _ _ _ _ _ _ _ _ _ _ _ _ _ _ _ _ _ _ _ _ _ _ _ _ _ _ _ _ _ _ _ _ _ _ _ _ _ _ _ _ _ _ _ _ _ _ _ _ _ _ _ _ _ _ _ _ _ _ _ _ _ _ _ _ _ _ _ _ _ _ _ _ _ _ _ _ _ _ _ _ _ _ _ _ _ _ _ _ _ _ _ _ _ _ _ _ _ _ _ _ _ _ _ _ _ _ _ _ _ _ _ _ _ _ _ _ _ _ (fun _ _ d _ _ h => by cases d <;> exact h) HOL HFB HDO hsbr hwr0 HSTr ?_
          intro gA gB gE Kt It Ft Zt qt mt dt Kv Iv Fv Zv qv mv dv wc hcut
          obtain ⟨hca, hcb, hfx, hbel, hrt, hrv⟩ := hcut
          clear hsbr hwr0
          obtain rfl := HZ.out
          have HFC := Lib.hid hfx
          have HSC := Lib.hid (rep_keep hbel _ _ _ HSTr.out)
          clear hrt hrv hfx hca hcb hbel HDO HZ HFB HSR HSTr HN1
          revert HFC HSC
          generalize wc = wr
          intro HFB HSTr
          obtain ⟨z, TT, UU, hz, HDO⟩ : ∃ (z : Int) (TT : VT 2) (UU : VT 1), z = 34 ∧ Hid (∀ (W : World) (g : Nat), Rep W 2 (.agg #[.int .i64 4, .int .i64 0, .float .f64 0, .string ⟨#[]⟩, .slice qs ms ds]) (intsQ Y) → L1 g (-1) W → Calls Try.prog 11 #[.agg #[.int .i64 4, .int .i64 0, .float .f64 0, .string ⟨#[]⟩, .slice qs ms ds], .string { data := #[110, 116, 104] }, .slice (some ⟨g, 0, none⟩) 1 1] W fun e w' => DoQ W 2 1 TT UU z e w') := ⟨34, _, _, rfl, HN2⟩
          have HZ := Lib.hid hz
          clear hz HN2
          go_upto_region 32 with fail
          have hsbr : sb < wr.heap.size := cs_lt HFB.out.1
          have hwr0 : w.heap.size ≤ wr.heap.size := HFB.out.2.1.size
          refine reg32_any w wr sb qs ms ds Y TT UU z _ _ _ _ _ _ _ _ _ _ _ _ _ _ _ _ _ _ _ _ _ _ _ _ _ _ _ _ _ _ _ _ _ _ _ _ _ _ _ _ _ _ _ _ _ _ _ _ _ _ _ _ _ _ _ _ _ _ _ _ _ _ _ _ _ _ _ _ _ _ _ _ _ _ _ _ _ _ _ _ _ _ _ _ _ _ _ _ _ _ _ _ _ _ _ _ _ _ _ _ _ _ _ _ _ _ _ _ _ _ _ _ _ _ _ _ _ _ _ _ _ _ _ _ _ _ _ _ _ _ _ _ _ _ _ _ _ _ _ _ _ _ _ _ _ _ _ _ _ _ _ _ _ _ _ _ _ _ _ _ _ _ _ (fun _ _ d _ _ h => by cases d <;> exact h) HFB HDO hsbr hwr0 HSTr ?_
          intro gA gB gE Kt It Ft Zt qt mt dt Kv Iv Fv Zv qv mv dv wc hcut
          obtain ⟨hca, hcb, hfx, hbel, hrt, hrv⟩ := hcut
          clear hsbr hwr0
          obtain rfl := HZ.out
          have HE := Lib.hid hfx.2.1
          clear hrt hrv hfx hca hcb hbel HDO HZ HFB HSTr
          go_wp2
          go_ret
          exact ⟨rfl, HE.out⟩
end Num
end Go.Proofs.Ytodjnhhnjncgdaa
