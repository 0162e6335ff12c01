/-
  QueueGreat: what the law does.
-/
import Derived.Test.YtodjnhhnjncgdaaEK
import Derived.Test.YtodjnhhnjncgdaaEJ
import Derived.Test.YtodjnhhnjncgdaaMJ
import Derived.Deep.RegionHeld3
import Derived.RegionTactic
import Derived.Deep.DeepCutAuto
namespace Go.Proofs.Ytodjnhhnjncgdaa
open Go.RowKit
namespace Num
open Ints
set_option linter.unusedSimpArgs false
set_option linter.unusedVariables false
/-- What QueueGreat goes on with: the text's box, the queue's box. -/
def GB (w : World) (vb sb : Nat) (sz : Nat) (qs : Option Addr) (ms ds : Nat) (z : World) : Prop := FB w sb qs ms ds z ∧ CS z vb (.int .i64 3) (.int .i64 0) (.float .f64 0) (.string (nulS sz)) (.slice none 0 0)
theorem gb_step {w x y : World} {vb sb sz : Nat} {qs : Option Addr} {ms ds : Nat} (h : GB w vb sb sz qs ms ds x) (hb : Below x.heap.size x y) : GB w vb sb sz qs ms ds y := ⟨fb_step h.1 hb, cs_step h.2 hb⟩
theorem gb_ro {w x : World} {vb sb sz : Nat} {qs : Option Addr} {ms ds : Nat} (h : GB w vb sb sz qs ms ds x) : x.cell? ⟨sb, 0, none⟩ = some (.int .i64 4) ∧ x.cell? ⟨sb, 1, none⟩ = some (.int .i64 0) ∧ x.cell? ⟨sb, 2, none⟩ = some (.float .f64 0) ∧ x.cell? ⟨sb, 3, none⟩ = some (.string ⟨#[]⟩) ∧ x.cell? ⟨sb, 4, none⟩ = some (.slice qs ms ds) ∧ x.cell? ⟨vb, 0, none⟩ = some (.int .i64 3) ∧ x.cell? ⟨vb, 1, none⟩ = some (.int .i64 0) ∧ x.cell? ⟨vb, 2, none⟩ = some (.float .f64 0) ∧ x.cell? ⟨vb, 3, none⟩ = some (.string (nulS sz)) ∧ x.cell? ⟨vb, 4, none⟩ = some (.slice none 0 0) := ⟨h.1.1.1, h.1.1.2.1, h.1.1.2.2.1, h.1.1.2.2.2.1, h.1.1.2.2.2.2, h.2.1, h.2.2.1, h.2.2.2.1, h.2.2.2.2.1, h.2.2.2.2.2⟩
set_option maxRecDepth 100000 in
set_option maxHeartbeats 1000000 in
theorem great_any (sz nn : Nat) (w : World) (hs : sz < 256) (hn : nn < 256) :
    Calls Try.prog 6 #[.int .u8 sz, .int .u8 nn] w fun e w' => e = .returned (.bool true) ∧ Below w.heap.size w w' := by
  obtain ⟨m, hm⟩ : ∃ m, nn % 40 = m := ⟨_, rfl⟩
  have hm5 : m < 40 := by omega
  have hrem : (nn : Int).tmod 40 = (m : Int) := by rw [← hm]; exact (Int.ofNat_tmod nn 40).symm
  clear hm
  have hm0 : (0 : Int) ≤ (m : Int) := by omega
  have hm1 : (m : Int) < 40 := by omega
  go_enter Try.func6, Try.ntmps6
  go_wp2_with (first
    | (go_at_call 7; refine (known11 _).mono ?_; rintro e w1 ⟨rfl, hb1⟩; have HB1 := Lib.hid hb1; clear hb1; have hmk := mk_bytes sz (by omega) w1; have hcv := cv_nul (row_alloc w1 (zb sz) 5) (by omega))
    | (go_at_call 19; refine (text_ref_any _ _).mono ?_; rintro e w2 ⟨rfl, hb2⟩; have HB2 := Lib.hid (bel_step (bel_alloc HB1.out _) hb2); clear hb2)
    | (go_at_call 17; refine (list_ref_any _ _ _ _).mono ?_; rintro e w3 ⟨rfl, hb3⟩; have HB3 := Lib.hid (bel_step (bel_alloc HB2.out _) hb3); have HV3 := Lib.hid (row_step (row_alloc w2 #[.int .i64 3, .int .i64 0, .float .f64 0, .string (nulS sz), .slice none 0 0] 27) hb3); clear hb3))
  have HS := Lib.hid (show GB w w2.heap.size w3.heap.size sz none 0 0 (w3.alloc (.cells #[.int .i64 4, .int .i64 0, .float .f64 0, .string ⟨#[]⟩, .slice none 0 0] 27)) from ⟨⟨cs_new rfl, bel_alloc HB3.out _, fun o => row_frz (row_alloc w3 #[.int .i64 4, .int .i64 0, .float .f64 0, .string ⟨#[]⟩, .slice none 0 0] 27) o⟩, cs_row (row_alloc_step HV3.out _)⟩)
  have hvs : w2.heap.size < w3.heap.size := row_lt HV3.out
  have hwv : w.heap.size ≤ w2.heap.size := HB2.out.size
  clear HB1 HB2 HB3 HV3 hmk hcv
  revert HS hvs hwv
  generalize w3.alloc (.cells #[.int .i64 4, .int .i64 0, .float .f64 0, .string ⟨#[]⟩, .slice none 0 0] 27) = W
  generalize w3.heap.size = sb
  generalize w2.heap.size = vb
  intro HS hvs hwv
  have h1 : w.heap.size ≤ sb := by omega
  go_loopw [7] (fun iv wr => ∃ (i k : Nat) (qs : Option Addr) (ds : Nat), i ≤ m ∧ iv = .int .i64 i ∧ k ≤ 32 ∧ 2 + (3 + (sz : Int)) * (k : Int) ≤ 4096 ∧ GB w vb sb sz qs k ds wr ∧ RepS (fun b => sb < b) wr 2 (.agg #[.int .i64 4, .int .i64 0, .float .f64 0, .string ⟨#[]⟩, .slice qs k ds]) (queueT 0 (manyT sz k))) (fun iv _ => m - (intOf iv).toNat)
  case atStart => exact ⟨0, 0, none, 0, by omega, rfl, by omega, by omega, HS.out, repS_nilQ _ _⟩
  case round =>
    obtain ⟨i, k, qs, ds, him, rfl, hk32, hkz, hgb, hst⟩ := hrel
    have HGB := Lib.hid hgb
    have HRS := Lib.hid hst
    have HKZ := Lib.hid hkz
    clear hgb hst HS hkz
    by_cases hlt : i < m
    · have hi0 : (0 : Int) ≤ (i : Int) := by omega
      have him2 : (i : Int) < (m : Int) := by omega
      obtain ⟨z, TT, UU, hz, HDO⟩ : ∃ (z : Int) (TT : VT 2) (UU : VT 1), ((k < 32 ∧ 2 + (3 + (sz : Int)) * (k : Int) + (3 + (sz : Int)) ≤ 4096 ∧ z = 0 ∧ TT = queueT 0 (manyT sz (k + 1)) ∧ UU = numT 0 ((k : Int) + 1)) ∨ ((k = 32 ∨ (k < 32 ∧ ¬ 2 + (3 + (sz : Int)) * (k : Int) + (3 + (sz : Int)) ≤ 4096)) ∧ z = 33 ∧ TT = nilT 1 ∧ UU = nilT 0)) ∧
          Hid (∀ (W : World) (g : Nat), Rep W 2 (.agg #[.int .i64 4, .int .i64 0, .float .f64 0, .string ⟨#[]⟩, .slice qs k ds]) (queueT 0 (manyT sz k)) → RepL W (Rep W 1) (some ⟨g, 0, none⟩) 1 1 [txtT sz] → Calls Try.prog 11 #[.agg #[.int .i64 4, .int .i64 0, .float .f64 0, .string ⟨#[]⟩, .slice qs k ds], .string { data := #[112, 117, 115, 104] }, .slice (some ⟨g, 0, none⟩) 1 1] W fun e w' => DoQ W 2 1 TT UU z e w') := by
        have hu : Uni (3 + (sz : Int)) (manyT sz k ++ [txtT sz]) := by rw [many_succ]; exact many_uni hs (k + 1)
        have hln : (manyT sz k).length = k := many_len sz k
        have hmul : (3 + (sz : Int)) * ((k : Int) + 1) = (3 + (sz : Int)) * (k : Int) + (3 + (sz : Int)) := by rw [Int.mul_add, Int.mul_one]
        by_cases h32 : k = 32
        · exact ⟨33, _, _, Or.inr ⟨Or.inl h32, rfl, rfl, rfl⟩, Lib.hid (fun W g hs hr => full_U hu (by omega) (by rw [hln]; exact HKZ.out) hs hr)⟩
        · by_cases hfit : 2 + (3 + (sz : Int)) * (k : Int) + (3 + (sz : Int)) ≤ 4096
          · refine ⟨0, _, _, Or.inl ⟨by omega, hfit, rfl, rfl, rfl⟩, Lib.hid (fun W g hs hr => ?_)⟩
            have h := push_U hu (by omega) (by rw [hln, hmul]; omega) (by rw [hln]; exact HKZ.out) hs hr
            rw [hln, many_succ] at h
            exact h
          · exact ⟨33, _, _, Or.inr ⟨Or.inr ⟨by omega, hfit⟩, rfl, rfl, rfl⟩, Lib.hid (fun W g hs hr => big_U hu (by omega) (by rw [hln, hmul]; omega) (by rw [hln]; exact HKZ.out) hs hr)⟩
      have HZ := Lib.hid hz
      clear hz
      obtain ⟨x0, x1, x2, x3, x4⟩ := HGB.out.1.1
      obtain ⟨y0, y1, y2, y3, y4⟩ := HGB.out.2
      have xl := cell_lt x0
      have yl := cell_lt y0
      go_upto_region 9 with (first
        | (go_at_call 11; refine (HDO.out _ _ (rep_keep (bel_alloc (Below.refl _ _) _) _ _ _ (repS_rep _ _ _ HRS.out)) (row1_rep (row_alloc wr #[.int .i64 3, .int .i64 0, .float .f64 0, .string (nulS sz), .slice none 0 0] 27) (txt_rep sz hs _))).mono ?_; rintro e w8 ⟨t, v, rfl, hb8, ht, hv⟩; obtain ⟨Kt, It, Ft, Zt, qt, mt, dt, rfl, _⟩ := repS_shape ht; obtain ⟨Kv, Iv, Fv, Zv, qv, mv, dv, rfl, _⟩ := repS_shape hv
           have hal := bel_alloc (bel_alloc (Below.refl w8.heap.size w8) (.cells #[.int .i64 Kt, .int .i64 It, .float .f64 Ft, .string Zt, .slice qt mt dt] 27)) (.cells #[.int .i64 Kv, .int .i64 Iv, .float .f64 Fv, .string Zv, .slice qv mv dv] 27)
           have hbl := bel_step (bel_step (bel_alloc (Below.refl wr.heap.size wr) (.cells #[.int .i64 3, .int .i64 0, .float .f64 0, .string (nulS sz), .slice none 0 0] 27)) hb8) hal
           have HT := Lib.hid (show GB w vb sb sz qs k ds ((w8.alloc (.cells #[.int .i64 Kt, .int .i64 It, .float .f64 Ft, .string Zt, .slice qt mt dt] 27)).alloc (.cells #[.int .i64 Kv, .int .i64 Iv, .float .f64 Fv, .string Zv, .slice qv mv dv] 27)) ∧ CS ((w8.alloc (.cells #[.int .i64 Kt, .int .i64 It, .float .f64 Ft, .string Zt, .slice qt mt dt] 27)).alloc (.cells #[.int .i64 Kv, .int .i64 Iv, .float .f64 Fv, .string Zv, .slice qv mv dv] 27)) w8.heap.size (.int .i64 Kt) (.int .i64 It) (.float .f64 Ft) (.string Zt) (.slice qt mt dt) ∧ CS ((w8.alloc (.cells #[.int .i64 Kt, .int .i64 It, .float .f64 Ft, .string Zt, .slice qt mt dt] 27)).alloc (.cells #[.int .i64 Kv, .int .i64 Iv, .float .f64 Fv, .string Zv, .slice qv mv dv] 27)) (w8.heap.size + 1) (.int .i64 Kv) (.int .i64 Iv) (.float .f64 Fv) (.string Zv) (.slice qv mv dv) ∧ RepS (fun b => sb < b) ((w8.alloc (.cells #[.int .i64 Kt, .int .i64 It, .float .f64 Ft, .string Zt, .slice qt mt dt] 27)).alloc (.cells #[.int .i64 Kv, .int .i64 Iv, .float .f64 Fv, .string Zv, .slice qv mv dv] 27)) 2 (.agg #[.int .i64 Kt, .int .i64 It, .float .f64 Ft, .string Zt, .slice qt mt dt]) TT ∧ RepS (fun b => sb < b) ((w8.alloc (.cells #[.int .i64 Kt, .int .i64 It, .float .f64 Ft, .string Zt, .slice qt mt dt] 27)).alloc (.cells #[.int .i64 Kv, .int .i64 Iv, .float .f64 Fv, .string Zv, .slice qv mv dv] 27)) 1 (.agg #[.int .i64 Kv, .int .i64 Iv, .float .f64 Fv, .string Zv, .slice qv mv dv]) UU ∧ RepS (fun b => sb < b) ((w8.alloc (.cells #[.int .i64 Kt, .int .i64 It, .float .f64 Ft, .string Zt, .slice qt mt dt] 27)).alloc (.cells #[.int .i64 Kv, .int .i64 Iv, .float .f64 Fv, .string Zv, .slice qv mv dv] 27)) 2 (.agg #[.int .i64 4, .int .i64 0, .float .f64 0, .string ⟨#[]⟩, .slice qs k ds]) (queueT 0 (manyT sz k)) from
             ⟨gb_step HGB.out hbl, cs_alloc (cs_new rfl) _, cs_new (World.size_alloc _ _).symm, repS_step hal (repS_mono (fun b hb => by rw [World.size_alloc] at hb; omega) _ _ _ ht), repS_step hal (repS_mono (fun b hb => by rw [World.size_alloc] at hb; omega) _ _ _ hv), repS_step hbl HRS.out⟩)
           clear hb8 ht hv hal hbl))
      revert HT
      generalize (w8.alloc (.cells #[.int .i64 Kt, .int .i64 It, .float .f64 Ft, .string Zt, .slice qt mt dt] 27)).alloc (.cells #[.int .i64 Kv, .int .i64 Iv, .float .f64 Fv, .string Zv, .slice qv mv dv] 27) = wx
      generalize w8.heap.size + 1 = kb
      generalize w8.heap.size = tb
      intro HT
      clear x0 x1 x2 x3 x4 y0 y1 y2 y3 y4 xl yl HDO HRS HGB
      have HGB := Lib.hid HT.out.1
      have HST := Lib.hid (repS_rep _ _ _ HT.out.2.2.2.2.2)
      have HSZ := Lib.hid (many_size hs hk32)
      have HSX := Lib.hid (txt_size hs)
      rcases HZ.out with ⟨hk, hfit, rfl, rfl, rfl⟩ | ⟨hno, rfl, rfl, rfl⟩
      · have hki : (k : Int) < 32 := by omega
        obtain ⟨zk, hzk⟩ : ∃ zk : Int, 2 + (3 + (sz : Int)) * (k : Int) = zk := ⟨_, rfl⟩
        have hzp : 0 ≤ zk := by rw [← hzk]; have := Int.mul_nonneg (show (0 : Int) ≤ 3 + (sz : Int) by omega) (show (0 : Int) ≤ (k : Int) by omega); omega
        have hwz : IntKind.i64.wrap (zk + (3 + (sz : Int))) = zk + (3 + (sz : Int)) := by rw [IntKind.wrap_i64]; omega
        have hz4 : zk ≤ 4096 := by rw [← hzk]; exact HKZ.out
        have HNX := Lib.hid (show 2 + (3 + (sz : Int)) * ((k + 1 : Nat) : Int) = zk + (3 + (sz : Int)) by rw [Int.natCast_succ, Int.mul_add, Int.mul_one, ← hzk]; omega)
        rw [hzk] at HSZ hfit
        clear hzk HKZ
        refine wp_region_held_drew (S := (fun z => z.cell? ⟨sb, 0, none⟩ = some (.int .i64 4) ∧ z.cell? ⟨sb, 1, none⟩ = some (.int .i64 0) ∧ z.cell? ⟨sb, 2, none⟩ = some (.float .f64 0) ∧ z.cell? ⟨sb, 3, none⟩ = some (.string ⟨#[]⟩) ∧ z.cell? ⟨sb, 4, none⟩ = some (.slice qs k ds) ∧ z.cell? ⟨vb, 0, none⟩ = some (.int .i64 3) ∧ z.cell? ⟨vb, 1, none⟩ = some (.int .i64 0) ∧ z.cell? ⟨vb, 2, none⟩ = some (.float .f64 0) ∧ z.cell? ⟨vb, 3, none⟩ = some (.string (nulS sz)) ∧ z.cell? ⟨vb, 4, none⟩ = some (.slice none 0 0))) (by kernel_rfl) ?_ (fun hHeld => ?_)
        · exact gb_ro (gb_step HGB.out (Below.drew (Below.refl _ _)))
        have HD9 := Lib.hid (show Below wx.heap.size wx wx.drew from Below.drew (Below.refl _ _))
        revert HD9 hHeld
        generalize wx.drew = Wd
        intro hHeld HD9
        refine wpAnyH_take (i := 0) (oi := ?_) (v := ?_) ?hia0 (by kernel_rfl) ?hfa0 ?hra0 ?hQa0 ?hya0 (by assumption) ?resta0
        case hia0 => (simp only [List.getElem?_toArray, List.getElem?_cons_zero, List.getElem?_cons_succ]; rfl)
        case hfa0 => kernel_rfl
        case hra0 => kernel_rfl
        case hya0 => (refine Or.inl ⟨by rfl, ?_⟩; intro wS hSw; (try dsimp only at hSw); go_simp; (try with_reducible rfl))
        case hQa0 => exact fun _ _ _ h => h
        (try simp only [Act.put, List.setIfInBounds_toArray, List.set_cons_zero, List.set_cons_succ])
        refine wpAnyH_take (i := 1) (oi := ?_) (v := ?_) ?hia1 (by kernel_rfl) ?hfa1 ?hra1 ?hQa1 ?hya1 (by assumption) ?resta1
        case hia1 => (simp only [List.getElem?_toArray, List.getElem?_cons_zero, List.getElem?_cons_succ]; rfl)
        case hfa1 => kernel_rfl
        case hra1 => kernel_rfl
        case hya1 => (refine Or.inl ⟨by rfl, ?_⟩; intro wS hSw; (try dsimp only at hSw); go_simp; (try with_reducible rfl))
        case hQa1 => exact fun _ _ _ h => h
        (try simp only [Act.put, List.setIfInBounds_toArray, List.set_cons_zero, List.set_cons_succ])
        refine wpAnyH_take (i := 2) (oi := ?_) (v := ?_) ?hia2 (by kernel_rfl) ?hfa2 ?hra2 ?hQa2 ?hya2 (by assumption) ?resta2
        case hia2 => (simp only [List.getElem?_toArray, List.getElem?_cons_zero, List.getElem?_cons_succ]; rfl)
        case hfa2 => kernel_rfl
        case hra2 => kernel_rfl
        case hya2 => (refine Or.inl ⟨by rfl, ?_⟩; intro wS hSw; (try dsimp only at hSw); go_simp; (try with_reducible rfl))
        case hQa2 => exact fun _ _ _ h => h
        (try simp only [Act.put, List.setIfInBounds_toArray, List.set_cons_zero, List.set_cons_succ])
        refine wpAnyH_take (i := 3) (oi := ?_) (v := ?_) ?hia3 (by kernel_rfl) ?hfa3 ?hra3 ?hQa3 ?hya3 (by assumption) ?resta3
        case hia3 => (simp only [List.getElem?_toArray, List.getElem?_cons_zero, List.getElem?_cons_succ]; rfl)
        case hfa3 => kernel_rfl
        case hra3 => kernel_rfl
        case hya3 => (refine Or.inl ⟨by rfl, ?_⟩; intro wS hSw; (try dsimp only at hSw); go_simp; (try with_reducible rfl))
        case hQa3 => exact fun _ _ _ h => h
        (try simp only [Act.put, List.setIfInBounds_toArray, List.set_cons_zero, List.set_cons_succ])
        refine wpAnyH_take (i := 4) (oi := ?_) (v := ?_) ?hia4 (by kernel_rfl) ?hfa4 ?hra4 ?hQa4 ?hya4 (by assumption) ?resta4
        case hia4 => (simp only [List.getElem?_toArray, List.getElem?_cons_zero, List.getElem?_cons_succ]; rfl)
        case hfa4 => kernel_rfl
        case hra4 => kernel_rfl
        case hya4 => (refine Or.inl ⟨by rfl, ?_⟩; intro wS hSw; (try dsimp only at hSw); go_simp; (try with_reducible rfl))
        case hQa4 => exact fun _ _ _ h => h
        (try simp only [Act.put, List.setIfInBounds_toArray, List.set_cons_zero, List.set_cons_succ])
        refine wpAnyH_take (i := 5) (oi := ?_) (v := ?_) ?hia5 (by kernel_rfl) ?hfa5 ?hra5 ?hQa5 ?hya5 (by assumption) ?resta5
        case hia5 => (simp only [List.getElem?_toArray, List.getElem?_cons_zero, List.getElem?_cons_succ]; rfl)
        case hfa5 => kernel_rfl
        case hra5 => kernel_rfl
        case hya5 => (refine Or.inl ⟨by rfl, ?_⟩; intro wS hSw; (try dsimp only at hSw); go_simp; (try with_reducible rfl))
        case hQa5 => exact fun _ _ _ h => h
        (try simp only [Act.put, List.setIfInBounds_toArray, List.set_cons_zero, List.set_cons_succ])
        refine wpAnyH_take (i := 7) (oi := ?_) (v := ?_) ?hia7 (by kernel_rfl) ?hfa7 ?hra7 ?hQa7 ?hya7 (by assumption) ?resta7
        case hia7 => (simp only [List.getElem?_toArray, List.getElem?_cons_zero, List.getElem?_cons_succ]; rfl)
        case hfa7 => kernel_rfl
        case hra7 => kernel_rfl
        case hya7 => (refine Or.inl ⟨by rfl, ?_⟩; intro wS hSw; (try dsimp only at hSw); go_simp; (try with_reducible rfl))
        case hQa7 => exact fun _ _ _ h => h
        (try simp only [Act.put, List.setIfInBounds_toArray, List.set_cons_zero, List.set_cons_succ])
        refine wpAnyH_ready (rs := [6]) (by kernel_rfl) (by simp) ?_
        refine AllReadyH.cons (o := ?_) ?hoa6 ?hsta6 AllReadyH.nil
        case hoa6 => (simp only [List.getElem?_toArray, List.getElem?_cons_zero, List.getElem?_cons_succ]; rfl)
        intro K hK
        go_simp
        go_at_call 20; refine (size_any 2 _ _ _ (rep_keep HD9.out _ _ _ HST.out)).mono ?_; rintro e w10 ⟨rfl, hb10⟩; rw [HSZ.out]; have HW10 := Lib.hid (bel_step HD9.out hb10); clear hb10
        go_wp2_with fail
        refine hK.out _ _ ?hsa6 (fun hHeld => ?_)
        case hsa6 => exact gb_ro (gb_step HGB.out HW10.out)
        clear hK K
        (try simp only [Act.put, List.setIfInBounds_toArray, List.set_cons_zero, List.set_cons_succ])
        refine wpAnyH_ready (rs := [8]) (by kernel_rfl) (by simp) ?_
        refine AllReadyH.cons (o := ?_) ?hoa8 ?hsta8 AllReadyH.nil
        case hoa8 => (simp only [List.getElem?_toArray, List.getElem?_cons_zero, List.getElem?_cons_succ]; rfl)
        intro K hK
        go_simp
        go_at_call 20; refine (size_any 1 _ _ _ (txt_rep sz hs w10)).mono ?_; rintro e w11 ⟨rfl, hb11⟩; rw [HSX.out]; have HW9 := Lib.hid (bel_step HW10.out hb11); clear hb11
        go_wp2_with fail
        refine hK.out _ _ ?hsa8 (fun hHeld => ?_)
        case hsa8 => exact gb_ro (gb_step HGB.out HW9.out)
        clear hK K
        (try simp only [Act.put, List.setIfInBounds_toArray, List.set_cons_zero, List.set_cons_succ])
        refine wpAnyH_take (i := 9) (oi := ?_) (v := ?_) ?hia9 (by kernel_rfl) ?hfa9 ?hra9 ?hQa9 ?hya9 (by assumption) ?resta9
        case hia9 => (simp only [List.getElem?_toArray, List.getElem?_cons_zero, List.getElem?_cons_succ]; rfl)
        case hfa9 => kernel_rfl
        case hra9 => kernel_rfl
        case hya9 => (refine Or.inl ⟨by rfl, ?_⟩; intro wS hSw; (try dsimp only at hSw); go_simp; (try with_reducible rfl))
        case hQa9 => exact fun _ _ _ h => h
        (try simp only [Act.put, List.setIfInBounds_toArray, List.set_cons_zero, List.set_cons_succ])
        refine wpAnyH_take (i := 10) (oi := ?_) (v := ?_) ?hia10 (by kernel_rfl) ?hfa10 ?hra10 ?hQa10 ?hya10 (by assumption) ?resta10
        case hia10 => (simp only [List.getElem?_toArray, List.getElem?_cons_zero, List.getElem?_cons_succ]; rfl)
        case hfa10 => kernel_rfl
        case hra10 => kernel_rfl
        case hya10 => (refine Or.inl ⟨by rfl, ?_⟩; intro wS hSw; (try dsimp only at hSw); go_simp; (try with_reducible rfl))
        case hQa10 => exact fun _ _ _ h => h
        (try simp only [Act.put, List.setIfInBounds_toArray, List.set_cons_zero, List.set_cons_succ])
        refine wpAnyH_take (i := 11) (oi := ?_) (v := ?_) ?hia11 (by kernel_rfl) ?hfa11 ?hra11 ?hQa11 ?hya11 (by assumption) ?resta11
        case hia11 => (simp only [List.getElem?_toArray, List.getElem?_cons_zero, List.getElem?_cons_succ]; rfl)
        case hfa11 => kernel_rfl
        case hra11 => kernel_rfl
        case hya11 => (refine Or.inl ⟨by rfl, ?_⟩; intro wS hSw; (try dsimp only at hSw); go_simp; (try with_reducible rfl))
        case hQa11 => exact fun _ _ _ h => h
        (try simp only [Act.put, List.setIfInBounds_toArray, List.set_cons_zero, List.set_cons_succ])
        refine wpAnyH_take (i := 12) (oi := ?_) (v := ?_) ?hia12 (by kernel_rfl) ?hfa12 ?hra12 ?hQa12 ?hya12 (by assumption) ?resta12
        case hia12 => (simp only [List.getElem?_toArray, List.getElem?_cons_zero, List.getElem?_cons_succ]; rfl)
        case hfa12 => kernel_rfl
        case hra12 => kernel_rfl
        case hya12 => (refine Or.inl ⟨by rfl, ?_⟩; intro wS hSw; (try dsimp only at hSw); go_simp; (try with_reducible rfl))
        case hQa12 => exact fun _ _ _ h => h
        (try simp only [Act.put, List.setIfInBounds_toArray, List.set_cons_zero, List.set_cons_succ])
        refine wpAnyH_done (by kernel_rfl) ?_ _
        have hgb := gb_step HGB.out HW9.out
        have ct := cs_step HT.out.2.1 HW9.out
        have cv := cs_step HT.out.2.2.1 HW9.out
        have hrt := repS_step HW9.out HT.out.2.2.2.1
        have hrv := repS_step HW9.out HT.out.2.2.2.2.1
        have HRQ := Lib.hid (repS_step HW9.out HT.out.2.2.2.2.2)
        obtain ⟨rfl, rfl, rfl, rfl, hmt⟩ := rep_q5 (repS_rep _ _ _ hrt)
        rw [many_len] at hmt
        subst hmt
        obtain ⟨rfl, rfl, rfl, rfl, rfl⟩ := rep_leaf (repS_rep _ _ _ hrv)
        obtain ⟨t0, t1, t2, t3, t4⟩ := ct
        obtain ⟨v0, v1, v2, v3, v4⟩ := cv
        obtain ⟨s0, s1, s2, s3, s4⟩ := hgb.1.1
        have sf := hgb.1.2.2
        have sl := cell_lt s0
        have HRT := Lib.hid hrt
        have HGN := Lib.hid hgb
        have HKF := Lib.hid hfit
        have HKK := Lib.hid hk
        clear hrt hrv hgb HT HW9 HD9 HGB HST HSZ HSX HZ hHeld hfit hk HRQ
        go_wp2
        go_roundw
        case rel => exact ⟨i + 1, k + 1, qt, dt, by omega, by go_num, by have := HKK.out; omega, by rw [HNX.out]; exact HKF.out, ⟨fb_new HGN.out.1 h1 qt (k + 1) dt, cs_other HGN.out.2 (by omega)⟩, repS_set HRT.out (fun b hb => by omega)⟩
        case measure => simp [intOf]; omega
      · rcases hno with hk | ⟨hk, hfit⟩
        · have hki : ¬ (k : Int) < 32 := by omega
          clear hk
          have HKZ0 := HKZ
          refine wp_region_held_drew (S := (fun z => z.cell? ⟨sb, 0, none⟩ = some (.int .i64 4) ∧ z.cell? ⟨sb, 1, none⟩ = some (.int .i64 0) ∧ z.cell? ⟨sb, 2, none⟩ = some (.float .f64 0) ∧ z.cell? ⟨sb, 3, none⟩ = some (.string ⟨#[]⟩) ∧ z.cell? ⟨sb, 4, none⟩ = some (.slice qs k ds) ∧ z.cell? ⟨vb, 0, none⟩ = some (.int .i64 3) ∧ z.cell? ⟨vb, 1, none⟩ = some (.int .i64 0) ∧ z.cell? ⟨vb, 2, none⟩ = some (.float .f64 0) ∧ z.cell? ⟨vb, 3, none⟩ = some (.string (nulS sz)) ∧ z.cell? ⟨vb, 4, none⟩ = some (.slice none 0 0))) (by kernel_rfl) ?_ (fun hHeld => ?_)
          · exact gb_ro (gb_step HGB.out (Below.drew (Below.refl _ _)))
          have HD9 := Lib.hid (show Below wx.heap.size wx wx.drew from Below.drew (Below.refl _ _))
          revert HD9 hHeld
          generalize wx.drew = Wd
          intro hHeld HD9
          refine wpAnyH_take (i := 0) (oi := ?_) (v := ?_) ?hib0 (by kernel_rfl) ?hfb0 ?hrb0 ?hQb0 ?hyb0 (by assumption) ?restb0
          case hib0 => (simp only [List.getElem?_toArray, List.getElem?_cons_zero, List.getElem?_cons_succ]; rfl)
          case hfb0 => kernel_rfl
          case hrb0 => kernel_rfl
          case hyb0 => (refine Or.inl ⟨by rfl, ?_⟩; intro wS hSw; (try dsimp only at hSw); go_simp; (try with_reducible rfl))
          case hQb0 => exact fun _ _ _ h => h
          (try simp only [Act.put, List.setIfInBounds_toArray, List.set_cons_zero, List.set_cons_succ])
          refine wpAnyH_take (i := 1) (oi := ?_) (v := ?_) ?hib1 (by kernel_rfl) ?hfb1 ?hrb1 ?hQb1 ?hyb1 (by assumption) ?restb1
          case hib1 => (simp only [List.getElem?_toArray, List.getElem?_cons_zero, List.getElem?_cons_succ]; rfl)
          case hfb1 => kernel_rfl
          case hrb1 => kernel_rfl
          case hyb1 => (refine Or.inl ⟨by rfl, ?_⟩; intro wS hSw; (try dsimp only at hSw); go_simp; (try with_reducible rfl))
          case hQb1 => exact fun _ _ _ h => h
          (try simp only [Act.put, List.setIfInBounds_toArray, List.set_cons_zero, List.set_cons_succ])
          refine wpAnyH_take (i := 2) (oi := ?_) (v := ?_) ?hib2 (by kernel_rfl) ?hfb2 ?hrb2 ?hQb2 ?hyb2 (by assumption) ?restb2
          case hib2 => (simp only [List.getElem?_toArray, List.getElem?_cons_zero, List.getElem?_cons_succ]; rfl)
          case hfb2 => kernel_rfl
          case hrb2 => kernel_rfl
          case hyb2 => (refine Or.inl ⟨by rfl, ?_⟩; intro wS hSw; (try dsimp only at hSw); go_simp; (try with_reducible rfl))
          case hQb2 => exact fun _ _ _ h => h
          (try simp only [Act.put, List.setIfInBounds_toArray, List.set_cons_zero, List.set_cons_succ])
          refine wpAnyH_take (i := 3) (oi := ?_) (v := ?_) ?hib3 (by kernel_rfl) ?hfb3 ?hrb3 ?hQb3 ?hyb3 (by assumption) ?restb3
          case hib3 => (simp only [List.getElem?_toArray, List.getElem?_cons_zero, List.getElem?_cons_succ]; rfl)
          case hfb3 => kernel_rfl
          case hrb3 => kernel_rfl
          case hyb3 => (refine Or.inl ⟨by rfl, ?_⟩; intro wS hSw; (try dsimp only at hSw); go_simp; (try with_reducible rfl))
          case hQb3 => exact fun _ _ _ h => h
          (try simp only [Act.put, List.setIfInBounds_toArray, List.set_cons_zero, List.set_cons_succ])
          refine wpAnyH_take (i := 4) (oi := ?_) (v := ?_) ?hib4 (by kernel_rfl) ?hfb4 ?hrb4 ?hQb4 ?hyb4 (by assumption) ?restb4
          case hib4 => (simp only [List.getElem?_toArray, List.getElem?_cons_zero, List.getElem?_cons_succ]; rfl)
          case hfb4 => kernel_rfl
          case hrb4 => kernel_rfl
          case hyb4 => (refine Or.inl ⟨by rfl, ?_⟩; intro wS hSw; (try dsimp only at hSw); go_simp; (try with_reducible rfl))
          case hQb4 => exact fun _ _ _ h => h
          (try simp only [Act.put, List.setIfInBounds_toArray, List.set_cons_zero, List.set_cons_succ])
          refine wpAnyH_take (i := 5) (oi := ?_) (v := undef) ?hib5 (by kernel_rfl) ?hfb5 ?hrb5 ?hQb5 ?hyb5 (by assumption) ?restb5
          case hib5 => (simp only [List.getElem?_toArray, List.getElem?_cons_zero, List.getElem?_cons_succ]; rfl)
          case hfb5 => kernel_rfl
          case hrb5 => kernel_rfl
          case hyb5 => exact Or.inr ⟨by rfl, rfl⟩
          case hQb5 => exact fun _ _ _ h => h
          (try simp only [Act.put, List.setIfInBounds_toArray, List.set_cons_zero, List.set_cons_succ])
          refine wpAnyH_take (i := 6) (oi := ?_) (v := undef) ?hib6 (by kernel_rfl) ?hfb6 ?hrb6 ?hQb6 ?hyb6 (by assumption) ?restb6
          case hib6 => (simp only [List.getElem?_toArray, List.getElem?_cons_zero, List.getElem?_cons_succ]; rfl)
          case hfb6 => kernel_rfl
          case hrb6 => kernel_rfl
          case hyb6 => exact Or.inr ⟨by rfl, rfl⟩
          case hQb6 => exact fun _ _ _ h => h
          (try simp only [Act.put, List.setIfInBounds_toArray, List.set_cons_zero, List.set_cons_succ])
          refine wpAnyH_take (i := 7) (oi := ?_) (v := undef) ?hib7 (by kernel_rfl) ?hfb7 ?hrb7 ?hQb7 ?hyb7 (by assumption) ?restb7
          case hib7 => (simp only [List.getElem?_toArray, List.getElem?_cons_zero, List.getElem?_cons_succ]; rfl)
          case hfb7 => kernel_rfl
          case hrb7 => kernel_rfl
          case hyb7 => exact Or.inr ⟨by rfl, rfl⟩
          case hQb7 => exact fun _ _ _ h => h
          (try simp only [Act.put, List.setIfInBounds_toArray, List.set_cons_zero, List.set_cons_succ])
          refine wpAnyH_take (i := 8) (oi := ?_) (v := undef) ?hib8 (by kernel_rfl) ?hfb8 ?hrb8 ?hQb8 ?hyb8 (by assumption) ?restb8
          case hib8 => (simp only [List.getElem?_toArray, List.getElem?_cons_zero, List.getElem?_cons_succ]; rfl)
          case hfb8 => kernel_rfl
          case hrb8 => kernel_rfl
          case hyb8 => exact Or.inr ⟨by rfl, rfl⟩
          case hQb8 => exact fun _ _ _ h => h
          (try simp only [Act.put, List.setIfInBounds_toArray, List.set_cons_zero, List.set_cons_succ])
          refine wpAnyH_take (i := 9) (oi := ?_) (v := undef) ?hib9 (by kernel_rfl) ?hfb9 ?hrb9 ?hQb9 ?hyb9 (by assumption) ?restb9
          case hib9 => (simp only [List.getElem?_toArray, List.getElem?_cons_zero, List.getElem?_cons_succ]; rfl)
          case hfb9 => kernel_rfl
          case hrb9 => kernel_rfl
          case hyb9 => exact Or.inr ⟨by rfl, rfl⟩
          case hQb9 => exact fun _ _ _ h => h
          (try simp only [Act.put, List.setIfInBounds_toArray, List.set_cons_zero, List.set_cons_succ])
          refine wpAnyH_take (i := 10) (oi := ?_) (v := undef) ?hib10 (by kernel_rfl) ?hfb10 ?hrb10 ?hQb10 ?hyb10 (by assumption) ?restb10
          case hib10 => (simp only [List.getElem?_toArray, List.getElem?_cons_zero, List.getElem?_cons_succ]; rfl)
          case hfb10 => kernel_rfl
          case hrb10 => kernel_rfl
          case hyb10 => exact Or.inr ⟨by rfl, rfl⟩
          case hQb10 => exact fun _ _ _ h => h
          (try simp only [Act.put, List.setIfInBounds_toArray, List.set_cons_zero, List.set_cons_succ])
          refine wpAnyH_take (i := 11) (oi := ?_) (v := ?_) ?hib11 (by kernel_rfl) ?hfb11 ?hrb11 ?hQb11 ?hyb11 (by assumption) ?restb11
          case hib11 => (simp only [List.getElem?_toArray, List.getElem?_cons_zero, List.getElem?_cons_succ]; rfl)
          case hfb11 => kernel_rfl
          case hrb11 => kernel_rfl
          case hyb11 => (refine Or.inl ⟨by rfl, ?_⟩; intro wS hSw; (try dsimp only at hSw); go_simp; (try with_reducible rfl))
          case hQb11 => exact fun _ _ _ h => h
          (try simp only [Act.put, List.setIfInBounds_toArray, List.set_cons_zero, List.set_cons_succ])
          refine wpAnyH_take (i := 12) (oi := ?_) (v := ?_) ?hib12 (by kernel_rfl) ?hfb12 ?hrb12 ?hQb12 ?hyb12 (by assumption) ?restb12
          case hib12 => (simp only [List.getElem?_toArray, List.getElem?_cons_zero, List.getElem?_cons_succ]; rfl)
          case hfb12 => kernel_rfl
          case hrb12 => kernel_rfl
          case hyb12 => (refine Or.inl ⟨by rfl, ?_⟩; intro wS hSw; (try dsimp only at hSw); go_simp; (try with_reducible rfl))
          case hQb12 => exact fun _ _ _ h => h
          (try simp only [Act.put, List.setIfInBounds_toArray, List.set_cons_zero, List.set_cons_succ])
          refine wpAnyH_done (by kernel_rfl) ?_ _
          have HW9 := HD9
          have hgb := gb_step HGB.out HW9.out
          have ct := cs_step HT.out.2.1 HW9.out
          have cv := cs_step HT.out.2.2.1 HW9.out
          have hrt := repS_step HW9.out HT.out.2.2.2.1
          have hrv := repS_step HW9.out HT.out.2.2.2.2.1
          have HRQ := Lib.hid (repS_step HW9.out HT.out.2.2.2.2.2)
          obtain ⟨t0, t1, t2, t3, t4⟩ := ct
          obtain ⟨v0, v1, v2, v3, v4⟩ := cv
          obtain ⟨s0, s1, s2, s3, s4⟩ := hgb.1.1
          have sf := hgb.1.2.2
          have sl := cell_lt s0
          have HRT := Lib.hid (repS_rep _ _ _ hrt)
          have HRV := Lib.hid (repS_rep _ _ _ hrv)
          have HGN := Lib.hid hgb
          clear hrt hrv hgb HT HW9 HD9 HGB HST HSZ HSX HZ hHeld
          go_wp2_with fail
          go_at_call 13; refine (same_any 2 _ _ (nilT 1) _ HRT.out (nil_any 1 _)).mono ?_; rintro e w12 ⟨rfl, hb12⟩
          replace v0 := cell_keep hb12 v0
          replace v1 := cell_keep hb12 v1
          replace v2 := cell_keep hb12 v2
          replace v3 := cell_keep hb12 v3
          replace v4 := cell_keep hb12 v4
          have HB12 := Lib.hid hb12
          clear hb12 t0 t1 t2 t3 t4 s0 s1 s2 s3 s4 sf sl HRT
          go_wp2_with fail
          go_at_call 13; refine (same_any 1 _ _ (nilT 0) _ (rep_keep HB12.out _ _ _ HRV.out) (nil_any 0 _)).mono ?_; rintro e w13 ⟨rfl, hb13⟩
          have HB13 := Lib.hid (bel_step HB12.out hb13)
          clear hb13 v0 v1 v2 v3 v4 HRV HB12
          go_wp2
          go_roundw
          case rel => exact ⟨i + 1, k, qs, ds, by omega, by go_num, by omega, HKZ0.out, gb_step HGN.out HB13.out, repS_step HB13.out HRQ.out⟩
          case measure => simp [intOf]; omega
        · have hki : (k : Int) < 32 := by omega
          have HKZ0 := HKZ
          obtain ⟨zk, hzk⟩ : ∃ zk : Int, 2 + (3 + (sz : Int)) * (k : Int) = zk := ⟨_, rfl⟩
          have hzp : 0 ≤ zk := by rw [← hzk]; have := Int.mul_nonneg (show (0 : Int) ≤ 3 + (sz : Int) by omega) (show (0 : Int) ≤ (k : Int) by omega); omega
          have hz4 : zk ≤ 4096 := by rw [← hzk]; exact HKZ.out
          have hwz : IntKind.i64.wrap (zk + (3 + (sz : Int))) = zk + (3 + (sz : Int)) := by rw [IntKind.wrap_i64]; omega
          rw [hzk] at HSZ hfit
          clear hzk HKZ
          refine wp_region_held_drew (S := (fun z => z.cell? ⟨sb, 0, none⟩ = some (.int .i64 4) ∧ z.cell? ⟨sb, 1, none⟩ = some (.int .i64 0) ∧ z.cell? ⟨sb, 2, none⟩ = some (.float .f64 0) ∧ z.cell? ⟨sb, 3, none⟩ = some (.string ⟨#[]⟩) ∧ z.cell? ⟨sb, 4, none⟩ = some (.slice qs k ds) ∧ z.cell? ⟨vb, 0, none⟩ = some (.int .i64 3) ∧ z.cell? ⟨vb, 1, none⟩ = some (.int .i64 0) ∧ z.cell? ⟨vb, 2, none⟩ = some (.float .f64 0) ∧ z.cell? ⟨vb, 3, none⟩ = some (.string (nulS sz)) ∧ z.cell? ⟨vb, 4, none⟩ = some (.slice none 0 0))) (by kernel_rfl) ?_ (fun hHeld => ?_)
          · exact gb_ro (gb_step HGB.out (Below.drew (Below.refl _ _)))
          have HD9 := Lib.hid (show Below wx.heap.size wx wx.drew from Below.drew (Below.refl _ _))
          revert HD9 hHeld
          generalize wx.drew = Wd
          intro hHeld HD9
          refine wpAnyH_take (i := 0) (oi := ?_) (v := ?_) ?hic0 (by kernel_rfl) ?hfc0 ?hrc0 ?hQc0 ?hyc0 (by assumption) ?restc0
          case hic0 => (simp only [List.getElem?_toArray, List.getElem?_cons_zero, List.getElem?_cons_succ]; rfl)
          case hfc0 => kernel_rfl
          case hrc0 => kernel_rfl
          case hyc0 => (refine Or.inl ⟨by rfl, ?_⟩; intro wS hSw; (try dsimp only at hSw); go_simp; (try with_reducible rfl))
          case hQc0 => exact fun _ _ _ h => h
          (try simp only [Act.put, List.setIfInBounds_toArray, List.set_cons_zero, List.set_cons_succ])
          refine wpAnyH_take (i := 1) (oi := ?_) (v := ?_) ?hic1 (by kernel_rfl) ?hfc1 ?hrc1 ?hQc1 ?hyc1 (by assumption) ?restc1
          case hic1 => (simp only [List.getElem?_toArray, List.getElem?_cons_zero, List.getElem?_cons_succ]; rfl)
          case hfc1 => kernel_rfl
          case hrc1 => kernel_rfl
          case hyc1 => (refine Or.inl ⟨by rfl, ?_⟩; intro wS hSw; (try dsimp only at hSw); go_simp; (try with_reducible rfl))
          case hQc1 => exact fun _ _ _ h => h
          (try simp only [Act.put, List.setIfInBounds_toArray, List.set_cons_zero, List.set_cons_succ])
          refine wpAnyH_take (i := 2) (oi := ?_) (v := ?_) ?hic2 (by kernel_rfl) ?hfc2 ?hrc2 ?hQc2 ?hyc2 (by assumption) ?restc2
          case hic2 => (simp only [List.getElem?_toArray, List.getElem?_cons_zero, List.getElem?_cons_succ]; rfl)
          case hfc2 => kernel_rfl
          case hrc2 => kernel_rfl
          case hyc2 => (refine Or.inl ⟨by rfl, ?_⟩; intro wS hSw; (try dsimp only at hSw); go_simp; (try with_reducible rfl))
          case hQc2 => exact fun _ _ _ h => h
          (try simp only [Act.put, List.setIfInBounds_toArray, List.set_cons_zero, List.set_cons_succ])
          refine wpAnyH_take (i := 3) (oi := ?_) (v := ?_) ?hic3 (by kernel_rfl) ?hfc3 ?hrc3 ?hQc3 ?hyc3 (by assumption) ?restc3
          case hic3 => (simp only [List.getElem?_toArray, List.getElem?_cons_zero, List.getElem?_cons_succ]; rfl)
          case hfc3 => kernel_rfl
          case hrc3 => kernel_rfl
          case hyc3 => (refine Or.inl ⟨by rfl, ?_⟩; intro wS hSw; (try dsimp only at hSw); go_simp; (try with_reducible rfl))
          case hQc3 => exact fun _ _ _ h => h
          (try simp only [Act.put, List.setIfInBounds_toArray, List.set_cons_zero, List.set_cons_succ])
          refine wpAnyH_take (i := 4) (oi := ?_) (v := ?_) ?hic4 (by kernel_rfl) ?hfc4 ?hrc4 ?hQc4 ?hyc4 (by assumption) ?restc4
          case hic4 => (simp only [List.getElem?_toArray, List.getElem?_cons_zero, List.getElem?_cons_succ]; rfl)
          case hfc4 => kernel_rfl
          case hrc4 => kernel_rfl
          case hyc4 => (refine Or.inl ⟨by rfl, ?_⟩; intro wS hSw; (try dsimp only at hSw); go_simp; (try with_reducible rfl))
          case hQc4 => exact fun _ _ _ h => h
          (try simp only [Act.put, List.setIfInBounds_toArray, List.set_cons_zero, List.set_cons_succ])
          refine wpAnyH_take (i := 5) (oi := ?_) (v := ?_) ?hic5 (by kernel_rfl) ?hfc5 ?hrc5 ?hQc5 ?hyc5 (by assumption) ?restc5
          case hic5 => (simp only [List.getElem?_toArray, List.getElem?_cons_zero, List.getElem?_cons_succ]; rfl)
          case hfc5 => kernel_rfl
          case hrc5 => kernel_rfl
          case hyc5 => (refine Or.inl ⟨by rfl, ?_⟩; intro wS hSw; (try dsimp only at hSw); go_simp; (try with_reducible rfl))
          case hQc5 => exact fun _ _ _ h => h
          (try simp only [Act.put, List.setIfInBounds_toArray, List.set_cons_zero, List.set_cons_succ])
          refine wpAnyH_take (i := 7) (oi := ?_) (v := ?_) ?hic7 (by kernel_rfl) ?hfc7 ?hrc7 ?hQc7 ?hyc7 (by assumption) ?restc7
          case hic7 => (simp only [List.getElem?_toArray, List.getElem?_cons_zero, List.getElem?_cons_succ]; rfl)
          case hfc7 => kernel_rfl
          case hrc7 => kernel_rfl
          case hyc7 => (refine Or.inl ⟨by rfl, ?_⟩; intro wS hSw; (try dsimp only at hSw); go_simp; (try with_reducible rfl))
          case hQc7 => exact fun _ _ _ h => h
          (try simp only [Act.put, List.setIfInBounds_toArray, List.set_cons_zero, List.set_cons_succ])
          refine wpAnyH_ready (rs := [6]) (by kernel_rfl) (by simp) ?_
          refine AllReadyH.cons (o := ?_) ?hoc6 ?hstc6 AllReadyH.nil
          case hoc6 => (simp only [List.getElem?_toArray, List.getElem?_cons_zero, List.getElem?_cons_succ]; rfl)
          intro K hK
          go_simp
          go_at_call 20; refine (size_any 2 _ _ _ (rep_keep HD9.out _ _ _ HST.out)).mono ?_; rintro e w10 ⟨rfl, hb10⟩; rw [HSZ.out]; have HW10 := Lib.hid (bel_step HD9.out hb10); clear hb10
          go_wp2_with fail
          refine hK.out _ _ ?hsc6 (fun hHeld => ?_)
          case hsc6 => exact gb_ro (gb_step HGB.out HW10.out)
          clear hK K
          (try simp only [Act.put, List.setIfInBounds_toArray, List.set_cons_zero, List.set_cons_succ])
          refine wpAnyH_ready (rs := [8]) (by kernel_rfl) (by simp) ?_
          refine AllReadyH.cons (o := ?_) ?hoc8 ?hstc8 AllReadyH.nil
          case hoc8 => (simp only [List.getElem?_toArray, List.getElem?_cons_zero, List.getElem?_cons_succ]; rfl)
          intro K hK
          go_simp
          go_at_call 20; refine (size_any 1 _ _ _ (txt_rep sz hs w10)).mono ?_; rintro e w11 ⟨rfl, hb11⟩; rw [HSX.out]; have HW9 := Lib.hid (bel_step HW10.out hb11); clear hb11
          go_wp2_with fail
          refine hK.out _ _ ?hsc8 (fun hHeld => ?_)
          case hsc8 => exact gb_ro (gb_step HGB.out HW9.out)
          clear hK K
          (try simp only [Act.put, List.setIfInBounds_toArray, List.set_cons_zero, List.set_cons_succ])
          refine wpAnyH_take (i := 9) (oi := ?_) (v := ?_) ?hic9 (by kernel_rfl) ?hfc9 ?hrc9 ?hQc9 ?hyc9 (by assumption) ?restc9
          case hic9 => (simp only [List.getElem?_toArray, List.getElem?_cons_zero, List.getElem?_cons_succ]; rfl)
          case hfc9 => kernel_rfl
          case hrc9 => kernel_rfl
          case hyc9 => (refine Or.inl ⟨by rfl, ?_⟩; intro wS hSw; (try dsimp only at hSw); go_simp; (try with_reducible rfl))
          case hQc9 => exact fun _ _ _ h => h
          (try simp only [Act.put, List.setIfInBounds_toArray, List.set_cons_zero, List.set_cons_succ])
          refine wpAnyH_take (i := 10) (oi := ?_) (v := ?_) ?hic10 (by kernel_rfl) ?hfc10 ?hrc10 ?hQc10 ?hyc10 (by assumption) ?restc10
          case hic10 => (simp only [List.getElem?_toArray, List.getElem?_cons_zero, List.getElem?_cons_succ]; rfl)
          case hfc10 => kernel_rfl
          case hrc10 => kernel_rfl
          case hyc10 => (refine Or.inl ⟨by rfl, ?_⟩; intro wS hSw; (try dsimp only at hSw); go_simp; (try with_reducible rfl))
          case hQc10 => exact fun _ _ _ h => h
          (try simp only [Act.put, List.setIfInBounds_toArray, List.set_cons_zero, List.set_cons_succ])
          refine wpAnyH_take (i := 11) (oi := ?_) (v := ?_) ?hic11 (by kernel_rfl) ?hfc11 ?hrc11 ?hQc11 ?hyc11 (by assumption) ?restc11
          case hic11 => (simp only [List.getElem?_toArray, List.getElem?_cons_zero, List.getElem?_cons_succ]; rfl)
          case hfc11 => kernel_rfl
          case hrc11 => kernel_rfl
          case hyc11 => (refine Or.inl ⟨by rfl, ?_⟩; intro wS hSw; (try dsimp only at hSw); go_simp; (try with_reducible rfl))
          case hQc11 => exact fun _ _ _ h => h
          (try simp only [Act.put, List.setIfInBounds_toArray, List.set_cons_zero, List.set_cons_succ])
          refine wpAnyH_take (i := 12) (oi := ?_) (v := ?_) ?hic12 (by kernel_rfl) ?hfc12 ?hrc12 ?hQc12 ?hyc12 (by assumption) ?restc12
          case hic12 => (simp only [List.getElem?_toArray, List.getElem?_cons_zero, List.getElem?_cons_succ]; rfl)
          case hfc12 => kernel_rfl
          case hrc12 => kernel_rfl
          case hyc12 => (refine Or.inl ⟨by rfl, ?_⟩; intro wS hSw; (try dsimp only at hSw); go_simp; (try with_reducible rfl))
          case hQc12 => exact fun _ _ _ h => h
          (try simp only [Act.put, List.setIfInBounds_toArray, List.set_cons_zero, List.set_cons_succ])
          refine wpAnyH_done (by kernel_rfl) ?_ _
          have hgb := gb_step HGB.out HW9.out
          have ct := cs_step HT.out.2.1 HW9.out
          have cv := cs_step HT.out.2.2.1 HW9.out
          have hrt := repS_step HW9.out HT.out.2.2.2.1
          have hrv := repS_step HW9.out HT.out.2.2.2.2.1
          have HRQ := Lib.hid (repS_step HW9.out HT.out.2.2.2.2.2)
          obtain ⟨t0, t1, t2, t3, t4⟩ := ct
          obtain ⟨v0, v1, v2, v3, v4⟩ := cv
          obtain ⟨s0, s1, s2, s3, s4⟩ := hgb.1.1
          have sf := hgb.1.2.2
          have sl := cell_lt s0
          have HRT := Lib.hid (repS_rep _ _ _ hrt)
          have HRV := Lib.hid (repS_rep _ _ _ hrv)
          have HGN := Lib.hid hgb
          clear hrt hrv hgb HT HW9 HD9 HGB HST HSZ HSX HZ hHeld
          go_wp2_with fail
          go_at_call 13; refine (same_any 2 _ _ (nilT 1) _ HRT.out (nil_any 1 _)).mono ?_; rintro e w12 ⟨rfl, hb12⟩
          replace v0 := cell_keep hb12 v0
          replace v1 := cell_keep hb12 v1
          replace v2 := cell_keep hb12 v2
          replace v3 := cell_keep hb12 v3
          replace v4 := cell_keep hb12 v4
          have HB12 := Lib.hid hb12
          clear hb12 t0 t1 t2 t3 t4 s0 s1 s2 s3 s4 sf sl HRT
          go_wp2_with fail
          go_at_call 13; refine (same_any 1 _ _ (nilT 0) _ (rep_keep HB12.out _ _ _ HRV.out) (nil_any 0 _)).mono ?_; rintro e w13 ⟨rfl, hb13⟩
          have HB13 := Lib.hid (bel_step HB12.out hb13)
          clear hb13 v0 v1 v2 v3 v4 HRV HB12
          go_wp2
          go_roundw
          case rel => exact ⟨i + 1, k, qs, ds, by omega, by go_num, by omega, HKZ0.out, gb_step HGN.out HB13.out, repS_step HB13.out HRQ.out⟩
          case measure => simp [intOf]; omega
    · have hilt : ¬ (i : Int) < (m : Int) := by omega
      have HRG := Lib.hid (qright_any 0 _ _ _ (repS_rep _ _ _ HRS.out) (uni_ok (many_uni hs k) (by rw [many_len]; exact hk32) (by rw [many_len]; exact HKZ.out)))
      have HE := Lib.hid HGB.out.1.2.1
      obtain ⟨x0, x1, x2, x3, x4⟩ := HGB.out.1.1
      clear HGB HRS HKZ
      go_wp2_with (go_at_call 14; refine HRG.out.mono ?_; rintro e w9 ⟨rfl, hb9⟩; have HB9 := Lib.hid (bel_step HE.out hb9); clear hb9)
      go_ret
      exact ⟨rfl, HB9.out⟩
end Num
end Go.Proofs.Ytodjnhhnjncgdaa
