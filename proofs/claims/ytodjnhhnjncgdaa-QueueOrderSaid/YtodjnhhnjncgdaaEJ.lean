/-
  The example of chapter 11; what stands behind a Do of an Int.
-/
import Derived.Test.YtodjnhhnjncgdaaEI
import Derived.Test.YtodjnhhnjncgdaaVList
import Derived.Deep.RegionHeld3
import Derived.RegionTactic
import Derived.Deep.DeepCutAuto
namespace Go.Proofs.Ytodjnhhnjncgdaa
open Go.RowKit
namespace Num
open Ints
set_option linter.unusedSimpArgs false
set_option linter.unusedVariables false
/-- What stands behind a Do: the state's box, the answer's box. -/
def PutQ (w wr : World) (sb : Nat) (qs : Option Addr) (ms ds : Nat) (TT : VT 2) (UU : VT 1) (z : Int) (sA sB sE : Value) (wx : World) : Prop := ∃ (gA gB : Nat) (Kt It : Int) (Ft : Nat) (Zt : ByteArray) (qt : Option Addr) (mt dt : Nat) (Kv Iv : Int) (Fv : Nat) (Zv : ByteArray) (qv : Option Addr) (mv dv : Nat), sA = .pointer (some ⟨gA, 0, none⟩) ∧ sB = .pointer (some ⟨gB, 0, none⟩) ∧ sE = .int .i64 z ∧ CS wx gA (.int .i64 Kt) (.int .i64 It) (.float .f64 Ft) (.string Zt) (.slice qt mt dt) ∧ CS wx gB (.int .i64 Kv) (.int .i64 Iv) (.float .f64 Fv) (.string Zv) (.slice qv mv dv) ∧ FB w sb qs ms ds wx ∧ Below wr.heap.size wr wx ∧ RepS (fun b => wr.heap.size ≤ b ∧ b ≠ gA ∧ b ≠ gB) wx 2 (.agg #[.int .i64 Kt, .int .i64 It, .float .f64 Ft, .string Zt, .slice qt mt dt]) (TT) ∧ RepS (fun b => wr.heap.size ≤ b ∧ b ≠ gA ∧ b ≠ gB) wx 1 (.agg #[.int .i64 Kv, .int .i64 Iv, .float .f64 Fv, .string Zv, .slice qv mv dv]) (UU)
set_option maxRecDepth 100000 in
set_option maxHeartbeats 4000000 in
theorem known11 (w : World) : Calls Try.prog 7 #[] w fun e w' => e = .returned (.bool true) ∧ Below w.heap.size w w' := by
  go_enter Try.func7, Try.ntmps7
  go_upto_region 2 with (first
    | (go_at_call 17; refine (list_ref_any _ _ _ _).mono ?_; rintro e w1 ⟨rfl, hb1⟩; have HB1 := Lib.hid hb1; clear hb1)
    | (go_at_call 18; refine (int_ref_any _ _).mono ?_; rintro e w3 ⟨rfl, hb3⟩; have HB3 := Lib.hid (bel_step HB1.out hb3); clear hb3)
    | (go_at_call 11; refine (push_I (X := []) (x := 7) (by decide) (repS_rep _ _ _ (repS_nilQ (fun _ => True) _)) (show L1 w3.heap.size 7 _ from l1_new rfl (by decide))).mono ?_; rintro e w4 ⟨t, v, rfl, hb4, ht, hv⟩; obtain ⟨Ks, Is, Fs, Ss, qs, ms, ds, rfl, _⟩ := repS_shape ht; obtain ⟨rfl, rfl, rfl, rfl⟩ := rep_q4 (repS_rep _ _ _ ht); obtain ⟨qn, dn, rfl⟩ := num_shape hv
       have hal := bel_alloc (bel_alloc (Below.refl w4.heap.size w4) (.cells #[.int .i64 4, .int .i64 0, .float .f64 0, .string ⟨#[]⟩, .slice qs ms ds] 27)) (.cells #[.int .i64 1, .int .i64 1, .float .f64 0, .string ⟨#[]⟩, .slice qn 0 dn] 27)
       have HS := Lib.hid (show (FB w w4.heap.size qs ms ds ((w4.alloc (.cells #[.int .i64 4, .int .i64 0, .float .f64 0, .string ⟨#[]⟩, .slice qs ms ds] 27)).alloc (.cells #[.int .i64 1, .int .i64 1, .float .f64 0, .string ⟨#[]⟩, .slice qn 0 dn] 27))) ∧ ((w4.alloc (.cells #[.int .i64 4, .int .i64 0, .float .f64 0, .string ⟨#[]⟩, .slice qs ms ds] 27)).alloc (.cells #[.int .i64 1, .int .i64 1, .float .f64 0, .string ⟨#[]⟩, .slice qn 0 dn] 27)).cell? ⟨w4.heap.size + 1, 1, none⟩ = some (.int .i64 1) ∧ Rep ((w4.alloc (.cells #[.int .i64 4, .int .i64 0, .float .f64 0, .string ⟨#[]⟩, .slice qs ms ds] 27)).alloc (.cells #[.int .i64 1, .int .i64 1, .float .f64 0, .string ⟨#[]⟩, .slice qn 0 dn] 27)) 2 (.agg #[.int .i64 4, .int .i64 0, .float .f64 0, .string ⟨#[]⟩, .slice qs ms ds]) (intsQ [7]) from
         ⟨⟨cs_alloc (cs_new rfl) _, bel_step (bel_step (bel_alloc HB3.out _) hb4) hal, fun o => row_frz (row_alloc_step (row_alloc w4 #[.int .i64 4, .int .i64 0, .float .f64 0, .string ⟨#[]⟩, .slice qs ms ds] 27) _) o⟩, (by have h := row_alloc (w4.alloc (.cells #[.int .i64 4, .int .i64 0, .float .f64 0, .string ⟨#[]⟩, .slice qs ms ds] 27)) #[.int .i64 1, .int .i64 1, .float .f64 0, .string ⟨#[]⟩, .slice qn 0 dn] 27; rw [World.size_alloc] at h; exact row_cell h 1), rep_keep hal _ _ _ (repS_rep _ _ _ ht)⟩)
       have HWS := Lib.hid (Nat.le_trans (bel_alloc HB3.out (.cells #[.int .i64 1, .int .i64 7, .float .f64 0, .string ⟨#[]⟩, .slice none 0 0] 27)).size hb4.size)
       clear hb4 ht hv hal HB1 HB3))
  revert HS HWS
  generalize (w4.alloc (.cells #[.int .i64 4, .int .i64 0, .float .f64 0, .string ⟨#[]⟩, .slice qs ms ds] 27)).alloc (.cells #[.int .i64 1, .int .i64 1, .float .f64 0, .string ⟨#[]⟩, .slice qn 0 dn] 27) = W
  generalize w4.heap.size + 1 = nb
  generalize w4.heap.size = sb
  intro HS HWS
  obtain ⟨⟨⟨x0, x1, x2, x3, x4⟩, _⟩, _⟩ := HS.out
  have xl := cell_lt x0
  go_upto_region 3 with (first
    | (go_at_call 11; refine (pop_I (X := [7]) (by decide) HS.out.2.2).mono ?_; rintro e w5 ⟨t, v, rfl, hb5, ht, hv⟩; obtain ⟨Kt, It, Ft, St, qt, mt, dt, rfl, _⟩ := repS_shape ht; obtain ⟨qp, dp, rfl⟩ := num_shape hv
       have hal := bel_step hb5 (bel_alloc (bel_alloc (Below.refl w5.heap.size w5) (.cells #[.int .i64 Kt, .int .i64 It, .float .f64 Ft, .string St, .slice qt mt dt] 27)) (.cells #[.int .i64 1, .int .i64 7, .float .f64 0, .string ⟨#[]⟩, .slice qp 0 dp] 27))
       have HT := Lib.hid (show (FB w sb qs ms ds ((w5.alloc (.cells #[.int .i64 Kt, .int .i64 It, .float .f64 Ft, .string St, .slice qt mt dt] 27)).alloc (.cells #[.int .i64 1, .int .i64 7, .float .f64 0, .string ⟨#[]⟩, .slice qp 0 dp] 27))) ∧ ((w5.alloc (.cells #[.int .i64 Kt, .int .i64 It, .float .f64 Ft, .string St, .slice qt mt dt] 27)).alloc (.cells #[.int .i64 1, .int .i64 7, .float .f64 0, .string ⟨#[]⟩, .slice qp 0 dp] 27)).cell? ⟨nb, 1, none⟩ = some (.int .i64 1) ∧ Rep ((w5.alloc (.cells #[.int .i64 Kt, .int .i64 It, .float .f64 Ft, .string St, .slice qt mt dt] 27)).alloc (.cells #[.int .i64 1, .int .i64 7, .float .f64 0, .string ⟨#[]⟩, .slice qp 0 dp] 27)) 2 (.agg #[.int .i64 4, .int .i64 0, .float .f64 0, .string ⟨#[]⟩, .slice qs ms ds]) (intsQ [7]) ∧ ((w5.alloc (.cells #[.int .i64 Kt, .int .i64 It, .float .f64 Ft, .string St, .slice qt mt dt] 27)).alloc (.cells #[.int .i64 1, .int .i64 7, .float .f64 0, .string ⟨#[]⟩, .slice qp 0 dp] 27)).cell? ⟨w5.heap.size + 1, 1, none⟩ = some (.int .i64 7) from
         ⟨fb_step HS.out.1 hal, cell_keep hal HS.out.2.1, rep_keep hal _ _ _ HS.out.2.2, (by have h := row_alloc (w5.alloc (.cells #[.int .i64 Kt, .int .i64 It, .float .f64 Ft, .string St, .slice qt mt dt] 27)) #[.int .i64 1, .int .i64 7, .float .f64 0, .string ⟨#[]⟩, .slice qp 0 dp] 27; rw [World.size_alloc] at h; exact row_cell h 1)⟩)
       clear hb5 ht hv hal HS x0 x1 x2 x3 x4 xl))
  revert HT
  generalize (w5.alloc (.cells #[.int .i64 Kt, .int .i64 It, .float .f64 Ft, .string St, .slice qt mt dt] 27)).alloc (.cells #[.int .i64 1, .int .i64 7, .float .f64 0, .string ⟨#[]⟩, .slice qp 0 dp] 27) = wr
  generalize w5.heap.size + 1 = pb
  generalize w5.heap.size = tb
  intro HT
  have HFB := Lib.hid HT.out.1
  have HSTr := Lib.hid HT.out.2.2.1
  obtain ⟨z, TT, UU, hz, HDO⟩ : ∃ (z : Int) (TT : VT 2) (UU : VT 1), z = 34 ∧ Hid (∀ (W : World) (g : Nat), Rep W 2 (.agg #[.int .i64 4, .int .i64 0, .float .f64 0, .string ⟨#[]⟩, .slice qs ms ds]) (intsQ [7]) → L1 g 1 W → Calls Try.prog 11 #[.agg #[.int .i64 4, .int .i64 0, .float .f64 0, .string ⟨#[]⟩, .slice qs ms ds], .string { data := #[110, 116, 104] }, .slice (some ⟨g, 0, none⟩) 1 1] W fun e w' => DoQ W 2 1 TT UU z e w') := ⟨34, _, _, rfl, Lib.hid (fun W g hs hr => none_I (by decide) (Or.inr (by decide)) hs hr)⟩
  have HZ := Lib.hid hz
  clear hz
  go_cut [7, 8, 9] (fun s7 s8 s9 wx => PutQ w wr sb qs ms ds TT UU z s7 s8 s9 wx)
  case first =>
    have hsbr : sb < wr.heap.size := cs_lt HFB.out.1
    have hwr : w.heap.size ≤ wr.heap.size := HFB.out.2.1.size
    refine wp_region_held_drew (S := (fun z => z.cell? ⟨sb, 0, none⟩ = some (.int .i64 4) ∧ z.cell? ⟨sb, 1, none⟩ = some (.int .i64 0) ∧ z.cell? ⟨sb, 2, none⟩ = some (.float .f64 0) ∧ z.cell? ⟨sb, 3, none⟩ = some (.string ⟨#[]⟩) ∧ z.cell? ⟨sb, 4, none⟩ = some (.slice qs ms ds))) (by kernel_rfl) ?_ (fun hHeld => ?_)
    · exact (fb_drew HFB.out).1
    have HDW := Lib.hid (show FB w sb qs ms ds wr.drew ∧ Below wr.heap.size wr wr.drew from ⟨fb_drew HFB.out, Below.drew (Below.refl _ _)⟩)
    revert HDW hHeld
    generalize wr.drew = Wd
    intro hHeld HDW
    have hq := HDW.out.1
    have hbd := HDW.out.2
    refine wpAnyH_take (i := 0) (oi := ?_) (v := ?_) ?hik0 (by kernel_rfl) ?hfk0 ?hrk0 ?hQk0 ?hyk0 (by assumption) ?restk0
    case hik0 => (simp only [List.getElem?_toArray, List.getElem?_cons_zero, List.getElem?_cons_succ]; rfl)
    case hfk0 => kernel_rfl
    case hrk0 => kernel_rfl
    case hyk0 => (refine Or.inl ⟨by rfl, ?_⟩; intro wS hSw; (try dsimp only at hSw); go_simp; (try with_reducible rfl))
    case hQk0 => exact fun _ _ _ h => h
    (try simp only [Act.put, List.setIfInBounds_toArray, List.set_cons_zero, List.set_cons_succ])
    refine any_have 3 [8, 9, 1, 2, 3, 4, 5, 6, 7] (fun a a' w' => ∃ (gA gB gE : Nat), ∃ (Kt It : Int) (Ft : Nat) (Zt : ByteArray) (qt : Option Addr) (mt dt : Nat) (Kv Iv : Int) (Fv : Nat) (Zv : ByteArray) (qv : Option Addr) (mv dv : Nat), a' = (((((((((a.put (some 7) (.pointer (some ⟨gA, 0, none⟩))).put (some 8) (.pointer (some ⟨gB, 0, none⟩))).put (some 26) (.agg #[.int .i64 1, .int .i64 1, .float .f64 0, .string ⟨#[]⟩, .slice none 0 0])).put (some 27) (.slice (some ⟨gE, 0, none⟩) 1 1)).put (some 28) (.tuple #[.agg #[.int .i64 Kt, .int .i64 It, .float .f64 Ft, .string Zt, .slice qt mt dt], .agg #[.int .i64 Kv, .int .i64 Iv, .float .f64 Fv, .string Zv, .slice qv mv dv], .int .i64 z])).put (some 24) (.tuple #[.agg #[.int .i64 Kt, .int .i64 It, .float .f64 Ft, .string Zt, .slice qt mt dt], .agg #[.int .i64 Kv, .int .i64 Iv, .float .f64 Fv, .string Zv, .slice qv mv dv], .int .i64 z])).put (some 29) (.agg #[.int .i64 Kt, .int .i64 It, .float .f64 Ft, .string Zt, .slice qt mt dt])).put (some 30) (.agg #[.int .i64 Kv, .int .i64 Iv, .float .f64 Fv, .string Zv, .slice qv mv dv])).put (some 31) (.int .i64 z)) ∧ FB w sb qs ms ds w' ∧ Below wr.heap.size wr w' ∧ SBX w' gA (.int .i64 0) (.int .i64 0) (.float .f64 0) (.string ⟨#[]⟩) (.slice none 0 0) ∧ wr.heap.size ≤ gA ∧ SBX w' gB (.int .i64 0) (.int .i64 0) (.float .f64 0) (.string ⟨#[]⟩) (.slice none 0 0) ∧ wr.heap.size ≤ gB ∧ gA ≠ gB ∧ RepS (fun b => wr.heap.size ≤ b ∧ b ≠ gA ∧ b ≠ gB) w' 2 (.agg #[.int .i64 Kt, .int .i64 It, .float .f64 Ft, .string Zt, .slice qt mt dt]) (TT) ∧ RepS (fun b => wr.heap.size ≤ b ∧ b ≠ gA ∧ b ≠ gB) w' 1 (.agg #[.int .i64 Kv, .int .i64 Iv, .float .f64 Fv, .string Zv, .slice qv mv dv]) (UU)) ?phK113km (fun hK113 => ?_)
    case phK113km =>
      intro a' w' hst hHeld
      obtain ⟨gA, gB, gE, Kt, It, Ft, Zt, qt, mt, dt, Kv, Iv, Fv, Zv, qv, mv, dv, rfl, hq, hbd, hsA, hgA, hsB, hgB, hne, ht, hv⟩ := hst
      (try simp only [Act.put, List.setIfInBounds_toArray, List.set_cons_zero, List.set_cons_succ])
      have hcA := hsA.1; have hcB := hsB.1
      refine wpAnyH_ready (rs := [10]) (by kernel_rfl) (by simp) ?_
      refine AllReadyH.cons (o := ?_) ?ho10hK113km ?hst10hK113km AllReadyH.nil
      case ho10hK113km => (simp only [List.getElem?_toArray, List.getElem?_cons_zero, List.getElem?_cons_succ]; rfl)
      intro K hK
      have bb0 := hsA.1.1; have bb1 := hsA.1.2.1; have bb2 := hsA.1.2.2.1; have bb3 := hsA.1.2.2.2.1; have bb4 := hsA.1.2.2.2.2; have bbf := hsA.2; have bbl := cell_lt bb0; go_simp
      have hqA : FB w sb qs ms ds (((((w'.setCell ⟨gA, 0, none⟩ (.int .i64 Kt)).setCell ⟨gA, 1, none⟩ (.int .i64 It)).setCell ⟨gA, 2, none⟩ (.float .f64 Ft)).setCell ⟨gA, 3, none⟩ (.string Zt)).setCell ⟨gA, 4, none⟩ (.slice qt mt dt)) := fb_set hq (by have h := hgA; omega) (by have h := hgA; omega)
      refine hK.out _ _ ?hs10hK113km (fun hHeld => ?_)
      case hs10hK113km => exact (hqA).1
      clear hK K bb0 bb1 bb2 bb3 bb4 bbf bbl
      (try simp only [Act.put, List.setIfInBounds_toArray, List.set_cons_zero, List.set_cons_succ])
      refine wpAnyH_ready (rs := [11]) (by kernel_rfl) (by simp) ?_
      refine AllReadyH.cons (o := ?_) ?ho11hK113km ?hst11hK113km AllReadyH.nil
      case ho11hK113km => (simp only [List.getElem?_toArray, List.getElem?_cons_zero, List.getElem?_cons_succ]; rfl)
      intro K hK
      have bb0 := hsB.1.1; have bb1 := hsB.1.2.1; have bb2 := hsB.1.2.2.1; have bb3 := hsB.1.2.2.2.1; have bb4 := hsB.1.2.2.2.2; have bbf := hsB.2; have bbl := cell_lt bb0; go_simp
      have hqB : FB w sb qs ms ds ((((((((((w'.setCell ⟨gA, 0, none⟩ (.int .i64 Kt)).setCell ⟨gA, 1, none⟩ (.int .i64 It)).setCell ⟨gA, 2, none⟩ (.float .f64 Ft)).setCell ⟨gA, 3, none⟩ (.string Zt)).setCell ⟨gA, 4, none⟩ (.slice qt mt dt)).setCell ⟨gB, 0, none⟩ (.int .i64 Kv)).setCell ⟨gB, 1, none⟩ (.int .i64 Iv)).setCell ⟨gB, 2, none⟩ (.float .f64 Fv)).setCell ⟨gB, 3, none⟩ (.string Zv)).setCell ⟨gB, 4, none⟩ (.slice qv mv dv)) := fb_set hqA (by have h := hgB; omega) (by have h := hgB; omega)
      refine hK.out _ _ ?hs11hK113km (fun hHeld => ?_)
      case hs11hK113km => exact (hqB).1
      clear hK K bb0 bb1 bb2 bb3 bb4 bbf bbl
      (try simp only [Act.put, List.setIfInBounds_toArray, List.set_cons_zero, List.set_cons_succ])
      refine wpAnyH_take (i := 12) (oi := ?_) (v := ?_) ?hihK113km12 (by kernel_rfl) ?hfhK113km12 ?hrhK113km12 ?hQhK113km12 ?hyhK113km12 (by assumption) ?resthK113km12
      case hihK113km12 => (simp only [List.getElem?_toArray, List.getElem?_cons_zero, List.getElem?_cons_succ]; rfl)
      case hfhK113km12 => kernel_rfl
      case hrhK113km12 => kernel_rfl
      case hyhK113km12 => (refine Or.inl ⟨by rfl, ?_⟩; intro wS hSw; (try dsimp only at hSw); go_simp; (try with_reducible rfl))
      case hQhK113km12 => exact fun _ _ _ h => h
      (try simp only [Act.put, List.setIfInBounds_toArray, List.set_cons_zero, List.set_cons_succ])
      refine wpAnyH_done (by kernel_rfl) ?_ _
      have HGF := Lib.hid (show CS ((((((((((w'.setCell ⟨gA, 0, none⟩ (.int .i64 Kt)).setCell ⟨gA, 1, none⟩ (.int .i64 It)).setCell ⟨gA, 2, none⟩ (.float .f64 Ft)).setCell ⟨gA, 3, none⟩ (.string Zt)).setCell ⟨gA, 4, none⟩ (.slice qt mt dt)).setCell ⟨gB, 0, none⟩ (.int .i64 Kv)).setCell ⟨gB, 1, none⟩ (.int .i64 Iv)).setCell ⟨gB, 2, none⟩ (.float .f64 Fv)).setCell ⟨gB, 3, none⟩ (.string Zv)).setCell ⟨gB, 4, none⟩ (.slice qv mv dv)) gA (.int .i64 Kt) (.int .i64 It) (.float .f64 Ft) (.string Zt) (.slice qt mt dt) ∧ CS ((((((((((w'.setCell ⟨gA, 0, none⟩ (.int .i64 Kt)).setCell ⟨gA, 1, none⟩ (.int .i64 It)).setCell ⟨gA, 2, none⟩ (.float .f64 Ft)).setCell ⟨gA, 3, none⟩ (.string Zt)).setCell ⟨gA, 4, none⟩ (.slice qt mt dt)).setCell ⟨gB, 0, none⟩ (.int .i64 Kv)).setCell ⟨gB, 1, none⟩ (.int .i64 Iv)).setCell ⟨gB, 2, none⟩ (.float .f64 Fv)).setCell ⟨gB, 3, none⟩ (.string Zv)).setCell ⟨gB, 4, none⟩ (.slice qv mv dv)) gB (.int .i64 Kv) (.int .i64 Iv) (.float .f64 Fv) (.string Zv) (.slice qv mv dv) ∧ FB w sb qs ms ds ((((((((((w'.setCell ⟨gA, 0, none⟩ (.int .i64 Kt)).setCell ⟨gA, 1, none⟩ (.int .i64 It)).setCell ⟨gA, 2, none⟩ (.float .f64 Ft)).setCell ⟨gA, 3, none⟩ (.string Zt)).setCell ⟨gA, 4, none⟩ (.slice qt mt dt)).setCell ⟨gB, 0, none⟩ (.int .i64 Kv)).setCell ⟨gB, 1, none⟩ (.int .i64 Iv)).setCell ⟨gB, 2, none⟩ (.float .f64 Fv)).setCell ⟨gB, 3, none⟩ (.string Zv)).setCell ⟨gB, 4, none⟩ (.slice qv mv dv)) ∧ Below wr.heap.size wr ((((((((((w'.setCell ⟨gA, 0, none⟩ (.int .i64 Kt)).setCell ⟨gA, 1, none⟩ (.int .i64 It)).setCell ⟨gA, 2, none⟩ (.float .f64 Ft)).setCell ⟨gA, 3, none⟩ (.string Zt)).setCell ⟨gA, 4, none⟩ (.slice qt mt dt)).setCell ⟨gB, 0, none⟩ (.int .i64 Kv)).setCell ⟨gB, 1, none⟩ (.int .i64 Iv)).setCell ⟨gB, 2, none⟩ (.float .f64 Fv)).setCell ⟨gB, 3, none⟩ (.string Zv)).setCell ⟨gB, 4, none⟩ (.slice qv mv dv)) ∧ RepS (fun b => wr.heap.size ≤ b ∧ b ≠ gA ∧ b ≠ gB) ((((((((((w'.setCell ⟨gA, 0, none⟩ (.int .i64 Kt)).setCell ⟨gA, 1, none⟩ (.int .i64 It)).setCell ⟨gA, 2, none⟩ (.float .f64 Ft)).setCell ⟨gA, 3, none⟩ (.string Zt)).setCell ⟨gA, 4, none⟩ (.slice qt mt dt)).setCell ⟨gB, 0, none⟩ (.int .i64 Kv)).setCell ⟨gB, 1, none⟩ (.int .i64 Iv)).setCell ⟨gB, 2, none⟩ (.float .f64 Fv)).setCell ⟨gB, 3, none⟩ (.string Zv)).setCell ⟨gB, 4, none⟩ (.slice qv mv dv)) 2 (.agg #[.int .i64 Kt, .int .i64 It, .float .f64 Ft, .string Zt, .slice qt mt dt]) (TT) ∧ RepS (fun b => wr.heap.size ≤ b ∧ b ≠ gA ∧ b ≠ gB) ((((((((((w'.setCell ⟨gA, 0, none⟩ (.int .i64 Kt)).setCell ⟨gA, 1, none⟩ (.int .i64 It)).setCell ⟨gA, 2, none⟩ (.float .f64 Ft)).setCell ⟨gA, 3, none⟩ (.string Zt)).setCell ⟨gA, 4, none⟩ (.slice qt mt dt)).setCell ⟨gB, 0, none⟩ (.int .i64 Kv)).setCell ⟨gB, 1, none⟩ (.int .i64 Iv)).setCell ⟨gB, 2, none⟩ (.float .f64 Fv)).setCell ⟨gB, 3, none⟩ (.string Zv)).setCell ⟨gB, 4, none⟩ (.slice qv mv dv)) 1 (.agg #[.int .i64 Kv, .int .i64 Iv, .float .f64 Fv, .string Zv, .slice qv mv dv]) (UU) from ⟨cs_other (cs_set5 hsA.1) hne, cs_set5 (cs_other hsB.1 hne.symm), hqB, bel_set5 (bel_set5 hbd hgA) hgB, repS_set (repS_set ht (fun b hb => hb.2.1)) (fun b hb => hb.2.2), repS_set (repS_set hv (fun b hb => hb.2.1)) (fun b hb => hb.2.2)⟩)
      clear hq hqA hqB hbd hsA hsB hcA hcB ht hv hHeld
      revert HGF
      generalize ((((((((((w'.setCell ⟨gA, 0, none⟩ (.int .i64 Kt)).setCell ⟨gA, 1, none⟩ (.int .i64 It)).setCell ⟨gA, 2, none⟩ (.float .f64 Ft)).setCell ⟨gA, 3, none⟩ (.string Zt)).setCell ⟨gA, 4, none⟩ (.slice qt mt dt)).setCell ⟨gB, 0, none⟩ (.int .i64 Kv)).setCell ⟨gB, 1, none⟩ (.int .i64 Iv)).setCell ⟨gB, 2, none⟩ (.float .f64 Fv)).setCell ⟨gB, 3, none⟩ (.string Zv)).setCell ⟨gB, 4, none⟩ (.slice qv mv dv)) = Wg
      intro HGF
      go_wp2_with fail
      go_meet
      exact ⟨_, _, Kt, It, Ft, Zt, qt, mt, dt, Kv, Iv, Fv, Zv, qv, mv, dv, rfl, rfl, rfl, HGF.out⟩
    refine any_have 4 [8, 1, 2, 3, 4, 5, 6, 7] (fun a a' w' => ∃ (gA gE : Nat), ∃ (Kt It : Int) (Ft : Nat) (Zt : ByteArray) (qt : Option Addr) (mt dt : Nat) (Kv Iv : Int) (Fv : Nat) (Zv : ByteArray) (qv : Option Addr) (mv dv : Nat), a' = ((((((((a.put (some 7) (.pointer (some ⟨gA, 0, none⟩))).put (some 26) (.agg #[.int .i64 1, .int .i64 1, .float .f64 0, .string ⟨#[]⟩, .slice none 0 0])).put (some 27) (.slice (some ⟨gE, 0, none⟩) 1 1)).put (some 28) (.tuple #[.agg #[.int .i64 Kt, .int .i64 It, .float .f64 Ft, .string Zt, .slice qt mt dt], .agg #[.int .i64 Kv, .int .i64 Iv, .float .f64 Fv, .string Zv, .slice qv mv dv], .int .i64 z])).put (some 24) (.tuple #[.agg #[.int .i64 Kt, .int .i64 It, .float .f64 Ft, .string Zt, .slice qt mt dt], .agg #[.int .i64 Kv, .int .i64 Iv, .float .f64 Fv, .string Zv, .slice qv mv dv], .int .i64 z])).put (some 29) (.agg #[.int .i64 Kt, .int .i64 It, .float .f64 Ft, .string Zt, .slice qt mt dt])).put (some 30) (.agg #[.int .i64 Kv, .int .i64 Iv, .float .f64 Fv, .string Zv, .slice qv mv dv])).put (some 31) (.int .i64 z)) ∧ FB w sb qs ms ds w' ∧ Below wr.heap.size wr w' ∧ SBX w' gA (.int .i64 0) (.int .i64 0) (.float .f64 0) (.string ⟨#[]⟩) (.slice none 0 0) ∧ wr.heap.size ≤ gA ∧ RepS (fun b => wr.heap.size ≤ b ∧ b ≠ gA) w' 2 (.agg #[.int .i64 Kt, .int .i64 It, .float .f64 Ft, .string Zt, .slice qt mt dt]) (TT) ∧ RepS (fun b => wr.heap.size ≤ b ∧ b ≠ gA) w' 1 (.agg #[.int .i64 Kv, .int .i64 Iv, .float .f64 Fv, .string Zv, .slice qv mv dv]) (UU)) ?phK103km (fun hK103 => ?_)
    case phK103km =>
      intro a' w' hst hHeld
      obtain ⟨gA, gE, Kt, It, Ft, Zt, qt, mt, dt, Kv, Iv, Fv, Zv, qv, mv, dv, rfl, hq, hbd, hsA, hgA, ht, hv⟩ := hst
      (try simp only [Act.put, List.setIfInBounds_toArray, List.set_cons_zero, List.set_cons_succ])
      refine wpAnyH_ready (rs := [9]) (by kernel_rfl) (by simp) ?_
      refine AllReadyH.cons (o := ?_) ?hoBhK103km ?hstBhK103km AllReadyH.nil
      case hoBhK103km => (simp only [List.getElem?_toArray, List.getElem?_cons_zero, List.getElem?_cons_succ]; rfl)
      case hstBhK103km =>
        intro K hK
        go_simp
        refine hK.out _ _ ?hsBhK103km (fun hHeld => ?_)
        case hsBhK103km => exact ((fb_step hq (bel_alloc (Below.refl _ _) (.cells #[.int .i64 0, .int .i64 0, .float .f64 0, .string ⟨#[]⟩, .slice none 0 0] 27)))).1
        clear hK K
        (try simp only [Act.put, List.setIfInBounds_toArray, List.set_cons_zero, List.set_cons_succ])
        exact any_eq (by kernel_rfl) (by kernel_rfl) (hK113 _ _ ⟨gA, _, gE, Kt, It, Ft, Zt, qt, mt, dt, Kv, Iv, Fv, Zv, qv, mv, dv, rfl, (fb_step hq (bel_alloc (Below.refl _ _) (.cells #[.int .i64 0, .int .i64 0, .float .f64 0, .string ⟨#[]⟩, .slice none 0 0] 27))), (bel_step hbd (bel_alloc (Below.refl _ _) (.cells #[.int .i64 0, .int .i64 0, .float .f64 0, .string ⟨#[]⟩, .slice none 0 0] 27))), (sbx_step hsA (bel_alloc (Below.refl _ _) (.cells #[.int .i64 0, .int .i64 0, .float .f64 0, .string ⟨#[]⟩, .slice none 0 0] 27))), hgA, ⟨cs_new rfl, fun o => row_frz (row_alloc _ _ _) o⟩, hbd.size, (by have h := cs_lt hsA.1; omega), (repS_step (bel_alloc (Below.refl _ _) (.cells #[.int .i64 0, .int .i64 0, .float .f64 0, .string ⟨#[]⟩, .slice none 0 0] 27)) (repS_mono (fun b hb => ⟨hb.1.1, hb.1.2, Nat.ne_of_lt hb.2⟩) _ _ _ (repS_lt _ _ _ ht))), (repS_step (bel_alloc (Below.refl _ _) (.cells #[.int .i64 0, .int .i64 0, .float .f64 0, .string ⟨#[]⟩, .slice none 0 0] 27)) (repS_mono (fun b hb => ⟨hb.1.1, hb.1.2, Nat.ne_of_lt hb.2⟩) _ _ _ (repS_lt _ _ _ hv)))⟩ hHeld)
    refine any_have 4 [9, 1, 2, 3, 4, 5, 6, 7] (fun a a' w' => ∃ (gB gE : Nat), ∃ (Kt It : Int) (Ft : Nat) (Zt : ByteArray) (qt : Option Addr) (mt dt : Nat) (Kv Iv : Int) (Fv : Nat) (Zv : ByteArray) (qv : Option Addr) (mv dv : Nat), a' = ((((((((a.put (some 8) (.pointer (some ⟨gB, 0, none⟩))).put (some 26) (.agg #[.int .i64 1, .int .i64 1, .float .f64 0, .string ⟨#[]⟩, .slice none 0 0])).put (some 27) (.slice (some ⟨gE, 0, none⟩) 1 1)).put (some 28) (.tuple #[.agg #[.int .i64 Kt, .int .i64 It, .float .f64 Ft, .string Zt, .slice qt mt dt], .agg #[.int .i64 Kv, .int .i64 Iv, .float .f64 Fv, .string Zv, .slice qv mv dv], .int .i64 z])).put (some 24) (.tuple #[.agg #[.int .i64 Kt, .int .i64 It, .float .f64 Ft, .string Zt, .slice qt mt dt], .agg #[.int .i64 Kv, .int .i64 Iv, .float .f64 Fv, .string Zv, .slice qv mv dv], .int .i64 z])).put (some 29) (.agg #[.int .i64 Kt, .int .i64 It, .float .f64 Ft, .string Zt, .slice qt mt dt])).put (some 30) (.agg #[.int .i64 Kv, .int .i64 Iv, .float .f64 Fv, .string Zv, .slice qv mv dv])).put (some 31) (.int .i64 z)) ∧ FB w sb qs ms ds w' ∧ Below wr.heap.size wr w' ∧ SBX w' gB (.int .i64 0) (.int .i64 0) (.float .f64 0) (.string ⟨#[]⟩) (.slice none 0 0) ∧ wr.heap.size ≤ gB ∧ RepS (fun b => wr.heap.size ≤ b ∧ b ≠ gB) w' 2 (.agg #[.int .i64 Kt, .int .i64 It, .float .f64 Ft, .string Zt, .slice qt mt dt]) (TT) ∧ RepS (fun b => wr.heap.size ≤ b ∧ b ≠ gB) w' 1 (.agg #[.int .i64 Kv, .int .i64 Iv, .float .f64 Fv, .string Zv, .slice qv mv dv]) (UU)) ?phK013km (fun hK013 => ?_)
    case phK013km =>
      intro a' w' hst hHeld
      obtain ⟨gB, gE, Kt, It, Ft, Zt, qt, mt, dt, Kv, Iv, Fv, Zv, qv, mv, dv, rfl, hq, hbd, hsB, hgB, ht, hv⟩ := hst
      (try simp only [Act.put, List.setIfInBounds_toArray, List.set_cons_zero, List.set_cons_succ])
      refine wpAnyH_ready (rs := [8]) (by kernel_rfl) (by simp) ?_
      refine AllReadyH.cons (o := ?_) ?hoAhK013km ?hstAhK013km AllReadyH.nil
      case hoAhK013km => (simp only [List.getElem?_toArray, List.getElem?_cons_zero, List.getElem?_cons_succ]; rfl)
      case hstAhK013km =>
        intro K hK
        go_simp
        refine hK.out _ _ ?hsAhK013km (fun hHeld => ?_)
        case hsAhK013km => exact ((fb_step hq (bel_alloc (Below.refl _ _) (.cells #[.int .i64 0, .int .i64 0, .float .f64 0, .string ⟨#[]⟩, .slice none 0 0] 27)))).1
        clear hK K
        (try simp only [Act.put, List.setIfInBounds_toArray, List.set_cons_zero, List.set_cons_succ])
        exact any_eq (by kernel_rfl) (by kernel_rfl) (hK113 _ _ ⟨_, gB, gE, Kt, It, Ft, Zt, qt, mt, dt, Kv, Iv, Fv, Zv, qv, mv, dv, rfl, (fb_step hq (bel_alloc (Below.refl _ _) (.cells #[.int .i64 0, .int .i64 0, .float .f64 0, .string ⟨#[]⟩, .slice none 0 0] 27))), (bel_step hbd (bel_alloc (Below.refl _ _) (.cells #[.int .i64 0, .int .i64 0, .float .f64 0, .string ⟨#[]⟩, .slice none 0 0] 27))), ⟨cs_new rfl, fun o => row_frz (row_alloc _ _ _) o⟩, hbd.size, (sbx_step hsB (bel_alloc (Below.refl _ _) (.cells #[.int .i64 0, .int .i64 0, .float .f64 0, .string ⟨#[]⟩, .slice none 0 0] 27))), hgB, (by have h := cs_lt hsB.1; omega), (repS_step (bel_alloc (Below.refl _ _) (.cells #[.int .i64 0, .int .i64 0, .float .f64 0, .string ⟨#[]⟩, .slice none 0 0] 27)) (repS_mono (fun b hb => ⟨hb.1.1, Nat.ne_of_lt hb.2, hb.1.2⟩) _ _ _ (repS_lt _ _ _ ht))), (repS_step (bel_alloc (Below.refl _ _) (.cells #[.int .i64 0, .int .i64 0, .float .f64 0, .string ⟨#[]⟩, .slice none 0 0] 27)) (repS_mono (fun b hb => ⟨hb.1.1, Nat.ne_of_lt hb.2, hb.1.2⟩) _ _ _ (repS_lt _ _ _ hv)))⟩ hHeld)
    refine any_have 5 [1, 2, 3, 4, 5, 6, 7] (fun a a' w' => ∃ (gE : Nat), ∃ (Kt It : Int) (Ft : Nat) (Zt : ByteArray) (qt : Option Addr) (mt dt : Nat) (Kv Iv : Int) (Fv : Nat) (Zv : ByteArray) (qv : Option Addr) (mv dv : Nat), a' = (((((((a.put (some 26) (.agg #[.int .i64 1, .int .i64 1, .float .f64 0, .string ⟨#[]⟩, .slice none 0 0])).put (some 27) (.slice (some ⟨gE, 0, none⟩) 1 1)).put (some 28) (.tuple #[.agg #[.int .i64 Kt, .int .i64 It, .float .f64 Ft, .string Zt, .slice qt mt dt], .agg #[.int .i64 Kv, .int .i64 Iv, .float .f64 Fv, .string Zv, .slice qv mv dv], .int .i64 z])).put (some 24) (.tuple #[.agg #[.int .i64 Kt, .int .i64 It, .float .f64 Ft, .string Zt, .slice qt mt dt], .agg #[.int .i64 Kv, .int .i64 Iv, .float .f64 Fv, .string Zv, .slice qv mv dv], .int .i64 z])).put (some 29) (.agg #[.int .i64 Kt, .int .i64 It, .float .f64 Ft, .string Zt, .slice qt mt dt])).put (some 30) (.agg #[.int .i64 Kv, .int .i64 Iv, .float .f64 Fv, .string Zv, .slice qv mv dv])).put (some 31) (.int .i64 z)) ∧ FB w sb qs ms ds w' ∧ Below wr.heap.size wr w' ∧ RepS (fun b => wr.heap.size ≤ b) w' 2 (.agg #[.int .i64 Kt, .int .i64 It, .float .f64 Ft, .string Zt, .slice qt mt dt]) (TT) ∧ RepS (fun b => wr.heap.size ≤ b) w' 1 (.agg #[.int .i64 Kv, .int .i64 Iv, .float .f64 Fv, .string Zv, .slice qv mv dv]) (UU)) ?phK003km (fun hK003 => ?_)
    case phK003km =>
      intro a' w' hst hHeld
      obtain ⟨gE, Kt, It, Ft, Zt, qt, mt, dt, Kv, Iv, Fv, Zv, qv, mv, dv, rfl, hq, hbd, ht, hv⟩ := hst
      (try simp only [Act.put, List.setIfInBounds_toArray, List.set_cons_zero, List.set_cons_succ])
      refine wpAnyH_ready (rs := [8, 9]) (by kernel_rfl) (by simp) ?_
      refine AllReadyH.cons (o := ?_) ?hoAhK003km ?hstAhK003km (AllReadyH.cons (o := ?_) ?hoBhK003km ?hstBhK003km AllReadyH.nil)
      case hoAhK003km => (simp only [List.getElem?_toArray, List.getElem?_cons_zero, List.getElem?_cons_succ]; rfl)
      case hoBhK003km => (simp only [List.getElem?_toArray, List.getElem?_cons_zero, List.getElem?_cons_succ]; rfl)
      case hstAhK003km =>
        intro K hK
        go_simp
        refine hK.out _ _ ?hsAhK003km (fun hHeld => ?_)
        case hsAhK003km => exact ((fb_step hq (bel_alloc (Below.refl _ _) (.cells #[.int .i64 0, .int .i64 0, .float .f64 0, .string ⟨#[]⟩, .slice none 0 0] 27)))).1
        clear hK K
        (try simp only [Act.put, List.setIfInBounds_toArray, List.set_cons_zero, List.set_cons_succ])
        exact any_eq (by kernel_rfl) (by kernel_rfl) (hK103 _ _ ⟨_, gE, Kt, It, Ft, Zt, qt, mt, dt, Kv, Iv, Fv, Zv, qv, mv, dv, rfl, (fb_step hq (bel_alloc (Below.refl _ _) (.cells #[.int .i64 0, .int .i64 0, .float .f64 0, .string ⟨#[]⟩, .slice none 0 0] 27))), (bel_step hbd (bel_alloc (Below.refl _ _) (.cells #[.int .i64 0, .int .i64 0, .float .f64 0, .string ⟨#[]⟩, .slice none 0 0] 27))), ⟨cs_new rfl, fun o => row_frz (row_alloc _ _ _) o⟩, hbd.size, (repS_step (bel_alloc (Below.refl _ _) (.cells #[.int .i64 0, .int .i64 0, .float .f64 0, .string ⟨#[]⟩, .slice none 0 0] 27)) (repS_mono (fun b hb => ⟨hb.1, Nat.ne_of_lt hb.2⟩) _ _ _ (repS_lt _ _ _ ht))), (repS_step (bel_alloc (Below.refl _ _) (.cells #[.int .i64 0, .int .i64 0, .float .f64 0, .string ⟨#[]⟩, .slice none 0 0] 27)) (repS_mono (fun b hb => ⟨hb.1, Nat.ne_of_lt hb.2⟩) _ _ _ (repS_lt _ _ _ hv)))⟩ hHeld)
      case hstBhK003km =>
        intro K hK
        go_simp
        refine hK.out _ _ ?hsBhK003km (fun hHeld => ?_)
        case hsBhK003km => exact ((fb_step hq (bel_alloc (Below.refl _ _) (.cells #[.int .i64 0, .int .i64 0, .float .f64 0, .string ⟨#[]⟩, .slice none 0 0] 27)))).1
        clear hK K
        (try simp only [Act.put, List.setIfInBounds_toArray, List.set_cons_zero, List.set_cons_succ])
        exact any_eq (by kernel_rfl) (by kernel_rfl) (hK013 _ _ ⟨_, gE, Kt, It, Ft, Zt, qt, mt, dt, Kv, Iv, Fv, Zv, qv, mv, dv, rfl, (fb_step hq (bel_alloc (Below.refl _ _) (.cells #[.int .i64 0, .int .i64 0, .float .f64 0, .string ⟨#[]⟩, .slice none 0 0] 27))), (bel_step hbd (bel_alloc (Below.refl _ _) (.cells #[.int .i64 0, .int .i64 0, .float .f64 0, .string ⟨#[]⟩, .slice none 0 0] 27))), ⟨cs_new rfl, fun o => row_frz (row_alloc _ _ _) o⟩, hbd.size, (repS_step (bel_alloc (Below.refl _ _) (.cells #[.int .i64 0, .int .i64 0, .float .f64 0, .string ⟨#[]⟩, .slice none 0 0] 27)) (repS_mono (fun b hb => ⟨hb.1, Nat.ne_of_lt hb.2⟩) _ _ _ (repS_lt _ _ _ ht))), (repS_step (bel_alloc (Below.refl _ _) (.cells #[.int .i64 0, .int .i64 0, .float .f64 0, .string ⟨#[]⟩, .slice none 0 0] 27)) (repS_mono (fun b hb => ⟨hb.1, Nat.ne_of_lt hb.2⟩) _ _ _ (repS_lt _ _ _ hv)))⟩ hHeld)
    refine any_have 8 [8, 9, 1, 2] (fun a a' w' => ∃ (gA gB gE : Nat), a' = ((((a.put (some 7) (.pointer (some ⟨gA, 0, none⟩))).put (some 8) (.pointer (some ⟨gB, 0, none⟩))).put (some 26) (.agg #[.int .i64 1, .int .i64 1, .float .f64 0, .string ⟨#[]⟩, .slice none 0 0])).put (some 27) (.slice (some ⟨gE, 0, none⟩) 1 1)) ∧ FB w sb qs ms ds w' ∧ Below wr.heap.size wr w' ∧ SBX w' gA (.int .i64 0) (.int .i64 0) (.float .f64 0) (.string ⟨#[]⟩) (.slice none 0 0) ∧ wr.heap.size ≤ gA ∧ SBX w' gB (.int .i64 0) (.int .i64 0) (.float .f64 0) (.string ⟨#[]⟩) (.slice none 0 0) ∧ wr.heap.size ≤ gB ∧ gA ≠ gB ∧ L1 gE (1) w') ?phK112km (fun hK112 => ?_)
    case phK112km =>
      intro a' w' hst hHeld
      obtain ⟨gA, gB, gE, rfl, hq, hbd, hsA, hgA, hsB, hgB, hne, hlv⟩ := hst
      (try simp only [Act.put, List.setIfInBounds_toArray, List.set_cons_zero, List.set_cons_succ])
      refine wpAnyH_ready (rs := [3]) (by kernel_rfl) (by simp) ?_
      refine AllReadyH.cons (o := ?_) ?hoXhK112km ?hstXhK112km AllReadyH.nil
      case hoXhK112km => (simp only [List.getElem?_toArray, List.getElem?_cons_zero, List.getElem?_cons_succ]; rfl)
      case hstXhK112km =>
        intro K hK
        go_simp
        have hrp := rep_keep hbd _ _ _ HSTr.out; go_at_call 11; refine (HDO.out _ _ hrp hlv).mono ?_; rintro e wD ⟨tt, vv, rfl, hbT, ht, hv⟩; obtain ⟨Kt, It, Ft, Zt, qt, mt, dt, rfl, _⟩ := repS_shape ht; obtain ⟨Kv, Iv, Fv, Zv, qv, mv, dv, rfl, _⟩ := repS_shape hv
        go_wp2_with fail
        refine hK.out _ _ ?hsXhK112km (fun hHeld => ?_)
        case hsXhK112km => exact ((fb_step hq hbT)).1
        clear hK K
        (try simp only [Act.put, List.setIfInBounds_toArray, List.set_cons_zero, List.set_cons_succ])
        refine wpAnyH_take (i := 4) (oi := ?_) (v := ?_) ?hiXhK112km4 (by kernel_rfl) ?hfXhK112km4 ?hrXhK112km4 ?hQXhK112km4 ?hyXhK112km4 (by assumption) ?restXhK112km4
        case hiXhK112km4 => (simp only [List.getElem?_toArray, List.getElem?_cons_zero, List.getElem?_cons_succ]; rfl)
        case hfXhK112km4 => kernel_rfl
        case hrXhK112km4 => kernel_rfl
        case hyXhK112km4 => (refine Or.inl ⟨by rfl, ?_⟩; intro wS hSw; (try dsimp only at hSw); go_simp; (try with_reducible rfl))
        case hQXhK112km4 => exact fun _ _ _ h => h
        (try simp only [Act.put, List.setIfInBounds_toArray, List.set_cons_zero, List.set_cons_succ])
        refine wpAnyH_take (i := 5) (oi := ?_) (v := ?_) ?hiXhK112km5 (by kernel_rfl) ?hfXhK112km5 ?hrXhK112km5 ?hQXhK112km5 ?hyXhK112km5 (by assumption) ?restXhK112km5
        case hiXhK112km5 => (simp only [List.getElem?_toArray, List.getElem?_cons_zero, List.getElem?_cons_succ]; rfl)
        case hfXhK112km5 => kernel_rfl
        case hrXhK112km5 => kernel_rfl
        case hyXhK112km5 => (refine Or.inl ⟨by rfl, ?_⟩; intro wS hSw; (try dsimp only at hSw); go_simp; (try with_reducible rfl))
        case hQXhK112km5 => exact fun _ _ _ h => h
        (try simp only [Act.put, List.setIfInBounds_toArray, List.set_cons_zero, List.set_cons_succ])
        refine wpAnyH_take (i := 6) (oi := ?_) (v := ?_) ?hiXhK112km6 (by kernel_rfl) ?hfXhK112km6 ?hrXhK112km6 ?hQXhK112km6 ?hyXhK112km6 (by assumption) ?restXhK112km6
        case hiXhK112km6 => (simp only [List.getElem?_toArray, List.getElem?_cons_zero, List.getElem?_cons_succ]; rfl)
        case hfXhK112km6 => kernel_rfl
        case hrXhK112km6 => kernel_rfl
        case hyXhK112km6 => (refine Or.inl ⟨by rfl, ?_⟩; intro wS hSw; (try dsimp only at hSw); go_simp; (try with_reducible rfl))
        case hQXhK112km6 => exact fun _ _ _ h => h
        (try simp only [Act.put, List.setIfInBounds_toArray, List.set_cons_zero, List.set_cons_succ])
        refine wpAnyH_take (i := 7) (oi := ?_) (v := ?_) ?hiXhK112km7 (by kernel_rfl) ?hfXhK112km7 ?hrXhK112km7 ?hQXhK112km7 ?hyXhK112km7 (by assumption) ?restXhK112km7
        case hiXhK112km7 => (simp only [List.getElem?_toArray, List.getElem?_cons_zero, List.getElem?_cons_succ]; rfl)
        case hfXhK112km7 => kernel_rfl
        case hrXhK112km7 => kernel_rfl
        case hyXhK112km7 => (refine Or.inl ⟨by rfl, ?_⟩; intro wS hSw; (try dsimp only at hSw); go_simp; (try with_reducible rfl))
        case hQXhK112km7 => exact fun _ _ _ h => h
        (try simp only [Act.put, List.setIfInBounds_toArray, List.set_cons_zero, List.set_cons_succ])
        exact any_eq (by kernel_rfl) (by kernel_rfl) (hK113 _ _ ⟨gA, gB, gE, Kt, It, Ft, Zt, qt, mt, dt, Kv, Iv, Fv, Zv, qv, mv, dv, rfl, (fb_step hq hbT), (bel_step hbd hbT), (sbx_step hsA hbT), hgA, (sbx_step hsB hbT), hgB, hne, (repS_mono (fun b hb => ⟨Nat.le_trans hbd.size hb, (by have h := cs_lt hsA.1; have h2 : _ ≤ b := hb; omega), (by have h := cs_lt hsB.1; have h2 : _ ≤ b := hb; omega)⟩) _ _ _ ht), (repS_mono (fun b hb => ⟨Nat.le_trans hbd.size hb, (by have h := cs_lt hsA.1; have h2 : _ ≤ b := hb; omega), (by have h := cs_lt hsB.1; have h2 : _ ≤ b := hb; omega)⟩) _ _ _ hv)⟩ hHeld)
    refine any_have 9 [8, 1, 2] (fun a a' w' => ∃ (gA gE : Nat), a' = (((a.put (some 7) (.pointer (some ⟨gA, 0, none⟩))).put (some 26) (.agg #[.int .i64 1, .int .i64 1, .float .f64 0, .string ⟨#[]⟩, .slice none 0 0])).put (some 27) (.slice (some ⟨gE, 0, none⟩) 1 1)) ∧ FB w sb qs ms ds w' ∧ Below wr.heap.size wr w' ∧ SBX w' gA (.int .i64 0) (.int .i64 0) (.float .f64 0) (.string ⟨#[]⟩) (.slice none 0 0) ∧ wr.heap.size ≤ gA ∧ L1 gE (1) w') ?phK102km (fun hK102 => ?_)
    case phK102km =>
      intro a' w' hst hHeld
      obtain ⟨gA, gE, rfl, hq, hbd, hsA, hgA, hlv⟩ := hst
      (try simp only [Act.put, List.setIfInBounds_toArray, List.set_cons_zero, List.set_cons_succ])
      refine wpAnyH_ready (rs := [3, 9]) (by kernel_rfl) (by simp) ?_
      refine AllReadyH.cons (o := ?_) ?hoXhK102km ?hstXhK102km (AllReadyH.cons (o := ?_) ?hoBhK102km ?hstBhK102km AllReadyH.nil)
      case hoXhK102km => (simp only [List.getElem?_toArray, List.getElem?_cons_zero, List.getElem?_cons_succ]; rfl)
      case hoBhK102km => (simp only [List.getElem?_toArray, List.getElem?_cons_zero, List.getElem?_cons_succ]; rfl)
      case hstXhK102km =>
        intro K hK
        go_simp
        have hrp := rep_keep hbd _ _ _ HSTr.out; go_at_call 11; refine (HDO.out _ _ hrp hlv).mono ?_; rintro e wD ⟨tt, vv, rfl, hbT, ht, hv⟩; obtain ⟨Kt, It, Ft, Zt, qt, mt, dt, rfl, _⟩ := repS_shape ht; obtain ⟨Kv, Iv, Fv, Zv, qv, mv, dv, rfl, _⟩ := repS_shape hv
        go_wp2_with fail
        refine hK.out _ _ ?hsXhK102km (fun hHeld => ?_)
        case hsXhK102km => exact ((fb_step hq hbT)).1
        clear hK K
        (try simp only [Act.put, List.setIfInBounds_toArray, List.set_cons_zero, List.set_cons_succ])
        refine wpAnyH_take (i := 4) (oi := ?_) (v := ?_) ?hiXhK102km4 (by kernel_rfl) ?hfXhK102km4 ?hrXhK102km4 ?hQXhK102km4 ?hyXhK102km4 (by assumption) ?restXhK102km4
        case hiXhK102km4 => (simp only [List.getElem?_toArray, List.getElem?_cons_zero, List.getElem?_cons_succ]; rfl)
        case hfXhK102km4 => kernel_rfl
        case hrXhK102km4 => kernel_rfl
        case hyXhK102km4 => (refine Or.inl ⟨by rfl, ?_⟩; intro wS hSw; (try dsimp only at hSw); go_simp; (try with_reducible rfl))
        case hQXhK102km4 => exact fun _ _ _ h => h
        (try simp only [Act.put, List.setIfInBounds_toArray, List.set_cons_zero, List.set_cons_succ])
        refine wpAnyH_take (i := 5) (oi := ?_) (v := ?_) ?hiXhK102km5 (by kernel_rfl) ?hfXhK102km5 ?hrXhK102km5 ?hQXhK102km5 ?hyXhK102km5 (by assumption) ?restXhK102km5
        case hiXhK102km5 => (simp only [List.getElem?_toArray, List.getElem?_cons_zero, List.getElem?_cons_succ]; rfl)
        case hfXhK102km5 => kernel_rfl
        case hrXhK102km5 => kernel_rfl
        case hyXhK102km5 => (refine Or.inl ⟨by rfl, ?_⟩; intro wS hSw; (try dsimp only at hSw); go_simp; (try with_reducible rfl))
        case hQXhK102km5 => exact fun _ _ _ h => h
        (try simp only [Act.put, List.setIfInBounds_toArray, List.set_cons_zero, List.set_cons_succ])
        refine wpAnyH_take (i := 6) (oi := ?_) (v := ?_) ?hiXhK102km6 (by kernel_rfl) ?hfXhK102km6 ?hrXhK102km6 ?hQXhK102km6 ?hyXhK102km6 (by assumption) ?restXhK102km6
        case hiXhK102km6 => (simp only [List.getElem?_toArray, List.getElem?_cons_zero, List.getElem?_cons_succ]; rfl)
        case hfXhK102km6 => kernel_rfl
        case hrXhK102km6 => kernel_rfl
        case hyXhK102km6 => (refine Or.inl ⟨by rfl, ?_⟩; intro wS hSw; (try dsimp only at hSw); go_simp; (try with_reducible rfl))
        case hQXhK102km6 => exact fun _ _ _ h => h
        (try simp only [Act.put, List.setIfInBounds_toArray, List.set_cons_zero, List.set_cons_succ])
        refine wpAnyH_take (i := 7) (oi := ?_) (v := ?_) ?hiXhK102km7 (by kernel_rfl) ?hfXhK102km7 ?hrXhK102km7 ?hQXhK102km7 ?hyXhK102km7 (by assumption) ?restXhK102km7
        case hiXhK102km7 => (simp only [List.getElem?_toArray, List.getElem?_cons_zero, List.getElem?_cons_succ]; rfl)
        case hfXhK102km7 => kernel_rfl
        case hrXhK102km7 => kernel_rfl
        case hyXhK102km7 => (refine Or.inl ⟨by rfl, ?_⟩; intro wS hSw; (try dsimp only at hSw); go_simp; (try with_reducible rfl))
        case hQXhK102km7 => exact fun _ _ _ h => h
        (try simp only [Act.put, List.setIfInBounds_toArray, List.set_cons_zero, List.set_cons_succ])
        exact any_eq (by kernel_rfl) (by kernel_rfl) (hK103 _ _ ⟨gA, gE, Kt, It, Ft, Zt, qt, mt, dt, Kv, Iv, Fv, Zv, qv, mv, dv, rfl, (fb_step hq hbT), (bel_step hbd hbT), (sbx_step hsA hbT), hgA, (repS_mono (fun b hb => ⟨Nat.le_trans hbd.size hb, (by have h := cs_lt hsA.1; have h2 : _ ≤ b := hb; omega)⟩) _ _ _ ht), (repS_mono (fun b hb => ⟨Nat.le_trans hbd.size hb, (by have h := cs_lt hsA.1; have h2 : _ ≤ b := hb; omega)⟩) _ _ _ hv)⟩ hHeld)
      case hstBhK102km =>
        intro K hK
        go_simp
        refine hK.out _ _ ?hsBhK102km (fun hHeld => ?_)
        case hsBhK102km => exact ((fb_step hq (bel_alloc (Below.refl _ _) (.cells #[.int .i64 0, .int .i64 0, .float .f64 0, .string ⟨#[]⟩, .slice none 0 0] 27)))).1
        clear hK K
        (try simp only [Act.put, List.setIfInBounds_toArray, List.set_cons_zero, List.set_cons_succ])
        exact any_eq (by kernel_rfl) (by kernel_rfl) (hK112 _ _ ⟨gA, _, gE, rfl, (fb_step hq (bel_alloc (Below.refl _ _) (.cells #[.int .i64 0, .int .i64 0, .float .f64 0, .string ⟨#[]⟩, .slice none 0 0] 27))), (bel_step hbd (bel_alloc (Below.refl _ _) (.cells #[.int .i64 0, .int .i64 0, .float .f64 0, .string ⟨#[]⟩, .slice none 0 0] 27))), (sbx_step hsA (bel_alloc (Below.refl _ _) (.cells #[.int .i64 0, .int .i64 0, .float .f64 0, .string ⟨#[]⟩, .slice none 0 0] 27))), hgA, ⟨cs_new rfl, fun o => row_frz (row_alloc _ _ _) o⟩, hbd.size, (by have h := cs_lt hsA.1; omega), (l1_step hlv (bel_alloc (Below.refl _ _) (.cells #[.int .i64 0, .int .i64 0, .float .f64 0, .string ⟨#[]⟩, .slice none 0 0] 27)))⟩ hHeld)
    refine any_have 9 [9, 1, 2] (fun a a' w' => ∃ (gB gE : Nat), a' = (((a.put (some 8) (.pointer (some ⟨gB, 0, none⟩))).put (some 26) (.agg #[.int .i64 1, .int .i64 1, .float .f64 0, .string ⟨#[]⟩, .slice none 0 0])).put (some 27) (.slice (some ⟨gE, 0, none⟩) 1 1)) ∧ FB w sb qs ms ds w' ∧ Below wr.heap.size wr w' ∧ SBX w' gB (.int .i64 0) (.int .i64 0) (.float .f64 0) (.string ⟨#[]⟩) (.slice none 0 0) ∧ wr.heap.size ≤ gB ∧ L1 gE (1) w') ?phK012km (fun hK012 => ?_)
    case phK012km =>
      intro a' w' hst hHeld
      obtain ⟨gB, gE, rfl, hq, hbd, hsB, hgB, hlv⟩ := hst
      (try simp only [Act.put, List.setIfInBounds_toArray, List.set_cons_zero, List.set_cons_succ])
      refine wpAnyH_ready (rs := [3, 8]) (by kernel_rfl) (by simp) ?_
      refine AllReadyH.cons (o := ?_) ?hoXhK012km ?hstXhK012km (AllReadyH.cons (o := ?_) ?hoAhK012km ?hstAhK012km AllReadyH.nil)
      case hoXhK012km => (simp only [List.getElem?_toArray, List.getElem?_cons_zero, List.getElem?_cons_succ]; rfl)
      case hoAhK012km => (simp only [List.getElem?_toArray, List.getElem?_cons_zero, List.getElem?_cons_succ]; rfl)
      case hstXhK012km =>
        intro K hK
        go_simp
        have hrp := rep_keep hbd _ _ _ HSTr.out; go_at_call 11; refine (HDO.out _ _ hrp hlv).mono ?_; rintro e wD ⟨tt, vv, rfl, hbT, ht, hv⟩; obtain ⟨Kt, It, Ft, Zt, qt, mt, dt, rfl, _⟩ := repS_shape ht; obtain ⟨Kv, Iv, Fv, Zv, qv, mv, dv, rfl, _⟩ := repS_shape hv
        go_wp2_with fail
        refine hK.out _ _ ?hsXhK012km (fun hHeld => ?_)
        case hsXhK012km => exact ((fb_step hq hbT)).1
        clear hK K
        (try simp only [Act.put, List.setIfInBounds_toArray, List.set_cons_zero, List.set_cons_succ])
        refine wpAnyH_take (i := 4) (oi := ?_) (v := ?_) ?hiXhK012km4 (by kernel_rfl) ?hfXhK012km4 ?hrXhK012km4 ?hQXhK012km4 ?hyXhK012km4 (by assumption) ?restXhK012km4
        case hiXhK012km4 => (simp only [List.getElem?_toArray, List.getElem?_cons_zero, List.getElem?_cons_succ]; rfl)
        case hfXhK012km4 => kernel_rfl
        case hrXhK012km4 => kernel_rfl
        case hyXhK012km4 => (refine Or.inl ⟨by rfl, ?_⟩; intro wS hSw; (try dsimp only at hSw); go_simp; (try with_reducible rfl))
        case hQXhK012km4 => exact fun _ _ _ h => h
        (try simp only [Act.put, List.setIfInBounds_toArray, List.set_cons_zero, List.set_cons_succ])
        refine wpAnyH_take (i := 5) (oi := ?_) (v := ?_) ?hiXhK012km5 (by kernel_rfl) ?hfXhK012km5 ?hrXhK012km5 ?hQXhK012km5 ?hyXhK012km5 (by assumption) ?restXhK012km5
        case hiXhK012km5 => (simp only [List.getElem?_toArray, List.getElem?_cons_zero, List.getElem?_cons_succ]; rfl)
        case hfXhK012km5 => kernel_rfl
        case hrXhK012km5 => kernel_rfl
        case hyXhK012km5 => (refine Or.inl ⟨by rfl, ?_⟩; intro wS hSw; (try dsimp only at hSw); go_simp; (try with_reducible rfl))
        case hQXhK012km5 => exact fun _ _ _ h => h
        (try simp only [Act.put, List.setIfInBounds_toArray, List.set_cons_zero, List.set_cons_succ])
        refine wpAnyH_take (i := 6) (oi := ?_) (v := ?_) ?hiXhK012km6 (by kernel_rfl) ?hfXhK012km6 ?hrXhK012km6 ?hQXhK012km6 ?hyXhK012km6 (by assumption) ?restXhK012km6
        case hiXhK012km6 => (simp only [List.getElem?_toArray, List.getElem?_cons_zero, List.getElem?_cons_succ]; rfl)
        case hfXhK012km6 => kernel_rfl
        case hrXhK012km6 => kernel_rfl
        case hyXhK012km6 => (refine Or.inl ⟨by rfl, ?_⟩; intro wS hSw; (try dsimp only at hSw); go_simp; (try with_reducible rfl))
        case hQXhK012km6 => exact fun _ _ _ h => h
        (try simp only [Act.put, List.setIfInBounds_toArray, List.set_cons_zero, List.set_cons_succ])
        refine wpAnyH_take (i := 7) (oi := ?_) (v := ?_) ?hiXhK012km7 (by kernel_rfl) ?hfXhK012km7 ?hrXhK012km7 ?hQXhK012km7 ?hyXhK012km7 (by assumption) ?restXhK012km7
        case hiXhK012km7 => (simp only [List.getElem?_toArray, List.getElem?_cons_zero, List.getElem?_cons_succ]; rfl)
        case hfXhK012km7 => kernel_rfl
        case hrXhK012km7 => kernel_rfl
        case hyXhK012km7 => (refine Or.inl ⟨by rfl, ?_⟩; intro wS hSw; (try dsimp only at hSw); go_simp; (try with_reducible rfl))
        case hQXhK012km7 => exact fun _ _ _ h => h
        (try simp only [Act.put, List.setIfInBounds_toArray, List.set_cons_zero, List.set_cons_succ])
        exact any_eq (by kernel_rfl) (by kernel_rfl) (hK013 _ _ ⟨gB, gE, Kt, It, Ft, Zt, qt, mt, dt, Kv, Iv, Fv, Zv, qv, mv, dv, rfl, (fb_step hq hbT), (bel_step hbd hbT), (sbx_step hsB hbT), hgB, (repS_mono (fun b hb => ⟨Nat.le_trans hbd.size hb, (by have h := cs_lt hsB.1; have h2 : _ ≤ b := hb; omega)⟩) _ _ _ ht), (repS_mono (fun b hb => ⟨Nat.le_trans hbd.size hb, (by have h := cs_lt hsB.1; have h2 : _ ≤ b := hb; omega)⟩) _ _ _ hv)⟩ hHeld)
      case hstAhK012km =>
        intro K hK
        go_simp
        refine hK.out _ _ ?hsAhK012km (fun hHeld => ?_)
        case hsAhK012km => exact ((fb_step hq (bel_alloc (Below.refl _ _) (.cells #[.int .i64 0, .int .i64 0, .float .f64 0, .string ⟨#[]⟩, .slice none 0 0] 27)))).1
        clear hK K
        (try simp only [Act.put, List.setIfInBounds_toArray, List.set_cons_zero, List.set_cons_succ])
        exact any_eq (by kernel_rfl) (by kernel_rfl) (hK112 _ _ ⟨_, gB, gE, rfl, (fb_step hq (bel_alloc (Below.refl _ _) (.cells #[.int .i64 0, .int .i64 0, .float .f64 0, .string ⟨#[]⟩, .slice none 0 0] 27))), (bel_step hbd (bel_alloc (Below.refl _ _) (.cells #[.int .i64 0, .int .i64 0, .float .f64 0, .string ⟨#[]⟩, .slice none 0 0] 27))), ⟨cs_new rfl, fun o => row_frz (row_alloc _ _ _) o⟩, hbd.size, (sbx_step hsB (bel_alloc (Below.refl _ _) (.cells #[.int .i64 0, .int .i64 0, .float .f64 0, .string ⟨#[]⟩, .slice none 0 0] 27))), hgB, (by have h := cs_lt hsB.1; omega), (l1_step hlv (bel_alloc (Below.refl _ _) (.cells #[.int .i64 0, .int .i64 0, .float .f64 0, .string ⟨#[]⟩, .slice none 0 0] 27)))⟩ hHeld)
    refine any_have 10 [1, 2] (fun a a' w' => ∃ (gE : Nat), a' = ((a.put (some 26) (.agg #[.int .i64 1, .int .i64 1, .float .f64 0, .string ⟨#[]⟩, .slice none 0 0])).put (some 27) (.slice (some ⟨gE, 0, none⟩) 1 1)) ∧ FB w sb qs ms ds w' ∧ Below wr.heap.size wr w' ∧ L1 gE (1) w') ?phK002km (fun hK002 => ?_)
    case phK002km =>
      intro a' w' hst hHeld
      obtain ⟨gE, rfl, hq, hbd, hlv⟩ := hst
      (try simp only [Act.put, List.setIfInBounds_toArray, List.set_cons_zero, List.set_cons_succ])
      refine wpAnyH_ready (rs := [3, 8, 9]) (by kernel_rfl) (by simp) ?_
      refine AllReadyH.cons (o := ?_) ?hoXhK002km ?hstXhK002km (AllReadyH.cons (o := ?_) ?hoAhK002km ?hstAhK002km (AllReadyH.cons (o := ?_) ?hoBhK002km ?hstBhK002km AllReadyH.nil))
      case hoXhK002km => (simp only [List.getElem?_toArray, List.getElem?_cons_zero, List.getElem?_cons_succ]; rfl)
      case hoAhK002km => (simp only [List.getElem?_toArray, List.getElem?_cons_zero, List.getElem?_cons_succ]; rfl)
      case hoBhK002km => (simp only [List.getElem?_toArray, List.getElem?_cons_zero, List.getElem?_cons_succ]; rfl)
      case hstXhK002km =>
        intro K hK
        go_simp
        have hrp := rep_keep hbd _ _ _ HSTr.out; go_at_call 11; refine (HDO.out _ _ hrp hlv).mono ?_; rintro e wD ⟨tt, vv, rfl, hbT, ht, hv⟩; obtain ⟨Kt, It, Ft, Zt, qt, mt, dt, rfl, _⟩ := repS_shape ht; obtain ⟨Kv, Iv, Fv, Zv, qv, mv, dv, rfl, _⟩ := repS_shape hv
        go_wp2_with fail
        refine hK.out _ _ ?hsXhK002km (fun hHeld => ?_)
        case hsXhK002km => exact ((fb_step hq hbT)).1
        clear hK K
        (try simp only [Act.put, List.setIfInBounds_toArray, List.set_cons_zero, List.set_cons_succ])
        refine wpAnyH_take (i := 4) (oi := ?_) (v := ?_) ?hiXhK002km4 (by kernel_rfl) ?hfXhK002km4 ?hrXhK002km4 ?hQXhK002km4 ?hyXhK002km4 (by assumption) ?restXhK002km4
        case hiXhK002km4 => (simp only [List.getElem?_toArray, List.getElem?_cons_zero, List.getElem?_cons_succ]; rfl)
        case hfXhK002km4 => kernel_rfl
        case hrXhK002km4 => kernel_rfl
        case hyXhK002km4 => (refine Or.inl ⟨by rfl, ?_⟩; intro wS hSw; (try dsimp only at hSw); go_simp; (try with_reducible rfl))
        case hQXhK002km4 => exact fun _ _ _ h => h
        (try simp only [Act.put, List.setIfInBounds_toArray, List.set_cons_zero, List.set_cons_succ])
        refine wpAnyH_take (i := 5) (oi := ?_) (v := ?_) ?hiXhK002km5 (by kernel_rfl) ?hfXhK002km5 ?hrXhK002km5 ?hQXhK002km5 ?hyXhK002km5 (by assumption) ?restXhK002km5
        case hiXhK002km5 => (simp only [List.getElem?_toArray, List.getElem?_cons_zero, List.getElem?_cons_succ]; rfl)
        case hfXhK002km5 => kernel_rfl
        case hrXhK002km5 => kernel_rfl
        case hyXhK002km5 => (refine Or.inl ⟨by rfl, ?_⟩; intro wS hSw; (try dsimp only at hSw); go_simp; (try with_reducible rfl))
        case hQXhK002km5 => exact fun _ _ _ h => h
        (try simp only [Act.put, List.setIfInBounds_toArray, List.set_cons_zero, List.set_cons_succ])
        refine wpAnyH_take (i := 6) (oi := ?_) (v := ?_) ?hiXhK002km6 (by kernel_rfl) ?hfXhK002km6 ?hrXhK002km6 ?hQXhK002km6 ?hyXhK002km6 (by assumption) ?restXhK002km6
        case hiXhK002km6 => (simp only [List.getElem?_toArray, List.getElem?_cons_zero, List.getElem?_cons_succ]; rfl)
        case hfXhK002km6 => kernel_rfl
        case hrXhK002km6 => kernel_rfl
        case hyXhK002km6 => (refine Or.inl ⟨by rfl, ?_⟩; intro wS hSw; (try dsimp only at hSw); go_simp; (try with_reducible rfl))
        case hQXhK002km6 => exact fun _ _ _ h => h
        (try simp only [Act.put, List.setIfInBounds_toArray, List.set_cons_zero, List.set_cons_succ])
        refine wpAnyH_take (i := 7) (oi := ?_) (v := ?_) ?hiXhK002km7 (by kernel_rfl) ?hfXhK002km7 ?hrXhK002km7 ?hQXhK002km7 ?hyXhK002km7 (by assumption) ?restXhK002km7
        case hiXhK002km7 => (simp only [List.getElem?_toArray, List.getElem?_cons_zero, List.getElem?_cons_succ]; rfl)
        case hfXhK002km7 => kernel_rfl
        case hrXhK002km7 => kernel_rfl
        case hyXhK002km7 => (refine Or.inl ⟨by rfl, ?_⟩; intro wS hSw; (try dsimp only at hSw); go_simp; (try with_reducible rfl))
        case hQXhK002km7 => exact fun _ _ _ h => h
        (try simp only [Act.put, List.setIfInBounds_toArray, List.set_cons_zero, List.set_cons_succ])
        exact any_eq (by kernel_rfl) (by kernel_rfl) (hK003 _ _ ⟨gE, Kt, It, Ft, Zt, qt, mt, dt, Kv, Iv, Fv, Zv, qv, mv, dv, rfl, (fb_step hq hbT), (bel_step hbd hbT), (repS_mono (fun b hb => Nat.le_trans hbd.size hb) _ _ _ ht), (repS_mono (fun b hb => Nat.le_trans hbd.size hb) _ _ _ hv)⟩ hHeld)
      case hstAhK002km =>
        intro K hK
        go_simp
        refine hK.out _ _ ?hsAhK002km (fun hHeld => ?_)
        case hsAhK002km => exact ((fb_step hq (bel_alloc (Below.refl _ _) (.cells #[.int .i64 0, .int .i64 0, .float .f64 0, .string ⟨#[]⟩, .slice none 0 0] 27)))).1
        clear hK K
        (try simp only [Act.put, List.setIfInBounds_toArray, List.set_cons_zero, List.set_cons_succ])
        exact any_eq (by kernel_rfl) (by kernel_rfl) (hK102 _ _ ⟨_, gE, rfl, (fb_step hq (bel_alloc (Below.refl _ _) (.cells #[.int .i64 0, .int .i64 0, .float .f64 0, .string ⟨#[]⟩, .slice none 0 0] 27))), (bel_step hbd (bel_alloc (Below.refl _ _) (.cells #[.int .i64 0, .int .i64 0, .float .f64 0, .string ⟨#[]⟩, .slice none 0 0] 27))), ⟨cs_new rfl, fun o => row_frz (row_alloc _ _ _) o⟩, hbd.size, (l1_step hlv (bel_alloc (Below.refl _ _) (.cells #[.int .i64 0, .int .i64 0, .float .f64 0, .string ⟨#[]⟩, .slice none 0 0] 27)))⟩ hHeld)
      case hstBhK002km =>
        intro K hK
        go_simp
        refine hK.out _ _ ?hsBhK002km (fun hHeld => ?_)
        case hsBhK002km => exact ((fb_step hq (bel_alloc (Below.refl _ _) (.cells #[.int .i64 0, .int .i64 0, .float .f64 0, .string ⟨#[]⟩, .slice none 0 0] 27)))).1
        clear hK K
        (try simp only [Act.put, List.setIfInBounds_toArray, List.set_cons_zero, List.set_cons_succ])
        exact any_eq (by kernel_rfl) (by kernel_rfl) (hK012 _ _ ⟨_, gE, rfl, (fb_step hq (bel_alloc (Below.refl _ _) (.cells #[.int .i64 0, .int .i64 0, .float .f64 0, .string ⟨#[]⟩, .slice none 0 0] 27))), (bel_step hbd (bel_alloc (Below.refl _ _) (.cells #[.int .i64 0, .int .i64 0, .float .f64 0, .string ⟨#[]⟩, .slice none 0 0] 27))), ⟨cs_new rfl, fun o => row_frz (row_alloc _ _ _) o⟩, hbd.size, (l1_step hlv (bel_alloc (Below.refl _ _) (.cells #[.int .i64 0, .int .i64 0, .float .f64 0, .string ⟨#[]⟩, .slice none 0 0] 27)))⟩ hHeld)
    refine any_have 9 [8, 9, 1] (fun a a' w' => ∃ (gA gB : Nat), a' = (((a.put (some 7) (.pointer (some ⟨gA, 0, none⟩))).put (some 8) (.pointer (some ⟨gB, 0, none⟩))).put (some 26) (.agg #[.int .i64 1, .int .i64 1, .float .f64 0, .string ⟨#[]⟩, .slice none 0 0])) ∧ FB w sb qs ms ds w' ∧ Below wr.heap.size wr w' ∧ SBX w' gA (.int .i64 0) (.int .i64 0) (.float .f64 0) (.string ⟨#[]⟩) (.slice none 0 0) ∧ wr.heap.size ≤ gA ∧ SBX w' gB (.int .i64 0) (.int .i64 0) (.float .f64 0) (.string ⟨#[]⟩) (.slice none 0 0) ∧ wr.heap.size ≤ gB ∧ gA ≠ gB) ?phK111km (fun hK111 => ?_)
    case phK111km =>
      intro a' w' hst hHeld
      obtain ⟨gA, gB, rfl, hq, hbd, hsA, hgA, hsB, hgB, hne⟩ := hst
      (try simp only [Act.put, List.setIfInBounds_toArray, List.set_cons_zero, List.set_cons_succ])
      refine wpAnyH_ready (rs := [2]) (by kernel_rfl) (by simp) ?_
      refine AllReadyH.cons (o := ?_) ?hoXhK111km ?hstXhK111km AllReadyH.nil
      case hoXhK111km => (simp only [List.getElem?_toArray, List.getElem?_cons_zero, List.getElem?_cons_succ]; rfl)
      case hstXhK111km =>
        intro K hK
        go_simp
        refine hK.out _ _ ?hsXhK111km (fun hHeld => ?_)
        case hsXhK111km => exact ((fb_step hq (bel_alloc (Below.refl _ _) (.cells #[.int .i64 1, .int .i64 1, .float .f64 0, .string ⟨#[]⟩, .slice none 0 0] 27)))).1
        clear hK K
        (try simp only [Act.put, List.setIfInBounds_toArray, List.set_cons_zero, List.set_cons_succ])
        exact any_eq (by kernel_rfl) (by kernel_rfl) (hK112 _ _ ⟨gA, gB, _, rfl, (fb_step hq (bel_alloc (Below.refl _ _) (.cells #[.int .i64 1, .int .i64 1, .float .f64 0, .string ⟨#[]⟩, .slice none 0 0] 27))), (bel_step hbd (bel_alloc (Below.refl _ _) (.cells #[.int .i64 1, .int .i64 1, .float .f64 0, .string ⟨#[]⟩, .slice none 0 0] 27))), (sbx_step hsA (bel_alloc (Below.refl _ _) (.cells #[.int .i64 1, .int .i64 1, .float .f64 0, .string ⟨#[]⟩, .slice none 0 0] 27))), hgA, (sbx_step hsB (bel_alloc (Below.refl _ _) (.cells #[.int .i64 1, .int .i64 1, .float .f64 0, .string ⟨#[]⟩, .slice none 0 0] 27))), hgB, hne, (l1_new rfl (by decide))⟩ hHeld)
    refine any_have 10 [8, 1] (fun a a' w' => ∃ (gA : Nat), a' = ((a.put (some 7) (.pointer (some ⟨gA, 0, none⟩))).put (some 26) (.agg #[.int .i64 1, .int .i64 1, .float .f64 0, .string ⟨#[]⟩, .slice none 0 0])) ∧ FB w sb qs ms ds w' ∧ Below wr.heap.size wr w' ∧ SBX w' gA (.int .i64 0) (.int .i64 0) (.float .f64 0) (.string ⟨#[]⟩) (.slice none 0 0) ∧ wr.heap.size ≤ gA) ?phK101km (fun hK101 => ?_)
    case phK101km =>
      intro a' w' hst hHeld
      obtain ⟨gA, rfl, hq, hbd, hsA, hgA⟩ := hst
      (try simp only [Act.put, List.setIfInBounds_toArray, List.set_cons_zero, List.set_cons_succ])
      refine wpAnyH_ready (rs := [2, 9]) (by kernel_rfl) (by simp) ?_
      refine AllReadyH.cons (o := ?_) ?hoXhK101km ?hstXhK101km (AllReadyH.cons (o := ?_) ?hoBhK101km ?hstBhK101km AllReadyH.nil)
      case hoXhK101km => (simp only [List.getElem?_toArray, List.getElem?_cons_zero, List.getElem?_cons_succ]; rfl)
      case hoBhK101km => (simp only [List.getElem?_toArray, List.getElem?_cons_zero, List.getElem?_cons_succ]; rfl)
      case hstXhK101km =>
        intro K hK
        go_simp
        refine hK.out _ _ ?hsXhK101km (fun hHeld => ?_)
        case hsXhK101km => exact ((fb_step hq (bel_alloc (Below.refl _ _) (.cells #[.int .i64 1, .int .i64 1, .float .f64 0, .string ⟨#[]⟩, .slice none 0 0] 27)))).1
        clear hK K
        (try simp only [Act.put, List.setIfInBounds_toArray, List.set_cons_zero, List.set_cons_succ])
        exact any_eq (by kernel_rfl) (by kernel_rfl) (hK102 _ _ ⟨gA, _, rfl, (fb_step hq (bel_alloc (Below.refl _ _) (.cells #[.int .i64 1, .int .i64 1, .float .f64 0, .string ⟨#[]⟩, .slice none 0 0] 27))), (bel_step hbd (bel_alloc (Below.refl _ _) (.cells #[.int .i64 1, .int .i64 1, .float .f64 0, .string ⟨#[]⟩, .slice none 0 0] 27))), (sbx_step hsA (bel_alloc (Below.refl _ _) (.cells #[.int .i64 1, .int .i64 1, .float .f64 0, .string ⟨#[]⟩, .slice none 0 0] 27))), hgA, (l1_new rfl (by decide))⟩ hHeld)
      case hstBhK101km =>
        intro K hK
        go_simp
        refine hK.out _ _ ?hsBhK101km (fun hHeld => ?_)
        case hsBhK101km => exact ((fb_step hq (bel_alloc (Below.refl _ _) (.cells #[.int .i64 0, .int .i64 0, .float .f64 0, .string ⟨#[]⟩, .slice none 0 0] 27)))).1
        clear hK K
        (try simp only [Act.put, List.setIfInBounds_toArray, List.set_cons_zero, List.set_cons_succ])
        exact any_eq (by kernel_rfl) (by kernel_rfl) (hK111 _ _ ⟨gA, _, rfl, (fb_step hq (bel_alloc (Below.refl _ _) (.cells #[.int .i64 0, .int .i64 0, .float .f64 0, .string ⟨#[]⟩, .slice none 0 0] 27))), (bel_step hbd (bel_alloc (Below.refl _ _) (.cells #[.int .i64 0, .int .i64 0, .float .f64 0, .string ⟨#[]⟩, .slice none 0 0] 27))), (sbx_step hsA (bel_alloc (Below.refl _ _) (.cells #[.int .i64 0, .int .i64 0, .float .f64 0, .string ⟨#[]⟩, .slice none 0 0] 27))), hgA, ⟨cs_new rfl, fun o => row_frz (row_alloc _ _ _) o⟩, hbd.size, (by have h := cs_lt hsA.1; omega)⟩ hHeld)
    refine any_have 10 [9, 1] (fun a a' w' => ∃ (gB : Nat), a' = ((a.put (some 8) (.pointer (some ⟨gB, 0, none⟩))).put (some 26) (.agg #[.int .i64 1, .int .i64 1, .float .f64 0, .string ⟨#[]⟩, .slice none 0 0])) ∧ FB w sb qs ms ds w' ∧ Below wr.heap.size wr w' ∧ SBX w' gB (.int .i64 0) (.int .i64 0) (.float .f64 0) (.string ⟨#[]⟩) (.slice none 0 0) ∧ wr.heap.size ≤ gB) ?phK011km (fun hK011 => ?_)
    case phK011km =>
      intro a' w' hst hHeld
      obtain ⟨gB, rfl, hq, hbd, hsB, hgB⟩ := hst
      (try simp only [Act.put, List.setIfInBounds_toArray, List.set_cons_zero, List.set_cons_succ])
      refine wpAnyH_ready (rs := [2, 8]) (by kernel_rfl) (by simp) ?_
      refine AllReadyH.cons (o := ?_) ?hoXhK011km ?hstXhK011km (AllReadyH.cons (o := ?_) ?hoAhK011km ?hstAhK011km AllReadyH.nil)
      case hoXhK011km => (simp only [List.getElem?_toArray, List.getElem?_cons_zero, List.getElem?_cons_succ]; rfl)
      case hoAhK011km => (simp only [List.getElem?_toArray, List.getElem?_cons_zero, List.getElem?_cons_succ]; rfl)
      case hstXhK011km =>
        intro K hK
        go_simp
        refine hK.out _ _ ?hsXhK011km (fun hHeld => ?_)
        case hsXhK011km => exact ((fb_step hq (bel_alloc (Below.refl _ _) (.cells #[.int .i64 1, .int .i64 1, .float .f64 0, .string ⟨#[]⟩, .slice none 0 0] 27)))).1
        clear hK K
        (try simp only [Act.put, List.setIfInBounds_toArray, List.set_cons_zero, List.set_cons_succ])
        exact any_eq (by kernel_rfl) (by kernel_rfl) (hK012 _ _ ⟨gB, _, rfl, (fb_step hq (bel_alloc (Below.refl _ _) (.cells #[.int .i64 1, .int .i64 1, .float .f64 0, .string ⟨#[]⟩, .slice none 0 0] 27))), (bel_step hbd (bel_alloc (Below.refl _ _) (.cells #[.int .i64 1, .int .i64 1, .float .f64 0, .string ⟨#[]⟩, .slice none 0 0] 27))), (sbx_step hsB (bel_alloc (Below.refl _ _) (.cells #[.int .i64 1, .int .i64 1, .float .f64 0, .string ⟨#[]⟩, .slice none 0 0] 27))), hgB, (l1_new rfl (by decide))⟩ hHeld)
      case hstAhK011km =>
        intro K hK
        go_simp
        refine hK.out _ _ ?hsAhK011km (fun hHeld => ?_)
        case hsAhK011km => exact ((fb_step hq (bel_alloc (Below.refl _ _) (.cells #[.int .i64 0, .int .i64 0, .float .f64 0, .string ⟨#[]⟩, .slice none 0 0] 27)))).1
        clear hK K
        (try simp only [Act.put, List.setIfInBounds_toArray, List.set_cons_zero, List.set_cons_succ])
        exact any_eq (by kernel_rfl) (by kernel_rfl) (hK111 _ _ ⟨_, gB, rfl, (fb_step hq (bel_alloc (Below.refl _ _) (.cells #[.int .i64 0, .int .i64 0, .float .f64 0, .string ⟨#[]⟩, .slice none 0 0] 27))), (bel_step hbd (bel_alloc (Below.refl _ _) (.cells #[.int .i64 0, .int .i64 0, .float .f64 0, .string ⟨#[]⟩, .slice none 0 0] 27))), ⟨cs_new rfl, fun o => row_frz (row_alloc _ _ _) o⟩, hbd.size, (sbx_step hsB (bel_alloc (Below.refl _ _) (.cells #[.int .i64 0, .int .i64 0, .float .f64 0, .string ⟨#[]⟩, .slice none 0 0] 27))), hgB, (by have h := cs_lt hsB.1; omega)⟩ hHeld)
    refine any_have 11 [1] (fun a a' w' => a' = (a.put (some 26) (.agg #[.int .i64 1, .int .i64 1, .float .f64 0, .string ⟨#[]⟩, .slice none 0 0])) ∧ FB w sb qs ms ds w' ∧ Below wr.heap.size wr w') ?phK001km (fun hK001 => ?_)
    case phK001km =>
      intro a' w' hst hHeld
      obtain ⟨rfl, hq, hbd⟩ := hst
      (try simp only [Act.put, List.setIfInBounds_toArray, List.set_cons_zero, List.set_cons_succ])
      refine wpAnyH_ready (rs := [2, 8, 9]) (by kernel_rfl) (by simp) ?_
      refine AllReadyH.cons (o := ?_) ?hoXhK001km ?hstXhK001km (AllReadyH.cons (o := ?_) ?hoAhK001km ?hstAhK001km (AllReadyH.cons (o := ?_) ?hoBhK001km ?hstBhK001km AllReadyH.nil))
      case hoXhK001km => (simp only [List.getElem?_toArray, List.getElem?_cons_zero, List.getElem?_cons_succ]; rfl)
      case hoAhK001km => (simp only [List.getElem?_toArray, List.getElem?_cons_zero, List.getElem?_cons_succ]; rfl)
      case hoBhK001km => (simp only [List.getElem?_toArray, List.getElem?_cons_zero, List.getElem?_cons_succ]; rfl)
      case hstXhK001km =>
        intro K hK
        go_simp
        refine hK.out _ _ ?hsXhK001km (fun hHeld => ?_)
        case hsXhK001km => exact ((fb_step hq (bel_alloc (Below.refl _ _) (.cells #[.int .i64 1, .int .i64 1, .float .f64 0, .string ⟨#[]⟩, .slice none 0 0] 27)))).1
        clear hK K
        (try simp only [Act.put, List.setIfInBounds_toArray, List.set_cons_zero, List.set_cons_succ])
        exact any_eq (by kernel_rfl) (by kernel_rfl) (hK002 _ _ ⟨_, rfl, (fb_step hq (bel_alloc (Below.refl _ _) (.cells #[.int .i64 1, .int .i64 1, .float .f64 0, .string ⟨#[]⟩, .slice none 0 0] 27))), (bel_step hbd (bel_alloc (Below.refl _ _) (.cells #[.int .i64 1, .int .i64 1, .float .f64 0, .string ⟨#[]⟩, .slice none 0 0] 27))), (l1_new rfl (by decide))⟩ hHeld)
      case hstAhK001km =>
        intro K hK
        go_simp
        refine hK.out _ _ ?hsAhK001km (fun hHeld => ?_)
        case hsAhK001km => exact ((fb_step hq (bel_alloc (Below.refl _ _) (.cells #[.int .i64 0, .int .i64 0, .float .f64 0, .string ⟨#[]⟩, .slice none 0 0] 27)))).1
        clear hK K
        (try simp only [Act.put, List.setIfInBounds_toArray, List.set_cons_zero, List.set_cons_succ])
        exact any_eq (by kernel_rfl) (by kernel_rfl) (hK101 _ _ ⟨_, rfl, (fb_step hq (bel_alloc (Below.refl _ _) (.cells #[.int .i64 0, .int .i64 0, .float .f64 0, .string ⟨#[]⟩, .slice none 0 0] 27))), (bel_step hbd (bel_alloc (Below.refl _ _) (.cells #[.int .i64 0, .int .i64 0, .float .f64 0, .string ⟨#[]⟩, .slice none 0 0] 27))), ⟨cs_new rfl, fun o => row_frz (row_alloc _ _ _) o⟩, hbd.size⟩ hHeld)
      case hstBhK001km =>
        intro K hK
        go_simp
        refine hK.out _ _ ?hsBhK001km (fun hHeld => ?_)
        case hsBhK001km => exact ((fb_step hq (bel_alloc (Below.refl _ _) (.cells #[.int .i64 0, .int .i64 0, .float .f64 0, .string ⟨#[]⟩, .slice none 0 0] 27)))).1
        clear hK K
        (try simp only [Act.put, List.setIfInBounds_toArray, List.set_cons_zero, List.set_cons_succ])
        exact any_eq (by kernel_rfl) (by kernel_rfl) (hK011 _ _ ⟨_, rfl, (fb_step hq (bel_alloc (Below.refl _ _) (.cells #[.int .i64 0, .int .i64 0, .float .f64 0, .string ⟨#[]⟩, .slice none 0 0] 27))), (bel_step hbd (bel_alloc (Below.refl _ _) (.cells #[.int .i64 0, .int .i64 0, .float .f64 0, .string ⟨#[]⟩, .slice none 0 0] 27))), ⟨cs_new rfl, fun o => row_frz (row_alloc _ _ _) o⟩, hbd.size⟩ hHeld)
    refine any_have 10 [8, 9] (fun a a' w' => ∃ (gA gB : Nat), a' = ((a.put (some 7) (.pointer (some ⟨gA, 0, none⟩))).put (some 8) (.pointer (some ⟨gB, 0, none⟩))) ∧ FB w sb qs ms ds w' ∧ Below wr.heap.size wr w' ∧ SBX w' gA (.int .i64 0) (.int .i64 0) (.float .f64 0) (.string ⟨#[]⟩) (.slice none 0 0) ∧ wr.heap.size ≤ gA ∧ SBX w' gB (.int .i64 0) (.int .i64 0) (.float .f64 0) (.string ⟨#[]⟩) (.slice none 0 0) ∧ wr.heap.size ≤ gB ∧ gA ≠ gB) ?phK110km (fun hK110 => ?_)
    case phK110km =>
      intro a' w' hst hHeld
      obtain ⟨gA, gB, rfl, hq, hbd, hsA, hgA, hsB, hgB, hne⟩ := hst
      (try simp only [Act.put, List.setIfInBounds_toArray, List.set_cons_zero, List.set_cons_succ])
      refine wpAnyH_ready (rs := [1]) (by kernel_rfl) (by simp) ?_
      refine AllReadyH.cons (o := ?_) ?hoXhK110km ?hstXhK110km AllReadyH.nil
      case hoXhK110km => (simp only [List.getElem?_toArray, List.getElem?_cons_zero, List.getElem?_cons_succ]; rfl)
      case hstXhK110km =>
        intro K hK
        go_simp
        go_at_call 18; refine (int_ref_any _ _).mono ?_; rintro e wT ⟨rfl, hbT⟩
        go_wp2_with fail
        refine hK.out _ _ ?hsXhK110km (fun hHeld => ?_)
        case hsXhK110km => exact ((fb_step hq hbT)).1
        clear hK K
        (try simp only [Act.put, List.setIfInBounds_toArray, List.set_cons_zero, List.set_cons_succ])
        exact any_eq (by kernel_rfl) (by kernel_rfl) (hK111 _ _ ⟨gA, gB, rfl, (fb_step hq hbT), (bel_step hbd hbT), (sbx_step hsA hbT), hgA, (sbx_step hsB hbT), hgB, hne⟩ hHeld)
    refine any_have 11 [8] (fun a a' w' => ∃ (gA : Nat), a' = (a.put (some 7) (.pointer (some ⟨gA, 0, none⟩))) ∧ FB w sb qs ms ds w' ∧ Below wr.heap.size wr w' ∧ SBX w' gA (.int .i64 0) (.int .i64 0) (.float .f64 0) (.string ⟨#[]⟩) (.slice none 0 0) ∧ wr.heap.size ≤ gA) ?phK100km (fun hK100 => ?_)
    case phK100km =>
      intro a' w' hst hHeld
      obtain ⟨gA, rfl, hq, hbd, hsA, hgA⟩ := hst
      (try simp only [Act.put, List.setIfInBounds_toArray, List.set_cons_zero, List.set_cons_succ])
      refine wpAnyH_ready (rs := [1, 9]) (by kernel_rfl) (by simp) ?_
      refine AllReadyH.cons (o := ?_) ?hoXhK100km ?hstXhK100km (AllReadyH.cons (o := ?_) ?hoBhK100km ?hstBhK100km AllReadyH.nil)
      case hoXhK100km => (simp only [List.getElem?_toArray, List.getElem?_cons_zero, List.getElem?_cons_succ]; rfl)
      case hoBhK100km => (simp only [List.getElem?_toArray, List.getElem?_cons_zero, List.getElem?_cons_succ]; rfl)
      case hstXhK100km =>
        intro K hK
        go_simp
        go_at_call 18; refine (int_ref_any _ _).mono ?_; rintro e wT ⟨rfl, hbT⟩
        go_wp2_with fail
        refine hK.out _ _ ?hsXhK100km (fun hHeld => ?_)
        case hsXhK100km => exact ((fb_step hq hbT)).1
        clear hK K
        (try simp only [Act.put, List.setIfInBounds_toArray, List.set_cons_zero, List.set_cons_succ])
        exact any_eq (by kernel_rfl) (by kernel_rfl) (hK101 _ _ ⟨gA, rfl, (fb_step hq hbT), (bel_step hbd hbT), (sbx_step hsA hbT), hgA⟩ hHeld)
      case hstBhK100km =>
        intro K hK
        go_simp
        refine hK.out _ _ ?hsBhK100km (fun hHeld => ?_)
        case hsBhK100km => exact ((fb_step hq (bel_alloc (Below.refl _ _) (.cells #[.int .i64 0, .int .i64 0, .float .f64 0, .string ⟨#[]⟩, .slice none 0 0] 27)))).1
        clear hK K
        (try simp only [Act.put, List.setIfInBounds_toArray, List.set_cons_zero, List.set_cons_succ])
        exact any_eq (by kernel_rfl) (by kernel_rfl) (hK110 _ _ ⟨gA, _, rfl, (fb_step hq (bel_alloc (Below.refl _ _) (.cells #[.int .i64 0, .int .i64 0, .float .f64 0, .string ⟨#[]⟩, .slice none 0 0] 27))), (bel_step hbd (bel_alloc (Below.refl _ _) (.cells #[.int .i64 0, .int .i64 0, .float .f64 0, .string ⟨#[]⟩, .slice none 0 0] 27))), (sbx_step hsA (bel_alloc (Below.refl _ _) (.cells #[.int .i64 0, .int .i64 0, .float .f64 0, .string ⟨#[]⟩, .slice none 0 0] 27))), hgA, ⟨cs_new rfl, fun o => row_frz (row_alloc _ _ _) o⟩, hbd.size, (by have h := cs_lt hsA.1; omega)⟩ hHeld)
    refine any_have 11 [9] (fun a a' w' => ∃ (gB : Nat), a' = (a.put (some 8) (.pointer (some ⟨gB, 0, none⟩))) ∧ FB w sb qs ms ds w' ∧ Below wr.heap.size wr w' ∧ SBX w' gB (.int .i64 0) (.int .i64 0) (.float .f64 0) (.string ⟨#[]⟩) (.slice none 0 0) ∧ wr.heap.size ≤ gB) ?phK010km (fun hK010 => ?_)
    case phK010km =>
      intro a' w' hst hHeld
      obtain ⟨gB, rfl, hq, hbd, hsB, hgB⟩ := hst
      (try simp only [Act.put, List.setIfInBounds_toArray, List.set_cons_zero, List.set_cons_succ])
      refine wpAnyH_ready (rs := [1, 8]) (by kernel_rfl) (by simp) ?_
      refine AllReadyH.cons (o := ?_) ?hoXhK010km ?hstXhK010km (AllReadyH.cons (o := ?_) ?hoAhK010km ?hstAhK010km AllReadyH.nil)
      case hoXhK010km => (simp only [List.getElem?_toArray, List.getElem?_cons_zero, List.getElem?_cons_succ]; rfl)
      case hoAhK010km => (simp only [List.getElem?_toArray, List.getElem?_cons_zero, List.getElem?_cons_succ]; rfl)
      case hstXhK010km =>
        intro K hK
        go_simp
        go_at_call 18; refine (int_ref_any _ _).mono ?_; rintro e wT ⟨rfl, hbT⟩
        go_wp2_with fail
        refine hK.out _ _ ?hsXhK010km (fun hHeld => ?_)
        case hsXhK010km => exact ((fb_step hq hbT)).1
        clear hK K
        (try simp only [Act.put, List.setIfInBounds_toArray, List.set_cons_zero, List.set_cons_succ])
        exact any_eq (by kernel_rfl) (by kernel_rfl) (hK011 _ _ ⟨gB, rfl, (fb_step hq hbT), (bel_step hbd hbT), (sbx_step hsB hbT), hgB⟩ hHeld)
      case hstAhK010km =>
        intro K hK
        go_simp
        refine hK.out _ _ ?hsAhK010km (fun hHeld => ?_)
        case hsAhK010km => exact ((fb_step hq (bel_alloc (Below.refl _ _) (.cells #[.int .i64 0, .int .i64 0, .float .f64 0, .string ⟨#[]⟩, .slice none 0 0] 27)))).1
        clear hK K
        (try simp only [Act.put, List.setIfInBounds_toArray, List.set_cons_zero, List.set_cons_succ])
        exact any_eq (by kernel_rfl) (by kernel_rfl) (hK110 _ _ ⟨_, gB, rfl, (fb_step hq (bel_alloc (Below.refl _ _) (.cells #[.int .i64 0, .int .i64 0, .float .f64 0, .string ⟨#[]⟩, .slice none 0 0] 27))), (bel_step hbd (bel_alloc (Below.refl _ _) (.cells #[.int .i64 0, .int .i64 0, .float .f64 0, .string ⟨#[]⟩, .slice none 0 0] 27))), ⟨cs_new rfl, fun o => row_frz (row_alloc _ _ _) o⟩, hbd.size, (sbx_step hsB (bel_alloc (Below.refl _ _) (.cells #[.int .i64 0, .int .i64 0, .float .f64 0, .string ⟨#[]⟩, .slice none 0 0] 27))), hgB, (by have h := cs_lt hsB.1; omega)⟩ hHeld)
    refine wpAnyH_ready (rs := [1, 8, 9]) (by kernel_rfl) (by simp) ?_
    refine AllReadyH.cons (o := ?_) ?hoXzkm ?hstXzkm (AllReadyH.cons (o := ?_) ?hoAzkm ?hstAzkm (AllReadyH.cons (o := ?_) ?hoBzkm ?hstBzkm AllReadyH.nil))
    case hoXzkm => (simp only [List.getElem?_toArray, List.getElem?_cons_zero, List.getElem?_cons_succ]; rfl)
    case hoAzkm => (simp only [List.getElem?_toArray, List.getElem?_cons_zero, List.getElem?_cons_succ]; rfl)
    case hoBzkm => (simp only [List.getElem?_toArray, List.getElem?_cons_zero, List.getElem?_cons_succ]; rfl)
    case hstXzkm =>
      intro K hK
      go_simp
      go_at_call 18; refine (int_ref_any _ _).mono ?_; rintro e wT ⟨rfl, hbT⟩
      go_wp2_with fail
      refine hK.out _ _ ?hsXzkm (fun hHeld => ?_)
      case hsXzkm => exact ((fb_step hq hbT)).1
      clear hK K
      (try simp only [Act.put, List.setIfInBounds_toArray, List.set_cons_zero, List.set_cons_succ])
      exact any_eq (by kernel_rfl) (by kernel_rfl) (hK001 _ _ ⟨rfl, (fb_step hq hbT), (bel_step hbd hbT)⟩ hHeld)
    case hstAzkm =>
      intro K hK
      go_simp
      refine hK.out _ _ ?hsAzkm (fun hHeld => ?_)
      case hsAzkm => exact ((fb_step hq (bel_alloc (Below.refl _ _) (.cells #[.int .i64 0, .int .i64 0, .float .f64 0, .string ⟨#[]⟩, .slice none 0 0] 27)))).1
      clear hK K
      (try simp only [Act.put, List.setIfInBounds_toArray, List.set_cons_zero, List.set_cons_succ])
      exact any_eq (by kernel_rfl) (by kernel_rfl) (hK100 _ _ ⟨_, rfl, (fb_step hq (bel_alloc (Below.refl _ _) (.cells #[.int .i64 0, .int .i64 0, .float .f64 0, .string ⟨#[]⟩, .slice none 0 0] 27))), (bel_step hbd (bel_alloc (Below.refl _ _) (.cells #[.int .i64 0, .int .i64 0, .float .f64 0, .string ⟨#[]⟩, .slice none 0 0] 27))), ⟨cs_new rfl, fun o => row_frz (row_alloc _ _ _) o⟩, hbd.size⟩ hHeld)
    case hstBzkm =>
      intro K hK
      go_simp
      refine hK.out _ _ ?hsBzkm (fun hHeld => ?_)
      case hsBzkm => exact ((fb_step hq (bel_alloc (Below.refl _ _) (.cells #[.int .i64 0, .int .i64 0, .float .f64 0, .string ⟨#[]⟩, .slice none 0 0] 27)))).1
      clear hK K
      (try simp only [Act.put, List.setIfInBounds_toArray, List.set_cons_zero, List.set_cons_succ])
      exact any_eq (by kernel_rfl) (by kernel_rfl) (hK010 _ _ ⟨_, rfl, (fb_step hq (bel_alloc (Below.refl _ _) (.cells #[.int .i64 0, .int .i64 0, .float .f64 0, .string ⟨#[]⟩, .slice none 0 0] 27))), (bel_step hbd (bel_alloc (Below.refl _ _) (.cells #[.int .i64 0, .int .i64 0, .float .f64 0, .string ⟨#[]⟩, .slice none 0 0] 27))), ⟨cs_new rfl, fun o => row_frz (row_alloc _ _ _) o⟩, hbd.size⟩ hHeld)
  case rest =>
  obtain ⟨gA, gB, Kt, It, Ft, Zt, qt, mt, dt, Kv, Iv, Fv, Zv, qv, mv, dv, rfl, rfl, rfl, hca, hcb, hfb, hbel, hrt, hrv⟩ := hcut
  obtain rfl := HZ.out
  have n1 := cell_keep hbel HT.out.2.1
  have p1 := cell_keep hbel HT.out.2.2.2
  obtain ⟨⟨x0, x1, x2, x3, x4⟩, hbw, _⟩ := hfb
  have HRG := Lib.hid (qright_any 0 _ (numsT [7]) _ (rep_keep hbel _ _ _ HT.out.2.2.1) (nums_ok (by decide)))
  have HBW := Lib.hid hbw
  have hl1 := cell_lt x0
  clear hca hcb hrt hrv hbel hbw HDO HZ HFB HSTr HT
  go_wp2_with fail
  go_at_call 14; refine HRG.out.mono ?_; rintro e w9 ⟨rfl, hb9⟩
  have HB9 := Lib.hid (bel_step HBW.out hb9)
  clear hb9 HBW HRG x0 x1 x2 x3 x4 n1 p1 hl1
  go_wp2
  go_ret
  exact ⟨rfl, HB9.out⟩
end Num
end Go.Proofs.Ytodjnhhnjncgdaa
