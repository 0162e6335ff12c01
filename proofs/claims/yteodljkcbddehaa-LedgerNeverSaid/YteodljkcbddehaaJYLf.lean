/-
  The laws' known, by the one road of a transfer that it goes.
-/
import Derived.Test.YteodljkcbddehaaJMI
import Derived.Test.YteodljkcbddehaaJp19Wu
namespace Go.Proofs.Yteodljkcbddehaa
open Go.RowKit
namespace Num
open Ints
set_option linter.unusedSimpArgs false
set_option linter.unusedVariables false
set_option maxHeartbeats 1000000 in
theorem ldo_trfew {AS : List (ByteArray × Nat)} (hok : OkA AS) {s : Value} {pl : Option Addr} {cl : Nat} {ka kd : ByteArray} {K I : Int} {F FA FD : Nat} {w : World} (hs : Rep w 3 s (tableT 0 (ledA AS))) (hr : RepL w (Rep w 1) pl 3 cl [nameV 0 ka, nameV 0 kd, (K, I, F, ⟨#[]⟩, [])]) (hna : nmV 3 ka = true) (hnd : nmV 3 kd = true) (hK : isNum K = true) (a d : Nat) (hal : a < AS.length) (hka : AS[a] = (ka, FA)) (hdl : d < AS.length) (hkd : AS[d] = (kd, FD)) (h1 : ¬ (finV K F = false ∨ signV K I F ≤ 0)) (h2 : (FloatKind.f64.format.order FA (asF K I F) == some .lt) = true) :
    Calls Try.prog 7 #[s, .string { data := #[116, 114, 97, 110, 115, 102, 101, 114] }, .slice pl 3 cl] w fun e w' => DoQ w 3 1 (nilT 2) (nilT 0) 36 e w' := by
  obtain ⟨p, l, c, rfl, hrl⟩ := led_mem hs
  have hll := len_A hrl
  have hll' := hll
  rw [ledA_len] at hll
  obtain ⟨bl, ol, rfl, _⟩ := hr.2.2.2 (by omega)
  obtain ⟨n0, _⟩ := arg_nm hr (i := 0) (by simp) rfl
  obtain ⟨n1, _⟩ := arg_nm hr (i := 1) (by simp) rfl
  obtain ⟨K3, I3, F3, S3, q3, m3, d3, ⟨v0, v1, v2, v3, v4⟩, hv⟩ := arg_nth hr (i := 2) (by simp)
  obtain ⟨rfl, rfl, rfl, rfl, hi, hF⟩ := leaf_is (show Rep w 1 _ (K, I, F, ⟨#[]⟩, []) from hv)
  simp only [Nat.zero_mul, Nat.one_mul, Nat.add_zero] at n0 n1 v0 v1 v2 v3 v4
  have v0' : w.cell? ⟨bl, ol + 10, none⟩ = some (.int .i64 K3) := v0
  have v1' : w.cell? ⟨bl, ol + 10 + 1, none⟩ = some (.int .i64 I3) := v1
  have v2' : w.cell? ⟨bl, ol + 10 + 2, none⟩ = some (.float .f64 F3) := v2
  have v3' : w.cell? ⟨bl, ol + 10 + 3, none⟩ = some (.string ⟨#[]⟩) := v3
  have v4' : w.cell? ⟨bl, ol + 10 + 4, none⟩ = some (.slice q3 m3 d3) := v4
  have hFA : FA < 9218868437227405312 := by have h := hok.2.2 _ (List.getElem_mem hal); rw [hka] at h; exact h
  have hFD : FD < 9218868437227405312 := by have h := hok.2.2 _ (List.getElem_mem hdl); rw [hkd] at h; exact h
  have hal' : a < (ledA AS).length := by rw [ledA_len]; exact hal
  have hdl' : d < (ledA AS).length := by rw [ledA_len]; exact hdl
  have hl32 := hok.2.1
  have hea : (ledA AS)[a]'hal' = (ka, floT 0 FA) := ledA_at hal hka _
  have hed : (ledA AS)[d]'hdl' = (kd, floT 0 FD) := ledA_at hdl hkd _
  have hspa : Spot ((ledA AS).map (·.1)) ka a true := by rw [ledA_names]; exact spot_at hok.1 (by rw [List.length_map]; exact hal) (by rw [List.getElem_map, hka])
  have hspd : Spot ((ledA AS).map (·.1)) kd d true := by rw [ledA_names]; exact spot_at hok.1 (by rw [List.length_map]; exact hdl) (by rw [List.getElem_map, hkd])
  have HR := right_A hok hs
  have HA := check_A (chk_ltra (I := I3) (F := F3) hna hnd hK) (by intro T hT; rcases List.mem_cons.1 hT with rfl | hT; exact (name_light 0 hna).2; rcases List.mem_cons.1 hT with rfl | hT; exact (name_light 0 hnd).2; rw [List.mem_singleton.1 hT]; exact (num_light hK).2) hr
  have hrun : ∀ (lt : Nat) (L : List (VT 2)) (U : VT 1) (z : Int) (W : World), Below w.heap.size w W → (∀ W2, Below W.heap.size W W2 → Calls Try.prog 34 #[.slice p l c, .string ka, .string kd, .agg #[.int .i64 K3, .int .i64 I3, .float .f64 F3, .string ⟨#[]⟩, .slice q3 m3 d3]] W2 fun e w' => LQ W W2 0 0 lt L U z e w') → Calls Try.prog 16 #[.slice p l c, .string { data := #[116, 114, 97, 110, 115, 102, 101, 114] }, .slice (some ⟨bl, ol, none⟩) 3 cl] W fun e w' => LRun W 0 0 lt L U z e w' :=
    fun lt L U z W hb hT => run_transfer 0 0 lt p l c bl ol cl ka kd K3 I3 F3 ⟨#[]⟩ q3 m3 d3 W (ck hb n0) (ck hb n1) (ck hb v0') (ck hb v1') (ck hb v2') (ck hb v3') (ck hb v4') L U z (Lib.hid hT)
  have hnilL : ∀ (y : World), RepL y (Rep y 2) none 0 0 ([] : List (VT 2)) := fun y => ⟨rfl, Nat.le_refl _, Nat.zero_le _, fun h => absurd h (Nat.lt_irrefl _)⟩
  have hnilU : ∀ (y : World), Rep y 1 (.agg #[.int .i64 0, .int .i64 0, .float .f64 0, .string ⟨#[]⟩, .slice none 0 0]) (nilT 0) := fun y => repS_rep _ _ _ (nil_rep 0 (fun _ => True) y)
  have hf : finV K3 F3 = true := by cases h : finV K3 F3; exact absurd (Or.inl h) h1; rfl
  have hsg : 0 < signV K3 I3 F3 := by have : ¬ signV K3 I3 F3 ≤ 0 := fun h => h1 (Or.inr h); omega
  obtain ⟨hA, hG⟩ := amt_of hF hi hf hsg
  refine ldo_bad 36 (by decide) 2 0 0 0 0 p l c _ _ 3 cl w HR HA [] (nilT 0) (Lib.hid (fun W hb => hrun 0 [] (nilT 0) 36 W hb (fun W2 hb2 => ?_)))
  have hrW := repL_acc hb hrl
  obtain ⟨b, off, rfl, _⟩ := hrW.2.2.2 (by omega)
  refine (transfer_funds 0 b off l c a d ka kd K3 I3 F3 ⟨#[]⟩ q3 m3 d3 (asF K3 I3 F3) FA FD (ledA AS) (floT 0 FA) (floT 0 FD) W W2 (Lib.hid hb2) (Lib.hid hrW) (by omega) (Lib.hid hA) hal' hll' hea hspa ⟨rfl, rfl⟩ h2 hdl' hed hspd ⟨rfl, rfl⟩).mono ?_
  rintro e w' ⟨rfl, hb'⟩
  exact ⟨none, 0, _, rfl, hb', fun y _ _ => hnilL y, fun y _ => hnilU y⟩
set_option maxRecDepth 100000 in
set_option maxHeartbeats 4000000 in
theorem known12f (w : World) : Calls Try.prog 4 #[] w fun e w' => e = .returned (.bool true) ∧ Below w.heap.size w w' := by
  have hsum : Flo.cop .add 0 (asF 1 2 0) = 4611686018427387904 := by decide +kernel
  go_enter Try.func4, Try.ntmps4
  go_upto_region 2 with (first
    | (go_at_call 5; refine (list_ref_any _ _ _ _).mono ?_; rintro e w1 ⟨rfl, hb1⟩; have HB1 := Lib.hid hb1; clear hb1)
    | (go_at_call 11; refine (text_ref_any _ _).mono ?_; rintro e w3 ⟨rfl, hb3⟩; have HB3 := Lib.hid (bel_step HB1.out hb3); clear hb3)
    | (go_at_call 7; refine (ldo_open okA_nil (nil_led _) (show LA w3.heap.size [nameV 0 ⟨#[97]⟩] _ from la1_new rfl (by decide)) nm_a 0 (Nat.zero_le _) ⟨Nat.zero_le _, fun t h => absurd h (Nat.not_lt_zero _), fun h => absurd h (Nat.not_lt_zero _), fun _ => rfl⟩ (by decide) (okA_one nm_a (by decide))).mono ?_; rintro e w4 ⟨t, v, rfl, hb4, ht, hv⟩; obtain ⟨Ks, Is, Fs, Ss, qs, ms, ds, rfl, _⟩ := repS_shape ht; obtain ⟨rfl, rfl, rfl, rfl⟩ := led_box ht; obtain ⟨Kn, In, Fn, Sn, qn, mn, dn, rfl, _⟩ := repS_shape hv
       have hal := bel_alloc (bel_alloc (Below.refl w4.heap.size w4) (.cells #[.int .i64 4, .int .i64 0, .float .f64 0, .string ⟨#[]⟩, .slice qs ms ds] 27)) (.cells #[.int .i64 Kn, .int .i64 In, .float .f64 Fn, .string Sn, .slice qn mn dn] 27)
       have HS := Lib.hid (show (FB w w4.heap.size qs ms ds ((w4.alloc (.cells #[.int .i64 4, .int .i64 0, .float .f64 0, .string ⟨#[]⟩, .slice qs ms ds] 27)).alloc (.cells #[.int .i64 Kn, .int .i64 In, .float .f64 Fn, .string Sn, .slice qn mn dn] 27))) ∧ Rep ((w4.alloc (.cells #[.int .i64 4, .int .i64 0, .float .f64 0, .string ⟨#[]⟩, .slice qs ms ds] 27)).alloc (.cells #[.int .i64 Kn, .int .i64 In, .float .f64 Fn, .string Sn, .slice qn mn dn] 27)) 3 (.agg #[.int .i64 4, .int .i64 0, .float .f64 0, .string ⟨#[]⟩, .slice qs ms ds]) (tableT 0 (ledA [(⟨#[97]⟩, 0)])) from
         ⟨⟨cs_alloc (cs_new rfl) _, bel_step (bel_step (bel_alloc HB3.out _) hb4) hal, fun o => row_frz (row_alloc_step (row_alloc w4 #[.int .i64 4, .int .i64 0, .float .f64 0, .string ⟨#[]⟩, .slice qs ms ds] 27) _) o⟩, rep_keep hal _ _ _ (repS_rep _ _ _ ht)⟩)
       have HWS := Lib.hid (Nat.le_trans (bel_alloc HB3.out (.cells #[.int .i64 3, .int .i64 0, .float .f64 0, .string ⟨#[97]⟩, .slice none 0 0] 27)).size hb4.size)
       clear hb4 ht hv hal HB1 HB3))
  revert HS HWS
  generalize (w4.alloc (.cells #[.int .i64 4, .int .i64 0, .float .f64 0, .string ⟨#[]⟩, .slice qs ms ds] 27)).alloc (.cells #[.int .i64 Kn, .int .i64 In, .float .f64 Fn, .string Sn, .slice qn mn dn] 27) = wr
  generalize w4.heap.size = sb
  intro HS HWS
  have HFB := Lib.hid HS.out.1
  have HSTr := Lib.hid HS.out.2
  obtain ⟨z, TT, UU, hz, HDO⟩ : ∃ (z : Int) (TT : VT 3) (UU : VT 1), (z = 0 ∧ TT = tableT 0 (ledA [(⟨#[97]⟩, 4611686018427387904)]) ∧ UU = floT 0 4611686018427387904) ∧ Hid (∀ (W : World) (g : Nat), Rep W 3 (.agg #[.int .i64 4, .int .i64 0, .float .f64 0, .string ⟨#[]⟩, .slice qs ms ds]) (tableT 0 (ledA [(⟨#[97]⟩, 0)])) → LA g [nameV 0 ⟨#[97]⟩, (1, 2, 0, ⟨#[]⟩, [])] W → Calls Try.prog 7 #[.agg #[.int .i64 4, .int .i64 0, .float .f64 0, .string ⟨#[]⟩, .slice qs ms ds], .string { data := #[100, 101, 112, 111, 115, 105, 116] }, .slice (some ⟨g, 0, none⟩) 2 2] W fun e w' => DoQ W 3 1 (TT) (UU) z e w') := ⟨0, _, _, ⟨rfl, rfl, rfl⟩, Lib.hid (fun W g hs hr => by
    have h := ldo_deposit (okA_one nm_a (by decide)) hs hr nm_a rfl 0 (by decide) rfl rfl (by decide) (by rw [hsum]; decide +kernel)
    rw [hsum] at h
    exact h)⟩
  have HZ := Lib.hid hz
  clear hz hsum
  go_cut [4, 5, 6] (fun s7 s8 s9 wx => PutL2 w wr sb qs ms ds TT UU z s7 s8 s9 wx)
  case first =>
    have hsbr : sb < wr.heap.size := cs_lt HFB.out.1
    have hwr : w.heap.size ≤ wr.heap.size := HFB.out.2.1.size
    refine wp_region_held_drew (S := (fun z => z.cell? ⟨sb, 0, none⟩ = some (.int .i64 4) ∧ z.cell? ⟨sb, 1, none⟩ = some (.int .i64 0) ∧ z.cell? ⟨sb, 2, none⟩ = some (.float .f64 0) ∧ z.cell? ⟨sb, 3, none⟩ = some (.string ⟨#[]⟩) ∧ z.cell? ⟨sb, 4, none⟩ = some (.slice qs ms ds))) (by kernel_rfl) ?_ (fun hH => ?_)
    · exact (fb_drew HFB.out).1
    have HDW := Lib.hid (show FB w sb qs ms ds wr.drew ∧ Below wr.heap.size wr wr.drew from ⟨fb_drew HFB.out, Below.drew br⟩)
    revert HDW hH
    generalize wr.drew = Wd
    intro hH HDW
    have hq := HDW.out.1
    have hbd := HDW.out.2
    refine zt [0] ?_
    refine zt1 (fun _ _ d _ _ h => by cases d <;> exact h) (by simp only [lk0, lk1, lk2]; rfl) (by kernel_rfl) (by assumption) (by rfl) (fun w h => by (try dsimp only at h); go_simp; (try with_reducible rfl)) ?_; (try simp only [Act.put, pk0, pk1, pk2])
    refine zt0 ?_
    refine any_have 3 [9, 10, 1, 2, 3, 4, 5, 6, 7, 8] (fun a a' w' => ∃ (gA gB gE : Nat), ∃ (Kt It : Int) (Ft : Nat) (Zt : ByteArray) (qt : Option Addr) (mt dt : Nat) (Kv Iv : Int) (Fv : Nat) (Zv : ByteArray) (qv : Option Addr) (mv dv : Nat), a' = ((((((((((a.put (some 4) (.pointer (some ⟨gA, 0, none⟩))).put (some 5) (.pointer (some ⟨gB, 0, none⟩))).put (some 20) (.agg #[.int .i64 3, .int .i64 0, .float .f64 0, .string ⟨#[97]⟩, .slice none 0 0])).put (some 21) (.agg #[.int .i64 1, .int .i64 2, .float .f64 0, .string ⟨#[]⟩, .slice none 0 0])).put (some 22) (.slice (some ⟨gE, 0, none⟩) 2 2)).put (some 23) (.tuple #[.agg #[.int .i64 Kt, .int .i64 It, .float .f64 Ft, .string Zt, .slice qt mt dt], .agg #[.int .i64 Kv, .int .i64 Iv, .float .f64 Fv, .string Zv, .slice qv mv dv], .int .i64 z])).put (some 18) (.tuple #[.agg #[.int .i64 Kt, .int .i64 It, .float .f64 Ft, .string Zt, .slice qt mt dt], .agg #[.int .i64 Kv, .int .i64 Iv, .float .f64 Fv, .string Zv, .slice qv mv dv], .int .i64 z])).put (some 24) (.agg #[.int .i64 Kt, .int .i64 It, .float .f64 Ft, .string Zt, .slice qt mt dt])).put (some 25) (.agg #[.int .i64 Kv, .int .i64 Iv, .float .f64 Fv, .string Zv, .slice qv mv dv])).put (some 26) (.int .i64 z)) ∧ FB w sb qs ms ds w' ∧ Below wr.heap.size wr w' ∧ SBX w' gA (.int .i64 0) (.int .i64 0) (.float .f64 0) (.string ⟨#[]⟩) (.slice none 0 0) ∧ wr.heap.size ≤ gA ∧ SBX w' gB (.int .i64 0) (.int .i64 0) (.float .f64 0) (.string ⟨#[]⟩) (.slice none 0 0) ∧ wr.heap.size ≤ gB ∧ gA ≠ gB ∧ RepS (fun b => wr.heap.size ≤ b ∧ b ≠ gA ∧ b ≠ gB) w' 3 (.agg #[.int .i64 Kt, .int .i64 It, .float .f64 Ft, .string Zt, .slice qt mt dt]) (TT) ∧ RepS (fun b => wr.heap.size ≤ b ∧ b ≠ gA ∧ b ≠ gB) w' 1 (.agg #[.int .i64 Kv, .int .i64 Iv, .float .f64 Fv, .string Zv, .slice qv mv dv]) (UU)) ?phK114km (fun hK114 => ?_)
    case phK114km =>
      intro a' w' hst hH
      obtain ⟨gA, gB, gE, Kt, It, Ft, Zt, qt, mt, dt, Kv, Iv, Fv, Zv, qv, mv, dv, rfl, hq, hbd, hsA, hgA, hsB, hgB, hne, ht, hv⟩ := hst
      (try simp only [Act.put, pk0, pk1, pk2])
      have hcA := hsA.1; have hcB := hsB.1
      refine zr1 11 (by kernel_rfl) (by simp only [lk0, lk1, lk2]; rfl) (fun K hK => ?_)
      have bb0 := hsA.1.1; have bb1 := hsA.1.2.1; have bb2 := hsA.1.2.2.1; have bb3 := hsA.1.2.2.2.1; have bb4 := hsA.1.2.2.2.2; have bbf := hsA.2; have bbl := cell_lt bb0; go_simp
      have hqA : FB w sb qs ms ds (((((w'.setCell ⟨gA, 0, none⟩ (.int .i64 Kt)).setCell ⟨gA, 1, none⟩ (.int .i64 It)).setCell ⟨gA, 2, none⟩ (.float .f64 Ft)).setCell ⟨gA, 3, none⟩ (.string Zt)).setCell ⟨gA, 4, none⟩ (.slice qt mt dt)) := fb_set hq (by have h := hgA; omega) (by have h := hgA; omega)
      refine hK.out _ _ ?hs11hK114km (fun hH => ?_)
      case hs11hK114km => exact (hqA).1
      clear hK K bb0 bb1 bb2 bb3 bb4 bbf bbl
      (try simp only [Act.put, pk0, pk1, pk2])
      refine zr1 12 (by kernel_rfl) (by simp only [lk0, lk1, lk2]; rfl) (fun K hK => ?_)
      have bb0 := hsB.1.1; have bb1 := hsB.1.2.1; have bb2 := hsB.1.2.2.1; have bb3 := hsB.1.2.2.2.1; have bb4 := hsB.1.2.2.2.2; have bbf := hsB.2; have bbl := cell_lt bb0; go_simp
      have hqB : FB w sb qs ms ds ((((((((((w'.setCell ⟨gA, 0, none⟩ (.int .i64 Kt)).setCell ⟨gA, 1, none⟩ (.int .i64 It)).setCell ⟨gA, 2, none⟩ (.float .f64 Ft)).setCell ⟨gA, 3, none⟩ (.string Zt)).setCell ⟨gA, 4, none⟩ (.slice qt mt dt)).setCell ⟨gB, 0, none⟩ (.int .i64 Kv)).setCell ⟨gB, 1, none⟩ (.int .i64 Iv)).setCell ⟨gB, 2, none⟩ (.float .f64 Fv)).setCell ⟨gB, 3, none⟩ (.string Zv)).setCell ⟨gB, 4, none⟩ (.slice qv mv dv)) := fb_set hqA (by have h := hgB; omega) (by have h := hgB; omega)
      refine hK.out _ _ ?hs12hK114km (fun hH => ?_)
      case hs12hK114km => exact (hqB).1
      clear hK K bb0 bb1 bb2 bb3 bb4 bbf bbl
      (try simp only [Act.put, pk0, pk1, pk2])
      refine zt [13] ?_
      refine zt1 (fun _ _ d _ _ h => by cases d <;> exact h) (by simp only [lk0, lk1, lk2]; rfl) (by kernel_rfl) (by assumption) (by rfl) (fun w h => by (try dsimp only at h); go_simp; (try with_reducible rfl)) ?_; (try simp only [Act.put, pk0, pk1, pk2])
      refine zt0 ?_
      refine wpAnyH_done (by kernel_rfl) ?_ _
      have HGF := Lib.hid (show (fun z0 : World => CS z0 gA (.int .i64 Kt) (.int .i64 It) (.float .f64 Ft) (.string Zt) (.slice qt mt dt) ∧ CS z0 gB (.int .i64 Kv) (.int .i64 Iv) (.float .f64 Fv) (.string Zv) (.slice qv mv dv) ∧ FB w sb qs ms ds z0 ∧ Below wr.heap.size wr z0 ∧ RepS (fun b => wr.heap.size ≤ b ∧ b ≠ gA ∧ b ≠ gB) z0 3 (.agg #[.int .i64 Kt, .int .i64 It, .float .f64 Ft, .string Zt, .slice qt mt dt]) (TT) ∧ RepS (fun b => wr.heap.size ≤ b ∧ b ≠ gA ∧ b ≠ gB) z0 1 (.agg #[.int .i64 Kv, .int .i64 Iv, .float .f64 Fv, .string Zv, .slice qv mv dv]) (UU) ∧ wr.heap.size ≤ gA ∧ wr.heap.size ≤ gB) ((((((((((w'.setCell ⟨gA, 0, none⟩ (.int .i64 Kt)).setCell ⟨gA, 1, none⟩ (.int .i64 It)).setCell ⟨gA, 2, none⟩ (.float .f64 Ft)).setCell ⟨gA, 3, none⟩ (.string Zt)).setCell ⟨gA, 4, none⟩ (.slice qt mt dt)).setCell ⟨gB, 0, none⟩ (.int .i64 Kv)).setCell ⟨gB, 1, none⟩ (.int .i64 Iv)).setCell ⟨gB, 2, none⟩ (.float .f64 Fv)).setCell ⟨gB, 3, none⟩ (.string Zv)).setCell ⟨gB, 4, none⟩ (.slice qv mv dv)) from ⟨cs_other (cs_set5 hsA.1) hne, cs_set5 (cs_other hsB.1 hne.symm), hqB, bel_set5 (bel_set5 hbd hgA) hgB, repS_set (repS_set ht (fun b hb => hb.2.1)) (fun b hb => hb.2.2), repS_set (repS_set hv (fun b hb => hb.2.1)) (fun b hb => hb.2.2), hgA, hgB⟩)
      clear hq hqA hqB hbd hsA hsB hcA hcB ht hv hH
      revert HGF
      generalize ((((((((((w'.setCell ⟨gA, 0, none⟩ (.int .i64 Kt)).setCell ⟨gA, 1, none⟩ (.int .i64 It)).setCell ⟨gA, 2, none⟩ (.float .f64 Ft)).setCell ⟨gA, 3, none⟩ (.string Zt)).setCell ⟨gA, 4, none⟩ (.slice qt mt dt)).setCell ⟨gB, 0, none⟩ (.int .i64 Kv)).setCell ⟨gB, 1, none⟩ (.int .i64 Iv)).setCell ⟨gB, 2, none⟩ (.float .f64 Fv)).setCell ⟨gB, 3, none⟩ (.string Zv)).setCell ⟨gB, 4, none⟩ (.slice qv mv dv)) = Wg
      intro HGF
      go_wp2_with fail
      go_meet
      exact ⟨_, _, Kt, It, Ft, Zt, qt, mt, dt, Kv, Iv, Fv, Zv, qv, mv, dv, rfl, rfl, rfl, HGF.out⟩
    refine any_have 4 [9, 1, 2, 3, 4, 5, 6, 7, 8] (fun a a' w' => ∃ (gA gE : Nat), ∃ (Kt It : Int) (Ft : Nat) (Zt : ByteArray) (qt : Option Addr) (mt dt : Nat) (Kv Iv : Int) (Fv : Nat) (Zv : ByteArray) (qv : Option Addr) (mv dv : Nat), a' = (((((((((a.put (some 4) (.pointer (some ⟨gA, 0, none⟩))).put (some 20) (.agg #[.int .i64 3, .int .i64 0, .float .f64 0, .string ⟨#[97]⟩, .slice none 0 0])).put (some 21) (.agg #[.int .i64 1, .int .i64 2, .float .f64 0, .string ⟨#[]⟩, .slice none 0 0])).put (some 22) (.slice (some ⟨gE, 0, none⟩) 2 2)).put (some 23) (.tuple #[.agg #[.int .i64 Kt, .int .i64 It, .float .f64 Ft, .string Zt, .slice qt mt dt], .agg #[.int .i64 Kv, .int .i64 Iv, .float .f64 Fv, .string Zv, .slice qv mv dv], .int .i64 z])).put (some 18) (.tuple #[.agg #[.int .i64 Kt, .int .i64 It, .float .f64 Ft, .string Zt, .slice qt mt dt], .agg #[.int .i64 Kv, .int .i64 Iv, .float .f64 Fv, .string Zv, .slice qv mv dv], .int .i64 z])).put (some 24) (.agg #[.int .i64 Kt, .int .i64 It, .float .f64 Ft, .string Zt, .slice qt mt dt])).put (some 25) (.agg #[.int .i64 Kv, .int .i64 Iv, .float .f64 Fv, .string Zv, .slice qv mv dv])).put (some 26) (.int .i64 z)) ∧ FB w sb qs ms ds w' ∧ Below wr.heap.size wr w' ∧ SBX w' gA (.int .i64 0) (.int .i64 0) (.float .f64 0) (.string ⟨#[]⟩) (.slice none 0 0) ∧ wr.heap.size ≤ gA ∧ RepS (fun b => wr.heap.size ≤ b ∧ b ≠ gA) w' 3 (.agg #[.int .i64 Kt, .int .i64 It, .float .f64 Ft, .string Zt, .slice qt mt dt]) (TT) ∧ RepS (fun b => wr.heap.size ≤ b ∧ b ≠ gA) w' 1 (.agg #[.int .i64 Kv, .int .i64 Iv, .float .f64 Fv, .string Zv, .slice qv mv dv]) (UU)) ?phK104km (fun hK104 => ?_)
    case phK104km =>
      intro a' w' hst hH
      obtain ⟨gA, gE, Kt, It, Ft, Zt, qt, mt, dt, Kv, Iv, Fv, Zv, qv, mv, dv, rfl, hq, hbd, hsA, hgA, ht, hv⟩ := hst
      (try simp only [Act.put, pk0, pk1, pk2])
      refine wpAnyH_ready (rs := [10]) (by kernel_rfl) (by simp) ?_
      refine AllReadyH.cons (o := ?_) ?hoBhK104km ?hstBhK104km AllReadyH.nil
      case hoBhK104km => (simp only [lk0, lk1, lk2]; rfl)
      case hstBhK104km =>
        intro K hK
        go_simp
        refine hK.out _ _ ?hsBhK104km (fun hH => ?_)
        case hsBhK104km => exact ((fb_step hq bz)).1
        clear hK K
        (try simp only [Act.put, pk0, pk1, pk2])
        exact any_eq (by kernel_rfl) (by kernel_rfl) (hK114 _ _ ⟨gA, _, gE, Kt, It, Ft, Zt, qt, mt, dt, Kv, Iv, Fv, Zv, qv, mv, dv, rfl, (fb_step hq bz), (bel_step hbd bz), (sbx_step hsA bz), hgA, ⟨cs_new rfl, fun o => row_frz (row_alloc _ _ _) o⟩, hbd.size, (by have h := cs_lt hsA.1; omega), (repS_step bz (repS_mono (fun b hb => ⟨hb.1.1, hb.1.2, Nat.ne_of_lt hb.2⟩) _ _ _ (repS_lt _ _ _ ht))), (repS_step bz (repS_mono (fun b hb => ⟨hb.1.1, hb.1.2, Nat.ne_of_lt hb.2⟩) _ _ _ (repS_lt _ _ _ hv)))⟩ hH)
    refine any_have 4 [10, 1, 2, 3, 4, 5, 6, 7, 8] (fun a a' w' => ∃ (gB gE : Nat), ∃ (Kt It : Int) (Ft : Nat) (Zt : ByteArray) (qt : Option Addr) (mt dt : Nat) (Kv Iv : Int) (Fv : Nat) (Zv : ByteArray) (qv : Option Addr) (mv dv : Nat), a' = (((((((((a.put (some 5) (.pointer (some ⟨gB, 0, none⟩))).put (some 20) (.agg #[.int .i64 3, .int .i64 0, .float .f64 0, .string ⟨#[97]⟩, .slice none 0 0])).put (some 21) (.agg #[.int .i64 1, .int .i64 2, .float .f64 0, .string ⟨#[]⟩, .slice none 0 0])).put (some 22) (.slice (some ⟨gE, 0, none⟩) 2 2)).put (some 23) (.tuple #[.agg #[.int .i64 Kt, .int .i64 It, .float .f64 Ft, .string Zt, .slice qt mt dt], .agg #[.int .i64 Kv, .int .i64 Iv, .float .f64 Fv, .string Zv, .slice qv mv dv], .int .i64 z])).put (some 18) (.tuple #[.agg #[.int .i64 Kt, .int .i64 It, .float .f64 Ft, .string Zt, .slice qt mt dt], .agg #[.int .i64 Kv, .int .i64 Iv, .float .f64 Fv, .string Zv, .slice qv mv dv], .int .i64 z])).put (some 24) (.agg #[.int .i64 Kt, .int .i64 It, .float .f64 Ft, .string Zt, .slice qt mt dt])).put (some 25) (.agg #[.int .i64 Kv, .int .i64 Iv, .float .f64 Fv, .string Zv, .slice qv mv dv])).put (some 26) (.int .i64 z)) ∧ FB w sb qs ms ds w' ∧ Below wr.heap.size wr w' ∧ SBX w' gB (.int .i64 0) (.int .i64 0) (.float .f64 0) (.string ⟨#[]⟩) (.slice none 0 0) ∧ wr.heap.size ≤ gB ∧ RepS (fun b => wr.heap.size ≤ b ∧ b ≠ gB) w' 3 (.agg #[.int .i64 Kt, .int .i64 It, .float .f64 Ft, .string Zt, .slice qt mt dt]) (TT) ∧ RepS (fun b => wr.heap.size ≤ b ∧ b ≠ gB) w' 1 (.agg #[.int .i64 Kv, .int .i64 Iv, .float .f64 Fv, .string Zv, .slice qv mv dv]) (UU)) ?phK014km (fun hK014 => ?_)
    case phK014km =>
      intro a' w' hst hH
      obtain ⟨gB, gE, Kt, It, Ft, Zt, qt, mt, dt, Kv, Iv, Fv, Zv, qv, mv, dv, rfl, hq, hbd, hsB, hgB, ht, hv⟩ := hst
      (try simp only [Act.put, pk0, pk1, pk2])
      refine wpAnyH_ready (rs := [9]) (by kernel_rfl) (by simp) ?_
      refine AllReadyH.cons (o := ?_) ?hoAhK014km ?hstAhK014km AllReadyH.nil
      case hoAhK014km => (simp only [lk0, lk1, lk2]; rfl)
      case hstAhK014km =>
        intro K hK
        go_simp
        refine hK.out _ _ ?hsAhK014km (fun hH => ?_)
        case hsAhK014km => exact ((fb_step hq bz)).1
        clear hK K
        (try simp only [Act.put, pk0, pk1, pk2])
        exact any_eq (by kernel_rfl) (by kernel_rfl) (hK114 _ _ ⟨_, gB, gE, Kt, It, Ft, Zt, qt, mt, dt, Kv, Iv, Fv, Zv, qv, mv, dv, rfl, (fb_step hq bz), (bel_step hbd bz), ⟨cs_new rfl, fun o => row_frz (row_alloc _ _ _) o⟩, hbd.size, (sbx_step hsB bz), hgB, (by have h := cs_lt hsB.1; omega), (repS_step bz (repS_mono (fun b hb => ⟨hb.1.1, Nat.ne_of_lt hb.2, hb.1.2⟩) _ _ _ (repS_lt _ _ _ ht))), (repS_step bz (repS_mono (fun b hb => ⟨hb.1.1, Nat.ne_of_lt hb.2, hb.1.2⟩) _ _ _ (repS_lt _ _ _ hv)))⟩ hH)
    refine any_have 5 [1, 2, 3, 4, 5, 6, 7, 8] (fun a a' w' => ∃ (gE : Nat), ∃ (Kt It : Int) (Ft : Nat) (Zt : ByteArray) (qt : Option Addr) (mt dt : Nat) (Kv Iv : Int) (Fv : Nat) (Zv : ByteArray) (qv : Option Addr) (mv dv : Nat), a' = ((((((((a.put (some 20) (.agg #[.int .i64 3, .int .i64 0, .float .f64 0, .string ⟨#[97]⟩, .slice none 0 0])).put (some 21) (.agg #[.int .i64 1, .int .i64 2, .float .f64 0, .string ⟨#[]⟩, .slice none 0 0])).put (some 22) (.slice (some ⟨gE, 0, none⟩) 2 2)).put (some 23) (.tuple #[.agg #[.int .i64 Kt, .int .i64 It, .float .f64 Ft, .string Zt, .slice qt mt dt], .agg #[.int .i64 Kv, .int .i64 Iv, .float .f64 Fv, .string Zv, .slice qv mv dv], .int .i64 z])).put (some 18) (.tuple #[.agg #[.int .i64 Kt, .int .i64 It, .float .f64 Ft, .string Zt, .slice qt mt dt], .agg #[.int .i64 Kv, .int .i64 Iv, .float .f64 Fv, .string Zv, .slice qv mv dv], .int .i64 z])).put (some 24) (.agg #[.int .i64 Kt, .int .i64 It, .float .f64 Ft, .string Zt, .slice qt mt dt])).put (some 25) (.agg #[.int .i64 Kv, .int .i64 Iv, .float .f64 Fv, .string Zv, .slice qv mv dv])).put (some 26) (.int .i64 z)) ∧ FB w sb qs ms ds w' ∧ Below wr.heap.size wr w' ∧ RepS (fun b => wr.heap.size ≤ b) w' 3 (.agg #[.int .i64 Kt, .int .i64 It, .float .f64 Ft, .string Zt, .slice qt mt dt]) (TT) ∧ RepS (fun b => wr.heap.size ≤ b) w' 1 (.agg #[.int .i64 Kv, .int .i64 Iv, .float .f64 Fv, .string Zv, .slice qv mv dv]) (UU)) ?phK004km (fun hK004 => ?_)
    case phK004km =>
      intro a' w' hst hH
      obtain ⟨gE, Kt, It, Ft, Zt, qt, mt, dt, Kv, Iv, Fv, Zv, qv, mv, dv, rfl, hq, hbd, ht, hv⟩ := hst
      (try simp only [Act.put, pk0, pk1, pk2])
      refine wpAnyH_ready (rs := [9, 10]) (by kernel_rfl) (by simp) ?_
      refine AllReadyH.cons (o := ?_) ?hoAhK004km ?hstAhK004km (AllReadyH.cons (o := ?_) ?hoBhK004km ?hstBhK004km AllReadyH.nil)
      case hoAhK004km => (simp only [lk0, lk1, lk2]; rfl)
      case hoBhK004km => (simp only [lk0, lk1, lk2]; rfl)
      case hstAhK004km =>
        intro K hK
        go_simp
        refine hK.out _ _ ?hsAhK004km (fun hH => ?_)
        case hsAhK004km => exact ((fb_step hq bz)).1
        clear hK K
        (try simp only [Act.put, pk0, pk1, pk2])
        exact any_eq (by kernel_rfl) (by kernel_rfl) (hK104 _ _ ⟨_, gE, Kt, It, Ft, Zt, qt, mt, dt, Kv, Iv, Fv, Zv, qv, mv, dv, rfl, (fb_step hq bz), (bel_step hbd bz), ⟨cs_new rfl, fun o => row_frz (row_alloc _ _ _) o⟩, hbd.size, (repS_step bz (repS_mono (fun b hb => ⟨hb.1, Nat.ne_of_lt hb.2⟩) _ _ _ (repS_lt _ _ _ ht))), (repS_step bz (repS_mono (fun b hb => ⟨hb.1, Nat.ne_of_lt hb.2⟩) _ _ _ (repS_lt _ _ _ hv)))⟩ hH)
      case hstBhK004km =>
        intro K hK
        go_simp
        refine hK.out _ _ ?hsBhK004km (fun hH => ?_)
        case hsBhK004km => exact ((fb_step hq bz)).1
        clear hK K
        (try simp only [Act.put, pk0, pk1, pk2])
        exact any_eq (by kernel_rfl) (by kernel_rfl) (hK014 _ _ ⟨_, gE, Kt, It, Ft, Zt, qt, mt, dt, Kv, Iv, Fv, Zv, qv, mv, dv, rfl, (fb_step hq bz), (bel_step hbd bz), ⟨cs_new rfl, fun o => row_frz (row_alloc _ _ _) o⟩, hbd.size, (repS_step bz (repS_mono (fun b hb => ⟨hb.1, Nat.ne_of_lt hb.2⟩) _ _ _ (repS_lt _ _ _ ht))), (repS_step bz (repS_mono (fun b hb => ⟨hb.1, Nat.ne_of_lt hb.2⟩) _ _ _ (repS_lt _ _ _ hv)))⟩ hH)
    refine any_have 8 [9, 10, 1, 2, 3] (fun a a' w' => ∃ (gA gB gE : Nat), a' = (((((a.put (some 4) (.pointer (some ⟨gA, 0, none⟩))).put (some 5) (.pointer (some ⟨gB, 0, none⟩))).put (some 20) (.agg #[.int .i64 3, .int .i64 0, .float .f64 0, .string ⟨#[97]⟩, .slice none 0 0])).put (some 21) (.agg #[.int .i64 1, .int .i64 2, .float .f64 0, .string ⟨#[]⟩, .slice none 0 0])).put (some 22) (.slice (some ⟨gE, 0, none⟩) 2 2)) ∧ FB w sb qs ms ds w' ∧ Below wr.heap.size wr w' ∧ SBX w' gA (.int .i64 0) (.int .i64 0) (.float .f64 0) (.string ⟨#[]⟩) (.slice none 0 0) ∧ wr.heap.size ≤ gA ∧ SBX w' gB (.int .i64 0) (.int .i64 0) (.float .f64 0) (.string ⟨#[]⟩) (.slice none 0 0) ∧ wr.heap.size ≤ gB ∧ gA ≠ gB ∧ LA gE [nameV 0 ⟨#[97]⟩, (1, 2, 0, ⟨#[]⟩, [])] w') ?phK113km (fun hK113 => ?_)
    case phK113km =>
      intro a' w' hst hH
      obtain ⟨gA, gB, gE, rfl, hq, hbd, hsA, hgA, hsB, hgB, hne, hlv⟩ := hst
      (try simp only [Act.put, pk0, pk1, pk2])
      refine wpAnyH_ready (rs := [4]) (by kernel_rfl) (by simp) ?_
      refine AllReadyH.cons (o := ?_) ?hoXhK113km ?hstXhK113km AllReadyH.nil
      case hoXhK113km => (simp only [lk0, lk1, lk2]; rfl)
      case hstXhK113km =>
        intro K hK
        go_simp
        have hrp := rep_keep hbd _ _ _ HSTr.out; go_at_call 7; refine (HDO.out _ _ hrp hlv).mono ?_; rintro e wD ⟨tt, vv, rfl, hbT, ht, hv⟩; obtain ⟨Kt, It, Ft, Zt, qt, mt, dt, rfl, _⟩ := repS_shape ht; obtain ⟨Kv, Iv, Fv, Zv, qv, mv, dv, rfl, _⟩ := repS_shape hv
        go_wp2_with fail
        refine hK.out _ _ ?hsXhK113km (fun hH => ?_)
        case hsXhK113km => exact ((fb_step hq hbT)).1
        clear hK K
        (try simp only [Act.put, pk0, pk1, pk2])
        refine zt [5, 6, 7, 8] ?_
        iterate 4 (refine zt1 (fun _ _ d _ _ h => by cases d <;> exact h) (by simp only [lk0, lk1, lk2]; rfl) (by kernel_rfl) (by assumption) (by rfl) (fun w h => by (try dsimp only at h); go_simp; (try with_reducible rfl)) ?_; (try simp only [Act.put, pk0, pk1, pk2]))
        refine zt0 ?_
        exact any_eq (by kernel_rfl) (by kernel_rfl) (hK114 _ _ ⟨gA, gB, gE, Kt, It, Ft, Zt, qt, mt, dt, Kv, Iv, Fv, Zv, qv, mv, dv, rfl, (fb_step hq hbT), (bel_step hbd hbT), (sbx_step hsA hbT), hgA, (sbx_step hsB hbT), hgB, hne, (repS_mono (fun b hb => ⟨Nat.le_trans hbd.size hb, (by have h := cs_lt hsA.1; have h2 : _ ≤ b := hb; omega), (by have h := cs_lt hsB.1; have h2 : _ ≤ b := hb; omega)⟩) _ _ _ ht), (repS_mono (fun b hb => ⟨Nat.le_trans hbd.size hb, (by have h := cs_lt hsA.1; have h2 : _ ≤ b := hb; omega), (by have h := cs_lt hsB.1; have h2 : _ ≤ b := hb; omega)⟩) _ _ _ hv)⟩ hH)
    refine any_have 9 [9, 1, 2, 3] (fun a a' w' => ∃ (gA gE : Nat), a' = ((((a.put (some 4) (.pointer (some ⟨gA, 0, none⟩))).put (some 20) (.agg #[.int .i64 3, .int .i64 0, .float .f64 0, .string ⟨#[97]⟩, .slice none 0 0])).put (some 21) (.agg #[.int .i64 1, .int .i64 2, .float .f64 0, .string ⟨#[]⟩, .slice none 0 0])).put (some 22) (.slice (some ⟨gE, 0, none⟩) 2 2)) ∧ FB w sb qs ms ds w' ∧ Below wr.heap.size wr w' ∧ SBX w' gA (.int .i64 0) (.int .i64 0) (.float .f64 0) (.string ⟨#[]⟩) (.slice none 0 0) ∧ wr.heap.size ≤ gA ∧ LA gE [nameV 0 ⟨#[97]⟩, (1, 2, 0, ⟨#[]⟩, [])] w') ?phK103km (fun hK103 => ?_)
    case phK103km =>
      intro a' w' hst hH
      obtain ⟨gA, gE, rfl, hq, hbd, hsA, hgA, hlv⟩ := hst
      (try simp only [Act.put, pk0, pk1, pk2])
      refine wpAnyH_ready (rs := [4, 10]) (by kernel_rfl) (by simp) ?_
      refine AllReadyH.cons (o := ?_) ?hoXhK103km ?hstXhK103km (AllReadyH.cons (o := ?_) ?hoBhK103km ?hstBhK103km AllReadyH.nil)
      case hoXhK103km => (simp only [lk0, lk1, lk2]; rfl)
      case hoBhK103km => (simp only [lk0, lk1, lk2]; rfl)
      case hstXhK103km =>
        intro K hK
        go_simp
        have hrp := rep_keep hbd _ _ _ HSTr.out; go_at_call 7; refine (HDO.out _ _ hrp hlv).mono ?_; rintro e wD ⟨tt, vv, rfl, hbT, ht, hv⟩; obtain ⟨Kt, It, Ft, Zt, qt, mt, dt, rfl, _⟩ := repS_shape ht; obtain ⟨Kv, Iv, Fv, Zv, qv, mv, dv, rfl, _⟩ := repS_shape hv
        go_wp2_with fail
        refine hK.out _ _ ?hsXhK103km (fun hH => ?_)
        case hsXhK103km => exact ((fb_step hq hbT)).1
        clear hK K
        (try simp only [Act.put, pk0, pk1, pk2])
        refine zt [5, 6, 7, 8] ?_
        iterate 4 (refine zt1 (fun _ _ d _ _ h => by cases d <;> exact h) (by simp only [lk0, lk1, lk2]; rfl) (by kernel_rfl) (by assumption) (by rfl) (fun w h => by (try dsimp only at h); go_simp; (try with_reducible rfl)) ?_; (try simp only [Act.put, pk0, pk1, pk2]))
        refine zt0 ?_
        exact any_eq (by kernel_rfl) (by kernel_rfl) (hK104 _ _ ⟨gA, gE, Kt, It, Ft, Zt, qt, mt, dt, Kv, Iv, Fv, Zv, qv, mv, dv, rfl, (fb_step hq hbT), (bel_step hbd hbT), (sbx_step hsA hbT), hgA, (repS_mono (fun b hb => ⟨Nat.le_trans hbd.size hb, (by have h := cs_lt hsA.1; have h2 : _ ≤ b := hb; omega)⟩) _ _ _ ht), (repS_mono (fun b hb => ⟨Nat.le_trans hbd.size hb, (by have h := cs_lt hsA.1; have h2 : _ ≤ b := hb; omega)⟩) _ _ _ hv)⟩ hH)
      case hstBhK103km =>
        intro K hK
        go_simp
        refine hK.out _ _ ?hsBhK103km (fun hH => ?_)
        case hsBhK103km => exact ((fb_step hq bz)).1
        clear hK K
        (try simp only [Act.put, pk0, pk1, pk2])
        exact any_eq (by kernel_rfl) (by kernel_rfl) (hK113 _ _ ⟨gA, _, gE, rfl, (fb_step hq bz), (bel_step hbd bz), (sbx_step hsA bz), hgA, ⟨cs_new rfl, fun o => row_frz (row_alloc _ _ _) o⟩, hbd.size, (by have h := cs_lt hsA.1; omega), (la_step hlv bz)⟩ hH)
    refine any_have 9 [10, 1, 2, 3] (fun a a' w' => ∃ (gB gE : Nat), a' = ((((a.put (some 5) (.pointer (some ⟨gB, 0, none⟩))).put (some 20) (.agg #[.int .i64 3, .int .i64 0, .float .f64 0, .string ⟨#[97]⟩, .slice none 0 0])).put (some 21) (.agg #[.int .i64 1, .int .i64 2, .float .f64 0, .string ⟨#[]⟩, .slice none 0 0])).put (some 22) (.slice (some ⟨gE, 0, none⟩) 2 2)) ∧ FB w sb qs ms ds w' ∧ Below wr.heap.size wr w' ∧ SBX w' gB (.int .i64 0) (.int .i64 0) (.float .f64 0) (.string ⟨#[]⟩) (.slice none 0 0) ∧ wr.heap.size ≤ gB ∧ LA gE [nameV 0 ⟨#[97]⟩, (1, 2, 0, ⟨#[]⟩, [])] w') ?phK013km (fun hK013 => ?_)
    case phK013km =>
      intro a' w' hst hH
      obtain ⟨gB, gE, rfl, hq, hbd, hsB, hgB, hlv⟩ := hst
      (try simp only [Act.put, pk0, pk1, pk2])
      refine wpAnyH_ready (rs := [4, 9]) (by kernel_rfl) (by simp) ?_
      refine AllReadyH.cons (o := ?_) ?hoXhK013km ?hstXhK013km (AllReadyH.cons (o := ?_) ?hoAhK013km ?hstAhK013km AllReadyH.nil)
      case hoXhK013km => (simp only [lk0, lk1, lk2]; rfl)
      case hoAhK013km => (simp only [lk0, lk1, lk2]; rfl)
      case hstXhK013km =>
        intro K hK
        go_simp
        have hrp := rep_keep hbd _ _ _ HSTr.out; go_at_call 7; refine (HDO.out _ _ hrp hlv).mono ?_; rintro e wD ⟨tt, vv, rfl, hbT, ht, hv⟩; obtain ⟨Kt, It, Ft, Zt, qt, mt, dt, rfl, _⟩ := repS_shape ht; obtain ⟨Kv, Iv, Fv, Zv, qv, mv, dv, rfl, _⟩ := repS_shape hv
        go_wp2_with fail
        refine hK.out _ _ ?hsXhK013km (fun hH => ?_)
        case hsXhK013km => exact ((fb_step hq hbT)).1
        clear hK K
        (try simp only [Act.put, pk0, pk1, pk2])
        refine zt [5, 6, 7, 8] ?_
        iterate 4 (refine zt1 (fun _ _ d _ _ h => by cases d <;> exact h) (by simp only [lk0, lk1, lk2]; rfl) (by kernel_rfl) (by assumption) (by rfl) (fun w h => by (try dsimp only at h); go_simp; (try with_reducible rfl)) ?_; (try simp only [Act.put, pk0, pk1, pk2]))
        refine zt0 ?_
        exact any_eq (by kernel_rfl) (by kernel_rfl) (hK014 _ _ ⟨gB, gE, Kt, It, Ft, Zt, qt, mt, dt, Kv, Iv, Fv, Zv, qv, mv, dv, rfl, (fb_step hq hbT), (bel_step hbd hbT), (sbx_step hsB hbT), hgB, (repS_mono (fun b hb => ⟨Nat.le_trans hbd.size hb, (by have h := cs_lt hsB.1; have h2 : _ ≤ b := hb; omega)⟩) _ _ _ ht), (repS_mono (fun b hb => ⟨Nat.le_trans hbd.size hb, (by have h := cs_lt hsB.1; have h2 : _ ≤ b := hb; omega)⟩) _ _ _ hv)⟩ hH)
      case hstAhK013km =>
        intro K hK
        go_simp
        refine hK.out _ _ ?hsAhK013km (fun hH => ?_)
        case hsAhK013km => exact ((fb_step hq bz)).1
        clear hK K
        (try simp only [Act.put, pk0, pk1, pk2])
        exact any_eq (by kernel_rfl) (by kernel_rfl) (hK113 _ _ ⟨_, gB, gE, rfl, (fb_step hq bz), (bel_step hbd bz), ⟨cs_new rfl, fun o => row_frz (row_alloc _ _ _) o⟩, hbd.size, (sbx_step hsB bz), hgB, (by have h := cs_lt hsB.1; omega), (la_step hlv bz)⟩ hH)
    refine any_have 10 [1, 2, 3] (fun a a' w' => ∃ (gE : Nat), a' = (((a.put (some 20) (.agg #[.int .i64 3, .int .i64 0, .float .f64 0, .string ⟨#[97]⟩, .slice none 0 0])).put (some 21) (.agg #[.int .i64 1, .int .i64 2, .float .f64 0, .string ⟨#[]⟩, .slice none 0 0])).put (some 22) (.slice (some ⟨gE, 0, none⟩) 2 2)) ∧ FB w sb qs ms ds w' ∧ Below wr.heap.size wr w' ∧ LA gE [nameV 0 ⟨#[97]⟩, (1, 2, 0, ⟨#[]⟩, [])] w') ?phK003km (fun hK003 => ?_)
    case phK003km =>
      intro a' w' hst hH
      obtain ⟨gE, rfl, hq, hbd, hlv⟩ := hst
      (try simp only [Act.put, pk0, pk1, pk2])
      refine wpAnyH_ready (rs := [4, 9, 10]) (by kernel_rfl) (by simp) ?_
      refine AllReadyH.cons (o := ?_) ?hoXhK003km ?hstXhK003km (AllReadyH.cons (o := ?_) ?hoAhK003km ?hstAhK003km (AllReadyH.cons (o := ?_) ?hoBhK003km ?hstBhK003km AllReadyH.nil))
      case hoXhK003km => (simp only [lk0, lk1, lk2]; rfl)
      case hoAhK003km => (simp only [lk0, lk1, lk2]; rfl)
      case hoBhK003km => (simp only [lk0, lk1, lk2]; rfl)
      case hstXhK003km =>
        intro K hK
        go_simp
        have hrp := rep_keep hbd _ _ _ HSTr.out; go_at_call 7; refine (HDO.out _ _ hrp hlv).mono ?_; rintro e wD ⟨tt, vv, rfl, hbT, ht, hv⟩; obtain ⟨Kt, It, Ft, Zt, qt, mt, dt, rfl, _⟩ := repS_shape ht; obtain ⟨Kv, Iv, Fv, Zv, qv, mv, dv, rfl, _⟩ := repS_shape hv
        go_wp2_with fail
        refine hK.out _ _ ?hsXhK003km (fun hH => ?_)
        case hsXhK003km => exact ((fb_step hq hbT)).1
        clear hK K
        (try simp only [Act.put, pk0, pk1, pk2])
        refine zt [5, 6, 7, 8] ?_
        iterate 4 (refine zt1 (fun _ _ d _ _ h => by cases d <;> exact h) (by simp only [lk0, lk1, lk2]; rfl) (by kernel_rfl) (by assumption) (by rfl) (fun w h => by (try dsimp only at h); go_simp; (try with_reducible rfl)) ?_; (try simp only [Act.put, pk0, pk1, pk2]))
        refine zt0 ?_
        exact any_eq (by kernel_rfl) (by kernel_rfl) (hK004 _ _ ⟨gE, Kt, It, Ft, Zt, qt, mt, dt, Kv, Iv, Fv, Zv, qv, mv, dv, rfl, (fb_step hq hbT), (bel_step hbd hbT), (repS_mono (fun b hb => Nat.le_trans hbd.size hb) _ _ _ ht), (repS_mono (fun b hb => Nat.le_trans hbd.size hb) _ _ _ hv)⟩ hH)
      case hstAhK003km =>
        intro K hK
        go_simp
        refine hK.out _ _ ?hsAhK003km (fun hH => ?_)
        case hsAhK003km => exact ((fb_step hq bz)).1
        clear hK K
        (try simp only [Act.put, pk0, pk1, pk2])
        exact any_eq (by kernel_rfl) (by kernel_rfl) (hK103 _ _ ⟨_, gE, rfl, (fb_step hq bz), (bel_step hbd bz), ⟨cs_new rfl, fun o => row_frz (row_alloc _ _ _) o⟩, hbd.size, (la_step hlv bz)⟩ hH)
      case hstBhK003km =>
        intro K hK
        go_simp
        refine hK.out _ _ ?hsBhK003km (fun hH => ?_)
        case hsBhK003km => exact ((fb_step hq bz)).1
        clear hK K
        (try simp only [Act.put, pk0, pk1, pk2])
        exact any_eq (by kernel_rfl) (by kernel_rfl) (hK013 _ _ ⟨_, gE, rfl, (fb_step hq bz), (bel_step hbd bz), ⟨cs_new rfl, fun o => row_frz (row_alloc _ _ _) o⟩, hbd.size, (la_step hlv bz)⟩ hH)
    refine any_have 9 [9, 10, 1, 2] (fun a a' w' => ∃ (gA gB : Nat), a' = ((((a.put (some 4) (.pointer (some ⟨gA, 0, none⟩))).put (some 5) (.pointer (some ⟨gB, 0, none⟩))).put (some 20) (.agg #[.int .i64 3, .int .i64 0, .float .f64 0, .string ⟨#[97]⟩, .slice none 0 0])).put (some 21) (.agg #[.int .i64 1, .int .i64 2, .float .f64 0, .string ⟨#[]⟩, .slice none 0 0])) ∧ FB w sb qs ms ds w' ∧ Below wr.heap.size wr w' ∧ SBX w' gA (.int .i64 0) (.int .i64 0) (.float .f64 0) (.string ⟨#[]⟩) (.slice none 0 0) ∧ wr.heap.size ≤ gA ∧ SBX w' gB (.int .i64 0) (.int .i64 0) (.float .f64 0) (.string ⟨#[]⟩) (.slice none 0 0) ∧ wr.heap.size ≤ gB ∧ gA ≠ gB) ?phK112km (fun hK112 => ?_)
    case phK112km =>
      intro a' w' hst hH
      obtain ⟨gA, gB, rfl, hq, hbd, hsA, hgA, hsB, hgB, hne⟩ := hst
      (try simp only [Act.put, pk0, pk1, pk2])
      refine wpAnyH_ready (rs := [3]) (by kernel_rfl) (by simp) ?_
      refine AllReadyH.cons (o := ?_) ?hoXhK112km ?hstXhK112km AllReadyH.nil
      case hoXhK112km => (simp only [lk0, lk1, lk2]; rfl)
      case hstXhK112km =>
        intro K hK
        go_simp
        refine hK.out _ _ ?hsXhK112km (fun hH => ?_)
        case hsXhK112km => exact ((fb_step hq (bel_alloc br (.cells #[.int .i64 3, .int .i64 0, .float .f64 0, .string ⟨#[97]⟩, .slice none 0 0, .int .i64 1, .int .i64 2, .float .f64 0, .string ⟨#[]⟩, .slice none 0 0] 27)))).1
        clear hK K
        (try simp only [Act.put, pk0, pk1, pk2])
        exact any_eq (by kernel_rfl) (by kernel_rfl) (hK113 _ _ ⟨gA, gB, _, rfl, (fb_step hq (bel_alloc br (.cells #[.int .i64 3, .int .i64 0, .float .f64 0, .string ⟨#[97]⟩, .slice none 0 0, .int .i64 1, .int .i64 2, .float .f64 0, .string ⟨#[]⟩, .slice none 0 0] 27))), (bel_step hbd (bel_alloc br (.cells #[.int .i64 3, .int .i64 0, .float .f64 0, .string ⟨#[97]⟩, .slice none 0 0, .int .i64 1, .int .i64 2, .float .f64 0, .string ⟨#[]⟩, .slice none 0 0] 27))), (sbx_step hsA (bel_alloc br (.cells #[.int .i64 3, .int .i64 0, .float .f64 0, .string ⟨#[97]⟩, .slice none 0 0, .int .i64 1, .int .i64 2, .float .f64 0, .string ⟨#[]⟩, .slice none 0 0] 27))), hgA, (sbx_step hsB (bel_alloc br (.cells #[.int .i64 3, .int .i64 0, .float .f64 0, .string ⟨#[97]⟩, .slice none 0 0, .int .i64 1, .int .i64 2, .float .f64 0, .string ⟨#[]⟩, .slice none 0 0] 27))), hgB, hne, (la2_new rfl (by decide) (by decide) (by decide) (by decide))⟩ hH)
    refine any_have 10 [9, 1, 2] (fun a a' w' => ∃ (gA : Nat), a' = (((a.put (some 4) (.pointer (some ⟨gA, 0, none⟩))).put (some 20) (.agg #[.int .i64 3, .int .i64 0, .float .f64 0, .string ⟨#[97]⟩, .slice none 0 0])).put (some 21) (.agg #[.int .i64 1, .int .i64 2, .float .f64 0, .string ⟨#[]⟩, .slice none 0 0])) ∧ FB w sb qs ms ds w' ∧ Below wr.heap.size wr w' ∧ SBX w' gA (.int .i64 0) (.int .i64 0) (.float .f64 0) (.string ⟨#[]⟩) (.slice none 0 0) ∧ wr.heap.size ≤ gA) ?phK102km (fun hK102 => ?_)
    case phK102km =>
      intro a' w' hst hH
      obtain ⟨gA, rfl, hq, hbd, hsA, hgA⟩ := hst
      (try simp only [Act.put, pk0, pk1, pk2])
      refine wpAnyH_ready (rs := [3, 10]) (by kernel_rfl) (by simp) ?_
      refine AllReadyH.cons (o := ?_) ?hoXhK102km ?hstXhK102km (AllReadyH.cons (o := ?_) ?hoBhK102km ?hstBhK102km AllReadyH.nil)
      case hoXhK102km => (simp only [lk0, lk1, lk2]; rfl)
      case hoBhK102km => (simp only [lk0, lk1, lk2]; rfl)
      case hstXhK102km =>
        intro K hK
        go_simp
        refine hK.out _ _ ?hsXhK102km (fun hH => ?_)
        case hsXhK102km => exact ((fb_step hq (bel_alloc br (.cells #[.int .i64 3, .int .i64 0, .float .f64 0, .string ⟨#[97]⟩, .slice none 0 0, .int .i64 1, .int .i64 2, .float .f64 0, .string ⟨#[]⟩, .slice none 0 0] 27)))).1
        clear hK K
        (try simp only [Act.put, pk0, pk1, pk2])
        exact any_eq (by kernel_rfl) (by kernel_rfl) (hK103 _ _ ⟨gA, _, rfl, (fb_step hq (bel_alloc br (.cells #[.int .i64 3, .int .i64 0, .float .f64 0, .string ⟨#[97]⟩, .slice none 0 0, .int .i64 1, .int .i64 2, .float .f64 0, .string ⟨#[]⟩, .slice none 0 0] 27))), (bel_step hbd (bel_alloc br (.cells #[.int .i64 3, .int .i64 0, .float .f64 0, .string ⟨#[97]⟩, .slice none 0 0, .int .i64 1, .int .i64 2, .float .f64 0, .string ⟨#[]⟩, .slice none 0 0] 27))), (sbx_step hsA (bel_alloc br (.cells #[.int .i64 3, .int .i64 0, .float .f64 0, .string ⟨#[97]⟩, .slice none 0 0, .int .i64 1, .int .i64 2, .float .f64 0, .string ⟨#[]⟩, .slice none 0 0] 27))), hgA, (la2_new rfl (by decide) (by decide) (by decide) (by decide))⟩ hH)
      case hstBhK102km =>
        intro K hK
        go_simp
        refine hK.out _ _ ?hsBhK102km (fun hH => ?_)
        case hsBhK102km => exact ((fb_step hq bz)).1
        clear hK K
        (try simp only [Act.put, pk0, pk1, pk2])
        exact any_eq (by kernel_rfl) (by kernel_rfl) (hK112 _ _ ⟨gA, _, rfl, (fb_step hq bz), (bel_step hbd bz), (sbx_step hsA bz), hgA, ⟨cs_new rfl, fun o => row_frz (row_alloc _ _ _) o⟩, hbd.size, (by have h := cs_lt hsA.1; omega)⟩ hH)
    refine any_have 10 [10, 1, 2] (fun a a' w' => ∃ (gB : Nat), a' = (((a.put (some 5) (.pointer (some ⟨gB, 0, none⟩))).put (some 20) (.agg #[.int .i64 3, .int .i64 0, .float .f64 0, .string ⟨#[97]⟩, .slice none 0 0])).put (some 21) (.agg #[.int .i64 1, .int .i64 2, .float .f64 0, .string ⟨#[]⟩, .slice none 0 0])) ∧ FB w sb qs ms ds w' ∧ Below wr.heap.size wr w' ∧ SBX w' gB (.int .i64 0) (.int .i64 0) (.float .f64 0) (.string ⟨#[]⟩) (.slice none 0 0) ∧ wr.heap.size ≤ gB) ?phK012km (fun hK012 => ?_)
    case phK012km =>
      intro a' w' hst hH
      obtain ⟨gB, rfl, hq, hbd, hsB, hgB⟩ := hst
      (try simp only [Act.put, pk0, pk1, pk2])
      refine wpAnyH_ready (rs := [3, 9]) (by kernel_rfl) (by simp) ?_
      refine AllReadyH.cons (o := ?_) ?hoXhK012km ?hstXhK012km (AllReadyH.cons (o := ?_) ?hoAhK012km ?hstAhK012km AllReadyH.nil)
      case hoXhK012km => (simp only [lk0, lk1, lk2]; rfl)
      case hoAhK012km => (simp only [lk0, lk1, lk2]; rfl)
      case hstXhK012km =>
        intro K hK
        go_simp
        refine hK.out _ _ ?hsXhK012km (fun hH => ?_)
        case hsXhK012km => exact ((fb_step hq (bel_alloc br (.cells #[.int .i64 3, .int .i64 0, .float .f64 0, .string ⟨#[97]⟩, .slice none 0 0, .int .i64 1, .int .i64 2, .float .f64 0, .string ⟨#[]⟩, .slice none 0 0] 27)))).1
        clear hK K
        (try simp only [Act.put, pk0, pk1, pk2])
        exact any_eq (by kernel_rfl) (by kernel_rfl) (hK013 _ _ ⟨gB, _, rfl, (fb_step hq (bel_alloc br (.cells #[.int .i64 3, .int .i64 0, .float .f64 0, .string ⟨#[97]⟩, .slice none 0 0, .int .i64 1, .int .i64 2, .float .f64 0, .string ⟨#[]⟩, .slice none 0 0] 27))), (bel_step hbd (bel_alloc br (.cells #[.int .i64 3, .int .i64 0, .float .f64 0, .string ⟨#[97]⟩, .slice none 0 0, .int .i64 1, .int .i64 2, .float .f64 0, .string ⟨#[]⟩, .slice none 0 0] 27))), (sbx_step hsB (bel_alloc br (.cells #[.int .i64 3, .int .i64 0, .float .f64 0, .string ⟨#[97]⟩, .slice none 0 0, .int .i64 1, .int .i64 2, .float .f64 0, .string ⟨#[]⟩, .slice none 0 0] 27))), hgB, (la2_new rfl (by decide) (by decide) (by decide) (by decide))⟩ hH)
      case hstAhK012km =>
        intro K hK
        go_simp
        refine hK.out _ _ ?hsAhK012km (fun hH => ?_)
        case hsAhK012km => exact ((fb_step hq bz)).1
        clear hK K
        (try simp only [Act.put, pk0, pk1, pk2])
        exact any_eq (by kernel_rfl) (by kernel_rfl) (hK112 _ _ ⟨_, gB, rfl, (fb_step hq bz), (bel_step hbd bz), ⟨cs_new rfl, fun o => row_frz (row_alloc _ _ _) o⟩, hbd.size, (sbx_step hsB bz), hgB, (by have h := cs_lt hsB.1; omega)⟩ hH)
    refine any_have 11 [1, 2] (fun a a' w' => a' = ((a.put (some 20) (.agg #[.int .i64 3, .int .i64 0, .float .f64 0, .string ⟨#[97]⟩, .slice none 0 0])).put (some 21) (.agg #[.int .i64 1, .int .i64 2, .float .f64 0, .string ⟨#[]⟩, .slice none 0 0])) ∧ FB w sb qs ms ds w' ∧ Below wr.heap.size wr w') ?phK002km (fun hK002 => ?_)
    case phK002km =>
      intro a' w' hst hH
      obtain ⟨rfl, hq, hbd⟩ := hst
      (try simp only [Act.put, pk0, pk1, pk2])
      refine wpAnyH_ready (rs := [3, 9, 10]) (by kernel_rfl) (by simp) ?_
      refine AllReadyH.cons (o := ?_) ?hoXhK002km ?hstXhK002km (AllReadyH.cons (o := ?_) ?hoAhK002km ?hstAhK002km (AllReadyH.cons (o := ?_) ?hoBhK002km ?hstBhK002km AllReadyH.nil))
      case hoXhK002km => (simp only [lk0, lk1, lk2]; rfl)
      case hoAhK002km => (simp only [lk0, lk1, lk2]; rfl)
      case hoBhK002km => (simp only [lk0, lk1, lk2]; rfl)
      case hstXhK002km =>
        intro K hK
        go_simp
        refine hK.out _ _ ?hsXhK002km (fun hH => ?_)
        case hsXhK002km => exact ((fb_step hq (bel_alloc br (.cells #[.int .i64 3, .int .i64 0, .float .f64 0, .string ⟨#[97]⟩, .slice none 0 0, .int .i64 1, .int .i64 2, .float .f64 0, .string ⟨#[]⟩, .slice none 0 0] 27)))).1
        clear hK K
        (try simp only [Act.put, pk0, pk1, pk2])
        exact any_eq (by kernel_rfl) (by kernel_rfl) (hK003 _ _ ⟨_, rfl, (fb_step hq (bel_alloc br (.cells #[.int .i64 3, .int .i64 0, .float .f64 0, .string ⟨#[97]⟩, .slice none 0 0, .int .i64 1, .int .i64 2, .float .f64 0, .string ⟨#[]⟩, .slice none 0 0] 27))), (bel_step hbd (bel_alloc br (.cells #[.int .i64 3, .int .i64 0, .float .f64 0, .string ⟨#[97]⟩, .slice none 0 0, .int .i64 1, .int .i64 2, .float .f64 0, .string ⟨#[]⟩, .slice none 0 0] 27))), (la2_new rfl (by decide) (by decide) (by decide) (by decide))⟩ hH)
      case hstAhK002km =>
        intro K hK
        go_simp
        refine hK.out _ _ ?hsAhK002km (fun hH => ?_)
        case hsAhK002km => exact ((fb_step hq bz)).1
        clear hK K
        (try simp only [Act.put, pk0, pk1, pk2])
        exact any_eq (by kernel_rfl) (by kernel_rfl) (hK102 _ _ ⟨_, rfl, (fb_step hq bz), (bel_step hbd bz), ⟨cs_new rfl, fun o => row_frz (row_alloc _ _ _) o⟩, hbd.size⟩ hH)
      case hstBhK002km =>
        intro K hK
        go_simp
        refine hK.out _ _ ?hsBhK002km (fun hH => ?_)
        case hsBhK002km => exact ((fb_step hq bz)).1
        clear hK K
        (try simp only [Act.put, pk0, pk1, pk2])
        exact any_eq (by kernel_rfl) (by kernel_rfl) (hK012 _ _ ⟨_, rfl, (fb_step hq bz), (bel_step hbd bz), ⟨cs_new rfl, fun o => row_frz (row_alloc _ _ _) o⟩, hbd.size⟩ hH)
    refine any_have 10 [9, 10, 1] (fun a a' w' => ∃ (gA gB : Nat), a' = (((a.put (some 4) (.pointer (some ⟨gA, 0, none⟩))).put (some 5) (.pointer (some ⟨gB, 0, none⟩))).put (some 20) (.agg #[.int .i64 3, .int .i64 0, .float .f64 0, .string ⟨#[97]⟩, .slice none 0 0])) ∧ FB w sb qs ms ds w' ∧ Below wr.heap.size wr w' ∧ SBX w' gA (.int .i64 0) (.int .i64 0) (.float .f64 0) (.string ⟨#[]⟩) (.slice none 0 0) ∧ wr.heap.size ≤ gA ∧ SBX w' gB (.int .i64 0) (.int .i64 0) (.float .f64 0) (.string ⟨#[]⟩) (.slice none 0 0) ∧ wr.heap.size ≤ gB ∧ gA ≠ gB) ?phK111km (fun hK111 => ?_)
    case phK111km =>
      intro a' w' hst hH
      obtain ⟨gA, gB, rfl, hq, hbd, hsA, hgA, hsB, hgB, hne⟩ := hst
      (try simp only [Act.put, pk0, pk1, pk2])
      refine wpAnyH_ready (rs := [2]) (by kernel_rfl) (by simp) ?_
      refine AllReadyH.cons (o := ?_) ?hoXhK111km ?hstXhK111km AllReadyH.nil
      case hoXhK111km => (simp only [lk0, lk1, lk2]; rfl)
      case hstXhK111km =>
        intro K hK
        go_simp
        go_at_call 12; refine (int_ref_any _ _).mono ?_; rintro e wT ⟨rfl, hbT⟩
        go_wp2_with fail
        refine hK.out _ _ ?hsXhK111km (fun hH => ?_)
        case hsXhK111km => exact ((fb_step hq hbT)).1
        clear hK K
        (try simp only [Act.put, pk0, pk1, pk2])
        exact any_eq (by kernel_rfl) (by kernel_rfl) (hK112 _ _ ⟨gA, gB, rfl, (fb_step hq hbT), (bel_step hbd hbT), (sbx_step hsA hbT), hgA, (sbx_step hsB hbT), hgB, hne⟩ hH)
    refine any_have 11 [9, 1] (fun a a' w' => ∃ (gA : Nat), a' = ((a.put (some 4) (.pointer (some ⟨gA, 0, none⟩))).put (some 20) (.agg #[.int .i64 3, .int .i64 0, .float .f64 0, .string ⟨#[97]⟩, .slice none 0 0])) ∧ FB w sb qs ms ds w' ∧ Below wr.heap.size wr w' ∧ SBX w' gA (.int .i64 0) (.int .i64 0) (.float .f64 0) (.string ⟨#[]⟩) (.slice none 0 0) ∧ wr.heap.size ≤ gA) ?phK101km (fun hK101 => ?_)
    case phK101km =>
      intro a' w' hst hH
      obtain ⟨gA, rfl, hq, hbd, hsA, hgA⟩ := hst
      (try simp only [Act.put, pk0, pk1, pk2])
      refine wpAnyH_ready (rs := [2, 10]) (by kernel_rfl) (by simp) ?_
      refine AllReadyH.cons (o := ?_) ?hoXhK101km ?hstXhK101km (AllReadyH.cons (o := ?_) ?hoBhK101km ?hstBhK101km AllReadyH.nil)
      case hoXhK101km => (simp only [lk0, lk1, lk2]; rfl)
      case hoBhK101km => (simp only [lk0, lk1, lk2]; rfl)
      case hstXhK101km =>
        intro K hK
        go_simp
        go_at_call 12; refine (int_ref_any _ _).mono ?_; rintro e wT ⟨rfl, hbT⟩
        go_wp2_with fail
        refine hK.out _ _ ?hsXhK101km (fun hH => ?_)
        case hsXhK101km => exact ((fb_step hq hbT)).1
        clear hK K
        (try simp only [Act.put, pk0, pk1, pk2])
        exact any_eq (by kernel_rfl) (by kernel_rfl) (hK102 _ _ ⟨gA, rfl, (fb_step hq hbT), (bel_step hbd hbT), (sbx_step hsA hbT), hgA⟩ hH)
      case hstBhK101km =>
        intro K hK
        go_simp
        refine hK.out _ _ ?hsBhK101km (fun hH => ?_)
        case hsBhK101km => exact ((fb_step hq bz)).1
        clear hK K
        (try simp only [Act.put, pk0, pk1, pk2])
        exact any_eq (by kernel_rfl) (by kernel_rfl) (hK111 _ _ ⟨gA, _, rfl, (fb_step hq bz), (bel_step hbd bz), (sbx_step hsA bz), hgA, ⟨cs_new rfl, fun o => row_frz (row_alloc _ _ _) o⟩, hbd.size, (by have h := cs_lt hsA.1; omega)⟩ hH)
    refine any_have 11 [10, 1] (fun a a' w' => ∃ (gB : Nat), a' = ((a.put (some 5) (.pointer (some ⟨gB, 0, none⟩))).put (some 20) (.agg #[.int .i64 3, .int .i64 0, .float .f64 0, .string ⟨#[97]⟩, .slice none 0 0])) ∧ FB w sb qs ms ds w' ∧ Below wr.heap.size wr w' ∧ SBX w' gB (.int .i64 0) (.int .i64 0) (.float .f64 0) (.string ⟨#[]⟩) (.slice none 0 0) ∧ wr.heap.size ≤ gB) ?phK011km (fun hK011 => ?_)
    case phK011km =>
      intro a' w' hst hH
      obtain ⟨gB, rfl, hq, hbd, hsB, hgB⟩ := hst
      (try simp only [Act.put, pk0, pk1, pk2])
      refine wpAnyH_ready (rs := [2, 9]) (by kernel_rfl) (by simp) ?_
      refine AllReadyH.cons (o := ?_) ?hoXhK011km ?hstXhK011km (AllReadyH.cons (o := ?_) ?hoAhK011km ?hstAhK011km AllReadyH.nil)
      case hoXhK011km => (simp only [lk0, lk1, lk2]; rfl)
      case hoAhK011km => (simp only [lk0, lk1, lk2]; rfl)
      case hstXhK011km =>
        intro K hK
        go_simp
        go_at_call 12; refine (int_ref_any _ _).mono ?_; rintro e wT ⟨rfl, hbT⟩
        go_wp2_with fail
        refine hK.out _ _ ?hsXhK011km (fun hH => ?_)
        case hsXhK011km => exact ((fb_step hq hbT)).1
        clear hK K
        (try simp only [Act.put, pk0, pk1, pk2])
        exact any_eq (by kernel_rfl) (by kernel_rfl) (hK012 _ _ ⟨gB, rfl, (fb_step hq hbT), (bel_step hbd hbT), (sbx_step hsB hbT), hgB⟩ hH)
      case hstAhK011km =>
        intro K hK
        go_simp
        refine hK.out _ _ ?hsAhK011km (fun hH => ?_)
        case hsAhK011km => exact ((fb_step hq bz)).1
        clear hK K
        (try simp only [Act.put, pk0, pk1, pk2])
        exact any_eq (by kernel_rfl) (by kernel_rfl) (hK111 _ _ ⟨_, gB, rfl, (fb_step hq bz), (bel_step hbd bz), ⟨cs_new rfl, fun o => row_frz (row_alloc _ _ _) o⟩, hbd.size, (sbx_step hsB bz), hgB, (by have h := cs_lt hsB.1; omega)⟩ hH)
    refine any_have 12 [1] (fun a a' w' => a' = (a.put (some 20) (.agg #[.int .i64 3, .int .i64 0, .float .f64 0, .string ⟨#[97]⟩, .slice none 0 0])) ∧ FB w sb qs ms ds w' ∧ Below wr.heap.size wr w') ?phK001km (fun hK001 => ?_)
    case phK001km =>
      intro a' w' hst hH
      obtain ⟨rfl, hq, hbd⟩ := hst
      (try simp only [Act.put, pk0, pk1, pk2])
      refine wpAnyH_ready (rs := [2, 9, 10]) (by kernel_rfl) (by simp) ?_
      refine AllReadyH.cons (o := ?_) ?hoXhK001km ?hstXhK001km (AllReadyH.cons (o := ?_) ?hoAhK001km ?hstAhK001km (AllReadyH.cons (o := ?_) ?hoBhK001km ?hstBhK001km AllReadyH.nil))
      case hoXhK001km => (simp only [lk0, lk1, lk2]; rfl)
      case hoAhK001km => (simp only [lk0, lk1, lk2]; rfl)
      case hoBhK001km => (simp only [lk0, lk1, lk2]; rfl)
      case hstXhK001km =>
        intro K hK
        go_simp
        go_at_call 12; refine (int_ref_any _ _).mono ?_; rintro e wT ⟨rfl, hbT⟩
        go_wp2_with fail
        refine hK.out _ _ ?hsXhK001km (fun hH => ?_)
        case hsXhK001km => exact ((fb_step hq hbT)).1
        clear hK K
        (try simp only [Act.put, pk0, pk1, pk2])
        exact any_eq (by kernel_rfl) (by kernel_rfl) (hK002 _ _ ⟨rfl, (fb_step hq hbT), (bel_step hbd hbT)⟩ hH)
      case hstAhK001km =>
        intro K hK
        go_simp
        refine hK.out _ _ ?hsAhK001km (fun hH => ?_)
        case hsAhK001km => exact ((fb_step hq bz)).1
        clear hK K
        (try simp only [Act.put, pk0, pk1, pk2])
        exact any_eq (by kernel_rfl) (by kernel_rfl) (hK101 _ _ ⟨_, rfl, (fb_step hq bz), (bel_step hbd bz), ⟨cs_new rfl, fun o => row_frz (row_alloc _ _ _) o⟩, hbd.size⟩ hH)
      case hstBhK001km =>
        intro K hK
        go_simp
        refine hK.out _ _ ?hsBhK001km (fun hH => ?_)
        case hsBhK001km => exact ((fb_step hq bz)).1
        clear hK K
        (try simp only [Act.put, pk0, pk1, pk2])
        exact any_eq (by kernel_rfl) (by kernel_rfl) (hK011 _ _ ⟨_, rfl, (fb_step hq bz), (bel_step hbd bz), ⟨cs_new rfl, fun o => row_frz (row_alloc _ _ _) o⟩, hbd.size⟩ hH)
    refine any_have 11 [9, 10] (fun a a' w' => ∃ (gA gB : Nat), a' = ((a.put (some 4) (.pointer (some ⟨gA, 0, none⟩))).put (some 5) (.pointer (some ⟨gB, 0, none⟩))) ∧ FB w sb qs ms ds w' ∧ Below wr.heap.size wr w' ∧ SBX w' gA (.int .i64 0) (.int .i64 0) (.float .f64 0) (.string ⟨#[]⟩) (.slice none 0 0) ∧ wr.heap.size ≤ gA ∧ SBX w' gB (.int .i64 0) (.int .i64 0) (.float .f64 0) (.string ⟨#[]⟩) (.slice none 0 0) ∧ wr.heap.size ≤ gB ∧ gA ≠ gB) ?phK110km (fun hK110 => ?_)
    case phK110km =>
      intro a' w' hst hH
      obtain ⟨gA, gB, rfl, hq, hbd, hsA, hgA, hsB, hgB, hne⟩ := hst
      (try simp only [Act.put, pk0, pk1, pk2])
      refine wpAnyH_ready (rs := [1]) (by kernel_rfl) (by simp) ?_
      refine AllReadyH.cons (o := ?_) ?hoXhK110km ?hstXhK110km AllReadyH.nil
      case hoXhK110km => (simp only [lk0, lk1, lk2]; rfl)
      case hstXhK110km =>
        intro K hK
        go_simp
        go_at_call 11; refine (text_ref_any _ _).mono ?_; rintro e wT ⟨rfl, hbT⟩
        go_wp2_with fail
        refine hK.out _ _ ?hsXhK110km (fun hH => ?_)
        case hsXhK110km => exact ((fb_step hq hbT)).1
        clear hK K
        (try simp only [Act.put, pk0, pk1, pk2])
        exact any_eq (by kernel_rfl) (by kernel_rfl) (hK111 _ _ ⟨gA, gB, rfl, (fb_step hq hbT), (bel_step hbd hbT), (sbx_step hsA hbT), hgA, (sbx_step hsB hbT), hgB, hne⟩ hH)
    refine any_have 12 [9] (fun a a' w' => ∃ (gA : Nat), a' = (a.put (some 4) (.pointer (some ⟨gA, 0, none⟩))) ∧ FB w sb qs ms ds w' ∧ Below wr.heap.size wr w' ∧ SBX w' gA (.int .i64 0) (.int .i64 0) (.float .f64 0) (.string ⟨#[]⟩) (.slice none 0 0) ∧ wr.heap.size ≤ gA) ?phK100km (fun hK100 => ?_)
    case phK100km =>
      intro a' w' hst hH
      obtain ⟨gA, rfl, hq, hbd, hsA, hgA⟩ := hst
      (try simp only [Act.put, pk0, pk1, pk2])
      refine wpAnyH_ready (rs := [1, 10]) (by kernel_rfl) (by simp) ?_
      refine AllReadyH.cons (o := ?_) ?hoXhK100km ?hstXhK100km (AllReadyH.cons (o := ?_) ?hoBhK100km ?hstBhK100km AllReadyH.nil)
      case hoXhK100km => (simp only [lk0, lk1, lk2]; rfl)
      case hoBhK100km => (simp only [lk0, lk1, lk2]; rfl)
      case hstXhK100km =>
        intro K hK
        go_simp
        go_at_call 11; refine (text_ref_any _ _).mono ?_; rintro e wT ⟨rfl, hbT⟩
        go_wp2_with fail
        refine hK.out _ _ ?hsXhK100km (fun hH => ?_)
        case hsXhK100km => exact ((fb_step hq hbT)).1
        clear hK K
        (try simp only [Act.put, pk0, pk1, pk2])
        exact any_eq (by kernel_rfl) (by kernel_rfl) (hK101 _ _ ⟨gA, rfl, (fb_step hq hbT), (bel_step hbd hbT), (sbx_step hsA hbT), hgA⟩ hH)
      case hstBhK100km =>
        intro K hK
        go_simp
        refine hK.out _ _ ?hsBhK100km (fun hH => ?_)
        case hsBhK100km => exact ((fb_step hq bz)).1
        clear hK K
        (try simp only [Act.put, pk0, pk1, pk2])
        exact any_eq (by kernel_rfl) (by kernel_rfl) (hK110 _ _ ⟨gA, _, rfl, (fb_step hq bz), (bel_step hbd bz), (sbx_step hsA bz), hgA, ⟨cs_new rfl, fun o => row_frz (row_alloc _ _ _) o⟩, hbd.size, (by have h := cs_lt hsA.1; omega)⟩ hH)
    refine any_have 12 [10] (fun a a' w' => ∃ (gB : Nat), a' = (a.put (some 5) (.pointer (some ⟨gB, 0, none⟩))) ∧ FB w sb qs ms ds w' ∧ Below wr.heap.size wr w' ∧ SBX w' gB (.int .i64 0) (.int .i64 0) (.float .f64 0) (.string ⟨#[]⟩) (.slice none 0 0) ∧ wr.heap.size ≤ gB) ?phK010km (fun hK010 => ?_)
    case phK010km =>
      intro a' w' hst hH
      obtain ⟨gB, rfl, hq, hbd, hsB, hgB⟩ := hst
      (try simp only [Act.put, pk0, pk1, pk2])
      refine wpAnyH_ready (rs := [1, 9]) (by kernel_rfl) (by simp) ?_
      refine AllReadyH.cons (o := ?_) ?hoXhK010km ?hstXhK010km (AllReadyH.cons (o := ?_) ?hoAhK010km ?hstAhK010km AllReadyH.nil)
      case hoXhK010km => (simp only [lk0, lk1, lk2]; rfl)
      case hoAhK010km => (simp only [lk0, lk1, lk2]; rfl)
      case hstXhK010km =>
        intro K hK
        go_simp
        go_at_call 11; refine (text_ref_any _ _).mono ?_; rintro e wT ⟨rfl, hbT⟩
        go_wp2_with fail
        refine hK.out _ _ ?hsXhK010km (fun hH => ?_)
        case hsXhK010km => exact ((fb_step hq hbT)).1
        clear hK K
        (try simp only [Act.put, pk0, pk1, pk2])
        exact any_eq (by kernel_rfl) (by kernel_rfl) (hK011 _ _ ⟨gB, rfl, (fb_step hq hbT), (bel_step hbd hbT), (sbx_step hsB hbT), hgB⟩ hH)
      case hstAhK010km =>
        intro K hK
        go_simp
        refine hK.out _ _ ?hsAhK010km (fun hH => ?_)
        case hsAhK010km => exact ((fb_step hq bz)).1
        clear hK K
        (try simp only [Act.put, pk0, pk1, pk2])
        exact any_eq (by kernel_rfl) (by kernel_rfl) (hK110 _ _ ⟨_, gB, rfl, (fb_step hq bz), (bel_step hbd bz), ⟨cs_new rfl, fun o => row_frz (row_alloc _ _ _) o⟩, hbd.size, (sbx_step hsB bz), hgB, (by have h := cs_lt hsB.1; omega)⟩ hH)
    refine wpAnyH_ready (rs := [1, 9, 10]) (by kernel_rfl) (by simp) ?_
    refine AllReadyH.cons (o := ?_) ?hoXzkm ?hstXzkm (AllReadyH.cons (o := ?_) ?hoAzkm ?hstAzkm (AllReadyH.cons (o := ?_) ?hoBzkm ?hstBzkm AllReadyH.nil))
    case hoXzkm => (simp only [lk0, lk1, lk2]; rfl)
    case hoAzkm => (simp only [lk0, lk1, lk2]; rfl)
    case hoBzkm => (simp only [lk0, lk1, lk2]; rfl)
    case hstXzkm =>
      intro K hK
      go_simp
      go_at_call 11; refine (text_ref_any _ _).mono ?_; rintro e wT ⟨rfl, hbT⟩
      go_wp2_with fail
      refine hK.out _ _ ?hsXzkm (fun hH => ?_)
      case hsXzkm => exact ((fb_step hq hbT)).1
      clear hK K
      (try simp only [Act.put, pk0, pk1, pk2])
      exact any_eq (by kernel_rfl) (by kernel_rfl) (hK001 _ _ ⟨rfl, (fb_step hq hbT), (bel_step hbd hbT)⟩ hH)
    case hstAzkm =>
      intro K hK
      go_simp
      refine hK.out _ _ ?hsAzkm (fun hH => ?_)
      case hsAzkm => exact ((fb_step hq bz)).1
      clear hK K
      (try simp only [Act.put, pk0, pk1, pk2])
      exact any_eq (by kernel_rfl) (by kernel_rfl) (hK100 _ _ ⟨_, rfl, (fb_step hq bz), (bel_step hbd bz), ⟨cs_new rfl, fun o => row_frz (row_alloc _ _ _) o⟩, hbd.size⟩ hH)
    case hstBzkm =>
      intro K hK
      go_simp
      refine hK.out _ _ ?hsBzkm (fun hH => ?_)
      case hsBzkm => exact ((fb_step hq bz)).1
      clear hK K
      (try simp only [Act.put, pk0, pk1, pk2])
      exact any_eq (by kernel_rfl) (by kernel_rfl) (hK010 _ _ ⟨_, rfl, (fb_step hq bz), (bel_step hbd bz), ⟨cs_new rfl, fun o => row_frz (row_alloc _ _ _) o⟩, hbd.size⟩ hH)
  case rest =>
  obtain ⟨sb2, vb, K8, I8, F8, Z8, qs2, ms2, ds2, K9, I9, F9, Z9, qx, mx, dx, rfl, rfl, rfl, hca, hcb, hfb, hbel, hrt, hrv, hgA, hgB⟩ := hcut
  obtain ⟨rfl, rfl, rfl⟩ := HZ.out
  obtain ⟨rfl, rfl, rfl, rfl⟩ := led_box hrt
  obtain ⟨rfl, rfl, rfl, rfl, rfl⟩ := flo_box hrv
  have hwr : w.heap.size ≤ wr.heap.size := HFB.out.2.1.size
  rename World => wx
  have HFB2 := Lib.hid (show FBC w sb2 qs2 ms2 ds2 vb (.int .i64 2) (.int .i64 0) (.float .f64 4611686018427387904) (.string ⟨#[]⟩) (.slice qx 0 dx) wx from ⟨hca, hfb.2.1, hcb⟩)
  have HST2 := Lib.hid (repS_rep _ _ _ hrt)
  have HGG := Lib.hid (show w.heap.size ≤ sb2 ∧ w.heap.size ≤ vb from ⟨Nat.le_trans hwr hgA, Nat.le_trans hwr hgB⟩)
  clear hca hcb hfb hbel hrt hrv hgA hgB hwr HDO HZ HFB HSTr HS HWS
  obtain ⟨z, TT, UU, hz, HDO⟩ : ∃ (z : Int) (TT : VT 3) (UU : VT 1), z = 36 ∧ Hid (∀ (W : World) (g : Nat), Rep W 3 (.agg #[.int .i64 4, .int .i64 0, .float .f64 0, .string ⟨#[]⟩, .slice qs2 ms2 ds2]) (tableT 0 (ledA [(⟨#[97]⟩, 4611686018427387904)])) → LA g [nameV 0 ⟨#[97]⟩, nameV 0 ⟨#[97]⟩, (2, 0, 4613937818241073152, ⟨#[]⟩, [])] W → Calls Try.prog 7 #[.agg #[.int .i64 4, .int .i64 0, .float .f64 0, .string ⟨#[]⟩, .slice qs2 ms2 ds2], .string { data := #[116, 114, 97, 110, 115, 102, 101, 114] }, .slice (some ⟨g, 0, none⟩) 3 3] W fun e w' => DoQ W 3 1 (TT) (UU) z e w') := ⟨36, _, _, rfl, Lib.hid (fun W g hs hr => by
    exact ldo_trfew (okA_one nm_a (by decide)) hs hr nm_a nm_a rfl 0 0 (by decide) rfl (by decide) rfl (by decide +kernel) (by decide +kernel))⟩
  have HZ := Lib.hid hz
  clear hz
  go_upto_region 3 with fail
  go_cut [7, 8, 9] (fun s7 s8 s9 wy => PutL3 w wx sb2 qs2 ms2 ds2 vb qx dx TT UU z s7 s8 s9 wy)
  case first =>
    have hsbr : sb2 < wx.heap.size := cs_lt HFB2.out.1
    have hvbr : vb < wx.heap.size := cs_lt HFB2.out.2.2
    have hwr : w.heap.size ≤ wx.heap.size := HFB2.out.2.1.size
    refine wp_region_held_drew (S := (fun z => z.cell? ⟨sb2, 0, none⟩ = some (.int .i64 4) ∧ z.cell? ⟨sb2, 1, none⟩ = some (.int .i64 0) ∧ z.cell? ⟨sb2, 2, none⟩ = some (.float .f64 0) ∧ z.cell? ⟨sb2, 3, none⟩ = some (.string ⟨#[]⟩) ∧ z.cell? ⟨sb2, 4, none⟩ = some (.slice qs2 ms2 ds2))) (by kernel_rfl) ?_ (fun hH => ?_)
    · exact (fbc_drew HFB2.out).1
    have HDW := Lib.hid (show FBC w sb2 qs2 ms2 ds2 vb (.int .i64 2) (.int .i64 0) (.float .f64 4611686018427387904) (.string ⟨#[]⟩) (.slice qx 0 dx) wx.drew ∧ Below wx.heap.size wx wx.drew from ⟨fbc_drew HFB2.out, Below.drew br⟩)
    revert HDW hH
    generalize wx.drew = Wd
    intro hH HDW
    have hq := HDW.out.1
    have hbd := HDW.out.2
    refine zt [0] ?_
    refine zt1 (fun _ _ d _ _ h => by cases d <;> exact h) (by simp only [lk0, lk1, lk2]; rfl) (by kernel_rfl) (by assumption) (by rfl) (fun w h => by (try dsimp only at h); go_simp; (try with_reducible rfl)) ?_; (try simp only [Act.put, pk0, pk1, pk2])
    refine zt0 ?_
    refine any_have 3 [10, 11, 1, 2, 3, 4, 5, 6, 7, 8, 9] (fun a a' w' => ∃ (gA gB gE : Nat), ∃ (Kt It : Int) (Ft : Nat) (Zt : ByteArray) (qt : Option Addr) (mt dt : Nat) (Kv Iv : Int) (Fv : Nat) (Zv : ByteArray) (qv : Option Addr) (mv dv : Nat), a' = (((((((((((a.put (some 7) (.pointer (some ⟨gA, 0, none⟩))).put (some 8) (.pointer (some ⟨gB, 0, none⟩))).put (some 29) (.agg #[.int .i64 3, .int .i64 0, .float .f64 0, .string ⟨#[97]⟩, .slice none 0 0])).put (some 30) (.agg #[.int .i64 3, .int .i64 0, .float .f64 0, .string ⟨#[97]⟩, .slice none 0 0])).put (some 31) (.agg #[.int .i64 2, .int .i64 0, .float .f64 4613937818241073152, .string ⟨#[]⟩, .slice none 0 0])).put (some 32) (.slice (some ⟨gE, 0, none⟩) 3 3)).put (some 33) (.tuple #[.agg #[.int .i64 Kt, .int .i64 It, .float .f64 Ft, .string Zt, .slice qt mt dt], .agg #[.int .i64 Kv, .int .i64 Iv, .float .f64 Fv, .string Zv, .slice qv mv dv], .int .i64 z])).put (some 27) (.tuple #[.agg #[.int .i64 Kt, .int .i64 It, .float .f64 Ft, .string Zt, .slice qt mt dt], .agg #[.int .i64 Kv, .int .i64 Iv, .float .f64 Fv, .string Zv, .slice qv mv dv], .int .i64 z])).put (some 34) (.agg #[.int .i64 Kt, .int .i64 It, .float .f64 Ft, .string Zt, .slice qt mt dt])).put (some 35) (.agg #[.int .i64 Kv, .int .i64 Iv, .float .f64 Fv, .string Zv, .slice qv mv dv])).put (some 36) (.int .i64 z)) ∧ FBC w sb2 qs2 ms2 ds2 vb (.int .i64 2) (.int .i64 0) (.float .f64 4611686018427387904) (.string ⟨#[]⟩) (.slice qx 0 dx) w' ∧ Below wx.heap.size wx w' ∧ SBX w' gA (.int .i64 0) (.int .i64 0) (.float .f64 0) (.string ⟨#[]⟩) (.slice none 0 0) ∧ wx.heap.size ≤ gA ∧ SBX w' gB (.int .i64 0) (.int .i64 0) (.float .f64 0) (.string ⟨#[]⟩) (.slice none 0 0) ∧ wx.heap.size ≤ gB ∧ gA ≠ gB ∧ RepS (fun b => wx.heap.size ≤ b ∧ b ≠ gA ∧ b ≠ gB) w' 3 (.agg #[.int .i64 Kt, .int .i64 It, .float .f64 Ft, .string Zt, .slice qt mt dt]) (TT) ∧ RepS (fun b => wx.heap.size ≤ b ∧ b ≠ gA ∧ b ≠ gB) w' 1 (.agg #[.int .i64 Kv, .int .i64 Iv, .float .f64 Fv, .string Zv, .slice qv mv dv]) (UU)) ?phK115jm (fun hK115 => ?_)
    case phK115jm =>
      intro a' w' hst hH
      obtain ⟨gA, gB, gE, Kt, It, Ft, Zt, qt, mt, dt, Kv, Iv, Fv, Zv, qv, mv, dv, rfl, hq, hbd, hsA, hgA, hsB, hgB, hne, ht, hv⟩ := hst
      (try simp only [Act.put, pk0, pk1, pk2])
      have hcA := hsA.1; have hcB := hsB.1
      refine zr1 12 (by kernel_rfl) (by simp only [lk0, lk1, lk2]; rfl) (fun K hK => ?_)
      have bb0 := hsA.1.1; have bb1 := hsA.1.2.1; have bb2 := hsA.1.2.2.1; have bb3 := hsA.1.2.2.2.1; have bb4 := hsA.1.2.2.2.2; have bbf := hsA.2; have bbl := cell_lt bb0; go_simp
      have hqA : FBC w sb2 qs2 ms2 ds2 vb (.int .i64 2) (.int .i64 0) (.float .f64 4611686018427387904) (.string ⟨#[]⟩) (.slice qx 0 dx) (((((w'.setCell ⟨gA, 0, none⟩ (.int .i64 Kt)).setCell ⟨gA, 1, none⟩ (.int .i64 It)).setCell ⟨gA, 2, none⟩ (.float .f64 Ft)).setCell ⟨gA, 3, none⟩ (.string Zt)).setCell ⟨gA, 4, none⟩ (.slice qt mt dt)) := fbc_set hq (by have h := hgA; omega) (by have h := hgA; omega) (by have h := hgA; omega)
      refine hK.out _ _ ?hs12hK115jm (fun hH => ?_)
      case hs12hK115jm => exact (hqA).1
      clear hK K bb0 bb1 bb2 bb3 bb4 bbf bbl
      (try simp only [Act.put, pk0, pk1, pk2])
      refine zr1 13 (by kernel_rfl) (by simp only [lk0, lk1, lk2]; rfl) (fun K hK => ?_)
      have bb0 := hsB.1.1; have bb1 := hsB.1.2.1; have bb2 := hsB.1.2.2.1; have bb3 := hsB.1.2.2.2.1; have bb4 := hsB.1.2.2.2.2; have bbf := hsB.2; have bbl := cell_lt bb0; go_simp
      have hqB : FBC w sb2 qs2 ms2 ds2 vb (.int .i64 2) (.int .i64 0) (.float .f64 4611686018427387904) (.string ⟨#[]⟩) (.slice qx 0 dx) ((((((((((w'.setCell ⟨gA, 0, none⟩ (.int .i64 Kt)).setCell ⟨gA, 1, none⟩ (.int .i64 It)).setCell ⟨gA, 2, none⟩ (.float .f64 Ft)).setCell ⟨gA, 3, none⟩ (.string Zt)).setCell ⟨gA, 4, none⟩ (.slice qt mt dt)).setCell ⟨gB, 0, none⟩ (.int .i64 Kv)).setCell ⟨gB, 1, none⟩ (.int .i64 Iv)).setCell ⟨gB, 2, none⟩ (.float .f64 Fv)).setCell ⟨gB, 3, none⟩ (.string Zv)).setCell ⟨gB, 4, none⟩ (.slice qv mv dv)) := fbc_set hqA (by have h := hgB; omega) (by have h := hgB; omega) (by have h := hgB; omega)
      refine hK.out _ _ ?hs13hK115jm (fun hH => ?_)
      case hs13hK115jm => exact (hqB).1
      clear hK K bb0 bb1 bb2 bb3 bb4 bbf bbl
      (try simp only [Act.put, pk0, pk1, pk2])
      refine zt [14] ?_
      refine zt1 (fun _ _ d _ _ h => by cases d <;> exact h) (by simp only [lk0, lk1, lk2]; rfl) (by kernel_rfl) (by assumption) (by rfl) (fun w h => by (try dsimp only at h); go_simp; (try with_reducible rfl)) ?_; (try simp only [Act.put, pk0, pk1, pk2])
      refine zt0 ?_
      refine wpAnyH_done (by kernel_rfl) ?_ _
      have HGF := Lib.hid (show (fun z0 : World => CS z0 gA (.int .i64 Kt) (.int .i64 It) (.float .f64 Ft) (.string Zt) (.slice qt mt dt) ∧ CS z0 gB (.int .i64 Kv) (.int .i64 Iv) (.float .f64 Fv) (.string Zv) (.slice qv mv dv) ∧ FBC w sb2 qs2 ms2 ds2 vb (.int .i64 2) (.int .i64 0) (.float .f64 4611686018427387904) (.string ⟨#[]⟩) (.slice qx 0 dx) z0 ∧ Below wx.heap.size wx z0 ∧ RepS (fun b => wx.heap.size ≤ b ∧ b ≠ gA ∧ b ≠ gB) z0 3 (.agg #[.int .i64 Kt, .int .i64 It, .float .f64 Ft, .string Zt, .slice qt mt dt]) (TT) ∧ RepS (fun b => wx.heap.size ≤ b ∧ b ≠ gA ∧ b ≠ gB) z0 1 (.agg #[.int .i64 Kv, .int .i64 Iv, .float .f64 Fv, .string Zv, .slice qv mv dv]) (UU) ∧ wx.heap.size ≤ gA ∧ wx.heap.size ≤ gB) ((((((((((w'.setCell ⟨gA, 0, none⟩ (.int .i64 Kt)).setCell ⟨gA, 1, none⟩ (.int .i64 It)).setCell ⟨gA, 2, none⟩ (.float .f64 Ft)).setCell ⟨gA, 3, none⟩ (.string Zt)).setCell ⟨gA, 4, none⟩ (.slice qt mt dt)).setCell ⟨gB, 0, none⟩ (.int .i64 Kv)).setCell ⟨gB, 1, none⟩ (.int .i64 Iv)).setCell ⟨gB, 2, none⟩ (.float .f64 Fv)).setCell ⟨gB, 3, none⟩ (.string Zv)).setCell ⟨gB, 4, none⟩ (.slice qv mv dv)) from ⟨cs_other (cs_set5 hsA.1) hne, cs_set5 (cs_other hsB.1 hne.symm), hqB, bel_set5 (bel_set5 hbd hgA) hgB, repS_set (repS_set ht (fun b hb => hb.2.1)) (fun b hb => hb.2.2), repS_set (repS_set hv (fun b hb => hb.2.1)) (fun b hb => hb.2.2), hgA, hgB⟩)
      clear hq hqA hqB hbd hsA hsB hcA hcB ht hv hH
      revert HGF
      generalize ((((((((((w'.setCell ⟨gA, 0, none⟩ (.int .i64 Kt)).setCell ⟨gA, 1, none⟩ (.int .i64 It)).setCell ⟨gA, 2, none⟩ (.float .f64 Ft)).setCell ⟨gA, 3, none⟩ (.string Zt)).setCell ⟨gA, 4, none⟩ (.slice qt mt dt)).setCell ⟨gB, 0, none⟩ (.int .i64 Kv)).setCell ⟨gB, 1, none⟩ (.int .i64 Iv)).setCell ⟨gB, 2, none⟩ (.float .f64 Fv)).setCell ⟨gB, 3, none⟩ (.string Zv)).setCell ⟨gB, 4, none⟩ (.slice qv mv dv)) = Wg
      intro HGF
      go_wp2_with fail
      go_meet
      exact ⟨_, _, Kt, It, Ft, Zt, qt, mt, dt, Kv, Iv, Fv, Zv, qv, mv, dv, rfl, rfl, rfl, HGF.out⟩
    refine any_have 4 [10, 1, 2, 3, 4, 5, 6, 7, 8, 9] (fun a a' w' => ∃ (gA gE : Nat), ∃ (Kt It : Int) (Ft : Nat) (Zt : ByteArray) (qt : Option Addr) (mt dt : Nat) (Kv Iv : Int) (Fv : Nat) (Zv : ByteArray) (qv : Option Addr) (mv dv : Nat), a' = ((((((((((a.put (some 7) (.pointer (some ⟨gA, 0, none⟩))).put (some 29) (.agg #[.int .i64 3, .int .i64 0, .float .f64 0, .string ⟨#[97]⟩, .slice none 0 0])).put (some 30) (.agg #[.int .i64 3, .int .i64 0, .float .f64 0, .string ⟨#[97]⟩, .slice none 0 0])).put (some 31) (.agg #[.int .i64 2, .int .i64 0, .float .f64 4613937818241073152, .string ⟨#[]⟩, .slice none 0 0])).put (some 32) (.slice (some ⟨gE, 0, none⟩) 3 3)).put (some 33) (.tuple #[.agg #[.int .i64 Kt, .int .i64 It, .float .f64 Ft, .string Zt, .slice qt mt dt], .agg #[.int .i64 Kv, .int .i64 Iv, .float .f64 Fv, .string Zv, .slice qv mv dv], .int .i64 z])).put (some 27) (.tuple #[.agg #[.int .i64 Kt, .int .i64 It, .float .f64 Ft, .string Zt, .slice qt mt dt], .agg #[.int .i64 Kv, .int .i64 Iv, .float .f64 Fv, .string Zv, .slice qv mv dv], .int .i64 z])).put (some 34) (.agg #[.int .i64 Kt, .int .i64 It, .float .f64 Ft, .string Zt, .slice qt mt dt])).put (some 35) (.agg #[.int .i64 Kv, .int .i64 Iv, .float .f64 Fv, .string Zv, .slice qv mv dv])).put (some 36) (.int .i64 z)) ∧ FBC w sb2 qs2 ms2 ds2 vb (.int .i64 2) (.int .i64 0) (.float .f64 4611686018427387904) (.string ⟨#[]⟩) (.slice qx 0 dx) w' ∧ Below wx.heap.size wx w' ∧ SBX w' gA (.int .i64 0) (.int .i64 0) (.float .f64 0) (.string ⟨#[]⟩) (.slice none 0 0) ∧ wx.heap.size ≤ gA ∧ RepS (fun b => wx.heap.size ≤ b ∧ b ≠ gA) w' 3 (.agg #[.int .i64 Kt, .int .i64 It, .float .f64 Ft, .string Zt, .slice qt mt dt]) (TT) ∧ RepS (fun b => wx.heap.size ≤ b ∧ b ≠ gA) w' 1 (.agg #[.int .i64 Kv, .int .i64 Iv, .float .f64 Fv, .string Zv, .slice qv mv dv]) (UU)) ?phK105jm (fun hK105 => ?_)
    case phK105jm =>
      intro a' w' hst hH
      obtain ⟨gA, gE, Kt, It, Ft, Zt, qt, mt, dt, Kv, Iv, Fv, Zv, qv, mv, dv, rfl, hq, hbd, hsA, hgA, ht, hv⟩ := hst
      (try simp only [Act.put, pk0, pk1, pk2])
      refine wpAnyH_ready (rs := [11]) (by kernel_rfl) (by simp) ?_
      refine AllReadyH.cons (o := ?_) ?hoBhK105jm ?hstBhK105jm AllReadyH.nil
      case hoBhK105jm => (simp only [lk0, lk1, lk2]; rfl)
      case hstBhK105jm =>
        intro K hK
        go_simp
        refine hK.out _ _ ?hsBhK105jm (fun hH => ?_)
        case hsBhK105jm => exact ((fbc_step hq bz)).1
        clear hK K
        (try simp only [Act.put, pk0, pk1, pk2])
        exact any_eq (by kernel_rfl) (by kernel_rfl) (hK115 _ _ ⟨gA, _, gE, Kt, It, Ft, Zt, qt, mt, dt, Kv, Iv, Fv, Zv, qv, mv, dv, rfl, (fbc_step hq bz), (bel_step hbd bz), (sbx_step hsA bz), hgA, ⟨cs_new rfl, fun o => row_frz (row_alloc _ _ _) o⟩, hbd.size, (by have h := cs_lt hsA.1; omega), (repS_step bz (repS_mono (fun b hb => ⟨hb.1.1, hb.1.2, Nat.ne_of_lt hb.2⟩) _ _ _ (repS_lt _ _ _ ht))), (repS_step bz (repS_mono (fun b hb => ⟨hb.1.1, hb.1.2, Nat.ne_of_lt hb.2⟩) _ _ _ (repS_lt _ _ _ hv)))⟩ hH)
    refine any_have 4 [11, 1, 2, 3, 4, 5, 6, 7, 8, 9] (fun a a' w' => ∃ (gB gE : Nat), ∃ (Kt It : Int) (Ft : Nat) (Zt : ByteArray) (qt : Option Addr) (mt dt : Nat) (Kv Iv : Int) (Fv : Nat) (Zv : ByteArray) (qv : Option Addr) (mv dv : Nat), a' = ((((((((((a.put (some 8) (.pointer (some ⟨gB, 0, none⟩))).put (some 29) (.agg #[.int .i64 3, .int .i64 0, .float .f64 0, .string ⟨#[97]⟩, .slice none 0 0])).put (some 30) (.agg #[.int .i64 3, .int .i64 0, .float .f64 0, .string ⟨#[97]⟩, .slice none 0 0])).put (some 31) (.agg #[.int .i64 2, .int .i64 0, .float .f64 4613937818241073152, .string ⟨#[]⟩, .slice none 0 0])).put (some 32) (.slice (some ⟨gE, 0, none⟩) 3 3)).put (some 33) (.tuple #[.agg #[.int .i64 Kt, .int .i64 It, .float .f64 Ft, .string Zt, .slice qt mt dt], .agg #[.int .i64 Kv, .int .i64 Iv, .float .f64 Fv, .string Zv, .slice qv mv dv], .int .i64 z])).put (some 27) (.tuple #[.agg #[.int .i64 Kt, .int .i64 It, .float .f64 Ft, .string Zt, .slice qt mt dt], .agg #[.int .i64 Kv, .int .i64 Iv, .float .f64 Fv, .string Zv, .slice qv mv dv], .int .i64 z])).put (some 34) (.agg #[.int .i64 Kt, .int .i64 It, .float .f64 Ft, .string Zt, .slice qt mt dt])).put (some 35) (.agg #[.int .i64 Kv, .int .i64 Iv, .float .f64 Fv, .string Zv, .slice qv mv dv])).put (some 36) (.int .i64 z)) ∧ FBC w sb2 qs2 ms2 ds2 vb (.int .i64 2) (.int .i64 0) (.float .f64 4611686018427387904) (.string ⟨#[]⟩) (.slice qx 0 dx) w' ∧ Below wx.heap.size wx w' ∧ SBX w' gB (.int .i64 0) (.int .i64 0) (.float .f64 0) (.string ⟨#[]⟩) (.slice none 0 0) ∧ wx.heap.size ≤ gB ∧ RepS (fun b => wx.heap.size ≤ b ∧ b ≠ gB) w' 3 (.agg #[.int .i64 Kt, .int .i64 It, .float .f64 Ft, .string Zt, .slice qt mt dt]) (TT) ∧ RepS (fun b => wx.heap.size ≤ b ∧ b ≠ gB) w' 1 (.agg #[.int .i64 Kv, .int .i64 Iv, .float .f64 Fv, .string Zv, .slice qv mv dv]) (UU)) ?phK015jm (fun hK015 => ?_)
    case phK015jm =>
      intro a' w' hst hH
      obtain ⟨gB, gE, Kt, It, Ft, Zt, qt, mt, dt, Kv, Iv, Fv, Zv, qv, mv, dv, rfl, hq, hbd, hsB, hgB, ht, hv⟩ := hst
      (try simp only [Act.put, pk0, pk1, pk2])
      refine wpAnyH_ready (rs := [10]) (by kernel_rfl) (by simp) ?_
      refine AllReadyH.cons (o := ?_) ?hoAhK015jm ?hstAhK015jm AllReadyH.nil
      case hoAhK015jm => (simp only [lk0, lk1, lk2]; rfl)
      case hstAhK015jm =>
        intro K hK
        go_simp
        refine hK.out _ _ ?hsAhK015jm (fun hH => ?_)
        case hsAhK015jm => exact ((fbc_step hq bz)).1
        clear hK K
        (try simp only [Act.put, pk0, pk1, pk2])
        exact any_eq (by kernel_rfl) (by kernel_rfl) (hK115 _ _ ⟨_, gB, gE, Kt, It, Ft, Zt, qt, mt, dt, Kv, Iv, Fv, Zv, qv, mv, dv, rfl, (fbc_step hq bz), (bel_step hbd bz), ⟨cs_new rfl, fun o => row_frz (row_alloc _ _ _) o⟩, hbd.size, (sbx_step hsB bz), hgB, (by have h := cs_lt hsB.1; omega), (repS_step bz (repS_mono (fun b hb => ⟨hb.1.1, Nat.ne_of_lt hb.2, hb.1.2⟩) _ _ _ (repS_lt _ _ _ ht))), (repS_step bz (repS_mono (fun b hb => ⟨hb.1.1, Nat.ne_of_lt hb.2, hb.1.2⟩) _ _ _ (repS_lt _ _ _ hv)))⟩ hH)
    refine any_have 5 [1, 2, 3, 4, 5, 6, 7, 8, 9] (fun a a' w' => ∃ (gE : Nat), ∃ (Kt It : Int) (Ft : Nat) (Zt : ByteArray) (qt : Option Addr) (mt dt : Nat) (Kv Iv : Int) (Fv : Nat) (Zv : ByteArray) (qv : Option Addr) (mv dv : Nat), a' = (((((((((a.put (some 29) (.agg #[.int .i64 3, .int .i64 0, .float .f64 0, .string ⟨#[97]⟩, .slice none 0 0])).put (some 30) (.agg #[.int .i64 3, .int .i64 0, .float .f64 0, .string ⟨#[97]⟩, .slice none 0 0])).put (some 31) (.agg #[.int .i64 2, .int .i64 0, .float .f64 4613937818241073152, .string ⟨#[]⟩, .slice none 0 0])).put (some 32) (.slice (some ⟨gE, 0, none⟩) 3 3)).put (some 33) (.tuple #[.agg #[.int .i64 Kt, .int .i64 It, .float .f64 Ft, .string Zt, .slice qt mt dt], .agg #[.int .i64 Kv, .int .i64 Iv, .float .f64 Fv, .string Zv, .slice qv mv dv], .int .i64 z])).put (some 27) (.tuple #[.agg #[.int .i64 Kt, .int .i64 It, .float .f64 Ft, .string Zt, .slice qt mt dt], .agg #[.int .i64 Kv, .int .i64 Iv, .float .f64 Fv, .string Zv, .slice qv mv dv], .int .i64 z])).put (some 34) (.agg #[.int .i64 Kt, .int .i64 It, .float .f64 Ft, .string Zt, .slice qt mt dt])).put (some 35) (.agg #[.int .i64 Kv, .int .i64 Iv, .float .f64 Fv, .string Zv, .slice qv mv dv])).put (some 36) (.int .i64 z)) ∧ FBC w sb2 qs2 ms2 ds2 vb (.int .i64 2) (.int .i64 0) (.float .f64 4611686018427387904) (.string ⟨#[]⟩) (.slice qx 0 dx) w' ∧ Below wx.heap.size wx w' ∧ RepS (fun b => wx.heap.size ≤ b) w' 3 (.agg #[.int .i64 Kt, .int .i64 It, .float .f64 Ft, .string Zt, .slice qt mt dt]) (TT) ∧ RepS (fun b => wx.heap.size ≤ b) w' 1 (.agg #[.int .i64 Kv, .int .i64 Iv, .float .f64 Fv, .string Zv, .slice qv mv dv]) (UU)) ?phK005jm (fun hK005 => ?_)
    case phK005jm =>
      intro a' w' hst hH
      obtain ⟨gE, Kt, It, Ft, Zt, qt, mt, dt, Kv, Iv, Fv, Zv, qv, mv, dv, rfl, hq, hbd, ht, hv⟩ := hst
      (try simp only [Act.put, pk0, pk1, pk2])
      refine wpAnyH_ready (rs := [10, 11]) (by kernel_rfl) (by simp) ?_
      refine AllReadyH.cons (o := ?_) ?hoAhK005jm ?hstAhK005jm (AllReadyH.cons (o := ?_) ?hoBhK005jm ?hstBhK005jm AllReadyH.nil)
      case hoAhK005jm => (simp only [lk0, lk1, lk2]; rfl)
      case hoBhK005jm => (simp only [lk0, lk1, lk2]; rfl)
      case hstAhK005jm =>
        intro K hK
        go_simp
        refine hK.out _ _ ?hsAhK005jm (fun hH => ?_)
        case hsAhK005jm => exact ((fbc_step hq bz)).1
        clear hK K
        (try simp only [Act.put, pk0, pk1, pk2])
        exact any_eq (by kernel_rfl) (by kernel_rfl) (hK105 _ _ ⟨_, gE, Kt, It, Ft, Zt, qt, mt, dt, Kv, Iv, Fv, Zv, qv, mv, dv, rfl, (fbc_step hq bz), (bel_step hbd bz), ⟨cs_new rfl, fun o => row_frz (row_alloc _ _ _) o⟩, hbd.size, (repS_step bz (repS_mono (fun b hb => ⟨hb.1, Nat.ne_of_lt hb.2⟩) _ _ _ (repS_lt _ _ _ ht))), (repS_step bz (repS_mono (fun b hb => ⟨hb.1, Nat.ne_of_lt hb.2⟩) _ _ _ (repS_lt _ _ _ hv)))⟩ hH)
      case hstBhK005jm =>
        intro K hK
        go_simp
        refine hK.out _ _ ?hsBhK005jm (fun hH => ?_)
        case hsBhK005jm => exact ((fbc_step hq bz)).1
        clear hK K
        (try simp only [Act.put, pk0, pk1, pk2])
        exact any_eq (by kernel_rfl) (by kernel_rfl) (hK015 _ _ ⟨_, gE, Kt, It, Ft, Zt, qt, mt, dt, Kv, Iv, Fv, Zv, qv, mv, dv, rfl, (fbc_step hq bz), (bel_step hbd bz), ⟨cs_new rfl, fun o => row_frz (row_alloc _ _ _) o⟩, hbd.size, (repS_step bz (repS_mono (fun b hb => ⟨hb.1, Nat.ne_of_lt hb.2⟩) _ _ _ (repS_lt _ _ _ ht))), (repS_step bz (repS_mono (fun b hb => ⟨hb.1, Nat.ne_of_lt hb.2⟩) _ _ _ (repS_lt _ _ _ hv)))⟩ hH)
    refine any_have 8 [10, 11, 1, 2, 3, 4] (fun a a' w' => ∃ (gA gB gE : Nat), a' = ((((((a.put (some 7) (.pointer (some ⟨gA, 0, none⟩))).put (some 8) (.pointer (some ⟨gB, 0, none⟩))).put (some 29) (.agg #[.int .i64 3, .int .i64 0, .float .f64 0, .string ⟨#[97]⟩, .slice none 0 0])).put (some 30) (.agg #[.int .i64 3, .int .i64 0, .float .f64 0, .string ⟨#[97]⟩, .slice none 0 0])).put (some 31) (.agg #[.int .i64 2, .int .i64 0, .float .f64 4613937818241073152, .string ⟨#[]⟩, .slice none 0 0])).put (some 32) (.slice (some ⟨gE, 0, none⟩) 3 3)) ∧ FBC w sb2 qs2 ms2 ds2 vb (.int .i64 2) (.int .i64 0) (.float .f64 4611686018427387904) (.string ⟨#[]⟩) (.slice qx 0 dx) w' ∧ Below wx.heap.size wx w' ∧ SBX w' gA (.int .i64 0) (.int .i64 0) (.float .f64 0) (.string ⟨#[]⟩) (.slice none 0 0) ∧ wx.heap.size ≤ gA ∧ SBX w' gB (.int .i64 0) (.int .i64 0) (.float .f64 0) (.string ⟨#[]⟩) (.slice none 0 0) ∧ wx.heap.size ≤ gB ∧ gA ≠ gB ∧ LA gE [nameV 0 ⟨#[97]⟩, nameV 0 ⟨#[97]⟩, (2, 0, 4613937818241073152, ⟨#[]⟩, [])] w') ?phK114jm (fun hK114 => ?_)
    case phK114jm =>
      intro a' w' hst hH
      obtain ⟨gA, gB, gE, rfl, hq, hbd, hsA, hgA, hsB, hgB, hne, hlv⟩ := hst
      (try simp only [Act.put, pk0, pk1, pk2])
      refine wpAnyH_ready (rs := [5]) (by kernel_rfl) (by simp) ?_
      refine AllReadyH.cons (o := ?_) ?hoXhK114jm ?hstXhK114jm AllReadyH.nil
      case hoXhK114jm => (simp only [lk0, lk1, lk2]; rfl)
      case hstXhK114jm =>
        intro K hK
        go_simp
        have hrp := rep_keep hbd _ _ _ HST2.out; go_at_call 7; refine (HDO.out _ _ hrp hlv).mono ?_; rintro e wD ⟨tt, vv, rfl, hbT, ht, hv⟩; obtain ⟨Kt, It, Ft, Zt, qt, mt, dt, rfl, _⟩ := repS_shape ht; obtain ⟨Kv, Iv, Fv, Zv, qv, mv, dv, rfl, _⟩ := repS_shape hv
        go_wp2_with fail
        refine hK.out _ _ ?hsXhK114jm (fun hH => ?_)
        case hsXhK114jm => exact ((fbc_step hq hbT)).1
        clear hK K
        (try simp only [Act.put, pk0, pk1, pk2])
        refine zt [6, 7, 8, 9] ?_
        iterate 4 (refine zt1 (fun _ _ d _ _ h => by cases d <;> exact h) (by simp only [lk0, lk1, lk2]; rfl) (by kernel_rfl) (by assumption) (by rfl) (fun w h => by (try dsimp only at h); go_simp; (try with_reducible rfl)) ?_; (try simp only [Act.put, pk0, pk1, pk2]))
        refine zt0 ?_
        exact any_eq (by kernel_rfl) (by kernel_rfl) (hK115 _ _ ⟨gA, gB, gE, Kt, It, Ft, Zt, qt, mt, dt, Kv, Iv, Fv, Zv, qv, mv, dv, rfl, (fbc_step hq hbT), (bel_step hbd hbT), (sbx_step hsA hbT), hgA, (sbx_step hsB hbT), hgB, hne, (repS_mono (fun b hb => ⟨Nat.le_trans hbd.size hb, (by have h := cs_lt hsA.1; have h2 : _ ≤ b := hb; omega), (by have h := cs_lt hsB.1; have h2 : _ ≤ b := hb; omega)⟩) _ _ _ ht), (repS_mono (fun b hb => ⟨Nat.le_trans hbd.size hb, (by have h := cs_lt hsA.1; have h2 : _ ≤ b := hb; omega), (by have h := cs_lt hsB.1; have h2 : _ ≤ b := hb; omega)⟩) _ _ _ hv)⟩ hH)
    refine any_have 9 [10, 1, 2, 3, 4] (fun a a' w' => ∃ (gA gE : Nat), a' = (((((a.put (some 7) (.pointer (some ⟨gA, 0, none⟩))).put (some 29) (.agg #[.int .i64 3, .int .i64 0, .float .f64 0, .string ⟨#[97]⟩, .slice none 0 0])).put (some 30) (.agg #[.int .i64 3, .int .i64 0, .float .f64 0, .string ⟨#[97]⟩, .slice none 0 0])).put (some 31) (.agg #[.int .i64 2, .int .i64 0, .float .f64 4613937818241073152, .string ⟨#[]⟩, .slice none 0 0])).put (some 32) (.slice (some ⟨gE, 0, none⟩) 3 3)) ∧ FBC w sb2 qs2 ms2 ds2 vb (.int .i64 2) (.int .i64 0) (.float .f64 4611686018427387904) (.string ⟨#[]⟩) (.slice qx 0 dx) w' ∧ Below wx.heap.size wx w' ∧ SBX w' gA (.int .i64 0) (.int .i64 0) (.float .f64 0) (.string ⟨#[]⟩) (.slice none 0 0) ∧ wx.heap.size ≤ gA ∧ LA gE [nameV 0 ⟨#[97]⟩, nameV 0 ⟨#[97]⟩, (2, 0, 4613937818241073152, ⟨#[]⟩, [])] w') ?phK104jm (fun hK104 => ?_)
    case phK104jm =>
      intro a' w' hst hH
      obtain ⟨gA, gE, rfl, hq, hbd, hsA, hgA, hlv⟩ := hst
      (try simp only [Act.put, pk0, pk1, pk2])
      refine wpAnyH_ready (rs := [5, 11]) (by kernel_rfl) (by simp) ?_
      refine AllReadyH.cons (o := ?_) ?hoXhK104jm ?hstXhK104jm (AllReadyH.cons (o := ?_) ?hoBhK104jm ?hstBhK104jm AllReadyH.nil)
      case hoXhK104jm => (simp only [lk0, lk1, lk2]; rfl)
      case hoBhK104jm => (simp only [lk0, lk1, lk2]; rfl)
      case hstXhK104jm =>
        intro K hK
        go_simp
        have hrp := rep_keep hbd _ _ _ HST2.out; go_at_call 7; refine (HDO.out _ _ hrp hlv).mono ?_; rintro e wD ⟨tt, vv, rfl, hbT, ht, hv⟩; obtain ⟨Kt, It, Ft, Zt, qt, mt, dt, rfl, _⟩ := repS_shape ht; obtain ⟨Kv, Iv, Fv, Zv, qv, mv, dv, rfl, _⟩ := repS_shape hv
        go_wp2_with fail
        refine hK.out _ _ ?hsXhK104jm (fun hH => ?_)
        case hsXhK104jm => exact ((fbc_step hq hbT)).1
        clear hK K
        (try simp only [Act.put, pk0, pk1, pk2])
        refine zt [6, 7, 8, 9] ?_
        iterate 4 (refine zt1 (fun _ _ d _ _ h => by cases d <;> exact h) (by simp only [lk0, lk1, lk2]; rfl) (by kernel_rfl) (by assumption) (by rfl) (fun w h => by (try dsimp only at h); go_simp; (try with_reducible rfl)) ?_; (try simp only [Act.put, pk0, pk1, pk2]))
        refine zt0 ?_
        exact any_eq (by kernel_rfl) (by kernel_rfl) (hK105 _ _ ⟨gA, gE, Kt, It, Ft, Zt, qt, mt, dt, Kv, Iv, Fv, Zv, qv, mv, dv, rfl, (fbc_step hq hbT), (bel_step hbd hbT), (sbx_step hsA hbT), hgA, (repS_mono (fun b hb => ⟨Nat.le_trans hbd.size hb, (by have h := cs_lt hsA.1; have h2 : _ ≤ b := hb; omega)⟩) _ _ _ ht), (repS_mono (fun b hb => ⟨Nat.le_trans hbd.size hb, (by have h := cs_lt hsA.1; have h2 : _ ≤ b := hb; omega)⟩) _ _ _ hv)⟩ hH)
      case hstBhK104jm =>
        intro K hK
        go_simp
        refine hK.out _ _ ?hsBhK104jm (fun hH => ?_)
        case hsBhK104jm => exact ((fbc_step hq bz)).1
        clear hK K
        (try simp only [Act.put, pk0, pk1, pk2])
        exact any_eq (by kernel_rfl) (by kernel_rfl) (hK114 _ _ ⟨gA, _, gE, rfl, (fbc_step hq bz), (bel_step hbd bz), (sbx_step hsA bz), hgA, ⟨cs_new rfl, fun o => row_frz (row_alloc _ _ _) o⟩, hbd.size, (by have h := cs_lt hsA.1; omega), (la_step hlv bz)⟩ hH)
    refine any_have 9 [11, 1, 2, 3, 4] (fun a a' w' => ∃ (gB gE : Nat), a' = (((((a.put (some 8) (.pointer (some ⟨gB, 0, none⟩))).put (some 29) (.agg #[.int .i64 3, .int .i64 0, .float .f64 0, .string ⟨#[97]⟩, .slice none 0 0])).put (some 30) (.agg #[.int .i64 3, .int .i64 0, .float .f64 0, .string ⟨#[97]⟩, .slice none 0 0])).put (some 31) (.agg #[.int .i64 2, .int .i64 0, .float .f64 4613937818241073152, .string ⟨#[]⟩, .slice none 0 0])).put (some 32) (.slice (some ⟨gE, 0, none⟩) 3 3)) ∧ FBC w sb2 qs2 ms2 ds2 vb (.int .i64 2) (.int .i64 0) (.float .f64 4611686018427387904) (.string ⟨#[]⟩) (.slice qx 0 dx) w' ∧ Below wx.heap.size wx w' ∧ SBX w' gB (.int .i64 0) (.int .i64 0) (.float .f64 0) (.string ⟨#[]⟩) (.slice none 0 0) ∧ wx.heap.size ≤ gB ∧ LA gE [nameV 0 ⟨#[97]⟩, nameV 0 ⟨#[97]⟩, (2, 0, 4613937818241073152, ⟨#[]⟩, [])] w') ?phK014jm (fun hK014 => ?_)
    case phK014jm =>
      intro a' w' hst hH
      obtain ⟨gB, gE, rfl, hq, hbd, hsB, hgB, hlv⟩ := hst
      (try simp only [Act.put, pk0, pk1, pk2])
      refine wpAnyH_ready (rs := [5, 10]) (by kernel_rfl) (by simp) ?_
      refine AllReadyH.cons (o := ?_) ?hoXhK014jm ?hstXhK014jm (AllReadyH.cons (o := ?_) ?hoAhK014jm ?hstAhK014jm AllReadyH.nil)
      case hoXhK014jm => (simp only [lk0, lk1, lk2]; rfl)
      case hoAhK014jm => (simp only [lk0, lk1, lk2]; rfl)
      case hstXhK014jm =>
        intro K hK
        go_simp
        have hrp := rep_keep hbd _ _ _ HST2.out; go_at_call 7; refine (HDO.out _ _ hrp hlv).mono ?_; rintro e wD ⟨tt, vv, rfl, hbT, ht, hv⟩; obtain ⟨Kt, It, Ft, Zt, qt, mt, dt, rfl, _⟩ := repS_shape ht; obtain ⟨Kv, Iv, Fv, Zv, qv, mv, dv, rfl, _⟩ := repS_shape hv
        go_wp2_with fail
        refine hK.out _ _ ?hsXhK014jm (fun hH => ?_)
        case hsXhK014jm => exact ((fbc_step hq hbT)).1
        clear hK K
        (try simp only [Act.put, pk0, pk1, pk2])
        refine zt [6, 7, 8, 9] ?_
        iterate 4 (refine zt1 (fun _ _ d _ _ h => by cases d <;> exact h) (by simp only [lk0, lk1, lk2]; rfl) (by kernel_rfl) (by assumption) (by rfl) (fun w h => by (try dsimp only at h); go_simp; (try with_reducible rfl)) ?_; (try simp only [Act.put, pk0, pk1, pk2]))
        refine zt0 ?_
        exact any_eq (by kernel_rfl) (by kernel_rfl) (hK015 _ _ ⟨gB, gE, Kt, It, Ft, Zt, qt, mt, dt, Kv, Iv, Fv, Zv, qv, mv, dv, rfl, (fbc_step hq hbT), (bel_step hbd hbT), (sbx_step hsB hbT), hgB, (repS_mono (fun b hb => ⟨Nat.le_trans hbd.size hb, (by have h := cs_lt hsB.1; have h2 : _ ≤ b := hb; omega)⟩) _ _ _ ht), (repS_mono (fun b hb => ⟨Nat.le_trans hbd.size hb, (by have h := cs_lt hsB.1; have h2 : _ ≤ b := hb; omega)⟩) _ _ _ hv)⟩ hH)
      case hstAhK014jm =>
        intro K hK
        go_simp
        refine hK.out _ _ ?hsAhK014jm (fun hH => ?_)
        case hsAhK014jm => exact ((fbc_step hq bz)).1
        clear hK K
        (try simp only [Act.put, pk0, pk1, pk2])
        exact any_eq (by kernel_rfl) (by kernel_rfl) (hK114 _ _ ⟨_, gB, gE, rfl, (fbc_step hq bz), (bel_step hbd bz), ⟨cs_new rfl, fun o => row_frz (row_alloc _ _ _) o⟩, hbd.size, (sbx_step hsB bz), hgB, (by have h := cs_lt hsB.1; omega), (la_step hlv bz)⟩ hH)
    refine any_have 10 [1, 2, 3, 4] (fun a a' w' => ∃ (gE : Nat), a' = ((((a.put (some 29) (.agg #[.int .i64 3, .int .i64 0, .float .f64 0, .string ⟨#[97]⟩, .slice none 0 0])).put (some 30) (.agg #[.int .i64 3, .int .i64 0, .float .f64 0, .string ⟨#[97]⟩, .slice none 0 0])).put (some 31) (.agg #[.int .i64 2, .int .i64 0, .float .f64 4613937818241073152, .string ⟨#[]⟩, .slice none 0 0])).put (some 32) (.slice (some ⟨gE, 0, none⟩) 3 3)) ∧ FBC w sb2 qs2 ms2 ds2 vb (.int .i64 2) (.int .i64 0) (.float .f64 4611686018427387904) (.string ⟨#[]⟩) (.slice qx 0 dx) w' ∧ Below wx.heap.size wx w' ∧ LA gE [nameV 0 ⟨#[97]⟩, nameV 0 ⟨#[97]⟩, (2, 0, 4613937818241073152, ⟨#[]⟩, [])] w') ?phK004jm (fun hK004 => ?_)
    case phK004jm =>
      intro a' w' hst hH
      obtain ⟨gE, rfl, hq, hbd, hlv⟩ := hst
      (try simp only [Act.put, pk0, pk1, pk2])
      refine wpAnyH_ready (rs := [5, 10, 11]) (by kernel_rfl) (by simp) ?_
      refine AllReadyH.cons (o := ?_) ?hoXhK004jm ?hstXhK004jm (AllReadyH.cons (o := ?_) ?hoAhK004jm ?hstAhK004jm (AllReadyH.cons (o := ?_) ?hoBhK004jm ?hstBhK004jm AllReadyH.nil))
      case hoXhK004jm => (simp only [lk0, lk1, lk2]; rfl)
      case hoAhK004jm => (simp only [lk0, lk1, lk2]; rfl)
      case hoBhK004jm => (simp only [lk0, lk1, lk2]; rfl)
      case hstXhK004jm =>
        intro K hK
        go_simp
        have hrp := rep_keep hbd _ _ _ HST2.out; go_at_call 7; refine (HDO.out _ _ hrp hlv).mono ?_; rintro e wD ⟨tt, vv, rfl, hbT, ht, hv⟩; obtain ⟨Kt, It, Ft, Zt, qt, mt, dt, rfl, _⟩ := repS_shape ht; obtain ⟨Kv, Iv, Fv, Zv, qv, mv, dv, rfl, _⟩ := repS_shape hv
        go_wp2_with fail
        refine hK.out _ _ ?hsXhK004jm (fun hH => ?_)
        case hsXhK004jm => exact ((fbc_step hq hbT)).1
        clear hK K
        (try simp only [Act.put, pk0, pk1, pk2])
        refine zt [6, 7, 8, 9] ?_
        iterate 4 (refine zt1 (fun _ _ d _ _ h => by cases d <;> exact h) (by simp only [lk0, lk1, lk2]; rfl) (by kernel_rfl) (by assumption) (by rfl) (fun w h => by (try dsimp only at h); go_simp; (try with_reducible rfl)) ?_; (try simp only [Act.put, pk0, pk1, pk2]))
        refine zt0 ?_
        exact any_eq (by kernel_rfl) (by kernel_rfl) (hK005 _ _ ⟨gE, Kt, It, Ft, Zt, qt, mt, dt, Kv, Iv, Fv, Zv, qv, mv, dv, rfl, (fbc_step hq hbT), (bel_step hbd hbT), (repS_mono (fun b hb => Nat.le_trans hbd.size hb) _ _ _ ht), (repS_mono (fun b hb => Nat.le_trans hbd.size hb) _ _ _ hv)⟩ hH)
      case hstAhK004jm =>
        intro K hK
        go_simp
        refine hK.out _ _ ?hsAhK004jm (fun hH => ?_)
        case hsAhK004jm => exact ((fbc_step hq bz)).1
        clear hK K
        (try simp only [Act.put, pk0, pk1, pk2])
        exact any_eq (by kernel_rfl) (by kernel_rfl) (hK104 _ _ ⟨_, gE, rfl, (fbc_step hq bz), (bel_step hbd bz), ⟨cs_new rfl, fun o => row_frz (row_alloc _ _ _) o⟩, hbd.size, (la_step hlv bz)⟩ hH)
      case hstBhK004jm =>
        intro K hK
        go_simp
        refine hK.out _ _ ?hsBhK004jm (fun hH => ?_)
        case hsBhK004jm => exact ((fbc_step hq bz)).1
        clear hK K
        (try simp only [Act.put, pk0, pk1, pk2])
        exact any_eq (by kernel_rfl) (by kernel_rfl) (hK014 _ _ ⟨_, gE, rfl, (fbc_step hq bz), (bel_step hbd bz), ⟨cs_new rfl, fun o => row_frz (row_alloc _ _ _) o⟩, hbd.size, (la_step hlv bz)⟩ hH)
    refine any_have 9 [10, 11, 1, 2, 3] (fun a a' w' => ∃ (gA gB : Nat), a' = (((((a.put (some 7) (.pointer (some ⟨gA, 0, none⟩))).put (some 8) (.pointer (some ⟨gB, 0, none⟩))).put (some 29) (.agg #[.int .i64 3, .int .i64 0, .float .f64 0, .string ⟨#[97]⟩, .slice none 0 0])).put (some 30) (.agg #[.int .i64 3, .int .i64 0, .float .f64 0, .string ⟨#[97]⟩, .slice none 0 0])).put (some 31) (.agg #[.int .i64 2, .int .i64 0, .float .f64 4613937818241073152, .string ⟨#[]⟩, .slice none 0 0])) ∧ FBC w sb2 qs2 ms2 ds2 vb (.int .i64 2) (.int .i64 0) (.float .f64 4611686018427387904) (.string ⟨#[]⟩) (.slice qx 0 dx) w' ∧ Below wx.heap.size wx w' ∧ SBX w' gA (.int .i64 0) (.int .i64 0) (.float .f64 0) (.string ⟨#[]⟩) (.slice none 0 0) ∧ wx.heap.size ≤ gA ∧ SBX w' gB (.int .i64 0) (.int .i64 0) (.float .f64 0) (.string ⟨#[]⟩) (.slice none 0 0) ∧ wx.heap.size ≤ gB ∧ gA ≠ gB) ?phK113jm (fun hK113 => ?_)
    case phK113jm =>
      intro a' w' hst hH
      obtain ⟨gA, gB, rfl, hq, hbd, hsA, hgA, hsB, hgB, hne⟩ := hst
      (try simp only [Act.put, pk0, pk1, pk2])
      refine wpAnyH_ready (rs := [4]) (by kernel_rfl) (by simp) ?_
      refine AllReadyH.cons (o := ?_) ?hoXhK113jm ?hstXhK113jm AllReadyH.nil
      case hoXhK113jm => (simp only [lk0, lk1, lk2]; rfl)
      case hstXhK113jm =>
        intro K hK
        go_simp
        refine hK.out _ _ ?hsXhK113jm (fun hH => ?_)
        case hsXhK113jm => exact ((fbc_step hq (bel_alloc br (.cells #[.int .i64 3, .int .i64 0, .float .f64 0, .string ⟨#[97]⟩, .slice none 0 0, .int .i64 3, .int .i64 0, .float .f64 0, .string ⟨#[97]⟩, .slice none 0 0, .int .i64 2, .int .i64 0, .float .f64 4613937818241073152, .string ⟨#[]⟩, .slice none 0 0] 27)))).1
        clear hK K
        (try simp only [Act.put, pk0, pk1, pk2])
        exact any_eq (by kernel_rfl) (by kernel_rfl) (hK114 _ _ ⟨gA, gB, _, rfl, (fbc_step hq (bel_alloc br (.cells #[.int .i64 3, .int .i64 0, .float .f64 0, .string ⟨#[97]⟩, .slice none 0 0, .int .i64 3, .int .i64 0, .float .f64 0, .string ⟨#[97]⟩, .slice none 0 0, .int .i64 2, .int .i64 0, .float .f64 4613937818241073152, .string ⟨#[]⟩, .slice none 0 0] 27))), (bel_step hbd (bel_alloc br (.cells #[.int .i64 3, .int .i64 0, .float .f64 0, .string ⟨#[97]⟩, .slice none 0 0, .int .i64 3, .int .i64 0, .float .f64 0, .string ⟨#[97]⟩, .slice none 0 0, .int .i64 2, .int .i64 0, .float .f64 4613937818241073152, .string ⟨#[]⟩, .slice none 0 0] 27))), (sbx_step hsA (bel_alloc br (.cells #[.int .i64 3, .int .i64 0, .float .f64 0, .string ⟨#[97]⟩, .slice none 0 0, .int .i64 3, .int .i64 0, .float .f64 0, .string ⟨#[97]⟩, .slice none 0 0, .int .i64 2, .int .i64 0, .float .f64 4613937818241073152, .string ⟨#[]⟩, .slice none 0 0] 27))), hgA, (sbx_step hsB (bel_alloc br (.cells #[.int .i64 3, .int .i64 0, .float .f64 0, .string ⟨#[97]⟩, .slice none 0 0, .int .i64 3, .int .i64 0, .float .f64 0, .string ⟨#[97]⟩, .slice none 0 0, .int .i64 2, .int .i64 0, .float .f64 4613937818241073152, .string ⟨#[]⟩, .slice none 0 0] 27))), hgB, hne, (la3_new rfl (by decide) (by decide) (by decide) (by decide) (by decide))⟩ hH)
    refine any_have 10 [10, 1, 2, 3] (fun a a' w' => ∃ (gA : Nat), a' = ((((a.put (some 7) (.pointer (some ⟨gA, 0, none⟩))).put (some 29) (.agg #[.int .i64 3, .int .i64 0, .float .f64 0, .string ⟨#[97]⟩, .slice none 0 0])).put (some 30) (.agg #[.int .i64 3, .int .i64 0, .float .f64 0, .string ⟨#[97]⟩, .slice none 0 0])).put (some 31) (.agg #[.int .i64 2, .int .i64 0, .float .f64 4613937818241073152, .string ⟨#[]⟩, .slice none 0 0])) ∧ FBC w sb2 qs2 ms2 ds2 vb (.int .i64 2) (.int .i64 0) (.float .f64 4611686018427387904) (.string ⟨#[]⟩) (.slice qx 0 dx) w' ∧ Below wx.heap.size wx w' ∧ SBX w' gA (.int .i64 0) (.int .i64 0) (.float .f64 0) (.string ⟨#[]⟩) (.slice none 0 0) ∧ wx.heap.size ≤ gA) ?phK103jm (fun hK103 => ?_)
    case phK103jm =>
      intro a' w' hst hH
      obtain ⟨gA, rfl, hq, hbd, hsA, hgA⟩ := hst
      (try simp only [Act.put, pk0, pk1, pk2])
      refine wpAnyH_ready (rs := [4, 11]) (by kernel_rfl) (by simp) ?_
      refine AllReadyH.cons (o := ?_) ?hoXhK103jm ?hstXhK103jm (AllReadyH.cons (o := ?_) ?hoBhK103jm ?hstBhK103jm AllReadyH.nil)
      case hoXhK103jm => (simp only [lk0, lk1, lk2]; rfl)
      case hoBhK103jm => (simp only [lk0, lk1, lk2]; rfl)
      case hstXhK103jm =>
        intro K hK
        go_simp
        refine hK.out _ _ ?hsXhK103jm (fun hH => ?_)
        case hsXhK103jm => exact ((fbc_step hq (bel_alloc br (.cells #[.int .i64 3, .int .i64 0, .float .f64 0, .string ⟨#[97]⟩, .slice none 0 0, .int .i64 3, .int .i64 0, .float .f64 0, .string ⟨#[97]⟩, .slice none 0 0, .int .i64 2, .int .i64 0, .float .f64 4613937818241073152, .string ⟨#[]⟩, .slice none 0 0] 27)))).1
        clear hK K
        (try simp only [Act.put, pk0, pk1, pk2])
        exact any_eq (by kernel_rfl) (by kernel_rfl) (hK104 _ _ ⟨gA, _, rfl, (fbc_step hq (bel_alloc br (.cells #[.int .i64 3, .int .i64 0, .float .f64 0, .string ⟨#[97]⟩, .slice none 0 0, .int .i64 3, .int .i64 0, .float .f64 0, .string ⟨#[97]⟩, .slice none 0 0, .int .i64 2, .int .i64 0, .float .f64 4613937818241073152, .string ⟨#[]⟩, .slice none 0 0] 27))), (bel_step hbd (bel_alloc br (.cells #[.int .i64 3, .int .i64 0, .float .f64 0, .string ⟨#[97]⟩, .slice none 0 0, .int .i64 3, .int .i64 0, .float .f64 0, .string ⟨#[97]⟩, .slice none 0 0, .int .i64 2, .int .i64 0, .float .f64 4613937818241073152, .string ⟨#[]⟩, .slice none 0 0] 27))), (sbx_step hsA (bel_alloc br (.cells #[.int .i64 3, .int .i64 0, .float .f64 0, .string ⟨#[97]⟩, .slice none 0 0, .int .i64 3, .int .i64 0, .float .f64 0, .string ⟨#[97]⟩, .slice none 0 0, .int .i64 2, .int .i64 0, .float .f64 4613937818241073152, .string ⟨#[]⟩, .slice none 0 0] 27))), hgA, (la3_new rfl (by decide) (by decide) (by decide) (by decide) (by decide))⟩ hH)
      case hstBhK103jm =>
        intro K hK
        go_simp
        refine hK.out _ _ ?hsBhK103jm (fun hH => ?_)
        case hsBhK103jm => exact ((fbc_step hq bz)).1
        clear hK K
        (try simp only [Act.put, pk0, pk1, pk2])
        exact any_eq (by kernel_rfl) (by kernel_rfl) (hK113 _ _ ⟨gA, _, rfl, (fbc_step hq bz), (bel_step hbd bz), (sbx_step hsA bz), hgA, ⟨cs_new rfl, fun o => row_frz (row_alloc _ _ _) o⟩, hbd.size, (by have h := cs_lt hsA.1; omega)⟩ hH)
    refine any_have 10 [11, 1, 2, 3] (fun a a' w' => ∃ (gB : Nat), a' = ((((a.put (some 8) (.pointer (some ⟨gB, 0, none⟩))).put (some 29) (.agg #[.int .i64 3, .int .i64 0, .float .f64 0, .string ⟨#[97]⟩, .slice none 0 0])).put (some 30) (.agg #[.int .i64 3, .int .i64 0, .float .f64 0, .string ⟨#[97]⟩, .slice none 0 0])).put (some 31) (.agg #[.int .i64 2, .int .i64 0, .float .f64 4613937818241073152, .string ⟨#[]⟩, .slice none 0 0])) ∧ FBC w sb2 qs2 ms2 ds2 vb (.int .i64 2) (.int .i64 0) (.float .f64 4611686018427387904) (.string ⟨#[]⟩) (.slice qx 0 dx) w' ∧ Below wx.heap.size wx w' ∧ SBX w' gB (.int .i64 0) (.int .i64 0) (.float .f64 0) (.string ⟨#[]⟩) (.slice none 0 0) ∧ wx.heap.size ≤ gB) ?phK013jm (fun hK013 => ?_)
    case phK013jm =>
      intro a' w' hst hH
      obtain ⟨gB, rfl, hq, hbd, hsB, hgB⟩ := hst
      (try simp only [Act.put, pk0, pk1, pk2])
      refine wpAnyH_ready (rs := [4, 10]) (by kernel_rfl) (by simp) ?_
      refine AllReadyH.cons (o := ?_) ?hoXhK013jm ?hstXhK013jm (AllReadyH.cons (o := ?_) ?hoAhK013jm ?hstAhK013jm AllReadyH.nil)
      case hoXhK013jm => (simp only [lk0, lk1, lk2]; rfl)
      case hoAhK013jm => (simp only [lk0, lk1, lk2]; rfl)
      case hstXhK013jm =>
        intro K hK
        go_simp
        refine hK.out _ _ ?hsXhK013jm (fun hH => ?_)
        case hsXhK013jm => exact ((fbc_step hq (bel_alloc br (.cells #[.int .i64 3, .int .i64 0, .float .f64 0, .string ⟨#[97]⟩, .slice none 0 0, .int .i64 3, .int .i64 0, .float .f64 0, .string ⟨#[97]⟩, .slice none 0 0, .int .i64 2, .int .i64 0, .float .f64 4613937818241073152, .string ⟨#[]⟩, .slice none 0 0] 27)))).1
        clear hK K
        (try simp only [Act.put, pk0, pk1, pk2])
        exact any_eq (by kernel_rfl) (by kernel_rfl) (hK014 _ _ ⟨gB, _, rfl, (fbc_step hq (bel_alloc br (.cells #[.int .i64 3, .int .i64 0, .float .f64 0, .string ⟨#[97]⟩, .slice none 0 0, .int .i64 3, .int .i64 0, .float .f64 0, .string ⟨#[97]⟩, .slice none 0 0, .int .i64 2, .int .i64 0, .float .f64 4613937818241073152, .string ⟨#[]⟩, .slice none 0 0] 27))), (bel_step hbd (bel_alloc br (.cells #[.int .i64 3, .int .i64 0, .float .f64 0, .string ⟨#[97]⟩, .slice none 0 0, .int .i64 3, .int .i64 0, .float .f64 0, .string ⟨#[97]⟩, .slice none 0 0, .int .i64 2, .int .i64 0, .float .f64 4613937818241073152, .string ⟨#[]⟩, .slice none 0 0] 27))), (sbx_step hsB (bel_alloc br (.cells #[.int .i64 3, .int .i64 0, .float .f64 0, .string ⟨#[97]⟩, .slice none 0 0, .int .i64 3, .int .i64 0, .float .f64 0, .string ⟨#[97]⟩, .slice none 0 0, .int .i64 2, .int .i64 0, .float .f64 4613937818241073152, .string ⟨#[]⟩, .slice none 0 0] 27))), hgB, (la3_new rfl (by decide) (by decide) (by decide) (by decide) (by decide))⟩ hH)
      case hstAhK013jm =>
        intro K hK
        go_simp
        refine hK.out _ _ ?hsAhK013jm (fun hH => ?_)
        case hsAhK013jm => exact ((fbc_step hq bz)).1
        clear hK K
        (try simp only [Act.put, pk0, pk1, pk2])
        exact any_eq (by kernel_rfl) (by kernel_rfl) (hK113 _ _ ⟨_, gB, rfl, (fbc_step hq bz), (bel_step hbd bz), ⟨cs_new rfl, fun o => row_frz (row_alloc _ _ _) o⟩, hbd.size, (sbx_step hsB bz), hgB, (by have h := cs_lt hsB.1; omega)⟩ hH)
    refine any_have 11 [1, 2, 3] (fun a a' w' => a' = (((a.put (some 29) (.agg #[.int .i64 3, .int .i64 0, .float .f64 0, .string ⟨#[97]⟩, .slice none 0 0])).put (some 30) (.agg #[.int .i64 3, .int .i64 0, .float .f64 0, .string ⟨#[97]⟩, .slice none 0 0])).put (some 31) (.agg #[.int .i64 2, .int .i64 0, .float .f64 4613937818241073152, .string ⟨#[]⟩, .slice none 0 0])) ∧ FBC w sb2 qs2 ms2 ds2 vb (.int .i64 2) (.int .i64 0) (.float .f64 4611686018427387904) (.string ⟨#[]⟩) (.slice qx 0 dx) w' ∧ Below wx.heap.size wx w') ?phK003jm (fun hK003 => ?_)
    case phK003jm =>
      intro a' w' hst hH
      obtain ⟨rfl, hq, hbd⟩ := hst
      (try simp only [Act.put, pk0, pk1, pk2])
      refine wpAnyH_ready (rs := [4, 10, 11]) (by kernel_rfl) (by simp) ?_
      refine AllReadyH.cons (o := ?_) ?hoXhK003jm ?hstXhK003jm (AllReadyH.cons (o := ?_) ?hoAhK003jm ?hstAhK003jm (AllReadyH.cons (o := ?_) ?hoBhK003jm ?hstBhK003jm AllReadyH.nil))
      case hoXhK003jm => (simp only [lk0, lk1, lk2]; rfl)
      case hoAhK003jm => (simp only [lk0, lk1, lk2]; rfl)
      case hoBhK003jm => (simp only [lk0, lk1, lk2]; rfl)
      case hstXhK003jm =>
        intro K hK
        go_simp
        refine hK.out _ _ ?hsXhK003jm (fun hH => ?_)
        case hsXhK003jm => exact ((fbc_step hq (bel_alloc br (.cells #[.int .i64 3, .int .i64 0, .float .f64 0, .string ⟨#[97]⟩, .slice none 0 0, .int .i64 3, .int .i64 0, .float .f64 0, .string ⟨#[97]⟩, .slice none 0 0, .int .i64 2, .int .i64 0, .float .f64 4613937818241073152, .string ⟨#[]⟩, .slice none 0 0] 27)))).1
        clear hK K
        (try simp only [Act.put, pk0, pk1, pk2])
        exact any_eq (by kernel_rfl) (by kernel_rfl) (hK004 _ _ ⟨_, rfl, (fbc_step hq (bel_alloc br (.cells #[.int .i64 3, .int .i64 0, .float .f64 0, .string ⟨#[97]⟩, .slice none 0 0, .int .i64 3, .int .i64 0, .float .f64 0, .string ⟨#[97]⟩, .slice none 0 0, .int .i64 2, .int .i64 0, .float .f64 4613937818241073152, .string ⟨#[]⟩, .slice none 0 0] 27))), (bel_step hbd (bel_alloc br (.cells #[.int .i64 3, .int .i64 0, .float .f64 0, .string ⟨#[97]⟩, .slice none 0 0, .int .i64 3, .int .i64 0, .float .f64 0, .string ⟨#[97]⟩, .slice none 0 0, .int .i64 2, .int .i64 0, .float .f64 4613937818241073152, .string ⟨#[]⟩, .slice none 0 0] 27))), (la3_new rfl (by decide) (by decide) (by decide) (by decide) (by decide))⟩ hH)
      case hstAhK003jm =>
        intro K hK
        go_simp
        refine hK.out _ _ ?hsAhK003jm (fun hH => ?_)
        case hsAhK003jm => exact ((fbc_step hq bz)).1
        clear hK K
        (try simp only [Act.put, pk0, pk1, pk2])
        exact any_eq (by kernel_rfl) (by kernel_rfl) (hK103 _ _ ⟨_, rfl, (fbc_step hq bz), (bel_step hbd bz), ⟨cs_new rfl, fun o => row_frz (row_alloc _ _ _) o⟩, hbd.size⟩ hH)
      case hstBhK003jm =>
        intro K hK
        go_simp
        refine hK.out _ _ ?hsBhK003jm (fun hH => ?_)
        case hsBhK003jm => exact ((fbc_step hq bz)).1
        clear hK K
        (try simp only [Act.put, pk0, pk1, pk2])
        exact any_eq (by kernel_rfl) (by kernel_rfl) (hK013 _ _ ⟨_, rfl, (fbc_step hq bz), (bel_step hbd bz), ⟨cs_new rfl, fun o => row_frz (row_alloc _ _ _) o⟩, hbd.size⟩ hH)
    refine any_have 10 [10, 11, 1, 2] (fun a a' w' => ∃ (gA gB : Nat), a' = ((((a.put (some 7) (.pointer (some ⟨gA, 0, none⟩))).put (some 8) (.pointer (some ⟨gB, 0, none⟩))).put (some 29) (.agg #[.int .i64 3, .int .i64 0, .float .f64 0, .string ⟨#[97]⟩, .slice none 0 0])).put (some 30) (.agg #[.int .i64 3, .int .i64 0, .float .f64 0, .string ⟨#[97]⟩, .slice none 0 0])) ∧ FBC w sb2 qs2 ms2 ds2 vb (.int .i64 2) (.int .i64 0) (.float .f64 4611686018427387904) (.string ⟨#[]⟩) (.slice qx 0 dx) w' ∧ Below wx.heap.size wx w' ∧ SBX w' gA (.int .i64 0) (.int .i64 0) (.float .f64 0) (.string ⟨#[]⟩) (.slice none 0 0) ∧ wx.heap.size ≤ gA ∧ SBX w' gB (.int .i64 0) (.int .i64 0) (.float .f64 0) (.string ⟨#[]⟩) (.slice none 0 0) ∧ wx.heap.size ≤ gB ∧ gA ≠ gB) ?phK112jm (fun hK112 => ?_)
    case phK112jm =>
      intro a' w' hst hH
      obtain ⟨gA, gB, rfl, hq, hbd, hsA, hgA, hsB, hgB, hne⟩ := hst
      (try simp only [Act.put, pk0, pk1, pk2])
      refine wpAnyH_ready (rs := [3]) (by kernel_rfl) (by simp) ?_
      refine AllReadyH.cons (o := ?_) ?hoXhK112jm ?hstXhK112jm AllReadyH.nil
      case hoXhK112jm => (simp only [lk0, lk1, lk2]; rfl)
      case hstXhK112jm =>
        intro K hK
        go_simp
        go_at_call 13; refine (flo_ref3 _).mono ?_; rintro e wT ⟨rfl, hbT⟩
        go_wp2_with fail
        refine hK.out _ _ ?hsXhK112jm (fun hH => ?_)
        case hsXhK112jm => exact ((fbc_step hq hbT)).1
        clear hK K
        (try simp only [Act.put, pk0, pk1, pk2])
        exact any_eq (by kernel_rfl) (by kernel_rfl) (hK113 _ _ ⟨gA, gB, rfl, (fbc_step hq hbT), (bel_step hbd hbT), (sbx_step hsA hbT), hgA, (sbx_step hsB hbT), hgB, hne⟩ hH)
    refine any_have 11 [10, 1, 2] (fun a a' w' => ∃ (gA : Nat), a' = (((a.put (some 7) (.pointer (some ⟨gA, 0, none⟩))).put (some 29) (.agg #[.int .i64 3, .int .i64 0, .float .f64 0, .string ⟨#[97]⟩, .slice none 0 0])).put (some 30) (.agg #[.int .i64 3, .int .i64 0, .float .f64 0, .string ⟨#[97]⟩, .slice none 0 0])) ∧ FBC w sb2 qs2 ms2 ds2 vb (.int .i64 2) (.int .i64 0) (.float .f64 4611686018427387904) (.string ⟨#[]⟩) (.slice qx 0 dx) w' ∧ Below wx.heap.size wx w' ∧ SBX w' gA (.int .i64 0) (.int .i64 0) (.float .f64 0) (.string ⟨#[]⟩) (.slice none 0 0) ∧ wx.heap.size ≤ gA) ?phK102jm (fun hK102 => ?_)
    case phK102jm =>
      intro a' w' hst hH
      obtain ⟨gA, rfl, hq, hbd, hsA, hgA⟩ := hst
      (try simp only [Act.put, pk0, pk1, pk2])
      refine wpAnyH_ready (rs := [3, 11]) (by kernel_rfl) (by simp) ?_
      refine AllReadyH.cons (o := ?_) ?hoXhK102jm ?hstXhK102jm (AllReadyH.cons (o := ?_) ?hoBhK102jm ?hstBhK102jm AllReadyH.nil)
      case hoXhK102jm => (simp only [lk0, lk1, lk2]; rfl)
      case hoBhK102jm => (simp only [lk0, lk1, lk2]; rfl)
      case hstXhK102jm =>
        intro K hK
        go_simp
        go_at_call 13; refine (flo_ref3 _).mono ?_; rintro e wT ⟨rfl, hbT⟩
        go_wp2_with fail
        refine hK.out _ _ ?hsXhK102jm (fun hH => ?_)
        case hsXhK102jm => exact ((fbc_step hq hbT)).1
        clear hK K
        (try simp only [Act.put, pk0, pk1, pk2])
        exact any_eq (by kernel_rfl) (by kernel_rfl) (hK103 _ _ ⟨gA, rfl, (fbc_step hq hbT), (bel_step hbd hbT), (sbx_step hsA hbT), hgA⟩ hH)
      case hstBhK102jm =>
        intro K hK
        go_simp
        refine hK.out _ _ ?hsBhK102jm (fun hH => ?_)
        case hsBhK102jm => exact ((fbc_step hq bz)).1
        clear hK K
        (try simp only [Act.put, pk0, pk1, pk2])
        exact any_eq (by kernel_rfl) (by kernel_rfl) (hK112 _ _ ⟨gA, _, rfl, (fbc_step hq bz), (bel_step hbd bz), (sbx_step hsA bz), hgA, ⟨cs_new rfl, fun o => row_frz (row_alloc _ _ _) o⟩, hbd.size, (by have h := cs_lt hsA.1; omega)⟩ hH)
    refine any_have 11 [11, 1, 2] (fun a a' w' => ∃ (gB : Nat), a' = (((a.put (some 8) (.pointer (some ⟨gB, 0, none⟩))).put (some 29) (.agg #[.int .i64 3, .int .i64 0, .float .f64 0, .string ⟨#[97]⟩, .slice none 0 0])).put (some 30) (.agg #[.int .i64 3, .int .i64 0, .float .f64 0, .string ⟨#[97]⟩, .slice none 0 0])) ∧ FBC w sb2 qs2 ms2 ds2 vb (.int .i64 2) (.int .i64 0) (.float .f64 4611686018427387904) (.string ⟨#[]⟩) (.slice qx 0 dx) w' ∧ Below wx.heap.size wx w' ∧ SBX w' gB (.int .i64 0) (.int .i64 0) (.float .f64 0) (.string ⟨#[]⟩) (.slice none 0 0) ∧ wx.heap.size ≤ gB) ?phK012jm (fun hK012 => ?_)
    case phK012jm =>
      intro a' w' hst hH
      obtain ⟨gB, rfl, hq, hbd, hsB, hgB⟩ := hst
      (try simp only [Act.put, pk0, pk1, pk2])
      refine wpAnyH_ready (rs := [3, 10]) (by kernel_rfl) (by simp) ?_
      refine AllReadyH.cons (o := ?_) ?hoXhK012jm ?hstXhK012jm (AllReadyH.cons (o := ?_) ?hoAhK012jm ?hstAhK012jm AllReadyH.nil)
      case hoXhK012jm => (simp only [lk0, lk1, lk2]; rfl)
      case hoAhK012jm => (simp only [lk0, lk1, lk2]; rfl)
      case hstXhK012jm =>
        intro K hK
        go_simp
        go_at_call 13; refine (flo_ref3 _).mono ?_; rintro e wT ⟨rfl, hbT⟩
        go_wp2_with fail
        refine hK.out _ _ ?hsXhK012jm (fun hH => ?_)
        case hsXhK012jm => exact ((fbc_step hq hbT)).1
        clear hK K
        (try simp only [Act.put, pk0, pk1, pk2])
        exact any_eq (by kernel_rfl) (by kernel_rfl) (hK013 _ _ ⟨gB, rfl, (fbc_step hq hbT), (bel_step hbd hbT), (sbx_step hsB hbT), hgB⟩ hH)
      case hstAhK012jm =>
        intro K hK
        go_simp
        refine hK.out _ _ ?hsAhK012jm (fun hH => ?_)
        case hsAhK012jm => exact ((fbc_step hq bz)).1
        clear hK K
        (try simp only [Act.put, pk0, pk1, pk2])
        exact any_eq (by kernel_rfl) (by kernel_rfl) (hK112 _ _ ⟨_, gB, rfl, (fbc_step hq bz), (bel_step hbd bz), ⟨cs_new rfl, fun o => row_frz (row_alloc _ _ _) o⟩, hbd.size, (sbx_step hsB bz), hgB, (by have h := cs_lt hsB.1; omega)⟩ hH)
    refine any_have 12 [1, 2] (fun a a' w' => a' = ((a.put (some 29) (.agg #[.int .i64 3, .int .i64 0, .float .f64 0, .string ⟨#[97]⟩, .slice none 0 0])).put (some 30) (.agg #[.int .i64 3, .int .i64 0, .float .f64 0, .string ⟨#[97]⟩, .slice none 0 0])) ∧ FBC w sb2 qs2 ms2 ds2 vb (.int .i64 2) (.int .i64 0) (.float .f64 4611686018427387904) (.string ⟨#[]⟩) (.slice qx 0 dx) w' ∧ Below wx.heap.size wx w') ?phK002jm (fun hK002 => ?_)
    case phK002jm =>
      intro a' w' hst hH
      obtain ⟨rfl, hq, hbd⟩ := hst
      (try simp only [Act.put, pk0, pk1, pk2])
      refine wpAnyH_ready (rs := [3, 10, 11]) (by kernel_rfl) (by simp) ?_
      refine AllReadyH.cons (o := ?_) ?hoXhK002jm ?hstXhK002jm (AllReadyH.cons (o := ?_) ?hoAhK002jm ?hstAhK002jm (AllReadyH.cons (o := ?_) ?hoBhK002jm ?hstBhK002jm AllReadyH.nil))
      case hoXhK002jm => (simp only [lk0, lk1, lk2]; rfl)
      case hoAhK002jm => (simp only [lk0, lk1, lk2]; rfl)
      case hoBhK002jm => (simp only [lk0, lk1, lk2]; rfl)
      case hstXhK002jm =>
        intro K hK
        go_simp
        go_at_call 13; refine (flo_ref3 _).mono ?_; rintro e wT ⟨rfl, hbT⟩
        go_wp2_with fail
        refine hK.out _ _ ?hsXhK002jm (fun hH => ?_)
        case hsXhK002jm => exact ((fbc_step hq hbT)).1
        clear hK K
        (try simp only [Act.put, pk0, pk1, pk2])
        exact any_eq (by kernel_rfl) (by kernel_rfl) (hK003 _ _ ⟨rfl, (fbc_step hq hbT), (bel_step hbd hbT)⟩ hH)
      case hstAhK002jm =>
        intro K hK
        go_simp
        refine hK.out _ _ ?hsAhK002jm (fun hH => ?_)
        case hsAhK002jm => exact ((fbc_step hq bz)).1
        clear hK K
        (try simp only [Act.put, pk0, pk1, pk2])
        exact any_eq (by kernel_rfl) (by kernel_rfl) (hK102 _ _ ⟨_, rfl, (fbc_step hq bz), (bel_step hbd bz), ⟨cs_new rfl, fun o => row_frz (row_alloc _ _ _) o⟩, hbd.size⟩ hH)
      case hstBhK002jm =>
        intro K hK
        go_simp
        refine hK.out _ _ ?hsBhK002jm (fun hH => ?_)
        case hsBhK002jm => exact ((fbc_step hq bz)).1
        clear hK K
        (try simp only [Act.put, pk0, pk1, pk2])
        exact any_eq (by kernel_rfl) (by kernel_rfl) (hK012 _ _ ⟨_, rfl, (fbc_step hq bz), (bel_step hbd bz), ⟨cs_new rfl, fun o => row_frz (row_alloc _ _ _) o⟩, hbd.size⟩ hH)
    refine any_have 11 [10, 11, 1] (fun a a' w' => ∃ (gA gB : Nat), a' = (((a.put (some 7) (.pointer (some ⟨gA, 0, none⟩))).put (some 8) (.pointer (some ⟨gB, 0, none⟩))).put (some 29) (.agg #[.int .i64 3, .int .i64 0, .float .f64 0, .string ⟨#[97]⟩, .slice none 0 0])) ∧ FBC w sb2 qs2 ms2 ds2 vb (.int .i64 2) (.int .i64 0) (.float .f64 4611686018427387904) (.string ⟨#[]⟩) (.slice qx 0 dx) w' ∧ Below wx.heap.size wx w' ∧ SBX w' gA (.int .i64 0) (.int .i64 0) (.float .f64 0) (.string ⟨#[]⟩) (.slice none 0 0) ∧ wx.heap.size ≤ gA ∧ SBX w' gB (.int .i64 0) (.int .i64 0) (.float .f64 0) (.string ⟨#[]⟩) (.slice none 0 0) ∧ wx.heap.size ≤ gB ∧ gA ≠ gB) ?phK111jm (fun hK111 => ?_)
    case phK111jm =>
      intro a' w' hst hH
      obtain ⟨gA, gB, rfl, hq, hbd, hsA, hgA, hsB, hgB, hne⟩ := hst
      (try simp only [Act.put, pk0, pk1, pk2])
      refine wpAnyH_ready (rs := [2]) (by kernel_rfl) (by simp) ?_
      refine AllReadyH.cons (o := ?_) ?hoXhK111jm ?hstXhK111jm AllReadyH.nil
      case hoXhK111jm => (simp only [lk0, lk1, lk2]; rfl)
      case hstXhK111jm =>
        intro K hK
        go_simp
        go_at_call 11; refine (text_ref_any _ _).mono ?_; rintro e wT ⟨rfl, hbT⟩
        go_wp2_with fail
        refine hK.out _ _ ?hsXhK111jm (fun hH => ?_)
        case hsXhK111jm => exact ((fbc_step hq hbT)).1
        clear hK K
        (try simp only [Act.put, pk0, pk1, pk2])
        exact any_eq (by kernel_rfl) (by kernel_rfl) (hK112 _ _ ⟨gA, gB, rfl, (fbc_step hq hbT), (bel_step hbd hbT), (sbx_step hsA hbT), hgA, (sbx_step hsB hbT), hgB, hne⟩ hH)
    refine any_have 12 [10, 1] (fun a a' w' => ∃ (gA : Nat), a' = ((a.put (some 7) (.pointer (some ⟨gA, 0, none⟩))).put (some 29) (.agg #[.int .i64 3, .int .i64 0, .float .f64 0, .string ⟨#[97]⟩, .slice none 0 0])) ∧ FBC w sb2 qs2 ms2 ds2 vb (.int .i64 2) (.int .i64 0) (.float .f64 4611686018427387904) (.string ⟨#[]⟩) (.slice qx 0 dx) w' ∧ Below wx.heap.size wx w' ∧ SBX w' gA (.int .i64 0) (.int .i64 0) (.float .f64 0) (.string ⟨#[]⟩) (.slice none 0 0) ∧ wx.heap.size ≤ gA) ?phK101jm (fun hK101 => ?_)
    case phK101jm =>
      intro a' w' hst hH
      obtain ⟨gA, rfl, hq, hbd, hsA, hgA⟩ := hst
      (try simp only [Act.put, pk0, pk1, pk2])
      refine wpAnyH_ready (rs := [2, 11]) (by kernel_rfl) (by simp) ?_
      refine AllReadyH.cons (o := ?_) ?hoXhK101jm ?hstXhK101jm (AllReadyH.cons (o := ?_) ?hoBhK101jm ?hstBhK101jm AllReadyH.nil)
      case hoXhK101jm => (simp only [lk0, lk1, lk2]; rfl)
      case hoBhK101jm => (simp only [lk0, lk1, lk2]; rfl)
      case hstXhK101jm =>
        intro K hK
        go_simp
        go_at_call 11; refine (text_ref_any _ _).mono ?_; rintro e wT ⟨rfl, hbT⟩
        go_wp2_with fail
        refine hK.out _ _ ?hsXhK101jm (fun hH => ?_)
        case hsXhK101jm => exact ((fbc_step hq hbT)).1
        clear hK K
        (try simp only [Act.put, pk0, pk1, pk2])
        exact any_eq (by kernel_rfl) (by kernel_rfl) (hK102 _ _ ⟨gA, rfl, (fbc_step hq hbT), (bel_step hbd hbT), (sbx_step hsA hbT), hgA⟩ hH)
      case hstBhK101jm =>
        intro K hK
        go_simp
        refine hK.out _ _ ?hsBhK101jm (fun hH => ?_)
        case hsBhK101jm => exact ((fbc_step hq bz)).1
        clear hK K
        (try simp only [Act.put, pk0, pk1, pk2])
        exact any_eq (by kernel_rfl) (by kernel_rfl) (hK111 _ _ ⟨gA, _, rfl, (fbc_step hq bz), (bel_step hbd bz), (sbx_step hsA bz), hgA, ⟨cs_new rfl, fun o => row_frz (row_alloc _ _ _) o⟩, hbd.size, (by have h := cs_lt hsA.1; omega)⟩ hH)
    refine any_have 12 [11, 1] (fun a a' w' => ∃ (gB : Nat), a' = ((a.put (some 8) (.pointer (some ⟨gB, 0, none⟩))).put (some 29) (.agg #[.int .i64 3, .int .i64 0, .float .f64 0, .string ⟨#[97]⟩, .slice none 0 0])) ∧ FBC w sb2 qs2 ms2 ds2 vb (.int .i64 2) (.int .i64 0) (.float .f64 4611686018427387904) (.string ⟨#[]⟩) (.slice qx 0 dx) w' ∧ Below wx.heap.size wx w' ∧ SBX w' gB (.int .i64 0) (.int .i64 0) (.float .f64 0) (.string ⟨#[]⟩) (.slice none 0 0) ∧ wx.heap.size ≤ gB) ?phK011jm (fun hK011 => ?_)
    case phK011jm =>
      intro a' w' hst hH
      obtain ⟨gB, rfl, hq, hbd, hsB, hgB⟩ := hst
      (try simp only [Act.put, pk0, pk1, pk2])
      refine wpAnyH_ready (rs := [2, 10]) (by kernel_rfl) (by simp) ?_
      refine AllReadyH.cons (o := ?_) ?hoXhK011jm ?hstXhK011jm (AllReadyH.cons (o := ?_) ?hoAhK011jm ?hstAhK011jm AllReadyH.nil)
      case hoXhK011jm => (simp only [lk0, lk1, lk2]; rfl)
      case hoAhK011jm => (simp only [lk0, lk1, lk2]; rfl)
      case hstXhK011jm =>
        intro K hK
        go_simp
        go_at_call 11; refine (text_ref_any _ _).mono ?_; rintro e wT ⟨rfl, hbT⟩
        go_wp2_with fail
        refine hK.out _ _ ?hsXhK011jm (fun hH => ?_)
        case hsXhK011jm => exact ((fbc_step hq hbT)).1
        clear hK K
        (try simp only [Act.put, pk0, pk1, pk2])
        exact any_eq (by kernel_rfl) (by kernel_rfl) (hK012 _ _ ⟨gB, rfl, (fbc_step hq hbT), (bel_step hbd hbT), (sbx_step hsB hbT), hgB⟩ hH)
      case hstAhK011jm =>
        intro K hK
        go_simp
        refine hK.out _ _ ?hsAhK011jm (fun hH => ?_)
        case hsAhK011jm => exact ((fbc_step hq bz)).1
        clear hK K
        (try simp only [Act.put, pk0, pk1, pk2])
        exact any_eq (by kernel_rfl) (by kernel_rfl) (hK111 _ _ ⟨_, gB, rfl, (fbc_step hq bz), (bel_step hbd bz), ⟨cs_new rfl, fun o => row_frz (row_alloc _ _ _) o⟩, hbd.size, (sbx_step hsB bz), hgB, (by have h := cs_lt hsB.1; omega)⟩ hH)
    refine any_have 13 [1] (fun a a' w' => a' = (a.put (some 29) (.agg #[.int .i64 3, .int .i64 0, .float .f64 0, .string ⟨#[97]⟩, .slice none 0 0])) ∧ FBC w sb2 qs2 ms2 ds2 vb (.int .i64 2) (.int .i64 0) (.float .f64 4611686018427387904) (.string ⟨#[]⟩) (.slice qx 0 dx) w' ∧ Below wx.heap.size wx w') ?phK001jm (fun hK001 => ?_)
    case phK001jm =>
      intro a' w' hst hH
      obtain ⟨rfl, hq, hbd⟩ := hst
      (try simp only [Act.put, pk0, pk1, pk2])
      refine wpAnyH_ready (rs := [2, 10, 11]) (by kernel_rfl) (by simp) ?_
      refine AllReadyH.cons (o := ?_) ?hoXhK001jm ?hstXhK001jm (AllReadyH.cons (o := ?_) ?hoAhK001jm ?hstAhK001jm (AllReadyH.cons (o := ?_) ?hoBhK001jm ?hstBhK001jm AllReadyH.nil))
      case hoXhK001jm => (simp only [lk0, lk1, lk2]; rfl)
      case hoAhK001jm => (simp only [lk0, lk1, lk2]; rfl)
      case hoBhK001jm => (simp only [lk0, lk1, lk2]; rfl)
      case hstXhK001jm =>
        intro K hK
        go_simp
        go_at_call 11; refine (text_ref_any _ _).mono ?_; rintro e wT ⟨rfl, hbT⟩
        go_wp2_with fail
        refine hK.out _ _ ?hsXhK001jm (fun hH => ?_)
        case hsXhK001jm => exact ((fbc_step hq hbT)).1
        clear hK K
        (try simp only [Act.put, pk0, pk1, pk2])
        exact any_eq (by kernel_rfl) (by kernel_rfl) (hK002 _ _ ⟨rfl, (fbc_step hq hbT), (bel_step hbd hbT)⟩ hH)
      case hstAhK001jm =>
        intro K hK
        go_simp
        refine hK.out _ _ ?hsAhK001jm (fun hH => ?_)
        case hsAhK001jm => exact ((fbc_step hq bz)).1
        clear hK K
        (try simp only [Act.put, pk0, pk1, pk2])
        exact any_eq (by kernel_rfl) (by kernel_rfl) (hK101 _ _ ⟨_, rfl, (fbc_step hq bz), (bel_step hbd bz), ⟨cs_new rfl, fun o => row_frz (row_alloc _ _ _) o⟩, hbd.size⟩ hH)
      case hstBhK001jm =>
        intro K hK
        go_simp
        refine hK.out _ _ ?hsBhK001jm (fun hH => ?_)
        case hsBhK001jm => exact ((fbc_step hq bz)).1
        clear hK K
        (try simp only [Act.put, pk0, pk1, pk2])
        exact any_eq (by kernel_rfl) (by kernel_rfl) (hK011 _ _ ⟨_, rfl, (fbc_step hq bz), (bel_step hbd bz), ⟨cs_new rfl, fun o => row_frz (row_alloc _ _ _) o⟩, hbd.size⟩ hH)
    refine any_have 12 [10, 11] (fun a a' w' => ∃ (gA gB : Nat), a' = ((a.put (some 7) (.pointer (some ⟨gA, 0, none⟩))).put (some 8) (.pointer (some ⟨gB, 0, none⟩))) ∧ FBC w sb2 qs2 ms2 ds2 vb (.int .i64 2) (.int .i64 0) (.float .f64 4611686018427387904) (.string ⟨#[]⟩) (.slice qx 0 dx) w' ∧ Below wx.heap.size wx w' ∧ SBX w' gA (.int .i64 0) (.int .i64 0) (.float .f64 0) (.string ⟨#[]⟩) (.slice none 0 0) ∧ wx.heap.size ≤ gA ∧ SBX w' gB (.int .i64 0) (.int .i64 0) (.float .f64 0) (.string ⟨#[]⟩) (.slice none 0 0) ∧ wx.heap.size ≤ gB ∧ gA ≠ gB) ?phK110jm (fun hK110 => ?_)
    case phK110jm =>
      intro a' w' hst hH
      obtain ⟨gA, gB, rfl, hq, hbd, hsA, hgA, hsB, hgB, hne⟩ := hst
      (try simp only [Act.put, pk0, pk1, pk2])
      refine wpAnyH_ready (rs := [1]) (by kernel_rfl) (by simp) ?_
      refine AllReadyH.cons (o := ?_) ?hoXhK110jm ?hstXhK110jm AllReadyH.nil
      case hoXhK110jm => (simp only [lk0, lk1, lk2]; rfl)
      case hstXhK110jm =>
        intro K hK
        go_simp
        go_at_call 11; refine (text_ref_any _ _).mono ?_; rintro e wT ⟨rfl, hbT⟩
        go_wp2_with fail
        refine hK.out _ _ ?hsXhK110jm (fun hH => ?_)
        case hsXhK110jm => exact ((fbc_step hq hbT)).1
        clear hK K
        (try simp only [Act.put, pk0, pk1, pk2])
        exact any_eq (by kernel_rfl) (by kernel_rfl) (hK111 _ _ ⟨gA, gB, rfl, (fbc_step hq hbT), (bel_step hbd hbT), (sbx_step hsA hbT), hgA, (sbx_step hsB hbT), hgB, hne⟩ hH)
    refine any_have 13 [10] (fun a a' w' => ∃ (gA : Nat), a' = (a.put (some 7) (.pointer (some ⟨gA, 0, none⟩))) ∧ FBC w sb2 qs2 ms2 ds2 vb (.int .i64 2) (.int .i64 0) (.float .f64 4611686018427387904) (.string ⟨#[]⟩) (.slice qx 0 dx) w' ∧ Below wx.heap.size wx w' ∧ SBX w' gA (.int .i64 0) (.int .i64 0) (.float .f64 0) (.string ⟨#[]⟩) (.slice none 0 0) ∧ wx.heap.size ≤ gA) ?phK100jm (fun hK100 => ?_)
    case phK100jm =>
      intro a' w' hst hH
      obtain ⟨gA, rfl, hq, hbd, hsA, hgA⟩ := hst
      (try simp only [Act.put, pk0, pk1, pk2])
      refine wpAnyH_ready (rs := [1, 11]) (by kernel_rfl) (by simp) ?_
      refine AllReadyH.cons (o := ?_) ?hoXhK100jm ?hstXhK100jm (AllReadyH.cons (o := ?_) ?hoBhK100jm ?hstBhK100jm AllReadyH.nil)
      case hoXhK100jm => (simp only [lk0, lk1, lk2]; rfl)
      case hoBhK100jm => (simp only [lk0, lk1, lk2]; rfl)
      case hstXhK100jm =>
        intro K hK
        go_simp
        go_at_call 11; refine (text_ref_any _ _).mono ?_; rintro e wT ⟨rfl, hbT⟩
        go_wp2_with fail
        refine hK.out _ _ ?hsXhK100jm (fun hH => ?_)
        case hsXhK100jm => exact ((fbc_step hq hbT)).1
        clear hK K
        (try simp only [Act.put, pk0, pk1, pk2])
        exact any_eq (by kernel_rfl) (by kernel_rfl) (hK101 _ _ ⟨gA, rfl, (fbc_step hq hbT), (bel_step hbd hbT), (sbx_step hsA hbT), hgA⟩ hH)
      case hstBhK100jm =>
        intro K hK
        go_simp
        refine hK.out _ _ ?hsBhK100jm (fun hH => ?_)
        case hsBhK100jm => exact ((fbc_step hq bz)).1
        clear hK K
        (try simp only [Act.put, pk0, pk1, pk2])
        exact any_eq (by kernel_rfl) (by kernel_rfl) (hK110 _ _ ⟨gA, _, rfl, (fbc_step hq bz), (bel_step hbd bz), (sbx_step hsA bz), hgA, ⟨cs_new rfl, fun o => row_frz (row_alloc _ _ _) o⟩, hbd.size, (by have h := cs_lt hsA.1; omega)⟩ hH)
    refine any_have 13 [11] (fun a a' w' => ∃ (gB : Nat), a' = (a.put (some 8) (.pointer (some ⟨gB, 0, none⟩))) ∧ FBC w sb2 qs2 ms2 ds2 vb (.int .i64 2) (.int .i64 0) (.float .f64 4611686018427387904) (.string ⟨#[]⟩) (.slice qx 0 dx) w' ∧ Below wx.heap.size wx w' ∧ SBX w' gB (.int .i64 0) (.int .i64 0) (.float .f64 0) (.string ⟨#[]⟩) (.slice none 0 0) ∧ wx.heap.size ≤ gB) ?phK010jm (fun hK010 => ?_)
    case phK010jm =>
      intro a' w' hst hH
      obtain ⟨gB, rfl, hq, hbd, hsB, hgB⟩ := hst
      (try simp only [Act.put, pk0, pk1, pk2])
      refine wpAnyH_ready (rs := [1, 10]) (by kernel_rfl) (by simp) ?_
      refine AllReadyH.cons (o := ?_) ?hoXhK010jm ?hstXhK010jm (AllReadyH.cons (o := ?_) ?hoAhK010jm ?hstAhK010jm AllReadyH.nil)
      case hoXhK010jm => (simp only [lk0, lk1, lk2]; rfl)
      case hoAhK010jm => (simp only [lk0, lk1, lk2]; rfl)
      case hstXhK010jm =>
        intro K hK
        go_simp
        go_at_call 11; refine (text_ref_any _ _).mono ?_; rintro e wT ⟨rfl, hbT⟩
        go_wp2_with fail
        refine hK.out _ _ ?hsXhK010jm (fun hH => ?_)
        case hsXhK010jm => exact ((fbc_step hq hbT)).1
        clear hK K
        (try simp only [Act.put, pk0, pk1, pk2])
        exact any_eq (by kernel_rfl) (by kernel_rfl) (hK011 _ _ ⟨gB, rfl, (fbc_step hq hbT), (bel_step hbd hbT), (sbx_step hsB hbT), hgB⟩ hH)
      case hstAhK010jm =>
        intro K hK
        go_simp
        refine hK.out _ _ ?hsAhK010jm (fun hH => ?_)
        case hsAhK010jm => exact ((fbc_step hq bz)).1
        clear hK K
        (try simp only [Act.put, pk0, pk1, pk2])
        exact any_eq (by kernel_rfl) (by kernel_rfl) (hK110 _ _ ⟨_, gB, rfl, (fbc_step hq bz), (bel_step hbd bz), ⟨cs_new rfl, fun o => row_frz (row_alloc _ _ _) o⟩, hbd.size, (sbx_step hsB bz), hgB, (by have h := cs_lt hsB.1; omega)⟩ hH)
    refine wpAnyH_ready (rs := [1, 10, 11]) (by kernel_rfl) (by simp) ?_
    refine AllReadyH.cons (o := ?_) ?hoXzjm ?hstXzjm (AllReadyH.cons (o := ?_) ?hoAzjm ?hstAzjm (AllReadyH.cons (o := ?_) ?hoBzjm ?hstBzjm AllReadyH.nil))
    case hoXzjm => (simp only [lk0, lk1, lk2]; rfl)
    case hoAzjm => (simp only [lk0, lk1, lk2]; rfl)
    case hoBzjm => (simp only [lk0, lk1, lk2]; rfl)
    case hstXzjm =>
      intro K hK
      go_simp
      go_at_call 11; refine (text_ref_any _ _).mono ?_; rintro e wT ⟨rfl, hbT⟩
      go_wp2_with fail
      refine hK.out _ _ ?hsXzjm (fun hH => ?_)
      case hsXzjm => exact ((fbc_step hq hbT)).1
      clear hK K
      (try simp only [Act.put, pk0, pk1, pk2])
      exact any_eq (by kernel_rfl) (by kernel_rfl) (hK001 _ _ ⟨rfl, (fbc_step hq hbT), (bel_step hbd hbT)⟩ hH)
    case hstAzjm =>
      intro K hK
      go_simp
      refine hK.out _ _ ?hsAzjm (fun hH => ?_)
      case hsAzjm => exact ((fbc_step hq bz)).1
      clear hK K
      (try simp only [Act.put, pk0, pk1, pk2])
      exact any_eq (by kernel_rfl) (by kernel_rfl) (hK100 _ _ ⟨_, rfl, (fbc_step hq bz), (bel_step hbd bz), ⟨cs_new rfl, fun o => row_frz (row_alloc _ _ _) o⟩, hbd.size⟩ hH)
    case hstBzjm =>
      intro K hK
      go_simp
      refine hK.out _ _ ?hsBzjm (fun hH => ?_)
      case hsBzjm => exact ((fbc_step hq bz)).1
      clear hK K
      (try simp only [Act.put, pk0, pk1, pk2])
      exact any_eq (by kernel_rfl) (by kernel_rfl) (hK010 _ _ ⟨_, rfl, (fbc_step hq bz), (bel_step hbd bz), ⟨cs_new rfl, fun o => row_frz (row_alloc _ _ _) o⟩, hbd.size⟩ hH)
  case rest =>
  obtain ⟨gA2, gB2, Kt, It, Ft, Zt, qt2, mt2, dt2, Kv, Iv, Fv, Zv, qv2, mv, dv2, rfl, rfl, rfl, hca, hcb, hfb, hbel, hrt, hrv, hgA, hgB⟩ := hcut
  obtain rfl := HZ.out
  obtain ⟨⟨x0, x1, x2, x3, x4⟩, hbw, ⟨y0, y1, y2, y3, y4⟩⟩ := hfb
  have HRG := Lib.hid (lright_any 0 _ (ledA [(⟨#[97]⟩, 4611686018427387904)]) _ (rep_keep hbel _ _ _ HST2.out) (okA_L (okA_one nm_a (by decide))))
  have HBW := Lib.hid hbw
  have hl1 := cell_lt x0
  have hl2 := cell_lt y0
  have hfl : (FloatKind.f64.format.order 4611686018427387904 4611686018427387904 == some .eq) = true := by decide +kernel
  clear hca hcb hrt hrv hbel hbw HDO HZ
  go_wp2_with fail
  go_at_call 10; refine HRG.out.mono ?_; rintro e w9 ⟨rfl, hb9⟩
  have HB9 := Lib.hid (bel_step HBW.out hb9)
  clear hb9 HBW HRG x0 x1 x2 x3 x4 y0 y1 y2 y3 y4 hl1 hl2
  go_wp2
  go_ret
  exact ⟨rfl, HB9.out⟩
end Num
end Go.Proofs.Yteodljkcbddehaa
