/-
  Package ledger: transfer, its roads.
-/
import Derived.Test.YteodljkcbddehaaJMI
import Derived.Test.YteodljkcbddehaaJp16YI
namespace Go.Proofs.Yteodljkcbddehaa
open Go.RowKit
namespace Num
open Ints
set_option linter.unusedSimpArgs false
set_option linter.unusedVariables false
theorem hasOf_at (n : Nat) (v : Value) (s : ByteArray) (V : VT (n + 1)) (w0 w : World) (hb : Below w0.heap.size w0 w) (h : Rep w0 (n + 2) v (pairT n s V)) : Calls Try.prog 57 #[v] w fun e w' => ∃ (K I : Int) (F : Nat) (S : ByteArray) (q : Option Addr) (m d : Nat), e = .returned (.agg #[.int .i64 K, .int .i64 I, .float .f64 F, .string S, .slice q m d]) ∧ Below w.heap.size w w' ∧ Rep w0 (n + 1) (.agg #[.int .i64 K, .int .i64 I, .float .f64 F, .string S, .slice q m d]) V := by
  obtain ⟨g, o, c, rfl, _, _, K, I, F, Z, q, m, d, ⟨x0, x1, x2, x3, x4⟩, hr⟩ := pair_mem h
  replace x0 := ck hb x0; replace x1 := ck hb x1; replace x2 := ck hb x2; replace x3 := ck hb x3; replace x4 := ck hb x4
  have hlt : g < w.heap.size := cell_lt x0
  have hl1 : g < w.heap.size + 1 := by omega
  have hne : w.heap.size ≠ g := by omega
  have hne1 : w.heap.size + 1 ≠ g := by omega
  have HR := Lib.hid hr
  clear h hr hb
  go_enter Try.func57, Try.ntmps57
  go_wp2
  refine bodyPost_ret (v := .agg #[.int .i64 K, .int .i64 I, .float .f64 F, .string Z, .slice q m d]) (by simp [results, Try.results57, go_sem]) rfl ⟨K, I, F, Z, q, m, d, rfl, ?_, HR.out⟩
  exact bel_alloc (bel_alloc (Below.refl w.heap.size w) _) _
set_option maxRecDepth 100000 in
set_option maxHeartbeats 4000000 in
theorem transfer_amount (n : Nat) (p : Option Addr) (l c : Nat) (ka kb : ByteArray) (K3 I3 : Int) (F3 : Nat) (S3 : ByteArray) (q3 : Option Addr) (m3 d3 : Nat) (w : World) (hF : F3 < 2 ^ 64) (ha : finV K3 F3 = false ∨ signV K3 I3 F3 ≤ 0) :
    Calls Try.prog 34 #[.slice p l c, .string ka, .string kb, .agg #[.int .i64 K3, .int .i64 I3, .float .f64 F3, .string S3, .slice q3 m3 d3]] w fun e w' => e = .returned (.tuple #[.slice none 0 0, .agg #[.int .i64 0, .int .i64 0, .float .f64 0, .string ⟨#[]⟩, .slice none 0 0], .int .i64 35]) ∧ Below w.heap.size w w' := by
  have TR1 := Lib.hid (show (fun z0 : World => Zw z0 w.heap.size (.int .i64 K3) (.int .i64 I3) (.float .f64 F3) (.string S3) (.slice q3 m3 d3) ∧ Zz z0 (w.heap.size + 1) ∧ Below w.heap.size w z0) ((w.alloc (.cells #[.int .i64 K3, .int .i64 I3, .float .f64 F3, .string S3, .slice q3 m3 d3] 27)).alloc (.cells #[.int .i64 0, .int .i64 0, .float .f64 0, .string ⟨#[]⟩, .slice none 0 0] 27)) from ⟨row_alloc_step (row_alloc w #[.int .i64 K3, .int .i64 I3, .float .f64 F3, .string S3, .slice q3 m3 d3] 27) _, (ra (by simp only [World.size_alloc, World.size_drew])), bel_alloc (bel_alloc (Below.refl w.heap.size w) _) _⟩)
  have TH := Lib.hid trivial
  have HA := Lib.hid ha
  have HF := Lib.hid hF
  clear ha hF
  go_enter Try.func34, Try.ntmps34
  go_wp2_with fail
  go_at_call 58; refine (amount_bad HF.out HA.out S3 q3 m3 d3 _).mono ?_; rintro e w22 ⟨rfl, hbw22⟩
  have TR2 := Lib.hid (And.intro (row_step TR1.out.1 hbw22) (And.intro (row_step TR1.out.2.1 hbw22) (bel_step TR1.out.2.2 hbw22)))
  clear TR1
  clear hbw22
  obtain ⟨c0_0, c0_1, c0_2, c0_3, c0_4, c0f, c0l⟩ := r7 TR2.out.1
  obtain ⟨c1_0, c1_1, c1_2, c1_3, c1_4, c1f, c1l⟩ := r7 TR2.out.2.1
  go_wp2
  refine bodyPost_ret (v := .tuple #[.slice none 0 0, .agg #[.int .i64 0, .int .i64 0, .float .f64 0, .string ⟨#[]⟩, .slice none 0 0], .int .i64 35]) (by simp [results, Try.results34, go_sem, World.cell?_setCell_same, World.cell?_setCell_other, c0_0, c0_1, c0_2, c0_3, c0_4, c1_0, c1_1, c1_2, c1_3, c1_4]) rfl ⟨rfl, ?_⟩
  exact set5_below (g := w.heap.size + 1) (o := 0) (set5_below (g := w.heap.size) (o := 0) (TR2.out.2.2) (by omega) _ _ _ _ _) (by omega) _ _ _ _ _
set_option maxRecDepth 100000 in
set_option maxHeartbeats 4000000 in
theorem transfer_funds (n : Nat) (b off l c a d : Nat) (ka kd : ByteArray) (K3 I3 : Int) (F3 : Nat) (S3 : ByteArray) (q3 : Option Addr) (m3 d3 : Nat) (G FV FB : Nat) (ES : List (ByteArray × VT (n + 1))) (Va Vd : VT (n + 1)) (w0 w : World) (HBW : Hid (Below w0.heap.size w0 w)) (HL : Hid (RepL w0 (Rep w0 (n + 2)) (some ⟨b, off, none⟩) l c (ES.map (pairE n)))) (hl : l ≤ 32) (HA : Hid (AmtOk K3 I3 F3 G)) (hal : a < ES.length) (hll : ES.length = l) (hka : ES[a]'hal = (ka, Va)) (hs : Spot (ES.map (·.1)) ka a true) (hv : Va.1 = 2 ∧ Va.2.2.1 = FV) (hls : (FloatKind.f64.format.order FV G == some .lt) = true) (hdl : d < ES.length) (hkd : ES[d]'hdl = (kd, Vd)) (hsd : Spot (ES.map (·.1)) kd d true) (hvd : Vd.1 = 2 ∧ Vd.2.2.1 = FB)  :
    Calls Try.prog 34 #[.slice (some ⟨b, off, none⟩) l c, .string ka, .string kd, .agg #[.int .i64 K3, .int .i64 I3, .float .f64 F3, .string S3, .slice q3 m3 d3]] w fun e w' => e = .returned (.tuple #[.slice none 0 0, .agg #[.int .i64 0, .int .i64 0, .float .f64 0, .string ⟨#[]⟩, .slice none 0 0], .int .i64 36]) ∧ Below w.heap.size w w' := by
  have TR1 := Lib.hid (show (fun z0 : World => Zw z0 w.heap.size (.int .i64 K3) (.int .i64 I3) (.float .f64 F3) (.string S3) (.slice q3 m3 d3) ∧ Zz z0 (w.heap.size + 1) ∧ Below w.heap.size w z0) ((w.alloc (.cells #[.int .i64 K3, .int .i64 I3, .float .f64 F3, .string S3, .slice q3 m3 d3] 27)).alloc (.cells #[.int .i64 0, .int .i64 0, .float .f64 0, .string ⟨#[]⟩, .slice none 0 0] 27)) from ⟨row_alloc_step (row_alloc w #[.int .i64 K3, .int .i64 I3, .float .f64 F3, .string S3, .slice q3 m3 d3] 27) _, (ra (by simp only [World.size_alloc, World.size_drew])), bel_alloc (bel_alloc (Below.refl w.heap.size w) _) _⟩)
  have TH := Lib.hid trivial
  have HE := Lib.hid (entsL_step (ents_of HL.out (by omega)) HBW.out)
  obtain ⟨ga, oa, cga, hc0, hc1, hc2, hc3, hc4, hp⟩ := acc_at (repL_acc HBW.out HL.out) (show a < ES.length from by omega)
  rw [hka] at hp
  have HCa0 := Lib.hid hc0
  have HCa1 := Lib.hid hc1
  have HCa2 := Lib.hid hc2
  have HCa3 := Lib.hid hc3
  have HCa4 := Lib.hid hc4
  have HPa := Lib.hid hp
  have hba := cell_lt hc0
  have ha1 : (0 : Int) ≤ (a : Int) := by omega
  have ha2 : (a : Int) < (l : Int) := by omega
  clear hc0 hc1 hc2 hc3 hc4 hp
  obtain ⟨gd, od, cgd, hc0, hc1, hc2, hc3, hc4, hp⟩ := acc_at (repL_acc HBW.out HL.out) (show d < ES.length from by omega)
  rw [hkd] at hp
  have HCd0 := Lib.hid hc0
  have HCd1 := Lib.hid hc1
  have HCd2 := Lib.hid hc2
  have HCd3 := Lib.hid hc3
  have HCd4 := Lib.hid hc4
  have HPd := Lib.hid hp
  have hbd := cell_lt hc0
  have hd1 : (0 : Int) ≤ (d : Int) := by omega
  have hd2 : (d : Int) < (l : Int) := by omega
  clear hc0 hc1 hc2 hc3 hc4 hp
  have HS := Lib.hid hs
  have HVV := Lib.hid hv
  have HLS := Lib.hid hls
  clear hs hv hls
  have HSD := Lib.hid hsd
  have HVD := Lib.hid hvd
  clear hsd hvd
  have HKAA := Lib.hid hka
  clear hka
  have HKDD := Lib.hid hkd
  clear hkd
  go_enter Try.func34, Try.ntmps34
  go_wp2_with fail
  go_at_call 58; refine (amount_is HA.out S3 q3 m3 d3 _).mono ?_; rintro e w23 ⟨rfl, hbw23⟩
  have TR2 := Lib.hid (And.intro (row_step TR1.out.1 hbw23) (And.intro (row_step TR1.out.2.1 hbw23) (bel_step TR1.out.2.2 hbw23)))
  clear TR1
  clear hbw23
  obtain ⟨c0_0, c0_1, c0_2, c0_3, c0_4, c0f, c0l⟩ := r7 TR2.out.1
  go_wp2_with fail
  have TR3 := Lib.hid (show (fun z0 : World => ZF z0 w.heap.size G ∧ Zz z0 (w.heap.size + 1) ∧ Below w.heap.size w z0) (((((w23.setCell ⟨w.heap.size, 0, none⟩ (.int .i64 2)).setCell ⟨w.heap.size, 1, none⟩ (.int .i64 0)).setCell ⟨w.heap.size, 2, none⟩ (.float .f64 G)).setCell ⟨w.heap.size, 3, none⟩ (.string ⟨#[]⟩)).setCell ⟨w.heap.size, 4, none⟩ (.slice none 0 0)) from ⟨s5r TR2.out.1, s5o TR2.out.2.1 (by omega), s5b TR2.out.2.2 (by omega)⟩)
  clear TR2
  clear c0_0 c0_1 c0_2 c0_3 c0_4 c0f c0l
  go_at_call 52; refine (lfind_any _ _ c a (ES.map (·.1)) ka true _ (entsL_step HE.out TR3.out.2.2) HS.out).mono ?_; rintro e w24 ⟨rfl, hbw24⟩
  have TR4 := Lib.hid (And.intro (row_step TR3.out.1 hbw24) (And.intro (row_step TR3.out.2.1 hbw24) (bel_step TR3.out.2.2 hbw24)))
  clear TR3
  clear hbw24
  go_wp2_with fail
  go_at_call 52; refine (lfind_any _ _ c d (ES.map (·.1)) kd true _ (entsL_step HE.out TR4.out.2.2) HSD.out).mono ?_; rintro e w25 ⟨rfl, hbw25⟩
  have TR5 := Lib.hid (And.intro (row_step TR4.out.1 hbw25) (And.intro (row_step TR4.out.2.1 hbw25) (bel_step TR4.out.2.2 hbw25)))
  clear TR4
  clear hbw25
  go_upto_region 8 with fail
  have TR6 := Lib.hid (And.intro (row_step TR5.out.1 (Below.drew br)) (And.intro (row_step TR5.out.2.1 (Below.drew br)) (bel_step TR5.out.2.2 (Below.drew br))))
  clear TR5
  refine wp_region_held_drew (S := (fun z => z.cell? ⟨w.heap.size, 0, none⟩ = some (.int .i64 2) ∧ z.cell? ⟨w.heap.size, 1, none⟩ = some (.int .i64 0) ∧ z.cell? ⟨w.heap.size, 2, none⟩ = some (.float .f64 G) ∧ z.cell? ⟨w.heap.size, 3, none⟩ = some (.string ⟨#[]⟩) ∧ z.cell? ⟨w.heap.size, 4, none⟩ = some (.slice none 0 0) ∧ z.cell? ⟨b, off + a * 5, none⟩ = some (.int .i64 4) ∧ z.cell? ⟨b, off + a * 5 + 1, none⟩ = some (.int .i64 0) ∧ z.cell? ⟨b, off + a * 5 + 2, none⟩ = some (.float .f64 0) ∧ z.cell? ⟨b, off + a * 5 + 3, none⟩ = some (.string ⟨#[]⟩) ∧ z.cell? ⟨b, off + a * 5 + 4, none⟩ = some (.slice (some ⟨ga, oa, none⟩) 2 cga))) (by kernel_rfl) ?_ (fun hH => ?_)
  · exact ⟨rc TR6.out.1 0, rc TR6.out.1 1, rc TR6.out.1 2, rc TR6.out.1 3, rc TR6.out.1 4, ck TR6.out.2.2 HCa0.out, ck TR6.out.2.2 HCa1.out, ck TR6.out.2.2 HCa2.out, ck TR6.out.2.2 HCa3.out, ck TR6.out.2.2 HCa4.out⟩
  refine zt [0, 1, 2, 3, 4] ?_
  iterate 5 (refine zt1 (fun _ _ d _ _ h => by cases d <;> exact h) (by simp only [lk0, lk1, lk2]; rfl) (by kernel_rfl) (by assumption) (by rfl) (fun w h => by (try dsimp only at h); go_simp; (try with_reducible rfl)) ?_; (try simp only [Act.put, pk0, pk1, pk2]))
  refine zt0 ?_
  refine wpAnyH_ready (rs := [5, 9]) (by kernel_rfl) (by simp) ?_
  refine AllReadyH.cons (o := ?_) ?hov31_ ?hstv31_ ?mov31_
  case hov31_ => (simp only [lk0, lk1, lk2]; rfl)
  case hstv31_ =>
    intro K hK
    go_simp
    go_at_call 61; refine (less_no n ga oa cga ka Va G _ (rep_keep TR6.out.2.2 _ _ _ HPa.out) FV HVV.out HLS.out).mono ?_; rintro e w32 ⟨rfl, hbw32⟩
    have TR7 := Lib.hid (And.intro (row_step TR6.out.1 hbw32) (And.intro (row_step TR6.out.2.1 hbw32) (bel_step TR6.out.2.2 hbw32)))
    clear TR6
    clear hbw32
    go_wp2_with fail
    refine hK.out _ _ ?hsv31_ (fun hH => ?_)
    case hsv31_ => exact ⟨rc TR7.out.1 0, rc TR7.out.1 1, rc TR7.out.1 2, rc TR7.out.1 3, rc TR7.out.1 4, ck TR7.out.2.2 HCa0.out, ck TR7.out.2.2 HCa1.out, ck TR7.out.2.2 HCa2.out, ck TR7.out.2.2 HCa3.out, ck TR7.out.2.2 HCa4.out⟩
    clear hK K
    (try simp only [Act.put, pk0, pk1, pk2])
    refine zt [6, 7, 8] ?_
    iterate 3 (refine zt1 (fun _ _ d _ _ h => by cases d <;> exact h) (by simp only [lk0, lk1, lk2]; rfl) (by kernel_rfl) (by assumption) (by rfl) (fun w h => by (try dsimp only at h); go_simp; (try with_reducible rfl)) ?_; (try simp only [Act.put, pk0, pk1, pk2]))
    refine zt0 ?_
    refine zr1 9 (by kernel_rfl) (by simp only [lk0, lk1, lk2]; rfl) (fun K hK => ?_)
    go_simp
    have hlt37 : w.heap.size < w32.heap.size := row_lt TR7.out.1
    have hlt38 : w.heap.size + 1 < w32.heap.size := row_lt TR7.out.2.1
    have hlt39 : w.heap.size ≤ w32.heap.size := TR7.out.2.2.size
    have TR8 := Lib.hid (show (fun z0 : World => ZF z0 w.heap.size G ∧ Zz z0 (w.heap.size + 1) ∧ Zz z0 w32.heap.size ∧ Below w.heap.size w z0) (w32.alloc (.cells #[.int .i64 0, .int .i64 0, .float .f64 0, .string ⟨#[]⟩, .slice none 0 0] 27)) from ⟨row_alloc_step TR7.out.1 _, row_alloc_step TR7.out.2.1 _, (ra (by simp only [World.size_alloc, World.size_drew])), bel_step TR7.out.2.2 (bel_alloc br _)⟩)
    go_wp2_with fail
    refine hK.out _ _ ?hsv36_ (fun hH => ?_)
    case hsv36_ => exact ⟨rc TR8.out.1 0, rc TR8.out.1 1, rc TR8.out.1 2, rc TR8.out.1 3, rc TR8.out.1 4, ck TR8.out.2.2.2 HCa0.out, ck TR8.out.2.2.2 HCa1.out, ck TR8.out.2.2.2 HCa2.out, ck TR8.out.2.2.2 HCa3.out, ck TR8.out.2.2.2 HCa4.out⟩
    clear hK K
    (try simp only [Act.put, pk0, pk1, pk2])
    refine zr1 10 (by kernel_rfl) (by simp only [lk0, lk1, lk2]; rfl) (fun K hK => ?_)
    obtain ⟨b30, b31, b32, b33, b34, b3f, b3l⟩ := r7 TR8.out.2.2.1; go_simp
    have TR9 := Lib.hid (show (fun z0 : World => ZF z0 w.heap.size G ∧ Zz z0 (w.heap.size + 1) ∧ Zz z0 w32.heap.size ∧ Below w.heap.size w z0) (w32.alloc (.cells #[.int .i64 0, .int .i64 0, .float .f64 0, .string ⟨#[]⟩, .slice none 0 0] 27)) from ⟨row_alloc_step TR7.out.1 _, row_alloc_step TR7.out.2.1 _, (ra (by simp only [World.size_alloc, World.size_drew])), bel_step TR7.out.2.2 (bel_alloc br _)⟩)
    clear b30 b31 b32 b33 b34 b3f b3l
    go_wp2_with fail
    refine hK.out _ _ ?hsv40_ (fun hH => ?_)
    case hsv40_ => exact ⟨rc TR9.out.1 0, rc TR9.out.1 1, rc TR9.out.1 2, rc TR9.out.1 3, rc TR9.out.1 4, ck TR9.out.2.2.2 HCa0.out, ck TR9.out.2.2.2 HCa1.out, ck TR9.out.2.2.2 HCa2.out, ck TR9.out.2.2.2 HCa3.out, ck TR9.out.2.2.2 HCa4.out⟩
    clear hK K
    (try simp only [Act.put, pk0, pk1, pk2])
    refine zt [11] ?_
    refine zt1 (fun _ _ d _ _ h => by cases d <;> exact h) (by simp only [lk0, lk1, lk2]; rfl) (by kernel_rfl) (by assumption) (by rfl) (fun w h => by (try dsimp only at h); go_simp; (try with_reducible rfl)) ?_; (try simp only [Act.put, pk0, pk1, pk2])
    refine zt0 ?_
    refine wpAnyH_done (by kernel_rfl) ?_ _
    revert TR9
    generalize (w32.alloc (.cells #[.int .i64 0, .int .i64 0, .float .f64 0, .string ⟨#[]⟩, .slice none 0 0] 27)) = Wl42
    intro TR9
    obtain ⟨c1_0, c1_1, c1_2, c1_3, c1_4, c1f, c1l⟩ := r7 TR9.out.2.1
    go_wp2
    refine bodyPost_ret (v := .tuple #[.slice none 0 0, .agg #[.int .i64 0, .int .i64 0, .float .f64 0, .string ⟨#[]⟩, .slice none 0 0], .int .i64 36]) (by simp [results, Try.results34, go_sem, World.cell?_setCell_same, World.cell?_setCell_other, c1_0, c1_1, c1_2, c1_3, c1_4]) rfl ⟨rfl, ?_⟩
    exact set5_below (g := w.heap.size + 1) (o := 0) (TR9.out.2.2.2) (by omega) _ _ _ _ _
  case mov31_ =>
    refine AllReadyH.cons (o := ?_) ?hov43_ ?hstv43_ AllReadyH.nil
    case hov43_ => (simp only [lk0, lk1, lk2]; rfl)
    intro K hK
    go_simp
    have hlt44 : w.heap.size < w25.heap.size := row_lt TR6.out.1
    have hlt45 : w.heap.size + 1 < w25.heap.size := row_lt TR6.out.2.1
    have hlt46 : w.heap.size ≤ w25.heap.size := TR6.out.2.2.size
    have TR7 := Lib.hid (show (fun z0 : World => ZF z0 w.heap.size G ∧ Zz z0 (w.heap.size + 1) ∧ Zz z0 w25.heap.size ∧ Below w.heap.size w z0) (w25.drew.alloc (.cells #[.int .i64 0, .int .i64 0, .float .f64 0, .string ⟨#[]⟩, .slice none 0 0] 27)) from ⟨row_alloc_step TR6.out.1 _, row_alloc_step TR6.out.2.1 _, (ra (by simp only [World.size_alloc, World.size_drew])), bel_step TR6.out.2.2 (bel_alloc br _)⟩)
    go_wp2_with fail
    refine hK.out _ _ ?hsv43_ (fun hH => ?_)
    case hsv43_ => exact ⟨rc TR7.out.1 0, rc TR7.out.1 1, rc TR7.out.1 2, rc TR7.out.1 3, rc TR7.out.1 4, ck TR7.out.2.2.2 HCa0.out, ck TR7.out.2.2.2 HCa1.out, ck TR7.out.2.2.2 HCa2.out, ck TR7.out.2.2.2 HCa3.out, ck TR7.out.2.2.2 HCa4.out⟩
    clear hK K
    (try simp only [Act.put, pk0, pk1, pk2])
    refine zr1 5 (by kernel_rfl) (by simp only [lk0, lk1, lk2]; rfl) (fun K hK => ?_)
    go_simp
    go_at_call 61; refine (less_no n ga oa cga ka Va G _ (rep_keep TR7.out.2.2.2 _ _ _ HPa.out) FV HVV.out HLS.out).mono ?_; rintro e w48 ⟨rfl, hbw48⟩
    have TR8 := Lib.hid (And.intro (row_step TR7.out.1 hbw48) (And.intro (row_step TR7.out.2.1 hbw48) (And.intro (row_step TR7.out.2.2.1 hbw48) (bel_step TR7.out.2.2.2 hbw48))))
    clear TR7
    clear hbw48
    go_wp2_with fail
    refine hK.out _ _ ?hsv47_ (fun hH => ?_)
    case hsv47_ => exact ⟨rc TR8.out.1 0, rc TR8.out.1 1, rc TR8.out.1 2, rc TR8.out.1 3, rc TR8.out.1 4, ck TR8.out.2.2.2 HCa0.out, ck TR8.out.2.2.2 HCa1.out, ck TR8.out.2.2.2 HCa2.out, ck TR8.out.2.2.2 HCa3.out, ck TR8.out.2.2.2 HCa4.out⟩
    clear hK K
    (try simp only [Act.put, pk0, pk1, pk2])
    refine zt [6, 7, 8] ?_
    iterate 3 (refine zt1 (fun _ _ d _ _ h => by cases d <;> exact h) (by simp only [lk0, lk1, lk2]; rfl) (by kernel_rfl) (by assumption) (by rfl) (fun w h => by (try dsimp only at h); go_simp; (try with_reducible rfl)) ?_; (try simp only [Act.put, pk0, pk1, pk2]))
    refine zt0 ?_
    refine zr1 10 (by kernel_rfl) (by simp only [lk0, lk1, lk2]; rfl) (fun K hK => ?_)
    obtain ⟨b30, b31, b32, b33, b34, b3f, b3l⟩ := r7 TR8.out.2.2.1; go_simp
    have TR9 := Lib.hid (show (fun z0 : World => ZF z0 w.heap.size G ∧ Zz z0 (w.heap.size + 1) ∧ Zz z0 w25.heap.size ∧ Below w.heap.size w z0) (((((w48.setCell ⟨w25.heap.size, 0, none⟩ (.int .i64 0)).setCell ⟨w25.heap.size, 1, none⟩ (.int .i64 0)).setCell ⟨w25.heap.size, 2, none⟩ (.float .f64 0)).setCell ⟨w25.heap.size, 3, none⟩ (.string ⟨#[]⟩)).setCell ⟨w25.heap.size, 4, none⟩ (.slice none 0 0)) from ⟨s5o TR8.out.1 (by omega), s5o TR8.out.2.1 (by omega), s5r TR8.out.2.2.1, s5b TR8.out.2.2.2 (by omega)⟩)
    clear TR8
    clear b30 b31 b32 b33 b34 b3f b3l
    go_wp2_with fail
    refine hK.out _ _ ?hsv52_ (fun hH => ?_)
    case hsv52_ => exact ⟨rc TR9.out.1 0, rc TR9.out.1 1, rc TR9.out.1 2, rc TR9.out.1 3, rc TR9.out.1 4, ck TR9.out.2.2.2 HCa0.out, ck TR9.out.2.2.2 HCa1.out, ck TR9.out.2.2.2 HCa2.out, ck TR9.out.2.2.2 HCa3.out, ck TR9.out.2.2.2 HCa4.out⟩
    clear hK K
    (try simp only [Act.put, pk0, pk1, pk2])
    refine zt [11] ?_
    refine zt1 (fun _ _ d _ _ h => by cases d <;> exact h) (by simp only [lk0, lk1, lk2]; rfl) (by kernel_rfl) (by assumption) (by rfl) (fun w h => by (try dsimp only at h); go_simp; (try with_reducible rfl)) ?_; (try simp only [Act.put, pk0, pk1, pk2])
    refine zt0 ?_
    refine wpAnyH_done (by kernel_rfl) ?_ _
    revert TR9
    generalize (((((w48.setCell ⟨w25.heap.size, 0, none⟩ (.int .i64 0)).setCell ⟨w25.heap.size, 1, none⟩ (.int .i64 0)).setCell ⟨w25.heap.size, 2, none⟩ (.float .f64 0)).setCell ⟨w25.heap.size, 3, none⟩ (.string ⟨#[]⟩)).setCell ⟨w25.heap.size, 4, none⟩ (.slice none 0 0)) = Wl54
    intro TR9
    obtain ⟨c1_0, c1_1, c1_2, c1_3, c1_4, c1f, c1l⟩ := r7 TR9.out.2.1
    go_wp2
    refine bodyPost_ret (v := .tuple #[.slice none 0 0, .agg #[.int .i64 0, .int .i64 0, .float .f64 0, .string ⟨#[]⟩, .slice none 0 0], .int .i64 36]) (by simp [results, Try.results34, go_sem, World.cell?_setCell_same, World.cell?_setCell_other, c1_0, c1_1, c1_2, c1_3, c1_4]) rfl ⟨rfl, ?_⟩
    exact set5_below (g := w.heap.size + 1) (o := 0) (TR9.out.2.2.2) (by omega) _ _ _ _ _
set_option maxRecDepth 100000 in
set_option maxHeartbeats 4000000 in
theorem transfer_same (n : Nat) (b off l c a : Nat) (ka : ByteArray) (K3 I3 : Int) (F3 : Nat) (S3 : ByteArray) (q3 : Option Addr) (m3 d3 : Nat) (G FV : Nat) (ES : List (ByteArray × VT (n + 1))) (Va : VT (n + 1)) (w0 w : World) (HBW : Hid (Below w0.heap.size w0 w)) (HL : Hid (RepL w0 (Rep w0 (n + 2)) (some ⟨b, off, none⟩) l c (ES.map (pairE n)))) (hl : l ≤ 32) (HA : Hid (AmtOk K3 I3 F3 G)) (hal : a < ES.length) (hll : ES.length = l) (hka : ES[a]'hal = (ka, Va)) (hs : Spot (ES.map (·.1)) ka a true) (hv : Va.1 = 2 ∧ Va.2.2.1 = FV) (hls : (FloatKind.f64.format.order FV G == some .lt) = false)   :
    Calls Try.prog 34 #[.slice (some ⟨b, off, none⟩) l c, .string ka, .string ka, .agg #[.int .i64 K3, .int .i64 I3, .float .f64 F3, .string S3, .slice q3 m3 d3]] w fun e w' => ∃ u, e = .returned (.tuple #[.slice (some ⟨b, off, none⟩) l c, u, .int .i64 0]) ∧ Below w.heap.size w w' ∧ Rep w (n + 1) u Va := by
  have TR1 := Lib.hid (show (fun z0 : World => Zw z0 w.heap.size (.int .i64 K3) (.int .i64 I3) (.float .f64 F3) (.string S3) (.slice q3 m3 d3) ∧ Zz z0 (w.heap.size + 1) ∧ Below w.heap.size w z0) ((w.alloc (.cells #[.int .i64 K3, .int .i64 I3, .float .f64 F3, .string S3, .slice q3 m3 d3] 27)).alloc (.cells #[.int .i64 0, .int .i64 0, .float .f64 0, .string ⟨#[]⟩, .slice none 0 0] 27)) from ⟨row_alloc_step (row_alloc w #[.int .i64 K3, .int .i64 I3, .float .f64 F3, .string S3, .slice q3 m3 d3] 27) _, (ra (by simp only [World.size_alloc, World.size_drew])), bel_alloc (bel_alloc (Below.refl w.heap.size w) _) _⟩)
  have TH := Lib.hid trivial
  have HE := Lib.hid (entsL_step (ents_of HL.out (by omega)) HBW.out)
  obtain ⟨ga, oa, cga, hc0, hc1, hc2, hc3, hc4, hp⟩ := acc_at (repL_acc HBW.out HL.out) (show a < ES.length from by omega)
  rw [hka] at hp
  have HCa0 := Lib.hid hc0
  have HCa1 := Lib.hid hc1
  have HCa2 := Lib.hid hc2
  have HCa3 := Lib.hid hc3
  have HCa4 := Lib.hid hc4
  have HPa := Lib.hid hp
  have hba := cell_lt hc0
  have ha1 : (0 : Int) ≤ (a : Int) := by omega
  have ha2 : (a : Int) < (l : Int) := by omega
  clear hc0 hc1 hc2 hc3 hc4 hp
  have HCX := Lib.hid (show ∀ W, Below w.heap.size w W → W.cell? ⟨b, off + a * 5, none⟩ = some (.int .i64 4) ∧ W.cell? ⟨b, off + a * 5 + 1, none⟩ = some (.int .i64 0) ∧ W.cell? ⟨b, off + a * 5 + 2, none⟩ = some (.float .f64 0) ∧ W.cell? ⟨b, off + a * 5 + 3, none⟩ = some (.string ⟨#[]⟩) ∧ W.cell? ⟨b, off + a * 5 + 4, none⟩ = some (.slice (some ⟨ga, oa, none⟩) 2 cga) from fun W hb => ⟨ck hb HCa0.out, ck hb HCa1.out, ck hb HCa2.out, ck hb HCa3.out, ck hb HCa4.out⟩)
  have HS := Lib.hid hs
  have HVV := Lib.hid hv
  have HLS := Lib.hid hls
  clear hs hv hls
  have HKAA := Lib.hid hka
  clear hka
  go_enter Try.func34, Try.ntmps34
  go_wp2_with fail
  go_at_call 58; refine (amount_is HA.out S3 q3 m3 d3 _).mono ?_; rintro e w55 ⟨rfl, hbw55⟩
  have TR2 := Lib.hid (And.intro (row_step TR1.out.1 hbw55) (And.intro (row_step TR1.out.2.1 hbw55) (bel_step TR1.out.2.2 hbw55)))
  clear TR1
  clear hbw55
  obtain ⟨c0_0, c0_1, c0_2, c0_3, c0_4, c0f, c0l⟩ := r7 TR2.out.1
  go_wp2_with fail
  have TR3 := Lib.hid (show (fun z0 : World => ZF z0 w.heap.size G ∧ Zz z0 (w.heap.size + 1) ∧ Below w.heap.size w z0) (((((w55.setCell ⟨w.heap.size, 0, none⟩ (.int .i64 2)).setCell ⟨w.heap.size, 1, none⟩ (.int .i64 0)).setCell ⟨w.heap.size, 2, none⟩ (.float .f64 G)).setCell ⟨w.heap.size, 3, none⟩ (.string ⟨#[]⟩)).setCell ⟨w.heap.size, 4, none⟩ (.slice none 0 0)) from ⟨s5r TR2.out.1, s5o TR2.out.2.1 (by omega), s5b TR2.out.2.2 (by omega)⟩)
  clear TR2
  clear c0_0 c0_1 c0_2 c0_3 c0_4 c0f c0l
  go_at_call 52; refine (lfind_any _ _ c a (ES.map (·.1)) ka true _ (entsL_step HE.out TR3.out.2.2) HS.out).mono ?_; rintro e w56 ⟨rfl, hbw56⟩
  have TR4 := Lib.hid (And.intro (row_step TR3.out.1 hbw56) (And.intro (row_step TR3.out.2.1 hbw56) (bel_step TR3.out.2.2 hbw56)))
  clear TR3
  clear hbw56
  go_wp2_with fail
  go_at_call 52; refine (lfind_any _ _ c a (ES.map (·.1)) ka true _ (entsL_step HE.out TR4.out.2.2) HS.out).mono ?_; rintro e w57 ⟨rfl, hbw57⟩
  have TR5 := Lib.hid (And.intro (row_step TR4.out.1 hbw57) (And.intro (row_step TR4.out.2.1 hbw57) (bel_step TR4.out.2.2 hbw57)))
  clear TR4
  clear hbw57
  go_upto_region 8 with fail
  have TR6 := Lib.hid (And.intro (row_step TR5.out.1 (Below.drew br)) (And.intro (row_step TR5.out.2.1 (Below.drew br)) (bel_step TR5.out.2.2 (Below.drew br))))
  clear TR5
  refine wp_region_held_drew (S := (fun z => z.cell? ⟨w.heap.size, 0, none⟩ = some (.int .i64 2) ∧ z.cell? ⟨w.heap.size, 1, none⟩ = some (.int .i64 0) ∧ z.cell? ⟨w.heap.size, 2, none⟩ = some (.float .f64 G) ∧ z.cell? ⟨w.heap.size, 3, none⟩ = some (.string ⟨#[]⟩) ∧ z.cell? ⟨w.heap.size, 4, none⟩ = some (.slice none 0 0) ∧ z.cell? ⟨b, off + a * 5, none⟩ = some (.int .i64 4) ∧ z.cell? ⟨b, off + a * 5 + 1, none⟩ = some (.int .i64 0) ∧ z.cell? ⟨b, off + a * 5 + 2, none⟩ = some (.float .f64 0) ∧ z.cell? ⟨b, off + a * 5 + 3, none⟩ = some (.string ⟨#[]⟩) ∧ z.cell? ⟨b, off + a * 5 + 4, none⟩ = some (.slice (some ⟨ga, oa, none⟩) 2 cga))) (by kernel_rfl) ?_ (fun hH => ?_)
  · exact ⟨rc TR6.out.1 0, rc TR6.out.1 1, rc TR6.out.1 2, rc TR6.out.1 3, rc TR6.out.1 4, ck TR6.out.2.2 HCa0.out, ck TR6.out.2.2 HCa1.out, ck TR6.out.2.2 HCa2.out, ck TR6.out.2.2 HCa3.out, ck TR6.out.2.2 HCa4.out⟩
  refine zt [0, 1, 2, 3, 4] ?_
  iterate 5 (refine zt1 (fun _ _ d _ _ h => by cases d <;> exact h) (by simp only [lk0, lk1, lk2]; rfl) (by kernel_rfl) (by assumption) (by rfl) (fun w h => by (try dsimp only at h); go_simp; (try with_reducible rfl)) ?_; (try simp only [Act.put, pk0, pk1, pk2]))
  refine zt0 ?_
  refine wpAnyH_ready (rs := [5, 9]) (by kernel_rfl) (by simp) ?_
  refine AllReadyH.cons (o := ?_) ?hov63_ ?hstv63_ ?mov63_
  case hov63_ => (simp only [lk0, lk1, lk2]; rfl)
  case hstv63_ =>
    intro K hK
    go_simp
    go_at_call 61; refine (less_ok n ga oa cga ka Va G _ (rep_keep TR6.out.2.2 _ _ _ HPa.out) FV HVV.out HLS.out).mono ?_; rintro e w64 ⟨rfl, hbw64⟩
    have TR7 := Lib.hid (And.intro (row_step TR6.out.1 hbw64) (And.intro (row_step TR6.out.2.1 hbw64) (bel_step TR6.out.2.2 hbw64)))
    clear TR6
    clear hbw64
    go_wp2_with fail
    refine hK.out _ _ ?hsv63_ (fun hH => ?_)
    case hsv63_ => exact ⟨rc TR7.out.1 0, rc TR7.out.1 1, rc TR7.out.1 2, rc TR7.out.1 3, rc TR7.out.1 4, ck TR7.out.2.2 HCa0.out, ck TR7.out.2.2 HCa1.out, ck TR7.out.2.2 HCa2.out, ck TR7.out.2.2 HCa3.out, ck TR7.out.2.2 HCa4.out⟩
    clear hK K
    (try simp only [Act.put, pk0, pk1, pk2])
    refine zt [6, 7, 8] ?_
    iterate 3 (refine zt1 (fun _ _ d _ _ h => by cases d <;> exact h) (by simp only [lk0, lk1, lk2]; rfl) (by kernel_rfl) (by assumption) (by rfl) (fun w h => by (try dsimp only at h); go_simp; (try with_reducible rfl)) ?_; (try simp only [Act.put, pk0, pk1, pk2]))
    refine zt0 ?_
    refine zr1 9 (by kernel_rfl) (by simp only [lk0, lk1, lk2]; rfl) (fun K hK => ?_)
    go_simp
    have hlt69 : w.heap.size < w64.heap.size := row_lt TR7.out.1
    have hlt70 : w.heap.size + 1 < w64.heap.size := row_lt TR7.out.2.1
    have hlt71 : w.heap.size ≤ w64.heap.size := TR7.out.2.2.size
    have TR8 := Lib.hid (show (fun z0 : World => ZF z0 w.heap.size G ∧ Zz z0 (w.heap.size + 1) ∧ Zz z0 w64.heap.size ∧ Below w.heap.size w z0) (w64.alloc (.cells #[.int .i64 0, .int .i64 0, .float .f64 0, .string ⟨#[]⟩, .slice none 0 0] 27)) from ⟨row_alloc_step TR7.out.1 _, row_alloc_step TR7.out.2.1 _, (ra (by simp only [World.size_alloc, World.size_drew])), bel_step TR7.out.2.2 (bel_alloc br _)⟩)
    go_wp2_with fail
    refine hK.out _ _ ?hsv68_ (fun hH => ?_)
    case hsv68_ => exact ⟨rc TR8.out.1 0, rc TR8.out.1 1, rc TR8.out.1 2, rc TR8.out.1 3, rc TR8.out.1 4, ck TR8.out.2.2.2 HCa0.out, ck TR8.out.2.2.2 HCa1.out, ck TR8.out.2.2.2 HCa2.out, ck TR8.out.2.2.2 HCa3.out, ck TR8.out.2.2.2 HCa4.out⟩
    clear hK K
    (try simp only [Act.put, pk0, pk1, pk2])
    refine zr1 10 (by kernel_rfl) (by simp only [lk0, lk1, lk2]; rfl) (fun K hK => ?_)
    obtain ⟨b30, b31, b32, b33, b34, b3f, b3l⟩ := r7 TR8.out.2.2.1; go_simp
    have TR9 := Lib.hid (show (fun z0 : World => ZF z0 w.heap.size G ∧ Zz z0 (w.heap.size + 1) ∧ ZF z0 w64.heap.size (Flo.cop .sub FV G) ∧ Below w.heap.size w z0) (w64.alloc (.cells #[.int .i64 2, .int .i64 0, .float .f64 (Flo.cop .sub FV G), .string ⟨#[]⟩, .slice none 0 0] 27)) from ⟨row_alloc_step TR7.out.1 _, row_alloc_step TR7.out.2.1 _, (ra (by simp only [World.size_alloc, World.size_drew])), bel_step TR7.out.2.2 (bel_alloc br _)⟩)
    clear b30 b31 b32 b33 b34 b3f b3l
    go_wp2_with fail
    refine hK.out _ _ ?hsv72_ (fun hH => ?_)
    case hsv72_ => exact ⟨rc TR9.out.1 0, rc TR9.out.1 1, rc TR9.out.1 2, rc TR9.out.1 3, rc TR9.out.1 4, ck TR9.out.2.2.2 HCa0.out, ck TR9.out.2.2.2 HCa1.out, ck TR9.out.2.2.2 HCa2.out, ck TR9.out.2.2.2 HCa3.out, ck TR9.out.2.2.2 HCa4.out⟩
    clear hK K
    (try simp only [Act.put, pk0, pk1, pk2])
    refine zt [11] ?_
    refine zt1 (fun _ _ d _ _ h => by cases d <;> exact h) (by simp only [lk0, lk1, lk2]; rfl) (by kernel_rfl) (by assumption) (by rfl) (fun w h => by (try dsimp only at h); go_simp; (try with_reducible rfl)) ?_; (try simp only [Act.put, pk0, pk1, pk2])
    refine zt0 ?_
    refine wpAnyH_done (by kernel_rfl) ?_ _
    revert TR9
    generalize (w64.alloc (.cells #[.int .i64 2, .int .i64 0, .float .f64 (Flo.cop .sub FV G), .string ⟨#[]⟩, .slice none 0 0] 27)) = Wl74
    intro TR9
    obtain ⟨ca0, ca1, ca2, ca3, ca4⟩ := HCX.out _ TR9.out.2.2.2
    go_wp2_with fail
    go_at_call 57; refine (hasOf_at n _ ka Va w _ TR9.out.2.2.2 HPa.out).mono ?_; rintro e w75 ⟨Kx, Ix, Fx, Sx, qx, mx, dx, rfl, hbw75, hrx⟩
    have TR10 := Lib.hid (And.intro (row_step TR9.out.1 hbw75) (And.intro (row_step TR9.out.2.1 hbw75) (And.intro (row_step TR9.out.2.2.1 hbw75) (bel_step TR9.out.2.2.2 hbw75))))
    clear TR9
    clear hbw75
    have HX := Lib.hid hrx
    clear hrx ca0 ca1 ca2 ca3 ca4
    obtain ⟨c1_0, c1_1, c1_2, c1_3, c1_4, c1f, c1l⟩ := r7 TR10.out.2.1
    go_wp2
    refine bodyPost_ret (v := .tuple #[.slice (some ⟨b, off, none⟩) l c, .agg #[.int .i64 Kx, .int .i64 Ix, .float .f64 Fx, .string Sx, .slice qx mx dx], .int .i64 0]) (by simp [results, Try.results34, go_sem, World.cell?_setCell_same, World.cell?_setCell_other, c1_0, c1_1, c1_2, c1_3, c1_4]) rfl ⟨_, rfl, ?_, HX.out⟩
    exact set5_below (g := w.heap.size + 1) (o := 0) TR10.out.2.2.2 (by omega) _ _ _ _ _
  case mov63_ =>
    refine AllReadyH.cons (o := ?_) ?hov76_ ?hstv76_ AllReadyH.nil
    case hov76_ => (simp only [lk0, lk1, lk2]; rfl)
    intro K hK
    go_simp
    have hlt77 : w.heap.size < w57.heap.size := row_lt TR6.out.1
    have hlt78 : w.heap.size + 1 < w57.heap.size := row_lt TR6.out.2.1
    have hlt79 : w.heap.size ≤ w57.heap.size := TR6.out.2.2.size
    have TR7 := Lib.hid (show (fun z0 : World => ZF z0 w.heap.size G ∧ Zz z0 (w.heap.size + 1) ∧ Zz z0 w57.heap.size ∧ Below w.heap.size w z0) (w57.drew.alloc (.cells #[.int .i64 0, .int .i64 0, .float .f64 0, .string ⟨#[]⟩, .slice none 0 0] 27)) from ⟨row_alloc_step TR6.out.1 _, row_alloc_step TR6.out.2.1 _, (ra (by simp only [World.size_alloc, World.size_drew])), bel_step TR6.out.2.2 (bel_alloc br _)⟩)
    go_wp2_with fail
    refine hK.out _ _ ?hsv76_ (fun hH => ?_)
    case hsv76_ => exact ⟨rc TR7.out.1 0, rc TR7.out.1 1, rc TR7.out.1 2, rc TR7.out.1 3, rc TR7.out.1 4, ck TR7.out.2.2.2 HCa0.out, ck TR7.out.2.2.2 HCa1.out, ck TR7.out.2.2.2 HCa2.out, ck TR7.out.2.2.2 HCa3.out, ck TR7.out.2.2.2 HCa4.out⟩
    clear hK K
    (try simp only [Act.put, pk0, pk1, pk2])
    refine zr1 5 (by kernel_rfl) (by simp only [lk0, lk1, lk2]; rfl) (fun K hK => ?_)
    go_simp
    go_at_call 61; refine (less_ok n ga oa cga ka Va G _ (rep_keep TR7.out.2.2.2 _ _ _ HPa.out) FV HVV.out HLS.out).mono ?_; rintro e w81 ⟨rfl, hbw81⟩
    have TR8 := Lib.hid (And.intro (row_step TR7.out.1 hbw81) (And.intro (row_step TR7.out.2.1 hbw81) (And.intro (row_step TR7.out.2.2.1 hbw81) (bel_step TR7.out.2.2.2 hbw81))))
    clear TR7
    clear hbw81
    go_wp2_with fail
    refine hK.out _ _ ?hsv80_ (fun hH => ?_)
    case hsv80_ => exact ⟨rc TR8.out.1 0, rc TR8.out.1 1, rc TR8.out.1 2, rc TR8.out.1 3, rc TR8.out.1 4, ck TR8.out.2.2.2 HCa0.out, ck TR8.out.2.2.2 HCa1.out, ck TR8.out.2.2.2 HCa2.out, ck TR8.out.2.2.2 HCa3.out, ck TR8.out.2.2.2 HCa4.out⟩
    clear hK K
    (try simp only [Act.put, pk0, pk1, pk2])
    refine zt [6, 7, 8] ?_
    iterate 3 (refine zt1 (fun _ _ d _ _ h => by cases d <;> exact h) (by simp only [lk0, lk1, lk2]; rfl) (by kernel_rfl) (by assumption) (by rfl) (fun w h => by (try dsimp only at h); go_simp; (try with_reducible rfl)) ?_; (try simp only [Act.put, pk0, pk1, pk2]))
    refine zt0 ?_
    refine zr1 10 (by kernel_rfl) (by simp only [lk0, lk1, lk2]; rfl) (fun K hK => ?_)
    obtain ⟨b30, b31, b32, b33, b34, b3f, b3l⟩ := r7 TR8.out.2.2.1; go_simp
    have TR9 := Lib.hid (show (fun z0 : World => ZF z0 w.heap.size G ∧ Zz z0 (w.heap.size + 1) ∧ ZF z0 w57.heap.size (Flo.cop .sub FV G) ∧ Below w.heap.size w z0) (((((w81.setCell ⟨w57.heap.size, 0, none⟩ (.int .i64 2)).setCell ⟨w57.heap.size, 1, none⟩ (.int .i64 0)).setCell ⟨w57.heap.size, 2, none⟩ (.float .f64 (Flo.cop .sub FV G))).setCell ⟨w57.heap.size, 3, none⟩ (.string ⟨#[]⟩)).setCell ⟨w57.heap.size, 4, none⟩ (.slice none 0 0)) from ⟨s5o TR8.out.1 (by omega), s5o TR8.out.2.1 (by omega), s5r TR8.out.2.2.1, s5b TR8.out.2.2.2 (by omega)⟩)
    clear TR8
    clear b30 b31 b32 b33 b34 b3f b3l
    go_wp2_with fail
    refine hK.out _ _ ?hsv85_ (fun hH => ?_)
    case hsv85_ => exact ⟨rc TR9.out.1 0, rc TR9.out.1 1, rc TR9.out.1 2, rc TR9.out.1 3, rc TR9.out.1 4, ck TR9.out.2.2.2 HCa0.out, ck TR9.out.2.2.2 HCa1.out, ck TR9.out.2.2.2 HCa2.out, ck TR9.out.2.2.2 HCa3.out, ck TR9.out.2.2.2 HCa4.out⟩
    clear hK K
    (try simp only [Act.put, pk0, pk1, pk2])
    refine zt [11] ?_
    refine zt1 (fun _ _ d _ _ h => by cases d <;> exact h) (by simp only [lk0, lk1, lk2]; rfl) (by kernel_rfl) (by assumption) (by rfl) (fun w h => by (try dsimp only at h); go_simp; (try with_reducible rfl)) ?_; (try simp only [Act.put, pk0, pk1, pk2])
    refine zt0 ?_
    refine wpAnyH_done (by kernel_rfl) ?_ _
    revert TR9
    generalize (((((w81.setCell ⟨w57.heap.size, 0, none⟩ (.int .i64 2)).setCell ⟨w57.heap.size, 1, none⟩ (.int .i64 0)).setCell ⟨w57.heap.size, 2, none⟩ (.float .f64 (Flo.cop .sub FV G))).setCell ⟨w57.heap.size, 3, none⟩ (.string ⟨#[]⟩)).setCell ⟨w57.heap.size, 4, none⟩ (.slice none 0 0)) = Wl87
    intro TR9
    obtain ⟨ca0, ca1, ca2, ca3, ca4⟩ := HCX.out _ TR9.out.2.2.2
    go_wp2_with fail
    go_at_call 57; refine (hasOf_at n _ ka Va w _ TR9.out.2.2.2 HPa.out).mono ?_; rintro e w88 ⟨Kx, Ix, Fx, Sx, qx, mx, dx, rfl, hbw88, hrx⟩
    have TR10 := Lib.hid (And.intro (row_step TR9.out.1 hbw88) (And.intro (row_step TR9.out.2.1 hbw88) (And.intro (row_step TR9.out.2.2.1 hbw88) (bel_step TR9.out.2.2.2 hbw88))))
    clear TR9
    clear hbw88
    have HX := Lib.hid hrx
    clear hrx ca0 ca1 ca2 ca3 ca4
    obtain ⟨c1_0, c1_1, c1_2, c1_3, c1_4, c1f, c1l⟩ := r7 TR10.out.2.1
    go_wp2
    refine bodyPost_ret (v := .tuple #[.slice (some ⟨b, off, none⟩) l c, .agg #[.int .i64 Kx, .int .i64 Ix, .float .f64 Fx, .string Sx, .slice qx mx dx], .int .i64 0]) (by simp [results, Try.results34, go_sem, World.cell?_setCell_same, World.cell?_setCell_other, c1_0, c1_1, c1_2, c1_3, c1_4]) rfl ⟨_, rfl, ?_, HX.out⟩
    exact set5_below (g := w.heap.size + 1) (o := 0) TR10.out.2.2.2 (by omega) _ _ _ _ _
set_option maxRecDepth 100000 in
set_option maxHeartbeats 4000000 in
theorem transfer_sum (n : Nat) (b off l c a d : Nat) (ka kd : ByteArray) (K3 I3 : Int) (F3 : Nat) (S3 : ByteArray) (q3 : Option Addr) (m3 d3 : Nat) (G FV FB : Nat) (ES : List (ByteArray × VT (n + 1))) (Va Vd : VT (n + 1)) (w0 w : World) (HBW : Hid (Below w0.heap.size w0 w)) (HL : Hid (RepL w0 (Rep w0 (n + 2)) (some ⟨b, off, none⟩) l c (ES.map (pairE n)))) (hl : l ≤ 32) (HA : Hid (AmtOk K3 I3 F3 G)) (hal : a < ES.length) (hll : ES.length = l) (hka : ES[a]'hal = (ka, Va)) (hs : Spot (ES.map (·.1)) ka a true) (hv : Va.1 = 2 ∧ Va.2.2.1 = FV) (hls : (FloatKind.f64.format.order FV G == some .lt) = false) (hdl : d < ES.length) (hkd : ES[d]'hdl = (kd, Vd)) (hsd : Spot (ES.map (·.1)) kd d true) (hvd : Vd.1 = 2 ∧ Vd.2.2.1 = FB) (had : a ≠ d) (hsu : finV 2 (Flo.cop .add FB G) = false) :
    Calls Try.prog 34 #[.slice (some ⟨b, off, none⟩) l c, .string ka, .string kd, .agg #[.int .i64 K3, .int .i64 I3, .float .f64 F3, .string S3, .slice q3 m3 d3]] w fun e w' => e = .returned (.tuple #[.slice none 0 0, .agg #[.int .i64 0, .int .i64 0, .float .f64 0, .string ⟨#[]⟩, .slice none 0 0], .int .i64 35]) ∧ Below w.heap.size w w' := by
  have TR1 := Lib.hid (show (fun z0 : World => Zw z0 w.heap.size (.int .i64 K3) (.int .i64 I3) (.float .f64 F3) (.string S3) (.slice q3 m3 d3) ∧ Zz z0 (w.heap.size + 1) ∧ Below w.heap.size w z0) ((w.alloc (.cells #[.int .i64 K3, .int .i64 I3, .float .f64 F3, .string S3, .slice q3 m3 d3] 27)).alloc (.cells #[.int .i64 0, .int .i64 0, .float .f64 0, .string ⟨#[]⟩, .slice none 0 0] 27)) from ⟨row_alloc_step (row_alloc w #[.int .i64 K3, .int .i64 I3, .float .f64 F3, .string S3, .slice q3 m3 d3] 27) _, (ra (by simp only [World.size_alloc, World.size_drew])), bel_alloc (bel_alloc (Below.refl w.heap.size w) _) _⟩)
  have TH := Lib.hid trivial
  have HE := Lib.hid (entsL_step (ents_of HL.out (by omega)) HBW.out)
  obtain ⟨ga, oa, cga, hc0, hc1, hc2, hc3, hc4, hp⟩ := acc_at (repL_acc HBW.out HL.out) (show a < ES.length from by omega)
  rw [hka] at hp
  have HCa0 := Lib.hid hc0
  have HCa1 := Lib.hid hc1
  have HCa2 := Lib.hid hc2
  have HCa3 := Lib.hid hc3
  have HCa4 := Lib.hid hc4
  have HPa := Lib.hid hp
  have hba := cell_lt hc0
  have ha1 : (0 : Int) ≤ (a : Int) := by omega
  have ha2 : (a : Int) < (l : Int) := by omega
  clear hc0 hc1 hc2 hc3 hc4 hp
  obtain ⟨gd, od, cgd, hc0, hc1, hc2, hc3, hc4, hp⟩ := acc_at (repL_acc HBW.out HL.out) (show d < ES.length from by omega)
  rw [hkd] at hp
  have HCd0 := Lib.hid hc0
  have HCd1 := Lib.hid hc1
  have HCd2 := Lib.hid hc2
  have HCd3 := Lib.hid hc3
  have HCd4 := Lib.hid hc4
  have HPd := Lib.hid hp
  have hbd := cell_lt hc0
  have hd1 : (0 : Int) ≤ (d : Int) := by omega
  have hd2 : (d : Int) < (l : Int) := by omega
  clear hc0 hc1 hc2 hc3 hc4 hp
  have HS := Lib.hid hs
  have HVV := Lib.hid hv
  have HLS := Lib.hid hls
  clear hs hv hls
  have HSD := Lib.hid hsd
  have HVD := Lib.hid hvd
  clear hsd hvd
  have HSU := Lib.hid hsu
  have hadx : ((a : Int) == (d : Int)) = false := by rw [beq_eq_false_iff_ne]; omega
  clear hsu
  have HKAA := Lib.hid hka
  clear hka
  have HKDD := Lib.hid hkd
  clear hkd
  have HAD := Lib.hid had
  clear had
  go_enter Try.func34, Try.ntmps34
  go_wp2_with fail
  go_at_call 58; refine (amount_is HA.out S3 q3 m3 d3 _).mono ?_; rintro e w89 ⟨rfl, hbw89⟩
  have TR2 := Lib.hid (And.intro (row_step TR1.out.1 hbw89) (And.intro (row_step TR1.out.2.1 hbw89) (bel_step TR1.out.2.2 hbw89)))
  clear TR1
  clear hbw89
  obtain ⟨c0_0, c0_1, c0_2, c0_3, c0_4, c0f, c0l⟩ := r7 TR2.out.1
  go_wp2_with fail
  have TR3 := Lib.hid (show (fun z0 : World => ZF z0 w.heap.size G ∧ Zz z0 (w.heap.size + 1) ∧ Below w.heap.size w z0) (((((w89.setCell ⟨w.heap.size, 0, none⟩ (.int .i64 2)).setCell ⟨w.heap.size, 1, none⟩ (.int .i64 0)).setCell ⟨w.heap.size, 2, none⟩ (.float .f64 G)).setCell ⟨w.heap.size, 3, none⟩ (.string ⟨#[]⟩)).setCell ⟨w.heap.size, 4, none⟩ (.slice none 0 0)) from ⟨s5r TR2.out.1, s5o TR2.out.2.1 (by omega), s5b TR2.out.2.2 (by omega)⟩)
  clear TR2
  clear c0_0 c0_1 c0_2 c0_3 c0_4 c0f c0l
  go_at_call 52; refine (lfind_any _ _ c a (ES.map (·.1)) ka true _ (entsL_step HE.out TR3.out.2.2) HS.out).mono ?_; rintro e w90 ⟨rfl, hbw90⟩
  have TR4 := Lib.hid (And.intro (row_step TR3.out.1 hbw90) (And.intro (row_step TR3.out.2.1 hbw90) (bel_step TR3.out.2.2 hbw90)))
  clear TR3
  clear hbw90
  go_wp2_with fail
  go_at_call 52; refine (lfind_any _ _ c d (ES.map (·.1)) kd true _ (entsL_step HE.out TR4.out.2.2) HSD.out).mono ?_; rintro e w91 ⟨rfl, hbw91⟩
  have TR5 := Lib.hid (And.intro (row_step TR4.out.1 hbw91) (And.intro (row_step TR4.out.2.1 hbw91) (bel_step TR4.out.2.2 hbw91)))
  clear TR4
  clear hbw91
  go_upto_region 8 with fail
  have TR6 := Lib.hid (And.intro (row_step TR5.out.1 (Below.drew br)) (And.intro (row_step TR5.out.2.1 (Below.drew br)) (bel_step TR5.out.2.2 (Below.drew br))))
  clear TR5
  refine wp_region_held_drew (S := (fun z => z.cell? ⟨w.heap.size, 0, none⟩ = some (.int .i64 2) ∧ z.cell? ⟨w.heap.size, 1, none⟩ = some (.int .i64 0) ∧ z.cell? ⟨w.heap.size, 2, none⟩ = some (.float .f64 G) ∧ z.cell? ⟨w.heap.size, 3, none⟩ = some (.string ⟨#[]⟩) ∧ z.cell? ⟨w.heap.size, 4, none⟩ = some (.slice none 0 0) ∧ z.cell? ⟨b, off + a * 5, none⟩ = some (.int .i64 4) ∧ z.cell? ⟨b, off + a * 5 + 1, none⟩ = some (.int .i64 0) ∧ z.cell? ⟨b, off + a * 5 + 2, none⟩ = some (.float .f64 0) ∧ z.cell? ⟨b, off + a * 5 + 3, none⟩ = some (.string ⟨#[]⟩) ∧ z.cell? ⟨b, off + a * 5 + 4, none⟩ = some (.slice (some ⟨ga, oa, none⟩) 2 cga))) (by kernel_rfl) ?_ (fun hH => ?_)
  · exact ⟨rc TR6.out.1 0, rc TR6.out.1 1, rc TR6.out.1 2, rc TR6.out.1 3, rc TR6.out.1 4, ck TR6.out.2.2 HCa0.out, ck TR6.out.2.2 HCa1.out, ck TR6.out.2.2 HCa2.out, ck TR6.out.2.2 HCa3.out, ck TR6.out.2.2 HCa4.out⟩
  refine zt [0, 1, 2, 3, 4] ?_
  iterate 5 (refine zt1 (fun _ _ d _ _ h => by cases d <;> exact h) (by simp only [lk0, lk1, lk2]; rfl) (by kernel_rfl) (by assumption) (by rfl) (fun w h => by (try dsimp only at h); go_simp; (try with_reducible rfl)) ?_; (try simp only [Act.put, pk0, pk1, pk2]))
  refine zt0 ?_
  refine wpAnyH_ready (rs := [5, 9]) (by kernel_rfl) (by simp) ?_
  refine AllReadyH.cons (o := ?_) ?hov97_ ?hstv97_ ?mov97_
  case hov97_ => (simp only [lk0, lk1, lk2]; rfl)
  case hstv97_ =>
    intro K hK
    go_simp
    go_at_call 61; refine (less_ok n ga oa cga ka Va G _ (rep_keep TR6.out.2.2 _ _ _ HPa.out) FV HVV.out HLS.out).mono ?_; rintro e w98 ⟨rfl, hbw98⟩
    have TR7 := Lib.hid (And.intro (row_step TR6.out.1 hbw98) (And.intro (row_step TR6.out.2.1 hbw98) (bel_step TR6.out.2.2 hbw98)))
    clear TR6
    clear hbw98
    go_wp2_with fail
    refine hK.out _ _ ?hsv97_ (fun hH => ?_)
    case hsv97_ => exact ⟨rc TR7.out.1 0, rc TR7.out.1 1, rc TR7.out.1 2, rc TR7.out.1 3, rc TR7.out.1 4, ck TR7.out.2.2 HCa0.out, ck TR7.out.2.2 HCa1.out, ck TR7.out.2.2 HCa2.out, ck TR7.out.2.2 HCa3.out, ck TR7.out.2.2 HCa4.out⟩
    clear hK K
    (try simp only [Act.put, pk0, pk1, pk2])
    refine zt [6, 7, 8] ?_
    iterate 3 (refine zt1 (fun _ _ d _ _ h => by cases d <;> exact h) (by simp only [lk0, lk1, lk2]; rfl) (by kernel_rfl) (by assumption) (by rfl) (fun w h => by (try dsimp only at h); go_simp; (try with_reducible rfl)) ?_; (try simp only [Act.put, pk0, pk1, pk2]))
    refine zt0 ?_
    refine zr1 9 (by kernel_rfl) (by simp only [lk0, lk1, lk2]; rfl) (fun K hK => ?_)
    go_simp
    have hlt103 : w.heap.size < w98.heap.size := row_lt TR7.out.1
    have hlt104 : w.heap.size + 1 < w98.heap.size := row_lt TR7.out.2.1
    have hlt105 : w.heap.size ≤ w98.heap.size := TR7.out.2.2.size
    have TR8 := Lib.hid (show (fun z0 : World => ZF z0 w.heap.size G ∧ Zz z0 (w.heap.size + 1) ∧ Zz z0 w98.heap.size ∧ Below w.heap.size w z0) (w98.alloc (.cells #[.int .i64 0, .int .i64 0, .float .f64 0, .string ⟨#[]⟩, .slice none 0 0] 27)) from ⟨row_alloc_step TR7.out.1 _, row_alloc_step TR7.out.2.1 _, (ra (by simp only [World.size_alloc, World.size_drew])), bel_step TR7.out.2.2 (bel_alloc br _)⟩)
    go_wp2_with fail
    refine hK.out _ _ ?hsv102_ (fun hH => ?_)
    case hsv102_ => exact ⟨rc TR8.out.1 0, rc TR8.out.1 1, rc TR8.out.1 2, rc TR8.out.1 3, rc TR8.out.1 4, ck TR8.out.2.2.2 HCa0.out, ck TR8.out.2.2.2 HCa1.out, ck TR8.out.2.2.2 HCa2.out, ck TR8.out.2.2.2 HCa3.out, ck TR8.out.2.2.2 HCa4.out⟩
    clear hK K
    (try simp only [Act.put, pk0, pk1, pk2])
    refine zr1 10 (by kernel_rfl) (by simp only [lk0, lk1, lk2]; rfl) (fun K hK => ?_)
    obtain ⟨b30, b31, b32, b33, b34, b3f, b3l⟩ := r7 TR8.out.2.2.1; go_simp
    have TR9 := Lib.hid (show (fun z0 : World => ZF z0 w.heap.size G ∧ Zz z0 (w.heap.size + 1) ∧ ZF z0 w98.heap.size (Flo.cop .sub FV G) ∧ Below w.heap.size w z0) (w98.alloc (.cells #[.int .i64 2, .int .i64 0, .float .f64 (Flo.cop .sub FV G), .string ⟨#[]⟩, .slice none 0 0] 27)) from ⟨row_alloc_step TR7.out.1 _, row_alloc_step TR7.out.2.1 _, (ra (by simp only [World.size_alloc, World.size_drew])), bel_step TR7.out.2.2 (bel_alloc br _)⟩)
    clear b30 b31 b32 b33 b34 b3f b3l
    go_wp2_with fail
    refine hK.out _ _ ?hsv106_ (fun hH => ?_)
    case hsv106_ => exact ⟨rc TR9.out.1 0, rc TR9.out.1 1, rc TR9.out.1 2, rc TR9.out.1 3, rc TR9.out.1 4, ck TR9.out.2.2.2 HCa0.out, ck TR9.out.2.2.2 HCa1.out, ck TR9.out.2.2.2 HCa2.out, ck TR9.out.2.2.2 HCa3.out, ck TR9.out.2.2.2 HCa4.out⟩
    clear hK K
    (try simp only [Act.put, pk0, pk1, pk2])
    refine zt [11] ?_
    refine zt1 (fun _ _ d _ _ h => by cases d <;> exact h) (by simp only [lk0, lk1, lk2]; rfl) (by kernel_rfl) (by assumption) (by rfl) (fun w h => by (try dsimp only at h); go_simp; (try with_reducible rfl)) ?_; (try simp only [Act.put, pk0, pk1, pk2])
    refine zt0 ?_
    refine wpAnyH_done (by kernel_rfl) ?_ _
    revert TR9
    generalize (w98.alloc (.cells #[.int .i64 2, .int .i64 0, .float .f64 (Flo.cop .sub FV G), .string ⟨#[]⟩, .slice none 0 0] 27)) = Wl108
    intro TR9
    go_upto_region 13 with fail
    have TR10 := Lib.hid (And.intro (row_step TR9.out.1 (Below.drew br)) (And.intro (row_step TR9.out.2.1 (Below.drew br)) (And.intro (row_step TR9.out.2.2.1 (Below.drew br)) (bel_step TR9.out.2.2.2 (Below.drew br)))))
    clear TR9
    refine wp_region_held_drew (S := (fun z => z.cell? ⟨w.heap.size, 0, none⟩ = some (.int .i64 2) ∧ z.cell? ⟨w.heap.size, 1, none⟩ = some (.int .i64 0) ∧ z.cell? ⟨w.heap.size, 2, none⟩ = some (.float .f64 G) ∧ z.cell? ⟨w.heap.size, 3, none⟩ = some (.string ⟨#[]⟩) ∧ z.cell? ⟨w.heap.size, 4, none⟩ = some (.slice none 0 0) ∧ z.cell? ⟨b, off + d * 5, none⟩ = some (.int .i64 4) ∧ z.cell? ⟨b, off + d * 5 + 1, none⟩ = some (.int .i64 0) ∧ z.cell? ⟨b, off + d * 5 + 2, none⟩ = some (.float .f64 0) ∧ z.cell? ⟨b, off + d * 5 + 3, none⟩ = some (.string ⟨#[]⟩) ∧ z.cell? ⟨b, off + d * 5 + 4, none⟩ = some (.slice (some ⟨gd, od, none⟩) 2 cgd))) (by kernel_rfl) ?_ (fun hH => ?_)
    · exact ⟨rc TR10.out.1 0, rc TR10.out.1 1, rc TR10.out.1 2, rc TR10.out.1 3, rc TR10.out.1 4, ck TR10.out.2.2.2 HCd0.out, ck TR10.out.2.2.2 HCd1.out, ck TR10.out.2.2.2 HCd2.out, ck TR10.out.2.2.2 HCd3.out, ck TR10.out.2.2.2 HCd4.out⟩
    refine zt [0, 1, 2, 3, 4] ?_
    iterate 5 (refine zt1 (fun _ _ d _ _ h => by cases d <;> exact h) (by simp only [lk0, lk1, lk2]; rfl) (by kernel_rfl) (by assumption) (by rfl) (fun w h => by (try dsimp only at h); go_simp; (try with_reducible rfl)) ?_; (try simp only [Act.put, pk0, pk1, pk2]))
    refine zt0 ?_
    refine wpAnyH_ready (rs := [5, 9]) (by kernel_rfl) (by simp) ?_
    refine AllReadyH.cons (o := ?_) ?hov114_ ?hstv114_ ?mov114_
    case hov114_ => (simp only [lk0, lk1, lk2]; rfl)
    case hstv114_ =>
      intro K hK
      go_simp
      go_at_call 59; refine (more_no n gd od cgd kd Vd G _ (rep_keep TR10.out.2.2.2 _ _ _ HPd.out) FB HVD.out HSU.out).mono ?_; rintro e w115 ⟨rfl, hbw115⟩
      have TR11 := Lib.hid (And.intro (row_step TR10.out.1 hbw115) (And.intro (row_step TR10.out.2.1 hbw115) (And.intro (row_step TR10.out.2.2.1 hbw115) (bel_step TR10.out.2.2.2 hbw115))))
      clear TR10
      clear hbw115
      go_wp2_with fail
      refine hK.out _ _ ?hsv114_ (fun hH => ?_)
      case hsv114_ => exact ⟨rc TR11.out.1 0, rc TR11.out.1 1, rc TR11.out.1 2, rc TR11.out.1 3, rc TR11.out.1 4, ck TR11.out.2.2.2 HCd0.out, ck TR11.out.2.2.2 HCd1.out, ck TR11.out.2.2.2 HCd2.out, ck TR11.out.2.2.2 HCd3.out, ck TR11.out.2.2.2 HCd4.out⟩
      clear hK K
      (try simp only [Act.put, pk0, pk1, pk2])
      refine zt [6, 7, 8] ?_
      iterate 3 (refine zt1 (fun _ _ d _ _ h => by cases d <;> exact h) (by simp only [lk0, lk1, lk2]; rfl) (by kernel_rfl) (by assumption) (by rfl) (fun w h => by (try dsimp only at h); go_simp; (try with_reducible rfl)) ?_; (try simp only [Act.put, pk0, pk1, pk2]))
      refine zt0 ?_
      refine zr1 9 (by kernel_rfl) (by simp only [lk0, lk1, lk2]; rfl) (fun K hK => ?_)
      go_simp
      have hlt120 : w.heap.size < w115.heap.size := row_lt TR11.out.1
      have hlt121 : w.heap.size + 1 < w115.heap.size := row_lt TR11.out.2.1
      have hlt122 : w98.heap.size < w115.heap.size := row_lt TR11.out.2.2.1
      have hlt123 : w.heap.size ≤ w115.heap.size := TR11.out.2.2.2.size
      have TR12 := Lib.hid (show (fun z0 : World => ZF z0 w.heap.size G ∧ Zz z0 (w.heap.size + 1) ∧ ZF z0 w98.heap.size (Flo.cop .sub FV G) ∧ Zz z0 w115.heap.size ∧ Below w.heap.size w z0) (w115.alloc (.cells #[.int .i64 0, .int .i64 0, .float .f64 0, .string ⟨#[]⟩, .slice none 0 0] 27)) from ⟨row_alloc_step TR11.out.1 _, row_alloc_step TR11.out.2.1 _, row_alloc_step TR11.out.2.2.1 _, (ra (by simp only [World.size_alloc, World.size_drew])), bel_step TR11.out.2.2.2 (bel_alloc br _)⟩)
      go_wp2_with fail
      refine hK.out _ _ ?hsv119_ (fun hH => ?_)
      case hsv119_ => exact ⟨rc TR12.out.1 0, rc TR12.out.1 1, rc TR12.out.1 2, rc TR12.out.1 3, rc TR12.out.1 4, ck TR12.out.2.2.2.2 HCd0.out, ck TR12.out.2.2.2.2 HCd1.out, ck TR12.out.2.2.2.2 HCd2.out, ck TR12.out.2.2.2.2 HCd3.out, ck TR12.out.2.2.2.2 HCd4.out⟩
      clear hK K
      (try simp only [Act.put, pk0, pk1, pk2])
      refine zr1 10 (by kernel_rfl) (by simp only [lk0, lk1, lk2]; rfl) (fun K hK => ?_)
      obtain ⟨b30, b31, b32, b33, b34, b3f, b3l⟩ := r7 TR12.out.2.2.2.1; go_simp
      have TR13 := Lib.hid (show (fun z0 : World => ZF z0 w.heap.size G ∧ Zz z0 (w.heap.size + 1) ∧ ZF z0 w98.heap.size (Flo.cop .sub FV G) ∧ Zz z0 w115.heap.size ∧ Below w.heap.size w z0) (w115.alloc (.cells #[.int .i64 0, .int .i64 0, .float .f64 0, .string ⟨#[]⟩, .slice none 0 0] 27)) from ⟨row_alloc_step TR11.out.1 _, row_alloc_step TR11.out.2.1 _, row_alloc_step TR11.out.2.2.1 _, (ra (by simp only [World.size_alloc, World.size_drew])), bel_step TR11.out.2.2.2 (bel_alloc br _)⟩)
      clear b30 b31 b32 b33 b34 b3f b3l
      go_wp2_with fail
      refine hK.out _ _ ?hsv124_ (fun hH => ?_)
      case hsv124_ => exact ⟨rc TR13.out.1 0, rc TR13.out.1 1, rc TR13.out.1 2, rc TR13.out.1 3, rc TR13.out.1 4, ck TR13.out.2.2.2.2 HCd0.out, ck TR13.out.2.2.2.2 HCd1.out, ck TR13.out.2.2.2.2 HCd2.out, ck TR13.out.2.2.2.2 HCd3.out, ck TR13.out.2.2.2.2 HCd4.out⟩
      clear hK K
      (try simp only [Act.put, pk0, pk1, pk2])
      refine zt [11] ?_
      refine zt1 (fun _ _ d _ _ h => by cases d <;> exact h) (by simp only [lk0, lk1, lk2]; rfl) (by kernel_rfl) (by assumption) (by rfl) (fun w h => by (try dsimp only at h); go_simp; (try with_reducible rfl)) ?_; (try simp only [Act.put, pk0, pk1, pk2])
      refine zt0 ?_
      refine wpAnyH_done (by kernel_rfl) ?_ _
      revert TR13
      generalize (w115.alloc (.cells #[.int .i64 0, .int .i64 0, .float .f64 0, .string ⟨#[]⟩, .slice none 0 0] 27)) = Wm126
      intro TR13
      obtain ⟨c1_0, c1_1, c1_2, c1_3, c1_4, c1f, c1l⟩ := r7 TR13.out.2.1
      go_wp2
      refine bodyPost_ret (v := .tuple #[.slice none 0 0, .agg #[.int .i64 0, .int .i64 0, .float .f64 0, .string ⟨#[]⟩, .slice none 0 0], .int .i64 35]) (by simp [results, Try.results34, go_sem, World.cell?_setCell_same, World.cell?_setCell_other, c1_0, c1_1, c1_2, c1_3, c1_4]) rfl ⟨rfl, ?_⟩
      exact set5_below (g := w.heap.size + 1) (o := 0) (TR13.out.2.2.2.2) (by omega) _ _ _ _ _
    case mov114_ =>
      refine AllReadyH.cons (o := ?_) ?hov127_ ?hstv127_ AllReadyH.nil
      case hov127_ => (simp only [lk0, lk1, lk2]; rfl)
      intro K hK
      go_simp
      have hlt128 : w.heap.size < Wl108.heap.size := row_lt TR10.out.1
      have hlt129 : w.heap.size + 1 < Wl108.heap.size := row_lt TR10.out.2.1
      have hlt130 : w98.heap.size < Wl108.heap.size := row_lt TR10.out.2.2.1
      have hlt131 : w.heap.size ≤ Wl108.heap.size := TR10.out.2.2.2.size
      have TR11 := Lib.hid (show (fun z0 : World => ZF z0 w.heap.size G ∧ Zz z0 (w.heap.size + 1) ∧ ZF z0 w98.heap.size (Flo.cop .sub FV G) ∧ Zz z0 Wl108.heap.size ∧ Below w.heap.size w z0) (Wl108.drew.alloc (.cells #[.int .i64 0, .int .i64 0, .float .f64 0, .string ⟨#[]⟩, .slice none 0 0] 27)) from ⟨row_alloc_step TR10.out.1 _, row_alloc_step TR10.out.2.1 _, row_alloc_step TR10.out.2.2.1 _, (ra (by simp only [World.size_alloc, World.size_drew])), bel_step TR10.out.2.2.2 (bel_alloc br _)⟩)
      go_wp2_with fail
      refine hK.out _ _ ?hsv127_ (fun hH => ?_)
      case hsv127_ => exact ⟨rc TR11.out.1 0, rc TR11.out.1 1, rc TR11.out.1 2, rc TR11.out.1 3, rc TR11.out.1 4, ck TR11.out.2.2.2.2 HCd0.out, ck TR11.out.2.2.2.2 HCd1.out, ck TR11.out.2.2.2.2 HCd2.out, ck TR11.out.2.2.2.2 HCd3.out, ck TR11.out.2.2.2.2 HCd4.out⟩
      clear hK K
      (try simp only [Act.put, pk0, pk1, pk2])
      refine zr1 5 (by kernel_rfl) (by simp only [lk0, lk1, lk2]; rfl) (fun K hK => ?_)
      go_simp
      go_at_call 59; refine (more_no n gd od cgd kd Vd G _ (rep_keep TR11.out.2.2.2.2 _ _ _ HPd.out) FB HVD.out HSU.out).mono ?_; rintro e w133 ⟨rfl, hbw133⟩
      have TR12 := Lib.hid (And.intro (row_step TR11.out.1 hbw133) (And.intro (row_step TR11.out.2.1 hbw133) (And.intro (row_step TR11.out.2.2.1 hbw133) (And.intro (row_step TR11.out.2.2.2.1 hbw133) (bel_step TR11.out.2.2.2.2 hbw133)))))
      clear TR11
      clear hbw133
      go_wp2_with fail
      refine hK.out _ _ ?hsv132_ (fun hH => ?_)
      case hsv132_ => exact ⟨rc TR12.out.1 0, rc TR12.out.1 1, rc TR12.out.1 2, rc TR12.out.1 3, rc TR12.out.1 4, ck TR12.out.2.2.2.2 HCd0.out, ck TR12.out.2.2.2.2 HCd1.out, ck TR12.out.2.2.2.2 HCd2.out, ck TR12.out.2.2.2.2 HCd3.out, ck TR12.out.2.2.2.2 HCd4.out⟩
      clear hK K
      (try simp only [Act.put, pk0, pk1, pk2])
      refine zt [6, 7, 8] ?_
      iterate 3 (refine zt1 (fun _ _ d _ _ h => by cases d <;> exact h) (by simp only [lk0, lk1, lk2]; rfl) (by kernel_rfl) (by assumption) (by rfl) (fun w h => by (try dsimp only at h); go_simp; (try with_reducible rfl)) ?_; (try simp only [Act.put, pk0, pk1, pk2]))
      refine zt0 ?_
      refine zr1 10 (by kernel_rfl) (by simp only [lk0, lk1, lk2]; rfl) (fun K hK => ?_)
      obtain ⟨b30, b31, b32, b33, b34, b3f, b3l⟩ := r7 TR12.out.2.2.2.1; go_simp
      have TR13 := Lib.hid (show (fun z0 : World => ZF z0 w.heap.size G ∧ Zz z0 (w.heap.size + 1) ∧ ZF z0 w98.heap.size (Flo.cop .sub FV G) ∧ Zz z0 Wl108.heap.size ∧ Below w.heap.size w z0) (((((w133.setCell ⟨Wl108.heap.size, 0, none⟩ (.int .i64 0)).setCell ⟨Wl108.heap.size, 1, none⟩ (.int .i64 0)).setCell ⟨Wl108.heap.size, 2, none⟩ (.float .f64 0)).setCell ⟨Wl108.heap.size, 3, none⟩ (.string ⟨#[]⟩)).setCell ⟨Wl108.heap.size, 4, none⟩ (.slice none 0 0)) from ⟨s5o TR12.out.1 (by omega), s5o TR12.out.2.1 (by omega), s5o TR12.out.2.2.1 (by omega), s5r TR12.out.2.2.2.1, s5b TR12.out.2.2.2.2 (by omega)⟩)
      clear TR12
      clear b30 b31 b32 b33 b34 b3f b3l
      go_wp2_with fail
      refine hK.out _ _ ?hsv137_ (fun hH => ?_)
      case hsv137_ => exact ⟨rc TR13.out.1 0, rc TR13.out.1 1, rc TR13.out.1 2, rc TR13.out.1 3, rc TR13.out.1 4, ck TR13.out.2.2.2.2 HCd0.out, ck TR13.out.2.2.2.2 HCd1.out, ck TR13.out.2.2.2.2 HCd2.out, ck TR13.out.2.2.2.2 HCd3.out, ck TR13.out.2.2.2.2 HCd4.out⟩
      clear hK K
      (try simp only [Act.put, pk0, pk1, pk2])
      refine zt [11] ?_
      refine zt1 (fun _ _ d _ _ h => by cases d <;> exact h) (by simp only [lk0, lk1, lk2]; rfl) (by kernel_rfl) (by assumption) (by rfl) (fun w h => by (try dsimp only at h); go_simp; (try with_reducible rfl)) ?_; (try simp only [Act.put, pk0, pk1, pk2])
      refine zt0 ?_
      refine wpAnyH_done (by kernel_rfl) ?_ _
      revert TR13
      generalize (((((w133.setCell ⟨Wl108.heap.size, 0, none⟩ (.int .i64 0)).setCell ⟨Wl108.heap.size, 1, none⟩ (.int .i64 0)).setCell ⟨Wl108.heap.size, 2, none⟩ (.float .f64 0)).setCell ⟨Wl108.heap.size, 3, none⟩ (.string ⟨#[]⟩)).setCell ⟨Wl108.heap.size, 4, none⟩ (.slice none 0 0)) = Wm139
      intro TR13
      obtain ⟨c1_0, c1_1, c1_2, c1_3, c1_4, c1f, c1l⟩ := r7 TR13.out.2.1
      go_wp2
      refine bodyPost_ret (v := .tuple #[.slice none 0 0, .agg #[.int .i64 0, .int .i64 0, .float .f64 0, .string ⟨#[]⟩, .slice none 0 0], .int .i64 35]) (by simp [results, Try.results34, go_sem, World.cell?_setCell_same, World.cell?_setCell_other, c1_0, c1_1, c1_2, c1_3, c1_4]) rfl ⟨rfl, ?_⟩
      exact set5_below (g := w.heap.size + 1) (o := 0) (TR13.out.2.2.2.2) (by omega) _ _ _ _ _
  case mov97_ =>
    refine AllReadyH.cons (o := ?_) ?hov140_ ?hstv140_ AllReadyH.nil
    case hov140_ => (simp only [lk0, lk1, lk2]; rfl)
    intro K hK
    go_simp
    have hlt141 : w.heap.size < w91.heap.size := row_lt TR6.out.1
    have hlt142 : w.heap.size + 1 < w91.heap.size := row_lt TR6.out.2.1
    have hlt143 : w.heap.size ≤ w91.heap.size := TR6.out.2.2.size
    have TR7 := Lib.hid (show (fun z0 : World => ZF z0 w.heap.size G ∧ Zz z0 (w.heap.size + 1) ∧ Zz z0 w91.heap.size ∧ Below w.heap.size w z0) (w91.drew.alloc (.cells #[.int .i64 0, .int .i64 0, .float .f64 0, .string ⟨#[]⟩, .slice none 0 0] 27)) from ⟨row_alloc_step TR6.out.1 _, row_alloc_step TR6.out.2.1 _, (ra (by simp only [World.size_alloc, World.size_drew])), bel_step TR6.out.2.2 (bel_alloc br _)⟩)
    go_wp2_with fail
    refine hK.out _ _ ?hsv140_ (fun hH => ?_)
    case hsv140_ => exact ⟨rc TR7.out.1 0, rc TR7.out.1 1, rc TR7.out.1 2, rc TR7.out.1 3, rc TR7.out.1 4, ck TR7.out.2.2.2 HCa0.out, ck TR7.out.2.2.2 HCa1.out, ck TR7.out.2.2.2 HCa2.out, ck TR7.out.2.2.2 HCa3.out, ck TR7.out.2.2.2 HCa4.out⟩
    clear hK K
    (try simp only [Act.put, pk0, pk1, pk2])
    refine zr1 5 (by kernel_rfl) (by simp only [lk0, lk1, lk2]; rfl) (fun K hK => ?_)
    go_simp
    go_at_call 61; refine (less_ok n ga oa cga ka Va G _ (rep_keep TR7.out.2.2.2 _ _ _ HPa.out) FV HVV.out HLS.out).mono ?_; rintro e w145 ⟨rfl, hbw145⟩
    have TR8 := Lib.hid (And.intro (row_step TR7.out.1 hbw145) (And.intro (row_step TR7.out.2.1 hbw145) (And.intro (row_step TR7.out.2.2.1 hbw145) (bel_step TR7.out.2.2.2 hbw145))))
    clear TR7
    clear hbw145
    go_wp2_with fail
    refine hK.out _ _ ?hsv144_ (fun hH => ?_)
    case hsv144_ => exact ⟨rc TR8.out.1 0, rc TR8.out.1 1, rc TR8.out.1 2, rc TR8.out.1 3, rc TR8.out.1 4, ck TR8.out.2.2.2 HCa0.out, ck TR8.out.2.2.2 HCa1.out, ck TR8.out.2.2.2 HCa2.out, ck TR8.out.2.2.2 HCa3.out, ck TR8.out.2.2.2 HCa4.out⟩
    clear hK K
    (try simp only [Act.put, pk0, pk1, pk2])
    refine zt [6, 7, 8] ?_
    iterate 3 (refine zt1 (fun _ _ d _ _ h => by cases d <;> exact h) (by simp only [lk0, lk1, lk2]; rfl) (by kernel_rfl) (by assumption) (by rfl) (fun w h => by (try dsimp only at h); go_simp; (try with_reducible rfl)) ?_; (try simp only [Act.put, pk0, pk1, pk2]))
    refine zt0 ?_
    refine zr1 10 (by kernel_rfl) (by simp only [lk0, lk1, lk2]; rfl) (fun K hK => ?_)
    obtain ⟨b30, b31, b32, b33, b34, b3f, b3l⟩ := r7 TR8.out.2.2.1; go_simp
    have TR9 := Lib.hid (show (fun z0 : World => ZF z0 w.heap.size G ∧ Zz z0 (w.heap.size + 1) ∧ ZF z0 w91.heap.size (Flo.cop .sub FV G) ∧ Below w.heap.size w z0) (((((w145.setCell ⟨w91.heap.size, 0, none⟩ (.int .i64 2)).setCell ⟨w91.heap.size, 1, none⟩ (.int .i64 0)).setCell ⟨w91.heap.size, 2, none⟩ (.float .f64 (Flo.cop .sub FV G))).setCell ⟨w91.heap.size, 3, none⟩ (.string ⟨#[]⟩)).setCell ⟨w91.heap.size, 4, none⟩ (.slice none 0 0)) from ⟨s5o TR8.out.1 (by omega), s5o TR8.out.2.1 (by omega), s5r TR8.out.2.2.1, s5b TR8.out.2.2.2 (by omega)⟩)
    clear TR8
    clear b30 b31 b32 b33 b34 b3f b3l
    go_wp2_with fail
    refine hK.out _ _ ?hsv149_ (fun hH => ?_)
    case hsv149_ => exact ⟨rc TR9.out.1 0, rc TR9.out.1 1, rc TR9.out.1 2, rc TR9.out.1 3, rc TR9.out.1 4, ck TR9.out.2.2.2 HCa0.out, ck TR9.out.2.2.2 HCa1.out, ck TR9.out.2.2.2 HCa2.out, ck TR9.out.2.2.2 HCa3.out, ck TR9.out.2.2.2 HCa4.out⟩
    clear hK K
    (try simp only [Act.put, pk0, pk1, pk2])
    refine zt [11] ?_
    refine zt1 (fun _ _ d _ _ h => by cases d <;> exact h) (by simp only [lk0, lk1, lk2]; rfl) (by kernel_rfl) (by assumption) (by rfl) (fun w h => by (try dsimp only at h); go_simp; (try with_reducible rfl)) ?_; (try simp only [Act.put, pk0, pk1, pk2])
    refine zt0 ?_
    refine wpAnyH_done (by kernel_rfl) ?_ _
    revert TR9
    generalize (((((w145.setCell ⟨w91.heap.size, 0, none⟩ (.int .i64 2)).setCell ⟨w91.heap.size, 1, none⟩ (.int .i64 0)).setCell ⟨w91.heap.size, 2, none⟩ (.float .f64 (Flo.cop .sub FV G))).setCell ⟨w91.heap.size, 3, none⟩ (.string ⟨#[]⟩)).setCell ⟨w91.heap.size, 4, none⟩ (.slice none 0 0)) = Wl151
    intro TR9
    go_upto_region 13 with fail
    have TR10 := Lib.hid (And.intro (row_step TR9.out.1 (Below.drew br)) (And.intro (row_step TR9.out.2.1 (Below.drew br)) (And.intro (row_step TR9.out.2.2.1 (Below.drew br)) (bel_step TR9.out.2.2.2 (Below.drew br)))))
    clear TR9
    refine wp_region_held_drew (S := (fun z => z.cell? ⟨w.heap.size, 0, none⟩ = some (.int .i64 2) ∧ z.cell? ⟨w.heap.size, 1, none⟩ = some (.int .i64 0) ∧ z.cell? ⟨w.heap.size, 2, none⟩ = some (.float .f64 G) ∧ z.cell? ⟨w.heap.size, 3, none⟩ = some (.string ⟨#[]⟩) ∧ z.cell? ⟨w.heap.size, 4, none⟩ = some (.slice none 0 0) ∧ z.cell? ⟨b, off + d * 5, none⟩ = some (.int .i64 4) ∧ z.cell? ⟨b, off + d * 5 + 1, none⟩ = some (.int .i64 0) ∧ z.cell? ⟨b, off + d * 5 + 2, none⟩ = some (.float .f64 0) ∧ z.cell? ⟨b, off + d * 5 + 3, none⟩ = some (.string ⟨#[]⟩) ∧ z.cell? ⟨b, off + d * 5 + 4, none⟩ = some (.slice (some ⟨gd, od, none⟩) 2 cgd))) (by kernel_rfl) ?_ (fun hH => ?_)
    · exact ⟨rc TR10.out.1 0, rc TR10.out.1 1, rc TR10.out.1 2, rc TR10.out.1 3, rc TR10.out.1 4, ck TR10.out.2.2.2 HCd0.out, ck TR10.out.2.2.2 HCd1.out, ck TR10.out.2.2.2 HCd2.out, ck TR10.out.2.2.2 HCd3.out, ck TR10.out.2.2.2 HCd4.out⟩
    refine zt [0, 1, 2, 3, 4] ?_
    iterate 5 (refine zt1 (fun _ _ d _ _ h => by cases d <;> exact h) (by simp only [lk0, lk1, lk2]; rfl) (by kernel_rfl) (by assumption) (by rfl) (fun w h => by (try dsimp only at h); go_simp; (try with_reducible rfl)) ?_; (try simp only [Act.put, pk0, pk1, pk2]))
    refine zt0 ?_
    refine wpAnyH_ready (rs := [5, 9]) (by kernel_rfl) (by simp) ?_
    refine AllReadyH.cons (o := ?_) ?hov157_ ?hstv157_ ?mov157_
    case hov157_ => (simp only [lk0, lk1, lk2]; rfl)
    case hstv157_ =>
      intro K hK
      go_simp
      go_at_call 59; refine (more_no n gd od cgd kd Vd G _ (rep_keep TR10.out.2.2.2 _ _ _ HPd.out) FB HVD.out HSU.out).mono ?_; rintro e w158 ⟨rfl, hbw158⟩
      have TR11 := Lib.hid (And.intro (row_step TR10.out.1 hbw158) (And.intro (row_step TR10.out.2.1 hbw158) (And.intro (row_step TR10.out.2.2.1 hbw158) (bel_step TR10.out.2.2.2 hbw158))))
      clear TR10
      clear hbw158
      go_wp2_with fail
      refine hK.out _ _ ?hsv157_ (fun hH => ?_)
      case hsv157_ => exact ⟨rc TR11.out.1 0, rc TR11.out.1 1, rc TR11.out.1 2, rc TR11.out.1 3, rc TR11.out.1 4, ck TR11.out.2.2.2 HCd0.out, ck TR11.out.2.2.2 HCd1.out, ck TR11.out.2.2.2 HCd2.out, ck TR11.out.2.2.2 HCd3.out, ck TR11.out.2.2.2 HCd4.out⟩
      clear hK K
      (try simp only [Act.put, pk0, pk1, pk2])
      refine zt [6, 7, 8] ?_
      iterate 3 (refine zt1 (fun _ _ d _ _ h => by cases d <;> exact h) (by simp only [lk0, lk1, lk2]; rfl) (by kernel_rfl) (by assumption) (by rfl) (fun w h => by (try dsimp only at h); go_simp; (try with_reducible rfl)) ?_; (try simp only [Act.put, pk0, pk1, pk2]))
      refine zt0 ?_
      refine zr1 9 (by kernel_rfl) (by simp only [lk0, lk1, lk2]; rfl) (fun K hK => ?_)
      go_simp
      have hlt163 : w.heap.size < w158.heap.size := row_lt TR11.out.1
      have hlt164 : w.heap.size + 1 < w158.heap.size := row_lt TR11.out.2.1
      have hlt165 : w91.heap.size < w158.heap.size := row_lt TR11.out.2.2.1
      have hlt166 : w.heap.size ≤ w158.heap.size := TR11.out.2.2.2.size
      have TR12 := Lib.hid (show (fun z0 : World => ZF z0 w.heap.size G ∧ Zz z0 (w.heap.size + 1) ∧ ZF z0 w91.heap.size (Flo.cop .sub FV G) ∧ Zz z0 w158.heap.size ∧ Below w.heap.size w z0) (w158.alloc (.cells #[.int .i64 0, .int .i64 0, .float .f64 0, .string ⟨#[]⟩, .slice none 0 0] 27)) from ⟨row_alloc_step TR11.out.1 _, row_alloc_step TR11.out.2.1 _, row_alloc_step TR11.out.2.2.1 _, (ra (by simp only [World.size_alloc, World.size_drew])), bel_step TR11.out.2.2.2 (bel_alloc br _)⟩)
      go_wp2_with fail
      refine hK.out _ _ ?hsv162_ (fun hH => ?_)
      case hsv162_ => exact ⟨rc TR12.out.1 0, rc TR12.out.1 1, rc TR12.out.1 2, rc TR12.out.1 3, rc TR12.out.1 4, ck TR12.out.2.2.2.2 HCd0.out, ck TR12.out.2.2.2.2 HCd1.out, ck TR12.out.2.2.2.2 HCd2.out, ck TR12.out.2.2.2.2 HCd3.out, ck TR12.out.2.2.2.2 HCd4.out⟩
      clear hK K
      (try simp only [Act.put, pk0, pk1, pk2])
      refine zr1 10 (by kernel_rfl) (by simp only [lk0, lk1, lk2]; rfl) (fun K hK => ?_)
      obtain ⟨b30, b31, b32, b33, b34, b3f, b3l⟩ := r7 TR12.out.2.2.2.1; go_simp
      have TR13 := Lib.hid (show (fun z0 : World => ZF z0 w.heap.size G ∧ Zz z0 (w.heap.size + 1) ∧ ZF z0 w91.heap.size (Flo.cop .sub FV G) ∧ Zz z0 w158.heap.size ∧ Below w.heap.size w z0) (w158.alloc (.cells #[.int .i64 0, .int .i64 0, .float .f64 0, .string ⟨#[]⟩, .slice none 0 0] 27)) from ⟨row_alloc_step TR11.out.1 _, row_alloc_step TR11.out.2.1 _, row_alloc_step TR11.out.2.2.1 _, (ra (by simp only [World.size_alloc, World.size_drew])), bel_step TR11.out.2.2.2 (bel_alloc br _)⟩)
      clear b30 b31 b32 b33 b34 b3f b3l
      go_wp2_with fail
      refine hK.out _ _ ?hsv167_ (fun hH => ?_)
      case hsv167_ => exact ⟨rc TR13.out.1 0, rc TR13.out.1 1, rc TR13.out.1 2, rc TR13.out.1 3, rc TR13.out.1 4, ck TR13.out.2.2.2.2 HCd0.out, ck TR13.out.2.2.2.2 HCd1.out, ck TR13.out.2.2.2.2 HCd2.out, ck TR13.out.2.2.2.2 HCd3.out, ck TR13.out.2.2.2.2 HCd4.out⟩
      clear hK K
      (try simp only [Act.put, pk0, pk1, pk2])
      refine zt [11] ?_
      refine zt1 (fun _ _ d _ _ h => by cases d <;> exact h) (by simp only [lk0, lk1, lk2]; rfl) (by kernel_rfl) (by assumption) (by rfl) (fun w h => by (try dsimp only at h); go_simp; (try with_reducible rfl)) ?_; (try simp only [Act.put, pk0, pk1, pk2])
      refine zt0 ?_
      refine wpAnyH_done (by kernel_rfl) ?_ _
      revert TR13
      generalize (w158.alloc (.cells #[.int .i64 0, .int .i64 0, .float .f64 0, .string ⟨#[]⟩, .slice none 0 0] 27)) = Wm169
      intro TR13
      obtain ⟨c1_0, c1_1, c1_2, c1_3, c1_4, c1f, c1l⟩ := r7 TR13.out.2.1
      go_wp2
      refine bodyPost_ret (v := .tuple #[.slice none 0 0, .agg #[.int .i64 0, .int .i64 0, .float .f64 0, .string ⟨#[]⟩, .slice none 0 0], .int .i64 35]) (by simp [results, Try.results34, go_sem, World.cell?_setCell_same, World.cell?_setCell_other, c1_0, c1_1, c1_2, c1_3, c1_4]) rfl ⟨rfl, ?_⟩
      exact set5_below (g := w.heap.size + 1) (o := 0) (TR13.out.2.2.2.2) (by omega) _ _ _ _ _
    case mov157_ =>
      refine AllReadyH.cons (o := ?_) ?hov170_ ?hstv170_ AllReadyH.nil
      case hov170_ => (simp only [lk0, lk1, lk2]; rfl)
      intro K hK
      go_simp
      have hlt171 : w.heap.size < Wl151.heap.size := row_lt TR10.out.1
      have hlt172 : w.heap.size + 1 < Wl151.heap.size := row_lt TR10.out.2.1
      have hlt173 : w91.heap.size < Wl151.heap.size := row_lt TR10.out.2.2.1
      have hlt174 : w.heap.size ≤ Wl151.heap.size := TR10.out.2.2.2.size
      have TR11 := Lib.hid (show (fun z0 : World => ZF z0 w.heap.size G ∧ Zz z0 (w.heap.size + 1) ∧ ZF z0 w91.heap.size (Flo.cop .sub FV G) ∧ Zz z0 Wl151.heap.size ∧ Below w.heap.size w z0) (Wl151.drew.alloc (.cells #[.int .i64 0, .int .i64 0, .float .f64 0, .string ⟨#[]⟩, .slice none 0 0] 27)) from ⟨row_alloc_step TR10.out.1 _, row_alloc_step TR10.out.2.1 _, row_alloc_step TR10.out.2.2.1 _, (ra (by simp only [World.size_alloc, World.size_drew])), bel_step TR10.out.2.2.2 (bel_alloc br _)⟩)
      go_wp2_with fail
      refine hK.out _ _ ?hsv170_ (fun hH => ?_)
      case hsv170_ => exact ⟨rc TR11.out.1 0, rc TR11.out.1 1, rc TR11.out.1 2, rc TR11.out.1 3, rc TR11.out.1 4, ck TR11.out.2.2.2.2 HCd0.out, ck TR11.out.2.2.2.2 HCd1.out, ck TR11.out.2.2.2.2 HCd2.out, ck TR11.out.2.2.2.2 HCd3.out, ck TR11.out.2.2.2.2 HCd4.out⟩
      clear hK K
      (try simp only [Act.put, pk0, pk1, pk2])
      refine zr1 5 (by kernel_rfl) (by simp only [lk0, lk1, lk2]; rfl) (fun K hK => ?_)
      go_simp
      go_at_call 59; refine (more_no n gd od cgd kd Vd G _ (rep_keep TR11.out.2.2.2.2 _ _ _ HPd.out) FB HVD.out HSU.out).mono ?_; rintro e w176 ⟨rfl, hbw176⟩
      have TR12 := Lib.hid (And.intro (row_step TR11.out.1 hbw176) (And.intro (row_step TR11.out.2.1 hbw176) (And.intro (row_step TR11.out.2.2.1 hbw176) (And.intro (row_step TR11.out.2.2.2.1 hbw176) (bel_step TR11.out.2.2.2.2 hbw176)))))
      clear TR11
      clear hbw176
      go_wp2_with fail
      refine hK.out _ _ ?hsv175_ (fun hH => ?_)
      case hsv175_ => exact ⟨rc TR12.out.1 0, rc TR12.out.1 1, rc TR12.out.1 2, rc TR12.out.1 3, rc TR12.out.1 4, ck TR12.out.2.2.2.2 HCd0.out, ck TR12.out.2.2.2.2 HCd1.out, ck TR12.out.2.2.2.2 HCd2.out, ck TR12.out.2.2.2.2 HCd3.out, ck TR12.out.2.2.2.2 HCd4.out⟩
      clear hK K
      (try simp only [Act.put, pk0, pk1, pk2])
      refine zt [6, 7, 8] ?_
      iterate 3 (refine zt1 (fun _ _ d _ _ h => by cases d <;> exact h) (by simp only [lk0, lk1, lk2]; rfl) (by kernel_rfl) (by assumption) (by rfl) (fun w h => by (try dsimp only at h); go_simp; (try with_reducible rfl)) ?_; (try simp only [Act.put, pk0, pk1, pk2]))
      refine zt0 ?_
      refine zr1 10 (by kernel_rfl) (by simp only [lk0, lk1, lk2]; rfl) (fun K hK => ?_)
      obtain ⟨b30, b31, b32, b33, b34, b3f, b3l⟩ := r7 TR12.out.2.2.2.1; go_simp
      have TR13 := Lib.hid (show (fun z0 : World => ZF z0 w.heap.size G ∧ Zz z0 (w.heap.size + 1) ∧ ZF z0 w91.heap.size (Flo.cop .sub FV G) ∧ Zz z0 Wl151.heap.size ∧ Below w.heap.size w z0) (((((w176.setCell ⟨Wl151.heap.size, 0, none⟩ (.int .i64 0)).setCell ⟨Wl151.heap.size, 1, none⟩ (.int .i64 0)).setCell ⟨Wl151.heap.size, 2, none⟩ (.float .f64 0)).setCell ⟨Wl151.heap.size, 3, none⟩ (.string ⟨#[]⟩)).setCell ⟨Wl151.heap.size, 4, none⟩ (.slice none 0 0)) from ⟨s5o TR12.out.1 (by omega), s5o TR12.out.2.1 (by omega), s5o TR12.out.2.2.1 (by omega), s5r TR12.out.2.2.2.1, s5b TR12.out.2.2.2.2 (by omega)⟩)
      clear TR12
      clear b30 b31 b32 b33 b34 b3f b3l
      go_wp2_with fail
      refine hK.out _ _ ?hsv180_ (fun hH => ?_)
      case hsv180_ => exact ⟨rc TR13.out.1 0, rc TR13.out.1 1, rc TR13.out.1 2, rc TR13.out.1 3, rc TR13.out.1 4, ck TR13.out.2.2.2.2 HCd0.out, ck TR13.out.2.2.2.2 HCd1.out, ck TR13.out.2.2.2.2 HCd2.out, ck TR13.out.2.2.2.2 HCd3.out, ck TR13.out.2.2.2.2 HCd4.out⟩
      clear hK K
      (try simp only [Act.put, pk0, pk1, pk2])
      refine zt [11] ?_
      refine zt1 (fun _ _ d _ _ h => by cases d <;> exact h) (by simp only [lk0, lk1, lk2]; rfl) (by kernel_rfl) (by assumption) (by rfl) (fun w h => by (try dsimp only at h); go_simp; (try with_reducible rfl)) ?_; (try simp only [Act.put, pk0, pk1, pk2])
      refine zt0 ?_
      refine wpAnyH_done (by kernel_rfl) ?_ _
      revert TR13
      generalize (((((w176.setCell ⟨Wl151.heap.size, 0, none⟩ (.int .i64 0)).setCell ⟨Wl151.heap.size, 1, none⟩ (.int .i64 0)).setCell ⟨Wl151.heap.size, 2, none⟩ (.float .f64 0)).setCell ⟨Wl151.heap.size, 3, none⟩ (.string ⟨#[]⟩)).setCell ⟨Wl151.heap.size, 4, none⟩ (.slice none 0 0)) = Wm182
      intro TR13
      obtain ⟨c1_0, c1_1, c1_2, c1_3, c1_4, c1f, c1l⟩ := r7 TR13.out.2.1
      go_wp2
      refine bodyPost_ret (v := .tuple #[.slice none 0 0, .agg #[.int .i64 0, .int .i64 0, .float .f64 0, .string ⟨#[]⟩, .slice none 0 0], .int .i64 35]) (by simp [results, Try.results34, go_sem, World.cell?_setCell_same, World.cell?_setCell_other, c1_0, c1_1, c1_2, c1_3, c1_4]) rfl ⟨rfl, ?_⟩
      exact set5_below (g := w.heap.size + 1) (o := 0) (TR13.out.2.2.2.2) (by omega) _ _ _ _ _
set_option maxRecDepth 100000 in
set_option maxHeartbeats 4000000 in
theorem transfer_ok (n : Nat) (b off l c a d : Nat) (ka kd : ByteArray) (K3 I3 : Int) (F3 : Nat) (S3 : ByteArray) (q3 : Option Addr) (m3 d3 : Nat) (G FV FB : Nat) (ES : List (ByteArray × VT (n + 1))) (Va Vd : VT (n + 1)) (w0 w : World) (HBW : Hid (Below w0.heap.size w0 w)) (HL : Hid (RepL w0 (Rep w0 (n + 2)) (some ⟨b, off, none⟩) l c (ES.map (pairE n)))) (hl : l ≤ 32) (HA : Hid (AmtOk K3 I3 F3 G)) (hal : a < ES.length) (hll : ES.length = l) (hka : ES[a]'hal = (ka, Va)) (hs : Spot (ES.map (·.1)) ka a true) (hv : Va.1 = 2 ∧ Va.2.2.1 = FV) (hls : (FloatKind.f64.format.order FV G == some .lt) = false) (hdl : d < ES.length) (hkd : ES[d]'hdl = (kd, Vd)) (hsd : Spot (ES.map (·.1)) kd d true) (hvd : Vd.1 = 2 ∧ Vd.2.2.1 = FB) (had : a ≠ d) (hsu : finV 2 (Flo.cop .add FB G) = true) (HKS : Hid (ka.size ≤ maxLen ∧ kd.size ≤ maxLen)) :
    Calls Try.prog 34 #[.slice (some ⟨b, off, none⟩) l c, .string ka, .string kd, .agg #[.int .i64 K3, .int .i64 I3, .float .f64 F3, .string S3, .slice q3 m3 d3]] w fun e w' => ∃ p' c', e = .returned (.tuple #[.slice p' l c', .agg #[.int .i64 2, .int .i64 0, .float .f64 (Flo.cop .sub FV G), .string ⟨#[]⟩, .slice none 0 0], .int .i64 0]) ∧ Below w.heap.size w w' ∧ NewL n w0 w w' p' l c' (((ES.set a (ka, floT n (Flo.cop .sub FV G))).set d (kd, floT n (Flo.cop .add FB G))).map (pairE n)) := by
  have TR1 := Lib.hid (show (fun z0 : World => Zw z0 w.heap.size (.int .i64 K3) (.int .i64 I3) (.float .f64 F3) (.string S3) (.slice q3 m3 d3) ∧ Zz z0 (w.heap.size + 1) ∧ Below w.heap.size w z0) ((w.alloc (.cells #[.int .i64 K3, .int .i64 I3, .float .f64 F3, .string S3, .slice q3 m3 d3] 27)).alloc (.cells #[.int .i64 0, .int .i64 0, .float .f64 0, .string ⟨#[]⟩, .slice none 0 0] 27)) from ⟨row_alloc_step (row_alloc w #[.int .i64 K3, .int .i64 I3, .float .f64 F3, .string S3, .slice q3 m3 d3] 27) _, (ra (by simp only [World.size_alloc, World.size_drew])), bel_alloc (bel_alloc (Below.refl w.heap.size w) _) _⟩)
  have TH := Lib.hid trivial
  have HE := Lib.hid (entsL_step (ents_of HL.out (by omega)) HBW.out)
  obtain ⟨ga, oa, cga, hc0, hc1, hc2, hc3, hc4, hp⟩ := acc_at (repL_acc HBW.out HL.out) (show a < ES.length from by omega)
  rw [hka] at hp
  have HCa0 := Lib.hid hc0
  have HCa1 := Lib.hid hc1
  have HCa2 := Lib.hid hc2
  have HCa3 := Lib.hid hc3
  have HCa4 := Lib.hid hc4
  have HPa := Lib.hid hp
  have hba := cell_lt hc0
  have ha1 : (0 : Int) ≤ (a : Int) := by omega
  have ha2 : (a : Int) < (l : Int) := by omega
  clear hc0 hc1 hc2 hc3 hc4 hp
  obtain ⟨gd, od, cgd, hc0, hc1, hc2, hc3, hc4, hp⟩ := acc_at (repL_acc HBW.out HL.out) (show d < ES.length from by omega)
  rw [hkd] at hp
  have HCd0 := Lib.hid hc0
  have HCd1 := Lib.hid hc1
  have HCd2 := Lib.hid hc2
  have HCd3 := Lib.hid hc3
  have HCd4 := Lib.hid hc4
  have HPd := Lib.hid hp
  have hbd := cell_lt hc0
  have hd1 : (0 : Int) ≤ (d : Int) := by omega
  have hd2 : (d : Int) < (l : Int) := by omega
  clear hc0 hc1 hc2 hc3 hc4 hp
  have HS := Lib.hid hs
  have HVV := Lib.hid hv
  have HLS := Lib.hid hls
  clear hs hv hls
  have HSD := Lib.hid hsd
  have HVD := Lib.hid hvd
  clear hsd hvd
  have HSU := Lib.hid hsu
  have hadx : ((a : Int) == (d : Int)) = false := by rw [beq_eq_false_iff_ne]; omega
  clear hsu
  have HKAA := Lib.hid hka
  clear hka
  have HKDD := Lib.hid hkd
  clear hkd
  have HAD := Lib.hid had
  clear had
  go_enter Try.func34, Try.ntmps34
  go_wp2_with fail
  go_at_call 58; refine (amount_is HA.out S3 q3 m3 d3 _).mono ?_; rintro e w183 ⟨rfl, hbw183⟩
  have TR2 := Lib.hid (And.intro (row_step TR1.out.1 hbw183) (And.intro (row_step TR1.out.2.1 hbw183) (bel_step TR1.out.2.2 hbw183)))
  clear TR1
  clear hbw183
  obtain ⟨c0_0, c0_1, c0_2, c0_3, c0_4, c0f, c0l⟩ := r7 TR2.out.1
  go_wp2_with fail
  have TR3 := Lib.hid (show (fun z0 : World => ZF z0 w.heap.size G ∧ Zz z0 (w.heap.size + 1) ∧ Below w.heap.size w z0) (((((w183.setCell ⟨w.heap.size, 0, none⟩ (.int .i64 2)).setCell ⟨w.heap.size, 1, none⟩ (.int .i64 0)).setCell ⟨w.heap.size, 2, none⟩ (.float .f64 G)).setCell ⟨w.heap.size, 3, none⟩ (.string ⟨#[]⟩)).setCell ⟨w.heap.size, 4, none⟩ (.slice none 0 0)) from ⟨s5r TR2.out.1, s5o TR2.out.2.1 (by omega), s5b TR2.out.2.2 (by omega)⟩)
  clear TR2
  clear c0_0 c0_1 c0_2 c0_3 c0_4 c0f c0l
  go_at_call 52; refine (lfind_any _ _ c a (ES.map (·.1)) ka true _ (entsL_step HE.out TR3.out.2.2) HS.out).mono ?_; rintro e w184 ⟨rfl, hbw184⟩
  have TR4 := Lib.hid (And.intro (row_step TR3.out.1 hbw184) (And.intro (row_step TR3.out.2.1 hbw184) (bel_step TR3.out.2.2 hbw184)))
  clear TR3
  clear hbw184
  go_wp2_with fail
  go_at_call 52; refine (lfind_any _ _ c d (ES.map (·.1)) kd true _ (entsL_step HE.out TR4.out.2.2) HSD.out).mono ?_; rintro e w185 ⟨rfl, hbw185⟩
  have TR5 := Lib.hid (And.intro (row_step TR4.out.1 hbw185) (And.intro (row_step TR4.out.2.1 hbw185) (bel_step TR4.out.2.2 hbw185)))
  clear TR4
  clear hbw185
  go_upto_region 8 with fail
  have TR6 := Lib.hid (And.intro (row_step TR5.out.1 (Below.drew br)) (And.intro (row_step TR5.out.2.1 (Below.drew br)) (bel_step TR5.out.2.2 (Below.drew br))))
  clear TR5
  refine wp_region_held_drew (S := (fun z => z.cell? ⟨w.heap.size, 0, none⟩ = some (.int .i64 2) ∧ z.cell? ⟨w.heap.size, 1, none⟩ = some (.int .i64 0) ∧ z.cell? ⟨w.heap.size, 2, none⟩ = some (.float .f64 G) ∧ z.cell? ⟨w.heap.size, 3, none⟩ = some (.string ⟨#[]⟩) ∧ z.cell? ⟨w.heap.size, 4, none⟩ = some (.slice none 0 0) ∧ z.cell? ⟨b, off + a * 5, none⟩ = some (.int .i64 4) ∧ z.cell? ⟨b, off + a * 5 + 1, none⟩ = some (.int .i64 0) ∧ z.cell? ⟨b, off + a * 5 + 2, none⟩ = some (.float .f64 0) ∧ z.cell? ⟨b, off + a * 5 + 3, none⟩ = some (.string ⟨#[]⟩) ∧ z.cell? ⟨b, off + a * 5 + 4, none⟩ = some (.slice (some ⟨ga, oa, none⟩) 2 cga))) (by kernel_rfl) ?_ (fun hH => ?_)
  · exact ⟨rc TR6.out.1 0, rc TR6.out.1 1, rc TR6.out.1 2, rc TR6.out.1 3, rc TR6.out.1 4, ck TR6.out.2.2 HCa0.out, ck TR6.out.2.2 HCa1.out, ck TR6.out.2.2 HCa2.out, ck TR6.out.2.2 HCa3.out, ck TR6.out.2.2 HCa4.out⟩
  refine zt [0, 1, 2, 3, 4] ?_
  iterate 5 (refine zt1 (fun _ _ d _ _ h => by cases d <;> exact h) (by simp only [lk0, lk1, lk2]; rfl) (by kernel_rfl) (by assumption) (by rfl) (fun w h => by (try dsimp only at h); go_simp; (try with_reducible rfl)) ?_; (try simp only [Act.put, pk0, pk1, pk2]))
  refine zt0 ?_
  refine wpAnyH_ready (rs := [5, 9]) (by kernel_rfl) (by simp) ?_
  refine AllReadyH.cons (o := ?_) ?hov191_ ?hstv191_ ?mov191_
  case hov191_ => (simp only [lk0, lk1, lk2]; rfl)
  case hstv191_ =>
    intro K hK
    go_simp
    go_at_call 61; refine (less_ok n ga oa cga ka Va G _ (rep_keep TR6.out.2.2 _ _ _ HPa.out) FV HVV.out HLS.out).mono ?_; rintro e w192 ⟨rfl, hbw192⟩
    have TR7 := Lib.hid (And.intro (row_step TR6.out.1 hbw192) (And.intro (row_step TR6.out.2.1 hbw192) (bel_step TR6.out.2.2 hbw192)))
    clear TR6
    clear hbw192
    go_wp2_with fail
    refine hK.out _ _ ?hsv191_ (fun hH => ?_)
    case hsv191_ => exact ⟨rc TR7.out.1 0, rc TR7.out.1 1, rc TR7.out.1 2, rc TR7.out.1 3, rc TR7.out.1 4, ck TR7.out.2.2 HCa0.out, ck TR7.out.2.2 HCa1.out, ck TR7.out.2.2 HCa2.out, ck TR7.out.2.2 HCa3.out, ck TR7.out.2.2 HCa4.out⟩
    clear hK K
    (try simp only [Act.put, pk0, pk1, pk2])
    refine zt [6, 7, 8] ?_
    iterate 3 (refine zt1 (fun _ _ d _ _ h => by cases d <;> exact h) (by simp only [lk0, lk1, lk2]; rfl) (by kernel_rfl) (by assumption) (by rfl) (fun w h => by (try dsimp only at h); go_simp; (try with_reducible rfl)) ?_; (try simp only [Act.put, pk0, pk1, pk2]))
    refine zt0 ?_
    refine zr1 9 (by kernel_rfl) (by simp only [lk0, lk1, lk2]; rfl) (fun K hK => ?_)
    go_simp
    have hlt197 : w.heap.size < w192.heap.size := row_lt TR7.out.1
    have hlt198 : w.heap.size + 1 < w192.heap.size := row_lt TR7.out.2.1
    have hlt199 : w.heap.size ≤ w192.heap.size := TR7.out.2.2.size
    have TR8 := Lib.hid (show (fun z0 : World => ZF z0 w.heap.size G ∧ Zz z0 (w.heap.size + 1) ∧ Zz z0 w192.heap.size ∧ Below w.heap.size w z0) (w192.alloc (.cells #[.int .i64 0, .int .i64 0, .float .f64 0, .string ⟨#[]⟩, .slice none 0 0] 27)) from ⟨row_alloc_step TR7.out.1 _, row_alloc_step TR7.out.2.1 _, (ra (by simp only [World.size_alloc, World.size_drew])), bel_step TR7.out.2.2 (bel_alloc br _)⟩)
    go_wp2_with fail
    refine hK.out _ _ ?hsv196_ (fun hH => ?_)
    case hsv196_ => exact ⟨rc TR8.out.1 0, rc TR8.out.1 1, rc TR8.out.1 2, rc TR8.out.1 3, rc TR8.out.1 4, ck TR8.out.2.2.2 HCa0.out, ck TR8.out.2.2.2 HCa1.out, ck TR8.out.2.2.2 HCa2.out, ck TR8.out.2.2.2 HCa3.out, ck TR8.out.2.2.2 HCa4.out⟩
    clear hK K
    (try simp only [Act.put, pk0, pk1, pk2])
    refine zr1 10 (by kernel_rfl) (by simp only [lk0, lk1, lk2]; rfl) (fun K hK => ?_)
    obtain ⟨b30, b31, b32, b33, b34, b3f, b3l⟩ := r7 TR8.out.2.2.1; go_simp
    have TR9 := Lib.hid (show (fun z0 : World => ZF z0 w.heap.size G ∧ Zz z0 (w.heap.size + 1) ∧ ZF z0 w192.heap.size (Flo.cop .sub FV G) ∧ Below w.heap.size w z0) (w192.alloc (.cells #[.int .i64 2, .int .i64 0, .float .f64 (Flo.cop .sub FV G), .string ⟨#[]⟩, .slice none 0 0] 27)) from ⟨row_alloc_step TR7.out.1 _, row_alloc_step TR7.out.2.1 _, (ra (by simp only [World.size_alloc, World.size_drew])), bel_step TR7.out.2.2 (bel_alloc br _)⟩)
    clear b30 b31 b32 b33 b34 b3f b3l
    go_wp2_with fail
    refine hK.out _ _ ?hsv200_ (fun hH => ?_)
    case hsv200_ => exact ⟨rc TR9.out.1 0, rc TR9.out.1 1, rc TR9.out.1 2, rc TR9.out.1 3, rc TR9.out.1 4, ck TR9.out.2.2.2 HCa0.out, ck TR9.out.2.2.2 HCa1.out, ck TR9.out.2.2.2 HCa2.out, ck TR9.out.2.2.2 HCa3.out, ck TR9.out.2.2.2 HCa4.out⟩
    clear hK K
    (try simp only [Act.put, pk0, pk1, pk2])
    refine zt [11] ?_
    refine zt1 (fun _ _ d _ _ h => by cases d <;> exact h) (by simp only [lk0, lk1, lk2]; rfl) (by kernel_rfl) (by assumption) (by rfl) (fun w h => by (try dsimp only at h); go_simp; (try with_reducible rfl)) ?_; (try simp only [Act.put, pk0, pk1, pk2])
    refine zt0 ?_
    refine wpAnyH_done (by kernel_rfl) ?_ _
    revert TR9
    generalize (w192.alloc (.cells #[.int .i64 2, .int .i64 0, .float .f64 (Flo.cop .sub FV G), .string ⟨#[]⟩, .slice none 0 0] 27)) = Wl202
    intro TR9
    go_upto_region 13 with fail
    have TR10 := Lib.hid (And.intro (row_step TR9.out.1 (Below.drew br)) (And.intro (row_step TR9.out.2.1 (Below.drew br)) (And.intro (row_step TR9.out.2.2.1 (Below.drew br)) (bel_step TR9.out.2.2.2 (Below.drew br)))))
    clear TR9
    refine wp_region_held_drew (S := (fun z => z.cell? ⟨w.heap.size, 0, none⟩ = some (.int .i64 2) ∧ z.cell? ⟨w.heap.size, 1, none⟩ = some (.int .i64 0) ∧ z.cell? ⟨w.heap.size, 2, none⟩ = some (.float .f64 G) ∧ z.cell? ⟨w.heap.size, 3, none⟩ = some (.string ⟨#[]⟩) ∧ z.cell? ⟨w.heap.size, 4, none⟩ = some (.slice none 0 0) ∧ z.cell? ⟨b, off + d * 5, none⟩ = some (.int .i64 4) ∧ z.cell? ⟨b, off + d * 5 + 1, none⟩ = some (.int .i64 0) ∧ z.cell? ⟨b, off + d * 5 + 2, none⟩ = some (.float .f64 0) ∧ z.cell? ⟨b, off + d * 5 + 3, none⟩ = some (.string ⟨#[]⟩) ∧ z.cell? ⟨b, off + d * 5 + 4, none⟩ = some (.slice (some ⟨gd, od, none⟩) 2 cgd))) (by kernel_rfl) ?_ (fun hH => ?_)
    · exact ⟨rc TR10.out.1 0, rc TR10.out.1 1, rc TR10.out.1 2, rc TR10.out.1 3, rc TR10.out.1 4, ck TR10.out.2.2.2 HCd0.out, ck TR10.out.2.2.2 HCd1.out, ck TR10.out.2.2.2 HCd2.out, ck TR10.out.2.2.2 HCd3.out, ck TR10.out.2.2.2 HCd4.out⟩
    refine zt [0, 1, 2, 3, 4] ?_
    iterate 5 (refine zt1 (fun _ _ d _ _ h => by cases d <;> exact h) (by simp only [lk0, lk1, lk2]; rfl) (by kernel_rfl) (by assumption) (by rfl) (fun w h => by (try dsimp only at h); go_simp; (try with_reducible rfl)) ?_; (try simp only [Act.put, pk0, pk1, pk2]))
    refine zt0 ?_
    refine wpAnyH_ready (rs := [5, 9]) (by kernel_rfl) (by simp) ?_
    refine AllReadyH.cons (o := ?_) ?hov208_ ?hstv208_ ?mov208_
    case hov208_ => (simp only [lk0, lk1, lk2]; rfl)
    case hstv208_ =>
      intro K hK
      go_simp
      go_at_call 59; refine (more_ok n gd od cgd kd Vd G _ (rep_keep TR10.out.2.2.2 _ _ _ HPd.out) FB HVD.out HSU.out).mono ?_; rintro e w209 ⟨rfl, hbw209⟩
      have TR11 := Lib.hid (And.intro (row_step TR10.out.1 hbw209) (And.intro (row_step TR10.out.2.1 hbw209) (And.intro (row_step TR10.out.2.2.1 hbw209) (bel_step TR10.out.2.2.2 hbw209))))
      clear TR10
      clear hbw209
      go_wp2_with fail
      refine hK.out _ _ ?hsv208_ (fun hH => ?_)
      case hsv208_ => exact ⟨rc TR11.out.1 0, rc TR11.out.1 1, rc TR11.out.1 2, rc TR11.out.1 3, rc TR11.out.1 4, ck TR11.out.2.2.2 HCd0.out, ck TR11.out.2.2.2 HCd1.out, ck TR11.out.2.2.2 HCd2.out, ck TR11.out.2.2.2 HCd3.out, ck TR11.out.2.2.2 HCd4.out⟩
      clear hK K
      (try simp only [Act.put, pk0, pk1, pk2])
      refine zt [6, 7, 8] ?_
      iterate 3 (refine zt1 (fun _ _ d _ _ h => by cases d <;> exact h) (by simp only [lk0, lk1, lk2]; rfl) (by kernel_rfl) (by assumption) (by rfl) (fun w h => by (try dsimp only at h); go_simp; (try with_reducible rfl)) ?_; (try simp only [Act.put, pk0, pk1, pk2]))
      refine zt0 ?_
      refine zr1 9 (by kernel_rfl) (by simp only [lk0, lk1, lk2]; rfl) (fun K hK => ?_)
      go_simp
      have hlt214 : w.heap.size < w209.heap.size := row_lt TR11.out.1
      have hlt215 : w.heap.size + 1 < w209.heap.size := row_lt TR11.out.2.1
      have hlt216 : w192.heap.size < w209.heap.size := row_lt TR11.out.2.2.1
      have hlt217 : w.heap.size ≤ w209.heap.size := TR11.out.2.2.2.size
      have TR12 := Lib.hid (show (fun z0 : World => ZF z0 w.heap.size G ∧ Zz z0 (w.heap.size + 1) ∧ ZF z0 w192.heap.size (Flo.cop .sub FV G) ∧ Zz z0 w209.heap.size ∧ Below w.heap.size w z0) (w209.alloc (.cells #[.int .i64 0, .int .i64 0, .float .f64 0, .string ⟨#[]⟩, .slice none 0 0] 27)) from ⟨row_alloc_step TR11.out.1 _, row_alloc_step TR11.out.2.1 _, row_alloc_step TR11.out.2.2.1 _, (ra (by simp only [World.size_alloc, World.size_drew])), bel_step TR11.out.2.2.2 (bel_alloc br _)⟩)
      go_wp2_with fail
      refine hK.out _ _ ?hsv213_ (fun hH => ?_)
      case hsv213_ => exact ⟨rc TR12.out.1 0, rc TR12.out.1 1, rc TR12.out.1 2, rc TR12.out.1 3, rc TR12.out.1 4, ck TR12.out.2.2.2.2 HCd0.out, ck TR12.out.2.2.2.2 HCd1.out, ck TR12.out.2.2.2.2 HCd2.out, ck TR12.out.2.2.2.2 HCd3.out, ck TR12.out.2.2.2.2 HCd4.out⟩
      clear hK K
      (try simp only [Act.put, pk0, pk1, pk2])
      refine zr1 10 (by kernel_rfl) (by simp only [lk0, lk1, lk2]; rfl) (fun K hK => ?_)
      obtain ⟨b30, b31, b32, b33, b34, b3f, b3l⟩ := r7 TR12.out.2.2.2.1; go_simp
      have TR13 := Lib.hid (show (fun z0 : World => ZF z0 w.heap.size G ∧ Zz z0 (w.heap.size + 1) ∧ ZF z0 w192.heap.size (Flo.cop .sub FV G) ∧ ZF z0 w209.heap.size (Flo.cop .add FB G) ∧ Below w.heap.size w z0) (w209.alloc (.cells #[.int .i64 2, .int .i64 0, .float .f64 (Flo.cop .add FB G), .string ⟨#[]⟩, .slice none 0 0] 27)) from ⟨row_alloc_step TR11.out.1 _, row_alloc_step TR11.out.2.1 _, row_alloc_step TR11.out.2.2.1 _, (ra (by simp only [World.size_alloc, World.size_drew])), bel_step TR11.out.2.2.2 (bel_alloc br _)⟩)
      clear b30 b31 b32 b33 b34 b3f b3l
      go_wp2_with fail
      refine hK.out _ _ ?hsv218_ (fun hH => ?_)
      case hsv218_ => exact ⟨rc TR13.out.1 0, rc TR13.out.1 1, rc TR13.out.1 2, rc TR13.out.1 3, rc TR13.out.1 4, ck TR13.out.2.2.2.2 HCd0.out, ck TR13.out.2.2.2.2 HCd1.out, ck TR13.out.2.2.2.2 HCd2.out, ck TR13.out.2.2.2.2 HCd3.out, ck TR13.out.2.2.2.2 HCd4.out⟩
      clear hK K
      (try simp only [Act.put, pk0, pk1, pk2])
      refine zt [11] ?_
      refine zt1 (fun _ _ d _ _ h => by cases d <;> exact h) (by simp only [lk0, lk1, lk2]; rfl) (by kernel_rfl) (by assumption) (by rfl) (fun w h => by (try dsimp only at h); go_simp; (try with_reducible rfl)) ?_; (try simp only [Act.put, pk0, pk1, pk2])
      refine zt0 ?_
      refine wpAnyH_done (by kernel_rfl) ?_ _
      revert TR13
      generalize (w209.alloc (.cells #[.int .i64 2, .int .i64 0, .float .f64 (Flo.cop .add FB G), .string ⟨#[]⟩, .slice none 0 0] 27)) = Wm220
      intro TR13
      go_upto_region 16 with fail
      have hltW : w.heap.size + 1 < Wm220.heap.size := row_lt TR13.out.2.1
      have hdrW : Wm220.drew.heap.size = Wm220.heap.size := World.size_drew _
      have hleW : w.heap.size ≤ Wm220.heap.size := TR13.out.2.2.2.2.size
      have TR14 := Lib.hid (And.intro (row_step TR13.out.1 (Below.drew br)) (And.intro (row_step TR13.out.2.1 (Below.drew br)) (And.intro (row_step TR13.out.2.2.1 (Below.drew br)) (And.intro (row_step TR13.out.2.2.2.1 (Below.drew br)) (bel_step TR13.out.2.2.2.2 (Below.drew br))))))
      clear TR13
      refine wp_region_held_drew (S := (fun z => z.cell? ⟨w192.heap.size, 0, none⟩ = some (.int .i64 2) ∧ z.cell? ⟨w192.heap.size, 1, none⟩ = some (.int .i64 0) ∧ z.cell? ⟨w192.heap.size, 2, none⟩ = some (.float .f64 (Flo.cop .sub FV G)) ∧ z.cell? ⟨w192.heap.size, 3, none⟩ = some (.string ⟨#[]⟩) ∧ z.cell? ⟨w192.heap.size, 4, none⟩ = some (.slice none 0 0) ∧ z.cell? ⟨w209.heap.size, 0, none⟩ = some (.int .i64 2) ∧ z.cell? ⟨w209.heap.size, 1, none⟩ = some (.int .i64 0) ∧ z.cell? ⟨w209.heap.size, 2, none⟩ = some (.float .f64 (Flo.cop .add FB G)) ∧ z.cell? ⟨w209.heap.size, 3, none⟩ = some (.string ⟨#[]⟩) ∧ z.cell? ⟨w209.heap.size, 4, none⟩ = some (.slice none 0 0))) (by kernel_rfl) ?_ (fun hH => ?_)
      · exact ⟨rc TR14.out.2.2.1 0, rc TR14.out.2.2.1 1, rc TR14.out.2.2.1 2, rc TR14.out.2.2.1 3, rc TR14.out.2.2.1 4, rc TR14.out.2.2.2.1 0, rc TR14.out.2.2.2.1 1, rc TR14.out.2.2.2.1 2, rc TR14.out.2.2.2.1 3, rc TR14.out.2.2.2.1 4⟩
      refine zt [0, 1, 2, 4, 5, 7] ?_
      iterate 6 (refine zt1 (fun _ _ d _ _ h => by cases d <;> exact h) (by simp only [lk0, lk1, lk2]; rfl) (by kernel_rfl) (by assumption) (by rfl) (fun w h => by (try dsimp only at h); go_simp; (try with_reducible rfl)) ?_; (try simp only [Act.put, pk0, pk1, pk2]))
      refine zt0 ?_
      refine zr1 3 (by kernel_rfl) (by simp only [lk0, lk1, lk2]; rfl) (fun K hK => ?_)
      go_simp
      go_at_call 60; refine (having_R n (Rep w0 (n + 2)) (rep_one w0 (n + 2)) b off l c a ka 2 0 (Flo.cop .sub FV G) _ none 0 0 (ES.map (pairE n)) (floT n (Flo.cop .sub FV G)) ga oa cga _ (Lib.hid (repL_at (bel_step HBW.out TR14.out.2.2.2.2) HL.out)) (by omega) hl (Lib.hid ⟨ck TR14.out.2.2.2.2 HCa0.out, ck TR14.out.2.2.2.2 HCa1.out, ck TR14.out.2.2.2.2 HCa2.out, ck TR14.out.2.2.2.2 HCa3.out, ck TR14.out.2.2.2.2 HCa4.out⟩) (Lib.hid (name_step (pair_name HPa.out).2.2.2.2.2 TR14.out.2.2.2.2))).mono ?_; rintro e w228 ⟨p6, c6, ge1, rfl, hbw228, hge1, hrow1, hy6⟩
      have TR15 := Lib.hid (And.intro (row_step TR14.out.1 hbw228) (And.intro (row_step TR14.out.2.1 hbw228) (And.intro (row_step TR14.out.2.2.1 hbw228) (And.intro (row_step TR14.out.2.2.2.1 hbw228) (bel_step TR14.out.2.2.2.2 hbw228)))))
      clear TR14
      have TR16 := Lib.hid (show ZF w228 w.heap.size G ∧ Zz w228 (w.heap.size + 1) ∧ ZF w228 w192.heap.size (Flo.cop .sub FV G) ∧ ZF w228 w209.heap.size (Flo.cop .add FB G) ∧ w228.heap[ge1]? = some (.cells #[.int .i64 3, .int .i64 0, .float .f64 0, .string ka, .slice none 0 0, .int .i64 2, .int .i64 0, .float .f64 (Flo.cop .sub FV G), .string ⟨#[]⟩, .slice none 0 0] 27 (0, 0)) ∧ Below w.heap.size w w228 from ⟨TR15.out.1, TR15.out.2.1, TR15.out.2.2.1, TR15.out.2.2.2.1, hrow1, TR15.out.2.2.2.2⟩)
      clear TR15
      have TR17 := Lib.hid (show ZF w228 w.heap.size G ∧ Zz w228 (w.heap.size + 1) ∧ ZF w228 w192.heap.size (Flo.cop .sub FV G) ∧ ZF w228 w209.heap.size (Flo.cop .add FB G) ∧ w228.heap[ge1]? = some (.cells #[.int .i64 3, .int .i64 0, .float .f64 0, .string ka, .slice none 0 0, .int .i64 2, .int .i64 0, .float .f64 (Flo.cop .sub FV G), .string ⟨#[]⟩, .slice none 0 0] 27 (0, 0)) ∧ (Stay Wm220.drew.heap.size w228 w228 ∧ w228.heap.size ≤ w228.heap.size) ∧ Below w.heap.size w w228 from ⟨TR16.out.1, TR16.out.2.1, TR16.out.2.2.1, TR16.out.2.2.2.1, TR16.out.2.2.2.2.1, ⟨stay_refl _ _, Nat.le_refl _⟩, TR16.out.2.2.2.2.2⟩)
      clear TR16
      have hL1 := hy6 _ (stay_refl _ _)
      obtain ⟨b6, off6, rfl, _⟩ := hL1.2.2.2 (by omega)
      obtain ⟨g6, o6, cg6, q0, q1, q2, q3, q4, qn⟩ := ro_at (bel_step HBW.out (bel_step br TR17.out.2.2.2.2.2.2)) hL1 (i := d) (k := kd) (V := Vd) (by rw [List.length_set, List.length_map]; omega) (by rw [List.getElem_set_ne (by have := HAD.out; omega), List.getElem_map, HKDD.out]; rfl) TR17.out.2.2.2.2.1
      have HC6 := Lib.hid (And.intro q0 (And.intro q1 (And.intro q2 (And.intro q3 q4))))
      have HN6 := Lib.hid qn
      have HL6 := Lib.hid hL1
      have hzz1 : Wm220.drew.heap.size ≤ w228.heap.size := hbw228.size
      clear q0 q1 q2 q3 q4 qn hL1 hy6 hrow1
      clear hbw228
      go_wp2_with fail
      refine hK.out _ _ ?hsv227_ (fun hH => ?_)
      case hsv227_ => exact ⟨rc TR17.out.2.2.1 0, rc TR17.out.2.2.1 1, rc TR17.out.2.2.1 2, rc TR17.out.2.2.1 3, rc TR17.out.2.2.1 4, rc TR17.out.2.2.2.1 0, rc TR17.out.2.2.2.1 1, rc TR17.out.2.2.2.1 2, rc TR17.out.2.2.2.1 3, rc TR17.out.2.2.2.1 4⟩
      clear hK K
      (try simp only [Act.put, pk0, pk1, pk2])
      refine zr1 6 (by kernel_rfl) (by simp only [lk0, lk1, lk2]; rfl) (fun K hK => ?_)
      go_simp
      go_at_call 60; refine (having_R n (RO n ge1 (Rep w0 (n + 2)) ka (floT n (Flo.cop .sub FV G))) (ro_one (rep_one w0 (n + 2)) _ _) b6 off6 l c6 d kd 2 0 (Flo.cop .add FB G) _ none 0 0 ((ES.map (pairE n)).set a (pairT n ka (floT n (Flo.cop .sub FV G)))) (floT n (Flo.cop .add FB G)) g6 o6 cg6 _ HL6 (by omega) hl HC6 HN6).mono ?_; rintro e w230 ⟨p7, c7, ge2, rfl, hbw230, hge2, hrow2, hy7⟩
      have TR18 := Lib.hid (show ZF w230 w.heap.size G ∧ Zz w230 (w.heap.size + 1) ∧ ZF w230 w192.heap.size (Flo.cop .sub FV G) ∧ ZF w230 w209.heap.size (Flo.cop .add FB G) ∧ w230.heap[ge1]? = some (.cells #[.int .i64 3, .int .i64 0, .float .f64 0, .string ka, .slice none 0 0, .int .i64 2, .int .i64 0, .float .f64 (Flo.cop .sub FV G), .string ⟨#[]⟩, .slice none 0 0] 27 (0, 0)) ∧ (Stay Wm220.drew.heap.size w228 w230 ∧ w228.heap.size ≤ w230.heap.size) ∧ Below w.heap.size w w230 from ⟨row_step TR17.out.1 hbw230, row_step TR17.out.2.1 hbw230, row_step TR17.out.2.2.1 hbw230, row_step TR17.out.2.2.2.1 hbw230, row_step TR17.out.2.2.2.2.1 hbw230, ⟨stay_trans TR17.out.2.2.2.2.2.1.1 TR17.out.2.2.2.2.2.1.2 hbw230, Nat.le_trans TR17.out.2.2.2.2.2.1.2 hbw230.size⟩, bel_step TR17.out.2.2.2.2.2.2 hbw230⟩)
      clear TR17
      have TR19 := Lib.hid (show ZF w230 w.heap.size G ∧ Zz w230 (w.heap.size + 1) ∧ ZF w230 w192.heap.size (Flo.cop .sub FV G) ∧ ZF w230 w209.heap.size (Flo.cop .add FB G) ∧ w230.heap[ge1]? = some (.cells #[.int .i64 3, .int .i64 0, .float .f64 0, .string ka, .slice none 0 0, .int .i64 2, .int .i64 0, .float .f64 (Flo.cop .sub FV G), .string ⟨#[]⟩, .slice none 0 0] 27 (0, 0)) ∧ w230.heap[ge2]? = some (.cells #[.int .i64 3, .int .i64 0, .float .f64 0, .string kd, .slice none 0 0, .int .i64 2, .int .i64 0, .float .f64 (Flo.cop .add FB G), .string ⟨#[]⟩, .slice none 0 0] 27 (0, 0)) ∧ (Stay Wm220.drew.heap.size w228 w230 ∧ w228.heap.size ≤ w230.heap.size) ∧ Below w.heap.size w w230 from ⟨TR18.out.1, TR18.out.2.1, TR18.out.2.2.1, TR18.out.2.2.2.1, TR18.out.2.2.2.2.1, hrow2, TR18.out.2.2.2.2.2.1, TR18.out.2.2.2.2.2.2⟩)
      clear TR18
      have TR20 := Lib.hid (show ZF w230 w.heap.size G ∧ Zz w230 (w.heap.size + 1) ∧ ZF w230 w192.heap.size (Flo.cop .sub FV G) ∧ ZF w230 w209.heap.size (Flo.cop .add FB G) ∧ w230.heap[ge1]? = some (.cells #[.int .i64 3, .int .i64 0, .float .f64 0, .string ka, .slice none 0 0, .int .i64 2, .int .i64 0, .float .f64 (Flo.cop .sub FV G), .string ⟨#[]⟩, .slice none 0 0] 27 (0, 0)) ∧ w230.heap[ge2]? = some (.cells #[.int .i64 3, .int .i64 0, .float .f64 0, .string kd, .slice none 0 0, .int .i64 2, .int .i64 0, .float .f64 (Flo.cop .add FB G), .string ⟨#[]⟩, .slice none 0 0] 27 (0, 0)) ∧ (Stay Wm220.drew.heap.size w228 w230 ∧ w228.heap.size ≤ w230.heap.size) ∧ (Stay w228.heap.size w230 w230 ∧ w230.heap.size ≤ w230.heap.size) ∧ Below w.heap.size w w230 from ⟨TR19.out.1, TR19.out.2.1, TR19.out.2.2.1, TR19.out.2.2.2.1, TR19.out.2.2.2.2.1, TR19.out.2.2.2.2.2.1, TR19.out.2.2.2.2.2.2.1, ⟨stay_refl _ _, Nat.le_refl _⟩, TR19.out.2.2.2.2.2.2.2⟩)
      clear TR19
      have HY := Lib.hid hy7
      have hge2w := hge2
      clear hy7 hrow2 hge2
      clear hbw230
      go_wp2_with fail
      refine hK.out _ _ ?hsv229_ (fun hH => ?_)
      case hsv229_ => exact ⟨rc TR20.out.2.2.1 0, rc TR20.out.2.2.1 1, rc TR20.out.2.2.1 2, rc TR20.out.2.2.1 3, rc TR20.out.2.2.1 4, rc TR20.out.2.2.2.1 0, rc TR20.out.2.2.2.1 1, rc TR20.out.2.2.2.1 2, rc TR20.out.2.2.2.1 3, rc TR20.out.2.2.2.1 4⟩
      clear hK K
      (try simp only [Act.put, pk0, pk1, pk2])
      refine zt [8] ?_
      refine zt1 (fun _ _ d _ _ h => by cases d <;> exact h) (by simp only [lk0, lk1, lk2]; rfl) (by kernel_rfl) (by assumption) (by rfl) (fun w h => by (try dsimp only at h); go_simp; (try with_reducible rfl)) ?_; (try simp only [Act.put, pk0, pk1, pk2])
      refine zt0 ?_
      refine zr1 9 (by kernel_rfl) (by simp only [lk0, lk1, lk2]; rfl) (fun K hK => ?_)
      obtain ⟨b30, b31, b32, b33, b34, b3f, b3l⟩ := r7 TR20.out.2.1; go_simp
      have TR21 := Lib.hid (show (fun z0 : World => ZF z0 w.heap.size G ∧ ZF z0 (w.heap.size + 1) (Flo.cop .sub FV G) ∧ ZF z0 w192.heap.size (Flo.cop .sub FV G) ∧ ZF z0 w209.heap.size (Flo.cop .add FB G) ∧ z0.heap[ge1]? = some (.cells #[.int .i64 3, .int .i64 0, .float .f64 0, .string ka, .slice none 0 0, .int .i64 2, .int .i64 0, .float .f64 (Flo.cop .sub FV G), .string ⟨#[]⟩, .slice none 0 0] 27 (0, 0)) ∧ z0.heap[ge2]? = some (.cells #[.int .i64 3, .int .i64 0, .float .f64 0, .string kd, .slice none 0 0, .int .i64 2, .int .i64 0, .float .f64 (Flo.cop .add FB G), .string ⟨#[]⟩, .slice none 0 0] 27 (0, 0)) ∧ (Stay Wm220.drew.heap.size w228 z0 ∧ w228.heap.size ≤ z0.heap.size) ∧ (Stay w228.heap.size w230 z0 ∧ w230.heap.size ≤ z0.heap.size) ∧ Below w.heap.size w z0) (((((w230.setCell ⟨w.heap.size + 1, 0, none⟩ (.int .i64 2)).setCell ⟨w.heap.size + 1, 1, none⟩ (.int .i64 0)).setCell ⟨w.heap.size + 1, 2, none⟩ (.float .f64 (Flo.cop .sub FV G))).setCell ⟨w.heap.size + 1, 3, none⟩ (.string ⟨#[]⟩)).setCell ⟨w.heap.size + 1, 4, none⟩ (.slice none 0 0)) from ⟨s5o TR20.out.1 (by omega), s5r TR20.out.2.1, s5o TR20.out.2.2.1 (by omega), s5o TR20.out.2.2.2.1 (by omega), s5o TR20.out.2.2.2.2.1 (by omega), s5o TR20.out.2.2.2.2.2.1 (by omega), ⟨stay_set TR20.out.2.2.2.2.2.2.1.1 (by omega) (.int .i64 2) (.int .i64 0) (.float .f64 (Flo.cop .sub FV G)) (.string ⟨#[]⟩) (.slice none 0 0), by show _ ≤ (set5 w230 (w.heap.size + 1) 0 (.int .i64 2) (.int .i64 0) (.float .f64 (Flo.cop .sub FV G)) (.string ⟨#[]⟩) (.slice none 0 0)).heap.size; rw [set5_size]; exact TR20.out.2.2.2.2.2.2.1.2⟩, ⟨stay_set TR20.out.2.2.2.2.2.2.2.1.1 (by omega) (.int .i64 2) (.int .i64 0) (.float .f64 (Flo.cop .sub FV G)) (.string ⟨#[]⟩) (.slice none 0 0), by show _ ≤ (set5 w230 (w.heap.size + 1) 0 (.int .i64 2) (.int .i64 0) (.float .f64 (Flo.cop .sub FV G)) (.string ⟨#[]⟩) (.slice none 0 0)).heap.size; rw [set5_size]; exact TR20.out.2.2.2.2.2.2.2.1.2⟩, s5b TR20.out.2.2.2.2.2.2.2.2 (by omega)⟩)
      clear TR20
      clear b30 b31 b32 b33 b34 b3f b3l
      go_wp2_with fail
      refine hK.out _ _ ?hsv232_ (fun hH => ?_)
      case hsv232_ => exact ⟨rc TR21.out.2.2.1 0, rc TR21.out.2.2.1 1, rc TR21.out.2.2.1 2, rc TR21.out.2.2.1 3, rc TR21.out.2.2.1 4, rc TR21.out.2.2.2.1 0, rc TR21.out.2.2.2.1 1, rc TR21.out.2.2.2.1 2, rc TR21.out.2.2.2.1 3, rc TR21.out.2.2.2.1 4⟩
      clear hK K
      (try simp only [Act.put, pk0, pk1, pk2])
      refine zt [10] ?_
      refine zt1 (fun _ _ d _ _ h => by cases d <;> exact h) (by simp only [lk0, lk1, lk2]; rfl) (by kernel_rfl) (by assumption) (by rfl) (fun w h => by (try dsimp only at h); go_simp; (try with_reducible rfl)) ?_; (try simp only [Act.put, pk0, pk1, pk2])
      refine zt0 ?_
      refine wpAnyH_done (by kernel_rfl) ?_ _
      revert TR21
      generalize (((((w230.setCell ⟨w.heap.size + 1, 0, none⟩ (.int .i64 2)).setCell ⟨w.heap.size + 1, 1, none⟩ (.int .i64 0)).setCell ⟨w.heap.size + 1, 2, none⟩ (.float .f64 (Flo.cop .sub FV G))).setCell ⟨w.heap.size + 1, 3, none⟩ (.string ⟨#[]⟩)).setCell ⟨w.heap.size + 1, 4, none⟩ (.slice none 0 0)) = Wf
      intro TR21
      obtain ⟨c1_0, c1_1, c1_2, c1_3, c1_4, c1f, c1l⟩ := r7 TR21.out.2.1
      go_wp2
      refine bodyPost_ret (v := .tuple #[.slice p7 l c7, .agg #[.int .i64 2, .int .i64 0, .float .f64 (Flo.cop .sub FV G), .string ⟨#[]⟩, .slice none 0 0], .int .i64 0]) (by simp [results, Try.results34, go_sem, c1_0, c1_1, c1_2, c1_3, c1_4]) rfl ⟨p7, c7, rfl, TR21.out.2.2.2.2.2.2.2.2, fun y hby hst => ?_⟩
      have hr1 := (hst ge1 (by omega) (row_lt TR21.out.2.2.2.2.1)).trans TR21.out.2.2.2.2.1
      have hr2 := (hst ge2 (by omega) (row_lt TR21.out.2.2.2.2.2.1)).trans TR21.out.2.2.2.2.2.1
      have hY := HY.out y (fun b h1 h2 => (hst b (by omega) (Nat.lt_of_lt_of_le h2 TR21.out.2.2.2.2.2.2.2.1.2)).trans (TR21.out.2.2.2.2.2.2.2.1.1 b h1 h2))
      rw [List.map_set, List.map_set]
      exact repL_mono (ro_rep2 hby hr1 hr2 (txt_repn n _ HKS.out.1) (flo_repn n _ (Flo.cop_lt _ _ _)) (txt_repn n _ HKS.out.2) (flo_repn n _ (Flo.cop_lt _ _ _))) hY
    case mov208_ =>
      refine AllReadyH.cons (o := ?_) ?hov234_ ?hstv234_ AllReadyH.nil
      case hov234_ => (simp only [lk0, lk1, lk2]; rfl)
      intro K hK
      go_simp
      have hlt235 : w.heap.size < Wl202.heap.size := row_lt TR10.out.1
      have hlt236 : w.heap.size + 1 < Wl202.heap.size := row_lt TR10.out.2.1
      have hlt237 : w192.heap.size < Wl202.heap.size := row_lt TR10.out.2.2.1
      have hlt238 : w.heap.size ≤ Wl202.heap.size := TR10.out.2.2.2.size
      have TR11 := Lib.hid (show (fun z0 : World => ZF z0 w.heap.size G ∧ Zz z0 (w.heap.size + 1) ∧ ZF z0 w192.heap.size (Flo.cop .sub FV G) ∧ Zz z0 Wl202.heap.size ∧ Below w.heap.size w z0) (Wl202.drew.alloc (.cells #[.int .i64 0, .int .i64 0, .float .f64 0, .string ⟨#[]⟩, .slice none 0 0] 27)) from ⟨row_alloc_step TR10.out.1 _, row_alloc_step TR10.out.2.1 _, row_alloc_step TR10.out.2.2.1 _, (ra (by simp only [World.size_alloc, World.size_drew])), bel_step TR10.out.2.2.2 (bel_alloc br _)⟩)
      go_wp2_with fail
      refine hK.out _ _ ?hsv234_ (fun hH => ?_)
      case hsv234_ => exact ⟨rc TR11.out.1 0, rc TR11.out.1 1, rc TR11.out.1 2, rc TR11.out.1 3, rc TR11.out.1 4, ck TR11.out.2.2.2.2 HCd0.out, ck TR11.out.2.2.2.2 HCd1.out, ck TR11.out.2.2.2.2 HCd2.out, ck TR11.out.2.2.2.2 HCd3.out, ck TR11.out.2.2.2.2 HCd4.out⟩
      clear hK K
      (try simp only [Act.put, pk0, pk1, pk2])
      refine zr1 5 (by kernel_rfl) (by simp only [lk0, lk1, lk2]; rfl) (fun K hK => ?_)
      go_simp
      go_at_call 59; refine (more_ok n gd od cgd kd Vd G _ (rep_keep TR11.out.2.2.2.2 _ _ _ HPd.out) FB HVD.out HSU.out).mono ?_; rintro e w240 ⟨rfl, hbw240⟩
      have TR12 := Lib.hid (And.intro (row_step TR11.out.1 hbw240) (And.intro (row_step TR11.out.2.1 hbw240) (And.intro (row_step TR11.out.2.2.1 hbw240) (And.intro (row_step TR11.out.2.2.2.1 hbw240) (bel_step TR11.out.2.2.2.2 hbw240)))))
      clear TR11
      clear hbw240
      go_wp2_with fail
      refine hK.out _ _ ?hsv239_ (fun hH => ?_)
      case hsv239_ => exact ⟨rc TR12.out.1 0, rc TR12.out.1 1, rc TR12.out.1 2, rc TR12.out.1 3, rc TR12.out.1 4, ck TR12.out.2.2.2.2 HCd0.out, ck TR12.out.2.2.2.2 HCd1.out, ck TR12.out.2.2.2.2 HCd2.out, ck TR12.out.2.2.2.2 HCd3.out, ck TR12.out.2.2.2.2 HCd4.out⟩
      clear hK K
      (try simp only [Act.put, pk0, pk1, pk2])
      refine zt [6, 7, 8] ?_
      iterate 3 (refine zt1 (fun _ _ d _ _ h => by cases d <;> exact h) (by simp only [lk0, lk1, lk2]; rfl) (by kernel_rfl) (by assumption) (by rfl) (fun w h => by (try dsimp only at h); go_simp; (try with_reducible rfl)) ?_; (try simp only [Act.put, pk0, pk1, pk2]))
      refine zt0 ?_
      refine zr1 10 (by kernel_rfl) (by simp only [lk0, lk1, lk2]; rfl) (fun K hK => ?_)
      obtain ⟨b30, b31, b32, b33, b34, b3f, b3l⟩ := r7 TR12.out.2.2.2.1; go_simp
      have TR13 := Lib.hid (show (fun z0 : World => ZF z0 w.heap.size G ∧ Zz z0 (w.heap.size + 1) ∧ ZF z0 w192.heap.size (Flo.cop .sub FV G) ∧ ZF z0 Wl202.heap.size (Flo.cop .add FB G) ∧ Below w.heap.size w z0) (((((w240.setCell ⟨Wl202.heap.size, 0, none⟩ (.int .i64 2)).setCell ⟨Wl202.heap.size, 1, none⟩ (.int .i64 0)).setCell ⟨Wl202.heap.size, 2, none⟩ (.float .f64 (Flo.cop .add FB G))).setCell ⟨Wl202.heap.size, 3, none⟩ (.string ⟨#[]⟩)).setCell ⟨Wl202.heap.size, 4, none⟩ (.slice none 0 0)) from ⟨s5o TR12.out.1 (by omega), s5o TR12.out.2.1 (by omega), s5o TR12.out.2.2.1 (by omega), s5r TR12.out.2.2.2.1, s5b TR12.out.2.2.2.2 (by omega)⟩)
      clear TR12
      clear b30 b31 b32 b33 b34 b3f b3l
      go_wp2_with fail
      refine hK.out _ _ ?hsv244_ (fun hH => ?_)
      case hsv244_ => exact ⟨rc TR13.out.1 0, rc TR13.out.1 1, rc TR13.out.1 2, rc TR13.out.1 3, rc TR13.out.1 4, ck TR13.out.2.2.2.2 HCd0.out, ck TR13.out.2.2.2.2 HCd1.out, ck TR13.out.2.2.2.2 HCd2.out, ck TR13.out.2.2.2.2 HCd3.out, ck TR13.out.2.2.2.2 HCd4.out⟩
      clear hK K
      (try simp only [Act.put, pk0, pk1, pk2])
      refine zt [11] ?_
      refine zt1 (fun _ _ d _ _ h => by cases d <;> exact h) (by simp only [lk0, lk1, lk2]; rfl) (by kernel_rfl) (by assumption) (by rfl) (fun w h => by (try dsimp only at h); go_simp; (try with_reducible rfl)) ?_; (try simp only [Act.put, pk0, pk1, pk2])
      refine zt0 ?_
      refine wpAnyH_done (by kernel_rfl) ?_ _
      revert TR13
      generalize (((((w240.setCell ⟨Wl202.heap.size, 0, none⟩ (.int .i64 2)).setCell ⟨Wl202.heap.size, 1, none⟩ (.int .i64 0)).setCell ⟨Wl202.heap.size, 2, none⟩ (.float .f64 (Flo.cop .add FB G))).setCell ⟨Wl202.heap.size, 3, none⟩ (.string ⟨#[]⟩)).setCell ⟨Wl202.heap.size, 4, none⟩ (.slice none 0 0)) = Wm246
      intro TR13
      go_upto_region 16 with fail
      have hltW : w.heap.size + 1 < Wm246.heap.size := row_lt TR13.out.2.1
      have hdrW : Wm246.drew.heap.size = Wm246.heap.size := World.size_drew _
      have hleW : w.heap.size ≤ Wm246.heap.size := TR13.out.2.2.2.2.size
      have TR14 := Lib.hid (And.intro (row_step TR13.out.1 (Below.drew br)) (And.intro (row_step TR13.out.2.1 (Below.drew br)) (And.intro (row_step TR13.out.2.2.1 (Below.drew br)) (And.intro (row_step TR13.out.2.2.2.1 (Below.drew br)) (bel_step TR13.out.2.2.2.2 (Below.drew br))))))
      clear TR13
      refine wp_region_held_drew (S := (fun z => z.cell? ⟨w192.heap.size, 0, none⟩ = some (.int .i64 2) ∧ z.cell? ⟨w192.heap.size, 1, none⟩ = some (.int .i64 0) ∧ z.cell? ⟨w192.heap.size, 2, none⟩ = some (.float .f64 (Flo.cop .sub FV G)) ∧ z.cell? ⟨w192.heap.size, 3, none⟩ = some (.string ⟨#[]⟩) ∧ z.cell? ⟨w192.heap.size, 4, none⟩ = some (.slice none 0 0) ∧ z.cell? ⟨Wl202.heap.size, 0, none⟩ = some (.int .i64 2) ∧ z.cell? ⟨Wl202.heap.size, 1, none⟩ = some (.int .i64 0) ∧ z.cell? ⟨Wl202.heap.size, 2, none⟩ = some (.float .f64 (Flo.cop .add FB G)) ∧ z.cell? ⟨Wl202.heap.size, 3, none⟩ = some (.string ⟨#[]⟩) ∧ z.cell? ⟨Wl202.heap.size, 4, none⟩ = some (.slice none 0 0))) (by kernel_rfl) ?_ (fun hH => ?_)
      · exact ⟨rc TR14.out.2.2.1 0, rc TR14.out.2.2.1 1, rc TR14.out.2.2.1 2, rc TR14.out.2.2.1 3, rc TR14.out.2.2.1 4, rc TR14.out.2.2.2.1 0, rc TR14.out.2.2.2.1 1, rc TR14.out.2.2.2.1 2, rc TR14.out.2.2.2.1 3, rc TR14.out.2.2.2.1 4⟩
      refine zt [0, 1, 2, 4, 5, 7] ?_
      iterate 6 (refine zt1 (fun _ _ d _ _ h => by cases d <;> exact h) (by simp only [lk0, lk1, lk2]; rfl) (by kernel_rfl) (by assumption) (by rfl) (fun w h => by (try dsimp only at h); go_simp; (try with_reducible rfl)) ?_; (try simp only [Act.put, pk0, pk1, pk2]))
      refine zt0 ?_
      refine zr1 3 (by kernel_rfl) (by simp only [lk0, lk1, lk2]; rfl) (fun K hK => ?_)
      go_simp
      go_at_call 60; refine (having_R n (Rep w0 (n + 2)) (rep_one w0 (n + 2)) b off l c a ka 2 0 (Flo.cop .sub FV G) _ none 0 0 (ES.map (pairE n)) (floT n (Flo.cop .sub FV G)) ga oa cga _ (Lib.hid (repL_at (bel_step HBW.out TR14.out.2.2.2.2) HL.out)) (by omega) hl (Lib.hid ⟨ck TR14.out.2.2.2.2 HCa0.out, ck TR14.out.2.2.2.2 HCa1.out, ck TR14.out.2.2.2.2 HCa2.out, ck TR14.out.2.2.2.2 HCa3.out, ck TR14.out.2.2.2.2 HCa4.out⟩) (Lib.hid (name_step (pair_name HPa.out).2.2.2.2.2 TR14.out.2.2.2.2))).mono ?_; rintro e w254 ⟨p6, c6, ge1, rfl, hbw254, hge1, hrow1, hy6⟩
      have TR15 := Lib.hid (And.intro (row_step TR14.out.1 hbw254) (And.intro (row_step TR14.out.2.1 hbw254) (And.intro (row_step TR14.out.2.2.1 hbw254) (And.intro (row_step TR14.out.2.2.2.1 hbw254) (bel_step TR14.out.2.2.2.2 hbw254)))))
      clear TR14
      have TR16 := Lib.hid (show ZF w254 w.heap.size G ∧ Zz w254 (w.heap.size + 1) ∧ ZF w254 w192.heap.size (Flo.cop .sub FV G) ∧ ZF w254 Wl202.heap.size (Flo.cop .add FB G) ∧ w254.heap[ge1]? = some (.cells #[.int .i64 3, .int .i64 0, .float .f64 0, .string ka, .slice none 0 0, .int .i64 2, .int .i64 0, .float .f64 (Flo.cop .sub FV G), .string ⟨#[]⟩, .slice none 0 0] 27 (0, 0)) ∧ Below w.heap.size w w254 from ⟨TR15.out.1, TR15.out.2.1, TR15.out.2.2.1, TR15.out.2.2.2.1, hrow1, TR15.out.2.2.2.2⟩)
      clear TR15
      have TR17 := Lib.hid (show ZF w254 w.heap.size G ∧ Zz w254 (w.heap.size + 1) ∧ ZF w254 w192.heap.size (Flo.cop .sub FV G) ∧ ZF w254 Wl202.heap.size (Flo.cop .add FB G) ∧ w254.heap[ge1]? = some (.cells #[.int .i64 3, .int .i64 0, .float .f64 0, .string ka, .slice none 0 0, .int .i64 2, .int .i64 0, .float .f64 (Flo.cop .sub FV G), .string ⟨#[]⟩, .slice none 0 0] 27 (0, 0)) ∧ (Stay Wm246.drew.heap.size w254 w254 ∧ w254.heap.size ≤ w254.heap.size) ∧ Below w.heap.size w w254 from ⟨TR16.out.1, TR16.out.2.1, TR16.out.2.2.1, TR16.out.2.2.2.1, TR16.out.2.2.2.2.1, ⟨stay_refl _ _, Nat.le_refl _⟩, TR16.out.2.2.2.2.2⟩)
      clear TR16
      have hL1 := hy6 _ (stay_refl _ _)
      obtain ⟨b6, off6, rfl, _⟩ := hL1.2.2.2 (by omega)
      obtain ⟨g6, o6, cg6, q0, q1, q2, q3, q4, qn⟩ := ro_at (bel_step HBW.out (bel_step br TR17.out.2.2.2.2.2.2)) hL1 (i := d) (k := kd) (V := Vd) (by rw [List.length_set, List.length_map]; omega) (by rw [List.getElem_set_ne (by have := HAD.out; omega), List.getElem_map, HKDD.out]; rfl) TR17.out.2.2.2.2.1
      have HC6 := Lib.hid (And.intro q0 (And.intro q1 (And.intro q2 (And.intro q3 q4))))
      have HN6 := Lib.hid qn
      have HL6 := Lib.hid hL1
      have hzz1 : Wm246.drew.heap.size ≤ w254.heap.size := hbw254.size
      clear q0 q1 q2 q3 q4 qn hL1 hy6 hrow1
      clear hbw254
      go_wp2_with fail
      refine hK.out _ _ ?hsv253_ (fun hH => ?_)
      case hsv253_ => exact ⟨rc TR17.out.2.2.1 0, rc TR17.out.2.2.1 1, rc TR17.out.2.2.1 2, rc TR17.out.2.2.1 3, rc TR17.out.2.2.1 4, rc TR17.out.2.2.2.1 0, rc TR17.out.2.2.2.1 1, rc TR17.out.2.2.2.1 2, rc TR17.out.2.2.2.1 3, rc TR17.out.2.2.2.1 4⟩
      clear hK K
      (try simp only [Act.put, pk0, pk1, pk2])
      refine zr1 6 (by kernel_rfl) (by simp only [lk0, lk1, lk2]; rfl) (fun K hK => ?_)
      go_simp
      go_at_call 60; refine (having_R n (RO n ge1 (Rep w0 (n + 2)) ka (floT n (Flo.cop .sub FV G))) (ro_one (rep_one w0 (n + 2)) _ _) b6 off6 l c6 d kd 2 0 (Flo.cop .add FB G) _ none 0 0 ((ES.map (pairE n)).set a (pairT n ka (floT n (Flo.cop .sub FV G)))) (floT n (Flo.cop .add FB G)) g6 o6 cg6 _ HL6 (by omega) hl HC6 HN6).mono ?_; rintro e w256 ⟨p7, c7, ge2, rfl, hbw256, hge2, hrow2, hy7⟩
      have TR18 := Lib.hid (show ZF w256 w.heap.size G ∧ Zz w256 (w.heap.size + 1) ∧ ZF w256 w192.heap.size (Flo.cop .sub FV G) ∧ ZF w256 Wl202.heap.size (Flo.cop .add FB G) ∧ w256.heap[ge1]? = some (.cells #[.int .i64 3, .int .i64 0, .float .f64 0, .string ka, .slice none 0 0, .int .i64 2, .int .i64 0, .float .f64 (Flo.cop .sub FV G), .string ⟨#[]⟩, .slice none 0 0] 27 (0, 0)) ∧ (Stay Wm246.drew.heap.size w254 w256 ∧ w254.heap.size ≤ w256.heap.size) ∧ Below w.heap.size w w256 from ⟨row_step TR17.out.1 hbw256, row_step TR17.out.2.1 hbw256, row_step TR17.out.2.2.1 hbw256, row_step TR17.out.2.2.2.1 hbw256, row_step TR17.out.2.2.2.2.1 hbw256, ⟨stay_trans TR17.out.2.2.2.2.2.1.1 TR17.out.2.2.2.2.2.1.2 hbw256, Nat.le_trans TR17.out.2.2.2.2.2.1.2 hbw256.size⟩, bel_step TR17.out.2.2.2.2.2.2 hbw256⟩)
      clear TR17
      have TR19 := Lib.hid (show ZF w256 w.heap.size G ∧ Zz w256 (w.heap.size + 1) ∧ ZF w256 w192.heap.size (Flo.cop .sub FV G) ∧ ZF w256 Wl202.heap.size (Flo.cop .add FB G) ∧ w256.heap[ge1]? = some (.cells #[.int .i64 3, .int .i64 0, .float .f64 0, .string ka, .slice none 0 0, .int .i64 2, .int .i64 0, .float .f64 (Flo.cop .sub FV G), .string ⟨#[]⟩, .slice none 0 0] 27 (0, 0)) ∧ w256.heap[ge2]? = some (.cells #[.int .i64 3, .int .i64 0, .float .f64 0, .string kd, .slice none 0 0, .int .i64 2, .int .i64 0, .float .f64 (Flo.cop .add FB G), .string ⟨#[]⟩, .slice none 0 0] 27 (0, 0)) ∧ (Stay Wm246.drew.heap.size w254 w256 ∧ w254.heap.size ≤ w256.heap.size) ∧ Below w.heap.size w w256 from ⟨TR18.out.1, TR18.out.2.1, TR18.out.2.2.1, TR18.out.2.2.2.1, TR18.out.2.2.2.2.1, hrow2, TR18.out.2.2.2.2.2.1, TR18.out.2.2.2.2.2.2⟩)
      clear TR18
      have TR20 := Lib.hid (show ZF w256 w.heap.size G ∧ Zz w256 (w.heap.size + 1) ∧ ZF w256 w192.heap.size (Flo.cop .sub FV G) ∧ ZF w256 Wl202.heap.size (Flo.cop .add FB G) ∧ w256.heap[ge1]? = some (.cells #[.int .i64 3, .int .i64 0, .float .f64 0, .string ka, .slice none 0 0, .int .i64 2, .int .i64 0, .float .f64 (Flo.cop .sub FV G), .string ⟨#[]⟩, .slice none 0 0] 27 (0, 0)) ∧ w256.heap[ge2]? = some (.cells #[.int .i64 3, .int .i64 0, .float .f64 0, .string kd, .slice none 0 0, .int .i64 2, .int .i64 0, .float .f64 (Flo.cop .add FB G), .string ⟨#[]⟩, .slice none 0 0] 27 (0, 0)) ∧ (Stay Wm246.drew.heap.size w254 w256 ∧ w254.heap.size ≤ w256.heap.size) ∧ (Stay w254.heap.size w256 w256 ∧ w256.heap.size ≤ w256.heap.size) ∧ Below w.heap.size w w256 from ⟨TR19.out.1, TR19.out.2.1, TR19.out.2.2.1, TR19.out.2.2.2.1, TR19.out.2.2.2.2.1, TR19.out.2.2.2.2.2.1, TR19.out.2.2.2.2.2.2.1, ⟨stay_refl _ _, Nat.le_refl _⟩, TR19.out.2.2.2.2.2.2.2⟩)
      clear TR19
      have HY := Lib.hid hy7
      have hge2w := hge2
      clear hy7 hrow2 hge2
      clear hbw256
      go_wp2_with fail
      refine hK.out _ _ ?hsv255_ (fun hH => ?_)
      case hsv255_ => exact ⟨rc TR20.out.2.2.1 0, rc TR20.out.2.2.1 1, rc TR20.out.2.2.1 2, rc TR20.out.2.2.1 3, rc TR20.out.2.2.1 4, rc TR20.out.2.2.2.1 0, rc TR20.out.2.2.2.1 1, rc TR20.out.2.2.2.1 2, rc TR20.out.2.2.2.1 3, rc TR20.out.2.2.2.1 4⟩
      clear hK K
      (try simp only [Act.put, pk0, pk1, pk2])
      refine zt [8] ?_
      refine zt1 (fun _ _ d _ _ h => by cases d <;> exact h) (by simp only [lk0, lk1, lk2]; rfl) (by kernel_rfl) (by assumption) (by rfl) (fun w h => by (try dsimp only at h); go_simp; (try with_reducible rfl)) ?_; (try simp only [Act.put, pk0, pk1, pk2])
      refine zt0 ?_
      refine zr1 9 (by kernel_rfl) (by simp only [lk0, lk1, lk2]; rfl) (fun K hK => ?_)
      obtain ⟨b30, b31, b32, b33, b34, b3f, b3l⟩ := r7 TR20.out.2.1; go_simp
      have TR21 := Lib.hid (show (fun z0 : World => ZF z0 w.heap.size G ∧ ZF z0 (w.heap.size + 1) (Flo.cop .sub FV G) ∧ ZF z0 w192.heap.size (Flo.cop .sub FV G) ∧ ZF z0 Wl202.heap.size (Flo.cop .add FB G) ∧ z0.heap[ge1]? = some (.cells #[.int .i64 3, .int .i64 0, .float .f64 0, .string ka, .slice none 0 0, .int .i64 2, .int .i64 0, .float .f64 (Flo.cop .sub FV G), .string ⟨#[]⟩, .slice none 0 0] 27 (0, 0)) ∧ z0.heap[ge2]? = some (.cells #[.int .i64 3, .int .i64 0, .float .f64 0, .string kd, .slice none 0 0, .int .i64 2, .int .i64 0, .float .f64 (Flo.cop .add FB G), .string ⟨#[]⟩, .slice none 0 0] 27 (0, 0)) ∧ (Stay Wm246.drew.heap.size w254 z0 ∧ w254.heap.size ≤ z0.heap.size) ∧ (Stay w254.heap.size w256 z0 ∧ w256.heap.size ≤ z0.heap.size) ∧ Below w.heap.size w z0) (((((w256.setCell ⟨w.heap.size + 1, 0, none⟩ (.int .i64 2)).setCell ⟨w.heap.size + 1, 1, none⟩ (.int .i64 0)).setCell ⟨w.heap.size + 1, 2, none⟩ (.float .f64 (Flo.cop .sub FV G))).setCell ⟨w.heap.size + 1, 3, none⟩ (.string ⟨#[]⟩)).setCell ⟨w.heap.size + 1, 4, none⟩ (.slice none 0 0)) from ⟨s5o TR20.out.1 (by omega), s5r TR20.out.2.1, s5o TR20.out.2.2.1 (by omega), s5o TR20.out.2.2.2.1 (by omega), s5o TR20.out.2.2.2.2.1 (by omega), s5o TR20.out.2.2.2.2.2.1 (by omega), ⟨stay_set TR20.out.2.2.2.2.2.2.1.1 (by omega) (.int .i64 2) (.int .i64 0) (.float .f64 (Flo.cop .sub FV G)) (.string ⟨#[]⟩) (.slice none 0 0), by show _ ≤ (set5 w256 (w.heap.size + 1) 0 (.int .i64 2) (.int .i64 0) (.float .f64 (Flo.cop .sub FV G)) (.string ⟨#[]⟩) (.slice none 0 0)).heap.size; rw [set5_size]; exact TR20.out.2.2.2.2.2.2.1.2⟩, ⟨stay_set TR20.out.2.2.2.2.2.2.2.1.1 (by omega) (.int .i64 2) (.int .i64 0) (.float .f64 (Flo.cop .sub FV G)) (.string ⟨#[]⟩) (.slice none 0 0), by show _ ≤ (set5 w256 (w.heap.size + 1) 0 (.int .i64 2) (.int .i64 0) (.float .f64 (Flo.cop .sub FV G)) (.string ⟨#[]⟩) (.slice none 0 0)).heap.size; rw [set5_size]; exact TR20.out.2.2.2.2.2.2.2.1.2⟩, s5b TR20.out.2.2.2.2.2.2.2.2 (by omega)⟩)
      clear TR20
      clear b30 b31 b32 b33 b34 b3f b3l
      go_wp2_with fail
      refine hK.out _ _ ?hsv258_ (fun hH => ?_)
      case hsv258_ => exact ⟨rc TR21.out.2.2.1 0, rc TR21.out.2.2.1 1, rc TR21.out.2.2.1 2, rc TR21.out.2.2.1 3, rc TR21.out.2.2.1 4, rc TR21.out.2.2.2.1 0, rc TR21.out.2.2.2.1 1, rc TR21.out.2.2.2.1 2, rc TR21.out.2.2.2.1 3, rc TR21.out.2.2.2.1 4⟩
      clear hK K
      (try simp only [Act.put, pk0, pk1, pk2])
      refine zt [10] ?_
      refine zt1 (fun _ _ d _ _ h => by cases d <;> exact h) (by simp only [lk0, lk1, lk2]; rfl) (by kernel_rfl) (by assumption) (by rfl) (fun w h => by (try dsimp only at h); go_simp; (try with_reducible rfl)) ?_; (try simp only [Act.put, pk0, pk1, pk2])
      refine zt0 ?_
      refine wpAnyH_done (by kernel_rfl) ?_ _
      revert TR21
      generalize (((((w256.setCell ⟨w.heap.size + 1, 0, none⟩ (.int .i64 2)).setCell ⟨w.heap.size + 1, 1, none⟩ (.int .i64 0)).setCell ⟨w.heap.size + 1, 2, none⟩ (.float .f64 (Flo.cop .sub FV G))).setCell ⟨w.heap.size + 1, 3, none⟩ (.string ⟨#[]⟩)).setCell ⟨w.heap.size + 1, 4, none⟩ (.slice none 0 0)) = Wf
      intro TR21
      obtain ⟨c1_0, c1_1, c1_2, c1_3, c1_4, c1f, c1l⟩ := r7 TR21.out.2.1
      go_wp2
      refine bodyPost_ret (v := .tuple #[.slice p7 l c7, .agg #[.int .i64 2, .int .i64 0, .float .f64 (Flo.cop .sub FV G), .string ⟨#[]⟩, .slice none 0 0], .int .i64 0]) (by simp [results, Try.results34, go_sem, c1_0, c1_1, c1_2, c1_3, c1_4]) rfl ⟨p7, c7, rfl, TR21.out.2.2.2.2.2.2.2.2, fun y hby hst => ?_⟩
      have hr1 := (hst ge1 (by omega) (row_lt TR21.out.2.2.2.2.1)).trans TR21.out.2.2.2.2.1
      have hr2 := (hst ge2 (by omega) (row_lt TR21.out.2.2.2.2.2.1)).trans TR21.out.2.2.2.2.2.1
      have hY := HY.out y (fun b h1 h2 => (hst b (by omega) (Nat.lt_of_lt_of_le h2 TR21.out.2.2.2.2.2.2.2.1.2)).trans (TR21.out.2.2.2.2.2.2.2.1.1 b h1 h2))
      rw [List.map_set, List.map_set]
      exact repL_mono (ro_rep2 hby hr1 hr2 (txt_repn n _ HKS.out.1) (flo_repn n _ (Flo.cop_lt _ _ _)) (txt_repn n _ HKS.out.2) (flo_repn n _ (Flo.cop_lt _ _ _))) hY
  case mov191_ =>
    refine AllReadyH.cons (o := ?_) ?hov260_ ?hstv260_ AllReadyH.nil
    case hov260_ => (simp only [lk0, lk1, lk2]; rfl)
    intro K hK
    go_simp
    have hlt261 : w.heap.size < w185.heap.size := row_lt TR6.out.1
    have hlt262 : w.heap.size + 1 < w185.heap.size := row_lt TR6.out.2.1
    have hlt263 : w.heap.size ≤ w185.heap.size := TR6.out.2.2.size
    have TR7 := Lib.hid (show (fun z0 : World => ZF z0 w.heap.size G ∧ Zz z0 (w.heap.size + 1) ∧ Zz z0 w185.heap.size ∧ Below w.heap.size w z0) (w185.drew.alloc (.cells #[.int .i64 0, .int .i64 0, .float .f64 0, .string ⟨#[]⟩, .slice none 0 0] 27)) from ⟨row_alloc_step TR6.out.1 _, row_alloc_step TR6.out.2.1 _, (ra (by simp only [World.size_alloc, World.size_drew])), bel_step TR6.out.2.2 (bel_alloc br _)⟩)
    go_wp2_with fail
    refine hK.out _ _ ?hsv260_ (fun hH => ?_)
    case hsv260_ => exact ⟨rc TR7.out.1 0, rc TR7.out.1 1, rc TR7.out.1 2, rc TR7.out.1 3, rc TR7.out.1 4, ck TR7.out.2.2.2 HCa0.out, ck TR7.out.2.2.2 HCa1.out, ck TR7.out.2.2.2 HCa2.out, ck TR7.out.2.2.2 HCa3.out, ck TR7.out.2.2.2 HCa4.out⟩
    clear hK K
    (try simp only [Act.put, pk0, pk1, pk2])
    refine zr1 5 (by kernel_rfl) (by simp only [lk0, lk1, lk2]; rfl) (fun K hK => ?_)
    go_simp
    go_at_call 61; refine (less_ok n ga oa cga ka Va G _ (rep_keep TR7.out.2.2.2 _ _ _ HPa.out) FV HVV.out HLS.out).mono ?_; rintro e w265 ⟨rfl, hbw265⟩
    have TR8 := Lib.hid (And.intro (row_step TR7.out.1 hbw265) (And.intro (row_step TR7.out.2.1 hbw265) (And.intro (row_step TR7.out.2.2.1 hbw265) (bel_step TR7.out.2.2.2 hbw265))))
    clear TR7
    clear hbw265
    go_wp2_with fail
    refine hK.out _ _ ?hsv264_ (fun hH => ?_)
    case hsv264_ => exact ⟨rc TR8.out.1 0, rc TR8.out.1 1, rc TR8.out.1 2, rc TR8.out.1 3, rc TR8.out.1 4, ck TR8.out.2.2.2 HCa0.out, ck TR8.out.2.2.2 HCa1.out, ck TR8.out.2.2.2 HCa2.out, ck TR8.out.2.2.2 HCa3.out, ck TR8.out.2.2.2 HCa4.out⟩
    clear hK K
    (try simp only [Act.put, pk0, pk1, pk2])
    refine zt [6, 7, 8] ?_
    iterate 3 (refine zt1 (fun _ _ d _ _ h => by cases d <;> exact h) (by simp only [lk0, lk1, lk2]; rfl) (by kernel_rfl) (by assumption) (by rfl) (fun w h => by (try dsimp only at h); go_simp; (try with_reducible rfl)) ?_; (try simp only [Act.put, pk0, pk1, pk2]))
    refine zt0 ?_
    refine zr1 10 (by kernel_rfl) (by simp only [lk0, lk1, lk2]; rfl) (fun K hK => ?_)
    obtain ⟨b30, b31, b32, b33, b34, b3f, b3l⟩ := r7 TR8.out.2.2.1; go_simp
    have TR9 := Lib.hid (show (fun z0 : World => ZF z0 w.heap.size G ∧ Zz z0 (w.heap.size + 1) ∧ ZF z0 w185.heap.size (Flo.cop .sub FV G) ∧ Below w.heap.size w z0) (((((w265.setCell ⟨w185.heap.size, 0, none⟩ (.int .i64 2)).setCell ⟨w185.heap.size, 1, none⟩ (.int .i64 0)).setCell ⟨w185.heap.size, 2, none⟩ (.float .f64 (Flo.cop .sub FV G))).setCell ⟨w185.heap.size, 3, none⟩ (.string ⟨#[]⟩)).setCell ⟨w185.heap.size, 4, none⟩ (.slice none 0 0)) from ⟨s5o TR8.out.1 (by omega), s5o TR8.out.2.1 (by omega), s5r TR8.out.2.2.1, s5b TR8.out.2.2.2 (by omega)⟩)
    clear TR8
    clear b30 b31 b32 b33 b34 b3f b3l
    go_wp2_with fail
    refine hK.out _ _ ?hsv269_ (fun hH => ?_)
    case hsv269_ => exact ⟨rc TR9.out.1 0, rc TR9.out.1 1, rc TR9.out.1 2, rc TR9.out.1 3, rc TR9.out.1 4, ck TR9.out.2.2.2 HCa0.out, ck TR9.out.2.2.2 HCa1.out, ck TR9.out.2.2.2 HCa2.out, ck TR9.out.2.2.2 HCa3.out, ck TR9.out.2.2.2 HCa4.out⟩
    clear hK K
    (try simp only [Act.put, pk0, pk1, pk2])
    refine zt [11] ?_
    refine zt1 (fun _ _ d _ _ h => by cases d <;> exact h) (by simp only [lk0, lk1, lk2]; rfl) (by kernel_rfl) (by assumption) (by rfl) (fun w h => by (try dsimp only at h); go_simp; (try with_reducible rfl)) ?_; (try simp only [Act.put, pk0, pk1, pk2])
    refine zt0 ?_
    refine wpAnyH_done (by kernel_rfl) ?_ _
    revert TR9
    generalize (((((w265.setCell ⟨w185.heap.size, 0, none⟩ (.int .i64 2)).setCell ⟨w185.heap.size, 1, none⟩ (.int .i64 0)).setCell ⟨w185.heap.size, 2, none⟩ (.float .f64 (Flo.cop .sub FV G))).setCell ⟨w185.heap.size, 3, none⟩ (.string ⟨#[]⟩)).setCell ⟨w185.heap.size, 4, none⟩ (.slice none 0 0)) = Wl271
    intro TR9
    go_upto_region 13 with fail
    have TR10 := Lib.hid (And.intro (row_step TR9.out.1 (Below.drew br)) (And.intro (row_step TR9.out.2.1 (Below.drew br)) (And.intro (row_step TR9.out.2.2.1 (Below.drew br)) (bel_step TR9.out.2.2.2 (Below.drew br)))))
    clear TR9
    refine wp_region_held_drew (S := (fun z => z.cell? ⟨w.heap.size, 0, none⟩ = some (.int .i64 2) ∧ z.cell? ⟨w.heap.size, 1, none⟩ = some (.int .i64 0) ∧ z.cell? ⟨w.heap.size, 2, none⟩ = some (.float .f64 G) ∧ z.cell? ⟨w.heap.size, 3, none⟩ = some (.string ⟨#[]⟩) ∧ z.cell? ⟨w.heap.size, 4, none⟩ = some (.slice none 0 0) ∧ z.cell? ⟨b, off + d * 5, none⟩ = some (.int .i64 4) ∧ z.cell? ⟨b, off + d * 5 + 1, none⟩ = some (.int .i64 0) ∧ z.cell? ⟨b, off + d * 5 + 2, none⟩ = some (.float .f64 0) ∧ z.cell? ⟨b, off + d * 5 + 3, none⟩ = some (.string ⟨#[]⟩) ∧ z.cell? ⟨b, off + d * 5 + 4, none⟩ = some (.slice (some ⟨gd, od, none⟩) 2 cgd))) (by kernel_rfl) ?_ (fun hH => ?_)
    · exact ⟨rc TR10.out.1 0, rc TR10.out.1 1, rc TR10.out.1 2, rc TR10.out.1 3, rc TR10.out.1 4, ck TR10.out.2.2.2 HCd0.out, ck TR10.out.2.2.2 HCd1.out, ck TR10.out.2.2.2 HCd2.out, ck TR10.out.2.2.2 HCd3.out, ck TR10.out.2.2.2 HCd4.out⟩
    refine zt [0, 1, 2, 3, 4] ?_
    iterate 5 (refine zt1 (fun _ _ d _ _ h => by cases d <;> exact h) (by simp only [lk0, lk1, lk2]; rfl) (by kernel_rfl) (by assumption) (by rfl) (fun w h => by (try dsimp only at h); go_simp; (try with_reducible rfl)) ?_; (try simp only [Act.put, pk0, pk1, pk2]))
    refine zt0 ?_
    refine wpAnyH_ready (rs := [5, 9]) (by kernel_rfl) (by simp) ?_
    refine AllReadyH.cons (o := ?_) ?hov277_ ?hstv277_ ?mov277_
    case hov277_ => (simp only [lk0, lk1, lk2]; rfl)
    case hstv277_ =>
      intro K hK
      go_simp
      go_at_call 59; refine (more_ok n gd od cgd kd Vd G _ (rep_keep TR10.out.2.2.2 _ _ _ HPd.out) FB HVD.out HSU.out).mono ?_; rintro e w278 ⟨rfl, hbw278⟩
      have TR11 := Lib.hid (And.intro (row_step TR10.out.1 hbw278) (And.intro (row_step TR10.out.2.1 hbw278) (And.intro (row_step TR10.out.2.2.1 hbw278) (bel_step TR10.out.2.2.2 hbw278))))
      clear TR10
      clear hbw278
      go_wp2_with fail
      refine hK.out _ _ ?hsv277_ (fun hH => ?_)
      case hsv277_ => exact ⟨rc TR11.out.1 0, rc TR11.out.1 1, rc TR11.out.1 2, rc TR11.out.1 3, rc TR11.out.1 4, ck TR11.out.2.2.2 HCd0.out, ck TR11.out.2.2.2 HCd1.out, ck TR11.out.2.2.2 HCd2.out, ck TR11.out.2.2.2 HCd3.out, ck TR11.out.2.2.2 HCd4.out⟩
      clear hK K
      (try simp only [Act.put, pk0, pk1, pk2])
      refine zt [6, 7, 8] ?_
      iterate 3 (refine zt1 (fun _ _ d _ _ h => by cases d <;> exact h) (by simp only [lk0, lk1, lk2]; rfl) (by kernel_rfl) (by assumption) (by rfl) (fun w h => by (try dsimp only at h); go_simp; (try with_reducible rfl)) ?_; (try simp only [Act.put, pk0, pk1, pk2]))
      refine zt0 ?_
      refine zr1 9 (by kernel_rfl) (by simp only [lk0, lk1, lk2]; rfl) (fun K hK => ?_)
      go_simp
      have hlt283 : w.heap.size < w278.heap.size := row_lt TR11.out.1
      have hlt284 : w.heap.size + 1 < w278.heap.size := row_lt TR11.out.2.1
      have hlt285 : w185.heap.size < w278.heap.size := row_lt TR11.out.2.2.1
      have hlt286 : w.heap.size ≤ w278.heap.size := TR11.out.2.2.2.size
      have TR12 := Lib.hid (show (fun z0 : World => ZF z0 w.heap.size G ∧ Zz z0 (w.heap.size + 1) ∧ ZF z0 w185.heap.size (Flo.cop .sub FV G) ∧ Zz z0 w278.heap.size ∧ Below w.heap.size w z0) (w278.alloc (.cells #[.int .i64 0, .int .i64 0, .float .f64 0, .string ⟨#[]⟩, .slice none 0 0] 27)) from ⟨row_alloc_step TR11.out.1 _, row_alloc_step TR11.out.2.1 _, row_alloc_step TR11.out.2.2.1 _, (ra (by simp only [World.size_alloc, World.size_drew])), bel_step TR11.out.2.2.2 (bel_alloc br _)⟩)
      go_wp2_with fail
      refine hK.out _ _ ?hsv282_ (fun hH => ?_)
      case hsv282_ => exact ⟨rc TR12.out.1 0, rc TR12.out.1 1, rc TR12.out.1 2, rc TR12.out.1 3, rc TR12.out.1 4, ck TR12.out.2.2.2.2 HCd0.out, ck TR12.out.2.2.2.2 HCd1.out, ck TR12.out.2.2.2.2 HCd2.out, ck TR12.out.2.2.2.2 HCd3.out, ck TR12.out.2.2.2.2 HCd4.out⟩
      clear hK K
      (try simp only [Act.put, pk0, pk1, pk2])
      refine zr1 10 (by kernel_rfl) (by simp only [lk0, lk1, lk2]; rfl) (fun K hK => ?_)
      obtain ⟨b30, b31, b32, b33, b34, b3f, b3l⟩ := r7 TR12.out.2.2.2.1; go_simp
      have TR13 := Lib.hid (show (fun z0 : World => ZF z0 w.heap.size G ∧ Zz z0 (w.heap.size + 1) ∧ ZF z0 w185.heap.size (Flo.cop .sub FV G) ∧ ZF z0 w278.heap.size (Flo.cop .add FB G) ∧ Below w.heap.size w z0) (w278.alloc (.cells #[.int .i64 2, .int .i64 0, .float .f64 (Flo.cop .add FB G), .string ⟨#[]⟩, .slice none 0 0] 27)) from ⟨row_alloc_step TR11.out.1 _, row_alloc_step TR11.out.2.1 _, row_alloc_step TR11.out.2.2.1 _, (ra (by simp only [World.size_alloc, World.size_drew])), bel_step TR11.out.2.2.2 (bel_alloc br _)⟩)
      clear b30 b31 b32 b33 b34 b3f b3l
      go_wp2_with fail
      refine hK.out _ _ ?hsv287_ (fun hH => ?_)
      case hsv287_ => exact ⟨rc TR13.out.1 0, rc TR13.out.1 1, rc TR13.out.1 2, rc TR13.out.1 3, rc TR13.out.1 4, ck TR13.out.2.2.2.2 HCd0.out, ck TR13.out.2.2.2.2 HCd1.out, ck TR13.out.2.2.2.2 HCd2.out, ck TR13.out.2.2.2.2 HCd3.out, ck TR13.out.2.2.2.2 HCd4.out⟩
      clear hK K
      (try simp only [Act.put, pk0, pk1, pk2])
      refine zt [11] ?_
      refine zt1 (fun _ _ d _ _ h => by cases d <;> exact h) (by simp only [lk0, lk1, lk2]; rfl) (by kernel_rfl) (by assumption) (by rfl) (fun w h => by (try dsimp only at h); go_simp; (try with_reducible rfl)) ?_; (try simp only [Act.put, pk0, pk1, pk2])
      refine zt0 ?_
      refine wpAnyH_done (by kernel_rfl) ?_ _
      revert TR13
      generalize (w278.alloc (.cells #[.int .i64 2, .int .i64 0, .float .f64 (Flo.cop .add FB G), .string ⟨#[]⟩, .slice none 0 0] 27)) = Wm289
      intro TR13
      go_upto_region 16 with fail
      have hltW : w.heap.size + 1 < Wm289.heap.size := row_lt TR13.out.2.1
      have hdrW : Wm289.drew.heap.size = Wm289.heap.size := World.size_drew _
      have hleW : w.heap.size ≤ Wm289.heap.size := TR13.out.2.2.2.2.size
      have TR14 := Lib.hid (And.intro (row_step TR13.out.1 (Below.drew br)) (And.intro (row_step TR13.out.2.1 (Below.drew br)) (And.intro (row_step TR13.out.2.2.1 (Below.drew br)) (And.intro (row_step TR13.out.2.2.2.1 (Below.drew br)) (bel_step TR13.out.2.2.2.2 (Below.drew br))))))
      clear TR13
      refine wp_region_held_drew (S := (fun z => z.cell? ⟨w185.heap.size, 0, none⟩ = some (.int .i64 2) ∧ z.cell? ⟨w185.heap.size, 1, none⟩ = some (.int .i64 0) ∧ z.cell? ⟨w185.heap.size, 2, none⟩ = some (.float .f64 (Flo.cop .sub FV G)) ∧ z.cell? ⟨w185.heap.size, 3, none⟩ = some (.string ⟨#[]⟩) ∧ z.cell? ⟨w185.heap.size, 4, none⟩ = some (.slice none 0 0) ∧ z.cell? ⟨w278.heap.size, 0, none⟩ = some (.int .i64 2) ∧ z.cell? ⟨w278.heap.size, 1, none⟩ = some (.int .i64 0) ∧ z.cell? ⟨w278.heap.size, 2, none⟩ = some (.float .f64 (Flo.cop .add FB G)) ∧ z.cell? ⟨w278.heap.size, 3, none⟩ = some (.string ⟨#[]⟩) ∧ z.cell? ⟨w278.heap.size, 4, none⟩ = some (.slice none 0 0))) (by kernel_rfl) ?_ (fun hH => ?_)
      · exact ⟨rc TR14.out.2.2.1 0, rc TR14.out.2.2.1 1, rc TR14.out.2.2.1 2, rc TR14.out.2.2.1 3, rc TR14.out.2.2.1 4, rc TR14.out.2.2.2.1 0, rc TR14.out.2.2.2.1 1, rc TR14.out.2.2.2.1 2, rc TR14.out.2.2.2.1 3, rc TR14.out.2.2.2.1 4⟩
      refine zt [0, 1, 2, 4, 5, 7] ?_
      iterate 6 (refine zt1 (fun _ _ d _ _ h => by cases d <;> exact h) (by simp only [lk0, lk1, lk2]; rfl) (by kernel_rfl) (by assumption) (by rfl) (fun w h => by (try dsimp only at h); go_simp; (try with_reducible rfl)) ?_; (try simp only [Act.put, pk0, pk1, pk2]))
      refine zt0 ?_
      refine zr1 3 (by kernel_rfl) (by simp only [lk0, lk1, lk2]; rfl) (fun K hK => ?_)
      go_simp
      go_at_call 60; refine (having_R n (Rep w0 (n + 2)) (rep_one w0 (n + 2)) b off l c a ka 2 0 (Flo.cop .sub FV G) _ none 0 0 (ES.map (pairE n)) (floT n (Flo.cop .sub FV G)) ga oa cga _ (Lib.hid (repL_at (bel_step HBW.out TR14.out.2.2.2.2) HL.out)) (by omega) hl (Lib.hid ⟨ck TR14.out.2.2.2.2 HCa0.out, ck TR14.out.2.2.2.2 HCa1.out, ck TR14.out.2.2.2.2 HCa2.out, ck TR14.out.2.2.2.2 HCa3.out, ck TR14.out.2.2.2.2 HCa4.out⟩) (Lib.hid (name_step (pair_name HPa.out).2.2.2.2.2 TR14.out.2.2.2.2))).mono ?_; rintro e w297 ⟨p6, c6, ge1, rfl, hbw297, hge1, hrow1, hy6⟩
      have TR15 := Lib.hid (And.intro (row_step TR14.out.1 hbw297) (And.intro (row_step TR14.out.2.1 hbw297) (And.intro (row_step TR14.out.2.2.1 hbw297) (And.intro (row_step TR14.out.2.2.2.1 hbw297) (bel_step TR14.out.2.2.2.2 hbw297)))))
      clear TR14
      have TR16 := Lib.hid (show ZF w297 w.heap.size G ∧ Zz w297 (w.heap.size + 1) ∧ ZF w297 w185.heap.size (Flo.cop .sub FV G) ∧ ZF w297 w278.heap.size (Flo.cop .add FB G) ∧ w297.heap[ge1]? = some (.cells #[.int .i64 3, .int .i64 0, .float .f64 0, .string ka, .slice none 0 0, .int .i64 2, .int .i64 0, .float .f64 (Flo.cop .sub FV G), .string ⟨#[]⟩, .slice none 0 0] 27 (0, 0)) ∧ Below w.heap.size w w297 from ⟨TR15.out.1, TR15.out.2.1, TR15.out.2.2.1, TR15.out.2.2.2.1, hrow1, TR15.out.2.2.2.2⟩)
      clear TR15
      have TR17 := Lib.hid (show ZF w297 w.heap.size G ∧ Zz w297 (w.heap.size + 1) ∧ ZF w297 w185.heap.size (Flo.cop .sub FV G) ∧ ZF w297 w278.heap.size (Flo.cop .add FB G) ∧ w297.heap[ge1]? = some (.cells #[.int .i64 3, .int .i64 0, .float .f64 0, .string ka, .slice none 0 0, .int .i64 2, .int .i64 0, .float .f64 (Flo.cop .sub FV G), .string ⟨#[]⟩, .slice none 0 0] 27 (0, 0)) ∧ (Stay Wm289.drew.heap.size w297 w297 ∧ w297.heap.size ≤ w297.heap.size) ∧ Below w.heap.size w w297 from ⟨TR16.out.1, TR16.out.2.1, TR16.out.2.2.1, TR16.out.2.2.2.1, TR16.out.2.2.2.2.1, ⟨stay_refl _ _, Nat.le_refl _⟩, TR16.out.2.2.2.2.2⟩)
      clear TR16
      have hL1 := hy6 _ (stay_refl _ _)
      obtain ⟨b6, off6, rfl, _⟩ := hL1.2.2.2 (by omega)
      obtain ⟨g6, o6, cg6, q0, q1, q2, q3, q4, qn⟩ := ro_at (bel_step HBW.out (bel_step br TR17.out.2.2.2.2.2.2)) hL1 (i := d) (k := kd) (V := Vd) (by rw [List.length_set, List.length_map]; omega) (by rw [List.getElem_set_ne (by have := HAD.out; omega), List.getElem_map, HKDD.out]; rfl) TR17.out.2.2.2.2.1
      have HC6 := Lib.hid (And.intro q0 (And.intro q1 (And.intro q2 (And.intro q3 q4))))
      have HN6 := Lib.hid qn
      have HL6 := Lib.hid hL1
      have hzz1 : Wm289.drew.heap.size ≤ w297.heap.size := hbw297.size
      clear q0 q1 q2 q3 q4 qn hL1 hy6 hrow1
      clear hbw297
      go_wp2_with fail
      refine hK.out _ _ ?hsv296_ (fun hH => ?_)
      case hsv296_ => exact ⟨rc TR17.out.2.2.1 0, rc TR17.out.2.2.1 1, rc TR17.out.2.2.1 2, rc TR17.out.2.2.1 3, rc TR17.out.2.2.1 4, rc TR17.out.2.2.2.1 0, rc TR17.out.2.2.2.1 1, rc TR17.out.2.2.2.1 2, rc TR17.out.2.2.2.1 3, rc TR17.out.2.2.2.1 4⟩
      clear hK K
      (try simp only [Act.put, pk0, pk1, pk2])
      refine zr1 6 (by kernel_rfl) (by simp only [lk0, lk1, lk2]; rfl) (fun K hK => ?_)
      go_simp
      go_at_call 60; refine (having_R n (RO n ge1 (Rep w0 (n + 2)) ka (floT n (Flo.cop .sub FV G))) (ro_one (rep_one w0 (n + 2)) _ _) b6 off6 l c6 d kd 2 0 (Flo.cop .add FB G) _ none 0 0 ((ES.map (pairE n)).set a (pairT n ka (floT n (Flo.cop .sub FV G)))) (floT n (Flo.cop .add FB G)) g6 o6 cg6 _ HL6 (by omega) hl HC6 HN6).mono ?_; rintro e w299 ⟨p7, c7, ge2, rfl, hbw299, hge2, hrow2, hy7⟩
      have TR18 := Lib.hid (show ZF w299 w.heap.size G ∧ Zz w299 (w.heap.size + 1) ∧ ZF w299 w185.heap.size (Flo.cop .sub FV G) ∧ ZF w299 w278.heap.size (Flo.cop .add FB G) ∧ w299.heap[ge1]? = some (.cells #[.int .i64 3, .int .i64 0, .float .f64 0, .string ka, .slice none 0 0, .int .i64 2, .int .i64 0, .float .f64 (Flo.cop .sub FV G), .string ⟨#[]⟩, .slice none 0 0] 27 (0, 0)) ∧ (Stay Wm289.drew.heap.size w297 w299 ∧ w297.heap.size ≤ w299.heap.size) ∧ Below w.heap.size w w299 from ⟨row_step TR17.out.1 hbw299, row_step TR17.out.2.1 hbw299, row_step TR17.out.2.2.1 hbw299, row_step TR17.out.2.2.2.1 hbw299, row_step TR17.out.2.2.2.2.1 hbw299, ⟨stay_trans TR17.out.2.2.2.2.2.1.1 TR17.out.2.2.2.2.2.1.2 hbw299, Nat.le_trans TR17.out.2.2.2.2.2.1.2 hbw299.size⟩, bel_step TR17.out.2.2.2.2.2.2 hbw299⟩)
      clear TR17
      have TR19 := Lib.hid (show ZF w299 w.heap.size G ∧ Zz w299 (w.heap.size + 1) ∧ ZF w299 w185.heap.size (Flo.cop .sub FV G) ∧ ZF w299 w278.heap.size (Flo.cop .add FB G) ∧ w299.heap[ge1]? = some (.cells #[.int .i64 3, .int .i64 0, .float .f64 0, .string ka, .slice none 0 0, .int .i64 2, .int .i64 0, .float .f64 (Flo.cop .sub FV G), .string ⟨#[]⟩, .slice none 0 0] 27 (0, 0)) ∧ w299.heap[ge2]? = some (.cells #[.int .i64 3, .int .i64 0, .float .f64 0, .string kd, .slice none 0 0, .int .i64 2, .int .i64 0, .float .f64 (Flo.cop .add FB G), .string ⟨#[]⟩, .slice none 0 0] 27 (0, 0)) ∧ (Stay Wm289.drew.heap.size w297 w299 ∧ w297.heap.size ≤ w299.heap.size) ∧ Below w.heap.size w w299 from ⟨TR18.out.1, TR18.out.2.1, TR18.out.2.2.1, TR18.out.2.2.2.1, TR18.out.2.2.2.2.1, hrow2, TR18.out.2.2.2.2.2.1, TR18.out.2.2.2.2.2.2⟩)
      clear TR18
      have TR20 := Lib.hid (show ZF w299 w.heap.size G ∧ Zz w299 (w.heap.size + 1) ∧ ZF w299 w185.heap.size (Flo.cop .sub FV G) ∧ ZF w299 w278.heap.size (Flo.cop .add FB G) ∧ w299.heap[ge1]? = some (.cells #[.int .i64 3, .int .i64 0, .float .f64 0, .string ka, .slice none 0 0, .int .i64 2, .int .i64 0, .float .f64 (Flo.cop .sub FV G), .string ⟨#[]⟩, .slice none 0 0] 27 (0, 0)) ∧ w299.heap[ge2]? = some (.cells #[.int .i64 3, .int .i64 0, .float .f64 0, .string kd, .slice none 0 0, .int .i64 2, .int .i64 0, .float .f64 (Flo.cop .add FB G), .string ⟨#[]⟩, .slice none 0 0] 27 (0, 0)) ∧ (Stay Wm289.drew.heap.size w297 w299 ∧ w297.heap.size ≤ w299.heap.size) ∧ (Stay w297.heap.size w299 w299 ∧ w299.heap.size ≤ w299.heap.size) ∧ Below w.heap.size w w299 from ⟨TR19.out.1, TR19.out.2.1, TR19.out.2.2.1, TR19.out.2.2.2.1, TR19.out.2.2.2.2.1, TR19.out.2.2.2.2.2.1, TR19.out.2.2.2.2.2.2.1, ⟨stay_refl _ _, Nat.le_refl _⟩, TR19.out.2.2.2.2.2.2.2⟩)
      clear TR19
      have HY := Lib.hid hy7
      have hge2w := hge2
      clear hy7 hrow2 hge2
      clear hbw299
      go_wp2_with fail
      refine hK.out _ _ ?hsv298_ (fun hH => ?_)
      case hsv298_ => exact ⟨rc TR20.out.2.2.1 0, rc TR20.out.2.2.1 1, rc TR20.out.2.2.1 2, rc TR20.out.2.2.1 3, rc TR20.out.2.2.1 4, rc TR20.out.2.2.2.1 0, rc TR20.out.2.2.2.1 1, rc TR20.out.2.2.2.1 2, rc TR20.out.2.2.2.1 3, rc TR20.out.2.2.2.1 4⟩
      clear hK K
      (try simp only [Act.put, pk0, pk1, pk2])
      refine zt [8] ?_
      refine zt1 (fun _ _ d _ _ h => by cases d <;> exact h) (by simp only [lk0, lk1, lk2]; rfl) (by kernel_rfl) (by assumption) (by rfl) (fun w h => by (try dsimp only at h); go_simp; (try with_reducible rfl)) ?_; (try simp only [Act.put, pk0, pk1, pk2])
      refine zt0 ?_
      refine zr1 9 (by kernel_rfl) (by simp only [lk0, lk1, lk2]; rfl) (fun K hK => ?_)
      obtain ⟨b30, b31, b32, b33, b34, b3f, b3l⟩ := r7 TR20.out.2.1; go_simp
      have TR21 := Lib.hid (show (fun z0 : World => ZF z0 w.heap.size G ∧ ZF z0 (w.heap.size + 1) (Flo.cop .sub FV G) ∧ ZF z0 w185.heap.size (Flo.cop .sub FV G) ∧ ZF z0 w278.heap.size (Flo.cop .add FB G) ∧ z0.heap[ge1]? = some (.cells #[.int .i64 3, .int .i64 0, .float .f64 0, .string ka, .slice none 0 0, .int .i64 2, .int .i64 0, .float .f64 (Flo.cop .sub FV G), .string ⟨#[]⟩, .slice none 0 0] 27 (0, 0)) ∧ z0.heap[ge2]? = some (.cells #[.int .i64 3, .int .i64 0, .float .f64 0, .string kd, .slice none 0 0, .int .i64 2, .int .i64 0, .float .f64 (Flo.cop .add FB G), .string ⟨#[]⟩, .slice none 0 0] 27 (0, 0)) ∧ (Stay Wm289.drew.heap.size w297 z0 ∧ w297.heap.size ≤ z0.heap.size) ∧ (Stay w297.heap.size w299 z0 ∧ w299.heap.size ≤ z0.heap.size) ∧ Below w.heap.size w z0) (((((w299.setCell ⟨w.heap.size + 1, 0, none⟩ (.int .i64 2)).setCell ⟨w.heap.size + 1, 1, none⟩ (.int .i64 0)).setCell ⟨w.heap.size + 1, 2, none⟩ (.float .f64 (Flo.cop .sub FV G))).setCell ⟨w.heap.size + 1, 3, none⟩ (.string ⟨#[]⟩)).setCell ⟨w.heap.size + 1, 4, none⟩ (.slice none 0 0)) from ⟨s5o TR20.out.1 (by omega), s5r TR20.out.2.1, s5o TR20.out.2.2.1 (by omega), s5o TR20.out.2.2.2.1 (by omega), s5o TR20.out.2.2.2.2.1 (by omega), s5o TR20.out.2.2.2.2.2.1 (by omega), ⟨stay_set TR20.out.2.2.2.2.2.2.1.1 (by omega) (.int .i64 2) (.int .i64 0) (.float .f64 (Flo.cop .sub FV G)) (.string ⟨#[]⟩) (.slice none 0 0), by show _ ≤ (set5 w299 (w.heap.size + 1) 0 (.int .i64 2) (.int .i64 0) (.float .f64 (Flo.cop .sub FV G)) (.string ⟨#[]⟩) (.slice none 0 0)).heap.size; rw [set5_size]; exact TR20.out.2.2.2.2.2.2.1.2⟩, ⟨stay_set TR20.out.2.2.2.2.2.2.2.1.1 (by omega) (.int .i64 2) (.int .i64 0) (.float .f64 (Flo.cop .sub FV G)) (.string ⟨#[]⟩) (.slice none 0 0), by show _ ≤ (set5 w299 (w.heap.size + 1) 0 (.int .i64 2) (.int .i64 0) (.float .f64 (Flo.cop .sub FV G)) (.string ⟨#[]⟩) (.slice none 0 0)).heap.size; rw [set5_size]; exact TR20.out.2.2.2.2.2.2.2.1.2⟩, s5b TR20.out.2.2.2.2.2.2.2.2 (by omega)⟩)
      clear TR20
      clear b30 b31 b32 b33 b34 b3f b3l
      go_wp2_with fail
      refine hK.out _ _ ?hsv301_ (fun hH => ?_)
      case hsv301_ => exact ⟨rc TR21.out.2.2.1 0, rc TR21.out.2.2.1 1, rc TR21.out.2.2.1 2, rc TR21.out.2.2.1 3, rc TR21.out.2.2.1 4, rc TR21.out.2.2.2.1 0, rc TR21.out.2.2.2.1 1, rc TR21.out.2.2.2.1 2, rc TR21.out.2.2.2.1 3, rc TR21.out.2.2.2.1 4⟩
      clear hK K
      (try simp only [Act.put, pk0, pk1, pk2])
      refine zt [10] ?_
      refine zt1 (fun _ _ d _ _ h => by cases d <;> exact h) (by simp only [lk0, lk1, lk2]; rfl) (by kernel_rfl) (by assumption) (by rfl) (fun w h => by (try dsimp only at h); go_simp; (try with_reducible rfl)) ?_; (try simp only [Act.put, pk0, pk1, pk2])
      refine zt0 ?_
      refine wpAnyH_done (by kernel_rfl) ?_ _
      revert TR21
      generalize (((((w299.setCell ⟨w.heap.size + 1, 0, none⟩ (.int .i64 2)).setCell ⟨w.heap.size + 1, 1, none⟩ (.int .i64 0)).setCell ⟨w.heap.size + 1, 2, none⟩ (.float .f64 (Flo.cop .sub FV G))).setCell ⟨w.heap.size + 1, 3, none⟩ (.string ⟨#[]⟩)).setCell ⟨w.heap.size + 1, 4, none⟩ (.slice none 0 0)) = Wf
      intro TR21
      obtain ⟨c1_0, c1_1, c1_2, c1_3, c1_4, c1f, c1l⟩ := r7 TR21.out.2.1
      go_wp2
      refine bodyPost_ret (v := .tuple #[.slice p7 l c7, .agg #[.int .i64 2, .int .i64 0, .float .f64 (Flo.cop .sub FV G), .string ⟨#[]⟩, .slice none 0 0], .int .i64 0]) (by simp [results, Try.results34, go_sem, c1_0, c1_1, c1_2, c1_3, c1_4]) rfl ⟨p7, c7, rfl, TR21.out.2.2.2.2.2.2.2.2, fun y hby hst => ?_⟩
      have hr1 := (hst ge1 (by omega) (row_lt TR21.out.2.2.2.2.1)).trans TR21.out.2.2.2.2.1
      have hr2 := (hst ge2 (by omega) (row_lt TR21.out.2.2.2.2.2.1)).trans TR21.out.2.2.2.2.2.1
      have hY := HY.out y (fun b h1 h2 => (hst b (by omega) (Nat.lt_of_lt_of_le h2 TR21.out.2.2.2.2.2.2.2.1.2)).trans (TR21.out.2.2.2.2.2.2.2.1.1 b h1 h2))
      rw [List.map_set, List.map_set]
      exact repL_mono (ro_rep2 hby hr1 hr2 (txt_repn n _ HKS.out.1) (flo_repn n _ (Flo.cop_lt _ _ _)) (txt_repn n _ HKS.out.2) (flo_repn n _ (Flo.cop_lt _ _ _))) hY
    case mov277_ =>
      refine AllReadyH.cons (o := ?_) ?hov303_ ?hstv303_ AllReadyH.nil
      case hov303_ => (simp only [lk0, lk1, lk2]; rfl)
      intro K hK
      go_simp
      have hlt304 : w.heap.size < Wl271.heap.size := row_lt TR10.out.1
      have hlt305 : w.heap.size + 1 < Wl271.heap.size := row_lt TR10.out.2.1
      have hlt306 : w185.heap.size < Wl271.heap.size := row_lt TR10.out.2.2.1
      have hlt307 : w.heap.size ≤ Wl271.heap.size := TR10.out.2.2.2.size
      have TR11 := Lib.hid (show (fun z0 : World => ZF z0 w.heap.size G ∧ Zz z0 (w.heap.size + 1) ∧ ZF z0 w185.heap.size (Flo.cop .sub FV G) ∧ Zz z0 Wl271.heap.size ∧ Below w.heap.size w z0) (Wl271.drew.alloc (.cells #[.int .i64 0, .int .i64 0, .float .f64 0, .string ⟨#[]⟩, .slice none 0 0] 27)) from ⟨row_alloc_step TR10.out.1 _, row_alloc_step TR10.out.2.1 _, row_alloc_step TR10.out.2.2.1 _, (ra (by simp only [World.size_alloc, World.size_drew])), bel_step TR10.out.2.2.2 (bel_alloc br _)⟩)
      go_wp2_with fail
      refine hK.out _ _ ?hsv303_ (fun hH => ?_)
      case hsv303_ => exact ⟨rc TR11.out.1 0, rc TR11.out.1 1, rc TR11.out.1 2, rc TR11.out.1 3, rc TR11.out.1 4, ck TR11.out.2.2.2.2 HCd0.out, ck TR11.out.2.2.2.2 HCd1.out, ck TR11.out.2.2.2.2 HCd2.out, ck TR11.out.2.2.2.2 HCd3.out, ck TR11.out.2.2.2.2 HCd4.out⟩
      clear hK K
      (try simp only [Act.put, pk0, pk1, pk2])
      refine zr1 5 (by kernel_rfl) (by simp only [lk0, lk1, lk2]; rfl) (fun K hK => ?_)
      go_simp
      go_at_call 59; refine (more_ok n gd od cgd kd Vd G _ (rep_keep TR11.out.2.2.2.2 _ _ _ HPd.out) FB HVD.out HSU.out).mono ?_; rintro e w309 ⟨rfl, hbw309⟩
      have TR12 := Lib.hid (And.intro (row_step TR11.out.1 hbw309) (And.intro (row_step TR11.out.2.1 hbw309) (And.intro (row_step TR11.out.2.2.1 hbw309) (And.intro (row_step TR11.out.2.2.2.1 hbw309) (bel_step TR11.out.2.2.2.2 hbw309)))))
      clear TR11
      clear hbw309
      go_wp2_with fail
      refine hK.out _ _ ?hsv308_ (fun hH => ?_)
      case hsv308_ => exact ⟨rc TR12.out.1 0, rc TR12.out.1 1, rc TR12.out.1 2, rc TR12.out.1 3, rc TR12.out.1 4, ck TR12.out.2.2.2.2 HCd0.out, ck TR12.out.2.2.2.2 HCd1.out, ck TR12.out.2.2.2.2 HCd2.out, ck TR12.out.2.2.2.2 HCd3.out, ck TR12.out.2.2.2.2 HCd4.out⟩
      clear hK K
      (try simp only [Act.put, pk0, pk1, pk2])
      refine zt [6, 7, 8] ?_
      iterate 3 (refine zt1 (fun _ _ d _ _ h => by cases d <;> exact h) (by simp only [lk0, lk1, lk2]; rfl) (by kernel_rfl) (by assumption) (by rfl) (fun w h => by (try dsimp only at h); go_simp; (try with_reducible rfl)) ?_; (try simp only [Act.put, pk0, pk1, pk2]))
      refine zt0 ?_
      refine zr1 10 (by kernel_rfl) (by simp only [lk0, lk1, lk2]; rfl) (fun K hK => ?_)
      obtain ⟨b30, b31, b32, b33, b34, b3f, b3l⟩ := r7 TR12.out.2.2.2.1; go_simp
      have TR13 := Lib.hid (show (fun z0 : World => ZF z0 w.heap.size G ∧ Zz z0 (w.heap.size + 1) ∧ ZF z0 w185.heap.size (Flo.cop .sub FV G) ∧ ZF z0 Wl271.heap.size (Flo.cop .add FB G) ∧ Below w.heap.size w z0) (((((w309.setCell ⟨Wl271.heap.size, 0, none⟩ (.int .i64 2)).setCell ⟨Wl271.heap.size, 1, none⟩ (.int .i64 0)).setCell ⟨Wl271.heap.size, 2, none⟩ (.float .f64 (Flo.cop .add FB G))).setCell ⟨Wl271.heap.size, 3, none⟩ (.string ⟨#[]⟩)).setCell ⟨Wl271.heap.size, 4, none⟩ (.slice none 0 0)) from ⟨s5o TR12.out.1 (by omega), s5o TR12.out.2.1 (by omega), s5o TR12.out.2.2.1 (by omega), s5r TR12.out.2.2.2.1, s5b TR12.out.2.2.2.2 (by omega)⟩)
      clear TR12
      clear b30 b31 b32 b33 b34 b3f b3l
      go_wp2_with fail
      refine hK.out _ _ ?hsv313_ (fun hH => ?_)
      case hsv313_ => exact ⟨rc TR13.out.1 0, rc TR13.out.1 1, rc TR13.out.1 2, rc TR13.out.1 3, rc TR13.out.1 4, ck TR13.out.2.2.2.2 HCd0.out, ck TR13.out.2.2.2.2 HCd1.out, ck TR13.out.2.2.2.2 HCd2.out, ck TR13.out.2.2.2.2 HCd3.out, ck TR13.out.2.2.2.2 HCd4.out⟩
      clear hK K
      (try simp only [Act.put, pk0, pk1, pk2])
      refine zt [11] ?_
      refine zt1 (fun _ _ d _ _ h => by cases d <;> exact h) (by simp only [lk0, lk1, lk2]; rfl) (by kernel_rfl) (by assumption) (by rfl) (fun w h => by (try dsimp only at h); go_simp; (try with_reducible rfl)) ?_; (try simp only [Act.put, pk0, pk1, pk2])
      refine zt0 ?_
      refine wpAnyH_done (by kernel_rfl) ?_ _
      revert TR13
      generalize (((((w309.setCell ⟨Wl271.heap.size, 0, none⟩ (.int .i64 2)).setCell ⟨Wl271.heap.size, 1, none⟩ (.int .i64 0)).setCell ⟨Wl271.heap.size, 2, none⟩ (.float .f64 (Flo.cop .add FB G))).setCell ⟨Wl271.heap.size, 3, none⟩ (.string ⟨#[]⟩)).setCell ⟨Wl271.heap.size, 4, none⟩ (.slice none 0 0)) = Wm315
      intro TR13
      go_upto_region 16 with fail
      have hltW : w.heap.size + 1 < Wm315.heap.size := row_lt TR13.out.2.1
      have hdrW : Wm315.drew.heap.size = Wm315.heap.size := World.size_drew _
      have hleW : w.heap.size ≤ Wm315.heap.size := TR13.out.2.2.2.2.size
      have TR14 := Lib.hid (And.intro (row_step TR13.out.1 (Below.drew br)) (And.intro (row_step TR13.out.2.1 (Below.drew br)) (And.intro (row_step TR13.out.2.2.1 (Below.drew br)) (And.intro (row_step TR13.out.2.2.2.1 (Below.drew br)) (bel_step TR13.out.2.2.2.2 (Below.drew br))))))
      clear TR13
      refine wp_region_held_drew (S := (fun z => z.cell? ⟨w185.heap.size, 0, none⟩ = some (.int .i64 2) ∧ z.cell? ⟨w185.heap.size, 1, none⟩ = some (.int .i64 0) ∧ z.cell? ⟨w185.heap.size, 2, none⟩ = some (.float .f64 (Flo.cop .sub FV G)) ∧ z.cell? ⟨w185.heap.size, 3, none⟩ = some (.string ⟨#[]⟩) ∧ z.cell? ⟨w185.heap.size, 4, none⟩ = some (.slice none 0 0) ∧ z.cell? ⟨Wl271.heap.size, 0, none⟩ = some (.int .i64 2) ∧ z.cell? ⟨Wl271.heap.size, 1, none⟩ = some (.int .i64 0) ∧ z.cell? ⟨Wl271.heap.size, 2, none⟩ = some (.float .f64 (Flo.cop .add FB G)) ∧ z.cell? ⟨Wl271.heap.size, 3, none⟩ = some (.string ⟨#[]⟩) ∧ z.cell? ⟨Wl271.heap.size, 4, none⟩ = some (.slice none 0 0))) (by kernel_rfl) ?_ (fun hH => ?_)
      · exact ⟨rc TR14.out.2.2.1 0, rc TR14.out.2.2.1 1, rc TR14.out.2.2.1 2, rc TR14.out.2.2.1 3, rc TR14.out.2.2.1 4, rc TR14.out.2.2.2.1 0, rc TR14.out.2.2.2.1 1, rc TR14.out.2.2.2.1 2, rc TR14.out.2.2.2.1 3, rc TR14.out.2.2.2.1 4⟩
      refine zt [0, 1, 2, 4, 5, 7] ?_
      iterate 6 (refine zt1 (fun _ _ d _ _ h => by cases d <;> exact h) (by simp only [lk0, lk1, lk2]; rfl) (by kernel_rfl) (by assumption) (by rfl) (fun w h => by (try dsimp only at h); go_simp; (try with_reducible rfl)) ?_; (try simp only [Act.put, pk0, pk1, pk2]))
      refine zt0 ?_
      refine zr1 3 (by kernel_rfl) (by simp only [lk0, lk1, lk2]; rfl) (fun K hK => ?_)
      go_simp
      go_at_call 60; refine (having_R n (Rep w0 (n + 2)) (rep_one w0 (n + 2)) b off l c a ka 2 0 (Flo.cop .sub FV G) _ none 0 0 (ES.map (pairE n)) (floT n (Flo.cop .sub FV G)) ga oa cga _ (Lib.hid (repL_at (bel_step HBW.out TR14.out.2.2.2.2) HL.out)) (by omega) hl (Lib.hid ⟨ck TR14.out.2.2.2.2 HCa0.out, ck TR14.out.2.2.2.2 HCa1.out, ck TR14.out.2.2.2.2 HCa2.out, ck TR14.out.2.2.2.2 HCa3.out, ck TR14.out.2.2.2.2 HCa4.out⟩) (Lib.hid (name_step (pair_name HPa.out).2.2.2.2.2 TR14.out.2.2.2.2))).mono ?_; rintro e w323 ⟨p6, c6, ge1, rfl, hbw323, hge1, hrow1, hy6⟩
      have TR15 := Lib.hid (And.intro (row_step TR14.out.1 hbw323) (And.intro (row_step TR14.out.2.1 hbw323) (And.intro (row_step TR14.out.2.2.1 hbw323) (And.intro (row_step TR14.out.2.2.2.1 hbw323) (bel_step TR14.out.2.2.2.2 hbw323)))))
      clear TR14
      have TR16 := Lib.hid (show ZF w323 w.heap.size G ∧ Zz w323 (w.heap.size + 1) ∧ ZF w323 w185.heap.size (Flo.cop .sub FV G) ∧ ZF w323 Wl271.heap.size (Flo.cop .add FB G) ∧ w323.heap[ge1]? = some (.cells #[.int .i64 3, .int .i64 0, .float .f64 0, .string ka, .slice none 0 0, .int .i64 2, .int .i64 0, .float .f64 (Flo.cop .sub FV G), .string ⟨#[]⟩, .slice none 0 0] 27 (0, 0)) ∧ Below w.heap.size w w323 from ⟨TR15.out.1, TR15.out.2.1, TR15.out.2.2.1, TR15.out.2.2.2.1, hrow1, TR15.out.2.2.2.2⟩)
      clear TR15
      have TR17 := Lib.hid (show ZF w323 w.heap.size G ∧ Zz w323 (w.heap.size + 1) ∧ ZF w323 w185.heap.size (Flo.cop .sub FV G) ∧ ZF w323 Wl271.heap.size (Flo.cop .add FB G) ∧ w323.heap[ge1]? = some (.cells #[.int .i64 3, .int .i64 0, .float .f64 0, .string ka, .slice none 0 0, .int .i64 2, .int .i64 0, .float .f64 (Flo.cop .sub FV G), .string ⟨#[]⟩, .slice none 0 0] 27 (0, 0)) ∧ (Stay Wm315.drew.heap.size w323 w323 ∧ w323.heap.size ≤ w323.heap.size) ∧ Below w.heap.size w w323 from ⟨TR16.out.1, TR16.out.2.1, TR16.out.2.2.1, TR16.out.2.2.2.1, TR16.out.2.2.2.2.1, ⟨stay_refl _ _, Nat.le_refl _⟩, TR16.out.2.2.2.2.2⟩)
      clear TR16
      have hL1 := hy6 _ (stay_refl _ _)
      obtain ⟨b6, off6, rfl, _⟩ := hL1.2.2.2 (by omega)
      obtain ⟨g6, o6, cg6, q0, q1, q2, q3, q4, qn⟩ := ro_at (bel_step HBW.out (bel_step br TR17.out.2.2.2.2.2.2)) hL1 (i := d) (k := kd) (V := Vd) (by rw [List.length_set, List.length_map]; omega) (by rw [List.getElem_set_ne (by have := HAD.out; omega), List.getElem_map, HKDD.out]; rfl) TR17.out.2.2.2.2.1
      have HC6 := Lib.hid (And.intro q0 (And.intro q1 (And.intro q2 (And.intro q3 q4))))
      have HN6 := Lib.hid qn
      have HL6 := Lib.hid hL1
      have hzz1 : Wm315.drew.heap.size ≤ w323.heap.size := hbw323.size
      clear q0 q1 q2 q3 q4 qn hL1 hy6 hrow1
      clear hbw323
      go_wp2_with fail
      refine hK.out _ _ ?hsv322_ (fun hH => ?_)
      case hsv322_ => exact ⟨rc TR17.out.2.2.1 0, rc TR17.out.2.2.1 1, rc TR17.out.2.2.1 2, rc TR17.out.2.2.1 3, rc TR17.out.2.2.1 4, rc TR17.out.2.2.2.1 0, rc TR17.out.2.2.2.1 1, rc TR17.out.2.2.2.1 2, rc TR17.out.2.2.2.1 3, rc TR17.out.2.2.2.1 4⟩
      clear hK K
      (try simp only [Act.put, pk0, pk1, pk2])
      refine zr1 6 (by kernel_rfl) (by simp only [lk0, lk1, lk2]; rfl) (fun K hK => ?_)
      go_simp
      go_at_call 60; refine (having_R n (RO n ge1 (Rep w0 (n + 2)) ka (floT n (Flo.cop .sub FV G))) (ro_one (rep_one w0 (n + 2)) _ _) b6 off6 l c6 d kd 2 0 (Flo.cop .add FB G) _ none 0 0 ((ES.map (pairE n)).set a (pairT n ka (floT n (Flo.cop .sub FV G)))) (floT n (Flo.cop .add FB G)) g6 o6 cg6 _ HL6 (by omega) hl HC6 HN6).mono ?_; rintro e w325 ⟨p7, c7, ge2, rfl, hbw325, hge2, hrow2, hy7⟩
      have TR18 := Lib.hid (show ZF w325 w.heap.size G ∧ Zz w325 (w.heap.size + 1) ∧ ZF w325 w185.heap.size (Flo.cop .sub FV G) ∧ ZF w325 Wl271.heap.size (Flo.cop .add FB G) ∧ w325.heap[ge1]? = some (.cells #[.int .i64 3, .int .i64 0, .float .f64 0, .string ka, .slice none 0 0, .int .i64 2, .int .i64 0, .float .f64 (Flo.cop .sub FV G), .string ⟨#[]⟩, .slice none 0 0] 27 (0, 0)) ∧ (Stay Wm315.drew.heap.size w323 w325 ∧ w323.heap.size ≤ w325.heap.size) ∧ Below w.heap.size w w325 from ⟨row_step TR17.out.1 hbw325, row_step TR17.out.2.1 hbw325, row_step TR17.out.2.2.1 hbw325, row_step TR17.out.2.2.2.1 hbw325, row_step TR17.out.2.2.2.2.1 hbw325, ⟨stay_trans TR17.out.2.2.2.2.2.1.1 TR17.out.2.2.2.2.2.1.2 hbw325, Nat.le_trans TR17.out.2.2.2.2.2.1.2 hbw325.size⟩, bel_step TR17.out.2.2.2.2.2.2 hbw325⟩)
      clear TR17
      have TR19 := Lib.hid (show ZF w325 w.heap.size G ∧ Zz w325 (w.heap.size + 1) ∧ ZF w325 w185.heap.size (Flo.cop .sub FV G) ∧ ZF w325 Wl271.heap.size (Flo.cop .add FB G) ∧ w325.heap[ge1]? = some (.cells #[.int .i64 3, .int .i64 0, .float .f64 0, .string ka, .slice none 0 0, .int .i64 2, .int .i64 0, .float .f64 (Flo.cop .sub FV G), .string ⟨#[]⟩, .slice none 0 0] 27 (0, 0)) ∧ w325.heap[ge2]? = some (.cells #[.int .i64 3, .int .i64 0, .float .f64 0, .string kd, .slice none 0 0, .int .i64 2, .int .i64 0, .float .f64 (Flo.cop .add FB G), .string ⟨#[]⟩, .slice none 0 0] 27 (0, 0)) ∧ (Stay Wm315.drew.heap.size w323 w325 ∧ w323.heap.size ≤ w325.heap.size) ∧ Below w.heap.size w w325 from ⟨TR18.out.1, TR18.out.2.1, TR18.out.2.2.1, TR18.out.2.2.2.1, TR18.out.2.2.2.2.1, hrow2, TR18.out.2.2.2.2.2.1, TR18.out.2.2.2.2.2.2⟩)
      clear TR18
      have TR20 := Lib.hid (show ZF w325 w.heap.size G ∧ Zz w325 (w.heap.size + 1) ∧ ZF w325 w185.heap.size (Flo.cop .sub FV G) ∧ ZF w325 Wl271.heap.size (Flo.cop .add FB G) ∧ w325.heap[ge1]? = some (.cells #[.int .i64 3, .int .i64 0, .float .f64 0, .string ka, .slice none 0 0, .int .i64 2, .int .i64 0, .float .f64 (Flo.cop .sub FV G), .string ⟨#[]⟩, .slice none 0 0] 27 (0, 0)) ∧ w325.heap[ge2]? = some (.cells #[.int .i64 3, .int .i64 0, .float .f64 0, .string kd, .slice none 0 0, .int .i64 2, .int .i64 0, .float .f64 (Flo.cop .add FB G), .string ⟨#[]⟩, .slice none 0 0] 27 (0, 0)) ∧ (Stay Wm315.drew.heap.size w323 w325 ∧ w323.heap.size ≤ w325.heap.size) ∧ (Stay w323.heap.size w325 w325 ∧ w325.heap.size ≤ w325.heap.size) ∧ Below w.heap.size w w325 from ⟨TR19.out.1, TR19.out.2.1, TR19.out.2.2.1, TR19.out.2.2.2.1, TR19.out.2.2.2.2.1, TR19.out.2.2.2.2.2.1, TR19.out.2.2.2.2.2.2.1, ⟨stay_refl _ _, Nat.le_refl _⟩, TR19.out.2.2.2.2.2.2.2⟩)
      clear TR19
      have HY := Lib.hid hy7
      have hge2w := hge2
      clear hy7 hrow2 hge2
      clear hbw325
      go_wp2_with fail
      refine hK.out _ _ ?hsv324_ (fun hH => ?_)
      case hsv324_ => exact ⟨rc TR20.out.2.2.1 0, rc TR20.out.2.2.1 1, rc TR20.out.2.2.1 2, rc TR20.out.2.2.1 3, rc TR20.out.2.2.1 4, rc TR20.out.2.2.2.1 0, rc TR20.out.2.2.2.1 1, rc TR20.out.2.2.2.1 2, rc TR20.out.2.2.2.1 3, rc TR20.out.2.2.2.1 4⟩
      clear hK K
      (try simp only [Act.put, pk0, pk1, pk2])
      refine zt [8] ?_
      refine zt1 (fun _ _ d _ _ h => by cases d <;> exact h) (by simp only [lk0, lk1, lk2]; rfl) (by kernel_rfl) (by assumption) (by rfl) (fun w h => by (try dsimp only at h); go_simp; (try with_reducible rfl)) ?_; (try simp only [Act.put, pk0, pk1, pk2])
      refine zt0 ?_
      refine zr1 9 (by kernel_rfl) (by simp only [lk0, lk1, lk2]; rfl) (fun K hK => ?_)
      obtain ⟨b30, b31, b32, b33, b34, b3f, b3l⟩ := r7 TR20.out.2.1; go_simp
      have TR21 := Lib.hid (show (fun z0 : World => ZF z0 w.heap.size G ∧ ZF z0 (w.heap.size + 1) (Flo.cop .sub FV G) ∧ ZF z0 w185.heap.size (Flo.cop .sub FV G) ∧ ZF z0 Wl271.heap.size (Flo.cop .add FB G) ∧ z0.heap[ge1]? = some (.cells #[.int .i64 3, .int .i64 0, .float .f64 0, .string ka, .slice none 0 0, .int .i64 2, .int .i64 0, .float .f64 (Flo.cop .sub FV G), .string ⟨#[]⟩, .slice none 0 0] 27 (0, 0)) ∧ z0.heap[ge2]? = some (.cells #[.int .i64 3, .int .i64 0, .float .f64 0, .string kd, .slice none 0 0, .int .i64 2, .int .i64 0, .float .f64 (Flo.cop .add FB G), .string ⟨#[]⟩, .slice none 0 0] 27 (0, 0)) ∧ (Stay Wm315.drew.heap.size w323 z0 ∧ w323.heap.size ≤ z0.heap.size) ∧ (Stay w323.heap.size w325 z0 ∧ w325.heap.size ≤ z0.heap.size) ∧ Below w.heap.size w z0) (((((w325.setCell ⟨w.heap.size + 1, 0, none⟩ (.int .i64 2)).setCell ⟨w.heap.size + 1, 1, none⟩ (.int .i64 0)).setCell ⟨w.heap.size + 1, 2, none⟩ (.float .f64 (Flo.cop .sub FV G))).setCell ⟨w.heap.size + 1, 3, none⟩ (.string ⟨#[]⟩)).setCell ⟨w.heap.size + 1, 4, none⟩ (.slice none 0 0)) from ⟨s5o TR20.out.1 (by omega), s5r TR20.out.2.1, s5o TR20.out.2.2.1 (by omega), s5o TR20.out.2.2.2.1 (by omega), s5o TR20.out.2.2.2.2.1 (by omega), s5o TR20.out.2.2.2.2.2.1 (by omega), ⟨stay_set TR20.out.2.2.2.2.2.2.1.1 (by omega) (.int .i64 2) (.int .i64 0) (.float .f64 (Flo.cop .sub FV G)) (.string ⟨#[]⟩) (.slice none 0 0), by show _ ≤ (set5 w325 (w.heap.size + 1) 0 (.int .i64 2) (.int .i64 0) (.float .f64 (Flo.cop .sub FV G)) (.string ⟨#[]⟩) (.slice none 0 0)).heap.size; rw [set5_size]; exact TR20.out.2.2.2.2.2.2.1.2⟩, ⟨stay_set TR20.out.2.2.2.2.2.2.2.1.1 (by omega) (.int .i64 2) (.int .i64 0) (.float .f64 (Flo.cop .sub FV G)) (.string ⟨#[]⟩) (.slice none 0 0), by show _ ≤ (set5 w325 (w.heap.size + 1) 0 (.int .i64 2) (.int .i64 0) (.float .f64 (Flo.cop .sub FV G)) (.string ⟨#[]⟩) (.slice none 0 0)).heap.size; rw [set5_size]; exact TR20.out.2.2.2.2.2.2.2.1.2⟩, s5b TR20.out.2.2.2.2.2.2.2.2 (by omega)⟩)
      clear TR20
      clear b30 b31 b32 b33 b34 b3f b3l
      go_wp2_with fail
      refine hK.out _ _ ?hsv327_ (fun hH => ?_)
      case hsv327_ => exact ⟨rc TR21.out.2.2.1 0, rc TR21.out.2.2.1 1, rc TR21.out.2.2.1 2, rc TR21.out.2.2.1 3, rc TR21.out.2.2.1 4, rc TR21.out.2.2.2.1 0, rc TR21.out.2.2.2.1 1, rc TR21.out.2.2.2.1 2, rc TR21.out.2.2.2.1 3, rc TR21.out.2.2.2.1 4⟩
      clear hK K
      (try simp only [Act.put, pk0, pk1, pk2])
      refine zt [10] ?_
      refine zt1 (fun _ _ d _ _ h => by cases d <;> exact h) (by simp only [lk0, lk1, lk2]; rfl) (by kernel_rfl) (by assumption) (by rfl) (fun w h => by (try dsimp only at h); go_simp; (try with_reducible rfl)) ?_; (try simp only [Act.put, pk0, pk1, pk2])
      refine zt0 ?_
      refine wpAnyH_done (by kernel_rfl) ?_ _
      revert TR21
      generalize (((((w325.setCell ⟨w.heap.size + 1, 0, none⟩ (.int .i64 2)).setCell ⟨w.heap.size + 1, 1, none⟩ (.int .i64 0)).setCell ⟨w.heap.size + 1, 2, none⟩ (.float .f64 (Flo.cop .sub FV G))).setCell ⟨w.heap.size + 1, 3, none⟩ (.string ⟨#[]⟩)).setCell ⟨w.heap.size + 1, 4, none⟩ (.slice none 0 0)) = Wf
      intro TR21
      obtain ⟨c1_0, c1_1, c1_2, c1_3, c1_4, c1f, c1l⟩ := r7 TR21.out.2.1
      go_wp2
      refine bodyPost_ret (v := .tuple #[.slice p7 l c7, .agg #[.int .i64 2, .int .i64 0, .float .f64 (Flo.cop .sub FV G), .string ⟨#[]⟩, .slice none 0 0], .int .i64 0]) (by simp [results, Try.results34, go_sem, c1_0, c1_1, c1_2, c1_3, c1_4]) rfl ⟨p7, c7, rfl, TR21.out.2.2.2.2.2.2.2.2, fun y hby hst => ?_⟩
      have hr1 := (hst ge1 (by omega) (row_lt TR21.out.2.2.2.2.1)).trans TR21.out.2.2.2.2.1
      have hr2 := (hst ge2 (by omega) (row_lt TR21.out.2.2.2.2.2.1)).trans TR21.out.2.2.2.2.2.1
      have hY := HY.out y (fun b h1 h2 => (hst b (by omega) (Nat.lt_of_lt_of_le h2 TR21.out.2.2.2.2.2.2.2.1.2)).trans (TR21.out.2.2.2.2.2.2.2.1.1 b h1 h2))
      rw [List.map_set, List.map_set]
      exact repL_mono (ro_rep2 hby hr1 hr2 (txt_repn n _ HKS.out.1) (flo_repn n _ (Flo.cop_lt _ _ _)) (txt_repn n _ HKS.out.2) (flo_repn n _ (Flo.cop_lt _ _ _))) hY
end Num
end Go.Proofs.Yteodljkcbddehaa
