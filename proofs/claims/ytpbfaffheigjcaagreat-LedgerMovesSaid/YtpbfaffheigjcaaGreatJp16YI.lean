/-
  Package ledger: opened, deposit (good roads).
-/
import Derived.Test.YtpbfaffheigjcaaGreatJMI
import Derived.Test.YtpbfaffheigjcaaGreatJp15YE
import Derived.Test.YtpbfaffheigjcaaGreatJp4VTree
import Derived.Test.YtpbfaffheigjcaaGreatJp9VSurv
import Derived.Deep.RegionHeld3
import Derived.RegionTactic
import Derived.Deep.DeepCutAuto
import Derived.Test.YtpbfaffheigjcaaGreatJp13RDa
import Derived.Test.YtpbfaffheigjcaaGreatJHH
namespace Go.Proofs.YtpbfaffheigjcaaGreat
open Go.RowKit
namespace Num
open Ints
set_option linter.unusedSimpArgs false
set_option linter.unusedVariables false
def AmtOk (K I : Int) (F G : Nat) : Prop := F < 2 ^ 64 ∧ okI I ∧ finV K F = true ∧ 0 < signV K I F ∧ asF K I F = G ∧ opV 0 2 0 0 K I F = (2, 0, G, 0)
theorem amount_is {K3 I3 : Int} {F3 G : Nat} (h : AmtOk K3 I3 F3 G) (S3 : ByteArray) (q3 : Option Addr) (m3 d3 : Nat) (w : World) : Calls Tryz.prog 94 #[.agg #[.int .i64 K3, .int .i64 I3, .float .f64 F3, .string S3, .slice q3 m3 d3]] w fun e w' => e = .returned (.tuple #[.agg #[.int .i64 2, .int .i64 0, .float .f64 G, .string ⟨#[]⟩, .slice none 0 0], .int .i64 0]) ∧ Below w.heap.size w w' := by
  obtain ⟨h1, h2, h3, h4, rfl, h6⟩ := h
  exact amount_ok K3 I3 F3 S3 q3 m3 d3 w h1 h2 h3 h4 h6
theorem repL_acc {w w' : World} {n : Nat} {p : Option Addr} {l c : Nat} {L : List (VT (n + 2))} (hb : Below w.heap.size w w') (h : RepL w (Rep w (n + 2)) p l c L) : RepL w' (Rep w' (n + 2)) p l c L := repL_keep hb (fun v T hv => rep_keep hb _ _ _ hv) h
set_option maxRecDepth 100000 in
set_option maxHeartbeats 4000000 in
theorem opened_new (n : Nat) (p : Option Addr) (l c a : Nat) (k : ByteArray) (ES : List (ByteArray × VT (n + 1))) (w0 w : World) (HBW : Hid (Below w0.heap.size w0 w)) (HL : Hid (RepL w0 (Rep w0 (n + 2)) p l c (ES.map (pairE n)))) (hl : l ≤ 32) (hl2 : l < 32) (hal : a ≤ l) (hs : Spot (ES.map (·.1)) k a false) (HK : Hid (Rep w0 (n + 1) (.agg #[.int .i64 3, .int .i64 0, .float .f64 0, .string k, .slice none 0 0]) (3, 0, 0, k, []))) :
    Calls Tryz.prog 53 #[.slice p l c, .string k] w fun e w' => ∃ p' c', e = .returned (.tuple #[.slice p' (a + 1 + (l - a)) c', .int .i64 0]) ∧ Below w.heap.size w w' ∧ NewL n w0 w w' p' (a + 1 + (l - a)) c' ((ES.map (pairE n)).take a ++ ([pairT n k (floT n 0)] ++ (ES.map (pairE n)).drop a)) := by
  have TR0 := Lib.hid (Below.refl w.heap.size w)
  have HE := Lib.hid (entsL_step (ents_of HL.out (by omega)) HBW.out)
  have HS := Lib.hid hs
  have hll : ((l : Int) == 32) = false := by rw [beq_eq_false_iff_ne]; omega
  clear hs
  go_enter Tryz.func53, Tryz.ntmps53
  go_wp2_with fail
  go_at_call 88; refine (lfind_any _ _ c a (ES.map (·.1)) k false _ (entsL_step HE.out TR0.out) HS.out).mono ?_; rintro e w1 ⟨rfl, hbw1⟩
  have TR1 := Lib.hid (show Below w.heap.size w w1 from bel_step TR0.out hbw1)
  clear TR0
  clear hbw1
  go_wp2_with fail
  go_at_call 91; refine (nothing_any _).mono ?_; rintro e w2 ⟨rfl, hbw2⟩
  have TR2 := Lib.hid (show Below w.heap.size w w2 from bel_step TR1.out hbw2)
  clear TR1
  clear hbw2
  go_wp2_with fail
  have hle4 : w.heap.size ≤ w2.heap.size := TR2.out.size
  go_at_call 90; refine (account_any k 2 0 0 _ none 0 0 _).mono ?_; rintro e w3 ⟨ge, rfl, hbw3, hge, hrow⟩
  have TR3 := Lib.hid (show Below w.heap.size w w3 from bel_step TR2.out hbw3)
  clear TR2
  have TR4 := Lib.hid (show w3.heap[ge]? = some (.cells #[.int .i64 3, .int .i64 0, .float .f64 0, .string k, .slice none 0 0, .int .i64 2, .int .i64 0, .float .f64 0, .string ⟨#[]⟩, .slice none 0 0] 27 (0, 0)) ∧ Below w.heap.size w w3 from ⟨hrow, TR3.out⟩)
  clear TR3
  clear hrow
  clear hbw3
  go_wp2_with fail
  have hlt5 : ge < w3.heap.size := row_lt TR4.out.1
  have hlt6 : w.heap.size ≤ w3.heap.size := TR4.out.2.size
  have TR5 := Lib.hid (show (fun z0 : World => z0.heap[ge]? = some (.cells #[.int .i64 3, .int .i64 0, .float .f64 0, .string k, .slice none 0 0, .int .i64 2, .int .i64 0, .float .f64 0, .string ⟨#[]⟩, .slice none 0 0] 27 (0, 0)) ∧ ZL z0 w3.heap.size (some ⟨ge, 0, none⟩) 2 2 ∧ Below w.heap.size w z0) (w3.alloc (.cells #[.int .i64 4, .int .i64 0, .float .f64 0, .string ⟨#[]⟩, .slice (some ⟨ge, 0, none⟩) 2 2] 27)) from ⟨row_alloc_step TR4.out.1 _, (ra (by simp only [World.size_alloc, World.size_drew])), bel_step TR4.out.2 (bel_alloc br _)⟩)
  go_at_call 89; refine (lspliced_is (rq_one n ge k (floT n 0) w0) p l c a a (ES.map (pairE n)) (some ⟨w3.heap.size, 0, none⟩) 1 1 [pairT n k (floT n 0)] _ _ rfl (rq_old (bel_step HBW.out TR5.out.2.2) HL.out) (rq_new TR5.out.2.1) (Nat.le_refl _) hal (by omega) (by omega)).mono ?_; rintro e w7 ⟨p6, c6, rfl, hbw7, hy6⟩
  have TR6 := Lib.hid (And.intro (row_step TR5.out.1 hbw7) (And.intro (row_step TR5.out.2.1 hbw7) (bel_step TR5.out.2.2 hbw7)))
  clear TR5
  have HY := Lib.hid hy6
  clear hy6
  clear hbw7
  go_wp2
  go_ret2
  refine ⟨p6, c6, rfl, TR6.out.2.2, fun y hby hst => ?_⟩
  have hrow := TR6.out.1
  exact repL_mono (rq_rep hby ((hst ge (by omega) (row_lt hrow)).trans hrow) HK.out (flo_repn n w0 (by decide))) (HY.out y (fun b h1 h2 => hst b (by simp only [World.size_alloc] at h1; omega) h2))
set_option maxRecDepth 100000 in
set_option maxHeartbeats 4000000 in
theorem deposit_ok (n : Nat) (b off l c a : Nat) (k : ByteArray) (K3 I3 : Int) (F3 : Nat) (S3 : ByteArray) (q3 : Option Addr) (m3 d3 : Nat) (G FV : Nat) (ES : List (ByteArray × VT (n + 1))) (Va : VT (n + 1)) (w0 w : World) (HBW : Hid (Below w0.heap.size w0 w)) (HL : Hid (RepL w0 (Rep w0 (n + 2)) (some ⟨b, off, none⟩) l c (ES.map (pairE n)))) (hl : l ≤ 32) (hal : a < ES.length) (hll : ES.length = l) (hka : ES[a]'hal = (k, Va)) (hs : Spot (ES.map (·.1)) k a true) (HA : Hid (AmtOk K3 I3 F3 G))
    (hv : Va.1 = 2 ∧ Va.2.2.1 = FV) (hsu : finV 2 (Flo.cop .add FV G) = true) (HKa : Hid (Rep w0 (n + 1) (.agg #[.int .i64 3, .int .i64 0, .float .f64 0, .string k, .slice none 0 0]) (3, 0, 0, k, []))) (HVa : Hid (Rep w0 (n + 1) (.agg #[.int .i64 2, .int .i64 0, .float .f64 (Flo.cop .add FV G), .string ⟨#[]⟩, .slice none 0 0]) (floT n (Flo.cop .add FV G)))) :
    Calls Tryz.prog 55 #[.slice (some ⟨b, off, none⟩) l c, .string k, .agg #[.int .i64 K3, .int .i64 I3, .float .f64 F3, .string S3, .slice q3 m3 d3]] w fun e w' => ∃ p' c', e = .returned (.tuple #[.slice p' (a + 1 + (l - (a + 1))) c', .agg #[.int .i64 2, .int .i64 0, .float .f64 (Flo.cop .add FV G), .string ⟨#[]⟩, .slice none 0 0], .int .i64 0]) ∧ Below w.heap.size w w' ∧ NewL n w0 w w' p' (a + 1 + (l - (a + 1))) c' ((ES.map (pairE n)).take a ++ ([pairT n k (floT n (Flo.cop .add FV G))] ++ (ES.map (pairE n)).drop (a + 1))) := by
  have TR1 := Lib.hid (show (fun z0 : World => Zw z0 w.heap.size (.int .i64 K3) (.int .i64 I3) (.float .f64 F3) (.string S3) (.slice q3 m3 d3) ∧ Zz z0 (w.heap.size + 1) ∧ Below w.heap.size w z0) ((w.alloc (.cells #[.int .i64 K3, .int .i64 I3, .float .f64 F3, .string S3, .slice q3 m3 d3] 27)).alloc (.cells #[.int .i64 0, .int .i64 0, .float .f64 0, .string ⟨#[]⟩, .slice none 0 0] 27)) from ⟨row_alloc_step (row_alloc w #[.int .i64 K3, .int .i64 I3, .float .f64 F3, .string S3, .slice q3 m3 d3] 27) _, (ra (by simp only [World.size_alloc, World.size_drew])), bel_alloc (bel_alloc (Below.refl w.heap.size w) _) _⟩)
  have HE := Lib.hid (entsL_step (ents_of HL.out (by omega)) HBW.out)
  obtain ⟨ga, oa, cga, hc0, hc1, hc2, hc3, hc4, hp⟩ := acc_at (repL_acc HBW.out HL.out) (show a < ES.length from by omega)
  rw [hka] at hp
  have HCa0 := Lib.hid hc0
  have HCa1 := Lib.hid hc1
  have HCa2 := Lib.hid hc2
  have HCa3 := Lib.hid hc3
  have HCa4 := Lib.hid hc4
  have HPa := Lib.hid hp
  have hba := cell_lt hc0
  have ha1 : (0 : Int) ≤ (a : Int) := by omega
  have ha2 : (a : Int) < (l : Int) := by omega
  clear hc0 hc1 hc2 hc3 hc4 hp
  have HS := Lib.hid hs
  have HVV := Lib.hid hv
  have HSU := Lib.hid hsu
  clear hs hv hsu hka
  go_enter Tryz.func55, Tryz.ntmps55
  go_wp2_with fail
  go_at_call 94; refine (amount_is HA.out S3 q3 m3 d3 _).mono ?_; rintro e w8 ⟨rfl, hbw8⟩
  have TR2 := Lib.hid (And.intro (row_step TR1.out.1 hbw8) (And.intro (row_step TR1.out.2.1 hbw8) (bel_step TR1.out.2.2 hbw8)))
  clear TR1
  clear hbw8
  obtain ⟨c0_0, c0_1, c0_2, c0_3, c0_4, c0f, c0l⟩ := r7 TR2.out.1
  go_wp2_with fail
  have TR3 := Lib.hid (show (fun z0 : World => ZF z0 w.heap.size G ∧ Zz z0 (w.heap.size + 1) ∧ Below w.heap.size w z0) (((((w8.setCell ⟨w.heap.size, 0, none⟩ (.int .i64 2)).setCell ⟨w.heap.size, 1, none⟩ (.int .i64 0)).setCell ⟨w.heap.size, 2, none⟩ (.float .f64 G)).setCell ⟨w.heap.size, 3, none⟩ (.string ⟨#[]⟩)).setCell ⟨w.heap.size, 4, none⟩ (.slice none 0 0)) from ⟨s5r TR2.out.1, s5o TR2.out.2.1 (by omega), s5b TR2.out.2.2 (by omega)⟩)
  clear TR2
  clear c0_0 c0_1 c0_2 c0_3 c0_4 c0f c0l
  go_at_call 88; refine (lfind_any _ _ c a (ES.map (·.1)) k true _ (entsL_step HE.out TR3.out.2.2) HS.out).mono ?_; rintro e w9 ⟨rfl, hbw9⟩
  have TR4 := Lib.hid (And.intro (row_step TR3.out.1 hbw9) (And.intro (row_step TR3.out.2.1 hbw9) (bel_step TR3.out.2.2 hbw9)))
  clear TR3
  clear hbw9
  go_upto_region 7 with fail
  have TR5 := Lib.hid (And.intro (row_step TR4.out.1 (Below.drew br)) (And.intro (row_step TR4.out.2.1 (Below.drew br)) (bel_step TR4.out.2.2 (Below.drew br))))
  clear TR4
  refine wp_region_held_drew (S := (fun z => z.cell? ⟨w.heap.size, 0, none⟩ = some (.int .i64 2) ∧ z.cell? ⟨w.heap.size, 1, none⟩ = some (.int .i64 0) ∧ z.cell? ⟨w.heap.size, 2, none⟩ = some (.float .f64 G) ∧ z.cell? ⟨w.heap.size, 3, none⟩ = some (.string ⟨#[]⟩) ∧ z.cell? ⟨w.heap.size, 4, none⟩ = some (.slice none 0 0) ∧ z.cell? ⟨b, off + a * 5, none⟩ = some (.int .i64 4) ∧ z.cell? ⟨b, off + a * 5 + 1, none⟩ = some (.int .i64 0) ∧ z.cell? ⟨b, off + a * 5 + 2, none⟩ = some (.float .f64 0) ∧ z.cell? ⟨b, off + a * 5 + 3, none⟩ = some (.string ⟨#[]⟩) ∧ z.cell? ⟨b, off + a * 5 + 4, none⟩ = some (.slice (some ⟨ga, oa, none⟩) 2 cga))) (by kernel_rfl) ?_ (fun hH => ?_)
  · exact ⟨rc TR5.out.1 0, rc TR5.out.1 1, rc TR5.out.1 2, rc TR5.out.1 3, rc TR5.out.1 4, ck TR5.out.2.2 HCa0.out, ck TR5.out.2.2 HCa1.out, ck TR5.out.2.2 HCa2.out, ck TR5.out.2.2 HCa3.out, ck TR5.out.2.2 HCa4.out⟩
  refine zt [0, 1, 2, 3, 4] ?_
  iterate 5 (refine zt1 (fun _ _ d _ _ h => by cases d <;> exact h) (by simp only [lk0, lk1, lk2]; rfl) (by kernel_rfl) (by assumption) (by rfl) (fun w h => by (try dsimp only at h); go_simp; (try with_reducible rfl)) ?_; (try simp only [Act.put, pk0, pk1, pk2]))
  refine zt0 ?_
  refine zr1 5 (by kernel_rfl) (by simp only [lk0, lk1, lk2]; rfl) (fun K hK => ?_)
  go_simp
  go_at_call 95; refine (more_ok n ga oa cga k Va G _ (rep_keep TR5.out.2.2 _ _ _ HPa.out) FV HVV.out HSU.out).mono ?_; rintro e w16 ⟨rfl, hbw16⟩
  have TR6 := Lib.hid (And.intro (row_step TR5.out.1 hbw16) (And.intro (row_step TR5.out.2.1 hbw16) (bel_step TR5.out.2.2 hbw16)))
  clear TR5
  clear hbw16
  go_wp2_with fail
  refine hK.out _ _ ?hsv15_ (fun hH => ?_)
  case hsv15_ => exact ⟨rc TR6.out.1 0, rc TR6.out.1 1, rc TR6.out.1 2, rc TR6.out.1 3, rc TR6.out.1 4, ck TR6.out.2.2 HCa0.out, ck TR6.out.2.2 HCa1.out, ck TR6.out.2.2 HCa2.out, ck TR6.out.2.2 HCa3.out, ck TR6.out.2.2 HCa4.out⟩
  clear hK K
  (try simp only [Act.put, pk0, pk1, pk2])
  refine zt [6, 7, 8] ?_
  iterate 3 (refine zt1 (fun _ _ d _ _ h => by cases d <;> exact h) (by simp only [lk0, lk1, lk2]; rfl) (by kernel_rfl) (by assumption) (by rfl) (fun w h => by (try dsimp only at h); go_simp; (try with_reducible rfl)) ?_; (try simp only [Act.put, pk0, pk1, pk2]))
  refine zt0 ?_
  refine zr1 9 (by kernel_rfl) (by simp only [lk0, lk1, lk2]; rfl) (fun K hK => ?_)
  obtain ⟨b30, b31, b32, b33, b34, b3f, b3l⟩ := r7 TR6.out.2.1; go_simp
  have TR7 := Lib.hid (show (fun z0 : World => ZF z0 w.heap.size G ∧ ZF z0 (w.heap.size + 1) (Flo.cop .add FV G) ∧ Below w.heap.size w z0) (((((w16.setCell ⟨w.heap.size + 1, 0, none⟩ (.int .i64 2)).setCell ⟨w.heap.size + 1, 1, none⟩ (.int .i64 0)).setCell ⟨w.heap.size + 1, 2, none⟩ (.float .f64 (Flo.cop .add FV G))).setCell ⟨w.heap.size + 1, 3, none⟩ (.string ⟨#[]⟩)).setCell ⟨w.heap.size + 1, 4, none⟩ (.slice none 0 0)) from ⟨s5o TR6.out.1 (by omega), s5r TR6.out.2.1, s5b TR6.out.2.2 (by omega)⟩)
  clear TR6
  clear b30 b31 b32 b33 b34 b3f b3l
  go_wp2_with fail
  refine hK.out _ _ ?hsv20_ (fun hH => ?_)
  case hsv20_ => exact ⟨rc TR7.out.1 0, rc TR7.out.1 1, rc TR7.out.1 2, rc TR7.out.1 3, rc TR7.out.1 4, ck TR7.out.2.2 HCa0.out, ck TR7.out.2.2 HCa1.out, ck TR7.out.2.2 HCa2.out, ck TR7.out.2.2 HCa3.out, ck TR7.out.2.2 HCa4.out⟩
  clear hK K
  (try simp only [Act.put, pk0, pk1, pk2])
  refine zt [10] ?_
  refine zt1 (fun _ _ d _ _ h => by cases d <;> exact h) (by simp only [lk0, lk1, lk2]; rfl) (by kernel_rfl) (by assumption) (by rfl) (fun w h => by (try dsimp only at h); go_simp; (try with_reducible rfl)) ?_; (try simp only [Act.put, pk0, pk1, pk2])
  refine zt0 ?_
  refine wpAnyH_done (by kernel_rfl) ?_ _
  revert TR7
  generalize (((((w16.setCell ⟨w.heap.size + 1, 0, none⟩ (.int .i64 2)).setCell ⟨w.heap.size + 1, 1, none⟩ (.int .i64 0)).setCell ⟨w.heap.size + 1, 2, none⟩ (.float .f64 (Flo.cop .add FV G))).setCell ⟨w.heap.size + 1, 3, none⟩ (.string ⟨#[]⟩)).setCell ⟨w.heap.size + 1, 4, none⟩ (.slice none 0 0)) = Wm
  intro TR7
  go_upto_region 10 with fail
  have hltW : w.heap.size + 1 < Wm.drew.heap.size := row_lt TR7.out.2.1
  have TR8 := Lib.hid (And.intro (row_step TR7.out.1 (Below.drew br)) (And.intro (row_step TR7.out.2.1 (Below.drew br)) (bel_step TR7.out.2.2 (Below.drew br))))
  clear TR7
  refine wp_region_held_drew (S := (fun z => z.cell? ⟨w.heap.size + 1, 0, none⟩ = some (.int .i64 2) ∧ z.cell? ⟨w.heap.size + 1, 1, none⟩ = some (.int .i64 0) ∧ z.cell? ⟨w.heap.size + 1, 2, none⟩ = some (.float .f64 (Flo.cop .add FV G)) ∧ z.cell? ⟨w.heap.size + 1, 3, none⟩ = some (.string ⟨#[]⟩) ∧ z.cell? ⟨w.heap.size + 1, 4, none⟩ = some (.slice none 0 0))) (by kernel_rfl) ?_ (fun hH => ?_)
  · exact ⟨rc TR8.out.2.1 0, rc TR8.out.2.1 1, rc TR8.out.2.1 2, rc TR8.out.2.1 3, rc TR8.out.2.1 4⟩
  refine zt [0, 1, 2, 4] ?_
  iterate 4 (refine zt1 (fun _ _ d _ _ h => by cases d <;> exact h) (by simp only [lk0, lk1, lk2]; rfl) (by kernel_rfl) (by assumption) (by rfl) (fun w h => by (try dsimp only at h); go_simp; (try with_reducible rfl)) ?_; (try simp only [Act.put, pk0, pk1, pk2]))
  refine zt0 ?_
  refine zr1 3 (by kernel_rfl) (by simp only [lk0, lk1, lk2]; rfl) (fun K hK => ?_)
  go_simp
  go_at_call 96; refine (having_any n b off l c a k 2 0 (Flo.cop .add FV G) _ none 0 0 (ES.map (pairE n)) (floT n (Flo.cop .add FV G)) ga oa cga Va w0 _ (Lib.hid (bel_step HBW.out TR8.out.2.2)) HL (by omega) hl (Lib.hid ⟨ck TR8.out.2.2 HCa0.out, ck TR8.out.2.2 HCa1.out, ck TR8.out.2.2 HCa2.out, ck TR8.out.2.2 HCa3.out, ck TR8.out.2.2 HCa4.out⟩) (Lib.hid (rep_keep TR8.out.2.2 _ _ _ HPa.out)) HKa HVa).mono ?_; rintro e w28 ⟨p6, c6, rfl, hbw28, hy6⟩
  have TR9 := Lib.hid (And.intro (row_step TR8.out.1 hbw28) (And.intro (row_step TR8.out.2.1 hbw28) (bel_step TR8.out.2.2 hbw28)))
  clear TR8
  have TR10 := Lib.hid (show ZF w28 w.heap.size G ∧ ZF w28 (w.heap.size + 1) (Flo.cop .add FV G) ∧ (Stay Wm.drew.heap.size w28 w28 ∧ w28.heap.size ≤ w28.heap.size) ∧ Below w.heap.size w w28 from ⟨TR9.out.1, TR9.out.2.1, ⟨stay_refl _ _, Nat.le_refl _⟩, TR9.out.2.2⟩)
  clear TR9
  have HY := Lib.hid hy6
  clear hy6
  clear hbw28
  go_wp2_with fail
  refine hK.out _ _ ?hsv26_ (fun hH => ?_)
  case hsv26_ => exact ⟨rc TR10.out.2.1 0, rc TR10.out.2.1 1, rc TR10.out.2.1 2, rc TR10.out.2.1 3, rc TR10.out.2.1 4⟩
  clear hK K
  (try simp only [Act.put, pk0, pk1, pk2])
  refine zt [5] ?_
  refine zt1 (fun _ _ d _ _ h => by cases d <;> exact h) (by simp only [lk0, lk1, lk2]; rfl) (by kernel_rfl) (by assumption) (by rfl) (fun w h => by (try dsimp only at h); go_simp; (try with_reducible rfl)) ?_; (try simp only [Act.put, pk0, pk1, pk2])
  refine zt0 ?_
  refine zr1 6 (by kernel_rfl) (by simp only [lk0, lk1, lk2]; rfl) (fun K hK => ?_)
  obtain ⟨b30, b31, b32, b33, b34, b3f, b3l⟩ := r7 TR10.out.2.1; go_simp
  have TR11 := Lib.hid (show (fun z0 : World => ZF z0 w.heap.size G ∧ ZF z0 (w.heap.size + 1) (Flo.cop .add FV G) ∧ (Stay Wm.drew.heap.size w28 z0 ∧ w28.heap.size ≤ z0.heap.size) ∧ Below w.heap.size w z0) (((((w28.setCell ⟨w.heap.size + 1, 0, none⟩ (.int .i64 2)).setCell ⟨w.heap.size + 1, 1, none⟩ (.int .i64 0)).setCell ⟨w.heap.size + 1, 2, none⟩ (.float .f64 (Flo.cop .add FV G))).setCell ⟨w.heap.size + 1, 3, none⟩ (.string ⟨#[]⟩)).setCell ⟨w.heap.size + 1, 4, none⟩ (.slice none 0 0)) from ⟨s5o TR10.out.1 (by omega), s5r TR10.out.2.1, ⟨stay_set TR10.out.2.2.1.1 (by omega) (.int .i64 2) (.int .i64 0) (.float .f64 (Flo.cop .add FV G)) (.string ⟨#[]⟩) (.slice none 0 0), by show _ ≤ (set5 w28 (w.heap.size + 1) 0 (.int .i64 2) (.int .i64 0) (.float .f64 (Flo.cop .add FV G)) (.string ⟨#[]⟩) (.slice none 0 0)).heap.size; rw [set5_size]; exact TR10.out.2.2.1.2⟩, s5b TR10.out.2.2.2 (by omega)⟩)
  clear TR10
  clear b30 b31 b32 b33 b34 b3f b3l
  go_wp2_with fail
  refine hK.out _ _ ?hsv30_ (fun hH => ?_)
  case hsv30_ => exact ⟨rc TR11.out.2.1 0, rc TR11.out.2.1 1, rc TR11.out.2.1 2, rc TR11.out.2.1 3, rc TR11.out.2.1 4⟩
  clear hK K
  (try simp only [Act.put, pk0, pk1, pk2])
  refine zt [7] ?_
  refine zt1 (fun _ _ d _ _ h => by cases d <;> exact h) (by simp only [lk0, lk1, lk2]; rfl) (by kernel_rfl) (by assumption) (by rfl) (fun w h => by (try dsimp only at h); go_simp; (try with_reducible rfl)) ?_; (try simp only [Act.put, pk0, pk1, pk2])
  refine zt0 ?_
  refine wpAnyH_done (by kernel_rfl) ?_ _
  revert TR11
  generalize (((((w28.setCell ⟨w.heap.size + 1, 0, none⟩ (.int .i64 2)).setCell ⟨w.heap.size + 1, 1, none⟩ (.int .i64 0)).setCell ⟨w.heap.size + 1, 2, none⟩ (.float .f64 (Flo.cop .add FV G))).setCell ⟨w.heap.size + 1, 3, none⟩ (.string ⟨#[]⟩)).setCell ⟨w.heap.size + 1, 4, none⟩ (.slice none 0 0)) = Wf
  intro TR11
  obtain ⟨c1_0, c1_1, c1_2, c1_3, c1_4, c1f, c1l⟩ := r7 TR11.out.2.1
  go_wp2
  refine bodyPost_ret (v := .tuple #[.slice p6 (a + 1 + (l - (a + 1))) c6, .agg #[.int .i64 2, .int .i64 0, .float .f64 (Flo.cop .add FV G), .string ⟨#[]⟩, .slice none 0 0], .int .i64 0]) (by simp [results, Tryz.results55, go_sem, c1_0, c1_1, c1_2, c1_3, c1_4]) rfl ⟨p6, c6, rfl, TR11.out.2.2.2, fun y hby hst => ?_⟩
  exact HY.out y hby (fun b h1 h2 => (hst b (by omega) (Nat.lt_of_lt_of_le h2 TR11.out.2.2.1.2)).trans (TR11.out.2.2.1.1 b h1 h2))
end Num
end Go.Proofs.YtpbfaffheigjcaaGreat
/-
  Package ledger: having over any relation.
-/
namespace Go.Proofs.YtpbfaffheigjcaaGreat
open Go.RowKit
namespace Num
open Ints
set_option linter.unusedSimpArgs false
set_option linter.unusedVariables false
def RO (n ge : Nat) (R : Value → VT (n + 2) → Prop) (k : ByteArray) (V : VT (n + 1)) : Value → VT (n + 2) → Prop := fun v T => R v T ∨ (v = .agg #[.int .i64 4, .int .i64 0, .float .f64 0, .string ⟨#[]⟩, .slice (some ⟨ge, 0, none⟩) 2 2] ∧ T = pairT n k V)
theorem ro_one {n ge : Nat} {R : Value → VT (n + 2) → Prop} (hR : One5 R) (k : ByteArray) (V : VT (n + 1)) : One5 (RO n ge R k V) := by
  intro u0 u1 u2 u3 u4 T h
  rcases h with h | ⟨h, _⟩
  · exact hR _ _ _ _ _ _ h
  · injection h with h
    simp only [Array.mk.injEq, List.cons.injEq, and_true] at h
    obtain ⟨rfl, rfl, rfl, rfl, rfl⟩ := h
    exact ⟨rfl, rfl, rfl, rfl, rfl⟩
theorem ro_old {n ge : Nat} {R : Value → VT (n + 2) → Prop} {k : ByteArray} {V : VT (n + 1)} {w x : World} {p : Option Addr} {l c : Nat} {L : List (VT (n + 2))} (hb : Below w.heap.size w x) (h : RepL w R p l c L) : RepL x (RO n ge R k V) p l c L := repL_keep hb (fun _ _ h => Or.inl h) h
theorem ro_new {n ge g : Nat} {R : Value → VT (n + 2) → Prop} {k : ByteArray} {V : VT (n + 1)} {x : World} (h : x.heap[g]? = some (.cells #[.int .i64 4, .int .i64 0, .float .f64 0, .string ⟨#[]⟩, .slice (some ⟨ge, 0, none⟩) 2 2] 27 (0, 0))) : RepL x (RO n ge R k V) (some ⟨g, 0, none⟩) 1 1 [pairT n k V] := row1_rep h (Or.inr ⟨rfl, rfl⟩)
theorem set_at {α : Type} (L : List α) (i : Nat) (x : α) (h : i < L.length) : L.take i ++ ([x] ++ L.drop (i + 1)) = L.set i x := by
  rw [List.set_eq_take_append_cons_drop, if_pos h]; rfl
theorem ro_at {w0 w : World} {n ge b off l c i : Nat} {k0 : ByteArray} {V0 : VT (n + 1)} {K0 I0 : Int} {F0 : Nat} {S0 : ByteArray} {q0 : Option Addr} {m0 d0 : Nat} {L : List (VT (n + 2))} {k : ByteArray} {V : VT (n + 1)} (hb : Below w0.heap.size w0 w) (h : RepL w (RO n ge (Rep w0 (n + 2)) k0 V0) (some ⟨b, off, none⟩) l c L) (hi : i < L.length) (he : L[i] = pairT n k V)
    (hrow : w.heap[ge]? = some (.cells #[.int .i64 3, .int .i64 0, .float .f64 0, .string k0, .slice none 0 0, .int .i64 K0, .int .i64 I0, .float .f64 F0, .string S0, .slice q0 m0 d0] 27 (0, 0))) : ∃ g o cg, w.cell? ⟨b, off + i * 5, none⟩ = some (.int .i64 4) ∧ w.cell? ⟨b, off + i * 5 + 1, none⟩ = some (.int .i64 0) ∧ w.cell? ⟨b, off + i * 5 + 2, none⟩ = some (.float .f64 0) ∧ w.cell? ⟨b, off + i * 5 + 3, none⟩ = some (.string ⟨#[]⟩) ∧ w.cell? ⟨b, off + i * 5 + 4, none⟩ = some (.slice (some ⟨g, o, none⟩) 2 cg) ∧
    NameAt w (some ⟨g, o, none⟩) k := by
  obtain ⟨h1, h2, h3, h4⟩ := h
  obtain ⟨b', off', e, h5⟩ := h4 (by omega)
  injection e with e
  injection e with e1 e2
  subst e1 e2
  obtain ⟨v0, v1, v2, v3, v4, c0, c1, c2, c3, c4, hr⟩ := h5 i hi
  rw [he] at hr
  rcases hr with hr | ⟨hr, ht⟩
  · obtain ⟨g, o, cg, rfl, rfl, rfl, rfl, rfl⟩ := pair_shape hr
    exact ⟨g, o, cg, c0, c1, c2, c3, c4, name_step (pair_name hr).2.2.2.2.2 hb⟩
  · injection hr with hr
    simp only [Array.mk.injEq, List.cons.injEq, and_true] at hr
    obtain ⟨rfl, rfl, rfl, rfl, rfl⟩ := hr
    unfold pairT at ht
    simp only [Prod.mk.injEq, List.cons.injEq, true_and, and_true] at ht
    obtain ⟨rfl, _⟩ := ht
    exact ⟨ge, 0, 2, c0, c1, c2, c3, c4, ge, 0, rfl, rc hrow 3⟩
theorem amount_bad {K3 I3 : Int} {F3 : Nat} (hF : F3 < 2 ^ 64) (h : finV K3 F3 = false ∨ signV K3 I3 F3 ≤ 0) (S3 : ByteArray) (q3 : Option Addr) (m3 d3 : Nat) (w : World) : Calls Tryz.prog 94 #[.agg #[.int .i64 K3, .int .i64 I3, .float .f64 F3, .string S3, .slice q3 m3 d3]] w fun e w' => e = .returned (.tuple #[.agg #[.int .i64 0, .int .i64 0, .float .f64 0, .string ⟨#[]⟩, .slice none 0 0], .int .i64 35]) ∧ Below w.heap.size w w' := by
  cases hf : finV K3 F3
  · exact amount_nofin K3 I3 F3 S3 q3 m3 d3 w hF hf
  · refine amount_nosign K3 I3 F3 S3 q3 m3 d3 w hF hf (h.resolve_left (by rw [hf]; decide))
theorem ro_rep2 {n ge1 ge2 : Nat} {k1 k2 : ByteArray} {V1 V2 : VT (n + 1)} {w0 y : World} {u0 u1 u2 u3 u4 v0 v1 v2 v3 v4 x0 x1 x2 x3 x4 z0 z1 z2 z3 z4 : Value} (hb : Below w0.heap.size w0 y)
    (h1 : y.heap[ge1]? = some (.cells #[u0, u1, u2, u3, u4, v0, v1, v2, v3, v4] 27 (0, 0))) (h2 : y.heap[ge2]? = some (.cells #[x0, x1, x2, x3, x4, z0, z1, z2, z3, z4] 27 (0, 0)))
    (hk1 : Rep y (n + 1) (.agg #[u0, u1, u2, u3, u4]) (3, 0, 0, k1, [])) (hv1 : Rep y (n + 1) (.agg #[v0, v1, v2, v3, v4]) V1) (hk2 : Rep y (n + 1) (.agg #[x0, x1, x2, x3, x4]) (3, 0, 0, k2, [])) (hv2 : Rep y (n + 1) (.agg #[z0, z1, z2, z3, z4]) V2) :
    ∀ v T, RO n ge2 (RO n ge1 (Rep w0 (n + 2)) k1 V1) k2 V2 v T → Rep y (n + 2) v T := by
  rintro v T ((h | ⟨rfl, rfl⟩) | ⟨rfl, rfl⟩)
  · exact rep_keep hb _ _ _ h
  · exact list_rep (row2_rep h1 hk1 hv1)
  · exact list_rep (row2_rep h2 hk2 hv2)
set_option maxRecDepth 100000 in
set_option maxHeartbeats 4000000 in
theorem having_R (n : Nat) (R : Value → VT (n + 2) → Prop) (hR : One5 R) (b off l c i : Nat) (k : ByteArray) (K3 I3 : Int) (F3 : Nat) (S3 : ByteArray) (q3 : Option Addr) (m3 d3 : Nat) (L : List (VT (n + 2))) (V : VT (n + 1)) (g o cg : Nat) (w : World) (HL : Hid (RepL w R (some ⟨b, off, none⟩) l c L)) (hi : i < l) (hl : l ≤ 32)
    (HC : Hid (w.cell? ⟨b, off + i * 5, none⟩ = some (.int .i64 4) ∧ w.cell? ⟨b, off + i * 5 + 1, none⟩ = some (.int .i64 0) ∧ w.cell? ⟨b, off + i * 5 + 2, none⟩ = some (.float .f64 0) ∧ w.cell? ⟨b, off + i * 5 + 3, none⟩ = some (.string ⟨#[]⟩) ∧ w.cell? ⟨b, off + i * 5 + 4, none⟩ = some (.slice (some ⟨g, o, none⟩) 2 cg)))
    (HNM : Hid (NameAt w (some ⟨g, o, none⟩) k)) :
    Calls Tryz.prog 96 #[.slice (some ⟨b, off, none⟩) l c, .int .i64 i, .agg #[.int .i64 K3, .int .i64 I3, .float .f64 F3, .string S3, .slice q3 m3 d3]] w fun e w' => ∃ p' c' ge, e = .returned (.slice p' l c') ∧ Below w.heap.size w w' ∧ w.heap.size ≤ ge ∧ w'.heap[ge]? = some (.cells #[.int .i64 3, .int .i64 0, .float .f64 0, .string k, .slice none 0 0, .int .i64 K3, .int .i64 I3, .float .f64 F3, .string S3, .slice q3 m3 d3] 27 (0, 0)) ∧ ∀ y, Stay w.heap.size w' y → RepL y (RO n ge R k V) p' l c' (L.set i (pairT n k V)) := by
  have TR1 := Lib.hid (show (fun z0 : World => Zw z0 w.heap.size (.int .i64 K3) (.int .i64 I3) (.float .f64 F3) (.string S3) (.slice q3 m3 d3) ∧ Below w.heap.size w z0) (w.alloc (.cells #[.int .i64 K3, .int .i64 I3, .float .f64 F3, .string S3, .slice q3 m3 d3] 27)) from ⟨row_alloc w #[.int .i64 K3, .int .i64 I3, .float .f64 F3, .string S3, .slice q3 m3 d3] 27, bel_alloc (Below.refl w.heap.size w) _⟩)
  have hb := cell_lt HC.out.1
  obtain ⟨hc0, hc1, hc2, hc3, hc4⟩ := HC.out
  have HC0 := Lib.hid hc0
  have HC1 := Lib.hid hc1
  have HC2 := Lib.hid hc2
  have HC3 := Lib.hid hc3
  have HC4 := Lib.hid hc4
  have hlc : l ≤ c := HL.out.2.1
  have HLN := Lib.hid HL.out.1
  have hi1 : (0 : Int) ≤ (i : Int) := by omega
  have hi2 : (i : Int) < (l : Int) := by omega
  have hwi : IntKind.i64.wrap ((i : Int) + 1) = (i : Int) + 1 := by rw [IntKind.wrap_i64]; omega
  clear hc0 hc1 hc2 hc3 hc4 HC
  go_enter Tryz.func96, Tryz.ntmps96
  go_upto_region 1 with fail
  have TR2 := Lib.hid (And.intro (row_step TR1.out.1 (Below.drew br)) (bel_step TR1.out.2 (Below.drew br)))
  clear TR1
  refine wp_region_held_drew (S := (fun z => z.cell? ⟨w.heap.size, 0, none⟩ = some (.int .i64 K3) ∧ z.cell? ⟨w.heap.size, 1, none⟩ = some (.int .i64 I3) ∧ z.cell? ⟨w.heap.size, 2, none⟩ = some (.float .f64 F3) ∧ z.cell? ⟨w.heap.size, 3, none⟩ = some (.string S3) ∧ z.cell? ⟨w.heap.size, 4, none⟩ = some (.slice q3 m3 d3) ∧ z.cell? ⟨b, off + i * 5, none⟩ = some (.int .i64 4) ∧ z.cell? ⟨b, off + i * 5 + 1, none⟩ = some (.int .i64 0) ∧ z.cell? ⟨b, off + i * 5 + 2, none⟩ = some (.float .f64 0) ∧ z.cell? ⟨b, off + i * 5 + 3, none⟩ = some (.string ⟨#[]⟩) ∧ z.cell? ⟨b, off + i * 5 + 4, none⟩ = some (.slice (some ⟨g, o, none⟩) 2 cg))) (by kernel_rfl) ?_ (fun hH => ?_)
  · exact ⟨rc TR2.out.1 0, rc TR2.out.1 1, rc TR2.out.1 2, rc TR2.out.1 3, rc TR2.out.1 4, ck TR2.out.2 HC0.out, ck TR2.out.2 HC1.out, ck TR2.out.2 HC2.out, ck TR2.out.2 HC3.out, ck TR2.out.2 HC4.out⟩
  refine zt [0, 1, 2, 3, 4, 5, 6, 7, 9] ?_
  iterate 9 (refine zt1 (fun _ _ d _ _ h => by cases d <;> exact h) (by simp only [lk0, lk1, lk2]; rfl) (by kernel_rfl) (by assumption) (by rfl) (fun w h => by (try dsimp only at h); go_simp; (try with_reducible rfl)) ?_; (try simp only [Act.put, pk0, pk1, pk2]))
  refine zt0 ?_
  refine zr1 8 (by kernel_rfl) (by simp only [lk0, lk1, lk2]; rfl) (fun K hK => ?_)
  go_simp
  go_at_call 40; refine (nameOf_any _ _ _ _ _ _ _ k _ (by omega) (name_step HNM.out TR2.out.2)).mono ?_; rintro e w11 ⟨rfl, hbw11⟩
  have TR3 := Lib.hid (And.intro (row_step TR2.out.1 hbw11) (bel_step TR2.out.2 hbw11))
  clear TR2
  clear hbw11
  go_wp2_with fail
  refine hK.out _ _ ?hsv10_ (fun hH => ?_)
  case hsv10_ => exact ⟨rc TR3.out.1 0, rc TR3.out.1 1, rc TR3.out.1 2, rc TR3.out.1 3, rc TR3.out.1 4, ck TR3.out.2 HC0.out, ck TR3.out.2 HC1.out, ck TR3.out.2 HC2.out, ck TR3.out.2 HC3.out, ck TR3.out.2 HC4.out⟩
  clear hK K
  (try simp only [Act.put, pk0, pk1, pk2])
  refine zr1 10 (by kernel_rfl) (by simp only [lk0, lk1, lk2]; rfl) (fun K hK => ?_)
  go_simp
  have hle14 : w.heap.size ≤ w11.heap.size := TR3.out.2.size
  go_at_call 90; refine (account_any k K3 I3 F3 S3 q3 m3 d3 _).mono ?_; rintro e w13 ⟨ge, rfl, hbw13, hge, hrow⟩
  have TR4 := Lib.hid (And.intro (row_step TR3.out.1 hbw13) (bel_step TR3.out.2 hbw13))
  clear TR3
  have TR5 := Lib.hid (show Zw w13 w.heap.size (.int .i64 K3) (.int .i64 I3) (.float .f64 F3) (.string S3) (.slice q3 m3 d3) ∧ w13.heap[ge]? = some (.cells #[.int .i64 3, .int .i64 0, .float .f64 0, .string k, .slice none 0 0, .int .i64 K3, .int .i64 I3, .float .f64 F3, .string S3, .slice q3 m3 d3] 27 (0, 0)) ∧ Below w.heap.size w w13 from ⟨TR4.out.1, hrow, TR4.out.2⟩)
  clear TR4
  clear hrow
  clear hbw13
  go_wp2_with fail
  refine hK.out _ _ ?hsv12_ (fun hH => ?_)
  case hsv12_ => exact ⟨rc TR5.out.1 0, rc TR5.out.1 1, rc TR5.out.1 2, rc TR5.out.1 3, rc TR5.out.1 4, ck TR5.out.2.2 HC0.out, ck TR5.out.2.2 HC1.out, ck TR5.out.2.2 HC2.out, ck TR5.out.2.2 HC3.out, ck TR5.out.2.2 HC4.out⟩
  clear hK K
  (try simp only [Act.put, pk0, pk1, pk2])
  refine zr1 11 (by kernel_rfl) (by simp only [lk0, lk1, lk2]; rfl) (fun K hK => ?_)
  go_simp
  have hlt16 : w.heap.size < w13.heap.size := row_lt TR5.out.1
  have hlt17 : ge < w13.heap.size := row_lt TR5.out.2.1
  have hlt18 : w.heap.size ≤ w13.heap.size := TR5.out.2.2.size
  have TR6 := Lib.hid (show (fun z0 : World => Zw z0 w.heap.size (.int .i64 K3) (.int .i64 I3) (.float .f64 F3) (.string S3) (.slice q3 m3 d3) ∧ z0.heap[ge]? = some (.cells #[.int .i64 3, .int .i64 0, .float .f64 0, .string k, .slice none 0 0, .int .i64 K3, .int .i64 I3, .float .f64 F3, .string S3, .slice q3 m3 d3] 27 (0, 0)) ∧ ZL z0 w13.heap.size (some ⟨ge, 0, none⟩) 2 2 ∧ Below w.heap.size w z0) (w13.alloc (.cells #[.int .i64 4, .int .i64 0, .float .f64 0, .string ⟨#[]⟩, .slice (some ⟨ge, 0, none⟩) 2 2] 27)) from ⟨row_alloc_step TR5.out.1 _, row_alloc_step TR5.out.2.1 _, (ra (by simp only [World.size_alloc, World.size_drew])), bel_step TR5.out.2.2 (bel_alloc br _)⟩)
  go_wp2_with fail
  refine hK.out _ _ ?hsv15_ (fun hH => ?_)
  case hsv15_ => exact ⟨rc TR6.out.1 0, rc TR6.out.1 1, rc TR6.out.1 2, rc TR6.out.1 3, rc TR6.out.1 4, ck TR6.out.2.2.2 HC0.out, ck TR6.out.2.2.2 HC1.out, ck TR6.out.2.2.2 HC2.out, ck TR6.out.2.2.2 HC3.out, ck TR6.out.2.2.2 HC4.out⟩
  clear hK K
  (try simp only [Act.put, pk0, pk1, pk2])
  refine zr1 12 (by kernel_rfl) (by simp only [lk0, lk1, lk2]; rfl) (fun K hK => ?_)
  go_simp
  go_at_call 89; refine (lspliced_is (ro_one hR k V) (some ⟨b, off, none⟩) l c i (i + 1) L (some ⟨w13.heap.size, 0, none⟩) 1 1 [pairT n k V] _ _ (by omega) (ro_old (ge := ge) TR6.out.2.2.2 HL.out) (ro_new TR6.out.2.2.1) (by omega) (by omega) (by omega) (by omega)).mono ?_; rintro e w20 ⟨p6, c6, rfl, hbw20, hy6⟩
  have TR7 := Lib.hid (And.intro (row_step TR6.out.1 hbw20) (And.intro (row_step TR6.out.2.1 hbw20) (And.intro (row_step TR6.out.2.2.1 hbw20) (bel_step TR6.out.2.2.2 hbw20))))
  clear TR6
  have HY := Lib.hid hy6
  clear hy6
  clear hbw20
  go_wp2_with fail
  refine hK.out _ _ ?hsv19_ (fun hH => ?_)
  case hsv19_ => exact ⟨rc TR7.out.1 0, rc TR7.out.1 1, rc TR7.out.1 2, rc TR7.out.1 3, rc TR7.out.1 4, ck TR7.out.2.2.2 HC0.out, ck TR7.out.2.2.2 HC1.out, ck TR7.out.2.2.2 HC2.out, ck TR7.out.2.2.2 HC3.out, ck TR7.out.2.2.2 HC4.out⟩
  clear hK K
  (try simp only [Act.put, pk0, pk1, pk2])
  refine zt [13] ?_
  refine zt1 (fun _ _ d _ _ h => by cases d <;> exact h) (by simp only [lk0, lk1, lk2]; rfl) (by kernel_rfl) (by assumption) (by rfl) (fun w h => by (try dsimp only at h); go_simp; (try with_reducible rfl)) ?_; (try simp only [Act.put, pk0, pk1, pk2])
  refine zt0 ?_
  refine wpAnyH_done (by kernel_rfl) ?_ _
  go_wp2
  go_ret
  have hll : i + 1 + (l - (i + 1)) = l := by omega
  refine ⟨p6, c6, ge, (by rw [hll]; rfl), TR7.out.2.2.2, by omega, TR7.out.2.1, fun y hst => ?_⟩
  have h := HY.out y (fun b h1 h2 => hst b (by simp only [World.size_alloc] at h1; omega) h2)
  rw [hll, set_at L i _ (by have := HLN.out; omega)] at h
  exact h
end Num
end Go.Proofs.YtpbfaffheigjcaaGreat
/-
  The reference's Check of a value.
-/
namespace Go.Proofs.YtpbfaffheigjcaaGreat
open Go.RowKit
namespace Num
open Ints
set_option linter.unusedSimpArgs false
set_option linter.unusedVariables false
theorem kindsT_eq {n : Nat} {K I : Int} {F : Nat} {S : ByteArray} {L : List (VT n)} : kindsT (n + 1) (K, I, F, S, L) = if (decide (K < 0) || decide (4 < K)) = true then false else if (K == 4) = true then L.all (kindsT n) else true := rfl
theorem greatT_eq {n d : Nat} {K I : Int} {F : Nat} {S : ByteArray} {L : List (VT n)} : greatT (n + 1) d (K, I, F, S, L) = if (K == 3) = true then decide (256 < (S.size : Int)) else if (K == 4) = true then (decide (8 ≤ d) || decide (64 < (L.length : Int)) || L.any (greatT n (d + 1))) else false := rfl
set_option maxHeartbeats 2000000 in
theorem kinds_any : ∀ (n : Nat) (v : Value) (T : VT n) (w : World) (hr : Rep w n v T), Calls Tryz.prog 77 #[v] w fun e w' => e = .returned (.bool (kindsT n T)) ∧ Below w.heap.size w w' := by
  intro n
  induction n with
  | zero => intro v T w h; exact h.elim
  | succ n ih =>
    intro v T w hr
    have IH := Lib.hid ih
    clear ih
    obtain ⟨K, I, F, S, L⟩ := T
    obtain ⟨p, l, c, rfl, _, _, _, hS, hl, hlc, hcm, hel⟩ := hr
    unfold maxLen at hcm hS
    by_cases hbad : K < 0 ∨ 4 < K
    · have H := Lib.hid (show Ending.returned (.bool false) = .returned (.bool (kindsT (n + 1) (K, I, F, S, L))) by rw [kindsT_eq, if_pos (by simp; omega)])
      clear hel hl
      by_cases h0 : K < 0
      · go_enter Tryz.func77, Tryz.ntmps77
        go_wp2
        go_ret
        exact ⟨H.out, br.alloc (Nat.le_refl _) _⟩
      · have h4 : 4 < K := by omega
        go_enter Tryz.func77, Tryz.ntmps77
        go_wp2
        go_ret
        exact ⟨H.out, br.alloc (Nat.le_refl _) _⟩
    · have hk0 : ¬ K < 0 := by omega
      have hk4 : ¬ 4 < K := by omega
      have hdec : (decide (K < 0) || decide (4 < K)) = false := by simp; omega
      cases h4 : (K == 4)
      · have H := Lib.hid (show Ending.returned (.bool true) = .returned (.bool (kindsT (n + 1) (K, I, F, S, L))) by rw [kindsT_eq, hdec, h4]; rfl)
        clear hel hl hdec hbad
        by_cases hl0 : (0 : Int) < (l : Int)
        all_goals
          go_enter Tryz.func77, Tryz.ntmps77
          go_wp2
          refine wp_loop_rounds 1 ?_
          rw [rounds_succ]
          go_wp2
          go_ret
          exact ⟨H.out, br.alloc (Nat.le_refl _) _⟩
      · have HK := Lib.hid (show kindsT (n + 1) (K, I, F, S, L) = L.all (kindsT n) by rw [kindsT_eq, hdec, h4]; rfl)
        have HL := Lib.hid hl
        have HE := Lib.hid hel
        clear hl hel hdec hbad
        go_enter Tryz.func77, Tryz.ntmps77
        go_wp2
        have RS0 := row_alloc w #[.int .i64 K, .int .i64 I, .float .f64 F, .string S, .slice p l c] 27
        go_loopw [3] (fun i wr => ∃ k : Nat, k ≤ l ∧ i = .int .i64 k ∧ (∀ x ∈ L.take k, kindsT n x = true) ∧ Below w.heap.size w wr ∧ wr.heap[w.heap.size]? = some (.cells #[.int .i64 K, .int .i64 I, .float .f64 F, .string S, .slice p l c] 27 (0, 0))) (fun i _ => l - (intOf i).toNat)
        case atStart => exact ⟨0, by omega, rfl, fun x hx => (by cases hx), br.alloc (Nat.le_refl _) _, RS0⟩
        case round =>
          obtain ⟨k, hk, rfl, hall, hB, RS⟩ := hrel
          clear RS0
          have s0 := rc RS 0
          have s4 := rc RS 4
          simp only [lk0, lk1, lk2] at s0 s4
          have HB := Lib.hid hB
          have HRS := Lib.hid RS
          have HA := Lib.hid hall
          by_cases hlt : k < l
          · obtain ⟨b, off, hp, hi⟩ := HE.out (by omega)
            subst hp
            have hkl : k < L.length := by have := HL.out; omega
            obtain ⟨v0, v1, v2, v3, v4, c0, c1, c2, c3, c4, hr⟩ := hi k hkl
            have hr' := rep_keep hB n _ _ hr
            have e0 := ck hB c0
            have e1 := ck hB c1
            have e2 := ck hB c2
            have e3 := ck hB c3
            have e4 := ck hB c4
            clear c0 c1 c2 c3 c4 hr hi hB RS hall
            have HR := Lib.hid hr'
            clear hr'
            cases hx : kindsT n L[k]
            · have HF := Lib.hid (show Ending.returned (.bool false) = .returned (.bool (kindsT (n + 1) (K, I, F, S, L))) by
                rw [HK.out]
                have : L.all (kindsT n) = false := by rw [List.all_eq_false]; exact ⟨L[k], List.getElem_mem hkl, by rw [hx]; simp⟩
                rw [this])
              have HX := Lib.hid hx
              clear hx
              go_wp2_with fail
              go_at_call 77; refine (IH.out _ _ _ HR.out).mono ?_; rintro e w1 ⟨rfl, hb1⟩
              rw [HX.out]
              have HB1 := Lib.hid (bel_step HB.out hb1)
              clear hb1 e0 e1 e2 e3 e4 s0 s4
              go_wp2
              go_ret
              exact ⟨HF.out, HB1.out⟩
            · have HX := Lib.hid hx
              have HA2 := Lib.hid (show ∀ x ∈ L.take (k + 1), kindsT n x = true from fun x hm => by
                rw [List.take_succ_eq_append_getElem hkl, List.mem_append] at hm
                rcases hm with hm | hm
                · exact HA.out x hm
                · rw [List.mem_singleton.1 hm]; exact HX.out)
              clear hx
              go_wp2_with fail
              go_at_call 77; refine (IH.out _ _ _ HR.out).mono ?_; rintro e w1 ⟨rfl, hb1⟩
              rw [HX.out]
              have HB1 := Lib.hid (bel_step HB.out hb1)
              have HR1 := Lib.hid (row_step HRS.out hb1)
              clear hb1 e0 e1 e2 e3 e4 HB HRS s0 s4 HR
              go_wp2
              go_roundw
              case rel => exact ⟨k + 1, by omega, by go_num, HA2.out, HB1.out, HR1.out⟩
              case measure => simp [intOf]; omega
          · have HT := Lib.hid (show Ending.returned (.bool true) = .returned (.bool (kindsT (n + 1) (K, I, F, S, L))) by
              have e : L.take k = L := List.take_of_length_le (by have : L.length = l := HL.out; omega)
              have : L.all (kindsT n) = true := by rw [List.all_eq_true]; intro x hm; exact HA.out x (by rw [e]; exact hm)
              rw [HK.out, this])
            clear hB RS hall
            go_wp2
            go_ret
            exact ⟨HT.out, HB.out⟩
set_option maxHeartbeats 2000000 in
theorem great_any : ∀ (n d : Nat) (v : Value) (T : VT n) (w : World) (hr : Rep w n v T) (hd : d ≤ 1000000), Calls Tryz.prog 78 #[v, .int .i64 d] w fun e w' => e = .returned (.bool (greatT n d T)) ∧ Below w.heap.size w w' := by
  intro n
  induction n with
  | zero => intro d v T w h; exact h.elim
  | succ n ih =>
    intro d v T w hr hd
    have IH := Lib.hid ih
    clear ih
    obtain ⟨K, I, F, S, L⟩ := T
    obtain ⟨p, l, c, rfl, _, _, _, hS, hl, hlc, hcm, hel⟩ := hr
    unfold maxLen at hcm hS
    cases h3 : (K == 3)
    · cases h4 : (K == 4)
      · have H := Lib.hid (show Ending.returned (.bool false) = .returned (.bool (greatT (n + 1) d (K, I, F, S, L))) by rw [greatT_eq, h3, h4]; rfl)
        have hn4 : (K != 4) = true := by simp only [bne, h4]; rfl
        clear hel hl
        go_enter Tryz.func78, Tryz.ntmps78
        go_wp2
        go_ret
        exact ⟨H.out, br.alloc (Nat.le_refl _) _⟩
      · have hn4 : (K != 4) = false := by simp only [bne, h4]; rfl
        have HG := Lib.hid (show greatT (n + 1) d (K, I, F, S, L) = (decide (8 ≤ d) || decide (64 < (L.length : Int)) || L.any (greatT n (d + 1))) by rw [greatT_eq, h3, h4]; rfl)
        by_cases h8 : 8 ≤ d
        · have h8' : (8 : Int) ≤ (d : Int) := by omega
          have H := Lib.hid (show Ending.returned (.bool true) = .returned (.bool (greatT (n + 1) d (K, I, F, S, L))) by rw [HG.out]; simp [h8])
          clear hel hl
          go_enter Tryz.func78, Tryz.ntmps78
          go_wp2
          go_ret
          exact ⟨H.out, br.alloc (Nat.le_refl _) _⟩
        · have h8' : ¬ (8 : Int) ≤ (d : Int) := by omega
          by_cases h64 : (64 : Int) < (l : Int)
          · have H := Lib.hid (show Ending.returned (.bool true) = .returned (.bool (greatT (n + 1) d (K, I, F, S, L))) by rw [HG.out]; have : (64 : Int) < (L.length : Int) := (by have : L.length = l := hl; omega); simp [this])
            clear hel hl
            go_enter Tryz.func78, Tryz.ntmps78
            go_wp2
            go_ret
            exact ⟨H.out, br.alloc (Nat.le_refl _) _⟩
          · have HG2 := Lib.hid (show greatT (n + 1) d (K, I, F, S, L) = L.any (greatT n (d + 1)) by
              rw [HG.out]
              have a1 : decide (8 ≤ d) = false := by simp; omega
              have a2 : decide (64 < (L.length : Int)) = false := by have : L.length = l := hl; simp; omega
              rw [a1, a2]; simp)
            have HL := Lib.hid hl
            have HE := Lib.hid hel
            clear hl hel
            go_enter Tryz.func78, Tryz.ntmps78
            go_wp2
            have RS0 := row_alloc w #[.int .i64 K, .int .i64 I, .float .f64 F, .string S, .slice p l c] 27
            go_loopw [5] (fun i wr => ∃ k : Nat, k ≤ l ∧ i = .int .i64 k ∧ (∀ x ∈ L.take k, greatT n (d + 1) x = false) ∧ Below w.heap.size w wr ∧ wr.heap[w.heap.size]? = some (.cells #[.int .i64 K, .int .i64 I, .float .f64 F, .string S, .slice p l c] 27 (0, 0))) (fun i _ => l - (intOf i).toNat)
            case atStart => exact ⟨0, by omega, rfl, fun x hx => (by cases hx), br.alloc (Nat.le_refl _) _, RS0⟩
            case round =>
              obtain ⟨k, hk, rfl, hall, hB, RS⟩ := hrel
              clear RS0
              have s0 := rc RS 0
              have s4 := rc RS 4
              simp only [lk0, lk1, lk2] at s0 s4
              have HB := Lib.hid hB
              have HRS := Lib.hid RS
              have HA := Lib.hid hall
              by_cases hlt : k < l
              · obtain ⟨b, off, hp, hi⟩ := HE.out (by omega)
                subst hp
                have hkl : k < L.length := by have := HL.out; omega
                obtain ⟨v0, v1, v2, v3, v4, c0, c1, c2, c3, c4, hr⟩ := hi k hkl
                have hr' := rep_keep hB n _ _ hr
                have e0 := ck hB c0
                have e1 := ck hB c1
                have e2 := ck hB c2
                have e3 := ck hB c3
                have e4 := ck hB c4
                clear c0 c1 c2 c3 c4 hr hi hB RS hall
                have HR := Lib.hid hr'
                clear hr'
                cases hx : greatT n (d + 1) L[k]
                · have HX := Lib.hid hx
                  have HA2 := Lib.hid (show ∀ x ∈ L.take (k + 1), greatT n (d + 1) x = false from fun x hm => by
                    rw [List.take_succ_eq_append_getElem hkl, List.mem_append] at hm
                    rcases hm with hm | hm
                    · exact HA.out x hm
                    · rw [List.mem_singleton.1 hm]; exact HX.out)
                  clear hx
                  go_wp2_with fail
                  go_at_call 78; rw [show ((d : Int) + 1) = ((d + 1 : Nat) : Int) by omega]; refine (IH.out (d + 1) _ _ _ HR.out (by omega)).mono ?_; rintro e w1 ⟨rfl, hb1⟩
                  rw [HX.out]
                  have HB1 := Lib.hid (bel_step HB.out hb1)
                  have HR1 := Lib.hid (row_step HRS.out hb1)
                  clear hb1 e0 e1 e2 e3 e4 HB HRS s0 s4 HR
                  go_wp2
                  go_roundw
                  case rel => exact ⟨k + 1, by omega, by go_num, HA2.out, HB1.out, HR1.out⟩
                  case measure => simp [intOf]; omega
                · have HF := Lib.hid (show Ending.returned (.bool true) = .returned (.bool (greatT (n + 1) d (K, I, F, S, L))) by
                    rw [HG2.out]
                    have : L.any (greatT n (d + 1)) = true := by rw [List.any_eq_true]; exact ⟨L[k], List.getElem_mem hkl, hx⟩
                    rw [this])
                  have HX := Lib.hid hx
                  clear hx
                  go_wp2_with fail
                  go_at_call 78; rw [show ((d : Int) + 1) = ((d + 1 : Nat) : Int) by omega]; refine (IH.out (d + 1) _ _ _ HR.out (by omega)).mono ?_; rintro e w1 ⟨rfl, hb1⟩
                  rw [HX.out]
                  have HB1 := Lib.hid (bel_step HB.out hb1)
                  clear hb1 e0 e1 e2 e3 e4 s0 s4
                  go_wp2
                  go_ret
                  exact ⟨HF.out, HB1.out⟩
              · have HT := Lib.hid (show Ending.returned (.bool false) = .returned (.bool (greatT (n + 1) d (K, I, F, S, L))) by
                  have e : L.take k = L := List.take_of_length_le (by have : L.length = l := HL.out; omega)
                  have : L.any (greatT n (d + 1)) = false := by rw [List.any_eq_false]; intro x hm; rw [HA.out x (by rw [e]; exact hm)]; simp
                  rw [HG2.out, this])
                clear hB RS hall
                go_wp2
                go_ret
                exact ⟨HT.out, HB.out⟩
    · have H := Lib.hid (show Ending.returned (.bool (decide (256 < (S.size : Int)))) = .returned (.bool (greatT (n + 1) d (K, I, F, S, L))) by rw [greatT_eq, h3]; rfl)
      clear hel hl
      go_enter Tryz.func78, Tryz.ntmps78
      go_wp2
      go_ret
      exact ⟨H.out, br.alloc (Nat.le_refl _) _⟩
set_option maxHeartbeats 2000000 in
theorem rcheck_any (n : Nat) (v : Value) (T : VT n) (w : World) (hr : Rep w n v T) : Calls Tryz.prog 44 #[v] w fun e w' => e = .returned (.int .i64 (rcheckT n T)) ∧ Below w.heap.size w w' := by
  obtain ⟨K, I, F, S, p, l, c, rfl, _⟩ := rep_shape hr
  have HR := Lib.hid (rep_keep ((Below.refl w.heap.size w).alloc (Nat.le_refl _) (.cells #[.int .i64 K, .int .i64 I, .float .f64 F, .string S, .slice p l c] 27)) _ _ _ hr)
  have HB := Lib.hid ((Below.refl w.heap.size w).alloc (Nat.le_refl _) (.cells #[.int .i64 K, .int .i64 I, .float .f64 F, .string S, .slice p l c] 27))
  have RS := Lib.hid (row_alloc w #[.int .i64 K, .int .i64 I, .float .f64 F, .string S, .slice p l c] 27)
  clear hr
  have HC := Lib.hid (show rcheckT n T = if kindsT n T = false then 31 else if (greatT n 0 T || decide (4096 < sizeT n T)) = true then 22 else 0 from rfl)
  cases hk : kindsT n T
  · have HE := Lib.hid (show Ending.returned (.int .i64 31) = .returned (.int .i64 (rcheckT n T)) by rw [HC.out, if_pos hk])
    have HX := Lib.hid hk
    clear hk
    go_enter Tryz.func44, Tryz.ntmps44
    go_wp2_with fail
    go_at_call 77; refine (kinds_any n _ T _ HR.out).mono ?_; rintro e w1 ⟨rfl, hb1⟩
    rw [HX.out]
    have HB1 := Lib.hid (bel_step HB.out hb1)
    clear hb1
    go_wp2
    go_ret
    exact ⟨HE.out, HB1.out⟩
  · have HX := Lib.hid hk
    cases hg : greatT n 0 T
    · obtain ⟨z, hz⟩ : ∃ z, sizeT n T = z := ⟨_, rfl⟩
      have HZ := Lib.hid hz
      by_cases hbig : 4096 < z
      all_goals
        have HE := Lib.hid (show rcheckT n T = if 4096 < z then 22 else 0 by rw [HC.out, hk, hg, hz]; simp)
        have HY := Lib.hid hg
        go_enter Tryz.func44, Tryz.ntmps44
        go_wp2_with fail
        go_at_call 77; refine (kinds_any n _ T _ HR.out).mono ?_; rintro e w1 ⟨rfl, hb1⟩
        rw [HX.out]
        have HB1 := Lib.hid (bel_step HB.out hb1)
        have HR1 := Lib.hid (rep_keep hb1 _ _ _ HR.out)
        have HS1 := Lib.hid (row_step RS.out hb1)
        have d0 := rc HS1.out 0; have d1 := rc HS1.out 1; have d2 := rc HS1.out 2; have d3 := rc HS1.out 3; have d4 := rc HS1.out 4
        simp only [lk0, lk1, lk2] at d0 d1 d2 d3 d4
        clear hb1
        go_wp2_with fail
        go_at_call 78; refine (great_any n 0 _ T _ HR1.out (by omega)).mono ?_; rintro e w2 ⟨rfl, hb2⟩
        rw [HY.out]
        have HB2 := Lib.hid (bel_step HB1.out hb2)
        have HR2 := Lib.hid (rep_keep hb2 _ _ _ HR1.out)
        have HS2 := Lib.hid (row_step HS1.out hb2)
        have e0 := rc HS2.out 0; have e1 := rc HS2.out 1; have e2 := rc HS2.out 2; have e3 := rc HS2.out 3; have e4 := rc HS2.out 4
        simp only [lk0, lk1, lk2] at e0 e1 e2 e3 e4
        clear hb2 d0 d1 d2 d3 d4
        go_wp2_with fail
        go_at_call 42; refine (size_any n _ T _ HR2.out).mono ?_; rintro e w3 ⟨rfl, hb3⟩
        rw [HZ.out]
        have HB3 := Lib.hid (bel_step HB2.out hb3)
        clear hb3 e0 e1 e2 e3 e4
        go_wp2
        go_ret
        exact ⟨by rw [HE.out]; simp [hbig], HB3.out⟩
    · have HE := Lib.hid (show Ending.returned (.int .i64 22) = .returned (.int .i64 (rcheckT n T)) by rw [HC.out, hk, hg]; rfl)
      have HY := Lib.hid hg
      clear hk hg
      go_enter Tryz.func44, Tryz.ntmps44
      go_wp2_with fail
      go_at_call 77; refine (kinds_any n _ T _ HR.out).mono ?_; rintro e w1 ⟨rfl, hb1⟩
      rw [HX.out]
      have HB1 := Lib.hid (bel_step HB.out hb1)
      have HR1 := Lib.hid (rep_keep hb1 _ _ _ HR.out)
      have HS1 := Lib.hid (row_step RS.out hb1)
      have d0 := rc HS1.out 0; have d1 := rc HS1.out 1; have d2 := rc HS1.out 2; have d3 := rc HS1.out 3; have d4 := rc HS1.out 4
      simp only [lk0, lk1, lk2] at d0 d1 d2 d3 d4
      clear hb1
      go_wp2_with fail
      go_at_call 78; refine (great_any n 0 _ T _ HR1.out (by omega)).mono ?_; rintro e w2 ⟨rfl, hb2⟩
      rw [HY.out]
      have HB2 := Lib.hid (bel_step HB1.out hb2)
      clear hb2 d0 d1 d2 d3 d4
      go_wp2
      go_ret
      exact ⟨HE.out, HB2.out⟩
end Num
end Go.Proofs.YtpbfaffheigjcaaGreat
/-
  The reference: pairs, on a ledger that is right.
-/
namespace Go.Proofs.YtpbfaffheigjcaaGreat
open Go.RowKit
namespace Num
open Ints
set_option linter.unusedSimpArgs false
set_option linter.unusedVariables false
def AccV {n : Nat} (V : VT (n + 1)) : Prop := V.1 = 2 ∧ finV 2 V.2.2.1 = true ∧ negW V.2.2.1 = false
def RokLed (n : Nat) (ES : List (ByteArray × VT (n + 1))) : Prop := Names (ES.map (·.1)) ∧ ES.length ≤ 32 ∧ rcheckT (n + 3) (tableT n ES) = 0 ∧ ∀ e ∈ ES, AccV e.2
theorem acc_mem {w : World} {n : Nat} {v : Value} {s : ByteArray} {V : VT (n + 1)} (h : Rep w (n + 2) v (pairT n s V)) (ha : AccV V) : ∃ (g o d : Nat) (q9 : Option Addr) (d9 : Nat) (I : Int) (F : Nat) (Z : ByteArray) (q : Option Addr) (m d2 : Nat), v = .agg #[.int .i64 4, .int .i64 0, .float .f64 0, .string ⟨#[]⟩, .slice (some ⟨g, o, none⟩) 2 d] ∧ (w.cell? ⟨g, o, none⟩ = some (.int .i64 3) ∧ w.cell? ⟨g, o + 1, none⟩ = some (.int .i64 0) ∧ w.cell? ⟨g, o + 2, none⟩ = some (.float .f64 0) ∧ w.cell? ⟨g, o + 3, none⟩ = some (.string s) ∧ w.cell? ⟨g, o + 4, none⟩ = some (.slice q9 0 d9)) ∧ (w.cell? ⟨g, o + 5, none⟩ = some (.int .i64 2) ∧ w.cell? ⟨g, o + 5 + 1, none⟩ = some (.int .i64 I) ∧ w.cell? ⟨g, o + 5 + 2, none⟩ = some (.float .f64 F) ∧ w.cell? ⟨g, o + 5 + 3, none⟩ = some (.string Z) ∧ w.cell? ⟨g, o + 5 + 4, none⟩ = some (.slice q m d2)) ∧ finV 2 F = true ∧ negW F = false ∧ F < 2 ^ 64 := by
  obtain ⟨g, o, d, rfl, ⟨n0, n1, n2, n3, q9, d9, n4, _⟩, _, K, I, F, Z, q, m, d2, ⟨x0, x1, x2, x3, x4⟩, hr⟩ := pair_mem h
  obtain ⟨K', I', F', Z', L'⟩ := V
  obtain ⟨h1, h2, h3⟩ := ha
  obtain ⟨p, l, c, hv, _, _, hF, _⟩ := hr
  injection hv with hv
  simp only [Array.mk.injEq, List.cons.injEq, and_true] at hv
  obtain ⟨e1, e2, e3, e4, e5⟩ := hv
  injection e1 with _ e1
  injection e3 with _ e3
  subst e1; subst e3
  obtain rfl : K = 2 := h1
  exact ⟨g, o, d, q9, d9, I, F, Z, q, m, d2, rfl, ⟨n0, n1, n2, n3, n4⟩, ⟨x0, x1, x2, x3, x4⟩, h2, h3, hF⟩
theorem pair_nm {w : World} {n : Nat} {v : Value} {s : ByteArray} {V : VT (n + 1)} (h : Rep w (n + 2) v (pairT n s V)) : ∃ g o c, v = .agg #[.int .i64 4, .int .i64 0, .float .f64 0, .string ⟨#[]⟩, .slice (some ⟨g, o, none⟩) 2 c] ∧ w.cell? ⟨g, o + 3, none⟩ = some (.string s) := by
  obtain ⟨g, o, d, rfl, ⟨_, _, _, n3, _⟩, _⟩ := pair_mem h
  exact ⟨g, o, d, rfl, n3⟩
theorem led_mem {w : World} {n : Nat} {v : Value} {ES : List (ByteArray × VT (n + 1))} (h : Rep w (n + 3) v (tableT n ES)) : ∃ p l c, v = .agg #[.int .i64 4, .int .i64 0, .float .f64 0, .string ⟨#[]⟩, .slice p l c] ∧ RepL w (Rep w (n + 2)) p l c (ES.map (pairE n)) := by
  obtain ⟨p, l, c, rfl, _, _, _, _, h⟩ := h
  exact ⟨p, l, c, rfl, h⟩
theorem named_yes {S : ByteArray} (h : nmV 3 S = true) (I : Int) (F : Nat) (p : Option Addr) (l c : Nat) (w : World) : Calls Tryz.prog 75 #[.agg #[.int .i64 3, .int .i64 I, .float .f64 F, .string S, .slice p l c]] w fun e w' => e = .returned (.bool true) ∧ Below w.heap.size w w' := by
  have := named_any 3 I F S p l c w
  rw [h] at this
  exact this
def P0 (w : World) (sb b off l c eb g o d : Nat) (s : ByteArray) (q9 : Option Addr) (d9 : Nat) (I : Int) (F : Nat) (Z : ByteArray) (q : Option Addr) (m d2 : Nat) (z : World) : Prop := z.cell? ⟨eb, 0, none⟩ = some (.int .i64 4) ∧ z.cell? ⟨eb, 1, none⟩ = some (.int .i64 0) ∧ z.cell? ⟨eb, 2, none⟩ = some (.float .f64 0) ∧ z.cell? ⟨eb, 3, none⟩ = some (.string ⟨#[]⟩) ∧ z.cell? ⟨eb, 4, none⟩ = some (.slice (some ⟨g, o, none⟩) 2 d) ∧ z.cell? ⟨g, o, none⟩ = some (.int .i64 3) ∧ z.cell? ⟨g, o + 1, none⟩ = some (.int .i64 0) ∧ z.cell? ⟨g, o + 2, none⟩ = some (.float .f64 0) ∧ z.cell? ⟨g, o + 3, none⟩ = some (.string s) ∧ z.cell? ⟨g, o + 4, none⟩ = some (.slice q9 0 d9) ∧ Below w.heap.size w z ∧ z.cell? ⟨sb, 4, none⟩ = some (.slice (some ⟨b, off, none⟩) l c) ∧ z.cell? ⟨g, o + 5, none⟩ = some (.int .i64 2) ∧ z.cell? ⟨g, o + 5 + 1, none⟩ = some (.int .i64 I) ∧ z.cell? ⟨g, o + 5 + 2, none⟩ = some (.float .f64 F) ∧ z.cell? ⟨g, o + 5 + 3, none⟩ = some (.string Z) ∧ z.cell? ⟨g, o + 5 + 4, none⟩ = some (.slice q m d2)
theorem p0_step {x y : World} {w : World} {sb b off l c eb g o d : Nat} {s : ByteArray} {q9 : Option Addr} {d9 : Nat} {I : Int} {F : Nat} {Z : ByteArray} {q : Option Addr} {m d2 : Nat} (h : P0 w sb b off l c eb g o d s q9 d9 I F Z q m d2 x) (hb : Below x.heap.size x y) : P0 w sb b off l c eb g o d s q9 d9 I F Z q m d2 y :=
  ⟨ck hb h.1, ck hb h.2.1, ck hb h.2.2.1, ck hb h.2.2.2.1, ck hb h.2.2.2.2.1, ck hb h.2.2.2.2.2.1, ck hb h.2.2.2.2.2.2.1, ck hb h.2.2.2.2.2.2.2.1, ck hb h.2.2.2.2.2.2.2.2.1, ck hb h.2.2.2.2.2.2.2.2.2.1, bel_step h.2.2.2.2.2.2.2.2.2.2.1 hb, ck hb h.2.2.2.2.2.2.2.2.2.2.2.1, ck hb h.2.2.2.2.2.2.2.2.2.2.2.2.1, ck hb h.2.2.2.2.2.2.2.2.2.2.2.2.2.1, ck hb h.2.2.2.2.2.2.2.2.2.2.2.2.2.2.1, ck hb h.2.2.2.2.2.2.2.2.2.2.2.2.2.2.2.1, ck hb h.2.2.2.2.2.2.2.2.2.2.2.2.2.2.2.2⟩
def P1 (k g' o' d' : Nat) (s' : ByteArray) (w : World) (sb b off l c eb g o d : Nat) (s : ByteArray) (q9 : Option Addr) (d9 : Nat) (I : Int) (F : Nat) (Z : ByteArray) (q : Option Addr) (m d2 : Nat) (z : World) : Prop := z.cell? ⟨b, off + k * 5 + 4, none⟩ = some (.slice (some ⟨g', o', none⟩) 2 d') ∧ z.cell? ⟨g', o' + 3, none⟩ = some (.string s') ∧  P0 w sb b off l c eb g o d s q9 d9 I F Z q m d2 z
theorem p1_step {x y : World} {k g' o' d' : Nat} {s' : ByteArray} {w : World} {sb b off l c eb g o d : Nat} {s : ByteArray} {q9 : Option Addr} {d9 : Nat} {I : Int} {F : Nat} {Z : ByteArray} {q : Option Addr} {m d2 : Nat} (h : P1 k g' o' d' s' w sb b off l c eb g o d s q9 d9 I F Z q m d2 x) (hb : Below x.heap.size x y) : P1 k g' o' d' s' w sb b off l c eb g o d s q9 d9 I F Z q m d2 y :=
  ⟨ck hb h.1, ck hb h.2.1, p0_step h.2.2 hb⟩
set_option maxRecDepth 100000 in
set_option maxHeartbeats 4000000 in
theorem pairs_led (n : Nat) (v : Value) (ES : List (ByteArray × VT (n + 1))) (w : World) (hr : Rep w (n + 3) v (tableT n ES)) (hok : RokLed n ES) : Calls Tryz.prog 43 #[v, .bool true] w fun e w' => e = .returned (.bool true) ∧ Below w.heap.size w w' := by
  obtain ⟨hnm, hl32, hc, hac⟩ := hok
  have HC := fun W (hb : Below w.heap.size w W) => (show Calls Tryz.prog 44 #[v] W fun e w' => e = .returned (.int .i64 0) ∧ Below W.heap.size W w' by
    have h := rcheck_any (n + 3) v _ W (rep_keep hb _ _ _ hr)
    rw [hc] at h
    exact h)
  have HCH := Lib.hid HC
  have HAC := Lib.hid hac
  obtain ⟨p, l, c, rfl, hrl⟩ := led_mem hr
  have HRL := Lib.hid hrl
  have HLEN := Lib.hid (show ES.length = l by have := hrl.1; rw [List.length_map] at this; exact this)
  have HNMS := Lib.hid hnm
  have hl : (l : Int) ≤ 32 := by have := HLEN.out; omega
  have hl2 : ¬ (32 : Int) < (l : Int) := by omega
  have hl0 : (0 : Int) ≤ (l : Int) := by omega
  obtain ⟨oa, hoa⟩ : ∃ o, Obj.cells #[.int .i64 4, .int .i64 0, .float .f64 0, .string ⟨#[]⟩, .slice p l c] 27 = o := ⟨_, rfl⟩
  have HB := Lib.hid (bel_alloc (Below.refl w.heap.size w) oa)
  have ra := row_alloc w #[.int .i64 4, .int .i64 0, .float .f64 0, .string ⟨#[]⟩, .slice p l c] 27
  have HRA := Lib.hid ra
  subst hoa
  clear ra hrl hnm hc hl32 hr HC hac
  go_enter Tryz.func43, Tryz.ntmps43
  go_wp2_with fail
  go_at_call 44; refine (HCH.out _ HB.out).mono ?_; rintro e w1 ⟨rfl, hb1⟩
  have HB1 := Lib.hid (bel_step HB.out hb1)
  have xa := row_step HRA.out hb1
  have HRA1 := Lib.hid xa
  have a0 := rc xa 0; have a4 := rc xa 4
  simp only [lk0, lk1, lk2] at a0 a4
  clear hb1 HB HRA HCH xa
  go_wp2
  clear a0 a4
  go_loopw [5] (fun iv wr => ∃ i : Nat, i ≤ l ∧ iv = .int .i64 i ∧ Below w.heap.size w wr ∧ wr.cell? ⟨w.heap.size, 4, none⟩ = some (.slice p l c)) (fun iv _ => l - (intOf iv).toNat)
  case atStart => exact ⟨0, by omega, rfl, HB1.out, rc HRA1.out 4⟩
  case round =>
    obtain ⟨i, hil, rfl, hB, hS⟩ := hrel
    by_cases hlt : i < l
    · obtain ⟨b, off, hpb, hit⟩ := HRL.out.2.2.2 (by omega)
      subst hpb
      have hei : i < ES.length := by have := HLEN.out; omega
      obtain ⟨v0, v1, v2, v3, v4, c0, c1, c2, c3, c4, hre⟩ := hit i (by rw [List.length_map]; exact hei)
      rw [List.getElem_map] at hre
      obtain ⟨⟨SS, VV⟩, hsv⟩ : ∃ e, e = ES[i] := ⟨_, rfl⟩
      rw [← hsv] at hre
      have hre' : Rep w (n + 2) (.agg #[v0, v1, v2, v3, v4]) (pairT n SS VV) := hre
      have hmem : i < (ES.map (·.1)).length := by rw [List.length_map]; exact hei
      have hs1 : (ES.map (·.1))[i] = SS := by rw [List.getElem_map, ← hsv]
      have HNM := Lib.hid (show nmV 3 SS = true from HNMS.out.1 SS (by rw [← hs1]; exact List.getElem_mem hmem))
      have hav : AccV VV := HAC.out (SS, VV) (by rw [hsv]; exact List.getElem_mem hei)
      obtain ⟨g, o, d, q9, d9, I, F, Z, q, m, d2, hvv, ⟨n0, n1, n2, n3, n4⟩, ⟨x0, x1, x2, x3, x4⟩, hfi, hng, hfl⟩ := acc_mem hre' hav
      injection hvv with hvv
      simp only [Array.mk.injEq, List.cons.injEq, and_true] at hvv
      obtain ⟨rfl, rfl, rfl, rfl, rfl⟩ := hvv
      have HFI := Lib.hid hfi
      have HNG := Lib.hid hng
      have HFL := Lib.hid hfl
      have e0 := ck hB c0; have e1 := ck hB c1; have e2 := ck hB c2; have e3 := ck hB c3; have e4 := ck hB c4
      have elt := cell_lt e0
      have hslt := cell_lt hS
      have hi0 : (0 : Int) ≤ (i : Int) := by omega
      have hil2 : (i : Int) < (l : Int) := by omega
      have hAL := bel_alloc (Below.refl wr.heap.size wr) (.cells #[.int .i64 4, .int .i64 0, .float .f64 0, .string ⟨#[]⟩, .slice (some ⟨g, o, none⟩) 2 d] 27)
      have HB2 := Lib.hid (bel_step hB hAL)
      have hcc := fun {a : Addr} {v : Value} (h : w.cell? a = some v) => ck HB2.out h
      have hP0 : P0 w w.heap.size b off l c wr.heap.size g o d SS q9 d9 I F Z q m d2 (wr.alloc (.cells #[.int .i64 4, .int .i64 0, .float .f64 0, .string ⟨#[]⟩, .slice (some ⟨g, o, none⟩) 2 d] 27)) := by
        have hcs := cs_row (row_alloc wr #[.int .i64 4, .int .i64 0, .float .f64 0, .string ⟨#[]⟩, .slice (some ⟨g, o, none⟩) 2 d] 27)
        exact ⟨hcs.1, hcs.2.1, hcs.2.2.1, hcs.2.2.2.1, hcs.2.2.2.2, hcc n0, hcc n1, hcc n2, hcc n3, hcc n4, HB2.out, ck hAL hS, hcc x0, hcc x1, hcc x2, hcc x3, hcc x4⟩
      clear hfi hng hfl n0 n1 n2 n3 n4 x0 x1 x2 x3 x4 hav
      rcases Nat.eq_zero_or_pos i with h0 | h0
      · subst h0
        have HE := Lib.hid hP0
        simp only [Nat.zero_mul, Nat.add_zero] at e0 e1 e2 e3 e4
        clear c0 c1 c2 c3 c4 hit hre hre' hP0 hAL hcc
        go_upto_region 7 with fail
        clear e0 e1 e2 e3 e4
        refine wp_region_held_drew (S := (fun z => z.cell? ⟨wr.heap.size, 0, none⟩ = some (.int .i64 4) ∧ z.cell? ⟨wr.heap.size, 1, none⟩ = some (.int .i64 0) ∧ z.cell? ⟨wr.heap.size, 2, none⟩ = some (.float .f64 0) ∧ z.cell? ⟨wr.heap.size, 3, none⟩ = some (.string ⟨#[]⟩) ∧ z.cell? ⟨wr.heap.size, 4, none⟩ = some (.slice (some ⟨g, o, none⟩) 2 d) ∧ z.cell? ⟨g, o, none⟩ = some (.int .i64 3) ∧ z.cell? ⟨g, o + 1, none⟩ = some (.int .i64 0) ∧ z.cell? ⟨g, o + 2, none⟩ = some (.float .f64 0) ∧ z.cell? ⟨g, o + 3, none⟩ = some (.string SS) ∧ z.cell? ⟨g, o + 4, none⟩ = some (.slice q9 0 d9) ∧ Below w.heap.size w z ∧ z.cell? ⟨w.heap.size, 4, none⟩ = some (.slice (some ⟨b, off, none⟩) l c) ∧ z.cell? ⟨g, o + 5, none⟩ = some (.int .i64 2) ∧ z.cell? ⟨g, o + 5 + 1, none⟩ = some (.int .i64 I) ∧ z.cell? ⟨g, o + 5 + 2, none⟩ = some (.float .f64 F) ∧ z.cell? ⟨g, o + 5 + 3, none⟩ = some (.string Z) ∧ z.cell? ⟨g, o + 5 + 4, none⟩ = some (.slice q m d2))) (by kernel_rfl) ?_ (fun hH => ?_)
        · exact p0_step HE.out (Below.drew br)
        refine zt [0, 1, 2, 3, 4, 5, 6, 7, 8, 9, 10, 11, 12, 13] ?_
        iterate 14 (refine zt1 (fun _ _ d _ _ h => by cases d <;> exact h) (by simp only [lk0, lk1, lk2]; rfl) (by kernel_rfl) (by assumption) (by rfl) (fun w h => by (try dsimp only at h); go_simp; (try with_reducible rfl)) ?_; (try simp only [Act.put, pk0, pk1, pk2]))
        refine zt0 ?_
        refine zr1 14 (by kernel_rfl) (by simp only [lk0, lk1, lk2]; rfl) (fun K hK => ?_)
        go_simp
        go_at_call 75; refine (named_yes HNM.out _ _ _ _ _ _).mono ?_; rintro e w4 ⟨rfl, hb4⟩; have he4 := p0_step (show P0 w w.heap.size b off l c wr.heap.size g o d SS q9 d9 I F Z q m d2 _ from hH) hb4; clear hb4
        go_wp2_with fail
        refine hK.out _ _ ?hsa14 (fun hH => ?_)
        case hsa14 => exact he4
        clear hK K
        (try simp only [Act.put, pk0, pk1, pk2])
        refine zt [15, 16, 17, 18, 19, 20] ?_
        iterate 6 (refine zt1 (fun _ _ d _ _ h => by cases d <;> exact h) (by simp only [lk0, lk1, lk2]; rfl) (by kernel_rfl) (by assumption) (by rfl) (fun w h => by (try dsimp only at h); go_simp; (try with_reducible rfl)) ?_; (try simp only [Act.put, pk0, pk1, pk2]))
        refine zt0 ?_
        refine wpAnyH_take (i := 21) (oi := ?_) (v := undef) ?ia21 (by kernel_rfl) ?fa21 ?ra21 ?Qa21 ?ya21 (by assumption) ?ta21
        case ia21 => (simp only [lk0, lk1, lk2]; rfl)
        case fa21 | ra21 => kernel_rfl
        case ya21 => exact Or.inr ⟨by rfl, rfl⟩
        case Qa21 => exact fun _ _ _ h => h
        (try simp only [Act.put, pk0, pk1, pk2])
        refine wpAnyH_take (i := 22) (oi := ?_) (v := undef) ?ia22 (by kernel_rfl) ?fa22 ?ra22 ?Qa22 ?ya22 (by assumption) ?ta22
        case ia22 => (simp only [lk0, lk1, lk2]; rfl)
        case fa22 | ra22 => kernel_rfl
        case ya22 => exact Or.inr ⟨by rfl, rfl⟩
        case Qa22 => exact fun _ _ _ h => h
        (try simp only [Act.put, pk0, pk1, pk2])
        refine wpAnyH_take (i := 23) (oi := ?_) (v := undef) ?ia23 (by kernel_rfl) ?fa23 ?ra23 ?Qa23 ?ya23 (by assumption) ?ta23
        case ia23 => (simp only [lk0, lk1, lk2]; rfl)
        case fa23 | ra23 => kernel_rfl
        case ya23 => exact Or.inr ⟨by rfl, rfl⟩
        case Qa23 => exact fun _ _ _ h => h
        (try simp only [Act.put, pk0, pk1, pk2])
        refine wpAnyH_take (i := 24) (oi := ?_) (v := undef) ?ia24 (by kernel_rfl) ?fa24 ?ra24 ?Qa24 ?ya24 (by assumption) ?ta24
        case ia24 => (simp only [lk0, lk1, lk2]; rfl)
        case fa24 | ra24 => kernel_rfl
        case ya24 => exact Or.inr ⟨by rfl, rfl⟩
        case Qa24 => exact fun _ _ _ h => h
        (try simp only [Act.put, pk0, pk1, pk2])
        refine wpAnyH_take (i := 25) (oi := ?_) (v := undef) ?ia25 (by kernel_rfl) ?fa25 ?ra25 ?Qa25 ?ya25 (by assumption) ?ta25
        case ia25 => (simp only [lk0, lk1, lk2]; rfl)
        case fa25 | ra25 => kernel_rfl
        case ya25 => exact Or.inr ⟨by rfl, rfl⟩
        case Qa25 => exact fun _ _ _ h => h
        (try simp only [Act.put, pk0, pk1, pk2])
        refine wpAnyH_take (i := 26) (oi := ?_) (v := undef) ?ia26 (by kernel_rfl) ?fa26 ?ra26 ?Qa26 ?ya26 (by assumption) ?ta26
        case ia26 => (simp only [lk0, lk1, lk2]; rfl)
        case fa26 | ra26 => kernel_rfl
        case ya26 => exact Or.inr ⟨by rfl, rfl⟩
        case Qa26 => exact fun _ _ _ h => h
        (try simp only [Act.put, pk0, pk1, pk2])
        refine wpAnyH_take (i := 27) (oi := ?_) (v := undef) ?ia27 (by kernel_rfl) ?fa27 ?ra27 ?Qa27 ?ya27 (by assumption) ?ta27
        case ia27 => (simp only [lk0, lk1, lk2]; rfl)
        case fa27 | ra27 => kernel_rfl
        case ya27 => exact Or.inr ⟨by rfl, rfl⟩
        case Qa27 => exact fun _ _ _ h => h
        (try simp only [Act.put, pk0, pk1, pk2])
        refine wpAnyH_take (i := 28) (oi := ?_) (v := undef) ?ia28 (by kernel_rfl) ?fa28 ?ra28 ?Qa28 ?ya28 (by assumption) ?ta28
        case ia28 => (simp only [lk0, lk1, lk2]; rfl)
        case fa28 | ra28 => kernel_rfl
        case ya28 => exact Or.inr ⟨by rfl, rfl⟩
        case Qa28 => exact fun _ _ _ h => h
        (try simp only [Act.put, pk0, pk1, pk2])
        refine wpAnyH_take (i := 29) (oi := ?_) (v := undef) ?ia29 (by kernel_rfl) ?fa29 ?ra29 ?Qa29 ?ya29 (by assumption) ?ta29
        case ia29 => (simp only [lk0, lk1, lk2]; rfl)
        case fa29 | ra29 => kernel_rfl
        case ya29 => exact Or.inr ⟨by rfl, rfl⟩
        case Qa29 => exact fun _ _ _ h => h
        (try simp only [Act.put, pk0, pk1, pk2])
        refine wpAnyH_take (i := 30) (oi := ?_) (v := undef) ?ia30 (by kernel_rfl) ?fa30 ?ra30 ?Qa30 ?ya30 (by assumption) ?ta30
        case ia30 => (simp only [lk0, lk1, lk2]; rfl)
        case fa30 | ra30 => kernel_rfl
        case ya30 => exact Or.inr ⟨by rfl, rfl⟩
        case Qa30 => exact fun _ _ _ h => h
        (try simp only [Act.put, pk0, pk1, pk2])
        refine wpAnyH_take (i := 31) (oi := ?_) (v := undef) ?ia31 (by kernel_rfl) ?fa31 ?ra31 ?Qa31 ?ya31 (by assumption) ?ta31
        case ia31 => (simp only [lk0, lk1, lk2]; rfl)
        case fa31 | ra31 => kernel_rfl
        case ya31 => exact Or.inr ⟨by rfl, rfl⟩
        case Qa31 => exact fun _ _ _ h => h
        (try simp only [Act.put, pk0, pk1, pk2])
        refine wpAnyH_take (i := 32) (oi := ?_) (v := undef) ?ia32 (by kernel_rfl) ?fa32 ?ra32 ?Qa32 ?ya32 (by assumption) ?ta32
        case ia32 => (simp only [lk0, lk1, lk2]; rfl)
        case fa32 | ra32 => kernel_rfl
        case ya32 => exact Or.inr ⟨by rfl, rfl⟩
        case Qa32 => exact fun _ _ _ h => h
        (try simp only [Act.put, pk0, pk1, pk2])
        refine wpAnyH_take (i := 33) (oi := ?_) (v := undef) ?ia33 (by kernel_rfl) ?fa33 ?ra33 ?Qa33 ?ya33 (by assumption) ?ta33
        case ia33 => (simp only [lk0, lk1, lk2]; rfl)
        case fa33 | ra33 => kernel_rfl
        case ya33 => exact Or.inr ⟨by rfl, rfl⟩
        case Qa33 => exact fun _ _ _ h => h
        (try simp only [Act.put, pk0, pk1, pk2])
        refine wpAnyH_take (i := 34) (oi := ?_) (v := undef) ?ia34 (by kernel_rfl) ?fa34 ?ra34 ?Qa34 ?ya34 (by assumption) ?ta34
        case ia34 => (simp only [lk0, lk1, lk2]; rfl)
        case fa34 | ra34 => kernel_rfl
        case ya34 => exact Or.inr ⟨by rfl, rfl⟩
        case Qa34 => exact fun _ _ _ h => h
        (try simp only [Act.put, pk0, pk1, pk2])
        refine wpAnyH_take (i := 35) (oi := ?_) (v := undef) ?ia35 (by kernel_rfl) ?fa35 ?ra35 ?Qa35 ?ya35 (by assumption) ?ta35
        case ia35 => (simp only [lk0, lk1, lk2]; rfl)
        case fa35 | ra35 => kernel_rfl
        case ya35 => exact Or.inr ⟨by rfl, rfl⟩
        case Qa35 => exact fun _ _ _ h => h
        (try simp only [Act.put, pk0, pk1, pk2])
        refine wpAnyH_take (i := 36) (oi := ?_) (v := undef) ?ia36 (by kernel_rfl) ?fa36 ?ra36 ?Qa36 ?ya36 (by assumption) ?ta36
        case ia36 => (simp only [lk0, lk1, lk2]; rfl)
        case fa36 | ra36 => kernel_rfl
        case ya36 => exact Or.inr ⟨by rfl, rfl⟩
        case Qa36 => exact fun _ _ _ h => h
        (try simp only [Act.put, pk0, pk1, pk2])
        refine zt [37, 38] ?_
        iterate 2 (refine zt1 (fun _ _ d _ _ h => by cases d <;> exact h) (by simp only [lk0, lk1, lk2]; rfl) (by kernel_rfl) (by assumption) (by rfl) (fun w h => by (try dsimp only at h); go_simp; (try with_reducible rfl)) ?_; (try simp only [Act.put, pk0, pk1, pk2]))
        refine zt0 ?_
        refine wpAnyH_done (by kernel_rfl) ?_ _
        have HG := Lib.hid (show P0 w w.heap.size b off l c wr.heap.size g o d SS q9 d9 I F Z q m d2 w4 from he4)
        have hz4 := he4.2.2.2.2.2.2.2.2.2.2.1.size
        clear he4 HE
        obtain ⟨y0, y1, y2, y3, y4, y5, y6, y7, y8, y9, y10, y11, y12, y13, y14, y15, y16⟩ := HG.out
        clear y1 y2 y3 y5 y6 y7 y8 y9 y10 y11
        go_wp2_with fail
        go_at_call 72; refine (refFinite_any _ _ _ _ _ _ _ _).mono ?_; rintro e w5 ⟨rfl, hb5⟩
        rw [HFI.out]
        have HG5 := Lib.hid (p0_step HG.out hb5)
        clear hb5 y0 y4 y12 y13 y14 y15 y16 HG
        obtain ⟨y0, y1, y2, y3, y4, y5, y6, y7, y8, y9, y10, y11, y12, y13, y14, y15, y16⟩ := HG5.out
        clear y1 y2 y3 y5 y6 y7 y8 y9 y10 y11
        go_wp2_with fail
        go_at_call 76; refine (signbit_any _ HFL.out _).mono ?_; rintro e w6 ⟨rfl, rfl⟩
        rw [HNG.out]
        clear y0 y4 y12 y13 y14 y15 y16
        go_wp2
        go_roundw
        case rel => exact ⟨0 + 1, by omega, by go_num, HG5.out.2.2.2.2.2.2.2.2.2.2.1, HG5.out.2.2.2.2.2.2.2.2.2.2.2.1⟩
        case measure => simp [intOf]; omega
      · obtain ⟨k, rfl⟩ : ∃ k, i = k + 1 := ⟨i - 1, by omega⟩
        obtain ⟨u0, u1, u2, u3, u4, d0, d1, d2', d3, d4, hrp⟩ := hit k (by rw [List.length_map]; omega)
        rw [List.getElem_map] at hrp
        obtain ⟨⟨S2, V2⟩, hsv2⟩ : ∃ e, e = ES[k]'(by omega) := ⟨_, rfl⟩
        rw [← hsv2] at hrp
        have hrp' : Rep w (n + 2) (.agg #[u0, u1, u2, u3, u4]) (pairT n S2 V2) := hrp
        have hs2 : (ES.map (·.1))[k]'(by rw [List.length_map]; omega) = S2 := by rw [List.getElem_map, ← hsv2]
        have HLT := Lib.hid (show ltB S2 SS = true by rw [← hs1, ← hs2]; exact HNMS.out.2 k (k + 1) _ _ (by omega))
        obtain ⟨g', o', d', hvv, n3⟩ := pair_nm hrp'
        injection hvv with hvv
        simp only [Array.mk.injEq, List.cons.injEq, and_true] at hvv
        obtain ⟨rfl, rfl, rfl, rfl, rfl⟩ := hvv
        have HE := Lib.hid (show P1 k g' o' d' S2 w w.heap.size b off l c wr.heap.size g o d SS q9 d9 I F Z q m d2 (wr.alloc (.cells #[.int .i64 4, .int .i64 0, .float .f64 0, .string ⟨#[]⟩, .slice (some ⟨g, o, none⟩) 2 d] 27)) from ⟨hcc d4, hcc n3, hP0⟩)
        have hx0 : Op.bytesLess S2.toList SS.toList = true := HLT.out
        have hk0 : (0 : Int) < ((k + 1 : Nat) : Int) := Int.natCast_pos.2 (Nat.succ_pos k)
        have hk1 : (k : Int) < (l : Int) := Int.ofNat_lt.2 (Nat.lt_of_succ_lt hlt)
        have hk2 : (0 : Int) ≤ (k : Int) := Int.natCast_nonneg k
        have hw1 : IntKind.i64.wrap (k : Int) = (k : Int) := by rw [IntKind.wrap_i64]; omega
        have hw2 : wrap64 (k : Int) = (k : Int) := by unfold wrap64; omega
        have dlt := cell_lt (hcc d0)
        clear c0 c1 c2 c3 c4 hit hre hre' hP0 hAL d0 d1 d2' d3 d4 hrp hrp' hcc n3
        go_upto_region 7 with fail
        clear e0 e1 e2 e3 e4
        refine wp_region_held_drew (S := (fun z => z.cell? ⟨b, off + k * 5 + 4, none⟩ = some (.slice (some ⟨g', o', none⟩) 2 d') ∧ z.cell? ⟨g', o' + 3, none⟩ = some (.string S2) ∧ z.cell? ⟨wr.heap.size, 0, none⟩ = some (.int .i64 4) ∧ z.cell? ⟨wr.heap.size, 1, none⟩ = some (.int .i64 0) ∧ z.cell? ⟨wr.heap.size, 2, none⟩ = some (.float .f64 0) ∧ z.cell? ⟨wr.heap.size, 3, none⟩ = some (.string ⟨#[]⟩) ∧ z.cell? ⟨wr.heap.size, 4, none⟩ = some (.slice (some ⟨g, o, none⟩) 2 d) ∧ z.cell? ⟨g, o, none⟩ = some (.int .i64 3) ∧ z.cell? ⟨g, o + 1, none⟩ = some (.int .i64 0) ∧ z.cell? ⟨g, o + 2, none⟩ = some (.float .f64 0) ∧ z.cell? ⟨g, o + 3, none⟩ = some (.string SS) ∧ z.cell? ⟨g, o + 4, none⟩ = some (.slice q9 0 d9) ∧ Below w.heap.size w z ∧ z.cell? ⟨w.heap.size, 4, none⟩ = some (.slice (some ⟨b, off, none⟩) l c) ∧ z.cell? ⟨g, o + 5, none⟩ = some (.int .i64 2) ∧ z.cell? ⟨g, o + 5 + 1, none⟩ = some (.int .i64 I) ∧ z.cell? ⟨g, o + 5 + 2, none⟩ = some (.float .f64 F) ∧ z.cell? ⟨g, o + 5 + 3, none⟩ = some (.string Z) ∧ z.cell? ⟨g, o + 5 + 4, none⟩ = some (.slice q m d2))) (by kernel_rfl) ?_ (fun hH => ?_)
        · exact p1_step HE.out (Below.drew br)
        refine zt [0, 1, 2, 3, 4, 5, 6, 7, 8, 9, 10, 11, 12, 13] ?_
        iterate 14 (refine zt1 (fun _ _ d _ _ h => by cases d <;> exact h) (by simp only [lk0, lk1, lk2]; rfl) (by kernel_rfl) (by assumption) (by rfl) (fun w h => by (try dsimp only at h); go_simp; (try with_reducible rfl)) ?_; (try simp only [Act.put, pk0, pk1, pk2]))
        refine zt0 ?_
        refine zr1 14 (by kernel_rfl) (by simp only [lk0, lk1, lk2]; rfl) (fun K hK => ?_)
        go_simp
        go_at_call 75; refine (named_yes HNM.out _ _ _ _ _ _).mono ?_; rintro e w4 ⟨rfl, hb4⟩; have he4 := p1_step (show P1 k g' o' d' S2 w w.heap.size b off l c wr.heap.size g o d SS q9 d9 I F Z q m d2 _ from hH) hb4; clear hb4
        go_wp2_with fail
        refine hK.out _ _ ?hsb14 (fun hH => ?_)
        case hsb14 => exact he4
        clear hK K
        (try simp only [Act.put, pk0, pk1, pk2])
        refine zt [15, 16, 17, 18, 19, 20, 21, 22, 23, 24, 25, 26, 27, 28, 29, 30, 31, 32, 33, 34, 35, 36, 37, 38] ?_
        iterate 24 (refine zt1 (fun _ _ d _ _ h => by cases d <;> exact h) (by simp only [lk0, lk1, lk2]; rfl) (by kernel_rfl) (by assumption) (by rfl) (fun w h => by (try dsimp only at h); go_simp; (try with_reducible rfl)) ?_; (try simp only [Act.put, pk0, pk1, pk2]))
        refine zt0 ?_
        refine wpAnyH_done (by kernel_rfl) ?_ _
        have HG := Lib.hid (show P0 w w.heap.size b off l c wr.heap.size g o d SS q9 d9 I F Z q m d2 w4 from he4.2.2)
        have hz4 := he4.2.2.2.2.2.2.2.2.2.2.2.2.1.size
        clear he4 HE
        obtain ⟨y0, y1, y2, y3, y4, y5, y6, y7, y8, y9, y10, y11, y12, y13, y14, y15, y16⟩ := HG.out
        clear y1 y2 y3 y5 y6 y7 y8 y9 y10 y11
        go_wp2_with fail
        go_at_call 72; refine (refFinite_any _ _ _ _ _ _ _ _).mono ?_; rintro e w5 ⟨rfl, hb5⟩
        rw [HFI.out]
        have HG5 := Lib.hid (p0_step HG.out hb5)
        clear hb5 y0 y4 y12 y13 y14 y15 y16 HG
        obtain ⟨y0, y1, y2, y3, y4, y5, y6, y7, y8, y9, y10, y11, y12, y13, y14, y15, y16⟩ := HG5.out
        clear y1 y2 y3 y5 y6 y7 y8 y9 y10 y11
        go_wp2_with fail
        go_at_call 76; refine (signbit_any _ HFL.out _).mono ?_; rintro e w6 ⟨rfl, rfl⟩
        rw [HNG.out]
        clear y0 y4 y12 y13 y14 y15 y16
        go_wp2
        go_roundw
        case rel => exact ⟨k + 1 + 1, by omega, by go_num, HG5.out.2.2.2.2.2.2.2.2.2.2.1, HG5.out.2.2.2.2.2.2.2.2.2.2.2.1⟩
        case measure => simp [intOf]; omega
    · obtain rfl : i = l := by omega
      go_wp2
      go_ret
      exact ⟨rfl, hB⟩
end Num
end Go.Proofs.YtpbfaffheigjcaaGreat
/-
  Package ledger: Right, on a ledger that is right.
-/
namespace Go.Proofs.YtpbfaffheigjcaaGreat
open Go.RowKit
namespace Num
open Ints
set_option linter.unusedSimpArgs false
set_option linter.unusedVariables false
def OkL (n : Nat) (ES : List (ByteArray × VT (n + 1))) : Prop := Names (ES.map (·.1)) ∧ ES.length ≤ 32 ∧ ∀ e ∈ ES, AccV e.2
theorem lisName_any (s : ByteArray) (q : Option Addr) (d : Nat) (w : World) (hn : nmV 3 s = true) (hs : s.size ≤ maxLen) : Calls Tryz.prog 73 #[.agg #[.int .i64 3, .int .i64 0, .float .f64 0, .string s, .slice q 0 d]] w fun e w' => e = .returned (.bool true) ∧ Below w.heap.size w w' := by
  unfold nmV at hn
  rw [Bool.and_eq_true, Bool.and_eq_true, decide_eq_true_iff, decide_eq_true_iff, decide_eq_true_iff] at hn
  obtain ⟨_, h1, h2⟩ := hn
  have g1 : (0 : Int) < (s.size : Int) := by omega
  have g2 : (s.size : Int) ≤ 32 := by omega
  unfold maxLen at hs
  go_enter Tryz.func73, Tryz.ntmps73
  go_wp2
  go_ret
  exact ⟨rfl, bel_alloc (Below.refl w.heap.size w) _⟩
theorem isHolding_any (I : Int) (F : Nat) (Z : ByteArray) (q : Option Addr) (m d : Nat) (w : World) (hF : F < 2 ^ 64) (hf : finV 2 F = true) (hs : negW F = false) : Calls Tryz.prog 74 #[.agg #[.int .i64 2, .int .i64 I, .float .f64 F, .string Z, .slice q m d]] w fun e w' => e = .returned (.bool true) ∧ Below w.heap.size w w' := by
  have HF := Lib.hid hF
  have HN := Lib.hid hf
  have HS := Lib.hid (show Calls Tryz.prog 76 #[.float .f64 F] w (fun e w' => e = .returned (.bool false) ∧ w = w') ∧ ∀ W, Calls Tryz.prog 76 #[.float .f64 F] W (fun e w' => e = .returned (.bool false) ∧ W = w') from ⟨by have h := signbit_any F hF w; rw [hs] at h; exact h, fun W => by have h := signbit_any F hF W; rw [hs] at h; exact h⟩)
  have HB := Lib.hid (bel_alloc (Below.refl w.heap.size w) (.cells #[.int .i64 2, .int .i64 I, .float .f64 F, .string Z, .slice q m d] 27))
  have HR := Lib.hid (row_alloc w #[.int .i64 2, .int .i64 I, .float .f64 F, .string Z, .slice q m d] 27)
  clear hF hf hs
  go_enter Tryz.func74, Tryz.ntmps74
  go_wp2_with fail
  go_at_call 106; refine (finite_is HN.out HF.out I Z q m d _).mono ?_; rintro e w1 ⟨rfl, hb1⟩
  have x := row_step HR.out hb1
  have HB1 := Lib.hid (bel_step HB.out hb1)
  have a2 := rc x 2
  have al := row_lt x
  clear hb1 x
  go_wp2_with fail
  go_at_call 76; refine (HS.out.2 _).mono ?_; rintro e w2 ⟨rfl, rfl⟩
  go_wp2
  go_ret
  exact ⟨rfl, HB1.out⟩
set_option maxRecDepth 100000 in
set_option maxHeartbeats 4000000 in
theorem isAccount_any (n : Nat) (v : Value) (s : ByteArray) (V : VT (n + 1)) (w : World) (h : Rep w (n + 2) v (pairT n s V)) (hn : nmV 3 s = true) (ha : AccV V) : Calls Tryz.prog 39 #[v] w fun e w' => e = .returned (.bool true) ∧ Below w.heap.size w w' := by
  obtain ⟨g, o, c, rfl, ⟨c0, c1, c2, c3, q, d, c4, _⟩, hs, K, I, F, Z, q2, m2, d2, ⟨x0, x1, x2, x3, x4⟩, hr⟩ := pair_mem h
  obtain ⟨rfl, hFe, hi⟩ := hold_shape ⟨ha.1, rfl⟩ hr
  have hF : F < 2 ^ 64 := by
    obtain ⟨p', l', c', hv, _, _, h3, _⟩ := hr
    rw [hFe] at h3; exact h3
  have hf : finV 2 F = true := by have := ha.2.1; rw [hFe] at this; exact this
  have hg : negW F = false := by have := ha.2.2; rw [hFe] at this; exact this
  have HH := Lib.hid (fun W => isHolding_any I F Z q2 m2 d2 W hF hf hg)
  have HI := Lib.hid (fun W => lisName_any s q d W hn hs)
  have hlt : g < w.heap.size := cell_lt c0
  have hne : w.heap.size ≠ g := by omega
  have HB := Lib.hid (bel_alloc (Below.refl w.heap.size w) (.cells #[.int .i64 4, .int .i64 0, .float .f64 0, .string ⟨#[]⟩, .slice (some ⟨g, o, none⟩) 2 c] 27))
  have HRW := Lib.hid (row_alloc w #[.int .i64 4, .int .i64 0, .float .f64 0, .string ⟨#[]⟩, .slice (some ⟨g, o, none⟩) 2 c] 27)
  have HX := Lib.hid (show ∀ W, Below w.heap.size w W → W.cell? ⟨g, o + 5, none⟩ = some (.int .i64 2) ∧ W.cell? ⟨g, o + 5 + 1, none⟩ = some (.int .i64 I) ∧ W.cell? ⟨g, o + 5 + 2, none⟩ = some (.float .f64 F) ∧ W.cell? ⟨g, o + 5 + 3, none⟩ = some (.string Z) ∧ W.cell? ⟨g, o + 5 + 4, none⟩ = some (.slice q2 m2 d2) from fun W hb => ⟨ck hb x0, ck hb x1, ck hb x2, ck hb x3, ck hb x4⟩)
  clear h hr x0 x1 x2 x3 x4 hF hf hg hFe hn hs ha hi
  go_enter Tryz.func39, Tryz.ntmps39
  go_wp2_with fail
  go_at_call 73; refine (HI.out _).mono ?_; rintro e w1 ⟨rfl, hb1⟩
  have HB1 := Lib.hid (bel_step HB.out hb1)
  have y := row_step HRW.out hb1
  have y4 := rc y 4
  have yl := row_lt y
  obtain ⟨x0, x1, x2, x3, x4⟩ := HX.out _ HB1.out
  have xl := cell_lt x0
  clear hb1 y HI HB HRW c0 c1 c2 c3 c4
  go_wp2_with fail
  go_at_call 74; refine (HH.out _).mono ?_; rintro e w2 ⟨rfl, hb2⟩
  have HB2 := Lib.hid (bel_step HB1.out hb2)
  clear hb2 x0 x1 x2 x3 x4 y4
  go_wp2
  go_ret
  exact ⟨rfl, HB2.out⟩
def LR0 (n : Nat) (w : World) (sb b off l c eb g o d : Nat) (s : ByteArray) (V : VT (n + 1)) (z : World) : Prop := z.cell? ⟨eb, 0, none⟩ = some (.int .i64 4) ∧ z.cell? ⟨eb, 1, none⟩ = some (.int .i64 0) ∧ z.cell? ⟨eb, 2, none⟩ = some (.float .f64 0) ∧ z.cell? ⟨eb, 3, none⟩ = some (.string ⟨#[]⟩) ∧ z.cell? ⟨eb, 4, none⟩ = some (.slice (some ⟨g, o, none⟩) 2 d) ∧ Below w.heap.size w z ∧ Rep z (n + 2) (.agg #[.int .i64 4, .int .i64 0, .float .f64 0, .string ⟨#[]⟩, .slice (some ⟨g, o, none⟩) 2 d]) (pairT n s V) ∧ z.cell? ⟨sb, 4, none⟩ = some (.slice (some ⟨b, off, none⟩) l c)
theorem lr0_step {n : Nat} {w x y : World} {sb b off l c eb g o d : Nat} {s : ByteArray} {V : VT (n + 1)} (h : LR0 n w sb b off l c eb g o d s V x) (hb : Below x.heap.size x y) : LR0 n w sb b off l c eb g o d s V y :=
  ⟨ck hb h.1, ck hb h.2.1, ck hb h.2.2.1, ck hb h.2.2.2.1, ck hb h.2.2.2.2.1, bel_step h.2.2.2.2.2.1 hb, rep_keep hb _ _ _ h.2.2.2.2.2.2.1, ck hb h.2.2.2.2.2.2.2⟩
theorem lr0_drew {n : Nat} {w x : World} {sb b off l c eb g o d : Nat} {s : ByteArray} {V : VT (n + 1)} (h : LR0 n w sb b off l c eb g o d s V x) : LR0 n w sb b off l c eb g o d s V x.drew := lr0_step h (Below.drew br)
def LR1 (n : Nat) (w : World) (sb b off l c k g' o' d' : Nat) (s' : ByteArray) (V' : VT (n + 1)) (eb g o d : Nat) (s : ByteArray) (V : VT (n + 1)) (z : World) : Prop := z.cell? ⟨b, off + k * 5, none⟩ = some (.int .i64 4) ∧ z.cell? ⟨b, off + k * 5 + 1, none⟩ = some (.int .i64 0) ∧ z.cell? ⟨b, off + k * 5 + 2, none⟩ = some (.float .f64 0) ∧ z.cell? ⟨b, off + k * 5 + 3, none⟩ = some (.string ⟨#[]⟩) ∧ z.cell? ⟨b, off + k * 5 + 4, none⟩ = some (.slice (some ⟨g', o', none⟩) 2 d') ∧ Rep z (n + 2) (.agg #[.int .i64 4, .int .i64 0, .float .f64 0, .string ⟨#[]⟩, .slice (some ⟨g', o', none⟩) 2 d']) (pairT n s' V') ∧ LR0 n w sb b off l c eb g o d s V z
theorem lr1_step {n : Nat} {w x y : World} {sb b off l c k g' o' d' : Nat} {s' : ByteArray} {V' : VT (n + 1)} {eb g o d : Nat} {s : ByteArray} {V : VT (n + 1)} (h : LR1 n w sb b off l c k g' o' d' s' V' eb g o d s V x) (hb : Below x.heap.size x y) : LR1 n w sb b off l c k g' o' d' s' V' eb g o d s V y :=
  ⟨ck hb h.1, ck hb h.2.1, ck hb h.2.2.1, ck hb h.2.2.2.1, ck hb h.2.2.2.2.1, rep_keep hb _ _ _ h.2.2.2.2.2.1, lr0_step h.2.2.2.2.2.2 hb⟩
theorem lr1_drew {n : Nat} {w x : World} {sb b off l c k g' o' d' : Nat} {s' : ByteArray} {V' : VT (n + 1)} {eb g o d : Nat} {s : ByteArray} {V : VT (n + 1)} (h : LR1 n w sb b off l c k g' o' d' s' V' eb g o d s V x) : LR1 n w sb b off l c k g' o' d' s' V' eb g o d s V x.drew := lr1_step h (Below.drew br)
set_option maxRecDepth 100000 in
set_option maxHeartbeats 4000000 in
theorem lright_any (n : Nat) (v : Value) (ES : List (ByteArray × VT (n + 1))) (w : World) (hr : Rep w (n + 3) v (tableT n ES)) (hok : OkL n ES) : Calls Tryz.prog 15 #[v] w fun e w' => e = .returned (.bool true) ∧ Below w.heap.size w w' := by
  obtain ⟨hnm, hl32, hac⟩ := hok
  have HAC := Lib.hid hac
  obtain ⟨p, l, c, rfl, hrl⟩ := led_mem hr
  have HRL := Lib.hid hrl
  have HLEN := Lib.hid (show ES.length = l by have := hrl.1; rw [List.length_map] at this; exact this)
  have HNMS := Lib.hid hnm
  have hl : (l : Int) ≤ 32 := by have := HLEN.out; omega
  have hl0 : (0 : Int) ≤ (l : Int) := by omega
  obtain ⟨oa, hoa⟩ : ∃ o, Obj.cells #[.int .i64 4, .int .i64 0, .float .f64 0, .string ⟨#[]⟩, .slice p l c] 27 = o := ⟨_, rfl⟩
  have HB := Lib.hid (bel_alloc (Below.refl w.heap.size w) oa)
  have ra := row_alloc w #[.int .i64 4, .int .i64 0, .float .f64 0, .string ⟨#[]⟩, .slice p l c] 27
  rw [hoa] at ra
  have HRA := Lib.hid ra
  subst hoa
  clear ra hrl hnm hl32 hr hac
  go_enter Tryz.func15, Tryz.ntmps15
  go_wp2
  have HB1 := HB
  have HRA1 := HRA
  go_loopw [17] (fun iv wr => ∃ i : Nat, i ≤ l ∧ iv = .int .i64 i ∧ Below w.heap.size w wr ∧ wr.cell? ⟨w.heap.size, 4, none⟩ = some (.slice p l c)) (fun iv _ => l - (intOf iv).toNat)
  case atStart => exact ⟨0, by omega, rfl, HB1.out, rc HRA1.out 4⟩
  case round =>
    obtain ⟨i, hil, rfl, hB, hS⟩ := hrel
    by_cases hlt : i < l
    · obtain ⟨b, off, hpb, hit⟩ := HRL.out.2.2.2 (by omega)
      subst hpb
      have hei : i < ES.length := by have := HLEN.out; omega
      obtain ⟨v0, v1, v2, v3, v4, c0, c1, c2, c3, c4, hre⟩ := hit i (by rw [List.length_map]; exact hei)
      rw [List.getElem_map] at hre
      obtain ⟨⟨SS, VV⟩, hsv⟩ : ∃ e, e = ES[i] := ⟨_, rfl⟩
      rw [← hsv] at hre
      have hre' : Rep w (n + 2) (.agg #[v0, v1, v2, v3, v4]) (pairT n SS VV) := hre
      have hmem : i < (ES.map (·.1)).length := by rw [List.length_map]; exact hei
      have hs1 : (ES.map (·.1))[i] = SS := by rw [List.getElem_map, ← hsv]
      have HACC := Lib.hid (show AccV VV from by have := HAC.out (ES[i]) (List.getElem_mem hei); rw [← hsv] at this; exact this)
      have HNM := Lib.hid (show nmV 3 SS = true from HNMS.out.1 SS (by rw [← hs1]; exact List.getElem_mem hmem))
      obtain ⟨g, o, d, rfl, rfl, rfl, rfl, rfl⟩ := pair_shape hre'
      have e0 := ck hB c0; have e1 := ck hB c1; have e2 := ck hB c2; have e3 := ck hB c3; have e4 := ck hB c4
      have elt := cell_lt e0
      have hslt := cell_lt hS
      have hi0 : (0 : Int) ≤ (i : Int) := by omega
      have hil2 : (i : Int) < (l : Int) := by omega
      have hAL := bel_alloc (Below.refl wr.heap.size wr) (.cells #[.int .i64 4, .int .i64 0, .float .f64 0, .string ⟨#[]⟩, .slice (some ⟨g, o, none⟩) 2 d] 27)
      have HB2 := Lib.hid (bel_step hB hAL)
      have hR0 : LR0 n w w.heap.size b off l c wr.heap.size g o d SS VV (wr.alloc (.cells #[.int .i64 4, .int .i64 0, .float .f64 0, .string ⟨#[]⟩, .slice (some ⟨g, o, none⟩) 2 d] 27)) := by
        have hcs := cs_row (row_alloc wr #[.int .i64 4, .int .i64 0, .float .f64 0, .string ⟨#[]⟩, .slice (some ⟨g, o, none⟩) 2 d] 27)
        exact ⟨hcs.1, hcs.2.1, hcs.2.2.1, hcs.2.2.2.1, hcs.2.2.2.2, HB2.out, rep_keep HB2.out _ _ _ hre', ck hAL hS⟩
      rcases Nat.eq_zero_or_pos i with h0 | h0
      · subst h0
        have HE := Lib.hid hR0
        simp only [Nat.zero_mul, Nat.add_zero] at e0 e1 e2 e3 e4
        clear c0 c1 c2 c3 c4 hit hre hre' hR0 hAL
        go_upto_region 6 with fail
        clear e0 e1 e2 e3 e4
        refine wp_region_held_drew (S := (fun z => z.cell? ⟨wr.heap.size, 0, none⟩ = some (.int .i64 4) ∧ z.cell? ⟨wr.heap.size, 1, none⟩ = some (.int .i64 0) ∧ z.cell? ⟨wr.heap.size, 2, none⟩ = some (.float .f64 0) ∧ z.cell? ⟨wr.heap.size, 3, none⟩ = some (.string ⟨#[]⟩) ∧ z.cell? ⟨wr.heap.size, 4, none⟩ = some (.slice (some ⟨g, o, none⟩) 2 d) ∧ Below w.heap.size w z ∧ Rep z (n + 2) (.agg #[.int .i64 4, .int .i64 0, .float .f64 0, .string ⟨#[]⟩, .slice (some ⟨g, o, none⟩) 2 d]) (pairT n SS VV) ∧ z.cell? ⟨w.heap.size, 4, none⟩ = some (.slice (some ⟨b, off, none⟩) l c))) (by kernel_rfl) ?_ (fun hH => ?_)
        · exact lr0_drew HE.out
        refine zt [0] ?_
        refine zt1 (fun _ _ d _ _ h => by cases d <;> exact h) (by simp only [lk0, lk1, lk2]; rfl) (by kernel_rfl) (by assumption) (by rfl) (fun w h => by (try dsimp only at h); go_simp; (try with_reducible rfl)) ?_; (try simp only [Act.put, pk0, pk1, pk2])
        refine zt0 ?_
        refine zr1 1 (by kernel_rfl) (by simp only [lk0, lk1, lk2]; rfl) (fun K hK => ?_)
        go_simp
        go_at_call 39; refine (isAccount_any n _ SS VV _ (show LR0 n w w.heap.size b off l c wr.heap.size g o d SS VV _ from hH).2.2.2.2.2.2.1 HNM.out HACC.out).mono ?_; rintro e w4 ⟨rfl, hb4⟩; have he4 := lr0_step (show LR0 n w w.heap.size b off l c wr.heap.size g o d SS VV _ from hH) hb4; clear hb4
        go_wp2_with fail
        refine hK.out _ _ ?hsa1 (fun hH => ?_)
        case hsa1 => exact he4
        clear hK K
        (try simp only [Act.put, pk0, pk1, pk2])
        refine zt [2, 3, 4, 5, 6] ?_
        iterate 5 (refine zt1 (fun _ _ d _ _ h => by cases d <;> exact h) (by simp only [lk0, lk1, lk2]; rfl) (by kernel_rfl) (by assumption) (by rfl) (fun w h => by (try dsimp only at h); go_simp; (try with_reducible rfl)) ?_; (try simp only [Act.put, pk0, pk1, pk2]))
        refine zt0 ?_
        refine wpAnyH_take (i := 7) (oi := ?_) (v := undef) ?ia7 (by kernel_rfl) ?fa7 ?ra7 ?Qa7 ?ya7 (by assumption) ?ta7
        case ia7 => (simp only [lk0, lk1, lk2]; rfl)
        case fa7 | ra7 => kernel_rfl
        case ya7 => exact Or.inr ⟨by rfl, rfl⟩
        case Qa7 => exact fun _ _ _ h => h
        (try simp only [Act.put, pk0, pk1, pk2])
        refine wpAnyH_take (i := 8) (oi := ?_) (v := undef) ?ia8 (by kernel_rfl) ?fa8 ?ra8 ?Qa8 ?ya8 (by assumption) ?ta8
        case ia8 => (simp only [lk0, lk1, lk2]; rfl)
        case fa8 | ra8 => kernel_rfl
        case ya8 => exact Or.inr ⟨by rfl, rfl⟩
        case Qa8 => exact fun _ _ _ h => h
        (try simp only [Act.put, pk0, pk1, pk2])
        refine wpAnyH_take (i := 9) (oi := ?_) (v := undef) ?ia9 (by kernel_rfl) ?fa9 ?ra9 ?Qa9 ?ya9 (by assumption) ?ta9
        case ia9 => (simp only [lk0, lk1, lk2]; rfl)
        case fa9 | ra9 => kernel_rfl
        case ya9 => exact Or.inr ⟨by rfl, rfl⟩
        case Qa9 => exact fun _ _ _ h => h
        (try simp only [Act.put, pk0, pk1, pk2])
        refine wpAnyH_take (i := 10) (oi := ?_) (v := undef) ?ia10 (by kernel_rfl) ?fa10 ?ra10 ?Qa10 ?ya10 (by assumption) ?ta10
        case ia10 => (simp only [lk0, lk1, lk2]; rfl)
        case fa10 | ra10 => kernel_rfl
        case ya10 => exact Or.inr ⟨by rfl, rfl⟩
        case Qa10 => exact fun _ _ _ h => h
        (try simp only [Act.put, pk0, pk1, pk2])
        refine wpAnyH_take (i := 11) (oi := ?_) (v := undef) ?ia11 (by kernel_rfl) ?fa11 ?ra11 ?Qa11 ?ya11 (by assumption) ?ta11
        case ia11 => (simp only [lk0, lk1, lk2]; rfl)
        case fa11 | ra11 => kernel_rfl
        case ya11 => exact Or.inr ⟨by rfl, rfl⟩
        case Qa11 => exact fun _ _ _ h => h
        (try simp only [Act.put, pk0, pk1, pk2])
        refine wpAnyH_take (i := 12) (oi := ?_) (v := undef) ?ia12 (by kernel_rfl) ?fa12 ?ra12 ?Qa12 ?ya12 (by assumption) ?ta12
        case ia12 => (simp only [lk0, lk1, lk2]; rfl)
        case fa12 | ra12 => kernel_rfl
        case ya12 => exact Or.inr ⟨by rfl, rfl⟩
        case Qa12 => exact fun _ _ _ h => h
        (try simp only [Act.put, pk0, pk1, pk2])
        refine wpAnyH_take (i := 13) (oi := ?_) (v := undef) ?ia13 (by kernel_rfl) ?fa13 ?ra13 ?Qa13 ?ya13 (by assumption) ?ta13
        case ia13 => (simp only [lk0, lk1, lk2]; rfl)
        case fa13 | ra13 => kernel_rfl
        case ya13 => exact Or.inr ⟨by rfl, rfl⟩
        case Qa13 => exact fun _ _ _ h => h
        (try simp only [Act.put, pk0, pk1, pk2])
        refine wpAnyH_take (i := 14) (oi := ?_) (v := undef) ?ia14 (by kernel_rfl) ?fa14 ?ra14 ?Qa14 ?ya14 (by assumption) ?ta14
        case ia14 => (simp only [lk0, lk1, lk2]; rfl)
        case fa14 | ra14 => kernel_rfl
        case ya14 => exact Or.inr ⟨by rfl, rfl⟩
        case Qa14 => exact fun _ _ _ h => h
        (try simp only [Act.put, pk0, pk1, pk2])
        refine wpAnyH_take (i := 15) (oi := ?_) (v := undef) ?ia15 (by kernel_rfl) ?fa15 ?ra15 ?Qa15 ?ya15 (by assumption) ?ta15
        case ia15 => (simp only [lk0, lk1, lk2]; rfl)
        case fa15 | ra15 => kernel_rfl
        case ya15 => exact Or.inr ⟨by rfl, rfl⟩
        case Qa15 => exact fun _ _ _ h => h
        (try simp only [Act.put, pk0, pk1, pk2])
        refine wpAnyH_take (i := 16) (oi := ?_) (v := undef) ?ia16 (by kernel_rfl) ?fa16 ?ra16 ?Qa16 ?ya16 (by assumption) ?ta16
        case ia16 => (simp only [lk0, lk1, lk2]; rfl)
        case fa16 | ra16 => kernel_rfl
        case ya16 => exact Or.inr ⟨by rfl, rfl⟩
        case Qa16 => exact fun _ _ _ h => h
        (try simp only [Act.put, pk0, pk1, pk2])
        refine zt [17, 18] ?_
        iterate 2 (refine zt1 (fun _ _ d _ _ h => by cases d <;> exact h) (by simp only [lk0, lk1, lk2]; rfl) (by kernel_rfl) (by assumption) (by rfl) (fun w h => by (try dsimp only at h); go_simp; (try with_reducible rfl)) ?_; (try simp only [Act.put, pk0, pk1, pk2]))
        refine zt0 ?_
        refine wpAnyH_done (by kernel_rfl) ?_ _
        have HF := Lib.hid (show LR0 n w w.heap.size b off l c wr.heap.size g o d SS VV w4 from he4)
        go_wp2
        go_roundw
        case rel => exact ⟨0 + 1, by omega, by go_num, HF.out.2.2.2.2.2.1, HF.out.2.2.2.2.2.2.2⟩
        case measure => simp [intOf]; omega
      · obtain ⟨k, rfl⟩ : ∃ k, i = k + 1 := ⟨i - 1, by omega⟩
        obtain ⟨u0, u1, u2, u3, u4, d0, d1, d2, d3, d4, hrp⟩ := hit k (by rw [List.length_map]; omega)
        rw [List.getElem_map] at hrp
        obtain ⟨⟨S2, V2⟩, hsv2⟩ : ∃ e, e = ES[k]'(by omega) := ⟨_, rfl⟩
        rw [← hsv2] at hrp
        have hrp' : Rep w (n + 2) (.agg #[u0, u1, u2, u3, u4]) (pairT n S2 V2) := hrp
        have hs2 : (ES.map (·.1))[k]'(by rw [List.length_map]; omega) = S2 := by rw [List.getElem_map, ← hsv2]
        have HLT := Lib.hid (show ltB S2 SS = true by rw [← hs1, ← hs2]; exact HNMS.out.2 k (k + 1) _ _ (by omega))
        obtain ⟨g', o', d', rfl, rfl, rfl, rfl, rfl⟩ := pair_shape hrp'
        have hcc := fun {a : Addr} {v : Value} (h : w.cell? a = some v) => ck HB2.out h
        have HE := Lib.hid (show LR1 n w w.heap.size b off l c k g' o' d' S2 V2 wr.heap.size g o d SS VV (wr.alloc (.cells #[.int .i64 4, .int .i64 0, .float .f64 0, .string ⟨#[]⟩, .slice (some ⟨g, o, none⟩) 2 d] 27)) from ⟨hcc d0, hcc d1, hcc d2, hcc d3, hcc d4, rep_keep HB2.out _ _ _ hrp', hR0⟩)
        have hx0 : Op.bytesLess S2.toList SS.toList = true := HLT.out
        have hw1 : IntKind.i64.wrap (k : Int) = (k : Int) := by rw [IntKind.wrap_i64]; omega
        have hw2 : wrap64 (k : Int) = (k : Int) := by unfold wrap64; omega
        have hk0 : (0 : Int) < ((k + 1 : Nat) : Int) := by omega
        have hk1 : (k : Int) < (l : Int) := by omega
        have hk2 : (0 : Int) ≤ (k : Int) := by omega
        have dlt := cell_lt (hcc d0)
        clear c0 c1 c2 c3 c4 hit hre hre' hR0 hAL d0 d1 d2 d3 d4 hrp hrp' hcc
        go_upto_region 6 with fail
        clear e0 e1 e2 e3 e4
        refine wp_region_held_drew (S := (fun z => z.cell? ⟨b, off + k * 5, none⟩ = some (.int .i64 4) ∧ z.cell? ⟨b, off + k * 5 + 1, none⟩ = some (.int .i64 0) ∧ z.cell? ⟨b, off + k * 5 + 2, none⟩ = some (.float .f64 0) ∧ z.cell? ⟨b, off + k * 5 + 3, none⟩ = some (.string ⟨#[]⟩) ∧ z.cell? ⟨b, off + k * 5 + 4, none⟩ = some (.slice (some ⟨g', o', none⟩) 2 d') ∧ Rep z (n + 2) (.agg #[.int .i64 4, .int .i64 0, .float .f64 0, .string ⟨#[]⟩, .slice (some ⟨g', o', none⟩) 2 d']) (pairT n S2 V2) ∧ z.cell? ⟨wr.heap.size, 0, none⟩ = some (.int .i64 4) ∧ z.cell? ⟨wr.heap.size, 1, none⟩ = some (.int .i64 0) ∧ z.cell? ⟨wr.heap.size, 2, none⟩ = some (.float .f64 0) ∧ z.cell? ⟨wr.heap.size, 3, none⟩ = some (.string ⟨#[]⟩) ∧ z.cell? ⟨wr.heap.size, 4, none⟩ = some (.slice (some ⟨g, o, none⟩) 2 d) ∧ Below w.heap.size w z ∧ Rep z (n + 2) (.agg #[.int .i64 4, .int .i64 0, .float .f64 0, .string ⟨#[]⟩, .slice (some ⟨g, o, none⟩) 2 d]) (pairT n SS VV) ∧ z.cell? ⟨w.heap.size, 4, none⟩ = some (.slice (some ⟨b, off, none⟩) l c))) (by kernel_rfl) ?_ (fun hH => ?_)
        · exact lr1_drew HE.out
        refine zt [0] ?_
        refine zt1 (fun _ _ d _ _ h => by cases d <;> exact h) (by simp only [lk0, lk1, lk2]; rfl) (by kernel_rfl) (by assumption) (by rfl) (fun w h => by (try dsimp only at h); go_simp; (try with_reducible rfl)) ?_; (try simp only [Act.put, pk0, pk1, pk2])
        refine zt0 ?_
        refine zr1 1 (by kernel_rfl) (by simp only [lk0, lk1, lk2]; rfl) (fun K hK => ?_)
        go_simp
        go_at_call 39; refine (isAccount_any n _ SS VV _ (show LR1 n w w.heap.size b off l c k g' o' d' S2 V2 wr.heap.size g o d SS VV _ from hH).2.2.2.2.2.2.2.2.2.2.2.2.1 HNM.out HACC.out).mono ?_; rintro e w4 ⟨rfl, hb4⟩; have he4 := lr1_step (show LR1 n w w.heap.size b off l c k g' o' d' S2 V2 wr.heap.size g o d SS VV _ from hH) hb4; clear hb4
        go_wp2_with fail
        refine hK.out _ _ ?hsb1 (fun hH => ?_)
        case hsb1 => exact he4
        clear hK K
        (try simp only [Act.put, pk0, pk1, pk2])
        refine zt [2, 3, 4, 5, 6, 7, 8, 9, 10, 11, 12, 14] ?_
        iterate 12 (refine zt1 (fun _ _ d _ _ h => by cases d <;> exact h) (by simp only [lk0, lk1, lk2]; rfl) (by kernel_rfl) (by assumption) (by rfl) (fun w h => by (try dsimp only at h); go_simp; (try with_reducible rfl)) ?_; (try simp only [Act.put, pk0, pk1, pk2]))
        refine zt0 ?_
        refine zr1 13 (by kernel_rfl) (by simp only [lk0, lk1, lk2]; rfl) (fun K hK => ?_)
        go_simp
        go_at_call 40; refine (nameOf_any _ _ _ _ _ _ _ S2 _ (by decide) (pair_name he4.2.2.2.2.2.1).2.2.2.2.2).mono ?_; rintro e w5 ⟨rfl, hb5⟩; have he5 := lr1_step he4 hb5; clear hb5
        go_wp2_with fail
        refine hK.out _ _ ?hsb13 (fun hH => ?_)
        case hsb13 => exact he5
        clear hK K
        (try simp only [Act.put, pk0, pk1, pk2])
        refine zr1 15 (by kernel_rfl) (by simp only [lk0, lk1, lk2]; rfl) (fun K hK => ?_)
        go_simp
        go_at_call 40; refine (nameOf_any _ _ _ _ _ _ _ SS _ (by decide) (pair_name he5.2.2.2.2.2.2.2.2.2.2.2.2.1).2.2.2.2.2).mono ?_; rintro e w6 ⟨rfl, hb5⟩; have he6 := lr1_step he5 hb5; clear hb5
        go_wp2_with fail
        refine hK.out _ _ ?hsb15 (fun hH => ?_)
        case hsb15 => exact he6
        clear hK K
        (try simp only [Act.put, pk0, pk1, pk2])
        refine zt [16, 17, 18] ?_
        iterate 3 (refine zt1 (fun _ _ d _ _ h => by cases d <;> exact h) (by simp only [lk0, lk1, lk2]; rfl) (by kernel_rfl) (by assumption) (by rfl) (fun w h => by (try dsimp only at h); go_simp; (try with_reducible rfl)) ?_; (try simp only [Act.put, pk0, pk1, pk2]))
        refine zt0 ?_
        refine wpAnyH_done (by kernel_rfl) ?_ _
        have HF := Lib.hid (show LR1 n w w.heap.size b off l c k g' o' d' S2 V2 wr.heap.size g o d SS VV w6 from he6)
        go_wp2
        go_roundw
        case rel => exact ⟨k + 1 + 1, by omega, by go_num, HF.out.2.2.2.2.2.2.2.2.2.2.2.1, HF.out.2.2.2.2.2.2.2.2.2.2.2.2.2⟩
        case measure => simp [intOf]; omega
    · obtain rfl : i = l := by omega
      go_wp2
      go_ret
      exact ⟨rfl, hB⟩
end Num
end Go.Proofs.YtpbfaffheigjcaaGreat
