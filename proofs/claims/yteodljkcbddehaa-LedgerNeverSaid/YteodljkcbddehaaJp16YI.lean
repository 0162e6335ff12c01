/-
  Package ledger: opened, deposit (good roads).
-/
import Derived.Test.YteodljkcbddehaaJMI
import Derived.Test.YteodljkcbddehaaJp15YE
import Derived.Test.YteodljkcbddehaaJHH
import Derived.Deep.RegionHeld3
import Derived.RegionTactic
import Derived.Deep.DeepCutAuto
import Derived.Test.YteodljkcbddehaaJp2Flo
import Derived.Test.YteodljkcbddehaaJp13RDa
namespace Go.Proofs.Yteodljkcbddehaa
open Go.RowKit
namespace Num
open Ints
set_option linter.unusedSimpArgs false
set_option linter.unusedVariables false
def AmtOk (K I : Int) (F G : Nat) : Prop := F < 2 ^ 64 ∧ okI I ∧ finV K F = true ∧ 0 < signV K I F ∧ asF K I F = G ∧ opV 0 2 0 0 K I F = (2, 0, G, 0)
theorem amount_is {K3 I3 : Int} {F3 G : Nat} (h : AmtOk K3 I3 F3 G) (S3 : ByteArray) (q3 : Option Addr) (m3 d3 : Nat) (w : World) : Calls Try.prog 58 #[.agg #[.int .i64 K3, .int .i64 I3, .float .f64 F3, .string S3, .slice q3 m3 d3]] w fun e w' => e = .returned (.tuple #[.agg #[.int .i64 2, .int .i64 0, .float .f64 G, .string ⟨#[]⟩, .slice none 0 0], .int .i64 0]) ∧ Below w.heap.size w w' := by
  obtain ⟨h1, h2, h3, h4, rfl, h6⟩ := h
  exact amount_ok K3 I3 F3 S3 q3 m3 d3 w h1 h2 h3 h4 h6
theorem repL_acc {w w' : World} {n : Nat} {p : Option Addr} {l c : Nat} {L : List (VT (n + 2))} (hb : Below w.heap.size w w') (h : RepL w (Rep w (n + 2)) p l c L) : RepL w' (Rep w' (n + 2)) p l c L := repL_keep hb (fun v T hv => rep_keep hb _ _ _ hv) h
set_option maxRecDepth 100000 in
set_option maxHeartbeats 4000000 in
theorem opened_new (n : Nat) (p : Option Addr) (l c a : Nat) (k : ByteArray) (ES : List (ByteArray × VT (n + 1))) (w0 w : World) (HBW : Hid (Below w0.heap.size w0 w)) (HL : Hid (RepL w0 (Rep w0 (n + 2)) p l c (ES.map (pairE n)))) (hl : l ≤ 32) (hl2 : l < 32) (hal : a ≤ l) (hs : Spot (ES.map (·.1)) k a false) (HK : Hid (Rep w0 (n + 1) (.agg #[.int .i64 3, .int .i64 0, .float .f64 0, .string k, .slice none 0 0]) (3, 0, 0, k, []))) :
    Calls Try.prog 31 #[.slice p l c, .string k] w fun e w' => ∃ p' c', e = .returned (.tuple #[.slice p' (a + 1 + (l - a)) c', .int .i64 0]) ∧ Below w.heap.size w w' ∧ NewL n w0 w w' p' (a + 1 + (l - a)) c' ((ES.map (pairE n)).take a ++ ([pairT n k (floT n 0)] ++ (ES.map (pairE n)).drop a)) := by
  have TR0 := Lib.hid (Below.refl w.heap.size w)
  have HE := Lib.hid (entsL_step (ents_of HL.out (by omega)) HBW.out)
  have HS := Lib.hid hs
  have hll : ((l : Int) == 32) = false := by rw [beq_eq_false_iff_ne]; omega
  clear hs
  go_enter Try.func31, Try.ntmps31
  go_wp2_with fail
  go_at_call 52; refine (lfind_any _ _ c a (ES.map (·.1)) k false _ (entsL_step HE.out TR0.out) HS.out).mono ?_; rintro e w1 ⟨rfl, hbw1⟩
  have TR1 := Lib.hid (show Below w.heap.size w w1 from bel_step TR0.out hbw1)
  clear TR0
  clear hbw1
  go_wp2_with fail
  go_at_call 55; refine (nothing_any _).mono ?_; rintro e w2 ⟨rfl, hbw2⟩
  have TR2 := Lib.hid (show Below w.heap.size w w2 from bel_step TR1.out hbw2)
  clear TR1
  clear hbw2
  go_wp2_with fail
  have hle4 : w.heap.size ≤ w2.heap.size := TR2.out.size
  go_at_call 54; refine (account_any k 2 0 0 _ none 0 0 _).mono ?_; rintro e w3 ⟨ge, rfl, hbw3, hge, hrow⟩
  have TR3 := Lib.hid (show Below w.heap.size w w3 from bel_step TR2.out hbw3)
  clear TR2
  have TR4 := Lib.hid (show w3.heap[ge]? = some (.cells #[.int .i64 3, .int .i64 0, .float .f64 0, .string k, .slice none 0 0, .int .i64 2, .int .i64 0, .float .f64 0, .string ⟨#[]⟩, .slice none 0 0] 27 (0, 0)) ∧ Below w.heap.size w w3 from ⟨hrow, TR3.out⟩)
  clear TR3
  clear hrow
  clear hbw3
  go_wp2_with fail
  have hlt5 : ge < w3.heap.size := row_lt TR4.out.1
  have hlt6 : w.heap.size ≤ w3.heap.size := TR4.out.2.size
  have TR5 := Lib.hid (show (fun z0 : World => z0.heap[ge]? = some (.cells #[.int .i64 3, .int .i64 0, .float .f64 0, .string k, .slice none 0 0, .int .i64 2, .int .i64 0, .float .f64 0, .string ⟨#[]⟩, .slice none 0 0] 27 (0, 0)) ∧ ZL z0 w3.heap.size (some ⟨ge, 0, none⟩) 2 2 ∧ Below w.heap.size w z0) (w3.alloc (.cells #[.int .i64 4, .int .i64 0, .float .f64 0, .string ⟨#[]⟩, .slice (some ⟨ge, 0, none⟩) 2 2] 27)) from ⟨row_alloc_step TR4.out.1 _, (ra (by simp only [World.size_alloc, World.size_drew])), bel_step TR4.out.2 (bel_alloc br _)⟩)
  go_at_call 53; refine (lspliced_is (rq_one n ge k (floT n 0) w0) p l c a a (ES.map (pairE n)) (some ⟨w3.heap.size, 0, none⟩) 1 1 [pairT n k (floT n 0)] _ _ rfl (rq_old (bel_step HBW.out TR5.out.2.2) HL.out) (rq_new TR5.out.2.1) (Nat.le_refl _) hal (by omega) (by omega)).mono ?_; rintro e w7 ⟨p6, c6, rfl, hbw7, hy6⟩
  have TR6 := Lib.hid (And.intro (row_step TR5.out.1 hbw7) (And.intro (row_step TR5.out.2.1 hbw7) (bel_step TR5.out.2.2 hbw7)))
  clear TR5
  have HY := Lib.hid hy6
  clear hy6
  clear hbw7
  go_wp2
  go_ret2
  refine ⟨p6, c6, rfl, TR6.out.2.2, fun y hby hst => ?_⟩
  have hrow := TR6.out.1
  exact repL_mono (rq_rep hby ((hst ge (by omega) (row_lt hrow)).trans hrow) HK.out (flo_repn n w0 (by decide))) (HY.out y (fun b h1 h2 => hst b (by simp only [World.size_alloc] at h1; omega) h2))
set_option maxRecDepth 100000 in
set_option maxHeartbeats 4000000 in
theorem deposit_ok (n : Nat) (b off l c a : Nat) (k : ByteArray) (K3 I3 : Int) (F3 : Nat) (S3 : ByteArray) (q3 : Option Addr) (m3 d3 : Nat) (G FV : Nat) (ES : List (ByteArray × VT (n + 1))) (Va : VT (n + 1)) (w0 w : World) (HBW : Hid (Below w0.heap.size w0 w)) (HL : Hid (RepL w0 (Rep w0 (n + 2)) (some ⟨b, off, none⟩) l c (ES.map (pairE n)))) (hl : l ≤ 32) (hal : a < ES.length) (hll : ES.length = l) (hka : ES[a]'hal = (k, Va)) (hs : Spot (ES.map (·.1)) k a true) (HA : Hid (AmtOk K3 I3 F3 G))
    (hv : Va.1 = 2 ∧ Va.2.2.1 = FV) (hsu : finV 2 (Flo.cop .add FV G) = true) (HKa : Hid (Rep w0 (n + 1) (.agg #[.int .i64 3, .int .i64 0, .float .f64 0, .string k, .slice none 0 0]) (3, 0, 0, k, []))) (HVa : Hid (Rep w0 (n + 1) (.agg #[.int .i64 2, .int .i64 0, .float .f64 (Flo.cop .add FV G), .string ⟨#[]⟩, .slice none 0 0]) (floT n (Flo.cop .add FV G)))) :
    Calls Try.prog 33 #[.slice (some ⟨b, off, none⟩) l c, .string k, .agg #[.int .i64 K3, .int .i64 I3, .float .f64 F3, .string S3, .slice q3 m3 d3]] w fun e w' => ∃ p' c', e = .returned (.tuple #[.slice p' (a + 1 + (l - (a + 1))) c', .agg #[.int .i64 2, .int .i64 0, .float .f64 (Flo.cop .add FV G), .string ⟨#[]⟩, .slice none 0 0], .int .i64 0]) ∧ Below w.heap.size w w' ∧ NewL n w0 w w' p' (a + 1 + (l - (a + 1))) c' ((ES.map (pairE n)).take a ++ ([pairT n k (floT n (Flo.cop .add FV G))] ++ (ES.map (pairE n)).drop (a + 1))) := by
  have TR1 := Lib.hid (show (fun z0 : World => Zw z0 w.heap.size (.int .i64 K3) (.int .i64 I3) (.float .f64 F3) (.string S3) (.slice q3 m3 d3) ∧ Zz z0 (w.heap.size + 1) ∧ Below w.heap.size w z0) ((w.alloc (.cells #[.int .i64 K3, .int .i64 I3, .float .f64 F3, .string S3, .slice q3 m3 d3] 27)).alloc (.cells #[.int .i64 0, .int .i64 0, .float .f64 0, .string ⟨#[]⟩, .slice none 0 0] 27)) from ⟨row_alloc_step (row_alloc w #[.int .i64 K3, .int .i64 I3, .float .f64 F3, .string S3, .slice q3 m3 d3] 27) _, (ra (by simp only [World.size_alloc, World.size_drew])), bel_alloc (bel_alloc (Below.refl w.heap.size w) _) _⟩)
  have HE := Lib.hid (entsL_step (ents_of HL.out (by omega)) HBW.out)
  obtain ⟨ga, oa, cga, hc0, hc1, hc2, hc3, hc4, hp⟩ := acc_at (repL_acc HBW.out HL.out) (show a < ES.length from by omega)
  rw [hka] at hp
  have HCa0 := Lib.hid hc0
  have HCa1 := Lib.hid hc1
  have HCa2 := Lib.hid hc2
  have HCa3 := Lib.hid hc3
  have HCa4 := Lib.hid hc4
  have HPa := Lib.hid hp
  have hba := cell_lt hc0
  have ha1 : (0 : Int) ≤ (a : Int) := by omega
  have ha2 : (a : Int) < (l : Int) := by omega
  clear hc0 hc1 hc2 hc3 hc4 hp
  have HS := Lib.hid hs
  have HVV := Lib.hid hv
  have HSU := Lib.hid hsu
  clear hs hv hsu hka
  go_enter Try.func33, Try.ntmps33
  go_wp2_with fail
  go_at_call 58; refine (amount_is HA.out S3 q3 m3 d3 _).mono ?_; rintro e w8 ⟨rfl, hbw8⟩
  have TR2 := Lib.hid (And.intro (row_step TR1.out.1 hbw8) (And.intro (row_step TR1.out.2.1 hbw8) (bel_step TR1.out.2.2 hbw8)))
  clear TR1
  clear hbw8
  obtain ⟨c0_0, c0_1, c0_2, c0_3, c0_4, c0f, c0l⟩ := r7 TR2.out.1
  go_wp2_with fail
  have TR3 := Lib.hid (show (fun z0 : World => ZF z0 w.heap.size G ∧ Zz z0 (w.heap.size + 1) ∧ Below w.heap.size w z0) (((((w8.setCell ⟨w.heap.size, 0, none⟩ (.int .i64 2)).setCell ⟨w.heap.size, 1, none⟩ (.int .i64 0)).setCell ⟨w.heap.size, 2, none⟩ (.float .f64 G)).setCell ⟨w.heap.size, 3, none⟩ (.string ⟨#[]⟩)).setCell ⟨w.heap.size, 4, none⟩ (.slice none 0 0)) from ⟨s5r TR2.out.1, s5o TR2.out.2.1 (by omega), s5b TR2.out.2.2 (by omega)⟩)
  clear TR2
  clear c0_0 c0_1 c0_2 c0_3 c0_4 c0f c0l
  go_at_call 52; refine (lfind_any _ _ c a (ES.map (·.1)) k true _ (entsL_step HE.out TR3.out.2.2) HS.out).mono ?_; rintro e w9 ⟨rfl, hbw9⟩
  have TR4 := Lib.hid (And.intro (row_step TR3.out.1 hbw9) (And.intro (row_step TR3.out.2.1 hbw9) (bel_step TR3.out.2.2 hbw9)))
  clear TR3
  clear hbw9
  go_upto_region 7 with fail
  have TR5 := Lib.hid (And.intro (row_step TR4.out.1 (Below.drew br)) (And.intro (row_step TR4.out.2.1 (Below.drew br)) (bel_step TR4.out.2.2 (Below.drew br))))
  clear TR4
  refine wp_region_held_drew (S := (fun z => z.cell? ⟨w.heap.size, 0, none⟩ = some (.int .i64 2) ∧ z.cell? ⟨w.heap.size, 1, none⟩ = some (.int .i64 0) ∧ z.cell? ⟨w.heap.size, 2, none⟩ = some (.float .f64 G) ∧ z.cell? ⟨w.heap.size, 3, none⟩ = some (.string ⟨#[]⟩) ∧ z.cell? ⟨w.heap.size, 4, none⟩ = some (.slice none 0 0) ∧ z.cell? ⟨b, off + a * 5, none⟩ = some (.int .i64 4) ∧ z.cell? ⟨b, off + a * 5 + 1, none⟩ = some (.int .i64 0) ∧ z.cell? ⟨b, off + a * 5 + 2, none⟩ = some (.float .f64 0) ∧ z.cell? ⟨b, off + a * 5 + 3, none⟩ = some (.string ⟨#[]⟩) ∧ z.cell? ⟨b, off + a * 5 + 4, none⟩ = some (.slice (some ⟨ga, oa, none⟩) 2 cga))) (by kernel_rfl) ?_ (fun hH => ?_)
  · exact ⟨rc TR5.out.1 0, rc TR5.out.1 1, rc TR5.out.1 2, rc TR5.out.1 3, rc TR5.out.1 4, ck TR5.out.2.2 HCa0.out, ck TR5.out.2.2 HCa1.out, ck TR5.out.2.2 HCa2.out, ck TR5.out.2.2 HCa3.out, ck TR5.out.2.2 HCa4.out⟩
  refine zt [0, 1, 2, 3, 4] ?_
  iterate 5 (refine zt1 (fun _ _ d _ _ h => by cases d <;> exact h) (by simp only [lk0, lk1, lk2]; rfl) (by kernel_rfl) (by assumption) (by rfl) (fun w h => by (try dsimp only at h); go_simp; (try with_reducible rfl)) ?_; (try simp only [Act.put, pk0, pk1, pk2]))
  refine zt0 ?_
  refine zr1 5 (by kernel_rfl) (by simp only [lk0, lk1, lk2]; rfl) (fun K hK => ?_)
  go_simp
  go_at_call 59; refine (more_ok n ga oa cga k Va G _ (rep_keep TR5.out.2.2 _ _ _ HPa.out) FV HVV.out HSU.out).mono ?_; rintro e w16 ⟨rfl, hbw16⟩
  have TR6 := Lib.hid (And.intro (row_step TR5.out.1 hbw16) (And.intro (row_step TR5.out.2.1 hbw16) (bel_step TR5.out.2.2 hbw16)))
  clear TR5
  clear hbw16
  go_wp2_with fail
  refine hK.out _ _ ?hsv15_ (fun hH => ?_)
  case hsv15_ => exact ⟨rc TR6.out.1 0, rc TR6.out.1 1, rc TR6.out.1 2, rc TR6.out.1 3, rc TR6.out.1 4, ck TR6.out.2.2 HCa0.out, ck TR6.out.2.2 HCa1.out, ck TR6.out.2.2 HCa2.out, ck TR6.out.2.2 HCa3.out, ck TR6.out.2.2 HCa4.out⟩
  clear hK K
  (try simp only [Act.put, pk0, pk1, pk2])
  refine zt [6, 7, 8] ?_
  iterate 3 (refine zt1 (fun _ _ d _ _ h => by cases d <;> exact h) (by simp only [lk0, lk1, lk2]; rfl) (by kernel_rfl) (by assumption) (by rfl) (fun w h => by (try dsimp only at h); go_simp; (try with_reducible rfl)) ?_; (try simp only [Act.put, pk0, pk1, pk2]))
  refine zt0 ?_
  refine zr1 9 (by kernel_rfl) (by simp only [lk0, lk1, lk2]; rfl) (fun K hK => ?_)
  obtain ⟨b30, b31, b32, b33, b34, b3f, b3l⟩ := r7 TR6.out.2.1; go_simp
  have TR7 := Lib.hid (show (fun z0 : World => ZF z0 w.heap.size G ∧ ZF z0 (w.heap.size + 1) (Flo.cop .add FV G) ∧ Below w.heap.size w z0) (((((w16.setCell ⟨w.heap.size + 1, 0, none⟩ (.int .i64 2)).setCell ⟨w.heap.size + 1, 1, none⟩ (.int .i64 0)).setCell ⟨w.heap.size + 1, 2, none⟩ (.float .f64 (Flo.cop .add FV G))).setCell ⟨w.heap.size + 1, 3, none⟩ (.string ⟨#[]⟩)).setCell ⟨w.heap.size + 1, 4, none⟩ (.slice none 0 0)) from ⟨s5o TR6.out.1 (by omega), s5r TR6.out.2.1, s5b TR6.out.2.2 (by omega)⟩)
  clear TR6
  clear b30 b31 b32 b33 b34 b3f b3l
  go_wp2_with fail
  refine hK.out _ _ ?hsv20_ (fun hH => ?_)
  case hsv20_ => exact ⟨rc TR7.out.1 0, rc TR7.out.1 1, rc TR7.out.1 2, rc TR7.out.1 3, rc TR7.out.1 4, ck TR7.out.2.2 HCa0.out, ck TR7.out.2.2 HCa1.out, ck TR7.out.2.2 HCa2.out, ck TR7.out.2.2 HCa3.out, ck TR7.out.2.2 HCa4.out⟩
  clear hK K
  (try simp only [Act.put, pk0, pk1, pk2])
  refine zt [10] ?_
  refine zt1 (fun _ _ d _ _ h => by cases d <;> exact h) (by simp only [lk0, lk1, lk2]; rfl) (by kernel_rfl) (by assumption) (by rfl) (fun w h => by (try dsimp only at h); go_simp; (try with_reducible rfl)) ?_; (try simp only [Act.put, pk0, pk1, pk2])
  refine zt0 ?_
  refine wpAnyH_done (by kernel_rfl) ?_ _
  revert TR7
  generalize (((((w16.setCell ⟨w.heap.size + 1, 0, none⟩ (.int .i64 2)).setCell ⟨w.heap.size + 1, 1, none⟩ (.int .i64 0)).setCell ⟨w.heap.size + 1, 2, none⟩ (.float .f64 (Flo.cop .add FV G))).setCell ⟨w.heap.size + 1, 3, none⟩ (.string ⟨#[]⟩)).setCell ⟨w.heap.size + 1, 4, none⟩ (.slice none 0 0)) = Wm
  intro TR7
  go_upto_region 10 with fail
  have hltW : w.heap.size + 1 < Wm.drew.heap.size := row_lt TR7.out.2.1
  have TR8 := Lib.hid (And.intro (row_step TR7.out.1 (Below.drew br)) (And.intro (row_step TR7.out.2.1 (Below.drew br)) (bel_step TR7.out.2.2 (Below.drew br))))
  clear TR7
  refine wp_region_held_drew (S := (fun z => z.cell? ⟨w.heap.size + 1, 0, none⟩ = some (.int .i64 2) ∧ z.cell? ⟨w.heap.size + 1, 1, none⟩ = some (.int .i64 0) ∧ z.cell? ⟨w.heap.size + 1, 2, none⟩ = some (.float .f64 (Flo.cop .add FV G)) ∧ z.cell? ⟨w.heap.size + 1, 3, none⟩ = some (.string ⟨#[]⟩) ∧ z.cell? ⟨w.heap.size + 1, 4, none⟩ = some (.slice none 0 0))) (by kernel_rfl) ?_ (fun hH => ?_)
  · exact ⟨rc TR8.out.2.1 0, rc TR8.out.2.1 1, rc TR8.out.2.1 2, rc TR8.out.2.1 3, rc TR8.out.2.1 4⟩
  refine zt [0, 1, 2, 4] ?_
  iterate 4 (refine zt1 (fun _ _ d _ _ h => by cases d <;> exact h) (by simp only [lk0, lk1, lk2]; rfl) (by kernel_rfl) (by assumption) (by rfl) (fun w h => by (try dsimp only at h); go_simp; (try with_reducible rfl)) ?_; (try simp only [Act.put, pk0, pk1, pk2]))
  refine zt0 ?_
  refine zr1 3 (by kernel_rfl) (by simp only [lk0, lk1, lk2]; rfl) (fun K hK => ?_)
  go_simp
  go_at_call 60; refine (having_any n b off l c a k 2 0 (Flo.cop .add FV G) _ none 0 0 (ES.map (pairE n)) (floT n (Flo.cop .add FV G)) ga oa cga Va w0 _ (Lib.hid (bel_step HBW.out TR8.out.2.2)) HL (by omega) hl (Lib.hid ⟨ck TR8.out.2.2 HCa0.out, ck TR8.out.2.2 HCa1.out, ck TR8.out.2.2 HCa2.out, ck TR8.out.2.2 HCa3.out, ck TR8.out.2.2 HCa4.out⟩) (Lib.hid (rep_keep TR8.out.2.2 _ _ _ HPa.out)) HKa HVa).mono ?_; rintro e w28 ⟨p6, c6, rfl, hbw28, hy6⟩
  have TR9 := Lib.hid (And.intro (row_step TR8.out.1 hbw28) (And.intro (row_step TR8.out.2.1 hbw28) (bel_step TR8.out.2.2 hbw28)))
  clear TR8
  have TR10 := Lib.hid (show ZF w28 w.heap.size G ∧ ZF w28 (w.heap.size + 1) (Flo.cop .add FV G) ∧ (Stay Wm.drew.heap.size w28 w28 ∧ w28.heap.size ≤ w28.heap.size) ∧ Below w.heap.size w w28 from ⟨TR9.out.1, TR9.out.2.1, ⟨stay_refl _ _, Nat.le_refl _⟩, TR9.out.2.2⟩)
  clear TR9
  have HY := Lib.hid hy6
  clear hy6
  clear hbw28
  go_wp2_with fail
  refine hK.out _ _ ?hsv26_ (fun hH => ?_)
  case hsv26_ => exact ⟨rc TR10.out.2.1 0, rc TR10.out.2.1 1, rc TR10.out.2.1 2, rc TR10.out.2.1 3, rc TR10.out.2.1 4⟩
  clear hK K
  (try simp only [Act.put, pk0, pk1, pk2])
  refine zt [5] ?_
  refine zt1 (fun _ _ d _ _ h => by cases d <;> exact h) (by simp only [lk0, lk1, lk2]; rfl) (by kernel_rfl) (by assumption) (by rfl) (fun w h => by (try dsimp only at h); go_simp; (try with_reducible rfl)) ?_; (try simp only [Act.put, pk0, pk1, pk2])
  refine zt0 ?_
  refine zr1 6 (by kernel_rfl) (by simp only [lk0, lk1, lk2]; rfl) (fun K hK => ?_)
  obtain ⟨b30, b31, b32, b33, b34, b3f, b3l⟩ := r7 TR10.out.2.1; go_simp
  have TR11 := Lib.hid (show (fun z0 : World => ZF z0 w.heap.size G ∧ ZF z0 (w.heap.size + 1) (Flo.cop .add FV G) ∧ (Stay Wm.drew.heap.size w28 z0 ∧ w28.heap.size ≤ z0.heap.size) ∧ Below w.heap.size w z0) (((((w28.setCell ⟨w.heap.size + 1, 0, none⟩ (.int .i64 2)).setCell ⟨w.heap.size + 1, 1, none⟩ (.int .i64 0)).setCell ⟨w.heap.size + 1, 2, none⟩ (.float .f64 (Flo.cop .add FV G))).setCell ⟨w.heap.size + 1, 3, none⟩ (.string ⟨#[]⟩)).setCell ⟨w.heap.size + 1, 4, none⟩ (.slice none 0 0)) from ⟨s5o TR10.out.1 (by omega), s5r TR10.out.2.1, ⟨stay_set TR10.out.2.2.1.1 (by omega) (.int .i64 2) (.int .i64 0) (.float .f64 (Flo.cop .add FV G)) (.string ⟨#[]⟩) (.slice none 0 0), by show _ ≤ (set5 w28 (w.heap.size + 1) 0 (.int .i64 2) (.int .i64 0) (.float .f64 (Flo.cop .add FV G)) (.string ⟨#[]⟩) (.slice none 0 0)).heap.size; rw [set5_size]; exact TR10.out.2.2.1.2⟩, s5b TR10.out.2.2.2 (by omega)⟩)
  clear TR10
  clear b30 b31 b32 b33 b34 b3f b3l
  go_wp2_with fail
  refine hK.out _ _ ?hsv30_ (fun hH => ?_)
  case hsv30_ => exact ⟨rc TR11.out.2.1 0, rc TR11.out.2.1 1, rc TR11.out.2.1 2, rc TR11.out.2.1 3, rc TR11.out.2.1 4⟩
  clear hK K
  (try simp only [Act.put, pk0, pk1, pk2])
  refine zt [7] ?_
  refine zt1 (fun _ _ d _ _ h => by cases d <;> exact h) (by simp only [lk0, lk1, lk2]; rfl) (by kernel_rfl) (by assumption) (by rfl) (fun w h => by (try dsimp only at h); go_simp; (try with_reducible rfl)) ?_; (try simp only [Act.put, pk0, pk1, pk2])
  refine zt0 ?_
  refine wpAnyH_done (by kernel_rfl) ?_ _
  revert TR11
  generalize (((((w28.setCell ⟨w.heap.size + 1, 0, none⟩ (.int .i64 2)).setCell ⟨w.heap.size + 1, 1, none⟩ (.int .i64 0)).setCell ⟨w.heap.size + 1, 2, none⟩ (.float .f64 (Flo.cop .add FV G))).setCell ⟨w.heap.size + 1, 3, none⟩ (.string ⟨#[]⟩)).setCell ⟨w.heap.size + 1, 4, none⟩ (.slice none 0 0)) = Wf
  intro TR11
  obtain ⟨c1_0, c1_1, c1_2, c1_3, c1_4, c1f, c1l⟩ := r7 TR11.out.2.1
  go_wp2
  refine bodyPost_ret (v := .tuple #[.slice p6 (a + 1 + (l - (a + 1))) c6, .agg #[.int .i64 2, .int .i64 0, .float .f64 (Flo.cop .add FV G), .string ⟨#[]⟩, .slice none 0 0], .int .i64 0]) (by simp [results, Try.results33, go_sem, c1_0, c1_1, c1_2, c1_3, c1_4]) rfl ⟨p6, c6, rfl, TR11.out.2.2.2, fun y hby hst => ?_⟩
  exact HY.out y hby (fun b h1 h2 => (hst b (by omega) (Nat.lt_of_lt_of_le h2 TR11.out.2.2.1.2)).trans (TR11.out.2.2.1.1 b h1 h2))
end Num
end Go.Proofs.Yteodljkcbddehaa
/-
  Package ledger: having over any relation.
-/
namespace Go.Proofs.Yteodljkcbddehaa
open Go.RowKit
namespace Num
open Ints
set_option linter.unusedSimpArgs false
set_option linter.unusedVariables false
def RO (n ge : Nat) (R : Value → VT (n + 2) → Prop) (k : ByteArray) (V : VT (n + 1)) : Value → VT (n + 2) → Prop := fun v T => R v T ∨ (v = .agg #[.int .i64 4, .int .i64 0, .float .f64 0, .string ⟨#[]⟩, .slice (some ⟨ge, 0, none⟩) 2 2] ∧ T = pairT n k V)
theorem ro_one {n ge : Nat} {R : Value → VT (n + 2) → Prop} (hR : One5 R) (k : ByteArray) (V : VT (n + 1)) : One5 (RO n ge R k V) := by
  intro u0 u1 u2 u3 u4 T h
  rcases h with h | ⟨h, _⟩
  · exact hR _ _ _ _ _ _ h
  · injection h with h
    simp only [Array.mk.injEq, List.cons.injEq, and_true] at h
    obtain ⟨rfl, rfl, rfl, rfl, rfl⟩ := h
    exact ⟨rfl, rfl, rfl, rfl, rfl⟩
theorem ro_old {n ge : Nat} {R : Value → VT (n + 2) → Prop} {k : ByteArray} {V : VT (n + 1)} {w x : World} {p : Option Addr} {l c : Nat} {L : List (VT (n + 2))} (hb : Below w.heap.size w x) (h : RepL w R p l c L) : RepL x (RO n ge R k V) p l c L := repL_keep hb (fun _ _ h => Or.inl h) h
theorem ro_new {n ge g : Nat} {R : Value → VT (n + 2) → Prop} {k : ByteArray} {V : VT (n + 1)} {x : World} (h : x.heap[g]? = some (.cells #[.int .i64 4, .int .i64 0, .float .f64 0, .string ⟨#[]⟩, .slice (some ⟨ge, 0, none⟩) 2 2] 27 (0, 0))) : RepL x (RO n ge R k V) (some ⟨g, 0, none⟩) 1 1 [pairT n k V] := row1_rep h (Or.inr ⟨rfl, rfl⟩)
theorem set_at {α : Type} (L : List α) (i : Nat) (x : α) (h : i < L.length) : L.take i ++ ([x] ++ L.drop (i + 1)) = L.set i x := by
  rw [List.set_eq_take_append_cons_drop, if_pos h]; rfl
theorem ro_at {w0 w : World} {n ge b off l c i : Nat} {k0 : ByteArray} {V0 : VT (n + 1)} {K0 I0 : Int} {F0 : Nat} {S0 : ByteArray} {q0 : Option Addr} {m0 d0 : Nat} {L : List (VT (n + 2))} {k : ByteArray} {V : VT (n + 1)} (hb : Below w0.heap.size w0 w) (h : RepL w (RO n ge (Rep w0 (n + 2)) k0 V0) (some ⟨b, off, none⟩) l c L) (hi : i < L.length) (he : L[i] = pairT n k V)
    (hrow : w.heap[ge]? = some (.cells #[.int .i64 3, .int .i64 0, .float .f64 0, .string k0, .slice none 0 0, .int .i64 K0, .int .i64 I0, .float .f64 F0, .string S0, .slice q0 m0 d0] 27 (0, 0))) : ∃ g o cg, w.cell? ⟨b, off + i * 5, none⟩ = some (.int .i64 4) ∧ w.cell? ⟨b, off + i * 5 + 1, none⟩ = some (.int .i64 0) ∧ w.cell? ⟨b, off + i * 5 + 2, none⟩ = some (.float .f64 0) ∧ w.cell? ⟨b, off + i * 5 + 3, none⟩ = some (.string ⟨#[]⟩) ∧ w.cell? ⟨b, off + i * 5 + 4, none⟩ = some (.slice (some ⟨g, o, none⟩) 2 cg) ∧
    NameAt w (some ⟨g, o, none⟩) k := by
  obtain ⟨h1, h2, h3, h4⟩ := h
  obtain ⟨b', off', e, h5⟩ := h4 (by omega)
  injection e with e
  injection e with e1 e2
  subst e1 e2
  obtain ⟨v0, v1, v2, v3, v4, c0, c1, c2, c3, c4, hr⟩ := h5 i hi
  rw [he] at hr
  rcases hr with hr | ⟨hr, ht⟩
  · obtain ⟨g, o, cg, rfl, rfl, rfl, rfl, rfl⟩ := pair_shape hr
    exact ⟨g, o, cg, c0, c1, c2, c3, c4, name_step (pair_name hr).2.2.2.2.2 hb⟩
  · injection hr with hr
    simp only [Array.mk.injEq, List.cons.injEq, and_true] at hr
    obtain ⟨rfl, rfl, rfl, rfl, rfl⟩ := hr
    unfold pairT at ht
    simp only [Prod.mk.injEq, List.cons.injEq, true_and, and_true] at ht
    obtain ⟨rfl, _⟩ := ht
    exact ⟨ge, 0, 2, c0, c1, c2, c3, c4, ge, 0, rfl, rc hrow 3⟩
theorem amount_bad {K3 I3 : Int} {F3 : Nat} (hF : F3 < 2 ^ 64) (h : finV K3 F3 = false ∨ signV K3 I3 F3 ≤ 0) (S3 : ByteArray) (q3 : Option Addr) (m3 d3 : Nat) (w : World) : Calls Try.prog 58 #[.agg #[.int .i64 K3, .int .i64 I3, .float .f64 F3, .string S3, .slice q3 m3 d3]] w fun e w' => e = .returned (.tuple #[.agg #[.int .i64 0, .int .i64 0, .float .f64 0, .string ⟨#[]⟩, .slice none 0 0], .int .i64 35]) ∧ Below w.heap.size w w' := by
  cases hf : finV K3 F3
  · exact amount_nofin K3 I3 F3 S3 q3 m3 d3 w hF hf
  · refine amount_nosign K3 I3 F3 S3 q3 m3 d3 w hF hf (h.resolve_left (by rw [hf]; decide))
theorem ro_rep2 {n ge1 ge2 : Nat} {k1 k2 : ByteArray} {V1 V2 : VT (n + 1)} {w0 y : World} {u0 u1 u2 u3 u4 v0 v1 v2 v3 v4 x0 x1 x2 x3 x4 z0 z1 z2 z3 z4 : Value} (hb : Below w0.heap.size w0 y)
    (h1 : y.heap[ge1]? = some (.cells #[u0, u1, u2, u3, u4, v0, v1, v2, v3, v4] 27 (0, 0))) (h2 : y.heap[ge2]? = some (.cells #[x0, x1, x2, x3, x4, z0, z1, z2, z3, z4] 27 (0, 0)))
    (hk1 : Rep y (n + 1) (.agg #[u0, u1, u2, u3, u4]) (3, 0, 0, k1, [])) (hv1 : Rep y (n + 1) (.agg #[v0, v1, v2, v3, v4]) V1) (hk2 : Rep y (n + 1) (.agg #[x0, x1, x2, x3, x4]) (3, 0, 0, k2, [])) (hv2 : Rep y (n + 1) (.agg #[z0, z1, z2, z3, z4]) V2) :
    ∀ v T, RO n ge2 (RO n ge1 (Rep w0 (n + 2)) k1 V1) k2 V2 v T → Rep y (n + 2) v T := by
  rintro v T ((h | ⟨rfl, rfl⟩) | ⟨rfl, rfl⟩)
  · exact rep_keep hb _ _ _ h
  · exact list_rep (row2_rep h1 hk1 hv1)
  · exact list_rep (row2_rep h2 hk2 hv2)
set_option maxRecDepth 100000 in
set_option maxHeartbeats 4000000 in
theorem having_R (n : Nat) (R : Value → VT (n + 2) → Prop) (hR : One5 R) (b off l c i : Nat) (k : ByteArray) (K3 I3 : Int) (F3 : Nat) (S3 : ByteArray) (q3 : Option Addr) (m3 d3 : Nat) (L : List (VT (n + 2))) (V : VT (n + 1)) (g o cg : Nat) (w : World) (HL : Hid (RepL w R (some ⟨b, off, none⟩) l c L)) (hi : i < l) (hl : l ≤ 32)
    (HC : Hid (w.cell? ⟨b, off + i * 5, none⟩ = some (.int .i64 4) ∧ w.cell? ⟨b, off + i * 5 + 1, none⟩ = some (.int .i64 0) ∧ w.cell? ⟨b, off + i * 5 + 2, none⟩ = some (.float .f64 0) ∧ w.cell? ⟨b, off + i * 5 + 3, none⟩ = some (.string ⟨#[]⟩) ∧ w.cell? ⟨b, off + i * 5 + 4, none⟩ = some (.slice (some ⟨g, o, none⟩) 2 cg)))
    (HNM : Hid (NameAt w (some ⟨g, o, none⟩) k)) :
    Calls Try.prog 60 #[.slice (some ⟨b, off, none⟩) l c, .int .i64 i, .agg #[.int .i64 K3, .int .i64 I3, .float .f64 F3, .string S3, .slice q3 m3 d3]] w fun e w' => ∃ p' c' ge, e = .returned (.slice p' l c') ∧ Below w.heap.size w w' ∧ w.heap.size ≤ ge ∧ w'.heap[ge]? = some (.cells #[.int .i64 3, .int .i64 0, .float .f64 0, .string k, .slice none 0 0, .int .i64 K3, .int .i64 I3, .float .f64 F3, .string S3, .slice q3 m3 d3] 27 (0, 0)) ∧ ∀ y, Stay w.heap.size w' y → RepL y (RO n ge R k V) p' l c' (L.set i (pairT n k V)) := by
  have TR1 := Lib.hid (show (fun z0 : World => Zw z0 w.heap.size (.int .i64 K3) (.int .i64 I3) (.float .f64 F3) (.string S3) (.slice q3 m3 d3) ∧ Below w.heap.size w z0) (w.alloc (.cells #[.int .i64 K3, .int .i64 I3, .float .f64 F3, .string S3, .slice q3 m3 d3] 27)) from ⟨row_alloc w #[.int .i64 K3, .int .i64 I3, .float .f64 F3, .string S3, .slice q3 m3 d3] 27, bel_alloc (Below.refl w.heap.size w) _⟩)
  have hb := cell_lt HC.out.1
  obtain ⟨hc0, hc1, hc2, hc3, hc4⟩ := HC.out
  have HC0 := Lib.hid hc0
  have HC1 := Lib.hid hc1
  have HC2 := Lib.hid hc2
  have HC3 := Lib.hid hc3
  have HC4 := Lib.hid hc4
  have hlc : l ≤ c := HL.out.2.1
  have HLN := Lib.hid HL.out.1
  have hi1 : (0 : Int) ≤ (i : Int) := by omega
  have hi2 : (i : Int) < (l : Int) := by omega
  have hwi : IntKind.i64.wrap ((i : Int) + 1) = (i : Int) + 1 := by rw [IntKind.wrap_i64]; omega
  clear hc0 hc1 hc2 hc3 hc4 HC
  go_enter Try.func60, Try.ntmps60
  go_upto_region 1 with fail
  have TR2 := Lib.hid (And.intro (row_step TR1.out.1 (Below.drew br)) (bel_step TR1.out.2 (Below.drew br)))
  clear TR1
  refine wp_region_held_drew (S := (fun z => z.cell? ⟨w.heap.size, 0, none⟩ = some (.int .i64 K3) ∧ z.cell? ⟨w.heap.size, 1, none⟩ = some (.int .i64 I3) ∧ z.cell? ⟨w.heap.size, 2, none⟩ = some (.float .f64 F3) ∧ z.cell? ⟨w.heap.size, 3, none⟩ = some (.string S3) ∧ z.cell? ⟨w.heap.size, 4, none⟩ = some (.slice q3 m3 d3) ∧ z.cell? ⟨b, off + i * 5, none⟩ = some (.int .i64 4) ∧ z.cell? ⟨b, off + i * 5 + 1, none⟩ = some (.int .i64 0) ∧ z.cell? ⟨b, off + i * 5 + 2, none⟩ = some (.float .f64 0) ∧ z.cell? ⟨b, off + i * 5 + 3, none⟩ = some (.string ⟨#[]⟩) ∧ z.cell? ⟨b, off + i * 5 + 4, none⟩ = some (.slice (some ⟨g, o, none⟩) 2 cg))) (by kernel_rfl) ?_ (fun hH => ?_)
  · exact ⟨rc TR2.out.1 0, rc TR2.out.1 1, rc TR2.out.1 2, rc TR2.out.1 3, rc TR2.out.1 4, ck TR2.out.2 HC0.out, ck TR2.out.2 HC1.out, ck TR2.out.2 HC2.out, ck TR2.out.2 HC3.out, ck TR2.out.2 HC4.out⟩
  refine zt [0, 1, 2, 3, 4, 5, 6, 7, 9] ?_
  iterate 9 (refine zt1 (fun _ _ d _ _ h => by cases d <;> exact h) (by simp only [lk0, lk1, lk2]; rfl) (by kernel_rfl) (by assumption) (by rfl) (fun w h => by (try dsimp only at h); go_simp; (try with_reducible rfl)) ?_; (try simp only [Act.put, pk0, pk1, pk2]))
  refine zt0 ?_
  refine zr1 8 (by kernel_rfl) (by simp only [lk0, lk1, lk2]; rfl) (fun K hK => ?_)
  go_simp
  go_at_call 23; refine (nameOf_any _ _ _ _ _ _ _ k _ (by omega) (name_step HNM.out TR2.out.2)).mono ?_; rintro e w11 ⟨rfl, hbw11⟩
  have TR3 := Lib.hid (And.intro (row_step TR2.out.1 hbw11) (bel_step TR2.out.2 hbw11))
  clear TR2
  clear hbw11
  go_wp2_with fail
  refine hK.out _ _ ?hsv10_ (fun hH => ?_)
  case hsv10_ => exact ⟨rc TR3.out.1 0, rc TR3.out.1 1, rc TR3.out.1 2, rc TR3.out.1 3, rc TR3.out.1 4, ck TR3.out.2 HC0.out, ck TR3.out.2 HC1.out, ck TR3.out.2 HC2.out, ck TR3.out.2 HC3.out, ck TR3.out.2 HC4.out⟩
  clear hK K
  (try simp only [Act.put, pk0, pk1, pk2])
  refine zr1 10 (by kernel_rfl) (by simp only [lk0, lk1, lk2]; rfl) (fun K hK => ?_)
  go_simp
  have hle14 : w.heap.size ≤ w11.heap.size := TR3.out.2.size
  go_at_call 54; refine (account_any k K3 I3 F3 S3 q3 m3 d3 _).mono ?_; rintro e w13 ⟨ge, rfl, hbw13, hge, hrow⟩
  have TR4 := Lib.hid (And.intro (row_step TR3.out.1 hbw13) (bel_step TR3.out.2 hbw13))
  clear TR3
  have TR5 := Lib.hid (show Zw w13 w.heap.size (.int .i64 K3) (.int .i64 I3) (.float .f64 F3) (.string S3) (.slice q3 m3 d3) ∧ w13.heap[ge]? = some (.cells #[.int .i64 3, .int .i64 0, .float .f64 0, .string k, .slice none 0 0, .int .i64 K3, .int .i64 I3, .float .f64 F3, .string S3, .slice q3 m3 d3] 27 (0, 0)) ∧ Below w.heap.size w w13 from ⟨TR4.out.1, hrow, TR4.out.2⟩)
  clear TR4
  clear hrow
  clear hbw13
  go_wp2_with fail
  refine hK.out _ _ ?hsv12_ (fun hH => ?_)
  case hsv12_ => exact ⟨rc TR5.out.1 0, rc TR5.out.1 1, rc TR5.out.1 2, rc TR5.out.1 3, rc TR5.out.1 4, ck TR5.out.2.2 HC0.out, ck TR5.out.2.2 HC1.out, ck TR5.out.2.2 HC2.out, ck TR5.out.2.2 HC3.out, ck TR5.out.2.2 HC4.out⟩
  clear hK K
  (try simp only [Act.put, pk0, pk1, pk2])
  refine zr1 11 (by kernel_rfl) (by simp only [lk0, lk1, lk2]; rfl) (fun K hK => ?_)
  go_simp
  have hlt16 : w.heap.size < w13.heap.size := row_lt TR5.out.1
  have hlt17 : ge < w13.heap.size := row_lt TR5.out.2.1
  have hlt18 : w.heap.size ≤ w13.heap.size := TR5.out.2.2.size
  have TR6 := Lib.hid (show (fun z0 : World => Zw z0 w.heap.size (.int .i64 K3) (.int .i64 I3) (.float .f64 F3) (.string S3) (.slice q3 m3 d3) ∧ z0.heap[ge]? = some (.cells #[.int .i64 3, .int .i64 0, .float .f64 0, .string k, .slice none 0 0, .int .i64 K3, .int .i64 I3, .float .f64 F3, .string S3, .slice q3 m3 d3] 27 (0, 0)) ∧ ZL z0 w13.heap.size (some ⟨ge, 0, none⟩) 2 2 ∧ Below w.heap.size w z0) (w13.alloc (.cells #[.int .i64 4, .int .i64 0, .float .f64 0, .string ⟨#[]⟩, .slice (some ⟨ge, 0, none⟩) 2 2] 27)) from ⟨row_alloc_step TR5.out.1 _, row_alloc_step TR5.out.2.1 _, (ra (by simp only [World.size_alloc, World.size_drew])), bel_step TR5.out.2.2 (bel_alloc br _)⟩)
  go_wp2_with fail
  refine hK.out _ _ ?hsv15_ (fun hH => ?_)
  case hsv15_ => exact ⟨rc TR6.out.1 0, rc TR6.out.1 1, rc TR6.out.1 2, rc TR6.out.1 3, rc TR6.out.1 4, ck TR6.out.2.2.2 HC0.out, ck TR6.out.2.2.2 HC1.out, ck TR6.out.2.2.2 HC2.out, ck TR6.out.2.2.2 HC3.out, ck TR6.out.2.2.2 HC4.out⟩
  clear hK K
  (try simp only [Act.put, pk0, pk1, pk2])
  refine zr1 12 (by kernel_rfl) (by simp only [lk0, lk1, lk2]; rfl) (fun K hK => ?_)
  go_simp
  go_at_call 53; refine (lspliced_is (ro_one hR k V) (some ⟨b, off, none⟩) l c i (i + 1) L (some ⟨w13.heap.size, 0, none⟩) 1 1 [pairT n k V] _ _ (by omega) (ro_old (ge := ge) TR6.out.2.2.2 HL.out) (ro_new TR6.out.2.2.1) (by omega) (by omega) (by omega) (by omega)).mono ?_; rintro e w20 ⟨p6, c6, rfl, hbw20, hy6⟩
  have TR7 := Lib.hid (And.intro (row_step TR6.out.1 hbw20) (And.intro (row_step TR6.out.2.1 hbw20) (And.intro (row_step TR6.out.2.2.1 hbw20) (bel_step TR6.out.2.2.2 hbw20))))
  clear TR6
  have HY := Lib.hid hy6
  clear hy6
  clear hbw20
  go_wp2_with fail
  refine hK.out _ _ ?hsv19_ (fun hH => ?_)
  case hsv19_ => exact ⟨rc TR7.out.1 0, rc TR7.out.1 1, rc TR7.out.1 2, rc TR7.out.1 3, rc TR7.out.1 4, ck TR7.out.2.2.2 HC0.out, ck TR7.out.2.2.2 HC1.out, ck TR7.out.2.2.2 HC2.out, ck TR7.out.2.2.2 HC3.out, ck TR7.out.2.2.2 HC4.out⟩
  clear hK K
  (try simp only [Act.put, pk0, pk1, pk2])
  refine zt [13] ?_
  refine zt1 (fun _ _ d _ _ h => by cases d <;> exact h) (by simp only [lk0, lk1, lk2]; rfl) (by kernel_rfl) (by assumption) (by rfl) (fun w h => by (try dsimp only at h); go_simp; (try with_reducible rfl)) ?_; (try simp only [Act.put, pk0, pk1, pk2])
  refine zt0 ?_
  refine wpAnyH_done (by kernel_rfl) ?_ _
  go_wp2
  go_ret
  have hll : i + 1 + (l - (i + 1)) = l := by omega
  refine ⟨p6, c6, ge, (by rw [hll]; rfl), TR7.out.2.2.2, by omega, TR7.out.2.1, fun y hst => ?_⟩
  have h := HY.out y (fun b h1 h2 => hst b (by simp only [World.size_alloc] at h1; omega) h2)
  rw [hll, set_at L i _ (by have := HLN.out; omega)] at h
  exact h
end Num
end Go.Proofs.Yteodljkcbddehaa
/-
  Package ledger: Right, on a ledger that is right.
-/
namespace Go.Proofs.Yteodljkcbddehaa
open Go.RowKit
namespace Num
open Ints
set_option linter.unusedSimpArgs false
set_option linter.unusedVariables false
def OkL (n : Nat) (ES : List (ByteArray × VT (n + 1))) : Prop := Names (ES.map (·.1)) ∧ ES.length ≤ 32 ∧ ∀ e ∈ ES, AccV e.2
theorem lisName_any (s : ByteArray) (q : Option Addr) (d : Nat) (w : World) (hn : nmV 3 s = true) (hs : s.size ≤ maxLen) : Calls Try.prog 42 #[.agg #[.int .i64 3, .int .i64 0, .float .f64 0, .string s, .slice q 0 d]] w fun e w' => e = .returned (.bool true) ∧ Below w.heap.size w w' := by
  unfold nmV at hn
  rw [Bool.and_eq_true, Bool.and_eq_true, decide_eq_true_iff, decide_eq_true_iff, decide_eq_true_iff] at hn
  obtain ⟨_, h1, h2⟩ := hn
  have g1 : (0 : Int) < (s.size : Int) := by omega
  have g2 : (s.size : Int) ≤ 32 := by omega
  unfold maxLen at hs
  go_enter Try.func42, Try.ntmps42
  go_wp2
  go_ret
  exact ⟨rfl, bel_alloc (Below.refl w.heap.size w) _⟩
theorem isHolding_any (I : Int) (F : Nat) (Z : ByteArray) (q : Option Addr) (m d : Nat) (w : World) (hF : F < 2 ^ 64) (hf : finV 2 F = true) (hs : negW F = false) : Calls Try.prog 43 #[.agg #[.int .i64 2, .int .i64 I, .float .f64 F, .string Z, .slice q m d]] w fun e w' => e = .returned (.bool true) ∧ Below w.heap.size w w' := by
  have HF := Lib.hid hF
  have HN := Lib.hid hf
  have HS := Lib.hid (show Calls Try.prog 66 #[.float .f64 F] w (fun e w' => e = .returned (.bool false) ∧ w = w') ∧ ∀ W, Calls Try.prog 66 #[.float .f64 F] W (fun e w' => e = .returned (.bool false) ∧ W = w') from ⟨by have h := signbit_any F hF w; rw [hs] at h; exact h, fun W => by have h := signbit_any F hF W; rw [hs] at h; exact h⟩)
  have HB := Lib.hid (bel_alloc (Below.refl w.heap.size w) (.cells #[.int .i64 2, .int .i64 I, .float .f64 F, .string Z, .slice q m d] 27))
  have HR := Lib.hid (row_alloc w #[.int .i64 2, .int .i64 I, .float .f64 F, .string Z, .slice q m d] 27)
  clear hF hf hs
  go_enter Try.func43, Try.ntmps43
  go_wp2_with fail
  go_at_call 65; refine (finite_is HN.out HF.out I Z q m d _).mono ?_; rintro e w1 ⟨rfl, hb1⟩
  have x := row_step HR.out hb1
  have HB1 := Lib.hid (bel_step HB.out hb1)
  have a2 := rc x 2
  have al := row_lt x
  clear hb1 x
  go_wp2_with fail
  go_at_call 66; refine (HS.out.2 _).mono ?_; rintro e w2 ⟨rfl, rfl⟩
  go_wp2
  go_ret
  exact ⟨rfl, HB1.out⟩
set_option maxRecDepth 100000 in
set_option maxHeartbeats 4000000 in
theorem isAccount_any (n : Nat) (v : Value) (s : ByteArray) (V : VT (n + 1)) (w : World) (h : Rep w (n + 2) v (pairT n s V)) (hn : nmV 3 s = true) (ha : AccV V) : Calls Try.prog 22 #[v] w fun e w' => e = .returned (.bool true) ∧ Below w.heap.size w w' := by
  obtain ⟨g, o, c, rfl, ⟨c0, c1, c2, c3, q, d, c4, _⟩, hs, K, I, F, Z, q2, m2, d2, ⟨x0, x1, x2, x3, x4⟩, hr⟩ := pair_mem h
  obtain ⟨rfl, hFe, hi⟩ := hold_shape ⟨ha.1, rfl⟩ hr
  have hF : F < 2 ^ 64 := by
    obtain ⟨p', l', c', hv, _, _, h3, _⟩ := hr
    rw [hFe] at h3; exact h3
  have hf : finV 2 F = true := by have := ha.2.1; rw [hFe] at this; exact this
  have hg : negW F = false := by have := ha.2.2; rw [hFe] at this; exact this
  have HH := Lib.hid (fun W => isHolding_any I F Z q2 m2 d2 W hF hf hg)
  have HI := Lib.hid (fun W => lisName_any s q d W hn hs)
  have hlt : g < w.heap.size := cell_lt c0
  have hne : w.heap.size ≠ g := by omega
  have HB := Lib.hid (bel_alloc (Below.refl w.heap.size w) (.cells #[.int .i64 4, .int .i64 0, .float .f64 0, .string ⟨#[]⟩, .slice (some ⟨g, o, none⟩) 2 c] 27))
  have HRW := Lib.hid (row_alloc w #[.int .i64 4, .int .i64 0, .float .f64 0, .string ⟨#[]⟩, .slice (some ⟨g, o, none⟩) 2 c] 27)
  have HX := Lib.hid (show ∀ W, Below w.heap.size w W → W.cell? ⟨g, o + 5, none⟩ = some (.int .i64 2) ∧ W.cell? ⟨g, o + 5 + 1, none⟩ = some (.int .i64 I) ∧ W.cell? ⟨g, o + 5 + 2, none⟩ = some (.float .f64 F) ∧ W.cell? ⟨g, o + 5 + 3, none⟩ = some (.string Z) ∧ W.cell? ⟨g, o + 5 + 4, none⟩ = some (.slice q2 m2 d2) from fun W hb => ⟨ck hb x0, ck hb x1, ck hb x2, ck hb x3, ck hb x4⟩)
  clear h hr x0 x1 x2 x3 x4 hF hf hg hFe hn hs ha hi
  go_enter Try.func22, Try.ntmps22
  go_wp2_with fail
  go_at_call 42; refine (HI.out _).mono ?_; rintro e w1 ⟨rfl, hb1⟩
  have HB1 := Lib.hid (bel_step HB.out hb1)
  have y := row_step HRW.out hb1
  have y4 := rc y 4
  have yl := row_lt y
  obtain ⟨x0, x1, x2, x3, x4⟩ := HX.out _ HB1.out
  have xl := cell_lt x0
  clear hb1 y HI HB HRW c0 c1 c2 c3 c4
  go_wp2_with fail
  go_at_call 43; refine (HH.out _).mono ?_; rintro e w2 ⟨rfl, hb2⟩
  have HB2 := Lib.hid (bel_step HB1.out hb2)
  clear hb2 x0 x1 x2 x3 x4 y4
  go_wp2
  go_ret
  exact ⟨rfl, HB2.out⟩
def LR0 (n : Nat) (w : World) (sb b off l c eb g o d : Nat) (s : ByteArray) (V : VT (n + 1)) (z : World) : Prop := z.cell? ⟨eb, 0, none⟩ = some (.int .i64 4) ∧ z.cell? ⟨eb, 1, none⟩ = some (.int .i64 0) ∧ z.cell? ⟨eb, 2, none⟩ = some (.float .f64 0) ∧ z.cell? ⟨eb, 3, none⟩ = some (.string ⟨#[]⟩) ∧ z.cell? ⟨eb, 4, none⟩ = some (.slice (some ⟨g, o, none⟩) 2 d) ∧ Below w.heap.size w z ∧ Rep z (n + 2) (.agg #[.int .i64 4, .int .i64 0, .float .f64 0, .string ⟨#[]⟩, .slice (some ⟨g, o, none⟩) 2 d]) (pairT n s V) ∧ z.cell? ⟨sb, 4, none⟩ = some (.slice (some ⟨b, off, none⟩) l c)
theorem lr0_step {n : Nat} {w x y : World} {sb b off l c eb g o d : Nat} {s : ByteArray} {V : VT (n + 1)} (h : LR0 n w sb b off l c eb g o d s V x) (hb : Below x.heap.size x y) : LR0 n w sb b off l c eb g o d s V y :=
  ⟨ck hb h.1, ck hb h.2.1, ck hb h.2.2.1, ck hb h.2.2.2.1, ck hb h.2.2.2.2.1, bel_step h.2.2.2.2.2.1 hb, rep_keep hb _ _ _ h.2.2.2.2.2.2.1, ck hb h.2.2.2.2.2.2.2⟩
theorem lr0_drew {n : Nat} {w x : World} {sb b off l c eb g o d : Nat} {s : ByteArray} {V : VT (n + 1)} (h : LR0 n w sb b off l c eb g o d s V x) : LR0 n w sb b off l c eb g o d s V x.drew := lr0_step h (Below.drew br)
def LR1 (n : Nat) (w : World) (sb b off l c k g' o' d' : Nat) (s' : ByteArray) (V' : VT (n + 1)) (eb g o d : Nat) (s : ByteArray) (V : VT (n + 1)) (z : World) : Prop := z.cell? ⟨b, off + k * 5, none⟩ = some (.int .i64 4) ∧ z.cell? ⟨b, off + k * 5 + 1, none⟩ = some (.int .i64 0) ∧ z.cell? ⟨b, off + k * 5 + 2, none⟩ = some (.float .f64 0) ∧ z.cell? ⟨b, off + k * 5 + 3, none⟩ = some (.string ⟨#[]⟩) ∧ z.cell? ⟨b, off + k * 5 + 4, none⟩ = some (.slice (some ⟨g', o', none⟩) 2 d') ∧ Rep z (n + 2) (.agg #[.int .i64 4, .int .i64 0, .float .f64 0, .string ⟨#[]⟩, .slice (some ⟨g', o', none⟩) 2 d']) (pairT n s' V') ∧ LR0 n w sb b off l c eb g o d s V z
theorem lr1_step {n : Nat} {w x y : World} {sb b off l c k g' o' d' : Nat} {s' : ByteArray} {V' : VT (n + 1)} {eb g o d : Nat} {s : ByteArray} {V : VT (n + 1)} (h : LR1 n w sb b off l c k g' o' d' s' V' eb g o d s V x) (hb : Below x.heap.size x y) : LR1 n w sb b off l c k g' o' d' s' V' eb g o d s V y :=
  ⟨ck hb h.1, ck hb h.2.1, ck hb h.2.2.1, ck hb h.2.2.2.1, ck hb h.2.2.2.2.1, rep_keep hb _ _ _ h.2.2.2.2.2.1, lr0_step h.2.2.2.2.2.2 hb⟩
theorem lr1_drew {n : Nat} {w x : World} {sb b off l c k g' o' d' : Nat} {s' : ByteArray} {V' : VT (n + 1)} {eb g o d : Nat} {s : ByteArray} {V : VT (n + 1)} (h : LR1 n w sb b off l c k g' o' d' s' V' eb g o d s V x) : LR1 n w sb b off l c k g' o' d' s' V' eb g o d s V x.drew := lr1_step h (Below.drew br)
set_option maxRecDepth 100000 in
set_option maxHeartbeats 4000000 in
theorem lright_any (n : Nat) (v : Value) (ES : List (ByteArray × VT (n + 1))) (w : World) (hr : Rep w (n + 3) v (tableT n ES)) (hok : OkL n ES) : Calls Try.prog 10 #[v] w fun e w' => e = .returned (.bool true) ∧ Below w.heap.size w w' := by
  obtain ⟨hnm, hl32, hac⟩ := hok
  have HAC := Lib.hid hac
  obtain ⟨p, l, c, rfl, hrl⟩ := led_mem hr
  have HRL := Lib.hid hrl
  have HLEN := Lib.hid (show ES.length = l by have := hrl.1; rw [List.length_map] at this; exact this)
  have HNMS := Lib.hid hnm
  have hl : (l : Int) ≤ 32 := by have := HLEN.out; omega
  have hl0 : (0 : Int) ≤ (l : Int) := by omega
  obtain ⟨oa, hoa⟩ : ∃ o, Obj.cells #[.int .i64 4, .int .i64 0, .float .f64 0, .string ⟨#[]⟩, .slice p l c] 27 = o := ⟨_, rfl⟩
  have HB := Lib.hid (bel_alloc (Below.refl w.heap.size w) oa)
  have ra := row_alloc w #[.int .i64 4, .int .i64 0, .float .f64 0, .string ⟨#[]⟩, .slice p l c] 27
  rw [hoa] at ra
  have HRA := Lib.hid ra
  subst hoa
  clear ra hrl hnm hl32 hr hac
  go_enter Try.func10, Try.ntmps10
  go_wp2
  have HB1 := HB
  have HRA1 := HRA
  go_loopw [17] (fun iv wr => ∃ i : Nat, i ≤ l ∧ iv = .int .i64 i ∧ Below w.heap.size w wr ∧ wr.cell? ⟨w.heap.size, 4, none⟩ = some (.slice p l c)) (fun iv _ => l - (intOf iv).toNat)
  case atStart => exact ⟨0, by omega, rfl, HB1.out, rc HRA1.out 4⟩
  case round =>
    obtain ⟨i, hil, rfl, hB, hS⟩ := hrel
    by_cases hlt : i < l
    · obtain ⟨b, off, hpb, hit⟩ := HRL.out.2.2.2 (by omega)
      subst hpb
      have hei : i < ES.length := by have := HLEN.out; omega
      obtain ⟨v0, v1, v2, v3, v4, c0, c1, c2, c3, c4, hre⟩ := hit i (by rw [List.length_map]; exact hei)
      rw [List.getElem_map] at hre
      obtain ⟨⟨SS, VV⟩, hsv⟩ : ∃ e, e = ES[i] := ⟨_, rfl⟩
      rw [← hsv] at hre
      have hre' : Rep w (n + 2) (.agg #[v0, v1, v2, v3, v4]) (pairT n SS VV) := hre
      have hmem : i < (ES.map (·.1)).length := by rw [List.length_map]; exact hei
      have hs1 : (ES.map (·.1))[i] = SS := by rw [List.getElem_map, ← hsv]
      have HACC := Lib.hid (show AccV VV from by have := HAC.out (ES[i]) (List.getElem_mem hei); rw [← hsv] at this; exact this)
      have HNM := Lib.hid (show nmV 3 SS = true from HNMS.out.1 SS (by rw [← hs1]; exact List.getElem_mem hmem))
      obtain ⟨g, o, d, rfl, rfl, rfl, rfl, rfl⟩ := pair_shape hre'
      have e0 := ck hB c0; have e1 := ck hB c1; have e2 := ck hB c2; have e3 := ck hB c3; have e4 := ck hB c4
      have elt := cell_lt e0
      have hslt := cell_lt hS
      have hi0 : (0 : Int) ≤ (i : Int) := by omega
      have hil2 : (i : Int) < (l : Int) := by omega
      have hAL := bel_alloc (Below.refl wr.heap.size wr) (.cells #[.int .i64 4, .int .i64 0, .float .f64 0, .string ⟨#[]⟩, .slice (some ⟨g, o, none⟩) 2 d] 27)
      have HB2 := Lib.hid (bel_step hB hAL)
      have hR0 : LR0 n w w.heap.size b off l c wr.heap.size g o d SS VV (wr.alloc (.cells #[.int .i64 4, .int .i64 0, .float .f64 0, .string ⟨#[]⟩, .slice (some ⟨g, o, none⟩) 2 d] 27)) := by
        have hcs := cs_row (row_alloc wr #[.int .i64 4, .int .i64 0, .float .f64 0, .string ⟨#[]⟩, .slice (some ⟨g, o, none⟩) 2 d] 27)
        exact ⟨hcs.1, hcs.2.1, hcs.2.2.1, hcs.2.2.2.1, hcs.2.2.2.2, HB2.out, rep_keep HB2.out _ _ _ hre', ck hAL hS⟩
      rcases Nat.eq_zero_or_pos i with h0 | h0
      · subst h0
        have HE := Lib.hid hR0
        simp only [Nat.zero_mul, Nat.add_zero] at e0 e1 e2 e3 e4
        clear c0 c1 c2 c3 c4 hit hre hre' hR0 hAL
        go_upto_region 6 with fail
        clear e0 e1 e2 e3 e4
        refine wp_region_held_drew (S := (fun z => z.cell? ⟨wr.heap.size, 0, none⟩ = some (.int .i64 4) ∧ z.cell? ⟨wr.heap.size, 1, none⟩ = some (.int .i64 0) ∧ z.cell? ⟨wr.heap.size, 2, none⟩ = some (.float .f64 0) ∧ z.cell? ⟨wr.heap.size, 3, none⟩ = some (.string ⟨#[]⟩) ∧ z.cell? ⟨wr.heap.size, 4, none⟩ = some (.slice (some ⟨g, o, none⟩) 2 d) ∧ Below w.heap.size w z ∧ Rep z (n + 2) (.agg #[.int .i64 4, .int .i64 0, .float .f64 0, .string ⟨#[]⟩, .slice (some ⟨g, o, none⟩) 2 d]) (pairT n SS VV) ∧ z.cell? ⟨w.heap.size, 4, none⟩ = some (.slice (some ⟨b, off, none⟩) l c))) (by kernel_rfl) ?_ (fun hH => ?_)
        · exact lr0_drew HE.out
        refine zt [0] ?_
        refine zt1 (fun _ _ d _ _ h => by cases d <;> exact h) (by simp only [lk0, lk1, lk2]; rfl) (by kernel_rfl) (by assumption) (by rfl) (fun w h => by (try dsimp only at h); go_simp; (try with_reducible rfl)) ?_; (try simp only [Act.put, pk0, pk1, pk2])
        refine zt0 ?_
        refine zr1 1 (by kernel_rfl) (by simp only [lk0, lk1, lk2]; rfl) (fun K hK => ?_)
        go_simp
        go_at_call 22; refine (isAccount_any n _ SS VV _ (show LR0 n w w.heap.size b off l c wr.heap.size g o d SS VV _ from hH).2.2.2.2.2.2.1 HNM.out HACC.out).mono ?_; rintro e w4 ⟨rfl, hb4⟩; have he4 := lr0_step (show LR0 n w w.heap.size b off l c wr.heap.size g o d SS VV _ from hH) hb4; clear hb4
        go_wp2_with fail
        refine hK.out _ _ ?hsa1 (fun hH => ?_)
        case hsa1 => exact he4
        clear hK K
        (try simp only [Act.put, pk0, pk1, pk2])
        refine zt [2, 3, 4, 5, 6] ?_
        iterate 5 (refine zt1 (fun _ _ d _ _ h => by cases d <;> exact h) (by simp only [lk0, lk1, lk2]; rfl) (by kernel_rfl) (by assumption) (by rfl) (fun w h => by (try dsimp only at h); go_simp; (try with_reducible rfl)) ?_; (try simp only [Act.put, pk0, pk1, pk2]))
        refine zt0 ?_
        refine wpAnyH_take (i := 7) (oi := ?_) (v := undef) ?ia7 (by kernel_rfl) ?fa7 ?ra7 ?Qa7 ?ya7 (by assumption) ?ta7
        case ia7 => (simp only [lk0, lk1, lk2]; rfl)
        case fa7 | ra7 => kernel_rfl
        case ya7 => exact Or.inr ⟨by rfl, rfl⟩
        case Qa7 => exact fun _ _ _ h => h
        (try simp only [Act.put, pk0, pk1, pk2])
        refine wpAnyH_take (i := 8) (oi := ?_) (v := undef) ?ia8 (by kernel_rfl) ?fa8 ?ra8 ?Qa8 ?ya8 (by assumption) ?ta8
        case ia8 => (simp only [lk0, lk1, lk2]; rfl)
        case fa8 | ra8 => kernel_rfl
        case ya8 => exact Or.inr ⟨by rfl, rfl⟩
        case Qa8 => exact fun _ _ _ h => h
        (try simp only [Act.put, pk0, pk1, pk2])
        refine wpAnyH_take (i := 9) (oi := ?_) (v := undef) ?ia9 (by kernel_rfl) ?fa9 ?ra9 ?Qa9 ?ya9 (by assumption) ?ta9
        case ia9 => (simp only [lk0, lk1, lk2]; rfl)
        case fa9 | ra9 => kernel_rfl
        case ya9 => exact Or.inr ⟨by rfl, rfl⟩
        case Qa9 => exact fun _ _ _ h => h
        (try simp only [Act.put, pk0, pk1, pk2])
        refine wpAnyH_take (i := 10) (oi := ?_) (v := undef) ?ia10 (by kernel_rfl) ?fa10 ?ra10 ?Qa10 ?ya10 (by assumption) ?ta10
        case ia10 => (simp only [lk0, lk1, lk2]; rfl)
        case fa10 | ra10 => kernel_rfl
        case ya10 => exact Or.inr ⟨by rfl, rfl⟩
        case Qa10 => exact fun _ _ _ h => h
        (try simp only [Act.put, pk0, pk1, pk2])
        refine wpAnyH_take (i := 11) (oi := ?_) (v := undef) ?ia11 (by kernel_rfl) ?fa11 ?ra11 ?Qa11 ?ya11 (by assumption) ?ta11
        case ia11 => (simp only [lk0, lk1, lk2]; rfl)
        case fa11 | ra11 => kernel_rfl
        case ya11 => exact Or.inr ⟨by rfl, rfl⟩
        case Qa11 => exact fun _ _ _ h => h
        (try simp only [Act.put, pk0, pk1, pk2])
        refine wpAnyH_take (i := 12) (oi := ?_) (v := undef) ?ia12 (by kernel_rfl) ?fa12 ?ra12 ?Qa12 ?ya12 (by assumption) ?ta12
        case ia12 => (simp only [lk0, lk1, lk2]; rfl)
        case fa12 | ra12 => kernel_rfl
        case ya12 => exact Or.inr ⟨by rfl, rfl⟩
        case Qa12 => exact fun _ _ _ h => h
        (try simp only [Act.put, pk0, pk1, pk2])
        refine wpAnyH_take (i := 13) (oi := ?_) (v := undef) ?ia13 (by kernel_rfl) ?fa13 ?ra13 ?Qa13 ?ya13 (by assumption) ?ta13
        case ia13 => (simp only [lk0, lk1, lk2]; rfl)
        case fa13 | ra13 => kernel_rfl
        case ya13 => exact Or.inr ⟨by rfl, rfl⟩
        case Qa13 => exact fun _ _ _ h => h
        (try simp only [Act.put, pk0, pk1, pk2])
        refine wpAnyH_take (i := 14) (oi := ?_) (v := undef) ?ia14 (by kernel_rfl) ?fa14 ?ra14 ?Qa14 ?ya14 (by assumption) ?ta14
        case ia14 => (simp only [lk0, lk1, lk2]; rfl)
        case fa14 | ra14 => kernel_rfl
        case ya14 => exact Or.inr ⟨by rfl, rfl⟩
        case Qa14 => exact fun _ _ _ h => h
        (try simp only [Act.put, pk0, pk1, pk2])
        refine wpAnyH_take (i := 15) (oi := ?_) (v := undef) ?ia15 (by kernel_rfl) ?fa15 ?ra15 ?Qa15 ?ya15 (by assumption) ?ta15
        case ia15 => (simp only [lk0, lk1, lk2]; rfl)
        case fa15 | ra15 => kernel_rfl
        case ya15 => exact Or.inr ⟨by rfl, rfl⟩
        case Qa15 => exact fun _ _ _ h => h
        (try simp only [Act.put, pk0, pk1, pk2])
        refine wpAnyH_take (i := 16) (oi := ?_) (v := undef) ?ia16 (by kernel_rfl) ?fa16 ?ra16 ?Qa16 ?ya16 (by assumption) ?ta16
        case ia16 => (simp only [lk0, lk1, lk2]; rfl)
        case fa16 | ra16 => kernel_rfl
        case ya16 => exact Or.inr ⟨by rfl, rfl⟩
        case Qa16 => exact fun _ _ _ h => h
        (try simp only [Act.put, pk0, pk1, pk2])
        refine zt [17, 18] ?_
        iterate 2 (refine zt1 (fun _ _ d _ _ h => by cases d <;> exact h) (by simp only [lk0, lk1, lk2]; rfl) (by kernel_rfl) (by assumption) (by rfl) (fun w h => by (try dsimp only at h); go_simp; (try with_reducible rfl)) ?_; (try simp only [Act.put, pk0, pk1, pk2]))
        refine zt0 ?_
        refine wpAnyH_done (by kernel_rfl) ?_ _
        have HF := Lib.hid (show LR0 n w w.heap.size b off l c wr.heap.size g o d SS VV w4 from he4)
        go_wp2
        go_roundw
        case rel => exact ⟨0 + 1, by omega, by go_num, HF.out.2.2.2.2.2.1, HF.out.2.2.2.2.2.2.2⟩
        case measure => simp [intOf]; omega
      · obtain ⟨k, rfl⟩ : ∃ k, i = k + 1 := ⟨i - 1, by omega⟩
        obtain ⟨u0, u1, u2, u3, u4, d0, d1, d2, d3, d4, hrp⟩ := hit k (by rw [List.length_map]; omega)
        rw [List.getElem_map] at hrp
        obtain ⟨⟨S2, V2⟩, hsv2⟩ : ∃ e, e = ES[k]'(by omega) := ⟨_, rfl⟩
        rw [← hsv2] at hrp
        have hrp' : Rep w (n + 2) (.agg #[u0, u1, u2, u3, u4]) (pairT n S2 V2) := hrp
        have hs2 : (ES.map (·.1))[k]'(by rw [List.length_map]; omega) = S2 := by rw [List.getElem_map, ← hsv2]
        have HLT := Lib.hid (show ltB S2 SS = true by rw [← hs1, ← hs2]; exact HNMS.out.2 k (k + 1) _ _ (by omega))
        obtain ⟨g', o', d', rfl, rfl, rfl, rfl, rfl⟩ := pair_shape hrp'
        have hcc := fun {a : Addr} {v : Value} (h : w.cell? a = some v) => ck HB2.out h
        have HE := Lib.hid (show LR1 n w w.heap.size b off l c k g' o' d' S2 V2 wr.heap.size g o d SS VV (wr.alloc (.cells #[.int .i64 4, .int .i64 0, .float .f64 0, .string ⟨#[]⟩, .slice (some ⟨g, o, none⟩) 2 d] 27)) from ⟨hcc d0, hcc d1, hcc d2, hcc d3, hcc d4, rep_keep HB2.out _ _ _ hrp', hR0⟩)
        have hx0 : Op.bytesLess S2.toList SS.toList = true := HLT.out
        have hw1 : IntKind.i64.wrap (k : Int) = (k : Int) := by rw [IntKind.wrap_i64]; omega
        have hw2 : wrap64 (k : Int) = (k : Int) := by unfold wrap64; omega
        have hk0 : (0 : Int) < ((k + 1 : Nat) : Int) := by omega
        have hk1 : (k : Int) < (l : Int) := by omega
        have hk2 : (0 : Int) ≤ (k : Int) := by omega
        have dlt := cell_lt (hcc d0)
        clear c0 c1 c2 c3 c4 hit hre hre' hR0 hAL d0 d1 d2 d3 d4 hrp hrp' hcc
        go_upto_region 6 with fail
        clear e0 e1 e2 e3 e4
        refine wp_region_held_drew (S := (fun z => z.cell? ⟨b, off + k * 5, none⟩ = some (.int .i64 4) ∧ z.cell? ⟨b, off + k * 5 + 1, none⟩ = some (.int .i64 0) ∧ z.cell? ⟨b, off + k * 5 + 2, none⟩ = some (.float .f64 0) ∧ z.cell? ⟨b, off + k * 5 + 3, none⟩ = some (.string ⟨#[]⟩) ∧ z.cell? ⟨b, off + k * 5 + 4, none⟩ = some (.slice (some ⟨g', o', none⟩) 2 d') ∧ Rep z (n + 2) (.agg #[.int .i64 4, .int .i64 0, .float .f64 0, .string ⟨#[]⟩, .slice (some ⟨g', o', none⟩) 2 d']) (pairT n S2 V2) ∧ z.cell? ⟨wr.heap.size, 0, none⟩ = some (.int .i64 4) ∧ z.cell? ⟨wr.heap.size, 1, none⟩ = some (.int .i64 0) ∧ z.cell? ⟨wr.heap.size, 2, none⟩ = some (.float .f64 0) ∧ z.cell? ⟨wr.heap.size, 3, none⟩ = some (.string ⟨#[]⟩) ∧ z.cell? ⟨wr.heap.size, 4, none⟩ = some (.slice (some ⟨g, o, none⟩) 2 d) ∧ Below w.heap.size w z ∧ Rep z (n + 2) (.agg #[.int .i64 4, .int .i64 0, .float .f64 0, .string ⟨#[]⟩, .slice (some ⟨g, o, none⟩) 2 d]) (pairT n SS VV) ∧ z.cell? ⟨w.heap.size, 4, none⟩ = some (.slice (some ⟨b, off, none⟩) l c))) (by kernel_rfl) ?_ (fun hH => ?_)
        · exact lr1_drew HE.out
        refine zt [0] ?_
        refine zt1 (fun _ _ d _ _ h => by cases d <;> exact h) (by simp only [lk0, lk1, lk2]; rfl) (by kernel_rfl) (by assumption) (by rfl) (fun w h => by (try dsimp only at h); go_simp; (try with_reducible rfl)) ?_; (try simp only [Act.put, pk0, pk1, pk2])
        refine zt0 ?_
        refine zr1 1 (by kernel_rfl) (by simp only [lk0, lk1, lk2]; rfl) (fun K hK => ?_)
        go_simp
        go_at_call 22; refine (isAccount_any n _ SS VV _ (show LR1 n w w.heap.size b off l c k g' o' d' S2 V2 wr.heap.size g o d SS VV _ from hH).2.2.2.2.2.2.2.2.2.2.2.2.1 HNM.out HACC.out).mono ?_; rintro e w4 ⟨rfl, hb4⟩; have he4 := lr1_step (show LR1 n w w.heap.size b off l c k g' o' d' S2 V2 wr.heap.size g o d SS VV _ from hH) hb4; clear hb4
        go_wp2_with fail
        refine hK.out _ _ ?hsb1 (fun hH => ?_)
        case hsb1 => exact he4
        clear hK K
        (try simp only [Act.put, pk0, pk1, pk2])
        refine zt [2, 3, 4, 5, 6, 7, 8, 9, 10, 11, 12, 14] ?_
        iterate 12 (refine zt1 (fun _ _ d _ _ h => by cases d <;> exact h) (by simp only [lk0, lk1, lk2]; rfl) (by kernel_rfl) (by assumption) (by rfl) (fun w h => by (try dsimp only at h); go_simp; (try with_reducible rfl)) ?_; (try simp only [Act.put, pk0, pk1, pk2]))
        refine zt0 ?_
        refine zr1 13 (by kernel_rfl) (by simp only [lk0, lk1, lk2]; rfl) (fun K hK => ?_)
        go_simp
        go_at_call 23; refine (nameOf_any _ _ _ _ _ _ _ S2 _ (by decide) (pair_name he4.2.2.2.2.2.1).2.2.2.2.2).mono ?_; rintro e w5 ⟨rfl, hb5⟩; have he5 := lr1_step he4 hb5; clear hb5
        go_wp2_with fail
        refine hK.out _ _ ?hsb13 (fun hH => ?_)
        case hsb13 => exact he5
        clear hK K
        (try simp only [Act.put, pk0, pk1, pk2])
        refine zr1 15 (by kernel_rfl) (by simp only [lk0, lk1, lk2]; rfl) (fun K hK => ?_)
        go_simp
        go_at_call 23; refine (nameOf_any _ _ _ _ _ _ _ SS _ (by decide) (pair_name he5.2.2.2.2.2.2.2.2.2.2.2.2.1).2.2.2.2.2).mono ?_; rintro e w6 ⟨rfl, hb5⟩; have he6 := lr1_step he5 hb5; clear hb5
        go_wp2_with fail
        refine hK.out _ _ ?hsb15 (fun hH => ?_)
        case hsb15 => exact he6
        clear hK K
        (try simp only [Act.put, pk0, pk1, pk2])
        refine zt [16, 17, 18] ?_
        iterate 3 (refine zt1 (fun _ _ d _ _ h => by cases d <;> exact h) (by simp only [lk0, lk1, lk2]; rfl) (by kernel_rfl) (by assumption) (by rfl) (fun w h => by (try dsimp only at h); go_simp; (try with_reducible rfl)) ?_; (try simp only [Act.put, pk0, pk1, pk2]))
        refine zt0 ?_
        refine wpAnyH_done (by kernel_rfl) ?_ _
        have HF := Lib.hid (show LR1 n w w.heap.size b off l c k g' o' d' S2 V2 wr.heap.size g o d SS VV w6 from he6)
        go_wp2
        go_roundw
        case rel => exact ⟨k + 1 + 1, by omega, by go_num, HF.out.2.2.2.2.2.2.2.2.2.2.2.1, HF.out.2.2.2.2.2.2.2.2.2.2.2.2.2⟩
        case measure => simp [intOf]; omega
    · obtain rfl : i = l := by omega
      go_wp2
      go_ret
      exact ⟨rfl, hB⟩
end Num
end Go.Proofs.Yteodljkcbddehaa
/-
  Ledgers of few accounts; amounts: plain.
-/
namespace Go.Proofs.Yteodljkcbddehaa
open Go.RowKit
namespace Num
open Ints
set_option linter.unusedSimpArgs false
set_option linter.unusedVariables false
theorem top_read : FloatKind.f64.format.read 9218868437227405311 = .number false 9007199254740991 971 := by decide +kernel
theorem num_le {m n : Nat} {e : Nat} (h : m ≤ n) : Ieee.Datum.order (.number false m (-1074 + (e : Int))) (.number false n 971) ≠ some .gt ∨ 2045 < e := by
  by_cases he : 2045 < e
  · exact Or.inr he
  · refine Or.inl ?_
    show some (compare (Ieee.signed false m ((-1074 + (e : Int)) - min (-1074 + (e : Int)) 971).toNat) (Ieee.signed false n ((971 : Int) - min (-1074 + (e : Int)) 971).toNat)) ≠ some .gt
    have hm : min (-1074 + (e : Int)) 971 = -1074 + (e : Int) := by omega
    rw [hm]
    have h0 : ((-1074 + (e : Int)) - (-1074 + (e : Int))).toNat = 0 := by omega
    rw [h0, signed_pos, signed_pos, Nat.shiftLeft_zero]
    have hle : m ≤ n <<< ((971 : Int) - (-1074 + (e : Int))).toNat := by
      rw [Nat.shiftLeft_eq]
      exact Nat.le_trans h (Nat.le_mul_of_pos_right _ (Nat.two_pow_pos _))
    intro hh
    have hh' : compare (m : Int) ((n <<< ((971 : Int) - (-1074 + (e : Int))).toNat : Nat) : Int) = .gt := Option.some.inj hh
    rcases Int.lt_or_le (m : Int) ((n <<< ((971 : Int) - (-1074 + (e : Int))).toNat : Nat) : Int) with h1 | h1
    · rw [cmp_lt h1] at hh'; cases hh'
    · have h2 : (m : Int) = ((n <<< ((971 : Int) - (-1074 + (e : Int))).toNat : Nat) : Int) := by omega
      rw [cmp_eq h2] at hh'; cases hh'
theorem inf_no {F : Nat} (h : F < 9218868437227405312) : isInfB F = false := by
  unfold isInfB
  rw [Nat.mod_eq_of_lt (by omega : F < 9223372036854775808)]
  rw [beq_eq_false_iff_ne]
  show (FloatKind.f64.format.read F).order (FloatKind.f64.format.read 9218868437227405311) ≠ some .gt
  rw [top_read]
  rcases read_pos (Nat.le_of_lt h) with ⟨e, hx⟩ | ⟨k, m, e, hx, hk, hm1, hm2⟩ | ⟨e, g⟩
  · rw [e]
    rcases num_le (m := F) (n := 9007199254740991) (e := 0) (by omega) with h1 | h1
    · exact h1
    · omega
  · rw [e]
    rcases num_le (m := m) (n := 9007199254740991) (e := k) (by omega) with h1 | h1
    · exact h1
    · omega
  · omega
theorem fin_pos {F : Nat} (h : F < 9218868437227405312) : finV 2 F = true := by
  show (Flo.feq F F && !isInfB F) = true
  rw [feq_pos (Nat.le_of_lt h), inf_no h]; rfl
theorem fin_inf : finV 2 9218868437227405312 = false := by decide +kernel
theorem fin_le {F : Nat} (h : F ≤ 9218868437227405312) (hf : finV 2 F = true) : F < 9218868437227405312 := by
  rcases Nat.lt_or_eq_of_le h with h1 | h1
  · exact h1
  · rw [h1, fin_inf] at hf; cases hf
theorem neg_pos {F : Nat} (h : F ≤ 9218868437227405312) : negW F = false := by
  unfold negW; rw [decide_eq_false_iff_not]; omega
theorem sign_pos {F : Nat} (hF : F < 2 ^ 64) (hf : finV 2 F = true) (hs : 0 < signF F) : F < 9218868437227405312 := by
  obtain ⟨h1, h2, h3, h4, h5⟩ := dbl_facts
  have hord : FloatKind.f64.format.order F 0 = some .gt := by
    unfold signF at hs
    by_cases c1 : (FloatKind.f64.format.order F 0 == some .lt) = true
    · rw [if_pos c1] at hs; omega
    · rw [if_neg c1] at hs
      by_cases c2 : (FloatKind.f64.format.order F 0 == some .gt) = true
      · simpa using c2
      · rw [if_neg c2] at hs; omega
  have hfe : Flo.feq F F = true ∧ isInfB F = false := by
    have h : (Flo.feq F F && !isInfB F) = true := hf
    rw [Bool.and_eq_true] at h
    exact ⟨h.1, by simpa using h.2⟩
  by_cases hlt : F < 9223372036854775808
  · by_cases hle : F ≤ 9218868437227405312
    · exact fin_le hle hf
    · exfalso
      have hn : (FloatKind.f64.format.read F).isNaN = true := by
        rw [f64_fmt]
        unfold Ieee.Format.read
        simp only [h1, h2, h3, h4]
        rw [Nat.mod_eq_of_lt hlt, if_neg (by omega), if_neg (by omega), if_neg (by omega)]
        rfl
      rw [Flo.feq_nan hn] at hfe
      cases hfe.1
  · exfalso
    have hneg : (F / 9223372036854775808 % 2 == 1) = true := by
      have : F / 9223372036854775808 = 1 := by omega
      rw [this]; rfl
    have hord' : (FloatKind.f64.format.read F).order (.number false 0 (-1074)) = some .gt := by rw [← read_zero]; exact hord
    rw [f64_fmt] at hord'
    unfold Ieee.Format.read at hord'
    simp only [h1, h2, h3, h4] at hord'
    rw [hneg] at hord'
    have num : ∀ (m : Nat) (p : Int), (Ieee.Datum.number true m p).order (.number false 0 (-1074)) ≠ some .gt := by
      intro m p hh
      have hh' : compare (Ieee.signed true m (p - min p (-1074)).toNat) (Ieee.signed false 0 (-1074 - min p (-1074)).toNat) = .gt := Option.some.inj hh
      have e0 : Ieee.signed false 0 (-1074 - min p (-1074)).toNat = 0 := by rw [signed_pos, Nat.zero_shiftLeft]; rfl
      rw [e0, signed_neg] at hh'
      generalize m <<< (p - min p (-1074)).toNat = t at hh'
      rcases Nat.eq_zero_or_pos t with ht | ht
      · rw [cmp_eq (by omega)] at hh'; cases hh'
      · rw [cmp_lt (by omega)] at hh'; cases hh'
    split at hord'
    · exact num _ _ hord'
    · split at hord'
      · exact num _ _ hord'
      · split at hord'
        · cases hord'
        · cases hord'
theorem int_pos {I : Int} (h0 : 0 < I) (h1 : I < 9223372036854775808) : floatOfInt .f64 I < 9218868437227405312 := by
  obtain ⟨d1, d2, d3, d4, d5⟩ := dbl_facts
  have hd : decide (I < 0) = false := by rw [decide_eq_false_iff_not]; omega
  show Ieee.double.nearest (decide (I < 0)) I.natAbs 0 < _
  rw [hd]
  generalize hm : I.natAbs = m
  have hm0 : m ≠ 0 := by omega
  have hm1 : m < 2 ^ 63 := by omega
  unfold Ieee.Format.nearest
  rw [if_neg hm0]
  simp only [d2, d3, d4, d5, word_pos]
  have hl : m.log2 < 63 := (Nat.log2_lt hm0).2 hm1
  have hlast : max (0 + (m.log2 : Int) - ((52 : Nat) : Int)) (-1074) = (m.log2 : Int) - 52 := by omega
  rw [hlast]
  have hk : ∀ x g : Nat, (Ieee.Toward.even.cut false x g) ≤ x / (1 <<< min g (x.log2 + 2)) + 1 := by
    intro x g
    unfold Ieee.Toward.cut
    have : ∀ b : Bool, b.toNat ≤ 1 := by intro b; cases b <;> decide
    exact Nat.add_le_add_left (this _) _
  have hkept : Ieee.Toward.even.cut false (m <<< ((0 : Int) - ((m.log2 : Int) - 52)).toNat) (((m.log2 : Int) - 52) - 0).toNat ≤ 9007199254740992 := by
    have hpow : m < 2 ^ (m.log2 + 1) := Nat.lt_log2_self
    by_cases hc : m.log2 ≤ 52
    · have e1 : ((0 : Int) - ((m.log2 : Int) - 52)).toNat = 52 - m.log2 := by omega
      have e2 : (((m.log2 : Int) - 52) - 0).toNat = 0 := by omega
      rw [e1, e2, cut_zero, Nat.shiftLeft_eq]
      have : m * 2 ^ (52 - m.log2) ≤ 2 ^ (m.log2 + 1) * 2 ^ (52 - m.log2) := Nat.mul_le_mul_right _ (Nat.le_of_lt hpow)
      rw [← Nat.pow_add, show m.log2 + 1 + (52 - m.log2) = 53 by omega] at this
      exact this
    · have e1 : ((0 : Int) - ((m.log2 : Int) - 52)).toNat = 0 := by omega
      have e2 : (((m.log2 : Int) - 52) - 0).toNat = m.log2 - 52 := by omega
      rw [e1, e2, Nat.shiftLeft_zero]
      refine Nat.le_trans (hk _ _) ?_
      have hmin : min (m.log2 - 52) (m.log2 + 2) = m.log2 - 52 := by omega
      rw [hmin, Nat.shiftLeft_eq, Nat.one_mul]
      have : m / 2 ^ (m.log2 - 52) < 9007199254740992 := by
        rw [Nat.div_lt_iff_lt_mul (Nat.two_pow_pos _)]
        have e3 : (9007199254740992 : Nat) * 2 ^ (m.log2 - 52) = 2 ^ (m.log2 + 1) := by
          rw [show (9007199254740992 : Nat) = 2 ^ 53 by decide, ← Nat.pow_add]
          congr 1; omega
        rw [e3]; exact hpow
      omega
  have hz : (((m.log2 : Int) - 52) - (-1074)).toNat ≤ 1084 := by omega
  have hz2 : (((m.log2 : Int) - 52) - (-1074)).toNat * 4503599627370496 ≤ 1084 * 4503599627370496 := Nat.mul_le_mul_right _ hz
  refine Nat.lt_of_le_of_lt (Nat.min_le_left _ _) ?_
  omega
theorem amt_of {K I : Int} {F : Nat} (hF : F < 2 ^ 64) (hi : okI I) (hf : finV K F = true) (hs : 0 < signV K I F) : AmtOk K I F (asF K I F) ∧ asF K I F < 9218868437227405312 := by
  have hb : asF K I F < 9218868437227405312 ∧ (isNum K = true) := by
    by_cases h2 : (K == 2) = true
    · have hK : K = 2 := by simpa using h2
      subst hK
      have hs' : 0 < signF F := hs
      exact ⟨sign_pos hF hf hs', rfl⟩
    · have h1 : (K == 1) = true := by
        unfold finV at hf; rw [if_neg h2] at hf; exact hf
      have hK : K = 1 := by simpa using h1
      subst hK
      have hs' : 0 < signI I := hs
      have h0 : 0 < I := by
        unfold signI at hs'
        by_cases c : I < 0
        · rw [if_pos c] at hs'; omega
        · rw [if_neg c] at hs'
          by_cases c2 : 0 < I
          · exact c2
          · rw [if_neg c2] at hs'; omega
      unfold okI at hi
      exact ⟨int_pos h0 (by omega), rfl⟩
  refine ⟨⟨hF, hi, hf, hs, rfl, ?_⟩, hb.1⟩
  have h1 : (isNum 2 && isNum K) = true := by rw [hb.2]; rfl
  rw [opV_flo h1 rfl]
  show ((2 : Int), (0 : Int), Flo.cop .add 0 (asF K I F), (0 : Int)) = _
  rw [cop_nought hb.1]
def ledA (AS : List (ByteArray × Nat)) : List (ByteArray × VT 1) := AS.map (fun e => (e.1, floT 0 e.2))
def OkA (AS : List (ByteArray × Nat)) : Prop := Names (AS.map (·.1)) ∧ AS.length ≤ 32 ∧ ∀ e ∈ AS, e.2 < 9218868437227405312
theorem ledA_len (AS : List (ByteArray × Nat)) : (ledA AS).length = AS.length := List.length_map _
theorem ledA_names (AS : List (ByteArray × Nat)) : (ledA AS).map (·.1) = AS.map (·.1) := by unfold ledA; rw [List.map_map]; rfl
theorem ledA_mem {AS : List (ByteArray × Nat)} (h : OkA AS) : ∀ e ∈ ledA AS, ∃ F, F < 9218868437227405312 ∧ e.2 = floT 0 F := by
  intro e he
  obtain ⟨x, hx, rfl⟩ := List.mem_map.1 he
  exact ⟨x.2, h.2.2 x hx, rfl⟩
theorem small_flo {F : Nat} (h : F < 9218868437227405312) : SmallV (floT 0 F) := ⟨⟨9, measT_num rfl rfl, by decide, by decide⟩, partsT_else rfl, by
  show ((2, 0, Flo.canon F, ⟨#[]⟩, []) : VT 1) = _
  rw [Flo.canon_yes (feq_pos (Nat.le_of_lt h))]; rfl⟩
theorem acc_flo {F : Nat} (h : F < 9218868437227405312) : AccV (floT 0 F) := ⟨rfl, fin_pos h, neg_pos (Nat.le_of_lt h)⟩
theorem okA_L {AS : List (ByteArray × Nat)} (h : OkA AS) : OkL 0 (ledA AS) := ⟨by rw [ledA_names]; exact h.1, by rw [ledA_len]; exact h.2.1, fun e he => by obtain ⟨F, hF, e2⟩ := ledA_mem h e he; rw [e2]; exact acc_flo hF⟩
theorem okA_small {AS : List (ByteArray × Nat)} (h : OkA AS) : ∀ e ∈ ledA AS, SmallV e.2 := fun e he => by obtain ⟨F, hF, e2⟩ := ledA_mem h e he; rw [e2]; exact small_flo hF
theorem okA_cln {AS : List (ByteArray × Nat)} (h : OkA AS) : Cln 3 (tableT 0 (ledA AS)) := by
  have h3 := tab_small (okA_L h).1 (okA_L h).2.1 (okA_small h)
  exact ⟨h3.2.1, h3.2.2, walk_check h3.1⟩
theorem okA_clean {AS : List (ByteArray × Nat)} (h : OkA AS) : cleanT 3 (tableT 0 (ledA AS)) = tableT 0 (ledA AS) := clean_table (fun e he => (okA_small h e he).2.2)
theorem set_ledA (AS : List (ByteArray × Nat)) (i : Nat) (k : ByteArray) (F : Nat) : (ledA AS).set i (k, floT 0 F) = ledA (AS.set i (k, F)) := by unfold ledA; rw [List.map_set]
theorem okA_set {AS : List (ByteArray × Nat)} (h : OkA AS) {i : Nat} (hi : i < AS.length) {k : ByteArray} (hk : (AS[i]).1 = k) {F : Nat} (hF : F < 9218868437227405312) : OkA (AS.set i (k, F)) := by
  have hn : (AS.set i (k, F)).map (·.1) = AS.map (·.1) := by
    rw [List.map_set]
    have : (AS.map (·.1)).set i k = AS.map (·.1) := by
      have hi' : i < (AS.map (·.1)).length := by rw [List.length_map]; exact hi
      have e : (AS.map (·.1))[i]'hi' = k := by rw [List.getElem_map]; exact hk
      rw [← e, List.set_getElem_self]
    exact this
  refine ⟨by rw [hn]; exact h.1, by rw [List.length_set]; exact h.2.1, fun e he => ?_⟩
  rcases List.mem_or_eq_of_mem_set he with h1 | h1
  · exact h.2.2 e h1
  · rw [h1]; exact hF
end Num
end Go.Proofs.Yteodljkcbddehaa
/-
  Package ledger: total.
-/
namespace Go.Proofs.Yteodljkcbddehaa
open Go.RowKit
namespace Num
open Ints
set_option linter.unusedSimpArgs false
set_option linter.unusedVariables false
def sumL {n : Nat} (ES : List (ByteArray × VT (n + 1))) : Nat := ES.foldl (fun s e => Flo.cop .add s e.2.2.2.1) 0
theorem sum_take {n : Nat} {ES : List (ByteArray × VT (n + 1))} {i : Nat} (h : i < ES.length) : sumL (ES.take (i + 1)) = Flo.cop .add (sumL (ES.take i)) ES[i].2.2.2.1 := by
  unfold sumL
  rw [List.take_add_one, List.getElem?_eq_getElem h, List.foldl_append]
  rfl
set_option maxRecDepth 100000 in
set_option maxHeartbeats 4000000 in
theorem total_any (n : Nat) (p : Option Addr) (l c : Nat) (ES : List (ByteArray × VT (n + 1))) (w0 w : World) (HBW : Hid (Below w0.heap.size w0 w)) (HL : Hid (RepL w0 (Rep w0 (n + 2)) p l c (ES.map (pairE n)))) (hl : l ≤ 32) (hac : ∀ e ∈ ES, AccV e.2) :
    Calls Try.prog 37 #[.slice p l c] w fun e w' => e = .returned (.agg #[.int .i64 2, .int .i64 0, .float .f64 (sumL ES), .string ⟨#[]⟩, .slice none 0 0]) ∧ Below w.heap.size w w' := by
  have TR1 := Lib.hid (show (fun z0 : World => Zz z0 w.heap.size ∧ Below w.heap.size w z0) (w.alloc (.cells #[.int .i64 0, .int .i64 0, .float .f64 0, .string ⟨#[]⟩, .slice none 0 0] 27)) from ⟨row_alloc w #[.int .i64 0, .int .i64 0, .float .f64 0, .string ⟨#[]⟩, .slice none 0 0] 27, bel_alloc (Below.refl w.heap.size w) _⟩)
  have HAC := Lib.hid hac
  have HLEN := Lib.hid (show ES.length = l by have := HL.out.1; rw [List.length_map] at this; exact this)
  have hl0 : (0 : Int) ≤ (l : Int) := by omega
  clear hac
  go_enter Try.func37, Try.ntmps37
  go_wp2_with fail
  go_at_call 55; refine (nothing_any _).mono ?_; rintro e w5 ⟨rfl, hbw5⟩
  have TR2 := Lib.hid (And.intro (row_step TR1.out.1 hbw5) (bel_step TR1.out.2 hbw5))
  clear TR1
  clear hbw5
  go_wp2
  have hlt1 : w.heap.size < w5.heap.size := row_lt TR2.out.1
  have hlt2 : w.heap.size ≤ w5.heap.size := TR2.out.2.size
  have TR3 := Lib.hid (show (fun z0 : World => Zz z0 w.heap.size ∧ ZF z0 w5.heap.size 0 ∧ Below w.heap.size w z0) (w5.alloc (.cells #[.int .i64 2, .int .i64 0, .float .f64 0, .string ⟨#[]⟩, .slice none 0 0] 27)) from ⟨row_alloc_step TR2.out.1 _, (ra (by simp only [World.size_alloc, World.size_drew])), bel_step TR2.out.2 (bel_alloc br _)⟩)
  go_loopw [9] (fun iv wr => ∃ i : Nat, i ≤ l ∧ iv = .int .i64 i ∧ wr.heap[w.heap.size]? = some (.cells #[.int .i64 0, .int .i64 0, .float .f64 0, .string ⟨#[]⟩, .slice none 0 0] 27 (0, 0)) ∧ wr.heap[w5.heap.size]? = some (.cells #[.int .i64 2, .int .i64 0, .float .f64 (sumL (ES.take i)), .string ⟨#[]⟩, .slice none 0 0] 27 (0, 0)) ∧ Below w.heap.size w wr) (fun iv _ => l - (intOf iv).toNat)
  case atStart => exact ⟨0, by omega, rfl, TR3.out.1, TR3.out.2.1, TR3.out.2.2⟩
  case round =>
    obtain ⟨i, hil, rfl, hrel⟩ := hrel
    obtain ⟨SM, hSM⟩ : ∃ s, sumL (ES.take i) = s := ⟨_, rfl⟩
    rw [hSM] at hrel
    have HSM := Lib.hid hSM
    clear hSM
    have TU0 := Lib.hid hrel
    clear hrel
    by_cases hlt : i < l
    · obtain ⟨b, off, rfl, _⟩ := HL.out.2.2.2 (by omega)
      obtain ⟨gx, ox, cgx, hc0, hc1, hc2, hc3, hc4, hp⟩ := acc_at (repL_acc HBW.out HL.out) (show i < ES.length from by have := HLEN.out; omega)
      obtain ⟨⟨sx, Vx⟩, hsv⟩ : ∃ e, e = ES[i]'(show i < ES.length by have := HLEN.out; omega) := ⟨_, rfl⟩
      rw [← hsv] at hp
      have HSV := Lib.hid hsv
      have HCx0 := Lib.hid hc0
      have HCx1 := Lib.hid hc1
      have HCx2 := Lib.hid hc2
      have HCx3 := Lib.hid hc3
      have HCx4 := Lib.hid hc4
      have HPx := Lib.hid hp
      have hbx := cell_lt hc0
      have hx1 : (0 : Int) ≤ (i : Int) := by omega
      have hx2 : (i : Int) < (l : Int) := by omega
      clear hsv hc0 hc1 hc2 hc3 hc4 hp
      obtain ⟨FV, hfv⟩ : ∃ f, Vx.2.2.1 = f := ⟨_, rfl⟩
      have HVV := Lib.hid (show Vx.1 = 2 ∧ Vx.2.2.1 = FV from ⟨by have h := HAC.out _ (List.getElem_mem (show i < ES.length by have := HLEN.out; omega)); rw [← HSV.out] at h; exact h.1, hfv⟩)
      clear hfv
      have e0 := ck TU0.out.2.2 HCx0.out
      have e1 := ck TU0.out.2.2 HCx1.out
      have e2 := ck TU0.out.2.2 HCx2.out
      have e3 := ck TU0.out.2.2 HCx3.out
      have e4 := ck TU0.out.2.2 HCx4.out
      have elt := cell_lt e0
      go_upto_region 5 with fail
      clear e0 e1 e2 e3 e4 elt
      have hlt3 : w.heap.size < wr.heap.size := row_lt TU0.out.1
      have hlt4 : w5.heap.size < wr.heap.size := row_lt TU0.out.2.1
      have hlt5 : w.heap.size ≤ wr.heap.size := TU0.out.2.2.size
      have TU1 := Lib.hid (show (fun z0 : World => Zz z0 w.heap.size ∧ ZF z0 w5.heap.size SM ∧ ZL z0 wr.heap.size (some ⟨gx, ox, none⟩) 2 cgx ∧ Below w.heap.size w z0) (wr.alloc (.cells #[.int .i64 4, .int .i64 0, .float .f64 0, .string ⟨#[]⟩, .slice (some ⟨gx, ox, none⟩) 2 cgx] 27)) from ⟨row_alloc_step TU0.out.1 _, row_alloc_step TU0.out.2.1 _, (ra (by simp only [World.size_alloc, World.size_drew])), bel_step TU0.out.2.2 (bel_alloc br _)⟩)
      have TU2 := Lib.hid (And.intro (row_step TU1.out.1 (Below.drew br)) (And.intro (row_step TU1.out.2.1 (Below.drew br)) (And.intro (row_step TU1.out.2.2.1 (Below.drew br)) (bel_step TU1.out.2.2.2 (Below.drew br)))))
      clear TU1
      refine wp_region_held_drew (S := (fun z => z.cell? ⟨w5.heap.size, 0, none⟩ = some (.int .i64 2) ∧ z.cell? ⟨w5.heap.size, 1, none⟩ = some (.int .i64 0) ∧ z.cell? ⟨w5.heap.size, 3, none⟩ = some (.string ⟨#[]⟩) ∧ z.cell? ⟨w5.heap.size, 4, none⟩ = some (.slice none 0 0) ∧ z.cell? ⟨wr.heap.size, 0, none⟩ = some (.int .i64 4) ∧ z.cell? ⟨wr.heap.size, 1, none⟩ = some (.int .i64 0) ∧ z.cell? ⟨wr.heap.size, 2, none⟩ = some (.float .f64 0) ∧ z.cell? ⟨wr.heap.size, 3, none⟩ = some (.string ⟨#[]⟩) ∧ z.cell? ⟨wr.heap.size, 4, none⟩ = some (.slice (some ⟨gx, ox, none⟩) 2 cgx))) (by kernel_rfl) ?_ (fun hH => ?_)
      · exact ⟨rc TU2.out.2.1 0, rc TU2.out.2.1 1, rc TU2.out.2.1 3, rc TU2.out.2.1 4, rc TU2.out.2.2.1 0, rc TU2.out.2.2.1 1, rc TU2.out.2.2.1 2, rc TU2.out.2.2.1 3, rc TU2.out.2.2.1 4⟩
      refine zt [1] ?_
      refine zt1 (fun _ _ d _ _ h => by cases d <;> exact h) (by simp only [lk0, lk1, lk2]; rfl) (by kernel_rfl) (by assumption) (by rfl) (fun w h => by (try dsimp only at h); go_simp; (try with_reducible rfl)) ?_; (try simp only [Act.put, pk0, pk1, pk2])
      refine zt0 ?_
      refine wpAnyH_ready (rs := [0, 2]) (by kernel_rfl) (by simp) ?_
      refine AllReadyH.cons (o := ?_) ?hov7_ ?hstv7_ ?mov7_
      case hov7_ => (simp only [lk0, lk1, lk2]; rfl)
      case hstv7_ =>
        intro K hK
        have b30 := rc TU2.out.2.1 0; have b31 := rc TU2.out.2.1 1; have b32 := rc TU2.out.2.1 2; have b33 := rc TU2.out.2.1 3; have b34 := rc TU2.out.2.1 4; have b3l := row_lt TU2.out.2.1
        go_simp
        clear b30 b31 b32 b33 b34 b3l
        refine hK.out _ _ ?hsv7_ (fun hH => ?_)
        case hsv7_ => exact ⟨rc TU2.out.2.1 0, rc TU2.out.2.1 1, rc TU2.out.2.1 3, rc TU2.out.2.1 4, rc TU2.out.2.2.1 0, rc TU2.out.2.2.1 1, rc TU2.out.2.2.1 2, rc TU2.out.2.2.1 3, rc TU2.out.2.2.1 4⟩
        clear hK K
        (try simp only [Act.put, pk0, pk1, pk2])
        refine zr1 2 (by kernel_rfl) (by simp only [lk0, lk1, lk2]; rfl) (fun K hK => ?_)
        go_simp
        go_at_call 57; refine (hasOf_any n _ sx Vx _ (rep_keep TU2.out.2.2.2 _ _ _ HPx.out)).mono ?_; rintro e w9 ⟨Ky, Iy, Fy, Sy, qy, my, dy, rfl, hbw9, hry⟩
        have TU3 := Lib.hid (And.intro (row_step TU2.out.1 hbw9) (And.intro (row_step TU2.out.2.1 hbw9) (And.intro (row_step TU2.out.2.2.1 hbw9) (bel_step TU2.out.2.2.2 hbw9))))
        clear TU2
        obtain ⟨rfl, rfl, hiy⟩ := hold_shape HVV.out hry
        clear hry
        clear hbw9
        go_wp2_with fail
        refine hK.out _ _ ?hsv8_ (fun hH => ?_)
        case hsv8_ => exact ⟨rc TU3.out.2.1 0, rc TU3.out.2.1 1, rc TU3.out.2.1 3, rc TU3.out.2.1 4, rc TU3.out.2.2.1 0, rc TU3.out.2.2.1 1, rc TU3.out.2.2.1 2, rc TU3.out.2.2.1 3, rc TU3.out.2.2.1 4⟩
        clear hK K
        (try simp only [Act.put, pk0, pk1, pk2])
        refine zr1 3 (by kernel_rfl) (by simp only [lk0, lk1, lk2]; rfl) (fun K hK => ?_)
        go_simp
        go_at_call 62; refine (add_any 2 0 SM _ _ _ _ 2 Iy FV Sy qy my dy _ (by decide) hiy (show opV 0 2 0 SM 2 Iy FV = (2, 0, Flo.cop .add SM FV, 0) from opV_flo rfl rfl)).mono ?_; rintro e w11 ⟨rfl, hbw11⟩
        have TU4 := Lib.hid (And.intro (row_step TU3.out.1 hbw11) (And.intro (row_step TU3.out.2.1 hbw11) (And.intro (row_step TU3.out.2.2.1 hbw11) (bel_step TU3.out.2.2.2 hbw11))))
        clear TU3
        clear hbw11
        go_wp2_with fail
        refine hK.out _ _ ?hsv10_ (fun hH => ?_)
        case hsv10_ => exact ⟨rc TU4.out.2.1 0, rc TU4.out.2.1 1, rc TU4.out.2.1 3, rc TU4.out.2.1 4, rc TU4.out.2.2.1 0, rc TU4.out.2.2.1 1, rc TU4.out.2.2.1 2, rc TU4.out.2.2.1 3, rc TU4.out.2.2.1 4⟩
        clear hK K
        (try simp only [Act.put, pk0, pk1, pk2])
        refine zt [4, 5, 6] ?_
        iterate 3 (refine zt1 (fun _ _ d _ _ h => by cases d <;> exact h) (by simp only [lk0, lk1, lk2]; rfl) (by kernel_rfl) (by assumption) (by rfl) (fun w h => by (try dsimp only at h); go_simp; (try with_reducible rfl)) ?_; (try simp only [Act.put, pk0, pk1, pk2]))
        refine zt0 ?_
        refine zr1 7 (by kernel_rfl) (by simp only [lk0, lk1, lk2]; rfl) (fun K hK => ?_)
        obtain ⟨b30, b31, b32, b33, b34, b3f, b3l⟩ := r7 TU4.out.2.1; go_simp
        have TU5 := Lib.hid (show (fun z0 : World => Zz z0 w.heap.size ∧ ZF z0 w5.heap.size (Flo.cop .add SM FV) ∧ ZL z0 wr.heap.size (some ⟨gx, ox, none⟩) 2 cgx ∧ Below w.heap.size w z0) (((((w11.setCell ⟨w5.heap.size, 0, none⟩ (.int .i64 2)).setCell ⟨w5.heap.size, 1, none⟩ (.int .i64 0)).setCell ⟨w5.heap.size, 2, none⟩ (.float .f64 (Flo.cop .add SM FV))).setCell ⟨w5.heap.size, 3, none⟩ (.string ⟨#[]⟩)).setCell ⟨w5.heap.size, 4, none⟩ (.slice none 0 0)) from ⟨s5o TU4.out.1 (by omega), s5r TU4.out.2.1, s5o TU4.out.2.2.1 (by omega), s5b TU4.out.2.2.2 (by omega)⟩)
        clear TU4
        clear b30 b31 b32 b33 b34 b3f b3l
        go_wp2_with fail
        refine hK.out _ _ ?hsv15_ (fun hH => ?_)
        case hsv15_ => exact ⟨rc TU5.out.2.1 0, rc TU5.out.2.1 1, rc TU5.out.2.1 3, rc TU5.out.2.1 4, rc TU5.out.2.2.1 0, rc TU5.out.2.2.1 1, rc TU5.out.2.2.1 2, rc TU5.out.2.2.1 3, rc TU5.out.2.2.1 4⟩
        clear hK K
        (try simp only [Act.put, pk0, pk1, pk2])
        refine wpAnyH_done (by kernel_rfl) ?_ _
        revert TU5
        generalize (((((w11.setCell ⟨w5.heap.size, 0, none⟩ (.int .i64 2)).setCell ⟨w5.heap.size, 1, none⟩ (.int .i64 0)).setCell ⟨w5.heap.size, 2, none⟩ (.float .f64 (Flo.cop .add SM FV))).setCell ⟨w5.heap.size, 3, none⟩ (.string ⟨#[]⟩)).setCell ⟨w5.heap.size, 4, none⟩ (.slice none 0 0)) = Wf
        intro TU5
        have HSN := Lib.hid (show sumL (ES.take (i + 1)) = Flo.cop .add SM FV by rw [sum_take (show i < ES.length by have := HLEN.out; omega), HSM.out, ← HSV.out, HVV.out.2])
        go_wp2
        go_roundw
        case rel => exact ⟨i + 1, by omega, by go_num, TU5.out.1, by rw [HSN.out]; exact TU5.out.2.1, TU5.out.2.2.2⟩
        case measure => simp [intOf]; omega
      case mov7_ =>
        refine AllReadyH.cons (o := ?_) ?hov16_ ?hstv16_ AllReadyH.nil
        case hov16_ => (simp only [lk0, lk1, lk2]; rfl)
        intro K hK
        go_simp
        go_at_call 57; refine (hasOf_any n _ sx Vx _ (rep_keep TU2.out.2.2.2 _ _ _ HPx.out)).mono ?_; rintro e w17 ⟨Ky, Iy, Fy, Sy, qy, my, dy, rfl, hbw17, hry⟩
        have TU3 := Lib.hid (And.intro (row_step TU2.out.1 hbw17) (And.intro (row_step TU2.out.2.1 hbw17) (And.intro (row_step TU2.out.2.2.1 hbw17) (bel_step TU2.out.2.2.2 hbw17))))
        clear TU2
        obtain ⟨rfl, rfl, hiy⟩ := hold_shape HVV.out hry
        clear hry
        clear hbw17
        go_wp2_with fail
        refine hK.out _ _ ?hsv16_ (fun hH => ?_)
        case hsv16_ => exact ⟨rc TU3.out.2.1 0, rc TU3.out.2.1 1, rc TU3.out.2.1 3, rc TU3.out.2.1 4, rc TU3.out.2.2.1 0, rc TU3.out.2.2.1 1, rc TU3.out.2.2.1 2, rc TU3.out.2.2.1 3, rc TU3.out.2.2.1 4⟩
        clear hK K
        (try simp only [Act.put, pk0, pk1, pk2])
        refine zr1 0 (by kernel_rfl) (by simp only [lk0, lk1, lk2]; rfl) (fun K hK => ?_)
        have b30 := rc TU3.out.2.1 0; have b31 := rc TU3.out.2.1 1; have b32 := rc TU3.out.2.1 2; have b33 := rc TU3.out.2.1 3; have b34 := rc TU3.out.2.1 4; have b3l := row_lt TU3.out.2.1
        go_simp
        clear b30 b31 b32 b33 b34 b3l
        refine hK.out _ _ ?hsv18_ (fun hH => ?_)
        case hsv18_ => exact ⟨rc TU3.out.2.1 0, rc TU3.out.2.1 1, rc TU3.out.2.1 3, rc TU3.out.2.1 4, rc TU3.out.2.2.1 0, rc TU3.out.2.2.1 1, rc TU3.out.2.2.1 2, rc TU3.out.2.2.1 3, rc TU3.out.2.2.1 4⟩
        clear hK K
        (try simp only [Act.put, pk0, pk1, pk2])
        refine zr1 3 (by kernel_rfl) (by simp only [lk0, lk1, lk2]; rfl) (fun K hK => ?_)
        go_simp
        go_at_call 62; refine (add_any 2 0 SM _ _ _ _ 2 Iy FV Sy qy my dy _ (by decide) hiy (show opV 0 2 0 SM 2 Iy FV = (2, 0, Flo.cop .add SM FV, 0) from opV_flo rfl rfl)).mono ?_; rintro e w20 ⟨rfl, hbw20⟩
        have TU4 := Lib.hid (And.intro (row_step TU3.out.1 hbw20) (And.intro (row_step TU3.out.2.1 hbw20) (And.intro (row_step TU3.out.2.2.1 hbw20) (bel_step TU3.out.2.2.2 hbw20))))
        clear TU3
        clear hbw20
        go_wp2_with fail
        refine hK.out _ _ ?hsv19_ (fun hH => ?_)
        case hsv19_ => exact ⟨rc TU4.out.2.1 0, rc TU4.out.2.1 1, rc TU4.out.2.1 3, rc TU4.out.2.1 4, rc TU4.out.2.2.1 0, rc TU4.out.2.2.1 1, rc TU4.out.2.2.1 2, rc TU4.out.2.2.1 3, rc TU4.out.2.2.1 4⟩
        clear hK K
        (try simp only [Act.put, pk0, pk1, pk2])
        refine zt [4, 5, 6] ?_
        iterate 3 (refine zt1 (fun _ _ d _ _ h => by cases d <;> exact h) (by simp only [lk0, lk1, lk2]; rfl) (by kernel_rfl) (by assumption) (by rfl) (fun w h => by (try dsimp only at h); go_simp; (try with_reducible rfl)) ?_; (try simp only [Act.put, pk0, pk1, pk2]))
        refine zt0 ?_
        refine zr1 7 (by kernel_rfl) (by simp only [lk0, lk1, lk2]; rfl) (fun K hK => ?_)
        obtain ⟨b30, b31, b32, b33, b34, b3f, b3l⟩ := r7 TU4.out.2.1; go_simp
        have TU5 := Lib.hid (show (fun z0 : World => Zz z0 w.heap.size ∧ ZF z0 w5.heap.size (Flo.cop .add SM FV) ∧ ZL z0 wr.heap.size (some ⟨gx, ox, none⟩) 2 cgx ∧ Below w.heap.size w z0) (((((w20.setCell ⟨w5.heap.size, 0, none⟩ (.int .i64 2)).setCell ⟨w5.heap.size, 1, none⟩ (.int .i64 0)).setCell ⟨w5.heap.size, 2, none⟩ (.float .f64 (Flo.cop .add SM FV))).setCell ⟨w5.heap.size, 3, none⟩ (.string ⟨#[]⟩)).setCell ⟨w5.heap.size, 4, none⟩ (.slice none 0 0)) from ⟨s5o TU4.out.1 (by omega), s5r TU4.out.2.1, s5o TU4.out.2.2.1 (by omega), s5b TU4.out.2.2.2 (by omega)⟩)
        clear TU4
        clear b30 b31 b32 b33 b34 b3f b3l
        go_wp2_with fail
        refine hK.out _ _ ?hsv24_ (fun hH => ?_)
        case hsv24_ => exact ⟨rc TU5.out.2.1 0, rc TU5.out.2.1 1, rc TU5.out.2.1 3, rc TU5.out.2.1 4, rc TU5.out.2.2.1 0, rc TU5.out.2.2.1 1, rc TU5.out.2.2.1 2, rc TU5.out.2.2.1 3, rc TU5.out.2.2.1 4⟩
        clear hK K
        (try simp only [Act.put, pk0, pk1, pk2])
        refine wpAnyH_done (by kernel_rfl) ?_ _
        revert TU5
        generalize (((((w20.setCell ⟨w5.heap.size, 0, none⟩ (.int .i64 2)).setCell ⟨w5.heap.size, 1, none⟩ (.int .i64 0)).setCell ⟨w5.heap.size, 2, none⟩ (.float .f64 (Flo.cop .add SM FV))).setCell ⟨w5.heap.size, 3, none⟩ (.string ⟨#[]⟩)).setCell ⟨w5.heap.size, 4, none⟩ (.slice none 0 0)) = Wf
        intro TU5
        have HSN := Lib.hid (show sumL (ES.take (i + 1)) = Flo.cop .add SM FV by rw [sum_take (show i < ES.length by have := HLEN.out; omega), HSM.out, ← HSV.out, HVV.out.2])
        go_wp2
        go_roundw
        case rel => exact ⟨i + 1, by omega, by go_num, TU5.out.1, by rw [HSN.out]; exact TU5.out.2.1, TU5.out.2.2.2⟩
        case measure => simp [intOf]; omega
    · obtain rfl : i = l := by omega
      have HSN := Lib.hid (show sumL ES = SM by rw [← HSM.out, List.take_of_length_le (by have := HLEN.out; omega)])
      obtain ⟨c0_0, c0_1, c0_2, c0_3, c0_4, c0f, c0l⟩ := r7 TU0.out.1
      obtain ⟨c1_0, c1_1, c1_2, c1_3, c1_4, c1f, c1l⟩ := r7 TU0.out.2.1
      go_wp2
      refine bodyPost_ret (v := .agg #[.int .i64 2, .int .i64 0, .float .f64 SM, .string ⟨#[]⟩, .slice none 0 0]) (by simp [results, Try.results37, go_sem, World.cell?_setCell_same, World.cell?_setCell_other, c0_0, c0_1, c0_2, c0_3, c0_4]) rfl ⟨by rw [HSN.out], ?_⟩
      exact set5_below (g := w.heap.size) (o := 0) TU0.out.2.2 (Nat.le_refl _) _ _ _ _ _
end Num
end Go.Proofs.Yteodljkcbddehaa
/-
  Package ledger: names.
-/
namespace Go.Proofs.Yteodljkcbddehaa
open Go.RowKit
namespace Num
open Ints
set_option linter.unusedSimpArgs false
set_option linter.unusedVariables false
set_option maxRecDepth 100000 in
set_option maxHeartbeats 4000000 in
theorem lnames_any (n : Nat) (p : Option Addr) (l c : Nat) (ES : List (ByteArray × VT (n + 1))) (w0 w : World) (hbw : Below w0.heap.size w0 w) (h : RepL w (Rep w0 (n + 2)) p l c (ES.map (pairE n))) (hl : l ≤ 1000) :
    Calls Try.prog 36 #[.slice p l c] w fun e w' => ∃ p' c', e = .returned (.agg #[.int .i64 4, .int .i64 0, .float .f64 0, .string ⟨#[]⟩, .slice p' l c']) ∧ Below w.heap.size w w' ∧ ∀ y, Stay w.heap.size w' y → RepL y (Rep w0 (n + 1)) p' l c' (ES.map fun e => nameV n e.1) := by
  have HB0 := Lib.hid hbw
  have HL := Lib.hid h
  have HLEN := Lib.hid (show ES.length = l by have := h.1; rw [List.length_map] at this; exact this)
  have hl0 : (0 : Int) ≤ (l : Int) := by omega
  have HO := Lib.hid (ow_none (w.alloc (.cells #[.int .i64 0, .int .i64 0, .float .f64 0, .string ⟨#[]⟩, .slice none 0 0] 27)) (w.alloc (.cells #[.int .i64 0, .int .i64 0, .float .f64 0, .string ⟨#[]⟩, .slice none 0 0] 27)) (Rep w0 (n + 1)) br (Nat.le_refl _))
  have hcc : c ≤ 9223372036854775807 := by have := h.2.2.1; unfold maxLen at this; omega
  have HB := Lib.hid (bel_alloc (Below.refl w.heap.size w) (.cells #[.int .i64 0, .int .i64 0, .float .f64 0, .string ⟨#[]⟩, .slice none 0 0] 27))
  have HZA := Lib.hid (World.size_alloc w (.cells #[.int .i64 0, .int .i64 0, .float .f64 0, .string ⟨#[]⟩, .slice none 0 0] 27))
  have HRW := Lib.hid (row_alloc w #[.int .i64 0, .int .i64 0, .float .f64 0, .string ⟨#[]⟩, .slice none 0 0] 27)
  clear h hbw
  go_enter Try.func36, Try.ntmps36
  go_wp2
  generalize w.alloc (.cells #[.int .i64 0, .int .i64 0, .float .f64 0, .string ⟨#[]⟩, .slice none 0 0] 27) = wa at HO HB HRW HZA ⊢
  go_loopw [3, 8] (fun s3 s8 wr => ∃ (i : Nat) (q : Option Addr) (d : Nat), i ≤ l ∧ s3 = .slice q i d ∧ s8 = .int .i64 i ∧ OwV wa wr (Rep w0 (n + 1)) q i d ((ES.map fun e => nameV n e.1).take i)) (fun _ s8 _ => l - (intOf s8).toNat)
  case atStart => exact ⟨0, none, 0, by omega, rfl, rfl, HO.out⟩
  case round =>
    obtain ⟨i, q, d, hil, rfl, rfl, ho⟩ := hrel
    have HOW := Lib.hid ho
    have HBW := Lib.hid (bel_step HB.out (ow_rep ho).2)
    have HRO := Lib.hid (row_step HRW.out (ow_rep ho).2)
    clear ho
    by_cases hlt : i < l
    · obtain ⟨b, off, hpb, hit⟩ := HL.out.2.2.2 (by omega)
      subst hpb
      have hei : i < ES.length := by have := HLEN.out; omega
      obtain ⟨v0, v1, v2, v3, v4, c0, c1, c2, c3, c4, hre⟩ := hit i (by rw [List.length_map]; exact hei)
      rw [List.getElem_map] at hre
      have hre' : Rep w0 (n + 2) (.agg #[v0, v1, v2, v3, v4]) (pairT n ES[i].1 ES[i].2) := hre
      obtain ⟨g, o, dd, hv, ⟨n0, n1, n2, n3, qn, dn, n4, hdn⟩, hsz, _⟩ := pair_mem hre'
      injection hv with hv
      simp only [Array.mk.injEq, List.cons.injEq, and_true] at hv
      obtain ⟨rfl, rfl, rfl, rfl, rfl⟩ := hv
      have hB := HBW.out
      have e0 := ck hB c0; have e1 := ck hB c1; have e2 := ck hB c2; have e3 := ck hB c3; have e4 := ck hB c4
      have hB' := bel_step HB0.out hB
      have m0 := ck hB' n0; have m1 := ck hB' n1; have m2 := ck hB' n2; have m3 := ck hB' n3; have m4 := ck hB' n4
      have elt := cell_lt e0
      have mlt := cell_lt m0
      have elt' : b < wr.heap.size := elt
      have mlt' : g < wr.heap.size := mlt
      have ene : wr.heap.size ≠ b := by omega
      have mne : wr.heap.size ≠ g := by omega
      have ene1 : wr.heap.size + 1 ≠ b := by omega
      have mne1 : wr.heap.size + 1 ≠ g := by omega
      have hi0 : (0 : Int) ≤ (i : Int) := by omega
      have hil2 : (i : Int) < (l : Int) := by omega
      obtain ⟨oe, hoe⟩ : ∃ o', Obj.cells #[.int .i64 4, .int .i64 0, .float .f64 0, .string ⟨#[]⟩, .slice (some ⟨g, o, none⟩) 2 dd] 27 = o' := ⟨_, rfl⟩
      have hn := row_alloc (wr.alloc oe) #[.int .i64 3, .int .i64 0, .float .f64 0, .string ES[i].1, .slice qn 0 dn] 27
      rw [World.size_alloc] at hn
      have hal := bel_alloc (bel_alloc (Below.refl wr.heap.size wr) oe) (.cells #[.int .i64 3, .int .i64 0, .float .f64 0, .string ES[i].1, .slice qn 0 dn] 27)
      have HO2 := Lib.hid (ow_step HOW.out hal)
      have HN := Lib.hid (row1_rep (R := Rep w0 (n + 1)) (A := nameV n ES[i].1) hn ⟨qn, 0, dn, rfl, (by decide : okI 3), (by decide : okI 0), (by decide : (0 : Nat) < 2 ^ 64), hsz, rfl, Nat.zero_le _, hdn, fun h => absurd h (Nat.lt_irrefl _)⟩)
      subst hoe
      have HTK := Lib.hid (show (ES.map fun e => nameV n e.1).take (i + 1) = (ES.map fun e => nameV n e.1).take i ++ [nameV n ES[i].1] by rw [List.take_add_one, List.getElem?_map, List.getElem?_eq_getElem hei]; rfl)
      obtain ⟨NM, hnm⟩ : ∃ z, ES[i].1 = z := ⟨_, rfl⟩
      rw [hnm] at HN HO2 HTK m3
      clear hn hal hre hre' hit c0 c1 c2 c3 c4 n0 n1 n2 n3 n4 hB hB' hsz hnm
      go_wp2_with (at_builtin; refine wp_ovs rfl (.tmp 12) (.tmp 17) rfl (rep_one w0 (n + 1)) wa _ q i d _ (some ⟨wr.heap.size + 1, 0, none⟩) 1 1 [nameV n NM] rfl rfl HO2.out HN.out (by omega) ?_; intro p2 c2 w2 ho2; rw [← HTK.out] at ho2; have HO3 := Lib.hid ho2; clear ho2)
      go_roundw
      case rel => exact ⟨i + 1, p2, c2, by omega, rfl, by go_num, HO3.out⟩
      case measure => simp [intOf]; omega
    · obtain rfl : i = l := by omega
      go_wp2_with fail
      go_at_call 18; refine (llist_any _ _ _ _).mono ?_; rintro e w3 ⟨rfl, hb3⟩
      have HB3 := Lib.hid (bel_step HBW.out hb3)
      have x := row_step HRO.out hb3
      have p0 := rc x 0; have p1 := rc x 1; have p2 := rc x 2; have p3 := rc x 3; have p4 := rc x 4
      simp only [lk0, lk1, lk2] at p0 p1 p2 p3 p4
      have f := fun o => row_frz x o
      have lx : w.heap.size < w3.heap.size := row_lt x
      have HST := Lib.hid (show ∀ y, Stay w.heap.size (set5 w3 w.heap.size 0 (.int .i64 4) (.int .i64 0) (.float .f64 0) (.string ⟨#[]⟩) (.slice q i d)) y → RepL y (Rep w0 (n + 1)) q i d (ES.map fun e => nameV n e.1) from fun y hy => by
        have h1 := (ow_rep HOW.out).1 y (fun b hb1 hb2 => by
          have h2 := HZA.out
          have h3 := hb3.size
          refine (hy b (by omega) (by rw [set5_size]; omega)).trans ?_
          exact (set5_other (by omega)).trans (hb3.block b hb2))
        rw [List.take_of_length_le (by rw [List.length_map, HLEN.out]; exact Nat.le_refl _)] at h1
        exact h1)
      clear hb3 x HOW HBW HRO
      go_wp2
      refine bodyPost_ret (v := .agg #[.int .i64 4, .int .i64 0, .float .f64 0, .string ⟨#[]⟩, .slice q i d]) (by simp [results, Try.results36, go_sem, World.cell?_setCell_same, World.cell?_setCell_other, p0, p1, p2, p3, p4]) rfl ⟨q, d, rfl, ?_, HST.out⟩
      exact set5_below (g := w.heap.size) (o := 0) HB3.out (Nat.le_refl _) _ _ _ _ _
end Num
end Go.Proofs.Yteodljkcbddehaa
