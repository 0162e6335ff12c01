/-
  The reference: a deposit.
-/
import Derived.Test.YtpbfaffheigjcaaGreatVMI
import Derived.Test.YtpbfaffheigjcaaGreatVp18LM
import Derived.Test.YtpbfaffheigjcaaGreatVp14LD
import Derived.Test.YtpbfaffheigjcaaGreatVp16YE
import Derived.Test.YtpbfaffheigjcaaGreatVp6WLo
import Derived.Test.YtpbfaffheigjcaaGreatVp17YU
import Derived.Test.YtpbfaffheigjcaaGreatVp3VBase
import Derived.Deep.RegionHeld3
import Derived.RegionTactic
import Derived.Deep.DeepCutAuto
namespace Go.Proofs.YtpbfaffheigjcaaGreat
open Go.RowKit
namespace Num
open Ints
set_option linter.unusedSimpArgs false
set_option linter.unusedVariables false
theorem ro_rep1 {ge1 : Nat} {R : Value → VT 2 → Prop} {k1 : ByteArray} {V1 : VT 1} {y : World} {u0 u1 u2 u3 u4 v0 v1 v2 v3 v4 : Value} (hR : ∀ v T, R v T → Rep y 2 v T)
    (h1 : y.heap[ge1]? = some (.cells #[u0, u1, u2, u3, u4, v0, v1, v2, v3, v4] 27 (0, 0)))
    (hk1 : Rep y 1 (.agg #[u0, u1, u2, u3, u4]) (3, 0, 0, k1, [])) (hv1 : Rep y 1 (.agg #[v0, v1, v2, v3, v4]) V1) :
    ∀ v T, RO 0 ge1 R k1 V1 v T → Rep y 2 v T := by
  rintro v T (h | ⟨rfl, rfl⟩)
  · exact hR _ _ h
  · exact list_rep (row2_rep h1 hk1 hv1)
set_option maxRecDepth 100000 in
set_option maxHeartbeats 8000000 in
theorem rdep_ok (b off l c a d bl ol cl : Nat) (p : Option Addr) (ka kd : ByteArray) (K3 I3 : Int) (F3 : Nat) (S3 : ByteArray) (q3 : Option Addr) (m3 d3 : Nat) (w : World) (n0 : w.cell? ⟨bl, ol + 3, none⟩ = some (.string ka)) (v0 : w.cell? ⟨bl, ol + 5, none⟩ = some (.int .i64 K3)) (v1 : w.cell? ⟨bl, ol + 5 + 1, none⟩ = some (.int .i64 I3)) (v2 : w.cell? ⟨bl, ol + 5 + 2, none⟩ = some (.float .f64 F3)) (v3 : w.cell? ⟨bl, ol + 5 + 3, none⟩ = some (.string S3)) (v4 : w.cell? ⟨bl, ol + 5 + 4, none⟩ = some (.slice q3 m3 d3)) (R : Value → VT 2 → Prop) (ES : List (ByteArray × VT 1)) (hl : l ≤ 32) (G : Nat) (ha : amtV K3 I3 F3 = .tuple #[.float .f64 G, .bool true]) (FA : Nat) (hal : a < l) (gc oc cgc : Nat) (hc : AccC w b off a ka FA gc oc cgc) (HE : Hid (EntsL w (some ⟨b, off, none⟩) l (ES.map (·.1)))) (hs : Spot (ES.map (·.1)) ka a true) (HOP2 : Hid (∀ t W, (binOp .add t (.float .f64 FA) (.float .f64 G)).run Tryz.prog W = .ok (.float .f64 (Flo.cop .add FA G)) W)) (HCG : Hid (Flo.canon (Flo.cop .add FA G) = (Flo.cop .add FA G))) (hfin : finV 2 (Flo.cop .add FA G) = true) (hR : One5 R) (HL : Hid (RepL w R (some ⟨b, off, none⟩) l c (ES.map (pairE 0)))) (hna : nmV 3 ka = true) :
    Calls Tryz.prog 38 #[.agg #[.int .i64 4, .int .i64 0, .float .f64 0, .string ⟨#[]⟩, .slice (some ⟨b, off, none⟩) l c], .string { data := #[100, 101, 112, 111, 115, 105, 116] }, .slice (some ⟨bl, ol, none⟩) 2 cl] w fun e w' => RLQ w R (some ⟨b, off, none⟩) l c (ES.map (pairE 0)) (tableT 0 (ES.set a (ka, floT 0 (Flo.cop .add FA G)))) (floT 0 (Flo.cop .add FA G)) 0 e w' := by
  have TR1 := Lib.hid (show (fun z0 : World => ZL z0 w.heap.size (some ⟨b, off, none⟩) l c ∧ Zz z0 (w.heap.size + 1) ∧ Zz z0 (w.heap.size + 1 + 1) ∧ Below w.heap.size w z0) (((w.alloc (.cells #[.int .i64 4, .int .i64 0, .float .f64 0, .string ⟨#[]⟩, .slice (some ⟨b, off, none⟩) l c] 27)).alloc (.cells #[.int .i64 0, .int .i64 0, .float .f64 0, .string ⟨#[]⟩, .slice none 0 0] 27)).alloc (.cells #[.int .i64 0, .int .i64 0, .float .f64 0, .string ⟨#[]⟩, .slice none 0 0] 27)) from ⟨row_alloc_step (row_alloc_step (row_alloc w #[.int .i64 4, .int .i64 0, .float .f64 0, .string ⟨#[]⟩, .slice (some ⟨b, off, none⟩) l c] 27) _) _, (row_alloc_step (ra (by simp only [World.size_alloc, World.size_drew])) _), (ra (by simp only [World.size_alloc, World.size_drew])), bel_alloc (bel_alloc (bel_alloc (Below.refl w.heap.size w) _) _) _⟩)
  have HV := Lib.hid (show ∀ W, Below w.heap.size w W → W.cell? ⟨bl, ol + 5, none⟩ = some (.int .i64 K3) ∧ W.cell? ⟨bl, ol + 5 + 1, none⟩ = some (.int .i64 I3) ∧ W.cell? ⟨bl, ol + 5 + 2, none⟩ = some (.float .f64 F3) ∧ W.cell? ⟨bl, ol + 5 + 3, none⟩ = some (.string S3) ∧ W.cell? ⟨bl, ol + 5 + 4, none⟩ = some (.slice q3 m3 d3) from fun W hb => ⟨ck hb v0, ck hb v1, ck hb v2, ck hb v3, ck hb v4⟩)
  have HA := Lib.hid ha
  clear v0 v1 v2 v3 v4 ha
  have hbl : bl < w.heap.size := cell_lt n0
  have HNN := Lib.hid (show ∀ W, Below w.heap.size w W → W.cell? ⟨bl, ol + 3, none⟩ = some (.string ka) from fun W hb => ck hb n0)
  clear n0
  have HS := Lib.hid hs
  clear hs
  have HC := Lib.hid hc
  clear hc
  have Hc0 := Lib.hid HC.out.1
  have Hc1 := Lib.hid HC.out.2.1
  have Hc2 := Lib.hid HC.out.2.2.1
  have Hc3 := Lib.hid HC.out.2.2.2.1
  have Hc4 := Lib.hid HC.out.2.2.2.2.1
  have Hc5 := Lib.hid HC.out.2.2.2.2.2.1
  have Hc6 := Lib.hid HC.out.2.2.2.2.2.2
  have hbc := cell_lt HC.out.1
  have hgc := cell_lt HC.out.2.2.2.2.2.1
  have hc1 : (0 : Int) ≤ (a : Int) := by omega
  have hc2 : (a : Int) < (l : Int) := by omega
  go_enter Tryz.func38, Tryz.ntmps38
  obtain ⟨e0, e1, e2, e3, e4⟩ := HV.out _ br
  have ebl : bl < w.heap.size := cell_lt e0
  have ene0 : w.heap.size ≠ bl := by omega
  have ene1 : w.heap.size + 1 ≠ bl := by omega
  have ene2 : w.heap.size + 1 + 1 ≠ bl := by omega
  have elt1 : bl < w.heap.size + 1 := by omega
  have elt2 : bl < w.heap.size + 1 + 1 := by omega
  go_wp2_with fail
  go_at_call 71; refine (amount_is8 HA.out S3 q3 m3 d3 _).mono ?_; rintro e w42 ⟨rfl, hbw42⟩
  have TR2 := Lib.hid (And.intro (row_step TR1.out.1 hbw42) (And.intro (row_step TR1.out.2.1 hbw42) (And.intro (row_step TR1.out.2.2.1 hbw42) (bel_step TR1.out.2.2.2 hbw42))))
  clear TR1
  clear hbw42
  clear e0 e1 e2 e3 e4
  have en := HNN.out _ TR2.out.2.2.2
  have enl := cell_lt en
  obtain ⟨c0_0, c0_1, c0_2, c0_3, c0_4, c0f, c0l⟩ := r7 TR2.out.1
  go_wp2_with fail
  go_at_call 68; refine (at_any 4 0 0 _ _ l c a (ES.map (·.1)) ka true _ (entsL_step HE.out TR2.out.2.2.2) HS.out).mono ?_; rintro e w43 ⟨rfl, hbw43⟩
  have TR3 := Lib.hid (And.intro (row_step TR2.out.1 hbw43) (And.intro (row_step TR2.out.2.1 hbw43) (And.intro (row_step TR2.out.2.2.1 hbw43) (bel_step TR2.out.2.2.2 hbw43))))
  clear TR2
  clear hbw43
  clear en enl
  clear c0_0 c0_1 c0_2 c0_3 c0_4 c0f c0l
  obtain ⟨c0_0, c0_1, c0_2, c0_3, c0_4, c0f, c0l⟩ := r7 TR3.out.1
  have ec4 := ck TR3.out.2.2.2 Hc4.out
  have ec6 := ck TR3.out.2.2.2 Hc6.out
  have ecl := cell_lt ec4
  have ecm := cell_lt ec6
  have hop2 := HOP2.out
  go_wp2_with fail
  go_at_call 20; refine (float_is HCG.out _).mono ?_; rintro e w44 ⟨rfl, hbw44⟩
  have TR4 := Lib.hid (And.intro (row_step TR3.out.1 hbw44) (And.intro (row_step TR3.out.2.1 hbw44) (And.intro (row_step TR3.out.2.2.1 hbw44) (bel_step TR3.out.2.2.2 hbw44))))
  clear TR3
  clear hbw44
  clear hop2
  clear c0_0 c0_1 c0_2 c0_3 c0_4 c0f c0l
  clear ec4 ec6 ecl ecm
  go_wp2_with fail
  have hlt45 : w.heap.size < w44.heap.size := (by have h := row_lt TR4.out.1; (try simp only [World.size_alloc, World.size_drew] at h); exact h)
  have hlt46 : w.heap.size + 1 < w44.heap.size := (by have h := row_lt TR4.out.2.1; (try simp only [World.size_alloc, World.size_drew] at h); exact h)
  have hlt47 : w.heap.size + 1 + 1 < w44.heap.size := (by have h := row_lt TR4.out.2.2.1; (try simp only [World.size_alloc, World.size_drew] at h); exact h)
  have hlt48 : w.heap.size ≤ w44.heap.size := (by have h := TR4.out.2.2.2.size; (try simp only [World.size_alloc, World.size_drew] at h); exact h)
  have TR5 := Lib.hid (show (fun z0 : World => ZL z0 w.heap.size (some ⟨b, off, none⟩) l c ∧ Zz z0 (w.heap.size + 1) ∧ Zz z0 (w.heap.size + 1 + 1) ∧ ZF z0 w44.heap.size (Flo.cop .add FA G) ∧ Below w.heap.size w z0) (w44.alloc (.cells #[.int .i64 2, .int .i64 0, .float .f64 (Flo.cop .add FA G), .string ⟨#[]⟩, .slice none 0 0] 27)) from ⟨(row_alloc_step (TR4.out.1) _), (row_alloc_step (TR4.out.2.1) _), (row_alloc_step (TR4.out.2.2.1) _), (ra (by simp only [World.size_alloc, World.size_drew, World.size_setCell])), bel_step TR4.out.2.2.2 (bel_alloc br _)⟩)
  go_at_call 72; refine (refFinite_any 2 0 (Flo.cop .add FA G) _ _ _ _ _).mono ?_; rintro e w49 ⟨rfl, hbw49⟩
  have TR6 := Lib.hid (And.intro (row_step TR5.out.1 hbw49) (And.intro (row_step TR5.out.2.1 hbw49) (And.intro (row_step TR5.out.2.2.1 hbw49) (And.intro (row_step TR5.out.2.2.2.1 hbw49) (bel_step TR5.out.2.2.2.2 hbw49)))))
  clear TR5
  clear hbw49
  go_upto_region 40 with fail
  have hltW1 : w.heap.size + 1 < w49.heap.size := row_lt TR6.out.2.1
  have hltW2 : w.heap.size + 1 + 1 < w49.heap.size := row_lt TR6.out.2.2.1
  have hdrW : w49.drew.heap.size = w49.heap.size := World.size_drew _
  have hleW : w.heap.size ≤ w49.heap.size := TR6.out.2.2.2.2.size
  have TR7 := Lib.hid (And.intro (row_step TR6.out.1 (show Below w49.heap.size w49 w49.drew from Below.drew br)) (And.intro (row_step TR6.out.2.1 (show Below w49.heap.size w49 w49.drew from Below.drew br)) (And.intro (row_step TR6.out.2.2.1 (show Below w49.heap.size w49 w49.drew from Below.drew br)) (And.intro (row_step TR6.out.2.2.2.1 (show Below w49.heap.size w49 w49.drew from Below.drew br)) (bel_step TR6.out.2.2.2.2 (show Below w49.heap.size w49 w49.drew from Below.drew br))))))
  clear TR6
  refine wp_region_held_drew (S := (fun z => z.cell? ⟨w.heap.size, 0, none⟩ = some (.int .i64 4) ∧ z.cell? ⟨w.heap.size, 1, none⟩ = some (.int .i64 0) ∧ z.cell? ⟨w.heap.size, 2, none⟩ = some (.float .f64 0) ∧ z.cell? ⟨w.heap.size, 3, none⟩ = some (.string ⟨#[]⟩) ∧ z.cell? ⟨w.heap.size, 4, none⟩ = some (.slice (some ⟨b, off, none⟩) l c) ∧ z.cell? ⟨w44.heap.size, 0, none⟩ = some (.int .i64 2) ∧ z.cell? ⟨w44.heap.size, 1, none⟩ = some (.int .i64 0) ∧ z.cell? ⟨w44.heap.size, 2, none⟩ = some (.float .f64 (Flo.cop .add FA G)) ∧ z.cell? ⟨w44.heap.size, 3, none⟩ = some (.string ⟨#[]⟩) ∧ z.cell? ⟨w44.heap.size, 4, none⟩ = some (.slice none 0 0))) (by kernel_rfl) ?_ (fun hH => ?_)
  · exact ⟨rc TR7.out.1 0, rc TR7.out.1 1, rc TR7.out.1 2, rc TR7.out.1 3, rc TR7.out.1 4, rc TR7.out.2.2.2.1 0, rc TR7.out.2.2.2.1 1, rc TR7.out.2.2.2.1 2, rc TR7.out.2.2.2.1 3, rc TR7.out.2.2.2.1 4⟩
  refine zt [0, 1, 2, 3, 5] ?_
  iterate 5 (refine zt1 (fun _ _ d _ _ h => by cases d <;> exact h) (by simp only [lk0, lk1, lk2]; rfl) (by kernel_rfl) (by assumption) (by rfl) (fun w h => by (try dsimp only at h); go_simp; (try with_reducible rfl)) ?_; (try simp only [Act.put, pk0, pk1, pk2]))
  refine zt0 ?_
  refine zr1 4 (by kernel_rfl) (by simp only [lk0, lk1, lk2]; rfl) (fun K hK => ?_)
  go_simp
  go_at_call 69; refine (with_R 0 b off l c a ka 2 0 (Flo.cop .add FA G) _ none 0 0 (ES.map (pairE 0)) (floT 0 (Flo.cop .add FA G)) R hR _ (Lib.hid (repL_at TR7.out.2.2.2.2 HL.out)) (nm_size hna) (by omega) (by omega)).mono ?_; rintro e w56 ⟨p6, c6, ge1, rfl, hbw56, hge1, hrow1, hy6⟩
  have TR8 := Lib.hid (And.intro (row_step TR7.out.1 hbw56) (And.intro (row_step TR7.out.2.1 hbw56) (And.intro (row_step TR7.out.2.2.1 hbw56) (And.intro (row_step TR7.out.2.2.2.1 hbw56) (bel_step TR7.out.2.2.2.2 hbw56)))))
  clear TR7
  have TR9 := Lib.hid (show ZL w56 w.heap.size (some ⟨b, off, none⟩) l c ∧ Zz w56 (w.heap.size + 1) ∧ Zz w56 (w.heap.size + 1 + 1) ∧ ZF w56 w44.heap.size (Flo.cop .add FA G) ∧ w56.heap[ge1]? = some (.cells #[.int .i64 3, .int .i64 0, .float .f64 0, .string ka, .slice none 0 0, .int .i64 2, .int .i64 0, .float .f64 (Flo.cop .add FA G), .string ⟨#[]⟩, .slice none 0 0] 27 (0, 0)) ∧ Below w.heap.size w w56 from ⟨TR8.out.1, TR8.out.2.1, TR8.out.2.2.1, TR8.out.2.2.2.1, hrow1, TR8.out.2.2.2.2⟩)
  clear TR8
  have TR10 := Lib.hid (show ZL w56 w.heap.size (some ⟨b, off, none⟩) l c ∧ Zz w56 (w.heap.size + 1) ∧ Zz w56 (w.heap.size + 1 + 1) ∧ ZF w56 w44.heap.size (Flo.cop .add FA G) ∧ w56.heap[ge1]? = some (.cells #[.int .i64 3, .int .i64 0, .float .f64 0, .string ka, .slice none 0 0, .int .i64 2, .int .i64 0, .float .f64 (Flo.cop .add FA G), .string ⟨#[]⟩, .slice none 0 0] 27 (0, 0)) ∧ (Stay w49.drew.heap.size w56 w56 ∧ w56.heap.size ≤ w56.heap.size) ∧ Below w.heap.size w w56 from ⟨TR9.out.1, TR9.out.2.1, TR9.out.2.2.1, TR9.out.2.2.2.1, TR9.out.2.2.2.2.1, ⟨stay_refl _ _, Nat.le_refl _⟩, TR9.out.2.2.2.2.2⟩)
  clear TR9
  have HY := Lib.hid hy6
  clear hy6 hrow1
  clear hbw56
  go_wp2_with fail
  refine hK.out _ _ ?hsv55_ (fun hH => ?_)
  case hsv55_ => exact ⟨rc TR10.out.1 0, rc TR10.out.1 1, rc TR10.out.1 2, rc TR10.out.1 3, rc TR10.out.1 4, rc TR10.out.2.2.2.1 0, rc TR10.out.2.2.2.1 1, rc TR10.out.2.2.2.1 2, rc TR10.out.2.2.2.1 3, rc TR10.out.2.2.2.1 4⟩
  clear hK K
  (try simp only [Act.put, pk0, pk1, pk2])
  refine zr1 6 (by kernel_rfl) (by simp only [lk0, lk1, lk2]; rfl) (fun K hK => ?_)
  obtain ⟨b30, b31, b32, b33, b34, b3f, b3l⟩ := r7 TR10.out.2.1; go_simp
  have TR11 := Lib.hid (show (fun z0 : World => ZL z0 w.heap.size (some ⟨b, off, none⟩) l c ∧ ZL z0 (w.heap.size + 1) p6 l c6 ∧ Zz z0 (w.heap.size + 1 + 1) ∧ ZF z0 w44.heap.size (Flo.cop .add FA G) ∧ z0.heap[ge1]? = some (.cells #[.int .i64 3, .int .i64 0, .float .f64 0, .string ka, .slice none 0 0, .int .i64 2, .int .i64 0, .float .f64 (Flo.cop .add FA G), .string ⟨#[]⟩, .slice none 0 0] 27 (0, 0)) ∧ (Stay w49.drew.heap.size w56 z0 ∧ w56.heap.size ≤ z0.heap.size) ∧ Below w.heap.size w z0) (((((w56.setCell ⟨w.heap.size + 1, 0, none⟩ (.int .i64 4)).setCell ⟨w.heap.size + 1, 1, none⟩ (.int .i64 0)).setCell ⟨w.heap.size + 1, 2, none⟩ (.float .f64 0)).setCell ⟨w.heap.size + 1, 3, none⟩ (.string ⟨#[]⟩)).setCell ⟨w.heap.size + 1, 4, none⟩ (.slice p6 l c6)) from ⟨s5o TR10.out.1 (by omega), s5r TR10.out.2.1, s5o TR10.out.2.2.1 (by omega), s5o TR10.out.2.2.2.1 (by omega), s5o TR10.out.2.2.2.2.1 (by omega), ⟨stay_set TR10.out.2.2.2.2.2.1.1 (by omega) (.int .i64 4) (.int .i64 0) (.float .f64 0) (.string ⟨#[]⟩) (.slice p6 l c6), by show _ ≤ (set5 w56 (w.heap.size + 1) 0 (.int .i64 4) (.int .i64 0) (.float .f64 0) (.string ⟨#[]⟩) (.slice p6 l c6)).heap.size; rw [set5_size]; exact TR10.out.2.2.2.2.2.1.2⟩, s5b TR10.out.2.2.2.2.2.2 (by omega)⟩)
  clear TR10
  clear b30 b31 b32 b33 b34 b3f b3l
  go_wp2_with fail
  refine hK.out _ _ ?hsv57_ (fun hH => ?_)
  case hsv57_ => exact ⟨rc TR11.out.1 0, rc TR11.out.1 1, rc TR11.out.1 2, rc TR11.out.1 3, rc TR11.out.1 4, rc TR11.out.2.2.2.1 0, rc TR11.out.2.2.2.1 1, rc TR11.out.2.2.2.1 2, rc TR11.out.2.2.2.1 3, rc TR11.out.2.2.2.1 4⟩
  clear hK K
  (try simp only [Act.put, pk0, pk1, pk2])
  refine zr1 7 (by kernel_rfl) (by simp only [lk0, lk1, lk2]; rfl) (fun K hK => ?_)
  obtain ⟨b30, b31, b32, b33, b34, b3f, b3l⟩ := r7 TR11.out.2.2.1; go_simp
  have TR12 := Lib.hid (show (fun z0 : World => ZL z0 w.heap.size (some ⟨b, off, none⟩) l c ∧ ZL z0 (w.heap.size + 1) p6 l c6 ∧ ZF z0 (w.heap.size + 1 + 1) (Flo.cop .add FA G) ∧ ZF z0 w44.heap.size (Flo.cop .add FA G) ∧ z0.heap[ge1]? = some (.cells #[.int .i64 3, .int .i64 0, .float .f64 0, .string ka, .slice none 0 0, .int .i64 2, .int .i64 0, .float .f64 (Flo.cop .add FA G), .string ⟨#[]⟩, .slice none 0 0] 27 (0, 0)) ∧ (Stay w49.drew.heap.size w56 z0 ∧ w56.heap.size ≤ z0.heap.size) ∧ Below w.heap.size w z0) ((((((((((w56.setCell ⟨w.heap.size + 1, 0, none⟩ (.int .i64 4)).setCell ⟨w.heap.size + 1, 1, none⟩ (.int .i64 0)).setCell ⟨w.heap.size + 1, 2, none⟩ (.float .f64 0)).setCell ⟨w.heap.size + 1, 3, none⟩ (.string ⟨#[]⟩)).setCell ⟨w.heap.size + 1, 4, none⟩ (.slice p6 l c6)).setCell ⟨w.heap.size + 1 + 1, 0, none⟩ (.int .i64 2)).setCell ⟨w.heap.size + 1 + 1, 1, none⟩ (.int .i64 0)).setCell ⟨w.heap.size + 1 + 1, 2, none⟩ (.float .f64 (Flo.cop .add FA G))).setCell ⟨w.heap.size + 1 + 1, 3, none⟩ (.string ⟨#[]⟩)).setCell ⟨w.heap.size + 1 + 1, 4, none⟩ (.slice none 0 0)) from ⟨s5o TR11.out.1 (by omega), s5o TR11.out.2.1 (by omega), s5r TR11.out.2.2.1, s5o TR11.out.2.2.2.1 (by omega), s5o TR11.out.2.2.2.2.1 (by omega), ⟨stay_set TR11.out.2.2.2.2.2.1.1 (by omega) (.int .i64 2) (.int .i64 0) (.float .f64 (Flo.cop .add FA G)) (.string ⟨#[]⟩) (.slice none 0 0), by show _ ≤ (set5 (((((w56.setCell ⟨w.heap.size + 1, 0, none⟩ (.int .i64 4)).setCell ⟨w.heap.size + 1, 1, none⟩ (.int .i64 0)).setCell ⟨w.heap.size + 1, 2, none⟩ (.float .f64 0)).setCell ⟨w.heap.size + 1, 3, none⟩ (.string ⟨#[]⟩)).setCell ⟨w.heap.size + 1, 4, none⟩ (.slice p6 l c6)) (w.heap.size + 1 + 1) 0 (.int .i64 2) (.int .i64 0) (.float .f64 (Flo.cop .add FA G)) (.string ⟨#[]⟩) (.slice none 0 0)).heap.size; rw [set5_size]; exact TR11.out.2.2.2.2.2.1.2⟩, s5b TR11.out.2.2.2.2.2.2 (by omega)⟩)
  clear TR11
  clear b30 b31 b32 b33 b34 b3f b3l
  go_wp2_with fail
  refine hK.out _ _ ?hsv58_ (fun hH => ?_)
  case hsv58_ => exact ⟨rc TR12.out.1 0, rc TR12.out.1 1, rc TR12.out.1 2, rc TR12.out.1 3, rc TR12.out.1 4, rc TR12.out.2.2.2.1 0, rc TR12.out.2.2.2.1 1, rc TR12.out.2.2.2.1 2, rc TR12.out.2.2.2.1 3, rc TR12.out.2.2.2.1 4⟩
  clear hK K
  (try simp only [Act.put, pk0, pk1, pk2])
  refine zt [8] ?_
  refine zt1 (fun _ _ d _ _ h => by cases d <;> exact h) (by simp only [lk0, lk1, lk2]; rfl) (by kernel_rfl) (by assumption) (by rfl) (fun w h => by (try dsimp only at h); go_simp; (try with_reducible rfl)) ?_; (try simp only [Act.put, pk0, pk1, pk2])
  refine zt0 ?_
  refine wpAnyH_done (by kernel_rfl) ?_ _
  revert TR12
  generalize ((((((((((w56.setCell ⟨w.heap.size + 1, 0, none⟩ (.int .i64 4)).setCell ⟨w.heap.size + 1, 1, none⟩ (.int .i64 0)).setCell ⟨w.heap.size + 1, 2, none⟩ (.float .f64 0)).setCell ⟨w.heap.size + 1, 3, none⟩ (.string ⟨#[]⟩)).setCell ⟨w.heap.size + 1, 4, none⟩ (.slice p6 l c6)).setCell ⟨w.heap.size + 1 + 1, 0, none⟩ (.int .i64 2)).setCell ⟨w.heap.size + 1 + 1, 1, none⟩ (.int .i64 0)).setCell ⟨w.heap.size + 1 + 1, 2, none⟩ (.float .f64 (Flo.cop .add FA G))).setCell ⟨w.heap.size + 1 + 1, 3, none⟩ (.string ⟨#[]⟩)).setCell ⟨w.heap.size + 1 + 1, 4, none⟩ (.slice none 0 0)) = Wf
  intro TR12
  obtain ⟨c1_0, c1_1, c1_2, c1_3, c1_4, c1f, c1l⟩ := r7 TR12.out.2.1
  obtain ⟨c2_0, c2_1, c2_2, c2_3, c2_4, c2f, c2l⟩ := r7 TR12.out.2.2.1
  go_wp2
  refine bodyPost_ret (v := .tuple #[.agg #[.int .i64 4, .int .i64 0, .float .f64 0, .string ⟨#[]⟩, .slice p6 l c6], .agg #[.int .i64 2, .int .i64 0, .float .f64 (Flo.cop .add FA G), .string ⟨#[]⟩, .slice none 0 0], .int .i64 0]) (by simp [results, Tryz.results38, go_sem, c1_0, c1_1, c1_2, c1_3, c1_4, c2_0, c2_1, c2_2, c2_3, c2_4]) rfl ⟨_, _, rfl, TR12.out.2.2.2.2.2.2, fun y _ hRy hst => ?_, fun y => flo_repn 0 y (Flo.cop_lt _ _ _)⟩
  have hr1 := (hst ge1 (by omega) (row_lt TR12.out.2.2.2.2.1)).trans TR12.out.2.2.2.2.1
  have hY := HY.out y (fun b h1 h2 => (hst b (by omega) (Nat.lt_of_lt_of_le h2 TR12.out.2.2.2.2.2.1.2)).trans (TR12.out.2.2.2.2.2.1.1 b h1 h2))
  refine list_rep ?_
  rw [List.map_set]
  exact repL_mono (ro_rep1 hRy hr1 (txt_repn 0 _ (nm_size hna)) (flo_repn 0 _ (Flo.cop_lt _ _ _))) hY
end Num
end Go.Proofs.YtpbfaffheigjcaaGreat
/-
  The reference: a list with a new entry, over any relation.
-/
namespace Go.Proofs.YtpbfaffheigjcaaGreat
open Go.RowKit
namespace Num
open Ints
set_option linter.unusedSimpArgs false
set_option linter.unusedVariables false
set_option maxRecDepth 100000 in
set_option maxHeartbeats 4000000 in
theorem with_Rgen (n : Nat) (p : Option Addr) (l c i : Nat) (k : ByteArray) (K3 I3 : Int) (F3 : Nat) (S3 : ByteArray) (q3 : Option Addr) (m3 d3 : Nat) (L : List (VT (n + 2))) (V : VT (n + 1)) (R : Value → VT (n + 2) → Prop) (hR : One5 R) (w : World) (HL : Hid (RepL w R p l c L)) (hk : k.size ≤ maxLen) (hi : i ≤ l) (hl : l ≤ 1000) :
    Calls Tryz.prog 69 #[.agg #[.int .i64 4, .int .i64 0, .float .f64 0, .string ⟨#[]⟩, .slice p l c], .int .i64 i, .bool false, .string k, .agg #[.int .i64 K3, .int .i64 I3, .float .f64 F3, .string S3, .slice q3 m3 d3]] w fun e w' => ∃ p3 c3 ge, e = .returned (.agg #[.int .i64 4, .int .i64 0, .float .f64 0, .string ⟨#[]⟩, .slice p3 (i + 1 + (l - i)) c3]) ∧ Below w.heap.size w w' ∧ w.heap.size ≤ ge ∧ w'.heap[ge]? = some (.cells #[.int .i64 3, .int .i64 0, .float .f64 0, .string k, .slice none 0 0, .int .i64 K3, .int .i64 I3, .float .f64 F3, .string S3, .slice q3 m3 d3] 27 (0, 0)) ∧ ∀ y, Stay w.heap.size w' y → RepL y (RO n ge R k V) p3 (i + 1 + (l - i)) c3 (L.take i ++ [pairT n k V] ++ L.drop i) := by
  have hlc : l ≤ c := HL.out.2.1
  have hcc : c ≤ 9223372036854775807 := by have := HL.out.2.2.1; unfold maxLen at this; omega
  obtain ⟨q9, hq9⟩ : ∃ q, (if c = i then p else p.map (fun x => x.add (i * 5))) = q := ⟨_, rfl⟩
  have hrl := HL.out
  have hdr : RepL w R q9 (l - (i)) (c - (i)) (L.drop (i)) := by
    have h := repL_sub hrl (i) l (by omega) (Nat.le_refl _)
    rw [List.take_of_length_le (by rw [List.length_drop, HL.out.1]; exact Nat.le_refl _)] at h
    rw [← hq9]
    exact h
  have hB := bel_alloc (bel_alloc (bel_alloc (Below.refl w.heap.size w) (.cells #[.int .i64 4, .int .i64 0, .float .f64 0, .string ⟨#[]⟩, .slice p l c] 27)) (.cells #[.int .i64 K3, .int .i64 I3, .float .f64 F3, .string S3, .slice q3 m3 d3] 27)) (.cells #[.int .i64 0, .int .i64 0, .float .f64 0, .string ⟨#[]⟩, .slice none 0 0] 27)
  have hc2 : ((w.alloc (.cells #[.int .i64 4, .int .i64 0, .float .f64 0, .string ⟨#[]⟩, .slice p l c] 27)).alloc (.cells #[.int .i64 K3, .int .i64 I3, .float .f64 F3, .string S3, .slice q3 m3 d3] 27)).heap.size = w.heap.size + 1 + 1 := by simp only [World.size_alloc]
  have HP0 := Lib.hid (show PY p l c K3 I3 F3 S3 q3 m3 d3 w (((w.alloc (.cells #[.int .i64 4, .int .i64 0, .float .f64 0, .string ⟨#[]⟩, .slice p l c] 27)).alloc (.cells #[.int .i64 K3, .int .i64 I3, .float .f64 F3, .string S3, .slice q3 m3 d3] 27)).alloc (.cells #[.int .i64 0, .int .i64 0, .float .f64 0, .string ⟨#[]⟩, .slice none 0 0] 27)) from ⟨rc (row_alloc_step (row_alloc_step (row_alloc w #[.int .i64 4, .int .i64 0, .float .f64 0, .string ⟨#[]⟩, .slice p l c] 27) _) _) 4, hB, cs_new hc2.symm, fun o => by have h := row_alloc ((w.alloc (.cells #[.int .i64 4, .int .i64 0, .float .f64 0, .string ⟨#[]⟩, .slice p l c] 27)).alloc (.cells #[.int .i64 K3, .int .i64 I3, .float .f64 F3, .string S3, .slice q3 m3 d3] 27)) #[.int .i64 0, .int .i64 0, .float .f64 0, .string ⟨#[]⟩, .slice none 0 0] 27; rw [hc2] at h; exact row_frz h o, cs_alloc (cs_new (by rw [World.size_alloc])) _⟩)
  have HDR := Lib.hid (repL_at hB hdr)
  have HT := Lib.hid (repL_take (repL_at hB hrl) i (by omega))
  have HO := Lib.hid (ow_none (((w.alloc (.cells #[.int .i64 4, .int .i64 0, .float .f64 0, .string ⟨#[]⟩, .slice p l c] 27)).alloc (.cells #[.int .i64 K3, .int .i64 I3, .float .f64 F3, .string S3, .slice q3 m3 d3] 27)).alloc (.cells #[.int .i64 0, .int .i64 0, .float .f64 0, .string ⟨#[]⟩, .slice none 0 0] 27)) (((w.alloc (.cells #[.int .i64 4, .int .i64 0, .float .f64 0, .string ⟨#[]⟩, .slice p l c] 27)).alloc (.cells #[.int .i64 K3, .int .i64 I3, .float .f64 F3, .string S3, .slice q3 m3 d3] 27)).alloc (.cells #[.int .i64 0, .int .i64 0, .float .f64 0, .string ⟨#[]⟩, .slice none 0 0] 27)) R br (Nat.le_refl _))
  have hi0 : (0 : Int) ≤ (i : Int) := by omega
  have hic : (i : Int) ≤ (c : Int) := by omega
  have hi1 : (i : Int) + 1 ≤ (c : Int) + 1 := by omega
  have hiz : ((i : Nat) : Int) ≤ (l : Int) := by omega
  have hwi : wrap64 ((i : Int) + 1) = (i : Int) + 1 := by unfold wrap64; omega
  have htn : ((i : Int) + 1).toNat = i + 1 := by omega
  have hip : (0 : Int) ≤ (i : Int) + 1 := by omega
  (try simp only [Int.natCast_add, Int.cast_ofNat_Int] at hiz)
  clear hrl hdr hB hc2
  go_enter Tryz.func69, Tryz.ntmps69
  go_upto_region 2 with (at_builtin; refine wp_ovs rfl (.const (.slice none 0 0)) (.tmp 15) rfl hR (((w.alloc (.cells #[.int .i64 4, .int .i64 0, .float .f64 0, .string ⟨#[]⟩, .slice p l c] 27)).alloc (.cells #[.int .i64 K3, .int .i64 I3, .float .f64 F3, .string S3, .slice q3 m3 d3] 27)).alloc (.cells #[.int .i64 0, .int .i64 0, .float .f64 0, .string ⟨#[]⟩, .slice none 0 0] 27)) (((w.alloc (.cells #[.int .i64 4, .int .i64 0, .float .f64 0, .string ⟨#[]⟩, .slice p l c] 27)).alloc (.cells #[.int .i64 K3, .int .i64 I3, .float .f64 F3, .string S3, .slice q3 m3 d3] 27)).alloc (.cells #[.int .i64 0, .int .i64 0, .float .f64 0, .string ⟨#[]⟩, .slice none 0 0] 27)) none 0 0 [] _ i _ (L.take i) rfl rfl HO.out HT.out (by omega) ?_; intro p1 c1 w1 ho1; rw [Nat.zero_add, List.nil_append] at ho1; have HP1 := Lib.hid (py_step HP0.out (ow_rep ho1).2); have HDR1 := Lib.hid (repL_at (ow_rep ho1).2 HDR.out); have HZ1 := Lib.hid (ow_rep ho1).2.size; have HO1 := Lib.hid ho1; clear ho1)
  have l1 : w.heap.size + 1 < w1.heap.size := cs_lt HP1.out.2.2.2.2
  refine wp_region_held_drew (S := (fun z => z.cell? ⟨w.heap.size + 1, 0, none⟩ = some (.int .i64 K3) ∧ z.cell? ⟨w.heap.size + 1, 1, none⟩ = some (.int .i64 I3) ∧ z.cell? ⟨w.heap.size + 1, 2, none⟩ = some (.float .f64 F3) ∧ z.cell? ⟨w.heap.size + 1, 3, none⟩ = some (.string S3) ∧ z.cell? ⟨w.heap.size + 1, 4, none⟩ = some (.slice q3 m3 d3))) (by kernel_rfl) ?_ (fun hH => ?_)
  · have hh := py_step HP1.out (Below.drew br); exact ⟨hh.2.2.2.2.1, hh.2.2.2.2.2.1, hh.2.2.2.2.2.2.1, hh.2.2.2.2.2.2.2.1, hh.2.2.2.2.2.2.2.2⟩
  have HWD := Lib.hid (py_step HP1.out (Below.drew br))
  have HOD := Lib.hid (ow_step HO1.out (Below.drew br))
  have hdz : w1.drew.heap.size = w1.heap.size := rfl
  revert HWD HOD hH hdz
  generalize w1.drew = Wd
  intro hH HWD HOD hdz
  refine zt [0, 1, 3] ?_
  iterate 3 (refine zt1 (fun _ _ d _ _ h => by cases d <;> exact h) (by simp only [lk0, lk1, lk2]; rfl) (by kernel_rfl) (by assumption) (by rfl) (fun w h => by (try dsimp only at h); go_simp; (try with_reducible rfl)) ?_; (try simp only [Act.put, pk0, pk1, pk2]))
  refine zt0 ?_
  refine zr1 2 (by kernel_rfl) (by simp only [lk0, lk1, lk2]; rfl) (fun K hK => ?_)
  go_simp
  go_at_call 19; refine (text_ref_any _ _).mono ?_; rintro e w3 ⟨rfl, hb3⟩; have hq3 := py_step HWD.out hb3; have ho3 := ow_step HOD.out hb3; have hz3 := hb3.size; clear hb3
  go_wp2_with fail
  refine hK.out _ _ ?hst2 (fun hH => ?_)
  case hst2 => exact ⟨hq3.2.2.2.2.1, hq3.2.2.2.2.2.1, hq3.2.2.2.2.2.2.1, hq3.2.2.2.2.2.2.2.1, hq3.2.2.2.2.2.2.2.2⟩
  clear hK K
  (try simp only [Act.put, pk0, pk1, pk2])
  refine zr1 4 (by kernel_rfl) (by simp only [lk0, lk1, lk2]; rfl) (fun K hK => ?_)
  go_simp
  have hal4 := bel_alloc (Below.refl w3.heap.size w3) (.cells #[.int .i64 3, .int .i64 0, .float .f64 0, .string k, .slice none 0 0, .int .i64 K3, .int .i64 I3, .float .f64 F3, .string S3, .slice q3 m3 d3] 27); have hq4 := py_step hq3 hal4; have ho4 := ow_step ho3 hal4; have hr4 := row_alloc w3 #[.int .i64 3, .int .i64 0, .float .f64 0, .string k, .slice none 0 0, .int .i64 K3, .int .i64 I3, .float .f64 F3, .string S3, .slice q3 m3 d3] 27; have hov := ov_lt ho3; clear hal4 hq3
  go_wp2_with fail
  refine hK.out _ _ ?hst4 (fun hH => ?_)
  case hst4 => exact ⟨hq4.2.2.2.2.1, hq4.2.2.2.2.2.1, hq4.2.2.2.2.2.2.1, hq4.2.2.2.2.2.2.2.1, hq4.2.2.2.2.2.2.2.2⟩
  clear hK K
  (try simp only [Act.put, pk0, pk1, pk2])
  refine zr1 5 (by kernel_rfl) (by simp only [lk0, lk1, lk2]; rfl) (fun K hK => ?_)
  go_simp
  go_at_call 18; refine (list_ref_any _ _ _ _).mono ?_; rintro e w5 ⟨rfl, hb5⟩; have hq5 := py_step hq4 hb5; have ho5 := ow_step ho4 hb5; have hr5 := row_step hr4 hb5; have hz5 : w3.heap.size + 1 ≤ w5.heap.size := (by have := hb5.size; rw [World.size_alloc] at this; exact this); clear hb5 hq4 ho4 hr4
  go_wp2_with fail
  refine hK.out _ _ ?hst5 (fun hH => ?_)
  case hst5 => exact ⟨hq5.2.2.2.2.1, hq5.2.2.2.2.2.1, hq5.2.2.2.2.2.2.1, hq5.2.2.2.2.2.2.2.1, hq5.2.2.2.2.2.2.2.2⟩
  clear hK K
  (try simp only [Act.put, pk0, pk1, pk2])
  refine zr1 6 (by kernel_rfl) (by simp only [lk0, lk1, lk2]; rfl) (fun K hK => ?_)
  go_simp
  have hal6 := bel_alloc (Below.refl w5.heap.size w5) (.cells #[.int .i64 4, .int .i64 0, .float .f64 0, .string ⟨#[]⟩, .slice (some ⟨w3.heap.size, 0, none⟩) 2 2] 27); have hq6 := py_step hq5 hal6; have ho6 := ov_mono (R' := RO n w3.heap.size R k V) (fun _ _ h => Or.inl h) (ow_step ho5 hal6); have hr6 := row_step hr5 hal6; have hn6 := row_alloc w5 #[.int .i64 4, .int .i64 0, .float .f64 0, .string ⟨#[]⟩, .slice (some ⟨w3.heap.size, 0, none⟩) 2 2] 27; clear hal6 hq5 ho5 hr5
  go_wp2_with fail
  refine hK.out _ _ ?hst6 (fun hH => ?_)
  case hst6 => exact ⟨hq6.2.2.2.2.1, hq6.2.2.2.2.2.1, hq6.2.2.2.2.2.2.1, hq6.2.2.2.2.2.2.2.1, hq6.2.2.2.2.2.2.2.2⟩
  clear hK K
  (try simp only [Act.put, pk0, pk1, pk2])
  refine zr1 7 (by kernel_rfl) (by simp only [lk0, lk1, lk2]; rfl) (fun K hK => ?_)
  skip
  have hne7 : some w3.heap.size ≠ (Value.slice p1 i c1).ownBlock := (fun e => (by have := hov _ e.symm; omega)); refine step_ovg rfl (.tmp 17) (.tmp 23) rfl (ro_one (ge := w3.heap.size) hR k V) (((w.alloc (.cells #[.int .i64 4, .int .i64 0, .float .f64 0, .string ⟨#[]⟩, .slice p l c] 27)).alloc (.cells #[.int .i64 K3, .int .i64 I3, .float .f64 F3, .string S3, .slice q3 m3 d3] 27)).alloc (.cells #[.int .i64 0, .int .i64 0, .float .f64 0, .string ⟨#[]⟩, .slice none 0 0] 27)) _ p1 i c1 (L.take i) _ 1 1 [pairT n k V] rfl rfl ho6 (ro_new hn6) (by omega) ?_; intro p2 c2 w7 ho7 hg7 hob7; have HNE7 := Lib.hid (show some w3.heap.size ≠ (Value.slice p2 (i + 1) c2).ownBlock from fun e => by rcases hob7 with h | h; exact hne7 (e.trans h); rw [h] at e; injection e with e; simp only [World.size_alloc] at e; omega); have hq7 := py_grown hq6 hg7 (fun k hk => by have := (ov_lt ho6 k hk).1; simp only [World.size_alloc] at this; omega); have hr7 := row_grown hr6 hg7 hne7; have HO7 := Lib.hid ho7; have hge7 : w.heap.size + 1 + 1 + 1 ≤ w3.heap.size := (by have := cs_lt HWD.out.2.2.1; omega); clear hg7 hr6 ho6 hn6 ho7 hne7 hob7
  go_wp2_with fail
  refine hK.out _ _ ?hst7 (fun hH => ?_)
  case hst7 => exact ⟨hq7.2.2.2.2.1, hq7.2.2.2.2.2.1, hq7.2.2.2.2.2.2.1, hq7.2.2.2.2.2.2.2.1, hq7.2.2.2.2.2.2.2.2⟩
  clear hK K
  (try simp only [Act.put, pk0, pk1, pk2])
  refine zt [8] ?_
  refine zt1 (fun _ _ d _ _ h => by cases d <;> exact h) (by simp only [lk0, lk1, lk2]; rfl) (by kernel_rfl) (by assumption) (by rfl) (fun w h => by (try dsimp only at h); go_simp; (try with_reducible rfl)) ?_; (try simp only [Act.put, pk0, pk1, pk2])
  refine zt0 ?_
  refine wpAnyH_done (by kernel_rfl) ?_ _
  have hd7 := repL_mono (R' := RO n w3.heap.size R k V) (fun _ _ h => Or.inl h) (repL_at (ow_rep HO7.out).2 HDR.out)
  have HD7 := Lib.hid hd7
  have HR7 := Lib.hid hr7
  have HQ7 := Lib.hid hq7
  have x4 := hq7.1
  have xl : w.heap.size < w7.heap.size := cell_lt x4
  clear hd7 hr7 hq7 hH HWD HOD
  go_wp2_with (at_builtin; refine wp_ovg rfl (.tmp 28) (.tmp 32) rfl (ro_one (ge := w3.heap.size) hR k V) (((w.alloc (.cells #[.int .i64 4, .int .i64 0, .float .f64 0, .string ⟨#[]⟩, .slice p l c] 27)).alloc (.cells #[.int .i64 K3, .int .i64 I3, .float .f64 F3, .string S3, .slice q3 m3 d3] 27)).alloc (.cells #[.int .i64 0, .int .i64 0, .float .f64 0, .string ⟨#[]⟩, .slice none 0 0] 27)) _ p2 (i + 1) c2 _ q9 (l - (i)) (c - (i)) _ rfl rfl HO7.out HD7.out (by omega) ?_; intro p3 c3 w8 ho8 hg8 _; (try rw [show i + 1 + (l - (i + 1)) = l by omega] at ho8); have hq8 := py_grown HQ7.out hg8 (fun k hk => by have := (ov_lt HO7.out k hk).1; simp only [World.size_alloc] at this; omega); have hr8 := row_grown HR7.out hg8 HNE7.out; have HY := Lib.hid (ow_rep ho8).1; have s0 := hq8.2.2.1.1; have s1 := hq8.2.2.1.2.1; have s2 := hq8.2.2.1.2.2.1; have s3 := hq8.2.2.1.2.2.2.1; have s4 := hq8.2.2.1.2.2.2.2; have sf := hq8.2.2.2.1; have sl := cell_lt s0; have HQ8 := Lib.hid hq8; have HR8 := Lib.hid hr8; clear hq8 hr8 hg8 ho8 x4 xl)
  have hoth : ∀ g, g ≠ w.heap.size + 1 + 1 → (set5 w8 (w.heap.size + 1 + 1) 0 (.int .i64 4) (.int .i64 0) (.float .f64 0) (.string ⟨#[]⟩) (.slice p3 (i + 1 + (l - i)) c3)).heap[g]? = w8.heap[g]? := fun g hg => set5_other (g := w.heap.size + 1 + 1) (o := 0) hg
  have hsz5 : (set5 w8 (w.heap.size + 1 + 1) 0 (.int .i64 4) (.int .i64 0) (.float .f64 0) (.string ⟨#[]⟩) (.slice p3 (i + 1 + (l - i)) c3)).heap.size = w8.heap.size := set5_size _ _ _ _ _ _ _ _
  refine bodyPost_ret (v := .agg #[.int .i64 4, .int .i64 0, .float .f64 0, .string ⟨#[]⟩, .slice p3 (i + 1 + (l - i)) c3]) (by simp [results, Tryz.results69, go_sem, World.cell?_setCell_same, World.cell?_setCell_other, s0, s1, s2, s3, s4]) rfl ⟨p3, c3, rfl, set5_below (g := w.heap.size + 1 + 1) (o := 0) HQ8.out.2.1 (by omega) _ _ _ _ _, w3.heap.size, by omega, (hoth _ (by omega)).trans HR8.out, fun y hst => ?_⟩
  have hst' : ∀ b, w.heap.size ≤ b → b < w8.heap.size → b ≠ w.heap.size + 1 + 1 → y.heap[b]? = w8.heap[b]? := fun b h1 h2 h3 => (hst b h1 (show b < (set5 w8 (w.heap.size + 1 + 1) 0 (.int .i64 4) (.int .i64 0) (.float .f64 0) (.string ⟨#[]⟩) (.slice p3 (i + 1 + (l - i)) c3)).heap.size by rw [hsz5]; exact h2)).trans (hoth b h3)
  have hy := HY.out y (fun b h1 h2 => by simp only [World.size_alloc] at h1; exact hst' b (by omega) h2 (by omega))
  first | exact hy | (rw [List.append_assoc] at hy; exact hy) | (rw [List.append_assoc]; exact hy)
end Num
end Go.Proofs.YtpbfaffheigjcaaGreat
/-
  The reference: an account opened.
-/
namespace Go.Proofs.YtpbfaffheigjcaaGreat
open Go.RowKit
namespace Num
open Ints
set_option linter.unusedSimpArgs false
set_option linter.unusedVariables false
set_option maxRecDepth 100000 in
set_option maxHeartbeats 8000000 in
theorem rope_ok (b off l c a d bl ol cl : Nat) (p : Option Addr) (ka kd : ByteArray) (K3 I3 : Int) (F3 : Nat) (S3 : ByteArray) (q3 : Option Addr) (m3 d3 : Nat) (w : World) (n0 : w.cell? ⟨bl, ol + 3, none⟩ = some (.string ka))  (R : Value → VT 2 → Prop) (ES : List (ByteArray × VT 1)) (hl : l ≤ 32) (HE : Hid (EntsL w p l (ES.map (·.1)))) (hs : Spot (ES.map (·.1)) ka a false) (hful : l < 32) (hal : a ≤ l) (hR : One5 R) (HL : Hid (RepL w R p l c (ES.map (pairE 0)))) (hna : nmV 3 ka = true) :
    Calls Tryz.prog 38 #[.agg #[.int .i64 4, .int .i64 0, .float .f64 0, .string ⟨#[]⟩, .slice p l c], .string { data := #[111, 112, 101, 110] }, .slice (some ⟨bl, ol, none⟩) 1 cl] w fun e w' => RLQ w R p l c (ES.map (pairE 0)) (tableT 0 (ES.take a ++ [(ka, floT 0 0)] ++ ES.drop a)) (nilT 0) 0 e w' := by
  have TR1 := Lib.hid (show (fun z0 : World => ZL z0 w.heap.size p l c ∧ Zz z0 (w.heap.size + 1) ∧ Zz z0 (w.heap.size + 1 + 1) ∧ Below w.heap.size w z0) (((w.alloc (.cells #[.int .i64 4, .int .i64 0, .float .f64 0, .string ⟨#[]⟩, .slice p l c] 27)).alloc (.cells #[.int .i64 0, .int .i64 0, .float .f64 0, .string ⟨#[]⟩, .slice none 0 0] 27)).alloc (.cells #[.int .i64 0, .int .i64 0, .float .f64 0, .string ⟨#[]⟩, .slice none 0 0] 27)) from ⟨row_alloc_step (row_alloc_step (row_alloc w #[.int .i64 4, .int .i64 0, .float .f64 0, .string ⟨#[]⟩, .slice p l c] 27) _) _, (row_alloc_step (ra (by simp only [World.size_alloc, World.size_drew])) _), (ra (by simp only [World.size_alloc, World.size_drew])), bel_alloc (bel_alloc (bel_alloc (Below.refl w.heap.size w) _) _) _⟩)
  have hbl : bl < w.heap.size := cell_lt n0
  have HNN := Lib.hid (show ∀ W, Below w.heap.size w W → W.cell? ⟨bl, ol + 3, none⟩ = some (.string ka) from fun W hb => ck hb n0)
  clear n0
  have HS := Lib.hid hs
  clear hs
  have hll : ¬ (32 : Int) ≤ (l : Int) := by omega
  have HCZ := Lib.hid (show Flo.canon 0 = 0 by decide)
  go_enter Tryz.func38, Tryz.ntmps38
  have ene0 : w.heap.size ≠ bl := by omega
  have ene1 : w.heap.size + 1 ≠ bl := by omega
  have ene2 : w.heap.size + 1 + 1 ≠ bl := by omega
  have elt1 : bl < w.heap.size + 1 := by omega
  have elt2 : bl < w.heap.size + 1 + 1 := by omega
  have ebl := hbl
  have en := HNN.out _ br
  go_wp2_with fail
  go_at_call 68; refine (at_any 4 0 0 _ _ l c a (ES.map (·.1)) ka false _ (entsL_step HE.out TR1.out.2.2.2) HS.out).mono ?_; rintro e w60 ⟨rfl, hbw60⟩
  have TR2 := Lib.hid (And.intro (row_step TR1.out.1 hbw60) (And.intro (row_step TR1.out.2.1 hbw60) (And.intro (row_step TR1.out.2.2.1 hbw60) (bel_step TR1.out.2.2.2 hbw60))))
  clear TR1
  clear hbw60
  clear en
  obtain ⟨c0_0, c0_1, c0_2, c0_3, c0_4, c0f, c0l⟩ := r7 TR2.out.1
  go_upto_region 25 with fail
  clear c0_0 c0_1 c0_2 c0_3 c0_4 c0f c0l
  have hltW1 : w.heap.size + 1 < w60.heap.size := row_lt TR2.out.2.1
  have hltW2 : w.heap.size + 1 + 1 < w60.heap.size := row_lt TR2.out.2.2.1
  have hdrW : w60.drew.heap.size = w60.heap.size := World.size_drew _
  have hleW : w.heap.size ≤ w60.heap.size := TR2.out.2.2.2.size
  have TR3 := Lib.hid (And.intro (row_step TR2.out.1 (show Below w60.heap.size w60 w60.drew from Below.drew br)) (And.intro (row_step TR2.out.2.1 (show Below w60.heap.size w60 w60.drew from Below.drew br)) (And.intro (row_step TR2.out.2.2.1 (show Below w60.heap.size w60 w60.drew from Below.drew br)) (bel_step TR2.out.2.2.2 (show Below w60.heap.size w60 w60.drew from Below.drew br)))))
  clear TR2
  refine wp_region_held_drew (S := (fun z => z.cell? ⟨w.heap.size, 0, none⟩ = some (.int .i64 4) ∧ z.cell? ⟨w.heap.size, 1, none⟩ = some (.int .i64 0) ∧ z.cell? ⟨w.heap.size, 2, none⟩ = some (.float .f64 0) ∧ z.cell? ⟨w.heap.size, 3, none⟩ = some (.string ⟨#[]⟩) ∧ z.cell? ⟨w.heap.size, 4, none⟩ = some (.slice p l c))) (by kernel_rfl) ?_ (fun hH => ?_)
  · exact ⟨rc TR3.out.1 0, rc TR3.out.1 1, rc TR3.out.1 2, rc TR3.out.1 3, rc TR3.out.1 4⟩
  refine zt [0, 1, 2, 5] ?_
  iterate 4 (refine zt1 (fun _ _ d _ _ h => by cases d <;> exact h) (by simp only [lk0, lk1, lk2]; rfl) (by kernel_rfl) (by assumption) (by rfl) (fun w h => by (try dsimp only at h); go_simp; (try with_reducible rfl)) ?_; (try simp only [Act.put, pk0, pk1, pk2]))
  refine zt0 ?_
  refine zr1 3 (by kernel_rfl) (by simp only [lk0, lk1, lk2]; rfl) (fun K hK => ?_)
  go_simp
  go_at_call 20; refine (float_is HCZ.out _).mono ?_; rintro e w66 ⟨rfl, hbw66⟩
  have TR4 := Lib.hid (And.intro (row_step TR3.out.1 hbw66) (And.intro (row_step TR3.out.2.1 hbw66) (And.intro (row_step TR3.out.2.2.1 hbw66) (bel_step TR3.out.2.2.2 hbw66))))
  clear TR3
  have hltF67 : w.heap.size + 1 + 1 < w66.heap.size := row_lt TR4.out.2.2.1
  clear hbw66
  go_wp2_with fail
  refine hK.out _ _ ?hsv65_ (fun hH => ?_)
  case hsv65_ => exact ⟨rc TR4.out.1 0, rc TR4.out.1 1, rc TR4.out.1 2, rc TR4.out.1 3, rc TR4.out.1 4⟩
  clear hK K
  (try simp only [Act.put, pk0, pk1, pk2])
  refine zr1 4 (by kernel_rfl) (by simp only [lk0, lk1, lk2]; rfl) (fun K hK => ?_)
  go_simp
  go_at_call 69; refine (with_Rgen 0 p l c a ka 2 0 0 _ none 0 0 (ES.map (pairE 0)) (floT 0 0) R hR _ (Lib.hid (repL_at TR4.out.2.2.2 HL.out)) (nm_size hna) (by omega) (by omega)).mono ?_; rintro e w69 ⟨p6, c6, ge1, rfl, hbw69, hge1, hrow1, hy6⟩
  have TR5 := Lib.hid (And.intro (row_step TR4.out.1 hbw69) (And.intro (row_step TR4.out.2.1 hbw69) (And.intro (row_step TR4.out.2.2.1 hbw69) (bel_step TR4.out.2.2.2 hbw69))))
  clear TR4
  have TR6 := Lib.hid (show ZL w69 w.heap.size p l c ∧ Zz w69 (w.heap.size + 1) ∧ Zz w69 (w.heap.size + 1 + 1) ∧ w69.heap[ge1]? = some (.cells #[.int .i64 3, .int .i64 0, .float .f64 0, .string ka, .slice none 0 0, .int .i64 2, .int .i64 0, .float .f64 0, .string ⟨#[]⟩, .slice none 0 0] 27 (0, 0)) ∧ Below w.heap.size w w69 from ⟨TR5.out.1, TR5.out.2.1, TR5.out.2.2.1, hrow1, TR5.out.2.2.2⟩)
  clear TR5
  have TR7 := Lib.hid (show ZL w69 w.heap.size p l c ∧ Zz w69 (w.heap.size + 1) ∧ Zz w69 (w.heap.size + 1 + 1) ∧ w69.heap[ge1]? = some (.cells #[.int .i64 3, .int .i64 0, .float .f64 0, .string ka, .slice none 0 0, .int .i64 2, .int .i64 0, .float .f64 0, .string ⟨#[]⟩, .slice none 0 0] 27 (0, 0)) ∧ (Stay w66.heap.size w69 w69 ∧ w69.heap.size ≤ w69.heap.size) ∧ Below w.heap.size w w69 from ⟨TR6.out.1, TR6.out.2.1, TR6.out.2.2.1, TR6.out.2.2.2.1, ⟨stay_refl _ _, Nat.le_refl _⟩, TR6.out.2.2.2.2⟩)
  clear TR6
  have HY := Lib.hid hy6
  clear hy6 hrow1
  clear hbw69
  go_wp2_with fail
  refine hK.out _ _ ?hsv68_ (fun hH => ?_)
  case hsv68_ => exact ⟨rc TR7.out.1 0, rc TR7.out.1 1, rc TR7.out.1 2, rc TR7.out.1 3, rc TR7.out.1 4⟩
  clear hK K
  (try simp only [Act.put, pk0, pk1, pk2])
  refine zr1 6 (by kernel_rfl) (by simp only [lk0, lk1, lk2]; rfl) (fun K hK => ?_)
  obtain ⟨b30, b31, b32, b33, b34, b3f, b3l⟩ := r7 TR7.out.2.1; go_simp
  have TR8 := Lib.hid (show (fun z0 : World => ZL z0 w.heap.size p l c ∧ ZL z0 (w.heap.size + 1) p6 (a + 1 + (l - a)) c6 ∧ Zz z0 (w.heap.size + 1 + 1) ∧ z0.heap[ge1]? = some (.cells #[.int .i64 3, .int .i64 0, .float .f64 0, .string ka, .slice none 0 0, .int .i64 2, .int .i64 0, .float .f64 0, .string ⟨#[]⟩, .slice none 0 0] 27 (0, 0)) ∧ (Stay w66.heap.size w69 z0 ∧ w69.heap.size ≤ z0.heap.size) ∧ Below w.heap.size w z0) (((((w69.setCell ⟨w.heap.size + 1, 0, none⟩ (.int .i64 4)).setCell ⟨w.heap.size + 1, 1, none⟩ (.int .i64 0)).setCell ⟨w.heap.size + 1, 2, none⟩ (.float .f64 0)).setCell ⟨w.heap.size + 1, 3, none⟩ (.string ⟨#[]⟩)).setCell ⟨w.heap.size + 1, 4, none⟩ (.slice p6 (a + 1 + (l - a)) c6)) from ⟨s5o TR7.out.1 (by omega), s5r TR7.out.2.1, s5o TR7.out.2.2.1 (by omega), s5o TR7.out.2.2.2.1 (by omega), ⟨stay_set TR7.out.2.2.2.2.1.1 (by omega) (.int .i64 4) (.int .i64 0) (.float .f64 0) (.string ⟨#[]⟩) (.slice p6 (a + 1 + (l - a)) c6), by show _ ≤ (set5 w69 (w.heap.size + 1) 0 (.int .i64 4) (.int .i64 0) (.float .f64 0) (.string ⟨#[]⟩) (.slice p6 (a + 1 + (l - a)) c6)).heap.size; rw [set5_size]; exact TR7.out.2.2.2.2.1.2⟩, s5b TR7.out.2.2.2.2.2 (by omega)⟩)
  clear TR7
  clear b30 b31 b32 b33 b34 b3f b3l
  go_wp2_with fail
  refine hK.out _ _ ?hsv70_ (fun hH => ?_)
  case hsv70_ => exact ⟨rc TR8.out.1 0, rc TR8.out.1 1, rc TR8.out.1 2, rc TR8.out.1 3, rc TR8.out.1 4⟩
  clear hK K
  (try simp only [Act.put, pk0, pk1, pk2])
  refine zr1 7 (by kernel_rfl) (by simp only [lk0, lk1, lk2]; rfl) (fun K hK => ?_)
  obtain ⟨b30, b31, b32, b33, b34, b3f, b3l⟩ := r7 TR8.out.2.2.1; go_simp
  have TR9 := Lib.hid (show (fun z0 : World => ZL z0 w.heap.size p l c ∧ ZL z0 (w.heap.size + 1) p6 (a + 1 + (l - a)) c6 ∧ Zz z0 (w.heap.size + 1 + 1) ∧ z0.heap[ge1]? = some (.cells #[.int .i64 3, .int .i64 0, .float .f64 0, .string ka, .slice none 0 0, .int .i64 2, .int .i64 0, .float .f64 0, .string ⟨#[]⟩, .slice none 0 0] 27 (0, 0)) ∧ (Stay w66.heap.size w69 z0 ∧ w69.heap.size ≤ z0.heap.size) ∧ Below w.heap.size w z0) ((((((((((w69.setCell ⟨w.heap.size + 1, 0, none⟩ (.int .i64 4)).setCell ⟨w.heap.size + 1, 1, none⟩ (.int .i64 0)).setCell ⟨w.heap.size + 1, 2, none⟩ (.float .f64 0)).setCell ⟨w.heap.size + 1, 3, none⟩ (.string ⟨#[]⟩)).setCell ⟨w.heap.size + 1, 4, none⟩ (.slice p6 (a + 1 + (l - a)) c6)).setCell ⟨w.heap.size + 1 + 1, 0, none⟩ (.int .i64 0)).setCell ⟨w.heap.size + 1 + 1, 1, none⟩ (.int .i64 0)).setCell ⟨w.heap.size + 1 + 1, 2, none⟩ (.float .f64 0)).setCell ⟨w.heap.size + 1 + 1, 3, none⟩ (.string ⟨#[]⟩)).setCell ⟨w.heap.size + 1 + 1, 4, none⟩ (.slice none 0 0)) from ⟨s5o TR8.out.1 (by omega), s5o TR8.out.2.1 (by omega), s5r TR8.out.2.2.1, s5o TR8.out.2.2.2.1 (by omega), ⟨stay_set TR8.out.2.2.2.2.1.1 (by omega) (.int .i64 0) (.int .i64 0) (.float .f64 0) (.string ⟨#[]⟩) (.slice none 0 0), by show _ ≤ (set5 (((((w69.setCell ⟨w.heap.size + 1, 0, none⟩ (.int .i64 4)).setCell ⟨w.heap.size + 1, 1, none⟩ (.int .i64 0)).setCell ⟨w.heap.size + 1, 2, none⟩ (.float .f64 0)).setCell ⟨w.heap.size + 1, 3, none⟩ (.string ⟨#[]⟩)).setCell ⟨w.heap.size + 1, 4, none⟩ (.slice p6 (a + 1 + (l - a)) c6)) (w.heap.size + 1 + 1) 0 (.int .i64 0) (.int .i64 0) (.float .f64 0) (.string ⟨#[]⟩) (.slice none 0 0)).heap.size; rw [set5_size]; exact TR8.out.2.2.2.2.1.2⟩, s5b TR8.out.2.2.2.2.2 (by omega)⟩)
  clear TR8
  clear b30 b31 b32 b33 b34 b3f b3l
  go_wp2_with fail
  refine hK.out _ _ ?hsv71_ (fun hH => ?_)
  case hsv71_ => exact ⟨rc TR9.out.1 0, rc TR9.out.1 1, rc TR9.out.1 2, rc TR9.out.1 3, rc TR9.out.1 4⟩
  clear hK K
  (try simp only [Act.put, pk0, pk1, pk2])
  refine zt [8] ?_
  refine zt1 (fun _ _ d _ _ h => by cases d <;> exact h) (by simp only [lk0, lk1, lk2]; rfl) (by kernel_rfl) (by assumption) (by rfl) (fun w h => by (try dsimp only at h); go_simp; (try with_reducible rfl)) ?_; (try simp only [Act.put, pk0, pk1, pk2])
  refine zt0 ?_
  refine wpAnyH_done (by kernel_rfl) ?_ _
  revert TR9
  generalize ((((((((((w69.setCell ⟨w.heap.size + 1, 0, none⟩ (.int .i64 4)).setCell ⟨w.heap.size + 1, 1, none⟩ (.int .i64 0)).setCell ⟨w.heap.size + 1, 2, none⟩ (.float .f64 0)).setCell ⟨w.heap.size + 1, 3, none⟩ (.string ⟨#[]⟩)).setCell ⟨w.heap.size + 1, 4, none⟩ (.slice p6 (a + 1 + (l - a)) c6)).setCell ⟨w.heap.size + 1 + 1, 0, none⟩ (.int .i64 0)).setCell ⟨w.heap.size + 1 + 1, 1, none⟩ (.int .i64 0)).setCell ⟨w.heap.size + 1 + 1, 2, none⟩ (.float .f64 0)).setCell ⟨w.heap.size + 1 + 1, 3, none⟩ (.string ⟨#[]⟩)).setCell ⟨w.heap.size + 1 + 1, 4, none⟩ (.slice none 0 0)) = Wf
  intro TR9
  obtain ⟨c1_0, c1_1, c1_2, c1_3, c1_4, c1f, c1l⟩ := r7 TR9.out.2.1
  obtain ⟨c2_0, c2_1, c2_2, c2_3, c2_4, c2f, c2l⟩ := r7 TR9.out.2.2.1
  go_wp2
  refine bodyPost_ret (v := .tuple #[.agg #[.int .i64 4, .int .i64 0, .float .f64 0, .string ⟨#[]⟩, .slice p6 (a + 1 + (l - a)) c6], .agg #[.int .i64 0, .int .i64 0, .float .f64 0, .string ⟨#[]⟩, .slice none 0 0], .int .i64 0]) (by simp [results, Tryz.results38, go_sem, c1_0, c1_1, c1_2, c1_3, c1_4, c2_0, c2_1, c2_2, c2_3, c2_4]) rfl ⟨_, _, rfl, TR9.out.2.2.2.2.2, fun y _ hRy hst => ?_, fun y => repS_rep _ _ _ (nil_rep 0 (fun _ => True) y)⟩
  have hr1 := (hst ge1 (by omega) (row_lt TR9.out.2.2.2.1)).trans TR9.out.2.2.2.1
  have hY := HY.out y (fun b h1 h2 => (hst b (by omega) (Nat.lt_of_lt_of_le h2 TR9.out.2.2.2.2.1.2)).trans (TR9.out.2.2.2.2.1.1 b h1 h2))
  refine list_rep ?_
  rw [List.map_append, List.map_append, List.map_take, List.map_drop]
  exact repL_mono (ro_rep1 hRy hr1 (txt_repn 0 _ (nm_size hna)) (flo_repn 0 _ (by decide))) hY
end Num
end Go.Proofs.YtpbfaffheigjcaaGreat
/-
  The reference: the total of a ledger.
-/
namespace Go.Proofs.YtpbfaffheigjcaaGreat
open Go.RowKit
namespace Num
open Ints
set_option linter.unusedSimpArgs false
set_option linter.unusedVariables false
set_option maxRecDepth 100000 in
set_option maxHeartbeats 4000000 in
theorem rtot_ok (l c : Nat) (p p2 : Option Addr) (cl : Nat) (w : World) (R : Value → VT 2 → Prop) (ES : List (ByteArray × VT 1)) (hl : l ≤ 32) (HL : Hid (RepL w R p l c (ES.map (pairE 0)))) (hRW : ∀ v T, R v T → Rep w 2 v T) (hac : ∀ e ∈ ES, ∃ F, F < 9218868437227405312 ∧ e.2 = floT 0 F) :
    Calls Tryz.prog 38 #[.agg #[.int .i64 4, .int .i64 0, .float .f64 0, .string ⟨#[]⟩, .slice p l c], .string { data := #[116, 111, 116, 97, 108] }, .slice p2 0 cl] w fun e w' => ∃ F, RLQ w R p l c (ES.map (pairE 0)) (tableT 0 ES) (floT 0 F) 0 e w' := by
  have TR1 := Lib.hid (show (fun z0 : World => ZL z0 w.heap.size p l c ∧ Zz z0 (w.heap.size + 1) ∧ Zz z0 (w.heap.size + 1 + 1) ∧ Below w.heap.size w z0) (((w.alloc (.cells #[.int .i64 4, .int .i64 0, .float .f64 0, .string ⟨#[]⟩, .slice p l c] 27)).alloc (.cells #[.int .i64 0, .int .i64 0, .float .f64 0, .string ⟨#[]⟩, .slice none 0 0] 27)).alloc (.cells #[.int .i64 0, .int .i64 0, .float .f64 0, .string ⟨#[]⟩, .slice none 0 0] 27)) from ⟨row_alloc_step (row_alloc_step (row_alloc w #[.int .i64 4, .int .i64 0, .float .f64 0, .string ⟨#[]⟩, .slice p l c] 27) _) _, (row_alloc_step (ra (by simp only [World.size_alloc, World.size_drew])) _), (ra (by simp only [World.size_alloc, World.size_drew])), bel_alloc (bel_alloc (bel_alloc (Below.refl w.heap.size w) _) _) _⟩)
  have HLEN := Lib.hid (show ES.length = l by have := HL.out.1; rw [List.length_map] at this; exact this)
  have HAC := Lib.hid hac
  have HRW := Lib.hid hRW
  have hl0 : (0 : Int) ≤ (l : Int) := by omega
  clear hac hRW
  go_enter Tryz.func38, Tryz.ntmps38
  go_wp2
  go_loopw [11, 12] (fun fv iv wr => ∃ (i F : Nat), i ≤ l ∧ fv = .float .f64 F ∧ F ≤ 9218868437227405312 ∧ Flo.canon F = F ∧ iv = .int .i64 i ∧ wr.heap[w.heap.size]? = some (.cells #[.int .i64 4, .int .i64 0, .float .f64 0, .string ⟨#[]⟩, .slice p l c] 27 (0, 0)) ∧ wr.heap[w.heap.size + 1]? = some (.cells #[.int .i64 0, .int .i64 0, .float .f64 0, .string ⟨#[]⟩, .slice none 0 0] 27 (0, 0)) ∧ wr.heap[w.heap.size + 1 + 1]? = some (.cells #[.int .i64 0, .int .i64 0, .float .f64 0, .string ⟨#[]⟩, .slice none 0 0] 27 (0, 0)) ∧ Below w.heap.size w wr) (fun _ iv _ => l - (intOf iv).toNat)
  case atStart => exact ⟨0, 0, by omega, rfl, by omega, by decide, rfl, TR1.out.1, TR1.out.2.1, TR1.out.2.2.1, TR1.out.2.2.2⟩
  case round =>
    obtain ⟨i, F, hil, rfl, hF, hcF, rfl, hrel⟩ := hrel
    have TU0 := Lib.hid hrel
    clear hrel
    by_cases hlt : i < l
    · obtain ⟨b, off, rfl, _⟩ := HL.out.2.2.2 (by omega)
      have hei : i < ES.length := by have := HLEN.out; omega
      obtain ⟨G, hG, hV⟩ := HAC.out _ (List.getElem_mem hei)
      obtain ⟨gx, ox, cgx, hc⟩ := accC_of (k := ES[i].1) (F := G) HL.out HRW.out hei (by rw [← hV])
      have had := cop_add hF (Nat.le_of_lt hG)
      have hop : ∀ t W, (binOp .add t (.float .f64 F) (.float .f64 G)).run Tryz.prog W = .ok (.float .f64 (Flo.cop .add F G)) W := fun t W => run_float_arith W .add t .f64 _ _ _ had.2
      have HAD := Lib.hid had.1
      have HCG := Lib.hid (Flo.canon_cop .add F G)
      have HC := Lib.hid hc
      clear hc hV hG had hcF hF
      have Hc4 := Lib.hid HC.out.2.2.2.2.1
      have Hc6 := Lib.hid HC.out.2.2.2.2.2.2
      obtain ⟨c0_0, c0_1, c0_2, c0_3, c0_4, c0f, c0l⟩ := r7 TU0.out.1
      have ec4 := ck TU0.out.2.2.2 Hc4.out
      have ec6 := ck TU0.out.2.2.2 Hc6.out
      have ecl := cell_lt ec4
      have ecm := cell_lt ec6
      have hbc := cell_lt HC.out.1
      have hi1 : (0 : Int) ≤ (i : Int) := by omega
      have hi2 : (i : Int) < (l : Int) := by omega
      go_wp2
      go_roundw
      case rel => exact ⟨i + 1, Flo.cop .add F G, by omega, rfl, HAD.out, HCG.out, by go_num, TU0.out.1, TU0.out.2.1, TU0.out.2.2.1, TU0.out.2.2.2⟩
      case measure => simp [intOf]; omega
    · obtain rfl : i = l := by omega
      have HCF := Lib.hid hcF
      have HFF := Lib.hid hF
      clear hcF hF
      obtain ⟨c0_0, c0_1, c0_2, c0_3, c0_4, c0f, c0l⟩ := r7 TU0.out.1
      go_upto_region 15 with fail
      clear c0_0 c0_1 c0_2 c0_3 c0_4 c0f c0l
      have TU1 := Lib.hid (And.intro (row_step TU0.out.1 (show Below wr.heap.size wr wr.drew from Below.drew br)) (And.intro (row_step TU0.out.2.1 (show Below wr.heap.size wr wr.drew from Below.drew br)) (And.intro (row_step TU0.out.2.2.1 (show Below wr.heap.size wr wr.drew from Below.drew br)) (bel_step TU0.out.2.2.2 (show Below wr.heap.size wr wr.drew from Below.drew br)))))
      clear TU0
      refine wp_region_held_drew (S := (fun z => z.cell? ⟨w.heap.size, 0, none⟩ = some (.int .i64 4) ∧ z.cell? ⟨w.heap.size, 1, none⟩ = some (.int .i64 0) ∧ z.cell? ⟨w.heap.size, 2, none⟩ = some (.float .f64 0) ∧ z.cell? ⟨w.heap.size, 3, none⟩ = some (.string ⟨#[]⟩) ∧ z.cell? ⟨w.heap.size, 4, none⟩ = some (.slice p i c))) (by kernel_rfl) ?_ (fun hH => ?_)
      · exact ⟨rc TU1.out.1 0, rc TU1.out.1 1, rc TU1.out.1 2, rc TU1.out.1 3, rc TU1.out.1 4⟩
      refine zt [0, 1] ?_
      iterate 2 (refine zt1 (fun _ _ d _ _ h => by cases d <;> exact h) (by simp only [lk0, lk1, lk2]; rfl) (by kernel_rfl) (by assumption) (by rfl) (fun w h => by (try dsimp only at h); go_simp; (try with_reducible rfl)) ?_; (try simp only [Act.put, pk0, pk1, pk2]))
      refine zt0 ?_
      refine zr1 2 (by kernel_rfl) (by simp only [lk0, lk1, lk2]; rfl) (fun K hK => ?_)
      go_simp
      go_at_call 20; refine (float_is HCF.out _).mono ?_; rintro e w75 ⟨rfl, hbw75⟩
      have TU2 := Lib.hid (And.intro (row_step TU1.out.1 hbw75) (And.intro (row_step TU1.out.2.1 hbw75) (And.intro (row_step TU1.out.2.2.1 hbw75) (bel_step TU1.out.2.2.2 hbw75))))
      clear TU1
      clear hbw75
      go_wp2_with fail
      refine hK.out _ _ ?hsv74_ (fun hH => ?_)
      case hsv74_ => exact ⟨rc TU2.out.1 0, rc TU2.out.1 1, rc TU2.out.1 2, rc TU2.out.1 3, rc TU2.out.1 4⟩
      clear hK K
      (try simp only [Act.put, pk0, pk1, pk2])
      refine zr1 3 (by kernel_rfl) (by simp only [lk0, lk1, lk2]; rfl) (fun K hK => ?_)
      obtain ⟨b30, b31, b32, b33, b34, b3f, b3l⟩ := r7 TU2.out.2.1; go_simp
      have TU3 := Lib.hid (show (fun z0 : World => ZL z0 w.heap.size p i c ∧ ZL z0 (w.heap.size + 1) p i c ∧ Zz z0 (w.heap.size + 1 + 1) ∧ Below w.heap.size w z0) (((((w75.setCell ⟨w.heap.size + 1, 0, none⟩ (.int .i64 4)).setCell ⟨w.heap.size + 1, 1, none⟩ (.int .i64 0)).setCell ⟨w.heap.size + 1, 2, none⟩ (.float .f64 0)).setCell ⟨w.heap.size + 1, 3, none⟩ (.string ⟨#[]⟩)).setCell ⟨w.heap.size + 1, 4, none⟩ (.slice p i c)) from ⟨s5o TU2.out.1 (by omega), s5r TU2.out.2.1, s5o TU2.out.2.2.1 (by omega), s5b TU2.out.2.2.2 (by omega)⟩)
      clear TU2
      clear b30 b31 b32 b33 b34 b3f b3l
      go_wp2_with fail
      refine hK.out _ _ ?hsv76_ (fun hH => ?_)
      case hsv76_ => exact ⟨rc TU3.out.1 0, rc TU3.out.1 1, rc TU3.out.1 2, rc TU3.out.1 3, rc TU3.out.1 4⟩
      clear hK K
      (try simp only [Act.put, pk0, pk1, pk2])
      refine zr1 4 (by kernel_rfl) (by simp only [lk0, lk1, lk2]; rfl) (fun K hK => ?_)
      obtain ⟨b30, b31, b32, b33, b34, b3f, b3l⟩ := r7 TU3.out.2.2.1; go_simp
      have TU4 := Lib.hid (show (fun z0 : World => ZL z0 w.heap.size p i c ∧ ZL z0 (w.heap.size + 1) p i c ∧ ZF z0 (w.heap.size + 1 + 1) F ∧ Below w.heap.size w z0) ((((((((((w75.setCell ⟨w.heap.size + 1, 0, none⟩ (.int .i64 4)).setCell ⟨w.heap.size + 1, 1, none⟩ (.int .i64 0)).setCell ⟨w.heap.size + 1, 2, none⟩ (.float .f64 0)).setCell ⟨w.heap.size + 1, 3, none⟩ (.string ⟨#[]⟩)).setCell ⟨w.heap.size + 1, 4, none⟩ (.slice p i c)).setCell ⟨w.heap.size + 1 + 1, 0, none⟩ (.int .i64 2)).setCell ⟨w.heap.size + 1 + 1, 1, none⟩ (.int .i64 0)).setCell ⟨w.heap.size + 1 + 1, 2, none⟩ (.float .f64 F)).setCell ⟨w.heap.size + 1 + 1, 3, none⟩ (.string ⟨#[]⟩)).setCell ⟨w.heap.size + 1 + 1, 4, none⟩ (.slice none 0 0)) from ⟨s5o TU3.out.1 (by omega), s5o TU3.out.2.1 (by omega), s5r TU3.out.2.2.1, s5b TU3.out.2.2.2 (by omega)⟩)
      clear TU3
      clear b30 b31 b32 b33 b34 b3f b3l
      go_wp2_with fail
      refine hK.out _ _ ?hsv77_ (fun hH => ?_)
      case hsv77_ => exact ⟨rc TU4.out.1 0, rc TU4.out.1 1, rc TU4.out.1 2, rc TU4.out.1 3, rc TU4.out.1 4⟩
      clear hK K
      (try simp only [Act.put, pk0, pk1, pk2])
      refine zt [5] ?_
      refine zt1 (fun _ _ d _ _ h => by cases d <;> exact h) (by simp only [lk0, lk1, lk2]; rfl) (by kernel_rfl) (by assumption) (by rfl) (fun w h => by (try dsimp only at h); go_simp; (try with_reducible rfl)) ?_; (try simp only [Act.put, pk0, pk1, pk2])
      refine zt0 ?_
      refine wpAnyH_done (by kernel_rfl) ?_ _
      revert TU4
      generalize ((((((((((w75.setCell ⟨w.heap.size + 1, 0, none⟩ (.int .i64 4)).setCell ⟨w.heap.size + 1, 1, none⟩ (.int .i64 0)).setCell ⟨w.heap.size + 1, 2, none⟩ (.float .f64 0)).setCell ⟨w.heap.size + 1, 3, none⟩ (.string ⟨#[]⟩)).setCell ⟨w.heap.size + 1, 4, none⟩ (.slice p i c)).setCell ⟨w.heap.size + 1 + 1, 0, none⟩ (.int .i64 2)).setCell ⟨w.heap.size + 1 + 1, 1, none⟩ (.int .i64 0)).setCell ⟨w.heap.size + 1 + 1, 2, none⟩ (.float .f64 F)).setCell ⟨w.heap.size + 1 + 1, 3, none⟩ (.string ⟨#[]⟩)).setCell ⟨w.heap.size + 1 + 1, 4, none⟩ (.slice none 0 0)) = Wf
      intro TU4
      obtain ⟨c1_0, c1_1, c1_2, c1_3, c1_4, c1f, c1l⟩ := r7 TU4.out.2.1
      obtain ⟨c2_0, c2_1, c2_2, c2_3, c2_4, c2f, c2l⟩ := r7 TU4.out.2.2.1
      go_wp2
      refine bodyPost_ret (v := .tuple #[.agg #[.int .i64 4, .int .i64 0, .float .f64 0, .string ⟨#[]⟩, .slice p i c], .agg #[.int .i64 2, .int .i64 0, .float .f64 F, .string ⟨#[]⟩, .slice none 0 0], .int .i64 0]) (by simp [results, Tryz.results38, go_sem, c1_0, c1_1, c1_2, c1_3, c1_4, c2_0, c2_1, c2_2, c2_3, c2_4]) rfl ⟨F, _, _, rfl, TU4.out.2.2.2, fun y hLy hy _ => list_rep (repL_mono hy hLy), fun y => flo_repn 0 y (by have := HFF.out; omega)⟩
end Num
end Go.Proofs.YtpbfaffheigjcaaGreat
/-
  The reference: names of pairs, only that a list is told.
-/
namespace Go.Proofs.YtpbfaffheigjcaaGreat
open Go.RowKit
namespace Num
open Ints
set_option linter.unusedSimpArgs false
set_option linter.unusedVariables false
theorem ow_set1 {α : Type} {R : Value → α → Prop} {W0 w : World} {p : Option Addr} {l c : Nat} {L : List α} (h : OwV W0 w R p l c L) {b : Nat} (hb : W0.heap.size ≤ b) (hne : (Value.slice p l c).ownBlock ≠ some b) (o : Nat) (v : Value) : OwV W0 (w.setCell ⟨b, o, none⟩ v) R p l c L := by
  obtain ⟨XS, h1, h2, h3, h4, h5⟩ := h
  have hg : w.grownBy (w.setCell ⟨b, o, none⟩ v) (some b) := ⟨rfl, rfl, rfl, by rw [World.size_setCell]; exact Nat.le_refl _, fun i _ h => Below.heap_setCell _ _ _ _ (fun e => h (by rw [e]))⟩
  exact ⟨XS, h1.kept hg (Or.inr hne), h2, h3.setCell (p := ⟨b, o, none⟩) hb v, by rw [World.size_setCell]; exact h4, h5⟩
theorem row5_set {w : World} {g : Nat} {u0 u1 u2 u3 u4 : Value} {t : TypeId} (h : w.heap[g]? = some (.cells #[u0, u1, u2, u3, u4] t (0, 0))) (v : Value) : (w.setCell ⟨g, 4, none⟩ v).heap[g]? = some (.cells #[u0, u1, u2, u3, v] t (0, 0)) := by
  rw [setCell_eq_setRow w g 4 _ t (0, 0) v h]
  exact setRow_heap w g _ _ t _ h
set_option maxRecDepth 100000 in
set_option maxHeartbeats 4000000 in
theorem rnames_any (p : Option Addr) (l c : Nat) (w : World) (R : Value → VT 2 → Prop) (ES : List (ByteArray × VT 1)) (hl : l ≤ 1000) (HL : Hid (RepL w R p l c (ES.map (pairE 0)))) (hRW : ∀ v T, R v T → Rep w 2 v T) :
    Calls Tryz.prog 67 #[.agg #[.int .i64 4, .int .i64 0, .float .f64 0, .string ⟨#[]⟩, .slice p l c]] w fun e w' => ∃ q d, e = .returned (.agg #[.int .i64 4, .int .i64 0, .float .f64 0, .string ⟨#[]⟩, .slice q l d]) ∧ Below w.heap.size w w' := by
  have TR1 := Lib.hid (show (fun z0 : World => ZL z0 w.heap.size p l c ∧ Zz z0 (w.heap.size + 1) ∧ ZL z0 (w.heap.size + 1 + 1) none 0 0 ∧ Below w.heap.size w z0) (((w.alloc (.cells #[.int .i64 4, .int .i64 0, .float .f64 0, .string ⟨#[]⟩, .slice p l c] 27)).alloc (.cells #[.int .i64 0, .int .i64 0, .float .f64 0, .string ⟨#[]⟩, .slice none 0 0] 27)).alloc (.cells #[.int .i64 4, .int .i64 0, .float .f64 0, .string ⟨#[]⟩, .slice none 0 0] 27)) from ⟨row_alloc_step (row_alloc_step (row_alloc w #[.int .i64 4, .int .i64 0, .float .f64 0, .string ⟨#[]⟩, .slice p l c] 27) _) _, (row_alloc_step (ra (by simp only [World.size_alloc, World.size_drew])) _), (ra (by simp only [World.size_alloc, World.size_drew])), bel_alloc (bel_alloc (bel_alloc (Below.refl w.heap.size w) _) _) _⟩)
  have HRW := Lib.hid hRW
  have HLEN := Lib.hid (show ES.length = l by have := HL.out.1; rw [List.length_map] at this; exact this)
  have hl0 : (0 : Int) ≤ (l : Int) := by omega
  have hcc : c ≤ 9223372036854775807 := by have := HL.out.2.2.1; unfold maxLen at this; omega
  clear hRW
  go_enter Tryz.func67, Tryz.ntmps67
  go_wp2
  go_loopw [4] (fun iv wr => ∃ (i : Nat) (q : Option Addr) (d : Nat), i ≤ l ∧ iv = .int .i64 i ∧ OwV w wr (Rep w 1) q i d ((ES.map fun e => nameV 0 e.1).take i) ∧ (∀ k, (Value.slice q i d).ownBlock = some k → w.heap.size + 1 + 1 + 1 ≤ k) ∧ wr.heap[w.heap.size]? = some (.cells #[.int .i64 4, .int .i64 0, .float .f64 0, .string ⟨#[]⟩, .slice p l c] 27 (0, 0)) ∧ wr.heap[w.heap.size + 1]? = some (.cells #[.int .i64 0, .int .i64 0, .float .f64 0, .string ⟨#[]⟩, .slice none 0 0] 27 (0, 0)) ∧ wr.heap[w.heap.size + 1 + 1]? = some (.cells #[.int .i64 4, .int .i64 0, .float .f64 0, .string ⟨#[]⟩, .slice q i d] 27 (0, 0)) ∧ Below w.heap.size w wr) (fun iv _ => l - (intOf iv).toNat)
  case atStart => exact ⟨0, none, 0, by omega, rfl, ow_none w _ (Rep w 1) TR1.out.2.2.2 (by have h := TR1.out.2.2.2.size; exact h), (fun k hk => by cases hk), TR1.out.1, TR1.out.2.1, TR1.out.2.2.1, TR1.out.2.2.2⟩
  case round =>
    obtain ⟨i, q, d, hil, rfl, ho, hob, hrel⟩ := hrel
    have TU0 := Lib.hid hrel
    have HOW := Lib.hid ho
    have HOB := Lib.hid hob
    clear hrel ho hob
    by_cases hlt : i < l
    · obtain ⟨b, off, hpb, hit⟩ := HL.out.2.2.2 (by omega)
      have hei : i < ES.length := by have := HLEN.out; omega
      obtain ⟨v0, v1, v2, v3, v4, c0, c1, c2, c3, c4, hre⟩ := hit i (by rw [List.length_map]; exact hei)
      rw [List.getElem_map] at hre
      have hre' : Rep w 2 (.agg #[v0, v1, v2, v3, v4]) (pairT 0 ES[i].1 ES[i].2) := HRW.out _ _ hre
      obtain ⟨NM, hnm⟩ : ∃ z, ES[i].1 = z := ⟨_, rfl⟩
      have HTK := Lib.hid (show (ES.map fun e => nameV 0 e.1).take (i + 1) = (ES.map fun e => nameV 0 e.1).take i ++ [nameV 0 NM] by rw [← hnm, List.take_add_one, List.getElem?_map, List.getElem?_eq_getElem hei]; rfl)
      rw [hnm] at hre'
      obtain ⟨g, o, dd, hv, ⟨n0, n1, n2, n3, qn, dn, n4, hdn⟩, hsz, _⟩ := pair_mem hre'
      injection hv with hv
      simp only [Array.mk.injEq, List.cons.injEq, and_true] at hv
      obtain ⟨rfl, rfl, rfl, rfl, rfl⟩ := hv
      have hbl : b < w.heap.size := cell_lt c0
      have hgl : g < w.heap.size := cell_lt n0
      have HEE := Lib.hid (show ∀ W, Below w.heap.size w W → W.cell? ⟨b, off + i * 5 + 4, none⟩ = some (.slice (some ⟨g, o, none⟩) 2 dd) from fun W hb => ck hb c4)
      have HMM := Lib.hid (show ∀ W, Below w.heap.size w W → W.cell? ⟨g, o, none⟩ = some (.int .i64 3) ∧ W.cell? ⟨g, o + 1, none⟩ = some (.int .i64 0) ∧ W.cell? ⟨g, o + 2, none⟩ = some (.float .f64 0) ∧ W.cell? ⟨g, o + 3, none⟩ = some (.string NM) ∧ W.cell? ⟨g, o + 4, none⟩ = some (.slice qn 0 dn) from fun W hb => ⟨ck hb n0, ck hb n1, ck hb n2, ck hb n3, ck hb n4⟩)
      have HNR := Lib.hid (show ∀ (x : World) (g2 : Nat), Zw x g2 (.int .i64 3) (.int .i64 0) (.float .f64 0) (.string NM) (.slice qn 0 dn) → RepL x (Rep w 1) (some ⟨g2, 0, none⟩) 1 1 [nameV 0 NM] from fun x g2 hx => row1_rep (R := Rep w 1) (A := nameV 0 NM) hx ⟨qn, 0, dn, rfl, (by decide : okI 3), (by decide : okI 0), (by decide : (0 : Nat) < 2 ^ 64), hsz, rfl, Nat.zero_le _, hdn, fun h => absurd h (Nat.lt_irrefl _)⟩)
      have hi0 : (0 : Int) ≤ (i : Int) := by omega
      have hil2 : (i : Int) < (l : Int) := by omega
      have hlt3 : w.heap.size + 1 + 1 < wr.heap.size := row_lt TU0.out.2.2.1
      have hwr : w.heap.size ≤ wr.heap.size := by omega
      clear hre hre' hit c0 c1 c2 c3 c4 n0 n1 n2 n3 n4 hsz hnm
      subst hpb
      obtain ⟨c0_0, c0_1, c0_2, c0_3, c0_4, c0f, c0l⟩ := r7 TU0.out.1
      obtain ⟨c2_0, c2_1, c2_2, c2_3, c2_4, c2f, c2l⟩ := r7 TU0.out.2.2.1
      go_upto_region 5 with fail
      clear c0_0 c0_1 c0_2 c0_3 c0_4 c2_0 c2_1 c2_2 c2_3 c2_4 c0f c0l c2f c2l
      have TU1 := Lib.hid (show ZL wr w.heap.size (some ⟨b, off, none⟩) l c ∧ Zz wr (w.heap.size + 1) ∧ ZL wr (w.heap.size + 1 + 1) q i d ∧ (Below wr.heap.size wr wr) ∧ Below w.heap.size w wr from ⟨TU0.out.1, TU0.out.2.1, TU0.out.2.2.1, Below.refl _ _, TU0.out.2.2.2⟩)
      clear TU0
      have TU2 := Lib.hid (And.intro (row_step TU1.out.1 (show Below wr.heap.size wr wr.drew from Below.drew br)) (And.intro (row_step TU1.out.2.1 (show Below wr.heap.size wr wr.drew from Below.drew br)) (And.intro (row_step TU1.out.2.2.1 (show Below wr.heap.size wr wr.drew from Below.drew br)) (And.intro (bel_step TU1.out.2.2.2.1 (show Below wr.heap.size wr wr.drew from Below.drew br)) (bel_step TU1.out.2.2.2.2 (show Below wr.heap.size wr wr.drew from Below.drew br))))))
      clear TU1
      refine wp_region_held_drew (S := (fun z => z.cell? ⟨w.heap.size, 4, none⟩ = some (.slice (some ⟨b, off, none⟩) l c) ∧ z.cell? ⟨b, off + i * 5 + 4, none⟩ = some (.slice (some ⟨g, o, none⟩) 2 dd) ∧ z.cell? ⟨g, o, none⟩ = some (.int .i64 3) ∧ z.cell? ⟨g, o + 1, none⟩ = some (.int .i64 0) ∧ z.cell? ⟨g, o + 2, none⟩ = some (.float .f64 0) ∧ z.cell? ⟨g, o + 3, none⟩ = some (.string NM) ∧ z.cell? ⟨g, o + 4, none⟩ = some (.slice qn 0 dn))) (by kernel_rfl) ?_ (fun hH => ?_)
      · exact ⟨rc TU2.out.1 4, HEE.out _ TU2.out.2.2.2.2, (HMM.out _ TU2.out.2.2.2.2).1, (HMM.out _ TU2.out.2.2.2.2).2.1, (HMM.out _ TU2.out.2.2.2.2).2.2.1, (HMM.out _ TU2.out.2.2.2.2).2.2.2.1, (HMM.out _ TU2.out.2.2.2.2).2.2.2.2⟩
      revert TU2 hH
      generalize wr.drew = Wd
      intro TU2 hH
      refine zt [0, 2, 3, 4, 5, 6, 7, 8, 9] ?_
      iterate 9 (refine zt1 (fun _ _ d _ _ h => by cases d <;> exact h) (by simp only [lk0, lk1, lk2]; rfl) (by kernel_rfl) (by assumption) (by rfl) (fun w h => by (try dsimp only at h); go_simp; (try with_reducible rfl)) ?_; (try simp only [Act.put, pk0, pk1, pk2]))
      refine zt0 ?_
      refine wpAnyH_ready (rs := [1, 10]) (by kernel_rfl) (by simp) ?_
      refine AllReadyH.cons (o := ?_) ?hov10_ ?hstv10_ ?mov10_
      case hov10_ => (simp only [lk0, lk1, lk2]; rfl)
      case hstv10_ =>
        intro K hK
        have b30 := rc TU2.out.2.2.1 0; have b31 := rc TU2.out.2.2.1 1; have b32 := rc TU2.out.2.2.1 2; have b33 := rc TU2.out.2.2.1 3; have b34 := rc TU2.out.2.2.1 4; have b3l := row_lt TU2.out.2.2.1; go_simp
        clear b30 b31 b32 b33 b34 b3l
        go_wp2_with fail
        refine hK.out _ _ ?hsv10_ (fun hH => ?_)
        case hsv10_ => exact ⟨rc TU2.out.1 4, HEE.out _ TU2.out.2.2.2.2, (HMM.out _ TU2.out.2.2.2.2).1, (HMM.out _ TU2.out.2.2.2.2).2.1, (HMM.out _ TU2.out.2.2.2.2).2.2.1, (HMM.out _ TU2.out.2.2.2.2).2.2.2.1, (HMM.out _ TU2.out.2.2.2.2).2.2.2.2⟩
        clear hK K
        (try simp only [Act.put, pk0, pk1, pk2])
        refine zr1 10 (by kernel_rfl) (by simp only [lk0, lk1, lk2]; rfl) (fun K hK => ?_)
        go_simp
        have hlt12 : w.heap.size < Wd.heap.size := (by have h := row_lt TU2.out.1; (try simp only [World.size_alloc, World.size_drew] at h); exact h)
        have hlt13 : w.heap.size + 1 < Wd.heap.size := (by have h := row_lt TU2.out.2.1; (try simp only [World.size_alloc, World.size_drew] at h); exact h)
        have hlt14 : w.heap.size + 1 + 1 < Wd.heap.size := (by have h := row_lt TU2.out.2.2.1; (try simp only [World.size_alloc, World.size_drew] at h); exact h)
        have hlt15 : w.heap.size ≤ Wd.heap.size := (by have h := TU2.out.2.2.2.2.size; (try simp only [World.size_alloc, World.size_drew] at h); exact h)
        have TU3 := Lib.hid (show (fun z0 : World => ZL z0 w.heap.size (some ⟨b, off, none⟩) l c ∧ Zz z0 (w.heap.size + 1) ∧ ZL z0 (w.heap.size + 1 + 1) q i d ∧ Zw z0 Wd.heap.size (.int .i64 3) (.int .i64 0) (.float .f64 0) (.string NM) (.slice qn 0 dn) ∧ (Below wr.heap.size wr z0) ∧ Below w.heap.size w z0) (Wd.alloc (.cells #[.int .i64 3, .int .i64 0, .float .f64 0, .string NM, .slice qn 0 dn] 27)) from ⟨(row_alloc_step (TU2.out.1) _), (row_alloc_step (TU2.out.2.1) _), (row_alloc_step (TU2.out.2.2.1) _), (ra (by simp only [World.size_alloc, World.size_drew, World.size_setCell])), bel_step TU2.out.2.2.2.1 (bel_alloc br _), bel_step TU2.out.2.2.2.2 (bel_alloc br _)⟩)
        go_wp2_with fail
        refine hK.out _ _ ?hsv11_ (fun hH => ?_)
        case hsv11_ => exact ⟨rc TU3.out.1 4, HEE.out _ TU3.out.2.2.2.2.2, (HMM.out _ TU3.out.2.2.2.2.2).1, (HMM.out _ TU3.out.2.2.2.2.2).2.1, (HMM.out _ TU3.out.2.2.2.2.2).2.2.1, (HMM.out _ TU3.out.2.2.2.2.2).2.2.2.1, (HMM.out _ TU3.out.2.2.2.2.2).2.2.2.2⟩
        clear hK K
        (try simp only [Act.put, pk0, pk1, pk2])
        refine zr1 11 (by kernel_rfl) (by simp only [lk0, lk1, lk2]; rfl) (fun K hK => ?_)
        skip
        refine step_ovg rfl (.tmp 14) (.tmp 23) rfl (rep_one w 1) w _ q i d _ (some ⟨Wd.heap.size, 0, none⟩) 1 1 [nameV 0 NM] rfl rfl (ow_step HOW.out TU3.out.2.2.2.2.1) (HNR.out _ _ TU3.out.2.2.2.1) (by omega) ?_; intro p2 c2 w2 ho2 hg2 hob2; rw [← HTK.out] at ho2
        have HOB2 := Lib.hid (show ∀ k, (Value.slice p2 (i + 1) c2).ownBlock = some k → w.heap.size + 1 + 1 + 1 ≤ k from fun k hk => by
          rcases hob2 with h | h
          · exact HOB.out k (h.symm.trans hk)
          · rw [h] at hk; injection hk with hk; have hz := row_lt TU3.out.2.2.1; have hz2 := row_lt TU3.out.2.2.2.1; (try simp only [World.size_alloc, World.size_drew] at hk hz hz2); omega)
        have HO3 := Lib.hid ho2
        have TU4 := Lib.hid (show ZL w2 w.heap.size (some ⟨b, off, none⟩) l c ∧ Zz w2 (w.heap.size + 1) ∧ ZL w2 (w.heap.size + 1 + 1) q i d ∧ Below w.heap.size w w2 from ⟨row_grown TU3.out.1 hg2 (fun e => by have := HOB.out _ e.symm; omega), row_grown TU3.out.2.1 hg2 (fun e => by have := HOB.out _ e.symm; omega), row_grown TU3.out.2.2.1 hg2 (fun e => by have := HOB.out _ e.symm; omega), Below.grown TU3.out.2.2.2.2.2 hg2 (TU3.out.2.2.2.2.2.size) (fun k hk => by have := HOB.out _ hk; omega)⟩)
        clear ho2 hg2 hob2
        go_wp2_with fail
        refine hK.out _ _ ?hsv16_ (fun hH => ?_)
        case hsv16_ => exact ⟨rc TU4.out.1 4, HEE.out _ TU4.out.2.2.2, (HMM.out _ TU4.out.2.2.2).1, (HMM.out _ TU4.out.2.2.2).2.1, (HMM.out _ TU4.out.2.2.2).2.2.1, (HMM.out _ TU4.out.2.2.2).2.2.2.1, (HMM.out _ TU4.out.2.2.2).2.2.2.2⟩
        clear hK K
        (try simp only [Act.put, pk0, pk1, pk2])
        refine zt [12] ?_
        refine zt1 (fun _ _ d _ _ h => by cases d <;> exact h) (by simp only [lk0, lk1, lk2]; rfl) (by kernel_rfl) (by assumption) (by rfl) (fun w h => by (try dsimp only at h); go_simp; (try with_reducible rfl)) ?_; (try simp only [Act.put, pk0, pk1, pk2])
        refine zt0 ?_
        refine zr1 13 (by kernel_rfl) (by simp only [lk0, lk1, lk2]; rfl) (fun K hK => ?_)
        obtain ⟨b30, b31, b32, b33, b34, b3f, b3l⟩ := r7 TU4.out.2.2.1; go_simp
        have TU5 := Lib.hid (show (fun z0 : World => ZL z0 w.heap.size (some ⟨b, off, none⟩) l c ∧ Zz z0 (w.heap.size + 1) ∧ ZL z0 (w.heap.size + 1 + 1) p2 (i + 1) c2 ∧ Below w.heap.size w z0) (w2.setCell ⟨w.heap.size + 1 + 1, 4, none⟩ (.slice p2 (i + 1) c2)) from ⟨(Below.heap_setCell _ _ _ _ (show w.heap.size ≠ w.heap.size + 1 + 1 by omega)).trans TU4.out.1, (Below.heap_setCell _ _ _ _ (show w.heap.size + 1 ≠ w.heap.size + 1 + 1 by omega)).trans TU4.out.2.1, row5_set TU4.out.2.2.1 _, TU4.out.2.2.2.setCell (p := ⟨w.heap.size + 1 + 1, 4, none⟩) (show w.heap.size ≤ w.heap.size + 1 + 1 by omega) _⟩)
        have HO4 := Lib.hid (ow_set1 HO3.out (b := w.heap.size + 1 + 1) (by omega) (fun e => by have := HOB2.out _ e; omega) 4 (.slice p2 (i + 1) c2))
        clear b30 b31 b32 b33 b34 b3f b3l
        go_wp2_with fail
        refine hK.out _ _ ?hsv18_ (fun hH => ?_)
        case hsv18_ => exact ⟨rc TU5.out.1 4, HEE.out _ TU5.out.2.2.2, (HMM.out _ TU5.out.2.2.2).1, (HMM.out _ TU5.out.2.2.2).2.1, (HMM.out _ TU5.out.2.2.2).2.2.1, (HMM.out _ TU5.out.2.2.2).2.2.2.1, (HMM.out _ TU5.out.2.2.2).2.2.2.2⟩
        clear hK K
        (try simp only [Act.put, pk0, pk1, pk2])
        refine wpAnyH_done (by kernel_rfl) ?_ _
        go_wp2
        go_roundw
        case rel => exact ⟨i + 1, p2, c2, by omega, by go_num, HO4.out, HOB2.out, TU5.out.1, TU5.out.2.1, TU5.out.2.2.1, TU5.out.2.2.2⟩
        case measure => simp [intOf]; omega
      case mov10_ =>
        refine AllReadyH.cons (o := ?_) ?hov19_ ?hstv19_ AllReadyH.nil
        case hov19_ => (simp only [lk0, lk1, lk2]; rfl)
        intro K hK
        go_simp
        have hlt20 : w.heap.size < Wd.heap.size := (by have h := row_lt TU2.out.1; (try simp only [World.size_alloc, World.size_drew] at h); exact h)
        have hlt21 : w.heap.size + 1 < Wd.heap.size := (by have h := row_lt TU2.out.2.1; (try simp only [World.size_alloc, World.size_drew] at h); exact h)
        have hlt22 : w.heap.size + 1 + 1 < Wd.heap.size := (by have h := row_lt TU2.out.2.2.1; (try simp only [World.size_alloc, World.size_drew] at h); exact h)
        have hlt23 : w.heap.size ≤ Wd.heap.size := (by have h := TU2.out.2.2.2.2.size; (try simp only [World.size_alloc, World.size_drew] at h); exact h)
        have TU3 := Lib.hid (show (fun z0 : World => ZL z0 w.heap.size (some ⟨b, off, none⟩) l c ∧ Zz z0 (w.heap.size + 1) ∧ ZL z0 (w.heap.size + 1 + 1) q i d ∧ Zw z0 Wd.heap.size (.int .i64 3) (.int .i64 0) (.float .f64 0) (.string NM) (.slice qn 0 dn) ∧ (Below wr.heap.size wr z0) ∧ Below w.heap.size w z0) (Wd.alloc (.cells #[.int .i64 3, .int .i64 0, .float .f64 0, .string NM, .slice qn 0 dn] 27)) from ⟨(row_alloc_step (TU2.out.1) _), (row_alloc_step (TU2.out.2.1) _), (row_alloc_step (TU2.out.2.2.1) _), (ra (by simp only [World.size_alloc, World.size_drew, World.size_setCell])), bel_step TU2.out.2.2.2.1 (bel_alloc br _), bel_step TU2.out.2.2.2.2 (bel_alloc br _)⟩)
        go_wp2_with fail
        refine hK.out _ _ ?hsv19_ (fun hH => ?_)
        case hsv19_ => exact ⟨rc TU3.out.1 4, HEE.out _ TU3.out.2.2.2.2.2, (HMM.out _ TU3.out.2.2.2.2.2).1, (HMM.out _ TU3.out.2.2.2.2.2).2.1, (HMM.out _ TU3.out.2.2.2.2.2).2.2.1, (HMM.out _ TU3.out.2.2.2.2.2).2.2.2.1, (HMM.out _ TU3.out.2.2.2.2.2).2.2.2.2⟩
        clear hK K
        (try simp only [Act.put, pk0, pk1, pk2])
        refine zr1 1 (by kernel_rfl) (by simp only [lk0, lk1, lk2]; rfl) (fun K hK => ?_)
        have b30 := rc TU2.out.2.2.1 0; have b31 := rc TU2.out.2.2.1 1; have b32 := rc TU2.out.2.2.1 2; have b33 := rc TU2.out.2.2.1 3; have b34 := rc TU2.out.2.2.1 4; have b3l : w.heap.size + 1 + 1 < Wd.heap.size := row_lt TU2.out.2.2.1; have b3n0 : Wd.heap.size ≠ w.heap.size + 1 + 1 := (by omega); go_simp
        clear b30 b31 b32 b33 b34 b3l b3n0
        go_wp2_with fail
        refine hK.out _ _ ?hsv24_ (fun hH => ?_)
        case hsv24_ => exact ⟨rc TU3.out.1 4, HEE.out _ TU3.out.2.2.2.2.2, (HMM.out _ TU3.out.2.2.2.2.2).1, (HMM.out _ TU3.out.2.2.2.2.2).2.1, (HMM.out _ TU3.out.2.2.2.2.2).2.2.1, (HMM.out _ TU3.out.2.2.2.2.2).2.2.2.1, (HMM.out _ TU3.out.2.2.2.2.2).2.2.2.2⟩
        clear hK K
        (try simp only [Act.put, pk0, pk1, pk2])
        refine zr1 11 (by kernel_rfl) (by simp only [lk0, lk1, lk2]; rfl) (fun K hK => ?_)
        skip
        refine step_ovg rfl (.tmp 14) (.tmp 23) rfl (rep_one w 1) w _ q i d _ (some ⟨Wd.heap.size, 0, none⟩) 1 1 [nameV 0 NM] rfl rfl (ow_step HOW.out TU3.out.2.2.2.2.1) (HNR.out _ _ TU3.out.2.2.2.1) (by omega) ?_; intro p2 c2 w2 ho2 hg2 hob2; rw [← HTK.out] at ho2
        have HOB2 := Lib.hid (show ∀ k, (Value.slice p2 (i + 1) c2).ownBlock = some k → w.heap.size + 1 + 1 + 1 ≤ k from fun k hk => by
          rcases hob2 with h | h
          · exact HOB.out k (h.symm.trans hk)
          · rw [h] at hk; injection hk with hk; have hz := row_lt TU3.out.2.2.1; have hz2 := row_lt TU3.out.2.2.2.1; (try simp only [World.size_alloc, World.size_drew] at hk hz hz2); omega)
        have HO3 := Lib.hid ho2
        have TU4 := Lib.hid (show ZL w2 w.heap.size (some ⟨b, off, none⟩) l c ∧ Zz w2 (w.heap.size + 1) ∧ ZL w2 (w.heap.size + 1 + 1) q i d ∧ Below w.heap.size w w2 from ⟨row_grown TU3.out.1 hg2 (fun e => by have := HOB.out _ e.symm; omega), row_grown TU3.out.2.1 hg2 (fun e => by have := HOB.out _ e.symm; omega), row_grown TU3.out.2.2.1 hg2 (fun e => by have := HOB.out _ e.symm; omega), Below.grown TU3.out.2.2.2.2.2 hg2 (TU3.out.2.2.2.2.2.size) (fun k hk => by have := HOB.out _ hk; omega)⟩)
        clear ho2 hg2 hob2
        go_wp2_with fail
        refine hK.out _ _ ?hsv25_ (fun hH => ?_)
        case hsv25_ => exact ⟨rc TU4.out.1 4, HEE.out _ TU4.out.2.2.2, (HMM.out _ TU4.out.2.2.2).1, (HMM.out _ TU4.out.2.2.2).2.1, (HMM.out _ TU4.out.2.2.2).2.2.1, (HMM.out _ TU4.out.2.2.2).2.2.2.1, (HMM.out _ TU4.out.2.2.2).2.2.2.2⟩
        clear hK K
        (try simp only [Act.put, pk0, pk1, pk2])
        refine zt [12] ?_
        refine zt1 (fun _ _ d _ _ h => by cases d <;> exact h) (by simp only [lk0, lk1, lk2]; rfl) (by kernel_rfl) (by assumption) (by rfl) (fun w h => by (try dsimp only at h); go_simp; (try with_reducible rfl)) ?_; (try simp only [Act.put, pk0, pk1, pk2])
        refine zt0 ?_
        refine zr1 13 (by kernel_rfl) (by simp only [lk0, lk1, lk2]; rfl) (fun K hK => ?_)
        obtain ⟨b30, b31, b32, b33, b34, b3f, b3l⟩ := r7 TU4.out.2.2.1; go_simp
        have TU5 := Lib.hid (show (fun z0 : World => ZL z0 w.heap.size (some ⟨b, off, none⟩) l c ∧ Zz z0 (w.heap.size + 1) ∧ ZL z0 (w.heap.size + 1 + 1) p2 (i + 1) c2 ∧ Below w.heap.size w z0) (w2.setCell ⟨w.heap.size + 1 + 1, 4, none⟩ (.slice p2 (i + 1) c2)) from ⟨(Below.heap_setCell _ _ _ _ (show w.heap.size ≠ w.heap.size + 1 + 1 by omega)).trans TU4.out.1, (Below.heap_setCell _ _ _ _ (show w.heap.size + 1 ≠ w.heap.size + 1 + 1 by omega)).trans TU4.out.2.1, row5_set TU4.out.2.2.1 _, TU4.out.2.2.2.setCell (p := ⟨w.heap.size + 1 + 1, 4, none⟩) (show w.heap.size ≤ w.heap.size + 1 + 1 by omega) _⟩)
        have HO4 := Lib.hid (ow_set1 HO3.out (b := w.heap.size + 1 + 1) (by omega) (fun e => by have := HOB2.out _ e; omega) 4 (.slice p2 (i + 1) c2))
        clear b30 b31 b32 b33 b34 b3f b3l
        go_wp2_with fail
        refine hK.out _ _ ?hsv27_ (fun hH => ?_)
        case hsv27_ => exact ⟨rc TU5.out.1 4, HEE.out _ TU5.out.2.2.2, (HMM.out _ TU5.out.2.2.2).1, (HMM.out _ TU5.out.2.2.2).2.1, (HMM.out _ TU5.out.2.2.2).2.2.1, (HMM.out _ TU5.out.2.2.2).2.2.2.1, (HMM.out _ TU5.out.2.2.2).2.2.2.2⟩
        clear hK K
        (try simp only [Act.put, pk0, pk1, pk2])
        refine wpAnyH_done (by kernel_rfl) ?_ _
        go_wp2
        go_roundw
        case rel => exact ⟨i + 1, p2, c2, by omega, by go_num, HO4.out, HOB2.out, TU5.out.1, TU5.out.2.1, TU5.out.2.2.1, TU5.out.2.2.2⟩
        case measure => simp [intOf]; omega
    · obtain rfl : i = l := by omega
      obtain ⟨c0_0, c0_1, c0_2, c0_3, c0_4, c0f, c0l⟩ := r7 TU0.out.1
      obtain ⟨c1_0, c1_1, c1_2, c1_3, c1_4, c1f, c1l⟩ := r7 TU0.out.2.1
      obtain ⟨c2_0, c2_1, c2_2, c2_3, c2_4, c2f, c2l⟩ := r7 TU0.out.2.2.1
      go_wp2
      refine bodyPost_ret (v := .agg #[.int .i64 4, .int .i64 0, .float .f64 0, .string ⟨#[]⟩, .slice q i d]) (by simp [results, Tryz.results67, go_sem, World.cell?_setCell_same, World.cell?_setCell_other, c1_0, c1_1, c1_2, c1_3, c1_4]) rfl ⟨q, d, rfl, ?_⟩
      exact set5_below (g := w.heap.size + 1) (o := 0) TU0.out.2.2.2 (by omega) _ _ _ _ _
end Num
end Go.Proofs.YtpbfaffheigjcaaGreat
/-
  Lists of arguments; the example of chapter 12.
-/
namespace Go.Proofs.YtpbfaffheigjcaaGreat
open Go.RowKit
namespace Num
open Ints
set_option linter.unusedSimpArgs false
set_option linter.unusedVariables false
def LA (g : Nat) (NL : List (VT 1)) (x : World) : Prop := RepL x (Rep x 1) (some ⟨g, 0, none⟩) NL.length NL.length NL
theorem la_step {g : Nat} {NL : List (VT 1)} {x y : World} (h : LA g NL x) (hb : Below x.heap.size x y) : LA g NL y := repL_keep hb (rep_keep hb _) h
theorem leaf1 (x : World) {K I : Int} {F : Nat} {Z : ByteArray} (hK : okI K) (hI : okI I) (hF : F < 2 ^ 64) (hZ : Z.size ≤ maxLen) : Rep x 1 (.agg #[.int .i64 K, .int .i64 I, .float .f64 F, .string Z, .slice none 0 0]) (K, I, F, Z, []) :=
  ⟨none, 0, 0, rfl, hK, hI, hF, hZ, rfl, Nat.le_refl _, by unfold maxLen; omega, fun h => absurd h (Nat.lt_irrefl _)⟩
theorem row3_rep {x : World} {g : Nat} {u0 u1 u2 u3 u4 v0 v1 v2 v3 v4 z0 z1 z2 z3 z4 : Value} {A B C : VT 1} (h : x.heap[g]? = some (.cells #[u0, u1, u2, u3, u4, v0, v1, v2, v3, v4, z0, z1, z2, z3, z4] 27 (0, 0))) (ha : Rep x 1 (.agg #[u0, u1, u2, u3, u4]) A) (hb : Rep x 1 (.agg #[v0, v1, v2, v3, v4]) B) (hc : Rep x 1 (.agg #[z0, z1, z2, z3, z4]) C) :
    RepL x (Rep x 1) (some ⟨g, 0, none⟩) 3 3 [A, B, C] := by
  refine ⟨rfl, Nat.le_refl _, by unfold maxLen; omega, fun _ => ⟨g, 0, rfl, fun i hi => ?_⟩⟩
  have hi' : i = 0 ∨ i = 1 ∨ i = 2 := by simp at hi; omega
  rcases hi' with rfl | rfl | rfl
  · exact ⟨_, _, _, _, _, rc h 0, rc h 1, rc h 2, rc h 3, rc h 4, ha⟩
  · exact ⟨_, _, _, _, _, rc h 5, rc h 6, rc h 7, rc h 8, rc h 9, hb⟩
  · exact ⟨_, _, _, _, _, rc h 10, rc h 11, rc h 12, rc h 13, rc h 14, hc⟩
theorem la1_new {g : Nat} {x : World} {k : ByteArray} (hg : g = x.heap.size) (hk : k.size ≤ maxLen) : LA g [nameV 0 k] (x.alloc (.cells #[.int .i64 3, .int .i64 0, .float .f64 0, .string k, .slice none 0 0] 27)) := by
  subst hg
  exact row1_rep (row_alloc _ _ _) (leaf1 _ (by decide) (by decide) (by decide) hk)
theorem la2_new {g : Nat} {x : World} {k : ByteArray} {K I : Int} {F : Nat} (hg : g = x.heap.size) (hk : k.size ≤ maxLen) (hK : okI K) (hI : okI I) (hF : F < 2 ^ 64) : LA g [nameV 0 k, (K, I, F, ⟨#[]⟩, [])] (x.alloc (.cells #[.int .i64 3, .int .i64 0, .float .f64 0, .string k, .slice none 0 0, .int .i64 K, .int .i64 I, .float .f64 F, .string ⟨#[]⟩, .slice none 0 0] 27)) := by
  subst hg
  exact row2_rep (row_alloc _ _ _) (leaf1 _ (by decide) (by decide) (by decide) hk) (leaf1 _ hK hI hF (by decide))
theorem la3_new {g : Nat} {x : World} {k k2 : ByteArray} {K I : Int} {F : Nat} (hg : g = x.heap.size) (hk : k.size ≤ maxLen) (hk2 : k2.size ≤ maxLen) (hK : okI K) (hI : okI I) (hF : F < 2 ^ 64) : LA g [nameV 0 k, nameV 0 k2, (K, I, F, ⟨#[]⟩, [])] (x.alloc (.cells #[.int .i64 3, .int .i64 0, .float .f64 0, .string k, .slice none 0 0, .int .i64 3, .int .i64 0, .float .f64 0, .string k2, .slice none 0 0, .int .i64 K, .int .i64 I, .float .f64 F, .string ⟨#[]⟩, .slice none 0 0] 27)) := by
  subst hg
  exact row3_rep (row_alloc _ _ _) (leaf1 _ (by decide) (by decide) (by decide) hk) (leaf1 _ (by decide) (by decide) (by decide) hk2) (leaf1 _ hK hI hF (by decide))
theorem nil_led (x : World) : Rep x 3 (.agg #[.int .i64 4, .int .i64 0, .float .f64 0, .string ⟨#[]⟩, .slice none 0 0]) (tableT 0 (ledA [])) := list_rep ⟨rfl, Nat.le_refl _, Nat.zero_le _, fun h => absurd h (Nat.lt_irrefl _)⟩
def FBC (w : World) (sb : Nat) (qs : Option Addr) (ms ds : Nat) (vb : Nat) (v0 v1 v2 v3 v4 : Value) (z : World) : Prop := CS z sb (.int .i64 4) (.int .i64 0) (.float .f64 0) (.string ⟨#[]⟩) (.slice qs ms ds) ∧ Below w.heap.size w z ∧ CS z vb v0 v1 v2 v3 v4
section
variable {w x y : World} {sb : Nat} {qs : Option Addr} {ms ds : Nat} {vb : Nat} {v0 v1 v2 v3 v4 : Value}
theorem fbc_step (h : FBC w sb qs ms ds vb v0 v1 v2 v3 v4 x) (hb : Below x.heap.size x y) : FBC w sb qs ms ds vb v0 v1 v2 v3 v4 y := ⟨cs_step h.1 hb, bel_step h.2.1 hb, cs_step h.2.2 hb⟩
theorem fbc_drew (h : FBC w sb qs ms ds vb v0 v1 v2 v3 v4 x) : FBC w sb qs ms ds vb v0 v1 v2 v3 v4 x.drew := fbc_step h (Below.drew br)
theorem fbc_set {g : Nat} {u0 u1 u2 u3 u4 : Value} (h : FBC w sb qs ms ds vb v0 v1 v2 v3 v4 x) (h1 : sb ≠ g) (h3 : vb ≠ g) (h2 : w.heap.size ≤ g) : FBC w sb qs ms ds vb v0 v1 v2 v3 v4 (set5 x g 0 u0 u1 u2 u3 u4) := ⟨cs_other h.1 h1, set5_below h.2.1 h2 _ _ _ _ _, cs_other h.2.2 h3⟩
end
theorem led_box {w : World} {S : Nat → Prop} {K I : Int} {F : Nat} {Z : ByteArray} {q : Option Addr} {m d : Nat} {ES : List (ByteArray × VT 1)} (h : RepS S w 3 (.agg #[.int .i64 K, .int .i64 I, .float .f64 F, .string Z, .slice q m d]) (tableT 0 ES)) : K = 4 ∧ I = 0 ∧ F = 0 ∧ Z = ⟨#[]⟩ := by
  have h' := repS_rep _ _ _ h
  obtain ⟨p, l, c, hv, _⟩ := h'
  injection hv with hv
  simp only [Array.mk.injEq, List.cons.injEq, and_true] at hv
  obtain ⟨e1, e2, e3, e4, _⟩ := hv
  injection e1 with _ e1
  injection e2 with _ e2
  injection e3 with _ e3
  injection e4 with e4
  exact ⟨e1, e2, e3, e4⟩
theorem flo_box {w : World} {S : Nat → Prop} {K I : Int} {F : Nat} {Z : ByteArray} {q : Option Addr} {m d : Nat} {G : Nat} (h : RepS S w 1 (.agg #[.int .i64 K, .int .i64 I, .float .f64 F, .string Z, .slice q m d]) (floT 0 G)) : K = 2 ∧ I = 0 ∧ F = G ∧ Z = ⟨#[]⟩ ∧ m = 0 := by
  have h' := repS_rep _ _ _ h
  obtain ⟨p, l, c, hv, _, _, _, _, hl, _⟩ := h'
  injection hv with hv
  simp only [Array.mk.injEq, List.cons.injEq, and_true] at hv
  obtain ⟨e1, e2, e3, e4, e5⟩ := hv
  injection e1 with _ e1
  injection e2 with _ e2
  injection e3 with _ e3
  injection e4 with e4
  injection e5 with _ e6 _
  exact ⟨e1, e2, e3, e4, e6.trans hl.symm⟩
theorem nm_a : nmV 3 ⟨#[97]⟩ = true := by decide
theorem okA_nil : OkA [] := ⟨⟨fun s h => absurd h List.not_mem_nil, fun i j hi => absurd hi (Nat.not_lt_zero _)⟩, by decide, fun e h => absurd h List.not_mem_nil⟩
theorem okA_one {k : ByteArray} {F : Nat} (hk : nmV 3 k = true) (hF : F < 9218868437227405312) : OkA [(k, F)] := ⟨⟨fun s h => by rw [List.mem_singleton.1 h]; exact hk, fun i j hi hj hij => by have h1 : i < 1 := hi; have h2 : j < 1 := hj; omega⟩, (by show (1 : Nat) ≤ 32; omega), fun e h => by rw [List.mem_singleton.1 h]; exact hF⟩
def PutL2 (w wr : World) (sb : Nat) (qs : Option Addr) (ms ds : Nat) (TT : VT 3) (UU : VT 1) (z : Int) (sA sB sE : Value) (wx : World) : Prop := ∃ (gA gB : Nat) (Kt It : Int) (Ft : Nat) (Zt : ByteArray) (qt : Option Addr) (mt dt : Nat) (Kv Iv : Int) (Fv : Nat) (Zv : ByteArray) (qv : Option Addr) (mv dv : Nat), sA = .pointer (some ⟨gA, 0, none⟩) ∧ sB = .pointer (some ⟨gB, 0, none⟩) ∧ sE = .int .i64 z ∧ CS wx gA (.int .i64 Kt) (.int .i64 It) (.float .f64 Ft) (.string Zt) (.slice qt mt dt) ∧ CS wx gB (.int .i64 Kv) (.int .i64 Iv) (.float .f64 Fv) (.string Zv) (.slice qv mv dv) ∧ FB w sb qs ms ds wx ∧ Below wr.heap.size wr wx ∧ RepS (fun b => wr.heap.size ≤ b ∧ b ≠ gA ∧ b ≠ gB) wx 3 (.agg #[.int .i64 Kt, .int .i64 It, .float .f64 Ft, .string Zt, .slice qt mt dt]) (TT) ∧ RepS (fun b => wr.heap.size ≤ b ∧ b ≠ gA ∧ b ≠ gB) wx 1 (.agg #[.int .i64 Kv, .int .i64 Iv, .float .f64 Fv, .string Zv, .slice qv mv dv]) (UU) ∧ wr.heap.size ≤ gA ∧ wr.heap.size ≤ gB
def PutL3 (w wr : World) (sb : Nat) (qs : Option Addr) (ms ds : Nat) (vb : Nat) (qx : Option Addr) (dx : Nat) (TT : VT 3) (UU : VT 1) (z : Int) (sA sB sE : Value) (wx : World) : Prop := ∃ (gA gB : Nat) (Kt It : Int) (Ft : Nat) (Zt : ByteArray) (qt : Option Addr) (mt dt : Nat) (Kv Iv : Int) (Fv : Nat) (Zv : ByteArray) (qv : Option Addr) (mv dv : Nat), sA = .pointer (some ⟨gA, 0, none⟩) ∧ sB = .pointer (some ⟨gB, 0, none⟩) ∧ sE = .int .i64 z ∧ CS wx gA (.int .i64 Kt) (.int .i64 It) (.float .f64 Ft) (.string Zt) (.slice qt mt dt) ∧ CS wx gB (.int .i64 Kv) (.int .i64 Iv) (.float .f64 Fv) (.string Zv) (.slice qv mv dv) ∧ FBC w sb qs ms ds vb (.int .i64 2) (.int .i64 0) (.float .f64 4611686018427387904) (.string ⟨#[]⟩) (.slice qx 0 dx) wx ∧ Below wr.heap.size wr wx ∧ RepS (fun b => wr.heap.size ≤ b ∧ b ≠ gA ∧ b ≠ gB) wx 3 (.agg #[.int .i64 Kt, .int .i64 It, .float .f64 Ft, .string Zt, .slice qt mt dt]) (TT) ∧ RepS (fun b => wr.heap.size ≤ b ∧ b ≠ gA ∧ b ≠ gB) wx 1 (.agg #[.int .i64 Kv, .int .i64 Iv, .float .f64 Fv, .string Zv, .slice qv mv dv]) (UU) ∧ wr.heap.size ≤ gA ∧ wr.heap.size ≤ gB
theorem flo_ref3 (w : World) : Calls Tryz.prog 20 #[.float .f64 4613937818241073152] w fun e w' => e = .returned (.agg #[.int .i64 2, .int .i64 0, .float .f64 4613937818241073152, .string ⟨#[]⟩, .slice none 0 0]) ∧ Below w.heap.size w w' := by
  have h := float_ref_any 4613937818241073152 w
  rw [show Flo.canon 4613937818241073152 = 4613937818241073152 by decide +kernel] at h
  exact h
end Num
end Go.Proofs.YtpbfaffheigjcaaGreat
/-
  Names in their order: where one stands, one put in, one taken out (plain).
-/
namespace Go.Proofs.YtpbfaffheigjcaaGreat
open Go.RowKit
namespace Num
open Ints
theorem bl_trans : ∀ x y z : List UInt8, Op.bytesLess x y = true → Op.bytesLess y z = true → Op.bytesLess x z = true
  | _, [], _, h, _ => by simp [Op.bytesLess] at h
  | _, _ :: _, [], _, h => by simp [Op.bytesLess] at h
  | [], _ :: _, _ :: _, _, _ => by simp [Op.bytesLess]
  | a :: x, b :: y, c :: z, h, g => by
    have ih := bl_trans x y z
    rw [Op.bytesLess] at h g ⊢
    simp only [Bool.or_eq_true, Bool.and_eq_true, decide_eq_true_iff, beq_iff_eq] at h g ⊢
    rcases h with h | ⟨rfl, h⟩
    · rcases g with g | ⟨rfl, g⟩
      · exact Or.inl (by rw [UInt8.lt_iff_toNat_lt] at h g ⊢; omega)
      · exact Or.inl h
    · rcases g with g | ⟨rfl, g⟩
      · exact Or.inl g
      · exact Or.inr ⟨rfl, ih h g⟩
theorem bl_tri : ∀ x y : List UInt8, Op.bytesLess x y = false → x ≠ y → Op.bytesLess y x = true
  | [], [], _, h => absurd rfl h
  | [], _ :: _, h, _ => by simp [Op.bytesLess] at h
  | _ :: _, [], _, _ => by simp [Op.bytesLess]
  | a :: x, b :: y, h, g => by
    have ih := bl_tri x y
    rw [Op.bytesLess] at h ⊢
    rw [Bool.or_eq_false_iff, decide_eq_false_iff_not] at h
    simp only [Bool.or_eq_true, Bool.and_eq_true, decide_eq_true_iff, beq_iff_eq]
    by_cases hab : b = a
    · subst hab
      refine Or.inr ⟨rfl, ih ?_ (fun e => g (by rw [e]))⟩
      have := h.2
      simpa using this
    · refine Or.inl ?_
      have h1 := h.1
      rw [UInt8.lt_iff_toNat_lt] at h1 ⊢
      have h2 : b.toNat ≠ a.toNat := fun e => hab (UInt8.toNat_inj.1 e)
      omega
theorem ltB_trans {a b c : ByteArray} (h : ltB a b = true) (g : ltB b c = true) : ltB a c = true := bl_trans _ _ _ h g
theorem ltB_tri {a b : ByteArray} (h : ltB a b = false) (g : (a.toList == b.toList) = false) : ltB b a = true := bl_tri _ _ h (by rw [beq_eq_false_iff_ne] at g; exact g)
theorem names_pw (NS : List ByteArray) : Names NS ↔ (∀ s ∈ NS, nmV 3 s = true) ∧ NS.Pairwise (fun a b => ltB a b = true) := by
  unfold Names
  rw [List.pairwise_iff_getElem]
theorem spot_ex {NS : List ByteArray} (hp : NS.Pairwise (fun a b => ltB a b = true)) (k : ByteArray) : ∃ a f, Spot NS k a f := by
  induction NS with
  | nil => exact ⟨0, false, Nat.le_refl _, fun t h => absurd h (Nat.not_lt_zero _), fun h => absurd h (Nat.not_lt_zero _), fun _ => rfl⟩
  | cons x r ih =>
    obtain ⟨hx, hr⟩ := List.pairwise_cons.1 hp
    cases hk : ltB x k with
    | true =>
      obtain ⟨a, f, h1, h2, h3, h4⟩ := ih hr
      refine ⟨a + 1, f, by rw [List.length_cons]; omega, fun t h => ?_, fun h => ?_, fun h => h4 (fun e => h (by rw [List.length_cons]; omega))⟩
      · cases t with
        | zero => rw [List.getElem_cons_zero, hk, decide_eq_true (by omega)]
        | succ t =>
          rw [List.getElem_cons_succ, h2 t (by rw [List.length_cons] at h; omega)]
          by_cases ht : t < a
          · rw [decide_eq_true ht, decide_eq_true (by omega)]
          · rw [decide_eq_false ht, decide_eq_false (by omega)]
      · rw [List.getElem_cons_succ]; exact h3 (by rw [List.length_cons] at h; omega)
    | false =>
      refine ⟨0, x.toList == k.toList, Nat.zero_le _, fun t h => ?_, fun _ => rfl, fun h => absurd (by rw [List.length_cons]; omega) h⟩
      rw [decide_eq_false (Nat.not_lt_zero _)]
      cases t with
      | zero => exact hk
      | succ t =>
        rw [List.getElem_cons_succ]
        have ht : t < r.length := by rw [List.length_cons] at h; omega
        cases hc : ltB r[t] k with
        | false => rfl
        | true =>
          have := ltB_trans (hx _ (List.getElem_mem ht)) hc
          rw [hk] at this; cases this
theorem spot_of {NS : List ByteArray} (hn : Names NS) (k : ByteArray) : ∃ a f, Spot NS k a f := spot_ex ((names_pw NS).1 hn).2 k
theorem spot_eq {NS : List ByteArray} {k : ByteArray} {a : Nat} (h : Spot NS k a true) : ∃ h : a < NS.length, NS[a].toList = k.toList := by
  by_cases ha : a < NS.length
  · exact ⟨ha, by have := h.2.2.1 ha; rw [beq_iff_eq] at this; exact this⟩
  · have := h.2.2.2 ha; cases this
theorem names_ins {NS : List ByteArray} (hn : Names NS) {k : ByteArray} {a : Nat} (hs : Spot NS k a false) (hk : nmV 3 k = true) : Names (NS.take a ++ [k] ++ NS.drop a) := by
  rw [names_pw] at hn ⊢
  obtain ⟨h1, h2⟩ := hn
  obtain ⟨s1, s2, s3, s4⟩ := hs
  refine ⟨fun s h => ?_, ?_⟩
  · rcases List.mem_append.1 h with h | h
    · rcases List.mem_append.1 h with h | h
      · exact h1 s (List.mem_of_mem_take h)
      · rw [List.mem_singleton.1 h]; exact hk
    · exact h1 s (List.mem_of_mem_drop h)
  have hlo : ∀ x ∈ NS.take a, ltB x k = true := by
    intro x hx
    obtain ⟨t, ht, rfl⟩ := List.getElem_of_mem hx
    rw [List.length_take] at ht
    rw [List.getElem_take, s2 t (by omega), decide_eq_true (by omega)]
  have hhi : ∀ x ∈ NS.drop a, ltB k x = true := by
    intro x hx
    obtain ⟨t, ht, rfl⟩ := List.getElem_of_mem hx
    rw [List.length_drop] at ht
    have ha : a < NS.length := by omega
    have hka : ltB k NS[a] = true := ltB_tri (by rw [s2 a ha, decide_eq_false (Nat.lt_irrefl _)]) (s3 ha)
    rw [List.getElem_drop]
    cases t with
    | zero => exact hka
    | succ t => exact ltB_trans hka ((List.pairwise_iff_getElem.1 h2) a (a + (t + 1)) ha (by omega) (by omega))
  rw [List.append_assoc, List.pairwise_append]
  refine ⟨h2.sublist (List.take_sublist _ _), ?_, fun x hx y hy => ?_⟩
  · rw [List.singleton_append, List.pairwise_cons]
    exact ⟨hhi, h2.sublist (List.drop_sublist _ _)⟩
  · rw [List.singleton_append, List.mem_cons] at hy
    rcases hy with rfl | hy
    · exact hlo x hx
    · exact ltB_trans (hlo x hx) (hhi y hy)
theorem okA_ins {AS : List (ByteArray × Nat)} (h : OkA AS) {k : ByteArray} {a F : Nat} (hs : Spot (AS.map (·.1)) k a false) (hk : nmV 3 k = true) (hl : AS.length < 32) (hF : F < 9218868437227405312) : OkA (AS.take a ++ [(k, F)] ++ AS.drop a) := by
  have ha := hs.1
  rw [List.length_map] at ha
  refine ⟨?_, ?_, fun e he => ?_⟩
  · have e := names_ins h.1 hs hk
    rw [← List.map_take, ← List.map_drop] at e
    rw [List.map_append, List.map_append]
    exact e
  · rw [List.length_append, List.length_append, List.length_take, List.length_drop, List.length_singleton]; omega
  · rcases List.mem_append.1 he with he | he
    · rcases List.mem_append.1 he with he | he
      · exact h.2.2 e (List.mem_of_mem_take he)
      · rw [List.mem_singleton.1 he]; exact hF
    · exact h.2.2 e (List.mem_of_mem_drop he)
theorem okA_del {AS : List (ByteArray × Nat)} (h : OkA AS) (i : Nat) : OkA (AS.take i ++ AS.drop (i + 1)) := by
  have hsub : (AS.take i ++ AS.drop (i + 1)).Sublist AS := by
    rw [← List.eraseIdx_eq_take_drop_succ]
    exact List.eraseIdx_sublist _ _
  have hn := (names_pw _).1 h.1
  refine ⟨(names_pw _).2 ⟨fun s hs => hn.1 s ((hsub.map _).subset hs), hn.2.sublist (hsub.map _)⟩, ?_, fun e he => h.2.2 e (hsub.subset he)⟩
  exact Nat.le_trans hsub.length_le h.2.1
theorem ledA_ins (AS : List (ByteArray × Nat)) (k : ByteArray) (a F : Nat) : ledA (AS.take a ++ [(k, F)] ++ AS.drop a) = (ledA AS).take a ++ [(k, floT 0 F)] ++ (ledA AS).drop a := by
  unfold ledA
  rw [List.map_append, List.map_append, List.map_take, List.map_drop]; rfl
theorem ledA_del (AS : List (ByteArray × Nat)) (i : Nat) : ledA (AS.take i ++ AS.drop (i + 1)) = (ledA AS).take i ++ (ledA AS).drop (i + 1) := by
  unfold ledA
  rw [List.map_append, List.map_take, List.map_drop]
end Num
end Go.Proofs.YtpbfaffheigjcaaGreat
