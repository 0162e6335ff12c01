/-
  The reference: a transfer that comes to a sum that is not finite.
-/
import Derived.Test.YtpbfaffheigjcaaGreatVMI
import Derived.Test.YtpbfaffheigjcaaGreatVLMr
import Derived.Test.YtpbfaffheigjcaaGreatVp21LN
import Derived.Test.YtpbfaffheigjcaaGreatVp19LQd
namespace Go.Proofs.YtpbfaffheigjcaaGreat
open Go.RowKit
namespace Num
open Ints
set_option linter.unusedSimpArgs false
set_option linter.unusedVariables false
set_option maxRecDepth 100000 in
set_option maxHeartbeats 8000000 in
theorem rtra_sum (b off l c a d bl ol cl : Nat) (ka kd : ByteArray) (K3 I3 : Int) (F3 : Nat) (S3 : ByteArray) (q3 : Option Addr) (m3 d3 : Nat) (w : World) (n0 : w.cell? ⟨bl, ol + 3, none⟩ = some (.string ka)) (n1 : w.cell? ⟨bl, ol + 5 + 3, none⟩ = some (.string kd)) (v0 : w.cell? ⟨bl, ol + 10, none⟩ = some (.int .i64 K3)) (v1 : w.cell? ⟨bl, ol + 10 + 1, none⟩ = some (.int .i64 I3)) (v2 : w.cell? ⟨bl, ol + 10 + 2, none⟩ = some (.float .f64 F3)) (v3 : w.cell? ⟨bl, ol + 10 + 3, none⟩ = some (.string S3)) (v4 : w.cell? ⟨bl, ol + 10 + 4, none⟩ = some (.slice q3 m3 d3)) (R : Value → VT 2 → Prop) (ES : List (ByteArray × VT 1)) (G FA : Nat) (ha : amtV K3 I3 F3 = .tuple #[.float .f64 G, .bool true]) (hal : a < l) (hl : l ≤ 32) (HE : Hid (EntsL w (some ⟨b, off, none⟩) l (ES.map (·.1)))) (hs : Spot (ES.map (·.1)) ka a true) (gc oc cgc : Nat) (hc : AccC w b off a ka FA gc oc cgc) (hsd : Spot (ES.map (·.1)) kd d true) (hls : (FloatKind.f64.format.order FA G == some .lt) = false) (hkk : (ka.toList == kd.toList) = false) (hdl : d < l) (FD gd od cgd : Nat) (hcd : AccC w b off d kd FD gd od cgd) (hop1 : ∀ t W, (binOp .sub t (.float .f64 FA) (.float .f64 G)).run Tryz.prog W = .ok (.float .f64 (Flo.cop .sub FA G)) W) (hop2 : ∀ t W, (binOp .add t (.float .f64 FD) (.float .f64 G)).run Tryz.prog W = .ok (.float .f64 (Flo.cop .add FD G)) W) (HCS : Hid (Flo.canon (Flo.cop .sub FA G) = (Flo.cop .sub FA G))) (HCG : Hid (Flo.canon (Flo.cop .add FD G) = (Flo.cop .add FD G))) (hfin : finV 2 (Flo.cop .add FD G) = false) :
    Calls Tryz.prog 38 #[.agg #[.int .i64 4, .int .i64 0, .float .f64 0, .string ⟨#[]⟩, .slice (some ⟨b, off, none⟩) l c], .string { data := #[116, 114, 97, 110, 115, 102, 101, 114] }, .slice (some ⟨bl, ol, none⟩) 3 cl] w fun e w' => RLQ w R (some ⟨b, off, none⟩) l c (ES.map (pairE 0)) (nilT 2) (nilT 0) 35 e w' := by
  have TR1 := Lib.hid (show (fun z0 : World => ZL z0 w.heap.size (some ⟨b, off, none⟩) l c ∧ Zz z0 (w.heap.size + 1) ∧ Zz z0 (w.heap.size + 1 + 1) ∧ Below w.heap.size w z0) (((w.alloc (.cells #[.int .i64 4, .int .i64 0, .float .f64 0, .string ⟨#[]⟩, .slice (some ⟨b, off, none⟩) l c] 27)).alloc (.cells #[.int .i64 0, .int .i64 0, .float .f64 0, .string ⟨#[]⟩, .slice none 0 0] 27)).alloc (.cells #[.int .i64 0, .int .i64 0, .float .f64 0, .string ⟨#[]⟩, .slice none 0 0] 27)) from ⟨row_alloc_step (row_alloc_step (row_alloc w #[.int .i64 4, .int .i64 0, .float .f64 0, .string ⟨#[]⟩, .slice (some ⟨b, off, none⟩) l c] 27) _) _, (row_alloc_step (ra (by simp only [World.size_alloc, World.size_drew])) _), (ra (by simp only [World.size_alloc, World.size_drew])), bel_alloc (bel_alloc (bel_alloc (Below.refl w.heap.size w) _) _) _⟩)
  have hbl : bl < w.heap.size := cell_lt v0
  have HV := Lib.hid (show ∀ W, Below w.heap.size w W → W.cell? ⟨bl, ol + 10, none⟩ = some (.int .i64 K3) ∧ W.cell? ⟨bl, ol + 10 + 1, none⟩ = some (.int .i64 I3) ∧ W.cell? ⟨bl, ol + 10 + 2, none⟩ = some (.float .f64 F3) ∧ W.cell? ⟨bl, ol + 10 + 3, none⟩ = some (.string S3) ∧ W.cell? ⟨bl, ol + 10 + 4, none⟩ = some (.slice q3 m3 d3) from fun W hb => ⟨ck hb v0, ck hb v1, ck hb v2, ck hb v3, ck hb v4⟩)
  have HNN := Lib.hid (show ∀ W, Below w.heap.size w W → W.cell? ⟨bl, ol + 3, none⟩ = some (.string ka) ∧ W.cell? ⟨bl, ol + 5 + 3, none⟩ = some (.string kd) from fun W hb => ⟨ck hb n0, ck hb n1⟩)
  have HA := Lib.hid ha
  clear v0 v1 v2 v3 v4 n0 n1 ha
  have HS := Lib.hid hs
  have HC := Lib.hid hc
  clear hs hc
  have Hc0 := Lib.hid HC.out.1
  have Hc1 := Lib.hid HC.out.2.1
  have Hc2 := Lib.hid HC.out.2.2.1
  have Hc3 := Lib.hid HC.out.2.2.2.1
  have Hc4 := Lib.hid HC.out.2.2.2.2.1
  have Hc5 := Lib.hid HC.out.2.2.2.2.2.1
  have Hc6 := Lib.hid HC.out.2.2.2.2.2.2
  have hbc := cell_lt HC.out.1
  have hgc := cell_lt HC.out.2.2.2.2.2.1
  have hc1 : (0 : Int) ≤ (a : Int) := by omega
  have hc2 : (a : Int) < (l : Int) := by omega
  have HSD := Lib.hid hsd
  have HCd := Lib.hid hcd
  clear hsd hcd
  have Hd0 := Lib.hid HCd.out.1
  have Hd1 := Lib.hid HCd.out.2.1
  have Hd2 := Lib.hid HCd.out.2.2.1
  have Hd3 := Lib.hid HCd.out.2.2.2.1
  have Hd4 := Lib.hid HCd.out.2.2.2.2.1
  have Hd5 := Lib.hid HCd.out.2.2.2.2.2.1
  have Hd6 := Lib.hid HCd.out.2.2.2.2.2.2
  have hbd := cell_lt HCd.out.1
  have hgd := cell_lt HCd.out.2.2.2.2.2.1
  have hd1 : (0 : Int) ≤ (d : Int) := by omega
  have hd2 : (d : Int) < (l : Int) := by omega
  obtain ⟨e0, e1, e2, e3, e4⟩ := HV.out _ TR1.out.2.2.2
  go_enter Tryz.func38, Tryz.ntmps38
  clear e0 e1 e2 e3 e4
  obtain ⟨e0, e1, e2, e3, e4⟩ := HV.out _ br
  have ebl : bl < w.heap.size := cell_lt e0
  have ene0 : w.heap.size ≠ bl := by omega
  have ene1 : w.heap.size + 1 ≠ bl := by omega
  have ene2 : w.heap.size + 1 + 1 ≠ bl := by omega
  have elt1 : bl < w.heap.size + 1 := by omega
  have elt2 : bl < w.heap.size + 1 + 1 := by omega
  go_wp2_with fail
  go_at_call 71; refine (amount_is8 HA.out S3 q3 m3 d3 _).mono ?_; rintro e w185 ⟨rfl, hbw185⟩
  have TR2 := Lib.hid (And.intro (row_step TR1.out.1 hbw185) (And.intro (row_step TR1.out.2.1 hbw185) (And.intro (row_step TR1.out.2.2.1 hbw185) (bel_step TR1.out.2.2.2 hbw185))))
  clear TR1
  clear hbw185
  clear e0 e1 e2 e3 e4
  have en := (HNN.out _ TR2.out.2.2.2).1
  have enl := cell_lt en
  obtain ⟨c0_0, c0_1, c0_2, c0_3, c0_4, c0f, c0l⟩ := r7 TR2.out.1
  go_wp2_with fail
  go_at_call 68; refine (at_any 4 0 0 _ _ l c a (ES.map (·.1)) ka true _ (entsL_step HE.out TR2.out.2.2.2) HS.out).mono ?_; rintro e w186 ⟨rfl, hbw186⟩
  have TR3 := Lib.hid (And.intro (row_step TR2.out.1 hbw186) (And.intro (row_step TR2.out.2.1 hbw186) (And.intro (row_step TR2.out.2.2.1 hbw186) (bel_step TR2.out.2.2.2 hbw186))))
  clear TR2
  clear hbw186
  clear en enl
  clear c0_0 c0_1 c0_2 c0_3 c0_4 c0f c0l
  obtain ⟨c0_0, c0_1, c0_2, c0_3, c0_4, c0f, c0l⟩ := r7 TR3.out.1
  have ec4 := ck TR3.out.2.2.2 Hc4.out
  have ec6 := ck TR3.out.2.2.2 Hc6.out
  have ecl := cell_lt ec4
  have ecm := cell_lt ec6
  have en := (HNN.out _ TR3.out.2.2.2).2
  have enl := cell_lt en
  go_wp2_with fail
  go_at_call 68; refine (at_any 4 0 0 _ _ l c d (ES.map (·.1)) kd true _ (entsL_step HE.out TR3.out.2.2.2) HSD.out).mono ?_; rintro e w187 ⟨rfl, hbw187⟩
  have TR4 := Lib.hid (And.intro (row_step TR3.out.1 hbw187) (And.intro (row_step TR3.out.2.1 hbw187) (And.intro (row_step TR3.out.2.2.1 hbw187) (bel_step TR3.out.2.2.2 hbw187))))
  clear TR3
  clear hbw187
  clear en enl
  clear c0_0 c0_1 c0_2 c0_3 c0_4 c0f c0l
  clear ec4 ec6 ecl ecm
  have HOP1 := Lib.hid hop1
  have HOP2 := Lib.hid hop2
  clear hop1 hop2
  go_upto_region 49 with fail
  refine led49_any w b off l c d FA G FD gd od cgd w187 _ _ _ _ _ _ _ _ _ _ _ _ _ _ _ _ _ _ _ _ _ _ _ _ _ _ _ _ _ _ _ _ _ _ _ _ _ _ _ _ _ _ _ _ _ _ _ _ _ _ _ _ _ _ _ _ _ _ _ _ _ _ _ _ _ _ _ _ _ _ _ _ _ _ _ _ _ _ _ _ _ _ _ _ _ _ _ _ _ _ _ _ _ _ _ _ _ _ _ _ _ _ _ _ _ _ _ _ _ _ _ _ _ _ _ _ _ _ _ _ _ _ _ _ _ _ _ _ _ _ _ _ _ _ _ _ _ _ _ _ _ _ _ _ _ _ _ _ _ _ _ _ _ _ _ _ _ _ _ _ _ _ _ _ _ _ _ _ _ _ _ _ _ _ _ _ _ _ _ _ _ _ _ _ _ _ _ _ _ _ _ _ _ _ _ _ _ _ _ _ _ _ _ _ _ _ _ _ _ _ _ _ _ _ _ _ _ _ (fun _ _ d _ _ h => by cases d <;> exact h) TR4 Hd4 Hd6 HOP1 HOP2 HCS HCG hbd hgd hd1 hd2 (fun gA gB wy hgA hgB hcut => ?_)
  have TC0 := Lib.hid hcut
  clear hcut
  obtain ⟨c4_0, c4_1, c4_2, c4_3, c4_4, c4f, c4l⟩ := r7 TC0.out.2.2.2.2.1
  go_wp2_with fail
  go_at_call 72; refine (refFinite_any 2 0 (Flo.cop .add FD G) _ _ _ _ _).mono ?_; rintro e w188 ⟨rfl, hbw188⟩
  have TC1 := Lib.hid (And.intro (row_step TC0.out.1 hbw188) (And.intro (row_step TC0.out.2.1 hbw188) (And.intro (row_step TC0.out.2.2.1 hbw188) (And.intro (row_step TC0.out.2.2.2.1 hbw188) (And.intro (row_step TC0.out.2.2.2.2.1 hbw188) (bel_step TC0.out.2.2.2.2.2 hbw188))))))
  clear TC0
  clear hbw188
  clear c4_0 c4_1 c4_2 c4_3 c4_4 c4f c4l
  go_wp2_with fail
  go_at_call 30; refine (no_any _ _).mono ?_; rintro e w189 ⟨rfl, hbw189⟩
  have TC2 := Lib.hid (And.intro (row_step TC1.out.1 hbw189) (And.intro (row_step TC1.out.2.1 hbw189) (And.intro (row_step TC1.out.2.2.1 hbw189) (And.intro (row_step TC1.out.2.2.2.1 hbw189) (And.intro (row_step TC1.out.2.2.2.2.1 hbw189) (bel_step TC1.out.2.2.2.2.2 hbw189))))))
  clear TC1
  clear hbw189
  obtain ⟨c1_0, c1_1, c1_2, c1_3, c1_4, c1f, c1l⟩ := r7 TC2.out.2.1
  obtain ⟨c2_0, c2_1, c2_2, c2_3, c2_4, c2f, c2l⟩ := r7 TC2.out.2.2.1
  go_wp2
  refine bodyPost_ret (v := .tuple #[.agg #[.int .i64 0, .int .i64 0, .float .f64 0, .string ⟨#[]⟩, .slice none 0 0], .agg #[.int .i64 0, .int .i64 0, .float .f64 0, .string ⟨#[]⟩, .slice none 0 0], .int .i64 35]) (by simp [results, Tryz.results38, go_sem, World.cell?_setCell_same, World.cell?_setCell_other, c1_0, c1_1, c1_2, c1_3, c1_4, c2_0, c2_1, c2_2, c2_3, c2_4]) rfl ⟨_, _, rfl, ?_, fun y _ _ _ => repS_rep _ _ _ (nil_rep 2 (fun _ => True) y), fun y => repS_rep _ _ _ (nil_rep 0 (fun _ => True) y)⟩
  exact set5_below (g := w.heap.size + 1 + 1) (o := 0) (set5_below (g := w.heap.size + 1) (o := 0) TC2.out.2.2.2.2.2 (by omega) _ _ _ _ _) (by omega) _ _ _ _ _
end Num
end Go.Proofs.YtpbfaffheigjcaaGreat
/-
  The reference: a transfer that is done.
-/
namespace Go.Proofs.YtpbfaffheigjcaaGreat
open Go.RowKit
namespace Num
open Ints
set_option linter.unusedSimpArgs false
set_option linter.unusedVariables false
set_option maxRecDepth 100000 in
set_option maxHeartbeats 8000000 in
theorem rtra_ok (b off l c a d bl ol cl : Nat) (ka kd : ByteArray) (K3 I3 : Int) (F3 : Nat) (S3 : ByteArray) (q3 : Option Addr) (m3 d3 : Nat) (w : World) (n0 : w.cell? ⟨bl, ol + 3, none⟩ = some (.string ka)) (n1 : w.cell? ⟨bl, ol + 5 + 3, none⟩ = some (.string kd)) (v0 : w.cell? ⟨bl, ol + 10, none⟩ = some (.int .i64 K3)) (v1 : w.cell? ⟨bl, ol + 10 + 1, none⟩ = some (.int .i64 I3)) (v2 : w.cell? ⟨bl, ol + 10 + 2, none⟩ = some (.float .f64 F3)) (v3 : w.cell? ⟨bl, ol + 10 + 3, none⟩ = some (.string S3)) (v4 : w.cell? ⟨bl, ol + 10 + 4, none⟩ = some (.slice q3 m3 d3)) (R : Value → VT 2 → Prop) (ES : List (ByteArray × VT 1)) (G FA : Nat) (ha : amtV K3 I3 F3 = .tuple #[.float .f64 G, .bool true]) (hal : a < l) (hl : l ≤ 32) (HE : Hid (EntsL w (some ⟨b, off, none⟩) l (ES.map (·.1)))) (hs : Spot (ES.map (·.1)) ka a true) (gc oc cgc : Nat) (hc : AccC w b off a ka FA gc oc cgc) (hsd : Spot (ES.map (·.1)) kd d true) (hls : (FloatKind.f64.format.order FA G == some .lt) = false) (hkk : (ka.toList == kd.toList) = false) (hdl : d < l) (FD gd od cgd : Nat) (hcd : AccC w b off d kd FD gd od cgd) (hop1 : ∀ t W, (binOp .sub t (.float .f64 FA) (.float .f64 G)).run Tryz.prog W = .ok (.float .f64 (Flo.cop .sub FA G)) W) (hop2 : ∀ t W, (binOp .add t (.float .f64 FD) (.float .f64 G)).run Tryz.prog W = .ok (.float .f64 (Flo.cop .add FD G)) W) (HCS : Hid (Flo.canon (Flo.cop .sub FA G) = (Flo.cop .sub FA G))) (HCG : Hid (Flo.canon (Flo.cop .add FD G) = (Flo.cop .add FD G))) (hfin : finV 2 (Flo.cop .add FD G) = true) (hR : One5 R) (HL : Hid (RepL w R (some ⟨b, off, none⟩) l c (ES.map (pairE 0)))) (hna : nmV 3 ka = true) (hnd : nmV 3 kd = true) :
    Calls Tryz.prog 38 #[.agg #[.int .i64 4, .int .i64 0, .float .f64 0, .string ⟨#[]⟩, .slice (some ⟨b, off, none⟩) l c], .string { data := #[116, 114, 97, 110, 115, 102, 101, 114] }, .slice (some ⟨bl, ol, none⟩) 3 cl] w fun e w' => RLQ w R (some ⟨b, off, none⟩) l c (ES.map (pairE 0)) (tableT 0 ((ES.set a (ka, floT 0 (Flo.cop .sub FA G))).set d (kd, floT 0 (Flo.cop .add FD G)))) (floT 0 (Flo.cop .sub FA G)) 0 e w' := by
  have TR1 := Lib.hid (show (fun z0 : World => ZL z0 w.heap.size (some ⟨b, off, none⟩) l c ∧ Zz z0 (w.heap.size + 1) ∧ Zz z0 (w.heap.size + 1 + 1) ∧ Below w.heap.size w z0) (((w.alloc (.cells #[.int .i64 4, .int .i64 0, .float .f64 0, .string ⟨#[]⟩, .slice (some ⟨b, off, none⟩) l c] 27)).alloc (.cells #[.int .i64 0, .int .i64 0, .float .f64 0, .string ⟨#[]⟩, .slice none 0 0] 27)).alloc (.cells #[.int .i64 0, .int .i64 0, .float .f64 0, .string ⟨#[]⟩, .slice none 0 0] 27)) from ⟨row_alloc_step (row_alloc_step (row_alloc w #[.int .i64 4, .int .i64 0, .float .f64 0, .string ⟨#[]⟩, .slice (some ⟨b, off, none⟩) l c] 27) _) _, (row_alloc_step (ra (by simp only [World.size_alloc, World.size_drew])) _), (ra (by simp only [World.size_alloc, World.size_drew])), bel_alloc (bel_alloc (bel_alloc (Below.refl w.heap.size w) _) _) _⟩)
  have hbl : bl < w.heap.size := cell_lt v0
  have HV := Lib.hid (show ∀ W, Below w.heap.size w W → W.cell? ⟨bl, ol + 10, none⟩ = some (.int .i64 K3) ∧ W.cell? ⟨bl, ol + 10 + 1, none⟩ = some (.int .i64 I3) ∧ W.cell? ⟨bl, ol + 10 + 2, none⟩ = some (.float .f64 F3) ∧ W.cell? ⟨bl, ol + 10 + 3, none⟩ = some (.string S3) ∧ W.cell? ⟨bl, ol + 10 + 4, none⟩ = some (.slice q3 m3 d3) from fun W hb => ⟨ck hb v0, ck hb v1, ck hb v2, ck hb v3, ck hb v4⟩)
  have HNN := Lib.hid (show ∀ W, Below w.heap.size w W → W.cell? ⟨bl, ol + 3, none⟩ = some (.string ka) ∧ W.cell? ⟨bl, ol + 5 + 3, none⟩ = some (.string kd) from fun W hb => ⟨ck hb n0, ck hb n1⟩)
  have HA := Lib.hid ha
  clear v0 v1 v2 v3 v4 n0 n1 ha
  have HS := Lib.hid hs
  have HC := Lib.hid hc
  clear hs hc
  have Hc0 := Lib.hid HC.out.1
  have Hc1 := Lib.hid HC.out.2.1
  have Hc2 := Lib.hid HC.out.2.2.1
  have Hc3 := Lib.hid HC.out.2.2.2.1
  have Hc4 := Lib.hid HC.out.2.2.2.2.1
  have Hc5 := Lib.hid HC.out.2.2.2.2.2.1
  have Hc6 := Lib.hid HC.out.2.2.2.2.2.2
  have hbc := cell_lt HC.out.1
  have hgc := cell_lt HC.out.2.2.2.2.2.1
  have hc1 : (0 : Int) ≤ (a : Int) := by omega
  have hc2 : (a : Int) < (l : Int) := by omega
  have HSD := Lib.hid hsd
  have HCd := Lib.hid hcd
  clear hsd hcd
  have Hd0 := Lib.hid HCd.out.1
  have Hd1 := Lib.hid HCd.out.2.1
  have Hd2 := Lib.hid HCd.out.2.2.1
  have Hd3 := Lib.hid HCd.out.2.2.2.1
  have Hd4 := Lib.hid HCd.out.2.2.2.2.1
  have Hd5 := Lib.hid HCd.out.2.2.2.2.2.1
  have Hd6 := Lib.hid HCd.out.2.2.2.2.2.2
  have hbd := cell_lt HCd.out.1
  have hgd := cell_lt HCd.out.2.2.2.2.2.1
  have hd1 : (0 : Int) ≤ (d : Int) := by omega
  have hd2 : (d : Int) < (l : Int) := by omega
  obtain ⟨e0, e1, e2, e3, e4⟩ := HV.out _ TR1.out.2.2.2
  go_enter Tryz.func38, Tryz.ntmps38
  clear e0 e1 e2 e3 e4
  obtain ⟨e0, e1, e2, e3, e4⟩ := HV.out _ br
  have ebl : bl < w.heap.size := cell_lt e0
  have ene0 : w.heap.size ≠ bl := by omega
  have ene1 : w.heap.size + 1 ≠ bl := by omega
  have ene2 : w.heap.size + 1 + 1 ≠ bl := by omega
  have elt1 : bl < w.heap.size + 1 := by omega
  have elt2 : bl < w.heap.size + 1 + 1 := by omega
  go_wp2_with fail
  go_at_call 71; refine (amount_is8 HA.out S3 q3 m3 d3 _).mono ?_; rintro e w190 ⟨rfl, hbw190⟩
  have TR2 := Lib.hid (And.intro (row_step TR1.out.1 hbw190) (And.intro (row_step TR1.out.2.1 hbw190) (And.intro (row_step TR1.out.2.2.1 hbw190) (bel_step TR1.out.2.2.2 hbw190))))
  clear TR1
  clear hbw190
  clear e0 e1 e2 e3 e4
  have en := (HNN.out _ TR2.out.2.2.2).1
  have enl := cell_lt en
  obtain ⟨c0_0, c0_1, c0_2, c0_3, c0_4, c0f, c0l⟩ := r7 TR2.out.1
  go_wp2_with fail
  go_at_call 68; refine (at_any 4 0 0 _ _ l c a (ES.map (·.1)) ka true _ (entsL_step HE.out TR2.out.2.2.2) HS.out).mono ?_; rintro e w191 ⟨rfl, hbw191⟩
  have TR3 := Lib.hid (And.intro (row_step TR2.out.1 hbw191) (And.intro (row_step TR2.out.2.1 hbw191) (And.intro (row_step TR2.out.2.2.1 hbw191) (bel_step TR2.out.2.2.2 hbw191))))
  clear TR2
  clear hbw191
  clear en enl
  clear c0_0 c0_1 c0_2 c0_3 c0_4 c0f c0l
  obtain ⟨c0_0, c0_1, c0_2, c0_3, c0_4, c0f, c0l⟩ := r7 TR3.out.1
  have ec4 := ck TR3.out.2.2.2 Hc4.out
  have ec6 := ck TR3.out.2.2.2 Hc6.out
  have ecl := cell_lt ec4
  have ecm := cell_lt ec6
  have en := (HNN.out _ TR3.out.2.2.2).2
  have enl := cell_lt en
  go_wp2_with fail
  go_at_call 68; refine (at_any 4 0 0 _ _ l c d (ES.map (·.1)) kd true _ (entsL_step HE.out TR3.out.2.2.2) HSD.out).mono ?_; rintro e w192 ⟨rfl, hbw192⟩
  have TR4 := Lib.hid (And.intro (row_step TR3.out.1 hbw192) (And.intro (row_step TR3.out.2.1 hbw192) (And.intro (row_step TR3.out.2.2.1 hbw192) (bel_step TR3.out.2.2.2 hbw192))))
  clear TR3
  clear hbw192
  clear en enl
  clear c0_0 c0_1 c0_2 c0_3 c0_4 c0f c0l
  clear ec4 ec6 ecl ecm
  have HOP1 := Lib.hid hop1
  have HOP2 := Lib.hid hop2
  clear hop1 hop2
  go_upto_region 49 with fail
  refine led49_any w b off l c d FA G FD gd od cgd w192 _ _ _ _ _ _ _ _ _ _ _ _ _ _ _ _ _ _ _ _ _ _ _ _ _ _ _ _ _ _ _ _ _ _ _ _ _ _ _ _ _ _ _ _ _ _ _ _ _ _ _ _ _ _ _ _ _ _ _ _ _ _ _ _ _ _ _ _ _ _ _ _ _ _ _ _ _ _ _ _ _ _ _ _ _ _ _ _ _ _ _ _ _ _ _ _ _ _ _ _ _ _ _ _ _ _ _ _ _ _ _ _ _ _ _ _ _ _ _ _ _ _ _ _ _ _ _ _ _ _ _ _ _ _ _ _ _ _ _ _ _ _ _ _ _ _ _ _ _ _ _ _ _ _ _ _ _ _ _ _ _ _ _ _ _ _ _ _ _ _ _ _ _ _ _ _ _ _ _ _ _ _ _ _ _ _ _ _ _ _ _ _ _ _ _ _ _ _ _ _ _ _ _ _ _ _ _ _ _ _ _ _ _ _ _ _ _ _ (fun _ _ d _ _ h => by cases d <;> exact h) TR4 Hd4 Hd6 HOP1 HOP2 HCS HCG hbd hgd hd1 hd2 (fun gA gB wy hgA hgB hcut => ?_)
  have TC0 := Lib.hid hcut
  clear hcut
  obtain ⟨c4_0, c4_1, c4_2, c4_3, c4_4, c4f, c4l⟩ := r7 TC0.out.2.2.2.2.1
  go_wp2_with fail
  go_at_call 72; refine (refFinite_any 2 0 (Flo.cop .add FD G) _ _ _ _ _).mono ?_; rintro e w193 ⟨rfl, hbw193⟩
  have TC1 := Lib.hid (And.intro (row_step TC0.out.1 hbw193) (And.intro (row_step TC0.out.2.1 hbw193) (And.intro (row_step TC0.out.2.2.1 hbw193) (And.intro (row_step TC0.out.2.2.2.1 hbw193) (And.intro (row_step TC0.out.2.2.2.2.1 hbw193) (bel_step TC0.out.2.2.2.2.2 hbw193))))))
  clear TC0
  clear hbw193
  clear c4_0 c4_1 c4_2 c4_3 c4_4 c4f c4l
  go_upto_region 52 with fail
  have hltW1 : w.heap.size + 1 < w193.heap.size := row_lt TC1.out.2.1
  have hltW2 : w.heap.size + 1 + 1 < w193.heap.size := row_lt TC1.out.2.2.1
  have hdrW : w193.drew.heap.size = w193.heap.size := World.size_drew _
  have hleW : w.heap.size ≤ w193.heap.size := TC1.out.2.2.2.2.2.size
  have TC2 := Lib.hid (And.intro (row_step TC1.out.1 (show Below w193.heap.size w193 w193.drew from Below.drew br)) (And.intro (row_step TC1.out.2.1 (show Below w193.heap.size w193 w193.drew from Below.drew br)) (And.intro (row_step TC1.out.2.2.1 (show Below w193.heap.size w193 w193.drew from Below.drew br)) (And.intro (row_step TC1.out.2.2.2.1 (show Below w193.heap.size w193 w193.drew from Below.drew br)) (And.intro (row_step TC1.out.2.2.2.2.1 (show Below w193.heap.size w193 w193.drew from Below.drew br)) (bel_step TC1.out.2.2.2.2.2 (show Below w193.heap.size w193 w193.drew from Below.drew br)))))))
  clear TC1
  refine wp_region_held_drew (S := (fun z => z.cell? ⟨w.heap.size, 0, none⟩ = some (.int .i64 4) ∧ z.cell? ⟨w.heap.size, 1, none⟩ = some (.int .i64 0) ∧ z.cell? ⟨w.heap.size, 2, none⟩ = some (.float .f64 0) ∧ z.cell? ⟨w.heap.size, 3, none⟩ = some (.string ⟨#[]⟩) ∧ z.cell? ⟨w.heap.size, 4, none⟩ = some (.slice (some ⟨b, off, none⟩) l c) ∧ z.cell? ⟨gA, 0, none⟩ = some (.int .i64 2) ∧ z.cell? ⟨gA, 1, none⟩ = some (.int .i64 0) ∧ z.cell? ⟨gA, 2, none⟩ = some (.float .f64 (Flo.cop .sub FA G)) ∧ z.cell? ⟨gA, 3, none⟩ = some (.string ⟨#[]⟩) ∧ z.cell? ⟨gA, 4, none⟩ = some (.slice none 0 0) ∧ z.cell? ⟨gB, 0, none⟩ = some (.int .i64 2) ∧ z.cell? ⟨gB, 1, none⟩ = some (.int .i64 0) ∧ z.cell? ⟨gB, 2, none⟩ = some (.float .f64 (Flo.cop .add FD G)) ∧ z.cell? ⟨gB, 3, none⟩ = some (.string ⟨#[]⟩) ∧ z.cell? ⟨gB, 4, none⟩ = some (.slice none 0 0))) (by kernel_rfl) ?_ (fun hH => ?_)
  · exact ⟨rc TC2.out.1 0, rc TC2.out.1 1, rc TC2.out.1 2, rc TC2.out.1 3, rc TC2.out.1 4, rc TC2.out.2.2.2.1 0, rc TC2.out.2.2.2.1 1, rc TC2.out.2.2.2.1 2, rc TC2.out.2.2.2.1 3, rc TC2.out.2.2.2.1 4, rc TC2.out.2.2.2.2.1 0, rc TC2.out.2.2.2.2.1 1, rc TC2.out.2.2.2.2.1 2, rc TC2.out.2.2.2.2.1 3, rc TC2.out.2.2.2.2.1 4⟩
  refine zt [0, 1, 2, 3, 5, 6, 7, 9] ?_
  iterate 8 (refine zt1 (fun _ _ d _ _ h => by cases d <;> exact h) (by simp only [lk0, lk1, lk2]; rfl) (by kernel_rfl) (by assumption) (by rfl) (fun w h => by (try dsimp only at h); go_simp; (try with_reducible rfl)) ?_; (try simp only [Act.put, pk0, pk1, pk2]))
  refine zt0 ?_
  refine zr1 4 (by kernel_rfl) (by simp only [lk0, lk1, lk2]; rfl) (fun K hK => ?_)
  go_simp
  go_at_call 69; refine (with_R 0 b off l c a ka 2 0 (Flo.cop .sub FA G) _ none 0 0 (ES.map (pairE 0)) (floT 0 (Flo.cop .sub FA G)) R hR _ (Lib.hid (repL_at TC2.out.2.2.2.2.2 HL.out)) (nm_size hna) (by omega) (by omega)).mono ?_; rintro e w203 ⟨p6, c6, ge1, rfl, hbw203, hge1, hrow1, hy6⟩
  have TC3 := Lib.hid (And.intro (row_step TC2.out.1 hbw203) (And.intro (row_step TC2.out.2.1 hbw203) (And.intro (row_step TC2.out.2.2.1 hbw203) (And.intro (row_step TC2.out.2.2.2.1 hbw203) (And.intro (row_step TC2.out.2.2.2.2.1 hbw203) (bel_step TC2.out.2.2.2.2.2 hbw203))))))
  clear TC2
  have TC4 := Lib.hid (show ZL w203 w.heap.size (some ⟨b, off, none⟩) l c ∧ Zz w203 (w.heap.size + 1) ∧ Zz w203 (w.heap.size + 1 + 1) ∧ ZF w203 gA (Flo.cop .sub FA G) ∧ ZF w203 gB (Flo.cop .add FD G) ∧ w203.heap[ge1]? = some (.cells #[.int .i64 3, .int .i64 0, .float .f64 0, .string ka, .slice none 0 0, .int .i64 2, .int .i64 0, .float .f64 (Flo.cop .sub FA G), .string ⟨#[]⟩, .slice none 0 0] 27 (0, 0)) ∧ Below w.heap.size w w203 from ⟨TC3.out.1, TC3.out.2.1, TC3.out.2.2.1, TC3.out.2.2.2.1, TC3.out.2.2.2.2.1, hrow1, TC3.out.2.2.2.2.2⟩)
  clear TC3
  have TC5 := Lib.hid (show ZL w203 w.heap.size (some ⟨b, off, none⟩) l c ∧ Zz w203 (w.heap.size + 1) ∧ Zz w203 (w.heap.size + 1 + 1) ∧ ZF w203 gA (Flo.cop .sub FA G) ∧ ZF w203 gB (Flo.cop .add FD G) ∧ w203.heap[ge1]? = some (.cells #[.int .i64 3, .int .i64 0, .float .f64 0, .string ka, .slice none 0 0, .int .i64 2, .int .i64 0, .float .f64 (Flo.cop .sub FA G), .string ⟨#[]⟩, .slice none 0 0] 27 (0, 0)) ∧ (Stay w193.drew.heap.size w203 w203 ∧ w203.heap.size ≤ w203.heap.size) ∧ Below w.heap.size w w203 from ⟨TC4.out.1, TC4.out.2.1, TC4.out.2.2.1, TC4.out.2.2.2.1, TC4.out.2.2.2.2.1, TC4.out.2.2.2.2.2.1, ⟨stay_refl _ _, Nat.le_refl _⟩, TC4.out.2.2.2.2.2.2⟩)
  clear TC4
  have hL1 := hy6 _ (stay_refl _ _)
  obtain ⟨b6, off6, rfl, _⟩ := hL1.2.2.2 (by omega)
  have HL6 := Lib.hid hL1
  have hzz1 : w193.drew.heap.size ≤ w203.heap.size := hbw203.size
  clear hL1 hy6 hrow1
  clear hbw203
  go_wp2_with fail
  refine hK.out _ _ ?hsv202_ (fun hH => ?_)
  case hsv202_ => exact ⟨rc TC5.out.1 0, rc TC5.out.1 1, rc TC5.out.1 2, rc TC5.out.1 3, rc TC5.out.1 4, rc TC5.out.2.2.2.1 0, rc TC5.out.2.2.2.1 1, rc TC5.out.2.2.2.1 2, rc TC5.out.2.2.2.1 3, rc TC5.out.2.2.2.1 4, rc TC5.out.2.2.2.2.1 0, rc TC5.out.2.2.2.2.1 1, rc TC5.out.2.2.2.2.1 2, rc TC5.out.2.2.2.2.1 3, rc TC5.out.2.2.2.2.1 4⟩
  clear hK K
  (try simp only [Act.put, pk0, pk1, pk2])
  refine zr1 8 (by kernel_rfl) (by simp only [lk0, lk1, lk2]; rfl) (fun K hK => ?_)
  go_simp
  go_at_call 69; refine (with_R 0 b6 off6 l _ d kd 2 0 (Flo.cop .add FD G) _ none 0 0 ((ES.map (pairE 0)).set a (pairT 0 ka (floT 0 (Flo.cop .sub FA G)))) (floT 0 (Flo.cop .add FD G)) (RO 0 ge1 R ka (floT 0 (Flo.cop .sub FA G))) (ro_one hR _ _) _ HL6 (nm_size hnd) (by omega) (by omega)).mono ?_; rintro e w205 ⟨p7, c7, ge2, rfl, hbw205, hge2, hrow2, hy7⟩
  have TC6 := Lib.hid (show ZL w205 w.heap.size (some ⟨b, off, none⟩) l c ∧ Zz w205 (w.heap.size + 1) ∧ Zz w205 (w.heap.size + 1 + 1) ∧ ZF w205 gA (Flo.cop .sub FA G) ∧ ZF w205 gB (Flo.cop .add FD G) ∧ w205.heap[ge1]? = some (.cells #[.int .i64 3, .int .i64 0, .float .f64 0, .string ka, .slice none 0 0, .int .i64 2, .int .i64 0, .float .f64 (Flo.cop .sub FA G), .string ⟨#[]⟩, .slice none 0 0] 27 (0, 0)) ∧ (Stay w193.drew.heap.size w203 w205 ∧ w203.heap.size ≤ w205.heap.size) ∧ Below w.heap.size w w205 from ⟨row_step TC5.out.1 hbw205, row_step TC5.out.2.1 hbw205, row_step TC5.out.2.2.1 hbw205, row_step TC5.out.2.2.2.1 hbw205, row_step TC5.out.2.2.2.2.1 hbw205, row_step TC5.out.2.2.2.2.2.1 hbw205, ⟨stay_trans TC5.out.2.2.2.2.2.2.1.1 TC5.out.2.2.2.2.2.2.1.2 hbw205, Nat.le_trans TC5.out.2.2.2.2.2.2.1.2 hbw205.size⟩, bel_step TC5.out.2.2.2.2.2.2.2 hbw205⟩)
  clear TC5
  have TC7 := Lib.hid (show ZL w205 w.heap.size (some ⟨b, off, none⟩) l c ∧ Zz w205 (w.heap.size + 1) ∧ Zz w205 (w.heap.size + 1 + 1) ∧ ZF w205 gA (Flo.cop .sub FA G) ∧ ZF w205 gB (Flo.cop .add FD G) ∧ w205.heap[ge1]? = some (.cells #[.int .i64 3, .int .i64 0, .float .f64 0, .string ka, .slice none 0 0, .int .i64 2, .int .i64 0, .float .f64 (Flo.cop .sub FA G), .string ⟨#[]⟩, .slice none 0 0] 27 (0, 0)) ∧ w205.heap[ge2]? = some (.cells #[.int .i64 3, .int .i64 0, .float .f64 0, .string kd, .slice none 0 0, .int .i64 2, .int .i64 0, .float .f64 (Flo.cop .add FD G), .string ⟨#[]⟩, .slice none 0 0] 27 (0, 0)) ∧ (Stay w193.drew.heap.size w203 w205 ∧ w203.heap.size ≤ w205.heap.size) ∧ Below w.heap.size w w205 from ⟨TC6.out.1, TC6.out.2.1, TC6.out.2.2.1, TC6.out.2.2.2.1, TC6.out.2.2.2.2.1, TC6.out.2.2.2.2.2.1, hrow2, TC6.out.2.2.2.2.2.2.1, TC6.out.2.2.2.2.2.2.2⟩)
  clear TC6
  have TC8 := Lib.hid (show ZL w205 w.heap.size (some ⟨b, off, none⟩) l c ∧ Zz w205 (w.heap.size + 1) ∧ Zz w205 (w.heap.size + 1 + 1) ∧ ZF w205 gA (Flo.cop .sub FA G) ∧ ZF w205 gB (Flo.cop .add FD G) ∧ w205.heap[ge1]? = some (.cells #[.int .i64 3, .int .i64 0, .float .f64 0, .string ka, .slice none 0 0, .int .i64 2, .int .i64 0, .float .f64 (Flo.cop .sub FA G), .string ⟨#[]⟩, .slice none 0 0] 27 (0, 0)) ∧ w205.heap[ge2]? = some (.cells #[.int .i64 3, .int .i64 0, .float .f64 0, .string kd, .slice none 0 0, .int .i64 2, .int .i64 0, .float .f64 (Flo.cop .add FD G), .string ⟨#[]⟩, .slice none 0 0] 27 (0, 0)) ∧ (Stay w193.drew.heap.size w203 w205 ∧ w203.heap.size ≤ w205.heap.size) ∧ (Stay w203.heap.size w205 w205 ∧ w205.heap.size ≤ w205.heap.size) ∧ Below w.heap.size w w205 from ⟨TC7.out.1, TC7.out.2.1, TC7.out.2.2.1, TC7.out.2.2.2.1, TC7.out.2.2.2.2.1, TC7.out.2.2.2.2.2.1, TC7.out.2.2.2.2.2.2.1, TC7.out.2.2.2.2.2.2.2.1, ⟨stay_refl _ _, Nat.le_refl _⟩, TC7.out.2.2.2.2.2.2.2.2⟩)
  clear TC7
  have HY := Lib.hid hy7
  clear hy7 hrow2
  clear hbw205
  go_wp2_with fail
  refine hK.out _ _ ?hsv204_ (fun hH => ?_)
  case hsv204_ => exact ⟨rc TC8.out.1 0, rc TC8.out.1 1, rc TC8.out.1 2, rc TC8.out.1 3, rc TC8.out.1 4, rc TC8.out.2.2.2.1 0, rc TC8.out.2.2.2.1 1, rc TC8.out.2.2.2.1 2, rc TC8.out.2.2.2.1 3, rc TC8.out.2.2.2.1 4, rc TC8.out.2.2.2.2.1 0, rc TC8.out.2.2.2.2.1 1, rc TC8.out.2.2.2.2.1 2, rc TC8.out.2.2.2.2.1 3, rc TC8.out.2.2.2.2.1 4⟩
  clear hK K
  (try simp only [Act.put, pk0, pk1, pk2])
  refine zr1 10 (by kernel_rfl) (by simp only [lk0, lk1, lk2]; rfl) (fun K hK => ?_)
  obtain ⟨b30, b31, b32, b33, b34, b3f, b3l⟩ := r7 TC8.out.2.1; go_simp
  have TC9 := Lib.hid (show (fun z0 : World => ZL z0 w.heap.size (some ⟨b, off, none⟩) l c ∧ ZL z0 (w.heap.size + 1) p7 l c7 ∧ Zz z0 (w.heap.size + 1 + 1) ∧ ZF z0 gA (Flo.cop .sub FA G) ∧ ZF z0 gB (Flo.cop .add FD G) ∧ z0.heap[ge1]? = some (.cells #[.int .i64 3, .int .i64 0, .float .f64 0, .string ka, .slice none 0 0, .int .i64 2, .int .i64 0, .float .f64 (Flo.cop .sub FA G), .string ⟨#[]⟩, .slice none 0 0] 27 (0, 0)) ∧ z0.heap[ge2]? = some (.cells #[.int .i64 3, .int .i64 0, .float .f64 0, .string kd, .slice none 0 0, .int .i64 2, .int .i64 0, .float .f64 (Flo.cop .add FD G), .string ⟨#[]⟩, .slice none 0 0] 27 (0, 0)) ∧ (Stay w193.drew.heap.size w203 z0 ∧ w203.heap.size ≤ z0.heap.size) ∧ (Stay w203.heap.size w205 z0 ∧ w205.heap.size ≤ z0.heap.size) ∧ Below w.heap.size w z0) (((((w205.setCell ⟨w.heap.size + 1, 0, none⟩ (.int .i64 4)).setCell ⟨w.heap.size + 1, 1, none⟩ (.int .i64 0)).setCell ⟨w.heap.size + 1, 2, none⟩ (.float .f64 0)).setCell ⟨w.heap.size + 1, 3, none⟩ (.string ⟨#[]⟩)).setCell ⟨w.heap.size + 1, 4, none⟩ (.slice p7 l c7)) from ⟨s5o TC8.out.1 (by omega), s5r TC8.out.2.1, s5o TC8.out.2.2.1 (by omega), s5o TC8.out.2.2.2.1 (by omega), s5o TC8.out.2.2.2.2.1 (by omega), s5o TC8.out.2.2.2.2.2.1 (by omega), s5o TC8.out.2.2.2.2.2.2.1 (by omega), ⟨stay_set TC8.out.2.2.2.2.2.2.2.1.1 (by omega) (.int .i64 4) (.int .i64 0) (.float .f64 0) (.string ⟨#[]⟩) (.slice p7 l c7), by show _ ≤ (set5 w205 (w.heap.size + 1) 0 (.int .i64 4) (.int .i64 0) (.float .f64 0) (.string ⟨#[]⟩) (.slice p7 l c7)).heap.size; rw [set5_size]; exact TC8.out.2.2.2.2.2.2.2.1.2⟩, ⟨stay_set TC8.out.2.2.2.2.2.2.2.2.1.1 (by omega) (.int .i64 4) (.int .i64 0) (.float .f64 0) (.string ⟨#[]⟩) (.slice p7 l c7), by show _ ≤ (set5 w205 (w.heap.size + 1) 0 (.int .i64 4) (.int .i64 0) (.float .f64 0) (.string ⟨#[]⟩) (.slice p7 l c7)).heap.size; rw [set5_size]; exact TC8.out.2.2.2.2.2.2.2.2.1.2⟩, s5b TC8.out.2.2.2.2.2.2.2.2.2 (by omega)⟩)
  clear TC8
  clear b30 b31 b32 b33 b34 b3f b3l
  go_wp2_with fail
  refine hK.out _ _ ?hsv206_ (fun hH => ?_)
  case hsv206_ => exact ⟨rc TC9.out.1 0, rc TC9.out.1 1, rc TC9.out.1 2, rc TC9.out.1 3, rc TC9.out.1 4, rc TC9.out.2.2.2.1 0, rc TC9.out.2.2.2.1 1, rc TC9.out.2.2.2.1 2, rc TC9.out.2.2.2.1 3, rc TC9.out.2.2.2.1 4, rc TC9.out.2.2.2.2.1 0, rc TC9.out.2.2.2.2.1 1, rc TC9.out.2.2.2.2.1 2, rc TC9.out.2.2.2.2.1 3, rc TC9.out.2.2.2.2.1 4⟩
  clear hK K
  (try simp only [Act.put, pk0, pk1, pk2])
  refine zr1 11 (by kernel_rfl) (by simp only [lk0, lk1, lk2]; rfl) (fun K hK => ?_)
  obtain ⟨b30, b31, b32, b33, b34, b3f, b3l⟩ := r7 TC9.out.2.2.1; go_simp
  have TC10 := Lib.hid (show (fun z0 : World => ZL z0 w.heap.size (some ⟨b, off, none⟩) l c ∧ ZL z0 (w.heap.size + 1) p7 l c7 ∧ ZF z0 (w.heap.size + 1 + 1) (Flo.cop .sub FA G) ∧ ZF z0 gA (Flo.cop .sub FA G) ∧ ZF z0 gB (Flo.cop .add FD G) ∧ z0.heap[ge1]? = some (.cells #[.int .i64 3, .int .i64 0, .float .f64 0, .string ka, .slice none 0 0, .int .i64 2, .int .i64 0, .float .f64 (Flo.cop .sub FA G), .string ⟨#[]⟩, .slice none 0 0] 27 (0, 0)) ∧ z0.heap[ge2]? = some (.cells #[.int .i64 3, .int .i64 0, .float .f64 0, .string kd, .slice none 0 0, .int .i64 2, .int .i64 0, .float .f64 (Flo.cop .add FD G), .string ⟨#[]⟩, .slice none 0 0] 27 (0, 0)) ∧ (Stay w193.drew.heap.size w203 z0 ∧ w203.heap.size ≤ z0.heap.size) ∧ (Stay w203.heap.size w205 z0 ∧ w205.heap.size ≤ z0.heap.size) ∧ Below w.heap.size w z0) ((((((((((w205.setCell ⟨w.heap.size + 1, 0, none⟩ (.int .i64 4)).setCell ⟨w.heap.size + 1, 1, none⟩ (.int .i64 0)).setCell ⟨w.heap.size + 1, 2, none⟩ (.float .f64 0)).setCell ⟨w.heap.size + 1, 3, none⟩ (.string ⟨#[]⟩)).setCell ⟨w.heap.size + 1, 4, none⟩ (.slice p7 l c7)).setCell ⟨w.heap.size + 1 + 1, 0, none⟩ (.int .i64 2)).setCell ⟨w.heap.size + 1 + 1, 1, none⟩ (.int .i64 0)).setCell ⟨w.heap.size + 1 + 1, 2, none⟩ (.float .f64 (Flo.cop .sub FA G))).setCell ⟨w.heap.size + 1 + 1, 3, none⟩ (.string ⟨#[]⟩)).setCell ⟨w.heap.size + 1 + 1, 4, none⟩ (.slice none 0 0)) from ⟨s5o TC9.out.1 (by omega), s5o TC9.out.2.1 (by omega), s5r TC9.out.2.2.1, s5o TC9.out.2.2.2.1 (by omega), s5o TC9.out.2.2.2.2.1 (by omega), s5o TC9.out.2.2.2.2.2.1 (by omega), s5o TC9.out.2.2.2.2.2.2.1 (by omega), ⟨stay_set TC9.out.2.2.2.2.2.2.2.1.1 (by omega) (.int .i64 2) (.int .i64 0) (.float .f64 (Flo.cop .sub FA G)) (.string ⟨#[]⟩) (.slice none 0 0), by show _ ≤ (set5 (((((w205.setCell ⟨w.heap.size + 1, 0, none⟩ (.int .i64 4)).setCell ⟨w.heap.size + 1, 1, none⟩ (.int .i64 0)).setCell ⟨w.heap.size + 1, 2, none⟩ (.float .f64 0)).setCell ⟨w.heap.size + 1, 3, none⟩ (.string ⟨#[]⟩)).setCell ⟨w.heap.size + 1, 4, none⟩ (.slice p7 l c7)) (w.heap.size + 1 + 1) 0 (.int .i64 2) (.int .i64 0) (.float .f64 (Flo.cop .sub FA G)) (.string ⟨#[]⟩) (.slice none 0 0)).heap.size; rw [set5_size]; exact TC9.out.2.2.2.2.2.2.2.1.2⟩, ⟨stay_set TC9.out.2.2.2.2.2.2.2.2.1.1 (by omega) (.int .i64 2) (.int .i64 0) (.float .f64 (Flo.cop .sub FA G)) (.string ⟨#[]⟩) (.slice none 0 0), by show _ ≤ (set5 (((((w205.setCell ⟨w.heap.size + 1, 0, none⟩ (.int .i64 4)).setCell ⟨w.heap.size + 1, 1, none⟩ (.int .i64 0)).setCell ⟨w.heap.size + 1, 2, none⟩ (.float .f64 0)).setCell ⟨w.heap.size + 1, 3, none⟩ (.string ⟨#[]⟩)).setCell ⟨w.heap.size + 1, 4, none⟩ (.slice p7 l c7)) (w.heap.size + 1 + 1) 0 (.int .i64 2) (.int .i64 0) (.float .f64 (Flo.cop .sub FA G)) (.string ⟨#[]⟩) (.slice none 0 0)).heap.size; rw [set5_size]; exact TC9.out.2.2.2.2.2.2.2.2.1.2⟩, s5b TC9.out.2.2.2.2.2.2.2.2.2 (by omega)⟩)
  clear TC9
  clear b30 b31 b32 b33 b34 b3f b3l
  go_wp2_with fail
  refine hK.out _ _ ?hsv207_ (fun hH => ?_)
  case hsv207_ => exact ⟨rc TC10.out.1 0, rc TC10.out.1 1, rc TC10.out.1 2, rc TC10.out.1 3, rc TC10.out.1 4, rc TC10.out.2.2.2.1 0, rc TC10.out.2.2.2.1 1, rc TC10.out.2.2.2.1 2, rc TC10.out.2.2.2.1 3, rc TC10.out.2.2.2.1 4, rc TC10.out.2.2.2.2.1 0, rc TC10.out.2.2.2.2.1 1, rc TC10.out.2.2.2.2.1 2, rc TC10.out.2.2.2.2.1 3, rc TC10.out.2.2.2.2.1 4⟩
  clear hK K
  (try simp only [Act.put, pk0, pk1, pk2])
  refine zt [12] ?_
  refine zt1 (fun _ _ d _ _ h => by cases d <;> exact h) (by simp only [lk0, lk1, lk2]; rfl) (by kernel_rfl) (by assumption) (by rfl) (fun w h => by (try dsimp only at h); go_simp; (try with_reducible rfl)) ?_; (try simp only [Act.put, pk0, pk1, pk2])
  refine zt0 ?_
  refine wpAnyH_done (by kernel_rfl) ?_ _
  revert TC10
  generalize ((((((((((w205.setCell ⟨w.heap.size + 1, 0, none⟩ (.int .i64 4)).setCell ⟨w.heap.size + 1, 1, none⟩ (.int .i64 0)).setCell ⟨w.heap.size + 1, 2, none⟩ (.float .f64 0)).setCell ⟨w.heap.size + 1, 3, none⟩ (.string ⟨#[]⟩)).setCell ⟨w.heap.size + 1, 4, none⟩ (.slice p7 l c7)).setCell ⟨w.heap.size + 1 + 1, 0, none⟩ (.int .i64 2)).setCell ⟨w.heap.size + 1 + 1, 1, none⟩ (.int .i64 0)).setCell ⟨w.heap.size + 1 + 1, 2, none⟩ (.float .f64 (Flo.cop .sub FA G))).setCell ⟨w.heap.size + 1 + 1, 3, none⟩ (.string ⟨#[]⟩)).setCell ⟨w.heap.size + 1 + 1, 4, none⟩ (.slice none 0 0)) = Wf
  intro TC10
  obtain ⟨c1_0, c1_1, c1_2, c1_3, c1_4, c1f, c1l⟩ := r7 TC10.out.2.1
  obtain ⟨c2_0, c2_1, c2_2, c2_3, c2_4, c2f, c2l⟩ := r7 TC10.out.2.2.1
  go_wp2
  refine bodyPost_ret (v := .tuple #[.agg #[.int .i64 4, .int .i64 0, .float .f64 0, .string ⟨#[]⟩, .slice p7 l c7], .agg #[.int .i64 2, .int .i64 0, .float .f64 (Flo.cop .sub FA G), .string ⟨#[]⟩, .slice none 0 0], .int .i64 0]) (by simp [results, Tryz.results38, go_sem, c1_0, c1_1, c1_2, c1_3, c1_4, c2_0, c2_1, c2_2, c2_3, c2_4]) rfl ⟨_, _, rfl, TC10.out.2.2.2.2.2.2.2.2.2, fun y _ hRy hst => ?_, fun y => flo_repn 0 y (Flo.cop_lt _ _ _)⟩
  have hr1 := (hst ge1 (by omega) (row_lt TC10.out.2.2.2.2.2.1)).trans TC10.out.2.2.2.2.2.1
  have hr2 := (hst ge2 (by omega) (row_lt TC10.out.2.2.2.2.2.2.1)).trans TC10.out.2.2.2.2.2.2.1
  have hY := HY.out y (fun b h1 h2 => (hst b (by omega) (Nat.lt_of_lt_of_le h2 TC10.out.2.2.2.2.2.2.2.2.1.2)).trans (TC10.out.2.2.2.2.2.2.2.2.1.1 b h1 h2))
  refine list_rep ?_
  rw [List.map_set, List.map_set]
  exact repL_mono (ro_rep3 hRy hr1 hr2 (txt_repn 0 _ (nm_size hna)) (flo_repn 0 _ (Flo.cop_lt _ _ _)) (txt_repn 0 _ (nm_size hnd)) (flo_repn 0 _ (Flo.cop_lt _ _ _))) hY
end Num
end Go.Proofs.YtpbfaffheigjcaaGreat
/-
  The reference: Do of a transfer on ledgers of floats.
-/
namespace Go.Proofs.YtpbfaffheigjcaaGreat
open Go.RowKit
namespace Num
open Ints
set_option linter.unusedSimpArgs false
set_option linter.unusedVariables false
theorem names_ne {NS : List ByteArray} (hn : Names NS) {a d : Nat} (ha : a < NS.length) (hd : d < NS.length) (h : a ≠ d) : (NS[a].toList == NS[d].toList) = false := by
  rcases Nat.lt_or_gt_of_ne h with h1 | h1
  · have h2 := ltB_ne (hn.2 a d ha hd h1)
    rw [beq_eq_false_iff_ne] at h2 ⊢
    exact fun e => h2 e.symm
  · exact ltB_ne (hn.2 d a hd ha h1)
theorem gr_small {n : Nat} {X : VT n} (h : partsT n X ≤ 1000) (dp : Nat) : greatP n dp X = false := by
  unfold greatP; rw [decide_eq_false_iff_not]; omega
end Num
end Go.Proofs.YtpbfaffheigjcaaGreat
/-
  The reference: Do of a ledger by any method, as far as the law of totals asks.
-/
namespace Go.Proofs.YtpbfaffheigjcaaGreat
open Go.RowKit
namespace Num
open Ints
set_option linter.unusedSimpArgs false
set_option linter.unusedVariables false
def Box5 (v : Value) : Prop := (∃ (K I : Int) (F : Nat) (S : ByteArray) (q : Option Addr) (m d : Nat), v = .agg #[.int .i64 K, .int .i64 I, .float .f64 F, .string S, .slice q m d])
def RLW (W : World) (R : Value → VT 2 → Prop) (p : Option Addr) (l c : Nat) (L : List (VT 2)) (e : Ending) (w' : World) : Prop := ∃ t u z, e = .returned (.tuple #[t, u, .int .i64 z]) ∧ Below W.heap.size W w' ∧ Box5 t ∧ Box5 u ∧ (z = 0 → ∃ AS, OkA AS ∧ ∀ y, RepL y R p l c L → (∀ v T, R v T → Rep y 2 v T) → Stay W.heap.size w' y → Rep y 3 t (tableT 0 (ledA AS)))
theorem box_of {w : World} {n : Nat} {v : Value} {T : VT n} (h : Rep w n v T) : Box5 v := by
  obtain ⟨K, I, F, S, q, m, d, rfl, _⟩ := rep_shape h
  exact ⟨K, I, F, S, q, m, d, rfl⟩
theorem rlw_of {W : World} {R : Value → VT 2 → Prop} {p : Option Addr} {l c : Nat} {L : List (VT 2)} {T : VT 3} {U : VT 1} {z : Int} {e : Ending} {w' : World} (h : RLQ W R p l c L T U z e w') (hL : RepL W R p l c L) (hR : ∀ W', Below W.heap.size W W' → ∀ v X, R v X → Rep W' 2 v X) (hz : z = 0 → ∃ AS, OkA AS ∧ T = tableT 0 (ledA AS)) : RLW W R p l c L e w' := by
  obtain ⟨t, u, rfl, hb, ht, hu⟩ := h
  refine ⟨t, u, z, rfl, hb, box_of (ht w' (repL_at hb hL) (hR _ hb) (stay_refl _ _)), box_of (hu w'), fun h0 => ?_⟩
  obtain ⟨AS, hok, rfl⟩ := hz h0
  exact ⟨AS, hok, ht⟩
def RDoW (w : World) (e : Ending) (w' : World) : Prop := ∃ t u z, e = .returned (.tuple #[t, u, .int .i64 z]) ∧ Below w.heap.size w w' ∧ Box5 t ∧ Box5 u ∧ (z = 0 → ∃ AS, OkA AS ∧ ∀ y, Stay w.heap.size w' y → Rep y 3 t (tableT 0 (ledA AS)))
theorem repL_accn {w w' : World} {n : Nat} {p : Option Addr} {l c : Nat} {L : List (VT n)} (hb : Below w.heap.size w w') (h : RepL w (Rep w n) p l c L) : RepL w' (Rep w' n) p l c L := repL_keep hb (fun v T hv => rep_keep hb _ _ _ hv) h
set_option maxRecDepth 100000 in
set_option maxHeartbeats 8000000 in
theorem rdo_chk (p : Option Addr) (l c : Nat) (ms : ByteArray) (pl : Option Addr) (ll cl : Nat) (w : World) (AS : List (ByteArray × Nat)) (hok : OkA AS) (HSR : Hid (Rep w 3 (.agg #[.int .i64 4, .int .i64 0, .float .f64 0, .string ⟨#[]⟩, .slice p l c]) (tableT 0 (ledA AS)))) (zk : Int) (hz : (zk != 0) = true) (HK : Hid (∀ W, Below w.heap.size w W → Calls Tryz.prog 31 #[.string { data := #[108, 101, 100, 103, 101, 114] }, .string ms, .slice pl ll cl] W fun e w' => e = .returned (.int .i64 zk) ∧ Below W.heap.size W w')) :
    Calls Tryz.prog 13 #[.string { data := #[108, 101, 100, 103, 101, 114] }, .agg #[.int .i64 4, .int .i64 0, .float .f64 0, .string ⟨#[]⟩, .slice p l c], .string ms, .slice pl ll cl] w fun e w' => RDoW w e w' := by
  have HR := Lib.hid (fun W (hb : Below w.heap.size w W) => rright_led 0 _ _ W (rep_keep hb _ _ _ HSR.out) (okA_R hok))
  clear HSR hok
  have TR1 := Lib.hid (show (fun z0 : World => ZL z0 w.heap.size p l c ∧ Zz z0 (w.heap.size + 1) ∧ Zz z0 (w.heap.size + 1 + 1) ∧ Below w.heap.size w z0) (((w.alloc (.cells #[.int .i64 4, .int .i64 0, .float .f64 0, .string ⟨#[]⟩, .slice p l c] 27)).alloc (.cells #[.int .i64 0, .int .i64 0, .float .f64 0, .string ⟨#[]⟩, .slice none 0 0] 27)).alloc (.cells #[.int .i64 0, .int .i64 0, .float .f64 0, .string ⟨#[]⟩, .slice none 0 0] 27)) from ⟨row_alloc_step (row_alloc_step (row_alloc w #[.int .i64 4, .int .i64 0, .float .f64 0, .string ⟨#[]⟩, .slice p l c] 27) _) _, (row_alloc_step (ra (by simp only [World.size_alloc, World.size_drew])) _), (ra (by simp only [World.size_alloc, World.size_drew])), bel_alloc (bel_alloc (bel_alloc (Below.refl w.heap.size w) _) _) _⟩)
  go_enter Tryz.func13, Tryz.ntmps13
  go_wp2_with fail
  go_at_call 17; refine (HR.out _ TR1.out.2.2.2).mono ?_; rintro e w1 ⟨rfl, hbw1⟩
  have TR2 := Lib.hid (And.intro (row_step TR1.out.1 hbw1) (And.intro (row_step TR1.out.2.1 hbw1) (And.intro (row_step TR1.out.2.2.1 hbw1) (bel_step TR1.out.2.2.2 hbw1))))
  clear TR1
  clear hbw1
  go_wp2_with fail
  go_at_call 31; refine (HK.out _ TR2.out.2.2.2).mono ?_; rintro e w2 ⟨rfl, hbw2⟩
  have TR3 := Lib.hid (And.intro (row_step TR2.out.1 hbw2) (And.intro (row_step TR2.out.2.1 hbw2) (And.intro (row_step TR2.out.2.2.1 hbw2) (bel_step TR2.out.2.2.2 hbw2))))
  clear TR2
  clear hbw2
  have hzn : ¬ zk = 0 := fun e => by rw [e] at hz; cases hz
  go_wp2_with fail
  go_at_call 30; refine (no_any _ _).mono ?_; rintro e w3 ⟨rfl, hbw3⟩
  have TR4 := Lib.hid (And.intro (row_step TR3.out.1 hbw3) (And.intro (row_step TR3.out.2.1 hbw3) (And.intro (row_step TR3.out.2.2.1 hbw3) (bel_step TR3.out.2.2.2 hbw3))))
  clear TR3
  clear hbw3
  obtain ⟨c1_0, c1_1, c1_2, c1_3, c1_4, c1f, c1l⟩ := r7 TR4.out.2.1
  obtain ⟨c2_0, c2_1, c2_2, c2_3, c2_4, c2f, c2l⟩ := r7 TR4.out.2.2.1
  go_wp2
  refine bodyPost_ret (v := .tuple #[.agg #[.int .i64 0, .int .i64 0, .float .f64 0, .string ⟨#[]⟩, .slice none 0 0], .agg #[.int .i64 0, .int .i64 0, .float .f64 0, .string ⟨#[]⟩, .slice none 0 0], .int .i64 zk]) (by simp [results, Tryz.results13, go_sem, World.cell?_setCell_same, World.cell?_setCell_other, c1_0, c1_1, c1_2, c1_3, c1_4, c2_0, c2_1, c2_2, c2_3, c2_4]) rfl ⟨_, _, _, rfl, ?_, ⟨_, _, _, _, _, _, _, rfl⟩, ⟨_, _, _, _, _, _, _, rfl⟩, fun h0 => absurd h0 hzn⟩
  exact set5_below (g := w.heap.size + 1 + 1) (o := 0) (set5_below (g := w.heap.size + 1) (o := 0) TR4.out.2.2.2 (by omega) _ _ _ _ _) (by omega) _ _ _ _ _
set_option maxRecDepth 100000 in
set_option maxHeartbeats 8000000 in
theorem rdo_any (p : Option Addr) (l c : Nat) (ms : ByteArray) (pl : Option Addr) (ll cl : Nat) (w : World) (AS : List (ByteArray × Nat)) (hok : OkA AS) (HSR : Hid (Rep w 3 (.agg #[.int .i64 4, .int .i64 0, .float .f64 0, .string ⟨#[]⟩, .slice p l c]) (tableT 0 (ledA AS)))) (HK : Hid (∀ W, Below w.heap.size w W → Calls Tryz.prog 31 #[.string { data := #[108, 101, 100, 103, 101, 114] }, .string ms, .slice pl ll cl] W fun e w' => e = .returned (.int .i64 0) ∧ Below W.heap.size W w'))
    (n : Nat) (NL : List (VT n)) (HNL : Hid (RepL w (Rep w n) pl ll cl NL)) (hgn : ∀ x ∈ NL, greatP n 0 x = false) (hll : ll ≤ 1000)
    (HLG : Hid (∀ (W : World) (R : Value → VT 2 → Prop) (q : Option Addr) (m d : Nat) (pa : Option Addr) (la ca : Nat), One5 R → RepL W R q m d ((ledA AS).map (pairE 0)) → (∀ W', Below W.heap.size W W' → ∀ v X, R v X → Rep W' 2 v X) → RepL W (Rep W n) pa la ca (NL.map (cleanT n)) → Calls Tryz.prog 38 #[.agg #[.int .i64 4, .int .i64 0, .float .f64 0, .string ⟨#[]⟩, .slice q m d], .string ms, .slice pa la ca] W fun e w' => RLW W R q m d ((ledA AS).map (pairE 0)) e w')) :
    Calls Tryz.prog 13 #[.string { data := #[108, 101, 100, 103, 101, 114] }, .agg #[.int .i64 4, .int .i64 0, .float .f64 0, .string ⟨#[]⟩, .slice p l c], .string ms, .slice pl ll cl] w fun e w' => RDoW w e w' := by
  have HR := Lib.hid (fun W (hb : Below w.heap.size w W) => rright_led 0 _ _ W (rep_keep hb _ _ _ HSR.out) (okA_R hok))
  have HCL := Lib.hid (okA_clean hok)
  have HGR := Lib.hid (gr_small (okA_cln hok).2.1 0)
  have HGN := Lib.hid hgn
  clear hgn hok
  have TR1 := Lib.hid (show (fun z0 : World => ZL z0 w.heap.size p l c ∧ Zz z0 (w.heap.size + 1) ∧ Zz z0 (w.heap.size + 1 + 1) ∧ Below w.heap.size w z0) (((w.alloc (.cells #[.int .i64 4, .int .i64 0, .float .f64 0, .string ⟨#[]⟩, .slice p l c] 27)).alloc (.cells #[.int .i64 0, .int .i64 0, .float .f64 0, .string ⟨#[]⟩, .slice none 0 0] 27)).alloc (.cells #[.int .i64 0, .int .i64 0, .float .f64 0, .string ⟨#[]⟩, .slice none 0 0] 27)) from ⟨row_alloc_step (row_alloc_step (row_alloc w #[.int .i64 4, .int .i64 0, .float .f64 0, .string ⟨#[]⟩, .slice p l c] 27) _) _, (row_alloc_step (ra (by simp only [World.size_alloc, World.size_drew])) _), (ra (by simp only [World.size_alloc, World.size_drew])), bel_alloc (bel_alloc (bel_alloc (Below.refl w.heap.size w) _) _) _⟩)
  go_enter Tryz.func13, Tryz.ntmps13
  go_wp2_with fail
  go_at_call 17; refine (HR.out _ TR1.out.2.2.2).mono ?_; rintro e w4 ⟨rfl, hbw4⟩
  have TR2 := Lib.hid (And.intro (row_step TR1.out.1 hbw4) (And.intro (row_step TR1.out.2.1 hbw4) (And.intro (row_step TR1.out.2.2.1 hbw4) (bel_step TR1.out.2.2.2 hbw4))))
  clear TR1
  clear hbw4
  go_wp2_with fail
  go_at_call 31; refine (HK.out _ TR2.out.2.2.2).mono ?_; rintro e w5 ⟨rfl, hbw5⟩
  have TR3 := Lib.hid (And.intro (row_step TR2.out.1 hbw5) (And.intro (row_step TR2.out.2.1 hbw5) (And.intro (row_step TR2.out.2.2.1 hbw5) (bel_step TR2.out.2.2.2 hbw5))))
  clear TR2
  clear hbw5
  obtain ⟨c0_0, c0_1, c0_2, c0_3, c0_4, c0f, c0l⟩ := r7 TR3.out.1
  have hcB : w.heap.size ≤ w5.heap.size := TR3.out.2.2.2.size
  have hcB0 : w.heap.size < w5.heap.size := row_lt TR3.out.1
  have hcB1 : w.heap.size + 1 < w5.heap.size := row_lt TR3.out.2.1
  have hcB2 : w.heap.size + 1 + 1 < w5.heap.size := row_lt TR3.out.2.2.1
  go_wp2_with fail
  go_at_call 32; refine (clean_anyP 3 0 _ (tableT 0 (ledA AS)) _ HGR.out (rep_keep TR3.out.2.2.2 _ _ _ HSR.out)).mono ?_; rintro e wC ⟨vc, rfl, hbwC, hrep⟩
  have TR4 := Lib.hid (And.intro (row_step TR3.out.1 hbwC) (And.intro (row_step TR3.out.2.1 hbwC) (And.intro (row_step TR3.out.2.2.1 hbwC) (bel_step TR3.out.2.2.2 hbwC))))
  clear TR3
  obtain ⟨Kc, Ic, Fc, Sc, qc, mc, dc, rfl, _⟩ := repS_shape hrep
  rw [HCL.out] at hrep
  obtain ⟨rfl, rfl, rfl, rfl⟩ := led_box hrep
  have TR5 := Lib.hid (show ZL wC w.heap.size p l c ∧ Zz wC (w.heap.size + 1) ∧ Zz wC (w.heap.size + 1 + 1) ∧ (Stay w5.heap.size wC wC ∧ wC.heap.size ≤ wC.heap.size) ∧ Below w.heap.size w wC from ⟨TR4.out.1, TR4.out.2.1, TR4.out.2.2.1, ⟨stay_refl _ _, Nat.le_refl _⟩, TR4.out.2.2.2⟩)
  clear TR4
  have HCC := Lib.hid (repS_lt _ _ _ hrep)
  clear hrep
  clear hbwC
  clear c0_0 c0_1 c0_2 c0_3 c0_4 c0f c0l
  obtain ⟨c0_0, c0_1, c0_2, c0_3, c0_4, c0f, c0l⟩ := r7 TR5.out.1
  go_wp2_with fail
  have TR6 := Lib.hid (show (fun z0 : World => ZL z0 w.heap.size qc mc dc ∧ Zz z0 (w.heap.size + 1) ∧ Zz z0 (w.heap.size + 1 + 1) ∧ (Stay w5.heap.size wC z0 ∧ wC.heap.size ≤ z0.heap.size) ∧ Below w.heap.size w z0) (((((wC.setCell ⟨w.heap.size, 0, none⟩ (.int .i64 4)).setCell ⟨w.heap.size, 1, none⟩ (.int .i64 0)).setCell ⟨w.heap.size, 2, none⟩ (.float .f64 0)).setCell ⟨w.heap.size, 3, none⟩ (.string ⟨#[]⟩)).setCell ⟨w.heap.size, 4, none⟩ (.slice qc mc dc)) from ⟨s5r TR5.out.1, s5o TR5.out.2.1 (by omega), s5o TR5.out.2.2.1 (by omega), ⟨stay_set2 TR5.out.2.2.2.1.1 (by omega) (.int .i64 4) (.int .i64 0) (.float .f64 0) (.string ⟨#[]⟩) (.slice qc mc dc), by show _ ≤ (set5 wC (w.heap.size) 0 (.int .i64 4) (.int .i64 0) (.float .f64 0) (.string ⟨#[]⟩) (.slice qc mc dc)).heap.size; rw [set5_size]; exact TR5.out.2.2.2.1.2⟩, s5b TR5.out.2.2.2.2 (by omega)⟩)
  clear TR5
  clear c0_0 c0_1 c0_2 c0_3 c0_4 c0f c0l
  go_at_call 33; refine (cleans_anyP n 0 (clean_anyP n) _ pl ll cl NL HGN.out (repL_accn TR6.out.2.2.2.2 HNL.out) (by omega)).mono ?_; rintro e wL ⟨pa, la, ca, rfl, hbwL, hrep⟩
  have TR7 := Lib.hid (show ZL wL w.heap.size qc mc dc ∧ Zz wL (w.heap.size + 1) ∧ Zz wL (w.heap.size + 1 + 1) ∧ (Stay w5.heap.size wC wL ∧ wC.heap.size ≤ wL.heap.size) ∧ Below w.heap.size w wL from ⟨row_step TR6.out.1 hbwL, row_step TR6.out.2.1 hbwL, row_step TR6.out.2.2.1 hbwL, ⟨stay_trans TR6.out.2.2.2.1.1 TR6.out.2.2.2.1.2 hbwL, Nat.le_trans TR6.out.2.2.2.1.2 hbwL.size⟩, bel_step TR6.out.2.2.2.2 hbwL⟩)
  clear TR6
  have HNA := Lib.hid (repLS_rep hrep)
  clear hrep
  clear hbwL
  obtain ⟨c0_0, c0_1, c0_2, c0_3, c0_4, c0f, c0l⟩ := r7 TR7.out.1
  go_wp2_with fail
  clear c0_0 c0_1 c0_2 c0_3 c0_4 c0f c0l
  have hLb : wC.heap.size ≤ wL.heap.size := TR7.out.2.2.2.1.2
  have hLb0 : w.heap.size < wL.heap.size := row_lt TR7.out.1
  have hLb1 : w.heap.size + 1 < wL.heap.size := row_lt TR7.out.2.1
  have hLb2 : w.heap.size + 1 + 1 < wL.heap.size := row_lt TR7.out.2.2.1
  have TR8 := Lib.hid (show (fun z0 : World => ZL z0 w.heap.size qc mc dc ∧ Zz z0 (w.heap.size + 1) ∧ Zz z0 (w.heap.size + 1 + 1) ∧ Zz z0 wL.heap.size ∧ (Stay w5.heap.size wC z0 ∧ wC.heap.size ≤ z0.heap.size) ∧ Below w.heap.size w z0) (wL.alloc (.cells #[.int .i64 0, .int .i64 0, .float .f64 0, .string ⟨#[]⟩, .slice none 0 0] 27)) from ⟨(row_alloc_step (TR7.out.1) _), (row_alloc_step (TR7.out.2.1) _), (row_alloc_step (TR7.out.2.2.1) _), (ra (by simp only [World.size_alloc, World.size_drew, World.size_setCell])), ⟨stay_trans TR7.out.2.2.2.1.1 TR7.out.2.2.2.1.2 (bel_alloc br _), Nat.le_trans TR7.out.2.2.2.1.2 (bel_alloc br _).size⟩, bel_step TR7.out.2.2.2.2 (bel_alloc br _)⟩)
  have TR9 := Lib.hid (show (fun z0 : World => ZL z0 w.heap.size qc mc dc ∧ Zz z0 (w.heap.size + 1) ∧ Zz z0 (w.heap.size + 1 + 1) ∧ Zz z0 wL.heap.size ∧ Zz z0 (wL.heap.size + 1) ∧ (Stay w5.heap.size wC z0 ∧ wC.heap.size ≤ z0.heap.size) ∧ Below w.heap.size w z0) ((wL.alloc (.cells #[.int .i64 0, .int .i64 0, .float .f64 0, .string ⟨#[]⟩, .slice none 0 0] 27)).alloc (.cells #[.int .i64 0, .int .i64 0, .float .f64 0, .string ⟨#[]⟩, .slice none 0 0] 27)) from ⟨(row_alloc_step (row_alloc_step (TR7.out.1) _) _), (row_alloc_step (row_alloc_step (TR7.out.2.1) _) _), (row_alloc_step (row_alloc_step (TR7.out.2.2.1) _) _), (row_alloc_step (ra (by simp only [World.size_alloc, World.size_drew, World.size_setCell])) _), (ra (by simp only [World.size_alloc, World.size_drew, World.size_setCell])), ⟨stay_trans TR7.out.2.2.2.1.1 TR7.out.2.2.2.1.2 (bel_alloc (bel_alloc br _) _), Nat.le_trans TR7.out.2.2.2.1.2 (bel_alloc (bel_alloc br _) _).size⟩, bel_step TR7.out.2.2.2.2 (bel_alloc (bel_alloc br _) _)⟩)
  have hzl : ((wL.alloc (.cells #[.int .i64 0, .int .i64 0, .float .f64 0, .string ⟨#[]⟩, .slice none 0 0] 27)).alloc (.cells #[.int .i64 0, .int .i64 0, .float .f64 0, .string ⟨#[]⟩, .slice none 0 0] 27)).heap.size = wL.heap.size + 1 + 1 := by simp only [World.size_alloc]
  have hst0 := TR9.out.2.2.2.2.2.1.1
  have hRW : ∀ W, (∀ b, w5.heap.size ≤ b → b < wC.heap.size → W.heap[b]? = wC.heap[b]?) → ∀ v X, (fun v (X : VT 2) => RepS (fun b => w5.heap.size ≤ b ∧ b < wC.heap.size) wC 2 v X) v X → Rep W 2 v X := fun W hW v X hv => repS_rep _ _ _ (repS_keep (fun b hb => hW b hb.1 hb.2) _ _ _ hv)
  have HRW := Lib.hid hRW
  clear hRW
  have HLL := Lib.hid (show RepL ((wL.alloc (.cells #[.int .i64 0, .int .i64 0, .float .f64 0, .string ⟨#[]⟩, .slice none 0 0] 27)).alloc (.cells #[.int .i64 0, .int .i64 0, .float .f64 0, .string ⟨#[]⟩, .slice none 0 0] 27)) (fun v (X : VT 2) => RepS (fun b => w5.heap.size ≤ b ∧ b < wC.heap.size) wC 2 v X) qc mc dc ((ledA AS).map (pairE 0)) from repS_listW HCC.out hst0)
  clear hst0
  go_at_call 38; refine (HLG.out ((wL.alloc (.cells #[.int .i64 0, .int .i64 0, .float .f64 0, .string ⟨#[]⟩, .slice none 0 0] 27)).alloc (.cells #[.int .i64 0, .int .i64 0, .float .f64 0, .string ⟨#[]⟩, .slice none 0 0] 27)) (fun v (X : VT 2) => RepS (fun b => w5.heap.size ≤ b ∧ b < wC.heap.size) wC 2 v X) qc mc dc pa la ca (repS_one _ _ _) HLL.out (fun W' hb v X hv => HRW.out W' (fun b h1 h2 => (hb.block b (Nat.lt_of_lt_of_le h2 (by rw [hzl]; omega))).trans (TR9.out.2.2.2.2.2.1.1 b h1 h2)) v X hv) (repL_accn (bel_alloc (bel_alloc br _) _) HNA.out)).mono ?_; rintro e wD ⟨tt, uu, z, rfl, hbwD, ⟨Kt, It, Ft, St, qt, mt, dt, rfl⟩, ⟨Ku, Iu, Fu, Su, qu, mu, du, rfl⟩, hz⟩
  have TR10 := Lib.hid (show ZL wD w.heap.size qc mc dc ∧ Zz wD (w.heap.size + 1) ∧ Zz wD (w.heap.size + 1 + 1) ∧ Zz wD wL.heap.size ∧ Zz wD (wL.heap.size + 1) ∧ (Stay w5.heap.size wC wD ∧ wC.heap.size ≤ wD.heap.size) ∧ Below w.heap.size w wD from ⟨row_step TR9.out.1 hbwD, row_step TR9.out.2.1 hbwD, row_step TR9.out.2.2.1 hbwD, row_step TR9.out.2.2.2.1 hbwD, row_step TR9.out.2.2.2.2.1 hbwD, ⟨stay_trans TR9.out.2.2.2.2.2.1.1 TR9.out.2.2.2.2.2.1.2 hbwD, Nat.le_trans TR9.out.2.2.2.2.2.1.2 hbwD.size⟩, bel_step TR9.out.2.2.2.2.2.2 hbwD⟩)
  clear TR9
  have TR11 := Lib.hid (show ZL wD w.heap.size qc mc dc ∧ Zz wD (w.heap.size + 1) ∧ Zz wD (w.heap.size + 1 + 1) ∧ Zz wD wL.heap.size ∧ Zz wD (wL.heap.size + 1) ∧ (Stay w5.heap.size wC wD ∧ wC.heap.size ≤ wD.heap.size) ∧ (Stay ((wL.alloc (.cells #[.int .i64 0, .int .i64 0, .float .f64 0, .string ⟨#[]⟩, .slice none 0 0] 27)).alloc (.cells #[.int .i64 0, .int .i64 0, .float .f64 0, .string ⟨#[]⟩, .slice none 0 0] 27)).heap.size wD wD ∧ wD.heap.size ≤ wD.heap.size) ∧ Below w.heap.size w wD from ⟨TR10.out.1, TR10.out.2.1, TR10.out.2.2.1, TR10.out.2.2.2.1, TR10.out.2.2.2.2.1, TR10.out.2.2.2.2.2.1, ⟨stay_refl _ _, Nat.le_refl _⟩, TR10.out.2.2.2.2.2.2⟩)
  clear TR10
  have HZ := Lib.hid hz
  clear hz
  clear hbwD
  obtain hz | rfl : (z != 0) = true ∨ z = 0 := by by_cases h : z = 0; exact Or.inr h; exact Or.inl (by rw [bne_iff_ne]; exact h)
  · have hzn : ¬ z = 0 := fun e => by rw [e] at hz; cases hz
    obtain ⟨c3_0, c3_1, c3_2, c3_3, c3_4, c3f, c3l⟩ := r7 TR11.out.2.2.2.1
    obtain ⟨c4_0, c4_1, c4_2, c4_3, c4_4, c4f, c4l⟩ := r7 TR11.out.2.2.2.2.1
    go_wp2_with fail
    have TR12 := Lib.hid (show (fun z0 : World => ZL z0 w.heap.size qc mc dc ∧ Zz z0 (w.heap.size + 1) ∧ Zz z0 (w.heap.size + 1 + 1) ∧ Zw z0 wL.heap.size (.int .i64 Kt) (.int .i64 It) (.float .f64 Ft) (.string St) (.slice qt mt dt) ∧ Zz z0 (wL.heap.size + 1) ∧ (Stay w5.heap.size wC z0 ∧ wC.heap.size ≤ z0.heap.size) ∧ (Stay ((wL.alloc (.cells #[.int .i64 0, .int .i64 0, .float .f64 0, .string ⟨#[]⟩, .slice none 0 0] 27)).alloc (.cells #[.int .i64 0, .int .i64 0, .float .f64 0, .string ⟨#[]⟩, .slice none 0 0] 27)).heap.size wD z0 ∧ wD.heap.size ≤ z0.heap.size) ∧ Below w.heap.size w z0) (((((wD.setCell ⟨wL.heap.size, 0, none⟩ (.int .i64 Kt)).setCell ⟨wL.heap.size, 1, none⟩ (.int .i64 It)).setCell ⟨wL.heap.size, 2, none⟩ (.float .f64 Ft)).setCell ⟨wL.heap.size, 3, none⟩ (.string St)).setCell ⟨wL.heap.size, 4, none⟩ (.slice qt mt dt)) from ⟨s5o TR11.out.1 (by omega), s5o TR11.out.2.1 (by omega), s5o TR11.out.2.2.1 (by omega), s5r TR11.out.2.2.2.1, s5o TR11.out.2.2.2.2.1 (by omega), ⟨stay_set2 TR11.out.2.2.2.2.2.1.1 (by omega) (.int .i64 Kt) (.int .i64 It) (.float .f64 Ft) (.string St) (.slice qt mt dt), by show _ ≤ (set5 wD (wL.heap.size) 0 (.int .i64 Kt) (.int .i64 It) (.float .f64 Ft) (.string St) (.slice qt mt dt)).heap.size; rw [set5_size]; exact TR11.out.2.2.2.2.2.1.2⟩, ⟨stay_set2 TR11.out.2.2.2.2.2.2.1.1 (by omega) (.int .i64 Kt) (.int .i64 It) (.float .f64 Ft) (.string St) (.slice qt mt dt), by show _ ≤ (set5 wD (wL.heap.size) 0 (.int .i64 Kt) (.int .i64 It) (.float .f64 Ft) (.string St) (.slice qt mt dt)).heap.size; rw [set5_size]; exact TR11.out.2.2.2.2.2.2.1.2⟩, s5b TR11.out.2.2.2.2.2.2.2 (by omega)⟩)
    clear TR11
    have TR13 := Lib.hid (show (fun z0 : World => ZL z0 w.heap.size qc mc dc ∧ Zz z0 (w.heap.size + 1) ∧ Zz z0 (w.heap.size + 1 + 1) ∧ Zw z0 wL.heap.size (.int .i64 Kt) (.int .i64 It) (.float .f64 Ft) (.string St) (.slice qt mt dt) ∧ Zw z0 (wL.heap.size + 1) (.int .i64 Ku) (.int .i64 Iu) (.float .f64 Fu) (.string Su) (.slice qu mu du) ∧ (Stay w5.heap.size wC z0 ∧ wC.heap.size ≤ z0.heap.size) ∧ (Stay ((wL.alloc (.cells #[.int .i64 0, .int .i64 0, .float .f64 0, .string ⟨#[]⟩, .slice none 0 0] 27)).alloc (.cells #[.int .i64 0, .int .i64 0, .float .f64 0, .string ⟨#[]⟩, .slice none 0 0] 27)).heap.size wD z0 ∧ wD.heap.size ≤ z0.heap.size) ∧ Below w.heap.size w z0) ((((((((((wD.setCell ⟨wL.heap.size, 0, none⟩ (.int .i64 Kt)).setCell ⟨wL.heap.size, 1, none⟩ (.int .i64 It)).setCell ⟨wL.heap.size, 2, none⟩ (.float .f64 Ft)).setCell ⟨wL.heap.size, 3, none⟩ (.string St)).setCell ⟨wL.heap.size, 4, none⟩ (.slice qt mt dt)).setCell ⟨wL.heap.size + 1, 0, none⟩ (.int .i64 Ku)).setCell ⟨wL.heap.size + 1, 1, none⟩ (.int .i64 Iu)).setCell ⟨wL.heap.size + 1, 2, none⟩ (.float .f64 Fu)).setCell ⟨wL.heap.size + 1, 3, none⟩ (.string Su)).setCell ⟨wL.heap.size + 1, 4, none⟩ (.slice qu mu du)) from ⟨s5o TR12.out.1 (by omega), s5o TR12.out.2.1 (by omega), s5o TR12.out.2.2.1 (by omega), s5o TR12.out.2.2.2.1 (by omega), s5r TR12.out.2.2.2.2.1, ⟨stay_set2 TR12.out.2.2.2.2.2.1.1 (by omega) (.int .i64 Ku) (.int .i64 Iu) (.float .f64 Fu) (.string Su) (.slice qu mu du), by show _ ≤ (set5 (((((wD.setCell ⟨wL.heap.size, 0, none⟩ (.int .i64 Kt)).setCell ⟨wL.heap.size, 1, none⟩ (.int .i64 It)).setCell ⟨wL.heap.size, 2, none⟩ (.float .f64 Ft)).setCell ⟨wL.heap.size, 3, none⟩ (.string St)).setCell ⟨wL.heap.size, 4, none⟩ (.slice qt mt dt)) (wL.heap.size + 1) 0 (.int .i64 Ku) (.int .i64 Iu) (.float .f64 Fu) (.string Su) (.slice qu mu du)).heap.size; rw [set5_size]; exact TR12.out.2.2.2.2.2.1.2⟩, ⟨stay_set2 TR12.out.2.2.2.2.2.2.1.1 (by omega) (.int .i64 Ku) (.int .i64 Iu) (.float .f64 Fu) (.string Su) (.slice qu mu du), by show _ ≤ (set5 (((((wD.setCell ⟨wL.heap.size, 0, none⟩ (.int .i64 Kt)).setCell ⟨wL.heap.size, 1, none⟩ (.int .i64 It)).setCell ⟨wL.heap.size, 2, none⟩ (.float .f64 Ft)).setCell ⟨wL.heap.size, 3, none⟩ (.string St)).setCell ⟨wL.heap.size, 4, none⟩ (.slice qt mt dt)) (wL.heap.size + 1) 0 (.int .i64 Ku) (.int .i64 Iu) (.float .f64 Fu) (.string Su) (.slice qu mu du)).heap.size; rw [set5_size]; exact TR12.out.2.2.2.2.2.2.1.2⟩, s5b TR12.out.2.2.2.2.2.2.2 (by omega)⟩)
    clear TR12
    clear c3_0 c3_1 c3_2 c3_3 c3_4 c4_0 c4_1 c4_2 c4_3 c4_4 c3f c3l c4f c4l
    go_at_call 30; refine (no_any _ _).mono ?_; rintro e w6 ⟨rfl, hbw6⟩
    have TR14 := Lib.hid (show ZL w6 w.heap.size qc mc dc ∧ Zz w6 (w.heap.size + 1) ∧ Zz w6 (w.heap.size + 1 + 1) ∧ Zw w6 wL.heap.size (.int .i64 Kt) (.int .i64 It) (.float .f64 Ft) (.string St) (.slice qt mt dt) ∧ Zw w6 (wL.heap.size + 1) (.int .i64 Ku) (.int .i64 Iu) (.float .f64 Fu) (.string Su) (.slice qu mu du) ∧ (Stay w5.heap.size wC w6 ∧ wC.heap.size ≤ w6.heap.size) ∧ (Stay ((wL.alloc (.cells #[.int .i64 0, .int .i64 0, .float .f64 0, .string ⟨#[]⟩, .slice none 0 0] 27)).alloc (.cells #[.int .i64 0, .int .i64 0, .float .f64 0, .string ⟨#[]⟩, .slice none 0 0] 27)).heap.size wD w6 ∧ wD.heap.size ≤ w6.heap.size) ∧ Below w.heap.size w w6 from ⟨row_step TR13.out.1 hbw6, row_step TR13.out.2.1 hbw6, row_step TR13.out.2.2.1 hbw6, row_step TR13.out.2.2.2.1 hbw6, row_step TR13.out.2.2.2.2.1 hbw6, ⟨stay_trans TR13.out.2.2.2.2.2.1.1 TR13.out.2.2.2.2.2.1.2 hbw6, Nat.le_trans TR13.out.2.2.2.2.2.1.2 hbw6.size⟩, ⟨stay_trans TR13.out.2.2.2.2.2.2.1.1 TR13.out.2.2.2.2.2.2.1.2 hbw6, Nat.le_trans TR13.out.2.2.2.2.2.2.1.2 hbw6.size⟩, bel_step TR13.out.2.2.2.2.2.2.2 hbw6⟩)
    clear TR13
    clear hbw6
    obtain ⟨c1_0, c1_1, c1_2, c1_3, c1_4, c1f, c1l⟩ := r7 TR14.out.2.1
    obtain ⟨c2_0, c2_1, c2_2, c2_3, c2_4, c2f, c2l⟩ := r7 TR14.out.2.2.1
    go_wp2
    refine bodyPost_ret (v := .tuple #[.agg #[.int .i64 0, .int .i64 0, .float .f64 0, .string ⟨#[]⟩, .slice none 0 0], .agg #[.int .i64 0, .int .i64 0, .float .f64 0, .string ⟨#[]⟩, .slice none 0 0], .int .i64 z]) (by simp [results, Tryz.results13, go_sem, World.cell?_setCell_same, World.cell?_setCell_other, c1_0, c1_1, c1_2, c1_3, c1_4, c2_0, c2_1, c2_2, c2_3, c2_4]) rfl ⟨_, _, _, rfl, ?_, ⟨_, _, _, _, _, _, _, rfl⟩, ⟨_, _, _, _, _, _, _, rfl⟩, fun h0 => absurd h0 hzn⟩
    exact set5_below (g := w.heap.size + 1 + 1) (o := 0) (set5_below (g := w.heap.size + 1) (o := 0) TR14.out.2.2.2.2.2.2.2 (by omega) _ _ _ _ _) (by omega) _ _ _ _ _
  · have c3_0 := rc TR11.out.2.2.2.1 0
    have c3_1 := rc TR11.out.2.2.2.1 1
    have c3_2 := rc TR11.out.2.2.2.1 2
    have c3_3 := rc TR11.out.2.2.2.1 3
    have c3_4 := rc TR11.out.2.2.2.1 4
    have c3f := row_frz TR11.out.2.2.2.1
    have c3l := row_lt TR11.out.2.2.2.1
    obtain ⟨c4_0, c4_1, c4_2, c4_3, c4_4, c4f, c4l⟩ := r7 TR11.out.2.2.2.2.1
    go_upto_region 25 with fail
    have TR12 := Lib.hid (show (fun z0 : World => ZL z0 w.heap.size qc mc dc ∧ Zz z0 (w.heap.size + 1) ∧ Zz z0 (w.heap.size + 1 + 1) ∧ Zw z0 wL.heap.size (.int .i64 Kt) (.int .i64 It) (.float .f64 Ft) (.string St) (.slice qt mt dt) ∧ Zz z0 (wL.heap.size + 1) ∧ (Stay w5.heap.size wC z0 ∧ wC.heap.size ≤ z0.heap.size) ∧ (Stay ((wL.alloc (.cells #[.int .i64 0, .int .i64 0, .float .f64 0, .string ⟨#[]⟩, .slice none 0 0] 27)).alloc (.cells #[.int .i64 0, .int .i64 0, .float .f64 0, .string ⟨#[]⟩, .slice none 0 0] 27)).heap.size wD z0 ∧ wD.heap.size ≤ z0.heap.size) ∧ Below w.heap.size w z0) (((((wD.setCell ⟨wL.heap.size, 0, none⟩ (.int .i64 Kt)).setCell ⟨wL.heap.size, 1, none⟩ (.int .i64 It)).setCell ⟨wL.heap.size, 2, none⟩ (.float .f64 Ft)).setCell ⟨wL.heap.size, 3, none⟩ (.string St)).setCell ⟨wL.heap.size, 4, none⟩ (.slice qt mt dt)) from ⟨s5o TR11.out.1 (by omega), s5o TR11.out.2.1 (by omega), s5o TR11.out.2.2.1 (by omega), s5r TR11.out.2.2.2.1, s5o TR11.out.2.2.2.2.1 (by omega), ⟨stay_set2 TR11.out.2.2.2.2.2.1.1 (by omega) (.int .i64 Kt) (.int .i64 It) (.float .f64 Ft) (.string St) (.slice qt mt dt), by show _ ≤ (set5 wD (wL.heap.size) 0 (.int .i64 Kt) (.int .i64 It) (.float .f64 Ft) (.string St) (.slice qt mt dt)).heap.size; rw [set5_size]; exact TR11.out.2.2.2.2.2.1.2⟩, ⟨stay_set2 TR11.out.2.2.2.2.2.2.1.1 (by omega) (.int .i64 Kt) (.int .i64 It) (.float .f64 Ft) (.string St) (.slice qt mt dt), by show _ ≤ (set5 wD (wL.heap.size) 0 (.int .i64 Kt) (.int .i64 It) (.float .f64 Ft) (.string St) (.slice qt mt dt)).heap.size; rw [set5_size]; exact TR11.out.2.2.2.2.2.2.1.2⟩, s5b TR11.out.2.2.2.2.2.2.2 (by omega)⟩)
    clear TR11
    have TR13 := Lib.hid (show (fun z0 : World => ZL z0 w.heap.size qc mc dc ∧ Zz z0 (w.heap.size + 1) ∧ Zz z0 (w.heap.size + 1 + 1) ∧ Zw z0 wL.heap.size (.int .i64 Kt) (.int .i64 It) (.float .f64 Ft) (.string St) (.slice qt mt dt) ∧ Zw z0 (wL.heap.size + 1) (.int .i64 Ku) (.int .i64 Iu) (.float .f64 Fu) (.string Su) (.slice qu mu du) ∧ (Stay w5.heap.size wC z0 ∧ wC.heap.size ≤ z0.heap.size) ∧ (Stay ((wL.alloc (.cells #[.int .i64 0, .int .i64 0, .float .f64 0, .string ⟨#[]⟩, .slice none 0 0] 27)).alloc (.cells #[.int .i64 0, .int .i64 0, .float .f64 0, .string ⟨#[]⟩, .slice none 0 0] 27)).heap.size wD z0 ∧ wD.heap.size ≤ z0.heap.size) ∧ Below w.heap.size w z0) ((((((((((wD.setCell ⟨wL.heap.size, 0, none⟩ (.int .i64 Kt)).setCell ⟨wL.heap.size, 1, none⟩ (.int .i64 It)).setCell ⟨wL.heap.size, 2, none⟩ (.float .f64 Ft)).setCell ⟨wL.heap.size, 3, none⟩ (.string St)).setCell ⟨wL.heap.size, 4, none⟩ (.slice qt mt dt)).setCell ⟨wL.heap.size + 1, 0, none⟩ (.int .i64 Ku)).setCell ⟨wL.heap.size + 1, 1, none⟩ (.int .i64 Iu)).setCell ⟨wL.heap.size + 1, 2, none⟩ (.float .f64 Fu)).setCell ⟨wL.heap.size + 1, 3, none⟩ (.string Su)).setCell ⟨wL.heap.size + 1, 4, none⟩ (.slice qu mu du)) from ⟨s5o TR12.out.1 (by omega), s5o TR12.out.2.1 (by omega), s5o TR12.out.2.2.1 (by omega), s5o TR12.out.2.2.2.1 (by omega), s5r TR12.out.2.2.2.2.1, ⟨stay_set2 TR12.out.2.2.2.2.2.1.1 (by omega) (.int .i64 Ku) (.int .i64 Iu) (.float .f64 Fu) (.string Su) (.slice qu mu du), by show _ ≤ (set5 (((((wD.setCell ⟨wL.heap.size, 0, none⟩ (.int .i64 Kt)).setCell ⟨wL.heap.size, 1, none⟩ (.int .i64 It)).setCell ⟨wL.heap.size, 2, none⟩ (.float .f64 Ft)).setCell ⟨wL.heap.size, 3, none⟩ (.string St)).setCell ⟨wL.heap.size, 4, none⟩ (.slice qt mt dt)) (wL.heap.size + 1) 0 (.int .i64 Ku) (.int .i64 Iu) (.float .f64 Fu) (.string Su) (.slice qu mu du)).heap.size; rw [set5_size]; exact TR12.out.2.2.2.2.2.1.2⟩, ⟨stay_set2 TR12.out.2.2.2.2.2.2.1.1 (by omega) (.int .i64 Ku) (.int .i64 Iu) (.float .f64 Fu) (.string Su) (.slice qu mu du), by show _ ≤ (set5 (((((wD.setCell ⟨wL.heap.size, 0, none⟩ (.int .i64 Kt)).setCell ⟨wL.heap.size, 1, none⟩ (.int .i64 It)).setCell ⟨wL.heap.size, 2, none⟩ (.float .f64 Ft)).setCell ⟨wL.heap.size, 3, none⟩ (.string St)).setCell ⟨wL.heap.size, 4, none⟩ (.slice qt mt dt)) (wL.heap.size + 1) 0 (.int .i64 Ku) (.int .i64 Iu) (.float .f64 Fu) (.string Su) (.slice qu mu du)).heap.size; rw [set5_size]; exact TR12.out.2.2.2.2.2.2.1.2⟩, s5b TR12.out.2.2.2.2.2.2.2 (by omega)⟩)
    clear TR12
    clear c3_0 c3_1 c3_2 c3_3 c3_4 c4_0 c4_1 c4_2 c4_3 c4_4 c3f c3l c4f c4l
    revert TR13
    generalize ((((((((((wD.setCell ⟨wL.heap.size, 0, none⟩ (.int .i64 Kt)).setCell ⟨wL.heap.size, 1, none⟩ (.int .i64 It)).setCell ⟨wL.heap.size, 2, none⟩ (.float .f64 Ft)).setCell ⟨wL.heap.size, 3, none⟩ (.string St)).setCell ⟨wL.heap.size, 4, none⟩ (.slice qt mt dt)).setCell ⟨wL.heap.size + 1, 0, none⟩ (.int .i64 Ku)).setCell ⟨wL.heap.size + 1, 1, none⟩ (.int .i64 Iu)).setCell ⟨wL.heap.size + 1, 2, none⟩ (.float .f64 Fu)).setCell ⟨wL.heap.size + 1, 3, none⟩ (.string Su)).setCell ⟨wL.heap.size + 1, 4, none⟩ (.slice qu mu du)) = Wx
    intro TR13
    have TR14 := Lib.hid (show ZL Wx.drew w.heap.size qc mc dc ∧ Zz Wx.drew (w.heap.size + 1) ∧ Zz Wx.drew (w.heap.size + 1 + 1) ∧ Zw Wx.drew wL.heap.size (.int .i64 Kt) (.int .i64 It) (.float .f64 Ft) (.string St) (.slice qt mt dt) ∧ Zw Wx.drew (wL.heap.size + 1) (.int .i64 Ku) (.int .i64 Iu) (.float .f64 Fu) (.string Su) (.slice qu mu du) ∧ (Stay w5.heap.size wC Wx.drew ∧ wC.heap.size ≤ Wx.drew.heap.size) ∧ (Stay ((wL.alloc (.cells #[.int .i64 0, .int .i64 0, .float .f64 0, .string ⟨#[]⟩, .slice none 0 0] 27)).alloc (.cells #[.int .i64 0, .int .i64 0, .float .f64 0, .string ⟨#[]⟩, .slice none 0 0] 27)).heap.size wD Wx.drew ∧ wD.heap.size ≤ Wx.drew.heap.size) ∧ Below w.heap.size w Wx.drew from ⟨row_step TR13.out.1 (show Below Wx.heap.size Wx Wx.drew from Below.drew br), row_step TR13.out.2.1 (show Below Wx.heap.size Wx Wx.drew from Below.drew br), row_step TR13.out.2.2.1 (show Below Wx.heap.size Wx Wx.drew from Below.drew br), row_step TR13.out.2.2.2.1 (show Below Wx.heap.size Wx Wx.drew from Below.drew br), row_step TR13.out.2.2.2.2.1 (show Below Wx.heap.size Wx Wx.drew from Below.drew br), ⟨stay_trans TR13.out.2.2.2.2.2.1.1 TR13.out.2.2.2.2.2.1.2 (show Below Wx.heap.size Wx Wx.drew from Below.drew br), Nat.le_trans TR13.out.2.2.2.2.2.1.2 (show Below Wx.heap.size Wx Wx.drew from Below.drew br).size⟩, ⟨stay_trans TR13.out.2.2.2.2.2.2.1.1 TR13.out.2.2.2.2.2.2.1.2 (show Below Wx.heap.size Wx Wx.drew from Below.drew br), Nat.le_trans TR13.out.2.2.2.2.2.2.1.2 (show Below Wx.heap.size Wx Wx.drew from Below.drew br).size⟩, bel_step TR13.out.2.2.2.2.2.2.2 (show Below Wx.heap.size Wx Wx.drew from Below.drew br)⟩)
    clear TR13
    refine wp_region_held_drew (S := (fun z => z.cell? ⟨wL.heap.size, 0, none⟩ = some (.int .i64 Kt) ∧ z.cell? ⟨wL.heap.size, 1, none⟩ = some (.int .i64 It) ∧ z.cell? ⟨wL.heap.size, 2, none⟩ = some (.float .f64 Ft) ∧ z.cell? ⟨wL.heap.size, 3, none⟩ = some (.string St) ∧ z.cell? ⟨wL.heap.size, 4, none⟩ = some (.slice qt mt dt) ∧ z.cell? ⟨wL.heap.size + 1, 0, none⟩ = some (.int .i64 Ku) ∧ z.cell? ⟨wL.heap.size + 1, 1, none⟩ = some (.int .i64 Iu) ∧ z.cell? ⟨wL.heap.size + 1, 2, none⟩ = some (.float .f64 Fu) ∧ z.cell? ⟨wL.heap.size + 1, 3, none⟩ = some (.string Su) ∧ z.cell? ⟨wL.heap.size + 1, 4, none⟩ = some (.slice qu mu du))) (by kernel_rfl) ?_ (fun hH => ?_)
    · exact ⟨rc TR14.out.2.2.2.1 0, rc TR14.out.2.2.2.1 1, rc TR14.out.2.2.2.1 2, rc TR14.out.2.2.2.1 3, rc TR14.out.2.2.2.1 4, rc TR14.out.2.2.2.2.1 0, rc TR14.out.2.2.2.2.1 1, rc TR14.out.2.2.2.2.1 2, rc TR14.out.2.2.2.2.1 3, rc TR14.out.2.2.2.2.1 4⟩
    revert TR14 hH
    generalize Wx.drew = Wd
    intro TR14 hH
    refine zt [0, 1] ?_
    iterate 2 (refine zt1 (fun _ _ d _ _ h => by cases d <;> exact h) (by simp only [lk0, lk1, lk2]; rfl) (by kernel_rfl) (by assumption) (by rfl) (fun w h => by (try dsimp only at h); go_simp; (try with_reducible rfl)) ?_; (try simp only [Act.put, pk0, pk1, pk2]))
    refine zt0 ?_
    refine zr1 2 (by kernel_rfl) (by simp only [lk0, lk1, lk2]; rfl) (fun K hK => ?_)
    obtain ⟨b30, b31, b32, b33, b34, b3f, b3l⟩ := r7 TR14.out.2.1; go_simp
    have TR15 := Lib.hid (show (fun z0 : World => ZL z0 w.heap.size qc mc dc ∧ Zw z0 (w.heap.size + 1) (.int .i64 Kt) (.int .i64 It) (.float .f64 Ft) (.string St) (.slice qt mt dt) ∧ Zz z0 (w.heap.size + 1 + 1) ∧ Zw z0 wL.heap.size (.int .i64 Kt) (.int .i64 It) (.float .f64 Ft) (.string St) (.slice qt mt dt) ∧ Zw z0 (wL.heap.size + 1) (.int .i64 Ku) (.int .i64 Iu) (.float .f64 Fu) (.string Su) (.slice qu mu du) ∧ (Stay w5.heap.size wC z0 ∧ wC.heap.size ≤ z0.heap.size) ∧ (Stay ((wL.alloc (.cells #[.int .i64 0, .int .i64 0, .float .f64 0, .string ⟨#[]⟩, .slice none 0 0] 27)).alloc (.cells #[.int .i64 0, .int .i64 0, .float .f64 0, .string ⟨#[]⟩, .slice none 0 0] 27)).heap.size wD z0 ∧ wD.heap.size ≤ z0.heap.size) ∧ Below w.heap.size w z0) (((((Wd.setCell ⟨w.heap.size + 1, 0, none⟩ (.int .i64 Kt)).setCell ⟨w.heap.size + 1, 1, none⟩ (.int .i64 It)).setCell ⟨w.heap.size + 1, 2, none⟩ (.float .f64 Ft)).setCell ⟨w.heap.size + 1, 3, none⟩ (.string St)).setCell ⟨w.heap.size + 1, 4, none⟩ (.slice qt mt dt)) from ⟨s5o TR14.out.1 (by omega), s5r TR14.out.2.1, s5o TR14.out.2.2.1 (by omega), s5o TR14.out.2.2.2.1 (by omega), s5o TR14.out.2.2.2.2.1 (by omega), ⟨stay_set2 TR14.out.2.2.2.2.2.1.1 (by omega) (.int .i64 Kt) (.int .i64 It) (.float .f64 Ft) (.string St) (.slice qt mt dt), by show _ ≤ (set5 Wd (w.heap.size + 1) 0 (.int .i64 Kt) (.int .i64 It) (.float .f64 Ft) (.string St) (.slice qt mt dt)).heap.size; rw [set5_size]; exact TR14.out.2.2.2.2.2.1.2⟩, ⟨stay_set2 TR14.out.2.2.2.2.2.2.1.1 (by omega) (.int .i64 Kt) (.int .i64 It) (.float .f64 Ft) (.string St) (.slice qt mt dt), by show _ ≤ (set5 Wd (w.heap.size + 1) 0 (.int .i64 Kt) (.int .i64 It) (.float .f64 Ft) (.string St) (.slice qt mt dt)).heap.size; rw [set5_size]; exact TR14.out.2.2.2.2.2.2.1.2⟩, s5b TR14.out.2.2.2.2.2.2.2 (by omega)⟩)
    clear TR14
    clear b30 b31 b32 b33 b34 b3f b3l
    go_wp2_with fail
    refine hK.out _ _ ?hsv9_ (fun hH => ?_)
    case hsv9_ => exact ⟨rc TR15.out.2.2.2.1 0, rc TR15.out.2.2.2.1 1, rc TR15.out.2.2.2.1 2, rc TR15.out.2.2.2.1 3, rc TR15.out.2.2.2.1 4, rc TR15.out.2.2.2.2.1 0, rc TR15.out.2.2.2.2.1 1, rc TR15.out.2.2.2.2.1 2, rc TR15.out.2.2.2.2.1 3, rc TR15.out.2.2.2.2.1 4⟩
    clear hK K
    (try simp only [Act.put, pk0, pk1, pk2])
    refine zr1 3 (by kernel_rfl) (by simp only [lk0, lk1, lk2]; rfl) (fun K hK => ?_)
    obtain ⟨b30, b31, b32, b33, b34, b3f, b3l⟩ := r7 TR15.out.2.2.1; go_simp
    have TR16 := Lib.hid (show (fun z0 : World => ZL z0 w.heap.size qc mc dc ∧ Zw z0 (w.heap.size + 1) (.int .i64 Kt) (.int .i64 It) (.float .f64 Ft) (.string St) (.slice qt mt dt) ∧ Zw z0 (w.heap.size + 1 + 1) (.int .i64 Ku) (.int .i64 Iu) (.float .f64 Fu) (.string Su) (.slice qu mu du) ∧ Zw z0 wL.heap.size (.int .i64 Kt) (.int .i64 It) (.float .f64 Ft) (.string St) (.slice qt mt dt) ∧ Zw z0 (wL.heap.size + 1) (.int .i64 Ku) (.int .i64 Iu) (.float .f64 Fu) (.string Su) (.slice qu mu du) ∧ (Stay w5.heap.size wC z0 ∧ wC.heap.size ≤ z0.heap.size) ∧ (Stay ((wL.alloc (.cells #[.int .i64 0, .int .i64 0, .float .f64 0, .string ⟨#[]⟩, .slice none 0 0] 27)).alloc (.cells #[.int .i64 0, .int .i64 0, .float .f64 0, .string ⟨#[]⟩, .slice none 0 0] 27)).heap.size wD z0 ∧ wD.heap.size ≤ z0.heap.size) ∧ Below w.heap.size w z0) ((((((((((Wd.setCell ⟨w.heap.size + 1, 0, none⟩ (.int .i64 Kt)).setCell ⟨w.heap.size + 1, 1, none⟩ (.int .i64 It)).setCell ⟨w.heap.size + 1, 2, none⟩ (.float .f64 Ft)).setCell ⟨w.heap.size + 1, 3, none⟩ (.string St)).setCell ⟨w.heap.size + 1, 4, none⟩ (.slice qt mt dt)).setCell ⟨w.heap.size + 1 + 1, 0, none⟩ (.int .i64 Ku)).setCell ⟨w.heap.size + 1 + 1, 1, none⟩ (.int .i64 Iu)).setCell ⟨w.heap.size + 1 + 1, 2, none⟩ (.float .f64 Fu)).setCell ⟨w.heap.size + 1 + 1, 3, none⟩ (.string Su)).setCell ⟨w.heap.size + 1 + 1, 4, none⟩ (.slice qu mu du)) from ⟨s5o TR15.out.1 (by omega), s5o TR15.out.2.1 (by omega), s5r TR15.out.2.2.1, s5o TR15.out.2.2.2.1 (by omega), s5o TR15.out.2.2.2.2.1 (by omega), ⟨stay_set2 TR15.out.2.2.2.2.2.1.1 (by omega) (.int .i64 Ku) (.int .i64 Iu) (.float .f64 Fu) (.string Su) (.slice qu mu du), by show _ ≤ (set5 (((((Wd.setCell ⟨w.heap.size + 1, 0, none⟩ (.int .i64 Kt)).setCell ⟨w.heap.size + 1, 1, none⟩ (.int .i64 It)).setCell ⟨w.heap.size + 1, 2, none⟩ (.float .f64 Ft)).setCell ⟨w.heap.size + 1, 3, none⟩ (.string St)).setCell ⟨w.heap.size + 1, 4, none⟩ (.slice qt mt dt)) (w.heap.size + 1 + 1) 0 (.int .i64 Ku) (.int .i64 Iu) (.float .f64 Fu) (.string Su) (.slice qu mu du)).heap.size; rw [set5_size]; exact TR15.out.2.2.2.2.2.1.2⟩, ⟨stay_set2 TR15.out.2.2.2.2.2.2.1.1 (by omega) (.int .i64 Ku) (.int .i64 Iu) (.float .f64 Fu) (.string Su) (.slice qu mu du), by show _ ≤ (set5 (((((Wd.setCell ⟨w.heap.size + 1, 0, none⟩ (.int .i64 Kt)).setCell ⟨w.heap.size + 1, 1, none⟩ (.int .i64 It)).setCell ⟨w.heap.size + 1, 2, none⟩ (.float .f64 Ft)).setCell ⟨w.heap.size + 1, 3, none⟩ (.string St)).setCell ⟨w.heap.size + 1, 4, none⟩ (.slice qt mt dt)) (w.heap.size + 1 + 1) 0 (.int .i64 Ku) (.int .i64 Iu) (.float .f64 Fu) (.string Su) (.slice qu mu du)).heap.size; rw [set5_size]; exact TR15.out.2.2.2.2.2.2.1.2⟩, s5b TR15.out.2.2.2.2.2.2.2 (by omega)⟩)
    clear TR15
    clear b30 b31 b32 b33 b34 b3f b3l
    go_wp2_with fail
    refine hK.out _ _ ?hsv10_ (fun hH => ?_)
    case hsv10_ => exact ⟨rc TR16.out.2.2.2.1 0, rc TR16.out.2.2.2.1 1, rc TR16.out.2.2.2.1 2, rc TR16.out.2.2.2.1 3, rc TR16.out.2.2.2.1 4, rc TR16.out.2.2.2.2.1 0, rc TR16.out.2.2.2.2.1 1, rc TR16.out.2.2.2.2.1 2, rc TR16.out.2.2.2.2.1 3, rc TR16.out.2.2.2.2.1 4⟩
    clear hK K
    (try simp only [Act.put, pk0, pk1, pk2])
    refine zt [4] ?_
    refine zt1 (fun _ _ d _ _ h => by cases d <;> exact h) (by simp only [lk0, lk1, lk2]; rfl) (by kernel_rfl) (by assumption) (by rfl) (fun w h => by (try dsimp only at h); go_simp; (try with_reducible rfl)) ?_; (try simp only [Act.put, pk0, pk1, pk2])
    refine zt0 ?_
    refine wpAnyH_done (by kernel_rfl) ?_ _
    revert TR16
    generalize ((((((((((Wd.setCell ⟨w.heap.size + 1, 0, none⟩ (.int .i64 Kt)).setCell ⟨w.heap.size + 1, 1, none⟩ (.int .i64 It)).setCell ⟨w.heap.size + 1, 2, none⟩ (.float .f64 Ft)).setCell ⟨w.heap.size + 1, 3, none⟩ (.string St)).setCell ⟨w.heap.size + 1, 4, none⟩ (.slice qt mt dt)).setCell ⟨w.heap.size + 1 + 1, 0, none⟩ (.int .i64 Ku)).setCell ⟨w.heap.size + 1 + 1, 1, none⟩ (.int .i64 Iu)).setCell ⟨w.heap.size + 1 + 1, 2, none⟩ (.float .f64 Fu)).setCell ⟨w.heap.size + 1 + 1, 3, none⟩ (.string Su)).setCell ⟨w.heap.size + 1 + 1, 4, none⟩ (.slice qu mu du)) = Wf
    intro TR16
    obtain ⟨c1_0, c1_1, c1_2, c1_3, c1_4, c1f, c1l⟩ := r7 TR16.out.2.1
    obtain ⟨c2_0, c2_1, c2_2, c2_3, c2_4, c2f, c2l⟩ := r7 TR16.out.2.2.1
    go_wp2
    obtain ⟨AS2, hok2, hT⟩ := HZ.out (by first | rfl | trivial)
    refine bodyPost_ret (v := .tuple #[.agg #[.int .i64 Kt, .int .i64 It, .float .f64 Ft, .string St, .slice qt mt dt], .agg #[.int .i64 Ku, .int .i64 Iu, .float .f64 Fu, .string Su, .slice qu mu du], .int .i64 0]) (by simp [results, Tryz.results13, go_sem, c1_0, c1_1, c1_2, c1_3, c1_4, c2_0, c2_1, c2_2, c2_3, c2_4]) rfl ⟨_, _, _, rfl, TR16.out.2.2.2.2.2.2.2, ⟨_, _, _, _, _, _, _, rfl⟩, ⟨_, _, _, _, _, _, _, rfl⟩, fun _ => ⟨AS2, hok2, fun y hy => ?_⟩⟩
    have hy0 : Stay w5.heap.size wC y := fun b h1 h2 => (hy b (by omega) (Nat.lt_of_lt_of_le h2 TR16.out.2.2.2.2.2.1.2)).trans (TR16.out.2.2.2.2.2.1.1 b h1 h2)
    have hy1 : Stay ((wL.alloc (.cells #[.int .i64 0, .int .i64 0, .float .f64 0, .string ⟨#[]⟩, .slice none 0 0] 27)).alloc (.cells #[.int .i64 0, .int .i64 0, .float .f64 0, .string ⟨#[]⟩, .slice none 0 0] 27)).heap.size wD y := fun b h1 h2 => (hy b (by rw [hzl] at h1; omega) (Nat.lt_of_lt_of_le h2 TR16.out.2.2.2.2.2.2.1.2)).trans (TR16.out.2.2.2.2.2.2.1.1 b h1 h2)
    exact hT y (repS_listW HCC.out hy0) (HRW.out y hy0) hy1
end Num
end Go.Proofs.YtpbfaffheigjcaaGreat
/-
  The reference: the names of a ledger, as a method.
-/
namespace Go.Proofs.YtpbfaffheigjcaaGreat
open Go.RowKit
namespace Num
open Ints
set_option linter.unusedSimpArgs false
set_option linter.unusedVariables false
set_option maxRecDepth 100000 in
set_option maxHeartbeats 4000000 in
theorem rnam_ok (l c : Nat) (p p2 : Option Addr) (cl : Nat) (w : World) (R : Value → VT 2 → Prop) (AS : List (ByteArray × Nat)) (hok : OkA AS) (hl : l ≤ 32) (HL : Hid (RepL w R p l c ((ledA AS).map (pairE 0)))) (hRW : ∀ W', Below w.heap.size w W' → ∀ v X, R v X → Rep W' 2 v X) :
    Calls Tryz.prog 38 #[.agg #[.int .i64 4, .int .i64 0, .float .f64 0, .string ⟨#[]⟩, .slice p l c], .string { data := #[110, 97, 109, 101, 115] }, .slice p2 0 cl] w fun e w' => RLW w R p l c ((ledA AS).map (pairE 0)) e w' := by
  have TR1 := Lib.hid (show (fun z0 : World => ZL z0 w.heap.size p l c ∧ Zz z0 (w.heap.size + 1) ∧ Zz z0 (w.heap.size + 1 + 1) ∧ Below w.heap.size w z0) (((w.alloc (.cells #[.int .i64 4, .int .i64 0, .float .f64 0, .string ⟨#[]⟩, .slice p l c] 27)).alloc (.cells #[.int .i64 0, .int .i64 0, .float .f64 0, .string ⟨#[]⟩, .slice none 0 0] 27)).alloc (.cells #[.int .i64 0, .int .i64 0, .float .f64 0, .string ⟨#[]⟩, .slice none 0 0] 27)) from ⟨row_alloc_step (row_alloc_step (row_alloc w #[.int .i64 4, .int .i64 0, .float .f64 0, .string ⟨#[]⟩, .slice p l c] 27) _) _, (row_alloc_step (ra (by simp only [World.size_alloc, World.size_drew])) _), (ra (by simp only [World.size_alloc, World.size_drew])), bel_alloc (bel_alloc (bel_alloc (Below.refl w.heap.size w) _) _) _⟩)
  have HRW := Lib.hid hRW
  clear hRW
  have HOK := Lib.hid hok
  clear hok
  go_enter Tryz.func38, Tryz.ntmps38
  obtain ⟨c0_0, c0_1, c0_2, c0_3, c0_4, c0f, c0l⟩ := r7 TR1.out.1
  go_upto_region 8 with fail
  clear c0_0 c0_1 c0_2 c0_3 c0_4 c0f c0l
  have TR2 := Lib.hid (And.intro (row_step TR1.out.1 (show Below (((w.alloc (.cells #[.int .i64 4, .int .i64 0, .float .f64 0, .string ⟨#[]⟩, .slice p l c] 27)).alloc (.cells #[.int .i64 0, .int .i64 0, .float .f64 0, .string ⟨#[]⟩, .slice none 0 0] 27)).alloc (.cells #[.int .i64 0, .int .i64 0, .float .f64 0, .string ⟨#[]⟩, .slice none 0 0] 27)).heap.size (((w.alloc (.cells #[.int .i64 4, .int .i64 0, .float .f64 0, .string ⟨#[]⟩, .slice p l c] 27)).alloc (.cells #[.int .i64 0, .int .i64 0, .float .f64 0, .string ⟨#[]⟩, .slice none 0 0] 27)).alloc (.cells #[.int .i64 0, .int .i64 0, .float .f64 0, .string ⟨#[]⟩, .slice none 0 0] 27)) (((w.alloc (.cells #[.int .i64 4, .int .i64 0, .float .f64 0, .string ⟨#[]⟩, .slice p l c] 27)).alloc (.cells #[.int .i64 0, .int .i64 0, .float .f64 0, .string ⟨#[]⟩, .slice none 0 0] 27)).alloc (.cells #[.int .i64 0, .int .i64 0, .float .f64 0, .string ⟨#[]⟩, .slice none 0 0] 27)).drew from Below.drew br)) (And.intro (row_step TR1.out.2.1 (show Below (((w.alloc (.cells #[.int .i64 4, .int .i64 0, .float .f64 0, .string ⟨#[]⟩, .slice p l c] 27)).alloc (.cells #[.int .i64 0, .int .i64 0, .float .f64 0, .string ⟨#[]⟩, .slice none 0 0] 27)).alloc (.cells #[.int .i64 0, .int .i64 0, .float .f64 0, .string ⟨#[]⟩, .slice none 0 0] 27)).heap.size (((w.alloc (.cells #[.int .i64 4, .int .i64 0, .float .f64 0, .string ⟨#[]⟩, .slice p l c] 27)).alloc (.cells #[.int .i64 0, .int .i64 0, .float .f64 0, .string ⟨#[]⟩, .slice none 0 0] 27)).alloc (.cells #[.int .i64 0, .int .i64 0, .float .f64 0, .string ⟨#[]⟩, .slice none 0 0] 27)) (((w.alloc (.cells #[.int .i64 4, .int .i64 0, .float .f64 0, .string ⟨#[]⟩, .slice p l c] 27)).alloc (.cells #[.int .i64 0, .int .i64 0, .float .f64 0, .string ⟨#[]⟩, .slice none 0 0] 27)).alloc (.cells #[.int .i64 0, .int .i64 0, .float .f64 0, .string ⟨#[]⟩, .slice none 0 0] 27)).drew from Below.drew br)) (And.intro (row_step TR1.out.2.2.1 (show Below (((w.alloc (.cells #[.int .i64 4, .int .i64 0, .float .f64 0, .string ⟨#[]⟩, .slice p l c] 27)).alloc (.cells #[.int .i64 0, .int .i64 0, .float .f64 0, .string ⟨#[]⟩, .slice none 0 0] 27)).alloc (.cells #[.int .i64 0, .int .i64 0, .float .f64 0, .string ⟨#[]⟩, .slice none 0 0] 27)).heap.size (((w.alloc (.cells #[.int .i64 4, .int .i64 0, .float .f64 0, .string ⟨#[]⟩, .slice p l c] 27)).alloc (.cells #[.int .i64 0, .int .i64 0, .float .f64 0, .string ⟨#[]⟩, .slice none 0 0] 27)).alloc (.cells #[.int .i64 0, .int .i64 0, .float .f64 0, .string ⟨#[]⟩, .slice none 0 0] 27)) (((w.alloc (.cells #[.int .i64 4, .int .i64 0, .float .f64 0, .string ⟨#[]⟩, .slice p l c] 27)).alloc (.cells #[.int .i64 0, .int .i64 0, .float .f64 0, .string ⟨#[]⟩, .slice none 0 0] 27)).alloc (.cells #[.int .i64 0, .int .i64 0, .float .f64 0, .string ⟨#[]⟩, .slice none 0 0] 27)).drew from Below.drew br)) (bel_step TR1.out.2.2.2 (show Below (((w.alloc (.cells #[.int .i64 4, .int .i64 0, .float .f64 0, .string ⟨#[]⟩, .slice p l c] 27)).alloc (.cells #[.int .i64 0, .int .i64 0, .float .f64 0, .string ⟨#[]⟩, .slice none 0 0] 27)).alloc (.cells #[.int .i64 0, .int .i64 0, .float .f64 0, .string ⟨#[]⟩, .slice none 0 0] 27)).heap.size (((w.alloc (.cells #[.int .i64 4, .int .i64 0, .float .f64 0, .string ⟨#[]⟩, .slice p l c] 27)).alloc (.cells #[.int .i64 0, .int .i64 0, .float .f64 0, .string ⟨#[]⟩, .slice none 0 0] 27)).alloc (.cells #[.int .i64 0, .int .i64 0, .float .f64 0, .string ⟨#[]⟩, .slice none 0 0] 27)) (((w.alloc (.cells #[.int .i64 4, .int .i64 0, .float .f64 0, .string ⟨#[]⟩, .slice p l c] 27)).alloc (.cells #[.int .i64 0, .int .i64 0, .float .f64 0, .string ⟨#[]⟩, .slice none 0 0] 27)).alloc (.cells #[.int .i64 0, .int .i64 0, .float .f64 0, .string ⟨#[]⟩, .slice none 0 0] 27)).drew from Below.drew br)))))
  clear TR1
  refine wp_region_held_drew (S := (fun z => z.cell? ⟨w.heap.size, 0, none⟩ = some (.int .i64 4) ∧ z.cell? ⟨w.heap.size, 1, none⟩ = some (.int .i64 0) ∧ z.cell? ⟨w.heap.size, 2, none⟩ = some (.float .f64 0) ∧ z.cell? ⟨w.heap.size, 3, none⟩ = some (.string ⟨#[]⟩) ∧ z.cell? ⟨w.heap.size, 4, none⟩ = some (.slice p l c))) (by kernel_rfl) ?_ (fun hH => ?_)
  · exact ⟨rc TR2.out.1 0, rc TR2.out.1 1, rc TR2.out.1 2, rc TR2.out.1 3, rc TR2.out.1 4⟩
  refine zt [0, 1] ?_
  iterate 2 (refine zt1 (fun _ _ d _ _ h => by cases d <;> exact h) (by simp only [lk0, lk1, lk2]; rfl) (by kernel_rfl) (by assumption) (by rfl) (fun w h => by (try dsimp only at h); go_simp; (try with_reducible rfl)) ?_; (try simp only [Act.put, pk0, pk1, pk2]))
  refine zt0 ?_
  refine zr1 2 (by kernel_rfl) (by simp only [lk0, lk1, lk2]; rfl) (fun K hK => ?_)
  go_simp
  go_at_call 67; refine (rnames_any p l c _ R (ledA AS) (by omega) (Lib.hid (repL_at TR2.out.2.2.2 HL.out)) (HRW.out _ TR2.out.2.2.2)).mono ?_; rintro e w4 ⟨qn, dn, rfl, hbw4⟩
  have TR3 := Lib.hid (And.intro (row_step TR2.out.1 hbw4) (And.intro (row_step TR2.out.2.1 hbw4) (And.intro (row_step TR2.out.2.2.1 hbw4) (bel_step TR2.out.2.2.2 hbw4))))
  clear TR2
  clear hbw4
  go_wp2_with fail
  refine hK.out _ _ ?hsv3_ (fun hH => ?_)
  case hsv3_ => exact ⟨rc TR3.out.1 0, rc TR3.out.1 1, rc TR3.out.1 2, rc TR3.out.1 3, rc TR3.out.1 4⟩
  clear hK K
  (try simp only [Act.put, pk0, pk1, pk2])
  refine zr1 3 (by kernel_rfl) (by simp only [lk0, lk1, lk2]; rfl) (fun K hK => ?_)
  obtain ⟨b30, b31, b32, b33, b34, b3f, b3l⟩ := r7 TR3.out.2.1; go_simp
  have TR4 := Lib.hid (show (fun z0 : World => ZL z0 w.heap.size p l c ∧ ZL z0 (w.heap.size + 1) p l c ∧ Zz z0 (w.heap.size + 1 + 1) ∧ Below w.heap.size w z0) (((((w4.setCell ⟨w.heap.size + 1, 0, none⟩ (.int .i64 4)).setCell ⟨w.heap.size + 1, 1, none⟩ (.int .i64 0)).setCell ⟨w.heap.size + 1, 2, none⟩ (.float .f64 0)).setCell ⟨w.heap.size + 1, 3, none⟩ (.string ⟨#[]⟩)).setCell ⟨w.heap.size + 1, 4, none⟩ (.slice p l c)) from ⟨s5o TR3.out.1 (by omega), s5r TR3.out.2.1, s5o TR3.out.2.2.1 (by omega), s5b TR3.out.2.2.2 (by omega)⟩)
  clear TR3
  clear b30 b31 b32 b33 b34 b3f b3l
  go_wp2_with fail
  refine hK.out _ _ ?hsv5_ (fun hH => ?_)
  case hsv5_ => exact ⟨rc TR4.out.1 0, rc TR4.out.1 1, rc TR4.out.1 2, rc TR4.out.1 3, rc TR4.out.1 4⟩
  clear hK K
  (try simp only [Act.put, pk0, pk1, pk2])
  refine zr1 4 (by kernel_rfl) (by simp only [lk0, lk1, lk2]; rfl) (fun K hK => ?_)
  obtain ⟨b30, b31, b32, b33, b34, b3f, b3l⟩ := r7 TR4.out.2.2.1; go_simp
  have TR5 := Lib.hid (show (fun z0 : World => ZL z0 w.heap.size p l c ∧ ZL z0 (w.heap.size + 1) p l c ∧ ZL z0 (w.heap.size + 1 + 1) qn l dn ∧ Below w.heap.size w z0) ((((((((((w4.setCell ⟨w.heap.size + 1, 0, none⟩ (.int .i64 4)).setCell ⟨w.heap.size + 1, 1, none⟩ (.int .i64 0)).setCell ⟨w.heap.size + 1, 2, none⟩ (.float .f64 0)).setCell ⟨w.heap.size + 1, 3, none⟩ (.string ⟨#[]⟩)).setCell ⟨w.heap.size + 1, 4, none⟩ (.slice p l c)).setCell ⟨w.heap.size + 1 + 1, 0, none⟩ (.int .i64 4)).setCell ⟨w.heap.size + 1 + 1, 1, none⟩ (.int .i64 0)).setCell ⟨w.heap.size + 1 + 1, 2, none⟩ (.float .f64 0)).setCell ⟨w.heap.size + 1 + 1, 3, none⟩ (.string ⟨#[]⟩)).setCell ⟨w.heap.size + 1 + 1, 4, none⟩ (.slice qn l dn)) from ⟨s5o TR4.out.1 (by omega), s5o TR4.out.2.1 (by omega), s5r TR4.out.2.2.1, s5b TR4.out.2.2.2 (by omega)⟩)
  clear TR4
  clear b30 b31 b32 b33 b34 b3f b3l
  go_wp2_with fail
  refine hK.out _ _ ?hsv6_ (fun hH => ?_)
  case hsv6_ => exact ⟨rc TR5.out.1 0, rc TR5.out.1 1, rc TR5.out.1 2, rc TR5.out.1 3, rc TR5.out.1 4⟩
  clear hK K
  (try simp only [Act.put, pk0, pk1, pk2])
  refine zt [5] ?_
  refine zt1 (fun _ _ d _ _ h => by cases d <;> exact h) (by simp only [lk0, lk1, lk2]; rfl) (by kernel_rfl) (by assumption) (by rfl) (fun w h => by (try dsimp only at h); go_simp; (try with_reducible rfl)) ?_; (try simp only [Act.put, pk0, pk1, pk2])
  refine zt0 ?_
  refine wpAnyH_done (by kernel_rfl) ?_ _
  revert TR5
  generalize ((((((((((w4.setCell ⟨w.heap.size + 1, 0, none⟩ (.int .i64 4)).setCell ⟨w.heap.size + 1, 1, none⟩ (.int .i64 0)).setCell ⟨w.heap.size + 1, 2, none⟩ (.float .f64 0)).setCell ⟨w.heap.size + 1, 3, none⟩ (.string ⟨#[]⟩)).setCell ⟨w.heap.size + 1, 4, none⟩ (.slice p l c)).setCell ⟨w.heap.size + 1 + 1, 0, none⟩ (.int .i64 4)).setCell ⟨w.heap.size + 1 + 1, 1, none⟩ (.int .i64 0)).setCell ⟨w.heap.size + 1 + 1, 2, none⟩ (.float .f64 0)).setCell ⟨w.heap.size + 1 + 1, 3, none⟩ (.string ⟨#[]⟩)).setCell ⟨w.heap.size + 1 + 1, 4, none⟩ (.slice qn l dn)) = Wf
  intro TR5
  obtain ⟨c1_0, c1_1, c1_2, c1_3, c1_4, c1f, c1l⟩ := r7 TR5.out.2.1
  obtain ⟨c2_0, c2_1, c2_2, c2_3, c2_4, c2f, c2l⟩ := r7 TR5.out.2.2.1
  go_wp2
  refine bodyPost_ret (v := .tuple #[.agg #[.int .i64 4, .int .i64 0, .float .f64 0, .string ⟨#[]⟩, .slice p l c], .agg #[.int .i64 4, .int .i64 0, .float .f64 0, .string ⟨#[]⟩, .slice qn l dn], .int .i64 0]) (by simp [results, Tryz.results38, go_sem, c1_0, c1_1, c1_2, c1_3, c1_4, c2_0, c2_1, c2_2, c2_3, c2_4]) rfl ⟨_, _, 0, rfl, TR5.out.2.2.2, ⟨_, _, _, _, _, _, _, rfl⟩, ⟨_, _, _, _, _, _, _, rfl⟩, fun _ => ⟨AS, HOK.out, fun y hLy hy _ => list_rep (repL_mono hy hLy)⟩⟩
end Num
end Go.Proofs.YtpbfaffheigjcaaGreat
