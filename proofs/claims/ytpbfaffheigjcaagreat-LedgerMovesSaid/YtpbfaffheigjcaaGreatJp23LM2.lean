/-
  The reference: a transfer that comes to a sum that is not finite.
-/
import Derived.Test.YtpbfaffheigjcaaGreatJMI
import Derived.Test.YtpbfaffheigjcaaGreatJLMr
import Derived.Test.YtpbfaffheigjcaaGreatJp21LM
namespace Go.Proofs.YtpbfaffheigjcaaGreat
open Go.RowKit
namespace Num
open Ints
set_option linter.unusedSimpArgs false
set_option linter.unusedVariables false
set_option maxRecDepth 100000 in
set_option maxHeartbeats 8000000 in
theorem rtra_sum (b off l c a d bl ol cl : Nat) (ka kd : ByteArray) (K3 I3 : Int) (F3 : Nat) (S3 : ByteArray) (q3 : Option Addr) (m3 d3 : Nat) (w : World) (n0 : w.cell? ⟨bl, ol + 3, none⟩ = some (.string ka)) (n1 : w.cell? ⟨bl, ol + 5 + 3, none⟩ = some (.string kd)) (v0 : w.cell? ⟨bl, ol + 10, none⟩ = some (.int .i64 K3)) (v1 : w.cell? ⟨bl, ol + 10 + 1, none⟩ = some (.int .i64 I3)) (v2 : w.cell? ⟨bl, ol + 10 + 2, none⟩ = some (.float .f64 F3)) (v3 : w.cell? ⟨bl, ol + 10 + 3, none⟩ = some (.string S3)) (v4 : w.cell? ⟨bl, ol + 10 + 4, none⟩ = some (.slice q3 m3 d3)) (R : Value → VT 2 → Prop) (ES : List (ByteArray × VT 1)) (G FA : Nat) (ha : amtV K3 I3 F3 = .tuple #[.float .f64 G, .bool true]) (hal : a < l) (hl : l ≤ 32) (HE : Hid (EntsL w (some ⟨b, off, none⟩) l (ES.map (·.1)))) (hs : Spot (ES.map (·.1)) ka a true) (gc oc cgc : Nat) (hc : AccC w b off a ka FA gc oc cgc) (hsd : Spot (ES.map (·.1)) kd d true) (hls : (FloatKind.f64.format.order FA G == some .lt) = false) (hkk : (ka.toList == kd.toList) = false) (hdl : d < l) (FD gd od cgd : Nat) (hcd : AccC w b off d kd FD gd od cgd) (hop1 : ∀ t W, (binOp .sub t (.float .f64 FA) (.float .f64 G)).run Tryz.prog W = .ok (.float .f64 (Flo.cop .sub FA G)) W) (hop2 : ∀ t W, (binOp .add t (.float .f64 FD) (.float .f64 G)).run Tryz.prog W = .ok (.float .f64 (Flo.cop .add FD G)) W) (HCS : Hid (Flo.canon (Flo.cop .sub FA G) = (Flo.cop .sub FA G))) (HCG : Hid (Flo.canon (Flo.cop .add FD G) = (Flo.cop .add FD G))) (hfin : finV 2 (Flo.cop .add FD G) = false) :
    Calls Tryz.prog 38 #[.agg #[.int .i64 4, .int .i64 0, .float .f64 0, .string ⟨#[]⟩, .slice (some ⟨b, off, none⟩) l c], .string { data := #[116, 114, 97, 110, 115, 102, 101, 114] }, .slice (some ⟨bl, ol, none⟩) 3 cl] w fun e w' => RLQ w R (some ⟨b, off, none⟩) l c (ES.map (pairE 0)) (nilT 2) (nilT 0) 35 e w' := by
  have TR1 := Lib.hid (show (fun z0 : World => ZL z0 w.heap.size (some ⟨b, off, none⟩) l c ∧ Zz z0 (w.heap.size + 1) ∧ Zz z0 (w.heap.size + 1 + 1) ∧ Below w.heap.size w z0) (((w.alloc (.cells #[.int .i64 4, .int .i64 0, .float .f64 0, .string ⟨#[]⟩, .slice (some ⟨b, off, none⟩) l c] 27)).alloc (.cells #[.int .i64 0, .int .i64 0, .float .f64 0, .string ⟨#[]⟩, .slice none 0 0] 27)).alloc (.cells #[.int .i64 0, .int .i64 0, .float .f64 0, .string ⟨#[]⟩, .slice none 0 0] 27)) from ⟨row_alloc_step (row_alloc_step (row_alloc w #[.int .i64 4, .int .i64 0, .float .f64 0, .string ⟨#[]⟩, .slice (some ⟨b, off, none⟩) l c] 27) _) _, (row_alloc_step (ra (by simp only [World.size_alloc, World.size_drew])) _), (ra (by simp only [World.size_alloc, World.size_drew])), bel_alloc (bel_alloc (bel_alloc (Below.refl w.heap.size w) _) _) _⟩)
  have hbl : bl < w.heap.size := cell_lt v0
  have HV := Lib.hid (show ∀ W, Below w.heap.size w W → W.cell? ⟨bl, ol + 10, none⟩ = some (.int .i64 K3) ∧ W.cell? ⟨bl, ol + 10 + 1, none⟩ = some (.int .i64 I3) ∧ W.cell? ⟨bl, ol + 10 + 2, none⟩ = some (.float .f64 F3) ∧ W.cell? ⟨bl, ol + 10 + 3, none⟩ = some (.string S3) ∧ W.cell? ⟨bl, ol + 10 + 4, none⟩ = some (.slice q3 m3 d3) from fun W hb => ⟨ck hb v0, ck hb v1, ck hb v2, ck hb v3, ck hb v4⟩)
  have HNN := Lib.hid (show ∀ W, Below w.heap.size w W → W.cell? ⟨bl, ol + 3, none⟩ = some (.string ka) ∧ W.cell? ⟨bl, ol + 5 + 3, none⟩ = some (.string kd) from fun W hb => ⟨ck hb n0, ck hb n1⟩)
  have HA := Lib.hid ha
  clear v0 v1 v2 v3 v4 n0 n1 ha
  have HS := Lib.hid hs
  have HC := Lib.hid hc
  clear hs hc
  have Hc0 := Lib.hid HC.out.1
  have Hc1 := Lib.hid HC.out.2.1
  have Hc2 := Lib.hid HC.out.2.2.1
  have Hc3 := Lib.hid HC.out.2.2.2.1
  have Hc4 := Lib.hid HC.out.2.2.2.2.1
  have Hc5 := Lib.hid HC.out.2.2.2.2.2.1
  have Hc6 := Lib.hid HC.out.2.2.2.2.2.2
  have hbc := cell_lt HC.out.1
  have hgc := cell_lt HC.out.2.2.2.2.2.1
  have hc1 : (0 : Int) ≤ (a : Int) := by omega
  have hc2 : (a : Int) < (l : Int) := by omega
  have HSD := Lib.hid hsd
  have HCd := Lib.hid hcd
  clear hsd hcd
  have Hd0 := Lib.hid HCd.out.1
  have Hd1 := Lib.hid HCd.out.2.1
  have Hd2 := Lib.hid HCd.out.2.2.1
  have Hd3 := Lib.hid HCd.out.2.2.2.1
  have Hd4 := Lib.hid HCd.out.2.2.2.2.1
  have Hd5 := Lib.hid HCd.out.2.2.2.2.2.1
  have Hd6 := Lib.hid HCd.out.2.2.2.2.2.2
  have hbd := cell_lt HCd.out.1
  have hgd := cell_lt HCd.out.2.2.2.2.2.1
  have hd1 : (0 : Int) ≤ (d : Int) := by omega
  have hd2 : (d : Int) < (l : Int) := by omega
  obtain ⟨e0, e1, e2, e3, e4⟩ := HV.out _ TR1.out.2.2.2
  go_enter Tryz.func38, Tryz.ntmps38
  clear e0 e1 e2 e3 e4
  obtain ⟨e0, e1, e2, e3, e4⟩ := HV.out _ br
  have ebl : bl < w.heap.size := cell_lt e0
  have ene0 : w.heap.size ≠ bl := by omega
  have ene1 : w.heap.size + 1 ≠ bl := by omega
  have ene2 : w.heap.size + 1 + 1 ≠ bl := by omega
  have elt1 : bl < w.heap.size + 1 := by omega
  have elt2 : bl < w.heap.size + 1 + 1 := by omega
  go_wp2_with fail
  go_at_call 71; refine (amount_is8 HA.out S3 q3 m3 d3 _).mono ?_; rintro e w185 ⟨rfl, hbw185⟩
  have TR2 := Lib.hid (And.intro (row_step TR1.out.1 hbw185) (And.intro (row_step TR1.out.2.1 hbw185) (And.intro (row_step TR1.out.2.2.1 hbw185) (bel_step TR1.out.2.2.2 hbw185))))
  clear TR1
  clear hbw185
  clear e0 e1 e2 e3 e4
  have en := (HNN.out _ TR2.out.2.2.2).1
  have enl := cell_lt en
  obtain ⟨c0_0, c0_1, c0_2, c0_3, c0_4, c0f, c0l⟩ := r7 TR2.out.1
  go_wp2_with fail
  go_at_call 68; refine (at_any 4 0 0 _ _ l c a (ES.map (·.1)) ka true _ (entsL_step HE.out TR2.out.2.2.2) HS.out).mono ?_; rintro e w186 ⟨rfl, hbw186⟩
  have TR3 := Lib.hid (And.intro (row_step TR2.out.1 hbw186) (And.intro (row_step TR2.out.2.1 hbw186) (And.intro (row_step TR2.out.2.2.1 hbw186) (bel_step TR2.out.2.2.2 hbw186))))
  clear TR2
  clear hbw186
  clear en enl
  clear c0_0 c0_1 c0_2 c0_3 c0_4 c0f c0l
  obtain ⟨c0_0, c0_1, c0_2, c0_3, c0_4, c0f, c0l⟩ := r7 TR3.out.1
  have ec4 := ck TR3.out.2.2.2 Hc4.out
  have ec6 := ck TR3.out.2.2.2 Hc6.out
  have ecl := cell_lt ec4
  have ecm := cell_lt ec6
  have en := (HNN.out _ TR3.out.2.2.2).2
  have enl := cell_lt en
  go_wp2_with fail
  go_at_call 68; refine (at_any 4 0 0 _ _ l c d (ES.map (·.1)) kd true _ (entsL_step HE.out TR3.out.2.2.2) HSD.out).mono ?_; rintro e w187 ⟨rfl, hbw187⟩
  have TR4 := Lib.hid (And.intro (row_step TR3.out.1 hbw187) (And.intro (row_step TR3.out.2.1 hbw187) (And.intro (row_step TR3.out.2.2.1 hbw187) (bel_step TR3.out.2.2.2 hbw187))))
  clear TR3
  clear hbw187
  clear en enl
  clear c0_0 c0_1 c0_2 c0_3 c0_4 c0f c0l
  clear ec4 ec6 ecl ecm
  have HOP1 := Lib.hid hop1
  have HOP2 := Lib.hid hop2
  clear hop1 hop2
  go_upto_region 49 with fail
  refine led49_any w b off l c d FA G FD gd od cgd w187 _ _ _ _ _ _ _ _ _ _ _ _ _ _ _ _ _ _ _ _ _ _ _ _ _ _ _ _ _ _ _ _ _ _ _ _ _ _ _ _ _ _ _ _ _ _ _ _ _ _ _ _ _ _ _ _ _ _ _ _ _ _ _ _ _ _ _ _ _ _ _ _ _ _ _ _ _ _ _ _ _ _ _ _ _ _ _ _ _ _ _ _ _ _ _ _ _ _ _ _ _ _ _ _ _ _ _ _ _ _ _ _ _ _ _ _ _ _ _ _ _ _ _ _ _ _ _ _ _ _ _ _ _ _ _ _ _ _ _ _ _ _ _ _ _ _ _ _ _ _ _ _ _ _ _ _ _ _ _ _ _ _ _ _ _ _ _ _ _ _ _ _ _ _ _ _ _ _ _ _ _ _ _ _ _ _ _ _ _ _ _ _ _ _ _ _ _ _ _ _ _ _ _ _ _ _ _ _ _ _ _ _ _ _ _ _ _ _ (fun _ _ d _ _ h => by cases d <;> exact h) TR4 Hd4 Hd6 HOP1 HOP2 HCS HCG hbd hgd hd1 hd2 (fun gA gB wy hgA hgB hcut => ?_)
  have TC0 := Lib.hid hcut
  clear hcut
  obtain ⟨c4_0, c4_1, c4_2, c4_3, c4_4, c4f, c4l⟩ := r7 TC0.out.2.2.2.2.1
  go_wp2_with fail
  go_at_call 72; refine (refFinite_any 2 0 (Flo.cop .add FD G) _ _ _ _ _).mono ?_; rintro e w188 ⟨rfl, hbw188⟩
  have TC1 := Lib.hid (And.intro (row_step TC0.out.1 hbw188) (And.intro (row_step TC0.out.2.1 hbw188) (And.intro (row_step TC0.out.2.2.1 hbw188) (And.intro (row_step TC0.out.2.2.2.1 hbw188) (And.intro (row_step TC0.out.2.2.2.2.1 hbw188) (bel_step TC0.out.2.2.2.2.2 hbw188))))))
  clear TC0
  clear hbw188
  clear c4_0 c4_1 c4_2 c4_3 c4_4 c4f c4l
  go_wp2_with fail
  go_at_call 30; refine (no_any _ _).mono ?_; rintro e w189 ⟨rfl, hbw189⟩
  have TC2 := Lib.hid (And.intro (row_step TC1.out.1 hbw189) (And.intro (row_step TC1.out.2.1 hbw189) (And.intro (row_step TC1.out.2.2.1 hbw189) (And.intro (row_step TC1.out.2.2.2.1 hbw189) (And.intro (row_step TC1.out.2.2.2.2.1 hbw189) (bel_step TC1.out.2.2.2.2.2 hbw189))))))
  clear TC1
  clear hbw189
  obtain ⟨c1_0, c1_1, c1_2, c1_3, c1_4, c1f, c1l⟩ := r7 TC2.out.2.1
  obtain ⟨c2_0, c2_1, c2_2, c2_3, c2_4, c2f, c2l⟩ := r7 TC2.out.2.2.1
  go_wp2
  refine bodyPost_ret (v := .tuple #[.agg #[.int .i64 0, .int .i64 0, .float .f64 0, .string ⟨#[]⟩, .slice none 0 0], .agg #[.int .i64 0, .int .i64 0, .float .f64 0, .string ⟨#[]⟩, .slice none 0 0], .int .i64 35]) (by simp [results, Tryz.results38, go_sem, World.cell?_setCell_same, World.cell?_setCell_other, c1_0, c1_1, c1_2, c1_3, c1_4, c2_0, c2_1, c2_2, c2_3, c2_4]) rfl ⟨_, _, rfl, ?_, fun y _ _ _ => repS_rep _ _ _ (nil_rep 2 (fun _ => True) y), fun y => repS_rep _ _ _ (nil_rep 0 (fun _ => True) y)⟩
  exact set5_below (g := w.heap.size + 1 + 1) (o := 0) (set5_below (g := w.heap.size + 1) (o := 0) TC2.out.2.2.2.2.2 (by omega) _ _ _ _ _) (by omega) _ _ _ _ _
end Num
end Go.Proofs.YtpbfaffheigjcaaGreat
/-
  The reference: a transfer that is done.
-/
namespace Go.Proofs.YtpbfaffheigjcaaGreat
open Go.RowKit
namespace Num
open Ints
set_option linter.unusedSimpArgs false
set_option linter.unusedVariables false
set_option maxRecDepth 100000 in
set_option maxHeartbeats 8000000 in
theorem rtra_ok (b off l c a d bl ol cl : Nat) (ka kd : ByteArray) (K3 I3 : Int) (F3 : Nat) (S3 : ByteArray) (q3 : Option Addr) (m3 d3 : Nat) (w : World) (n0 : w.cell? ⟨bl, ol + 3, none⟩ = some (.string ka)) (n1 : w.cell? ⟨bl, ol + 5 + 3, none⟩ = some (.string kd)) (v0 : w.cell? ⟨bl, ol + 10, none⟩ = some (.int .i64 K3)) (v1 : w.cell? ⟨bl, ol + 10 + 1, none⟩ = some (.int .i64 I3)) (v2 : w.cell? ⟨bl, ol + 10 + 2, none⟩ = some (.float .f64 F3)) (v3 : w.cell? ⟨bl, ol + 10 + 3, none⟩ = some (.string S3)) (v4 : w.cell? ⟨bl, ol + 10 + 4, none⟩ = some (.slice q3 m3 d3)) (R : Value → VT 2 → Prop) (ES : List (ByteArray × VT 1)) (G FA : Nat) (ha : amtV K3 I3 F3 = .tuple #[.float .f64 G, .bool true]) (hal : a < l) (hl : l ≤ 32) (HE : Hid (EntsL w (some ⟨b, off, none⟩) l (ES.map (·.1)))) (hs : Spot (ES.map (·.1)) ka a true) (gc oc cgc : Nat) (hc : AccC w b off a ka FA gc oc cgc) (hsd : Spot (ES.map (·.1)) kd d true) (hls : (FloatKind.f64.format.order FA G == some .lt) = false) (hkk : (ka.toList == kd.toList) = false) (hdl : d < l) (FD gd od cgd : Nat) (hcd : AccC w b off d kd FD gd od cgd) (hop1 : ∀ t W, (binOp .sub t (.float .f64 FA) (.float .f64 G)).run Tryz.prog W = .ok (.float .f64 (Flo.cop .sub FA G)) W) (hop2 : ∀ t W, (binOp .add t (.float .f64 FD) (.float .f64 G)).run Tryz.prog W = .ok (.float .f64 (Flo.cop .add FD G)) W) (HCS : Hid (Flo.canon (Flo.cop .sub FA G) = (Flo.cop .sub FA G))) (HCG : Hid (Flo.canon (Flo.cop .add FD G) = (Flo.cop .add FD G))) (hfin : finV 2 (Flo.cop .add FD G) = true) (hR : One5 R) (HL : Hid (RepL w R (some ⟨b, off, none⟩) l c (ES.map (pairE 0)))) (hna : nmV 3 ka = true) (hnd : nmV 3 kd = true) :
    Calls Tryz.prog 38 #[.agg #[.int .i64 4, .int .i64 0, .float .f64 0, .string ⟨#[]⟩, .slice (some ⟨b, off, none⟩) l c], .string { data := #[116, 114, 97, 110, 115, 102, 101, 114] }, .slice (some ⟨bl, ol, none⟩) 3 cl] w fun e w' => RLQ w R (some ⟨b, off, none⟩) l c (ES.map (pairE 0)) (tableT 0 ((ES.set a (ka, floT 0 (Flo.cop .sub FA G))).set d (kd, floT 0 (Flo.cop .add FD G)))) (floT 0 (Flo.cop .sub FA G)) 0 e w' := by
  have TR1 := Lib.hid (show (fun z0 : World => ZL z0 w.heap.size (some ⟨b, off, none⟩) l c ∧ Zz z0 (w.heap.size + 1) ∧ Zz z0 (w.heap.size + 1 + 1) ∧ Below w.heap.size w z0) (((w.alloc (.cells #[.int .i64 4, .int .i64 0, .float .f64 0, .string ⟨#[]⟩, .slice (some ⟨b, off, none⟩) l c] 27)).alloc (.cells #[.int .i64 0, .int .i64 0, .float .f64 0, .string ⟨#[]⟩, .slice none 0 0] 27)).alloc (.cells #[.int .i64 0, .int .i64 0, .float .f64 0, .string ⟨#[]⟩, .slice none 0 0] 27)) from ⟨row_alloc_step (row_alloc_step (row_alloc w #[.int .i64 4, .int .i64 0, .float .f64 0, .string ⟨#[]⟩, .slice (some ⟨b, off, none⟩) l c] 27) _) _, (row_alloc_step (ra (by simp only [World.size_alloc, World.size_drew])) _), (ra (by simp only [World.size_alloc, World.size_drew])), bel_alloc (bel_alloc (bel_alloc (Below.refl w.heap.size w) _) _) _⟩)
  have hbl : bl < w.heap.size := cell_lt v0
  have HV := Lib.hid (show ∀ W, Below w.heap.size w W → W.cell? ⟨bl, ol + 10, none⟩ = some (.int .i64 K3) ∧ W.cell? ⟨bl, ol + 10 + 1, none⟩ = some (.int .i64 I3) ∧ W.cell? ⟨bl, ol + 10 + 2, none⟩ = some (.float .f64 F3) ∧ W.cell? ⟨bl, ol + 10 + 3, none⟩ = some (.string S3) ∧ W.cell? ⟨bl, ol + 10 + 4, none⟩ = some (.slice q3 m3 d3) from fun W hb => ⟨ck hb v0, ck hb v1, ck hb v2, ck hb v3, ck hb v4⟩)
  have HNN := Lib.hid (show ∀ W, Below w.heap.size w W → W.cell? ⟨bl, ol + 3, none⟩ = some (.string ka) ∧ W.cell? ⟨bl, ol + 5 + 3, none⟩ = some (.string kd) from fun W hb => ⟨ck hb n0, ck hb n1⟩)
  have HA := Lib.hid ha
  clear v0 v1 v2 v3 v4 n0 n1 ha
  have HS := Lib.hid hs
  have HC := Lib.hid hc
  clear hs hc
  have Hc0 := Lib.hid HC.out.1
  have Hc1 := Lib.hid HC.out.2.1
  have Hc2 := Lib.hid HC.out.2.2.1
  have Hc3 := Lib.hid HC.out.2.2.2.1
  have Hc4 := Lib.hid HC.out.2.2.2.2.1
  have Hc5 := Lib.hid HC.out.2.2.2.2.2.1
  have Hc6 := Lib.hid HC.out.2.2.2.2.2.2
  have hbc := cell_lt HC.out.1
  have hgc := cell_lt HC.out.2.2.2.2.2.1
  have hc1 : (0 : Int) ≤ (a : Int) := by omega
  have hc2 : (a : Int) < (l : Int) := by omega
  have HSD := Lib.hid hsd
  have HCd := Lib.hid hcd
  clear hsd hcd
  have Hd0 := Lib.hid HCd.out.1
  have Hd1 := Lib.hid HCd.out.2.1
  have Hd2 := Lib.hid HCd.out.2.2.1
  have Hd3 := Lib.hid HCd.out.2.2.2.1
  have Hd4 := Lib.hid HCd.out.2.2.2.2.1
  have Hd5 := Lib.hid HCd.out.2.2.2.2.2.1
  have Hd6 := Lib.hid HCd.out.2.2.2.2.2.2
  have hbd := cell_lt HCd.out.1
  have hgd := cell_lt HCd.out.2.2.2.2.2.1
  have hd1 : (0 : Int) ≤ (d : Int) := by omega
  have hd2 : (d : Int) < (l : Int) := by omega
  obtain ⟨e0, e1, e2, e3, e4⟩ := HV.out _ TR1.out.2.2.2
  go_enter Tryz.func38, Tryz.ntmps38
  clear e0 e1 e2 e3 e4
  obtain ⟨e0, e1, e2, e3, e4⟩ := HV.out _ br
  have ebl : bl < w.heap.size := cell_lt e0
  have ene0 : w.heap.size ≠ bl := by omega
  have ene1 : w.heap.size + 1 ≠ bl := by omega
  have ene2 : w.heap.size + 1 + 1 ≠ bl := by omega
  have elt1 : bl < w.heap.size + 1 := by omega
  have elt2 : bl < w.heap.size + 1 + 1 := by omega
  go_wp2_with fail
  go_at_call 71; refine (amount_is8 HA.out S3 q3 m3 d3 _).mono ?_; rintro e w190 ⟨rfl, hbw190⟩
  have TR2 := Lib.hid (And.intro (row_step TR1.out.1 hbw190) (And.intro (row_step TR1.out.2.1 hbw190) (And.intro (row_step TR1.out.2.2.1 hbw190) (bel_step TR1.out.2.2.2 hbw190))))
  clear TR1
  clear hbw190
  clear e0 e1 e2 e3 e4
  have en := (HNN.out _ TR2.out.2.2.2).1
  have enl := cell_lt en
  obtain ⟨c0_0, c0_1, c0_2, c0_3, c0_4, c0f, c0l⟩ := r7 TR2.out.1
  go_wp2_with fail
  go_at_call 68; refine (at_any 4 0 0 _ _ l c a (ES.map (·.1)) ka true _ (entsL_step HE.out TR2.out.2.2.2) HS.out).mono ?_; rintro e w191 ⟨rfl, hbw191⟩
  have TR3 := Lib.hid (And.intro (row_step TR2.out.1 hbw191) (And.intro (row_step TR2.out.2.1 hbw191) (And.intro (row_step TR2.out.2.2.1 hbw191) (bel_step TR2.out.2.2.2 hbw191))))
  clear TR2
  clear hbw191
  clear en enl
  clear c0_0 c0_1 c0_2 c0_3 c0_4 c0f c0l
  obtain ⟨c0_0, c0_1, c0_2, c0_3, c0_4, c0f, c0l⟩ := r7 TR3.out.1
  have ec4 := ck TR3.out.2.2.2 Hc4.out
  have ec6 := ck TR3.out.2.2.2 Hc6.out
  have ecl := cell_lt ec4
  have ecm := cell_lt ec6
  have en := (HNN.out _ TR3.out.2.2.2).2
  have enl := cell_lt en
  go_wp2_with fail
  go_at_call 68; refine (at_any 4 0 0 _ _ l c d (ES.map (·.1)) kd true _ (entsL_step HE.out TR3.out.2.2.2) HSD.out).mono ?_; rintro e w192 ⟨rfl, hbw192⟩
  have TR4 := Lib.hid (And.intro (row_step TR3.out.1 hbw192) (And.intro (row_step TR3.out.2.1 hbw192) (And.intro (row_step TR3.out.2.2.1 hbw192) (bel_step TR3.out.2.2.2 hbw192))))
  clear TR3
  clear hbw192
  clear en enl
  clear c0_0 c0_1 c0_2 c0_3 c0_4 c0f c0l
  clear ec4 ec6 ecl ecm
  have HOP1 := Lib.hid hop1
  have HOP2 := Lib.hid hop2
  clear hop1 hop2
  go_upto_region 49 with fail
  refine led49_any w b off l c d FA G FD gd od cgd w192 _ _ _ _ _ _ _ _ _ _ _ _ _ _ _ _ _ _ _ _ _ _ _ _ _ _ _ _ _ _ _ _ _ _ _ _ _ _ _ _ _ _ _ _ _ _ _ _ _ _ _ _ _ _ _ _ _ _ _ _ _ _ _ _ _ _ _ _ _ _ _ _ _ _ _ _ _ _ _ _ _ _ _ _ _ _ _ _ _ _ _ _ _ _ _ _ _ _ _ _ _ _ _ _ _ _ _ _ _ _ _ _ _ _ _ _ _ _ _ _ _ _ _ _ _ _ _ _ _ _ _ _ _ _ _ _ _ _ _ _ _ _ _ _ _ _ _ _ _ _ _ _ _ _ _ _ _ _ _ _ _ _ _ _ _ _ _ _ _ _ _ _ _ _ _ _ _ _ _ _ _ _ _ _ _ _ _ _ _ _ _ _ _ _ _ _ _ _ _ _ _ _ _ _ _ _ _ _ _ _ _ _ _ _ _ _ _ _ (fun _ _ d _ _ h => by cases d <;> exact h) TR4 Hd4 Hd6 HOP1 HOP2 HCS HCG hbd hgd hd1 hd2 (fun gA gB wy hgA hgB hcut => ?_)
  have TC0 := Lib.hid hcut
  clear hcut
  obtain ⟨c4_0, c4_1, c4_2, c4_3, c4_4, c4f, c4l⟩ := r7 TC0.out.2.2.2.2.1
  go_wp2_with fail
  go_at_call 72; refine (refFinite_any 2 0 (Flo.cop .add FD G) _ _ _ _ _).mono ?_; rintro e w193 ⟨rfl, hbw193⟩
  have TC1 := Lib.hid (And.intro (row_step TC0.out.1 hbw193) (And.intro (row_step TC0.out.2.1 hbw193) (And.intro (row_step TC0.out.2.2.1 hbw193) (And.intro (row_step TC0.out.2.2.2.1 hbw193) (And.intro (row_step TC0.out.2.2.2.2.1 hbw193) (bel_step TC0.out.2.2.2.2.2 hbw193))))))
  clear TC0
  clear hbw193
  clear c4_0 c4_1 c4_2 c4_3 c4_4 c4f c4l
  go_upto_region 52 with fail
  have hltW1 : w.heap.size + 1 < w193.heap.size := row_lt TC1.out.2.1
  have hltW2 : w.heap.size + 1 + 1 < w193.heap.size := row_lt TC1.out.2.2.1
  have hdrW : w193.drew.heap.size = w193.heap.size := World.size_drew _
  have hleW : w.heap.size ≤ w193.heap.size := TC1.out.2.2.2.2.2.size
  have TC2 := Lib.hid (And.intro (row_step TC1.out.1 (show Below w193.heap.size w193 w193.drew from Below.drew br)) (And.intro (row_step TC1.out.2.1 (show Below w193.heap.size w193 w193.drew from Below.drew br)) (And.intro (row_step TC1.out.2.2.1 (show Below w193.heap.size w193 w193.drew from Below.drew br)) (And.intro (row_step TC1.out.2.2.2.1 (show Below w193.heap.size w193 w193.drew from Below.drew br)) (And.intro (row_step TC1.out.2.2.2.2.1 (show Below w193.heap.size w193 w193.drew from Below.drew br)) (bel_step TC1.out.2.2.2.2.2 (show Below w193.heap.size w193 w193.drew from Below.drew br)))))))
  clear TC1
  refine wp_region_held_drew (S := (fun z => z.cell? ⟨w.heap.size, 0, none⟩ = some (.int .i64 4) ∧ z.cell? ⟨w.heap.size, 1, none⟩ = some (.int .i64 0) ∧ z.cell? ⟨w.heap.size, 2, none⟩ = some (.float .f64 0) ∧ z.cell? ⟨w.heap.size, 3, none⟩ = some (.string ⟨#[]⟩) ∧ z.cell? ⟨w.heap.size, 4, none⟩ = some (.slice (some ⟨b, off, none⟩) l c) ∧ z.cell? ⟨gA, 0, none⟩ = some (.int .i64 2) ∧ z.cell? ⟨gA, 1, none⟩ = some (.int .i64 0) ∧ z.cell? ⟨gA, 2, none⟩ = some (.float .f64 (Flo.cop .sub FA G)) ∧ z.cell? ⟨gA, 3, none⟩ = some (.string ⟨#[]⟩) ∧ z.cell? ⟨gA, 4, none⟩ = some (.slice none 0 0) ∧ z.cell? ⟨gB, 0, none⟩ = some (.int .i64 2) ∧ z.cell? ⟨gB, 1, none⟩ = some (.int .i64 0) ∧ z.cell? ⟨gB, 2, none⟩ = some (.float .f64 (Flo.cop .add FD G)) ∧ z.cell? ⟨gB, 3, none⟩ = some (.string ⟨#[]⟩) ∧ z.cell? ⟨gB, 4, none⟩ = some (.slice none 0 0))) (by kernel_rfl) ?_ (fun hH => ?_)
  · exact ⟨rc TC2.out.1 0, rc TC2.out.1 1, rc TC2.out.1 2, rc TC2.out.1 3, rc TC2.out.1 4, rc TC2.out.2.2.2.1 0, rc TC2.out.2.2.2.1 1, rc TC2.out.2.2.2.1 2, rc TC2.out.2.2.2.1 3, rc TC2.out.2.2.2.1 4, rc TC2.out.2.2.2.2.1 0, rc TC2.out.2.2.2.2.1 1, rc TC2.out.2.2.2.2.1 2, rc TC2.out.2.2.2.2.1 3, rc TC2.out.2.2.2.2.1 4⟩
  refine zt [0, 1, 2, 3, 5, 6, 7, 9] ?_
  iterate 8 (refine zt1 (fun _ _ d _ _ h => by cases d <;> exact h) (by simp only [lk0, lk1, lk2]; rfl) (by kernel_rfl) (by assumption) (by rfl) (fun w h => by (try dsimp only at h); go_simp; (try with_reducible rfl)) ?_; (try simp only [Act.put, pk0, pk1, pk2]))
  refine zt0 ?_
  refine zr1 4 (by kernel_rfl) (by simp only [lk0, lk1, lk2]; rfl) (fun K hK => ?_)
  go_simp
  go_at_call 69; refine (with_R 0 b off l c a ka 2 0 (Flo.cop .sub FA G) _ none 0 0 (ES.map (pairE 0)) (floT 0 (Flo.cop .sub FA G)) R hR _ (Lib.hid (repL_at TC2.out.2.2.2.2.2 HL.out)) (nm_size hna) (by omega) (by omega)).mono ?_; rintro e w203 ⟨p6, c6, ge1, rfl, hbw203, hge1, hrow1, hy6⟩
  have TC3 := Lib.hid (And.intro (row_step TC2.out.1 hbw203) (And.intro (row_step TC2.out.2.1 hbw203) (And.intro (row_step TC2.out.2.2.1 hbw203) (And.intro (row_step TC2.out.2.2.2.1 hbw203) (And.intro (row_step TC2.out.2.2.2.2.1 hbw203) (bel_step TC2.out.2.2.2.2.2 hbw203))))))
  clear TC2
  have TC4 := Lib.hid (show ZL w203 w.heap.size (some ⟨b, off, none⟩) l c ∧ Zz w203 (w.heap.size + 1) ∧ Zz w203 (w.heap.size + 1 + 1) ∧ ZF w203 gA (Flo.cop .sub FA G) ∧ ZF w203 gB (Flo.cop .add FD G) ∧ w203.heap[ge1]? = some (.cells #[.int .i64 3, .int .i64 0, .float .f64 0, .string ka, .slice none 0 0, .int .i64 2, .int .i64 0, .float .f64 (Flo.cop .sub FA G), .string ⟨#[]⟩, .slice none 0 0] 27 (0, 0)) ∧ Below w.heap.size w w203 from ⟨TC3.out.1, TC3.out.2.1, TC3.out.2.2.1, TC3.out.2.2.2.1, TC3.out.2.2.2.2.1, hrow1, TC3.out.2.2.2.2.2⟩)
  clear TC3
  have TC5 := Lib.hid (show ZL w203 w.heap.size (some ⟨b, off, none⟩) l c ∧ Zz w203 (w.heap.size + 1) ∧ Zz w203 (w.heap.size + 1 + 1) ∧ ZF w203 gA (Flo.cop .sub FA G) ∧ ZF w203 gB (Flo.cop .add FD G) ∧ w203.heap[ge1]? = some (.cells #[.int .i64 3, .int .i64 0, .float .f64 0, .string ka, .slice none 0 0, .int .i64 2, .int .i64 0, .float .f64 (Flo.cop .sub FA G), .string ⟨#[]⟩, .slice none 0 0] 27 (0, 0)) ∧ (Stay w193.drew.heap.size w203 w203 ∧ w203.heap.size ≤ w203.heap.size) ∧ Below w.heap.size w w203 from ⟨TC4.out.1, TC4.out.2.1, TC4.out.2.2.1, TC4.out.2.2.2.1, TC4.out.2.2.2.2.1, TC4.out.2.2.2.2.2.1, ⟨stay_refl _ _, Nat.le_refl _⟩, TC4.out.2.2.2.2.2.2⟩)
  clear TC4
  have hL1 := hy6 _ (stay_refl _ _)
  obtain ⟨b6, off6, rfl, _⟩ := hL1.2.2.2 (by omega)
  have HL6 := Lib.hid hL1
  have hzz1 : w193.drew.heap.size ≤ w203.heap.size := hbw203.size
  clear hL1 hy6 hrow1
  clear hbw203
  go_wp2_with fail
  refine hK.out _ _ ?hsv202_ (fun hH => ?_)
  case hsv202_ => exact ⟨rc TC5.out.1 0, rc TC5.out.1 1, rc TC5.out.1 2, rc TC5.out.1 3, rc TC5.out.1 4, rc TC5.out.2.2.2.1 0, rc TC5.out.2.2.2.1 1, rc TC5.out.2.2.2.1 2, rc TC5.out.2.2.2.1 3, rc TC5.out.2.2.2.1 4, rc TC5.out.2.2.2.2.1 0, rc TC5.out.2.2.2.2.1 1, rc TC5.out.2.2.2.2.1 2, rc TC5.out.2.2.2.2.1 3, rc TC5.out.2.2.2.2.1 4⟩
  clear hK K
  (try simp only [Act.put, pk0, pk1, pk2])
  refine zr1 8 (by kernel_rfl) (by simp only [lk0, lk1, lk2]; rfl) (fun K hK => ?_)
  go_simp
  go_at_call 69; refine (with_R 0 b6 off6 l _ d kd 2 0 (Flo.cop .add FD G) _ none 0 0 ((ES.map (pairE 0)).set a (pairT 0 ka (floT 0 (Flo.cop .sub FA G)))) (floT 0 (Flo.cop .add FD G)) (RO 0 ge1 R ka (floT 0 (Flo.cop .sub FA G))) (ro_one hR _ _) _ HL6 (nm_size hnd) (by omega) (by omega)).mono ?_; rintro e w205 ⟨p7, c7, ge2, rfl, hbw205, hge2, hrow2, hy7⟩
  have TC6 := Lib.hid (show ZL w205 w.heap.size (some ⟨b, off, none⟩) l c ∧ Zz w205 (w.heap.size + 1) ∧ Zz w205 (w.heap.size + 1 + 1) ∧ ZF w205 gA (Flo.cop .sub FA G) ∧ ZF w205 gB (Flo.cop .add FD G) ∧ w205.heap[ge1]? = some (.cells #[.int .i64 3, .int .i64 0, .float .f64 0, .string ka, .slice none 0 0, .int .i64 2, .int .i64 0, .float .f64 (Flo.cop .sub FA G), .string ⟨#[]⟩, .slice none 0 0] 27 (0, 0)) ∧ (Stay w193.drew.heap.size w203 w205 ∧ w203.heap.size ≤ w205.heap.size) ∧ Below w.heap.size w w205 from ⟨row_step TC5.out.1 hbw205, row_step TC5.out.2.1 hbw205, row_step TC5.out.2.2.1 hbw205, row_step TC5.out.2.2.2.1 hbw205, row_step TC5.out.2.2.2.2.1 hbw205, row_step TC5.out.2.2.2.2.2.1 hbw205, ⟨stay_trans TC5.out.2.2.2.2.2.2.1.1 TC5.out.2.2.2.2.2.2.1.2 hbw205, Nat.le_trans TC5.out.2.2.2.2.2.2.1.2 hbw205.size⟩, bel_step TC5.out.2.2.2.2.2.2.2 hbw205⟩)
  clear TC5
  have TC7 := Lib.hid (show ZL w205 w.heap.size (some ⟨b, off, none⟩) l c ∧ Zz w205 (w.heap.size + 1) ∧ Zz w205 (w.heap.size + 1 + 1) ∧ ZF w205 gA (Flo.cop .sub FA G) ∧ ZF w205 gB (Flo.cop .add FD G) ∧ w205.heap[ge1]? = some (.cells #[.int .i64 3, .int .i64 0, .float .f64 0, .string ka, .slice none 0 0, .int .i64 2, .int .i64 0, .float .f64 (Flo.cop .sub FA G), .string ⟨#[]⟩, .slice none 0 0] 27 (0, 0)) ∧ w205.heap[ge2]? = some (.cells #[.int .i64 3, .int .i64 0, .float .f64 0, .string kd, .slice none 0 0, .int .i64 2, .int .i64 0, .float .f64 (Flo.cop .add FD G), .string ⟨#[]⟩, .slice none 0 0] 27 (0, 0)) ∧ (Stay w193.drew.heap.size w203 w205 ∧ w203.heap.size ≤ w205.heap.size) ∧ Below w.heap.size w w205 from ⟨TC6.out.1, TC6.out.2.1, TC6.out.2.2.1, TC6.out.2.2.2.1, TC6.out.2.2.2.2.1, TC6.out.2.2.2.2.2.1, hrow2, TC6.out.2.2.2.2.2.2.1, TC6.out.2.2.2.2.2.2.2⟩)
  clear TC6
  have TC8 := Lib.hid (show ZL w205 w.heap.size (some ⟨b, off, none⟩) l c ∧ Zz w205 (w.heap.size + 1) ∧ Zz w205 (w.heap.size + 1 + 1) ∧ ZF w205 gA (Flo.cop .sub FA G) ∧ ZF w205 gB (Flo.cop .add FD G) ∧ w205.heap[ge1]? = some (.cells #[.int .i64 3, .int .i64 0, .float .f64 0, .string ka, .slice none 0 0, .int .i64 2, .int .i64 0, .float .f64 (Flo.cop .sub FA G), .string ⟨#[]⟩, .slice none 0 0] 27 (0, 0)) ∧ w205.heap[ge2]? = some (.cells #[.int .i64 3, .int .i64 0, .float .f64 0, .string kd, .slice none 0 0, .int .i64 2, .int .i64 0, .float .f64 (Flo.cop .add FD G), .string ⟨#[]⟩, .slice none 0 0] 27 (0, 0)) ∧ (Stay w193.drew.heap.size w203 w205 ∧ w203.heap.size ≤ w205.heap.size) ∧ (Stay w203.heap.size w205 w205 ∧ w205.heap.size ≤ w205.heap.size) ∧ Below w.heap.size w w205 from ⟨TC7.out.1, TC7.out.2.1, TC7.out.2.2.1, TC7.out.2.2.2.1, TC7.out.2.2.2.2.1, TC7.out.2.2.2.2.2.1, TC7.out.2.2.2.2.2.2.1, TC7.out.2.2.2.2.2.2.2.1, ⟨stay_refl _ _, Nat.le_refl _⟩, TC7.out.2.2.2.2.2.2.2.2⟩)
  clear TC7
  have HY := Lib.hid hy7
  clear hy7 hrow2
  clear hbw205
  go_wp2_with fail
  refine hK.out _ _ ?hsv204_ (fun hH => ?_)
  case hsv204_ => exact ⟨rc TC8.out.1 0, rc TC8.out.1 1, rc TC8.out.1 2, rc TC8.out.1 3, rc TC8.out.1 4, rc TC8.out.2.2.2.1 0, rc TC8.out.2.2.2.1 1, rc TC8.out.2.2.2.1 2, rc TC8.out.2.2.2.1 3, rc TC8.out.2.2.2.1 4, rc TC8.out.2.2.2.2.1 0, rc TC8.out.2.2.2.2.1 1, rc TC8.out.2.2.2.2.1 2, rc TC8.out.2.2.2.2.1 3, rc TC8.out.2.2.2.2.1 4⟩
  clear hK K
  (try simp only [Act.put, pk0, pk1, pk2])
  refine zr1 10 (by kernel_rfl) (by simp only [lk0, lk1, lk2]; rfl) (fun K hK => ?_)
  obtain ⟨b30, b31, b32, b33, b34, b3f, b3l⟩ := r7 TC8.out.2.1; go_simp
  have TC9 := Lib.hid (show (fun z0 : World => ZL z0 w.heap.size (some ⟨b, off, none⟩) l c ∧ ZL z0 (w.heap.size + 1) p7 l c7 ∧ Zz z0 (w.heap.size + 1 + 1) ∧ ZF z0 gA (Flo.cop .sub FA G) ∧ ZF z0 gB (Flo.cop .add FD G) ∧ z0.heap[ge1]? = some (.cells #[.int .i64 3, .int .i64 0, .float .f64 0, .string ka, .slice none 0 0, .int .i64 2, .int .i64 0, .float .f64 (Flo.cop .sub FA G), .string ⟨#[]⟩, .slice none 0 0] 27 (0, 0)) ∧ z0.heap[ge2]? = some (.cells #[.int .i64 3, .int .i64 0, .float .f64 0, .string kd, .slice none 0 0, .int .i64 2, .int .i64 0, .float .f64 (Flo.cop .add FD G), .string ⟨#[]⟩, .slice none 0 0] 27 (0, 0)) ∧ (Stay w193.drew.heap.size w203 z0 ∧ w203.heap.size ≤ z0.heap.size) ∧ (Stay w203.heap.size w205 z0 ∧ w205.heap.size ≤ z0.heap.size) ∧ Below w.heap.size w z0) (((((w205.setCell ⟨w.heap.size + 1, 0, none⟩ (.int .i64 4)).setCell ⟨w.heap.size + 1, 1, none⟩ (.int .i64 0)).setCell ⟨w.heap.size + 1, 2, none⟩ (.float .f64 0)).setCell ⟨w.heap.size + 1, 3, none⟩ (.string ⟨#[]⟩)).setCell ⟨w.heap.size + 1, 4, none⟩ (.slice p7 l c7)) from ⟨s5o TC8.out.1 (by omega), s5r TC8.out.2.1, s5o TC8.out.2.2.1 (by omega), s5o TC8.out.2.2.2.1 (by omega), s5o TC8.out.2.2.2.2.1 (by omega), s5o TC8.out.2.2.2.2.2.1 (by omega), s5o TC8.out.2.2.2.2.2.2.1 (by omega), ⟨stay_set TC8.out.2.2.2.2.2.2.2.1.1 (by omega) (.int .i64 4) (.int .i64 0) (.float .f64 0) (.string ⟨#[]⟩) (.slice p7 l c7), by show _ ≤ (set5 w205 (w.heap.size + 1) 0 (.int .i64 4) (.int .i64 0) (.float .f64 0) (.string ⟨#[]⟩) (.slice p7 l c7)).heap.size; rw [set5_size]; exact TC8.out.2.2.2.2.2.2.2.1.2⟩, ⟨stay_set TC8.out.2.2.2.2.2.2.2.2.1.1 (by omega) (.int .i64 4) (.int .i64 0) (.float .f64 0) (.string ⟨#[]⟩) (.slice p7 l c7), by show _ ≤ (set5 w205 (w.heap.size + 1) 0 (.int .i64 4) (.int .i64 0) (.float .f64 0) (.string ⟨#[]⟩) (.slice p7 l c7)).heap.size; rw [set5_size]; exact TC8.out.2.2.2.2.2.2.2.2.1.2⟩, s5b TC8.out.2.2.2.2.2.2.2.2.2 (by omega)⟩)
  clear TC8
  clear b30 b31 b32 b33 b34 b3f b3l
  go_wp2_with fail
  refine hK.out _ _ ?hsv206_ (fun hH => ?_)
  case hsv206_ => exact ⟨rc TC9.out.1 0, rc TC9.out.1 1, rc TC9.out.1 2, rc TC9.out.1 3, rc TC9.out.1 4, rc TC9.out.2.2.2.1 0, rc TC9.out.2.2.2.1 1, rc TC9.out.2.2.2.1 2, rc TC9.out.2.2.2.1 3, rc TC9.out.2.2.2.1 4, rc TC9.out.2.2.2.2.1 0, rc TC9.out.2.2.2.2.1 1, rc TC9.out.2.2.2.2.1 2, rc TC9.out.2.2.2.2.1 3, rc TC9.out.2.2.2.2.1 4⟩
  clear hK K
  (try simp only [Act.put, pk0, pk1, pk2])
  refine zr1 11 (by kernel_rfl) (by simp only [lk0, lk1, lk2]; rfl) (fun K hK => ?_)
  obtain ⟨b30, b31, b32, b33, b34, b3f, b3l⟩ := r7 TC9.out.2.2.1; go_simp
  have TC10 := Lib.hid (show (fun z0 : World => ZL z0 w.heap.size (some ⟨b, off, none⟩) l c ∧ ZL z0 (w.heap.size + 1) p7 l c7 ∧ ZF z0 (w.heap.size + 1 + 1) (Flo.cop .sub FA G) ∧ ZF z0 gA (Flo.cop .sub FA G) ∧ ZF z0 gB (Flo.cop .add FD G) ∧ z0.heap[ge1]? = some (.cells #[.int .i64 3, .int .i64 0, .float .f64 0, .string ka, .slice none 0 0, .int .i64 2, .int .i64 0, .float .f64 (Flo.cop .sub FA G), .string ⟨#[]⟩, .slice none 0 0] 27 (0, 0)) ∧ z0.heap[ge2]? = some (.cells #[.int .i64 3, .int .i64 0, .float .f64 0, .string kd, .slice none 0 0, .int .i64 2, .int .i64 0, .float .f64 (Flo.cop .add FD G), .string ⟨#[]⟩, .slice none 0 0] 27 (0, 0)) ∧ (Stay w193.drew.heap.size w203 z0 ∧ w203.heap.size ≤ z0.heap.size) ∧ (Stay w203.heap.size w205 z0 ∧ w205.heap.size ≤ z0.heap.size) ∧ Below w.heap.size w z0) ((((((((((w205.setCell ⟨w.heap.size + 1, 0, none⟩ (.int .i64 4)).setCell ⟨w.heap.size + 1, 1, none⟩ (.int .i64 0)).setCell ⟨w.heap.size + 1, 2, none⟩ (.float .f64 0)).setCell ⟨w.heap.size + 1, 3, none⟩ (.string ⟨#[]⟩)).setCell ⟨w.heap.size + 1, 4, none⟩ (.slice p7 l c7)).setCell ⟨w.heap.size + 1 + 1, 0, none⟩ (.int .i64 2)).setCell ⟨w.heap.size + 1 + 1, 1, none⟩ (.int .i64 0)).setCell ⟨w.heap.size + 1 + 1, 2, none⟩ (.float .f64 (Flo.cop .sub FA G))).setCell ⟨w.heap.size + 1 + 1, 3, none⟩ (.string ⟨#[]⟩)).setCell ⟨w.heap.size + 1 + 1, 4, none⟩ (.slice none 0 0)) from ⟨s5o TC9.out.1 (by omega), s5o TC9.out.2.1 (by omega), s5r TC9.out.2.2.1, s5o TC9.out.2.2.2.1 (by omega), s5o TC9.out.2.2.2.2.1 (by omega), s5o TC9.out.2.2.2.2.2.1 (by omega), s5o TC9.out.2.2.2.2.2.2.1 (by omega), ⟨stay_set TC9.out.2.2.2.2.2.2.2.1.1 (by omega) (.int .i64 2) (.int .i64 0) (.float .f64 (Flo.cop .sub FA G)) (.string ⟨#[]⟩) (.slice none 0 0), by show _ ≤ (set5 (((((w205.setCell ⟨w.heap.size + 1, 0, none⟩ (.int .i64 4)).setCell ⟨w.heap.size + 1, 1, none⟩ (.int .i64 0)).setCell ⟨w.heap.size + 1, 2, none⟩ (.float .f64 0)).setCell ⟨w.heap.size + 1, 3, none⟩ (.string ⟨#[]⟩)).setCell ⟨w.heap.size + 1, 4, none⟩ (.slice p7 l c7)) (w.heap.size + 1 + 1) 0 (.int .i64 2) (.int .i64 0) (.float .f64 (Flo.cop .sub FA G)) (.string ⟨#[]⟩) (.slice none 0 0)).heap.size; rw [set5_size]; exact TC9.out.2.2.2.2.2.2.2.1.2⟩, ⟨stay_set TC9.out.2.2.2.2.2.2.2.2.1.1 (by omega) (.int .i64 2) (.int .i64 0) (.float .f64 (Flo.cop .sub FA G)) (.string ⟨#[]⟩) (.slice none 0 0), by show _ ≤ (set5 (((((w205.setCell ⟨w.heap.size + 1, 0, none⟩ (.int .i64 4)).setCell ⟨w.heap.size + 1, 1, none⟩ (.int .i64 0)).setCell ⟨w.heap.size + 1, 2, none⟩ (.float .f64 0)).setCell ⟨w.heap.size + 1, 3, none⟩ (.string ⟨#[]⟩)).setCell ⟨w.heap.size + 1, 4, none⟩ (.slice p7 l c7)) (w.heap.size + 1 + 1) 0 (.int .i64 2) (.int .i64 0) (.float .f64 (Flo.cop .sub FA G)) (.string ⟨#[]⟩) (.slice none 0 0)).heap.size; rw [set5_size]; exact TC9.out.2.2.2.2.2.2.2.2.1.2⟩, s5b TC9.out.2.2.2.2.2.2.2.2.2 (by omega)⟩)
  clear TC9
  clear b30 b31 b32 b33 b34 b3f b3l
  go_wp2_with fail
  refine hK.out _ _ ?hsv207_ (fun hH => ?_)
  case hsv207_ => exact ⟨rc TC10.out.1 0, rc TC10.out.1 1, rc TC10.out.1 2, rc TC10.out.1 3, rc TC10.out.1 4, rc TC10.out.2.2.2.1 0, rc TC10.out.2.2.2.1 1, rc TC10.out.2.2.2.1 2, rc TC10.out.2.2.2.1 3, rc TC10.out.2.2.2.1 4, rc TC10.out.2.2.2.2.1 0, rc TC10.out.2.2.2.2.1 1, rc TC10.out.2.2.2.2.1 2, rc TC10.out.2.2.2.2.1 3, rc TC10.out.2.2.2.2.1 4⟩
  clear hK K
  (try simp only [Act.put, pk0, pk1, pk2])
  refine zt [12] ?_
  refine zt1 (fun _ _ d _ _ h => by cases d <;> exact h) (by simp only [lk0, lk1, lk2]; rfl) (by kernel_rfl) (by assumption) (by rfl) (fun w h => by (try dsimp only at h); go_simp; (try with_reducible rfl)) ?_; (try simp only [Act.put, pk0, pk1, pk2])
  refine zt0 ?_
  refine wpAnyH_done (by kernel_rfl) ?_ _
  revert TC10
  generalize ((((((((((w205.setCell ⟨w.heap.size + 1, 0, none⟩ (.int .i64 4)).setCell ⟨w.heap.size + 1, 1, none⟩ (.int .i64 0)).setCell ⟨w.heap.size + 1, 2, none⟩ (.float .f64 0)).setCell ⟨w.heap.size + 1, 3, none⟩ (.string ⟨#[]⟩)).setCell ⟨w.heap.size + 1, 4, none⟩ (.slice p7 l c7)).setCell ⟨w.heap.size + 1 + 1, 0, none⟩ (.int .i64 2)).setCell ⟨w.heap.size + 1 + 1, 1, none⟩ (.int .i64 0)).setCell ⟨w.heap.size + 1 + 1, 2, none⟩ (.float .f64 (Flo.cop .sub FA G))).setCell ⟨w.heap.size + 1 + 1, 3, none⟩ (.string ⟨#[]⟩)).setCell ⟨w.heap.size + 1 + 1, 4, none⟩ (.slice none 0 0)) = Wf
  intro TC10
  obtain ⟨c1_0, c1_1, c1_2, c1_3, c1_4, c1f, c1l⟩ := r7 TC10.out.2.1
  obtain ⟨c2_0, c2_1, c2_2, c2_3, c2_4, c2f, c2l⟩ := r7 TC10.out.2.2.1
  go_wp2
  refine bodyPost_ret (v := .tuple #[.agg #[.int .i64 4, .int .i64 0, .float .f64 0, .string ⟨#[]⟩, .slice p7 l c7], .agg #[.int .i64 2, .int .i64 0, .float .f64 (Flo.cop .sub FA G), .string ⟨#[]⟩, .slice none 0 0], .int .i64 0]) (by simp [results, Tryz.results38, go_sem, c1_0, c1_1, c1_2, c1_3, c1_4, c2_0, c2_1, c2_2, c2_3, c2_4]) rfl ⟨_, _, rfl, TC10.out.2.2.2.2.2.2.2.2.2, fun y _ hRy hst => ?_, fun y => flo_repn 0 y (Flo.cop_lt _ _ _)⟩
  have hr1 := (hst ge1 (by omega) (row_lt TC10.out.2.2.2.2.2.1)).trans TC10.out.2.2.2.2.2.1
  have hr2 := (hst ge2 (by omega) (row_lt TC10.out.2.2.2.2.2.2.1)).trans TC10.out.2.2.2.2.2.2.1
  have hY := HY.out y (fun b h1 h2 => (hst b (by omega) (Nat.lt_of_lt_of_le h2 TC10.out.2.2.2.2.2.2.2.2.1.2)).trans (TC10.out.2.2.2.2.2.2.2.2.1.1 b h1 h2))
  refine list_rep ?_
  rw [List.map_set, List.map_set]
  exact repL_mono (ro_rep3 hRy hr1 hr2 (txt_repn 0 _ (nm_size hna)) (flo_repn 0 _ (Flo.cop_lt _ _ _)) (txt_repn 0 _ (nm_size hnd)) (flo_repn 0 _ (Flo.cop_lt _ _ _))) hY
end Num
end Go.Proofs.YtpbfaffheigjcaaGreat
/-
  The reference: Do of a transfer on ledgers of floats.
-/
namespace Go.Proofs.YtpbfaffheigjcaaGreat
open Go.RowKit
namespace Num
open Ints
set_option linter.unusedSimpArgs false
set_option linter.unusedVariables false
theorem rc_name {k : ByteArray} (hk : nmV 3 k = true) : rcheckT 1 (nameV 0 k) = 0 := by
  unfold nmV at hk
  rw [Bool.and_eq_true, Bool.and_eq_true, decide_eq_true_iff, decide_eq_true_iff, decide_eq_true_iff] at hk
  obtain ⟨_, h1, h2⟩ := hk
  have g1 : greatT 1 0 ((3, 0, 0, k, []) : VT 1) = false := by rw [greatT_eq]; simp; omega
  have k1 : kindsT 1 ((3, 0, 0, k, []) : VT 1) = true := by rw [kindsT_eq]; simp
  have s1 : sizeT 1 ((3, 0, 0, k, []) : VT 1) = 3 + (k.size : Int) := by rw [sizeT_text rfl rfl]; unfold wrap64; omega
  have d1 : decide ((4096 : Int) < 3 + (k.size : Int)) = false := by rw [decide_eq_false_iff_not]; omega
  unfold rcheckT nameV
  rw [k1, g1, s1, d1]
  rfl
theorem rc_num {K I : Int} {F : Nat} (hK : isNum K = true) : rcheckT 1 ((K, I, F, ⟨#[]⟩, []) : VT 1) = 0 := by
  have h : K = 1 ∨ K = 2 := by
    unfold isNum at hK
    rw [Bool.or_eq_true] at hK
    rcases hK with h | h
    · exact Or.inl (by simpa using h)
    · exact Or.inr (by simpa using h)
  have g2 : greatT 1 0 ((K, I, F, ⟨#[]⟩, []) : VT 1) = false := by rcases h with rfl | rfl <;> (rw [greatT_eq]; simp)
  have k2 : kindsT 1 ((K, I, F, ⟨#[]⟩, []) : VT 1) = true := by rcases h with rfl | rfl <;> (rw [kindsT_eq]; simp)
  have s2 : sizeT 1 ((K, I, F, ⟨#[]⟩, []) : VT 1) = 9 := by rcases h with rfl | rfl <;> exact sizeT_num rfl
  unfold rcheckT
  rw [k2, g2, s2]
  rfl
theorem names_ne {NS : List ByteArray} (hn : Names NS) {a d : Nat} (ha : a < NS.length) (hd : d < NS.length) (h : a ≠ d) : (NS[a].toList == NS[d].toList) = false := by
  rcases Nat.lt_or_gt_of_ne h with h1 | h1
  · have h2 := ltB_ne (hn.2 a d ha hd h1)
    rw [beq_eq_false_iff_ne] at h2 ⊢
    exact fun e => h2 e.symm
  · exact ltB_ne (hn.2 d a hd ha h1)
theorem gr_small {n : Nat} {X : VT n} (h : partsT n X ≤ 1000) (dp : Nat) : greatP n dp X = false := by
  unfold greatP; rw [decide_eq_false_iff_not]; omega
set_option maxHeartbeats 2000000 in
theorem rdo_transfer {AS : List (ByteArray × Nat)} (hok : OkA AS) {s : Value} {pl : Option Addr} {cl : Nat} {ka kd : ByteArray} {K I : Int} {F FA FD : Nat} {w : World} (hs : Rep w 3 s (tableT 0 (ledA AS))) (hr : RepL w (Rep w 1) pl 3 cl [nameV 0 ka, nameV 0 kd, (K, I, F, ⟨#[]⟩, [])]) (hna : nmV 3 ka = true) (hnd : nmV 3 kd = true) (hK : isNum K = true) (hcl1 : cleanT 1 ((K, I, F, ⟨#[]⟩, []) : VT 1) = (K, I, F, ⟨#[]⟩, [])) (a d : Nat) (hal : a < AS.length) (hka : AS[a] = (ka, FA)) (hdl : d < AS.length) (hkd : AS[d] = (kd, FD)) :
    Calls Tryz.prog 13 #[.string { data := #[108, 101, 100, 103, 101, 114] }, s, .string { data := #[116, 114, 97, 110, 115, 102, 101, 114] }, .slice pl 3 cl] w fun e w' => RDo w (traV AS a d ka kd FA FD K I F).2.1 (traV AS a d ka kd FA FD K I F).2.2 (traV AS a d ka kd FA FD K I F).1 e w' := by
  obtain ⟨p, l, c, rfl, hrl⟩ := led_mem hs
  have hll := len_A hrl
  rw [ledA_len] at hll
  have hFA : FA < 9218868437227405312 := by have h := hok.2.2 _ (List.getElem_mem hal); rw [hka] at h; exact h
  have hFD : FD < 9218868437227405312 := by have h := hok.2.2 _ (List.getElem_mem hdl); rw [hkd] at h; exact h
  have hal' : a < (ledA AS).length := by rw [ledA_len]; exact hal
  have hdl' : d < (ledA AS).length := by rw [ledA_len]; exact hdl
  have hl32 := hok.2.1
  have hea := ledA_at hal hka hal'
  have hed := ledA_at hdl hkd hdl'
  have hspa : Spot ((ledA AS).map (·.1)) ka a true := by rw [ledA_names]; exact spot_at hok.1 (by rw [List.length_map]; exact hal) (by rw [List.getElem_map, hka])
  have hspd : Spot ((ledA AS).map (·.1)) kd d true := by rw [ledA_names]; exact spot_at hok.1 (by rw [List.length_map]; exact hdl) (by rw [List.getElem_map, hkd])
  have hi : okI I ∧ F < 2 ^ 64 := by
    obtain ⟨bl, ol, rfl, _⟩ := hr.2.2.2 (by omega)
    obtain ⟨K3, I3, F3, S3, q3, m3, d3, _, hv⟩ := arg_nth hr (i := 2) (by simp)
    obtain ⟨_, rfl, rfl, _, h1, h2⟩ := leaf_is (show Rep w 1 _ (K, I, F, ⟨#[]⟩, []) from hv)
    exact ⟨h1, h2⟩
  have HR := Lib.hid (fun W (hb : Below w.heap.size w W) => rright_led 0 _ _ W (rep_keep hb _ _ _ hs) (okA_R hok))
  have HK := Lib.hid (fun W (hb : Below w.heap.size w W) => (show Calls Tryz.prog 31 #[.string { data := #[108, 101, 100, 103, 101, 114] }, .string { data := #[116, 114, 97, 110, 115, 102, 101, 114] }, .slice pl 3 cl] W fun e w' => e = .returned (.int .i64 0) ∧ Below W.heap.size W w' by
    have h := rcheck_nnh 0 { data := #[116, 114, 97, 110, 115, 102, 101, 114] } { data := #[116, 114, 97, 110, 115, 102, 101, 114] } true rfl pl cl [nameV 0 ka, nameV 0 kd, (K, I, F, ⟨#[]⟩, [])] rfl W (repL_acc1 hb hr)
    have e : rchk8 0 [110, 110, 35] [nameV 0 ka, nameV 0 kd, (K, I, F, ⟨#[]⟩, [])] = 0 := by
      have h1 : rchkL 0 [nameV 0 ka, nameV 0 kd, (K, I, F, ⟨#[]⟩, [])] = 0 := by
        unfold rchkL; rw [if_pos (rc_name hna)]; unfold rchkL; rw [if_pos (rc_name hnd)]; unfold rchkL; rw [if_pos (rc_num hK)]; rfl
      unfold rchk8
      rw [if_pos h1]
      show (if (nmV 3 ka && (nmV 3 kd && (isNum K && true))) = true then (0 : Int) else 31) = 0
      rw [hna, hnd, hK]; rfl
    rw [e] at h
    exact h))
  have hcn : [nameV 0 ka, nameV 0 kd, (K, I, F, ⟨#[]⟩, [])].map (cleanT 1) = [nameV 0 ka, nameV 0 kd, (K, I, F, ⟨#[]⟩, [])] := by
    rw [List.map_cons, List.map_cons, List.map_cons, hcl1]; rfl
  have hgn : ∀ x ∈ [nameV 0 ka, nameV 0 kd, ((K, I, F, ⟨#[]⟩, []) : VT 1)], greatP 1 0 x = false := by
    intro x hx
    rcases List.mem_cons.1 hx with rfl | hx
    · exact gr_small (name_light 0 hna).2.2 0
    rcases List.mem_cons.1 hx with rfl | hx
    · exact gr_small (name_light 0 hnd).2.2 0
    rw [List.mem_singleton.1 hx]
    exact gr_small (num_light hK).2.2 0
  have hgr := gr_small (okA_cln hok).2.1 0
  have hcl := okA_clean hok
  -- what stands behind the roads: the list of accounts, the arguments, where they lie
  have pre : ∀ (W : World) (R : Value → VT 2 → Prop) (q : Option Addr) (m d2 : Nat) (pa : Option Addr) (la ca : Nat), RepL W R q m d2 ((ledA AS).map (pairE 0)) → (∀ v X, R v X → Rep W 2 v X) → RepL W (Rep W 1) pa la ca [nameV 0 ka, nameV 0 kd, (K, I, F, ⟨#[]⟩, [])] →
      m = AS.length ∧ la = 3 ∧ ∃ b off bl ol, q = some ⟨b, off, none⟩ ∧ pa = some ⟨bl, ol, none⟩ ∧ EntsL W q m ((ledA AS).map (·.1)) ∧ W.cell? ⟨bl, ol + 3, none⟩ = some (.string ka) ∧ W.cell? ⟨bl, ol + 5 + 3, none⟩ = some (.string kd) ∧ ∃ (q3 : Option Addr) (m3 d3 : Nat), W.cell? ⟨bl, ol + 10, none⟩ = some (.int .i64 K) ∧ W.cell? ⟨bl, ol + 10 + 1, none⟩ = some (.int .i64 I) ∧ W.cell? ⟨bl, ol + 10 + 2, none⟩ = some (.float .f64 F) ∧ W.cell? ⟨bl, ol + 10 + 3, none⟩ = some (.string ⟨#[]⟩) ∧ W.cell? ⟨bl, ol + 10 + 4, none⟩ = some (.slice q3 m3 d3) := by
    intro W R q m d2 pa la ca h1 h2 h3
    have hm : m = AS.length := by have := h1.1; rw [List.length_map, ledA_len] at this; exact this.symm
    have hla : la = 3 := h3.1.symm
    subst hla
    obtain ⟨b, off, rfl, _⟩ := h1.2.2.2 (by omega)
    obtain ⟨bl, ol, rfl, _⟩ := h3.2.2.2 (by omega)
    obtain ⟨n0, _⟩ := arg_nm h3 (i := 0) (by simp) rfl
    obtain ⟨n1, _⟩ := arg_nm h3 (i := 1) (by simp) rfl
    obtain ⟨K3, I3, F3, S3, q3, m3, d3, ⟨v0, v1, v2, v3, v4⟩, hv⟩ := arg_nth h3 (i := 2) (by simp)
    obtain ⟨rfl, rfl, rfl, rfl, _, _⟩ := leaf_is (show Rep W 1 _ (K, I, F, ⟨#[]⟩, []) from hv)
    simp only [Nat.zero_mul, Nat.one_mul, Nat.add_zero] at n0 n1 v0 v1 v2 v3 v4
    exact ⟨hm, rfl, b, off, bl, ol, rfl, rfl, ents_of (repL_mono h2 h1) (by omega), n0, n1, q3, m3, d3, v0, v1, v2, v3, v4⟩
  unfold traV
  by_cases h1 : finV K F = false ∨ signV K I F ≤ 0
  · rw [if_pos h1]
    refine rdo_bad p l c _ pl 3 cl w HR HK (ledA AS) (Lib.hid hs) hcl hgr _ (Lib.hid hr) hgn hcn (by omega) (nilT 2) (nilT 0) 35 (Lib.hid (fun W R q m d2 pa la ca hR hL hRW hN => ?_)) (by decide)
    obtain ⟨rfl, rfl, b, off, bl, ol, rfl, rfl, hE, n0, n1, q3, m3, d3, v0, v1, v2, v3, v4⟩ := pre W R q m d2 pa la ca hL (hRW W br) hN
    exact rtra_amount b off _ d2 a d bl ol ca ka kd K I F ⟨#[]⟩ q3 m3 d3 W n0 n1 v0 v1 v2 v3 v4 R (ledA AS) (by unfold amtV; rw [if_pos h1])
  rw [if_neg h1]
  have hf : finV K F = true := by cases h : finV K F; exact absurd (Or.inl h) h1; rfl
  have hsg : 0 < signV K I F := by have : ¬ signV K I F ≤ 0 := fun h => h1 (Or.inr h); omega
  have ham : amtV K I F = .tuple #[.float .f64 (asF K I F), .bool true] := by unfold amtV; rw [if_neg h1]
  obtain ⟨hA, hG⟩ := amt_of hi.2 hi.1 hf hsg
  cases h2 : (FloatKind.f64.format.order FA (asF K I F) == some .lt)
  · rw [if_neg (by decide)]
    by_cases h3 : a = d
    · subst h3
      obtain ⟨rfl, rfl⟩ : kd = ka ∧ FD = FA := by rw [hka] at hkd; exact ⟨(Prod.mk.inj hkd).1.symm, (Prod.mk.inj hkd).2.symm⟩
      rw [if_pos rfl]
      refine rdo_run p l c _ pl 3 cl w HR HK (ledA AS) (Lib.hid hs) hcl hgr _ (Lib.hid hr) hgn hcn (by omega) (tableT 0 (ledA AS)) (floT 0 FD) (Lib.hid (fun W R q m d2 pa la ca hR hL hRW hN => ?_))
      obtain ⟨rfl, rfl, b, off, bl, ol, rfl, rfl, hE, n0, n1, q3, m3, d3, v0, v1, v2, v3, v4⟩ := pre W R q m d2 pa la ca hL (hRW W br) hN
      obtain ⟨gc, oc, cgc, hacc⟩ := accC_of hL (hRW W br) hal' hea
      have hcells := hL
      exact rtra_same b off _ d2 a a bl ol ca kd kd K I F ⟨#[]⟩ q3 m3 d3 W n0 n1 v0 v1 v2 v3 v4 R (ledA AS) (asF K I F) FD ham hal hl32 (Lib.hid hE) hspa gc oc cgc hacc hspa h2 (beq_self_eq_true _) (by omega) (Lib.hid (Flo.canon_yes (feq_pos (Nat.le_of_lt hFA))))
    · rw [if_neg h3]
      have hkk : (ka.toList == kd.toList) = false := by
        have h := names_ne hok.1 (a := a) (d := d) (by rw [List.length_map]; exact hal) (by rw [List.length_map]; exact hdl) h3
        rw [List.getElem_map, List.getElem_map, hka, hkd] at h
        exact h
      have hle : FloatKind.f64.format.order FA (asF K I F) ≠ some .lt := by rw [beq_eq_false_iff_ne] at h2; exact h2
      have hsb := cop_sub hFA hG hle
      have had := cop_add (Nat.le_of_lt hFD) (Nat.le_of_lt hG)
      have hop1 : ∀ t W, (binOp .sub t (.float .f64 FA) (.float .f64 (asF K I F))).run Tryz.prog W = .ok (.float .f64 (Flo.cop .sub FA (asF K I F))) W := fun t W => run_float_arith W .sub t .f64 _ _ _ hsb.2
      have hop2 : ∀ t W, (binOp .add t (.float .f64 FD) (.float .f64 (asF K I F))).run Tryz.prog W = .ok (.float .f64 (Flo.cop .add FD (asF K I F))) W := fun t W => run_float_arith W .add t .f64 _ _ _ had.2
      cases h4 : finV 2 (Flo.cop .add FD (asF K I F))
      · rw [if_pos rfl]
        refine rdo_bad p l c _ pl 3 cl w HR HK (ledA AS) (Lib.hid hs) hcl hgr _ (Lib.hid hr) hgn hcn (by omega) (nilT 2) (nilT 0) 35 (Lib.hid (fun W R q m d2 pa la ca hR hL hRW hN => ?_)) (by decide)
        obtain ⟨rfl, rfl, b, off, bl, ol, rfl, rfl, hE, n0, n1, q3, m3, d3, v0, v1, v2, v3, v4⟩ := pre W R q m d2 pa la ca hL (hRW W br) hN
        obtain ⟨gc, oc, cgc, hacc⟩ := accC_of hL (hRW W br) hal' hea
        obtain ⟨gd, od, cgd, haccd⟩ := accC_of hL (hRW W br) hdl' hed
        exact rtra_sum b off _ d2 a d bl ol ca ka kd K I F ⟨#[]⟩ q3 m3 d3 W n0 n1 v0 v1 v2 v3 v4 R (ledA AS) (asF K I F) FA ham hal hl32 (Lib.hid hE) hspa gc oc cgc hacc hspd h2 hkk hdl FD gd od cgd haccd hop1 hop2 (Lib.hid (Flo.canon_cop _ _ _)) (Lib.hid (Flo.canon_cop _ _ _)) h4
      · rw [if_neg (by decide)]
        refine rdo_run p l c _ pl 3 cl w HR HK (ledA AS) (Lib.hid hs) hcl hgr _ (Lib.hid hr) hgn hcn (by omega) (tableT 0 (ledA ((AS.set a (ka, Flo.cop .sub FA (asF K I F))).set d (kd, Flo.cop .add FD (asF K I F))))) (floT 0 (Flo.cop .sub FA (asF K I F))) (Lib.hid (fun W R q m d2 pa la ca hR hL hRW hN => ?_))
        obtain ⟨rfl, rfl, b, off, bl, ol, rfl, rfl, hE, n0, n1, q3, m3, d3, v0, v1, v2, v3, v4⟩ := pre W R q m d2 pa la ca hL (hRW W br) hN
        obtain ⟨gc, oc, cgc, hacc⟩ := accC_of hL (hRW W br) hal' hea
        obtain ⟨gd, od, cgd, haccd⟩ := accC_of hL (hRW W br) hdl' hed
        have h := rtra_ok b off _ d2 a d bl ol ca ka kd K I F ⟨#[]⟩ q3 m3 d3 W n0 n1 v0 v1 v2 v3 v4 R (ledA AS) (asF K I F) FA ham hal hl32 (Lib.hid hE) hspa gc oc cgc hacc hspd h2 hkk hdl FD gd od cgd haccd hop1 hop2 (Lib.hid (Flo.canon_cop _ _ _)) (Lib.hid (Flo.canon_cop _ _ _)) h4 hR (Lib.hid hL) hna hnd
        rw [set_ledA, set_ledA] at h
        exact h
  · rw [if_pos rfl]
    refine rdo_bad p l c _ pl 3 cl w HR HK (ledA AS) (Lib.hid hs) hcl hgr _ (Lib.hid hr) hgn hcn (by omega) (nilT 2) (nilT 0) 36 (Lib.hid (fun W R q m d2 pa la ca hR hL hRW hN => ?_)) (by decide)
    obtain ⟨rfl, rfl, b, off, bl, ol, rfl, rfl, hE, n0, n1, q3, m3, d3, v0, v1, v2, v3, v4⟩ := pre W R q m d2 pa la ca hL (hRW W br) hN
    obtain ⟨gc, oc, cgc, hacc⟩ := accC_of hL (hRW W br) hal' hea
    exact rtra_funds b off _ d2 a d bl ol ca ka kd K I F ⟨#[]⟩ q3 m3 d3 W n0 n1 v0 v1 v2 v3 v4 R (ledA AS) (asF K I F) FA ham hal hl32 (Lib.hid hE) hspa gc oc cgc hacc hspd h2
end Num
end Go.Proofs.YtpbfaffheigjcaaGreat
