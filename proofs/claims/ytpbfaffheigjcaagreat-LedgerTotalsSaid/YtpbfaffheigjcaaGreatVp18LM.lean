/-
  The reference: a transfer.
-/
import Derived.Test.YtpbfaffheigjcaaGreatVMI
import Derived.Test.YtpbfaffheigjcaaGreatVp16YE
import Derived.Test.YtpbfaffheigjcaaGreatVp14LD
import Derived.Test.YtpbfaffheigjcaaGreatVp3VBase
import Derived.Test.YtpbfaffheigjcaaGreatVp17YU
import Derived.Deep.RegionHeld3
import Derived.RegionTactic
import Derived.Deep.DeepCutAuto
namespace Go.Proofs.YtpbfaffheigjcaaGreat
open Go.RowKit
namespace Num
open Ints
set_option linter.unusedSimpArgs false
set_option linter.unusedVariables false
theorem no_any (z : Int) (w : World) : Calls Tryz.prog 30 #[.int .i64 z] w fun e w' => e = .returned (.tuple #[.agg #[.int .i64 0, .int .i64 0, .float .f64 0, .string ⟨#[]⟩, .slice none 0 0], .agg #[.int .i64 0, .int .i64 0, .float .f64 0, .string ⟨#[]⟩, .slice none 0 0], .int .i64 z]) ∧ Below w.heap.size w w' := by
  go_enter Tryz.func30, Tryz.ntmps30
  go_wp2
  exact bodyPost_ret (v := .tuple #[.agg #[.int .i64 0, .int .i64 0, .float .f64 0, .string ⟨#[]⟩, .slice none 0 0], .agg #[.int .i64 0, .int .i64 0, .float .f64 0, .string ⟨#[]⟩, .slice none 0 0], .int .i64 z]) (by simp [results, Tryz.results30, go_sem]) rfl ⟨rfl, bel_alloc (bel_alloc br _) _⟩
def RLQ (W : World) (R : Value → VT 2 → Prop) (p : Option Addr) (l c : Nat) (L : List (VT 2)) (T : VT 3) (U : VT 1) (z : Int) (e : Ending) (w' : World) : Prop := ∃ t u, e = .returned (.tuple #[t, u, .int .i64 z]) ∧ Below W.heap.size W w' ∧ (∀ y, RepL y R p l c L → (∀ v T, R v T → Rep y 2 v T) → Stay W.heap.size w' y → Rep y 3 t T) ∧ ∀ y : World, Rep y 1 u U
def AccC (w : World) (b off a : Nat) (k : ByteArray) (F : Nat) (g o cg : Nat) : Prop := w.cell? ⟨b, off + a * 5, none⟩ = some (.int .i64 4) ∧ w.cell? ⟨b, off + a * 5 + 1, none⟩ = some (.int .i64 0) ∧ w.cell? ⟨b, off + a * 5 + 2, none⟩ = some (.float .f64 0) ∧ w.cell? ⟨b, off + a * 5 + 3, none⟩ = some (.string ⟨#[]⟩) ∧ w.cell? ⟨b, off + a * 5 + 4, none⟩ = some (.slice (some ⟨g, o, none⟩) 2 cg) ∧ w.cell? ⟨g, o + 3, none⟩ = some (.string k) ∧ w.cell? ⟨g, o + 5 + 2, none⟩ = some (.float .f64 F)
theorem accC_of {w : World} {b off l c a : Nat} {R : Value → VT 2 → Prop} {ES : List (ByteArray × VT 1)} (h : RepL w R (some ⟨b, off, none⟩) l c (ES.map (pairE 0))) (hR : ∀ v T, R v T → Rep w 2 v T) (ha : a < ES.length) {k : ByteArray} {F : Nat} (he : ES[a] = (k, floT 0 F)) : ∃ g o cg, AccC w b off a k F g o cg := by
  obtain ⟨g, o, cg, c0, c1, c2, c3, c4, hr⟩ := acc_at (n := 0) (repL_mono hR h) ha
  rw [he] at hr
  obtain ⟨g', o', cg', hv, ⟨_, _, _, n3, _⟩, _, K, I, F', Z, q, m, d, ⟨x0, x1, x2, x3, x4⟩, hr'⟩ := pair_mem hr
  injection hv with hv
  simp only [Array.mk.injEq, List.cons.injEq, and_true] at hv
  obtain ⟨_, _, _, _, e5⟩ := hv
  injection e5 with e5
  injection e5 with e5
  injection e5 with e6 e7
  subst e6 e7
  obtain ⟨_, _, e8, _⟩ := leaf_is (show Rep w 1 _ (2, 0, F, ⟨#[]⟩, []) from hr')
  rw [e8] at x2
  exact ⟨g, o, cg, c0, c1, c2, c3, c4, n3, x2⟩
theorem float_is {x : Nat} (h : Flo.canon x = x) (w : World) : Calls Tryz.prog 20 #[.float .f64 x] w fun e w' => e = .returned (.agg #[.int .i64 2, .int .i64 0, .float .f64 x, .string ⟨#[]⟩, .slice none 0 0]) ∧ Below w.heap.size w w' := by
  have h1 := float_ref_any x w
  rw [h] at h1
  exact h1
theorem amount_is8 {K3 I3 : Int} {F3 : Nat} {v : Value} (h : amtV K3 I3 F3 = v) (S3 : ByteArray) (q3 : Option Addr) (m3 d3 : Nat) (w : World) : Calls Tryz.prog 71 #[.agg #[.int .i64 K3, .int .i64 I3, .float .f64 F3, .string S3, .slice q3 m3 d3]] w fun e w' => e = .returned v ∧ Below w.heap.size w w' := by
  have h1 := amount_any K3 I3 F3 S3 q3 m3 d3 w
  rw [h] at h1
  exact h1
theorem ro_rep3 {ge1 ge2 : Nat} {R : Value → VT 2 → Prop} {k1 k2 : ByteArray} {V1 V2 : VT 1} {y : World} {u0 u1 u2 u3 u4 v0 v1 v2 v3 v4 x0 x1 x2 x3 x4 z0 z1 z2 z3 z4 : Value} (hR : ∀ v T, R v T → Rep y 2 v T)
    (h1 : y.heap[ge1]? = some (.cells #[u0, u1, u2, u3, u4, v0, v1, v2, v3, v4] 27 (0, 0))) (h2 : y.heap[ge2]? = some (.cells #[x0, x1, x2, x3, x4, z0, z1, z2, z3, z4] 27 (0, 0)))
    (hk1 : Rep y 1 (.agg #[u0, u1, u2, u3, u4]) (3, 0, 0, k1, [])) (hv1 : Rep y 1 (.agg #[v0, v1, v2, v3, v4]) V1) (hk2 : Rep y 1 (.agg #[x0, x1, x2, x3, x4]) (3, 0, 0, k2, [])) (hv2 : Rep y 1 (.agg #[z0, z1, z2, z3, z4]) V2) :
    ∀ v T, RO 0 ge2 (RO 0 ge1 R k1 V1) k2 V2 v T → Rep y 2 v T := by
  rintro v T ((h | ⟨rfl, rfl⟩) | ⟨rfl, rfl⟩)
  · exact hR _ _ h
  · exact list_rep (row2_rep h1 hk1 hv1)
  · exact list_rep (row2_rep h2 hk2 hv2)
set_option maxRecDepth 100000 in
set_option maxHeartbeats 8000000 in
theorem rtra_funds (b off l c a d bl ol cl : Nat) (ka kd : ByteArray) (K3 I3 : Int) (F3 : Nat) (S3 : ByteArray) (q3 : Option Addr) (m3 d3 : Nat) (w : World) (n0 : w.cell? ⟨bl, ol + 3, none⟩ = some (.string ka)) (n1 : w.cell? ⟨bl, ol + 5 + 3, none⟩ = some (.string kd)) (v0 : w.cell? ⟨bl, ol + 10, none⟩ = some (.int .i64 K3)) (v1 : w.cell? ⟨bl, ol + 10 + 1, none⟩ = some (.int .i64 I3)) (v2 : w.cell? ⟨bl, ol + 10 + 2, none⟩ = some (.float .f64 F3)) (v3 : w.cell? ⟨bl, ol + 10 + 3, none⟩ = some (.string S3)) (v4 : w.cell? ⟨bl, ol + 10 + 4, none⟩ = some (.slice q3 m3 d3)) (R : Value → VT 2 → Prop) (ES : List (ByteArray × VT 1)) (G FA : Nat) (ha : amtV K3 I3 F3 = .tuple #[.float .f64 G, .bool true]) (hal : a < l) (hl : l ≤ 32) (HE : Hid (EntsL w (some ⟨b, off, none⟩) l (ES.map (·.1)))) (hs : Spot (ES.map (·.1)) ka a true) (gc oc cgc : Nat) (hc : AccC w b off a ka FA gc oc cgc) (hsd : Spot (ES.map (·.1)) kd d true) (hls : (FloatKind.f64.format.order FA G == some .lt) = true) :
    Calls Tryz.prog 38 #[.agg #[.int .i64 4, .int .i64 0, .float .f64 0, .string ⟨#[]⟩, .slice (some ⟨b, off, none⟩) l c], .string { data := #[116, 114, 97, 110, 115, 102, 101, 114] }, .slice (some ⟨bl, ol, none⟩) 3 cl] w fun e w' => RLQ w R (some ⟨b, off, none⟩) l c (ES.map (pairE 0)) (nilT 2) (nilT 0) 36 e w' := by
  have TR1 := Lib.hid (show (fun z0 : World => ZL z0 w.heap.size (some ⟨b, off, none⟩) l c ∧ Zz z0 (w.heap.size + 1) ∧ Zz z0 (w.heap.size + 1 + 1) ∧ Below w.heap.size w z0) (((w.alloc (.cells #[.int .i64 4, .int .i64 0, .float .f64 0, .string ⟨#[]⟩, .slice (some ⟨b, off, none⟩) l c] 27)).alloc (.cells #[.int .i64 0, .int .i64 0, .float .f64 0, .string ⟨#[]⟩, .slice none 0 0] 27)).alloc (.cells #[.int .i64 0, .int .i64 0, .float .f64 0, .string ⟨#[]⟩, .slice none 0 0] 27)) from ⟨row_alloc_step (row_alloc_step (row_alloc w #[.int .i64 4, .int .i64 0, .float .f64 0, .string ⟨#[]⟩, .slice (some ⟨b, off, none⟩) l c] 27) _) _, (row_alloc_step (ra (by simp only [World.size_alloc, World.size_drew])) _), (ra (by simp only [World.size_alloc, World.size_drew])), bel_alloc (bel_alloc (bel_alloc (Below.refl w.heap.size w) _) _) _⟩)
  have hbl : bl < w.heap.size := cell_lt v0
  have HV := Lib.hid (show ∀ W, Below w.heap.size w W → W.cell? ⟨bl, ol + 10, none⟩ = some (.int .i64 K3) ∧ W.cell? ⟨bl, ol + 10 + 1, none⟩ = some (.int .i64 I3) ∧ W.cell? ⟨bl, ol + 10 + 2, none⟩ = some (.float .f64 F3) ∧ W.cell? ⟨bl, ol + 10 + 3, none⟩ = some (.string S3) ∧ W.cell? ⟨bl, ol + 10 + 4, none⟩ = some (.slice q3 m3 d3) from fun W hb => ⟨ck hb v0, ck hb v1, ck hb v2, ck hb v3, ck hb v4⟩)
  have HNN := Lib.hid (show ∀ W, Below w.heap.size w W → W.cell? ⟨bl, ol + 3, none⟩ = some (.string ka) ∧ W.cell? ⟨bl, ol + 5 + 3, none⟩ = some (.string kd) from fun W hb => ⟨ck hb n0, ck hb n1⟩)
  have HA := Lib.hid ha
  clear v0 v1 v2 v3 v4 n0 n1 ha
  have HS := Lib.hid hs
  have HC := Lib.hid hc
  clear hs hc
  have Hc0 := Lib.hid HC.out.1
  have Hc1 := Lib.hid HC.out.2.1
  have Hc2 := Lib.hid HC.out.2.2.1
  have Hc3 := Lib.hid HC.out.2.2.2.1
  have Hc4 := Lib.hid HC.out.2.2.2.2.1
  have Hc5 := Lib.hid HC.out.2.2.2.2.2.1
  have Hc6 := Lib.hid HC.out.2.2.2.2.2.2
  have hbc := cell_lt HC.out.1
  have hgc := cell_lt HC.out.2.2.2.2.2.1
  have hc1 : (0 : Int) ≤ (a : Int) := by omega
  have hc2 : (a : Int) < (l : Int) := by omega
  have HSD := Lib.hid hsd
  clear hsd
  obtain ⟨e0, e1, e2, e3, e4⟩ := HV.out _ TR1.out.2.2.2
  go_enter Tryz.func38, Tryz.ntmps38
  clear e0 e1 e2 e3 e4
  obtain ⟨e0, e1, e2, e3, e4⟩ := HV.out _ br
  have ebl : bl < w.heap.size := cell_lt e0
  have ene0 : w.heap.size ≠ bl := by omega
  have ene1 : w.heap.size + 1 ≠ bl := by omega
  have ene2 : w.heap.size + 1 + 1 ≠ bl := by omega
  have elt1 : bl < w.heap.size + 1 := by omega
  have elt2 : bl < w.heap.size + 1 + 1 := by omega
  go_wp2_with fail
  go_at_call 71; refine (amount_is8 HA.out S3 q3 m3 d3 _).mono ?_; rintro e w211 ⟨rfl, hbw211⟩
  have TR2 := Lib.hid (And.intro (row_step TR1.out.1 hbw211) (And.intro (row_step TR1.out.2.1 hbw211) (And.intro (row_step TR1.out.2.2.1 hbw211) (bel_step TR1.out.2.2.2 hbw211))))
  clear TR1
  clear hbw211
  clear e0 e1 e2 e3 e4
  have en := (HNN.out _ TR2.out.2.2.2).1
  have enl := cell_lt en
  obtain ⟨c0_0, c0_1, c0_2, c0_3, c0_4, c0f, c0l⟩ := r7 TR2.out.1
  go_wp2_with fail
  go_at_call 68; refine (at_any 4 0 0 _ _ l c a (ES.map (·.1)) ka true _ (entsL_step HE.out TR2.out.2.2.2) HS.out).mono ?_; rintro e w212 ⟨rfl, hbw212⟩
  have TR3 := Lib.hid (And.intro (row_step TR2.out.1 hbw212) (And.intro (row_step TR2.out.2.1 hbw212) (And.intro (row_step TR2.out.2.2.1 hbw212) (bel_step TR2.out.2.2.2 hbw212))))
  clear TR2
  clear hbw212
  clear en enl
  clear c0_0 c0_1 c0_2 c0_3 c0_4 c0f c0l
  obtain ⟨c0_0, c0_1, c0_2, c0_3, c0_4, c0f, c0l⟩ := r7 TR3.out.1
  have ec4 := ck TR3.out.2.2.2 Hc4.out
  have ec6 := ck TR3.out.2.2.2 Hc6.out
  have ecl := cell_lt ec4
  have ecm := cell_lt ec6
  have en := (HNN.out _ TR3.out.2.2.2).2
  have enl := cell_lt en
  go_wp2_with fail
  go_at_call 68; refine (at_any 4 0 0 _ _ l c d (ES.map (·.1)) kd true _ (entsL_step HE.out TR3.out.2.2.2) HSD.out).mono ?_; rintro e w213 ⟨rfl, hbw213⟩
  have TR4 := Lib.hid (And.intro (row_step TR3.out.1 hbw213) (And.intro (row_step TR3.out.2.1 hbw213) (And.intro (row_step TR3.out.2.2.1 hbw213) (bel_step TR3.out.2.2.2 hbw213))))
  clear TR3
  clear hbw213
  clear en enl
  clear c0_0 c0_1 c0_2 c0_3 c0_4 c0f c0l
  clear ec4 ec6 ecl ecm
  go_wp2_with fail
  go_at_call 30; refine (no_any _ _).mono ?_; rintro e w214 ⟨rfl, hbw214⟩
  have TR5 := Lib.hid (And.intro (row_step TR4.out.1 hbw214) (And.intro (row_step TR4.out.2.1 hbw214) (And.intro (row_step TR4.out.2.2.1 hbw214) (bel_step TR4.out.2.2.2 hbw214))))
  clear TR4
  clear hbw214
  obtain ⟨c1_0, c1_1, c1_2, c1_3, c1_4, c1f, c1l⟩ := r7 TR5.out.2.1
  obtain ⟨c2_0, c2_1, c2_2, c2_3, c2_4, c2f, c2l⟩ := r7 TR5.out.2.2.1
  go_wp2
  refine bodyPost_ret (v := .tuple #[.agg #[.int .i64 0, .int .i64 0, .float .f64 0, .string ⟨#[]⟩, .slice none 0 0], .agg #[.int .i64 0, .int .i64 0, .float .f64 0, .string ⟨#[]⟩, .slice none 0 0], .int .i64 36]) (by simp [results, Tryz.results38, go_sem, World.cell?_setCell_same, World.cell?_setCell_other, c1_0, c1_1, c1_2, c1_3, c1_4, c2_0, c2_1, c2_2, c2_3, c2_4]) rfl ⟨_, _, rfl, ?_, fun y _ _ _ => repS_rep _ _ _ (nil_rep 2 (fun _ => True) y), fun y => repS_rep _ _ _ (nil_rep 0 (fun _ => True) y)⟩
  exact set5_below (g := w.heap.size + 1 + 1) (o := 0) (set5_below (g := w.heap.size + 1) (o := 0) TR5.out.2.2.2 (by omega) _ _ _ _ _) (by omega) _ _ _ _ _
set_option maxRecDepth 100000 in
set_option maxHeartbeats 8000000 in
theorem rtra_same (b off l c a d bl ol cl : Nat) (ka kd : ByteArray) (K3 I3 : Int) (F3 : Nat) (S3 : ByteArray) (q3 : Option Addr) (m3 d3 : Nat) (w : World) (n0 : w.cell? ⟨bl, ol + 3, none⟩ = some (.string ka)) (n1 : w.cell? ⟨bl, ol + 5 + 3, none⟩ = some (.string kd)) (v0 : w.cell? ⟨bl, ol + 10, none⟩ = some (.int .i64 K3)) (v1 : w.cell? ⟨bl, ol + 10 + 1, none⟩ = some (.int .i64 I3)) (v2 : w.cell? ⟨bl, ol + 10 + 2, none⟩ = some (.float .f64 F3)) (v3 : w.cell? ⟨bl, ol + 10 + 3, none⟩ = some (.string S3)) (v4 : w.cell? ⟨bl, ol + 10 + 4, none⟩ = some (.slice q3 m3 d3)) (R : Value → VT 2 → Prop) (ES : List (ByteArray × VT 1)) (G FA : Nat) (ha : amtV K3 I3 F3 = .tuple #[.float .f64 G, .bool true]) (hal : a < l) (hl : l ≤ 32) (HE : Hid (EntsL w (some ⟨b, off, none⟩) l (ES.map (·.1)))) (hs : Spot (ES.map (·.1)) ka a true) (gc oc cgc : Nat) (hc : AccC w b off a ka FA gc oc cgc) (hsd : Spot (ES.map (·.1)) kd d true) (hls : (FloatKind.f64.format.order FA G == some .lt) = false) (hkk : (ka.toList == kd.toList) = true) (hFA : FA < 2 ^ 64) (HCN : Hid (Flo.canon FA = FA)) :
    Calls Tryz.prog 38 #[.agg #[.int .i64 4, .int .i64 0, .float .f64 0, .string ⟨#[]⟩, .slice (some ⟨b, off, none⟩) l c], .string { data := #[116, 114, 97, 110, 115, 102, 101, 114] }, .slice (some ⟨bl, ol, none⟩) 3 cl] w fun e w' => RLQ w R (some ⟨b, off, none⟩) l c (ES.map (pairE 0)) (tableT 0 ES) (floT 0 FA) 0 e w' := by
  have TR1 := Lib.hid (show (fun z0 : World => ZL z0 w.heap.size (some ⟨b, off, none⟩) l c ∧ Zz z0 (w.heap.size + 1) ∧ Zz z0 (w.heap.size + 1 + 1) ∧ Below w.heap.size w z0) (((w.alloc (.cells #[.int .i64 4, .int .i64 0, .float .f64 0, .string ⟨#[]⟩, .slice (some ⟨b, off, none⟩) l c] 27)).alloc (.cells #[.int .i64 0, .int .i64 0, .float .f64 0, .string ⟨#[]⟩, .slice none 0 0] 27)).alloc (.cells #[.int .i64 0, .int .i64 0, .float .f64 0, .string ⟨#[]⟩, .slice none 0 0] 27)) from ⟨row_alloc_step (row_alloc_step (row_alloc w #[.int .i64 4, .int .i64 0, .float .f64 0, .string ⟨#[]⟩, .slice (some ⟨b, off, none⟩) l c] 27) _) _, (row_alloc_step (ra (by simp only [World.size_alloc, World.size_drew])) _), (ra (by simp only [World.size_alloc, World.size_drew])), bel_alloc (bel_alloc (bel_alloc (Below.refl w.heap.size w) _) _) _⟩)
  have hbl : bl < w.heap.size := cell_lt v0
  have HV := Lib.hid (show ∀ W, Below w.heap.size w W → W.cell? ⟨bl, ol + 10, none⟩ = some (.int .i64 K3) ∧ W.cell? ⟨bl, ol + 10 + 1, none⟩ = some (.int .i64 I3) ∧ W.cell? ⟨bl, ol + 10 + 2, none⟩ = some (.float .f64 F3) ∧ W.cell? ⟨bl, ol + 10 + 3, none⟩ = some (.string S3) ∧ W.cell? ⟨bl, ol + 10 + 4, none⟩ = some (.slice q3 m3 d3) from fun W hb => ⟨ck hb v0, ck hb v1, ck hb v2, ck hb v3, ck hb v4⟩)
  have HNN := Lib.hid (show ∀ W, Below w.heap.size w W → W.cell? ⟨bl, ol + 3, none⟩ = some (.string ka) ∧ W.cell? ⟨bl, ol + 5 + 3, none⟩ = some (.string kd) from fun W hb => ⟨ck hb n0, ck hb n1⟩)
  have HA := Lib.hid ha
  clear v0 v1 v2 v3 v4 n0 n1 ha
  have HS := Lib.hid hs
  have HC := Lib.hid hc
  clear hs hc
  have Hc0 := Lib.hid HC.out.1
  have Hc1 := Lib.hid HC.out.2.1
  have Hc2 := Lib.hid HC.out.2.2.1
  have Hc3 := Lib.hid HC.out.2.2.2.1
  have Hc4 := Lib.hid HC.out.2.2.2.2.1
  have Hc5 := Lib.hid HC.out.2.2.2.2.2.1
  have Hc6 := Lib.hid HC.out.2.2.2.2.2.2
  have hbc := cell_lt HC.out.1
  have hgc := cell_lt HC.out.2.2.2.2.2.1
  have hc1 : (0 : Int) ≤ (a : Int) := by omega
  have hc2 : (a : Int) < (l : Int) := by omega
  have HSD := Lib.hid hsd
  clear hsd
  obtain ⟨e0, e1, e2, e3, e4⟩ := HV.out _ TR1.out.2.2.2
  go_enter Tryz.func38, Tryz.ntmps38
  clear e0 e1 e2 e3 e4
  obtain ⟨e0, e1, e2, e3, e4⟩ := HV.out _ br
  have ebl : bl < w.heap.size := cell_lt e0
  have ene0 : w.heap.size ≠ bl := by omega
  have ene1 : w.heap.size + 1 ≠ bl := by omega
  have ene2 : w.heap.size + 1 + 1 ≠ bl := by omega
  have elt1 : bl < w.heap.size + 1 := by omega
  have elt2 : bl < w.heap.size + 1 + 1 := by omega
  go_wp2_with fail
  go_at_call 71; refine (amount_is8 HA.out S3 q3 m3 d3 _).mono ?_; rintro e w215 ⟨rfl, hbw215⟩
  have TR2 := Lib.hid (And.intro (row_step TR1.out.1 hbw215) (And.intro (row_step TR1.out.2.1 hbw215) (And.intro (row_step TR1.out.2.2.1 hbw215) (bel_step TR1.out.2.2.2 hbw215))))
  clear TR1
  clear hbw215
  clear e0 e1 e2 e3 e4
  have en := (HNN.out _ TR2.out.2.2.2).1
  have enl := cell_lt en
  obtain ⟨c0_0, c0_1, c0_2, c0_3, c0_4, c0f, c0l⟩ := r7 TR2.out.1
  go_wp2_with fail
  go_at_call 68; refine (at_any 4 0 0 _ _ l c a (ES.map (·.1)) ka true _ (entsL_step HE.out TR2.out.2.2.2) HS.out).mono ?_; rintro e w216 ⟨rfl, hbw216⟩
  have TR3 := Lib.hid (And.intro (row_step TR2.out.1 hbw216) (And.intro (row_step TR2.out.2.1 hbw216) (And.intro (row_step TR2.out.2.2.1 hbw216) (bel_step TR2.out.2.2.2 hbw216))))
  clear TR2
  clear hbw216
  clear en enl
  clear c0_0 c0_1 c0_2 c0_3 c0_4 c0f c0l
  obtain ⟨c0_0, c0_1, c0_2, c0_3, c0_4, c0f, c0l⟩ := r7 TR3.out.1
  have ec4 := ck TR3.out.2.2.2 Hc4.out
  have ec6 := ck TR3.out.2.2.2 Hc6.out
  have ecl := cell_lt ec4
  have ecm := cell_lt ec6
  have en := (HNN.out _ TR3.out.2.2.2).2
  have enl := cell_lt en
  go_wp2_with fail
  go_at_call 68; refine (at_any 4 0 0 _ _ l c d (ES.map (·.1)) kd true _ (entsL_step HE.out TR3.out.2.2.2) HSD.out).mono ?_; rintro e w217 ⟨rfl, hbw217⟩
  have TR4 := Lib.hid (And.intro (row_step TR3.out.1 hbw217) (And.intro (row_step TR3.out.2.1 hbw217) (And.intro (row_step TR3.out.2.2.1 hbw217) (bel_step TR3.out.2.2.2 hbw217))))
  clear TR3
  clear hbw217
  clear en enl
  clear c0_0 c0_1 c0_2 c0_3 c0_4 c0f c0l
  clear ec4 ec6 ecl ecm
  go_upto_region 48 with fail
  have TR5 := Lib.hid (And.intro (row_step TR4.out.1 (show Below w217.heap.size w217 w217.drew from Below.drew br)) (And.intro (row_step TR4.out.2.1 (show Below w217.heap.size w217 w217.drew from Below.drew br)) (And.intro (row_step TR4.out.2.2.1 (show Below w217.heap.size w217 w217.drew from Below.drew br)) (bel_step TR4.out.2.2.2 (show Below w217.heap.size w217 w217.drew from Below.drew br)))))
  clear TR4
  refine wp_region_held_drew (S := (fun z => z.cell? ⟨w.heap.size, 0, none⟩ = some (.int .i64 4) ∧ z.cell? ⟨w.heap.size, 1, none⟩ = some (.int .i64 0) ∧ z.cell? ⟨w.heap.size, 2, none⟩ = some (.float .f64 0) ∧ z.cell? ⟨w.heap.size, 3, none⟩ = some (.string ⟨#[]⟩) ∧ z.cell? ⟨w.heap.size, 4, none⟩ = some (.slice (some ⟨b, off, none⟩) l c))) (by kernel_rfl) ?_ (fun hH => ?_)
  · exact ⟨rc TR5.out.1 0, rc TR5.out.1 1, rc TR5.out.1 2, rc TR5.out.1 3, rc TR5.out.1 4⟩
  refine zt [0, 1] ?_
  iterate 2 (refine zt1 (fun _ _ d _ _ h => by cases d <;> exact h) (by simp only [lk0, lk1, lk2]; rfl) (by kernel_rfl) (by assumption) (by rfl) (fun w h => by (try dsimp only at h); go_simp; (try with_reducible rfl)) ?_; (try simp only [Act.put, pk0, pk1, pk2]))
  refine zt0 ?_
  refine zr1 2 (by kernel_rfl) (by simp only [lk0, lk1, lk2]; rfl) (fun K hK => ?_)
  go_simp
  go_at_call 20; refine (float_is HCN.out _).mono ?_; rintro e w221 ⟨rfl, hbw221⟩
  have TR6 := Lib.hid (And.intro (row_step TR5.out.1 hbw221) (And.intro (row_step TR5.out.2.1 hbw221) (And.intro (row_step TR5.out.2.2.1 hbw221) (bel_step TR5.out.2.2.2 hbw221))))
  clear TR5
  clear hbw221
  go_wp2_with fail
  refine hK.out _ _ ?hsv220_ (fun hH => ?_)
  case hsv220_ => exact ⟨rc TR6.out.1 0, rc TR6.out.1 1, rc TR6.out.1 2, rc TR6.out.1 3, rc TR6.out.1 4⟩
  clear hK K
  (try simp only [Act.put, pk0, pk1, pk2])
  refine zr1 3 (by kernel_rfl) (by simp only [lk0, lk1, lk2]; rfl) (fun K hK => ?_)
  obtain ⟨b30, b31, b32, b33, b34, b3f, b3l⟩ := r7 TR6.out.2.1; go_simp
  have TR7 := Lib.hid (show (fun z0 : World => ZL z0 w.heap.size (some ⟨b, off, none⟩) l c ∧ ZL z0 (w.heap.size + 1) (some ⟨b, off, none⟩) l c ∧ Zz z0 (w.heap.size + 1 + 1) ∧ Below w.heap.size w z0) (((((w221.setCell ⟨w.heap.size + 1, 0, none⟩ (.int .i64 4)).setCell ⟨w.heap.size + 1, 1, none⟩ (.int .i64 0)).setCell ⟨w.heap.size + 1, 2, none⟩ (.float .f64 0)).setCell ⟨w.heap.size + 1, 3, none⟩ (.string ⟨#[]⟩)).setCell ⟨w.heap.size + 1, 4, none⟩ (.slice (some ⟨b, off, none⟩) l c)) from ⟨s5o TR6.out.1 (by omega), s5r TR6.out.2.1, s5o TR6.out.2.2.1 (by omega), s5b TR6.out.2.2.2 (by omega)⟩)
  clear TR6
  clear b30 b31 b32 b33 b34 b3f b3l
  go_wp2_with fail
  refine hK.out _ _ ?hsv222_ (fun hH => ?_)
  case hsv222_ => exact ⟨rc TR7.out.1 0, rc TR7.out.1 1, rc TR7.out.1 2, rc TR7.out.1 3, rc TR7.out.1 4⟩
  clear hK K
  (try simp only [Act.put, pk0, pk1, pk2])
  refine zr1 4 (by kernel_rfl) (by simp only [lk0, lk1, lk2]; rfl) (fun K hK => ?_)
  obtain ⟨b30, b31, b32, b33, b34, b3f, b3l⟩ := r7 TR7.out.2.2.1; go_simp
  have TR8 := Lib.hid (show (fun z0 : World => ZL z0 w.heap.size (some ⟨b, off, none⟩) l c ∧ ZL z0 (w.heap.size + 1) (some ⟨b, off, none⟩) l c ∧ ZF z0 (w.heap.size + 1 + 1) FA ∧ Below w.heap.size w z0) ((((((((((w221.setCell ⟨w.heap.size + 1, 0, none⟩ (.int .i64 4)).setCell ⟨w.heap.size + 1, 1, none⟩ (.int .i64 0)).setCell ⟨w.heap.size + 1, 2, none⟩ (.float .f64 0)).setCell ⟨w.heap.size + 1, 3, none⟩ (.string ⟨#[]⟩)).setCell ⟨w.heap.size + 1, 4, none⟩ (.slice (some ⟨b, off, none⟩) l c)).setCell ⟨w.heap.size + 1 + 1, 0, none⟩ (.int .i64 2)).setCell ⟨w.heap.size + 1 + 1, 1, none⟩ (.int .i64 0)).setCell ⟨w.heap.size + 1 + 1, 2, none⟩ (.float .f64 FA)).setCell ⟨w.heap.size + 1 + 1, 3, none⟩ (.string ⟨#[]⟩)).setCell ⟨w.heap.size + 1 + 1, 4, none⟩ (.slice none 0 0)) from ⟨s5o TR7.out.1 (by omega), s5o TR7.out.2.1 (by omega), s5r TR7.out.2.2.1, s5b TR7.out.2.2.2 (by omega)⟩)
  clear TR7
  clear b30 b31 b32 b33 b34 b3f b3l
  go_wp2_with fail
  refine hK.out _ _ ?hsv223_ (fun hH => ?_)
  case hsv223_ => exact ⟨rc TR8.out.1 0, rc TR8.out.1 1, rc TR8.out.1 2, rc TR8.out.1 3, rc TR8.out.1 4⟩
  clear hK K
  (try simp only [Act.put, pk0, pk1, pk2])
  refine zt [5] ?_
  refine zt1 (fun _ _ d _ _ h => by cases d <;> exact h) (by simp only [lk0, lk1, lk2]; rfl) (by kernel_rfl) (by assumption) (by rfl) (fun w h => by (try dsimp only at h); go_simp; (try with_reducible rfl)) ?_; (try simp only [Act.put, pk0, pk1, pk2])
  refine zt0 ?_
  refine wpAnyH_done (by kernel_rfl) ?_ _
  revert TR8
  generalize ((((((((((w221.setCell ⟨w.heap.size + 1, 0, none⟩ (.int .i64 4)).setCell ⟨w.heap.size + 1, 1, none⟩ (.int .i64 0)).setCell ⟨w.heap.size + 1, 2, none⟩ (.float .f64 0)).setCell ⟨w.heap.size + 1, 3, none⟩ (.string ⟨#[]⟩)).setCell ⟨w.heap.size + 1, 4, none⟩ (.slice (some ⟨b, off, none⟩) l c)).setCell ⟨w.heap.size + 1 + 1, 0, none⟩ (.int .i64 2)).setCell ⟨w.heap.size + 1 + 1, 1, none⟩ (.int .i64 0)).setCell ⟨w.heap.size + 1 + 1, 2, none⟩ (.float .f64 FA)).setCell ⟨w.heap.size + 1 + 1, 3, none⟩ (.string ⟨#[]⟩)).setCell ⟨w.heap.size + 1 + 1, 4, none⟩ (.slice none 0 0)) = Wf
  intro TR8
  obtain ⟨c1_0, c1_1, c1_2, c1_3, c1_4, c1f, c1l⟩ := r7 TR8.out.2.1
  obtain ⟨c2_0, c2_1, c2_2, c2_3, c2_4, c2f, c2l⟩ := r7 TR8.out.2.2.1
  go_wp2
  refine bodyPost_ret (v := .tuple #[.agg #[.int .i64 4, .int .i64 0, .float .f64 0, .string ⟨#[]⟩, .slice (some ⟨b, off, none⟩) l c], .agg #[.int .i64 2, .int .i64 0, .float .f64 FA, .string ⟨#[]⟩, .slice none 0 0], .int .i64 0]) (by simp [results, Tryz.results38, go_sem, c1_0, c1_1, c1_2, c1_3, c1_4, c2_0, c2_1, c2_2, c2_3, c2_4]) rfl ⟨_, _, rfl, TR8.out.2.2.2, fun y hLy hy _ => list_rep (repL_mono hy hLy), fun y => flo_repn 0 y hFA⟩
end Num
end Go.Proofs.YtpbfaffheigjcaaGreat
/-
  The reference: a ledger's other methods (refusals).
-/
namespace Go.Proofs.YtpbfaffheigjcaaGreat
open Go.RowKit
namespace Num
open Ints
set_option linter.unusedSimpArgs false
set_option linter.unusedVariables false
set_option maxRecDepth 100000 in
set_option maxHeartbeats 8000000 in
theorem rbal_none (b off l c a d bl ol cl : Nat) (p : Option Addr) (ka kd : ByteArray) (K3 I3 : Int) (F3 : Nat) (S3 : ByteArray) (q3 : Option Addr) (m3 d3 : Nat) (w : World) (n0 : w.cell? ⟨bl, ol + 3, none⟩ = some (.string ka))  (R : Value → VT 2 → Prop) (ES : List (ByteArray × VT 1)) (hl : l ≤ 32) (HE : Hid (EntsL w p l (ES.map (·.1)))) (hs : Spot (ES.map (·.1)) ka a false) :
    Calls Tryz.prog 38 #[.agg #[.int .i64 4, .int .i64 0, .float .f64 0, .string ⟨#[]⟩, .slice p l c], .string { data := #[98, 97, 108, 97, 110, 99, 101] }, .slice (some ⟨bl, ol, none⟩) 1 cl] w fun e w' => RLQ w R p l c (ES.map (pairE 0)) (nilT 2) (nilT 0) 30 e w' := by
  have TR1 := Lib.hid (show (fun z0 : World => ZL z0 w.heap.size p l c ∧ Zz z0 (w.heap.size + 1) ∧ Zz z0 (w.heap.size + 1 + 1) ∧ Below w.heap.size w z0) (((w.alloc (.cells #[.int .i64 4, .int .i64 0, .float .f64 0, .string ⟨#[]⟩, .slice p l c] 27)).alloc (.cells #[.int .i64 0, .int .i64 0, .float .f64 0, .string ⟨#[]⟩, .slice none 0 0] 27)).alloc (.cells #[.int .i64 0, .int .i64 0, .float .f64 0, .string ⟨#[]⟩, .slice none 0 0] 27)) from ⟨row_alloc_step (row_alloc_step (row_alloc w #[.int .i64 4, .int .i64 0, .float .f64 0, .string ⟨#[]⟩, .slice p l c] 27) _) _, (row_alloc_step (ra (by simp only [World.size_alloc, World.size_drew])) _), (ra (by simp only [World.size_alloc, World.size_drew])), bel_alloc (bel_alloc (bel_alloc (Below.refl w.heap.size w) _) _) _⟩)
  have hbl : bl < w.heap.size := cell_lt n0
  have HNN := Lib.hid (show ∀ W, Below w.heap.size w W → W.cell? ⟨bl, ol + 3, none⟩ = some (.string ka) from fun W hb => ck hb n0)
  clear n0
  have HS := Lib.hid hs
  clear hs
  go_enter Tryz.func38, Tryz.ntmps38
  have ene0 : w.heap.size ≠ bl := by omega
  have ene1 : w.heap.size + 1 ≠ bl := by omega
  have ene2 : w.heap.size + 1 + 1 ≠ bl := by omega
  have elt1 : bl < w.heap.size + 1 := by omega
  have elt2 : bl < w.heap.size + 1 + 1 := by omega
  have ebl := hbl
  have en := HNN.out _ br
  go_wp2_with fail
  go_at_call 68; refine (at_any 4 0 0 _ _ l c a (ES.map (·.1)) ka false _ (entsL_step HE.out TR1.out.2.2.2) HS.out).mono ?_; rintro e w1 ⟨rfl, hbw1⟩
  have TR2 := Lib.hid (And.intro (row_step TR1.out.1 hbw1) (And.intro (row_step TR1.out.2.1 hbw1) (And.intro (row_step TR1.out.2.2.1 hbw1) (bel_step TR1.out.2.2.2 hbw1))))
  clear TR1
  clear hbw1
  clear en
  go_wp2_with fail
  go_at_call 30; refine (no_any _ _).mono ?_; rintro e w2 ⟨rfl, hbw2⟩
  have TR3 := Lib.hid (And.intro (row_step TR2.out.1 hbw2) (And.intro (row_step TR2.out.2.1 hbw2) (And.intro (row_step TR2.out.2.2.1 hbw2) (bel_step TR2.out.2.2.2 hbw2))))
  clear TR2
  clear hbw2
  obtain ⟨c1_0, c1_1, c1_2, c1_3, c1_4, c1f, c1l⟩ := r7 TR3.out.2.1
  obtain ⟨c2_0, c2_1, c2_2, c2_3, c2_4, c2f, c2l⟩ := r7 TR3.out.2.2.1
  go_wp2
  refine bodyPost_ret (v := .tuple #[.agg #[.int .i64 0, .int .i64 0, .float .f64 0, .string ⟨#[]⟩, .slice none 0 0], .agg #[.int .i64 0, .int .i64 0, .float .f64 0, .string ⟨#[]⟩, .slice none 0 0], .int .i64 30]) (by simp [results, Tryz.results38, go_sem, World.cell?_setCell_same, World.cell?_setCell_other, c1_0, c1_1, c1_2, c1_3, c1_4, c2_0, c2_1, c2_2, c2_3, c2_4]) rfl ⟨_, _, rfl, ?_, fun y _ _ _ => repS_rep _ _ _ (nil_rep 2 (fun _ => True) y), fun y => repS_rep _ _ _ (nil_rep 0 (fun _ => True) y)⟩
  exact set5_below (g := w.heap.size + 1 + 1) (o := 0) (set5_below (g := w.heap.size + 1) (o := 0) TR3.out.2.2.2 (by omega) _ _ _ _ _) (by omega) _ _ _ _ _
set_option maxRecDepth 100000 in
set_option maxHeartbeats 8000000 in
theorem rclo_none (b off l c a d bl ol cl : Nat) (p : Option Addr) (ka kd : ByteArray) (K3 I3 : Int) (F3 : Nat) (S3 : ByteArray) (q3 : Option Addr) (m3 d3 : Nat) (w : World) (n0 : w.cell? ⟨bl, ol + 3, none⟩ = some (.string ka))  (R : Value → VT 2 → Prop) (ES : List (ByteArray × VT 1)) (hl : l ≤ 32) (HE : Hid (EntsL w p l (ES.map (·.1)))) (hs : Spot (ES.map (·.1)) ka a false) :
    Calls Tryz.prog 38 #[.agg #[.int .i64 4, .int .i64 0, .float .f64 0, .string ⟨#[]⟩, .slice p l c], .string { data := #[99, 108, 111, 115, 101] }, .slice (some ⟨bl, ol, none⟩) 1 cl] w fun e w' => RLQ w R p l c (ES.map (pairE 0)) (nilT 2) (nilT 0) 30 e w' := by
  have TR1 := Lib.hid (show (fun z0 : World => ZL z0 w.heap.size p l c ∧ Zz z0 (w.heap.size + 1) ∧ Zz z0 (w.heap.size + 1 + 1) ∧ Below w.heap.size w z0) (((w.alloc (.cells #[.int .i64 4, .int .i64 0, .float .f64 0, .string ⟨#[]⟩, .slice p l c] 27)).alloc (.cells #[.int .i64 0, .int .i64 0, .float .f64 0, .string ⟨#[]⟩, .slice none 0 0] 27)).alloc (.cells #[.int .i64 0, .int .i64 0, .float .f64 0, .string ⟨#[]⟩, .slice none 0 0] 27)) from ⟨row_alloc_step (row_alloc_step (row_alloc w #[.int .i64 4, .int .i64 0, .float .f64 0, .string ⟨#[]⟩, .slice p l c] 27) _) _, (row_alloc_step (ra (by simp only [World.size_alloc, World.size_drew])) _), (ra (by simp only [World.size_alloc, World.size_drew])), bel_alloc (bel_alloc (bel_alloc (Below.refl w.heap.size w) _) _) _⟩)
  have hbl : bl < w.heap.size := cell_lt n0
  have HNN := Lib.hid (show ∀ W, Below w.heap.size w W → W.cell? ⟨bl, ol + 3, none⟩ = some (.string ka) from fun W hb => ck hb n0)
  clear n0
  have HS := Lib.hid hs
  clear hs
  go_enter Tryz.func38, Tryz.ntmps38
  have ene0 : w.heap.size ≠ bl := by omega
  have ene1 : w.heap.size + 1 ≠ bl := by omega
  have ene2 : w.heap.size + 1 + 1 ≠ bl := by omega
  have elt1 : bl < w.heap.size + 1 := by omega
  have elt2 : bl < w.heap.size + 1 + 1 := by omega
  have ebl := hbl
  have en := HNN.out _ br
  go_wp2_with fail
  go_at_call 68; refine (at_any 4 0 0 _ _ l c a (ES.map (·.1)) ka false _ (entsL_step HE.out TR1.out.2.2.2) HS.out).mono ?_; rintro e w3 ⟨rfl, hbw3⟩
  have TR2 := Lib.hid (And.intro (row_step TR1.out.1 hbw3) (And.intro (row_step TR1.out.2.1 hbw3) (And.intro (row_step TR1.out.2.2.1 hbw3) (bel_step TR1.out.2.2.2 hbw3))))
  clear TR1
  clear hbw3
  clear en
  go_wp2_with fail
  go_at_call 30; refine (no_any _ _).mono ?_; rintro e w4 ⟨rfl, hbw4⟩
  have TR3 := Lib.hid (And.intro (row_step TR2.out.1 hbw4) (And.intro (row_step TR2.out.2.1 hbw4) (And.intro (row_step TR2.out.2.2.1 hbw4) (bel_step TR2.out.2.2.2 hbw4))))
  clear TR2
  clear hbw4
  obtain ⟨c1_0, c1_1, c1_2, c1_3, c1_4, c1f, c1l⟩ := r7 TR3.out.2.1
  obtain ⟨c2_0, c2_1, c2_2, c2_3, c2_4, c2f, c2l⟩ := r7 TR3.out.2.2.1
  go_wp2
  refine bodyPost_ret (v := .tuple #[.agg #[.int .i64 0, .int .i64 0, .float .f64 0, .string ⟨#[]⟩, .slice none 0 0], .agg #[.int .i64 0, .int .i64 0, .float .f64 0, .string ⟨#[]⟩, .slice none 0 0], .int .i64 30]) (by simp [results, Tryz.results38, go_sem, World.cell?_setCell_same, World.cell?_setCell_other, c1_0, c1_1, c1_2, c1_3, c1_4, c2_0, c2_1, c2_2, c2_3, c2_4]) rfl ⟨_, _, rfl, ?_, fun y _ _ _ => repS_rep _ _ _ (nil_rep 2 (fun _ => True) y), fun y => repS_rep _ _ _ (nil_rep 0 (fun _ => True) y)⟩
  exact set5_below (g := w.heap.size + 1 + 1) (o := 0) (set5_below (g := w.heap.size + 1) (o := 0) TR3.out.2.2.2 (by omega) _ _ _ _ _) (by omega) _ _ _ _ _
set_option maxRecDepth 100000 in
set_option maxHeartbeats 8000000 in
theorem rdep_none (b off l c a d bl ol cl : Nat) (p : Option Addr) (ka kd : ByteArray) (K3 I3 : Int) (F3 : Nat) (S3 : ByteArray) (q3 : Option Addr) (m3 d3 : Nat) (w : World) (n0 : w.cell? ⟨bl, ol + 3, none⟩ = some (.string ka)) (v0 : w.cell? ⟨bl, ol + 5, none⟩ = some (.int .i64 K3)) (v1 : w.cell? ⟨bl, ol + 5 + 1, none⟩ = some (.int .i64 I3)) (v2 : w.cell? ⟨bl, ol + 5 + 2, none⟩ = some (.float .f64 F3)) (v3 : w.cell? ⟨bl, ol + 5 + 3, none⟩ = some (.string S3)) (v4 : w.cell? ⟨bl, ol + 5 + 4, none⟩ = some (.slice q3 m3 d3)) (R : Value → VT 2 → Prop) (ES : List (ByteArray × VT 1)) (hl : l ≤ 32) (HE : Hid (EntsL w p l (ES.map (·.1)))) (hs : Spot (ES.map (·.1)) ka a false) (G : Nat) (ha : amtV K3 I3 F3 = .tuple #[.float .f64 G, .bool true]) :
    Calls Tryz.prog 38 #[.agg #[.int .i64 4, .int .i64 0, .float .f64 0, .string ⟨#[]⟩, .slice p l c], .string { data := #[100, 101, 112, 111, 115, 105, 116] }, .slice (some ⟨bl, ol, none⟩) 2 cl] w fun e w' => RLQ w R p l c (ES.map (pairE 0)) (nilT 2) (nilT 0) 30 e w' := by
  have TR1 := Lib.hid (show (fun z0 : World => ZL z0 w.heap.size p l c ∧ Zz z0 (w.heap.size + 1) ∧ Zz z0 (w.heap.size + 1 + 1) ∧ Below w.heap.size w z0) (((w.alloc (.cells #[.int .i64 4, .int .i64 0, .float .f64 0, .string ⟨#[]⟩, .slice p l c] 27)).alloc (.cells #[.int .i64 0, .int .i64 0, .float .f64 0, .string ⟨#[]⟩, .slice none 0 0] 27)).alloc (.cells #[.int .i64 0, .int .i64 0, .float .f64 0, .string ⟨#[]⟩, .slice none 0 0] 27)) from ⟨row_alloc_step (row_alloc_step (row_alloc w #[.int .i64 4, .int .i64 0, .float .f64 0, .string ⟨#[]⟩, .slice p l c] 27) _) _, (row_alloc_step (ra (by simp only [World.size_alloc, World.size_drew])) _), (ra (by simp only [World.size_alloc, World.size_drew])), bel_alloc (bel_alloc (bel_alloc (Below.refl w.heap.size w) _) _) _⟩)
  have HV := Lib.hid (show ∀ W, Below w.heap.size w W → W.cell? ⟨bl, ol + 5, none⟩ = some (.int .i64 K3) ∧ W.cell? ⟨bl, ol + 5 + 1, none⟩ = some (.int .i64 I3) ∧ W.cell? ⟨bl, ol + 5 + 2, none⟩ = some (.float .f64 F3) ∧ W.cell? ⟨bl, ol + 5 + 3, none⟩ = some (.string S3) ∧ W.cell? ⟨bl, ol + 5 + 4, none⟩ = some (.slice q3 m3 d3) from fun W hb => ⟨ck hb v0, ck hb v1, ck hb v2, ck hb v3, ck hb v4⟩)
  have HA := Lib.hid ha
  clear v0 v1 v2 v3 v4 ha
  have hbl : bl < w.heap.size := cell_lt n0
  have HNN := Lib.hid (show ∀ W, Below w.heap.size w W → W.cell? ⟨bl, ol + 3, none⟩ = some (.string ka) from fun W hb => ck hb n0)
  clear n0
  have HS := Lib.hid hs
  clear hs
  go_enter Tryz.func38, Tryz.ntmps38
  obtain ⟨e0, e1, e2, e3, e4⟩ := HV.out _ br
  have ebl : bl < w.heap.size := cell_lt e0
  have ene0 : w.heap.size ≠ bl := by omega
  have ene1 : w.heap.size + 1 ≠ bl := by omega
  have ene2 : w.heap.size + 1 + 1 ≠ bl := by omega
  have elt1 : bl < w.heap.size + 1 := by omega
  have elt2 : bl < w.heap.size + 1 + 1 := by omega
  go_wp2_with fail
  go_at_call 71; refine (amount_is8 HA.out S3 q3 m3 d3 _).mono ?_; rintro e w5 ⟨rfl, hbw5⟩
  have TR2 := Lib.hid (And.intro (row_step TR1.out.1 hbw5) (And.intro (row_step TR1.out.2.1 hbw5) (And.intro (row_step TR1.out.2.2.1 hbw5) (bel_step TR1.out.2.2.2 hbw5))))
  clear TR1
  clear hbw5
  clear e0 e1 e2 e3 e4
  have en := HNN.out _ TR2.out.2.2.2
  have enl := cell_lt en
  obtain ⟨c0_0, c0_1, c0_2, c0_3, c0_4, c0f, c0l⟩ := r7 TR2.out.1
  go_wp2_with fail
  go_at_call 68; refine (at_any 4 0 0 _ _ l c a (ES.map (·.1)) ka false _ (entsL_step HE.out TR2.out.2.2.2) HS.out).mono ?_; rintro e w6 ⟨rfl, hbw6⟩
  have TR3 := Lib.hid (And.intro (row_step TR2.out.1 hbw6) (And.intro (row_step TR2.out.2.1 hbw6) (And.intro (row_step TR2.out.2.2.1 hbw6) (bel_step TR2.out.2.2.2 hbw6))))
  clear TR2
  clear hbw6
  clear en enl
  clear c0_0 c0_1 c0_2 c0_3 c0_4 c0f c0l
  go_wp2_with fail
  go_at_call 30; refine (no_any _ _).mono ?_; rintro e w7 ⟨rfl, hbw7⟩
  have TR4 := Lib.hid (And.intro (row_step TR3.out.1 hbw7) (And.intro (row_step TR3.out.2.1 hbw7) (And.intro (row_step TR3.out.2.2.1 hbw7) (bel_step TR3.out.2.2.2 hbw7))))
  clear TR3
  clear hbw7
  obtain ⟨c1_0, c1_1, c1_2, c1_3, c1_4, c1f, c1l⟩ := r7 TR4.out.2.1
  obtain ⟨c2_0, c2_1, c2_2, c2_3, c2_4, c2f, c2l⟩ := r7 TR4.out.2.2.1
  go_wp2
  refine bodyPost_ret (v := .tuple #[.agg #[.int .i64 0, .int .i64 0, .float .f64 0, .string ⟨#[]⟩, .slice none 0 0], .agg #[.int .i64 0, .int .i64 0, .float .f64 0, .string ⟨#[]⟩, .slice none 0 0], .int .i64 30]) (by simp [results, Tryz.results38, go_sem, World.cell?_setCell_same, World.cell?_setCell_other, c1_0, c1_1, c1_2, c1_3, c1_4, c2_0, c2_1, c2_2, c2_3, c2_4]) rfl ⟨_, _, rfl, ?_, fun y _ _ _ => repS_rep _ _ _ (nil_rep 2 (fun _ => True) y), fun y => repS_rep _ _ _ (nil_rep 0 (fun _ => True) y)⟩
  exact set5_below (g := w.heap.size + 1 + 1) (o := 0) (set5_below (g := w.heap.size + 1) (o := 0) TR4.out.2.2.2 (by omega) _ _ _ _ _) (by omega) _ _ _ _ _
set_option maxRecDepth 100000 in
set_option maxHeartbeats 8000000 in
theorem rtra_none (b off l c a d bl ol cl : Nat) (p : Option Addr) (ka kd : ByteArray) (K3 I3 : Int) (F3 : Nat) (S3 : ByteArray) (q3 : Option Addr) (m3 d3 : Nat) (w : World) (n0 : w.cell? ⟨bl, ol + 3, none⟩ = some (.string ka)) (n1 : w.cell? ⟨bl, ol + 5 + 3, none⟩ = some (.string kd)) (v0 : w.cell? ⟨bl, ol + 10, none⟩ = some (.int .i64 K3)) (v1 : w.cell? ⟨bl, ol + 10 + 1, none⟩ = some (.int .i64 I3)) (v2 : w.cell? ⟨bl, ol + 10 + 2, none⟩ = some (.float .f64 F3)) (v3 : w.cell? ⟨bl, ol + 10 + 3, none⟩ = some (.string S3)) (v4 : w.cell? ⟨bl, ol + 10 + 4, none⟩ = some (.slice q3 m3 d3)) (R : Value → VT 2 → Prop) (ES : List (ByteArray × VT 1)) (hl : l ≤ 32) (HE : Hid (EntsL w p l (ES.map (·.1)))) (hs : Spot (ES.map (·.1)) ka a false) (G : Nat) (ha : amtV K3 I3 F3 = .tuple #[.float .f64 G, .bool true]) :
    Calls Tryz.prog 38 #[.agg #[.int .i64 4, .int .i64 0, .float .f64 0, .string ⟨#[]⟩, .slice p l c], .string { data := #[116, 114, 97, 110, 115, 102, 101, 114] }, .slice (some ⟨bl, ol, none⟩) 3 cl] w fun e w' => RLQ w R p l c (ES.map (pairE 0)) (nilT 2) (nilT 0) 30 e w' := by
  have TR1 := Lib.hid (show (fun z0 : World => ZL z0 w.heap.size p l c ∧ Zz z0 (w.heap.size + 1) ∧ Zz z0 (w.heap.size + 1 + 1) ∧ Below w.heap.size w z0) (((w.alloc (.cells #[.int .i64 4, .int .i64 0, .float .f64 0, .string ⟨#[]⟩, .slice p l c] 27)).alloc (.cells #[.int .i64 0, .int .i64 0, .float .f64 0, .string ⟨#[]⟩, .slice none 0 0] 27)).alloc (.cells #[.int .i64 0, .int .i64 0, .float .f64 0, .string ⟨#[]⟩, .slice none 0 0] 27)) from ⟨row_alloc_step (row_alloc_step (row_alloc w #[.int .i64 4, .int .i64 0, .float .f64 0, .string ⟨#[]⟩, .slice p l c] 27) _) _, (row_alloc_step (ra (by simp only [World.size_alloc, World.size_drew])) _), (ra (by simp only [World.size_alloc, World.size_drew])), bel_alloc (bel_alloc (bel_alloc (Below.refl w.heap.size w) _) _) _⟩)
  have HV := Lib.hid (show ∀ W, Below w.heap.size w W → W.cell? ⟨bl, ol + 10, none⟩ = some (.int .i64 K3) ∧ W.cell? ⟨bl, ol + 10 + 1, none⟩ = some (.int .i64 I3) ∧ W.cell? ⟨bl, ol + 10 + 2, none⟩ = some (.float .f64 F3) ∧ W.cell? ⟨bl, ol + 10 + 3, none⟩ = some (.string S3) ∧ W.cell? ⟨bl, ol + 10 + 4, none⟩ = some (.slice q3 m3 d3) from fun W hb => ⟨ck hb v0, ck hb v1, ck hb v2, ck hb v3, ck hb v4⟩)
  have HA := Lib.hid ha
  clear v0 v1 v2 v3 v4 ha
  have hbl : bl < w.heap.size := cell_lt n0
  have HNN := Lib.hid (show ∀ W, Below w.heap.size w W → W.cell? ⟨bl, ol + 3, none⟩ = some (.string ka) from fun W hb => ck hb n0)
  clear n0
  have HN1 := Lib.hid (show ∀ W, Below w.heap.size w W → W.cell? ⟨bl, ol + 5 + 3, none⟩ = some (.string kd) from fun W hb => ck hb n1)
  clear n1
  have HS := Lib.hid hs
  clear hs
  go_enter Tryz.func38, Tryz.ntmps38
  obtain ⟨e0, e1, e2, e3, e4⟩ := HV.out _ br
  have ebl : bl < w.heap.size := cell_lt e0
  have ene0 : w.heap.size ≠ bl := by omega
  have ene1 : w.heap.size + 1 ≠ bl := by omega
  have ene2 : w.heap.size + 1 + 1 ≠ bl := by omega
  have elt1 : bl < w.heap.size + 1 := by omega
  have elt2 : bl < w.heap.size + 1 + 1 := by omega
  go_wp2_with fail
  go_at_call 71; refine (amount_is8 HA.out S3 q3 m3 d3 _).mono ?_; rintro e w8 ⟨rfl, hbw8⟩
  have TR2 := Lib.hid (And.intro (row_step TR1.out.1 hbw8) (And.intro (row_step TR1.out.2.1 hbw8) (And.intro (row_step TR1.out.2.2.1 hbw8) (bel_step TR1.out.2.2.2 hbw8))))
  clear TR1
  clear hbw8
  clear e0 e1 e2 e3 e4
  have en := HNN.out _ TR2.out.2.2.2
  have enl := cell_lt en
  obtain ⟨c0_0, c0_1, c0_2, c0_3, c0_4, c0f, c0l⟩ := r7 TR2.out.1
  go_wp2_with fail
  go_at_call 68; refine (at_any 4 0 0 _ _ l c a (ES.map (·.1)) ka false _ (entsL_step HE.out TR2.out.2.2.2) HS.out).mono ?_; rintro e w9 ⟨rfl, hbw9⟩
  have TR3 := Lib.hid (And.intro (row_step TR2.out.1 hbw9) (And.intro (row_step TR2.out.2.1 hbw9) (And.intro (row_step TR2.out.2.2.1 hbw9) (bel_step TR2.out.2.2.2 hbw9))))
  clear TR2
  clear hbw9
  clear en enl
  clear c0_0 c0_1 c0_2 c0_3 c0_4 c0f c0l
  go_wp2_with fail
  go_at_call 30; refine (no_any _ _).mono ?_; rintro e w10 ⟨rfl, hbw10⟩
  have TR4 := Lib.hid (And.intro (row_step TR3.out.1 hbw10) (And.intro (row_step TR3.out.2.1 hbw10) (And.intro (row_step TR3.out.2.2.1 hbw10) (bel_step TR3.out.2.2.2 hbw10))))
  clear TR3
  clear hbw10
  obtain ⟨c1_0, c1_1, c1_2, c1_3, c1_4, c1f, c1l⟩ := r7 TR4.out.2.1
  obtain ⟨c2_0, c2_1, c2_2, c2_3, c2_4, c2f, c2l⟩ := r7 TR4.out.2.2.1
  go_wp2
  refine bodyPost_ret (v := .tuple #[.agg #[.int .i64 0, .int .i64 0, .float .f64 0, .string ⟨#[]⟩, .slice none 0 0], .agg #[.int .i64 0, .int .i64 0, .float .f64 0, .string ⟨#[]⟩, .slice none 0 0], .int .i64 30]) (by simp [results, Tryz.results38, go_sem, World.cell?_setCell_same, World.cell?_setCell_other, c1_0, c1_1, c1_2, c1_3, c1_4, c2_0, c2_1, c2_2, c2_3, c2_4]) rfl ⟨_, _, rfl, ?_, fun y _ _ _ => repS_rep _ _ _ (nil_rep 2 (fun _ => True) y), fun y => repS_rep _ _ _ (nil_rep 0 (fun _ => True) y)⟩
  exact set5_below (g := w.heap.size + 1 + 1) (o := 0) (set5_below (g := w.heap.size + 1) (o := 0) TR4.out.2.2.2 (by omega) _ _ _ _ _) (by omega) _ _ _ _ _
set_option maxRecDepth 100000 in
set_option maxHeartbeats 8000000 in
theorem rope_is (b off l c a d bl ol cl : Nat) (p : Option Addr) (ka kd : ByteArray) (K3 I3 : Int) (F3 : Nat) (S3 : ByteArray) (q3 : Option Addr) (m3 d3 : Nat) (w : World) (n0 : w.cell? ⟨bl, ol + 3, none⟩ = some (.string ka))  (R : Value → VT 2 → Prop) (ES : List (ByteArray × VT 1)) (hl : l ≤ 32) (HE : Hid (EntsL w p l (ES.map (·.1)))) (hs : Spot (ES.map (·.1)) ka a true) :
    Calls Tryz.prog 38 #[.agg #[.int .i64 4, .int .i64 0, .float .f64 0, .string ⟨#[]⟩, .slice p l c], .string { data := #[111, 112, 101, 110] }, .slice (some ⟨bl, ol, none⟩) 1 cl] w fun e w' => RLQ w R p l c (ES.map (pairE 0)) (nilT 2) (nilT 0) 32 e w' := by
  have TR1 := Lib.hid (show (fun z0 : World => ZL z0 w.heap.size p l c ∧ Zz z0 (w.heap.size + 1) ∧ Zz z0 (w.heap.size + 1 + 1) ∧ Below w.heap.size w z0) (((w.alloc (.cells #[.int .i64 4, .int .i64 0, .float .f64 0, .string ⟨#[]⟩, .slice p l c] 27)).alloc (.cells #[.int .i64 0, .int .i64 0, .float .f64 0, .string ⟨#[]⟩, .slice none 0 0] 27)).alloc (.cells #[.int .i64 0, .int .i64 0, .float .f64 0, .string ⟨#[]⟩, .slice none 0 0] 27)) from ⟨row_alloc_step (row_alloc_step (row_alloc w #[.int .i64 4, .int .i64 0, .float .f64 0, .string ⟨#[]⟩, .slice p l c] 27) _) _, (row_alloc_step (ra (by simp only [World.size_alloc, World.size_drew])) _), (ra (by simp only [World.size_alloc, World.size_drew])), bel_alloc (bel_alloc (bel_alloc (Below.refl w.heap.size w) _) _) _⟩)
  have hbl : bl < w.heap.size := cell_lt n0
  have HNN := Lib.hid (show ∀ W, Below w.heap.size w W → W.cell? ⟨bl, ol + 3, none⟩ = some (.string ka) from fun W hb => ck hb n0)
  clear n0
  have HS := Lib.hid hs
  clear hs
  go_enter Tryz.func38, Tryz.ntmps38
  have ene0 : w.heap.size ≠ bl := by omega
  have ene1 : w.heap.size + 1 ≠ bl := by omega
  have ene2 : w.heap.size + 1 + 1 ≠ bl := by omega
  have elt1 : bl < w.heap.size + 1 := by omega
  have elt2 : bl < w.heap.size + 1 + 1 := by omega
  have ebl := hbl
  have en := HNN.out _ br
  go_wp2_with fail
  go_at_call 68; refine (at_any 4 0 0 _ _ l c a (ES.map (·.1)) ka true _ (entsL_step HE.out TR1.out.2.2.2) HS.out).mono ?_; rintro e w11 ⟨rfl, hbw11⟩
  have TR2 := Lib.hid (And.intro (row_step TR1.out.1 hbw11) (And.intro (row_step TR1.out.2.1 hbw11) (And.intro (row_step TR1.out.2.2.1 hbw11) (bel_step TR1.out.2.2.2 hbw11))))
  clear TR1
  clear hbw11
  clear en
  go_wp2_with fail
  go_at_call 30; refine (no_any _ _).mono ?_; rintro e w12 ⟨rfl, hbw12⟩
  have TR3 := Lib.hid (And.intro (row_step TR2.out.1 hbw12) (And.intro (row_step TR2.out.2.1 hbw12) (And.intro (row_step TR2.out.2.2.1 hbw12) (bel_step TR2.out.2.2.2 hbw12))))
  clear TR2
  clear hbw12
  obtain ⟨c1_0, c1_1, c1_2, c1_3, c1_4, c1f, c1l⟩ := r7 TR3.out.2.1
  obtain ⟨c2_0, c2_1, c2_2, c2_3, c2_4, c2f, c2l⟩ := r7 TR3.out.2.2.1
  go_wp2
  refine bodyPost_ret (v := .tuple #[.agg #[.int .i64 0, .int .i64 0, .float .f64 0, .string ⟨#[]⟩, .slice none 0 0], .agg #[.int .i64 0, .int .i64 0, .float .f64 0, .string ⟨#[]⟩, .slice none 0 0], .int .i64 32]) (by simp [results, Tryz.results38, go_sem, World.cell?_setCell_same, World.cell?_setCell_other, c1_0, c1_1, c1_2, c1_3, c1_4, c2_0, c2_1, c2_2, c2_3, c2_4]) rfl ⟨_, _, rfl, ?_, fun y _ _ _ => repS_rep _ _ _ (nil_rep 2 (fun _ => True) y), fun y => repS_rep _ _ _ (nil_rep 0 (fun _ => True) y)⟩
  exact set5_below (g := w.heap.size + 1 + 1) (o := 0) (set5_below (g := w.heap.size + 1) (o := 0) TR3.out.2.2.2 (by omega) _ _ _ _ _) (by omega) _ _ _ _ _
set_option maxRecDepth 100000 in
set_option maxHeartbeats 8000000 in
theorem rope_full (b off l c a d bl ol cl : Nat) (p : Option Addr) (ka kd : ByteArray) (K3 I3 : Int) (F3 : Nat) (S3 : ByteArray) (q3 : Option Addr) (m3 d3 : Nat) (w : World) (n0 : w.cell? ⟨bl, ol + 3, none⟩ = some (.string ka))  (R : Value → VT 2 → Prop) (ES : List (ByteArray × VT 1)) (hl : l ≤ 32) (HE : Hid (EntsL w p l (ES.map (·.1)))) (hs : Spot (ES.map (·.1)) ka a false) (hfull : 32 ≤ l) :
    Calls Tryz.prog 38 #[.agg #[.int .i64 4, .int .i64 0, .float .f64 0, .string ⟨#[]⟩, .slice p l c], .string { data := #[111, 112, 101, 110] }, .slice (some ⟨bl, ol, none⟩) 1 cl] w fun e w' => RLQ w R p l c (ES.map (pairE 0)) (nilT 2) (nilT 0) 33 e w' := by
  have TR1 := Lib.hid (show (fun z0 : World => ZL z0 w.heap.size p l c ∧ Zz z0 (w.heap.size + 1) ∧ Zz z0 (w.heap.size + 1 + 1) ∧ Below w.heap.size w z0) (((w.alloc (.cells #[.int .i64 4, .int .i64 0, .float .f64 0, .string ⟨#[]⟩, .slice p l c] 27)).alloc (.cells #[.int .i64 0, .int .i64 0, .float .f64 0, .string ⟨#[]⟩, .slice none 0 0] 27)).alloc (.cells #[.int .i64 0, .int .i64 0, .float .f64 0, .string ⟨#[]⟩, .slice none 0 0] 27)) from ⟨row_alloc_step (row_alloc_step (row_alloc w #[.int .i64 4, .int .i64 0, .float .f64 0, .string ⟨#[]⟩, .slice p l c] 27) _) _, (row_alloc_step (ra (by simp only [World.size_alloc, World.size_drew])) _), (ra (by simp only [World.size_alloc, World.size_drew])), bel_alloc (bel_alloc (bel_alloc (Below.refl w.heap.size w) _) _) _⟩)
  have hbl : bl < w.heap.size := cell_lt n0
  have HNN := Lib.hid (show ∀ W, Below w.heap.size w W → W.cell? ⟨bl, ol + 3, none⟩ = some (.string ka) from fun W hb => ck hb n0)
  clear n0
  have HS := Lib.hid hs
  clear hs
  have hll : (32 : Int) ≤ (l : Int) := by omega
  go_enter Tryz.func38, Tryz.ntmps38
  have ene0 : w.heap.size ≠ bl := by omega
  have ene1 : w.heap.size + 1 ≠ bl := by omega
  have ene2 : w.heap.size + 1 + 1 ≠ bl := by omega
  have elt1 : bl < w.heap.size + 1 := by omega
  have elt2 : bl < w.heap.size + 1 + 1 := by omega
  have ebl := hbl
  have en := HNN.out _ br
  go_wp2_with fail
  go_at_call 68; refine (at_any 4 0 0 _ _ l c a (ES.map (·.1)) ka false _ (entsL_step HE.out TR1.out.2.2.2) HS.out).mono ?_; rintro e w13 ⟨rfl, hbw13⟩
  have TR2 := Lib.hid (And.intro (row_step TR1.out.1 hbw13) (And.intro (row_step TR1.out.2.1 hbw13) (And.intro (row_step TR1.out.2.2.1 hbw13) (bel_step TR1.out.2.2.2 hbw13))))
  clear TR1
  clear hbw13
  clear en
  obtain ⟨c0_0, c0_1, c0_2, c0_3, c0_4, c0f, c0l⟩ := r7 TR2.out.1
  go_wp2_with fail
  go_at_call 30; refine (no_any _ _).mono ?_; rintro e w14 ⟨rfl, hbw14⟩
  have TR3 := Lib.hid (And.intro (row_step TR2.out.1 hbw14) (And.intro (row_step TR2.out.2.1 hbw14) (And.intro (row_step TR2.out.2.2.1 hbw14) (bel_step TR2.out.2.2.2 hbw14))))
  clear TR2
  clear hbw14
  obtain ⟨c1_0, c1_1, c1_2, c1_3, c1_4, c1f, c1l⟩ := r7 TR3.out.2.1
  obtain ⟨c2_0, c2_1, c2_2, c2_3, c2_4, c2f, c2l⟩ := r7 TR3.out.2.2.1
  go_wp2
  refine bodyPost_ret (v := .tuple #[.agg #[.int .i64 0, .int .i64 0, .float .f64 0, .string ⟨#[]⟩, .slice none 0 0], .agg #[.int .i64 0, .int .i64 0, .float .f64 0, .string ⟨#[]⟩, .slice none 0 0], .int .i64 33]) (by simp [results, Tryz.results38, go_sem, World.cell?_setCell_same, World.cell?_setCell_other, c1_0, c1_1, c1_2, c1_3, c1_4, c2_0, c2_1, c2_2, c2_3, c2_4]) rfl ⟨_, _, rfl, ?_, fun y _ _ _ => repS_rep _ _ _ (nil_rep 2 (fun _ => True) y), fun y => repS_rep _ _ _ (nil_rep 0 (fun _ => True) y)⟩
  exact set5_below (g := w.heap.size + 1 + 1) (o := 0) (set5_below (g := w.heap.size + 1) (o := 0) TR3.out.2.2.2 (by omega) _ _ _ _ _) (by omega) _ _ _ _ _
set_option maxRecDepth 100000 in
set_option maxHeartbeats 8000000 in
theorem rdep_amount (b off l c a d bl ol cl : Nat) (p : Option Addr) (ka kd : ByteArray) (K3 I3 : Int) (F3 : Nat) (S3 : ByteArray) (q3 : Option Addr) (m3 d3 : Nat) (w : World) (n0 : w.cell? ⟨bl, ol + 3, none⟩ = some (.string ka)) (v0 : w.cell? ⟨bl, ol + 5, none⟩ = some (.int .i64 K3)) (v1 : w.cell? ⟨bl, ol + 5 + 1, none⟩ = some (.int .i64 I3)) (v2 : w.cell? ⟨bl, ol + 5 + 2, none⟩ = some (.float .f64 F3)) (v3 : w.cell? ⟨bl, ol + 5 + 3, none⟩ = some (.string S3)) (v4 : w.cell? ⟨bl, ol + 5 + 4, none⟩ = some (.slice q3 m3 d3)) (R : Value → VT 2 → Prop) (ES : List (ByteArray × VT 1)) (hl : l ≤ 32) (ha : amtV K3 I3 F3 = .tuple #[.float .f64 0, .bool false]) :
    Calls Tryz.prog 38 #[.agg #[.int .i64 4, .int .i64 0, .float .f64 0, .string ⟨#[]⟩, .slice p l c], .string { data := #[100, 101, 112, 111, 115, 105, 116] }, .slice (some ⟨bl, ol, none⟩) 2 cl] w fun e w' => RLQ w R p l c (ES.map (pairE 0)) (nilT 2) (nilT 0) 35 e w' := by
  have TR1 := Lib.hid (show (fun z0 : World => ZL z0 w.heap.size p l c ∧ Zz z0 (w.heap.size + 1) ∧ Zz z0 (w.heap.size + 1 + 1) ∧ Below w.heap.size w z0) (((w.alloc (.cells #[.int .i64 4, .int .i64 0, .float .f64 0, .string ⟨#[]⟩, .slice p l c] 27)).alloc (.cells #[.int .i64 0, .int .i64 0, .float .f64 0, .string ⟨#[]⟩, .slice none 0 0] 27)).alloc (.cells #[.int .i64 0, .int .i64 0, .float .f64 0, .string ⟨#[]⟩, .slice none 0 0] 27)) from ⟨row_alloc_step (row_alloc_step (row_alloc w #[.int .i64 4, .int .i64 0, .float .f64 0, .string ⟨#[]⟩, .slice p l c] 27) _) _, (row_alloc_step (ra (by simp only [World.size_alloc, World.size_drew])) _), (ra (by simp only [World.size_alloc, World.size_drew])), bel_alloc (bel_alloc (bel_alloc (Below.refl w.heap.size w) _) _) _⟩)
  have HV := Lib.hid (show ∀ W, Below w.heap.size w W → W.cell? ⟨bl, ol + 5, none⟩ = some (.int .i64 K3) ∧ W.cell? ⟨bl, ol + 5 + 1, none⟩ = some (.int .i64 I3) ∧ W.cell? ⟨bl, ol + 5 + 2, none⟩ = some (.float .f64 F3) ∧ W.cell? ⟨bl, ol + 5 + 3, none⟩ = some (.string S3) ∧ W.cell? ⟨bl, ol + 5 + 4, none⟩ = some (.slice q3 m3 d3) from fun W hb => ⟨ck hb v0, ck hb v1, ck hb v2, ck hb v3, ck hb v4⟩)
  have HA := Lib.hid ha
  clear v0 v1 v2 v3 v4 ha
  have hbl : bl < w.heap.size := cell_lt n0
  have HNN := Lib.hid (show ∀ W, Below w.heap.size w W → W.cell? ⟨bl, ol + 3, none⟩ = some (.string ka) from fun W hb => ck hb n0)
  clear n0
  go_enter Tryz.func38, Tryz.ntmps38
  obtain ⟨e0, e1, e2, e3, e4⟩ := HV.out _ br
  have ebl : bl < w.heap.size := cell_lt e0
  have ene0 : w.heap.size ≠ bl := by omega
  have ene1 : w.heap.size + 1 ≠ bl := by omega
  have ene2 : w.heap.size + 1 + 1 ≠ bl := by omega
  have elt1 : bl < w.heap.size + 1 := by omega
  have elt2 : bl < w.heap.size + 1 + 1 := by omega
  go_wp2_with fail
  go_at_call 71; refine (amount_is8 HA.out S3 q3 m3 d3 _).mono ?_; rintro e w15 ⟨rfl, hbw15⟩
  have TR2 := Lib.hid (And.intro (row_step TR1.out.1 hbw15) (And.intro (row_step TR1.out.2.1 hbw15) (And.intro (row_step TR1.out.2.2.1 hbw15) (bel_step TR1.out.2.2.2 hbw15))))
  clear TR1
  clear hbw15
  clear e0 e1 e2 e3 e4
  go_wp2_with fail
  go_at_call 30; refine (no_any _ _).mono ?_; rintro e w16 ⟨rfl, hbw16⟩
  have TR3 := Lib.hid (And.intro (row_step TR2.out.1 hbw16) (And.intro (row_step TR2.out.2.1 hbw16) (And.intro (row_step TR2.out.2.2.1 hbw16) (bel_step TR2.out.2.2.2 hbw16))))
  clear TR2
  clear hbw16
  obtain ⟨c1_0, c1_1, c1_2, c1_3, c1_4, c1f, c1l⟩ := r7 TR3.out.2.1
  obtain ⟨c2_0, c2_1, c2_2, c2_3, c2_4, c2f, c2l⟩ := r7 TR3.out.2.2.1
  go_wp2
  refine bodyPost_ret (v := .tuple #[.agg #[.int .i64 0, .int .i64 0, .float .f64 0, .string ⟨#[]⟩, .slice none 0 0], .agg #[.int .i64 0, .int .i64 0, .float .f64 0, .string ⟨#[]⟩, .slice none 0 0], .int .i64 35]) (by simp [results, Tryz.results38, go_sem, World.cell?_setCell_same, World.cell?_setCell_other, c1_0, c1_1, c1_2, c1_3, c1_4, c2_0, c2_1, c2_2, c2_3, c2_4]) rfl ⟨_, _, rfl, ?_, fun y _ _ _ => repS_rep _ _ _ (nil_rep 2 (fun _ => True) y), fun y => repS_rep _ _ _ (nil_rep 0 (fun _ => True) y)⟩
  exact set5_below (g := w.heap.size + 1 + 1) (o := 0) (set5_below (g := w.heap.size + 1) (o := 0) TR3.out.2.2.2 (by omega) _ _ _ _ _) (by omega) _ _ _ _ _
end Num
end Go.Proofs.YtpbfaffheigjcaaGreat
/-
  The reference: balance, close.
-/
namespace Go.Proofs.YtpbfaffheigjcaaGreat
open Go.RowKit
namespace Num
open Ints
set_option linter.unusedSimpArgs false
set_option linter.unusedVariables false
set_option maxRecDepth 100000 in
set_option maxHeartbeats 8000000 in
theorem rbal_ok (b off l c a d bl ol cl : Nat) (p : Option Addr) (ka kd : ByteArray) (K3 I3 : Int) (F3 : Nat) (S3 : ByteArray) (q3 : Option Addr) (m3 d3 : Nat) (w : World) (n0 : w.cell? ⟨bl, ol + 3, none⟩ = some (.string ka))  (R : Value → VT 2 → Prop) (ES : List (ByteArray × VT 1)) (hl : l ≤ 32) (FA : Nat) (hal : a < l) (gc oc cgc : Nat) (hc : AccC w b off a ka FA gc oc cgc) (HE : Hid (EntsL w (some ⟨b, off, none⟩) l (ES.map (·.1)))) (hs : Spot (ES.map (·.1)) ka a true) (hFA : FA < 2 ^ 64) (HCN : Hid (Flo.canon FA = FA)) :
    Calls Tryz.prog 38 #[.agg #[.int .i64 4, .int .i64 0, .float .f64 0, .string ⟨#[]⟩, .slice (some ⟨b, off, none⟩) l c], .string { data := #[98, 97, 108, 97, 110, 99, 101] }, .slice (some ⟨bl, ol, none⟩) 1 cl] w fun e w' => RLQ w R (some ⟨b, off, none⟩) l c (ES.map (pairE 0)) (tableT 0 ES) (floT 0 FA) 0 e w' := by
  have TR1 := Lib.hid (show (fun z0 : World => ZL z0 w.heap.size (some ⟨b, off, none⟩) l c ∧ Zz z0 (w.heap.size + 1) ∧ Zz z0 (w.heap.size + 1 + 1) ∧ Below w.heap.size w z0) (((w.alloc (.cells #[.int .i64 4, .int .i64 0, .float .f64 0, .string ⟨#[]⟩, .slice (some ⟨b, off, none⟩) l c] 27)).alloc (.cells #[.int .i64 0, .int .i64 0, .float .f64 0, .string ⟨#[]⟩, .slice none 0 0] 27)).alloc (.cells #[.int .i64 0, .int .i64 0, .float .f64 0, .string ⟨#[]⟩, .slice none 0 0] 27)) from ⟨row_alloc_step (row_alloc_step (row_alloc w #[.int .i64 4, .int .i64 0, .float .f64 0, .string ⟨#[]⟩, .slice (some ⟨b, off, none⟩) l c] 27) _) _, (row_alloc_step (ra (by simp only [World.size_alloc, World.size_drew])) _), (ra (by simp only [World.size_alloc, World.size_drew])), bel_alloc (bel_alloc (bel_alloc (Below.refl w.heap.size w) _) _) _⟩)
  have hbl : bl < w.heap.size := cell_lt n0
  have HNN := Lib.hid (show ∀ W, Below w.heap.size w W → W.cell? ⟨bl, ol + 3, none⟩ = some (.string ka) from fun W hb => ck hb n0)
  clear n0
  have HS := Lib.hid hs
  clear hs
  have HC := Lib.hid hc
  clear hc
  have Hc0 := Lib.hid HC.out.1
  have Hc1 := Lib.hid HC.out.2.1
  have Hc2 := Lib.hid HC.out.2.2.1
  have Hc3 := Lib.hid HC.out.2.2.2.1
  have Hc4 := Lib.hid HC.out.2.2.2.2.1
  have Hc5 := Lib.hid HC.out.2.2.2.2.2.1
  have Hc6 := Lib.hid HC.out.2.2.2.2.2.2
  have hbc := cell_lt HC.out.1
  have hgc := cell_lt HC.out.2.2.2.2.2.1
  have hc1 : (0 : Int) ≤ (a : Int) := by omega
  have hc2 : (a : Int) < (l : Int) := by omega
  go_enter Tryz.func38, Tryz.ntmps38
  have ene0 : w.heap.size ≠ bl := by omega
  have ene1 : w.heap.size + 1 ≠ bl := by omega
  have ene2 : w.heap.size + 1 + 1 ≠ bl := by omega
  have elt1 : bl < w.heap.size + 1 := by omega
  have elt2 : bl < w.heap.size + 1 + 1 := by omega
  have ebl := hbl
  have en := HNN.out _ br
  go_wp2_with fail
  go_at_call 68; refine (at_any 4 0 0 _ _ l c a (ES.map (·.1)) ka true _ (entsL_step HE.out TR1.out.2.2.2) HS.out).mono ?_; rintro e w32 ⟨rfl, hbw32⟩
  have TR2 := Lib.hid (And.intro (row_step TR1.out.1 hbw32) (And.intro (row_step TR1.out.2.1 hbw32) (And.intro (row_step TR1.out.2.2.1 hbw32) (bel_step TR1.out.2.2.2 hbw32))))
  clear TR1
  clear hbw32
  clear en
  obtain ⟨c0_0, c0_1, c0_2, c0_3, c0_4, c0f, c0l⟩ := r7 TR2.out.1
  have ec4 := ck TR2.out.2.2.2 Hc4.out
  have ec6 := ck TR2.out.2.2.2 Hc6.out
  have ecl := cell_lt ec4
  have ecm := cell_lt ec6
  go_upto_region 31 with fail
  clear c0_0 c0_1 c0_2 c0_3 c0_4 c0f c0l
  clear ec4 ec6 ecl ecm
  have TR3 := Lib.hid (And.intro (row_step TR2.out.1 (show Below w32.heap.size w32 w32.drew from Below.drew br)) (And.intro (row_step TR2.out.2.1 (show Below w32.heap.size w32 w32.drew from Below.drew br)) (And.intro (row_step TR2.out.2.2.1 (show Below w32.heap.size w32 w32.drew from Below.drew br)) (bel_step TR2.out.2.2.2 (show Below w32.heap.size w32 w32.drew from Below.drew br)))))
  clear TR2
  refine wp_region_held_drew (S := (fun z => z.cell? ⟨w.heap.size, 0, none⟩ = some (.int .i64 4) ∧ z.cell? ⟨w.heap.size, 1, none⟩ = some (.int .i64 0) ∧ z.cell? ⟨w.heap.size, 2, none⟩ = some (.float .f64 0) ∧ z.cell? ⟨w.heap.size, 3, none⟩ = some (.string ⟨#[]⟩) ∧ z.cell? ⟨w.heap.size, 4, none⟩ = some (.slice (some ⟨b, off, none⟩) l c))) (by kernel_rfl) ?_ (fun hH => ?_)
  · exact ⟨rc TR3.out.1 0, rc TR3.out.1 1, rc TR3.out.1 2, rc TR3.out.1 3, rc TR3.out.1 4⟩
  refine zt [0, 1] ?_
  iterate 2 (refine zt1 (fun _ _ d _ _ h => by cases d <;> exact h) (by simp only [lk0, lk1, lk2]; rfl) (by kernel_rfl) (by assumption) (by rfl) (fun w h => by (try dsimp only at h); go_simp; (try with_reducible rfl)) ?_; (try simp only [Act.put, pk0, pk1, pk2]))
  refine zt0 ?_
  refine zr1 2 (by kernel_rfl) (by simp only [lk0, lk1, lk2]; rfl) (fun K hK => ?_)
  go_simp
  go_at_call 20; refine (float_is HCN.out _).mono ?_; rintro e w36 ⟨rfl, hbw36⟩
  have TR4 := Lib.hid (And.intro (row_step TR3.out.1 hbw36) (And.intro (row_step TR3.out.2.1 hbw36) (And.intro (row_step TR3.out.2.2.1 hbw36) (bel_step TR3.out.2.2.2 hbw36))))
  clear TR3
  clear hbw36
  go_wp2_with fail
  refine hK.out _ _ ?hsv35_ (fun hH => ?_)
  case hsv35_ => exact ⟨rc TR4.out.1 0, rc TR4.out.1 1, rc TR4.out.1 2, rc TR4.out.1 3, rc TR4.out.1 4⟩
  clear hK K
  (try simp only [Act.put, pk0, pk1, pk2])
  refine zr1 3 (by kernel_rfl) (by simp only [lk0, lk1, lk2]; rfl) (fun K hK => ?_)
  obtain ⟨b30, b31, b32, b33, b34, b3f, b3l⟩ := r7 TR4.out.2.1; go_simp
  have TR5 := Lib.hid (show (fun z0 : World => ZL z0 w.heap.size (some ⟨b, off, none⟩) l c ∧ ZL z0 (w.heap.size + 1) (some ⟨b, off, none⟩) l c ∧ Zz z0 (w.heap.size + 1 + 1) ∧ Below w.heap.size w z0) (((((w36.setCell ⟨w.heap.size + 1, 0, none⟩ (.int .i64 4)).setCell ⟨w.heap.size + 1, 1, none⟩ (.int .i64 0)).setCell ⟨w.heap.size + 1, 2, none⟩ (.float .f64 0)).setCell ⟨w.heap.size + 1, 3, none⟩ (.string ⟨#[]⟩)).setCell ⟨w.heap.size + 1, 4, none⟩ (.slice (some ⟨b, off, none⟩) l c)) from ⟨s5o TR4.out.1 (by omega), s5r TR4.out.2.1, s5o TR4.out.2.2.1 (by omega), s5b TR4.out.2.2.2 (by omega)⟩)
  clear TR4
  clear b30 b31 b32 b33 b34 b3f b3l
  go_wp2_with fail
  refine hK.out _ _ ?hsv37_ (fun hH => ?_)
  case hsv37_ => exact ⟨rc TR5.out.1 0, rc TR5.out.1 1, rc TR5.out.1 2, rc TR5.out.1 3, rc TR5.out.1 4⟩
  clear hK K
  (try simp only [Act.put, pk0, pk1, pk2])
  refine zr1 4 (by kernel_rfl) (by simp only [lk0, lk1, lk2]; rfl) (fun K hK => ?_)
  obtain ⟨b30, b31, b32, b33, b34, b3f, b3l⟩ := r7 TR5.out.2.2.1; go_simp
  have TR6 := Lib.hid (show (fun z0 : World => ZL z0 w.heap.size (some ⟨b, off, none⟩) l c ∧ ZL z0 (w.heap.size + 1) (some ⟨b, off, none⟩) l c ∧ ZF z0 (w.heap.size + 1 + 1) FA ∧ Below w.heap.size w z0) ((((((((((w36.setCell ⟨w.heap.size + 1, 0, none⟩ (.int .i64 4)).setCell ⟨w.heap.size + 1, 1, none⟩ (.int .i64 0)).setCell ⟨w.heap.size + 1, 2, none⟩ (.float .f64 0)).setCell ⟨w.heap.size + 1, 3, none⟩ (.string ⟨#[]⟩)).setCell ⟨w.heap.size + 1, 4, none⟩ (.slice (some ⟨b, off, none⟩) l c)).setCell ⟨w.heap.size + 1 + 1, 0, none⟩ (.int .i64 2)).setCell ⟨w.heap.size + 1 + 1, 1, none⟩ (.int .i64 0)).setCell ⟨w.heap.size + 1 + 1, 2, none⟩ (.float .f64 FA)).setCell ⟨w.heap.size + 1 + 1, 3, none⟩ (.string ⟨#[]⟩)).setCell ⟨w.heap.size + 1 + 1, 4, none⟩ (.slice none 0 0)) from ⟨s5o TR5.out.1 (by omega), s5o TR5.out.2.1 (by omega), s5r TR5.out.2.2.1, s5b TR5.out.2.2.2 (by omega)⟩)
  clear TR5
  clear b30 b31 b32 b33 b34 b3f b3l
  go_wp2_with fail
  refine hK.out _ _ ?hsv38_ (fun hH => ?_)
  case hsv38_ => exact ⟨rc TR6.out.1 0, rc TR6.out.1 1, rc TR6.out.1 2, rc TR6.out.1 3, rc TR6.out.1 4⟩
  clear hK K
  (try simp only [Act.put, pk0, pk1, pk2])
  refine zt [5] ?_
  refine zt1 (fun _ _ d _ _ h => by cases d <;> exact h) (by simp only [lk0, lk1, lk2]; rfl) (by kernel_rfl) (by assumption) (by rfl) (fun w h => by (try dsimp only at h); go_simp; (try with_reducible rfl)) ?_; (try simp only [Act.put, pk0, pk1, pk2])
  refine zt0 ?_
  refine wpAnyH_done (by kernel_rfl) ?_ _
  revert TR6
  generalize ((((((((((w36.setCell ⟨w.heap.size + 1, 0, none⟩ (.int .i64 4)).setCell ⟨w.heap.size + 1, 1, none⟩ (.int .i64 0)).setCell ⟨w.heap.size + 1, 2, none⟩ (.float .f64 0)).setCell ⟨w.heap.size + 1, 3, none⟩ (.string ⟨#[]⟩)).setCell ⟨w.heap.size + 1, 4, none⟩ (.slice (some ⟨b, off, none⟩) l c)).setCell ⟨w.heap.size + 1 + 1, 0, none⟩ (.int .i64 2)).setCell ⟨w.heap.size + 1 + 1, 1, none⟩ (.int .i64 0)).setCell ⟨w.heap.size + 1 + 1, 2, none⟩ (.float .f64 FA)).setCell ⟨w.heap.size + 1 + 1, 3, none⟩ (.string ⟨#[]⟩)).setCell ⟨w.heap.size + 1 + 1, 4, none⟩ (.slice none 0 0)) = Wf
  intro TR6
  obtain ⟨c1_0, c1_1, c1_2, c1_3, c1_4, c1f, c1l⟩ := r7 TR6.out.2.1
  obtain ⟨c2_0, c2_1, c2_2, c2_3, c2_4, c2f, c2l⟩ := r7 TR6.out.2.2.1
  go_wp2
  refine bodyPost_ret (v := .tuple #[.agg #[.int .i64 4, .int .i64 0, .float .f64 0, .string ⟨#[]⟩, .slice (some ⟨b, off, none⟩) l c], .agg #[.int .i64 2, .int .i64 0, .float .f64 FA, .string ⟨#[]⟩, .slice none 0 0], .int .i64 0]) (by simp [results, Tryz.results38, go_sem, c1_0, c1_1, c1_2, c1_3, c1_4, c2_0, c2_1, c2_2, c2_3, c2_4]) rfl ⟨_, _, rfl, TR6.out.2.2.2, fun y hLy hy _ => list_rep (repL_mono hy hLy), fun y => flo_repn 0 y hFA⟩
set_option maxRecDepth 100000 in
set_option maxHeartbeats 8000000 in
theorem rclo_ok (b off l c a d bl ol cl : Nat) (p : Option Addr) (ka kd : ByteArray) (K3 I3 : Int) (F3 : Nat) (S3 : ByteArray) (q3 : Option Addr) (m3 d3 : Nat) (w : World) (n0 : w.cell? ⟨bl, ol + 3, none⟩ = some (.string ka))  (R : Value → VT 2 → Prop) (ES : List (ByteArray × VT 1)) (hl : l ≤ 32) (FA : Nat) (hal : a < l) (gc oc cgc : Nat) (hc : AccC w b off a ka FA gc oc cgc) (HE : Hid (EntsL w (some ⟨b, off, none⟩) l (ES.map (·.1)))) (hs : Spot (ES.map (·.1)) ka a true) (hgt : (FloatKind.f64.format.order FA 0 == some .gt) = false) (hR : One5 R) (HL : Hid (RepL w R (some ⟨b, off, none⟩) l c (ES.map (pairE 0)))) :
    Calls Tryz.prog 38 #[.agg #[.int .i64 4, .int .i64 0, .float .f64 0, .string ⟨#[]⟩, .slice (some ⟨b, off, none⟩) l c], .string { data := #[99, 108, 111, 115, 101] }, .slice (some ⟨bl, ol, none⟩) 1 cl] w fun e w' => RLQ w R (some ⟨b, off, none⟩) l c (ES.map (pairE 0)) (tableT 0 (ES.take a ++ ES.drop (a + 1))) (nilT 0) 0 e w' := by
  have TR1 := Lib.hid (show (fun z0 : World => ZL z0 w.heap.size (some ⟨b, off, none⟩) l c ∧ Zz z0 (w.heap.size + 1) ∧ Zz z0 (w.heap.size + 1 + 1) ∧ Below w.heap.size w z0) (((w.alloc (.cells #[.int .i64 4, .int .i64 0, .float .f64 0, .string ⟨#[]⟩, .slice (some ⟨b, off, none⟩) l c] 27)).alloc (.cells #[.int .i64 0, .int .i64 0, .float .f64 0, .string ⟨#[]⟩, .slice none 0 0] 27)).alloc (.cells #[.int .i64 0, .int .i64 0, .float .f64 0, .string ⟨#[]⟩, .slice none 0 0] 27)) from ⟨row_alloc_step (row_alloc_step (row_alloc w #[.int .i64 4, .int .i64 0, .float .f64 0, .string ⟨#[]⟩, .slice (some ⟨b, off, none⟩) l c] 27) _) _, (row_alloc_step (ra (by simp only [World.size_alloc, World.size_drew])) _), (ra (by simp only [World.size_alloc, World.size_drew])), bel_alloc (bel_alloc (bel_alloc (Below.refl w.heap.size w) _) _) _⟩)
  have hbl : bl < w.heap.size := cell_lt n0
  have HNN := Lib.hid (show ∀ W, Below w.heap.size w W → W.cell? ⟨bl, ol + 3, none⟩ = some (.string ka) from fun W hb => ck hb n0)
  clear n0
  have HS := Lib.hid hs
  clear hs
  have HC := Lib.hid hc
  clear hc
  have Hc0 := Lib.hid HC.out.1
  have Hc1 := Lib.hid HC.out.2.1
  have Hc2 := Lib.hid HC.out.2.2.1
  have Hc3 := Lib.hid HC.out.2.2.2.1
  have Hc4 := Lib.hid HC.out.2.2.2.2.1
  have Hc5 := Lib.hid HC.out.2.2.2.2.2.1
  have Hc6 := Lib.hid HC.out.2.2.2.2.2.2
  have hbc := cell_lt HC.out.1
  have hgc := cell_lt HC.out.2.2.2.2.2.1
  have hc1 : (0 : Int) ≤ (a : Int) := by omega
  have hc2 : (a : Int) < (l : Int) := by omega
  go_enter Tryz.func38, Tryz.ntmps38
  have ene0 : w.heap.size ≠ bl := by omega
  have ene1 : w.heap.size + 1 ≠ bl := by omega
  have ene2 : w.heap.size + 1 + 1 ≠ bl := by omega
  have elt1 : bl < w.heap.size + 1 := by omega
  have elt2 : bl < w.heap.size + 1 + 1 := by omega
  have ebl := hbl
  have en := HNN.out _ br
  go_wp2_with fail
  go_at_call 68; refine (at_any 4 0 0 _ _ l c a (ES.map (·.1)) ka true _ (entsL_step HE.out TR1.out.2.2.2) HS.out).mono ?_; rintro e w40 ⟨rfl, hbw40⟩
  have TR2 := Lib.hid (And.intro (row_step TR1.out.1 hbw40) (And.intro (row_step TR1.out.2.1 hbw40) (And.intro (row_step TR1.out.2.2.1 hbw40) (bel_step TR1.out.2.2.2 hbw40))))
  clear TR1
  clear hbw40
  clear en
  obtain ⟨c0_0, c0_1, c0_2, c0_3, c0_4, c0f, c0l⟩ := r7 TR2.out.1
  have ec4 := ck TR2.out.2.2.2 Hc4.out
  have ec6 := ck TR2.out.2.2.2 Hc6.out
  have ecl := cell_lt ec4
  have ecm := cell_lt ec6
  have hltW1 : w.heap.size + 1 < w40.heap.size := row_lt TR2.out.2.1
  have hltW2 : w.heap.size + 1 + 1 < w40.heap.size := row_lt TR2.out.2.2.1
  have hleW : w.heap.size ≤ w40.heap.size := TR2.out.2.2.2.size
  go_wp2_with fail
  go_at_call 70; refine (without_any hR (some ⟨b, off, none⟩) l c a (ES.map (pairE 0)) _ (repL_at TR2.out.2.2.2 HL.out) hal (by omega)).mono ?_; rintro e w41 ⟨p2, c2, rfl, hbw41, hy6⟩
  have TR3 := Lib.hid (And.intro (row_step TR2.out.1 hbw41) (And.intro (row_step TR2.out.2.1 hbw41) (And.intro (row_step TR2.out.2.2.1 hbw41) (bel_step TR2.out.2.2.2 hbw41))))
  clear TR2
  have TR4 := Lib.hid (show ZL w41 w.heap.size (some ⟨b, off, none⟩) l c ∧ Zz w41 (w.heap.size + 1) ∧ Zz w41 (w.heap.size + 1 + 1) ∧ (Stay w40.heap.size w41 w41 ∧ w41.heap.size ≤ w41.heap.size) ∧ Below w.heap.size w w41 from ⟨TR3.out.1, TR3.out.2.1, TR3.out.2.2.1, ⟨stay_refl _ _, Nat.le_refl _⟩, TR3.out.2.2.2⟩)
  clear TR3
  have HY := Lib.hid hy6
  clear hy6
  clear hbw41
  clear c0_0 c0_1 c0_2 c0_3 c0_4 c0f c0l
  clear ec4 ec6 ecl ecm
  obtain ⟨c1_0, c1_1, c1_2, c1_3, c1_4, c1f, c1l⟩ := r7 TR4.out.2.1
  obtain ⟨c2_0, c2_1, c2_2, c2_3, c2_4, c2f, c2l⟩ := r7 TR4.out.2.2.1
  go_wp2
  have TR5 := Lib.hid (show (fun z0 : World => ZL z0 w.heap.size (some ⟨b, off, none⟩) l c ∧ ZL z0 (w.heap.size + 1) p2 (a + (l - (a + 1))) c2 ∧ Zz z0 (w.heap.size + 1 + 1) ∧ (Stay w40.heap.size w41 z0 ∧ w41.heap.size ≤ z0.heap.size) ∧ Below w.heap.size w z0) (((((w41.setCell ⟨w.heap.size + 1, 0, none⟩ (.int .i64 4)).setCell ⟨w.heap.size + 1, 1, none⟩ (.int .i64 0)).setCell ⟨w.heap.size + 1, 2, none⟩ (.float .f64 0)).setCell ⟨w.heap.size + 1, 3, none⟩ (.string ⟨#[]⟩)).setCell ⟨w.heap.size + 1, 4, none⟩ (.slice p2 (a + (l - (a + 1))) c2)) from ⟨s5o TR4.out.1 (by omega), set5_row TR4.out.2.1 (.int .i64 4) (.int .i64 0) (.float .f64 0) (.string ⟨#[]⟩) (.slice p2 (a + (l - (a + 1))) c2), s5o TR4.out.2.2.1 (by omega), ⟨stay_set TR4.out.2.2.2.1.1 (by omega) (.int .i64 4) (.int .i64 0) (.float .f64 0) (.string ⟨#[]⟩) (.slice p2 (a + (l - (a + 1))) c2), by show _ ≤ (set5 w41 (w.heap.size + 1) 0 (.int .i64 4) (.int .i64 0) (.float .f64 0) (.string ⟨#[]⟩) (.slice p2 (a + (l - (a + 1))) c2)).heap.size; rw [set5_size]; exact TR4.out.2.2.2.1.2⟩, set5_below TR4.out.2.2.2.2 (by omega) (.int .i64 4) (.int .i64 0) (.float .f64 0) (.string ⟨#[]⟩) (.slice p2 (a + (l - (a + 1))) c2)⟩)
  clear TR4
  have TR6 := Lib.hid (show (fun z0 : World => ZL z0 w.heap.size (some ⟨b, off, none⟩) l c ∧ ZL z0 (w.heap.size + 1) p2 (a + (l - (a + 1))) c2 ∧ Zz z0 (w.heap.size + 1 + 1) ∧ (Stay w40.heap.size w41 z0 ∧ w41.heap.size ≤ z0.heap.size) ∧ Below w.heap.size w z0) ((((((((((w41.setCell ⟨w.heap.size + 1, 0, none⟩ (.int .i64 4)).setCell ⟨w.heap.size + 1, 1, none⟩ (.int .i64 0)).setCell ⟨w.heap.size + 1, 2, none⟩ (.float .f64 0)).setCell ⟨w.heap.size + 1, 3, none⟩ (.string ⟨#[]⟩)).setCell ⟨w.heap.size + 1, 4, none⟩ (.slice p2 (a + (l - (a + 1))) c2)).setCell ⟨w.heap.size + 1 + 1, 0, none⟩ (.int .i64 0)).setCell ⟨w.heap.size + 1 + 1, 1, none⟩ (.int .i64 0)).setCell ⟨w.heap.size + 1 + 1, 2, none⟩ (.float .f64 0)).setCell ⟨w.heap.size + 1 + 1, 3, none⟩ (.string ⟨#[]⟩)).setCell ⟨w.heap.size + 1 + 1, 4, none⟩ (.slice none 0 0)) from ⟨s5o TR5.out.1 (by omega), s5o TR5.out.2.1 (by omega), s5r TR5.out.2.2.1, ⟨stay_set TR5.out.2.2.2.1.1 (by omega) (.int .i64 0) (.int .i64 0) (.float .f64 0) (.string ⟨#[]⟩) (.slice none 0 0), by show _ ≤ (set5 (((((w41.setCell ⟨w.heap.size + 1, 0, none⟩ (.int .i64 4)).setCell ⟨w.heap.size + 1, 1, none⟩ (.int .i64 0)).setCell ⟨w.heap.size + 1, 2, none⟩ (.float .f64 0)).setCell ⟨w.heap.size + 1, 3, none⟩ (.string ⟨#[]⟩)).setCell ⟨w.heap.size + 1, 4, none⟩ (.slice p2 (a + (l - (a + 1))) c2)) (w.heap.size + 1 + 1) 0 (.int .i64 0) (.int .i64 0) (.float .f64 0) (.string ⟨#[]⟩) (.slice none 0 0)).heap.size; rw [set5_size]; exact TR5.out.2.2.2.1.2⟩, s5b TR5.out.2.2.2.2 (by omega)⟩)
  clear TR5
  refine bodyPost_ret (v := .tuple #[.agg #[.int .i64 4, .int .i64 0, .float .f64 0, .string ⟨#[]⟩, .slice p2 (a + (l - (a + 1))) c2], .agg #[.int .i64 0, .int .i64 0, .float .f64 0, .string ⟨#[]⟩, .slice none 0 0], .int .i64 0]) (by simp [results, Tryz.results38, go_sem, World.cell?_setCell_same, World.cell?_setCell_other, c1_0, c1_1, c1_2, c1_3, c1_4, c2_0, c2_1, c2_2, c2_3, c2_4]) rfl ⟨_, _, rfl, TR6.out.2.2.2.2, fun y hLy hRy hst => ?_, fun y => repS_rep _ _ _ (nil_rep 0 (fun _ => True) y)⟩
  have hY := HY.out y (fun b h1 h2 => (hst b (by omega) (Nat.lt_of_lt_of_le h2 TR6.out.2.2.2.1.2)).trans (TR6.out.2.2.2.1.1 b h1 h2))
  refine list_rep ?_
  rw [List.map_append, List.map_take, List.map_drop]
  exact repL_mono hRy hY
end Num
end Go.Proofs.YtpbfaffheigjcaaGreat
/-
  The reference: a ledger's other methods (refusals behind an account).
-/
namespace Go.Proofs.YtpbfaffheigjcaaGreat
open Go.RowKit
namespace Num
open Ints
set_option linter.unusedSimpArgs false
set_option linter.unusedVariables false
set_option maxRecDepth 100000 in
set_option maxHeartbeats 8000000 in
theorem rtra_nob (b off l c a d bl ol cl : Nat) (p : Option Addr) (ka kd : ByteArray) (K3 I3 : Int) (F3 : Nat) (S3 : ByteArray) (q3 : Option Addr) (m3 d3 : Nat) (w : World) (n0 : w.cell? ⟨bl, ol + 3, none⟩ = some (.string ka)) (n1 : w.cell? ⟨bl, ol + 5 + 3, none⟩ = some (.string kd)) (v0 : w.cell? ⟨bl, ol + 10, none⟩ = some (.int .i64 K3)) (v1 : w.cell? ⟨bl, ol + 10 + 1, none⟩ = some (.int .i64 I3)) (v2 : w.cell? ⟨bl, ol + 10 + 2, none⟩ = some (.float .f64 F3)) (v3 : w.cell? ⟨bl, ol + 10 + 3, none⟩ = some (.string S3)) (v4 : w.cell? ⟨bl, ol + 10 + 4, none⟩ = some (.slice q3 m3 d3)) (R : Value → VT 2 → Prop) (ES : List (ByteArray × VT 1)) (hl : l ≤ 32) (G : Nat) (ha : amtV K3 I3 F3 = .tuple #[.float .f64 G, .bool true]) (FA : Nat) (hal : a < l) (gc oc cgc : Nat) (hc : AccC w b off a ka FA gc oc cgc) (HE : Hid (EntsL w (some ⟨b, off, none⟩) l (ES.map (·.1)))) (hs : Spot (ES.map (·.1)) ka a true) (hsd : Spot (ES.map (·.1)) kd d false) :
    Calls Tryz.prog 38 #[.agg #[.int .i64 4, .int .i64 0, .float .f64 0, .string ⟨#[]⟩, .slice (some ⟨b, off, none⟩) l c], .string { data := #[116, 114, 97, 110, 115, 102, 101, 114] }, .slice (some ⟨bl, ol, none⟩) 3 cl] w fun e w' => RLQ w R (some ⟨b, off, none⟩) l c (ES.map (pairE 0)) (nilT 2) (nilT 0) 30 e w' := by
  have TR1 := Lib.hid (show (fun z0 : World => ZL z0 w.heap.size (some ⟨b, off, none⟩) l c ∧ Zz z0 (w.heap.size + 1) ∧ Zz z0 (w.heap.size + 1 + 1) ∧ Below w.heap.size w z0) (((w.alloc (.cells #[.int .i64 4, .int .i64 0, .float .f64 0, .string ⟨#[]⟩, .slice (some ⟨b, off, none⟩) l c] 27)).alloc (.cells #[.int .i64 0, .int .i64 0, .float .f64 0, .string ⟨#[]⟩, .slice none 0 0] 27)).alloc (.cells #[.int .i64 0, .int .i64 0, .float .f64 0, .string ⟨#[]⟩, .slice none 0 0] 27)) from ⟨row_alloc_step (row_alloc_step (row_alloc w #[.int .i64 4, .int .i64 0, .float .f64 0, .string ⟨#[]⟩, .slice (some ⟨b, off, none⟩) l c] 27) _) _, (row_alloc_step (ra (by simp only [World.size_alloc, World.size_drew])) _), (ra (by simp only [World.size_alloc, World.size_drew])), bel_alloc (bel_alloc (bel_alloc (Below.refl w.heap.size w) _) _) _⟩)
  have HV := Lib.hid (show ∀ W, Below w.heap.size w W → W.cell? ⟨bl, ol + 10, none⟩ = some (.int .i64 K3) ∧ W.cell? ⟨bl, ol + 10 + 1, none⟩ = some (.int .i64 I3) ∧ W.cell? ⟨bl, ol + 10 + 2, none⟩ = some (.float .f64 F3) ∧ W.cell? ⟨bl, ol + 10 + 3, none⟩ = some (.string S3) ∧ W.cell? ⟨bl, ol + 10 + 4, none⟩ = some (.slice q3 m3 d3) from fun W hb => ⟨ck hb v0, ck hb v1, ck hb v2, ck hb v3, ck hb v4⟩)
  have HA := Lib.hid ha
  clear v0 v1 v2 v3 v4 ha
  have hbl : bl < w.heap.size := cell_lt n0
  have HNN := Lib.hid (show ∀ W, Below w.heap.size w W → W.cell? ⟨bl, ol + 3, none⟩ = some (.string ka) from fun W hb => ck hb n0)
  clear n0
  have HN1 := Lib.hid (show ∀ W, Below w.heap.size w W → W.cell? ⟨bl, ol + 5 + 3, none⟩ = some (.string kd) from fun W hb => ck hb n1)
  clear n1
  have HS := Lib.hid hs
  clear hs
  have HC := Lib.hid hc
  clear hc
  have Hc0 := Lib.hid HC.out.1
  have Hc1 := Lib.hid HC.out.2.1
  have Hc2 := Lib.hid HC.out.2.2.1
  have Hc3 := Lib.hid HC.out.2.2.2.1
  have Hc4 := Lib.hid HC.out.2.2.2.2.1
  have Hc5 := Lib.hid HC.out.2.2.2.2.2.1
  have Hc6 := Lib.hid HC.out.2.2.2.2.2.2
  have hbc := cell_lt HC.out.1
  have hgc := cell_lt HC.out.2.2.2.2.2.1
  have hc1 : (0 : Int) ≤ (a : Int) := by omega
  have hc2 : (a : Int) < (l : Int) := by omega
  have HSD := Lib.hid hsd
  clear hsd
  go_enter Tryz.func38, Tryz.ntmps38
  obtain ⟨e0, e1, e2, e3, e4⟩ := HV.out _ br
  have ebl : bl < w.heap.size := cell_lt e0
  have ene0 : w.heap.size ≠ bl := by omega
  have ene1 : w.heap.size + 1 ≠ bl := by omega
  have ene2 : w.heap.size + 1 + 1 ≠ bl := by omega
  have elt1 : bl < w.heap.size + 1 := by omega
  have elt2 : bl < w.heap.size + 1 + 1 := by omega
  go_wp2_with fail
  go_at_call 71; refine (amount_is8 HA.out S3 q3 m3 d3 _).mono ?_; rintro e w17 ⟨rfl, hbw17⟩
  have TR2 := Lib.hid (And.intro (row_step TR1.out.1 hbw17) (And.intro (row_step TR1.out.2.1 hbw17) (And.intro (row_step TR1.out.2.2.1 hbw17) (bel_step TR1.out.2.2.2 hbw17))))
  clear TR1
  clear hbw17
  clear e0 e1 e2 e3 e4
  have en := HNN.out _ TR2.out.2.2.2
  have enl := cell_lt en
  obtain ⟨c0_0, c0_1, c0_2, c0_3, c0_4, c0f, c0l⟩ := r7 TR2.out.1
  go_wp2_with fail
  go_at_call 68; refine (at_any 4 0 0 _ _ l c a (ES.map (·.1)) ka true _ (entsL_step HE.out TR2.out.2.2.2) HS.out).mono ?_; rintro e w18 ⟨rfl, hbw18⟩
  have TR3 := Lib.hid (And.intro (row_step TR2.out.1 hbw18) (And.intro (row_step TR2.out.2.1 hbw18) (And.intro (row_step TR2.out.2.2.1 hbw18) (bel_step TR2.out.2.2.2 hbw18))))
  clear TR2
  clear hbw18
  clear en enl
  clear c0_0 c0_1 c0_2 c0_3 c0_4 c0f c0l
  obtain ⟨c0_0, c0_1, c0_2, c0_3, c0_4, c0f, c0l⟩ := r7 TR3.out.1
  have ec4 := ck TR3.out.2.2.2 Hc4.out
  have ec6 := ck TR3.out.2.2.2 Hc6.out
  have ecl := cell_lt ec4
  have ecm := cell_lt ec6
  have en := HN1.out _ TR3.out.2.2.2
  have enl := cell_lt en
  go_wp2_with fail
  go_at_call 68; refine (at_any 4 0 0 _ _ l c d (ES.map (·.1)) kd false _ (entsL_step HE.out TR3.out.2.2.2) HSD.out).mono ?_; rintro e w19 ⟨rfl, hbw19⟩
  have TR4 := Lib.hid (And.intro (row_step TR3.out.1 hbw19) (And.intro (row_step TR3.out.2.1 hbw19) (And.intro (row_step TR3.out.2.2.1 hbw19) (bel_step TR3.out.2.2.2 hbw19))))
  clear TR3
  clear hbw19
  clear en enl
  clear c0_0 c0_1 c0_2 c0_3 c0_4 c0f c0l
  clear ec4 ec6 ecl ecm
  go_wp2_with fail
  go_at_call 30; refine (no_any _ _).mono ?_; rintro e w20 ⟨rfl, hbw20⟩
  have TR5 := Lib.hid (And.intro (row_step TR4.out.1 hbw20) (And.intro (row_step TR4.out.2.1 hbw20) (And.intro (row_step TR4.out.2.2.1 hbw20) (bel_step TR4.out.2.2.2 hbw20))))
  clear TR4
  clear hbw20
  obtain ⟨c1_0, c1_1, c1_2, c1_3, c1_4, c1f, c1l⟩ := r7 TR5.out.2.1
  obtain ⟨c2_0, c2_1, c2_2, c2_3, c2_4, c2f, c2l⟩ := r7 TR5.out.2.2.1
  go_wp2
  refine bodyPost_ret (v := .tuple #[.agg #[.int .i64 0, .int .i64 0, .float .f64 0, .string ⟨#[]⟩, .slice none 0 0], .agg #[.int .i64 0, .int .i64 0, .float .f64 0, .string ⟨#[]⟩, .slice none 0 0], .int .i64 30]) (by simp [results, Tryz.results38, go_sem, World.cell?_setCell_same, World.cell?_setCell_other, c1_0, c1_1, c1_2, c1_3, c1_4, c2_0, c2_1, c2_2, c2_3, c2_4]) rfl ⟨_, _, rfl, ?_, fun y _ _ _ => repS_rep _ _ _ (nil_rep 2 (fun _ => True) y), fun y => repS_rep _ _ _ (nil_rep 0 (fun _ => True) y)⟩
  exact set5_below (g := w.heap.size + 1 + 1) (o := 0) (set5_below (g := w.heap.size + 1) (o := 0) TR5.out.2.2.2 (by omega) _ _ _ _ _) (by omega) _ _ _ _ _
set_option maxRecDepth 100000 in
set_option maxHeartbeats 8000000 in
theorem rclo_funds (b off l c a d bl ol cl : Nat) (p : Option Addr) (ka kd : ByteArray) (K3 I3 : Int) (F3 : Nat) (S3 : ByteArray) (q3 : Option Addr) (m3 d3 : Nat) (w : World) (n0 : w.cell? ⟨bl, ol + 3, none⟩ = some (.string ka))  (R : Value → VT 2 → Prop) (ES : List (ByteArray × VT 1)) (hl : l ≤ 32) (FA : Nat) (hal : a < l) (gc oc cgc : Nat) (hc : AccC w b off a ka FA gc oc cgc) (HE : Hid (EntsL w (some ⟨b, off, none⟩) l (ES.map (·.1)))) (hs : Spot (ES.map (·.1)) ka a true) (hgt : (FloatKind.f64.format.order FA 0 == some .gt) = true) :
    Calls Tryz.prog 38 #[.agg #[.int .i64 4, .int .i64 0, .float .f64 0, .string ⟨#[]⟩, .slice (some ⟨b, off, none⟩) l c], .string { data := #[99, 108, 111, 115, 101] }, .slice (some ⟨bl, ol, none⟩) 1 cl] w fun e w' => RLQ w R (some ⟨b, off, none⟩) l c (ES.map (pairE 0)) (nilT 2) (nilT 0) 36 e w' := by
  have TR1 := Lib.hid (show (fun z0 : World => ZL z0 w.heap.size (some ⟨b, off, none⟩) l c ∧ Zz z0 (w.heap.size + 1) ∧ Zz z0 (w.heap.size + 1 + 1) ∧ Below w.heap.size w z0) (((w.alloc (.cells #[.int .i64 4, .int .i64 0, .float .f64 0, .string ⟨#[]⟩, .slice (some ⟨b, off, none⟩) l c] 27)).alloc (.cells #[.int .i64 0, .int .i64 0, .float .f64 0, .string ⟨#[]⟩, .slice none 0 0] 27)).alloc (.cells #[.int .i64 0, .int .i64 0, .float .f64 0, .string ⟨#[]⟩, .slice none 0 0] 27)) from ⟨row_alloc_step (row_alloc_step (row_alloc w #[.int .i64 4, .int .i64 0, .float .f64 0, .string ⟨#[]⟩, .slice (some ⟨b, off, none⟩) l c] 27) _) _, (row_alloc_step (ra (by simp only [World.size_alloc, World.size_drew])) _), (ra (by simp only [World.size_alloc, World.size_drew])), bel_alloc (bel_alloc (bel_alloc (Below.refl w.heap.size w) _) _) _⟩)
  have hbl : bl < w.heap.size := cell_lt n0
  have HNN := Lib.hid (show ∀ W, Below w.heap.size w W → W.cell? ⟨bl, ol + 3, none⟩ = some (.string ka) from fun W hb => ck hb n0)
  clear n0
  have HS := Lib.hid hs
  clear hs
  have HC := Lib.hid hc
  clear hc
  have Hc0 := Lib.hid HC.out.1
  have Hc1 := Lib.hid HC.out.2.1
  have Hc2 := Lib.hid HC.out.2.2.1
  have Hc3 := Lib.hid HC.out.2.2.2.1
  have Hc4 := Lib.hid HC.out.2.2.2.2.1
  have Hc5 := Lib.hid HC.out.2.2.2.2.2.1
  have Hc6 := Lib.hid HC.out.2.2.2.2.2.2
  have hbc := cell_lt HC.out.1
  have hgc := cell_lt HC.out.2.2.2.2.2.1
  have hc1 : (0 : Int) ≤ (a : Int) := by omega
  have hc2 : (a : Int) < (l : Int) := by omega
  go_enter Tryz.func38, Tryz.ntmps38
  have ene0 : w.heap.size ≠ bl := by omega
  have ene1 : w.heap.size + 1 ≠ bl := by omega
  have ene2 : w.heap.size + 1 + 1 ≠ bl := by omega
  have elt1 : bl < w.heap.size + 1 := by omega
  have elt2 : bl < w.heap.size + 1 + 1 := by omega
  have ebl := hbl
  have en := HNN.out _ br
  go_wp2_with fail
  go_at_call 68; refine (at_any 4 0 0 _ _ l c a (ES.map (·.1)) ka true _ (entsL_step HE.out TR1.out.2.2.2) HS.out).mono ?_; rintro e w21 ⟨rfl, hbw21⟩
  have TR2 := Lib.hid (And.intro (row_step TR1.out.1 hbw21) (And.intro (row_step TR1.out.2.1 hbw21) (And.intro (row_step TR1.out.2.2.1 hbw21) (bel_step TR1.out.2.2.2 hbw21))))
  clear TR1
  clear hbw21
  clear en
  obtain ⟨c0_0, c0_1, c0_2, c0_3, c0_4, c0f, c0l⟩ := r7 TR2.out.1
  have ec4 := ck TR2.out.2.2.2 Hc4.out
  have ec6 := ck TR2.out.2.2.2 Hc6.out
  have ecl := cell_lt ec4
  have ecm := cell_lt ec6
  go_wp2_with fail
  go_at_call 30; refine (no_any _ _).mono ?_; rintro e w22 ⟨rfl, hbw22⟩
  have TR3 := Lib.hid (And.intro (row_step TR2.out.1 hbw22) (And.intro (row_step TR2.out.2.1 hbw22) (And.intro (row_step TR2.out.2.2.1 hbw22) (bel_step TR2.out.2.2.2 hbw22))))
  clear TR2
  clear hbw22
  obtain ⟨c1_0, c1_1, c1_2, c1_3, c1_4, c1f, c1l⟩ := r7 TR3.out.2.1
  obtain ⟨c2_0, c2_1, c2_2, c2_3, c2_4, c2f, c2l⟩ := r7 TR3.out.2.2.1
  go_wp2
  refine bodyPost_ret (v := .tuple #[.agg #[.int .i64 0, .int .i64 0, .float .f64 0, .string ⟨#[]⟩, .slice none 0 0], .agg #[.int .i64 0, .int .i64 0, .float .f64 0, .string ⟨#[]⟩, .slice none 0 0], .int .i64 36]) (by simp [results, Tryz.results38, go_sem, World.cell?_setCell_same, World.cell?_setCell_other, c1_0, c1_1, c1_2, c1_3, c1_4, c2_0, c2_1, c2_2, c2_3, c2_4]) rfl ⟨_, _, rfl, ?_, fun y _ _ _ => repS_rep _ _ _ (nil_rep 2 (fun _ => True) y), fun y => repS_rep _ _ _ (nil_rep 0 (fun _ => True) y)⟩
  exact set5_below (g := w.heap.size + 1 + 1) (o := 0) (set5_below (g := w.heap.size + 1) (o := 0) TR3.out.2.2.2 (by omega) _ _ _ _ _) (by omega) _ _ _ _ _
set_option maxRecDepth 100000 in
set_option maxHeartbeats 8000000 in
theorem rdep_range (b off l c a d bl ol cl : Nat) (p : Option Addr) (ka kd : ByteArray) (K3 I3 : Int) (F3 : Nat) (S3 : ByteArray) (q3 : Option Addr) (m3 d3 : Nat) (w : World) (n0 : w.cell? ⟨bl, ol + 3, none⟩ = some (.string ka)) (v0 : w.cell? ⟨bl, ol + 5, none⟩ = some (.int .i64 K3)) (v1 : w.cell? ⟨bl, ol + 5 + 1, none⟩ = some (.int .i64 I3)) (v2 : w.cell? ⟨bl, ol + 5 + 2, none⟩ = some (.float .f64 F3)) (v3 : w.cell? ⟨bl, ol + 5 + 3, none⟩ = some (.string S3)) (v4 : w.cell? ⟨bl, ol + 5 + 4, none⟩ = some (.slice q3 m3 d3)) (R : Value → VT 2 → Prop) (ES : List (ByteArray × VT 1)) (hl : l ≤ 32) (G : Nat) (ha : amtV K3 I3 F3 = .tuple #[.float .f64 G, .bool true]) (FA : Nat) (hal : a < l) (gc oc cgc : Nat) (hc : AccC w b off a ka FA gc oc cgc) (HE : Hid (EntsL w (some ⟨b, off, none⟩) l (ES.map (·.1)))) (hs : Spot (ES.map (·.1)) ka a true) (HOP2 : Hid (∀ t W, (binOp .add t (.float .f64 FA) (.float .f64 G)).run Tryz.prog W = .ok (.float .f64 (Flo.cop .add FA G)) W)) (HCG : Hid (Flo.canon (Flo.cop .add FA G) = (Flo.cop .add FA G))) (hfin : finV 2 (Flo.cop .add FA G) = false) :
    Calls Tryz.prog 38 #[.agg #[.int .i64 4, .int .i64 0, .float .f64 0, .string ⟨#[]⟩, .slice (some ⟨b, off, none⟩) l c], .string { data := #[100, 101, 112, 111, 115, 105, 116] }, .slice (some ⟨bl, ol, none⟩) 2 cl] w fun e w' => RLQ w R (some ⟨b, off, none⟩) l c (ES.map (pairE 0)) (nilT 2) (nilT 0) 35 e w' := by
  have TR1 := Lib.hid (show (fun z0 : World => ZL z0 w.heap.size (some ⟨b, off, none⟩) l c ∧ Zz z0 (w.heap.size + 1) ∧ Zz z0 (w.heap.size + 1 + 1) ∧ Below w.heap.size w z0) (((w.alloc (.cells #[.int .i64 4, .int .i64 0, .float .f64 0, .string ⟨#[]⟩, .slice (some ⟨b, off, none⟩) l c] 27)).alloc (.cells #[.int .i64 0, .int .i64 0, .float .f64 0, .string ⟨#[]⟩, .slice none 0 0] 27)).alloc (.cells #[.int .i64 0, .int .i64 0, .float .f64 0, .string ⟨#[]⟩, .slice none 0 0] 27)) from ⟨row_alloc_step (row_alloc_step (row_alloc w #[.int .i64 4, .int .i64 0, .float .f64 0, .string ⟨#[]⟩, .slice (some ⟨b, off, none⟩) l c] 27) _) _, (row_alloc_step (ra (by simp only [World.size_alloc, World.size_drew])) _), (ra (by simp only [World.size_alloc, World.size_drew])), bel_alloc (bel_alloc (bel_alloc (Below.refl w.heap.size w) _) _) _⟩)
  have HV := Lib.hid (show ∀ W, Below w.heap.size w W → W.cell? ⟨bl, ol + 5, none⟩ = some (.int .i64 K3) ∧ W.cell? ⟨bl, ol + 5 + 1, none⟩ = some (.int .i64 I3) ∧ W.cell? ⟨bl, ol + 5 + 2, none⟩ = some (.float .f64 F3) ∧ W.cell? ⟨bl, ol + 5 + 3, none⟩ = some (.string S3) ∧ W.cell? ⟨bl, ol + 5 + 4, none⟩ = some (.slice q3 m3 d3) from fun W hb => ⟨ck hb v0, ck hb v1, ck hb v2, ck hb v3, ck hb v4⟩)
  have HA := Lib.hid ha
  clear v0 v1 v2 v3 v4 ha
  have hbl : bl < w.heap.size := cell_lt n0
  have HNN := Lib.hid (show ∀ W, Below w.heap.size w W → W.cell? ⟨bl, ol + 3, none⟩ = some (.string ka) from fun W hb => ck hb n0)
  clear n0
  have HS := Lib.hid hs
  clear hs
  have HC := Lib.hid hc
  clear hc
  have Hc0 := Lib.hid HC.out.1
  have Hc1 := Lib.hid HC.out.2.1
  have Hc2 := Lib.hid HC.out.2.2.1
  have Hc3 := Lib.hid HC.out.2.2.2.1
  have Hc4 := Lib.hid HC.out.2.2.2.2.1
  have Hc5 := Lib.hid HC.out.2.2.2.2.2.1
  have Hc6 := Lib.hid HC.out.2.2.2.2.2.2
  have hbc := cell_lt HC.out.1
  have hgc := cell_lt HC.out.2.2.2.2.2.1
  have hc1 : (0 : Int) ≤ (a : Int) := by omega
  have hc2 : (a : Int) < (l : Int) := by omega
  go_enter Tryz.func38, Tryz.ntmps38
  obtain ⟨e0, e1, e2, e3, e4⟩ := HV.out _ br
  have ebl : bl < w.heap.size := cell_lt e0
  have ene0 : w.heap.size ≠ bl := by omega
  have ene1 : w.heap.size + 1 ≠ bl := by omega
  have ene2 : w.heap.size + 1 + 1 ≠ bl := by omega
  have elt1 : bl < w.heap.size + 1 := by omega
  have elt2 : bl < w.heap.size + 1 + 1 := by omega
  go_wp2_with fail
  go_at_call 71; refine (amount_is8 HA.out S3 q3 m3 d3 _).mono ?_; rintro e w23 ⟨rfl, hbw23⟩
  have TR2 := Lib.hid (And.intro (row_step TR1.out.1 hbw23) (And.intro (row_step TR1.out.2.1 hbw23) (And.intro (row_step TR1.out.2.2.1 hbw23) (bel_step TR1.out.2.2.2 hbw23))))
  clear TR1
  clear hbw23
  clear e0 e1 e2 e3 e4
  have en := HNN.out _ TR2.out.2.2.2
  have enl := cell_lt en
  obtain ⟨c0_0, c0_1, c0_2, c0_3, c0_4, c0f, c0l⟩ := r7 TR2.out.1
  go_wp2_with fail
  go_at_call 68; refine (at_any 4 0 0 _ _ l c a (ES.map (·.1)) ka true _ (entsL_step HE.out TR2.out.2.2.2) HS.out).mono ?_; rintro e w24 ⟨rfl, hbw24⟩
  have TR3 := Lib.hid (And.intro (row_step TR2.out.1 hbw24) (And.intro (row_step TR2.out.2.1 hbw24) (And.intro (row_step TR2.out.2.2.1 hbw24) (bel_step TR2.out.2.2.2 hbw24))))
  clear TR2
  clear hbw24
  clear en enl
  clear c0_0 c0_1 c0_2 c0_3 c0_4 c0f c0l
  obtain ⟨c0_0, c0_1, c0_2, c0_3, c0_4, c0f, c0l⟩ := r7 TR3.out.1
  have ec4 := ck TR3.out.2.2.2 Hc4.out
  have ec6 := ck TR3.out.2.2.2 Hc6.out
  have ecl := cell_lt ec4
  have ecm := cell_lt ec6
  have hop2 := HOP2.out
  go_wp2_with fail
  go_at_call 20; refine (float_is HCG.out _).mono ?_; rintro e w25 ⟨rfl, hbw25⟩
  have TR4 := Lib.hid (And.intro (row_step TR3.out.1 hbw25) (And.intro (row_step TR3.out.2.1 hbw25) (And.intro (row_step TR3.out.2.2.1 hbw25) (bel_step TR3.out.2.2.2 hbw25))))
  clear TR3
  clear hbw25
  clear hop2
  clear c0_0 c0_1 c0_2 c0_3 c0_4 c0f c0l
  clear ec4 ec6 ecl ecm
  go_wp2_with fail
  have hlt26 : w.heap.size < w25.heap.size := (by have h := row_lt TR4.out.1; (try simp only [World.size_alloc, World.size_drew] at h); exact h)
  have hlt27 : w.heap.size + 1 < w25.heap.size := (by have h := row_lt TR4.out.2.1; (try simp only [World.size_alloc, World.size_drew] at h); exact h)
  have hlt28 : w.heap.size + 1 + 1 < w25.heap.size := (by have h := row_lt TR4.out.2.2.1; (try simp only [World.size_alloc, World.size_drew] at h); exact h)
  have hlt29 : w.heap.size ≤ w25.heap.size := (by have h := TR4.out.2.2.2.size; (try simp only [World.size_alloc, World.size_drew] at h); exact h)
  have TR5 := Lib.hid (show (fun z0 : World => ZL z0 w.heap.size (some ⟨b, off, none⟩) l c ∧ Zz z0 (w.heap.size + 1) ∧ Zz z0 (w.heap.size + 1 + 1) ∧ ZF z0 w25.heap.size (Flo.cop .add FA G) ∧ Below w.heap.size w z0) (w25.alloc (.cells #[.int .i64 2, .int .i64 0, .float .f64 (Flo.cop .add FA G), .string ⟨#[]⟩, .slice none 0 0] 27)) from ⟨(row_alloc_step (TR4.out.1) _), (row_alloc_step (TR4.out.2.1) _), (row_alloc_step (TR4.out.2.2.1) _), (ra (by simp only [World.size_alloc, World.size_drew, World.size_setCell])), bel_step TR4.out.2.2.2 (bel_alloc br _)⟩)
  go_at_call 72; refine (refFinite_any 2 0 (Flo.cop .add FA G) _ _ _ _ _).mono ?_; rintro e w30 ⟨rfl, hbw30⟩
  have TR6 := Lib.hid (And.intro (row_step TR5.out.1 hbw30) (And.intro (row_step TR5.out.2.1 hbw30) (And.intro (row_step TR5.out.2.2.1 hbw30) (And.intro (row_step TR5.out.2.2.2.1 hbw30) (bel_step TR5.out.2.2.2.2 hbw30)))))
  clear TR5
  clear hbw30
  go_wp2_with fail
  go_at_call 30; refine (no_any _ _).mono ?_; rintro e w31 ⟨rfl, hbw31⟩
  have TR7 := Lib.hid (And.intro (row_step TR6.out.1 hbw31) (And.intro (row_step TR6.out.2.1 hbw31) (And.intro (row_step TR6.out.2.2.1 hbw31) (And.intro (row_step TR6.out.2.2.2.1 hbw31) (bel_step TR6.out.2.2.2.2 hbw31)))))
  clear TR6
  clear hbw31
  obtain ⟨c1_0, c1_1, c1_2, c1_3, c1_4, c1f, c1l⟩ := r7 TR7.out.2.1
  obtain ⟨c2_0, c2_1, c2_2, c2_3, c2_4, c2f, c2l⟩ := r7 TR7.out.2.2.1
  go_wp2
  refine bodyPost_ret (v := .tuple #[.agg #[.int .i64 0, .int .i64 0, .float .f64 0, .string ⟨#[]⟩, .slice none 0 0], .agg #[.int .i64 0, .int .i64 0, .float .f64 0, .string ⟨#[]⟩, .slice none 0 0], .int .i64 35]) (by simp [results, Tryz.results38, go_sem, World.cell?_setCell_same, World.cell?_setCell_other, c1_0, c1_1, c1_2, c1_3, c1_4, c2_0, c2_1, c2_2, c2_3, c2_4]) rfl ⟨_, _, rfl, ?_, fun y _ _ _ => repS_rep _ _ _ (nil_rep 2 (fun _ => True) y), fun y => repS_rep _ _ _ (nil_rep 0 (fun _ => True) y)⟩
  exact set5_below (g := w.heap.size + 1 + 1) (o := 0) (set5_below (g := w.heap.size + 1) (o := 0) TR7.out.2.2.2.2 (by omega) _ _ _ _ _) (by omega) _ _ _ _ _
end Num
end Go.Proofs.YtpbfaffheigjcaaGreat
/-
  The reference: a transfer of what is no amount, whatever the list.
-/
namespace Go.Proofs.YtpbfaffheigjcaaGreat
open Go.RowKit
namespace Num
open Ints
set_option linter.unusedSimpArgs false
set_option linter.unusedVariables false
set_option maxRecDepth 100000 in
set_option maxHeartbeats 8000000 in
theorem rtra_amountp (b off l c a d bl ol cl : Nat) (p : Option Addr) (ka kd : ByteArray) (K3 I3 : Int) (F3 : Nat) (S3 : ByteArray) (q3 : Option Addr) (m3 d3 : Nat) (w : World) (n0 : w.cell? ⟨bl, ol + 3, none⟩ = some (.string ka)) (n1 : w.cell? ⟨bl, ol + 5 + 3, none⟩ = some (.string kd)) (v0 : w.cell? ⟨bl, ol + 10, none⟩ = some (.int .i64 K3)) (v1 : w.cell? ⟨bl, ol + 10 + 1, none⟩ = some (.int .i64 I3)) (v2 : w.cell? ⟨bl, ol + 10 + 2, none⟩ = some (.float .f64 F3)) (v3 : w.cell? ⟨bl, ol + 10 + 3, none⟩ = some (.string S3)) (v4 : w.cell? ⟨bl, ol + 10 + 4, none⟩ = some (.slice q3 m3 d3)) (R : Value → VT 2 → Prop) (ES : List (ByteArray × VT 1)) (hl : l ≤ 32) (ha : amtV K3 I3 F3 = .tuple #[.float .f64 0, .bool false]) :
    Calls Tryz.prog 38 #[.agg #[.int .i64 4, .int .i64 0, .float .f64 0, .string ⟨#[]⟩, .slice p l c], .string { data := #[116, 114, 97, 110, 115, 102, 101, 114] }, .slice (some ⟨bl, ol, none⟩) 3 cl] w fun e w' => RLQ w R p l c (ES.map (pairE 0)) (nilT 2) (nilT 0) 35 e w' := by
  have TR1 := Lib.hid (show (fun z0 : World => ZL z0 w.heap.size p l c ∧ Zz z0 (w.heap.size + 1) ∧ Zz z0 (w.heap.size + 1 + 1) ∧ Below w.heap.size w z0) (((w.alloc (.cells #[.int .i64 4, .int .i64 0, .float .f64 0, .string ⟨#[]⟩, .slice p l c] 27)).alloc (.cells #[.int .i64 0, .int .i64 0, .float .f64 0, .string ⟨#[]⟩, .slice none 0 0] 27)).alloc (.cells #[.int .i64 0, .int .i64 0, .float .f64 0, .string ⟨#[]⟩, .slice none 0 0] 27)) from ⟨row_alloc_step (row_alloc_step (row_alloc w #[.int .i64 4, .int .i64 0, .float .f64 0, .string ⟨#[]⟩, .slice p l c] 27) _) _, (row_alloc_step (ra (by simp only [World.size_alloc, World.size_drew])) _), (ra (by simp only [World.size_alloc, World.size_drew])), bel_alloc (bel_alloc (bel_alloc (Below.refl w.heap.size w) _) _) _⟩)
  have HV := Lib.hid (show ∀ W, Below w.heap.size w W → W.cell? ⟨bl, ol + 10, none⟩ = some (.int .i64 K3) ∧ W.cell? ⟨bl, ol + 10 + 1, none⟩ = some (.int .i64 I3) ∧ W.cell? ⟨bl, ol + 10 + 2, none⟩ = some (.float .f64 F3) ∧ W.cell? ⟨bl, ol + 10 + 3, none⟩ = some (.string S3) ∧ W.cell? ⟨bl, ol + 10 + 4, none⟩ = some (.slice q3 m3 d3) from fun W hb => ⟨ck hb v0, ck hb v1, ck hb v2, ck hb v3, ck hb v4⟩)
  have HA := Lib.hid ha
  clear v0 v1 v2 v3 v4 ha
  have hbl : bl < w.heap.size := cell_lt n0
  have HNN := Lib.hid (show ∀ W, Below w.heap.size w W → W.cell? ⟨bl, ol + 3, none⟩ = some (.string ka) from fun W hb => ck hb n0)
  clear n0
  have HN1 := Lib.hid (show ∀ W, Below w.heap.size w W → W.cell? ⟨bl, ol + 5 + 3, none⟩ = some (.string kd) from fun W hb => ck hb n1)
  clear n1
  go_enter Tryz.func38, Tryz.ntmps38
  obtain ⟨e0, e1, e2, e3, e4⟩ := HV.out _ br
  have ebl : bl < w.heap.size := cell_lt e0
  have ene0 : w.heap.size ≠ bl := by omega
  have ene1 : w.heap.size + 1 ≠ bl := by omega
  have ene2 : w.heap.size + 1 + 1 ≠ bl := by omega
  have elt1 : bl < w.heap.size + 1 := by omega
  have elt2 : bl < w.heap.size + 1 + 1 := by omega
  go_wp2_with fail
  go_at_call 71; refine (amount_is8 HA.out S3 q3 m3 d3 _).mono ?_; rintro e w80 ⟨rfl, hbw80⟩
  have TR2 := Lib.hid (And.intro (row_step TR1.out.1 hbw80) (And.intro (row_step TR1.out.2.1 hbw80) (And.intro (row_step TR1.out.2.2.1 hbw80) (bel_step TR1.out.2.2.2 hbw80))))
  clear TR1
  clear hbw80
  clear e0 e1 e2 e3 e4
  go_wp2_with fail
  go_at_call 30; refine (no_any _ _).mono ?_; rintro e w81 ⟨rfl, hbw81⟩
  have TR3 := Lib.hid (And.intro (row_step TR2.out.1 hbw81) (And.intro (row_step TR2.out.2.1 hbw81) (And.intro (row_step TR2.out.2.2.1 hbw81) (bel_step TR2.out.2.2.2 hbw81))))
  clear TR2
  clear hbw81
  obtain ⟨c1_0, c1_1, c1_2, c1_3, c1_4, c1f, c1l⟩ := r7 TR3.out.2.1
  obtain ⟨c2_0, c2_1, c2_2, c2_3, c2_4, c2f, c2l⟩ := r7 TR3.out.2.2.1
  go_wp2
  refine bodyPost_ret (v := .tuple #[.agg #[.int .i64 0, .int .i64 0, .float .f64 0, .string ⟨#[]⟩, .slice none 0 0], .agg #[.int .i64 0, .int .i64 0, .float .f64 0, .string ⟨#[]⟩, .slice none 0 0], .int .i64 35]) (by simp [results, Tryz.results38, go_sem, World.cell?_setCell_same, World.cell?_setCell_other, c1_0, c1_1, c1_2, c1_3, c1_4, c2_0, c2_1, c2_2, c2_3, c2_4]) rfl ⟨_, _, rfl, ?_, fun y _ _ _ => repS_rep _ _ _ (nil_rep 2 (fun _ => True) y), fun y => repS_rep _ _ _ (nil_rep 0 (fun _ => True) y)⟩
  exact set5_below (g := w.heap.size + 1 + 1) (o := 0) (set5_below (g := w.heap.size + 1) (o := 0) TR3.out.2.2.2 (by omega) _ _ _ _ _) (by omega) _ _ _ _ _
end Num
end Go.Proofs.YtpbfaffheigjcaaGreat
