/-
  The reference: a transfer.
-/
import Derived.Test.YtpbfaffheigjcaaGreatJMI
import Derived.Test.YtpbfaffheigjcaaGreatJp18YU
import Derived.Test.YtpbfaffheigjcaaGreatJp20LA
import Derived.Test.YtpbfaffheigjcaaGreatJp15YE
import Derived.Test.YtpbfaffheigjcaaGreatJp3VBase
import Derived.Test.YtpbfaffheigjcaaGreatJp16YI
import Derived.Deep.RegionHeld3
import Derived.RegionTactic
import Derived.Deep.DeepCutAuto
import Derived.Test.YtpbfaffheigjcaaGreatJp12KV
import Derived.Test.YtpbfaffheigjcaaGreatJYL
import Derived.Test.YtpbfaffheigjcaaGreatJp2Flo
namespace Go.Proofs.YtpbfaffheigjcaaGreat
open Go.RowKit
namespace Num
open Ints
set_option linter.unusedSimpArgs false
set_option linter.unusedVariables false
theorem no_any (z : Int) (w : World) : Calls Tryz.prog 30 #[.int .i64 z] w fun e w' => e = .returned (.tuple #[.agg #[.int .i64 0, .int .i64 0, .float .f64 0, .string ⟨#[]⟩, .slice none 0 0], .agg #[.int .i64 0, .int .i64 0, .float .f64 0, .string ⟨#[]⟩, .slice none 0 0], .int .i64 z]) ∧ Below w.heap.size w w' := by
  go_enter Tryz.func30, Tryz.ntmps30
  go_wp2
  exact bodyPost_ret (v := .tuple #[.agg #[.int .i64 0, .int .i64 0, .float .f64 0, .string ⟨#[]⟩, .slice none 0 0], .agg #[.int .i64 0, .int .i64 0, .float .f64 0, .string ⟨#[]⟩, .slice none 0 0], .int .i64 z]) (by simp [results, Tryz.results30, go_sem]) rfl ⟨rfl, bel_alloc (bel_alloc br _) _⟩
def RLQ (W : World) (R : Value → VT 2 → Prop) (p : Option Addr) (l c : Nat) (L : List (VT 2)) (T : VT 3) (U : VT 1) (z : Int) (e : Ending) (w' : World) : Prop := ∃ t u, e = .returned (.tuple #[t, u, .int .i64 z]) ∧ Below W.heap.size W w' ∧ (∀ y, RepL y R p l c L → (∀ v T, R v T → Rep y 2 v T) → Stay W.heap.size w' y → Rep y 3 t T) ∧ ∀ y : World, Rep y 1 u U
def AccC (w : World) (b off a : Nat) (k : ByteArray) (F : Nat) (g o cg : Nat) : Prop := w.cell? ⟨b, off + a * 5, none⟩ = some (.int .i64 4) ∧ w.cell? ⟨b, off + a * 5 + 1, none⟩ = some (.int .i64 0) ∧ w.cell? ⟨b, off + a * 5 + 2, none⟩ = some (.float .f64 0) ∧ w.cell? ⟨b, off + a * 5 + 3, none⟩ = some (.string ⟨#[]⟩) ∧ w.cell? ⟨b, off + a * 5 + 4, none⟩ = some (.slice (some ⟨g, o, none⟩) 2 cg) ∧ w.cell? ⟨g, o + 3, none⟩ = some (.string k) ∧ w.cell? ⟨g, o + 5 + 2, none⟩ = some (.float .f64 F)
theorem accC_of {w : World} {b off l c a : Nat} {R : Value → VT 2 → Prop} {ES : List (ByteArray × VT 1)} (h : RepL w R (some ⟨b, off, none⟩) l c (ES.map (pairE 0))) (hR : ∀ v T, R v T → Rep w 2 v T) (ha : a < ES.length) {k : ByteArray} {F : Nat} (he : ES[a] = (k, floT 0 F)) : ∃ g o cg, AccC w b off a k F g o cg := by
  obtain ⟨g, o, cg, c0, c1, c2, c3, c4, hr⟩ := acc_at (n := 0) (repL_mono hR h) ha
  rw [he] at hr
  obtain ⟨g', o', cg', hv, ⟨_, _, _, n3, _⟩, _, K, I, F', Z, q, m, d, ⟨x0, x1, x2, x3, x4⟩, hr'⟩ := pair_mem hr
  injection hv with hv
  simp only [Array.mk.injEq, List.cons.injEq, and_true] at hv
  obtain ⟨_, _, _, _, e5⟩ := hv
  injection e5 with e5
  injection e5 with e5
  injection e5 with e6 e7
  subst e6 e7
  obtain ⟨_, _, e8, _⟩ := leaf_is (show Rep w 1 _ (2, 0, F, ⟨#[]⟩, []) from hr')
  rw [e8] at x2
  exact ⟨g, o, cg, c0, c1, c2, c3, c4, n3, x2⟩
theorem float_is {x : Nat} (h : Flo.canon x = x) (w : World) : Calls Tryz.prog 20 #[.float .f64 x] w fun e w' => e = .returned (.agg #[.int .i64 2, .int .i64 0, .float .f64 x, .string ⟨#[]⟩, .slice none 0 0]) ∧ Below w.heap.size w w' := by
  have h1 := float_ref_any x w
  rw [h] at h1
  exact h1
theorem amount_is8 {K3 I3 : Int} {F3 : Nat} {v : Value} (h : amtV K3 I3 F3 = v) (S3 : ByteArray) (q3 : Option Addr) (m3 d3 : Nat) (w : World) : Calls Tryz.prog 71 #[.agg #[.int .i64 K3, .int .i64 I3, .float .f64 F3, .string S3, .slice q3 m3 d3]] w fun e w' => e = .returned v ∧ Below w.heap.size w w' := by
  have h1 := amount_any K3 I3 F3 S3 q3 m3 d3 w
  rw [h] at h1
  exact h1
theorem ro_rep3 {ge1 ge2 : Nat} {R : Value → VT 2 → Prop} {k1 k2 : ByteArray} {V1 V2 : VT 1} {y : World} {u0 u1 u2 u3 u4 v0 v1 v2 v3 v4 x0 x1 x2 x3 x4 z0 z1 z2 z3 z4 : Value} (hR : ∀ v T, R v T → Rep y 2 v T)
    (h1 : y.heap[ge1]? = some (.cells #[u0, u1, u2, u3, u4, v0, v1, v2, v3, v4] 27 (0, 0))) (h2 : y.heap[ge2]? = some (.cells #[x0, x1, x2, x3, x4, z0, z1, z2, z3, z4] 27 (0, 0)))
    (hk1 : Rep y 1 (.agg #[u0, u1, u2, u3, u4]) (3, 0, 0, k1, [])) (hv1 : Rep y 1 (.agg #[v0, v1, v2, v3, v4]) V1) (hk2 : Rep y 1 (.agg #[x0, x1, x2, x3, x4]) (3, 0, 0, k2, [])) (hv2 : Rep y 1 (.agg #[z0, z1, z2, z3, z4]) V2) :
    ∀ v T, RO 0 ge2 (RO 0 ge1 R k1 V1) k2 V2 v T → Rep y 2 v T := by
  rintro v T ((h | ⟨rfl, rfl⟩) | ⟨rfl, rfl⟩)
  · exact hR _ _ h
  · exact list_rep (row2_rep h1 hk1 hv1)
  · exact list_rep (row2_rep h2 hk2 hv2)
set_option maxRecDepth 100000 in
set_option maxHeartbeats 8000000 in
theorem rtra_amount (b off l c a d bl ol cl : Nat) (ka kd : ByteArray) (K3 I3 : Int) (F3 : Nat) (S3 : ByteArray) (q3 : Option Addr) (m3 d3 : Nat) (w : World) (n0 : w.cell? ⟨bl, ol + 3, none⟩ = some (.string ka)) (n1 : w.cell? ⟨bl, ol + 5 + 3, none⟩ = some (.string kd)) (v0 : w.cell? ⟨bl, ol + 10, none⟩ = some (.int .i64 K3)) (v1 : w.cell? ⟨bl, ol + 10 + 1, none⟩ = some (.int .i64 I3)) (v2 : w.cell? ⟨bl, ol + 10 + 2, none⟩ = some (.float .f64 F3)) (v3 : w.cell? ⟨bl, ol + 10 + 3, none⟩ = some (.string S3)) (v4 : w.cell? ⟨bl, ol + 10 + 4, none⟩ = some (.slice q3 m3 d3)) (R : Value → VT 2 → Prop) (ES : List (ByteArray × VT 1)) (ha : amtV K3 I3 F3 = .tuple #[.float .f64 0, .bool false]) :
    Calls Tryz.prog 38 #[.agg #[.int .i64 4, .int .i64 0, .float .f64 0, .string ⟨#[]⟩, .slice (some ⟨b, off, none⟩) l c], .string { data := #[116, 114, 97, 110, 115, 102, 101, 114] }, .slice (some ⟨bl, ol, none⟩) 3 cl] w fun e w' => RLQ w R (some ⟨b, off, none⟩) l c (ES.map (pairE 0)) (nilT 2) (nilT 0) 35 e w' := by
  have TR1 := Lib.hid (show (fun z0 : World => ZL z0 w.heap.size (some ⟨b, off, none⟩) l c ∧ Zz z0 (w.heap.size + 1) ∧ Zz z0 (w.heap.size + 1 + 1) ∧ Below w.heap.size w z0) (((w.alloc (.cells #[.int .i64 4, .int .i64 0, .float .f64 0, .string ⟨#[]⟩, .slice (some ⟨b, off, none⟩) l c] 27)).alloc (.cells #[.int .i64 0, .int .i64 0, .float .f64 0, .string ⟨#[]⟩, .slice none 0 0] 27)).alloc (.cells #[.int .i64 0, .int .i64 0, .float .f64 0, .string ⟨#[]⟩, .slice none 0 0] 27)) from ⟨row_alloc_step (row_alloc_step (row_alloc w #[.int .i64 4, .int .i64 0, .float .f64 0, .string ⟨#[]⟩, .slice (some ⟨b, off, none⟩) l c] 27) _) _, (row_alloc_step (ra (by simp only [World.size_alloc, World.size_drew])) _), (ra (by simp only [World.size_alloc, World.size_drew])), bel_alloc (bel_alloc (bel_alloc (Below.refl w.heap.size w) _) _) _⟩)
  have hbl : bl < w.heap.size := cell_lt v0
  have HV := Lib.hid (show ∀ W, Below w.heap.size w W → W.cell? ⟨bl, ol + 10, none⟩ = some (.int .i64 K3) ∧ W.cell? ⟨bl, ol + 10 + 1, none⟩ = some (.int .i64 I3) ∧ W.cell? ⟨bl, ol + 10 + 2, none⟩ = some (.float .f64 F3) ∧ W.cell? ⟨bl, ol + 10 + 3, none⟩ = some (.string S3) ∧ W.cell? ⟨bl, ol + 10 + 4, none⟩ = some (.slice q3 m3 d3) from fun W hb => ⟨ck hb v0, ck hb v1, ck hb v2, ck hb v3, ck hb v4⟩)
  have HNN := Lib.hid (show ∀ W, Below w.heap.size w W → W.cell? ⟨bl, ol + 3, none⟩ = some (.string ka) ∧ W.cell? ⟨bl, ol + 5 + 3, none⟩ = some (.string kd) from fun W hb => ⟨ck hb n0, ck hb n1⟩)
  have HA := Lib.hid ha
  clear v0 v1 v2 v3 v4 n0 n1 ha
  obtain ⟨e0, e1, e2, e3, e4⟩ := HV.out _ TR1.out.2.2.2
  go_enter Tryz.func38, Tryz.ntmps38
  clear e0 e1 e2 e3 e4
  obtain ⟨e0, e1, e2, e3, e4⟩ := HV.out _ br
  have ebl : bl < w.heap.size := cell_lt e0
  have ene0 : w.heap.size ≠ bl := by omega
  have ene1 : w.heap.size + 1 ≠ bl := by omega
  have ene2 : w.heap.size + 1 + 1 ≠ bl := by omega
  have elt1 : bl < w.heap.size + 1 := by omega
  have elt2 : bl < w.heap.size + 1 + 1 := by omega
  go_wp2_with fail
  go_at_call 71; refine (amount_is8 HA.out S3 q3 m3 d3 _).mono ?_; rintro e w209 ⟨rfl, hbw209⟩
  have TR2 := Lib.hid (And.intro (row_step TR1.out.1 hbw209) (And.intro (row_step TR1.out.2.1 hbw209) (And.intro (row_step TR1.out.2.2.1 hbw209) (bel_step TR1.out.2.2.2 hbw209))))
  clear TR1
  clear hbw209
  clear e0 e1 e2 e3 e4
  go_wp2_with fail
  go_at_call 30; refine (no_any _ _).mono ?_; rintro e w210 ⟨rfl, hbw210⟩
  have TR3 := Lib.hid (And.intro (row_step TR2.out.1 hbw210) (And.intro (row_step TR2.out.2.1 hbw210) (And.intro (row_step TR2.out.2.2.1 hbw210) (bel_step TR2.out.2.2.2 hbw210))))
  clear TR2
  clear hbw210
  obtain ⟨c1_0, c1_1, c1_2, c1_3, c1_4, c1f, c1l⟩ := r7 TR3.out.2.1
  obtain ⟨c2_0, c2_1, c2_2, c2_3, c2_4, c2f, c2l⟩ := r7 TR3.out.2.2.1
  go_wp2
  refine bodyPost_ret (v := .tuple #[.agg #[.int .i64 0, .int .i64 0, .float .f64 0, .string ⟨#[]⟩, .slice none 0 0], .agg #[.int .i64 0, .int .i64 0, .float .f64 0, .string ⟨#[]⟩, .slice none 0 0], .int .i64 35]) (by simp [results, Tryz.results38, go_sem, World.cell?_setCell_same, World.cell?_setCell_other, c1_0, c1_1, c1_2, c1_3, c1_4, c2_0, c2_1, c2_2, c2_3, c2_4]) rfl ⟨_, _, rfl, ?_, fun y _ _ _ => repS_rep _ _ _ (nil_rep 2 (fun _ => True) y), fun y => repS_rep _ _ _ (nil_rep 0 (fun _ => True) y)⟩
  exact set5_below (g := w.heap.size + 1 + 1) (o := 0) (set5_below (g := w.heap.size + 1) (o := 0) TR3.out.2.2.2 (by omega) _ _ _ _ _) (by omega) _ _ _ _ _
set_option maxRecDepth 100000 in
set_option maxHeartbeats 8000000 in
theorem rtra_funds (b off l c a d bl ol cl : Nat) (ka kd : ByteArray) (K3 I3 : Int) (F3 : Nat) (S3 : ByteArray) (q3 : Option Addr) (m3 d3 : Nat) (w : World) (n0 : w.cell? ⟨bl, ol + 3, none⟩ = some (.string ka)) (n1 : w.cell? ⟨bl, ol + 5 + 3, none⟩ = some (.string kd)) (v0 : w.cell? ⟨bl, ol + 10, none⟩ = some (.int .i64 K3)) (v1 : w.cell? ⟨bl, ol + 10 + 1, none⟩ = some (.int .i64 I3)) (v2 : w.cell? ⟨bl, ol + 10 + 2, none⟩ = some (.float .f64 F3)) (v3 : w.cell? ⟨bl, ol + 10 + 3, none⟩ = some (.string S3)) (v4 : w.cell? ⟨bl, ol + 10 + 4, none⟩ = some (.slice q3 m3 d3)) (R : Value → VT 2 → Prop) (ES : List (ByteArray × VT 1)) (G FA : Nat) (ha : amtV K3 I3 F3 = .tuple #[.float .f64 G, .bool true]) (hal : a < l) (hl : l ≤ 32) (HE : Hid (EntsL w (some ⟨b, off, none⟩) l (ES.map (·.1)))) (hs : Spot (ES.map (·.1)) ka a true) (gc oc cgc : Nat) (hc : AccC w b off a ka FA gc oc cgc) (hsd : Spot (ES.map (·.1)) kd d true) (hls : (FloatKind.f64.format.order FA G == some .lt) = true) :
    Calls Tryz.prog 38 #[.agg #[.int .i64 4, .int .i64 0, .float .f64 0, .string ⟨#[]⟩, .slice (some ⟨b, off, none⟩) l c], .string { data := #[116, 114, 97, 110, 115, 102, 101, 114] }, .slice (some ⟨bl, ol, none⟩) 3 cl] w fun e w' => RLQ w R (some ⟨b, off, none⟩) l c (ES.map (pairE 0)) (nilT 2) (nilT 0) 36 e w' := by
  have TR1 := Lib.hid (show (fun z0 : World => ZL z0 w.heap.size (some ⟨b, off, none⟩) l c ∧ Zz z0 (w.heap.size + 1) ∧ Zz z0 (w.heap.size + 1 + 1) ∧ Below w.heap.size w z0) (((w.alloc (.cells #[.int .i64 4, .int .i64 0, .float .f64 0, .string ⟨#[]⟩, .slice (some ⟨b, off, none⟩) l c] 27)).alloc (.cells #[.int .i64 0, .int .i64 0, .float .f64 0, .string ⟨#[]⟩, .slice none 0 0] 27)).alloc (.cells #[.int .i64 0, .int .i64 0, .float .f64 0, .string ⟨#[]⟩, .slice none 0 0] 27)) from ⟨row_alloc_step (row_alloc_step (row_alloc w #[.int .i64 4, .int .i64 0, .float .f64 0, .string ⟨#[]⟩, .slice (some ⟨b, off, none⟩) l c] 27) _) _, (row_alloc_step (ra (by simp only [World.size_alloc, World.size_drew])) _), (ra (by simp only [World.size_alloc, World.size_drew])), bel_alloc (bel_alloc (bel_alloc (Below.refl w.heap.size w) _) _) _⟩)
  have hbl : bl < w.heap.size := cell_lt v0
  have HV := Lib.hid (show ∀ W, Below w.heap.size w W → W.cell? ⟨bl, ol + 10, none⟩ = some (.int .i64 K3) ∧ W.cell? ⟨bl, ol + 10 + 1, none⟩ = some (.int .i64 I3) ∧ W.cell? ⟨bl, ol + 10 + 2, none⟩ = some (.float .f64 F3) ∧ W.cell? ⟨bl, ol + 10 + 3, none⟩ = some (.string S3) ∧ W.cell? ⟨bl, ol + 10 + 4, none⟩ = some (.slice q3 m3 d3) from fun W hb => ⟨ck hb v0, ck hb v1, ck hb v2, ck hb v3, ck hb v4⟩)
  have HNN := Lib.hid (show ∀ W, Below w.heap.size w W → W.cell? ⟨bl, ol + 3, none⟩ = some (.string ka) ∧ W.cell? ⟨bl, ol + 5 + 3, none⟩ = some (.string kd) from fun W hb => ⟨ck hb n0, ck hb n1⟩)
  have HA := Lib.hid ha
  clear v0 v1 v2 v3 v4 n0 n1 ha
  have HS := Lib.hid hs
  have HC := Lib.hid hc
  clear hs hc
  have Hc0 := Lib.hid HC.out.1
  have Hc1 := Lib.hid HC.out.2.1
  have Hc2 := Lib.hid HC.out.2.2.1
  have Hc3 := Lib.hid HC.out.2.2.2.1
  have Hc4 := Lib.hid HC.out.2.2.2.2.1
  have Hc5 := Lib.hid HC.out.2.2.2.2.2.1
  have Hc6 := Lib.hid HC.out.2.2.2.2.2.2
  have hbc := cell_lt HC.out.1
  have hgc := cell_lt HC.out.2.2.2.2.2.1
  have hc1 : (0 : Int) ≤ (a : Int) := by omega
  have hc2 : (a : Int) < (l : Int) := by omega
  have HSD := Lib.hid hsd
  clear hsd
  obtain ⟨e0, e1, e2, e3, e4⟩ := HV.out _ TR1.out.2.2.2
  go_enter Tryz.func38, Tryz.ntmps38
  clear e0 e1 e2 e3 e4
  obtain ⟨e0, e1, e2, e3, e4⟩ := HV.out _ br
  have ebl : bl < w.heap.size := cell_lt e0
  have ene0 : w.heap.size ≠ bl := by omega
  have ene1 : w.heap.size + 1 ≠ bl := by omega
  have ene2 : w.heap.size + 1 + 1 ≠ bl := by omega
  have elt1 : bl < w.heap.size + 1 := by omega
  have elt2 : bl < w.heap.size + 1 + 1 := by omega
  go_wp2_with fail
  go_at_call 71; refine (amount_is8 HA.out S3 q3 m3 d3 _).mono ?_; rintro e w211 ⟨rfl, hbw211⟩
  have TR2 := Lib.hid (And.intro (row_step TR1.out.1 hbw211) (And.intro (row_step TR1.out.2.1 hbw211) (And.intro (row_step TR1.out.2.2.1 hbw211) (bel_step TR1.out.2.2.2 hbw211))))
  clear TR1
  clear hbw211
  clear e0 e1 e2 e3 e4
  have en := (HNN.out _ TR2.out.2.2.2).1
  have enl := cell_lt en
  obtain ⟨c0_0, c0_1, c0_2, c0_3, c0_4, c0f, c0l⟩ := r7 TR2.out.1
  go_wp2_with fail
  go_at_call 68; refine (at_any 4 0 0 _ _ l c a (ES.map (·.1)) ka true _ (entsL_step HE.out TR2.out.2.2.2) HS.out).mono ?_; rintro e w212 ⟨rfl, hbw212⟩
  have TR3 := Lib.hid (And.intro (row_step TR2.out.1 hbw212) (And.intro (row_step TR2.out.2.1 hbw212) (And.intro (row_step TR2.out.2.2.1 hbw212) (bel_step TR2.out.2.2.2 hbw212))))
  clear TR2
  clear hbw212
  clear en enl
  clear c0_0 c0_1 c0_2 c0_3 c0_4 c0f c0l
  obtain ⟨c0_0, c0_1, c0_2, c0_3, c0_4, c0f, c0l⟩ := r7 TR3.out.1
  have ec4 := ck TR3.out.2.2.2 Hc4.out
  have ec6 := ck TR3.out.2.2.2 Hc6.out
  have ecl := cell_lt ec4
  have ecm := cell_lt ec6
  have en := (HNN.out _ TR3.out.2.2.2).2
  have enl := cell_lt en
  go_wp2_with fail
  go_at_call 68; refine (at_any 4 0 0 _ _ l c d (ES.map (·.1)) kd true _ (entsL_step HE.out TR3.out.2.2.2) HSD.out).mono ?_; rintro e w213 ⟨rfl, hbw213⟩
  have TR4 := Lib.hid (And.intro (row_step TR3.out.1 hbw213) (And.intro (row_step TR3.out.2.1 hbw213) (And.intro (row_step TR3.out.2.2.1 hbw213) (bel_step TR3.out.2.2.2 hbw213))))
  clear TR3
  clear hbw213
  clear en enl
  clear c0_0 c0_1 c0_2 c0_3 c0_4 c0f c0l
  clear ec4 ec6 ecl ecm
  go_wp2_with fail
  go_at_call 30; refine (no_any _ _).mono ?_; rintro e w214 ⟨rfl, hbw214⟩
  have TR5 := Lib.hid (And.intro (row_step TR4.out.1 hbw214) (And.intro (row_step TR4.out.2.1 hbw214) (And.intro (row_step TR4.out.2.2.1 hbw214) (bel_step TR4.out.2.2.2 hbw214))))
  clear TR4
  clear hbw214
  obtain ⟨c1_0, c1_1, c1_2, c1_3, c1_4, c1f, c1l⟩ := r7 TR5.out.2.1
  obtain ⟨c2_0, c2_1, c2_2, c2_3, c2_4, c2f, c2l⟩ := r7 TR5.out.2.2.1
  go_wp2
  refine bodyPost_ret (v := .tuple #[.agg #[.int .i64 0, .int .i64 0, .float .f64 0, .string ⟨#[]⟩, .slice none 0 0], .agg #[.int .i64 0, .int .i64 0, .float .f64 0, .string ⟨#[]⟩, .slice none 0 0], .int .i64 36]) (by simp [results, Tryz.results38, go_sem, World.cell?_setCell_same, World.cell?_setCell_other, c1_0, c1_1, c1_2, c1_3, c1_4, c2_0, c2_1, c2_2, c2_3, c2_4]) rfl ⟨_, _, rfl, ?_, fun y _ _ _ => repS_rep _ _ _ (nil_rep 2 (fun _ => True) y), fun y => repS_rep _ _ _ (nil_rep 0 (fun _ => True) y)⟩
  exact set5_below (g := w.heap.size + 1 + 1) (o := 0) (set5_below (g := w.heap.size + 1) (o := 0) TR5.out.2.2.2 (by omega) _ _ _ _ _) (by omega) _ _ _ _ _
set_option maxRecDepth 100000 in
set_option maxHeartbeats 8000000 in
theorem rtra_same (b off l c a d bl ol cl : Nat) (ka kd : ByteArray) (K3 I3 : Int) (F3 : Nat) (S3 : ByteArray) (q3 : Option Addr) (m3 d3 : Nat) (w : World) (n0 : w.cell? ⟨bl, ol + 3, none⟩ = some (.string ka)) (n1 : w.cell? ⟨bl, ol + 5 + 3, none⟩ = some (.string kd)) (v0 : w.cell? ⟨bl, ol + 10, none⟩ = some (.int .i64 K3)) (v1 : w.cell? ⟨bl, ol + 10 + 1, none⟩ = some (.int .i64 I3)) (v2 : w.cell? ⟨bl, ol + 10 + 2, none⟩ = some (.float .f64 F3)) (v3 : w.cell? ⟨bl, ol + 10 + 3, none⟩ = some (.string S3)) (v4 : w.cell? ⟨bl, ol + 10 + 4, none⟩ = some (.slice q3 m3 d3)) (R : Value → VT 2 → Prop) (ES : List (ByteArray × VT 1)) (G FA : Nat) (ha : amtV K3 I3 F3 = .tuple #[.float .f64 G, .bool true]) (hal : a < l) (hl : l ≤ 32) (HE : Hid (EntsL w (some ⟨b, off, none⟩) l (ES.map (·.1)))) (hs : Spot (ES.map (·.1)) ka a true) (gc oc cgc : Nat) (hc : AccC w b off a ka FA gc oc cgc) (hsd : Spot (ES.map (·.1)) kd d true) (hls : (FloatKind.f64.format.order FA G == some .lt) = false) (hkk : (ka.toList == kd.toList) = true) (hFA : FA < 2 ^ 64) (HCN : Hid (Flo.canon FA = FA)) :
    Calls Tryz.prog 38 #[.agg #[.int .i64 4, .int .i64 0, .float .f64 0, .string ⟨#[]⟩, .slice (some ⟨b, off, none⟩) l c], .string { data := #[116, 114, 97, 110, 115, 102, 101, 114] }, .slice (some ⟨bl, ol, none⟩) 3 cl] w fun e w' => RLQ w R (some ⟨b, off, none⟩) l c (ES.map (pairE 0)) (tableT 0 ES) (floT 0 FA) 0 e w' := by
  have TR1 := Lib.hid (show (fun z0 : World => ZL z0 w.heap.size (some ⟨b, off, none⟩) l c ∧ Zz z0 (w.heap.size + 1) ∧ Zz z0 (w.heap.size + 1 + 1) ∧ Below w.heap.size w z0) (((w.alloc (.cells #[.int .i64 4, .int .i64 0, .float .f64 0, .string ⟨#[]⟩, .slice (some ⟨b, off, none⟩) l c] 27)).alloc (.cells #[.int .i64 0, .int .i64 0, .float .f64 0, .string ⟨#[]⟩, .slice none 0 0] 27)).alloc (.cells #[.int .i64 0, .int .i64 0, .float .f64 0, .string ⟨#[]⟩, .slice none 0 0] 27)) from ⟨row_alloc_step (row_alloc_step (row_alloc w #[.int .i64 4, .int .i64 0, .float .f64 0, .string ⟨#[]⟩, .slice (some ⟨b, off, none⟩) l c] 27) _) _, (row_alloc_step (ra (by simp only [World.size_alloc, World.size_drew])) _), (ra (by simp only [World.size_alloc, World.size_drew])), bel_alloc (bel_alloc (bel_alloc (Below.refl w.heap.size w) _) _) _⟩)
  have hbl : bl < w.heap.size := cell_lt v0
  have HV := Lib.hid (show ∀ W, Below w.heap.size w W → W.cell? ⟨bl, ol + 10, none⟩ = some (.int .i64 K3) ∧ W.cell? ⟨bl, ol + 10 + 1, none⟩ = some (.int .i64 I3) ∧ W.cell? ⟨bl, ol + 10 + 2, none⟩ = some (.float .f64 F3) ∧ W.cell? ⟨bl, ol + 10 + 3, none⟩ = some (.string S3) ∧ W.cell? ⟨bl, ol + 10 + 4, none⟩ = some (.slice q3 m3 d3) from fun W hb => ⟨ck hb v0, ck hb v1, ck hb v2, ck hb v3, ck hb v4⟩)
  have HNN := Lib.hid (show ∀ W, Below w.heap.size w W → W.cell? ⟨bl, ol + 3, none⟩ = some (.string ka) ∧ W.cell? ⟨bl, ol + 5 + 3, none⟩ = some (.string kd) from fun W hb => ⟨ck hb n0, ck hb n1⟩)
  have HA := Lib.hid ha
  clear v0 v1 v2 v3 v4 n0 n1 ha
  have HS := Lib.hid hs
  have HC := Lib.hid hc
  clear hs hc
  have Hc0 := Lib.hid HC.out.1
  have Hc1 := Lib.hid HC.out.2.1
  have Hc2 := Lib.hid HC.out.2.2.1
  have Hc3 := Lib.hid HC.out.2.2.2.1
  have Hc4 := Lib.hid HC.out.2.2.2.2.1
  have Hc5 := Lib.hid HC.out.2.2.2.2.2.1
  have Hc6 := Lib.hid HC.out.2.2.2.2.2.2
  have hbc := cell_lt HC.out.1
  have hgc := cell_lt HC.out.2.2.2.2.2.1
  have hc1 : (0 : Int) ≤ (a : Int) := by omega
  have hc2 : (a : Int) < (l : Int) := by omega
  have HSD := Lib.hid hsd
  clear hsd
  obtain ⟨e0, e1, e2, e3, e4⟩ := HV.out _ TR1.out.2.2.2
  go_enter Tryz.func38, Tryz.ntmps38
  clear e0 e1 e2 e3 e4
  obtain ⟨e0, e1, e2, e3, e4⟩ := HV.out _ br
  have ebl : bl < w.heap.size := cell_lt e0
  have ene0 : w.heap.size ≠ bl := by omega
  have ene1 : w.heap.size + 1 ≠ bl := by omega
  have ene2 : w.heap.size + 1 + 1 ≠ bl := by omega
  have elt1 : bl < w.heap.size + 1 := by omega
  have elt2 : bl < w.heap.size + 1 + 1 := by omega
  go_wp2_with fail
  go_at_call 71; refine (amount_is8 HA.out S3 q3 m3 d3 _).mono ?_; rintro e w215 ⟨rfl, hbw215⟩
  have TR2 := Lib.hid (And.intro (row_step TR1.out.1 hbw215) (And.intro (row_step TR1.out.2.1 hbw215) (And.intro (row_step TR1.out.2.2.1 hbw215) (bel_step TR1.out.2.2.2 hbw215))))
  clear TR1
  clear hbw215
  clear e0 e1 e2 e3 e4
  have en := (HNN.out _ TR2.out.2.2.2).1
  have enl := cell_lt en
  obtain ⟨c0_0, c0_1, c0_2, c0_3, c0_4, c0f, c0l⟩ := r7 TR2.out.1
  go_wp2_with fail
  go_at_call 68; refine (at_any 4 0 0 _ _ l c a (ES.map (·.1)) ka true _ (entsL_step HE.out TR2.out.2.2.2) HS.out).mono ?_; rintro e w216 ⟨rfl, hbw216⟩
  have TR3 := Lib.hid (And.intro (row_step TR2.out.1 hbw216) (And.intro (row_step TR2.out.2.1 hbw216) (And.intro (row_step TR2.out.2.2.1 hbw216) (bel_step TR2.out.2.2.2 hbw216))))
  clear TR2
  clear hbw216
  clear en enl
  clear c0_0 c0_1 c0_2 c0_3 c0_4 c0f c0l
  obtain ⟨c0_0, c0_1, c0_2, c0_3, c0_4, c0f, c0l⟩ := r7 TR3.out.1
  have ec4 := ck TR3.out.2.2.2 Hc4.out
  have ec6 := ck TR3.out.2.2.2 Hc6.out
  have ecl := cell_lt ec4
  have ecm := cell_lt ec6
  have en := (HNN.out _ TR3.out.2.2.2).2
  have enl := cell_lt en
  go_wp2_with fail
  go_at_call 68; refine (at_any 4 0 0 _ _ l c d (ES.map (·.1)) kd true _ (entsL_step HE.out TR3.out.2.2.2) HSD.out).mono ?_; rintro e w217 ⟨rfl, hbw217⟩
  have TR4 := Lib.hid (And.intro (row_step TR3.out.1 hbw217) (And.intro (row_step TR3.out.2.1 hbw217) (And.intro (row_step TR3.out.2.2.1 hbw217) (bel_step TR3.out.2.2.2 hbw217))))
  clear TR3
  clear hbw217
  clear en enl
  clear c0_0 c0_1 c0_2 c0_3 c0_4 c0f c0l
  clear ec4 ec6 ecl ecm
  go_upto_region 48 with fail
  have TR5 := Lib.hid (And.intro (row_step TR4.out.1 (show Below w217.heap.size w217 w217.drew from Below.drew br)) (And.intro (row_step TR4.out.2.1 (show Below w217.heap.size w217 w217.drew from Below.drew br)) (And.intro (row_step TR4.out.2.2.1 (show Below w217.heap.size w217 w217.drew from Below.drew br)) (bel_step TR4.out.2.2.2 (show Below w217.heap.size w217 w217.drew from Below.drew br)))))
  clear TR4
  refine wp_region_held_drew (S := (fun z => z.cell? ⟨w.heap.size, 0, none⟩ = some (.int .i64 4) ∧ z.cell? ⟨w.heap.size, 1, none⟩ = some (.int .i64 0) ∧ z.cell? ⟨w.heap.size, 2, none⟩ = some (.float .f64 0) ∧ z.cell? ⟨w.heap.size, 3, none⟩ = some (.string ⟨#[]⟩) ∧ z.cell? ⟨w.heap.size, 4, none⟩ = some (.slice (some ⟨b, off, none⟩) l c))) (by kernel_rfl) ?_ (fun hH => ?_)
  · exact ⟨rc TR5.out.1 0, rc TR5.out.1 1, rc TR5.out.1 2, rc TR5.out.1 3, rc TR5.out.1 4⟩
  refine zt [0, 1] ?_
  iterate 2 (refine zt1 (fun _ _ d _ _ h => by cases d <;> exact h) (by simp only [lk0, lk1, lk2]; rfl) (by kernel_rfl) (by assumption) (by rfl) (fun w h => by (try dsimp only at h); go_simp; (try with_reducible rfl)) ?_; (try simp only [Act.put, pk0, pk1, pk2]))
  refine zt0 ?_
  refine zr1 2 (by kernel_rfl) (by simp only [lk0, lk1, lk2]; rfl) (fun K hK => ?_)
  go_simp
  go_at_call 20; refine (float_is HCN.out _).mono ?_; rintro e w221 ⟨rfl, hbw221⟩
  have TR6 := Lib.hid (And.intro (row_step TR5.out.1 hbw221) (And.intro (row_step TR5.out.2.1 hbw221) (And.intro (row_step TR5.out.2.2.1 hbw221) (bel_step TR5.out.2.2.2 hbw221))))
  clear TR5
  clear hbw221
  go_wp2_with fail
  refine hK.out _ _ ?hsv220_ (fun hH => ?_)
  case hsv220_ => exact ⟨rc TR6.out.1 0, rc TR6.out.1 1, rc TR6.out.1 2, rc TR6.out.1 3, rc TR6.out.1 4⟩
  clear hK K
  (try simp only [Act.put, pk0, pk1, pk2])
  refine zr1 3 (by kernel_rfl) (by simp only [lk0, lk1, lk2]; rfl) (fun K hK => ?_)
  obtain ⟨b30, b31, b32, b33, b34, b3f, b3l⟩ := r7 TR6.out.2.1; go_simp
  have TR7 := Lib.hid (show (fun z0 : World => ZL z0 w.heap.size (some ⟨b, off, none⟩) l c ∧ ZL z0 (w.heap.size + 1) (some ⟨b, off, none⟩) l c ∧ Zz z0 (w.heap.size + 1 + 1) ∧ Below w.heap.size w z0) (((((w221.setCell ⟨w.heap.size + 1, 0, none⟩ (.int .i64 4)).setCell ⟨w.heap.size + 1, 1, none⟩ (.int .i64 0)).setCell ⟨w.heap.size + 1, 2, none⟩ (.float .f64 0)).setCell ⟨w.heap.size + 1, 3, none⟩ (.string ⟨#[]⟩)).setCell ⟨w.heap.size + 1, 4, none⟩ (.slice (some ⟨b, off, none⟩) l c)) from ⟨s5o TR6.out.1 (by omega), s5r TR6.out.2.1, s5o TR6.out.2.2.1 (by omega), s5b TR6.out.2.2.2 (by omega)⟩)
  clear TR6
  clear b30 b31 b32 b33 b34 b3f b3l
  go_wp2_with fail
  refine hK.out _ _ ?hsv222_ (fun hH => ?_)
  case hsv222_ => exact ⟨rc TR7.out.1 0, rc TR7.out.1 1, rc TR7.out.1 2, rc TR7.out.1 3, rc TR7.out.1 4⟩
  clear hK K
  (try simp only [Act.put, pk0, pk1, pk2])
  refine zr1 4 (by kernel_rfl) (by simp only [lk0, lk1, lk2]; rfl) (fun K hK => ?_)
  obtain ⟨b30, b31, b32, b33, b34, b3f, b3l⟩ := r7 TR7.out.2.2.1; go_simp
  have TR8 := Lib.hid (show (fun z0 : World => ZL z0 w.heap.size (some ⟨b, off, none⟩) l c ∧ ZL z0 (w.heap.size + 1) (some ⟨b, off, none⟩) l c ∧ ZF z0 (w.heap.size + 1 + 1) FA ∧ Below w.heap.size w z0) ((((((((((w221.setCell ⟨w.heap.size + 1, 0, none⟩ (.int .i64 4)).setCell ⟨w.heap.size + 1, 1, none⟩ (.int .i64 0)).setCell ⟨w.heap.size + 1, 2, none⟩ (.float .f64 0)).setCell ⟨w.heap.size + 1, 3, none⟩ (.string ⟨#[]⟩)).setCell ⟨w.heap.size + 1, 4, none⟩ (.slice (some ⟨b, off, none⟩) l c)).setCell ⟨w.heap.size + 1 + 1, 0, none⟩ (.int .i64 2)).setCell ⟨w.heap.size + 1 + 1, 1, none⟩ (.int .i64 0)).setCell ⟨w.heap.size + 1 + 1, 2, none⟩ (.float .f64 FA)).setCell ⟨w.heap.size + 1 + 1, 3, none⟩ (.string ⟨#[]⟩)).setCell ⟨w.heap.size + 1 + 1, 4, none⟩ (.slice none 0 0)) from ⟨s5o TR7.out.1 (by omega), s5o TR7.out.2.1 (by omega), s5r TR7.out.2.2.1, s5b TR7.out.2.2.2 (by omega)⟩)
  clear TR7
  clear b30 b31 b32 b33 b34 b3f b3l
  go_wp2_with fail
  refine hK.out _ _ ?hsv223_ (fun hH => ?_)
  case hsv223_ => exact ⟨rc TR8.out.1 0, rc TR8.out.1 1, rc TR8.out.1 2, rc TR8.out.1 3, rc TR8.out.1 4⟩
  clear hK K
  (try simp only [Act.put, pk0, pk1, pk2])
  refine zt [5] ?_
  refine zt1 (fun _ _ d _ _ h => by cases d <;> exact h) (by simp only [lk0, lk1, lk2]; rfl) (by kernel_rfl) (by assumption) (by rfl) (fun w h => by (try dsimp only at h); go_simp; (try with_reducible rfl)) ?_; (try simp only [Act.put, pk0, pk1, pk2])
  refine zt0 ?_
  refine wpAnyH_done (by kernel_rfl) ?_ _
  revert TR8
  generalize ((((((((((w221.setCell ⟨w.heap.size + 1, 0, none⟩ (.int .i64 4)).setCell ⟨w.heap.size + 1, 1, none⟩ (.int .i64 0)).setCell ⟨w.heap.size + 1, 2, none⟩ (.float .f64 0)).setCell ⟨w.heap.size + 1, 3, none⟩ (.string ⟨#[]⟩)).setCell ⟨w.heap.size + 1, 4, none⟩ (.slice (some ⟨b, off, none⟩) l c)).setCell ⟨w.heap.size + 1 + 1, 0, none⟩ (.int .i64 2)).setCell ⟨w.heap.size + 1 + 1, 1, none⟩ (.int .i64 0)).setCell ⟨w.heap.size + 1 + 1, 2, none⟩ (.float .f64 FA)).setCell ⟨w.heap.size + 1 + 1, 3, none⟩ (.string ⟨#[]⟩)).setCell ⟨w.heap.size + 1 + 1, 4, none⟩ (.slice none 0 0)) = Wf
  intro TR8
  obtain ⟨c1_0, c1_1, c1_2, c1_3, c1_4, c1f, c1l⟩ := r7 TR8.out.2.1
  obtain ⟨c2_0, c2_1, c2_2, c2_3, c2_4, c2f, c2l⟩ := r7 TR8.out.2.2.1
  go_wp2
  refine bodyPost_ret (v := .tuple #[.agg #[.int .i64 4, .int .i64 0, .float .f64 0, .string ⟨#[]⟩, .slice (some ⟨b, off, none⟩) l c], .agg #[.int .i64 2, .int .i64 0, .float .f64 FA, .string ⟨#[]⟩, .slice none 0 0], .int .i64 0]) (by simp [results, Tryz.results38, go_sem, c1_0, c1_1, c1_2, c1_3, c1_4, c2_0, c2_1, c2_2, c2_3, c2_4]) rfl ⟨_, _, rfl, TR8.out.2.2.2, fun y hLy hy _ => list_rep (repL_mono hy hLy), fun y => flo_repn 0 y hFA⟩
end Num
end Go.Proofs.YtpbfaffheigjcaaGreat
/-
  The reference: Do of a ledger, its roads.
-/
namespace Go.Proofs.YtpbfaffheigjcaaGreat
open Go.RowKit
namespace Num
open Ints
set_option linter.unusedSimpArgs false
set_option linter.unusedVariables false
def RDo (w : World) (T : VT 3) (U : VT 1) (z : Int) (e : Ending) (w' : World) : Prop := ∃ t u, e = .returned (.tuple #[t, u, .int .i64 z]) ∧ Below w.heap.size w w' ∧ ∀ y, Stay w.heap.size w' y → Rep y 3 t T ∧ Rep y 1 u U
theorem stay_set2 {B : Nat} {x y : World} (h : Stay B x y) {g : Nat} (hg : g < B ∨ x.heap.size ≤ g) (u0 u1 u2 u3 u4 : Value) : Stay B x (set5 y g 0 u0 u1 u2 u3 u4) := fun b h1 h2 => (set5_other (by omega)).trans (h b h1 h2)
theorem repS_one (S : Nat → Prop) (w : World) (n : Nat) : One5 (fun v (X : VT n) => RepS S w n v X) := fun u0 u1 u2 u3 u4 X h => rep_one w n _ _ _ _ _ _ (repS_rep _ _ _ h)
theorem repL_acc1 {w w' : World} {n : Nat} {p : Option Addr} {l c : Nat} {L : List (VT n)} (hb : Below w.heap.size w w') (h : RepL w (Rep w n) p l c L) : RepL w' (Rep w' n) p l c L := repL_keep hb (fun v T hv => rep_keep hb _ _ _ hv) h
theorem repS_listW {B E : Nat} {w z : World} {n : Nat} {K I : Int} {F : Nat} {Z : ByteArray} {q : Option Addr} {m d : Nat} {T : VT (n + 1)} (h : RepS (fun b => B ≤ b ∧ b < E) w (n + 1) (.agg #[.int .i64 K, .int .i64 I, .float .f64 F, .string Z, .slice q m d]) T) (hst : ∀ b, B ≤ b → b < E → z.heap[b]? = w.heap[b]?) : RepL z (fun v X => RepS (fun b => B ≤ b ∧ b < E) w n v X) q m d T.2.2.2.2 := by
  obtain ⟨p, l, c, hv, _, _, _, _, h1, h2, h3, h4⟩ := h
  injection hv with hv
  simp only [Array.mk.injEq, List.cons.injEq, and_true] at hv
  obtain ⟨_, _, _, _, e5⟩ := hv
  injection e5 with e6 e7 e8
  subst e6 e7 e8
  refine ⟨h1, h2, h3, fun h0 => ?_⟩
  obtain ⟨b, off, hp, hS, _, g, hi⟩ := h4 h0
  have he := hst b hS.1 hS.2
  refine ⟨b, off, hp, fun i hi' => ?_⟩
  obtain ⟨v0, v1, v2, v3, v4, c0, c1, c2, c3, c4, hr⟩ := hi i hi'
  exact ⟨v0, v1, v2, v3, v4, cell_block he c0, cell_block he c1, cell_block he c2, cell_block he c3, cell_block he c4, repS_mono (fun b hb => hb.1) _ _ _ hr⟩
set_option maxRecDepth 100000 in
set_option maxHeartbeats 8000000 in
theorem rdo_run (p : Option Addr) (l c : Nat) (ms : ByteArray) (pl : Option Addr) (ll cl : Nat) (w : World) (HR : Hid (∀ W, Below w.heap.size w W → Calls Tryz.prog 17 #[.string { data := #[108, 101, 100, 103, 101, 114] }, .agg #[.int .i64 4, .int .i64 0, .float .f64 0, .string ⟨#[]⟩, .slice p l c]] W fun e w' => e = .returned (.bool true) ∧ Below W.heap.size W w'))
    (HK : Hid (∀ W, Below w.heap.size w W → Calls Tryz.prog 31 #[.string { data := #[108, 101, 100, 103, 101, 114] }, .string ms, .slice pl ll cl] W fun e w' => e = .returned (.int .i64 0) ∧ Below W.heap.size W w'))
    (ES : List (ByteArray × VT 1)) (HSR : Hid (Rep w 3 (.agg #[.int .i64 4, .int .i64 0, .float .f64 0, .string ⟨#[]⟩, .slice p l c]) (tableT 0 ES))) (hcl : cleanT 3 (tableT 0 ES) = tableT 0 ES) (hgr : greatP 3 0 (tableT 0 ES) = false) (NL : List (VT 1)) (HNL : Hid (RepL w (Rep w 1) pl ll cl NL)) (hgn : ∀ x ∈ NL, greatP 1 0 x = false) (hcn : NL.map (cleanT 1) = NL) (hll : ll ≤ 1000)
    (TT : VT 3) (UU : VT 1) (HLG : Hid (∀ (W : World) (R : Value → VT 2 → Prop) (q : Option Addr) (m d : Nat) (pa : Option Addr) (la ca : Nat), One5 R → RepL W R q m d (ES.map (pairE 0)) → (∀ W', Below W.heap.size W W' → ∀ v X, R v X → Rep W' 2 v X) → RepL W (Rep W 1) pa la ca NL → Calls Tryz.prog 38 #[.agg #[.int .i64 4, .int .i64 0, .float .f64 0, .string ⟨#[]⟩, .slice q m d], .string ms, .slice pa la ca] W fun e w' => RLQ W R q m d (ES.map (pairE 0)) TT UU 0 e w')) :
    Calls Tryz.prog 13 #[.string { data := #[108, 101, 100, 103, 101, 114] }, .agg #[.int .i64 4, .int .i64 0, .float .f64 0, .string ⟨#[]⟩, .slice p l c], .string ms, .slice pl ll cl] w fun e w' => RDo w TT UU 0 e w' := by
  have TR1 := Lib.hid (show (fun z0 : World => ZL z0 w.heap.size p l c ∧ Zz z0 (w.heap.size + 1) ∧ Zz z0 (w.heap.size + 1 + 1) ∧ Below w.heap.size w z0) (((w.alloc (.cells #[.int .i64 4, .int .i64 0, .float .f64 0, .string ⟨#[]⟩, .slice p l c] 27)).alloc (.cells #[.int .i64 0, .int .i64 0, .float .f64 0, .string ⟨#[]⟩, .slice none 0 0] 27)).alloc (.cells #[.int .i64 0, .int .i64 0, .float .f64 0, .string ⟨#[]⟩, .slice none 0 0] 27)) from ⟨row_alloc_step (row_alloc_step (row_alloc w #[.int .i64 4, .int .i64 0, .float .f64 0, .string ⟨#[]⟩, .slice p l c] 27) _) _, (row_alloc_step (ra (by simp only [World.size_alloc, World.size_drew])) _), (ra (by simp only [World.size_alloc, World.size_drew])), bel_alloc (bel_alloc (bel_alloc (Below.refl w.heap.size w) _) _) _⟩)
  have HCL := Lib.hid hcl
  have HGR := Lib.hid hgr
  have HGN := Lib.hid hgn
  have HCN := Lib.hid hcn
  clear hcl hgr hgn hcn
  go_enter Tryz.func13, Tryz.ntmps13
  go_wp2_with fail
  go_at_call 17; refine (HR.out _ TR1.out.2.2.2).mono ?_; rintro e w1 ⟨rfl, hbw1⟩
  have TR2 := Lib.hid (And.intro (row_step TR1.out.1 hbw1) (And.intro (row_step TR1.out.2.1 hbw1) (And.intro (row_step TR1.out.2.2.1 hbw1) (bel_step TR1.out.2.2.2 hbw1))))
  clear TR1
  clear hbw1
  go_wp2_with fail
  go_at_call 31; refine (HK.out _ TR2.out.2.2.2).mono ?_; rintro e w2 ⟨rfl, hbw2⟩
  have TR3 := Lib.hid (And.intro (row_step TR2.out.1 hbw2) (And.intro (row_step TR2.out.2.1 hbw2) (And.intro (row_step TR2.out.2.2.1 hbw2) (bel_step TR2.out.2.2.2 hbw2))))
  clear TR2
  clear hbw2
  obtain ⟨c0_0, c0_1, c0_2, c0_3, c0_4, c0f, c0l⟩ := r7 TR3.out.1
  have hcB : w.heap.size ≤ w2.heap.size := TR3.out.2.2.2.size
  have hcB0 : w.heap.size < w2.heap.size := row_lt TR3.out.1
  have hcB1 : w.heap.size + 1 < w2.heap.size := row_lt TR3.out.2.1
  have hcB2 : w.heap.size + 1 + 1 < w2.heap.size := row_lt TR3.out.2.2.1
  go_wp2_with fail
  go_at_call 32; refine (clean_anyP 3 0 _ (tableT 0 ES) _ HGR.out (rep_keep TR3.out.2.2.2 _ _ _ HSR.out)).mono ?_; rintro e wC ⟨vc, rfl, hbwC, hrep⟩
  have TR4 := Lib.hid (And.intro (row_step TR3.out.1 hbwC) (And.intro (row_step TR3.out.2.1 hbwC) (And.intro (row_step TR3.out.2.2.1 hbwC) (bel_step TR3.out.2.2.2 hbwC))))
  clear TR3
  obtain ⟨Kc, Ic, Fc, Sc, qc, mc, dc, rfl, _⟩ := repS_shape hrep
  rw [HCL.out] at hrep
  obtain ⟨rfl, rfl, rfl, rfl⟩ := led_box hrep
  have TR5 := Lib.hid (show ZL wC w.heap.size p l c ∧ Zz wC (w.heap.size + 1) ∧ Zz wC (w.heap.size + 1 + 1) ∧ (Stay w2.heap.size wC wC ∧ wC.heap.size ≤ wC.heap.size) ∧ Below w.heap.size w wC from ⟨TR4.out.1, TR4.out.2.1, TR4.out.2.2.1, ⟨stay_refl _ _, Nat.le_refl _⟩, TR4.out.2.2.2⟩)
  clear TR4
  have HCC := Lib.hid (repS_lt _ _ _ hrep)
  clear hrep
  clear hbwC
  clear c0_0 c0_1 c0_2 c0_3 c0_4 c0f c0l
  obtain ⟨c0_0, c0_1, c0_2, c0_3, c0_4, c0f, c0l⟩ := r7 TR5.out.1
  go_wp2_with fail
  have TR6 := Lib.hid (show (fun z0 : World => ZL z0 w.heap.size qc mc dc ∧ Zz z0 (w.heap.size + 1) ∧ Zz z0 (w.heap.size + 1 + 1) ∧ (Stay w2.heap.size wC z0 ∧ wC.heap.size ≤ z0.heap.size) ∧ Below w.heap.size w z0) (((((wC.setCell ⟨w.heap.size, 0, none⟩ (.int .i64 4)).setCell ⟨w.heap.size, 1, none⟩ (.int .i64 0)).setCell ⟨w.heap.size, 2, none⟩ (.float .f64 0)).setCell ⟨w.heap.size, 3, none⟩ (.string ⟨#[]⟩)).setCell ⟨w.heap.size, 4, none⟩ (.slice qc mc dc)) from ⟨s5r TR5.out.1, s5o TR5.out.2.1 (by omega), s5o TR5.out.2.2.1 (by omega), ⟨stay_set2 TR5.out.2.2.2.1.1 (by omega) (.int .i64 4) (.int .i64 0) (.float .f64 0) (.string ⟨#[]⟩) (.slice qc mc dc), by show _ ≤ (set5 wC (w.heap.size) 0 (.int .i64 4) (.int .i64 0) (.float .f64 0) (.string ⟨#[]⟩) (.slice qc mc dc)).heap.size; rw [set5_size]; exact TR5.out.2.2.2.1.2⟩, s5b TR5.out.2.2.2.2 (by omega)⟩)
  clear TR5
  clear c0_0 c0_1 c0_2 c0_3 c0_4 c0f c0l
  go_at_call 33; refine (cleans_anyP 1 0 (clean_anyP 1) _ pl ll cl NL HGN.out (repL_acc1 TR6.out.2.2.2.2 HNL.out) (by omega)).mono ?_; rintro e wL ⟨pa, la, ca, rfl, hbwL, hrep⟩
  have TR7 := Lib.hid (show ZL wL w.heap.size qc mc dc ∧ Zz wL (w.heap.size + 1) ∧ Zz wL (w.heap.size + 1 + 1) ∧ (Stay w2.heap.size wC wL ∧ wC.heap.size ≤ wL.heap.size) ∧ Below w.heap.size w wL from ⟨row_step TR6.out.1 hbwL, row_step TR6.out.2.1 hbwL, row_step TR6.out.2.2.1 hbwL, ⟨stay_trans TR6.out.2.2.2.1.1 TR6.out.2.2.2.1.2 hbwL, Nat.le_trans TR6.out.2.2.2.1.2 hbwL.size⟩, bel_step TR6.out.2.2.2.2 hbwL⟩)
  clear TR6
  rw [HCN.out] at hrep
  have HNA := Lib.hid (repLS_rep hrep)
  clear hrep
  clear hbwL
  obtain ⟨c0_0, c0_1, c0_2, c0_3, c0_4, c0f, c0l⟩ := r7 TR7.out.1
  go_wp2_with fail
  clear c0_0 c0_1 c0_2 c0_3 c0_4 c0f c0l
  have hLb : wC.heap.size ≤ wL.heap.size := TR7.out.2.2.2.1.2
  have hLb0 : w.heap.size < wL.heap.size := row_lt TR7.out.1
  have hLb1 : w.heap.size + 1 < wL.heap.size := row_lt TR7.out.2.1
  have hLb2 : w.heap.size + 1 + 1 < wL.heap.size := row_lt TR7.out.2.2.1
  have TR8 := Lib.hid (show (fun z0 : World => ZL z0 w.heap.size qc mc dc ∧ Zz z0 (w.heap.size + 1) ∧ Zz z0 (w.heap.size + 1 + 1) ∧ Zz z0 wL.heap.size ∧ (Stay w2.heap.size wC z0 ∧ wC.heap.size ≤ z0.heap.size) ∧ Below w.heap.size w z0) (wL.alloc (.cells #[.int .i64 0, .int .i64 0, .float .f64 0, .string ⟨#[]⟩, .slice none 0 0] 27)) from ⟨(row_alloc_step (TR7.out.1) _), (row_alloc_step (TR7.out.2.1) _), (row_alloc_step (TR7.out.2.2.1) _), (ra (by simp only [World.size_alloc, World.size_drew, World.size_setCell])), ⟨stay_trans TR7.out.2.2.2.1.1 TR7.out.2.2.2.1.2 (bel_alloc br _), Nat.le_trans TR7.out.2.2.2.1.2 (bel_alloc br _).size⟩, bel_step TR7.out.2.2.2.2 (bel_alloc br _)⟩)
  have TR9 := Lib.hid (show (fun z0 : World => ZL z0 w.heap.size qc mc dc ∧ Zz z0 (w.heap.size + 1) ∧ Zz z0 (w.heap.size + 1 + 1) ∧ Zz z0 wL.heap.size ∧ Zz z0 (wL.heap.size + 1) ∧ (Stay w2.heap.size wC z0 ∧ wC.heap.size ≤ z0.heap.size) ∧ Below w.heap.size w z0) ((wL.alloc (.cells #[.int .i64 0, .int .i64 0, .float .f64 0, .string ⟨#[]⟩, .slice none 0 0] 27)).alloc (.cells #[.int .i64 0, .int .i64 0, .float .f64 0, .string ⟨#[]⟩, .slice none 0 0] 27)) from ⟨(row_alloc_step (row_alloc_step (TR7.out.1) _) _), (row_alloc_step (row_alloc_step (TR7.out.2.1) _) _), (row_alloc_step (row_alloc_step (TR7.out.2.2.1) _) _), (row_alloc_step (ra (by simp only [World.size_alloc, World.size_drew, World.size_setCell])) _), (ra (by simp only [World.size_alloc, World.size_drew, World.size_setCell])), ⟨stay_trans TR7.out.2.2.2.1.1 TR7.out.2.2.2.1.2 (bel_alloc (bel_alloc br _) _), Nat.le_trans TR7.out.2.2.2.1.2 (bel_alloc (bel_alloc br _) _).size⟩, bel_step TR7.out.2.2.2.2 (bel_alloc (bel_alloc br _) _)⟩)
  have hzl : ((wL.alloc (.cells #[.int .i64 0, .int .i64 0, .float .f64 0, .string ⟨#[]⟩, .slice none 0 0] 27)).alloc (.cells #[.int .i64 0, .int .i64 0, .float .f64 0, .string ⟨#[]⟩, .slice none 0 0] 27)).heap.size = wL.heap.size + 1 + 1 := by simp only [World.size_alloc]
  have hst0 := TR9.out.2.2.2.2.2.1.1
  have hRW : ∀ W, (∀ b, w2.heap.size ≤ b → b < wC.heap.size → W.heap[b]? = wC.heap[b]?) → ∀ v X, (fun v (X : VT 2) => RepS (fun b => w2.heap.size ≤ b ∧ b < wC.heap.size) wC 2 v X) v X → Rep W 2 v X := fun W hW v X hv => repS_rep _ _ _ (repS_keep (fun b hb => hW b hb.1 hb.2) _ _ _ hv)
  have HRW := Lib.hid hRW
  clear hRW
  have HLL := Lib.hid (show RepL ((wL.alloc (.cells #[.int .i64 0, .int .i64 0, .float .f64 0, .string ⟨#[]⟩, .slice none 0 0] 27)).alloc (.cells #[.int .i64 0, .int .i64 0, .float .f64 0, .string ⟨#[]⟩, .slice none 0 0] 27)) (fun v (X : VT 2) => RepS (fun b => w2.heap.size ≤ b ∧ b < wC.heap.size) wC 2 v X) qc mc dc (ES.map (pairE 0)) from repS_listW HCC.out hst0)
  clear hst0
  go_at_call 38; refine (HLG.out ((wL.alloc (.cells #[.int .i64 0, .int .i64 0, .float .f64 0, .string ⟨#[]⟩, .slice none 0 0] 27)).alloc (.cells #[.int .i64 0, .int .i64 0, .float .f64 0, .string ⟨#[]⟩, .slice none 0 0] 27)) (fun v (X : VT 2) => RepS (fun b => w2.heap.size ≤ b ∧ b < wC.heap.size) wC 2 v X) qc mc dc pa la ca (repS_one _ _ _) HLL.out (fun W' hb v X hv => HRW.out W' (fun b h1 h2 => (hb.block b (Nat.lt_of_lt_of_le h2 (by rw [hzl]; omega))).trans (TR9.out.2.2.2.2.2.1.1 b h1 h2)) v X hv) (repL_acc1 (bel_alloc (bel_alloc br _) _) HNA.out)).mono ?_; rintro e wD ⟨tt, uu, rfl, hbwD, ht, hu⟩
  have TR10 := Lib.hid (show ZL wD w.heap.size qc mc dc ∧ Zz wD (w.heap.size + 1) ∧ Zz wD (w.heap.size + 1 + 1) ∧ Zz wD wL.heap.size ∧ Zz wD (wL.heap.size + 1) ∧ (Stay w2.heap.size wC wD ∧ wC.heap.size ≤ wD.heap.size) ∧ Below w.heap.size w wD from ⟨row_step TR9.out.1 hbwD, row_step TR9.out.2.1 hbwD, row_step TR9.out.2.2.1 hbwD, row_step TR9.out.2.2.2.1 hbwD, row_step TR9.out.2.2.2.2.1 hbwD, ⟨stay_trans TR9.out.2.2.2.2.2.1.1 TR9.out.2.2.2.2.2.1.2 hbwD, Nat.le_trans TR9.out.2.2.2.2.2.1.2 hbwD.size⟩, bel_step TR9.out.2.2.2.2.2.2 hbwD⟩)
  clear TR9
  obtain ⟨Kt, It, Ft, St, qt, mt, dt, rfl, _⟩ := rep_shape (ht wD (repS_listW HCC.out TR10.out.2.2.2.2.2.1.1) (HRW.out _ TR10.out.2.2.2.2.2.1.1) (stay_refl _ _))
  obtain ⟨Ku, Iu, Fu, Su, qu, mu, du, rfl, _⟩ := rep_shape (hu wD)
  have TR11 := Lib.hid (show ZL wD w.heap.size qc mc dc ∧ Zz wD (w.heap.size + 1) ∧ Zz wD (w.heap.size + 1 + 1) ∧ Zz wD wL.heap.size ∧ Zz wD (wL.heap.size + 1) ∧ (Stay w2.heap.size wC wD ∧ wC.heap.size ≤ wD.heap.size) ∧ (Stay ((wL.alloc (.cells #[.int .i64 0, .int .i64 0, .float .f64 0, .string ⟨#[]⟩, .slice none 0 0] 27)).alloc (.cells #[.int .i64 0, .int .i64 0, .float .f64 0, .string ⟨#[]⟩, .slice none 0 0] 27)).heap.size wD wD ∧ wD.heap.size ≤ wD.heap.size) ∧ Below w.heap.size w wD from ⟨TR10.out.1, TR10.out.2.1, TR10.out.2.2.1, TR10.out.2.2.2.1, TR10.out.2.2.2.2.1, TR10.out.2.2.2.2.2.1, ⟨stay_refl _ _, Nat.le_refl _⟩, TR10.out.2.2.2.2.2.2⟩)
  clear TR10
  have HT := Lib.hid ht
  have HU := Lib.hid hu
  clear ht hu
  clear hbwD
  obtain ⟨c3_0, c3_1, c3_2, c3_3, c3_4, c3f, c3l⟩ := r7 TR11.out.2.2.2.1
  obtain ⟨c4_0, c4_1, c4_2, c4_3, c4_4, c4f, c4l⟩ := r7 TR11.out.2.2.2.2.1
  go_upto_region 25 with fail
  have TR12 := Lib.hid (show (fun z0 : World => ZL z0 w.heap.size qc mc dc ∧ Zz z0 (w.heap.size + 1) ∧ Zz z0 (w.heap.size + 1 + 1) ∧ Zw z0 wL.heap.size (.int .i64 Kt) (.int .i64 It) (.float .f64 Ft) (.string St) (.slice qt mt dt) ∧ Zz z0 (wL.heap.size + 1) ∧ (Stay w2.heap.size wC z0 ∧ wC.heap.size ≤ z0.heap.size) ∧ (Stay ((wL.alloc (.cells #[.int .i64 0, .int .i64 0, .float .f64 0, .string ⟨#[]⟩, .slice none 0 0] 27)).alloc (.cells #[.int .i64 0, .int .i64 0, .float .f64 0, .string ⟨#[]⟩, .slice none 0 0] 27)).heap.size wD z0 ∧ wD.heap.size ≤ z0.heap.size) ∧ Below w.heap.size w z0) (((((wD.setCell ⟨wL.heap.size, 0, none⟩ (.int .i64 Kt)).setCell ⟨wL.heap.size, 1, none⟩ (.int .i64 It)).setCell ⟨wL.heap.size, 2, none⟩ (.float .f64 Ft)).setCell ⟨wL.heap.size, 3, none⟩ (.string St)).setCell ⟨wL.heap.size, 4, none⟩ (.slice qt mt dt)) from ⟨s5o TR11.out.1 (by omega), s5o TR11.out.2.1 (by omega), s5o TR11.out.2.2.1 (by omega), s5r TR11.out.2.2.2.1, s5o TR11.out.2.2.2.2.1 (by omega), ⟨stay_set2 TR11.out.2.2.2.2.2.1.1 (by omega) (.int .i64 Kt) (.int .i64 It) (.float .f64 Ft) (.string St) (.slice qt mt dt), by show _ ≤ (set5 wD (wL.heap.size) 0 (.int .i64 Kt) (.int .i64 It) (.float .f64 Ft) (.string St) (.slice qt mt dt)).heap.size; rw [set5_size]; exact TR11.out.2.2.2.2.2.1.2⟩, ⟨stay_set2 TR11.out.2.2.2.2.2.2.1.1 (by omega) (.int .i64 Kt) (.int .i64 It) (.float .f64 Ft) (.string St) (.slice qt mt dt), by show _ ≤ (set5 wD (wL.heap.size) 0 (.int .i64 Kt) (.int .i64 It) (.float .f64 Ft) (.string St) (.slice qt mt dt)).heap.size; rw [set5_size]; exact TR11.out.2.2.2.2.2.2.1.2⟩, s5b TR11.out.2.2.2.2.2.2.2 (by omega)⟩)
  clear TR11
  have TR13 := Lib.hid (show (fun z0 : World => ZL z0 w.heap.size qc mc dc ∧ Zz z0 (w.heap.size + 1) ∧ Zz z0 (w.heap.size + 1 + 1) ∧ Zw z0 wL.heap.size (.int .i64 Kt) (.int .i64 It) (.float .f64 Ft) (.string St) (.slice qt mt dt) ∧ Zw z0 (wL.heap.size + 1) (.int .i64 Ku) (.int .i64 Iu) (.float .f64 Fu) (.string Su) (.slice qu mu du) ∧ (Stay w2.heap.size wC z0 ∧ wC.heap.size ≤ z0.heap.size) ∧ (Stay ((wL.alloc (.cells #[.int .i64 0, .int .i64 0, .float .f64 0, .string ⟨#[]⟩, .slice none 0 0] 27)).alloc (.cells #[.int .i64 0, .int .i64 0, .float .f64 0, .string ⟨#[]⟩, .slice none 0 0] 27)).heap.size wD z0 ∧ wD.heap.size ≤ z0.heap.size) ∧ Below w.heap.size w z0) ((((((((((wD.setCell ⟨wL.heap.size, 0, none⟩ (.int .i64 Kt)).setCell ⟨wL.heap.size, 1, none⟩ (.int .i64 It)).setCell ⟨wL.heap.size, 2, none⟩ (.float .f64 Ft)).setCell ⟨wL.heap.size, 3, none⟩ (.string St)).setCell ⟨wL.heap.size, 4, none⟩ (.slice qt mt dt)).setCell ⟨wL.heap.size + 1, 0, none⟩ (.int .i64 Ku)).setCell ⟨wL.heap.size + 1, 1, none⟩ (.int .i64 Iu)).setCell ⟨wL.heap.size + 1, 2, none⟩ (.float .f64 Fu)).setCell ⟨wL.heap.size + 1, 3, none⟩ (.string Su)).setCell ⟨wL.heap.size + 1, 4, none⟩ (.slice qu mu du)) from ⟨s5o TR12.out.1 (by omega), s5o TR12.out.2.1 (by omega), s5o TR12.out.2.2.1 (by omega), s5o TR12.out.2.2.2.1 (by omega), s5r TR12.out.2.2.2.2.1, ⟨stay_set2 TR12.out.2.2.2.2.2.1.1 (by omega) (.int .i64 Ku) (.int .i64 Iu) (.float .f64 Fu) (.string Su) (.slice qu mu du), by show _ ≤ (set5 (((((wD.setCell ⟨wL.heap.size, 0, none⟩ (.int .i64 Kt)).setCell ⟨wL.heap.size, 1, none⟩ (.int .i64 It)).setCell ⟨wL.heap.size, 2, none⟩ (.float .f64 Ft)).setCell ⟨wL.heap.size, 3, none⟩ (.string St)).setCell ⟨wL.heap.size, 4, none⟩ (.slice qt mt dt)) (wL.heap.size + 1) 0 (.int .i64 Ku) (.int .i64 Iu) (.float .f64 Fu) (.string Su) (.slice qu mu du)).heap.size; rw [set5_size]; exact TR12.out.2.2.2.2.2.1.2⟩, ⟨stay_set2 TR12.out.2.2.2.2.2.2.1.1 (by omega) (.int .i64 Ku) (.int .i64 Iu) (.float .f64 Fu) (.string Su) (.slice qu mu du), by show _ ≤ (set5 (((((wD.setCell ⟨wL.heap.size, 0, none⟩ (.int .i64 Kt)).setCell ⟨wL.heap.size, 1, none⟩ (.int .i64 It)).setCell ⟨wL.heap.size, 2, none⟩ (.float .f64 Ft)).setCell ⟨wL.heap.size, 3, none⟩ (.string St)).setCell ⟨wL.heap.size, 4, none⟩ (.slice qt mt dt)) (wL.heap.size + 1) 0 (.int .i64 Ku) (.int .i64 Iu) (.float .f64 Fu) (.string Su) (.slice qu mu du)).heap.size; rw [set5_size]; exact TR12.out.2.2.2.2.2.2.1.2⟩, s5b TR12.out.2.2.2.2.2.2.2 (by omega)⟩)
  clear TR12
  clear c3_0 c3_1 c3_2 c3_3 c3_4 c4_0 c4_1 c4_2 c4_3 c4_4 c3f c3l c4f c4l
  revert TR13
  generalize ((((((((((wD.setCell ⟨wL.heap.size, 0, none⟩ (.int .i64 Kt)).setCell ⟨wL.heap.size, 1, none⟩ (.int .i64 It)).setCell ⟨wL.heap.size, 2, none⟩ (.float .f64 Ft)).setCell ⟨wL.heap.size, 3, none⟩ (.string St)).setCell ⟨wL.heap.size, 4, none⟩ (.slice qt mt dt)).setCell ⟨wL.heap.size + 1, 0, none⟩ (.int .i64 Ku)).setCell ⟨wL.heap.size + 1, 1, none⟩ (.int .i64 Iu)).setCell ⟨wL.heap.size + 1, 2, none⟩ (.float .f64 Fu)).setCell ⟨wL.heap.size + 1, 3, none⟩ (.string Su)).setCell ⟨wL.heap.size + 1, 4, none⟩ (.slice qu mu du)) = Wx
  intro TR13
  have TR14 := Lib.hid (show ZL Wx.drew w.heap.size qc mc dc ∧ Zz Wx.drew (w.heap.size + 1) ∧ Zz Wx.drew (w.heap.size + 1 + 1) ∧ Zw Wx.drew wL.heap.size (.int .i64 Kt) (.int .i64 It) (.float .f64 Ft) (.string St) (.slice qt mt dt) ∧ Zw Wx.drew (wL.heap.size + 1) (.int .i64 Ku) (.int .i64 Iu) (.float .f64 Fu) (.string Su) (.slice qu mu du) ∧ (Stay w2.heap.size wC Wx.drew ∧ wC.heap.size ≤ Wx.drew.heap.size) ∧ (Stay ((wL.alloc (.cells #[.int .i64 0, .int .i64 0, .float .f64 0, .string ⟨#[]⟩, .slice none 0 0] 27)).alloc (.cells #[.int .i64 0, .int .i64 0, .float .f64 0, .string ⟨#[]⟩, .slice none 0 0] 27)).heap.size wD Wx.drew ∧ wD.heap.size ≤ Wx.drew.heap.size) ∧ Below w.heap.size w Wx.drew from ⟨row_step TR13.out.1 (show Below Wx.heap.size Wx Wx.drew from Below.drew br), row_step TR13.out.2.1 (show Below Wx.heap.size Wx Wx.drew from Below.drew br), row_step TR13.out.2.2.1 (show Below Wx.heap.size Wx Wx.drew from Below.drew br), row_step TR13.out.2.2.2.1 (show Below Wx.heap.size Wx Wx.drew from Below.drew br), row_step TR13.out.2.2.2.2.1 (show Below Wx.heap.size Wx Wx.drew from Below.drew br), ⟨stay_trans TR13.out.2.2.2.2.2.1.1 TR13.out.2.2.2.2.2.1.2 (show Below Wx.heap.size Wx Wx.drew from Below.drew br), Nat.le_trans TR13.out.2.2.2.2.2.1.2 (show Below Wx.heap.size Wx Wx.drew from Below.drew br).size⟩, ⟨stay_trans TR13.out.2.2.2.2.2.2.1.1 TR13.out.2.2.2.2.2.2.1.2 (show Below Wx.heap.size Wx Wx.drew from Below.drew br), Nat.le_trans TR13.out.2.2.2.2.2.2.1.2 (show Below Wx.heap.size Wx Wx.drew from Below.drew br).size⟩, bel_step TR13.out.2.2.2.2.2.2.2 (show Below Wx.heap.size Wx Wx.drew from Below.drew br)⟩)
  clear TR13
  refine wp_region_held_drew (S := (fun z => z.cell? ⟨wL.heap.size, 0, none⟩ = some (.int .i64 Kt) ∧ z.cell? ⟨wL.heap.size, 1, none⟩ = some (.int .i64 It) ∧ z.cell? ⟨wL.heap.size, 2, none⟩ = some (.float .f64 Ft) ∧ z.cell? ⟨wL.heap.size, 3, none⟩ = some (.string St) ∧ z.cell? ⟨wL.heap.size, 4, none⟩ = some (.slice qt mt dt) ∧ z.cell? ⟨wL.heap.size + 1, 0, none⟩ = some (.int .i64 Ku) ∧ z.cell? ⟨wL.heap.size + 1, 1, none⟩ = some (.int .i64 Iu) ∧ z.cell? ⟨wL.heap.size + 1, 2, none⟩ = some (.float .f64 Fu) ∧ z.cell? ⟨wL.heap.size + 1, 3, none⟩ = some (.string Su) ∧ z.cell? ⟨wL.heap.size + 1, 4, none⟩ = some (.slice qu mu du))) (by kernel_rfl) ?_ (fun hH => ?_)
  · exact ⟨rc TR14.out.2.2.2.1 0, rc TR14.out.2.2.2.1 1, rc TR14.out.2.2.2.1 2, rc TR14.out.2.2.2.1 3, rc TR14.out.2.2.2.1 4, rc TR14.out.2.2.2.2.1 0, rc TR14.out.2.2.2.2.1 1, rc TR14.out.2.2.2.2.1 2, rc TR14.out.2.2.2.2.1 3, rc TR14.out.2.2.2.2.1 4⟩
  revert TR14 hH
  generalize Wx.drew = Wd
  intro TR14 hH
  refine zt [0, 1] ?_
  iterate 2 (refine zt1 (fun _ _ d _ _ h => by cases d <;> exact h) (by simp only [lk0, lk1, lk2]; rfl) (by kernel_rfl) (by assumption) (by rfl) (fun w h => by (try dsimp only at h); go_simp; (try with_reducible rfl)) ?_; (try simp only [Act.put, pk0, pk1, pk2]))
  refine zt0 ?_
  refine zr1 2 (by kernel_rfl) (by simp only [lk0, lk1, lk2]; rfl) (fun K hK => ?_)
  obtain ⟨b30, b31, b32, b33, b34, b3f, b3l⟩ := r7 TR14.out.2.1; go_simp
  have TR15 := Lib.hid (show (fun z0 : World => ZL z0 w.heap.size qc mc dc ∧ Zw z0 (w.heap.size + 1) (.int .i64 Kt) (.int .i64 It) (.float .f64 Ft) (.string St) (.slice qt mt dt) ∧ Zz z0 (w.heap.size + 1 + 1) ∧ Zw z0 wL.heap.size (.int .i64 Kt) (.int .i64 It) (.float .f64 Ft) (.string St) (.slice qt mt dt) ∧ Zw z0 (wL.heap.size + 1) (.int .i64 Ku) (.int .i64 Iu) (.float .f64 Fu) (.string Su) (.slice qu mu du) ∧ (Stay w2.heap.size wC z0 ∧ wC.heap.size ≤ z0.heap.size) ∧ (Stay ((wL.alloc (.cells #[.int .i64 0, .int .i64 0, .float .f64 0, .string ⟨#[]⟩, .slice none 0 0] 27)).alloc (.cells #[.int .i64 0, .int .i64 0, .float .f64 0, .string ⟨#[]⟩, .slice none 0 0] 27)).heap.size wD z0 ∧ wD.heap.size ≤ z0.heap.size) ∧ Below w.heap.size w z0) (((((Wd.setCell ⟨w.heap.size + 1, 0, none⟩ (.int .i64 Kt)).setCell ⟨w.heap.size + 1, 1, none⟩ (.int .i64 It)).setCell ⟨w.heap.size + 1, 2, none⟩ (.float .f64 Ft)).setCell ⟨w.heap.size + 1, 3, none⟩ (.string St)).setCell ⟨w.heap.size + 1, 4, none⟩ (.slice qt mt dt)) from ⟨s5o TR14.out.1 (by omega), s5r TR14.out.2.1, s5o TR14.out.2.2.1 (by omega), s5o TR14.out.2.2.2.1 (by omega), s5o TR14.out.2.2.2.2.1 (by omega), ⟨stay_set2 TR14.out.2.2.2.2.2.1.1 (by omega) (.int .i64 Kt) (.int .i64 It) (.float .f64 Ft) (.string St) (.slice qt mt dt), by show _ ≤ (set5 Wd (w.heap.size + 1) 0 (.int .i64 Kt) (.int .i64 It) (.float .f64 Ft) (.string St) (.slice qt mt dt)).heap.size; rw [set5_size]; exact TR14.out.2.2.2.2.2.1.2⟩, ⟨stay_set2 TR14.out.2.2.2.2.2.2.1.1 (by omega) (.int .i64 Kt) (.int .i64 It) (.float .f64 Ft) (.string St) (.slice qt mt dt), by show _ ≤ (set5 Wd (w.heap.size + 1) 0 (.int .i64 Kt) (.int .i64 It) (.float .f64 Ft) (.string St) (.slice qt mt dt)).heap.size; rw [set5_size]; exact TR14.out.2.2.2.2.2.2.1.2⟩, s5b TR14.out.2.2.2.2.2.2.2 (by omega)⟩)
  clear TR14
  clear b30 b31 b32 b33 b34 b3f b3l
  go_wp2_with fail
  refine hK.out _ _ ?hsv5_ (fun hH => ?_)
  case hsv5_ => exact ⟨rc TR15.out.2.2.2.1 0, rc TR15.out.2.2.2.1 1, rc TR15.out.2.2.2.1 2, rc TR15.out.2.2.2.1 3, rc TR15.out.2.2.2.1 4, rc TR15.out.2.2.2.2.1 0, rc TR15.out.2.2.2.2.1 1, rc TR15.out.2.2.2.2.1 2, rc TR15.out.2.2.2.2.1 3, rc TR15.out.2.2.2.2.1 4⟩
  clear hK K
  (try simp only [Act.put, pk0, pk1, pk2])
  refine zr1 3 (by kernel_rfl) (by simp only [lk0, lk1, lk2]; rfl) (fun K hK => ?_)
  obtain ⟨b30, b31, b32, b33, b34, b3f, b3l⟩ := r7 TR15.out.2.2.1; go_simp
  have TR16 := Lib.hid (show (fun z0 : World => ZL z0 w.heap.size qc mc dc ∧ Zw z0 (w.heap.size + 1) (.int .i64 Kt) (.int .i64 It) (.float .f64 Ft) (.string St) (.slice qt mt dt) ∧ Zw z0 (w.heap.size + 1 + 1) (.int .i64 Ku) (.int .i64 Iu) (.float .f64 Fu) (.string Su) (.slice qu mu du) ∧ Zw z0 wL.heap.size (.int .i64 Kt) (.int .i64 It) (.float .f64 Ft) (.string St) (.slice qt mt dt) ∧ Zw z0 (wL.heap.size + 1) (.int .i64 Ku) (.int .i64 Iu) (.float .f64 Fu) (.string Su) (.slice qu mu du) ∧ (Stay w2.heap.size wC z0 ∧ wC.heap.size ≤ z0.heap.size) ∧ (Stay ((wL.alloc (.cells #[.int .i64 0, .int .i64 0, .float .f64 0, .string ⟨#[]⟩, .slice none 0 0] 27)).alloc (.cells #[.int .i64 0, .int .i64 0, .float .f64 0, .string ⟨#[]⟩, .slice none 0 0] 27)).heap.size wD z0 ∧ wD.heap.size ≤ z0.heap.size) ∧ Below w.heap.size w z0) ((((((((((Wd.setCell ⟨w.heap.size + 1, 0, none⟩ (.int .i64 Kt)).setCell ⟨w.heap.size + 1, 1, none⟩ (.int .i64 It)).setCell ⟨w.heap.size + 1, 2, none⟩ (.float .f64 Ft)).setCell ⟨w.heap.size + 1, 3, none⟩ (.string St)).setCell ⟨w.heap.size + 1, 4, none⟩ (.slice qt mt dt)).setCell ⟨w.heap.size + 1 + 1, 0, none⟩ (.int .i64 Ku)).setCell ⟨w.heap.size + 1 + 1, 1, none⟩ (.int .i64 Iu)).setCell ⟨w.heap.size + 1 + 1, 2, none⟩ (.float .f64 Fu)).setCell ⟨w.heap.size + 1 + 1, 3, none⟩ (.string Su)).setCell ⟨w.heap.size + 1 + 1, 4, none⟩ (.slice qu mu du)) from ⟨s5o TR15.out.1 (by omega), s5o TR15.out.2.1 (by omega), s5r TR15.out.2.2.1, s5o TR15.out.2.2.2.1 (by omega), s5o TR15.out.2.2.2.2.1 (by omega), ⟨stay_set2 TR15.out.2.2.2.2.2.1.1 (by omega) (.int .i64 Ku) (.int .i64 Iu) (.float .f64 Fu) (.string Su) (.slice qu mu du), by show _ ≤ (set5 (((((Wd.setCell ⟨w.heap.size + 1, 0, none⟩ (.int .i64 Kt)).setCell ⟨w.heap.size + 1, 1, none⟩ (.int .i64 It)).setCell ⟨w.heap.size + 1, 2, none⟩ (.float .f64 Ft)).setCell ⟨w.heap.size + 1, 3, none⟩ (.string St)).setCell ⟨w.heap.size + 1, 4, none⟩ (.slice qt mt dt)) (w.heap.size + 1 + 1) 0 (.int .i64 Ku) (.int .i64 Iu) (.float .f64 Fu) (.string Su) (.slice qu mu du)).heap.size; rw [set5_size]; exact TR15.out.2.2.2.2.2.1.2⟩, ⟨stay_set2 TR15.out.2.2.2.2.2.2.1.1 (by omega) (.int .i64 Ku) (.int .i64 Iu) (.float .f64 Fu) (.string Su) (.slice qu mu du), by show _ ≤ (set5 (((((Wd.setCell ⟨w.heap.size + 1, 0, none⟩ (.int .i64 Kt)).setCell ⟨w.heap.size + 1, 1, none⟩ (.int .i64 It)).setCell ⟨w.heap.size + 1, 2, none⟩ (.float .f64 Ft)).setCell ⟨w.heap.size + 1, 3, none⟩ (.string St)).setCell ⟨w.heap.size + 1, 4, none⟩ (.slice qt mt dt)) (w.heap.size + 1 + 1) 0 (.int .i64 Ku) (.int .i64 Iu) (.float .f64 Fu) (.string Su) (.slice qu mu du)).heap.size; rw [set5_size]; exact TR15.out.2.2.2.2.2.2.1.2⟩, s5b TR15.out.2.2.2.2.2.2.2 (by omega)⟩)
  clear TR15
  clear b30 b31 b32 b33 b34 b3f b3l
  go_wp2_with fail
  refine hK.out _ _ ?hsv6_ (fun hH => ?_)
  case hsv6_ => exact ⟨rc TR16.out.2.2.2.1 0, rc TR16.out.2.2.2.1 1, rc TR16.out.2.2.2.1 2, rc TR16.out.2.2.2.1 3, rc TR16.out.2.2.2.1 4, rc TR16.out.2.2.2.2.1 0, rc TR16.out.2.2.2.2.1 1, rc TR16.out.2.2.2.2.1 2, rc TR16.out.2.2.2.2.1 3, rc TR16.out.2.2.2.2.1 4⟩
  clear hK K
  (try simp only [Act.put, pk0, pk1, pk2])
  refine zt [4] ?_
  refine zt1 (fun _ _ d _ _ h => by cases d <;> exact h) (by simp only [lk0, lk1, lk2]; rfl) (by kernel_rfl) (by assumption) (by rfl) (fun w h => by (try dsimp only at h); go_simp; (try with_reducible rfl)) ?_; (try simp only [Act.put, pk0, pk1, pk2])
  refine zt0 ?_
  refine wpAnyH_done (by kernel_rfl) ?_ _
  revert TR16
  generalize ((((((((((Wd.setCell ⟨w.heap.size + 1, 0, none⟩ (.int .i64 Kt)).setCell ⟨w.heap.size + 1, 1, none⟩ (.int .i64 It)).setCell ⟨w.heap.size + 1, 2, none⟩ (.float .f64 Ft)).setCell ⟨w.heap.size + 1, 3, none⟩ (.string St)).setCell ⟨w.heap.size + 1, 4, none⟩ (.slice qt mt dt)).setCell ⟨w.heap.size + 1 + 1, 0, none⟩ (.int .i64 Ku)).setCell ⟨w.heap.size + 1 + 1, 1, none⟩ (.int .i64 Iu)).setCell ⟨w.heap.size + 1 + 1, 2, none⟩ (.float .f64 Fu)).setCell ⟨w.heap.size + 1 + 1, 3, none⟩ (.string Su)).setCell ⟨w.heap.size + 1 + 1, 4, none⟩ (.slice qu mu du)) = Wf
  intro TR16
  obtain ⟨c1_0, c1_1, c1_2, c1_3, c1_4, c1f, c1l⟩ := r7 TR16.out.2.1
  obtain ⟨c2_0, c2_1, c2_2, c2_3, c2_4, c2f, c2l⟩ := r7 TR16.out.2.2.1
  go_wp2
  refine bodyPost_ret (v := .tuple #[.agg #[.int .i64 Kt, .int .i64 It, .float .f64 Ft, .string St, .slice qt mt dt], .agg #[.int .i64 Ku, .int .i64 Iu, .float .f64 Fu, .string Su, .slice qu mu du], .int .i64 0]) (by simp [results, Tryz.results13, go_sem, c1_0, c1_1, c1_2, c1_3, c1_4, c2_0, c2_1, c2_2, c2_3, c2_4]) rfl ⟨_, _, rfl, TR16.out.2.2.2.2.2.2.2, fun y hy => ?_⟩
  have hy0 : Stay w2.heap.size wC y := fun b h1 h2 => (hy b (by omega) (Nat.lt_of_lt_of_le h2 TR16.out.2.2.2.2.2.1.2)).trans (TR16.out.2.2.2.2.2.1.1 b h1 h2)
  have hy1 : Stay ((wL.alloc (.cells #[.int .i64 0, .int .i64 0, .float .f64 0, .string ⟨#[]⟩, .slice none 0 0] 27)).alloc (.cells #[.int .i64 0, .int .i64 0, .float .f64 0, .string ⟨#[]⟩, .slice none 0 0] 27)).heap.size wD y := fun b h1 h2 => (hy b (by rw [hzl] at h1; omega) (Nat.lt_of_lt_of_le h2 TR16.out.2.2.2.2.2.2.1.2)).trans (TR16.out.2.2.2.2.2.2.1.1 b h1 h2)
  exact ⟨HT.out y (repS_listW HCC.out hy0) (HRW.out y hy0) hy1, HU.out y⟩
set_option maxRecDepth 100000 in
set_option maxHeartbeats 8000000 in
theorem rdo_bad (p : Option Addr) (l c : Nat) (ms : ByteArray) (pl : Option Addr) (ll cl : Nat) (w : World) (HR : Hid (∀ W, Below w.heap.size w W → Calls Tryz.prog 17 #[.string { data := #[108, 101, 100, 103, 101, 114] }, .agg #[.int .i64 4, .int .i64 0, .float .f64 0, .string ⟨#[]⟩, .slice p l c]] W fun e w' => e = .returned (.bool true) ∧ Below W.heap.size W w'))
    (HK : Hid (∀ W, Below w.heap.size w W → Calls Tryz.prog 31 #[.string { data := #[108, 101, 100, 103, 101, 114] }, .string ms, .slice pl ll cl] W fun e w' => e = .returned (.int .i64 0) ∧ Below W.heap.size W w'))
    (ES : List (ByteArray × VT 1)) (HSR : Hid (Rep w 3 (.agg #[.int .i64 4, .int .i64 0, .float .f64 0, .string ⟨#[]⟩, .slice p l c]) (tableT 0 ES))) (hcl : cleanT 3 (tableT 0 ES) = tableT 0 ES) (hgr : greatP 3 0 (tableT 0 ES) = false) (NL : List (VT 1)) (HNL : Hid (RepL w (Rep w 1) pl ll cl NL)) (hgn : ∀ x ∈ NL, greatP 1 0 x = false) (hcn : NL.map (cleanT 1) = NL) (hll : ll ≤ 1000)
    (TT : VT 3) (UU : VT 1) (z : Int) (HLG : Hid (∀ (W : World) (R : Value → VT 2 → Prop) (q : Option Addr) (m d : Nat) (pa : Option Addr) (la ca : Nat), One5 R → RepL W R q m d (ES.map (pairE 0)) → (∀ W', Below W.heap.size W W' → ∀ v X, R v X → Rep W' 2 v X) → RepL W (Rep W 1) pa la ca NL → Calls Tryz.prog 38 #[.agg #[.int .i64 4, .int .i64 0, .float .f64 0, .string ⟨#[]⟩, .slice q m d], .string ms, .slice pa la ca] W fun e w' => RLQ W R q m d (ES.map (pairE 0)) TT UU z e w')) (hz : (z != 0) = true) :
    Calls Tryz.prog 13 #[.string { data := #[108, 101, 100, 103, 101, 114] }, .agg #[.int .i64 4, .int .i64 0, .float .f64 0, .string ⟨#[]⟩, .slice p l c], .string ms, .slice pl ll cl] w fun e w' => RDo w (nilT 2) (nilT 0) z e w' := by
  have TR1 := Lib.hid (show (fun z0 : World => ZL z0 w.heap.size p l c ∧ Zz z0 (w.heap.size + 1) ∧ Zz z0 (w.heap.size + 1 + 1) ∧ Below w.heap.size w z0) (((w.alloc (.cells #[.int .i64 4, .int .i64 0, .float .f64 0, .string ⟨#[]⟩, .slice p l c] 27)).alloc (.cells #[.int .i64 0, .int .i64 0, .float .f64 0, .string ⟨#[]⟩, .slice none 0 0] 27)).alloc (.cells #[.int .i64 0, .int .i64 0, .float .f64 0, .string ⟨#[]⟩, .slice none 0 0] 27)) from ⟨row_alloc_step (row_alloc_step (row_alloc w #[.int .i64 4, .int .i64 0, .float .f64 0, .string ⟨#[]⟩, .slice p l c] 27) _) _, (row_alloc_step (ra (by simp only [World.size_alloc, World.size_drew])) _), (ra (by simp only [World.size_alloc, World.size_drew])), bel_alloc (bel_alloc (bel_alloc (Below.refl w.heap.size w) _) _) _⟩)
  have HCL := Lib.hid hcl
  have HGR := Lib.hid hgr
  have HGN := Lib.hid hgn
  have HCN := Lib.hid hcn
  clear hcl hgr hgn hcn
  go_enter Tryz.func13, Tryz.ntmps13
  go_wp2_with fail
  go_at_call 17; refine (HR.out _ TR1.out.2.2.2).mono ?_; rintro e w8 ⟨rfl, hbw8⟩
  have TR2 := Lib.hid (And.intro (row_step TR1.out.1 hbw8) (And.intro (row_step TR1.out.2.1 hbw8) (And.intro (row_step TR1.out.2.2.1 hbw8) (bel_step TR1.out.2.2.2 hbw8))))
  clear TR1
  clear hbw8
  go_wp2_with fail
  go_at_call 31; refine (HK.out _ TR2.out.2.2.2).mono ?_; rintro e w9 ⟨rfl, hbw9⟩
  have TR3 := Lib.hid (And.intro (row_step TR2.out.1 hbw9) (And.intro (row_step TR2.out.2.1 hbw9) (And.intro (row_step TR2.out.2.2.1 hbw9) (bel_step TR2.out.2.2.2 hbw9))))
  clear TR2
  clear hbw9
  obtain ⟨c0_0, c0_1, c0_2, c0_3, c0_4, c0f, c0l⟩ := r7 TR3.out.1
  have hcB : w.heap.size ≤ w9.heap.size := TR3.out.2.2.2.size
  have hcB0 : w.heap.size < w9.heap.size := row_lt TR3.out.1
  have hcB1 : w.heap.size + 1 < w9.heap.size := row_lt TR3.out.2.1
  have hcB2 : w.heap.size + 1 + 1 < w9.heap.size := row_lt TR3.out.2.2.1
  go_wp2_with fail
  go_at_call 32; refine (clean_anyP 3 0 _ (tableT 0 ES) _ HGR.out (rep_keep TR3.out.2.2.2 _ _ _ HSR.out)).mono ?_; rintro e wC ⟨vc, rfl, hbwC, hrep⟩
  have TR4 := Lib.hid (And.intro (row_step TR3.out.1 hbwC) (And.intro (row_step TR3.out.2.1 hbwC) (And.intro (row_step TR3.out.2.2.1 hbwC) (bel_step TR3.out.2.2.2 hbwC))))
  clear TR3
  obtain ⟨Kc, Ic, Fc, Sc, qc, mc, dc, rfl, _⟩ := repS_shape hrep
  rw [HCL.out] at hrep
  obtain ⟨rfl, rfl, rfl, rfl⟩ := led_box hrep
  have TR5 := Lib.hid (show ZL wC w.heap.size p l c ∧ Zz wC (w.heap.size + 1) ∧ Zz wC (w.heap.size + 1 + 1) ∧ (Stay w9.heap.size wC wC ∧ wC.heap.size ≤ wC.heap.size) ∧ Below w.heap.size w wC from ⟨TR4.out.1, TR4.out.2.1, TR4.out.2.2.1, ⟨stay_refl _ _, Nat.le_refl _⟩, TR4.out.2.2.2⟩)
  clear TR4
  have HCC := Lib.hid (repS_lt _ _ _ hrep)
  clear hrep
  clear hbwC
  clear c0_0 c0_1 c0_2 c0_3 c0_4 c0f c0l
  obtain ⟨c0_0, c0_1, c0_2, c0_3, c0_4, c0f, c0l⟩ := r7 TR5.out.1
  go_wp2_with fail
  have TR6 := Lib.hid (show (fun z0 : World => ZL z0 w.heap.size qc mc dc ∧ Zz z0 (w.heap.size + 1) ∧ Zz z0 (w.heap.size + 1 + 1) ∧ (Stay w9.heap.size wC z0 ∧ wC.heap.size ≤ z0.heap.size) ∧ Below w.heap.size w z0) (((((wC.setCell ⟨w.heap.size, 0, none⟩ (.int .i64 4)).setCell ⟨w.heap.size, 1, none⟩ (.int .i64 0)).setCell ⟨w.heap.size, 2, none⟩ (.float .f64 0)).setCell ⟨w.heap.size, 3, none⟩ (.string ⟨#[]⟩)).setCell ⟨w.heap.size, 4, none⟩ (.slice qc mc dc)) from ⟨s5r TR5.out.1, s5o TR5.out.2.1 (by omega), s5o TR5.out.2.2.1 (by omega), ⟨stay_set2 TR5.out.2.2.2.1.1 (by omega) (.int .i64 4) (.int .i64 0) (.float .f64 0) (.string ⟨#[]⟩) (.slice qc mc dc), by show _ ≤ (set5 wC (w.heap.size) 0 (.int .i64 4) (.int .i64 0) (.float .f64 0) (.string ⟨#[]⟩) (.slice qc mc dc)).heap.size; rw [set5_size]; exact TR5.out.2.2.2.1.2⟩, s5b TR5.out.2.2.2.2 (by omega)⟩)
  clear TR5
  clear c0_0 c0_1 c0_2 c0_3 c0_4 c0f c0l
  go_at_call 33; refine (cleans_anyP 1 0 (clean_anyP 1) _ pl ll cl NL HGN.out (repL_acc1 TR6.out.2.2.2.2 HNL.out) (by omega)).mono ?_; rintro e wL ⟨pa, la, ca, rfl, hbwL, hrep⟩
  have TR7 := Lib.hid (show ZL wL w.heap.size qc mc dc ∧ Zz wL (w.heap.size + 1) ∧ Zz wL (w.heap.size + 1 + 1) ∧ (Stay w9.heap.size wC wL ∧ wC.heap.size ≤ wL.heap.size) ∧ Below w.heap.size w wL from ⟨row_step TR6.out.1 hbwL, row_step TR6.out.2.1 hbwL, row_step TR6.out.2.2.1 hbwL, ⟨stay_trans TR6.out.2.2.2.1.1 TR6.out.2.2.2.1.2 hbwL, Nat.le_trans TR6.out.2.2.2.1.2 hbwL.size⟩, bel_step TR6.out.2.2.2.2 hbwL⟩)
  clear TR6
  rw [HCN.out] at hrep
  have HNA := Lib.hid (repLS_rep hrep)
  clear hrep
  clear hbwL
  obtain ⟨c0_0, c0_1, c0_2, c0_3, c0_4, c0f, c0l⟩ := r7 TR7.out.1
  go_wp2_with fail
  clear c0_0 c0_1 c0_2 c0_3 c0_4 c0f c0l
  have hLb : wC.heap.size ≤ wL.heap.size := TR7.out.2.2.2.1.2
  have hLb0 : w.heap.size < wL.heap.size := row_lt TR7.out.1
  have hLb1 : w.heap.size + 1 < wL.heap.size := row_lt TR7.out.2.1
  have hLb2 : w.heap.size + 1 + 1 < wL.heap.size := row_lt TR7.out.2.2.1
  have TR8 := Lib.hid (show (fun z0 : World => ZL z0 w.heap.size qc mc dc ∧ Zz z0 (w.heap.size + 1) ∧ Zz z0 (w.heap.size + 1 + 1) ∧ Zz z0 wL.heap.size ∧ (Stay w9.heap.size wC z0 ∧ wC.heap.size ≤ z0.heap.size) ∧ Below w.heap.size w z0) (wL.alloc (.cells #[.int .i64 0, .int .i64 0, .float .f64 0, .string ⟨#[]⟩, .slice none 0 0] 27)) from ⟨(row_alloc_step (TR7.out.1) _), (row_alloc_step (TR7.out.2.1) _), (row_alloc_step (TR7.out.2.2.1) _), (ra (by simp only [World.size_alloc, World.size_drew, World.size_setCell])), ⟨stay_trans TR7.out.2.2.2.1.1 TR7.out.2.2.2.1.2 (bel_alloc br _), Nat.le_trans TR7.out.2.2.2.1.2 (bel_alloc br _).size⟩, bel_step TR7.out.2.2.2.2 (bel_alloc br _)⟩)
  have TR9 := Lib.hid (show (fun z0 : World => ZL z0 w.heap.size qc mc dc ∧ Zz z0 (w.heap.size + 1) ∧ Zz z0 (w.heap.size + 1 + 1) ∧ Zz z0 wL.heap.size ∧ Zz z0 (wL.heap.size + 1) ∧ (Stay w9.heap.size wC z0 ∧ wC.heap.size ≤ z0.heap.size) ∧ Below w.heap.size w z0) ((wL.alloc (.cells #[.int .i64 0, .int .i64 0, .float .f64 0, .string ⟨#[]⟩, .slice none 0 0] 27)).alloc (.cells #[.int .i64 0, .int .i64 0, .float .f64 0, .string ⟨#[]⟩, .slice none 0 0] 27)) from ⟨(row_alloc_step (row_alloc_step (TR7.out.1) _) _), (row_alloc_step (row_alloc_step (TR7.out.2.1) _) _), (row_alloc_step (row_alloc_step (TR7.out.2.2.1) _) _), (row_alloc_step (ra (by simp only [World.size_alloc, World.size_drew, World.size_setCell])) _), (ra (by simp only [World.size_alloc, World.size_drew, World.size_setCell])), ⟨stay_trans TR7.out.2.2.2.1.1 TR7.out.2.2.2.1.2 (bel_alloc (bel_alloc br _) _), Nat.le_trans TR7.out.2.2.2.1.2 (bel_alloc (bel_alloc br _) _).size⟩, bel_step TR7.out.2.2.2.2 (bel_alloc (bel_alloc br _) _)⟩)
  have hzl : ((wL.alloc (.cells #[.int .i64 0, .int .i64 0, .float .f64 0, .string ⟨#[]⟩, .slice none 0 0] 27)).alloc (.cells #[.int .i64 0, .int .i64 0, .float .f64 0, .string ⟨#[]⟩, .slice none 0 0] 27)).heap.size = wL.heap.size + 1 + 1 := by simp only [World.size_alloc]
  have hst0 := TR9.out.2.2.2.2.2.1.1
  have hRW : ∀ W, (∀ b, w9.heap.size ≤ b → b < wC.heap.size → W.heap[b]? = wC.heap[b]?) → ∀ v X, (fun v (X : VT 2) => RepS (fun b => w9.heap.size ≤ b ∧ b < wC.heap.size) wC 2 v X) v X → Rep W 2 v X := fun W hW v X hv => repS_rep _ _ _ (repS_keep (fun b hb => hW b hb.1 hb.2) _ _ _ hv)
  have HRW := Lib.hid hRW
  clear hRW
  have HLL := Lib.hid (show RepL ((wL.alloc (.cells #[.int .i64 0, .int .i64 0, .float .f64 0, .string ⟨#[]⟩, .slice none 0 0] 27)).alloc (.cells #[.int .i64 0, .int .i64 0, .float .f64 0, .string ⟨#[]⟩, .slice none 0 0] 27)) (fun v (X : VT 2) => RepS (fun b => w9.heap.size ≤ b ∧ b < wC.heap.size) wC 2 v X) qc mc dc (ES.map (pairE 0)) from repS_listW HCC.out hst0)
  clear hst0
  go_at_call 38; refine (HLG.out ((wL.alloc (.cells #[.int .i64 0, .int .i64 0, .float .f64 0, .string ⟨#[]⟩, .slice none 0 0] 27)).alloc (.cells #[.int .i64 0, .int .i64 0, .float .f64 0, .string ⟨#[]⟩, .slice none 0 0] 27)) (fun v (X : VT 2) => RepS (fun b => w9.heap.size ≤ b ∧ b < wC.heap.size) wC 2 v X) qc mc dc pa la ca (repS_one _ _ _) HLL.out (fun W' hb v X hv => HRW.out W' (fun b h1 h2 => (hb.block b (Nat.lt_of_lt_of_le h2 (by rw [hzl]; omega))).trans (TR9.out.2.2.2.2.2.1.1 b h1 h2)) v X hv) (repL_acc1 (bel_alloc (bel_alloc br _) _) HNA.out)).mono ?_; rintro e wD ⟨tt, uu, rfl, hbwD, ht, hu⟩
  have TR10 := Lib.hid (show ZL wD w.heap.size qc mc dc ∧ Zz wD (w.heap.size + 1) ∧ Zz wD (w.heap.size + 1 + 1) ∧ Zz wD wL.heap.size ∧ Zz wD (wL.heap.size + 1) ∧ (Stay w9.heap.size wC wD ∧ wC.heap.size ≤ wD.heap.size) ∧ Below w.heap.size w wD from ⟨row_step TR9.out.1 hbwD, row_step TR9.out.2.1 hbwD, row_step TR9.out.2.2.1 hbwD, row_step TR9.out.2.2.2.1 hbwD, row_step TR9.out.2.2.2.2.1 hbwD, ⟨stay_trans TR9.out.2.2.2.2.2.1.1 TR9.out.2.2.2.2.2.1.2 hbwD, Nat.le_trans TR9.out.2.2.2.2.2.1.2 hbwD.size⟩, bel_step TR9.out.2.2.2.2.2.2 hbwD⟩)
  clear TR9
  obtain ⟨Kt, It, Ft, St, qt, mt, dt, rfl, _⟩ := rep_shape (ht wD (repS_listW HCC.out TR10.out.2.2.2.2.2.1.1) (HRW.out _ TR10.out.2.2.2.2.2.1.1) (stay_refl _ _))
  obtain ⟨Ku, Iu, Fu, Su, qu, mu, du, rfl, _⟩ := rep_shape (hu wD)
  have TR11 := Lib.hid (show ZL wD w.heap.size qc mc dc ∧ Zz wD (w.heap.size + 1) ∧ Zz wD (w.heap.size + 1 + 1) ∧ Zz wD wL.heap.size ∧ Zz wD (wL.heap.size + 1) ∧ (Stay w9.heap.size wC wD ∧ wC.heap.size ≤ wD.heap.size) ∧ (Stay ((wL.alloc (.cells #[.int .i64 0, .int .i64 0, .float .f64 0, .string ⟨#[]⟩, .slice none 0 0] 27)).alloc (.cells #[.int .i64 0, .int .i64 0, .float .f64 0, .string ⟨#[]⟩, .slice none 0 0] 27)).heap.size wD wD ∧ wD.heap.size ≤ wD.heap.size) ∧ Below w.heap.size w wD from ⟨TR10.out.1, TR10.out.2.1, TR10.out.2.2.1, TR10.out.2.2.2.1, TR10.out.2.2.2.2.1, TR10.out.2.2.2.2.2.1, ⟨stay_refl _ _, Nat.le_refl _⟩, TR10.out.2.2.2.2.2.2⟩)
  clear TR10
  have HT := Lib.hid ht
  have HU := Lib.hid hu
  clear ht hu
  clear hbwD
  obtain ⟨c3_0, c3_1, c3_2, c3_3, c3_4, c3f, c3l⟩ := r7 TR11.out.2.2.2.1
  obtain ⟨c4_0, c4_1, c4_2, c4_3, c4_4, c4f, c4l⟩ := r7 TR11.out.2.2.2.2.1
  go_wp2_with fail
  have TR12 := Lib.hid (show (fun z0 : World => ZL z0 w.heap.size qc mc dc ∧ Zz z0 (w.heap.size + 1) ∧ Zz z0 (w.heap.size + 1 + 1) ∧ Zw z0 wL.heap.size (.int .i64 Kt) (.int .i64 It) (.float .f64 Ft) (.string St) (.slice qt mt dt) ∧ Zz z0 (wL.heap.size + 1) ∧ (Stay w9.heap.size wC z0 ∧ wC.heap.size ≤ z0.heap.size) ∧ (Stay ((wL.alloc (.cells #[.int .i64 0, .int .i64 0, .float .f64 0, .string ⟨#[]⟩, .slice none 0 0] 27)).alloc (.cells #[.int .i64 0, .int .i64 0, .float .f64 0, .string ⟨#[]⟩, .slice none 0 0] 27)).heap.size wD z0 ∧ wD.heap.size ≤ z0.heap.size) ∧ Below w.heap.size w z0) (((((wD.setCell ⟨wL.heap.size, 0, none⟩ (.int .i64 Kt)).setCell ⟨wL.heap.size, 1, none⟩ (.int .i64 It)).setCell ⟨wL.heap.size, 2, none⟩ (.float .f64 Ft)).setCell ⟨wL.heap.size, 3, none⟩ (.string St)).setCell ⟨wL.heap.size, 4, none⟩ (.slice qt mt dt)) from ⟨s5o TR11.out.1 (by omega), s5o TR11.out.2.1 (by omega), s5o TR11.out.2.2.1 (by omega), s5r TR11.out.2.2.2.1, s5o TR11.out.2.2.2.2.1 (by omega), ⟨stay_set2 TR11.out.2.2.2.2.2.1.1 (by omega) (.int .i64 Kt) (.int .i64 It) (.float .f64 Ft) (.string St) (.slice qt mt dt), by show _ ≤ (set5 wD (wL.heap.size) 0 (.int .i64 Kt) (.int .i64 It) (.float .f64 Ft) (.string St) (.slice qt mt dt)).heap.size; rw [set5_size]; exact TR11.out.2.2.2.2.2.1.2⟩, ⟨stay_set2 TR11.out.2.2.2.2.2.2.1.1 (by omega) (.int .i64 Kt) (.int .i64 It) (.float .f64 Ft) (.string St) (.slice qt mt dt), by show _ ≤ (set5 wD (wL.heap.size) 0 (.int .i64 Kt) (.int .i64 It) (.float .f64 Ft) (.string St) (.slice qt mt dt)).heap.size; rw [set5_size]; exact TR11.out.2.2.2.2.2.2.1.2⟩, s5b TR11.out.2.2.2.2.2.2.2 (by omega)⟩)
  clear TR11
  have TR13 := Lib.hid (show (fun z0 : World => ZL z0 w.heap.size qc mc dc ∧ Zz z0 (w.heap.size + 1) ∧ Zz z0 (w.heap.size + 1 + 1) ∧ Zw z0 wL.heap.size (.int .i64 Kt) (.int .i64 It) (.float .f64 Ft) (.string St) (.slice qt mt dt) ∧ Zw z0 (wL.heap.size + 1) (.int .i64 Ku) (.int .i64 Iu) (.float .f64 Fu) (.string Su) (.slice qu mu du) ∧ (Stay w9.heap.size wC z0 ∧ wC.heap.size ≤ z0.heap.size) ∧ (Stay ((wL.alloc (.cells #[.int .i64 0, .int .i64 0, .float .f64 0, .string ⟨#[]⟩, .slice none 0 0] 27)).alloc (.cells #[.int .i64 0, .int .i64 0, .float .f64 0, .string ⟨#[]⟩, .slice none 0 0] 27)).heap.size wD z0 ∧ wD.heap.size ≤ z0.heap.size) ∧ Below w.heap.size w z0) ((((((((((wD.setCell ⟨wL.heap.size, 0, none⟩ (.int .i64 Kt)).setCell ⟨wL.heap.size, 1, none⟩ (.int .i64 It)).setCell ⟨wL.heap.size, 2, none⟩ (.float .f64 Ft)).setCell ⟨wL.heap.size, 3, none⟩ (.string St)).setCell ⟨wL.heap.size, 4, none⟩ (.slice qt mt dt)).setCell ⟨wL.heap.size + 1, 0, none⟩ (.int .i64 Ku)).setCell ⟨wL.heap.size + 1, 1, none⟩ (.int .i64 Iu)).setCell ⟨wL.heap.size + 1, 2, none⟩ (.float .f64 Fu)).setCell ⟨wL.heap.size + 1, 3, none⟩ (.string Su)).setCell ⟨wL.heap.size + 1, 4, none⟩ (.slice qu mu du)) from ⟨s5o TR12.out.1 (by omega), s5o TR12.out.2.1 (by omega), s5o TR12.out.2.2.1 (by omega), s5o TR12.out.2.2.2.1 (by omega), s5r TR12.out.2.2.2.2.1, ⟨stay_set2 TR12.out.2.2.2.2.2.1.1 (by omega) (.int .i64 Ku) (.int .i64 Iu) (.float .f64 Fu) (.string Su) (.slice qu mu du), by show _ ≤ (set5 (((((wD.setCell ⟨wL.heap.size, 0, none⟩ (.int .i64 Kt)).setCell ⟨wL.heap.size, 1, none⟩ (.int .i64 It)).setCell ⟨wL.heap.size, 2, none⟩ (.float .f64 Ft)).setCell ⟨wL.heap.size, 3, none⟩ (.string St)).setCell ⟨wL.heap.size, 4, none⟩ (.slice qt mt dt)) (wL.heap.size + 1) 0 (.int .i64 Ku) (.int .i64 Iu) (.float .f64 Fu) (.string Su) (.slice qu mu du)).heap.size; rw [set5_size]; exact TR12.out.2.2.2.2.2.1.2⟩, ⟨stay_set2 TR12.out.2.2.2.2.2.2.1.1 (by omega) (.int .i64 Ku) (.int .i64 Iu) (.float .f64 Fu) (.string Su) (.slice qu mu du), by show _ ≤ (set5 (((((wD.setCell ⟨wL.heap.size, 0, none⟩ (.int .i64 Kt)).setCell ⟨wL.heap.size, 1, none⟩ (.int .i64 It)).setCell ⟨wL.heap.size, 2, none⟩ (.float .f64 Ft)).setCell ⟨wL.heap.size, 3, none⟩ (.string St)).setCell ⟨wL.heap.size, 4, none⟩ (.slice qt mt dt)) (wL.heap.size + 1) 0 (.int .i64 Ku) (.int .i64 Iu) (.float .f64 Fu) (.string Su) (.slice qu mu du)).heap.size; rw [set5_size]; exact TR12.out.2.2.2.2.2.2.1.2⟩, s5b TR12.out.2.2.2.2.2.2.2 (by omega)⟩)
  clear TR12
  clear c3_0 c3_1 c3_2 c3_3 c3_4 c4_0 c4_1 c4_2 c4_3 c4_4 c3f c3l c4f c4l
  go_at_call 30; refine (no_any _ _).mono ?_; rintro e w10 ⟨rfl, hbw10⟩
  have TR14 := Lib.hid (show ZL w10 w.heap.size qc mc dc ∧ Zz w10 (w.heap.size + 1) ∧ Zz w10 (w.heap.size + 1 + 1) ∧ Zw w10 wL.heap.size (.int .i64 Kt) (.int .i64 It) (.float .f64 Ft) (.string St) (.slice qt mt dt) ∧ Zw w10 (wL.heap.size + 1) (.int .i64 Ku) (.int .i64 Iu) (.float .f64 Fu) (.string Su) (.slice qu mu du) ∧ (Stay w9.heap.size wC w10 ∧ wC.heap.size ≤ w10.heap.size) ∧ (Stay ((wL.alloc (.cells #[.int .i64 0, .int .i64 0, .float .f64 0, .string ⟨#[]⟩, .slice none 0 0] 27)).alloc (.cells #[.int .i64 0, .int .i64 0, .float .f64 0, .string ⟨#[]⟩, .slice none 0 0] 27)).heap.size wD w10 ∧ wD.heap.size ≤ w10.heap.size) ∧ Below w.heap.size w w10 from ⟨row_step TR13.out.1 hbw10, row_step TR13.out.2.1 hbw10, row_step TR13.out.2.2.1 hbw10, row_step TR13.out.2.2.2.1 hbw10, row_step TR13.out.2.2.2.2.1 hbw10, ⟨stay_trans TR13.out.2.2.2.2.2.1.1 TR13.out.2.2.2.2.2.1.2 hbw10, Nat.le_trans TR13.out.2.2.2.2.2.1.2 hbw10.size⟩, ⟨stay_trans TR13.out.2.2.2.2.2.2.1.1 TR13.out.2.2.2.2.2.2.1.2 hbw10, Nat.le_trans TR13.out.2.2.2.2.2.2.1.2 hbw10.size⟩, bel_step TR13.out.2.2.2.2.2.2.2 hbw10⟩)
  clear TR13
  clear hbw10
  obtain ⟨c1_0, c1_1, c1_2, c1_3, c1_4, c1f, c1l⟩ := r7 TR14.out.2.1
  obtain ⟨c2_0, c2_1, c2_2, c2_3, c2_4, c2f, c2l⟩ := r7 TR14.out.2.2.1
  go_wp2
  refine bodyPost_ret (v := .tuple #[.agg #[.int .i64 0, .int .i64 0, .float .f64 0, .string ⟨#[]⟩, .slice none 0 0], .agg #[.int .i64 0, .int .i64 0, .float .f64 0, .string ⟨#[]⟩, .slice none 0 0], .int .i64 z]) (by simp [results, Tryz.results13, go_sem, World.cell?_setCell_same, World.cell?_setCell_other, c1_0, c1_1, c1_2, c1_3, c1_4, c2_0, c2_1, c2_2, c2_3, c2_4]) rfl ⟨_, _, rfl, ?_, fun y _ => ⟨repS_rep _ _ _ (nil_rep 2 (fun _ => True) y), repS_rep _ _ _ (nil_rep 0 (fun _ => True) y)⟩⟩
  exact set5_below (g := w.heap.size + 1 + 1) (o := 0) (set5_below (g := w.heap.size + 1) (o := 0) TR14.out.2.2.2.2.2.2.2 (by omega) _ _ _ _ _) (by omega) _ _ _ _ _
end Num
end Go.Proofs.YtpbfaffheigjcaaGreat
/-
  LedgerAmounts: floats above nothing, Ints as floats, a holding that is given: plain.
-/
namespace Go.Proofs.YtpbfaffheigjcaaGreat
open Go.RowKit
namespace Num
open Ints
set_option linter.unusedSimpArgs false
set_option linter.unusedVariables false
theorem order_zero {F : Nat} (hF : F < 2 ^ 64) : (FloatKind.f64.format.order F 0 = some .gt → F ≤ 9218868437227405312) ∧ (FloatKind.f64.format.order F 0 = some .eq → F = 0 ∨ F = 9223372036854775808) := by
  obtain ⟨h1, h2, h3, h4, h5⟩ := dbl_facts
  have key : FloatKind.f64.format.order F 0 = (Ieee.double.read F).order (.number false 0 (-1074)) := by rw [← read_zero]; rfl
  rw [key]
  have e0 : ∀ p : Int, Ieee.signed false 0 (-1074 - min p (-1074)).toNat = 0 := fun p => by rw [signed_pos, Nat.zero_shiftLeft]; rfl
  have hcmp : ∀ (s : Bool) (m : Nat) (p : Int) (o : Ordering), (Ieee.Datum.number s m p).order (.number false 0 (-1074)) = some o → compare (Ieee.signed s m (p - min p (-1074)).toNat) 0 = o := fun s m p o h => by
    have h' : compare (Ieee.signed s m (p - min p (-1074)).toNat) (Ieee.signed false 0 (-1074 - min p (-1074)).toNat) = o := Option.some.inj h
    rw [e0] at h'
    exact h'
  have hgt : ∀ (s : Bool) (m : Nat) (p : Int), (Ieee.Datum.number s m p).order (.number false 0 (-1074)) = some .gt → s = false := fun s m p h => by
    have h' := hcmp s m p _ h
    cases s
    · rfl
    · exfalso
      rw [signed_neg] at h'
      generalize m <<< (p - min p (-1074)).toNat = t at h'
      rcases Nat.eq_zero_or_pos t with ht | ht
      · rw [cmp_eq (by omega)] at h'; cases h'
      · rw [cmp_lt (by omega)] at h'; cases h'
  have heq : ∀ (s : Bool) (m : Nat) (p : Int), (Ieee.Datum.number s m p).order (.number false 0 (-1074)) = some .eq → m = 0 := fun s m p h => by
    have h' := hcmp s m p _ h
    have hs : ∀ t : Nat, m <<< (p - min p (-1074)).toNat = t → t = 0 → m = 0 := fun t ht h0 => by
      rw [Nat.shiftLeft_eq, h0] at ht
      rcases Nat.mul_eq_zero.1 ht with h1 | h1
      · exact h1
      · exact absurd h1 (Nat.ne_of_gt (Nat.two_pow_pos _))
    cases s
    · rw [signed_pos] at h'
      refine hs _ rfl ?_
      generalize m <<< (p - min p (-1074)).toNat = t at h' ⊢
      rcases Nat.eq_zero_or_pos t with ht | ht
      · exact ht
      · rw [cmp_gt (by omega)] at h'; cases h'
    · rw [signed_neg] at h'
      refine hs _ rfl ?_
      generalize m <<< (p - min p (-1074)).toNat = t at h' ⊢
      rcases Nat.eq_zero_or_pos t with ht | ht
      · exact ht
      · rw [cmp_lt (by omega)] at h'; cases h'
  unfold Ieee.Format.read
  simp only [h1, h2, h3, h4]
  have hneg : (F / 9223372036854775808 % 2 == 1) = false → F < 9223372036854775808 := fun h => by
    rw [beq_eq_false_iff_ne] at h; omega
  by_cases c1 : F % 9223372036854775808 < 4503599627370496
  · rw [if_pos c1]
    exact ⟨fun h => by have := hneg (hgt _ _ _ h); omega, fun h => by have := heq _ _ _ h; omega⟩
  rw [if_neg c1]
  by_cases c2 : F % 9223372036854775808 < 9218868437227405312
  · rw [if_pos c2]
    exact ⟨fun h => by have := hneg (hgt _ _ _ h); omega, fun h => by have := heq _ _ _ h; omega⟩
  rw [if_neg c2]
  by_cases c3 : F % 9223372036854775808 = 9218868437227405312
  · rw [if_pos c3]
    cases hn : (F / 9223372036854775808 % 2 == 1)
    · exact ⟨fun _ => by have := hneg hn; omega, fun h => (by cases h)⟩
    · exact ⟨fun h => (by cases h), fun h => (by cases h)⟩
  · rw [if_neg c3]
    exact ⟨fun h => (by cases h), fun h => (by cases h)⟩
theorem int_lt (I : Int) : floatOfInt .f64 I < 2 ^ 64 := by
  have := floatOfInt_wf .f64 I
  simpa [Lit.wf] using this
theorem int_ne {I : Int} (h0 : 0 < I) : floatOfInt .f64 I ≠ 0 := by
  obtain ⟨d1, d2, d3, d4, d5⟩ := dbl_facts
  have hd : decide (I < 0) = false := by rw [decide_eq_false_iff_not]; omega
  show Ieee.double.nearest (decide (I < 0)) I.natAbs 0 ≠ 0
  rw [hd]
  generalize hm : I.natAbs = m
  have hm0 : m ≠ 0 := by omega
  unfold Ieee.Format.nearest
  rw [if_neg hm0]
  simp only [d2, d3, d4, d5, word_pos]
  have hlast : (-52 : Int) ≤ max (0 + (m.log2 : Int) - ((52 : Nat) : Int)) (-1074) := by omega
  generalize max (0 + (m.log2 : Int) - ((52 : Nat) : Int)) (-1074) = last at hlast ⊢
  generalize Ieee.Toward.even.cut false (m <<< ((0 : Int) - last).toNat) (last - 0).toNat = kept
  have hz : 1 ≤ (last - (-1074)).toNat := by omega
  have hz2 : 1 * 4503599627370496 ≤ (last - (-1074)).toNat * 4503599627370496 := Nat.mul_le_mul_right _ hz
  intro h
  have h3 : min ((last - (-1074)).toNat * 4503599627370496 + kept) 9218868437227405312 ≥ 1 := Nat.le_min.2 ⟨Nat.le_trans (Nat.le_trans (by decide : 1 ≤ 1 * 4503599627370496) hz2) (Nat.le_add_right _ _), by decide⟩
  exact absurd h (Nat.ne_of_gt h3)
theorem int_gt {I : Int} (h0 : 0 < I) (h1 : I < 9223372036854775808) : FloatKind.f64.format.order (floatOfInt .f64 I) 0 = some .gt := by
  have hF := int_pos h0 h1
  rcases order_pos (Nat.le_of_lt hF) with h | h
  · exact h
  · rcases (order_zero (int_lt I)).2 h with h2 | h2
    · exact absurd h2 (int_ne h0)
    · omega
theorem int_le {I : Int} (h : I ≤ 0) : FloatKind.f64.format.order (floatOfInt .f64 I) 0 ≠ some .gt := by
  rcases Int.lt_or_eq_of_le h with h1 | h1
  · intro hg
    have h2 := (order_zero (int_lt I)).1 hg
    have hd : decide (I < 0) = true := decide_eq_true h1
    have h3 : floatOfInt .f64 I = Ieee.double.nearest true I.natAbs 0 := by
      show Ieee.double.nearest (decide (I < 0)) I.natAbs 0 = _
      rw [hd]
    rw [h3] at h2
    obtain ⟨d1, d2, d3, d4, d5⟩ := dbl_facts
    unfold Ieee.Format.nearest at h2
    have hw : ∀ r, 9223372036854775808 ≤ Ieee.double.word true r := fun r => by
      unfold Ieee.Format.word
      rw [if_pos rfl, d1]
      exact Nat.le_add_right _ _
    split at h2
    · have := hw 0; omega
    · have := hw (min ((max (0 + (I.natAbs.log2 : Int) - (Ieee.double.fractionBits : Int)) Ieee.double.leastPlace - Ieee.double.leastPlace).toNat * Ieee.double.binade + Ieee.Toward.even.cut true (I.natAbs <<< ((0 : Int) - max (0 + (I.natAbs.log2 : Int) - (Ieee.double.fractionBits : Int)) Ieee.double.leastPlace).toNat) (max (0 + (I.natAbs.log2 : Int) - (Ieee.double.fractionBits : Int)) Ieee.double.leastPlace - 0).toNat) Ieee.double.infRung)
      exact absurd (Nat.le_trans this h2) (by decide)
  · subst h1
    decide +kernel
theorem amt_iff {K I : Int} {F : Nat} (hK : isNum K = true) (hF : F < 2 ^ 64) (hi : okI I) : (finV K F = false ∨ signV K I F ≤ 0) ↔ ¬ (FloatKind.f64.format.order (asF K I F) 0 = some .gt ∧ asF K I F < 9218868437227405312) := by
  by_cases h2 : (K == 2) = true
  · have hk : K = 2 := by simpa using h2
    subst hk
    show (finV 2 F = false ∨ signF F ≤ 0) ↔ ¬ (FloatKind.f64.format.order F 0 = some .gt ∧ F < 9218868437227405312)
    have hsg : signF F ≤ 0 ↔ FloatKind.f64.format.order F 0 ≠ some .gt := by
      unfold signF
      cases ho : FloatKind.f64.format.order F 0 with
      | none => simp
      | some o => cases o <;> simp
    rw [hsg]
    constructor
    · rintro (h | h) ⟨h3, h4⟩
      · rw [fin_pos h4] at h; cases h
      · exact h h3
    · intro h
      by_cases hg : FloatKind.f64.format.order F 0 = some .gt
      · refine Or.inl ?_
        have hle := (order_zero hF).1 hg
        cases hf : finV 2 F
        · rfl
        · exact absurd ⟨hg, fin_le hle hf⟩ h
      · exact Or.inr hg
  · have h1 : (K == 1) = true := by
      unfold isNum at hK
      rw [Bool.or_eq_true] at hK
      rcases hK with h | h
      · exact h
      · exact absurd h h2
    have hk : K = 1 := by simpa using h1
    subst hk
    show (finV 1 F = false ∨ signI I ≤ 0) ↔ ¬ (FloatKind.f64.format.order (floatOfInt .f64 I) 0 = some .gt ∧ floatOfInt .f64 I < 9218868437227405312)
    have hfv : finV 1 F = true := rfl
    unfold okI at hi
    constructor
    · rintro (h | h) ⟨h3, _⟩
      · rw [hfv] at h; cases h
      · have hI : I ≤ 0 := by
          unfold signI at h
          by_cases c : I < 0
          · omega
          · rw [if_neg c] at h
            by_cases c2 : 0 < I
            · rw [if_pos c2] at h; omega
            · omega
        exact int_le hI h3
    · intro h
      refine Or.inr ?_
      by_cases c : 0 < I
      · exact absurd ⟨int_gt c (by omega), int_pos c (by omega)⟩ h
      · unfold signI
        by_cases c2 : I < 0
        · rw [if_pos c2]; omega
        · rw [if_neg c2, if_neg c]; omega
end Num
end Go.Proofs.YtpbfaffheigjcaaGreat
