/-
  Package counter: add.
-/
import Derived.Test.YtmhogdigkdcnfaaRDa
import Derived.Test.YtmhogdigkdcnfaaNB
import Derived.Test.YtmhogdigkdcnfaaHQ
import Derived.RegionTactic
namespace Go.Proofs.Ytmhogdigkdcnfaa
open Go.RowKit
namespace Num
open Ints
set_option linter.unusedSimpArgs false
set_option linter.unusedVariables false
/-- A list of two leaves in a block of its own. -/
theorem two_new (S : Nat → Prop) (w : World) (n b : Nat) (K I : Int) (F : Nat) (Z : ByteArray) (hK : okI K) (hI : okI I) (hF : F < 2 ^ 64) (hZ : Z.size ≤ maxLen) (K2 I2 : Int) (F2 : Nat) (Z2 : ByteArray) (hK2 : okI K2) (hI2 : okI I2) (hF2 : F2 < 2 ^ 64) (hZ2 : Z2.size ≤ maxLen) (hS : S b)
    (hr : w.heap[b]? = some (.cells #[.int .i64 K, .int .i64 I, .float .f64 F, .string Z, .slice none 0 0, .int .i64 K2, .int .i64 I2, .float .f64 F2, .string Z2, .slice none 0 0] 27 (0, 0))) :
    RepS S w (n + 2) (.agg #[.int .i64 4, .int .i64 0, .float .f64 0, .string ⟨#[]⟩, .slice (some ⟨b, 0, none⟩) 2 2]) (4, 0, 0, ⟨#[]⟩, [(K, I, F, Z, []), (K2, I2, F2, Z2, [])]) := by
  refine ⟨some ⟨b, 0, none⟩, 2, 2, rfl, (by decide : okI 4), (by decide : okI 0), (by decide : (0 : Nat) < 2 ^ 64), (by decide : (⟨#[]⟩ : ByteArray).size ≤ maxLen), rfl, Nat.le_refl _, by unfold maxLen; omega, fun _ => ⟨b, 0, rfl, hS, ⟨_, hr⟩, fun _ => 0, fun i hi => ?_⟩⟩
  have hi' : i = 0 ∨ i = 1 := by simp at hi; omega
  rcases hi' with rfl | rfl
  · exact ⟨_, _, _, _, _, row_cell hr 0, row_cell hr 1, row_cell hr 2, row_cell hr 3, row_cell hr 4, leafC _ _ n K I F Z hK hI hF hZ⟩
  · exact ⟨_, _, _, _, _, row_cell hr 5, row_cell hr 6, row_cell hr 7, row_cell hr 8, row_cell hr 9, leafC _ _ n K2 I2 F2 Z2 hK2 hI2 hF2 hZ2⟩
set_option maxRecDepth 100000 in
set_option maxHeartbeats 4000000 in
theorem cadd_bad (K1 I1 : Int) (F1 : Nat) (S1 : ByteArray) (u1 : Option Addr) (l1 c1 : Nat) (K2 I2 : Int) (F2 : Nat) (S2 : ByteArray) (u2 : Option Addr) (l2 c2 : Nat) (K3 I3 : Int) (F3 : Nat) (S3 : ByteArray) (u3 : Option Addr) (l3 c3 : Nat) (n : Nat) (w : World) (h1 : okI I1) (hq : opV 0 K1 I1 F1 1 1 0 = (0, 0, 0, 35)) :
    Calls Try.prog 47 #[.agg #[.int .i64 K1, .int .i64 I1, .float .f64 F1, .string S1, .slice u1 l1 c1], .agg #[.int .i64 K2, .int .i64 I2, .float .f64 F2, .string S2, .slice u2 l2 c2], .agg #[.int .i64 K3, .int .i64 I3, .float .f64 F3, .string S3, .slice u3 l3 c3]] w fun e w' => DoP w (n + 1) (nilT n) (nilT n) 35 e w' := by
  have H1 := Lib.hid (fun W => add_any K1 I1 F1 S1 u1 l1 c1 1 1 0 ⟨#[]⟩ none 0 0 W h1 (by decide) hq)
  clear h1 hq
  obtain ⟨oa, hoa⟩ : ∃ o, Obj.cells #[.int .i64 K1, .int .i64 I1, .float .f64 F1, .string S1, .slice u1 l1 c1] 27 = o := ⟨_, rfl⟩
  obtain ⟨ob, hob⟩ : ∃ o, Obj.cells #[.int .i64 K2, .int .i64 I2, .float .f64 F2, .string S2, .slice u2 l2 c2] 27 = o := ⟨_, rfl⟩
  obtain ⟨oc, hoc⟩ : ∃ o, Obj.cells #[.int .i64 K3, .int .i64 I3, .float .f64 F3, .string S3, .slice u3 l3 c3] 27 = o := ⟨_, rfl⟩
  obtain ⟨oz, hoz⟩ : ∃ o, Obj.cells #[.int .i64 0, .int .i64 0, .float .f64 0, .string ⟨#[]⟩, .slice none 0 0] 27 = o := ⟨_, rfl⟩
  have HB := Lib.hid (bel_alloc (bel_alloc (bel_alloc (bel_alloc (bel_alloc (Below.refl w.heap.size w) oa) ob) oc) oz) oz)
  have r3 := row_alloc_step (row_alloc (((w.alloc oa).alloc ob).alloc oc) #[.int .i64 0, .int .i64 0, .float .f64 0, .string ⟨#[]⟩, .slice none 0 0] 27) oz
  rw [hoz] at r3
  have r4 := row_alloc ((((w.alloc oa).alloc ob).alloc oc).alloc oz) #[.int .i64 0, .int .i64 0, .float .f64 0, .string ⟨#[]⟩, .slice none 0 0] 27
  rw [hoz] at r4
  simp only [World.size_alloc] at r3 r4
  have HR3 := Lib.hid r3
  have HR4 := Lib.hid r4
  subst hoa hob hoc hoz
  clear r3 r4
  go_enter Try.func47, Try.ntmps47
  go_wp2_with fail
  go_at_call 76; refine (H1.out _).mono ?_; rintro e w1 ⟨rfl, hb1⟩
  have HB1 := Lib.hid (bel_step HB.out hb1)
  have x6 := row_step HR3.out hb1
  have x7 := row_step HR4.out hb1
  have p0 := row_cell x6 0; have p1 := row_cell x6 1; have p2 := row_cell x6 2; have p3 := row_cell x6 3; have p4 := row_cell x6 4
  have s0 := row_cell x7 0; have s1 := row_cell x7 1; have s2 := row_cell x7 2; have s3 := row_cell x7 3; have s4 := row_cell x7 4
  simp only [List.getElem?_toArray, List.getElem?_cons_zero, List.getElem?_cons_succ] at p0 p1 p2 p3 p4 s0 s1 s2 s3 s4
  have f6 := fun o => row_frz x6 o
  have f7 := fun o => row_frz x7 o
  have l6 := row_lt x6
  have l7 := row_lt x7
  have n6 : w1.heap.size ≠ w.heap.size + 1 + 1 + 1 := by omega
  have n7 : w1.heap.size ≠ w.heap.size + 1 + 1 + 1 + 1 := by omega
  clear hb1 x6 x7 HB HR3 HR4 H1
  go_wp2
  refine bodyPost_ret (v := .tuple #[.agg #[.int .i64 0, .int .i64 0, .float .f64 0, .string ⟨#[]⟩, .slice none 0 0], .agg #[.int .i64 0, .int .i64 0, .float .f64 0, .string ⟨#[]⟩, .slice none 0 0], .int .i64 35]) (by simp [results, Try.results47, go_sem, World.cell?_setCell_same, World.cell?_setCell_other, World.cell?_alloc_old, Ne.symm n6, Ne.symm n7, p0, p1, p2, p3, p4, s0, s1, s2, s3, s4]) rfl ⟨_, _, rfl, ?_, nil_rep _ _ _, nil_rep _ _ _⟩
  exact bel_alloc (set5_below (g := w.heap.size + 1 + 1 + 1 + 1) (o := 0) (set5_below (g := w.heap.size + 1 + 1 + 1) (o := 0) HB1.out (by omega) _ _ _ _ _) (by omega) _ _ _ _ _) _
set_option maxRecDepth 100000 in
set_option maxHeartbeats 4000000 in
theorem cadd_ok (K1 I1 : Int) (F1 : Nat) (S1 : ByteArray) (u1 : Option Addr) (l1 c1 : Nat) (K2 I2 : Int) (F2 : Nat) (S2 : ByteArray) (u2 : Option Addr) (l2 c2 : Nat) (K3 I3 : Int) (F3 : Nat) (S3 : ByteArray) (u3 : Option Addr) (l3 c3 : Nat) (n : Nat) (w : World) (h1 : okI I1) (h2 : okI I2) (h3 : okI I3) {k i : Int} {f : Nat} {k2 i2 : Int} {f2 : Nat} {e2 : Int} (hq : opV 0 K1 I1 F1 1 1 0 = (k, i, f, 0)) (hq2 : opV 0 K2 I2 F2 K3 I3 F3 = (k2, i2, f2, e2)) (hk : okI k) (hi : okI i) (hf : f < 2 ^ 64) (hk2 : okI k2) (hi2 : okI i2) (hf2 : f2 < 2 ^ 64) :
    Calls Try.prog 47 #[.agg #[.int .i64 K1, .int .i64 I1, .float .f64 F1, .string S1, .slice u1 l1 c1], .agg #[.int .i64 K2, .int .i64 I2, .float .f64 F2, .string S2, .slice u2 l2 c2], .agg #[.int .i64 K3, .int .i64 I3, .float .f64 F3, .string S3, .slice u3 l3 c3]] w fun e w' => DoP w (n + 2) (4, 0, 0, ⟨#[]⟩, [(k, i, f, ⟨#[]⟩, []), (k2, i2, f2, ⟨#[]⟩, [])]) (k2, i2, f2, ⟨#[]⟩, []) 0 e w' := by
  have H1 := Lib.hid (fun W => add_any K1 I1 F1 S1 u1 l1 c1 1 1 0 ⟨#[]⟩ none 0 0 W h1 (by decide) hq)
  have H2 := Lib.hid (fun W => add_any K2 I2 F2 S2 u2 l2 c2 K3 I3 F3 S3 u3 l3 c3 W h2 h3 hq2)
  have HH := Lib.hid (show okI k ∧ okI i ∧ f < 2 ^ 64 ∧ okI k2 ∧ okI i2 ∧ f2 < 2 ^ 64 from ⟨hk, hi, hf, hk2, hi2, hf2⟩)
  clear h1 h2 h3 hq hq2 hk hi hf hk2 hi2 hf2
  obtain ⟨oa, hoa⟩ : ∃ o, Obj.cells #[.int .i64 K1, .int .i64 I1, .float .f64 F1, .string S1, .slice u1 l1 c1] 27 = o := ⟨_, rfl⟩
  obtain ⟨ob, hob⟩ : ∃ o, Obj.cells #[.int .i64 K2, .int .i64 I2, .float .f64 F2, .string S2, .slice u2 l2 c2] 27 = o := ⟨_, rfl⟩
  obtain ⟨oc, hoc⟩ : ∃ o, Obj.cells #[.int .i64 K3, .int .i64 I3, .float .f64 F3, .string S3, .slice u3 l3 c3] 27 = o := ⟨_, rfl⟩
  obtain ⟨oz, hoz⟩ : ∃ o, Obj.cells #[.int .i64 0, .int .i64 0, .float .f64 0, .string ⟨#[]⟩, .slice none 0 0] 27 = o := ⟨_, rfl⟩
  have HB := Lib.hid (bel_alloc (bel_alloc (bel_alloc (bel_alloc (bel_alloc (Below.refl w.heap.size w) oa) ob) oc) oz) oz)
  have r1 := row_alloc_step (row_alloc_step (row_alloc_step (row_alloc (w.alloc oa) #[.int .i64 K2, .int .i64 I2, .float .f64 F2, .string S2, .slice u2 l2 c2] 27) oc) oz) oz
  rw [hob] at r1
  have r2 := row_alloc_step (row_alloc_step (row_alloc ((w.alloc oa).alloc ob) #[.int .i64 K3, .int .i64 I3, .float .f64 F3, .string S3, .slice u3 l3 c3] 27) oz) oz
  rw [hoc] at r2
  have r3 := row_alloc_step (row_alloc (((w.alloc oa).alloc ob).alloc oc) #[.int .i64 0, .int .i64 0, .float .f64 0, .string ⟨#[]⟩, .slice none 0 0] 27) oz
  rw [hoz] at r3
  have r4 := row_alloc ((((w.alloc oa).alloc ob).alloc oc).alloc oz) #[.int .i64 0, .int .i64 0, .float .f64 0, .string ⟨#[]⟩, .slice none 0 0] 27
  rw [hoz] at r4
  simp only [World.size_alloc] at r1 r2 r3 r4
  have HR1 := Lib.hid r1
  have HR2 := Lib.hid r2
  have HR3 := Lib.hid r3
  have HR4 := Lib.hid r4
  subst hoa hob hoc hoz
  clear r1 r2 r3 r4
  go_enter Try.func47, Try.ntmps47
  go_wp2_with fail
  go_at_call 76; refine (H1.out _).mono ?_; rintro e w1 ⟨rfl, hb1⟩
  have HB1 := Lib.hid (bel_alloc (bel_step HB.out hb1) (.cells #[.int .i64 k, .int .i64 i, .float .f64 f, .string ⟨#[]⟩, .slice none 0 0] 27))
  have x1 := row_step HR1.out hb1
  have x2 := row_step HR2.out hb1
  have HR31 := Lib.hid (row_alloc_step (row_step HR3.out hb1) (.cells #[.int .i64 k, .int .i64 i, .float .f64 f, .string ⟨#[]⟩, .slice none 0 0] 27))
  have HR41 := Lib.hid (row_alloc_step (row_step HR4.out hb1) (.cells #[.int .i64 k, .int .i64 i, .float .f64 f, .string ⟨#[]⟩, .slice none 0 0] 27))
  have HRM := Lib.hid (row_alloc w1 #[.int .i64 k, .int .i64 i, .float .f64 f, .string ⟨#[]⟩, .slice none 0 0] 27)
  have p0 := row_cell x1 0; have p1 := row_cell x1 1; have p2 := row_cell x1 2; have p3 := row_cell x1 3; have p4 := row_cell x1 4
  have s0 := row_cell x2 0; have s1 := row_cell x2 1; have s2 := row_cell x2 2; have s3 := row_cell x2 3; have s4 := row_cell x2 4
  simp only [List.getElem?_toArray, List.getElem?_cons_zero, List.getElem?_cons_succ] at p0 p1 p2 p3 p4 s0 s1 s2 s3 s4
  have l1 := row_lt x1
  have l2 := row_lt x2
  have n1 : w1.heap.size ≠ w.heap.size + 1 := by omega
  have n2 : w1.heap.size ≠ w.heap.size + 1 + 1 := by omega
  clear hb1 x1 x2 HB HR1 HR2 HR3 HR4 H1
  go_wp2_with fail
  go_at_call 76; refine (H2.out _).mono ?_; rintro e w2 ⟨rfl, hb2⟩
  have HB2 := Lib.hid (bel_step HB1.out hb2)
  have x6 := row_step HR31.out hb2
  have x7 := row_step HR41.out hb2
  have x8 := row_step HRM.out hb2
  clear p0 p1 p2 p3 p4 s0 s1 s2 s3 s4
  have p0 := row_cell x6 0; have p1 := row_cell x6 1; have p2 := row_cell x6 2; have p3 := row_cell x6 3; have p4 := row_cell x6 4
  have s0 := row_cell x7 0; have s1 := row_cell x7 1; have s2 := row_cell x7 2; have s3 := row_cell x7 3; have s4 := row_cell x7 4
  have q0 := row_cell x8 0; have q1 := row_cell x8 1; have q2 := row_cell x8 2; have q3 := row_cell x8 3; have q4 := row_cell x8 4
  simp only [List.getElem?_toArray, List.getElem?_cons_zero, List.getElem?_cons_succ] at p0 p1 p2 p3 p4 s0 s1 s2 s3 s4 q0 q1 q2 q3 q4
  have f6 := fun o => row_frz x6 o
  have f7 := fun o => row_frz x7 o
  have l6 := row_lt x6
  have l7 := row_lt x7
  have l8 := row_lt x8
  have n6 : w2.heap.size ≠ w.heap.size + 1 + 1 + 1 := by omega
  have n7 : w2.heap.size ≠ w.heap.size + 1 + 1 + 1 + 1 := by omega
  have n8 : w2.heap.size ≠ w1.heap.size := by omega
  have m6 : w2.heap.size + 1 ≠ w.heap.size + 1 + 1 + 1 := by omega
  have m7 : w2.heap.size + 1 ≠ w.heap.size + 1 + 1 + 1 + 1 := by omega
  have k6 : w.heap.size + 1 + 1 + 1 < w2.heap.size + 1 := by omega
  have k7 : w.heap.size + 1 + 1 + 1 + 1 < w2.heap.size + 1 := by omega
  clear hb2 x6 x7 x8 HB1 HR31 HR41 HRM H2 l1 l2 n1 n2
  go_wp2
  go_region
  all_goals go_wp2
  have j6 : ¬ w.heap.size + 1 + 1 = w2.heap.size := by omega
  have j7 : ¬ w.heap.size + 1 + 1 + 1 = w2.heap.size := by omega
  have j8 : ¬ w.heap.size + 1 + 1 + 1 + 1 = w2.heap.size := by omega
  refine bodyPost_ret (v := .tuple #[.agg #[.int .i64 4, .int .i64 0, .float .f64 0, .string ⟨#[]⟩, .slice (some ⟨w2.heap.size + 1, 0, none⟩) 2 2], .agg #[.int .i64 k2, .int .i64 i2, .float .f64 f2, .string ⟨#[]⟩, .slice none 0 0], .int .i64 0]) (by simp [results, Try.results47, go_sem, World.cell?_setCell_same, World.cell?_setCell_other, World.cell?_alloc_old, j6, j7, j8, p0, p1, p2, p3, p4, s0, s1, s2, s3, s4]) rfl ⟨_, _, rfl, ?_, ?_, ?_⟩
  · exact Below.drew (bel_alloc (bel_alloc (set5_below (g := w.heap.size + 1 + 1 + 1 + 1) (o := 0) (set5_below (g := w.heap.size + 1 + 1 + 1) (o := 0) HB2.out (by omega) _ _ _ _ _) (by omega) _ _ _ _ _) _) _)
  · obtain ⟨g1, g2, g3, g4, g5, g6⟩ := HH.out
    refine two_new _ _ n (w2.heap.size + 1) k i f ⟨#[]⟩ g1 g2 g3 (by decide) k2 i2 f2 ⟨#[]⟩ g4 g5 g6 (by decide) (by omega) ?_
    have hr := row_alloc ((set5 (set5 w2 (w.heap.size + 1 + 1 + 1) 0 (.int .i64 4) (.int .i64 0) (.float .f64 0) (.string ⟨#[]⟩) (.slice (some ⟨w2.heap.size + 1, 0, none⟩) 2 2)) (w.heap.size + 1 + 1 + 1 + 1) 0 (.int .i64 k2) (.int .i64 i2) (.float .f64 f2) (.string ⟨#[]⟩) (.slice none 0 0)).alloc (.cells #[.int .i64 k2, .int .i64 i2, .float .f64 f2, .string ⟨#[]⟩, .slice none 0 0] 27)) #[.int .i64 k, .int .i64 i, .float .f64 f, .string ⟨#[]⟩, .slice none 0 0, .int .i64 k2, .int .i64 i2, .float .f64 f2, .string ⟨#[]⟩, .slice none 0 0] 27
    rw [World.size_alloc, set5_size, set5_size] at hr
    exact hr
  · obtain ⟨g1, g2, g3, g4, g5, g6⟩ := HH.out
    exact leafC _ _ _ k2 i2 f2 ⟨#[]⟩ g4 g5 g6 (by decide)
end Num
end Go.Proofs.Ytmhogdigkdcnfaa
