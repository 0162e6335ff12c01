/-
  NumInts: Ints are reckoned exactly, and refused just where there is none such: the call returns true at any two numbers.
-/
import Derived.Test.YtkodgfhpbpefdaaKnown
import Derived.Test.YtkodgfhpbpefdaaSame0
import Derived.Test.YtkodgfhpbpefdaaLMixBase
namespace Go.Proofs.Ytkodgfhpbpefdaa
open Go.RowKit
namespace Num
open Ints
set_option linter.unusedSimpArgs false
set_option linter.unusedVariables false
set_option maxHeartbeats 4000000 in
theorem numInts_calls (a b : Int) (wa : (Lit.int .i64 a).wf = true) (wb : (Lit.int .i64 b).wf = true) (w : World) : Calls Try.prog 4 #[.int .i64 a, .int .i64 b] w fun e w' => e = .returned (.bool true) ∧ Below w.heap.size w w' := by
  have Ha := Lib.hid (int_ok_of_wf wa)
  have Hb := Lib.hid (int_ok_of_wf wb)
  clear wa wb
  go_enter Try.func4, Try.ntmps4
  go_wp2_with fail
  go_at_call 10; refine (known_any _).mono ?_; rintro e w0 ⟨rfl, hb0⟩
  go_wp2
  go_loopw [17] (fun i wr => ∃ k : Nat, k ≤ 4 ∧ i = .int .i64 k ∧ Below w.heap.size w wr ∧ wr.heap[w0.heap.size]? = some (.cells #[.int .u8 43, .int .u8 45, .int .u8 42, .int .u8 47] 5 (0, 0))) (fun i _ => 4 - (intOf i).toNat)
  case atStart => exact ⟨0, by omega, rfl, bel_alloc hb0 _, row_alloc _ _ _⟩
  case round =>
    obtain ⟨k, hk, rfl, hB, RS⟩ := hrel
    have s0 := row_cell RS 0
    have s1 := row_cell RS 1
    have s2 := row_cell RS 2
    have s3 := row_cell RS 3
    simp only [List.getElem?_toArray, List.getElem?_cons_zero, List.getElem?_cons_succ] at s0 s1 s2 s3
    have HB := Lib.hid hB
    have HRS := Lib.hid RS
    clear hB RS hb0
    obtain rfl | rfl | rfl | rfl | rfl : k = 0 ∨ k = 1 ∨ k = 2 ∨ k = 3 ∨ k = 4 := by omega
    · obtain ⟨K, R⟩ : ∃ K, K = opV 0 1 a 0 1 b 0 := ⟨_, rfl⟩
      obtain ⟨K, N, D, E⟩ := K
      have HQ := Lib.hid R.symm
      clear R
      go_wp2_with fail
      go_at_call 18; refine (int_ref_any _ _).mono ?_; rintro e w1 ⟨rfl, hb1⟩
      go_wp2_with fail
      go_at_call 18; refine (int_ref_any _ _).mono ?_; rintro e w2 ⟨rfl, hb2⟩
      go_wp2_with fail
      go_at_call 12; refine (add_any _ _ _ _ _ _ _ _ _ _ _ _ _ _ _ Ha.out Hb.out HQ.out).mono ?_; rintro e w3 ⟨rfl, hb3⟩
      obtain ⟨hB3, hz3, hy3, hx3, m0, m1, m2, m3, m4, m5, m6, m7, m8, m9, m10, m11, m12, m13, m14, fr0, fr1, fr2⟩ := three _ _ _ _ _ _ _ _ _ _ _ _ _ _ _ _ hb3 (Below.refl _ _)
      have HB3 := Lib.hid (bel_step (bel_step hb1 hb2) hB3)
      have q1 := hb1.size
      have q2 := hb2.size
      have hw : w2.heap.size ≤ w3.heap.size := by omega
      clear hb1 hb2 hb3 hB3
      go_wp2_with fail
      go_at_call 13; refine (refOp0_any _ _ _ _ _ _ _ _ _ _ _ _ _ _ _ Ha.out Hb.out HQ.out).mono ?_; rintro e w4 ⟨rfl, hb4⟩
      obtain ⟨hc4, hf4⟩ := bcell hb4
      have hz4 : w2.heap.size + 1 + 1 < w4.heap.size := by have := hb4.size; (try simp at this); omega
      have hn4 : w4.heap.size ≠ w2.heap.size + 1 + 1 := by omega
      go_wp2_with fail
      go_at_call 14; refine (same_shallow _ _ _ _).mono ?_; rintro e w5 ⟨rfl, hb5⟩
      have HX : Below wr.heap.size wr w5 := bel_step (bel_alloc (bel_step (below5 HB3.out (by omega) _ _ _ _ _) hb4) _) hb5
      have HR5 := row_step HRS.out HX
      have HB5 := bel_step HB.out HX
      have HB6 := Lib.hid HB5
      have HR6 := Lib.hid HR5
      clear HX HR5 HB5 hc4 hf4 hz4 hn4 hb5 hb4 HRS HB HB3
      go_wp2
      go_roundw
      case rel => exact ⟨0 + 1, by omega, by go_num, HB6.out, HR6.out⟩
      case measure => simp [intOf]
    · obtain ⟨K, R⟩ : ∃ K, K = opV 1 1 a 0 1 b 0 := ⟨_, rfl⟩
      obtain ⟨K, N, D, E⟩ := K
      have HQ := Lib.hid R.symm
      clear R
      go_wp2_with fail
      go_at_call 18; refine (int_ref_any _ _).mono ?_; rintro e w1 ⟨rfl, hb1⟩
      go_wp2_with fail
      go_at_call 18; refine (int_ref_any _ _).mono ?_; rintro e w2 ⟨rfl, hb2⟩
      go_wp2_with fail
      go_at_call 15; refine (sub_any _ _ _ _ _ _ _ _ _ _ _ _ _ _ _ Ha.out Hb.out HQ.out).mono ?_; rintro e w3 ⟨rfl, hb3⟩
      obtain ⟨hB3, hz3, hy3, hx3, m0, m1, m2, m3, m4, m5, m6, m7, m8, m9, m10, m11, m12, m13, m14, fr0, fr1, fr2⟩ := three _ _ _ _ _ _ _ _ _ _ _ _ _ _ _ _ hb3 (Below.refl _ _)
      have HB3 := Lib.hid (bel_step (bel_step hb1 hb2) hB3)
      have q1 := hb1.size
      have q2 := hb2.size
      have hw : w2.heap.size ≤ w3.heap.size := by omega
      clear hb1 hb2 hb3 hB3
      go_wp2_with fail
      go_at_call 13; refine (refOp1_any _ _ _ _ _ _ _ _ _ _ _ _ _ _ _ Ha.out Hb.out HQ.out).mono ?_; rintro e w4 ⟨rfl, hb4⟩
      obtain ⟨hc4, hf4⟩ := bcell hb4
      have hz4 : w2.heap.size + 1 + 1 < w4.heap.size := by have := hb4.size; (try simp at this); omega
      have hn4 : w4.heap.size ≠ w2.heap.size + 1 + 1 := by omega
      go_wp2_with fail
      go_at_call 14; refine (same_shallow _ _ _ _).mono ?_; rintro e w5 ⟨rfl, hb5⟩
      have HX : Below wr.heap.size wr w5 := bel_step (bel_alloc (bel_step (below5 HB3.out (by omega) _ _ _ _ _) hb4) _) hb5
      have HR5 := row_step HRS.out HX
      have HB5 := bel_step HB.out HX
      have HB6 := Lib.hid HB5
      have HR6 := Lib.hid HR5
      clear HX HR5 HB5 hc4 hf4 hz4 hn4 hb5 hb4 HRS HB HB3
      go_wp2
      go_roundw
      case rel => exact ⟨1 + 1, by omega, by go_num, HB6.out, HR6.out⟩
      case measure => simp [intOf]
    · obtain ⟨K, R⟩ : ∃ K, K = opV 2 1 a 0 1 b 0 := ⟨_, rfl⟩
      obtain ⟨K, N, D, E⟩ := K
      have HQ := Lib.hid R.symm
      clear R
      go_wp2_with fail
      go_at_call 18; refine (int_ref_any _ _).mono ?_; rintro e w1 ⟨rfl, hb1⟩
      go_wp2_with fail
      go_at_call 18; refine (int_ref_any _ _).mono ?_; rintro e w2 ⟨rfl, hb2⟩
      go_wp2_with fail
      go_at_call 16; refine (mul_any _ _ _ _ _ _ _ _ _ _ _ _ _ _ _ Ha.out Hb.out HQ.out).mono ?_; rintro e w3 ⟨rfl, hb3⟩
      obtain ⟨hB3, hz3, hy3, hx3, m0, m1, m2, m3, m4, m5, m6, m7, m8, m9, m10, m11, m12, m13, m14, fr0, fr1, fr2⟩ := three _ _ _ _ _ _ _ _ _ _ _ _ _ _ _ _ hb3 (Below.refl _ _)
      have HB3 := Lib.hid (bel_step (bel_step hb1 hb2) hB3)
      have q1 := hb1.size
      have q2 := hb2.size
      have hw : w2.heap.size ≤ w3.heap.size := by omega
      clear hb1 hb2 hb3 hB3
      go_wp2_with fail
      go_at_call 13; refine (refOp2_any _ _ _ _ _ _ _ _ _ _ _ _ _ _ _ Ha.out Hb.out HQ.out).mono ?_; rintro e w4 ⟨rfl, hb4⟩
      obtain ⟨hc4, hf4⟩ := bcell hb4
      have hz4 : w2.heap.size + 1 + 1 < w4.heap.size := by have := hb4.size; (try simp at this); omega
      have hn4 : w4.heap.size ≠ w2.heap.size + 1 + 1 := by omega
      go_wp2_with fail
      go_at_call 14; refine (same_shallow _ _ _ _).mono ?_; rintro e w5 ⟨rfl, hb5⟩
      have HX : Below wr.heap.size wr w5 := bel_step (bel_alloc (bel_step (below5 HB3.out (by omega) _ _ _ _ _) hb4) _) hb5
      have HR5 := row_step HRS.out HX
      have HB5 := bel_step HB.out HX
      have HB6 := Lib.hid HB5
      have HR6 := Lib.hid HR5
      clear HX HR5 HB5 hc4 hf4 hz4 hn4 hb5 hb4 HRS HB HB3
      go_wp2
      go_roundw
      case rel => exact ⟨2 + 1, by omega, by go_num, HB6.out, HR6.out⟩
      case measure => simp [intOf]
    · obtain ⟨K, R⟩ : ∃ K, K = opV 3 1 a 0 1 b 0 := ⟨_, rfl⟩
      obtain ⟨K, N, D, E⟩ := K
      have HQ := Lib.hid R.symm
      clear R
      go_wp2_with fail
      go_at_call 18; refine (int_ref_any _ _).mono ?_; rintro e w1 ⟨rfl, hb1⟩
      go_wp2_with fail
      go_at_call 18; refine (int_ref_any _ _).mono ?_; rintro e w2 ⟨rfl, hb2⟩
      go_wp2_with fail
      go_at_call 17; refine (div_any _ _ _ _ _ _ _ _ _ _ _ _ _ _ _ Ha.out Hb.out HQ.out).mono ?_; rintro e w3 ⟨rfl, hb3⟩
      obtain ⟨hB3, hz3, hy3, hx3, m0, m1, m2, m3, m4, m5, m6, m7, m8, m9, m10, m11, m12, m13, m14, fr0, fr1, fr2⟩ := three _ _ _ _ _ _ _ _ _ _ _ _ _ _ _ _ hb3 (Below.refl _ _)
      have HB3 := Lib.hid (bel_step (bel_step hb1 hb2) hB3)
      have q1 := hb1.size
      have q2 := hb2.size
      have hw : w2.heap.size ≤ w3.heap.size := by omega
      clear hb1 hb2 hb3 hB3
      go_wp2_with fail
      go_at_call 13; refine (refOp3_any _ _ _ _ _ _ _ _ _ _ _ _ _ _ _ Ha.out Hb.out HQ.out).mono ?_; rintro e w4 ⟨rfl, hb4⟩
      obtain ⟨hc4, hf4⟩ := bcell hb4
      have hz4 : w2.heap.size + 1 + 1 < w4.heap.size := by have := hb4.size; (try simp at this); omega
      have hn4 : w4.heap.size ≠ w2.heap.size + 1 + 1 := by omega
      go_wp2_with fail
      go_at_call 14; refine (same_shallow _ _ _ _).mono ?_; rintro e w5 ⟨rfl, hb5⟩
      have HX : Below wr.heap.size wr w5 := bel_step (bel_alloc (bel_step (below5 HB3.out (by omega) _ _ _ _ _) hb4) _) hb5
      have HR5 := row_step HRS.out HX
      have HB5 := bel_step HB.out HX
      have HB6 := Lib.hid HB5
      have HR6 := Lib.hid HR5
      clear HX HR5 HB5 hc4 hf4 hz4 hn4 hb5 hb4 HRS HB HB3
      go_wp2
      go_roundw
      case rel => exact ⟨3 + 1, by omega, by go_num, HB6.out, HR6.out⟩
      case measure => simp [intOf]
    · go_wp2
      go_ret
      exact ⟨rfl, HB.out⟩
end Num
end Go.Proofs.Ytkodgfhpbpefdaa
