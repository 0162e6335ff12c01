/-
  Package num's Add, Sub, Mul, Div, and the reference's operation: both come to one value and one error.
-/
import Derived.Test.YtkodgfhpbpefdaaOp0
import Derived.Test.YtkodgfhpbpefdaaOp1
import Derived.Test.YtkodgfhpbpefdaaOp2
import Derived.Test.YtkodgfhpbpefdaaOp3
import Derived.Test.YtkodgfhpbpefdaaRop0
import Derived.Test.YtkodgfhpbpefdaaRop1
import Derived.Test.YtkodgfhpbpefdaaRop2
import Derived.Test.YtkodgfhpbpefdaaRop3
namespace Go.Proofs.Ytkodgfhpbpefdaa
open Go.RowKit
namespace Num
set_option linter.unusedSimpArgs false
set_option linter.unusedVariables false
open Ints
theorem one_of_two {K : Int} (h : (K == 2) = true) : (K == 1) = false := by
  have : K = 2 := by simpa using h
  subst this; rfl
theorem one_of_num {K : Int} (h : isNum K = true) (h2 : (K == 2) = false) : (K == 1) = true := by
  unfold isNum at h; rw [h2] at h; simpa using h
theorem operate0_any (K1 I1 : Int) (F1 : Nat) (S1 : ByteArray) (p1 : Option Addr) (l1 c1 : Nat) (K2 I2 : Int) (F2 : Nat) (S2 : ByteArray) (p2 : Option Addr) (l2 c2 : Nat) (w : World) (hi1 : okI I1) (hi2 : okI I2) {K I : Int} {F : Nat} {E : Int} (hq : opV 0 K1 I1 F1 K2 I2 F2 = (K, I, F, E)) :
    Calls Try.prog 35 #[.agg #[.int .i64 K1, .int .i64 I1, .float .f64 F1, .string S1, .slice p1 l1 c1], .agg #[.int .i64 K2, .int .i64 I2, .float .f64 F2, .string S2, .slice p2 l2 c2], .func (Fn.func 36) #[] #[], .func (Fn.func 37) #[] #[]] w fun e w' => e = .returned (.tuple #[.agg #[.int .i64 K, .int .i64 I, .float .f64 F, .string ⟨#[]⟩, .slice none 0 0], .int .i64 E]) ∧ Below w.heap.size w w' := by
  cases h : (isNum K1 && isNum K2)
  · rw [opV_not h] at hq; cases hq; exact operate0_not K1 I1 F1 S1 p1 l1 c1 K2 I2 F2 S2 p2 l2 c2 w h
  · obtain ⟨h1, h2⟩ : isNum K1 = true ∧ isNum K2 = true := by simpa using h
    cases ha : (K1 == 2)
    · cases hb : (K2 == 2)
      · have hk : (K1 == 2 || K2 == 2) = false := by rw [ha, hb]; rfl
        cases hn : intR 0 I1 I2 with
        | some n => rw [opV_int h hk hn] at hq; cases hq; exact operate0_int K1 I1 F1 S1 p1 l1 c1 K2 I2 F2 S2 p2 l2 c2 w h1 h2 ha hb hi1 hi2 _ hn
        | none => rw [opV_none h hk hn] at hq; cases hq; exact operate0_none K1 I1 F1 S1 p1 l1 c1 K2 I2 F2 S2 p2 l2 c2 w h1 h2 ha hb hi1 hi2 hn
      · rw [opV_flo h (by rw [ha, hb]; rfl)] at hq; cases hq; exact operate0_flo_b K1 I1 F1 S1 p1 l1 c1 K2 I2 F2 S2 p2 l2 c2 w h1 h2 ha hb
    · rw [opV_flo h (by rw [ha]; rfl)] at hq; cases hq; exact operate0_flo_a K1 I1 F1 S1 p1 l1 c1 K2 I2 F2 S2 p2 l2 c2 w h1 h2 ha
theorem add_any (K1 I1 : Int) (F1 : Nat) (S1 : ByteArray) (p1 : Option Addr) (l1 c1 : Nat) (K2 I2 : Int) (F2 : Nat) (S2 : ByteArray) (p2 : Option Addr) (l2 c2 : Nat) (w : World) (hi1 : okI I1) (hi2 : okI I2) {K I : Int} {F : Nat} {E : Int} (hq : opV 0 K1 I1 F1 K2 I2 F2 = (K, I, F, E)) :
    Calls Try.prog 12 #[.agg #[.int .i64 K1, .int .i64 I1, .float .f64 F1, .string S1, .slice p1 l1 c1], .agg #[.int .i64 K2, .int .i64 I2, .float .f64 F2, .string S2, .slice p2 l2 c2]] w fun e w' => e = .returned (.tuple #[.agg #[.int .i64 K, .int .i64 I, .float .f64 F, .string ⟨#[]⟩, .slice none 0 0], .int .i64 E]) ∧ Below w.heap.size w w' := by
  have H : Hid _ := Lib.hid (fun W => operate0_any K1 I1 F1 S1 p1 l1 c1 K2 I2 F2 S2 p2 l2 c2 W hi1 hi2 hq)
  clear hi1 hi2 hq
  go_enter Try.func12, Try.ntmps12
  go_wp2_with (go_at_call 35; refine (H.out _).mono ?_; rintro e w1 ⟨rfl, hb1⟩; obtain ⟨hc1, hf1⟩ := bcell hb1; have hz1 : w.heap.size + 1 + 1 < w1.heap.size := (by (have := hb1.size; (try simp at this); omega)))
  exact bodyPost_ret (v := .tuple #[.agg #[.int .i64 K, .int .i64 I, .float .f64 F, .string ⟨#[]⟩, .slice none 0 0], .int .i64 E]) (by simp [results, Try.results12, go_sem, hc1]) rfl ⟨rfl, below5 ((below3 _ _ _ _).trans (hb1.mono (by simp; omega))) (by omega) _ _ _ _ _⟩
theorem refOp0_any (K1 I1 : Int) (F1 : Nat) (S1 : ByteArray) (p1 : Option Addr) (l1 c1 : Nat) (K2 I2 : Int) (F2 : Nat) (S2 : ByteArray) (p2 : Option Addr) (l2 c2 : Nat) (w : World) (hi1 : okI I1) (hi2 : okI I2) {K I : Int} {F : Nat} {E : Int} (hq : opV 0 K1 I1 F1 K2 I2 F2 = (K, I, F, E)) :
    Calls Try.prog 13 #[.int .u8 43, .agg #[.int .i64 K1, .int .i64 I1, .float .f64 F1, .string S1, .slice p1 l1 c1], .agg #[.int .i64 K2, .int .i64 I2, .float .f64 F2, .string S2, .slice p2 l2 c2]] w fun e w' => e = .returned (.tuple #[.agg #[.int .i64 K, .int .i64 I, .float .f64 F, .string ⟨#[]⟩, .slice none 0 0], .int .i64 E]) ∧ Below w.heap.size w w' := by
  cases h : (isNum K1 && isNum K2)
  · rw [opV_not h] at hq; cases hq; exact refOp0_not K1 I1 F1 S1 p1 l1 c1 K2 I2 F2 S2 p2 l2 c2 w h
  · obtain ⟨h1, h2⟩ : isNum K1 = true ∧ isNum K2 = true := by simpa using h
    cases ha : (K1 == 2)
    · have ha1 := one_of_num h1 ha
      cases hb : (K2 == 2)
      · have hk : (K1 == 2 || K2 == 2) = false := by rw [ha, hb]; rfl
        cases hn : intR 0 I1 I2 with
        | some n => rw [opV_int h hk hn] at hq; cases hq; exact refOp0_int K1 I1 F1 S1 p1 l1 c1 K2 I2 F2 S2 p2 l2 c2 w h1 h2 ha1 (one_of_num h2 hb) hi1 hi2 _ hn
        | none => rw [opV_none h hk hn] at hq; cases hq; exact refOp0_none K1 I1 F1 S1 p1 l1 c1 K2 I2 F2 S2 p2 l2 c2 w h1 h2 ha1 (one_of_num h2 hb) hi1 hi2 hn
      · rw [opV_flo h (by rw [ha, hb]; rfl)] at hq; cases hq
        cases hr : floatBits (bop 0) .f64 (asF K1 I1 F1) (asF K2 I2 F2) with
        | some r => exact refOp0_flo_b_some K1 I1 F1 S1 p1 l1 c1 K2 I2 F2 S2 p2 l2 c2 w h1 h2 ha1 (one_of_two hb) hr
        | none => exact refOp0_flo_b_none K1 I1 F1 S1 p1 l1 c1 K2 I2 F2 S2 p2 l2 c2 w h1 h2 ha1 (one_of_two hb) hr
    · rw [opV_flo h (by rw [ha]; rfl)] at hq; cases hq
      cases hr : floatBits (bop 0) .f64 (asF K1 I1 F1) (asF K2 I2 F2) with
      | some r => exact refOp0_flo_a_some K1 I1 F1 S1 p1 l1 c1 K2 I2 F2 S2 p2 l2 c2 w h1 h2 (one_of_two ha) hr
      | none => exact refOp0_flo_a_none K1 I1 F1 S1 p1 l1 c1 K2 I2 F2 S2 p2 l2 c2 w h1 h2 (one_of_two ha) hr
theorem operate1_any (K1 I1 : Int) (F1 : Nat) (S1 : ByteArray) (p1 : Option Addr) (l1 c1 : Nat) (K2 I2 : Int) (F2 : Nat) (S2 : ByteArray) (p2 : Option Addr) (l2 c2 : Nat) (w : World) (hi1 : okI I1) (hi2 : okI I2) {K I : Int} {F : Nat} {E : Int} (hq : opV 1 K1 I1 F1 K2 I2 F2 = (K, I, F, E)) :
    Calls Try.prog 35 #[.agg #[.int .i64 K1, .int .i64 I1, .float .f64 F1, .string S1, .slice p1 l1 c1], .agg #[.int .i64 K2, .int .i64 I2, .float .f64 F2, .string S2, .slice p2 l2 c2], .func (Fn.func 40) #[] #[], .func (Fn.func 41) #[] #[]] w fun e w' => e = .returned (.tuple #[.agg #[.int .i64 K, .int .i64 I, .float .f64 F, .string ⟨#[]⟩, .slice none 0 0], .int .i64 E]) ∧ Below w.heap.size w w' := by
  cases h : (isNum K1 && isNum K2)
  · rw [opV_not h] at hq; cases hq; exact operate1_not K1 I1 F1 S1 p1 l1 c1 K2 I2 F2 S2 p2 l2 c2 w h
  · obtain ⟨h1, h2⟩ : isNum K1 = true ∧ isNum K2 = true := by simpa using h
    cases ha : (K1 == 2)
    · cases hb : (K2 == 2)
      · have hk : (K1 == 2 || K2 == 2) = false := by rw [ha, hb]; rfl
        cases hn : intR 1 I1 I2 with
        | some n => rw [opV_int h hk hn] at hq; cases hq; exact operate1_int K1 I1 F1 S1 p1 l1 c1 K2 I2 F2 S2 p2 l2 c2 w h1 h2 ha hb hi1 hi2 _ hn
        | none => rw [opV_none h hk hn] at hq; cases hq; exact operate1_none K1 I1 F1 S1 p1 l1 c1 K2 I2 F2 S2 p2 l2 c2 w h1 h2 ha hb hi1 hi2 hn
      · rw [opV_flo h (by rw [ha, hb]; rfl)] at hq; cases hq; exact operate1_flo_b K1 I1 F1 S1 p1 l1 c1 K2 I2 F2 S2 p2 l2 c2 w h1 h2 ha hb
    · rw [opV_flo h (by rw [ha]; rfl)] at hq; cases hq; exact operate1_flo_a K1 I1 F1 S1 p1 l1 c1 K2 I2 F2 S2 p2 l2 c2 w h1 h2 ha
theorem sub_any (K1 I1 : Int) (F1 : Nat) (S1 : ByteArray) (p1 : Option Addr) (l1 c1 : Nat) (K2 I2 : Int) (F2 : Nat) (S2 : ByteArray) (p2 : Option Addr) (l2 c2 : Nat) (w : World) (hi1 : okI I1) (hi2 : okI I2) {K I : Int} {F : Nat} {E : Int} (hq : opV 1 K1 I1 F1 K2 I2 F2 = (K, I, F, E)) :
    Calls Try.prog 15 #[.agg #[.int .i64 K1, .int .i64 I1, .float .f64 F1, .string S1, .slice p1 l1 c1], .agg #[.int .i64 K2, .int .i64 I2, .float .f64 F2, .string S2, .slice p2 l2 c2]] w fun e w' => e = .returned (.tuple #[.agg #[.int .i64 K, .int .i64 I, .float .f64 F, .string ⟨#[]⟩, .slice none 0 0], .int .i64 E]) ∧ Below w.heap.size w w' := by
  have H : Hid _ := Lib.hid (fun W => operate1_any K1 I1 F1 S1 p1 l1 c1 K2 I2 F2 S2 p2 l2 c2 W hi1 hi2 hq)
  clear hi1 hi2 hq
  go_enter Try.func15, Try.ntmps15
  go_wp2_with (go_at_call 35; refine (H.out _).mono ?_; rintro e w1 ⟨rfl, hb1⟩; obtain ⟨hc1, hf1⟩ := bcell hb1; have hz1 : w.heap.size + 1 + 1 < w1.heap.size := (by (have := hb1.size; (try simp at this); omega)))
  exact bodyPost_ret (v := .tuple #[.agg #[.int .i64 K, .int .i64 I, .float .f64 F, .string ⟨#[]⟩, .slice none 0 0], .int .i64 E]) (by simp [results, Try.results15, go_sem, hc1]) rfl ⟨rfl, below5 ((below3 _ _ _ _).trans (hb1.mono (by simp; omega))) (by omega) _ _ _ _ _⟩
theorem refOp1_any (K1 I1 : Int) (F1 : Nat) (S1 : ByteArray) (p1 : Option Addr) (l1 c1 : Nat) (K2 I2 : Int) (F2 : Nat) (S2 : ByteArray) (p2 : Option Addr) (l2 c2 : Nat) (w : World) (hi1 : okI I1) (hi2 : okI I2) {K I : Int} {F : Nat} {E : Int} (hq : opV 1 K1 I1 F1 K2 I2 F2 = (K, I, F, E)) :
    Calls Try.prog 13 #[.int .u8 45, .agg #[.int .i64 K1, .int .i64 I1, .float .f64 F1, .string S1, .slice p1 l1 c1], .agg #[.int .i64 K2, .int .i64 I2, .float .f64 F2, .string S2, .slice p2 l2 c2]] w fun e w' => e = .returned (.tuple #[.agg #[.int .i64 K, .int .i64 I, .float .f64 F, .string ⟨#[]⟩, .slice none 0 0], .int .i64 E]) ∧ Below w.heap.size w w' := by
  cases h : (isNum K1 && isNum K2)
  · rw [opV_not h] at hq; cases hq; exact refOp1_not K1 I1 F1 S1 p1 l1 c1 K2 I2 F2 S2 p2 l2 c2 w h
  · obtain ⟨h1, h2⟩ : isNum K1 = true ∧ isNum K2 = true := by simpa using h
    cases ha : (K1 == 2)
    · have ha1 := one_of_num h1 ha
      cases hb : (K2 == 2)
      · have hk : (K1 == 2 || K2 == 2) = false := by rw [ha, hb]; rfl
        cases hn : intR 1 I1 I2 with
        | some n => rw [opV_int h hk hn] at hq; cases hq; exact refOp1_int K1 I1 F1 S1 p1 l1 c1 K2 I2 F2 S2 p2 l2 c2 w h1 h2 ha1 (one_of_num h2 hb) hi1 hi2 _ hn
        | none => rw [opV_none h hk hn] at hq; cases hq; exact refOp1_none K1 I1 F1 S1 p1 l1 c1 K2 I2 F2 S2 p2 l2 c2 w h1 h2 ha1 (one_of_num h2 hb) hi1 hi2 hn
      · rw [opV_flo h (by rw [ha, hb]; rfl)] at hq; cases hq
        cases hr : floatBits (bop 1) .f64 (asF K1 I1 F1) (asF K2 I2 F2) with
        | some r => exact refOp1_flo_b_some K1 I1 F1 S1 p1 l1 c1 K2 I2 F2 S2 p2 l2 c2 w h1 h2 ha1 (one_of_two hb) hr
        | none => exact refOp1_flo_b_none K1 I1 F1 S1 p1 l1 c1 K2 I2 F2 S2 p2 l2 c2 w h1 h2 ha1 (one_of_two hb) hr
    · rw [opV_flo h (by rw [ha]; rfl)] at hq; cases hq
      cases hr : floatBits (bop 1) .f64 (asF K1 I1 F1) (asF K2 I2 F2) with
      | some r => exact refOp1_flo_a_some K1 I1 F1 S1 p1 l1 c1 K2 I2 F2 S2 p2 l2 c2 w h1 h2 (one_of_two ha) hr
      | none => exact refOp1_flo_a_none K1 I1 F1 S1 p1 l1 c1 K2 I2 F2 S2 p2 l2 c2 w h1 h2 (one_of_two ha) hr
theorem operate2_any (K1 I1 : Int) (F1 : Nat) (S1 : ByteArray) (p1 : Option Addr) (l1 c1 : Nat) (K2 I2 : Int) (F2 : Nat) (S2 : ByteArray) (p2 : Option Addr) (l2 c2 : Nat) (w : World) (hi1 : okI I1) (hi2 : okI I2) {K I : Int} {F : Nat} {E : Int} (hq : opV 2 K1 I1 F1 K2 I2 F2 = (K, I, F, E)) :
    Calls Try.prog 35 #[.agg #[.int .i64 K1, .int .i64 I1, .float .f64 F1, .string S1, .slice p1 l1 c1], .agg #[.int .i64 K2, .int .i64 I2, .float .f64 F2, .string S2, .slice p2 l2 c2], .func (Fn.func 42) #[] #[], .func (Fn.func 43) #[] #[]] w fun e w' => e = .returned (.tuple #[.agg #[.int .i64 K, .int .i64 I, .float .f64 F, .string ⟨#[]⟩, .slice none 0 0], .int .i64 E]) ∧ Below w.heap.size w w' := by
  cases h : (isNum K1 && isNum K2)
  · rw [opV_not h] at hq; cases hq; exact operate2_not K1 I1 F1 S1 p1 l1 c1 K2 I2 F2 S2 p2 l2 c2 w h
  · obtain ⟨h1, h2⟩ : isNum K1 = true ∧ isNum K2 = true := by simpa using h
    cases ha : (K1 == 2)
    · cases hb : (K2 == 2)
      · have hk : (K1 == 2 || K2 == 2) = false := by rw [ha, hb]; rfl
        cases hn : intR 2 I1 I2 with
        | some n => rw [opV_int h hk hn] at hq; cases hq; exact operate2_int K1 I1 F1 S1 p1 l1 c1 K2 I2 F2 S2 p2 l2 c2 w h1 h2 ha hb hi1 hi2 _ hn
        | none => rw [opV_none h hk hn] at hq; cases hq; exact operate2_none K1 I1 F1 S1 p1 l1 c1 K2 I2 F2 S2 p2 l2 c2 w h1 h2 ha hb hi1 hi2 hn
      · rw [opV_flo h (by rw [ha, hb]; rfl)] at hq; cases hq; exact operate2_flo_b K1 I1 F1 S1 p1 l1 c1 K2 I2 F2 S2 p2 l2 c2 w h1 h2 ha hb
    · rw [opV_flo h (by rw [ha]; rfl)] at hq; cases hq; exact operate2_flo_a K1 I1 F1 S1 p1 l1 c1 K2 I2 F2 S2 p2 l2 c2 w h1 h2 ha
theorem mul_any (K1 I1 : Int) (F1 : Nat) (S1 : ByteArray) (p1 : Option Addr) (l1 c1 : Nat) (K2 I2 : Int) (F2 : Nat) (S2 : ByteArray) (p2 : Option Addr) (l2 c2 : Nat) (w : World) (hi1 : okI I1) (hi2 : okI I2) {K I : Int} {F : Nat} {E : Int} (hq : opV 2 K1 I1 F1 K2 I2 F2 = (K, I, F, E)) :
    Calls Try.prog 16 #[.agg #[.int .i64 K1, .int .i64 I1, .float .f64 F1, .string S1, .slice p1 l1 c1], .agg #[.int .i64 K2, .int .i64 I2, .float .f64 F2, .string S2, .slice p2 l2 c2]] w fun e w' => e = .returned (.tuple #[.agg #[.int .i64 K, .int .i64 I, .float .f64 F, .string ⟨#[]⟩, .slice none 0 0], .int .i64 E]) ∧ Below w.heap.size w w' := by
  have H : Hid _ := Lib.hid (fun W => operate2_any K1 I1 F1 S1 p1 l1 c1 K2 I2 F2 S2 p2 l2 c2 W hi1 hi2 hq)
  clear hi1 hi2 hq
  go_enter Try.func16, Try.ntmps16
  go_wp2_with (go_at_call 35; refine (H.out _).mono ?_; rintro e w1 ⟨rfl, hb1⟩; obtain ⟨hc1, hf1⟩ := bcell hb1; have hz1 : w.heap.size + 1 + 1 < w1.heap.size := (by (have := hb1.size; (try simp at this); omega)))
  exact bodyPost_ret (v := .tuple #[.agg #[.int .i64 K, .int .i64 I, .float .f64 F, .string ⟨#[]⟩, .slice none 0 0], .int .i64 E]) (by simp [results, Try.results16, go_sem, hc1]) rfl ⟨rfl, below5 ((below3 _ _ _ _).trans (hb1.mono (by simp; omega))) (by omega) _ _ _ _ _⟩
theorem refOp2_any (K1 I1 : Int) (F1 : Nat) (S1 : ByteArray) (p1 : Option Addr) (l1 c1 : Nat) (K2 I2 : Int) (F2 : Nat) (S2 : ByteArray) (p2 : Option Addr) (l2 c2 : Nat) (w : World) (hi1 : okI I1) (hi2 : okI I2) {K I : Int} {F : Nat} {E : Int} (hq : opV 2 K1 I1 F1 K2 I2 F2 = (K, I, F, E)) :
    Calls Try.prog 13 #[.int .u8 42, .agg #[.int .i64 K1, .int .i64 I1, .float .f64 F1, .string S1, .slice p1 l1 c1], .agg #[.int .i64 K2, .int .i64 I2, .float .f64 F2, .string S2, .slice p2 l2 c2]] w fun e w' => e = .returned (.tuple #[.agg #[.int .i64 K, .int .i64 I, .float .f64 F, .string ⟨#[]⟩, .slice none 0 0], .int .i64 E]) ∧ Below w.heap.size w w' := by
  cases h : (isNum K1 && isNum K2)
  · rw [opV_not h] at hq; cases hq; exact refOp2_not K1 I1 F1 S1 p1 l1 c1 K2 I2 F2 S2 p2 l2 c2 w h
  · obtain ⟨h1, h2⟩ : isNum K1 = true ∧ isNum K2 = true := by simpa using h
    cases ha : (K1 == 2)
    · have ha1 := one_of_num h1 ha
      cases hb : (K2 == 2)
      · have hk : (K1 == 2 || K2 == 2) = false := by rw [ha, hb]; rfl
        cases hn : intR 2 I1 I2 with
        | some n => rw [opV_int h hk hn] at hq; cases hq; exact refOp2_int K1 I1 F1 S1 p1 l1 c1 K2 I2 F2 S2 p2 l2 c2 w h1 h2 ha1 (one_of_num h2 hb) hi1 hi2 _ hn
        | none => rw [opV_none h hk hn] at hq; cases hq; exact refOp2_none K1 I1 F1 S1 p1 l1 c1 K2 I2 F2 S2 p2 l2 c2 w h1 h2 ha1 (one_of_num h2 hb) hi1 hi2 hn
      · rw [opV_flo h (by rw [ha, hb]; rfl)] at hq; cases hq
        cases hr : floatBits (bop 2) .f64 (asF K1 I1 F1) (asF K2 I2 F2) with
        | some r => exact refOp2_flo_b_some K1 I1 F1 S1 p1 l1 c1 K2 I2 F2 S2 p2 l2 c2 w h1 h2 ha1 (one_of_two hb) hr
        | none => exact refOp2_flo_b_none K1 I1 F1 S1 p1 l1 c1 K2 I2 F2 S2 p2 l2 c2 w h1 h2 ha1 (one_of_two hb) hr
    · rw [opV_flo h (by rw [ha]; rfl)] at hq; cases hq
      cases hr : floatBits (bop 2) .f64 (asF K1 I1 F1) (asF K2 I2 F2) with
      | some r => exact refOp2_flo_a_some K1 I1 F1 S1 p1 l1 c1 K2 I2 F2 S2 p2 l2 c2 w h1 h2 (one_of_two ha) hr
      | none => exact refOp2_flo_a_none K1 I1 F1 S1 p1 l1 c1 K2 I2 F2 S2 p2 l2 c2 w h1 h2 (one_of_two ha) hr
theorem operate3_any (K1 I1 : Int) (F1 : Nat) (S1 : ByteArray) (p1 : Option Addr) (l1 c1 : Nat) (K2 I2 : Int) (F2 : Nat) (S2 : ByteArray) (p2 : Option Addr) (l2 c2 : Nat) (w : World) (hi1 : okI I1) (hi2 : okI I2) {K I : Int} {F : Nat} {E : Int} (hq : opV 3 K1 I1 F1 K2 I2 F2 = (K, I, F, E)) :
    Calls Try.prog 35 #[.agg #[.int .i64 K1, .int .i64 I1, .float .f64 F1, .string S1, .slice p1 l1 c1], .agg #[.int .i64 K2, .int .i64 I2, .float .f64 F2, .string S2, .slice p2 l2 c2], .func (Fn.func 44) #[] #[], .func (Fn.func 45) #[] #[]] w fun e w' => e = .returned (.tuple #[.agg #[.int .i64 K, .int .i64 I, .float .f64 F, .string ⟨#[]⟩, .slice none 0 0], .int .i64 E]) ∧ Below w.heap.size w w' := by
  cases h : (isNum K1 && isNum K2)
  · rw [opV_not h] at hq; cases hq; exact operate3_not K1 I1 F1 S1 p1 l1 c1 K2 I2 F2 S2 p2 l2 c2 w h
  · obtain ⟨h1, h2⟩ : isNum K1 = true ∧ isNum K2 = true := by simpa using h
    cases ha : (K1 == 2)
    · cases hb : (K2 == 2)
      · have hk : (K1 == 2 || K2 == 2) = false := by rw [ha, hb]; rfl
        cases hn : intR 3 I1 I2 with
        | some n => rw [opV_int h hk hn] at hq; cases hq; exact operate3_int K1 I1 F1 S1 p1 l1 c1 K2 I2 F2 S2 p2 l2 c2 w h1 h2 ha hb hi1 hi2 _ hn
        | none => rw [opV_none h hk hn] at hq; cases hq; exact operate3_none K1 I1 F1 S1 p1 l1 c1 K2 I2 F2 S2 p2 l2 c2 w h1 h2 ha hb hi1 hi2 hn
      · rw [opV_flo h (by rw [ha, hb]; rfl)] at hq; cases hq; exact operate3_flo_b K1 I1 F1 S1 p1 l1 c1 K2 I2 F2 S2 p2 l2 c2 w h1 h2 ha hb
    · rw [opV_flo h (by rw [ha]; rfl)] at hq; cases hq; exact operate3_flo_a K1 I1 F1 S1 p1 l1 c1 K2 I2 F2 S2 p2 l2 c2 w h1 h2 ha
theorem div_any (K1 I1 : Int) (F1 : Nat) (S1 : ByteArray) (p1 : Option Addr) (l1 c1 : Nat) (K2 I2 : Int) (F2 : Nat) (S2 : ByteArray) (p2 : Option Addr) (l2 c2 : Nat) (w : World) (hi1 : okI I1) (hi2 : okI I2) {K I : Int} {F : Nat} {E : Int} (hq : opV 3 K1 I1 F1 K2 I2 F2 = (K, I, F, E)) :
    Calls Try.prog 17 #[.agg #[.int .i64 K1, .int .i64 I1, .float .f64 F1, .string S1, .slice p1 l1 c1], .agg #[.int .i64 K2, .int .i64 I2, .float .f64 F2, .string S2, .slice p2 l2 c2]] w fun e w' => e = .returned (.tuple #[.agg #[.int .i64 K, .int .i64 I, .float .f64 F, .string ⟨#[]⟩, .slice none 0 0], .int .i64 E]) ∧ Below w.heap.size w w' := by
  have H : Hid _ := Lib.hid (fun W => operate3_any K1 I1 F1 S1 p1 l1 c1 K2 I2 F2 S2 p2 l2 c2 W hi1 hi2 hq)
  clear hi1 hi2 hq
  go_enter Try.func17, Try.ntmps17
  go_wp2_with (go_at_call 35; refine (H.out _).mono ?_; rintro e w1 ⟨rfl, hb1⟩; obtain ⟨hc1, hf1⟩ := bcell hb1; have hz1 : w.heap.size + 1 + 1 < w1.heap.size := (by (have := hb1.size; (try simp at this); omega)))
  exact bodyPost_ret (v := .tuple #[.agg #[.int .i64 K, .int .i64 I, .float .f64 F, .string ⟨#[]⟩, .slice none 0 0], .int .i64 E]) (by simp [results, Try.results17, go_sem, hc1]) rfl ⟨rfl, below5 ((below3 _ _ _ _).trans (hb1.mono (by simp; omega))) (by omega) _ _ _ _ _⟩
theorem refOp3_any (K1 I1 : Int) (F1 : Nat) (S1 : ByteArray) (p1 : Option Addr) (l1 c1 : Nat) (K2 I2 : Int) (F2 : Nat) (S2 : ByteArray) (p2 : Option Addr) (l2 c2 : Nat) (w : World) (hi1 : okI I1) (hi2 : okI I2) {K I : Int} {F : Nat} {E : Int} (hq : opV 3 K1 I1 F1 K2 I2 F2 = (K, I, F, E)) :
    Calls Try.prog 13 #[.int .u8 47, .agg #[.int .i64 K1, .int .i64 I1, .float .f64 F1, .string S1, .slice p1 l1 c1], .agg #[.int .i64 K2, .int .i64 I2, .float .f64 F2, .string S2, .slice p2 l2 c2]] w fun e w' => e = .returned (.tuple #[.agg #[.int .i64 K, .int .i64 I, .float .f64 F, .string ⟨#[]⟩, .slice none 0 0], .int .i64 E]) ∧ Below w.heap.size w w' := by
  cases h : (isNum K1 && isNum K2)
  · rw [opV_not h] at hq; cases hq; exact refOp3_not K1 I1 F1 S1 p1 l1 c1 K2 I2 F2 S2 p2 l2 c2 w h
  · obtain ⟨h1, h2⟩ : isNum K1 = true ∧ isNum K2 = true := by simpa using h
    cases ha : (K1 == 2)
    · have ha1 := one_of_num h1 ha
      cases hb : (K2 == 2)
      · have hk : (K1 == 2 || K2 == 2) = false := by rw [ha, hb]; rfl
        cases hn : intR 3 I1 I2 with
        | some n => rw [opV_int h hk hn] at hq; cases hq; exact refOp3_int K1 I1 F1 S1 p1 l1 c1 K2 I2 F2 S2 p2 l2 c2 w h1 h2 ha1 (one_of_num h2 hb) hi1 _ hn
        | none => rw [opV_none h hk hn] at hq; cases hq; exact refOp3_none K1 I1 F1 S1 p1 l1 c1 K2 I2 F2 S2 p2 l2 c2 w h1 h2 ha1 (one_of_num h2 hb) hi1 hn
      · rw [opV_flo h (by rw [ha, hb]; rfl)] at hq; cases hq
        cases hr : floatBits (bop 3) .f64 (asF K1 I1 F1) (asF K2 I2 F2) with
        | some r => exact refOp3_flo_b_some K1 I1 F1 S1 p1 l1 c1 K2 I2 F2 S2 p2 l2 c2 w h1 h2 ha1 (one_of_two hb) hr
        | none => exact refOp3_flo_b_none K1 I1 F1 S1 p1 l1 c1 K2 I2 F2 S2 p2 l2 c2 w h1 h2 ha1 (one_of_two hb) hr
    · rw [opV_flo h (by rw [ha]; rfl)] at hq; cases hq
      cases hr : floatBits (bop 3) .f64 (asF K1 I1 F1) (asF K2 I2 F2) with
      | some r => exact refOp3_flo_a_some K1 I1 F1 S1 p1 l1 c1 K2 I2 F2 S2 p2 l2 c2 w h1 h2 (one_of_two ha) hr
      | none => exact refOp3_flo_a_none K1 I1 F1 S1 p1 l1 c1 K2 I2 F2 S2 p2 l2 c2 w h1 h2 (one_of_two ha) hr
end Num
end Go.Proofs.Ytkodgfhpbpefdaa
