/-
  Sign and Finite of package num; the edges that every statement of the layer asks first.
-/
import Derived.Test.YtkodgfhpbpefdaaArith
namespace Go.Proofs.Ytkodgfhpbpefdaa
open Go.RowKit
namespace Num
set_option linter.unusedSimpArgs false
set_option linter.unusedVariables false
open Ints
def signI (n : Int) : Int := if n < 0 then -1 else if 0 < n then 1 else 0
def signF (x : Nat) : Int := if FloatKind.f64.format.order x 0 == some .lt then -1 else if FloatKind.f64.format.order x 0 == some .gt then 1 else 0
theorem signInt_any (n : Int) (w : World) : Calls Try.prog 48 #[.int .i64 n] w fun e w' => e = .returned (.int .i64 (signI n)) ∧ w = w' := by
  by_cases h1 : n < 0
  · have H := Lib.hid (show Ending.returned (.int .i64 (-1)) = .returned (.int .i64 (signI n)) by unfold signI; rw [if_pos h1])
    go_enter Try.func48, Try.ntmps48
    go_wp2
    go_ret
    exact ⟨H.out, rfl⟩
  by_cases h2 : 0 < n
  · have H := Lib.hid (show Ending.returned (.int .i64 1) = .returned (.int .i64 (signI n)) by unfold signI; rw [if_neg h1, if_pos h2])
    go_enter Try.func48, Try.ntmps48
    go_wp2
    go_ret
    exact ⟨H.out, rfl⟩
  · have H := Lib.hid (show Ending.returned (.int .i64 0) = .returned (.int .i64 (signI n)) by unfold signI; rw [if_neg h1, if_neg h2])
    go_enter Try.func48, Try.ntmps48
    go_wp2
    go_ret
    exact ⟨H.out, rfl⟩
theorem signFlo_any (x : Nat) (w : World) : Calls Try.prog 49 #[.float .f64 x] w fun e w' => e = .returned (.int .i64 (signF x)) ∧ w = w' := by
  cases h1 : (FloatKind.f64.format.order x 0 == some .lt)
  · cases h2 : (FloatKind.f64.format.order x 0 == some .gt)
    · have H := Lib.hid (show Ending.returned (.int .i64 0) = .returned (.int .i64 (signF x)) by unfold signF; rw [h1, h2]; rfl)
      go_enter Try.func49, Try.ntmps49
      go_wp2
      go_ret
      exact ⟨H.out, rfl⟩
    · have H := Lib.hid (show Ending.returned (.int .i64 1) = .returned (.int .i64 (signF x)) by unfold signF; rw [h1, h2]; rfl)
      go_enter Try.func49, Try.ntmps49
      go_wp2
      go_ret
      exact ⟨H.out, rfl⟩
  · have H := Lib.hid (show Ending.returned (.int .i64 (-1)) = .returned (.int .i64 (signF x)) by unfold signF; rw [h1]; rfl)
    go_enter Try.func49, Try.ntmps49
    go_wp2
    go_ret
    exact ⟨H.out, rfl⟩
def signV (K I : Int) (F : Nat) : Int := if isNum K = false then 0 else if (K == 1) = true then signI I else signF F
theorem sign_any (K I : Int) (F : Nat) (S : ByteArray) (p : Option Addr) (l c : Nat) (w : World) : Calls Try.prog 22 #[.agg #[.int .i64 K, .int .i64 I, .float .f64 F, .string S, .slice p l c]] w fun e w' => e = .returned (.int .i64 (signV K I F)) ∧ Below w.heap.size w w' := by
  cases h1 : isNum K
  · have H := Lib.hid (show Ending.returned (.int .i64 0) = .returned (.int .i64 (signV K I F)) by unfold signV; rw [if_pos h1])
    go_enter Try.func22, Try.ntmps22
    go_wp2_with (go_at_call 47; refine (isNumber_any _ _ _ _ _ _ _ _).mono ?_; rintro e w1 ⟨rfl, hb1⟩; obtain ⟨hc1, hf1⟩ := bcell hb1)
    go_ret
    exact ⟨H.out, ((Below.refl _ _).alloc (Nat.le_refl _) _).trans (hb1.mono (by simp))⟩
  have h1' : ¬ isNum K = false := by rw [h1]; simp
  cases h2 : (K == 1)
  · have H := Lib.hid (show Ending.returned (.int .i64 (signF F)) = .returned (.int .i64 (signV K I F)) by unfold signV; rw [if_neg h1', h2]; rfl)
    clear h1'
    go_enter Try.func22, Try.ntmps22
    go_wp2_with (first
      | (go_at_call 47; refine (isNumber_any _ _ _ _ _ _ _ _).mono ?_; rintro e w1 ⟨rfl, hb1⟩; obtain ⟨hc1, hf1⟩ := bcell hb1)
      | (go_at_call 49; refine (signFlo_any _ _).mono ?_; rintro e w2 ⟨rfl, rfl⟩))
    go_ret
    exact ⟨H.out, ((Below.refl _ _).alloc (Nat.le_refl _) _).trans (hb1.mono (by simp))⟩
  · have H := Lib.hid (show Ending.returned (.int .i64 (signI I)) = .returned (.int .i64 (signV K I F)) by unfold signV; rw [if_neg h1', h2]; rfl)
    clear h1'
    go_enter Try.func22, Try.ntmps22
    go_wp2_with (first
      | (go_at_call 47; refine (isNumber_any _ _ _ _ _ _ _ _).mono ?_; rintro e w1 ⟨rfl, hb1⟩; obtain ⟨hc1, hf1⟩ := bcell hb1)
      | (go_at_call 48; refine (signInt_any _ _).mono ?_; rintro e w2 ⟨rfl, rfl⟩))
    go_ret
    exact ⟨H.out, ((Below.refl _ _).alloc (Nat.le_refl _) _).trans (hb1.mono (by simp))⟩
theorem abs_bits (x : Nat) (hx : x < 2 ^ 64) : (bits BinOp.andNot IntKind.u64 (x : Int) 9223372036854775808).toNat = x % 9223372036854775808 := by
  have e := u64_andNot_nat x 9223372036854775808 hx (by decide)
  have e2 : ((9223372036854775808 : Nat) : Int) = 9223372036854775808 := rfl
  rw [e2] at e
  rw [e, Int.toNat_natCast]
  exact Nat.and_two_pow_sub_one_eq_mod x 63
theorem abs_any (x : Nat) (hx : x < 2 ^ 64) (w : World) : Calls Try.prog 56 #[.float .f64 x] w fun e w' => e = .returned (.float .f64 (x % 9223372036854775808)) ∧ w = w' := by
  have H := Lib.hid (show Ending.returned (.float .f64 (bits BinOp.andNot IntKind.u64 (x : Int) 9223372036854775808).toNat) = .returned (.float .f64 (x % 9223372036854775808)) by rw [abs_bits x hx])
  clear hx
  go_enter Try.func56, Try.ntmps56
  go_wp2
  go_ret
  exact ⟨H.out, rfl⟩
def isInfB (x : Nat) : Bool := FloatKind.f64.format.order (x % 9223372036854775808) 9218868437227405311 == some .gt
theorem isInf_any (x : Nat) (hx : x < 2 ^ 64) (w : World) : Calls Try.prog 50 #[.float .f64 x, .int .i64 0] w fun e w' => e = .returned (.bool (isInfB x)) ∧ w = w' := by
  have H := Lib.hid (show Ending.returned (.bool (FloatKind.f64.format.order (x % 9223372036854775808) 9218868437227405311 == some .gt)) = .returned (.bool (isInfB x)) from rfl)
  have Hx := Lib.hid hx
  clear hx
  go_enter Try.func50, Try.ntmps50
  go_wp2_with (go_at_call 56; refine (abs_any _ Hx.out _).mono ?_; rintro e w1 ⟨rfl, rfl⟩)
  go_ret
  exact ⟨H.out, rfl⟩
def finV (K : Int) (F : Nat) : Bool := if (K == 2) = true then Flo.feq F F && !isInfB F else K == 1
theorem finite_any (K I : Int) (F : Nat) (S : ByteArray) (p : Option Addr) (l c : Nat) (hF : F < 2 ^ 64) (w : World) : Calls Try.prog 24 #[.agg #[.int .i64 K, .int .i64 I, .float .f64 F, .string S, .slice p l c]] w fun e w' => e = .returned (.bool (finV K F)) ∧ Below w.heap.size w w' := by
  cases h1 : (K == 2)
  · have H := Lib.hid (show Ending.returned (.bool (K == 1)) = .returned (.bool (finV K F)) by unfold finV; rw [h1]; rfl)
    go_enter Try.func24, Try.ntmps24
    go_wp2
    go_ret
    exact ⟨H.out, ((Below.refl _ _).alloc (Nat.le_refl _) _)⟩
  · have Hx := Lib.hid hF
    clear hF
    cases h2 : (FloatKind.f64.format.order F F == some .eq)
    · have H := Lib.hid (show Ending.returned (.bool false) = .returned (.bool (finV K F)) by unfold finV Flo.feq; rw [h1, h2]; rfl)
      go_enter Try.func24, Try.ntmps24
      go_wp2
      go_ret
      exact ⟨H.out, ((Below.refl _ _).alloc (Nat.le_refl _) _)⟩
    · have H := Lib.hid (show Ending.returned (.bool (!isInfB F)) = .returned (.bool (finV K F)) by unfold finV Flo.feq; rw [h1, h2]; rfl)
      go_enter Try.func24, Try.ntmps24
      go_wp2_with (go_at_call 50; refine (isInf_any _ Hx.out _).mono ?_; rintro e w1 ⟨rfl, rfl⟩)
      go_ret
      exact ⟨H.out, ((Below.refl _ _).alloc (Nat.le_refl _) _)⟩
end Num
end Go.Proofs.Ytkodgfhpbpefdaa
