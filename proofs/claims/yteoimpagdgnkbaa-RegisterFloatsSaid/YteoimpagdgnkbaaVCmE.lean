/-
  The leaves of package value's comparison: ints, texts, floats, kinds: plain functions and contracts.
-/
import Derived.Test.YteoimpagdgnkbaaVCheck
import Derived.Laws.Bits64b
namespace Go.Proofs.Yteoimpagdgnkbaa
open Go.RowKit
namespace Num
open Ints
set_option linter.unusedSimpArgs false
set_option linter.unusedVariables false
abbrev fo (x y : Nat) : Option Ordering := FloatKind.f64.format.order x y
def cmpI (a b : Int) : Int := if a < b then -1 else if b < a then 1 else 0
def cmpS (a b : ByteArray) : Int := if Op.bytesLess a.toList b.toList = true then -1 else if (!a.toList == b.toList) = true then 1 else 0
/-- cmp.Compare on floats. -/
def cmpF (x y : Nat) : Int :=
  if (fo x x != some .eq) = true then (if (fo y y != some .eq) = true then 0 else -1) else if (fo y y != some .eq) = true then 1
  else if (fo x y == some .lt) = true then -1 else if (fo x y == some .gt) = true then 1 else 0
/-- One with this sign. -/
def csgn (x : Nat) : Nat := if x < 9223372036854775808 then 4607182418800017408 else 13830554455654793216
def ordF (x y : Nat) : Int := if (fo x 0 == some .eq && fo y 0 == some .eq) = true then cmpF (csgn x) (csgn y) else cmpF x y
def kindI (K : Int) : Int := if (K == 1 || K == 2 || K == 3 || K == 4) = true then K else 0
theorem csgn_bits (x : Nat) (hx : x < 2 ^ 64) : (bits BinOp.or IntKind.u64 (bits BinOp.andNot IntKind.u64 4607182418800017408 9223372036854775808) (bits BinOp.and IntKind.u64 (x : Int) 9223372036854775808)).toNat = csgn x := by
  have h1 : bits BinOp.andNot IntKind.u64 4607182418800017408 9223372036854775808 = ((4607182418800017408 : Nat) : Int) := by decide +kernel
  have h2 : bits BinOp.and IntKind.u64 (x : Int) 9223372036854775808 = ((x &&& 9223372036854775808 : Nat) : Int) := bits_and_u64_nat x 9223372036854775808 (by omega) (by omega)
  have h3 : x &&& 9223372036854775808 = if x < 9223372036854775808 then 0 else 9223372036854775808 := by
    have e2 : x.testBit 63 = decide (2 ^ 63 ≤ x) := by
      rw [Nat.testBit_eq_decide_div_mod_eq]
      rw [decide_eq_decide]
      omega
    apply Nat.eq_of_testBit_eq
    intro i
    rw [Nat.testBit_and, show (9223372036854775808 : Nat) = 2 ^ 63 by decide, Nat.testBit_two_pow]
    by_cases hi : 63 = i
    · subst hi
      rw [e2]
      by_cases h : x < 2 ^ 63
      · rw [if_pos h, decide_eq_false (by omega)]; simp
      · rw [if_neg h, decide_eq_true (by omega), Nat.testBit_two_pow]; simp
    · rw [decide_eq_false hi, Bool.and_false]
      by_cases h : x < 2 ^ 63
      · rw [if_pos h]; simp
      · rw [if_neg h, Nat.testBit_two_pow, decide_eq_false hi]
  rw [h1, h2, h3]
  unfold csgn
  split
  · decide +kernel
  · decide +kernel
theorem cmp_int_any (a b : Int) (w : World) : Calls Try.prog 89 #[.int .i64 a, .int .i64 b] w fun e w' => e = .returned (.int .i64 (cmpI a b)) ∧ w = w' := by
  by_cases h1 : a < b
  · have H := Lib.hid (show Ending.returned (.int .i64 (-1)) = .returned (.int .i64 (cmpI a b)) by simp [cmpI, h1])
    go_enter Try.func89, Try.ntmps89
    go_wp2_with (go_in)
    go_ret
    exact ⟨H.out, rfl⟩
  · by_cases h2 : b < a
    · have H := Lib.hid (show Ending.returned (.int .i64 1) = .returned (.int .i64 (cmpI a b)) by simp [cmpI, h1, h2])
      go_enter Try.func89, Try.ntmps89
      go_wp2_with (go_in)
      go_ret
      exact ⟨H.out, rfl⟩
    · have H := Lib.hid (show Ending.returned (.int .i64 0) = .returned (.int .i64 (cmpI a b)) by simp [cmpI, h1, h2])
      go_enter Try.func89, Try.ntmps89
      go_wp2_with (go_in)
      go_ret
      exact ⟨H.out, rfl⟩
theorem cmp_int64_any (a b : Int) (w : World) : Calls Try.prog 91 #[.int .i64 a, .int .i64 b] w fun e w' => e = .returned (.int .i64 (cmpI a b)) ∧ w = w' := by
  by_cases h1 : a < b
  · have H := Lib.hid (show Ending.returned (.int .i64 (-1)) = .returned (.int .i64 (cmpI a b)) by simp [cmpI, h1])
    go_enter Try.func91, Try.ntmps91
    go_wp2_with (go_in)
    go_ret
    exact ⟨H.out, rfl⟩
  · by_cases h2 : b < a
    · have H := Lib.hid (show Ending.returned (.int .i64 1) = .returned (.int .i64 (cmpI a b)) by simp [cmpI, h1, h2])
      go_enter Try.func91, Try.ntmps91
      go_wp2_with (go_in)
      go_ret
      exact ⟨H.out, rfl⟩
    · have H := Lib.hid (show Ending.returned (.int .i64 0) = .returned (.int .i64 (cmpI a b)) by simp [cmpI, h1, h2])
      go_enter Try.func91, Try.ntmps91
      go_wp2_with (go_in)
      go_ret
      exact ⟨H.out, rfl⟩
theorem cmp_string_any (a b : ByteArray) (w : World) : Calls Try.prog 92 #[.string a, .string b] w fun e w' => e = .returned (.int .i64 (cmpS a b)) ∧ w = w' := by
  cases h1 : Op.bytesLess a.toList b.toList
  · cases h2 : (!a.toList == b.toList)
    · have H := Lib.hid (show Ending.returned (.int .i64 0) = .returned (.int .i64 (cmpS a b)) by simp only [cmpS, h1, h2]; rfl)
      go_enter Try.func92, Try.ntmps92
      go_wp2_with (go_in)
      go_ret
      exact ⟨H.out, rfl⟩
    · have H := Lib.hid (show Ending.returned (.int .i64 1) = .returned (.int .i64 (cmpS a b)) by simp only [cmpS, h1, h2]; rfl)
      go_enter Try.func92, Try.ntmps92
      go_wp2_with (go_in)
      go_ret
      exact ⟨H.out, rfl⟩
  · have H := Lib.hid (show Ending.returned (.int .i64 (-1)) = .returned (.int .i64 (cmpS a b)) by simp only [cmpS, h1]; rfl)
    go_enter Try.func92, Try.ntmps92
    go_wp2_with (go_in)
    go_ret
    exact ⟨H.out, rfl⟩
theorem cmp_float_any (x y : Nat) (w : World) : Calls Try.prog 85 #[.float .f64 x, .float .f64 y] w fun e w' => e = .returned (.int .i64 (cmpF x y)) ∧ w = w' := by
  cases h1 : (FloatKind.f64.format.order x x != some Ordering.eq)
  · cases h2 : (FloatKind.f64.format.order y y != some Ordering.eq)
    · cases h3 : (FloatKind.f64.format.order x y == some Ordering.lt)
      · cases h4 : (FloatKind.f64.format.order x y == some Ordering.gt)
        · have H := Lib.hid (show Ending.returned (.int .i64 0) = .returned (.int .i64 (cmpF x y)) by simp only [cmpF, fo, h1, h2, h3, h4]; rfl)
          go_enter Try.func85, Try.ntmps85
          go_wp2_with (go_in)
          go_ret
          exact ⟨H.out, rfl⟩
        · have H := Lib.hid (show Ending.returned (.int .i64 1) = .returned (.int .i64 (cmpF x y)) by simp only [cmpF, fo, h1, h2, h3, h4]; rfl)
          go_enter Try.func85, Try.ntmps85
          go_wp2_with (go_in)
          go_ret
          exact ⟨H.out, rfl⟩
      · have H := Lib.hid (show Ending.returned (.int .i64 (-1)) = .returned (.int .i64 (cmpF x y)) by simp only [cmpF, fo, h1, h2, h3]; rfl)
        go_enter Try.func85, Try.ntmps85
        go_wp2_with (go_in)
        go_ret
        exact ⟨H.out, rfl⟩
    · have H := Lib.hid (show Ending.returned (.int .i64 1) = .returned (.int .i64 (cmpF x y)) by simp only [cmpF, fo, h1, h2]; rfl)
      go_enter Try.func85, Try.ntmps85
      go_wp2_with (go_in)
      go_ret
      exact ⟨H.out, rfl⟩
  · cases h2 : (FloatKind.f64.format.order y y != some Ordering.eq)
    · have H := Lib.hid (show Ending.returned (.int .i64 (-1)) = .returned (.int .i64 (cmpF x y)) by simp only [cmpF, fo, h1, h2]; rfl)
      go_enter Try.func85, Try.ntmps85
      go_wp2_with (go_in)
      go_ret
      exact ⟨H.out, rfl⟩
    · have H := Lib.hid (show Ending.returned (.int .i64 0) = .returned (.int .i64 (cmpF x y)) by simp only [cmpF, fo, h1, h2]; rfl)
      go_enter Try.func85, Try.ntmps85
      go_wp2_with (go_in)
      go_ret
      exact ⟨H.out, rfl⟩
theorem kind_any (K I : Int) (F : Nat) (S : ByteArray) (p : Option Addr) (l c : Nat) (w : World) : Calls Try.prog 90 #[.agg #[.int .i64 K, .int .i64 I, .float .f64 F, .string S, .slice p l c]] w fun e w' => e = .returned (.int .i64 (kindI K)) ∧ Below w.heap.size w w' := by
  cases h1 : (K == 1)
  · cases h2 : (K == 2)
    · cases h3 : (K == 3)
      · cases h4 : (K == 4)
        · have H := Lib.hid (show Ending.returned (.int .i64 0) = .returned (.int .i64 (kindI K)) by simp [kindI, h1, h2, h3, h4])
          go_enter Try.func90, Try.ntmps90
          go_wp2
          go_ret
          exact ⟨H.out, (Below.refl _ _).alloc (Nat.le_refl _) _⟩
        · have H := Lib.hid (show Ending.returned (.int .i64 K) = .returned (.int .i64 (kindI K)) by simp [kindI, h1, h2, h3, h4])
          go_enter Try.func90, Try.ntmps90
          go_wp2
          go_ret
          exact ⟨H.out, (Below.refl _ _).alloc (Nat.le_refl _) _⟩
      · have H := Lib.hid (show Ending.returned (.int .i64 K) = .returned (.int .i64 (kindI K)) by simp [kindI, h1, h2, h3])
        go_enter Try.func90, Try.ntmps90
        go_wp2
        go_ret
        exact ⟨H.out, (Below.refl _ _).alloc (Nat.le_refl _) _⟩
    · have H := Lib.hid (show Ending.returned (.int .i64 K) = .returned (.int .i64 (kindI K)) by simp [kindI, h1, h2])
      go_enter Try.func90, Try.ntmps90
      go_wp2
      go_ret
      exact ⟨H.out, (Below.refl _ _).alloc (Nat.le_refl _) _⟩
  · have H := Lib.hid (show Ending.returned (.int .i64 K) = .returned (.int .i64 (kindI K)) by simp [kindI, h1])
    go_enter Try.func90, Try.ntmps90
    go_wp2
    go_ret
    exact ⟨H.out, (Below.refl _ _).alloc (Nat.le_refl _) _⟩
end Num
end Go.Proofs.Yteoimpagdgnkbaa
