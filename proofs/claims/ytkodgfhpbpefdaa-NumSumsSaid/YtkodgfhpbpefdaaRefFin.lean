/-
  Finite of the reference: a float less itself is nought just where it is a number; Lights.
-/
import Derived.Test.YtkodgfhpbpefdaaRefSign
import Derived.Test.YtkodgfhpbpefdaaRefSum
namespace Go.Proofs.Ytkodgfhpbpefdaa
open Go.RowKit
namespace Num
open Ints
set_option linter.unusedSimpArgs false
set_option linter.unusedVariables false
theorem read_max : FloatKind.f64.format.read 9218868437227405311 = .number false 9007199254740991 971 := by decide +kernel
theorem sw : FloatKind.f64.format.signWeight = 9223372036854775808 := by decide +kernel
theorem bin : FloatKind.f64.format.binade = 4503599627370496 := by decide +kernel
theorem infr : FloatKind.f64.format.infRung = 9218868437227405312 := by decide +kernel
theorem lp : FloatKind.f64.format.leastPlace = -1074 := by decide +kernel
/-- What a word without its sign reads as. -/
theorem read_abs (x : Nat) : (∀ s m e, FloatKind.f64.format.read x = .number s m e → ∃ k : Nat, k ≤ 2045 ∧ m ≤ 9007199254740991 ∧ e = -1074 + (k : Int) ∧ FloatKind.f64.format.read (x % 9223372036854775808) = .number false m e) ∧
    (∀ s, FloatKind.f64.format.read x = .infinity s → FloatKind.f64.format.read (x % 9223372036854775808) = .infinity false) := by
  have hneg : (x % 9223372036854775808 / 9223372036854775808 % 2 == 1) = false := by
    have : x % 9223372036854775808 / 9223372036854775808 = 0 := by omega
    rw [this]; rfl
  unfold Ieee.Format.read
  simp only [sw, bin, infr, lp, Nat.mod_mod, hneg]
  refine ⟨fun s m e h => ?_, fun s h => ?_⟩
  · by_cases h1 : x % 9223372036854775808 < 4503599627370496
    · rw [if_pos h1] at h ⊢
      cases h
      exact ⟨0, by omega, by omega, by omega, rfl⟩
    · rw [if_neg h1] at h ⊢
      by_cases h2 : x % 9223372036854775808 < 9218868437227405312
      · rw [if_pos h2] at h ⊢
        cases h
        exact ⟨x % 9223372036854775808 / 4503599627370496 - 1, by omega, by omega, by omega, rfl⟩
      · rw [if_neg h2] at h
        by_cases h3 : x % 9223372036854775808 = 9218868437227405312
        · rw [if_pos h3] at h; cases h
        · rw [if_neg h3] at h; cases h
  · by_cases h1 : x % 9223372036854775808 < 4503599627370496
    · rw [if_pos h1] at h; cases h
    · rw [if_neg h1] at h ⊢
      by_cases h2 : x % 9223372036854775808 < 9218868437227405312
      · rw [if_pos h2] at h; cases h
      · rw [if_neg h2] at h ⊢
        by_cases h3 : x % 9223372036854775808 = 9218868437227405312
        · rw [if_pos h3]
        · rw [if_neg h3] at h; cases h
theorem isInf_number {x : Nat} {s : Bool} {m : Nat} {e : Int} (h : FloatKind.f64.format.read x = .number s m e) : isInfB x = false := by
  obtain ⟨k, hk, hm, he, hr⟩ := (read_abs x).1 s m e h
  unfold isInfB Ieee.Format.order
  rw [hr, read_max, he]
  have hmin : min (-1074 + (k : Int)) 971 = -1074 + (k : Int) := by omega
  simp only [Ieee.Datum.order, hmin]
  have h1 : (-1074 + (k : Int) - (-1074 + (k : Int))).toNat = 0 := by omega
  have h2 : (971 - (-1074 + (k : Int))).toNat = 2045 - k := by omega
  rw [h1, h2]
  have h3 : Ieee.signed false m 0 = (m : Int) := by simp [Ieee.signed]
  have h4 : Ieee.signed false 9007199254740991 (2045 - k) = ((9007199254740991 <<< (2045 - k) : Nat) : Int) := rfl
  rw [h3, h4]
  have h5 : 9007199254740991 ≤ 9007199254740991 <<< (2045 - k) := by
    rw [Nat.shiftLeft_eq]
    exact Nat.le_mul_of_pos_right _ (Nat.two_pow_pos _)
  have h6 : compare (m : Int) ((9007199254740991 <<< (2045 - k) : Nat) : Int) ≠ .gt := fun hc => by
    have := Int.compare_eq_gt.1 hc
    omega
  cases hc : compare (m : Int) ((9007199254740991 <<< (2045 - k) : Nat) : Int) with
  | lt => rfl
  | eq => rfl
  | gt => exact absurd hc h6
theorem isInf_inf {x : Nat} {s : Bool} (h : FloatKind.f64.format.read x = .infinity s) : isInfB x = true := by
  have hr := (read_abs x).2 s h
  unfold isInfB Ieee.Format.order
  rw [hr, read_max]
  rfl
theorem sub_some {x r : Nat} (h : floatBits .sub .f64 x x = some r) : (Flo.feq x x && !isInfB x) = true ∧ (FloatKind.f64.format.order r 0 == some .eq) = true := by
  have h' : ((FloatKind.f64.format.read x).sum (FloatKind.f64.format.read x).opposite).map FloatKind.f64.format.write = some r := h
  cases hr : FloatKind.f64.format.read x with
  | nan s f => rw [hr] at h'; cases h'
  | infinity s => rw [hr] at h'; cases s <;> cases h'
  | number s m e =>
    rw [hr] at h'
    have hs : (Ieee.Datum.number s m e).sum (Ieee.Datum.number s m e).opposite = some (.number false 0 e) := by
      cases s <;> simp [Ieee.Datum.sum, Ieee.Datum.opposite, Ieee.signed] <;> omega
    rw [hs] at h'
    have hw : FloatKind.f64.format.write (.number false 0 e) = 0 := by simp [Ieee.Format.write, Ieee.Format.nearest, Ieee.Format.word]
    rw [Option.map_some, hw] at h'
    cases h'
    refine ⟨?_, by decide +kernel⟩
    rw [isInf_number hr, Flo.feq_self (by rw [hr]; rfl)]
    rfl
theorem sub_none {x : Nat} (h : floatBits .sub .f64 x x = none) : (Flo.feq x x && !isInfB x) = false := by
  have h' : ((FloatKind.f64.format.read x).sum (FloatKind.f64.format.read x).opposite).map FloatKind.f64.format.write = none := h
  cases hr : FloatKind.f64.format.read x with
  | nan s f => rw [Flo.feq_nan (by rw [hr]; rfl)]; rfl
  | infinity s => rw [isInf_inf hr]; simp
  | number s m e => rw [hr] at h'; cases s <;> simp [Ieee.Datum.sum, Ieee.Datum.opposite] at h'
theorem drawn_ne (x y t : Nat) : (FloatKind.f64.format.order (Flo.drawn x y t) 0 == some .eq) = false := Flo.feq_nan (Flo.read_drawn x y t) 0
theorem refFinite_any (K I : Int) (F : Nat) (S : ByteArray) (p : Option Addr) (l c : Nat) (w : World) : Calls Try.prog 26 #[.agg #[.int .i64 K, .int .i64 I, .float .f64 F, .string S, .slice p l c]] w fun e w' => e = .returned (.bool (finV K F)) ∧ Below w.heap.size w w' := by
  cases h2 : (K == 2)
  · cases h1 : (K == 1)
    · have H := Lib.hid (show Ending.returned (.bool false) = .returned (.bool (finV K F)) by unfold finV; rw [h2, h1]; rfl)
      go_enter Try.func26, Try.ntmps26
      go_wp2
      go_ret
      exact ⟨H.out, ((Below.refl _ _).alloc (Nat.le_refl _) _)⟩
    · have H := Lib.hid (show Ending.returned (.bool true) = .returned (.bool (finV K F)) by unfold finV; rw [h2, h1]; rfl)
      go_enter Try.func26, Try.ntmps26
      go_wp2
      go_ret
      exact ⟨H.out, ((Below.refl _ _).alloc (Nat.le_refl _) _)⟩
  · have h1 := one_of_two h2
    cases hr : floatBits .sub .f64 F F with
    | some r =>
      have H := Lib.hid (show Ending.returned (.bool true) = .returned (.bool (finV K F)) by unfold finV; rw [h2, (sub_some hr).1]; rfl)
      have hop : ∀ t w, (binOp .sub t (.float .f64 F) (.float .f64 F)).run Try.prog w = .ok (.float .f64 r) w := fun t w => run_float_arith w .sub t .f64 _ _ _ hr
      have h3 := (sub_some hr).2
      clear hr
      go_enter Try.func26, Try.ntmps26
      go_wp2
      go_ret
      exact ⟨H.out, ((Below.refl _ _).alloc (Nat.le_refl _) _)⟩
    | none =>
      have H := Lib.hid (show Ending.returned (.bool false) = .returned (.bool (finV K F)) by unfold finV; rw [h2, sub_none hr]; rfl)
      have hop : ∀ t w, (binOp .sub t (.float .f64 F) (.float .f64 F)).run Try.prog w = .ok (.float .f64 (Flo.drawn F F (w.tape w.drawn (.nanBits .f64 F F)))) w.drew := fun t w => Flo.run_none w .sub t _ _ (by simp) hr
      have h3 := drawn_ne F F
      clear hr
      go_enter Try.func26, Try.ntmps26
      go_wp2
      go_ret
      exact ⟨H.out, Below.drew ((Below.refl _ _).alloc (Nat.le_refl _) _)⟩
end Num
end Go.Proofs.Ytkodgfhpbpefdaa
