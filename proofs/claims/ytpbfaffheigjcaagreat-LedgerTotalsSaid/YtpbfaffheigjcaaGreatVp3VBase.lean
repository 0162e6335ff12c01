/-
  Package value's base: rows of memory carried over calls; the makers of values of the reference, Canon and Bits.
-/
import Derived.Test.YtpbfaffheigjcaaGreatVMI
import Derived.Test.YtpbfaffheigjcaaGreatVp2Flo
import Derived.Test.YtpbfaffheigjcaaGreatVp0Row
import Derived.Test.YtpbfaffheigjcaaGreatChecked
import Derived.WalkSpells
import Derived.WalkLawsBesides
import Derived.Lib.Hide
import Derived.Deep.QuietTactic
import Derived.BigQuiet
import Derived.OwnWalk
namespace Go.Proofs.YtpbfaffheigjcaaGreat
open Go.RowKit
namespace Num
set_option linter.unusedSimpArgs false
set_option linter.unusedVariables false
open Ints
@[go_sem] theorem call_bits (x : Nat) (w : World) : (callFunc 46 #[.float .f64 x]).run Tryz.prog w = .ok (.value (.int .u64 x)) w :=
  (run_callFunc_extern Tryz.func46 (by kernel_rfl) (by kernel_rfl) (by kernel_rfl) (e := Extern.MathFloatBits.float64bits) (by kernel_rfl) _ w).trans rfl
@[go_sem] theorem call_frombits (n : Int) (w : World) : (callFunc 79 #[.int .u64 n]).run Tryz.prog w = .ok (.value (.float .f64 n.toNat)) w :=
  (run_callFunc_extern Tryz.func79 (by kernel_rfl) (by kernel_rfl) (by kernel_rfl) (e := Extern.MathFloatBits.float64frombits) (by kernel_rfl) _ w).trans rfl
theorem canon_ref_any (x : Nat) (w : World) : Calls Tryz.prog 45 #[.float .f64 x] w fun e w' => e = .returned (.float .f64 (Flo.canon x)) ∧ w = w' := by
  cases h : (FloatKind.f64.format.order x x != some .eq)
  · have H : Hid _ := Lib.hid (show Ending.returned (.float .f64 x) = .returned (.float .f64 (Flo.canon x)) by rw [Flo.canon_yes (x := x) (by unfold Flo.feq; rw [bne] at h; simpa using h)])
    go_enter Tryz.func45, Tryz.ntmps45
    go_wp2
    go_ret
    exact ⟨H.out, rfl⟩
  · have H : Hid _ := Lib.hid (show Ending.returned (.float .f64 9221120237041090561) = .returned (.float .f64 (Flo.canon x)) by rw [Flo.canon_no (x := x) (by unfold Flo.feq; rw [bne] at h; simpa using h)]; rfl)
    go_enter Tryz.func45, Tryz.ntmps45
    go_wp2
    go_ret
    exact ⟨H.out, rfl⟩
theorem int_ref_any (n : Int) (w : World) : Calls Tryz.prog 21 #[.int .i64 n] w fun e w' => e = .returned (.agg #[.int .i64 1, .int .i64 n, .float .f64 0, .string ⟨#[]⟩, .slice none 0 0]) ∧ Below w.heap.size w w' := by
  go_enter Tryz.func21, Tryz.ntmps21
  go_wp2
  exact bodyPost_ret (v := .agg #[.int .i64 1, .int .i64 n, .float .f64 0, .string ⟨#[]⟩, .slice none 0 0]) (by simp [results, Tryz.results21, go_sem]) rfl ⟨rfl, (br.alloc (Nat.le_refl _) _)⟩
theorem float_ref_any (x : Nat) (w : World) : Calls Tryz.prog 20 #[.float .f64 x] w fun e w' => e = .returned (.agg #[.int .i64 2, .int .i64 0, .float .f64 (Flo.canon x), .string ⟨#[]⟩, .slice none 0 0]) ∧ Below w.heap.size w w' := by
  go_enter Tryz.func20, Tryz.ntmps20
  go_wp2_with (first | (go_at_call 45; refine (canon_ref_any _ _).mono ?_; rintro e w' ⟨rfl, rfl⟩))
  exact bodyPost_ret (v := .agg #[.int .i64 2, .int .i64 0, .float .f64 (Flo.canon x), .string ⟨#[]⟩, .slice none 0 0]) (by simp [results, Tryz.results20, go_sem]) rfl ⟨rfl, (br.alloc (Nat.le_refl _) _)⟩
theorem text_ref_any (s : ByteArray) (w : World) : Calls Tryz.prog 19 #[.string s] w fun e w' => e = .returned (.agg #[.int .i64 3, .int .i64 0, .float .f64 0, .string s, .slice none 0 0]) ∧ Below w.heap.size w w' := by
  go_enter Tryz.func19, Tryz.ntmps19
  go_wp2
  exact bodyPost_ret (v := .agg #[.int .i64 3, .int .i64 0, .float .f64 0, .string s, .slice none 0 0]) (by simp [results, Tryz.results19, go_sem]) rfl ⟨rfl, (br.alloc (Nat.le_refl _) _)⟩
end Num
end Go.Proofs.YtpbfaffheigjcaaGreat
/-
  Bits of the reference.
-/
namespace Go.Proofs.YtpbfaffheigjcaaGreat
open Go.RowKit
namespace Num
open Ints
set_option linter.unusedSimpArgs false
set_option linter.unusedVariables false
theorem bits_ref_any (x : Nat) (w : World) : Calls Tryz.prog 23 #[.float .f64 x] w fun e w' => e = .returned (.int .u64 (Flo.canon x)) ∧ w = w' := by
  go_enter Tryz.func23, Tryz.ntmps23
  go_wp2_with (first | (go_at_call 45; refine (canon_ref_any _ _).mono ?_; rintro e w' ⟨rfl, rfl⟩))
  go_ret
  exact ⟨rfl, rfl⟩
end Num
end Go.Proofs.YtpbfaffheigjcaaGreat
/-
  Canon of package num.
-/
namespace Go.Proofs.YtpbfaffheigjcaaGreat
open Go.RowKit
namespace Num
open Ints
set_option linter.unusedSimpArgs false
set_option linter.unusedVariables false
theorem canon_any (x : Nat) (w : World) : Calls Tryz.prog 99 #[.float .f64 x] w fun e w' => e = .returned (.float .f64 (Flo.canon x)) ∧ w = w' := by
  cases h : (FloatKind.f64.format.order x x != some .eq)
  · have H : Hid _ := Lib.hid (show Ending.returned (.float .f64 x) = .returned (.float .f64 (Flo.canon x)) by rw [Flo.canon_yes (x := x) (by unfold Flo.feq; rw [bne] at h; simpa using h)])
    go_enter Tryz.func99, Tryz.ntmps99
    go_wp2
    go_ret
    exact ⟨H.out, rfl⟩
  · have H : Hid _ := Lib.hid (show Ending.returned (.float .f64 9221120237041090561) = .returned (.float .f64 (Flo.canon x)) by rw [Flo.canon_no (x := x) (by unfold Flo.feq; rw [bne] at h; simpa using h)]; rfl)
    go_enter Tryz.func99, Tryz.ntmps99
    go_wp2
    go_ret
    exact ⟨H.out, rfl⟩
end Num
end Go.Proofs.YtpbfaffheigjcaaGreat
/-
  The reference's List.
-/
namespace Go.Proofs.YtpbfaffheigjcaaGreat
open Go.RowKit
namespace Num
open Ints
set_option linter.unusedSimpArgs false
set_option linter.unusedVariables false
theorem list_ref_any (p : Option Addr) (l c : Nat) (w : World) : Calls Tryz.prog 18 #[.slice p l c] w fun e w' => e = .returned (.agg #[.int .i64 4, .int .i64 0, .float .f64 0, .string ⟨#[]⟩, .slice p l c]) ∧ Below w.heap.size w w' := by
  go_enter Tryz.func18, Tryz.ntmps18
  go_wp2
  exact bodyPost_ret (v := .agg #[.int .i64 4, .int .i64 0, .float .f64 0, .string ⟨#[]⟩, .slice p l c]) (by simp [results, Tryz.results18, go_sem]) rfl ⟨rfl, (br.alloc (Nat.le_refl _) _)⟩
end Num
end Go.Proofs.YtpbfaffheigjcaaGreat
/-
  The reference's Sign and Finite.
-/
namespace Go.Proofs.YtpbfaffheigjcaaGreat
open Go.RowKit
namespace Num
open Ints
set_option linter.unusedSimpArgs false
set_option linter.unusedVariables false
theorem refSign_any (K I : Int) (F : Nat) (S : ByteArray) (p : Option Addr) (l c : Nat) (w : World) : Calls Tryz.prog 105 #[.agg #[.int .i64 K, .int .i64 I, .float .f64 F, .string S, .slice p l c]] w fun e w' => e = .returned (.int .i64 (signV K I F)) ∧ Below w.heap.size w w' := by
  cases h1 : (K == 1)
  · cases h2 : (K == 2)
    · have H := Lib.hid (show Ending.returned (.int .i64 0) = .returned (.int .i64 (signV K I F)) by unfold signV isNum; rw [h1, h2]; rfl)
      go_enter Tryz.func105, Tryz.ntmps105
      go_wp2
      go_ret
      exact ⟨H.out, (br.alloc (Nat.le_refl _) _)⟩
    · cases h3 : (FloatKind.f64.format.order F 0 == some .lt)
      · cases h4 : (FloatKind.f64.format.order F 0 == some .gt)
        · have H := Lib.hid (show Ending.returned (.int .i64 0) = .returned (.int .i64 (signV K I F)) by unfold signV isNum signF; rw [h1, h2, h3, h4]; rfl)
          go_enter Tryz.func105, Tryz.ntmps105
          go_wp2
          go_ret
          exact ⟨H.out, (br.alloc (Nat.le_refl _) _)⟩
        · have H := Lib.hid (show Ending.returned (.int .i64 1) = .returned (.int .i64 (signV K I F)) by unfold signV isNum signF; rw [h1, h2, h3, h4]; rfl)
          go_enter Tryz.func105, Tryz.ntmps105
          go_wp2
          go_ret
          exact ⟨H.out, (br.alloc (Nat.le_refl _) _)⟩
      · have H := Lib.hid (show Ending.returned (.int .i64 (-1)) = .returned (.int .i64 (signV K I F)) by unfold signV isNum signF; rw [h1, h2, h3]; rfl)
        go_enter Tryz.func105, Tryz.ntmps105
        go_wp2
        go_ret
        exact ⟨H.out, (br.alloc (Nat.le_refl _) _)⟩
  · have h2 : (K == 2) = false := by
      have : K = 1 := by simpa using h1
      subst this; rfl
    by_cases h3 : I < 0
    · have H := Lib.hid (show Ending.returned (.int .i64 (-1)) = .returned (.int .i64 (signV K I F)) by unfold signV isNum signI; rw [h1, if_pos h3]; rfl)
      go_enter Tryz.func105, Tryz.ntmps105
      go_wp2
      go_ret
      exact ⟨H.out, (br.alloc (Nat.le_refl _) _)⟩
    by_cases h4 : 0 < I
    · have H := Lib.hid (show Ending.returned (.int .i64 1) = .returned (.int .i64 (signV K I F)) by unfold signV isNum signI; rw [h1, if_neg h3, if_pos h4]; rfl)
      go_enter Tryz.func105, Tryz.ntmps105
      go_wp2
      go_ret
      exact ⟨H.out, (br.alloc (Nat.le_refl _) _)⟩
    · have H := Lib.hid (show Ending.returned (.int .i64 0) = .returned (.int .i64 (signV K I F)) by unfold signV isNum signI; rw [h1, if_neg h3, if_neg h4]; rfl)
      go_enter Tryz.func105, Tryz.ntmps105
      go_wp2
      go_ret
      exact ⟨H.out, (br.alloc (Nat.le_refl _) _)⟩
end Num
end Go.Proofs.YtpbfaffheigjcaaGreat
/-
  Finite of the reference: a float less itself is nought just where it is a number; Lights.
-/
namespace Go.Proofs.YtpbfaffheigjcaaGreat
open Go.RowKit
namespace Num
open Ints
set_option linter.unusedSimpArgs false
set_option linter.unusedVariables false
theorem read_max : FloatKind.f64.format.read 9218868437227405311 = .number false 9007199254740991 971 := by decide +kernel
theorem sw : FloatKind.f64.format.signWeight = 9223372036854775808 := by decide +kernel
theorem bin : FloatKind.f64.format.binade = 4503599627370496 := by decide +kernel
theorem infr : FloatKind.f64.format.infRung = 9218868437227405312 := by decide +kernel
theorem lp : FloatKind.f64.format.leastPlace = -1074 := by decide +kernel
theorem read_abs (x : Nat) : (∀ s m e, FloatKind.f64.format.read x = .number s m e → ∃ k : Nat, k ≤ 2045 ∧ m ≤ 9007199254740991 ∧ e = -1074 + (k : Int) ∧ FloatKind.f64.format.read (x % 9223372036854775808) = .number false m e) ∧
    (∀ s, FloatKind.f64.format.read x = .infinity s → FloatKind.f64.format.read (x % 9223372036854775808) = .infinity false) := by
  have hneg : (x % 9223372036854775808 / 9223372036854775808 % 2 == 1) = false := by
    have : x % 9223372036854775808 / 9223372036854775808 = 0 := by omega
    rw [this]; rfl
  unfold Ieee.Format.read
  simp only [sw, bin, infr, lp, Nat.mod_mod, hneg]
  refine ⟨fun s m e h => ?_, fun s h => ?_⟩
  · by_cases h1 : x % 9223372036854775808 < 4503599627370496
    · rw [if_pos h1] at h ⊢
      cases h
      exact ⟨0, by omega, by omega, by omega, rfl⟩
    · rw [if_neg h1] at h ⊢
      by_cases h2 : x % 9223372036854775808 < 9218868437227405312
      · rw [if_pos h2] at h ⊢
        cases h
        exact ⟨x % 9223372036854775808 / 4503599627370496 - 1, by omega, by omega, by omega, rfl⟩
      · rw [if_neg h2] at h
        by_cases h3 : x % 9223372036854775808 = 9218868437227405312
        · rw [if_pos h3] at h; cases h
        · rw [if_neg h3] at h; cases h
  · by_cases h1 : x % 9223372036854775808 < 4503599627370496
    · rw [if_pos h1] at h; cases h
    · rw [if_neg h1] at h ⊢
      by_cases h2 : x % 9223372036854775808 < 9218868437227405312
      · rw [if_pos h2] at h; cases h
      · rw [if_neg h2] at h ⊢
        by_cases h3 : x % 9223372036854775808 = 9218868437227405312
        · rw [if_pos h3]
        · rw [if_neg h3] at h; cases h
theorem isInf_number {x : Nat} {s : Bool} {m : Nat} {e : Int} (h : FloatKind.f64.format.read x = .number s m e) : isInfB x = false := by
  obtain ⟨k, hk, hm, he, hr⟩ := (read_abs x).1 s m e h
  unfold isInfB Ieee.Format.order
  rw [hr, read_max, he]
  have hmin : min (-1074 + (k : Int)) 971 = -1074 + (k : Int) := by omega
  simp only [Ieee.Datum.order, hmin]
  have h1 : (-1074 + (k : Int) - (-1074 + (k : Int))).toNat = 0 := by omega
  have h2 : (971 - (-1074 + (k : Int))).toNat = 2045 - k := by omega
  rw [h1, h2]
  have h3 : Ieee.signed false m 0 = (m : Int) := by simp [Ieee.signed]
  have h4 : Ieee.signed false 9007199254740991 (2045 - k) = ((9007199254740991 <<< (2045 - k) : Nat) : Int) := rfl
  rw [h3, h4]
  have h5 : 9007199254740991 ≤ 9007199254740991 <<< (2045 - k) := by
    rw [Nat.shiftLeft_eq]
    exact Nat.le_mul_of_pos_right _ (Nat.two_pow_pos _)
  have h6 : compare (m : Int) ((9007199254740991 <<< (2045 - k) : Nat) : Int) ≠ .gt := fun hc => by
    have := Int.compare_eq_gt.1 hc
    omega
  cases hc : compare (m : Int) ((9007199254740991 <<< (2045 - k) : Nat) : Int) with
  | lt => rfl
  | eq => rfl
  | gt => exact absurd hc h6
theorem isInf_inf {x : Nat} {s : Bool} (h : FloatKind.f64.format.read x = .infinity s) : isInfB x = true := by
  have hr := (read_abs x).2 s h
  unfold isInfB Ieee.Format.order
  rw [hr, read_max]
  rfl
theorem sub_some {x r : Nat} (h : floatBits .sub .f64 x x = some r) : (Flo.feq x x && !isInfB x) = true ∧ (FloatKind.f64.format.order r 0 == some .eq) = true := by
  have h' : ((FloatKind.f64.format.read x).sum (FloatKind.f64.format.read x).opposite).map FloatKind.f64.format.write = some r := h
  cases hr : FloatKind.f64.format.read x with
  | nan s f => rw [hr] at h'; cases h'
  | infinity s => rw [hr] at h'; cases s <;> cases h'
  | number s m e =>
    rw [hr] at h'
    have hs : (Ieee.Datum.number s m e).sum (Ieee.Datum.number s m e).opposite = some (.number false 0 e) := by
      cases s <;> simp [Ieee.Datum.sum, Ieee.Datum.opposite, Ieee.signed] <;> omega
    rw [hs] at h'
    have hw : FloatKind.f64.format.write (.number false 0 e) = 0 := by simp [Ieee.Format.write, Ieee.Format.nearest, Ieee.Format.word]
    rw [Option.map_some, hw] at h'
    cases h'
    refine ⟨?_, by decide +kernel⟩
    rw [isInf_number hr, Flo.feq_self (by rw [hr]; rfl)]
    rfl
theorem sub_none {x : Nat} (h : floatBits .sub .f64 x x = none) : (Flo.feq x x && !isInfB x) = false := by
  have h' : ((FloatKind.f64.format.read x).sum (FloatKind.f64.format.read x).opposite).map FloatKind.f64.format.write = none := h
  cases hr : FloatKind.f64.format.read x with
  | nan s f => rw [Flo.feq_nan (by rw [hr]; rfl)]; rfl
  | infinity s => rw [isInf_inf hr]; simp
  | number s m e => rw [hr] at h'; cases s <;> simp [Ieee.Datum.sum, Ieee.Datum.opposite] at h'
theorem drawn_ne (x y t : Nat) : (FloatKind.f64.format.order (Flo.drawn x y t) 0 == some .eq) = false := Flo.feq_nan (Flo.read_drawn x y t) 0
theorem refFinite_any (K I : Int) (F : Nat) (S : ByteArray) (p : Option Addr) (l c : Nat) (w : World) : Calls Tryz.prog 72 #[.agg #[.int .i64 K, .int .i64 I, .float .f64 F, .string S, .slice p l c]] w fun e w' => e = .returned (.bool (finV K F)) ∧ Below w.heap.size w w' := by
  cases h2 : (K == 2)
  · cases h1 : (K == 1)
    · have H := Lib.hid (show Ending.returned (.bool false) = .returned (.bool (finV K F)) by unfold finV; rw [h2, h1]; rfl)
      go_enter Tryz.func72, Tryz.ntmps72
      go_wp2
      go_ret
      exact ⟨H.out, (br.alloc (Nat.le_refl _) _)⟩
    · have H := Lib.hid (show Ending.returned (.bool true) = .returned (.bool (finV K F)) by unfold finV; rw [h2, h1]; rfl)
      go_enter Tryz.func72, Tryz.ntmps72
      go_wp2
      go_ret
      exact ⟨H.out, (br.alloc (Nat.le_refl _) _)⟩
  · have h1 : (K == 1) = false := by
      have : K = 2 := by simpa using h2
      subst this; rfl
    cases hr : floatBits .sub .f64 F F with
    | some r =>
      have H := Lib.hid (show Ending.returned (.bool true) = .returned (.bool (finV K F)) by unfold finV; rw [h2, (sub_some hr).1]; rfl)
      have hop : ∀ t w, (binOp .sub t (.float .f64 F) (.float .f64 F)).run Tryz.prog w = .ok (.float .f64 r) w := fun t w => run_float_arith w .sub t .f64 _ _ _ hr
      have h3 := (sub_some hr).2
      clear hr
      go_enter Tryz.func72, Tryz.ntmps72
      go_wp2
      go_ret
      exact ⟨H.out, (br.alloc (Nat.le_refl _) _)⟩
    | none =>
      have H := Lib.hid (show Ending.returned (.bool false) = .returned (.bool (finV K F)) by unfold finV; rw [h2, sub_none hr]; rfl)
      have hop : ∀ t w, (binOp .sub t (.float .f64 F) (.float .f64 F)).run Tryz.prog w = .ok (.float .f64 (Flo.drawn F F (w.tape w.drawn (.nanBits .f64 F F)))) w.drew := fun t w => Flo.run_none w .sub t _ _ (by simp) hr
      have h3 := drawn_ne F F
      clear hr
      go_enter Tryz.func72, Tryz.ntmps72
      go_wp2
      go_ret
      exact ⟨H.out, Below.drew (br.alloc (Nat.le_refl _) _)⟩
end Num
end Go.Proofs.YtpbfaffheigjcaaGreat
