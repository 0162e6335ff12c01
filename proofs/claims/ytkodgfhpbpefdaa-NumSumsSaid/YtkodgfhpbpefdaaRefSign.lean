/-
  The reference's Sign and Finite.
-/
import Derived.Test.YtkodgfhpbpefdaaSign
import Derived.Deep.QuietTactic
import Derived.BigQuiet
namespace Go.Proofs.Ytkodgfhpbpefdaa
open Go.RowKit
namespace Num
open Ints
set_option linter.unusedSimpArgs false
set_option linter.unusedVariables false
theorem refSign_any (K I : Int) (F : Nat) (S : ByteArray) (p : Option Addr) (l c : Nat) (w : World) : Calls Try.prog 23 #[.agg #[.int .i64 K, .int .i64 I, .float .f64 F, .string S, .slice p l c]] w fun e w' => e = .returned (.int .i64 (signV K I F)) ∧ Below w.heap.size w w' := by
  cases h1 : (K == 1)
  · cases h2 : (K == 2)
    · have H := Lib.hid (show Ending.returned (.int .i64 0) = .returned (.int .i64 (signV K I F)) by unfold signV isNum; rw [h1, h2]; rfl)
      go_enter Try.func23, Try.ntmps23
      go_wp2
      go_ret
      exact ⟨H.out, ((Below.refl _ _).alloc (Nat.le_refl _) _)⟩
    · cases h3 : (FloatKind.f64.format.order F 0 == some .lt)
      · cases h4 : (FloatKind.f64.format.order F 0 == some .gt)
        · have H := Lib.hid (show Ending.returned (.int .i64 0) = .returned (.int .i64 (signV K I F)) by unfold signV isNum signF; rw [h1, h2, h3, h4]; rfl)
          go_enter Try.func23, Try.ntmps23
          go_wp2
          go_ret
          exact ⟨H.out, ((Below.refl _ _).alloc (Nat.le_refl _) _)⟩
        · have H := Lib.hid (show Ending.returned (.int .i64 1) = .returned (.int .i64 (signV K I F)) by unfold signV isNum signF; rw [h1, h2, h3, h4]; rfl)
          go_enter Try.func23, Try.ntmps23
          go_wp2
          go_ret
          exact ⟨H.out, ((Below.refl _ _).alloc (Nat.le_refl _) _)⟩
      · have H := Lib.hid (show Ending.returned (.int .i64 (-1)) = .returned (.int .i64 (signV K I F)) by unfold signV isNum signF; rw [h1, h2, h3]; rfl)
        go_enter Try.func23, Try.ntmps23
        go_wp2
        go_ret
        exact ⟨H.out, ((Below.refl _ _).alloc (Nat.le_refl _) _)⟩
  · have h2 : (K == 2) = false := by
      have : K = 1 := by simpa using h1
      subst this; rfl
    by_cases h3 : I < 0
    · have H := Lib.hid (show Ending.returned (.int .i64 (-1)) = .returned (.int .i64 (signV K I F)) by unfold signV isNum signI; rw [h1, if_pos h3]; rfl)
      go_enter Try.func23, Try.ntmps23
      go_wp2
      go_ret
      exact ⟨H.out, ((Below.refl _ _).alloc (Nat.le_refl _) _)⟩
    by_cases h4 : 0 < I
    · have H := Lib.hid (show Ending.returned (.int .i64 1) = .returned (.int .i64 (signV K I F)) by unfold signV isNum signI; rw [h1, if_neg h3, if_pos h4]; rfl)
      go_enter Try.func23, Try.ntmps23
      go_wp2
      go_ret
      exact ⟨H.out, ((Below.refl _ _).alloc (Nat.le_refl _) _)⟩
    · have H := Lib.hid (show Ending.returned (.int .i64 0) = .returned (.int .i64 (signV K I F)) by unfold signV isNum signI; rw [h1, if_neg h3, if_neg h4]; rfl)
      go_enter Try.func23, Try.ntmps23
      go_wp2
      go_ret
      exact ⟨H.out, ((Below.refl _ _).alloc (Nat.le_refl _) _)⟩
end Num
end Go.Proofs.Ytkodgfhpbpefdaa
