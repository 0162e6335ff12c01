/-
  The tests of kinds, of package num and of its reference; a number as a float.
-/
import Derived.Test.YtkodgfhpbpefdaaMk
namespace Go.Proofs.Ytkodgfhpbpefdaa
open Go.RowKit

namespace Num
def isNum (K : Int) : Bool := K == 1 || K == 2
def asF (K I : Int) (F : Nat) : Nat := if (K == 1) = true then floatOfInt .f64 I else F
theorem asF_lt (K I : Int) (F : Nat) (h : F < 2 ^ 64) : asF K I F < 2 ^ 64 := by
  unfold asF; split
  · have := floatOfInt_wf .f64 I
    simpa [Lit.wf] using this
  · exact h
theorem isNumber_any (K I : Int) (F : Nat) (S : ByteArray) (p : Option Addr) (l c : Nat) (w : World) : Calls Try.prog 47 #[.agg #[.int .i64 K, .int .i64 I, .float .f64 F, .string S, .slice p l c]] w fun e w' => e = .returned (.bool (isNum K)) ∧ Below w.heap.size w w' := by
  cases h1 : (K == 1)
  · cases h2 : (K == 2)
    · have H : Hid _ := Lib.hid (show Ending.returned (.bool false) = .returned (.bool (isNum K)) by simp [isNum, h1, h2])
      go_enter Try.func47, Try.ntmps47
      go_wp2
      go_ret
      exact ⟨H.out, ((Below.refl _ _).alloc (Nat.le_refl _) _)⟩
    · have H : Hid _ := Lib.hid (show Ending.returned (.bool true) = .returned (.bool (isNum K)) by simp [isNum, h1, h2])
      go_enter Try.func47, Try.ntmps47
      go_wp2
      go_ret
      exact ⟨H.out, ((Below.refl _ _).alloc (Nat.le_refl _) _)⟩
  · have H : Hid _ := Lib.hid (show Ending.returned (.bool true) = .returned (.bool (isNum K)) by simp [isNum, h1])
    go_enter Try.func47, Try.ntmps47
    go_wp2
    go_ret
    exact ⟨H.out, ((Below.refl _ _).alloc (Nat.le_refl _) _)⟩
theorem number_ref_any (K I : Int) (F : Nat) (S : ByteArray) (p : Option Addr) (l c : Nat) (w : World) : Calls Try.prog 25 #[.agg #[.int .i64 K, .int .i64 I, .float .f64 F, .string S, .slice p l c]] w fun e w' => e = .returned (.bool (isNum K)) ∧ Below w.heap.size w w' := by
  cases h1 : (K == 1)
  · cases h2 : (K == 2)
    · have H : Hid _ := Lib.hid (show Ending.returned (.bool false) = .returned (.bool (isNum K)) by simp [isNum, h1, h2])
      go_enter Try.func25, Try.ntmps25
      go_wp2
      go_ret
      exact ⟨H.out, ((Below.refl _ _).alloc (Nat.le_refl _) _)⟩
    · have H : Hid _ := Lib.hid (show Ending.returned (.bool true) = .returned (.bool (isNum K)) by simp [isNum, h1, h2])
      go_enter Try.func25, Try.ntmps25
      go_wp2
      go_ret
      exact ⟨H.out, ((Below.refl _ _).alloc (Nat.le_refl _) _)⟩
  · have H : Hid _ := Lib.hid (show Ending.returned (.bool true) = .returned (.bool (isNum K)) by simp [isNum, h1])
    go_enter Try.func25, Try.ntmps25
    go_wp2
    go_ret
    exact ⟨H.out, ((Below.refl _ _).alloc (Nat.le_refl _) _)⟩
theorem toFloat_any (K I : Int) (F : Nat) (S : ByteArray) (p : Option Addr) (l c : Nat) (w : World) : Calls Try.prog 55 #[.agg #[.int .i64 K, .int .i64 I, .float .f64 F, .string S, .slice p l c]] w fun e w' => e = .returned (.float .f64 (asF K I F)) ∧ Below w.heap.size w w' := by
  cases h1 : (K == 1)
  · have H : Hid _ := Lib.hid (show Ending.returned (.float .f64 F) = .returned (.float .f64 (asF K I F)) by simp [asF, h1])
    go_enter Try.func55, Try.ntmps55
    go_wp2
    go_ret
    exact ⟨H.out, ((Below.refl _ _).alloc (Nat.le_refl _) _)⟩
  · have H : Hid _ := Lib.hid (show Ending.returned (.float .f64 (floatOfInt .f64 I)) = .returned (.float .f64 (asF K I F)) by simp [asF, h1])
    go_enter Try.func55, Try.ntmps55
    go_wp2
    go_ret
    exact ⟨H.out, ((Below.refl _ _).alloc (Nat.le_refl _) _)⟩
theorem asFloat_ref_any (K I : Int) (F : Nat) (S : ByteArray) (p : Option Addr) (l c : Nat) (w : World) : Calls Try.prog 39 #[.agg #[.int .i64 K, .int .i64 I, .float .f64 F, .string S, .slice p l c]] w fun e w' => e = .returned (.float .f64 (asF K I F)) ∧ Below w.heap.size w w' := by
  cases h1 : (K == 1)
  · have H : Hid _ := Lib.hid (show Ending.returned (.float .f64 F) = .returned (.float .f64 (asF K I F)) by simp [asF, h1])
    go_enter Try.func39, Try.ntmps39
    go_wp2
    go_ret
    exact ⟨H.out, ((Below.refl _ _).alloc (Nat.le_refl _) _)⟩
  · have H : Hid _ := Lib.hid (show Ending.returned (.float .f64 (floatOfInt .f64 I)) = .returned (.float .f64 (asF K I F)) by simp [asF, h1])
    go_enter Try.func39, Try.ntmps39
    go_wp2
    go_ret
    exact ⟨H.out, ((Below.refl _ _).alloc (Nat.le_refl _) _)⟩
end Num
end Go.Proofs.Ytkodgfhpbpefdaa
