/-
  The makers of values, Canon and Bits, and the tests of kinds, of package num and of its reference.
-/
import Derived.Test.YtkodgfhpbpefdaaLeaf
import Derived.Deep.QuietTactic
import Derived.BigQuiet
namespace Go.Proofs.Ytkodgfhpbpefdaa
open Go.RowKit

namespace Num
@[go_sem] theorem call_bits (x : Nat) (w : World) : (callFunc 51 #[.float .f64 x]).run Try.prog w = .ok (.value (.int .u64 x)) w :=
  (run_callFunc_extern Try.func51 (by kernel_rfl) (by kernel_rfl) (by kernel_rfl) (e := Extern.MathFloatBits.float64bits) (by kernel_rfl) _ w).trans rfl
@[go_sem] theorem call_frombits (n : Int) (w : World) : (callFunc 52 #[.int .u64 n]).run Try.prog w = .ok (.value (.float .f64 n.toNat)) w :=
  (run_callFunc_extern Try.func52 (by kernel_rfl) (by kernel_rfl) (by kernel_rfl) (e := Extern.MathFloatBits.float64frombits) (by kernel_rfl) _ w).trans rfl
theorem canon_any (x : Nat) (w : World) : Calls Try.prog 28 #[.float .f64 x] w fun e w' => e = .returned (.float .f64 (Flo.canon x)) ∧ w = w' := by
  cases h : (FloatKind.f64.format.order x x != some .eq)
  · have H : Hid _ := Lib.hid (show Ending.returned (.float .f64 x) = .returned (.float .f64 (Flo.canon x)) by rw [Flo.canon_yes (x := x) (by unfold Flo.feq; rw [bne] at h; simpa using h)])
    go_enter Try.func28, Try.ntmps28
    go_wp2
    go_ret
    exact ⟨H.out, rfl⟩
  · have H : Hid _ := Lib.hid (show Ending.returned (.float .f64 9221120237041090561) = .returned (.float .f64 (Flo.canon x)) by rw [Flo.canon_no (x := x) (by unfold Flo.feq; rw [bne] at h; simpa using h)]; rfl)
    go_enter Try.func28, Try.ntmps28
    go_wp2
    go_ret
    exact ⟨H.out, rfl⟩
theorem bits_any (x : Nat) (w : World) : Calls Try.prog 27 #[.float .f64 x] w fun e w' => e = .returned (.int .u64 (Flo.canon x)) ∧ w = w' := by
  go_enter Try.func27, Try.ntmps27
  go_wp2_with (first | (go_at_call 28; refine (canon_any _ _).mono ?_; rintro e w' ⟨rfl, rfl⟩))
  go_ret
  exact ⟨rfl, rfl⟩
theorem canon_ref_any (x : Nat) (w : World) : Calls Try.prog 53 #[.float .f64 x] w fun e w' => e = .returned (.float .f64 (Flo.canon x)) ∧ w = w' := by
  cases h : (FloatKind.f64.format.order x x != some .eq)
  · have H : Hid _ := Lib.hid (show Ending.returned (.float .f64 x) = .returned (.float .f64 (Flo.canon x)) by rw [Flo.canon_yes (x := x) (by unfold Flo.feq; rw [bne] at h; simpa using h)])
    go_enter Try.func53, Try.ntmps53
    go_wp2
    go_ret
    exact ⟨H.out, rfl⟩
  · have H : Hid _ := Lib.hid (show Ending.returned (.float .f64 9221120237041090561) = .returned (.float .f64 (Flo.canon x)) by rw [Flo.canon_no (x := x) (by unfold Flo.feq; rw [bne] at h; simpa using h)]; rfl)
    go_enter Try.func53, Try.ntmps53
    go_wp2
    go_ret
    exact ⟨H.out, rfl⟩
theorem bits_ref_any (x : Nat) (w : World) : Calls Try.prog 29 #[.float .f64 x] w fun e w' => e = .returned (.int .u64 (Flo.canon x)) ∧ w = w' := by
  go_enter Try.func29, Try.ntmps29
  go_wp2_with (first | (go_at_call 53; refine (canon_ref_any _ _).mono ?_; rintro e w' ⟨rfl, rfl⟩))
  go_ret
  exact ⟨rfl, rfl⟩
theorem ofInt_any (n : Int) (w : World) : Calls Try.prog 46 #[.int .i64 n] w fun e w' => e = .returned (.agg #[.int .i64 1, .int .i64 n, .float .f64 0, .string ⟨#[]⟩, .slice none 0 0]) ∧ Below w.heap.size w w' := by
  go_enter Try.func46, Try.ntmps46
  go_wp2
  exact bodyPost_ret (v := .agg #[.int .i64 1, .int .i64 n, .float .f64 0, .string ⟨#[]⟩, .slice none 0 0]) (by simp [results, Try.results46, go_sem]) rfl ⟨rfl, ((Below.refl _ _).alloc (Nat.le_refl _) _)⟩
theorem int_ref_any (n : Int) (w : World) : Calls Try.prog 18 #[.int .i64 n] w fun e w' => e = .returned (.agg #[.int .i64 1, .int .i64 n, .float .f64 0, .string ⟨#[]⟩, .slice none 0 0]) ∧ Below w.heap.size w w' := by
  go_enter Try.func18, Try.ntmps18
  go_wp2
  exact bodyPost_ret (v := .agg #[.int .i64 1, .int .i64 n, .float .f64 0, .string ⟨#[]⟩, .slice none 0 0]) (by simp [results, Try.results18, go_sem]) rfl ⟨rfl, ((Below.refl _ _).alloc (Nat.le_refl _) _)⟩
theorem ofFloat_any (x : Nat) (w : World) : Calls Try.prog 54 #[.float .f64 x] w fun e w' => e = .returned (.agg #[.int .i64 2, .int .i64 0, .float .f64 (Flo.canon x), .string ⟨#[]⟩, .slice none 0 0]) ∧ Below w.heap.size w w' := by
  go_enter Try.func54, Try.ntmps54
  go_wp2_with (first | (go_at_call 28; refine (canon_any _ _).mono ?_; rintro e w' ⟨rfl, rfl⟩))
  exact bodyPost_ret (v := .agg #[.int .i64 2, .int .i64 0, .float .f64 (Flo.canon x), .string ⟨#[]⟩, .slice none 0 0]) (by simp [results, Try.results54, go_sem]) rfl ⟨rfl, ((Below.refl _ _).alloc (Nat.le_refl _) _)⟩
theorem float_ref_any (x : Nat) (w : World) : Calls Try.prog 30 #[.float .f64 x] w fun e w' => e = .returned (.agg #[.int .i64 2, .int .i64 0, .float .f64 (Flo.canon x), .string ⟨#[]⟩, .slice none 0 0]) ∧ Below w.heap.size w w' := by
  go_enter Try.func30, Try.ntmps30
  go_wp2_with (first | (go_at_call 53; refine (canon_ref_any _ _).mono ?_; rintro e w' ⟨rfl, rfl⟩))
  exact bodyPost_ret (v := .agg #[.int .i64 2, .int .i64 0, .float .f64 (Flo.canon x), .string ⟨#[]⟩, .slice none 0 0]) (by simp [results, Try.results30, go_sem]) rfl ⟨rfl, ((Below.refl _ _).alloc (Nat.le_refl _) _)⟩
end Num
end Go.Proofs.Ytkodgfhpbpefdaa
