/-
  Package value's base: rows of memory carried over calls; the makers of values of the reference, Canon and Bits.
-/
import Derived.Test.YteodljkcbddehaaJMI
import Derived.Test.YteodljkcbddehaaJp2Flo
import Derived.Test.YteodljkcbddehaaJp0Row
import Derived.Test.YteodljkcbddehaaChecked
import Derived.WalkSpells
import Derived.WalkLawsBesides
import Derived.Lib.Hide
import Derived.Deep.QuietTactic
import Derived.BigQuiet
import Derived.OwnWalk
namespace Go.Proofs.Yteodljkcbddehaa
open Go.RowKit
namespace Num
set_option linter.unusedSimpArgs false
set_option linter.unusedVariables false
open Ints
@[go_sem] theorem call_bits (x : Nat) (w : World) : (callFunc 20 #[.float .f64 x]).run Try.prog w = .ok (.value (.int .u64 x)) w :=
  (run_callFunc_extern Try.func20 (by kernel_rfl) (by kernel_rfl) (by kernel_rfl) (e := Extern.MathFloatBits.float64bits) (by kernel_rfl) _ w).trans rfl
@[go_sem] theorem call_frombits (n : Int) (w : World) : (callFunc 41 #[.int .u64 n]).run Try.prog w = .ok (.value (.float .f64 n.toNat)) w :=
  (run_callFunc_extern Try.func41 (by kernel_rfl) (by kernel_rfl) (by kernel_rfl) (e := Extern.MathFloatBits.float64frombits) (by kernel_rfl) _ w).trans rfl
theorem canon_ref_any (x : Nat) (w : World) : Calls Try.prog 21 #[.float .f64 x] w fun e w' => e = .returned (.float .f64 (Flo.canon x)) ∧ w = w' := by
  cases h : (FloatKind.f64.format.order x x != some .eq)
  · have H : Hid _ := Lib.hid (show Ending.returned (.float .f64 x) = .returned (.float .f64 (Flo.canon x)) by rw [Flo.canon_yes (x := x) (by unfold Flo.feq; rw [bne] at h; simpa using h)])
    go_enter Try.func21, Try.ntmps21
    go_wp2
    go_ret
    exact ⟨H.out, rfl⟩
  · have H : Hid _ := Lib.hid (show Ending.returned (.float .f64 9221120237041090561) = .returned (.float .f64 (Flo.canon x)) by rw [Flo.canon_no (x := x) (by unfold Flo.feq; rw [bne] at h; simpa using h)]; rfl)
    go_enter Try.func21, Try.ntmps21
    go_wp2
    go_ret
    exact ⟨H.out, rfl⟩
theorem int_ref_any (n : Int) (w : World) : Calls Try.prog 12 #[.int .i64 n] w fun e w' => e = .returned (.agg #[.int .i64 1, .int .i64 n, .float .f64 0, .string ⟨#[]⟩, .slice none 0 0]) ∧ Below w.heap.size w w' := by
  go_enter Try.func12, Try.ntmps12
  go_wp2
  exact bodyPost_ret (v := .agg #[.int .i64 1, .int .i64 n, .float .f64 0, .string ⟨#[]⟩, .slice none 0 0]) (by simp [results, Try.results12, go_sem]) rfl ⟨rfl, (br.alloc (Nat.le_refl _) _)⟩
theorem float_ref_any (x : Nat) (w : World) : Calls Try.prog 13 #[.float .f64 x] w fun e w' => e = .returned (.agg #[.int .i64 2, .int .i64 0, .float .f64 (Flo.canon x), .string ⟨#[]⟩, .slice none 0 0]) ∧ Below w.heap.size w w' := by
  go_enter Try.func13, Try.ntmps13
  go_wp2_with (first | (go_at_call 21; refine (canon_ref_any _ _).mono ?_; rintro e w' ⟨rfl, rfl⟩))
  exact bodyPost_ret (v := .agg #[.int .i64 2, .int .i64 0, .float .f64 (Flo.canon x), .string ⟨#[]⟩, .slice none 0 0]) (by simp [results, Try.results13, go_sem]) rfl ⟨rfl, (br.alloc (Nat.le_refl _) _)⟩
theorem text_ref_any (s : ByteArray) (w : World) : Calls Try.prog 11 #[.string s] w fun e w' => e = .returned (.agg #[.int .i64 3, .int .i64 0, .float .f64 0, .string s, .slice none 0 0]) ∧ Below w.heap.size w w' := by
  go_enter Try.func11, Try.ntmps11
  go_wp2
  exact bodyPost_ret (v := .agg #[.int .i64 3, .int .i64 0, .float .f64 0, .string s, .slice none 0 0]) (by simp [results, Try.results11, go_sem]) rfl ⟨rfl, (br.alloc (Nat.le_refl _) _)⟩
end Num
end Go.Proofs.Yteodljkcbddehaa
/-
  Bits of the reference.
-/
namespace Go.Proofs.Yteodljkcbddehaa
open Go.RowKit
namespace Num
open Ints
set_option linter.unusedSimpArgs false
set_option linter.unusedVariables false
theorem bits_ref_any (x : Nat) (w : World) : Calls Try.prog 9 #[.float .f64 x] w fun e w' => e = .returned (.int .u64 (Flo.canon x)) ∧ w = w' := by
  go_enter Try.func9, Try.ntmps9
  go_wp2_with (first | (go_at_call 21; refine (canon_ref_any _ _).mono ?_; rintro e w' ⟨rfl, rfl⟩))
  go_ret
  exact ⟨rfl, rfl⟩
end Num
end Go.Proofs.Yteodljkcbddehaa
/-
  Canon of package num.
-/
namespace Go.Proofs.Yteodljkcbddehaa
open Go.RowKit
namespace Num
open Ints
set_option linter.unusedSimpArgs false
set_option linter.unusedVariables false
theorem canon_any (x : Nat) (w : World) : Calls Try.prog 63 #[.float .f64 x] w fun e w' => e = .returned (.float .f64 (Flo.canon x)) ∧ w = w' := by
  cases h : (FloatKind.f64.format.order x x != some .eq)
  · have H : Hid _ := Lib.hid (show Ending.returned (.float .f64 x) = .returned (.float .f64 (Flo.canon x)) by rw [Flo.canon_yes (x := x) (by unfold Flo.feq; rw [bne] at h; simpa using h)])
    go_enter Try.func63, Try.ntmps63
    go_wp2
    go_ret
    exact ⟨H.out, rfl⟩
  · have H : Hid _ := Lib.hid (show Ending.returned (.float .f64 9221120237041090561) = .returned (.float .f64 (Flo.canon x)) by rw [Flo.canon_no (x := x) (by unfold Flo.feq; rw [bne] at h; simpa using h)]; rfl)
    go_enter Try.func63, Try.ntmps63
    go_wp2
    go_ret
    exact ⟨H.out, rfl⟩
end Num
end Go.Proofs.Yteodljkcbddehaa
/-
  The reference's Sign and Finite.
-/
namespace Go.Proofs.Yteodljkcbddehaa
open Go.RowKit
namespace Num
open Ints
set_option linter.unusedSimpArgs false
set_option linter.unusedVariables false

end Num
end Go.Proofs.Yteodljkcbddehaa
/-
  Finite of the reference: a float less itself is nought just where it is a number; Lights.
-/
namespace Go.Proofs.Yteodljkcbddehaa
open Go.RowKit
namespace Num
open Ints
set_option linter.unusedSimpArgs false
set_option linter.unusedVariables false
end Num
end Go.Proofs.Yteodljkcbddehaa
/-
  The reference's List.
-/
namespace Go.Proofs.Yteodljkcbddehaa
open Go.RowKit
namespace Num
open Ints
set_option linter.unusedSimpArgs false
set_option linter.unusedVariables false
theorem list_ref_any (p : Option Addr) (l c : Nat) (w : World) : Calls Try.prog 5 #[.slice p l c] w fun e w' => e = .returned (.agg #[.int .i64 4, .int .i64 0, .float .f64 0, .string ⟨#[]⟩, .slice p l c]) ∧ Below w.heap.size w w' := by
  go_enter Try.func5, Try.ntmps5
  go_wp2
  exact bodyPost_ret (v := .agg #[.int .i64 4, .int .i64 0, .float .f64 0, .string ⟨#[]⟩, .slice p l c]) (by simp [results, Try.results5, go_sem]) rfl ⟨rfl, (br.alloc (Nat.le_refl _) _)⟩
end Num
end Go.Proofs.Yteodljkcbddehaa
