/-
  Package value's Order and Equal, of values of at most a thousand parts.
-/
import Derived.Test.YteoimpagdgnkbaaVClE
namespace Go.Proofs.Yteoimpagdgnkbaa
open Go.RowKit
namespace Num
open Ints
set_option linter.unusedSimpArgs false
set_option linter.unusedVariables false
set_option maxHeartbeats 2000000 in
theorem equal_any (n : Nat) (a b : Value) (A B : VT n) (w : World) (hra : Rep w n a A) (hrb : Rep w n b B) (hd : deepT n A 64 = false) (hp : partsT n A ≤ 1000) : Calls Try.prog 75 #[a, b] w fun e w' => e = .returned (.bool (cmpT cmpF n A B == 0)) ∧ Below w.heap.size w w' := by
  have HRA := Lib.hid hra
  have HRB := Lib.hid hrb
  have HD := Lib.hid hd
  have HP := Lib.hid hp
  obtain ⟨K1, I1, F1, S1, p1, l1, c1, rfl, _⟩ := rep_shape hra
  obtain ⟨K2, I2, F2, S2, p2, l2, c2, rfl, _⟩ := rep_shape hrb
  clear hra hrb hd hp
  have HB := Lib.hid ((((Below.refl w.heap.size w).alloc (Nat.le_refl _) (.cells #[.int .i64 K1, .int .i64 I1, .float .f64 F1, .string S1, .slice p1 l1 c1] 27)).alloc (by simp) (.cells #[.int .i64 K2, .int .i64 I2, .float .f64 F2, .string S2, .slice p2 l2 c2] 27)).alloc (by simp; omega) (.cells #[.func (.func 85) #[] #[], .int .i64 0, .map none] 107))
  have HA := Lib.hid (row_alloc ((w.alloc (.cells #[.int .i64 K1, .int .i64 I1, .float .f64 F1, .string S1, .slice p1 l1 c1] 27)).alloc (.cells #[.int .i64 K2, .int .i64 I2, .float .f64 F2, .string S2, .slice p2 l2 c2] 27)) #[.func (.func 85) #[] #[], .int .i64 0, .map none] 107)
  simp only [World.size_alloc] at HA
  go_enter Try.func75, Try.ntmps75
  go_wp2_with fail
  go_at_call 86; refine ((cp_allE n).1 A B _ _ 64 0 0 w _ (w.heap.size + 1 + 1) HRA.out HRB.out HB.out (by omega) HA.out HD.out (by omega) (by omega) (by omega) (by have := HP.out; omega)).mono ?_; rintro e w1 ⟨rfl, hcp⟩
  have HF := Lib.hid (bel_cp HB.out (by omega) hcp)
  clear hcp
  go_wp2
  go_ret
  exact ⟨rfl, HF.out⟩
end Num
end Go.Proofs.Yteoimpagdgnkbaa
