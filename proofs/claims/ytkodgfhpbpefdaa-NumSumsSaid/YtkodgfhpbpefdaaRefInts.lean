/-
  The reference's integers: the four operations, each with the test of whether there is such an Int.
-/
import Derived.Test.YtkodgfhpbpefdaaOps
import Derived.Deep.QuietTactic
import Derived.BigQuiet
namespace Go.Proofs.Ytkodgfhpbpefdaa
open Go.RowKit
namespace Num
set_option linter.unusedSimpArgs false
set_option linter.unusedVariables false
open Ints
theorem refInts0 (x y : Int) (hx : okI x) (hy : okI y) (w : World) : Calls Try.prog 38 #[.int .u8 43, .int .i64 x, .int .i64 y] w fun e w' => Tells e (intR 0 x y) ∧ Below w.heap.size w w' := by
  have ha := add_ok x y hx hy
  cases h3 : (decide (x < wrap64 (x + y)) == decide (0 < y))
  · have hf : Tells (.returned (.tuple #[.int .i64 (wrap64 (x + y)), .bool false])) (intR 0 x y) := tells_mk (h3.symm.trans ha) wrap_ok
    have h4 : (y == 0) = false := by
      cases h4 : (y == 0)
      · rfl
      · have : y = 0 := by simpa using h4
        subst this
        rw [ha] at h3
        simp only [Int.add_zero, decide_eq_false_iff_not] at h3
        exact absurd hx h3
    have H := Lib.hid hf
    clear hf ha hx hy
    go_enter Try.func38, Try.ntmps38
    go_wp2
    go_ret2
    exact ⟨H.out, Below.refl _ _⟩
  · have hf : Tells (.returned (.tuple #[.int .i64 (wrap64 (x + y)), .bool true])) (intR 0 x y) := tells_mk (h3.symm.trans ha) wrap_ok
    have H := Lib.hid hf
    clear hf ha hx hy
    go_enter Try.func38, Try.ntmps38
    go_wp2
    go_ret2
    exact ⟨H.out, Below.refl _ _⟩
theorem refInts1 (x y : Int) (hx : okI x) (hy : okI y) (w : World) : Calls Try.prog 38 #[.int .u8 45, .int .i64 x, .int .i64 y] w fun e w' => Tells e (intR 1 x y) ∧ Below w.heap.size w w' := by
  have ha := sub_ok x y hx hy
  cases h3 : (decide (wrap64 (x - y) < x) == decide (0 < y))
  · have hf : Tells (.returned (.tuple #[.int .i64 (wrap64 (x - y)), .bool false])) (intR 1 x y) := tells_mk (h3.symm.trans ha) wrap_ok
    have h4 : (y == 0) = false := by
      cases h4 : (y == 0)
      · rfl
      · have : y = 0 := by simpa using h4
        subst this
        rw [ha] at h3
        simp only [Int.sub_zero, decide_eq_false_iff_not] at h3
        exact absurd hx h3
    have H := Lib.hid hf
    clear hf ha hx hy
    go_enter Try.func38, Try.ntmps38
    go_wp2
    go_ret2
    exact ⟨H.out, Below.refl _ _⟩
  · have hf : Tells (.returned (.tuple #[.int .i64 (wrap64 (x - y)), .bool true])) (intR 1 x y) := tells_mk (h3.symm.trans ha) wrap_ok
    have H := Lib.hid hf
    clear hf ha hx hy
    go_enter Try.func38, Try.ntmps38
    go_wp2
    go_ret2
    exact ⟨H.out, Below.refl _ _⟩
theorem tells_neg {x y : Int} (z : Int) (hz : x * y = -z) (hd : decide (okI (-z)) = (z != -9223372036854775808)) : Tells (.returned (.tuple #[.int .i64 (wrap64 (-z)), .bool (z != -9223372036854775808)])) (intR 2 x y) := by
  show Tells _ (ifOk (x * y))
  rw [hz]; exact tells_mk hd.symm wrap_ok
theorem neg_ok {z : Int} (hb : okI z) : decide (okI (-z)) = (z != -9223372036854775808) := by
  cases h : (z != -9223372036854775808)
  · have : z = -9223372036854775808 := by simpa using h
    subst this; decide
  · have : z ≠ -9223372036854775808 := by simpa using h
    have : okI (-z) := by unfold okI at *; omega
    simp [this]
theorem refInts2 (x y : Int) (hx : okI x) (hy : okI y) (w : World) : Calls Try.prog 38 #[.int .u8 42, .int .i64 x, .int .i64 y] w fun e w' => Tells e (intR 2 x y) ∧ Below w.heap.size w w' := by
  by_cases hx0 : x = 0
  · have H := Lib.hid (tells_zero_l (x := x) (y := y) (Or.inl hx0))
    have h1 : (x == 0) = true := by simp [hx0]
    clear hx0 hx hy
    go_enter Try.func38, Try.ntmps38
    go_wp2
    go_ret2
    exact ⟨H.out, Below.refl _ _⟩
  by_cases hy0 : y = 0
  · have H := Lib.hid (tells_zero_l (x := x) (y := y) (Or.inr hy0))
    have h1 : (x == 0) = false := by simp [hx0]
    have h2 : (y == 0) = true := by simp [hy0]
    clear hx0 hy0 hx hy
    go_enter Try.func38, Try.ntmps38
    go_wp2
    go_ret2
    exact ⟨H.out, Below.refl _ _⟩
  have h1 : (x == 0) = false := by simp [hx0]
  have h2 : (y == 0) = false := by simp [hy0]
  by_cases hxm : x = -1
  · have hf := tells_neg (x := x) (y := y) y (by rw [hxm]; omega) (neg_ok hy)
    have h3 : (x == -1) = true := by simp [hxm]
    have H := Lib.hid hf
    clear hf hxm hx0 hy0 hx hy
    go_enter Try.func38, Try.ntmps38
    go_wp2
    go_ret2
    exact ⟨H.out, Below.refl _ _⟩
  have h3 : (x == -1) = false := by simp [hxm]
  by_cases hym : y = -1
  · have hf := tells_neg (x := x) (y := y) x (by rw [hym]; omega) (neg_ok hx)
    have h4 : (y == -1) = true := by simp [hym]
    have H := Lib.hid hf
    clear hf hxm hym hx0 hy0 hx hy
    go_enter Try.func38, Try.ntmps38
    go_wp2
    go_ret2
    exact ⟨H.out, Below.refl _ _⟩
  have h4 : (y == -1) = false := by simp [hym]
  have hf : Tells (.returned (.tuple #[.int .i64 (wrap64 (x * y)), .bool (wrap64 ((wrap64 (x * y)).tdiv y) == x)])) (intR 2 x y) := tells_mk (mul_ok_ref hy hy0 hym) wrap_ok
  have H := Lib.hid hf
  clear hf hxm hym hx0 hx hy
  have hy1 : ¬ y = 0 := hy0
  clear hy0
  go_enter Try.func38, Try.ntmps38
  go_wp2
  go_quiet (fail)
  go_wp2
  go_ret2
  exact ⟨H.out, bel_drewN _ (Below.refl _ _)⟩
theorem refInts3 (x y : Int) (hx : okI x) (w : World) : Calls Try.prog 38 #[.int .u8 47, .int .i64 x, .int .i64 y] w fun e w' => Tells e (intR 3 x y) ∧ Below w.heap.size w w' := by
  by_cases hy0 : y = 0
  · have hf : Tells (.returned (.tuple #[.int .i64 0, .bool false])) (intR 3 x y) := by
      unfold intR; simp [hy0]; exact ⟨fun n h => by simp at h, fun _ => ⟨0, rfl⟩⟩
    have H := Lib.hid hf
    have h1 : (y == 0) = true := by simp [hy0]
    clear hf hy0 hx
    go_enter Try.func38, Try.ntmps38
    go_wp2
    go_ret2
    exact ⟨H.out, Below.refl _ _⟩
  have h1 : (y == 0) = false := by simp [hy0]
  have hr : intR 3 x y = ifOk (x.tdiv y) := by unfold intR; simp [hy0]
  by_cases hm : x = -9223372036854775808 ∧ y = -1
  · have hf : Tells (.returned (.tuple #[.int .i64 0, .bool false])) (intR 3 x y) := by
      rw [hr, hm.1, hm.2]; unfold ifOk; rw [if_neg div_not]; exact ⟨fun n h => (by cases h), fun _ => ⟨0, rfl⟩⟩
    have H := Lib.hid hf
    have h2 : (x == -9223372036854775808) = true := by simp [hm.1]
    have h3 : (y == -1) = true := by simp [hm.2]
    clear hf hm hr hy0 hx
    go_enter Try.func38, Try.ntmps38
    go_wp2
    go_ret2
    exact ⟨H.out, Below.refl _ _⟩
  · have hf : Tells (.returned (.tuple #[.int .i64 (wrap64 (x.tdiv y)), .bool true])) (intR 3 x y) := by
      rw [hr]; exact tells_mk (by simp [div_ok hx hm]) wrap_ok
    have H := Lib.hid hf
    clear hf hr hx
    by_cases h2 : x = -9223372036854775808
    · have h2' : (x == -9223372036854775808) = true := by simp [h2]
      have h3 : (y == -1) = false := by have : y ≠ -1 := fun e => hm ⟨h2, e⟩; simp [this]
      clear hm h2
      go_enter Try.func38, Try.ntmps38
      go_wp2
      go_ret2
      exact ⟨H.out, Below.refl _ _⟩
    · have h2' : (x == -9223372036854775808) = false := by simp [h2]
      clear hm h2
      go_enter Try.func38, Try.ntmps38
      go_wp2
      go_ret2
      exact ⟨H.out, Below.refl _ _⟩
end Num
end Go.Proofs.Ytkodgfhpbpefdaa
