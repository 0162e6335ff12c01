/-
  The leaves of package num and of its reference: sums of integers, the operations on floats, Canon, Bits, the makers.
-/
import Derived.Test.YtkodgfhpbpefdaaFlo
import Derived.Test.YtkodgfhpbpefdaaInts
import Derived.Test.YtkodgfhpbpefdaaChecked
import Derived.WalkSpells
import Derived.WalkLawsBesides
import Derived.Lib.Hide
namespace Go.Proofs.Ytkodgfhpbpefdaa
open Go.RowKit

namespace Num
open Ints
theorem addInts_any (x y : Int) (hx : okI x) (hy : okI y) (w : World) : Calls Try.prog 36 #[.int .i64 x, .int .i64 y] w fun e w' => Tells e (intR 0 x y) ∧ w = w' := by
  have hf : Tells (.returned (.tuple #[.int .i64 (wrap64 (x + y)), .bool (decide (x < wrap64 (x + y)) == decide (0 < y))])) (intR 0 x y) := tells_mk (add_ok x y hx hy) wrap_ok
  have H := Lib.hid hf
  clear hf hx hy
  go_enter Try.func36, Try.ntmps36
  go_wp2
  go_ret2
  exact ⟨H.out, rfl⟩
theorem subInts_any (x y : Int) (hx : okI x) (hy : okI y) (w : World) : Calls Try.prog 40 #[.int .i64 x, .int .i64 y] w fun e w' => Tells e (intR 1 x y) ∧ w = w' := by
  have hf : Tells (.returned (.tuple #[.int .i64 (wrap64 (x - y)), .bool (decide (wrap64 (x - y) < x) == decide (0 < y))])) (intR 1 x y) := tells_mk (sub_ok x y hx hy) wrap_ok
  have H := Lib.hid hf
  clear hf hx hy
  go_enter Try.func40, Try.ntmps40
  go_wp2
  go_ret2
  exact ⟨H.out, rfl⟩
theorem tells_zero_l {x y : Int} (h : x = 0 ∨ y = 0) : Tells (.returned (.tuple #[.int .i64 0, .bool true])) (intR 2 x y) := by
  have e : x * y = 0 := by rcases h with rfl | rfl <;> simp
  show Tells _ (ifOk (x * y))
  rw [e]; exact tells_mk (by decide) (fun _ => rfl)
theorem mulInts_any (x y : Int) (hx : okI x) (hy : okI y) (w : World) : Calls Try.prog 42 #[.int .i64 x, .int .i64 y] w fun e w' => Tells e (intR 2 x y) ∧ w = w' := by
  by_cases hx0 : x = 0
  · have H := Lib.hid (tells_zero_l (x := x) (y := y) (Or.inl hx0))
    have h1 : (x == 0) = true := by simp [hx0]
    clear hx0 hx hy
    go_enter Try.func42, Try.ntmps42
    go_wp2
    go_ret2
    exact ⟨H.out, rfl⟩
  by_cases hy0 : y = 0
  · have H := Lib.hid (tells_zero_l (x := x) (y := y) (Or.inr hy0))
    have h1 : (x == 0) = false := by simp [hx0]
    have h2 : (y == 0) = true := by simp [hy0]
    clear hx0 hy0 hx hy
    go_enter Try.func42, Try.ntmps42
    go_wp2
    go_ret2
    exact ⟨H.out, rfl⟩
  have h1 : (x == 0) = false := by simp [hx0]
  have h2 : (y == 0) = false := by simp [hy0]
  have hm := mul_ok hx hy hx0 hy0
  have hm2 : (wrap64 ((wrap64 (x * y)).tdiv y) == x) = false → false = decide (okI (x * y)) := fun h => by rw [← hm, h]; rfl
  have hm3 : (wrap64 ((wrap64 (x * y)).tdiv y) == x) = true → (decide (wrap64 (x * y) < 0) == (decide (x < 0) != decide (y < 0))) = decide (okI (x * y)) := fun h => by rw [← hm, h]; rfl
  have H2 := Lib.hid hm2
  have H3 := Lib.hid hm3
  clear hm hm2 hm3
  cases h3 : (wrap64 ((wrap64 (x * y)).tdiv y) == x)
  · have hf : Tells (.returned (.tuple #[.int .i64 (wrap64 (x * y)), .bool false])) (intR 2 x y) := tells_mk (H2.out h3) wrap_ok
    have H := Lib.hid hf
    clear hf H2 H3 hx hy
    go_enter Try.func42, Try.ntmps42
    go_wp2
    go_ret2
    exact ⟨H.out, rfl⟩
  · have hf : ∀ b, b = (decide (wrap64 (x * y) < 0) == (decide (x < 0) != decide (y < 0))) → Tells (.returned (.tuple #[.int .i64 (wrap64 (x * y)), .bool b])) (intR 2 x y) := fun b hb => tells_mk (hb.trans (H3.out h3)) wrap_ok
    have H := Lib.hid hf
    clear hf H2 H3 hx hy
    go_enter Try.func42, Try.ntmps42
    go_wp2
    go_ret2
    exact ⟨H.out _ (by simp [bne]), rfl⟩
theorem divInts_any (x y : Int) (hx : okI x) (w : World) : Calls Try.prog 44 #[.int .i64 x, .int .i64 y] w fun e w' => Tells e (intR 3 x y) ∧ w = w' := by
  by_cases hy0 : y = 0
  · have hf : Tells (.returned (.tuple #[.int .i64 0, .bool false])) (intR 3 x y) := by
      unfold intR; simp [hy0]; exact ⟨fun n h => by simp at h, fun _ => ⟨0, rfl⟩⟩
    have H := Lib.hid hf
    have h1 : (y == 0) = true := by simp [hy0]
    clear hf hy0 hx
    go_enter Try.func44, Try.ntmps44
    go_wp2
    go_ret2
    exact ⟨H.out, rfl⟩
  have h1 : (y == 0) = false := by simp [hy0]
  have hr : intR 3 x y = ifOk (x.tdiv y) := by unfold intR; simp [hy0]
  by_cases hm : x = -9223372036854775808 ∧ y = -1
  · have hf : Tells (.returned (.tuple #[.int .i64 0, .bool false])) (intR 3 x y) := by
      rw [hr, hm.1, hm.2]; unfold ifOk; rw [if_neg div_not]; exact ⟨fun n h => (by cases h), fun _ => ⟨0, rfl⟩⟩
    have H := Lib.hid hf
    have h2 : (x == -9223372036854775808) = true := by simp [hm.1]
    have h3 : (y == -1) = true := by simp [hm.2]
    clear hf hm hr hy0 hx
    go_enter Try.func44, Try.ntmps44
    go_wp2
    go_ret2
    exact ⟨H.out, rfl⟩
  · have hf : Tells (.returned (.tuple #[.int .i64 (wrap64 (x.tdiv y)), .bool true])) (intR 3 x y) := by
      rw [hr]; exact tells_mk (by simp [div_ok hx hm]) wrap_ok
    have H := Lib.hid hf
    clear hf hr hx
    by_cases h2 : x = -9223372036854775808
    · have h2' : (x == -9223372036854775808) = true := by simp [h2]
      have h3 : (y == -1) = false := by have : y ≠ -1 := fun e => hm ⟨h2, e⟩; simp [this]
      clear hm h2
      go_enter Try.func44, Try.ntmps44
      go_wp2
      go_ret2
      exact ⟨H.out, rfl⟩
    · have h2' : (x == -9223372036854775808) = false := by simp [h2]
      clear hm h2
      go_enter Try.func44, Try.ntmps44
      go_wp2
      go_ret2
      exact ⟨H.out, rfl⟩
theorem addFloats_any (x y : Nat) (w : World) : Calls Try.prog 37 #[.float .f64 x, .float .f64 y] w fun e w' => ∃ r n, e = .returned (.float .f64 r) ∧ Flo.canon r = Flo.cop .add x y ∧ r < 2 ^ 64 ∧ w' = w.drewN n := by
  cases h : floatBits .add .f64 x y with
  | some r =>
    have hop : ∀ t w, (binOp .add t (.float .f64 x) (.float .f64 y)).run Try.prog w = .ok (.float .f64 r) w := fun t w => run_float_arith w .add t .f64 x y r h
    have H : Hid _ := Lib.hid (show Flo.canon r = Flo.cop .add x y ∧ r < 2 ^ 64 from ⟨(Flo.cop_some h).symm, Flo.floatBits_lt h⟩)
    clear h
    go_enter Try.func37, Try.ntmps37
    go_wp2
    go_ret
    exact ⟨r, 0, rfl, H.out.1, H.out.2, rfl⟩
  | none =>
    have hop : ∀ t w, (binOp .add t (.float .f64 x) (.float .f64 y)).run Try.prog w = .ok (.float .f64 (Flo.drawn x y (w.tape w.drawn (.nanBits .f64 x y)))) w.drew := fun t w => Flo.run_none w .add t x y (by simp) h
    have H : Hid _ := Lib.hid (Flo.cop_none h)
    clear h
    go_enter Try.func37, Try.ntmps37
    go_wp2
    go_ret
    exact ⟨_, 1, rfl, by rw [Flo.canon_drawn, H.out], Flo.drawn_lt _ _ _, rfl⟩
theorem subFloats_any (x y : Nat) (w : World) : Calls Try.prog 41 #[.float .f64 x, .float .f64 y] w fun e w' => ∃ r n, e = .returned (.float .f64 r) ∧ Flo.canon r = Flo.cop .sub x y ∧ r < 2 ^ 64 ∧ w' = w.drewN n := by
  cases h : floatBits .sub .f64 x y with
  | some r =>
    have hop : ∀ t w, (binOp .sub t (.float .f64 x) (.float .f64 y)).run Try.prog w = .ok (.float .f64 r) w := fun t w => run_float_arith w .sub t .f64 x y r h
    have H : Hid _ := Lib.hid (show Flo.canon r = Flo.cop .sub x y ∧ r < 2 ^ 64 from ⟨(Flo.cop_some h).symm, Flo.floatBits_lt h⟩)
    clear h
    go_enter Try.func41, Try.ntmps41
    go_wp2
    go_ret
    exact ⟨r, 0, rfl, H.out.1, H.out.2, rfl⟩
  | none =>
    have hop : ∀ t w, (binOp .sub t (.float .f64 x) (.float .f64 y)).run Try.prog w = .ok (.float .f64 (Flo.drawn x y (w.tape w.drawn (.nanBits .f64 x y)))) w.drew := fun t w => Flo.run_none w .sub t x y (by simp) h
    have H : Hid _ := Lib.hid (Flo.cop_none h)
    clear h
    go_enter Try.func41, Try.ntmps41
    go_wp2
    go_ret
    exact ⟨_, 1, rfl, by rw [Flo.canon_drawn, H.out], Flo.drawn_lt _ _ _, rfl⟩
theorem mulFloats_any (x y : Nat) (w : World) : Calls Try.prog 43 #[.float .f64 x, .float .f64 y] w fun e w' => ∃ r n, e = .returned (.float .f64 r) ∧ Flo.canon r = Flo.cop .mul x y ∧ r < 2 ^ 64 ∧ w' = w.drewN n := by
  cases h : floatBits .mul .f64 x y with
  | some r =>
    have hop : ∀ t w, (binOp .mul t (.float .f64 x) (.float .f64 y)).run Try.prog w = .ok (.float .f64 r) w := fun t w => run_float_arith w .mul t .f64 x y r h
    have H : Hid _ := Lib.hid (show Flo.canon r = Flo.cop .mul x y ∧ r < 2 ^ 64 from ⟨(Flo.cop_some h).symm, Flo.floatBits_lt h⟩)
    clear h
    go_enter Try.func43, Try.ntmps43
    go_wp2
    go_ret
    exact ⟨r, 0, rfl, H.out.1, H.out.2, rfl⟩
  | none =>
    have hop : ∀ t w, (binOp .mul t (.float .f64 x) (.float .f64 y)).run Try.prog w = .ok (.float .f64 (Flo.drawn x y (w.tape w.drawn (.nanBits .f64 x y)))) w.drew := fun t w => Flo.run_none w .mul t x y (by simp) h
    have H : Hid _ := Lib.hid (Flo.cop_none h)
    clear h
    go_enter Try.func43, Try.ntmps43
    go_wp2
    go_ret
    exact ⟨_, 1, rfl, by rw [Flo.canon_drawn, H.out], Flo.drawn_lt _ _ _, rfl⟩
theorem divFloats_any (x y : Nat) (w : World) : Calls Try.prog 45 #[.float .f64 x, .float .f64 y] w fun e w' => ∃ r n, e = .returned (.float .f64 r) ∧ Flo.canon r = Flo.cop .quo x y ∧ r < 2 ^ 64 ∧ w' = w.drewN n := by
  cases h : floatBits .quo .f64 x y with
  | some r =>
    have hop : ∀ t w, (binOp .quo t (.float .f64 x) (.float .f64 y)).run Try.prog w = .ok (.float .f64 r) w := fun t w => run_float_arith w .quo t .f64 x y r h
    have H : Hid _ := Lib.hid (show Flo.canon r = Flo.cop .quo x y ∧ r < 2 ^ 64 from ⟨(Flo.cop_some h).symm, Flo.floatBits_lt h⟩)
    clear h
    go_enter Try.func45, Try.ntmps45
    go_wp2
    go_ret
    exact ⟨r, 0, rfl, H.out.1, H.out.2, rfl⟩
  | none =>
    have hop : ∀ t w, (binOp .quo t (.float .f64 x) (.float .f64 y)).run Try.prog w = .ok (.float .f64 (Flo.drawn x y (w.tape w.drawn (.nanBits .f64 x y)))) w.drew := fun t w => Flo.run_none w .quo t x y (by simp) h
    have H : Hid _ := Lib.hid (Flo.cop_none h)
    clear h
    go_enter Try.func45, Try.ntmps45
    go_wp2
    go_ret
    exact ⟨_, 1, rfl, by rw [Flo.canon_drawn, H.out], Flo.drawn_lt _ _ _, rfl⟩
end Num
end Go.Proofs.Ytkodgfhpbpefdaa
