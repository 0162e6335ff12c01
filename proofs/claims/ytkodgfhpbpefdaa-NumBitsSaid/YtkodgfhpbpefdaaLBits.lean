/-
  NumBits: of NaN there is one alone, all other Floats are as they are: the call returns true at any word.
-/
import Derived.Test.YtkodgfhpbpefdaaKnown
namespace Go.Proofs.Ytkodgfhpbpefdaa
open Go.RowKit
namespace Num
set_option linter.unusedSimpArgs false
set_option linter.unusedVariables false
theorem numBits_calls (x : Nat) (w : World) : Calls Try.prog 6 #[.float .f64 x] w fun e w' => e = .returned (.bool true) ∧ Below w.heap.size w w' := by
  cases h : Flo.feq x x
  · have hx : (FloatKind.f64.format.order x x != some .eq) = true := by unfold Flo.feq at h; rw [bne, h]; rfl
    have hn : (FloatKind.f64.format.order 9221120237041090561 9221120237041090561 != some .eq) = true := by decide +kernel
    have c1 : ∀ W, Calls Try.prog 28 #[.float .f64 x] W fun e w' => e = .returned (.float .f64 9221120237041090561) ∧ W = w' := fun W => by
      have := canon_any x W
      rwa [Flo.canon_no h] at this
    have c2 : ∀ W, Calls Try.prog 27 #[.float .f64 x] W fun e w' => e = .returned (.int .u64 9221120237041090561) ∧ W = w' := fun W => by
      have := bits_any x W
      rwa [Flo.canon_no h] at this
    have c3 : ∀ W, Calls Try.prog 27 #[.float .f64 9221120237041090561] W fun e w' => e = .returned (.int .u64 9221120237041090561) ∧ W = w' := fun W => by
      have := bits_any 9221120237041090561 W
      rwa [show Flo.canon 9221120237041090561 = 9221120237041090561 from Flo.canon_nan] at this
    have C1 := Lib.hid c1
    have C2 := Lib.hid c2
    have C3 := Lib.hid c3
    clear c1 c2 c3 h
    go_enter Try.func6, Try.ntmps6
    go_wp2_with (go_at_call 10; refine (known_any _).mono ?_; rintro e w1 ⟨rfl, hb1⟩)
    go_wp2_with fail
    go_at_call 27; refine (C2.out _).mono ?_; rintro e w2 ⟨rfl, rfl⟩
    go_wp2_with fail
    go_at_call 28; refine (C1.out _).mono ?_; rintro e w2 ⟨rfl, rfl⟩
    go_wp2_with fail
    go_at_call 27; refine (C3.out _).mono ?_; rintro e w2 ⟨rfl, rfl⟩
    go_wp2
    go_ret
    exact ⟨rfl, hb1⟩
  · have hx : (FloatKind.f64.format.order x x != some .eq) = false := by unfold Flo.feq at h; rw [bne, h]; rfl
    have hy : (FloatKind.f64.format.order x x == some .eq) = true := h
    have c1 : ∀ W, Calls Try.prog 28 #[.float .f64 x] W fun e w' => e = .returned (.float .f64 x) ∧ W = w' := fun W => by
      have := canon_any x W
      rwa [Flo.canon_yes h] at this
    have c2 : ∀ W, Calls Try.prog 27 #[.float .f64 x] W fun e w' => e = .returned (.int .u64 x) ∧ W = w' := fun W => by
      have := bits_any x W
      rwa [Flo.canon_yes h] at this
    have c3 : ∀ W, Calls Try.prog 29 #[.float .f64 x] W fun e w' => e = .returned (.int .u64 x) ∧ W = w' := fun W => by
      have := bits_ref_any x W
      rwa [Flo.canon_yes h] at this
    have C1 := Lib.hid c1
    have C2 := Lib.hid c2
    have C3 := Lib.hid c3
    clear c1 c2 c3 h
    go_enter Try.func6, Try.ntmps6
    go_wp2_with (first
      | (go_at_call 10; refine (known_any _).mono ?_; rintro e w1 ⟨rfl, hb1⟩)
      | (go_at_call 27; refine (C2.out _).mono ?_; rintro e w2 ⟨rfl, rfl⟩)
      | (go_at_call 28; refine (C1.out _).mono ?_; rintro e w2 ⟨rfl, rfl⟩)
      | (go_at_call 29; refine (C3.out _).mono ?_; rintro e w2 ⟨rfl, rfl⟩))
    go_ret
    exact ⟨rfl, hb1⟩
end Num
end Go.Proofs.Ytkodgfhpbpefdaa
