/-
  Canon of package num.
-/
import Derived.Test.YtijfgmhdkflfmaaVBr
namespace Go.Proofs.Ytijfgmhdkflfmaa
open Go.RowKit
namespace Num
open Ints
set_option linter.unusedSimpArgs false
set_option linter.unusedVariables false
theorem canon_any (x : Nat) (w : World) : Calls Try.prog 64 #[.float .f64 x] w fun e w' => e = .returned (.float .f64 (Flo.canon x)) ∧ w = w' := by
  cases h : (FloatKind.f64.format.order x x != some .eq)
  · have H : Hid _ := Lib.hid (show Ending.returned (.float .f64 x) = .returned (.float .f64 (Flo.canon x)) by rw [Flo.canon_yes (x := x) (by unfold Flo.feq; rw [bne] at h; simpa using h)])
    go_enter Try.func64, Try.ntmps64
    go_wp2
    go_ret
    exact ⟨H.out, rfl⟩
  · have H : Hid _ := Lib.hid (show Ending.returned (.float .f64 9221120237041090561) = .returned (.float .f64 (Flo.canon x)) by rw [Flo.canon_no (x := x) (by unfold Flo.feq; rw [bne] at h; simpa using h)]; rfl)
    go_enter Try.func64, Try.ntmps64
    go_wp2
    go_ret
    exact ⟨H.out, rfl⟩
end Num
end Go.Proofs.Ytijfgmhdkflfmaa
