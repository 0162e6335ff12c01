/-
  Bits of the reference.
-/
import Derived.Test.YtgeicgfijnabkaaDoorVBase
namespace Go.Proofs.YtgeicgfijnabkaaDoor
open Go.RowKit
namespace Num
open Ints
set_option linter.unusedSimpArgs false
set_option linter.unusedVariables false
theorem bits_ref_any (x : Nat) (w : World) : Calls Tryd.prog 29 #[.float .f64 x] w fun e w' => e = .returned (.int .u64 (Flo.canon x)) ∧ w = w' := by
  go_enter Tryd.func29, Tryd.ntmps29
  go_wp2_with (first | (go_at_call 40; refine (canon_ref_any _ _).mono ?_; rintro e w' ⟨rfl, rfl⟩))
  go_ret
  exact ⟨rfl, rfl⟩
end Num
end Go.Proofs.YtgeicgfijnabkaaDoor
