/-
  Bits of the reference.
-/
import Derived.Test.YtmhogdigkdcnfaaVBase
namespace Go.Proofs.Ytmhogdigkdcnfaa
open Go.RowKit
namespace Num
open Ints
set_option linter.unusedSimpArgs false
set_option linter.unusedVariables false
theorem bits_ref_any (x : Nat) (w : World) : Calls Try.prog 35 #[.float .f64 x] w fun e w' => e = .returned (.int .u64 (Flo.canon x)) ∧ w = w' := by
  go_enter Try.func35, Try.ntmps35
  go_wp2_with (first | (go_at_call 20; refine (canon_ref_any _ _).mono ?_; rintro e w' ⟨rfl, rfl⟩))
  go_ret
  exact ⟨rfl, rfl⟩
end Num
end Go.Proofs.Ytmhogdigkdcnfaa
