/-
  Two values of no list and no text that are alike: Same says so.
-/
import Derived.Test.YtkodgfhpbpefdaaMk
import Derived.Test.YtkodgfhpbpefdaaOps
namespace Go.Proofs.Ytkodgfhpbpefdaa
open Go.RowKit
namespace Num
set_option linter.unusedSimpArgs false
set_option linter.unusedVariables false
theorem bits_ref_q (x : Nat) (w : World) : Calls Try.prog 29 #[.float .f64 x] w fun e w' => e = .returned (.int .u64 (Flo.canon x)) ∧ w' = w := (bits_ref_any x w).mono fun _ _ ⟨a, b⟩ => ⟨a, b.symm⟩
theorem same_shallow (K I : Int) (F : Nat) (w : World) : Calls Try.prog 14 #[.agg #[.int .i64 K, .int .i64 I, .float .f64 F, .string ⟨#[]⟩, .slice none 0 0], .agg #[.int .i64 K, .int .i64 I, .float .f64 F, .string ⟨#[]⟩, .slice none 0 0]] w fun e w' => e = .returned (.bool true) ∧ Below w.heap.size w w' := by
  go_enter Try.func14, Try.ntmps14
  go_wp2_with fail
  go_quiet ((go_at_call 29; exact Calls.quiet_of_same (bits_ref_q _ _)))
  go_wp2
  refine wp_loop_rounds 1 ?_
  rw [rounds_succ]
  go_wp2
  go_ret
  exact ⟨rfl, bel_drewN _ (((Below.refl _ _).alloc (Nat.le_refl _) _).alloc (by simp) _)⟩
end Num
end Go.Proofs.Ytkodgfhpbpefdaa
