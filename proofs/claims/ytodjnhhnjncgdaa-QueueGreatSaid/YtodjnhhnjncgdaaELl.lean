/-
  QueueGreat: whatever comes in.
-/
import Derived.Test.YtodjnhhnjncgdaaEL
namespace Go.Proofs.Ytodjnhhnjncgdaa
open Go.RowKit
namespace Num
open Ints
set_option linter.unusedSimpArgs false
set_option linter.unusedVariables false
theorem byte_of {t : Int} (w : (Lit.int IntKind.u8 t).wf = true) : ∃ n : Nat, t = (n : Int) ∧ n < 256 := by
  have h1 : IntKind.u8.bits = 8 := rfl
  have h : 0 ≤ t ∧ t < 256 := by
    simp [Lit.wf, IntKind.min, IntKind.max, IntKind.signed, h1] at w
    omega
  exact ⟨t.toNat, by omega, by omega⟩
theorem great_law (a : Int) (wa : (Lit.int IntKind.u8 a).wf = true) (b : Int) (wb : (Lit.int IntKind.u8 b).wf = true) (W : World) :
    Calls Try.prog 6 #[.int .u8 a, .int .u8 b] W fun e w' => e = .returned (.bool true) ∧ Below W.heap.size W w' := by
  obtain ⟨n, rfl, hn⟩ := byte_of wa
  obtain ⟨m, rfl, hm⟩ := byte_of wb
  exact great_any n m W hn hm
end Num
end Go.Proofs.Ytodjnhhnjncgdaa
