/-
  A byte that comes in.
-/
import Derived.Test.YtbfnghbfilahnaaInts
import Derived.Test.YtbfnghbfilahnaaRow
namespace Go.Proofs.Ytbfnghbfilahnaa
open Go.RowKit
namespace Num
open Ints
set_option linter.unusedSimpArgs false
set_option linter.unusedVariables false
theorem u8_nat {t : Int} (w1 : (Lit.int IntKind.u8 t).wf = true) : ∃ n : Nat, t = (n : Int) ∧ n < 256 := by
  simp only [Lit.wf, decide_eq_true_eq, IntKind.min, IntKind.max] at w1
  have h3 : IntKind.u8.bits = 8 := rfl
  simp [IntKind.signed, h3] at w1
  exact ⟨t.toNat, by omega, by omega⟩
end Num
end Go.Proofs.Ytbfnghbfilahnaa
