/-
  GroupFull: whatever comes in.
-/
import Derived.Test.YtbfnghbfilahnaaKp0
import Derived.Test.YtbfnghbfilahnaaSzl0
namespace Go.Proofs.Ytbfnghbfilahnaa
open Go.RowKit
namespace Num
open Ints
set_option linter.unusedSimpArgs false
set_option linter.unusedVariables false
theorem gfull_law (a : Int) (wa : (Lit.int .u8 a).wf = true) (b : Int) (wb : (Lit.int .u8 b).wf = true) (w : World) :
    Calls Try.prog 4 #[.int .u8 a, .int .u8 b] w fun e w' => e = .returned (.bool true) ∧ Below w.heap.size w w' := by
  obtain ⟨x, rfl, hx⟩ := u8_nat wa
  obtain ⟨y, rfl, hy⟩ := u8_nat wb
  exact full_in x y hx hy w
end Num
end Go.Proofs.Ytbfnghbfilahnaa
