/-
  QueueOrder: whatever comes in.
-/
import Derived.Test.YtodjnhhnjncgdaaEO
namespace Go.Proofs.Ytodjnhhnjncgdaa
open Go.RowKit
namespace Num
open Ints
set_option linter.unusedSimpArgs false
set_option linter.unusedVariables false
set_option maxRecDepth 100000 in
theorem order11_law {H : Type} {enc : TypeId × Value → H} {W : World} {v0 : Value} {d0 : DataW H} {p0 : List MemPlace} {b0 : Nat} (k0 : DataW.Trod enc Try.prog W 0 (fun _ => true) true 44 v0 d0 p0) (o0 : Value.okWide Try.prog W .any b0 44 v0) :
    Calls Try.prog 5 #[v0] W fun e w' => e = .returned (.bool true) ∧ Below W.heap.size W w' := by
  obtain ⟨p, l, c, X, rfl, hr, hB⟩ := rh_of_Trod k0 o0
  exact order11 p l c X W hr hB
end Num
end Go.Proofs.Ytodjnhhnjncgdaa
