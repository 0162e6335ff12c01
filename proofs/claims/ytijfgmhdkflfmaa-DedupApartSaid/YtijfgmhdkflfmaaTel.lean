/-
  DedupApart: whatever comes in.
-/
import Derived.Test.YtijfgmhdkflfmaaTe0
import Derived.Test.YtijfgmhdkflfmaaSzl0
namespace Go.Proofs.Ytijfgmhdkflfmaa
open Go.RowKit
namespace Num
open Ints
set_option linter.unusedSimpArgs false
set_option linter.unusedVariables false
set_option maxRecDepth 100000 in
theorem apart_law {H : Type} {enc : TypeId × Value → H} {W : World} {v0 : Value} {d0 : DataW H} {p0 : List MemPlace} {b0 : Nat} (k0 : DataW.Trod enc Try.prog W 0 (fun _ => true) true 56 v0 d0 p0) (o0 : Value.okWide Try.prog W .any b0 56 v0) (a : Int) (wa : (Lit.int .u8 a).wf = true) :
    Calls Try.prog 5 #[v0, .int .u8 a] W fun e w' => e = .returned (.bool true) ∧ Below W.heap.size W w' := by
  obtain ⟨p, l, c, X, rfl, hr, hB⟩ := ru_of_Trod k0 o0
  obtain ⟨x, rfl, hx⟩ := u8_nat wa
  exact apart_in p l c X x hx W hr hB
end Num
end Go.Proofs.Ytijfgmhdkflfmaa
