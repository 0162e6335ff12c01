/-
  CounterSums: whatever comes in.
-/
import Derived.Test.YtmhogdigkdcnfaaCSc
namespace Go.Proofs.Ytmhogdigkdcnfaa
open Go.RowKit
namespace Num
open Ints
set_option linter.unusedSimpArgs false
set_option linter.unusedVariables false
set_option maxRecDepth 100000 in
theorem sums_law {H : Type} {enc : TypeId × Value → H} {W : World} {v0 : Value} {d0 : DataW H} {p0 : List MemPlace} {b0 : Nat} (k0 : DataW.Trod enc Try.prog W 0 (fun _ => true) true 44 v0 d0 p0) (o0 : Value.okWide Try.prog W .any b0 44 v0) :
    Calls Try.prog 5 #[v0] W fun e w' => e = .returned (.bool true) ∧ Below W.heap.size W w' := by
  obtain ⟨p, l, c, L, rfl, h, hF⟩ := repF_of_Trod k0 o0
  exact sums_any p l c L hF W h
end Num
end Go.Proofs.Ytmhogdigkdcnfaa
