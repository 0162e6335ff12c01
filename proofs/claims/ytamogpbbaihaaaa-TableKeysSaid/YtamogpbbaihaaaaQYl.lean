/-
  TableKeys: whatever comes in.
-/
import Derived.Test.YtamogpbbaihaaaaQY
import Derived.Test.YtamogpbbaihaaaaRT
namespace Go.Proofs.Ytamogpbbaihaaaa
open Go.RowKit
namespace Num
open Ints
set_option linter.unusedSimpArgs false
set_option linter.unusedVariables false
set_option maxRecDepth 100000 in
theorem keys_law {H : Type} {enc : TypeId × Value → H} {W : World} {v0 v1 : Value} {d0 d1 : DataW H} {p0 p1 : List MemPlace} {b0 b1 : Nat} (k0 : DataW.Trod enc Try.prog W 0 (fun _ => true) true 44 v0 d0 p0) (o0 : Value.okWide Try.prog W .any b0 44 v0) (k1 : DataW.Trod enc Try.prog W 0 (fun _ => true) true 44 v1 d1 p1) (o1 : Value.okWide Try.prog W .any b1 44 v1) :
    Calls Try.prog 7 #[v0, v1] W fun e w' => e = .returned (.bool true) ∧ Below W.heap.size W w' := by
  obtain ⟨p, l, c, X, rfl, hr, hB⟩ := rd_of_Trod k0 o0
  obtain ⟨p2, l2, c2, X2, rfl, hr2, hB2⟩ := rd_of_Trod k1 o1
  exact keys_any p l c X p2 l2 c2 X2 W hr hB hr2 hB2
end Num
end Go.Proofs.Ytamogpbbaihaaaa
