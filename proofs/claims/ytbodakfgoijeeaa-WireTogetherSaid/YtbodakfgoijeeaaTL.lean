/-
  WireTogether, at every reading of its argument.
-/
import Derived.Test.YtbodakfgoijeeaaTF
namespace Go.Proofs.Ytbodakfgoijeeaa
open Go.RowKit Go.ChangeShapes Go.WideShapes
namespace Num
open Ints
set_option linter.unusedSimpArgs false
set_option linter.unusedVariables false
set_option maxRecDepth 100000 in
theorem together_law {H : Type} {enc : TypeId × Value → H} {W : World} {v : Value} {d : DataW H} {ps : List MemPlace} {b0 : Nat} (h : DataW.Trod enc Try.prog W 0 (fun _ => true) true 24 v d ps) (ho : Value.okWide Try.prog W .any b0 24 v) (_ : ∀ x ∈ ps, x.block < W.heap.size) :
    Calls Try.prog 4 #[v] W fun e w' => e = .returned (.bool true) ∧ Below W.heap.size W w' := by
  obtain ⟨p, l, c, rfl⟩ := okWide_slice Try.underlying24 ho
  obtain ⟨fuel, hf⟩ := h
  obtain ⟨L, hL⟩ := repL_of_trod (fuel + 4096 + 1) fuel (by omega) p l c _ (by simpa [Value.cells] using hf)
  exact together_in (fuel + 4096) (by omega) W p l c L hL
end Num
end Go.Proofs.Ytbodakfgoijeeaa
