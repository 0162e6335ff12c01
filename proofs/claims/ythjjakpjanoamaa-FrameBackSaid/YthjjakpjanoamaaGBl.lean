/-
  FrameBack, at every reading of its arguments.
-/
import Derived.Test.YthjjakpjanoamaaGB
import Derived.Test.YthjjakpjanoamaaRT
namespace Go.Proofs.Ythjjakpjanoamaa
open Go.RowKit Go.ChangeShapes Go.WideShapes
namespace Num
open Ints
set_option linter.unusedSimpArgs false
set_option linter.unusedVariables false
set_option maxRecDepth 100000 in
theorem back_law {H : Type} {enc : TypeId × Value → H} {W : World} {v : Value} {d : DataW H} {ps : List MemPlace} {b0 : Nat} (h : DataW.Trod enc Try.prog W 0 (fun _ => true) true 22 v d ps) (ho : Value.okWide Try.prog W .any b0 22 v) (_ : ∀ x ∈ ps, x.block < W.heap.size)
    {v1 : Value} {d1 : DataW H} {ps1 : List MemPlace} {b1 : Nat} (h1 : DataW.Trod enc Try.prog W 0 (fun _ => true) true 22 v1 d1 ps1) (ho1 : Value.okWide Try.prog W .any b1 22 v1) (_ : ∀ x ∈ ps1, x.block < W.heap.size)
    {v2 : Value} {d2 : DataW H} {ps2 : List MemPlace} {b2 : Nat} (h2 : DataW.Trod enc Try.prog W 0 (fun _ => true) true 22 v2 d2 ps2) (ho2 : Value.okWide Try.prog W .any b2 22 v2) (_ : ∀ x ∈ ps2, x.block < W.heap.size) :
    Calls Try.prog 5 #[v, v1, v2] W fun e w' => e = .returned (.bool true) ∧ Below W.heap.size W w' := by
  obtain ⟨p, l, c, X, rfl, hr, hX⟩ := rd_of_Trod h ho
  obtain ⟨q, m, d', Y, rfl, hq, hY⟩ := rd_of_Trod h1 ho1
  obtain ⟨r, k, f, M, rfl, hm, hM⟩ := rd_of_Trod h2 ho2
  by_cases hl : 100 < l ∨ 500 < m ∨ 100 < k
  · exact back_out W p q r l c m d' k f hr.2.1 hr.2.2.1 hq.2.1 hq.2.2.1 hm.2.1 hm.2.2.1 hl
  · exact back_in W p q r l c m d' k f X Y M hr hq hm hX hY hM (by omega) (by omega) (by omega)
end Num
end Go.Proofs.Ythjjakpjanoamaa
