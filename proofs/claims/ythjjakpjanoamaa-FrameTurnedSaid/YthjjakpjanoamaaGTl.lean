/-
  FrameTurned, at every reading of its arguments.
-/
import Derived.Test.YthjjakpjanoamaaGT
import Derived.Test.YthjjakpjanoamaaGSl
namespace Go.Proofs.Ythjjakpjanoamaa
open Go.RowKit Go.ChangeShapes Go.WideShapes
namespace Num
open Ints
set_option linter.unusedSimpArgs false
set_option linter.unusedVariables false
set_option maxRecDepth 100000 in
theorem turned_law {H : Type} {enc : TypeId × Value → H} {W : World} {v : Value} {d : DataW H} {ps : List MemPlace} {b0 : Nat} (h : DataW.Trod enc Try.prog W 0 (fun _ => true) true 22 v d ps) (ho : Value.okWide Try.prog W .any b0 22 v)
    (_ : ∀ x ∈ ps, x.block < W.heap.size) (a : Int) (ha : (Lit.int .u16 a).wf = true) (b : Int) (hb : (Lit.int .u8 b).wf = true) :
    Calls Try.prog 7 #[v, .int .u16 a, .int .u8 b] W fun e w' => e = .returned (.bool true) ∧ Below W.heap.size W w' := by
  obtain ⟨p, l, c, X, rfl, hr, hX⟩ := rd_of_Trod h ho
  obtain ⟨n, rfl, hn⟩ := wf_u16 ha
  obtain ⟨k, rfl, hk⟩ := wf_u8 hb
  by_cases hl : 500 < l
  · exact turned_out W p l c n k hr.2.1 hr.2.2.1 hl
  · exact turned_in W p l c X n k hr hX hn hk (by omega)
end Num
end Go.Proofs.Ythjjakpjanoamaa
