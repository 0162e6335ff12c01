/-
  FrameReads, at every reading of its arguments.
-/
import Derived.Test.YthjjakpjanoamaaGR
import Derived.Test.YthjjakpjanoamaaGSl
namespace Go.Proofs.Ythjjakpjanoamaa
open Go.RowKit Go.ChangeShapes Go.WideShapes
namespace Num
open Ints
set_option linter.unusedSimpArgs false
set_option linter.unusedVariables false
set_option maxRecDepth 100000 in
theorem reads_law {H : Type} {enc : TypeId × Value → H} {W : World} {v : Value} {d : DataW H} {ps : List MemPlace} {b0 : Nat} (h : DataW.Trod enc Try.prog W 0 (fun _ => true) true 22 v d ps) (ho : Value.okWide Try.prog W .any b0 22 v) (_ : ∀ x ∈ ps, x.block < W.heap.size)
    {v1 : Value} {d1 : DataW H} {ps1 : List MemPlace} {b1 : Nat} (h1 : DataW.Trod enc Try.prog W 0 (fun _ => true) true 22 v1 d1 ps1) (ho1 : Value.okWide Try.prog W .any b1 22 v1) (_ : ∀ x ∈ ps1, x.block < W.heap.size)
    (a : Int) (ha : (Lit.int .u16 a).wf = true) (b : Int) (hb : (Lit.int .u8 b).wf = true) (cut : Bool) :
    Calls Try.prog 6 #[v, v1, .int .u16 a, .int .u8 b, .bool cut] W fun e w' => e = .returned (.bool true) ∧ Below W.heap.size W w' := by
  obtain ⟨r, k, f, R, rfl, hr, hR⟩ := rd_of_Trod h ho
  obtain ⟨p, l, c, X, rfl, hq, hX⟩ := rd_of_Trod h1 ho1
  obtain ⟨n, rfl, hn⟩ := wf_u16 ha
  obtain ⟨x, rfl, hx⟩ := wf_u8 hb
  by_cases hl : 300 < l ∨ 300 < k
  · exact reads_out W p r l c k f n x cut hq.2.1 hq.2.2.1 hr.2.1 hr.2.2.1 hl
  · exact reads_in W p r l c k f X R n x cut hq hr hX hR hn hx (by omega) (by omega)
end Num
end Go.Proofs.Ythjjakpjanoamaa
