/-
  FrameScans, at every reading of its arguments.
-/
import Derived.Test.YthjjakpjanoamaaGC
import Derived.Test.YthjjakpjanoamaaGSl
namespace Go.Proofs.Ythjjakpjanoamaa
open Go.RowKit Go.ChangeShapes Go.WideShapes
namespace Num
open Ints
set_option linter.unusedSimpArgs false
set_option linter.unusedVariables false
set_option maxRecDepth 100000 in
theorem scans_law {H : Type} {enc : TypeId × Value → H} {W : World} {v : Value} {d : DataW H} {ps : List MemPlace} {b0 : Nat} (h : DataW.Trod enc Try.prog W 0 (fun _ => true) true 32 v d ps) (ho : Value.okWide Try.prog W .any b0 32 v) (_ : ∀ x ∈ ps, x.block < W.heap.size)
    (a : Int) (ha : (Lit.int .u16 a).wf = true) (b : Int) (hb : (Lit.int .u8 b).wf = true)
    {v1 : Value} {d1 : DataW H} {ps1 : List MemPlace} {b1 : Nat} (h1 : DataW.Trod enc Try.prog W 0 (fun _ => true) true 22 v1 d1 ps1) (ho1 : Value.okWide Try.prog W .any b1 22 v1) (_ : ∀ x ∈ ps1, x.block < W.heap.size) :
    Calls Try.prog 8 #[v, .int .u16 a, .int .u8 b, v1] W fun e w' => e = .returned (.bool true) ∧ Below W.heap.size W w' := by
  obtain ⟨p, l, c, LS, rfl, hs⟩ := rs_of_Trod h ho
  obtain ⟨r, k, f, M, rfl, hr, hM⟩ := rd_of_Trod h1 ho1
  obtain ⟨n, rfl, hn⟩ := wf_u16 ha
  obtain ⟨x, rfl, hx⟩ := wf_u8 hb
  by_cases hl : 10 < l ∨ 100 < k
  · exact scans_out W p r l c k f n x hs.2.1 hs.2.2.1 hr.2.1 hr.2.2.1 hl
  · exact scans_in W p r l c k f LS M n x hs hr hM hn hx (by omega) (by omega)
end Num
end Go.Proofs.Ythjjakpjanoamaa
