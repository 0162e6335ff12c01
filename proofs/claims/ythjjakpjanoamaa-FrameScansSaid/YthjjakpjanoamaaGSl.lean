/-
  FrameSums, at every reading of its arguments.
-/
import Derived.Test.YthjjakpjanoamaaGS
import Derived.Test.YthjjakpjanoamaaRT
namespace Go.Proofs.Ythjjakpjanoamaa
open Go.RowKit Go.ChangeShapes Go.WideShapes
namespace Num
open Ints
set_option linter.unusedSimpArgs false
set_option linter.unusedVariables false
set_option maxRecDepth 100000 in
theorem wf_u16 {a : Int} (h : (Lit.int .u16 a).wf = true) : ∃ n : Nat, a = (n : Int) ∧ n < 65536 := by
  simp only [Lit.wf, decide_eq_true_eq, IntKind.min, IntKind.max] at h
  have h1 : IntKind.u16.bits = 16 := rfl
  simp [IntKind.signed, h1] at h
  exact ⟨a.toNat, by omega, by omega⟩
set_option maxRecDepth 100000 in
theorem wf_u8 {a : Int} (h : (Lit.int .u8 a).wf = true) : ∃ n : Nat, a = (n : Int) ∧ n < 256 := by
  simp only [Lit.wf, decide_eq_true_eq, IntKind.min, IntKind.max] at h
  have h1 : IntKind.u8.bits = 8 := rfl
  simp [IntKind.signed, h1] at h
  exact ⟨a.toNat, by omega, by omega⟩
set_option maxRecDepth 100000 in
theorem sums_law {H : Type} {enc : TypeId × Value → H} {W : World} {v : Value} {d : DataW H} {ps : List MemPlace} {b0 : Nat} (h : DataW.Trod enc Try.prog W 0 (fun _ => true) true 22 v d ps) (ho : Value.okWide Try.prog W .any b0 22 v)
    (_ : ∀ x ∈ ps, x.block < W.heap.size) (a : Int) (ha : (Lit.int .u16 a).wf = true) (b : Int) (hb : (Lit.int .u8 b).wf = true) :
    Calls Try.prog 9 #[v, .int .u16 a, .int .u8 b] W fun e w' => e = .returned (.bool true) ∧ Below W.heap.size W w' := by
  obtain ⟨p, l, c, X, rfl, hr, hX⟩ := rd_of_Trod h ho
  obtain ⟨n, rfl, hn⟩ := wf_u16 ha
  obtain ⟨k, rfl, hk⟩ := wf_u8 hb
  by_cases hl : l = 0 ∨ 500 < l
  · exact sums_out W p l c n k hr.2.1 hr.2.2.1 hl
  · obtain ⟨bb, off, rfl⟩ := rd_full hr (by omega)
    exact sums_some W bb off l c X n k hr hX hn hk (by omega) (by omega)
end Num
end Go.Proofs.Ythjjakpjanoamaa
