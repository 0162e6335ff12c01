/-
  ArgsSteps at every input.
-/
import Derived.Test.YthmgmfmecfmeeaaHN
namespace Go.Proofs.Ythmgmfmecfmeeaa
open Go.RowKit
namespace Num
open Ints
set_option linter.unusedSimpArgs false
set_option linter.unusedVariables false
theorem nat_c {a : Int} (h : (Lit.int .u8 a).wf = true) : ∃ n : Nat, a = (n : Int) ∧ n < 256 := by
  have h3 : IntKind.u8.bits = 8 := rfl
  simp only [Lit.wf, decide_eq_true_eq, IntKind.min, IntKind.max] at h
  simp [IntKind.signed, h3] at h
  exact ⟨a.toNat, by omega, by omega⟩
theorem steps_law (a : Int) (ha : (Lit.int .u8 a).wf = true) (b : Int) (hb : (Lit.int .u8 b).wf = true) (c : Int) (hc : (Lit.int .u8 c).wf = true) (W : World) :
    Calls Try.prog 6 #[.int .u8 a, .int .u8 b, .int .u8 c] W fun e w' => e = .returned (.bool true) ∧ Below W.heap.size W w' := by
  obtain ⟨x, rfl, hx⟩ := nat_c ha
  obtain ⟨y, rfl, hy⟩ := nat_c hb
  obtain ⟨z, rfl, hz⟩ := nat_c hc
  exact steps_in x y z W hx hy hz
end Num
end Go.Proofs.Ythmgmfmecfmeeaa
