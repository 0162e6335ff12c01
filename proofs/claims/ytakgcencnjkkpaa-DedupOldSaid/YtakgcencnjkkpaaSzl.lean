/-
  DedupOld: whatever comes in.
-/
import Derived.Test.YtakgcencnjkkpaaSz
namespace Go.Proofs.Ytakgcencnjkkpaa
open Go.RowKit
namespace Num
open Ints
set_option linter.unusedSimpArgs false
set_option linter.unusedVariables false
theorem u8_nat {t : Int} (w1 : (Lit.int IntKind.u8 t).wf = true) : ∃ n : Nat, t = (n : Int) ∧ n < 256 := by
  simp only [Lit.wf, decide_eq_true_eq, IntKind.min, IntKind.max] at w1
  have h3 : IntKind.u8.bits = 8 := rfl
  simp [IntKind.signed, h3] at w1
  exact ⟨t.toNat, by omega, by omega⟩
theorem dold_law (a : Int) (wa : (Lit.int .u8 a).wf = true) (b : Int) (wb : (Lit.int .u8 b).wf = true) (c : Int) (wc : (Lit.int .u8 c).wf = true) (w : World) :
    Calls Try.prog 4 #[.int .u8 a, .int .u8 b, .int .u8 c] w fun e w' => e = .returned (.bool true) ∧ Below w.heap.size w w' := by
  obtain ⟨x, rfl, hx⟩ := u8_nat wa
  obtain ⟨y, rfl, hy⟩ := u8_nat wb
  obtain ⟨z, rfl, hz⟩ := u8_nat wc
  exact old_law x y z hx hy hz w
end Num
end Go.Proofs.Ytakgcencnjkkpaa
