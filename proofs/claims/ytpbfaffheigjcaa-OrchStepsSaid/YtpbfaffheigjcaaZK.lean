/-
  OrchSteps: whatever comes in.
-/
import Derived.Test.YtpbfaffheigjcaaZJ
import Derived.Test.YtpbfaffheigjcaaRT
namespace Go.Proofs.Ytpbfaffheigjcaa
open Go.RowKit
namespace Num
open Ints
set_option linter.unusedSimpArgs false
set_option linter.unusedVariables false
set_option maxRecDepth 100000 in
theorem orch_law {H : Type} {enc : TypeId × Value → H} {W : World} {v0 : Value} {d0 : DataW H} {p0 : List MemPlace} {b0 : Nat} (k0 : DataW.Trod enc Try.prog W 0 (fun _ => true) true 48 v0 d0 p0) (o0 : Value.okWide Try.prog W .any b0 48 v0) (t : Int) (w1 : (Lit.int IntKind.u8 t).wf = true) :
    Calls Try.prog 5 #[v0, .int .u8 t] W fun e w' => e = .returned (.bool true) ∧ Below W.heap.size W w' := by
  obtain ⟨p, l, c, X, rfl, hr, hB⟩ := rd_of_Trod k0 o0
  have ht : 0 ≤ t ∧ t < 256 := by
    simp only [Lit.wf, decide_eq_true_eq, IntKind.min, IntKind.max] at w1
    have h3 : IntKind.u8.bits = 8 := rfl
    simp [IntKind.signed, h3] at w1
    omega
  obtain ⟨n, rfl⟩ : ∃ n : Nat, t = (n : Int) := ⟨t.toNat, by omega⟩
  exact orch_in p l c X n W hr hB (by omega)
end Num
end Go.Proofs.Ytpbfaffheigjcaa
