/-
  CounterEdges: whatever comes in.
-/
import Derived.Test.YtmhogdigkdcnfaaCSe
namespace Go.Proofs.Ytmhogdigkdcnfaa
open Go.RowKit
namespace Num
open Ints
set_option linter.unusedSimpArgs false
set_option linter.unusedVariables false
theorem edges_law (n : Int) (wn : (Lit.int .i64 n).wf = true) (f : Nat) (hf : f < 18446744073709551616) (g : Nat) (hg : g < 18446744073709551616) (w : World) :
    Calls Try.prog 6 #[.int .i64 n, .float .f64 f, .float .f64 g] w fun e w' => e = .returned (.bool true) ∧ Below w.heap.size w w' := by
  have h1 : IntKind.i64.bits = 64 := rfl
  have hn : okI n := by
    simp [Lit.wf, IntKind.min, IntKind.max, IntKind.signed, h1] at wn
    unfold okI
    omega
  exact edges_any n f g hn hf hg w
end Num
end Go.Proofs.Ytmhogdigkdcnfaa
