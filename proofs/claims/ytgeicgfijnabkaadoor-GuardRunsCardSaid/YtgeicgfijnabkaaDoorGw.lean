/-
  A world that lays what the rows of layer 14 list.
-/
import Derived.Test.YtgeicgfijnabkaaDoorRows
import Derived.Lib.LaidTab
import Derived.Deep.DeepHandedRow
import Derived.Deep.DeepWitnessRowRef
namespace Go.Proofs.YtgeicgfijnabkaaDoor
open Go.Lib
namespace Wit
set_option linter.unusedSimpArgs false
set_option linter.unusedVariables false
def flatV : Nat → DataW Unit → List Value
  | 0, _ => []
  | n + 1, .lit (.int k z) => [.int k z]
  | n + 1, .agg ds => ds.flatMap (flatV n)
  | _, _ => []
noncomputable def laidWorld (os : Os) : World :=
  let w0 := World.holding Tryd.prog os ⟨#[], #[], []⟩
  let put (h : Array Obj) (g : Nat) (cs : Array Value) : Array Obj := h.modify g fun
    | .cells _ t frozen => .cells cs t frozen
    | o => o
  let h1 := put w0.heap 2 (flatV 4 Rows.laid_math_bits_deBruijn32tab).toArray
  let h2 := put h1 3 (flatV 4 Rows.laid_math_bits_deBruijn64tab).toArray
  let h3 := put h2 1 (flatV 4 Rows.laid_internal_strconv_uint64pow10).toArray
  { w0 with heap := h3 }
def row (b n : Nat) : List MemPlace := (List.range n).map fun i => .cell b i
set_option maxRecDepth 1000000 in
theorem laid_met (os : Os) (args : Array Value) : laidMet Tryd.prog Rows.guardTellsRow.laid ((laidWorld os).forCall (fun _ _ => 0) ⟨#[], args, []⟩).memory :=
  laidMet_of_run (ps := row 2 32 ++ row 3 64 ++ row 1 20) 8 (by kernel_rfl) (by kernel_rfl) (by kernel_rfl)
set_option maxRecDepth 1000000 in
theorem vars_ok (os : Os) (args : Array Value) : ((laidWorld os).forCall (fun _ _ => 0) ⟨#[], args, []⟩).variablesRefB Tryd.checked.prog = true := by kernel_rfl
end Wit
end Go.Proofs.YtgeicgfijnabkaaDoor
