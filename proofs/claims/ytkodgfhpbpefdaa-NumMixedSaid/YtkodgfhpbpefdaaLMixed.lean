/-
  NumMixed, one of its cases.
-/
import Derived.Test.YtkodgfhpbpefdaaLMixSomeSome
import Derived.Test.YtkodgfhpbpefdaaLMixSomeNone
import Derived.Test.YtkodgfhpbpefdaaLMixNoneSome
import Derived.Test.YtkodgfhpbpefdaaLMixNoneNone
namespace Go.Proofs.Ytkodgfhpbpefdaa
open Go.RowKit
namespace Num
open Ints
set_option linter.unusedSimpArgs false
set_option linter.unusedVariables false
theorem numMixed_calls (n : Int) (wn : (Lit.int .i64 n).wf = true) (y : Nat) (w : World) : Calls Try.prog 9 #[.int .i64 n, .float .f64 y] w fun e w' => e = .returned (.bool true) ∧ Below w.heap.size w w' := by
  cases ha : floatBits .add .f64 (floatOfInt .f64 n) y with
  | some ra =>
    cases hm : floatBits .mul .f64 (floatOfInt .f64 n) y with
    | some rm => exact numMixed_some_some n wn y ha hm w
    | none => exact numMixed_some_none n wn y ha hm w
  | none =>
    cases hm : floatBits .mul .f64 (floatOfInt .f64 n) y with
    | some rm => exact numMixed_none_some n wn y ha hm w
    | none => exact numMixed_none_none n wn y ha hm w
end Num
end Go.Proofs.Ytkodgfhpbpefdaa
