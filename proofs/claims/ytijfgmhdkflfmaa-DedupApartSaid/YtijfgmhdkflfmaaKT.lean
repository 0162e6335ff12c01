/-
  A value as Clean makes it.
-/
import Derived.Test.YtijfgmhdkflfmaaVTree
namespace Go.Proofs.Ytijfgmhdkflfmaa
open Go.RowKit
namespace Num
open Ints
set_option linter.unusedSimpArgs false
set_option linter.unusedVariables false
/-- A value as Clean makes it. -/
def cleanT : (n : Nat) → VT n → VT n
  | 0, T => T
  | n + 1, T => if (T.1 == 1) = true then (1, T.2.1, 0, ⟨#[]⟩, []) else if (T.1 == 2) = true then (2, 0, Flo.canon T.2.2.1, ⟨#[]⟩, [])
      else if (T.1 == 3) = true then (3, 0, 0, T.2.2.2.1, []) else if (T.1 == 4) = true then (4, 0, 0, ⟨#[]⟩, T.2.2.2.2.map (cleanT n)) else (0, 0, 0, ⟨#[]⟩, [])
end Num
end Go.Proofs.Ytijfgmhdkflfmaa
