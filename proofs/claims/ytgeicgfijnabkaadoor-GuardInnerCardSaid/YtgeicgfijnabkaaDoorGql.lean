/-
  GuardInner at what its arguments may be.
-/
import Derived.Test.YtgeicgfijnabkaaDoorGq
import Derived.Test.YtgeicgfijnabkaaDoorGv
namespace Go.Proofs.YtgeicgfijnabkaaDoor
open Go.RowKit
namespace Num
theorem inner_card (h : Int) (hh : 0 ≤ h ∧ h ≤ 255) (S : ByteArray) (_ : S.size ≤ maxLen) (x : Int) (hx : -32768 ≤ x ∧ x ≤ 32767) (a : Bool) (w : World) :
    Calls Tryd.prog 6 #[.int .u8 h, .string S, .int .i16 x, .bool a] w fun e w' => e = .returned (.bool true) ∧ Below w.heap.size w w' := by
  cases a
  · exact inner_law_false h S x w hh.1 hx.1 hx.2
  · exact inner_law_true h S x w hh.1 hx.1 hx.2
end Num
end Go.Proofs.YtgeicgfijnabkaaDoor
