/-
  GuardTells at what its arguments may be.
-/
import Derived.Test.YtgeicgfijnabkaaDoorGo
import Derived.Test.YtgeicgfijnabkaaDoorGv
namespace Go.Proofs.YtgeicgfijnabkaaDoor
open Go.RowKit
namespace Num
theorem tells_card (h : Int) (hh : 0 ≤ h ∧ h ≤ 255) (S : ByteArray) (_ : S.size ≤ maxLen) (x : Int) (_ : -2147483648 ≤ x ∧ x ≤ 2147483647) (w : World) :
    Calls Tryd.prog 5 #[.int .u8 h, .string S, .int .i32 x] w fun e w' => e = .returned (.bool true) ∧ Below w.heap.size w w' := tells_law h S x w hh.1
end Num
end Go.Proofs.YtgeicgfijnabkaaDoor
