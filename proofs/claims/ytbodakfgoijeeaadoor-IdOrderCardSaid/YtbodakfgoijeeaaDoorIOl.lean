/-
  IdOrder at the numbers that an argument may have.
-/
import Derived.Test.YtbodakfgoijeeaaDoorIO
import Derived.Test.YtbodakfgoijeeaaDoorIWf
namespace Go.Proofs.YtbodakfgoijeeaaDoor
open Go.RowKit
namespace Num
set_option linter.unusedVariables false
theorem order_law5 (a00 a01 a02 a10 a11 a12 n near : Int) (w : World) (hg : Good w) (h00 : 0 ≤ a00 ∧ a00 ≤ 4294967295) (h01 : 0 ≤ a01 ∧ a01 ≤ 4294967295) (h02 : 0 ≤ a02 ∧ a02 ≤ 65535) (h10 : 0 ≤ a10 ∧ a10 ≤ 4294967295) (h11 : 0 ≤ a11 ∧ a11 ≤ 4294967295) (h12 : 0 ≤ a12 ∧ a12 ≤ 65535) (hn : -9223372036854775808 ≤ n ∧ n ≤ 9223372036854775807) (hnear : 0 ≤ near ∧ near ≤ 255) :
    Calls Tryd.prog 4 #[.agg #[.int .u32 a00, .int .u32 a01, .int .u16 a02], .agg #[.int .u32 a10, .int .u32 a11, .int .u16 a12], .int .i64 n, .int .u8 near] w fun e w' => e = .returned (.bool true) ∧ Below w.heap.size w w' :=
  order_law a00 a01 a02 a10 a11 a12 n near w hg
end Num
end Go.Proofs.YtbodakfgoijeeaaDoor
