/-
  IdLine at the numbers that an argument may have.
-/
import Derived.Test.YtbodakfgoijeeaaDoorIK
import Derived.Test.YtbodakfgoijeeaaDoorIWf
namespace Go.Proofs.YtbodakfgoijeeaaDoor
open Go.RowKit
namespace Num
set_option linter.unusedVariables false
theorem line_law5 (a00 a01 a02 a10 a11 a12 a20 a21 a22 n : Int) (w : World) (hg : Good w) (h00 : 0 ≤ a00 ∧ a00 ≤ 4294967295) (h01 : 0 ≤ a01 ∧ a01 ≤ 4294967295) (h02 : 0 ≤ a02 ∧ a02 ≤ 65535) (h10 : 0 ≤ a10 ∧ a10 ≤ 4294967295) (h11 : 0 ≤ a11 ∧ a11 ≤ 4294967295) (h12 : 0 ≤ a12 ∧ a12 ≤ 65535) (h20 : 0 ≤ a20 ∧ a20 ≤ 4294967295) (h21 : 0 ≤ a21 ∧ a21 ≤ 4294967295) (h22 : 0 ≤ a22 ∧ a22 ≤ 65535) (hn : 0 ≤ n ∧ n ≤ 255) :
    Calls Tryd.prog 5 #[.agg #[.int .u32 a00, .int .u32 a01, .int .u16 a02], .agg #[.int .u32 a10, .int .u32 a11, .int .u16 a12], .agg #[.int .u32 a20, .int .u32 a21, .int .u16 a22], .int .u8 n] w fun e w' => e = .returned (.bool true) ∧ Below w.heap.size w w' :=
  line_law a00 a01 a02 a10 a11 a12 a20 a21 a22 n w hg hn.1 hn.2 h01.1 h01.2
end Num
end Go.Proofs.YtbodakfgoijeeaaDoor
