/-
  IdBack at the numbers that an argument may have.
-/
import Derived.Test.YtbodakfgoijeeaaDoorIQ
import Derived.Test.YtbodakfgoijeeaaDoorIWf
namespace Go.Proofs.YtbodakfgoijeeaaDoor
open Go.RowKit
namespace Num
set_option linter.unusedVariables false
theorem back_law5 (a00 a01 a02 : Int) (s : ByteArray) (at_ ch : Int) (w : World) (hg : Good w) (h00 : 0 ≤ a00 ∧ a00 ≤ 4294967295) (h01 : 0 ≤ a01 ∧ a01 ≤ 4294967295) (h02 : 0 ≤ a02 ∧ a02 ≤ 65535) (hs : s.size ≤ maxLen) (hat : 0 ≤ at_ ∧ at_ ≤ 255) (hch : 0 ≤ ch ∧ ch ≤ 255) :
    Calls Tryd.prog 3 #[.agg #[.int .u32 a00, .int .u32 a01, .int .u16 a02], .string s, .int .u8 at_, .int .u8 ch] w fun e w' => e = .returned (.bool true) ∧ Below w.heap.size w w' := by
  obtain ⟨c, rfl⟩ : ∃ c : Nat, a00 = c := ⟨a00.toNat, by omega⟩
  obtain ⟨q, rfl⟩ : ∃ q : Nat, a01 = q := ⟨a01.toNat, by omega⟩
  obtain ⟨n, rfl⟩ : ∃ n : Nat, a02 = n := ⟨a02.toNat, by omega⟩
  obtain ⟨t, rfl⟩ : ∃ t : Nat, at_ = t := ⟨at_.toNat, by omega⟩
  obtain ⟨d, hd⟩ : ∃ d : UInt8, ch = (d.toNat : Nat) := ⟨UInt8.ofNat ch.toNat, by rw [UInt8.toNat_ofNat']; omega⟩
  have hS : s = SB s.data.toList := by cases s; simp [SB]
  rw [hS, hd]
  exact back_law c q n (by omega) (by omega) (by omega) s.data.toList (by rw [← sb_size, ← hS]; exact hs) t d (by omega) w hg
end Num
end Go.Proofs.YtbodakfgoijeeaaDoor
