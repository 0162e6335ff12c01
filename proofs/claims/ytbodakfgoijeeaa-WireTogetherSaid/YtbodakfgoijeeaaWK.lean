/-
  known(): what every statement of the layer asks first.
-/
import Derived.Test.YtbodakfgoijeeaaWP
namespace Go.Proofs.Ytbodakfgoijeeaa
open Go.RowKit
namespace Num
open Ints
set_option linter.unusedSimpArgs false
set_option linter.unusedVariables false
/-- An Int's bytes are read. -/
theorem read_int (w : World) (p : Option Addr) (c : Nat) (u : Int) (h0 : 0 ≤ u) (h1 : u < 18446744073709551616) (hb : RdB w p 9 c (1 :: beI u 8)) :
    Calls Try.prog 8 #[.slice p 9 c] w fun e w' => ∃ q d, d ≤ maxLen ∧ e = .returned (.tuple #[.agg #[.int .i64 1, .int .i64 (wrap64 u), .float .f64 0, .string ⟨#[]⟩, .slice q 0 d], .int .i64 9, .int .i64 0]) ∧ Below w.heap.size w w' := by
  have hd : decV 9 (1 :: beI u 8) = some ((1, wrap64 u, 0, ⟨#[]⟩, []), 9) := by
    rw [decV, if_neg (by decide), if_pos (by decide), if_pos (by rw [beI_len]; omega), be_take, rdU_be u h0 h1]
  refine (read_ok 9 w p 9 c _ hb (by_cons (by omega) (by_be u 8)) (by omega) (by omega) (1, wrap64 u, 0, ⟨#[]⟩, []) 9 hd (by omega) (deepT_not (by decide)) (by rw [partsT_else (by decide)]; decide) (by rw [measT_num (by decide) (by decide)]; rfl)).mono ?_
  rintro e w' ⟨v, rfl, hB, q, a, d, rfl, _, _, _, _, hL, _, hdm, _⟩
  have ha : a = 0 := hL.symm
  subst ha
  exact ⟨q, d, hdm, rfl, hB⟩
/-- A Float's bytes are read, where they are of the one NaN, or of none. -/
theorem read_flo (w : World) (p : Option Addr) (c : Nat) (u : Nat) (h1 : u < 18446744073709551616) (hq : Flo.canon u = u) (hb : RdB w p 9 c (2 :: beI u 8)) :
    Calls Try.prog 8 #[.slice p 9 c] w fun e w' => ∃ q d, d ≤ maxLen ∧ e = .returned (.tuple #[.agg #[.int .i64 2, .int .i64 0, .float .f64 u, .string ⟨#[]⟩, .slice q 0 d], .int .i64 9, .int .i64 0]) ∧ Below w.heap.size w w' := by
  have hd : decV 9 (2 :: beI u 8) = some ((2, 0, u, ⟨#[]⟩, []), 9) := by
    rw [decV, if_neg (by decide), if_neg (by decide), if_pos (by decide), be_take, rdU_be u (by omega) (by omega), Int.toNat_natCast, if_pos ⟨by rw [beI_len]; omega, hq⟩]
  refine (read_ok 9 w p 9 c _ hb (by_cons (by omega) (by_be u 8)) (by omega) (by omega) (2, 0, u, ⟨#[]⟩, []) 9 hd (by omega) (deepT_not (by decide)) (by rw [partsT_else (by decide)]; decide) (by rw [measT_num (by decide) (by decide)]; rfl)).mono ?_
  rintro e w' ⟨v, rfl, hB, q, a, d, rfl, _, _, _, _, hL, _, hdm, _⟩
  have ha : a = 0 := hL.symm
  subst ha
  exact ⟨q, d, hdm, rfl, hB⟩
theorem read_nan (w : World) (p : Option Addr) (c : Nat) (u : Nat) (h1 : u < 18446744073709551616) (hq : ¬ Flo.canon u = u) (hb : RdB w p 9 c (2 :: beI u 8)) :
    Calls Try.prog 8 #[.slice p 9 c] w fun e w' => e = .returned (.tuple #[.agg #[.int .i64 0, .int .i64 0, .float .f64 0, .string ⟨#[]⟩, .slice none 0 0], .int .i64 0, .int .i64 20]) ∧ Below w.heap.size w w' := by
  have hd : decV 9 (2 :: beI u 8) = none := by
    rw [decV, if_neg (by decide), if_neg (by decide), if_pos (by decide), be_take, rdU_be u (by omega) (by omega), Int.toNat_natCast, if_neg (fun h => hq h.2)]
  exact read_no 9 w p 9 c _ hb (by_cons (by omega) (by_be u 8)) (by omega) (by omega) hd
end Num
end Go.Proofs.Ytbodakfgoijeeaa
