/-
  known(): what every statement of the layer asks first.
-/
import Derived.Test.YtahcgdjcjapnkaaWP
namespace Go.Proofs.Ytahcgdjcjapnkaa
open Go.RowKit
namespace Num
open Ints
set_option linter.unusedSimpArgs false
set_option linter.unusedVariables false
theorem pow256 (n : Nat) : (2 : Int) ^ (8 * n) = 256 ^ n := by rw [Int.pow_mul]; rfl
theorem fold_be (u : Int) (hu : 0 ≤ u) : ∀ (n : Nat) (v : Int), 0 ≤ v → (v + 1) * 256 ^ n ≤ 18446744073709551616 → (beI u n).foldl shor v = v * 256 ^ n + u % 256 ^ n := by
  intro n
  induction n with
  | zero => intro v _ _; show v = v * 1 + u % 1; omega
  | succ n ih =>
    intro v hv hb
    have hp : (0 : Int) < 256 ^ n := Int.pow_pos (by omega)
    have e1 : (256 : Int) ^ (n + 1) = 256 ^ n * 256 := Int.pow_succ _ _
    rw [e1] at hb ⊢
    obtain ⟨P, hP⟩ : ∃ P : Int, P = 256 ^ n := ⟨_, rfl⟩
    rw [← hP] at hb hp ⊢
    have hv56 : v < 72057594037927936 := by
      have h1 : (v + 1) * 256 ≤ (v + 1) * (P * 256) := Int.mul_le_mul_of_nonneg_left (by omega) (by omega)
      omega
    have ha : 0 ≤ u / P % 256 ∧ u / P % 256 < 256 := by omega
    rw [beI, List.foldl_cons, pow256, ← hP, shor_eq v _ hv hv56 ha.1 ha.2]
    have hb2 : (v * 256 + u / P % 256 + 1) * P ≤ 18446744073709551616 := by
      have h1 : (v * 256 + u / P % 256 + 1) * P ≤ ((v + 1) * 256) * P := Int.mul_le_mul_of_nonneg_right (by omega) (by omega)
      have h2 : ((v + 1) * 256) * P = (v + 1) * (P * 256) := by rw [Int.mul_assoc, Int.mul_comm 256 P]
      omega
    have h3 := ih (v * 256 + u / P % 256) (by omega) (by rw [← hP]; exact hb2)
    rw [← hP] at h3
    rw [h3]
    have e2 : u % (P * 256) = u % P + P * (u / P % 256) := by
      have hq : u / (P * 256) = u / P / 256 := (Int.ediv_ediv_of_nonneg (by omega)).symm
      have k1 := Int.emod_def u (P * 256)
      have k2 := Int.emod_def u P
      have k3 := Int.emod_def (u / P) 256
      rw [hq] at k1
      rw [k1, k2, k3, Int.mul_sub, Int.mul_assoc]
      omega
    rw [e2, Int.add_mul, Int.mul_assoc, Int.mul_comm 256 P, Int.mul_comm (u / P % 256) P]
    omega
theorem rdU_be (u : Int) (h0 : 0 ≤ u) (h1 : u < 18446744073709551616) : rdU (beI u 8) = u := by
  have h := fold_be u h0 8 0 (by omega) (by decide)
  have e : (256 : Int) ^ 8 = 18446744073709551616 := by decide
  rw [e] at h
  unfold rdU
  rw [h]
  omega
theorem by_cons {k : Int} {X : List Int} (hk : 0 ≤ k ∧ k < 256) (h : By X) : By (k :: X) := fun x hx => by
  rcases List.mem_cons.1 hx with rfl | hx
  · exact hk
  · exact h x hx
theorem be_take (u : Int) : (beI u 8).take 8 = beI u 8 := List.take_of_length_le (by rw [beI_len]; omega)
/-- An Int's bytes are read. -/
theorem read_int (w : World) (p : Option Addr) (c : Nat) (u : Int) (h0 : 0 ≤ u) (h1 : u < 18446744073709551616) (hb : RdB w p 9 c (1 :: beI u 8)) :
    Calls Try.prog 13 #[.slice p 9 c] w fun e w' => ∃ q d, d ≤ maxLen ∧ e = .returned (.tuple #[.agg #[.int .i64 1, .int .i64 (wrap64 u), .float .f64 0, .string ⟨#[]⟩, .slice q 0 d], .int .i64 9, .int .i64 0]) ∧ Below w.heap.size w w' := by
  have hd : decV 9 (1 :: beI u 8) = some ((1, wrap64 u, 0, ⟨#[]⟩, []), 9) := by
    rw [decV, if_neg (by decide), if_pos (by decide), if_pos (by rw [beI_len]; omega), be_take, rdU_be u h0 h1]
  refine (read_ok 9 w p 9 c _ hb (by_cons (by omega) (by_be u 8)) (by omega) (by omega) (1, wrap64 u, 0, ⟨#[]⟩, []) 9 hd (by omega) (deepT_not (by decide)) (by rw [partsT_else (by decide)]; decide) (by rw [measT_num (by decide) (by decide)]; rfl)).mono ?_
  rintro e w' ⟨v, rfl, hB, q, a, d, rfl, _, _, _, _, hL, _⟩
  have ha : a = 0 := hL.1.symm
  subst ha
  exact ⟨q, d, hL.2.2.1, rfl, hB⟩
/-- A Float's bytes are read, where they are of the one NaN, or of none. -/
theorem read_flo (w : World) (p : Option Addr) (c : Nat) (u : Nat) (h1 : u < 18446744073709551616) (hq : Flo.canon u = u) (hb : RdB w p 9 c (2 :: beI u 8)) :
    Calls Try.prog 13 #[.slice p 9 c] w fun e w' => ∃ q d, d ≤ maxLen ∧ e = .returned (.tuple #[.agg #[.int .i64 2, .int .i64 0, .float .f64 u, .string ⟨#[]⟩, .slice q 0 d], .int .i64 9, .int .i64 0]) ∧ Below w.heap.size w w' := by
  have hd : decV 9 (2 :: beI u 8) = some ((2, 0, u, ⟨#[]⟩, []), 9) := by
    rw [decV, if_neg (by decide), if_neg (by decide), if_pos (by decide), be_take, rdU_be u (by omega) (by omega), Int.toNat_natCast, if_pos ⟨by rw [beI_len]; omega, hq⟩]
  refine (read_ok 9 w p 9 c _ hb (by_cons (by omega) (by_be u 8)) (by omega) (by omega) (2, 0, u, ⟨#[]⟩, []) 9 hd (by omega) (deepT_not (by decide)) (by rw [partsT_else (by decide)]; decide) (by rw [measT_num (by decide) (by decide)]; rfl)).mono ?_
  rintro e w' ⟨v, rfl, hB, q, a, d, rfl, _, _, _, _, hL, _⟩
  have ha : a = 0 := hL.1.symm
  subst ha
  exact ⟨q, d, hL.2.2.1, rfl, hB⟩
theorem read_nan (w : World) (p : Option Addr) (c : Nat) (u : Nat) (h1 : u < 18446744073709551616) (hq : ¬ Flo.canon u = u) (hb : RdB w p 9 c (2 :: beI u 8)) :
    Calls Try.prog 13 #[.slice p 9 c] w fun e w' => e = .returned (.tuple #[.agg #[.int .i64 0, .int .i64 0, .float .f64 0, .string ⟨#[]⟩, .slice none 0 0], .int .i64 0, .int .i64 20]) ∧ Below w.heap.size w w' := by
  have hd : decV 9 (2 :: beI u 8) = none := by
    rw [decV, if_neg (by decide), if_neg (by decide), if_pos (by decide), be_take, rdU_be u (by omega) (by omega), Int.toNat_natCast, if_neg (fun h => hq h.2)]
  exact read_no 9 w p 9 c _ hb (by_cons (by omega) (by_be u 8)) (by omega) (by omega) hd
end Num
end Go.Proofs.Ytahcgdjcjapnkaa
