/-
  How many bytes a value has.
-/
import Derived.Test.YtbodakfgoijeeaaMO
import Derived.Test.YtbodakfgoijeeaaMQ
namespace Go.Proofs.Ytbodakfgoijeeaa
open Go.RowKit
namespace Num
open Ints
set_option linter.unusedSimpArgs false
set_option linter.unusedVariables false
theorem fold_enc {n : Nat} {B : Nat} : ∀ (L : List (VT n)) (a : Int), (∀ x ∈ L, sizeT n x = ((encV n x).length : Int) ∧ (encV n x).length ≤ B) → 0 ≤ a → a + (L.length * B : Nat) < 9223372036854775808 →
    L.foldl (fun a x => wrap64 (a + sizeT n x)) a = a + ((L.flatMap (encV n)).length : Int) ∧ (L.flatMap (encV n)).length ≤ L.length * B := by
  intro L
  induction L with
  | nil => intro a _ _ _; simp
  | cons x L ih =>
    intro a h h0 hb
    obtain ⟨h1, h2⟩ := h x (List.mem_cons_self ..)
    rw [List.length_cons, Nat.succ_mul] at hb
    obtain ⟨M, hM⟩ : ∃ M, L.length * B = M := ⟨_, rfl⟩
    rw [hM] at hb
    have e : wrap64 (a + sizeT n x) = a + ((encV n x).length : Int) := by rw [h1]; unfold wrap64; omega
    obtain ⟨i1, i2⟩ := ih (a + ((encV n x).length : Int)) (fun y hy => h y (List.mem_cons_of_mem _ hy)) (by omega) (by rw [hM]; omega)
    rw [List.foldl_cons, e, i1, List.flatMap_cons, List.length_append, List.length_cons, Nat.succ_mul]
    exact ⟨by omega, by omega⟩
theorem enc_len : ∀ (n d : Nat) (T : VT n), kindsT n T = true → greatT n d T = false → d ≤ 8 → sizeT n T = ((encV n T).length : Int) ∧ (encV n T).length ≤ 300 * 65 ^ (8 - d) := by
  intro n
  induction n with
  | zero => intro d T _ _ _; exact ⟨rfl, Nat.zero_le _⟩
  | succ n ih =>
    intro d T hk hg hd
    obtain ⟨K, I, F, S, L⟩ := T
    have hp : 0 < 65 ^ (8 - d) := Nat.pow_pos (by decide)
    by_cases h1 : K = 1
    · subst h1
      have e : encV (n + 1) (1, I, F, S, L) = 1 :: beI (IntKind.u64.wrap I) 8 := rfl
      rw [e, sizeT_num (by decide), List.length_cons, beI_len]
      exact ⟨rfl, by omega⟩
    by_cases h2 : K = 2
    · subst h2
      have e : encV (n + 1) (2, I, F, S, L) = 2 :: beI (Flo.canon F : Int) 8 := rfl
      rw [e, sizeT_num (by decide), List.length_cons, beI_len]
      exact ⟨rfl, by omega⟩
    by_cases h3 : K = 3
    · subst h3
      have e : encV (n + 1) (3, I, F, S, L) = 3 :: (beI (S.size : Int) 2 ++ S.data.toList.map fun b => (b.toNat : Int)) := rfl
      rw [e, sizeT_text (by decide) (by decide), text_len]
      have hS : S.size ≤ 256 := by
        have h : decide (256 < (S.size : Int)) = false := hg
        simp at h
        omega
      exact ⟨by unfold wrap64; omega, by omega⟩
    by_cases h4 : K = 4
    · subst h4
      have hg' : (decide (8 ≤ d) || decide (64 < (L.length : Int)) || L.any (greatT n (d + 1))) = false := hg
      have hk' : L.all (kindsT n) = true := hk
      simp only [Bool.or_eq_false_iff, decide_eq_false_iff_not, List.any_eq_false] at hg'
      obtain ⟨⟨g1, g2⟩, g3⟩ := hg'
      have e : encV (n + 1) (4, I, F, S, L) = 4 :: IntKind.u8.wrap (L.length : Int) :: L.flatMap (encV n) := rfl
      obtain ⟨B, hB⟩ : ∃ B, 300 * 65 ^ (8 - (d + 1)) = B := ⟨_, rfl⟩
      have hB2 : 300 * 65 ^ (8 - d) = 65 * B := by
        rw [← hB, show 8 - d = (8 - (d + 1)) + 1 by omega, Nat.pow_succ]
        omega
      have hB3 : 300 ≤ B := by rw [← hB]; have : 0 < 65 ^ (8 - (d + 1)) := Nat.pow_pos (by decide); omega
      have hB4 : B ≤ 300 * 65 ^ 7 := by rw [← hB]; exact Nat.mul_le_mul_left _ (Nat.pow_le_pow_right (by decide) (by omega))
      have hL : L.length * B ≤ 64 * B := Nat.mul_le_mul_right _ (by omega)
      obtain ⟨M, hM⟩ : ∃ M, L.length * B = M := ⟨_, rfl⟩
      have hbig : (2 : Int) + (L.length * B : Nat) < 9223372036854775808 := by
        have h7 : (300 * 65 ^ 7 : Nat) = 1470668367187500 := by decide
        rw [hM] at hL ⊢
        omega
      obtain ⟨f1, f2⟩ := fold_enc (B := B) L 2 (fun x hx => by
        have := ih (d + 1) x (by simpa using (List.all_eq_true.1 hk' x hx)) (by simpa using g3 x hx) (by omega)
        rw [hB] at this
        exact this) (by decide) hbig
      rw [e, sizeT_list (by decide) (by decide) (by decide), f1, List.length_cons, List.length_cons, hB2]
      exact ⟨by omega, by omega⟩
    have e : encV (n + 1) (K, I, F, S, L) = [0] := by
      unfold encV
      rw [if_neg (by simpa using h1), if_neg (by simpa using h2), if_neg (by simpa using h3), if_neg (by simpa using h4)]
    rw [e, sizeT_else (by simp [h1, h2]) (by simpa using h3) (by simpa using h4)]
    exact ⟨rfl, by simp; omega⟩
theorem enc_by : ∀ (n : Nat) (T : VT n), By (encV n T) := by
  intro n
  induction n with
  | zero => intro T x hx; cases hx
  | succ n ih =>
    intro T x hx
    unfold encV at hx
    split at hx
    · rcases List.mem_cons.1 hx with rfl | hx
      · omega
      · exact by_be _ _ x hx
    split at hx
    · rcases List.mem_cons.1 hx with rfl | hx
      · omega
      · exact by_be _ _ x hx
    split at hx
    · rcases List.mem_cons.1 hx with rfl | hx
      · omega
      · rcases List.mem_append.1 hx with hx | hx
        · exact by_be _ _ x hx
        · obtain ⟨b, _, rfl⟩ := List.mem_map.1 hx
          have := b.toNat_lt
          omega
    split at hx
    · rcases List.mem_cons.1 hx with rfl | hx
      · omega
      · rcases List.mem_cons.1 hx with rfl | hx
        · rw [Go.IntKind.wrap_u8]; omega
        · obtain ⟨y, _, hy⟩ := List.mem_flatMap.1 hx
          exact ih y x hy
    · rcases List.mem_cons.1 hx with rfl | hx
      · omega
      · cases hx
end Num
end Go.Proofs.Ytbodakfgoijeeaa
