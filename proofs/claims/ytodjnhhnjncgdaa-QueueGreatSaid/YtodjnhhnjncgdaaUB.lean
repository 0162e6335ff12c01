/-
  Bytes of numbers and of texts: plain facts.
-/
import Derived.Test.YtodjnhhnjncgdaaUA
namespace Go.Proofs.Ytodjnhhnjncgdaa
open Go.RowKit
namespace Num
open Ints
set_option linter.unusedSimpArgs false
set_option linter.unusedVariables false
theorem shor_eq (v x : Int) (h0 : 0 ≤ v) (h1 : v < 72057594037927936) (hx0 : 0 ≤ x) (hx1 : x < 256) : shor v x = v * 256 + x := by
  unfold shor
  rw [Go.IntKind.wrap_u64]
  have e : v * 256 % 18446744073709551616 = v * 256 := by omega
  rw [e]
  exact bits_join .u64 64 (by decide) wraps_u64 8 _ _ (by omega) (by omega) (by omega) hx0 (by omega) (by omega)
theorem rdU_one (a : Int) (h0 : 0 ≤ a) (h1 : a < 256) : rdU [a] = a := by
  show shor 0 a = a
  rw [shor_eq 0 a (by omega) (by omega) h0 h1]; omega
theorem rdU_two (a b : Int) (h0 : 0 ≤ a) (h1 : a < 256) (h2 : 0 ≤ b) (h3 : b < 256) : rdU [a, b] = a * 256 + b := by
  show shor (shor 0 a) b = _
  rw [shor_eq 0 a (by omega) (by omega) h0 h1, shor_eq _ b (by omega) (by omega) h2 h3]; omega
theorem by_take {X : List Int} (h : By X) (n : Nat) : By (X.take n) := fun x hx => h x (List.mem_of_mem_take hx)
theorem by_drop {X : List Int} (h : By X) (n : Nat) : By (X.drop n) := fun x hx => h x (List.mem_of_mem_drop hx)
theorem by_app {X Y : List Int} (h : By X) (k : By Y) : By (X ++ Y) := fun x hx => by
  rcases List.mem_append.1 hx with hx | hx
  · exact h x hx
  · exact k x hx
theorem by_be (u : Int) : ∀ n, By (beI u n)
  | 0 => fun x hx => by cases hx
  | n + 1 => fun x hx => by
    rcases List.mem_cons.1 hx with rfl | hx
    · omega
    · exact by_be u n x hx
theorem rdU_pow (X : List Int) : ∀ n, n ≤ 8 → X.length = n → By X → 0 ≤ rdU X ∧ rdU X < 256 ^ n := by
  intro n
  induction n generalizing X with
  | zero => intro _ h _; rw [List.length_eq_zero_iff.1 h]; exact ⟨by decide, by decide⟩
  | succ n ih =>
    intro hn hl hb
    have hne : X ≠ [] := by intro e; rw [e] at hl; cases hl
    have e := List.dropLast_concat_getLast hne
    have h1 := ih X.dropLast (by omega) (by rw [List.length_dropLast, hl]; rfl) (fun x hx => hb x (List.dropLast_subset _ hx))
    have h2 := hb _ (List.getLast_mem hne)
    have hp : (256 : Int) ^ n ≤ 256 ^ 7 := by
      have : ∀ m, m ≤ 7 → (256 : Int) ^ m ≤ 256 ^ 7 := by
        intro m hm
        have : m = 0 ∨ m = 1 ∨ m = 2 ∨ m = 3 ∨ m = 4 ∨ m = 5 ∨ m = 6 ∨ m = 7 := by omega
        rcases this with rfl | rfl | rfl | rfl | rfl | rfl | rfl | rfl <;> decide
      exact this n (by omega)
    have hp7 : (256 : Int) ^ 7 = 72057594037927936 := by decide
    rw [← e, rdU_snoc, shor_eq _ _ h1.1 (by omega) h2.1 h2.2, Int.pow_succ]
    omega
/-- A text's length, as it stands ahead of it. -/
theorem len16 {X : List Int} (hX : By X) (h : 2 ≤ X.length) : ∃ L : Nat, rdU (X.take 2) = (L : Int) ∧ L < 65536 := by
  have hl : (X.take 2).length = 2 := by rw [List.length_take]; omega
  obtain ⟨h0, h1⟩ := rdU_pow (X.take 2) 2 (by omega) hl (by_take hX 2)
  have e : (256 : Int) ^ 2 = 65536 := by decide
  exact ⟨(rdU (X.take 2)).toNat, by omega, by omega⟩
/-- A text's bytes. -/
def strIs (s : ByteArray) : List Int := s.data.toList.map fun b => (b.toNat : Int)
theorem strIs_len (s : ByteArray) : (strIs s).length = s.size := by unfold strIs; rw [List.length_map, Array.length_toList]; rfl
theorem by_str (s : ByteArray) : By (strIs s) := fun x hx => by
  obtain ⟨b, _, rfl⟩ := List.mem_map.1 hx
  have := b.toNat_lt
  omega
theorem strB_back (s : ByteArray) : strB (strIs s) = s := by
  unfold strB strOfNums strIs
  rw [List.map_map]
  have e : ((fun n : Int => UInt8.ofNat n.toNat) ∘ fun b : UInt8 => (b.toNat : Int)) = id := by
    funext b
    simp
  rw [e, List.map_id]
/-- The part of a slice behind its first k. -/
theorem rd_cut {w : World} {b off l c k m : Nat} {X : List Int} (h : RdB w (some ⟨b, off, none⟩) l c X) (hkl : k + m ≤ l) : RdB w (some ⟨b, off + k, none⟩) m (c - k) ((X.drop k).take m) := by
  obtain ⟨h1, h2, h3, h4, h5⟩ := h
  refine ⟨by rw [List.length_take, List.length_drop]; omega, by omega, by omega, fun hm => ?_, fun e => by cases e⟩
  obtain ⟨b', off', e, hc⟩ := h4 (by omega)
  cases e
  refine ⟨b, off + k, rfl, fun i hi => ?_⟩
  have hi' : i < m := by rw [List.length_take] at hi; omega
  rw [List.getElem_take, List.getElem_drop, Nat.add_assoc]
  exact hc (k + i) (by omega)
theorem rd_full {w : World} {p : Option Addr} {l c : Nat} {X : List Int} (h : RdB w p l c X) (hl : 0 < l) : ∃ b off, p = some ⟨b, off, none⟩ := by
  obtain ⟨b, off, e, _⟩ := h.2.2.2.1 hl
  exact ⟨b, off, e⟩
theorem pow256 (n : Nat) : (2 : Int) ^ (8 * n) = 256 ^ n := by rw [Int.pow_mul]; rfl
theorem fold_be (u : Int) (hu : 0 ≤ u) : ∀ (n : Nat) (v : Int), 0 ≤ v → (v + 1) * 256 ^ n ≤ 18446744073709551616 → (beI u n).foldl shor v = v * 256 ^ n + u % 256 ^ n := by
  intro n
  induction n with
  | zero => intro v _ _; show v = v * 1 + u % 1; omega
  | succ n ih =>
    intro v hv hb
    have hp : (0 : Int) < 256 ^ n := Int.pow_pos (by omega)
    have e1 : (256 : Int) ^ (n + 1) = 256 ^ n * 256 := Int.pow_succ _ _
    rw [e1] at hb ⊢
    obtain ⟨P, hP⟩ : ∃ P : Int, P = 256 ^ n := ⟨_, rfl⟩
    rw [← hP] at hb hp ⊢
    have hv56 : v < 72057594037927936 := by
      have h1 : (v + 1) * 256 ≤ (v + 1) * (P * 256) := Int.mul_le_mul_of_nonneg_left (by omega) (by omega)
      omega
    have ha : 0 ≤ u / P % 256 ∧ u / P % 256 < 256 := by omega
    rw [beI, List.foldl_cons, pow256, ← hP, shor_eq v _ hv hv56 ha.1 ha.2]
    have hb2 : (v * 256 + u / P % 256 + 1) * P ≤ 18446744073709551616 := by
      have h1 : (v * 256 + u / P % 256 + 1) * P ≤ ((v + 1) * 256) * P := Int.mul_le_mul_of_nonneg_right (by omega) (by omega)
      have h2 : ((v + 1) * 256) * P = (v + 1) * (P * 256) := by rw [Int.mul_assoc, Int.mul_comm 256 P]
      omega
    have h3 := ih (v * 256 + u / P % 256) (by omega) (by rw [← hP]; exact hb2)
    rw [← hP] at h3
    rw [h3]
    have e2 : u % (P * 256) = u % P + P * (u / P % 256) := by
      have hq : u / (P * 256) = u / P / 256 := (Int.ediv_ediv_of_nonneg (by omega)).symm
      have k1 := Int.emod_def u (P * 256)
      have k2 := Int.emod_def u P
      have k3 := Int.emod_def (u / P) 256
      rw [hq] at k1
      rw [k1, k2, k3, Int.mul_sub, Int.mul_assoc]
      omega
    rw [e2, Int.add_mul, Int.mul_assoc, Int.mul_comm 256 P, Int.mul_comm (u / P % 256) P]
    omega
theorem rdU_be (u : Int) (h0 : 0 ≤ u) (h1 : u < 18446744073709551616) : rdU (beI u 8) = u := by
  have h := fold_be u h0 8 0 (by omega) (by decide)
  have e : (256 : Int) ^ 8 = 18446744073709551616 := by decide
  rw [e] at h
  unfold rdU
  rw [h]
  omega
theorem by_cons {k : Int} {X : List Int} (hk : 0 ≤ k ∧ k < 256) (h : By X) : By (k :: X) := fun x hx => by
  rcases List.mem_cons.1 hx with rfl | hx
  · exact hk
  · exact h x hx
theorem be_take (u : Int) : (beI u 8).take 8 = beI u 8 := List.take_of_length_le (by rw [beI_len]; omega)
end Num
end Go.Proofs.Ytodjnhhnjncgdaa
