/-
  ValueLimits: the values that it makes, as trees: what is measured of them; noughts made.
-/
import Derived.Test.YtahcgdjcjapnkaaGreatDoorVRs
import Derived.Laws.OwnMore
import Derived.Laws.MakeOwn
namespace Go.Proofs.YtahcgdjcjapnkaaGreatDoor
open Go.RowKit
namespace Num
open Ints
set_option linter.unusedSimpArgs false
set_option linter.unusedVariables false
/-- What is asked of a value at the end: how deep, how many parts, its Check, its Size. -/
def Fine (n : Nat) (T : VT n) (ok : Bool) : Prop := deepT n T 64 = false ∧ partsT n T ≤ 1000 ∧ checkM (measT n T) = (if ok = true then 0 else 22) ∧ sizeM (measT n T) = sizeT n T
theorem sizeM_mk (a b : Bool) (c d : Int) : sizeM (a, b, c, d) = d := rfl
theorem ft1 (s : ByteArray) : deepT 1 (3, 0, 0, s, []) 64 = false := deepT_not (by decide)
theorem ft2 (s : ByteArray) : partsT 1 (3, 0, 0, s, []) ≤ 1000 := by rw [partsT_else (by decide)]; omega
theorem ft3 (s : ByteArray) (N : Nat) (hN : s.size = N) (hb : N ≤ 300) : checkM (measT 1 (3, 0, 0, s, [])) = (if decide (N ≤ 256) = true then 0 else 22) := by
  have e : wrap64 (3 + (s.size : Int)) = 3 + (s.size : Int) := by unfold wrap64; omega
  rw [measT_text (by decide) (by decide) (by decide), e]
  unfold checkM
  by_cases h : N ≤ 256
  · have h2 : decide (256 < (s.size : Int)) = false := by simp; omega
    have h3 : decide (4096 < 3 + (s.size : Int)) = false := by simp; omega
    have h4 : decide (N ≤ 256) = true := by simp; omega
    rw [h2, h3, h4]
    rfl
  · have h2 : decide (256 < (s.size : Int)) = true := by simp; omega
    have h4 : decide (N ≤ 256) = false := by simp; omega
    rw [h2, h4]
    rfl
theorem ft4 (s : ByteArray) : sizeM (measT 1 (3, 0, 0, s, [])) = sizeT 1 (3, 0, 0, s, []) := by
  rw [measT_text (by decide) (by decide) (by decide), sizeM_mk, sizeT_text (by decide) (by decide)]
theorem fine_text (s : ByteArray) (N : Nat) (hN : s.size = N) (hb : N ≤ 300) : Fine 1 (3, 0, 0, s, []) (decide (N ≤ 256)) := ⟨ft1 s, ft2 s, ft3 s N hN hb, ft4 s⟩
def nilV (n : Nat) : VT (n + 1) := (0, 0, 0, ⟨#[]⟩, [])
theorem fold_nils (n : Nat) (b : Bool) : ∀ (m : Nat) (z : Int), 0 ≤ z → z + m ≤ 5000 → (List.replicate m (nilV n)).foldl (fun a x => withM a (measT (n + 1) x)) (false, b, 1, z) = (false, b, 1, z + m) := by
  intro m
  induction m with
  | zero => intro z _ _; simp
  | succ m ih =>
    intro z h0 h1
    rw [List.replicate_succ, List.foldl_cons, nilV, measT_nil (by decide)]
    have e1 : wrap64 ((0 : Int) + 1) = 1 := by unfold wrap64; omega
    have e2 : wrap64 (9223372036854775807 - (1 : Int)) = 9223372036854775806 := by unfold wrap64; omega
    have e3 : wrap64 (z + 1) = z + 1 := by unfold wrap64; omega
    have e4 : withM (false, b, 1, z) (false, false, 0, 1) = (false, b, 1, z + 1) := by
      simp only [withM, e1, e2, e3]
      rw [if_neg (by omega), if_neg (by omega)]
      simp
    rw [e4]
    have h2 := ih (z + 1) (by omega) (by omega)
    rw [nilV] at h2
    rw [h2, show z + 1 + (m : Int) = z + ((m + 1 : Nat) : Int) by omega]
theorem size_nils (n : Nat) : ∀ (m : Nat) (z : Int), 0 ≤ z → z + m ≤ 5000 → (List.replicate m (nilV n)).foldl (fun a x => wrap64 (a + sizeT (n + 1) x)) z = z + m := by
  intro m
  induction m with
  | zero => intro z _ _; simp
  | succ m ih =>
    intro z h0 h1
    rw [List.replicate_succ, List.foldl_cons, nilV, sizeT_else (by decide) (by decide) (by decide)]
    have e3 : wrap64 (z + 1) = z + 1 := by unfold wrap64; omega
    have h2 := ih (z + 1) (by omega) (by omega)
    rw [nilV] at h2
    rw [e3, h2]
    omega
theorem fine_nils (N : Nat) (hb : N ≤ 100) : Fine 2 (4, 0, 0, ⟨#[]⟩, List.replicate N (nilV 0)) (decide (N ≤ 64)) := by
  have hp : ∀ (m a : Nat), (List.replicate m (nilV 0)).foldl (fun a x => a + partsT 1 x) a = a + m := by
    intro m
    induction m with
    | zero => intro a; rfl
    | succ m ih => intro a; rw [List.replicate_succ, List.foldl_cons, ih, nilV, partsT_else (by decide)]; omega
  refine ⟨?_, ?_, ?_, ?_⟩
  · rw [deepT_succ (by decide), List.any_eq_false]
    intro x hx
    rw [List.eq_of_mem_replicate hx, nilV, deepT_not (by decide)]
    simp
  · rw [partsT_list (by decide), hp]; omega
  · rw [measT_list (by decide) (by decide) (by decide) (by decide), List.length_replicate, fold_nils 0 _ N 2 (by omega) (by omega)]
    by_cases h : N ≤ 64
    · have h2 : ¬ (64 < (N : Int)) := by omega
      simp [checkM, h, h2]; omega
    · have h2 : 64 < (N : Int) := by omega
      simp [checkM, h, h2]
  · rw [measT_list (by decide) (by decide) (by decide) (by decide), List.length_replicate, fold_nils 0 _ N 2 (by omega) (by omega), sizeT_list (by decide) (by decide) (by decide), size_nils 0 N 2 (by omega) (by omega)]
    rfl
/-- k lists in one another, round a nil. -/
def nestV : (k : Nat) → VT (k + 1)
  | 0 => (0, 0, 0, ⟨#[]⟩, [])
  | k + 1 => (4, 0, 0, ⟨#[]⟩, [nestV k])
theorem nestV_meas : ∀ k, k ≤ 20 → measT (k + 1) (nestV k) = (false, false, (k : Int), 2 * (k : Int) + 1) ∧ sizeT (k + 1) (nestV k) = 2 * (k : Int) + 1 ∧ partsT (k + 1) (nestV k) = k + 1 ∧ ∀ m, k ≤ m → deepT (k + 1) (nestV k) m = false := by
  intro k
  induction k with
  | zero =>
    intro _
    refine ⟨?_, ?_, ?_, fun m _ => deepT_not (by decide)⟩
    · rw [nestV, measT_nil (by decide)]; rfl
    · rw [nestV, sizeT_else (by decide) (by decide) (by decide)]; rfl
    · rw [nestV, partsT_else (by decide)]
  | succ k ih =>
    intro hk
    obtain ⟨i1, i2, i3, i4⟩ := ih (by omega)
    have e1 : wrap64 ((k : Int) + 1) = (k : Int) + 1 := by unfold wrap64; omega
    have e2 : wrap64 (9223372036854775807 - (2 * (k : Int) + 1)) = 9223372036854775807 - (2 * (k : Int) + 1) := by unfold wrap64; omega
    have e3 : wrap64 (2 + (2 * (k : Int) + 1)) = 2 + (2 * (k : Int) + 1) := by unfold wrap64; omega
    refine ⟨?_, ?_, ?_, ?_⟩
    · rw [nestV, measT_list (by decide) (by decide) (by decide) (by decide), List.foldl_cons, List.foldl_nil, i1]
      simp only [withM, e1, e2, e3, List.length_singleton]
      rw [if_neg (show ¬ (9223372036854775807 - (2 * (k : Int) + 1) < 2) by omega)]
      have e4 : (if (1 : Int) < (k : Int) + 1 then (k : Int) + 1 else 1) = ((k + 1 : Nat) : Int) := by split <;> omega
      rw [e4]
      simp
      omega
    · rw [nestV, sizeT_list (by decide) (by decide) (by decide), List.foldl_cons, List.foldl_nil, i2, e3]; omega
    · rw [nestV, partsT_list (by decide), List.foldl_cons, List.foldl_nil, i3]; omega
    · intro m hm
      obtain ⟨m, rfl⟩ : ∃ q, m = q + 1 := ⟨m - 1, by omega⟩
      rw [nestV, deepT_succ (by decide), List.any_cons, i4 m (by omega)]
      rfl
theorem fine_nest (k : Nat) (hk : k ≤ 20) : Fine (k + 1) (nestV k) (decide (k ≤ 8)) := by
  obtain ⟨i1, i2, i3, i4⟩ := nestV_meas k hk
  refine ⟨i4 64 (by omega), by omega, ?_, by rw [i1, i2]; rfl⟩
  rw [i1]
  by_cases h : k ≤ 8
  · have h2 : ¬ (8 < (k : Int)) := by omega
    simp [checkM, h, h2]; omega
  · have h2 : 8 < (k : Int) := by omega
    simp [checkM, h, h2]
/-- Texts of these lengths, in a list. -/
def txtV (s : ByteArray) : VT 1 := (3, 0, 0, s, [])
theorem fold_txts : ∀ (L : List ByteArray) (z : Int), 0 ≤ z → z + (L.map fun s => 3 + (s.size : Int)).sum ≤ 100000 → (∀ s ∈ L, s.size ≤ 256) →
    (L.map txtV).foldl (fun a x => withM a (measT 1 x)) (false, false, 1, z) = (false, false, 1, z + (L.map fun s => 3 + (s.size : Int)).sum) ∧ (L.map txtV).foldl (fun a x => wrap64 (a + sizeT 1 x)) z = z + (L.map fun s => 3 + (s.size : Int)).sum := by
  intro L
  induction L with
  | nil => intro z _ _ _; simp
  | cons s L ih =>
    intro z h0 h1 h2
    have hs := h2 s (List.mem_cons_self ..)
    have hsum : 0 ≤ (L.map fun s => 3 + (s.size : Int)).sum := by
      clear ih h1 h2
      induction L with
      | nil => simp
      | cons t L ih => rw [List.map_cons, List.sum_cons]; omega
    rw [List.map_cons, List.sum_cons] at h1
    have e0 : wrap64 (3 + (s.size : Int)) = 3 + (s.size : Int) := by unfold wrap64; omega
    have e1 : wrap64 ((0 : Int) + 1) = 1 := by unfold wrap64; omega
    have e2 : wrap64 (9223372036854775807 - (3 + (s.size : Int))) = 9223372036854775807 - (3 + (s.size : Int)) := by unfold wrap64; omega
    have e3 : wrap64 (z + (3 + (s.size : Int))) = z + (3 + (s.size : Int)) := by unfold wrap64; omega
    have h256 : ¬ (256 < (s.size : Int)) := by omega
    have e4 : withM (false, false, 1, z) (measT 1 (txtV s)) = (false, false, 1, z + (3 + (s.size : Int))) := by
      rw [txtV, measT_text (by decide) (by decide) (by decide), e0]
      simp only [withM, e1, e2, e3, h256]
      rw [if_neg (by omega), if_neg (by omega)]
      simp
    have e5 : wrap64 (z + sizeT 1 (txtV s)) = z + (3 + (s.size : Int)) := by
      rw [txtV, sizeT_text (by decide) (by decide), e0, e3]
    obtain ⟨i1, i2⟩ := ih (z + (3 + (s.size : Int))) (by omega) (by omega) (fun t ht => h2 t (List.mem_cons_of_mem _ ht))
    rw [List.map_cons, List.foldl_cons, List.foldl_cons, e4, e5, i1, i2, List.map_cons, List.sum_cons]
    constructor
    · rw [Int.add_assoc]
    · omega
theorem fine_txts (L : List ByteArray) (hl : L.length ≤ 20) (Z : Int) (hZ : (L.map fun s => 3 + (s.size : Int)).sum = Z) (hZ0 : 0 ≤ Z) (hZ1 : Z ≤ 10000) (h : ∀ s ∈ L, s.size ≤ 256) : Fine 2 (4, 0, 0, ⟨#[]⟩, L.map txtV) (decide (Z + 2 ≤ 4096)) := by
  have hp : ∀ (L : List ByteArray) (a : Nat), (L.map txtV).foldl (fun a x => a + partsT 1 x) a = a + L.length := by
    intro L
    induction L with
    | nil => intro a; rfl
    | cons s L ih => intro a; rw [List.map_cons, List.foldl_cons, ih, txtV, partsT_else (by decide), List.length_cons]; omega
  obtain ⟨f1, f2⟩ := fold_txts L 2 (by omega) (by omega) h
  have hd : decide (64 < ((L.map txtV).length : Int)) = false := by rw [List.length_map]; simp; omega
  refine ⟨?_, ?_, ?_, ?_⟩
  · rw [deepT_succ (by decide), List.any_eq_false]
    intro x hx
    obtain ⟨s, _, rfl⟩ := List.mem_map.1 hx
    rw [txtV, deepT_not (by decide)]
    simp
  · rw [partsT_list (by decide), hp]; omega
  · rw [measT_list (by decide) (by decide) (by decide) (by decide), hd, f1, hZ]
    by_cases hz : Z + 2 ≤ 4096
    · have h2 : ¬ (4096 < 2 + Z) := by omega
      simp [checkM, hz, h2]
    · have h2 : 4096 < 2 + Z := by omega
      simp [checkM, hz, h2]
  · rw [measT_list (by decide) (by decide) (by decide) (by decide), hd, f1, sizeT_list (by decide) (by decide) (by decide), f2]
    rfl
end Num
end Go.Proofs.YtahcgdjcjapnkaaGreatDoor
