/-
  Values: their bulk; what package guard makes of them.
-/
import Derived.Test.YtgeicgfijnabkaaDoorKT
import Derived.Test.YtgeicgfijnabkaaDoorFlo
namespace Go.Proofs.YtgeicgfijnabkaaDoor
open Go.RowKit
namespace Num
open Ints
set_option linter.unusedSimpArgs false
set_option linter.unusedVariables false
/-- A value's bulk: its parts of whatever kind, six each. -/
def bulkT : (n : Nat) → VT n → Nat
  | 0, _ => 6
  | n + 1, T => T.2.2.2.2.foldl (fun a x => a + bulkT n x) 6
theorem bulk_fold {n : Nat} : ∀ (L : List (VT n)) (a : Nat), a ≤ L.foldl (fun a x => a + bulkT n x) a
  | [], a => Nat.le_refl _
  | x :: r, a => by
    have := bulk_fold r (a + bulkT n x)
    rw [List.foldl_cons]
    omega
theorem bulk_pos {n : Nat} (T : VT n) : 6 ≤ bulkT n T := by
  cases n with
  | zero => exact Nat.le_refl _
  | succ n => exact bulk_fold _ 6
theorem bulk_len {n : Nat} : ∀ (L : List (VT n)) (a : Nat), a + 6 * L.length ≤ L.foldl (fun a x => a + bulkT n x) a
  | [], a => Nat.le_refl _
  | x :: r, a => by
    have h1 := bulk_len r (a + bulkT n x)
    have h2 := bulk_pos x
    rw [List.foldl_cons, List.length_cons]
    omega
theorem bulk_prefix {n : Nat} : ∀ (L : List (VT n)) (i : Nat) (h : i < L.length) (a : Nat), a + bulkT n L[i] ≤ L.foldl (fun a x => a + bulkT n x) a
  | x :: r, 0, _, a => by rw [List.foldl_cons]; exact bulk_fold r _
  | x :: r, i + 1, h, a => by
    have h1 := bulk_prefix r i (by simpa using h) (a + bulkT n x)
    rw [List.foldl_cons, List.getElem_cons_succ]
    omega
theorem bulk_mem {n : Nat} (L : List (VT n)) (i : Nat) (h : i < L.length) : bulkT n L[i] ≤ L.foldl (fun a x => a + bulkT n x) 6 := by
  have := bulk_prefix L i h 6
  omega
theorem bulkT_succ {n : Nat} (T : VT (n + 1)) : bulkT (n + 1) T = T.2.2.2.2.foldl (fun a x => a + bulkT n x) 6 := rfl
/-- A value as package guard tells it. -/
def gcT : (n : Nat) → VT n → VT n
  | 0, T => T
  | n + 1, T => if (T.1 == 1) = true then (1, T.2.1, 0, ⟨#[]⟩, []) else if (T.1 == 2) = true then (2, 0, Flo.canon T.2.2.1, ⟨#[]⟩, [])
      else if (T.1 == 3) = true then (3, 0, 0, T.2.2.2.1, []) else if (T.1 == 4) = true then (4, 0, 0, ⟨#[]⟩, T.2.2.2.2.map (gcT n)) else (T.1, 0, 0, ⟨#[]⟩, [])
theorem bulk_map {n : Nat} (ih : ∀ T : VT n, bulkT n (gcT n T) ≤ bulkT n T) : ∀ (L : List (VT n)) (a b : Nat), a ≤ b → (L.map (gcT n)).foldl (fun a x => a + bulkT n x) a ≤ L.foldl (fun a x => a + bulkT n x) b
  | [], a, b, h => h
  | x :: r, a, b, h => by
    rw [List.map_cons, List.foldl_cons, List.foldl_cons]
    exact bulk_map ih r _ _ (by have := ih x; omega)
theorem gc_bulk : ∀ (n : Nat) (T : VT n), bulkT n (gcT n T) ≤ bulkT n T
  | 0, _ => Nat.le_refl _
  | n + 1, (K, I, F, S, L) => by
    have h0 := bulk_fold L 6
    unfold gcT
    split
    · exact h0
    · split
      · exact h0
      · split
        · exact h0
        · split
          · exact bulk_map (gc_bulk n) L 6 6 (Nat.le_refl _)
          · exact h0
theorem clean_gc : ∀ (n : Nat) (T : VT n), cleanT n (gcT n T) = cleanT n T
  | 0, _ => rfl
  | n + 1, (K, I, F, S, L) => by
    by_cases h1 : K = 1
    · subst h1; rfl
    by_cases h2 : K = 2
    · subst h2
      show (2, 0, Flo.canon (Flo.canon F), (⟨#[]⟩ : ByteArray), ([] : List (VT n))) = (2, 0, Flo.canon F, ⟨#[]⟩, [])
      rw [Flo.canon_canon]
    by_cases h3 : K = 3
    · subst h3; rfl
    by_cases h4 : K = 4
    · subst h4
      show (4, 0, 0, (⟨#[]⟩ : ByteArray), (L.map (gcT n)).map (cleanT n)) = (4, 0, 0, ⟨#[]⟩, L.map (cleanT n))
      rw [List.map_map, List.map_congr_left (f := cleanT n ∘ gcT n) (g := cleanT n) (fun x _ => clean_gc n x)]
    have e : gcT (n + 1) (K, I, F, S, L) = (K, 0, 0, ⟨#[]⟩, []) := by
      unfold gcT
      rw [if_neg (by simpa using h1), if_neg (by simpa using h2), if_neg (by simpa using h3), if_neg (by simpa using h4)]
    rw [e]
    unfold cleanT
    rw [if_neg (by simpa using h1), if_neg (by simpa using h2), if_neg (by simpa using h3), if_neg (by simpa using h4)]
    rw [if_neg (by simpa using h1), if_neg (by simpa using h2), if_neg (by simpa using h3), if_neg (by simpa using h4)]
end Num
end Go.Proofs.YtgeicgfijnabkaaDoor
