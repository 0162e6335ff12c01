/-
  DedupOld's own data: what is kept of one client's calls, behind so many.
-/
import Derived.Test.YtakgcencnjkkpaaSx
namespace Go.Proofs.Ytakgcencnjkkpaa
open Go.RowKit
namespace Num
open Ints
set_option linter.unusedSimpArgs false
set_option linter.unusedVariables false
def x9 (j k : Nat) : DId := (9, (j : Int), (k : Int))
def stepP (s : List DId × List DCall) (x : DId) : List DId × List DCall := ((noteL s.2 x).2.foldl (fun l y => l.eraseP (fun z => decide (y = z))) (s.1 ++ [x]), (noteL s.2 x).1)
def runK (s : List DId × List DCall) (i : Nat) : Nat → List DId × List DCall
  | 0 => s
  | k + 1 => stepP (runK s i k) (x9 i k)
def runI (K : Nat) : Nat → List DId × List DCall
  | 0 => ([], [])
  | i + 1 => runK (runI K i) (i + 1) (K + 1)
def hasX (l : List DId) (x : DId) : Bool := l.any fun z => decide (z = x)
theorem hasX_iff (l : List DId) (x : DId) : hasX l x = true ↔ x ∈ l := by
  unfold hasX
  rw [List.any_eq_true]
  constructor
  · rintro ⟨z, hz, hx⟩
    have := of_decide_eq_true hx
    rw [← this]; exact hz
  · intro h
    exact ⟨x, h, decide_eq_true rfl⟩
theorem run_fresh_b : ((List.range 3).all fun K => (List.range 12).all fun i => (List.range 3).all fun k => !(decide (k ≤ K)) || (!(hasX (runK (runI K i) (i + 1) k).1 (x9 (i + 1) k)) && !(oldD (runK (runI K i) (i + 1) k).2 ((i + 1 : Nat) : Int)))) = true := by decide +kernel
theorem run_fresh (K : Nat) (hK : K < 3) (i : Nat) (hi : i < 12) (k : Nat) (hk : k ≤ K) : x9 (i + 1) k ∉ (runK (runI K i) (i + 1) k).1 ∧ oldD (runK (runI K i) (i + 1) k).2 ((i + 1 : Nat) : Int) = false := by
  have h1 := List.all_eq_true.1 run_fresh_b K (List.mem_range.2 hK)
  have h2 := List.all_eq_true.1 h1 i (List.mem_range.2 hi)
  have h3 := List.all_eq_true.1 h2 k (List.mem_range.2 (by omega))
  rw [decide_eq_true hk, Bool.not_true, Bool.false_or, Bool.and_eq_true, Bool.not_eq_true', Bool.not_eq_true'] at h3
  exact ⟨fun h => by rw [(hasX_iff _ _).2 h] at h3; exact absurd h3.1 (by decide), h3.2⟩
def fstN (c : Nat) : Nat := if 4 ≤ c then c - 3 else 1
theorem run_kept_b : ((List.range 3).all fun K => (List.range 13).all fun c => decide (c = 0) || (decide ((runI K c).1.length = min c 4 * (K + 1)) && (List.range 15).all fun s => (hasX (runI K c).1 (x9 s 0) == (decide (fstN c ≤ s) && decide (s ≤ c))) && (oldD (runI K c).2 (s : Int) == (decide (4 ≤ c) && decide (s < fstN c))))) = true := by decide +kernel
theorem run_kept (K : Nat) (hK : K < 3) (c : Nat) (hc : c < 13) (hc1 : 1 ≤ c) : (runI K c).1.length = min c 4 * (K + 1) ∧ ∀ s, s < 15 → ((x9 s 0 ∈ (runI K c).1 ↔ (fstN c ≤ s ∧ s ≤ c)) ∧ (oldD (runI K c).2 (s : Int) = (decide (4 ≤ c) && decide (s < fstN c)))) := by
  have h1 := List.all_eq_true.1 run_kept_b K (List.mem_range.2 hK)
  have h2 := List.all_eq_true.1 h1 c (List.mem_range.2 hc)
  rw [decide_eq_false (by omega), Bool.false_or, Bool.and_eq_true] at h2
  refine ⟨of_decide_eq_true h2.1, fun s hs => ?_⟩
  have h3 := List.all_eq_true.1 h2.2 s (List.mem_range.2 hs)
  rw [Bool.and_eq_true] at h3
  obtain ⟨h4, h5⟩ := h3
  have h4' := eq_of_beq h4
  refine ⟨?_, eq_of_beq h5⟩
  rw [← hasX_iff, h4', Bool.and_eq_true, decide_eq_true_eq, decide_eq_true_eq]
theorem map_del {n : Nat} : ∀ (ids : List DId) (R : List (RE n)), (delR R ids).map (·.x) = ids.foldl (fun l y => l.eraseP (fun z => decide (y = z))) (R.map (·.x))
  | [], R => rfl
  | x :: ids, R => by
    show (delR (R.eraseP _) ids).map _ = List.foldl _ ((R.map (·.x)).eraseP _) ids
    rw [map_del ids]
    congr 1
    induction R with
    | nil => rfl
    | cons r R ih =>
      by_cases hx : x = r.x
      · rw [List.eraseP_cons_of_pos (by simpa using hx), List.map_cons, List.eraseP_cons_of_pos (by simpa using hx)]
      · rw [List.eraseP_cons_of_neg (by simpa using hx), List.map_cons, List.map_cons, List.eraseP_cons_of_neg (by simpa using hx), ih]
theorem getR_none {n : Nat} (R : List (RE n)) (x : DId) : getR R x = none ↔ x ∉ R.map (·.x) := by
  unfold getR
  rw [List.find?_eq_none, List.mem_map]
  constructor
  · rintro h ⟨r, hr, rfl⟩
    exact h r hr (by simp)
  · intro h r hr hx
    exact h ⟨r, hr, by have := of_decide_eq_true hx; exact this.symm⟩
end Num
end Go.Proofs.Ytakgcencnjkkpaa
