/-
  What args.Check lets through, of any class; leaves and answers that stay.
-/
import Derived.Test.YtmhogdigkdcnfaaRDa
namespace Go.Proofs.Ytmhogdigkdcnfaa
open Go.RowKit
namespace Num
open Ints
set_option linter.unusedSimpArgs false
set_option linter.unusedVariables false
theorem told (c m : ByteArray) (n : Nat) (L : List (VT (n + 1))) (M : List (ByteArray × Bool × ByteArray)) (hM : metas c = M) (h : chkA c m n L = 0) :
    (∀ T ∈ L, checkM (measT (n + 1) T) = 0) ∧ ∃ x, findM m M = some x ∧ x.2.2.size ≤ L.length ∧ (L.length : Int) ≤ x.2.2.size + moreOf x.2.2 ∧ hldL x.2.2 n 0 L = true := by
  unfold chkA at h
  rw [hM] at h
  cases hx : findM m M with
  | none => rw [hx] at h; cases h
  | some x =>
    rw [hx] at h
    have h' : (if (decide (x.2.2.size ≤ L.length) && decide ((L.length : Int) ≤ x.2.2.size + moreOf x.2.2)) = true then (if chkL n L = 0 then (if hldL x.2.2 n 0 L = true then 0 else 31) else chkL n L) else 31) = (0 : Int) := h
    split at h'
    · rename_i h1
      rw [Bool.and_eq_true, decide_eq_true_iff, decide_eq_true_iff] at h1
      split at h'
      · rename_i h2
        split at h'
        · rename_i h3
          exact ⟨chkL_all L h2, x, rfl, h1.1, h1.2, h3⟩
        · cases h'
      · rename_i h2
        exact absurd h' h2
    · cases h'
theorem leaf_up {n k : Nat} {S S' : Nat → Prop} {w w' : World} {v : Value} {K I : Int} {F : Nat} {Z : ByteArray} (h : RepS S w (n + 1) v (K, I, F, Z, [])) : RepS S' w' (k + 1) v (K, I, F, Z, []) := by
  obtain ⟨p, l, c, rfl, hK, hI, hF, hZ, hl, hlc, hcm, _⟩ := h
  obtain rfl : 0 = l := hl
  exact ⟨p, 0, c, rfl, hK, hI, hF, hZ, rfl, hlc, hcm, fun h => absurd h (Nat.lt_irrefl _)⟩
/-- What lies in blocks from B on is kept by a call that changes nothing below. -/
theorem repS_stay {B : Nat} {w w' : World} (hb : Below w.heap.size w w') (n : Nat) (v : Value) (T : VT n) (h : RepS (fun b => B ≤ b) w n v T) : RepS (fun b => B ≤ b) w' n v T :=
  repS_mono (S := fun b => B ≤ b ∧ b < w.heap.size) (fun b hb' => hb'.1) n v T (repS_keep (fun b hb' => hb.block b hb'.2) n v T (repS_lt n v T h))
end Num
end Go.Proofs.Ytmhogdigkdcnfaa
