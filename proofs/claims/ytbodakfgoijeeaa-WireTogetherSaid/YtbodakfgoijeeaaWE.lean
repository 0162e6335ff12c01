/-
  Values out of bytes: plain functions; a float's bits, read.
-/
import Derived.Test.YtbodakfgoijeeaaVTree
import Derived.Test.YtbodakfgoijeeaaWX
import Derived.Test.YtbodakfgoijeeaaVBits
import Derived.Test.YtbodakfgoijeeaaVDeep
namespace Go.Proofs.Ytbodakfgoijeeaa
open Go.RowKit
namespace Num
open Ints
set_option linter.unusedSimpArgs false
set_option linter.unusedVariables false
/-- m things, one behind another: what they are, how many bytes they take. -/
def decL {α : Type} (dec : List Int → Option (α × Nat)) : Nat → List Int → Option (List α × Nat)
  | 0, _ => some ([], 0)
  | m + 1, X => match decL dec m X with
    | none => none
    | some (L, k) => match dec (X.drop k) with
      | none => none
      | some (T, j) => some (L ++ [T], k + j)
/-- A count, and as many. -/
def decR {α : Type} (dec : List Int → Option (α × Nat)) : List Int → Option (List α × Nat)
  | [] => none
  | m :: R => match decL dec m.toNat R with
    | none => none
    | some (L, j) => some (L, 1 + j)
/-- What bytes begin with: a value at most n deep, and how many bytes it takes. -/
def decV : (n : Nat) → List Int → Option (VT n × Nat)
  | 0, _ => none
  | n + 1, [] => none
  | n + 1, k :: R =>
    if (k == 0) = true then some ((0, 0, 0, ⟨#[]⟩, []), 1)
    else if (k == 1) = true then (if 8 ≤ R.length then some ((1, wrap64 (rdU (R.take 8)), 0, ⟨#[]⟩, []), 9) else none)
    else if (k == 2) = true then (if 8 ≤ R.length ∧ Flo.canon (rdU (R.take 8)).toNat = (rdU (R.take 8)).toNat then some ((2, 0, (rdU (R.take 8)).toNat, ⟨#[]⟩, []), 9) else none)
    else if (k == 3) = true then (if 2 ≤ R.length ∧ (rdU (R.take 2)).toNat ≤ 256 ∧ 2 + (rdU (R.take 2)).toNat ≤ R.length then some ((3, 0, 0, strB ((R.drop 2).take (rdU (R.take 2)).toNat), []), 3 + (rdU (R.take 2)).toNat) else none)
    else if (k == 4) = true then (match decR (decV n) R with | none => none | some (L, j) => some ((4, 0, 0, ⟨#[]⟩, L), 1 + j))
    else none
theorem decL_le {α : Type} {dec : List Int → Option (α × Nat)} (h : ∀ X T j, dec X = some (T, j) → 1 ≤ j ∧ j ≤ X.length) : ∀ m X L k, decL dec m X = some (L, k) → m ≤ k ∧ k ≤ X.length ∧ L.length = m := by
  intro m
  induction m with
  | zero => intro X L k e; cases e; exact ⟨Nat.le_refl _, Nat.zero_le _, rfl⟩
  | succ m ih =>
    intro X L k e
    rw [decL] at e
    cases h1 : decL dec m X with
    | none => rw [h1] at e; cases e
    | some q =>
      obtain ⟨L1, k1⟩ := q
      rw [h1] at e
      obtain ⟨a, b, c⟩ := ih X L1 k1 h1
      cases h2 : dec (X.drop k1) with
      | none => simp only [h2] at e; cases e
      | some q =>
        obtain ⟨T, j⟩ := q
        simp only [h2] at e
        obtain ⟨d1, d2⟩ := h _ _ _ h2
        cases e
        rw [List.length_drop] at d2
        exact ⟨by omega, by omega, by rw [List.length_append, c]; rfl⟩
theorem decL_none {α : Type} {dec : List Int → Option (α × Nat)} {X : List Int} : ∀ m i, decL dec i X = none → i ≤ m → decL dec m X = none := by
  intro m
  induction m with
  | zero => intro i h hi; obtain rfl : i = 0 := by omega
            exact h
  | succ m ih =>
    intro i h hi
    by_cases he : i = m + 1
    · subst he; exact h
    · rw [decL, ih i h (by omega)]
theorem decR_le {α : Type} {dec : List Int → Option (α × Nat)} (h : ∀ X T j, dec X = some (T, j) → 1 ≤ j ∧ j ≤ X.length) {X : List Int} {L : List α} {k : Nat} (e : decR dec X = some (L, k)) : 1 ≤ k ∧ k ≤ X.length := by
  cases X with
  | nil => cases e
  | cons m R =>
    rw [decR] at e
    cases h1 : decL dec m.toNat R with
    | none => simp only [h1] at e; cases e
    | some q =>
      obtain ⟨L1, k1⟩ := q
      simp only [h1] at e
      cases e
      obtain ⟨_, b, _⟩ := decL_le h _ _ _ _ h1
      exact ⟨by omega, by rw [List.length_cons]; omega⟩
theorem decV_le : ∀ n X (T : VT n) j, decV n X = some (T, j) → 1 ≤ j ∧ j ≤ X.length := by
  intro n
  induction n with
  | zero => intro X T j e; cases e
  | succ n ih =>
    intro X T j e
    cases X with
    | nil => cases e
    | cons k R =>
      rw [decV] at e
      rw [List.length_cons]
      split at e
      · cases e; exact ⟨by omega, by omega⟩
      · split at e
        · split at e
          · cases e; exact ⟨by omega, by omega⟩
          · cases e
        · split at e
          · split at e
            · rename_i h; cases e; exact ⟨by omega, by have := h.1; omega⟩
            · cases e
          · split at e
            · split at e
              · rename_i h; cases e; exact ⟨by omega, by have := h.2.2; omega⟩
              · cases e
            · split at e
              · split at e
                · cases e
                · rename_i h; cases e; have := decR_le ih h; exact ⟨by omega, by omega⟩
              · cases e
theorem bits_any (x : Nat) (w : World) : Calls Try.prog 45 #[.float .f64 x] w fun e w' => e = .returned (.int .u64 (Flo.canon x)) ∧ w = w' := by
  go_enter Try.func45, Try.ntmps45
  go_wp2_with (first | (go_at_call 48; refine (canon_any _ _).mono ?_; rintro e w' ⟨rfl, rfl⟩))
  go_ret
  exact ⟨rfl, rfl⟩
set_option maxRecDepth 100000 in
set_option maxHeartbeats 1000000 in
theorem readFloat_short (w : World) (p : Option Addr) (l c : Nat) (hl : l ≤ c) (hc : c ≤ maxLen) (h8 : l < 8) :
    Calls Try.prog 35 #[.slice p l c] w fun e w' => e = .returned (.tuple #[.float .f64 0, .bool false]) ∧ w = w' := by
  have HU := Lib.hid (readU_no w p l c 8 hl hc (by omega))
  clear hc
  go_enter Try.func35, Try.ntmps35
  go_wp2_with fail
  go_at_call 15; refine HU.out.mono ?_; rintro e w1 ⟨rfl, rfl⟩
  go_wp2
  go_ret2
  exact ⟨rfl, rfl⟩
set_option maxRecDepth 100000 in
set_option maxHeartbeats 1000000 in
theorem readFloat_full (w : World) (p : Option Addr) (l c : Nat) (X : List Int) (B : Nat) (Q : Bool) (hb : RdB w p l c X) (hX : By X) (h8 : 8 ≤ l) (hB : rdU (X.take 8) = (B : Int)) (hB64 : B < 18446744073709551616) (hQ : ((Flo.canon B : Int) == (B : Int)) = Q) :
    Calls Try.prog 35 #[.slice p l c] w fun e w' => e = .returned (.tuple #[.float .f64 B, .bool Q]) ∧ w = w' := by
  have HU := Lib.hid (readU_all w p l c X 8 hb hX (by omega) h8)
  have HB := Lib.hid hB
  have HQ := Lib.hid hQ
  clear hb hX hB hQ
  go_enter Try.func35, Try.ntmps35
  go_wp2_with fail
  go_at_call 15; refine HU.out.mono ?_; rintro e w1 ⟨rfl, rfl⟩
  rw [HB.out]
  go_wp2_with (first | (go_at_call 45; refine (bits_any _ _).mono ?_; rintro e w' ⟨rfl, rfl⟩))
  have HR := Lib.hid (show Ending.returned (.tuple #[.float .f64 B, .bool ((Flo.canon B : Int) == (B : Int))]) = .returned (.tuple #[.float .f64 B, .bool Q]) by rw [HQ.out])
  go_ret2
  exact ⟨HR.out, rfl⟩
end Num
end Go.Proofs.Ytbodakfgoijeeaa
