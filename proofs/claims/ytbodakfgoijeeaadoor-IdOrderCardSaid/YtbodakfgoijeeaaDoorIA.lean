/-
  Ids of calls as text: what the document's text of an id is, and which text is which id (plain: no function of the program).
-/
import Derived.Lib.ParseIntB
import Derived.Lib.IndexMore
import Derived.Lib.ItoaNum
namespace Go.Proofs.YtbodakfgoijeeaaDoor
namespace Num
open Go.Lib
set_option linter.unusedSimpArgs false
set_option linter.unusedVariables false
def dig (c : UInt8) : Prop := 48 ≤ c.toNat ∧ c.toNat ≤ 57
instance (c : UInt8) : Decidable (dig c) := by unfold dig; infer_instance
def stepD (a : Nat) (c : UInt8) : Nat := a * 10 + (c.toNat - 48)
/-- What a row of digits behind an 'a' comes to. -/
def vl (a : Nat) (X : List UInt8) : Nat := X.foldl stepD a
/-- The text of an id. -/
def tx (c q n : Nat) : List UInt8 := decDigits c ++ (45 :: (decDigits q ++ (if n = 0 then [] else 46 :: decDigits n)))
theorem vl_nil (a : Nat) : vl a [] = a := rfl
theorem vl_cons (a : Nat) (c : UInt8) (X : List UInt8) : vl a (c :: X) = vl (stepD a c) X := by unfold vl; rw [List.foldl_cons]
theorem vl_append (a : Nat) (X Y : List UInt8) : vl a (X ++ Y) = vl (vl a X) Y := List.foldl_append
theorem stepD_le (a : Nat) (c : UInt8) : a ≤ stepD a c := by
  unfold stepD
  omega
theorem vl_le : ∀ (X : List UInt8) (a : Nat), a ≤ vl a X
  | [], a => Nat.le_refl a
  | c :: X, a => by
    rw [vl_cons]
    exact Nat.le_trans (stepD_le a c) (vl_le X (stepD a c))
theorem digit_of {i : Nat} (h : i < 10) : (UInt8.ofNat (48 + i)).toNat = 48 + i := by
  rw [UInt8.toNat_ofNat']
  omega
theorem dec_small {i : Nat} (h : i < 10) : decDigits i = [UInt8.ofNat (48 + i)] := decDigits_one h
theorem dec_big {i : Nat} (h : ¬ i < 10) : decDigits i = decDigits (i / 10) ++ [UInt8.ofNat (48 + i % 10)] := by rw [decDigits, dif_neg h]
theorem dec_digits (n : Nat) : ∀ c ∈ decDigits n, dig c := by
  induction n using Nat.strongRecOn with
  | _ n ih =>
    by_cases h : n < 10
    · rw [dec_small h]
      intro c hc
      rw [List.mem_singleton] at hc
      subst hc
      unfold dig
      rw [digit_of h]
      omega
    · rw [dec_big h]
      intro c hc
      rcases List.mem_append.1 hc with hc | hc
      · exact ih (n / 10) (by omega) c hc
      · rw [List.mem_singleton] at hc
        subst hc
        unfold dig
        rw [digit_of (by omega)]
        omega
theorem dec_vl (n : Nat) : vl 0 (decDigits n) = n := by
  induction n using Nat.strongRecOn with
  | _ n ih =>
    by_cases h : n < 10
    · rw [dec_small h, vl_cons, vl_nil]
      unfold stepD
      rw [digit_of h]
      omega
    · rw [dec_big h, vl_append, ih (n / 10) (by omega), vl_cons, vl_nil]
      unfold stepD
      rw [digit_of (by omega)]
      omega
theorem dec_ne (n : Nat) : decDigits n ≠ [] := by
  intro h
  have := decDigits_length n
  rw [h] at this
  have := nDigits_pos n
  simp at *
  omega
theorem dec_low (n : Nat) (h1 : 1 ≤ n) : 10 ^ (nDigits n - 1) ≤ n := by
  induction n using Nat.strongRecOn with
  | _ n ih =>
    by_cases h : n < 10
    · rw [nDigits_small h]; simpa using h1
    · rw [nDigits_big h]
      have := ih (n / 10) (by omega) (by omega)
      have hp := nDigits_pos (n / 10)
      obtain ⟨k, hk⟩ : ∃ k, nDigits (n / 10) = k + 1 := ⟨nDigits (n / 10) - 1, by omega⟩
      rw [hk] at this ⊢
      simp only [Nat.add_sub_cancel] at this ⊢
      rw [Nat.pow_succ]
      omega
theorem dec_len10 {n : Nat} (h : n < 4294967296) : (decDigits n).length ≤ 10 := by
  rw [decDigits_length]
  by_cases h0 : nDigits n ≤ 10
  · exact h0
  · exfalso
    obtain ⟨k, hk⟩ : ∃ k, nDigits n = k + 11 := ⟨nDigits n - 11, by omega⟩
    by_cases hn : n < 10
    · rw [nDigits_small hn] at hk; omega
    · have hlow : 10 ^ (nDigits n - 1) ≤ n := dec_low n (by omega)
      have : 10 ^ 10 ≤ 10 ^ (nDigits n - 1) := Nat.pow_le_pow_right (by omega) (by omega)
      omega
/-- A row of digits without a nought ahead is the numeral of what it comes to. -/
theorem dec_of_digits (X : List UInt8) (h : ∀ c ∈ X, dig c) (hne : X ≠ []) (h0 : 1 < X.length → X.head? ≠ some 48) : decDigits (vl 0 X) = X := by
  induction hl : X.length using Nat.strongRecOn generalizing X with
  | _ l ih =>
    rcases List.eq_nil_or_concat X with rfl | ⟨Y, d, rfl⟩
    · exact absurd rfl hne
    · have hd : dig d := h d (by simp)
      have hdd : UInt8.ofNat (48 + (d.toNat - 48)) = d := by
        unfold dig at hd
        rw [show 48 + (d.toNat - 48) = d.toNat by omega]
        exact UInt8.ofNat_toNat
      have hv : vl 0 (Y.concat d) = vl 0 Y * 10 + (d.toNat - 48) := by
        rw [List.concat_eq_append, vl_append, vl_cons, vl_nil]; rfl
      unfold dig at hd
      rw [hv]
      by_cases hY : Y = []
      · subst hY
        rw [vl_nil, dec_small (by omega)]
        simpa using hdd
      · have hY1 : 1 ≤ Y.length := List.length_pos_iff.2 hY
        have hhead : (Y.concat d).head? = Y.head? := by
          cases Y with
          | nil => exact absurd rfl hY
          | cons a t => simp
        have hh := h0 (by rw [List.length_concat]; omega)
        rw [hhead] at hh
        have hdY : ∀ c ∈ Y, dig c := fun c hc => h c (by simp [hc])
        have e := ih Y.length (by rw [List.length_concat] at hl; omega) Y hdY hY (fun _ => hh) rfl
        have hpos : 1 ≤ vl 0 Y := by
          cases Y with
          | nil => exact absurd rfl hY
          | cons a t =>
            have ha : dig a := hdY a (by simp)
            have hne : a ≠ 48 := fun e => hh (by rw [e]; rfl)
            have hne' : a.toNat ≠ 48 := fun e => hne (UInt8.toNat_inj.1 (by rw [e]; rfl))
            unfold dig at ha
            rw [vl_cons]
            have := vl_le t (stepD 0 a)
            unfold stepD at this ⊢
            omega
        rw [dec_big (by omega), show (vl 0 Y * 10 + (d.toNat - 48)) / 10 = vl 0 Y by omega, show (vl 0 Y * 10 + (d.toNat - 48)) % 10 = d.toNat - 48 by omega, e, hdd]
        simp
/-! ### The reference's number -/
def scan (M : Nat) : Nat → List UInt8 → Nat × List UInt8
  | a, [] => (a, [])
  | a, c :: r => if dig c ∧ a ≤ M then scan M (stepD a c) r else (a, c :: r)
theorem scan_parts (M : Nat) : ∀ (S : List UInt8) (a : Nat), ∃ X, S = X ++ (scan M a S).2 ∧ (∀ c ∈ X, dig c) ∧ (scan M a S).1 = vl a X
  | [], a => ⟨[], rfl, fun _ h => by simp at h, rfl⟩
  | c :: r, a => by
    unfold scan
    split
    · rename_i h
      obtain ⟨X, h1, h2, h3⟩ := scan_parts M r (stepD a c)
      refine ⟨c :: X, by rw [List.cons_append, ← h1], ?_, by rw [h3, vl_cons]⟩
      intro x hx
      rcases List.mem_cons.1 hx with rfl | hx
      · exact h.1
      · exact h2 x hx
    · exact ⟨[], rfl, fun _ h => by simp at h, rfl⟩
theorem scan_digits (M : Nat) (r : List UInt8) (hr : ∀ c ∈ r.head?, ¬ dig c) : ∀ (X : List UInt8) (a : Nat), (∀ c ∈ X, dig c) → vl a X ≤ M → scan M a (X ++ r) = (vl a X, r)
  | [], a, _, _ => by
    cases r with
    | nil => rfl
    | cons c t =>
      have hc : ¬ dig c := hr c (by simp)
      show scan M a (c :: t) = _
      unfold scan
      rw [if_neg (fun h => hc h.1)]
      rfl
  | c :: X, a, h, hv => by
    have hc : dig c := h c (by simp)
    have ha : a ≤ M := by
      have h1 := vl_le X (stepD a c)
      rw [vl_cons] at hv
      unfold stepD at h1 hv
      omega
    show scan M a (c :: (X ++ r)) = _
    unfold scan
    rw [if_pos ⟨hc, ha⟩, scan_digits M r hr X (stepD a c) (fun x hx => h x (by simp [hx])) hv, vl_cons]
def numR (M : Nat) (S : List UInt8) : Option (Nat × List UInt8) :=
  if S.length - (scan M 0 S).2.length = 0 ∨ M < (scan M 0 S).1 ∨ (1 < S.length - (scan M 0 S).2.length ∧ S.head? = some 48) then none else some (scan M 0 S)
theorem numR_some {M : Nat} {S r : List UInt8} {n : Nat} (h : numR M S = some (n, r)) : S = decDigits n ++ r ∧ n ≤ M := by
  unfold numR at h
  split at h
  · cases h
  · rename_i hc
    obtain ⟨X, h1, h2, h3⟩ := scan_parts M S 0
    have hs := Option.some.inj h
    rw [hs] at h1 h3 hc
    simp only at h1 h3 hc
    have hl : S.length - r.length = X.length := by rw [h1, List.length_append]; omega
    simp only [hl, not_or] at hc
    obtain ⟨c1, c2, c3⟩ := hc
    have hX : X ≠ [] := fun e => c1 (by rw [e]; rfl)
    have hh : S.head? = X.head? := by
      rw [h1]
      cases X with
      | nil => exact absurd rfl hX
      | cons a t => rfl
    have e := dec_of_digits X h2 hX (fun hl1 e => c3 ⟨hl1, by rw [hh]; exact e⟩)
    have h3' : n = vl 0 X := h3
    exact ⟨by rw [h3', e]; exact h1, by have : ¬ M < n := c2; omega⟩
theorem dec_head {n : Nat} (h : 1 < (decDigits n).length) : (decDigits n).head? ≠ some 48 := by
  induction n using Nat.strongRecOn with
  | _ n ih =>
    by_cases h10 : n < 10
    · rw [dec_small h10] at h; simp at h
    · rw [dec_big h10]
      have hne := dec_ne (n / 10)
      have hhead : (decDigits (n / 10) ++ [UInt8.ofNat (48 + n % 10)]).head? = (decDigits (n / 10)).head? := by
        cases hd : decDigits (n / 10) with
        | nil => exact absurd hd hne
        | cons a t => rfl
      rw [hhead]
      by_cases h1 : n / 10 < 10
      · rw [dec_small h1]
        intro e
        have e' : UInt8.ofNat (48 + n / 10) = 48 := by simpa using e
        have := congrArg UInt8.toNat e'
        rw [digit_of h1] at this
        have : (48 : UInt8).toNat = 48 := rfl
        omega
      · refine ih (n / 10) (by omega) ?_
        rw [decDigits_length, nDigits_big h1]
        have := nDigits_pos (n / 10 / 10)
        omega
theorem numR_dec {M n : Nat} {r : List UInt8} (hn : n ≤ M) (hr : ∀ c ∈ r.head?, ¬ dig c) : numR M (decDigits n ++ r) = some (n, r) := by
  have e : scan M 0 (decDigits n ++ r) = (n, r) := by rw [scan_digits M r hr (decDigits n) 0 (dec_digits n) (by rw [dec_vl]; exact hn), dec_vl]
  unfold numR
  rw [e]
  have hl : (decDigits n ++ r).length - r.length = (decDigits n).length := by rw [List.length_append]; omega
  have h1 := List.length_pos_iff.2 (dec_ne n)
  rw [if_neg]
  simp only [hl, not_or]
  refine ⟨by omega, by omega, fun ⟨h2, h3⟩ => ?_⟩
  have hhead : (decDigits n ++ r).head? = (decDigits n).head? := by
    cases hd : decDigits n with
    | nil => exact absurd hd (dec_ne n)
    | cons a t => rfl
  rw [hhead] at h3
  exact dec_head h2 h3
/-! ### The reference's id -/
def refId (S : List UInt8) : Option (Nat × Nat × Nat) :=
  match numR 4294967295 S with
  | none => none
  | some (c, []) => none
  | some (c, x :: r1) =>
    if x ≠ 45 then none else
    match numR 4294967295 r1 with
    | none => none
    | some (q, []) => some (c, q, 0)
    | some (q, y :: r3) =>
      if y ≠ 46 then none else
      match numR 65535 r3 with
      | none => none
      | some (n, r4) => if r4 ≠ [] ∨ n = 0 then none else some (c, q, n)
theorem refId_some {S : List UInt8} {c q n : Nat} (h : refId S = some (c, q, n)) : S = tx c q n := by
  unfold refId at h
  split at h
  · cases h
  · cases h
  · rename_i c0 x r1 h1
    split at h
    · cases h
    · rename_i hx
      rw [Decidable.not_not] at hx
      subst hx
      split at h
      · cases h
      · rename_i q0 h2
        simp only [Option.some.injEq, Prod.mk.injEq] at h
        obtain ⟨rfl, rfl, rfl⟩ := h
        unfold tx
        rw [if_pos rfl, (numR_some h1).1, (numR_some h2).1]
      · rename_i q0 y r3 h2
        split at h
        · cases h
        · rename_i hy
          rw [Decidable.not_not] at hy
          subst hy
          split at h
          · cases h
          · rename_i n0 r4 h3
            split at h
            · cases h
            · rename_i hc
              rw [not_or, Decidable.not_not] at hc
              obtain ⟨hr4, hn0⟩ := hc
              subst hr4
              simp only [Option.some.injEq, Prod.mk.injEq] at h
              obtain ⟨rfl, rfl, rfl⟩ := h
              unfold tx
              rw [if_neg hn0, (numR_some h1).1, (numR_some h2).1, (numR_some h3).1, List.append_nil]
theorem refId_tx {c q n : Nat} (hc : c ≤ 4294967295) (hq : q ≤ 4294967295) (hn : n ≤ 65535) : refId (tx c q n) = some (c, q, n) := by
  have h45 : ¬ dig 45 := by decide
  have h46 : ¬ dig 46 := by decide
  have e1 : numR 4294967295 (tx c q n) = some (c, 45 :: (decDigits q ++ (if n = 0 then [] else 46 :: decDigits n))) := by
    unfold tx
    exact numR_dec hc (fun x hx => by
      simp only [List.head?_cons, Option.mem_def, Option.some.injEq] at hx
      subst hx
      exact h45)
  unfold refId
  rw [e1]
  simp only [ne_eq, not_true_eq_false, if_false]
  by_cases h0 : n = 0
  · subst h0
    have e2 : numR 4294967295 (decDigits q ++ []) = some (q, []) := numR_dec hq (fun x hx => by simp at hx)
    rw [if_pos rfl, e2]
  · have e2 : numR 4294967295 (decDigits q ++ (46 :: decDigits n)) = some (q, 46 :: decDigits n) := numR_dec hq (fun x hx => by
      simp only [List.head?_cons, Option.mem_def, Option.some.injEq] at hx
      subst hx
      exact h46)
    have e3 : numR 65535 (decDigits n) = some (n, []) := by
      have := numR_dec (r := []) hn (fun x hx => by simp at hx)
      rwa [List.append_nil] at this
    rw [if_neg h0, e2]
    simp [e3, h0]
/-! ### The program's id -/
def numB (B : Nat) (S : List UInt8) : Nat :=
  match parseUintB B S with
  | NumEnd.ok u => u
  | NumEnd.range => 2 ^ B - 1
  | _ => 0
theorem parseUintM_le (M : Nat) : ∀ (S : List UInt8) (a u : Nat), a ≤ M → parseUintM M a S = .ok u → u ≤ M
  | [], a, u, ha, h => by
    simp only [parseUintM] at h
    injection h with h
    omega
  | c :: r, a, u, ha, h => by
    simp only [parseUintM] at h
    split at h
    · split at h
      · cases h
      · split at h
        · cases h
        · exact parseUintM_le M r _ u (by omega) h
    · cases h
theorem numB_le (B : Nat) (S : List UInt8) : numB B S ≤ 2 ^ B - 1 := by
  unfold numB
  split
  · rename_i u h
    unfold parseUintB at h
    split at h
    · cases h
    · exact parseUintM_le _ S 0 u (Nat.zero_le _) h
  · exact Nat.le_refl _
  · exact Nat.zero_le _
theorem parseUintM_digits (M : Nat) (hM : M < 18446744073709551616) : ∀ (X : List UInt8) (a : Nat), (∀ c ∈ X, dig c) → vl a X ≤ M → parseUintM M a X = .ok (vl a X)
  | [], a, _, _ => rfl
  | c :: X, a, h, hv => by
    have hc : dig c := h c (by simp)
    have h1 := vl_le X (stepD a c)
    rw [vl_cons] at hv
    have h2 : a * 10 + (c.toNat - 48) ≤ M := Nat.le_trans h1 hv
    unfold dig at hc
    rw [parseUintM, if_pos hc, if_neg (by omega), if_neg (by omega)]
    exact parseUintM_digits M hM X _ (fun x hx => h x (by simp [hx])) hv
theorem numB_dec {B n : Nat} (hB : 2 ^ B - 1 < 18446744073709551616) (hn : n ≤ 2 ^ B - 1) : numB B (decDigits n) = n := by
  have e : parseUintB B (decDigits n) = .ok n := by
    unfold parseUintB
    rw [if_neg (dec_ne n), parseUintM_digits _ hB (decDigits n) 0 (dec_digits n) (by rw [dec_vl]; exact hn), dec_vl]
  unfold numB
  rw [e]
def progId (S : List UInt8) : Nat × Nat × Nat :=
  (numB 32 (cut S [45]).1, numB 32 (cut (cut S [45]).2.1 [46]).1, numB 16 (cut (cut S [45]).2.1 [46]).2.1)
theorem cut_at (X r : List UInt8) (c : UInt8) (h : ∀ x ∈ X, x ≠ c) : cut (X ++ c :: r) [c] = (X, r, true) := by
  have hi : index (X ++ c :: r) [c] = X.length := by
    refine index_first (by simp) ?_ ?_
    · unfold occAt
      simp
    · intro j hj
      unfold occAt
      rw [List.drop_append_of_le_length (by omega), List.drop_eq_getElem_cons hj]
      have := h X[j] (List.getElem_mem hj)
      simp only [List.cons_append, List.isPrefixOf, Bool.and_eq_false_iff, beq_eq_false_iff_ne]
      exact Or.inl (Ne.symm this)
  unfold cut
  rw [hi, if_pos (by omega)]
  simp
theorem cut_none (X : List UInt8) (c : UInt8) (h : ∀ x ∈ X, x ≠ c) : cut X [c] = (X, [], false) := by
  have hi : index X [c] = -1 := by
    refine index_none fun j hj => ?_
    unfold occAt
    by_cases hj' : j < X.length
    · rw [List.drop_eq_getElem_cons hj']
      have := h X[j] (List.getElem_mem hj')
      simp only [List.isPrefixOf, Bool.and_eq_false_iff, beq_eq_false_iff_ne]
      exact Or.inl (Ne.symm this)
    · rw [List.drop_eq_nil_of_le (by omega)]
      rfl
  unfold cut
  rw [hi, if_neg (by omega)]
theorem dec_not {n : Nat} {c : UInt8} (hc : ¬ dig c) : ∀ x ∈ decDigits n, x ≠ c := fun x hx e => hc (e ▸ dec_digits n x hx)
theorem progId_tx {c q n : Nat} (hc : c ≤ 4294967295) (hq : q ≤ 4294967295) (hn : n ≤ 65535) : progId (tx c q n) = (c, q, n) := by
  have e1 : cut (tx c q n) [45] = (decDigits c, decDigits q ++ (if n = 0 then [] else 46 :: decDigits n), true) := cut_at _ _ _ (dec_not (by decide))
  unfold progId
  rw [e1]
  by_cases h0 : n = 0
  · subst h0
    rw [if_pos rfl, List.append_nil]
    have e2 : cut (decDigits q) [46] = (decDigits q, [], false) := cut_none _ _ (dec_not (by decide))
    rw [e2]
    exact congr (congrArg Prod.mk (numB_dec (by decide) (by omega))) (congr (congrArg Prod.mk (numB_dec (by decide) (by omega))) rfl)
  · rw [if_neg h0]
    have e2 : cut (decDigits q ++ 46 :: decDigits n) [46] = (decDigits q, decDigits n, true) := cut_at _ _ _ (dec_not (by decide))
    rw [e2]
    exact congr (congrArg Prod.mk (numB_dec (by decide) (by omega))) (congr (congrArg Prod.mk (numB_dec (by decide) (by omega))) (numB_dec (by decide) (by omega)))
theorem refId_le {S : List UInt8} {c q n : Nat} (h : refId S = some (c, q, n)) : c ≤ 4294967295 ∧ q ≤ 4294967295 ∧ n ≤ 65535 := by
  unfold refId at h
  split at h
  · cases h
  · cases h
  · rename_i c0 x r1 h1
    split at h
    · cases h
    · split at h
      · cases h
      · rename_i q0 h2
        simp only [Option.some.injEq, Prod.mk.injEq] at h
        obtain ⟨rfl, rfl, rfl⟩ := h
        exact ⟨(numR_some h1).2, (numR_some h2).2, by omega⟩
      · rename_i q0 y r3 h2
        split at h
        · cases h
        · split at h
          · cases h
          · rename_i n0 r4 h3
            split at h
            · cases h
            · simp only [Option.some.injEq, Prod.mk.injEq] at h
              obtain ⟨rfl, rfl, rfl⟩ := h
              exact ⟨(numR_some h1).2, (numR_some h2).2, (numR_some h3).2⟩
/-- The program's reading, held against its own text, is the reference's. -/
theorem prog_ref (S : List UInt8) : refId S = if tx (progId S).1 (progId S).2.1 (progId S).2.2 = S then some (progId S) else none := by
  have b1 : (progId S).1 ≤ 4294967295 := numB_le 32 _
  have b2 : (progId S).2.1 ≤ 4294967295 := numB_le 32 _
  have b3 : (progId S).2.2 ≤ 65535 := numB_le 16 _
  split
  · rename_i h
    have := refId_tx b1 b2 b3
    rw [h] at this
    rw [this]
  · rename_i h
    cases hr : refId S with
    | none => rfl
    | some t =>
      exfalso
      obtain ⟨c, q, n⟩ := t
      have e := refId_some hr
      have bb : c ≤ 4294967295 ∧ q ≤ 4294967295 ∧ n ≤ 65535 := refId_le hr
      refine h ?_
      rw [e, progId_tx bb.1 bb.2.1 bb.2.2]
end Num
end Go.Proofs.YtbodakfgoijeeaaDoor
