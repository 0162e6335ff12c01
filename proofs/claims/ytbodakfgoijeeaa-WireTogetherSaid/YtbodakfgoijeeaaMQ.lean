/-
  What is read of bytes: the program's way and the reference's come to the same: plain facts.
-/
import Derived.Test.YtbodakfgoijeeaaWE
import Derived.Test.YtbodakfgoijeeaaML
import Derived.Test.YtbodakfgoijeeaaVCheck
namespace Go.Proofs.Ytbodakfgoijeeaa
open Go.RowKit
namespace Num
open Ints
set_option linter.unusedSimpArgs false
set_option linter.unusedVariables false
/-- Are all kinds right? -/
def kindsT : (n : Nat) → VT n → Bool
  | 0, _ => true
  | n + 1, T => if (decide (T.1 < 0) || decide (4 < T.1)) = true then false else if (T.1 == 4) = true then T.2.2.2.2.all (kindsT n) else true
/-- Is a part too great, in d lists? -/
def greatT : (n : Nat) → Nat → VT n → Bool
  | 0, _, _ => false
  | n + 1, d, T => if (T.1 == 3) = true then decide (256 < (T.2.2.2.1.size : Int)) else if (T.1 == 4) = true then (decide (8 ≤ d) || decide (64 < (T.2.2.2.2.length : Int)) || T.2.2.2.2.any (greatT n (d + 1))) else false
/-- What the reference reads of a list, its count ahead. -/
def refR {α : Type} (dec : List Int → Option (α × Nat)) : List Int → Option (List α × Nat)
  | [] => none
  | m :: R => if 64 < m.toNat then none else match decL dec m.toNat R with
    | none => none
    | some (L, j) => some (L, 1 + j)
/-- What the reference reads. -/
def refV : (n : Nat) → Nat → List Int → Option (VT n × Nat)
  | 0, _, _ => none
  | n + 1, _, [] => none
  | n + 1, d, k :: R =>
    if 8 < d then none
    else if (k == 0) = true then some ((0, 0, 0, ⟨#[]⟩, []), 1)
    else if (k == 1) = true then (if 8 ≤ R.length then some ((1, wrap64 (rdU (R.take 8)), 0, ⟨#[]⟩, []), 9) else none)
    else if (k == 2) = true then (if 8 ≤ R.length ∧ Flo.canon (rdU (R.take 8)).toNat = (rdU (R.take 8)).toNat then some ((2, 0, (rdU (R.take 8)).toNat, ⟨#[]⟩, []), 9) else none)
    else if (k == 3) = true then (if 2 ≤ R.length ∧ (rdU (R.take 2)).toNat ≤ 256 ∧ 2 + (rdU (R.take 2)).toNat ≤ R.length then some ((3, 0, 0, strB ((R.drop 2).take (rdU (R.take 2)).toNat), []), 3 + (rdU (R.take 2)).toNat) else none)
    else if (k == 4) = true then (match refR (refV n (d + 1)) R with | none => none | some (L, j) => some ((4, 0, 0, ⟨#[]⟩, L), 1 + j))
    else none
/-- What both ask of how deep lists stand, and how long they are, as they read. -/
def limT : (n : Nat) → Nat → VT n → Prop
  | 0, _, _ => True
  | n + 1, d, T => d ≤ 8 ∧ ((T.1 == 4) = true → T.2.2.2.2.length ≤ 64 ∧ ∀ x ∈ T.2.2.2.2, limT n (d + 1) x)
theorem decL_map {α : Type} {f g : List Int → Option (α × Nat)} {Pr : α → Prop} (h : ∀ X T j, f X = some (T, j) → g X = some (T, j) ∧ Pr T) : ∀ m X L k, decL f m X = some (L, k) → decL g m X = some (L, k) ∧ ∀ x ∈ L, Pr x := by
  intro m
  induction m with
  | zero => intro X L k e; cases e; exact ⟨rfl, fun x hx => by cases hx⟩
  | succ m ih =>
    intro X L k e
    rw [decL] at e ⊢
    cases h1 : decL f m X with
    | none => rw [h1] at e; cases e
    | some q =>
      obtain ⟨L1, k1⟩ := q
      rw [h1] at e
      obtain ⟨a, b⟩ := ih X L1 k1 h1
      rw [a]
      cases h2 : f (X.drop k1) with
      | none => simp only [h2] at e; cases e
      | some q =>
        obtain ⟨T, j⟩ := q
        simp only [h2] at e
        obtain ⟨d1, d2⟩ := h _ _ _ h2
        cases e
        refine ⟨by simp only [d1], fun x hx => ?_⟩
        rcases List.mem_append.1 hx with hx | hx
        · exact b x hx
        · rw [List.mem_singleton.1 hx]; exact d2
theorem decL_map' {α : Type} {f g : List Int → Option (α × Nat)} {Pr : α → Prop} (h : ∀ X T j, f X = some (T, j) → Pr T → g X = some (T, j)) : ∀ m X L k, decL f m X = some (L, k) → (∀ x ∈ L, Pr x) → decL g m X = some (L, k) := by
  intro m
  induction m with
  | zero => intro X L k e _; cases e; rfl
  | succ m ih =>
    intro X L k e hP
    rw [decL] at e ⊢
    cases h1 : decL f m X with
    | none => rw [h1] at e; cases e
    | some q =>
      obtain ⟨L1, k1⟩ := q
      rw [h1] at e
      cases h2 : f (X.drop k1) with
      | none => simp only [h2] at e; cases e
      | some q =>
        obtain ⟨T, j⟩ := q
        simp only [h2] at e
        cases e
        rw [ih X L1 k1 h1 (fun x hx => hP x (List.mem_append_left _ hx))]
        have d1 := h _ _ _ h2 (hP T (List.mem_append_right _ (List.mem_singleton.2 rfl)))
        simp only [d1]
/-- What the reference reads, the program reads. -/
theorem ref_dec : ∀ n d X (T : VT n) j, refV n d X = some (T, j) → decV n X = some (T, j) ∧ limT n d T := by
  intro n
  induction n with
  | zero => intro d X T j e; cases e
  | succ n ih =>
    intro d X T j e
    cases X with
    | nil => cases e
    | cons k R =>
      rw [refV] at e
      by_cases h8 : 8 < d
      · rw [if_pos h8] at e; cases e
      rw [if_neg h8] at e
      rw [decV]
      by_cases h0 : (k == 0) = true
      · rw [if_pos h0] at e ⊢; cases e; exact ⟨rfl, by omega, fun h => absurd (show ((0 : Int) == 4) = true from h) (by decide)⟩
      rw [if_neg h0] at e ⊢
      by_cases h1 : (k == 1) = true
      · rw [if_pos h1] at e ⊢
        refine ⟨e, ?_⟩
        split at e
        · cases e; exact ⟨by omega, fun h => absurd (show ((1 : Int) == 4) = true from h) (by decide)⟩
        · cases e
      rw [if_neg h1] at e ⊢
      by_cases h2 : (k == 2) = true
      · rw [if_pos h2] at e ⊢
        refine ⟨e, ?_⟩
        split at e
        · cases e; exact ⟨by omega, fun h => absurd (show ((2 : Int) == 4) = true from h) (by decide)⟩
        · cases e
      rw [if_neg h2] at e ⊢
      by_cases h3 : (k == 3) = true
      · rw [if_pos h3] at e ⊢
        refine ⟨e, ?_⟩
        split at e
        · cases e; exact ⟨by omega, fun h => absurd (show ((3 : Int) == 4) = true from h) (by decide)⟩
        · cases e
      rw [if_neg h3] at e ⊢
      by_cases h4 : (k == 4) = true
      · rw [if_pos h4] at e ⊢
        cases R with
        | nil => cases e
        | cons m R =>
          rw [refR] at e
          by_cases h64 : 64 < m.toNat
          · rw [if_pos h64] at e; cases e
          rw [if_neg h64] at e
          rw [decR]
          cases h6 : decL (refV n (d + 1)) m.toNat R with
          | none => simp only [h6] at e; cases e
          | some q =>
            obtain ⟨L1, k1⟩ := q
            simp only [h6] at e
            cases e
            obtain ⟨a, b⟩ := decL_map (Pr := limT n (d + 1)) (ih (d + 1)) _ _ _ _ h6
            have hlen := (decL_le (decV_le n) _ _ _ _ a).2.2
            rw [a]
            exact ⟨rfl, by omega, fun _ => ⟨by show L1.length ≤ 64; omega, b⟩⟩
      · rw [if_neg h4] at e; cases e
theorem dec_ref : ∀ n d X (T : VT n) j, decV n X = some (T, j) → limT n d T → refV n d X = some (T, j) := by
  intro n
  induction n with
  | zero => intro d X T j e; cases e
  | succ n ih =>
    intro d X T j e hl
    cases X with
    | nil => cases e
    | cons k R =>
      rw [decV] at e
      rw [refV]
      obtain ⟨hd, hl⟩ := hl
      rw [if_neg (by omega)]
      by_cases h0 : (k == 0) = true
      · rw [if_pos h0] at e ⊢; exact e
      rw [if_neg h0] at e ⊢
      by_cases h1 : (k == 1) = true
      · rw [if_pos h1] at e ⊢; exact e
      rw [if_neg h1] at e ⊢
      by_cases h2 : (k == 2) = true
      · rw [if_pos h2] at e ⊢; exact e
      rw [if_neg h2] at e ⊢
      by_cases h3 : (k == 3) = true
      · rw [if_pos h3] at e ⊢; exact e
      rw [if_neg h3] at e ⊢
      by_cases h4 : (k == 4) = true
      · rw [if_pos h4] at e ⊢
        cases R with
        | nil => cases e
        | cons m R =>
          rw [decR] at e
          rw [refR]
          cases h6 : decL (decV n) m.toNat R with
          | none => simp only [h6] at e; cases e
          | some q =>
            obtain ⟨L1, k1⟩ := q
            simp only [h6] at e
            cases e
            have hlen := (decL_le (decV_le n) _ _ _ _ h6).2.2
            obtain ⟨b1, b2⟩ := hl (show ((4 : Int) == 4) = true by decide)
            have b1' : L1.length ≤ 64 := b1
            rw [if_neg (by omega), decL_map' (Pr := limT n (d + 1)) (ih (d + 1)) _ _ _ _ h6 b2]
      · rw [if_neg h4] at e; cases e
/-! ### measures -/
section
variable {α : Type} {f : α → Me}
theorem wm_stray (L : List α) : ∀ a : Me, (L.foldl (fun a x => withM a (f x)) a).1 = (a.1 || L.any fun x => (f x).1) := by
  induction L with
  | nil => intro a; simp
  | cons x L ih => intro a; rw [List.foldl_cons, ih, List.any_cons]; show ((a.1 || (f x).1) || _) = _; rw [Bool.or_assoc]
theorem wm_long (L : List α) : ∀ a : Me, (L.foldl (fun a x => withM a (f x)) a).2.1 = (a.2.1 || L.any fun x => (f x).2.1) := by
  induction L with
  | nil => intro a; simp
  | cons x L ih => intro a; rw [List.foldl_cons, ih, List.any_cons]; show ((a.2.1 || (f x).2.1) || _) = _; rw [Bool.or_assoc]
theorem wm_deep (B : Int) (hB : B ≤ 1000000) (L : List α) : (∀ x ∈ L, 0 ≤ (f x).2.2.1 ∧ (f x).2.2.1 ≤ B) → ∀ a : Me, 0 ≤ a.2.2.1 → a.2.2.1 ≤ B + 1 →
    0 ≤ (L.foldl (fun a x => withM a (f x)) a).2.2.1 ∧ (L.foldl (fun a x => withM a (f x)) a).2.2.1 ≤ B + 1 ∧ ∀ k, (L.foldl (fun a x => withM a (f x)) a).2.2.1 ≤ k ↔ a.2.2.1 ≤ k ∧ ∀ x ∈ L, (f x).2.2.1 + 1 ≤ k := by
  induction L with
  | nil => intro _ a h0 h1; exact ⟨h0, h1, fun k => ⟨fun h => ⟨h, fun x hx => by cases hx⟩, fun h => h.1⟩⟩
  | cons x L ih =>
    intro hf a h0 h1
    obtain ⟨x0, x1⟩ := hf x (List.mem_cons_self ..)
    have hw : wrap64 ((f x).2.2.1 + 1) = (f x).2.2.1 + 1 := by unfold wrap64; omega
    have hd : (withM a (f x)).2.2.1 = if a.2.2.1 < (f x).2.2.1 + 1 then (f x).2.2.1 + 1 else a.2.2.1 := by
      show (if a.2.2.1 < wrap64 ((f x).2.2.1 + 1) then wrap64 ((f x).2.2.1 + 1) else a.2.2.1) = _
      rw [hw]
    have hd0 : 0 ≤ (withM a (f x)).2.2.1 := by rw [hd]; split <;> omega
    have hd1 : (withM a (f x)).2.2.1 ≤ B + 1 := by rw [hd]; split <;> omega
    obtain ⟨k1, k2, k3⟩ := ih (fun y hy => hf y (List.mem_cons_of_mem _ hy)) (withM a (f x)) hd0 hd1
    rw [List.foldl_cons]
    refine ⟨k1, k2, fun k => ?_⟩
    rw [k3 k, hd]
    constructor
    · rintro ⟨h, h'⟩
      refine ⟨by split at h <;> omega, fun y hy => ?_⟩
      rcases List.mem_cons.1 hy with rfl | hy
      · split at h <;> omega
      · exact h' y hy
    · rintro ⟨h, h'⟩
      have hx := h' x (List.mem_cons_self ..)
      exact ⟨by split <;> omega, fun y hy => h' y (List.mem_cons_of_mem _ hy)⟩
end
theorem measD_deep : ∀ (n lev : Nat) (T : VT n), n ≤ 100000 → 0 ≤ (measD n lev T).2.2.1 ∧ (measD n lev T).2.2.1 ≤ n := by
  intro n
  induction n with
  | zero => intro lev T _; exact ⟨Int.le_refl _, Int.le_refl _⟩
  | succ n ih =>
    intro lev T hn
    obtain ⟨K, I, F, S, L⟩ := T
    cases h0 : (K == 0)
    · cases h12 : (K == 1 || K == 2)
      · cases h3 : (K == 3)
        · cases h4 : (K == 4)
          · rw [measD_else h0 h12 h3 h4]; exact ⟨by decide, by show (0 : Int) ≤ _; omega⟩
          · rw [measD_list h0 h12 h3 h4]
            unfold measDL
            split
            · exact ⟨by show (0 : Int) ≤ 1; decide, by show (1 : Int) ≤ _; omega⟩
            · obtain ⟨k1, k2, k3⟩ := wm_deep (f := measD n (lev + 1)) (n : Int) (by omega) L (fun x _ => ih (lev + 1) x (by omega)) (false, decide (64 < (L.length : Int)), 1, 2) (by show (0 : Int) ≤ 1; decide) (by show (1 : Int) ≤ _; omega)
              exact ⟨k1, by omega⟩
        · rw [measD_text h0 h12 h3]; exact ⟨by show (0 : Int) ≤ 0; decide, by show (0 : Int) ≤ _; omega⟩
      · rw [measD_num h0 h12]; exact ⟨by decide, by show (0 : Int) ≤ _; omega⟩
    · rw [measD_nil h0]; exact ⟨by decide, by show (0 : Int) ≤ _; omega⟩
/-- Too great: as the program measures it, and as the reference looks at it. -/
theorem great_meas : ∀ (n d : Nat) (T : VT n), n ≤ 100000 → d ≤ 8 → (((measD n d T).2.1 = false ∧ (measD n d T).2.2.1 + d ≤ 8) ↔ greatT n d T = false) := by
  intro n
  induction n with
  | zero => intro d T _ hd; exact ⟨fun _ => rfl, fun _ => ⟨rfl, by show (0 : Int) + d ≤ 8; omega⟩⟩
  | succ n ih =>
    intro d T hn hd
    obtain ⟨K, I, F, S, L⟩ := T
    have hg : greatT (n + 1) d (K, I, F, S, L) = if (K == 3) = true then decide (256 < (S.size : Int)) else if (K == 4) = true then (decide (8 ≤ d) || decide (64 < (L.length : Int)) || L.any (greatT n (d + 1))) else false := rfl
    rw [hg]
    cases h0 : (K == 0)
    · cases h12 : (K == 1 || K == 2)
      · cases h3 : (K == 3)
        · cases h4 : (K == 4)
          · rw [measD_else h0 h12 h3 h4]; simp; omega
          · rw [measD_list h0 h12 h3 h4, measDL_in (by omega)]
            obtain ⟨k1, k2, k3⟩ := wm_deep (f := measD n (d + 1)) (n : Int) (by omega) L (fun x _ => measD_deep n (d + 1) x (by omega)) (false, decide (64 < (L.length : Int)), 1, 2) (by show (0 : Int) ≤ 1; decide) (by show (1 : Int) ≤ _; omega)
            rw [wm_long]
            have hk : (L.foldl (fun a x => withM a (measD n (d + 1) x)) (false, decide (64 < (L.length : Int)), 1, 2)).2.2.1 + (d : Int) ≤ 8 ↔ (L.foldl (fun a x => withM a (measD n (d + 1) x)) (false, decide (64 < (L.length : Int)), 1, 2)).2.2.1 ≤ 8 - (d : Int) := by omega
            rw [hk, k3]
            simp only [Bool.false_eq_true, if_false, if_true, Bool.or_eq_false_iff, List.any_eq_false, decide_eq_false_iff_not]
            constructor
            · rintro ⟨⟨a1, a2⟩, b1, b2⟩
              have b1' : (1 : Int) ≤ 8 - d := b1
              refine ⟨⟨by omega, a1⟩, fun x hx => ?_⟩
              have := (ih (d + 1) x (by omega) (by omega)).1 ⟨by simpa using a2 x hx, by have := b2 x hx; omega⟩
              rw [this]; simp
            · rintro ⟨⟨a1, a2⟩, b⟩
              have hx : ∀ x ∈ L, (measD n (d + 1) x).2.1 = false ∧ (measD n (d + 1) x).2.2.1 + ((d + 1 : Nat) : Int) ≤ 8 := fun x hxm => (ih (d + 1) x (by omega) (by omega)).2 (by simpa using b x hxm)
              exact ⟨⟨a2, fun x hx' => by rw [(hx x hx').1]; simp⟩, by show (1 : Int) ≤ _; omega, fun x hx' => by have := (hx x hx').2; omega⟩
        · rw [measD_text h0 h12 h3]
          simp
          omega
      · have h3 : (K == 3) = false := by
          rcases Bool.or_eq_true_iff.1 h12 with h | h <;> rw [beq_iff_eq] at h <;> subst h <;> rfl
        have h4 : (K == 4) = false := by
          rcases Bool.or_eq_true_iff.1 h12 with h | h <;> rw [beq_iff_eq] at h <;> subst h <;> rfl
        rw [measD_num h0 h12, h3, h4]; simp; omega
    · obtain rfl : K = 0 := by simpa using h0
      rw [measD_nil h0]; simp; omega
theorem great_lim : ∀ (n d : Nat) (T : VT n), d ≤ 8 → greatT n d T = false → limT n d T := by
  intro n
  induction n with
  | zero => intro d T _ _; trivial
  | succ n ih =>
    intro d T hd hg
    refine ⟨hd, fun h4 => ?_⟩
    have h3 : (T.1 == 3) = false := by
      have : T.1 = 4 := by simpa using h4
      rw [this]; rfl
    have hg' : (if (T.1 == 3) = true then decide (256 < (T.2.2.2.1.size : Int)) else if (T.1 == 4) = true then (decide (8 ≤ d) || decide (64 < (T.2.2.2.2.length : Int)) || T.2.2.2.2.any (greatT n (d + 1))) else false) = false := hg
    rw [h3, h4] at hg'
    simp only [Bool.false_eq_true, if_false, if_true, Bool.or_eq_false_iff, List.any_eq_false, decide_eq_false_iff_not] at hg'
    obtain ⟨⟨a, b⟩, c⟩ := hg'
    exact ⟨by omega, fun x hx => ih (d + 1) x (by omega) (by simpa using c x hx)⟩
theorem decL_snoc {α : Type} {dec : List Int → Option (α × Nat)} {m : Nat} {X : List Int} {L : List α} {k : Nat} (e : decL dec (m + 1) X = some (L, k)) : ∃ L1 k1 T j, decL dec m X = some (L1, k1) ∧ dec (X.drop k1) = some (T, j) ∧ L = L1 ++ [T] ∧ k = k1 + j := by
  rw [decL] at e
  cases h1 : decL dec m X with
  | none => rw [h1] at e; cases e
  | some q =>
    obtain ⟨L1, k1⟩ := q
    rw [h1] at e
    cases h2 : dec (X.drop k1) with
    | none => simp only [h2] at e; cases e
    | some q =>
      obtain ⟨T, j⟩ := q
      simp only [h2] at e
      cases e
      exact ⟨L1, k1, T, j, rfl, h2, rfl, rfl⟩
theorem decL_all {α : Type} {dec : List Int → Option (α × Nat)} {Pr : α → Nat → Prop} (h : ∀ X T j, dec X = some (T, j) → Pr T j) : ∀ m X L k, decL dec m X = some (L, k) → ∀ x ∈ L, ∃ j, Pr x j := by
  intro m
  induction m with
  | zero => intro X L k e; cases e; intro x hx; cases hx
  | succ m ih =>
    intro X L k e x hx
    obtain ⟨L1, k1, T, j, h1, h2, rfl, rfl⟩ := decL_snoc e
    rcases List.mem_append.1 hx with hx | hx
    · exact ih _ _ _ h1 x hx
    · rw [List.mem_singleton.1 hx]; exact ⟨j, h _ _ _ h2⟩
/-- The cases of what is read. -/
theorem decV_cases {n : Nat} {X : List Int} {T : VT (n + 1)} {j : Nat} (e : decV (n + 1) X = some (T, j)) :
    (T.1 = 0 ∧ T.2.2.2.2 = [] ∧ 1 ≤ j) ∨ (T.1 = 1 ∧ T.2.2.2.2 = [] ∧ 9 ≤ j) ∨ (T.1 = 2 ∧ T.2.2.2.2 = [] ∧ 9 ≤ j) ∨ (T.1 = 3 ∧ T.2.2.2.2 = [] ∧ T.2.2.2.1.size ≤ 256 ∧ 3 + T.2.2.2.1.size ≤ j) ∨ (T.1 = 4 ∧ ∃ m R k, decL (decV n) m R = some (T.2.2.2.2, k) ∧ j = 2 + k) := by
  cases X with
  | nil => cases e
  | cons k R =>
    rw [decV] at e
    by_cases h0 : (k == 0) = true
    · rw [if_pos h0] at e; cases e; exact Or.inl ⟨rfl, rfl, Nat.le_refl _⟩
    rw [if_neg h0] at e
    by_cases h1 : (k == 1) = true
    · rw [if_pos h1] at e
      split at e
      · cases e; exact Or.inr (Or.inl ⟨rfl, rfl, Nat.le_refl _⟩)
      · cases e
    rw [if_neg h1] at e
    by_cases h2 : (k == 2) = true
    · rw [if_pos h2] at e
      split at e
      · cases e; exact Or.inr (Or.inr (Or.inl ⟨rfl, rfl, Nat.le_refl _⟩))
      · cases e
    rw [if_neg h2] at e
    by_cases h3 : (k == 3) = true
    · rw [if_pos h3] at e
      split at e
      · rename_i hs
        cases e
        have hlen : (strB ((R.drop 2).take (rdU (R.take 2)).toNat)).size = (rdU (R.take 2)).toNat := by
          have h5 : (strB ((R.drop 2).take (rdU (R.take 2)).toNat)).size = ((R.drop 2).take (rdU (R.take 2)).toNat).length := by
            show (List.toArray (List.map _ _)).size = _
            simp
          rw [h5, List.length_take, List.length_drop]
          omega
        refine Or.inr (Or.inr (Or.inr (Or.inl ⟨rfl, rfl, ?_, ?_⟩)))
        · show (strB _).size ≤ 256; rw [hlen]; omega
        · show 3 + (strB _).size ≤ _; rw [hlen]; omega
      · cases e
    rw [if_neg h3] at e
    by_cases h4 : (k == 4) = true
    · rw [if_pos h4] at e
      cases h5 : decR (decV n) R with
      | none => rw [h5] at e; cases e
      | some q =>
        obtain ⟨L, j2⟩ := q
        rw [h5] at e
        cases e
        cases R with
        | nil => cases h5
        | cons m R =>
          rw [decR] at h5
          cases h6 : decL (decV n) m.toNat R with
          | none => simp only [h6] at h5; cases h5
          | some q =>
            obtain ⟨L1, k1⟩ := q
            simp only [h6] at h5
            cases h5
            exact Or.inr (Or.inr (Or.inr (Or.inr ⟨rfl, m.toNat, R, k1, h6, by omega⟩)))
    · rw [if_neg h4] at e; cases e
theorem decV_kinds : ∀ n X (T : VT n) j, decV n X = some (T, j) → kindsT n T = true ∧ ∀ lev, (measD n lev T).1 = false := by
  intro n
  induction n with
  | zero => intro X T j e; cases e
  | succ n ih =>
    intro X T j e
    obtain ⟨K, I, F, S, L⟩ := T
    rcases decV_cases e with ⟨h, _⟩ | ⟨h, _⟩ | ⟨h, _⟩ | ⟨h, _⟩ | ⟨h, m, R, k, hL, _⟩
    · obtain rfl : K = 0 := h
      exact ⟨rfl, fun lev => by rw [measD_nil (by decide)]⟩
    · obtain rfl : K = 1 := h
      exact ⟨rfl, fun lev => by rw [measD_num (by decide) (by decide)]⟩
    · obtain rfl : K = 2 := h
      exact ⟨rfl, fun lev => by rw [measD_num (by decide) (by decide)]⟩
    · obtain rfl : K = 3 := h
      exact ⟨rfl, fun lev => by rw [measD_text (by decide) (by decide) (by decide)]⟩
    · obtain rfl : K = 4 := h
      have hx := decL_all (Pr := fun T _ => kindsT n T = true ∧ ∀ lev, (measD n lev T).1 = false) (fun X T j e => ih X T j e) _ _ _ _ hL
      refine ⟨?_, fun lev => ?_⟩
      · show (if (decide ((4 : Int) < 0) || decide (4 < (4 : Int))) = true then false else if ((4 : Int) == 4) = true then L.all (kindsT n) else true) = true
        rw [if_neg (by decide), if_pos (by decide), List.all_eq_true]
        exact fun x hx' => by obtain ⟨_, h1, _⟩ := hx x hx'; exact h1
      · rw [measD_list (by decide) (by decide) (by decide) (by decide)]
        unfold measDL
        split
        · rfl
        · rw [wm_stray]
          simp only [Bool.false_or, List.any_eq_false]
          intro x hx'
          obtain ⟨_, _, h2⟩ := hx x hx'
          rw [h2 (lev + 1)]
          simp
theorem decL_size {n : Nat} {f : VT n → Me} (h : ∀ X T j, decV n X = some (T, j) → j ≤ 100000 → 0 ≤ (f T).2.2.2 ∧ (f T).2.2.2 ≤ j) : ∀ m X L k, decL (decV n) m X = some (L, k) → k ≤ 100000 → ∀ a : Me, 0 ≤ a.2.2.2 → a.2.2.2 ≤ 100000 →
    0 ≤ (L.foldl (fun a x => withM a (f x)) a).2.2.2 ∧ (L.foldl (fun a x => withM a (f x)) a).2.2.2 ≤ a.2.2.2 + k := by
  intro m
  induction m with
  | zero => intro X L k e _ a h0 h1; cases e; exact ⟨h0, by show a.2.2.2 ≤ _; omega⟩
  | succ m ih =>
    intro X L k e hk a h0 h1
    obtain ⟨L1, k1, T, j, e1, e2, rfl, rfl⟩ := decL_snoc e
    obtain ⟨c1, c2⟩ := ih _ _ _ e1 (by omega) a h0 h1
    obtain ⟨d1, d2⟩ := h _ _ _ e2 (by omega)
    rw [List.foldl_append, List.foldl_cons, List.foldl_nil]
    obtain ⟨q, hq⟩ : ∃ q, L1.foldl (fun a x => withM a (f x)) a = q := ⟨_, rfl⟩
    rw [hq] at c1 c2 ⊢
    have hs : (withM q (f T)).2.2.2 = q.2.2.2 + (f T).2.2.2 := by
      show (if wrap64 (9223372036854775807 - (f T).2.2.2) < q.2.2.2 then 9223372036854775807 else wrap64 (q.2.2.2 + (f T).2.2.2)) = _
      have e1 : wrap64 (9223372036854775807 - (f T).2.2.2) = 9223372036854775807 - (f T).2.2.2 := by unfold wrap64; omega
      have e2 : wrap64 (q.2.2.2 + (f T).2.2.2) = q.2.2.2 + (f T).2.2.2 := by unfold wrap64; omega
      rw [e1, e2, if_neg (by omega)]
    rw [hs]
    omega
theorem decV_size : ∀ n X (T : VT n) j, decV n X = some (T, j) → j ≤ 100000 → ∀ lev, 0 ≤ (measD n lev T).2.2.2 ∧ (measD n lev T).2.2.2 ≤ j := by
  intro n
  induction n with
  | zero => intro X T j e; cases e
  | succ n ih =>
    intro X T j e hj lev
    obtain ⟨K, I, F, S, L⟩ := T
    rcases decV_cases e with ⟨h, _, h9⟩ | ⟨h, _, h9⟩ | ⟨h, _, h9⟩ | ⟨h, _, hs, h9⟩ | ⟨h, m, R, k, hL, rfl⟩
    · obtain rfl : K = 0 := h
      rw [measD_nil (by decide)]; exact ⟨by show (0 : Int) ≤ 1; decide, by show (1 : Int) ≤ _; omega⟩
    · obtain rfl : K = 1 := h
      rw [measD_num (by decide) (by decide)]; exact ⟨by show (0 : Int) ≤ 9; decide, by show (9 : Int) ≤ _; omega⟩
    · obtain rfl : K = 2 := h
      rw [measD_num (by decide) (by decide)]; exact ⟨by show (0 : Int) ≤ 9; decide, by show (9 : Int) ≤ _; omega⟩
    · obtain rfl : K = 3 := h
      have hs' : S.size ≤ 256 := hs
      have h9' : 3 + S.size ≤ j := h9
      rw [measD_text (by decide) (by decide) (by decide)]
      have e1 : wrap64 (3 + (S.size : Int)) = 3 + (S.size : Int) := by unfold wrap64; omega
      exact ⟨by show 0 ≤ wrap64 _; rw [e1]; omega, by show wrap64 _ ≤ _; rw [e1]; omega⟩
    · obtain rfl : K = 4 := h
      rw [measD_list (by decide) (by decide) (by decide) (by decide)]
      unfold measDL
      split
      · exact ⟨by show (0 : Int) ≤ 2; decide, by show (2 : Int) ≤ _; omega⟩
      · obtain ⟨c1, c2⟩ := decL_size (f := measD n (lev + 1)) (fun X T j e hj => ih X T j e hj (lev + 1)) _ _ _ _ hL (by omega) (false, decide (64 < (L.length : Int)), 1, 2) (by show (0 : Int) ≤ 2; decide) (by show (2 : Int) ≤ 100000; decide)
        exact ⟨c1, Int.le_trans c2 (by show (2 : Int) + k ≤ ((2 + k : Nat) : Int); omega)⟩
theorem decL_sizeT {n : Nat} (h : ∀ X T j, decV n X = some (T, j) → j ≤ 100000 → 0 ≤ sizeT n T ∧ sizeT n T ≤ j) : ∀ m X L k, decL (decV n) m X = some (L, k) → k ≤ 100000 → ∀ a : Int, 0 ≤ a → a ≤ 100000 →
    0 ≤ L.foldl (fun a x => wrap64 (a + sizeT n x)) a ∧ L.foldl (fun a x => wrap64 (a + sizeT n x)) a ≤ a + k := by
  intro m
  induction m with
  | zero => intro X L k e _ a h0 h1; cases e; exact ⟨h0, by show a ≤ _; omega⟩
  | succ m ih =>
    intro X L k e hk a h0 h1
    obtain ⟨L1, k1, T, j, e1, e2, rfl, rfl⟩ := decL_snoc e
    obtain ⟨c1, c2⟩ := ih _ _ _ e1 (by omega) a h0 h1
    obtain ⟨d1, d2⟩ := h _ _ _ e2 (by omega)
    rw [List.foldl_append, List.foldl_cons, List.foldl_nil]
    obtain ⟨q, hq⟩ : ∃ q, L1.foldl (fun a x => wrap64 (a + sizeT n x)) a = q := ⟨_, rfl⟩
    rw [hq] at c1 c2 ⊢
    have e2 : wrap64 (q + sizeT n T) = q + sizeT n T := by unfold wrap64; omega
    rw [e2]
    omega
theorem decV_sizeT : ∀ n X (T : VT n) j, decV n X = some (T, j) → j ≤ 100000 → 0 ≤ sizeT n T ∧ sizeT n T ≤ j := by
  intro n
  induction n with
  | zero => intro X T j e; cases e
  | succ n ih =>
    intro X T j e hj
    obtain ⟨K, I, F, S, L⟩ := T
    rcases decV_cases e with ⟨h, _, h9⟩ | ⟨h, _, h9⟩ | ⟨h, _, h9⟩ | ⟨h, _, hs, h9⟩ | ⟨h, m, R, k, hL, rfl⟩
    · obtain rfl : K = 0 := h
      rw [sizeT_else (by decide) (by decide) (by decide)]; exact ⟨by decide, by omega⟩
    · obtain rfl : K = 1 := h
      rw [sizeT_num (by decide)]; exact ⟨by decide, by omega⟩
    · obtain rfl : K = 2 := h
      rw [sizeT_num (by decide)]; exact ⟨by decide, by omega⟩
    · obtain rfl : K = 3 := h
      have hs' : S.size ≤ 256 := hs
      have h9' : 3 + S.size ≤ j := h9
      rw [sizeT_text (by decide) (by decide)]
      have e1 : wrap64 (3 + (S.size : Int)) = 3 + (S.size : Int) := by unfold wrap64; omega
      rw [e1]
      omega
    · obtain rfl : K = 4 := h
      rw [sizeT_list (by decide) (by decide) (by decide)]
      obtain ⟨c1, c2⟩ := decL_sizeT ih _ _ _ _ hL (by omega) 2 (by decide) (by decide)
      exact ⟨c1, Int.le_trans c2 (by omega)⟩
/-! ### both ways -/
def progR (N : Nat) (X : List Int) : Option (VT N × Nat) := match decV N X with | none => none | some (T, j) => if checkM (measD N 0 T) = 0 then some (T, j) else none
/-- What the reference says of a value. -/
def rcheckT (n : Nat) (T : VT n) : Int := if kindsT n T = false then 31 else if (greatT n 0 T || decide (4096 < sizeT n T)) = true then 22 else 0
def refRd (N : Nat) (X : List Int) : Option (VT N × Nat) := match refV N 0 X with | none => none | some (T, j) => if rcheckT N T = 0 then some (T, j) else none
theorem same_read (N : Nat) (X : List Int) (hN : N ≤ 100000) (hX : X.length ≤ 4096) : progR N X = refRd N X := by
  unfold progR refRd
  cases hd : decV N X with
  | none =>
    cases hr : refV N 0 X with
    | none => rfl
    | some q => obtain ⟨T, j⟩ := q; rw [(ref_dec _ _ _ _ _ hr).1] at hd; cases hd
  | some q =>
    obtain ⟨T, j⟩ := q
    have hj := (decV_le _ _ _ _ hd).2
    obtain ⟨hk, hst⟩ := decV_kinds _ _ _ _ hd
    obtain ⟨hs0, hs1⟩ := decV_size _ _ _ _ hd (by omega) 0
    obtain ⟨ht0, ht1⟩ := decV_sizeT _ _ _ _ hd (by omega)
    have hg := great_meas N 0 T hN (by omega)
    have hrc : rcheckT N T = if greatT N 0 T = true then 22 else 0 := by
      unfold rcheckT
      rw [hk, if_neg (by decide)]
      have : decide (4096 < sizeT N T) = false := by simp; omega
      rw [this, Bool.or_false]
    have hpc : checkM (measD N 0 T) = if greatT N 0 T = true then 22 else 0 := by
      unfold checkM
      rw [hst 0, if_neg (by decide)]
      have h4 : decide (4096 < (measD N 0 T).2.2.2) = false := by simp; omega
      rw [h4, Bool.or_false]
      cases hG : greatT N 0 T
      · obtain ⟨g1, g2⟩ := hg.2 hG
        have : decide (8 < (measD N 0 T).2.2.1) = false := by simp; omega
        rw [g1, this]
        rfl
      · have hn : ¬ ((measD N 0 T).2.1 = false ∧ (measD N 0 T).2.2.1 + ((0 : Nat) : Int) ≤ 8) := fun h => by rw [hg.1 h] at hG; cases hG
        by_cases hlong : (measD N 0 T).2.1 = true
        · rw [hlong]; rfl
        · have hf : (measD N 0 T).2.1 = false := by simpa using hlong
          have hd8 : 8 < (measD N 0 T).2.2.1 := by
            exact Decidable.byContradiction fun hle => hn ⟨hf, by omega⟩
          have : decide (8 < (measD N 0 T).2.2.1) = true := by simp; omega
          rw [hf, this]; rfl
    simp only [hpc]
    cases hG : greatT N 0 T
    · rw [hG] at hrc
      have hr := dec_ref N 0 X T j hd (great_lim N 0 T (by omega) hG)
      rw [hr]
      simp only [hrc]
    · rw [hG] at hrc
      cases hr : refV N 0 X with
      | none => rfl
      | some q =>
        obtain ⟨T', j'⟩ := q
        have h1 := (ref_dec _ _ _ _ _ hr).1
        rw [hd] at h1
        cases h1
        simp only [hrc]
end Num
end Go.Proofs.Ytbodakfgoijeeaa
