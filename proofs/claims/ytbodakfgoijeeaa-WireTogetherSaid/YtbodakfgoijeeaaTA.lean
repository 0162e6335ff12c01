/-
  A value's bytes are read back, cleaned, whatever stands behind them.
-/
import Derived.Test.YtbodakfgoijeeaaMT
namespace Go.Proofs.Ytbodakfgoijeeaa
open Go.RowKit
namespace Num
open Ints
set_option linter.unusedSimpArgs false
set_option linter.unusedVariables false
/-- A value as Clean makes it. -/
def cleanT : (n : Nat) → VT n → VT n
  | 0, T => T
  | n + 1, T => if (T.1 == 1) = true then (1, T.2.1, 0, ⟨#[]⟩, []) else if (T.1 == 2) = true then (2, 0, Flo.canon T.2.2.1, ⟨#[]⟩, [])
      else if (T.1 == 3) = true then (3, 0, 0, T.2.2.2.1, []) else if (T.1 == 4) = true then (4, 0, 0, ⟨#[]⟩, T.2.2.2.2.map (cleanT n)) else (0, 0, 0, ⟨#[]⟩, [])
/-- The numbers in a tree are Go's. -/
def okT : (n : Nat) → VT n → Prop
  | 0, _ => False
  | n + 1, T => okI T.2.1 ∧ T.2.2.1 < 2 ^ 64 ∧ ∀ x ∈ T.2.2.2.2, okT n x
theorem ok_of_rep {w : World} : ∀ (n : Nat) (v : Value) (T : VT n), Rep w n v T → okT n T := by
  intro n
  induction n with
  | zero => intro v T h; exact h.elim
  | succ n ih =>
    intro v T h
    obtain ⟨p, l, c, rfl, _, h2, h3, _, hl, _, _, hel⟩ := h
    refine ⟨h2, h3, fun x hx => ?_⟩
    obtain ⟨i, hi, rfl⟩ := List.mem_iff_getElem.1 hx
    obtain ⟨b, off, _, hc⟩ := hel (by have : T.2.2.2.2.length = l := hl; omega)
    obtain ⟨v0, v1, v2, v3, v4, _, _, _, _, _, hr⟩ := hc i hi
    exact ih _ _ hr
theorem rdU_be2 (u : Int) (h0 : 0 ≤ u) (h1 : u < 65536) : rdU (beI u 2) = u := by
  have h := fold_be u h0 2 0 (by omega) (by decide)
  have e : (256 : Int) ^ 2 = 65536 := by decide
  rw [e] at h
  unfold rdU
  rw [h]
  omega
theorem take_be (u : Int) (k : Nat) (R : List Int) : (beI u k ++ R).take k = beI u k := by
  rw [List.take_append_of_le_length (by rw [beI_len]; omega), List.take_of_length_le (by rw [beI_len]; omega)]
theorem drop_be (u : Int) (k : Nat) (R : List Int) : (beI u k ++ R).drop k = R := by
  rw [List.drop_append_of_le_length (by rw [beI_len]; omega), List.drop_of_length_le (by rw [beI_len]; omega), List.nil_append]
theorem wrap_back {I : Int} (h : okI I) : wrap64 (IntKind.u64.wrap I) = I := by
  unfold okI at h
  rw [Go.IntKind.wrap_u64]
  unfold wrap64
  omega
theorem dec_list {n : Nat} {f : VT n → VT n} (R : List Int) : ∀ (L : List (VT n)), (∀ x ∈ L, ∀ R, decV n (encV n x ++ R) = some (f x, (encV n x).length)) → ∀ k, k ≤ L.length → decL (decV n) k (L.flatMap (encV n) ++ R) = some ((L.take k).map f, ((L.take k).flatMap (encV n)).length) := by
  intro L h k
  induction k with
  | zero => intro _; rfl
  | succ k ih =>
    intro hk
    have hkl : k < L.length := by omega
    rw [decL, ih (by omega)]
    have e : (L.flatMap (encV n) ++ R).drop ((L.take k).flatMap (encV n)).length = encV n L[k] ++ ((L.drop (k + 1)).flatMap (encV n) ++ R) := by
      have e1 : L.flatMap (encV n) = (L.take k).flatMap (encV n) ++ (encV n L[k] ++ (L.drop (k + 1)).flatMap (encV n)) := by
        have e2 : L = L.take k ++ (L[k] :: L.drop (k + 1)) := by rw [List.getElem_cons_drop, List.take_append_drop]
        conv => lhs; rw [e2]
        rw [List.flatMap_append, List.flatMap_cons]
      rw [e1, List.append_assoc, List.drop_append_of_le_length (Nat.le_refl _), List.drop_of_length_le (Nat.le_refl _), List.nil_append, List.append_assoc]
    simp only [e, h L[k] (List.getElem_mem hkl)]
    rw [List.take_succ_eq_append_getElem hkl, List.map_append, List.flatMap_append, List.length_append]
    simp
theorem dec_enc : ∀ (n d : Nat) (T : VT n) (R : List Int), okT n T → greatT n d T = false → decV n (encV n T ++ R) = some (cleanT n T, (encV n T).length) := by
  intro n
  induction n with
  | zero => intro d T R h; exact h.elim
  | succ n ih =>
    intro d T R hok hg
    obtain ⟨K, I, F, S, L⟩ := T
    obtain ⟨hI, hF, hL⟩ := hok
    have hI' : okI I := hI
    have hF' : F < 18446744073709551616 := hF
    by_cases h1 : K = 1
    · subst h1
      have e : encV (n + 1) (1, I, F, S, L) = 1 :: beI (IntKind.u64.wrap I) 8 := rfl
      have e2 : cleanT (n + 1) (1, I, F, S, L) = (1, I, 0, ⟨#[]⟩, []) := rfl
      rw [e, e2, List.cons_append, decV, if_neg (by decide), if_pos (by decide), if_pos (by rw [List.length_append, beI_len]; omega), take_be, rdU_be _ (by rw [Go.IntKind.wrap_u64]; omega) (by rw [Go.IntKind.wrap_u64]; omega), wrap_back hI', List.length_cons, beI_len]
    by_cases h2 : K = 2
    · subst h2
      have e : encV (n + 1) (2, I, F, S, L) = 2 :: beI (Flo.canon F : Int) 8 := rfl
      have e2 : cleanT (n + 1) (2, I, F, S, L) = (2, 0, Flo.canon F, ⟨#[]⟩, []) := rfl
      have hc := Flo.canon_lt (x := F) hF'
      rw [e, e2, List.cons_append, decV, if_neg (by decide), if_neg (by decide), if_pos (by decide), take_be, rdU_be _ (by omega) (by omega), Int.toNat_natCast, if_pos ⟨by rw [List.length_append, beI_len]; omega, Flo.canon_canon F⟩, List.length_cons, beI_len]
    by_cases h3 : K = 3
    · subst h3
      have e : encV (n + 1) (3, I, F, S, L) = 3 :: (beI (S.size : Int) 2 ++ strIs S) := rfl
      have e2 : cleanT (n + 1) (3, I, F, S, L) = (3, 0, 0, S, []) := rfl
      have hS : S.size ≤ 256 := by
        have h : decide (256 < (S.size : Int)) = false := hg
        simp at h
        omega
      rw [e, e2, List.cons_append, List.append_assoc, decV, if_neg (by decide), if_neg (by decide), if_neg (by decide), if_pos (by decide), take_be, rdU_be2 _ (by omega) (by omega), Int.toNat_natCast,
        if_pos ⟨by rw [List.length_append, beI_len]; omega, hS, by rw [List.length_append, List.length_append, beI_len, strIs_len]; omega⟩, drop_be,
        List.take_append_of_le_length (by rw [strIs_len]; omega), List.take_of_length_le (by rw [strIs_len]; omega), strB_back, List.length_cons, List.length_append, beI_len, strIs_len]
      rw [show 3 + S.size = 2 + S.size + 1 by omega]
    by_cases h4 : K = 4
    · subst h4
      have hg' : (decide (8 ≤ d) || decide (64 < (L.length : Int)) || L.any (greatT n (d + 1))) = false := hg
      simp only [Bool.or_eq_false_iff, decide_eq_false_iff_not, List.any_eq_false] at hg'
      obtain ⟨⟨g1, g2⟩, g3⟩ := hg'
      have e : encV (n + 1) (4, I, F, S, L) = 4 :: IntKind.u8.wrap (L.length : Int) :: L.flatMap (encV n) := rfl
      have e2 : cleanT (n + 1) (4, I, F, S, L) = (4, 0, 0, ⟨#[]⟩, L.map (cleanT n)) := rfl
      have hw : IntKind.u8.wrap (L.length : Int) = (L.length : Int) := by rw [Go.IntKind.wrap_u8]; omega
      have hd := dec_list (f := cleanT n) R L (fun x hx R => ih (d + 1) x R (hL x hx) (by simpa using g3 x hx)) L.length (Nat.le_refl _)
      rw [List.take_length] at hd
      rw [e, e2, hw, List.cons_append, List.cons_append, decV, if_neg (by decide), if_neg (by decide), if_neg (by decide), if_neg (by decide), if_pos (by decide), decR, Int.toNat_natCast, hd, List.length_cons, List.length_cons]
      simp only
      rw [show 1 + (1 + (L.flatMap (encV n)).length) = (L.flatMap (encV n)).length + 1 + 1 by omega]
    have e : encV (n + 1) (K, I, F, S, L) = [0] := by
      unfold encV
      rw [if_neg (by simpa using h1), if_neg (by simpa using h2), if_neg (by simpa using h3), if_neg (by simpa using h4)]
    have e2 : cleanT (n + 1) (K, I, F, S, L) = (0, 0, 0, ⟨#[]⟩, []) := by
      unfold cleanT
      rw [if_neg (by simpa using h1), if_neg (by simpa using h2), if_neg (by simpa using h3), if_neg (by simpa using h4)]
    rw [e, e2, List.cons_append, decV, if_pos (by decide)]
    rfl
theorem great_clean : ∀ (n d : Nat) (T : VT n), greatT n d T = false → greatT n d (cleanT n T) = false := by
  intro n
  induction n with
  | zero => intro d T h; exact h
  | succ n ih =>
    intro d T hg
    obtain ⟨K, I, F, S, L⟩ := T
    by_cases h1 : K = 1
    · subst h1; rfl
    by_cases h2 : K = 2
    · subst h2; rfl
    by_cases h3 : K = 3
    · subst h3; exact hg
    by_cases h4 : K = 4
    · subst h4
      have hg' : (decide (8 ≤ d) || decide (64 < (L.length : Int)) || L.any (greatT n (d + 1))) = false := hg
      show (decide (8 ≤ d) || decide (64 < ((L.map (cleanT n)).length : Int)) || (L.map (cleanT n)).any (greatT n (d + 1))) = false
      simp only [Bool.or_eq_false_iff, decide_eq_false_iff_not, List.any_eq_false] at hg'
      obtain ⟨⟨g1, g2⟩, g3⟩ := hg'
      simp only [Bool.or_eq_false_iff, decide_eq_false_iff_not, List.any_eq_false, List.length_map]
      refine ⟨⟨g1, g2⟩, fun x hx => ?_⟩
      obtain ⟨y, hy, rfl⟩ := List.mem_map.1 hx
      have := ih (d + 1) y (by simpa using g3 y hy)
      simp [this]
    have e2 : cleanT (n + 1) (K, I, F, S, L) = (0, 0, 0, ⟨#[]⟩, []) := by
      unfold cleanT
      rw [if_neg (by simpa using h1), if_neg (by simpa using h2), if_neg (by simpa using h3), if_neg (by simpa using h4)]
    rw [e2]
    rfl
/-- What isn't too great is measured so, however deep a tree may be. -/
theorem great_meas_ok : ∀ (n d : Nat) (T : VT n), d ≤ 8 → greatT n d T = false → (measD n d T).2.1 = false ∧ 0 ≤ (measD n d T).2.2.1 ∧ (measD n d T).2.2.1 + d ≤ 8 := by
  intro n
  induction n with
  | zero => intro d T hd _; exact ⟨rfl, Int.le_refl _, by show (0 : Int) + d ≤ 8; omega⟩
  | succ n ih =>
    intro d T hd hgr
    obtain ⟨K, I, F, S, L⟩ := T
    have hg : greatT (n + 1) d (K, I, F, S, L) = if (K == 3) = true then decide (256 < (S.size : Int)) else if (K == 4) = true then (decide (8 ≤ d) || decide (64 < (L.length : Int)) || L.any (greatT n (d + 1))) else false := rfl
    rw [hg] at hgr
    cases h0 : (K == 0)
    · cases h12 : (K == 1 || K == 2)
      · cases h3 : (K == 3)
        · cases h4 : (K == 4)
          · rw [measD_else h0 h12 h3 h4]; exact ⟨rfl, Int.le_refl _, by show (0 : Int) + d ≤ 8; omega⟩
          · rw [h3, h4] at hgr
            simp only [Bool.false_eq_true, if_false, if_true, Bool.or_eq_false_iff, List.any_eq_false, decide_eq_false_iff_not] at hgr
            obtain ⟨⟨a, b⟩, c⟩ := hgr
            rw [measD_list h0 h12 h3 h4, measDL_in (by omega)]
            have hx : ∀ x ∈ L, (measD n (d + 1) x).2.1 = false ∧ 0 ≤ (measD n (d + 1) x).2.2.1 ∧ (measD n (d + 1) x).2.2.1 + ((d + 1 : Nat) : Int) ≤ 8 := fun x hxm => ih (d + 1) x (by omega) (by simpa using c x hxm)
            obtain ⟨k1, k2, k3⟩ := wm_deep (f := measD n (d + 1)) 8 (by omega) L (fun x hxm => by have := hx x hxm; exact ⟨this.2.1, by omega⟩) (false, decide (64 < (L.length : Int)), 1, 2) (by show (0 : Int) ≤ 1; decide) (by show (1 : Int) ≤ 8 + 1; decide)
            refine ⟨?_, k1, ?_⟩
            · rw [wm_long]
              simp only [Bool.or_eq_false_iff, List.any_eq_false, decide_eq_false_iff_not]
              exact ⟨b, fun x hxm => by rw [(hx x hxm).1]; simp⟩
            · have := (k3 (8 - (d : Int))).2 ⟨by show (1 : Int) ≤ 8 - d; omega, fun x hxm => by have := (hx x hxm).2.2; omega⟩
              omega
        · rw [h3] at hgr
          simp only [if_true] at hgr
          rw [measD_text h0 h12 h3]
          exact ⟨hgr, Int.le_refl _, by show (0 : Int) + d ≤ 8; omega⟩
      · rw [measD_num h0 h12]; exact ⟨rfl, Int.le_refl _, by show (0 : Int) + d ≤ 8; omega⟩
    · rw [measD_nil h0]; exact ⟨rfl, Int.le_refl _, by show (0 : Int) + d ≤ 8; omega⟩
/-- What is read of a value's bytes is let pass. -/
theorem check_dec (N : Nat) (X : List Int) (T : VT N) (j : Nat) (hX : X.length ≤ 4096) (hd : decV N X = some (T, j)) (hG : greatT N 0 T = false) : checkM (measD N 0 T) = 0 := by
  have hj := (decV_le _ _ _ _ hd).2
  obtain ⟨hk, hst⟩ := decV_kinds _ _ _ _ hd
  obtain ⟨hs0, hs1⟩ := decV_size _ _ _ _ hd (by omega) 0
  obtain ⟨g1, _, g2⟩ := great_meas_ok N 0 T (by omega) hG
  unfold checkM
  rw [hst 0, if_neg (by decide)]
  have h4 : decide (4096 < (measD N 0 T).2.2.2) = false := by simp; omega
  rw [h4, Bool.or_false]
  have : decide (8 < (measD N 0 T).2.2.1) = false := by simp; omega
  rw [g1, this]
  rfl
theorem check_clean (N : Nat) (T : VT N) (hok : okT N T) (hG : greatT N 0 T = false) (hsz : (encV N T).length ≤ 4096) : checkM (measD N 0 (cleanT N T)) = 0 := by
  have h := dec_enc N 0 T [] hok hG
  rw [List.append_nil] at h
  exact check_dec N (encV N T) _ _ hsz h (great_clean N 0 T hG)
end Num
end Go.Proofs.Ytbodakfgoijeeaa
