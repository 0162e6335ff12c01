/-
  Package counter: what a call comes to.
-/
import Derived.Test.YtmhogdigkdcnfaaCTo
import Derived.Test.YtmhogdigkdcnfaaCRa
import Derived.Test.YtmhogdigkdcnfaaCRf
namespace Go.Proofs.Ytmhogdigkdcnfaa
open Go.RowKit
namespace Num
open Ints
set_option linter.unusedSimpArgs false
set_option linter.unusedVariables false
def cntC : ByteArray := { data := #[99, 111, 117, 110, 116, 101, 114] }
def addC : ByteArray := { data := #[97, 100, 100] }
def countC : ByteArray := { data := #[99, 111, 117, 110, 116] }
def resetC : ByteArray := { data := #[114, 101, 115, 101, 116] }
def totalC : ByteArray := { data := #[116, 111, 116, 97, 108] }
theorem cnt_metas : metas cntC = msC := by rfl
/-- What is taken by a counter. -/
theorem cnt_told (n : Nat) (m : ByteArray) (L : List (VT (n + 1))) (h : chkA cntC m n L = 0) :
    (m = addC ∧ ∃ a, L = [a] ∧ isNum a.1 = true) ∨ ((m = countC ∨ m = resetC ∨ m = totalC) ∧ L = []) := by
  obtain ⟨_, x, hx, h1, h2, h3⟩ := told cntC m n L msC cnt_metas h
  unfold msC findM findM findM findM findM at hx
  have e1 : moreOf ({ data := #[35] } : ByteArray) = 0 := by decide
  have e2 : ({ data := #[35] } : ByteArray).size = 1 := rfl
  have e3 : moreOf ({ data := #[] } : ByteArray) = 0 := by decide
  have e4 : ({ data := #[] } : ByteArray).size = 0 := rfl
  split at hx
  · rename_i e
    injection hx with hx
    subst hx
    simp only [e1, e2] at h1 h2
    obtain ⟨a, rfl⟩ := len1 (L := L) (by omega)
    refine Or.inl ⟨ba_of_beq e, a, rfl, ?_⟩
    have h4 : (holdsT 2 n a && true) = true := h3
    rw [Bool.and_true] at h4
    exact h4
  · split at hx
    · rename_i e
      injection hx with hx
      subst hx
      simp only [e3, e4] at h1 h2
      exact Or.inr ⟨Or.inl (ba_of_beq e), len0 (by omega)⟩
    · split at hx
      · rename_i e
        injection hx with hx
        subst hx
        simp only [e3, e4] at h1 h2
        exact Or.inr ⟨Or.inr (Or.inl (ba_of_beq e)), len0 (by omega)⟩
      · split at hx
        · rename_i e
          injection hx with hx
          subst hx
          simp only [e3, e4] at h1 h2
          exact Or.inr ⟨Or.inr (Or.inr (ba_of_beq e)), len0 (by omega)⟩
        · cases hx
def intV (n : Nat) (i : Int) : VT (n + 1) := (1, i, 0, ⟨#[]⟩, [])
def floV (n : Nat) (f : Nat) : VT (n + 1) := (2, 0, f, ⟨#[]⟩, [])
/-- A counter's state. -/
def cntS (n : Nat) (i : Int) (f : Nat) : VT (n + 2) := (4, 0, 0, ⟨#[]⟩, [intV n i, floV n f])
/-- A call that is taken, on a right state. -/
def cntR (n : Nat) (m : ByteArray) (i : Int) (f : Nat) (L : List (VT (n + 2))) : VT (n + 2) × VT (n + 2) × Int :=
  if m = addC then (match L with
    | a :: _ => if i = 9223372036854775807 then (nilT (n + 1), nilT (n + 1), 35) else (cntS n (i + 1) (Flo.cop .add f (asF a.1 a.2.1 a.2.2.1)), floV (n + 1) (Flo.cop .add f (asF a.1 a.2.1 a.2.2.1)), 0)
    | [] => (nilT (n + 1), nilT (n + 1), 31))
  else if m = countC then (cntS n i f, intV (n + 1) i, 0)
  else if m = resetC then (cntS n 0 0, floV (n + 1) f, 0)
  else (cntS n i f, floV (n + 1) f, 0)
/-- A call on a counter: the state then, what is answered, an error. -/
def cntD (n : Nat) (m : ByteArray) (S : VT (n + 2)) (L : List (VT (n + 2))) : VT (n + 2) × VT (n + 2) × Int :=
  if cntB n S = false then (nilT (n + 1), nilT (n + 1), 31) else if chkA cntC m (n + 1) L ≠ 0 then (nilT (n + 1), nilT (n + 1), chkA cntC m (n + 1) L) else
  match S.2.2.2.2 with
  | [A, B] => cntR n m A.2.1 (Flo.canon B.2.2.1) L
  | _ => (nilT (n + 1), nilT (n + 1), 31)
theorem cnt_shape {n : Nat} {S : VT (n + 2)} (h : cntB n S = true) : ∃ I F Z i A0 A1 A2 B0 f B1 B2, S = (4, I, F, Z, [(1, i, A0, A1, A2), (2, B0, f, B1, B2)]) ∧ 0 ≤ i := by
  obtain ⟨K, I, F, Z, L⟩ := S
  unfold cntB at h
  rw [Bool.and_eq_true, beq_iff_eq] at h
  obtain ⟨hk, h⟩ := h
  obtain rfl : K = 4 := hk
  match L, h with
  | [(a, i, A0, A1, A2), (b, B0, f, B1, B2)], h =>
    have h' : (((a == 1) && decide (0 ≤ i)) && (b == 2)) = true := h
    rw [Bool.and_eq_true, Bool.and_eq_true, beq_iff_eq, beq_iff_eq, decide_eq_true_iff] at h'
    obtain ⟨⟨rfl, h0⟩, rfl⟩ := h'
    exact ⟨I, F, Z, i, A0, A1, A2, B0, f, B1, B2, rfl, h0⟩
theorem cnt_clean (n : Nat) (I : Int) (F : Nat) (Z : ByteArray) (i : Int) (A0 : Nat) (A1 : ByteArray) (A2 : List (VT n)) (B0 : Int) (f : Nat) (B1 : ByteArray) (B2 : List (VT n)) :
    cleanT (n + 2) ((4, I, F, Z, [(1, i, A0, A1, A2), (2, B0, f, B1, B2)]) : VT (n + 2)) = cntS n i (Flo.canon f) := rfl
theorem cnt_light (n : Nat) (I : Int) (F : Nat) (Z : ByteArray) (i : Int) (A0 : Nat) (A1 : ByteArray) (A2 : List (VT n)) (B0 : Int) (f : Nat) (B1 : ByteArray) (B2 : List (VT n)) :
    deepT (n + 2) ((4, I, F, Z, [(1, i, A0, A1, A2), (2, B0, f, B1, B2)]) : VT (n + 2)) 64 = false ∧ partsT (n + 2) ((4, I, F, Z, [(1, i, A0, A1, A2), (2, B0, f, B1, B2)]) : VT (n + 2)) ≤ 1000 ∧ walkM (measT (n + 2) ((4, I, F, Z, [(1, i, A0, A1, A2), (2, B0, f, B1, B2)]) : VT (n + 2))) = true := by
  refine ⟨rfl, ?_, ?_⟩
  · show (3 : Nat) ≤ 1000
    decide
  · rw [measT_list rfl rfl rfl rfl]
    show walkM (withM (withM (false, decide (64 < ((2 : Nat) : Int)), 1, 2) (measT (n + 1) (1, i, A0, A1, A2))) (measT (n + 1) (2, B0, f, B1, B2))) = true
    rw [measT_num rfl rfl, measT_num rfl rfl]
    decide +kernel
end Num
end Go.Proofs.Ytmhogdigkdcnfaa
