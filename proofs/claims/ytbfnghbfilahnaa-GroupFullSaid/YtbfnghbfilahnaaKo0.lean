/-
  GroupFull: its groups.
-/
import Derived.Test.YtbfnghbfilahnaaKc0
namespace Go.Proofs.Ytbfnghbfilahnaa
open Go.RowKit
namespace Num
open Ints
set_option linter.unusedSimpArgs false
set_option linter.unusedVariables false
/-- A name of two letters. -/
def nmB (b : UInt8) : ByteArray := ⟨#[103, b]⟩
def bG (c : Nat) : UInt8 := UInt8.ofNat (97 + c)
theorem bG_nat {c : Nat} (h : c < 100) : ((bG c).toNat : Int) = 97 + (c : Int) := by
  unfold bG
  rw [UInt8.toNat_ofNat']
  omega
def gr1 (c : Nat) : Gp := ⟨nmB (bG c), (⟨#[113, 117, 101, 117, 101]⟩ : ByteArray), 1, 1⟩
/-- So many groups. -/
def grpL (m : Nat) : List Gp := (List.range m).map gr1
def gpE (x y : Gp) : Bool := bq x.n y.n && bq x.c y.c && x.s == y.s && x.v == y.v
theorem gpE_iff {x y : Gp} (h : gpE x y = true) : x = y := by
  obtain ⟨a, b, c, d⟩ := x
  obtain ⟨a', b', c', d'⟩ := y
  unfold gpE at h
  simp only [Bool.and_eq_true, beq_iff_eq, bq_iff] at h
  obtain ⟨⟨⟨rfl, rfl⟩, rfl⟩, rfl⟩ := h
  rfl
def isG (o : Option Gp) (g : Gp) : Bool := match o with | some x => gpE x g | none => false
theorem isG_iff {o : Option Gp} {g : Gp} (h : isG o g = true) : o = some g := by
  cases o with
  | none => cases h
  | some x => rw [gpE_iff (show gpE x g = true from h)]
def gr2 (c : Nat) : Gp := ⟨nmB (bG c), (⟨#[113, 117, 101, 117, 101]⟩ : ByteArray), 2, 2⟩
def gr3 (c : Nat) : Gp := ⟨nmB (bG c), (⟨#[116, 97, 98, 108, 101]⟩ : ByteArray), 0, 1⟩
def grpS (m c : Nat) : List Gp := setG (grpL m) (gr2 c)
def grpD (m c : Nat) : List Gp := (grpS m c).eraseP (fun g => bq (nmB (bG c)) g.n)
def grpN (m c : Nat) : List Gp := grpD m c ++ [gr3 c]
theorem grp_len (m : Nat) : (grpL m).length = m := by
  unfold grpL
  rw [List.length_map, List.length_range]
theorem grp_new : ∀ m, m < 16 → getG (grpL m) (nmB (bG m)) = none := by
  have h : ∀ m, m < 16 → (getG (grpL m) (nmB (bG m))).isNone = true := by decide +kernel
  intro m hm
  exact Option.isNone_iff_eq_none.1 (h m hm)
theorem grp_full : ∀ c, c < 18 → 16 ≤ c → getG (grpL 16) (nmB (bG c)) = none := by
  have h : ∀ c, c < 18 → 16 ≤ c → (getG (grpL 16) (nmB (bG c))).isNone = true := by decide +kernel
  intro c h1 h2
  exact Option.isNone_iff_eq_none.1 (h c h1 h2)
theorem grp_succ (m : Nat) : grpL (m + 1) = grpL m ++ [gr1 m] := by
  unfold grpL
  rw [List.range_succ, List.map_append]
  rfl
theorem grp_facts : ∀ m, m < 17 → 14 ≤ m → ∀ c, c < 14 → (isG (getG (grpL m) (nmB (bG c))) (gr1 c) && isG (getG (grpS m c) (nmB (bG c))) (gr2 c) && (getG (grpD m c) (nmB (bG c))).isNone && decide ((grpD m c).length < 16) && isG (getG (grpN m c) (nmB (bG c))) (gr3 c) && decide ((grpN m c).length = m)) = true := by decide +kernel
theorem grp_all {m c : Nat} (h1 : m < 17) (h2 : 14 ≤ m) (hc : c < 14) : getG (grpL m) (nmB (bG c)) = some (gr1 c) ∧ getG (grpS m c) (nmB (bG c)) = some (gr2 c) ∧ getG (grpD m c) (nmB (bG c)) = none ∧ (grpD m c).length < 16 ∧ getG (grpN m c) (nmB (bG c)) = some (gr3 c) ∧ (grpN m c).length = m := by
  have h := grp_facts m h1 h2 c hc
  simp only [Bool.and_eq_true, decide_eq_true_eq] at h
  exact ⟨isG_iff h.1.1.1.1.1, isG_iff h.1.1.1.1.2, Option.isNone_iff_eq_none.1 h.1.1.1.2, h.1.1.2, isG_iff h.1.2, h.2⟩
end Num
end Go.Proofs.Ytbfnghbfilahnaa
