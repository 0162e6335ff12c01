/-
  A slice of floats.
-/
import Derived.Test.YtpbfaffheigjcaaGreatJp4VTree
import Derived.Deep.Slices
namespace Go.Proofs.YtpbfaffheigjcaaGreat
open Go.RowKit
namespace Num
open Ints
set_option linter.unusedSimpArgs false
set_option linter.unusedVariables false
open Go.ChangeShapes Go.WideShapes
def RepF (w : World) (p : Option Addr) (l c : Nat) (L : List Nat) : Prop :=
  L.length = l ∧ l ≤ c ∧ c ≤ maxLen ∧ (0 < l → ∃ b off, p = some ⟨b, off, none⟩ ∧ ∀ i (h : i < L.length), w.cell? ⟨b, off + i, none⟩ = some (.float .f64 L[i]))
theorem trod_float {H : Type} {enc : TypeId × Value → H} {P : Program} {w : World} {base : Nat} {spare : Nat → Bool} {held : Bool} {t : TypeId} {fuel : Nat} {cs : List Value} {x : DataW H × List MemPlace} (ht : P.underlying t = some (.float .f64)) (h : DataW.trod enc P w base spare held fuel t cs = some x) :
    ∃ y, cs = [.float .f64 y] ∧ y < 2 ^ 64 := by
  cases fuel with
  | zero => simp [DataW.trod] at h
  | succ n =>
    unfold DataW.trod at h
    rw [ht] at h
    split at h <;> simp_all
    rename_i k' b h0
    subst h0
    obtain ⟨⟨h1, h2⟩, _⟩ := h
    subst h1
    simpa [Lit.wf] using h2
set_option maxRecDepth 100000 in
theorem repF_of_Trod {H : Type} {enc : TypeId × Value → H} {w : World} {base : Nat} {spare : Nat → Bool} {held : Bool} {v : Value} {d : DataW H} {ps : List MemPlace} {b0 : Nat} (h : DataW.Trod enc Tryz.prog w base spare held 50 v d ps) (ho : Value.okWide Tryz.prog w .any b0 50 v) :
    ∃ (p : Option Addr) (l c : Nat) (L : List Nat), v = .slice p l c ∧ RepF w p l c L ∧ ∀ y ∈ L, y < 2 ^ 64 := by
  obtain ⟨p, l, c, rfl⟩ := okWide_slice Tryz.underlying50 ho
  obtain ⟨fuel, hf⟩ := h
  rcases Go.Deep.open_slice1 Tryz.underlying50 (by kernel_rfl) (by simpa [Value.cells] using hf) with ⟨hc, _⟩ | ⟨a, len, cap, m, n, V, D, Pl, hc, _, hl, hm, hmm, _, hx⟩
  · simp only [List.cons.injEq, Value.slice.injEq, and_true] at hc
    obtain ⟨rfl, rfl, rfl⟩ := hc
    exact ⟨none, 0, 0, [], rfl, ⟨rfl, Nat.le_refl _, Nat.zero_le _, fun h => absurd h (Nat.lt_irrefl _)⟩, fun y hy => by cases hy⟩
  · simp only [List.cons.injEq, Value.slice.injEq, and_true] at hc
    obtain ⟨rfl, rfl, rfl⟩ := hc
    have hml : l ≤ m := by rw [hmm]; split <;> omega
    have fl : ∀ i, i < l → ∃ y, w.cell? (a.add i) = some (.float .f64 y) ∧ y < 2 ^ 64 := by
      intro i hi
      obtain ⟨h1, h2⟩ := hx i (by omega)
      obtain ⟨y, hy1, hy2⟩ := trod_float Tryz.underlying24 h2
      simp only [List.cons.injEq, and_true] at hy1
      rw [hy1] at h1
      exact ⟨y, h1, hy2⟩
    obtain ⟨L, hL, hE⟩ := list_of l fl
    refine ⟨some a, l, c, L, rfl, ⟨hL, hl, hm, fun hl0 => ?_⟩, fun y hy => ?_⟩
    · obtain ⟨b, off, spot⟩ := a
      have h0 := (hE 0 (by omega)).1
      have hspot : spot = none := by
        simp only [Addr.add, if_true] at h0
        cases hs : spot with
        | none => rfl
        | some z =>
          rw [hs] at h0
          simp [World.cell?] at h0
          split at h0 <;> simp_all
      subst hspot
      refine ⟨b, off, rfl, fun i hi => ?_⟩
      have := (hE i hi).1
      have e : (Addr.add ⟨b, off, none⟩ i) = ⟨b, off + i, none⟩ := by unfold Addr.add; split <;> simp_all
      rwa [e] at this
    · obtain ⟨i, hi, rfl⟩ := List.getElem_of_mem hy
      exact (hE i hi).2
end Num
end Go.Proofs.YtpbfaffheigjcaaGreat
