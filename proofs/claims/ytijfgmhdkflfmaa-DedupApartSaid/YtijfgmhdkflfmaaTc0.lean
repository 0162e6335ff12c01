/-
  A slice of uint16 that came in.
-/
import Derived.Test.YtijfgmhdkflfmaaRow
import Derived.Test.YtijfgmhdkflfmaaInts
import Derived.Deep.Slices
import Derived.ProofKit
namespace Go.Proofs.Ytijfgmhdkflfmaa
open Go.RowKit Go.ChangeShapes Go.WideShapes
namespace Num
open Ints
set_option linter.unusedSimpArgs false
set_option linter.unusedVariables false
/-- The slice of l uint16 at p reads as X. -/
def RdU (w : World) (p : Option Addr) (l c : Nat) (X : List Int) : Prop := X.length = l ∧ l ≤ c ∧ c ≤ maxLen ∧
  (0 < l → ∃ b off, p = some ⟨b, off, none⟩ ∧ ∀ i (h : i < X.length), w.cell? ⟨b, off + i, none⟩ = some (.int .u16 X[i]))
def ShorU (X : List Int) : Prop := ∀ x ∈ X, 0 ≤ x ∧ x < 65536
theorem list_ofU {α : Type} {P : Nat → α → Prop} : ∀ l, (∀ i, i < l → ∃ x, P i x) → ∃ L : List α, L.length = l ∧ ∀ i (h : i < L.length), P i L[i] := by
  intro l
  induction l with
  | zero => intro _; exact ⟨[], rfl, fun i h => absurd h (Nat.not_lt_zero _)⟩
  | succ l ih =>
    intro h
    obtain ⟨L, hl, hL⟩ := ih (fun i hi => h i (by omega))
    obtain ⟨x, hx⟩ := h l (by omega)
    refine ⟨L ++ [x], by simp [hl], fun i hi => ?_⟩
    by_cases hlt : i < L.length
    · rw [List.getElem_append_left hlt]; exact hL i hlt
    · have : i = L.length := by simp at hi; omega
      subst this
      rw [List.getElem_append_right (by omega)]
      simpa [hl] using hx
set_option maxRecDepth 100000 in
theorem ru_of_Trod {H : Type} {enc : TypeId × Value → H} {w : World} {base : Nat} {spare : Nat → Bool} {held : Bool} {v : Value} {d : DataW H} {ps : List MemPlace} {b0 : Nat} (h : DataW.Trod enc Try.prog w base spare held 56 v d ps) (ho : Value.okWide Try.prog w .any b0 56 v) :
    ∃ (p : Option Addr) (l c : Nat) (X : List Int), v = .slice p l c ∧ RdU w p l c X ∧ ShorU X := by
  obtain ⟨p, l, c, rfl⟩ := okWide_slice Try.underlying56 ho
  obtain ⟨fuel, hf⟩ := h
  rcases Go.Deep.open_slice1 Try.underlying56 (by kernel_rfl) (by simpa [Value.cells] using hf) with ⟨hc, _⟩ | ⟨a, len, cap, m, n, V, D, Pl, hc, _, hl, hm, hmm, _, hx⟩
  · simp only [List.cons.injEq, Value.slice.injEq, and_true] at hc
    obtain ⟨rfl, rfl, rfl⟩ := hc
    exact ⟨none, 0, 0, [], rfl, ⟨rfl, Nat.le_refl _, Nat.zero_le _, fun h => absurd h (Nat.lt_irrefl _)⟩, fun y hy => by cases hy⟩
  · simp only [List.cons.injEq, Value.slice.injEq, and_true] at hc
    obtain ⟨rfl, rfl, rfl⟩ := hc
    have hml : l ≤ m := by rw [hmm]; split <;> omega
    have fl : ∀ i, i < l → ∃ y : Int, w.cell? (a.add i) = some (.int .u16 y) ∧ 0 ≤ y ∧ y < 65536 := by
      intro i hi
      obtain ⟨h1, h2⟩ := hx i (by omega)
      obtain ⟨y, hy1, _, hy2⟩ := DataW.trod_int Try.underlying38 h2
      simp only [List.cons.injEq, and_true] at hy1
      rw [hy1] at h1
      refine ⟨y, h1, ?_⟩
      simp only [Lit.wf, decide_eq_true_eq, IntKind.min, IntKind.max] at hy2
      have h3 : IntKind.u16.bits = 16 := rfl
      simp [IntKind.signed, h3] at hy2
      omega
    obtain ⟨L, hL, hE⟩ := list_ofU l fl
    refine ⟨some a, l, c, L, rfl, ⟨hL, hl, hm, fun hl0 => ?_⟩, fun y hy => ?_⟩
    · obtain ⟨b, off, spot⟩ := a
      have h0 := (hE 0 (by omega)).1
      have hspot : spot = none := by
        simp only [Addr.add, if_true] at h0
        cases hs : spot with
        | none => rfl
        | some z =>
          rw [hs] at h0
          simp [World.cell?] at h0
          split at h0 <;> simp_all
      subst hspot
      refine ⟨b, off, rfl, fun i hi => ?_⟩
      have := (hE i hi).1
      have e : (Addr.add ⟨b, off, none⟩ i) = ⟨b, off + i, none⟩ := by unfold Addr.add; split <;> simp_all
      rwa [e] at this
    · obtain ⟨i, hi, rfl⟩ := List.getElem_of_mem hy
      exact (hE i hi).2
theorem ru_keep {w w' : World} {p : Option Addr} {l c : Nat} {X : List Int} (hb : Below w.heap.size w w') (h : RdU w p l c X) : RdU w' p l c X := ⟨h.1, h.2.1, h.2.2.1, fun hl => by
  obtain ⟨b, off, rfl, hi⟩ := h.2.2.2 hl
  exact ⟨b, off, rfl, fun i h => cell_keep hb (hi i h)⟩⟩
end Num
end Go.Proofs.Ytijfgmhdkflfmaa
