/-
  A slice of values that reads as data leads to trees.
-/
import Derived.Test.YtkodgfhpbpefdaaTree
namespace Go.Proofs.Ytkodgfhpbpefdaa
open Go.RowKit Go.ChangeShapes Go.WideShapes
namespace Num
open Ints
set_option linter.unusedSimpArgs false
set_option linter.unusedVariables false
section
variable {H : Type} {enc : TypeId × Value → H} {w : World} {base : Nat} {spare : Nat → Bool} {held : Bool}
theorem repL_of_trod (n fuel : Nat) (hf : fuel ≤ 2 * n + 1) (p : Option Addr) (l c : Nat) (x : DataW H × List MemPlace) (h : DataW.trod enc Try.prog w base spare held fuel 23 [.slice p l c] = some x) : ∃ L : List (VT n), RepL w (Rep w n) p l c L := by
  rcases DataW.trod_slice Try.underlying23 h with ⟨hc, _⟩ | ⟨a, len, cap, elems, rest, g, rfl, hc, _, hb, hl, hm, hlen, hel, _, _⟩
  · simp only [List.cons.injEq, Value.slice.injEq, and_true] at hc
    obtain ⟨rfl, rfl, rfl⟩ := hc
    exact ⟨[], rfl, Nat.le_refl _, Nat.zero_le _, fun h => absurd h (Nat.lt_irrefl _)⟩
  · simp only [List.cons.injEq, Value.slice.injEq, and_true] at hc
    obtain ⟨rfl, rfl, rfl⟩ := hc
    rw [cells5] at hel
    have one : ∀ i, i < l → ∃ cs', w.cells? base (a.add (i * 5)) 5 = some cs' ∧ ∃ T : VT n, Rep w n (.agg cs'.toArray) T := by
      intro i hi
      have := hel i hi
      rw [List.getElem?_eq_getElem (by omega)] at this
      obtain ⟨cs', h1, h2⟩ := Option.bind_eq_some_iff.1 this
      exact ⟨cs', h1, rep_of_trod n g (by omega) cs' _ h2⟩
    obtain ⟨b, off, spot⟩ := a
    by_cases hl0 : 0 < l
    · have hspot : spot = none := by
        obtain ⟨cs', h1, _⟩ := one 0 hl0
        obtain ⟨_, _, h3⟩ := World.cells?_some h1
        have h30 := h3 0 (by omega)
        simp only [Nat.zero_mul, Addr.add, if_true] at h30
        cases hs : spot with
        | none => rfl
        | some z =>
          rw [hs] at h30
          simp [World.cell?] at h30
          split at h30 <;> simp_all
      subst hspot
      obtain ⟨L, hL, hE⟩ := list_of (P := fun i (T : VT n) => ∃ v0 v1 v2 v3 v4,
        w.cell? ⟨b, off + i * 5, none⟩ = some v0 ∧ w.cell? ⟨b, off + i * 5 + 1, none⟩ = some v1 ∧ w.cell? ⟨b, off + i * 5 + 2, none⟩ = some v2 ∧
        w.cell? ⟨b, off + i * 5 + 3, none⟩ = some v3 ∧ w.cell? ⟨b, off + i * 5 + 4, none⟩ = some v4 ∧ Rep w n (.agg #[v0, v1, v2, v3, v4]) T) l (fun i hi => by
          obtain ⟨cs', h1, T, hT⟩ := one i hi
          obtain ⟨_, h2, h3⟩ := World.cells?_some h1
          match cs', h2 with
          | [v0, v1, v2, v3, v4], _ =>
            have a0 := h3 0 (by omega)
            have a1 := h3 1 (by omega)
            have a2 := h3 2 (by omega)
            have a3 := h3 3 (by omega)
            have a4 := h3 4 (by omega)
            have e : (Addr.add ⟨b, off, none⟩ (i * 5)) = ⟨b, off + i * 5, none⟩ := by
              unfold Addr.add; split <;> simp_all
            rw [e] at a0 a1 a2 a3 a4
            simp [Addr.add] at a0 a1 a2 a3 a4
            exact ⟨T, v0, v1, v2, v3, v4, a0, a1, a2, a3, a4, hT⟩)
      exact ⟨L, hL, hl, hm, fun _ => ⟨b, off, rfl, hE⟩⟩
    · obtain rfl : l = 0 := by omega
      exact ⟨[], rfl, hl, hm, fun h => absurd h hl0⟩
theorem repL_of_Trod {v : Value} {d : DataW H} {ps : List MemPlace} {b0 : Nat} (h : DataW.Trod enc Try.prog w base spare held 23 v d ps) (ho : Value.okWide Try.prog w .any b0 23 v) :
    ∃ (n : Nat) (p : Option Addr) (l c : Nat) (L : List (VT (n + 1))), v = .slice p l c ∧ RepL w (Rep w (n + 1)) p l c L := by
  obtain ⟨p, l, c, rfl⟩ := okWide_slice Try.underlying23 ho
  obtain ⟨fuel, hf⟩ := h
  obtain ⟨L, hL⟩ := repL_of_trod (fuel + 1) fuel (by omega) p l c _ (by simpa [Value.cells] using hf)
  exact ⟨fuel, p, l, c, L, rfl, hL⟩
end
end Num
end Go.Proofs.Ytkodgfhpbpefdaa
