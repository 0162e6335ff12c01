/-
  A list of byte slices that came in: what it reads as.
-/
import Derived.Test.YthjjakpjanoamaaRT
namespace Go.Proofs.Ythjjakpjanoamaa
open Go.RowKit Go.ChangeShapes Go.WideShapes
namespace Num
open Ints
set_option linter.unusedSimpArgs false
set_option linter.unusedVariables false
/-- The list of n byte slices at p reads as LS. -/
def RdS (w : World) (p : Option Addr) (n c : Nat) (LS : List (List Int)) : Prop := LS.length = n ∧ n ≤ c ∧ c ≤ maxLen ∧
  (0 < n → ∃ b off, p = some ⟨b, off, none⟩ ∧ ∀ i (h : i < LS.length), ∃ q m d, w.cell? ⟨b, off + i, none⟩ = some (.slice q m d) ∧ RdB w q m d LS[i] ∧ By LS[i])
theorem rs_keep {w w' : World} (hb : Below w.heap.size w w') {p : Option Addr} {n c : Nat} {LS : List (List Int)} (h : RdS w p n c LS) : RdS w' p n c LS := by
  obtain ⟨h1, h2, h3, h4⟩ := h
  refine ⟨h1, h2, h3, fun hl => ?_⟩
  obtain ⟨b, off, hp, hc⟩ := h4 hl
  refine ⟨b, off, hp, fun i hi => ?_⟩
  obtain ⟨q, m, d, hq, hr, hB⟩ := hc i hi
  exact ⟨q, m, d, cell_keep hb hq, rd_keep hb hr, hB⟩
theorem spot_none {w : World} {a : Addr} {v : Value} (h : w.cell? (a.add 0) = some v) : a.spot = none := by
  obtain ⟨b, off, spot⟩ := a
  simp only [Addr.add, if_true] at h
  cases hs : spot with
  | none => rfl
  | some z =>
    rw [hs] at h
    simp [World.cell?] at h
    split at h <;> simp_all
set_option maxRecDepth 100000 in
theorem rd_of_trod1 {H : Type} {enc : TypeId × Value → H} {w : World} {base : Nat} {spare : Nat → Bool} {held : Bool} {fuel : Nat} {v : Value} {x : DataW H × List MemPlace} (hf : DataW.trod enc Try.prog w base spare held fuel 22 [v] = some x) :
    ∃ (p : Option Addr) (l c : Nat) (X : List Int), v = .slice p l c ∧ RdB w p l c X ∧ By X := by
  rcases Go.Deep.open_slice1 Try.underlying22 (by kernel_rfl) hf with ⟨hc, _⟩ | ⟨a, l, c, m, n, V, D, Pl, hc, _, hl, hm, hmm, _, hx⟩
  · simp only [List.cons.injEq, and_true] at hc
    exact ⟨none, 0, 0, [], hc, rd_nil w, fun y hy => by cases hy⟩
  · simp only [List.cons.injEq, and_true] at hc
    have hml : l ≤ m := by rw [hmm]; split <;> omega
    have fl : ∀ i, i < l → ∃ y : Int, w.cell? (a.add i) = some (.int .u8 y) ∧ 0 ≤ y ∧ y < 256 := by
      intro i hi
      obtain ⟨h1, h2⟩ := hx i (by omega)
      obtain ⟨y, hy1, _, hy2⟩ := DataW.trod_int Try.underlying5 h2
      simp only [List.cons.injEq, and_true] at hy1
      rw [hy1] at h1
      refine ⟨y, h1, ?_⟩
      simp only [Lit.wf, decide_eq_true_eq, IntKind.min, IntKind.max] at hy2
      have h3 : IntKind.u8.bits = 8 := rfl
      simp [IntKind.signed, h3] at hy2
      omega
    obtain ⟨L, hL, hE⟩ := list_ofB l fl
    refine ⟨some a, l, c, L, hc, ⟨hL, hl, hm, fun hl0 => ?_, fun e => by cases e⟩, fun y hy => ?_⟩
    · have hs := spot_none (hE 0 (by omega)).1
      obtain ⟨b, off, spot⟩ := a
      subst hs
      refine ⟨b, off, rfl, fun i hi => ?_⟩
      have := (hE i hi).1
      have e : (Addr.add ⟨b, off, none⟩ i) = ⟨b, off + i, none⟩ := by unfold Addr.add; split <;> simp_all
      rwa [e] at this
    · obtain ⟨i, hi, rfl⟩ := List.getElem_of_mem hy
      exact (hE i hi).2
set_option maxRecDepth 100000 in
theorem rs_of_Trod {H : Type} {enc : TypeId × Value → H} {w : World} {base : Nat} {spare : Nat → Bool} {held : Bool} {v : Value} {d : DataW H} {ps : List MemPlace} {b0 : Nat} (h : DataW.Trod enc Try.prog w base spare held 32 v d ps) (ho : Value.okWide Try.prog w .any b0 32 v) :
    ∃ (p : Option Addr) (l c : Nat) (LS : List (List Int)), v = .slice p l c ∧ RdS w p l c LS := by
  obtain ⟨p, l, c, rfl⟩ := okWide_slice Try.underlying32 ho
  obtain ⟨fuel, hf⟩ := h
  rcases Go.Deep.open_slice1 Try.underlying32 (by kernel_rfl) (by simpa [Value.cells] using hf) with ⟨hc, _⟩ | ⟨a, len, cap, m, n, V, D, Pl, hc, _, hl, hm, hmm, _, hx⟩
  · simp only [List.cons.injEq, Value.slice.injEq, and_true] at hc
    obtain ⟨rfl, rfl, rfl⟩ := hc
    exact ⟨none, 0, 0, [], rfl, rfl, Nat.le_refl _, Nat.zero_le _, fun h => absurd h (Nat.lt_irrefl _)⟩
  · simp only [List.cons.injEq, Value.slice.injEq, and_true] at hc
    obtain ⟨rfl, rfl, rfl⟩ := hc
    have hml : l ≤ m := by rw [hmm]; split <;> omega
    have fl : ∀ i, i < l → ∃ X : List Int, ∃ q m d, w.cell? (a.add i) = some (.slice q m d) ∧ RdB w q m d X ∧ By X := by
      intro i hi
      obtain ⟨h1, h2⟩ := hx i (by omega)
      obtain ⟨q, m', d', X, hv, hr, hB⟩ := rd_of_trod1 h2
      rw [hv] at h1
      exact ⟨X, q, m', d', h1, hr, hB⟩
    obtain ⟨LS, hL, hE⟩ := list_ofB l fl
    refine ⟨some a, l, c, LS, rfl, hL, hl, hm, fun hl0 => ?_⟩
    obtain ⟨_, _, _, h0, _⟩ := hE 0 (by omega)
    have hs := spot_none h0
    obtain ⟨b, off, spot⟩ := a
    subst hs
    refine ⟨b, off, rfl, fun i hi => ?_⟩
    obtain ⟨q, m', d', h1, hr, hB⟩ := hE i hi
    have e : (Addr.add ⟨b, off, none⟩ i) = ⟨b, off + i, none⟩ := by unfold Addr.add; split <;> simp_all
    rw [e] at h1
    exact ⟨q, m', d', h1, hr, hB⟩
end Num
end Go.Proofs.Ythjjakpjanoamaa
