/-
  WireNumbers, at every reading of its arguments.
-/
import Derived.Test.YtahcgdjcjapnkaaWH
import Derived.Deep.Slices
import Derived.ProofKit
namespace Go.Proofs.Ytahcgdjcjapnkaa
open Go.RowKit Go.ChangeShapes Go.WideShapes
namespace Num
open Ints
set_option linter.unusedSimpArgs false
set_option linter.unusedVariables false
theorem rd_of_Trod {H : Type} {enc : TypeId × Value → H} {w : World} {base : Nat} {spare : Nat → Bool} {held : Bool} {v : Value} {d : DataW H} {ps : List MemPlace} {b0 : Nat} (h : DataW.Trod enc Try.prog w base spare held 22 v d ps) (ho : Value.okWide Try.prog w .any b0 22 v) :
    ∃ (p : Option Addr) (l c : Nat) (X : List Int), v = .slice p l c ∧ RdB w p l c X ∧ By X := by
  obtain ⟨p, l, c, rfl⟩ := okWide_slice Try.underlying22 ho
  obtain ⟨fuel, hf⟩ := h
  rcases Go.Deep.open_slice1 Try.underlying22 (by kernel_rfl) (by simpa [Value.cells] using hf) with ⟨hc, _⟩ | ⟨a, len, cap, m, n, V, D, Pl, hc, _, hl, hm, hmm, _, hx⟩
  · simp only [List.cons.injEq, Value.slice.injEq, and_true] at hc
    obtain ⟨rfl, rfl, rfl⟩ := hc
    exact ⟨none, 0, 0, [], rfl, rd_nil w, fun y hy => by cases hy⟩
  · simp only [List.cons.injEq, Value.slice.injEq, and_true] at hc
    obtain ⟨rfl, rfl, rfl⟩ := hc
    have hml : l ≤ m := by rw [hmm]; split <;> omega
    have fl : ∀ i, i < l → ∃ y : Int, w.cell? (a.add i) = some (.int .u8 y) ∧ 0 ≤ y ∧ y < 256 := by
      intro i hi
      obtain ⟨h1, h2⟩ := hx i (by omega)
      obtain ⟨y, hy1, _, hy2⟩ := DataW.trod_int Try.underlying5 h2
      simp only [List.cons.injEq, and_true] at hy1
      rw [hy1] at h1
      refine ⟨y, h1, ?_⟩
      simp only [Lit.wf, decide_eq_true_eq, IntKind.min, IntKind.max] at hy2
      have h3 : IntKind.u8.bits = 8 := rfl
      simp [IntKind.signed, h3] at hy2
      omega
    obtain ⟨L, hL, hE⟩ := list_of l fl
    refine ⟨some a, l, c, L, rfl, ⟨hL, hl, hm, fun hl0 => ?_, fun e => by cases e⟩, fun y hy => ?_⟩
    · obtain ⟨b, off, spot⟩ := a
      have h0 := (hE 0 (by omega)).1
      have hspot : spot = none := by
        simp only [Addr.add, if_true] at h0
        cases hs : spot with
        | none => rfl
        | some z =>
          rw [hs] at h0
          simp [World.cell?] at h0
          split at h0 <;> simp_all
      subst hspot
      refine ⟨b, off, rfl, fun i hi => ?_⟩
      have := (hE i hi).1
      have e : (Addr.add ⟨b, off, none⟩ i) = ⟨b, off + i, none⟩ := by unfold Addr.add; split <;> simp_all
      rwa [e] at this
    · obtain ⟨i, hi, rfl⟩ := List.getElem_of_mem hy
      exact (hE i hi).2
theorem numbers_law {H : Type} {enc : TypeId × Value → H} {W : World} {v : Value} {d : DataW H} {ps : List MemPlace} {b0 : Nat} (h : DataW.Trod enc Try.prog W 0 (fun _ => true) true 22 v d ps) (ho : Value.okWide Try.prog W .any b0 22 v)
    (u : Int) (hu : (Lit.int .u64 u).wf = true) (n : Int) (_ : (Lit.int .i64 n).wf = true) (s : ByteArray) (hs : s.size ≤ maxLen) (most : Int) (_ : (Lit.int .i64 most).wf = true) :
    Calls Try.prog 5 #[v, .int .u64 u, .int .i64 n, .string s, .int .i64 most] W fun e w' => e = .returned (.bool true) ∧ Below W.heap.size W w' := by
  obtain ⟨p, l, c, X, rfl, hb, hX⟩ := rd_of_Trod h ho
  unfold maxLen at hs
  simp only [Lit.wf, decide_eq_true_eq, IntKind.min, IntKind.max] at hu
  have h1 : IntKind.u64.bits = 64 := rfl
  simp [IntKind.signed, h1] at hu
  by_cases hbig : 100 < l ∨ 300 < s.size
  · exact numbers_big W p l c X u n most s hb (by omega) hbig
  · rcases rd_p hb with ⟨rfl, rfl, rfl⟩ | ⟨ad, rfl⟩
    · exact numbers_nil W X u n most s hb hX (by omega) (by omega) (by omega)
    · exact numbers_some W ad l c X u n most s hb hX (by omega) (by omega) (by omega) (by omega)
end Num
end Go.Proofs.Ytahcgdjcjapnkaa
