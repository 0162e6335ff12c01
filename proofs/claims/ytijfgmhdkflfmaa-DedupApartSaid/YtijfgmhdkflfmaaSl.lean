/-
  What note changes; where a Seq stands; the ids that go.
-/
import Derived.Test.YtijfgmhdkflfmaaSk
import Derived.Test.YtijfgmhdkflfmaaSi
import Derived.Test.YtijfgmhdkflfmaaSe
namespace Go.Proofs.Ytijfgmhdkflfmaa
open Go.RowKit
namespace Num
open Ints
set_option linter.unusedSimpArgs false
set_option linter.unusedVariables false
theorem pos_spec : ∀ (L : List CE) (s : Int), (L.map (·.s)).Pairwise (· < ·) → posL (datL L) s ≤ L.length ∧ ∀ t (h : t < L.length), decide (L[t].s < s) = decide (t < posL (datL L) s)
  | [], s, _ => ⟨Nat.zero_le _, fun t h => absurd h (Nat.not_lt_zero _)⟩
  | y :: L, s, h => by
    rw [List.map_cons, List.pairwise_cons] at h
    obtain ⟨h1, h2⟩ := h
    obtain ⟨i1, i2⟩ := pos_spec L s h2
    by_cases hy : y.s < s
    · have e : posL (datL (y :: L)) s = posL (datL L) s + 1 := by
        unfold posL datL
        rw [List.map_cons, List.countP_cons_of_pos (by simpa using hy)]
      rw [e]
      refine ⟨by rw [List.length_cons]; omega, fun t ht => ?_⟩
      cases t with
      | zero => simp [hy]
      | succ t =>
        rw [List.getElem_cons_succ, i2 t (by rw [List.length_cons] at ht; omega)]
        simp
    · have e0 : ∀ t (ht : t < L.length), ¬ L[t].s < s := fun t ht hlt => by
        have := h1 L[t].s (List.mem_map.2 ⟨L[t], List.getElem_mem ht, rfl⟩)
        omega
      have e : posL (datL (y :: L)) s = 0 := by
        unfold posL datL
        rw [List.countP_eq_zero]
        intro z hz
        obtain ⟨y', hy', rfl⟩ := List.mem_map.1 hz
        rcases List.mem_cons.1 hy' with rfl | hy'
        · simpa using hy
        · obtain ⟨t, ht, rfl⟩ := List.getElem_of_mem hy'
          simpa using e0 t ht
      rw [e]
      refine ⟨Nat.zero_le _, fun t ht => ?_⟩
      cases t with
      | zero => simpa using hy
      | succ t =>
        rw [List.getElem_cons_succ]
        simpa using e0 t (by rw [List.length_cons] at ht; omega)
theorem delR_sub {n : Nat} : ∀ (ids : List DId) (R : List (RE n)) (r : RE n), r ∈ delR R ids → r ∈ R
  | [], R, r, h => h
  | x :: ids, R, r, h => List.mem_of_mem_eraseP (delR_sub ids (R.eraseP (fun r => decide (x = r.x))) r h)
/-- Where a client's calls lie. -/
def InK (o : Option KE) (b : Nat) : Prop := ∃ k, o = some k ∧ (b = k.b ∨ ∃ y ∈ k.L, b = y.ib)
/-- Nothing has turned but the two maps, and one client's calls. -/
structure Chg (mr mc : Nat) (o : Option KE) (w w' : World) : Prop where
  os : w'.os = w.os
  tape : w'.tape = w.tape
  output : w'.output = w.output
  size : w.heap.size ≤ w'.heap.size
  block : ∀ b, b < w.heap.size → b ≠ mr → b ≠ mc → ¬ InK o b → w'.heap[b]? = w.heap[b]?
theorem chg_bel {mr mc : Nat} {o : Option KE} {w w' : World} (h : Below w.heap.size w w') : Chg mr mc o w w' := ⟨h.os, h.tape, h.output, h.size, fun b hb _ _ _ => h.block b hb⟩
theorem chg_trans {mr mc : Nat} {o : Option KE} {x y z : World} (h : Chg mr mc o x y) (k : Chg mr mc o y z) : Chg mr mc o x z := ⟨k.os.trans h.os, k.tape.trans h.tape, k.output.trans h.output, Nat.le_trans h.size k.size, fun b h1 h2 h3 h4 => (k.block b (Nat.lt_of_lt_of_le h1 h.size) h2 h3 h4).trans (h.block b h1 h2 h3 h4)⟩
theorem chg_grown {mr mc : Nat} {o : Option KE} {w w' : World} {row : Option Nat} (h : w.grownBy w' row) (hr : ∀ b, row = some b → b < w.heap.size → b = mr ∨ b = mc ∨ InK o b) : Chg mr mc o w w' :=
  ⟨h.os, h.tape, h.output, h.size, fun b h1 h2 h3 h4 => h.block b h1 (fun e => by rcases hr b e.symm h1 with e | e | e; exact h2 e; exact h3 e; exact h4 e)⟩
theorem chg_drew {mr mc : Nat} {o : Option KE} {x y : World} (h : Chg mr mc o x y) : Chg mr mc o x y.drew := ⟨h.os, h.tape, h.output, h.size, h.block⟩
theorem chg_mp {mr mc : Nat} {o : Option KE} {x y : World} (h : Chg mr mc o x y) (b : Nat) (hb : b = mr ∨ b = mc) (es : Array MapEntry) (ck : Nat) : Chg mr mc o x (mpD y b es ck) :=
  ⟨h.os, h.tape, h.output, by show _ ≤ (y.heap.setIfInBounds b _).size; rw [Array.size_setIfInBounds]; exact h.size, fun k h1 h2 h3 h4 => (mpD_other (by rcases hb with rfl | rfl; exact h2; exact h3) _ _).trans (h.block k h1 h2 h3 h4)⟩
/-- What note comes to: the client's calls anew, the replies that go; nothing else has turned. -/
def NoteP (n : Nat) (w : World) (tb mr mc : Nat) (R : List (RE n)) (C : List KE) (x : DId) (w' : World) : Prop :=
  ∃ k2 : KE, k2.c = x.1 ∧ datL k2.L = (noteL (datL ((getC C x.1).elim [] (·.L))) x).1 ∧ TabG n w' tb mr mc (delR R (noteL (datL ((getC C x.1).elim [] (·.L))) x).2) (setC C k2) ∧ Chg mr mc (getC C x.1) w w' ∧ ∀ b, InK (some k2) b → w.heap.size ≤ b ∨ InK (getC C x.1) b
theorem chg_fr {n : Nat} {w w' : World} {tb mr mc : Nat} {C : List KE} {c : Int} (h : Chg mr mc (getC C c) w w') : ∀ b, b < w.heap.size → b ≠ mr → b ≠ mc → (∀ k, getC C c = some k → b ≠ k.b ∧ ∀ y ∈ k.L, b ≠ y.ib) → w'.heap[b]? = w.heap[b]? :=
  fun b h1 h2 h3 h4 => h.block b h1 h2 h3 (fun ⟨k, hk, hb⟩ => by
    obtain ⟨e1, e2⟩ := h4 k hk
    rcases hb with hb | ⟨y, hy, hb⟩
    · exact e1 hb
    · exact e2 y hy hb)
end Num
end Go.Proofs.Ytijfgmhdkflfmaa
