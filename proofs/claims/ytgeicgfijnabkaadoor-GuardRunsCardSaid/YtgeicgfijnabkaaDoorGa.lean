/-
  What a closure may turn; panics of the language, with the world told.
-/
import Derived.Test.YtgeicgfijnabkaaDoorHQ
import Derived.Test.YtgeicgfijnabkaaDoorInts
import Derived.Laws.Panics
import Derived.Laws.PanicsMore
namespace Go.Proofs.YtgeicgfijnabkaaDoor
open Go.RowKit
namespace Num
open Ints
set_option linter.unusedSimpArgs false
set_option linter.unusedVariables false
/-- Nothing that was there has turned but blocks of the list. -/
structure Kept (l : List Nat) (w w' : World) : Prop where
  os : w'.os = w.os
  tape : w'.tape = w.tape
  output : w'.output = w.output
  size : w.heap.size ≤ w'.heap.size
  block : ∀ k, k < w.heap.size → k ∉ l → w'.heap[k]? = w.heap[k]?
theorem kept_below {l : List Nat} {w w' : World} (h : Below w.heap.size w w') : Kept l w w' := ⟨h.os, h.tape, h.output, h.size, fun k hk _ => h.block k hk⟩
theorem kept_refl (l : List Nat) (w : World) : Kept l w w := kept_below (Below.refl _ _)
theorem kept_trans {l : List Nat} {a b c : World} (h : Kept l a b) (k : Kept l b c) : Kept l a c :=
  ⟨k.os.trans h.os, k.tape.trans h.tape, k.output.trans h.output, Nat.le_trans h.size k.size, fun i hi hn => (k.block i (Nat.lt_of_lt_of_le hi h.size) hn).trans (h.block i hi hn)⟩
theorem kept_step {l : List Nat} {a b c : World} (h : Kept l a b) (k : Below b.heap.size b c) : Kept l a c := kept_trans h (kept_below k)
theorem kept_sub {l l' : List Nat} {a b : World} (h : Kept l a b) (hl : ∀ k ∈ l, k ∈ l' ∨ a.heap.size ≤ k) : Kept l' a b :=
  ⟨h.os, h.tape, h.output, h.size, fun k hk hn => h.block k hk (fun hm => (hl k hm).elim hn (fun hg => by omega))⟩
theorem kept_set {l : List Nat} {a w : World} {b o : Nat} {v : Value} (h : Kept l a w) (hb : b ∈ l ∨ a.heap.size ≤ b) : Kept l a (w.setCell ⟨b, o, none⟩ v) :=
  have h0 := Below.setCell (Below.refl 0 w) (p := ⟨b, o, none⟩) (Nat.zero_le _) v
  ⟨h0.os.trans h.os, h0.tape.trans h.tape, h0.output.trans h.output, Nat.le_trans h.size h0.size, fun k hk hn => (Below.heap_setCell _ _ _ _ (fun e => by
    have e' : k = b := e
    subst e'
    exact hb.elim hn (fun hg => by omega))).trans (h.block k hk hn)⟩
theorem kept_set5 {l : List Nat} {a w : World} {b o : Nat} (u0 u1 u2 u3 u4 : Value) (h : Kept l a w) (hb : b ∈ l ∨ a.heap.size ≤ b) : Kept l a (set5 w b o u0 u1 u2 u3 u4) :=
  kept_set (kept_set (kept_set (kept_set (kept_set h hb) hb) hb) hb) hb
theorem kept_bel {l : List Nat} {B : Nat} {a b : World} (h : Kept l a b) (hl : ∀ k ∈ l, B ≤ k) (hB : B ≤ a.heap.size) : Below B a b :=
  ⟨h.os, h.tape, h.output, h.size, fun k hk => h.block k (Nat.lt_of_lt_of_le hk hB) (fun hm => by have := hl k hm; omega)⟩
theorem kept_row {l : List Nat} {w w' : World} {b : Nat} {o : Obj} (h : Kept l w w') (hr : w.heap[b]? = some o) (hn : b ∉ l) : w'.heap[b]? = some o := (h.block b (row_lt hr) hn).trans hr
/-- What blocks from B on, stored into, and new blocks, don't turn. -/
def Stab (B : Nat) (Q : World → Prop) : Prop := (∀ W b o v, B ≤ b → Q W → Q (W.setCell ⟨b, o, none⟩ v)) ∧ (∀ W W', Below W.heap.size W W' → Q W → Q W')
theorem stab_mono {B B' : Nat} {Q : World → Prop} (h : Stab B Q) (hB : B ≤ B') : Stab B' Q := ⟨fun W b o v hb hq => h.1 W b o v (Nat.le_trans hB hb) hq, h.2⟩
theorem stab_true (B : Nat) : Stab B (fun _ => True) := ⟨fun _ _ _ _ _ _ => trivial, fun _ _ _ _ => trivial⟩
theorem stab_and {B : Nat} {Q R : World → Prop} (h : Stab B Q) (k : Stab B R) : Stab B (fun W => Q W ∧ R W) := ⟨fun W b o v hb hq => ⟨h.1 W b o v hb hq.1, k.1 W b o v hb hq.2⟩, fun W W' hb hq => ⟨h.2 W W' hb hq.1, k.2 W W' hb hq.2⟩⟩
theorem cell_set_same {w : World} {b o : Nat} {v x : Value} (h : w.cell? ⟨b, o, none⟩ = some x) : (w.setCell ⟨b, o, none⟩ v).cell? ⟨b, o, none⟩ = some v := by simp [World.cell?_setCell_same, h]
theorem cell_set_other {w : World} {b b' o o' : Nat} {v : Value} (h : b ≠ b') : (w.setCell ⟨b', o', none⟩ v).cell? ⟨b, o, none⟩ = w.cell? ⟨b, o, none⟩ := World.cell?_of_block (Below.heap_setCell _ _ _ _ (by exact h))
theorem stab_cell {B b o : Nat} {x : Value} (hb : b < B) : Stab B (fun W => W.cell? ⟨b, o, none⟩ = some x) :=
  ⟨fun W c o' v hc h => (cell_set_other (by omega)).trans h, fun W W' hbw h => (hbw.cell (p := ⟨b, o, none⟩) (by
    unfold World.cell? at h
    have : b < W.heap.size := by
      rcases Nat.lt_or_ge b W.heap.size with hl | hl
      · exact hl
      · have hn : W.heap[b]? = none := by simpa using hl
        simp [hn] at h
    exact this)).trans h⟩
theorem set5_stab {B g o : Nat} {Q : World → Prop} {W : World} (h : Stab B Q) (hg : B ≤ g) (u0 u1 u2 u3 u4 : Value) (hq : Q W) : Q (set5 W g o u0 u1 u2 u3 u4) :=
  h.1 _ _ _ _ hg (h.1 _ _ _ _ hg (h.1 _ _ _ _ hg (h.1 _ _ _ _ hg (h.1 _ _ _ _ hg hq))))
theorem bounds_own {P : Program} {w : World} {α : Type} (k : IntKind) (x y : Int) (code : BoundsCode) :
    ∃ s w', (boundsPanic k x y code : Sem α).run P w = .halt (.panic (boundsValue P (IntKind.i64.wrap x) y s code.toNat)) w' ∧ (w' = w ∨ w' = w.drew) := by
  unfold boundsPanic boundsValue
  split
  · refine ⟨_, _, by simp only [runtimePanic, goPanic, go_sem]; rfl, Or.inr rfl⟩
  · refine ⟨_, _, by simp only [runtimePanic, goPanic, go_sem]; rfl, Or.inl rfl⟩
theorem index_own {P : Program} {w : World} (t : TypeId) (a : Addr) (len cap : Nat) (k : IntKind) (i : Int) (h : P.underlying t = some (.slice (P.elem t))) (ho : i < 0 ∨ (len : Int) ≤ i) :
    ∃ s w', (Instr.indexAt t (.slice (some a) len cap) (.int k i)).run P w = .halt (.panic (boundsValue P (IntKind.i64.wrap i) len s 0)) w' ∧ (w' = w ∨ w' = w.drew) := by
  rw [run_indexAt_slice (h := h), if_neg (by omega)]
  exact bounds_own k i len .index
theorem slice_own {P : Program} {w : World} (t : TypeId) (a : Option Addr) (len cap : Nat) (k : IntKind) (l : Int) (h : P.underlying t = some (.slice (P.elem t))) (ho : l < 0 ∨ (len : Int) < l) :
    ∃ s w', (Instr.slice t (.slice a len cap) (some (.int k l)) none none).run P w = .halt (.panic (boundsValue P (IntKind.i64.wrap l) len s 3)) w' ∧ (w' = w ∨ w' = w.drew) := by
  have hn : ¬ (0 ≤ l ∧ l ≤ (len : Int)) := by omega
  obtain ⟨s, w', e, hw⟩ := bounds_own (P := P) (w := w) (α := Nat) k l len .sliceB
  have e1 : (Instr.sliceBound (.int k l) len .sliceB).run P w = (boundsPanic k l len .sliceB : Sem Nat).run P w := by simp [Instr.sliceBound, asIntOf, hn, go_sem]
  refine ⟨s, w', run_slice_of_bounds t _ a len cap (some (.int k l)) none none h ?_, hw⟩
  rw [← e1] at e
  simp [Instr.sliceBounds, go_sem]
  rw [if_neg hn, ← e1, e]
  rfl
end Num
end Go.Proofs.YtgeicgfijnabkaaDoor
