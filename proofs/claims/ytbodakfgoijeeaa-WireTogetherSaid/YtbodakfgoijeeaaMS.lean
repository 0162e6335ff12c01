/-
  The survey of package value, its memo kept: what it measures of a value that a call made (each list in a block of its own): any number of parts.
-/
import Derived.Test.YtbodakfgoijeeaaMP
import Derived.Test.YtbodakfgoijeeaaVSurl
namespace Go.Proofs.Ytbodakfgoijeeaa
open Go.RowKit
namespace Num
open Ints
set_option linter.unusedSimpArgs false
set_option linter.unusedVariables false
/-- A value's measure, as a walk takes it that stops at 64 lists in one another. -/
def measD : (n : Nat) → Nat → VT n → Me
  | 0, _, _ => (false, false, 0, 0)
  | n + 1, lev, T => if (T.1 == 0) = true then (false, false, 0, 1) else if (T.1 == 1 || T.1 == 2) = true then (false, false, 0, 9)
      else if (T.1 == 3) = true then (false, decide (256 < (T.2.2.2.1.size : Int)), 0, wrap64 (3 + (T.2.2.2.1.size : Int)))
      else if (T.1 == 4) = true then (if 64 < lev + 1 then (false, decide (64 < (T.2.2.2.2.length : Int)), 1, 2) else T.2.2.2.2.foldl (fun a x => withM a (measD n (lev + 1) x)) (false, decide (64 < (T.2.2.2.2.length : Int)), 1, 2)) else (true, false, 0, 1)
/-- A list's. -/
def measDL (n lev : Nat) (L : List (VT n)) : Me := if 64 < lev then (false, decide (64 < (L.length : Int)), 1, 2) else L.foldl (fun a x => withM a (measD n lev x)) (false, decide (64 < (L.length : Int)), 1, 2)
section
variable {n lev : Nat} {K I : Int} {F : Nat} {S : ByteArray} {L : List (VT n)}
theorem measD_nil (h : (K == 0) = true) : measD (n + 1) lev (K, I, F, S, L) = (false, false, 0, 1) := by
  show (if (K == 0) = true then _ else _) = _
  rw [if_pos h]
theorem measD_num (h0 : (K == 0) = false) (h : (K == 1 || K == 2) = true) : measD (n + 1) lev (K, I, F, S, L) = (false, false, 0, 9) := by
  show (if (K == 0) = true then _ else if (K == 1 || K == 2) = true then _ else _) = _
  rw [if_neg (by rw [h0]; simp), if_pos h]
theorem measD_text (h0 : (K == 0) = false) (h : (K == 1 || K == 2) = false) (h3 : (K == 3) = true) : measD (n + 1) lev (K, I, F, S, L) = (false, decide (256 < (S.size : Int)), 0, wrap64 (3 + (S.size : Int))) := by
  show (if (K == 0) = true then _ else if (K == 1 || K == 2) = true then _ else if (K == 3) = true then _ else _) = _
  rw [if_neg (by rw [h0]; simp), if_neg (by rw [h]; simp), if_pos h3]
theorem measD_list (h0 : (K == 0) = false) (h : (K == 1 || K == 2) = false) (h3 : (K == 3) = false) (h4 : (K == 4) = true) : measD (n + 1) lev (K, I, F, S, L) = measDL n (lev + 1) L := by
  show (if (K == 0) = true then _ else if (K == 1 || K == 2) = true then _ else if (K == 3) = true then _ else if (K == 4) = true then _ else _) = _
  rw [if_neg (by rw [h0]; simp), if_neg (by rw [h]; simp), if_neg (by rw [h3]; simp), if_pos h4]
  rfl
theorem measD_else (h0 : (K == 0) = false) (h : (K == 1 || K == 2) = false) (h3 : (K == 3) = false) (h4 : (K == 4) = false) : measD (n + 1) lev (K, I, F, S, L) = (true, false, 0, 1) := by
  show (if (K == 0) = true then _ else if (K == 1 || K == 2) = true then _ else if (K == 3) = true then _ else if (K == 4) = true then _ else _) = _
  rw [if_neg (by rw [h0]; simp), if_neg (by rw [h]; simp), if_neg (by rw [h3]; simp), if_neg (by rw [h4]; simp)]
end
/-- What a walk leaves: new blocks, the survey, the memo. -/
structure Kp (w w' : World) (sb : Nat) (mv : Value) : Prop where
  os : w'.os = w.os
  tape : w'.tape = w.tape
  output : w'.output = w.output
  size : w.heap.size ≤ w'.heap.size
  block : ∀ k, k < w.heap.size → k ≠ sb → mv ≠ .map (some k) → w'.heap[k]? = w.heap[k]?
/-- The memo stays, or is laid. -/
def MvTo (w : World) (mv mv' : Value) : Prop := mv' = mv ∨ (mv = .map none ∧ ∃ mb, mv' = .map (some mb) ∧ w.heap.size ≤ mb)
/-- The survey's memo holds lists in blocks of F, as w0 had them. -/
def MvIs (w0 w : World) (sb : Nat) (mv : Value) (F : Nat → Prop) : Prop := mv = .map none ∨ ∃ mb es ck, mv = .map (some mb) ∧ w0.heap.size ≤ mb ∧ mb ≠ sb ∧ w.heap[mb]? = some (.map es ck) ∧ MemoO w0 es.toList F
def MvAt (w0 w : World) (sb : Nat) (vis : Int) (mv : Value) (F : Nat → Prop) : Prop := w.heap[sb]? = some (.cells #[.int .i64 vis, mv] 80 (0, 0)) ∧ MvIs w0 w sb mv F
def SvR (w0 w w' : World) (sb : Nat) (mv : Value) (vis : Int) (k : Nat) (F : Nat → Prop) : Prop := Kp w w' sb mv ∧ ∃ vis' mv', vis ≤ vis' ∧ vis' ≤ vis + k ∧ MvTo w mv mv' ∧ MvAt w0 w' sb vis' mv' F
theorem kp_refl (w : World) (sb : Nat) (mv : Value) : Kp w w sb mv := ⟨rfl, rfl, rfl, Nat.le_refl _, fun _ _ _ _ => rfl⟩
theorem kp_trans {w w1 w2 : World} {sb : Nat} {mv mv1 : Value} (h : Kp w w1 sb mv) (hm : MvTo w mv mv1) (k : Kp w1 w2 sb mv1) : Kp w w2 sb mv :=
  ⟨k.os.trans h.os, k.tape.trans h.tape, k.output.trans h.output, Nat.le_trans h.size k.size, fun i hi hs hv => (k.block i (Nat.lt_of_lt_of_le hi h.size) hs (by
    rcases hm with e | ⟨e, mb, e', hle⟩
    · rw [e]; exact hv
    · rw [e']; intro h2; injection h2 with h2; injection h2 with h2; omega)).trans (h.block i hi hs hv)⟩
theorem mvto_trans {w w1 : World} {mv mv1 mv2 : Value} (h : MvTo w mv mv1) (hs : w.heap.size ≤ w1.heap.size) (k : MvTo w1 mv1 mv2) : MvTo w mv mv2 := by
  rcases k with e | ⟨e, mb, e', hle⟩
  · rw [e]; exact h
  · rcases h with e1 | ⟨_, mb1, e1, _⟩
    · exact Or.inr ⟨e1 ▸ e, mb, e', by omega⟩
    · rw [e] at e1; cases e1
theorem kp_alloc {w w1 : World} {sb : Nat} {mv : Value} (h : Kp w w1 sb mv) (o : Obj) : Kp w (w1.alloc o) sb mv :=
  ⟨h.os, h.tape, h.output, Nat.le_trans h.size (by rw [World.size_alloc]; omega), fun k hk hs hv => (Below.heap_alloc _ _ _ (Nat.lt_of_lt_of_le hk h.size)).trans (h.block k hk hs hv)⟩
theorem kp_drew {w w1 : World} {sb : Nat} {mv : Value} (h : Kp w w1 sb mv) : Kp w w1.drew sb mv := ⟨h.os, h.tape, h.output, h.size, h.block⟩
theorem kp_bel {w w1 w2 : World} {sb : Nat} {mv : Value} (h : Kp w w1 sb mv) (hb : Below w1.heap.size w1 w2) : Kp w w2 sb mv :=
  ⟨hb.os.trans h.os, hb.tape.trans h.tape, hb.output.trans h.output, Nat.le_trans h.size hb.size, fun k hk hs hv => (hb.block k (Nat.lt_of_lt_of_le hk h.size)).trans (h.block k hk hs hv)⟩
theorem kp_set {w w1 : World} {sb : Nat} {mv : Value} (h : Kp w w1 sb mv) {b : Nat} (hb : b = sb ∨ w.heap.size ≤ b) (o : Nat) (v : Value) : Kp w (w1.setCell ⟨b, o, none⟩ v) sb mv :=
  ⟨h.os, h.tape, h.output, by simpa using h.size, fun k hk hs hv => (Below.heap_setCell _ _ _ _ (by show k ≠ b; rcases hb with e | e <;> omega)).trans (h.block k hk hs hv)⟩
theorem mvis_keep {w0 w w' : World} {sb : Nat} {mv : Value} {F : Nat → Prop} (h : MvIs w0 w sb mv F) (hk : ∀ k, k < w.heap.size → k ≠ sb → w'.heap[k]? = w.heap[k]?) : MvIs w0 w' sb mv F := by
  rcases h with e | ⟨mb, es, ck, e, h1, h2, h3, h4⟩
  · exact Or.inl e
  · exact Or.inr ⟨mb, es, ck, e, h1, h2, (hk mb (row_lt h3) h2).trans h3, h4⟩
theorem mvat_bel {w0 w w' : World} {sb : Nat} {vis : Int} {mv : Value} {F : Nat → Prop} (h : MvAt w0 w sb vis mv F) (hb : Below w.heap.size w w') : MvAt w0 w' sb vis mv F :=
  ⟨row_step h.1 hb, mvis_keep h.2 (fun k hk _ => hb.block k hk)⟩
theorem mvat_alloc {w0 w : World} {sb : Nat} {vis : Int} {mv : Value} {F : Nat → Prop} (h : MvAt w0 w sb vis mv F) (o : Obj) : MvAt w0 (w.alloc o) sb vis mv F := mvat_bel h ((Below.refl _ _).alloc (Nat.le_refl _) o)
theorem mvat_drew {w0 w : World} {sb : Nat} {vis : Int} {mv : Value} {F : Nat → Prop} (h : MvAt w0 w sb vis mv F) : MvAt w0 w.drew sb vis mv F := h
theorem mvat_mono {w0 w : World} {sb : Nat} {vis : Int} {mv : Value} {F F' : Nat → Prop} (hF : ∀ b, F b → F' b) (h : MvAt w0 w sb vis mv F) : MvAt w0 w sb vis mv F' := by
  obtain ⟨h1, h2⟩ := h
  refine ⟨h1, ?_⟩
  rcases h2 with e | ⟨mb, es, ck, e, k1, k2, k3, k4⟩
  · exact Or.inl e
  · exact Or.inr ⟨mb, es, ck, e, k1, k2, k3, fun x hx => by obtain ⟨a, m, m1, m2, m3⟩ := k4 x hx; exact ⟨a, m, m1, hF _ m2, m3⟩⟩
theorem mvat_set {w0 w : World} {sb : Nat} {vis : Int} {mv : Value} {F : Nat → Prop} (h : MvAt w0 w sb vis mv F) {b : Nat} (hs : sb ≠ b) (hm : mv ≠ .map (some b)) (o : Nat) (v : Value) : MvAt w0 (w.setCell ⟨b, o, none⟩ v) sb vis mv F := by
  obtain ⟨h1, h2⟩ := h
  refine ⟨(Below.heap_setCell _ _ _ _ hs).trans h1, ?_⟩
  rcases h2 with e | ⟨mb, es, ck, e, k1, k2, k3, k4⟩
  · exact Or.inl e
  · exact Or.inr ⟨mb, es, ck, e, k1, k2, (Below.heap_setCell _ _ _ _ (by show mb ≠ b; intro h; exact hm (by rw [e, h]))).trans k3, k4⟩
theorem mvat_start {w0 w : World} {sb : Nat} {vis : Int} {mv : Value} {F : Nat → Prop} (h : MvAt w0 w sb vis mv F) (vis' : Int) : MvAt w0 (w.setCell ⟨sb, 0, none⟩ (.int .i64 vis')) sb vis' mv F := by
  obtain ⟨h1, h2⟩ := h
  exact ⟨setCell_row h1 _, mvis_keep h2 (fun k hk hs => Below.heap_setCell _ _ _ _ hs)⟩
/-- The memo's block is of the calls' own. -/
theorem mv_own {w0 w : World} {sb : Nat} {vis : Int} {mv : Value} {F : Nat → Prop} (h : MvAt w0 w sb vis mv F) : (∀ k, mv = .map (some k) → w0.heap.size ≤ k ∧ k < w.heap.size) := by
  intro k e
  rcases h.2 with e' | ⟨mb, es, ck, e', h1, h2, h3, h4⟩
  · rw [e] at e'; cases e'
  · rw [e] at e'; cases e'; exact ⟨h1, row_lt h3⟩
theorem kp_below {w0 w w' : World} {sb : Nat} {vis : Int} {mv : Value} {F : Nat → Prop} (hB : Below w0.heap.size w0 w) (hs : w0.heap.size ≤ sb) (h : MvAt w0 w sb vis mv F) (k : Kp w w' sb mv) : Below w0.heap.size w0 w' :=
  ⟨k.os.trans hB.os, k.tape.trans hB.tape, k.output.trans hB.output, Nat.le_trans hB.size k.size, fun i hi => (k.block i (Nat.lt_of_lt_of_le hi hB.size) (by omega) (fun e => by have := (mv_own h i e).1; omega)).trans (hB.block i hi)⟩
theorem svr_set4 {w0 w w1 : World} {sb : Nat} {mv : Value} {vis : Int} {k : Nat} {F : Nat → Prop} (h : SvR w0 w w1 sb mv vis k F) {nb : Nat} (hn : w.heap.size ≤ nb) (hs : sb ≠ nb) (hmv : ∀ cs t, w1.heap[nb]? ≠ some (.map cs t)) (v0 v1 v2 v3 : Value) :
    SvR w0 w ((((w1.setCell ⟨nb, 0, none⟩ v0).setCell ⟨nb, 1, none⟩ v1).setCell ⟨nb, 2, none⟩ v2).setCell ⟨nb, 3, none⟩ v3) sb mv vis k F := by
  obtain ⟨hk, vis', mv', a, b, c, d⟩ := h
  have hne : mv' ≠ .map (some nb) := by
    intro e
    rcases d.2 with e' | ⟨mb, es, ck, e', h1, h2, h3, h4⟩
    · rw [e] at e'; cases e'
    · rw [e] at e'; cases e'; exact hmv _ _ h3
  exact ⟨kp_set (kp_set (kp_set (kp_set hk (Or.inr hn) _ _) (Or.inr hn) _ _) (Or.inr hn) _ _) (Or.inr hn) _ _, vis', mv', a, b, c, mvat_set (mvat_set (mvat_set (mvat_set d hs hne _ _) hs hne _ _) hs hne _ _) hs hne _ _⟩
theorem svr_trans {w0 w W w1 : World} {sb : Nat} {mv : Value} {vis : Int} {k j : Nat} {F : Nat → Prop} (hg : Kp w W sb mv) (h : SvR w0 W w1 sb mv (vis + j) k F) : SvR w0 w w1 sb mv vis (k + j) F := by
  obtain ⟨hk, vis', mv', a, b, c, d⟩ := h
  exact ⟨kp_trans hg (Or.inl rfl) hk, vis', mv', by omega, by omega, mvto_trans (Or.inl rfl) hg.size c, d⟩
end Num
end Go.Proofs.Ytbodakfgoijeeaa
