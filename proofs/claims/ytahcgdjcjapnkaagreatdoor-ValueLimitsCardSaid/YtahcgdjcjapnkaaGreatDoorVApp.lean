/-
  A buffer of bytes that the call owns, beside a block of digits: what appends make of it.
-/
import Derived.Test.YtahcgdjcjapnkaaGreatDoorVDig
import Derived.Maps.AppendAt
namespace Go.Proofs.YtahcgdjcjapnkaaGreatDoor
open Go.RowKit
namespace Num
open Ints
set_option linter.unusedSimpArgs false
set_option linter.unusedVariables false
/-- The slice v owns the bytes xs; below W0's end nothing has turned; the digits D lie at the head of block bb, which is not v's. -/
def Bu (W0 w : World) (v : Value) (xs : List Int) (bb : Nat) (D : List UInt8) (N : Nat) : Prop :=
  w.ownsRow W0.heap.size 5 1 v xs.length (xs.map (Value.int .u8)) ∧ Below W0.heap.size W0 w ∧ W0.heap.size ≤ w.heap.size ∧ v.ownBlock ≠ some bb ∧ Digs w bb D ∧ xs.length ≤ N
theorem info_u8 : (Tryz.prog.info? 5).map (fun i => (i.zero, i.size, i.bytes)) = some (some (.int .u8 0), 1, 1) := by kernel_rfl
theorem digs_grown {w w' : World} {bb : Nat} {D : List UInt8} {row : Option Nat} (h : Digs w bb D) (hg : w.grownBy w' row) (hne : some bb ≠ row) : Digs w' bb D := by
  intro i hi
  exact hg.cell (h i hi) hne
theorem digs_alloc {w : World} {bb : Nat} {D : List UInt8} (h : Digs w bb D) (o : Obj) : Digs (w.alloc o) bb D := digs_grown h (World.grownBy_alloc w o none) (by simp)
theorem bu_alloc {W0 w : World} {v : Value} {xs : List Int} {bb : Nat} {D : List UInt8} {N : Nat} (h : Bu W0 w v xs bb D N) (o : Obj) : Bu W0 (w.alloc o) v xs bb D N := by
  obtain ⟨h1, h2, h3, h4, h5, h6⟩ := h
  exact ⟨h1.alloc o, h2.alloc h3 o, by rw [World.size_alloc]; omega, h4, digs_alloc h5 o, h6⟩
theorem bu_drew {W0 w : World} {v : Value} {xs : List Int} {bb : Nat} {D : List UInt8} {N : Nat} (h : Bu W0 w v xs bb D N) : Bu W0 w.drew v xs bb D N := by
  obtain ⟨h1, h2, h3, h4, h5, h6⟩ := h
  exact ⟨h1, ⟨h2.os, h2.tape, h2.output, h2.size, h2.block⟩, h3, h4, h5, h6⟩
/-- What an append leaves. -/
theorem bu_grown {W0 w w' : World} {v v' : Value} {xs ys : List Int} {bb : Nat} {D : List UInt8} {N m : Nat} (h : Bu W0 w v xs bb D N) (hbb : bb < w.heap.size ∨ D = []) (hy : ys.length = m) (ho : w'.ownsRow W0.heap.size 5 1 v' (xs.length + m) (xs.map (Value.int .u8) ++ ys.map (Value.int .u8))) (hg : w.grownBy w' v.ownBlock) (hl : v'.ownBlock = v.ownBlock ∨ v'.ownBlock = some w.heap.size) (hbn : bb ≠ w.heap.size) :
    Bu W0 w' v' (xs ++ ys) bb D (N + m) := by
  obtain ⟨h1, h2, h3, h4, h5, h6⟩ := h
  refine ⟨by rw [List.length_append, hy, List.map_append]; exact ho, ?_, Nat.le_trans h3 hg.size, ?_, digs_grown h5 hg (fun e => h4 e.symm), by rw [List.length_append]; omega⟩
  · exact Below.grown h2 hg h3 (fun k hk => (h1.lt k hk).1)
  · rcases hl with hl | hl
    · rw [hl]; exact h4
    · rw [hl]; intro e; cases e; exact hbn rfl
section
variable {ops : Array Oper} {rest : List Oper} {o : Oper} {a : Act} {Q : Exit → Act → World → Prop}
theorem wp_app1 (hgd : o.guard = none) (s x : Operand) (ho : o.op = .call { callee := .builtin .append, args := #[s, x], argTypes := #[28, 28] })
    (W0 w : World) (v : Value) (xs : List Int) (bb : Nat) (D : List UInt8) (N : Nat) (c0 : Int) (hs : a.eval s = v) (hx : a.eval x = .slice (some ⟨w.heap.size, 0, none⟩) 1 1) (hb : Bu W0 w v xs bb D N) (hbb : bb < w.heap.size) (hN : N ≤ 100000)
    (h : ∀ v' w', Bu W0 w' v' (xs ++ [c0]) bb D (N + 1) → bb < w'.heap.size → wpList Tryz.prog ops Q rest (a.put o.dst v') w') : wpList Tryz.prog ops Q (o :: rest) a (w.alloc (.cells #[.int .u8 c0] 5)) := by
  obtain ⟨i0, hi, hz0, hz1, hz2⟩ := info_parts info_u8
  have hb' := bu_alloc hb (.cells #[.int .u8 c0] 5)
  obtain ⟨h1, h2, h3, h4, h5, h6⟩ := hb'
  refine wpList_append_own_at _ hgd s x 28 ho W0.heap.size 5 i0 (.int .u8 0) 1 1 Tryz.underlying28 hi hz0 hz1 hz2 rfl (by decide) v xs.length (xs.map (Value.int .u8)) hs h1 ⟨w.heap.size, 0, none⟩ 1 1 ([c0].map (Value.int .u8)) hx rfl ?_ (ints_oneCell _ _) (by unfold maxLen; omega) (by omega) h3 ?_
  · intro j u hj
    simp only [List.map_cons, List.map_nil] at hj
    rw [Lib.add_plain, Nat.zero_add, row_cell (row_alloc w #[.int .u8 c0] 5) j, List.getElem?_toArray]
    exact hj
  · intro v' w' hown hg _ hl
    exact h v' w' (bu_grown (bu_alloc hb (.cells #[.int .u8 c0] 5)) (Or.inl (by rw [World.size_alloc]; omega)) rfl hown hg hl (by rw [World.size_alloc]; omega)) (by have := hg.size; rw [World.size_alloc] at this; omega)
theorem wp_app2 (hgd : o.guard = none) (s x : Operand) (ho : o.op = .call { callee := .builtin .append, args := #[s, x], argTypes := #[28, 28] })
    (W0 w : World) (v : Value) (xs : List Int) (bb : Nat) (D : List UInt8) (N : Nat) (c0 c1 : Int) (hs : a.eval s = v) (hx : a.eval x = .slice (some ⟨w.heap.size, 0, none⟩) 2 2) (hb : Bu W0 w v xs bb D N) (hbb : bb < w.heap.size) (hN : N ≤ 100000)
    (h : ∀ v' w', Bu W0 w' v' (xs ++ [c0, c1]) bb D (N + 2) → bb < w'.heap.size → wpList Tryz.prog ops Q rest (a.put o.dst v') w') : wpList Tryz.prog ops Q (o :: rest) a (w.alloc (.cells #[.int .u8 c0, .int .u8 c1] 5)) := by
  obtain ⟨i0, hi, hz0, hz1, hz2⟩ := info_parts info_u8
  have hb' := bu_alloc hb (.cells #[.int .u8 c0, .int .u8 c1] 5)
  obtain ⟨h1, h2, h3, h4, h5, h6⟩ := hb'
  refine wpList_append_own_at _ hgd s x 28 ho W0.heap.size 5 i0 (.int .u8 0) 1 1 Tryz.underlying28 hi hz0 hz1 hz2 rfl (by decide) v xs.length (xs.map (Value.int .u8)) hs h1 ⟨w.heap.size, 0, none⟩ 2 2 ([c0, c1].map (Value.int .u8)) hx rfl ?_ (ints_oneCell _ _) (by unfold maxLen; omega) (by omega) h3 ?_
  · intro j u hj
    simp only [List.map_cons, List.map_nil] at hj
    rw [Lib.add_plain, Nat.zero_add, row_cell (row_alloc w #[.int .u8 c0, .int .u8 c1] 5) j, List.getElem?_toArray]
    exact hj
  · intro v' w' hown hg _ hl
    exact h v' w' (bu_grown (bu_alloc hb (.cells #[.int .u8 c0, .int .u8 c1] 5)) (Or.inl (by rw [World.size_alloc]; omega)) rfl hown hg hl (by rw [World.size_alloc]; omega)) (by have := hg.size; rw [World.size_alloc] at this; omega)
theorem wp_app3 (hgd : o.guard = none) (s x : Operand) (ho : o.op = .call { callee := .builtin .append, args := #[s, x], argTypes := #[28, 28] })
    (W0 w : World) (v : Value) (xs : List Int) (bb : Nat) (D : List UInt8) (N : Nat) (c0 c1 c2 : Int) (hs : a.eval s = v) (hx : a.eval x = .slice (some ⟨w.heap.size, 0, none⟩) 3 3) (hb : Bu W0 w v xs bb D N) (hbb : bb < w.heap.size) (hN : N ≤ 100000)
    (h : ∀ v' w', Bu W0 w' v' (xs ++ [c0, c1, c2]) bb D (N + 3) → bb < w'.heap.size → wpList Tryz.prog ops Q rest (a.put o.dst v') w') : wpList Tryz.prog ops Q (o :: rest) a (w.alloc (.cells #[.int .u8 c0, .int .u8 c1, .int .u8 c2] 5)) := by
  obtain ⟨i0, hi, hz0, hz1, hz2⟩ := info_parts info_u8
  have hb' := bu_alloc hb (.cells #[.int .u8 c0, .int .u8 c1, .int .u8 c2] 5)
  obtain ⟨h1, h2, h3, h4, h5, h6⟩ := hb'
  refine wpList_append_own_at _ hgd s x 28 ho W0.heap.size 5 i0 (.int .u8 0) 1 1 Tryz.underlying28 hi hz0 hz1 hz2 rfl (by decide) v xs.length (xs.map (Value.int .u8)) hs h1 ⟨w.heap.size, 0, none⟩ 3 3 ([c0, c1, c2].map (Value.int .u8)) hx rfl ?_ (ints_oneCell _ _) (by unfold maxLen; omega) (by omega) h3 ?_
  · intro j u hj
    simp only [List.map_cons, List.map_nil] at hj
    rw [Lib.add_plain, Nat.zero_add, row_cell (row_alloc w #[.int .u8 c0, .int .u8 c1, .int .u8 c2] 5) j, List.getElem?_toArray]
    exact hj
  · intro v' w' hown hg _ hl
    exact h v' w' (bu_grown (bu_alloc hb (.cells #[.int .u8 c0, .int .u8 c1, .int .u8 c2] 5)) (Or.inl (by rw [World.size_alloc]; omega)) rfl hown hg hl (by rw [World.size_alloc]; omega)) (by have := hg.size; rw [World.size_alloc] at this; omega)
/-- Digits from the place i on. -/
theorem wp_appD (hgd : o.guard = none) (s x : Operand) (ho : o.op = .call { callee := .builtin .append, args := #[s, x], argTypes := #[28, 28] })
    (W0 w : World) (v : Value) (xs : List Int) (bb : Nat) (D : List UInt8) (N i m cap : Nat) (hs : a.eval s = v) (hx : a.eval x = .slice (some ⟨bb, i, none⟩) m cap) (hb : Bu W0 w v xs bb D N) (hbb : bb < w.heap.size) (hN : N ≤ 100000) (him : i + m ≤ D.length) (hm : m ≤ 1000)
    (h : ∀ v' w', Bu W0 w' v' (xs ++ ((D.drop i).take m).map (fun b => (b.toNat : Int))) bb D (N + m) → bb < w'.heap.size → wpList Tryz.prog ops Q rest (a.put o.dst v') w') : wpList Tryz.prog ops Q (o :: rest) a w := by
  obtain ⟨i0, hi, hz0, hz1, hz2⟩ := info_parts info_u8
  have hb' := hb
  obtain ⟨h1, h2, h3, h4, h5, h6⟩ := hb'
  have hlen : (((D.drop i).take m).map (fun b => (b.toNat : Int))).length = m := by rw [List.length_map, List.length_take, List.length_drop]; omega
  refine wpList_append_own_at _ hgd s x 28 ho W0.heap.size 5 i0 (.int .u8 0) 1 1 Tryz.underlying28 hi hz0 hz1 hz2 rfl (by decide) v xs.length (xs.map (Value.int .u8)) hs h1 ⟨bb, i, none⟩ m cap ((((D.drop i).take m).map (fun b => (b.toNat : Int))).map (Value.int .u8)) hx (by rw [List.length_map, hlen]; omega) ?_ (ints_oneCell _ _) (by unfold maxLen; omega) (by omega) (by omega) ?_
  · intro j u hj
    rw [Lib.add_plain]
    have hjm : j < m := by
      by_cases hjm : j < m
      · exact hjm
      · rw [List.getElem?_eq_none (by rw [List.length_map, hlen]; omega)] at hj; cases hj
    rw [h5 (i + j) (by omega)]
    simp only [List.map_map, List.getElem?_map] at hj
    rw [List.getElem?_take, if_pos hjm, List.getElem?_drop, List.getElem?_eq_getElem (by omega)] at hj
    simpa using hj
  · intro v' w' hown hg _ hl
    exact h v' w' (bu_grown hb (Or.inl hbb) hlen hown hg hl (by omega)) (by have := hg.size; omega)
end
end Num
end Go.Proofs.YtahcgdjcjapnkaaGreatDoor
