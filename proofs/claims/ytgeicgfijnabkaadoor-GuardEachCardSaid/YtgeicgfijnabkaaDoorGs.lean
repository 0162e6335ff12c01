/-
  Lists of functions that count; values gathered.
-/
import Derived.Test.YtgeicgfijnabkaaDoorGr
namespace Go.Proofs.YtgeicgfijnabkaaDoor
open Go.RowKit
namespace Num
open Ints
set_option linter.unusedSimpArgs false
set_option linter.unusedVariables false
/-- What is told of a function that has no value. -/
def wantOf (k : Int) : Int := if 240 ≤ k then 34 else k
/-- A list of functions that count in R and are told so. -/
def Funs (w : World) (R : Nat) (p : Option Addr) (n : Nat) (L : List Int) : Prop := L.length = n ∧ (0 < n → ∃ g, p = some ⟨g, 0, none⟩ ∧ g ≠ R ∧ ∀ j (h : j < L.length), ∃ b0 b1 b2, w.cell? ⟨g, j, none⟩ = some (.func (.func 34) #[] #[.pointer (some ⟨b0, 0, none⟩), .pointer (some ⟨b1, 0, none⟩), .pointer (some ⟨b2, 0, none⟩)]) ∧ w.heap[b0]? = some (.cells #[.pointer (some ⟨R, 0, none⟩)] 41 (0, 0)) ∧ w.heap[b1]? = some (.cells #[.int .u8 (L[j])] 5 (0, 0)) ∧ w.heap[b2]? = some (.cells #[.int .i64 (j : Nat)] 3 (0, 0)) ∧ b0 ≠ R ∧ b1 ≠ R ∧ b2 ≠ R)
/-- The values that the call has gathered: numbers from 0 on. -/
def OwE (W0 w : World) (R : Nat) (p : Option Addr) (l c : Nat) : Prop := ∃ XS : List Value, w.ownsRow W0.heap.size 25 5 (.slice p l c) l XS ∧ (∀ i, i < l → XS[i * 5 + 1]? = some (.int .i64 (i : Nat))) ∧ Kept [R] W0 w
theorem kept_cell {l : List Nat} {w w' : World} {b o : Nat} {v : Value} (h : Kept l w w') (hc : w.cell? ⟨b, o, none⟩ = some v) (hn : b ∉ l) : w'.cell? ⟨b, o, none⟩ = some v := (World.cell?_of_block (h.block b (cell_lt hc) hn)).trans hc
theorem kept_grown {R : Nat} {w w' : World} (h : Kept [R] w w') : w.grownBy w' (some R) := ⟨h.os, h.tape, h.output, h.size, fun i hi hne => h.block i hi (fun hm => hne (by rw [List.mem_singleton] at hm; rw [hm]))⟩
theorem oe_nil (w : World) (R : Nat) : OwE w w R none 0 0 := ⟨[], World.ownsRow_nil _ _ _ _, fun i hi => absurd hi (Nat.not_lt_zero _), kept_refl _ _⟩
theorem oe_kept {W0 w w' : World} {R : Nat} {p : Option Addr} {l c : Nat} (h : OwE W0 w R p l c) (hR : R < W0.heap.size) (hk : Kept [R] w w') : OwE W0 w' R p l c := by
  obtain ⟨XS, h1, h2, h3⟩ := h
  refine ⟨XS, h1.kept (kept_grown hk) ?_, h2, kept_trans h3 hk⟩
  cases ho : (Value.slice p l c).ownBlock with
  | none => exact Or.inl rfl
  | some g =>
    have := (h1.lt g ho).1
    exact Or.inr (fun e => by injection e with e; omega)
theorem oe_read {W0 w : World} {R : Nat} {p : Option Addr} {l c : Nat} (h : OwE W0 w R p l c) (hl : 0 < l) : ∃ g, p = some ⟨g, 0, none⟩ ∧ ∀ i, i < l → w.cell? ⟨g, i * 5 + 1, none⟩ = some (.int .i64 (i : Nat)) := by
  obtain ⟨XS, h1, h2, h3⟩ := h
  have h0 := h1
  obtain ⟨_, h1b⟩ := h1
  rcases h1b with ⟨e, e0⟩ | ⟨g, cap, cur, e, _⟩
  · omega
  · injection e with e1 e2 e3
    subst e1
    refine ⟨g, rfl, fun i hi => ?_⟩
    have hc := h0.cells (g := g) rfl (i * 5 + 1) _ (h2 i hi)
    rw [Addr.add_lit, Nat.zero_add] at hc
    exact hc
theorem oe_form {W0 w : World} {R : Nat} {p : Option Addr} {l c : Nat} (h : OwE W0 w R p l c) : Kept [R] W0 w := by
  obtain ⟨_, _, _, h3⟩ := h
  exact h3
section
variable {ops : Array Oper} {rest : List Oper} {o : Oper} {a : Act} {Q : Exit → Act → World → Prop}
/-- A number behind the values gathered. -/
theorem wp_oe1 (hgd : o.guard = none) (s x : Operand) (ho : o.op = .call { callee := .builtin .append, args := #[s, x], argTypes := #[23, 23] })
    (W0 w : World) (R : Nat) (p : Option Addr) (l c : Nat) (p5 : Option Addr) (c5 : Nat) (ob : Obj) (hs : a.eval s = .slice p l c) (hx : a.eval x = .slice (some ⟨w.heap.size, 0, none⟩) 1 1) (hb : OwE W0 w R p l c) (hl : l ≤ 1000) (hR : R < W0.heap.size) (hob : w.heap[R]? = some ob)
    (h : ∀ p' c' w', OwE W0 w' R p' (l + 1) c' → w'.heap[R]? = some ob → wpList Tryd.prog ops Q rest (a.put o.dst (.slice p' (l + 1) c')) w') : wpList Tryd.prog ops Q (o :: rest) a (w.alloc (.cells #[.int .i64 1, .int .i64 (l : Nat), .float .f64 0, .string ⟨#[]⟩, .slice p5 0 c5] 25)) := by
  obtain ⟨i0, hi, hz0, hz1, hz2⟩ := info_parts info_v5
  obtain ⟨XS, h1, h2, h3⟩ := hb
  have h4 := h3.size
  have hsz : (w.alloc (.cells #[.int .i64 1, .int .i64 (l : Nat), .float .f64 0, .string ⟨#[]⟩, .slice p5 0 c5] 25)).heap.size = w.heap.size + 1 := World.size_alloc _ _
  refine wpList_append_own_at _ hgd s x 23 ho W0.heap.size 25 i0 _ 5 64 Tryd.underlying23 hi hz0 hz1 hz2 rfl (by decide) (.slice p l c) l XS hs (h1.alloc _) ⟨w.heap.size, 0, none⟩ 1 1 [.int .i64 1, .int .i64 (l : Nat), .float .f64 0, .string ⟨#[]⟩, .slice p5 0 c5] hx rfl ?_ ?_ (by unfold maxLen; omega) (by omega) (by omega) ?_
  · intro j u hj
    rw [Addr.add_lit, Nat.zero_add, row_cell (row_alloc w #[.int .i64 1, .int .i64 (l : Nat), .float .f64 0, .string ⟨#[]⟩, .slice p5 0 c5] 25) j, List.getElem?_toArray]
    exact hj
  · intro u hu
    simp only [List.mem_cons, List.not_mem_nil, or_false] at hu
    rcases hu with rfl | rfl | rfl | rfl | rfl <;> rfl
  · intro v' w' hown hg _ _
    have hpc : ∃ p' c', v' = .slice p' (l + 1) c' := by
      rcases hown.2 with ⟨rfl, hn⟩ | ⟨g, cap, cur, rfl, _⟩
      · exact absurd hn (by omega)
      · exact ⟨_, _, rfl⟩
    obtain ⟨p', c', rfl⟩ := hpc
    have hlen := h1.1
    have hblk : ∀ b, b < W0.heap.size → some b ≠ (Value.slice p l c).ownBlock := fun b hb e => by
      have := (h1.lt b e.symm).1
      omega
    have hstay : ∀ b, b < W0.heap.size → w'.heap[b]? = w.heap[b]? := fun b hb => (hg.block b (by omega) (hblk b hb)).trans (Below.heap_alloc w _ b (by omega))
    refine h p' c' w' ⟨XS ++ [.int .i64 1, .int .i64 (l : Nat), .float .f64 0, .string ⟨#[]⟩, .slice p5 0 c5], hown, fun i hi => ?_, ⟨hg.os.trans h3.os, hg.tape.trans h3.tape, hg.output.trans h3.output, Nat.le_trans h4 (by have := hg.size; omega), fun k hk hn => (hstay k hk).trans (h3.block k hk hn)⟩⟩ ((hstay R hR).trans hob)
    by_cases hlt : i < l
    · rw [List.getElem?_append_left (by omega)]
      exact h2 i hlt
    · obtain rfl : i = l := by omega
      rw [List.getElem?_append_right (by omega), hlen]
      have e : i * 5 + 1 - i * 5 = 1 := by omega
      rw [e]
      rfl
end
end Num
end Go.Proofs.YtgeicgfijnabkaaDoor
