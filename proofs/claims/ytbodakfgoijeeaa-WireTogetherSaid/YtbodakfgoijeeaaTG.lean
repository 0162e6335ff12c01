/-
  An append of a value, and what it leaves as it was.
-/
import Derived.Test.YtbodakfgoijeeaaWL
namespace Go.Proofs.Ytbodakfgoijeeaa
open Go.RowKit
namespace Num
open Ints
set_option linter.unusedSimpArgs false
set_option linter.unusedVariables false
section
variable {ops : Array Oper} {rest : List Oper} {o : Oper} {a : Act} {Q : Exit → Act → World → Prop}
/-- A value behind an owned list. -/
theorem wp_ov2 (hgd : o.guard = none) (s x : Operand) (ho : o.op = .call { callee := .builtin .append, args := #[s, x], argTypes := #[24, 24] })
    (M : Nat) (W0 w : World) (n : Nat) (p : Option Addr) (l c : Nat) (L : List (VT n)) (u0 u1 u2 u3 u4 : Value) (T : VT n) (hs : a.eval s = .slice p l c) (hx : a.eval x = .slice (some ⟨w.heap.size, 0, none⟩) 1 1) (hb : OwM M W0 w n p l c L) (hl : l ≤ 1000000)
    (hT : RepC w n (fun b => Fr W0 w (.slice p l c) b ∧ M ≤ b) (.agg #[u0, u1, u2, u3, u4]) T)
    (h : ∀ p' c' w', OwL W0 w' n p' (l + 1) c' (L ++ [T]) → (∀ b, b < w.heap.size → (Value.slice p l c).ownBlock ≠ some b → w'.heap[b]? = w.heap[b]?) → wpList Try.prog ops Q rest (a.put o.dst (.slice p' (l + 1) c')) w') : wpList Try.prog ops Q (o :: rest) a (w.alloc (.cells #[u0, u1, u2, u3, u4] 26)) := by
  obtain ⟨i0, hi, hz0, hz1, hz2⟩ := info_parts info_v5
  have hb' := om_keep hb ((Below.refl w.heap.size w).alloc (Nat.le_refl _) (.cells #[u0, u1, u2, u3, u4] 26))
  obtain ⟨XS, h1, h2, h3, h4, hM, g, h5⟩ := hb'
  have hone : ∀ u ∈ [u0, u1, u2, u3, u4], u.oneCell' = true := by
    cases n with
    | zero => exact hT.elim
    | succ n =>
      obtain ⟨q, m, d, e, _⟩ := hT
      injection e with e
      have e' := congrArg Array.toList e
      simp only [List.cons.injEq] at e'
      obtain ⟨rfl, rfl, rfl, rfl, rfl, _⟩ := e'
      intro u hu
      simp only [List.mem_cons, List.not_mem_nil, or_false] at hu
      rcases hu with rfl | rfl | rfl | rfl | rfl <;> rfl
  refine wpList_append_own_at _ hgd s x 24 ho W0.heap.size 26 i0 _ 5 64 Try.underlying24 hi hz0 hz1 hz2 rfl (by decide) (.slice p l c) l XS hs h1 ⟨w.heap.size, 0, none⟩ 1 1 [u0, u1, u2, u3, u4] hx rfl ?_ hone (by unfold maxLen; omega) (by omega) h4 ?_
  · intro j u hj
    rw [Addr.add_lit, Nat.zero_add, row_cell (row_alloc w #[u0, u1, u2, u3, u4] 26) j, List.getElem?_toArray]
    exact hj
  · intro v' w' hown hg _ hown'
    have hsz : (w.alloc (.cells #[u0, u1, u2, u3, u4] 26)).heap.size = w.heap.size + 1 := World.size_alloc _ _
    have hgs := hg.size
    have hpc : ∃ p' c', v' = .slice p' (l + 1) c' := by
      rcases hown.2 with ⟨rfl, hn⟩ | ⟨g, cap, cur, rfl, _⟩
      · exact absurd hn (by omega)
      · exact ⟨_, _, rfl⟩
    obtain ⟨p', c', rfl⟩ := hpc
    have hlen := h1.1
    have hfr' : ∀ b, Fr W0 (w.alloc (.cells #[u0, u1, u2, u3, u4] 26)) (.slice p l c) b → Fr W0 w' (.slice p' (l + 1) c') b ∧ w'.heap[b]? = (w.alloc (.cells #[u0, u1, u2, u3, u4] 26)).heap[b]? := by
      intro b ⟨k1, k2, k3⟩
      refine ⟨⟨k1, by omega, ?_⟩, hg.block b k2 (fun e => k3 e.symm)⟩
      rcases hown' with e | e
      · rw [e]; exact k3
      · rw [e]; intro e'; injection e' with e'; omega
    have hT' := repC_mono n _ (fun b => Fr W0 (w.alloc (.cells #[u0, u1, u2, u3, u4] 26)) (.slice p l c) b ∧ M ≤ b) _ _ (fun b hb' => ⟨⟨hb'.1.1, by have := hb'.1.2.1; omega, hb'.1.2.2⟩, hb'.2⟩) (repC_keep n _ _ _ (fun b hb' => Below.heap_alloc w (.cells #[u0, u1, u2, u3, u4] 26) _ hb'.1.2.1) hT)
    refine h p' c' w' ?_ (fun b hb hne => (hg.block b (by omega) (fun e => hne e.symm)).trans (Below.heap_alloc w _ _ hb))
    refine ⟨XS ++ [u0, u1, u2, u3, u4], hown, by rw [List.length_append, h2]; rfl, Below.grown h3 hg h4 (fun k hk => (h1.lt k hk).1), Nat.le_trans h4 hg.size, Nat.le_refl _, fun b => if b < M then g b else l, fun i hi => ?_⟩
    by_cases hlt : i < L.length
    · obtain ⟨v0, v1, v2, v3, v4, c0, c1, c2, c3, c4, hr⟩ := h5 i hlt
      have hlt5 : i * 5 + 5 ≤ XS.length := by omega
      refine ⟨v0, v1, v2, v3, v4, by rw [List.getElem?_append_left (by omega)]; exact c0, by rw [List.getElem?_append_left (by omega)]; exact c1, by rw [List.getElem?_append_left (by omega)]; exact c2, by rw [List.getElem?_append_left (by omega)]; exact c3, by rw [List.getElem?_append_left (by omega)]; exact c4, ?_⟩
      rw [List.getElem_append_left hlt]
      exact repC_mono n _ _ _ _ (fun b hb' => ⟨(hfr' b hb'.1).1, (hfr' b hb'.1).1.2.1, (show (if b < M then g b else l) = i from (if_pos hb'.2.1).trans hb'.2.2)⟩) (repC_keep n _ _ _ (fun b hb' => (hfr' b hb'.1).2) hr)
    · have hie : i = l := by rw [List.length_append, h2] at hi; simp at hi; omega
      subst hie
      have e := five_at hlen u0 u1 u2 u3 u4
      refine ⟨u0, u1, u2, u3, u4, by have := e 0; simpa using this, by rw [e 1]; rfl, by rw [e 2]; rfl, by rw [e 3]; rfl, by rw [e 4]; rfl, ?_⟩
      rw [List.getElem_append_right (by omega)]
      simp only [h2, Nat.sub_self, List.getElem_cons_zero]
      exact repC_mono n _ _ _ _ (fun b hb' => ⟨(hfr' b hb'.1).1, (hfr' b hb'.1).1.2.1, (if_neg (Nat.not_lt.2 hb'.2) : (if b < M then g b else _) = _)⟩) (repC_keep n _ _ _ (fun b hb' => (hfr' b hb'.1).2) hT')
end
end Num
end Go.Proofs.Ytbodakfgoijeeaa
