/-
  A list of values behind an owned list, as a step of a drawn region.
-/
import Derived.Test.YtodjnhhnjncgdaaQA
namespace Go.Proofs.Ytodjnhhnjncgdaa
open Go.RowKit
namespace Num
open Ints
set_option linter.unusedSimpArgs false
set_option linter.unusedVariables false
theorem run_ovs {α : Type} {R : Value → α → Prop} (hR : One5 R) (W0 w : World) (ty : TypeId) (p : Option Addr) (l c : Nat) (L : List α) (q : Option Addr) (m d : Nat) (M : List α) (hb : OwV W0 w R p l c L) (hr : RepL w R q m d M) (hl : l + m ≤ 1000000) :
    ∃ p' c' w', (Builtin.append_ #[25, 25] ty #[.slice p l c, .slice q m d]).run Try.prog w = .ok (.slice p' (l + m) c') w' ∧ OwV W0 w' R p' (l + m) c' (L ++ M) := by
  obtain ⟨i0, hi, hz0, hz1, hz2⟩ := info_parts info_v5
  obtain ⟨r1, r2, r3, r4⟩ := hr
  by_cases hm : m = 0
  · subst hm
    have hM : M = [] := List.eq_nil_of_length_eq_zero r1
    subst hM
    have hb' := hb
    obtain ⟨XS, h1, _⟩ := hb'
    have hrun := run_append_zero (P := Try.prog) (w := w) W0.heap.size 25 ty 27 i0 5 Try.underlying25 hi _ _ _ h1 q d
    exact ⟨p, c, w, hrun, by rw [Nat.add_zero, List.append_nil]; exact hb⟩
  · obtain ⟨b, off, rfl, hit⟩ := r4 (by omega)
    obtain ⟨YS, y1, y2, y3, y4⟩ := flat_of hR r1 hit
    obtain ⟨XS, h1, h2, h3, h4, h5⟩ := hb
    obtain ⟨v', w', hrun, hown, hg, _, hown'⟩ := run_append_own_at (P := Try.prog) w W0.heap.size 25 ty 27 i0 _ 5 64 Try.underlying25 hi hz0 hz1 hz2 rfl (by decide) (.slice p l c) l XS h1 ⟨b, off, none⟩ m d YS y1 y2 y3 (by unfold maxLen; omega) (by omega) h4
    have hpc : ∃ p' c', v' = .slice p' (l + m) c' := by
      rcases hown.2 with ⟨rfl, hn⟩ | ⟨g, cap, cur, rfl, _⟩
      · exact absurd hn (by omega)
      · exact ⟨_, _, rfl⟩
    obtain ⟨p', c', rfl⟩ := hpc
    have hlen := h1.1
    refine ⟨p', c', w', hrun, XS ++ YS, hown, by rw [List.length_append, h2, r1], Below.grown h3 hg h4 (fun k hk => (h1.lt k hk).1), Nat.le_trans h4 hg.size, fun i hi => ?_⟩
    by_cases hlt : i < L.length
    · obtain ⟨v0, v1, v2, v3, v4, c0, c1, c2, c3, c4, hr⟩ := h5 i hlt
      have hlt5 : i * 5 + 5 ≤ XS.length := by omega
      refine ⟨v0, v1, v2, v3, v4, by rw [List.getElem?_append_left (by omega)]; exact c0, by rw [List.getElem?_append_left (by omega)]; exact c1, by rw [List.getElem?_append_left (by omega)]; exact c2, by rw [List.getElem?_append_left (by omega)]; exact c3, by rw [List.getElem?_append_left (by omega)]; exact c4, ?_⟩
      rw [List.getElem_append_left hlt]
      exact hr
    · rw [List.length_append] at hi
      obtain ⟨v0, v1, v2, v3, v4, c0, c1, c2, c3, c4, hr⟩ := y4 (i - L.length) (by omega)
      have e : ∀ k, i * 5 + k - XS.length = (i - L.length) * 5 + k := by intro k; omega
      refine ⟨v0, v1, v2, v3, v4, ?_, ?_, ?_, ?_, ?_, ?_⟩
      · rw [List.getElem?_append_right (by omega)]; have := e 0; rw [Nat.add_zero, Nat.add_zero] at this; rw [this]; exact c0
      · rw [List.getElem?_append_right (by omega), e]; exact c1
      · rw [List.getElem?_append_right (by omega), e]; exact c2
      · rw [List.getElem?_append_right (by omega), e]; exact c3
      · rw [List.getElem?_append_right (by omega), e]; exact c4
      · rw [List.getElem_append_right (by omega)]
        exact hr
section
variable {ops : Array Oper} {o : Oper} {a : Act} {Q : Exit → Act → World → Prop}
/-- The same as one operation of a region. -/
theorem step_ovs {K : Act → World → Prop} {E : Prop} (hgd : o.guard = none) (s x : Operand) (ho : o.op = .call { callee := .builtin .append, args := #[s, x], argTypes := #[25, 25] })
    {α : Type} {R : Value → α → Prop} (hR : One5 R) (W0 w : World) (p : Option Addr) (l c : Nat) (L : List α) (q : Option Addr) (m d : Nat) (M : List α) (hs : a.eval s = .slice p l c) (hx : a.eval x = .slice q m d) (hb : OwV W0 w R p l c L) (hr : RepL w R q m d M) (hl : l + m ≤ 1000000)
    (h : ∀ p' c' w', OwV W0 w' R p' (l + m) c' (L ++ M) → K (a.put o.dst (.slice p' (l + m) c')) w') :
    if Region.wanted o (yielded ops a.tmps) = true then Oper.wp Try.prog o a w K Q else E := by
  have hw : Region.wanted o (yielded ops a.tmps) = true := by simp [Region.wanted, hgd]
  rw [if_pos hw]
  obtain ⟨p', c', w', hrun, how⟩ := run_ovs hR W0 w o.type p l c L q m d M hb hr hl
  unfold Oper.wp execOp
  simp only [ho, resolve, invoke, builtin, Sem.run_bind, Sem.run_pure, Result.andThen_ok, List.map_toArray, List.map_cons, List.map_nil, hs, hx, hrun]
  exact h p' c' w' how
end
end Num
end Go.Proofs.Ytodjnhhnjncgdaa
