/-
  Lists of values: a part of one; a list that a call makes out of parts of others.
-/
import Derived.Test.YtijfgmhdkflfmaaWLo
namespace Go.Proofs.Ytijfgmhdkflfmaa
open Go.RowKit
namespace Num
open Ints
set_option linter.unusedSimpArgs false
set_option linter.unusedVariables false
/-- Values of one cell each in their five places. -/
def One5 {α : Type} (R : Value → α → Prop) : Prop := ∀ u0 u1 u2 u3 u4 T, R (.agg #[u0, u1, u2, u3, u4]) T → u0.oneCell' = true ∧ u1.oneCell' = true ∧ u2.oneCell' = true ∧ u3.oneCell' = true ∧ u4.oneCell' = true
/-- A part of a list. -/
theorem repL_sub {α : Type} {w : World} {R : Value → α → Prop} {p : Option Addr} {l c : Nat} {L : List α} (h : RepL w R p l c L) (i j : Nat) (hij : i ≤ j) (hj : j ≤ l) : RepL w R (if c = i then p else p.map (·.add (i * 5))) (j - i) (c - i) ((L.drop i).take (j - i)) := by
  obtain ⟨h1, h2, h3, h4⟩ := h
  refine ⟨by rw [List.length_take, List.length_drop]; omega, by omega, by omega, fun hl => ?_⟩
  obtain ⟨b, off, rfl, hi⟩ := h4 (by omega)
  refine ⟨b, off + i * 5, by rw [if_neg (by omega)]; show some (Addr.add _ _) = _; rw [Addr.add_lit], fun k hk => ?_⟩
  have hk' : k < j - i := by rw [List.length_take, List.length_drop] at hk; omega
  obtain ⟨v0, v1, v2, v3, v4, c0, c1, c2, c3, c4, hr⟩ := hi (i + k) (by omega)
  have e : off + i * 5 + k * 5 = off + (i + k) * 5 := by omega
  rw [e]
  refine ⟨v0, v1, v2, v3, v4, c0, c1, c2, c3, c4, ?_⟩
  rw [List.getElem_take, List.getElem_drop]
  exact hr
theorem rep_one (w : World) (n : Nat) : One5 (Rep w n) := by
  intro u0 u1 u2 u3 u4 T h
  cases n with
  | zero => exact h.elim
  | succ n =>
    obtain ⟨q, m, d, e, _⟩ := h
    injection e with e
    have e' := congrArg Array.toList e
    simp only [List.cons.injEq] at e'
    obtain ⟨rfl, rfl, rfl, rfl, rfl, _⟩ := e'
    exact ⟨rfl, rfl, rfl, rfl, rfl⟩
/-- The cells of a list of values, one behind another. -/
theorem flat_of {α : Type} {R : Value → α → Prop} (hR : One5 R) {w : World} {m b off : Nat} {M : List α} (hm : M.length = m) (hi : ∀ i (h : i < M.length), ∃ v0 v1 v2 v3 v4, w.cell? ⟨b, off + i * 5, none⟩ = some v0 ∧ w.cell? ⟨b, off + i * 5 + 1, none⟩ = some v1 ∧ w.cell? ⟨b, off + i * 5 + 2, none⟩ = some v2 ∧ w.cell? ⟨b, off + i * 5 + 3, none⟩ = some v3 ∧ w.cell? ⟨b, off + i * 5 + 4, none⟩ = some v4 ∧ R (.agg #[v0, v1, v2, v3, v4]) M[i]) :
    ∃ YS : List Value, YS.length = m * 5 ∧ (∀ j u, YS[j]? = some u → w.cell? ((⟨b, off, none⟩ : Addr).add j) = some u) ∧ (∀ u ∈ YS, u.oneCell' = true) ∧
      ∀ i (h : i < M.length), ∃ v0 v1 v2 v3 v4, YS[i * 5]? = some v0 ∧ YS[i * 5 + 1]? = some v1 ∧ YS[i * 5 + 2]? = some v2 ∧ YS[i * 5 + 3]? = some v3 ∧ YS[i * 5 + 4]? = some v4 ∧ R (.agg #[v0, v1, v2, v3, v4]) M[i] := by
  obtain ⟨YS, hl, hy⟩ := list_of (P := fun j x => w.cell? ⟨b, off + j, none⟩ = some x ∧ x.oneCell' = true) (m * 5) (fun j hj => by
    obtain ⟨v0, v1, v2, v3, v4, c0, c1, c2, c3, c4, hr⟩ := hi (j / 5) (by omega)
    obtain ⟨o0, o1, o2, o3, o4⟩ := hR _ _ _ _ _ _ hr
    have hk : j % 5 = 0 ∨ j % 5 = 1 ∨ j % 5 = 2 ∨ j % 5 = 3 ∨ j % 5 = 4 := by omega
    rcases hk with hk | hk | hk | hk | hk
    · exact ⟨v0, by rw [show off + j = off + j / 5 * 5 by omega]; exact c0, o0⟩
    · exact ⟨v1, by rw [show off + j = off + j / 5 * 5 + 1 by omega]; exact c1, o1⟩
    · exact ⟨v2, by rw [show off + j = off + j / 5 * 5 + 2 by omega]; exact c2, o2⟩
    · exact ⟨v3, by rw [show off + j = off + j / 5 * 5 + 3 by omega]; exact c3, o3⟩
    · exact ⟨v4, by rw [show off + j = off + j / 5 * 5 + 4 by omega]; exact c4, o4⟩)
  have hg : ∀ j (h : j < YS.length) v, w.cell? ⟨b, off + j, none⟩ = some v → YS[j]? = some v := by
    intro j h v hv
    rw [List.getElem?_eq_getElem h]
    have := (hy j h).1
    rw [hv] at this
    exact this.symm
  refine ⟨YS, hl, fun j u hj => ?_, fun u hu => ?_, fun i h => ?_⟩
  · rw [Addr.add_lit]
    obtain ⟨h, rfl⟩ := List.getElem?_eq_some_iff.1 hj
    exact (hy j h).1
  · obtain ⟨j, h, rfl⟩ := List.getElem_of_mem hu
    exact (hy j h).2
  · obtain ⟨v0, v1, v2, v3, v4, c0, c1, c2, c3, c4, hr⟩ := hi i h
    exact ⟨v0, v1, v2, v3, v4, hg _ (by omega) _ c0, hg _ (by omega) _ c1, hg _ (by omega) _ c2, hg _ (by omega) _ c3, hg _ (by omega) _ c4, hr⟩
/-- What was made from block B on is as it was. -/
def Stay (B : Nat) (x y : World) : Prop := ∀ b, B ≤ b → b < x.heap.size → y.heap[b]? = x.heap[b]?
theorem stay_below {B : Nat} {x y : World} (h : Below x.heap.size x y) : Stay B x y := fun b _ hb => h.block b hb
/-- A list of values that the call has made and appends to, each as R says. -/
def OwV {α : Type} (W0 w : World) (R : Value → α → Prop) (p : Option Addr) (l c : Nat) (L : List α) : Prop := ∃ XS : List Value, w.ownsRow W0.heap.size 33 5 (.slice p l c) l XS ∧ L.length = l ∧ Below W0.heap.size W0 w ∧ W0.heap.size ≤ w.heap.size ∧
  ∀ i (h : i < L.length), ∃ v0 v1 v2 v3 v4, XS[i * 5]? = some v0 ∧ XS[i * 5 + 1]? = some v1 ∧ XS[i * 5 + 2]? = some v2 ∧ XS[i * 5 + 3]? = some v3 ∧ XS[i * 5 + 4]? = some v4 ∧ R (.agg #[v0, v1, v2, v3, v4]) L[i]
theorem ow_none {α : Type} (W0 w : World) (R : Value → α → Prop) (hb : Below W0.heap.size W0 w) (hs : W0.heap.size ≤ w.heap.size) : OwV W0 w R none 0 0 [] := ⟨[], World.ownsRow_nil _ _ _ _, rfl, hb, hs, fun i h => absurd h (Nat.not_lt_zero _)⟩
theorem ow_step {α : Type} {R : Value → α → Prop} {W0 w w' : World} {p : Option Addr} {l c : Nat} {L : List α} (h : OwV W0 w R p l c L) (hb : Below w.heap.size w w') : OwV W0 w' R p l c L := by
  obtain ⟨XS, h1, h2, h3, h4, h5⟩ := h
  refine ⟨XS, h1.kept (bel_own hb none) ?_, h2, h3.trans (hb.mono h4), Nat.le_trans h4 hb.size, h5⟩
  cases Value.ownBlock (.slice p l c) with
  | none => exact Or.inl rfl
  | some k => exact Or.inr (by simp)
/-- What the list reads as. -/
theorem ow_rep {α : Type} {R : Value → α → Prop} {W0 w : World} {p : Option Addr} {l c : Nat} {L : List α} (h : OwV W0 w R p l c L) : (∀ y, Stay W0.heap.size w y → RepL y R p l c L) ∧ Below W0.heap.size W0 w := by
  obtain ⟨XS, h1, h2, h3, h4, h5⟩ := h
  refine ⟨fun y hy => ?_, h3⟩
  have hlt := h1.lt
  have hcells := fun g (hg : (Value.slice p l c).ownBlock = some g) => h1.cells hg
  rcases h1.2 with ⟨hv, h0⟩ | ⟨g, cap, cur, hv, _, hcur, hle, hm, _⟩
  · injection hv with e1 e2 e3
    subst e1 e2 e3
    exact ⟨h2, Nat.le_refl _, Nat.zero_le _, fun h => absurd h (Nat.lt_irrefl _)⟩
  · injection hv with e1 e2 e3
    subst e1 e3
    refine ⟨h2, hle, hm, fun _ => ⟨g, 0, rfl, fun i hi => ?_⟩⟩
    obtain ⟨v0, v1, v2, v3, v4, c0, c1, c2, c3, c4, hr⟩ := h5 i hi
    have hc := hcells g rfl
    have he := hy g (hlt g rfl).1 (hlt g rfl).2
    have k0 := hc _ _ c0; have k1 := hc _ _ c1; have k2 := hc _ _ c2; have k3 := hc _ _ c3; have k4 := hc _ _ c4
    rw [Addr.add_lit] at k0 k1 k2 k3 k4
    exact ⟨v0, v1, v2, v3, v4, cell_block he k0, cell_block he k1, cell_block he k2, cell_block he k3, cell_block he k4, hr⟩
theorem ow_at {α : Type} {R : Value → α → Prop} {W0 w : World} {p : Option Addr} {l c : Nat} {L : List α} (h : OwV W0 w R p l c L) : RepL w R p l c L := (ow_rep h).1 w (fun _ _ _ => rfl)
theorem run_append_zero {P : Program} {w : World} (base : Nat) (t ty e : TypeId) (i : TypeInfo) (size : Nat) (ht : P.underlying t = some (.slice e)) (hi : P.info? e = some i)
    (v : Value) (n : Nat) (xs : List Value) (hown : w.ownsRow base e size v n xs) (q : Option Addr) (d : Nat) :
    (Builtin.append_ #[t, t] ty #[v, .slice q 0 d]).run P w = .ok v w := by
  rcases hown.2 with ⟨rfl, rfl⟩ | ⟨g, cap, cur, rfl, _, _, hnc, _⟩
  · cases q <;> simp [Builtin.append_, run_underlying ht, sizeOf, typeInfo, hi, Builtin.lenOf, Builtin.firstCells, loadCells, loadCellsFrom]
  · cases q <;> simp [Builtin.append_, run_underlying ht, sizeOf, typeInfo, hi, Builtin.lenOf, Builtin.firstCells, loadCells, loadCellsFrom, hnc, storeCells]
section
variable {ops : Array Oper} {rest : List Oper} {o : Oper} {a : Act} {Q : Exit → Act → World → Prop}
/-- A list of values behind an owned list. -/
theorem wp_ovs (hgd : o.guard = none) (s x : Operand) (ho : o.op = .call { callee := .builtin .append, args := #[s, x], argTypes := #[31, 31] })
    {α : Type} {R : Value → α → Prop} (hR : One5 R) (W0 w : World) (p : Option Addr) (l c : Nat) (L : List α) (q : Option Addr) (m d : Nat) (M : List α) (hs : a.eval s = .slice p l c) (hx : a.eval x = .slice q m d) (hb : OwV W0 w R p l c L) (hr : RepL w R q m d M) (hl : l + m ≤ 1000000)
    (h : ∀ p' c' w', OwV W0 w' R p' (l + m) c' (L ++ M) → wpList Try.prog ops Q rest (a.put o.dst (.slice p' (l + m) c')) w') : wpList Try.prog ops Q (o :: rest) a w := by
  obtain ⟨i0, hi, hz0, hz1, hz2⟩ := info_parts info_v5
  obtain ⟨r1, r2, r3, r4⟩ := hr
  by_cases hm : m = 0
  · subst hm
    have hM : M = [] := List.eq_nil_of_length_eq_zero r1
    subst hM
    have hb' := hb
    obtain ⟨XS, h1, _⟩ := hb'
    have hrun := run_append_zero (P := Try.prog) (w := w) W0.heap.size 31 o.type 33 i0 5 Try.underlying31 hi _ _ _ h1 q d
    refine wpList_plain hgd fun K hK => ?_
    unfold Oper.wp
    simp [execOp, ho, resolve, invoke, builtin, hs, hx, hrun, Result.andThen]
    have := h p c w (by rw [Nat.add_zero, List.append_nil]; exact hb)
    exact hK _ _ this
  · obtain ⟨b, off, rfl, hit⟩ := r4 (by omega)
    obtain ⟨YS, y1, y2, y3, y4⟩ := flat_of hR r1 hit
    obtain ⟨XS, h1, h2, h3, h4, h5⟩ := hb
    refine wpList_append_own_at _ hgd s x 31 ho W0.heap.size 33 i0 _ 5 64 Try.underlying31 hi hz0 hz1 hz2 rfl (by decide) (.slice p l c) l XS hs h1 ⟨b, off, none⟩ m d YS hx y1 y2 y3 (by unfold maxLen; omega) (by omega) h4 ?_
    intro v' w' hown hg _ hown'
    have hpc : ∃ p' c', v' = .slice p' (l + m) c' := by
      rcases hown.2 with ⟨rfl, hn⟩ | ⟨g, cap, cur, rfl, _⟩
      · exact absurd hn (by omega)
      · exact ⟨_, _, rfl⟩
    obtain ⟨p', c', rfl⟩ := hpc
    have hlen := h1.1
    refine h p' c' w' ⟨XS ++ YS, hown, by rw [List.length_append, h2, r1], Below.grown h3 hg h4 (fun k hk => (h1.lt k hk).1), Nat.le_trans h4 hg.size, fun i hi => ?_⟩
    by_cases hlt : i < L.length
    · obtain ⟨v0, v1, v2, v3, v4, c0, c1, c2, c3, c4, hr⟩ := h5 i hlt
      have hlt5 : i * 5 + 5 ≤ XS.length := by omega
      refine ⟨v0, v1, v2, v3, v4, by rw [List.getElem?_append_left (by omega)]; exact c0, by rw [List.getElem?_append_left (by omega)]; exact c1, by rw [List.getElem?_append_left (by omega)]; exact c2, by rw [List.getElem?_append_left (by omega)]; exact c3, by rw [List.getElem?_append_left (by omega)]; exact c4, ?_⟩
      rw [List.getElem_append_left hlt]
      exact hr
    · rw [List.length_append] at hi
      obtain ⟨v0, v1, v2, v3, v4, c0, c1, c2, c3, c4, hr⟩ := y4 (i - L.length) (by omega)
      have e : ∀ k, i * 5 + k - XS.length = (i - L.length) * 5 + k := by intro k; omega
      refine ⟨v0, v1, v2, v3, v4, ?_, ?_, ?_, ?_, ?_, ?_⟩
      · rw [List.getElem?_append_right (by omega)]; have := e 0; rw [Nat.add_zero, Nat.add_zero] at this; rw [this]; exact c0
      · rw [List.getElem?_append_right (by omega), e]; exact c1
      · rw [List.getElem?_append_right (by omega), e]; exact c2
      · rw [List.getElem?_append_right (by omega), e]; exact c3
      · rw [List.getElem?_append_right (by omega), e]; exact c4
      · rw [List.getElem_append_right (by omega)]
        exact hr
end
end Num
end Go.Proofs.Ytijfgmhdkflfmaa
