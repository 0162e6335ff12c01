/-
  A list of steps that a call makes and appends to.
-/
import Derived.Test.YtpbfaffheigjcaaWLo
namespace Go.Proofs.Ytpbfaffheigjcaa
open Go.RowKit
namespace Num
open Ints
set_option linter.unusedSimpArgs false
set_option linter.unusedVariables false
/-- A list value with these cells. -/
abbrev listV (q : Option Addr) (m d : Nat) : Value := .agg #[.int .i64 4, .int .i64 0, .float .f64 0, .string ⟨#[]⟩, .slice q m d]
abbrev listW {n : Nat} (L : List (VT n)) : VT (n + 1) := (4, 0, 0, ⟨#[]⟩, L)
/-- A step: its group, its method, its args. -/
abbrev StepD (n : Nat) := ByteArray × ByteArray × List (VT n)
/-- A list of steps that the call has made and appends to. -/
def OwSt (W0 w : World) (n : Nat) (p : Option Addr) (l c : Nat) (SS : List (StepD n)) : Prop := ∃ XS : List Value, w.ownsRow W0.heap.size 46 3 (.slice p l c) l XS ∧ SS.length = l ∧ Below W0.heap.size W0 w ∧ W0.heap.size ≤ w.heap.size ∧
  ∀ i (h : i < SS.length), ∃ q m d, XS[i * 3]? = some (.string SS[i].1) ∧ XS[i * 3 + 1]? = some (.string SS[i].2.1) ∧ XS[i * 3 + 2]? = some (.slice q m d) ∧ RepC w (n + 1) (fun b => Fr W0 w (.slice p l c) b) (listV q m d) (listW SS[i].2.2)
theorem ost_nil (W0 w : World) (n : Nat) (hb : Below W0.heap.size W0 w) (hs : W0.heap.size ≤ w.heap.size) : OwSt W0 w n none 0 0 [] := ⟨[], World.ownsRow_nil _ _ _ _, rfl, hb, hs, fun i h => absurd h (Nat.not_lt_zero _)⟩
theorem ost_keep {W0 w w' : World} {n : Nat} {p : Option Addr} {l c : Nat} {SS : List (StepD n)} (h : OwSt W0 w n p l c SS) (hb : Below w.heap.size w w') : OwSt W0 w' n p l c SS := by
  obtain ⟨XS, h1, h2, h3, h4, h5⟩ := h
  refine ⟨XS, h1.kept (bel_own hb none) ?_, h2, h3.trans (hb.mono h4), Nat.le_trans h4 hb.size, fun i hi => ?_⟩
  · cases Value.ownBlock (.slice p l c) with
    | none => exact Or.inl rfl
    | some k => exact Or.inr (by simp)
  · obtain ⟨q, m, d, c0, c1, c2, hr⟩ := h5 i hi
    exact ⟨q, m, d, c0, c1, c2, repC_mono _ _ _ _ _ (fun b hb' => ⟨hb'.1, Nat.lt_of_lt_of_le hb'.2.1 hb.size, hb'.2.2⟩) (repC_keep _ _ _ _ (fun b hb' => hb.block b hb'.2.1) hr)⟩
theorem ost_bel {W0 w : World} {n : Nat} {p : Option Addr} {l c : Nat} {SS : List (StepD n)} (h : OwSt W0 w n p l c SS) : Below W0.heap.size W0 w := by
  obtain ⟨XS, h1, h2, h3, h4, h5⟩ := h
  exact h3
/-- What the list of steps reads as, behind the call. -/
def RepSt (w : World) (n : Nat) (p : Option Addr) (l c : Nat) (SS : List (StepD n)) : Prop := SS.length = l ∧ l ≤ c ∧ c ≤ maxLen ∧ (0 < l → ∃ b, p = some ⟨b, 0, none⟩ ∧ ∀ i (h : i < SS.length), ∃ q m d,
  w.cell? ⟨b, i * 3, none⟩ = some (.string SS[i].1) ∧ w.cell? ⟨b, i * 3 + 1, none⟩ = some (.string SS[i].2.1) ∧ w.cell? ⟨b, i * 3 + 2, none⟩ = some (.slice q m d) ∧ Rep w (n + 1) (listV q m d) (listW SS[i].2.2))
theorem ost_rep {W0 w : World} {n : Nat} {p : Option Addr} {l c : Nat} {SS : List (StepD n)} (h : OwSt W0 w n p l c SS) : RepSt w n p l c SS := by
  obtain ⟨XS, h1, h2, h3, h4, h5⟩ := h
  have hcells := fun g (hg : (Value.slice p l c).ownBlock = some g) => h1.cells hg
  rcases h1.2 with ⟨hv, h0⟩ | ⟨g, cap, cur, hv, _, hcur, hle, hm, _⟩
  · injection hv with e1 e2 e3
    subst e1 e2 e3
    exact ⟨h2, Nat.le_refl _, Nat.zero_le _, fun h => absurd h (Nat.lt_irrefl _)⟩
  · injection hv with e1 e2 e3
    subst e1 e3
    refine ⟨h2, hle, hm, fun _ => ⟨g, rfl, fun i hi => ?_⟩⟩
    obtain ⟨q, m, d, c0, c1, c2, hr⟩ := h5 i hi
    have hc := hcells g rfl
    have k0 := hc _ _ c0; have k1 := hc _ _ c1; have k2 := hc _ _ c2
    rw [Addr.add_lit] at k0 k1 k2
    simp only [Nat.zero_add] at k0 k1 k2
    exact ⟨q, m, d, k0, k1, k2, repC_rep _ _ _ _ hr⟩
theorem repSt_keep {w w' : World} {n : Nat} {p : Option Addr} {l c : Nat} {SS : List (StepD n)} (h : RepSt w n p l c SS) (hb : Below w.heap.size w w') : RepSt w' n p l c SS := by
  obtain ⟨h1, h2, h3, h4⟩ := h
  refine ⟨h1, h2, h3, fun h0 => ?_⟩
  obtain ⟨b, hp, hi⟩ := h4 h0
  refine ⟨b, hp, fun i h => ?_⟩
  obtain ⟨q, m, d, c0, c1, c2, hr⟩ := hi i h
  exact ⟨q, m, d, cell_keep hb c0, cell_keep hb c1, cell_keep hb c2, rep_keep hb _ _ _ hr⟩
theorem info_st : (Try.prog.info? 46).map (fun i => (i.zero, i.size, i.bytes)) = some (some (.agg #[.string ⟨#[]⟩, .string ⟨#[]⟩, .slice none 0 0]), 3, 56) := by kernel_rfl
theorem three_at {XS : List Value} {l : Nat} (hl : XS.length = l * 3) (u0 u1 u2 : Value) (j : Nat) : (XS ++ [u0, u1, u2])[l * 3 + j]? = [u0, u1, u2][j]? := by
  rw [List.getElem?_append_right (by omega), hl, Nat.add_sub_cancel_left]
section
variable {ops : Array Oper} {rest : List Oper} {o : Oper} {a : Act} {Q : Exit → Act → World → Prop}
/-- A step behind an owned list of such. -/
theorem wp_ost1 (hgd : o.guard = none) (s x : Operand) (ho : o.op = .call { callee := .builtin .append, args := #[s, x], argTypes := #[40, 40] })
    (W0 w1 w : World) (n : Nat) (p : Option Addr) (l c : Nat) (SS : List (StepD n)) (g m : ByteArray) (q : Option Addr) (k d : Nat) (A : List (VT n)) (hs : a.eval s = .slice p l c) (hx : a.eval x = .slice (some ⟨w.heap.size, 0, none⟩) 1 1) (hb : OwSt W0 w1 n p l c SS) (hl : l ≤ 1000000)
    (hbw : Below w1.heap.size w1 w) (hT : RepC w (n + 1) (fun b => w1.heap.size ≤ b) (listV q k d) (listW A))
    (h : ∀ p' c' w', OwSt W0 w' n p' (l + 1) c' (SS ++ [(g, m, A)]) → wpList Try.prog ops Q rest (a.put o.dst (.slice p' (l + 1) c')) w') : wpList Try.prog ops Q (o :: rest) a (w.alloc (.cells #[.string g, .string m, .slice q k d] 46)) := by
  obtain ⟨i0, hi, hz0, hz1, hz2⟩ := info_parts info_st
  have hlt1 : ∀ k, (Value.slice p l c).ownBlock = some k → k < w1.heap.size := by obtain ⟨XS, h1, _⟩ := hb; exact fun k hk => (h1.lt k hk).2
  have hb' := ost_keep (ost_keep hb hbw) ((Below.refl w.heap.size w).alloc (Nat.le_refl _) (.cells #[.string g, .string m, .slice q k d] 46))
  have hT' := repC_keep (w' := w.alloc (.cells #[.string g, .string m, .slice q k d] 46)) _ _ _ _ (fun b hb => Below.heap_alloc w _ _ hb.2) (repC_lt _ _ _ _ hT)
  have hsz : (w.alloc (.cells #[.string g, .string m, .slice q k d] 46)).heap.size = w.heap.size + 1 := World.size_alloc _ _
  obtain ⟨XS, h1, h2, h3, h4, h5⟩ := hb'
  have hone : ∀ u ∈ [Value.string g, .string m, .slice q k d], u.oneCell' = true := by
    intro u hu
    simp only [List.mem_cons, List.not_mem_nil, or_false] at hu
    rcases hu with rfl | rfl | rfl <;> rfl
  refine wpList_append_own_at _ hgd s x 40 ho W0.heap.size 46 i0 _ 3 56 Try.underlying40 hi hz0 hz1 hz2 rfl (by decide) (.slice p l c) l XS hs h1 ⟨w.heap.size, 0, none⟩ 1 1 [.string g, .string m, .slice q k d] hx rfl ?_ hone (by unfold maxLen; omega) (by omega) h4 ?_
  · intro j u hj
    rw [Addr.add_lit, Nat.zero_add, row_cell (row_alloc w #[.string g, .string m, .slice q k d] 46) j, List.getElem?_toArray]
    exact hj
  intro v' w' hown hg _ hat
  have hgs := hg.size
  have hpc : ∃ p' c', v' = .slice p' (l + 1) c' := by
    rcases hown.2 with ⟨rfl, hn⟩ | ⟨g, cap, cur, rfl, _⟩
    · exact absurd hn (by omega)
    · exact ⟨_, _, rfl⟩
  obtain ⟨p', c', rfl⟩ := hpc
  have hlen := h1.1
  have hfr' : ∀ b, Fr W0 (w.alloc (.cells #[.string g, .string m, .slice q k d] 46)) (.slice p l c) b → Fr W0 w' (.slice p' (l + 1) c') b ∧ w'.heap[b]? = (w.alloc (.cells #[.string g, .string m, .slice q k d] 46)).heap[b]? := by
    intro b ⟨k1, k2, k3⟩
    refine ⟨⟨k1, by omega, ?_⟩, hg.block b k2 (fun e => k3 e.symm)⟩
    rcases hat with e | e
    · rw [e]; exact k3
    · rw [e]; intro e'; injection e' with e'; omega
  refine h p' c' w' ⟨XS ++ [.string g, .string m, .slice q k d], hown, by rw [List.length_append, h2]; rfl, Below.grown h3 hg h4 (fun k hk => (h1.lt k hk).1), Nat.le_trans h4 hg.size, fun i hi => ?_⟩
  by_cases hlt : i < SS.length
  · obtain ⟨q', m', d', c0, c1, c2, hr⟩ := h5 i hlt
    have hlt3 : i * 3 + 3 ≤ XS.length := by omega
    refine ⟨q', m', d', ?_⟩
    rw [List.getElem_append_left hlt]
    exact ⟨by rw [List.getElem?_append_left (by omega)]; exact c0, by rw [List.getElem?_append_left (by omega)]; exact c1, by rw [List.getElem?_append_left (by omega)]; exact c2, repC_mono _ _ _ _ _ (fun b hb' => (hfr' b hb').1) (repC_keep _ _ _ _ (fun b hb' => (hfr' b hb').2) hr)⟩
  · have hie : i = l := by rw [List.length_append, h2] at hi; simp at hi; omega
    subst hie
    have e := three_at hlen (.string g) (.string m) (.slice q k d)
    have hw0 : W0.heap.size ≤ w1.heap.size := by obtain ⟨_, _, _, _, hh, _⟩ := hb; exact hh
    refine ⟨q, k, d, ?_⟩
    rw [List.getElem_append_right (by omega)]
    simp only [h2, Nat.sub_self, List.getElem_cons_zero]
    have hfr : ∀ b, (w1.heap.size ≤ b ∧ b < w.heap.size) → Fr W0 (w.alloc (.cells #[.string g, .string m, .slice q k d] 46)) (.slice p i c) b := fun b hb => ⟨by omega, by omega, fun e => by have := hlt1 b e; omega⟩
    exact ⟨by have := e 0; simpa using this, by rw [e 1]; rfl, by rw [e 2]; rfl, repC_mono _ _ _ _ _ (fun b hb' => (hfr' b (hfr b hb')).1) (repC_keep _ _ _ _ (fun b hb' => (hfr' b (hfr b hb')).2) hT')⟩
end
end Num
end Go.Proofs.Ytpbfaffheigjcaa
