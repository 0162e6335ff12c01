/-
  GuardEach: the list of functions that it makes.
-/
import Derived.Test.YtgeicgfijnabkaaDoorGs
import Derived.Test.YtgeicgfijnabkaaDoorOB
namespace Go.Proofs.YtgeicgfijnabkaaDoor
open Go.RowKit
namespace Num
open Ints
set_option linter.unusedSimpArgs false
set_option linter.unusedVariables false
theorem info_fn : (Tryd.prog.info? 32).map (fun i => (i.zero, i.size, i.bytes)) = some (some .nilFunc, 1, 8) := by kernel_rfl
/-- Of the k-th function: where it lies, what it counts in, what it is told. -/
def FunAt (w : World) (R : Nat) (L : List Int) (XS : List Value) (v : Value) (j : Nat) (h : j < L.length) : Prop := ∃ b0 b1 b2, XS[j]? = some (.func (.func 34) #[] #[.pointer (some ⟨b0, 0, none⟩), .pointer (some ⟨b1, 0, none⟩), .pointer (some ⟨b2, 0, none⟩)]) ∧ w.heap[b0]? = some (.cells #[.pointer (some ⟨R, 0, none⟩)] 41 (0, 0)) ∧ w.heap[b1]? = some (.cells #[.int .u8 (L[j])] 5 (0, 0)) ∧ w.heap[b2]? = some (.cells #[.int .i64 (j : Nat)] 3 (0, 0)) ∧ b0 ≠ R ∧ b1 ≠ R ∧ b2 ≠ R ∧ some b0 ≠ v.ownBlock ∧ some b1 ≠ v.ownBlock ∧ some b2 ≠ v.ownBlock
/-- The list of functions that the call appends to. -/
def OwF (W0 w : World) (R : Nat) (p : Option Addr) (l c : Nat) (L : List Int) : Prop := ∃ XS : List Value, w.ownsRow W0.heap.size 32 1 (.slice p l c) l XS ∧ (∀ j (h : j < L.length), j < l → FunAt w R L XS (.slice p l c) j h) ∧ Below W0.heap.size W0 w
theorem of_nil (w : World) (R : Nat) (L : List Int) : OwF w w R none 0 0 L := ⟨[], World.ownsRow_nil _ _ _ _, fun j _ hj => absurd hj (Nat.not_lt_zero _), Below.refl _ _⟩
theorem of_bel {W0 w : World} {R : Nat} {p : Option Addr} {l c : Nat} {L : List Int} (h : OwF W0 w R p l c L) : Below W0.heap.size W0 w := by
  obtain ⟨_, _, _, h3⟩ := h
  exact h3
theorem of_keep {W0 w w' : World} {R : Nat} {p : Option Addr} {l c : Nat} {L : List Int} (h : OwF W0 w R p l c L) (hb : Below w.heap.size w w') : OwF W0 w' R p l c L := by
  obtain ⟨XS, h1, h2, h3⟩ := h
  refine ⟨XS, h1.kept (bel_own hb none) ?_, fun j hj hl => ?_, h3.trans (hb.mono h3.size)⟩
  · cases (Value.slice p l c).ownBlock with
    | none => exact Or.inl rfl
    | some g => exact Or.inr (by simp)
  · obtain ⟨b0, b1, b2, hx, g0, g1, g2, hn⟩ := h2 j hj hl
    exact ⟨b0, b1, b2, hx, row_step g0 hb, row_step g1 hb, row_step g2 hb, hn⟩
theorem of_blk {W0 w : World} {R : Nat} {p : Option Addr} {l c : Nat} {L : List Int} (h : OwF W0 w R p l c L) : ∀ b, w.heap.size ≤ b → some b ≠ (Value.slice p l c).ownBlock := by
  obtain ⟨XS, h1, _, _⟩ := h
  intro b hb e
  have := (h1.lt b e.symm).2
  omega
theorem of_funs {W0 w : World} {R : Nat} {p : Option Addr} {l c : Nat} {L : List Int} (h : OwF W0 w R p l c L) (hR : R < W0.heap.size) (hl : L.length = l) : Funs w R p l L := by
  obtain ⟨XS, h1, h2, h3⟩ := h
  refine ⟨hl, fun h0 => ?_⟩
  have k1 := h1
  obtain ⟨_, hb⟩ := h1
  rcases hb with ⟨e, e0⟩ | ⟨g, cap, cur, e, hg, _⟩
  · omega
  · injection e with e1 e2 e3
    subst e1
    refine ⟨g, rfl, by omega, fun j hj => ?_⟩
    obtain ⟨b0, b1, b2, hx, g0, g1, g2, n0, n1, n2, _⟩ := h2 j hj (by omega)
    have hc := k1.cells (g := g) rfl j _ hx
    rw [Addr.add_lit, Nat.zero_add] at hc
    exact ⟨b0, b1, b2, hc, g0, g1, g2, n0, n1, n2⟩
section
variable {ops : Array Oper} {rest : List Oper} {o : Oper} {a : Act} {Q : Exit → Act → World → Prop}
/-- A function behind the list. -/
theorem wp_of1 (hgd : o.guard = none) (s x : Operand) (ho : o.op = .call { callee := .builtin .append, args := #[s, x], argTypes := #[39, 39] })
    (W0 w : World) (R : Nat) (p : Option Addr) (l c : Nat) (L : List Int) (b0 b1 b2 : Nat) (hs : a.eval s = .slice p l c) (hx : a.eval x = .slice (some ⟨w.heap.size, 0, none⟩) 1 1) (hb : OwF W0 w R p l c L) (hl : l ≤ 1000) (hlL : l < L.length) (hrow : w.heap[b0]? = some (.cells #[.pointer (some ⟨R, 0, none⟩)] 41 (0, 0)) ∧ w.heap[b1]? = some (.cells #[.int .u8 (L[l])] 5 (0, 0)) ∧ w.heap[b2]? = some (.cells #[.int .i64 (l : Nat)] 3 (0, 0)) ∧ b0 ≠ R ∧ b1 ≠ R ∧ b2 ≠ R) (hblk : some b0 ≠ (Value.slice p l c).ownBlock ∧ some b1 ≠ (Value.slice p l c).ownBlock ∧ some b2 ≠ (Value.slice p l c).ownBlock)
    (h : ∀ p' c' w', OwF W0 w' R p' (l + 1) c' L → wpList Tryd.prog ops Q rest (a.put o.dst (.slice p' (l + 1) c')) w') : wpList Tryd.prog ops Q (o :: rest) a (w.alloc (.cells #[.func (.func 34) #[] #[.pointer (some ⟨b0, 0, none⟩), .pointer (some ⟨b1, 0, none⟩), .pointer (some ⟨b2, 0, none⟩)]] 32)) := by
  obtain ⟨i0, hi, hz0, hz1, hz2⟩ := info_parts info_fn
  obtain ⟨XS, h1, h2, h3⟩ := hb
  have h4 := h3.size
  have hsz : (w.alloc (.cells #[.func (.func 34) #[] #[.pointer (some ⟨b0, 0, none⟩), .pointer (some ⟨b1, 0, none⟩), .pointer (some ⟨b2, 0, none⟩)]] 32)).heap.size = w.heap.size + 1 := World.size_alloc _ _
  refine wpList_append_own_at _ hgd s x 39 ho W0.heap.size 32 i0 _ 1 8 Tryd.underlying39 hi hz0 hz1 hz2 rfl (by decide) (.slice p l c) l XS hs (h1.alloc _) ⟨w.heap.size, 0, none⟩ 1 1 [.func (.func 34) #[] #[.pointer (some ⟨b0, 0, none⟩), .pointer (some ⟨b1, 0, none⟩), .pointer (some ⟨b2, 0, none⟩)]] hx rfl ?_ ?_ (by unfold maxLen; omega) (by omega) (by omega) ?_
  · intro j u hj
    rw [Addr.add_lit, Nat.zero_add, row_cell (row_alloc w #[.func (.func 34) #[] #[.pointer (some ⟨b0, 0, none⟩), .pointer (some ⟨b1, 0, none⟩), .pointer (some ⟨b2, 0, none⟩)]] 32) j, List.getElem?_toArray]
    exact hj
  · intro u hu
    simp only [List.mem_cons, List.not_mem_nil, or_false] at hu
    subst hu
    rfl
  · intro v' w' hown hg _ hown'
    have hpc : ∃ p' c', v' = .slice p' (l + 1) c' := by
      rcases hown.2 with ⟨rfl, hn⟩ | ⟨g, cap, cur, rfl, _⟩
      · exact absurd hn (by omega)
      · exact ⟨_, _, rfl⟩
    obtain ⟨p', c', rfl⟩ := hpc
    have hlen := h1.1
    have hstay : ∀ b o, w.heap[b]? = some o → some b ≠ (Value.slice p l c).ownBlock → w'.heap[b]? = some o := fun b o hb hn => (hg.block b (by have := row_lt hb; omega) hn).trans ((Below.heap_alloc w _ b (row_lt hb)).trans hb)
    have hnew : ∀ b o, w.heap[b]? = some o → some b ≠ (Value.slice p l c).ownBlock → some b ≠ (Value.slice p' (l + 1) c').ownBlock := fun b o hb hn => by
      rcases hown' with e | e
      · rw [e]; exact hn
      · rw [e]
        have := row_lt hb
        intro e'
        injection e' with e'
        omega
    refine h p' c' w' ⟨XS ++ [.func (.func 34) #[] #[.pointer (some ⟨b0, 0, none⟩), .pointer (some ⟨b1, 0, none⟩), .pointer (some ⟨b2, 0, none⟩)]], hown, fun j hj hjl => ?_, Below.grown (h3.trans ((bel_alloc (Below.refl _ _) _).mono h4)) hg (by omega) (fun k hk => (h1.lt k hk).1)⟩
    by_cases hlt : j < l
    · obtain ⟨c0, c1, c2, hx', g0, g1, g2, n0, n1, n2, m0, m1, m2⟩ := h2 j hj hlt
      exact ⟨c0, c1, c2, by rw [List.getElem?_append_left (by omega)]; exact hx', hstay _ _ g0 m0, hstay _ _ g1 m1, hstay _ _ g2 m2, n0, n1, n2, hnew _ _ g0 m0, hnew _ _ g1 m1, hnew _ _ g2 m2⟩
    · obtain rfl : j = l := by omega
      obtain ⟨g0, g1, g2, n0, n1, n2⟩ := hrow
      obtain ⟨m0, m1, m2⟩ := hblk
      have hlen' : XS.length = j := by omega
      exact ⟨b0, b1, b2, by rw [List.getElem?_append_right (by omega), hlen', Nat.sub_self]; rfl, hstay _ _ g0 m0, hstay _ _ g1 m1, hstay _ _ g2 m2, n0, n1, n2, hnew _ _ g0 m0, hnew _ _ g1 m1, hnew _ _ g2 m2⟩
end
theorem first_bad : ∀ (X : List Int), ∃ jb, jb ≤ X.length ∧ (∀ j (h : j < X.length), j < jb → X[j] < 220) ∧ (∀ h : jb < X.length, 220 ≤ X[jb])
  | [] => ⟨0, Nat.le_refl _, fun j h => absurd h (Nat.not_lt_zero _), fun h => absurd h (Nat.not_lt_zero _)⟩
  | x :: X => by
    by_cases hx : 220 ≤ x
    · exact ⟨0, Nat.zero_le _, fun j _ h => absurd h (Nat.not_lt_zero _), fun _ => hx⟩
    · obtain ⟨jb, h1, h2, h3⟩ := first_bad X
      refine ⟨jb + 1, by simpa using h1, fun j h hj => ?_, fun h => ?_⟩
      · cases j with
        | zero => simp; omega
        | succ j => simpa using h2 j (by simpa using h) (by omega)
      · simpa using h3 (by simpa using h)
def wAt (jb : Nat) (w0 : Int) (k : Nat) : Int := if jb < k then w0 else 0
def cAt (jb k : Nat) : Int := if jb < k then ((jb + 1 : Nat) : Int) else (k : Int)
theorem wAt_le {jb k : Nat} {w0 : Int} (h : k ≤ jb) : wAt jb w0 k = 0 := by unfold wAt; rw [if_neg (by omega)]
theorem wAt_gt {jb k : Nat} {w0 : Int} (h : jb < k) : wAt jb w0 k = w0 := by unfold wAt; rw [if_pos h]
theorem cAt_le {jb k : Nat} (h : k ≤ jb) : cAt jb k = (k : Int) := by unfold cAt; rw [if_neg (by omega)]
theorem cAt_gt {jb k : Nat} (h : jb < k) : cAt jb k = ((jb + 1 : Nat) : Int) := by unfold cAt; rw [if_pos h]
theorem wantOf_ne {k : Int} (h : 220 ≤ k) : (wantOf k == 0) = false := by
  unfold wantOf
  rw [beq_eq_false_iff_ne]
  split <;> omega
end Num
end Go.Proofs.YtgeicgfijnabkaaDoor
