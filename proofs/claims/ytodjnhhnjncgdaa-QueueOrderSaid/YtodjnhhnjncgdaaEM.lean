/-
  A slice of int16 that came in; a slice of int64 that a law appends to and cuts at its beginning.
-/
import Derived.Test.YtodjnhhnjncgdaaRow
import Derived.Test.YtodjnhhnjncgdaaInts
import Derived.Deep.AppendSrc
import Derived.Laws.AppendOwn
import Derived.Deep.Slices
import Derived.ProofKit
namespace Go.Proofs.Ytodjnhhnjncgdaa
open Go.RowKit Go.ChangeShapes Go.WideShapes
namespace Num
open Ints
set_option linter.unusedSimpArgs false
set_option linter.unusedVariables false
/-- The slice of l int16 at p reads as X. -/
def RdH (w : World) (p : Option Addr) (l c : Nat) (X : List Int) : Prop := X.length = l ∧ l ≤ c ∧ c ≤ maxLen ∧
  (0 < l → ∃ b off, p = some ⟨b, off, none⟩ ∧ ∀ i (h : i < X.length), w.cell? ⟨b, off + i, none⟩ = some (.int .i16 X[i]))
def Short (X : List Int) : Prop := ∀ x ∈ X, -32768 ≤ x ∧ x < 32768
theorem list_ofH {α : Type} {P : Nat → α → Prop} : ∀ l, (∀ i, i < l → ∃ x, P i x) → ∃ L : List α, L.length = l ∧ ∀ i (h : i < L.length), P i L[i] := by
  intro l
  induction l with
  | zero => intro _; exact ⟨[], rfl, fun i h => absurd h (Nat.not_lt_zero _)⟩
  | succ l ih =>
    intro h
    obtain ⟨L, hl, hL⟩ := ih (fun i hi => h i (by omega))
    obtain ⟨x, hx⟩ := h l (by omega)
    refine ⟨L ++ [x], by simp [hl], fun i hi => ?_⟩
    by_cases hlt : i < L.length
    · rw [List.getElem_append_left hlt]; exact hL i hlt
    · have : i = L.length := by simp at hi; omega
      subst this
      rw [List.getElem_append_right (by omega)]
      simpa [hl] using hx
set_option maxRecDepth 100000 in
theorem rh_of_Trod {H : Type} {enc : TypeId × Value → H} {w : World} {base : Nat} {spare : Nat → Bool} {held : Bool} {v : Value} {d : DataW H} {ps : List MemPlace} {b0 : Nat} (h : DataW.Trod enc Try.prog w base spare held 44 v d ps) (ho : Value.okWide Try.prog w .any b0 44 v) :
    ∃ (p : Option Addr) (l c : Nat) (X : List Int), v = .slice p l c ∧ RdH w p l c X ∧ Short X := by
  obtain ⟨p, l, c, rfl⟩ := okWide_slice Try.underlying44 ho
  obtain ⟨fuel, hf⟩ := h
  rcases Go.Deep.open_slice1 Try.underlying44 (by kernel_rfl) (by simpa [Value.cells] using hf) with ⟨hc, _⟩ | ⟨a, len, cap, m, n, V, D, Pl, hc, _, hl, hm, hmm, _, hx⟩
  · simp only [List.cons.injEq, Value.slice.injEq, and_true] at hc
    obtain ⟨rfl, rfl, rfl⟩ := hc
    exact ⟨none, 0, 0, [], rfl, ⟨rfl, Nat.le_refl _, Nat.zero_le _, fun h => absurd h (Nat.lt_irrefl _)⟩, fun y hy => by cases hy⟩
  · simp only [List.cons.injEq, Value.slice.injEq, and_true] at hc
    obtain ⟨rfl, rfl, rfl⟩ := hc
    have hml : l ≤ m := by rw [hmm]; split <;> omega
    have fl : ∀ i, i < l → ∃ y : Int, w.cell? (a.add i) = some (.int .i16 y) ∧ -32768 ≤ y ∧ y < 32768 := by
      intro i hi
      obtain ⟨h1, h2⟩ := hx i (by omega)
      obtain ⟨y, hy1, _, hy2⟩ := DataW.trod_int Try.underlying47 h2
      simp only [List.cons.injEq, and_true] at hy1
      rw [hy1] at h1
      refine ⟨y, h1, ?_⟩
      simp only [Lit.wf, decide_eq_true_eq, IntKind.min, IntKind.max] at hy2
      have h3 : IntKind.i16.bits = 16 := rfl
      simp [IntKind.signed, h3] at hy2
      omega
    obtain ⟨L, hL, hE⟩ := list_ofH l fl
    refine ⟨some a, l, c, L, rfl, ⟨hL, hl, hm, fun hl0 => ?_⟩, fun y hy => ?_⟩
    · obtain ⟨b, off, spot⟩ := a
      have h0 := (hE 0 (by omega)).1
      have hspot : spot = none := by
        simp only [Addr.add, if_true] at h0
        cases hs : spot with
        | none => rfl
        | some z =>
          rw [hs] at h0
          simp [World.cell?] at h0
          split at h0 <;> simp_all
      subst hspot
      refine ⟨b, off, rfl, fun i hi => ?_⟩
      have := (hE i hi).1
      have e : (Addr.add ⟨b, off, none⟩ i) = ⟨b, off + i, none⟩ := by unfold Addr.add; split <;> simp_all
      rwa [e] at this
    · obtain ⟨i, hi, rfl⟩ := List.getElem_of_mem hy
      exact (hE i hi).2
theorem rh_keep {w w' : World} {p : Option Addr} {l c : Nat} {X : List Int} (hb : Below w.heap.size w w') (h : RdH w p l c X) : RdH w' p l c X := ⟨h.1, h.2.1, h.2.2.1, fun hl => by
  obtain ⟨b, off, rfl, hi⟩ := h.2.2.2 hl
  exact ⟨b, off, rfl, fun i h => cell_keep hb (hi i h)⟩⟩
/-- The law's own slice of int64. -/
def OwW (W0 w : World) (p : Option Addr) (l c : Nat) (X : List Int) : Prop := X.length = l ∧ l ≤ c ∧ c ≤ maxLen ∧
  ((p = none ∧ c = 0) ∨ ∃ g off, p = some ⟨g, off, none⟩ ∧ W0.heap.size ≤ g ∧ g < w.heap.size ∧ (∀ j, j < c → (w.cell? ⟨g, off + j, none⟩).isSome = true) ∧ (∀ o, w.frozen? ⟨g, o, none⟩ = false) ∧ ∀ i (h : i < X.length), w.cell? ⟨g, off + i, none⟩ = some (.int .i64 X[i]))
theorem ow_new (W0 w : World) : OwW W0 w none 0 0 [] := ⟨rfl, Nat.le_refl _, Nat.zero_le _, Or.inl ⟨rfl, rfl⟩⟩
/-- It stays where its block stays. -/
theorem oww_keep {W0 w w' : World} {p : Option Addr} {l c : Nat} {X : List Int} (h : OwW W0 w p l c X) (hs : w.heap.size ≤ w'.heap.size) (hk : ∀ a, p = some a → w'.heap[a.block]? = w.heap[a.block]?) : OwW W0 w' p l c X := by
  obtain ⟨h1, h2, h3, h4⟩ := h
  refine ⟨h1, h2, h3, ?_⟩
  rcases h4 with h4 | ⟨g, off, rfl, h5, h6, h7, h8, h9⟩
  · exact Or.inl h4
  · have e := hk _ rfl
    refine Or.inr ⟨g, off, rfl, h5, Nat.lt_of_lt_of_le h6 hs, fun j hj => ?_, fun o => ?_, fun i hi => ?_⟩
    · rw [World.cell?_of_block (w := w) (a := ⟨g, off + j, none⟩) e]; exact h7 j hj
    · rw [World.frozen?_of_block (w := w) (a := ⟨g, o, none⟩) e]; exact h8 o
    · rw [World.cell?_of_block (w := w) (a := ⟨g, off + i, none⟩) e]; exact h9 i hi
theorem oww_below {W0 w w' : World} {p : Option Addr} {l c : Nat} {X : List Int} (h : OwW W0 w p l c X) (hb : Below w.heap.size w w') : OwW W0 w' p l c X := oww_keep h hb.size (fun a ha => by
  rcases h.2.2.2 with ⟨hn, _⟩ | ⟨g, off, hp, _, hg, _⟩
  · rw [hn] at ha; cases ha
  · rw [hp] at ha; cases ha; exact hb.block g hg)
theorem oww_at {W0 w : World} {p : Option Addr} {l c : Nat} {X : List Int} (h : OwW W0 w p l c X) (hl : 0 < l) : ∃ g off, p = some ⟨g, off, none⟩ ∧ W0.heap.size ≤ g ∧ g < w.heap.size ∧ ∀ i (hi : i < X.length), w.cell? ⟨g, off + i, none⟩ = some (.int .i64 X[i]) := by
  obtain ⟨h1, h2, h3, h4⟩ := h
  rcases h4 with ⟨_, h4⟩ | ⟨g, off, hp, hg0, hg, _, _, hx⟩
  · omega
  · exact ⟨g, off, hp, hg0, hg, hx⟩
theorem oww_tail {W0 w : World} {g off l c : Nat} {X : List Int} (h : OwW W0 w (some ⟨g, off, none⟩) l c X) (hl : 0 < l) : OwW W0 w (if c = 1 then some ⟨g, off, none⟩ else some ⟨g, off + 1, none⟩) (l - 1) (c - 1) (X.drop 1) := by
  obtain ⟨h1, h2, h3, h4⟩ := h
  refine ⟨by rw [List.length_drop]; omega, by omega, by omega, Or.inr ?_⟩
  rcases h4 with ⟨h4, _⟩ | ⟨g', off', hp, hg0, hg, h7, h8, h9⟩
  · cases h4
  · cases hp
    by_cases hc : c = 1
    · rw [if_pos hc]
      refine ⟨g, off, rfl, hg0, hg, fun j hj => by omega, h8, fun i hi => ?_⟩
      rw [List.length_drop] at hi; omega
    · rw [if_neg hc]
      refine ⟨g, off + 1, rfl, hg0, hg, fun j hj => ?_, h8, fun i hi => ?_⟩
      · have := h7 (1 + j) (by omega); rwa [← Nat.add_assoc] at this
      · rw [List.length_drop] at hi
        have := h9 (1 + i) (by omega)
        rw [← Nat.add_assoc] at this
        rw [List.getElem_drop]; exact this
theorem info_i64 : (Try.prog.info? 2).map (fun i => (i.zero, i.size, i.bytes)) = some (some (.int .i64 0), 1, 8) := by kernel_rfl
theorem zc_size (n : Nat) : (Builtin.zeroCells (Value.int .i64 0).cells n).size = n := by rw [size_zeroCells]; simp [Value.cells]
/-- One more behind it. -/
theorem run_oww (W0 w : World) (ty : TypeId) (p : Option Addr) (l c : Nat) (X : List Int) (gs : Nat) (x : Int) (h : OwW W0 w p l c X) (h0 : W0.heap.size ≤ w.heap.size) (hs : w.heap[gs]? = some (.cells #[.int .i64 x] 2 (0, 0))) (hl : l ≤ 1000) :
    ∃ p' c' w', (Builtin.append_ #[46, 46] ty #[.slice p l c, .slice (some ⟨gs, 0, none⟩) 1 1]).run Try.prog w = .ok (.slice p' (l + 1) c') w' ∧ OwW W0 w' p' (l + 1) c' (X ++ [x]) ∧ w.grownBy w' (p.map (·.block)) := by
  obtain ⟨i0, hi, hz0, hz1, hz2⟩ := info_parts info_i64
  obtain ⟨h1, h2, h3, h4⟩ := h
  have hnews : ∀ j u, [Value.int .i64 x][j]? = some u → w.cell? ((⟨gs, 0, none⟩ : Addr).add j) = some u := by
    intro j u hj
    rw [Addr.add_lit, Nat.zero_add, row_cell hs j, List.getElem?_toArray]
    exact hj
  have hone : ∀ u ∈ [Value.int .i64 x], u.oneCell' = true := by
    intro u hu
    simp only [List.mem_cons, List.not_mem_nil, or_false] at hu
    subst hu; rfl
  have hsrc := Src.ofSlice (P := Try.prog) w (size := i0.size) Try.underlying46 ⟨gs, 0, none⟩ 1 1 [.int .i64 x] (by rw [hz1]; rfl) hnews hone
  by_cases hr : l + 1 ≤ c
  · rcases h4 with ⟨_, h4⟩ | ⟨g, off, rfl, hg0, hg, h7, h8, h9⟩
    · omega
    · have hrun := run_append_room_src (P := Try.prog) w 46 46 ty 2 i0 Try.underlying46 hi g off l c _ 1 _ hsrc hr (fun j hj => by
        have hj' : j = 0 := by simp at hj; omega
        subst hj'
        rw [hz1]; exact h7 (l * 1) (by omega)) (fun j _ => h8 _)
      rw [hz1, Nat.mul_one] at hrun
      have hset : w.setCells g (off + l) [Value.int .i64 x] = w.setCell ⟨g, off + l, none⟩ (.int .i64 x) := rfl
      rw [hset] at hrun
      refine ⟨_, _, _, hrun, ⟨by rw [List.length_append, h1]; rfl, hr, h3, Or.inr ⟨g, off, rfl, hg0, by show g < (w.setCell _ _).heap.size; rw [World.size_setCell]; exact hg, fun j hj => ?_, fun o => ?_, fun i hi => ?_⟩⟩, ⟨rfl, rfl, rfl, by rw [World.size_setCell]; exact Nat.le_refl _, fun k hk hne => Below.heap_setCell _ _ _ _ (fun e => hne (by rw [e]; rfl))⟩⟩
      · by_cases hjl : j = l
        · subst hjl
          rw [World.cell?_setCell_same' w ⟨g, off + j, none⟩ _ (h7 j hj)]; rfl
        · rw [World.cell?_setCell_other _ _ _ _ (fun e => hjl (by have := congrArg Addr.off e; simp at this; omega))]; exact h7 j hj
      · rw [World.frozen?_setCell]; exact h8 o
      · rw [List.length_append, h1] at hi
        by_cases hil : i < l
        · rw [World.cell?_setCell_other _ _ _ _ (fun e => by have := congrArg Addr.off e; simp at this; omega), List.getElem_append_left (by omega)]
          exact h9 i (by omega)
        · have hi' : i = l := by simp at hi; omega
          subst hi'
          rw [World.cell?_setCell_same' w ⟨g, off + i, none⟩ _ (h7 i (by omega)), List.getElem_append_right (by omega)]
          simp [h1]
  · have hlt : c < l + 1 := by omega
    have hc : c = l := by omega
    have holds : (Builtin.firstCells i0.size l (.slice p l c)).run Try.prog w.drew = .ok (X.map (Value.int .i64)).toArray w.drew := by
      rcases h4 with ⟨rfl, h4⟩ | ⟨g, off, rfl, hg0, hg, h7, h8, h9⟩
      · have hl0 : l = 0 := by omega
        subst hl0
        obtain rfl : X = [] := List.eq_nil_of_length_eq_zero h1
        exact run_firstCells_none w.drew i0.size 0 0 c
      · refine run_firstCells_some (P := Try.prog) w.drew i0.size l ⟨g, off, none⟩ l c _ (by rw [List.length_map, h1, hz1, Nat.mul_one]) (fun j u hj => ?_)
        rw [List.getElem?_map] at hj
        have hjl : j < X.length := by
          by_cases hjl : j < X.length
          · exact hjl
          · rw [List.getElem?_eq_none (by omega)] at hj; cases hj
        rw [List.getElem?_eq_getElem hjl] at hj
        simp only [Option.map_some, Option.some.injEq] at hj
        subst hj
        rw [Addr.add_lit]
        exact h9 j hjl
    have hnx : Builtin.nextslicecap (l + 1) c * i0.bytes ≤ 281474976710656 := by
      rw [hz2]
      have := nextslicecap_le (need := l + 1) (old := c) (by omega)
      omega
    have hrun := run_append_grow_src (P := Try.prog) w 46 46 ty 2 i0 (.int .i64 0) Try.underlying46 hi hz0 p l c _ holds _ 1 _ hsrc hlt (by omega) hnx
    have hcap1 : l + 1 ≤ grownCap w (l + 1) c 2 := grownCap_ge w (l + 1) c _
    have hcap2 := grownCap_le_maxLen w (l + 1) c 2 (by unfold maxLen; omega)
    generalize grownCap w (l + 1) c 2 = C at hrun hcap1 hcap2
    have hrow := row_alloc w.drew ((X.map (Value.int .i64) ++ [Value.int .i64 x]).toArray ++ Builtin.zeroCells (Value.int .i64 0).cells (C - (l + 1))) 2
    refine ⟨_, _, _, hrun, ⟨by rw [List.length_append, h1]; rfl, hcap1, hcap2, Or.inr ⟨w.heap.size, 0, rfl, h0, by rw [World.size_alloc]; exact Nat.lt_succ_self _, fun j hj => ?_, fun o => row_frz hrow o, fun i hi => ?_⟩⟩, ⟨rfl, rfl, rfl, by rw [World.size_alloc]; exact Nat.le_succ _, fun k hk _ => Below.heap_alloc _ _ _ hk⟩⟩
    · rw [show (⟨w.heap.size, 0 + j, none⟩ : Addr) = ⟨w.drew.heap.size, 0 + j, none⟩ from rfl, row_cell hrow, Nat.zero_add]
      rw [Array.getElem?_eq_getElem (by rw [Array.size_append, zc_size, List.size_toArray, List.length_append, List.length_map, h1]; simp; omega)]
      rfl
    · rw [List.length_append, h1] at hi
      have hi' : i < l + 1 := by simpa using hi
      rw [show (⟨w.heap.size, 0 + i, none⟩ : Addr) = ⟨w.drew.heap.size, 0 + i, none⟩ from rfl, row_cell hrow, Nat.zero_add]
      rw [Array.getElem?_append_left (by rw [List.size_toArray, List.length_append, List.length_map, h1]; exact hi'), List.getElem?_toArray]
      have e : X.map (Value.int .i64) ++ [Value.int .i64 x] = (X ++ [x]).map (Value.int .i64) := by rw [List.map_append]; rfl
      rw [e, List.getElem?_map, List.getElem?_eq_getElem (by rw [List.length_append, h1]; exact hi)]
      rfl
section
variable {ops : Array Oper} {rest : List Oper} {o : Oper} {a : Act} {Q : Exit → Act → World → Prop}
theorem wp_oww (hgd : o.guard = none) (s x : Operand) (ho : o.op = .call { callee := .builtin .append, args := #[s, x], argTypes := #[46, 46] })
    (W0 w : World) (p : Option Addr) (l c : Nat) (X : List Int) (gs : Nat) (y : Int) (hs : a.eval s = .slice p l c) (hx : a.eval x = .slice (some ⟨gs, 0, none⟩) 1 1) (h : OwW W0 w p l c X) (h0 : W0.heap.size ≤ w.heap.size) (hr : w.heap[gs]? = some (.cells #[.int .i64 y] 2 (0, 0))) (hl : l ≤ 1000)
    (hn : ∀ p' c' w', OwW W0 w' p' (l + 1) c' (X ++ [y]) → w.grownBy w' (p.map (·.block)) → wpList Try.prog ops Q rest (a.put o.dst (.slice p' (l + 1) c')) w') : wpList Try.prog ops Q (o :: rest) a w := by
  obtain ⟨p', c', w', hrun, how, hg⟩ := run_oww W0 w o.type p l c X gs y h h0 hr hl
  refine wpList_plain hgd fun K hK => ?_
  unfold Oper.wp execOp
  simp only [ho, resolve, invoke, builtin, Sem.run_bind, Sem.run_pure, Result.andThen_ok, List.map_toArray, List.map_cons, List.map_nil, hs, hx, hrun]
  exact hK _ _ (hn p' c' w' how hg)
end
theorem oww_blk {W0 w : World} {p : Option Addr} {l c : Nat} {X : List Int} (h : OwW W0 w p l c X) : ∀ k, p.map (·.block) = some k → W0.heap.size ≤ k ∧ k < w.heap.size := by
  intro k hk
  rcases h.2.2.2 with ⟨hn, _⟩ | ⟨g, off, hp, h1, h2, _⟩
  · rw [hn] at hk; cases hk
  · rw [hp] at hk; cases hk; exact ⟨h1, h2⟩
end Num
end Go.Proofs.Ytodjnhhnjncgdaa
