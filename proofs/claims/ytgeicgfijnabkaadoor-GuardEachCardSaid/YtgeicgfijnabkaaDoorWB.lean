/-
  Byte slices: what one reads as, one that a call owns; what appends of a byte, of two, of a slice, of a string make of one; strings of bytes.
-/
import Derived.Test.YtgeicgfijnabkaaDoorInts
import Derived.Test.YtgeicgfijnabkaaDoorRow
import Derived.Test.YtgeicgfijnabkaaDoorOB
import Derived.Maps.AppendAt
import Derived.ArgAppend
import Derived.Laws.BytesString
import Derived.Laws.BytesArg
import Derived.Laws.AppendOwnNone
import Derived.Lib.AppendStr
import Derived.Laws.MakeOwn
namespace Go.Proofs.YtgeicgfijnabkaaDoor
open Go.RowKit
namespace Num
open Ints
set_option linter.unusedSimpArgs false
set_option linter.unusedVariables false
/-- The slice of l bytes at p reads as X. -/
def RdB (w : World) (p : Option Addr) (l c : Nat) (X : List Int) : Prop := X.length = l ∧ l ≤ c ∧ c ≤ maxLen ∧
  (0 < l → ∃ b off, p = some ⟨b, off, none⟩ ∧ ∀ i (h : i < X.length), w.cell? ⟨b, off + i, none⟩ = some (.int .u8 X[i])) ∧ (p = none → c = 0)
/-- The slice is the call's own, made since W0; of what W0 had nothing has turned. -/
def OwB (W0 w : World) (p : Option Addr) (l c : Nat) (X : List Int) : Prop := X.length = l ∧ w.ownsRow W0.heap.size 5 1 (.slice p l c) l (X.map (Value.int .u8)) ∧ Below W0.heap.size W0 w ∧ W0.heap.size ≤ w.heap.size
theorem info_b8 : (Tryd.prog.info? 5).map (fun i => (i.zero, i.size, i.bytes)) = some (some (.int .u8 0), 1, 1) := by kernel_rfl
theorem rd_nil (w : World) : RdB w none 0 0 [] := ⟨rfl, Nat.le_refl _, Nat.zero_le _, fun h => absurd h (Nat.lt_irrefl _), fun _ => rfl⟩
theorem rd_src {w : World} {p : Option Addr} {l c : Nat} {X : List Int} (h : RdB w p l c X) {ad : Addr} (hp : p = some ad) : ∀ j u, (X.map (Value.int .u8))[j]? = some u → w.cell? (ad.add j) = some u := by
  intro j u hj
  obtain ⟨h1, h2, h3, h4, _⟩ := h
  have hjl : j < X.length := by
    by_cases hjl : j < X.length
    · exact hjl
    · rw [List.getElem?_eq_none (by rw [List.length_map]; omega)] at hj; cases hj
  obtain ⟨b, off, hq, hc⟩ := h4 (by omega)
  rw [hp] at hq
  cases hq
  rw [Addr.add_lit, hc j hjl]
  rw [List.getElem?_map, List.getElem?_eq_getElem hjl] at hj
  simpa using hj
theorem rd_of_ow {W0 w : World} {p : Option Addr} {l c : Nat} {X : List Int} (h : OwB W0 w p l c X) : RdB w p l c X := by
  obtain ⟨h1, ho, _⟩ := h
  have ho2 := ho
  rcases ho.2 with ⟨hv, h0⟩ | ⟨g, cap, cur, hv, _, _, hle, hm, _⟩
  · injection hv with e1 e2 e3
    subst e1 e2 e3
    exact ⟨h1, Nat.le_refl _, Nat.zero_le _, fun h => absurd h (Nat.lt_irrefl _), fun _ => rfl⟩
  · injection hv with e1 e2 e3
    subst e1 e3
    refine ⟨h1, hle, hm, fun _ => ⟨g, 0, rfl, fun i hi => ?_⟩, fun h => by cases h⟩
    have := ho2.cells (g := g) rfl i (.int .u8 X[i]) (by rw [List.getElem?_map, List.getElem?_eq_getElem hi]; rfl)
    rw [Addr.add_lit] at this
    exact this
theorem rd_keep {w w' : World} (hb : Below w.heap.size w w') {p : Option Addr} {l c : Nat} {X : List Int} (h : RdB w p l c X) : RdB w' p l c X := by
  obtain ⟨h1, h2, h3, h4, h5⟩ := h
  refine ⟨h1, h2, h3, fun hl => ?_, h5⟩
  obtain ⟨b, off, hp, hc⟩ := h4 hl
  exact ⟨b, off, hp, fun i hi => cell_keep hb (hc i hi)⟩
theorem rd_grown {w w' : World} {row : Option Nat} (hg : w.grownBy w' row) {p : Option Addr} {l c : Nat} {X : List Int} (hne : ∀ b off, p = some ⟨b, off, none⟩ → some b ≠ row) (h : RdB w p l c X) : RdB w' p l c X := by
  obtain ⟨h1, h2, h3, h4, h5⟩ := h
  refine ⟨h1, h2, h3, fun hl => ?_, h5⟩
  obtain ⟨b, off, hp, hc⟩ := h4 hl
  exact ⟨b, off, hp, fun i hi => hg.cell (hc i hi) (hne b off hp)⟩
theorem ow_keep {W0 w w' : World} {p : Option Addr} {l c : Nat} {X : List Int} (h : OwB W0 w p l c X) (hb : Below w.heap.size w w') : OwB W0 w' p l c X := by
  obtain ⟨h1, h2, h3, h4⟩ := h
  refine ⟨h1, h2.kept (bel_own hb none) ?_, h3.trans (hb.mono h4), Nat.le_trans h4 hb.size⟩
  cases Value.ownBlock (.slice p l c) with
  | none => exact Or.inl rfl
  | some k => exact Or.inr (by simp)
theorem ow_alloc {W0 w : World} {p : Option Addr} {l c : Nat} {X : List Int} (h : OwB W0 w p l c X) (o : Obj) : OwB W0 (w.alloc o) p l c X :=
  ow_keep h ((Below.refl _ _).alloc (Nat.le_refl _) _)
/-- What is owned since W1 is owned since an earlier W0. -/
theorem ow_base {W0 W1 w : World} {p : Option Addr} {l c : Nat} {X : List Int} (hb : Below W0.heap.size W0 W1) (h : OwB W1 w p l c X) : OwB W0 w p l c X := by
  obtain ⟨h1, h2, h3, h4⟩ := h
  refine ⟨h1, ⟨h2.1, ?_⟩, hb.trans (h3.mono hb.size), Nat.le_trans hb.size h4⟩
  rcases h2.2 with hn | ⟨g, cap, cur, hv, hbg, rest⟩
  · exact Or.inl hn
  · exact Or.inr ⟨g, cap, cur, hv, Nat.le_trans hb.size hbg, rest⟩
theorem ow_bel {W0 w : World} {p : Option Addr} {l c : Nat} {X : List Int} (h : OwB W0 w p l c X) : Below W0.heap.size W0 w := h.2.2.1
theorem ow_nil (w : World) : OwB w w none 0 0 [] := ⟨rfl, World.ownsRow_nil _ _ _ _, Below.refl _ _, Nat.le_refl _⟩
/-- What an append leaves of what is owned. -/
theorem ow_grown {W0 w w' : World} {p : Option Addr} {l c m : Nat} {X Y : List Int} {v' : Value} (h : OwB W0 w p l c X) (hy : Y.length = m) (ho : w'.ownsRow W0.heap.size 5 1 v' (l + m) (X.map (Value.int .u8) ++ Y.map (Value.int .u8))) (hg : w.grownBy w' (Value.slice p l c).ownBlock) :
    ∃ p' c', v' = .slice p' (l + m) c' ∧ OwB W0 w' p' (l + m) c' (X ++ Y) := by
  obtain ⟨p', c', rfl⟩ := own_form ho
  obtain ⟨h1, h2, h3, h4⟩ := h
  exact ⟨p', c', rfl, by rw [List.length_append, h1, hy], by rw [List.map_append]; exact ho, Below.grown h3 hg h4 (fun k hk => (h2.lt k hk).1), Nat.le_trans h4 hg.size⟩
section
variable {ops : Array Oper} {rest : List Oper} {o : Oper} {a : Act} {Q : Exit → Act → World → Prop}
/-- A byte behind what is owned. -/
theorem wp_ob1 (hgd : o.guard = none) (s x : Operand) (ho : o.op = .call { callee := .builtin .append, args := #[s, x], argTypes := #[38, 38] })
    (W0 w : World) (p : Option Addr) (l c : Nat) (X : List Int) (n : Int) (hs : a.eval s = .slice p l c) (hx : a.eval x = .slice (some ⟨w.heap.size, 0, none⟩) 1 1) (hb : OwB W0 w p l c X) (hl : l ≤ 1000000)
    (h : ∀ p' c' w', OwB W0 w' p' (l + 1) c' (X ++ [n]) → (w.alloc (.cells #[.int .u8 n] 5)).grownBy w' (Value.slice p l c).ownBlock → wpList Tryd.prog ops Q rest (a.put o.dst (.slice p' (l + 1) c')) w') : wpList Tryd.prog ops Q (o :: rest) a (w.alloc (.cells #[.int .u8 n] 5)) := by
  obtain ⟨i0, hi, hz0, hz1, hz2⟩ := info_parts info_b8
  have hb' := ow_alloc hb (.cells #[.int .u8 n] 5)
  refine wpList_append_own_at _ hgd s x 38 ho W0.heap.size 5 i0 (.int .u8 0) 1 1 Tryd.underlying38 hi hz0 hz1 hz2 rfl (by decide) (.slice p l c) l (X.map (Value.int .u8)) hs hb'.2.1 ⟨w.heap.size, 0, none⟩ 1 1 ([n].map (Value.int .u8)) hx rfl ?_ (ints_oneCell _ _) (by unfold maxLen; omega) (by omega) hb'.2.2.2 ?_
  · intro j u hj
    simp only [List.map_cons, List.map_nil] at hj
    rw [Addr.add_lit, Nat.zero_add, row_cell (row_alloc w #[.int .u8 n] 5) j, List.getElem?_toArray]
    exact hj
  · intro v' w' hown hg _ _
    obtain ⟨p', c', rfl, hn⟩ := ow_grown hb' rfl hown hg
    exact h p' c' w' hn hg
/-- Two bytes behind what is owned. -/
theorem wp_ob2 (hgd : o.guard = none) (s x : Operand) (ho : o.op = .call { callee := .builtin .append, args := #[s, x], argTypes := #[38, 38] })
    (W0 w : World) (p : Option Addr) (l c : Nat) (X : List Int) (n m : Int) (hs : a.eval s = .slice p l c) (hx : a.eval x = .slice (some ⟨w.heap.size, 0, none⟩) 2 2) (hb : OwB W0 w p l c X) (hl : l ≤ 1000000)
    (h : ∀ p' c' w', OwB W0 w' p' (l + 2) c' (X ++ [n, m]) → (w.alloc (.cells #[.int .u8 n, .int .u8 m] 5)).grownBy w' (Value.slice p l c).ownBlock → wpList Tryd.prog ops Q rest (a.put o.dst (.slice p' (l + 2) c')) w') : wpList Tryd.prog ops Q (o :: rest) a (w.alloc (.cells #[.int .u8 n, .int .u8 m] 5)) := by
  obtain ⟨i0, hi, hz0, hz1, hz2⟩ := info_parts info_b8
  have hb' := ow_alloc hb (.cells #[.int .u8 n, .int .u8 m] 5)
  refine wpList_append_own_at _ hgd s x 38 ho W0.heap.size 5 i0 (.int .u8 0) 1 1 Tryd.underlying38 hi hz0 hz1 hz2 rfl (by decide) (.slice p l c) l (X.map (Value.int .u8)) hs hb'.2.1 ⟨w.heap.size, 0, none⟩ 2 2 ([n, m].map (Value.int .u8)) hx rfl ?_ (ints_oneCell _ _) (by unfold maxLen; omega) (by omega) hb'.2.2.2 ?_
  · intro j u hj
    simp only [List.map_cons, List.map_nil] at hj
    rw [Addr.add_lit, Nat.zero_add, row_cell (row_alloc w #[.int .u8 n, .int .u8 m] 5) j, List.getElem?_toArray]
    exact hj
  · intro v' w' hown hg _ _
    obtain ⟨p', c', rfl, hn⟩ := ow_grown hb' rfl hown hg
    exact h p' c' w' hn hg
/-- A byte behind a slice that came in and has no room. -/
theorem wp_tb1 (hgd : o.guard = none) (s x : Operand) (ho : o.op = .call { callee := .builtin .append, args := #[s, x], argTypes := #[38, 38] })
    (w : World) (p : Option Addr) (l : Nat) (X : List Int) (n : Int) (hs : a.eval s = .slice p l l) (hx : a.eval x = .slice (some ⟨w.heap.size, 0, none⟩) 1 1) (hb : RdB w p l l X) (hl : l ≤ 1000000)
    (h : ∀ p' c' w', OwB w w' p' (l + 1) c' (X ++ [n]) → (w.alloc (.cells #[.int .u8 n] 5)).grownBy w' none → wpList Tryd.prog ops Q rest (a.put o.dst (.slice p' (l + 1) c')) w') : wpList Tryd.prog ops Q (o :: rest) a (w.alloc (.cells #[.int .u8 n] 5)) := by
  obtain ⟨i0, hi, hz0, hz1, hz2⟩ := info_parts info_b8
  have hb' := rd_keep ((Below.refl w.heap.size w).alloc (Nat.le_refl _) (.cells #[.int .u8 n] 5)) hb
  refine wpList_append_grows _ hgd s x 38 ho 5 i0 (.int .u8 0) 1 1 Tryd.underlying38 hi hz0 hz1 hz2 rfl (by decide) p l l (X.map (Value.int .u8)) hs (fun e => ⟨hb.2.2.2.2 e, hb.2.2.2.2 e⟩) (by rw [List.length_map, hb.1]; omega) (fun b e => rd_src hb' e) ⟨w.heap.size, 0, none⟩ 1 1 ([n].map (Value.int .u8)) hx rfl ?_ (ints_oneCell _ _) (by omega) (by unfold maxLen; omega) (by omega) ?_
  · intro j u hj
    simp only [List.map_cons, List.map_nil] at hj
    rw [Addr.add_lit, Nat.zero_add, row_cell (row_alloc w #[.int .u8 n] 5) j, List.getElem?_toArray]
    exact hj
  · intro v' w' hown hg
    obtain ⟨p', c', rfl⟩ := own_form hown
    have hB : Below w.heap.size w (w.alloc (.cells #[.int .u8 n] 5)) := (Below.refl _ _).alloc (Nat.le_refl _) _
    refine h p' c' w' ⟨by rw [List.length_append, hb.1]; rfl, ⟨by rw [List.map_append]; exact hown.1, ?_⟩, Below.grown hB hg hB.size (fun k hk => by cases hk), Nat.le_trans hB.size hg.size⟩ hg
    rcases hown.2 with hn | ⟨g, cap, cur, hv, hbg, rest⟩
    · exact Or.inl hn
    · exact Or.inr ⟨g, cap, cur, hv, Nat.le_trans hB.size hbg, by rw [List.map_append]; exact rest⟩
/-- A string behind what is owned. -/
theorem wp_obS (hgd : o.guard = none) (s x : Operand) (ho : o.op = .call { callee := .builtin .append, args := #[s, x], argTypes := #[38, 9] })
    (W0 w : World) (p : Option Addr) (l c : Nat) (X : List Int) (t : ByteArray) (hs : a.eval s = .slice p l c) (hx : a.eval x = .string t) (hb : OwB W0 w p l c X) (hl : l ≤ 1000000) (ht : t.size ≤ 1000000)
    (h : ∀ p' c' w', OwB W0 w' p' (l + t.size) c' (X ++ t.data.toList.map fun b => (b.toNat : Int)) → w.grownBy w' (Value.slice p l c).ownBlock → wpList Tryd.prog ops Q rest (a.put o.dst (.slice p' (l + t.size) c')) w') : wpList Tryd.prog ops Q (o :: rest) a w := by
  obtain ⟨i0, hi, hz0, hz1, hz2⟩ := info_parts info_b8
  refine Lib.wpList_append_own_string _ hgd s x 38 9 ho W0.heap.size 5 i0 Tryd.underlying38 Tryd.underlying9 hi hz0 hz1 hz2 (.slice p l c) l (X.map (Value.int .u8)) hs hb.2.1 t hx (by unfold maxLen; omega) (by omega) hb.2.2.2 ?_
  intro v' w' hown hg _
  obtain ⟨p', c', rfl, hn⟩ := ow_grown hb (Y := t.data.toList.map fun b => (b.toNat : Int)) (m := t.size) (by rw [List.length_map, Array.length_toList]; rfl) (by
    have e : Lib.strCells t = (t.data.toList.map fun b => (b.toNat : Int)).map (Value.int .u8) := by unfold Lib.strCells; rw [List.map_map]; rfl
    rw [← e]; exact hown) hg
  exact h p' c' w' hn hg
/-- A slice behind what is owned. -/
theorem wp_obR (hgd : o.guard = none) (s x : Operand) (ho : o.op = .call { callee := .builtin .append, args := #[s, x], argTypes := #[38, 38] })
    (W0 w : World) (p : Option Addr) (l c : Nat) (X : List Int) (q : Option Addr) (m d : Nat) (Y : List Int) (hs : a.eval s = .slice p l c) (hx : a.eval x = .slice q m d) (hb : OwB W0 w p l c X) (hr : RdB w q m d Y) (hl : l ≤ 1000000) (hm : m ≤ 1000000)
    (h : ∀ p' c' w', OwB W0 w' p' (l + m) c' (X ++ Y) → w.grownBy w' (Value.slice p l c).ownBlock → wpList Tryd.prog ops Q rest (a.put o.dst (.slice p' (l + m) c')) w') : wpList Tryd.prog ops Q (o :: rest) a w := by
  obtain ⟨i0, hi, hz0, hz1, hz2⟩ := info_parts info_b8
  cases q with
  | none =>
    have hd := hr.2.2.2.2 rfl
    have hm0 : m = 0 := by have := hr.2.1; omega
    subst hd
    subst hm0
    have hY : Y = [] := List.eq_nil_of_length_eq_zero hr.1
    subst hY
    refine wpList_append_own_none hgd s x 38 ho W0.heap.size 5 i0 1 Tryd.underlying38 hi (.slice p l c) l (X.map (Value.int .u8)) hs hb.2.1 hx ?_
    have := h p c w (by rw [List.append_nil]; exact hb) (World.grownBy.refl w _)
    exact this
  | some ad =>
    refine wpList_append_own_at _ hgd s x 38 ho W0.heap.size 5 i0 (.int .u8 0) 1 1 Tryd.underlying38 hi hz0 hz1 hz2 rfl (by decide) (.slice p l c) l (X.map (Value.int .u8)) hs hb.2.1 ad m d (Y.map (Value.int .u8)) hx (by rw [List.length_map, hr.1]; omega) (rd_src hr rfl) (ints_oneCell _ _) (by unfold maxLen; omega) (by omega) hb.2.2.2 ?_
    intro v' w' hown hg _ _
    obtain ⟨p', c', rfl, hn⟩ := ow_grown hb hr.1 hown hg
    exact h p' c' w' hn hg
end
/-- The string of bytes. -/
def strB (X : List Int) : ByteArray := strOfNums X
theorem rd_string {w : World} {p : Option Addr} {l c : Nat} {X : List Int} (h : RdB w p l c X) : (convert 38 9 (.slice p l c)).run Tryd.prog w = .ok (.string (strB X)) w := by
  obtain ⟨h1, h2, h3, h4, h5⟩ := h
  by_cases hl : 0 < l
  · obtain ⟨b, off, rfl, hc⟩ := h4 hl
    exact run_convert_bytes_arg w 38 5 Tryd.underlying38 Tryd.underlying5 b off l c X h1 (fun i hi => by
      have hi' : i < X.length := by omega
      rw [hc i hi', List.getD, List.getElem?_eq_getElem hi']; rfl) 9 Tryd.underlying9
  · obtain rfl : l = 0 := by omega
    obtain rfl : X = [] := List.eq_nil_of_length_eq_zero h1
    cases p with
    | none =>
      rw [run_convert_bytes_nil w 38 5 Tryd.underlying38 Tryd.underlying5 0 c 9 Tryd.underlying9]
      rfl
    | some ad =>
      have hl := run_loadCells_list (P := Tryd.prog) w ad [] (fun j v hj => by simp at hj)
      rw [List.length_nil] at hl
      rw [run_convert_bytes_string w 38 9 5 _ _ _ Tryd.underlying38 Tryd.underlying5 Tryd.underlying9, run_bytesToString w ad 0 c [] hl]
      rfl
end Num
end Go.Proofs.YtgeicgfijnabkaaDoor
