/-
  Frames: what the program opens, whatever the bytes; appends that tell where the slice lies; what the reference wraps.
-/
import Derived.Test.YthjjakpjanoamaaFG
import Derived.Test.YthjjakpjanoamaaWR
namespace Go.Proofs.Ythjjakpjanoamaa
open Go.RowKit
namespace Num
open Ints
set_option linter.unusedSimpArgs false
set_option linter.unusedVariables false
theorem opZ_bad {X : List Int} {e : Int} (h : opE X = e) (he : e ≠ 0) : opZ X = [] ∧ opN X = 0 := by
  unfold opZ opN; rw [h, if_neg he, if_neg he]; exact ⟨rfl, rfl⟩
theorem opP_len {X : List Int} (h : 8 + opL X ≤ X.length) : (opP X).length = opL X := by
  unfold opP; rw [List.length_take, List.length_drop]; omega
/-- Open, whatever the bytes. -/
theorem open_any (w : World) (p : Option Addr) (l c : Nat) (X : List Int) (hx : RdB w p l c X) (hX : By X) :
    Calls Try.prog 22 #[.slice p l c] w fun e w' => ∃ p' c', e = .returned (.tuple #[.slice p' (opZ X).length c', .int .i64 (opN X), .int .i64 (opE X)]) ∧ OwB w w' p' (opZ X).length c' (opZ X) := by
  have hlen := hx.1
  have none_of : ∀ (e : Int), opE X = e → e ≠ 0 → (Calls Try.prog 22 #[.slice p l c] w fun en w' => en = .returned (.tuple #[.slice none 0 0, .int .i64 0, .int .i64 e]) ∧ w = w') →
      Calls Try.prog 22 #[.slice p l c] w fun e w' => ∃ p' c', e = .returned (.tuple #[.slice p' (opZ X).length c', .int .i64 (opN X), .int .i64 (opE X)]) ∧ OwB w w' p' (opZ X).length c' (opZ X) := by
    intro e he hne h
    obtain ⟨z, n⟩ := opZ_bad he hne
    refine h.mono ?_
    rintro en w' ⟨rfl, rfl⟩
    rw [z, n, he]
    exact ⟨none, 0, rfl, ow_nil w⟩
  by_cases h8 : l < 8
  · exact none_of 23 (by unfold opE; rw [if_pos (by omega)]) (by decide) (open_short w p l c hx.2.1 hx.2.2.1 h8)
  · obtain ⟨b, off, rfl⟩ := rd_full hx (by omega)
    by_cases hL : 65536 < opL X
    · exact none_of 22 (by unfold opE; rw [if_neg (by omega), if_pos hL]) (by decide) (open_great w b off l c X hx hX (by omega) hL)
    · by_cases hc : l < 8 + opL X
      · exact none_of 23 (by unfold opE; rw [if_neg (by omega), if_neg hL, if_pos (by omega)]) (by decide) (open_cut w b off l c X hx hX (by omega) (by omega) hc)
      · by_cases hS : crcI (X.take 4 ++ opP X) = opS X
        · have he : opE X = 0 := by unfold opE; rw [if_neg (by omega), if_neg hL, if_neg (by omega), if_pos hS]
          have hz : opZ X = opP X := by unfold opZ; rw [if_pos he]
          have hn : opN X = 8 + opL X := by unfold opN; rw [if_pos he]
          have hpl := opP_len (X := X) (by omega)
          by_cases h8c : c = 8
          · have hL0 : opL X = 0 := by have := hx.2.1; omega
            have hP0 : opP X = [] := by unfold opP; rw [hL0]; rfl
            refine (open_yes8 w b off l c X hx hX (by omega) (by omega) (by omega) hS h8c).mono ?_
            rintro en w' ⟨p', c', rfl, ho⟩
            rw [hz, hn, he, hP0, hL0]
            exact ⟨p', c', rfl, ho⟩
          · refine (open_yes w b off l c X hx hX (by omega) (by omega) (by omega) hS h8c).mono ?_
            rintro en w' ⟨p', c', rfl, ho⟩
            rw [hz, hn, he, hpl]
            exact ⟨p', c', rfl, ho⟩
        · have he : opE X = 21 := by unfold opE; rw [if_neg (by omega), if_neg hL, if_neg (by omega), if_neg hS]
          by_cases h8c : c = 8
          · exact none_of 21 he (by decide) (open_bad8 w b off l c X hx hX (by omega) (by omega) (by omega) hS h8c)
          · exact none_of 21 he (by decide) (open_bad w b off l c X hx hX (by omega) (by omega) (by omega) hS h8c)
section
variable {ops : Array Oper} {rest : List Oper} {o : Oper} {a : Act} {Q : Exit → Act → World → Prop}
/-- A slice behind what is owned, and where it lies. -/
theorem wp_obRat (hgd : o.guard = none) (s x : Operand) (ho : o.op = .call { callee := .builtin .append, args := #[s, x], argTypes := #[22, 22] })
    (W0 w : World) (p : Option Addr) (l c : Nat) (X : List Int) (q : Option Addr) (m d : Nat) (Y : List Int) (hs : a.eval s = .slice p l c) (hx : a.eval x = .slice q m d) (hb : OwB W0 w p l c X) (hr : RdB w q m d Y) (hl : l ≤ 1000000) (hm : m ≤ 1000000)
    (h : ∀ p' c' w', OwB W0 w' p' (l + m) c' (X ++ Y) → w.grownBy w' (Value.slice p l c).ownBlock → ((Value.slice p' (l + m) c').ownBlock = (Value.slice p l c).ownBlock ∨ (Value.slice p' (l + m) c').ownBlock = some w.heap.size) → wpList Try.prog ops Q rest (a.put o.dst (.slice p' (l + m) c')) w') : wpList Try.prog ops Q (o :: rest) a w := by
  obtain ⟨i0, hi, hz0, hz1, hz2⟩ := info_parts info_b8
  cases q with
  | none =>
    have hd := hr.2.2.2.2 rfl
    have hm0 : m = 0 := by have := hr.2.1; omega
    subst hd
    subst hm0
    have hY : Y = [] := List.eq_nil_of_length_eq_zero hr.1
    subst hY
    refine wpList_append_own_none hgd s x 22 ho W0.heap.size 5 i0 1 Try.underlying22 hi (.slice p l c) l (X.map (Value.int .u8)) hs hb.2.1 hx ?_
    have := h p c w (by rw [List.append_nil]; exact hb) (World.grownBy.refl w _) (Or.inl rfl)
    exact this
  | some ad =>
    refine wpList_append_own_at _ hgd s x 22 ho W0.heap.size 5 i0 (.int .u8 0) 1 1 Try.underlying22 hi hz0 hz1 hz2 rfl (by decide) (.slice p l c) l (X.map (Value.int .u8)) hs hb.2.1 ad m d (Y.map (Value.int .u8)) hx (by rw [List.length_map, hr.1]; omega) (rd_src hr rfl) (ints_oneCell _ _) (by unfold maxLen; omega) (by omega) hb.2.2.2 ?_
    intro v' w' hown hg _ hat
    obtain ⟨p', c', rfl, hn⟩ := ow_grown hb hr.1 hown hg
    exact h p' c' w' hn hg hat
/-- A slice behind one that is owned, or came in and has no room; what lay between stays free. -/
theorem wp_inR (hgd : o.guard = none) (s x : Operand) (ho : o.op = .call { callee := .builtin .append, args := #[s, x], argTypes := #[22, 22] })
    (W0 W1 w : World) (p : Option Addr) (l c : Nat) (X : List Int) (q : Option Addr) (m d : Nat) (Y : List Int) (hs : a.eval s = .slice p l c) (hx : a.eval x = .slice q m d) (hb1 : InB W0 W1 p l c X) (hbel : Below W1.heap.size W1 w) (hr : RdB w q m d Y) (hl : l ≤ 1000000) (hm0 : 0 < m) (hm : m ≤ 1000000)
    (h : ∀ p' c' w', OwB W0 w' p' (l + m) c' (X ++ Y) → Below W1.heap.size W1 w → (∀ k, W1.heap.size ≤ k → k < w.heap.size → w'.heap[k]? = w.heap[k]? ∧ (Value.slice p' (l + m) c').ownBlock ≠ some k) → wpList Try.prog ops Q rest (a.put o.dst (.slice p' (l + m) c')) w') : wpList Try.prog ops Q (o :: rest) a w := by
  obtain ⟨i0, hi, hz0, hz1, hz2⟩ := info_parts info_b8
  rcases hb1 with hb1 | ⟨rfl, hrd1, hB1, hle1⟩
  · have hlt := hb1.2.1.lt
    have hb' := ow_keep hb1 hbel
    refine wp_obRat hgd s x ho W0 w p l c X q m d Y hs hx hb' hr hl hm ?_
    intro p' c' w' h1 hg hat
    refine h p' c' w' h1 hbel (fun k h1 h2 => ⟨hg.block k h2 (fun e => ?_), fun e => ?_⟩)
    · have := (hlt k e.symm).2; omega
    · rcases hat with e' | e'
      · rw [e] at e'; have := (hlt k e'.symm).2; omega
      · rw [e] at e'; injection e' with e'; omega
  · have hrd := rd_keep hbel hrd1
    have hB := hB1.trans (hbel.mono hle1)
    have hle := Nat.le_trans hle1 hbel.size
    obtain ⟨ad, rfl⟩ : ∃ ad, q = some ad := by
      obtain ⟨b, off, e, _⟩ := hr.2.2.2.1 hm0
      exact ⟨_, e⟩
    refine wpList_append_grows _ hgd s x 22 ho 5 i0 (.int .u8 0) 1 1 Try.underlying22 hi hz0 hz1 hz2 rfl (by decide) p c c (X.map (Value.int .u8)) hs (fun e => ⟨hrd.2.2.2.2 e, hrd.2.2.2.2 e⟩) (by rw [List.length_map, hrd.1]; omega) (fun b e => rd_src hrd e) ad m d (Y.map (Value.int .u8)) hx (by rw [List.length_map, hr.1]; omega) (rd_src hr rfl) (ints_oneCell _ _) (by omega) (by unfold maxLen; omega) (by omega) ?_
    intro v' w' hown hg
    obtain ⟨p', c', rfl⟩ := own_form hown
    have hlt := hown.lt
    refine h p' c' w' ⟨by rw [List.length_append, hrd.1, hr.1], ⟨by rw [List.map_append]; exact hown.1, ?_⟩, Below.grown hB hg hle (fun k hk => by cases hk), Nat.le_trans hle hg.size⟩ hbel (fun k h1 h2 => ⟨hg.block k h2 (fun e => by cases e), fun e => ?_⟩)
    · rcases hown.2 with hn | ⟨g, cap, cur, hv, hbg, rest⟩
      · exact Or.inl hn
      · exact Or.inr ⟨g, cap, cur, hv, Nat.le_trans hle hbg, by rw [List.map_append]; exact rest⟩
    · have := (hlt k e).1; omega
end
end Num
end Go.Proofs.Ythjjakpjanoamaa
