/-
  Frames: what the reference opens, whatever the bytes; lists of byte slices that a call makes.
-/
import Derived.Test.YthjjakpjanoamaaFJ
namespace Go.Proofs.Ythjjakpjanoamaa
open Go.RowKit
namespace Num
open Ints
set_option linter.unusedSimpArgs false
set_option linter.unusedVariables false
theorem ow_none {w w' : World} (h : Below w.heap.size w w') : OwB w w' none 0 0 [] := ⟨rfl, World.ownsRow_nil _ _ _ _, h, h.size⟩
theorem ropen_any (w : World) (p : Option Addr) (l c : Nat) (X : List Int) (hx : RdB w p l c X) (hX : By X) :
    Calls Try.prog 25 #[.slice p l c] w fun e w' => ∃ p' c', e = .returned (.tuple #[.slice p' (opZ X).length c', .int .i64 (opN X), .int .i64 (opE X)]) ∧ OwB w w' p' (opZ X).length c' (opZ X) := by
  have hlen := hx.1
  have none_of : ∀ (e : Int), opE X = e → e ≠ 0 → (Calls Try.prog 25 #[.slice p l c] w fun en w' => en = .returned (.tuple #[.slice none 0 0, .int .i64 0, .int .i64 e]) ∧ Below w.heap.size w w') →
      Calls Try.prog 25 #[.slice p l c] w fun e w' => ∃ p' c', e = .returned (.tuple #[.slice p' (opZ X).length c', .int .i64 (opN X), .int .i64 (opE X)]) ∧ OwB w w' p' (opZ X).length c' (opZ X) := by
    intro e he hne h
    obtain ⟨z, n⟩ := opZ_bad he hne
    refine h.mono ?_
    rintro en w' ⟨rfl, hb⟩
    rw [z, n, he]
    exact ⟨none, 0, rfl, ow_none hb⟩
  have same : ∀ {e : Ending} {v : Value}, (Calls Try.prog 25 #[.slice p l c] w fun en w' => en = .returned v ∧ w = w') → Calls Try.prog 25 #[.slice p l c] w fun en w' => en = .returned v ∧ Below w.heap.size w w' := by
    intro e v h
    exact h.mono (by rintro en w' ⟨rfl, rfl⟩; exact ⟨rfl, Below.refl _ _⟩)
  by_cases h8 : l < 8
  · exact none_of 23 (by unfold opE; rw [if_pos (by omega)]) (by decide) (same (e := .outgrown) (ropen_short w p l c hx.2.1 hx.2.2.1 h8))
  · obtain ⟨b, off, rfl⟩ := rd_full hx (by omega)
    by_cases hL : 65536 < opL X
    · exact none_of 22 (by unfold opE; rw [if_neg (by omega), if_pos hL]) (by decide) (same (e := .outgrown) (ropen_great w b off l c X hx hX (by omega) hL))
    · by_cases hc : l < 8 + opL X
      · exact none_of 23 (by unfold opE; rw [if_neg (by omega), if_neg hL, if_pos (by omega)]) (by decide) (same (e := .outgrown) (ropen_cut w b off l c X hx hX (by omega) (by omega) hc))
      · by_cases hS : crcI (X.take 4 ++ opP X) = opS X
        · have he : opE X = 0 := by unfold opE; rw [if_neg (by omega), if_neg hL, if_neg (by omega), if_pos hS]
          have hz : opZ X = opP X := by unfold opZ; rw [if_pos he]
          have hn : opN X = 8 + opL X := by unfold opN; rw [if_pos he]
          have hpl := opP_len (X := X) (by omega)
          by_cases h8c : c = 8
          · have hL0 : opL X = 0 := by have := hx.2.1; omega
            have hP0 : opP X = [] := by unfold opP; rw [hL0]; rfl
            refine (ropen_yes8 w b off l c X hx hX (by omega) (by omega) (by omega) hS h8c).mono ?_
            rintro en w' ⟨p', c', rfl, ho⟩
            rw [hz, hn, he, hP0, hL0]
            exact ⟨p', c', rfl, ho⟩
          · refine (ropen_yes w b off l c X hx hX (by omega) (by omega) (by omega) hS h8c).mono ?_
            rintro en w' ⟨p', c', rfl, ho⟩
            rw [hz, hn, he, hpl]
            exact ⟨p', c', rfl, ho⟩
        · have he : opE X = 21 := by unfold opE; rw [if_neg (by omega), if_neg hL, if_neg (by omega), if_neg hS]
          by_cases h8c : c = 8
          · exact none_of 21 he (by decide) (ropen_bad8 w b off l c X hx hX (by omega) (by omega) (by omega) hS h8c)
          · exact none_of 21 he (by decide) (ropen_bad w b off l c X hx hX (by omega) (by omega) (by omega) hS h8c)
/-! ### frames, one behind another -/
/-- How far the first k frames go, and what they hold. -/
def scA (X : List Int) : Nat → Nat
  | 0 => 0
  | k + 1 => scA X k + opN (X.drop (scA X k))
def scZ (X : List Int) : Nat → List (List Int)
  | 0 => []
  | k + 1 => scZ X k ++ [opZ (X.drop (scA X k))]
/-- The first K are frames, what is behind them isn't one. -/
def scK (X : List Int) (K : Nat) : Prop := (∀ j, j < K → opE (X.drop (scA X j)) = 0) ∧ opE (X.drop (scA X K)) ≠ 0
theorem scK_one {X : List Int} {K M : Nat} (h1 : scK X K) (h2 : scK X M) : K = M := by
  rcases Nat.lt_trichotomy K M with h | h | h
  · exact absurd (h2.1 K h) h1.2
  · exact h
  · exact absurd (h1.1 M h) h2.2
theorem opE_fits {X : List Int} (h : opE X = 0) : 8 ≤ X.length ∧ 8 + opL X ≤ X.length ∧ opN X = 8 + opL X := by
  have h0 := h
  unfold opE at h
  by_cases h1 : X.length < 8
  · rw [if_pos h1] at h; cases h
  · rw [if_neg h1] at h
    by_cases h2 : 65536 < opL X
    · rw [if_pos h2] at h; cases h
    · rw [if_neg h2] at h
      by_cases h3 : X.length < 8 + opL X
      · rw [if_pos h3] at h; cases h
      · exact ⟨by omega, by omega, by unfold opN; rw [if_pos h0]⟩
theorem scA_le {X : List Int} : ∀ k, (∀ j, j < k → opE (X.drop (scA X j)) = 0) → scA X k ≤ X.length ∧ 8 * k ≤ scA X k
  | 0, _ => ⟨Nat.zero_le _, Nat.le_refl _⟩
  | k + 1, h => by
    obtain ⟨h1, h2⟩ := scA_le k (fun j hj => h j (by omega))
    obtain ⟨k1, k2, k3⟩ := opE_fits (h k (by omega))
    rw [List.length_drop] at k2
    rw [scA, k3]
    omega
theorem scZ_len (X : List Int) : ∀ k, (scZ X k).length = k
  | 0 => rfl
  | k + 1 => by rw [scZ, List.length_append, scZ_len X k]; rfl
/-- A list of byte slices that the call has made and appends to. -/
def OwS (W0 w : World) (p : Option Addr) (l c : Nat) (ZS : List (List Int)) : Prop := ∃ XS : List Value, w.ownsRow W0.heap.size 22 1 (.slice p l c) l XS ∧ ZS.length = l ∧ Below W0.heap.size W0 w ∧ W0.heap.size ≤ w.heap.size ∧
  ∀ i (h : i < ZS.length), ∃ q m d, XS[i]? = some (.slice q m d) ∧ RdB w q m d ZS[i] ∧ (∀ b off, q = some ⟨b, off, none⟩ → 0 < m → (Value.slice p l c).ownBlock ≠ some b)
theorem os_nil (W0 w : World) (hb : Below W0.heap.size W0 w) (hs : W0.heap.size ≤ w.heap.size) : OwS W0 w none 0 0 [] := ⟨[], World.ownsRow_nil _ _ _ _, rfl, hb, hs, fun i h => absurd h (Nat.not_lt_zero _)⟩
theorem os_keep {W0 w w' : World} {p : Option Addr} {l c : Nat} {ZS : List (List Int)} (h : OwS W0 w p l c ZS) (hb : Below w.heap.size w w') : OwS W0 w' p l c ZS := by
  obtain ⟨XS, h1, h2, h3, h4, h5⟩ := h
  refine ⟨XS, h1.kept (bel_own hb none) ?_, h2, h3.trans (hb.mono h4), Nat.le_trans h4 hb.size, fun i hi => ?_⟩
  · cases Value.ownBlock (.slice p l c) with
    | none => exact Or.inl rfl
    | some k => exact Or.inr (by simp)
  · obtain ⟨q, m, d, c0, hr, hne⟩ := h5 i hi
    exact ⟨q, m, d, c0, rd_keep hb hr, hne⟩
theorem info_s8 : (Try.prog.info? 22).map (fun i => (i.zero, i.size, i.bytes)) = some (some (.slice none 0 0), 1, 24) := by kernel_rfl
section
variable {ops : Array Oper} {rest : List Oper} {o : Oper} {a : Act} {Q : Exit → Act → World → Prop}
/-- A byte slice that the call has made, behind an owned list of such. -/
theorem wp_os1 (hgd : o.guard = none) (s x : Operand) (ho : o.op = .call { callee := .builtin .append, args := #[s, x], argTypes := #[32, 32] })
    (W0 w1 w : World) (p : Option Addr) (l c : Nat) (ZS : List (List Int)) (q : Option Addr) (m d : Nat) (Z : List Int) (hs : a.eval s = .slice p l c) (hx : a.eval x = .slice (some ⟨w.heap.size, 0, none⟩) 1 1) (hb : OwS W0 w1 p l c ZS) (hl : l ≤ 1000000)
    (hz : OwB w1 w q m d Z)
    (h : ∀ p' c' w', OwS W0 w' p' (l + 1) c' (ZS ++ [Z]) → wpList Try.prog ops Q rest (a.put o.dst (.slice p' (l + 1) c')) w') : wpList Try.prog ops Q (o :: rest) a (w.alloc (.cells #[.slice q m d] 22)) := by
  obtain ⟨i0, hi, hz0, hz1, hz2⟩ := info_parts info_s8
  have hlt1 : ∀ k, (Value.slice p l c).ownBlock = some k → k < w1.heap.size := by obtain ⟨XS, h1, _⟩ := hb; exact fun k hk => (h1.lt k hk).2
  have hq1 := hz.2.1.lt
  have hbw := os_keep hb (ow_bel hz)
  have hb' := os_keep hbw ((Below.refl w.heap.size w).alloc (Nat.le_refl _) (.cells #[.slice q m d] 22))
  have hrz := rd_keep ((Below.refl w.heap.size w).alloc (Nat.le_refl _) (.cells #[.slice q m d] 22)) (rd_of_ow hz)
  obtain ⟨XS, h1, h2, h3, h4, h5⟩ := hb'
  have hsz : (w.alloc (.cells #[.slice q m d] 22)).heap.size = w.heap.size + 1 := World.size_alloc _ _
  refine wpList_append_own_at _ hgd s x 32 ho W0.heap.size 22 i0 _ 1 24 Try.underlying32 hi hz0 hz1 hz2 rfl (by decide) (.slice p l c) l XS hs h1 ⟨w.heap.size, 0, none⟩ 1 1 [.slice q m d] hx rfl (cell_one_new _ _ _) (by intro u hu; simp at hu; subst hu; rfl) (by unfold maxLen; omega) (by omega) h4 ?_
  intro v' w' hown hg _ hat
  have hgs := hg.size
  have hpc : ∃ p' c', v' = .slice p' (l + 1) c' := by
    rcases hown.2 with ⟨rfl, hn⟩ | ⟨g, cap, cur, rfl, _⟩
    · exact absurd hn (by omega)
    · exact ⟨_, _, rfl⟩
  obtain ⟨p', c', rfl⟩ := hpc
  have hlen := h1.1
  -- what is read of a block that is not the list's own
  have hkeep : ∀ {q' : Option Addr} {m' d' : Nat} {Z' : List Int}, RdB (w.alloc (.cells #[.slice q m d] 22)) q' m' d' Z' → (∀ b off, q' = some ⟨b, off, none⟩ → 0 < m' → (Value.slice p l c).ownBlock ≠ some b) → RdB w' q' m' d' Z' ∧ (∀ b off, q' = some ⟨b, off, none⟩ → 0 < m' → (Value.slice p' (l + 1) c').ownBlock ≠ some b) := by
    intro q' m' d' Z' hr hne
    have hlt : ∀ b off, q' = some ⟨b, off, none⟩ → 0 < m' → b < (w.alloc (.cells #[.slice q m d] 22)).heap.size := by
      intro b off e hm
      obtain ⟨b', off', e', hc⟩ := hr.2.2.2.1 hm
      rw [e] at e'
      cases e'
      exact cell_lt (hc 0 (by have := hr.1; omega))
    refine ⟨?_, fun b off e hm => ?_⟩
    · obtain ⟨r1, r2, r3, r4, r5⟩ := hr
      refine ⟨r1, r2, r3, fun hm => ?_, r5⟩
      obtain ⟨b, off, e, hc⟩ := r4 hm
      refine ⟨b, off, e, fun i hi => hg.cell (hc i hi) (fun e' => hne b off e hm e'.symm)⟩
    · rcases hat with e' | e'
      · rw [e']; exact hne b off e hm
      · rw [e']; intro e2; injection e2 with e2; have := hlt b off e hm; omega
  refine h p' c' w' ⟨XS ++ [.slice q m d], hown, by rw [List.length_append, h2]; rfl, Below.grown h3 hg h4 (fun k hk => (h1.lt k hk).1), Nat.le_trans h4 hg.size, fun i hi => ?_⟩
  by_cases hlt : i < ZS.length
  · obtain ⟨q', m', d', c0, hr, hne⟩ := h5 i hlt
    obtain ⟨hr', hne'⟩ := hkeep hr hne
    refine ⟨q', m', d', by rw [List.getElem?_append_left (by omega)]; exact c0, ?_, hne'⟩
    rw [List.getElem_append_left hlt]
    exact hr'
  · have hie : i = l := by rw [List.length_append, h2] at hi; simp at hi; omega
    subst hie
    obtain ⟨hr', hne'⟩ := hkeep hrz (by
      intro b off e hm e2
      have k1 := hlt1 b e2
      have k2 := (hq1 b (by rw [e]; rfl)).1
      omega)
    refine ⟨q, m, d, by rw [List.getElem?_append_right (by omega), hlen]; simp, ?_, hne'⟩
    rw [List.getElem_append_right (by omega)]
    simp only [h2, Nat.sub_self, List.getElem_cons_zero]
    exact hr'
end
end Num
end Go.Proofs.Ythjjakpjanoamaa
