/-
  DedupApart: two tables of replies beside one another, alike in one client's calls.
-/
import Derived.Test.YtijfgmhdkflfmaaSx
namespace Go.Proofs.Ytijfgmhdkflfmaa
open Go.RowKit
namespace Num
open Ints
set_option linter.unusedSimpArgs false
set_option linter.unusedVariables false
def Ap (w wr : World) (tb1 mr1 mc1 tb2 mr2 mc2 : Nat) (c : Int) (i g : Nat) : Prop :=
  ∃ (P Q : Nat → Prop) (R : List (RE 1)) (C : List KE) (R2 : List (RE 1)) (C2 : List KE) (m m2 : Nat), St 1 P wr tb1 mr1 mc1 R C m ∧ St 1 Q wr tb2 mr2 mc2 R2 C2 m2 ∧ (∀ b, P b → Q b → False) ∧ (∀ b, P b ∨ Q b → w.heap.size ≤ b ∧ b < wr.heap.size ∧ b ≠ g) ∧
    (1 ≤ m ∧ m ≤ 1 + i ∧ 1 ≤ m2 ∧ m2 ≤ 1 + i) ∧ gL C c = gL C2 c ∧ (∀ s k, (getR R (c, s, k)).map (·.T) = (getR R2 (c, s, k)).map (·.T)) ∧ (∀ r ∈ R, ∃ I, r.T = lfT 1 I) ∧ (∀ r ∈ R2, ∃ I, r.T = lfT 1 I) ∧ Below w.heap.size w wr
theorem ap_step {w wr w' : World} {tb1 mr1 mc1 tb2 mr2 mc2 : Nat} {c : Int} {i j g : Nat} (h : Ap w wr tb1 mr1 mc1 tb2 mr2 mc2 c i g) (hb : Below wr.heap.size wr w') (hij : i ≤ j) : Ap w w' tb1 mr1 mc1 tb2 mr2 mc2 c j g := by
  obtain ⟨P, Q, R, C, R2, C2, m, m2, h1, h2, h3, h4, h5, h6, h7, h8, h9, h10⟩ := h
  exact ⟨P, Q, R, C, R2, C2, m, m2, st_step h1 hb, st_step h2 hb, h3, fun b hb' => ⟨(h4 b hb').1, Nat.lt_of_lt_of_le (h4 b hb').2.1 hb.size, (h4 b hb').2.2⟩, by omega, h6, h7, h8, h9, Below.trans h10 (hb.mono h10.size)⟩
/-- A block that was laid since is none of theirs. -/
theorem ap_new {w wr w' : World} {tb1 mr1 mc1 tb2 mr2 mc2 : Nat} {c : Int} {i g k : Nat} (h : Ap w wr tb1 mr1 mc1 tb2 mr2 mc2 c i g) (hb : Below wr.heap.size wr w') (hk : wr.heap.size ≤ k) : Ap w w' tb1 mr1 mc1 tb2 mr2 mc2 c i k := by
  obtain ⟨P, Q, R, C, R2, C2, m, m2, h1, h2, h3, h4, h5, h6, h7, h8, h9, h10⟩ := h
  exact ⟨P, Q, R, C, R2, C2, m, m2, st_step h1 hb, st_step h2 hb, h3, fun b hb' => ⟨(h4 b hb').1, Nat.lt_of_lt_of_le (h4 b hb').2.1 hb.size, by have := (h4 b hb').2.1; omega⟩, h5, h6, h7, h8, h9, Below.trans h10 (hb.mono h10.size)⟩
theorem st_keep {n : Nat} {P : Nat → Prop} {w w' : World} {tb mr mc : Nat} {R : List (RE n)} {C : List KE} {m : Nat} {c : Int} (h : St n P w tb mr mc R C m) (hc : Chg mr mc (getC C c) w w') (g : Nat) (hP : ∀ b, P b → b ≠ g) (hg : g < w.heap.size) : w'.heap[g]? = w.heap[g]? :=
  hc.block g hg (fun e => hP _ h.pm e.symm) (fun e => hP _ h.pc e.symm) (fun ⟨k, hk, hk2⟩ => by
    have hk1 := List.mem_of_find?_eq_some hk
    rcases hk2 with e | ⟨y, hy, e⟩
    · exact hP _ (h.pk k hk1).1 e.symm
    · exact hP _ ((h.pk k hk1).2 y hy) e.symm)
/-- What a Put that is taken makes of the replies. -/
theorem put_get {n : Nat} {P : Nat → Prop} {w : World} {tb mr mc : Nat} {R R' : List (RE n)} {C : List KE} {m : Nat} {x : DId} {r' : RE n} (h : St n P w tb mr mc R C m) (hn : getR R x = none) (hx : r'.x = x) (hR : R' = delR (R ++ [r']) (noteL (gL C x.1) x).2) (y : DId) :
    getR R' y = if y ∈ (noteL (gL C x.1) x).2 then none else if y = x then some r' else getR R y := by
  have hnd : ((R ++ [r']).map (·.x)).Nodup := by
    rw [List.map_append]
    refine List.nodup_append.2 ⟨h.nod, by simp, fun a ha b hb => ?_⟩
    simp only [List.map_cons, List.map_nil, List.mem_singleton] at hb
    rintro rfl
    obtain ⟨z, hz, hza⟩ := List.mem_map.1 ha
    exact List.find?_eq_none.1 hn z hz (decide_eq_true (by rw [hza, hb, hx]))
  rw [hR, (getR_del _ _ y hnd).1, getR_app R r' (by rw [hx]; exact hn) y, hx]
theorem ap_other {w wr : World} {tb1 mr1 mc1 tb2 mr2 mc2 : Nat} {c : Int} {i g : Nat} (hi : i ≤ 1000) (hg : g < wr.heap.size) (h : Ap w wr tb1 mr1 mc1 tb2 mr2 mc2 c i g) (x : DId) (I : Int) (hI : okI I) (hx : x.1 ≠ c) :
    Calls Try.prog 12 #[.pointer (some ⟨tb1, 0, none⟩), (lfR x 1 I).a] wr fun e w' => ∃ a, e = .returned (.bool a) ∧ Ap w w' tb1 mr1 mc1 tb2 mr2 mc2 c (i + 1) g ∧ w'.heap[g]? = wr.heap[g]? := by
  have h0 := h
  obtain ⟨P, Q, R, C, R2, C2, m, m2, h1, h2, h3, h4, h5, h6, h7, h8, h9, h10⟩ := h
  by_cases ht : getR R x = none ∧ oldD (gL C x.1) x.2.1 = false
  · refine (st_put h1 h5.1 (by omega) (lfR x 1 I) ht.1 ht.2 (lf_rep _ 1 I (by decide) hI) (lf_lite 1 I (Or.inr rfl))).mono ?_
    rintro e w' ⟨rfl, hq⟩
    have hbl := putQ_below h1 hq w.heap.size (fun b hb => (h4 b (Or.inl hb)).1) h10.size
    obtain ⟨r', R', C', hxr, _, hT, hR', hgg, hgo, hst, hc⟩ := hq
    have hget := fun y => put_get h1 ht.1 hxr hR' y
    have hcl := (noteL_wf (h1.dat x.1) h5.1).2.2
    refine ⟨true, rfl, ⟨_, Q, R', C', R2, C2, m + 1, m2, hst, st_other h1 h2 h3 hc, fun b hb hq => ?_, fun b hb => ?_, by omega, by rw [hgo c (fun e => hx e.symm)]; exact h6, fun s k => ?_, fun r hr => ?_, h9, Below.trans h10 hbl⟩, st_keep h1 hc g (fun b hb => (h4 b (Or.inl hb)).2.2) hg⟩
    · rcases hb with hb | hb
      · exact h3 b hb hq
      · have := (h4 b (Or.inr hq)).2.1; omega
    · have hs := hc.size
      have hs0 := h10.size
      rcases hb with (hb | hb) | hb
      · have := h4 b (Or.inl hb); omega
      · omega
      · have := h4 b (Or.inr hb); omega
    · rw [hget, if_neg (fun hm => hx (hcl _ hm).symm), if_neg (fun e => hx (by rw [← e]))]
      exact h7 s k
    · rw [hR'] at hr
      rcases List.mem_append.1 (delR_sub _ _ r hr) with h | h
      · exact h8 r h
      · rw [List.mem_singleton.1 h, hT]; exact ⟨I, lf_clean 1 I (Or.inr rfl)⟩
  · refine (put_no 1 wr tb1 mr1 mc1 R C (lfR x 1 I) h1.tab (by
      by_cases hg : getR R x = none
      · right
        show oldC C x = true
        rw [old_dat]
        cases ho : oldD (gL C x.1) x.2.1 with
        | true => rfl
        | false => exact absurd ⟨hg, ho⟩ ht
      · exact Or.inl hg)).mono ?_
    rintro e w' ⟨rfl, hb⟩
    exact ⟨false, rfl, ap_step h0 hb (by omega), hb.block g hg⟩
theorem ap_same {w wr : World} {tb1 mr1 mc1 tb2 mr2 mc2 : Nat} {c : Int} {i g : Nat} (hi : i ≤ 1000) (hg : g < wr.heap.size) (h : Ap w wr tb1 mr1 mc1 tb2 mr2 mc2 c i g) (x : DId) (I : Int) (hI : okI I) (hx : x.1 = c) :
    Calls Try.prog 12 #[.pointer (some ⟨tb1, 0, none⟩), (lfR x 1 I).a] wr fun e w' => ∃ a, e = .returned (.bool a) ∧ w'.heap[g]? = wr.heap[g]? ∧ Below w.heap.size w w' ∧ wr.heap.size ≤ w'.heap.size ∧ ∀ y, Below w'.heap.size w' y → Calls Try.prog 12 #[.pointer (some ⟨tb2, 0, none⟩), (lfR x 1 I).a] y fun e2 w2 => e2 = .returned (.bool a) ∧ Ap w w2 tb1 mr1 mc1 tb2 mr2 mc2 c (i + 1) g ∧ w2.heap[g]? = y.heap[g]? := by
  subst hx
  have h0 := h
  obtain ⟨P, Q, R, C, R2, C2, m, m2, h1, h2, h3, h4, h5, h6, h7, h8, h9, h10⟩ := h
  have hnn : getR R x = none ↔ getR R2 x = none := by
    have := h7 x.2.1 x.2.2
    have e : ((x.1, x.2.1, x.2.2) : DId) = x := rfl
    rw [e] at this
    cases ha : getR R x <;> cases hb : getR R2 x <;> rw [ha, hb] at this <;> simp at this ⊢
  by_cases ht : getR R x = none ∧ oldD (gL C x.1) x.2.1 = false
  · refine (st_put h1 h5.1 (by omega) (lfR x 1 I) ht.1 ht.2 (lf_rep _ 1 I (by decide) hI) (lf_lite 1 I (Or.inr rfl))).mono ?_
    rintro e w' ⟨rfl, hq⟩
    have hbl := putQ_below h1 hq w.heap.size (fun b hb => (h4 b (Or.inl hb)).1) h10.size
    obtain ⟨r', R', C', hxr, _, hT, hR', hgg, hgo, hst, hc⟩ := hq
    have hget := fun y => put_get h1 ht.1 hxr hR' y
    refine ⟨true, rfl, st_keep h1 hc g (fun b hb => (h4 b (Or.inl hb)).2.2) hg, Below.trans h10 hbl, hc.size, fun y hy => ?_⟩
    have hsy := hy.size
    have hs := hc.size
    have hs0 := h10.size
    have g1 := st_step hst hy
    have g2 := st_step (st_other h1 h2 h3 hc) hy
    refine (st_put g2 h5.2.2.1 (by omega) (lfR x 1 I) (hnn.1 ht.1) (by show oldD (gL C2 x.1) x.2.1 = false; rw [← h6]; exact ht.2) (lf_rep _ 1 I (by decide) hI) (lf_lite 1 I (Or.inr rfl))).mono ?_
    rintro e2 w2 ⟨rfl, hq2⟩
    have hbl2 := putQ_below g2 hq2 w.heap.size (fun b hb => (h4 b (Or.inr hb)).1) (by omega)
    have hk2 := st_keep g2 hq2.choose_spec.choose_spec.choose_spec.2.2.2.2.2.2.2 g (fun b hb => (h4 b (Or.inr hb)).2.2) (by omega)
    obtain ⟨r2, R2', C2', hxr2, _, hT2, hR2', hg2, hgo2, hst2, hc2⟩ := hq2
    have hget2 := fun z => put_get g2 (hnn.1 ht.1) hxr2 hR2' z
    have hs2 := hc2.size
    refine ⟨rfl, ⟨_, _, R', C', R2', C2', m + 1, m2 + 1, st_other g2 g1 (fun b hb hq => ?_) hc2, hst2, fun b hb hq => ?_, fun b hb => ?_, by omega, ?_, fun s k => ?_, fun r hr => ?_, fun r hr => ?_, Below.trans (Below.trans (Below.trans h10 hbl) (hy.mono (by omega))) hbl2⟩, hk2⟩
    · rcases hq with hq | hq
      · exact h3 b hq hb
      · have := (h4 b (Or.inr hb)).2.1; omega
    · rcases hb with hb | hb
      · rcases hq with hq | hq
        · exact h3 b hb hq
        · have := (h4 b (Or.inl hb)).2.1; omega
      · rcases hq with hq | hq
        · have := (h4 b (Or.inr hq)).2.1; omega
        · omega
    · rcases hb with (hb | hb) | (hb | hb)
      · have := h4 b (Or.inl hb); omega
      · omega
      · have := h4 b (Or.inr hb); omega
      · omega
    · have e1 : gL C' x.1 = (noteL (gL C x.1) x).1 := hgg
      have e2 : gL C2' x.1 = (noteL (gL C2 x.1) x).1 := hg2
      rw [e1, e2, h6]
    · rw [hget, hget2, h6]
      split
      · rfl
      · split
        · show some r'.T = some r2.T
          rw [hT, hT2]
        · exact h7 s k
    · rw [hR'] at hr
      rcases List.mem_append.1 (delR_sub _ _ r hr) with h | h
      · exact h8 r h
      · rw [List.mem_singleton.1 h, hT]; exact ⟨I, lf_clean 1 I (Or.inr rfl)⟩
    · rw [hR2'] at hr
      rcases List.mem_append.1 (delR_sub _ _ r hr) with h | h
      · exact h9 r h
      · rw [List.mem_singleton.1 h, hT2]; exact ⟨I, lf_clean 1 I (Or.inr rfl)⟩
  · have hno : getR R x ≠ none ∨ oldC C x = true := by
      by_cases hg : getR R x = none
      · right
        rw [old_dat]
        cases ho : oldD (gL C x.1) x.2.1 with
        | true => rfl
        | false => exact absurd ⟨hg, ho⟩ ht
      · exact Or.inl hg
    have hno2 : getR R2 x ≠ none ∨ oldC C2 x = true := by
      rcases hno with h | h
      · exact Or.inl (fun e => h (hnn.2 e))
      · right; rw [old_dat, ← h6, ← old_dat]; exact h
    refine (put_no 1 wr tb1 mr1 mc1 R C (lfR x 1 I) h1.tab hno).mono ?_
    rintro e w' ⟨rfl, hb⟩
    refine ⟨false, rfl, hb.block g hg, Below.trans h10 (hb.mono h10.size), hb.size, fun y hy => ?_⟩
    have hb' := bel_step hb hy
    refine (put_no 1 y tb2 mr2 mc2 R2 C2 (lfR x 1 I) (st_step h2 hb').tab hno2).mono ?_
    rintro e2 w2 ⟨rfl, hb2⟩
    exact ⟨rfl, ap_step h0 (bel_step hb' hb2) (by omega), hb2.block g (by have := hy.size; have := hb.size; omega)⟩
end Num
end Go.Proofs.Ytijfgmhdkflfmaa
