/-
  Tables of replies as data: what a Put makes of one client's calls.
-/
import Derived.Test.YtijfgmhdkflfmaaSq
namespace Go.Proofs.Ytijfgmhdkflfmaa
open Go.RowKit
namespace Num
open Ints
set_option linter.unusedSimpArgs false
set_option linter.unusedVariables false
/-- One client's calls as data. -/
def gL (C : List KE) (c : Int) : List DCall := datL ((getC C c).elim [] (·.L))
def oldD (D : List DCall) (s : Int) : Bool := D.length == 4 && (match D with | y :: _ => decide (s < y.1) | [] => false)
theorem old_dat (C : List KE) (x : DId) : oldC C x = oldD (gL C x.1) x.2.1 := by
  unfold oldC oldD gL datL
  cases getC C x.1 with
  | none => rfl
  | some k => cases h : k.L with | nil => simp [h] | cons y L => simp [h]
theorem get_setC_same (C : List KE) (k2 : KE) : getC (setC C k2) k2.c = some k2 := by
  unfold getC setC
  cases hj : C.findIdx? (fun y => k2.c == y.c) with
  | none =>
    simp only
    rw [List.find?_append]
    have : C.find? (fun x => k2.c == x.c) = none := by
      rw [List.find?_eq_none]
      intro z hz
      have := List.findIdx?_eq_none_iff.1 hj z hz
      simpa using this
    rw [this]
    simp
  | some j =>
    obtain ⟨hjl, hjc, hjm⟩ := List.findIdx?_eq_some_iff_getElem.1 hj
    simp only
    have h := idx_get (fun x : KE => k2.c == x.c) (C.set j k2)
    rw [← h]
    have hx : (C.set j k2).findIdx? (fun x => k2.c == x.c) = some j := by
      rw [List.findIdx?_eq_some_iff_getElem]
      refine ⟨by rw [List.length_set]; exact hjl, by rw [List.getElem_set_self]; simp, fun i hi => ?_⟩
      rw [List.getElem_set_ne (by omega)]
      exact hjm i hi
    rw [hx]
    simp [hjl]
theorem get_setC_other (C : List KE) (k2 : KE) (hn : (C.map (·.c)).Nodup) (c : Int) (hc : c ≠ k2.c) : getC (setC C k2) c = getC C c := by
  unfold setC
  cases hj : C.findIdx? (fun y => k2.c == y.c) with
  | none =>
    simp only
    unfold getC
    rw [List.find?_append]
    cases C.find? (fun x => c == x.c) with
    | some k => rfl
    | none => simp [hc]
  | some j =>
    obtain ⟨hjl, hjc, hjm⟩ := List.findIdx?_eq_some_iff_getElem.1 hj
    have hjc' : k2.c = C[j].c := by simpa using hjc
    simp only
    unfold getC
    rw [← idx_get, ← idx_get]
    have hp : ∀ i (h : i < (C.set j k2).length), (c == (C.set j k2)[i].c) = (c == (C[i]'(by rw [List.length_set] at h; exact h)).c) := fun i h => by
      by_cases hij : j = i
      · subst hij
        rw [List.getElem_set_self, hjc']
      · rw [List.getElem_set_ne hij]
    have hf : (C.set j k2).findIdx? (fun x => c == x.c) = C.findIdx? (fun x => c == x.c) := by
      cases h : C.findIdx? (fun x => c == x.c) with
      | none =>
        rw [List.findIdx?_eq_none_iff] at h ⊢
        intro z hz
        obtain ⟨i, hi, rfl⟩ := List.getElem_of_mem hz
        rw [hp i hi]
        exact h _ (List.getElem_mem _)
      | some i =>
        rw [List.findIdx?_eq_some_iff_getElem] at h ⊢
        obtain ⟨h1, h2, h3⟩ := h
        refine ⟨by rw [List.length_set]; exact h1, by rw [hp]; exact h2, fun t ht => by rw [hp]; exact h3 t ht⟩
    rw [hf]
    cases h : C.findIdx? (fun x => c == x.c) with
    | none => rfl
    | some i =>
      obtain ⟨h1, h2, _⟩ := List.findIdx?_eq_some_iff_getElem.1 h
      have h2' : c = C[i].c := by simpa using h2
      show (C.set j k2)[i]? = C[i]?
      rw [List.getElem?_set_ne]
      rintro rfl
      exact hc (h2'.trans hjc'.symm)
theorem gL_same (C : List KE) (k2 : KE) : gL (setC C k2) k2.c = datL k2.L := by unfold gL; rw [get_setC_same]; rfl
theorem gL_other (C : List KE) (k2 : KE) (hn : (C.map (·.c)).Nodup) (c : Int) (hc : c ≠ k2.c) : gL (setC C k2) c = gL C c := by unfold gL; rw [get_setC_other C k2 hn c hc]
theorem setC_keys (C : List KE) (k2 : KE) (hn : (C.map (·.c)).Nodup) : ((setC C k2).map (·.c)).Nodup := by
  unfold setC
  cases hj : C.findIdx? (fun y => k2.c == y.c) with
  | none =>
    simp only
    rw [List.map_append]
    refine List.nodup_append.2 ⟨hn, by simp, fun a ha b hb => ?_⟩
    obtain ⟨z, hz, rfl⟩ := List.mem_map.1 ha
    have := List.findIdx?_eq_none_iff.1 hj z hz
    simp only [List.map_cons, List.map_nil, List.mem_singleton] at hb
    rintro rfl
    simp [hb] at this
  | some j =>
    obtain ⟨hjl, hjc, _⟩ := List.findIdx?_eq_some_iff_getElem.1 hj
    have hjc' : k2.c = C[j].c := by simpa using hjc
    simp only
    rw [List.map_set, hjc']
    have : (C.map (·.c)).set j C[j].c = C.map (·.c) := by
      apply List.ext_getElem?
      intro i
      rw [List.getElem?_set]
      split
      · rename_i h; subst h; simp [hjl]
      · rfl
    rw [this]
    exact hn
/-- A client's calls are as they must be, told by the data; m: how long a list of ids may be. -/
def WfD (m : Nat) (c : Int) (D : List DCall) : Prop := D.length ≤ 4 ∧ (D.map (·.1)).Pairwise (· < ·) ∧ ∀ y ∈ D, y.2 ≠ [] ∧ y.2.length ≤ m ∧ ∀ i ∈ y.2, i.1 = c ∧ i.2.1 = y.1
theorem wfL_of {m : Nat} {c : Int} {L : List CE} (h : WfD m c (datL L)) (hm : m ≤ 100000) (hn : L ≠ []) : WfL c L := by
  obtain ⟨h1, h2, h3⟩ := h
  unfold datL at h1 h2 h3
  rw [List.length_map] at h1
  rw [List.map_map] at h2
  exact ⟨hn, h1, h2, fun y hy => by
    obtain ⟨a, b, d⟩ := h3 _ (List.mem_map.2 ⟨y, hy, rfl⟩)
    exact ⟨a, Nat.le_trans b hm, d⟩⟩
theorem pos_dat : ∀ (D : List DCall) (s : Int), (D.map (·.1)).Pairwise (· < ·) → posL D s ≤ D.length ∧ (∀ y ∈ D.take (posL D s), y.1 < s) ∧ ∀ y ∈ D.drop (posL D s), s ≤ y.1
  | [], s, _ => ⟨Nat.zero_le _, by simp, by simp⟩
  | y :: D, s, h => by
    rw [List.map_cons, List.pairwise_cons] at h
    obtain ⟨h1, h2⟩ := h
    obtain ⟨i1, i2, i3⟩ := pos_dat D s h2
    by_cases hy : y.1 < s
    · have e : posL (y :: D) s = posL D s + 1 := by unfold posL; rw [List.countP_cons_of_pos (by simpa using hy)]
      rw [e]
      refine ⟨by rw [List.length_cons]; omega, fun z hz => ?_, fun z hz => ?_⟩
      · rw [List.take_succ_cons] at hz
        rcases List.mem_cons.1 hz with rfl | hz
        · exact hy
        · exact i2 z hz
      · rw [List.drop_succ_cons] at hz
        exact i3 z hz
    · have e0 : ∀ z ∈ D, ¬ z.1 < s := fun z hz hlt => by
        have := h1 z.1 (List.mem_map.2 ⟨z, hz, rfl⟩)
        omega
      have e : posL (y :: D) s = 0 := by
        unfold posL
        rw [List.countP_eq_zero]
        intro z hz
        rcases List.mem_cons.1 hz with rfl | hz
        · simpa using hy
        · simpa using e0 z hz
      rw [e]
      refine ⟨Nat.zero_le _, by simp, fun z hz => ?_⟩
      rw [List.drop_zero] at hz
      rcases List.mem_cons.1 hz with rfl | hz
      · omega
      · have := e0 z hz; omega
theorem pw_ins (D : List DCall) (s : Int) (ids : List DId) (h : (D.map (·.1)).Pairwise (· < ·)) (hn : ∀ z, D[posL D s]? = some z → z.1 ≠ s) : ((D.take (posL D s) ++ (s, ids) :: D.drop (posL D s)).map (·.1)).Pairwise (· < ·) := by
  obtain ⟨h1, h2, h3⟩ := pos_dat D s h
  have h4 : ∀ y ∈ D.drop (posL D s), s < y.1 := fun y hy => by
    have hle := h3 y hy
    rcases Nat.lt_or_ge (posL D s) D.length with hl | hl
    · have hd : D.drop (posL D s) = D[posL D s] :: D.drop (posL D s + 1) := List.drop_eq_getElem_cons hl
      have hne := hn _ (List.getElem?_eq_getElem hl)
      have hle0 := h3 D[posL D s] (by rw [hd]; exact List.mem_cons_self ..)
      rw [hd] at hy
      rcases List.mem_cons.1 hy with rfl | hy
      · omega
      · have hp : ((D.drop (posL D s)).map (·.1)).Pairwise (· < ·) := by rw [List.map_drop]; exact h.sublist (List.drop_sublist _ _)
        rw [hd, List.map_cons, List.pairwise_cons] at hp
        have := hp.1 y.1 (List.mem_map.2 ⟨y, hy, rfl⟩)
        omega
    · rw [List.drop_eq_nil_of_le hl] at hy; cases hy
  rw [List.map_append, List.map_cons, List.pairwise_append]
  refine ⟨by rw [List.map_take]; exact h.sublist (List.take_sublist _ _), ?_, fun a ha b hb => ?_⟩
  · rw [List.pairwise_cons]
    refine ⟨fun b hb => ?_, by rw [List.map_drop]; exact h.sublist (List.drop_sublist _ _)⟩
    obtain ⟨y, hy, rfl⟩ := List.mem_map.1 hb
    exact h4 y hy
  · obtain ⟨y, hy, rfl⟩ := List.mem_map.1 ha
    rcases List.mem_cons.1 hb with rfl | hb
    · exact h2 y hy
    · obtain ⟨z, hz, rfl⟩ := List.mem_map.1 hb
      have := h2 y hy
      have := h4 z hz
      omega
/-- What note makes of a client's calls is as it must be; the ids that go are the client's. -/
theorem noteL_wf {m : Nat} {D : List DCall} {x : DId} (h : WfD m x.1 D) (hm : 1 ≤ m) : WfD (m + 1) x.1 (noteL D x).1 ∧ (noteL D x).1 ≠ [] ∧ ∀ i ∈ (noteL D x).2, i.1 = x.1 := by
  obtain ⟨h1, h2, h3⟩ := h
  have hold : ∀ y ∈ D, y.2 ≠ [] ∧ y.2.length ≤ m + 1 ∧ ∀ i ∈ y.2, i.1 = x.1 ∧ i.2.1 = y.1 := fun y hy => ⟨(h3 y hy).1, Nat.le_succ_of_le (h3 y hy).2.1, (h3 y hy).2.2⟩
  have new : (∀ z, D[posL D x.2.1]? = some z → z.1 ≠ x.2.1) → (let M := D.take (posL D x.2.1) ++ (x.2.1, [x]) :: D.drop (posL D x.2.1)
      WfD (m + 1) x.1 (if 4 < M.length then (M.drop 1, ((M[0]?).map (·.2)).getD []) else (M, [])).1 ∧ (if 4 < M.length then (M.drop 1, ((M[0]?).map (·.2)).getD []) else (M, [])).1 ≠ [] ∧ ∀ i ∈ (if 4 < M.length then (M.drop 1, ((M[0]?).map (·.2)).getD []) else (M, [])).2, i.1 = x.1) := by
    intro hn
    have hpw := pw_ins D x.2.1 [x] h2 hn
    obtain ⟨hle, _, _⟩ := pos_dat D x.2.1 h2
    obtain ⟨M, hM⟩ : ∃ M, D.take (posL D x.2.1) ++ (x.2.1, [x]) :: D.drop (posL D x.2.1) = M := ⟨_, rfl⟩
    have hml : M.length = D.length + 1 := by rw [← hM, List.length_append, List.length_take, List.length_cons, List.length_drop]; omega
    have hmem : ∀ y ∈ M, y.2 ≠ [] ∧ y.2.length ≤ m + 1 ∧ ∀ i ∈ y.2, i.1 = x.1 ∧ i.2.1 = y.1 := by
      intro y hy
      rw [← hM, List.mem_append, List.mem_cons] at hy
      rcases hy with hy | hy | hy
      · exact hold y (List.mem_of_mem_take hy)
      · rw [hy]
        refine ⟨by simp, by simp, fun i hi => ?_⟩
        rw [List.mem_singleton.1 hi]
        exact ⟨rfl, rfl⟩
      · exact hold y (List.mem_of_mem_drop hy)
    rw [hM] at hpw ⊢
    simp only
    by_cases h4 : 4 < M.length
    · rw [if_pos h4]
      refine ⟨⟨by rw [List.length_drop]; omega, by rw [List.map_drop]; exact hpw.sublist (List.drop_sublist _ _), fun y hy => hmem y (List.mem_of_mem_drop hy)⟩, fun e => ?_, fun i hi => ?_⟩
      · have e' : M.drop 1 = [] := e
        have := congrArg List.length e'
        rw [List.length_drop] at this
        simp at this
        omega
      · have hM0 : M[0]? = some M[0] := List.getElem?_eq_getElem (by omega)
        have hi : i ∈ ((M[0]?).map (·.2)).getD [] := hi
        rw [hM0] at hi
        exact ((hmem _ (List.getElem_mem (by omega))).2.2 i hi).1
    · rw [if_neg h4]
      refine ⟨⟨by show M.length ≤ 4; omega, hpw, hmem⟩, fun e => ?_, fun i hi => absurd hi (List.not_mem_nil)⟩
      have e' : M = [] := e
      rw [e'] at hml
      simp at hml
  unfold noteL
  cases hz : D[posL D x.2.1]? with
  | none => exact new (fun z hz' => by rw [hz] at hz'; cases hz')
  | some y =>
    simp only
    by_cases hy : y.1 = x.2.1
    · rw [if_pos hy]
      have hpl := (List.getElem?_eq_some_iff.1 hz).1
      have hpy := (List.getElem?_eq_some_iff.1 hz).2
      have hyD : y ∈ D := List.mem_of_getElem? hz
      refine ⟨⟨by rw [List.length_set]; exact h1, ?_, fun z hz' => ?_⟩, fun e => ?_, fun i hi => absurd hi (List.not_mem_nil)⟩
      · show ((D.set _ _).map (·.1)).Pairwise _
        rw [List.map_set]
        have : (D.map (·.1)).set (posL D x.2.1) y.1 = D.map (·.1) := by
          apply List.ext_getElem?
          intro i
          rw [List.getElem?_set]
          split
          · rename_i hi; subst hi; simp [hpl, hpy]
          · rfl
        rw [this]
        exact h2
      · rcases List.mem_or_eq_of_mem_set hz' with hz' | rfl
        · exact hold z hz'
        · refine ⟨by simp, ?_, fun i hi => ?_⟩
          · show (y.2 ++ [x]).length ≤ m + 1
            rw [List.length_append]
            have := (h3 y hyD).2.1
            simp
            omega
          · rcases List.mem_append.1 hi with hi | hi
            · exact (h3 y hyD).2.2 i hi
            · rw [List.mem_singleton.1 hi]
              exact ⟨rfl, hy.symm⟩
      · have := congrArg List.length e
        rw [List.length_set] at this
        simp at this
        rw [this] at hpl
        simp at hpl
    · rw [if_neg hy]
      exact new (fun z hz' => by rw [hz] at hz'; injection hz' with hz'; rw [← hz']; exact hy)
end Num
end Go.Proofs.Ytijfgmhdkflfmaa
