/-
  A table of replies: no two clients' calls lie in one place; what one client's calls come to.
-/
import Derived.Test.YtijfgmhdkflfmaaSd
namespace Go.Proofs.Ytijfgmhdkflfmaa
open Go.RowKit
namespace Num
open Ints
set_option linter.unusedSimpArgs false
set_option linter.unusedVariables false
/-- The data of calls. -/
abbrev DCall := Int × List DId
def datL (L : List CE) : List DCall := L.map fun y => (y.s, y.ids)
/-- The calls of a client are as they must be. -/
def WfL (c : Int) (L : List CE) : Prop := L ≠ [] ∧ L.length ≤ 4 ∧ (L.map (·.s)).Pairwise (· < ·) ∧ ∀ y ∈ L, y.ids ≠ [] ∧ y.ids.length ≤ 100000 ∧ ∀ i ∈ y.ids, i.1 = c ∧ i.2.1 = y.s
structure WfC (C : List KE) : Prop where
  keys : (C.map (·.c)).Nodup
  all : ∀ k ∈ C, WfL k.c k.L
theorem nodup_at {α : Type} {L : List α} (h : L.Nodup) {i j : Nat} (hi : i < L.length) (hj : j < L.length) (he : L[i] = L[j]) : i = j := by
  have hp := List.pairwise_iff_getElem.1 h
  by_cases h1 : i < j
  · exact absurd he (hp i j hi hj h1)
  · by_cases h2 : j < i
    · exact absurd he.symm (hp j i hj hi h2)
    · omega
theorem key_inj {C : List KE} (h : WfC C) {k k' : KE} (hk : k ∈ C) (hk' : k' ∈ C) (he : k.c = k'.c) : k = k' := by
  obtain ⟨i, hi, rfl⟩ := List.getElem_of_mem hk
  obtain ⟨j, hj, rfl⟩ := List.getElem_of_mem hk'
  have hn := h.keys
  have : i = j := by
    have h1 : (C.map (·.c))[i]'(by rw [List.length_map]; exact hi) = (C.map (·.c))[j]'(by rw [List.length_map]; exact hj) := by rw [List.getElem_map, List.getElem_map]; exact he
    exact nodup_at hn _ _ h1
  subst this
  rfl
theorem ids_first {w : World} {y : CE} {i : DId} {l : List DId} (hy : y.ids = i :: l) (h : w.ownsRow 0 40 3 y.v y.ids.length (y.ids.flatMap didC)) : w.cell? ⟨y.ib, 0, none⟩ = some (.int .u32 i.1) ∧ w.cell? ⟨y.ib, 1, none⟩ = some (.int .u32 i.2.1) :=
  ⟨own_cell h 0 _ (by rw [hy]; rfl), own_cell h 1 _ (by rw [hy]; rfl)⟩
theorem sep_ids {n : Nat} {w : World} {tb mr mc : Nat} {R : List (RE n)} {C : List KE} (h : TabG n w tb mr mc R C) (hw : WfC C) {k k' : KE} (hk : k ∈ C) (hk' : k' ∈ C) {y y' : CE} (hy : y ∈ k.L) (hy' : y' ∈ k'.L) (he : y.ib = y'.ib) : k.c = k'.c ∧ y.s = y'.s := by
  obtain ⟨_, _, _, h1⟩ := hw.all k hk
  obtain ⟨_, _, _, h2⟩ := hw.all k' hk'
  obtain ⟨n1, _, a1⟩ := h1 y hy
  obtain ⟨n2, _, a2⟩ := h2 y' hy'
  cases e1 : y.ids with
  | nil => exact absurd e1 n1
  | cons i l =>
    cases e2 : y'.ids with
    | nil => exact absurd e2 n2
    | cons i' l' =>
      obtain ⟨c0, c1⟩ := ids_first e1 (h.ids k hk y hy)
      obtain ⟨d0, d1⟩ := ids_first e2 (h.ids k' hk' y' hy')
      rw [he] at c0 c1
      rw [c0] at d0
      rw [c1] at d1
      injection d0 with d0; injection d0 with _ d0
      injection d1 with d1; injection d1 with _ d1
      have x1 := a1 i (by rw [e1]; exact List.mem_cons_self ..)
      have x2 := a2 i' (by rw [e2]; exact List.mem_cons_self ..)
      exact ⟨by omega, by omega⟩
theorem sep_row {n : Nat} {w : World} {tb mr mc : Nat} {R : List (RE n)} {C : List KE} (h : TabG n w tb mr mc R C) (hw : WfC C) {k k' : KE} (hk : k ∈ C) (hk' : k' ∈ C) (he : k.b = k'.b) : k.c = k'.c := by
  cases e1 : k.L with
  | nil => exact absurd e1 (hw.all k hk).1
  | cons y l =>
    cases e2 : k'.L with
    | nil => exact absurd e2 (hw.all k' hk').1
    | cons y' l' =>
      have c1 := own_cell (h.row k hk) 1 y.v (by rw [e1]; rfl)
      have d1 := own_cell (h.row k' hk') 1 y'.v (by rw [e2]; rfl)
      rw [he, d1] at c1
      injection c1 with c1
      injection c1 with c1
      injection c1 with c1
      injection c1 with c1
      exact (sep_ids h hw hk hk' (y := y) (y' := y') (by rw [e1]; exact List.mem_cons_self ..) (by rw [e2]; exact List.mem_cons_self ..) c1.symm).1
theorem own_block {w : World} {e : TypeId} {q g c n : Nat} {xs : List Value} (h : w.ownsRow 0 e q (.slice (some ⟨g, 0, none⟩) n c) n xs) : ∃ cur, w.heap[g]? = some (.cells cur e (0, 0)) := by
  rcases h.2 with ⟨hv, _⟩ | ⟨g', cap, cur, hv, _, hg, _⟩
  · cases hv
  · injection hv with e1 e2 e3
    injection e1 with e1
    injection e1 with e1
    subst e1
    exact ⟨cur, hg⟩
theorem ne_of_obj {w : World} {a b : Nat} {o o' : Obj} (ha : w.heap[a]? = some o) (hb : w.heap[b]? = some o') (hne : o ≠ o') : a ≠ b := by
  rintro rfl
  rw [ha] at hb
  injection hb with hb
  exact hne hb
theorem ty_ca_id : ¬ (79 : TypeId) = 40 := by decide
theorem ty_ca_va : ¬ (79 : TypeId) = 33 := by decide
theorem ty_id_va : ¬ (40 : TypeId) = 33 := by decide
theorem ty_ta_ca : ¬ (62 : TypeId) = 79 := by decide
theorem ty_ta_id : ¬ (62 : TypeId) = 40 := by decide
theorem ne_ty {w : World} {a b : Nat} {c c' : Array Value} {t t' : TypeId} (ha : w.heap[a]? = some (.cells c t (0, 0))) (hb : w.heap[b]? = some (.cells c' t' (0, 0))) (hne : ¬ t = t') : a ≠ b := ne_of_obj ha hb (fun e => hne (by injection e))
theorem ne_map {w : World} {a b : Nat} {c : Array Value} {t : TypeId} {es : Array MapEntry} {ck : Nat} (ha : w.heap[a]? = some (.cells c t (0, 0))) (hb : w.heap[b]? = some (.map es ck)) : a ≠ b := ne_of_obj ha hb (fun e => by cases e)
theorem setC_mem {C : List KE} (k2 : KE) {z : KE} (hn : (C.map (·.c)).Nodup) (h : z ∈ setC C k2) : z = k2 ∨ (z ∈ C ∧ z.c ≠ k2.c) := by
  unfold setC at h
  split at h
  · rename_i j hj
    obtain ⟨hjl, hjc, _⟩ := List.findIdx?_eq_some_iff_getElem.1 hj
    have hjc' : k2.c = C[j].c := by simpa using hjc
    obtain ⟨i, hi, hz⟩ := List.getElem_of_mem h
    rw [List.length_set] at hi
    rw [List.getElem_set] at hz
    split at hz
    · exact Or.inl hz.symm
    · rename_i hne
      refine Or.inr ⟨by rw [← hz]; exact List.getElem_mem hi, fun he => hne ?_⟩
      have h1 : (C.map (·.c))[j]'(by rw [List.length_map]; exact hjl) = (C.map (·.c))[i]'(by rw [List.length_map]; exact hi) := by rw [List.getElem_map, List.getElem_map, hz, he, hjc']
      exact nodup_at hn _ _ h1
  · rename_i hj
    rcases List.mem_append.1 h with h | h
    · refine Or.inr ⟨h, fun he => ?_⟩
      have := List.findIdx?_eq_none_iff.1 hj z h
      simp [he] at this
    · exact Or.inl (List.mem_singleton.1 h)
theorem getC_c {C : List KE} {c : Int} {k : KE} (hk : getC C c = some k) : c = k.c := by
  have := List.find?_some hk
  simpa using this
/-- One client's calls anew, and replies gone. -/
theorem tabG_put {n : Nat} {w w' : World} {tb mr mc : Nat} {R R' : List (RE n)} {C : List KE} (h : TabG n w tb mr mc R C) (hw : WfC C) (k2 : KE)
    (hfr : ∀ b, b < w.heap.size → b ≠ mr → b ≠ mc → (∀ k, getC C k2.c = some k → b ≠ k.b ∧ ∀ y ∈ k.L, b ≠ y.ib) → w'.heap[b]? = w.heap[b]?)
    (hrep : ∃ es ck, w'.heap[mr]? = some (.map es ck) ∧ KvR es ck R') (hR : ∀ r ∈ R', r ∈ R)
    (hcal : ∃ fs ck, w'.heap[mc]? = some (.map fs ck) ∧ fs.toList.map kv = (setC C k2).map KE.kv)
    (hrow2 : w'.ownsRow 0 79 2 k2.v k2.L.length (k2.L.flatMap CE.cells)) (hids2 : ∀ y ∈ k2.L, w'.ownsRow 0 40 3 y.v y.ids.length (y.ids.flatMap didC)) : TabG n w' tb mr mc R' (setC C k2) := by
  obtain ⟨es, ck, hm, _⟩ := h.rep
  obtain ⟨fs, ck', hm', _⟩ := h.cal
  have hg : ∀ k, getC C k2.c = some k → k ∈ C ∧ k.c = k2.c := fun k hk => ⟨List.mem_of_find?_eq_some hk, (getC_c hk).symm⟩
  refine ⟨?_, hrep, hcal, fun z hz => ?_, fun z hz y hy => ?_, fun r hr => ?_, h.ne⟩
  · refine (hfr tb (row_lt h.tab) (ne_map h.tab hm) (ne_map h.tab hm') (fun k hk => ?_)).trans h.tab
    obtain ⟨h1, _⟩ := hg k hk
    obtain ⟨cr, hcr⟩ := own_block (h.row k h1)
    refine ⟨ne_ty h.tab hcr ty_ta_ca, fun y hy => ?_⟩
    obtain ⟨ci, hci⟩ := own_block (h.ids k h1 y hy)
    exact ne_ty h.tab hci ty_ta_id
  · rcases setC_mem k2 hw.keys hz with rfl | ⟨hz1, hz2⟩
    · exact hrow2
    · obtain ⟨cz, hcz⟩ := own_block (h.row z hz1)
      refine own_to (h.row z hz1) (fun hl => hfr z.b hl (ne_map hcz hm) (ne_map hcz hm') (fun k hk => ?_))
      obtain ⟨h1, h2⟩ := hg k hk
      refine ⟨fun e => hz2 ((sep_row h hw hz1 h1 e).trans h2), fun y hy => ?_⟩
      obtain ⟨ci, hci⟩ := own_block (h.ids k h1 y hy)
      exact ne_ty hcz hci ty_ca_id
  · rcases setC_mem k2 hw.keys hz with rfl | ⟨hz1, hz2⟩
    · exact hids2 y hy
    · obtain ⟨cz, hcz⟩ := own_block (h.ids z hz1 y hy)
      refine own_to (h.ids z hz1 y hy) (fun hl => hfr y.ib hl (ne_map hcz hm) (ne_map hcz hm') (fun k hk => ?_))
      obtain ⟨h1, h2⟩ := hg k hk
      obtain ⟨cr, hcr⟩ := own_block (h.row k h1)
      exact ⟨(ne_ty hcr hcz ty_ca_id).symm, fun y' hy' e => hz2 ((sep_ids h hw hz1 h1 hy hy' e).1.trans h2)⟩
  · refine repC_mono _ _ _ _ _ (fun _ _ => trivial) (repC_keep _ _ _ _ (fun b hb => ?_) (repC_pln _ _ _ _ (repC_lt _ _ _ _ (h.val r (hR r hr)))))
    obtain ⟨⟨_, hl⟩, cur, hp⟩ := hb
    refine hfr b hl (ne_map hp hm) (ne_map hp hm') (fun k hk => ?_)
    obtain ⟨h1, _⟩ := hg k hk
    obtain ⟨cr, hcr⟩ := own_block (h.row k h1)
    refine ⟨(ne_ty hcr hp ty_ca_va).symm, fun y hy => ?_⟩
    obtain ⟨ci, hci⟩ := own_block (h.ids k h1 y hy)
    exact (ne_ty hci hp ty_id_va).symm
/-- A reply put behind the others. -/
theorem tabG_rep {n : Nat} {w w' : World} {tb mr mc : Nat} {R R' : List (RE n)} {C : List KE} (h : TabG n w tb mr mc R C) (hfr : ∀ b, b < w.heap.size → b ≠ mr → w'.heap[b]? = w.heap[b]?) (hrep : ∃ es ck, w'.heap[mr]? = some (.map es ck) ∧ KvR es ck R') (hR : ∀ r ∈ R', r ∈ R ∨ RepC w' n (fun _ => True) r.v r.T) : TabG n w' tb mr mc R' C := by
  obtain ⟨es, ck, hm, _⟩ := h.rep
  obtain ⟨fs, ck', hm', hf'⟩ := h.cal
  refine ⟨(hfr tb (row_lt h.tab) (ne_map h.tab hm)).trans h.tab, hrep, ⟨fs, ck', (hfr mc (row_lt hm') h.ne.symm).trans hm', hf'⟩, fun z hz => ?_, fun z hz y hy => ?_, fun r hr => ?_, h.ne⟩
  · obtain ⟨cz, hcz⟩ := own_block (h.row z hz)
    exact own_to (h.row z hz) (fun hl => hfr z.b hl (ne_map hcz hm))
  · obtain ⟨cz, hcz⟩ := own_block (h.ids z hz y hy)
    exact own_to (h.ids z hz y hy) (fun hl => hfr y.ib hl (ne_map hcz hm))
  · rcases hR r hr with hr | hr
    · refine repC_mono _ _ _ _ _ (fun _ _ => trivial) (repC_keep _ _ _ _ (fun b hb => ?_) (repC_pln _ _ _ _ (repC_lt _ _ _ _ (h.val r hr))))
      obtain ⟨⟨_, hl⟩, cur, hp⟩ := hb
      exact hfr b hl (ne_map hp hm)
    · exact hr
/-- Replies whose ids are listed go. -/
def delR {n : Nat} (R : List (RE n)) (ids : List DId) : List (RE n) := ids.foldl (fun R x => R.eraseP (fun r => decide (x = r.x))) R
/-- What a reply's id makes of its client's calls, and the ids that go. -/
def posL (L : List DCall) (s : Int) : Nat := L.countP (fun y => decide (y.1 < s))
def noteL (L : List DCall) (x : DId) : List DCall × List DId :=
  match L[posL L x.2.1]? with
  | some y => if y.1 = x.2.1 then (L.set (posL L x.2.1) (y.1, y.2 ++ [x]), []) else
      let M := L.take (posL L x.2.1) ++ (x.2.1, [x]) :: L.drop (posL L x.2.1)
      if 4 < M.length then (M.drop 1, ((M[0]?).map (·.2)).getD []) else (M, [])
  | none =>
      let M := L.take (posL L x.2.1) ++ (x.2.1, [x]) :: L.drop (posL L x.2.1)
      if 4 < M.length then (M.drop 1, ((M[0]?).map (·.2)).getD []) else (M, [])
end Num
end Go.Proofs.Ytijfgmhdkflfmaa
