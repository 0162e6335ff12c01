/-
  Tables of replies, as a law walks them.
-/
import Derived.Test.YtijfgmhdkflfmaaSr
namespace Go.Proofs.Ytijfgmhdkflfmaa
open Go.RowKit
namespace Num
open Ints
set_option linter.unusedSimpArgs false
set_option linter.unusedVariables false
/-- A table, its replies, its calls; where P holds lies what Put may write; m: how many were put at most. -/
structure St (n : Nat) (P : Nat → Prop) (w : World) (tb mr mc : Nat) (R : List (RE n)) (C : List KE) (m : Nat) : Prop where
  tab : TabG n w tb mr mc R C
  wfc : WfC C
  dat : ∀ c, WfD m c (gL C c)
  nod : (R.map (·.x)).Nodup
  pm : P mr
  pc : P mc
  pk : ∀ k ∈ C, P k.b ∧ ∀ y ∈ k.L, P y.ib
theorem wfD_nil (m : Nat) (c : Int) : WfD m c [] := ⟨Nat.zero_le _, List.Pairwise.nil, fun y hy => absurd hy (List.not_mem_nil)⟩
theorem wfD_mono {m m' : Nat} {c : Int} {D : List DCall} (h : WfD m c D) (hm : m ≤ m') : WfD m' c D := ⟨h.1, h.2.1, fun y hy => ⟨(h.2.2 y hy).1, Nat.le_trans (h.2.2 y hy).2.1 hm, (h.2.2 y hy).2.2⟩⟩
theorem st_new {n : Nat} {P : Nat → Prop} {w : World} {tb mr mc : Nat} (h : TabG n w tb mr mc ([] : List (RE n)) []) (h1 : P mr) (h2 : P mc) : St n P w tb mr mc [] [] 1 :=
  ⟨h, ⟨List.nodup_nil, fun k hk => absurd hk (List.not_mem_nil)⟩, fun c => wfD_nil 1 c, List.nodup_nil, h1, h2, fun k hk => absurd hk (List.not_mem_nil)⟩
theorem st_step {n : Nat} {P : Nat → Prop} {w w' : World} {tb mr mc : Nat} {R : List (RE n)} {C : List KE} {m : Nat} (h : St n P w tb mr mc R C m) (hb : Below w.heap.size w w') : St n P w' tb mr mc R C m := ⟨tabG_step h.tab hb, h.wfc, h.dat, h.nod, h.pm, h.pc, h.pk⟩
theorem st_pred {n : Nat} {P Q : Nat → Prop} {w : World} {tb mr mc : Nat} {R : List (RE n)} {C : List KE} {m : Nat} (h : St n P w tb mr mc R C m) (hp : ∀ b, P b → Q b) : St n Q w tb mr mc R C m := ⟨h.tab, h.wfc, h.dat, h.nod, hp _ h.pm, hp _ h.pc, fun k hk => ⟨hp _ (h.pk k hk).1, fun y hy => hp _ ((h.pk k hk).2 y hy)⟩⟩
/-- Another table stays as it is. -/
theorem st_other {n : Nat} {P Q : Nat → Prop} {w w' : World} {tb mr mc tb2 mr2 mc2 : Nat} {R R2 : List (RE n)} {C C2 : List KE} {m m2 : Nat} {c : Int} (h : St n P w tb mr mc R C m) (h2 : St n Q w tb2 mr2 mc2 R2 C2 m2) (hd : ∀ b, P b → Q b → False) (hc : Chg mr mc (getC C c) w w') : St n Q w' tb2 mr2 mc2 R2 C2 m2 := by
  obtain ⟨es, ck, hm, _⟩ := h.tab.rep
  obtain ⟨fs, ck', hm', _⟩ := h.tab.cal
  have hK : ∀ b, InK (getC C c) b → ∃ k ∈ C, b = k.b ∨ ∃ y ∈ k.L, b = y.ib := fun b ⟨k, hk, hb⟩ => ⟨k, List.mem_of_find?_eq_some hk, hb⟩
  refine ⟨tabG_to h2.tab (fun b hl hb => ?_), h2.wfc, h2.dat, h2.nod, h2.pm, h2.pc, h2.pk⟩
  have byq : Q b → w'.heap[b]? = w.heap[b]? := fun hq => hc.block b hl (fun e => hd b (e ▸ h.pm) hq) (fun e => hd b (e ▸ h.pc) hq) (fun hk => by
    obtain ⟨k, hk1, hk2⟩ := hK b hk
    rcases hk2 with rfl | ⟨y, hy, rfl⟩
    · exact hd _ (h.pk k hk1).1 hq
    · exact hd _ ((h.pk k hk1).2 y hy) hq)
  rcases hb with rfl | hb | hb
  · refine hc.block b hl (ne_map h2.tab.tab hm) (ne_map h2.tab.tab hm') (fun hk => ?_)
    obtain ⟨k, hk1, hk2⟩ := hK b hk
    rcases hk2 with e | ⟨y, hy, e⟩
    · obtain ⟨cr, hcr⟩ := own_block (h.tab.row k hk1)
      exact ne_ty h2.tab.tab hcr ty_ta_ca e
    · obtain ⟨ci, hci⟩ := own_block (h.tab.ids k hk1 y hy)
      exact ne_ty h2.tab.tab hci ty_ta_id e
  · refine byq ?_
    rcases hb with rfl | rfl | ⟨k, hk, rfl | ⟨y, hy, rfl⟩⟩
    · exact h2.pm
    · exact h2.pc
    · exact (h2.pk k hk).1
    · exact (h2.pk k hk).2 y hy
  · obtain ⟨cur, hp⟩ := hb
    refine hc.block b hl (ne_map hp hm) (ne_map hp hm') (fun hk => ?_)
    obtain ⟨k, hk1, hk2⟩ := hK b hk
    rcases hk2 with e | ⟨y, hy, e⟩
    · obtain ⟨cr, hcr⟩ := own_block (h.tab.row k hk1)
      exact ne_ty hcr hp ty_ca_va e.symm
    · obtain ⟨ci, hci⟩ := own_block (h.tab.ids k hk1 y hy)
      exact ne_ty hci hp ty_id_va e.symm
theorem chg_below {n : Nat} {P : Nat → Prop} {w w' : World} {tb mr mc : Nat} {R : List (RE n)} {C : List KE} {m : Nat} {c : Int} (h : St n P w tb mr mc R C m) (hc : Chg mr mc (getC C c) w w') (B : Nat) (hP : ∀ b, P b → B ≤ b) (hB : B ≤ w.heap.size) : Below B w w' :=
  ⟨hc.os, hc.tape, hc.output, hc.size, fun b hb => hc.block b (by omega) (fun e => by have := hP _ h.pm; omega) (fun e => by have := hP _ h.pc; omega) (fun ⟨k, hk, hk2⟩ => by
    have hk1 := List.mem_of_find?_eq_some hk
    rcases hk2 with e | ⟨y, hy, e⟩
    · have := hP _ (h.pk k hk1).1; omega
    · have := hP _ ((h.pk k hk1).2 y hy); omega)⟩
theorem getR_app {n : Nat} (R : List (RE n)) (r : RE n) (hn : getR R r.x = none) (y : DId) : getR (R ++ [r]) y = if y = r.x then some r else getR R y := by
  unfold getR at hn ⊢
  rw [List.find?_append]
  by_cases hy : y = r.x
  · subst hy
    rw [hn, if_pos rfl]
    simp
  · rw [if_neg hy]
    cases R.find? (fun r => decide (y = r.x)) with
    | some z => rfl
    | none => simp [hy]
theorem getR_erase {n : Nat} : ∀ (R : List (RE n)) (x y : DId), (R.map (·.x)).Nodup → getR (R.eraseP (fun r => decide (x = r.x))) y = if y = x then none else getR R y
  | [], x, y, _ => by simp [getR]
  | r :: R, x, y, h => by
    rw [List.map_cons, List.nodup_cons] at h
    by_cases hx : x = r.x
    · rw [List.eraseP_cons_of_pos (by simpa using hx)]
      by_cases hy : y = x
      · rw [if_pos hy]
        unfold getR
        rw [List.find?_eq_none]
        intro z hz hz'
        have hz' : y = z.x := by simpa using hz'
        exact h.1 (List.mem_map.2 ⟨z, hz, by rw [← hz', hy, hx]⟩)
      · rw [if_neg hy]
        unfold getR
        rw [List.find?_cons_of_neg (by rw [← hx]; simpa using hy)]
    · rw [List.eraseP_cons_of_neg (by simpa using hx)]
      have ih := getR_erase R x y h.2
      unfold getR at ih ⊢
      by_cases hyr : y = r.x
      · rw [List.find?_cons_of_pos (by simpa using hyr), if_neg (fun e => hx (by rw [← e]; exact hyr)), List.find?_cons_of_pos (by simpa using hyr)]
      · rw [List.find?_cons_of_neg (by simpa using hyr), List.find?_cons_of_neg (by simpa using hyr)]
        exact ih
theorem nodup_erase {n : Nat} (R : List (RE n)) (x : DId) (h : (R.map (·.x)).Nodup) : ((R.eraseP (fun r => decide (x = r.x))).map (·.x)).Nodup := (List.Sublist.map _ List.eraseP_sublist).nodup h
theorem getR_del {n : Nat} : ∀ (ids : List DId) (R : List (RE n)) (y : DId), (R.map (·.x)).Nodup → getR (delR R ids) y = (if y ∈ ids then none else getR R y) ∧ ((delR R ids).map (·.x)).Nodup
  | [], R, y, h => ⟨by rw [if_neg (List.not_mem_nil)]; rfl, h⟩
  | x :: ids, R, y, h => by
    obtain ⟨h1, h2⟩ := getR_del ids (R.eraseP (fun r => decide (x = r.x))) y (nodup_erase R x h)
    refine ⟨?_, h2⟩
    show getR (delR _ ids) y = _
    rw [h1, getR_erase R x y h]
    by_cases hy : y ∈ ids
    · rw [if_pos hy, if_pos (List.mem_cons_of_mem _ hy)]
    · rw [if_neg hy]
      by_cases hyx : y = x
      · rw [if_pos hyx, if_pos (by rw [hyx]; exact List.mem_cons_self ..)]
      · rw [if_neg hyx, if_neg (fun h => by rcases List.mem_cons.1 h with h | h; exact hyx h; exact hy h)]
/-- What a Put that is taken makes of a table. -/
def PutQ (n : Nat) (P : Nat → Prop) (w : World) (tb mr mc : Nat) (R : List (RE n)) (C : List KE) (m : Nat) (r : RE n) (w' : World) : Prop :=
  ∃ (r' : RE n) (R' : List (RE n)) (C' : List KE), r'.x = r.x ∧ r'.e = r.e ∧ r'.T = cleanT n r.T ∧ R' = delR (R ++ [r']) (noteL (gL C r.x.1) r.x).2 ∧ gL C' r.x.1 = (noteL (gL C r.x.1) r.x).1 ∧ (∀ c, c ≠ r.x.1 → gL C' c = gL C c) ∧ St n (fun b => P b ∨ (w.heap.size ≤ b ∧ b < w'.heap.size)) w' tb mr mc R' C' (m + 1) ∧ Chg mr mc (getC C r.x.1) w w'
theorem st_put {n : Nat} {P : Nat → Prop} {w : World} {tb mr mc : Nat} {R : List (RE n)} {C : List KE} {m : Nat} (h : St n P w tb mr mc R C m) (hm1 : 1 ≤ m) (hm : m < 100000) (r : RE n) (hn : getR R r.x = none) (ho : oldD (gL C r.x.1) r.x.2.1 = false) (hr : Rep w n r.v r.T) (hL : Lite n r.T) :
    Calls Try.prog 12 #[.pointer (some ⟨tb, 0, none⟩), r.a] w fun e w' => e = .returned (.bool true) ∧ PutQ n P w tb mr mc R C m r w' := by
  refine (put_new n w tb mr mc R C r h.tab h.wfc hn (by rw [old_dat]; exact ho) hr hL).mono ?_
  rintro e w' ⟨r', rfl, hx, he, hT, k2, hkc, hkL, htab, hchg, hnew⟩
  have hgd : datL ((getC C r.x.1).elim [] (·.L)) = gL C r.x.1 := rfl
  rw [hgd] at hkL htab
  obtain ⟨wf1, wf2, wf3⟩ := noteL_wf (h.dat r.x.1) hm1
  have hk2n : k2.L ≠ [] := fun e => wf2 (by rw [← hkL, e]; rfl)
  have hsame : gL (setC C k2) r.x.1 = (noteL (gL C r.x.1) r.x).1 := by rw [← hkL, ← hkc]; exact gL_same C k2
  have hoth : ∀ c, c ≠ r.x.1 → gL (setC C k2) c = gL C c := fun c hc => gL_other C k2 h.wfc.keys c (by rw [hkc]; exact hc)
  have hnd : ((R ++ [r']).map (·.x)).Nodup := by
    rw [List.map_append]
    refine List.nodup_append.2 ⟨h.nod, by simp, fun a ha b hb => ?_⟩
    obtain ⟨z, hz, rfl⟩ := List.mem_map.1 ha
    simp only [List.map_cons, List.map_nil, List.mem_singleton] at hb
    rintro rfl
    have := List.find?_eq_none.1 hn z hz
    exact this (decide_eq_true (hb.trans hx).symm)
  refine ⟨rfl, r', _, setC C k2, hx, he, hT, rfl, hsame, hoth, ⟨htab, ⟨setC_keys C k2 h.wfc.keys, fun k hk => ?_⟩, fun c => ?_, (getR_del _ _ r.x hnd).2, Or.inl h.pm, Or.inl h.pc, fun k hk => ?_⟩, hchg⟩
  · rcases setC_mem k2 h.wfc.keys hk with rfl | ⟨hk1, _⟩
    · rw [hkc]
      exact wfL_of (by rw [hkL]; exact wf1) (by omega) hk2n
    · exact h.wfc.all k hk1
  · by_cases hc : c = r.x.1
    · rw [hc, hsame]; exact wf1
    · rw [hoth c hc]; exact wfD_mono (h.dat c) (Nat.le_succ _)
  · have hkP : ∀ b, (b < w'.heap.size) → (w.heap.size ≤ b ∨ InK (getC C r.x.1) b) → P b ∨ (w.heap.size ≤ b ∧ b < w'.heap.size) := fun b hl hb => by
      rcases hb with hb | ⟨k0, hk0, hb⟩
      · exact Or.inr ⟨hb, hl⟩
      · have hk1 := List.mem_of_find?_eq_some hk0
        rcases hb with rfl | ⟨y, hy, rfl⟩
        · exact Or.inl (h.pk k0 hk1).1
        · exact Or.inl ((h.pk k0 hk1).2 y hy)
    obtain ⟨cr, hcr⟩ := own_block (htab.row k hk)
    rcases setC_mem k2 h.wfc.keys hk with rfl | ⟨hk1, _⟩
    · refine ⟨hkP _ (row_lt hcr) (hnew _ ⟨k, rfl, Or.inl rfl⟩), fun y hy => ?_⟩
      obtain ⟨ci, hci⟩ := own_block (htab.ids k hk y hy)
      exact hkP _ (row_lt hci) (hnew _ ⟨k, rfl, Or.inr ⟨y, hy, rfl⟩⟩)
    · exact ⟨Or.inl (h.pk k hk1).1, fun y hy => Or.inl ((h.pk k hk1).2 y hy)⟩
end Num
end Go.Proofs.Ytijfgmhdkflfmaa
