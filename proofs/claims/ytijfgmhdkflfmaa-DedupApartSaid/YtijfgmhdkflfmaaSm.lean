/-
  Package dedup's note: a client that has no calls.
-/
import Derived.Test.YtijfgmhdkflfmaaSl
import Derived.RegionTactic
import Derived.Deep.RegionWith
import Derived.Deep.RegionLaw
import Derived.Deep.DeepCutAuto
namespace Go.Proofs.Ytijfgmhdkflfmaa
open Go.RowKit
namespace Num
open Ints
set_option linter.unusedSimpArgs false
set_option linter.unusedVariables false
theorem own_one {w : World} {b : Nat} {x0 x1 x2 : Int} (h : w.heap[b]? = some (.cells #[.int .u32 x0, .int .u32 x1, .int .u16 x2] 40 (0, 0))) : w.ownsRow 0 40 3 (.slice (some ⟨b, 0, none⟩) 1 1) 1 ([(x0, x1, x2)].flatMap didC) :=
  ⟨rfl, Or.inr ⟨b, 1, _, rfl, Nat.zero_le _, h, Nat.le_refl _, by unfold maxLen; omega, rfl, rfl⟩⟩
theorem tabG_all {n : Nat} {w w' : World} {tb mr mc : Nat} {R : List (RE n)} {C : List KE} (h : TabG n w tb mr mc R C) (hg : w.grownBy w' none) : TabG n w' tb mr mc R C := tabG_to h (fun b hl _ => hg.block b hl (by simp))
set_option maxRecDepth 100000 in
set_option maxHeartbeats 8000000 in
theorem note_new (n : Nat) (w : World) (tb mr mc : Nat) (R : List (RE n)) (C : List KE) (x0 x1 x2 : Int) (h : TabG n w tb mr mc R C) (hw : WfC C) (hn : getC C x0 = none) :
    Calls Try.prog 25 #[.pointer (some ⟨tb, 0, none⟩), .agg #[.int .u32 x0, .int .u32 x1, .int .u16 x2]] w fun e w' => e = .returned (.tuple #[]) ∧ NoteP n w tb mr mc R C (x0, x1, x2) w' := by
  obtain ⟨w1, hw1⟩ : ∃ W, w.alloc (.cells #[.int .u32 x0, .int .u32 x1, .int .u16 x2] 40) = W := ⟨_, rfl⟩
  obtain ⟨g, hg⟩ : ∃ g, w.heap.size = g := ⟨_, rfl⟩
  have hb1 : Below w.heap.size w w1 := by rw [← hw1]; exact (Below.refl _ _).alloc (Nat.le_refl _) _
  have hA : w1.heap[g]? = some (.cells #[.int .u32 x0, .int .u32 x1, .int .u16 x2] 40 (0, 0)) := by rw [← hw1, ← hg]; exact row_alloc w _ _
  have h1 : TabG n w1 tb mr mc R C := tabG_step h hb1
  have t1 := row_cell h1.tab 1
  have c0 := row_cell hA 0; have c1 := row_cell hA 1; have c2 := row_cell hA 2
  simp only [List.getElem?_toArray, List.getElem?_cons_zero, List.getElem?_cons_succ] at t1 c0 c1 c2
  obtain ⟨fs, ck, hm, hf⟩ := h1.cal
  have hl1 := look_u32 w1 mc fs ck C x0 hm hf
  have hl2 := look_u32 w1.drew mc fs ck C x0 hm hf
  have HA := Lib.hid hA
  have HT := Lib.hid h1
  have HC1 := Lib.hid (chg_bel (mr := mr) (mc := mc) (o := getC C x0) hb1)
  have HS1 := Lib.hid (show w1.heap.size = g + 1 by rw [← hw1, World.size_alloc, hg])
  rw [hn] at hl1 hl2
  simp only at hl1 hl2
  have HW := Lib.hid hw
  have HN := Lib.hid hn
  clear h h1 hb1 hA hm hf hw hn
  go_enter Try.func25, Try.ntmps25
  go_wp2_with fail
  clear hw1
  go_region
  go_wp2_with fail
  go_at_call 33; refine (bsc_none _ _ _ _).mono ?_; rintro e w2 ⟨rfl, hb2⟩
  clear hl1 hl2 c0 c1 c2 t1
  have hb2' : Below w1.heap.size w1 w2 := bel_step (w := w1) (Below.drew (Below.refl _ _)) hb2
  have hA2 := row_step HA.out hb2'
  have h2 : TabG n w2 tb mr mc R C := tabG_step HT.out hb2'
  obtain ⟨g2, hg2⟩ : ∃ g2, w2.heap.size = g2 := ⟨_, rfl⟩
  have hgg : g < g2 := by rw [← hg2]; exact row_lt hA2
  obtain ⟨w3, hw3⟩ : ∃ W, w2.alloc (.cells #[.int .u32 x0, .int .u32 x1, .int .u16 x2] 40) = W := ⟨_, rfl⟩
  have hs3 : w3.heap.size = g2 + 1 := by rw [← hw3, World.size_alloc, hg2]
  obtain ⟨w4, hw4⟩ : ∃ W, w3.alloc (.cells #[.int .u32 x1, .slice (some ⟨g2, 0, none⟩) 1 1] 79) = W := ⟨_, rfl⟩
  have hb4 : Below w2.heap.size w2 w4 := by rw [← hw4, ← hw3]; exact bel_alloc (bel_alloc (Below.refl _ _) _) _
  have hI4 : w4.heap[g2]? = some (.cells #[.int .u32 x0, .int .u32 x1, .int .u16 x2] 40 (0, 0)) := by rw [← hw4, ← hw3, ← hg2]; exact row_alloc_step (row_alloc w2 _ _) _
  have hV4 : w4.heap[g2 + 1]? = some (.cells #[.int .u32 x1, .slice (some ⟨g2, 0, none⟩) 1 1] 79 (0, 0)) := by rw [← hw4, ← hs3]; exact row_alloc w3 _ _
  have hA4 := row_step hA2 hb4
  have h4 : TabG n w4 tb mr mc R C := tabG_step h2 hb4
  have k0 := row_cell hA2 0; have k1 := row_cell hA2 1; have k2 := row_cell hA2 2
  have k0' := row_cell (show w3.heap[g]? = _ from (by rw [← hw3]; exact row_alloc_step hA2 _)) 0; have k1' := row_cell (show w3.heap[g]? = _ from (by rw [← hw3]; exact row_alloc_step hA2 _)) 1
  simp only [List.getElem?_toArray, List.getElem?_cons_zero, List.getElem?_cons_succ] at k0 k1 k2 k0' k1'
  have HC4 := Lib.hid (chg_trans HC1.out (chg_bel (bel_step (w := w1) hb2' hb4)))
  have HI4 := Lib.hid hI4
  have HV4 := Lib.hid hV4
  have HA4 := Lib.hid hA4
  have HT4 := Lib.hid h4
  have HS4 := Lib.hid (show w4.heap.size = g2 + 2 by rw [← hw4, World.size_alloc, hs3])
  clear hb2 hb2' hA2 h2 hb4 hI4 hV4 hA4 h4
  go_wp2_with fail
  clear hw3 hw4 k0 k1 k2 k0' k1'
  go_at_call 35; refine (ins_end none 0 0 [] ⟨x1, g2, 1, [(x0, x1, x2)]⟩ (g2 + 1) w4 (World.ownsRow_nil _ _ _ _) rfl HV4.out (by omega)).mono ?_; rintro e w5 ⟨b', k', rfl, ho, hgb, hat⟩
  have h5 : TabG n w5 tb mr mc R C := tabG_all HT4.out hgb
  obtain ⟨fs5, ck5, hm5, hf5⟩ := h5.cal
  obtain ⟨fs', ck', hup, hkv⟩ := put_u32 w5.drew mc fs5 ck5 C ⟨x0, b', k', [⟨x1, g2, 1, [(x0, x1, x2)]⟩]⟩ hm5 hf5
  have hup' : (Instr.mapUpdate 60 (.map (some mc)) (.int .u32 x0) (.slice (some ⟨b', 0, none⟩) 1 k')).run Try.prog w5.drew = .ok () (mpD w5.drew mc fs' ck') := hup
  have hA5 := row_grown HA4.out hgb (by simp [Value.ownBlock])
  have c0 := row_cell hA5 0
  have t1 := row_cell h5.tab 1
  simp only [List.getElem?_toArray, List.getElem?_cons_zero, List.getElem?_cons_succ] at c0 t1
  have HFIN := Lib.hid (show NoteP n w tb mr mc R C (x0, x1, x2) (mpD w5.drew mc fs' ck') by
    have hNN : getC C (x0, x1, x2).1 = none := HN.out
    have hnl : noteL (datL ((getC C (x0, x1, x2).1).elim [] (·.L))) (x0, x1, x2) = ([(x1, [(x0, x1, x2)])], []) := by rw [hNN]; rfl
    have hoc := own_block ho
    refine ⟨⟨x0, b', k', [⟨x1, g2, 1, [(x0, x1, x2)]⟩]⟩, rfl, by rw [hnl]; rfl, ?_, ?_, ?_⟩
    · rw [hnl]
      refine tabG_put h5 HW.out _ (fun b _ _ hb _ => mpD_other (w := w5.drew) hb _ _) ?_ (fun r hr => hr) ⟨fs', ck', mpD_at (w := w5.drew) hm5 _ _, hkv⟩ (own_to ho (fun _ => mpD_other (w := w5.drew) (ne_map hoc.choose_spec hm5) _ _)) (fun y hy => ?_)
      · obtain ⟨es, ce, hr1, hr2⟩ := h5.rep
        exact ⟨es, ce, (mpD_other (w := w5.drew) h5.ne _ _).trans hr1, hr2⟩
      · obtain rfl := List.mem_singleton.1 hy
        have hI5 := row_grown HI4.out hgb (by simp [Value.ownBlock])
        exact own_one ((mpD_other (w := w5.drew) (ne_map hI5 hm5) _ _).trans hI5)
    · rw [hNN]
      have hc := HC4.out
      rw [HN.out] at hc
      exact chg_mp (chg_drew (chg_trans hc (chg_grown hgb (fun b hb _ => by cases hb)))) mc (Or.inr rfl) _ _
    · rintro b ⟨k, hk, hb⟩
      cases hk
      refine Or.inl ?_
      have e1 := HC1.out.size
      have e2 := HS1.out
      rcases hb with hb | ⟨y, hy, hb⟩
      · rw [hb]
        rcases hat with e | e
        · cases e
        · have := HS4.out; show w.heap.size ≤ b'; omega
      · rw [hb]
        obtain rfl := List.mem_singleton.1 hy
        show w.heap.size ≤ g2
        omega)
  clear ho hgb hat h5 hm5 hf5 hkv hA5
  go_wp2_with fail
  go_region
  go_wp2
  refine bodyPost_end (results_none rfl _ _ _) rfl ?_
  exact ⟨rfl, HFIN.out⟩
end Num
end Go.Proofs.Ytijfgmhdkflfmaa
