/-
  Package dedup's note: a Seq that is there.
-/
import Derived.Test.YtijfgmhdkflfmaaSo
import Derived.RegionTactic
import Derived.Deep.RegionWith
import Derived.Deep.RegionLaw
import Derived.Deep.DeepCutAuto
namespace Go.Proofs.Ytijfgmhdkflfmaa
open Go.RowKit
namespace Num
open Ints
set_option linter.unusedSimpArgs false
set_option linter.unusedVariables false
theorem own_set {w : World} {e : TypeId} {q g c n : Nat} {xs : List Value} (h : w.ownsRow 0 e q (.slice (some ⟨g, 0, none⟩) n c) n xs) (j : Nat) (hj : j < xs.length) (u : Value) : (w.setCell ⟨g, j, none⟩ u).ownsRow 0 e q (.slice (some ⟨g, 0, none⟩) n c) n (xs.set j u) := by
  refine ⟨by rw [List.length_set]; exact h.1, ?_⟩
  rcases h.2 with ⟨hn, _⟩ | ⟨g', cap, cur, hv, hb, hg, h1, h2, h3, h4⟩
  · cases hn
  · injection hv with e1 e2 e3
    injection e1 with e1
    injection e1 with e1
    subst e1 e3
    refine Or.inr ⟨g, c, cur.setIfInBounds j u, rfl, hb, by simp [World.setCell, Array.getElem?_modify, hg], h1, h2, by rw [Array.size_setIfInBounds]; exact h3, ?_⟩
    rw [Array.toList_setIfInBounds, List.take_set, h4]
theorem flat_set : ∀ (L : List CE) (a : Nat) (y y2 : CE), L[a]? = some y → y2.s = y.s → (L.set a y2).flatMap CE.cells = (L.flatMap CE.cells).set (a * 2 + 1) y2.v
  | [], a, y, y2, h, _ => by cases h
  | x :: L, 0, y, y2, h, hs => by
    obtain rfl : x = y := by simpa using h
    rw [List.set_cons_zero, List.flatMap_cons, List.flatMap_cons]
    show _ :: _ :: _ = _ :: _ :: _
    rw [hs]
  | x :: L, a + 1, y, y2, h, hs => by
    rw [List.set_cons_succ, List.flatMap_cons, List.flatMap_cons, flat_set L a y y2 (by simpa using h) hs, show (a + 1) * 2 + 1 = a * 2 + 1 + 1 + 1 by omega]
    rfl
theorem setC_kv {C : List KE} {k k2 : KE} (hg : getC C k2.c = some k) (hv : k2.v = k.v) : (setC C k2).map KE.kv = C.map KE.kv := by
  have hi := idx_get (fun x : KE => k2.c == x.c) C
  unfold getC at hg
  rw [hg] at hi
  unfold setC
  cases hj : C.findIdx? (fun y => k2.c == y.c) with
  | none => rw [hj] at hi; cases hi
  | some j =>
    rw [hj] at hi
    have hi : C[j]? = some k := hi
    simp only
    rw [List.map_set]
    apply List.ext_getElem?
    intro i
    rw [List.getElem?_set]
    split
    · rename_i hji
      subst hji
      have hc : k2.c = k.c := getC_c (by unfold getC; exact hg)
      have hjl := (List.getElem?_eq_some_iff.1 hi).1
      rw [if_pos (by rw [List.length_map]; exact hjl), List.getElem?_map, hi]
      show some (_, _) = some (_, _)
      rw [hc, hv]
    · rfl
theorem noteL_there (L : List CE) (x : DId) (y : CE) (hz : L[posL (datL L) x.2.1]? = some y) (hy : y.s = x.2.1) : noteL (datL L) x = ((datL L).set (posL (datL L) x.2.1) (y.s, y.ids ++ [x]), []) := by
  have h : (datL L)[posL (datL L) x.2.1]? = some (y.s, y.ids) := by
    show (L.map _)[_]? = _
    rw [List.getElem?_map, hz]; rfl
  unfold noteL
  rw [h]
  simp only
  rw [if_pos hy]
theorem chg_set {mr mc : Nat} {o : Option KE} {x y : World} (h : Chg mr mc o x y) (b : Nat) (hb : InK o b) (j : Nat) (u : Value) : Chg mr mc o x (y.setCell ⟨b, j, none⟩ u) :=
  ⟨h.os, h.tape, h.output, by rw [World.size_setCell]; exact h.size, fun k h1 h2 h3 h4 => (Below.heap_setCell _ _ _ _ (fun e => h4 (by have e' : k = b := e; rw [e']; exact hb))).trans (h.block k h1 h2 h3 h4)⟩
set_option maxRecDepth 100000 in
set_option maxHeartbeats 8000000 in
theorem note_there (n : Nat) (w : World) (tb mr mc : Nat) (R : List (RE n)) (C : List KE) (x0 x1 x2 : Int) (h : TabG n w tb mr mc R C) (hw : WfC C) (kc : Int) (b kk : Nat) (L : List CE) (hn : getC C x0 = some ⟨kc, b, kk, L⟩) (ib ic : Nat) (ids : List DId) (hnf : L[posL (datL L) x1]? = some ⟨x1, ib, ic, ids⟩) :
    Calls Try.prog 25 #[.pointer (some ⟨tb, 0, none⟩), .agg #[.int .u32 x0, .int .u32 x1, .int .u16 x2]] w fun e w' => e = .returned (.tuple #[]) ∧ NoteP n w tb mr mc R C (x0, x1, x2) w' := by
  obtain ⟨w1, hw1⟩ : ∃ W, w.alloc (.cells #[.int .u32 x0, .int .u32 x1, .int .u16 x2] 40) = W := ⟨_, rfl⟩
  obtain ⟨g, hg⟩ : ∃ g, w.heap.size = g := ⟨_, rfl⟩
  have hb1 : Below w.heap.size w w1 := by rw [← hw1]; exact (Below.refl _ _).alloc (Nat.le_refl _) _
  have hA : w1.heap[g]? = some (.cells #[.int .u32 x0, .int .u32 x1, .int .u16 x2] 40 (0, 0)) := by rw [← hw1, ← hg]; exact row_alloc w _ _
  have h1 : TabG n w1 tb mr mc R C := tabG_step h hb1
  have t1 := row_cell h1.tab 1
  have c0 := row_cell hA 0; have c1 := row_cell hA 1; have c2 := row_cell hA 2
  simp only [List.getElem?_toArray, List.getElem?_cons_zero, List.getElem?_cons_succ] at t1 c0 c1 c2
  obtain ⟨fs, ck, hm, hf⟩ := h1.cal
  have hl1 := look_u32 w1 mc fs ck C x0 hm hf
  have hl2 := look_u32 w1.drew mc fs ck C x0 hm hf
  have HA := Lib.hid hA
  have HT := Lib.hid h1
  have HC1 := Lib.hid (chg_bel (mr := mr) (mc := mc) (o := getC C x0) hb1)
  have HS1 := Lib.hid (show w1.heap.size = g + 1 by rw [← hw1, World.size_alloc, hg])
  rw [hn] at hl1 hl2
  simp only at hl1 hl2
  unfold KE.v at hl1 hl2
  simp only at hl1 hl2
  have hkm : (⟨kc, b, kk, L⟩ : KE) ∈ C := List.mem_of_find?_eq_some hn
  obtain ⟨wl1, wl2, wl3, wl4⟩ := hw.all _ hkm
  simp only at wl1 wl2 wl3 wl4
  obtain ⟨p1, p2⟩ := pos_spec L x1 wl3
  obtain ⟨a, ha⟩ : ∃ a, posL (datL L) x1 = a := ⟨_, rfl⟩
  rw [ha] at p1 p2 hnf
  have haL := (List.getElem?_eq_some_iff.1 hnf).1
  have hLa : L[a] = ⟨x1, ib, ic, ids⟩ := (List.getElem?_eq_some_iff.1 hnf).2
  have HW := Lib.hid hw
  have HN := Lib.hid hn
  have HKM := Lib.hid hkm
  obtain ⟨N, hN⟩ : ∃ N, L.length = N := ⟨_, rfl⟩
  have HBS := Lib.hid (fun (W : World) (H : TabG n W tb mr mc R C) => (show Calls Try.prog 33 #[.slice (some ⟨b, 0, none⟩) N kk, .int .u32 x1, .func (.func 34) #[] #[]] W fun e w' => e = .returned (.tuple #[.int .i64 a, .bool true]) ∧ Below W.heap.size W w' by
    rw [← hN]
    exact bsc_any b kk a L x1 true W (fun i hi => ⟨own_cell (H.row _ hkm) _ _ (flat2 L i L[i] (List.getElem?_eq_getElem hi)).1, own_cell (H.row _ hkm) _ _ (flat2 L i L[i] (List.getElem?_eq_getElem hi)).2⟩) (by omega) p1 p2 (fun hl => by rw [hLa]; exact decide_eq_true rfl) (fun hl => absurd haL hl)))
  have HNL := Lib.hid hN
  have HPA := Lib.hid ha
  have HNF := Lib.hid hnf
  have HWL := Lib.hid (And.intro wl3 wl4)
  have haN : a < N := by omega
  have hN4 : N ≤ 4 := by omega
  rw [hN] at hl1 hl2
  clear h h1 hb1 hA hm hf hw hn hkm wl1 wl2 wl3 wl4 p1 p2 ha hnf hN haL hLa
  go_enter Try.func25, Try.ntmps25
  go_wp2_with fail
  clear hw1
  go_region
  go_wp2_with fail
  go_at_call 33; refine (HBS.out _ (tabG_step HT.out (Below.drew (Below.refl _ _)))).mono ?_; rintro e w2 ⟨rfl, hb2⟩
  clear hl1 hl2 c0 c1 c2 t1
  have hb2' : Below w1.heap.size w1 w2 := bel_step (w := w1) (Below.drew (Below.refl _ _)) hb2
  have hA2 := row_step HA.out hb2'
  obtain ⟨g2, hg2⟩ : ∃ g2, w2.heap.size = g2 := ⟨_, rfl⟩
  obtain ⟨w3, hw3⟩ : ∃ W, w2.alloc (.cells #[.int .u32 x0, .int .u32 x1, .int .u16 x2] 40) = W := ⟨_, rfl⟩
  have hI3 : w3.heap[g2]? = some (.cells #[.int .u32 x0, .int .u32 x1, .int .u16 x2] 40 (0, 0)) := by rw [← hw3, ← hg2]; exact row_alloc w2 _ _
  have hb3 : Below w1.heap.size w1 w3 := by rw [← hw3]; exact bel_alloc hb2' _
  have h3 : TabG n w3 tb mr mc R C := tabG_step HT.out hb3
  have h2 : TabG n w2 tb mr mc R C := tabG_step HT.out hb2'
  have k0 := row_cell hA2 0; have k1 := row_cell hA2 1; have k2 := row_cell hA2 2
  have hA3 := row_step HA.out hb3
  have k0' := row_cell hA3 0; have k1' := row_cell hA3 1; have k2' := row_cell hA3 2
  simp only [List.getElem?_toArray, List.getElem?_cons_zero, List.getElem?_cons_succ] at k0 k1 k2 k0' k1' k2'
  have hyL : (⟨x1, ib, ic, ids⟩ : CE) ∈ L := List.mem_of_getElem? HNF.out
  have hids3 := h3.ids _ HKM.out _ hyL
  have hrow3 := h3.row _ HKM.out
  have q2 := own_cell (h2.row _ HKM.out) _ _ (flat2 L a _ HNF.out).2
  have q3 := own_cell hrow3 _ _ (flat2 L a _ HNF.out).2
  unfold CE.v at q2 q3
  simp only at q2 q3
  obtain ⟨i0, hi, hz0, hz1, hz2⟩ := info_parts info_id
  have hlen : ids.length ≤ 100000 := (HWL.out.2 _ hyL).2.1
  have hIC : ∀ j u, (didC (x0, x1, x2))[j]? = some u → w3.drew.cell? ((⟨g2, 0, none⟩ : Addr).add j) = some u := fun j u hj => by
    rw [Addr.add_lit, Nat.zero_add]
    exact (row_cell (show w3.drew.heap[g2]? = _ from hI3) j).trans (by rw [List.getElem?_toArray]; exact hj)
  obtain ⟨v', w5, hap, ho, hgb, _, hat⟩ := run_append_own_at (P := Try.prog) w3.drew 0 77 77 40 i0 _ 3 12 Try.underlying77 hi hz0 hz1 hz2 rfl (by decide) (.slice (some ⟨ib, 0, none⟩) ids.length ic) ids.length _ hids3 ⟨g2, 0, none⟩ 1 1 (didC (x0, x1, x2)) rfl hIC (fun u hu => by
    simp only [didC, List.mem_cons, List.not_mem_nil, or_false] at hu
    rcases hu with rfl | rfl | rfl <;> rfl) (by unfold maxLen; omega) (by omega) (Nat.zero_le _)
  obtain ⟨ib', ic', rfl⟩ : ∃ ib' ic', v' = .slice (some ⟨ib', 0, none⟩) (ids.length + 1) ic' := by
    rcases ho.2 with ⟨_, h0⟩ | ⟨g', cap, cur, hv, _⟩
    · omega
    · exact ⟨g', cap, hv⟩
  have hfl : ids.flatMap didC ++ didC (x0, x1, x2) = (ids ++ [(x0, x1, x2)]).flatMap didC := by rw [List.flatMap_append]; rfl
  rw [hfl] at ho
  have hil : (ids ++ [(x0, x1, x2)]).length = ids.length + 1 := by rw [List.length_append]; rfl
  obtain ⟨cb, hcb⟩ := own_block hrow3
  obtain ⟨ci, hci⟩ := own_block hids3
  have hbib : b ≠ ib := ne_ty hcb hci ty_ca_id
  have hrow5 := own_to hrow3 (fun hl => hgb.block b hl (fun e => hbib (by injection e)))
  obtain ⟨cb5, hcb5⟩ := own_block hrow5
  obtain ⟨ci5, hci5⟩ := own_block ho
  have q5 := own_cell hrow5 _ _ (flat2 L a _ HNF.out).2
  unfold CE.v at q5
  simp only at q5
  have q5f := row_frz hcb5 (a * 2 + 1)
  obtain ⟨fs3, ck3, hm3, hf3⟩ := h3.cal
  obtain ⟨es3, ce3, hr3, hrk3⟩ := h3.rep
  have HFIN := Lib.hid (show NoteP n w tb mr mc R C (x0, x1, x2) (w5.setCell ⟨b, a * 2 + 1, none⟩ (.slice (some ⟨ib', 0, none⟩) (ids.length + 1) ic')) by
    have hNN : (getC C (x0, x1, x2).1).elim [] (·.L) = L := by show (getC C x0).elim [] (·.L) = L; rw [HN.out]; rfl
    have hinb : InK (getC C x0) b := ⟨_, HN.out, Or.inl rfl⟩
    have hcg5 : Chg mr mc (getC C x0) w3 w5 := chg_trans (chg_drew ⟨rfl, rfl, rfl, Nat.le_refl _, fun _ _ _ _ _ => rfl⟩) (chg_grown hgb (fun z hz _ => Or.inr (Or.inr ⟨_, HN.out, Or.inr ⟨_, hyL, by injection hz with hz; exact hz.symm⟩⟩)))
    have hcg := chg_set hcg5 b hinb (a * 2 + 1) (.slice (some ⟨ib', 0, none⟩) (ids.length + 1) ic')
    have hnl := noteL_there L (x0, x1, x2) ⟨x1, ib, ic, ids⟩ (by show L[posL (datL L) x1]? = _; rw [HPA.out]; exact HNF.out) rfl
    rw [show posL (datL L) (x0, x1, x2).2.1 = a from HPA.out] at hnl
    have hkc : x0 = kc := getC_c HN.out
    have hst := flat_set L a ⟨x1, ib, ic, ids⟩ ⟨x1, ib', ic', ids ++ [(x0, x1, x2)]⟩ HNF.out rfl
    refine ⟨⟨kc, b, kk, L.set a ⟨x1, ib', ic', ids ++ [(x0, x1, x2)]⟩⟩, hkc.symm, by rw [hNN, hnl]; unfold datL; rw [List.map_set], ?_, chg_trans (chg_trans HC1.out (chg_bel hb3)) hcg, ?_⟩
    · rw [hNN, hnl]
      refine tabG_put h3 HW.out ⟨kc, b, kk, L.set a ⟨x1, ib', ic', ids ++ [(x0, x1, x2)]⟩⟩ (chg_fr (n := 0) (tb := 0) (c := kc) (by rw [← hkc]; exact hcg)) ⟨es3, ce3, ?_, hrk3⟩ (fun r hr => hr) ⟨fs3, ck3, ?_, ?_⟩ ?_ (fun y hy => ?_)
      · rw [Below.heap_setCell _ _ _ _ (ne_map hcb hr3).symm]
        exact (hgb.block mr (row_lt hr3) (fun e => ne_map hci hr3 (by injection e with e; exact e.symm))).trans hr3
      · rw [Below.heap_setCell _ _ _ _ (ne_map hcb hm3).symm]
        exact (hgb.block mc (row_lt hm3) (fun e => ne_map hci hm3 (by injection e with e; exact e.symm))).trans hm3
      · rw [setC_kv (k := ⟨kc, b, kk, L⟩) (by have := HN.out; rwa [hkc] at this) (by show Value.slice _ _ _ = Value.slice _ _ _; rw [List.length_set])]
        exact hf3
      · show World.ownsRow _ 0 _ 2 (.slice (some ⟨b, 0, none⟩) (L.set a _).length kk) (L.set a _).length _
        rw [hst, List.length_set]
        have hx := own_set hrow5 (a * 2 + 1) (by rw [flat2_len]; show _ < L.length * 2; rw [HNL.out]; omega) (CE.v ⟨x1, ib', ic', ids ++ [(x0, x1, x2)]⟩)
        rw [show CE.v ⟨x1, ib', ic', ids ++ [(x0, x1, x2)]⟩ = .slice (some ⟨ib', 0, none⟩) (ids.length + 1) ic' by show Value.slice _ _ _ = _; rw [hil]] at hx ⊢
        exact hx
      · have hy : y ∈ L.set a ⟨x1, ib', ic', ids ++ [(x0, x1, x2)]⟩ := hy
        obtain ⟨j, hj, hjy⟩ := List.getElem_of_mem hy
        rw [List.getElem_set] at hjy
        split at hjy
        · rw [← hjy]
          show World.ownsRow _ 0 _ 3 (.slice (some ⟨ib', 0, none⟩) (ids ++ [(x0, x1, x2)]).length ic') (ids ++ [(x0, x1, x2)]).length _
          rw [hil]
          exact own_to ho (fun _ => Below.heap_setCell _ _ _ _ (ne_ty hcb5 hci5 ty_ca_id).symm)
        · rename_i hja
          rw [List.length_set] at hj
          have hyL' : y ∈ L := by rw [← hjy]; exact List.getElem_mem hj
          have h0 := h3.ids _ HKM.out y hyL'
          obtain ⟨cy, hcy⟩ := own_block h0
          have hys : y.ib ≠ ib := fun e => by
            have hs := (sep_ids h3 HW.out HKM.out HKM.out (y := y) (y' := ⟨x1, ib, ic, ids⟩) hyL' hyL e).2
            have hp := List.pairwise_iff_getElem.1 HWL.out.1
            have hal : a < L.length := by rw [HNL.out]; exact haN
            have hLa : L[a] = ⟨x1, ib, ic, ids⟩ := (List.getElem?_eq_some_iff.1 HNF.out).2
            rcases Nat.lt_or_gt_of_ne hja with hlt | hlt
            · have := hp a j (by rw [List.length_map]; exact hal) (by rw [List.length_map]; exact hj) hlt
              rw [List.getElem_map, List.getElem_map, hLa, hjy] at this
              simp only at this hs
              omega
            · have := hp j a (by rw [List.length_map]; exact hj) (by rw [List.length_map]; exact hal) hlt
              rw [List.getElem_map, List.getElem_map, hLa, hjy] at this
              simp only at this hs
              omega
          have h5 := own_to h0 (fun hl => hgb.block y.ib hl (fun e => hys (by injection e)))
          obtain ⟨cy5, hcy5⟩ := own_block h5
          exact own_to h5 (fun _ => Below.heap_setCell _ _ _ _ (ne_ty hcb5 hcy5 ty_ca_id).symm)
    · rintro z ⟨k, hk, hz⟩
      cases hk
      rcases hz with hz | ⟨y, hy, hz⟩
      · exact Or.inr ⟨_, HN.out, Or.inl hz⟩
      · have hy : y ∈ L.set a ⟨x1, ib', ic', ids ++ [(x0, x1, x2)]⟩ := hy
        rcases List.mem_or_eq_of_mem_set hy with hy | hy
        · exact Or.inr ⟨_, HN.out, Or.inr ⟨y, hy, hz⟩⟩
        · rw [hz, hy]
          rcases hat with e | e
          · exact Or.inr ⟨_, HN.out, Or.inr ⟨_, hyL, by injection e⟩⟩
          · refine Or.inl ?_
            have e1 : ib' = w3.drew.heap.size := by injection e
            have e2 : w1.heap.size ≤ w3.heap.size := hb3.size
            have e3 := HC1.out.size
            show w.heap.size ≤ ib'
            rw [e1]
            show w.heap.size ≤ w3.heap.size
            omega)
  clear hb2 hb2' hA2 hI3 hb3 h2 h3 hA3 hids3 hrow3 hi hz0 hz1 hz2 hlen hIC ho hgb hat hfl hil hcb hci hbib hrow5 hcb5 hci5 hm3 hf3 hr3 hrk3 hyL
  rw [← hw3] at hap k0' k1' k2' q3
  clear hw3
  go_wp2_with fail
  go_region_law (refine step_app (by rfl) _ _ 77 77 (by rfl) _ _ (by rfl) (by rfl) hap ?_)
  all_goals
    go_wp2
    refine bodyPost_ret (results_none rfl _ _ _) rfl ?_
    exact ⟨rfl, HFIN.out⟩
end Num
end Go.Proofs.Ytijfgmhdkflfmaa
