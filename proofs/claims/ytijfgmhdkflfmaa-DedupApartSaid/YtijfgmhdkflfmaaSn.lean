/-
  Package dedup's note: a Seq that is new, where there is room.
-/
import Derived.Test.YtijfgmhdkflfmaaSm
import Derived.RegionTactic
import Derived.Deep.RegionWith
import Derived.Deep.RegionLaw
import Derived.Deep.DeepCutAuto
namespace Go.Proofs.Ytijfgmhdkflfmaa
open Go.RowKit
namespace Num
open Ints
set_option linter.unusedSimpArgs false
set_option linter.unusedVariables false
theorem chg_then {mr mc : Nat} {o : Option KE} {x y z : World} {row : Option Nat} (h : Chg mr mc o x y) (k : y.grownBy z row) (hr : ∀ b, row = some b → b < x.heap.size → b = mr ∨ b = mc ∨ InK o b) : Chg mr mc o x z :=
  ⟨k.os.trans h.os, k.tape.trans h.tape, k.output.trans h.output, Nat.le_trans h.size k.size, fun b h1 h2 h3 h4 => (k.block b (Nat.lt_of_lt_of_le h1 h.size) (fun e => by rcases hr b e.symm h1 with e | e | e; exact h2 e; exact h3 e; exact h4 e)).trans (h.block b h1 h2 h3 h4)⟩
theorem datL_ins (L : List CE) (y : CE) (a : Nat) : datL (L.take a ++ y :: L.drop a) = (datL L).take a ++ (y.s, y.ids) :: (datL L).drop a := by
  unfold datL
  rw [List.map_append, List.map_cons, List.map_take, List.map_drop]
theorem noteL_new (L : List CE) (x : DId) (y : CE) (hy : y.s = x.2.1 ∧ y.ids = [x]) (hn : ∀ z, L[posL (datL L) x.2.1]? = some z → z.s ≠ x.2.1) (M : List CE) (hM : L.take (posL (datL L) x.2.1) ++ y :: L.drop (posL (datL L) x.2.1) = M) :
    noteL (datL L) x = if 4 < M.length then ((datL M).drop 1, ((M[0]?).map (·.ids)).getD []) else (datL M, []) := by
  have hd : datL M = (datL L).take (posL (datL L) x.2.1) ++ (x.2.1, [x]) :: (datL L).drop (posL (datL L) x.2.1) := by rw [← hM, datL_ins, hy.1, hy.2]
  have hl : M.length = (datL M).length := by unfold datL; rw [List.length_map]
  have h0 : ((M[0]?).map (·.ids)).getD [] = (((datL M)[0]?).map (·.2)).getD [] := by unfold datL; rw [List.getElem?_map, Option.map_map]; rfl
  rw [hl, h0, hd]
  unfold noteL
  cases hz : (datL L)[posL (datL L) x.2.1]? with
  | none => rfl
  | some z =>
    have hne : ¬ z.1 = x.2.1 := by
      unfold datL at hz
      rw [List.getElem?_map] at hz
      obtain ⟨z', hz', rfl⟩ := Option.map_eq_some_iff.1 hz
      exact hn z' hz'
    simp only
    rw [if_neg hne]
set_option maxRecDepth 100000 in
set_option maxHeartbeats 8000000 in
theorem note_room (n : Nat) (w : World) (tb mr mc : Nat) (R : List (RE n)) (C : List KE) (x0 x1 x2 : Int) (h : TabG n w tb mr mc R C) (hw : WfC C) (kc : Int) (b kk : Nat) (L : List CE) (hn : getC C x0 = some ⟨kc, b, kk, L⟩) (hnf : ∀ z, L[posL (datL L) x1]? = some z → z.s ≠ x1) (h3 : L.length ≤ 3) :
    Calls Try.prog 25 #[.pointer (some ⟨tb, 0, none⟩), .agg #[.int .u32 x0, .int .u32 x1, .int .u16 x2]] w fun e w' => e = .returned (.tuple #[]) ∧ NoteP n w tb mr mc R C (x0, x1, x2) w' := by
  obtain ⟨w1, hw1⟩ : ∃ W, w.alloc (.cells #[.int .u32 x0, .int .u32 x1, .int .u16 x2] 40) = W := ⟨_, rfl⟩
  obtain ⟨g, hg⟩ : ∃ g, w.heap.size = g := ⟨_, rfl⟩
  have hb1 : Below w.heap.size w w1 := by rw [← hw1]; exact (Below.refl _ _).alloc (Nat.le_refl _) _
  have hA : w1.heap[g]? = some (.cells #[.int .u32 x0, .int .u32 x1, .int .u16 x2] 40 (0, 0)) := by rw [← hw1, ← hg]; exact row_alloc w _ _
  have h1 : TabG n w1 tb mr mc R C := tabG_step h hb1
  have t1 := row_cell h1.tab 1
  have c0 := row_cell hA 0; have c1 := row_cell hA 1; have c2 := row_cell hA 2
  simp only [List.getElem?_toArray, List.getElem?_cons_zero, List.getElem?_cons_succ] at t1 c0 c1 c2
  obtain ⟨fs, ck, hm, hf⟩ := h1.cal
  have hl1 := look_u32 w1 mc fs ck C x0 hm hf
  have hl2 := look_u32 w1.drew mc fs ck C x0 hm hf
  have HA := Lib.hid hA
  have HT := Lib.hid h1
  have HC1 := Lib.hid (chg_bel (mr := mr) (mc := mc) (o := getC C x0) hb1)
  have HS1 := Lib.hid (show w1.heap.size = g + 1 by rw [← hw1, World.size_alloc, hg])
  rw [hn] at hl1 hl2
  simp only at hl1 hl2
  unfold KE.v at hl1 hl2
  simp only at hl1 hl2
  have hkm : (⟨kc, b, kk, L⟩ : KE) ∈ C := List.mem_of_find?_eq_some hn
  obtain ⟨wl1, wl2, wl3, wl4⟩ := hw.all _ hkm
  simp only at wl1 wl2 wl3 wl4
  obtain ⟨p1, p2⟩ := pos_spec L x1 wl3
  obtain ⟨a, ha⟩ : ∃ a, posL (datL L) x1 = a := ⟨_, rfl⟩
  rw [ha] at p1 p2 hnf
  have HW := Lib.hid hw
  have HN := Lib.hid hn
  have HKM := Lib.hid hkm
  obtain ⟨N, hN⟩ : ∃ N, L.length = N := ⟨_, rfl⟩
  have HBS := Lib.hid (fun (W : World) (H : TabG n W tb mr mc R C) => (show Calls Try.prog 33 #[.slice (some ⟨b, 0, none⟩) N kk, .int .u32 x1, .func (.func 34) #[] #[]] W fun e w' => e = .returned (.tuple #[.int .i64 a, .bool false]) ∧ Below W.heap.size W w' by
    rw [← hN]
    exact bsc_any b kk a L x1 false W (fun i hi => ⟨own_cell (H.row _ hkm) _ _ (flat2 L i L[i] (List.getElem?_eq_getElem hi)).1, own_cell (H.row _ hkm) _ _ (flat2 L i L[i] (List.getElem?_eq_getElem hi)).2⟩) (by omega) p1 p2 (fun hl => by simpa using hnf L[a] (List.getElem?_eq_getElem hl)) (fun _ => rfl)))
  have HNL := Lib.hid hN
  have HP1 := Lib.hid p1
  have HPA := Lib.hid ha
  have HNF := Lib.hid hnf
  have HWL := Lib.hid (And.intro wl2 wl4)
  rw [hN] at hl1 hl2
  have h4 : ¬ ((4 : Int) < (N : Int) + 1) := by omega
  clear h h1 hb1 hA hm hf hw hn hkm wl1 wl2 wl3 wl4 p1 p2 ha hnf hN
  go_enter Try.func25, Try.ntmps25
  go_wp2_with fail
  clear hw1
  go_region
  go_wp2_with fail
  go_at_call 33; refine (HBS.out _ (tabG_step HT.out (Below.drew (Below.refl _ _)))).mono ?_; rintro e w2 ⟨rfl, hb2⟩
  clear hl1 hl2 c0 c1 c2 t1
  have hb2' : Below w1.heap.size w1 w2 := bel_step (w := w1) (Below.drew (Below.refl _ _)) hb2
  have hA2 := row_step HA.out hb2'
  have h2 : TabG n w2 tb mr mc R C := tabG_step HT.out hb2'
  obtain ⟨g2, hg2⟩ : ∃ g2, w2.heap.size = g2 := ⟨_, rfl⟩
  have hgg : g < g2 := by rw [← hg2]; exact row_lt hA2
  obtain ⟨w3, hw3⟩ : ∃ W, w2.alloc (.cells #[.int .u32 x0, .int .u32 x1, .int .u16 x2] 40) = W := ⟨_, rfl⟩
  have hs3 : w3.heap.size = g2 + 1 := by rw [← hw3, World.size_alloc, hg2]
  obtain ⟨w4, hw4⟩ : ∃ W, w3.alloc (.cells #[.int .u32 x1, .slice (some ⟨g2, 0, none⟩) 1 1] 79) = W := ⟨_, rfl⟩
  have hb4 : Below w2.heap.size w2 w4 := by rw [← hw4, ← hw3]; exact bel_alloc (bel_alloc (Below.refl _ _) _) _
  have hI4 : w4.heap[g2]? = some (.cells #[.int .u32 x0, .int .u32 x1, .int .u16 x2] 40 (0, 0)) := by rw [← hw4, ← hw3, ← hg2]; exact row_alloc_step (row_alloc w2 _ _) _
  have hV4 : w4.heap[g2 + 1]? = some (.cells #[.int .u32 x1, .slice (some ⟨g2, 0, none⟩) 1 1] 79 (0, 0)) := by rw [← hw4, ← hs3]; exact row_alloc w3 _ _
  have hA4 := row_step hA2 hb4
  have h4 : TabG n w4 tb mr mc R C := tabG_step h2 hb4
  have k0 := row_cell hA2 0; have k1 := row_cell hA2 1; have k2 := row_cell hA2 2
  have k0' := row_cell (show w3.heap[g]? = _ from (by rw [← hw3]; exact row_alloc_step hA2 _)) 0; have k1' := row_cell (show w3.heap[g]? = _ from (by rw [← hw3]; exact row_alloc_step hA2 _)) 1
  simp only [List.getElem?_toArray, List.getElem?_cons_zero, List.getElem?_cons_succ] at k0 k1 k2 k0' k1'
  have HC4 := Lib.hid (chg_trans HC1.out (chg_bel (bel_step (w := w1) hb2' hb4)))
  have HI4 := Lib.hid hI4
  have HV4 := Lib.hid hV4
  have HA4 := Lib.hid hA4
  have HT4 := Lib.hid h4
  have HS4 := Lib.hid (show w4.heap.size = g2 + 2 by rw [← hw4, World.size_alloc, hs3])
  clear hb2 hb2' hA2 h2 hb4 hI4 hV4 hA4 h4
  go_wp2_with fail
  clear hw3 hw4 k0 k1 k2 k0' k1'
  have hown4 : w4.ownsRow 0 79 2 (.slice (some ⟨b, 0, none⟩) N kk) N (L.flatMap CE.cells) := by rw [← HNL.out]; exact HT4.out.row _ HKM.out
  obtain ⟨curb, hcurb⟩ := own_block hown4
  have hN4 : N ≤ 4 := by rw [← HNL.out]; exact HWL.out.1
  have hvb : g2 + 1 ≠ b := by
    obtain ⟨cb1, hcb1⟩ := own_block (HT.out.row _ HKM.out)
    have e1 := row_lt hcb1
    have e2 := HS1.out
    simp only at e1
    omega
  go_at_call 35; refine (ins_any b kk a N L ⟨x1, g2, 1, [(x0, x1, x2)]⟩ (g2 + 1) w4 hown4 HNL.out HV4.out (by omega) (by rw [← HNL.out]; exact HP1.out) hvb).mono ?_; rintro e w5 ⟨b', k', rfl, ho, hgb, hat⟩
  obtain ⟨M, hM⟩ : ∃ M, L.take a ++ (⟨x1, g2, 1, [(x0, x1, x2)]⟩ : CE) :: L.drop a = M := ⟨_, rfl⟩
  have hMl : M.length = N + 1 := by rw [← hM, List.length_append, List.length_take, List.length_cons, List.length_drop, HNL.out]; have := HP1.out; have := HNL.out; omega
  rw [hM, hMl] at ho
  rw [hM, hMl]
  have tab5 := row_grown HT4.out.tab hgb (fun e => ne_ty HT4.out.tab hcurb ty_ta_ca (by injection e))
  obtain ⟨es4, ce4, hr4, hrk4⟩ := HT4.out.rep
  obtain ⟨fs4, ck4, hm4, hf4⟩ := HT4.out.cal
  have hr5 := row_grown hr4 hgb (fun e => ne_map hcurb hr4 (by injection e with e; exact e.symm))
  have hm5 := row_grown hm4 hgb (fun e => ne_map hcurb hm4 (by injection e with e; exact e.symm))
  have hA5 := row_grown HA4.out hgb (fun e => ne_ty HA4.out hcurb (fun e => ty_ca_id e.symm) (by injection e))
  have hI5 := row_grown HI4.out hgb (fun e => ne_ty HI4.out hcurb (fun e => ty_ca_id e.symm) (by injection e))
  have hids5 : ∀ y ∈ M, w5.ownsRow 0 40 3 y.v y.ids.length (y.ids.flatMap didC) := by
    intro y hy
    rw [← hM, List.mem_append, List.mem_cons] at hy
    have old : y ∈ L → w5.ownsRow 0 40 3 y.v y.ids.length (y.ids.flatMap didC) := fun hy => by
      have h0 := HT4.out.ids _ HKM.out y hy
      obtain ⟨cy, hcy⟩ := own_block h0
      exact own_to h0 (fun hl => hgb.block y.ib hl (fun e => ne_ty hcurb hcy ty_ca_id (by injection e with e; exact e.symm)))
    rcases hy with hy | hy | hy
    · exact old (List.mem_of_mem_take hy)
    · rw [hy]; exact own_one hI5
    · exact old (List.mem_of_mem_drop hy)
  have hob : b = b' ∨ w4.heap.size ≤ b' := by rcases hat with e | e; exact Or.inl (by injection e); exact Or.inr e
  have hcg5 : Chg mr mc (getC C x0) w4 w5 := chg_grown hgb (fun z hz _ => Or.inr (Or.inr ⟨_, HN.out, Or.inl (by injection hz with hz; exact hz.symm)⟩))
  have hnew : ∀ (k2 : KE), k2.b = b' → (∀ y ∈ k2.L, y ∈ M) → ∀ z, InK (some k2) z → w.heap.size ≤ z ∨ InK (getC C x0) z := by
    rintro k2 hkb hkL z ⟨k, hk, hz⟩
    cases hk
    have e1 := HC4.out.size
    have e2 := HS1.out
    have e3 := HC1.out.size
    have e4 := HS4.out
    rcases hz with hz | ⟨y, hy, hz⟩
    · rw [hz, hkb]
      rcases hob with e | e
      · exact Or.inr ⟨_, HN.out, Or.inl e.symm⟩
      · exact Or.inl (by omega)
    · have hyM := hkL y hy
      rw [← hM, List.mem_append, List.mem_cons] at hyM
      rcases hyM with hyM | hyM | hyM
      · exact Or.inr ⟨_, HN.out, Or.inr ⟨y, List.mem_of_mem_take hyM, hz⟩⟩
      · rw [hz, hyM]; exact Or.inl (by show w.heap.size ≤ g2; omega)
      · exact Or.inr ⟨_, HN.out, Or.inr ⟨y, List.mem_of_mem_drop hyM, hz⟩⟩
  have hnl := noteL_new L (x0, x1, x2) ⟨x1, g2, 1, [(x0, x1, x2)]⟩ ⟨rfl, rfl⟩ (by show ∀ z, L[posL (datL L) x1]? = some z → z.s ≠ x1; rw [HPA.out]; exact HNF.out) M (by show L.take (posL (datL L) x1) ++ _ :: L.drop (posL (datL L) x1) = M; rw [HPA.out]; exact hM)
  obtain ⟨fs', ck', hup, hkv⟩ := put_u32 w5.drew mc fs4 ck4 C ⟨x0, b', k', M⟩ hm5 hf4
  have hup' : (Instr.mapUpdate 60 (.map (some mc)) (.int .u32 x0) (.slice (some ⟨b', 0, none⟩) (N + 1) k')).run Try.prog w5.drew = .ok () (mpD w5.drew mc fs' ck') := by rw [← hMl]; exact hup
  have c0 := row_cell hA5 0
  have t1 := row_cell tab5 1
  simp only [List.getElem?_toArray, List.getElem?_cons_zero, List.getElem?_cons_succ] at c0 t1
  have HFIN := Lib.hid (show NoteP n w tb mr mc R C (x0, x1, x2) (mpD w5.drew mc fs' ck') by
    have hNN : (getC C (x0, x1, x2).1).elim [] (·.L) = L := by show (getC C x0).elim [] (·.L) = L; rw [HN.out]; rfl
    have hcg : Chg mr mc (getC C x0) w4 (mpD w5.drew mc fs' ck') := chg_mp (chg_drew hcg5) mc (Or.inr rfl) _ _
    rw [hMl, if_neg (by omega)] at hnl
    obtain ⟨cr, hcr⟩ := own_block ho
    refine ⟨⟨x0, b', k', M⟩, rfl, by rw [hNN, hnl], ?_, chg_trans HC4.out hcg, hnew _ rfl (fun y hy => hy)⟩
    rw [hNN, hnl]
    refine tabG_put HT4.out HW.out ⟨x0, b', k', M⟩ (chg_fr (n := 0) (tb := 0) (c := x0) hcg) ⟨es4, ce4, (mpD_other (w := w5.drew) HT4.out.ne _ _).trans hr5, hrk4⟩ (fun r hr => hr) ⟨fs', ck', mpD_at (w := w5.drew) hm5 _ _, hkv⟩ ?_ (fun y hy => ?_)
    · show World.ownsRow _ 0 _ 2 (.slice (some ⟨b', 0, none⟩) M.length k') M.length _
      rw [hMl]
      exact own_to ho (fun _ => mpD_other (w := w5.drew) (ne_map hcr hm5) _ _)
    · obtain ⟨cy, hcy⟩ := own_block (hids5 y hy)
      exact own_to (hids5 y hy) (fun _ => mpD_other (w := w5.drew) (ne_map hcy hm5) _ _))
  clear ho hgb hat tab5 hr4 hrk4 hm4 hf4 hr5 hm5 hA5 hI5 hids5 hob hcg5 hnew hnl hM hMl hkv hup hown4 hcurb
  go_wp2_with fail
  go_region
  go_wp2
  refine bodyPost_end (results_none rfl _ _ _) rfl ?_
  exact ⟨rfl, HFIN.out⟩
end Num
end Go.Proofs.Ytijfgmhdkflfmaa
