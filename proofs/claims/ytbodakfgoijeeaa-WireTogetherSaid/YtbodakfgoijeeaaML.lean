/-
  The survey's walk through a list, its memo kept.
-/
import Derived.Test.YtbodakfgoijeeaaMK
namespace Go.Proofs.Ytbodakfgoijeeaa
open Go.RowKit
namespace Num
open Ints
set_option linter.unusedSimpArgs false
set_option linter.unusedVariables false
/-- What the walk through a list keeps: the survey, its memo, the result's box, the measure so far, the list's place. -/
def LsM (w0 w wr : World) (sb : Nat) (mv mv' : Value) (vis vis' : Int) (k : Nat) (F : Nat → Prop) (q : Me) (a : Addr) (l : Nat) : Prop :=
  Kp w wr sb mv ∧ MvTo w mv mv' ∧ MvAt w0 wr sb vis' mv' F ∧ vis ≤ vis' ∧ vis' ≤ vis + k ∧
  wr.heap[w.heap.size]? = some (.cells #[.bool false, .bool false, .int .i64 0, .int .i64 0] 71 (0, 0)) ∧
  wr.heap[w.heap.size + 1]? = some (.cells #[.bool q.1, .bool q.2.1, .int .i64 q.2.2.1, .int .i64 q.2.2.2] 71 (0, 0)) ∧
  wr.heap[w.heap.size + 1 + 1]? = some (.cells #[.pointer (some a), .int .i64 l] 86 (0, 0))
section
variable {w0 w wr w1 : World} {sb : Nat} {mv mv' : Value} {vis vis' : Int} {k j : Nat} {F : Nat → Prop} {q : Me} {a : Addr} {l : Nat}
theorem lsm_bel (h : LsM w0 w wr sb mv mv' vis vis' k F q a l) (hb : Below wr.heap.size wr w1) : LsM w0 w w1 sb mv mv' vis vis' k F q a l := by
  obtain ⟨h1, h2, h3, h4, h5, h6, h7, h8⟩ := h
  exact ⟨kp_bel h1 hb, h2, mvat_bel h3 hb, h4, h5, row_step h6 hb, row_step h7 hb, row_step h8 hb⟩
theorem lsm_drew (h : LsM w0 w wr sb mv mv' vis vis' k F q a l) : LsM w0 w wr.drew sb mv mv' vis vis' k F q a l := ⟨kp_drew h.1, h.2⟩
theorem mv_not_row (h : MvAt w0 wr sb vis' mv' F) {b : Nat} {cs : Array Value} {t : TypeId} {fr : Nat × Nat} (hr : wr.heap[b]? = some (.cells cs t fr)) : mv' ≠ .map (some b) := by
  intro e
  rcases h.2 with e' | ⟨mb, es, ck, e', _, _, h3, _⟩
  · rw [e] at e'; cases e'
  · rw [e] at e'; cases e'; rw [hr] at h3; cases h3
theorem row_kp (hk : Kp wr w1 sb mv') (h : MvAt w0 wr sb vis' mv' F) {b : Nat} {cs : Array Value} {t : TypeId} {fr : Nat × Nat} (hr : wr.heap[b]? = some (.cells cs t fr)) (hs : b ≠ sb) : w1.heap[b]? = some (.cells cs t fr) :=
  (hk.block b (row_lt hr) hs (mv_not_row h hr)).trans hr
theorem lsm_sv {F' : Nat → Prop} (h : LsM w0 w wr sb mv mv' vis vis' k F q a l) (hs : sb < w.heap.size) (hb : SvR w0 wr w1 sb mv' vis' j F') : ∃ mv2 vis2, LsM w0 w w1 sb mv mv2 vis vis2 (k + j) F' q a l := by
  obtain ⟨h1, h2, h3, h4, h5, h6, h7, h8⟩ := h
  obtain ⟨g, vis2, mv2, a1, a2, a3, a4⟩ := hb
  exact ⟨mv2, vis2, kp_trans h1 h2 g, mvto_trans h2 h1.size a3, a4, by omega, by omega, row_kp g h3 h6 (by omega), row_kp g h3 h7 (by omega), row_kp g h3 h8 (by omega)⟩
theorem lsm_set (h : LsM w0 w wr sb mv mv' vis vis' k F q a l) (hs : sb < w.heap.size) (q' : Me) :
    LsM w0 w ((((wr.setCell ⟨w.heap.size + 1, 0, none⟩ (.bool q'.1)).setCell ⟨w.heap.size + 1, 1, none⟩ (.bool q'.2.1)).setCell ⟨w.heap.size + 1, 2, none⟩ (.int .i64 q'.2.2.1)).setCell ⟨w.heap.size + 1, 3, none⟩ (.int .i64 q'.2.2.2)) sb mv mv' vis vis' k F q' a l := by
  obtain ⟨h1, h2, h3, h4, h5, h6, h7, h8⟩ := h
  have hn := mv_not_row h3 h7
  have hne : sb ≠ w.heap.size + 1 := by omega
  exact ⟨kp_set (kp_set (kp_set (kp_set h1 (Or.inr (by omega)) _ _) (Or.inr (by omega)) _ _) (Or.inr (by omega)) _ _) (Or.inr (by omega)) _ _, h2, mvat_set (mvat_set (mvat_set (mvat_set h3 hne hn _ _) hne hn _ _) hne hn _ _) hne hn _ _, h4, h5, set4_other h6 (by omega) _ _ _ _, set4_row h7 _ _ _ _, set4_other h8 (by omega) _ _ _ _⟩
theorem lsm_mono {F' : Nat → Prop} (hF : ∀ b, F b → F' b) (h : LsM w0 w wr sb mv mv' vis vis' k F q a l) : LsM w0 w wr sb mv mv' vis vis' k F' q a l := by
  obtain ⟨h1, h2, h3, h4⟩ := h
  exact ⟨h1, h2, mvat_mono hF h3, h4⟩
end
theorem measDL_in {n lev : Nat} {L : List (VT n)} (h : ¬ 64 < lev) : measDL n lev L = L.foldl (fun a x => withM a (measD n lev x)) (false, decide (64 < (L.length : Int)), 1, 2) := by unfold measDL; rw [if_neg h]
theorem measDL_deep {n lev : Nat} {L : List (VT n)} (h : 64 < lev) : measDL n lev L = (false, decide (64 < (L.length : Int)), 1, 2) := by unfold measDL; rw [if_pos h]
theorem measDL_nil (n lev : Nat) : measDL n lev ([] : List (VT n)) = (false, false, 1, 2) := by unfold measDL; split <;> rfl
set_option maxHeartbeats 4000000 in
theorem sm_list_none (n : Nat) (hv : SmValue n) : ∀ (L : List (VT n)) (b off l c : Nat) (lev : Nat) (vis : Int) (w0 w : World) (sb : Nat) (A FF : Nat → Prop), RepLS A w0 (RepC w0 n) (some ⟨b, off, none⟩) l c L → Below w0.heap.size w0 w → w0.heap.size ≤ sb → (∀ b, FF b → ¬ A b) → MvAt w0 w sb vis (.map none) FF → lev ≤ 64 → 0 ≤ vis → vis + (L.foldl (fun a x => a + partsT n x) 0 : Nat) ≤ 1000000 → 0 < l →
    Calls Try.prog 49 #[.pointer (some ⟨sb, 0, none⟩), .slice (some ⟨b, off, none⟩) l c, .int .i64 lev] w fun e w' => e = .returned (meV (measDL n lev L)) ∧ SvR w0 w w' sb (.map none) vis (L.foldl (fun a x => a + partsT n x) 0) (fun b => FF b ∨ A b) := by
  intro L b off l c lev vis w0 w sb A FF hr hB hs hFS hat hlev hv0 hvp hl0
  obtain ⟨hl, hlc, hcm, hel⟩ := hr
  unfold maxLen at hcm
  have c0 : w.cell? ⟨sb, 0, none⟩ = some (.int .i64 vis) := row_cell hat.1 0
  have hlt := row_lt hat.1
  have hne : sb ≠ w.heap.size := by omega
  have hne' : w.heap.size ≠ sb := by omega
  have lt1 : sb < w.heap.size + 1 := by omega
  have lt2 : sb < w.heap.size + 1 + 1 := by omega
  have lt3 : sb < w.heap.size + 1 + 1 + 1 := by omega
  have ne1 : sb ≠ w.heap.size + 1 := by omega
  have ne2 : sb ≠ w.heap.size + 1 + 1 := by omega
  have ne3 : sb ≠ w.heap.size + 1 + 1 + 1 := by omega
  have c1 : w.cell? ⟨sb, 1, none⟩ = some (.map none) := row_cell hat.1 1
  obtain ⟨b', off', hp', hAb, hPb, g, hi⟩ := hel hl0
  cases hp'
  have HI := Lib.hid hi
  have HAb := Lib.hid hAb
  have HPb := Lib.hid hPb
  have hFb : ∀ x, FF x → x ≠ b := fun x hx e => hFS x hx (e ▸ hAb)
  obtain ⟨big, hbig⟩ : ∃ big, big = decide (64 < (l : Int)) := ⟨_, rfl⟩
  have hbig' : decide (64 < (l : Int)) = big := hbig.symm
  have HBIG := Lib.hid hbig
  clear hbig
  have lk := look_row
  have HAT := Lib.hid hat
  have HB := Lib.hid hB
  have HP := Lib.hid hvp
  have HLV := Lib.hid hv
  have HL := Lib.hid hl
  have HFS := Lib.hid hFS
  have HFB := Lib.hid hFb
  clear hat hB hvp hv hl hel hi hFS hPb hAb hFb
  have hl0' : ((l : Int) == 0) = false := by rw [beq_eq_false_iff_ne]; omega
  have hl0'' : (l == 0) = false := by rw [beq_eq_false_iff_ne]; omega
  have hlev' : ¬ (64 < (lev : Int)) := by omega
  go_enter Try.func49, Try.ntmps49
  go_wp2
  go_region
  go_wp2
  have RS := Lib.hid (row_alloc w #[.bool false, .bool false, .int .i64 0, .int .i64 0] 71)
  have RM := Lib.hid (row_alloc (w.alloc (.cells #[.bool false, .bool false, .int .i64 0, .int .i64 0] 71)) #[.bool false, .bool big, .int .i64 1, .int .i64 2] 71)
  have RK := Lib.hid (row_alloc ((w.alloc (.cells #[.bool false, .bool false, .int .i64 0, .int .i64 0] 71)).alloc (.cells #[.bool false, .bool big, .int .i64 1, .int .i64 2] 71)) #[.pointer (some ⟨b, off, none⟩), .int .i64 l] 86)
  simp only [World.size_alloc] at RM RK
  go_loopw [43] (fun i wr => ∃ (k : Nat) (vis' : Int) (mv' : Value) (q : Me), k ≤ l ∧ i = .int .i64 k ∧ Hid (q = (L.take k).foldl (fun a x => withM a (measD n lev x)) (false, big, 1, 2)) ∧ Hid (LsM w0 w wr sb (.map none) mv' vis vis' ((L.take k).foldl (fun a x => a + partsT n x) 0) (fun x => FF x ∨ (A x ∧ x ≠ b ∧ g x < k)) q ⟨b, off, none⟩ l)) (fun i _ => l - (intOf i).toNat)
  case atStart =>
    refine ⟨0, vis, .map none, (false, big, 1, 2), by omega, rfl, Lib.hid rfl, Lib.hid ⟨?_, Or.inl rfl, ?_, by omega, by omega, ?_, ?_, ?_⟩⟩
    · exact kp_drew (kp_alloc (kp_alloc (kp_alloc (kp_alloc (kp_refl _ _ _) _) _) _) _)
    · exact mvat_mono (fun x hx => Or.inl hx) (mvat_alloc (mvat_alloc (mvat_alloc (mvat_alloc HAT.out _) _) _) _)
    · exact row_alloc_step (row_alloc_step (row_alloc_step RS.out _) _) _
    · exact row_alloc_step (row_alloc_step RM.out _) _
    · exact row_alloc_step RK.out _
  case round =>
    obtain ⟨k, vis', mv', q, hk, rfl, HQ, HLST⟩ := hrel
    clear RS RM RK c0 c1 lk
    have hwr : w.heap.size + 1 + 1 < wr.heap.size := row_lt HLST.out.2.2.2.2.2.2.2
    have hrm := HLST.out.2.2.2.2.2.2.1
    have m0 := row_cell hrm 0
    have m1 := row_cell hrm 1
    have m2 := row_cell hrm 2
    have m3 := row_cell hrm 3
    simp only [List.getElem?_toArray, List.getElem?_cons_zero, List.getElem?_cons_succ] at m0 m1 m2 m3
    have hmf := fun o => row_frz hrm o
    obtain ⟨q1, q2, q3, q4⟩ := q
    have hmne : w.heap.size + 1 ≠ wr.heap.size := by omega
    have hmne' : wr.heap.size ≠ w.heap.size + 1 := by omega
    have hmlt : w.heap.size + 1 < wr.heap.size := by omega
    by_cases hlt2 : k < l
    · have hkl : k < L.length := by have := HL.out; omega
      obtain ⟨v0, v1, v2, v3, v4, d0, d1, d2, d3, d4, hr⟩ := HI.out k hkl
      obtain ⟨K5, I5, F5, S5, p5, l5, c5, he5, _⟩ := repS_shape hr
      simp only [Value.agg.injEq, Array.mk.injEq, List.cons.injEq, and_true] at he5
      obtain ⟨rfl, rfl, rfl, rfl, rfl⟩ := he5
      have HBW := Lib.hid (kp_below HB.out hs HAT.out HLST.out.1)
      have e0 := cell_keep HBW.out d0
      have e1 := cell_keep HBW.out d1
      have e2 := cell_keep HBW.out d2
      have e3 := cell_keep HBW.out d3
      have e4 := cell_keep HBW.out d4
      have HR := Lib.hid hr
      have hvv : 0 ≤ vis' := by have := HLST.out.2.2.2.1; omega
      have HPK := Lib.hid (show vis' + partsT n L[k] ≤ 1000000 by
        have h1 := HLST.out.2.2.2.2.1
        have h2 := parts_prefix L k hkl 0
        have h3 := HP.out
        omega)
      have HLD := Lib.hid (lsm_drew (lsm_bel HLST.out ((Below.refl wr.heap.size wr).alloc (Nat.le_refl _) (.cells #[.int .i64 K5, .int .i64 I5, .float .f64 F5, .string S5, .slice p5 l5 c5] 26))))
      have HBD := Lib.hid (kp_below HB.out hs HAT.out HLD.out.1)
      have HDJ := Lib.hid (show ∀ x, (FF x ∨ (A x ∧ x ≠ b ∧ g x < k)) → ¬ (A x ∧ x ≠ b ∧ g x = k) from fun x hx hy => by
        rcases hx with hx | hx
        · exact HFS.out x hx hy.1
        · have := hx.2.2; have := hy.2.2; omega)
      have HTK := Lib.hid (show withM ((L.take k).foldl (fun a x => withM a (measD n lev x)) (false, big, 1, 2)) (measD n lev L[k]) = (L.take (k + 1)).foldl (fun a x => withM a (measD n lev x)) (false, big, 1, 2) by rw [List.take_succ_eq_append_getElem hkl, List.foldl_append]; rfl)
      have HPT := Lib.hid (show (L.take k).foldl (fun a x => a + partsT n x) 0 + partsT n L[k] = (L.take (k + 1)).foldl (fun a x => a + partsT n x) 0 by rw [List.take_succ_eq_append_getElem hkl, List.foldl_append]; rfl)
      clear d0 d1 d2 d3 d4 hr hrm
      go_wp2
      go_region_with (first
        | (go_at_call 47; refine (HLV.out L[k] _ lev vis' w0 _ sb mv' _ _ HR.out HBD.out hs HDJ.out HLD.out.2.2.1 (by omega) hvv HPK.out).mono ?_; rintro e w1 ⟨rfl, hsv⟩; obtain ⟨mv2, vis2, hl2⟩ := lsm_sv HLD.out hlt hsv; have HL2 := Lib.hid hl2; have hm2 := HL2.out.2.2.2.2.2.2.1; have n0 := row_cell hm2 0; have n1 := row_cell hm2 1; have n2 := row_cell hm2 2; have n3 := row_cell hm2 3; simp only [List.getElem?_toArray, List.getElem?_cons_zero, List.getElem?_cons_succ] at n0 n1 n2 n3; have nz := row_lt hm2; clear hsv hl2 hm2)
        | (go_at_call 50; refine (with_me _ _ _ _ _ _).mono ?_; rintro e w2 ⟨rfl, hb2⟩; have HL3 := Lib.hid (lsm_bel HL2.out hb2); have hm3 := HL3.out.2.2.2.2.2.2.1; have o0 := row_cell hm3 0; have o1 := row_cell hm3 1; have o2 := row_cell hm3 2; have o3 := row_cell hm3 3; simp only [List.getElem?_toArray, List.getElem?_cons_zero, List.getElem?_cons_succ] at o0 o1 o2 o3; have of := fun o => row_frz hm3 o; clear hb2 hm3 n0 n1 n2 n3))
      all_goals
        have HEND := Lib.hid (lsm_mono (F' := fun x => FF x ∨ (A x ∧ x ≠ b ∧ g x < k + 1)) (fun x hx => by
          rcases hx with (hx | ⟨x1, x2, x3⟩) | ⟨x1, x2, x3⟩
          · exact Or.inl hx
          · exact Or.inr ⟨x1, x2, by omega⟩
          · exact Or.inr ⟨x1, x2, by omega⟩) (lsm_set HL3.out hlt (withM (q1, q2, q3, q4) (measD n lev L[k]))))
        clear m0 m1 m2 m3 hmf e0 e1 e2 e3 e4 o0 o1 o2 o3 of
        go_wp2
        go_roundw
        case rel => exact ⟨k + 1, vis2, mv2, withM (q1, q2, q3, q4) (measD n lev L[k]), by omega, by go_num, Lib.hid (by rw [← HTK.out, ← HQ.out]), Lib.hid (by rw [← HPT.out]; exact HEND.out)⟩
        case measure => simp [intOf]; omega
    · have hkl : L.take k = L := List.take_of_length_le (by have := HL.out; omega)
      have HQ2 := Lib.hid (show Ending.returned (meV (q1, q2, q3, q4)) = .returned (meV (measDL n lev L)) by
        have h1 := HQ.out
        rw [hkl] at h1
        rw [measDL_in (by omega), h1, HL.out, hbig'])
      have HLE := Lib.hid (show LsM w0 w wr sb (.map none) mv' vis vis' (L.foldl (fun a x => a + partsT n x) 0) (fun x => FF x ∨ (A x ∧ x ≠ b ∧ g x < k)) (q1, q2, q3, q4) ⟨b, off, none⟩ l by have := HLST.out; rw [hkl] at this; exact this)
      have hk0 := row_cell HLST.out.2.2.2.2.2.2.2 0
      have hk1 := row_cell HLST.out.2.2.2.2.2.2.2 1
      simp only [List.getElem?_toArray, List.getElem?_cons_zero, List.getElem?_cons_succ] at hk0 hk1
      have HBW := Lib.hid (kp_below HB.out hs HAT.out HLST.out.1)
      clear hrm hkl HLST
      go_wp2_with fail
      go_at_call 51; refine (sm_keep ⟨b, off, none⟩ _ _ _ _ _ _ _ vis' mv' w0 _ HBW.out HLE.out.2.2.1 hs HPb.out (fun x hx => by
        rcases hx with hx | hx
        · exact HFB.out x hx
        · exact hx.2.1)).mono ?_; rintro e w1 ⟨rfl, hk2, mv2, hto, hat2⟩
      have HK2 := Lib.hid hk2
      have HTO := Lib.hid hto
      have HAT2 := Lib.hid hat2
      have HRM := Lib.hid (row_kp HK2.out HLE.out.2.2.1 HLE.out.2.2.2.2.2.2.1 (by omega))
      have HRS := Lib.hid (row_kp HK2.out HLE.out.2.2.1 HLE.out.2.2.2.2.2.1 (by omega))
      have hrm1 := HRM.out
      have hrs1 := HRS.out
      have n0 := row_cell hrm1 0
      have n1 := row_cell hrm1 1
      have n2 := row_cell hrm1 2
      have n3 := row_cell hrm1 3
      have s0 := row_cell hrs1 0
      have s1 := row_cell hrs1 1
      have s2 := row_cell hrs1 2
      have s3 := row_cell hrs1 3
      simp only [List.getElem?_toArray, List.getElem?_cons_zero, List.getElem?_cons_succ] at n0 n1 n2 n3 s0 s1 s2 s3
      have sf := fun o => row_frz hrs1 o
      clear hk2 hto hat2 hrm1 hrs1 m0 m1 m2 m3 hmf hk0 hk1
      go_wp2
      refine bodyPost_ret (v := .agg #[.bool q1, .bool q2, .int .i64 q3, .int .i64 q4]) (by simp [results, Try.results49, go_sem, World.cell?_setCell_same, World.cell?_setCell_other, s0, s1, s2, s3]) rfl ⟨HQ2.out, ?_⟩
      exact svr_set4 ⟨kp_trans HLE.out.1 HLE.out.2.1 HK2.out, vis', mv2, HLE.out.2.2.2.1, HLE.out.2.2.2.2.1, mvto_trans HLE.out.2.1 HLE.out.1.size HTO.out, mvat_mono (fun x hx => by
        rcases hx with (hx | hx) | hx
        · exact Or.inl hx
        · exact Or.inr hx.1
        · exact Or.inr (by rw [hx]; exact HAb.out)) HAT2.out⟩ (Nat.le_refl _) (by omega) (fun cs t e => by rw [HRS.out] at e; cases e) _ _ _ _
set_option maxHeartbeats 4000000 in
theorem sm_list_some (n : Nat) (hv : SmValue n) : ∀ (L : List (VT n)) (b off l c : Nat) (lev : Nat) (vis : Int) (w0 w : World) (sb : Nat) (mb : Nat) (A FF : Nat → Prop), RepLS A w0 (RepC w0 n) (some ⟨b, off, none⟩) l c L → Below w0.heap.size w0 w → w0.heap.size ≤ sb → (∀ b, FF b → ¬ A b) → MvAt w0 w sb vis (.map (some mb)) FF → lev ≤ 64 → 0 ≤ vis → vis + (L.foldl (fun a x => a + partsT n x) 0 : Nat) ≤ 1000000 → 0 < l →
    Calls Try.prog 49 #[.pointer (some ⟨sb, 0, none⟩), .slice (some ⟨b, off, none⟩) l c, .int .i64 lev] w fun e w' => e = .returned (meV (measDL n lev L)) ∧ SvR w0 w w' sb (.map (some mb)) vis (L.foldl (fun a x => a + partsT n x) 0) (fun b => FF b ∨ A b) := by
  intro L b off l c lev vis w0 w sb mb A FF hr hB hs hFS hat hlev hv0 hvp hl0
  obtain ⟨hl, hlc, hcm, hel⟩ := hr
  unfold maxLen at hcm
  have c0 : w.cell? ⟨sb, 0, none⟩ = some (.int .i64 vis) := row_cell hat.1 0
  have hlt := row_lt hat.1
  have hne : sb ≠ w.heap.size := by omega
  have hne' : w.heap.size ≠ sb := by omega
  have lt1 : sb < w.heap.size + 1 := by omega
  have lt2 : sb < w.heap.size + 1 + 1 := by omega
  have lt3 : sb < w.heap.size + 1 + 1 + 1 := by omega
  have ne1 : sb ≠ w.heap.size + 1 := by omega
  have ne2 : sb ≠ w.heap.size + 1 + 1 := by omega
  have ne3 : sb ≠ w.heap.size + 1 + 1 + 1 := by omega
  have c1 : w.cell? ⟨sb, 1, none⟩ = some (.map (some mb)) := row_cell hat.1 1
  obtain ⟨b', off', hp', hAb, hPb, g, hi⟩ := hel hl0
  cases hp'
  have HI := Lib.hid hi
  have HAb := Lib.hid hAb
  have HPb := Lib.hid hPb
  have hFb : ∀ x, FF x → x ≠ b := fun x hx e => hFS x hx (e ▸ hAb)
  obtain ⟨big, hbig⟩ : ∃ big, big = decide (64 < (l : Int)) := ⟨_, rfl⟩
  have hbig' : decide (64 < (l : Int)) = big := hbig.symm
  have HBIG := Lib.hid hbig
  clear hbig
  have lk : ∀ W : World, Below w.heap.size w W →
      (Instr.lookup 78 (.map (some mb)) (.agg #[.pointer (some ⟨b, off, none⟩), .int .i64 l]) true).run Try.prog W = .ok (.tuple #[.agg #[.bool false, .bool false, .int .i64 0, .int .i64 0], .bool false]) W := by
    intro W hWB
    rcases hat.2 with e | ⟨mb', es, ck, e, h1, h2, h3, h4⟩
    · cases e
    · cases e
      exact look_miss _ mb es ck ⟨b, off, none⟩ l (row_step h3 hWB) (pln_now hPb (hB.trans (hWB.mono hB.size))) (memo_mono hFb (memo_now h4 (hB.trans (hWB.mono hB.size))))
  have lk1 := lk (((w.alloc (.cells #[.bool false, .bool false, .int .i64 0, .int .i64 0] 71)).alloc (.cells #[.bool false, .bool big, .int .i64 1, .int .i64 2] 71)).alloc (.cells #[.pointer (some ⟨b, off, none⟩), .int .i64 l] 86)).drew (Below.drew (below3 _ _ _ _))
  have lk2 := lk ((((w.alloc (.cells #[.bool false, .bool false, .int .i64 0, .int .i64 0] 71)).alloc (.cells #[.bool false, .bool big, .int .i64 1, .int .i64 2] 71)).alloc (.cells #[.pointer (some ⟨b, off, none⟩), .int .i64 l] 86)).alloc (.cells #[.bool false, .bool false, .int .i64 0, .int .i64 0] 71)).drew (Below.drew ((below3 _ _ _ _).alloc (by simp; omega) _))
  clear lk
  have HAT := Lib.hid hat
  have HB := Lib.hid hB
  have HP := Lib.hid hvp
  have HLV := Lib.hid hv
  have HL := Lib.hid hl
  have HFS := Lib.hid hFS
  have HFB := Lib.hid hFb
  clear hat hB hvp hv hl hel hi hFS hPb hAb hFb
  have hl0' : ((l : Int) == 0) = false := by rw [beq_eq_false_iff_ne]; omega
  have hl0'' : (l == 0) = false := by rw [beq_eq_false_iff_ne]; omega
  have hlev' : ¬ (64 < (lev : Int)) := by omega
  go_enter Try.func49, Try.ntmps49
  go_wp2
  go_region
  all_goals
    go_wp2
    have RS := Lib.hid (row_alloc w #[.bool false, .bool false, .int .i64 0, .int .i64 0] 71)
    have RM := Lib.hid (row_alloc (w.alloc (.cells #[.bool false, .bool false, .int .i64 0, .int .i64 0] 71)) #[.bool false, .bool big, .int .i64 1, .int .i64 2] 71)
    have RK := Lib.hid (row_alloc ((w.alloc (.cells #[.bool false, .bool false, .int .i64 0, .int .i64 0] 71)).alloc (.cells #[.bool false, .bool big, .int .i64 1, .int .i64 2] 71)) #[.pointer (some ⟨b, off, none⟩), .int .i64 l] 86)
    simp only [World.size_alloc] at RM RK
    go_loopw [43] (fun i wr => ∃ (k : Nat) (vis' : Int) (mv' : Value) (q : Me), k ≤ l ∧ i = .int .i64 k ∧ Hid (q = (L.take k).foldl (fun a x => withM a (measD n lev x)) (false, big, 1, 2)) ∧ Hid (LsM w0 w wr sb (.map (some mb)) mv' vis vis' ((L.take k).foldl (fun a x => a + partsT n x) 0) (fun x => FF x ∨ (A x ∧ x ≠ b ∧ g x < k)) q ⟨b, off, none⟩ l)) (fun i _ => l - (intOf i).toNat)
    case atStart =>
      refine ⟨0, vis, .map (some mb), (false, big, 1, 2), by omega, rfl, Lib.hid rfl, Lib.hid ⟨?_, Or.inl rfl, ?_, by omega, by omega, ?_, ?_, ?_⟩⟩
      · exact kp_drew (kp_alloc (kp_alloc (kp_alloc (kp_alloc (kp_refl _ _ _) _) _) _) _)
      · exact mvat_mono (fun x hx => Or.inl hx) (mvat_alloc (mvat_alloc (mvat_alloc (mvat_alloc HAT.out _) _) _) _)
      · exact row_alloc_step (row_alloc_step (row_alloc_step RS.out _) _) _
      · exact row_alloc_step (row_alloc_step RM.out _) _
      · exact row_alloc_step RK.out _
    case round =>
      obtain ⟨k, vis', mv', q, hk, rfl, HQ, HLST⟩ := hrel
      clear RS RM RK c0 c1 lk1 lk2
      have hwr : w.heap.size + 1 + 1 < wr.heap.size := row_lt HLST.out.2.2.2.2.2.2.2
      have hrm := HLST.out.2.2.2.2.2.2.1
      have m0 := row_cell hrm 0
      have m1 := row_cell hrm 1
      have m2 := row_cell hrm 2
      have m3 := row_cell hrm 3
      simp only [List.getElem?_toArray, List.getElem?_cons_zero, List.getElem?_cons_succ] at m0 m1 m2 m3
      have hmf := fun o => row_frz hrm o
      obtain ⟨q1, q2, q3, q4⟩ := q
      have hmne : w.heap.size + 1 ≠ wr.heap.size := by omega
      have hmne' : wr.heap.size ≠ w.heap.size + 1 := by omega
      have hmlt : w.heap.size + 1 < wr.heap.size := by omega
      by_cases hlt2 : k < l
      · have hkl : k < L.length := by have := HL.out; omega
        obtain ⟨v0, v1, v2, v3, v4, d0, d1, d2, d3, d4, hr⟩ := HI.out k hkl
        obtain ⟨K5, I5, F5, S5, p5, l5, c5, he5, _⟩ := repS_shape hr
        simp only [Value.agg.injEq, Array.mk.injEq, List.cons.injEq, and_true] at he5
        obtain ⟨rfl, rfl, rfl, rfl, rfl⟩ := he5
        have HBW := Lib.hid (kp_below HB.out hs HAT.out HLST.out.1)
        have e0 := cell_keep HBW.out d0
        have e1 := cell_keep HBW.out d1
        have e2 := cell_keep HBW.out d2
        have e3 := cell_keep HBW.out d3
        have e4 := cell_keep HBW.out d4
        have HR := Lib.hid hr
        have hvv : 0 ≤ vis' := by have := HLST.out.2.2.2.1; omega
        have HPK := Lib.hid (show vis' + partsT n L[k] ≤ 1000000 by
          have h1 := HLST.out.2.2.2.2.1
          have h2 := parts_prefix L k hkl 0
          have h3 := HP.out
          omega)
        have HLD := Lib.hid (lsm_drew (lsm_bel HLST.out ((Below.refl wr.heap.size wr).alloc (Nat.le_refl _) (.cells #[.int .i64 K5, .int .i64 I5, .float .f64 F5, .string S5, .slice p5 l5 c5] 26))))
        have HBD := Lib.hid (kp_below HB.out hs HAT.out HLD.out.1)
        have HDJ := Lib.hid (show ∀ x, (FF x ∨ (A x ∧ x ≠ b ∧ g x < k)) → ¬ (A x ∧ x ≠ b ∧ g x = k) from fun x hx hy => by
          rcases hx with hx | hx
          · exact HFS.out x hx hy.1
          · have := hx.2.2; have := hy.2.2; omega)
        have HTK := Lib.hid (show withM ((L.take k).foldl (fun a x => withM a (measD n lev x)) (false, big, 1, 2)) (measD n lev L[k]) = (L.take (k + 1)).foldl (fun a x => withM a (measD n lev x)) (false, big, 1, 2) by rw [List.take_succ_eq_append_getElem hkl, List.foldl_append]; rfl)
        have HPT := Lib.hid (show (L.take k).foldl (fun a x => a + partsT n x) 0 + partsT n L[k] = (L.take (k + 1)).foldl (fun a x => a + partsT n x) 0 by rw [List.take_succ_eq_append_getElem hkl, List.foldl_append]; rfl)
        clear d0 d1 d2 d3 d4 hr hrm
        go_wp2
        go_region_with (first
          | (go_at_call 47; refine (HLV.out L[k] _ lev vis' w0 _ sb mv' _ _ HR.out HBD.out hs HDJ.out HLD.out.2.2.1 (by omega) hvv HPK.out).mono ?_; rintro e w1 ⟨rfl, hsv⟩; obtain ⟨mv2, vis2, hl2⟩ := lsm_sv HLD.out hlt hsv; have HL2 := Lib.hid hl2; have hm2 := HL2.out.2.2.2.2.2.2.1; have n0 := row_cell hm2 0; have n1 := row_cell hm2 1; have n2 := row_cell hm2 2; have n3 := row_cell hm2 3; simp only [List.getElem?_toArray, List.getElem?_cons_zero, List.getElem?_cons_succ] at n0 n1 n2 n3; have nz := row_lt hm2; clear hsv hl2 hm2)
          | (go_at_call 50; refine (with_me _ _ _ _ _ _).mono ?_; rintro e w2 ⟨rfl, hb2⟩; have HL3 := Lib.hid (lsm_bel HL2.out hb2); have hm3 := HL3.out.2.2.2.2.2.2.1; have o0 := row_cell hm3 0; have o1 := row_cell hm3 1; have o2 := row_cell hm3 2; have o3 := row_cell hm3 3; simp only [List.getElem?_toArray, List.getElem?_cons_zero, List.getElem?_cons_succ] at o0 o1 o2 o3; have of := fun o => row_frz hm3 o; clear hb2 hm3 n0 n1 n2 n3))
        all_goals
          have HEND := Lib.hid (lsm_mono (F' := fun x => FF x ∨ (A x ∧ x ≠ b ∧ g x < k + 1)) (fun x hx => by
            rcases hx with (hx | ⟨x1, x2, x3⟩) | ⟨x1, x2, x3⟩
            · exact Or.inl hx
            · exact Or.inr ⟨x1, x2, by omega⟩
            · exact Or.inr ⟨x1, x2, by omega⟩) (lsm_set HL3.out hlt (withM (q1, q2, q3, q4) (measD n lev L[k]))))
          clear m0 m1 m2 m3 hmf e0 e1 e2 e3 e4 o0 o1 o2 o3 of
          go_wp2
          go_roundw
          case rel => exact ⟨k + 1, vis2, mv2, withM (q1, q2, q3, q4) (measD n lev L[k]), by omega, by go_num, Lib.hid (by rw [← HTK.out, ← HQ.out]), Lib.hid (by rw [← HPT.out]; exact HEND.out)⟩
          case measure => simp [intOf]; omega
      · have hkl : L.take k = L := List.take_of_length_le (by have := HL.out; omega)
        have HQ2 := Lib.hid (show Ending.returned (meV (q1, q2, q3, q4)) = .returned (meV (measDL n lev L)) by
          have h1 := HQ.out
          rw [hkl] at h1
          rw [measDL_in (by omega), h1, HL.out, hbig'])
        have HLE := Lib.hid (show LsM w0 w wr sb (.map (some mb)) mv' vis vis' (L.foldl (fun a x => a + partsT n x) 0) (fun x => FF x ∨ (A x ∧ x ≠ b ∧ g x < k)) (q1, q2, q3, q4) ⟨b, off, none⟩ l by have := HLST.out; rw [hkl] at this; exact this)
        have hk0 := row_cell HLST.out.2.2.2.2.2.2.2 0
        have hk1 := row_cell HLST.out.2.2.2.2.2.2.2 1
        simp only [List.getElem?_toArray, List.getElem?_cons_zero, List.getElem?_cons_succ] at hk0 hk1
        have HBW := Lib.hid (kp_below HB.out hs HAT.out HLST.out.1)
        clear hrm hkl HLST
        go_wp2_with fail
        go_at_call 51; refine (sm_keep ⟨b, off, none⟩ _ _ _ _ _ _ _ vis' mv' w0 _ HBW.out HLE.out.2.2.1 hs HPb.out (fun x hx => by
          rcases hx with hx | hx
          · exact HFB.out x hx
          · exact hx.2.1)).mono ?_; rintro e w1 ⟨rfl, hk2, mv2, hto, hat2⟩
        have HK2 := Lib.hid hk2
        have HTO := Lib.hid hto
        have HAT2 := Lib.hid hat2
        have HRM := Lib.hid (row_kp HK2.out HLE.out.2.2.1 HLE.out.2.2.2.2.2.2.1 (by omega))
        have HRS := Lib.hid (row_kp HK2.out HLE.out.2.2.1 HLE.out.2.2.2.2.2.1 (by omega))
        have hrm1 := HRM.out
        have hrs1 := HRS.out
        have n0 := row_cell hrm1 0
        have n1 := row_cell hrm1 1
        have n2 := row_cell hrm1 2
        have n3 := row_cell hrm1 3
        have s0 := row_cell hrs1 0
        have s1 := row_cell hrs1 1
        have s2 := row_cell hrs1 2
        have s3 := row_cell hrs1 3
        simp only [List.getElem?_toArray, List.getElem?_cons_zero, List.getElem?_cons_succ] at n0 n1 n2 n3 s0 s1 s2 s3
        have sf := fun o => row_frz hrs1 o
        clear hk2 hto hat2 hrm1 hrs1 m0 m1 m2 m3 hmf hk0 hk1
        go_wp2
        refine bodyPost_ret (v := .agg #[.bool q1, .bool q2, .int .i64 q3, .int .i64 q4]) (by simp [results, Try.results49, go_sem, World.cell?_setCell_same, World.cell?_setCell_other, s0, s1, s2, s3]) rfl ⟨HQ2.out, ?_⟩
        exact svr_set4 ⟨kp_trans HLE.out.1 HLE.out.2.1 HK2.out, vis', mv2, HLE.out.2.2.2.1, HLE.out.2.2.2.2.1, mvto_trans HLE.out.2.1 HLE.out.1.size HTO.out, mvat_mono (fun x hx => by
          rcases hx with (hx | hx) | hx
          · exact Or.inl hx
          · exact Or.inr hx.1
          · exact Or.inr (by rw [hx]; exact HAb.out)) HAT2.out⟩ (Nat.le_refl _) (by omega) (fun cs t e => by rw [HRS.out] at e; cases e) _ _ _ _
set_option maxHeartbeats 4000000 in
theorem sm_list_of (n : Nat) (hv : SmValue n) : SmList n := by
  intro L p l c lev vis w0 w sb mv A FF hr hB hs hFS hat hlev hv0 hvp
  obtain ⟨hl, hlc, hcm, hel⟩ := hr
  unfold maxLen at hcm
  have c0 : w.cell? ⟨sb, 0, none⟩ = some (.int .i64 vis) := row_cell hat.1 0
  have hlt := row_lt hat.1
  have hne : sb ≠ w.heap.size := by omega
  have hne' : w.heap.size ≠ sb := by omega
  have lt1 : sb < w.heap.size + 1 := by omega
  have lt2 : sb < w.heap.size + 1 + 1 := by omega
  have lt3 : sb < w.heap.size + 1 + 1 + 1 := by omega
  have ne1 : sb ≠ w.heap.size + 1 := by omega
  have ne2 : sb ≠ w.heap.size + 1 + 1 := by omega
  have ne3 : sb ≠ w.heap.size + 1 + 1 + 1 := by omega
  have HAT := Lib.hid hat
  have HB := Lib.hid hB
  have HP := Lib.hid hvp
  have HLV := Lib.hid hv
  have HL := Lib.hid hl
  have HFS := Lib.hid hFS
  by_cases hl0 : 0 < l
  · obtain ⟨b, off, hp, _⟩ := hel hl0
    subst hp
    by_cases hdeep : 64 < lev
    · have hl0' : ((l : Int) == 0) = false := by rw [beq_eq_false_iff_ne]; omega
      have hlev' : 64 < (lev : Int) := by omega
      obtain ⟨big, hbig⟩ : ∃ big, big = decide (64 < (l : Int)) := ⟨_, rfl⟩
      have hbig' : decide (64 < (l : Int)) = big := hbig.symm
      have HF := Lib.hid (show Ending.returned (meV (false, big, 1, 2)) = .returned (meV (measDL n lev L)) by rw [measDL_deep hdeep, hl, hbig])
      have HS := Lib.hid (show SvR w0 w (((w.alloc (.cells #[.bool false, .bool big, .int .i64 1, .int .i64 2] 71)).alloc (.cells #[.bool false, .bool big, .int .i64 1, .int .i64 2] 71))) sb mv vis (L.foldl (fun a x => a + partsT n x) 0) (fun b => FF b ∨ A b) from ⟨kp_alloc (kp_alloc (kp_refl _ _ _) _) _, vis, mv, by omega, by omega, Or.inl rfl, mvat_mono (fun b hb => Or.inl hb) (mvat_alloc (mvat_alloc HAT.out _) _)⟩)
      clear c0 hat hB hvp hv hl hel hFS hbig
      go_enter Try.func49, Try.ntmps49
      go_wp2
      exact bodyPost_ret (v := .agg #[.bool false, .bool big, .int .i64 1, .int .i64 2]) (by simp [results, Try.results49, go_sem]) rfl ⟨HF.out, HS.out⟩
    · rcases hat.2 with e | ⟨mb, es, ck, e, _⟩
      · subst e; exact sm_list_none n hv L b off l c lev vis w0 w sb A FF ⟨hl, hlc, by unfold maxLen; omega, hel⟩ hB hs hFS hat (by omega) hv0 hvp hl0
      · subst e; exact sm_list_some n hv L b off l c lev vis w0 w sb mb A FF ⟨hl, hlc, by unfold maxLen; omega, hel⟩ hB hs hFS hat (by omega) hv0 hvp hl0
  · obtain rfl : l = 0 := by omega
    obtain rfl : L = [] := List.length_eq_zero_iff.1 HL.out
    have h0 : ¬ (64 < ((0 : Nat) : Int)) := by omega
    have HF := Lib.hid (show Ending.returned (meV (false, false, 1, 2)) = .returned (meV (measDL n lev ([] : List (VT n)))) by rw [measDL_nil])
    have HS := Lib.hid (show SvR w0 w (((w.alloc (.cells #[.bool false, .bool false, .int .i64 1, .int .i64 2] 71)).alloc (.cells #[.bool false, .bool false, .int .i64 1, .int .i64 2] 71))) sb mv vis (([] : List (VT n)).foldl (fun a x => a + partsT n x) 0) (fun b => FF b ∨ A b) from ⟨kp_alloc (kp_alloc (kp_refl _ _ _) _) _, vis, mv, by omega, by omega, Or.inl rfl, mvat_mono (fun b hb => Or.inl hb) (mvat_alloc (mvat_alloc HAT.out _) _)⟩)
    clear c0 hat hB hvp hv hl hel hFS
    go_enter Try.func49, Try.ntmps49
    go_wp2
    exact bodyPost_ret (v := .agg #[.bool false, .bool false, .int .i64 1, .int .i64 2]) (by simp [results, Try.results49, go_sem]) rfl ⟨HF.out, HS.out⟩
theorem sm_all : ∀ n, SmValue n ∧ SmList n := by
  intro n
  induction n with
  | zero => exact ⟨sm_value_zero, sm_list_of 0 sm_value_zero⟩
  | succ n ih => exact ⟨sm_value_succ n ih.2, sm_list_of (n + 1) (sm_value_succ n ih.2)⟩
end Num
end Go.Proofs.Ytbodakfgoijeeaa
