/-
  WireReads: the walk.
-/
import Derived.Test.YthjjakpjanoamaaMU
import Derived.Test.YthjjakpjanoamaaWN
import Derived.Test.YthjjakpjanoamaaBB
namespace Go.Proofs.Ythjjakpjanoamaa
open Go.RowKit
namespace Num
open Ints
set_option linter.unusedSimpArgs false
set_option linter.unusedVariables false
set_option maxRecDepth 100000 in
set_option maxHeartbeats 8000000 in
theorem wreads_in (w : World) (r : Option Addr) (k f : Nat) (R : List Int) (n : Nat) (K I : Int) (F : Nat) (S : ByteArray) (q : Option Addr) (m d : Nat) (T : VT n) (at' xx : Nat) (cut : Bool) (hr : RdB w r k f R) (hR : By R) (hk : k ≤ 300) (hv : Rep w n (.agg #[.int .i64 K, .int .i64 I, .float .f64 F, .string S, .slice q m d]) T) (hlt : lightT n T = true) (ha : at' < 65536) (hxx : xx < 256) :
    Calls Try.prog 3 #[.slice r k f, .agg #[.int .i64 K, .int .i64 I, .float .f64 F, .string S, .slice q m d], .int .u16 at', .int .u8 xx, .bool cut] w fun e w' => e = .returned (.bool true) ∧ Below w.heap.size w w' := by
  have HR := Lib.hid hr
  have HBR := Lib.hid hR
  have HV := Lib.hid (rep_keep ((Below.refl w.heap.size w).alloc (Nat.le_refl _) (.cells #[.int .i64 K, .int .i64 I, .float .f64 F, .string S, .slice q m d] 26)) _ _ _ hv)
  have HA := Lib.hid (bel_alloc (Below.refl w.heap.size w) (.cells #[.int .i64 K, .int .i64 I, .float .f64 F, .string S, .slice q m d] 26))
  have RB := Lib.hid (row_alloc w #[.int .i64 K, .int .i64 I, .float .f64 F, .string S, .slice q m d] 26)
  have HLt := Lib.hid hlt
  have g2 : ¬ ((300 : Int) < (k : Int)) := by omega
  clear hr hR hv hlt
  go_enter Try.func3, Try.ntmps3
  go_wp2_with fail
  go_at_call 11; refine (known_any _).mono ?_; rintro e w1 ⟨rfl, hb1⟩
  have HB1 := Lib.hid (bel_step HA.out hb1)
  have RB1 := row_step RB.out hb1
  have d0 := row_cell RB1 0; have d1 := row_cell RB1 1; have d2 := row_cell RB1 2; have d3 := row_cell RB1 3; have d4 := row_cell RB1 4
  simp only [List.getElem?_toArray, List.getElem?_cons_zero, List.getElem?_cons_succ] at d0 d1 d2 d3 d4
  have HV1 := Lib.hid (rep_keep hb1 _ _ _ HV.out)
  clear hb1
  go_wp2_with fail
  go_at_call 12; refine (light_any n _ T _ HV1.out).mono ?_; rintro e w2 ⟨rfl, hb2⟩
  rw [HLt.out]
  have HB2 := Lib.hid (bel_step HB1.out hb2)
  have RB2 := row_step RB1 hb2
  have e0 := row_cell RB2 0; have e1 := row_cell RB2 1; have e2 := row_cell RB2 2; have e3 := row_cell RB2 3; have e4 := row_cell RB2 4
  simp only [List.getElem?_toArray, List.getElem?_cons_zero, List.getElem?_cons_succ] at e0 e1 e2 e3 e4
  clear RB1 RB2 d0 d1 d2 d3 d4
  have HV2 := Lib.hid (rep_keep hb2 _ _ _ HV1.out)
  clear hb2
  go_wp2_with fail
  go_at_call 13; refine (rput_nil n _ _ T HV2.out).mono ?_; rintro e w3 ⟨p3, l3, c3, Z, er, rfl, ho3, hZ, hl3⟩
  have HO3 := Lib.hid ho3
  have HZ := Lib.hid hZ
  have hlZ := ho3.1
  clear hZ e0 e1 e2 e3 e4 HV HV1 HV2 RB HA HLt
  rcases Nat.eq_zero_or_pos l3 with h0 | h0
  · subst h0
    obtain rfl : Z = [] := List.eq_nil_of_length_eq_zero hlZ
    clear ho3
    go_wp2_with fail
    have hrow := row_alloc w3 #[.slice r k f, .slice p3 0 c3] 22
    obtain ⟨W4, hW4⟩ : ∃ W4, w3.alloc (.cells #[.slice r k f, .slice p3 0 c3] 22) = W4 := ⟨_, rfl⟩
    have HA4 := Lib.hid (show Below w3.heap.size w3 W4 from hW4 ▸ (Below.refl _ _).alloc (Nat.le_refl _) _)
    rw [hW4] at hrow
    rw [hW4]
    have HB4 := Lib.hid (bel_step (bel_step HB2.out (ow_bel HO3.out)) HA4.out)
    have HRR := Lib.hid (rd_keep HB4.out HR.out)
    have HRB := Lib.hid (show RdB W4 p3 0 c3 [] from rd_keep HA4.out (rd_of_ow HO3.out))
    have c0 : W4.cell? ⟨w3.heap.size, 0, none⟩ = some (.slice r k f) := by rw [row_cell hrow]; rfl
    have HK1 := Lib.hid (show W4.cell? ⟨w3.heap.size, 1, none⟩ = some (.slice p3 0 c3) by rw [row_cell hrow]; rfl)
    clear hrow hW4
    refine wp_loop_rounds 3 ?_
    rw [rounds_succ]
    obtain ⟨o0, hq0⟩ : ∃ o, rdOut 4096 R = o := ⟨_, rfl⟩
    have HC0 := Lib.hid (fun (w : World) (h : RdB w r k f R) => pread_out 4096 w _ _ _ _ h HBR.out (by omega) (by omega) (by omega))
    have HD0 := Lib.hid (fun (w : World) (h : RdB w r k f R) => rread_out 4096 w _ _ _ _ h HBR.out (by omega) (by omega) (by omega))
    rw [hq0] at HC0 HD0
    obtain ⟨T0, J0, E0⟩ := o0
    clear hq0
    have cc0 := c0
    go_wp2_with fail
    go_at_call 14; refine (HC0.out _ (HRR.out)).mono ?_; rintro e w0a ⟨hba, Ka0, Ia0, Fa0, Sa0, qa0, ma0, da0, rfl, hra⟩
    have HBa0 := Lib.hid (bel_alloc hba (.cells #[.int .i64 Ka0, .int .i64 Ia0, .float .f64 Fa0, .string Sa0, .slice qa0 ma0 da0] 26))
    have HRa0 := Lib.hid (rep_keep ((Below.refl w0a.heap.size w0a).alloc (Nat.le_refl _) (.cells #[.int .i64 Ka0, .int .i64 Ia0, .float .f64 Fa0, .string Sa0, .slice qa0 ma0 da0] 26)) _ _ _ hra)
    have RA0 := Lib.hid (row_alloc w0a #[.int .i64 Ka0, .int .i64 Ia0, .float .f64 Fa0, .string Sa0, .slice qa0 ma0 da0] 26)
    have HY0 := Lib.hid (rd_keep HBa0.out (HRR.out))
    clear hba hra cc0
    go_wp2_with fail
    go_at_call 15; refine (HD0.out _ HY0.out).mono ?_; rintro e w0b ⟨hbb, Kb0, Ib0, Fb0, Sb0, qb0, mb0, db0, rfl, hrb⟩
    have HBb0 := Lib.hid (bel_alloc (bel_step HBa0.out hbb) (.cells #[.int .i64 Kb0, .int .i64 Ib0, .float .f64 Fb0, .string Sb0, .slice qb0 mb0 db0] 26))
    have HRb0 := Lib.hid (rep_keep ((Below.refl w0b.heap.size w0b).alloc (Nat.le_refl _) (.cells #[.int .i64 Kb0, .int .i64 Ib0, .float .f64 Fb0, .string Sb0, .slice qb0 mb0 db0] 26)) _ _ _ hrb)
    have HRc0 := Lib.hid (rep_keep ((Below.refl w0b.heap.size w0b).alloc (Nat.le_refl _) (.cells #[.int .i64 Kb0, .int .i64 Ib0, .float .f64 Fb0, .string Sb0, .slice qb0 mb0 db0] 26)) _ _ _ (rep_keep hbb _ _ _ HRa0.out))
    have RA0' := row_alloc_step (row_step RA0.out hbb) (.cells #[.int .i64 Kb0, .int .i64 Ib0, .float .f64 Fb0, .string Sb0, .slice qb0 mb0 db0] 26)
    have RB0' := row_alloc w0b #[.int .i64 Kb0, .int .i64 Ib0, .float .f64 Fb0, .string Sb0, .slice qb0 mb0 db0] 26
    have x0 := row_cell RA0' 0; have x1 := row_cell RA0' 1; have x2 := row_cell RA0' 2; have x3 := row_cell RA0' 3; have x4 := row_cell RA0' 4
    have y0 := row_cell RB0' 0; have y1 := row_cell RB0' 1; have y2 := row_cell RB0' 2; have y3 := row_cell RB0' 3; have y4 := row_cell RB0' 4
    simp only [List.getElem?_toArray, List.getElem?_cons_zero, List.getElem?_cons_succ] at x0 x1 x2 x3 x4 y0 y1 y2 y3 y4
    clear hbb hrb RA0' RB0'
    go_wp2_with fail
    go_at_call 16; refine (same_any _ _ _ _ _ HRc0.out HRb0.out).mono ?_; rintro e w0c ⟨rfl, hbc⟩
    have HBc0 := Lib.hid (bel_step HBb0.out hbc)
    clear hbc x0 x1 x2 x3 x4 y0 y1 y2 y3 y4
    go_wp2
    rw [rounds_succ]
    obtain ⟨o1, hq1⟩ : ∃ o, rdOut 4096 [] = o := ⟨_, rfl⟩
    have HC1 := Lib.hid (fun (w : World) (h : RdB w p3 0 c3 []) => pread_out 4096 w _ _ _ _ h (fun x h => by cases h) (by omega) (by omega) (by omega))
    have HD1 := Lib.hid (fun (w : World) (h : RdB w p3 0 c3 []) => rread_out 4096 w _ _ _ _ h (fun x h => by cases h) (by omega) (by omega) (by omega))
    rw [hq1] at HC1 HD1
    obtain ⟨T1, J1, E1⟩ := o1
    clear hq1
    have cc1 := cell_keep HBc0.out HK1.out
    go_wp2_with fail
    go_at_call 14; refine (HC1.out _ (rd_keep HBc0.out HRB.out)).mono ?_; rintro e w1a ⟨hba, Ka1, Ia1, Fa1, Sa1, qa1, ma1, da1, rfl, hra⟩
    have HBa1 := Lib.hid (bel_alloc hba (.cells #[.int .i64 Ka1, .int .i64 Ia1, .float .f64 Fa1, .string Sa1, .slice qa1 ma1 da1] 26))
    have HRa1 := Lib.hid (rep_keep ((Below.refl w1a.heap.size w1a).alloc (Nat.le_refl _) (.cells #[.int .i64 Ka1, .int .i64 Ia1, .float .f64 Fa1, .string Sa1, .slice qa1 ma1 da1] 26)) _ _ _ hra)
    have RA1 := Lib.hid (row_alloc w1a #[.int .i64 Ka1, .int .i64 Ia1, .float .f64 Fa1, .string Sa1, .slice qa1 ma1 da1] 26)
    have HY1 := Lib.hid (rd_keep HBa1.out (rd_keep HBc0.out HRB.out))
    clear hba hra cc1
    go_wp2_with fail
    go_at_call 15; refine (HD1.out _ HY1.out).mono ?_; rintro e w1b ⟨hbb, Kb1, Ib1, Fb1, Sb1, qb1, mb1, db1, rfl, hrb⟩
    have HBb1 := Lib.hid (bel_alloc (bel_step HBa1.out hbb) (.cells #[.int .i64 Kb1, .int .i64 Ib1, .float .f64 Fb1, .string Sb1, .slice qb1 mb1 db1] 26))
    have HRb1 := Lib.hid (rep_keep ((Below.refl w1b.heap.size w1b).alloc (Nat.le_refl _) (.cells #[.int .i64 Kb1, .int .i64 Ib1, .float .f64 Fb1, .string Sb1, .slice qb1 mb1 db1] 26)) _ _ _ hrb)
    have HRc1 := Lib.hid (rep_keep ((Below.refl w1b.heap.size w1b).alloc (Nat.le_refl _) (.cells #[.int .i64 Kb1, .int .i64 Ib1, .float .f64 Fb1, .string Sb1, .slice qb1 mb1 db1] 26)) _ _ _ (rep_keep hbb _ _ _ HRa1.out))
    have RA1' := row_alloc_step (row_step RA1.out hbb) (.cells #[.int .i64 Kb1, .int .i64 Ib1, .float .f64 Fb1, .string Sb1, .slice qb1 mb1 db1] 26)
    have RB1' := row_alloc w1b #[.int .i64 Kb1, .int .i64 Ib1, .float .f64 Fb1, .string Sb1, .slice qb1 mb1 db1] 26
    have x0 := row_cell RA1' 0; have x1 := row_cell RA1' 1; have x2 := row_cell RA1' 2; have x3 := row_cell RA1' 3; have x4 := row_cell RA1' 4
    have y0 := row_cell RB1' 0; have y1 := row_cell RB1' 1; have y2 := row_cell RB1' 2; have y3 := row_cell RB1' 3; have y4 := row_cell RB1' 4
    simp only [List.getElem?_toArray, List.getElem?_cons_zero, List.getElem?_cons_succ] at x0 x1 x2 x3 x4 y0 y1 y2 y3 y4
    clear hbb hrb RA1' RB1'
    go_wp2_with fail
    go_at_call 16; refine (same_any _ _ _ _ _ HRc1.out HRb1.out).mono ?_; rintro e w1c ⟨rfl, hbc⟩
    have HBc1 := Lib.hid (bel_step HBb1.out hbc)
    clear hbc x0 x1 x2 x3 x4 y0 y1 y2 y3 y4
    go_wp2
    rw [rounds_succ]
    go_wp2
    go_ret
    exact ⟨rfl, bel_step (bel_step HB4.out HBc0.out) HBc1.out⟩
  · obtain ⟨j, hje⟩ : ∃ j, at' % l3 = j := ⟨_, rfl⟩
    have hjL : j < l3 := by rw [← hje]; exact Nat.mod_lt _ h0
    have hji : ((at' : Int) % (l3 : Int)) = (j : Int) := by omega
    have hjX : j < Z.length := by omega
    obtain ⟨hx0, hx1⟩ := HZ.out _ (List.getElem_mem hjX)
    obtain ⟨x, hx⟩ : ∃ x : Nat, Z[j] = (x : Int) := ⟨(Z[j]).toNat, by omega⟩
    rw [hx] at hx0 hx1
    have HXJ := Lib.hid hx
    obtain ⟨y, hyb, hy256⟩ := xor_walk (show x < 256 by omega) hxx
    have HY := Lib.hid (show By (Z.set j (y : Int)) from by_setB HZ.out ⟨by omega, by omega⟩)
    obtain ⟨g, cur, rfl, hg2, hW2, hcs, hlc2, htk⟩ := ow_some ho3 h0
    have hc2 : w3.cell? ⟨g, j, none⟩ = some (.int .u8 (x : Int)) := by
      obtain ⟨b', off', e, h⟩ := (rd_of_ow HO3.out).2.2.2.1 (by omega)
      cases e
      have := h j hjX
      rw [Nat.zero_add] at this
      rw [this, HXJ.out]
    have hf2 := row_frz hg2 j
    have HO4 := Lib.hid (ow_set HO3.out hjL (y : Int))
    have hj5 : j ≤ 4096 := by omega
    clear HXJ hx
    clear ho3 hg2 hcs htk hje hy256 hlZ hjX
    cases cut
    all_goals go_wp2_with fail
    · -- false
      have hS : (w3.setCell ⟨g, j, none⟩ (.int .u8 (y : Int))).heap.size = w3.heap.size := World.size_setCell _ _ _
      have hrow := row_alloc (w3.setCell ⟨g, j, none⟩ (.int .u8 (y : Int))) #[.slice r k f, .slice (some ⟨g, 0, none⟩) l3 c3] 22
      rw [hS] at hrow
      obtain ⟨W4, hW4⟩ : ∃ W4, (w3.setCell ⟨g, j, none⟩ (.int .u8 (y : Int))).alloc (.cells #[.slice r k f, .slice (some ⟨g, 0, none⟩) l3 c3] 22) = W4 := ⟨_, rfl⟩
      have HA4 := Lib.hid (show Below (w3.setCell ⟨g, j, none⟩ (.int .u8 (y : Int))).heap.size (w3.setCell ⟨g, j, none⟩ (.int .u8 (y : Int))) W4 from hW4 ▸ (Below.refl _ _).alloc (Nat.le_refl _) _)
      rw [hW4] at hrow
      rw [hW4]
      have HB4 := Lib.hid (bel_step (bel_step HB2.out (ow_bel HO4.out)) HA4.out)
      have HRR := Lib.hid (rd_keep HB4.out HR.out)
      have HRB := Lib.hid (show RdB W4 (some ⟨g, 0, none⟩) l3 c3 (Z.set j (y : Int)) from rd_keep HA4.out (rd_of_ow HO4.out))
      have c0 : W4.cell? ⟨w3.heap.size, 0, none⟩ = some (.slice r k f) := by rw [row_cell hrow]; rfl
      have HK1 := Lib.hid (show W4.cell? ⟨w3.heap.size, 1, none⟩ = some (.slice (some ⟨g, 0, none⟩) l3 c3) by rw [row_cell hrow]; rfl)
      clear hrow hW4 hS
      refine wp_loop_rounds 3 ?_
      rw [rounds_succ]
      obtain ⟨o0, hq0⟩ : ∃ o, rdOut 4096 R = o := ⟨_, rfl⟩
      have HC0 := Lib.hid (fun (w : World) (h : RdB w r k f R) => pread_out 4096 w _ _ _ _ h HBR.out (by omega) (by omega) (by omega))
      have HD0 := Lib.hid (fun (w : World) (h : RdB w r k f R) => rread_out 4096 w _ _ _ _ h HBR.out (by omega) (by omega) (by omega))
      rw [hq0] at HC0 HD0
      obtain ⟨T0, J0, E0⟩ := o0
      clear hq0
      have cc0 := c0
      go_wp2_with fail
      go_at_call 14; refine (HC0.out _ (HRR.out)).mono ?_; rintro e w0a ⟨hba, Ka0, Ia0, Fa0, Sa0, qa0, ma0, da0, rfl, hra⟩
      have HBa0 := Lib.hid (bel_alloc hba (.cells #[.int .i64 Ka0, .int .i64 Ia0, .float .f64 Fa0, .string Sa0, .slice qa0 ma0 da0] 26))
      have HRa0 := Lib.hid (rep_keep ((Below.refl w0a.heap.size w0a).alloc (Nat.le_refl _) (.cells #[.int .i64 Ka0, .int .i64 Ia0, .float .f64 Fa0, .string Sa0, .slice qa0 ma0 da0] 26)) _ _ _ hra)
      have RA0 := Lib.hid (row_alloc w0a #[.int .i64 Ka0, .int .i64 Ia0, .float .f64 Fa0, .string Sa0, .slice qa0 ma0 da0] 26)
      have HY0 := Lib.hid (rd_keep HBa0.out (HRR.out))
      clear hba hra cc0
      go_wp2_with fail
      go_at_call 15; refine (HD0.out _ HY0.out).mono ?_; rintro e w0b ⟨hbb, Kb0, Ib0, Fb0, Sb0, qb0, mb0, db0, rfl, hrb⟩
      have HBb0 := Lib.hid (bel_alloc (bel_step HBa0.out hbb) (.cells #[.int .i64 Kb0, .int .i64 Ib0, .float .f64 Fb0, .string Sb0, .slice qb0 mb0 db0] 26))
      have HRb0 := Lib.hid (rep_keep ((Below.refl w0b.heap.size w0b).alloc (Nat.le_refl _) (.cells #[.int .i64 Kb0, .int .i64 Ib0, .float .f64 Fb0, .string Sb0, .slice qb0 mb0 db0] 26)) _ _ _ hrb)
      have HRc0 := Lib.hid (rep_keep ((Below.refl w0b.heap.size w0b).alloc (Nat.le_refl _) (.cells #[.int .i64 Kb0, .int .i64 Ib0, .float .f64 Fb0, .string Sb0, .slice qb0 mb0 db0] 26)) _ _ _ (rep_keep hbb _ _ _ HRa0.out))
      have RA0' := row_alloc_step (row_step RA0.out hbb) (.cells #[.int .i64 Kb0, .int .i64 Ib0, .float .f64 Fb0, .string Sb0, .slice qb0 mb0 db0] 26)
      have RB0' := row_alloc w0b #[.int .i64 Kb0, .int .i64 Ib0, .float .f64 Fb0, .string Sb0, .slice qb0 mb0 db0] 26
      have x0 := row_cell RA0' 0; have x1 := row_cell RA0' 1; have x2 := row_cell RA0' 2; have x3 := row_cell RA0' 3; have x4 := row_cell RA0' 4
      have y0 := row_cell RB0' 0; have y1 := row_cell RB0' 1; have y2 := row_cell RB0' 2; have y3 := row_cell RB0' 3; have y4 := row_cell RB0' 4
      simp only [List.getElem?_toArray, List.getElem?_cons_zero, List.getElem?_cons_succ] at x0 x1 x2 x3 x4 y0 y1 y2 y3 y4
      clear hbb hrb RA0' RB0'
      go_wp2_with fail
      go_at_call 16; refine (same_any _ _ _ _ _ HRc0.out HRb0.out).mono ?_; rintro e w0c ⟨rfl, hbc⟩
      have HBc0 := Lib.hid (bel_step HBb0.out hbc)
      clear hbc x0 x1 x2 x3 x4 y0 y1 y2 y3 y4
      go_wp2
      rw [rounds_succ]
      obtain ⟨o1, hq1⟩ : ∃ o, rdOut 4096 (Z.set j (y : Int)) = o := ⟨_, rfl⟩
      have HC1 := Lib.hid (fun (w : World) (h : RdB w (some ⟨g, 0, none⟩) l3 c3 (Z.set j (y : Int))) => pread_out 4096 w _ _ _ _ h HY.out (by omega) (by omega) (by omega))
      have HD1 := Lib.hid (fun (w : World) (h : RdB w (some ⟨g, 0, none⟩) l3 c3 (Z.set j (y : Int))) => rread_out 4096 w _ _ _ _ h HY.out (by omega) (by omega) (by omega))
      rw [hq1] at HC1 HD1
      obtain ⟨T1, J1, E1⟩ := o1
      clear hq1
      have cc1 := cell_keep HBc0.out HK1.out
      go_wp2_with fail
      go_at_call 14; refine (HC1.out _ (rd_keep HBc0.out HRB.out)).mono ?_; rintro e w1a ⟨hba, Ka1, Ia1, Fa1, Sa1, qa1, ma1, da1, rfl, hra⟩
      have HBa1 := Lib.hid (bel_alloc hba (.cells #[.int .i64 Ka1, .int .i64 Ia1, .float .f64 Fa1, .string Sa1, .slice qa1 ma1 da1] 26))
      have HRa1 := Lib.hid (rep_keep ((Below.refl w1a.heap.size w1a).alloc (Nat.le_refl _) (.cells #[.int .i64 Ka1, .int .i64 Ia1, .float .f64 Fa1, .string Sa1, .slice qa1 ma1 da1] 26)) _ _ _ hra)
      have RA1 := Lib.hid (row_alloc w1a #[.int .i64 Ka1, .int .i64 Ia1, .float .f64 Fa1, .string Sa1, .slice qa1 ma1 da1] 26)
      have HY1 := Lib.hid (rd_keep HBa1.out (rd_keep HBc0.out HRB.out))
      clear hba hra cc1
      go_wp2_with fail
      go_at_call 15; refine (HD1.out _ HY1.out).mono ?_; rintro e w1b ⟨hbb, Kb1, Ib1, Fb1, Sb1, qb1, mb1, db1, rfl, hrb⟩
      have HBb1 := Lib.hid (bel_alloc (bel_step HBa1.out hbb) (.cells #[.int .i64 Kb1, .int .i64 Ib1, .float .f64 Fb1, .string Sb1, .slice qb1 mb1 db1] 26))
      have HRb1 := Lib.hid (rep_keep ((Below.refl w1b.heap.size w1b).alloc (Nat.le_refl _) (.cells #[.int .i64 Kb1, .int .i64 Ib1, .float .f64 Fb1, .string Sb1, .slice qb1 mb1 db1] 26)) _ _ _ hrb)
      have HRc1 := Lib.hid (rep_keep ((Below.refl w1b.heap.size w1b).alloc (Nat.le_refl _) (.cells #[.int .i64 Kb1, .int .i64 Ib1, .float .f64 Fb1, .string Sb1, .slice qb1 mb1 db1] 26)) _ _ _ (rep_keep hbb _ _ _ HRa1.out))
      have RA1' := row_alloc_step (row_step RA1.out hbb) (.cells #[.int .i64 Kb1, .int .i64 Ib1, .float .f64 Fb1, .string Sb1, .slice qb1 mb1 db1] 26)
      have RB1' := row_alloc w1b #[.int .i64 Kb1, .int .i64 Ib1, .float .f64 Fb1, .string Sb1, .slice qb1 mb1 db1] 26
      have x0 := row_cell RA1' 0; have x1 := row_cell RA1' 1; have x2 := row_cell RA1' 2; have x3 := row_cell RA1' 3; have x4 := row_cell RA1' 4
      have y0 := row_cell RB1' 0; have y1 := row_cell RB1' 1; have y2 := row_cell RB1' 2; have y3 := row_cell RB1' 3; have y4 := row_cell RB1' 4
      simp only [List.getElem?_toArray, List.getElem?_cons_zero, List.getElem?_cons_succ] at x0 x1 x2 x3 x4 y0 y1 y2 y3 y4
      clear hbb hrb RA1' RB1'
      go_wp2_with fail
      go_at_call 16; refine (same_any _ _ _ _ _ HRc1.out HRb1.out).mono ?_; rintro e w1c ⟨rfl, hbc⟩
      have HBc1 := Lib.hid (bel_step HBb1.out hbc)
      clear hbc x0 x1 x2 x3 x4 y0 y1 y2 y3 y4
      go_wp2
      rw [rounds_succ]
      go_wp2
      go_ret
      exact ⟨rfl, bel_step (bel_step HB4.out HBc0.out) HBc1.out⟩
    · -- true
      have hS : (w3.setCell ⟨g, j, none⟩ (.int .u8 (y : Int))).heap.size = w3.heap.size := World.size_setCell _ _ _
      have hrow := row_alloc (w3.setCell ⟨g, j, none⟩ (.int .u8 (y : Int))) #[.slice r k f, .slice (some ⟨g, 0, none⟩) j c3] 22
      rw [hS] at hrow
      obtain ⟨W4, hW4⟩ : ∃ W4, (w3.setCell ⟨g, j, none⟩ (.int .u8 (y : Int))).alloc (.cells #[.slice r k f, .slice (some ⟨g, 0, none⟩) j c3] 22) = W4 := ⟨_, rfl⟩
      have HA4 := Lib.hid (show Below (w3.setCell ⟨g, j, none⟩ (.int .u8 (y : Int))).heap.size (w3.setCell ⟨g, j, none⟩ (.int .u8 (y : Int))) W4 from hW4 ▸ (Below.refl _ _).alloc (Nat.le_refl _) _)
      rw [hW4] at hrow
      rw [hW4]
      have HB4 := Lib.hid (bel_step (bel_step HB2.out (ow_bel HO4.out)) HA4.out)
      have HRR := Lib.hid (rd_keep HB4.out HR.out)
      have HRB := Lib.hid (show RdB W4 (some ⟨g, 0, none⟩) j c3 ((Z.set j (y : Int)).take j) from rd_keep HA4.out (rd_take (rd_of_ow HO4.out) (by omega)))
      have c0 : W4.cell? ⟨w3.heap.size, 0, none⟩ = some (.slice r k f) := by rw [row_cell hrow]; rfl
      have HK1 := Lib.hid (show W4.cell? ⟨w3.heap.size, 1, none⟩ = some (.slice (some ⟨g, 0, none⟩) j c3) by rw [row_cell hrow]; rfl)
      clear hrow hW4 hS
      refine wp_loop_rounds 3 ?_
      rw [rounds_succ]
      obtain ⟨o0, hq0⟩ : ∃ o, rdOut 4096 R = o := ⟨_, rfl⟩
      have HC0 := Lib.hid (fun (w : World) (h : RdB w r k f R) => pread_out 4096 w _ _ _ _ h HBR.out (by omega) (by omega) (by omega))
      have HD0 := Lib.hid (fun (w : World) (h : RdB w r k f R) => rread_out 4096 w _ _ _ _ h HBR.out (by omega) (by omega) (by omega))
      rw [hq0] at HC0 HD0
      obtain ⟨T0, J0, E0⟩ := o0
      clear hq0
      have cc0 := c0
      go_wp2_with fail
      go_at_call 14; refine (HC0.out _ (HRR.out)).mono ?_; rintro e w0a ⟨hba, Ka0, Ia0, Fa0, Sa0, qa0, ma0, da0, rfl, hra⟩
      have HBa0 := Lib.hid (bel_alloc hba (.cells #[.int .i64 Ka0, .int .i64 Ia0, .float .f64 Fa0, .string Sa0, .slice qa0 ma0 da0] 26))
      have HRa0 := Lib.hid (rep_keep ((Below.refl w0a.heap.size w0a).alloc (Nat.le_refl _) (.cells #[.int .i64 Ka0, .int .i64 Ia0, .float .f64 Fa0, .string Sa0, .slice qa0 ma0 da0] 26)) _ _ _ hra)
      have RA0 := Lib.hid (row_alloc w0a #[.int .i64 Ka0, .int .i64 Ia0, .float .f64 Fa0, .string Sa0, .slice qa0 ma0 da0] 26)
      have HY0 := Lib.hid (rd_keep HBa0.out (HRR.out))
      clear hba hra cc0
      go_wp2_with fail
      go_at_call 15; refine (HD0.out _ HY0.out).mono ?_; rintro e w0b ⟨hbb, Kb0, Ib0, Fb0, Sb0, qb0, mb0, db0, rfl, hrb⟩
      have HBb0 := Lib.hid (bel_alloc (bel_step HBa0.out hbb) (.cells #[.int .i64 Kb0, .int .i64 Ib0, .float .f64 Fb0, .string Sb0, .slice qb0 mb0 db0] 26))
      have HRb0 := Lib.hid (rep_keep ((Below.refl w0b.heap.size w0b).alloc (Nat.le_refl _) (.cells #[.int .i64 Kb0, .int .i64 Ib0, .float .f64 Fb0, .string Sb0, .slice qb0 mb0 db0] 26)) _ _ _ hrb)
      have HRc0 := Lib.hid (rep_keep ((Below.refl w0b.heap.size w0b).alloc (Nat.le_refl _) (.cells #[.int .i64 Kb0, .int .i64 Ib0, .float .f64 Fb0, .string Sb0, .slice qb0 mb0 db0] 26)) _ _ _ (rep_keep hbb _ _ _ HRa0.out))
      have RA0' := row_alloc_step (row_step RA0.out hbb) (.cells #[.int .i64 Kb0, .int .i64 Ib0, .float .f64 Fb0, .string Sb0, .slice qb0 mb0 db0] 26)
      have RB0' := row_alloc w0b #[.int .i64 Kb0, .int .i64 Ib0, .float .f64 Fb0, .string Sb0, .slice qb0 mb0 db0] 26
      have x0 := row_cell RA0' 0; have x1 := row_cell RA0' 1; have x2 := row_cell RA0' 2; have x3 := row_cell RA0' 3; have x4 := row_cell RA0' 4
      have y0 := row_cell RB0' 0; have y1 := row_cell RB0' 1; have y2 := row_cell RB0' 2; have y3 := row_cell RB0' 3; have y4 := row_cell RB0' 4
      simp only [List.getElem?_toArray, List.getElem?_cons_zero, List.getElem?_cons_succ] at x0 x1 x2 x3 x4 y0 y1 y2 y3 y4
      clear hbb hrb RA0' RB0'
      go_wp2_with fail
      go_at_call 16; refine (same_any _ _ _ _ _ HRc0.out HRb0.out).mono ?_; rintro e w0c ⟨rfl, hbc⟩
      have HBc0 := Lib.hid (bel_step HBb0.out hbc)
      clear hbc x0 x1 x2 x3 x4 y0 y1 y2 y3 y4
      go_wp2
      rw [rounds_succ]
      obtain ⟨o1, hq1⟩ : ∃ o, rdOut 4096 ((Z.set j (y : Int)).take j) = o := ⟨_, rfl⟩
      have HC1 := Lib.hid (fun (w : World) (h : RdB w (some ⟨g, 0, none⟩) j c3 ((Z.set j (y : Int)).take j)) => pread_out 4096 w _ _ _ _ h (by_take HY.out j) (by omega) (by omega) (by omega))
      have HD1 := Lib.hid (fun (w : World) (h : RdB w (some ⟨g, 0, none⟩) j c3 ((Z.set j (y : Int)).take j)) => rread_out 4096 w _ _ _ _ h (by_take HY.out j) (by omega) (by omega) (by omega))
      rw [hq1] at HC1 HD1
      obtain ⟨T1, J1, E1⟩ := o1
      clear hq1
      have cc1 := cell_keep HBc0.out HK1.out
      go_wp2_with fail
      go_at_call 14; refine (HC1.out _ (rd_keep HBc0.out HRB.out)).mono ?_; rintro e w1a ⟨hba, Ka1, Ia1, Fa1, Sa1, qa1, ma1, da1, rfl, hra⟩
      have HBa1 := Lib.hid (bel_alloc hba (.cells #[.int .i64 Ka1, .int .i64 Ia1, .float .f64 Fa1, .string Sa1, .slice qa1 ma1 da1] 26))
      have HRa1 := Lib.hid (rep_keep ((Below.refl w1a.heap.size w1a).alloc (Nat.le_refl _) (.cells #[.int .i64 Ka1, .int .i64 Ia1, .float .f64 Fa1, .string Sa1, .slice qa1 ma1 da1] 26)) _ _ _ hra)
      have RA1 := Lib.hid (row_alloc w1a #[.int .i64 Ka1, .int .i64 Ia1, .float .f64 Fa1, .string Sa1, .slice qa1 ma1 da1] 26)
      have HY1 := Lib.hid (rd_keep HBa1.out (rd_keep HBc0.out HRB.out))
      clear hba hra cc1
      go_wp2_with fail
      go_at_call 15; refine (HD1.out _ HY1.out).mono ?_; rintro e w1b ⟨hbb, Kb1, Ib1, Fb1, Sb1, qb1, mb1, db1, rfl, hrb⟩
      have HBb1 := Lib.hid (bel_alloc (bel_step HBa1.out hbb) (.cells #[.int .i64 Kb1, .int .i64 Ib1, .float .f64 Fb1, .string Sb1, .slice qb1 mb1 db1] 26))
      have HRb1 := Lib.hid (rep_keep ((Below.refl w1b.heap.size w1b).alloc (Nat.le_refl _) (.cells #[.int .i64 Kb1, .int .i64 Ib1, .float .f64 Fb1, .string Sb1, .slice qb1 mb1 db1] 26)) _ _ _ hrb)
      have HRc1 := Lib.hid (rep_keep ((Below.refl w1b.heap.size w1b).alloc (Nat.le_refl _) (.cells #[.int .i64 Kb1, .int .i64 Ib1, .float .f64 Fb1, .string Sb1, .slice qb1 mb1 db1] 26)) _ _ _ (rep_keep hbb _ _ _ HRa1.out))
      have RA1' := row_alloc_step (row_step RA1.out hbb) (.cells #[.int .i64 Kb1, .int .i64 Ib1, .float .f64 Fb1, .string Sb1, .slice qb1 mb1 db1] 26)
      have RB1' := row_alloc w1b #[.int .i64 Kb1, .int .i64 Ib1, .float .f64 Fb1, .string Sb1, .slice qb1 mb1 db1] 26
      have x0 := row_cell RA1' 0; have x1 := row_cell RA1' 1; have x2 := row_cell RA1' 2; have x3 := row_cell RA1' 3; have x4 := row_cell RA1' 4
      have y0 := row_cell RB1' 0; have y1 := row_cell RB1' 1; have y2 := row_cell RB1' 2; have y3 := row_cell RB1' 3; have y4 := row_cell RB1' 4
      simp only [List.getElem?_toArray, List.getElem?_cons_zero, List.getElem?_cons_succ] at x0 x1 x2 x3 x4 y0 y1 y2 y3 y4
      clear hbb hrb RA1' RB1'
      go_wp2_with fail
      go_at_call 16; refine (same_any _ _ _ _ _ HRc1.out HRb1.out).mono ?_; rintro e w1c ⟨rfl, hbc⟩
      have HBc1 := Lib.hid (bel_step HBb1.out hbc)
      clear hbc x0 x1 x2 x3 x4 y0 y1 y2 y3 y4
      go_wp2
      rw [rounds_succ]
      go_wp2
      go_ret
      exact ⟨rfl, bel_step (bel_step HB4.out HBc0.out) HBc1.out⟩
end Num
end Go.Proofs.Ythjjakpjanoamaa
