/-
  DedupApart: the walk.
-/
import Derived.Test.YtijfgmhdkflfmaaTb0
import Derived.Test.YtijfgmhdkflfmaaTc0
import Derived.Test.YtijfgmhdkflfmaaTe1
import Derived.Test.YtijfgmhdkflfmaaTe2
namespace Go.Proofs.Ytijfgmhdkflfmaa
open Go.RowKit
namespace Num
open Ints
set_option linter.unusedSimpArgs false
set_option linter.unusedVariables false
set_option maxRecDepth 100000 in
set_option maxHeartbeats 16000000 in
theorem apart_in (p : Option Addr) (l cc : Nat) (X : List Int) (a : Nat) (ha : a < 256) (w : World) (h : RdU w p l cc X) (hS : ShorU X) :
    Calls Try.prog 5 #[.slice p l cc, .int .u8 a] w fun e w' => e = .returned (.bool true) ∧ Below w.heap.size w w' := by
  obtain ⟨hl, hlc, hcm, hel⟩ := h
  unfold maxLen at hcm
  by_cases h80 : 80 < l
  · have g80 : (80 : Int) < (l : Int) := by omega
    go_enter Try.func5, Try.ntmps5
    go_wp2_with (go_at_call 6; refine (known16 _).mono ?_; rintro e w1 ⟨rfl, hb1⟩)
    go_ret
    exact ⟨rfl, hb1⟩
  · have g80 : ¬ ((80 : Int) < (l : Int)) := by omega
    obtain ⟨n, hn⟩ : ∃ n, a % 4 = n := ⟨_, rfl⟩
    have hnT : (a : Int).tmod 4 = (n : Int) := by rw [Int.tmod_eq_emod_of_nonneg (by omega)]; omega
    have hn4 : n < 4 := by omega
    have hwn : IntKind.u32.wrap (n : Int) = (n : Int) := by rw [IntKind.wrap_u32]; omega
    have HL := Lib.hid hl
    have HE := Lib.hid hel
    have HX := Lib.hid hS
    clear hl hel hS
    go_enter Try.func5, Try.ntmps5
    go_wp2_with fail
    go_at_call 6; refine (known16 _).mono ?_; rintro e w0 ⟨rfl, hb0⟩
    have HB0 := Lib.hid hb0
    clear hb0
    go_wp2_with fail
    go_at_call 7; refine (new_any 1 w0).mono ?_; rintro e w1 ⟨rfl, hb1, hs1, ht1⟩
    have HN1 := Lib.hid (And.intro hb1 (And.intro hs1 ht1))
    clear hb1 hs1 ht1
    obtain ⟨m1, hm1⟩ : ∃ m, w0.heap.size = m := ⟨_, rfl⟩
    rw [hm1] at HN1
    rw [hm1]
    go_wp2_with fail
    go_at_call 7; refine (new_any 1 w1).mono ?_; rintro e w2 ⟨rfl, hb2, hs2, ht2⟩
    obtain ⟨m2, hm2⟩ : ∃ m, w1.heap.size = m := ⟨_, rfl⟩
    have HAP := Lib.hid (show Ap w w2 (m1 + 2) m1 (m1 + 1) (m2 + 2) m2 (m2 + 1) (n : Int) 0 w2.heap.size from by
      obtain ⟨hb1, hs1, ht1⟩ := HN1.out
      have e0 := HB0.out.size
      rw [hm2] at hs2 ht2
      refine ⟨fun b => b = m1 ∨ b = m1 + 1, fun b => b = m2 ∨ b = m2 + 1, [], [], [], [], 1, 1, st_step (st_new ht1 (Or.inl rfl) (Or.inr rfl)) hb2, st_new ht2 (Or.inl rfl) (Or.inr rfl), fun b h1 h2 => by omega, fun b hb => by omega, by omega, rfl, fun s k => rfl, fun r hr => absurd hr (List.not_mem_nil), fun r hr => absurd hr (List.not_mem_nil), ?_⟩
      exact Below.trans (Below.trans HB0.out ((show Below m1 w0 w1 from by rw [← hm1]; rw [← hm1] at hb1; exact hb1).mono (by omega))) (hb2.mono (by omega)))
    rw [hm2]
    clear hb2 hs2 ht2 HN1
    go_wp2_with fail
    go_loopw [8] (fun iv wr => ∃ i g : Nat, i ≤ l ∧ iv = .int .i64 i ∧ Ap w wr (m1 + 2) m1 (m1 + 1) (m2 + 2) m2 (m2 + 1) (n : Int) i g) (fun iv _ => l - (intOf iv).toNat)
    case atStart => exact ⟨0, _, Nat.zero_le _, rfl, HAP.out⟩
    case round =>
      obtain ⟨i, g0, hil, rfl, hA⟩ := hrel
      by_cases hlt : i < l
      · have hiX : i < X.length := by rw [HL.out]; exact hlt
        obtain ⟨b, off, hp, hcx⟩ := HE.out (by omega)
        subst hp
        obtain ⟨x, hx⟩ : ∃ x, X[i] = x := ⟨_, rfl⟩
        have hxr := HX.out X[i] (List.getElem_mem hiX)
        have hbw := hA.choose_spec.choose_spec.choose_spec.choose_spec.choose_spec.choose_spec.choose_spec.choose_spec.2.2.2.2.2.2.2.2.2
        have hc := cell_keep hbw (hcx i hiX)
        rw [hx] at hxr hc
        obtain ⟨d1, hd1⟩ : ∃ d, x.tmod 4 = d := ⟨_, rfl⟩
        obtain ⟨q, hq⟩ : ∃ d, x.tdiv 4 = d := ⟨_, rfl⟩
        obtain ⟨d2, hd2⟩ : ∃ d, q.tmod 20 = d := ⟨_, rfl⟩
        have hd1r : 0 ≤ d1 ∧ d1 < 4 := by rw [← hd1, Int.tmod_eq_emod_of_nonneg hxr.1]; omega
        have hqr : 0 ≤ q ∧ q < 16384 := by rw [← hq, Int.tdiv_eq_ediv_of_nonneg hxr.1]; omega
        have hd2r : 0 ≤ d2 ∧ d2 < 20 := by rw [← hd2, Int.tmod_eq_emod_of_nonneg hqr.1]; omega
        have hqw : IntKind.u16.wrap q = q := by rw [IntKind.wrap_u16]; omega
        have hw1 : IntKind.u32.wrap d1 = d1 := by rw [IntKind.wrap_u32]; omega
        have hw2 : IntKind.u32.wrap d2 = d2 := by rw [IntKind.wrap_u32]; omega
        have hltI : (i : Int) < (l : Int) := by omega
        have hi0 : (0 : Int) ≤ (i : Int) := by omega
        have hIo : okI (i : Int) := by unfold okI; constructor <;> omega
        have HA := Lib.hid hA
        have HC := Lib.hid hc
        have HD := Lib.hid (And.intro hd1 (And.intro hq (And.intro hd2 (And.intro hw1 (And.intro hw2 hqw)))))
        clear hA hcx hx hxr hbw HAP hd1 hq hd2 hqw hw1 hw2 hd1r hqr hd2r
        have hbl : b < wr.heap.size := cell_lt hc
        clear hc
        go_upto_region 10 with fail
        refine ap10_any wr b off i l cc x d1 d2 q _ _ _ _ _ _ _ _ _ _ _ _ _ _ _ _ _ _ _ _ _ _ _ _ _ _ _ _ _ _ _ _ _ _ _ _ _ _ _ _ _ _ _ _ _ _ _ _ _ _ _ _ _ _ _ _ _ _ _ _ _ _ _ _ _ _ _ _ _ _ _ _ _ _ _ _ _ _ _ _ _ _ _ _ _ _ _ _ _ _ _ _ _ _ _ _ _ _ _ _ _ _ _ _ _ _ _ _ _ _ (fun _ _ d _ _ h => by cases d <;> exact h) HC.out hbl hi0 hltI HD.out.1 HD.out.2.1 HD.out.2.2.1 HD.out.2.2.2.1 HD.out.2.2.2.2.1 HD.out.2.2.2.2.2 ?_
        intro g w5 hcut
        obtain ⟨hrow, hbel, hgl⟩ := hcut
        have HA5 := Lib.hid (ap_new HA.out hbel hgl)
        have hgs := row_lt hrow
        have HR5 := Lib.hid hrow
        have hgw : w5.heap.size ≠ g := by omega
        clear HA HC HD hbl hbel hgl
        have c0 := row_cell hrow 0; have c1 := row_cell hrow 1; have c2 := row_cell hrow 2; have c3 := row_cell hrow 3; have c4 := row_cell hrow 4; have c5 := row_cell hrow 5; have c6 := row_cell hrow 6; have c7 := row_cell hrow 7; have c8 := row_cell hrow 8
        simp only [List.getElem?_toArray, List.getElem?_cons_zero, List.getElem?_cons_succ] at c0 c1 c2 c3 c4 c5 c6 c7 c8
        have cf := fun o => row_frz hrow o
        by_cases hdn : d1 = (n : Int)
        · subst hdn
          have HP := Lib.hid (ap_same (by omega) hgs HA5.out ((n : Int), d2, 0) (i : Int) hIo rfl)
          clear hrow
          go_wp2_with fail
          go_at_call 12; refine HP.out.mono ?_; rintro e w6 ⟨pa, rfl, hg6, hb6, hs6, hP2⟩
          have hr6 := hg6.trans HR5.out
          have HP2 := Lib.hid (hP2 w6 (Below.refl _ _))
          clear hP2 hb6 hs6 hg6 HP c0 c1 c2 c3 c4 c5 c6 c7 c8
          have c0 := row_cell hr6 0; have c1 := row_cell hr6 1; have c2 := row_cell hr6 2; have c3 := row_cell hr6 3; have c4 := row_cell hr6 4; have c5 := row_cell hr6 5; have c6 := row_cell hr6 6; have c7 := row_cell hr6 7; have c8 := row_cell hr6 8
          simp only [List.getElem?_toArray, List.getElem?_cons_zero, List.getElem?_cons_succ] at c0 c1 c2 c3 c4 c5 c6 c7 c8
          have hgl6 := row_lt hr6
          clear hr6
          go_wp2_with fail
          go_at_call 12; refine HP2.out.mono ?_; rintro e w7 ⟨rfl, hA7, hg7⟩
          have HA7 := Lib.hid hA7
          clear hA7 hg7 HP2
          go_wp2
          go_roundw
          case rel => exact ⟨i + 1, g, by omega, by go_num, HA7.out⟩
          case measure => simp [intOf]; omega
        · have HP := Lib.hid (ap_other (by omega) hgs HA5.out (d1, d2, 0) (i : Int) hIo hdn)
          have hdq : (d1 == (n : Int)) = false := by rw [beq_eq_false_iff_ne]; exact hdn
          clear hrow
          go_wp2_with fail
          go_at_call 12; refine HP.out.mono ?_; rintro e w6 ⟨pa, rfl, hA6, hg6⟩
          have hr6 := hg6.trans HR5.out
          have HA6 := Lib.hid hA6
          clear hA6 hg6 HP c0 c1 c2 c3 c4 c5 c6 c7 c8
          have c0 := row_cell hr6 0; have c1 := row_cell hr6 1; have c2 := row_cell hr6 2; have c3 := row_cell hr6 3; have c4 := row_cell hr6 4; have c5 := row_cell hr6 5; have c6 := row_cell hr6 6; have c7 := row_cell hr6 7; have c8 := row_cell hr6 8
          simp only [List.getElem?_toArray, List.getElem?_cons_zero, List.getElem?_cons_succ] at c0 c1 c2 c3 c4 c5 c6 c7 c8
          have hgl6 := row_lt hr6
          clear hr6
          go_wp2
          go_roundw
          case rel => exact ⟨i + 1, g, by omega, by go_num, HA6.out⟩
          case measure => simp [intOf]; omega
      · obtain rfl : i = l := by omega
        have hltI : ¬ ((i : Int) < (i : Int)) := by omega
        have HA := Lib.hid hA
        clear hA HAP HE HX
        go_wp2_with fail
        go_loopw [11] (fun sv wz => ∃ s g : Nat, s ≤ 21 ∧ sv = .int .u32 s ∧ Ap w wz (m1 + 2) m1 (m1 + 1) (m2 + 2) m2 (m2 + 1) (n : Int) i g) (fun sv _ => 21 - (intOf sv).toNat)
        case atStart => exact ⟨0, _, by omega, rfl, HA.out⟩
        case round =>
          obtain ⟨s, g1, hs21, rfl, hA⟩ := hrel
          by_cases hsl : s < 21
          · have hslI : (s : Int) < 21 := by omega
            obtain ⟨ok, er, I, hL1, hL2⟩ := ap_look hA (s : Int)
            have HA1 := Lib.hid hA
            have HL1 := Lib.hid (hL1 wr (Below.refl _ _))
            have HL2 := Lib.hid hL2
            clear hA hL1 hL2 HA
            go_wp2_with fail
            go_at_call 9; refine HL1.out.mono ?_; rintro e w5 ⟨ra, rfl, hIa, hb5⟩
            obtain ⟨⟨j1a, j2a, j3a⟩, era, Ka, Ia, Fa, Sa, qa, ma, da, Ta⟩ := ra
            simp only at hIa
            replace hIa := hIa.symm
            subst hIa
            obtain ⟨ga, hga⟩ : ∃ g, w5.heap.size = g := ⟨_, rfl⟩
            obtain ⟨za, hza⟩ : ∃ W, w5.alloc (.cells #[.int .u32 0, .int .u32 0, .int .u16 0, .int .i64 0, .int .i64 0, .int .i64 0, .float .f64 0, .string ⟨#[]⟩, .slice none 0 0] 43) = W := ⟨_, rfl⟩
            have hVa : za.heap[ga]? = some (.cells #[.int .u32 0, .int .u32 0, .int .u16 0, .int .i64 0, .int .i64 0, .int .i64 0, .float .f64 0, .string ⟨#[]⟩, .slice none 0 0] 43 (0, 0)) := by rw [← hza, ← hga]; exact row_alloc w5 _ _
            obtain ⟨ya, hya⟩ : ∃ y, set9 za ga (.int .u32 j1a) (.int .u32 j2a) (.int .u16 j3a) (.int .i64 era) (.int .i64 Ka) (.int .i64 I) (.float .f64 Fa) (.string Sa) (.slice qa ma da) = y := ⟨_, rfl⟩
            have hbYa : Below w5.heap.size w5 ya := by rw [← hya, hga]; exact set9_below (by rw [← hza, ← hga]; exact (Below.refl _ _).alloc (Nat.le_refl _) _) (Nat.le_refl _) (.int .u32 j1a) (.int .u32 j2a) (.int .u16 j3a) (.int .i64 era) (.int .i64 Ka) (.int .i64 I) (.float .f64 Fa) (.string Sa) (.slice qa ma da)
            have hyVa : ya.heap[ga]? = some (.cells #[.int .u32 j1a, .int .u32 j2a, .int .u16 j3a, .int .i64 era, .int .i64 Ka, .int .i64 I, .float .f64 Fa, .string Sa, .slice qa ma da] 43 (0, 0)) := by rw [← hya]; exact set9_at hVa (.int .u32 j1a) (.int .u32 j2a) (.int .u16 j3a) (.int .i64 era) (.int .i64 Ka) (.int .i64 I) (.float .f64 Fa) (.string Sa) (.slice qa ma da)
            have va0 := row_cell hVa 0; have va1 := row_cell hVa 1; have va2 := row_cell hVa 2; have va3 := row_cell hVa 3; have va4 := row_cell hVa 4; have va5 := row_cell hVa 5; have va6 := row_cell hVa 6; have va7 := row_cell hVa 7; have va8 := row_cell hVa 8
            simp only [List.getElem?_toArray, List.getElem?_cons_zero, List.getElem?_cons_succ] at va0 va1 va2 va3 va4 va5 va6 va7 va8
            have vfa := fun o => row_frz hVa o
            have HYa := Lib.hid hya
            have HB5 := Lib.hid (Below.trans hb5 (hbYa.mono hb5.size))
            have HVa := Lib.hid hyVa
            have HL3 := Lib.hid (HL2.out ya HB5.out)
            clear hVa hya hbYa hyVa hb5 HL1 HL2
            go_wp2_with fail
            try clear hza
            rw [show ((((((((((za).setCell ⟨ga, 0, none⟩ (.int .u32 j1a)).setCell ⟨ga, 1, none⟩ (.int .u32 j2a)).setCell ⟨ga, 2, none⟩ (.int .u16 j3a)).setCell ⟨ga, 3, none⟩ (.int .i64 era)).setCell ⟨ga, 4, none⟩ (.int .i64 Ka)).setCell ⟨ga, 5, none⟩ (.int .i64 I)).setCell ⟨ga, 6, none⟩ (.float .f64 Fa)).setCell ⟨ga, 7, none⟩ (.string Sa)).setCell ⟨ga, 8, none⟩ (.slice qa ma da)) = ya from HYa.out]
            clear va0 va1 va2 va3 va4 va5 va6 va7 va8 vfa HYa
            go_at_call 9; refine HL3.out.mono ?_; rintro e w7 ⟨rb, rfl, hIb, hb7⟩
            obtain ⟨⟨j1b, j2b, j3b⟩, erb, Kb, Ib, Fb, Sb, qb, mb, db, Tb⟩ := rb
            simp only at hIb
            replace hIb := hIb.symm
            subst hIb
            obtain ⟨gb, hgb⟩ : ∃ g, w7.heap.size = g := ⟨_, rfl⟩
            obtain ⟨zb, hzb⟩ : ∃ W, w7.alloc (.cells #[.int .u32 0, .int .u32 0, .int .u16 0, .int .i64 0, .int .i64 0, .int .i64 0, .float .f64 0, .string ⟨#[]⟩, .slice none 0 0] 43) = W := ⟨_, rfl⟩
            have hVb : zb.heap[gb]? = some (.cells #[.int .u32 0, .int .u32 0, .int .u16 0, .int .i64 0, .int .i64 0, .int .i64 0, .float .f64 0, .string ⟨#[]⟩, .slice none 0 0] 43 (0, 0)) := by rw [← hzb, ← hgb]; exact row_alloc w7 _ _
            obtain ⟨yb, hyb⟩ : ∃ y, set9 zb gb (.int .u32 j1b) (.int .u32 j2b) (.int .u16 j3b) (.int .i64 erb) (.int .i64 Kb) (.int .i64 I) (.float .f64 Fb) (.string Sb) (.slice qb mb db) = y := ⟨_, rfl⟩
            have hbYb : Below w7.heap.size w7 yb := by rw [← hyb, hgb]; exact set9_below (by rw [← hzb, ← hgb]; exact (Below.refl _ _).alloc (Nat.le_refl _) _) (Nat.le_refl _) (.int .u32 j1b) (.int .u32 j2b) (.int .u16 j3b) (.int .i64 erb) (.int .i64 Kb) (.int .i64 I) (.float .f64 Fb) (.string Sb) (.slice qb mb db)
            have hyVb : yb.heap[gb]? = some (.cells #[.int .u32 j1b, .int .u32 j2b, .int .u16 j3b, .int .i64 erb, .int .i64 Kb, .int .i64 I, .float .f64 Fb, .string Sb, .slice qb mb db] 43 (0, 0)) := by rw [← hyb]; exact set9_at hVb (.int .u32 j1b) (.int .u32 j2b) (.int .u16 j3b) (.int .i64 erb) (.int .i64 Kb) (.int .i64 I) (.float .f64 Fb) (.string Sb) (.slice qb mb db)
            have vb0 := row_cell hVb 0; have vb1 := row_cell hVb 1; have vb2 := row_cell hVb 2; have vb3 := row_cell hVb 3; have vb4 := row_cell hVb 4; have vb5 := row_cell hVb 5; have vb6 := row_cell hVb 6; have vb7 := row_cell hVb 7; have vb8 := row_cell hVb 8
            simp only [List.getElem?_toArray, List.getElem?_cons_zero, List.getElem?_cons_succ] at vb0 vb1 vb2 vb3 vb4 vb5 vb6 vb7 vb8
            have vfb := fun o => row_frz hVb o
            have HYb := Lib.hid hyb
            have hca := row_step HVa.out (Below.trans hb7 (hbYb.mono hb7.size))
            have hltA := row_lt (row_step HVa.out hb7)
            have hneA : ga ≠ gb := by omega
            have ca5 := row_cell (row_step HVa.out hb7) 5
            have cb5 := row_cell hyVb 5
            have ca5y := row_cell hca 5
            simp only [List.getElem?_toArray, List.getElem?_cons_zero, List.getElem?_cons_succ] at ca5 cb5 ca5y
            have HB7 := Lib.hid (Below.trans HB5.out ((Below.trans hb7 (hbYb.mono hb7.size)).mono HB5.out.size))
            clear hVb hyb hbYb hyVb hb7 HL3
            go_upto_region 19 with fail
            try clear hzb
            rw [show ((((((((((zb).setCell ⟨gb, 0, none⟩ (.int .u32 j1b)).setCell ⟨gb, 1, none⟩ (.int .u32 j2b)).setCell ⟨gb, 2, none⟩ (.int .u16 j3b)).setCell ⟨gb, 3, none⟩ (.int .i64 erb)).setCell ⟨gb, 4, none⟩ (.int .i64 Kb)).setCell ⟨gb, 5, none⟩ (.int .i64 I)).setCell ⟨gb, 6, none⟩ (.float .f64 Fb)).setCell ⟨gb, 7, none⟩ (.string Sb)).setCell ⟨gb, 8, none⟩ (.slice qb mb db)) = yb from HYb.out]
            clear vb0 vb1 vb2 vb3 vb4 vb5 vb6 vb7 vb8 vfb HYb ca5
            have HA7 := Lib.hid (ap_step HA1.out HB7.out (Nat.le_refl _))
            clear HA1 HB7 HB5 HVa hca hltA hneA hga hgb
            go_wp2
            go_roundw
            case rel => exact ⟨s + 1, g1, by omega, by go_num, HA7.out⟩
            case measure => simp [intOf]; omega
          · have hsl' : s = 21 := by omega
            subst hsl'
            have HB2 := Lib.hid hA.choose_spec.choose_spec.choose_spec.choose_spec.choose_spec.choose_spec.choose_spec.choose_spec.2.2.2.2.2.2.2.2.2
            have hRT := row_alloc wr #[.slice none 0 0] 29
            obtain ⟨wt, hwt⟩ : ∃ W, wr.alloc (.cells #[.slice none 0 0] 29) = W := ⟨_, rfl⟩
            rw [hwt] at hRT
            have HBT := Lib.hid (show Below w.heap.size w wt from by rw [← hwt]; exact bel_alloc HB2.out _)
            have HRT := Lib.hid hRT
            have HSZ := Lib.hid HB2.out.size
            clear hRT hA HA
            go_wp2_with fail
            go_at_call 13; refine (rput_nil wt wr.heap.size HRT.out).mono ?_; rintro e w8 ⟨rfl, hb8⟩
            have HBE := Lib.hid (Below.trans HBT.out (hb8 _ HSZ.out))
            clear hb8 hwt
            go_wp2
            go_ret
            exact ⟨rfl, HBE.out⟩
end Num
end Go.Proofs.Ytijfgmhdkflfmaa
