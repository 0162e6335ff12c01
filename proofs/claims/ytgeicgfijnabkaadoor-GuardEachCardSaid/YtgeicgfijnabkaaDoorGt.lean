/-
  GuardEach: the walk.
-/
import Derived.Test.YtgeicgfijnabkaaDoorGx
import Derived.Test.YtgeicgfijnabkaaDoorGu
import Derived.Test.YtgeicgfijnabkaaDoorRT
namespace Go.Proofs.YtgeicgfijnabkaaDoor
open Go.RowKit
namespace Num
open Ints
set_option linter.unusedSimpArgs false
set_option linter.unusedVariables false
set_option maxRecDepth 100000 in
set_option maxHeartbeats 4000000 in
theorem each_great (p : Option Addr) (l c : Nat) (X : List Int) (w : World) (hl : (30 : Int) < (l : Int)) : Calls Tryd.prog 4 #[.slice p l c] w fun e w' => e = .returned (.bool true) ∧ Below w.heap.size w w' := by
  go_enter Tryd.func4, Tryd.ntmps4
  go_wp2_with fail
  go_at_call 7; refine (known_any _).mono ?_; rintro e w1 ⟨rfl, hb1⟩
  have HB1 := Lib.hid hb1
  clear hb1
  go_wp2
  go_ret
  exact ⟨rfl, HB1.out⟩
set_option maxRecDepth 100000 in
set_option maxHeartbeats 4000000 in
theorem each_law (p : Option Addr) (l c : Nat) (X : List Int) (jb : Nat) (w0 : Int) (w : World) (hl : l ≤ 30) (hrd : RdB w p l c X) (hby : ∀ x ∈ X, 0 ≤ x ∧ x < 256) (hjb : jb ≤ l) (hlo : ∀ j (h : j < X.length), j < jb → X[j] < 220) (hbad : ∀ h : jb < X.length, 220 ≤ X[jb] ∧ w0 = wantOf X[jb]) :
    Calls Tryd.prog 4 #[.slice p l c] w fun e w' => e = .returned (.bool true) ∧ Below w.heap.size w w' := by
  obtain ⟨hXl, hlc, hcm, hel, _⟩ := hrd
  unfold maxLen at hcm
  have HEL := Lib.hid hel
  have HXL := Lib.hid hXl
  have HLO := Lib.hid hlo
  have HBAD := Lib.hid hbad
  have HBY := Lib.hid hby
  have hl2 : (l : Int) ≤ 30 := by omega
  clear hel hXl hlo hbad hby
  go_enter Tryd.func4, Tryd.ntmps4
  go_wp2_with fail
  go_at_call 7; refine (known_any _).mono ?_; rintro e w1 ⟨rfl, hb1⟩
  have HB1 := Lib.hid hb1
  clear hb1
  have HBW := Lib.hid (bel_alloc HB1.out (.cells #[.int .i64 0] 3))
  have HW1 := Lib.hid (show w.heap.size ≤ (w1.alloc (.cells #[.int .i64 0] 3)).heap.size by rw [World.size_alloc]; have := HB1.out.size; omega)
  have HS1 := Lib.hid (show (w1.alloc (.cells #[.int .i64 0] 3)).heap.size = w1.heap.size + 1 from World.size_alloc _ _)
  have HRR := Lib.hid (row_alloc w1 #[.int .i64 0] 3)
  go_wp2
  go_loopw [4, 5, 6, 7] (fun fv wv cv iv wr => ∃ (k : Nat) (q : Option Addr) (dd : Nat) (x y : Int), k ≤ l ∧ iv = .int .i64 (k : Int) ∧ fv = .slice q k dd ∧ wv = .int .i64 x ∧ cv = .int .i64 y ∧ x = wAt jb w0 k ∧ y = cAt jb k ∧ OwF (w1.alloc (.cells #[.int .i64 0] 3)) wr w1.heap.size q k dd X) (fun _ _ _ iv _ => l - (intOf iv).toNat)
  case atStart => exact ⟨0, none, 0, _, _, Nat.zero_le _, rfl, rfl, rfl, rfl, (wAt_le (Nat.zero_le _)).symm, (cAt_le (Nat.zero_le _)).symm, of_nil _ _ _⟩
  case round =>
    obtain ⟨k, q, dd, x, y, hk, rfl, rfl, rfl, rfl, hx, hy, ho⟩ := hrel
    have HO := Lib.hid ho
    have HBwr := Lib.hid (HBW.out.trans ((of_bel ho).mono HW1.out))
    clear ho
    by_cases hlt : k < l
    · obtain ⟨b, off, hp, hi⟩ := HEL.out (by omega)
      subst hp
      have hkX : k < X.length := by have := HXL.out; omega
      have e00 := hi k hkX
      have e0 := cell_keep HBwr.out e00
      have HCELL := Lib.hid (fun W (hb : Below (w1.alloc (.cells #[.int .i64 0] 3)).heap.size (w1.alloc (.cells #[.int .i64 0] 3)) W) => cell_keep (HBW.out.trans (hb.mono HW1.out)) e00)
      have HRlt := Lib.hid (show w1.heap.size < wr.heap.size by have := (of_bel HO.out).size; have := HS1.out; omega)
      have hby0 := (HBY.out _ (List.getElem_mem hkX)).1
      have hby1 := (HBY.out _ (List.getElem_mem hkX)).2
      have hk0 : (0 : Int) ≤ (k : Int) := by omega
      have hk1 : (k : Int) < (l : Int) := by omega
      clear hi e00
      rcases Nat.lt_trichotomy k jb with hc | hc | hc
      · rw [wAt_le (by omega)] at hx
        rw [cAt_le (by omega)] at hy
        subst hx hy
        have h220 := HLO.out k hkX hc
        have h240 : X[k] < 240 := by omega
        go_wp2_with fail
        go_at_call 14; refine (one_row w1.heap.size (X[k]) (k : Nat) wr).mono ?_; rintro e w5 ⟨b0, b1, b2, rfl, hb5, ⟨m0, m1, m2⟩, g0, g1, g2⟩
        have HOW := Lib.hid (of_keep HO.out hb5)
        have HBL := Lib.hid (of_blk HO.out)
        have HN := Lib.hid (show b0 ≠ w1.heap.size ∧ b1 ≠ w1.heap.size ∧ b2 ≠ w1.heap.size by have := HRlt.out; exact ⟨by omega, by omega, by omega⟩)
        have HG := Lib.hid (And.intro g0 (And.intro g1 g2))
        have HM := Lib.hid (And.intro m0 (And.intro m1 m2))
        clear hb5 m0 m1 m2 g0 g1 g2 e0 HO HBwr
        go_wp2_with (at_builtin; refine wp_of1 rfl _ _ rfl (w1.alloc (.cells #[.int .i64 0] 3)) w5 w1.heap.size q k dd X b0 b1 b2 rfl rfl HOW.out (by omega) hkX ⟨HG.out.1, HG.out.2.1, HG.out.2.2, HN.out.1, HN.out.2.1, HN.out.2.2⟩ ⟨HBL.out _ HM.out.1, HBL.out _ HM.out.2.1, HBL.out _ HM.out.2.2⟩ ?_; intro p2 c2 w2 ho2; have HO2 := Lib.hid ho2; have e2 := HCELL.out w2 (of_bel ho2); clear ho2)
        go_wp2
        go_roundw
        case rel => exact ⟨k + 1, p2, c2, _, _, by omega, by go_num, rfl, rfl, rfl, (wAt_le (by omega)).symm, by rw [cAt_le (by omega)]; omega, HO2.out⟩
        case measure => simp [intOf]; omega
      · obtain rfl : k = jb := hc
        rw [wAt_le (by omega)] at hx
        rw [cAt_le (by omega)] at hy
        subst hx hy
        obtain ⟨h220, hw0⟩ := HBAD.out hkX
        by_cases h240 : 240 ≤ X[k]
        · have HWO := Lib.hid (show (34 : Int) = w0 by rw [hw0]; unfold wantOf; rw [if_pos h240])
          clear hw0
          go_wp2_with fail
          go_at_call 14; refine (one_row w1.heap.size (X[k]) (k : Nat) wr).mono ?_; rintro e w5 ⟨b0, b1, b2, rfl, hb5, ⟨m0, m1, m2⟩, g0, g1, g2⟩
          have HOW := Lib.hid (of_keep HO.out hb5)
          have HBL := Lib.hid (of_blk HO.out)
          have HN := Lib.hid (show b0 ≠ w1.heap.size ∧ b1 ≠ w1.heap.size ∧ b2 ≠ w1.heap.size by have := HRlt.out; exact ⟨by omega, by omega, by omega⟩)
          have HG := Lib.hid (And.intro g0 (And.intro g1 g2))
          have HM := Lib.hid (And.intro m0 (And.intro m1 m2))
          clear hb5 m0 m1 m2 g0 g1 g2 e0 HO HBwr
          go_wp2_with (at_builtin; refine wp_of1 rfl _ _ rfl (w1.alloc (.cells #[.int .i64 0] 3)) w5 w1.heap.size q k dd X b0 b1 b2 rfl rfl HOW.out (by omega) hkX ⟨HG.out.1, HG.out.2.1, HG.out.2.2, HN.out.1, HN.out.2.1, HN.out.2.2⟩ ⟨HBL.out _ HM.out.1, HBL.out _ HM.out.2.1, HBL.out _ HM.out.2.2⟩ ?_; intro p2 c2 w2 ho2; have HO2 := Lib.hid ho2; have e2 := HCELL.out w2 (of_bel ho2); clear ho2)
          go_wp2
          go_roundw
          case rel => exact ⟨k + 1, p2, c2, _, _, by omega, by go_num, rfl, rfl, rfl, by rw [wAt_gt (by omega)]; exact HWO.out, by rw [cAt_gt (by omega)]; omega, HO2.out⟩
          case measure => simp [intOf]; omega
        · have h240' : X[k] < 240 := by omega
          have HWO := Lib.hid (show X[k] = w0 by rw [hw0]; unfold wantOf; rw [if_neg h240])
          clear hw0 h240
          go_wp2_with fail
          go_at_call 14; refine (one_row w1.heap.size (X[k]) (k : Nat) wr).mono ?_; rintro e w5 ⟨b0, b1, b2, rfl, hb5, ⟨m0, m1, m2⟩, g0, g1, g2⟩
          have HOW := Lib.hid (of_keep HO.out hb5)
          have HBL := Lib.hid (of_blk HO.out)
          have HN := Lib.hid (show b0 ≠ w1.heap.size ∧ b1 ≠ w1.heap.size ∧ b2 ≠ w1.heap.size by have := HRlt.out; exact ⟨by omega, by omega, by omega⟩)
          have HG := Lib.hid (And.intro g0 (And.intro g1 g2))
          have HM := Lib.hid (And.intro m0 (And.intro m1 m2))
          clear hb5 m0 m1 m2 g0 g1 g2 e0 HO HBwr
          go_wp2_with (at_builtin; refine wp_of1 rfl _ _ rfl (w1.alloc (.cells #[.int .i64 0] 3)) w5 w1.heap.size q k dd X b0 b1 b2 rfl rfl HOW.out (by omega) hkX ⟨HG.out.1, HG.out.2.1, HG.out.2.2, HN.out.1, HN.out.2.1, HN.out.2.2⟩ ⟨HBL.out _ HM.out.1, HBL.out _ HM.out.2.1, HBL.out _ HM.out.2.2⟩ ?_; intro p2 c2 w2 ho2; have HO2 := Lib.hid ho2; have e2 := HCELL.out w2 (of_bel ho2); clear ho2)
          go_wp2
          go_roundw
          case rel => exact ⟨k + 1, p2, c2, _, _, by omega, by go_num, rfl, rfl, rfl, by rw [wAt_gt (by omega)]; exact HWO.out, by rw [cAt_gt (by omega)]; omega, HO2.out⟩
          case measure => simp [intOf]; omega
      · rw [wAt_gt hc] at hx
        rw [cAt_gt hc] at hy
        subst hx hy
        have hjX : jb < X.length := by omega
        have hne : (x == 0) = false := by rw [(HBAD.out hjX).2]; exact wantOf_ne (HBAD.out hjX).1
        go_wp2_with fail
        go_at_call 14; refine (one_row w1.heap.size (X[k]) (k : Nat) wr).mono ?_; rintro e w5 ⟨b0, b1, b2, rfl, hb5, ⟨m0, m1, m2⟩, g0, g1, g2⟩
        have HOW := Lib.hid (of_keep HO.out hb5)
        have HBL := Lib.hid (of_blk HO.out)
        have HN := Lib.hid (show b0 ≠ w1.heap.size ∧ b1 ≠ w1.heap.size ∧ b2 ≠ w1.heap.size by have := HRlt.out; exact ⟨by omega, by omega, by omega⟩)
        have HG := Lib.hid (And.intro g0 (And.intro g1 g2))
        have HM := Lib.hid (And.intro m0 (And.intro m1 m2))
        clear hb5 m0 m1 m2 g0 g1 g2 e0 HO HBwr
        go_wp2_with (at_builtin; refine wp_of1 rfl _ _ rfl (w1.alloc (.cells #[.int .i64 0] 3)) w5 w1.heap.size q k dd X b0 b1 b2 rfl rfl HOW.out (by omega) hkX ⟨HG.out.1, HG.out.2.1, HG.out.2.2, HN.out.1, HN.out.2.1, HN.out.2.2⟩ ⟨HBL.out _ HM.out.1, HBL.out _ HM.out.2.1, HBL.out _ HM.out.2.2⟩ ?_; intro p2 c2 w2 ho2; have HO2 := Lib.hid ho2; have e2 := HCELL.out w2 (of_bel ho2); clear ho2)
        go_wp2
        go_roundw
        case rel => exact ⟨k + 1, p2, c2, _, _, by omega, by go_num, rfl, rfl, rfl, (wAt_gt (by omega)).symm, (cAt_gt (by omega)).symm, HO2.out⟩
        case measure => simp [intOf]; omega
    · obtain rfl : k = l := by omega
      have hRl := of_bel HO.out
      have rr := row_keep hRl HRR.out (by rw [HS1.out]; omega)
      have HFU := Lib.hid (of_funs HO.out (by rw [HS1.out]; omega) HXL.out)
      have HRlt := Lib.hid (row_lt rr)
      have hjL := HXL.out
      by_cases hg : jb = k
      · rw [wAt_le (by omega)] at hx
        rw [cAt_le (by omega)] at hy
        subst hx hy
        have HE := Lib.hid (each_good w1.heap.size k q dd X jb wr hl HFU.out rr HLO.out hg)
        clear hRl rr HFU
        go_wp2_with fail
        go_at_call 15; refine HE.out.mono ?_; rintro e w5 ⟨q2, d2, rfl, hoe, hr5⟩
        have cr := row_cell hr5 0
        simp only [List.getElem?_toArray, List.getElem?_cons_zero] at cr
        have HB5 := Lib.hid (HBwr.out.trans (kept_bel (oe_form hoe) (fun b hb => by rw [List.mem_singleton] at hb; subst hb; exact HB1.out.size) HBwr.out.size))
        have HOE := Lib.hid (fun h0 => oe_read hoe h0)
        clear hoe hr5 HE HO HBwr HRR
        go_wp2
        go_loopw [10] (fun iv W => ∃ i : Nat, i ≤ k ∧ iv = .int .i64 (i : Int) ∧ W = w5) (fun iv _ => k - (intOf iv).toNat)
        case atStart => exact ⟨0, Nat.zero_le _, rfl, rfl⟩
        case round =>
          obtain ⟨i, hi, rfl, rfl⟩ := hrel
          by_cases hlt2 : i < k
          · obtain ⟨g, hq, hcell⟩ := HOE.out (by omega)
            subst hq
            have ci := hcell i hlt2
            have hi0 : (0 : Int) ≤ (i : Int) := by omega
            have hi1 : (i : Int) < (k : Int) := by omega
            clear hcell
            go_wp2
            go_roundw
            case rel => exact ⟨i + 1, by omega, by go_num, trivial⟩
            case measure => simp [intOf]; omega
          · obtain rfl : i = k := by omega
            go_wp2
            go_ret
            exact ⟨rfl, HB5.out⟩
      · rw [wAt_gt (by omega)] at hx
        rw [cAt_gt (by omega)] at hy
        have hjX : jb < X.length := by omega
        obtain ⟨h220, hw0⟩ := HBAD.out hjX
        subst hx hy hw0
        have HE := Lib.hid (each_bad w1.heap.size k q dd X jb wr hl HFU.out rr HLO.out (by omega) hjX h220)
        have hne := wantOf_ne h220
        clear hRl rr HFU
        go_wp2_with fail
        go_at_call 15; refine HE.out.mono ?_; rintro e w5 ⟨rfl, hk5, hr5⟩
        have cr := row_cell hr5 0
        simp only [List.getElem?_toArray, List.getElem?_cons_zero] at cr
        have HB5 := Lib.hid (HBwr.out.trans (kept_bel hk5 (fun b hb => by rw [List.mem_singleton] at hb; subst hb; exact HB1.out.size) HBwr.out.size))
        clear hk5 hr5 HE HO HBwr HRR
        go_wp2
        go_ret
        exact ⟨rfl, HB5.out⟩
end Num
end Go.Proofs.YtgeicgfijnabkaaDoor
