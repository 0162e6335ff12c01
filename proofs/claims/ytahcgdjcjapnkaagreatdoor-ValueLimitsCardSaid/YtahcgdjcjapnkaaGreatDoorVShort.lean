/-
  The shortest decimal of a float (internal/strconv.shortFloat): its digits as one number, and its power of ten.
-/
import Derived.Test.YtahcgdjcjapnkaaGreatDoorVScale
namespace Go.Proofs.YtahcgdjcjapnkaaGreatDoor
open Go.RowKit
namespace Num
open Ints
set_option linter.unusedSimpArgs false
set_option linter.unusedVariables false
theorem ceil_bd (u : Int) : 0 ≤ ceilU u ∧ ceilU u ≤ 4611686018427387903 := by unfold ceilU; rw [IntKind.wrap_u64]; omega
theorem floor_bd (u : Int) : 0 ≤ floorU u ∧ floorU u ≤ 4611686018427387903 := by unfold floorU; rw [IntKind.wrap_u64]; omega
theorem round_bd (u : Int) : 0 ≤ roundU u ∧ roundU u ≤ 4611686018427387903 := by unfold roundU; rw [IntKind.wrap_u64 (IntKind.u64.wrap (u + 1) + _)]; omega
theorem l10p_bd (x : Int) (h1 : -1100 ≤ x) (h2 : x ≤ 1100) : -332 ≤ l10p x ∧ l10p x ≤ 331 := by
  unfold l10p
  have e : wrap64 (x * 78913) = x * 78913 := by unfold wrap64; omega
  rw [e]; omega
theorem skw_bd (x : Int) (h1 : -1100 ≤ x) (h2 : x ≤ 1100) : -332 ≤ skw x ∧ skw x ≤ 331 := by
  unfold skw
  have e : wrap64 (x * 631305) = x * 631305 := by unfold wrap64; omega
  have e2 : wrap64 (x * 631305 - 261663) = x * 631305 - 261663 := by unfold wrap64; omega
  rw [e, e2]; omega
def oddM (m : Nat) (D : Int) : Int := bits BinOp.and IntKind.i64 ((m : Int) / D) 1
/-- The shortest decimal, out of the power p, the bounds mn and mx, and whether the mantissa is odd. -/
def sfT (m : Nat) (e p mn mx odd : Int) : Int × Int :=
  if ceilU (nudgeU (uscaleU mn.toNat (powHi (p + 348).toNat) (powLo (p + 348).toNat) (preS e p (l2p p))) odd) ≤ floorU (nudgeU (uscaleU mx.toNat (powHi (p + 348).toNat) (powLo (p + 348).toNat) (preS e p (l2p p))) (wrap64 (-odd))) / 10 * 10
  then (floorU (nudgeU (uscaleU mx.toNat (powHi (p + 348).toNat) (powLo (p + 348).toNat) (preS e p (l2p p))) (wrap64 (-odd))) / 10, -(p - 1))
  else if ceilU (nudgeU (uscaleU mn.toNat (powHi (p + 348).toNat) (powLo (p + 348).toNat) (preS e p (l2p p))) odd) < floorU (nudgeU (uscaleU mx.toNat (powHi (p + 348).toNat) (powLo (p + 348).toNat) (preS e p (l2p p))) (wrap64 (-odd)))
  then (roundU (uscaleU m (powHi (p + 348).toNat) (powLo (p + 348).toNat) (preS e p (l2p p))), -p)
  else (ceilU (nudgeU (uscaleU mn.toNat (powHi (p + 348).toNat) (powLo (p + 348).toNat) (preS e p (l2p p))) odd), -p)
theorem sfT_eq (m : Nat) (e p : Int) (mn mx : Nat) (od : Int) (i PH PL : Nat) (S dmin dmax : Int) (hi : (p + 348).toNat = i) (h1 : powHi i = PH) (h2 : powLo i = PL) (h3 : preS e p (l2p p) = S) (h4 : ceilU (nudgeU (uscaleU mn PH PL S) od) = dmin) (h5 : floorU (nudgeU (uscaleU mx PH PL S) (wrap64 (-od))) = dmax) :
    sfT m e p mn mx od = if dmin ≤ dmax / 10 * 10 then (dmax / 10, -(p - 1)) else if dmin < dmax then (roundU (uscaleU m PH PL S), -p) else (dmin, -p) := by
  unfold sfT
  rw [hi, h1, h2, h3, Int.toNat_natCast, Int.toNat_natCast, h4, h5]
set_option maxRecDepth 100000 in
set_option maxHeartbeats 4000000 in
theorem short_top (m : Nat) (e : Int) (hm : m < 18446744073709551616) (he1 : -1085 < e) (he2 : e ≤ 980) (hb : ((m : Int) == 9223372036854775808) = true) (w : World) (ht : PowTab w) : Calls Tryz.prog 83 #[.int .u64 m, .int .i64 e] w fun e' w' => e' = .returned (.tuple #[.int .u64 (sfT m e (-(skw (e + 11))) (IntKind.u64.wrap ((m : Int) - 512)) (IntKind.u64.wrap ((m : Int) + 1024)) (oddM m 2048)).1, .int .i64 (sfT m e (-(skw (e + 11))) (IntKind.u64.wrap ((m : Int) - 512)) (IntKind.u64.wrap ((m : Int) + 1024)) (oddM m 2048)).2]) ∧ Below w.heap.size w w' := by
  obtain ⟨b1, b2⟩ := skw_bd (e + 11) (by omega) (by omega)
  obtain ⟨q, hq⟩ : ∃ q, skw (e + 11) = q := ⟨_, rfl⟩
  rw [hq] at b1 b2 ⊢
  have HQ := Lib.hid hq
  clear hq
  have HT := Lib.hid ht
  clear ht
  obtain ⟨p, hp⟩ : ∃ p, -q = p := ⟨_, rfl⟩
  obtain ⟨mn, hmn⟩ : ∃ mn : Nat, IntKind.u64.wrap ((m : Int) - 512) = (mn : Int) := ⟨(IntKind.u64.wrap ((m : Int) - 512)).toNat, by rw [IntKind.wrap_u64]; omega⟩
  obtain ⟨mx, hmx⟩ : ∃ mx : Nat, IntKind.u64.wrap ((m : Int) + 1024) = (mx : Int) := ⟨(IntKind.u64.wrap ((m : Int) + 1024)).toNat, by rw [IntKind.wrap_u64]; omega⟩
  have hmn64 : mn < 18446744073709551616 := by rw [IntKind.wrap_u64] at hmn; omega
  have hmx64 : mx < 18446744073709551616 := by rw [IntKind.wrap_u64] at hmx; omega
  obtain ⟨od, hod⟩ : ∃ od, bits BinOp.and IntKind.i64 ((m : Int) / 2048) 1 = od := ⟨_, rfl⟩
  have hodM : oddM m 2048 = od := hod
  rw [hp, hmn, hmx, hodM]
  clear hodM
  have p1 : -332 ≤ p := by omega
  have p2 : p ≤ 332 := by omega
  obtain ⟨i, hi⟩ : ∃ i : Nat, p + 348 = i := ⟨(p + 348).toNat, by omega⟩
  have hi2 : (p + 348).toNat = i := by omega
  have HPI := Lib.hid hi
  have hi696 : i < 696 := by omega
  obtain ⟨S, hS⟩ : ∃ S, preS e p (l2p p) = S := ⟨_, rfl⟩
  obtain ⟨q1, q2⟩ := pow_lt ⟨i, hi696⟩
  simp only at q1 q2
  obtain ⟨PH, hPH⟩ : ∃ PH, powHi i = PH := ⟨_, rfl⟩
  obtain ⟨PL, hPL⟩ : ∃ PL, powLo i = PL := ⟨_, rfl⟩
  rw [hPH] at q1
  rw [hPL] at q2
  obtain ⟨dmin, hdmin⟩ : ∃ dmin, ceilU (nudgeU (uscaleU mn PH PL S) od) = dmin := ⟨_, rfl⟩
  obtain ⟨dmax, hdmax⟩ : ∃ dmax, floorU (nudgeU (uscaleU mx PH PL S) (wrap64 (-od))) = dmax := ⟨_, rfl⟩
  obtain ⟨d1, d2⟩ := ceil_bd (nudgeU (uscaleU mn PH PL S) od)
  obtain ⟨d3, d4⟩ := floor_bd (nudgeU (uscaleU mx PH PL S) (wrap64 (-od)))
  rw [hdmin] at d1 d2
  rw [hdmax] at d3 d4
  have hT := sfT_eq m e p mn mx od i PH PL S dmin dmax hi2 hPH hPL hS hdmin hdmax
  have HTT := Lib.hid hT
  have HS := Lib.hid hS
  have HPH := Lib.hid hPH
  have HPL := Lib.hid hPL
  have HDMIN := Lib.hid hdmin
  have HDMAX := Lib.hid hdmax
  have hg : 12 < w.heap.size := World.block_lt_of_cell? w _ (HT.out 0 (by omega)).1
  clear hT hS hPH hPL hdmin hdmax hi hi2
  go_enter Tryz.func83, Tryz.ntmps83
  go_wp2_with fail
  go_at_call 97; refine (skewed_any _ _).mono ?_; rintro e' w1 ⟨rfl, rfl⟩
  rw [HQ.out]
  go_wp2_with fail
  go_at_call 99; refine (log2Pow10_any _ _).mono ?_; rintro e' w1 ⟨rfl, rfl⟩
  go_wp2_with fail
  go_at_call 98; refine (prescale_any e _ _ i HPI.out (by omega) (by omega) (by omega) _ w.heap.size _ _ _ (row_alloc w #[.int .u64 0, .int .u64 0, .int .i64 0] 140) (powTab_keep HT.out ((Below.refl _ _).alloc (Nat.le_refl _) _)) (by omega)).mono ?_; rintro e' w1 ⟨rfl, hw1⟩
  rw [HPH.out, HPL.out, HS.out] at hw1
  have hrow : w1.heap[w.heap.size]? = some (.cells #[.int .u64 PH, .int .u64 PL, .int .i64 S] 140 (0, 0)) := by rw [hw1]; exact set3_row (row_alloc w #[.int .u64 0, .int .u64 0, .int .i64 0] 140) _ _ _
  have HB1 := Lib.hid (show Below w.heap.size w w1 by rw [hw1]; exact ((((Below.refl w.heap.size w).alloc (Nat.le_refl _) _).setCell (p := ⟨w.heap.size, 0, none⟩) (Nat.le_refl _) _).setCell (p := ⟨w.heap.size, 1, none⟩) (Nat.le_refl _) _).setCell (p := ⟨w.heap.size, 2, none⟩) (Nat.le_refl _) _)
  have c0 := row_cell hrow 0
  have c1 := row_cell hrow 1
  have c2 := row_cell hrow 2
  simp only [List.getElem?_toArray, List.getElem?_cons_zero, List.getElem?_cons_succ] at c0 c1 c2
  clear hw1 hrow
  go_wp2_with fail
  go_at_call 100; refine (uscale_any mn PH PL S hmn64 q1 q2 _ _ (by first | exact c0 | (simp only [World.cell?_drewN]; exact c0)) (by first | exact c1 | (simp only [World.cell?_drewN]; exact c1)) (by first | exact c2 | (simp only [World.cell?_drewN]; exact c2))).mono ?_; rintro e' w2 ⟨rfl, n1, rfl⟩
  go_wp2_with fail
  go_at_call 101; refine (nudge_any _ _ _).mono ?_; rintro e' w2 ⟨rfl, rfl⟩
  go_wp2_with fail
  go_at_call 102; refine (ceil_any _ _).mono ?_; rintro e' w2 ⟨rfl, rfl⟩
  rw [HDMIN.out]
  go_wp2_with fail
  go_at_call 100; refine (uscale_any mx PH PL S hmx64 q1 q2 _ _ (by first | exact c0 | (simp only [World.cell?_drewN]; exact c0)) (by first | exact c1 | (simp only [World.cell?_drewN]; exact c1)) (by first | exact c2 | (simp only [World.cell?_drewN]; exact c2))).mono ?_; rintro e' w2 ⟨rfl, n2, rfl⟩
  go_wp2_with fail
  go_at_call 101; refine (nudge_any _ _ _).mono ?_; rintro e' w2 ⟨rfl, rfl⟩
  go_wp2_with fail
  go_at_call 103; refine (floor_any _ _).mono ?_; rintro e' w2 ⟨rfl, rfl⟩
  rw [HDMAX.out]
  by_cases h1 : dmin ≤ dmax / 10 * 10
  · have HF := Lib.hid (show Ending.returned (.tuple #[.int .u64 (dmax / 10), .int .i64 (-(p - 1))]) = .returned (.tuple #[.int .u64 (sfT m e p mn mx od).1, .int .i64 (sfT m e p mn mx od).2]) by rw [HTT.out, if_pos h1])
    go_wp2
    go_ret2
    exact ⟨HF.out, bel_drewN _ HB1.out⟩
  · by_cases h2 : dmin < dmax
    · have HF := Lib.hid (show Ending.returned (.tuple #[.int .u64 (roundU (uscaleU m PH PL S)), .int .i64 (-p)]) = .returned (.tuple #[.int .u64 (sfT m e p mn mx od).1, .int .i64 (sfT m e p mn mx od).2]) by rw [HTT.out, if_neg h1, if_pos h2])
      go_wp2_with fail
      go_at_call 100; refine (uscale_any m PH PL S hm q1 q2 _ _ (by first | exact c0 | (simp only [World.cell?_drewN]; exact c0)) (by first | exact c1 | (simp only [World.cell?_drewN]; exact c1)) (by first | exact c2 | (simp only [World.cell?_drewN]; exact c2))).mono ?_; rintro e' w2 ⟨rfl, n3, rfl⟩
      go_wp2_with (go_at_call 104; refine (round_any _ _).mono ?_; rintro e' w2 ⟨rfl, rfl⟩)
      go_ret2
      exact ⟨HF.out, bel_drewN _ HB1.out⟩
    · have HF := Lib.hid (show Ending.returned (.tuple #[.int .u64 dmin, .int .i64 (-p)]) = .returned (.tuple #[.int .u64 (sfT m e p mn mx od).1, .int .i64 (sfT m e p mn mx od).2]) by rw [HTT.out, if_neg h1, if_neg h2])
      go_wp2
      go_ret2
      exact ⟨HF.out, bel_drewN _ HB1.out⟩
set_option maxRecDepth 100000 in
set_option maxHeartbeats 4000000 in
theorem short_mid (m : Nat) (e : Int) (hm : m < 18446744073709551616) (he1 : -1085 ≤ e) (he2 : e ≤ 980) (hb : ((m : Int) == 9223372036854775808 && decide (-1085 < e)) = false) (w : World) (ht : PowTab w) : Calls Tryz.prog 83 #[.int .u64 m, .int .i64 e] w fun e' w' => e' = .returned (.tuple #[.int .u64 (sfT m e (-(l10p (e + 11))) (IntKind.u64.wrap ((m : Int) - 1024)) (IntKind.u64.wrap ((m : Int) + 1024)) (oddM m 2048)).1, .int .i64 (sfT m e (-(l10p (e + 11))) (IntKind.u64.wrap ((m : Int) - 1024)) (IntKind.u64.wrap ((m : Int) + 1024)) (oddM m 2048)).2]) ∧ Below w.heap.size w w' := by
  obtain ⟨b1, b2⟩ := l10p_bd (e + 11) (by omega) (by omega)
  obtain ⟨q, hq⟩ : ∃ q, l10p (e + 11) = q := ⟨_, rfl⟩
  rw [hq] at b1 b2 ⊢
  have HQ := Lib.hid hq
  clear hq
  have HT := Lib.hid ht
  clear ht
  obtain ⟨p, hp⟩ : ∃ p, -q = p := ⟨_, rfl⟩
  obtain ⟨mn, hmn⟩ : ∃ mn : Nat, IntKind.u64.wrap ((m : Int) - 1024) = (mn : Int) := ⟨(IntKind.u64.wrap ((m : Int) - 1024)).toNat, by rw [IntKind.wrap_u64]; omega⟩
  obtain ⟨mx, hmx⟩ : ∃ mx : Nat, IntKind.u64.wrap ((m : Int) + 1024) = (mx : Int) := ⟨(IntKind.u64.wrap ((m : Int) + 1024)).toNat, by rw [IntKind.wrap_u64]; omega⟩
  have hmn64 : mn < 18446744073709551616 := by rw [IntKind.wrap_u64] at hmn; omega
  have hmx64 : mx < 18446744073709551616 := by rw [IntKind.wrap_u64] at hmx; omega
  obtain ⟨od, hod⟩ : ∃ od, bits BinOp.and IntKind.i64 ((m : Int) / 2048) 1 = od := ⟨_, rfl⟩
  have hodM : oddM m 2048 = od := hod
  rw [hp, hmn, hmx, hodM]
  clear hodM
  have p1 : -332 ≤ p := by omega
  have p2 : p ≤ 332 := by omega
  obtain ⟨i, hi⟩ : ∃ i : Nat, p + 348 = i := ⟨(p + 348).toNat, by omega⟩
  have hi2 : (p + 348).toNat = i := by omega
  have HPI := Lib.hid hi
  have hi696 : i < 696 := by omega
  obtain ⟨S, hS⟩ : ∃ S, preS e p (l2p p) = S := ⟨_, rfl⟩
  obtain ⟨q1, q2⟩ := pow_lt ⟨i, hi696⟩
  simp only at q1 q2
  obtain ⟨PH, hPH⟩ : ∃ PH, powHi i = PH := ⟨_, rfl⟩
  obtain ⟨PL, hPL⟩ : ∃ PL, powLo i = PL := ⟨_, rfl⟩
  rw [hPH] at q1
  rw [hPL] at q2
  obtain ⟨dmin, hdmin⟩ : ∃ dmin, ceilU (nudgeU (uscaleU mn PH PL S) od) = dmin := ⟨_, rfl⟩
  obtain ⟨dmax, hdmax⟩ : ∃ dmax, floorU (nudgeU (uscaleU mx PH PL S) (wrap64 (-od))) = dmax := ⟨_, rfl⟩
  obtain ⟨d1, d2⟩ := ceil_bd (nudgeU (uscaleU mn PH PL S) od)
  obtain ⟨d3, d4⟩ := floor_bd (nudgeU (uscaleU mx PH PL S) (wrap64 (-od)))
  rw [hdmin] at d1 d2
  rw [hdmax] at d3 d4
  have hT := sfT_eq m e p mn mx od i PH PL S dmin dmax hi2 hPH hPL hS hdmin hdmax
  have HTT := Lib.hid hT
  have HS := Lib.hid hS
  have HPH := Lib.hid hPH
  have HPL := Lib.hid hPL
  have HDMIN := Lib.hid hdmin
  have HDMAX := Lib.hid hdmax
  have hg : 12 < w.heap.size := World.block_lt_of_cell? w _ (HT.out 0 (by omega)).1
  clear hT hS hPH hPL hdmin hdmax hi hi2
  cases hm63 : ((m : Int) == 9223372036854775808)
  · go_enter Tryz.func83, Tryz.ntmps83
    go_wp2_with fail
    go_at_call 67; refine (log10Pow2_any _ _).mono ?_; rintro e' w1 ⟨rfl, rfl⟩
    rw [HQ.out]
    go_wp2_with fail
    go_at_call 99; refine (log2Pow10_any _ _).mono ?_; rintro e' w1 ⟨rfl, rfl⟩
    go_wp2_with fail
    go_at_call 98; refine (prescale_any e _ _ i HPI.out (by omega) (by omega) (by omega) _ w.heap.size _ _ _ (row_alloc w #[.int .u64 0, .int .u64 0, .int .i64 0] 140) (powTab_keep HT.out ((Below.refl _ _).alloc (Nat.le_refl _) _)) (by omega)).mono ?_; rintro e' w1 ⟨rfl, hw1⟩
    rw [HPH.out, HPL.out, HS.out] at hw1
    have hrow : w1.heap[w.heap.size]? = some (.cells #[.int .u64 PH, .int .u64 PL, .int .i64 S] 140 (0, 0)) := by rw [hw1]; exact set3_row (row_alloc w #[.int .u64 0, .int .u64 0, .int .i64 0] 140) _ _ _
    have HB1 := Lib.hid (show Below w.heap.size w w1 by rw [hw1]; exact ((((Below.refl w.heap.size w).alloc (Nat.le_refl _) _).setCell (p := ⟨w.heap.size, 0, none⟩) (Nat.le_refl _) _).setCell (p := ⟨w.heap.size, 1, none⟩) (Nat.le_refl _) _).setCell (p := ⟨w.heap.size, 2, none⟩) (Nat.le_refl _) _)
    have c0 := row_cell hrow 0
    have c1 := row_cell hrow 1
    have c2 := row_cell hrow 2
    simp only [List.getElem?_toArray, List.getElem?_cons_zero, List.getElem?_cons_succ] at c0 c1 c2
    clear hw1 hrow
    go_wp2_with fail
    go_at_call 100; refine (uscale_any mn PH PL S hmn64 q1 q2 _ _ (by first | exact c0 | (simp only [World.cell?_drewN]; exact c0)) (by first | exact c1 | (simp only [World.cell?_drewN]; exact c1)) (by first | exact c2 | (simp only [World.cell?_drewN]; exact c2))).mono ?_; rintro e' w2 ⟨rfl, n1, rfl⟩
    go_wp2_with fail
    go_at_call 101; refine (nudge_any _ _ _).mono ?_; rintro e' w2 ⟨rfl, rfl⟩
    go_wp2_with fail
    go_at_call 102; refine (ceil_any _ _).mono ?_; rintro e' w2 ⟨rfl, rfl⟩
    rw [HDMIN.out]
    go_wp2_with fail
    go_at_call 100; refine (uscale_any mx PH PL S hmx64 q1 q2 _ _ (by first | exact c0 | (simp only [World.cell?_drewN]; exact c0)) (by first | exact c1 | (simp only [World.cell?_drewN]; exact c1)) (by first | exact c2 | (simp only [World.cell?_drewN]; exact c2))).mono ?_; rintro e' w2 ⟨rfl, n2, rfl⟩
    go_wp2_with fail
    go_at_call 101; refine (nudge_any _ _ _).mono ?_; rintro e' w2 ⟨rfl, rfl⟩
    go_wp2_with fail
    go_at_call 103; refine (floor_any _ _).mono ?_; rintro e' w2 ⟨rfl, rfl⟩
    rw [HDMAX.out]
    by_cases h1 : dmin ≤ dmax / 10 * 10
    · have HF := Lib.hid (show Ending.returned (.tuple #[.int .u64 (dmax / 10), .int .i64 (-(p - 1))]) = .returned (.tuple #[.int .u64 (sfT m e p mn mx od).1, .int .i64 (sfT m e p mn mx od).2]) by rw [HTT.out, if_pos h1])
      go_wp2
      go_ret2
      exact ⟨HF.out, bel_drewN _ HB1.out⟩
    · by_cases h2 : dmin < dmax
      · have HF := Lib.hid (show Ending.returned (.tuple #[.int .u64 (roundU (uscaleU m PH PL S)), .int .i64 (-p)]) = .returned (.tuple #[.int .u64 (sfT m e p mn mx od).1, .int .i64 (sfT m e p mn mx od).2]) by rw [HTT.out, if_neg h1, if_pos h2])
        go_wp2_with fail
        go_at_call 100; refine (uscale_any m PH PL S hm q1 q2 _ _ (by first | exact c0 | (simp only [World.cell?_drewN]; exact c0)) (by first | exact c1 | (simp only [World.cell?_drewN]; exact c1)) (by first | exact c2 | (simp only [World.cell?_drewN]; exact c2))).mono ?_; rintro e' w2 ⟨rfl, n3, rfl⟩
        go_wp2_with (go_at_call 104; refine (round_any _ _).mono ?_; rintro e' w2 ⟨rfl, rfl⟩)
        go_ret2
        exact ⟨HF.out, bel_drewN _ HB1.out⟩
      · have HF := Lib.hid (show Ending.returned (.tuple #[.int .u64 dmin, .int .i64 (-p)]) = .returned (.tuple #[.int .u64 (sfT m e p mn mx od).1, .int .i64 (sfT m e p mn mx od).2]) by rw [HTT.out, if_neg h1, if_neg h2])
        go_wp2
        go_ret2
        exact ⟨HF.out, bel_drewN _ HB1.out⟩
  · have hex : ¬ (-1085 < e) := by rw [hm63] at hb; simpa using hb
    clear hb
    go_enter Tryz.func83, Tryz.ntmps83
    go_wp2_with fail
    go_at_call 67; refine (log10Pow2_any _ _).mono ?_; rintro e' w1 ⟨rfl, rfl⟩
    rw [HQ.out]
    go_wp2_with fail
    go_at_call 99; refine (log2Pow10_any _ _).mono ?_; rintro e' w1 ⟨rfl, rfl⟩
    go_wp2_with fail
    go_at_call 98; refine (prescale_any e _ _ i HPI.out (by omega) (by omega) (by omega) _ w.heap.size _ _ _ (row_alloc w #[.int .u64 0, .int .u64 0, .int .i64 0] 140) (powTab_keep HT.out ((Below.refl _ _).alloc (Nat.le_refl _) _)) (by omega)).mono ?_; rintro e' w1 ⟨rfl, hw1⟩
    rw [HPH.out, HPL.out, HS.out] at hw1
    have hrow : w1.heap[w.heap.size]? = some (.cells #[.int .u64 PH, .int .u64 PL, .int .i64 S] 140 (0, 0)) := by rw [hw1]; exact set3_row (row_alloc w #[.int .u64 0, .int .u64 0, .int .i64 0] 140) _ _ _
    have HB1 := Lib.hid (show Below w.heap.size w w1 by rw [hw1]; exact ((((Below.refl w.heap.size w).alloc (Nat.le_refl _) _).setCell (p := ⟨w.heap.size, 0, none⟩) (Nat.le_refl _) _).setCell (p := ⟨w.heap.size, 1, none⟩) (Nat.le_refl _) _).setCell (p := ⟨w.heap.size, 2, none⟩) (Nat.le_refl _) _)
    have c0 := row_cell hrow 0
    have c1 := row_cell hrow 1
    have c2 := row_cell hrow 2
    simp only [List.getElem?_toArray, List.getElem?_cons_zero, List.getElem?_cons_succ] at c0 c1 c2
    clear hw1 hrow
    go_wp2_with fail
    go_at_call 100; refine (uscale_any mn PH PL S hmn64 q1 q2 _ _ (by first | exact c0 | (simp only [World.cell?_drewN]; exact c0)) (by first | exact c1 | (simp only [World.cell?_drewN]; exact c1)) (by first | exact c2 | (simp only [World.cell?_drewN]; exact c2))).mono ?_; rintro e' w2 ⟨rfl, n1, rfl⟩
    go_wp2_with fail
    go_at_call 101; refine (nudge_any _ _ _).mono ?_; rintro e' w2 ⟨rfl, rfl⟩
    go_wp2_with fail
    go_at_call 102; refine (ceil_any _ _).mono ?_; rintro e' w2 ⟨rfl, rfl⟩
    rw [HDMIN.out]
    go_wp2_with fail
    go_at_call 100; refine (uscale_any mx PH PL S hmx64 q1 q2 _ _ (by first | exact c0 | (simp only [World.cell?_drewN]; exact c0)) (by first | exact c1 | (simp only [World.cell?_drewN]; exact c1)) (by first | exact c2 | (simp only [World.cell?_drewN]; exact c2))).mono ?_; rintro e' w2 ⟨rfl, n2, rfl⟩
    go_wp2_with fail
    go_at_call 101; refine (nudge_any _ _ _).mono ?_; rintro e' w2 ⟨rfl, rfl⟩
    go_wp2_with fail
    go_at_call 103; refine (floor_any _ _).mono ?_; rintro e' w2 ⟨rfl, rfl⟩
    rw [HDMAX.out]
    by_cases h1 : dmin ≤ dmax / 10 * 10
    · have HF := Lib.hid (show Ending.returned (.tuple #[.int .u64 (dmax / 10), .int .i64 (-(p - 1))]) = .returned (.tuple #[.int .u64 (sfT m e p mn mx od).1, .int .i64 (sfT m e p mn mx od).2]) by rw [HTT.out, if_pos h1])
      go_wp2
      go_ret2
      exact ⟨HF.out, bel_drewN _ HB1.out⟩
    · by_cases h2 : dmin < dmax
      · have HF := Lib.hid (show Ending.returned (.tuple #[.int .u64 (roundU (uscaleU m PH PL S)), .int .i64 (-p)]) = .returned (.tuple #[.int .u64 (sfT m e p mn mx od).1, .int .i64 (sfT m e p mn mx od).2]) by rw [HTT.out, if_neg h1, if_pos h2])
        go_wp2_with fail
        go_at_call 100; refine (uscale_any m PH PL S hm q1 q2 _ _ (by first | exact c0 | (simp only [World.cell?_drewN]; exact c0)) (by first | exact c1 | (simp only [World.cell?_drewN]; exact c1)) (by first | exact c2 | (simp only [World.cell?_drewN]; exact c2))).mono ?_; rintro e' w2 ⟨rfl, n3, rfl⟩
        go_wp2_with (go_at_call 104; refine (round_any _ _).mono ?_; rintro e' w2 ⟨rfl, rfl⟩)
        go_ret2
        exact ⟨HF.out, bel_drewN _ HB1.out⟩
      · have HF := Lib.hid (show Ending.returned (.tuple #[.int .u64 dmin, .int .i64 (-p)]) = .returned (.tuple #[.int .u64 (sfT m e p mn mx od).1, .int .i64 (sfT m e p mn mx od).2]) by rw [HTT.out, if_neg h1, if_neg h2])
        go_wp2
        go_ret2
        exact ⟨HF.out, bel_drewN _ HB1.out⟩
set_option maxRecDepth 100000 in
set_option maxHeartbeats 4000000 in
theorem short_low (m : Nat) (e : Int) (hm : m < 18446744073709551616) (z : Nat) (hz : 11 + (-1085 - e) = (z : Int)) (hz1 : 12 ≤ z) (hz2 : z ≤ 63) (he : ¬ (-1085 < e)) (he2 : ¬ (-1085 ≤ e)) (he0 : -1137 ≤ e) (hez : e + (z : Int) = -1074) (w : World) (ht : PowTab w) : Calls Tryz.prog 83 #[.int .u64 m, .int .i64 e] w fun e' w' => e' = .returned (.tuple #[.int .u64 (sfT m e (-(l10p (-1074))) (IntKind.u64.wrap ((m : Int) - IntKind.u64.wrap (2 ^ (z - 1)))) (IntKind.u64.wrap ((m : Int) + IntKind.u64.wrap (2 ^ (z - 1)))) (bits BinOp.and IntKind.i64 (wrap64 ((m : Int) / 2 ^ z)) 1)).1, .int .i64 (sfT m e (-(l10p (-1074))) (IntKind.u64.wrap ((m : Int) - IntKind.u64.wrap (2 ^ (z - 1)))) (IntKind.u64.wrap ((m : Int) + IntKind.u64.wrap (2 ^ (z - 1)))) (bits BinOp.and IntKind.i64 (wrap64 ((m : Int) / 2 ^ z)) 1)).2]) ∧ Below w.heap.size w w' := by
  obtain ⟨b1, b2⟩ := l10p_bd (-1074) (by omega) (by omega)
  obtain ⟨q, hq⟩ : ∃ q, l10p (-1074) = q := ⟨_, rfl⟩
  rw [hq] at b1 b2 ⊢
  have HQ := Lib.hid hq
  clear hq
  have HT := Lib.hid ht
  clear ht
  obtain ⟨p, hp⟩ : ∃ p, -q = p := ⟨_, rfl⟩
  obtain ⟨mn, hmn⟩ : ∃ mn : Nat, IntKind.u64.wrap ((m : Int) - IntKind.u64.wrap (2 ^ (z - 1))) = (mn : Int) := ⟨(IntKind.u64.wrap ((m : Int) - IntKind.u64.wrap (2 ^ (z - 1)))).toNat, by rw [IntKind.wrap_u64]; omega⟩
  obtain ⟨mx, hmx⟩ : ∃ mx : Nat, IntKind.u64.wrap ((m : Int) + IntKind.u64.wrap (2 ^ (z - 1))) = (mx : Int) := ⟨(IntKind.u64.wrap ((m : Int) + IntKind.u64.wrap (2 ^ (z - 1)))).toNat, by rw [IntKind.wrap_u64]; omega⟩
  have hmn64 : mn < 18446744073709551616 := by rw [IntKind.wrap_u64] at hmn; omega
  have hmx64 : mx < 18446744073709551616 := by rw [IntKind.wrap_u64] at hmx; omega
  obtain ⟨od, hod⟩ : ∃ od, bits BinOp.and IntKind.i64 (wrap64 ((m : Int) / 2 ^ z)) 1 = od := ⟨_, rfl⟩
  have hodM : bits BinOp.and IntKind.i64 (wrap64 ((m : Int) / 2 ^ z)) 1 = od := hod
  rw [hp, hmn, hmx, hodM]
  clear hodM
  have p1 : -332 ≤ p := by omega
  have p2 : p ≤ 332 := by omega
  obtain ⟨i, hi⟩ : ∃ i : Nat, p + 348 = i := ⟨(p + 348).toNat, by omega⟩
  have hi2 : (p + 348).toNat = i := by omega
  have HPI := Lib.hid hi
  have hi696 : i < 696 := by omega
  obtain ⟨S, hS⟩ : ∃ S, preS e p (l2p p) = S := ⟨_, rfl⟩
  obtain ⟨q1, q2⟩ := pow_lt ⟨i, hi696⟩
  simp only at q1 q2
  obtain ⟨PH, hPH⟩ : ∃ PH, powHi i = PH := ⟨_, rfl⟩
  obtain ⟨PL, hPL⟩ : ∃ PL, powLo i = PL := ⟨_, rfl⟩
  rw [hPH] at q1
  rw [hPL] at q2
  obtain ⟨dmin, hdmin⟩ : ∃ dmin, ceilU (nudgeU (uscaleU mn PH PL S) od) = dmin := ⟨_, rfl⟩
  obtain ⟨dmax, hdmax⟩ : ∃ dmax, floorU (nudgeU (uscaleU mx PH PL S) (wrap64 (-od))) = dmax := ⟨_, rfl⟩
  obtain ⟨d1, d2⟩ := ceil_bd (nudgeU (uscaleU mn PH PL S) od)
  obtain ⟨d3, d4⟩ := floor_bd (nudgeU (uscaleU mx PH PL S) (wrap64 (-od)))
  rw [hdmin] at d1 d2
  rw [hdmax] at d3 d4
  have hT := sfT_eq m e p mn mx od i PH PL S dmin dmax hi2 hPH hPL hS hdmin hdmax
  have HTT := Lib.hid hT
  have HS := Lib.hid hS
  have HPH := Lib.hid hPH
  have HPL := Lib.hid hPL
  have HDMIN := Lib.hid hdmin
  have HDMAX := Lib.hid hdmax
  have hg : 12 < w.heap.size := World.block_lt_of_cell? w _ (HT.out 0 (by omega)).1
  clear hT hS hPH hPL hdmin hdmax hi hi2
  cases hm63 : ((m : Int) == 9223372036854775808)
  · go_enter Tryz.func83, Tryz.ntmps83
    go_wp2_with fail
    go_at_call 67; refine (log10Pow2_any _ _).mono ?_; rintro e' w1 ⟨rfl, rfl⟩
    rw [HQ.out]
    go_wp2_with fail
    go_at_call 99; refine (log2Pow10_any _ _).mono ?_; rintro e' w1 ⟨rfl, rfl⟩
    go_wp2_with fail
    go_at_call 98; refine (prescale_any e _ _ i HPI.out (by omega) (by omega) (by omega) _ w.heap.size _ _ _ (row_alloc w #[.int .u64 0, .int .u64 0, .int .i64 0] 140) (powTab_keep HT.out ((Below.refl _ _).alloc (Nat.le_refl _) _)) (by omega)).mono ?_; rintro e' w1 ⟨rfl, hw1⟩
    rw [HPH.out, HPL.out, HS.out] at hw1
    have hrow : w1.heap[w.heap.size]? = some (.cells #[.int .u64 PH, .int .u64 PL, .int .i64 S] 140 (0, 0)) := by rw [hw1]; exact set3_row (row_alloc w #[.int .u64 0, .int .u64 0, .int .i64 0] 140) _ _ _
    have HB1 := Lib.hid (show Below w.heap.size w w1 by rw [hw1]; exact ((((Below.refl w.heap.size w).alloc (Nat.le_refl _) _).setCell (p := ⟨w.heap.size, 0, none⟩) (Nat.le_refl _) _).setCell (p := ⟨w.heap.size, 1, none⟩) (Nat.le_refl _) _).setCell (p := ⟨w.heap.size, 2, none⟩) (Nat.le_refl _) _)
    have c0 := row_cell hrow 0
    have c1 := row_cell hrow 1
    have c2 := row_cell hrow 2
    simp only [List.getElem?_toArray, List.getElem?_cons_zero, List.getElem?_cons_succ] at c0 c1 c2
    clear hw1 hrow
    go_wp2_with fail
    go_at_call 100; refine (uscale_any mn PH PL S hmn64 q1 q2 _ _ (by first | exact c0 | (simp only [World.cell?_drewN]; exact c0)) (by first | exact c1 | (simp only [World.cell?_drewN]; exact c1)) (by first | exact c2 | (simp only [World.cell?_drewN]; exact c2))).mono ?_; rintro e' w2 ⟨rfl, n1, rfl⟩
    go_wp2_with fail
    go_at_call 101; refine (nudge_any _ _ _).mono ?_; rintro e' w2 ⟨rfl, rfl⟩
    go_wp2_with fail
    go_at_call 102; refine (ceil_any _ _).mono ?_; rintro e' w2 ⟨rfl, rfl⟩
    rw [HDMIN.out]
    go_wp2_with fail
    go_at_call 100; refine (uscale_any mx PH PL S hmx64 q1 q2 _ _ (by first | exact c0 | (simp only [World.cell?_drewN]; exact c0)) (by first | exact c1 | (simp only [World.cell?_drewN]; exact c1)) (by first | exact c2 | (simp only [World.cell?_drewN]; exact c2))).mono ?_; rintro e' w2 ⟨rfl, n2, rfl⟩
    go_wp2_with fail
    go_at_call 101; refine (nudge_any _ _ _).mono ?_; rintro e' w2 ⟨rfl, rfl⟩
    go_wp2_with fail
    go_at_call 103; refine (floor_any _ _).mono ?_; rintro e' w2 ⟨rfl, rfl⟩
    rw [HDMAX.out]
    by_cases h1 : dmin ≤ dmax / 10 * 10
    · have HF := Lib.hid (show Ending.returned (.tuple #[.int .u64 (dmax / 10), .int .i64 (-(p - 1))]) = .returned (.tuple #[.int .u64 (sfT m e p mn mx od).1, .int .i64 (sfT m e p mn mx od).2]) by rw [HTT.out, if_pos h1])
      go_wp2
      go_ret2
      exact ⟨HF.out, bel_drewN _ HB1.out⟩
    · by_cases h2 : dmin < dmax
      · have HF := Lib.hid (show Ending.returned (.tuple #[.int .u64 (roundU (uscaleU m PH PL S)), .int .i64 (-p)]) = .returned (.tuple #[.int .u64 (sfT m e p mn mx od).1, .int .i64 (sfT m e p mn mx od).2]) by rw [HTT.out, if_neg h1, if_pos h2])
        go_wp2_with fail
        go_at_call 100; refine (uscale_any m PH PL S hm q1 q2 _ _ (by first | exact c0 | (simp only [World.cell?_drewN]; exact c0)) (by first | exact c1 | (simp only [World.cell?_drewN]; exact c1)) (by first | exact c2 | (simp only [World.cell?_drewN]; exact c2))).mono ?_; rintro e' w2 ⟨rfl, n3, rfl⟩
        go_wp2_with (go_at_call 104; refine (round_any _ _).mono ?_; rintro e' w2 ⟨rfl, rfl⟩)
        go_ret2
        exact ⟨HF.out, bel_drewN _ HB1.out⟩
      · have HF := Lib.hid (show Ending.returned (.tuple #[.int .u64 dmin, .int .i64 (-p)]) = .returned (.tuple #[.int .u64 (sfT m e p mn mx od).1, .int .i64 (sfT m e p mn mx od).2]) by rw [HTT.out, if_neg h1, if_neg h2])
        go_wp2
        go_ret2
        exact ⟨HF.out, bel_drewN _ HB1.out⟩
  · go_enter Tryz.func83, Tryz.ntmps83
    go_wp2_with fail
    go_at_call 67; refine (log10Pow2_any _ _).mono ?_; rintro e' w1 ⟨rfl, rfl⟩
    rw [HQ.out]
    go_wp2_with fail
    go_at_call 99; refine (log2Pow10_any _ _).mono ?_; rintro e' w1 ⟨rfl, rfl⟩
    go_wp2_with fail
    go_at_call 98; refine (prescale_any e _ _ i HPI.out (by omega) (by omega) (by omega) _ w.heap.size _ _ _ (row_alloc w #[.int .u64 0, .int .u64 0, .int .i64 0] 140) (powTab_keep HT.out ((Below.refl _ _).alloc (Nat.le_refl _) _)) (by omega)).mono ?_; rintro e' w1 ⟨rfl, hw1⟩
    rw [HPH.out, HPL.out, HS.out] at hw1
    have hrow : w1.heap[w.heap.size]? = some (.cells #[.int .u64 PH, .int .u64 PL, .int .i64 S] 140 (0, 0)) := by rw [hw1]; exact set3_row (row_alloc w #[.int .u64 0, .int .u64 0, .int .i64 0] 140) _ _ _
    have HB1 := Lib.hid (show Below w.heap.size w w1 by rw [hw1]; exact ((((Below.refl w.heap.size w).alloc (Nat.le_refl _) _).setCell (p := ⟨w.heap.size, 0, none⟩) (Nat.le_refl _) _).setCell (p := ⟨w.heap.size, 1, none⟩) (Nat.le_refl _) _).setCell (p := ⟨w.heap.size, 2, none⟩) (Nat.le_refl _) _)
    have c0 := row_cell hrow 0
    have c1 := row_cell hrow 1
    have c2 := row_cell hrow 2
    simp only [List.getElem?_toArray, List.getElem?_cons_zero, List.getElem?_cons_succ] at c0 c1 c2
    clear hw1 hrow
    go_wp2_with fail
    go_at_call 100; refine (uscale_any mn PH PL S hmn64 q1 q2 _ _ (by first | exact c0 | (simp only [World.cell?_drewN]; exact c0)) (by first | exact c1 | (simp only [World.cell?_drewN]; exact c1)) (by first | exact c2 | (simp only [World.cell?_drewN]; exact c2))).mono ?_; rintro e' w2 ⟨rfl, n1, rfl⟩
    go_wp2_with fail
    go_at_call 101; refine (nudge_any _ _ _).mono ?_; rintro e' w2 ⟨rfl, rfl⟩
    go_wp2_with fail
    go_at_call 102; refine (ceil_any _ _).mono ?_; rintro e' w2 ⟨rfl, rfl⟩
    rw [HDMIN.out]
    go_wp2_with fail
    go_at_call 100; refine (uscale_any mx PH PL S hmx64 q1 q2 _ _ (by first | exact c0 | (simp only [World.cell?_drewN]; exact c0)) (by first | exact c1 | (simp only [World.cell?_drewN]; exact c1)) (by first | exact c2 | (simp only [World.cell?_drewN]; exact c2))).mono ?_; rintro e' w2 ⟨rfl, n2, rfl⟩
    go_wp2_with fail
    go_at_call 101; refine (nudge_any _ _ _).mono ?_; rintro e' w2 ⟨rfl, rfl⟩
    go_wp2_with fail
    go_at_call 103; refine (floor_any _ _).mono ?_; rintro e' w2 ⟨rfl, rfl⟩
    rw [HDMAX.out]
    by_cases h1 : dmin ≤ dmax / 10 * 10
    · have HF := Lib.hid (show Ending.returned (.tuple #[.int .u64 (dmax / 10), .int .i64 (-(p - 1))]) = .returned (.tuple #[.int .u64 (sfT m e p mn mx od).1, .int .i64 (sfT m e p mn mx od).2]) by rw [HTT.out, if_pos h1])
      go_wp2
      go_ret2
      exact ⟨HF.out, bel_drewN _ HB1.out⟩
    · by_cases h2 : dmin < dmax
      · have HF := Lib.hid (show Ending.returned (.tuple #[.int .u64 (roundU (uscaleU m PH PL S)), .int .i64 (-p)]) = .returned (.tuple #[.int .u64 (sfT m e p mn mx od).1, .int .i64 (sfT m e p mn mx od).2]) by rw [HTT.out, if_neg h1, if_pos h2])
        go_wp2_with fail
        go_at_call 100; refine (uscale_any m PH PL S hm q1 q2 _ _ (by first | exact c0 | (simp only [World.cell?_drewN]; exact c0)) (by first | exact c1 | (simp only [World.cell?_drewN]; exact c1)) (by first | exact c2 | (simp only [World.cell?_drewN]; exact c2))).mono ?_; rintro e' w2 ⟨rfl, n3, rfl⟩
        go_wp2_with (go_at_call 104; refine (round_any _ _).mono ?_; rintro e' w2 ⟨rfl, rfl⟩)
        go_ret2
        exact ⟨HF.out, bel_drewN _ HB1.out⟩
      · have HF := Lib.hid (show Ending.returned (.tuple #[.int .u64 dmin, .int .i64 (-p)]) = .returned (.tuple #[.int .u64 (sfT m e p mn mx od).1, .int .i64 (sfT m e p mn mx od).2]) by rw [HTT.out, if_neg h1, if_neg h2])
        go_wp2
        go_ret2
        exact ⟨HF.out, bel_drewN _ HB1.out⟩
/-- The shortest decimal of a normalized mantissa m and its power of two e. -/
def shortF (m : Nat) (e : Int) : Int × Int :=
  if ((m : Int) == 9223372036854775808 && decide (-1085 < e)) = true then sfT m e (-(skw (e + 11))) (IntKind.u64.wrap ((m : Int) - 512)) (IntKind.u64.wrap ((m : Int) + 1024)) (oddM m 2048)
  else if -1085 ≤ e then sfT m e (-(l10p (e + 11))) (IntKind.u64.wrap ((m : Int) - 1024)) (IntKind.u64.wrap ((m : Int) + 1024)) (oddM m 2048)
  else sfT m e (-(l10p (-1074))) (IntKind.u64.wrap ((m : Int) - IntKind.u64.wrap (2 ^ ((-1074 - e).toNat - 1)))) (IntKind.u64.wrap ((m : Int) + IntKind.u64.wrap (2 ^ ((-1074 - e).toNat - 1)))) (bits BinOp.and IntKind.i64 (wrap64 ((m : Int) / 2 ^ (-1074 - e).toNat)) 1)
theorem short_any (m : Nat) (e : Int) (hm : m < 18446744073709551616) (he1 : -1137 ≤ e) (he2 : e ≤ 980) (w : World) (ht : PowTab w) : Calls Tryz.prog 83 #[.int .u64 m, .int .i64 e] w fun e' w' => e' = .returned (.tuple #[.int .u64 (shortF m e).1, .int .i64 (shortF m e).2]) ∧ Below w.heap.size w w' := by
  unfold shortF
  cases hb : ((m : Int) == 9223372036854775808 && decide (-1085 < e))
  · by_cases h : -1085 ≤ e
    · rw [if_neg (by simp), if_pos h]
      exact short_mid m e hm h he2 hb w ht
    · rw [if_neg (by simp), if_neg h]
      exact short_low m e hm (-1074 - e).toNat (by omega) (by omega) (by omega) (by omega) h he1 (by omega) w ht
  · rw [if_pos rfl]
    rw [Bool.and_eq_true, decide_eq_true_iff] at hb
    exact short_top m e hm hb.2 he2 hb.1 w ht
theorem sfT_bd (m : Nat) (e p mn mx odd : Int) (h1 : -332 ≤ p) (h2 : p ≤ 332) : 0 ≤ (sfT m e p mn mx odd).1 ∧ (sfT m e p mn mx odd).1 ≤ 4611686018427387903 ∧ -332 ≤ (sfT m e p mn mx odd).2 ∧ (sfT m e p mn mx odd).2 ≤ 333 := by
  unfold sfT
  have a := ceil_bd (nudgeU (uscaleU mn.toNat (powHi (p + 348).toNat) (powLo (p + 348).toNat) (preS e p (l2p p))) odd)
  have b := floor_bd (nudgeU (uscaleU mx.toNat (powHi (p + 348).toNat) (powLo (p + 348).toNat) (preS e p (l2p p))) (wrap64 (-odd)))
  have c := round_bd (uscaleU m (powHi (p + 348).toNat) (powLo (p + 348).toNat) (preS e p (l2p p)))
  generalize ceilU (nudgeU (uscaleU mn.toNat (powHi (p + 348).toNat) (powLo (p + 348).toNat) (preS e p (l2p p))) odd) = A at *
  generalize floorU (nudgeU (uscaleU mx.toNat (powHi (p + 348).toNat) (powLo (p + 348).toNat) (preS e p (l2p p))) (wrap64 (-odd))) = B at *
  generalize roundU (uscaleU m (powHi (p + 348).toNat) (powLo (p + 348).toNat) (preS e p (l2p p))) = C at *
  split
  · simp only; omega
  · split
    · simp only; omega
    · simp only; omega
theorem short_bd (m : Nat) (e : Int) (he1 : -1137 ≤ e) (he2 : e ≤ 980) : 0 ≤ (shortF m e).1 ∧ (shortF m e).1 ≤ 4611686018427387903 ∧ -332 ≤ (shortF m e).2 ∧ (shortF m e).2 ≤ 333 := by
  unfold shortF
  split
  · rename_i h
    rw [Bool.and_eq_true, decide_eq_true_iff] at h
    have := skw_bd (e + 11) (by omega) (by omega)
    exact sfT_bd _ _ _ _ _ _ (by omega) (by omega)
  · split
    · have := l10p_bd (e + 11) (by omega) (by omega)
      exact sfT_bd _ _ _ _ _ _ (by omega) (by omega)
    · have := l10p_bd (-1074) (by omega) (by omega)
      exact sfT_bd _ _ _ _ _ _ (by omega) (by omega)
end Num
end Go.Proofs.YtahcgdjcjapnkaaGreatDoor
