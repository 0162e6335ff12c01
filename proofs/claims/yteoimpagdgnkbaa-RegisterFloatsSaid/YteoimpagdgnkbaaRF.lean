/-
  RegisterFloats at every pair of floats, by five ways.
-/
import Derived.Test.YteoimpagdgnkbaaRE
namespace Go.Proofs.Yteoimpagdgnkbaa
open Go.RowKit
namespace Num
open Ints
set_option linter.unusedSimpArgs false
set_option linter.unusedVariables false
theorem ord_some {x y : Nat} (h1 : FloatKind.f64.format.order x x = some .eq) (h2 : FloatKind.f64.format.order y y = some .eq) : ∃ o, FloatKind.f64.format.order x y = some o := by
  unfold Ieee.Format.order at *
  cases hx : FloatKind.f64.format.read x <;> cases hy : FloatKind.f64.format.read y <;> rw [hx] at h1 <;> rw [hy] at h2 <;> first | (cases h1; done) | (cases h2; done) | exact ⟨_, rfl⟩
theorem ord_nan_l {x : Nat} (y : Nat) (h1 : (FloatKind.f64.format.order x x != some .eq) = true) : (FloatKind.f64.format.order x y == some .eq) = false := by
  cases h : (FloatKind.f64.format.read x).isNaN
  · have h2 := Flo.feq_self h
    unfold Flo.feq at h2
    rw [bne, h2] at h1
    cases h1
  · exact Flo.feq_nan h y
theorem ord_nan_r (x : Nat) {y : Nat} (h2 : (FloatKind.f64.format.order y y != some .eq) = true) : (FloatKind.f64.format.order x y == some .eq) = false := by
  cases h : (FloatKind.f64.format.read y).isNaN
  · have h3 := Flo.feq_self h
    unfold Flo.feq at h3
    rw [bne, h3] at h2
    cases h2
  · unfold Ieee.Format.order
    cases hy : FloatKind.f64.format.read y <;> rw [hy] at h
    all_goals first | (cases h; done) | (cases FloatKind.f64.format.read x <;> rfl)
theorem cm_nn {x y : Nat} (h1 : (FloatKind.f64.format.order x x != some .eq) = true) (h2 : (FloatKind.f64.format.order y y != some .eq) = true) : (cmpF (Flo.canon x) (Flo.canon y) == 0) = true := by
  have e1 : Flo.feq x x = false := by unfold Flo.feq; cases h : (FloatKind.f64.format.order x x == some .eq); rfl; simp [bne, h] at h1
  have e2 : Flo.feq y y = false := by unfold Flo.feq; cases h : (FloatKind.f64.format.order y y == some .eq); rfl; simp [bne, h] at h2
  rw [Flo.canon_no e1, Flo.canon_no e2]
  decide +kernel
theorem nan_self : (FloatKind.f64.format.order Flo.nan Flo.nan != some .eq) = true := by decide +kernel
theorem cm_nx {x y : Nat} (h1 : (FloatKind.f64.format.order x x != some .eq) = true) (h2 : FloatKind.f64.format.order y y = some .eq) : (cmpF (Flo.canon x) (Flo.canon y) == 0) = false := by
  have e1 : Flo.feq x x = false := by unfold Flo.feq; cases h : (FloatKind.f64.format.order x x == some .eq); rfl; simp [bne, h] at h1
  have e2 : Flo.feq y y = true := by unfold Flo.feq; rw [h2]; rfl
  rw [Flo.canon_no e1, Flo.canon_yes e2]
  unfold cmpF fo
  rw [if_pos nan_self, h2]
  rfl
theorem cm_xn {x y : Nat} (h1 : FloatKind.f64.format.order x x = some .eq) (h2 : (FloatKind.f64.format.order y y != some .eq) = true) : (cmpF (Flo.canon x) (Flo.canon y) == 0) = false := by
  have e1 : Flo.feq x x = true := by unfold Flo.feq; rw [h1]; rfl
  have e2 : Flo.feq y y = false := by unfold Flo.feq; cases h : (FloatKind.f64.format.order y y == some .eq); rfl; simp [bne, h] at h2
  rw [Flo.canon_yes e1, Flo.canon_no e2]
  unfold cmpF fo
  rw [h1, if_neg (by decide), if_pos nan_self]
  rfl
theorem cm_xx {x y : Nat} (h1 : FloatKind.f64.format.order x x = some .eq) (h2 : FloatKind.f64.format.order y y = some .eq) : (cmpF (Flo.canon x) (Flo.canon y) == 0) = (FloatKind.f64.format.order x y == some .eq) := by
  have e1 : Flo.feq x x = true := by unfold Flo.feq; rw [h1]; rfl
  have e2 : Flo.feq y y = true := by unfold Flo.feq; rw [h2]; rfl
  rw [Flo.canon_yes e1, Flo.canon_yes e2]
  unfold cmpF fo
  rw [h1, h2, if_neg (by decide), if_neg (by decide)]
  have ho : ∃ o, FloatKind.f64.format.order x y = some o := ord_some h1 h2
  obtain ⟨o, ho⟩ := ho
  rw [ho]
  cases o <;> rfl
theorem cm_eq {x y : Nat} (h1 : FloatKind.f64.format.order x x = some .eq) (h2 : FloatKind.f64.format.order y y = some .eq) (h3 : FloatKind.f64.format.order x y = some .eq) : (cmpF (Flo.canon x) (Flo.canon y) == 0) = true := by
  have h := cm_xx h1 h2
  rw [h3] at h
  exact h
theorem do_flo (x y : Nat) (hx : x < 2 ^ 64) (hy : y < 2 ^ 64) (R : VT 1 × VT 1 × Int) (hR : (if (cmpF (Flo.canon x) (Flo.canon y) == 0) = true then (numT 0 7, numT 0 1, 0) else (floT 0 (Flo.canon x), numT 0 0, (0 : Int))) = R) (w : World) :
    Calls Try.prog 11 #[.agg #[.int .i64 2, .int .i64 0, .float .f64 (Flo.canon x), .string ⟨#[]⟩, .slice none 0 0], .string { data := #[99, 97, 115] }, .slice (some ⟨w.heap.size, 0, none⟩) 2 2] (w.alloc (.cells #[.int .i64 2, .int .i64 0, .float .f64 (Flo.canon y), .string ⟨#[]⟩, .slice none 0 0, .int .i64 1, .int .i64 7, .float .f64 0, .string ⟨#[]⟩, .slice none 0 0] 27)) fun e w' => DoP w 1 R.1 R.2.1 R.2.2 e w' := by
  refine do_pair w _ (floT 0 (Flo.canon x)) (leafR w 0 2 0 (Flo.canon x) ⟨#[]⟩ (by decide) (by decide) (Flo.canon_lt hx) (by decide)) rfl (by decide : (1 : Nat) ≤ 1000) { data := #[99, 97, 115] } 2 0 (Flo.canon y) ⟨#[]⟩ (by decide) (by decide) (Flo.canon_lt hy) (by decide) 1 7 0 ⟨#[]⟩ (by decide) (by decide) (by decide) (by decide) (good_pair rfl (by decide : (1 : Nat) ≤ 1000) rfl (by decide : (1 : Nat) ≤ 1000)) R ?_
  rw [← hR]
  refine (reg_flo (Flo.canon x) (Flo.canon y)).trans ?_
  rw [Flo.canon_canon]
set_option maxRecDepth 100000 in
set_option maxHeartbeats 8000000 in
theorem floats_nn (x y : Nat) (hx : x < 2 ^ 64) (hy : y < 2 ^ 64) (w : World) (h1 : (FloatKind.f64.format.order x x != some .eq) = true) (h2 : (FloatKind.f64.format.order y y != some .eq) = true) (h3 : (FloatKind.f64.format.order x y == some .eq) = false) :
    Calls Try.prog 5 #[.float .f64 x, .float .f64 y] w fun e w' => e = .returned (.bool true) ∧ Below w.heap.size w w' := by
  have HX := Lib.hid hx
  have hR : (if (cmpF (Flo.canon x) (Flo.canon y) == 0) = true then (numT 0 7, numT 0 1, 0) else (floT 0 (Flo.canon x), numT 0 0, (0 : Int))) = (numT 0 7, numT 0 1, 0) := by rw [cm_nn h1 h2, if_pos rfl]
  have HDO := Lib.hid (do_flo x y hx hy _ hR)
  unfold DoP at HDO
  clear hR hx hy
  go_enter Try.func5, Try.ntmps5
  go_wp2_with fail
  go_at_call 7; refine (known8 _).mono ?_; rintro e w1 ⟨rfl, hb1⟩
  have HB1 := Lib.hid hb1
  clear hb1
  go_wp2_with fail
  go_at_call 17; refine (float_ref_any _ _).mono ?_; rintro e w2 ⟨rfl, hb2⟩
  have HB2 := Lib.hid (bel_step HB1.out hb2)
  clear hb2 HB1
  go_wp2_with fail
  go_at_call 17; refine (float_ref_any _ _).mono ?_; rintro e w3 ⟨rfl, hb3⟩
  have HB3 := Lib.hid (bel_step HB2.out hb3)
  clear hb3 HB2
  go_wp2_with fail
  go_at_call 18; refine (int_ref_any _ _).mono ?_; rintro e w4 ⟨rfl, hb4⟩
  have HB4 := Lib.hid (bel_step HB3.out hb4)
  clear hb4 HB3
  go_wp2_with fail
  go_at_call 11; refine (HDO.out _).mono ?_; rintro e w5 ⟨t, v, rfl, hb5, ht, hv⟩
  obtain ⟨q1, d1, rfl⟩ := num_shape ht
  obtain ⟨q2, d2, rfl⟩ := num_shape hv
  have HB5 := Lib.hid (Below.drew (bel_alloc (bel_alloc (bel_step HB4.out hb5) (.cells #[.int .i64 1, .int .i64 7, .float .f64 0, .string ⟨#[]⟩, .slice q1 0 d1] 27)) (.cells #[.int .i64 1, .int .i64 1, .float .f64 0, .string ⟨#[]⟩, .slice q2 0 d2] 27)))
  have hw5 := Below.drew (bel_alloc (bel_alloc (Below.refl w5.heap.size w5) (.cells #[.int .i64 1, .int .i64 7, .float .f64 0, .string ⟨#[]⟩, .slice q1 0 d1] 27)) (.cells #[.int .i64 1, .int .i64 1, .float .f64 0, .string ⟨#[]⟩, .slice q2 0 d2] 27))
  have HT := Lib.hid (rep_keep hw5 _ _ _ (repS_rep _ _ _ ht))
  have HRA := Lib.hid (show (((w5.alloc (.cells #[.int .i64 1, .int .i64 7, .float .f64 0, .string ⟨#[]⟩, .slice q1 0 d1] 27)).alloc (.cells #[.int .i64 1, .int .i64 1, .float .f64 0, .string ⟨#[]⟩, .slice q2 0 d2] 27)).drew).heap[w5.heap.size]? = _ from row_alloc_step (row_alloc w5 #[.int .i64 1, .int .i64 7, .float .f64 0, .string ⟨#[]⟩, .slice q1 0 d1] 27) (.cells #[.int .i64 1, .int .i64 1, .float .f64 0, .string ⟨#[]⟩, .slice q2 0 d2] 27))
  clear hb5 ht hv hw5 HDO HB4
  go_wp2_with fail
  go_region_with (first
    | (go_at_call 18; refine (int_ref_any _ _).mono ?_; rintro e w6 ⟨rfl, hb6⟩; have HB6 := Lib.hid (bel_step HB5.out hb6); have xa := row_step HRA.out hb6; have a0 := row_cell xa 0; have a1 := row_cell xa 1; have a2 := row_cell xa 2; have a3 := row_cell xa 3; have a4 := row_cell xa 4; simp only [List.getElem?_toArray, List.getElem?_cons_zero, List.getElem?_cons_succ] at a0 a1 a2 a3 a4; have HT6 := Lib.hid (rep_keep hb6 _ _ _ HT.out); clear hb6 xa)
    | (go_at_call 13; refine (same_any 1 _ _ _ _ HT6.out (leafR _ 0 1 7 0 ⟨#[]⟩ (by decide) (by decide) (by decide) (by decide))).mono ?_; rintro e w7 ⟨rfl, hb7⟩; have HB7 := Lib.hid (bel_step HB6.out hb7); clear hb7))
  all_goals
    go_wp2
    go_ret
    exact ⟨rfl, HB7.out⟩
set_option maxRecDepth 100000 in
set_option maxHeartbeats 8000000 in
theorem floats_nx (x y : Nat) (hx : x < 2 ^ 64) (hy : y < 2 ^ 64) (w : World) (h1 : (FloatKind.f64.format.order x x != some .eq) = true) (h2 : FloatKind.f64.format.order y y = some .eq) (h3 : (FloatKind.f64.format.order x y == some .eq) = false) :
    Calls Try.prog 5 #[.float .f64 x, .float .f64 y] w fun e w' => e = .returned (.bool true) ∧ Below w.heap.size w w' := by
  have HX := Lib.hid hx
  have hR : (if (cmpF (Flo.canon x) (Flo.canon y) == 0) = true then (numT 0 7, numT 0 1, 0) else (floT 0 (Flo.canon x), numT 0 0, (0 : Int))) = (floT 0 (Flo.canon x), numT 0 0, 0) := by rw [cm_nx h1 h2, if_neg Bool.false_ne_true]
  have HDO := Lib.hid (do_flo x y hx hy _ hR)
  unfold DoP at HDO
  clear hR hx hy
  go_enter Try.func5, Try.ntmps5
  go_wp2_with fail
  go_at_call 7; refine (known8 _).mono ?_; rintro e w1 ⟨rfl, hb1⟩
  have HB1 := Lib.hid hb1
  clear hb1
  go_wp2_with fail
  go_at_call 17; refine (float_ref_any _ _).mono ?_; rintro e w2 ⟨rfl, hb2⟩
  have HB2 := Lib.hid (bel_step HB1.out hb2)
  clear hb2 HB1
  go_wp2_with fail
  go_at_call 17; refine (float_ref_any _ _).mono ?_; rintro e w3 ⟨rfl, hb3⟩
  have HB3 := Lib.hid (bel_step HB2.out hb3)
  clear hb3 HB2
  go_wp2_with fail
  go_at_call 18; refine (int_ref_any _ _).mono ?_; rintro e w4 ⟨rfl, hb4⟩
  have HB4 := Lib.hid (bel_step HB3.out hb4)
  clear hb4 HB3
  go_wp2_with fail
  go_at_call 11; refine (HDO.out _).mono ?_; rintro e w5 ⟨t, v, rfl, hb5, ht, hv⟩
  obtain ⟨q1, d1, rfl⟩ := num_shape ht
  obtain ⟨q2, d2, rfl⟩ := num_shape hv
  have HB5 := Lib.hid (Below.drew (bel_alloc (bel_alloc (bel_step HB4.out hb5) (.cells #[.int .i64 2, .int .i64 0, .float .f64 (Flo.canon x), .string ⟨#[]⟩, .slice q1 0 d1] 27)) (.cells #[.int .i64 1, .int .i64 0, .float .f64 0, .string ⟨#[]⟩, .slice q2 0 d2] 27)))
  have hw5 := Below.drew (bel_alloc (bel_alloc (Below.refl w5.heap.size w5) (.cells #[.int .i64 2, .int .i64 0, .float .f64 (Flo.canon x), .string ⟨#[]⟩, .slice q1 0 d1] 27)) (.cells #[.int .i64 1, .int .i64 0, .float .f64 0, .string ⟨#[]⟩, .slice q2 0 d2] 27))
  have HT := Lib.hid (rep_keep hw5 _ _ _ (repS_rep _ _ _ ht))
  have HRA := Lib.hid (show (((w5.alloc (.cells #[.int .i64 2, .int .i64 0, .float .f64 (Flo.canon x), .string ⟨#[]⟩, .slice q1 0 d1] 27)).alloc (.cells #[.int .i64 1, .int .i64 0, .float .f64 0, .string ⟨#[]⟩, .slice q2 0 d2] 27)).drew).heap[w5.heap.size]? = _ from row_alloc_step (row_alloc w5 #[.int .i64 2, .int .i64 0, .float .f64 (Flo.canon x), .string ⟨#[]⟩, .slice q1 0 d1] 27) (.cells #[.int .i64 1, .int .i64 0, .float .f64 0, .string ⟨#[]⟩, .slice q2 0 d2] 27))
  clear hb5 ht hv hw5 HDO HB4
  go_wp2_with fail
  go_region_with (first
    | (go_at_call 17; refine (float_ref_any _ _).mono ?_; rintro e w6 ⟨rfl, hb6⟩; have HB6 := Lib.hid (bel_step HB5.out hb6); have xa := row_step HRA.out hb6; have a0 := row_cell xa 0; have a1 := row_cell xa 1; have a2 := row_cell xa 2; have a3 := row_cell xa 3; have a4 := row_cell xa 4; simp only [List.getElem?_toArray, List.getElem?_cons_zero, List.getElem?_cons_succ] at a0 a1 a2 a3 a4; have HT6 := Lib.hid (rep_keep hb6 _ _ _ HT.out); clear hb6 xa)
    | (go_at_call 13; refine (same_any 1 _ _ _ _ HT6.out (leafR _ 0 2 0 (Flo.canon x) ⟨#[]⟩ (by decide) (by decide) (Flo.canon_lt HX.out) (by decide))).mono ?_; rintro e w7 ⟨rfl, hb7⟩; have HB7 := Lib.hid (bel_step HB6.out hb7); clear hb7))
  all_goals
    go_wp2
    go_ret
    exact ⟨rfl, HB7.out⟩
set_option maxRecDepth 100000 in
set_option maxHeartbeats 8000000 in
theorem floats_xn (x y : Nat) (hx : x < 2 ^ 64) (hy : y < 2 ^ 64) (w : World) (h1 : FloatKind.f64.format.order x x = some .eq) (h2 : (FloatKind.f64.format.order y y != some .eq) = true) (h3 : (FloatKind.f64.format.order x y == some .eq) = false) :
    Calls Try.prog 5 #[.float .f64 x, .float .f64 y] w fun e w' => e = .returned (.bool true) ∧ Below w.heap.size w w' := by
  have HX := Lib.hid hx
  have hR : (if (cmpF (Flo.canon x) (Flo.canon y) == 0) = true then (numT 0 7, numT 0 1, 0) else (floT 0 (Flo.canon x), numT 0 0, (0 : Int))) = (floT 0 (Flo.canon x), numT 0 0, 0) := by rw [cm_xn h1 h2, if_neg Bool.false_ne_true]
  have HDO := Lib.hid (do_flo x y hx hy _ hR)
  unfold DoP at HDO
  clear hR hx hy
  go_enter Try.func5, Try.ntmps5
  go_wp2_with fail
  go_at_call 7; refine (known8 _).mono ?_; rintro e w1 ⟨rfl, hb1⟩
  have HB1 := Lib.hid hb1
  clear hb1
  go_wp2_with fail
  go_at_call 17; refine (float_ref_any _ _).mono ?_; rintro e w2 ⟨rfl, hb2⟩
  have HB2 := Lib.hid (bel_step HB1.out hb2)
  clear hb2 HB1
  go_wp2_with fail
  go_at_call 17; refine (float_ref_any _ _).mono ?_; rintro e w3 ⟨rfl, hb3⟩
  have HB3 := Lib.hid (bel_step HB2.out hb3)
  clear hb3 HB2
  go_wp2_with fail
  go_at_call 18; refine (int_ref_any _ _).mono ?_; rintro e w4 ⟨rfl, hb4⟩
  have HB4 := Lib.hid (bel_step HB3.out hb4)
  clear hb4 HB3
  go_wp2_with fail
  go_at_call 11; refine (HDO.out _).mono ?_; rintro e w5 ⟨t, v, rfl, hb5, ht, hv⟩
  obtain ⟨q1, d1, rfl⟩ := num_shape ht
  obtain ⟨q2, d2, rfl⟩ := num_shape hv
  have HB5 := Lib.hid (Below.drew (bel_alloc (bel_alloc (bel_step HB4.out hb5) (.cells #[.int .i64 2, .int .i64 0, .float .f64 (Flo.canon x), .string ⟨#[]⟩, .slice q1 0 d1] 27)) (.cells #[.int .i64 1, .int .i64 0, .float .f64 0, .string ⟨#[]⟩, .slice q2 0 d2] 27)))
  have hw5 := Below.drew (bel_alloc (bel_alloc (Below.refl w5.heap.size w5) (.cells #[.int .i64 2, .int .i64 0, .float .f64 (Flo.canon x), .string ⟨#[]⟩, .slice q1 0 d1] 27)) (.cells #[.int .i64 1, .int .i64 0, .float .f64 0, .string ⟨#[]⟩, .slice q2 0 d2] 27))
  have HT := Lib.hid (rep_keep hw5 _ _ _ (repS_rep _ _ _ ht))
  have HRA := Lib.hid (show (((w5.alloc (.cells #[.int .i64 2, .int .i64 0, .float .f64 (Flo.canon x), .string ⟨#[]⟩, .slice q1 0 d1] 27)).alloc (.cells #[.int .i64 1, .int .i64 0, .float .f64 0, .string ⟨#[]⟩, .slice q2 0 d2] 27)).drew).heap[w5.heap.size]? = _ from row_alloc_step (row_alloc w5 #[.int .i64 2, .int .i64 0, .float .f64 (Flo.canon x), .string ⟨#[]⟩, .slice q1 0 d1] 27) (.cells #[.int .i64 1, .int .i64 0, .float .f64 0, .string ⟨#[]⟩, .slice q2 0 d2] 27))
  clear hb5 ht hv hw5 HDO HB4
  go_wp2_with fail
  go_region_with (first
    | (go_at_call 17; refine (float_ref_any _ _).mono ?_; rintro e w6 ⟨rfl, hb6⟩; have HB6 := Lib.hid (bel_step HB5.out hb6); have xa := row_step HRA.out hb6; have a0 := row_cell xa 0; have a1 := row_cell xa 1; have a2 := row_cell xa 2; have a3 := row_cell xa 3; have a4 := row_cell xa 4; simp only [List.getElem?_toArray, List.getElem?_cons_zero, List.getElem?_cons_succ] at a0 a1 a2 a3 a4; have HT6 := Lib.hid (rep_keep hb6 _ _ _ HT.out); clear hb6 xa)
    | (go_at_call 13; refine (same_any 1 _ _ _ _ HT6.out (leafR _ 0 2 0 (Flo.canon x) ⟨#[]⟩ (by decide) (by decide) (Flo.canon_lt HX.out) (by decide))).mono ?_; rintro e w7 ⟨rfl, hb7⟩; have HB7 := Lib.hid (bel_step HB6.out hb7); clear hb7))
  all_goals
    go_wp2
    go_ret
    exact ⟨rfl, HB7.out⟩
set_option maxRecDepth 100000 in
set_option maxHeartbeats 8000000 in
theorem floats_eq (x y : Nat) (hx : x < 2 ^ 64) (hy : y < 2 ^ 64) (w : World) (h1 : FloatKind.f64.format.order x x = some .eq) (h2 : FloatKind.f64.format.order y y = some .eq) (h3 : FloatKind.f64.format.order x y = some .eq) :
    Calls Try.prog 5 #[.float .f64 x, .float .f64 y] w fun e w' => e = .returned (.bool true) ∧ Below w.heap.size w w' := by
  have HX := Lib.hid hx
  have hR : (if (cmpF (Flo.canon x) (Flo.canon y) == 0) = true then (numT 0 7, numT 0 1, 0) else (floT 0 (Flo.canon x), numT 0 0, (0 : Int))) = (numT 0 7, numT 0 1, 0) := by rw [cm_eq h1 h2 h3, if_pos rfl]
  have HDO := Lib.hid (do_flo x y hx hy _ hR)
  unfold DoP at HDO
  clear hR hx hy
  go_enter Try.func5, Try.ntmps5
  go_wp2_with fail
  go_at_call 7; refine (known8 _).mono ?_; rintro e w1 ⟨rfl, hb1⟩
  have HB1 := Lib.hid hb1
  clear hb1
  go_wp2_with fail
  go_at_call 17; refine (float_ref_any _ _).mono ?_; rintro e w2 ⟨rfl, hb2⟩
  have HB2 := Lib.hid (bel_step HB1.out hb2)
  clear hb2 HB1
  go_wp2_with fail
  go_at_call 17; refine (float_ref_any _ _).mono ?_; rintro e w3 ⟨rfl, hb3⟩
  have HB3 := Lib.hid (bel_step HB2.out hb3)
  clear hb3 HB2
  go_wp2_with fail
  go_at_call 18; refine (int_ref_any _ _).mono ?_; rintro e w4 ⟨rfl, hb4⟩
  have HB4 := Lib.hid (bel_step HB3.out hb4)
  clear hb4 HB3
  go_wp2_with fail
  go_at_call 11; refine (HDO.out _).mono ?_; rintro e w5 ⟨t, v, rfl, hb5, ht, hv⟩
  obtain ⟨q1, d1, rfl⟩ := num_shape ht
  obtain ⟨q2, d2, rfl⟩ := num_shape hv
  have HB5 := Lib.hid (Below.drew (bel_alloc (bel_alloc (bel_step HB4.out hb5) (.cells #[.int .i64 1, .int .i64 7, .float .f64 0, .string ⟨#[]⟩, .slice q1 0 d1] 27)) (.cells #[.int .i64 1, .int .i64 1, .float .f64 0, .string ⟨#[]⟩, .slice q2 0 d2] 27)))
  have hw5 := Below.drew (bel_alloc (bel_alloc (Below.refl w5.heap.size w5) (.cells #[.int .i64 1, .int .i64 7, .float .f64 0, .string ⟨#[]⟩, .slice q1 0 d1] 27)) (.cells #[.int .i64 1, .int .i64 1, .float .f64 0, .string ⟨#[]⟩, .slice q2 0 d2] 27))
  have HT := Lib.hid (rep_keep hw5 _ _ _ (repS_rep _ _ _ ht))
  have HRA := Lib.hid (show (((w5.alloc (.cells #[.int .i64 1, .int .i64 7, .float .f64 0, .string ⟨#[]⟩, .slice q1 0 d1] 27)).alloc (.cells #[.int .i64 1, .int .i64 1, .float .f64 0, .string ⟨#[]⟩, .slice q2 0 d2] 27)).drew).heap[w5.heap.size]? = _ from row_alloc_step (row_alloc w5 #[.int .i64 1, .int .i64 7, .float .f64 0, .string ⟨#[]⟩, .slice q1 0 d1] 27) (.cells #[.int .i64 1, .int .i64 1, .float .f64 0, .string ⟨#[]⟩, .slice q2 0 d2] 27))
  clear hb5 ht hv hw5 HDO HB4
  go_wp2_with fail
  go_region_with (first
    | (go_at_call 18; refine (int_ref_any _ _).mono ?_; rintro e w6 ⟨rfl, hb6⟩; have HB6 := Lib.hid (bel_step HB5.out hb6); have xa := row_step HRA.out hb6; have a0 := row_cell xa 0; have a1 := row_cell xa 1; have a2 := row_cell xa 2; have a3 := row_cell xa 3; have a4 := row_cell xa 4; simp only [List.getElem?_toArray, List.getElem?_cons_zero, List.getElem?_cons_succ] at a0 a1 a2 a3 a4; have HT6 := Lib.hid (rep_keep hb6 _ _ _ HT.out); clear hb6 xa)
    | (go_at_call 13; refine (same_any 1 _ _ _ _ HT6.out (leafR _ 0 1 7 0 ⟨#[]⟩ (by decide) (by decide) (by decide) (by decide))).mono ?_; rintro e w7 ⟨rfl, hb7⟩; have HB7 := Lib.hid (bel_step HB6.out hb7); clear hb7))
  all_goals
    go_wp2
    go_ret
    exact ⟨rfl, HB7.out⟩
set_option maxRecDepth 100000 in
set_option maxHeartbeats 8000000 in
theorem floats_ne (x y : Nat) (hx : x < 2 ^ 64) (hy : y < 2 ^ 64) (w : World) (h1 : FloatKind.f64.format.order x x = some .eq) (h2 : FloatKind.f64.format.order y y = some .eq) (h3 : (FloatKind.f64.format.order x y == some .eq) = false) :
    Calls Try.prog 5 #[.float .f64 x, .float .f64 y] w fun e w' => e = .returned (.bool true) ∧ Below w.heap.size w w' := by
  have HX := Lib.hid hx
  have hR : (if (cmpF (Flo.canon x) (Flo.canon y) == 0) = true then (numT 0 7, numT 0 1, 0) else (floT 0 (Flo.canon x), numT 0 0, (0 : Int))) = (floT 0 (Flo.canon x), numT 0 0, 0) := by rw [(cm_xx h1 h2).trans h3, if_neg Bool.false_ne_true]
  have HDO := Lib.hid (do_flo x y hx hy _ hR)
  unfold DoP at HDO
  clear hR hx hy
  go_enter Try.func5, Try.ntmps5
  go_wp2_with fail
  go_at_call 7; refine (known8 _).mono ?_; rintro e w1 ⟨rfl, hb1⟩
  have HB1 := Lib.hid hb1
  clear hb1
  go_wp2_with fail
  go_at_call 17; refine (float_ref_any _ _).mono ?_; rintro e w2 ⟨rfl, hb2⟩
  have HB2 := Lib.hid (bel_step HB1.out hb2)
  clear hb2 HB1
  go_wp2_with fail
  go_at_call 17; refine (float_ref_any _ _).mono ?_; rintro e w3 ⟨rfl, hb3⟩
  have HB3 := Lib.hid (bel_step HB2.out hb3)
  clear hb3 HB2
  go_wp2_with fail
  go_at_call 18; refine (int_ref_any _ _).mono ?_; rintro e w4 ⟨rfl, hb4⟩
  have HB4 := Lib.hid (bel_step HB3.out hb4)
  clear hb4 HB3
  go_wp2_with fail
  go_at_call 11; refine (HDO.out _).mono ?_; rintro e w5 ⟨t, v, rfl, hb5, ht, hv⟩
  obtain ⟨q1, d1, rfl⟩ := num_shape ht
  obtain ⟨q2, d2, rfl⟩ := num_shape hv
  have HB5 := Lib.hid (Below.drew (bel_alloc (bel_alloc (bel_step HB4.out hb5) (.cells #[.int .i64 2, .int .i64 0, .float .f64 (Flo.canon x), .string ⟨#[]⟩, .slice q1 0 d1] 27)) (.cells #[.int .i64 1, .int .i64 0, .float .f64 0, .string ⟨#[]⟩, .slice q2 0 d2] 27)))
  have hw5 := Below.drew (bel_alloc (bel_alloc (Below.refl w5.heap.size w5) (.cells #[.int .i64 2, .int .i64 0, .float .f64 (Flo.canon x), .string ⟨#[]⟩, .slice q1 0 d1] 27)) (.cells #[.int .i64 1, .int .i64 0, .float .f64 0, .string ⟨#[]⟩, .slice q2 0 d2] 27))
  have HT := Lib.hid (rep_keep hw5 _ _ _ (repS_rep _ _ _ ht))
  have HRA := Lib.hid (show (((w5.alloc (.cells #[.int .i64 2, .int .i64 0, .float .f64 (Flo.canon x), .string ⟨#[]⟩, .slice q1 0 d1] 27)).alloc (.cells #[.int .i64 1, .int .i64 0, .float .f64 0, .string ⟨#[]⟩, .slice q2 0 d2] 27)).drew).heap[w5.heap.size]? = _ from row_alloc_step (row_alloc w5 #[.int .i64 2, .int .i64 0, .float .f64 (Flo.canon x), .string ⟨#[]⟩, .slice q1 0 d1] 27) (.cells #[.int .i64 1, .int .i64 0, .float .f64 0, .string ⟨#[]⟩, .slice q2 0 d2] 27))
  clear hb5 ht hv hw5 HDO HB4
  go_wp2_with fail
  go_region_with (first
    | (go_at_call 17; refine (float_ref_any _ _).mono ?_; rintro e w6 ⟨rfl, hb6⟩; have HB6 := Lib.hid (bel_step HB5.out hb6); have xa := row_step HRA.out hb6; have a0 := row_cell xa 0; have a1 := row_cell xa 1; have a2 := row_cell xa 2; have a3 := row_cell xa 3; have a4 := row_cell xa 4; simp only [List.getElem?_toArray, List.getElem?_cons_zero, List.getElem?_cons_succ] at a0 a1 a2 a3 a4; have HT6 := Lib.hid (rep_keep hb6 _ _ _ HT.out); clear hb6 xa)
    | (go_at_call 13; refine (same_any 1 _ _ _ _ HT6.out (leafR _ 0 2 0 (Flo.canon x) ⟨#[]⟩ (by decide) (by decide) (Flo.canon_lt HX.out) (by decide))).mono ?_; rintro e w7 ⟨rfl, hb7⟩; have HB7 := Lib.hid (bel_step HB6.out hb7); clear hb7))
  all_goals
    go_wp2
    go_ret
    exact ⟨rfl, HB7.out⟩
/-- RegisterFloats at every pair. -/
theorem rfloats_law (x : Nat) (hx : x < 18446744073709551616) (y : Nat) (hy : y < 18446744073709551616) (w : World) :
    Calls Try.prog 5 #[.float .f64 x, .float .f64 y] w fun e w' => e = .returned (.bool true) ∧ Below w.heap.size w w' := by
  have nn : ∀ z, (FloatKind.f64.format.order z z != some .eq) = false → FloatKind.f64.format.order z z = some .eq := fun z h => by
    cases e : (FloatKind.f64.format.order z z == some .eq)
    · rw [bne, e] at h; cases h
    · exact eq_of_beq e
  cases h1 : (FloatKind.f64.format.order x x != some .eq)
  · cases h2 : (FloatKind.f64.format.order y y != some .eq)
    · cases h3 : (FloatKind.f64.format.order x y == some .eq)
      · exact floats_ne x y hx hy w (nn x h1) (nn y h2) h3
      · exact floats_eq x y hx hy w (nn x h1) (nn y h2) (eq_of_beq h3)
    · exact floats_xn x y hx hy w (nn x h1) h2 (ord_nan_r x h2)
  · cases h2 : (FloatKind.f64.format.order y y != some .eq)
    · exact floats_nx x y hx hy w h1 (nn y h2) (ord_nan_l y h1)
    · exact floats_nn x y hx hy w h1 h2 (ord_nan_l y h1)
end Num
end Go.Proofs.Yteoimpagdgnkbaa
