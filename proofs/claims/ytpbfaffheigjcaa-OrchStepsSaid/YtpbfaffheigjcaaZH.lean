/-
  The example of chapter 13.
-/
import Derived.Test.YtpbfaffheigjcaaZG
import Derived.Test.YtpbfaffheigjcaaVList
import Derived.Deep.DeepCutAuto
namespace Go.Proofs.Ytpbfaffheigjcaa
open Go.RowKit
namespace Num
open Ints
set_option linter.unusedSimpArgs false
set_option linter.unusedVariables false
theorem row3_repO {x : World} {n g : Nat} {u0 u1 u2 u3 u4 v0 v1 v2 v3 v4 t0 t1 t2 t3 t4 : Value} {A B C : VT (n + 1)} (h : x.heap[g]? = some (.cells #[u0, u1, u2, u3, u4, v0, v1, v2, v3, v4, t0, t1, t2, t3, t4] 27 (0, 0))) (ha : Rep x (n + 1) (.agg #[u0, u1, u2, u3, u4]) A) (hb : Rep x (n + 1) (.agg #[v0, v1, v2, v3, v4]) B) (hc : Rep x (n + 1) (.agg #[t0, t1, t2, t3, t4]) C) : RepL x (Rep x (n + 1)) (some ⟨g, 0, none⟩) 3 3 [A, B, C] := by
  refine ⟨rfl, Nat.le_refl _, by unfold maxLen; omega, fun _ => ⟨g, 0, rfl, fun i hi => ?_⟩⟩
  have hi' : i = 0 ∨ i = 1 ∨ i = 2 := by simp at hi; omega
  rcases hi' with rfl | rfl | rfl
  · exact ⟨_, _, _, _, _, row_cell h 0, row_cell h 1, row_cell h 2, row_cell h 3, row_cell h 4, ha⟩
  · exact ⟨_, _, _, _, _, row_cell h 5, row_cell h 6, row_cell h 7, row_cell h 8, row_cell h 9, hb⟩
  · exact ⟨_, _, _, _, _, row_cell h 10, row_cell h 11, row_cell h 12, row_cell h 13, row_cell h 14, hc⟩
theorem plan_one (g b : Nat) (w : World) (h1 : w.heap[b]? = some (.cells #[.int .i64 3, .int .i64 0, .float .f64 0, .string { data := #[97] }, .slice none 0 0, .int .i64 3, .int .i64 0, .float .f64 0, .string { data := #[103, 101, 116] }, .slice none 0 0, .int .i64 1, .int .i64 1, .float .f64 0, .string ⟨#[]⟩, .slice none 0 0] 27 (0, 0))) (h2 : w.heap[g]? = some (.cells #[.int .i64 4, .int .i64 0, .float .f64 0, .string ⟨#[]⟩, .slice (some ⟨b, 0, none⟩) 3 3] 27 (0, 0))) :
    Calls Try.prog 14 #[.slice (some ⟨g, 0, none⟩) 1 1] w fun e w' => ∃ p' c', e = .returned (.tuple #[.slice p' 1 c', .int .i64 0]) ∧ OwSt w w' 1 p' 1 c' [((⟨#[97]⟩, ⟨#[103, 101, 116]⟩, [((1, 1, 0, ⟨#[]⟩, []) : VT 1)]) : StepD 1)] := by
  have hr : RepL w (Rep w 2) (some ⟨g, 0, none⟩) 1 1 ([((⟨#[97]⟩, ⟨#[103, 101, 116]⟩, [((1, 1, 0, ⟨#[]⟩, []) : VT 1)]) : StepD 1)].map (stepV 0)) := row1_rep h2 (list_rep (row3_repO h1 (leafR _ 0 3 0 0 _ (by decide) (by decide) (by decide) (by decide)) (leafR _ 0 3 0 0 _ (by decide) (by decide) (by decide) (by decide)) (leafR _ 0 1 1 0 _ (by decide) (by decide) (by decide) (by decide))))
  have he : ∀ T ∈ [((⟨#[97]⟩, ⟨#[103, 101, 116]⟩, [((1, 1, 0, ⟨#[]⟩, []) : VT 1)]) : StepD 1)].map (stepV 0), EasyO 1 T := fun T hT => by
    rw [List.mem_singleton.1 hT]
    exact ⟨by decide +kernel, by decide +kernel, by decide +kernel⟩
  exact plan_any 0 _ 1 1 [((⟨#[97]⟩, ⟨#[103, 101, 116]⟩, [((1, 1, 0, ⟨#[]⟩, []) : VT 1)]) : StepD 1)] w hr (by omega) (Lib.hid (fun W hW => check_runO 1 _ 1 1 _ W (repL_keep hW (fun v T hv => rep_keep hW _ _ _ hv) hr) he true true rfl (by decide +kernel))) (fun s hs => by
    rw [List.mem_singleton.1 hs]
    exact ⟨by decide +kernel, by decide +kernel, by decide +kernel⟩)
theorem do_one (g : Nat) (w : World) (h : w.heap[g]? = some (.cells #[.int .i64 1, .int .i64 5, .float .f64 0, .string ⟨#[]⟩, .slice none 0 0] 27 (0, 0))) :
    Calls Try.prog 30 #[.agg #[.int .i64 1, .int .i64 0, .float .f64 0, .string ⟨#[]⟩, .slice none 0 0], .string { data := #[114, 117, 110] }, .slice (some ⟨g, 0, none⟩) 1 1] w (RunO w 1 0 [((1, 5, 0, ⟨#[]⟩, []) : VT 1)]) :=
  odo_ok 1 0 (by decide) (by decide) (by decide) _ 1 1 _ w (row1_rep h (leafR _ 0 1 5 0 _ (by decide) (by decide) (by decide) (by decide))) ⟨by decide +kernel, by decide +kernel, by decide +kernel⟩ (by decide +kernel)
set_option maxRecDepth 100000 in
set_option maxHeartbeats 4000000 in
theorem known13 (w : World) : Calls Try.prog 13 #[] w fun e w' => e = .returned (.bool true) ∧ Below w.heap.size w w' := by
  go_enter Try.func13, Try.ntmps13
  go_wp2_with fail
  go_at_call 17; refine (text_ref_any _ _).mono ?_; rintro e w1 ⟨rfl, hb1⟩
  have HB1 := Lib.hid hb1
  clear hb1
  go_wp2_with fail
  go_at_call 17; refine (text_ref_any _ _).mono ?_; rintro e w2 ⟨rfl, hb2⟩
  have HB2 := Lib.hid (bel_step HB1.out hb2)
  clear hb2
  go_wp2_with fail
  go_at_call 18; refine (int_ref_any _ _).mono ?_; rintro e w3 ⟨rfl, hb3⟩
  have HA3 := Lib.hid (bel_alloc (bel_step HB2.out hb3) (.cells #[.int .i64 3, .int .i64 0, .float .f64 0, .string { data := #[97] }, .slice none 0 0, .int .i64 3, .int .i64 0, .float .f64 0, .string { data := #[103, 101, 116] }, .slice none 0 0, .int .i64 1, .int .i64 1, .float .f64 0, .string ⟨#[]⟩, .slice none 0 0] 27))
  have HR3 := Lib.hid (row_alloc w3 #[.int .i64 3, .int .i64 0, .float .f64 0, .string { data := #[97] }, .slice none 0 0, .int .i64 3, .int .i64 0, .float .f64 0, .string { data := #[103, 101, 116] }, .slice none 0 0, .int .i64 1, .int .i64 1, .float .f64 0, .string ⟨#[]⟩, .slice none 0 0] 27)
  clear hb3 HB1 HB2
  go_wp2_with fail
  go_at_call 7; refine (list_ref_any _ _ _ _).mono ?_; rintro e w4 ⟨rfl, hb4⟩
  have HA4 := Lib.hid (bel_alloc (bel_step HA3.out hb4) (.cells #[.int .i64 4, .int .i64 0, .float .f64 0, .string ⟨#[]⟩, .slice (some ⟨w3.heap.size, 0, none⟩) 3 3] 27))
  have HP := Lib.hid (plan_one w4.heap.size w3.heap.size _ (row_alloc_step (row_step HR3.out hb4) (.cells #[.int .i64 4, .int .i64 0, .float .f64 0, .string ⟨#[]⟩, .slice (some ⟨w3.heap.size, 0, none⟩) 3 3] 27)) (row_alloc w4 #[.int .i64 4, .int .i64 0, .float .f64 0, .string ⟨#[]⟩, .slice (some ⟨w3.heap.size, 0, none⟩) 3 3] 27))
  clear hb4 HA3 HR3
  go_wp2_with fail
  go_at_call 14; refine HP.out.mono ?_; rintro e w5 ⟨p5, c5, rfl, ho5⟩
  have HB5 := Lib.hid (bel_step HA4.out (ost_bel ho5))
  have HST := Lib.hid (ost_rep ho5)
  clear ho5 HA4 HP
  go_wp2_with fail
  go_at_call 18; refine (int_ref_any _ _).mono ?_; rintro e w6 ⟨rfl, hb6⟩
  have HB6 := Lib.hid (bel_step HB5.out hb6)
  have HS6 := Lib.hid (repSt_keep HST.out hb6)
  clear hb6 HB5 HST
  go_wp2_with fail
  go_at_call 18; refine (int_ref_any _ _).mono ?_; rintro e w7 ⟨rfl, hb7⟩
  have HB7 := Lib.hid (bel_alloc (bel_step HB6.out hb7) (.cells #[.int .i64 1, .int .i64 5, .float .f64 0, .string ⟨#[]⟩, .slice none 0 0] 27))
  have HS7 := Lib.hid (repSt_keep (repSt_keep HS6.out hb7) (bel_alloc (Below.refl _ _) (.cells #[.int .i64 1, .int .i64 5, .float .f64 0, .string ⟨#[]⟩, .slice none 0 0] 27)))
  have HD := Lib.hid (do_one w7.heap.size _ (row_alloc w7 #[.int .i64 1, .int .i64 5, .float .f64 0, .string ⟨#[]⟩, .slice none 0 0] 27))
  clear hb7 HB6 HS6
  go_wp2_with fail
  go_at_call 30; refine HD.out.mono ?_; rintro e w8 ⟨q8, m8, d8, rfl, hb8, hr8⟩
  have hm8 : m8 = 1 := by
    obtain ⟨p, l, c, hv, _, _, _, _, h5, _⟩ := hr8
    injection hv with hv
    simp only [Array.mk.injEq, List.cons.injEq, and_true] at hv
    obtain ⟨_, _, _, _, hv⟩ := hv
    injection hv with _ hv _
    rw [hv]
    exact h5.symm
  subst hm8
  have HX := Lib.hid (show Below w.heap.size w ((w8.alloc (.cells #[.int .i64 1, .int .i64 1, .float .f64 0, .string ⟨#[]⟩, .slice none 0 0] 27)).alloc (.cells #[.int .i64 4, .int .i64 0, .float .f64 0, .string ⟨#[]⟩, .slice q8 1 d8] 27)) ∧ RepSt ((w8.alloc (.cells #[.int .i64 1, .int .i64 1, .float .f64 0, .string ⟨#[]⟩, .slice none 0 0] 27)).alloc (.cells #[.int .i64 4, .int .i64 0, .float .f64 0, .string ⟨#[]⟩, .slice q8 1 d8] 27)) 1 p5 1 c5 [((⟨#[97]⟩, ⟨#[103, 101, 116]⟩, [((1, 1, 0, ⟨#[]⟩, []) : VT 1)]) : StepD 1)] ∧ ((w8.alloc (.cells #[.int .i64 1, .int .i64 1, .float .f64 0, .string ⟨#[]⟩, .slice none 0 0] 27)).alloc (.cells #[.int .i64 4, .int .i64 0, .float .f64 0, .string ⟨#[]⟩, .slice q8 1 d8] 27)).heap[w8.heap.size]? = some (.cells #[.int .i64 1, .int .i64 1, .float .f64 0, .string ⟨#[]⟩, .slice none 0 0] 27 (0, 0)) ∧ ((w8.alloc (.cells #[.int .i64 1, .int .i64 1, .float .f64 0, .string ⟨#[]⟩, .slice none 0 0] 27)).alloc (.cells #[.int .i64 4, .int .i64 0, .float .f64 0, .string ⟨#[]⟩, .slice q8 1 d8] 27)).heap[w8.heap.size + 1]? = some (.cells #[.int .i64 4, .int .i64 0, .float .f64 0, .string ⟨#[]⟩, .slice q8 1 d8] 27 (0, 0)) from
    ⟨bel_alloc (bel_alloc (bel_step HB7.out hb8) _) _, repSt_keep (repSt_keep (repSt_keep HS7.out hb8) (bel_alloc (Below.refl _ _) _)) (bel_alloc (Below.refl _ _) _), row_alloc_step (row_alloc _ _ _) _, (by have h := row_alloc (w8.alloc (.cells #[.int .i64 1, .int .i64 1, .float .f64 0, .string ⟨#[]⟩, .slice none 0 0] 27)) #[.int .i64 4, .int .i64 0, .float .f64 0, .string ⟨#[]⟩, .slice q8 1 d8] 27; rw [World.size_alloc] at h; exact h)⟩)
  clear hb8 hr8 HB7 HS7 HD
  go_upto_region 3 with fail
  revert HX
  generalize (w8.alloc (.cells #[.int .i64 1, .int .i64 1, .float .f64 0, .string ⟨#[]⟩, .slice none 0 0] 27)).alloc (.cells #[.int .i64 4, .int .i64 0, .float .f64 0, .string ⟨#[]⟩, .slice q8 1 d8] 27) = W8
  generalize w8.heap.size = sb
  intro HX
  go_wp2_with fail
  go_at_call 18; refine (int_ref_any _ _).mono ?_; rintro e w9 ⟨rfl, hb9⟩
  have HY := Lib.hid (show Below w.heap.size w w9 ∧ RepSt w9 1 p5 1 c5 [((⟨#[97]⟩, ⟨#[103, 101, 116]⟩, [((1, 1, 0, ⟨#[]⟩, []) : VT 1)]) : StepD 1)] ∧ w9.heap[sb]? = some (.cells #[.int .i64 1, .int .i64 1, .float .f64 0, .string ⟨#[]⟩, .slice none 0 0] 27 (0, 0)) ∧ w9.heap[sb + 1]? = some (.cells #[.int .i64 4, .int .i64 0, .float .f64 0, .string ⟨#[]⟩, .slice q8 1 d8] 27 (0, 0)) from ⟨bel_step HX.out.1 hb9, repSt_keep HX.out.2.1 hb9, row_step HX.out.2.2.1 hb9, row_step HX.out.2.2.2 hb9⟩)
  clear hb9 HX
  go_wp2_with fail
  go_at_call 30; refine (odo_fail 0 (by decide) (Lib.hid (by decide)) none 0 0 _).mono ?_; rintro e w10 ⟨rfl, hb10⟩
  have HZ := Lib.hid (show Below w.heap.size w ((w10.alloc (.cells #[.int .i64 0, .int .i64 0, .float .f64 0, .string ⟨#[]⟩, .slice none 0 0] 27)).alloc (.cells #[.int .i64 0, .int .i64 0, .float .f64 0, .string ⟨#[]⟩, .slice none 0 0] 27)) ∧ RepSt ((w10.alloc (.cells #[.int .i64 0, .int .i64 0, .float .f64 0, .string ⟨#[]⟩, .slice none 0 0] 27)).alloc (.cells #[.int .i64 0, .int .i64 0, .float .f64 0, .string ⟨#[]⟩, .slice none 0 0] 27)) 1 p5 1 c5 [((⟨#[97]⟩, ⟨#[103, 101, 116]⟩, [((1, 1, 0, ⟨#[]⟩, []) : VT 1)]) : StepD 1)] ∧ ((w10.alloc (.cells #[.int .i64 0, .int .i64 0, .float .f64 0, .string ⟨#[]⟩, .slice none 0 0] 27)).alloc (.cells #[.int .i64 0, .int .i64 0, .float .f64 0, .string ⟨#[]⟩, .slice none 0 0] 27)).heap[sb]? = some (.cells #[.int .i64 1, .int .i64 1, .float .f64 0, .string ⟨#[]⟩, .slice none 0 0] 27 (0, 0)) ∧ ((w10.alloc (.cells #[.int .i64 0, .int .i64 0, .float .f64 0, .string ⟨#[]⟩, .slice none 0 0] 27)).alloc (.cells #[.int .i64 0, .int .i64 0, .float .f64 0, .string ⟨#[]⟩, .slice none 0 0] 27)).heap[sb + 1]? = some (.cells #[.int .i64 4, .int .i64 0, .float .f64 0, .string ⟨#[]⟩, .slice q8 1 d8] 27 (0, 0)) from
    ⟨bel_alloc (bel_alloc (bel_step HY.out.1 hb10) _) _, repSt_keep (repSt_keep (repSt_keep HY.out.2.1 hb10) (bel_alloc (Below.refl _ _) _)) (bel_alloc (Below.refl _ _) _), row_alloc_step (row_alloc_step (row_step HY.out.2.2.1 hb10) _) _, row_alloc_step (row_alloc_step (row_step HY.out.2.2.2 hb10) _) _⟩)
  clear hb10 HY
  go_upto_region 4 with fail
  revert HZ
  generalize (w10.alloc (.cells #[.int .i64 0, .int .i64 0, .float .f64 0, .string ⟨#[]⟩, .slice none 0 0] 27)).alloc (.cells #[.int .i64 0, .int .i64 0, .float .f64 0, .string ⟨#[]⟩, .slice none 0 0] 27) = W10
  intro HZ
  obtain ⟨b5, hp5, hit⟩ := HZ.out.2.1.2.2.2 (by decide)
  subst hp5
  obtain ⟨q0, m0, d0, s0, s1, s2, hr0⟩ := hit 0 (by decide)
  have hm0 : m0 = 1 := by
    obtain ⟨p, l, c, hv, _, _, _, _, h5, _⟩ := hr0
    injection hv with hv
    simp only [Array.mk.injEq, List.cons.injEq, and_true] at hv
    obtain ⟨_, _, _, _, hv⟩ := hv
    injection hv with _ hv _
    rw [hv]
    exact h5.symm
  subst hm0
  have t0 : W10.cell? ⟨b5, 0, none⟩ = some (.string { data := #[97] }) := s0
  have t1 : W10.cell? ⟨b5, 1, none⟩ = some (.string { data := #[103, 101, 116] }) := s1
  have t2 : W10.cell? ⟨b5, 2, none⟩ = some (.slice q0 1 d0) := s2
  have a0 := row_cell HZ.out.2.2.1 0; have a1 := row_cell HZ.out.2.2.1 1; have a2 := row_cell HZ.out.2.2.1 2; have a3 := row_cell HZ.out.2.2.1 3; have a4 := row_cell HZ.out.2.2.1 4
  have b4 := row_cell HZ.out.2.2.2 4
  simp only [List.getElem?_toArray, List.getElem?_cons_zero, List.getElem?_cons_succ] at a0 a1 a2 a3 a4 b4
  clear s0 s1 s2 hr0 hit
  go_wp2_with fail
  go_at_call 31; refine (oright_yes 1 _ _ _ _ _ _ (by decide)).mono ?_; rintro e w11 ⟨rfl, hb11⟩
  have HB := Lib.hid (bel_step HZ.out.1 hb11)
  clear hb11 a0 a1 a2 a3 a4 b4 t0 t1 t2
  go_wp2
  go_ret
  exact ⟨rfl, HB.out⟩
end Num
end Go.Proofs.Ytpbfaffheigjcaa
