/-
  What the reference reads: all kinds but lists.
-/
import Derived.Test.YtbodakfgoijeeaaMF
import Derived.Test.YtbodakfgoijeeaaWZ
namespace Go.Proofs.Ytbodakfgoijeeaa
open Go.RowKit
namespace Num
open Ints
set_option linter.unusedSimpArgs false
set_option linter.unusedVariables false
def RrPost (n d : Nat) (X : List Int) (w : World) (e : Ending) (w' : World) : Prop := Below w.heap.size w w' ∧ (refV n d X = none → Fail3 e) ∧ ∀ T j, refV n d X = some (T, j) → ∃ v, e = .returned (.tuple #[v, .int .i64 (j : Int), .bool true]) ∧ RepS (fun b => w.heap.size ≤ b) w' n v T
theorem rr_none {n d : Nat} {X : List Int} {w w' : World} {e : Ending} (hb : Below w.heap.size w w') (hd : refV n d X = none) (hf : Fail3 e) : RrPost n d X w e w' := ⟨hb, fun _ => hf, fun T j h => by rw [hd] at h; cases h⟩
theorem rr_some {n d : Nat} {X : List Int} {w w' : World} {e : Ending} {T : VT n} {j : Nat} {v : Value} (hb : Below w.heap.size w w') (hd : refV n d X = some (T, j)) (he : e = .returned (.tuple #[v, .int .i64 (j : Int), .bool true])) (hr : RepS (fun b => w.heap.size ≤ b) w' n v T) : RrPost n d X w e w' :=
  ⟨hb, fun h => (by rw [hd] at h; cases h), fun T' j' h => by rw [hd] at h; cases h; exact ⟨v, he, hr⟩⟩
set_option maxHeartbeats 1000000 in
theorem rInt_any (I : Int) (w : World) : Calls Try.prog 14 #[.int .i64 I] w fun e w' => e = .returned (.agg #[.int .i64 1, .int .i64 I, .float .f64 0, .string ⟨#[]⟩, .slice none 0 0]) ∧ Below w.heap.size w w' := by
  go_enter Try.func14, Try.ntmps14
  go_wp2
  exact bodyPost_ret (v := .agg #[.int .i64 1, .int .i64 I, .float .f64 0, .string ⟨#[]⟩, .slice none 0 0]) (by simp [results, Try.results14, go_sem]) rfl ⟨rfl, (Below.refl _ _).alloc (Nat.le_refl _) _⟩
set_option maxHeartbeats 1000000 in
theorem rTxt_any (S : ByteArray) (w : World) : Calls Try.prog 26 #[.string S] w fun e w' => e = .returned (.agg #[.int .i64 3, .int .i64 0, .float .f64 0, .string S, .slice none 0 0]) ∧ Below w.heap.size w w' := by
  go_enter Try.func26, Try.ntmps26
  go_wp2
  exact bodyPost_ret (v := .agg #[.int .i64 3, .int .i64 0, .float .f64 0, .string S, .slice none 0 0]) (by simp [results, Try.results26, go_sem]) rfl ⟨rfl, (Below.refl _ _).alloc (Nat.le_refl _) _⟩
set_option maxHeartbeats 1000000 in
theorem rFlo_any (x : Nat) (w : World) : Calls Try.prog 25 #[.float .f64 x] w fun e w' => e = .returned (.agg #[.int .i64 2, .int .i64 0, .float .f64 (Flo.canon x), .string ⟨#[]⟩, .slice none 0 0]) ∧ Below w.heap.size w w' := by
  go_enter Try.func25, Try.ntmps25
  go_wp2_with fail
  go_at_call 43; refine (canon_ref_any _ _).mono ?_; rintro e w' ⟨rfl, rfl⟩
  go_wp2
  exact bodyPost_ret (v := .agg #[.int .i64 2, .int .i64 0, .float .f64 (Flo.canon x), .string ⟨#[]⟩, .slice none 0 0]) (by simp [results, Try.results25, go_sem]) rfl ⟨rfl, (Below.refl _ _).alloc (Nat.le_refl _) _⟩
theorem cell_first {w : World} {b off l c : Nat} {k : Int} {R : List Int} (h : RdB w (some ⟨b, off, none⟩) l c (k :: R)) : w.cell? ⟨b, off, none⟩ = some (.int .u8 k) := by
  obtain ⟨b', off', e, hc⟩ := h.2.2.2.1 (by have := h.1; rw [List.length_cons] at this; omega)
  cases e
  exact hc 0 (by simp)
set_option maxRecDepth 100000 in
set_option maxHeartbeats 4000000 in
theorem rr_empty (n d : Nat) (w : World) (p : Option Addr) (c : Nat) (hc : c ≤ maxLen) (hd : d ≤ 100) : Calls Try.prog 23 #[.slice p 0 c, .int .i64 d] w (RrPost n d [] w) := by
  unfold maxLen at hc
  have HN := Lib.hid (show refV n d [] = none by cases n <;> rfl)
  go_enter Try.func23, Try.ntmps23
  go_wp2
  all_goals exact bodyPost_ret (v := .tuple #[.agg #[.int .i64 0, .int .i64 0, .float .f64 0, .string ⟨#[]⟩, .slice none 0 0], .int .i64 0, .bool false]) (by simp [results, Try.results23, go_sem]) rfl (rr_none (bel_alloc (Below.refl _ _) _) HN.out (fail_mk _ _ _ _ _ _ _ _))
set_option maxRecDepth 100000 in
set_option maxHeartbeats 4000000 in
theorem rr_deep (n d : Nat) (w : World) (b off l c : Nat) (k : Int) (R : List Int) (hb : RdB w (some ⟨b, off, none⟩) l c (k :: R)) (h8 : 8 < d) (hd : d ≤ 100) : Calls Try.prog 23 #[.slice (some ⟨b, off, none⟩) l c, .int .i64 d] w (RrPost (n + 1) d (k :: R) w) := by
  obtain ⟨hR, hlc, hcm⟩ := rd_parts hb
  have hl0 : ((l : Int) == 0) = false := by rw [beq_eq_false_iff_ne]; omega
  have h8' : (8 : Int) < (d : Int) := by omega
  have HN := Lib.hid (show refV (n + 1) d (k :: R) = none by rw [refV, if_pos h8])
  clear hb
  go_enter Try.func23, Try.ntmps23
  go_wp2
  all_goals exact bodyPost_ret (v := .tuple #[.agg #[.int .i64 0, .int .i64 0, .float .f64 0, .string ⟨#[]⟩, .slice none 0 0], .int .i64 0, .bool false]) (by simp [results, Try.results23, go_sem]) rfl (rr_none (bel_alloc (Below.refl _ _) _) HN.out (fail_mk _ _ _ _ _ _ _ _))
set_option maxRecDepth 100000 in
set_option maxHeartbeats 4000000 in
theorem rr_k0 (n d : Nat) (w : World) (b off l c : Nat) (R : List Int) (hb : RdB w (some ⟨b, off, none⟩) l c (0 :: R)) (hX : By (0 :: R)) (hl : l ≤ 100000) (hd : d ≤ 8) : Calls Try.prog 23 #[.slice (some ⟨b, off, none⟩) l c, .int .i64 d] w (RrPost (n + 1) d (0 :: R) w) := by
  obtain ⟨hR, hlc, hcm⟩ := rd_parts hb
  have hl0 : ((l : Int) == 0) = false := by rw [beq_eq_false_iff_ne]; omega
  have hd8 : ¬ ((8 : Int) < (d : Int)) := by omega
  have hdn : ¬ (8 < d) := by omega
  have c0 := cell_first hb
  have hblt : b < w.heap.size := cell_lt c0
  have hbne : w.heap.size ≠ b := by omega
  have hlp : 0 < l := by omega
  have hlp' : (0 : Int) < (l : Int) := by omega
  have hkr := hX 0 (List.mem_cons_self ..)
  have hk0 := hkr.1
  have hk1 := hkr.2
  have HB := Lib.hid (rd_keep ((Below.refl w.heap.size w).alloc (Nat.le_refl _) (.cells #[.int .i64 0, .int .i64 0, .float .f64 0, .string ⟨#[]⟩, .slice none 0 0] 26)) hb)
  have HX := Lib.hid (show By R from fun x hx => hX x (List.mem_cons_of_mem _ hx))
  have RB := Lib.hid (row_alloc w #[.int .i64 0, .int .i64 0, .float .f64 0, .string ⟨#[]⟩, .slice none 0 0] 26)
  have HN := Lib.hid (show refV (n + 1) d (0 :: R) = some ((0, 0, 0, ⟨#[]⟩, []), 1) by rw [refV, if_neg hdn, if_pos (by decide)])
  clear hb hX hR hkr
  go_enter Try.func23, Try.ntmps23
  go_wp2
  exact bodyPost_ret (v := .tuple #[.agg #[.int .i64 0, .int .i64 0, .float .f64 0, .string ⟨#[]⟩, .slice none 0 0], .int .i64 1, .bool true]) (by simp [results, Try.results23, go_sem]) rfl (rr_some (bel_alloc (Below.refl _ _) _) HN.out rfl (repS_leaf _ _ n 0 0 0 ⟨#[]⟩ (by decide) (by decide) (by decide) (by decide)))
set_option maxRecDepth 100000 in
set_option maxHeartbeats 4000000 in
theorem rr_k1 (n d : Nat) (w : World) (b off l c : Nat) (R : List Int) (hb : RdB w (some ⟨b, off, none⟩) l c (1 :: R)) (hX : By (1 :: R)) (hl : l ≤ 100000) (hd : d ≤ 8) (h8 : 8 ≤ R.length) : Calls Try.prog 23 #[.slice (some ⟨b, off, none⟩) l c, .int .i64 d] w (RrPost (n + 1) d (1 :: R) w) := by
  obtain ⟨hR, hlc, hcm⟩ := rd_parts hb
  have hl0 : ((l : Int) == 0) = false := by rw [beq_eq_false_iff_ne]; omega
  have hd8 : ¬ ((8 : Int) < (d : Int)) := by omega
  have hdn : ¬ (8 < d) := by omega
  have c0 := cell_first hb
  have hblt : b < w.heap.size := cell_lt c0
  have hbne : w.heap.size ≠ b := by omega
  have hlp : 0 < l := by omega
  have hlp' : (0 : Int) < (l : Int) := by omega
  have hkr := hX 1 (List.mem_cons_self ..)
  have hk0 := hkr.1
  have hk1 := hkr.2
  have HB := Lib.hid (rd_keep ((Below.refl w.heap.size w).alloc (Nat.le_refl _) (.cells #[.int .i64 0, .int .i64 0, .float .f64 0, .string ⟨#[]⟩, .slice none 0 0] 26)) hb)
  have HX := Lib.hid (show By R from fun x hx => hX x (List.mem_cons_of_mem _ hx))
  have RB := Lib.hid (row_alloc w #[.int .i64 0, .int .i64 0, .float .f64 0, .string ⟨#[]⟩, .slice none 0 0] 26)
  obtain ⟨B, hB, hB64⟩ := u64_of (X := R.take 8) (by_take HX.out 8) (by rw [List.length_take]; omega)
  have HB8 := Lib.hid hB
  have HN := Lib.hid (show refV (n + 1) d (1 :: R) = some ((1, wrap64 (B : Int), 0, ⟨#[]⟩, []), 9) by rw [refV, if_neg hdn, if_neg (by decide), if_pos (by decide), if_pos h8, hB])
  clear hB
  have hc1 : c ≠ 1 := by omega
  have HRD := Lib.hid (show RdB (w.alloc (.cells #[.int .i64 0, .int .i64 0, .float .f64 0, .string ⟨#[]⟩, .slice none 0 0] 26)) (some ⟨b, off + 1, none⟩) (l - 1) (c - 1) R from rd_from (k := 1) HB.out (by omega) hc1)
  have hl8 : 8 ≤ l - 1 := by omega
  clear hb hX hR hkr
  go_enter Try.func23, Try.ntmps23
  go_wp2_with fail
  go_at_call 39; refine (rreadU_yes _ _ _ _ R 8 HRD.out HX.out (by omega) hl8).mono ?_; rintro e w2 ⟨rfl, rfl⟩
  rw [HB8.out]
  go_wp2_with fail
  go_at_call 14; refine (rInt_any _ _).mono ?_; rintro e w1 ⟨rfl, hb1⟩
  have HB1 := Lib.hid (bel_box _ hb1)
  have hr1 := row_step RB.out hb1
  have d0 := row_cell hr1 0; have d1 := row_cell hr1 1; have d2 := row_cell hr1 2; have d3 := row_cell hr1 3; have d4 := row_cell hr1 4
  simp only [List.getElem?_toArray, List.getElem?_cons_zero, List.getElem?_cons_succ] at d0 d1 d2 d3 d4
  have df := fun o => row_frz hr1 o
  clear hb1 hr1
  go_wp2
  refine bodyPost_ret (v := .tuple #[.agg #[.int .i64 1, .int .i64 (wrap64 (B : Int)), .float .f64 0, .string ⟨#[]⟩, .slice none 0 0], .int .i64 9, .bool true]) (by simp [results, Try.results23, go_sem, World.cell?_setCell_same, World.cell?_setCell_other, d0, d1, d2, d3, d4]) rfl ?_
  exact rr_some (bel_set5 HB1.out (Nat.le_refl _) _ _ _ _ _) HN.out rfl (repS_leaf _ _ n 1 _ 0 ⟨#[]⟩ (by decide) (ok_wrap64 _) (by decide) (by decide))
set_option maxRecDepth 100000 in
set_option maxHeartbeats 4000000 in
theorem rr_k1n (n d : Nat) (w : World) (b off l c : Nat) (R : List Int) (hb : RdB w (some ⟨b, off, none⟩) l c (1 :: R)) (hX : By (1 :: R)) (hl : l ≤ 100000) (hd : d ≤ 8) (h8 : ¬ 8 ≤ R.length) : Calls Try.prog 23 #[.slice (some ⟨b, off, none⟩) l c, .int .i64 d] w (RrPost (n + 1) d (1 :: R) w) := by
  obtain ⟨hR, hlc, hcm⟩ := rd_parts hb
  have hl0 : ((l : Int) == 0) = false := by rw [beq_eq_false_iff_ne]; omega
  have hd8 : ¬ ((8 : Int) < (d : Int)) := by omega
  have hdn : ¬ (8 < d) := by omega
  have c0 := cell_first hb
  have hblt : b < w.heap.size := cell_lt c0
  have hbne : w.heap.size ≠ b := by omega
  have hlp : 0 < l := by omega
  have hlp' : (0 : Int) < (l : Int) := by omega
  have hkr := hX 1 (List.mem_cons_self ..)
  have hk0 := hkr.1
  have hk1 := hkr.2
  have HB := Lib.hid (rd_keep ((Below.refl w.heap.size w).alloc (Nat.le_refl _) (.cells #[.int .i64 0, .int .i64 0, .float .f64 0, .string ⟨#[]⟩, .slice none 0 0] 26)) hb)
  have HX := Lib.hid (show By R from fun x hx => hX x (List.mem_cons_of_mem _ hx))
  have RB := Lib.hid (row_alloc w #[.int .i64 0, .int .i64 0, .float .f64 0, .string ⟨#[]⟩, .slice none 0 0] 26)
  have HN := Lib.hid (show refV (n + 1) d (1 :: R) = none by rw [refV, if_neg hdn, if_neg (by decide), if_pos (by decide), if_neg h8])
  by_cases hc1 : c = 1
  · obtain rfl : l = 1 := by omega
    subst hc1
    have HRD := Lib.hid (show RdB (w.alloc (.cells #[.int .i64 0, .int .i64 0, .float .f64 0, .string ⟨#[]⟩, .slice none 0 0] 26)) (some ⟨b, off, none⟩) 0 0 R from rd_end HB.out)
    clear hb hX hR hkr
    go_enter Try.func23, Try.ntmps23
    go_wp2_with fail
    go_at_call 39; refine (rreadU_no _ _ _ _ 8 HRD.out.2.1 HRD.out.2.2.1 (by omega)).mono ?_; rintro e w2 ⟨rfl, rfl⟩
    go_wp2_with fail
    go_at_call 14; refine (rInt_any _ _).mono ?_; rintro e w1 ⟨rfl, hb1⟩
    have HB1 := Lib.hid (bel_box _ hb1)
    have hr1 := row_step RB.out hb1
    have d0 := row_cell hr1 0; have d1 := row_cell hr1 1; have d2 := row_cell hr1 2; have d3 := row_cell hr1 3; have d4 := row_cell hr1 4
    simp only [List.getElem?_toArray, List.getElem?_cons_zero, List.getElem?_cons_succ] at d0 d1 d2 d3 d4
    have df := fun o => row_frz hr1 o
    clear hb1 hr1
    go_wp2
    refine bodyPost_ret (v := .tuple #[.agg #[.int .i64 1, .int .i64 0, .float .f64 0, .string ⟨#[]⟩, .slice none 0 0], .int .i64 9, .bool false]) (by simp [results, Try.results23, go_sem, World.cell?_setCell_same, World.cell?_setCell_other, d0, d1, d2, d3, d4]) rfl ?_
    exact rr_none (bel_set5 HB1.out (Nat.le_refl _) _ _ _ _ _) HN.out (fail_mk _ _ _ _ _ _ _ _)
  · have HRD := Lib.hid (show RdB (w.alloc (.cells #[.int .i64 0, .int .i64 0, .float .f64 0, .string ⟨#[]⟩, .slice none 0 0] 26)) (some ⟨b, off + 1, none⟩) (l - 1) (c - 1) R from rd_from (k := 1) HB.out (by omega) hc1)
    have hl8 : l - 1 < 8 := by omega
    clear hb hX hR hkr
    go_enter Try.func23, Try.ntmps23
    go_wp2_with fail
    go_at_call 39; refine (rreadU_no _ _ _ _ 8 HRD.out.2.1 HRD.out.2.2.1 (by omega)).mono ?_; rintro e w2 ⟨rfl, rfl⟩
    go_wp2_with fail
    go_at_call 14; refine (rInt_any _ _).mono ?_; rintro e w1 ⟨rfl, hb1⟩
    have HB1 := Lib.hid (bel_box _ hb1)
    have hr1 := row_step RB.out hb1
    have d0 := row_cell hr1 0; have d1 := row_cell hr1 1; have d2 := row_cell hr1 2; have d3 := row_cell hr1 3; have d4 := row_cell hr1 4
    simp only [List.getElem?_toArray, List.getElem?_cons_zero, List.getElem?_cons_succ] at d0 d1 d2 d3 d4
    have df := fun o => row_frz hr1 o
    clear hb1 hr1
    go_wp2
    refine bodyPost_ret (v := .tuple #[.agg #[.int .i64 1, .int .i64 0, .float .f64 0, .string ⟨#[]⟩, .slice none 0 0], .int .i64 9, .bool false]) (by simp [results, Try.results23, go_sem, World.cell?_setCell_same, World.cell?_setCell_other, d0, d1, d2, d3, d4]) rfl ?_
    exact rr_none (bel_set5 HB1.out (Nat.le_refl _) _ _ _ _ _) HN.out (fail_mk _ _ _ _ _ _ _ _)
set_option maxRecDepth 100000 in
set_option maxHeartbeats 4000000 in
theorem rr_k2 (n d : Nat) (w : World) (b off l c : Nat) (R : List Int) (hb : RdB w (some ⟨b, off, none⟩) l c (2 :: R)) (hX : By (2 :: R)) (hl : l ≤ 100000) (hd : d ≤ 8) (h8 : 8 ≤ R.length) (hq : Flo.canon (rdU (R.take 8)).toNat = (rdU (R.take 8)).toNat) : Calls Try.prog 23 #[.slice (some ⟨b, off, none⟩) l c, .int .i64 d] w (RrPost (n + 1) d (2 :: R) w) := by
  obtain ⟨hR, hlc, hcm⟩ := rd_parts hb
  have hl0 : ((l : Int) == 0) = false := by rw [beq_eq_false_iff_ne]; omega
  have hd8 : ¬ ((8 : Int) < (d : Int)) := by omega
  have hdn : ¬ (8 < d) := by omega
  have c0 := cell_first hb
  have hblt : b < w.heap.size := cell_lt c0
  have hbne : w.heap.size ≠ b := by omega
  have hlp : 0 < l := by omega
  have hlp' : (0 : Int) < (l : Int) := by omega
  have hkr := hX 2 (List.mem_cons_self ..)
  have hk0 := hkr.1
  have hk1 := hkr.2
  have HB := Lib.hid (rd_keep ((Below.refl w.heap.size w).alloc (Nat.le_refl _) (.cells #[.int .i64 0, .int .i64 0, .float .f64 0, .string ⟨#[]⟩, .slice none 0 0] 26)) hb)
  have HX := Lib.hid (show By R from fun x hx => hX x (List.mem_cons_of_mem _ hx))
  have RB := Lib.hid (row_alloc w #[.int .i64 0, .int .i64 0, .float .f64 0, .string ⟨#[]⟩, .slice none 0 0] 26)
  obtain ⟨B, hB, hB64⟩ := u64_of (X := R.take 8) (by_take HX.out 8) (by rw [List.length_take]; omega)
  have HB8 := Lib.hid hB
  rw [hB, Int.toNat_natCast] at hq
  have HN := Lib.hid (show refV (n + 1) d (2 :: R) = some ((2, 0, B, ⟨#[]⟩, []), 9) by rw [refV, if_neg hdn, if_neg (by decide), if_neg (by decide), if_pos (by decide), hB, Int.toNat_natCast, if_pos ⟨h8, hq⟩])
  have HQ := Lib.hid (show ((Flo.canon B : Int) == (B : Int)) = true by rw [hq]; simp)
  have HCF := Lib.hid (show Flo.canon B = B from hq)
  obtain ⟨Cn, hCn⟩ : ∃ Cn, Flo.canon B = Cn := ⟨_, rfl⟩
  rw [hCn] at HQ HCF
  have hqq := HQ.out
  have HBT := Lib.hid (show ∀ w, Calls Try.prog 24 #[.float .f64 B] w fun e w' => e = .returned (.int .u64 Cn) ∧ w = w' from fun w => by have h := bits_ref_any B w; rw [hCn] at h; exact h)
  have HFT := Lib.hid (show ∀ w, Calls Try.prog 25 #[.float .f64 B] w fun e w' => e = .returned (.agg #[.int .i64 2, .int .i64 0, .float .f64 Cn, .string ⟨#[]⟩, .slice none 0 0]) ∧ Below w.heap.size w w' from fun w => by have h := float_ref_any B w; rw [hCn] at h; exact h)
  have hl8 : 8 ≤ l - 1 := by omega
  clear hB hq hCn
  have hc1 : c ≠ 1 := by omega
  have HRD := Lib.hid (show RdB (w.alloc (.cells #[.int .i64 0, .int .i64 0, .float .f64 0, .string ⟨#[]⟩, .slice none 0 0] 26)) (some ⟨b, off + 1, none⟩) (l - 1) (c - 1) R from rd_from (k := 1) HB.out (by omega) hc1)
  clear hb hX hR hkr
  go_enter Try.func23, Try.ntmps23
  go_wp2_with fail
  go_at_call 39; refine (rreadU_yes _ _ _ _ R 8 HRD.out HX.out (by omega) hl8).mono ?_; rintro e w2 ⟨rfl, rfl⟩
  rw [HB8.out]
  go_wp2_with fail
  go_at_call 25; refine (HFT.out _).mono ?_; rintro e w1 ⟨rfl, hb1⟩
  go_wp2_with fail
  go_at_call 24; refine (HBT.out _).mono ?_; rintro e w3 ⟨rfl, rfl⟩
  have HB1 := Lib.hid (bel_box _ hb1)
  have hr1 := row_step RB.out hb1
  have d0 := row_cell hr1 0; have d1 := row_cell hr1 1; have d2 := row_cell hr1 2; have d3 := row_cell hr1 3; have d4 := row_cell hr1 4
  simp only [List.getElem?_toArray, List.getElem?_cons_zero, List.getElem?_cons_succ] at d0 d1 d2 d3 d4
  have df := fun o => row_frz hr1 o
  clear hb1 hr1
  go_wp2
  refine bodyPost_ret (v := .tuple #[.agg #[.int .i64 2, .int .i64 0, .float .f64 Cn, .string ⟨#[]⟩, .slice none 0 0], .int .i64 9, .bool true]) (by simp [results, Try.results23, go_sem, World.cell?_setCell_same, World.cell?_setCell_other, d0, d1, d2, d3, d4]) rfl ?_
  exact rr_some (bel_set5 HB1.out (Nat.le_refl _) _ _ _ _ _) HN.out rfl (by rw [HCF.out]; exact repS_leaf _ _ n 2 0 B ⟨#[]⟩ (by decide) (by decide) hB64 (by decide))
set_option maxRecDepth 100000 in
set_option maxHeartbeats 4000000 in
theorem rr_k2b (n d : Nat) (w : World) (b off l c : Nat) (R : List Int) (hb : RdB w (some ⟨b, off, none⟩) l c (2 :: R)) (hX : By (2 :: R)) (hl : l ≤ 100000) (hd : d ≤ 8) (h8 : 8 ≤ R.length) (hq : ¬ Flo.canon (rdU (R.take 8)).toNat = (rdU (R.take 8)).toNat) : Calls Try.prog 23 #[.slice (some ⟨b, off, none⟩) l c, .int .i64 d] w (RrPost (n + 1) d (2 :: R) w) := by
  obtain ⟨hR, hlc, hcm⟩ := rd_parts hb
  have hl0 : ((l : Int) == 0) = false := by rw [beq_eq_false_iff_ne]; omega
  have hd8 : ¬ ((8 : Int) < (d : Int)) := by omega
  have hdn : ¬ (8 < d) := by omega
  have c0 := cell_first hb
  have hblt : b < w.heap.size := cell_lt c0
  have hbne : w.heap.size ≠ b := by omega
  have hlp : 0 < l := by omega
  have hlp' : (0 : Int) < (l : Int) := by omega
  have hkr := hX 2 (List.mem_cons_self ..)
  have hk0 := hkr.1
  have hk1 := hkr.2
  have HB := Lib.hid (rd_keep ((Below.refl w.heap.size w).alloc (Nat.le_refl _) (.cells #[.int .i64 0, .int .i64 0, .float .f64 0, .string ⟨#[]⟩, .slice none 0 0] 26)) hb)
  have HX := Lib.hid (show By R from fun x hx => hX x (List.mem_cons_of_mem _ hx))
  have RB := Lib.hid (row_alloc w #[.int .i64 0, .int .i64 0, .float .f64 0, .string ⟨#[]⟩, .slice none 0 0] 26)
  obtain ⟨B, hB, hB64⟩ := u64_of (X := R.take 8) (by_take HX.out 8) (by rw [List.length_take]; omega)
  have HB8 := Lib.hid hB
  rw [hB, Int.toNat_natCast] at hq
  have HN := Lib.hid (show refV (n + 1) d (2 :: R) = none by rw [refV, if_neg hdn, if_neg (by decide), if_neg (by decide), if_pos (by decide), hB, Int.toNat_natCast, if_neg (fun h => hq h.2)])
  have HQ := Lib.hid (show ((Flo.canon B : Int) == (B : Int)) = false by simp; omega)
  have HCF := Lib.hid (show True from trivial)
  obtain ⟨Cn, hCn⟩ : ∃ Cn, Flo.canon B = Cn := ⟨_, rfl⟩
  rw [hCn] at HQ
  have hqq := HQ.out
  have HBT := Lib.hid (show ∀ w, Calls Try.prog 24 #[.float .f64 B] w fun e w' => e = .returned (.int .u64 Cn) ∧ w = w' from fun w => by have h := bits_ref_any B w; rw [hCn] at h; exact h)
  have HFT := Lib.hid (show ∀ w, Calls Try.prog 25 #[.float .f64 B] w fun e w' => e = .returned (.agg #[.int .i64 2, .int .i64 0, .float .f64 Cn, .string ⟨#[]⟩, .slice none 0 0]) ∧ Below w.heap.size w w' from fun w => by have h := float_ref_any B w; rw [hCn] at h; exact h)
  have hl8 : 8 ≤ l - 1 := by omega
  clear hB hq hCn
  have hc1 : c ≠ 1 := by omega
  have HRD := Lib.hid (show RdB (w.alloc (.cells #[.int .i64 0, .int .i64 0, .float .f64 0, .string ⟨#[]⟩, .slice none 0 0] 26)) (some ⟨b, off + 1, none⟩) (l - 1) (c - 1) R from rd_from (k := 1) HB.out (by omega) hc1)
  clear hb hX hR hkr
  go_enter Try.func23, Try.ntmps23
  go_wp2_with fail
  go_at_call 39; refine (rreadU_yes _ _ _ _ R 8 HRD.out HX.out (by omega) hl8).mono ?_; rintro e w2 ⟨rfl, rfl⟩
  rw [HB8.out]
  go_wp2_with fail
  go_at_call 25; refine (HFT.out _).mono ?_; rintro e w1 ⟨rfl, hb1⟩
  go_wp2_with fail
  go_at_call 24; refine (HBT.out _).mono ?_; rintro e w3 ⟨rfl, rfl⟩
  have HB1 := Lib.hid (bel_box _ hb1)
  have hr1 := row_step RB.out hb1
  have d0 := row_cell hr1 0; have d1 := row_cell hr1 1; have d2 := row_cell hr1 2; have d3 := row_cell hr1 3; have d4 := row_cell hr1 4
  simp only [List.getElem?_toArray, List.getElem?_cons_zero, List.getElem?_cons_succ] at d0 d1 d2 d3 d4
  have df := fun o => row_frz hr1 o
  clear hb1 hr1
  go_wp2
  refine bodyPost_ret (v := .tuple #[.agg #[.int .i64 2, .int .i64 0, .float .f64 Cn, .string ⟨#[]⟩, .slice none 0 0], .int .i64 9, .bool false]) (by simp [results, Try.results23, go_sem, World.cell?_setCell_same, World.cell?_setCell_other, d0, d1, d2, d3, d4]) rfl ?_
  exact rr_none (bel_set5 HB1.out (Nat.le_refl _) _ _ _ _ _) HN.out (fail_mk _ _ _ _ _ _ _ _)
set_option maxRecDepth 100000 in
set_option maxHeartbeats 4000000 in
theorem rr_k2n (n d : Nat) (w : World) (b off l c : Nat) (R : List Int) (hb : RdB w (some ⟨b, off, none⟩) l c (2 :: R)) (hX : By (2 :: R)) (hl : l ≤ 100000) (hd : d ≤ 8) (h8 : ¬ 8 ≤ R.length) : Calls Try.prog 23 #[.slice (some ⟨b, off, none⟩) l c, .int .i64 d] w (RrPost (n + 1) d (2 :: R) w) := by
  obtain ⟨hR, hlc, hcm⟩ := rd_parts hb
  have hl0 : ((l : Int) == 0) = false := by rw [beq_eq_false_iff_ne]; omega
  have hd8 : ¬ ((8 : Int) < (d : Int)) := by omega
  have hdn : ¬ (8 < d) := by omega
  have c0 := cell_first hb
  have hblt : b < w.heap.size := cell_lt c0
  have hbne : w.heap.size ≠ b := by omega
  have hlp : 0 < l := by omega
  have hlp' : (0 : Int) < (l : Int) := by omega
  have hkr := hX 2 (List.mem_cons_self ..)
  have hk0 := hkr.1
  have hk1 := hkr.2
  have HB := Lib.hid (rd_keep ((Below.refl w.heap.size w).alloc (Nat.le_refl _) (.cells #[.int .i64 0, .int .i64 0, .float .f64 0, .string ⟨#[]⟩, .slice none 0 0] 26)) hb)
  have HX := Lib.hid (show By R from fun x hx => hX x (List.mem_cons_of_mem _ hx))
  have RB := Lib.hid (row_alloc w #[.int .i64 0, .int .i64 0, .float .f64 0, .string ⟨#[]⟩, .slice none 0 0] 26)
  have HN := Lib.hid (show refV (n + 1) d (2 :: R) = none by rw [refV, if_neg hdn, if_neg (by decide), if_neg (by decide), if_pos (by decide), if_neg (fun h => h8 h.1)])
  by_cases hc1 : c = 1
  · obtain rfl : l = 1 := by omega
    subst hc1
    have HRD := Lib.hid (show RdB (w.alloc (.cells #[.int .i64 0, .int .i64 0, .float .f64 0, .string ⟨#[]⟩, .slice none 0 0] 26)) (some ⟨b, off, none⟩) 0 0 R from rd_end HB.out)
    clear hb hX hR hkr
    go_enter Try.func23, Try.ntmps23
    go_wp2_with fail
    go_at_call 39; refine (rreadU_no _ _ _ _ 8 HRD.out.2.1 HRD.out.2.2.1 (by omega)).mono ?_; rintro e w2 ⟨rfl, rfl⟩
    go_wp2_with fail
    go_at_call 25; refine (float_ref_any _ _).mono ?_; rintro e w1 ⟨rfl, hb1⟩
    have HB1 := Lib.hid (bel_box _ hb1)
    have hr1 := row_step RB.out hb1
    have d0 := row_cell hr1 0; have d1 := row_cell hr1 1; have d2 := row_cell hr1 2; have d3 := row_cell hr1 3; have d4 := row_cell hr1 4
    simp only [List.getElem?_toArray, List.getElem?_cons_zero, List.getElem?_cons_succ] at d0 d1 d2 d3 d4
    have df := fun o => row_frz hr1 o
    clear hb1 hr1
    go_wp2
    refine bodyPost_ret (v := .tuple #[.agg #[.int .i64 2, .int .i64 0, .float .f64 (Flo.canon 0), .string ⟨#[]⟩, .slice none 0 0], .int .i64 9, .bool false]) (by simp [results, Try.results23, go_sem, World.cell?_setCell_same, World.cell?_setCell_other, d0, d1, d2, d3, d4]) rfl ?_
    exact rr_none (bel_set5 HB1.out (Nat.le_refl _) _ _ _ _ _) HN.out (fail_mk _ _ _ _ _ _ _ _)
  · have HRD := Lib.hid (show RdB (w.alloc (.cells #[.int .i64 0, .int .i64 0, .float .f64 0, .string ⟨#[]⟩, .slice none 0 0] 26)) (some ⟨b, off + 1, none⟩) (l - 1) (c - 1) R from rd_from (k := 1) HB.out (by omega) hc1)
    have hl8 : l - 1 < 8 := by omega
    clear hb hX hR hkr
    go_enter Try.func23, Try.ntmps23
    go_wp2_with fail
    go_at_call 39; refine (rreadU_no _ _ _ _ 8 HRD.out.2.1 HRD.out.2.2.1 (by omega)).mono ?_; rintro e w2 ⟨rfl, rfl⟩
    go_wp2_with fail
    go_at_call 25; refine (float_ref_any _ _).mono ?_; rintro e w1 ⟨rfl, hb1⟩
    have HB1 := Lib.hid (bel_box _ hb1)
    have hr1 := row_step RB.out hb1
    have d0 := row_cell hr1 0; have d1 := row_cell hr1 1; have d2 := row_cell hr1 2; have d3 := row_cell hr1 3; have d4 := row_cell hr1 4
    simp only [List.getElem?_toArray, List.getElem?_cons_zero, List.getElem?_cons_succ] at d0 d1 d2 d3 d4
    have df := fun o => row_frz hr1 o
    clear hb1 hr1
    go_wp2
    refine bodyPost_ret (v := .tuple #[.agg #[.int .i64 2, .int .i64 0, .float .f64 (Flo.canon 0), .string ⟨#[]⟩, .slice none 0 0], .int .i64 9, .bool false]) (by simp [results, Try.results23, go_sem, World.cell?_setCell_same, World.cell?_setCell_other, d0, d1, d2, d3, d4]) rfl ?_
    exact rr_none (bel_set5 HB1.out (Nat.le_refl _) _ _ _ _ _) HN.out (fail_mk _ _ _ _ _ _ _ _)
set_option maxRecDepth 100000 in
set_option maxHeartbeats 4000000 in
theorem rr_k3 (n d : Nat) (w : World) (b off l c : Nat) (R : List Int) (hb : RdB w (some ⟨b, off, none⟩) l c (3 :: R)) (hX : By (3 :: R)) (hl : l ≤ 100000) (hd : d ≤ 8) (h2 : 2 ≤ R.length) (hs1 : (rdU (R.take 2)).toNat ≤ 256) (hs2 : 2 + (rdU (R.take 2)).toNat ≤ R.length) : Calls Try.prog 23 #[.slice (some ⟨b, off, none⟩) l c, .int .i64 d] w (RrPost (n + 1) d (3 :: R) w) := by
  obtain ⟨hR, hlc, hcm⟩ := rd_parts hb
  have hl0 : ((l : Int) == 0) = false := by rw [beq_eq_false_iff_ne]; omega
  have hd8 : ¬ ((8 : Int) < (d : Int)) := by omega
  have hdn : ¬ (8 < d) := by omega
  have c0 := cell_first hb
  have hblt : b < w.heap.size := cell_lt c0
  have hbne : w.heap.size ≠ b := by omega
  have hlp : 0 < l := by omega
  have hlp' : (0 : Int) < (l : Int) := by omega
  have hkr := hX 3 (List.mem_cons_self ..)
  have hk0 := hkr.1
  have hk1 := hkr.2
  have HB := Lib.hid (rd_keep ((Below.refl w.heap.size w).alloc (Nat.le_refl _) (.cells #[.int .i64 0, .int .i64 0, .float .f64 0, .string ⟨#[]⟩, .slice none 0 0] 26)) hb)
  have HX := Lib.hid (show By R from fun x hx => hX x (List.mem_cons_of_mem _ hx))
  have RB := Lib.hid (row_alloc w #[.int .i64 0, .int .i64 0, .float .f64 0, .string ⟨#[]⟩, .slice none 0 0] 26)
  obtain ⟨L, hLe, hL16⟩ := len16 HX.out h2
  have hLn : (rdU (R.take 2)).toNat = L := by rw [hLe]; exact Int.toNat_natCast L
  rw [hLn] at hs1 hs2
  have HN := Lib.hid (show refV (n + 1) d (3 :: R) = some ((3, 0, 0, strB ((R.drop 2).take L), []), 3 + L) by rw [refV, if_neg hdn, if_neg (by decide), if_neg (by decide), if_neg (by decide), if_pos (by decide), hLn, if_pos ⟨h2, hs1, hs2⟩])
  obtain ⟨s, hse⟩ : ∃ s, strB ((R.drop 2).take L) = s := ⟨_, rfl⟩
  have hss : s.size ≤ 256 := by
    rw [← hse]
    have h5 : (strB ((R.drop 2).take L)).size = ((R.drop 2).take L).length := by
      show (List.toArray (List.map _ _)).size = _
      simp
    rw [h5, List.length_take]
    omega
  rw [hse] at HN
  have hc1 : c ≠ 1 := by omega
  have HRD := Lib.hid (show RdB (w.alloc (.cells #[.int .i64 0, .int .i64 0, .float .f64 0, .string ⟨#[]⟩, .slice none 0 0] 26)) (some ⟨b, off + 1, none⟩) (l - 1) (c - 1) R from rd_from (k := 1) HB.out (by omega) hc1)
  have HT := Lib.hid (rreadText_yes _ _ _ _ R L 256 HRD.out HX.out (by omega) hLe hL16 (by omega) (by omega))
  rw [hse] at HT
  have HE := Lib.hid (show (1 : Int) + (2 + (L : Int)) = ((3 + L : Nat) : Int) by omega)
  clear hb hX hR hkr hLe hLn hse hs2
  go_enter Try.func23, Try.ntmps23
  go_wp2_with fail
  go_at_call 41; refine HT.out.mono ?_; rintro e w2 ⟨rfl, rfl⟩
  go_wp2_with fail
  go_at_call 26; refine (text_ref_any _ _).mono ?_; rintro e w1 ⟨rfl, hb1⟩
  have HB1 := Lib.hid (bel_box _ hb1)
  have hr1 := row_step RB.out hb1
  have d0 := row_cell hr1 0; have d1 := row_cell hr1 1; have d2 := row_cell hr1 2; have d3 := row_cell hr1 3; have d4 := row_cell hr1 4
  simp only [List.getElem?_toArray, List.getElem?_cons_zero, List.getElem?_cons_succ] at d0 d1 d2 d3 d4
  have df := fun o => row_frz hr1 o
  clear hb1 hr1
  go_wp2
  refine bodyPost_ret (v := .tuple #[.agg #[.int .i64 3, .int .i64 0, .float .f64 0, .string s, .slice none 0 0], .int .i64 (1 + (2 + (L : Int))), .bool true]) (by simp [results, Try.results23, go_sem, World.cell?_setCell_same, World.cell?_setCell_other, d0, d1, d2, d3, d4]) rfl ?_
  exact rr_some (bel_set5 HB1.out (Nat.le_refl _) _ _ _ _ _) HN.out (by rw [HE.out]) (repS_leaf _ _ n 3 0 0 s (by decide) (by decide) (by decide) (by unfold maxLen; omega))
set_option maxRecDepth 100000 in
set_option maxHeartbeats 4000000 in
theorem rr_k3n (n d : Nat) (w : World) (b off l c : Nat) (R : List Int) (hb : RdB w (some ⟨b, off, none⟩) l c (3 :: R)) (hX : By (3 :: R)) (hl : l ≤ 100000) (hd : d ≤ 8) (h2 : 2 ≤ R.length) (hs : ¬ ((rdU (R.take 2)).toNat ≤ 256 ∧ 2 + (rdU (R.take 2)).toNat ≤ R.length)) : Calls Try.prog 23 #[.slice (some ⟨b, off, none⟩) l c, .int .i64 d] w (RrPost (n + 1) d (3 :: R) w) := by
  obtain ⟨hR, hlc, hcm⟩ := rd_parts hb
  have hl0 : ((l : Int) == 0) = false := by rw [beq_eq_false_iff_ne]; omega
  have hd8 : ¬ ((8 : Int) < (d : Int)) := by omega
  have hdn : ¬ (8 < d) := by omega
  have c0 := cell_first hb
  have hblt : b < w.heap.size := cell_lt c0
  have hbne : w.heap.size ≠ b := by omega
  have hlp : 0 < l := by omega
  have hlp' : (0 : Int) < (l : Int) := by omega
  have hkr := hX 3 (List.mem_cons_self ..)
  have hk0 := hkr.1
  have hk1 := hkr.2
  have HB := Lib.hid (rd_keep ((Below.refl w.heap.size w).alloc (Nat.le_refl _) (.cells #[.int .i64 0, .int .i64 0, .float .f64 0, .string ⟨#[]⟩, .slice none 0 0] 26)) hb)
  have HX := Lib.hid (show By R from fun x hx => hX x (List.mem_cons_of_mem _ hx))
  have RB := Lib.hid (row_alloc w #[.int .i64 0, .int .i64 0, .float .f64 0, .string ⟨#[]⟩, .slice none 0 0] 26)
  obtain ⟨L, hLe, hL16⟩ := len16 HX.out h2
  have hLn : (rdU (R.take 2)).toNat = L := by rw [hLe]; exact Int.toNat_natCast L
  rw [hLn] at hs
  have HN := Lib.hid (show refV (n + 1) d (3 :: R) = none by rw [refV, if_neg hdn, if_neg (by decide), if_neg (by decide), if_neg (by decide), if_pos (by decide), hLn, if_neg (fun h => hs h.2)])
  have hc1 : c ≠ 1 := by omega
  have HRD := Lib.hid (show RdB (w.alloc (.cells #[.int .i64 0, .int .i64 0, .float .f64 0, .string ⟨#[]⟩, .slice none 0 0] 26)) (some ⟨b, off + 1, none⟩) (l - 1) (c - 1) R from rd_from (k := 1) HB.out (by omega) hc1)
  have HT := Lib.hid (rreadText_no _ _ _ _ R L 256 HRD.out HX.out (by omega) hLe hL16 (by omega))
  clear hb hX hR hkr hLe hLn hs
  go_enter Try.func23, Try.ntmps23
  go_wp2_with fail
  go_at_call 41; refine HT.out.mono ?_; rintro e w2 ⟨rfl, rfl⟩
  go_wp2_with fail
  go_at_call 26; refine (text_ref_any _ _).mono ?_; rintro e w1 ⟨rfl, hb1⟩
  have HB1 := Lib.hid (bel_box _ hb1)
  have hr1 := row_step RB.out hb1
  have d0 := row_cell hr1 0; have d1 := row_cell hr1 1; have d2 := row_cell hr1 2; have d3 := row_cell hr1 3; have d4 := row_cell hr1 4
  simp only [List.getElem?_toArray, List.getElem?_cons_zero, List.getElem?_cons_succ] at d0 d1 d2 d3 d4
  have df := fun o => row_frz hr1 o
  clear hb1 hr1
  go_wp2
  refine bodyPost_ret (v := .tuple #[.agg #[.int .i64 3, .int .i64 0, .float .f64 0, .string ⟨#[]⟩, .slice none 0 0], .int .i64 1, .bool false]) (by simp [results, Try.results23, go_sem, World.cell?_setCell_same, World.cell?_setCell_other, d0, d1, d2, d3, d4]) rfl ?_
  exact rr_none (bel_set5 HB1.out (Nat.le_refl _) _ _ _ _ _) HN.out (fail_mk _ _ _ _ _ _ _ _)
set_option maxRecDepth 100000 in
set_option maxHeartbeats 4000000 in
theorem rr_k3s (n d : Nat) (w : World) (b off l c : Nat) (R : List Int) (hb : RdB w (some ⟨b, off, none⟩) l c (3 :: R)) (hX : By (3 :: R)) (hl : l ≤ 100000) (hd : d ≤ 8) (h8 : ¬ 2 ≤ R.length) : Calls Try.prog 23 #[.slice (some ⟨b, off, none⟩) l c, .int .i64 d] w (RrPost (n + 1) d (3 :: R) w) := by
  obtain ⟨hR, hlc, hcm⟩ := rd_parts hb
  have hl0 : ((l : Int) == 0) = false := by rw [beq_eq_false_iff_ne]; omega
  have hd8 : ¬ ((8 : Int) < (d : Int)) := by omega
  have hdn : ¬ (8 < d) := by omega
  have c0 := cell_first hb
  have hblt : b < w.heap.size := cell_lt c0
  have hbne : w.heap.size ≠ b := by omega
  have hlp : 0 < l := by omega
  have hlp' : (0 : Int) < (l : Int) := by omega
  have hkr := hX 3 (List.mem_cons_self ..)
  have hk0 := hkr.1
  have hk1 := hkr.2
  have HB := Lib.hid (rd_keep ((Below.refl w.heap.size w).alloc (Nat.le_refl _) (.cells #[.int .i64 0, .int .i64 0, .float .f64 0, .string ⟨#[]⟩, .slice none 0 0] 26)) hb)
  have HX := Lib.hid (show By R from fun x hx => hX x (List.mem_cons_of_mem _ hx))
  have RB := Lib.hid (row_alloc w #[.int .i64 0, .int .i64 0, .float .f64 0, .string ⟨#[]⟩, .slice none 0 0] 26)
  have HN := Lib.hid (show refV (n + 1) d (3 :: R) = none by rw [refV, if_neg hdn, if_neg (by decide), if_neg (by decide), if_neg (by decide), if_pos (by decide), if_neg (fun h => h8 h.1)])
  by_cases hc1 : c = 1
  · obtain rfl : l = 1 := by omega
    subst hc1
    have HRD := Lib.hid (show RdB (w.alloc (.cells #[.int .i64 0, .int .i64 0, .float .f64 0, .string ⟨#[]⟩, .slice none 0 0] 26)) (some ⟨b, off, none⟩) 0 0 R from rd_end HB.out)
    clear hb hX hR hkr
    go_enter Try.func23, Try.ntmps23
    go_wp2_with fail
    go_at_call 41; refine (rreadText_short _ _ _ _ 256 HRD.out.2.1 HRD.out.2.2.1 (by omega)).mono ?_; rintro e w2 ⟨rfl, rfl⟩
    go_wp2_with fail
    go_at_call 26; refine (text_ref_any _ _).mono ?_; rintro e w1 ⟨rfl, hb1⟩
    have HB1 := Lib.hid (bel_box _ hb1)
    have hr1 := row_step RB.out hb1
    have d0 := row_cell hr1 0; have d1 := row_cell hr1 1; have d2 := row_cell hr1 2; have d3 := row_cell hr1 3; have d4 := row_cell hr1 4
    simp only [List.getElem?_toArray, List.getElem?_cons_zero, List.getElem?_cons_succ] at d0 d1 d2 d3 d4
    have df := fun o => row_frz hr1 o
    clear hb1 hr1
    go_wp2
    refine bodyPost_ret (v := .tuple #[.agg #[.int .i64 3, .int .i64 0, .float .f64 0, .string ⟨#[]⟩, .slice none 0 0], .int .i64 1, .bool false]) (by simp [results, Try.results23, go_sem, World.cell?_setCell_same, World.cell?_setCell_other, d0, d1, d2, d3, d4]) rfl ?_
    exact rr_none (bel_set5 HB1.out (Nat.le_refl _) _ _ _ _ _) HN.out (fail_mk _ _ _ _ _ _ _ _)
  · have HRD := Lib.hid (show RdB (w.alloc (.cells #[.int .i64 0, .int .i64 0, .float .f64 0, .string ⟨#[]⟩, .slice none 0 0] 26)) (some ⟨b, off + 1, none⟩) (l - 1) (c - 1) R from rd_from (k := 1) HB.out (by omega) hc1)
    have hl8 : l - 1 < 2 := by omega
    clear hb hX hR hkr
    go_enter Try.func23, Try.ntmps23
    go_wp2_with fail
    go_at_call 41; refine (rreadText_short _ _ _ _ 256 HRD.out.2.1 HRD.out.2.2.1 (by omega)).mono ?_; rintro e w2 ⟨rfl, rfl⟩
    go_wp2_with fail
    go_at_call 26; refine (text_ref_any _ _).mono ?_; rintro e w1 ⟨rfl, hb1⟩
    have HB1 := Lib.hid (bel_box _ hb1)
    have hr1 := row_step RB.out hb1
    have d0 := row_cell hr1 0; have d1 := row_cell hr1 1; have d2 := row_cell hr1 2; have d3 := row_cell hr1 3; have d4 := row_cell hr1 4
    simp only [List.getElem?_toArray, List.getElem?_cons_zero, List.getElem?_cons_succ] at d0 d1 d2 d3 d4
    have df := fun o => row_frz hr1 o
    clear hb1 hr1
    go_wp2
    refine bodyPost_ret (v := .tuple #[.agg #[.int .i64 3, .int .i64 0, .float .f64 0, .string ⟨#[]⟩, .slice none 0 0], .int .i64 1, .bool false]) (by simp [results, Try.results23, go_sem, World.cell?_setCell_same, World.cell?_setCell_other, d0, d1, d2, d3, d4]) rfl ?_
    exact rr_none (bel_set5 HB1.out (Nat.le_refl _) _ _ _ _ _) HN.out (fail_mk _ _ _ _ _ _ _ _)
set_option maxRecDepth 100000 in
set_option maxHeartbeats 4000000 in
theorem rr_else (n d : Nat) (w : World) (b off l c : Nat) (k : Int) (R : List Int) (hb : RdB w (some ⟨b, off, none⟩) l c (k :: R)) (hX : By (k :: R)) (hl : l ≤ 100000) (hd : d ≤ 8) (hk : ¬ (0 ≤ k ∧ k ≤ 4)) : Calls Try.prog 23 #[.slice (some ⟨b, off, none⟩) l c, .int .i64 d] w (RrPost (n + 1) d (k :: R) w) := by
  obtain ⟨hR, hlc, hcm⟩ := rd_parts hb
  have hl0 : ((l : Int) == 0) = false := by rw [beq_eq_false_iff_ne]; omega
  have hd8 : ¬ ((8 : Int) < (d : Int)) := by omega
  have hdn : ¬ (8 < d) := by omega
  have c0 := cell_first hb
  have hblt : b < w.heap.size := cell_lt c0
  have hbne : w.heap.size ≠ b := by omega
  have hlp : 0 < l := by omega
  have hlp' : (0 : Int) < (l : Int) := by omega
  have hkr := hX k (List.mem_cons_self ..)
  have hk0 := hkr.1
  have hk1 := hkr.2
  have HB := Lib.hid (rd_keep ((Below.refl w.heap.size w).alloc (Nat.le_refl _) (.cells #[.int .i64 0, .int .i64 0, .float .f64 0, .string ⟨#[]⟩, .slice none 0 0] 26)) hb)
  have HX := Lib.hid (show By R from fun x hx => hX x (List.mem_cons_of_mem _ hx))
  have RB := Lib.hid (row_alloc w #[.int .i64 0, .int .i64 0, .float .f64 0, .string ⟨#[]⟩, .slice none 0 0] 26)
  have q0 : (k == 0) = false := by rw [beq_eq_false_iff_ne]; omega
  have q1 : (k == 1) = false := by rw [beq_eq_false_iff_ne]; omega
  have q2 : (k == 2) = false := by rw [beq_eq_false_iff_ne]; omega
  have q3 : (k == 3) = false := by rw [beq_eq_false_iff_ne]; omega
  have q4 : (k == 4) = false := by rw [beq_eq_false_iff_ne]; omega
  have HN := Lib.hid (show refV (n + 1) d (k :: R) = none by rw [refV, if_neg hdn, q0, q1, q2, q3, q4]; simp)
  clear hb hX hR hkr
  go_enter Try.func23, Try.ntmps23
  go_wp2
  exact bodyPost_ret (v := .tuple #[.agg #[.int .i64 0, .int .i64 0, .float .f64 0, .string ⟨#[]⟩, .slice none 0 0], .int .i64 0, .bool false]) (by simp [results, Try.results23, go_sem]) rfl (rr_none (bel_alloc (Below.refl _ _) _) HN.out (fail_mk _ _ _ _ _ _ _ _))
end Num
end Go.Proofs.Ytbodakfgoijeeaa
