/-
  What the reference reads: all kinds but lists.
-/
import Derived.Test.YtomfgncbdgifoaaJp12MK
import Derived.Test.YtomfgncbdgifoaaJp11MS
namespace Go.Proofs.Ytomfgncbdgifoaa
open Go.RowKit
namespace Num
open Ints
set_option linter.unusedSimpArgs false
set_option linter.unusedVariables false
def RrPost (n d : Nat) (X : List Int) (w : World) (e : Ending) (w' : World) : Prop := Below w.heap.size w w' ∧ (refV n d X = none → Fail3 e) ∧ ∀ T j, refV n d X = some (T, j) → ∃ v, e = .returned (.tuple #[v, .int .i64 (j : Int), .bool true]) ∧ RepS (fun b => w.heap.size ≤ b) w' n v T
theorem rr_none {n d : Nat} {X : List Int} {w w' : World} {e : Ending} (hb : Below w.heap.size w w') (hd : refV n d X = none) (hf : Fail3 e) : RrPost n d X w e w' := ⟨hb, fun _ => hf, fun T j h => by rw [hd] at h; cases h⟩
theorem rr_some {n d : Nat} {X : List Int} {w w' : World} {e : Ending} {T : VT n} {j : Nat} {v : Value} (hb : Below w.heap.size w w') (hd : refV n d X = some (T, j)) (he : e = .returned (.tuple #[v, .int .i64 (j : Int), .bool true])) (hr : RepS (fun b => w.heap.size ≤ b) w' n v T) : RrPost n d X w e w' :=
  ⟨hb, fun h => (by rw [hd] at h; cases h), fun T' j' h => by rw [hd] at h; cases h; exact ⟨v, he, hr⟩⟩
set_option maxHeartbeats 1000000 in
theorem rInt_any (I : Int) (w : World) : Calls Try.prog 27 #[.int .i64 I] w fun e w' => e = .returned (.agg #[.int .i64 1, .int .i64 I, .float .f64 0, .string ⟨#[]⟩, .slice none 0 0]) ∧ Below w.heap.size w w' := by
  go_enter Try.func27, Try.ntmps27
  go_wp2
  exact bodyPost_ret (v := .agg #[.int .i64 1, .int .i64 I, .float .f64 0, .string ⟨#[]⟩, .slice none 0 0]) (by simp [results, Try.results27, go_sem]) rfl ⟨rfl, (Below.refl _ _).alloc (Nat.le_refl _) _⟩
set_option maxHeartbeats 1000000 in
theorem rTxt_any (S : ByteArray) (w : World) : Calls Try.prog 53 #[.string S] w fun e w' => e = .returned (.agg #[.int .i64 3, .int .i64 0, .float .f64 0, .string S, .slice none 0 0]) ∧ Below w.heap.size w w' := by
  go_enter Try.func53, Try.ntmps53
  go_wp2
  exact bodyPost_ret (v := .agg #[.int .i64 3, .int .i64 0, .float .f64 0, .string S, .slice none 0 0]) (by simp [results, Try.results53, go_sem]) rfl ⟨rfl, (Below.refl _ _).alloc (Nat.le_refl _) _⟩
set_option maxHeartbeats 1000000 in
theorem rFlo_any (x : Nat) (w : World) : Calls Try.prog 24 #[.float .f64 x] w fun e w' => e = .returned (.agg #[.int .i64 2, .int .i64 0, .float .f64 (Flo.canon x), .string ⟨#[]⟩, .slice none 0 0]) ∧ Below w.heap.size w w' := by
  go_enter Try.func24, Try.ntmps24
  go_wp2_with fail
  go_at_call 54; refine (canon_ref_any _ _).mono ?_; rintro e w' ⟨rfl, rfl⟩
  go_wp2
  exact bodyPost_ret (v := .agg #[.int .i64 2, .int .i64 0, .float .f64 (Flo.canon x), .string ⟨#[]⟩, .slice none 0 0]) (by simp [results, Try.results24, go_sem]) rfl ⟨rfl, (Below.refl _ _).alloc (Nat.le_refl _) _⟩
theorem cell_first {w : World} {b off l c : Nat} {k : Int} {R : List Int} (h : RdB w (some ⟨b, off, none⟩) l c (k :: R)) : w.cell? ⟨b, off, none⟩ = some (.int .u8 k) := by
  obtain ⟨b', off', e, hc⟩ := h.2.2.2.1 (by have := h.1; rw [List.length_cons] at this; omega)
  cases e
  exact hc 0 (by simp)
set_option maxRecDepth 100000 in
set_option maxHeartbeats 4000000 in
theorem rr_empty (n d : Nat) (w : World) (p : Option Addr) (c : Nat) (hc : c ≤ maxLen) (hd : d ≤ 100) : Calls Try.prog 67 #[.slice p 0 c, .int .i64 d] w (RrPost n d [] w) := by
  unfold maxLen at hc
  have HN := Lib.hid (show refV n d [] = none by cases n <;> rfl)
  go_enter Try.func67, Try.ntmps67
  go_wp2
  all_goals exact bodyPost_ret (v := .tuple #[.agg #[.int .i64 0, .int .i64 0, .float .f64 0, .string ⟨#[]⟩, .slice none 0 0], .int .i64 0, .bool false]) (by simp [results, Try.results67, go_sem]) rfl (rr_none (bel_alloc (Below.refl _ _) _) HN.out (fail_mk _ _ _ _ _ _ _ _))
set_option maxRecDepth 100000 in
set_option maxHeartbeats 4000000 in
theorem rr_deep (n d : Nat) (w : World) (b off l c : Nat) (k : Int) (R : List Int) (hb : RdB w (some ⟨b, off, none⟩) l c (k :: R)) (h8 : 8 < d) (hd : d ≤ 100) : Calls Try.prog 67 #[.slice (some ⟨b, off, none⟩) l c, .int .i64 d] w (RrPost (n + 1) d (k :: R) w) := by
  obtain ⟨hR, hlc, hcm⟩ := rd_parts hb
  have hl0 : ((l : Int) == 0) = false := by rw [beq_eq_false_iff_ne]; omega
  have h8' : (8 : Int) < (d : Int) := by omega
  have HN := Lib.hid (show refV (n + 1) d (k :: R) = none by rw [refV, if_pos h8])
  clear hb
  go_enter Try.func67, Try.ntmps67
  go_wp2
  all_goals exact bodyPost_ret (v := .tuple #[.agg #[.int .i64 0, .int .i64 0, .float .f64 0, .string ⟨#[]⟩, .slice none 0 0], .int .i64 0, .bool false]) (by simp [results, Try.results67, go_sem]) rfl (rr_none (bel_alloc (Below.refl _ _) _) HN.out (fail_mk _ _ _ _ _ _ _ _))
set_option maxRecDepth 100000 in
set_option maxHeartbeats 4000000 in
theorem rr_k0 (n d : Nat) (w : World) (b off l c : Nat) (R : List Int) (hb : RdB w (some ⟨b, off, none⟩) l c (0 :: R)) (hX : By (0 :: R)) (hl : l ≤ 100000) (hd : d ≤ 8) : Calls Try.prog 67 #[.slice (some ⟨b, off, none⟩) l c, .int .i64 d] w (RrPost (n + 1) d (0 :: R) w) := by
  obtain ⟨hR, hlc, hcm⟩ := rd_parts hb
  have hl0 : ((l : Int) == 0) = false := by rw [beq_eq_false_iff_ne]; omega
  have hd8 : ¬ ((8 : Int) < (d : Int)) := by omega
  have hdn : ¬ (8 < d) := by omega
  have c0 := cell_first hb
  have hblt : b < w.heap.size := cell_lt c0
  have hbne : w.heap.size ≠ b := by omega
  have hlp : 0 < l := by omega
  have hlp' : (0 : Int) < (l : Int) := by omega
  have hkr := hX 0 (List.mem_cons_self ..)
  have hk0 := hkr.1
  have hk1 := hkr.2
  have HB := Lib.hid (rd_keep ((Below.refl w.heap.size w).alloc (Nat.le_refl _) (.cells #[.int .i64 0, .int .i64 0, .float .f64 0, .string ⟨#[]⟩, .slice none 0 0] 47)) hb)
  have HX := Lib.hid (show By R from fun x hx => hX x (List.mem_cons_of_mem _ hx))
  have RB := Lib.hid (row_alloc w #[.int .i64 0, .int .i64 0, .float .f64 0, .string ⟨#[]⟩, .slice none 0 0] 47)
  have HN := Lib.hid (show refV (n + 1) d (0 :: R) = some ((0, 0, 0, ⟨#[]⟩, []), 1) by rw [refV, if_neg hdn, if_pos (by decide)])
  clear hb hX hR hkr
  go_enter Try.func67, Try.ntmps67
  go_wp2
  exact bodyPost_ret (v := .tuple #[.agg #[.int .i64 0, .int .i64 0, .float .f64 0, .string ⟨#[]⟩, .slice none 0 0], .int .i64 1, .bool true]) (by simp [results, Try.results67, go_sem]) rfl (rr_some (bel_alloc (Below.refl _ _) _) HN.out rfl (repS_leaf _ _ n 0 0 0 ⟨#[]⟩ (by decide) (by decide) (by decide) (by decide)))
set_option maxRecDepth 100000 in
set_option maxHeartbeats 4000000 in
theorem rr_k1 (n d : Nat) (w : World) (b off l c : Nat) (R : List Int) (hb : RdB w (some ⟨b, off, none⟩) l c (1 :: R)) (hX : By (1 :: R)) (hl : l ≤ 100000) (hd : d ≤ 8) (h8 : 8 ≤ R.length) : Calls Try.prog 67 #[.slice (some ⟨b, off, none⟩) l c, .int .i64 d] w (RrPost (n + 1) d (1 :: R) w) := by
  obtain ⟨hR, hlc, hcm⟩ := rd_parts hb
  have hl0 : ((l : Int) == 0) = false := by rw [beq_eq_false_iff_ne]; omega
  have hd8 : ¬ ((8 : Int) < (d : Int)) := by omega
  have hdn : ¬ (8 < d) := by omega
  have c0 := cell_first hb
  have hblt : b < w.heap.size := cell_lt c0
  have hbne : w.heap.size ≠ b := by omega
  have hlp : 0 < l := by omega
  have hlp' : (0 : Int) < (l : Int) := by omega
  have hkr := hX 1 (List.mem_cons_self ..)
  have hk0 := hkr.1
  have hk1 := hkr.2
  have HB := Lib.hid (rd_keep ((Below.refl w.heap.size w).alloc (Nat.le_refl _) (.cells #[.int .i64 0, .int .i64 0, .float .f64 0, .string ⟨#[]⟩, .slice none 0 0] 47)) hb)
  have HX := Lib.hid (show By R from fun x hx => hX x (List.mem_cons_of_mem _ hx))
  have RB := Lib.hid (row_alloc w #[.int .i64 0, .int .i64 0, .float .f64 0, .string ⟨#[]⟩, .slice none 0 0] 47)
  obtain ⟨B, hB, hB64⟩ := u64_of (X := R.take 8) (by_take HX.out 8) (by rw [List.length_take]; omega)
  have HB8 := Lib.hid hB
  have HN := Lib.hid (show refV (n + 1) d (1 :: R) = some ((1, wrap64 (B : Int), 0, ⟨#[]⟩, []), 9) by rw [refV, if_neg hdn, if_neg (by decide), if_pos (by decide), if_pos h8, hB])
  clear hB
  have hc1 : c ≠ 1 := by omega
  have HRD := Lib.hid (show RdB (w.alloc (.cells #[.int .i64 0, .int .i64 0, .float .f64 0, .string ⟨#[]⟩, .slice none 0 0] 47)) (some ⟨b, off + 1, none⟩) (l - 1) (c - 1) R from rd_from (k := 1) HB.out (by omega) hc1)
  have hl8 : 8 ≤ l - 1 := by omega
  clear hb hX hR hkr
  go_enter Try.func67, Try.ntmps67
  go_wp2_with fail
  go_at_call 48; refine (rreadU_yes _ _ _ _ R 8 HRD.out HX.out (by omega) hl8).mono ?_; rintro e w2 ⟨rfl, rfl⟩
  rw [HB8.out]
  go_wp2_with fail
  go_at_call 27; refine (rInt_any _ _).mono ?_; rintro e w1 ⟨rfl, hb1⟩
  have HB1 := Lib.hid (bel_box _ hb1)
  have hr1 := row_step RB.out hb1
  have d0 := row_cell hr1 0; have d1 := row_cell hr1 1; have d2 := row_cell hr1 2; have d3 := row_cell hr1 3; have d4 := row_cell hr1 4
  simp only [List.getElem?_toArray, List.getElem?_cons_zero, List.getElem?_cons_succ] at d0 d1 d2 d3 d4
  have df := fun o => row_frz hr1 o
  clear hb1 hr1
  go_wp2
  refine bodyPost_ret (v := .tuple #[.agg #[.int .i64 1, .int .i64 (wrap64 (B : Int)), .float .f64 0, .string ⟨#[]⟩, .slice none 0 0], .int .i64 9, .bool true]) (by simp [results, Try.results67, go_sem, World.cell?_setCell_same, World.cell?_setCell_other, d0, d1, d2, d3, d4]) rfl ?_
  exact rr_some (bel_set5 HB1.out (Nat.le_refl _) _ _ _ _ _) HN.out rfl (repS_leaf _ _ n 1 _ 0 ⟨#[]⟩ (by decide) (ok_wrap64 _) (by decide) (by decide))
set_option maxRecDepth 100000 in
set_option maxHeartbeats 4000000 in
theorem rr_k1n (n d : Nat) (w : World) (b off l c : Nat) (R : List Int) (hb : RdB w (some ⟨b, off, none⟩) l c (1 :: R)) (hX : By (1 :: R)) (hl : l ≤ 100000) (hd : d ≤ 8) (h8 : ¬ 8 ≤ R.length) : Calls Try.prog 67 #[.slice (some ⟨b, off, none⟩) l c, .int .i64 d] w (RrPost (n + 1) d (1 :: R) w) := by
  obtain ⟨hR, hlc, hcm⟩ := rd_parts hb
  have hl0 : ((l : Int) == 0) = false := by rw [beq_eq_false_iff_ne]; omega
  have hd8 : ¬ ((8 : Int) < (d : Int)) := by omega
  have hdn : ¬ (8 < d) := by omega
  have c0 := cell_first hb
  have hblt : b < w.heap.size := cell_lt c0
  have hbne : w.heap.size ≠ b := by omega
  have hlp : 0 < l := by omega
  have hlp' : (0 : Int) < (l : Int) := by omega
  have hkr := hX 1 (List.mem_cons_self ..)
  have hk0 := hkr.1
  have hk1 := hkr.2
  have HB := Lib.hid (rd_keep ((Below.refl w.heap.size w).alloc (Nat.le_refl _) (.cells #[.int .i64 0, .int .i64 0, .float .f64 0, .string ⟨#[]⟩, .slice none 0 0] 47)) hb)
  have HX := Lib.hid (show By R from fun x hx => hX x (List.mem_cons_of_mem _ hx))
  have RB := Lib.hid (row_alloc w #[.int .i64 0, .int .i64 0, .float .f64 0, .string ⟨#[]⟩, .slice none 0 0] 47)
  have HN := Lib.hid (show refV (n + 1) d (1 :: R) = none by rw [refV, if_neg hdn, if_neg (by decide), if_pos (by decide), if_neg h8])
  by_cases hc1 : c = 1
  · obtain rfl : l = 1 := by omega
    subst hc1
    have HRD := Lib.hid (show RdB (w.alloc (.cells #[.int .i64 0, .int .i64 0, .float .f64 0, .string ⟨#[]⟩, .slice none 0 0] 47)) (some ⟨b, off, none⟩) 0 0 R from rd_end HB.out)
    clear hb hX hR hkr
    go_enter Try.func67, Try.ntmps67
    go_wp2_with fail
    go_at_call 48; refine (rreadU_no _ _ _ _ 8 HRD.out.2.1 HRD.out.2.2.1 (by omega)).mono ?_; rintro e w2 ⟨rfl, rfl⟩
    go_wp2_with fail
    go_at_call 27; refine (rInt_any _ _).mono ?_; rintro e w1 ⟨rfl, hb1⟩
    have HB1 := Lib.hid (bel_box _ hb1)
    have hr1 := row_step RB.out hb1
    have d0 := row_cell hr1 0; have d1 := row_cell hr1 1; have d2 := row_cell hr1 2; have d3 := row_cell hr1 3; have d4 := row_cell hr1 4
    simp only [List.getElem?_toArray, List.getElem?_cons_zero, List.getElem?_cons_succ] at d0 d1 d2 d3 d4
    have df := fun o => row_frz hr1 o
    clear hb1 hr1
    go_wp2
    refine bodyPost_ret (v := .tuple #[.agg #[.int .i64 1, .int .i64 0, .float .f64 0, .string ⟨#[]⟩, .slice none 0 0], .int .i64 9, .bool false]) (by simp [results, Try.results67, go_sem, World.cell?_setCell_same, World.cell?_setCell_other, d0, d1, d2, d3, d4]) rfl ?_
    exact rr_none (bel_set5 HB1.out (Nat.le_refl _) _ _ _ _ _) HN.out (fail_mk _ _ _ _ _ _ _ _)
  · have HRD := Lib.hid (show RdB (w.alloc (.cells #[.int .i64 0, .int .i64 0, .float .f64 0, .string ⟨#[]⟩, .slice none 0 0] 47)) (some ⟨b, off + 1, none⟩) (l - 1) (c - 1) R from rd_from (k := 1) HB.out (by omega) hc1)
    have hl8 : l - 1 < 8 := by omega
    clear hb hX hR hkr
    go_enter Try.func67, Try.ntmps67
    go_wp2_with fail
    go_at_call 48; refine (rreadU_no _ _ _ _ 8 HRD.out.2.1 HRD.out.2.2.1 (by omega)).mono ?_; rintro e w2 ⟨rfl, rfl⟩
    go_wp2_with fail
    go_at_call 27; refine (rInt_any _ _).mono ?_; rintro e w1 ⟨rfl, hb1⟩
    have HB1 := Lib.hid (bel_box _ hb1)
    have hr1 := row_step RB.out hb1
    have d0 := row_cell hr1 0; have d1 := row_cell hr1 1; have d2 := row_cell hr1 2; have d3 := row_cell hr1 3; have d4 := row_cell hr1 4
    simp only [List.getElem?_toArray, List.getElem?_cons_zero, List.getElem?_cons_succ] at d0 d1 d2 d3 d4
    have df := fun o => row_frz hr1 o
    clear hb1 hr1
    go_wp2
    refine bodyPost_ret (v := .tuple #[.agg #[.int .i64 1, .int .i64 0, .float .f64 0, .string ⟨#[]⟩, .slice none 0 0], .int .i64 9, .bool false]) (by simp [results, Try.results67, go_sem, World.cell?_setCell_same, World.cell?_setCell_other, d0, d1, d2, d3, d4]) rfl ?_
    exact rr_none (bel_set5 HB1.out (Nat.le_refl _) _ _ _ _ _) HN.out (fail_mk _ _ _ _ _ _ _ _)
set_option maxRecDepth 100000 in
set_option maxHeartbeats 4000000 in
theorem rr_k2 (n d : Nat) (w : World) (b off l c : Nat) (R : List Int) (hb : RdB w (some ⟨b, off, none⟩) l c (2 :: R)) (hX : By (2 :: R)) (hl : l ≤ 100000) (hd : d ≤ 8) (h8 : 8 ≤ R.length) (hq : Flo.canon (rdU (R.take 8)).toNat = (rdU (R.take 8)).toNat) : Calls Try.prog 67 #[.slice (some ⟨b, off, none⟩) l c, .int .i64 d] w (RrPost (n + 1) d (2 :: R) w) := by
  obtain ⟨hR, hlc, hcm⟩ := rd_parts hb
  have hl0 : ((l : Int) == 0) = false := by rw [beq_eq_false_iff_ne]; omega
  have hd8 : ¬ ((8 : Int) < (d : Int)) := by omega
  have hdn : ¬ (8 < d) := by omega
  have c0 := cell_first hb
  have hblt : b < w.heap.size := cell_lt c0
  have hbne : w.heap.size ≠ b := by omega
  have hlp : 0 < l := by omega
  have hlp' : (0 : Int) < (l : Int) := by omega
  have hkr := hX 2 (List.mem_cons_self ..)
  have hk0 := hkr.1
  have hk1 := hkr.2
  have HB := Lib.hid (rd_keep ((Below.refl w.heap.size w).alloc (Nat.le_refl _) (.cells #[.int .i64 0, .int .i64 0, .float .f64 0, .string ⟨#[]⟩, .slice none 0 0] 47)) hb)
  have HX := Lib.hid (show By R from fun x hx => hX x (List.mem_cons_of_mem _ hx))
  have RB := Lib.hid (row_alloc w #[.int .i64 0, .int .i64 0, .float .f64 0, .string ⟨#[]⟩, .slice none 0 0] 47)
  obtain ⟨B, hB, hB64⟩ := u64_of (X := R.take 8) (by_take HX.out 8) (by rw [List.length_take]; omega)
  have HB8 := Lib.hid hB
  rw [hB, Int.toNat_natCast] at hq
  have HN := Lib.hid (show refV (n + 1) d (2 :: R) = some ((2, 0, B, ⟨#[]⟩, []), 9) by rw [refV, if_neg hdn, if_neg (by decide), if_neg (by decide), if_pos (by decide), hB, Int.toNat_natCast, if_pos ⟨h8, hq⟩])
  have HQ := Lib.hid (show ((Flo.canon B : Int) == (B : Int)) = true by rw [hq]; simp)
  have HCF := Lib.hid (show Flo.canon B = B from hq)
  obtain ⟨Cn, hCn⟩ : ∃ Cn, Flo.canon B = Cn := ⟨_, rfl⟩
  rw [hCn] at HQ HCF
  have hqq := HQ.out
  have HBT := Lib.hid (show ∀ w, Calls Try.prog 70 #[.float .f64 B] w fun e w' => e = .returned (.int .u64 Cn) ∧ w = w' from fun w => by have h := bits_ref_any B w; rw [hCn] at h; exact h)
  have HFT := Lib.hid (show ∀ w, Calls Try.prog 24 #[.float .f64 B] w fun e w' => e = .returned (.agg #[.int .i64 2, .int .i64 0, .float .f64 Cn, .string ⟨#[]⟩, .slice none 0 0]) ∧ Below w.heap.size w w' from fun w => by have h := float_ref_any B w; rw [hCn] at h; exact h)
  have hl8 : 8 ≤ l - 1 := by omega
  clear hB hq hCn
  have hc1 : c ≠ 1 := by omega
  have HRD := Lib.hid (show RdB (w.alloc (.cells #[.int .i64 0, .int .i64 0, .float .f64 0, .string ⟨#[]⟩, .slice none 0 0] 47)) (some ⟨b, off + 1, none⟩) (l - 1) (c - 1) R from rd_from (k := 1) HB.out (by omega) hc1)
  clear hb hX hR hkr
  go_enter Try.func67, Try.ntmps67
  go_wp2_with fail
  go_at_call 48; refine (rreadU_yes _ _ _ _ R 8 HRD.out HX.out (by omega) hl8).mono ?_; rintro e w2 ⟨rfl, rfl⟩
  rw [HB8.out]
  go_wp2_with fail
  go_at_call 24; refine (HFT.out _).mono ?_; rintro e w1 ⟨rfl, hb1⟩
  go_wp2_with fail
  go_at_call 70; refine (HBT.out _).mono ?_; rintro e w3 ⟨rfl, rfl⟩
  have HB1 := Lib.hid (bel_box _ hb1)
  have hr1 := row_step RB.out hb1
  have d0 := row_cell hr1 0; have d1 := row_cell hr1 1; have d2 := row_cell hr1 2; have d3 := row_cell hr1 3; have d4 := row_cell hr1 4
  simp only [List.getElem?_toArray, List.getElem?_cons_zero, List.getElem?_cons_succ] at d0 d1 d2 d3 d4
  have df := fun o => row_frz hr1 o
  clear hb1 hr1
  go_wp2
  refine bodyPost_ret (v := .tuple #[.agg #[.int .i64 2, .int .i64 0, .float .f64 Cn, .string ⟨#[]⟩, .slice none 0 0], .int .i64 9, .bool true]) (by simp [results, Try.results67, go_sem, World.cell?_setCell_same, World.cell?_setCell_other, d0, d1, d2, d3, d4]) rfl ?_
  exact rr_some (bel_set5 HB1.out (Nat.le_refl _) _ _ _ _ _) HN.out rfl (by rw [HCF.out]; exact repS_leaf _ _ n 2 0 B ⟨#[]⟩ (by decide) (by decide) hB64 (by decide))
set_option maxRecDepth 100000 in
set_option maxHeartbeats 4000000 in
theorem rr_k2b (n d : Nat) (w : World) (b off l c : Nat) (R : List Int) (hb : RdB w (some ⟨b, off, none⟩) l c (2 :: R)) (hX : By (2 :: R)) (hl : l ≤ 100000) (hd : d ≤ 8) (h8 : 8 ≤ R.length) (hq : ¬ Flo.canon (rdU (R.take 8)).toNat = (rdU (R.take 8)).toNat) : Calls Try.prog 67 #[.slice (some ⟨b, off, none⟩) l c, .int .i64 d] w (RrPost (n + 1) d (2 :: R) w) := by
  obtain ⟨hR, hlc, hcm⟩ := rd_parts hb
  have hl0 : ((l : Int) == 0) = false := by rw [beq_eq_false_iff_ne]; omega
  have hd8 : ¬ ((8 : Int) < (d : Int)) := by omega
  have hdn : ¬ (8 < d) := by omega
  have c0 := cell_first hb
  have hblt : b < w.heap.size := cell_lt c0
  have hbne : w.heap.size ≠ b := by omega
  have hlp : 0 < l := by omega
  have hlp' : (0 : Int) < (l : Int) := by omega
  have hkr := hX 2 (List.mem_cons_self ..)
  have hk0 := hkr.1
  have hk1 := hkr.2
  have HB := Lib.hid (rd_keep ((Below.refl w.heap.size w).alloc (Nat.le_refl _) (.cells #[.int .i64 0, .int .i64 0, .float .f64 0, .string ⟨#[]⟩, .slice none 0 0] 47)) hb)
  have HX := Lib.hid (show By R from fun x hx => hX x (List.mem_cons_of_mem _ hx))
  have RB := Lib.hid (row_alloc w #[.int .i64 0, .int .i64 0, .float .f64 0, .string ⟨#[]⟩, .slice none 0 0] 47)
  obtain ⟨B, hB, hB64⟩ := u64_of (X := R.take 8) (by_take HX.out 8) (by rw [List.length_take]; omega)
  have HB8 := Lib.hid hB
  rw [hB, Int.toNat_natCast] at hq
  have HN := Lib.hid (show refV (n + 1) d (2 :: R) = none by rw [refV, if_neg hdn, if_neg (by decide), if_neg (by decide), if_pos (by decide), hB, Int.toNat_natCast, if_neg (fun h => hq h.2)])
  have HQ := Lib.hid (show ((Flo.canon B : Int) == (B : Int)) = false by simp; omega)
  have HCF := Lib.hid (show True from trivial)
  obtain ⟨Cn, hCn⟩ : ∃ Cn, Flo.canon B = Cn := ⟨_, rfl⟩
  rw [hCn] at HQ
  have hqq := HQ.out
  have HBT := Lib.hid (show ∀ w, Calls Try.prog 70 #[.float .f64 B] w fun e w' => e = .returned (.int .u64 Cn) ∧ w = w' from fun w => by have h := bits_ref_any B w; rw [hCn] at h; exact h)
  have HFT := Lib.hid (show ∀ w, Calls Try.prog 24 #[.float .f64 B] w fun e w' => e = .returned (.agg #[.int .i64 2, .int .i64 0, .float .f64 Cn, .string ⟨#[]⟩, .slice none 0 0]) ∧ Below w.heap.size w w' from fun w => by have h := float_ref_any B w; rw [hCn] at h; exact h)
  have hl8 : 8 ≤ l - 1 := by omega
  clear hB hq hCn
  have hc1 : c ≠ 1 := by omega
  have HRD := Lib.hid (show RdB (w.alloc (.cells #[.int .i64 0, .int .i64 0, .float .f64 0, .string ⟨#[]⟩, .slice none 0 0] 47)) (some ⟨b, off + 1, none⟩) (l - 1) (c - 1) R from rd_from (k := 1) HB.out (by omega) hc1)
  clear hb hX hR hkr
  go_enter Try.func67, Try.ntmps67
  go_wp2_with fail
  go_at_call 48; refine (rreadU_yes _ _ _ _ R 8 HRD.out HX.out (by omega) hl8).mono ?_; rintro e w2 ⟨rfl, rfl⟩
  rw [HB8.out]
  go_wp2_with fail
  go_at_call 24; refine (HFT.out _).mono ?_; rintro e w1 ⟨rfl, hb1⟩
  go_wp2_with fail
  go_at_call 70; refine (HBT.out _).mono ?_; rintro e w3 ⟨rfl, rfl⟩
  have HB1 := Lib.hid (bel_box _ hb1)
  have hr1 := row_step RB.out hb1
  have d0 := row_cell hr1 0; have d1 := row_cell hr1 1; have d2 := row_cell hr1 2; have d3 := row_cell hr1 3; have d4 := row_cell hr1 4
  simp only [List.getElem?_toArray, List.getElem?_cons_zero, List.getElem?_cons_succ] at d0 d1 d2 d3 d4
  have df := fun o => row_frz hr1 o
  clear hb1 hr1
  go_wp2
  refine bodyPost_ret (v := .tuple #[.agg #[.int .i64 2, .int .i64 0, .float .f64 Cn, .string ⟨#[]⟩, .slice none 0 0], .int .i64 9, .bool false]) (by simp [results, Try.results67, go_sem, World.cell?_setCell_same, World.cell?_setCell_other, d0, d1, d2, d3, d4]) rfl ?_
  exact rr_none (bel_set5 HB1.out (Nat.le_refl _) _ _ _ _ _) HN.out (fail_mk _ _ _ _ _ _ _ _)
set_option maxRecDepth 100000 in
set_option maxHeartbeats 4000000 in
theorem rr_k2n (n d : Nat) (w : World) (b off l c : Nat) (R : List Int) (hb : RdB w (some ⟨b, off, none⟩) l c (2 :: R)) (hX : By (2 :: R)) (hl : l ≤ 100000) (hd : d ≤ 8) (h8 : ¬ 8 ≤ R.length) : Calls Try.prog 67 #[.slice (some ⟨b, off, none⟩) l c, .int .i64 d] w (RrPost (n + 1) d (2 :: R) w) := by
  obtain ⟨hR, hlc, hcm⟩ := rd_parts hb
  have hl0 : ((l : Int) == 0) = false := by rw [beq_eq_false_iff_ne]; omega
  have hd8 : ¬ ((8 : Int) < (d : Int)) := by omega
  have hdn : ¬ (8 < d) := by omega
  have c0 := cell_first hb
  have hblt : b < w.heap.size := cell_lt c0
  have hbne : w.heap.size ≠ b := by omega
  have hlp : 0 < l := by omega
  have hlp' : (0 : Int) < (l : Int) := by omega
  have hkr := hX 2 (List.mem_cons_self ..)
  have hk0 := hkr.1
  have hk1 := hkr.2
  have HB := Lib.hid (rd_keep ((Below.refl w.heap.size w).alloc (Nat.le_refl _) (.cells #[.int .i64 0, .int .i64 0, .float .f64 0, .string ⟨#[]⟩, .slice none 0 0] 47)) hb)
  have HX := Lib.hid (show By R from fun x hx => hX x (List.mem_cons_of_mem _ hx))
  have RB := Lib.hid (row_alloc w #[.int .i64 0, .int .i64 0, .float .f64 0, .string ⟨#[]⟩, .slice none 0 0] 47)
  have HN := Lib.hid (show refV (n + 1) d (2 :: R) = none by rw [refV, if_neg hdn, if_neg (by decide), if_neg (by decide), if_pos (by decide), if_neg (fun h => h8 h.1)])
  by_cases hc1 : c = 1
  · obtain rfl : l = 1 := by omega
    subst hc1
    have HRD := Lib.hid (show RdB (w.alloc (.cells #[.int .i64 0, .int .i64 0, .float .f64 0, .string ⟨#[]⟩, .slice none 0 0] 47)) (some ⟨b, off, none⟩) 0 0 R from rd_end HB.out)
    clear hb hX hR hkr
    go_enter Try.func67, Try.ntmps67
    go_wp2_with fail
    go_at_call 48; refine (rreadU_no _ _ _ _ 8 HRD.out.2.1 HRD.out.2.2.1 (by omega)).mono ?_; rintro e w2 ⟨rfl, rfl⟩
    go_wp2_with fail
    go_at_call 24; refine (float_ref_any _ _).mono ?_; rintro e w1 ⟨rfl, hb1⟩
    have HB1 := Lib.hid (bel_box _ hb1)
    have hr1 := row_step RB.out hb1
    have d0 := row_cell hr1 0; have d1 := row_cell hr1 1; have d2 := row_cell hr1 2; have d3 := row_cell hr1 3; have d4 := row_cell hr1 4
    simp only [List.getElem?_toArray, List.getElem?_cons_zero, List.getElem?_cons_succ] at d0 d1 d2 d3 d4
    have df := fun o => row_frz hr1 o
    clear hb1 hr1
    go_wp2
    refine bodyPost_ret (v := .tuple #[.agg #[.int .i64 2, .int .i64 0, .float .f64 (Flo.canon 0), .string ⟨#[]⟩, .slice none 0 0], .int .i64 9, .bool false]) (by simp [results, Try.results67, go_sem, World.cell?_setCell_same, World.cell?_setCell_other, d0, d1, d2, d3, d4]) rfl ?_
    exact rr_none (bel_set5 HB1.out (Nat.le_refl _) _ _ _ _ _) HN.out (fail_mk _ _ _ _ _ _ _ _)
  · have HRD := Lib.hid (show RdB (w.alloc (.cells #[.int .i64 0, .int .i64 0, .float .f64 0, .string ⟨#[]⟩, .slice none 0 0] 47)) (some ⟨b, off + 1, none⟩) (l - 1) (c - 1) R from rd_from (k := 1) HB.out (by omega) hc1)
    have hl8 : l - 1 < 8 := by omega
    clear hb hX hR hkr
    go_enter Try.func67, Try.ntmps67
    go_wp2_with fail
    go_at_call 48; refine (rreadU_no _ _ _ _ 8 HRD.out.2.1 HRD.out.2.2.1 (by omega)).mono ?_; rintro e w2 ⟨rfl, rfl⟩
    go_wp2_with fail
    go_at_call 24; refine (float_ref_any _ _).mono ?_; rintro e w1 ⟨rfl, hb1⟩
    have HB1 := Lib.hid (bel_box _ hb1)
    have hr1 := row_step RB.out hb1
    have d0 := row_cell hr1 0; have d1 := row_cell hr1 1; have d2 := row_cell hr1 2; have d3 := row_cell hr1 3; have d4 := row_cell hr1 4
    simp only [List.getElem?_toArray, List.getElem?_cons_zero, List.getElem?_cons_succ] at d0 d1 d2 d3 d4
    have df := fun o => row_frz hr1 o
    clear hb1 hr1
    go_wp2
    refine bodyPost_ret (v := .tuple #[.agg #[.int .i64 2, .int .i64 0, .float .f64 (Flo.canon 0), .string ⟨#[]⟩, .slice none 0 0], .int .i64 9, .bool false]) (by simp [results, Try.results67, go_sem, World.cell?_setCell_same, World.cell?_setCell_other, d0, d1, d2, d3, d4]) rfl ?_
    exact rr_none (bel_set5 HB1.out (Nat.le_refl _) _ _ _ _ _) HN.out (fail_mk _ _ _ _ _ _ _ _)
set_option maxRecDepth 100000 in
set_option maxHeartbeats 4000000 in
theorem rr_k3 (n d : Nat) (w : World) (b off l c : Nat) (R : List Int) (hb : RdB w (some ⟨b, off, none⟩) l c (3 :: R)) (hX : By (3 :: R)) (hl : l ≤ 100000) (hd : d ≤ 8) (h2 : 2 ≤ R.length) (hs1 : (rdU (R.take 2)).toNat ≤ 256) (hs2 : 2 + (rdU (R.take 2)).toNat ≤ R.length) : Calls Try.prog 67 #[.slice (some ⟨b, off, none⟩) l c, .int .i64 d] w (RrPost (n + 1) d (3 :: R) w) := by
  obtain ⟨hR, hlc, hcm⟩ := rd_parts hb
  have hl0 : ((l : Int) == 0) = false := by rw [beq_eq_false_iff_ne]; omega
  have hd8 : ¬ ((8 : Int) < (d : Int)) := by omega
  have hdn : ¬ (8 < d) := by omega
  have c0 := cell_first hb
  have hblt : b < w.heap.size := cell_lt c0
  have hbne : w.heap.size ≠ b := by omega
  have hlp : 0 < l := by omega
  have hlp' : (0 : Int) < (l : Int) := by omega
  have hkr := hX 3 (List.mem_cons_self ..)
  have hk0 := hkr.1
  have hk1 := hkr.2
  have HB := Lib.hid (rd_keep ((Below.refl w.heap.size w).alloc (Nat.le_refl _) (.cells #[.int .i64 0, .int .i64 0, .float .f64 0, .string ⟨#[]⟩, .slice none 0 0] 47)) hb)
  have HX := Lib.hid (show By R from fun x hx => hX x (List.mem_cons_of_mem _ hx))
  have RB := Lib.hid (row_alloc w #[.int .i64 0, .int .i64 0, .float .f64 0, .string ⟨#[]⟩, .slice none 0 0] 47)
  obtain ⟨L, hLe, hL16⟩ := len16 HX.out h2
  have hLn : (rdU (R.take 2)).toNat = L := by rw [hLe]; exact Int.toNat_natCast L
  rw [hLn] at hs1 hs2
  have HN := Lib.hid (show refV (n + 1) d (3 :: R) = some ((3, 0, 0, strB ((R.drop 2).take L), []), 3 + L) by rw [refV, if_neg hdn, if_neg (by decide), if_neg (by decide), if_neg (by decide), if_pos (by decide), hLn, if_pos ⟨h2, hs1, hs2⟩])
  obtain ⟨s, hse⟩ : ∃ s, strB ((R.drop 2).take L) = s := ⟨_, rfl⟩
  have hss : s.size ≤ 256 := by
    rw [← hse]
    have h5 : (strB ((R.drop 2).take L)).size = ((R.drop 2).take L).length := by
      show (List.toArray (List.map _ _)).size = _
      simp
    rw [h5, List.length_take]
    omega
  rw [hse] at HN
  have hc1 : c ≠ 1 := by omega
  have HRD := Lib.hid (show RdB (w.alloc (.cells #[.int .i64 0, .int .i64 0, .float .f64 0, .string ⟨#[]⟩, .slice none 0 0] 47)) (some ⟨b, off + 1, none⟩) (l - 1) (c - 1) R from rd_from (k := 1) HB.out (by omega) hc1)
  have HT := Lib.hid (rreadText_yes _ _ _ _ R L 256 HRD.out HX.out (by omega) hLe hL16 (by omega) (by omega))
  rw [hse] at HT
  have HE := Lib.hid (show (1 : Int) + (2 + (L : Int)) = ((3 + L : Nat) : Int) by omega)
  clear hb hX hR hkr hLe hLn hse hs2
  go_enter Try.func67, Try.ntmps67
  go_wp2_with fail
  go_at_call 44; refine HT.out.mono ?_; rintro e w2 ⟨rfl, rfl⟩
  go_wp2_with fail
  go_at_call 53; refine (text_ref_any _ _).mono ?_; rintro e w1 ⟨rfl, hb1⟩
  have HB1 := Lib.hid (bel_box _ hb1)
  have hr1 := row_step RB.out hb1
  have d0 := row_cell hr1 0; have d1 := row_cell hr1 1; have d2 := row_cell hr1 2; have d3 := row_cell hr1 3; have d4 := row_cell hr1 4
  simp only [List.getElem?_toArray, List.getElem?_cons_zero, List.getElem?_cons_succ] at d0 d1 d2 d3 d4
  have df := fun o => row_frz hr1 o
  clear hb1 hr1
  go_wp2
  refine bodyPost_ret (v := .tuple #[.agg #[.int .i64 3, .int .i64 0, .float .f64 0, .string s, .slice none 0 0], .int .i64 (1 + (2 + (L : Int))), .bool true]) (by simp [results, Try.results67, go_sem, World.cell?_setCell_same, World.cell?_setCell_other, d0, d1, d2, d3, d4]) rfl ?_
  exact rr_some (bel_set5 HB1.out (Nat.le_refl _) _ _ _ _ _) HN.out (by rw [HE.out]) (repS_leaf _ _ n 3 0 0 s (by decide) (by decide) (by decide) (by unfold maxLen; omega))
set_option maxRecDepth 100000 in
set_option maxHeartbeats 4000000 in
theorem rr_k3n (n d : Nat) (w : World) (b off l c : Nat) (R : List Int) (hb : RdB w (some ⟨b, off, none⟩) l c (3 :: R)) (hX : By (3 :: R)) (hl : l ≤ 100000) (hd : d ≤ 8) (h2 : 2 ≤ R.length) (hs : ¬ ((rdU (R.take 2)).toNat ≤ 256 ∧ 2 + (rdU (R.take 2)).toNat ≤ R.length)) : Calls Try.prog 67 #[.slice (some ⟨b, off, none⟩) l c, .int .i64 d] w (RrPost (n + 1) d (3 :: R) w) := by
  obtain ⟨hR, hlc, hcm⟩ := rd_parts hb
  have hl0 : ((l : Int) == 0) = false := by rw [beq_eq_false_iff_ne]; omega
  have hd8 : ¬ ((8 : Int) < (d : Int)) := by omega
  have hdn : ¬ (8 < d) := by omega
  have c0 := cell_first hb
  have hblt : b < w.heap.size := cell_lt c0
  have hbne : w.heap.size ≠ b := by omega
  have hlp : 0 < l := by omega
  have hlp' : (0 : Int) < (l : Int) := by omega
  have hkr := hX 3 (List.mem_cons_self ..)
  have hk0 := hkr.1
  have hk1 := hkr.2
  have HB := Lib.hid (rd_keep ((Below.refl w.heap.size w).alloc (Nat.le_refl _) (.cells #[.int .i64 0, .int .i64 0, .float .f64 0, .string ⟨#[]⟩, .slice none 0 0] 47)) hb)
  have HX := Lib.hid (show By R from fun x hx => hX x (List.mem_cons_of_mem _ hx))
  have RB := Lib.hid (row_alloc w #[.int .i64 0, .int .i64 0, .float .f64 0, .string ⟨#[]⟩, .slice none 0 0] 47)
  obtain ⟨L, hLe, hL16⟩ := len16 HX.out h2
  have hLn : (rdU (R.take 2)).toNat = L := by rw [hLe]; exact Int.toNat_natCast L
  rw [hLn] at hs
  have HN := Lib.hid (show refV (n + 1) d (3 :: R) = none by rw [refV, if_neg hdn, if_neg (by decide), if_neg (by decide), if_neg (by decide), if_pos (by decide), hLn, if_neg (fun h => hs h.2)])
  have hc1 : c ≠ 1 := by omega
  have HRD := Lib.hid (show RdB (w.alloc (.cells #[.int .i64 0, .int .i64 0, .float .f64 0, .string ⟨#[]⟩, .slice none 0 0] 47)) (some ⟨b, off + 1, none⟩) (l - 1) (c - 1) R from rd_from (k := 1) HB.out (by omega) hc1)
  have HT := Lib.hid (rreadText_no _ _ _ _ R L 256 HRD.out HX.out (by omega) hLe hL16 (by omega))
  clear hb hX hR hkr hLe hLn hs
  go_enter Try.func67, Try.ntmps67
  go_wp2_with fail
  go_at_call 44; refine HT.out.mono ?_; rintro e w2 ⟨rfl, rfl⟩
  go_wp2_with fail
  go_at_call 53; refine (text_ref_any _ _).mono ?_; rintro e w1 ⟨rfl, hb1⟩
  have HB1 := Lib.hid (bel_box _ hb1)
  have hr1 := row_step RB.out hb1
  have d0 := row_cell hr1 0; have d1 := row_cell hr1 1; have d2 := row_cell hr1 2; have d3 := row_cell hr1 3; have d4 := row_cell hr1 4
  simp only [List.getElem?_toArray, List.getElem?_cons_zero, List.getElem?_cons_succ] at d0 d1 d2 d3 d4
  have df := fun o => row_frz hr1 o
  clear hb1 hr1
  go_wp2
  refine bodyPost_ret (v := .tuple #[.agg #[.int .i64 3, .int .i64 0, .float .f64 0, .string ⟨#[]⟩, .slice none 0 0], .int .i64 1, .bool false]) (by simp [results, Try.results67, go_sem, World.cell?_setCell_same, World.cell?_setCell_other, d0, d1, d2, d3, d4]) rfl ?_
  exact rr_none (bel_set5 HB1.out (Nat.le_refl _) _ _ _ _ _) HN.out (fail_mk _ _ _ _ _ _ _ _)
set_option maxRecDepth 100000 in
set_option maxHeartbeats 4000000 in
theorem rr_k3s (n d : Nat) (w : World) (b off l c : Nat) (R : List Int) (hb : RdB w (some ⟨b, off, none⟩) l c (3 :: R)) (hX : By (3 :: R)) (hl : l ≤ 100000) (hd : d ≤ 8) (h8 : ¬ 2 ≤ R.length) : Calls Try.prog 67 #[.slice (some ⟨b, off, none⟩) l c, .int .i64 d] w (RrPost (n + 1) d (3 :: R) w) := by
  obtain ⟨hR, hlc, hcm⟩ := rd_parts hb
  have hl0 : ((l : Int) == 0) = false := by rw [beq_eq_false_iff_ne]; omega
  have hd8 : ¬ ((8 : Int) < (d : Int)) := by omega
  have hdn : ¬ (8 < d) := by omega
  have c0 := cell_first hb
  have hblt : b < w.heap.size := cell_lt c0
  have hbne : w.heap.size ≠ b := by omega
  have hlp : 0 < l := by omega
  have hlp' : (0 : Int) < (l : Int) := by omega
  have hkr := hX 3 (List.mem_cons_self ..)
  have hk0 := hkr.1
  have hk1 := hkr.2
  have HB := Lib.hid (rd_keep ((Below.refl w.heap.size w).alloc (Nat.le_refl _) (.cells #[.int .i64 0, .int .i64 0, .float .f64 0, .string ⟨#[]⟩, .slice none 0 0] 47)) hb)
  have HX := Lib.hid (show By R from fun x hx => hX x (List.mem_cons_of_mem _ hx))
  have RB := Lib.hid (row_alloc w #[.int .i64 0, .int .i64 0, .float .f64 0, .string ⟨#[]⟩, .slice none 0 0] 47)
  have HN := Lib.hid (show refV (n + 1) d (3 :: R) = none by rw [refV, if_neg hdn, if_neg (by decide), if_neg (by decide), if_neg (by decide), if_pos (by decide), if_neg (fun h => h8 h.1)])
  by_cases hc1 : c = 1
  · obtain rfl : l = 1 := by omega
    subst hc1
    have HRD := Lib.hid (show RdB (w.alloc (.cells #[.int .i64 0, .int .i64 0, .float .f64 0, .string ⟨#[]⟩, .slice none 0 0] 47)) (some ⟨b, off, none⟩) 0 0 R from rd_end HB.out)
    clear hb hX hR hkr
    go_enter Try.func67, Try.ntmps67
    go_wp2_with fail
    go_at_call 44; refine (rreadText_short _ _ _ _ 256 HRD.out.2.1 HRD.out.2.2.1 (by omega)).mono ?_; rintro e w2 ⟨rfl, rfl⟩
    go_wp2_with fail
    go_at_call 53; refine (text_ref_any _ _).mono ?_; rintro e w1 ⟨rfl, hb1⟩
    have HB1 := Lib.hid (bel_box _ hb1)
    have hr1 := row_step RB.out hb1
    have d0 := row_cell hr1 0; have d1 := row_cell hr1 1; have d2 := row_cell hr1 2; have d3 := row_cell hr1 3; have d4 := row_cell hr1 4
    simp only [List.getElem?_toArray, List.getElem?_cons_zero, List.getElem?_cons_succ] at d0 d1 d2 d3 d4
    have df := fun o => row_frz hr1 o
    clear hb1 hr1
    go_wp2
    refine bodyPost_ret (v := .tuple #[.agg #[.int .i64 3, .int .i64 0, .float .f64 0, .string ⟨#[]⟩, .slice none 0 0], .int .i64 1, .bool false]) (by simp [results, Try.results67, go_sem, World.cell?_setCell_same, World.cell?_setCell_other, d0, d1, d2, d3, d4]) rfl ?_
    exact rr_none (bel_set5 HB1.out (Nat.le_refl _) _ _ _ _ _) HN.out (fail_mk _ _ _ _ _ _ _ _)
  · have HRD := Lib.hid (show RdB (w.alloc (.cells #[.int .i64 0, .int .i64 0, .float .f64 0, .string ⟨#[]⟩, .slice none 0 0] 47)) (some ⟨b, off + 1, none⟩) (l - 1) (c - 1) R from rd_from (k := 1) HB.out (by omega) hc1)
    have hl8 : l - 1 < 2 := by omega
    clear hb hX hR hkr
    go_enter Try.func67, Try.ntmps67
    go_wp2_with fail
    go_at_call 44; refine (rreadText_short _ _ _ _ 256 HRD.out.2.1 HRD.out.2.2.1 (by omega)).mono ?_; rintro e w2 ⟨rfl, rfl⟩
    go_wp2_with fail
    go_at_call 53; refine (text_ref_any _ _).mono ?_; rintro e w1 ⟨rfl, hb1⟩
    have HB1 := Lib.hid (bel_box _ hb1)
    have hr1 := row_step RB.out hb1
    have d0 := row_cell hr1 0; have d1 := row_cell hr1 1; have d2 := row_cell hr1 2; have d3 := row_cell hr1 3; have d4 := row_cell hr1 4
    simp only [List.getElem?_toArray, List.getElem?_cons_zero, List.getElem?_cons_succ] at d0 d1 d2 d3 d4
    have df := fun o => row_frz hr1 o
    clear hb1 hr1
    go_wp2
    refine bodyPost_ret (v := .tuple #[.agg #[.int .i64 3, .int .i64 0, .float .f64 0, .string ⟨#[]⟩, .slice none 0 0], .int .i64 1, .bool false]) (by simp [results, Try.results67, go_sem, World.cell?_setCell_same, World.cell?_setCell_other, d0, d1, d2, d3, d4]) rfl ?_
    exact rr_none (bel_set5 HB1.out (Nat.le_refl _) _ _ _ _ _) HN.out (fail_mk _ _ _ _ _ _ _ _)
set_option maxRecDepth 100000 in
set_option maxHeartbeats 4000000 in
theorem rr_else (n d : Nat) (w : World) (b off l c : Nat) (k : Int) (R : List Int) (hb : RdB w (some ⟨b, off, none⟩) l c (k :: R)) (hX : By (k :: R)) (hl : l ≤ 100000) (hd : d ≤ 8) (hk : ¬ (0 ≤ k ∧ k ≤ 4)) : Calls Try.prog 67 #[.slice (some ⟨b, off, none⟩) l c, .int .i64 d] w (RrPost (n + 1) d (k :: R) w) := by
  obtain ⟨hR, hlc, hcm⟩ := rd_parts hb
  have hl0 : ((l : Int) == 0) = false := by rw [beq_eq_false_iff_ne]; omega
  have hd8 : ¬ ((8 : Int) < (d : Int)) := by omega
  have hdn : ¬ (8 < d) := by omega
  have c0 := cell_first hb
  have hblt : b < w.heap.size := cell_lt c0
  have hbne : w.heap.size ≠ b := by omega
  have hlp : 0 < l := by omega
  have hlp' : (0 : Int) < (l : Int) := by omega
  have hkr := hX k (List.mem_cons_self ..)
  have hk0 := hkr.1
  have hk1 := hkr.2
  have HB := Lib.hid (rd_keep ((Below.refl w.heap.size w).alloc (Nat.le_refl _) (.cells #[.int .i64 0, .int .i64 0, .float .f64 0, .string ⟨#[]⟩, .slice none 0 0] 47)) hb)
  have HX := Lib.hid (show By R from fun x hx => hX x (List.mem_cons_of_mem _ hx))
  have RB := Lib.hid (row_alloc w #[.int .i64 0, .int .i64 0, .float .f64 0, .string ⟨#[]⟩, .slice none 0 0] 47)
  have q0 : (k == 0) = false := by rw [beq_eq_false_iff_ne]; omega
  have q1 : (k == 1) = false := by rw [beq_eq_false_iff_ne]; omega
  have q2 : (k == 2) = false := by rw [beq_eq_false_iff_ne]; omega
  have q3 : (k == 3) = false := by rw [beq_eq_false_iff_ne]; omega
  have q4 : (k == 4) = false := by rw [beq_eq_false_iff_ne]; omega
  have HN := Lib.hid (show refV (n + 1) d (k :: R) = none by rw [refV, if_neg hdn, q0, q1, q2, q3, q4]; simp)
  clear hb hX hR hkr
  go_enter Try.func67, Try.ntmps67
  go_wp2
  exact bodyPost_ret (v := .tuple #[.agg #[.int .i64 0, .int .i64 0, .float .f64 0, .string ⟨#[]⟩, .slice none 0 0], .int .i64 0, .bool false]) (by simp [results, Try.results67, go_sem]) rfl (rr_none (bel_alloc (Below.refl _ _) _) HN.out (fail_mk _ _ _ _ _ _ _ _))
end Num
end Go.Proofs.Ytomfgncbdgifoaa
/-
  What the reference reads: lists; any bytes.
-/
namespace Go.Proofs.Ytomfgncbdgifoaa
open Go.RowKit
namespace Num
open Ints
set_option linter.unusedSimpArgs false
set_option linter.unusedVariables false
def RrAll (n : Nat) : Prop := ∀ (w : World) (p : Option Addr) (l c d : Nat) (X : List Int), RdB w p l c X → By X → l ≤ n → l ≤ 100000 → d ≤ 9 → Calls Try.prog 67 #[.slice p l c, .int .i64 d] w (RrPost n d X w)
theorem set_same {W0 w : World} {b o i : Nat} {v : Value} (h : w.heap[i]? = W0.heap[i]?) : (w.setCell ⟨b, o, none⟩ v).heap[i]? = (W0.setCell ⟨b, o, none⟩ v).heap[i]? := by
  by_cases hi : i = b
  · subst hi
    simp only [World.setCell, Array.getElem?_modify, h]
  · rw [Below.heap_setCell _ _ _ _ hi, Below.heap_setCell _ _ _ _ hi, h]
/-- A box that lay ahead is stored to. -/
theorem ol_setbox {W0 w : World} {n : Nat} {p : Option Addr} {l c : Nat} {L : List (VT n)} (h : OwL W0 w n p l c L) {b : Nat} (hb : b < W0.heap.size) (o : Nat) (v : Value) : OwL (W0.setCell ⟨b, o, none⟩ v) (w.setCell ⟨b, o, none⟩ v) n p l c L := by
  obtain ⟨XS, h1, h2, h3, h4, hM, g, h5⟩ := h
  have e0 : (W0.setCell ⟨b, o, none⟩ v).heap.size = W0.heap.size := World.size_setCell _ _ _
  have e1 : (w.setCell ⟨b, o, none⟩ v).heap.size = w.heap.size := World.size_setCell _ _ _
  refine ⟨XS, ⟨h1.1, ?_⟩, h2, ⟨h3.os, h3.tape, h3.output, by rw [e0, e1]; exact h4, fun i hi => set_same (h3.block i (by rw [e0] at hi; exact hi))⟩, by rw [e0, e1]; exact h4, by rw [e1]; exact Nat.le_refl _, g, fun i hi => ?_⟩
  · rcases h1.2 with hn | ⟨g', cap, cur, hv, hbg, hg, rest⟩
    · exact Or.inl hn
    · refine Or.inr ⟨g', cap, cur, hv, by rw [e0]; exact hbg, ?_, rest⟩
      rw [Below.heap_setCell _ _ _ _ (by show g' ≠ b; omega)]
      exact hg
  · obtain ⟨v0, v1, v2, v3, v4, c0, c1, c2, c3, c4, hr⟩ := h5 i hi
    refine ⟨v0, v1, v2, v3, v4, c0, c1, c2, c3, c4, repC_mono n _ _ _ _ (fun x hx => ⟨⟨by rw [e0]; exact hx.1.1, by rw [e1]; exact hx.1.2.1, hx.1.2.2⟩, by rw [e1]; exact hx.2.1, hx.2.2⟩) (repC_keep n _ _ _ (fun x hx => Below.heap_setCell _ _ _ _ (by show x ≠ b; have := hx.1.1; omega)) hr)⟩
theorem refR_big {α : Type} {dec : List Int → Option (α × Nat)} {m : Int} {R : List Int} (h : 64 < m.toNat) : refR dec (m :: R) = none := by rw [refR, if_pos h]
theorem refR_none {α : Type} {dec : List Int → Option (α × Nat)} {m : Int} {R : List Int} (h : decL dec m.toNat R = none) : refR dec (m :: R) = none := by
  rw [refR, h]; split <;> rfl
theorem refR_some {α : Type} {dec : List Int → Option (α × Nat)} {m : Int} {R : List Int} {L : List α} {j : Nat} (h64 : ¬ 64 < m.toNat) (h : decL dec m.toNat R = some (L, j)) : refR dec (m :: R) = some (L, 1 + j) := by
  rw [refR, if_neg h64, h]
theorem bel_via {w W0 wr w2 : World} (h1 : Below W0.heap.size W0 wr) (h2 : Below W0.heap.size W0 w2) (h : Below w.heap.size w wr) (hs : w.heap.size ≤ W0.heap.size) (h0 : W0.heap.size ≤ w2.heap.size) : Below w.heap.size w w2 :=
  ⟨h2.os.trans (h1.os.symm.trans h.os), h2.tape.trans (h1.tape.symm.trans h.tape), h2.output.trans (h1.output.symm.trans h.output), Nat.le_trans hs h0, fun i hi => (h2.block i (by omega)).trans ((h1.block i (by omega)).symm.trans (h.block i hi))⟩
theorem row_via {W0 wr w2 : World} (h1 : Below W0.heap.size W0 wr) (h2 : Below W0.heap.size W0 w2) {b : Nat} {o : Option Obj} (h : wr.heap[b]? = o) (hb : b < W0.heap.size) : w2.heap[b]? = o :=
  (h2.block b hb).trans ((h1.block b hb).symm.trans h)
theorem set_fifth {w : World} {b : Nat} {x0 x1 x2 x3 x4 : Value} {t : TypeId} (h : w.heap[b]? = some (.cells #[x0, x1, x2, x3, x4] t (0, 0))) (v : Value) : (w.setCell ⟨b, 4, none⟩ v).heap[b]? = some (.cells #[x0, x1, x2, x3, v] t (0, 0)) := by
  simp [World.setCell, Array.getElem?_modify, h]
theorem refV_le {n d : Nat} {X : List Int} {T : VT n} {j : Nat} (h : refV n d X = some (T, j)) : 1 ≤ j ∧ j ≤ X.length := decV_le n _ _ _ (ref_dec _ _ _ _ _ h).1
set_option maxRecDepth 100000 in
set_option maxHeartbeats 4000000 in
theorem rr_k4e (n d : Nat) (w : World) (b off c : Nat) (hb : RdB w (some ⟨b, off, none⟩) 1 c [4]) (hd : d ≤ 8) : Calls Try.prog 67 #[.slice (some ⟨b, off, none⟩) 1 c, .int .i64 d] w (RrPost (n + 1) d [4] w) := by
  have hlc := hb.2.1
  have hcm := hb.2.2.1
  unfold maxLen at hcm
  have hd8 : ¬ ((8 : Int) < (d : Int)) := by omega
  have hdn : ¬ (8 < d) := by omega
  have c0 := cell_first hb
  have hblt : b < w.heap.size := cell_lt c0
  have hbne : w.heap.size ≠ b := by omega
  have HN := Lib.hid (show refV (n + 1) d [4] = none by rw [refV, if_neg hdn, if_neg (by decide), if_neg (by decide), if_neg (by decide), if_neg (by decide), if_pos (by decide)]; rfl)
  clear hb
  go_enter Try.func67, Try.ntmps67
  go_wp2
  exact bodyPost_ret (v := .tuple #[.agg #[.int .i64 0, .int .i64 0, .float .f64 0, .string ⟨#[]⟩, .slice none 0 0], .int .i64 0, .bool false]) (by simp [results, Try.results67, go_sem]) rfl (rr_none (bel_alloc (Below.refl _ _) _) HN.out (fail_mk _ _ _ _ _ _ _ _))
set_option maxRecDepth 100000 in
set_option maxHeartbeats 4000000 in
theorem rr_k4b (n d : Nat) (w : World) (b off l c : Nat) (m : Int) (R : List Int) (hb : RdB w (some ⟨b, off, none⟩) l c (4 :: m :: R)) (hX : By (4 :: m :: R)) (hl : l ≤ 100000) (hd : d ≤ 8) (hbig : 64 < m) : Calls Try.prog 67 #[.slice (some ⟨b, off, none⟩) l c, .int .i64 d] w (RrPost (n + 1) d (4 :: m :: R) w) := by
  have hlen : R.length + 2 = l := by have h := hb.1; rw [List.length_cons, List.length_cons] at h; omega
  have hlc := hb.2.1
  have hcm := hb.2.2.1
  unfold maxLen at hcm
  have hl0 : ((l : Int) == 0) = false := by rw [beq_eq_false_iff_ne]; omega
  have hd8 : ¬ ((8 : Int) < (d : Int)) := by omega
  have hdn : ¬ (8 < d) := by omega
  have hlp : 0 < l := by omega
  have hlp' : (0 : Int) < (l : Int) := by omega
  have hl2 : ¬ ((l : Int) < 2) := by omega
  have hlp1 : 1 < l := by omega
  have hlp1' : (1 : Int) < (l : Int) := by omega
  have c0 := cell_first hb
  have c1 : w.cell? ⟨b, off + 1, none⟩ = some (.int .u8 m) := by
    obtain ⟨b', off', e, hc⟩ := hb.2.2.2.1 hlp
    cases e
    exact hc 1 (by simp)
  have hblt : b < w.heap.size := cell_lt c0
  have hbne : w.heap.size ≠ b := by omega
  have hmr := hX m (List.mem_cons_of_mem _ (List.mem_cons_self ..))
  have hm0 := hmr.1
  have hm1 := hmr.2
  have HREF := Lib.hid (show refV (n + 1) d (4 :: m :: R) = match refR (refV n (d + 1)) (m :: R) with | none => none | some (L, j) => some ((4, 0, 0, ⟨#[]⟩, L), 1 + j) by rw [refV, if_neg hdn, if_neg (by decide), if_neg (by decide), if_neg (by decide), if_neg (by decide), if_pos (by decide)]; cases refR (refV n (d + 1)) (m :: R) <;> rfl)
  have HN := Lib.hid (show refV (n + 1) d (4 :: m :: R) = none by rw [HREF.out, refR_big (by omega)])
  clear hb hX hmr
  go_enter Try.func67, Try.ntmps67
  go_wp2
  exact bodyPost_ret (v := .tuple #[.agg #[.int .i64 0, .int .i64 0, .float .f64 0, .string ⟨#[]⟩, .slice none 0 0], .int .i64 0, .bool false]) (by simp [results, Try.results67, go_sem]) rfl (rr_none (bel_alloc (Below.refl _ _) _) HN.out (fail_mk _ _ _ _ _ _ _ _))
set_option maxRecDepth 100000 in
set_option maxHeartbeats 4000000 in
theorem rr_k4 (n : Nat) (IH : RrAll n) (d : Nat) (w : World) (b off l c : Nat) (m : Int) (R : List Int) (hb : RdB w (some ⟨b, off, none⟩) l c (4 :: m :: R)) (hX : By (4 :: m :: R)) (hl : l ≤ 100000) (hd : d ≤ 8) (hln : l ≤ n + 1) (hsm : ¬ 64 < m) : Calls Try.prog 67 #[.slice (some ⟨b, off, none⟩) l c, .int .i64 d] w (RrPost (n + 1) d (4 :: m :: R) w) := by
  have hlen : R.length + 2 = l := by have h := hb.1; rw [List.length_cons, List.length_cons] at h; omega
  have hlc := hb.2.1
  have hcm := hb.2.2.1
  unfold maxLen at hcm
  have hl0 : ((l : Int) == 0) = false := by rw [beq_eq_false_iff_ne]; omega
  have hd8 : ¬ ((8 : Int) < (d : Int)) := by omega
  have hdn : ¬ (8 < d) := by omega
  have hlp : 0 < l := by omega
  have hlp' : (0 : Int) < (l : Int) := by omega
  have hl2 : ¬ ((l : Int) < 2) := by omega
  have hlp1 : 1 < l := by omega
  have hlp1' : (1 : Int) < (l : Int) := by omega
  have c0 := cell_first hb
  have c1 : w.cell? ⟨b, off + 1, none⟩ = some (.int .u8 m) := by
    obtain ⟨b', off', e, hc⟩ := hb.2.2.2.1 hlp
    cases e
    exact hc 1 (by simp)
  have hblt : b < w.heap.size := cell_lt c0
  have hbne : w.heap.size ≠ b := by omega
  have hmr := hX m (List.mem_cons_of_mem _ (List.mem_cons_self ..))
  have hm0 := hmr.1
  have hm1 := hmr.2
  have HREF := Lib.hid (show refV (n + 1) d (4 :: m :: R) = match refR (refV n (d + 1)) (m :: R) with | none => none | some (L, j) => some ((4, 0, 0, ⟨#[]⟩, L), 1 + j) by rw [refV, if_neg hdn, if_neg (by decide), if_neg (by decide), if_neg (by decide), if_neg (by decide), if_pos (by decide)]; cases refR (refV n (d + 1)) (m :: R) <;> rfl)
  obtain ⟨M, rfl⟩ : ∃ M : Nat, m = (M : Int) := ⟨m.toNat, by omega⟩
  have hM : M ≤ 64 := by omega
  have HDn := Lib.hid (show decL (refV n (d + 1)) M R = none → refV (n + 1) d (4 :: (M : Int) :: R) = none from fun h => by rw [HREF.out, refR_none (by rw [Int.toNat_natCast]; exact h)])
  have HDs := Lib.hid (show ∀ L j, decL (refV n (d + 1)) M R = some (L, j) → refV (n + 1) d (4 :: (M : Int) :: R) = some ((4, 0, 0, ⟨#[]⟩, L), 1 + (1 + j)) from fun L j h => by rw [HREF.out, refR_some (by rw [Int.toNat_natCast]; omega) (by rw [Int.toNat_natCast]; exact h)])
  have HBB := Lib.hid hb
  have HX := Lib.hid (show By R from fun x hx => hX x (List.mem_cons_of_mem _ (List.mem_cons_of_mem _ hx)))
  have HIH := Lib.hid IH
  have HLEN := Lib.hid hlen
  have hsm' : ¬ ((64 : Int) < (M : Int)) := hsm
  have RZ := Lib.hid (row_alloc_step (row_alloc w #[.int .i64 0, .int .i64 0, .float .f64 0, .string ⟨#[]⟩, .slice none 0 0] 47) (.cells #[.int .i64 4, .int .i64 0, .float .f64 0, .string ⟨#[]⟩, .slice none 0 0] 47))
  have R15 := Lib.hid (row_alloc (w.alloc (.cells #[.int .i64 0, .int .i64 0, .float .f64 0, .string ⟨#[]⟩, .slice none 0 0] 47)) #[.int .i64 4, .int .i64 0, .float .f64 0, .string ⟨#[]⟩, .slice none 0 0] 47)
  have HB0 := Lib.hid (((Below.refl w.heap.size w).alloc (Nat.le_refl _) (.cells #[.int .i64 0, .int .i64 0, .float .f64 0, .string ⟨#[]⟩, .slice none 0 0] 47)).alloc (by simp) (.cells #[.int .i64 4, .int .i64 0, .float .f64 0, .string ⟨#[]⟩, .slice none 0 0] 47))
  simp only [World.size_alloc] at R15
  clear hb hX hmr IH hlen
  go_enter Try.func67, Try.ntmps67
  go_wp2
  go_loopw [16, 17] (fun pos i wr => ∃ (k : Nat) (q : Option Addr) (s dd j : Nat) (L : List (VT n)) (W0 : World), k ≤ M ∧ i = .int .i64 (k : Int) ∧ pos = .int .i64 (2 + (j : Int)) ∧ decL (refV n (d + 1)) k R = some (L, j) ∧ s = k ∧ OwL W0 wr n q s dd L ∧ W0.heap.size = w.heap.size + 1 + 1 ∧ Below w.heap.size w wr ∧
    wr.heap[w.heap.size]? = some (.cells #[.int .i64 0, .int .i64 0, .float .f64 0, .string ⟨#[]⟩, .slice none 0 0] 47 (0, 0)) ∧ wr.heap[w.heap.size + 1]? = some (.cells #[.int .i64 4, .int .i64 0, .float .f64 0, .string ⟨#[]⟩, .slice q s dd] 47 (0, 0))) (fun _ i _ => M - (intOf i).toNat)
  case atStart => exact ⟨0, none, 0, 0, 0, [], _, Nat.zero_le _, rfl, rfl, rfl, rfl, ol_nil _ _ _ (Below.refl _ _) (Nat.le_refl _), by simp, HB0.out, RZ.out, R15.out⟩
  case round =>
    obtain ⟨k, q, s, dd, j, L, W0, hk, rfl, rfl, hdec, hsk, hol, hW0, hBw, hzr, hl15⟩ := hrel
    clear RZ R15 HB0
    have hlen := HLEN.out
    have hj := decL_le (fun X T j h => refV_le h) _ _ _ _ hdec
    have hj1 : 2 + j ≤ l := by omega
    have c1' := cell_keep hBw c1
    have HBW := Lib.hid hBw
    have HZR := Lib.hid hzr
    have HL15 := Lib.hid hl15
    have HOL := Lib.hid hol
    have HSK := Lib.hid hsk
    have t4 := row_cell hl15 4
    have r4 := row_cell hl15 0
    simp only [List.getElem?_toArray, List.getElem?_cons_zero, List.getElem?_cons_succ] at t4 r4
    have rf := fun o => row_frz hl15 o
    have hdrop : (4 :: (M : Int) :: R).drop (2 + j) = R.drop j := by rw [Nat.add_comm, List.drop_succ_cons, List.drop_succ_cons]
    have hs6 : s ≤ 1000 := by omega
    clear hBw hzr hl15 hol hsk
    by_cases hlt : k < M
    · have hw64 : j ≤ 100000 := by omega
      by_cases hce : c = 2 + j
      · obtain rfl : l = 2 + j := by omega
        have HRD := Lib.hid (show RdB wr (some ⟨b, off, none⟩) 0 0 (R.drop j) by rw [← hdrop]; exact rd_end (rd_keep HBW.out (by have h := HBB.out; rw [hce] at h; exact h)))
        subst hce
        clear hdrop
        cases hdv : refV n (d + 1) (R.drop j) with
        | none =>
          have HN := Lib.hid (HDn.out (decL_none M (k + 1) (by rw [decL, hdec]; simp only [hdv]) (by omega)))
          have HDD := Lib.hid hdv
          clear hdec hdv hlen hj
          go_wp2_with fail
          go_at_call 67; rw [show ((d : Int) + 1) = ((d + 1 : Nat) : Int) by omega]; refine (HIH.out wr _ _ _ (d + 1) (R.drop j) HRD.out (by_drop HX.out j) (by omega) (by omega) (by omega)).mono ?_; rintro e w1 ⟨hb1, hno, hyes⟩
          have HB1 := Lib.hid (bel_step HBW.out hb1)
          have HZ1 := Lib.hid (row_step HZR.out hb1)
          have H15 := Lib.hid (row_step HL15.out hb1)
          obtain ⟨K, I, FF, S, q', l', c', m', rfl⟩ := hno HDD.out
          have z1 := HZ1.out
          have d0 := row_cell z1 0; have d1 := row_cell z1 1; have d2 := row_cell z1 2; have d3 := row_cell z1 3; have d4 := row_cell z1 4
          simp only [List.getElem?_toArray, List.getElem?_cons_zero, List.getElem?_cons_succ] at d0 d1 d2 d3 d4
          have df := fun o => row_frz z1 o
          have hzlt := row_lt z1
          have ha := fun (o : Obj) (v0 v1 v2 v3 v4 : Value) (i : Nat) => cell_alloc5 hzlt o v0 v1 v2 v3 v4 i
          have hzne : w.heap.size ≠ w1.heap.size := by omega
          clear hb1 hno hyes z1 t4 r4 rf
          go_wp2
          refine bodyPost_ret (v := .tuple #[.agg #[.int .i64 0, .int .i64 0, .float .f64 0, .string ⟨#[]⟩, .slice none 0 0], .int .i64 0, .bool false]) (by simp [results, Try.results67, go_sem, ha, World.cell?_setCell_same, World.cell?_setCell_other, d0, d1, d2, d3, d4]) rfl ?_
          exact rr_none (bel_alloc (bel_set5 HB1.out (Nat.le_refl _) _ _ _ _ _) _) HN.out (fail_mk _ _ _ _ _ _ _ _)
        | some TJ =>
          obtain ⟨T, j1⟩ := TJ
          have hj2 := (refV_le hdv).2
          rw [List.length_drop] at hj2
          have hj0 := (refV_le hdv).1
          omega
      · have HRD := Lib.hid (show RdB wr (some ⟨b, off + (2 + j), none⟩) (l - (2 + j)) (c - (2 + j)) (R.drop j) by rw [← hdrop]; exact rd_from (rd_keep HBW.out HBB.out) hj1 hce)
        clear hdrop
        cases hdv : refV n (d + 1) (R.drop j) with
        | none =>
          have HN := Lib.hid (HDn.out (decL_none M (k + 1) (by rw [decL, hdec]; simp only [hdv]) (by omega)))
          have HDD := Lib.hid hdv
          clear hdec hdv hlen hj
          go_wp2_with fail
          go_at_call 67; rw [show ((d : Int) + 1) = ((d + 1 : Nat) : Int) by omega]; refine (HIH.out wr _ _ _ (d + 1) (R.drop j) HRD.out (by_drop HX.out j) (by omega) (by omega) (by omega)).mono ?_; rintro e w1 ⟨hb1, hno, hyes⟩
          have HB1 := Lib.hid (bel_step HBW.out hb1)
          have HZ1 := Lib.hid (row_step HZR.out hb1)
          have H15 := Lib.hid (row_step HL15.out hb1)
          obtain ⟨K, I, FF, S, q', l', c', m', rfl⟩ := hno HDD.out
          have z1 := HZ1.out
          have d0 := row_cell z1 0; have d1 := row_cell z1 1; have d2 := row_cell z1 2; have d3 := row_cell z1 3; have d4 := row_cell z1 4
          simp only [List.getElem?_toArray, List.getElem?_cons_zero, List.getElem?_cons_succ] at d0 d1 d2 d3 d4
          have df := fun o => row_frz z1 o
          have hzlt := row_lt z1
          have ha := fun (o : Obj) (v0 v1 v2 v3 v4 : Value) (i : Nat) => cell_alloc5 hzlt o v0 v1 v2 v3 v4 i
          have hzne : w.heap.size ≠ w1.heap.size := by omega
          clear hb1 hno hyes z1 t4 r4 rf
          go_wp2
          refine bodyPost_ret (v := .tuple #[.agg #[.int .i64 0, .int .i64 0, .float .f64 0, .string ⟨#[]⟩, .slice none 0 0], .int .i64 0, .bool false]) (by simp [results, Try.results67, go_sem, ha, World.cell?_setCell_same, World.cell?_setCell_other, d0, d1, d2, d3, d4]) rfl ?_
          exact rr_none (bel_alloc (bel_set5 HB1.out (Nat.le_refl _) _ _ _ _ _) _) HN.out (fail_mk _ _ _ _ _ _ _ _)
        | some TJ =>
          obtain ⟨T, j1⟩ := TJ
          have hj2 := (refV_le hdv).2
          rw [List.length_drop] at hj2
          have hj3 : j + j1 ≤ 100000 := by omega
          have HDC := Lib.hid (show decL (refV n (d + 1)) (k + 1) R = some (L ++ [T], j + j1) by rw [decL, hdec]; simp only [hdv])
          have HDD := Lib.hid hdv
          clear hdec hdv hlen hj hj2
          go_wp2_with fail
          go_at_call 67; rw [show ((d : Int) + 1) = ((d + 1 : Nat) : Int) by omega]; refine (HIH.out wr _ _ _ (d + 1) (R.drop j) HRD.out (by_drop HX.out j) (by omega) (by omega) (by omega)).mono ?_; rintro e w1 ⟨hb1, hno, hyes⟩
          have HB1 := Lib.hid (bel_step HBW.out hb1)
          have HZ1 := Lib.hid (row_step HZR.out hb1)
          have H15 := Lib.hid (row_step HL15.out hb1)
          obtain ⟨v, rfl, hrep⟩ := hyes T j1 HDD.out
          obtain ⟨K, I, FF, S, q', l', c', rfl, _⟩ := repS_shape hrep
          have HOL1 := Lib.hid (om_keep (om_keep HOL.out hb1) ((Below.refl w1.heap.size w1).alloc (Nat.le_refl _) (.cells #[.int .i64 K, .int .i64 I, .float .f64 FF, .string S, .slice q' l' c'] 47)))
          have HREP := Lib.hid (rep_fresh HOL.out hb1 hrep (.cells #[.int .i64 K, .int .i64 I, .float .f64 FF, .string S, .slice q' l' c'] 47))
          have z15 := row_alloc_step H15.out (.cells #[.int .i64 K, .int .i64 I, .float .f64 FF, .string S, .slice q' l' c'] 47)
          have u4 := row_cell H15.out 4
          simp only [List.getElem?_toArray, List.getElem?_cons_zero, List.getElem?_cons_succ] at u4
          have uf := row_frz H15.out 4
          have hult := row_lt H15.out
          have hune : w.heap.size + 1 ≠ w1.heap.size := by omega
          have hune2 : w1.heap.size ≠ w.heap.size + 1 := by omega
          have hlt2 : w.heap.size + 1 < w1.heap.size + 1 := by omega
          have hune3 : w.heap.size + 1 ≠ w1.heap.size + 1 := by omega
          clear hb1 hno hyes hrep z15 t4 r4 rf
          go_wp2_with (at_builtin; first
            | (refine wp_ov1 rfl (.tmp 118) (.tmp 120) rfl wr.heap.size W0 _ n q s dd L _ _ _ _ _ T rfl (congrArg (fun z => Value.slice (some ⟨z, 0, none⟩) 1 1) (World.size_alloc w1 (.cells #[.int .i64 K, .int .i64 I, .float .f64 FF, .string S, .slice q' l' c'] 47)).symm) HOL1.out (by omega) HREP.out ?_
               intro p2 c2 w2 ho2
               have HO2 := Lib.hid ho2
               have HB2 := Lib.hid (bel_via (ow_bel_l HOL.out) (ow_bel_l ho2) HBW.out (by omega) (by obtain ⟨_, _, _, _, h4, _⟩ := ho2; exact h4))
               have HZ2 := Lib.hid (row_via (ow_bel_l HOL.out) (ow_bel_l ho2) HZR.out (by omega))
               have H152 := Lib.hid (row_via (ow_bel_l HOL.out) (ow_bel_l ho2) HL15.out (by omega))
               have x4 := row_cell H152.out 4
               simp only [List.getElem?_toArray, List.getElem?_cons_zero, List.getElem?_cons_succ] at x4
               have xf := row_frz H152.out 4
               clear ho2))
          go_roundw
          case rel => exact ⟨k + 1, p2, s + 1, c2, j + j1, L ++ [T], _, by omega, by go_num, by go_num, HDC.out, by rw [HSK.out], ol_setbox HO2.out (b := w.heap.size + 1) (by omega) 4 (.slice p2 (s + 1) c2), by rw [World.size_setCell]; exact hW0, HB2.out.setCell (p := ⟨w.heap.size + 1, 4, none⟩) (by show w.heap.size ≤ w.heap.size + 1; omega) _, (Below.heap_setCell _ _ _ _ (by show w.heap.size ≠ w.heap.size + 1; omega)).trans HZ2.out, set_fifth H152.out _⟩
          case measure => simp [intOf]; omega
    · obtain rfl : k = M := by omega
      have HDC := Lib.hid (HDs.out L j hdec)
      have HRL := Lib.hid (ol_rep HOL.out)
      have z1 := HZR.out
      have d0 := row_cell z1 0; have d1 := row_cell z1 1; have d2 := row_cell z1 2; have d3 := row_cell z1 3; have d4 := row_cell z1 4
      have y1 := HL15.out
      have y0 := row_cell y1 0; have ya := row_cell y1 1; have yb := row_cell y1 2; have yc := row_cell y1 3
      simp only [List.getElem?_toArray, List.getElem?_cons_zero, List.getElem?_cons_succ] at d0 d1 d2 d3 d4 y0 ya yb yc
      have df := fun o => row_frz z1 o
      have hzlt := row_lt z1
      have HJE := Lib.hid (show (2 : Int) + (j : Int) = ((1 + (1 + j) : Nat) : Int) by omega)
      clear hdec hlen hj z1 y1
      go_wp2
      refine bodyPost_ret (v := .tuple #[.agg #[.int .i64 4, .int .i64 0, .float .f64 0, .string ⟨#[]⟩, .slice q s dd], .int .i64 (2 + (j : Int)), .bool true]) (by simp [results, Try.results67, go_sem, World.cell?_setCell_same, World.cell?_setCell_other, d0, d1, d2, d3, d4]) rfl ?_
      refine rr_some (bel_set5 HBW.out (Nat.le_refl _) _ _ _ _ _) HDC.out (by rw [HJE.out]) ?_
      have h' := repLS_mono (S' := fun b => w.heap.size ≤ b) (fun b hb => by omega) (repLS_keep (fun b (hb : W0.heap.size ≤ b) => set5_heap (show b ≠ w.heap.size by omega) (.int .i64 4) (.int .i64 0) (.float .f64 0) (.string ⟨#[]⟩) (.slice q s dd)) HRL.out)
      exact ⟨q, s, dd, rfl, (show okI (4 : Int) from by decide), (show okI (0 : Int) from by decide), (show 0 < 2 ^ 64 from by decide), (show (⟨#[]⟩ : ByteArray).size ≤ maxLen from by decide), h'⟩
theorem rr_succ (n : Nat) (IH : RrAll n) : RrAll (n + 1) := by
  intro w p l c d X hb hX hln hl hd
  cases X with
  | nil =>
    obtain rfl : l = 0 := hb.1.symm
    exact rr_empty (n + 1) d w p c hb.2.2.1 (by omega)
  | cons k R =>
    have hlen := hb.1
    rw [List.length_cons] at hlen
    obtain ⟨b, off, rfl⟩ := rd_full hb (by omega)
    by_cases h8 : 8 < d
    · exact rr_deep n d w b off l c k R hb h8 (by omega)
    have hd8 : d ≤ 8 := by omega
    by_cases h0 : k = 0
    · subst h0; exact rr_k0 n d w b off l c R hb hX hl hd8
    by_cases h1 : k = 1
    · subst h1
      by_cases hr : 8 ≤ R.length
      · exact rr_k1 n d w b off l c R hb hX hl hd8 hr
      · exact rr_k1n n d w b off l c R hb hX hl hd8 hr
    by_cases h2 : k = 2
    · subst h2
      by_cases hr : 8 ≤ R.length
      · by_cases hq : Flo.canon (rdU (R.take 8)).toNat = (rdU (R.take 8)).toNat
        · exact rr_k2 n d w b off l c R hb hX hl hd8 hr hq
        · exact rr_k2b n d w b off l c R hb hX hl hd8 hr hq
      · exact rr_k2n n d w b off l c R hb hX hl hd8 hr
    by_cases h3 : k = 3
    · subst h3
      by_cases hr : 2 ≤ R.length
      · by_cases hs : (rdU (R.take 2)).toNat ≤ 256 ∧ 2 + (rdU (R.take 2)).toNat ≤ R.length
        · exact rr_k3 n d w b off l c R hb hX hl hd8 hr hs.1 hs.2
        · exact rr_k3n n d w b off l c R hb hX hl hd8 hr hs
      · exact rr_k3s n d w b off l c R hb hX hl hd8 hr
    by_cases h4 : k = 4
    · subst h4
      cases R with
      | nil =>
        obtain rfl : l = 1 := by simpa using hlen.symm
        exact rr_k4e n d w b off c hb hd8
      | cons m R =>
        by_cases hbig : 64 < m
        · exact rr_k4b n d w b off l c m R hb hX hl hd8 hbig
        · exact rr_k4 n IH d w b off l c m R hb hX hl hd8 hln hbig
    · exact rr_else n d w b off l c k R hb hX hl hd8 (by omega)
theorem rr_all : ∀ n, RrAll n := by
  intro n
  induction n with
  | zero =>
    intro w p l c d X hb hX hln hl hd
    obtain rfl : l = 0 := by omega
    obtain rfl : X = [] := List.eq_nil_of_length_eq_zero hb.1
    exact rr_empty 0 d w p c hb.2.2.1 (by omega)
  | succ n ih => exact rr_succ n ih
/-- What a Read returns. -/
def RdPost (N : Nat) (o : Option (VT N × Nat)) (w : World) (e : Ending) (w' : World) : Prop := Below w.heap.size w w' ∧ (o = none → e = .returned (.tuple #[.agg #[.int .i64 0, .int .i64 0, .float .f64 0, .string ⟨#[]⟩, .slice none 0 0], .int .i64 0, .int .i64 20])) ∧ ∀ T j, o = some (T, j) → ∃ v, e = .returned (.tuple #[v, .int .i64 (j : Int), .int .i64 0]) ∧ Rep w' N v T
theorem refRd_none {N : Nat} {X : List Int} (h : refV N 0 X = none) : refRd N X = none := by unfold refRd; rw [h]
theorem refRd_bad {N : Nat} {X : List Int} {T : VT N} {j : Nat} (h : refV N 0 X = some (T, j)) (hc : rcheckT N T ≠ 0) : refRd N X = none := by unfold refRd; rw [h]; simp only; rw [if_neg hc]
theorem refRd_ok {N : Nat} {X : List Int} {T : VT N} {j : Nat} (h : refV N 0 X = some (T, j)) (hc : rcheckT N T = 0) : refRd N X = some (T, j) := by unfold refRd; rw [h]; simp only; rw [if_pos hc]
end Num
end Go.Proofs.Ytomfgncbdgifoaa
/-
  The reference's Read; the program's, in the same words.
-/
namespace Go.Proofs.Ytomfgncbdgifoaa
open Go.RowKit
namespace Num
open Ints
set_option linter.unusedSimpArgs false
set_option linter.unusedVariables false
set_option maxRecDepth 100000 in
set_option maxHeartbeats 4000000 in
theorem rread_none (N : Nat) (w : World) (p : Option Addr) (l c : Nat) (X : List Int) (hb : RdB w p l c X) (hX : By X) (hN : l ≤ N) (hl : l ≤ 100000) (hd : refV N 0 X = none) :
    Calls Try.prog 45 #[.slice p l c] w (RdPost N (refRd N X) w) := by
  have HB := Lib.hid (rd_keep ((Below.refl w.heap.size w).alloc (Nat.le_refl _) (.cells #[.int .i64 0, .int .i64 0, .float .f64 0, .string ⟨#[]⟩, .slice none 0 0] 47)) hb)
  have HX := Lib.hid hX
  have HD := Lib.hid hd
  have RB := Lib.hid (row_alloc w #[.int .i64 0, .int .i64 0, .float .f64 0, .string ⟨#[]⟩, .slice none 0 0] 47)
  clear hd hb hX
  go_enter Try.func45, Try.ntmps45
  go_wp2_with fail
  go_at_call 67; refine (rr_all N _ _ _ _ 0 X HB.out HX.out hN hl (by omega)).mono ?_; rintro e w1 ⟨hb1, hno, hyes⟩
  obtain ⟨K, I, F, S, q, a, d, m, rfl⟩ := hno HD.out
  have HB1 := Lib.hid (bel_box _ hb1)
  have hr1 := row_step RB.out hb1
  have d0 := row_cell hr1 0; have d1 := row_cell hr1 1; have d2 := row_cell hr1 2; have d3 := row_cell hr1 3; have d4 := row_cell hr1 4
  simp only [List.getElem?_toArray, List.getElem?_cons_zero, List.getElem?_cons_succ] at d0 d1 d2 d3 d4
  have df := fun o => row_frz hr1 o
  have hlt := row_lt hr1
  have hne : w.heap.size ≠ w1.heap.size := by omega
  have ha := fun (o : Obj) (v0 v1 v2 v3 v4 : Value) (i : Nat) => cell_alloc5 hlt o v0 v1 v2 v3 v4 i
  clear hb1 hno hyes hr1
  go_wp2
  refine bodyPost_ret (v := .tuple #[.agg #[.int .i64 0, .int .i64 0, .float .f64 0, .string ⟨#[]⟩, .slice none 0 0], .int .i64 0, .int .i64 20]) (by simp [results, Try.results45, go_sem, ha, World.cell?_setCell_same, World.cell?_setCell_other, d0, d1, d2, d3, d4]) rfl ?_
  exact ⟨bel_alloc (bel_set5 HB1.out (Nat.le_refl _) _ _ _ _ _) _, fun _ => rfl, fun T j h => by rw [refRd_none HD.out] at h; cases h⟩
set_option maxRecDepth 100000 in
set_option maxHeartbeats 4000000 in
theorem rread_some (N : Nat) (w : World) (p : Option Addr) (l c : Nat) (X : List Int) (hb : RdB w p l c X) (hX : By X) (hN : l ≤ N) (hl : l ≤ 100000) (T : VT N) (j : Nat) (hd : refV N 0 X = some (T, j)) :
    Calls Try.prog 45 #[.slice p l c] w (RdPost N (refRd N X) w) := by
  have HB := Lib.hid (rd_keep ((Below.refl w.heap.size w).alloc (Nat.le_refl _) (.cells #[.int .i64 0, .int .i64 0, .float .f64 0, .string ⟨#[]⟩, .slice none 0 0] 47)) hb)
  have HX := Lib.hid hX
  have HD := Lib.hid hd
  have RB := Lib.hid (row_alloc w #[.int .i64 0, .int .i64 0, .float .f64 0, .string ⟨#[]⟩, .slice none 0 0] 47)
  obtain ⟨E, hE⟩ : ∃ E, rcheckT N T = E := ⟨_, rfl⟩
  have HE := Lib.hid hE
  clear hd hb hX hE
  by_cases h0 : E = 0
  all_goals
    have hE0 : (E != 0) = decide (E ≠ 0) := by by_cases h : E = 0 <;> simp [h]
    have HE0 := Lib.hid h0
    go_enter Try.func45, Try.ntmps45
    go_wp2_with fail
    go_at_call 67; refine (rr_all N _ _ _ _ 0 X HB.out HX.out hN hl (by omega)).mono ?_; rintro e w1 ⟨hb1, hno, hyes⟩
    obtain ⟨v, rfl, hrep⟩ := hyes T j HD.out
    obtain ⟨K, I, F, S, q, a, d, rfl, _⟩ := repS_shape hrep
    have HB1 := Lib.hid (bel_box _ hb1)
    have HR := Lib.hid (rep_keep ((Below.refl w1.heap.size w1).alloc (Nat.le_refl _) (.cells #[.int .i64 K, .int .i64 I, .float .f64 F, .string S, .slice q a d] 47)) _ _ _ (repS_rep _ _ _ hrep))
    have hrlt := repS_lt _ _ _ hrep
    have HS := Lib.hid (repS_keep (fun b hb' => Below.heap_alloc w1 (.cells #[.int .i64 K, .int .i64 I, .float .f64 F, .string S, .slice q a d] 47) _ hb'.2) _ _ _ hrlt)
    have RB1 := Lib.hid (row_alloc_step (row_step RB.out hb1) (.cells #[.int .i64 K, .int .i64 I, .float .f64 F, .string S, .slice q a d] 47))
    have RV1 := Lib.hid (row_alloc w1 #[.int .i64 K, .int .i64 I, .float .f64 F, .string S, .slice q a d] 47)
    have hlw : w.heap.size < w1.heap.size := by have h3 := hb1.size; rw [World.size_alloc] at h3; omega
    clear hb1 hno hyes hrep hrlt
    go_wp2_with fail
    go_at_call 61; refine (rcheck_any N _ T _ HR.out).mono ?_; rintro e w2 ⟨rfl, hb2⟩
    rw [HE.out]
    have HB2 := Lib.hid (bel_step (bel_alloc HB1.out _) hb2)
    have HS2 := Lib.hid (repS_keep (fun b hb' => hb2.block b (by rw [World.size_alloc]; have := hb'.2; omega)) _ _ _ HS.out)
    have hr1 := row_step RB1.out hb2
    have hv1 := row_step RV1.out hb2
    have d0 := row_cell hr1 0; have d1 := row_cell hr1 1; have d2 := row_cell hr1 2; have d3 := row_cell hr1 3; have d4 := row_cell hr1 4
    have k0 := row_cell hv1 0; have k1 := row_cell hv1 1; have k2 := row_cell hv1 2; have k3 := row_cell hv1 3; have k4 := row_cell hv1 4
    simp only [List.getElem?_toArray, List.getElem?_cons_zero, List.getElem?_cons_succ] at d0 d1 d2 d3 d4 k0 k1 k2 k3 k4
    have df := fun o => row_frz hr1 o
    have hlt := row_lt hr1
    have hne : w.heap.size ≠ w1.heap.size := by omega
    have ha := fun (o : Obj) (v0 v1 v2 v3 v4 : Value) (i : Nat) => cell_alloc5 hlt o v0 v1 v2 v3 v4 i
    clear hr1 hv1 hb2
    go_wp2
  · refine bodyPost_ret (v := .tuple #[.agg #[.int .i64 K, .int .i64 I, .float .f64 F, .string S, .slice q a d], .int .i64 (j : Int), .int .i64 0]) (by simp [results, Try.results45, go_sem, ha, World.cell?_setCell_same, World.cell?_setCell_other, d0, d1, d2, d3, d4]) rfl ?_
    refine ⟨bel_set5 HB2.out (Nat.le_refl _) _ _ _ _ _, fun h => (by rw [refRd_ok HD.out (by rw [HE.out]; exact HE0.out)] at h; cases h), fun T' j' h => ?_⟩
    rw [refRd_ok HD.out (by rw [HE.out]; exact HE0.out)] at h
    cases h
    exact ⟨_, rfl, repS_rep _ _ _ (repS_keep (fun b hb' => set5_heap (show b ≠ w.heap.size by have h1 := hb'.1; rw [World.size_alloc] at h1; omega) _ _ _ _ _) _ _ _ HS2.out)⟩
  · refine bodyPost_ret (v := .tuple #[.agg #[.int .i64 0, .int .i64 0, .float .f64 0, .string ⟨#[]⟩, .slice none 0 0], .int .i64 0, .int .i64 20]) (by simp [results, Try.results45, go_sem, ha, World.cell?_setCell_same, World.cell?_setCell_other, d0, d1, d2, d3, d4]) rfl ?_
    exact ⟨bel_set5 HB2.out (Nat.le_refl _) _ _ _ _ _, fun _ => rfl, fun T j h => by rw [refRd_bad HD.out (by rw [HE.out]; exact HE0.out)] at h; cases h⟩
/-- Any bytes: what the reference reads. -/
theorem rread_any (N : Nat) (w : World) (p : Option Addr) (l c : Nat) (X : List Int) (hb : RdB w p l c X) (hX : By X) (hN : l ≤ N) (hl : l ≤ 100000) :
    Calls Try.prog 45 #[.slice p l c] w (RdPost N (refRd N X) w) := by
  cases hd : refV N 0 X with
  | none => exact rread_none N w p l c X hb hX hN hl hd
  | some q => obtain ⟨T, j⟩ := q; exact rread_some N w p l c X hb hX hN hl T j hd
/-- Any bytes, at most 4096: what the program reads. -/
theorem pread_any (N : Nat) (w : World) (p : Option Addr) (l c : Nat) (X : List Int) (hb : RdB w p l c X) (hX : By X) (hN : l ≤ N) (hl : l ≤ 4096) :
    Calls Try.prog 69 #[.slice p l c] w (RdPost N (progR N X) w) := by
  cases hd : decV N X with
  | none =>
    have h : progR N X = none := by unfold progR; rw [hd]
    refine (read_no N w p l c X hb hX hN hl hd).mono ?_
    rintro e w' ⟨rfl, hb'⟩
    exact ⟨hb', fun _ => rfl, fun T j h' => by rw [h] at h'; cases h'⟩
  | some q =>
    obtain ⟨T, j⟩ := q
    by_cases hc : checkM (measD N 0 T) = 0
    · have h : progR N X = some (T, j) := by unfold progR; rw [hd]; simp only; rw [if_pos hc]
      refine (mread_ok N w p l c X hb hX hN hl T j hd (by have := (decV_le _ _ _ _ hd).2; have := hb.1; omega) hc).mono ?_
      rintro e w' ⟨v, rfl, hb', hr⟩
      refine ⟨hb', fun h' => (by rw [h] at h'; cases h'), fun T' j' h' => ?_⟩
      rw [h] at h'
      cases h'
      exact ⟨v, rfl, repS_rep _ _ _ hr⟩
    · have h : progR N X = none := by unfold progR; rw [hd]; simp only; rw [if_neg hc]
      refine (mread_bad N w p l c X hb hX hN hl T j hd _ rfl (by simpa using hc)).mono ?_
      rintro e w' ⟨rfl, hb'⟩
      exact ⟨hb', fun _ => rfl, fun T j h' => by rw [h] at h'; cases h'⟩
end Num
end Go.Proofs.Ytomfgncbdgifoaa
