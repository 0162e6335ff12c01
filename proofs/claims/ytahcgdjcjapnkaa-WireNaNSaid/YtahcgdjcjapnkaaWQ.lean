/-
  WireNaN: a NaN has one form on the wire.
-/
import Derived.Test.YtahcgdjcjapnkaaWN
namespace Go.Proofs.Ytahcgdjcjapnkaa
open Go.RowKit
namespace Num
open Ints
set_option linter.unusedSimpArgs false
set_option linter.unusedVariables false
theorem feq_num (x : Nat) (h : x % 9223372036854775808 ≤ 9218868437227405312) : Flo.feq x x = true := by
  have h0 : FloatKind.f64.format.signWeight = 9223372036854775808 := by decide +kernel
  have h1 : FloatKind.f64.format.binade = 4503599627370496 := by decide +kernel
  have h2 : FloatKind.f64.format.infRung = 9218868437227405312 := by decide +kernel
  apply Flo.feq_self
  unfold Ieee.Format.read
  simp only [h0, h1, h2]
  split
  · rfl
  · split
    · rfl
    · split
      · rfl
      · omega
theorem feq_not (x : Nat) (h : 9218868437227405312 < x % 9223372036854775808) : Flo.feq x x = false := by
  have h0 : FloatKind.f64.format.signWeight = 9223372036854775808 := by decide +kernel
  have h1 : FloatKind.f64.format.binade = 4503599627370496 := by decide +kernel
  have h2 : FloatKind.f64.format.infRung = 9218868437227405312 := by decide +kernel
  apply Flo.feq_nan
  unfold Ieee.Format.read
  simp only [h0, h1, h2]
  rw [if_neg (by omega), if_neg (by omega), if_neg (by omega)]
  rfl
theorem mask11 (x : Int) (h0 : 0 ≤ x) (h1 : x < 18446744073709551616) : bits .and .u64 x 2047 = x % 2048 := by
  have h := bits_mask .u64 64 (by decide) wraps_u64 11 (by decide) x h0 (by omega)
  have e1 : ((2 : Int) ^ 11 - 1) = 2047 := by decide
  have e2 : ((2 : Int) ^ 11) = 2048 := by decide
  rw [e1, e2] at h
  exact h
theorem mask52 (x : Int) (h0 : 0 ≤ x) (h1 : x < 18446744073709551616) : bits .and .u64 x 4503599627370495 = x % 4503599627370496 := by
  have h := bits_mask .u64 64 (by decide) wraps_u64 52 (by decide) x h0 (by omega)
  have e1 : ((2 : Int) ^ 52 - 1) = 4503599627370495 := by decide
  have e2 : ((2 : Int) ^ 52) = 4503599627370496 := by decide
  rw [e1, e2] at h
  exact h
set_option maxRecDepth 100000 in
set_option maxHeartbeats 8000000 in
theorem nan_A (u : Nat) (hu : u < 18446744073709551616) (h : 9218868437227405312 < u % 9223372036854775808) (hne : u ≠ 9221120237041090561) (w : World) : Calls Try.prog 6 #[.int .u64 u] w fun e w' => e = .returned (.bool true) ∧ Below w.heap.size w w' := by
  have m1 := mask11 ((u : Int) / 4503599627370496) (by omega) (by omega)
  have m2 := mask52 (u : Int) (by omega) (by omega)
  have hq : ¬ Flo.canon u = u := by rw [Flo.canon_no (feq_not u h)]; intro e; exact hne e.symm
  have HRN := Lib.hid (fun w p c hb => read_nan w p c u hu hq hb)
  have hb1 : (bits .and .u64 ((u : Int) / 4503599627370496) 2047 == 2047) = true := by rw [m1]; simp; omega
  have hb2 : (bits .and .u64 (u : Int) 4503599627370495 != 0) = true := by rw [m2]; simp; omega
  have hb3 : ((u : Int) != 9221120237041090561) = true := by simp; omega
  clear hne hq
  have HPU := Lib.hid (fun W0 w p c (hb : OwB W0 w p 1 c [2]) => rputU_at W0 w p 1 c [2] (u : Int) 8 (by omega) (by omega) (by omega) (Or.inl hb) (by omega))
  clear m1 m2 hu h
  go_enter Try.func6, Try.ntmps6
  go_wp2_with fail
  go_at_call 9; refine (known_any _).mono ?_; rintro e w1 ⟨rfl, hb⟩
  have HB1 := Lib.hid hb
  have HL := Lib.hid (show OwB w1 (w1.alloc (.cells #[.int .u8 2] 5)) (some ⟨w1.heap.size, 0, none⟩) 1 1 [2] from ⟨rfl, World.ownsRow_lit w1 #[.int .u8 2] 1 (Nat.le_refl _) (by decide) rfl, (Below.refl _ _).alloc (Nat.le_refl _) _, by rw [World.size_alloc]; omega⟩)
  clear hb
  go_wp2_with fail
  go_at_call 21; refine (HPU.out w1 _ _ _ HL.out).mono ?_; rintro e w2 ⟨p2, c2, rfl, _, ho2⟩
  have HO2 := Lib.hid (ho2 (by omega))
  clear ho2
  go_wp2_with fail
  go_at_call 13; refine (HRN.out _ _ _ (rd_of_ow HO2.out)).mono ?_; rintro e w3 ⟨rfl, hb⟩
  have HB3 := Lib.hid (bel_alloc (bel_step (bel_step HB1.out (ow_bel HO2.out)) hb) (.cells #[.int .i64 0, .int .i64 0, .float .f64 0, .string ⟨#[]⟩, .slice none 0 0] 26))
  clear hb
  go_wp2
  go_ret
  exact ⟨rfl, HB3.out⟩
set_option maxRecDepth 100000 in
set_option maxHeartbeats 8000000 in
theorem nan_B (u : Nat) (hu : u < 18446744073709551616) (h : u = 9221120237041090561) (w : World) : Calls Try.prog 6 #[.int .u64 u] w fun e w' => e = .returned (.bool true) ∧ Below w.heap.size w w' := by
  have m1 := mask11 ((u : Int) / 4503599627370496) (by omega) (by omega)
  have m2 := mask52 (u : Int) (by omega) (by omega)
  have hq : Flo.canon u = u := by rw [h]; exact Flo.canon_nan
  have HCQ := Lib.hid (show (Flo.canon u : Int) = (u : Int) by rw [hq])
  have HRF := Lib.hid (fun w p c hb => read_flo w p c u hu hq hb)
  have HPT := Lib.hid (fun w q d (hd : d ≤ maxLen) => put_2 w 0 u q d (by decide) hu hd)
  have hord : (FloatKind.f64.format.order u u != some .eq) = true := by rw [h]; decide +kernel
  have hb1 : (bits .and .u64 ((u : Int) / 4503599627370496) 2047 == 2047) = true := by rw [m1]; simp; omega
  have hb2 : (bits .and .u64 (u : Int) 4503599627370495 != 0) = true := by rw [m2]; simp; omega
  have hb3 : ((u : Int) != 9221120237041090561) = false := by simp; omega
  clear hq
  have HPU := Lib.hid (fun W0 w p c (hb : OwB W0 w p 1 c [2]) => rputU_at W0 w p 1 c [2] (u : Int) 8 (by omega) (by omega) (by omega) (Or.inl hb) (by omega))
  clear m1 m2 hu h
  go_enter Try.func6, Try.ntmps6
  go_wp2_with fail
  go_at_call 9; refine (known_any _).mono ?_; rintro e w1 ⟨rfl, hb⟩
  have HB1 := Lib.hid hb
  have HL := Lib.hid (show OwB w1 (w1.alloc (.cells #[.int .u8 2] 5)) (some ⟨w1.heap.size, 0, none⟩) 1 1 [2] from ⟨rfl, World.ownsRow_lit w1 #[.int .u8 2] 1 (Nat.le_refl _) (by decide) rfl, (Below.refl _ _).alloc (Nat.le_refl _) _, by rw [World.size_alloc]; omega⟩)
  clear hb
  go_wp2_with fail
  go_at_call 21; refine (HPU.out w1 _ _ _ HL.out).mono ?_; rintro e w2 ⟨p2, c2, rfl, _, ho2⟩
  have HO2 := Lib.hid (ho2 (by omega))
  clear ho2
  go_wp2_with fail
  go_at_call 13; refine (HRF.out _ _ _ (rd_of_ow HO2.out)).mono ?_; rintro e w3 ⟨q3, d3, hd3, rfl, hb⟩
  have HB3 := Lib.hid (bel_alloc (bel_step (bel_step HB1.out (ow_bel HO2.out)) hb) (.cells #[.int .i64 2, .int .i64 0, .float .f64 u, .string ⟨#[]⟩, .slice q3 0 d3] 26))
  have HBL := Lib.hid (bel_alloc hb (.cells #[.int .i64 2, .int .i64 0, .float .f64 u, .string ⟨#[]⟩, .slice q3 0 d3] 26))
  have RV := Lib.hid (row_alloc w3 #[.int .i64 2, .int .i64 0, .float .f64 u, .string ⟨#[]⟩, .slice q3 0 d3] 26)
  have HD3 := Lib.hid hd3
  clear hb hd3
  go_wp2_with fail
  go_at_call 11; refine (HPT.out _ _ _ HD3.out).mono ?_; rintro e w4 ⟨p4, c4, rfl, ho4⟩
  have hcv := rd_string (rd_of_ow ho4)
  have hcw := rd_string (rd_keep (bel_step HBL.out (ow_bel ho4)) (rd_of_ow HO2.out))
  rw [HCQ.out] at hcv
  rw [List.singleton_append] at hcw
  have hr := row_step RV.out (ow_bel ho4)
  have HB4 := Lib.hid (bel_step HB3.out (ow_bel ho4))
  have k2 := row_cell hr 2
  simp only [List.getElem?_toArray, List.getElem?_cons_zero, List.getElem?_cons_succ] at k2
  generalize strB (2 :: beI (u : Int) 8) = str at hcv hcw
  clear hr ho4
  go_wp2
  go_ret
  exact ⟨rfl, HB4.out⟩
set_option maxRecDepth 100000 in
set_option maxHeartbeats 8000000 in
theorem nan_C (u : Nat) (hu : u < 18446744073709551616) (h : u % 9223372036854775808 < 9218868437227405312) (w : World) : Calls Try.prog 6 #[.int .u64 u] w fun e w' => e = .returned (.bool true) ∧ Below w.heap.size w w' := by
  have m1 := mask11 ((u : Int) / 4503599627370496) (by omega) (by omega)
  have m2 := mask52 (u : Int) (by omega) (by omega)
  have hq : Flo.canon u = u := Flo.canon_yes (feq_num u (by omega))
  have HCQ := Lib.hid (show (Flo.canon u : Int) = (u : Int) by rw [hq])
  have HRF := Lib.hid (fun w p c hb => read_flo w p c u hu hq hb)
  have HPT := Lib.hid (fun w q d (hd : d ≤ maxLen) => put_2 w 0 u q d (by decide) hu hd)
  have hord : (FloatKind.f64.format.order u u != some .eq) = false := by have e := feq_num u (by omega); unfold Flo.feq at e; rw [bne, e]; rfl
  have hb1 : (bits .and .u64 ((u : Int) / 4503599627370496) 2047 == 2047) = false := by rw [m1]; simp; omega
  clear hq
  have HPU := Lib.hid (fun W0 w p c (hb : OwB W0 w p 1 c [2]) => rputU_at W0 w p 1 c [2] (u : Int) 8 (by omega) (by omega) (by omega) (Or.inl hb) (by omega))
  clear m1 m2 hu h
  go_enter Try.func6, Try.ntmps6
  go_wp2_with fail
  go_at_call 9; refine (known_any _).mono ?_; rintro e w1 ⟨rfl, hb⟩
  have HB1 := Lib.hid hb
  have HL := Lib.hid (show OwB w1 (w1.alloc (.cells #[.int .u8 2] 5)) (some ⟨w1.heap.size, 0, none⟩) 1 1 [2] from ⟨rfl, World.ownsRow_lit w1 #[.int .u8 2] 1 (Nat.le_refl _) (by decide) rfl, (Below.refl _ _).alloc (Nat.le_refl _) _, by rw [World.size_alloc]; omega⟩)
  clear hb
  go_wp2_with fail
  go_at_call 21; refine (HPU.out w1 _ _ _ HL.out).mono ?_; rintro e w2 ⟨p2, c2, rfl, _, ho2⟩
  have HO2 := Lib.hid (ho2 (by omega))
  clear ho2
  go_wp2_with fail
  go_at_call 13; refine (HRF.out _ _ _ (rd_of_ow HO2.out)).mono ?_; rintro e w3 ⟨q3, d3, hd3, rfl, hb⟩
  have HB3 := Lib.hid (bel_alloc (bel_step (bel_step HB1.out (ow_bel HO2.out)) hb) (.cells #[.int .i64 2, .int .i64 0, .float .f64 u, .string ⟨#[]⟩, .slice q3 0 d3] 26))
  have HBL := Lib.hid (bel_alloc hb (.cells #[.int .i64 2, .int .i64 0, .float .f64 u, .string ⟨#[]⟩, .slice q3 0 d3] 26))
  have RV := Lib.hid (row_alloc w3 #[.int .i64 2, .int .i64 0, .float .f64 u, .string ⟨#[]⟩, .slice q3 0 d3] 26)
  have HD3 := Lib.hid hd3
  clear hb hd3
  go_wp2_with fail
  go_at_call 11; refine (HPT.out _ _ _ HD3.out).mono ?_; rintro e w4 ⟨p4, c4, rfl, ho4⟩
  have hcv := rd_string (rd_of_ow ho4)
  have hcw := rd_string (rd_keep (bel_step HBL.out (ow_bel ho4)) (rd_of_ow HO2.out))
  rw [HCQ.out] at hcv
  rw [List.singleton_append] at hcw
  have hr := row_step RV.out (ow_bel ho4)
  have HB4 := Lib.hid (bel_step HB3.out (ow_bel ho4))
  have k2 := row_cell hr 2
  simp only [List.getElem?_toArray, List.getElem?_cons_zero, List.getElem?_cons_succ] at k2
  generalize strB (2 :: beI (u : Int) 8) = str at hcv hcw
  clear hr ho4
  go_wp2
  go_ret
  exact ⟨rfl, HB4.out⟩
set_option maxRecDepth 100000 in
set_option maxHeartbeats 8000000 in
theorem nan_D (u : Nat) (hu : u < 18446744073709551616) (h : u % 9223372036854775808 = 9218868437227405312) (w : World) : Calls Try.prog 6 #[.int .u64 u] w fun e w' => e = .returned (.bool true) ∧ Below w.heap.size w w' := by
  have m1 := mask11 ((u : Int) / 4503599627370496) (by omega) (by omega)
  have m2 := mask52 (u : Int) (by omega) (by omega)
  have hq : Flo.canon u = u := Flo.canon_yes (feq_num u (by omega))
  have HCQ := Lib.hid (show (Flo.canon u : Int) = (u : Int) by rw [hq])
  have HRF := Lib.hid (fun w p c hb => read_flo w p c u hu hq hb)
  have HPT := Lib.hid (fun w q d (hd : d ≤ maxLen) => put_2 w 0 u q d (by decide) hu hd)
  have hord : (FloatKind.f64.format.order u u != some .eq) = false := by have e := feq_num u (by omega); unfold Flo.feq at e; rw [bne, e]; rfl
  have hb1 : (bits .and .u64 ((u : Int) / 4503599627370496) 2047 == 2047) = true := by rw [m1]; simp; omega
  have hb2 : (bits .and .u64 (u : Int) 4503599627370495 != 0) = false := by rw [m2]; simp; omega
  clear hq
  have HPU := Lib.hid (fun W0 w p c (hb : OwB W0 w p 1 c [2]) => rputU_at W0 w p 1 c [2] (u : Int) 8 (by omega) (by omega) (by omega) (Or.inl hb) (by omega))
  clear m1 m2 hu h
  go_enter Try.func6, Try.ntmps6
  go_wp2_with fail
  go_at_call 9; refine (known_any _).mono ?_; rintro e w1 ⟨rfl, hb⟩
  have HB1 := Lib.hid hb
  have HL := Lib.hid (show OwB w1 (w1.alloc (.cells #[.int .u8 2] 5)) (some ⟨w1.heap.size, 0, none⟩) 1 1 [2] from ⟨rfl, World.ownsRow_lit w1 #[.int .u8 2] 1 (Nat.le_refl _) (by decide) rfl, (Below.refl _ _).alloc (Nat.le_refl _) _, by rw [World.size_alloc]; omega⟩)
  clear hb
  go_wp2_with fail
  go_at_call 21; refine (HPU.out w1 _ _ _ HL.out).mono ?_; rintro e w2 ⟨p2, c2, rfl, _, ho2⟩
  have HO2 := Lib.hid (ho2 (by omega))
  clear ho2
  go_wp2_with fail
  go_at_call 13; refine (HRF.out _ _ _ (rd_of_ow HO2.out)).mono ?_; rintro e w3 ⟨q3, d3, hd3, rfl, hb⟩
  have HB3 := Lib.hid (bel_alloc (bel_step (bel_step HB1.out (ow_bel HO2.out)) hb) (.cells #[.int .i64 2, .int .i64 0, .float .f64 u, .string ⟨#[]⟩, .slice q3 0 d3] 26))
  have HBL := Lib.hid (bel_alloc hb (.cells #[.int .i64 2, .int .i64 0, .float .f64 u, .string ⟨#[]⟩, .slice q3 0 d3] 26))
  have RV := Lib.hid (row_alloc w3 #[.int .i64 2, .int .i64 0, .float .f64 u, .string ⟨#[]⟩, .slice q3 0 d3] 26)
  have HD3 := Lib.hid hd3
  clear hb hd3
  go_wp2_with fail
  go_at_call 11; refine (HPT.out _ _ _ HD3.out).mono ?_; rintro e w4 ⟨p4, c4, rfl, ho4⟩
  have hcv := rd_string (rd_of_ow ho4)
  have hcw := rd_string (rd_keep (bel_step HBL.out (ow_bel ho4)) (rd_of_ow HO2.out))
  rw [HCQ.out] at hcv
  rw [List.singleton_append] at hcw
  have hr := row_step RV.out (ow_bel ho4)
  have HB4 := Lib.hid (bel_step HB3.out (ow_bel ho4))
  have k2 := row_cell hr 2
  simp only [List.getElem?_toArray, List.getElem?_cons_zero, List.getElem?_cons_succ] at k2
  generalize strB (2 :: beI (u : Int) 8) = str at hcv hcw
  clear hr ho4
  go_wp2
  go_ret
  exact ⟨rfl, HB4.out⟩
theorem nan_any (u : Nat) (hu : u < 18446744073709551616) (w : World) : Calls Try.prog 6 #[.int .u64 u] w fun e w' => e = .returned (.bool true) ∧ Below w.heap.size w w' := by
  by_cases h1 : u = 9221120237041090561
  · exact nan_B u hu h1 w
  by_cases h2 : 9218868437227405312 < u % 9223372036854775808
  · exact nan_A u hu h2 h1 w
  by_cases h3 : u % 9223372036854775808 = 9218868437227405312
  · exact nan_D u hu h3 w
  · exact nan_C u hu (by omega) w
theorem nan_law (a : Int) (h : (Lit.int .u64 a).wf = true) (w : World) : Calls Try.prog 6 #[.int .u64 a] w fun e w' => e = .returned (.bool true) ∧ Below w.heap.size w w' := by
  simp only [Lit.wf, decide_eq_true_eq, IntKind.min, IntKind.max] at h
  have h1 : IntKind.u64.bits = 64 := rfl
  simp [IntKind.signed, h1] at h
  obtain ⟨u, rfl⟩ : ∃ u : Nat, a = (u : Int) := ⟨a.toNat, by omega⟩
  exact nan_any u (by omega) w
end Num
end Go.Proofs.Ytahcgdjcjapnkaa
