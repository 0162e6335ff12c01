/-
  ValueTexts: texts of every Int and every Float.
-/
import Derived.Test.YtahcgdjcjapnkaaGreatDoorVTc
import Derived.Test.YtahcgdjcjapnkaaGreatDoorVKo
namespace Go.Proofs.YtahcgdjcjapnkaaGreatDoor
open Go.RowKit
namespace Num
open Ints
set_option linter.unusedSimpArgs false
set_option linter.unusedVariables false
/-- Is a byte a point, an e, an N, an I? -/
def isPt (c : Int) : Bool := c == 46 || c == 101 || c == 78 || c == 73
def ptS (s : ByteArray) (k : Nat) : Bool := (s.data.toList.take k).any fun b => isPt (b.toNat : Int)
theorem ptS_snoc (s : ByteArray) (k : Nat) (h : k < s.size) : ptS s (k + 1) = (ptS s k || isPt (s[k].toNat : Int)) := by
  have hl : k < s.data.toList.length := by rw [Array.length_toList]; exact h
  unfold ptS
  rw [List.take_succ_eq_append_getElem hl, List.any_append]
  rw [List.any_cons, List.any_nil, Bool.or_false]
  rfl
theorem ptS_all (s : ByteArray) (c : UInt8) (h : c ∈ s.data.toList) (hc : isPt (c.toNat : Int) = true) : ptS s s.size = true := by
  unfold ptS
  rw [List.take_of_length_le (by rw [Array.length_toList]; exact Nat.le_refl _), List.any_eq_true]
  exact ⟨c, h, hc⟩
theorem mem_str {L : List Int} {n : Nat} (h : (n : Int) ∈ L) : UInt8.ofNat n ∈ (strOfI L).data.toList := by
  rw [strOfI_list]
  exact List.mem_map.2 ⟨(n : Int), h, by rw [Int.toNat_natCast]⟩
theorem pt_any (x : Nat) : ptS (ftS x) (ftS x).size = true := by
  unfold ftS
  by_cases h1 : x % 9223372036854775808 < 9218868437227405312
  · have hn : nanB x = false := by rw [nanB_of, feq_numT x (by omega)]; rfl
    rw [hn, inf_fin x h1, Bool.or_self, Bool.false_or]
    by_cases hd : dotE x = true
    · rw [if_pos hd]
      rcases (dotE_iff x).1 hd with h | h
      · exact ptS_all _ _ (mem_str (n := 46) h) (by decide)
      · exact ptS_all _ _ (mem_str (n := 101) h) (by decide)
    · rw [if_neg hd]
      refine ptS_all _ 46 ?_ (by decide)
      have e : (strOfI (ffmt x) ++ ⟨#[46, 48]⟩ : ByteArray).data.toList = (strOfI (ffmt x)).data.toList ++ [46, 48] := by
        rw [ByteArray.data_append]
        simp
      rw [e]
      simp
  · have hor : (nanB x || isInfB x || dotE x) = true := by
      by_cases h2 : x % 9223372036854775808 = 9218868437227405312
      · rw [inf_inf x h2]; simp
      · rw [nanB_of, feq_notT x (by omega)]; simp
    rw [if_pos hor]
    by_cases h2 : x % 9223372036854775808 = 9218868437227405312
    · refine ptS_all _ _ (mem_str (n := 73) ?_) (by decide)
      rcases ffmt_inf x h2 with h | h <;> rw [h] <;> simp
    · refine ptS_all _ _ (mem_str (n := 78) ?_) (by decide)
      rw [ffmt_nan x (by omega)]; simp
theorem fts_len (x : Nat) : (ftS x).size ≤ 3000 := by
  have h := (ffmt_asc x).2
  unfold ftS
  split
  · rw [strOfI_size]; omega
  · have e : (strOfI (ffmt x) ++ ⟨#[46, 48]⟩ : ByteArray).size = (strOfI (ffmt x)).size + 2 := by rw [ByteArray.size_append]; rfl
    rw [e, strOfI_size]; omega
theorem order_zero (y : Nat) (h0 : y % 9223372036854775808 ≠ 0) : (FloatKind.f64.format.order y 0 != some .eq) = true := by
  have hz : FloatKind.f64.format.read 0 = .number false 0 (-1074) := by decide +kernel
  have h1 : FloatKind.f64.format.signWeight = 9223372036854775808 := by decide +kernel
  have h2 : FloatKind.f64.format.binade = 4503599627370496 := by decide +kernel
  unfold Ieee.Format.order
  rw [hz]
  have key : ∀ (s : Bool) (m : Nat) (i : Int), m ≠ 0 → ((Ieee.Datum.number s m i).order (.number false 0 (-1074)) != some .eq) = true := by
    intro s m i hm
    simp only [Ieee.Datum.order, Ieee.signed]
    have h3 : (m <<< (i - min i (-1074)).toNat) ≠ 0 := by
      rw [Nat.shiftLeft_eq]
      exact Nat.ne_of_gt (Nat.mul_pos (Nat.pos_of_ne_zero hm) (Nat.two_pow_pos _))
    generalize m <<< (i - min i (-1074)).toNat = a at h3
    rw [Nat.zero_shiftLeft]
    cases s
    · have : ¬ ((a : Int) < 0) := by omega
      have h4 : ¬ ((a : Int) = 0) := by omega
      simp [compare, compareOfLessAndEq, this, h4, h3]
    · have h5 : 0 < a := Nat.pos_of_ne_zero h3
      simp [compare, compareOfLessAndEq, h5]
  unfold Ieee.Format.read
  simp only [h1, h2]
  split
  · exact key _ _ _ h0
  · split
    · exact key _ _ _ (by omega)
    · split
      · cases (y / 9223372036854775808 % 2 == 1) <;> rfl
      · rfl
set_option maxRecDepth 100000 in
set_option maxHeartbeats 16000000 in
theorem texts_D (n : Int) (h0 : -9223372036854775808 ≤ n) (h1 : n ≤ 9223372036854775807) (y : Nat) (hy : y < 18446744073709551616) (h : y % 9223372036854775808 ≤ 9218868437227405312) (hz : y % 9223372036854775808 ≠ 0) (w : World) (ht : Tabs w) : Calls Tryz.prog 4 #[.int .i64 n, .float .f64 y] w fun e w' => e = .returned (.bool true) ∧ Below w.heap.size w w' := by
  have hne := order_zero y hz
  have heq : (FloatKind.f64.format.order y y == some .eq) = true := feq_numT y h
  have lx := Flo.canon_lt (x := y) hy
  obtain ⟨x, hcx⟩ : ∃ x, Flo.canon y = x := ⟨_, rfl⟩
  have hcc : Flo.canon x = x := by rw [← hcx, Flo.canon_canon]
  rw [hcx] at lx
  have HCX := Lib.hid hcx
  have HTI := Lib.hid (fun w ht => text_int w n h0 h1 ht)
  have HSI := Lib.hid (fun w ht => show_int w n h0 h1 ht)
  have HTF := Lib.hid (fun w ht => text_flo w x lx (ascii_all x) (by have := fts_len x; omega) ht)
  have HSF := Lib.hid (fun w ht => show_flo w x lx hcc ht)
  have HPT := Lib.hid (pt_any x)
  have hsz := fts_len x
  have HT := Lib.hid ht
  obtain ⟨s, hs⟩ : ∃ s, ftS x = s := ⟨_, rfl⟩
  rw [hs] at HTF HSF HPT hsz
  obtain ⟨d, hd⟩ : ∃ d, itoaS n = d := ⟨_, rfl⟩
  rw [hd] at HTI HSI
  clear hd hs hcx hcc lx hy h0 h1 ht h hz
  go_enter Tryz.func4, Tryz.ntmps4
  go_wp2_with fail
  go_at_call 5; refine (known_any _ HT.out).mono ?_; rintro e w1 ⟨rfl, hb1⟩
  have HB1 := Lib.hid hb1
  have HT1 := Lib.hid (tabs_keep HT.out hb1)
  clear hb1
  go_wp2_with fail
  go_at_call 12; refine (int_ref_any _ _).mono ?_; rintro e w2 ⟨rfl, hb1⟩
  have HB2 := Lib.hid (bel_step HB1.out hb1)
  have HT2 := Lib.hid (tabs_keep HT1.out hb1)
  clear hb1
  go_wp2_with fail
  go_at_call 11; refine (HTI.out _ HT2.out).mono ?_; rintro e w3 ⟨rfl, hb1⟩
  have HB3 := Lib.hid (bel_step HB2.out hb1)
  have HT3 := Lib.hid (tabs_keep HT2.out hb1)
  clear hb1
  go_wp2_with fail
  go_at_call 13; refine (float_ref_any _ _).mono ?_; rintro e w4 ⟨rfl, hb1⟩
  rw [HCX.out]
  have HB4 := Lib.hid (bel_step HB3.out hb1)
  have HT4 := Lib.hid (tabs_keep HT3.out hb1)
  clear hb1
  go_wp2_with fail
  go_at_call 11; refine (HTF.out _ HT4.out).mono ?_; rintro e w5 ⟨rfl, hb1⟩
  have HB5 := Lib.hid (bel_step HB4.out hb1)
  have HT5 := Lib.hid (tabs_keep HT4.out hb1)
  clear hb1
  go_wp2
  go_loop [7, 8] (fun v i => ∃ k : Nat, k ≤ s.size ∧ i = .int .i64 k ∧ v = .bool (ptS s k)) (fun _ i => s.size - (intOf i).toNat)
  case atStart => exact ⟨0, Nat.zero_le _, rfl, rfl⟩
  case round =>
    obtain ⟨k, hk, rfl, rfl⟩ := hrel
    by_cases hlt : k < s.size
    · have HSN := Lib.hid (ptS_snoc s k hlt)
      have hc0 : 0 ≤ (s[k].toNat : Int) := by omega
      cases hacc : ptS s k
      · have HN := Lib.hid (show ptS s (k + 1) = isPt (s[k].toNat : Int) by rw [HSN.out, hacc, Bool.false_or])
        clear hacc
        cases b1 : ((s[k].toNat : Int) == 46)
        · cases b2 : ((s[k].toNat : Int) == 101)
          · cases b3 : ((s[k].toNat : Int) == 78)
            · cases b4 : ((s[k].toNat : Int) == 73)
              · have HP := Lib.hid (show ptS s (k + 1) = false by rw [HN.out]; simp only [isPt, b1, b2, b3, b4]; rfl)
                go_wp2
                go_round
                case rel => exact ⟨k + 1, by omega, by go_num, by rw [HP.out]⟩
                case measure => simp [intOf]; omega
              · have HP := Lib.hid (show ptS s (k + 1) = true by rw [HN.out]; simp only [isPt, b1, b2, b3, b4]; rfl)
                go_wp2
                go_round
                case rel => exact ⟨k + 1, by omega, by go_num, by rw [HP.out]⟩
                case measure => simp [intOf]; omega
            · have HP := Lib.hid (show ptS s (k + 1) = true by rw [HN.out]; simp only [isPt, b1, b2, b3]; rfl)
              go_wp2
              go_round
              case rel => exact ⟨k + 1, by omega, by go_num, by rw [HP.out]⟩
              case measure => simp [intOf]; omega
          · have HP := Lib.hid (show ptS s (k + 1) = true by rw [HN.out]; simp only [isPt, b1, b2]; rfl)
            go_wp2
            go_round
            case rel => exact ⟨k + 1, by omega, by go_num, by rw [HP.out]⟩
            case measure => simp [intOf]; omega
        · have HP := Lib.hid (show ptS s (k + 1) = true by rw [HN.out]; simp only [isPt, b1]; rfl)
          go_wp2
          go_round
          case rel => exact ⟨k + 1, by omega, by go_num, by rw [HP.out]⟩
          case measure => simp [intOf]; omega
      · have HN := Lib.hid (show ptS s (k + 1) = true by rw [HSN.out, hacc]; rfl)
        clear hacc
        go_wp2
        go_round
        case rel => exact ⟨k + 1, by omega, by go_num, by rw [HN.out]⟩
        case measure => simp [intOf]; omega
    · obtain rfl : k = s.size := by omega
      rw [HPT.out]
      go_wp2_with fail
      go_at_call 12; refine (int_ref_any _ _).mono ?_; rintro e w6 ⟨rfl, hb1⟩
      have HB6 := Lib.hid (bel_step HB5.out hb1)
      have HT6 := Lib.hid (tabs_keep HT5.out hb1)
      clear hb1
      go_wp2_with fail
      go_at_call 14; refine (HSI.out _ HT6.out).mono ?_; rintro e w7 ⟨rfl, hb1⟩
      have HB7 := Lib.hid (bel_step HB6.out hb1)
      have HT7 := Lib.hid (tabs_keep HT6.out hb1)
      clear hb1
      go_wp2_with fail
      go_at_call 13; refine (float_ref_any _ _).mono ?_; rintro e w8 ⟨rfl, hb1⟩
      rw [HCX.out]
      have HB8 := Lib.hid (bel_step HB7.out hb1)
      have HT8 := Lib.hid (tabs_keep HT7.out hb1)
      clear hb1
      go_wp2_with fail
      go_at_call 14; refine (HSF.out _ HT8.out).mono ?_; rintro e w9 ⟨rfl, hb1⟩
      have HB9 := Lib.hid (bel_step HB8.out hb1)
      clear hb1
      go_wp2
      go_ret
      exact ⟨rfl, HB9.out⟩
set_option maxRecDepth 100000 in
set_option maxHeartbeats 16000000 in
theorem texts_N (n : Int) (h0 : -9223372036854775808 ≤ n) (h1 : n ≤ 9223372036854775807) (y : Nat) (hy : y < 18446744073709551616) (h : 9218868437227405312 < y % 9223372036854775808) (w : World) (ht : Tabs w) : Calls Tryz.prog 4 #[.int .i64 n, .float .f64 y] w fun e w' => e = .returned (.bool true) ∧ Below w.heap.size w w' := by
  have hne := order_zero y (by omega)
  have heq : (FloatKind.f64.format.order y y == some .eq) = false := feq_notT y h
  have lx := Flo.canon_lt (x := y) hy
  obtain ⟨x, hcx⟩ : ∃ x, Flo.canon y = x := ⟨_, rfl⟩
  have hcc : Flo.canon x = x := by rw [← hcx, Flo.canon_canon]
  rw [hcx] at lx
  have HCX := Lib.hid hcx
  have HTI := Lib.hid (fun w ht => text_int w n h0 h1 ht)
  have HSI := Lib.hid (fun w ht => show_int w n h0 h1 ht)
  have HTF := Lib.hid (fun w ht => text_flo w x lx (ascii_all x) (by have := fts_len x; omega) ht)
  have HSF := Lib.hid (fun w ht => show_flo w x lx hcc ht)
  have HPT := Lib.hid (pt_any x)
  have hsz := fts_len x
  have HT := Lib.hid ht
  obtain ⟨s, hs⟩ : ∃ s, ftS x = s := ⟨_, rfl⟩
  rw [hs] at HTF HSF HPT hsz
  have hsn : (s.toList == [78, 97, 78]) = true := by
    rw [← hs, ← hcx, Flo.canon_no (feq_notT y h)]
    decide +kernel
  obtain ⟨d, hd⟩ : ∃ d, itoaS n = d := ⟨_, rfl⟩
  rw [hd] at HTI HSI
  clear hd hs hcx hcc lx hy h0 h1 ht h
  go_enter Tryz.func4, Tryz.ntmps4
  go_wp2_with fail
  go_at_call 5; refine (known_any _ HT.out).mono ?_; rintro e w1 ⟨rfl, hb1⟩
  have HB1 := Lib.hid hb1
  have HT1 := Lib.hid (tabs_keep HT.out hb1)
  clear hb1
  go_wp2_with fail
  go_at_call 12; refine (int_ref_any _ _).mono ?_; rintro e w2 ⟨rfl, hb1⟩
  have HB2 := Lib.hid (bel_step HB1.out hb1)
  have HT2 := Lib.hid (tabs_keep HT1.out hb1)
  clear hb1
  go_wp2_with fail
  go_at_call 11; refine (HTI.out _ HT2.out).mono ?_; rintro e w3 ⟨rfl, hb1⟩
  have HB3 := Lib.hid (bel_step HB2.out hb1)
  have HT3 := Lib.hid (tabs_keep HT2.out hb1)
  clear hb1
  go_wp2_with fail
  go_at_call 13; refine (float_ref_any _ _).mono ?_; rintro e w4 ⟨rfl, hb1⟩
  rw [HCX.out]
  have HB4 := Lib.hid (bel_step HB3.out hb1)
  have HT4 := Lib.hid (tabs_keep HT3.out hb1)
  clear hb1
  go_wp2_with fail
  go_at_call 11; refine (HTF.out _ HT4.out).mono ?_; rintro e w5 ⟨rfl, hb1⟩
  have HB5 := Lib.hid (bel_step HB4.out hb1)
  have HT5 := Lib.hid (tabs_keep HT4.out hb1)
  clear hb1
  go_wp2
  go_loop [7, 8] (fun v i => ∃ k : Nat, k ≤ s.size ∧ i = .int .i64 k ∧ v = .bool (ptS s k)) (fun _ i => s.size - (intOf i).toNat)
  case atStart => exact ⟨0, Nat.zero_le _, rfl, rfl⟩
  case round =>
    obtain ⟨k, hk, rfl, rfl⟩ := hrel
    by_cases hlt : k < s.size
    · have HSN := Lib.hid (ptS_snoc s k hlt)
      have hc0 : 0 ≤ (s[k].toNat : Int) := by omega
      cases hacc : ptS s k
      · have HN := Lib.hid (show ptS s (k + 1) = isPt (s[k].toNat : Int) by rw [HSN.out, hacc, Bool.false_or])
        clear hacc
        cases b1 : ((s[k].toNat : Int) == 46)
        · cases b2 : ((s[k].toNat : Int) == 101)
          · cases b3 : ((s[k].toNat : Int) == 78)
            · cases b4 : ((s[k].toNat : Int) == 73)
              · have HP := Lib.hid (show ptS s (k + 1) = false by rw [HN.out]; simp only [isPt, b1, b2, b3, b4]; rfl)
                go_wp2
                go_round
                case rel => exact ⟨k + 1, by omega, by go_num, by rw [HP.out]⟩
                case measure => simp [intOf]; omega
              · have HP := Lib.hid (show ptS s (k + 1) = true by rw [HN.out]; simp only [isPt, b1, b2, b3, b4]; rfl)
                go_wp2
                go_round
                case rel => exact ⟨k + 1, by omega, by go_num, by rw [HP.out]⟩
                case measure => simp [intOf]; omega
            · have HP := Lib.hid (show ptS s (k + 1) = true by rw [HN.out]; simp only [isPt, b1, b2, b3]; rfl)
              go_wp2
              go_round
              case rel => exact ⟨k + 1, by omega, by go_num, by rw [HP.out]⟩
              case measure => simp [intOf]; omega
          · have HP := Lib.hid (show ptS s (k + 1) = true by rw [HN.out]; simp only [isPt, b1, b2]; rfl)
            go_wp2
            go_round
            case rel => exact ⟨k + 1, by omega, by go_num, by rw [HP.out]⟩
            case measure => simp [intOf]; omega
        · have HP := Lib.hid (show ptS s (k + 1) = true by rw [HN.out]; simp only [isPt, b1]; rfl)
          go_wp2
          go_round
          case rel => exact ⟨k + 1, by omega, by go_num, by rw [HP.out]⟩
          case measure => simp [intOf]; omega
      · have HN := Lib.hid (show ptS s (k + 1) = true by rw [HSN.out, hacc]; rfl)
        clear hacc
        go_wp2
        go_round
        case rel => exact ⟨k + 1, by omega, by go_num, by rw [HN.out]⟩
        case measure => simp [intOf]; omega
    · obtain rfl : k = s.size := by omega
      rw [HPT.out]
      go_wp2_with fail
      go_at_call 12; refine (int_ref_any _ _).mono ?_; rintro e w6 ⟨rfl, hb1⟩
      have HB6 := Lib.hid (bel_step HB5.out hb1)
      have HT6 := Lib.hid (tabs_keep HT5.out hb1)
      clear hb1
      go_wp2_with fail
      go_at_call 14; refine (HSI.out _ HT6.out).mono ?_; rintro e w7 ⟨rfl, hb1⟩
      have HB7 := Lib.hid (bel_step HB6.out hb1)
      have HT7 := Lib.hid (tabs_keep HT6.out hb1)
      clear hb1
      go_wp2_with fail
      go_at_call 13; refine (float_ref_any _ _).mono ?_; rintro e w8 ⟨rfl, hb1⟩
      rw [HCX.out]
      have HB8 := Lib.hid (bel_step HB7.out hb1)
      have HT8 := Lib.hid (tabs_keep HT7.out hb1)
      clear hb1
      go_wp2_with fail
      go_at_call 14; refine (HSF.out _ HT8.out).mono ?_; rintro e w9 ⟨rfl, hb1⟩
      have HB9 := Lib.hid (bel_step HB8.out hb1)
      clear hb1
      go_wp2
      go_ret
      exact ⟨rfl, HB9.out⟩
set_option maxRecDepth 100000 in
set_option maxHeartbeats 16000000 in
theorem texts_P (n : Int) (h0 : -9223372036854775808 ≤ n) (h1 : n ≤ 9223372036854775807) (y : Nat) (hy : y < 18446744073709551616) (h : y = 0) (w : World) (ht : Tabs w) : Calls Tryz.prog 4 #[.int .i64 n, .float .f64 y] w fun e w' => e = .returned (.bool true) ∧ Below w.heap.size w w' := by
  have hne : (FloatKind.f64.format.order y 0 != some .eq) = false := by rw [h]; decide +kernel
  have heq : (FloatKind.f64.format.order y y == some .eq) = true := by rw [h]; decide +kernel
  have lx := Flo.canon_lt (x := y) hy
  obtain ⟨x, hcx⟩ : ∃ x, Flo.canon y = x := ⟨_, rfl⟩
  have hcc : Flo.canon x = x := by rw [← hcx, Flo.canon_canon]
  rw [hcx] at lx
  have HCX := Lib.hid hcx
  have HTI := Lib.hid (fun w ht => text_int w n h0 h1 ht)
  have HSI := Lib.hid (fun w ht => show_int w n h0 h1 ht)
  have HTF := Lib.hid (fun w ht => text_flo w x lx (ascii_all x) (by have := fts_len x; omega) ht)
  have HSF := Lib.hid (fun w ht => show_flo w x lx hcc ht)
  have HPT := Lib.hid (pt_any x)
  have hsz := fts_len x
  have HT := Lib.hid ht
  obtain ⟨s, hs⟩ : ∃ s, ftS x = s := ⟨_, rfl⟩
  rw [hs] at HTF HSF HPT hsz
  have hs0 : (s.toList == [48, 46, 48]) = true := by
    rw [← hs, ← hcx, h]
    decide +kernel
  obtain ⟨d, hd⟩ : ∃ d, itoaS n = d := ⟨_, rfl⟩
  rw [hd] at HTI HSI
  clear hd hs hcx hcc lx hy h0 h1 ht h
  go_enter Tryz.func4, Tryz.ntmps4
  go_wp2_with fail
  go_at_call 5; refine (known_any _ HT.out).mono ?_; rintro e w1 ⟨rfl, hb1⟩
  have HB1 := Lib.hid hb1
  have HT1 := Lib.hid (tabs_keep HT.out hb1)
  clear hb1
  go_wp2_with fail
  go_at_call 12; refine (int_ref_any _ _).mono ?_; rintro e w2 ⟨rfl, hb1⟩
  have HB2 := Lib.hid (bel_step HB1.out hb1)
  have HT2 := Lib.hid (tabs_keep HT1.out hb1)
  clear hb1
  go_wp2_with fail
  go_at_call 11; refine (HTI.out _ HT2.out).mono ?_; rintro e w3 ⟨rfl, hb1⟩
  have HB3 := Lib.hid (bel_step HB2.out hb1)
  have HT3 := Lib.hid (tabs_keep HT2.out hb1)
  clear hb1
  go_wp2_with fail
  go_at_call 13; refine (float_ref_any _ _).mono ?_; rintro e w4 ⟨rfl, hb1⟩
  rw [HCX.out]
  have HB4 := Lib.hid (bel_step HB3.out hb1)
  have HT4 := Lib.hid (tabs_keep HT3.out hb1)
  clear hb1
  go_wp2_with fail
  go_at_call 11; refine (HTF.out _ HT4.out).mono ?_; rintro e w5 ⟨rfl, hb1⟩
  have HB5 := Lib.hid (bel_step HB4.out hb1)
  have HT5 := Lib.hid (tabs_keep HT4.out hb1)
  clear hb1
  go_wp2
  go_loop [7, 8] (fun v i => ∃ k : Nat, k ≤ s.size ∧ i = .int .i64 k ∧ v = .bool (ptS s k)) (fun _ i => s.size - (intOf i).toNat)
  case atStart => exact ⟨0, Nat.zero_le _, rfl, rfl⟩
  case round =>
    obtain ⟨k, hk, rfl, rfl⟩ := hrel
    by_cases hlt : k < s.size
    · have HSN := Lib.hid (ptS_snoc s k hlt)
      have hc0 : 0 ≤ (s[k].toNat : Int) := by omega
      cases hacc : ptS s k
      · have HN := Lib.hid (show ptS s (k + 1) = isPt (s[k].toNat : Int) by rw [HSN.out, hacc, Bool.false_or])
        clear hacc
        cases b1 : ((s[k].toNat : Int) == 46)
        · cases b2 : ((s[k].toNat : Int) == 101)
          · cases b3 : ((s[k].toNat : Int) == 78)
            · cases b4 : ((s[k].toNat : Int) == 73)
              · have HP := Lib.hid (show ptS s (k + 1) = false by rw [HN.out]; simp only [isPt, b1, b2, b3, b4]; rfl)
                go_wp2
                go_round
                case rel => exact ⟨k + 1, by omega, by go_num, by rw [HP.out]⟩
                case measure => simp [intOf]; omega
              · have HP := Lib.hid (show ptS s (k + 1) = true by rw [HN.out]; simp only [isPt, b1, b2, b3, b4]; rfl)
                go_wp2
                go_round
                case rel => exact ⟨k + 1, by omega, by go_num, by rw [HP.out]⟩
                case measure => simp [intOf]; omega
            · have HP := Lib.hid (show ptS s (k + 1) = true by rw [HN.out]; simp only [isPt, b1, b2, b3]; rfl)
              go_wp2
              go_round
              case rel => exact ⟨k + 1, by omega, by go_num, by rw [HP.out]⟩
              case measure => simp [intOf]; omega
          · have HP := Lib.hid (show ptS s (k + 1) = true by rw [HN.out]; simp only [isPt, b1, b2]; rfl)
            go_wp2
            go_round
            case rel => exact ⟨k + 1, by omega, by go_num, by rw [HP.out]⟩
            case measure => simp [intOf]; omega
        · have HP := Lib.hid (show ptS s (k + 1) = true by rw [HN.out]; simp only [isPt, b1]; rfl)
          go_wp2
          go_round
          case rel => exact ⟨k + 1, by omega, by go_num, by rw [HP.out]⟩
          case measure => simp [intOf]; omega
      · have HN := Lib.hid (show ptS s (k + 1) = true by rw [HSN.out, hacc]; rfl)
        clear hacc
        go_wp2
        go_round
        case rel => exact ⟨k + 1, by omega, by go_num, by rw [HN.out]⟩
        case measure => simp [intOf]; omega
    · obtain rfl : k = s.size := by omega
      rw [HPT.out]
      go_wp2_with fail
      go_at_call 12; refine (int_ref_any _ _).mono ?_; rintro e w6 ⟨rfl, hb1⟩
      have HB6 := Lib.hid (bel_step HB5.out hb1)
      have HT6 := Lib.hid (tabs_keep HT5.out hb1)
      clear hb1
      go_wp2_with fail
      go_at_call 14; refine (HSI.out _ HT6.out).mono ?_; rintro e w7 ⟨rfl, hb1⟩
      have HB7 := Lib.hid (bel_step HB6.out hb1)
      have HT7 := Lib.hid (tabs_keep HT6.out hb1)
      clear hb1
      go_wp2_with fail
      go_at_call 13; refine (float_ref_any _ _).mono ?_; rintro e w8 ⟨rfl, hb1⟩
      rw [HCX.out]
      have HB8 := Lib.hid (bel_step HB7.out hb1)
      have HT8 := Lib.hid (tabs_keep HT7.out hb1)
      clear hb1
      go_wp2_with fail
      go_at_call 14; refine (HSF.out _ HT8.out).mono ?_; rintro e w9 ⟨rfl, hb1⟩
      have HB9 := Lib.hid (bel_step HB8.out hb1)
      clear hb1
      go_wp2
      go_ret
      exact ⟨rfl, HB9.out⟩
set_option maxRecDepth 100000 in
set_option maxHeartbeats 16000000 in
theorem texts_M (n : Int) (h0 : -9223372036854775808 ≤ n) (h1 : n ≤ 9223372036854775807) (y : Nat) (hy : y < 18446744073709551616) (h : y = 9223372036854775808) (w : World) (ht : Tabs w) : Calls Tryz.prog 4 #[.int .i64 n, .float .f64 y] w fun e w' => e = .returned (.bool true) ∧ Below w.heap.size w w' := by
  have hne : (FloatKind.f64.format.order y 0 != some .eq) = false := by rw [h]; decide +kernel
  have heq : (FloatKind.f64.format.order y y == some .eq) = true := by rw [h]; decide +kernel
  have lx := Flo.canon_lt (x := y) hy
  obtain ⟨x, hcx⟩ : ∃ x, Flo.canon y = x := ⟨_, rfl⟩
  have hcc : Flo.canon x = x := by rw [← hcx, Flo.canon_canon]
  rw [hcx] at lx
  have HCX := Lib.hid hcx
  have HTI := Lib.hid (fun w ht => text_int w n h0 h1 ht)
  have HSI := Lib.hid (fun w ht => show_int w n h0 h1 ht)
  have HTF := Lib.hid (fun w ht => text_flo w x lx (ascii_all x) (by have := fts_len x; omega) ht)
  have HSF := Lib.hid (fun w ht => show_flo w x lx hcc ht)
  have HPT := Lib.hid (pt_any x)
  have hsz := fts_len x
  have HT := Lib.hid ht
  obtain ⟨s, hs⟩ : ∃ s, ftS x = s := ⟨_, rfl⟩
  rw [hs] at HTF HSF HPT hsz
  have hs0 : (s.toList == [48, 46, 48]) = false := by
    rw [← hs, ← hcx, h]
    decide +kernel
  have hs1 : (s.toList == [45, 48, 46, 48]) = true := by
    rw [← hs, ← hcx, h]
    decide +kernel
  obtain ⟨d, hd⟩ : ∃ d, itoaS n = d := ⟨_, rfl⟩
  rw [hd] at HTI HSI
  clear hd hs hcx hcc lx hy h0 h1 ht h
  go_enter Tryz.func4, Tryz.ntmps4
  go_wp2_with fail
  go_at_call 5; refine (known_any _ HT.out).mono ?_; rintro e w1 ⟨rfl, hb1⟩
  have HB1 := Lib.hid hb1
  have HT1 := Lib.hid (tabs_keep HT.out hb1)
  clear hb1
  go_wp2_with fail
  go_at_call 12; refine (int_ref_any _ _).mono ?_; rintro e w2 ⟨rfl, hb1⟩
  have HB2 := Lib.hid (bel_step HB1.out hb1)
  have HT2 := Lib.hid (tabs_keep HT1.out hb1)
  clear hb1
  go_wp2_with fail
  go_at_call 11; refine (HTI.out _ HT2.out).mono ?_; rintro e w3 ⟨rfl, hb1⟩
  have HB3 := Lib.hid (bel_step HB2.out hb1)
  have HT3 := Lib.hid (tabs_keep HT2.out hb1)
  clear hb1
  go_wp2_with fail
  go_at_call 13; refine (float_ref_any _ _).mono ?_; rintro e w4 ⟨rfl, hb1⟩
  rw [HCX.out]
  have HB4 := Lib.hid (bel_step HB3.out hb1)
  have HT4 := Lib.hid (tabs_keep HT3.out hb1)
  clear hb1
  go_wp2_with fail
  go_at_call 11; refine (HTF.out _ HT4.out).mono ?_; rintro e w5 ⟨rfl, hb1⟩
  have HB5 := Lib.hid (bel_step HB4.out hb1)
  have HT5 := Lib.hid (tabs_keep HT4.out hb1)
  clear hb1
  go_wp2
  go_loop [7, 8] (fun v i => ∃ k : Nat, k ≤ s.size ∧ i = .int .i64 k ∧ v = .bool (ptS s k)) (fun _ i => s.size - (intOf i).toNat)
  case atStart => exact ⟨0, Nat.zero_le _, rfl, rfl⟩
  case round =>
    obtain ⟨k, hk, rfl, rfl⟩ := hrel
    by_cases hlt : k < s.size
    · have HSN := Lib.hid (ptS_snoc s k hlt)
      have hc0 : 0 ≤ (s[k].toNat : Int) := by omega
      cases hacc : ptS s k
      · have HN := Lib.hid (show ptS s (k + 1) = isPt (s[k].toNat : Int) by rw [HSN.out, hacc, Bool.false_or])
        clear hacc
        cases b1 : ((s[k].toNat : Int) == 46)
        · cases b2 : ((s[k].toNat : Int) == 101)
          · cases b3 : ((s[k].toNat : Int) == 78)
            · cases b4 : ((s[k].toNat : Int) == 73)
              · have HP := Lib.hid (show ptS s (k + 1) = false by rw [HN.out]; simp only [isPt, b1, b2, b3, b4]; rfl)
                go_wp2
                go_round
                case rel => exact ⟨k + 1, by omega, by go_num, by rw [HP.out]⟩
                case measure => simp [intOf]; omega
              · have HP := Lib.hid (show ptS s (k + 1) = true by rw [HN.out]; simp only [isPt, b1, b2, b3, b4]; rfl)
                go_wp2
                go_round
                case rel => exact ⟨k + 1, by omega, by go_num, by rw [HP.out]⟩
                case measure => simp [intOf]; omega
            · have HP := Lib.hid (show ptS s (k + 1) = true by rw [HN.out]; simp only [isPt, b1, b2, b3]; rfl)
              go_wp2
              go_round
              case rel => exact ⟨k + 1, by omega, by go_num, by rw [HP.out]⟩
              case measure => simp [intOf]; omega
          · have HP := Lib.hid (show ptS s (k + 1) = true by rw [HN.out]; simp only [isPt, b1, b2]; rfl)
            go_wp2
            go_round
            case rel => exact ⟨k + 1, by omega, by go_num, by rw [HP.out]⟩
            case measure => simp [intOf]; omega
        · have HP := Lib.hid (show ptS s (k + 1) = true by rw [HN.out]; simp only [isPt, b1]; rfl)
          go_wp2
          go_round
          case rel => exact ⟨k + 1, by omega, by go_num, by rw [HP.out]⟩
          case measure => simp [intOf]; omega
      · have HN := Lib.hid (show ptS s (k + 1) = true by rw [HSN.out, hacc]; rfl)
        clear hacc
        go_wp2
        go_round
        case rel => exact ⟨k + 1, by omega, by go_num, by rw [HN.out]⟩
        case measure => simp [intOf]; omega
    · obtain rfl : k = s.size := by omega
      rw [HPT.out]
      go_wp2_with fail
      go_at_call 12; refine (int_ref_any _ _).mono ?_; rintro e w6 ⟨rfl, hb1⟩
      have HB6 := Lib.hid (bel_step HB5.out hb1)
      have HT6 := Lib.hid (tabs_keep HT5.out hb1)
      clear hb1
      go_wp2_with fail
      go_at_call 14; refine (HSI.out _ HT6.out).mono ?_; rintro e w7 ⟨rfl, hb1⟩
      have HB7 := Lib.hid (bel_step HB6.out hb1)
      have HT7 := Lib.hid (tabs_keep HT6.out hb1)
      clear hb1
      go_wp2_with fail
      go_at_call 13; refine (float_ref_any _ _).mono ?_; rintro e w8 ⟨rfl, hb1⟩
      rw [HCX.out]
      have HB8 := Lib.hid (bel_step HB7.out hb1)
      have HT8 := Lib.hid (tabs_keep HT7.out hb1)
      clear hb1
      go_wp2_with fail
      go_at_call 14; refine (HSF.out _ HT8.out).mono ?_; rintro e w9 ⟨rfl, hb1⟩
      have HB9 := Lib.hid (bel_step HB8.out hb1)
      clear hb1
      go_wp2
      go_ret
      exact ⟨rfl, HB9.out⟩
theorem texts_any (n : Int) (hn : (Lit.int .i64 n).wf = true) (y : Nat) (hy : y < 18446744073709551616) (w : World) (ht : Tabs w) : Calls Tryz.prog 4 #[.int .i64 n, .float .f64 y] w fun e w' => e = .returned (.bool true) ∧ Below w.heap.size w w' := by
  obtain ⟨h0, h1⟩ := ok_of_wf hn
  by_cases ha : y = 0
  · exact texts_P n h0 h1 y hy ha w ht
  by_cases hb : y = 9223372036854775808
  · exact texts_M n h0 h1 y hy hb w ht
  by_cases hc : 9218868437227405312 < y % 9223372036854775808
  · exact texts_N n h0 h1 y hy hc w ht
  · exact texts_D n h0 h1 y hy (by omega) (by omega) w ht
theorem texts_law (n : Int) (y : Nat) (hn : (Lit.int .i64 n).wf = true) (hy : y < 18446744073709551616) (w : World) (ht : Tabs w) : Calls Tryz.prog 4 #[.int .i64 n, .float .f64 y] w fun e w' => e = .returned (.bool true) ∧ Below w.heap.size w w' := texts_any n hn y hy w ht
end Num
end Go.Proofs.YtahcgdjcjapnkaaGreatDoor
