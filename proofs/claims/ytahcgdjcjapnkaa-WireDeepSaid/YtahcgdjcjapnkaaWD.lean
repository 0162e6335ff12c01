/-
  WireDeep: the walk.
-/
import Derived.Test.YtahcgdjcjapnkaaWS
import Derived.Outline
namespace Go.Proofs.Ytahcgdjcjapnkaa
open Go.RowKit
namespace Num
open Ints
set_option linter.unusedSimpArgs false
set_option linter.unusedVariables false
set_option maxRecDepth 100000 in
set_option maxHeartbeats 16000000 in
theorem deep_OO (n : Int) (h0 : 0 ≤ n) (h1 : n < 256) (M : Nat) (hM : M < 256) (D : Nat) (hD : n % 5 = (D : Int)) (hD4 : D ≤ 4) (hd : (D : Int) ≤ 2) (hm : (M : Int) ≤ 64) (w : World) :
    Calls Try.prog 7 #[.int .u8 n, .int .u8 M] w fun e w' => e = .returned (.bool true) ∧ Below w.heap.size w w' := by
  have hD2 : n.tmod 5 = (D : Int) := by rw [Int.tmod_eq_emod_of_nonneg h0]; exact hD
  have hD0 : (0 : Int) ≤ (D : Int) := by omega
  have hDb : (D : Int) ≤ 4 := by omega
  have hM0 : (0 : Int) ≤ (M : Int) := by omega
  have hMb : (M : Int) < 256 := by omega
  go_enter Try.func7, Try.ntmps7
  go_wp2_with fail
  go_at_call 9; refine (known_any _).mono ?_; rintro e w1 ⟨rfl, hb1⟩
  have HB1 := Lib.hid hb1
  clear hb1
  go_wp2
  clear hD hD2 h0 h1
  go_loopw [6, 7] (fun v i wr => ∃ (k l' : Nat) (p' : Option Addr) (c' : Nat), k ≤ 6 + D ∧ i = .int .i64 (k : Int) ∧ v = .slice p' l' c' ∧ l' = 2 * k ∧ OwB w1 wr p' l' c' (nestP k)) (fun _ i _ => 6 + D - (intOf i).toNat)
  case atStart => exact ⟨0, 0, none, 0, Nat.zero_le _, rfl, rfl, rfl, ow_nil _⟩
  case round =>
    obtain ⟨k, l', p', c', hk, rfl, rfl, hl', ho⟩ := hrel
    have HO := Lib.hid ho
    have HL' := Lib.hid hl'
    have hlb : l' ≤ 100 := by omega
    clear ho hl'
    by_cases hlt : k < 6 + D
    · have hlt' : (k : Int) < 8 + ((D : Int) - 2) := by omega
      go_wp2_with (at_builtin; refine wp_ob2 rfl _ _ rfl w1 wr p' l' c' (nestP k) 4 1 rfl rfl HO.out (by omega) ?_; intro p2 c2 w2 ho2 _)
      have HO2 := Lib.hid ho2
      clear ho2
      go_roundw
      case rel => exact ⟨k + 1, l' + 2, p2, c2, by omega, by go_num, rfl, by have := HL'.out; omega, HO2.out⟩
      case measure => simp [intOf]; omega
    · obtain rfl : k = 6 + D := by omega
      have hlt' : ¬ (((6 + D : Nat) : Int) < 8 + ((D : Int) - 2)) := by omega
      have HL := Lib.hid (show l' + 1 = 2 * (6 + D) + 1 by have := HL'.out; omega)
      go_wp2_with (at_builtin; refine wp_ob1 rfl _ _ rfl w1 wr p' l' c' (nestP (6 + D)) 0 rfl rfl HO.out (by omega) ?_; intro p2 c2 w2 ho2 _; have HO1 := Lib.hid ho2; clear ho2)
      go_at_call 13; refine (read_nest_ok _ _ _ _ (6 + D) (by omega) HL.out (rd_of_ow HO1.out)).mono ?_; rintro e w4 ⟨K, I, F, Zs, q, a, d, rfl, hb4⟩
      have HB4 := Lib.hid (bel_alloc (bel_step (bel_step HB1.out (ow_bel HO1.out)) hb4) (.cells #[.int .i64 K, .int .i64 I, .float .f64 F, .string Zs, .slice q a d] 26))
      clear hb4
      have HZ0 := Lib.hid (rd_lit2 (w4.alloc (.cells #[.int .i64 K, .int .i64 I, .float .f64 F, .string Zs, .slice q a d] 26)) 4 (M : Int))
      simp only [World.size_alloc] at HZ0
      go_wp2_with (at_builtin; obtain ⟨p5, c5, w5, hr5, hrd5, hb5⟩ := run_zeros _ _ 4 (M : Int) M (by omega) HZ0.out; have HZ := Lib.hid hrd5; have HB5 := Lib.hid (bel_step (bel_alloc HB4.out (.cells #[.int .u8 4, .int .u8 M] 5)) hb5); clear hrd5 hb5; refine Lib.wpList_append_run _ rfl _ _ _ _ rfl _ _ rfl rfl _ _ hr5 ?_; clear hr5)
      go_at_call 13; refine (read_nils_ok _ _ _ M (by omega) HZ.out).mono ?_; rintro e w6 ⟨q6, d6, rfl, hb6⟩
      have HB6 := Lib.hid (bel_alloc (bel_step HB5.out hb6) (.cells #[.int .i64 4, .int .i64 0, .float .f64 0, .string ⟨#[]⟩, .slice q6 M d6] 26))
      clear hb6
      go_wp2
      go_ret
      exact ⟨rfl, HB6.out⟩
set_option maxRecDepth 100000 in
set_option maxHeartbeats 16000000 in
theorem deep_ON (n : Int) (h0 : 0 ≤ n) (h1 : n < 256) (M : Nat) (hM : M < 256) (D : Nat) (hD : n % 5 = (D : Int)) (hD4 : D ≤ 4) (hd : (D : Int) ≤ 2) (hm : 64 < (M : Int)) (w : World) :
    Calls Try.prog 7 #[.int .u8 n, .int .u8 M] w fun e w' => e = .returned (.bool true) ∧ Below w.heap.size w w' := by
  have hD2 : n.tmod 5 = (D : Int) := by rw [Int.tmod_eq_emod_of_nonneg h0]; exact hD
  have hD0 : (0 : Int) ≤ (D : Int) := by omega
  have hDb : (D : Int) ≤ 4 := by omega
  have hM0 : (0 : Int) ≤ (M : Int) := by omega
  have hMb : (M : Int) < 256 := by omega
  have hmf : decide ((M : Int) ≤ 64) = false := by simp; omega
  go_enter Try.func7, Try.ntmps7
  go_wp2_with fail
  go_at_call 9; refine (known_any _).mono ?_; rintro e w1 ⟨rfl, hb1⟩
  have HB1 := Lib.hid hb1
  clear hb1
  go_wp2
  clear hD hD2 h0 h1
  go_loopw [6, 7] (fun v i wr => ∃ (k l' : Nat) (p' : Option Addr) (c' : Nat), k ≤ 6 + D ∧ i = .int .i64 (k : Int) ∧ v = .slice p' l' c' ∧ l' = 2 * k ∧ OwB w1 wr p' l' c' (nestP k)) (fun _ i _ => 6 + D - (intOf i).toNat)
  case atStart => exact ⟨0, 0, none, 0, Nat.zero_le _, rfl, rfl, rfl, ow_nil _⟩
  case round =>
    obtain ⟨k, l', p', c', hk, rfl, rfl, hl', ho⟩ := hrel
    have HO := Lib.hid ho
    have HL' := Lib.hid hl'
    have hlb : l' ≤ 100 := by omega
    clear ho hl'
    by_cases hlt : k < 6 + D
    · have hlt' : (k : Int) < 8 + ((D : Int) - 2) := by omega
      go_wp2_with (at_builtin; refine wp_ob2 rfl _ _ rfl w1 wr p' l' c' (nestP k) 4 1 rfl rfl HO.out (by omega) ?_; intro p2 c2 w2 ho2 _)
      have HO2 := Lib.hid ho2
      clear ho2
      go_roundw
      case rel => exact ⟨k + 1, l' + 2, p2, c2, by omega, by go_num, rfl, by have := HL'.out; omega, HO2.out⟩
      case measure => simp [intOf]; omega
    · obtain rfl : k = 6 + D := by omega
      have hlt' : ¬ (((6 + D : Nat) : Int) < 8 + ((D : Int) - 2)) := by omega
      have HL := Lib.hid (show l' + 1 = 2 * (6 + D) + 1 by have := HL'.out; omega)
      go_wp2_with (at_builtin; refine wp_ob1 rfl _ _ rfl w1 wr p' l' c' (nestP (6 + D)) 0 rfl rfl HO.out (by omega) ?_; intro p2 c2 w2 ho2 _; have HO1 := Lib.hid ho2; clear ho2)
      go_at_call 13; refine (read_nest_ok _ _ _ _ (6 + D) (by omega) HL.out (rd_of_ow HO1.out)).mono ?_; rintro e w4 ⟨K, I, F, Zs, q, a, d, rfl, hb4⟩
      have HB4 := Lib.hid (bel_alloc (bel_step (bel_step HB1.out (ow_bel HO1.out)) hb4) (.cells #[.int .i64 K, .int .i64 I, .float .f64 F, .string Zs, .slice q a d] 26))
      clear hb4
      have HZ0 := Lib.hid (rd_lit2 (w4.alloc (.cells #[.int .i64 K, .int .i64 I, .float .f64 F, .string Zs, .slice q a d] 26)) 4 (M : Int))
      simp only [World.size_alloc] at HZ0
      go_wp2_with (at_builtin; obtain ⟨p5, c5, w5, hr5, hrd5, hb5⟩ := run_zeros _ _ 4 (M : Int) M (by omega) HZ0.out; have HZ := Lib.hid hrd5; have HB5 := Lib.hid (bel_step (bel_alloc HB4.out (.cells #[.int .u8 4, .int .u8 M] 5)) hb5); clear hrd5 hb5; refine Lib.wpList_append_run _ rfl _ _ _ _ rfl _ _ rfl rfl _ _ hr5 ?_; clear hr5)
      go_at_call 13; refine (read_nils_bad _ _ _ M (by omega) (by omega) HZ.out).mono ?_; rintro e w6 ⟨rfl, hb6⟩
      have HB6 := Lib.hid (bel_alloc (bel_step HB5.out hb6) (.cells #[.int .i64 0, .int .i64 0, .float .f64 0, .string ⟨#[]⟩, .slice none 0 0] 26))
      clear hb6
      go_wp2
      go_ret
      exact ⟨rfl, HB6.out⟩
set_option maxRecDepth 100000 in
set_option maxHeartbeats 16000000 in
theorem deep_NO (n : Int) (h0 : 0 ≤ n) (h1 : n < 256) (M : Nat) (hM : M < 256) (D : Nat) (hD : n % 5 = (D : Int)) (hD4 : D ≤ 4) (hd : 2 < (D : Int)) (hm : (M : Int) ≤ 64) (w : World) :
    Calls Try.prog 7 #[.int .u8 n, .int .u8 M] w fun e w' => e = .returned (.bool true) ∧ Below w.heap.size w w' := by
  have hD2 : n.tmod 5 = (D : Int) := by rw [Int.tmod_eq_emod_of_nonneg h0]; exact hD
  have hD0 : (0 : Int) ≤ (D : Int) := by omega
  have hDb : (D : Int) ≤ 4 := by omega
  have hM0 : (0 : Int) ≤ (M : Int) := by omega
  have hMb : (M : Int) < 256 := by omega
  have hdf : decide ((D : Int) - 2 ≤ 0) = false := by simp; omega
  have hdg : decide ((D : Int) ≤ 2) = false := by simp; omega
  go_enter Try.func7, Try.ntmps7
  go_wp2_with fail
  go_at_call 9; refine (known_any _).mono ?_; rintro e w1 ⟨rfl, hb1⟩
  have HB1 := Lib.hid hb1
  clear hb1
  go_wp2
  clear hD hD2 h0 h1
  go_loopw [6, 7] (fun v i wr => ∃ (k l' : Nat) (p' : Option Addr) (c' : Nat), k ≤ 6 + D ∧ i = .int .i64 (k : Int) ∧ v = .slice p' l' c' ∧ l' = 2 * k ∧ OwB w1 wr p' l' c' (nestP k)) (fun _ i _ => 6 + D - (intOf i).toNat)
  case atStart => exact ⟨0, 0, none, 0, Nat.zero_le _, rfl, rfl, rfl, ow_nil _⟩
  case round =>
    obtain ⟨k, l', p', c', hk, rfl, rfl, hl', ho⟩ := hrel
    have HO := Lib.hid ho
    have HL' := Lib.hid hl'
    have hlb : l' ≤ 100 := by omega
    clear ho hl'
    by_cases hlt : k < 6 + D
    · have hlt' : (k : Int) < 8 + ((D : Int) - 2) := by omega
      go_wp2_with (at_builtin; refine wp_ob2 rfl _ _ rfl w1 wr p' l' c' (nestP k) 4 1 rfl rfl HO.out (by omega) ?_; intro p2 c2 w2 ho2 _)
      have HO2 := Lib.hid ho2
      clear ho2
      go_roundw
      case rel => exact ⟨k + 1, l' + 2, p2, c2, by omega, by go_num, rfl, by have := HL'.out; omega, HO2.out⟩
      case measure => simp [intOf]; omega
    · obtain rfl : k = 6 + D := by omega
      have hlt' : ¬ (((6 + D : Nat) : Int) < 8 + ((D : Int) - 2)) := by omega
      have HL := Lib.hid (show l' + 1 = 2 * (6 + D) + 1 by have := HL'.out; omega)
      go_wp2_with (at_builtin; refine wp_ob1 rfl _ _ rfl w1 wr p' l' c' (nestP (6 + D)) 0 rfl rfl HO.out (by omega) ?_; intro p2 c2 w2 ho2 _; have HO1 := Lib.hid ho2; clear ho2)
      go_at_call 13; refine (read_nest_bad _ _ _ _ (6 + D) (by omega) (by omega) HL.out (rd_of_ow HO1.out)).mono ?_; rintro e w4 ⟨rfl, hb4⟩
      have HB4 := Lib.hid (bel_alloc (bel_step (bel_step HB1.out (ow_bel HO1.out)) hb4) (.cells #[.int .i64 0, .int .i64 0, .float .f64 0, .string ⟨#[]⟩, .slice none 0 0] 26))
      clear hb4
      have HZ0 := Lib.hid (rd_lit2 (w4.alloc (.cells #[.int .i64 0, .int .i64 0, .float .f64 0, .string ⟨#[]⟩, .slice none 0 0] 26)) 4 (M : Int))
      simp only [World.size_alloc] at HZ0
      go_wp2_with (at_builtin; obtain ⟨p5, c5, w5, hr5, hrd5, hb5⟩ := run_zeros _ _ 4 (M : Int) M (by omega) HZ0.out; have HZ := Lib.hid hrd5; have HB5 := Lib.hid (bel_step (bel_alloc HB4.out (.cells #[.int .u8 4, .int .u8 M] 5)) hb5); clear hrd5 hb5; refine Lib.wpList_append_run _ rfl _ _ _ _ rfl _ _ rfl rfl _ _ hr5 ?_; clear hr5)
      go_at_call 13; refine (read_nils_ok _ _ _ M (by omega) HZ.out).mono ?_; rintro e w6 ⟨q6, d6, rfl, hb6⟩
      have HB6 := Lib.hid (bel_alloc (bel_step HB5.out hb6) (.cells #[.int .i64 4, .int .i64 0, .float .f64 0, .string ⟨#[]⟩, .slice q6 M d6] 26))
      clear hb6
      go_wp2
      go_ret
      exact ⟨rfl, HB6.out⟩
set_option maxRecDepth 100000 in
set_option maxHeartbeats 16000000 in
theorem deep_NN (n : Int) (h0 : 0 ≤ n) (h1 : n < 256) (M : Nat) (hM : M < 256) (D : Nat) (hD : n % 5 = (D : Int)) (hD4 : D ≤ 4) (hd : 2 < (D : Int)) (hm : 64 < (M : Int)) (w : World) :
    Calls Try.prog 7 #[.int .u8 n, .int .u8 M] w fun e w' => e = .returned (.bool true) ∧ Below w.heap.size w w' := by
  have hD2 : n.tmod 5 = (D : Int) := by rw [Int.tmod_eq_emod_of_nonneg h0]; exact hD
  have hD0 : (0 : Int) ≤ (D : Int) := by omega
  have hDb : (D : Int) ≤ 4 := by omega
  have hM0 : (0 : Int) ≤ (M : Int) := by omega
  have hMb : (M : Int) < 256 := by omega
  have hdf : decide ((D : Int) - 2 ≤ 0) = false := by simp; omega
  have hdg : decide ((D : Int) ≤ 2) = false := by simp; omega
  have hmf : decide ((M : Int) ≤ 64) = false := by simp; omega
  go_enter Try.func7, Try.ntmps7
  go_wp2_with fail
  go_at_call 9; refine (known_any _).mono ?_; rintro e w1 ⟨rfl, hb1⟩
  have HB1 := Lib.hid hb1
  clear hb1
  go_wp2
  clear hD hD2 h0 h1
  go_loopw [6, 7] (fun v i wr => ∃ (k l' : Nat) (p' : Option Addr) (c' : Nat), k ≤ 6 + D ∧ i = .int .i64 (k : Int) ∧ v = .slice p' l' c' ∧ l' = 2 * k ∧ OwB w1 wr p' l' c' (nestP k)) (fun _ i _ => 6 + D - (intOf i).toNat)
  case atStart => exact ⟨0, 0, none, 0, Nat.zero_le _, rfl, rfl, rfl, ow_nil _⟩
  case round =>
    obtain ⟨k, l', p', c', hk, rfl, rfl, hl', ho⟩ := hrel
    have HO := Lib.hid ho
    have HL' := Lib.hid hl'
    have hlb : l' ≤ 100 := by omega
    clear ho hl'
    by_cases hlt : k < 6 + D
    · have hlt' : (k : Int) < 8 + ((D : Int) - 2) := by omega
      go_wp2_with (at_builtin; refine wp_ob2 rfl _ _ rfl w1 wr p' l' c' (nestP k) 4 1 rfl rfl HO.out (by omega) ?_; intro p2 c2 w2 ho2 _)
      have HO2 := Lib.hid ho2
      clear ho2
      go_roundw
      case rel => exact ⟨k + 1, l' + 2, p2, c2, by omega, by go_num, rfl, by have := HL'.out; omega, HO2.out⟩
      case measure => simp [intOf]; omega
    · obtain rfl : k = 6 + D := by omega
      have hlt' : ¬ (((6 + D : Nat) : Int) < 8 + ((D : Int) - 2)) := by omega
      have HL := Lib.hid (show l' + 1 = 2 * (6 + D) + 1 by have := HL'.out; omega)
      go_wp2_with (at_builtin; refine wp_ob1 rfl _ _ rfl w1 wr p' l' c' (nestP (6 + D)) 0 rfl rfl HO.out (by omega) ?_; intro p2 c2 w2 ho2 _; have HO1 := Lib.hid ho2; clear ho2)
      go_at_call 13; refine (read_nest_bad _ _ _ _ (6 + D) (by omega) (by omega) HL.out (rd_of_ow HO1.out)).mono ?_; rintro e w4 ⟨rfl, hb4⟩
      have HB4 := Lib.hid (bel_alloc (bel_step (bel_step HB1.out (ow_bel HO1.out)) hb4) (.cells #[.int .i64 0, .int .i64 0, .float .f64 0, .string ⟨#[]⟩, .slice none 0 0] 26))
      clear hb4
      have HZ0 := Lib.hid (rd_lit2 (w4.alloc (.cells #[.int .i64 0, .int .i64 0, .float .f64 0, .string ⟨#[]⟩, .slice none 0 0] 26)) 4 (M : Int))
      simp only [World.size_alloc] at HZ0
      go_wp2_with (at_builtin; obtain ⟨p5, c5, w5, hr5, hrd5, hb5⟩ := run_zeros _ _ 4 (M : Int) M (by omega) HZ0.out; have HZ := Lib.hid hrd5; have HB5 := Lib.hid (bel_step (bel_alloc HB4.out (.cells #[.int .u8 4, .int .u8 M] 5)) hb5); clear hrd5 hb5; refine Lib.wpList_append_run _ rfl _ _ _ _ rfl _ _ rfl rfl _ _ hr5 ?_; clear hr5)
      go_at_call 13; refine (read_nils_bad _ _ _ M (by omega) (by omega) HZ.out).mono ?_; rintro e w6 ⟨rfl, hb6⟩
      have HB6 := Lib.hid (bel_alloc (bel_step HB5.out hb6) (.cells #[.int .i64 0, .int .i64 0, .float .f64 0, .string ⟨#[]⟩, .slice none 0 0] 26))
      clear hb6
      go_wp2
      go_ret
      exact ⟨rfl, HB6.out⟩
theorem deep_law (n : Int) (hn : (Lit.int .u8 n).wf = true) (m : Int) (hm : (Lit.int .u8 m).wf = true) (w : World) :
    Calls Try.prog 7 #[.int .u8 n, .int .u8 m] w fun e w' => e = .returned (.bool true) ∧ Below w.heap.size w w' := by
  have h3 : IntKind.u8.bits = 8 := rfl
  simp only [Lit.wf, decide_eq_true_eq, IntKind.min, IntKind.max] at hn hm
  simp [IntKind.signed, h3] at hn hm
  obtain ⟨M, rfl⟩ : ∃ M : Nat, m = (M : Int) := ⟨m.toNat, by omega⟩
  obtain ⟨D, hD⟩ : ∃ D : Nat, n % 5 = (D : Int) := ⟨(n % 5).toNat, by omega⟩
  by_cases hd : (D : Int) ≤ 2
  · by_cases hM : (M : Int) ≤ 64
    · exact deep_OO n (by omega) (by omega) M (by omega) D hD (by omega) hd hM w
    · exact deep_ON n (by omega) (by omega) M (by omega) D hD (by omega) hd (by omega) w
  · by_cases hM : (M : Int) ≤ 64
    · exact deep_NO n (by omega) (by omega) M (by omega) D hD (by omega) (by omega) hM w
    · exact deep_NN n (by omega) (by omega) M (by omega) D hD (by omega) (by omega) (by omega) w
end Num
end Go.Proofs.Ytahcgdjcjapnkaa
