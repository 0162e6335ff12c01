/-
  Package num's Add at whatever values.
-/
import Derived.Test.YtpbfaffheigjcaaNA
namespace Go.Proofs.Ytpbfaffheigjcaa
open Go.RowKit
namespace Num
open Ints
set_option linter.unusedSimpArgs false
set_option linter.unusedVariables false
theorem operate0_not (K1 I1 : Int) (F1 : Nat) (S1 : ByteArray) (p1 : Option Addr) (l1 c1 : Nat) (K2 I2 : Int) (F2 : Nat) (S2 : ByteArray) (p2 : Option Addr) (l2 c2 : Nat) (w : World) (h : (isNum K1 && isNum K2) = false) :
    Calls Try.prog 100 #[.agg #[.int .i64 K1, .int .i64 I1, .float .f64 F1, .string S1, .slice p1 l1 c1], .agg #[.int .i64 K2, .int .i64 I2, .float .f64 F2, .string S2, .slice p2 l2 c2], .func (Fn.func 101) #[] #[], .func (Fn.func 102) #[] #[]] w fun e w' => e = .returned (.tuple #[.agg #[.int .i64 0, .int .i64 0, .float .f64 0, .string ⟨#[]⟩, .slice none 0 0], .int .i64 31]) ∧ Below w.heap.size w w' := by
  cases h1 : isNum K1
  · clear h
    go_enter Try.func100, Try.ntmps100
    go_wp2_with (go_at_call 96; refine (isNumber_any _ _ _ _ _ _ _ _).mono ?_; rintro e w1 ⟨rfl, hb1⟩; obtain ⟨hc1, hf1⟩ := bcell hb1; (try simp only [World.size_drew, World.cell?_drew, World.frozen?_drew, World.heap_drewN, World.cell?_drewN, World.frozen?_drewN] at hc1 hf1); have hz1 : w.heap.size + 1 + 1 < w1.heap.size := (by (have := hb1.size; (try simp at this); omega)); have hy1 := Nat.lt_of_succ_lt hz1; have hx1 := Nat.lt_of_succ_lt hy1)
    exact bodyPost_ret (v := .tuple #[.agg #[.int .i64 0, .int .i64 0, .float .f64 0, .string ⟨#[]⟩, .slice none 0 0], .int .i64 31]) (by simp [results, Try.results100, go_sem, hc1]) rfl ⟨rfl, below5 (by (repeat (first | exact below3 _ _ _ _ | (refine bel_tr (by assumption) (by (first | omega | (simp; omega))) ?_) | refine bel_drewN _ ?_ | refine Below.drew ?_))) (by omega) _ _ _ _ _⟩
  · have h2 : isNum K2 = false := by simpa [h1] using h
    clear h
    go_enter Try.func100, Try.ntmps100
    go_wp2_with fail
    go_at_call 96; refine (isNumber_any _ _ _ _ _ _ _ _).mono ?_; rintro e w1 ⟨rfl, hb1⟩; obtain ⟨hc1, hf1⟩ := bcell hb1; (try simp only [World.size_drew, World.cell?_drew, World.frozen?_drew, World.heap_drewN, World.cell?_drewN, World.frozen?_drewN] at hc1 hf1); have hz1 : w.heap.size + 1 + 1 < w1.heap.size := (by (have := hb1.size; (try simp at this); omega)); have hy1 := Nat.lt_of_succ_lt hz1; have hx1 := Nat.lt_of_succ_lt hy1
    go_wp2_with fail
    go_at_call 96; refine (isNumber_any _ _ _ _ _ _ _ _).mono ?_; rintro e w2 ⟨rfl, hb2⟩; obtain ⟨hc2, hf2⟩ := bcell hb2; (try simp only [World.size_drew, World.cell?_drew, World.frozen?_drew, World.heap_drewN, World.cell?_drewN, World.frozen?_drewN] at hc2 hf2); have hz2 : w.heap.size + 1 + 1 < w2.heap.size := (by (have := hb2.size; (try simp at this); omega)); have hy2 := Nat.lt_of_succ_lt hz2; have hx2 := Nat.lt_of_succ_lt hy2
    go_wp2
    exact bodyPost_ret (v := .tuple #[.agg #[.int .i64 0, .int .i64 0, .float .f64 0, .string ⟨#[]⟩, .slice none 0 0], .int .i64 31]) (by simp [results, Try.results100, go_sem, hc1, hz1, hc2]) rfl ⟨rfl, below5 (by (repeat (first | exact below3 _ _ _ _ | (refine bel_tr (by assumption) (by (first | omega | (simp; omega))) ?_) | refine bel_drewN _ ?_ | refine Below.drew ?_))) (by omega) _ _ _ _ _⟩
set_option maxHeartbeats 1000000 in
theorem operate0_flo_a (K1 I1 : Int) (F1 : Nat) (S1 : ByteArray) (p1 : Option Addr) (l1 c1 : Nat) (K2 I2 : Int) (F2 : Nat) (S2 : ByteArray) (p2 : Option Addr) (l2 c2 : Nat) (w : World) (h1 : isNum K1 = true) (h2 : isNum K2 = true) (hk : (K1 == 2) = true) :
    Calls Try.prog 100 #[.agg #[.int .i64 K1, .int .i64 I1, .float .f64 F1, .string S1, .slice p1 l1 c1], .agg #[.int .i64 K2, .int .i64 I2, .float .f64 F2, .string S2, .slice p2 l2 c2], .func (Fn.func 101) #[] #[], .func (Fn.func 102) #[] #[]] w fun e w' => e = .returned (.tuple #[.agg #[.int .i64 2, .int .i64 0, .float .f64 (Flo.cop .add (asF K1 I1 F1) (asF K2 I2 F2)), .string ⟨#[]⟩, .slice none 0 0], .int .i64 0]) ∧ Below w.heap.size w w' := by
  go_enter Try.func100, Try.ntmps100
  go_wp2_with fail
  go_at_call 96; refine (isNumber_any _ _ _ _ _ _ _ _).mono ?_; rintro e w1 ⟨rfl, hb1⟩; obtain ⟨hc1, hf1⟩ := bcell hb1; (try simp only [World.size_drew, World.cell?_drew, World.frozen?_drew, World.heap_drewN, World.cell?_drewN, World.frozen?_drewN] at hc1 hf1); have hz1 : w.heap.size + 1 + 1 < w1.heap.size := (by (have := hb1.size; (try simp at this); omega)); have hy1 := Nat.lt_of_succ_lt hz1; have hx1 := Nat.lt_of_succ_lt hy1
  go_wp2_with fail
  go_at_call 96; refine (isNumber_any _ _ _ _ _ _ _ _).mono ?_; rintro e w2 ⟨rfl, hb2⟩
  obtain ⟨hB, hz2, hy2, hx2, m0, m1, m2, m3, m4, m5, m6, m7, m8, m9, m10, m11, m12, m13, m14, fr0, fr1, fr2⟩ := three _ _ _ _ _ _ _ _ _ _ _ _ _ _ _ _ hb1 hb2
  clear hc1 hf1 hz1 hy1 hx1 hb1 hb2
  go_wp2_with fail
  go_region_with (first
    | (go_at_call_of 111 (Value.int .i64 K1); refine (toFloat_any _ _ _ _ _ _ _ _).mono ?_; rintro e w3 ⟨rfl, hb3⟩; obtain ⟨hc3, hf3⟩ := bcell hb3; (try simp only [World.size_drew, World.cell?_drew, World.frozen?_drew, World.heap_drewN, World.cell?_drewN, World.frozen?_drewN] at hc3 hf3); have hz3 : w.heap.size + 1 + 1 < w3.heap.size := (by (have := hb3.size; (try simp at this); omega)); have hy3 := Nat.lt_of_succ_lt hz3; have hx3 := Nat.lt_of_succ_lt hy3)
    | (go_at_call_of 111 (Value.int .i64 K2); refine (toFloat_any _ _ _ _ _ _ _ _).mono ?_; rintro e w4 ⟨rfl, hb4⟩; obtain ⟨hc4, hf4⟩ := bcell hb4; (try simp only [World.size_drew, World.cell?_drew, World.frozen?_drew, World.heap_drewN, World.cell?_drewN, World.frozen?_drewN] at hc4 hf4); have hz4 : w.heap.size + 1 + 1 < w4.heap.size := (by (have := hb4.size; (try simp at this); omega)); have hy4 := Nat.lt_of_succ_lt hz4; have hx4 := Nat.lt_of_succ_lt hy4)
    | (go_at_call 110; refine (ofFloat_any _ _).mono ?_; rintro e w6 ⟨rfl, hb6⟩; (try rw [Hr.out]); obtain ⟨hc6, hf6⟩ := bcell hb6; (try simp only [World.size_drew, World.cell?_drew, World.frozen?_drew, World.heap_drewN, World.cell?_drewN, World.frozen?_drewN] at hc6 hf6); have hz6 : w.heap.size + 1 + 1 < w6.heap.size := (by (have := hb6.size; (try simp at this); omega)); have hy6 := Nat.lt_of_succ_lt hz6; have hx6 := Nat.lt_of_succ_lt hy6)
    | (go_at_call 102; refine (addFloats_any _ _ _).mono ?_; rintro e w5 ⟨r, n, rfl, hr, hlt, rfl⟩; have Hr := Lib.hid hr; clear hr hlt))
  all_goals go_wp2
  all_goals exact bodyPost_ret (v := .tuple #[.agg #[.int .i64 2, .int .i64 0, .float .f64 (Flo.cop .add (asF K1 I1 F1) (asF K2 I2 F2)), .string ⟨#[]⟩, .slice none 0 0], .int .i64 0]) (by simp [results, Try.results100, go_sem, hc6, hc4, hc3, hz4, hz3, hz2, m10, m11, m12, m13, m14]) rfl ⟨rfl, below5 (by (repeat (first | exact hB | exact below3 _ _ _ _ | (refine bel_tr (by assumption) (by (first | omega | (simp; omega))) ?_) | refine bel_drewN _ ?_ | refine Below.drew ?_))) (by omega) _ _ _ _ _⟩
set_option maxHeartbeats 1000000 in
theorem operate0_flo_b (K1 I1 : Int) (F1 : Nat) (S1 : ByteArray) (p1 : Option Addr) (l1 c1 : Nat) (K2 I2 : Int) (F2 : Nat) (S2 : ByteArray) (p2 : Option Addr) (l2 c2 : Nat) (w : World) (h1 : isNum K1 = true) (h2 : isNum K2 = true) (hk0 : (K1 == 2) = false) (hk : (K2 == 2) = true) :
    Calls Try.prog 100 #[.agg #[.int .i64 K1, .int .i64 I1, .float .f64 F1, .string S1, .slice p1 l1 c1], .agg #[.int .i64 K2, .int .i64 I2, .float .f64 F2, .string S2, .slice p2 l2 c2], .func (Fn.func 101) #[] #[], .func (Fn.func 102) #[] #[]] w fun e w' => e = .returned (.tuple #[.agg #[.int .i64 2, .int .i64 0, .float .f64 (Flo.cop .add (asF K1 I1 F1) (asF K2 I2 F2)), .string ⟨#[]⟩, .slice none 0 0], .int .i64 0]) ∧ Below w.heap.size w w' := by
  go_enter Try.func100, Try.ntmps100
  go_wp2_with fail
  go_at_call 96; refine (isNumber_any _ _ _ _ _ _ _ _).mono ?_; rintro e w1 ⟨rfl, hb1⟩; obtain ⟨hc1, hf1⟩ := bcell hb1; (try simp only [World.size_drew, World.cell?_drew, World.frozen?_drew, World.heap_drewN, World.cell?_drewN, World.frozen?_drewN] at hc1 hf1); have hz1 : w.heap.size + 1 + 1 < w1.heap.size := (by (have := hb1.size; (try simp at this); omega)); have hy1 := Nat.lt_of_succ_lt hz1; have hx1 := Nat.lt_of_succ_lt hy1
  go_wp2_with fail
  go_at_call 96; refine (isNumber_any _ _ _ _ _ _ _ _).mono ?_; rintro e w2 ⟨rfl, hb2⟩
  obtain ⟨hB, hz2, hy2, hx2, m0, m1, m2, m3, m4, m5, m6, m7, m8, m9, m10, m11, m12, m13, m14, fr0, fr1, fr2⟩ := three _ _ _ _ _ _ _ _ _ _ _ _ _ _ _ _ hb1 hb2
  clear hc1 hf1 hz1 hy1 hx1 hb1 hb2
  go_wp2_with fail
  go_region_with (first
    | (go_at_call_of 111 (Value.int .i64 K1); refine (toFloat_any _ _ _ _ _ _ _ _).mono ?_; rintro e w3 ⟨rfl, hb3⟩; obtain ⟨hc3, hf3⟩ := bcell hb3; (try simp only [World.size_drew, World.cell?_drew, World.frozen?_drew, World.heap_drewN, World.cell?_drewN, World.frozen?_drewN] at hc3 hf3); have hz3 : w.heap.size + 1 + 1 < w3.heap.size := (by (have := hb3.size; (try simp at this); omega)); have hy3 := Nat.lt_of_succ_lt hz3; have hx3 := Nat.lt_of_succ_lt hy3)
    | (go_at_call_of 111 (Value.int .i64 K2); refine (toFloat_any _ _ _ _ _ _ _ _).mono ?_; rintro e w4 ⟨rfl, hb4⟩; obtain ⟨hc4, hf4⟩ := bcell hb4; (try simp only [World.size_drew, World.cell?_drew, World.frozen?_drew, World.heap_drewN, World.cell?_drewN, World.frozen?_drewN] at hc4 hf4); have hz4 : w.heap.size + 1 + 1 < w4.heap.size := (by (have := hb4.size; (try simp at this); omega)); have hy4 := Nat.lt_of_succ_lt hz4; have hx4 := Nat.lt_of_succ_lt hy4)
    | (go_at_call 110; refine (ofFloat_any _ _).mono ?_; rintro e w6 ⟨rfl, hb6⟩; (try rw [Hr.out]); obtain ⟨hc6, hf6⟩ := bcell hb6; (try simp only [World.size_drew, World.cell?_drew, World.frozen?_drew, World.heap_drewN, World.cell?_drewN, World.frozen?_drewN] at hc6 hf6); have hz6 : w.heap.size + 1 + 1 < w6.heap.size := (by (have := hb6.size; (try simp at this); omega)); have hy6 := Nat.lt_of_succ_lt hz6; have hx6 := Nat.lt_of_succ_lt hy6)
    | (go_at_call 102; refine (addFloats_any _ _ _).mono ?_; rintro e w5 ⟨r, n, rfl, hr, hlt, rfl⟩; have Hr := Lib.hid hr; clear hr hlt))
  all_goals go_wp2
  all_goals exact bodyPost_ret (v := .tuple #[.agg #[.int .i64 2, .int .i64 0, .float .f64 (Flo.cop .add (asF K1 I1 F1) (asF K2 I2 F2)), .string ⟨#[]⟩, .slice none 0 0], .int .i64 0]) (by simp [results, Try.results100, go_sem, hc6, hc4, hc3, hz4, hz3, hz2, m10, m11, m12, m13, m14]) rfl ⟨rfl, below5 (by (repeat (first | exact hB | exact below3 _ _ _ _ | (refine bel_tr (by assumption) (by (first | omega | (simp; omega))) ?_) | refine bel_drewN _ ?_ | refine Below.drew ?_))) (by omega) _ _ _ _ _⟩
set_option maxHeartbeats 1000000 in
theorem operate0_int (K1 I1 : Int) (F1 : Nat) (S1 : ByteArray) (p1 : Option Addr) (l1 c1 : Nat) (K2 I2 : Int) (F2 : Nat) (S2 : ByteArray) (p2 : Option Addr) (l2 c2 : Nat) (w : World) (h1 : isNum K1 = true) (h2 : isNum K2 = true) (hk1 : (K1 == 2) = false) (hk2 : (K2 == 2) = false) (hi1 : okI I1) (hi2 : okI I2) (n : Int) (hn : intR 0 I1 I2 = some n) :
    Calls Try.prog 100 #[.agg #[.int .i64 K1, .int .i64 I1, .float .f64 F1, .string S1, .slice p1 l1 c1], .agg #[.int .i64 K2, .int .i64 I2, .float .f64 F2, .string S2, .slice p2 l2 c2], .func (Fn.func 101) #[] #[], .func (Fn.func 102) #[] #[]] w fun e w' => e = .returned (.tuple #[.agg #[.int .i64 1, .int .i64 n, .float .f64 0, .string ⟨#[]⟩, .slice none 0 0], .int .i64 0]) ∧ Below w.heap.size w w' := by
  have Hn := Lib.hid hn
  have H1 := Lib.hid hi1
  have H2 := Lib.hid hi2
  clear hn hi1 hi2
  go_enter Try.func100, Try.ntmps100
  go_wp2_with fail
  go_at_call 96; refine (isNumber_any _ _ _ _ _ _ _ _).mono ?_; rintro e w1 ⟨rfl, hb1⟩; obtain ⟨hc1, hf1⟩ := bcell hb1; (try simp only [World.size_drew, World.cell?_drew, World.frozen?_drew, World.heap_drewN, World.cell?_drewN, World.frozen?_drewN] at hc1 hf1); have hz1 : w.heap.size + 1 + 1 < w1.heap.size := (by (have := hb1.size; (try simp at this); omega)); have hy1 := Nat.lt_of_succ_lt hz1; have hx1 := Nat.lt_of_succ_lt hy1
  go_wp2_with fail
  go_at_call 96; refine (isNumber_any _ _ _ _ _ _ _ _).mono ?_; rintro e w2 ⟨rfl, hb2⟩
  obtain ⟨hB, hz2, hy2, hx2, m0, m1, m2, m3, m4, m5, m6, m7, m8, m9, m10, m11, m12, m13, m14, fr0, fr1, fr2⟩ := three _ _ _ _ _ _ _ _ _ _ _ _ _ _ _ _ hb1 hb2
  clear hc1 hf1 hz1 hy1 hx1 hb1 hb2
  go_wp2_with fail
  go_at_call 101; refine (addInts_any _ _ H1.out H2.out _).mono ?_; rintro e w3 ⟨ht, rfl⟩; obtain rfl := ht.1 _ Hn.out; clear ht
  go_wp2_with (go_at_call 112; refine (ofInt_any _ _).mono ?_; rintro e w4 ⟨rfl, hb4⟩; obtain ⟨hc4, hf4⟩ := bcell hb4; (try simp only [World.size_drew, World.cell?_drew, World.frozen?_drew, World.heap_drewN, World.cell?_drewN, World.frozen?_drewN] at hc4 hf4); have hz4 : w.heap.size + 1 + 1 < w4.heap.size := (by (have := hb4.size; (try simp at this); omega)); have hy4 := Nat.lt_of_succ_lt hz4; have hx4 := Nat.lt_of_succ_lt hy4)
  exact bodyPost_ret (v := .tuple #[.agg #[.int .i64 1, .int .i64 n, .float .f64 0, .string ⟨#[]⟩, .slice none 0 0], .int .i64 0]) (by simp [results, Try.results100, go_sem, hc4, hz2, m10, m11, m12, m13, m14]) rfl ⟨rfl, below5 (by (repeat (first | exact hB | exact below3 _ _ _ _ | (refine bel_tr (by assumption) (by (first | omega | (simp; omega))) ?_) | refine bel_drewN _ ?_ | refine Below.drew ?_))) (by omega) _ _ _ _ _⟩
set_option maxHeartbeats 1000000 in
theorem operate0_none (K1 I1 : Int) (F1 : Nat) (S1 : ByteArray) (p1 : Option Addr) (l1 c1 : Nat) (K2 I2 : Int) (F2 : Nat) (S2 : ByteArray) (p2 : Option Addr) (l2 c2 : Nat) (w : World) (h1 : isNum K1 = true) (h2 : isNum K2 = true) (hk1 : (K1 == 2) = false) (hk2 : (K2 == 2) = false) (hi1 : okI I1) (hi2 : okI I2) (hn : intR 0 I1 I2 = none) :
    Calls Try.prog 100 #[.agg #[.int .i64 K1, .int .i64 I1, .float .f64 F1, .string S1, .slice p1 l1 c1], .agg #[.int .i64 K2, .int .i64 I2, .float .f64 F2, .string S2, .slice p2 l2 c2], .func (Fn.func 101) #[] #[], .func (Fn.func 102) #[] #[]] w fun e w' => e = .returned (.tuple #[.agg #[.int .i64 0, .int .i64 0, .float .f64 0, .string ⟨#[]⟩, .slice none 0 0], .int .i64 35]) ∧ Below w.heap.size w w' := by
  have Hn := Lib.hid hn
  have H1 := Lib.hid hi1
  have H2 := Lib.hid hi2
  clear hn hi1 hi2
  go_enter Try.func100, Try.ntmps100
  go_wp2_with fail
  go_at_call 96; refine (isNumber_any _ _ _ _ _ _ _ _).mono ?_; rintro e w1 ⟨rfl, hb1⟩; obtain ⟨hc1, hf1⟩ := bcell hb1; (try simp only [World.size_drew, World.cell?_drew, World.frozen?_drew, World.heap_drewN, World.cell?_drewN, World.frozen?_drewN] at hc1 hf1); have hz1 : w.heap.size + 1 + 1 < w1.heap.size := (by (have := hb1.size; (try simp at this); omega)); have hy1 := Nat.lt_of_succ_lt hz1; have hx1 := Nat.lt_of_succ_lt hy1
  go_wp2_with fail
  go_at_call 96; refine (isNumber_any _ _ _ _ _ _ _ _).mono ?_; rintro e w2 ⟨rfl, hb2⟩
  obtain ⟨hB, hz2, hy2, hx2, m0, m1, m2, m3, m4, m5, m6, m7, m8, m9, m10, m11, m12, m13, m14, fr0, fr1, fr2⟩ := three _ _ _ _ _ _ _ _ _ _ _ _ _ _ _ _ hb1 hb2
  clear hc1 hf1 hz1 hy1 hx1 hb1 hb2
  go_wp2_with fail
  go_at_call 101; refine (addInts_any _ _ H1.out H2.out _).mono ?_; rintro e w3 ⟨ht, rfl⟩; obtain ⟨_, rfl⟩ := ht.2 Hn.out; clear ht
  go_wp2
  exact bodyPost_ret (v := .tuple #[.agg #[.int .i64 0, .int .i64 0, .float .f64 0, .string ⟨#[]⟩, .slice none 0 0], .int .i64 35]) (by simp [results, Try.results100, go_sem, m10, m11, m12, m13, m14]) rfl ⟨rfl, below5 (by (repeat (first | exact hB | exact below3 _ _ _ _ | (refine bel_tr (by assumption) (by (first | omega | (simp; omega))) ?_) | refine bel_drewN _ ?_ | refine Below.drew ?_))) (by omega) _ _ _ _ _⟩
theorem one_of_two {K : Int} (h : (K == 2) = true) : (K == 1) = false := by
  have : K = 2 := by simpa using h
  subst this; rfl
theorem one_of_num {K : Int} (h : isNum K = true) (h2 : (K == 2) = false) : (K == 1) = true := by
  unfold isNum at h; rw [h2] at h; simpa using h
theorem operate0_any (K1 I1 : Int) (F1 : Nat) (S1 : ByteArray) (p1 : Option Addr) (l1 c1 : Nat) (K2 I2 : Int) (F2 : Nat) (S2 : ByteArray) (p2 : Option Addr) (l2 c2 : Nat) (w : World) (hi1 : okI I1) (hi2 : okI I2) {K I : Int} {F : Nat} {E : Int} (hq : opV 0 K1 I1 F1 K2 I2 F2 = (K, I, F, E)) :
    Calls Try.prog 100 #[.agg #[.int .i64 K1, .int .i64 I1, .float .f64 F1, .string S1, .slice p1 l1 c1], .agg #[.int .i64 K2, .int .i64 I2, .float .f64 F2, .string S2, .slice p2 l2 c2], .func (Fn.func 101) #[] #[], .func (Fn.func 102) #[] #[]] w fun e w' => e = .returned (.tuple #[.agg #[.int .i64 K, .int .i64 I, .float .f64 F, .string ⟨#[]⟩, .slice none 0 0], .int .i64 E]) ∧ Below w.heap.size w w' := by
  cases h : (isNum K1 && isNum K2)
  · rw [opV_not h] at hq; cases hq; exact operate0_not K1 I1 F1 S1 p1 l1 c1 K2 I2 F2 S2 p2 l2 c2 w h
  · obtain ⟨h1, h2⟩ : isNum K1 = true ∧ isNum K2 = true := by simpa using h
    cases ha : (K1 == 2)
    · cases hb : (K2 == 2)
      · have hk : (K1 == 2 || K2 == 2) = false := by rw [ha, hb]; rfl
        cases hn : intR 0 I1 I2 with
        | some n => rw [opV_int h hk hn] at hq; cases hq; exact operate0_int K1 I1 F1 S1 p1 l1 c1 K2 I2 F2 S2 p2 l2 c2 w h1 h2 ha hb hi1 hi2 _ hn
        | none => rw [opV_none h hk hn] at hq; cases hq; exact operate0_none K1 I1 F1 S1 p1 l1 c1 K2 I2 F2 S2 p2 l2 c2 w h1 h2 ha hb hi1 hi2 hn
      · rw [opV_flo h (by rw [ha, hb]; rfl)] at hq; cases hq; exact operate0_flo_b K1 I1 F1 S1 p1 l1 c1 K2 I2 F2 S2 p2 l2 c2 w h1 h2 ha hb
    · rw [opV_flo h (by rw [ha]; rfl)] at hq; cases hq; exact operate0_flo_a K1 I1 F1 S1 p1 l1 c1 K2 I2 F2 S2 p2 l2 c2 w h1 h2 ha
theorem add_any (K1 I1 : Int) (F1 : Nat) (S1 : ByteArray) (p1 : Option Addr) (l1 c1 : Nat) (K2 I2 : Int) (F2 : Nat) (S2 : ByteArray) (p2 : Option Addr) (l2 c2 : Nat) (w : World) (hi1 : okI I1) (hi2 : okI I2) {K I : Int} {F : Nat} {E : Int} (hq : opV 0 K1 I1 F1 K2 I2 F2 = (K, I, F, E)) :
    Calls Try.prog 80 #[.agg #[.int .i64 K1, .int .i64 I1, .float .f64 F1, .string S1, .slice p1 l1 c1], .agg #[.int .i64 K2, .int .i64 I2, .float .f64 F2, .string S2, .slice p2 l2 c2]] w fun e w' => e = .returned (.tuple #[.agg #[.int .i64 K, .int .i64 I, .float .f64 F, .string ⟨#[]⟩, .slice none 0 0], .int .i64 E]) ∧ Below w.heap.size w w' := by
  have H : Hid _ := Lib.hid (fun W => operate0_any K1 I1 F1 S1 p1 l1 c1 K2 I2 F2 S2 p2 l2 c2 W hi1 hi2 hq)
  clear hi1 hi2 hq
  go_enter Try.func80, Try.ntmps80
  go_wp2_with (go_at_call 100; refine (H.out _).mono ?_; rintro e w1 ⟨rfl, hb1⟩; obtain ⟨hc1, hf1⟩ := bcell hb1; have hz1 : w.heap.size + 1 + 1 < w1.heap.size := (by (have := hb1.size; (try simp at this); omega)))
  exact bodyPost_ret (v := .tuple #[.agg #[.int .i64 K, .int .i64 I, .float .f64 F, .string ⟨#[]⟩, .slice none 0 0], .int .i64 E]) (by simp [results, Try.results80, go_sem, hc1]) rfl ⟨rfl, below5 ((below3 _ _ _ _).trans (hb1.mono (by simp; omega))) (by omega) _ _ _ _ _⟩
end Num
end Go.Proofs.Ytpbfaffheigjcaa
