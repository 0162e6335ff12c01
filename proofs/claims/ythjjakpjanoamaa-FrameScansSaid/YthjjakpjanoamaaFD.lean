/-
  The program's Sum: a byte's eight bits shifted out at once.
-/
import Derived.Test.YthjjakpjanoamaaFC
import Derived.Laws.ShiftsVar
import Derived.Laws.ShiftsVarLaws
namespace Go.Proofs.Ythjjakpjanoamaa
open Go.RowKit
namespace Num
open Ints
set_option linter.unusedSimpArgs false
set_option linter.unusedVariables false
/-- Bit i in all places. -/
def spI (c i : Nat) : Int := if c / 2 ^ i % 2 = 1 then 4294967295 else 0
/-- What bit i leaves. -/
def mkN (P c i : Nat) : Nat := if c / 2 ^ i % 2 = 1 then P else 0
def shN (c : Nat) : Nat := (((((((c / 256 ^^^ mkN 3988292384 c 7) ^^^ mkN 1994146192 c 6) ^^^ mkN 997073096 c 5) ^^^ mkN 498536548 c 4) ^^^ mkN 249268274 c 3) ^^^ mkN 124634137 c 2) ^^^ mkN 3993919788 c 1) ^^^ mkN 1996959894 c 0
theorem and_all {P : Nat} (hP : P < 4294967296) : bits .and .u32 (P : Int) 4294967295 = (P : Int) := by
  have h := bits_mask .u32 32 (by decide) wraps_u32 32 (by decide) (P : Int) (by omega) (by omega)
  have e1 : ((2 : Int) ^ 32 - 1) = 4294967295 := by decide
  have e2 : ((2 : Int) ^ 32) = 4294967296 := by decide
  rw [e1, e2] at h
  rw [h]
  omega
theorem and_none (P : Int) : bits .and .u32 P 0 = 0 := by
  show IntKind.u32.wrap (((BitVec.ofInt 32 P &&& BitVec.ofInt 32 0).toNat : Nat) : Int) = 0
  rw [show BitVec.ofInt 32 0 = 0#32 from rfl, BitVec.and_zero]
  rfl
theorem and_sp {P : Nat} (hP : P < 4294967296) (c i : Nat) : bits .and .u32 (P : Int) (spI c i) = ((mkN P c i : Nat) : Int) := by
  unfold spI mkN
  split
  · exact and_all hP
  · exact and_none _
theorem mkN_lt {P : Nat} (hP : P < 4294967296) (c i : Nat) : mkN P c i < 4294967296 := by
  unfold mkN; split <;> omega
/-! ### eight steps are one -/
theorem bitN_xor {a b : Nat} (ha : a < 4294967296) (hb : b < 4294967296) : bitN (a ^^^ b) = bitN a ^^^ bitN b := by
  have hm : (a ^^^ b) % 2 = (a % 2) ^^^ (b % 2) := by
    have := @Nat.xor_mod_two_pow a b 1
    simpa using this
  have hd : (a ^^^ b) / 2 = (a / 2) ^^^ (b / 2) := by
    have := @Nat.xor_div_two_pow a b 1
    simpa using this
  have ka : a % 2 = 0 ∨ a % 2 = 1 := by omega
  have kb : b % 2 = 0 ∨ b % 2 = 1 := by omega
  unfold bitN
  rw [hm, hd]
  rcases ka with ka | ka <;> rcases kb with kb | kb <;> rw [ka, kb]
  · simp
  · simp [Nat.xor_assoc]
  · simp only [show (1 ^^^ 0 : Nat) = 1 from rfl, if_true, if_pos]
    rw [if_neg (by decide)]
    simp only [Nat.xor_assoc]
    rw [Nat.xor_comm (b / 2)]
  · simp only [show (1 ^^^ 1 : Nat) = 0 from rfl, if_pos]
    rw [if_neg (by decide)]
    rw [Nat.xor_assoc, ← Nat.xor_assoc 3988292384, Nat.xor_comm 3988292384 (b / 2), Nat.xor_assoc (b / 2), Nat.xor_self, Nat.xor_zero]
theorem bitsN_xor : ∀ (k : Nat) {a b : Nat}, a < 4294967296 → b < 4294967296 → bitsN k (a ^^^ b) = bitsN k a ^^^ bitsN k b
  | 0, _, _, _, _ => rfl
  | k + 1, a, b, ha, hb => by rw [bitsN_succ, bitsN_succ, bitsN_succ, bitsN_xor k ha hb, bitN_xor (bitsN_lt k ha) (bitsN_lt k hb)]
theorem bitN_even (n : Nat) : bitN (2 * n) = n := by
  unfold bitN
  rw [if_neg (by omega)]
  omega
theorem bitsN_high : ∀ (k h : Nat), bitsN k (2 ^ k * h) = h
  | 0, h => by show 1 * h = h; omega
  | k + 1, h => by
    have e : 2 ^ (k + 1) * h = 2 ^ k * (2 * h) := by rw [Nat.pow_succ, Nat.mul_assoc]
    rw [bitsN_succ, e, bitsN_high k (2 * h), bitN_even]
theorem low_xor (h l : Nat) (hl : l < 256) : 256 * h ^^^ l = 256 * h + l := by
  have e := Nat.two_pow_add_eq_or_of_lt (i := 8) (b := l) hl h
  rw [show (2 : Nat) ^ 8 = 256 from rfl] at e
  rw [e]
  apply Nat.eq_of_testBit_eq
  intro i
  rw [Nat.testBit_xor, Nat.testBit_or]
  by_cases hi : i < 8
  · have : (256 * h).testBit i = false := by
      rw [show 256 * h = 2 ^ 8 * h from rfl, Nat.testBit_two_pow_mul]
      simp; omega
    rw [this]; simp
  · have : l.testBit i = false := Nat.testBit_lt_two_pow (Nat.lt_of_lt_of_le hl (Nat.pow_le_pow_right (n := 2) (by decide) (show 8 ≤ i by omega)))
    rw [this]; simp
theorem mk_low (P h l i : Nat) (hi : i < 8) : mkN P (256 * h + l) i = mkN P l i := by
  have e : (256 * h + l) / 2 ^ i % 2 = l / 2 ^ i % 2 := by
    have : i = 0 ∨ i = 1 ∨ i = 2 ∨ i = 3 ∨ i = 4 ∨ i = 5 ∨ i = 6 ∨ i = 7 := by omega
    rcases this with rfl | rfl | rfl | rfl | rfl | rfl | rfl | rfl <;> simp only [Nat.reducePow] <;> omega
  unfold mkN
  rw [e]
theorem sh_low : ∀ l : Fin 256, bitsN 8 l.val = shN l.val := by decide +kernel
theorem sh_bits {c : Nat} (hc : c < 4294967296) : shN c = bitsN 8 c := by
  have e : c = 256 * (c / 256) ^^^ (c % 256) := by rw [low_xor _ _ (Nat.mod_lt _ (by decide))]; omega
  have h1 : bitsN 8 c = c / 256 ^^^ bitsN 8 (c % 256) := by
    conv => lhs; rw [e]
    rw [bitsN_xor 8 (by omega) (by omega), show 256 * (c / 256) = 2 ^ 8 * (c / 256) from rfl, bitsN_high]
  rw [h1, sh_low ⟨c % 256, Nat.mod_lt _ (by decide)⟩]
  have hd : c = 256 * (c / 256) + c % 256 := by omega
  have k : ∀ P i, i < 8 → mkN P c i = mkN P (c % 256) i := fun P i hi => by
    conv => lhs; rw [hd]
    exact mk_low P _ _ i hi
  unfold shN
  rw [k _ 7 (by decide), k _ 6 (by decide), k _ 5 (by decide), k _ 4 (by decide), k _ 3 (by decide), k _ 2 (by decide), k _ 1 (by decide), k _ 0 (by decide), show c % 256 / 256 = 0 by omega]
  simp only [Nat.xor_assoc, Nat.zero_xor]
/-! ### the walks -/
set_option maxRecDepth 100000 in
set_option maxHeartbeats 2000000 in
theorem spread0 (w : World) (c : Nat) (hc : c < 4294967296) :
    Calls Try.prog 70 #[.int .u32 c, .int .i64 0] w fun e w' => e = .returned (.int .u32 (spI c 0)) ∧ w = w' := by
  have HC := Lib.hid hc
  clear hc
  go_enter Try.func70, Try.ntmps70
  go_wp2
  go_ret
  refine ⟨congrArg (fun z => Ending.returned (Value.int .u32 z)) ?_, rfl⟩
  have hc := HC.out
  unfold wrap32 spI
  simp only [Nat.reducePow]
  split <;> omega
set_option maxRecDepth 100000 in
set_option maxHeartbeats 2000000 in
theorem spread1 (w : World) (c : Nat) (hc : c < 4294967296) :
    Calls Try.prog 70 #[.int .u32 c, .int .i64 1] w fun e w' => e = .returned (.int .u32 (spI c 1)) ∧ w = w' := by
  have HC := Lib.hid hc
  clear hc
  go_enter Try.func70, Try.ntmps70
  go_wp2
  go_ret
  refine ⟨congrArg (fun z => Ending.returned (Value.int .u32 z)) ?_, rfl⟩
  have hc := HC.out
  unfold wrap32 spI
  simp only [Nat.reducePow]
  split <;> omega
set_option maxRecDepth 100000 in
set_option maxHeartbeats 2000000 in
theorem spread2 (w : World) (c : Nat) (hc : c < 4294967296) :
    Calls Try.prog 70 #[.int .u32 c, .int .i64 2] w fun e w' => e = .returned (.int .u32 (spI c 2)) ∧ w = w' := by
  have HC := Lib.hid hc
  clear hc
  go_enter Try.func70, Try.ntmps70
  go_wp2
  go_ret
  refine ⟨congrArg (fun z => Ending.returned (Value.int .u32 z)) ?_, rfl⟩
  have hc := HC.out
  unfold wrap32 spI
  simp only [Nat.reducePow]
  split <;> omega
set_option maxRecDepth 100000 in
set_option maxHeartbeats 2000000 in
theorem spread3 (w : World) (c : Nat) (hc : c < 4294967296) :
    Calls Try.prog 70 #[.int .u32 c, .int .i64 3] w fun e w' => e = .returned (.int .u32 (spI c 3)) ∧ w = w' := by
  have HC := Lib.hid hc
  clear hc
  go_enter Try.func70, Try.ntmps70
  go_wp2
  go_ret
  refine ⟨congrArg (fun z => Ending.returned (Value.int .u32 z)) ?_, rfl⟩
  have hc := HC.out
  unfold wrap32 spI
  simp only [Nat.reducePow]
  split <;> omega
set_option maxRecDepth 100000 in
set_option maxHeartbeats 2000000 in
theorem spread4 (w : World) (c : Nat) (hc : c < 4294967296) :
    Calls Try.prog 70 #[.int .u32 c, .int .i64 4] w fun e w' => e = .returned (.int .u32 (spI c 4)) ∧ w = w' := by
  have HC := Lib.hid hc
  clear hc
  go_enter Try.func70, Try.ntmps70
  go_wp2
  go_ret
  refine ⟨congrArg (fun z => Ending.returned (Value.int .u32 z)) ?_, rfl⟩
  have hc := HC.out
  unfold wrap32 spI
  simp only [Nat.reducePow]
  split <;> omega
set_option maxRecDepth 100000 in
set_option maxHeartbeats 2000000 in
theorem spread5 (w : World) (c : Nat) (hc : c < 4294967296) :
    Calls Try.prog 70 #[.int .u32 c, .int .i64 5] w fun e w' => e = .returned (.int .u32 (spI c 5)) ∧ w = w' := by
  have HC := Lib.hid hc
  clear hc
  go_enter Try.func70, Try.ntmps70
  go_wp2
  go_ret
  refine ⟨congrArg (fun z => Ending.returned (Value.int .u32 z)) ?_, rfl⟩
  have hc := HC.out
  unfold wrap32 spI
  simp only [Nat.reducePow]
  split <;> omega
set_option maxRecDepth 100000 in
set_option maxHeartbeats 2000000 in
theorem spread6 (w : World) (c : Nat) (hc : c < 4294967296) :
    Calls Try.prog 70 #[.int .u32 c, .int .i64 6] w fun e w' => e = .returned (.int .u32 (spI c 6)) ∧ w = w' := by
  have HC := Lib.hid hc
  clear hc
  go_enter Try.func70, Try.ntmps70
  go_wp2
  go_ret
  refine ⟨congrArg (fun z => Ending.returned (Value.int .u32 z)) ?_, rfl⟩
  have hc := HC.out
  unfold wrap32 spI
  simp only [Nat.reducePow]
  split <;> omega
set_option maxRecDepth 100000 in
set_option maxHeartbeats 2000000 in
theorem spread7 (w : World) (c : Nat) (hc : c < 4294967296) :
    Calls Try.prog 70 #[.int .u32 c, .int .i64 7] w fun e w' => e = .returned (.int .u32 (spI c 7)) ∧ w = w' := by
  have HC := Lib.hid hc
  clear hc
  go_enter Try.func70, Try.ntmps70
  go_wp2
  go_ret
  refine ⟨congrArg (fun z => Ending.returned (Value.int .u32 z)) ?_, rfl⟩
  have hc := HC.out
  unfold wrap32 spI
  simp only [Nat.reducePow]
  split <;> omega
theorem x_step {a b : Nat} {P i c : Nat} (ha : a < 4294967296) (hP : P < 4294967296) (hb : b = a ^^^ mkN P c i) : bits .xor .u32 (a : Int) (bits .and .u32 (P : Int) (spI c i)) = ((b : Nat) : Int) ∧ b < 4294967296 := by
  subst hb
  rw [and_sp hP]
  exact ⟨x32_nat ha (mkN_lt hP c i), xor_lt32 ha (mkN_lt hP c i)⟩
theorem sh_int {c : Nat} (hc : c < 4294967296) : bits .xor .u32 (bits .xor .u32 (bits .xor .u32 (bits .xor .u32 (bits .xor .u32 (bits .xor .u32 (bits .xor .u32 (bits .xor .u32 (((c : Int) / 256)) (bits .and .u32 3988292384 (spI c 7))) (bits .and .u32 1994146192 (spI c 6))) (bits .and .u32 997073096 (spI c 5))) (bits .and .u32 498536548 (spI c 4))) (bits .and .u32 249268274 (spI c 3))) (bits .and .u32 124634137 (spI c 2))) (bits .and .u32 3993919788 (spI c 1))) (bits .and .u32 1996959894 (spI c 0)) = ((bitsN 8 c : Nat) : Int) := by
  have e0 : (c : Int) / 256 = ((c / 256 : Nat) : Int) := by omega
  rw [e0]
  obtain ⟨k0, l0⟩ := x_step (P := 3988292384) (i := 7) (c := c) (show c / 256 < 4294967296 by omega) (by decide) rfl
  rw [show ((3988292384 : Nat) : Int) = 3988292384 from rfl] at k0
  rw [k0]
  obtain ⟨k1, l1⟩ := x_step (P := 1994146192) (i := 6) (c := c) l0 (by decide) rfl
  rw [show ((1994146192 : Nat) : Int) = 1994146192 from rfl] at k1
  rw [k1]
  obtain ⟨k2, l2⟩ := x_step (P := 997073096) (i := 5) (c := c) l1 (by decide) rfl
  rw [show ((997073096 : Nat) : Int) = 997073096 from rfl] at k2
  rw [k2]
  obtain ⟨k3, l3⟩ := x_step (P := 498536548) (i := 4) (c := c) l2 (by decide) rfl
  rw [show ((498536548 : Nat) : Int) = 498536548 from rfl] at k3
  rw [k3]
  obtain ⟨k4, l4⟩ := x_step (P := 249268274) (i := 3) (c := c) l3 (by decide) rfl
  rw [show ((249268274 : Nat) : Int) = 249268274 from rfl] at k4
  rw [k4]
  obtain ⟨k5, l5⟩ := x_step (P := 124634137) (i := 2) (c := c) l4 (by decide) rfl
  rw [show ((124634137 : Nat) : Int) = 124634137 from rfl] at k5
  rw [k5]
  obtain ⟨k6, l6⟩ := x_step (P := 3993919788) (i := 1) (c := c) l5 (by decide) rfl
  rw [show ((3993919788 : Nat) : Int) = 3993919788 from rfl] at k6
  rw [k6]
  obtain ⟨k7, l7⟩ := x_step (P := 1996959894) (i := 0) (c := c) l6 (by decide) rfl
  rw [show ((1996959894 : Nat) : Int) = 1996959894 from rfl] at k7
  rw [k7]
  rw [← sh_bits hc]
  rfl
set_option maxRecDepth 100000 in
set_option maxHeartbeats 4000000 in
theorem shiftByte_any (w : World) (c : Nat) (hc : c < 4294967296) :
    Calls Try.prog 66 #[.int .u32 c] w fun e w' => e = .returned (.int .u32 ((bitsN 8 c : Nat) : Int)) ∧ w = w' := by
  have HC := Lib.hid hc
  have HS := Lib.hid (sh_int hc)
  clear hc
  go_enter Try.func66, Try.ntmps66
  go_wp2_with fail
  go_at_call 70; refine (spread7 w c HC.out).mono ?_; rintro e w1 ⟨rfl, rfl⟩
  go_wp2_with fail
  go_at_call 70; refine (spread6 w c HC.out).mono ?_; rintro e w1 ⟨rfl, rfl⟩
  go_wp2_with fail
  go_at_call 70; refine (spread5 w c HC.out).mono ?_; rintro e w1 ⟨rfl, rfl⟩
  go_wp2_with fail
  go_at_call 70; refine (spread4 w c HC.out).mono ?_; rintro e w1 ⟨rfl, rfl⟩
  go_wp2_with fail
  go_at_call 70; refine (spread3 w c HC.out).mono ?_; rintro e w1 ⟨rfl, rfl⟩
  go_wp2_with fail
  go_at_call 70; refine (spread2 w c HC.out).mono ?_; rintro e w1 ⟨rfl, rfl⟩
  go_wp2_with fail
  go_at_call 70; refine (spread1 w c HC.out).mono ?_; rintro e w1 ⟨rfl, rfl⟩
  go_wp2_with fail
  go_at_call 70; refine (spread0 w c HC.out).mono ?_; rintro e w1 ⟨rfl, rfl⟩
  go_wp2
  go_ret
  exact ⟨congrArg (fun z => Ending.returned (Value.int .u32 z)) HS.out, rfl⟩
set_option maxRecDepth 100000 in
set_option maxHeartbeats 2000000 in
theorem goOn_any (w : World) (p : Option Addr) (l c : Nat) (X : List Int) (s : Nat) (hs : s < 4294967296) (hb : RdB w p l c X) (hX : ∀ x ∈ X, 0 ≤ x ∧ x < 256) (hl : l ≤ 100000) :
    Calls Try.prog 48 #[.int .u32 s, .slice p l c] w fun e w' => e = .returned (.int .u32 (((X.map Int.toNat).foldl byteN s : Nat) : Int)) ∧ w = w' := by
  have HB := Lib.hid hb
  have HX := Lib.hid hX
  have HS := Lib.hid hs
  have hlc := hb.2.1
  have hcm := hb.2.2.1
  unfold maxLen at hcm
  clear hb hX hs
  go_enter Try.func48, Try.ntmps48
  go_wp2
  go_loop [0, 9] (fun v i => ∃ j : Nat, j ≤ l ∧ i = .int .i64 j ∧ v = .int .u32 ((((X.take j).map Int.toNat).foldl byteN s : Nat) : Int)) (fun _ i => l - (intOf i).toNat)
  case atStart => exact ⟨0, Nat.zero_le _, rfl, rfl⟩
  case round =>
    obtain ⟨j, hj, rfl, rfl⟩ := hrel
    have HN := Lib.hid (fold_lt ((X.take j).map Int.toNat) HS.out (nat_bytes fun x hx => HX.out x (List.mem_of_mem_take hx)))
    by_cases hlt : j < l
    · have hjX : j < X.length := by have := HB.out.1; omega
      obtain ⟨b, off, rfl, h⟩ := HB.out.2.2.2.1 (by omega)
      have hxr := HX.out _ (List.getElem_mem hjX)
      obtain ⟨x, hx⟩ : ∃ x : Nat, X[j] = (x : Int) := ⟨X[j].toNat, by omega⟩
      have hc : w.cell? ⟨b, off + j, none⟩ = some (.int .u8 (x : Int)) := by rw [← hx]; exact h j hjX
      have hx1 : x < 256 := by omega
      have hx0 : (0 : Int) ≤ (x : Int) := by omega
      have hx2 : (x : Int) < 256 := by omega
      have HF := Lib.hid (show ((X.take (j + 1)).map Int.toNat).foldl byteN s = bitsN 8 (((X.take j).map Int.toNat).foldl byteN s ^^^ x) by
        rw [List.take_succ_eq_append_getElem hjX, List.map_append, List.foldl_append, hx]; rfl)
      obtain ⟨n, hn⟩ : ∃ n, ((X.take j).map Int.toNat).foldl byteN s = n := ⟨_, rfl⟩
      rw [hn] at HF HN
      rw [hn]
      have hxor := byte_in HN.out (b := x) hx1
      have hm := xor_lt32 HN.out (show x < 4294967296 by omega)
      obtain ⟨m, hme⟩ : ∃ m, n ^^^ x = m := ⟨_, rfl⟩
      rw [hme] at hxor hm HF
      have HM := Lib.hid hm
      clear hx hjX h hxr hme hn hm
      go_wp2_with fail
      go_at_call 66; refine (shiftByte_any w m HM.out).mono ?_; rintro e w1 ⟨rfl, rfl⟩
      go_wp2
      go_round
      case rel => exact ⟨j + 1, by omega, by go_num, by rw [HF.out]⟩
      case measure => simp [intOf]; omega
    · obtain rfl : j = l := by omega
      have e : X.take j = X := List.take_of_length_le (by have := HB.out.1; omega)
      rw [e]
      clear HN e
      go_wp2
      go_ret
      exact ⟨rfl, rfl⟩
theorem fold_app (A B : List Int) (s : Nat) : ((A ++ B).map Int.toNat).foldl byteN s = (B.map Int.toNat).foldl byteN ((A.map Int.toNat).foldl byteN s) := by
  rw [List.map_append, List.foldl_append]
set_option maxRecDepth 100000 in
set_option maxHeartbeats 1000000 in
theorem sum_any (w : World) (p : Option Addr) (l c : Nat) (X : List Int) (hb : RdB w p l c X) (hX : ∀ x ∈ X, 0 ≤ x ∧ x < 256) (hl : l ≤ 100000) :
    Calls Try.prog 23 #[.slice p l c] w fun e w' => e = .returned (.int .u32 (crcI X)) ∧ w = w' := by
  have HG := Lib.hid (goOn_any w p l c X 4294967295 (by decide) hb hX hl)
  have HM := Lib.hid (show bits .xor .u32 IntKind.u32.max (((X.map Int.toNat).foldl byteN 4294967295 : Nat) : Int) = crcI X from sumS_max hX)
  have HL := Lib.hid (fold_lt (X.map Int.toNat) (c := 4294967295) (by decide) (nat_bytes hX))
  clear hb hX
  go_enter Try.func23, Try.ntmps23
  go_wp2_with fail
  go_at_call 48; refine HG.out.mono ?_; rintro e w1 ⟨rfl, rfl⟩
  go_wp2
  go_ret
  exact ⟨congrArg (fun z => Ending.returned (Value.int .u32 z)) HM.out, rfl⟩
set_option maxRecDepth 100000 in
set_option maxHeartbeats 1000000 in
theorem sumOf_any (w : World) (p q : Option Addr) (l c m d : Nat) (X Y : List Int) (hb : RdB w p l c X) (hX : ∀ x ∈ X, 0 ≤ x ∧ x < 256) (hl : l ≤ 100000) (hc : RdB w q m d Y) (hY : ∀ x ∈ Y, 0 ≤ x ∧ x < 256) (hm : m ≤ 100000) :
    Calls Try.prog 45 #[.slice p l c, .slice q m d] w fun e w' => e = .returned (.int .u32 (crcI (X ++ Y))) ∧ w = w' := by
  have hXl := fold_lt (X.map Int.toNat) (c := 4294967295) (by decide) (nat_bytes hX)
  have HG := Lib.hid (goOn_any w p l c X 4294967295 (by decide) hb hX hl)
  obtain ⟨s, hs⟩ : ∃ s, (X.map Int.toNat).foldl byteN 4294967295 = s := ⟨_, rfl⟩
  have HM := Lib.hid (show bits .xor .u32 IntKind.u32.max (((Y.map Int.toNat).foldl byteN s : Nat) : Int) = crcI (X ++ Y) by
    rw [← hs, ← fold_app]
    exact sumS_max (X := X ++ Y) (fun x hx => (List.mem_append.1 hx).elim (hX x) (hY x)))
  rw [hs] at HG hXl
  have HK := Lib.hid (goOn_any w q m d Y s hXl hc hY hm)
  clear hb hX hc hY hs hXl
  go_enter Try.func45, Try.ntmps45
  go_wp2_with fail
  go_at_call 48; refine HG.out.mono ?_; rintro e w1 ⟨rfl, rfl⟩
  go_wp2_with fail
  go_at_call 48; refine HK.out.mono ?_; rintro e w1 ⟨rfl, rfl⟩
  go_wp2
  go_ret
  exact ⟨congrArg (fun z => Ending.returned (Value.int .u32 z)) HM.out, rfl⟩
end Num
end Go.Proofs.Ythjjakpjanoamaa
