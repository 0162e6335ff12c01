/-
  The reference's Sum.
-/
import Derived.Test.YthjjakpjanoamaaWB
import Derived.Test.YthjjakpjanoamaaFB
import Derived.Outline
namespace Go.Proofs.Ythjjakpjanoamaa
open Go.RowKit
namespace Num
open Ints
set_option linter.unusedSimpArgs false
set_option linter.unusedVariables false
/-- The sum's state behind the bytes of X. -/
def sumS (X : List Int) : Nat := (X.map Int.toNat).foldl byteN 4294967295
theorem sumS_lt {X : List Int} (hX : ∀ x ∈ X, 0 ≤ x ∧ x < 256) : sumS X < 4294967296 := fold_lt _ (by decide) (nat_bytes hX)
theorem sumS_take {X : List Int} (k : Nat) (h : k < X.length) : sumS (X.take (k + 1)) = bitsN 8 (sumS (X.take k) ^^^ X[k].toNat) := by
  unfold sumS
  have e : X.take (k + 1) = X.take k ++ [X[k]] := by rw [List.take_succ_eq_append_getElem h]
  rw [e, List.map_append, List.foldl_append]
  rfl
theorem sumS_crc {X : List Int} (hX : ∀ x ∈ X, 0 ≤ x ∧ x < 256) : crcI X = ((4294967295 - sumS X : Nat) : Int) := by
  unfold crcI
  rw [crcN_eq _ (nat_bytes hX)]
  rfl
theorem sumS_max {X : List Int} (hX : ∀ x ∈ X, 0 ≤ x ∧ x < 256) : bits .xor .u32 IntKind.u32.max ((sumS X : Nat) : Int) = crcI X := by
  rw [show IntKind.u32.max = ((4294967295 : Nat) : Int) from by decide, x32_nat (by decide) (sumS_lt hX), Nat.xor_comm]
  rfl
set_option maxRecDepth 100000 in
set_option maxHeartbeats 2000000 in
theorem rsum_any (w : World) (p : Option Addr) (l c : Nat) (X : List Int) (hb : RdB w p l c X) (hX : ∀ x ∈ X, 0 ≤ x ∧ x < 256) (hl : l ≤ 100000) :
    Calls Try.prog 24 #[.slice p l c] w fun e w' => e = .returned (.int .u32 (crcI X)) ∧ w = w' := by
  have HB := Lib.hid hb
  have HX := Lib.hid hX
  have hlc := hb.2.1
  have hcm := hb.2.2.1
  unfold maxLen at hcm
  clear hb hX
  go_enter Try.func24, Try.ntmps24
  go_wp2
  go_loop [3, 4] (fun v i => ∃ j : Nat, j ≤ l ∧ i = .int .i64 j ∧ v = .int .u32 ((sumS (X.take j) : Nat) : Int)) (fun _ i => l - (intOf i).toNat)
  case atStart => exact ⟨0, Nat.zero_le _, rfl, rfl⟩
  case round =>
    obtain ⟨j, hj, rfl, rfl⟩ := hrel
    have HN := Lib.hid (sumS_lt (X := X.take j) (fun x hx => HX.out x (List.mem_of_mem_take hx)))
    by_cases hlt : j < l
    · have hjX : j < X.length := by have := HB.out.1; omega
      obtain ⟨b, off, rfl, h⟩ := HB.out.2.2.2.1 (by omega)
      have hxr := HX.out _ (List.getElem_mem hjX)
      obtain ⟨x, hx⟩ : ∃ x : Nat, X[j] = (x : Int) := ⟨X[j].toNat, by omega⟩
      have hc : w.cell? ⟨b, off + j, none⟩ = some (.int .u8 (x : Int)) := by rw [← hx]; exact h j hjX
      have hx1 : x < 256 := by omega
      have hx0 : (0 : Int) ≤ (x : Int) := by omega
      have hx2 : (x : Int) < 256 := by omega
      have HS := Lib.hid (show sumS (X.take (j + 1)) = bitsN 8 (sumS (X.take j) ^^^ x) by rw [sumS_take j hjX, hx, Int.toNat_natCast])
      obtain ⟨n, hn⟩ : ∃ n, sumS (X.take j) = n := ⟨_, rfl⟩
      rw [hn] at HS HN
      rw [hn]
      have hxor := byte_in HN.out (b := x) hx1
      have hm := xor_lt32 HN.out (show x < 4294967296 by omega)
      obtain ⟨m, hme⟩ : ∃ m, n ^^^ x = m := ⟨_, rfl⟩
      rw [hme] at hxor hm HS
      have HM := Lib.hid hm
      clear hx hjX h hxr hme hn hm
      go_wp2
      go_loop [3, 5] (fun v i => ∃ r : Nat, r ≤ 8 ∧ i = .int .i64 r ∧ v = .int .u32 ((bitsN r m : Nat) : Int)) (fun _ i => 8 - (intOf i).toNat)
      case atStart => exact ⟨0, Nat.zero_le _, rfl, rfl⟩
      case round =>
        obtain ⟨r, hr, rfl, rfl⟩ := hrel
        have hq := bitsN_lt r HM.out
        have HE := Lib.hid (bitsN_succ r m)
        obtain ⟨q, hqe⟩ : ∃ q, bitsN r m = q := ⟨_, rfl⟩
        rw [hqe] at hq HE
        rw [hqe]
        by_cases h8 : r < 8
        · clear hqe
          by_cases hodd : q % 2 = 1
          · have o1 := odd_yes hq hodd
            have o2 := step_yes hq hodd
            clear hq
            go_wp2
            go_round
            case rel => exact ⟨r + 1, by omega, by go_num, by rw [HE.out]⟩
            case measure => simp [intOf]; omega
          · have o1 := odd_no hq hodd
            have o2 := step_no (n := q) hodd
            clear hq
            go_wp2
            go_round
            case rel => exact ⟨r + 1, by omega, by go_num, by rw [HE.out]⟩
            case measure => simp [intOf]; omega
        · obtain rfl : r = 8 := by omega
          rw [hqe] at HS
          go_wp2
          go_round
          case rel => exact ⟨j + 1, by omega, by go_num, by rw [HS.out]⟩
          case measure => simp [intOf]; omega
    · obtain rfl : j = l := by omega
      have HF := Lib.hid (sumS_max HX.out)
      have e : X.take j = X := List.take_of_length_le (by have := HB.out.1; omega)
      rw [e] at HN
      rw [e]
      go_wp2
      go_ret
      exact ⟨congrArg (fun z => Ending.returned (Value.int .u32 z)) HF.out, rfl⟩
end Num
end Go.Proofs.Ythjjakpjanoamaa
