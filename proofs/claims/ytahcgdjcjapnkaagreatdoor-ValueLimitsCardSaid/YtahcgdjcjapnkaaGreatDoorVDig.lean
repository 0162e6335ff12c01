/-
  A decimal's digits as bytes (internal/strconv.numDigits, setDigits).
-/
import Derived.Test.YtahcgdjcjapnkaaGreatDoorVShort
import Derived.Lib.ItoaMem
namespace Go.Proofs.YtahcgdjcjapnkaaGreatDoor
open Go.RowKit
namespace Num
open Ints
set_option linter.unusedSimpArgs false
set_option linter.unusedVariables false
def ndU (u : Nat) : Nat := if u = 0 then 0 else Lib.nDigits u
def digU (u : Nat) : List UInt8 := if u = 0 then [] else Lib.decDigits u
theorem digU_len (u : Nat) : (digU u).length = ndU u := by
  unfold digU ndU
  split
  · rfl
  · exact Lib.decDigits_length u
theorem ndU_le (u : Nat) (h : u < 18446744073709551616) : ndU u ≤ 20 := by
  unfold ndU
  split
  · omega
  · have := Lib.numDigits_eq u (by omega) h
    split at this <;> omega
theorem numDigits_any (u : Nat) (h2 : u < 18446744073709551616) (w : World) (htab : Lib.TabIs Tryz.prog w "internal/strconv.uint64pow10" .u64 Lib.pow10Tab) : Calls Tryz.prog 50 #[.int .u64 u] w fun e w' => e = .returned (.int .i64 (ndU u)) ∧ w = w' := by
  by_cases h : u = 0
  · subst h
    have hg : Tryz.prog.globalNamed "internal/strconv.uint64pow10" = some 1 := by kernel_rfl
    have hcell : w.cell? ⟨1, 0, none⟩ = some (.int .u64 1) := by
      rw [htab.cell hg 0 (by rw [Lib.pow10Tab_length]; omega), Lib.pow10Tab_at _ (by omega)]; rfl
    have hb : Lib.bitLen (Int.toNat 0) = 0 := by decide
    have hl : l10p 0 = 0 := by decide +kernel
    have HN := Lib.hid (show Ending.returned (.int .i64 0) = .returned (.int .i64 (ndU 0 : Nat)) from rfl)
    clear htab hg
    go_enter Tryz.func50, Tryz.ntmps50
    go_wp2_with fail
    go_at_call 68; refine (Tryz.bits_Len64 0 _ (by omega) (by omega)).mono ?_; rintro e w1 ⟨rfl, rfl⟩
    rw [hb]
    go_wp2_with fail
    go_at_call 67; refine (log10Pow2_any _ _).mono ?_; rintro e w1 ⟨rfl, rfl⟩
    go_wp2_with (go_at_call 69; refine (Tryz.internal_strconv_bool2_int false _).mono ?_; rintro e w1 ⟨rfl, rfl⟩)
    go_ret
    exact ⟨HN.out, rfl⟩
  · have e : ndU u = Lib.nDigits u := by unfold ndU; rw [if_neg h]
    rw [e]
    refine (Tryz.internal_strconv_numDigits u (by omega) h2 w htab).mono ?_
    rintro e w' ⟨rfl, rfl⟩
    exact ⟨rfl, rfl⟩
/-- So many digits, the noughts at the end left out. -/
def tz (D : List UInt8) : Nat → Nat
  | 0 => 0
  | k + 1 => if D.getD k 0 = 48 then tz D k else k + 1
theorem tz_le (D : List UInt8) : ∀ k, tz D k ≤ k := by
  intro k
  induction k with
  | zero => exact Nat.le_refl _
  | succ k ih => unfold tz; split <;> omega
def encU (b : UInt8) : Value := .int .u8 (b.toNat : Int)
theorem grown_putRow (enc : UInt8 → Value) (w : World) (blk off : Nat) (d : Array UInt8) : w.grownBy (Sort.putRow enc w blk off d) (some blk) := by
  unfold Sort.putRow Sort.mapBlock
  refine ⟨rfl, rfl, rfl, by simp, fun i hi hne => ?_⟩
  simp only
  rw [Array.getElem?_modify, if_neg (fun e => hne (by rw [e]))]
/-- The digits lie at the head of the block. -/
def Digs (w : World) (bb : Nat) (D : List UInt8) : Prop := ∀ i (h : i < D.length), w.cell? ⟨bb, i, none⟩ = some (.int .u8 (D[i].toNat : Int))
theorem digs_at {w : World} {bb : Nat} {D : List UInt8} (h : Digs w bb D) (i : Nat) (hi : i < D.length) : w.cell? ⟨bb, i, none⟩ = some (.int .u8 ((D.getD i 0).toNat : Int)) := by
  rw [h i hi]; simp [List.getD, hi]
theorem digs_of {w : World} {bb u v' n : Nat} {dk : Array UInt8} (hz : Sort.Holds encU w bb 0 (Array.replicate (ndU u) 0)) (hF : Lib.FmtInv (ndU u) u 0 v' dk) : Digs ((Sort.putRow encU w bb 0 dk).drewN n) bb (digU u) := by
  intro i hi
  rw [World.cell?_drewN]
  have hi' : i < ndU u := by rw [← digU_len]; exact hi
  have h := Sort.cell?_putRow encU w bb 0 _ dk hz (by rw [hF.size, Array.size_replicate]) i (by rw [hF.size]; exact hi')
  rw [Nat.zero_add] at h
  rw [h]
  by_cases hu : u = 0
  · subst hu; exact absurd hi' (by simp [ndU])
  · have e : ndU u = Lib.nDigits u := by unfold ndU; rw [if_neg hu]
    have e2 : digU u = Lib.decDigits u := by unfold digU; rw [if_neg hu]
    rw [e] at hF
    have := Lib.row_is_numeral hF i (by rw [← e2]; exact hi)
    simp only [e2]
    rw [this]
    rfl
set_option maxRecDepth 100000 in
set_option maxHeartbeats 2000000 in
theorem setDigits_any (u : Nat) (p : Int) (bb : Nat) (hu : u < 18446744073709551616) (hp1 : -1000 ≤ p) (hp2 : p ≤ 1000) (w : World) (hz : ∀ i, i < 32 → w.cell? ⟨bb, i, none⟩ = some (.int .u8 0) ∧ w.frozen? ⟨bb, i, none⟩ = false) : Calls Tryz.prog 78 #[.slice (some ⟨bb, 0, none⟩) 32 32, .int .u64 u, .int .i64 p, .int .i64 (ndU u)] w fun e w' => e = .returned (.tuple #[.int .i64 ((ndU u : Int) + p), .int .i64 (tz (digU u) (ndU u))]) ∧ w.grownBy w' (some bb) ∧ Digs w' bb (digU u) := by
  have h20 := ndU_le u hu
  have hH : Sort.Holds encU w bb 0 (Array.replicate (ndU u) 0) := by
    intro j hj
    rw [Array.size_replicate] at hj
    rw [Nat.zero_add]
    refine ⟨?_, (hz j (by omega)).2⟩
    rw [(hz j (by omega)).1, getElem!_pos _ j (by rw [Array.size_replicate]; exact hj), Array.getElem_replicate]
    rfl
  have hsm : u < 10 ^ ndU u := by
    unfold ndU
    split
    · omega
    · exact Lib.lt_pow_nDigits u
  have hfmt := Tryz.internal_strconv_formatBase10 bb 0 32 u (Array.replicate (ndU u) 0) w hH (by rw [Array.size_replicate]; exact hsm) hu (by rw [Array.size_replicate]; omega)
  rw [Array.size_replicate] at hfmt
  have hlen := digU_len u
  have HH := Lib.hid hH
  obtain ⟨nd, hnd⟩ : ∃ nd, nd = ndU u := ⟨_, rfl⟩
  obtain ⟨D, hD⟩ : ∃ D, D = digU u := ⟨_, rfl⟩
  have HN := Lib.hid hnd
  have HDD := Lib.hid hD
  rw [← hnd] at h20 hfmt hlen ⊢
  rw [← hD] at hlen ⊢
  have HLEN := Lib.hid hlen
  have h20' : (nd : Int) ≤ 20 := by omega
  clear hz hH hsm hnd hD hlen
  go_enter Tryz.func78, Tryz.ntmps78
  go_wp2_with fail
  go_at_call 51; refine hfmt.mono ?_; rintro e w1 ⟨rfl, n, v', dk, hw1, hF⟩
  have HG := Lib.hid (show w.grownBy w1 (some bb) by
    rw [hw1]
    have h := grown_putRow encU w bb 0 dk
    exact ⟨h.os, h.tape, h.output, h.size, h.block⟩)
  have HDG := Lib.hid (show Digs w1 bb D by rw [hw1, HDD.out]; exact digs_of HH.out (by rw [← HN.out]; exact hF))
  clear hw1 hF
  go_wp2
  go_loop [3] (fun t => ∃ k : Nat, k ≤ nd ∧ t = .int .i64 k ∧ Hid (tz D k = tz D nd)) (fun t => (intOf t).toNat)
  case atStart => exact ⟨nd, Nat.le_refl _, rfl, Lib.hid rfl⟩
  case round =>
    obtain ⟨k, hk, rfl, HK⟩ := hrel
    cases k with
    | zero =>
      have HE := Lib.hid (show Ending.returned (.tuple #[.int .i64 ((nd : Int) + p), .int .i64 0]) = .returned (.tuple #[.int .i64 ((nd : Int) + p), .int .i64 (tz D nd)]) by rw [← HK.out]; rfl)
      go_wp2
      go_ret2
      exact ⟨HE.out, HG.out, HDG.out⟩
    | succ k =>
      have hc := digs_at HDG.out k (by rw [HLEN.out]; omega)
      have hk0 : (0 : Int) < ((k + 1 : Nat) : Int) := by omega
      obtain ⟨c, hcc⟩ : ∃ c : Int, ((D.getD k 0).toNat : Int) = c := ⟨_, rfl⟩
      rw [hcc] at hc
      have HCC := Lib.hid hcc
      clear hcc
      cases hb : (c == 48)
      · have hne : D.getD k 0 ≠ 48 := by
          intro e
          have := HCC.out
          rw [e] at this
          rw [← this] at hb
          exact absurd hb (by decide)
        have HE := Lib.hid (show Ending.returned (.tuple #[.int .i64 ((nd : Int) + p), .int .i64 ((k + 1 : Nat) : Int)]) = .returned (.tuple #[.int .i64 ((nd : Int) + p), .int .i64 (tz D nd)]) by
          rw [← HK.out]
          simp only [tz, if_neg hne])
        clear hne
        go_wp2
        go_ret2
        exact ⟨HE.out, HG.out, HDG.out⟩
      · have heq : D.getD k 0 = 48 := by
          have h1 := HCC.out
          have h2 : c = 48 := by simpa using hb
          rw [h2] at h1
          apply UInt8.toNat_inj.1
          have : (D.getD k 0).toNat = 48 := by omega
          rw [this]; rfl
        have HKN := Lib.hid (show tz D k = tz D nd by
          rw [← HK.out]
          simp only [tz, if_pos heq])
        clear heq
        go_wp2
        go_round
        case rel => exact ⟨k, by omega, by go_num, HKN⟩
        case measure => simp [intOf]
end Num
end Go.Proofs.YtahcgdjcjapnkaaGreatDoor
