/-
  Go's scaling by powers of ten (internal/strconv): the small functions, prescale, uscale.
-/
import Derived.Test.YtahcgdjcjapnkaaGreatDoorVBase
import Derived.Test.YtahcgdjcjapnkaaGreatDoorShelf
import GoSem.PinnedTables
import Derived.Deep.RegionHeld3
namespace Go.Proofs.YtahcgdjcjapnkaaGreatDoor
open Go.RowKit
namespace Num
open Ints
set_option linter.unusedSimpArgs false
set_option linter.unusedVariables false
def powHi (i : Nat) : Nat := (Pinned.pow10Rows.getD i (0, 0)).1
def powLo (i : Nat) : Nat := (Pinned.pow10Rows.getD i (0, 0)).2
/-- The table of powers of ten lies in memory. -/
def PowTab (w : World) : Prop := ∀ i, i < 696 → w.cell? ⟨12, i * 2, none⟩ = some (.int .u64 (powHi i)) ∧ w.cell? ⟨12, i * 2 + 1, none⟩ = some (.int .u64 (powLo i))
theorem powTab_keep {w w' : World} (h : PowTab w) (hb : Below w.heap.size w w') : PowTab w' := by
  intro i hi
  obtain ⟨h1, h2⟩ := h i hi
  have l1 : 12 < w.heap.size := World.block_lt_of_cell? w _ h1
  exact ⟨by rw [hb.cell l1]; exact h1, by rw [hb.cell l1]; exact h2⟩
theorem pow_lt : ∀ i : Fin 696, powHi i.val < 18446744073709551616 ∧ powLo i.val < 18446744073709551616 := by decide +kernel
theorem bool2u_any (b : Bool) (w : World) : Calls Tryz.prog 120 #[.bool b] w fun e w' => e = .returned (.int .u64 (if b = true then 1 else 0)) ∧ w = w' := by
  cases b
  all_goals
    go_enter Tryz.func120, Tryz.ntmps120
    go_wp2
    go_ret
    exact ⟨rfl, rfl⟩
def nudgeU (u d : Int) : Int := IntKind.u64.wrap (u + IntKind.u64.wrap d)
theorem nudge_any (u d : Int) (w : World) : Calls Tryz.prog 101 #[.int .u64 u, .int .i64 d] w fun e w' => e = .returned (.int .u64 (nudgeU u d)) ∧ w = w' := by
  go_enter Tryz.func101, Tryz.ntmps101
  go_wp2
  go_ret
  exact ⟨rfl, rfl⟩
def ceilU (u : Int) : Int := IntKind.u64.wrap (u + 3) / 4
theorem ceil_any (u : Int) (w : World) : Calls Tryz.prog 102 #[.int .u64 u] w fun e w' => e = .returned (.int .u64 (ceilU u)) ∧ w = w' := by
  go_enter Tryz.func102, Tryz.ntmps102
  go_wp2
  go_ret
  exact ⟨rfl, rfl⟩
def roundU (u : Int) : Int := IntKind.u64.wrap (IntKind.u64.wrap (u + 1) + bits BinOp.and IntKind.u64 (u / 4) 1) / 4
theorem round_any (u : Int) (w : World) : Calls Tryz.prog 104 #[.int .u64 u] w fun e w' => e = .returned (.int .u64 (roundU u)) ∧ w = w' := by
  go_enter Tryz.func104, Tryz.ntmps104
  go_wp2
  go_ret
  exact ⟨rfl, rfl⟩
def floorU (u : Int) : Int := IntKind.u64.wrap u / 4
theorem floor_any (u : Int) (w : World) : Calls Tryz.prog 103 #[.int .u64 u] w fun e w' => e = .returned (.int .u64 (floorU u)) ∧ w = w' := by
  go_enter Tryz.func103, Tryz.ntmps103
  go_wp2
  go_ret
  exact ⟨rfl, rfl⟩
def l2p (x : Int) : Int := wrap64 (x * 108853) / 32768
theorem log2Pow10_any (u : Int) (w : World) : Calls Tryz.prog 99 #[.int .i64 u] w fun e w' => e = .returned (.int .i64 (l2p u)) ∧ w = w' := by
  go_enter Tryz.func99, Tryz.ntmps99
  go_wp2
  go_ret
  exact ⟨rfl, rfl⟩
def l10p (x : Int) : Int := wrap64 (x * 78913) / 262144
theorem log10Pow2_any (u : Int) (w : World) : Calls Tryz.prog 67 #[.int .i64 u] w fun e w' => e = .returned (.int .i64 (l10p u)) ∧ w = w' := by
  go_enter Tryz.func67, Tryz.ntmps67
  go_wp2
  go_ret
  exact ⟨rfl, rfl⟩
def skw (x : Int) : Int := wrap64 (wrap64 (x * 631305) - 261663) / 2097152
theorem skewed_any (u : Int) (w : World) : Calls Tryz.prog 97 #[.int .i64 u] w fun e w' => e = .returned (.int .i64 (skw u)) ∧ w = w' := by
  go_enter Tryz.func97, Tryz.ntmps97
  go_wp2
  go_ret
  exact ⟨rfl, rfl⟩
theorem set3_row {w : World} {b : Nat} {a0 a1 a2 : Value} {t : TypeId} (h : w.heap[b]? = some (.cells #[a0, a1, a2] t (0, 0))) (v0 v1 v2 : Value) :
    (((w.setCell ⟨b, 0, none⟩ v0).setCell ⟨b, 1, none⟩ v1).setCell ⟨b, 2, none⟩ v2).heap[b]? = some (.cells #[v0, v1, v2] t (0, 0)) := by
  simp [World.setCell, Array.getElem?_modify, h]
/-- What prescale leaves in the scaler. -/
def preS (e p lp : Int) : Int := wrap64 (-(wrap64 (wrap64 (e + lp) + 3)))
theorem prescale_any (e p lp : Int) (i : Nat) (hpi : p + 348 = i) (hi : i < 696) (hp1 : -348 ≤ p) (hp2 : p ≤ 347) (w : World) (pb : Nat) (a0 a1 a2 : Value) (hr : w.heap[pb]? = some (.cells #[a0, a1, a2] 140 (0, 0))) (ht : PowTab w) (hne : 12 ≠ pb) : Calls Tryz.prog 98 #[.pointer (some ⟨pb, 0, none⟩), .int .i64 e, .int .i64 p, .int .i64 lp] w fun e' w' => e' = .returned (.tuple #[]) ∧ w' = ((w.setCell ⟨pb, 0, none⟩ (.int .u64 (powHi i))).setCell ⟨pb, 1, none⟩ (.int .u64 (powLo i))).setCell ⟨pb, 2, none⟩ (.int .i64 (preS e p lp)) := by
  obtain ⟨t1, t2⟩ := ht i hi
  have c0 := row_cell hr 0
  have c1 := row_cell hr 1
  have c2 := row_cell hr 2
  simp only [List.getElem?_toArray, List.getElem?_cons_zero, List.getElem?_cons_succ] at c0 c1 c2
  have f := fun o => row_frz hr o
  have hi' : (i : Int) < 696 := by omega
  have hne' : pb ≠ 12 := fun e => hne e.symm
  clear ht hr
  go_enter Tryz.func98, Tryz.ntmps98
  go_wp2
  go_end0
  exact ⟨rfl, rfl⟩
theorem s6_lo (s : Int) : 0 ≤ bits BinOp.and IntKind.i64 s 63 ∧ bits BinOp.and IntKind.i64 s 63 ≤ 63 := by
  unfold bits
  have h : (BitVec.ofInt IntKind.i64.bits s &&& BitVec.ofInt IntKind.i64.bits 63).toNat ≤ 63 := by
    rw [BitVec.toNat_and]
    exact Nat.le_trans Nat.and_le_right (by decide)
  simp only
  generalize (BitVec.ofInt IntKind.i64.bits s &&& BitVec.ofInt IntKind.i64.bits 63).toNat = n at h
  have e : IntKind.i64.wrap (n : Int) = (n : Int) := IntWalk.i64_in _ (by omega)
  rw [e]
  omega
/-- What uscale comes to. -/
def uscaleU (x ph pl : Nat) (s : Int) : Int :=
  if (IntKind.u64.wrap (((x * ph / 18446744073709551616 : Nat) : Int) / 2 ^ (bits BinOp.and IntKind.i64 s 63).toNat * 2 ^ (bits BinOp.and IntKind.i64 s 63).toNat) != ((x * ph / 18446744073709551616 : Nat) : Int)) = true
  then bits BinOp.or IntKind.u64 (((x * ph / 18446744073709551616 : Nat) : Int) / 2 ^ (bits BinOp.and IntKind.i64 s 63).toNat) 1
  else bits BinOp.or IntKind.u64 (IntKind.u64.wrap (((x * ph / 18446744073709551616 : Nat) : Int) - (if decide (x * ph % 18446744073709551616 < x * pl / 18446744073709551616) = true then 1 else 0)) / 2 ^ (bits BinOp.and IntKind.i64 s 63).toNat)
    (if decide (1 < IntKind.u64.wrap (((x * ph % 18446744073709551616 : Nat) : Int) - ((x * pl / 18446744073709551616 : Nat) : Int))) = true then 1 else 0)
set_option maxRecDepth 100000 in
set_option maxHeartbeats 1000000 in
theorem uscale_any (x ph pl : Nat) (s : Int) (hx : x < 18446744073709551616) (hph : ph < 18446744073709551616) (hpl : pl < 18446744073709551616) (w : World) (pb : Nat) (c0 : w.cell? ⟨pb, 0, none⟩ = some (.int .u64 ph)) (c1 : w.cell? ⟨pb, 1, none⟩ = some (.int .u64 pl)) (c2 : w.cell? ⟨pb, 2, none⟩ = some (.int .i64 s)) : Calls Tryz.prog 100 #[.int .u64 x, .pointer (some ⟨pb, 0, none⟩)] w fun e w' => e = .returned (.int .u64 (uscaleU x ph pl s)) ∧ ∃ n, w' = w.drewN n := by
  obtain ⟨h0, h1⟩ := s6_lo s
  obtain ⟨U, hU⟩ : ∃ U, U = uscaleU x ph pl s := ⟨_, rfl⟩
  rw [← hU]
  unfold uscaleU at hU
  obtain ⟨s6, hs6⟩ : ∃ s6, bits BinOp.and IntKind.i64 s 63 = s6 := ⟨_, rfl⟩
  obtain ⟨hi, hhi⟩ : ∃ hi, hi = x * ph / 18446744073709551616 := ⟨_, rfl⟩
  obtain ⟨mid, hmid⟩ : ∃ mid, mid = x * ph % 18446744073709551616 := ⟨_, rfl⟩
  obtain ⟨mid2, hmid2⟩ : ∃ mid2, mid2 = x * pl / 18446744073709551616 := ⟨_, rfl⟩
  rw [hs6, ← hhi, ← hmid, ← hmid2] at hU
  rw [hs6] at h0 h1
  have HHI := Lib.hid hhi
  have HM := Lib.hid hmid
  have HM2 := Lib.hid hmid2
  clear hhi hmid hmid2
  cases hb : (IntKind.u64.wrap ((hi : Int) / 2 ^ s6.toNat * 2 ^ s6.toNat) != (hi : Int))
  · rw [hb] at hU
    obtain ⟨dd, hdd⟩ : ∃ dd, IntKind.u64.wrap ((mid : Int) - (mid2 : Int)) = dd := ⟨_, rfl⟩
    rw [hdd] at hU
    have hi64 : hi < 18446744073709551616 := by
      rw [HHI.out]
      exact Nat.div_lt_of_lt_mul (Nat.mul_lt_mul'' hx hph)
    have hwh : IntKind.u64.wrap (hi : Int) = (hi : Int) := IntWalk.u64_in _ (by omega)
    obtain ⟨h1m, hh1m⟩ : ∃ h1m, IntKind.u64.wrap ((hi : Int) - 1) = h1m := ⟨_, rfl⟩
    have h1m0 : 0 ≤ h1m := by rw [← hh1m, IntKind.wrap_u64]; omega
    by_cases hm : mid < mid2
    · by_cases hd : 1 < dd
      · have HU := Lib.hid (show bits BinOp.or IntKind.u64 (h1m / 2 ^ s6.toNat) 1 = U by rw [hU]; simp [hm, hd, hh1m, hwh])
        clear hU
        go_enter Tryz.func100, Tryz.ntmps100
        go_wp2_with fail
        go_at_call 119; refine (Tryz.bits_Mul64 _ _ (by assumption) (by assumption) _).mono ?_; rintro e w1 ⟨rfl, rfl⟩
        rw [← HHI.out, ← HM.out]
        go_wp2_with fail
        go_at_call 119; refine (Tryz.bits_Mul64 _ _ (by assumption) (by assumption) _).mono ?_; rintro e w1 ⟨rfl, rfl⟩
        rw [← HM2.out]
        go_wp2_with fail
        go_at_call 120; refine (bool2u_any true _).mono ?_; rintro e w1 ⟨rfl, rfl⟩
        go_wp2
        refine wp_region_held_drew (S := fun w' => ∃ n, w' = w1.drewN n) (by kernel_rfl) ?_ (fun hHeld => ?_)
        · exact ⟨1, rfl⟩
        refine wpAnyH_take (i := 0) (oi := ?_) (v := ?_) ?hiu1x0 (by kernel_rfl) ?hfu1x0 ?hru1x0 ?hQu1x0 ?hyu1x0 (by assumption) ?restu1x0
        case hiu1x0 => (simp only [List.getElem?_toArray, List.getElem?_cons_zero, List.getElem?_cons_succ]; rfl)
        case hfu1x0 => kernel_rfl
        case hru1x0 => kernel_rfl
        case hyu1x0 => (refine Or.inl ⟨by rfl, ?_⟩; intro w hSw; (try dsimp only at hSw); go_simp; (try with_reducible rfl))
        case hQu1x0 => exact fun _ _ _ h => h
        (try simp only [Act.put, List.setIfInBounds_toArray, List.set_cons_zero, List.set_cons_succ])
        refine wpAnyH_take (i := 1) (oi := ?_) (v := ?_) ?hiu1x1 (by kernel_rfl) ?hfu1x1 ?hru1x1 ?hQu1x1 ?hyu1x1 (by assumption) ?restu1x1
        case hiu1x1 => (simp only [List.getElem?_toArray, List.getElem?_cons_zero, List.getElem?_cons_succ]; rfl)
        case hfu1x1 => kernel_rfl
        case hru1x1 => kernel_rfl
        case hyu1x1 => (refine Or.inl ⟨by rfl, ?_⟩; intro w hSw; (try dsimp only at hSw); go_simp; (try with_reducible rfl))
        case hQu1x1 => exact fun _ _ _ h => h
        (try simp only [Act.put, List.setIfInBounds_toArray, List.set_cons_zero, List.set_cons_succ])
        refine wpAnyH_take (i := 2) (oi := ?_) (v := ?_) ?hiu1x2 (by kernel_rfl) ?hfu1x2 ?hru1x2 ?hQu1x2 ?hyu1x2 (by assumption) ?restu1x2
        case hiu1x2 => (simp only [List.getElem?_toArray, List.getElem?_cons_zero, List.getElem?_cons_succ]; rfl)
        case hfu1x2 => kernel_rfl
        case hru1x2 => kernel_rfl
        case hyu1x2 => (refine Or.inl ⟨by rfl, ?_⟩; intro w hSw; (try dsimp only at hSw); go_simp; (try with_reducible rfl))
        case hQu1x2 => exact fun _ _ _ h => h
        (try simp only [Act.put, List.setIfInBounds_toArray, List.set_cons_zero, List.set_cons_succ])
        refine wpAnyH_take (i := 3) (oi := ?_) (v := ?_) ?hiu1x3 (by kernel_rfl) ?hfu1x3 ?hru1x3 ?hQu1x3 ?hyu1x3 (by assumption) ?restu1x3
        case hiu1x3 => (simp only [List.getElem?_toArray, List.getElem?_cons_zero, List.getElem?_cons_succ]; rfl)
        case hfu1x3 => kernel_rfl
        case hru1x3 => kernel_rfl
        case hyu1x3 => (refine Or.inl ⟨by rfl, ?_⟩; intro w hSw; (try dsimp only at hSw); go_simp; (try with_reducible rfl))
        case hQu1x3 => exact fun _ _ _ h => h
        (try simp only [Act.put, List.setIfInBounds_toArray, List.set_cons_zero, List.set_cons_succ])
        refine wpAnyH_take (i := 4) (oi := ?_) (v := ?_) ?hiu1x4 (by kernel_rfl) ?hfu1x4 ?hru1x4 ?hQu1x4 ?hyu1x4 (by assumption) ?restu1x4
        case hiu1x4 => (simp only [List.getElem?_toArray, List.getElem?_cons_zero, List.getElem?_cons_succ]; rfl)
        case hfu1x4 => kernel_rfl
        case hru1x4 => kernel_rfl
        case hyu1x4 => (refine Or.inl ⟨by rfl, ?_⟩; intro w hSw; (try dsimp only at hSw); go_simp; (try with_reducible rfl))
        case hQu1x4 => exact fun _ _ _ h => h
        (try simp only [Act.put, List.setIfInBounds_toArray, List.set_cons_zero, List.set_cons_succ])
        refine wpAnyH_take (i := 5) (oi := ?_) (v := ?_) ?hiu1x5 (by kernel_rfl) ?hfu1x5 ?hru1x5 ?hQu1x5 ?hyu1x5 (by assumption) ?restu1x5
        case hiu1x5 => (simp only [List.getElem?_toArray, List.getElem?_cons_zero, List.getElem?_cons_succ]; rfl)
        case hfu1x5 => kernel_rfl
        case hru1x5 => kernel_rfl
        case hyu1x5 => (refine Or.inl ⟨by rfl, ?_⟩; intro w hSw; (try dsimp only at hSw); go_simp; (try with_reducible rfl))
        case hQu1x5 => exact fun _ _ _ h => h
        (try simp only [Act.put, List.setIfInBounds_toArray, List.set_cons_zero, List.set_cons_succ])
        refine wpAnyH_take (i := 6) (oi := ?_) (v := ?_) ?hiu1x6 (by kernel_rfl) ?hfu1x6 ?hru1x6 ?hQu1x6 ?hyu1x6 (by assumption) ?restu1x6
        case hiu1x6 => (simp only [List.getElem?_toArray, List.getElem?_cons_zero, List.getElem?_cons_succ]; rfl)
        case hfu1x6 => kernel_rfl
        case hru1x6 => kernel_rfl
        case hyu1x6 => (refine Or.inl ⟨by rfl, ?_⟩; intro w hSw; (try dsimp only at hSw); go_simp; (try with_reducible rfl))
        case hQu1x6 => exact fun _ _ _ h => h
        (try simp only [Act.put, List.setIfInBounds_toArray, List.set_cons_zero, List.set_cons_succ])
        refine wpAnyH_ready (rs := [7]) (by kernel_rfl) (by simp) ?_
        refine AllReadyH.cons (o := ?_) ?hou1x7 ?hstu1x7 AllReadyH.nil
        case hou1x7 => (simp only [List.getElem?_toArray, List.getElem?_cons_zero, List.getElem?_cons_succ]; rfl)
        intro K hK
        go_simp
        go_at_call 120; refine (bool2u_any true _).mono ?_; rintro e w2 ⟨rfl, rfl⟩
        go_wp2_with fail
        refine hK.out _ _ ?hsu1x7 (fun hHeld => ?_)
        case hsu1x7 => exact hHeld
        clear hK K
        (try simp only [Act.put, List.setIfInBounds_toArray, List.set_cons_zero, List.set_cons_succ])
        refine wpAnyH_take (i := 8) (oi := ?_) (v := ?_) ?hiu1x8 (by kernel_rfl) ?hfu1x8 ?hru1x8 ?hQu1x8 ?hyu1x8 (by assumption) ?restu1x8
        case hiu1x8 => (simp only [List.getElem?_toArray, List.getElem?_cons_zero, List.getElem?_cons_succ]; rfl)
        case hfu1x8 => kernel_rfl
        case hru1x8 => kernel_rfl
        case hyu1x8 => (refine Or.inl ⟨by rfl, ?_⟩; intro w hSw; (try dsimp only at hSw); go_simp; (try with_reducible rfl))
        case hQu1x8 => exact fun _ _ _ h => h
        (try simp only [Act.put, List.setIfInBounds_toArray, List.set_cons_zero, List.set_cons_succ])
        refine wpAnyH_take (i := 9) (oi := ?_) (v := ?_) ?hiu1x9 (by kernel_rfl) ?hfu1x9 ?hru1x9 ?hQu1x9 ?hyu1x9 (by assumption) ?restu1x9
        case hiu1x9 => (simp only [List.getElem?_toArray, List.getElem?_cons_zero, List.getElem?_cons_succ]; rfl)
        case hfu1x9 => kernel_rfl
        case hru1x9 => kernel_rfl
        case hyu1x9 => (refine Or.inl ⟨by rfl, ?_⟩; intro w hSw; (try dsimp only at hSw); go_simp; (try with_reducible rfl))
        case hQu1x9 => exact fun _ _ _ h => h
        (try simp only [Act.put, List.setIfInBounds_toArray, List.set_cons_zero, List.set_cons_succ])
        refine wpAnyH_done (by kernel_rfl) ?_ _
        go_wp2
        go_ret
        exact ⟨congrArg (fun n => Ending.returned (.int .u64 n)) HU.out, 1, rfl⟩
      · have hdf : decide (1 < dd) = false := decide_eq_false hd
        have HU := Lib.hid (show bits BinOp.or IntKind.u64 (h1m / 2 ^ s6.toNat) 0 = U by rw [hU]; simp [hm, hd, hh1m, hwh])
        clear hU
        go_enter Tryz.func100, Tryz.ntmps100
        go_wp2_with fail
        go_at_call 119; refine (Tryz.bits_Mul64 _ _ (by assumption) (by assumption) _).mono ?_; rintro e w1 ⟨rfl, rfl⟩
        rw [← HHI.out, ← HM.out]
        go_wp2_with fail
        go_at_call 119; refine (Tryz.bits_Mul64 _ _ (by assumption) (by assumption) _).mono ?_; rintro e w1 ⟨rfl, rfl⟩
        rw [← HM2.out]
        go_wp2_with fail
        go_at_call 120; refine (bool2u_any true _).mono ?_; rintro e w1 ⟨rfl, rfl⟩
        go_wp2
        refine wp_region_held_drew (S := fun w' => ∃ n, w' = w1.drewN n) (by kernel_rfl) ?_ (fun hHeld => ?_)
        · exact ⟨1, rfl⟩
        refine wpAnyH_take (i := 0) (oi := ?_) (v := ?_) ?hiu2x0 (by kernel_rfl) ?hfu2x0 ?hru2x0 ?hQu2x0 ?hyu2x0 (by assumption) ?restu2x0
        case hiu2x0 => (simp only [List.getElem?_toArray, List.getElem?_cons_zero, List.getElem?_cons_succ]; rfl)
        case hfu2x0 => kernel_rfl
        case hru2x0 => kernel_rfl
        case hyu2x0 => (refine Or.inl ⟨by rfl, ?_⟩; intro w hSw; (try dsimp only at hSw); go_simp; (try with_reducible rfl))
        case hQu2x0 => exact fun _ _ _ h => h
        (try simp only [Act.put, List.setIfInBounds_toArray, List.set_cons_zero, List.set_cons_succ])
        refine wpAnyH_take (i := 1) (oi := ?_) (v := ?_) ?hiu2x1 (by kernel_rfl) ?hfu2x1 ?hru2x1 ?hQu2x1 ?hyu2x1 (by assumption) ?restu2x1
        case hiu2x1 => (simp only [List.getElem?_toArray, List.getElem?_cons_zero, List.getElem?_cons_succ]; rfl)
        case hfu2x1 => kernel_rfl
        case hru2x1 => kernel_rfl
        case hyu2x1 => (refine Or.inl ⟨by rfl, ?_⟩; intro w hSw; (try dsimp only at hSw); go_simp; (try with_reducible rfl))
        case hQu2x1 => exact fun _ _ _ h => h
        (try simp only [Act.put, List.setIfInBounds_toArray, List.set_cons_zero, List.set_cons_succ])
        refine wpAnyH_take (i := 2) (oi := ?_) (v := ?_) ?hiu2x2 (by kernel_rfl) ?hfu2x2 ?hru2x2 ?hQu2x2 ?hyu2x2 (by assumption) ?restu2x2
        case hiu2x2 => (simp only [List.getElem?_toArray, List.getElem?_cons_zero, List.getElem?_cons_succ]; rfl)
        case hfu2x2 => kernel_rfl
        case hru2x2 => kernel_rfl
        case hyu2x2 => (refine Or.inl ⟨by rfl, ?_⟩; intro w hSw; (try dsimp only at hSw); go_simp; (try with_reducible rfl))
        case hQu2x2 => exact fun _ _ _ h => h
        (try simp only [Act.put, List.setIfInBounds_toArray, List.set_cons_zero, List.set_cons_succ])
        refine wpAnyH_take (i := 3) (oi := ?_) (v := ?_) ?hiu2x3 (by kernel_rfl) ?hfu2x3 ?hru2x3 ?hQu2x3 ?hyu2x3 (by assumption) ?restu2x3
        case hiu2x3 => (simp only [List.getElem?_toArray, List.getElem?_cons_zero, List.getElem?_cons_succ]; rfl)
        case hfu2x3 => kernel_rfl
        case hru2x3 => kernel_rfl
        case hyu2x3 => (refine Or.inl ⟨by rfl, ?_⟩; intro w hSw; (try dsimp only at hSw); go_simp; (try with_reducible rfl))
        case hQu2x3 => exact fun _ _ _ h => h
        (try simp only [Act.put, List.setIfInBounds_toArray, List.set_cons_zero, List.set_cons_succ])
        refine wpAnyH_take (i := 4) (oi := ?_) (v := ?_) ?hiu2x4 (by kernel_rfl) ?hfu2x4 ?hru2x4 ?hQu2x4 ?hyu2x4 (by assumption) ?restu2x4
        case hiu2x4 => (simp only [List.getElem?_toArray, List.getElem?_cons_zero, List.getElem?_cons_succ]; rfl)
        case hfu2x4 => kernel_rfl
        case hru2x4 => kernel_rfl
        case hyu2x4 => (refine Or.inl ⟨by rfl, ?_⟩; intro w hSw; (try dsimp only at hSw); go_simp; (try with_reducible rfl))
        case hQu2x4 => exact fun _ _ _ h => h
        (try simp only [Act.put, List.setIfInBounds_toArray, List.set_cons_zero, List.set_cons_succ])
        refine wpAnyH_take (i := 5) (oi := ?_) (v := ?_) ?hiu2x5 (by kernel_rfl) ?hfu2x5 ?hru2x5 ?hQu2x5 ?hyu2x5 (by assumption) ?restu2x5
        case hiu2x5 => (simp only [List.getElem?_toArray, List.getElem?_cons_zero, List.getElem?_cons_succ]; rfl)
        case hfu2x5 => kernel_rfl
        case hru2x5 => kernel_rfl
        case hyu2x5 => (refine Or.inl ⟨by rfl, ?_⟩; intro w hSw; (try dsimp only at hSw); go_simp; (try with_reducible rfl))
        case hQu2x5 => exact fun _ _ _ h => h
        (try simp only [Act.put, List.setIfInBounds_toArray, List.set_cons_zero, List.set_cons_succ])
        refine wpAnyH_take (i := 6) (oi := ?_) (v := ?_) ?hiu2x6 (by kernel_rfl) ?hfu2x6 ?hru2x6 ?hQu2x6 ?hyu2x6 (by assumption) ?restu2x6
        case hiu2x6 => (simp only [List.getElem?_toArray, List.getElem?_cons_zero, List.getElem?_cons_succ]; rfl)
        case hfu2x6 => kernel_rfl
        case hru2x6 => kernel_rfl
        case hyu2x6 => (refine Or.inl ⟨by rfl, ?_⟩; intro w hSw; (try dsimp only at hSw); go_simp; (try with_reducible rfl))
        case hQu2x6 => exact fun _ _ _ h => h
        (try simp only [Act.put, List.setIfInBounds_toArray, List.set_cons_zero, List.set_cons_succ])
        refine wpAnyH_ready (rs := [7]) (by kernel_rfl) (by simp) ?_
        refine AllReadyH.cons (o := ?_) ?hou2x7 ?hstu2x7 AllReadyH.nil
        case hou2x7 => (simp only [List.getElem?_toArray, List.getElem?_cons_zero, List.getElem?_cons_succ]; rfl)
        intro K hK
        go_simp
        go_at_call 120; refine (bool2u_any false _).mono ?_; rintro e w2 ⟨rfl, rfl⟩
        go_wp2_with fail
        refine hK.out _ _ ?hsu2x7 (fun hHeld => ?_)
        case hsu2x7 => exact hHeld
        clear hK K
        (try simp only [Act.put, List.setIfInBounds_toArray, List.set_cons_zero, List.set_cons_succ])
        refine wpAnyH_take (i := 8) (oi := ?_) (v := ?_) ?hiu2x8 (by kernel_rfl) ?hfu2x8 ?hru2x8 ?hQu2x8 ?hyu2x8 (by assumption) ?restu2x8
        case hiu2x8 => (simp only [List.getElem?_toArray, List.getElem?_cons_zero, List.getElem?_cons_succ]; rfl)
        case hfu2x8 => kernel_rfl
        case hru2x8 => kernel_rfl
        case hyu2x8 => (refine Or.inl ⟨by rfl, ?_⟩; intro w hSw; (try dsimp only at hSw); go_simp; (try with_reducible rfl))
        case hQu2x8 => exact fun _ _ _ h => h
        (try simp only [Act.put, List.setIfInBounds_toArray, List.set_cons_zero, List.set_cons_succ])
        refine wpAnyH_take (i := 9) (oi := ?_) (v := ?_) ?hiu2x9 (by kernel_rfl) ?hfu2x9 ?hru2x9 ?hQu2x9 ?hyu2x9 (by assumption) ?restu2x9
        case hiu2x9 => (simp only [List.getElem?_toArray, List.getElem?_cons_zero, List.getElem?_cons_succ]; rfl)
        case hfu2x9 => kernel_rfl
        case hru2x9 => kernel_rfl
        case hyu2x9 => (refine Or.inl ⟨by rfl, ?_⟩; intro w hSw; (try dsimp only at hSw); go_simp; (try with_reducible rfl))
        case hQu2x9 => exact fun _ _ _ h => h
        (try simp only [Act.put, List.setIfInBounds_toArray, List.set_cons_zero, List.set_cons_succ])
        refine wpAnyH_done (by kernel_rfl) ?_ _
        go_wp2
        go_ret
        exact ⟨congrArg (fun n => Ending.returned (.int .u64 n)) HU.out, 1, rfl⟩
    · by_cases hd : 1 < dd
      · have HU := Lib.hid (show bits BinOp.or IntKind.u64 ((hi : Int) / 2 ^ s6.toNat) 1 = U by rw [hU]; simp [hm, hd, hh1m, hwh])
        clear hU
        go_enter Tryz.func100, Tryz.ntmps100
        go_wp2_with fail
        go_at_call 119; refine (Tryz.bits_Mul64 _ _ (by assumption) (by assumption) _).mono ?_; rintro e w1 ⟨rfl, rfl⟩
        rw [← HHI.out, ← HM.out]
        go_wp2_with fail
        go_at_call 119; refine (Tryz.bits_Mul64 _ _ (by assumption) (by assumption) _).mono ?_; rintro e w1 ⟨rfl, rfl⟩
        rw [← HM2.out]
        go_wp2_with fail
        go_at_call 120; refine (bool2u_any false _).mono ?_; rintro e w1 ⟨rfl, rfl⟩
        go_wp2
        refine wp_region_held_drew (S := fun w' => ∃ n, w' = w1.drewN n) (by kernel_rfl) ?_ (fun hHeld => ?_)
        · exact ⟨1, rfl⟩
        refine wpAnyH_take (i := 0) (oi := ?_) (v := ?_) ?hiu3x0 (by kernel_rfl) ?hfu3x0 ?hru3x0 ?hQu3x0 ?hyu3x0 (by assumption) ?restu3x0
        case hiu3x0 => (simp only [List.getElem?_toArray, List.getElem?_cons_zero, List.getElem?_cons_succ]; rfl)
        case hfu3x0 => kernel_rfl
        case hru3x0 => kernel_rfl
        case hyu3x0 => (refine Or.inl ⟨by rfl, ?_⟩; intro w hSw; (try dsimp only at hSw); go_simp; (try with_reducible rfl))
        case hQu3x0 => exact fun _ _ _ h => h
        (try simp only [Act.put, List.setIfInBounds_toArray, List.set_cons_zero, List.set_cons_succ])
        refine wpAnyH_take (i := 1) (oi := ?_) (v := ?_) ?hiu3x1 (by kernel_rfl) ?hfu3x1 ?hru3x1 ?hQu3x1 ?hyu3x1 (by assumption) ?restu3x1
        case hiu3x1 => (simp only [List.getElem?_toArray, List.getElem?_cons_zero, List.getElem?_cons_succ]; rfl)
        case hfu3x1 => kernel_rfl
        case hru3x1 => kernel_rfl
        case hyu3x1 => (refine Or.inl ⟨by rfl, ?_⟩; intro w hSw; (try dsimp only at hSw); go_simp; (try with_reducible rfl))
        case hQu3x1 => exact fun _ _ _ h => h
        (try simp only [Act.put, List.setIfInBounds_toArray, List.set_cons_zero, List.set_cons_succ])
        refine wpAnyH_take (i := 2) (oi := ?_) (v := ?_) ?hiu3x2 (by kernel_rfl) ?hfu3x2 ?hru3x2 ?hQu3x2 ?hyu3x2 (by assumption) ?restu3x2
        case hiu3x2 => (simp only [List.getElem?_toArray, List.getElem?_cons_zero, List.getElem?_cons_succ]; rfl)
        case hfu3x2 => kernel_rfl
        case hru3x2 => kernel_rfl
        case hyu3x2 => (refine Or.inl ⟨by rfl, ?_⟩; intro w hSw; (try dsimp only at hSw); go_simp; (try with_reducible rfl))
        case hQu3x2 => exact fun _ _ _ h => h
        (try simp only [Act.put, List.setIfInBounds_toArray, List.set_cons_zero, List.set_cons_succ])
        refine wpAnyH_take (i := 3) (oi := ?_) (v := ?_) ?hiu3x3 (by kernel_rfl) ?hfu3x3 ?hru3x3 ?hQu3x3 ?hyu3x3 (by assumption) ?restu3x3
        case hiu3x3 => (simp only [List.getElem?_toArray, List.getElem?_cons_zero, List.getElem?_cons_succ]; rfl)
        case hfu3x3 => kernel_rfl
        case hru3x3 => kernel_rfl
        case hyu3x3 => (refine Or.inl ⟨by rfl, ?_⟩; intro w hSw; (try dsimp only at hSw); go_simp; (try with_reducible rfl))
        case hQu3x3 => exact fun _ _ _ h => h
        (try simp only [Act.put, List.setIfInBounds_toArray, List.set_cons_zero, List.set_cons_succ])
        refine wpAnyH_take (i := 4) (oi := ?_) (v := ?_) ?hiu3x4 (by kernel_rfl) ?hfu3x4 ?hru3x4 ?hQu3x4 ?hyu3x4 (by assumption) ?restu3x4
        case hiu3x4 => (simp only [List.getElem?_toArray, List.getElem?_cons_zero, List.getElem?_cons_succ]; rfl)
        case hfu3x4 => kernel_rfl
        case hru3x4 => kernel_rfl
        case hyu3x4 => (refine Or.inl ⟨by rfl, ?_⟩; intro w hSw; (try dsimp only at hSw); go_simp; (try with_reducible rfl))
        case hQu3x4 => exact fun _ _ _ h => h
        (try simp only [Act.put, List.setIfInBounds_toArray, List.set_cons_zero, List.set_cons_succ])
        refine wpAnyH_take (i := 5) (oi := ?_) (v := ?_) ?hiu3x5 (by kernel_rfl) ?hfu3x5 ?hru3x5 ?hQu3x5 ?hyu3x5 (by assumption) ?restu3x5
        case hiu3x5 => (simp only [List.getElem?_toArray, List.getElem?_cons_zero, List.getElem?_cons_succ]; rfl)
        case hfu3x5 => kernel_rfl
        case hru3x5 => kernel_rfl
        case hyu3x5 => (refine Or.inl ⟨by rfl, ?_⟩; intro w hSw; (try dsimp only at hSw); go_simp; (try with_reducible rfl))
        case hQu3x5 => exact fun _ _ _ h => h
        (try simp only [Act.put, List.setIfInBounds_toArray, List.set_cons_zero, List.set_cons_succ])
        refine wpAnyH_take (i := 6) (oi := ?_) (v := ?_) ?hiu3x6 (by kernel_rfl) ?hfu3x6 ?hru3x6 ?hQu3x6 ?hyu3x6 (by assumption) ?restu3x6
        case hiu3x6 => (simp only [List.getElem?_toArray, List.getElem?_cons_zero, List.getElem?_cons_succ]; rfl)
        case hfu3x6 => kernel_rfl
        case hru3x6 => kernel_rfl
        case hyu3x6 => (refine Or.inl ⟨by rfl, ?_⟩; intro w hSw; (try dsimp only at hSw); go_simp; (try with_reducible rfl))
        case hQu3x6 => exact fun _ _ _ h => h
        (try simp only [Act.put, List.setIfInBounds_toArray, List.set_cons_zero, List.set_cons_succ])
        refine wpAnyH_ready (rs := [7]) (by kernel_rfl) (by simp) ?_
        refine AllReadyH.cons (o := ?_) ?hou3x7 ?hstu3x7 AllReadyH.nil
        case hou3x7 => (simp only [List.getElem?_toArray, List.getElem?_cons_zero, List.getElem?_cons_succ]; rfl)
        intro K hK
        go_simp
        go_at_call 120; refine (bool2u_any true _).mono ?_; rintro e w2 ⟨rfl, rfl⟩
        go_wp2_with fail
        refine hK.out _ _ ?hsu3x7 (fun hHeld => ?_)
        case hsu3x7 => exact hHeld
        clear hK K
        (try simp only [Act.put, List.setIfInBounds_toArray, List.set_cons_zero, List.set_cons_succ])
        refine wpAnyH_take (i := 8) (oi := ?_) (v := ?_) ?hiu3x8 (by kernel_rfl) ?hfu3x8 ?hru3x8 ?hQu3x8 ?hyu3x8 (by assumption) ?restu3x8
        case hiu3x8 => (simp only [List.getElem?_toArray, List.getElem?_cons_zero, List.getElem?_cons_succ]; rfl)
        case hfu3x8 => kernel_rfl
        case hru3x8 => kernel_rfl
        case hyu3x8 => (refine Or.inl ⟨by rfl, ?_⟩; intro w hSw; (try dsimp only at hSw); go_simp; (try with_reducible rfl))
        case hQu3x8 => exact fun _ _ _ h => h
        (try simp only [Act.put, List.setIfInBounds_toArray, List.set_cons_zero, List.set_cons_succ])
        refine wpAnyH_take (i := 9) (oi := ?_) (v := ?_) ?hiu3x9 (by kernel_rfl) ?hfu3x9 ?hru3x9 ?hQu3x9 ?hyu3x9 (by assumption) ?restu3x9
        case hiu3x9 => (simp only [List.getElem?_toArray, List.getElem?_cons_zero, List.getElem?_cons_succ]; rfl)
        case hfu3x9 => kernel_rfl
        case hru3x9 => kernel_rfl
        case hyu3x9 => (refine Or.inl ⟨by rfl, ?_⟩; intro w hSw; (try dsimp only at hSw); go_simp; (try with_reducible rfl))
        case hQu3x9 => exact fun _ _ _ h => h
        (try simp only [Act.put, List.setIfInBounds_toArray, List.set_cons_zero, List.set_cons_succ])
        refine wpAnyH_done (by kernel_rfl) ?_ _
        go_wp2
        go_ret
        exact ⟨congrArg (fun n => Ending.returned (.int .u64 n)) HU.out, 1, rfl⟩
      · have hdf : decide (1 < dd) = false := decide_eq_false hd
        have HU := Lib.hid (show bits BinOp.or IntKind.u64 ((hi : Int) / 2 ^ s6.toNat) 0 = U by rw [hU]; simp [hm, hd, hh1m, hwh])
        clear hU
        go_enter Tryz.func100, Tryz.ntmps100
        go_wp2_with fail
        go_at_call 119; refine (Tryz.bits_Mul64 _ _ (by assumption) (by assumption) _).mono ?_; rintro e w1 ⟨rfl, rfl⟩
        rw [← HHI.out, ← HM.out]
        go_wp2_with fail
        go_at_call 119; refine (Tryz.bits_Mul64 _ _ (by assumption) (by assumption) _).mono ?_; rintro e w1 ⟨rfl, rfl⟩
        rw [← HM2.out]
        go_wp2_with fail
        go_at_call 120; refine (bool2u_any false _).mono ?_; rintro e w1 ⟨rfl, rfl⟩
        go_wp2
        refine wp_region_held_drew (S := fun w' => ∃ n, w' = w1.drewN n) (by kernel_rfl) ?_ (fun hHeld => ?_)
        · exact ⟨1, rfl⟩
        refine wpAnyH_take (i := 0) (oi := ?_) (v := ?_) ?hiu4x0 (by kernel_rfl) ?hfu4x0 ?hru4x0 ?hQu4x0 ?hyu4x0 (by assumption) ?restu4x0
        case hiu4x0 => (simp only [List.getElem?_toArray, List.getElem?_cons_zero, List.getElem?_cons_succ]; rfl)
        case hfu4x0 => kernel_rfl
        case hru4x0 => kernel_rfl
        case hyu4x0 => (refine Or.inl ⟨by rfl, ?_⟩; intro w hSw; (try dsimp only at hSw); go_simp; (try with_reducible rfl))
        case hQu4x0 => exact fun _ _ _ h => h
        (try simp only [Act.put, List.setIfInBounds_toArray, List.set_cons_zero, List.set_cons_succ])
        refine wpAnyH_take (i := 1) (oi := ?_) (v := ?_) ?hiu4x1 (by kernel_rfl) ?hfu4x1 ?hru4x1 ?hQu4x1 ?hyu4x1 (by assumption) ?restu4x1
        case hiu4x1 => (simp only [List.getElem?_toArray, List.getElem?_cons_zero, List.getElem?_cons_succ]; rfl)
        case hfu4x1 => kernel_rfl
        case hru4x1 => kernel_rfl
        case hyu4x1 => (refine Or.inl ⟨by rfl, ?_⟩; intro w hSw; (try dsimp only at hSw); go_simp; (try with_reducible rfl))
        case hQu4x1 => exact fun _ _ _ h => h
        (try simp only [Act.put, List.setIfInBounds_toArray, List.set_cons_zero, List.set_cons_succ])
        refine wpAnyH_take (i := 2) (oi := ?_) (v := ?_) ?hiu4x2 (by kernel_rfl) ?hfu4x2 ?hru4x2 ?hQu4x2 ?hyu4x2 (by assumption) ?restu4x2
        case hiu4x2 => (simp only [List.getElem?_toArray, List.getElem?_cons_zero, List.getElem?_cons_succ]; rfl)
        case hfu4x2 => kernel_rfl
        case hru4x2 => kernel_rfl
        case hyu4x2 => (refine Or.inl ⟨by rfl, ?_⟩; intro w hSw; (try dsimp only at hSw); go_simp; (try with_reducible rfl))
        case hQu4x2 => exact fun _ _ _ h => h
        (try simp only [Act.put, List.setIfInBounds_toArray, List.set_cons_zero, List.set_cons_succ])
        refine wpAnyH_take (i := 3) (oi := ?_) (v := ?_) ?hiu4x3 (by kernel_rfl) ?hfu4x3 ?hru4x3 ?hQu4x3 ?hyu4x3 (by assumption) ?restu4x3
        case hiu4x3 => (simp only [List.getElem?_toArray, List.getElem?_cons_zero, List.getElem?_cons_succ]; rfl)
        case hfu4x3 => kernel_rfl
        case hru4x3 => kernel_rfl
        case hyu4x3 => (refine Or.inl ⟨by rfl, ?_⟩; intro w hSw; (try dsimp only at hSw); go_simp; (try with_reducible rfl))
        case hQu4x3 => exact fun _ _ _ h => h
        (try simp only [Act.put, List.setIfInBounds_toArray, List.set_cons_zero, List.set_cons_succ])
        refine wpAnyH_take (i := 4) (oi := ?_) (v := ?_) ?hiu4x4 (by kernel_rfl) ?hfu4x4 ?hru4x4 ?hQu4x4 ?hyu4x4 (by assumption) ?restu4x4
        case hiu4x4 => (simp only [List.getElem?_toArray, List.getElem?_cons_zero, List.getElem?_cons_succ]; rfl)
        case hfu4x4 => kernel_rfl
        case hru4x4 => kernel_rfl
        case hyu4x4 => (refine Or.inl ⟨by rfl, ?_⟩; intro w hSw; (try dsimp only at hSw); go_simp; (try with_reducible rfl))
        case hQu4x4 => exact fun _ _ _ h => h
        (try simp only [Act.put, List.setIfInBounds_toArray, List.set_cons_zero, List.set_cons_succ])
        refine wpAnyH_take (i := 5) (oi := ?_) (v := ?_) ?hiu4x5 (by kernel_rfl) ?hfu4x5 ?hru4x5 ?hQu4x5 ?hyu4x5 (by assumption) ?restu4x5
        case hiu4x5 => (simp only [List.getElem?_toArray, List.getElem?_cons_zero, List.getElem?_cons_succ]; rfl)
        case hfu4x5 => kernel_rfl
        case hru4x5 => kernel_rfl
        case hyu4x5 => (refine Or.inl ⟨by rfl, ?_⟩; intro w hSw; (try dsimp only at hSw); go_simp; (try with_reducible rfl))
        case hQu4x5 => exact fun _ _ _ h => h
        (try simp only [Act.put, List.setIfInBounds_toArray, List.set_cons_zero, List.set_cons_succ])
        refine wpAnyH_take (i := 6) (oi := ?_) (v := ?_) ?hiu4x6 (by kernel_rfl) ?hfu4x6 ?hru4x6 ?hQu4x6 ?hyu4x6 (by assumption) ?restu4x6
        case hiu4x6 => (simp only [List.getElem?_toArray, List.getElem?_cons_zero, List.getElem?_cons_succ]; rfl)
        case hfu4x6 => kernel_rfl
        case hru4x6 => kernel_rfl
        case hyu4x6 => (refine Or.inl ⟨by rfl, ?_⟩; intro w hSw; (try dsimp only at hSw); go_simp; (try with_reducible rfl))
        case hQu4x6 => exact fun _ _ _ h => h
        (try simp only [Act.put, List.setIfInBounds_toArray, List.set_cons_zero, List.set_cons_succ])
        refine wpAnyH_ready (rs := [7]) (by kernel_rfl) (by simp) ?_
        refine AllReadyH.cons (o := ?_) ?hou4x7 ?hstu4x7 AllReadyH.nil
        case hou4x7 => (simp only [List.getElem?_toArray, List.getElem?_cons_zero, List.getElem?_cons_succ]; rfl)
        intro K hK
        go_simp
        go_at_call 120; refine (bool2u_any false _).mono ?_; rintro e w2 ⟨rfl, rfl⟩
        go_wp2_with fail
        refine hK.out _ _ ?hsu4x7 (fun hHeld => ?_)
        case hsu4x7 => exact hHeld
        clear hK K
        (try simp only [Act.put, List.setIfInBounds_toArray, List.set_cons_zero, List.set_cons_succ])
        refine wpAnyH_take (i := 8) (oi := ?_) (v := ?_) ?hiu4x8 (by kernel_rfl) ?hfu4x8 ?hru4x8 ?hQu4x8 ?hyu4x8 (by assumption) ?restu4x8
        case hiu4x8 => (simp only [List.getElem?_toArray, List.getElem?_cons_zero, List.getElem?_cons_succ]; rfl)
        case hfu4x8 => kernel_rfl
        case hru4x8 => kernel_rfl
        case hyu4x8 => (refine Or.inl ⟨by rfl, ?_⟩; intro w hSw; (try dsimp only at hSw); go_simp; (try with_reducible rfl))
        case hQu4x8 => exact fun _ _ _ h => h
        (try simp only [Act.put, List.setIfInBounds_toArray, List.set_cons_zero, List.set_cons_succ])
        refine wpAnyH_take (i := 9) (oi := ?_) (v := ?_) ?hiu4x9 (by kernel_rfl) ?hfu4x9 ?hru4x9 ?hQu4x9 ?hyu4x9 (by assumption) ?restu4x9
        case hiu4x9 => (simp only [List.getElem?_toArray, List.getElem?_cons_zero, List.getElem?_cons_succ]; rfl)
        case hfu4x9 => kernel_rfl
        case hru4x9 => kernel_rfl
        case hyu4x9 => (refine Or.inl ⟨by rfl, ?_⟩; intro w hSw; (try dsimp only at hSw); go_simp; (try with_reducible rfl))
        case hQu4x9 => exact fun _ _ _ h => h
        (try simp only [Act.put, List.setIfInBounds_toArray, List.set_cons_zero, List.set_cons_succ])
        refine wpAnyH_done (by kernel_rfl) ?_ _
        go_wp2
        go_ret
        exact ⟨congrArg (fun n => Ending.returned (.int .u64 n)) HU.out, 1, rfl⟩
  · rw [hb] at hU
    have HU := Lib.hid hU.symm
    clear hU
    go_enter Tryz.func100, Tryz.ntmps100
    go_wp2_with fail
    go_at_call 119; refine (Tryz.bits_Mul64 _ _ (by assumption) (by assumption) _).mono ?_; rintro e w1 ⟨rfl, rfl⟩
    rw [← HHI.out, ← HM.out]
    go_wp2
    go_ret
    exact ⟨congrArg (fun n => Ending.returned (.int .u64 n)) HU.out, 0, rfl⟩
end Num
end Go.Proofs.YtahcgdjcjapnkaaGreatDoor
