/-
  ValueFloats: every case.
-/
import Derived.Test.YtkbloipkndglgaaGreatDoorVFl
namespace Go.Proofs.YtkbloipkndglgaaGreatDoor
open Go.RowKit
namespace Num
open Ints
set_option linter.unusedSimpArgs false
set_option linter.unusedVariables false
theorem read_nought : FloatKind.f64.format.read 0 = .number false 0 (-1074) := by decide +kernel
theorem signed_nought {s : Bool} {m k : Nat} (h : Ieee.signed s m k = 0) : m <<< k = 0 := by
  unfold Ieee.signed at h
  split at h <;> omega
theorem nought_of (x : Nat) (h : FloatKind.f64.format.order x 0 = some .eq) : x % 9223372036854775808 = 0 := by
  have h0 : FloatKind.f64.format.signWeight = 9223372036854775808 := by decide +kernel
  have h1 : FloatKind.f64.format.binade = 4503599627370496 := by decide +kernel
  have h2 : FloatKind.f64.format.infRung = 9218868437227405312 := by decide +kernel
  have h3 : FloatKind.f64.format.leastPlace = -1074 := by decide +kernel
  unfold Ieee.Format.order at h
  rw [read_nought] at h
  unfold Ieee.Format.read at h
  simp only [h0, h1, h2, h3] at h
  split at h
  · simp only [Ieee.Datum.order, Option.some.injEq] at h
    have e := Int.compare_eq_eq.1 h
    have z : Ieee.signed false 0 ((-1074 : Int) - min (-1074) (-1074)).toNat = 0 := by decide
    rw [z] at e
    have := signed_nought e
    rw [Nat.shiftLeft_eq] at this
    rcases Nat.mul_eq_zero.1 this with g | g
    · exact g
    · exact absurd g (Nat.ne_of_gt (Nat.two_pow_pos _))
  · split at h
    · simp only [Ieee.Datum.order, Option.some.injEq] at h
      have e := Int.compare_eq_eq.1 h
      have z : ∀ k, Ieee.signed false 0 k = 0 := fun k => by simp [Ieee.signed]
      rw [z] at e
      have := signed_nought e
      rw [Nat.shiftLeft_eq] at this
      rcases Nat.mul_eq_zero.1 this with g | g
      · omega
      · exact absurd g (Nat.ne_of_gt (Nat.two_pow_pos _))
    · split at h
      · simp only [Ieee.Datum.order, Option.some.injEq] at h
        split at h <;> cases h
      · cases h
theorem order_total {x y : Nat} (h1 : FloatKind.f64.format.order x x = some .eq) (h2 : FloatKind.f64.format.order y y = some .eq) : ∃ o, FloatKind.f64.format.order x y = some o := by
  unfold Ieee.Format.order at *
  cases hx : FloatKind.f64.format.read x <;> cases hy : FloatKind.f64.format.read y <;> rw [hx] at h1 <;> rw [hy] at h2 <;> first | (cases h1; done) | (cases h2; done) | exact ⟨_, rfl⟩
/-- The noughts -/
theorem nought_mark : True := trivial
set_option maxRecDepth 100000 in
set_option maxHeartbeats 4000000 in
theorem floats_Z00 (w : World) (ht : Tabs w) : Calls Tryz.prog 4 #[.float .f64 0, .float .f64 0] w fun e w' => e = .returned (.bool true) ∧ Below w.heap.size w w' := by
  have h1 : FloatKind.f64.format.order 0 0 = some .eq := by decide +kernel
  have h2 : FloatKind.f64.format.order 0 0 = some .eq := by decide +kernel
  have hz : FloatKind.f64.format.order 0 0 = some .eq := by decide +kernel
  have hz2 : FloatKind.f64.format.order 0 0 = some .eq := by decide +kernel
  have hO : ordF 0 0 = 0 := by decide +kernel
  have hQ : (cmpF 0 0 == 0) = true := by decide +kernel
  have hcx : Flo.canon 0 = 0 := by decide +kernel
  have hcy : Flo.canon 0 = 0 := by decide +kernel
  have lx : 0 < 2 ^ 64 := by decide
  have ly : 0 < 2 ^ 64 := by decide
  have HT := Lib.hid ht
  have HCX := Lib.hid hcx
  have HCY := Lib.hid hcy
  have HO := Lib.hid (fun w => order_flo 0 0 lx ly w _ hO)
  have HQ := Lib.hid (fun w => equal_flo 0 0 lx ly w _ hQ)
  clear ht hO hQ hcx hcy
  go_enter Tryz.func4, Tryz.ntmps4
  go_wp2_with fail
  go_at_call 9; refine (known_any _ HT.out).mono ?_; rintro e' w1 ⟨rfl, hb1⟩
  go_wp2_with fail
  go_at_call 12; refine (float_ref_any _ _).mono ?_; rintro e' w2 ⟨rfl, hb2⟩
  rw [HCX.out]
  go_wp2_with fail
  go_at_call 12; refine (float_ref_any _ _).mono ?_; rintro e' w3 ⟨rfl, hb3⟩
  rw [HCY.out]
  go_wp2_with fail
  have HA := Lib.hid (row_alloc_step (row_alloc w3 #[.int .i64 2, .int .i64 0, .float .f64 0, .string ⟨#[]⟩, .slice none 0 0] 25) (.cells #[.int .i64 2, .int .i64 0, .float .f64 0, .string ⟨#[]⟩, .slice none 0 0] 25))
  have HB := Lib.hid (row_alloc (w3.alloc (.cells #[.int .i64 2, .int .i64 0, .float .f64 0, .string ⟨#[]⟩, .slice none 0 0] 25)) #[.int .i64 2, .int .i64 0, .float .f64 0, .string ⟨#[]⟩, .slice none 0 0] 25)
  have HW := Lib.hid (bel_alloc (bel_alloc (bel_step (bel_step hb1 hb2) hb3) (.cells #[.int .i64 2, .int .i64 0, .float .f64 0, .string ⟨#[]⟩, .slice none 0 0] 25)) (.cells #[.int .i64 2, .int .i64 0, .float .f64 0, .string ⟨#[]⟩, .slice none 0 0] 25))
  clear hb1 hb2 hb3
  go_at_call 11; refine (HO.out _).mono ?_; rintro e' w4 ⟨rfl, hb4⟩
  have ra := row_step HA.out hb4
  have rb := row_step HB.out hb4
  have HW4 := Lib.hid (bel_step HW.out hb4)
  have a0 := row_cell ra 0; have a1 := row_cell ra 1; have a2 := row_cell ra 2; have a3 := row_cell ra 3; have a4 := row_cell ra 4
  have b0 := row_cell rb 0; have b1 := row_cell rb 1; have b2 := row_cell rb 2; have b3 := row_cell rb 3; have b4 := row_cell rb 4
  simp only [List.getElem?_toArray, List.getElem?_cons_zero, List.getElem?_cons_succ, World.size_alloc] at a0 a1 a2 a3 a4 b0 b1 b2 b3 b4
  clear ra rb hb4
  go_wp2_with fail
  go_wp2_with (first
    | (go_at_call 13; refine (HQ.out _).mono ?_; rintro e' w5 ⟨rfl, hb5⟩; have HW5 := Lib.hid (bel_step HW4.out hb5); clear hb5)
    | (go_at_call 14; refine (bits_ref_any _ _).mono ?_; rintro e' w6 ⟨rfl, rfl⟩; (try rw [HCX.out]); (try rw [HCY.out])))
  go_ret
  first
    | exact ⟨rfl, HW5.out⟩
    | exact ⟨rfl, bel_drewN _ HW5.out⟩
    | exact ⟨rfl, HW4.out⟩
set_option maxRecDepth 100000 in
set_option maxHeartbeats 4000000 in
theorem floats_Z01 (w : World) (ht : Tabs w) : Calls Tryz.prog 4 #[.float .f64 0, .float .f64 9223372036854775808] w fun e w' => e = .returned (.bool true) ∧ Below w.heap.size w w' := by
  have h1 : FloatKind.f64.format.order 0 0 = some .eq := by decide +kernel
  have h2 : FloatKind.f64.format.order 9223372036854775808 9223372036854775808 = some .eq := by decide +kernel
  have hz : FloatKind.f64.format.order 0 0 = some .eq := by decide +kernel
  have hz2 : FloatKind.f64.format.order 9223372036854775808 0 = some .eq := by decide +kernel
  have hO : ordF 0 9223372036854775808 = 1 := by decide +kernel
  have hQ : (cmpF 0 9223372036854775808 == 0) = true := by decide +kernel
  have hcx : Flo.canon 0 = 0 := by decide +kernel
  have hcy : Flo.canon 9223372036854775808 = 9223372036854775808 := by decide +kernel
  have lx : 0 < 2 ^ 64 := by decide
  have ly : 9223372036854775808 < 2 ^ 64 := by decide
  have HT := Lib.hid ht
  have HCX := Lib.hid hcx
  have HCY := Lib.hid hcy
  have HO := Lib.hid (fun w => order_flo 0 9223372036854775808 lx ly w _ hO)
  have HQ := Lib.hid (fun w => equal_flo 0 9223372036854775808 lx ly w _ hQ)
  clear ht hO hQ hcx hcy
  go_enter Tryz.func4, Tryz.ntmps4
  go_wp2_with fail
  go_at_call 9; refine (known_any _ HT.out).mono ?_; rintro e' w1 ⟨rfl, hb1⟩
  go_wp2_with fail
  go_at_call 12; refine (float_ref_any _ _).mono ?_; rintro e' w2 ⟨rfl, hb2⟩
  rw [HCX.out]
  go_wp2_with fail
  go_at_call 12; refine (float_ref_any _ _).mono ?_; rintro e' w3 ⟨rfl, hb3⟩
  rw [HCY.out]
  go_wp2_with fail
  have HA := Lib.hid (row_alloc_step (row_alloc w3 #[.int .i64 2, .int .i64 0, .float .f64 0, .string ⟨#[]⟩, .slice none 0 0] 25) (.cells #[.int .i64 2, .int .i64 0, .float .f64 9223372036854775808, .string ⟨#[]⟩, .slice none 0 0] 25))
  have HB := Lib.hid (row_alloc (w3.alloc (.cells #[.int .i64 2, .int .i64 0, .float .f64 0, .string ⟨#[]⟩, .slice none 0 0] 25)) #[.int .i64 2, .int .i64 0, .float .f64 9223372036854775808, .string ⟨#[]⟩, .slice none 0 0] 25)
  have HW := Lib.hid (bel_alloc (bel_alloc (bel_step (bel_step hb1 hb2) hb3) (.cells #[.int .i64 2, .int .i64 0, .float .f64 0, .string ⟨#[]⟩, .slice none 0 0] 25)) (.cells #[.int .i64 2, .int .i64 0, .float .f64 9223372036854775808, .string ⟨#[]⟩, .slice none 0 0] 25))
  clear hb1 hb2 hb3
  go_at_call 11; refine (HO.out _).mono ?_; rintro e' w4 ⟨rfl, hb4⟩
  have ra := row_step HA.out hb4
  have rb := row_step HB.out hb4
  have HW4 := Lib.hid (bel_step HW.out hb4)
  have a0 := row_cell ra 0; have a1 := row_cell ra 1; have a2 := row_cell ra 2; have a3 := row_cell ra 3; have a4 := row_cell ra 4
  have b0 := row_cell rb 0; have b1 := row_cell rb 1; have b2 := row_cell rb 2; have b3 := row_cell rb 3; have b4 := row_cell rb 4
  simp only [List.getElem?_toArray, List.getElem?_cons_zero, List.getElem?_cons_succ, World.size_alloc] at a0 a1 a2 a3 a4 b0 b1 b2 b3 b4
  clear ra rb hb4
  go_wp2_with fail
  go_wp2_with (first
    | (go_at_call 13; refine (HQ.out _).mono ?_; rintro e' w5 ⟨rfl, hb5⟩; have HW5 := Lib.hid (bel_step HW4.out hb5); clear hb5)
    | (go_at_call 14; refine (bits_ref_any _ _).mono ?_; rintro e' w6 ⟨rfl, rfl⟩; (try rw [HCX.out]); (try rw [HCY.out])))
  go_ret
  first
    | exact ⟨rfl, HW5.out⟩
    | exact ⟨rfl, bel_drewN _ HW5.out⟩
    | exact ⟨rfl, HW4.out⟩
set_option maxRecDepth 100000 in
set_option maxHeartbeats 4000000 in
theorem floats_Z10 (w : World) (ht : Tabs w) : Calls Tryz.prog 4 #[.float .f64 9223372036854775808, .float .f64 0] w fun e w' => e = .returned (.bool true) ∧ Below w.heap.size w w' := by
  have h1 : FloatKind.f64.format.order 9223372036854775808 9223372036854775808 = some .eq := by decide +kernel
  have h2 : FloatKind.f64.format.order 0 0 = some .eq := by decide +kernel
  have hz : FloatKind.f64.format.order 9223372036854775808 0 = some .eq := by decide +kernel
  have hz2 : FloatKind.f64.format.order 0 0 = some .eq := by decide +kernel
  have hO : ordF 9223372036854775808 0 = -1 := by decide +kernel
  have hQ : (cmpF 9223372036854775808 0 == 0) = true := by decide +kernel
  have hcx : Flo.canon 9223372036854775808 = 9223372036854775808 := by decide +kernel
  have hcy : Flo.canon 0 = 0 := by decide +kernel
  have lx : 9223372036854775808 < 2 ^ 64 := by decide
  have ly : 0 < 2 ^ 64 := by decide
  have HT := Lib.hid ht
  have HCX := Lib.hid hcx
  have HCY := Lib.hid hcy
  have HO := Lib.hid (fun w => order_flo 9223372036854775808 0 lx ly w _ hO)
  have HQ := Lib.hid (fun w => equal_flo 9223372036854775808 0 lx ly w _ hQ)
  clear ht hO hQ hcx hcy
  go_enter Tryz.func4, Tryz.ntmps4
  go_wp2_with fail
  go_at_call 9; refine (known_any _ HT.out).mono ?_; rintro e' w1 ⟨rfl, hb1⟩
  go_wp2_with fail
  go_at_call 12; refine (float_ref_any _ _).mono ?_; rintro e' w2 ⟨rfl, hb2⟩
  rw [HCX.out]
  go_wp2_with fail
  go_at_call 12; refine (float_ref_any _ _).mono ?_; rintro e' w3 ⟨rfl, hb3⟩
  rw [HCY.out]
  go_wp2_with fail
  have HA := Lib.hid (row_alloc_step (row_alloc w3 #[.int .i64 2, .int .i64 0, .float .f64 9223372036854775808, .string ⟨#[]⟩, .slice none 0 0] 25) (.cells #[.int .i64 2, .int .i64 0, .float .f64 0, .string ⟨#[]⟩, .slice none 0 0] 25))
  have HB := Lib.hid (row_alloc (w3.alloc (.cells #[.int .i64 2, .int .i64 0, .float .f64 9223372036854775808, .string ⟨#[]⟩, .slice none 0 0] 25)) #[.int .i64 2, .int .i64 0, .float .f64 0, .string ⟨#[]⟩, .slice none 0 0] 25)
  have HW := Lib.hid (bel_alloc (bel_alloc (bel_step (bel_step hb1 hb2) hb3) (.cells #[.int .i64 2, .int .i64 0, .float .f64 9223372036854775808, .string ⟨#[]⟩, .slice none 0 0] 25)) (.cells #[.int .i64 2, .int .i64 0, .float .f64 0, .string ⟨#[]⟩, .slice none 0 0] 25))
  clear hb1 hb2 hb3
  go_at_call 11; refine (HO.out _).mono ?_; rintro e' w4 ⟨rfl, hb4⟩
  have ra := row_step HA.out hb4
  have rb := row_step HB.out hb4
  have HW4 := Lib.hid (bel_step HW.out hb4)
  have a0 := row_cell ra 0; have a1 := row_cell ra 1; have a2 := row_cell ra 2; have a3 := row_cell ra 3; have a4 := row_cell ra 4
  have b0 := row_cell rb 0; have b1 := row_cell rb 1; have b2 := row_cell rb 2; have b3 := row_cell rb 3; have b4 := row_cell rb 4
  simp only [List.getElem?_toArray, List.getElem?_cons_zero, List.getElem?_cons_succ, World.size_alloc] at a0 a1 a2 a3 a4 b0 b1 b2 b3 b4
  clear ra rb hb4
  go_wp2_with fail
  go_wp2_with (first
    | (go_at_call 13; refine (HQ.out _).mono ?_; rintro e' w5 ⟨rfl, hb5⟩; have HW5 := Lib.hid (bel_step HW4.out hb5); clear hb5)
    | (go_at_call 14; refine (bits_ref_any _ _).mono ?_; rintro e' w6 ⟨rfl, rfl⟩; (try rw [HCX.out]); (try rw [HCY.out])))
  go_ret
  first
    | exact ⟨rfl, HW5.out⟩
    | exact ⟨rfl, bel_drewN _ HW5.out⟩
    | exact ⟨rfl, HW4.out⟩
set_option maxRecDepth 100000 in
set_option maxHeartbeats 4000000 in
theorem floats_Z11 (w : World) (ht : Tabs w) : Calls Tryz.prog 4 #[.float .f64 9223372036854775808, .float .f64 9223372036854775808] w fun e w' => e = .returned (.bool true) ∧ Below w.heap.size w w' := by
  have h1 : FloatKind.f64.format.order 9223372036854775808 9223372036854775808 = some .eq := by decide +kernel
  have h2 : FloatKind.f64.format.order 9223372036854775808 9223372036854775808 = some .eq := by decide +kernel
  have hz : FloatKind.f64.format.order 9223372036854775808 0 = some .eq := by decide +kernel
  have hz2 : FloatKind.f64.format.order 9223372036854775808 0 = some .eq := by decide +kernel
  have hO : ordF 9223372036854775808 9223372036854775808 = 0 := by decide +kernel
  have hQ : (cmpF 9223372036854775808 9223372036854775808 == 0) = true := by decide +kernel
  have hcx : Flo.canon 9223372036854775808 = 9223372036854775808 := by decide +kernel
  have hcy : Flo.canon 9223372036854775808 = 9223372036854775808 := by decide +kernel
  have lx : 9223372036854775808 < 2 ^ 64 := by decide
  have ly : 9223372036854775808 < 2 ^ 64 := by decide
  have HT := Lib.hid ht
  have HCX := Lib.hid hcx
  have HCY := Lib.hid hcy
  have HO := Lib.hid (fun w => order_flo 9223372036854775808 9223372036854775808 lx ly w _ hO)
  have HQ := Lib.hid (fun w => equal_flo 9223372036854775808 9223372036854775808 lx ly w _ hQ)
  clear ht hO hQ hcx hcy
  go_enter Tryz.func4, Tryz.ntmps4
  go_wp2_with fail
  go_at_call 9; refine (known_any _ HT.out).mono ?_; rintro e' w1 ⟨rfl, hb1⟩
  go_wp2_with fail
  go_at_call 12; refine (float_ref_any _ _).mono ?_; rintro e' w2 ⟨rfl, hb2⟩
  rw [HCX.out]
  go_wp2_with fail
  go_at_call 12; refine (float_ref_any _ _).mono ?_; rintro e' w3 ⟨rfl, hb3⟩
  rw [HCY.out]
  go_wp2_with fail
  have HA := Lib.hid (row_alloc_step (row_alloc w3 #[.int .i64 2, .int .i64 0, .float .f64 9223372036854775808, .string ⟨#[]⟩, .slice none 0 0] 25) (.cells #[.int .i64 2, .int .i64 0, .float .f64 9223372036854775808, .string ⟨#[]⟩, .slice none 0 0] 25))
  have HB := Lib.hid (row_alloc (w3.alloc (.cells #[.int .i64 2, .int .i64 0, .float .f64 9223372036854775808, .string ⟨#[]⟩, .slice none 0 0] 25)) #[.int .i64 2, .int .i64 0, .float .f64 9223372036854775808, .string ⟨#[]⟩, .slice none 0 0] 25)
  have HW := Lib.hid (bel_alloc (bel_alloc (bel_step (bel_step hb1 hb2) hb3) (.cells #[.int .i64 2, .int .i64 0, .float .f64 9223372036854775808, .string ⟨#[]⟩, .slice none 0 0] 25)) (.cells #[.int .i64 2, .int .i64 0, .float .f64 9223372036854775808, .string ⟨#[]⟩, .slice none 0 0] 25))
  clear hb1 hb2 hb3
  go_at_call 11; refine (HO.out _).mono ?_; rintro e' w4 ⟨rfl, hb4⟩
  have ra := row_step HA.out hb4
  have rb := row_step HB.out hb4
  have HW4 := Lib.hid (bel_step HW.out hb4)
  have a0 := row_cell ra 0; have a1 := row_cell ra 1; have a2 := row_cell ra 2; have a3 := row_cell ra 3; have a4 := row_cell ra 4
  have b0 := row_cell rb 0; have b1 := row_cell rb 1; have b2 := row_cell rb 2; have b3 := row_cell rb 3; have b4 := row_cell rb 4
  simp only [List.getElem?_toArray, List.getElem?_cons_zero, List.getElem?_cons_succ, World.size_alloc] at a0 a1 a2 a3 a4 b0 b1 b2 b3 b4
  clear ra rb hb4
  go_wp2_with fail
  go_wp2_with (first
    | (go_at_call 13; refine (HQ.out _).mono ?_; rintro e' w5 ⟨rfl, hb5⟩; have HW5 := Lib.hid (bel_step HW4.out hb5); clear hb5)
    | (go_at_call 14; refine (bits_ref_any _ _).mono ?_; rintro e' w6 ⟨rfl, rfl⟩; (try rw [HCX.out]); (try rw [HCY.out])))
  go_ret
  first
    | exact ⟨rfl, HW5.out⟩
    | exact ⟨rfl, bel_drewN _ HW5.out⟩
    | exact ⟨rfl, HW4.out⟩
theorem floats_any (x y : Nat) (hx : x < 18446744073709551616) (hy : y < 18446744073709551616) (w : World) (ht : Tabs w) : Calls Tryz.prog 4 #[.float .f64 x, .float .f64 y] w fun e w' => e = .returned (.bool true) ∧ Below w.heap.size w w' := by
  have cn : ∀ z, (FloatKind.f64.format.order z z != some .eq) = true → Flo.canon z = Flo.nan := fun z h => Flo.canon_no (by unfold Flo.feq; simpa using h)
  have cy : ∀ z, FloatKind.f64.format.order z z = some .eq → Flo.canon z = z := fun z h => Flo.canon_yes (by unfold Flo.feq; rw [h]; rfl)
  have yes : ∀ z, (FloatKind.f64.format.order z z != some .eq) = false → FloatKind.f64.format.order z z = some .eq := fun z h => by simpa using h
  have nn : (fo Flo.nan Flo.nan != some .eq) = true := by decide +kernel
  have n0 : (fo Flo.nan 0 == some .eq) = false := by decide +kernel
  cases h1 : (FloatKind.f64.format.order x x != some .eq)
  · have e1 := yes x h1
    have g1 : (fo x x != some .eq) = false := h1
    cases h2 : (FloatKind.f64.format.order y y != some .eq)
    · have e2 := yes y h2
      have g2 : (fo y y != some .eq) = false := h2
      by_cases hz : FloatKind.f64.format.order x 0 = some .eq ∧ FloatKind.f64.format.order y 0 = some .eq
      · have a := nought_of x hz.1
        have b := nought_of y hz.2
        have ax : x = 0 ∨ x = 9223372036854775808 := by omega
        have ay : y = 0 ∨ y = 9223372036854775808 := by omega
        rcases ax with rfl | rfl <;> rcases ay with rfl | rfl
        · exact floats_Z00 w ht
        · exact floats_Z01 w ht
        · exact floats_Z10 w ht
        · exact floats_Z11 w ht
      · have hc : (fo x 0 == some .eq && fo y 0 == some .eq) = false := by
          cases q1 : (fo x 0 == some .eq)
          · rfl
          · cases q2 : (fo y 0 == some .eq)
            · rfl
            · exact absurd ⟨by simpa using q1, by simpa using q2⟩ hz
        have ho : ordF (Flo.canon x) (Flo.canon y) = cmpF x y := by
          rw [cy x e1, cy y e2]
          unfold ordF
          rw [hc]
          rfl
        have hcm : cmpF x y = if (fo x y == some .lt) = true then -1 else if (fo x y == some .gt) = true then 1 else 0 := by
          unfold cmpF
          rw [g1, g2]
          rfl
        have hq : cmpF (Flo.canon x) (Flo.canon y) = cmpF x y := by rw [cy x e1, cy y e2]
        obtain ⟨o, h3⟩ := order_total e1 e2
        have h3' : fo x y = some o := h3
        by_cases hx0 : FloatKind.f64.format.order x 0 = some .eq
        · have hy0 : (FloatKind.f64.format.order y 0 == some .eq) = false := by
            cases q2 : (FloatKind.f64.format.order y 0 == some .eq)
            · rfl
            · exact absurd ⟨hx0, by simpa using q2⟩ hz
          cases o
          · exact floats_Dzlt x y hx hy w ht e1 e2 hx0 hy0 h3 (by rw [ho, hcm, h3']; rfl) (by rw [hq, hcm, h3']; rfl)
          · exact floats_Dzeq x y hx hy w ht e1 e2 hx0 hy0 h3 (by rw [ho, hcm, h3']; rfl) (by rw [hq, hcm, h3']; rfl)
          · exact floats_Dzgt x y hx hy w ht e1 e2 hx0 hy0 h3 (by rw [ho, hcm, h3']; rfl) (by rw [hq, hcm, h3']; rfl)
        · have hx0' : (FloatKind.f64.format.order x 0 == some .eq) = false := by
            cases q2 : (FloatKind.f64.format.order x 0 == some .eq)
            · rfl
            · exact absurd (by simpa using q2) hx0
          cases o
          · exact floats_Dnlt x y hx hy w ht e1 e2 hx0' h3 (by rw [ho, hcm, h3']; rfl) (by rw [hq, hcm, h3']; rfl)
          · exact floats_Dneq x y hx hy w ht e1 e2 hx0' h3 (by rw [ho, hcm, h3']; rfl) (by rw [hq, hcm, h3']; rfl)
          · exact floats_Dngt x y hx hy w ht e1 e2 hx0' h3 (by rw [ho, hcm, h3']; rfl) (by rw [hq, hcm, h3']; rfl)
    · refine floats_C x y hx hy w ht e1 h2 ?_ ?_
      · rw [cy x e1, cn y h2]
        unfold ordF
        rw [n0, Bool.and_false, if_neg (by simp)]
        unfold cmpF
        rw [g1, nn]
        rfl
      · rw [cy x e1, cn y h2]
        unfold cmpF
        rw [g1, nn]
        rfl
  · cases h2 : (FloatKind.f64.format.order y y != some .eq)
    · have e2 := yes y h2
      have g2 : (fo y y != some .eq) = false := h2
      refine floats_B x y hx hy w ht h1 e2 ?_ ?_
      · rw [cn x h1, cy y e2]
        unfold ordF
        rw [n0, Bool.false_and, if_neg (by simp)]
        unfold cmpF
        rw [nn, g2]
        rfl
      · rw [cn x h1, cy y e2]
        unfold cmpF
        rw [nn, g2]
        rfl
    · exact floats_A x y hx hy w ht h1 h2 (by rw [cn x h1, cn y h2]; decide +kernel) (by rw [cn x h1, cn y h2]; decide +kernel)
end Num
end Go.Proofs.YtkbloipkndglgaaGreatDoor
