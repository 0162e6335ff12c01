/-
  ValueFloats: order and equality of any two floats.
-/
import Derived.Test.YtkbloipkndglgaaGreatDoorVKo
namespace Go.Proofs.YtkbloipkndglgaaGreatDoor
open Go.RowKit
namespace Num
open Ints
set_option linter.unusedSimpArgs false
set_option linter.unusedVariables false
def VF (x : Nat) : VT 1 := (2, 0, x, ⟨#[]⟩, [])
theorem order_flo (x y : Nat) (hx : x < 2 ^ 64) (hy : y < 2 ^ 64) (w : World) (O : Int) (hO : ordF x y = O) : Calls Tryz.prog 11 #[.agg #[.int .i64 2, .int .i64 0, .float .f64 x, .string ⟨#[]⟩, .slice none 0 0], .agg #[.int .i64 2, .int .i64 0, .float .f64 y, .string ⟨#[]⟩, .slice none 0 0]] w fun e w' => e = .returned (.int .i64 O) ∧ Below w.heap.size w w' := by
  have h := order_any 1 _ _ (VF x) (VF y) w (rep_leaf w 2 0 x ⟨#[]⟩ (by decide) (by decide) hx (by decide)) (rep_leaf w 2 0 y ⟨#[]⟩ (by decide) (by decide) hy (by decide)) (deepT_not (by decide)) (by rw [VF, partsT_else (by decide)]; decide)
  rw [VF, VF, cmpT_float (by decide) (by decide) (by decide), hO] at h
  exact h
theorem equal_flo (x y : Nat) (hx : x < 2 ^ 64) (hy : y < 2 ^ 64) (w : World) (Q : Bool) (hQ : (cmpF x y == 0) = Q) : Calls Tryz.prog 13 #[.agg #[.int .i64 2, .int .i64 0, .float .f64 x, .string ⟨#[]⟩, .slice none 0 0], .agg #[.int .i64 2, .int .i64 0, .float .f64 y, .string ⟨#[]⟩, .slice none 0 0]] w fun e w' => e = .returned (.bool Q) ∧ Below w.heap.size w w' := by
  have h := equal_any 1 _ _ (VF x) (VF y) w (rep_leaf w 2 0 x ⟨#[]⟩ (by decide) (by decide) hx (by decide)) (rep_leaf w 2 0 y ⟨#[]⟩ (by decide) (by decide) hy (by decide)) (deepT_not (by decide)) (by rw [VF, partsT_else (by decide)]; decide)
  rw [VF, VF, cmpT_float (by decide) (by decide) (by decide), hQ] at h
  exact h
set_option maxRecDepth 100000 in
set_option maxHeartbeats 4000000 in
theorem floats_A (x y : Nat) (hx : x < 18446744073709551616) (hy : y < 18446744073709551616) (w : World) (ht : Tabs w) (h1 : (FloatKind.f64.format.order x x != some .eq) = true) (h2 : (FloatKind.f64.format.order y y != some .eq) = true) (hO : ordF (Flo.canon x) (Flo.canon y) = 0) (hQ : (cmpF (Flo.canon x) (Flo.canon y) == 0) = true) : Calls Tryz.prog 4 #[.float .f64 x, .float .f64 y] w fun e w' => e = .returned (.bool true) ∧ Below w.heap.size w w' := by
  have HT := Lib.hid ht
  have lx := Flo.canon_lt (x := x) hx
  have ly := Flo.canon_lt (x := y) hy
  obtain ⟨cx, hcx⟩ : ∃ cx, Flo.canon x = cx := ⟨_, rfl⟩
  obtain ⟨cy, hcy⟩ : ∃ cy, Flo.canon y = cy := ⟨_, rfl⟩
  rw [hcx] at hO hQ lx
  rw [hcy] at hO hQ ly
  have HCX := Lib.hid hcx
  have HCY := Lib.hid hcy
  have HO := Lib.hid (fun w => order_flo cx cy lx ly w _ hO)
  have HQ := Lib.hid (fun w => equal_flo cx cy lx ly w _ hQ)
  clear ht hO hQ hcx hcy
  go_enter Tryz.func4, Tryz.ntmps4
  go_wp2_with fail
  go_at_call 9; refine (known_any _ HT.out).mono ?_; rintro e' w1 ⟨rfl, hb1⟩
  go_wp2_with fail
  go_at_call 12; refine (float_ref_any _ _).mono ?_; rintro e' w2 ⟨rfl, hb2⟩
  rw [HCX.out]
  go_wp2_with fail
  go_at_call 12; refine (float_ref_any _ _).mono ?_; rintro e' w3 ⟨rfl, hb3⟩
  rw [HCY.out]
  go_wp2_with fail
  have HA := Lib.hid (row_alloc_step (row_alloc w3 #[.int .i64 2, .int .i64 0, .float .f64 cx, .string ⟨#[]⟩, .slice none 0 0] 25) (.cells #[.int .i64 2, .int .i64 0, .float .f64 cy, .string ⟨#[]⟩, .slice none 0 0] 25))
  have HB := Lib.hid (row_alloc (w3.alloc (.cells #[.int .i64 2, .int .i64 0, .float .f64 cx, .string ⟨#[]⟩, .slice none 0 0] 25)) #[.int .i64 2, .int .i64 0, .float .f64 cy, .string ⟨#[]⟩, .slice none 0 0] 25)
  have HW := Lib.hid (bel_alloc (bel_alloc (bel_step (bel_step hb1 hb2) hb3) (.cells #[.int .i64 2, .int .i64 0, .float .f64 cx, .string ⟨#[]⟩, .slice none 0 0] 25)) (.cells #[.int .i64 2, .int .i64 0, .float .f64 cy, .string ⟨#[]⟩, .slice none 0 0] 25))
  clear hb1 hb2 hb3
  go_at_call 11; refine (HO.out _).mono ?_; rintro e' w4 ⟨rfl, hb4⟩
  have ra := row_step HA.out hb4
  have rb := row_step HB.out hb4
  have HW4 := Lib.hid (bel_step HW.out hb4)
  have a0 := row_cell ra 0; have a1 := row_cell ra 1; have a2 := row_cell ra 2; have a3 := row_cell ra 3; have a4 := row_cell ra 4
  have b0 := row_cell rb 0; have b1 := row_cell rb 1; have b2 := row_cell rb 2; have b3 := row_cell rb 3; have b4 := row_cell rb 4
  simp only [List.getElem?_toArray, List.getElem?_cons_zero, List.getElem?_cons_succ, World.size_alloc] at a0 a1 a2 a3 a4 b0 b1 b2 b3 b4
  clear ra rb hb4
  go_wp2_with fail
  go_wp2_with (first
    | (go_at_call 13; refine (HQ.out _).mono ?_; rintro e' w5 ⟨rfl, hb5⟩; have HW5 := Lib.hid (bel_step HW4.out hb5); clear hb5)
    | (go_at_call 14; refine (bits_ref_any _ _).mono ?_; rintro e' w6 ⟨rfl, rfl⟩; (try rw [HCX.out]); (try rw [HCY.out])))
  go_ret
  first
    | exact ⟨rfl, HW5.out⟩
    | exact ⟨rfl, bel_drewN _ HW5.out⟩
    | exact ⟨rfl, HW4.out⟩
set_option maxRecDepth 100000 in
set_option maxHeartbeats 4000000 in
theorem floats_B (x y : Nat) (hx : x < 18446744073709551616) (hy : y < 18446744073709551616) (w : World) (ht : Tabs w) (h1 : (FloatKind.f64.format.order x x != some .eq) = true) (h2 : FloatKind.f64.format.order y y = some .eq) (hO : ordF (Flo.canon x) (Flo.canon y) = -1) (hQ : (cmpF (Flo.canon x) (Flo.canon y) == 0) = false) : Calls Tryz.prog 4 #[.float .f64 x, .float .f64 y] w fun e w' => e = .returned (.bool true) ∧ Below w.heap.size w w' := by
  have HT := Lib.hid ht
  have lx := Flo.canon_lt (x := x) hx
  have ly := Flo.canon_lt (x := y) hy
  obtain ⟨cx, hcx⟩ : ∃ cx, Flo.canon x = cx := ⟨_, rfl⟩
  obtain ⟨cy, hcy⟩ : ∃ cy, Flo.canon y = cy := ⟨_, rfl⟩
  rw [hcx] at hO hQ lx
  rw [hcy] at hO hQ ly
  have HCX := Lib.hid hcx
  have HCY := Lib.hid hcy
  have HO := Lib.hid (fun w => order_flo cx cy lx ly w _ hO)
  have HQ := Lib.hid (fun w => equal_flo cx cy lx ly w _ hQ)
  clear ht hO hQ hcx hcy
  go_enter Tryz.func4, Tryz.ntmps4
  go_wp2_with fail
  go_at_call 9; refine (known_any _ HT.out).mono ?_; rintro e' w1 ⟨rfl, hb1⟩
  go_wp2_with fail
  go_at_call 12; refine (float_ref_any _ _).mono ?_; rintro e' w2 ⟨rfl, hb2⟩
  rw [HCX.out]
  go_wp2_with fail
  go_at_call 12; refine (float_ref_any _ _).mono ?_; rintro e' w3 ⟨rfl, hb3⟩
  rw [HCY.out]
  go_wp2_with fail
  have HA := Lib.hid (row_alloc_step (row_alloc w3 #[.int .i64 2, .int .i64 0, .float .f64 cx, .string ⟨#[]⟩, .slice none 0 0] 25) (.cells #[.int .i64 2, .int .i64 0, .float .f64 cy, .string ⟨#[]⟩, .slice none 0 0] 25))
  have HB := Lib.hid (row_alloc (w3.alloc (.cells #[.int .i64 2, .int .i64 0, .float .f64 cx, .string ⟨#[]⟩, .slice none 0 0] 25)) #[.int .i64 2, .int .i64 0, .float .f64 cy, .string ⟨#[]⟩, .slice none 0 0] 25)
  have HW := Lib.hid (bel_alloc (bel_alloc (bel_step (bel_step hb1 hb2) hb3) (.cells #[.int .i64 2, .int .i64 0, .float .f64 cx, .string ⟨#[]⟩, .slice none 0 0] 25)) (.cells #[.int .i64 2, .int .i64 0, .float .f64 cy, .string ⟨#[]⟩, .slice none 0 0] 25))
  clear hb1 hb2 hb3
  go_at_call 11; refine (HO.out _).mono ?_; rintro e' w4 ⟨rfl, hb4⟩
  have ra := row_step HA.out hb4
  have rb := row_step HB.out hb4
  have HW4 := Lib.hid (bel_step HW.out hb4)
  have a0 := row_cell ra 0; have a1 := row_cell ra 1; have a2 := row_cell ra 2; have a3 := row_cell ra 3; have a4 := row_cell ra 4
  have b0 := row_cell rb 0; have b1 := row_cell rb 1; have b2 := row_cell rb 2; have b3 := row_cell rb 3; have b4 := row_cell rb 4
  simp only [List.getElem?_toArray, List.getElem?_cons_zero, List.getElem?_cons_succ, World.size_alloc] at a0 a1 a2 a3 a4 b0 b1 b2 b3 b4
  clear ra rb hb4
  go_wp2_with fail
  go_wp2_with (first
    | (go_at_call 13; refine (HQ.out _).mono ?_; rintro e' w5 ⟨rfl, hb5⟩; have HW5 := Lib.hid (bel_step HW4.out hb5); clear hb5)
    | (go_at_call 14; refine (bits_ref_any _ _).mono ?_; rintro e' w6 ⟨rfl, rfl⟩; (try rw [HCX.out]); (try rw [HCY.out])))
  go_ret
  first
    | exact ⟨rfl, HW5.out⟩
    | exact ⟨rfl, bel_drewN _ HW5.out⟩
    | exact ⟨rfl, HW4.out⟩
set_option maxRecDepth 100000 in
set_option maxHeartbeats 4000000 in
theorem floats_C (x y : Nat) (hx : x < 18446744073709551616) (hy : y < 18446744073709551616) (w : World) (ht : Tabs w) (h1 : FloatKind.f64.format.order x x = some .eq) (h2 : (FloatKind.f64.format.order y y != some .eq) = true) (hO : ordF (Flo.canon x) (Flo.canon y) = 1) (hQ : (cmpF (Flo.canon x) (Flo.canon y) == 0) = false) : Calls Tryz.prog 4 #[.float .f64 x, .float .f64 y] w fun e w' => e = .returned (.bool true) ∧ Below w.heap.size w w' := by
  have HT := Lib.hid ht
  have lx := Flo.canon_lt (x := x) hx
  have ly := Flo.canon_lt (x := y) hy
  obtain ⟨cx, hcx⟩ : ∃ cx, Flo.canon x = cx := ⟨_, rfl⟩
  obtain ⟨cy, hcy⟩ : ∃ cy, Flo.canon y = cy := ⟨_, rfl⟩
  rw [hcx] at hO hQ lx
  rw [hcy] at hO hQ ly
  have HCX := Lib.hid hcx
  have HCY := Lib.hid hcy
  have HO := Lib.hid (fun w => order_flo cx cy lx ly w _ hO)
  have HQ := Lib.hid (fun w => equal_flo cx cy lx ly w _ hQ)
  clear ht hO hQ hcx hcy
  go_enter Tryz.func4, Tryz.ntmps4
  go_wp2_with fail
  go_at_call 9; refine (known_any _ HT.out).mono ?_; rintro e' w1 ⟨rfl, hb1⟩
  go_wp2_with fail
  go_at_call 12; refine (float_ref_any _ _).mono ?_; rintro e' w2 ⟨rfl, hb2⟩
  rw [HCX.out]
  go_wp2_with fail
  go_at_call 12; refine (float_ref_any _ _).mono ?_; rintro e' w3 ⟨rfl, hb3⟩
  rw [HCY.out]
  go_wp2_with fail
  have HA := Lib.hid (row_alloc_step (row_alloc w3 #[.int .i64 2, .int .i64 0, .float .f64 cx, .string ⟨#[]⟩, .slice none 0 0] 25) (.cells #[.int .i64 2, .int .i64 0, .float .f64 cy, .string ⟨#[]⟩, .slice none 0 0] 25))
  have HB := Lib.hid (row_alloc (w3.alloc (.cells #[.int .i64 2, .int .i64 0, .float .f64 cx, .string ⟨#[]⟩, .slice none 0 0] 25)) #[.int .i64 2, .int .i64 0, .float .f64 cy, .string ⟨#[]⟩, .slice none 0 0] 25)
  have HW := Lib.hid (bel_alloc (bel_alloc (bel_step (bel_step hb1 hb2) hb3) (.cells #[.int .i64 2, .int .i64 0, .float .f64 cx, .string ⟨#[]⟩, .slice none 0 0] 25)) (.cells #[.int .i64 2, .int .i64 0, .float .f64 cy, .string ⟨#[]⟩, .slice none 0 0] 25))
  clear hb1 hb2 hb3
  go_at_call 11; refine (HO.out _).mono ?_; rintro e' w4 ⟨rfl, hb4⟩
  have ra := row_step HA.out hb4
  have rb := row_step HB.out hb4
  have HW4 := Lib.hid (bel_step HW.out hb4)
  have a0 := row_cell ra 0; have a1 := row_cell ra 1; have a2 := row_cell ra 2; have a3 := row_cell ra 3; have a4 := row_cell ra 4
  have b0 := row_cell rb 0; have b1 := row_cell rb 1; have b2 := row_cell rb 2; have b3 := row_cell rb 3; have b4 := row_cell rb 4
  simp only [List.getElem?_toArray, List.getElem?_cons_zero, List.getElem?_cons_succ, World.size_alloc] at a0 a1 a2 a3 a4 b0 b1 b2 b3 b4
  clear ra rb hb4
  go_wp2_with fail
  go_wp2_with (first
    | (go_at_call 13; refine (HQ.out _).mono ?_; rintro e' w5 ⟨rfl, hb5⟩; have HW5 := Lib.hid (bel_step HW4.out hb5); clear hb5)
    | (go_at_call 14; refine (bits_ref_any _ _).mono ?_; rintro e' w6 ⟨rfl, rfl⟩; (try rw [HCX.out]); (try rw [HCY.out])))
  go_ret
  first
    | exact ⟨rfl, HW5.out⟩
    | exact ⟨rfl, bel_drewN _ HW5.out⟩
    | exact ⟨rfl, HW4.out⟩
set_option maxRecDepth 100000 in
set_option maxHeartbeats 4000000 in
theorem floats_Dnlt (x y : Nat) (hx : x < 18446744073709551616) (hy : y < 18446744073709551616) (w : World) (ht : Tabs w) (h1 : FloatKind.f64.format.order x x = some .eq) (h2 : FloatKind.f64.format.order y y = some .eq) (hz : (FloatKind.f64.format.order x 0 == some .eq) = false) (h3 : FloatKind.f64.format.order x y = some .lt) (hO : ordF (Flo.canon x) (Flo.canon y) = -1) (hQ : (cmpF (Flo.canon x) (Flo.canon y) == 0) = false) : Calls Tryz.prog 4 #[.float .f64 x, .float .f64 y] w fun e w' => e = .returned (.bool true) ∧ Below w.heap.size w w' := by
  have HT := Lib.hid ht
  have lx := Flo.canon_lt (x := x) hx
  have ly := Flo.canon_lt (x := y) hy
  obtain ⟨cx, hcx⟩ : ∃ cx, Flo.canon x = cx := ⟨_, rfl⟩
  obtain ⟨cy, hcy⟩ : ∃ cy, Flo.canon y = cy := ⟨_, rfl⟩
  rw [hcx] at hO hQ lx
  rw [hcy] at hO hQ ly
  have HCX := Lib.hid hcx
  have HCY := Lib.hid hcy
  have HO := Lib.hid (fun w => order_flo cx cy lx ly w _ hO)
  have HQ := Lib.hid (fun w => equal_flo cx cy lx ly w _ hQ)
  clear ht hO hQ hcx hcy
  go_enter Tryz.func4, Tryz.ntmps4
  go_wp2_with fail
  go_at_call 9; refine (known_any _ HT.out).mono ?_; rintro e' w1 ⟨rfl, hb1⟩
  go_wp2_with fail
  go_at_call 12; refine (float_ref_any _ _).mono ?_; rintro e' w2 ⟨rfl, hb2⟩
  rw [HCX.out]
  go_wp2_with fail
  go_at_call 12; refine (float_ref_any _ _).mono ?_; rintro e' w3 ⟨rfl, hb3⟩
  rw [HCY.out]
  go_wp2_with fail
  have HA := Lib.hid (row_alloc_step (row_alloc w3 #[.int .i64 2, .int .i64 0, .float .f64 cx, .string ⟨#[]⟩, .slice none 0 0] 25) (.cells #[.int .i64 2, .int .i64 0, .float .f64 cy, .string ⟨#[]⟩, .slice none 0 0] 25))
  have HB := Lib.hid (row_alloc (w3.alloc (.cells #[.int .i64 2, .int .i64 0, .float .f64 cx, .string ⟨#[]⟩, .slice none 0 0] 25)) #[.int .i64 2, .int .i64 0, .float .f64 cy, .string ⟨#[]⟩, .slice none 0 0] 25)
  have HW := Lib.hid (bel_alloc (bel_alloc (bel_step (bel_step hb1 hb2) hb3) (.cells #[.int .i64 2, .int .i64 0, .float .f64 cx, .string ⟨#[]⟩, .slice none 0 0] 25)) (.cells #[.int .i64 2, .int .i64 0, .float .f64 cy, .string ⟨#[]⟩, .slice none 0 0] 25))
  clear hb1 hb2 hb3
  go_at_call 11; refine (HO.out _).mono ?_; rintro e' w4 ⟨rfl, hb4⟩
  have ra := row_step HA.out hb4
  have rb := row_step HB.out hb4
  have HW4 := Lib.hid (bel_step HW.out hb4)
  have a0 := row_cell ra 0; have a1 := row_cell ra 1; have a2 := row_cell ra 2; have a3 := row_cell ra 3; have a4 := row_cell ra 4
  have b0 := row_cell rb 0; have b1 := row_cell rb 1; have b2 := row_cell rb 2; have b3 := row_cell rb 3; have b4 := row_cell rb 4
  simp only [List.getElem?_toArray, List.getElem?_cons_zero, List.getElem?_cons_succ, World.size_alloc] at a0 a1 a2 a3 a4 b0 b1 b2 b3 b4
  clear ra rb hb4
  go_wp2_with fail
  go_wp2_with (first
    | (go_at_call 13; refine (HQ.out _).mono ?_; rintro e' w5 ⟨rfl, hb5⟩; have HW5 := Lib.hid (bel_step HW4.out hb5); clear hb5)
    | (go_at_call 14; refine (bits_ref_any _ _).mono ?_; rintro e' w6 ⟨rfl, rfl⟩; (try rw [HCX.out]); (try rw [HCY.out])))
  go_ret
  first
    | exact ⟨rfl, HW5.out⟩
    | exact ⟨rfl, bel_drewN _ HW5.out⟩
    | exact ⟨rfl, HW4.out⟩
set_option maxRecDepth 100000 in
set_option maxHeartbeats 4000000 in
theorem floats_Dngt (x y : Nat) (hx : x < 18446744073709551616) (hy : y < 18446744073709551616) (w : World) (ht : Tabs w) (h1 : FloatKind.f64.format.order x x = some .eq) (h2 : FloatKind.f64.format.order y y = some .eq) (hz : (FloatKind.f64.format.order x 0 == some .eq) = false) (h3 : FloatKind.f64.format.order x y = some .gt) (hO : ordF (Flo.canon x) (Flo.canon y) = 1) (hQ : (cmpF (Flo.canon x) (Flo.canon y) == 0) = false) : Calls Tryz.prog 4 #[.float .f64 x, .float .f64 y] w fun e w' => e = .returned (.bool true) ∧ Below w.heap.size w w' := by
  have HT := Lib.hid ht
  have lx := Flo.canon_lt (x := x) hx
  have ly := Flo.canon_lt (x := y) hy
  obtain ⟨cx, hcx⟩ : ∃ cx, Flo.canon x = cx := ⟨_, rfl⟩
  obtain ⟨cy, hcy⟩ : ∃ cy, Flo.canon y = cy := ⟨_, rfl⟩
  rw [hcx] at hO hQ lx
  rw [hcy] at hO hQ ly
  have HCX := Lib.hid hcx
  have HCY := Lib.hid hcy
  have HO := Lib.hid (fun w => order_flo cx cy lx ly w _ hO)
  have HQ := Lib.hid (fun w => equal_flo cx cy lx ly w _ hQ)
  clear ht hO hQ hcx hcy
  go_enter Tryz.func4, Tryz.ntmps4
  go_wp2_with fail
  go_at_call 9; refine (known_any _ HT.out).mono ?_; rintro e' w1 ⟨rfl, hb1⟩
  go_wp2_with fail
  go_at_call 12; refine (float_ref_any _ _).mono ?_; rintro e' w2 ⟨rfl, hb2⟩
  rw [HCX.out]
  go_wp2_with fail
  go_at_call 12; refine (float_ref_any _ _).mono ?_; rintro e' w3 ⟨rfl, hb3⟩
  rw [HCY.out]
  go_wp2_with fail
  have HA := Lib.hid (row_alloc_step (row_alloc w3 #[.int .i64 2, .int .i64 0, .float .f64 cx, .string ⟨#[]⟩, .slice none 0 0] 25) (.cells #[.int .i64 2, .int .i64 0, .float .f64 cy, .string ⟨#[]⟩, .slice none 0 0] 25))
  have HB := Lib.hid (row_alloc (w3.alloc (.cells #[.int .i64 2, .int .i64 0, .float .f64 cx, .string ⟨#[]⟩, .slice none 0 0] 25)) #[.int .i64 2, .int .i64 0, .float .f64 cy, .string ⟨#[]⟩, .slice none 0 0] 25)
  have HW := Lib.hid (bel_alloc (bel_alloc (bel_step (bel_step hb1 hb2) hb3) (.cells #[.int .i64 2, .int .i64 0, .float .f64 cx, .string ⟨#[]⟩, .slice none 0 0] 25)) (.cells #[.int .i64 2, .int .i64 0, .float .f64 cy, .string ⟨#[]⟩, .slice none 0 0] 25))
  clear hb1 hb2 hb3
  go_at_call 11; refine (HO.out _).mono ?_; rintro e' w4 ⟨rfl, hb4⟩
  have ra := row_step HA.out hb4
  have rb := row_step HB.out hb4
  have HW4 := Lib.hid (bel_step HW.out hb4)
  have a0 := row_cell ra 0; have a1 := row_cell ra 1; have a2 := row_cell ra 2; have a3 := row_cell ra 3; have a4 := row_cell ra 4
  have b0 := row_cell rb 0; have b1 := row_cell rb 1; have b2 := row_cell rb 2; have b3 := row_cell rb 3; have b4 := row_cell rb 4
  simp only [List.getElem?_toArray, List.getElem?_cons_zero, List.getElem?_cons_succ, World.size_alloc] at a0 a1 a2 a3 a4 b0 b1 b2 b3 b4
  clear ra rb hb4
  go_wp2_with fail
  go_wp2_with (first
    | (go_at_call 13; refine (HQ.out _).mono ?_; rintro e' w5 ⟨rfl, hb5⟩; have HW5 := Lib.hid (bel_step HW4.out hb5); clear hb5)
    | (go_at_call 14; refine (bits_ref_any _ _).mono ?_; rintro e' w6 ⟨rfl, rfl⟩; (try rw [HCX.out]); (try rw [HCY.out])))
  go_ret
  first
    | exact ⟨rfl, HW5.out⟩
    | exact ⟨rfl, bel_drewN _ HW5.out⟩
    | exact ⟨rfl, HW4.out⟩
set_option maxRecDepth 100000 in
set_option maxHeartbeats 4000000 in
theorem floats_Dneq (x y : Nat) (hx : x < 18446744073709551616) (hy : y < 18446744073709551616) (w : World) (ht : Tabs w) (h1 : FloatKind.f64.format.order x x = some .eq) (h2 : FloatKind.f64.format.order y y = some .eq) (hz : (FloatKind.f64.format.order x 0 == some .eq) = false) (h3 : FloatKind.f64.format.order x y = some .eq) (hO : ordF (Flo.canon x) (Flo.canon y) = 0) (hQ : (cmpF (Flo.canon x) (Flo.canon y) == 0) = true) : Calls Tryz.prog 4 #[.float .f64 x, .float .f64 y] w fun e w' => e = .returned (.bool true) ∧ Below w.heap.size w w' := by
  have HT := Lib.hid ht
  have lx := Flo.canon_lt (x := x) hx
  have ly := Flo.canon_lt (x := y) hy
  obtain ⟨cx, hcx⟩ : ∃ cx, Flo.canon x = cx := ⟨_, rfl⟩
  obtain ⟨cy, hcy⟩ : ∃ cy, Flo.canon y = cy := ⟨_, rfl⟩
  rw [hcx] at hO hQ lx
  rw [hcy] at hO hQ ly
  have HCX := Lib.hid hcx
  have HCY := Lib.hid hcy
  have HO := Lib.hid (fun w => order_flo cx cy lx ly w _ hO)
  have HQ := Lib.hid (fun w => equal_flo cx cy lx ly w _ hQ)
  clear ht hO hQ hcx hcy
  go_enter Tryz.func4, Tryz.ntmps4
  go_wp2_with fail
  go_at_call 9; refine (known_any _ HT.out).mono ?_; rintro e' w1 ⟨rfl, hb1⟩
  go_wp2_with fail
  go_at_call 12; refine (float_ref_any _ _).mono ?_; rintro e' w2 ⟨rfl, hb2⟩
  rw [HCX.out]
  go_wp2_with fail
  go_at_call 12; refine (float_ref_any _ _).mono ?_; rintro e' w3 ⟨rfl, hb3⟩
  rw [HCY.out]
  go_wp2_with fail
  have HA := Lib.hid (row_alloc_step (row_alloc w3 #[.int .i64 2, .int .i64 0, .float .f64 cx, .string ⟨#[]⟩, .slice none 0 0] 25) (.cells #[.int .i64 2, .int .i64 0, .float .f64 cy, .string ⟨#[]⟩, .slice none 0 0] 25))
  have HB := Lib.hid (row_alloc (w3.alloc (.cells #[.int .i64 2, .int .i64 0, .float .f64 cx, .string ⟨#[]⟩, .slice none 0 0] 25)) #[.int .i64 2, .int .i64 0, .float .f64 cy, .string ⟨#[]⟩, .slice none 0 0] 25)
  have HW := Lib.hid (bel_alloc (bel_alloc (bel_step (bel_step hb1 hb2) hb3) (.cells #[.int .i64 2, .int .i64 0, .float .f64 cx, .string ⟨#[]⟩, .slice none 0 0] 25)) (.cells #[.int .i64 2, .int .i64 0, .float .f64 cy, .string ⟨#[]⟩, .slice none 0 0] 25))
  clear hb1 hb2 hb3
  go_at_call 11; refine (HO.out _).mono ?_; rintro e' w4 ⟨rfl, hb4⟩
  have ra := row_step HA.out hb4
  have rb := row_step HB.out hb4
  have HW4 := Lib.hid (bel_step HW.out hb4)
  have a0 := row_cell ra 0; have a1 := row_cell ra 1; have a2 := row_cell ra 2; have a3 := row_cell ra 3; have a4 := row_cell ra 4
  have b0 := row_cell rb 0; have b1 := row_cell rb 1; have b2 := row_cell rb 2; have b3 := row_cell rb 3; have b4 := row_cell rb 4
  simp only [List.getElem?_toArray, List.getElem?_cons_zero, List.getElem?_cons_succ, World.size_alloc] at a0 a1 a2 a3 a4 b0 b1 b2 b3 b4
  clear ra rb hb4
  go_wp2_with fail
  go_wp2_with (first
    | (go_at_call 13; refine (HQ.out _).mono ?_; rintro e' w5 ⟨rfl, hb5⟩; have HW5 := Lib.hid (bel_step HW4.out hb5); clear hb5)
    | (go_at_call 14; refine (bits_ref_any _ _).mono ?_; rintro e' w6 ⟨rfl, rfl⟩; (try rw [HCX.out]); (try rw [HCY.out])))
  go_ret
  first
    | exact ⟨rfl, HW5.out⟩
    | exact ⟨rfl, bel_drewN _ HW5.out⟩
    | exact ⟨rfl, HW4.out⟩
set_option maxRecDepth 100000 in
set_option maxHeartbeats 4000000 in
theorem floats_Dzlt (x y : Nat) (hx : x < 18446744073709551616) (hy : y < 18446744073709551616) (w : World) (ht : Tabs w) (h1 : FloatKind.f64.format.order x x = some .eq) (h2 : FloatKind.f64.format.order y y = some .eq) (hz : FloatKind.f64.format.order x 0 = some .eq) (hz2 : (FloatKind.f64.format.order y 0 == some .eq) = false) (h3 : FloatKind.f64.format.order x y = some .lt) (hO : ordF (Flo.canon x) (Flo.canon y) = -1) (hQ : (cmpF (Flo.canon x) (Flo.canon y) == 0) = false) : Calls Tryz.prog 4 #[.float .f64 x, .float .f64 y] w fun e w' => e = .returned (.bool true) ∧ Below w.heap.size w w' := by
  have HT := Lib.hid ht
  have lx := Flo.canon_lt (x := x) hx
  have ly := Flo.canon_lt (x := y) hy
  obtain ⟨cx, hcx⟩ : ∃ cx, Flo.canon x = cx := ⟨_, rfl⟩
  obtain ⟨cy, hcy⟩ : ∃ cy, Flo.canon y = cy := ⟨_, rfl⟩
  rw [hcx] at hO hQ lx
  rw [hcy] at hO hQ ly
  have HCX := Lib.hid hcx
  have HCY := Lib.hid hcy
  have HO := Lib.hid (fun w => order_flo cx cy lx ly w _ hO)
  have HQ := Lib.hid (fun w => equal_flo cx cy lx ly w _ hQ)
  clear ht hO hQ hcx hcy
  go_enter Tryz.func4, Tryz.ntmps4
  go_wp2_with fail
  go_at_call 9; refine (known_any _ HT.out).mono ?_; rintro e' w1 ⟨rfl, hb1⟩
  go_wp2_with fail
  go_at_call 12; refine (float_ref_any _ _).mono ?_; rintro e' w2 ⟨rfl, hb2⟩
  rw [HCX.out]
  go_wp2_with fail
  go_at_call 12; refine (float_ref_any _ _).mono ?_; rintro e' w3 ⟨rfl, hb3⟩
  rw [HCY.out]
  go_wp2_with fail
  have HA := Lib.hid (row_alloc_step (row_alloc w3 #[.int .i64 2, .int .i64 0, .float .f64 cx, .string ⟨#[]⟩, .slice none 0 0] 25) (.cells #[.int .i64 2, .int .i64 0, .float .f64 cy, .string ⟨#[]⟩, .slice none 0 0] 25))
  have HB := Lib.hid (row_alloc (w3.alloc (.cells #[.int .i64 2, .int .i64 0, .float .f64 cx, .string ⟨#[]⟩, .slice none 0 0] 25)) #[.int .i64 2, .int .i64 0, .float .f64 cy, .string ⟨#[]⟩, .slice none 0 0] 25)
  have HW := Lib.hid (bel_alloc (bel_alloc (bel_step (bel_step hb1 hb2) hb3) (.cells #[.int .i64 2, .int .i64 0, .float .f64 cx, .string ⟨#[]⟩, .slice none 0 0] 25)) (.cells #[.int .i64 2, .int .i64 0, .float .f64 cy, .string ⟨#[]⟩, .slice none 0 0] 25))
  clear hb1 hb2 hb3
  go_at_call 11; refine (HO.out _).mono ?_; rintro e' w4 ⟨rfl, hb4⟩
  have ra := row_step HA.out hb4
  have rb := row_step HB.out hb4
  have HW4 := Lib.hid (bel_step HW.out hb4)
  have a0 := row_cell ra 0; have a1 := row_cell ra 1; have a2 := row_cell ra 2; have a3 := row_cell ra 3; have a4 := row_cell ra 4
  have b0 := row_cell rb 0; have b1 := row_cell rb 1; have b2 := row_cell rb 2; have b3 := row_cell rb 3; have b4 := row_cell rb 4
  simp only [List.getElem?_toArray, List.getElem?_cons_zero, List.getElem?_cons_succ, World.size_alloc] at a0 a1 a2 a3 a4 b0 b1 b2 b3 b4
  clear ra rb hb4
  go_wp2_with fail
  go_wp2_with (first
    | (go_at_call 13; refine (HQ.out _).mono ?_; rintro e' w5 ⟨rfl, hb5⟩; have HW5 := Lib.hid (bel_step HW4.out hb5); clear hb5)
    | (go_at_call 14; refine (bits_ref_any _ _).mono ?_; rintro e' w6 ⟨rfl, rfl⟩; (try rw [HCX.out]); (try rw [HCY.out])))
  go_ret
  first
    | exact ⟨rfl, HW5.out⟩
    | exact ⟨rfl, bel_drewN _ HW5.out⟩
    | exact ⟨rfl, HW4.out⟩
set_option maxRecDepth 100000 in
set_option maxHeartbeats 4000000 in
theorem floats_Dzgt (x y : Nat) (hx : x < 18446744073709551616) (hy : y < 18446744073709551616) (w : World) (ht : Tabs w) (h1 : FloatKind.f64.format.order x x = some .eq) (h2 : FloatKind.f64.format.order y y = some .eq) (hz : FloatKind.f64.format.order x 0 = some .eq) (hz2 : (FloatKind.f64.format.order y 0 == some .eq) = false) (h3 : FloatKind.f64.format.order x y = some .gt) (hO : ordF (Flo.canon x) (Flo.canon y) = 1) (hQ : (cmpF (Flo.canon x) (Flo.canon y) == 0) = false) : Calls Tryz.prog 4 #[.float .f64 x, .float .f64 y] w fun e w' => e = .returned (.bool true) ∧ Below w.heap.size w w' := by
  have HT := Lib.hid ht
  have lx := Flo.canon_lt (x := x) hx
  have ly := Flo.canon_lt (x := y) hy
  obtain ⟨cx, hcx⟩ : ∃ cx, Flo.canon x = cx := ⟨_, rfl⟩
  obtain ⟨cy, hcy⟩ : ∃ cy, Flo.canon y = cy := ⟨_, rfl⟩
  rw [hcx] at hO hQ lx
  rw [hcy] at hO hQ ly
  have HCX := Lib.hid hcx
  have HCY := Lib.hid hcy
  have HO := Lib.hid (fun w => order_flo cx cy lx ly w _ hO)
  have HQ := Lib.hid (fun w => equal_flo cx cy lx ly w _ hQ)
  clear ht hO hQ hcx hcy
  go_enter Tryz.func4, Tryz.ntmps4
  go_wp2_with fail
  go_at_call 9; refine (known_any _ HT.out).mono ?_; rintro e' w1 ⟨rfl, hb1⟩
  go_wp2_with fail
  go_at_call 12; refine (float_ref_any _ _).mono ?_; rintro e' w2 ⟨rfl, hb2⟩
  rw [HCX.out]
  go_wp2_with fail
  go_at_call 12; refine (float_ref_any _ _).mono ?_; rintro e' w3 ⟨rfl, hb3⟩
  rw [HCY.out]
  go_wp2_with fail
  have HA := Lib.hid (row_alloc_step (row_alloc w3 #[.int .i64 2, .int .i64 0, .float .f64 cx, .string ⟨#[]⟩, .slice none 0 0] 25) (.cells #[.int .i64 2, .int .i64 0, .float .f64 cy, .string ⟨#[]⟩, .slice none 0 0] 25))
  have HB := Lib.hid (row_alloc (w3.alloc (.cells #[.int .i64 2, .int .i64 0, .float .f64 cx, .string ⟨#[]⟩, .slice none 0 0] 25)) #[.int .i64 2, .int .i64 0, .float .f64 cy, .string ⟨#[]⟩, .slice none 0 0] 25)
  have HW := Lib.hid (bel_alloc (bel_alloc (bel_step (bel_step hb1 hb2) hb3) (.cells #[.int .i64 2, .int .i64 0, .float .f64 cx, .string ⟨#[]⟩, .slice none 0 0] 25)) (.cells #[.int .i64 2, .int .i64 0, .float .f64 cy, .string ⟨#[]⟩, .slice none 0 0] 25))
  clear hb1 hb2 hb3
  go_at_call 11; refine (HO.out _).mono ?_; rintro e' w4 ⟨rfl, hb4⟩
  have ra := row_step HA.out hb4
  have rb := row_step HB.out hb4
  have HW4 := Lib.hid (bel_step HW.out hb4)
  have a0 := row_cell ra 0; have a1 := row_cell ra 1; have a2 := row_cell ra 2; have a3 := row_cell ra 3; have a4 := row_cell ra 4
  have b0 := row_cell rb 0; have b1 := row_cell rb 1; have b2 := row_cell rb 2; have b3 := row_cell rb 3; have b4 := row_cell rb 4
  simp only [List.getElem?_toArray, List.getElem?_cons_zero, List.getElem?_cons_succ, World.size_alloc] at a0 a1 a2 a3 a4 b0 b1 b2 b3 b4
  clear ra rb hb4
  go_wp2_with fail
  go_wp2_with (first
    | (go_at_call 13; refine (HQ.out _).mono ?_; rintro e' w5 ⟨rfl, hb5⟩; have HW5 := Lib.hid (bel_step HW4.out hb5); clear hb5)
    | (go_at_call 14; refine (bits_ref_any _ _).mono ?_; rintro e' w6 ⟨rfl, rfl⟩; (try rw [HCX.out]); (try rw [HCY.out])))
  go_ret
  first
    | exact ⟨rfl, HW5.out⟩
    | exact ⟨rfl, bel_drewN _ HW5.out⟩
    | exact ⟨rfl, HW4.out⟩
set_option maxRecDepth 100000 in
set_option maxHeartbeats 4000000 in
theorem floats_Dzeq (x y : Nat) (hx : x < 18446744073709551616) (hy : y < 18446744073709551616) (w : World) (ht : Tabs w) (h1 : FloatKind.f64.format.order x x = some .eq) (h2 : FloatKind.f64.format.order y y = some .eq) (hz : FloatKind.f64.format.order x 0 = some .eq) (hz2 : (FloatKind.f64.format.order y 0 == some .eq) = false) (h3 : FloatKind.f64.format.order x y = some .eq) (hO : ordF (Flo.canon x) (Flo.canon y) = 0) (hQ : (cmpF (Flo.canon x) (Flo.canon y) == 0) = true) : Calls Tryz.prog 4 #[.float .f64 x, .float .f64 y] w fun e w' => e = .returned (.bool true) ∧ Below w.heap.size w w' := by
  have HT := Lib.hid ht
  have lx := Flo.canon_lt (x := x) hx
  have ly := Flo.canon_lt (x := y) hy
  obtain ⟨cx, hcx⟩ : ∃ cx, Flo.canon x = cx := ⟨_, rfl⟩
  obtain ⟨cy, hcy⟩ : ∃ cy, Flo.canon y = cy := ⟨_, rfl⟩
  rw [hcx] at hO hQ lx
  rw [hcy] at hO hQ ly
  have HCX := Lib.hid hcx
  have HCY := Lib.hid hcy
  have HO := Lib.hid (fun w => order_flo cx cy lx ly w _ hO)
  have HQ := Lib.hid (fun w => equal_flo cx cy lx ly w _ hQ)
  clear ht hO hQ hcx hcy
  go_enter Tryz.func4, Tryz.ntmps4
  go_wp2_with fail
  go_at_call 9; refine (known_any _ HT.out).mono ?_; rintro e' w1 ⟨rfl, hb1⟩
  go_wp2_with fail
  go_at_call 12; refine (float_ref_any _ _).mono ?_; rintro e' w2 ⟨rfl, hb2⟩
  rw [HCX.out]
  go_wp2_with fail
  go_at_call 12; refine (float_ref_any _ _).mono ?_; rintro e' w3 ⟨rfl, hb3⟩
  rw [HCY.out]
  go_wp2_with fail
  have HA := Lib.hid (row_alloc_step (row_alloc w3 #[.int .i64 2, .int .i64 0, .float .f64 cx, .string ⟨#[]⟩, .slice none 0 0] 25) (.cells #[.int .i64 2, .int .i64 0, .float .f64 cy, .string ⟨#[]⟩, .slice none 0 0] 25))
  have HB := Lib.hid (row_alloc (w3.alloc (.cells #[.int .i64 2, .int .i64 0, .float .f64 cx, .string ⟨#[]⟩, .slice none 0 0] 25)) #[.int .i64 2, .int .i64 0, .float .f64 cy, .string ⟨#[]⟩, .slice none 0 0] 25)
  have HW := Lib.hid (bel_alloc (bel_alloc (bel_step (bel_step hb1 hb2) hb3) (.cells #[.int .i64 2, .int .i64 0, .float .f64 cx, .string ⟨#[]⟩, .slice none 0 0] 25)) (.cells #[.int .i64 2, .int .i64 0, .float .f64 cy, .string ⟨#[]⟩, .slice none 0 0] 25))
  clear hb1 hb2 hb3
  go_at_call 11; refine (HO.out _).mono ?_; rintro e' w4 ⟨rfl, hb4⟩
  have ra := row_step HA.out hb4
  have rb := row_step HB.out hb4
  have HW4 := Lib.hid (bel_step HW.out hb4)
  have a0 := row_cell ra 0; have a1 := row_cell ra 1; have a2 := row_cell ra 2; have a3 := row_cell ra 3; have a4 := row_cell ra 4
  have b0 := row_cell rb 0; have b1 := row_cell rb 1; have b2 := row_cell rb 2; have b3 := row_cell rb 3; have b4 := row_cell rb 4
  simp only [List.getElem?_toArray, List.getElem?_cons_zero, List.getElem?_cons_succ, World.size_alloc] at a0 a1 a2 a3 a4 b0 b1 b2 b3 b4
  clear ra rb hb4
  go_wp2_with fail
  go_wp2_with (first
    | (go_at_call 13; refine (HQ.out _).mono ?_; rintro e' w5 ⟨rfl, hb5⟩; have HW5 := Lib.hid (bel_step HW4.out hb5); clear hb5)
    | (go_at_call 14; refine (bits_ref_any _ _).mono ?_; rintro e' w6 ⟨rfl, rfl⟩; (try rw [HCX.out]); (try rw [HCY.out])))
  go_ret
  first
    | exact ⟨rfl, HW5.out⟩
    | exact ⟨rfl, bel_drewN _ HW5.out⟩
    | exact ⟨rfl, HW4.out⟩
end Num
end Go.Proofs.YtkbloipkndglgaaGreatDoor
