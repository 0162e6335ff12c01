/-
  The texts that every statement of the layer asks first: of [1, 0.5, "a"], and of 2.0.
-/
import Derived.Test.YtahcgdjcjapnkaaGreatDoorVAt
namespace Go.Proofs.YtahcgdjcjapnkaaGreatDoor
open Go.RowKit
namespace Num
open Ints
set_option linter.unusedSimpArgs false
set_option linter.unusedVariables false
def knownRow : Array Value := #[.int .i64 1, .int .i64 1, .float .f64 0, .string ⟨#[]⟩, .slice none 0 0, .int .i64 2, .int .i64 0, .float .f64 4602678819172646912, .string ⟨#[]⟩, .slice none 0 0, .int .i64 3, .int .i64 0, .float .f64 0, .string ⟨#[97]⟩, .slice none 0 0]
theorem bu_buf {W0 w : World} {v : Value} {xs : List Int} {bb : Nat} {D : List UInt8} {N : Nat} (h : Bu W0 w v xs bb D N) : w.ownsRow W0.heap.size 5 1 v xs.length (xs.map (Value.int .u8)) ∧ Below W0.heap.size W0 w ∧ W0.heap.size ≤ w.heap.size := ⟨h.1, h.2.1, h.2.2.1⟩
theorem fmt_half : ffmt 4602678819172646912 = [48, 46, 53] := by decide +kernel
theorem fmt_two : ffmt 4611686018427387904 = [50] := by decide +kernel
theorem ascii_half : Ascii 4602678819172646912 := by
  unfold Ascii
  rw [fmt_half]
  refine ⟨by decide, fun j b h => ?_⟩
  have := List.mem_of_getElem? h
  simp [strOfI] at this
  rcases this with rfl | rfl | rfl <;> decide
theorem ascii_two : Ascii 4611686018427387904 := by
  unfold Ascii
  rw [fmt_two]
  refine ⟨by decide, fun j b h => ?_⟩
  have := List.mem_of_getElem? h
  simp [strOfI] at this
  subst this
  decide
theorem ftS_half : ftS 4602678819172646912 = ⟨#[48, 46, 53]⟩ := by
  unfold ftS dotE
  rw [fmt_half]
  rfl
theorem ftS_two : ftS 4611686018427387904 = ⟨#[50, 46, 48]⟩ := by
  unfold ftS dotE
  rw [fmt_two, show nanB 4611686018427387904 = false by decide +kernel, show isInfB 4611686018427387904 = false by decide +kernel]
  rfl
theorem box_after {W0 w w' : World} {B n : Nat} {v : Value} {xs : List Value} {cs : Array Value} {T e : TypeId} (hb : Lib.OwnBuf B e v n xs W0 w) (hg : (w.alloc (.cells cs T)).grownBy w' v.ownBlock) : w'.heap[w.heap.size]? = some (.cells cs T (0, 0)) := by
  have hne : some w.heap.size ≠ v.ownBlock := fun e => absurd (hb.1.lt _ e.symm).2 (Nat.lt_irrefl _)
  exact (hg.block w.heap.size (by rw [World.size_alloc]; omega) hne).trans (row_alloc w cs T)
set_option maxRecDepth 100000 in
set_option maxHeartbeats 4000000 in
theorem al_known_at (W0 : World) (v0 : Value) (hbu : Bu W0 W0 v0 [] 0 [] 0) (lb : Nat) (hr : W0.heap[lb]? = some (.cells knownRow 26 (0, 0))) (h0 : 0 < W0.heap.size) (hpt : PowTab W0) (htab : TenT W0) (hT : PrT W0) (hU : U8T W0) :
    Calls Tryz.prog 32 #[v0, .slice (some ⟨lb, 0, none⟩) 3 3] W0 fun e w' => ∃ v', e = .returned v' ∧ Lib.OwnBuf W0.heap.size 5 v' 13 ([91, 49, 44, 32, 48, 46, 53, 44, 32, 34, 97, 34, 93].map (Value.int .u8)) W0 w' := by
  obtain ⟨i0, hi, hz0, hz1, hz2⟩ := info_parts info_u8
  have hlt := row_lt hr
  have HR := Lib.hid hr
  have HPT := Lib.hid hpt
  have HTB := Lib.hid htab
  have HT := Lib.hid hT
  have HU := Lib.hid hU
  clear hr hpt htab hT hU
  go_enter Tryz.func32, Tryz.ntmps32
  go_wp2_with (at_builtin; first
    | (refine wp_app1 rfl _ _ rfl W0 _ _ _ _ _ _ _ rfl rfl (by assumption) (by assumption) (by omega) ?_; intro _ _ hbu hbl))
  have HW := Lib.hid (bu_buf hbu)
  clear hbu
  refine wp_loop_rounds 4 ?_
  rw [rounds_succ]
  have rr := row_keep HW.out.2.1 HR.out hlt
  have c0 := row_cell rr 0; have c1 := row_cell rr 1; have c2 := row_cell rr 2; have c3 := row_cell rr 3; have c4 := row_cell rr 4
  simp only [knownRow, List.getElem?_toArray, List.getElem?_cons_zero, List.getElem?_cons_succ] at c0 c1 c2 c3 c4
  clear rr
  go_wp2_with fail
  go_at_call 20; refine (at_int W0 _ _ 1 _ 1 0 _ _ _ _ (by decide) (by decide) (HW.out.1.alloc _) (HW.out.2.1.alloc HW.out.2.2 _) (by have := HW.out.2.2; simp only [World.size_drew, World.size_alloc]; omega) (by decide) HTB.out).mono ?_; rintro e' w1 ⟨v1, rfl, ho1, hb1, hs1⟩
  rw [show Lib.itoa 1 = [49] by decide +kernel] at ho1
  have HW := Lib.hid (show Lib.OwnBuf W0.heap.size 5 v1 2 ([91, 49].map (Value.int .u8)) W0 w1 from ⟨World.ownsRowF_of ho1, hb1, hs1⟩)
  clear ho1 hb1 hs1 c0 c1 c2 c3 c4
  go_wp2_with fail
  rw [rounds_succ]
  have rr := row_keep HW.out.2.1 HR.out hlt
  have c5 := row_cell rr 5; have c6 := row_cell rr 6; have c7 := row_cell rr 7; have c8 := row_cell rr 8; have c9 := row_cell rr 9
  simp only [knownRow, List.getElem?_toArray, List.getElem?_cons_zero, List.getElem?_cons_succ] at c5 c6 c7 c8 c9
  clear rr
  go_wp2_with (at_builtin; refine Lib.wpList_append_own_stringF _ rfl _ _ 28 9 rfl W0.heap.size 5 i0 Tryz.underlying28 Tryz.underlying9 hi hz0 hz1 hz2 _ _ _ rfl (by exact (HW.out.alloc _).1) _ rfl (by unfold maxLen; decide) (by decide) (by exact (HW.out.alloc _).2.2) ?_; intro va wa hoa hga _; have hob := (HW.out.alloc _).grown hoa hga; have bx := box_after HW.out hga; have d0 := row_cell bx 0; have d1 := row_cell bx 1; have d2 := row_cell bx 2; have d3 := row_cell bx 3; have d4 := row_cell bx 4; simp only [List.getElem?_toArray, List.getElem?_cons_zero, List.getElem?_cons_succ] at d0 d1 d2 d3 d4; clear bx hoa hga)
  go_at_call 20; refine (at_flo W0 _ _ _ _ 0 4602678819172646912 _ _ _ _ (by decide) ascii_half hob h0 (by decide) (by rw [ftS_half]; decide) HPT.out HTB.out).mono ?_; rintro e' w2 ⟨v2, rfl, hb2⟩
  rw [ftS_half] at hb2
  have HW := Lib.hid (show Lib.OwnBuf W0.heap.size 5 v2 7 ([91, 49, 44, 32, 48, 46, 53].map (Value.int .u8)) W0 w2 from hb2)
  clear hb2 hob d0 d1 d2 d3 d4 c5 c6 c7 c8 c9
  go_wp2_with fail
  rw [rounds_succ]
  have rr := row_keep HW.out.2.1 HR.out hlt
  have c10 := row_cell rr 10; have c11 := row_cell rr 11; have c12 := row_cell rr 12; have c13 := row_cell rr 13; have c14 := row_cell rr 14
  simp only [knownRow, List.getElem?_toArray, List.getElem?_cons_zero, List.getElem?_cons_succ] at c10 c11 c12 c13 c14
  clear rr
  go_wp2_with (at_builtin; refine Lib.wpList_append_own_stringF _ rfl _ _ 28 9 rfl W0.heap.size 5 i0 Tryz.underlying28 Tryz.underlying9 hi hz0 hz1 hz2 _ _ _ rfl (by exact (HW.out.alloc _).1) _ rfl (by unfold maxLen; decide) (by decide) (by exact (HW.out.alloc _).2.2) ?_; intro va wa hoa hga _; have hob := (HW.out.alloc _).grown hoa hga; have bx := box_after HW.out hga; have d0 := row_cell bx 0; have d1 := row_cell bx 1; have d2 := row_cell bx 2; have d3 := row_cell bx 3; have d4 := row_cell bx 4; simp only [List.getElem?_toArray, List.getElem?_cons_zero, List.getElem?_cons_succ] at d0 d1 d2 d3 d4; clear bx hoa hga)
  go_at_call 20; refine (at_a W0 _ _ _ _ 0 0 _ _ _ hob (by decide) (by decide) (by decide) HT.out HU.out).mono ?_; rintro e' w3 ⟨v3, rfl, hb3⟩
  have HW := Lib.hid (show Lib.OwnBuf W0.heap.size 5 v3 12 ([91, 49, 44, 32, 48, 46, 53, 44, 32, 34, 97, 34].map (Value.int .u8)) W0 w3 from hb3)
  clear hb3 hob d0 d1 d2 d3 d4 c10 c11 c12 c13 c14
  go_wp2_with fail
  rw [rounds_succ]
  go_wp2_with (at_builtin; refine Lib.wpList_append_byte rfl _ _ 28 rfl W0.heap.size 5 i0 Tryz.underlying28 hi hz0 hz1 hz2 _ _ _ rfl W0 _ _ (by exact HW.out) rfl (by decide) ?_; intro _ _ hob)
  go_ret
  exact ⟨_, rfl, hob⟩
end Num
end Go.Proofs.YtahcgdjcjapnkaaGreatDoor
