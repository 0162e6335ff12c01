/-
  NumMixed, one of its cases.
-/
import Derived.Test.YtkodgfhpbpefdaaLMixBase
namespace Go.Proofs.Ytkodgfhpbpefdaa
open Go.RowKit
namespace Num
open Ints
set_option linter.unusedSimpArgs false
set_option linter.unusedVariables false
set_option maxHeartbeats 4000000 in
theorem numMixed_none_some (n : Int) (wn : (Lit.int .i64 n).wf = true) (y : Nat) (ha : floatBits .add .f64 (floatOfInt .f64 n) y = none) {rm : Nat} (hm : floatBits .mul .f64 (floatOfInt .f64 n) y = some rm) (w : World) : Calls Try.prog 9 #[.int .i64 n, .float .f64 y] w fun e w' => e = .returned (.bool true) ∧ Below w.heap.size w w' := by
  have Hn := Lib.hid (int_ok_of_wf wn)
  have opa : ∀ t w, (binOp .add t (.float .f64 (floatOfInt .f64 n)) (.float .f64 y)).run Try.prog w = .ok (.float .f64 (Flo.drawn (floatOfInt .f64 n) y (w.tape w.drawn (.nanBits .f64 (floatOfInt .f64 n) y)))) w.drew := fun t w => Flo.run_none w .add t _ _ (by simp) ha
  have Ha := Lib.hid (Flo.cop_none ha).symm
  have opm : ∀ t w, (binOp .mul t (.float .f64 (floatOfInt .f64 n)) (.float .f64 y)).run Try.prog w = .ok (.float .f64 rm) w := fun t w => run_float_arith w .mul t .f64 _ _ _ hm
  have Hm := Lib.hid (Flo.cop_some hm).symm
  clear wn ha hm
  go_enter Try.func9, Try.ntmps9
  go_wp2_with fail
  go_at_call 10; refine (known_any _).mono ?_; rintro e w0 ⟨rfl, hb0⟩
  go_wp2_with fail
  go_at_call 18; refine (int_ref_any _ _).mono ?_; rintro e w1 ⟨rfl, hb1⟩
  go_wp2_with fail
  go_at_call 30; refine (float_ref_any _ _).mono ?_; rintro e w2 ⟨rfl, hb2⟩
  go_wp2_with fail
  go_at_call 12; refine (add_l _ _ Hn.out _).mono ?_; rintro e w3 ⟨rfl, hb3⟩
  have RA := row_alloc w3 #[.int .i64 2, .int .i64 0, .float .f64 (Flo.cop .add (floatOfInt .f64 n) y), .string ⟨#[]⟩, .slice none 0 0] 25
  have BA := bel_alloc (bel_step (bel_step (bel_step hb0 hb1) hb2) hb3) (.cells #[.int .i64 2, .int .i64 0, .float .f64 (Flo.cop .add (floatOfInt .f64 n) y), .string ⟨#[]⟩, .slice none 0 0] 25)
  clear hb0 hb1 hb2 hb3
  go_wp2_with fail
  go_at_call 30; refine (float_ref_any _ _).mono ?_; rintro e w4 ⟨rfl, hb4⟩
  go_wp2_with fail
  go_at_call 18; refine (int_ref_any _ _).mono ?_; rintro e w5 ⟨rfl, hb5⟩
  go_wp2_with fail
  go_at_call 12; refine (add_r _ _ Hn.out _).mono ?_; rintro e w6 ⟨rfl, hb6⟩
  have RB := row_alloc w6 #[.int .i64 2, .int .i64 0, .float .f64 (Flo.cop .add (floatOfInt .f64 n) y), .string ⟨#[]⟩, .slice none 0 0] 25
  have RA2 := row_alloc_step (row_step (row_step (row_step RA hb4) hb5) hb6) (.cells #[.int .i64 2, .int .i64 0, .float .f64 (Flo.cop .add (floatOfInt .f64 n) y), .string ⟨#[]⟩, .slice none 0 0] 25)
  have BB := bel_alloc (bel_step (bel_step (bel_step BA hb4) hb5) hb6) (.cells #[.int .i64 2, .int .i64 0, .float .f64 (Flo.cop .add (floatOfInt .f64 n) y), .string ⟨#[]⟩, .slice none 0 0] 25)
  clear hb4 hb5 hb6 RA BA
  go_wp2_with fail
  go_at_call 18; refine (int_ref_any _ _).mono ?_; rintro e w7 ⟨rfl, hb7⟩
  go_wp2_with fail
  go_at_call 30; refine (float_ref_any _ _).mono ?_; rintro e w8 ⟨rfl, hb8⟩
  go_wp2_with fail
  go_at_call 16; refine (mul_l _ _ Hn.out _).mono ?_; rintro e w9 ⟨rfl, hb9⟩
  have RC := row_alloc w9 #[.int .i64 2, .int .i64 0, .float .f64 (Flo.cop .mul (floatOfInt .f64 n) y), .string ⟨#[]⟩, .slice none 0 0] 25
  have RA3 := row_alloc_step (row_step (row_step (row_step RA2 hb7) hb8) hb9) (.cells #[.int .i64 2, .int .i64 0, .float .f64 (Flo.cop .mul (floatOfInt .f64 n) y), .string ⟨#[]⟩, .slice none 0 0] 25)
  have RB3 := row_alloc_step (row_step (row_step (row_step RB hb7) hb8) hb9) (.cells #[.int .i64 2, .int .i64 0, .float .f64 (Flo.cop .mul (floatOfInt .f64 n) y), .string ⟨#[]⟩, .slice none 0 0] 25)
  have BC := bel_alloc (bel_step (bel_step (bel_step BB hb7) hb8) hb9) (.cells #[.int .i64 2, .int .i64 0, .float .f64 (Flo.cop .mul (floatOfInt .f64 n) y), .string ⟨#[]⟩, .slice none 0 0] 25)
  clear hb7 hb8 hb9 RA2 RB BB
  go_wp2
  generalize w9.alloc (.cells #[.int .i64 2, .int .i64 0, .float .f64 (Flo.cop .mul (floatOfInt .f64 n) y), .string ⟨#[]⟩, .slice none 0 0] 25) = W at RC RA3 RB3 BC ⊢
  have c0 := row_cell RA3 0
  have c1 := row_cell RA3 1
  have c2 := row_cell RA3 2
  have c3 := row_cell RA3 3
  have c4 := row_cell RA3 4
  have c5 := row_cell RB3 0
  have c6 := row_cell RB3 1
  have c7 := row_cell RB3 2
  have c8 := row_cell RB3 3
  have c9 := row_cell RB3 4
  have c10 := row_cell RC 0
  have c11 := row_cell RC 1
  have c12 := row_cell RC 2
  have c13 := row_cell RC 3
  have c14 := row_cell RC 4
  have l0 := row_lt RA3
  have l1 := row_lt RB3
  have l2 := row_lt RC
  have hB := Lib.hid BC
  clear RA3 RB3 RC BC
  simp only [List.getElem?_toArray, List.getElem?_cons_zero, List.getElem?_cons_succ] at c0 c1 c2 c3 c4 c5 c6 c7 c8 c9 c10 c11 c12 c13 c14
  go_region_with (first
    | (go_at_call 14; refine (same_shallow _ _ _ _).mono ?_; rintro e w' ⟨rfl, hb'⟩; obtain ⟨hc', _⟩ := bcell hb'; have z' := hb'.size; (try simp only [World.size_drew, World.cell?_drew, World.heap_drewN, World.cell?_drewN] at hc' z'); have z0 := Nat.lt_of_lt_of_le ‹w3.heap.size < _› z'; have z1 := Nat.lt_of_lt_of_le ‹w6.heap.size < _› z'; have z2 := Nat.lt_of_lt_of_le ‹w9.heap.size < _› z')
    | (go_at_call 30; refine (float_ref_any _ _).mono ?_; rintro e w' ⟨rfl, hb'⟩; (try rw [Flo.canon_drawn, Ha.out]); (try rw [Hm.out]); obtain ⟨hc', _⟩ := bcell hb'; have z' := hb'.size; (try simp only [World.size_drew, World.cell?_drew, World.heap_drewN, World.cell?_drewN] at hc' z'); have z0 := Nat.lt_of_lt_of_le ‹w3.heap.size < _› z'; have z1 := Nat.lt_of_lt_of_le ‹w6.heap.size < _› z'; have z2 := Nat.lt_of_lt_of_le ‹w9.heap.size < _› z'))
  all_goals go_wp2
  all_goals go_ret
  all_goals exact ⟨rfl, by repeat (first | exact hB.out | refine bel_step ?_ (by assumption) | refine Below.drew ?_ | refine bel_drewN _ ?_)⟩
end Num
end Go.Proofs.Ytkodgfhpbpefdaa
