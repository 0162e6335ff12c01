/-
  The edges that every statement of the layer asks first: they hold.
-/
import Derived.Test.YtkodgfhpbpefdaaArith
import Derived.Test.YtkodgfhpbpefdaaSign
namespace Go.Proofs.Ytkodgfhpbpefdaa
open Go.RowKit
namespace Num
set_option linter.unusedSimpArgs false
set_option linter.unusedVariables false
open Ints
theorem row_alloc (w : World) (cs : Array Value) (t : TypeId) : (w.alloc (.cells cs t)).heap[w.heap.size]? = some (.cells cs t (0, 0)) := by
  show (w.heap.push _)[w.heap.size]? = _
  rw [Array.getElem?_push_size]
theorem row_keep {w w' : World} {b B : Nat} {o : Option Obj} (hb : Below B w w') (h : w.heap[b]? = o) (hB : b < B) : w'.heap[b]? = o := (hb.block b hB).trans h
theorem row_cell {w : World} {b : Nat} {cs : Array Value} {t : TypeId} (h : w.heap[b]? = some (.cells cs t (0, 0))) (i : Nat) : w.cell? ⟨b, i, none⟩ = cs[i]? := by
  simp [World.cell?, h]
theorem row_lt {w : World} {b : Nat} {o : Obj} (h : w.heap[b]? = some o) : b < w.heap.size := by
  by_cases hb : b < w.heap.size
  · exact hb
  · rw [Array.getElem?_eq_none (by omega)] at h; cases h
theorem row_step {w w' : World} {b : Nat} {o : Obj} (h : w.heap[b]? = some o) (hb : Below w.heap.size w w') : w'.heap[b]? = some o := row_keep hb h (row_lt h)
theorem row_alloc_step {w : World} {b : Nat} {o : Obj} (h : w.heap[b]? = some o) (o' : Obj) : (w.alloc o').heap[b]? = some o := by
  rw [Below.heap_alloc _ _ _ (row_lt h)]; exact h
theorem bel_step {w y z : World} (h1 : Below w.heap.size w y) (hb : Below y.heap.size y z) : Below w.heap.size w z := h1.trans (hb.mono h1.size)
theorem bel_alloc {w y : World} (h1 : Below w.heap.size w y) (o : Obj) : Below w.heap.size w (y.alloc o) := h1.alloc h1.size _
theorem float_one (w : World) : Calls Try.prog 30 #[.float .f64 4607182418800017408] w fun e w' => e = .returned (.agg #[.int .i64 2, .int .i64 0, .float .f64 4607182418800017408, .string ⟨#[]⟩, .slice none 0 0]) ∧ Below w.heap.size w w' := by
  have h := float_ref_any 4607182418800017408 w
  rwa [show Flo.canon 4607182418800017408 = 4607182418800017408 by decide +kernel] at h
theorem float_half (w : World) : Calls Try.prog 30 #[.float .f64 4602678819172646912] w fun e w' => e = .returned (.agg #[.int .i64 2, .int .i64 0, .float .f64 4602678819172646912, .string ⟨#[]⟩, .slice none 0 0]) ∧ Below w.heap.size w w' := by
  have h := float_ref_any 4602678819172646912 w
  rwa [show Flo.canon 4602678819172646912 = 4602678819172646912 by decide +kernel] at h
theorem float_m2 (w : World) : Calls Try.prog 30 #[.float .f64 13835058055282163712] w fun e w' => e = .returned (.agg #[.int .i64 2, .int .i64 0, .float .f64 13835058055282163712, .string ⟨#[]⟩, .slice none 0 0]) ∧ Below w.heap.size w w' := by
  have h := float_ref_any 13835058055282163712 w
  rwa [show Flo.canon 13835058055282163712 = 13835058055282163712 by decide +kernel] at h
theorem div_a (w : World) : Calls Try.prog 17 #[.agg #[.int .i64 2, .int .i64 0, .float .f64 4607182418800017408, .string ⟨#[]⟩, .slice none 0 0], .agg #[.int .i64 1, .int .i64 0, .float .f64 0, .string ⟨#[]⟩, .slice none 0 0]] w fun e w' => e = .returned (.tuple #[.agg #[.int .i64 2, .int .i64 0, .float .f64 9218868437227405312, .string ⟨#[]⟩, .slice none 0 0], .int .i64 0]) ∧ Below w.heap.size w w' :=
  div_any 2 0 4607182418800017408 ⟨#[]⟩ none 0 0 1 0 0 ⟨#[]⟩ none 0 0 w (by decide) (by decide) (by decide +kernel)
theorem div_b (w : World) : Calls Try.prog 17 #[.agg #[.int .i64 1, .int .i64 1, .float .f64 0, .string ⟨#[]⟩, .slice none 0 0], .agg #[.int .i64 1, .int .i64 0, .float .f64 0, .string ⟨#[]⟩, .slice none 0 0]] w fun e w' => e = .returned (.tuple #[.agg #[.int .i64 0, .int .i64 0, .float .f64 0, .string ⟨#[]⟩, .slice none 0 0], .int .i64 35]) ∧ Below w.heap.size w w' :=
  div_any 1 1 0 ⟨#[]⟩ none 0 0 1 0 0 ⟨#[]⟩ none 0 0 w (by decide) (by decide) (by decide +kernel)
theorem add_a (w : World) : Calls Try.prog 12 #[.agg #[.int .i64 1, .int .i64 9223372036854775807, .float .f64 0, .string ⟨#[]⟩, .slice none 0 0], .agg #[.int .i64 1, .int .i64 1, .float .f64 0, .string ⟨#[]⟩, .slice none 0 0]] w fun e w' => e = .returned (.tuple #[.agg #[.int .i64 0, .int .i64 0, .float .f64 0, .string ⟨#[]⟩, .slice none 0 0], .int .i64 35]) ∧ Below w.heap.size w w' :=
  add_any 1 9223372036854775807 0 ⟨#[]⟩ none 0 0 1 1 0 ⟨#[]⟩ none 0 0 w (by decide) (by decide) (by decide +kernel)
theorem add_b (w : World) : Calls Try.prog 12 #[.agg #[.int .i64 1, .int .i64 1, .float .f64 0, .string ⟨#[]⟩, .slice none 0 0], .agg #[.int .i64 2, .int .i64 0, .float .f64 4602678819172646912, .string ⟨#[]⟩, .slice none 0 0]] w fun e w' => e = .returned (.tuple #[.agg #[.int .i64 2, .int .i64 0, .float .f64 4609434218613702656, .string ⟨#[]⟩, .slice none 0 0], .int .i64 0]) ∧ Below w.heap.size w w' :=
  add_any 1 1 0 ⟨#[]⟩ none 0 0 2 0 4602678819172646912 ⟨#[]⟩ none 0 0 w (by decide) (by decide) (by decide +kernel)
theorem sign_m2 (w : World) : Calls Try.prog 22 #[.agg #[.int .i64 2, .int .i64 0, .float .f64 13835058055282163712, .string ⟨#[]⟩, .slice none 0 0]] w fun e w' => e = .returned (.int .i64 (-1)) ∧ Below w.heap.size w w' := by
  have h := sign_any 2 0 13835058055282163712 ⟨#[]⟩ none 0 0 w
  rwa [show signV 2 0 13835058055282163712 = -1 by decide +kernel] at h
theorem finite_inf (w : World) : Calls Try.prog 24 #[.agg #[.int .i64 2, .int .i64 0, .float .f64 9218868437227405312, .string ⟨#[]⟩, .slice none 0 0]] w fun e w' => e = .returned (.bool false) ∧ Below w.heap.size w w' := by
  have h := finite_any 2 0 9218868437227405312 ⟨#[]⟩ none 0 0 (by decide) w
  rwa [show finV 2 9218868437227405312 = false by decide +kernel] at h
set_option maxHeartbeats 2000000 in
theorem known_any (w : World) : Calls Try.prog 10 #[] w fun e w' => e = .returned (.bool true) ∧ Below w.heap.size w w' := by
  have g1 : (FloatKind.f64.format.order 9218868437227405312 9214871658872686752 == some .gt) = true := by decide +kernel
  have g2 : (FloatKind.f64.format.order 4609434218613702656 4609434218613702656 == some .eq) = true := by decide +kernel
  go_enter Try.func10, Try.ntmps10
  go_wp2_with fail
  go_at_call 30; refine (float_one _).mono ?_; rintro e w1 ⟨rfl, hb1⟩
  go_wp2_with fail
  go_at_call 18; refine (int_ref_any _ _).mono ?_; rintro e w2 ⟨rfl, hb2⟩
  go_wp2_with fail
  go_at_call 17; refine (div_a _).mono ?_; rintro e w3 ⟨rfl, hb3⟩
  have RA := row_alloc w3 #[.int .i64 2, .int .i64 0, .float .f64 9218868437227405312, .string ⟨#[]⟩, .slice none 0 0] 25
  have BA := bel_alloc (bel_step (bel_step hb1 hb2) hb3) (.cells #[.int .i64 2, .int .i64 0, .float .f64 9218868437227405312, .string ⟨#[]⟩, .slice none 0 0] 25)
  clear hb1 hb2 hb3
  go_wp2_with fail
  go_at_call 18; refine (int_ref_any _ _).mono ?_; rintro e w4 ⟨rfl, hb4⟩
  go_wp2_with fail
  go_at_call 18; refine (int_ref_any _ _).mono ?_; rintro e w5 ⟨rfl, hb5⟩
  go_wp2_with fail
  go_at_call 17; refine (div_b _).mono ?_; rintro e w6 ⟨rfl, hb6⟩
  have RB := row_alloc_step (row_step (row_step (row_step RA hb4) hb5) hb6) (.cells #[.int .i64 0, .int .i64 0, .float .f64 0, .string ⟨#[]⟩, .slice none 0 0] 25)
  have BB := bel_alloc (bel_step (bel_step (bel_step BA hb4) hb5) hb6) (.cells #[.int .i64 0, .int .i64 0, .float .f64 0, .string ⟨#[]⟩, .slice none 0 0] 25)
  clear hb4 hb5 hb6 RA BA
  go_wp2_with fail
  go_at_call 18; refine (int_ref_any _ _).mono ?_; rintro e w7 ⟨rfl, hb7⟩
  go_wp2_with fail
  go_at_call 18; refine (int_ref_any _ _).mono ?_; rintro e w8 ⟨rfl, hb8⟩
  go_wp2_with fail
  go_at_call 12; refine (add_a _).mono ?_; rintro e w9 ⟨rfl, hb9⟩
  have RC := row_alloc_step (row_step (row_step (row_step RB hb7) hb8) hb9) (.cells #[.int .i64 0, .int .i64 0, .float .f64 0, .string ⟨#[]⟩, .slice none 0 0] 25)
  have BC := bel_alloc (bel_step (bel_step (bel_step BB hb7) hb8) hb9) (.cells #[.int .i64 0, .int .i64 0, .float .f64 0, .string ⟨#[]⟩, .slice none 0 0] 25)
  clear hb7 hb8 hb9 RB BB
  go_wp2_with fail
  go_at_call 18; refine (int_ref_any _ _).mono ?_; rintro e w10 ⟨rfl, hb10⟩
  go_wp2_with fail
  go_at_call 30; refine (float_half _).mono ?_; rintro e w11 ⟨rfl, hb11⟩
  go_wp2_with fail
  go_at_call 12; refine (add_b _).mono ?_; rintro e w12 ⟨rfl, hb12⟩
  have RD := row_step (row_step (row_step RC hb10) hb11) hb12
  have BD := bel_alloc (bel_step (bel_step (bel_step BC hb10) hb11) hb12) (.cells #[.int .i64 2, .int .i64 0, .float .f64 4609434218613702656, .string ⟨#[]⟩, .slice none 0 0] 25)
  have d0 : w12.cell? ⟨w3.heap.size, 0, none⟩ = some (.int .i64 2) := row_cell RD 0
  have d1 : w12.cell? ⟨w3.heap.size, 1, none⟩ = some (.int .i64 0) := row_cell RD 1
  have d2 : w12.cell? ⟨w3.heap.size, 2, none⟩ = some (.float .f64 9218868437227405312) := row_cell RD 2
  have d3 : w12.cell? ⟨w3.heap.size, 3, none⟩ = some (.string ⟨#[]⟩) := row_cell RD 3
  have d4 : w12.cell? ⟨w3.heap.size, 4, none⟩ = some (.slice none 0 0) := row_cell RD 4
  have hl := row_lt RD
  have hne : w12.heap.size ≠ w3.heap.size := by omega
  clear hb10 hb11 hb12 RC BC
  go_wp2_with fail
  go_at_call 30; refine (float_m2 _).mono ?_; rintro e w13 ⟨rfl, hb13⟩
  go_wp2_with fail
  go_at_call 22; refine (sign_m2 _).mono ?_; rintro e w14 ⟨rfl, hb14⟩
  have RF := row_step (row_step (row_alloc_step RD (.cells #[.int .i64 2, .int .i64 0, .float .f64 4609434218613702656, .string ⟨#[]⟩, .slice none 0 0] 25)) hb13) hb14
  have BF := bel_step (bel_step BD hb13) hb14
  have e0 : w14.cell? ⟨w3.heap.size, 0, none⟩ = some (.int .i64 2) := row_cell RF 0
  have e1 : w14.cell? ⟨w3.heap.size, 1, none⟩ = some (.int .i64 0) := row_cell RF 1
  have e2 : w14.cell? ⟨w3.heap.size, 2, none⟩ = some (.float .f64 9218868437227405312) := row_cell RF 2
  have e3 : w14.cell? ⟨w3.heap.size, 3, none⟩ = some (.string ⟨#[]⟩) := row_cell RF 3
  have e4 : w14.cell? ⟨w3.heap.size, 4, none⟩ = some (.slice none 0 0) := row_cell RF 4
  clear hb13 hb14 RD BD RF d0 d1 d2 d3 d4 hl hne
  go_wp2_with fail
  go_at_call 24; refine (finite_inf _).mono ?_; rintro e w15 ⟨rfl, hb15⟩
  go_wp2
  go_ret
  exact ⟨rfl, bel_step BF hb15⟩
end Num
end Go.Proofs.Ytkodgfhpbpefdaa
