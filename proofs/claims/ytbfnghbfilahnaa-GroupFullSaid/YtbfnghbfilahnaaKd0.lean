/-
  Package group: what a call must be.
-/
import Derived.Test.YtbfnghbfilahnaaKc0
namespace Go.Proofs.Ytbfnghbfilahnaa
open Go.RowKit
namespace Num
open Ints
set_option linter.unusedSimpArgs false
set_option linter.unusedVariables false
theorem isclass_yes (S : ByteArray) (w : World) (h : 0 ≤ idxI clsL S) : Calls Try.prog 48 #[.agg #[.int .i64 3, .int .i64 0, .float .f64 0, .string S, .slice none 0 0]] w fun e w' => e = .returned (.bool true) ∧ Below w.heap.size w w' := by
  have := isclass_text S w
  rwa [decide_eq_true h] at this
theorem isstyle_yes (S : ByteArray) (w : World) (h : 0 ≤ idxI styL S) : Calls Try.prog 49 #[.agg #[.int .i64 3, .int .i64 0, .float .f64 0, .string S, .slice none 0 0]] w fun e w' => e = .returned (.bool true) ∧ Below w.heap.size w w' := by
  have := isstyle_text S w
  rwa [decide_eq_true h] at this
set_option maxRecDepth 100000 in
set_option maxHeartbeats 4000000 in
theorem iscall_create (w : World) (b : Nat) (S0 S1 S2 : ByteArray) (hrow : w.heap[b]? = some (.cells #[.int .i64 3, .int .i64 0, .float .f64 0, .string S0, .slice none 0 0, .int .i64 3, .int .i64 0, .float .f64 0, .string S1, .slice none 0 0, .int .i64 3, .int .i64 0, .float .f64 0, .string S2, .slice none 0 0] 39 (0, 0))) (h1 : 0 < S0.size) (h2 : S0.size ≤ 32) (hg : (S0.toList == [103, 114, 111, 117, 112, 115]) = false) (hc : 0 ≤ idxI clsL S1) (hs : 0 ≤ idxI styL S2) : Calls Try.prog 24 #[.string ⟨#[99, 114, 101, 97, 116, 101]⟩, .slice (some ⟨b, 0, none⟩) 3 3] w fun e w' => e = .returned (.bool true) ∧ Below w.heap.size w w' := by
  have HR0 := Lib.hid hrow
  have HB0 := Lib.hid (Below.refl w.heap.size w)
  have c0 := row_cell hrow 0; have c1 := row_cell hrow 1; have c2 := row_cell hrow 2; have c3 := row_cell hrow 3; have c4 := row_cell hrow 4; have c5 := row_cell hrow 5; have c6 := row_cell hrow 6; have c7 := row_cell hrow 7; have c8 := row_cell hrow 8; have c9 := row_cell hrow 9; have c10 := row_cell hrow 10; have c11 := row_cell hrow 11; have c12 := row_cell hrow 12; have c13 := row_cell hrow 13; have c14 := row_cell hrow 14
  simp only [List.getElem?_toArray, List.getElem?_cons_zero, List.getElem?_cons_succ] at c0 c1 c2 c3 c4 c5 c6 c7 c8 c9 c10 c11 c12 c13 c14
  have hlt := row_lt hrow
  clear hrow
  go_enter Try.func24, Try.ntmps24
  go_wp2_with fail
  go_at_call 47; refine (isname_text S0 _ h1 h2).mono ?_; rintro e x0 ⟨rfl, hb0⟩
  have hr0 := row_step HR0.out hb0
  have HR1 := Lib.hid hr0
  have HB1 := Lib.hid (bel_step HB0.out hb0)
  clear c0 c1 c2 c3 c4 c5 c6 c7 c8 c9 c10 c11 c12 c13 c14 hlt hb0 HR0 HB0
  have c0 := row_cell hr0 0; have c1 := row_cell hr0 1; have c2 := row_cell hr0 2; have c3 := row_cell hr0 3; have c4 := row_cell hr0 4; have c5 := row_cell hr0 5; have c6 := row_cell hr0 6; have c7 := row_cell hr0 7; have c8 := row_cell hr0 8; have c9 := row_cell hr0 9; have c10 := row_cell hr0 10; have c11 := row_cell hr0 11; have c12 := row_cell hr0 12; have c13 := row_cell hr0 13; have c14 := row_cell hr0 14
  simp only [List.getElem?_toArray, List.getElem?_cons_zero, List.getElem?_cons_succ] at c0 c1 c2 c3 c4 c5 c6 c7 c8 c9 c10 c11 c12 c13 c14
  have hlt := row_lt hr0
  clear hr0
  go_wp2_with fail
  go_at_call 48; refine (isclass_yes S1 _ hc).mono ?_; rintro e x1 ⟨rfl, hb1⟩
  have hr1 := row_step HR1.out hb1
  have HR2 := Lib.hid hr1
  have HB2 := Lib.hid (bel_step HB1.out hb1)
  clear c0 c1 c2 c3 c4 c5 c6 c7 c8 c9 c10 c11 c12 c13 c14 hlt hb1 HR1 HB1
  have c0 := row_cell hr1 0; have c1 := row_cell hr1 1; have c2 := row_cell hr1 2; have c3 := row_cell hr1 3; have c4 := row_cell hr1 4; have c5 := row_cell hr1 5; have c6 := row_cell hr1 6; have c7 := row_cell hr1 7; have c8 := row_cell hr1 8; have c9 := row_cell hr1 9; have c10 := row_cell hr1 10; have c11 := row_cell hr1 11; have c12 := row_cell hr1 12; have c13 := row_cell hr1 13; have c14 := row_cell hr1 14
  simp only [List.getElem?_toArray, List.getElem?_cons_zero, List.getElem?_cons_succ] at c0 c1 c2 c3 c4 c5 c6 c7 c8 c9 c10 c11 c12 c13 c14
  have hlt := row_lt hr1
  clear hr1
  go_wp2_with fail
  go_at_call 49; refine (isstyle_yes S2 _ hs).mono ?_; rintro e x2 ⟨rfl, hb2⟩
  have hr2 := row_step HR2.out hb2
  have HR3 := Lib.hid hr2
  have HB3 := Lib.hid (bel_step HB2.out hb2)
  clear c0 c1 c2 c3 c4 c5 c6 c7 c8 c9 c10 c11 c12 c13 c14 hlt hb2 HR2 HB2
  have c0 := row_cell hr2 0; have c1 := row_cell hr2 1; have c2 := row_cell hr2 2; have c3 := row_cell hr2 3; have c4 := row_cell hr2 4; have c5 := row_cell hr2 5; have c6 := row_cell hr2 6; have c7 := row_cell hr2 7; have c8 := row_cell hr2 8; have c9 := row_cell hr2 9; have c10 := row_cell hr2 10; have c11 := row_cell hr2 11; have c12 := row_cell hr2 12; have c13 := row_cell hr2 13; have c14 := row_cell hr2 14
  simp only [List.getElem?_toArray, List.getElem?_cons_zero, List.getElem?_cons_succ] at c0 c1 c2 c3 c4 c5 c6 c7 c8 c9 c10 c11 c12 c13 c14
  have hlt := row_lt hr2
  clear hr2
  go_wp2
  go_ret
  exact ⟨rfl, HB3.out⟩
set_option maxRecDepth 100000 in
set_option maxHeartbeats 4000000 in
theorem iscall_destroy (w : World) (b : Nat) (S0 : ByteArray) (hrow : w.heap[b]? = some (.cells #[.int .i64 3, .int .i64 0, .float .f64 0, .string S0, .slice none 0 0] 39 (0, 0))) (h1 : 0 < S0.size) (h2 : S0.size ≤ 32) : Calls Try.prog 24 #[.string ⟨#[100, 101, 115, 116, 114, 111, 121]⟩, .slice (some ⟨b, 0, none⟩) 1 1] w fun e w' => e = .returned (.bool true) ∧ Below w.heap.size w w' := by
  have HR0 := Lib.hid hrow
  have HB0 := Lib.hid (Below.refl w.heap.size w)
  have c0 := row_cell hrow 0; have c1 := row_cell hrow 1; have c2 := row_cell hrow 2; have c3 := row_cell hrow 3; have c4 := row_cell hrow 4
  simp only [List.getElem?_toArray, List.getElem?_cons_zero, List.getElem?_cons_succ] at c0 c1 c2 c3 c4
  have hlt := row_lt hrow
  clear hrow
  go_enter Try.func24, Try.ntmps24
  go_wp2_with fail
  go_at_call 47; refine (isname_text S0 _ h1 h2).mono ?_; rintro e x0 ⟨rfl, hb0⟩
  have hr0 := row_step HR0.out hb0
  have HR1 := Lib.hid hr0
  have HB1 := Lib.hid (bel_step HB0.out hb0)
  clear c0 c1 c2 c3 c4 hlt hb0 HR0 HB0
  have c0 := row_cell hr0 0; have c1 := row_cell hr0 1; have c2 := row_cell hr0 2; have c3 := row_cell hr0 3; have c4 := row_cell hr0 4
  simp only [List.getElem?_toArray, List.getElem?_cons_zero, List.getElem?_cons_succ] at c0 c1 c2 c3 c4
  have hlt := row_lt hr0
  clear hr0
  go_wp2
  go_ret
  exact ⟨rfl, HB1.out⟩
set_option maxRecDepth 100000 in
set_option maxHeartbeats 4000000 in
theorem iscall_style (w : World) (b : Nat) (S0 S1 : ByteArray) (hrow : w.heap[b]? = some (.cells #[.int .i64 3, .int .i64 0, .float .f64 0, .string S0, .slice none 0 0, .int .i64 3, .int .i64 0, .float .f64 0, .string S1, .slice none 0 0] 39 (0, 0))) (h1 : 0 < S0.size) (h2 : S0.size ≤ 32) (hs : 0 ≤ idxI styL S1) : Calls Try.prog 24 #[.string ⟨#[115, 116, 121, 108, 101]⟩, .slice (some ⟨b, 0, none⟩) 2 2] w fun e w' => e = .returned (.bool true) ∧ Below w.heap.size w w' := by
  have HR0 := Lib.hid hrow
  have HB0 := Lib.hid (Below.refl w.heap.size w)
  have c0 := row_cell hrow 0; have c1 := row_cell hrow 1; have c2 := row_cell hrow 2; have c3 := row_cell hrow 3; have c4 := row_cell hrow 4; have c5 := row_cell hrow 5; have c6 := row_cell hrow 6; have c7 := row_cell hrow 7; have c8 := row_cell hrow 8; have c9 := row_cell hrow 9
  simp only [List.getElem?_toArray, List.getElem?_cons_zero, List.getElem?_cons_succ] at c0 c1 c2 c3 c4 c5 c6 c7 c8 c9
  have hlt := row_lt hrow
  clear hrow
  go_enter Try.func24, Try.ntmps24
  go_wp2_with fail
  go_at_call 47; refine (isname_text S0 _ h1 h2).mono ?_; rintro e x0 ⟨rfl, hb0⟩
  have hr0 := row_step HR0.out hb0
  have HR1 := Lib.hid hr0
  have HB1 := Lib.hid (bel_step HB0.out hb0)
  clear c0 c1 c2 c3 c4 c5 c6 c7 c8 c9 hlt hb0 HR0 HB0
  have c0 := row_cell hr0 0; have c1 := row_cell hr0 1; have c2 := row_cell hr0 2; have c3 := row_cell hr0 3; have c4 := row_cell hr0 4; have c5 := row_cell hr0 5; have c6 := row_cell hr0 6; have c7 := row_cell hr0 7; have c8 := row_cell hr0 8; have c9 := row_cell hr0 9
  simp only [List.getElem?_toArray, List.getElem?_cons_zero, List.getElem?_cons_succ] at c0 c1 c2 c3 c4 c5 c6 c7 c8 c9
  have hlt := row_lt hr0
  clear hr0
  go_wp2_with fail
  go_at_call 49; refine (isstyle_yes S1 _ hs).mono ?_; rintro e x1 ⟨rfl, hb1⟩
  have hr1 := row_step HR1.out hb1
  have HR2 := Lib.hid hr1
  have HB2 := Lib.hid (bel_step HB1.out hb1)
  clear c0 c1 c2 c3 c4 c5 c6 c7 c8 c9 hlt hb1 HR1 HB1
  have c0 := row_cell hr1 0; have c1 := row_cell hr1 1; have c2 := row_cell hr1 2; have c3 := row_cell hr1 3; have c4 := row_cell hr1 4; have c5 := row_cell hr1 5; have c6 := row_cell hr1 6; have c7 := row_cell hr1 7; have c8 := row_cell hr1 8; have c9 := row_cell hr1 9
  simp only [List.getElem?_toArray, List.getElem?_cons_zero, List.getElem?_cons_succ] at c0 c1 c2 c3 c4 c5 c6 c7 c8 c9
  have hlt := row_lt hr1
  clear hr1
  go_wp2
  go_ret
  exact ⟨rfl, HB2.out⟩
set_option maxRecDepth 100000 in
set_option maxHeartbeats 4000000 in
theorem iscall_list (w : World) : Calls Try.prog 24 #[.string ⟨#[108, 105, 115, 116]⟩, .slice none 0 0] w fun e w' => e = .returned (.bool true) ∧ w' = w := by
  go_enter Try.func24, Try.ntmps24
  go_wp2
  go_ret
  exact ⟨rfl, rfl⟩
end Num
end Go.Proofs.Ytbfnghbfilahnaa
