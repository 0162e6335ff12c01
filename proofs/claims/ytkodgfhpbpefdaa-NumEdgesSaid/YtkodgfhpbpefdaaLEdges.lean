/-
  NumEdges: noughts, infinities, NaN, the greatest and the least: the call returns true at any two of them.
-/
import Derived.Test.YtkodgfhpbpefdaaKnown
import Derived.Test.YtkodgfhpbpefdaaSame0
import Derived.Test.YtkodgfhpbpefdaaRefSign
import Derived.Test.YtkodgfhpbpefdaaLMixBase
namespace Go.Proofs.Ytkodgfhpbpefdaa
open Go.RowKit
namespace Num
open Ints
set_option linter.unusedSimpArgs false
set_option linter.unusedVariables false
theorem u8_of_wf {n : Int} (h : (Lit.int .u8 n).wf = true) : 0 ≤ n ∧ n < 256 := by
  have h1 : IntKind.u8.bits = 8 := rfl
  simp [Lit.wf, IntKind.min, IntKind.max, IntKind.signed, h1] at h
  omega
def Word (w : World) (e : Ending) (w' : World) : Prop := ∃ x n, e = .returned (.float .f64 x) ∧ x < 2 ^ 64 ∧ w' = w.drewN n
theorem edge_any (k : Int) (h0 : 0 ≤ k) (h1 : k < 256) (w : World) : Calls Try.prog 31 #[.int .u8 k] w (Word w) := by
  have q0 : ∀ t w, (binOp .quo t (.float .f64 4607182418800017408) (.float .f64 0)).run Try.prog w = .ok (.float .f64 9218868437227405312) w := fun t w => run_float_arith w .quo t .f64 _ _ _ (by decide +kernel)
  have q1 : ∀ t w, (binOp .quo t (.float .f64 13830554455654793216) (.float .f64 9218868437227405312)).run Try.prog w = .ok (.float .f64 9223372036854775808) w := fun t w => run_float_arith w .quo t .f64 _ _ _ (by decide +kernel)
  have q2 : ∀ t w, (binOp .quo t (.float .f64 13830554455654793216) (.float .f64 0)).run Try.prog w = .ok (.float .f64 18442240474082181120) w := fun t w => run_float_arith w .quo t .f64 _ _ _ (by decide +kernel)
  have q3 : ∀ t w, (binOp .quo t (.float .f64 0) (.float .f64 0)).run Try.prog w = .ok (.float .f64 (Flo.drawn 0 0 (w.tape w.drawn (.nanBits .f64 0 0)))) w.drew := fun t w => Flo.run_none w .quo t _ _ (by simp) (by decide +kernel)
  obtain ⟨r, hr, hr0, hr1⟩ : ∃ r, k % 10 = r ∧ 0 ≤ r ∧ r < 10 := ⟨k % 10, rfl, by omega, by omega⟩
  obtain rfl | rfl | rfl | rfl | rfl | rfl | rfl | rfl | rfl | rfl : r = 0 ∨ r = 1 ∨ r = 2 ∨ r = 3 ∨ r = 4 ∨ r = 5 ∨ r = 6 ∨ r = 7 ∨ r = 8 ∨ r = 9 := by omega
  all_goals
    clear hr0 hr1
    go_enter Try.func31, Try.ntmps31
    go_wp2
    go_ret
    first
      | exact ⟨_, 1, rfl, Flo.drawn_lt _ _ _, rfl⟩
      | exact ⟨_, 0, rfl, of_decide_eq_true rfl, rfl⟩
theorem opV_floats (o : Nat) (x y : Nat) : opV o 2 0 x 2 0 y = (2, 0, Flo.cop (bop o) x y, 0) := opV_flo rfl rfl
theorem do0_any (x y : Nat) (w : World) : Calls Try.prog 32 #[.int .u8 43, .float .f64 x, .float .f64 y] w fun e w' => e = .returned (.tuple #[.float .f64 (Flo.cop .add (Flo.canon x) (Flo.canon y)), .int .i64 0]) ∧ Below w.heap.size w w' := by
  have HQ := Lib.hid (opV_floats 0 (Flo.canon x) (Flo.canon y))
  go_enter Try.func32, Try.ntmps32
  go_wp2_with fail
  go_at_call 30; refine (float_ref_any _ _).mono ?_; rintro e w1 ⟨rfl, hb1⟩
  go_wp2_with fail
  go_at_call 30; refine (float_ref_any _ _).mono ?_; rintro e w2 ⟨rfl, hb2⟩
  go_wp2_with fail
  go_at_call 12; refine (add_any _ _ _ _ _ _ _ _ _ _ _ _ _ _ _ (by decide) (by decide) HQ.out).mono ?_; rintro e w3 ⟨rfl, hb3⟩
  go_wp2
  go_ret2
  exact ⟨rfl, bel_alloc (bel_step (bel_alloc (bel_alloc (bel_step hb1 hb2) _) _) hb3) _⟩
theorem do1_any (x y : Nat) (w : World) : Calls Try.prog 32 #[.int .u8 45, .float .f64 x, .float .f64 y] w fun e w' => e = .returned (.tuple #[.float .f64 (Flo.cop .sub (Flo.canon x) (Flo.canon y)), .int .i64 0]) ∧ Below w.heap.size w w' := by
  have HQ := Lib.hid (opV_floats 1 (Flo.canon x) (Flo.canon y))
  go_enter Try.func32, Try.ntmps32
  go_wp2_with fail
  go_at_call 30; refine (float_ref_any _ _).mono ?_; rintro e w1 ⟨rfl, hb1⟩
  go_wp2_with fail
  go_at_call 30; refine (float_ref_any _ _).mono ?_; rintro e w2 ⟨rfl, hb2⟩
  go_wp2_with fail
  go_at_call 15; refine (sub_any _ _ _ _ _ _ _ _ _ _ _ _ _ _ _ (by decide) (by decide) HQ.out).mono ?_; rintro e w3 ⟨rfl, hb3⟩
  go_wp2
  go_ret2
  exact ⟨rfl, bel_alloc (bel_step (bel_alloc (bel_alloc (bel_step hb1 hb2) _) _) hb3) _⟩
theorem do2_any (x y : Nat) (w : World) : Calls Try.prog 32 #[.int .u8 42, .float .f64 x, .float .f64 y] w fun e w' => e = .returned (.tuple #[.float .f64 (Flo.cop .mul (Flo.canon x) (Flo.canon y)), .int .i64 0]) ∧ Below w.heap.size w w' := by
  have HQ := Lib.hid (opV_floats 2 (Flo.canon x) (Flo.canon y))
  go_enter Try.func32, Try.ntmps32
  go_wp2_with fail
  go_at_call 30; refine (float_ref_any _ _).mono ?_; rintro e w1 ⟨rfl, hb1⟩
  go_wp2_with fail
  go_at_call 30; refine (float_ref_any _ _).mono ?_; rintro e w2 ⟨rfl, hb2⟩
  go_wp2_with fail
  go_at_call 16; refine (mul_any _ _ _ _ _ _ _ _ _ _ _ _ _ _ _ (by decide) (by decide) HQ.out).mono ?_; rintro e w3 ⟨rfl, hb3⟩
  go_wp2
  go_ret2
  exact ⟨rfl, bel_alloc (bel_step (bel_alloc (bel_alloc (bel_step hb1 hb2) _) _) hb3) _⟩
theorem do3_any (x y : Nat) (w : World) : Calls Try.prog 32 #[.int .u8 47, .float .f64 x, .float .f64 y] w fun e w' => e = .returned (.tuple #[.float .f64 (Flo.cop .quo (Flo.canon x) (Flo.canon y)), .int .i64 0]) ∧ Below w.heap.size w w' := by
  have HQ := Lib.hid (opV_floats 3 (Flo.canon x) (Flo.canon y))
  go_enter Try.func32, Try.ntmps32
  go_wp2_with fail
  go_at_call 30; refine (float_ref_any _ _).mono ?_; rintro e w1 ⟨rfl, hb1⟩
  go_wp2_with fail
  go_at_call 30; refine (float_ref_any _ _).mono ?_; rintro e w2 ⟨rfl, hb2⟩
  go_wp2_with fail
  go_at_call 17; refine (div_any _ _ _ _ _ _ _ _ _ _ _ _ _ _ _ (by decide) (by decide) HQ.out).mono ?_; rintro e w3 ⟨rfl, hb3⟩
  go_wp2
  go_ret2
  exact ⟨rfl, bel_alloc (bel_step (bel_alloc (bel_alloc (bel_step hb1 hb2) _) _) hb3) _⟩
set_option maxHeartbeats 4000000 in
theorem numEdges_calls (a b : Int) (wa : (Lit.int .u8 a).wf = true) (wb : (Lit.int .u8 b).wf = true) (w : World) : Calls Try.prog 8 #[.int .u8 a, .int .u8 b] w fun e w' => e = .returned (.bool true) ∧ Below w.heap.size w w' := by
  have Ha := Lib.hid (u8_of_wf wa)
  have Hb := Lib.hid (u8_of_wf wb)
  clear wa wb
  go_enter Try.func8, Try.ntmps8
  go_wp2_with fail
  go_at_call 10; refine (known_any _).mono ?_; rintro e w0 ⟨rfl, hb0⟩
  go_wp2_with fail
  go_at_call 31; refine (edge_any _ Ha.out.1 Ha.out.2 _).mono ?_; rintro e w1 ⟨x, nx, rfl, hx, rfl⟩
  go_wp2_with fail
  go_at_call 31; refine (edge_any _ Hb.out.1 Hb.out.2 _).mono ?_; rintro e w2 ⟨y, ny, rfl, hy, rfl⟩
  clear hx hy
  go_wp2
  have hb1 : Below w.heap.size w (w0.drewN (nx + ny)) := bel_drewN _ hb0
  clear hb0
  go_loopw [21] (fun i wr => ∃ k : Nat, k ≤ 4 ∧ i = .int .i64 k ∧ Below w.heap.size w wr ∧ wr.heap[w0.heap.size]? = some (.cells #[.int .u8 43, .int .u8 45, .int .u8 42, .int .u8 47] 5 (0, 0))) (fun i _ => 4 - (intOf i).toNat)
  case atStart => exact ⟨0, by omega, rfl, bel_alloc hb1 _, row_alloc (w0.drewN (nx + ny)) _ _⟩
  case round =>
    obtain ⟨k, hk, rfl, hB, RS⟩ := hrel
    have s0 := row_cell RS 0
    have s1 := row_cell RS 1
    have s2 := row_cell RS 2
    have s3 := row_cell RS 3
    simp only [List.getElem?_toArray, List.getElem?_cons_zero, List.getElem?_cons_succ] at s0 s1 s2 s3
    have HB := Lib.hid hB
    have HRS := Lib.hid RS
    clear hB RS hb1
    obtain rfl | rfl | rfl | rfl | rfl : k = 0 ∨ k = 1 ∨ k = 2 ∨ k = 3 ∨ k = 4 := by omega
    · have HQ := Lib.hid (show opV 0 2 0 (Flo.canon x) 2 0 (Flo.canon y) = (2, 0, (Flo.cop .add (Flo.canon x) (Flo.canon y)), 0) from opV_floats 0 (Flo.canon x) (Flo.canon y))
      go_wp2_with fail
      go_at_call 32; refine (do0_any _ _ _).mono ?_; rintro e w1 ⟨rfl, hb1⟩
      go_wp2_with fail
      go_at_call 30; refine (float_ref_any _ _).mono ?_; rintro e w2 ⟨rfl, hb2⟩
      go_wp2_with fail
      go_at_call 30; refine (float_ref_any _ _).mono ?_; rintro e w3 ⟨rfl, hb3⟩
      go_wp2_with fail
      go_at_call 13; refine (refOp0_any _ _ _ _ _ _ _ _ _ _ _ _ _ _ _ (by decide) (by decide) HQ.out).mono ?_; rintro e w4 ⟨rfl, hb4⟩
      have hX := bel_alloc (bel_step (bel_step (bel_step hb1 hb2) hb3) hb4) (.cells #[.int .i64 2, .int .i64 0, .float .f64 (Flo.cop .add (Flo.canon x) (Flo.canon y)), .string ⟨#[]⟩, .slice none 0 0] 25)
      have HX := Lib.hid hX
      clear hX hb1 hb2 hb3 hb4
      go_wp2
      go_quiet ((go_at_call 29; exact Calls.quiet_of_same (bits_ref_q _ _)))
      have hY := bel_drewN nq HX.out
      have HB6 := Lib.hid (bel_step HB.out hY)
      have HR6 := Lib.hid (row_step HRS.out hY)
      clear HX HRS HB HQ
      clear hY
      go_wp2
      go_roundw
      case rel => exact ⟨0 + 1, by omega, by go_num, HB6.out, HR6.out⟩
      case measure => simp [intOf]
    · have HQ := Lib.hid (show opV 1 2 0 (Flo.canon x) 2 0 (Flo.canon y) = (2, 0, (Flo.cop .sub (Flo.canon x) (Flo.canon y)), 0) from opV_floats 1 (Flo.canon x) (Flo.canon y))
      go_wp2_with fail
      go_at_call 32; refine (do1_any _ _ _).mono ?_; rintro e w1 ⟨rfl, hb1⟩
      go_wp2_with fail
      go_at_call 30; refine (float_ref_any _ _).mono ?_; rintro e w2 ⟨rfl, hb2⟩
      go_wp2_with fail
      go_at_call 30; refine (float_ref_any _ _).mono ?_; rintro e w3 ⟨rfl, hb3⟩
      go_wp2_with fail
      go_at_call 13; refine (refOp1_any _ _ _ _ _ _ _ _ _ _ _ _ _ _ _ (by decide) (by decide) HQ.out).mono ?_; rintro e w4 ⟨rfl, hb4⟩
      have hX := bel_alloc (bel_step (bel_step (bel_step hb1 hb2) hb3) hb4) (.cells #[.int .i64 2, .int .i64 0, .float .f64 (Flo.cop .sub (Flo.canon x) (Flo.canon y)), .string ⟨#[]⟩, .slice none 0 0] 25)
      have HX := Lib.hid hX
      clear hX hb1 hb2 hb3 hb4
      go_wp2
      go_quiet ((go_at_call 29; exact Calls.quiet_of_same (bits_ref_q _ _)))
      have hY := bel_drewN nq HX.out
      have HB6 := Lib.hid (bel_step HB.out hY)
      have HR6 := Lib.hid (row_step HRS.out hY)
      clear HX HRS HB HQ
      clear hY
      go_wp2
      go_roundw
      case rel => exact ⟨1 + 1, by omega, by go_num, HB6.out, HR6.out⟩
      case measure => simp [intOf]
    · have HQ := Lib.hid (show opV 2 2 0 (Flo.canon x) 2 0 (Flo.canon y) = (2, 0, (Flo.cop .mul (Flo.canon x) (Flo.canon y)), 0) from opV_floats 2 (Flo.canon x) (Flo.canon y))
      go_wp2_with fail
      go_at_call 32; refine (do2_any _ _ _).mono ?_; rintro e w1 ⟨rfl, hb1⟩
      go_wp2_with fail
      go_at_call 30; refine (float_ref_any _ _).mono ?_; rintro e w2 ⟨rfl, hb2⟩
      go_wp2_with fail
      go_at_call 30; refine (float_ref_any _ _).mono ?_; rintro e w3 ⟨rfl, hb3⟩
      go_wp2_with fail
      go_at_call 13; refine (refOp2_any _ _ _ _ _ _ _ _ _ _ _ _ _ _ _ (by decide) (by decide) HQ.out).mono ?_; rintro e w4 ⟨rfl, hb4⟩
      have hX := bel_alloc (bel_step (bel_step (bel_step hb1 hb2) hb3) hb4) (.cells #[.int .i64 2, .int .i64 0, .float .f64 (Flo.cop .mul (Flo.canon x) (Flo.canon y)), .string ⟨#[]⟩, .slice none 0 0] 25)
      have HX := Lib.hid hX
      clear hX hb1 hb2 hb3 hb4
      go_wp2
      go_quiet ((go_at_call 29; exact Calls.quiet_of_same (bits_ref_q _ _)))
      have hY := bel_drewN nq HX.out
      have HB6 := Lib.hid (bel_step HB.out hY)
      have HR6 := Lib.hid (row_step HRS.out hY)
      clear HX HRS HB HQ
      clear hY
      go_wp2
      go_roundw
      case rel => exact ⟨2 + 1, by omega, by go_num, HB6.out, HR6.out⟩
      case measure => simp [intOf]
    · have HQ := Lib.hid (show opV 3 2 0 (Flo.canon x) 2 0 (Flo.canon y) = (2, 0, (Flo.cop .quo (Flo.canon x) (Flo.canon y)), 0) from opV_floats 3 (Flo.canon x) (Flo.canon y))
      go_wp2_with fail
      go_at_call 32; refine (do3_any _ _ _).mono ?_; rintro e w1 ⟨rfl, hb1⟩
      go_wp2_with fail
      go_at_call 30; refine (float_ref_any _ _).mono ?_; rintro e w2 ⟨rfl, hb2⟩
      go_wp2_with fail
      go_at_call 30; refine (float_ref_any _ _).mono ?_; rintro e w3 ⟨rfl, hb3⟩
      go_wp2_with fail
      go_at_call 13; refine (refOp3_any _ _ _ _ _ _ _ _ _ _ _ _ _ _ _ (by decide) (by decide) HQ.out).mono ?_; rintro e w4 ⟨rfl, hb4⟩
      have hX := bel_alloc (bel_step (bel_step (bel_step hb1 hb2) hb3) hb4) (.cells #[.int .i64 2, .int .i64 0, .float .f64 (Flo.cop .quo (Flo.canon x) (Flo.canon y)), .string ⟨#[]⟩, .slice none 0 0] 25)
      have HX := Lib.hid hX
      clear hX hb1 hb2 hb3 hb4
      go_wp2
      go_quiet ((go_at_call 29; exact Calls.quiet_of_same (bits_ref_q _ _)))
      have hY := bel_drewN nq HX.out
      have HB6 := Lib.hid (bel_step HB.out hY)
      have HR6 := Lib.hid (row_step HRS.out hY)
      clear HX HRS HB HQ
      clear hY
      go_wp2
      go_roundw
      case rel => exact ⟨3 + 1, by omega, by go_num, HB6.out, HR6.out⟩
      case measure => simp [intOf]
    · clear s0 s1 s2 s3 HRS
      go_wp2_with (first
        | (go_at_call 30; refine (float_ref_any _ _).mono ?_; rintro e w1 ⟨rfl, hb1⟩)
        | (go_at_call 22; refine (sign_any _ _ _ _ _ _ _ _).mono ?_; rintro e w2 ⟨rfl, hb2⟩)
        | (go_at_call 23; refine (refSign_any _ _ _ _ _ _ _ _).mono ?_; rintro e w3 ⟨rfl, hb3⟩))
      go_ret
      exact ⟨rfl, by repeat (first | exact HB.out | refine bel_step ?_ (by assumption))⟩
end Num
end Go.Proofs.Ytkodgfhpbpefdaa
