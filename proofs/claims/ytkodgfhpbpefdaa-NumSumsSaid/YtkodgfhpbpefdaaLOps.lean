/-
  NumOps: any two values are reckoned as the reference says, or refused: the call returns true.
-/
import Derived.Test.YtkodgfhpbpefdaaLight
import Derived.Test.YtkodgfhpbpefdaaSame0
import Derived.Test.YtkodgfhpbpefdaaArith
namespace Go.Proofs.Ytkodgfhpbpefdaa
open Go.RowKit
namespace Num
open Ints
set_option linter.unusedSimpArgs false
set_option linter.unusedVariables false
theorem row_frozen {w : World} {b : Nat} {cs : Array Value} {t : TypeId} (h : w.heap[b]? = some (.cells cs t (0, 0))) (o : Nat) : w.frozen? ⟨b, o, none⟩ = false := by
  simp [World.frozen?, h]
/-- Five stores into one box. -/
def set5 (w : World) (b : Nat) (v0 v1 v2 v3 v4 : Value) : World := ((((w.setCell ⟨b, 0, none⟩ v0).setCell ⟨b, 1, none⟩ v1).setCell ⟨b, 2, none⟩ v2).setCell ⟨b, 3, none⟩ v3).setCell ⟨b, 4, none⟩ v4
theorem set5_row {w : World} {b : Nat} {a0 a1 a2 a3 a4 : Value} {t : TypeId} (h : w.heap[b]? = some (.cells #[a0, a1, a2, a3, a4] t (0, 0))) (v0 v1 v2 v3 v4 : Value) :
    (set5 w b v0 v1 v2 v3 v4).heap[b]? = some (.cells #[v0, v1, v2, v3, v4] t (0, 0)) := by
  simp [set5, World.setCell, Array.getElem?_modify, h]
theorem set5_other {w : World} {b b' : Nat} {o : Option Obj} (h : w.heap[b']? = o) (hne : b' ≠ b) (v0 v1 v2 v3 v4 : Value) : (set5 w b v0 v1 v2 v3 v4).heap[b']? = o := by
  simp only [set5]
  rw [Below.heap_setCell _ _ _ _ hne, Below.heap_setCell _ _ _ _ hne, Below.heap_setCell _ _ _ _ hne, Below.heap_setCell _ _ _ _ hne, Below.heap_setCell _ _ _ _ hne]
  exact h
theorem bel_set5 {B : Nat} {a w : World} (h : Below B a w) {b : Nat} (hb : B ≤ b) (v0 v1 v2 v3 v4 : Value) : Below B a (set5 w b v0 v1 v2 v3 v4) := below5 h hb v0 v1 v2 v3 v4
theorem rep_shape {w : World} {n : Nat} {v : Value} {T : VT n} (h : Rep w n v T) : ∃ (K I : Int) (F : Nat) (S : ByteArray) (p : Option Addr) (l c : Nat), v = .agg #[.int .i64 K, .int .i64 I, .float .f64 F, .string S, .slice p l c] ∧ okI I := by
  cases n with
  | zero => exact h.elim
  | succ n => obtain ⟨p, l, c, rfl, _, h2, _⟩ := h; exact ⟨_, _, _, _, _, _, _, rfl, h2⟩
theorem bool_not_true {b : Bool} (h : b = false) : (!b) = true := by rw [h]; rfl
theorem bool_not_false {b : Bool} (h : b = true) : (!b) = false := by rw [h]; rfl
theorem numOps_dark1 (K1 I1 : Int) (F1 : Nat) (S1 : ByteArray) (p1 : Option Addr) (l1 c1 : Nat) (K2 I2 : Int) (F2 : Nat) (S2 : ByteArray) (p2 : Option Addr) (l2 c2 : Nat) (n1 : Nat) (T1 : VT n1) (n2 : Nat) (T2 : VT n2) (w : World) (hr1 : Rep w n1 (.agg #[.int .i64 K1, .int .i64 I1, .float .f64 F1, .string S1, .slice p1 l1 c1]) T1) (hr2 : Rep w n2 (.agg #[.int .i64 K2, .int .i64 I2, .float .f64 F2, .string S2, .slice p2 l2 c2]) T2) (h : lightT n1 T1 = false) : Calls Try.prog 3 #[.agg #[.int .i64 K1, .int .i64 I1, .float .f64 F1, .string S1, .slice p1 l1 c1], .agg #[.int .i64 K2, .int .i64 I2, .float .f64 F2, .string S2, .slice p2 l2 c2]] w fun e w' => e = .returned (.bool true) ∧ Below w.heap.size w w' := by
  have BA := Lib.hid ((Below.refl w.heap.size w).alloc (Nat.le_refl _) (.cells #[.int .i64 K1, .int .i64 I1, .float .f64 F1, .string S1, .slice p1 l1 c1] 25))
  have BB := Lib.hid (bel_alloc BA.out (.cells #[.int .i64 K2, .int .i64 I2, .float .f64 F2, .string S2, .slice p2 l2 c2] 25))
  have Q1 := Lib.hid (rep_keep BB.out _ _ _ hr1)
  have Q2 := Lib.hid (rep_keep BB.out _ _ _ hr2)
  have RA := Lib.hid (row_alloc_step (row_alloc w #[.int .i64 K1, .int .i64 I1, .float .f64 F1, .string S1, .slice p1 l1 c1] 25) (.cells #[.int .i64 K2, .int .i64 I2, .float .f64 F2, .string S2, .slice p2 l2 c2] 25))
  have RB := Lib.hid (row_alloc (w.alloc (.cells #[.int .i64 K1, .int .i64 I1, .float .f64 F1, .string S1, .slice p1 l1 c1] 25)) #[.int .i64 K2, .int .i64 I2, .float .f64 F2, .string S2, .slice p2 l2 c2] 25)
  simp only [World.size_alloc] at RB
  clear hr1 hr2
  go_enter Try.func3, Try.ntmps3
  go_wp2_with fail
  go_at_call 10; refine (known_any _).mono ?_; rintro e w0 ⟨rfl, hb0⟩
  have R1 := Lib.hid (row_step RA.out hb0)
  have R2 := Lib.hid (row_step RB.out hb0)
  have P1 := Lib.hid (rep_keep hb0 _ _ _ Q1.out)
  have P2 := Lib.hid (rep_keep hb0 _ _ _ Q2.out)
  have HB := Lib.hid (bel_step BB.out hb0)
  have R1o := R1.out
  have R2o := R2.out
  have c0 := row_cell R1o 0
  have c1 := row_cell R1o 1
  have c2 := row_cell R1o 2
  have c3 := row_cell R1o 3
  have c4 := row_cell R1o 4
  simp only [List.getElem?_toArray, List.getElem?_cons_zero, List.getElem?_cons_succ] at c0 c1 c2 c3 c4
  have d0 := row_cell R2o 0
  have d1 := row_cell R2o 1
  have d2 := row_cell R2o 2
  have d3 := row_cell R2o 3
  have d4 := row_cell R2o 4
  simp only [List.getElem?_toArray, List.getElem?_cons_zero, List.getElem?_cons_succ] at d0 d1 d2 d3 d4
  clear R1o R2o hb0 RA RB Q1 Q2 BA BB
  go_wp2_with fail
  go_at_call 11; refine (light_any _ _ _ _ P1.out).mono ?_; rintro e w1 ⟨rfl, hb1⟩
  have HB1 := Lib.hid (bel_step HB.out hb1)
  clear hb1 c0 c1 c2 c3 c4 d0 d1 d2 d3 d4
  go_wp2
  go_ret
  exact ⟨rfl, HB1.out⟩
theorem numOps_dark2 (K1 I1 : Int) (F1 : Nat) (S1 : ByteArray) (p1 : Option Addr) (l1 c1 : Nat) (K2 I2 : Int) (F2 : Nat) (S2 : ByteArray) (p2 : Option Addr) (l2 c2 : Nat) (n1 : Nat) (T1 : VT n1) (n2 : Nat) (T2 : VT n2) (w : World) (hr1 : Rep w n1 (.agg #[.int .i64 K1, .int .i64 I1, .float .f64 F1, .string S1, .slice p1 l1 c1]) T1) (hr2 : Rep w n2 (.agg #[.int .i64 K2, .int .i64 I2, .float .f64 F2, .string S2, .slice p2 l2 c2]) T2) (h : lightT n1 T1 = true) (h2 : lightT n2 T2 = false) : Calls Try.prog 3 #[.agg #[.int .i64 K1, .int .i64 I1, .float .f64 F1, .string S1, .slice p1 l1 c1], .agg #[.int .i64 K2, .int .i64 I2, .float .f64 F2, .string S2, .slice p2 l2 c2]] w fun e w' => e = .returned (.bool true) ∧ Below w.heap.size w w' := by
  have BA := Lib.hid ((Below.refl w.heap.size w).alloc (Nat.le_refl _) (.cells #[.int .i64 K1, .int .i64 I1, .float .f64 F1, .string S1, .slice p1 l1 c1] 25))
  have BB := Lib.hid (bel_alloc BA.out (.cells #[.int .i64 K2, .int .i64 I2, .float .f64 F2, .string S2, .slice p2 l2 c2] 25))
  have Q1 := Lib.hid (rep_keep BB.out _ _ _ hr1)
  have Q2 := Lib.hid (rep_keep BB.out _ _ _ hr2)
  have RA := Lib.hid (row_alloc_step (row_alloc w #[.int .i64 K1, .int .i64 I1, .float .f64 F1, .string S1, .slice p1 l1 c1] 25) (.cells #[.int .i64 K2, .int .i64 I2, .float .f64 F2, .string S2, .slice p2 l2 c2] 25))
  have RB := Lib.hid (row_alloc (w.alloc (.cells #[.int .i64 K1, .int .i64 I1, .float .f64 F1, .string S1, .slice p1 l1 c1] 25)) #[.int .i64 K2, .int .i64 I2, .float .f64 F2, .string S2, .slice p2 l2 c2] 25)
  simp only [World.size_alloc] at RB
  clear hr1 hr2
  go_enter Try.func3, Try.ntmps3
  go_wp2_with fail
  go_at_call 10; refine (known_any _).mono ?_; rintro e w0 ⟨rfl, hb0⟩
  have R1 := Lib.hid (row_step RA.out hb0)
  have R2 := Lib.hid (row_step RB.out hb0)
  have P1 := Lib.hid (rep_keep hb0 _ _ _ Q1.out)
  have P2 := Lib.hid (rep_keep hb0 _ _ _ Q2.out)
  have HB := Lib.hid (bel_step BB.out hb0)
  have R1o := R1.out
  have R2o := R2.out
  have c0 := row_cell R1o 0
  have c1 := row_cell R1o 1
  have c2 := row_cell R1o 2
  have c3 := row_cell R1o 3
  have c4 := row_cell R1o 4
  simp only [List.getElem?_toArray, List.getElem?_cons_zero, List.getElem?_cons_succ] at c0 c1 c2 c3 c4
  have d0 := row_cell R2o 0
  have d1 := row_cell R2o 1
  have d2 := row_cell R2o 2
  have d3 := row_cell R2o 3
  have d4 := row_cell R2o 4
  simp only [List.getElem?_toArray, List.getElem?_cons_zero, List.getElem?_cons_succ] at d0 d1 d2 d3 d4
  clear R1o R2o hb0 RA RB Q1 Q2 BA BB
  go_wp2_with fail
  go_at_call 11; refine (light_any _ _ _ _ P1.out).mono ?_; rintro e w1 ⟨rfl, hb1⟩
  have R3 := Lib.hid (row_step R1.out hb1)
  have R4 := Lib.hid (row_step R2.out hb1)
  have P3 := Lib.hid (rep_keep hb1 _ _ _ P2.out)
  have HB1 := Lib.hid (bel_step HB.out hb1)
  clear hb1 c0 c1 c2 c3 c4 d0 d1 d2 d3 d4 R1 R2 P1 P2 HB
  have R3o := R3.out
  have R4o := R4.out
  have c0 := row_cell R3o 0
  have c1 := row_cell R3o 1
  have c2 := row_cell R3o 2
  have c3 := row_cell R3o 3
  have c4 := row_cell R3o 4
  simp only [List.getElem?_toArray, List.getElem?_cons_zero, List.getElem?_cons_succ] at c0 c1 c2 c3 c4
  have d0 := row_cell R4o 0
  have d1 := row_cell R4o 1
  have d2 := row_cell R4o 2
  have d3 := row_cell R4o 3
  have d4 := row_cell R4o 4
  simp only [List.getElem?_toArray, List.getElem?_cons_zero, List.getElem?_cons_succ] at d0 d1 d2 d3 d4
  clear R3o R4o
  go_wp2_with fail
  go_at_call 11; refine (light_any _ _ _ _ P3.out).mono ?_; rintro e w2 ⟨rfl, hb2⟩
  have HB2 := Lib.hid (bel_step HB1.out hb2)
  clear hb2 c0 c1 c2 c3 c4 d0 d1 d2 d3 d4
  go_wp2
  go_ret
  exact ⟨rfl, HB2.out⟩
set_option maxHeartbeats 8000000 in
theorem numOps_light (K1 I1 : Int) (F1 : Nat) (S1 : ByteArray) (p1 : Option Addr) (l1 c1 : Nat) (K2 I2 : Int) (F2 : Nat) (S2 : ByteArray) (p2 : Option Addr) (l2 c2 : Nat) (n1 : Nat) (T1 : VT n1) (n2 : Nat) (T2 : VT n2) (w : World) (hr1 : Rep w n1 (.agg #[.int .i64 K1, .int .i64 I1, .float .f64 F1, .string S1, .slice p1 l1 c1]) T1) (hr2 : Rep w n2 (.agg #[.int .i64 K2, .int .i64 I2, .float .f64 F2, .string S2, .slice p2 l2 c2]) T2) (h : lightT n1 T1 = true) (h2 : lightT n2 T2 = true) (oi1 : okI I1) (oi2 : okI I2) : Calls Try.prog 3 #[.agg #[.int .i64 K1, .int .i64 I1, .float .f64 F1, .string S1, .slice p1 l1 c1], .agg #[.int .i64 K2, .int .i64 I2, .float .f64 F2, .string S2, .slice p2 l2 c2]] w fun e w' => e = .returned (.bool true) ∧ Below w.heap.size w w' := by
  have O1 := Lib.hid oi1
  have O2 := Lib.hid oi2
  clear oi1 oi2
  obtain ⟨⟨A0, N0, D0, E0⟩, g0⟩ : ∃ q, q = opV 0 K1 I1 F1 K2 I2 F2 := ⟨_, rfl⟩
  have G0 := Lib.hid g0.symm
  clear g0
  obtain ⟨⟨A1, N1, D1, E1⟩, g1⟩ : ∃ q, q = opV 1 K1 I1 F1 K2 I2 F2 := ⟨_, rfl⟩
  have G1 := Lib.hid g1.symm
  clear g1
  obtain ⟨⟨A2, N2, D2, E2⟩, g2⟩ : ∃ q, q = opV 2 K1 I1 F1 K2 I2 F2 := ⟨_, rfl⟩
  have G2 := Lib.hid g2.symm
  clear g2
  obtain ⟨⟨A3, N3, D3, E3⟩, g3⟩ : ∃ q, q = opV 3 K1 I1 F1 K2 I2 F2 := ⟨_, rfl⟩
  have G3 := Lib.hid g3.symm
  clear g3
  have BA := Lib.hid ((Below.refl w.heap.size w).alloc (Nat.le_refl _) (.cells #[.int .i64 K1, .int .i64 I1, .float .f64 F1, .string S1, .slice p1 l1 c1] 25))
  have BB := Lib.hid (bel_alloc BA.out (.cells #[.int .i64 K2, .int .i64 I2, .float .f64 F2, .string S2, .slice p2 l2 c2] 25))
  have Q1 := Lib.hid (rep_keep BB.out _ _ _ hr1)
  have Q2 := Lib.hid (rep_keep BB.out _ _ _ hr2)
  have RA := Lib.hid (row_alloc_step (row_alloc w #[.int .i64 K1, .int .i64 I1, .float .f64 F1, .string S1, .slice p1 l1 c1] 25) (.cells #[.int .i64 K2, .int .i64 I2, .float .f64 F2, .string S2, .slice p2 l2 c2] 25))
  have RB := Lib.hid (row_alloc (w.alloc (.cells #[.int .i64 K1, .int .i64 I1, .float .f64 F1, .string S1, .slice p1 l1 c1] 25)) #[.int .i64 K2, .int .i64 I2, .float .f64 F2, .string S2, .slice p2 l2 c2] 25)
  simp only [World.size_alloc] at RB
  clear hr1 hr2
  go_enter Try.func3, Try.ntmps3
  go_wp2_with fail
  go_at_call 10; refine (known_any _).mono ?_; rintro e w0 ⟨rfl, hb0⟩
  have R1 := Lib.hid (row_step RA.out hb0)
  have R2 := Lib.hid (row_step RB.out hb0)
  have P1 := Lib.hid (rep_keep hb0 _ _ _ Q1.out)
  have P2 := Lib.hid (rep_keep hb0 _ _ _ Q2.out)
  have HB := Lib.hid (bel_step BB.out hb0)
  have R1o := R1.out
  have R2o := R2.out
  have c0 := row_cell R1o 0
  have c1 := row_cell R1o 1
  have c2 := row_cell R1o 2
  have c3 := row_cell R1o 3
  have c4 := row_cell R1o 4
  simp only [List.getElem?_toArray, List.getElem?_cons_zero, List.getElem?_cons_succ] at c0 c1 c2 c3 c4
  have d0 := row_cell R2o 0
  have d1 := row_cell R2o 1
  have d2 := row_cell R2o 2
  have d3 := row_cell R2o 3
  have d4 := row_cell R2o 4
  simp only [List.getElem?_toArray, List.getElem?_cons_zero, List.getElem?_cons_succ] at d0 d1 d2 d3 d4
  clear R1o R2o hb0 RA RB Q1 Q2 BA BB
  go_wp2_with fail
  go_at_call 11; refine (light_any _ _ _ _ P1.out).mono ?_; rintro e w1 ⟨rfl, hb1⟩
  have R3 := Lib.hid (row_step R1.out hb1)
  have R4 := Lib.hid (row_step R2.out hb1)
  have P3 := Lib.hid (rep_keep hb1 _ _ _ P2.out)
  have HB1 := Lib.hid (bel_step HB.out hb1)
  clear hb1 c0 c1 c2 c3 c4 d0 d1 d2 d3 d4 R1 R2 P1 P2 HB
  have R3o := R3.out
  have R4o := R4.out
  have c0 := row_cell R3o 0
  have c1 := row_cell R3o 1
  have c2 := row_cell R3o 2
  have c3 := row_cell R3o 3
  have c4 := row_cell R3o 4
  simp only [List.getElem?_toArray, List.getElem?_cons_zero, List.getElem?_cons_succ] at c0 c1 c2 c3 c4
  have d0 := row_cell R4o 0
  have d1 := row_cell R4o 1
  have d2 := row_cell R4o 2
  have d3 := row_cell R4o 3
  have d4 := row_cell R4o 4
  simp only [List.getElem?_toArray, List.getElem?_cons_zero, List.getElem?_cons_succ] at d0 d1 d2 d3 d4
  clear R3o R4o
  go_wp2_with fail
  go_at_call 11; refine (light_any _ _ _ _ P3.out).mono ?_; rintro e w2 ⟨rfl, hb2⟩
  have X1 := Lib.hid (row_step R3.out hb2)
  have X2 := Lib.hid (row_step R4.out hb2)
  have HX := Lib.hid (bel_step HB1.out hb2)
  clear hb2 c0 c1 c2 c3 c4 d0 d1 d2 d3 d4 R3 R4 P3 HB1
  have X1o := X1.out
  have X2o := X2.out
  have c0 := row_cell X1o 0
  have c1 := row_cell X1o 1
  have c2 := row_cell X1o 2
  have c3 := row_cell X1o 3
  have c4 := row_cell X1o 4
  simp only [List.getElem?_toArray, List.getElem?_cons_zero, List.getElem?_cons_succ] at c0 c1 c2 c3 c4
  have d0 := row_cell X2o 0
  have d1 := row_cell X2o 1
  have d2 := row_cell X2o 2
  have d3 := row_cell X2o 3
  have d4 := row_cell X2o 4
  simp only [List.getElem?_toArray, List.getElem?_cons_zero, List.getElem?_cons_succ] at d0 d1 d2 d3 d4
  clear X1o X2o
  go_wp2_with fail
  go_at_call 12; refine (add_any _ _ _ _ _ _ _ _ _ _ _ _ _ _ _ O1.out O2.out G0.out).mono ?_; rintro e w3 ⟨rfl, hb3⟩
  have Y1 := Lib.hid (row_alloc_step (row_step X1.out hb3) (.cells #[.int .i64 A0, .int .i64 N0, .float .f64 D0, .string ⟨#[]⟩, .slice none 0 0] 25))
  have Y2 := Lib.hid (row_alloc_step (row_step X2.out hb3) (.cells #[.int .i64 A0, .int .i64 N0, .float .f64 D0, .string ⟨#[]⟩, .slice none 0 0] 25))
  have Y3 := Lib.hid (row_alloc w3 #[.int .i64 A0, .int .i64 N0, .float .f64 D0, .string ⟨#[]⟩, .slice none 0 0] 25)
  have HY := Lib.hid (bel_alloc (bel_step HX.out hb3) (.cells #[.int .i64 A0, .int .i64 N0, .float .f64 D0, .string ⟨#[]⟩, .slice none 0 0] 25))
  have y1 := row_step X1.out hb3
  have y2 := row_step X2.out hb3
  have cc0 := row_cell y1 0
  have cc1 := row_cell y1 1
  have cc2 := row_cell y1 2
  have cc3 := row_cell y1 3
  have cc4 := row_cell y1 4
  simp only [List.getElem?_toArray, List.getElem?_cons_zero, List.getElem?_cons_succ] at cc0 cc1 cc2 cc3 cc4
  have dd0 := row_cell y2 0
  have dd1 := row_cell y2 1
  have dd2 := row_cell y2 2
  have dd3 := row_cell y2 3
  have dd4 := row_cell y2 4
  simp only [List.getElem?_toArray, List.getElem?_cons_zero, List.getElem?_cons_succ] at dd0 dd1 dd2 dd3 dd4
  have ny1 := row_lt y1
  have ny2 := row_lt y2
  have ny3 : w3.heap.size ≠ w.heap.size := by omega
  have ny4 : w3.heap.size ≠ w.heap.size + 1 := by omega
  clear y1 y2 hb3 X1 X2 HX c0 c1 c2 c3 c4 d0 d1 d2 d3 d4
  go_wp2_with fail
  go_at_call 13; refine (refOp0_any _ _ _ _ _ _ _ _ _ _ _ _ _ _ _ O1.out O2.out G0.out).mono ?_; rintro e w4 ⟨rfl, hb4⟩
  have z1 := row_step Y1.out hb4
  have z2 := row_step Y2.out hb4
  have z3 := row_step Y3.out hb4
  have Z1 := Lib.hid (row_alloc_step z1 (.cells #[.int .i64 A0, .int .i64 N0, .float .f64 D0, .string ⟨#[]⟩, .slice none 0 0] 25))
  have Z2 := Lib.hid (row_alloc_step z2 (.cells #[.int .i64 A0, .int .i64 N0, .float .f64 D0, .string ⟨#[]⟩, .slice none 0 0] 25))
  have Z3 := Lib.hid (row_alloc_step z3 (.cells #[.int .i64 A0, .int .i64 N0, .float .f64 D0, .string ⟨#[]⟩, .slice none 0 0] 25))
  have Z4 := Lib.hid (row_alloc w4 #[.int .i64 A0, .int .i64 N0, .float .f64 D0, .string ⟨#[]⟩, .slice none 0 0] 25)
  have HZ := Lib.hid (bel_alloc (bel_step HY.out hb4) (.cells #[.int .i64 A0, .int .i64 N0, .float .f64 D0, .string ⟨#[]⟩, .slice none 0 0] 25))
  have lz := row_lt z3
  have q57 : w4.heap.size ≠ w3.heap.size := by omega
  have q75 : w3.heap.size ≠ w4.heap.size := by omega
  have q7a : w4.heap.size ≠ w.heap.size := by omega
  have q7b : w4.heap.size ≠ w.heap.size + 1 := by omega
  have qa7 : w.heap.size ≠ w4.heap.size := by omega
  have qb7 : w.heap.size + 1 ≠ w4.heap.size := by omega
  have qa5 : w.heap.size ≠ w3.heap.size := by omega
  have qb5 : w.heap.size + 1 ≠ w3.heap.size := by omega
  have hle5 : w.heap.size ≤ w3.heap.size := by omega
  have hle7 : w.heap.size ≤ w4.heap.size := by omega
  have x0 := row_cell z3 0
  have x1 := row_cell z3 1
  have x2 := row_cell z3 2
  have x3 := row_cell z3 3
  have x4 := row_cell z3 4
  simp only [List.getElem?_toArray, List.getElem?_cons_zero, List.getElem?_cons_succ] at x0 x1 x2 x3 x4
  clear z1 z2 z3 hb4 Y1 Y2 Y3 HY cc0 cc1 cc2 cc3 cc4 dd0 dd1 dd2 dd3 dd4 ny1 ny2
  go_wp2_with fail
  go_at_call 14; refine (same_shallow _ _ _ _).mono ?_; rintro e w5 ⟨rfl, hb5⟩
  have U1 := Lib.hid (row_step Z1.out hb5)
  have U2 := Lib.hid (row_step Z2.out hb5)
  have U5 := Lib.hid (row_step Z3.out hb5)
  have U7 := Lib.hid (row_step Z4.out hb5)
  have HU := Lib.hid (bel_step HZ.out hb5)
  clear hb5 Z1 Z2 Z3 Z4 HZ x0 x1 x2 x3 x4
  have u1 := U1.out
  have u2 := U2.out
  have a0 := row_cell u1 0
  have a1 := row_cell u1 1
  have a2 := row_cell u1 2
  have a3 := row_cell u1 3
  have a4 := row_cell u1 4
  simp only [List.getElem?_toArray, List.getElem?_cons_zero, List.getElem?_cons_succ] at a0 a1 a2 a3 a4
  have b0 := row_cell u2 0
  have b1 := row_cell u2 1
  have b2 := row_cell u2 2
  have b3 := row_cell u2 3
  have b4 := row_cell u2 4
  simp only [List.getElem?_toArray, List.getElem?_cons_zero, List.getElem?_cons_succ] at b0 b1 b2 b3 b4
  clear u1 u2
  go_wp2_with fail
  go_at_call 15; refine (sub_any _ _ _ _ _ _ _ _ _ _ _ _ _ _ _ O1.out O2.out G1.out).mono ?_; rintro e w6 ⟨rfl, hb6⟩
  have v1 := row_step U1.out hb6
  have v2 := row_step U2.out hb6
  have v5 := row_step U5.out hb6
  have v7 := row_step U7.out hb6
  have fr := row_frozen v5
  have V1 := Lib.hid (set5_other v1 qa5 (.int .i64 A1) (.int .i64 N1) (.float .f64 D1) (.string ⟨#[]⟩) (.slice none 0 0))
  have V2 := Lib.hid (set5_other v2 qb5 (.int .i64 A1) (.int .i64 N1) (.float .f64 D1) (.string ⟨#[]⟩) (.slice none 0 0))
  have V5 := Lib.hid (set5_row v5 (.int .i64 A1) (.int .i64 N1) (.float .f64 D1) (.string ⟨#[]⟩) (.slice none 0 0))
  have V7 := Lib.hid (set5_other v7 q57 (.int .i64 A1) (.int .i64 N1) (.float .f64 D1) (.string ⟨#[]⟩) (.slice none 0 0))
  have HV := Lib.hid (bel_set5 (bel_step HU.out hb6) hle5 (.int .i64 A1) (.int .i64 N1) (.float .f64 D1) (.string ⟨#[]⟩) (.slice none 0 0))
  clear a0 a1 a2 a3 a4 b0 b1 b2 b3 b4
  have a0 := row_cell v1 0
  have a1 := row_cell v1 1
  have a2 := row_cell v1 2
  have a3 := row_cell v1 3
  have a4 := row_cell v1 4
  simp only [List.getElem?_toArray, List.getElem?_cons_zero, List.getElem?_cons_succ] at a0 a1 a2 a3 a4
  have b0 := row_cell v2 0
  have b1 := row_cell v2 1
  have b2 := row_cell v2 2
  have b3 := row_cell v2 3
  have b4 := row_cell v2 4
  simp only [List.getElem?_toArray, List.getElem?_cons_zero, List.getElem?_cons_succ] at b0 b1 b2 b3 b4
  have x0 := row_cell v5 0
  have x1 := row_cell v5 1
  have x2 := row_cell v5 2
  have x3 := row_cell v5 3
  have x4 := row_cell v5 4
  simp only [List.getElem?_toArray, List.getElem?_cons_zero, List.getElem?_cons_succ] at x0 x1 x2 x3 x4
  clear v1 v2 v5 v7 hb6 U1 U2 U5 U7 HU
  go_wp2_with fail
  go_at_call 13; refine (refOp1_any _ _ _ _ _ _ _ _ _ _ _ _ _ _ _ O1.out O2.out G1.out).mono ?_; rintro e w7 ⟨rfl, hb7⟩
  have v1 := row_step V1.out hb7
  have v2 := row_step V2.out hb7
  have v5 := row_step V5.out hb7
  have v7 := row_step V7.out hb7
  have fs := row_frozen v7
  have W1 := Lib.hid (set5_other v1 qa7 (.int .i64 A1) (.int .i64 N1) (.float .f64 D1) (.string ⟨#[]⟩) (.slice none 0 0))
  have W2 := Lib.hid (set5_other v2 qb7 (.int .i64 A1) (.int .i64 N1) (.float .f64 D1) (.string ⟨#[]⟩) (.slice none 0 0))
  have W5 := Lib.hid (set5_other v5 q75 (.int .i64 A1) (.int .i64 N1) (.float .f64 D1) (.string ⟨#[]⟩) (.slice none 0 0))
  have W7 := Lib.hid (set5_row v7 (.int .i64 A1) (.int .i64 N1) (.float .f64 D1) (.string ⟨#[]⟩) (.slice none 0 0))
  have HW := Lib.hid (bel_set5 (bel_step HV.out hb7) hle7 (.int .i64 A1) (.int .i64 N1) (.float .f64 D1) (.string ⟨#[]⟩) (.slice none 0 0))
  clear a0 a1 a2 a3 a4 b0 b1 b2 b3 b4 x0 x1 x2 x3 x4 fr
  have x0 := row_cell v5 0
  have x1 := row_cell v5 1
  have x2 := row_cell v5 2
  have x3 := row_cell v5 3
  have x4 := row_cell v5 4
  simp only [List.getElem?_toArray, List.getElem?_cons_zero, List.getElem?_cons_succ] at x0 x1 x2 x3 x4
  have y0 := row_cell v7 0
  have y1 := row_cell v7 1
  have y2 := row_cell v7 2
  have y3 := row_cell v7 3
  have y4 := row_cell v7 4
  simp only [List.getElem?_toArray, List.getElem?_cons_zero, List.getElem?_cons_succ] at y0 y1 y2 y3 y4
  clear v1 v2 v5 v7 hb7 V1 V2 V5 V7 HV
  go_wp2_with fail
  go_at_call 14; refine (same_shallow _ _ _ _).mono ?_; rintro e w8 ⟨rfl, hb8⟩
  have U1 := Lib.hid (row_step W1.out hb8)
  have U2 := Lib.hid (row_step W2.out hb8)
  have U5 := Lib.hid (row_step W5.out hb8)
  have U7 := Lib.hid (row_step W7.out hb8)
  have HU := Lib.hid (bel_step HW.out hb8)
  clear hb8 W1 W2 W5 W7 HW x0 x1 x2 x3 x4 y0 y1 y2 y3 y4 fs
  have u1 := U1.out
  have u2 := U2.out
  have a0 := row_cell u1 0
  have a1 := row_cell u1 1
  have a2 := row_cell u1 2
  have a3 := row_cell u1 3
  have a4 := row_cell u1 4
  simp only [List.getElem?_toArray, List.getElem?_cons_zero, List.getElem?_cons_succ] at a0 a1 a2 a3 a4
  have b0 := row_cell u2 0
  have b1 := row_cell u2 1
  have b2 := row_cell u2 2
  have b3 := row_cell u2 3
  have b4 := row_cell u2 4
  simp only [List.getElem?_toArray, List.getElem?_cons_zero, List.getElem?_cons_succ] at b0 b1 b2 b3 b4
  clear u1 u2
  go_wp2_with fail
  go_at_call 16; refine (mul_any _ _ _ _ _ _ _ _ _ _ _ _ _ _ _ O1.out O2.out G2.out).mono ?_; rintro e w9 ⟨rfl, hb9⟩
  have v1 := row_step U1.out hb9
  have v2 := row_step U2.out hb9
  have v5 := row_step U5.out hb9
  have v7 := row_step U7.out hb9
  have fr := row_frozen v5
  have V1 := Lib.hid (set5_other v1 qa5 (.int .i64 A2) (.int .i64 N2) (.float .f64 D2) (.string ⟨#[]⟩) (.slice none 0 0))
  have V2 := Lib.hid (set5_other v2 qb5 (.int .i64 A2) (.int .i64 N2) (.float .f64 D2) (.string ⟨#[]⟩) (.slice none 0 0))
  have V5 := Lib.hid (set5_row v5 (.int .i64 A2) (.int .i64 N2) (.float .f64 D2) (.string ⟨#[]⟩) (.slice none 0 0))
  have V7 := Lib.hid (set5_other v7 q57 (.int .i64 A2) (.int .i64 N2) (.float .f64 D2) (.string ⟨#[]⟩) (.slice none 0 0))
  have HV := Lib.hid (bel_set5 (bel_step HU.out hb9) hle5 (.int .i64 A2) (.int .i64 N2) (.float .f64 D2) (.string ⟨#[]⟩) (.slice none 0 0))
  clear a0 a1 a2 a3 a4 b0 b1 b2 b3 b4
  have a0 := row_cell v1 0
  have a1 := row_cell v1 1
  have a2 := row_cell v1 2
  have a3 := row_cell v1 3
  have a4 := row_cell v1 4
  simp only [List.getElem?_toArray, List.getElem?_cons_zero, List.getElem?_cons_succ] at a0 a1 a2 a3 a4
  have b0 := row_cell v2 0
  have b1 := row_cell v2 1
  have b2 := row_cell v2 2
  have b3 := row_cell v2 3
  have b4 := row_cell v2 4
  simp only [List.getElem?_toArray, List.getElem?_cons_zero, List.getElem?_cons_succ] at b0 b1 b2 b3 b4
  have x0 := row_cell v5 0
  have x1 := row_cell v5 1
  have x2 := row_cell v5 2
  have x3 := row_cell v5 3
  have x4 := row_cell v5 4
  simp only [List.getElem?_toArray, List.getElem?_cons_zero, List.getElem?_cons_succ] at x0 x1 x2 x3 x4
  clear v1 v2 v5 v7 hb9 U1 U2 U5 U7 HU
  go_wp2_with fail
  go_at_call 13; refine (refOp2_any _ _ _ _ _ _ _ _ _ _ _ _ _ _ _ O1.out O2.out G2.out).mono ?_; rintro e w10 ⟨rfl, hb10⟩
  have v1 := row_step V1.out hb10
  have v2 := row_step V2.out hb10
  have v5 := row_step V5.out hb10
  have v7 := row_step V7.out hb10
  have fs := row_frozen v7
  have W1 := Lib.hid (set5_other v1 qa7 (.int .i64 A2) (.int .i64 N2) (.float .f64 D2) (.string ⟨#[]⟩) (.slice none 0 0))
  have W2 := Lib.hid (set5_other v2 qb7 (.int .i64 A2) (.int .i64 N2) (.float .f64 D2) (.string ⟨#[]⟩) (.slice none 0 0))
  have W5 := Lib.hid (set5_other v5 q75 (.int .i64 A2) (.int .i64 N2) (.float .f64 D2) (.string ⟨#[]⟩) (.slice none 0 0))
  have W7 := Lib.hid (set5_row v7 (.int .i64 A2) (.int .i64 N2) (.float .f64 D2) (.string ⟨#[]⟩) (.slice none 0 0))
  have HW := Lib.hid (bel_set5 (bel_step HV.out hb10) hle7 (.int .i64 A2) (.int .i64 N2) (.float .f64 D2) (.string ⟨#[]⟩) (.slice none 0 0))
  clear a0 a1 a2 a3 a4 b0 b1 b2 b3 b4 x0 x1 x2 x3 x4 fr
  have x0 := row_cell v5 0
  have x1 := row_cell v5 1
  have x2 := row_cell v5 2
  have x3 := row_cell v5 3
  have x4 := row_cell v5 4
  simp only [List.getElem?_toArray, List.getElem?_cons_zero, List.getElem?_cons_succ] at x0 x1 x2 x3 x4
  have y0 := row_cell v7 0
  have y1 := row_cell v7 1
  have y2 := row_cell v7 2
  have y3 := row_cell v7 3
  have y4 := row_cell v7 4
  simp only [List.getElem?_toArray, List.getElem?_cons_zero, List.getElem?_cons_succ] at y0 y1 y2 y3 y4
  clear v1 v2 v5 v7 hb10 V1 V2 V5 V7 HV
  go_wp2_with fail
  go_at_call 14; refine (same_shallow _ _ _ _).mono ?_; rintro e w11 ⟨rfl, hb11⟩
  have U1 := Lib.hid (row_step W1.out hb11)
  have U2 := Lib.hid (row_step W2.out hb11)
  have U5 := Lib.hid (row_step W5.out hb11)
  have U7 := Lib.hid (row_step W7.out hb11)
  have HU := Lib.hid (bel_step HW.out hb11)
  clear hb11 W1 W2 W5 W7 HW x0 x1 x2 x3 x4 y0 y1 y2 y3 y4 fs
  have u1 := U1.out
  have u2 := U2.out
  have a0 := row_cell u1 0
  have a1 := row_cell u1 1
  have a2 := row_cell u1 2
  have a3 := row_cell u1 3
  have a4 := row_cell u1 4
  simp only [List.getElem?_toArray, List.getElem?_cons_zero, List.getElem?_cons_succ] at a0 a1 a2 a3 a4
  have b0 := row_cell u2 0
  have b1 := row_cell u2 1
  have b2 := row_cell u2 2
  have b3 := row_cell u2 3
  have b4 := row_cell u2 4
  simp only [List.getElem?_toArray, List.getElem?_cons_zero, List.getElem?_cons_succ] at b0 b1 b2 b3 b4
  clear u1 u2
  go_wp2_with fail
  go_at_call 17; refine (div_any _ _ _ _ _ _ _ _ _ _ _ _ _ _ _ O1.out O2.out G3.out).mono ?_; rintro e w12 ⟨rfl, hb12⟩
  have v1 := row_step U1.out hb12
  have v2 := row_step U2.out hb12
  have v5 := row_step U5.out hb12
  have v7 := row_step U7.out hb12
  have fr := row_frozen v5
  have V1 := Lib.hid (set5_other v1 qa5 (.int .i64 A3) (.int .i64 N3) (.float .f64 D3) (.string ⟨#[]⟩) (.slice none 0 0))
  have V2 := Lib.hid (set5_other v2 qb5 (.int .i64 A3) (.int .i64 N3) (.float .f64 D3) (.string ⟨#[]⟩) (.slice none 0 0))
  have V5 := Lib.hid (set5_row v5 (.int .i64 A3) (.int .i64 N3) (.float .f64 D3) (.string ⟨#[]⟩) (.slice none 0 0))
  have V7 := Lib.hid (set5_other v7 q57 (.int .i64 A3) (.int .i64 N3) (.float .f64 D3) (.string ⟨#[]⟩) (.slice none 0 0))
  have HV := Lib.hid (bel_set5 (bel_step HU.out hb12) hle5 (.int .i64 A3) (.int .i64 N3) (.float .f64 D3) (.string ⟨#[]⟩) (.slice none 0 0))
  clear a0 a1 a2 a3 a4 b0 b1 b2 b3 b4
  have a0 := row_cell v1 0
  have a1 := row_cell v1 1
  have a2 := row_cell v1 2
  have a3 := row_cell v1 3
  have a4 := row_cell v1 4
  simp only [List.getElem?_toArray, List.getElem?_cons_zero, List.getElem?_cons_succ] at a0 a1 a2 a3 a4
  have b0 := row_cell v2 0
  have b1 := row_cell v2 1
  have b2 := row_cell v2 2
  have b3 := row_cell v2 3
  have b4 := row_cell v2 4
  simp only [List.getElem?_toArray, List.getElem?_cons_zero, List.getElem?_cons_succ] at b0 b1 b2 b3 b4
  have x0 := row_cell v5 0
  have x1 := row_cell v5 1
  have x2 := row_cell v5 2
  have x3 := row_cell v5 3
  have x4 := row_cell v5 4
  simp only [List.getElem?_toArray, List.getElem?_cons_zero, List.getElem?_cons_succ] at x0 x1 x2 x3 x4
  clear v1 v2 v5 v7 hb12 U1 U2 U5 U7 HU
  go_wp2_with fail
  go_at_call 13; refine (refOp3_any _ _ _ _ _ _ _ _ _ _ _ _ _ _ _ O1.out O2.out G3.out).mono ?_; rintro e w13 ⟨rfl, hb13⟩
  have v1 := row_step V1.out hb13
  have v2 := row_step V2.out hb13
  have v5 := row_step V5.out hb13
  have v7 := row_step V7.out hb13
  have fs := row_frozen v7
  have W1 := Lib.hid (set5_other v1 qa7 (.int .i64 A3) (.int .i64 N3) (.float .f64 D3) (.string ⟨#[]⟩) (.slice none 0 0))
  have W2 := Lib.hid (set5_other v2 qb7 (.int .i64 A3) (.int .i64 N3) (.float .f64 D3) (.string ⟨#[]⟩) (.slice none 0 0))
  have W5 := Lib.hid (set5_other v5 q75 (.int .i64 A3) (.int .i64 N3) (.float .f64 D3) (.string ⟨#[]⟩) (.slice none 0 0))
  have W7 := Lib.hid (set5_row v7 (.int .i64 A3) (.int .i64 N3) (.float .f64 D3) (.string ⟨#[]⟩) (.slice none 0 0))
  have HW := Lib.hid (bel_set5 (bel_step HV.out hb13) hle7 (.int .i64 A3) (.int .i64 N3) (.float .f64 D3) (.string ⟨#[]⟩) (.slice none 0 0))
  clear a0 a1 a2 a3 a4 b0 b1 b2 b3 b4 x0 x1 x2 x3 x4 fr
  have x0 := row_cell v5 0
  have x1 := row_cell v5 1
  have x2 := row_cell v5 2
  have x3 := row_cell v5 3
  have x4 := row_cell v5 4
  simp only [List.getElem?_toArray, List.getElem?_cons_zero, List.getElem?_cons_succ] at x0 x1 x2 x3 x4
  have y0 := row_cell v7 0
  have y1 := row_cell v7 1
  have y2 := row_cell v7 2
  have y3 := row_cell v7 3
  have y4 := row_cell v7 4
  simp only [List.getElem?_toArray, List.getElem?_cons_zero, List.getElem?_cons_succ] at y0 y1 y2 y3 y4
  clear v1 v2 v5 v7 hb13 V1 V2 V5 V7 HV
  go_wp2_with fail
  go_at_call 14; refine (same_shallow _ _ _ _).mono ?_; rintro e w14 ⟨rfl, hb14⟩
  have U1 := Lib.hid (row_step W1.out hb14)
  have U2 := Lib.hid (row_step W2.out hb14)
  have U5 := Lib.hid (row_step W5.out hb14)
  have U7 := Lib.hid (row_step W7.out hb14)
  have HU := Lib.hid (bel_step HW.out hb14)
  clear hb14 W1 W2 W5 W7 HW x0 x1 x2 x3 x4 y0 y1 y2 y3 y4 fs
  go_wp2
  go_ret
  exact ⟨rfl, HU.out⟩
theorem numOps_calls (n1 : Nat) (T1 : VT n1) (n2 : Nat) (T2 : VT n2) (v1 v2 : Value) (w : World) (hr1 : Rep w n1 v1 T1) (hr2 : Rep w n2 v2 T2) : Calls Try.prog 3 #[v1, v2] w fun e w' => e = .returned (.bool true) ∧ Below w.heap.size w w' := by
  obtain ⟨K1, I1, F1, S1, p1, l1, c1, rfl, o1⟩ := rep_shape hr1
  obtain ⟨K2, I2, F2, S2, p2, l2, c2, rfl, o2⟩ := rep_shape hr2
  cases h : lightT n1 T1
  · exact numOps_dark1 K1 I1 F1 S1 p1 l1 c1 K2 I2 F2 S2 p2 l2 c2 n1 T1 n2 T2 w hr1 hr2 h
  · cases h2 : lightT n2 T2
    · exact numOps_dark2 K1 I1 F1 S1 p1 l1 c1 K2 I2 F2 S2 p2 l2 c2 n1 T1 n2 T2 w hr1 hr2 h h2
    · exact numOps_light K1 I1 F1 S1 p1 l1 c1 K2 I2 F2 S2 p2 l2 c2 n1 T1 n2 T2 w hr1 hr2 h h2 o1 o2
theorem rep_of_Trod {H : Type} {enc : TypeId × Value → H} {w : World} {base : Nat} {spare : Nat → Bool} {held : Bool} {v : Value} {d : DataW H} {ps : List MemPlace} (h : DataW.Trod enc Try.prog w base spare held 25 v d ps) : ∃ (n : Nat) (T : VT n), Rep w n v T := by
  obtain ⟨fuel, hf⟩ := h
  obtain ⟨T, hT⟩ := rep_of_trod fuel fuel (by omega) _ _ hf
  refine ⟨fuel, T, ?_⟩
  obtain ⟨_, _, _, _, _, _, _, _, hcs, _⟩ := trod5 hf
  have e : Value.agg v.cells.toList.toArray = v := by
    cases v <;> first | rfl | (simp [Value.cells] at hcs)
  rwa [e] at hT
theorem numOps_law {H : Type} {enc : TypeId × Value → H} {W : World} {v0 v1 : Value} {d0 d1 : DataW H} {p0 p1 : List MemPlace} (k0 : DataW.Trod enc Try.prog W 0 (fun _ => true) true 25 v0 d0 p0) (k1 : DataW.Trod enc Try.prog W 0 (fun _ => true) true 25 v1 d1 p1) :
    Calls Try.prog 3 #[v0, v1] W fun e w' => e = .returned (.bool true) ∧ Below W.heap.size W w' := by
  obtain ⟨n1, T1, h1⟩ := rep_of_Trod k0
  obtain ⟨n2, T2, h2⟩ := rep_of_Trod k1
  exact numOps_calls n1 T1 n2 T2 v0 v1 W h1 h2
end Num
end Go.Proofs.Ytkodgfhpbpefdaa
