/-
  What an object begins with: the program's Start, the reference's.
-/
import Derived.Test.YtmhogdigkdcnfaaHB
import Derived.Test.YtmhogdigkdcnfaaVList
import Derived.Test.YtmhogdigkdcnfaaVTree
namespace Go.Proofs.Ytmhogdigkdcnfaa
open Go.RowKit
namespace Num
open Ints
set_option linter.unusedSimpArgs false
set_option linter.unusedVariables false
def bare (k : Int) (n : Nat) : VT (n + 1) := (k, 0, 0, ⟨#[]⟩, [])
def cntT : VT 2 := (4, 0, 0, ⟨#[]⟩, [bare 1 0, bare 2 0])
def startT (c : ByteArray) : VT 2 := if c = ({ data := #[99, 111, 117, 110, 116, 101, 114] } : ByteArray) then cntT else if c = ({ data := #[111, 114, 99, 104] } : ByteArray) then bare 1 1 else if c = ({ data := #[108, 101, 100, 103, 101, 114] } : ByteArray) then bare 4 1 else if c = ({ data := #[113, 117, 101, 117, 101] } : ByteArray) then bare 4 1 else if c = ({ data := #[116, 97, 98, 108, 101] } : ByteArray) then bare 4 1 else bare 0 1
def startB (c : ByteArray) : Bool := decide (c = ({ data := #[99, 111, 117, 110, 116, 101, 114] } : ByteArray)) || decide (c = ({ data := #[111, 114, 99, 104] } : ByteArray)) || decide (c = ({ data := #[108, 101, 100, 103, 101, 114] } : ByteArray)) || decide (c = ({ data := #[113, 117, 101, 117, 101] } : ByteArray)) || decide (c = ({ data := #[116, 97, 98, 108, 101] } : ByteArray)) || decide (c = ({ data := #[114, 101, 103, 105, 115, 116, 101, 114] } : ByteArray))
theorem ok0 : okI 0 := by unfold okI; constructor <;> decide
theorem ok1 : okI 1 := by unfold okI; constructor <;> decide
theorem ok2 : okI 2 := by unfold okI; constructor <;> decide
theorem ok4 : okI 4 := by unfold okI; constructor <;> decide
theorem rep_bare (w : World) (k : Int) (n : Nat) (h : okI k) : Rep w (n + 1) (.agg #[.int .i64 k, .int .i64 0, .float .f64 0, .string ⟨#[]⟩, .slice none 0 0]) (bare k n) :=
  ⟨none, 0, 0, rfl, h, ok0, (show (0 : Nat) < 2 ^ 64 by decide), (show (⟨#[]⟩ : ByteArray).size ≤ maxLen by unfold maxLen; decide), rfl, Nat.le_refl _, Nat.zero_le _, fun h => absurd h (Nat.lt_irrefl _)⟩
theorem rep_cnt {w : World} {b : Nat} (t : TypeId) (h : w.heap[b]? = some (.cells #[.int .i64 1, .int .i64 0, .float .f64 0, .string ⟨#[]⟩, .slice none 0 0, .int .i64 2, .int .i64 0, .float .f64 0, .string ⟨#[]⟩, .slice none 0 0] t (0, 0))) :
    Rep w 2 (.agg #[.int .i64 4, .int .i64 0, .float .f64 0, .string ⟨#[]⟩, .slice (some ⟨b, 0, none⟩) 2 2]) cntT := by
  refine ⟨some ⟨b, 0, none⟩, 2, 2, rfl, ok4, ok0, (show (0 : Nat) < 2 ^ 64 by decide), (show (⟨#[]⟩ : ByteArray).size ≤ maxLen by unfold maxLen; decide), rfl, Nat.le_refl _, by unfold maxLen; decide, fun _ => ⟨b, 0, rfl, fun i hi => ?_⟩⟩
  match i, hi with
  | 0, _ => exact ⟨_, _, _, _, _, row_cell h _, row_cell h _, row_cell h _, row_cell h _, row_cell h _, rep_bare w 1 0 ok1⟩
  | 1, _ => exact ⟨_, _, _, _, _, row_cell h _, row_cell h _, row_cell h _, row_cell h _, row_cell h _, rep_bare w 2 0 ok2⟩
theorem row_set5 {w : World} {b a : Nat} {o : Option Obj} (h : w.heap[b]? = o) (hne : b ≠ a) (v0 v1 v2 v3 v4 : Value) :
    (((((w.setCell ⟨a, 0, none⟩ v0).setCell ⟨a, 1, none⟩ v1).setCell ⟨a, 2, none⟩ v2).setCell ⟨a, 3, none⟩ v3).setCell ⟨a, 4, none⟩ v4).heap[b]? = o := by
  iterate 5 rw [Below.heap_setCell _ _ _ _ (by first | exact hne | exact fun e => hne e.symm)]
  exact h
def StartP (w : World) (T : VT 2) (B : Bool) (e : Ending) (w' : World) : Prop := ∃ v0 v1 v2 v3 v4, e = .returned (.tuple #[.agg #[v0, v1, v2, v3, v4], .bool B]) ∧ Rep w' 2 (.agg #[v0, v1, v2, v3, v4]) T ∧ Below w.heap.size w w'
set_option maxRecDepth 100000 in
set_option maxHeartbeats 2000000 in
theorem pstC (w : World) : Calls Try.prog 48 #[.string { data := #[99, 111, 117, 110, 116, 101, 114] }] w fun e w' => StartP w cntT true e w' := by
  have HB := Lib.hid ((Below.refl w.heap.size w).alloc (Nat.le_refl _) (.cells #[.int .i64 0, .int .i64 0, .float .f64 0, .string ⟨#[]⟩, .slice none 0 0] 27))
  have HR := Lib.hid (row_alloc w #[.int .i64 0, .int .i64 0, .float .f64 0, .string ⟨#[]⟩, .slice none 0 0] 27)
  go_enter Try.func48, Try.ntmps48
  go_wp2
  have hr := row_alloc (w.alloc (.cells #[.int .i64 4, .int .i64 0, .float .f64 0, .string ⟨#[]⟩, .slice (some ⟨w.heap.size + 1, 0, none⟩) 2 2] 27)) #[.int .i64 1, .int .i64 0, .float .f64 0, .string ⟨#[]⟩, .slice none 0 0, .int .i64 2, .int .i64 0, .float .f64 0, .string ⟨#[]⟩, .slice none 0 0] 27
  rw [World.size_alloc] at hr
  refine bodyPost_ret (v := .tuple #[.agg #[.int .i64 4, .int .i64 0, .float .f64 0, .string ⟨#[]⟩, .slice (some ⟨w.heap.size + 1, 0, none⟩) 2 2], .bool true]) (by simp [results, Try.results48, go_sem, World.cell?_setCell_same, World.cell?_setCell_other]) rfl ⟨_, _, _, _, _, rfl, rep_cnt _ hr, bel_alloc (bel_alloc (Below.refl _ _) _) _⟩
set_option maxRecDepth 100000 in
set_option maxHeartbeats 2000000 in
theorem pstL (w : World) : Calls Try.prog 48 #[.string { data := #[108, 101, 100, 103, 101, 114] }] w fun e w' => StartP w (bare 4 1) true e w' := by
  have HB := Lib.hid ((Below.refl w.heap.size w).alloc (Nat.le_refl _) (.cells #[.int .i64 0, .int .i64 0, .float .f64 0, .string ⟨#[]⟩, .slice none 0 0] 27))
  have HR := Lib.hid (row_alloc w #[.int .i64 0, .int .i64 0, .float .f64 0, .string ⟨#[]⟩, .slice none 0 0] 27)
  go_enter Try.func48, Try.ntmps48
  go_wp2
  refine bodyPost_ret (v := .tuple #[.agg #[.int .i64 4, .int .i64 0, .float .f64 0, .string ⟨#[]⟩, .slice none 0 0], .bool true]) (by simp [results, Try.results48, go_sem, World.cell?_setCell_same, World.cell?_setCell_other]) rfl ⟨_, _, _, _, _, rfl, rep_bare _ 4 1 ok4, bel_alloc (Below.refl _ _) _⟩
set_option maxRecDepth 100000 in
set_option maxHeartbeats 2000000 in
theorem pstO (w : World) : Calls Try.prog 48 #[.string { data := #[111, 114, 99, 104] }] w fun e w' => StartP w (bare 1 1) true e w' := by
  have HB := Lib.hid ((Below.refl w.heap.size w).alloc (Nat.le_refl _) (.cells #[.int .i64 0, .int .i64 0, .float .f64 0, .string ⟨#[]⟩, .slice none 0 0] 27))
  have HR := Lib.hid (row_alloc w #[.int .i64 0, .int .i64 0, .float .f64 0, .string ⟨#[]⟩, .slice none 0 0] 27)
  go_enter Try.func48, Try.ntmps48
  go_wp2
  refine bodyPost_ret (v := .tuple #[.agg #[.int .i64 1, .int .i64 0, .float .f64 0, .string ⟨#[]⟩, .slice none 0 0], .bool true]) (by simp [results, Try.results48, go_sem, World.cell?_setCell_same, World.cell?_setCell_other]) rfl ⟨_, _, _, _, _, rfl, rep_bare _ 1 1 ok1, bel_alloc (Below.refl _ _) _⟩
set_option maxRecDepth 100000 in
set_option maxHeartbeats 2000000 in
theorem pstQ (w : World) : Calls Try.prog 48 #[.string { data := #[113, 117, 101, 117, 101] }] w fun e w' => StartP w (bare 4 1) true e w' := by
  have HB := Lib.hid ((Below.refl w.heap.size w).alloc (Nat.le_refl _) (.cells #[.int .i64 0, .int .i64 0, .float .f64 0, .string ⟨#[]⟩, .slice none 0 0] 27))
  have HR := Lib.hid (row_alloc w #[.int .i64 0, .int .i64 0, .float .f64 0, .string ⟨#[]⟩, .slice none 0 0] 27)
  go_enter Try.func48, Try.ntmps48
  go_wp2
  refine bodyPost_ret (v := .tuple #[.agg #[.int .i64 4, .int .i64 0, .float .f64 0, .string ⟨#[]⟩, .slice none 0 0], .bool true]) (by simp [results, Try.results48, go_sem, World.cell?_setCell_same, World.cell?_setCell_other]) rfl ⟨_, _, _, _, _, rfl, rep_bare _ 4 1 ok4, bel_alloc (Below.refl _ _) _⟩
set_option maxRecDepth 100000 in
set_option maxHeartbeats 2000000 in
theorem pstR (w : World) : Calls Try.prog 48 #[.string { data := #[114, 101, 103, 105, 115, 116, 101, 114] }] w fun e w' => StartP w (bare 0 1) true e w' := by
  have HB := Lib.hid ((Below.refl w.heap.size w).alloc (Nat.le_refl _) (.cells #[.int .i64 0, .int .i64 0, .float .f64 0, .string ⟨#[]⟩, .slice none 0 0] 27))
  have HR := Lib.hid (row_alloc w #[.int .i64 0, .int .i64 0, .float .f64 0, .string ⟨#[]⟩, .slice none 0 0] 27)
  go_enter Try.func48, Try.ntmps48
  go_wp2
  refine bodyPost_ret (v := .tuple #[.agg #[.int .i64 0, .int .i64 0, .float .f64 0, .string ⟨#[]⟩, .slice none 0 0], .bool true]) (by simp [results, Try.results48, go_sem, World.cell?_setCell_same, World.cell?_setCell_other]) rfl ⟨_, _, _, _, _, rfl, rep_bare _ 0 1 ok0, bel_alloc (Below.refl _ _) _⟩
set_option maxRecDepth 100000 in
set_option maxHeartbeats 2000000 in
theorem pstT (w : World) : Calls Try.prog 48 #[.string { data := #[116, 97, 98, 108, 101] }] w fun e w' => StartP w (bare 4 1) true e w' := by
  have HB := Lib.hid ((Below.refl w.heap.size w).alloc (Nat.le_refl _) (.cells #[.int .i64 0, .int .i64 0, .float .f64 0, .string ⟨#[]⟩, .slice none 0 0] 27))
  have HR := Lib.hid (row_alloc w #[.int .i64 0, .int .i64 0, .float .f64 0, .string ⟨#[]⟩, .slice none 0 0] 27)
  go_enter Try.func48, Try.ntmps48
  go_wp2
  refine bodyPost_ret (v := .tuple #[.agg #[.int .i64 4, .int .i64 0, .float .f64 0, .string ⟨#[]⟩, .slice none 0 0], .bool true]) (by simp [results, Try.results48, go_sem, World.cell?_setCell_same, World.cell?_setCell_other]) rfl ⟨_, _, _, _, _, rfl, rep_bare _ 4 1 ok4, bel_alloc (Below.refl _ _) _⟩
set_option maxRecDepth 100000 in
set_option maxHeartbeats 2000000 in
theorem pstNone (c : ByteArray) (h0 : c ≠ { data := #[99, 111, 117, 110, 116, 101, 114] }) (h1 : c ≠ { data := #[108, 101, 100, 103, 101, 114] }) (h2 : c ≠ { data := #[111, 114, 99, 104] }) (h3 : c ≠ { data := #[113, 117, 101, 117, 101] }) (h4 : c ≠ { data := #[114, 101, 103, 105, 115, 116, 101, 114] }) (h5 : c ≠ { data := #[116, 97, 98, 108, 101] }) (w : World) : Calls Try.prog 48 #[.string c] w fun e w' => StartP w (bare 0 1) false e w' := by
  have t0 := str_ne h0
  have t1 := str_ne h1
  have t2 := str_ne h2
  have t3 := str_ne h3
  have t4 := str_ne h4
  have t5 := str_ne h5
  clear h0 h1 h2 h3 h4 h5
  have HB := Lib.hid ((Below.refl w.heap.size w).alloc (Nat.le_refl _) (.cells #[.int .i64 0, .int .i64 0, .float .f64 0, .string ⟨#[]⟩, .slice none 0 0] 27))
  have HR := Lib.hid (row_alloc w #[.int .i64 0, .int .i64 0, .float .f64 0, .string ⟨#[]⟩, .slice none 0 0] 27)
  go_enter Try.func48, Try.ntmps48
  go_wp2
  refine bodyPost_ret (v := .tuple #[.agg #[.int .i64 0, .int .i64 0, .float .f64 0, .string ⟨#[]⟩, .slice none 0 0], .bool false]) (by simp [results, Try.results48, go_sem, World.cell?_setCell_same, World.cell?_setCell_other]) rfl ⟨_, _, _, _, _, rfl, rep_bare _ 0 1 ok0, bel_alloc (Below.refl _ _) _⟩
set_option maxRecDepth 100000 in
set_option maxHeartbeats 2000000 in
theorem rstC (w : World) : Calls Try.prog 8 #[.string { data := #[99, 111, 117, 110, 116, 101, 114] }] w fun e w' => StartP w cntT true e w' := by
  have HB := Lib.hid ((Below.refl w.heap.size w).alloc (Nat.le_refl _) (.cells #[.int .i64 0, .int .i64 0, .float .f64 0, .string ⟨#[]⟩, .slice none 0 0] 27))
  have HR := Lib.hid (row_alloc w #[.int .i64 0, .int .i64 0, .float .f64 0, .string ⟨#[]⟩, .slice none 0 0] 27)
  go_enter Try.func8, Try.ntmps8
  go_wp2_with fail
  go_at_call 19; refine (int_ref_any _ _).mono ?_; rintro e w1 ⟨rfl, hb1⟩
  have HB1 := Lib.hid (bel_step HB.out hb1)
  have HR1 := Lib.hid (row_step HR.out hb1)
  clear hb1 HB HR
  go_wp2_with fail
  go_at_call 17; refine (float_ref_any _ _).mono ?_; rintro e w2 ⟨rfl, hb2⟩
  rw [show Flo.canon 0 = 0 by decide +kernel]
  have HB2 := Lib.hid (bel_step HB1.out hb2)
  have HR2 := Lib.hid (row_step HR1.out hb2)
  clear hb2 HB1 HR1
  have HA := Lib.hid (row_alloc w2 #[.int .i64 1, .int .i64 0, .float .f64 0, .string ⟨#[]⟩, .slice none 0 0, .int .i64 2, .int .i64 0, .float .f64 0, .string ⟨#[]⟩, .slice none 0 0] 27)
  go_wp2_with fail
  go_at_call 18; refine (list_ref_any _ _ _ _).mono ?_; rintro e w3 ⟨rfl, hb3⟩
  have HB3 := Lib.hid (bel_step (bel_alloc HB2.out _) hb3)
  have hr := row_step (row_alloc_step HR2.out _) hb3
  have hc := row_step HA.out hb3
  have hlt2 := row_lt HR2.out
  clear hb3 HB2 HR2 HA
  have d0 := row_cell hr 0; have d1 := row_cell hr 1; have d2 := row_cell hr 2; have d3 := row_cell hr 3; have d4 := row_cell hr 4
  simp only [List.getElem?_toArray, List.getElem?_cons_zero, List.getElem?_cons_succ] at d0 d1 d2 d3 d4
  have df := fun o => row_frz hr o
  have hlt := row_lt hr
  have HC := Lib.hid hc
  clear hr hc
  go_wp2
  refine bodyPost_ret (v := .tuple #[.agg #[.int .i64 4, .int .i64 0, .float .f64 0, .string ⟨#[]⟩, .slice (some ⟨w2.heap.size, 0, none⟩) 2 2], .bool true]) (by simp [results, Try.results8, go_sem, World.cell?_setCell_same, World.cell?_setCell_other, d0, d1, d2, d3, d4]) rfl ⟨_, _, _, _, _, rfl, rep_cnt _ (row_set5 HC.out (by omega) _ _ _ _ _), below5 HB3.out (Nat.le_refl _) _ _ _ _ _⟩
set_option maxRecDepth 100000 in
set_option maxHeartbeats 2000000 in
theorem rstL (w : World) : Calls Try.prog 8 #[.string { data := #[108, 101, 100, 103, 101, 114] }] w fun e w' => StartP w (bare 4 1) true e w' := by
  have HB := Lib.hid ((Below.refl w.heap.size w).alloc (Nat.le_refl _) (.cells #[.int .i64 0, .int .i64 0, .float .f64 0, .string ⟨#[]⟩, .slice none 0 0] 27))
  have HR := Lib.hid (row_alloc w #[.int .i64 0, .int .i64 0, .float .f64 0, .string ⟨#[]⟩, .slice none 0 0] 27)
  go_enter Try.func8, Try.ntmps8
  go_wp2_with fail
  go_at_call 18; refine (list_ref_any _ _ _ _).mono ?_; rintro e w1 ⟨rfl, hb1⟩
  have HB1 := Lib.hid (bel_step HB.out hb1)
  have hr := row_step HR.out hb1
  clear hb1 HB HR
  have d0 := row_cell hr 0; have d1 := row_cell hr 1; have d2 := row_cell hr 2; have d3 := row_cell hr 3; have d4 := row_cell hr 4
  simp only [List.getElem?_toArray, List.getElem?_cons_zero, List.getElem?_cons_succ] at d0 d1 d2 d3 d4
  have df := fun o => row_frz hr o
  have hlt := row_lt hr
  clear hr
  go_wp2
  refine bodyPost_ret (v := .tuple #[.agg #[.int .i64 4, .int .i64 0, .float .f64 0, .string ⟨#[]⟩, .slice none 0 0], .bool true]) (by simp [results, Try.results8, go_sem, World.cell?_setCell_same, World.cell?_setCell_other, d0, d1, d2, d3, d4]) rfl ⟨_, _, _, _, _, rfl, rep_bare _ 4 1 ok4, below5 HB1.out (Nat.le_refl _) _ _ _ _ _⟩
set_option maxRecDepth 100000 in
set_option maxHeartbeats 2000000 in
theorem rstO (w : World) : Calls Try.prog 8 #[.string { data := #[111, 114, 99, 104] }] w fun e w' => StartP w (bare 1 1) true e w' := by
  have HB := Lib.hid ((Below.refl w.heap.size w).alloc (Nat.le_refl _) (.cells #[.int .i64 0, .int .i64 0, .float .f64 0, .string ⟨#[]⟩, .slice none 0 0] 27))
  have HR := Lib.hid (row_alloc w #[.int .i64 0, .int .i64 0, .float .f64 0, .string ⟨#[]⟩, .slice none 0 0] 27)
  go_enter Try.func8, Try.ntmps8
  go_wp2_with fail
  go_at_call 19; refine (int_ref_any _ _).mono ?_; rintro e w1 ⟨rfl, hb1⟩
  have HB1 := Lib.hid (bel_step HB.out hb1)
  have hr := row_step HR.out hb1
  clear hb1 HB HR
  have d0 := row_cell hr 0; have d1 := row_cell hr 1; have d2 := row_cell hr 2; have d3 := row_cell hr 3; have d4 := row_cell hr 4
  simp only [List.getElem?_toArray, List.getElem?_cons_zero, List.getElem?_cons_succ] at d0 d1 d2 d3 d4
  have df := fun o => row_frz hr o
  have hlt := row_lt hr
  clear hr
  go_wp2
  refine bodyPost_ret (v := .tuple #[.agg #[.int .i64 1, .int .i64 0, .float .f64 0, .string ⟨#[]⟩, .slice none 0 0], .bool true]) (by simp [results, Try.results8, go_sem, World.cell?_setCell_same, World.cell?_setCell_other, d0, d1, d2, d3, d4]) rfl ⟨_, _, _, _, _, rfl, rep_bare _ 1 1 ok1, below5 HB1.out (Nat.le_refl _) _ _ _ _ _⟩
set_option maxRecDepth 100000 in
set_option maxHeartbeats 2000000 in
theorem rstQ (w : World) : Calls Try.prog 8 #[.string { data := #[113, 117, 101, 117, 101] }] w fun e w' => StartP w (bare 4 1) true e w' := by
  have HB := Lib.hid ((Below.refl w.heap.size w).alloc (Nat.le_refl _) (.cells #[.int .i64 0, .int .i64 0, .float .f64 0, .string ⟨#[]⟩, .slice none 0 0] 27))
  have HR := Lib.hid (row_alloc w #[.int .i64 0, .int .i64 0, .float .f64 0, .string ⟨#[]⟩, .slice none 0 0] 27)
  go_enter Try.func8, Try.ntmps8
  go_wp2_with fail
  go_at_call 18; refine (list_ref_any _ _ _ _).mono ?_; rintro e w1 ⟨rfl, hb1⟩
  have HB1 := Lib.hid (bel_step HB.out hb1)
  have hr := row_step HR.out hb1
  clear hb1 HB HR
  have d0 := row_cell hr 0; have d1 := row_cell hr 1; have d2 := row_cell hr 2; have d3 := row_cell hr 3; have d4 := row_cell hr 4
  simp only [List.getElem?_toArray, List.getElem?_cons_zero, List.getElem?_cons_succ] at d0 d1 d2 d3 d4
  have df := fun o => row_frz hr o
  have hlt := row_lt hr
  clear hr
  go_wp2
  refine bodyPost_ret (v := .tuple #[.agg #[.int .i64 4, .int .i64 0, .float .f64 0, .string ⟨#[]⟩, .slice none 0 0], .bool true]) (by simp [results, Try.results8, go_sem, World.cell?_setCell_same, World.cell?_setCell_other, d0, d1, d2, d3, d4]) rfl ⟨_, _, _, _, _, rfl, rep_bare _ 4 1 ok4, below5 HB1.out (Nat.le_refl _) _ _ _ _ _⟩
set_option maxRecDepth 100000 in
set_option maxHeartbeats 2000000 in
theorem rstR (w : World) : Calls Try.prog 8 #[.string { data := #[114, 101, 103, 105, 115, 116, 101, 114] }] w fun e w' => StartP w (bare 0 1) true e w' := by
  have HB := Lib.hid ((Below.refl w.heap.size w).alloc (Nat.le_refl _) (.cells #[.int .i64 0, .int .i64 0, .float .f64 0, .string ⟨#[]⟩, .slice none 0 0] 27))
  have HR := Lib.hid (row_alloc w #[.int .i64 0, .int .i64 0, .float .f64 0, .string ⟨#[]⟩, .slice none 0 0] 27)
  go_enter Try.func8, Try.ntmps8
  go_wp2
  refine bodyPost_ret (v := .tuple #[.agg #[.int .i64 0, .int .i64 0, .float .f64 0, .string ⟨#[]⟩, .slice none 0 0], .bool true]) (by simp [results, Try.results8, go_sem, World.cell?_setCell_same, World.cell?_setCell_other]) rfl ⟨_, _, _, _, _, rfl, rep_bare _ 0 1 ok0, bel_alloc (Below.refl _ _) _⟩
set_option maxRecDepth 100000 in
set_option maxHeartbeats 2000000 in
theorem rstT (w : World) : Calls Try.prog 8 #[.string { data := #[116, 97, 98, 108, 101] }] w fun e w' => StartP w (bare 4 1) true e w' := by
  have HB := Lib.hid ((Below.refl w.heap.size w).alloc (Nat.le_refl _) (.cells #[.int .i64 0, .int .i64 0, .float .f64 0, .string ⟨#[]⟩, .slice none 0 0] 27))
  have HR := Lib.hid (row_alloc w #[.int .i64 0, .int .i64 0, .float .f64 0, .string ⟨#[]⟩, .slice none 0 0] 27)
  go_enter Try.func8, Try.ntmps8
  go_wp2_with fail
  go_at_call 18; refine (list_ref_any _ _ _ _).mono ?_; rintro e w1 ⟨rfl, hb1⟩
  have HB1 := Lib.hid (bel_step HB.out hb1)
  have hr := row_step HR.out hb1
  clear hb1 HB HR
  have d0 := row_cell hr 0; have d1 := row_cell hr 1; have d2 := row_cell hr 2; have d3 := row_cell hr 3; have d4 := row_cell hr 4
  simp only [List.getElem?_toArray, List.getElem?_cons_zero, List.getElem?_cons_succ] at d0 d1 d2 d3 d4
  have df := fun o => row_frz hr o
  have hlt := row_lt hr
  clear hr
  go_wp2
  refine bodyPost_ret (v := .tuple #[.agg #[.int .i64 4, .int .i64 0, .float .f64 0, .string ⟨#[]⟩, .slice none 0 0], .bool true]) (by simp [results, Try.results8, go_sem, World.cell?_setCell_same, World.cell?_setCell_other, d0, d1, d2, d3, d4]) rfl ⟨_, _, _, _, _, rfl, rep_bare _ 4 1 ok4, below5 HB1.out (Nat.le_refl _) _ _ _ _ _⟩
set_option maxRecDepth 100000 in
set_option maxHeartbeats 2000000 in
theorem rstNone (c : ByteArray) (h0 : c ≠ { data := #[99, 111, 117, 110, 116, 101, 114] }) (h1 : c ≠ { data := #[108, 101, 100, 103, 101, 114] }) (h2 : c ≠ { data := #[111, 114, 99, 104] }) (h3 : c ≠ { data := #[113, 117, 101, 117, 101] }) (h4 : c ≠ { data := #[114, 101, 103, 105, 115, 116, 101, 114] }) (h5 : c ≠ { data := #[116, 97, 98, 108, 101] }) (w : World) : Calls Try.prog 8 #[.string c] w fun e w' => StartP w (bare 0 1) false e w' := by
  have t0 := str_ne h0
  have t1 := str_ne h1
  have t2 := str_ne h2
  have t3 := str_ne h3
  have t4 := str_ne h4
  have t5 := str_ne h5
  clear h0 h1 h2 h3 h4 h5
  have HB := Lib.hid ((Below.refl w.heap.size w).alloc (Nat.le_refl _) (.cells #[.int .i64 0, .int .i64 0, .float .f64 0, .string ⟨#[]⟩, .slice none 0 0] 27))
  have HR := Lib.hid (row_alloc w #[.int .i64 0, .int .i64 0, .float .f64 0, .string ⟨#[]⟩, .slice none 0 0] 27)
  go_enter Try.func8, Try.ntmps8
  go_wp2
  refine bodyPost_ret (v := .tuple #[.agg #[.int .i64 0, .int .i64 0, .float .f64 0, .string ⟨#[]⟩, .slice none 0 0], .bool false]) (by simp [results, Try.results8, go_sem, World.cell?_setCell_same, World.cell?_setCell_other]) rfl ⟨_, _, _, _, _, rfl, rep_bare _ 0 1 ok0, bel_alloc (Below.refl _ _) _⟩
theorem start_no (c : ByteArray) (h0 : c ≠ { data := #[99, 111, 117, 110, 116, 101, 114] }) (h1 : c ≠ { data := #[108, 101, 100, 103, 101, 114] }) (h2 : c ≠ { data := #[111, 114, 99, 104] }) (h3 : c ≠ { data := #[113, 117, 101, 117, 101] }) (h4 : c ≠ { data := #[114, 101, 103, 105, 115, 116, 101, 114] }) (h5 : c ≠ { data := #[116, 97, 98, 108, 101] }) : startT c = bare 0 1 := by unfold startT; simp only [h0, h1, h2, h3, h4, h5, if_false]
theorem startb_no (c : ByteArray) (h0 : c ≠ { data := #[99, 111, 117, 110, 116, 101, 114] }) (h1 : c ≠ { data := #[108, 101, 100, 103, 101, 114] }) (h2 : c ≠ { data := #[111, 114, 99, 104] }) (h3 : c ≠ { data := #[113, 117, 101, 117, 101] }) (h4 : c ≠ { data := #[114, 101, 103, 105, 115, 116, 101, 114] }) (h5 : c ≠ { data := #[116, 97, 98, 108, 101] }) : startB c = false := by unfold startB; simp only [h0, h1, h2, h3, h4, h5, decide_false, Bool.or_false]
theorem pstart_any (c : ByteArray) (w : World) : Calls Try.prog 48 #[.string c] w fun e w' => StartP w (startT c) (startB c) e w' := by
  by_cases h0 : c = { data := #[99, 111, 117, 110, 116, 101, 114] }
  · subst h0
    exact pstC w
  by_cases h1 : c = { data := #[108, 101, 100, 103, 101, 114] }
  · subst h1
    exact pstL w
  by_cases h2 : c = { data := #[111, 114, 99, 104] }
  · subst h2
    exact pstO w
  by_cases h3 : c = { data := #[113, 117, 101, 117, 101] }
  · subst h3
    exact pstQ w
  by_cases h4 : c = { data := #[114, 101, 103, 105, 115, 116, 101, 114] }
  · subst h4
    exact pstR w
  by_cases h5 : c = { data := #[116, 97, 98, 108, 101] }
  · subst h5
    exact pstT w
  rw [start_no c h0 h1 h2 h3 h4 h5, startb_no c h0 h1 h2 h3 h4 h5]
  exact pstNone c h0 h1 h2 h3 h4 h5 w
theorem rstart_any (c : ByteArray) (w : World) : Calls Try.prog 8 #[.string c] w fun e w' => StartP w (startT c) (startB c) e w' := by
  by_cases h0 : c = { data := #[99, 111, 117, 110, 116, 101, 114] }
  · subst h0
    exact rstC w
  by_cases h1 : c = { data := #[108, 101, 100, 103, 101, 114] }
  · subst h1
    exact rstL w
  by_cases h2 : c = { data := #[111, 114, 99, 104] }
  · subst h2
    exact rstO w
  by_cases h3 : c = { data := #[113, 117, 101, 117, 101] }
  · subst h3
    exact rstQ w
  by_cases h4 : c = { data := #[114, 101, 103, 105, 115, 116, 101, 114] }
  · subst h4
    exact rstR w
  by_cases h5 : c = { data := #[116, 97, 98, 108, 101] }
  · subst h5
    exact rstT w
  rw [start_no c h0 h1 h2 h3 h4 h5, startb_no c h0 h1 h2 h3 h4 h5]
  exact rstNone c h0 h1 h2 h3 h4 h5 w
end Num
end Go.Proofs.Ytmhogdigkdcnfaa
