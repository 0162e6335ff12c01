/-
  Package choirlaw14: raise.
-/
import Derived.Test.YtgeicgfijnabkaaDoorGa
import Derived.Test.YtgeicgfijnabkaaDoorVBase
import Derived.Defers
import Derived.Recover
import Derived.RegionTactic
namespace Go.Proofs.YtgeicgfijnabkaaDoor
open Go.RowKit
namespace Num
open Ints
set_option linter.unusedSimpArgs false
set_option linter.unusedVariables false
theorem rt_bounds : Tryd.prog.rt.boundsError = 8 := by kernel_rfl
theorem rt_plain : Tryd.prog.rt.plainError = 11 := by kernel_rfl
theorem rt_error : Tryd.prog.rt.errorString = 10 := by kernel_rfl
/-- What the language's own panics with. -/
def Pan (h : Int) (u : TypeId) (pv : Value) : Prop :=
  (h.tmod 5 = 1 ∧ u = 11 ∧ pv = strVal "assignment to entry in nil map") ∨
  (¬ h.tmod 5 = 1 ∧ ((u = 10 ∧ ∃ m, pv = .string m) ∨ (u = 8 ∧ ∃ x y s c, pv = .agg #[.int .i64 x, .int .i64 y, .bool s, .int .u8 (c : Nat)] ∧ c < 8)))
set_option maxRecDepth 100000 in
set_option maxHeartbeats 4000000 in
theorem raise_0 (h : Int) (S : ByteArray) (n : Int) (w : World) (hS : S.size ≤ 40) (hk : (h.tmod 5) = 0) : Calls Tryd.prog 18 #[.int .u8 h, .string S, .int .i64 n] w fun e w' => (∃ u pv, e = .panicked [{ v := .iface u pv, recovered := false }] ∧ Pan h u pv) ∧ Below w.heap.size w w' := by
  obtain ⟨s9, W9, hix, hw9⟩ := index_own (P := Tryd.prog) (w := (w.alloc (.cells #[.int .i64 1, .int .i64 2] 3))) 62 ⟨w.heap.size, 0, none⟩ 2 2 .i64 ((S.size : Int) + 2) (by kernel_rfl) (Or.inr (by omega))
  have hB := bel_alloc (Below.refl w.heap.size w) (.cells #[.int .i64 1, .int .i64 2] 3)
  have H9 := Lib.hid (show Below w.heap.size w W9 by rcases hw9 with rfl | rfl; exact hB; exact Below.drew hB)
  have HP := Lib.hid (show ∀ x y s, Pan h 8 (.agg #[.int .i64 x, .int .i64 y, .bool s, .int .u8 (0 : Nat)]) from fun x y s => Or.inr ⟨by omega, Or.inr ⟨rfl, _, _, _, 0, rfl, by omega⟩⟩)
  clear hw9 hB
  unfold boundsValue at hix
  rw [rt_bounds] at hix
  go_enter Tryd.func18, Tryd.ntmps18
  go_wp2
  exact ⟨rfl, ⟨_, _, rfl, HP.out _ _ _⟩, H9.out⟩
set_option maxRecDepth 100000 in
set_option maxHeartbeats 4000000 in
theorem raise_1 (h : Int) (S : ByteArray) (n : Int) (w : World) (hS : S.size ≤ 40) (hk : (h.tmod 5) = 1) : Calls Tryd.prog 18 #[.int .u8 h, .string S, .int .i64 n] w fun e w' => (∃ u pv, e = .panicked [{ v := .iface u pv, recovered := false }] ∧ Pan h u pv) ∧ Below w.heap.size w w' := by
  have hB := bel_alloc (Below.refl w.heap.size w) (.cells #[.int .i64 1, .int .i64 2] 3)
  have hmu := run_mapUpdate_nil (P := Tryd.prog) (w := (w.alloc (.cells #[.int .i64 1, .int .i64 2] 3))) 63 9 3 (by kernel_rfl) (.string S) (.int .i64 n)
  unfold nilMapPanic at hmu
  rw [rt_plain] at hmu
  have H9 := Lib.hid hB
  have HP := Lib.hid (show Pan h 11 (strVal "assignment to entry in nil map") from Or.inl ⟨by omega, rfl, rfl⟩)
  clear hB
  go_enter Tryd.func18, Tryd.ntmps18
  go_wp2
  exact ⟨rfl, ⟨_, _, rfl, HP.out⟩, H9.out⟩
set_option maxRecDepth 100000 in
set_option maxHeartbeats 4000000 in
theorem raise_2 (h : Int) (S : ByteArray) (n : Int) (w : World) (hS : S.size ≤ 40) (hk : (h.tmod 5) = 2) : Calls Tryd.prog 18 #[.int .u8 h, .string S, .int .i64 n] w fun e w' => (∃ u pv, e = .panicked [{ v := .iface u pv, recovered := false }] ∧ Pan h u pv) ∧ Below w.heap.size w w' := by
  have hB := bel_alloc (Below.refl w.heap.size w) (.cells #[.int .i64 1, .int .i64 2] 3)
  have H9 := Lib.hid hB
  have HP := Lib.hid (show Pan h 10 (strVal "integer divide by zero") from Or.inr ⟨by omega, Or.inl ⟨rfl, _, rfl⟩⟩)
  clear hB
  go_enter Tryd.func18, Tryd.ntmps18
  go_wp2
  exact ⟨rfl, ⟨_, _, rfl, HP.out⟩, H9.out⟩
set_option maxRecDepth 100000 in
set_option maxHeartbeats 4000000 in
theorem raise_3 (h : Int) (S : ByteArray) (n : Int) (w : World) (hS : S.size ≤ 40) (hk : (h.tmod 5) = 3) : Calls Tryd.prog 18 #[.int .u8 h, .string S, .int .i64 n] w fun e w' => (∃ u pv, e = .panicked [{ v := .iface u pv, recovered := false }] ∧ Pan h u pv) ∧ Below w.heap.size w w' := by
  obtain ⟨s9, W9, hix, hw9⟩ := slice_own (P := Tryd.prog) (w := (w.alloc (.cells #[.int .i64 1, .int .i64 2] 3))) 62 (some ⟨w.heap.size, 0, none⟩) 2 2 .i64 ((S.size : Int) + 3) (by kernel_rfl) (Or.inr (by omega))
  have hB := bel_alloc (Below.refl w.heap.size w) (.cells #[.int .i64 1, .int .i64 2] 3)
  have H9 := Lib.hid (show Below w.heap.size w W9 by rcases hw9 with rfl | rfl; exact hB; exact Below.drew hB)
  have HP := Lib.hid (show ∀ x y s, Pan h 8 (.agg #[.int .i64 x, .int .i64 y, .bool s, .int .u8 (3 : Nat)]) from fun x y s => Or.inr ⟨by omega, Or.inr ⟨rfl, _, _, _, 3, rfl, by omega⟩⟩)
  clear hw9 hB
  unfold boundsValue at hix
  rw [rt_bounds] at hix
  go_enter Tryd.func18, Tryd.ntmps18
  go_wp2
  exact ⟨rfl, ⟨_, _, rfl, HP.out _ _ _⟩, H9.out⟩
set_option maxRecDepth 100000 in
set_option maxHeartbeats 4000000 in
theorem raise_4 (h : Int) (S : ByteArray) (n : Int) (w : World) (hS : S.size ≤ 40) (hk : (h.tmod 5) = 4) : Calls Tryd.prog 18 #[.int .u8 h, .string S, .int .i64 n] w fun e w' => (∃ u pv, e = .panicked [{ v := .iface u pv, recovered := false }] ∧ Pan h u pv) ∧ Below w.heap.size w w' := by
  have hB := bel_alloc (Below.refl w.heap.size w) (.cells #[.int .i64 1, .int .i64 2] 3)
  have H9 := Lib.hid hB
  have HP := Lib.hid (show Pan h 10 (strVal "invalid memory address or nil pointer dereference") from Or.inr ⟨by omega, Or.inl ⟨rfl, _, rfl⟩⟩)
  clear hB
  go_enter Tryd.func18, Tryd.ntmps18
  go_wp2
  exact ⟨rfl, ⟨_, _, rfl, HP.out⟩, H9.out⟩
set_option maxRecDepth 100000 in
set_option maxHeartbeats 4000000 in
/-- Whatever it is asked for, it panics. -/
theorem raise_any (h : Int) (S : ByteArray) (n : Int) (w : World) (hS : S.size ≤ 40) (h0 : 0 ≤ h) : Calls Tryd.prog 18 #[.int .u8 h, .string S, .int .i64 n] w fun e w' => (∃ u pv, e = .panicked [{ v := .iface u pv, recovered := false }] ∧ Pan h u pv) ∧ Below w.heap.size w w' := by
  have h1 := Int.tmod_lt_of_pos h (show (0 : Int) < 5 by omega)
  have h2 := Int.tmod_nonneg 5 h0
  have h3 : h.tmod 5 = 0 ∨ h.tmod 5 = 1 ∨ h.tmod 5 = 2 ∨ h.tmod 5 = 3 ∨ h.tmod 5 = 4 := by omega
  rcases h3 with h3 | h3 | h3 | h3 | h3
  · exact raise_0 h S n w hS h3
  · exact raise_1 h S n w hS h3
  · exact raise_2 h S n w hS h3
  · exact raise_3 h S n w hS h3
  · exact raise_4 h S n w hS h3
end Num
end Go.Proofs.YtgeicgfijnabkaaDoor
