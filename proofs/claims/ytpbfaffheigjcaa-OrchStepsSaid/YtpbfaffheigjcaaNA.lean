/-
  Package num's leaves that Add reaches.
-/
import Derived.Test.YtpbfaffheigjcaaVBits
import Derived.Test.YtpbfaffheigjcaaSG
import Derived.Deep.RegionWith
import Derived.Deep.QuietTactic
import Derived.BigQuiet
namespace Go.Proofs.Ytpbfaffheigjcaa
open Go.RowKit
namespace Num
open Ints
set_option linter.unusedSimpArgs false
set_option linter.unusedVariables false
theorem addInts_any (x y : Int) (hx : okI x) (hy : okI y) (w : World) : Calls Try.prog 101 #[.int .i64 x, .int .i64 y] w fun e w' => Tells e (intR 0 x y) ∧ w = w' := by
  have hf : Tells (.returned (.tuple #[.int .i64 (wrap64 (x + y)), .bool (decide (x < wrap64 (x + y)) == decide (0 < y))])) (intR 0 x y) := tells_mk (add_ok x y hx hy) wrap_ok
  have H := Lib.hid hf
  clear hf hx hy
  go_enter Try.func101, Try.ntmps101
  go_wp2
  go_ret2
  exact ⟨H.out, rfl⟩
theorem addFloats_any (x y : Nat) (w : World) : Calls Try.prog 102 #[.float .f64 x, .float .f64 y] w fun e w' => ∃ r n, e = .returned (.float .f64 r) ∧ Flo.canon r = Flo.cop .add x y ∧ r < 2 ^ 64 ∧ w' = w.drewN n := by
  cases h : floatBits .add .f64 x y with
  | some r =>
    have hop : ∀ t w, (binOp .add t (.float .f64 x) (.float .f64 y)).run Try.prog w = .ok (.float .f64 r) w := fun t w => run_float_arith w .add t .f64 x y r h
    have H : Hid _ := Lib.hid (show Flo.canon r = Flo.cop .add x y ∧ r < 2 ^ 64 from ⟨(Flo.cop_some h).symm, Flo.floatBits_lt h⟩)
    clear h
    go_enter Try.func102, Try.ntmps102
    go_wp2
    go_ret
    exact ⟨r, 0, rfl, H.out.1, H.out.2, rfl⟩
  | none =>
    have hop : ∀ t w, (binOp .add t (.float .f64 x) (.float .f64 y)).run Try.prog w = .ok (.float .f64 (Flo.drawn x y (w.tape w.drawn (.nanBits .f64 x y)))) w.drew := fun t w => Flo.run_none w .add t x y (by simp) h
    have H : Hid _ := Lib.hid (Flo.cop_none h)
    clear h
    go_enter Try.func102, Try.ntmps102
    go_wp2
    go_ret
    exact ⟨_, 1, rfl, by rw [Flo.canon_drawn, H.out], Flo.drawn_lt _ _ _, rfl⟩
theorem ofInt_any (n : Int) (w : World) : Calls Try.prog 112 #[.int .i64 n] w fun e w' => e = .returned (.agg #[.int .i64 1, .int .i64 n, .float .f64 0, .string ⟨#[]⟩, .slice none 0 0]) ∧ Below w.heap.size w w' := by
  go_enter Try.func112, Try.ntmps112
  go_wp2
  exact bodyPost_ret (v := .agg #[.int .i64 1, .int .i64 n, .float .f64 0, .string ⟨#[]⟩, .slice none 0 0]) (by simp [results, Try.results112, go_sem]) rfl ⟨rfl, ((Below.refl _ _).alloc (Nat.le_refl _) _)⟩
theorem ofFloat_any (x : Nat) (w : World) : Calls Try.prog 110 #[.float .f64 x] w fun e w' => e = .returned (.agg #[.int .i64 2, .int .i64 0, .float .f64 (Flo.canon x), .string ⟨#[]⟩, .slice none 0 0]) ∧ Below w.heap.size w w' := by
  go_enter Try.func110, Try.ntmps110
  go_wp2_with (first | (go_at_call 81; refine (canon_any _ _).mono ?_; rintro e w' ⟨rfl, rfl⟩))
  exact bodyPost_ret (v := .agg #[.int .i64 2, .int .i64 0, .float .f64 (Flo.canon x), .string ⟨#[]⟩, .slice none 0 0]) (by simp [results, Try.results110, go_sem]) rfl ⟨rfl, ((Below.refl _ _).alloc (Nat.le_refl _) _)⟩
theorem isNumber_any (K I : Int) (F : Nat) (S : ByteArray) (p : Option Addr) (l c : Nat) (w : World) : Calls Try.prog 96 #[.agg #[.int .i64 K, .int .i64 I, .float .f64 F, .string S, .slice p l c]] w fun e w' => e = .returned (.bool (isNum K)) ∧ Below w.heap.size w w' := by
  cases h1 : (K == 1)
  · cases h2 : (K == 2)
    · have H : Hid _ := Lib.hid (show Ending.returned (.bool false) = .returned (.bool (isNum K)) by simp [isNum, h1, h2])
      go_enter Try.func96, Try.ntmps96
      go_wp2
      go_ret
      exact ⟨H.out, ((Below.refl _ _).alloc (Nat.le_refl _) _)⟩
    · have H : Hid _ := Lib.hid (show Ending.returned (.bool true) = .returned (.bool (isNum K)) by simp [isNum, h1, h2])
      go_enter Try.func96, Try.ntmps96
      go_wp2
      go_ret
      exact ⟨H.out, ((Below.refl _ _).alloc (Nat.le_refl _) _)⟩
  · have H : Hid _ := Lib.hid (show Ending.returned (.bool true) = .returned (.bool (isNum K)) by simp [isNum, h1])
    go_enter Try.func96, Try.ntmps96
    go_wp2
    go_ret
    exact ⟨H.out, ((Below.refl _ _).alloc (Nat.le_refl _) _)⟩
theorem toFloat_any (K I : Int) (F : Nat) (S : ByteArray) (p : Option Addr) (l c : Nat) (w : World) : Calls Try.prog 111 #[.agg #[.int .i64 K, .int .i64 I, .float .f64 F, .string S, .slice p l c]] w fun e w' => e = .returned (.float .f64 (asF K I F)) ∧ Below w.heap.size w w' := by
  cases h1 : (K == 1)
  · have H : Hid _ := Lib.hid (show Ending.returned (.float .f64 F) = .returned (.float .f64 (asF K I F)) by simp [asF, h1])
    go_enter Try.func111, Try.ntmps111
    go_wp2
    go_ret
    exact ⟨H.out, ((Below.refl _ _).alloc (Nat.le_refl _) _)⟩
  · have H : Hid _ := Lib.hid (show Ending.returned (.float .f64 (floatOfInt .f64 I)) = .returned (.float .f64 (asF K I F)) by simp [asF, h1])
    go_enter Try.func111, Try.ntmps111
    go_wp2
    go_ret
    exact ⟨H.out, ((Below.refl _ _).alloc (Nat.le_refl _) _)⟩
def bop (o : Nat) : BinOp := if o = 0 then .add else if o = 1 then .sub else if o = 2 then .mul else .quo
/-- What an operation comes to: kind, Int, Float, error. -/
def opV (o : Nat) (K1 I1 : Int) (F1 : Nat) (K2 I2 : Int) (F2 : Nat) : Int × Int × Nat × Int :=
  if (isNum K1 && isNum K2) = false then (0, 0, 0, 31)
  else if (K1 == 2 || K2 == 2) = true then (2, 0, Flo.cop (bop o) (asF K1 I1 F1) (asF K2 I2 F2), 0)
  else match intR o I1 I2 with | some n => (1, n, 0, 0) | none => (0, 0, 0, 35)
/-- Three boxes of five cells, behind calls that keep them: what they hold. -/
theorem three (t : TypeId) (a0 a1 a2 a3 a4 b0 b1 b2 b3 b4 r0 r1 r2 r3 r4 : Value) {w w1 w2 : World}
    (h1 : Below (((w.alloc (.cells #[a0, a1, a2, a3, a4] t)).alloc (.cells #[b0, b1, b2, b3, b4] t)).alloc (.cells #[r0, r1, r2, r3, r4] t)).heap.size (((w.alloc (.cells #[a0, a1, a2, a3, a4] t)).alloc (.cells #[b0, b1, b2, b3, b4] t)).alloc (.cells #[r0, r1, r2, r3, r4] t)) w1)
    (h2 : Below w1.heap.size w1 w2) :
    Below w.heap.size w w2 ∧ w.heap.size + 1 + 1 < w2.heap.size ∧ w.heap.size + 1 < w2.heap.size ∧ w.heap.size < w2.heap.size ∧
    w2.cell? ⟨w.heap.size, 0, none⟩ = some a0 ∧
    w2.cell? ⟨w.heap.size, 1, none⟩ = some a1 ∧
    w2.cell? ⟨w.heap.size, 2, none⟩ = some a2 ∧
    w2.cell? ⟨w.heap.size, 3, none⟩ = some a3 ∧
    w2.cell? ⟨w.heap.size, 4, none⟩ = some a4 ∧
    w2.cell? ⟨w.heap.size + 1, 0, none⟩ = some b0 ∧
    w2.cell? ⟨w.heap.size + 1, 1, none⟩ = some b1 ∧
    w2.cell? ⟨w.heap.size + 1, 2, none⟩ = some b2 ∧
    w2.cell? ⟨w.heap.size + 1, 3, none⟩ = some b3 ∧
    w2.cell? ⟨w.heap.size + 1, 4, none⟩ = some b4 ∧
    w2.cell? ⟨w.heap.size + 1 + 1, 0, none⟩ = some r0 ∧
    w2.cell? ⟨w.heap.size + 1 + 1, 1, none⟩ = some r1 ∧
    w2.cell? ⟨w.heap.size + 1 + 1, 2, none⟩ = some r2 ∧
    w2.cell? ⟨w.heap.size + 1 + 1, 3, none⟩ = some r3 ∧
    w2.cell? ⟨w.heap.size + 1 + 1, 4, none⟩ = some r4 ∧
    (∀ o, w2.frozen? ⟨w.heap.size, o, none⟩ = false) ∧
    (∀ o, w2.frozen? ⟨w.heap.size + 1, o, none⟩ = false) ∧
    (∀ o, w2.frozen? ⟨w.heap.size + 1 + 1, o, none⟩ = false) := by
  obtain ⟨c1, f1⟩ := bcell h1
  obtain ⟨c2, f2⟩ := bcell h2
  have zs : (((w.alloc (.cells #[a0, a1, a2, a3, a4] t)).alloc (.cells #[b0, b1, b2, b3, b4] t)).alloc (.cells #[r0, r1, r2, r3, r4] t)).heap.size = w.heap.size + 3 := by simp
  have z1 : w.heap.size + 1 + 1 < w1.heap.size := by have := h1.size; simp at this; omega
  have z2 : w.heap.size + 1 + 1 < w2.heap.size := by have := h2.size; omega
  refine ⟨((below3 _ _ _ _).trans (h1.mono (by simp; omega))).trans (h2.mono (by omega)), z2, by omega, by omega, ?_, ?_, ?_, ?_, ?_, ?_, ?_, ?_, ?_, ?_, ?_, ?_, ?_, ?_, ?_, ?_, ?_, ?_⟩
  all_goals first
    | (rw [c2 _ _ (by omega), c1 _ _ (by omega)]; simp [go_sem]; done)
    | (intro o; rw [f2 _ _ (by omega), f1 _ _ (by omega)]; simp [go_sem]; done)
theorem opV_not {o : Nat} {K1 I1 : Int} {F1 : Nat} {K2 I2 : Int} {F2 : Nat} (h : (isNum K1 && isNum K2) = false) : opV o K1 I1 F1 K2 I2 F2 = (0, 0, 0, 31) := by unfold opV; rw [if_pos h]
theorem opV_flo {o : Nat} {K1 I1 : Int} {F1 : Nat} {K2 I2 : Int} {F2 : Nat} (h : (isNum K1 && isNum K2) = true) (hk : (K1 == 2 || K2 == 2) = true) : opV o K1 I1 F1 K2 I2 F2 = (2, 0, Flo.cop (bop o) (asF K1 I1 F1) (asF K2 I2 F2), 0) := by
  unfold opV; rw [if_neg (by rw [h]; simp), if_pos hk]
theorem opV_int {o : Nat} {K1 I1 : Int} {F1 : Nat} {K2 I2 : Int} {F2 : Nat} (h : (isNum K1 && isNum K2) = true) (hk : (K1 == 2 || K2 == 2) = false) {n : Int} (hn : intR o I1 I2 = some n) : opV o K1 I1 F1 K2 I2 F2 = (1, n, 0, 0) := by
  unfold opV; rw [if_neg (by rw [h]; simp), if_neg (by rw [hk]; simp), hn]
theorem opV_none {o : Nat} {K1 I1 : Int} {F1 : Nat} {K2 I2 : Int} {F2 : Nat} (h : (isNum K1 && isNum K2) = true) (hk : (K1 == 2 || K2 == 2) = false) (hn : intR o I1 I2 = none) : opV o K1 I1 F1 K2 I2 F2 = (0, 0, 0, 35) := by
  unfold opV; rw [if_neg (by rw [h]; simp), if_neg (by rw [hk]; simp), hn]
end Num
end Go.Proofs.Ytpbfaffheigjcaa
