/-
  Package counter: Right.
-/
import Derived.Test.YtmhogdigkdcnfaaVDeep
import Derived.Test.YtmhogdigkdcnfaaVMeas
import Derived.Deep.RegionWith
import Derived.RegionTactic
namespace Go.Proofs.Ytmhogdigkdcnfaa
open Go.RowKit
namespace Num
open Ints
set_option linter.unusedSimpArgs false
set_option linter.unusedVariables false
/-- Is a counter's state right? -/
def cntB (n : Nat) (S : VT (n + 2)) : Bool := (S.1 == 4) && (match S.2.2.2.2 with | [A, B] => ((A.1 == 1) && decide (0 ≤ A.2.1)) && (B.1 == 2) | _ => false)
set_option maxRecDepth 100000 in
set_option maxHeartbeats 4000000 in
theorem cright_no4 (K I : Int) (F : Nat) (Z : ByteArray) (p : Option Addr) (l c : Nat) (w : World) (h : (K != 4) = true) : Calls Try.prog 14 #[.agg #[.int .i64 K, .int .i64 I, .float .f64 F, .string Z, .slice p l c]] w fun e w' => e = .returned (.bool false) ∧ Below w.heap.size w w' := by
  have HB := Lib.hid (bel_alloc (Below.refl w.heap.size w) (.cells #[.int .i64 K, .int .i64 I, .float .f64 F, .string Z, .slice p l c] 27))
  go_enter Try.func14, Try.ntmps14
  go_wp2
  go_ret
  exact ⟨rfl, HB.out⟩
set_option maxRecDepth 100000 in
set_option maxHeartbeats 4000000 in
theorem cright_len (I : Int) (F : Nat) (Z : ByteArray) (p : Option Addr) (l c : Nat) (w : World) (h : ((l : Int) != 2) = true) : Calls Try.prog 14 #[.agg #[.int .i64 4, .int .i64 I, .float .f64 F, .string Z, .slice p l c]] w fun e w' => e = .returned (.bool false) ∧ Below w.heap.size w w' := by
  have HB := Lib.hid (bel_alloc (Below.refl w.heap.size w) (.cells #[.int .i64 4, .int .i64 I, .float .f64 F, .string Z, .slice p l c] 27))
  go_enter Try.func14, Try.ntmps14
  go_wp2
  go_ret
  exact ⟨rfl, HB.out⟩
set_option maxRecDepth 100000 in
set_option maxHeartbeats 4000000 in
theorem cright_two (I : Int) (F : Nat) (Z : ByteArray) (b off c : Nat) (K1 I1 : Int) (F1 : Nat) (Z1 : ByteArray) (q1 : Option Addr) (m1 d1 : Nat) (K2 I2 : Int) (F2 : Nat) (Z2 : ByteArray) (q2 : Option Addr) (m2 d2 : Nat) (w : World)
    (c0 : w.cell? ⟨b, off, none⟩ = some (.int .i64 K1)) (c1 : w.cell? ⟨b, off + 1, none⟩ = some (.int .i64 I1)) (c2 : w.cell? ⟨b, off + 2, none⟩ = some (.float .f64 F1)) (c3 : w.cell? ⟨b, off + 3, none⟩ = some (.string Z1)) (c4 : w.cell? ⟨b, off + 4, none⟩ = some (.slice q1 m1 d1))
    (e0 : w.cell? ⟨b, off + 5, none⟩ = some (.int .i64 K2)) (e1 : w.cell? ⟨b, off + 5 + 1, none⟩ = some (.int .i64 I2)) (e2 : w.cell? ⟨b, off + 5 + 2, none⟩ = some (.float .f64 F2)) (e3 : w.cell? ⟨b, off + 5 + 3, none⟩ = some (.string Z2)) (e4 : w.cell? ⟨b, off + 5 + 4, none⟩ = some (.slice q2 m2 d2)) :
    Calls Try.prog 14 #[.agg #[.int .i64 4, .int .i64 I, .float .f64 F, .string Z, .slice (some ⟨b, off, none⟩) 2 c]] w fun e w' => e = .returned (.bool (((K1 == 1) && decide (0 ≤ I1)) && (K2 == 2))) ∧ Below w.heap.size w w' := by
  have hlt : b < w.heap.size := cell_lt c0
  have hne : w.heap.size ≠ b := by omega
  have hne1 : w.heap.size + 1 ≠ b := by omega
  have hne2 : w.heap.size + 1 + 1 ≠ b := by omega
  have hl1 : b < w.heap.size + 1 := by omega
  have hl2 : b < w.heap.size + 1 + 1 := by omega
  go_enter Try.func14, Try.ntmps14
  go_wp2
  go_region
  all_goals go_wp2
  all_goals clear c0 c1 c2 c3 c4 e0 e1 e2 e3 e4 hlt hne hne1 hne2 hl1 hl2
  all_goals go_ret
  all_goals refine ⟨?_, Below.drew (bel_alloc (bel_alloc (bel_alloc (Below.refl w.heap.size w) _) _) _)⟩
  all_goals first
    | rfl
    | (simp [*]; done)
    | (have h9 : ¬ 0 ≤ I1 := by omega
       simp [*])
theorem cright_any (n : Nat) (v : Value) (S : VT (n + 2)) (w : World) (hr : Rep w (n + 2) v S) : Calls Try.prog 14 #[v] w fun e w' => e = .returned (.bool (cntB n S)) ∧ Below w.heap.size w w' := by
  obtain ⟨K, I, F, Z, L⟩ := S
  obtain ⟨p, l, c, rfl, _, _, _, _, hl, _, _, hel⟩ := hr
  by_cases hk : K = 4
  · obtain rfl : K = 4 := hk
    by_cases h2 : l = 2
    · obtain rfl : l = 2 := h2
      obtain ⟨A, B, hL⟩ : ∃ A B, L = [A, B] := by
        match L, hl with
        | [a, b], _ => exact ⟨a, b, rfl⟩
      obtain rfl : L = [A, B] := hL
      obtain ⟨b, off, hp, hi⟩ := hel (by omega)
      obtain rfl : p = some ⟨b, off, none⟩ := hp
      obtain ⟨v0, v1, v2, v3, v4, c0, c1, c2, c3, c4, hra⟩ := hi 0 (by show 0 < [A, B].length; simp)
      obtain ⟨u0, u1, u2, u3, u4, e0, e1, e2, e3, e4, hrb⟩ := hi 1 (by show 1 < [A, B].length; simp)
      obtain ⟨q1, m1, d1, hv, _⟩ := hra
      obtain ⟨q2, m2, d2, hu, _⟩ := hrb
      injection hv with hv
      injection hu with hu
      simp only [Array.mk.injEq, List.cons.injEq, and_true] at hv hu
      obtain ⟨rfl, rfl, rfl, rfl, rfl⟩ := hv
      obtain ⟨rfl, rfl, rfl, rfl, rfl⟩ := hu
      simp only [Nat.zero_mul, Nat.one_mul, Nat.add_zero] at c0 c1 c2 c3 c4 e0 e1 e2 e3 e4
      exact cright_two I F Z b off c _ _ _ _ _ _ _ _ _ _ _ _ _ _ w c0 c1 c2 c3 c4 e0 e1 e2 e3 e4
    · have hf : cntB n (4, I, F, Z, L) = false := by
        unfold cntB
        match L, hl with
        | [], _ => rfl
        | [_], _ => rfl
        | [_, _], h => exact absurd h.symm h2
        | _ :: _ :: _ :: _, _ => rfl
      rw [hf]
      exact cright_len I F Z p l c w (by rw [bne_iff_ne]; omega)
  · have hf : cntB n (K, I, F, Z, L) = false := by
      unfold cntB
      have : (K == 4) = false := by rw [beq_eq_false_iff_ne]; exact hk
      show ((K == 4) && _) = false
      rw [this]
      rfl
    rw [hf]
    exact cright_no4 K I F Z p l c w (by rw [bne_iff_ne]; exact hk)
end Num
end Go.Proofs.Ytmhogdigkdcnfaa
