/-
  Package value's measured, Check, Size, walkable, of values of at most a thousand parts.
-/
import Derived.Test.YtbfnghbfilahnaaVSurm
namespace Go.Proofs.Ytbfnghbfilahnaa
open Go.RowKit
namespace Num
open Ints
set_option linter.unusedSimpArgs false
set_option linter.unusedVariables false
def checkM (q : Me) : Int := if q.1 = true then 31 else if (q.2.1 || decide (8 < q.2.2.1) || decide (4096 < q.2.2.2)) = true then 22 else 0
set_option maxHeartbeats 2000000 in
theorem check_any (n : Nat) (K I : Int) (F : Nat) (S : ByteArray) (p : Option Addr) (l c : Nat) (T : VT n) (w : World) (hr : Rep w n (.agg #[.int .i64 K, .int .i64 I, .float .f64 F, .string S, .slice p l c]) T) (hd : deepT n T 64 = false) (hp : partsT n T ≤ 1000) : Calls Try.prog 23 #[.agg #[.int .i64 K, .int .i64 I, .float .f64 F, .string S, .slice p l c]] w fun e w' => e = .returned (.int .i64 (checkM (measT n T))) ∧ Below w.heap.size w w' := by
  have HR := Lib.hid (rep_keep ((Below.refl w.heap.size w).alloc (Nat.le_refl _) (.cells #[.int .i64 K, .int .i64 I, .float .f64 F, .string S, .slice p l c] 39)) _ _ _ hr)
  have HB := Lib.hid ((Below.refl w.heap.size w).alloc (Nat.le_refl _) (.cells #[.int .i64 K, .int .i64 I, .float .f64 F, .string S, .slice p l c] 39))
  have HD := Lib.hid hd
  have HP := Lib.hid hp
  clear hr hd hp
  obtain ⟨⟨q1, q2, q3, q4⟩, hq⟩ : ∃ q, q = measT n T := ⟨_, rfl⟩
  have HQ := Lib.hid hq.symm
  rw [← hq]
  clear hq
  cases h1 : q1
  · cases h2 : q2
    · by_cases h3 : 8 < q3
      · subst_vars
        have HX := Lib.hid (show Ending.returned (.int .i64 22) = .returned (.int .i64 (checkM (false, false, q3, q4))) by simp [checkM, h3])
        go_enter Try.func23, Try.ntmps23
        go_wp2_with fail
        go_at_call 46; refine (measured_any n _ T _ HR.out HD.out HP.out).mono ?_; rintro e w1 ⟨rfl, hb⟩
        have HB1 := Lib.hid (bel_step HB.out hb)
        rw [HQ.out]
        rw [show meV (false, false, q3, q4) = Value.agg #[.bool false, .bool false, .int .i64 q3, .int .i64 q4] from rfl]
        clear hb
        go_wp2
        go_ret
        exact ⟨HX.out, bel_alloc HB1.out _⟩
      · by_cases h4 : 4096 < q4
        · subst_vars
          have HX := Lib.hid (show Ending.returned (.int .i64 22) = .returned (.int .i64 (checkM (false, false, q3, q4))) by simp [checkM, h3, h4])
          go_enter Try.func23, Try.ntmps23
          go_wp2_with fail
          go_at_call 46; refine (measured_any n _ T _ HR.out HD.out HP.out).mono ?_; rintro e w1 ⟨rfl, hb⟩
          have HB1 := Lib.hid (bel_step HB.out hb)
          rw [HQ.out]
          rw [show meV (false, false, q3, q4) = Value.agg #[.bool false, .bool false, .int .i64 q3, .int .i64 q4] from rfl]
          clear hb
          go_wp2
          go_ret
          exact ⟨HX.out, bel_alloc HB1.out _⟩
        · subst_vars
          have HX := Lib.hid (show Ending.returned (.int .i64 0) = .returned (.int .i64 (checkM (false, false, q3, q4))) by simp [checkM, h3, h4])
          go_enter Try.func23, Try.ntmps23
          go_wp2_with fail
          go_at_call 46; refine (measured_any n _ T _ HR.out HD.out HP.out).mono ?_; rintro e w1 ⟨rfl, hb⟩
          have HB1 := Lib.hid (bel_step HB.out hb)
          rw [HQ.out]
          rw [show meV (false, false, q3, q4) = Value.agg #[.bool false, .bool false, .int .i64 q3, .int .i64 q4] from rfl]
          clear hb
          go_wp2
          go_ret
          exact ⟨HX.out, bel_alloc HB1.out _⟩
    · subst_vars
      have HX := Lib.hid (show Ending.returned (.int .i64 22) = .returned (.int .i64 (checkM (false, true, q3, q4))) by simp [checkM])
      go_enter Try.func23, Try.ntmps23
      go_wp2_with fail
      go_at_call 46; refine (measured_any n _ T _ HR.out HD.out HP.out).mono ?_; rintro e w1 ⟨rfl, hb⟩
      have HB1 := Lib.hid (bel_step HB.out hb)
      rw [HQ.out]
      rw [show meV (false, true, q3, q4) = Value.agg #[.bool false, .bool true, .int .i64 q3, .int .i64 q4] from rfl]
      clear hb
      go_wp2
      go_ret
      exact ⟨HX.out, bel_alloc HB1.out _⟩
  · subst_vars
    have HX := Lib.hid (show Ending.returned (.int .i64 31) = .returned (.int .i64 (checkM (true, q2, q3, q4))) by simp [checkM])
    go_enter Try.func23, Try.ntmps23
    go_wp2_with fail
    go_at_call 46; refine (measured_any n _ T _ HR.out HD.out HP.out).mono ?_; rintro e w1 ⟨rfl, hb⟩
    have HB1 := Lib.hid (bel_step HB.out hb)
    rw [HQ.out]
    rw [show meV (true, q2, q3, q4) = Value.agg #[.bool true, .bool q2, .int .i64 q3, .int .i64 q4] from rfl]
    clear hb
    go_wp2
    go_ret
    exact ⟨HX.out, bel_alloc HB1.out _⟩
end Num
end Go.Proofs.Ytbfnghbfilahnaa
