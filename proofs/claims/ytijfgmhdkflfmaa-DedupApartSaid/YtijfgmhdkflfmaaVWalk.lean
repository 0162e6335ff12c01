/-
  Package value's walkable.
-/
import Derived.Test.YtijfgmhdkflfmaaVSurm
namespace Go.Proofs.Ytijfgmhdkflfmaa
open Go.RowKit
namespace Num
open Ints
set_option linter.unusedSimpArgs false
set_option linter.unusedVariables false
def walkM (q : Me) : Bool := decide (q.2.2.1 ≤ 64) && decide (q.2.2.2 ≤ 2147483647)
set_option maxHeartbeats 2000000 in
theorem walkable_any (n : Nat) (K I : Int) (F : Nat) (S : ByteArray) (p : Option Addr) (l c : Nat) (T : VT n) (w : World) (hr : Rep w n (.agg #[.int .i64 K, .int .i64 I, .float .f64 F, .string S, .slice p l c]) T) (hd : deepT n T 64 = false) (hp : partsT n T ≤ 1000) : Calls Try.prog 44 #[.agg #[.int .i64 K, .int .i64 I, .float .f64 F, .string S, .slice p l c]] w fun e w' => e = .returned (.bool (walkM (measT n T))) ∧ Below w.heap.size w w' := by
  have HR := Lib.hid (rep_keep ((Below.refl w.heap.size w).alloc (Nat.le_refl _) (.cells #[.int .i64 K, .int .i64 I, .float .f64 F, .string S, .slice p l c] 33)) _ _ _ hr)
  have HB := Lib.hid ((Below.refl w.heap.size w).alloc (Nat.le_refl _) (.cells #[.int .i64 K, .int .i64 I, .float .f64 F, .string S, .slice p l c] 33))
  have HD := Lib.hid hd
  have HP := Lib.hid hp
  clear hr hd hp
  obtain ⟨⟨q1, q2, q3, q4⟩, hq⟩ : ∃ q, q = measT n T := ⟨_, rfl⟩
  have HQ := Lib.hid hq.symm
  rw [← hq]
  clear hq
  by_cases h3 : q3 ≤ 64
  · have HX := Lib.hid (show Ending.returned (.bool (decide (q4 ≤ 2147483647))) = .returned (.bool (walkM (q1, q2, q3, q4))) by simp [walkM, h3])
    go_enter Try.func44, Try.ntmps44
    go_wp2_with fail
    go_at_call 63; refine (measured_any n _ T _ HR.out HD.out HP.out).mono ?_; rintro e w1 ⟨rfl, hb⟩
    have HB1 := Lib.hid (bel_step HB.out hb)
    rw [HQ.out]
    rw [show meV (q1, q2, q3, q4) = Value.agg #[.bool q1, .bool q2, .int .i64 q3, .int .i64 q4] from rfl]
    clear hb
    go_wp2
    go_ret
    exact ⟨HX.out, bel_alloc HB1.out _⟩
  · have HX := Lib.hid (show Ending.returned (.bool false) = .returned (.bool (walkM (q1, q2, q3, q4))) by simp [walkM, h3])
    go_enter Try.func44, Try.ntmps44
    go_wp2_with fail
    go_at_call 63; refine (measured_any n _ T _ HR.out HD.out HP.out).mono ?_; rintro e w1 ⟨rfl, hb⟩
    have HB1 := Lib.hid (bel_step HB.out hb)
    rw [HQ.out]
    rw [show meV (q1, q2, q3, q4) = Value.agg #[.bool q1, .bool q2, .int .i64 q3, .int .i64 q4] from rfl]
    clear hb
    go_wp2
    go_ret
    exact ⟨HX.out, bel_alloc HB1.out _⟩
end Num
end Go.Proofs.Ytijfgmhdkflfmaa
