/-
  ArgsTell at every input.
-/
import Derived.Test.YthmgmfmecfmeeaaHK
namespace Go.Proofs.Ythmgmfmecfmeeaa
open Go.RowKit
namespace Num
open Ints
set_option linter.unusedSimpArgs false
set_option linter.unusedVariables false
theorem nat_b {a : Int} (h : (Lit.int .u8 a).wf = true) : ∃ n : Nat, a = (n : Int) ∧ n < 256 := by
  have h3 : IntKind.u8.bits = 8 := rfl
  simp only [Lit.wf, decide_eq_true_eq, IntKind.min, IntKind.max] at h
  simp [IntKind.signed, h3] at h
  exact ⟨a.toNat, by omega, by omega⟩
set_option maxRecDepth 100000 in
set_option maxHeartbeats 2000000 in
theorem tell_long (k : Nat) (s nm : ByteArray) (w : World) (h : ¬ (s.size ≤ 40 ∧ nm.size ≤ 40)) : Calls Try.prog 3 #[.int .u8 k, .string s, .string nm] w fun e w' => e = .returned (.bool true) ∧ Below w.heap.size w w' := by
  by_cases hs : s.size ≤ 40
  · have hn : ¬ nm.size ≤ 40 := fun e => h ⟨hs, e⟩
    have g1 : ¬ (40 : Int) < (s.size : Int) := by omega
    have g2 : (40 : Int) < (nm.size : Int) := by omega
    clear h
    go_enter Try.func3, Try.ntmps3
    go_wp2_with fail
    go_at_call 7; refine (known7 _).mono ?_; rintro e w1 ⟨rfl, hb1⟩
    have HB1 := Lib.hid hb1
    clear hb1
    go_wp2
    go_ret
    exact ⟨rfl, HB1.out⟩
  · have g1 : (40 : Int) < (s.size : Int) := by omega
    clear h
    go_enter Try.func3, Try.ntmps3
    go_wp2_with fail
    go_at_call 7; refine (known7 _).mono ?_; rintro e w1 ⟨rfl, hb1⟩
    have HB1 := Lib.hid hb1
    clear hb1
    go_wp2
    go_ret
    exact ⟨rfl, HB1.out⟩
theorem tell_law (a : Int) (ha : (Lit.int .u8 a).wf = true) (s : ByteArray) (hs : s.size ≤ maxLen) (nm : ByteArray) (hn : nm.size ≤ maxLen) (W : World) :
    Calls Try.prog 3 #[.int .u8 a, .string s, .string nm] W fun e w' => e = .returned (.bool true) ∧ Below W.heap.size W w' := by
  obtain ⟨k, rfl, hk⟩ := nat_b ha
  by_cases h : s.size ≤ 40 ∧ nm.size ≤ 40
  · exact tell_in k s nm W hk h.1 h.2
  · exact tell_long k s nm W h
end Num
end Go.Proofs.Ythmgmfmecfmeeaa
