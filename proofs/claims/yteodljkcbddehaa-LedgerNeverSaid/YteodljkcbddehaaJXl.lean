/-
  The law's method of a number.
-/
import Derived.Test.YteodljkcbddehaaJXa
import Derived.Test.YteodljkcbddehaaJHFm
namespace Go.Proofs.Yteodljkcbddehaa
open Go.RowKit
namespace Num
open Ints
set_option linter.unusedSimpArgs false
set_option linter.unusedVariables false
def mthN (k : Nat) : ByteArray := if k = 0 then ⟨#[98, 97, 108, 97, 110, 99, 101]⟩ else if k = 1 then ⟨#[99, 108, 111, 115, 101]⟩ else if k = 2 then ⟨#[100, 101, 112, 111, 115, 105, 116]⟩ else if k = 3 then ⟨#[110, 97, 109, 101, 115]⟩ else if k = 4 then ⟨#[111, 112, 101, 110]⟩ else if k = 5 then ⟨#[116, 111, 116, 97, 108]⟩ else if k = 6 then ⟨#[116, 114, 97, 110, 115, 102, 101, 114]⟩ else ⟨#[110, 111, 112, 101]⟩
set_option maxRecDepth 100000 in
set_option maxHeartbeats 4000000 in
theorem method_any (k : Nat) (hk : k < 256) (w : World) : Calls Try.prog 8 #[.int .u8 k] w fun e w' => e = .returned (.string (mthN (k % 8))) ∧ Below w.heap.size w w' := by
  have HMT := Lib.hid (show ∀ W, Calls Try.prog 19 #[.string { data := #[108, 101, 100, 103, 101, 114] }] W fun e w' => ∃ p l d, e = .returned (.slice p l d) ∧ StrL w' p l d [{ data := #[98, 97, 108, 97, 110, 99, 101] }, { data := #[99, 108, 111, 115, 101] }, { data := #[100, 101, 112, 111, 115, 105, 116] }, { data := #[110, 97, 109, 101, 115] }, { data := #[111, 112, 101, 110] }, { data := #[116, 111, 116, 97, 108] }, { data := #[116, 114, 97, 110, 115, 102, 101, 114] }] ∧ Below W.heap.size W w' from fun W => rmethods_any _ (by decide) W)
  have hwk : IntKind.i64.wrap (k : Int) = (k : Int) := by rw [IntKind.wrap_i64]; omega
  obtain ⟨j, hj⟩ : ∃ j, k % 8 = j := ⟨_, rfl⟩
  have hj8 : j < 8 := by omega
  have hm1 : (k : Int) % 8 = (j : Int) := by rw [← hj]; exact (Int.natCast_emod k 8).symm
  have hm2 : (k : Int).tmod 8 = (j : Int) := by rw [Int.tmod_eq_emod_of_nonneg (by omega)]; exact hm1
  rw [hj]
  clear hj
  go_enter Try.func8, Try.ntmps8
  go_wp2_with fail
  go_at_call 19; refine (HMT.out _).mono ?_; rintro e w1 ⟨p, l, d, rfl, hs, hb1⟩
  have HB1 := Lib.hid hb1
  obtain rfl : l = 7 := hs.1.symm
  obtain ⟨b, off, rfl, hc⟩ := hs.2.2.2 (by omega)
  have c0 := hc 0 (by decide); have c1 := hc 1 (by decide); have c2 := hc 2 (by decide); have c3 := hc 3 (by decide); have c4 := hc 4 (by decide); have c5 := hc 5 (by decide); have c6 := hc 6 (by decide)
  have hld : (7 : Nat) ≤ d := hs.2.1
  simp only [List.getElem_cons_zero, List.getElem_cons_succ, Nat.add_zero] at c0 c1 c2 c3 c4 c5 c6
  clear hb1 hs hc HMT
  have hjc : j = 0 ∨ j = 1 ∨ j = 2 ∨ j = 3 ∨ j = 4 ∨ j = 5 ∨ j = 6 ∨ j = 7 := by omega
  rcases hjc with rfl | rfl | rfl | rfl | rfl | rfl | rfl | rfl
  all_goals
    (simp only [Int.cast_ofNat_Int] at hm1 hm2)
    go_wp2
    go_ret
    exact ⟨rfl, HB1.out⟩
end Num
end Go.Proofs.Yteodljkcbddehaa
