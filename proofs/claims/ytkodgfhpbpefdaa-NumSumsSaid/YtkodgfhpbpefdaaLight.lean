/-
  Light and Lights: which values may be asked.
-/
import Derived.Test.YtkodgfhpbpefdaaDeep
namespace Go.Proofs.Ytkodgfhpbpefdaa
open Go.RowKit
namespace Num
open Ints
set_option linter.unusedSimpArgs false
set_option linter.unusedVariables false
theorem light_any (n : Nat) (v : Value) (T : VT n) (w : World) (hr : Rep w n v T) : Calls Try.prog 11 #[v] w fun e w' => e = .returned (.bool (lightT n T)) ∧ Below w.heap.size w w' := by
  have HR := Lib.hid hr
  cases n with
  | zero => exact hr.elim
  | succ n =>
    obtain ⟨K, I, F, S, L⟩ := T
    obtain ⟨p, l, c, rfl, _, _, _, _, _⟩ := hr
    have R1 := Lib.hid (rep_keep ((Below.refl w.heap.size w).alloc (Nat.le_refl _) (.cells #[.int .i64 K, .int .i64 I, .float .f64 F, .string S, .slice p l c] 25)) _ _ _ HR.out)
    cases hd : deepT (n + 1) (K, I, F, S, L) 20
    · have H := Lib.hid (show Ending.returned (.bool (decide (sizeT (n + 1) (K, I, F, S, L) ≤ 6000))) = .returned (.bool (lightT (n + 1) (K, I, F, S, L))) by unfold lightT; rw [hd]; rfl)
      go_enter Try.func11, Try.ntmps11
      go_wp2_with fail
      go_at_call 33; refine (deep_any _ _ _ 20 (by omega) _ R1.out).mono ?_; rintro e w1 ⟨rfl, hb1⟩
      have RS := row_step (row_alloc w #[.int .i64 K, .int .i64 I, .float .f64 F, .string S, .slice p l c] 25) hb1
      have c0 := row_cell RS 0
      have c1 := row_cell RS 1
      have c2 := row_cell RS 2
      have c3 := row_cell RS 3
      have c4 := row_cell RS 4
      simp only [List.getElem?_toArray, List.getElem?_cons_zero, List.getElem?_cons_succ] at c0 c1 c2 c3 c4
      have R2 := Lib.hid (rep_keep hb1 _ _ _ R1.out)
      have HB := Lib.hid (bel_step ((Below.refl w.heap.size w).alloc (Nat.le_refl _) (.cells #[.int .i64 K, .int .i64 I, .float .f64 F, .string S, .slice p l c] 25)) hb1)
      clear RS hb1
      go_wp2_with fail
      go_at_call 34; refine (size_any _ _ _ _ R2.out).mono ?_; rintro e w2 ⟨rfl, hb2⟩
      have HB2 := Lib.hid (bel_step HB.out hb2)
      clear hb2 c0 c1 c2 c3 c4
      go_wp2
      go_ret
      exact ⟨H.out, HB2.out⟩
    · have H := Lib.hid (show Ending.returned (.bool false) = .returned (.bool (lightT (n + 1) (K, I, F, S, L))) by unfold lightT; rw [hd]; rfl)
      go_enter Try.func11, Try.ntmps11
      go_wp2_with fail
      go_at_call 33; refine (deep_any _ _ _ 20 (by omega) _ R1.out).mono ?_; rintro e w1 ⟨rfl, hb1⟩
      have HB := Lib.hid (bel_step ((Below.refl w.heap.size w).alloc (Nat.le_refl _) (.cells #[.int .i64 K, .int .i64 I, .float .f64 F, .string S, .slice p l c] 25)) hb1)
      clear hb1
      go_wp2
      go_ret
      exact ⟨H.out, HB.out⟩
end Num
end Go.Proofs.Ytkodgfhpbpefdaa
