/-
  Package value's Order and Equal, of values of at most a thousand parts.
-/
import Derived.Test.YtahcgdjcjapnkaaGreatDoorVCpl
namespace Go.Proofs.YtahcgdjcjapnkaaGreatDoor
open Go.RowKit
namespace Num
open Ints
set_option linter.unusedSimpArgs false
set_option linter.unusedVariables false
theorem bel_cp {w w1 : World} {cb fn : Nat} {vis : Int} {k : Nat} {W : World} (h : Below w.heap.size w W) (hs : w.heap.size ≤ cb) (hv : Cp W w1 cb fn vis k) : Below w.heap.size w w1 :=
  Below.grown h hv.1 h.size (fun k hk => by cases hk; exact hs)
set_option maxHeartbeats 2000000 in
theorem order_any (n : Nat) (a b : Value) (A B : VT n) (w : World) (hra : Rep w n a A) (hrb : Rep w n b B) (hd : deepT n A 64 = false) (hp : partsT n A ≤ 1000) : Calls Tryz.prog 17 #[a, b] w fun e w' => e = .returned (.int .i64 (cmpT ordF n A B)) ∧ Below w.heap.size w w' := by
  have HRA := Lib.hid hra
  have HRB := Lib.hid hrb
  have HD := Lib.hid hd
  have HP := Lib.hid hp
  obtain ⟨K1, I1, F1, S1, p1, l1, c1, rfl, _⟩ := rep_shape hra
  obtain ⟨K2, I2, F2, S2, p2, l2, c2, rfl, _⟩ := rep_shape hrb
  clear hra hrb hd hp
  have HB := Lib.hid ((((Below.refl w.heap.size w).alloc (Nat.le_refl _) (.cells #[.int .i64 K1, .int .i64 I1, .float .f64 F1, .string S1, .slice p1 l1 c1] 26)).alloc (by simp) (.cells #[.int .i64 K2, .int .i64 I2, .float .f64 F2, .string S2, .slice p2 l2 c2] 26)).alloc (by simp; omega) (.cells #[.func (.func 27) #[] #[], .int .i64 0, .map none] 54))
  have HA := Lib.hid (row_alloc ((w.alloc (.cells #[.int .i64 K1, .int .i64 I1, .float .f64 F1, .string S1, .slice p1 l1 c1] 26)).alloc (.cells #[.int .i64 K2, .int .i64 I2, .float .f64 F2, .string S2, .slice p2 l2 c2] 26)) #[.func (.func 27) #[] #[], .int .i64 0, .map none] 54)
  simp only [World.size_alloc] at HA
  go_enter Tryz.func17, Tryz.ntmps17
  go_wp2_with fail
  go_at_call 26; refine ((cp_allO n).1 A B _ _ 64 0 0 w _ (w.heap.size + 1 + 1) HRA.out HRB.out HB.out (by omega) HA.out HD.out (by omega) (by omega) (by omega) (by have := HP.out; omega)).mono ?_; rintro e w1 ⟨rfl, hcp⟩
  have HF := Lib.hid (bel_cp HB.out (by omega) hcp)
  clear hcp
  go_wp2
  go_ret
  exact ⟨rfl, HF.out⟩
set_option maxHeartbeats 2000000 in
theorem equal_any (n : Nat) (a b : Value) (A B : VT n) (w : World) (hra : Rep w n a A) (hrb : Rep w n b B) (hd : deepT n A 64 = false) (hp : partsT n A ≤ 1000) : Calls Tryz.prog 16 #[a, b] w fun e w' => e = .returned (.bool (cmpT cmpF n A B == 0)) ∧ Below w.heap.size w w' := by
  have HRA := Lib.hid hra
  have HRB := Lib.hid hrb
  have HD := Lib.hid hd
  have HP := Lib.hid hp
  obtain ⟨K1, I1, F1, S1, p1, l1, c1, rfl, _⟩ := rep_shape hra
  obtain ⟨K2, I2, F2, S2, p2, l2, c2, rfl, _⟩ := rep_shape hrb
  clear hra hrb hd hp
  have HB := Lib.hid ((((Below.refl w.heap.size w).alloc (Nat.le_refl _) (.cells #[.int .i64 K1, .int .i64 I1, .float .f64 F1, .string S1, .slice p1 l1 c1] 26)).alloc (by simp) (.cells #[.int .i64 K2, .int .i64 I2, .float .f64 F2, .string S2, .slice p2 l2 c2] 26)).alloc (by simp; omega) (.cells #[.func (.func 25) #[] #[], .int .i64 0, .map none] 54))
  have HA := Lib.hid (row_alloc ((w.alloc (.cells #[.int .i64 K1, .int .i64 I1, .float .f64 F1, .string S1, .slice p1 l1 c1] 26)).alloc (.cells #[.int .i64 K2, .int .i64 I2, .float .f64 F2, .string S2, .slice p2 l2 c2] 26)) #[.func (.func 25) #[] #[], .int .i64 0, .map none] 54)
  simp only [World.size_alloc] at HA
  go_enter Tryz.func16, Tryz.ntmps16
  go_wp2_with fail
  go_at_call 26; refine ((cp_allE n).1 A B _ _ 64 0 0 w _ (w.heap.size + 1 + 1) HRA.out HRB.out HB.out (by omega) HA.out HD.out (by omega) (by omega) (by omega) (by have := HP.out; omega)).mono ?_; rintro e w1 ⟨rfl, hcp⟩
  have HF := Lib.hid (bel_cp HB.out (by omega) hcp)
  clear hcp
  go_wp2
  go_ret
  exact ⟨rfl, HF.out⟩
end Num
end Go.Proofs.YtahcgdjcjapnkaaGreatDoor
