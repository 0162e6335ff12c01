/-
  A value measured, whatever it is.
-/
import Derived.Test.YtbfnghbfilahnaaVSurl
namespace Go.Proofs.Ytbfnghbfilahnaa
open Go.RowKit
namespace Num
open Ints
set_option linter.unusedSimpArgs false
set_option linter.unusedVariables false
theorem bel_sv {w w1 : World} {sb : Nat} {vis : Int} {k : Nat} {W : World} (h : Below w.heap.size w W) (hs : w.heap.size ≤ sb) (hv : Sv W w1 sb vis k) : Below w.heap.size w w1 :=
  Below.grown h hv.1 h.size (fun k hk => by cases hk; exact hs)
set_option maxHeartbeats 2000000 in
theorem measured_any (n : Nat) (v : Value) (T : VT n) (w : World) (hr : Rep w n v T) (hd : deepT n T 64 = false) (hp : partsT n T ≤ 1000) : Calls Try.prog 46 #[v] w fun e w' => e = .returned (meV (measT n T)) ∧ Below w.heap.size w w' := by
  have HR := Lib.hid hr
  have HD := Lib.hid hd
  have HP := Lib.hid hp
  obtain ⟨K, I, F, S, p, l, c, rfl, _⟩ := rep_shape hr
  clear hr hd hp
  have HB := Lib.hid ((((Below.refl w.heap.size w).alloc (Nat.le_refl _) (.cells #[.int .i64 K, .int .i64 I, .float .f64 F, .string S, .slice p l c] 39)).alloc (by simp) (.cells #[.bool false, .bool false, .int .i64 0, .int .i64 0] 90)).alloc (by simp; omega) (.cells #[.int .i64 0, .map none] 103))
  have HA := Lib.hid (row_alloc ((w.alloc (.cells #[.int .i64 K, .int .i64 I, .float .f64 F, .string S, .slice p l c] 39)).alloc (.cells #[.bool false, .bool false, .int .i64 0, .int .i64 0] 90)) #[.int .i64 0, .map none] 103)
  have HM := Lib.hid (row_alloc_step (row_alloc (w.alloc (.cells #[.int .i64 K, .int .i64 I, .float .f64 F, .string S, .slice p l c] 39)) #[.bool false, .bool false, .int .i64 0, .int .i64 0] 90) (.cells #[.int .i64 0, .map none] 103))
  simp only [World.size_alloc] at HA HM
  go_enter Try.func46, Try.ntmps46
  go_wp2_with fail
  go_at_call 62; refine ((sv_all n).1 T _ 64 0 0 w _ (w.heap.size + 1 + 1) HR.out HB.out (by omega) HA.out HD.out (by omega) (by omega) (by omega) (by have := HP.out; omega)).mono ?_; rintro e w1 ⟨rfl, hsv⟩
  have HF := Lib.hid (bel_sv HB.out (by omega) hsv)
  have hm := row_grown HM.out hsv.1 (by simp)
  have d0 := row_cell hm 0
  have d1 := row_cell hm 1
  have d2 := row_cell hm 2
  have d3 := row_cell hm 3
  simp only [List.getElem?_toArray, List.getElem?_cons_zero, List.getElem?_cons_succ] at d0 d1 d2 d3
  have df := fun o => row_frz hm o
  obtain ⟨q, hq⟩ : ∃ q, q = measT n T := ⟨_, rfl⟩
  rw [← hq]
  have HQ := Lib.hid hq
  clear hq hm hsv
  obtain ⟨q1, q2, q3, q4⟩ := q
  have HE := Lib.hid (show Ending.returned (.agg #[.bool q1, .bool q2, .int .i64 q3, .int .i64 q4]) = .returned (meV (measT n T)) by rw [← HQ.out]; rfl)
  rw [show meV (q1, q2, q3, q4) = Value.agg #[.bool q1, .bool q2, .int .i64 q3, .int .i64 q4] from rfl]
  go_wp2
  refine bodyPost_ret (v := .agg #[.bool q1, .bool q2, .int .i64 q3, .int .i64 q4]) (by simp [results, Try.results46, go_sem, World.cell?_setCell_same, World.cell?_setCell_other, d0, d1, d2, d3]) rfl ⟨HE.out, ?_⟩
  exact ((((HF.out.setCell (p := ⟨w.heap.size + 1, 0, none⟩) (by show w.heap.size ≤ w.heap.size + 1; omega) _).setCell (p := ⟨w.heap.size + 1, 1, none⟩) (by show w.heap.size ≤ w.heap.size + 1; omega) _).setCell (p := ⟨w.heap.size + 1, 2, none⟩) (by show w.heap.size ≤ w.heap.size + 1; omega) _).setCell (p := ⟨w.heap.size + 1, 3, none⟩) (by show w.heap.size ≤ w.heap.size + 1; omega) _)
end Num
end Go.Proofs.Ytbfnghbfilahnaa
