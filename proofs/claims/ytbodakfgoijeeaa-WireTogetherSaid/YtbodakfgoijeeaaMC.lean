/-
  Package value's measured, Check, of values that a call made: any number of parts.
-/
import Derived.Test.YtbodakfgoijeeaaML
import Derived.Test.YtbodakfgoijeeaaVCheck
namespace Go.Proofs.Ytbodakfgoijeeaa
open Go.RowKit
namespace Num
open Ints
set_option linter.unusedSimpArgs false
set_option linter.unusedVariables false
set_option maxHeartbeats 2000000 in
theorem measuredM_any (n : Nat) (A : Nat → Prop) (v : Value) (T : VT n) (w : World) (hr : RepC w n A v T) (hp : partsT n T ≤ 1000000) : Calls Try.prog 38 #[v] w fun e w' => e = .returned (meV (measD n 0 T)) ∧ Below w.heap.size w w' := by
  have HR := Lib.hid hr
  have HP := Lib.hid hp
  obtain ⟨K, I, F, S, p, l, c, rfl, _⟩ := repS_shape hr
  clear hr hp
  have HB := Lib.hid ((((Below.refl w.heap.size w).alloc (Nat.le_refl _) (.cells #[.int .i64 K, .int .i64 I, .float .f64 F, .string S, .slice p l c] 26)).alloc (by simp) (.cells #[.bool false, .bool false, .int .i64 0, .int .i64 0] 71)).alloc (by simp; omega) (.cells #[.int .i64 0, .map none] 80))
  have HA := Lib.hid (row_alloc ((w.alloc (.cells #[.int .i64 K, .int .i64 I, .float .f64 F, .string S, .slice p l c] 26)).alloc (.cells #[.bool false, .bool false, .int .i64 0, .int .i64 0] 71)) #[.int .i64 0, .map none] 80)
  have HM := Lib.hid (row_alloc_step (row_alloc (w.alloc (.cells #[.int .i64 K, .int .i64 I, .float .f64 F, .string S, .slice p l c] 26)) #[.bool false, .bool false, .int .i64 0, .int .i64 0] 71) (.cells #[.int .i64 0, .map none] 80))
  simp only [World.size_alloc] at HA HM
  go_enter Try.func38, Try.ntmps38
  go_wp2_with fail
  go_at_call 47; refine ((sm_all n).1 T _ 0 0 w _ (w.heap.size + 1 + 1) (.map none) A (fun _ => False) HR.out HB.out (by omega) (fun _ h => h.elim) ⟨HA.out, Or.inl rfl⟩ (by omega) (by omega) (by have := HP.out; omega)).mono ?_; rintro e w1 ⟨rfl, hsv⟩
  have HF := Lib.hid (kp_below (vis := 0) (F := fun _ => False) HB.out (by omega) ⟨HA.out, Or.inl rfl⟩ hsv.1)
  have hm := row_kp (w0 := w) (vis' := 0) (F := fun _ => False) hsv.1 ⟨HA.out, Or.inl rfl⟩ HM.out (by omega)
  have d0 := row_cell hm 0
  have d1 := row_cell hm 1
  have d2 := row_cell hm 2
  have d3 := row_cell hm 3
  simp only [List.getElem?_toArray, List.getElem?_cons_zero, List.getElem?_cons_succ] at d0 d1 d2 d3
  have df := fun o => row_frz hm o
  obtain ⟨q, hq⟩ : ∃ q, q = measD n 0 T := ⟨_, rfl⟩
  rw [← hq]
  have HQ := Lib.hid hq
  clear hq hm hsv
  obtain ⟨q1, q2, q3, q4⟩ := q
  have HE := Lib.hid (show Ending.returned (.agg #[.bool q1, .bool q2, .int .i64 q3, .int .i64 q4]) = .returned (meV (measD n 0 T)) by rw [← HQ.out]; rfl)
  rw [show meV (q1, q2, q3, q4) = Value.agg #[.bool q1, .bool q2, .int .i64 q3, .int .i64 q4] from rfl]
  go_wp2
  refine bodyPost_ret (v := .agg #[.bool q1, .bool q2, .int .i64 q3, .int .i64 q4]) (by simp [results, Try.results38, go_sem, World.cell?_setCell_same, World.cell?_setCell_other, d0, d1, d2, d3]) rfl ⟨HE.out, ?_⟩
  exact ((((HF.out.setCell (p := ⟨w.heap.size + 1, 0, none⟩) (by show w.heap.size ≤ w.heap.size + 1; omega) _).setCell (p := ⟨w.heap.size + 1, 1, none⟩) (by show w.heap.size ≤ w.heap.size + 1; omega) _).setCell (p := ⟨w.heap.size + 1, 2, none⟩) (by show w.heap.size ≤ w.heap.size + 1; omega) _).setCell (p := ⟨w.heap.size + 1, 3, none⟩) (by show w.heap.size ≤ w.heap.size + 1; omega) _)
set_option maxHeartbeats 2000000 in
theorem checkM_any (n : Nat) (A : Nat → Prop) (K I : Int) (F : Nat) (S : ByteArray) (p : Option Addr) (l c : Nat) (T : VT n) (w : World) (hr : RepC w n A (.agg #[.int .i64 K, .int .i64 I, .float .f64 F, .string S, .slice p l c]) T) (hp : partsT n T ≤ 1000000) : Calls Try.prog 22 #[.agg #[.int .i64 K, .int .i64 I, .float .f64 F, .string S, .slice p l c]] w fun e w' => e = .returned (.int .i64 (checkM (measD n 0 T))) ∧ Below w.heap.size w w' := by
  have HR := Lib.hid (repC_keep n _ _ _ (fun b (hb : A b ∧ b < w.heap.size) => Below.heap_alloc w (.cells #[.int .i64 K, .int .i64 I, .float .f64 F, .string S, .slice p l c] 26) _ hb.2) (repC_lt n _ _ _ hr))
  have HB := Lib.hid ((Below.refl w.heap.size w).alloc (Nat.le_refl _) (.cells #[.int .i64 K, .int .i64 I, .float .f64 F, .string S, .slice p l c] 26))
  have HP := Lib.hid hp
  clear hr hp
  obtain ⟨⟨q1, q2, q3, q4⟩, hq⟩ : ∃ q, q = measD n 0 T := ⟨_, rfl⟩
  have HQ := Lib.hid hq.symm
  rw [← hq]
  clear hq
  cases h1 : q1
  · cases h2 : q2
    · by_cases h3 : 8 < q3
      · subst_vars
        have HX := Lib.hid (show Ending.returned (.int .i64 22) = .returned (.int .i64 (checkM (false, false, q3, q4))) by simp [checkM, h3])
        go_enter Try.func22, Try.ntmps22
        go_wp2_with fail
        go_at_call 38; refine (measuredM_any n _ _ T _ HR.out HP.out).mono ?_; rintro e w1 ⟨rfl, hb⟩
        have HB1 := Lib.hid (bel_step HB.out hb)
        rw [HQ.out]
        rw [show meV (false, false, q3, q4) = Value.agg #[.bool false, .bool false, .int .i64 q3, .int .i64 q4] from rfl]
        clear hb
        go_wp2
        go_ret
        exact ⟨HX.out, bel_alloc HB1.out _⟩
      · by_cases h4 : 4096 < q4
        · subst_vars
          have HX := Lib.hid (show Ending.returned (.int .i64 22) = .returned (.int .i64 (checkM (false, false, q3, q4))) by simp [checkM, h3, h4])
          go_enter Try.func22, Try.ntmps22
          go_wp2_with fail
          go_at_call 38; refine (measuredM_any n _ _ T _ HR.out HP.out).mono ?_; rintro e w1 ⟨rfl, hb⟩
          have HB1 := Lib.hid (bel_step HB.out hb)
          rw [HQ.out]
          rw [show meV (false, false, q3, q4) = Value.agg #[.bool false, .bool false, .int .i64 q3, .int .i64 q4] from rfl]
          clear hb
          go_wp2
          go_ret
          exact ⟨HX.out, bel_alloc HB1.out _⟩
        · subst_vars
          have HX := Lib.hid (show Ending.returned (.int .i64 0) = .returned (.int .i64 (checkM (false, false, q3, q4))) by simp [checkM, h3, h4])
          go_enter Try.func22, Try.ntmps22
          go_wp2_with fail
          go_at_call 38; refine (measuredM_any n _ _ T _ HR.out HP.out).mono ?_; rintro e w1 ⟨rfl, hb⟩
          have HB1 := Lib.hid (bel_step HB.out hb)
          rw [HQ.out]
          rw [show meV (false, false, q3, q4) = Value.agg #[.bool false, .bool false, .int .i64 q3, .int .i64 q4] from rfl]
          clear hb
          go_wp2
          go_ret
          exact ⟨HX.out, bel_alloc HB1.out _⟩
    · subst_vars
      have HX := Lib.hid (show Ending.returned (.int .i64 22) = .returned (.int .i64 (checkM (false, true, q3, q4))) by simp [checkM])
      go_enter Try.func22, Try.ntmps22
      go_wp2_with fail
      go_at_call 38; refine (measuredM_any n _ _ T _ HR.out HP.out).mono ?_; rintro e w1 ⟨rfl, hb⟩
      have HB1 := Lib.hid (bel_step HB.out hb)
      rw [HQ.out]
      rw [show meV (false, true, q3, q4) = Value.agg #[.bool false, .bool true, .int .i64 q3, .int .i64 q4] from rfl]
      clear hb
      go_wp2
      go_ret
      exact ⟨HX.out, bel_alloc HB1.out _⟩
  · subst_vars
    have HX := Lib.hid (show Ending.returned (.int .i64 31) = .returned (.int .i64 (checkM (true, q2, q3, q4))) by simp [checkM])
    go_enter Try.func22, Try.ntmps22
    go_wp2_with fail
    go_at_call 38; refine (measuredM_any n _ _ T _ HR.out HP.out).mono ?_; rintro e w1 ⟨rfl, hb⟩
    have HB1 := Lib.hid (bel_step HB.out hb)
    rw [HQ.out]
    rw [show meV (true, q2, q3, q4) = Value.agg #[.bool true, .bool q2, .int .i64 q3, .int .i64 q4] from rfl]
    clear hb
    go_wp2
    go_ret
    exact ⟨HX.out, bel_alloc HB1.out _⟩
end Num
end Go.Proofs.Ytbodakfgoijeeaa
