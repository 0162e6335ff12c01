/-
  The survey's walk at a value, its memo kept.
-/
import Derived.Test.YtbodakfgoijeeaaMS
namespace Go.Proofs.Ytbodakfgoijeeaa
open Go.RowKit
namespace Num
open Ints
set_option linter.unusedSimpArgs false
set_option linter.unusedVariables false
def SmValue (n : Nat) : Prop := ∀ (T : VT n) (v : Value) (lev : Nat) (vis : Int) (w0 w : World) (sb : Nat) (mv : Value) (S F : Nat → Prop), RepC w0 n S v T → Below w0.heap.size w0 w → w0.heap.size ≤ sb → (∀ b, F b → ¬ S b) → MvAt w0 w sb vis mv F → lev ≤ 1000000 → 0 ≤ vis → vis + partsT n T ≤ 1000000 →
  Calls Try.prog 47 #[.pointer (some ⟨sb, 0, none⟩), v, .int .i64 lev] w fun e w' => e = .returned (meV (measD n lev T)) ∧ SvR w0 w w' sb mv vis (partsT n T) (fun b => F b ∨ S b)
def SmList (n : Nat) : Prop := ∀ (L : List (VT n)) (p : Option Addr) (l c : Nat) (lev : Nat) (vis : Int) (w0 w : World) (sb : Nat) (mv : Value) (S F : Nat → Prop), RepLS S w0 (RepC w0 n) p l c L → Below w0.heap.size w0 w → w0.heap.size ≤ sb → (∀ b, F b → ¬ S b) → MvAt w0 w sb vis mv F → lev ≤ 1000001 → 0 ≤ vis → vis + (L.foldl (fun a x => a + partsT n x) 0 : Nat) ≤ 1000000 →
  Calls Try.prog 49 #[.pointer (some ⟨sb, 0, none⟩), .slice p l c, .int .i64 lev] w fun e w' => e = .returned (meV (measDL n lev L)) ∧ SvR w0 w w' sb mv vis (L.foldl (fun a x => a + partsT n x) 0) (fun b => F b ∨ S b)
theorem sm_value_zero : SmValue 0 := fun T v lev vis w0 w sb mv S F h => h.elim
set_option maxHeartbeats 2000000 in
theorem sm_value_succ (n : Nat) (hl : SmList n) : SmValue (n + 1) := by
  intro T v lev vis w0 w sb mv A FF hr hB hs hFS hat hlev hv0 hvp
  obtain ⟨K, I, F, S, L⟩ := T
  obtain ⟨p, l, c, rfl, _, _, _, hS, hL⟩ := hr
  unfold maxLen at hS
  have c0 : w.cell? ⟨sb, 0, none⟩ = some (.int .i64 vis) := row_cell hat.1 0
  have f0 : w.frozen? ⟨sb, 0, none⟩ = false := row_frz hat.1 0
  have hlt := row_lt hat.1
  have hne : sb ≠ w.heap.size := by omega
  have hp1 : 1 ≤ partsT (n + 1) (K, I, F, S, L) := by
    cases h4 : (K == 4)
    · rw [partsT_else h4]; omega
    · rw [partsT_list h4]; exact foldl_parts _ _
  have hv1 : vis ≤ 999999 := by omega
  have HAT := Lib.hid hat
  have HB := Lib.hid hB
  have HL := Lib.hid hL
  have HP := Lib.hid hvp
  have HLI := Lib.hid hl
  have HFS := Lib.hid hFS
  have start : ∀ (o1 o2 : Obj), Kp w (((w.setCell ⟨sb, 0, none⟩ (.int .i64 (vis + 1))).alloc o1).alloc o2) sb mv ∧ MvAt w0 (((w.setCell ⟨sb, 0, none⟩ (.int .i64 (vis + 1))).alloc o1).alloc o2) sb (vis + 1) mv FF := fun o1 o2 =>
    ⟨kp_alloc (kp_alloc (kp_set (kp_refl w sb mv) (Or.inl rfl) _ _) _) _, mvat_alloc (mvat_alloc (mvat_start hat _) _) _⟩
  have START := Lib.hid start
  have fin : ∀ (m : Me) (o1 o2 : Obj), measD (n + 1) lev (K, I, F, S, L) = m → Ending.returned (meV m) = .returned (meV (measD (n + 1) lev (K, I, F, S, L))) ∧ SvR w0 w (((w.setCell ⟨sb, 0, none⟩ (.int .i64 (vis + 1))).alloc o1).alloc o2) sb mv vis (partsT (n + 1) (K, I, F, S, L)) (fun b => FF b ∨ A b) := by
    intro m o1 o2 e
    exact ⟨by rw [e], (start o1 o2).1, vis + 1, mv, by omega, by omega, Or.inl rfl, mvat_mono (fun b hb => Or.inl hb) (start o1 o2).2⟩
  have FIN := Lib.hid fin
  clear hat hB hL hvp hl fin start hp1 hFS
  cases h0 : (K == 0)
  · cases h1 : (K == 1)
    · cases h2 : (K == 2)
      · cases h3 : (K == 3)
        · cases h4 : (K == 4)
          · go_enter Try.func47, Try.ntmps47
            go_wp2
            exact bodyPost_ret (v := .agg #[.bool true, .bool false, .int .i64 0, .int .i64 1]) (by simp [results, Try.results47, go_sem]) rfl (FIN.out (true, false, 0, 1) _ _ (measD_else h0 (by rw [h1, h2]; rfl) h3 h4))
          · have hpl : vis + 1 + (L.foldl (fun a x => a + partsT n x) 0 : Nat) ≤ 1000000 ∧ partsT (n + 1) (K, I, F, S, L) = L.foldl (fun a x => a + partsT n x) 0 + 1 := by
              have e : partsT (n + 1) (K, I, F, S, L) = L.foldl (fun a x => a + partsT n x) 0 + 1 := by
                rw [partsT_list h4, ← parts_shift]
              have := HP.out
              rw [e] at this
              exact ⟨by omega, e⟩
            have HPL := Lib.hid hpl
            have HST := Lib.hid (START.out (.cells #[.int .i64 K, .int .i64 I, .float .f64 F, .string S, .slice p l c] 26) (.cells #[.bool false, .bool false, .int .i64 0, .int .i64 0] 71))
            have HB1 := Lib.hid (kp_below HB.out hs HAT.out HST.out.1)
            have RR := Lib.hid (row_alloc ((w.setCell ⟨sb, 0, none⟩ (.int .i64 (vis + 1))).alloc (.cells #[.int .i64 K, .int .i64 I, .float .f64 F, .string S, .slice p l c] 26)) #[.bool false, .bool false, .int .i64 0, .int .i64 0] 71)
            have H := Lib.hid (show Ending.returned (meV (measDL n (lev + 1) L)) = .returned (meV (measD (n + 1) lev (K, I, F, S, L))) by rw [measD_list h0 (by rw [h1, h2]; rfl) h3 h4])
            have hmo := Lib.hid (fun k (e : mv = .map (some k)) => (mv_own HAT.out k e).2)
            clear hpl
            simp only [World.size_alloc, World.size_setCell] at RR
            go_enter Try.func47, Try.ntmps47
            go_wp2_with fail
            go_at_call 49; rw [show ((lev : Int) + 1) = ((lev + 1 : Nat) : Int) by omega]; refine (HLI.out L p l c (lev + 1) (vis + 1) w0 _ sb mv A FF HL.out HB1.out hs HFS.out HST.out.2 (by omega) (by omega) HPL.out.1).mono ?_; rintro e w1 ⟨rfl, hsv⟩
            have HSV := Lib.hid hsv
            clear hsv
            have hrr : w1.heap[w.heap.size + 1]? = some (.cells #[.bool false, .bool false, .int .i64 0, .int .i64 0] 71 (0, 0)) := (HSV.out.1.block (w.heap.size + 1) (by simp) (by omega) (fun e => by have := hmo.out _ e; omega)).trans RR.out
            obtain ⟨q, hq⟩ : ∃ q, q = measDL n (lev + 1) L := ⟨_, rfl⟩
            rw [← hq]
            rw [← hq] at H
            clear hq
            obtain ⟨q1, q2, q3, q4⟩ := q
            rw [show meV (q1, q2, q3, q4) = Value.agg #[.bool q1, .bool q2, .int .i64 q3, .int .i64 q4] from rfl]
            have d0 := row_cell hrr 0
            have d1 := row_cell hrr 1
            have d2 := row_cell hrr 2
            have d3 := row_cell hrr 3
            simp only [List.getElem?_toArray, List.getElem?_cons_zero, List.getElem?_cons_succ] at d0 d1 d2 d3
            have e0 := row_frz hrr 0
            have e1 := row_frz hrr 1
            have e2 := row_frz hrr 2
            have e3 := row_frz hrr 3
            have HRR := Lib.hid hrr
            clear hrr c0 f0
            go_wp2
            refine bodyPost_ret (v := .agg #[.bool q1, .bool q2, .int .i64 q3, .int .i64 q4]) (by simp [results, Try.results47, go_sem, World.cell?_setCell_same, World.cell?_setCell_other, d0, d1, d2, d3]) rfl ⟨H.out, ?_⟩
            rw [HPL.out.2]
            exact svr_set4 (svr_trans (j := 1) HST.out.1 HSV.out) (by omega) (by omega) (fun cs t e => by rw [HRR.out] at e; cases e) _ _ _ _
        · by_cases h256 : 256 < (S.size : Int)
          · go_enter Try.func47, Try.ntmps47
            go_wp2
            exact bodyPost_ret (v := .agg #[.bool false, .bool true, .int .i64 0, .int .i64 (wrap64 (3 + (S.size : Int)))]) (by simp [results, Try.results47, go_sem]) rfl (FIN.out (false, true, 0, wrap64 (3 + (S.size : Int))) _ _ ((measD_text h0 (by rw [h1, h2]; rfl) h3).trans (by simp [h256])))
          · go_enter Try.func47, Try.ntmps47
            go_wp2
            exact bodyPost_ret (v := .agg #[.bool false, .bool false, .int .i64 0, .int .i64 (3 + (S.size : Int))]) (by simp [results, Try.results47, go_sem]) rfl (FIN.out (false, false, 0, 3 + (S.size : Int)) _ _ ((measD_text h0 (by rw [h1, h2]; rfl) h3).trans (by rw [show wrap64 (3 + (S.size : Int)) = 3 + (S.size : Int) by unfold wrap64; omega]; simp [h256])))
      · go_enter Try.func47, Try.ntmps47
        go_wp2
        exact bodyPost_ret (v := .agg #[.bool false, .bool false, .int .i64 0, .int .i64 9]) (by simp [results, Try.results47, go_sem]) rfl (FIN.out (false, false, 0, 9) _ _ (measD_num h0 (by rw [h1, h2]; rfl)))
    · go_enter Try.func47, Try.ntmps47
      go_wp2
      exact bodyPost_ret (v := .agg #[.bool false, .bool false, .int .i64 0, .int .i64 9]) (by simp [results, Try.results47, go_sem]) rfl (FIN.out (false, false, 0, 9) _ _ (measD_num h0 (by rw [h1]; rfl)))
  · go_enter Try.func47, Try.ntmps47
    go_wp2
    exact bodyPost_ret (v := .agg #[.bool false, .bool false, .int .i64 0, .int .i64 1]) (by simp [results, Try.results47, go_sem]) rfl (FIN.out (false, false, 0, 1) _ _ (measD_nil h0))
end Num
end Go.Proofs.Ytbodakfgoijeeaa
