/-
  The survey of package value: what it measures of a value of at most a thousand parts, in which no memo is kept.
-/
import Derived.Test.YtbfnghbfilahnaaVMeas
import Derived.Deep.RegionWith
import Derived.RegionTactic
namespace Go.Proofs.Ytbfnghbfilahnaa
open Go.RowKit
namespace Num
open Ints
set_option linter.unusedSimpArgs false
set_option linter.unusedVariables false
def SvAt (w : World) (sb : Nat) (vis : Int) : Prop := w.heap[sb]? = some (.cells #[.int .i64 vis, .map none] 103 (0, 0))
/-- Behind a walk: new blocks, and the survey, which has counted at most so many parts more. -/
def Sv (w w' : World) (sb : Nat) (vis : Int) (k : Nat) : Prop := w.grownBy w' (some sb) ∧ ∃ vis', vis ≤ vis' ∧ vis' ≤ vis + k ∧ SvAt w' sb vis'
def SvValue (n : Nat) : Prop := ∀ (T : VT n) (v : Value) (m : Nat) (lev vis : Int) (w0 w : World) (sb : Nat), Rep w0 n v T → Below w0.heap.size w0 w → w0.heap.size ≤ sb → SvAt w sb vis → deepT n T m = false → 0 ≤ lev → lev + m ≤ 64 → 0 ≤ vis → vis + partsT n T ≤ 1000 →
  Calls Try.prog 62 #[.pointer (some ⟨sb, 0, none⟩), v, .int .i64 lev] w fun e w' => e = .returned (meV (measT n T)) ∧ Sv w w' sb vis (partsT n T)
def SvList (n : Nat) : Prop := ∀ (L : List (VT n)) (p : Option Addr) (l c m : Nat) (lev vis : Int) (w0 w : World) (sb : Nat), RepL w0 (Rep w0 n) p l c L → Below w0.heap.size w0 w → w0.heap.size ≤ sb → SvAt w sb vis → (∀ x ∈ L, deepT n x m = false) → 0 ≤ lev → lev + m ≤ 64 → 0 ≤ vis → vis + (L.foldl (fun a x => a + partsT n x) 0 : Nat) ≤ 1000 →
  Calls Try.prog 78 #[.pointer (some ⟨sb, 0, none⟩), .slice p l c, .int .i64 lev] w fun e w' => e = .returned (meV (L.foldl (fun a x => withM a (measT n x)) (false, decide (64 < (L.length : Int)), 1, 2))) ∧ Sv w w' sb vis (L.foldl (fun a x => a + partsT n x) 0)
theorem setCell_row {w : World} {b : Nat} {x0 x1 : Value} {t : TypeId} (h : w.heap[b]? = some (.cells #[x0, x1] t (0, 0))) (v : Value) : (w.setCell ⟨b, 0, none⟩ v).heap[b]? = some (.cells #[v, x1] t (0, 0)) := by
  simp [World.setCell, Array.getElem?_modify, h]
theorem grown_setCell (w : World) (b : Nat) (o : Nat) (v : Value) : w.grownBy (w.setCell ⟨b, o, none⟩ v) (some b) := by
  refine ⟨rfl, rfl, rfl, by simp, fun i hi hne => ?_⟩
  exact Below.heap_setCell _ _ _ _ (fun e => hne (by rw [e]))
theorem sv_start {w : World} {sb : Nat} {vis : Int} (h : SvAt w sb vis) (o1 o2 : Obj) : w.grownBy (((w.setCell ⟨sb, 0, none⟩ (.int .i64 (vis + 1))).alloc o1).alloc o2) (some sb) ∧ SvAt (((w.setCell ⟨sb, 0, none⟩ (.int .i64 (vis + 1))).alloc o1).alloc o2) sb (vis + 1) :=
  ⟨((grown_setCell w sb 0 _).trans (World.grownBy_alloc _ _ _)).trans (World.grownBy_alloc _ _ _), row_alloc_step (row_alloc_step (setCell_row h _) _) _⟩
theorem parts_shift {n : Nat} (L : List (VT n)) : ∀ a : Nat, L.foldl (fun a x => a + partsT n x) (a + 1) = L.foldl (fun a x => a + partsT n x) a + 1 := by
  induction L with
  | nil => intro a; rfl
  | cons x xs ih => intro a; rw [List.foldl_cons, List.foldl_cons, Nat.add_right_comm, ih]
theorem grown_new {w w1 : World} {row : Option Nat} (h : w.grownBy w1 row) {nb : Nat} (hn : w.heap.size ≤ nb) (o : Nat) (v : Value) : w.grownBy (w1.setCell ⟨nb, o, none⟩ v) row :=
  ⟨h.os, h.tape, h.output, by simpa using h.size, fun i hi hne => (Below.heap_setCell _ _ _ _ (by show i ≠ nb; omega)).trans (h.block i hi hne)⟩
theorem sv_at_new {w : World} {sb : Nat} {vis : Int} (h : SvAt w sb vis) {nb : Nat} (hn : sb ≠ nb) (o : Nat) (v : Value) : SvAt (w.setCell ⟨nb, o, none⟩ v) sb vis :=
  (Below.heap_setCell _ _ _ _ hn).trans h
theorem sv_set4 {w w1 : World} {sb : Nat} {vis : Int} {k : Nat} (h : Sv w w1 sb vis k) {nb : Nat} (hn : w.heap.size ≤ nb) (hs : sb ≠ nb) (v0 v1 v2 v3 : Value) : Sv w ((((w1.setCell ⟨nb, 0, none⟩ v0).setCell ⟨nb, 1, none⟩ v1).setCell ⟨nb, 2, none⟩ v2).setCell ⟨nb, 3, none⟩ v3) sb vis k := by
  obtain ⟨hg, vis', a, b, c⟩ := h
  exact ⟨grown_new (grown_new (grown_new (grown_new hg hn _ _) hn _ _) hn _ _) hn _ _, vis', a, b, sv_at_new (sv_at_new (sv_at_new (sv_at_new c hs _ _) hs _ _) hs _ _) hs _ _⟩
theorem sv_trans {w W w1 : World} {sb : Nat} {vis : Int} {k j : Nat} (hg : w.grownBy W (some sb)) (h : Sv W w1 sb (vis + j) k) : Sv w w1 sb vis (k + j) := by
  obtain ⟨hg2, vis', a, b, c⟩ := h
  exact ⟨hg.trans hg2, vis', by omega, by omega, c⟩
theorem sv_value_zero : SvValue 0 := fun T v m lev vis w0 w sb h => h.elim
set_option maxHeartbeats 2000000 in
theorem sv_value_succ (n : Nat) (hl : SvList n) : SvValue (n + 1) := by
  intro T v m lev vis w0 w sb hr hB hs hat hd hlev hlm hv0 hvp
  obtain ⟨K, I, F, S, L⟩ := T
  obtain ⟨p, l, c, rfl, _, _, _, hS, hL⟩ := hr
  unfold maxLen at hS
  have c0 : w.cell? ⟨sb, 0, none⟩ = some (.int .i64 vis) := row_cell hat 0
  have f0 : w.frozen? ⟨sb, 0, none⟩ = false := row_frz hat 0
  have hlt := row_lt hat
  have hne : sb ≠ w.heap.size := by omega
  have hv1 : vis ≤ 999 := by
    have : 1 ≤ partsT (n + 1) (K, I, F, S, L) := by
      cases h4 : (K == 4)
      · rw [partsT_else h4]; omega
      · rw [partsT_list h4]; exact foldl_parts _ _
    omega
  have HAT := Lib.hid hat
  have HB := Lib.hid hB
  have HL := Lib.hid hL
  have HP := Lib.hid hvp
  have HD := Lib.hid hd
  have HLI := Lib.hid hl
  clear hat hB hL hvp hd hl
  have fin : ∀ (m : Me) (o1 o2 : Obj), measT (n + 1) (K, I, F, S, L) = m → Ending.returned (meV m) = .returned (meV (measT (n + 1) (K, I, F, S, L))) ∧ Sv w (((w.setCell ⟨sb, 0, none⟩ (.int .i64 (vis + 1))).alloc o1).alloc o2) sb vis (partsT (n + 1) (K, I, F, S, L)) := by
    intro m o1 o2 e
    have hp : 1 ≤ partsT (n + 1) (K, I, F, S, L) := by
      cases h4 : (K == 4)
      · rw [partsT_else h4]; omega
      · rw [partsT_list h4]; exact foldl_parts _ _
    exact ⟨by rw [e], (sv_start HAT.out o1 o2).1, vis + 1, by omega, by omega, (sv_start HAT.out o1 o2).2⟩
  have FIN := Lib.hid fin
  clear fin
  cases h0 : (K == 0)
  · cases h1 : (K == 1)
    · cases h2 : (K == 2)
      · cases h3 : (K == 3)
        · cases h4 : (K == 4)
          · go_enter Try.func62, Try.ntmps62
            go_wp2
            exact bodyPost_ret (v := .agg #[.bool true, .bool false, .int .i64 0, .int .i64 1]) (by simp [results, Try.results62, go_sem]) rfl (FIN.out (true, false, 0, 1) _ _ (measT_else h0 (by rw [h1, h2]; rfl) h3 h4))
          · cases m with
            | zero => exact absurd HD.out (by rw [deepT_zero h4]; simp)
            | succ m =>
            have hdl : ∀ x ∈ L, deepT n x m = false := by
              have := HD.out
              rw [deepT_succ h4] at this
              exact fun x hx => by simpa using (List.any_eq_false.1 this) x hx
            have HDL := Lib.hid hdl
            have hpl : vis + 1 + (L.foldl (fun a x => a + partsT n x) 0 : Nat) ≤ 1000 ∧ partsT (n + 1) (K, I, F, S, L) = L.foldl (fun a x => a + partsT n x) 0 + 1 := by
              have e : partsT (n + 1) (K, I, F, S, L) = L.foldl (fun a x => a + partsT n x) 0 + 1 := by
                rw [partsT_list h4, ← parts_shift]
              have := HP.out
              rw [e] at this
              exact ⟨by omega, e⟩
            have HPL := Lib.hid hpl
            obtain ⟨hg1, ha1⟩ := sv_start HAT.out (.cells #[.int .i64 K, .int .i64 I, .float .f64 F, .string S, .slice p l c] 39) (.cells #[.bool false, .bool false, .int .i64 0, .int .i64 0] 90)
            have HG1 := Lib.hid hg1
            have HA1 := Lib.hid ha1
            have HB1 := Lib.hid (Below.grown HB.out hg1 HB.out.size (fun k hk => by cases hk; exact hs))
            have RR := Lib.hid (row_alloc ((w.setCell ⟨sb, 0, none⟩ (.int .i64 (vis + 1))).alloc (.cells #[.int .i64 K, .int .i64 I, .float .f64 F, .string S, .slice p l c] 39)) #[.bool false, .bool false, .int .i64 0, .int .i64 0] 90)
            have H := Lib.hid (show Ending.returned (meV (L.foldl (fun a x => withM a (measT n x)) (false, decide (64 < (L.length : Int)), 1, 2))) = .returned (meV (measT (n + 1) (K, I, F, S, L))) by rw [measT_list h0 (by rw [h1, h2]; rfl) h3 h4])
            clear hdl hpl hg1 ha1
            simp only [World.size_alloc, World.size_setCell] at RR
            go_enter Try.func62, Try.ntmps62
            go_wp2_with fail
            go_at_call 78; refine (HLI.out L p l c m (lev + 1) (vis + 1) w0 _ sb HL.out HB1.out hs HA1.out HDL.out (by omega) (by omega) (by omega) HPL.out.1).mono ?_; rintro e w1 ⟨rfl, hsv⟩
            have HSV := Lib.hid hsv
            clear hsv
            have hrr := row_grown RR.out HSV.out.1 (by simp; omega)
            obtain ⟨q, hq⟩ : ∃ q, q = L.foldl (fun a x => withM a (measT n x)) (false, decide (64 < (L.length : Int)), 1, 2) := ⟨_, rfl⟩
            rw [← hq]
            rw [← hq] at H
            clear hq
            obtain ⟨q1, q2, q3, q4⟩ := q
            rw [show meV (q1, q2, q3, q4) = Value.agg #[.bool q1, .bool q2, .int .i64 q3, .int .i64 q4] from rfl]
            have d0 := row_cell hrr 0
            have d1 := row_cell hrr 1
            have d2 := row_cell hrr 2
            have d3 := row_cell hrr 3
            simp only [List.getElem?_toArray, List.getElem?_cons_zero, List.getElem?_cons_succ] at d0 d1 d2 d3
            have e0 := row_frz hrr 0
            have e1 := row_frz hrr 1
            have e2 := row_frz hrr 2
            have e3 := row_frz hrr 3
            have HRR := Lib.hid hrr
            clear hrr c0 f0
            go_wp2
            refine bodyPost_ret (v := .agg #[.bool q1, .bool q2, .int .i64 q3, .int .i64 q4]) (by simp [results, Try.results62, go_sem, World.cell?_setCell_same, World.cell?_setCell_other, d0, d1, d2, d3]) rfl ⟨H.out, ?_⟩
            rw [HPL.out.2]
            exact sv_set4 (sv_trans (j := 1) HG1.out HSV.out) (by omega) (by omega) _ _ _ _
        · by_cases h256 : 256 < (S.size : Int)
          · go_enter Try.func62, Try.ntmps62
            go_wp2
            exact bodyPost_ret (v := .agg #[.bool false, .bool true, .int .i64 0, .int .i64 (wrap64 (3 + (S.size : Int)))]) (by simp [results, Try.results62, go_sem]) rfl (FIN.out (false, true, 0, wrap64 (3 + (S.size : Int))) _ _ ((measT_text h0 (by rw [h1, h2]; rfl) h3).trans (by simp [h256])))
          · go_enter Try.func62, Try.ntmps62
            go_wp2
            exact bodyPost_ret (v := .agg #[.bool false, .bool false, .int .i64 0, .int .i64 (3 + (S.size : Int))]) (by simp [results, Try.results62, go_sem]) rfl (FIN.out (false, false, 0, 3 + (S.size : Int)) _ _ ((measT_text h0 (by rw [h1, h2]; rfl) h3).trans (by rw [show wrap64 (3 + (S.size : Int)) = 3 + (S.size : Int) by unfold wrap64; omega]; simp [h256])))
      · go_enter Try.func62, Try.ntmps62
        go_wp2
        exact bodyPost_ret (v := .agg #[.bool false, .bool false, .int .i64 0, .int .i64 9]) (by simp [results, Try.results62, go_sem]) rfl (FIN.out (false, false, 0, 9) _ _ (measT_num h0 (by rw [h1, h2]; rfl)))
    · go_enter Try.func62, Try.ntmps62
      go_wp2
      exact bodyPost_ret (v := .agg #[.bool false, .bool false, .int .i64 0, .int .i64 9]) (by simp [results, Try.results62, go_sem]) rfl (FIN.out (false, false, 0, 9) _ _ (measT_num h0 (by rw [h1]; rfl)))
  · go_enter Try.func62, Try.ntmps62
    go_wp2
    exact bodyPost_ret (v := .agg #[.bool false, .bool false, .int .i64 0, .int .i64 1]) (by simp [results, Try.results62, go_sem]) rfl (FIN.out (false, false, 0, 1) _ _ (measT_nil h0))
end Num
end Go.Proofs.Ytbfnghbfilahnaa
