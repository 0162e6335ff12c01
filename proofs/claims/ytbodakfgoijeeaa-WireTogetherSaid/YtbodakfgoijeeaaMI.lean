/-
  The reference's Read; the program's, in the same words.
-/
import Derived.Test.YtbodakfgoijeeaaMH
import Derived.Test.YtbodakfgoijeeaaMR
namespace Go.Proofs.Ytbodakfgoijeeaa
open Go.RowKit
namespace Num
open Ints
set_option linter.unusedSimpArgs false
set_option linter.unusedVariables false
set_option maxRecDepth 100000 in
set_option maxHeartbeats 4000000 in
theorem rread_none (N : Nat) (w : World) (p : Option Addr) (l c : Nat) (X : List Int) (hb : RdB w p l c X) (hX : By X) (hN : l ≤ N) (hl : l ≤ 100000) (hd : refV N 0 X = none) :
    Calls Try.prog 9 #[.slice p l c] w (RdPost N (refRd N X) w) := by
  have HB := Lib.hid (rd_keep ((Below.refl w.heap.size w).alloc (Nat.le_refl _) (.cells #[.int .i64 0, .int .i64 0, .float .f64 0, .string ⟨#[]⟩, .slice none 0 0] 26)) hb)
  have HX := Lib.hid hX
  have HD := Lib.hid hd
  have RB := Lib.hid (row_alloc w #[.int .i64 0, .int .i64 0, .float .f64 0, .string ⟨#[]⟩, .slice none 0 0] 26)
  clear hd hb hX
  go_enter Try.func9, Try.ntmps9
  go_wp2_with fail
  go_at_call 23; refine (rr_all N _ _ _ _ 0 X HB.out HX.out hN hl (by omega)).mono ?_; rintro e w1 ⟨hb1, hno, hyes⟩
  obtain ⟨K, I, F, S, q, a, d, m, rfl⟩ := hno HD.out
  have HB1 := Lib.hid (bel_box _ hb1)
  have hr1 := row_step RB.out hb1
  have d0 := row_cell hr1 0; have d1 := row_cell hr1 1; have d2 := row_cell hr1 2; have d3 := row_cell hr1 3; have d4 := row_cell hr1 4
  simp only [List.getElem?_toArray, List.getElem?_cons_zero, List.getElem?_cons_succ] at d0 d1 d2 d3 d4
  have df := fun o => row_frz hr1 o
  have hlt := row_lt hr1
  have hne : w.heap.size ≠ w1.heap.size := by omega
  have ha := fun (o : Obj) (v0 v1 v2 v3 v4 : Value) (i : Nat) => cell_alloc5 hlt o v0 v1 v2 v3 v4 i
  clear hb1 hno hyes hr1
  go_wp2
  refine bodyPost_ret (v := .tuple #[.agg #[.int .i64 0, .int .i64 0, .float .f64 0, .string ⟨#[]⟩, .slice none 0 0], .int .i64 0, .int .i64 20]) (by simp [results, Try.results9, go_sem, ha, World.cell?_setCell_same, World.cell?_setCell_other, d0, d1, d2, d3, d4]) rfl ?_
  exact ⟨bel_alloc (bel_set5 HB1.out (Nat.le_refl _) _ _ _ _ _) _, fun _ => rfl, fun T j h => by rw [refRd_none HD.out] at h; cases h⟩
set_option maxRecDepth 100000 in
set_option maxHeartbeats 4000000 in
theorem rread_some (N : Nat) (w : World) (p : Option Addr) (l c : Nat) (X : List Int) (hb : RdB w p l c X) (hX : By X) (hN : l ≤ N) (hl : l ≤ 100000) (T : VT N) (j : Nat) (hd : refV N 0 X = some (T, j)) :
    Calls Try.prog 9 #[.slice p l c] w (RdPost N (refRd N X) w) := by
  have HB := Lib.hid (rd_keep ((Below.refl w.heap.size w).alloc (Nat.le_refl _) (.cells #[.int .i64 0, .int .i64 0, .float .f64 0, .string ⟨#[]⟩, .slice none 0 0] 26)) hb)
  have HX := Lib.hid hX
  have HD := Lib.hid hd
  have RB := Lib.hid (row_alloc w #[.int .i64 0, .int .i64 0, .float .f64 0, .string ⟨#[]⟩, .slice none 0 0] 26)
  obtain ⟨E, hE⟩ : ∃ E, rcheckT N T = E := ⟨_, rfl⟩
  have HE := Lib.hid hE
  clear hd hb hX hE
  by_cases h0 : E = 0
  all_goals
    have hE0 : (E != 0) = decide (E ≠ 0) := by by_cases h : E = 0 <;> simp [h]
    have HE0 := Lib.hid h0
    go_enter Try.func9, Try.ntmps9
    go_wp2_with fail
    go_at_call 23; refine (rr_all N _ _ _ _ 0 X HB.out HX.out hN hl (by omega)).mono ?_; rintro e w1 ⟨hb1, hno, hyes⟩
    obtain ⟨v, rfl, hrep⟩ := hyes T j HD.out
    obtain ⟨K, I, F, S, q, a, d, rfl, _⟩ := repS_shape hrep
    have HB1 := Lib.hid (bel_box _ hb1)
    have HR := Lib.hid (rep_keep ((Below.refl w1.heap.size w1).alloc (Nat.le_refl _) (.cells #[.int .i64 K, .int .i64 I, .float .f64 F, .string S, .slice q a d] 26)) _ _ _ (repS_rep _ _ _ hrep))
    have hrlt := repS_lt _ _ _ hrep
    have HS := Lib.hid (repS_keep (fun b hb' => Below.heap_alloc w1 (.cells #[.int .i64 K, .int .i64 I, .float .f64 F, .string S, .slice q a d] 26) _ hb'.2) _ _ _ hrlt)
    have RB1 := Lib.hid (row_alloc_step (row_step RB.out hb1) (.cells #[.int .i64 K, .int .i64 I, .float .f64 F, .string S, .slice q a d] 26))
    have RV1 := Lib.hid (row_alloc w1 #[.int .i64 K, .int .i64 I, .float .f64 F, .string S, .slice q a d] 26)
    have hlw : w.heap.size < w1.heap.size := by have h3 := hb1.size; rw [World.size_alloc] at h3; omega
    clear hb1 hno hyes hrep hrlt
    go_wp2_with fail
    go_at_call 19; refine (rcheck_any N _ T _ HR.out).mono ?_; rintro e w2 ⟨rfl, hb2⟩
    rw [HE.out]
    have HB2 := Lib.hid (bel_step (bel_alloc HB1.out _) hb2)
    have HS2 := Lib.hid (repS_keep (fun b hb' => hb2.block b (by rw [World.size_alloc]; have := hb'.2; omega)) _ _ _ HS.out)
    have hr1 := row_step RB1.out hb2
    have hv1 := row_step RV1.out hb2
    have d0 := row_cell hr1 0; have d1 := row_cell hr1 1; have d2 := row_cell hr1 2; have d3 := row_cell hr1 3; have d4 := row_cell hr1 4
    have k0 := row_cell hv1 0; have k1 := row_cell hv1 1; have k2 := row_cell hv1 2; have k3 := row_cell hv1 3; have k4 := row_cell hv1 4
    simp only [List.getElem?_toArray, List.getElem?_cons_zero, List.getElem?_cons_succ] at d0 d1 d2 d3 d4 k0 k1 k2 k3 k4
    have df := fun o => row_frz hr1 o
    have hlt := row_lt hr1
    have hne : w.heap.size ≠ w1.heap.size := by omega
    have ha := fun (o : Obj) (v0 v1 v2 v3 v4 : Value) (i : Nat) => cell_alloc5 hlt o v0 v1 v2 v3 v4 i
    clear hr1 hv1 hb2
    go_wp2
  · refine bodyPost_ret (v := .tuple #[.agg #[.int .i64 K, .int .i64 I, .float .f64 F, .string S, .slice q a d], .int .i64 (j : Int), .int .i64 0]) (by simp [results, Try.results9, go_sem, ha, World.cell?_setCell_same, World.cell?_setCell_other, d0, d1, d2, d3, d4]) rfl ?_
    refine ⟨bel_set5 HB2.out (Nat.le_refl _) _ _ _ _ _, fun h => (by rw [refRd_ok HD.out (by rw [HE.out]; exact HE0.out)] at h; cases h), fun T' j' h => ?_⟩
    rw [refRd_ok HD.out (by rw [HE.out]; exact HE0.out)] at h
    cases h
    exact ⟨_, rfl, repS_rep _ _ _ (repS_keep (fun b hb' => set5_heap (show b ≠ w.heap.size by have h1 := hb'.1; rw [World.size_alloc] at h1; omega) _ _ _ _ _) _ _ _ HS2.out)⟩
  · refine bodyPost_ret (v := .tuple #[.agg #[.int .i64 0, .int .i64 0, .float .f64 0, .string ⟨#[]⟩, .slice none 0 0], .int .i64 0, .int .i64 20]) (by simp [results, Try.results9, go_sem, ha, World.cell?_setCell_same, World.cell?_setCell_other, d0, d1, d2, d3, d4]) rfl ?_
    exact ⟨bel_set5 HB2.out (Nat.le_refl _) _ _ _ _ _, fun _ => rfl, fun T j h => by rw [refRd_bad HD.out (by rw [HE.out]; exact HE0.out)] at h; cases h⟩
/-- Any bytes: what the reference reads. -/
theorem rread_any (N : Nat) (w : World) (p : Option Addr) (l c : Nat) (X : List Int) (hb : RdB w p l c X) (hX : By X) (hN : l ≤ N) (hl : l ≤ 100000) :
    Calls Try.prog 9 #[.slice p l c] w (RdPost N (refRd N X) w) := by
  cases hd : refV N 0 X with
  | none => exact rread_none N w p l c X hb hX hN hl hd
  | some q => obtain ⟨T, j⟩ := q; exact rread_some N w p l c X hb hX hN hl T j hd
/-- Any bytes, at most 4096: what the program reads. -/
theorem pread_any (N : Nat) (w : World) (p : Option Addr) (l c : Nat) (X : List Int) (hb : RdB w p l c X) (hX : By X) (hN : l ≤ N) (hl : l ≤ 4096) :
    Calls Try.prog 8 #[.slice p l c] w (RdPost N (progR N X) w) := by
  cases hd : decV N X with
  | none =>
    have h : progR N X = none := by unfold progR; rw [hd]
    refine (read_no N w p l c X hb hX hN hl hd).mono ?_
    rintro e w' ⟨rfl, hb'⟩
    exact ⟨hb', fun _ => rfl, fun T j h' => by rw [h] at h'; cases h'⟩
  | some q =>
    obtain ⟨T, j⟩ := q
    by_cases hc : checkM (measD N 0 T) = 0
    · have h : progR N X = some (T, j) := by unfold progR; rw [hd]; simp only; rw [if_pos hc]
      refine (mread_ok N w p l c X hb hX hN hl T j hd (by have := (decV_le _ _ _ _ hd).2; have := hb.1; omega) hc).mono ?_
      rintro e w' ⟨v, rfl, hb', hr⟩
      refine ⟨hb', fun h' => (by rw [h] at h'; cases h'), fun T' j' h' => ?_⟩
      rw [h] at h'
      cases h'
      exact ⟨v, rfl, repS_rep _ _ _ hr⟩
    · have h : progR N X = none := by unfold progR; rw [hd]; simp only; rw [if_neg hc]
      refine (mread_bad N w p l c X hb hX hN hl T j hd _ rfl (by simpa using hc)).mono ?_
      rintro e w' ⟨rfl, hb'⟩
      exact ⟨hb', fun _ => rfl, fun T j h' => by rw [h] at h'; cases h'⟩
end Num
end Go.Proofs.Ytbodakfgoijeeaa
