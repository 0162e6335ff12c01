/-
  What package wire reads: Read, of any bytes: no more than 4096 of them are looked at.
-/
import Derived.Test.YtbodakfgoijeeaaWZ
import Derived.Test.YtbodakfgoijeeaaMC
namespace Go.Proofs.Ytbodakfgoijeeaa
open Go.RowKit
namespace Num
open Ints
set_option linter.unusedSimpArgs false
set_option linter.unusedVariables false
theorem rd_cutB {w : World} {p : Option Addr} {l c : Nat} {X : List Int} (h : RdB w p l c X) {k : Nat} (hk : k ≤ l) : RdB w p k c (X.take k) := by
  obtain ⟨h1, h2, h3, h4, h5⟩ := h
  refine ⟨by rw [List.length_take]; omega, by omega, h3, fun hm => ?_, h5⟩
  obtain ⟨b, off, e, hc⟩ := h4 (by omega)
  refine ⟨b, off, e, fun i hi => ?_⟩
  rw [List.getElem_take]
  exact hc i (by rw [List.length_take] at hi; omega)
theorem parts_list {n : Nat} (L : List (VT n)) (a : Nat) : L.foldl (fun a x => a + partsT n x) a = a + L.foldl (fun a x => a + partsT n x) 0 := by
  induction L generalizing a with
  | nil => rfl
  | cons x L ih => rw [List.foldl_cons, List.foldl_cons, ih, ih (0 + partsT n x)]; omega
theorem decL_parts {n : Nat} (h : ∀ X T j, decV n X = some (T, j) → partsT n T ≤ j) : ∀ m X L k, decL (decV n) m X = some (L, k) → L.foldl (fun a x => a + partsT n x) 0 ≤ k := by
  intro m
  induction m with
  | zero => intro X L k e; cases e; exact Nat.le_refl _
  | succ m ih =>
    intro X L k e
    rw [decL] at e
    cases h1 : decL (decV n) m X with
    | none => rw [h1] at e; cases e
    | some q =>
      obtain ⟨L1, k1⟩ := q
      rw [h1] at e
      have a := ih X L1 k1 h1
      cases h2 : decV n (X.drop k1) with
      | none => simp only [h2] at e; cases e
      | some q =>
        obtain ⟨T, j⟩ := q
        simp only [h2] at e
        have d := h _ _ _ h2
        cases e
        rw [List.foldl_append, List.foldl_cons, List.foldl_nil]
        omega
/-- A value has no more parts than bytes. -/
theorem decV_parts : ∀ n X (T : VT n) j, decV n X = some (T, j) → partsT n T ≤ j := by
  intro n
  induction n with
  | zero => intro X T j e; cases e
  | succ n ih =>
    intro X T j e
    cases X with
    | nil => cases e
    | cons k R =>
      rw [decV] at e
      by_cases h0 : (k == 0) = true
      · rw [if_pos h0] at e; cases e; exact Nat.le_refl _
      rw [if_neg h0] at e
      by_cases h1 : (k == 1) = true
      · rw [if_pos h1] at e; split at e
        · cases e; show (if ((1 : Int) == 4) = true then _ else 1) ≤ 9; rw [if_neg (by decide)]; omega
        · cases e
      rw [if_neg h1] at e
      by_cases h2 : (k == 2) = true
      · rw [if_pos h2] at e; split at e
        · cases e; show (if ((2 : Int) == 4) = true then _ else 1) ≤ 9; rw [if_neg (by decide)]; omega
        · cases e
      rw [if_neg h2] at e
      by_cases h3 : (k == 3) = true
      · rw [if_pos h3] at e; split at e
        · cases e; show (if ((3 : Int) == 4) = true then _ else 1) ≤ _; rw [if_neg (by decide)]; omega
        · cases e
      rw [if_neg h3] at e
      by_cases h4 : (k == 4) = true
      · rw [if_pos h4] at e
        cases h5 : decR (decV n) R with
        | none => rw [h5] at e; cases e
        | some q =>
          obtain ⟨L, j2⟩ := q
          rw [h5] at e
          cases e
          show (if ((4 : Int) == 4) = true then L.foldl (fun a x => a + partsT n x) 1 else 1) ≤ _
          rw [if_pos (by decide), parts_list L 1]
          cases R with
          | nil => cases h5
          | cons m R =>
            rw [decR] at h5
            cases h6 : decL (decV n) m.toNat R with
            | none => simp only [h6] at h5; cases h5
            | some q =>
              obtain ⟨L1, k1⟩ := q
              simp only [h6] at h5
              cases h5
              have := decL_parts ih _ _ _ _ h6
              omega
      · rw [if_neg h4] at e; cases e
set_option maxRecDepth 100000 in
set_option maxHeartbeats 4000000 in
theorem mread_bad (N : Nat) (w : World) (p : Option Addr) (l c : Nat) (X : List Int) (hb : RdB w p l c X) (hX : By X) (hN : l ≤ N) (hl : l ≤ 4096) (T : VT N) (j : Nat) (hd : decV N X = some (T, j)) (E : Int) (hc : checkM (measD N 0 T) = E) (hE : (E != 0) = true) :
    Calls Try.prog 8 #[.slice p l c] w fun e w' => e = .returned (.tuple #[.agg #[.int .i64 0, .int .i64 0, .float .f64 0, .string ⟨#[]⟩, .slice none 0 0], .int .i64 0, .int .i64 20]) ∧ Below w.heap.size w w' := by
  have hlc := hb.2.1
  have hcm := hb.2.2.1
  unfold maxLen at hcm
  have HB := Lib.hid (rd_keep ((Below.refl w.heap.size w).alloc (Nat.le_refl _) (.cells #[.int .i64 0, .int .i64 0, .float .f64 0, .string ⟨#[]⟩, .slice none 0 0] 26)) hb)
  have HX := Lib.hid hX
  have HD := Lib.hid hd
  have RB := Lib.hid (row_alloc w #[.int .i64 0, .int .i64 0, .float .f64 0, .string ⟨#[]⟩, .slice none 0 0] 26)
  clear hd
  have HC := Lib.hid hc
  have HPT := Lib.hid (show partsT N T ≤ 1000000 by have h1 := decV_parts _ _ _ _ HD.out; have h2 := (decV_le _ _ _ _ HD.out).2; have h3 := hb.1; (try rw [List.length_take] at h2); omega)
  clear hc
  rcases rd_p hb with ⟨rfl, rfl, rfl⟩ | ⟨ad, rfl⟩
  all_goals
    clear hb hX
    go_enter Try.func8, Try.ntmps8
    go_wp2_with fail
    go_at_call 21; refine (rv_all N _ _ _ _ X HB.out HX.out hN (by omega)).mono ?_; rintro e w1 ⟨hb1, hno, hyes⟩
    obtain ⟨v, rfl, hrep⟩ := hyes T j HD.out
    obtain ⟨K, I, F, S, q, a, d, rfl, _⟩ := repS_shape hrep
    have HB1 := Lib.hid (bel_box _ hb1)
    have hlw : w.heap.size < w1.heap.size := by have h3 := hb1.size; rw [World.size_alloc] at h3; omega
    have HR := Lib.hid (repS_keep (fun b (hb' : (w.alloc (.cells #[.int .i64 0, .int .i64 0, .float .f64 0, .string ⟨#[]⟩, .slice none 0 0] 26)).heap.size ≤ b ∧ b < w1.heap.size) => Below.heap_alloc w1 (.cells #[.int .i64 K, .int .i64 I, .float .f64 F, .string S, .slice q a d] 26) b hb'.2) _ _ _ (repS_lt _ _ _ hrep))
    have HS := Lib.hid hrep
    have RB1 := Lib.hid (row_alloc_step (row_step RB.out hb1) (.cells #[.int .i64 K, .int .i64 I, .float .f64 F, .string S, .slice q a d] 26))
    have RV1 := Lib.hid (row_alloc w1 #[.int .i64 K, .int .i64 I, .float .f64 F, .string S, .slice q a d] 26)
    clear hb1 hno hyes hrep
    go_wp2_with fail
    go_at_call 22; refine (checkM_any N _ K I F S q a d T _ HR.out HPT.out).mono ?_; rintro e w2 ⟨rfl, hb2⟩
    rw [HC.out]
    have HB2 := Lib.hid (bel_step (bel_alloc HB1.out _) hb2)
    have hr1 := row_step RB1.out hb2
    have hv1 := row_step RV1.out hb2
    have d0 := row_cell hr1 0; have d1 := row_cell hr1 1; have d2 := row_cell hr1 2; have d3 := row_cell hr1 3; have d4 := row_cell hr1 4
    have k0 := row_cell hv1 0; have k1 := row_cell hv1 1; have k2 := row_cell hv1 2; have k3 := row_cell hv1 3; have k4 := row_cell hv1 4
    simp only [List.getElem?_toArray, List.getElem?_cons_zero, List.getElem?_cons_succ] at d0 d1 d2 d3 d4 k0 k1 k2 k3 k4
    have df := fun o => row_frz hr1 o
    have hlt := row_lt hr1
    have hne : w.heap.size ≠ w1.heap.size := by omega
    have ha := fun (o : Obj) (v0 v1 v2 v3 v4 : Value) (i : Nat) => cell_alloc5 hlt o v0 v1 v2 v3 v4 i
    clear hr1 hv1 hb2
    go_wp2
    skip
    refine bodyPost_ret (v := .tuple #[.agg #[.int .i64 0, .int .i64 0, .float .f64 0, .string ⟨#[]⟩, .slice none 0 0], .int .i64 0, .int .i64 20]) (by simp [results, Try.results8, go_sem, ha, World.cell?_setCell_same, World.cell?_setCell_other, d0, d1, d2, d3, d4]) rfl ?_
    exact ⟨rfl, bel_set5 HB2.out (Nat.le_refl _) _ _ _ _ _⟩
set_option maxRecDepth 100000 in
set_option maxHeartbeats 4000000 in
theorem mread_ok (N : Nat) (w : World) (p : Option Addr) (l c : Nat) (X : List Int) (hb : RdB w p l c X) (hX : By X) (hN : l ≤ N) (hl : l ≤ 4096) (T : VT N) (j : Nat) (hd : decV N X = some (T, j)) (hj : j ≤ 100000) (hc : checkM (measD N 0 T) = 0) :
    Calls Try.prog 8 #[.slice p l c] w fun e w' => ∃ v, e = .returned (.tuple #[v, .int .i64 (j : Int), .int .i64 0]) ∧ Below w.heap.size w w' ∧ RepS (fun b => w.heap.size < b) w' N v T := by
  have hlc := hb.2.1
  have hcm := hb.2.2.1
  unfold maxLen at hcm
  have HB := Lib.hid (rd_keep ((Below.refl w.heap.size w).alloc (Nat.le_refl _) (.cells #[.int .i64 0, .int .i64 0, .float .f64 0, .string ⟨#[]⟩, .slice none 0 0] 26)) hb)
  have HX := Lib.hid hX
  have HD := Lib.hid hd
  have RB := Lib.hid (row_alloc w #[.int .i64 0, .int .i64 0, .float .f64 0, .string ⟨#[]⟩, .slice none 0 0] 26)
  clear hd
  have HC := Lib.hid hc
  have HPT := Lib.hid (show partsT N T ≤ 1000000 by have h1 := decV_parts _ _ _ _ HD.out; have h2 := (decV_le _ _ _ _ HD.out).2; have h3 := hb.1; (try rw [List.length_take] at h2); omega)
  clear hc
  rcases rd_p hb with ⟨rfl, rfl, rfl⟩ | ⟨ad, rfl⟩
  all_goals
    clear hb hX
    go_enter Try.func8, Try.ntmps8
    go_wp2_with fail
    go_at_call 21; refine (rv_all N _ _ _ _ X HB.out HX.out hN (by omega)).mono ?_; rintro e w1 ⟨hb1, hno, hyes⟩
    obtain ⟨v, rfl, hrep⟩ := hyes T j HD.out
    obtain ⟨K, I, F, S, q, a, d, rfl, _⟩ := repS_shape hrep
    have HB1 := Lib.hid (bel_box _ hb1)
    have hlw : w.heap.size < w1.heap.size := by have h3 := hb1.size; rw [World.size_alloc] at h3; omega
    have HR := Lib.hid (repS_keep (fun b (hb' : (w.alloc (.cells #[.int .i64 0, .int .i64 0, .float .f64 0, .string ⟨#[]⟩, .slice none 0 0] 26)).heap.size ≤ b ∧ b < w1.heap.size) => Below.heap_alloc w1 (.cells #[.int .i64 K, .int .i64 I, .float .f64 F, .string S, .slice q a d] 26) b hb'.2) _ _ _ (repS_lt _ _ _ hrep))
    have HS := Lib.hid hrep
    have RB1 := Lib.hid (row_alloc_step (row_step RB.out hb1) (.cells #[.int .i64 K, .int .i64 I, .float .f64 F, .string S, .slice q a d] 26))
    have RV1 := Lib.hid (row_alloc w1 #[.int .i64 K, .int .i64 I, .float .f64 F, .string S, .slice q a d] 26)
    clear hb1 hno hyes hrep
    go_wp2_with fail
    go_at_call 22; refine (checkM_any N _ K I F S q a d T _ HR.out HPT.out).mono ?_; rintro e w2 ⟨rfl, hb2⟩
    rw [HC.out]
    have HB2 := Lib.hid (bel_step (bel_alloc HB1.out _) hb2)
    have hr1 := row_step RB1.out hb2
    have hv1 := row_step RV1.out hb2
    have d0 := row_cell hr1 0; have d1 := row_cell hr1 1; have d2 := row_cell hr1 2; have d3 := row_cell hr1 3; have d4 := row_cell hr1 4
    have k0 := row_cell hv1 0; have k1 := row_cell hv1 1; have k2 := row_cell hv1 2; have k3 := row_cell hv1 3; have k4 := row_cell hv1 4
    simp only [List.getElem?_toArray, List.getElem?_cons_zero, List.getElem?_cons_succ] at d0 d1 d2 d3 d4 k0 k1 k2 k3 k4
    have df := fun o => row_frz hr1 o
    have hlt := row_lt hr1
    have hne : w.heap.size ≠ w1.heap.size := by omega
    have hrep2 := repS_keep (fun b (hb' : w.heap.size < b ∧ b < w1.heap.size) => ((hb2.block b (by rw [World.size_alloc]; omega)).trans (Below.heap_alloc w1 (.cells #[.int .i64 K, .int .i64 I, .float .f64 F, .string S, .slice q a d] 26) b hb'.2)).symm.symm) _ _ _ (repS_mono (fun b (h : (w.alloc (.cells #[.int .i64 0, .int .i64 0, .float .f64 0, .string ⟨#[]⟩, .slice none 0 0] 26)).heap.size ≤ b ∧ b < w1.heap.size) => (⟨by have h3 := h.1; rw [World.size_alloc] at h3; omega, h.2⟩ : w.heap.size < b ∧ b < w1.heap.size)) _ _ _ (repS_lt _ _ _ HS.out))
    have HS2 := Lib.hid (repS_mono (fun b h => h.1) _ _ _ hrep2)
    clear hrep2
    have ha := fun (o : Obj) (v0 v1 v2 v3 v4 : Value) (i : Nat) => cell_alloc5 hlt o v0 v1 v2 v3 v4 i
    clear hr1 hv1 hb2
    go_wp2
    refine bodyPost_ret (v := .tuple #[.agg #[.int .i64 K, .int .i64 I, .float .f64 F, .string S, .slice q a d], .int .i64 (j : Int), .int .i64 0]) (by simp [results, Try.results8, go_sem, ha, World.cell?_setCell_same, World.cell?_setCell_other, d0, d1, d2, d3, d4]) rfl ?_
    exact ⟨_, rfl, bel_set5 HB2.out (Nat.le_refl _) _ _ _ _ _, repS_keep (fun b h => set5_heap (by omega) _ _ _ _ _) _ _ _ HS2.out⟩
set_option maxRecDepth 100000 in
set_option maxHeartbeats 4000000 in
theorem gread_no (N : Nat) (w : World) (p : Option Addr) (l c : Nat) (X : List Int) (hb : RdB w p l c X) (hX : By X) (hN : 4096 ≤ N) (hl : 4096 < l) (hl2 : l ≤ 1000000) (hd : decV N (X.take 4096) = none) :
    Calls Try.prog 8 #[.slice p l c] w fun e w' => e = .returned (.tuple #[.agg #[.int .i64 0, .int .i64 0, .float .f64 0, .string ⟨#[]⟩, .slice none 0 0], .int .i64 0, .int .i64 20]) ∧ Below w.heap.size w w' := by
  have hlc := hb.2.1
  have hcm := hb.2.2.1
  unfold maxLen at hcm
  have HB := Lib.hid (rd_keep ((Below.refl w.heap.size w).alloc (Nat.le_refl _) (.cells #[.int .i64 0, .int .i64 0, .float .f64 0, .string ⟨#[]⟩, .slice none 0 0] 26)) (rd_cutB hb (k := 4096) (by omega)))
  have HX := Lib.hid (by_take hX 4096)
  have hl4 : ¬ ((l : Int) < 4096) := by omega
  have hl5 : (4096 : Int) < (l : Int) := by omega
  have HD := Lib.hid hd
  have RB := Lib.hid (row_alloc w #[.int .i64 0, .int .i64 0, .float .f64 0, .string ⟨#[]⟩, .slice none 0 0] 26)
  clear hd
  rcases rd_p hb with ⟨rfl, h0, rfl⟩ | ⟨ad, rfl⟩
  · exact absurd h0 (by omega)
  all_goals
    clear hb hX
    go_enter Try.func8, Try.ntmps8
    go_wp2_with fail
    go_at_call 21; refine (rv_all N _ _ _ _ (X.take 4096) HB.out HX.out hN (by omega)).mono ?_; rintro e w1 ⟨hb1, hno, hyes⟩
    obtain ⟨K, I, F, S, q, a, d, m, rfl⟩ := hno HD.out
    have HB1 := Lib.hid (bel_box _ hb1)
    have hr1 := row_step RB.out hb1
    have d0 := row_cell hr1 0
    have d1 := row_cell hr1 1
    have d2 := row_cell hr1 2
    have d3 := row_cell hr1 3
    have d4 := row_cell hr1 4
    simp only [List.getElem?_toArray, List.getElem?_cons_zero, List.getElem?_cons_succ] at d0 d1 d2 d3 d4
    have df := fun o => row_frz hr1 o
    have hlt := row_lt hr1
    have hne : w.heap.size ≠ w1.heap.size := by omega
    have ha := fun (o : Obj) (v0 v1 v2 v3 v4 : Value) (i : Nat) => cell_alloc5 hlt o v0 v1 v2 v3 v4 i
    clear hb1 hno hyes hr1
    go_wp2
    refine bodyPost_ret (v := .tuple #[.agg #[.int .i64 0, .int .i64 0, .float .f64 0, .string ⟨#[]⟩, .slice none 0 0], .int .i64 0, .int .i64 20]) (by simp [results, Try.results8, go_sem, ha, World.cell?_setCell_same, World.cell?_setCell_other, d0, d1, d2, d3, d4]) rfl ?_
    exact ⟨rfl, bel_alloc (bel_set5 HB1.out (Nat.le_refl _) _ _ _ _ _) _⟩
set_option maxRecDepth 100000 in
set_option maxHeartbeats 4000000 in
theorem gread_bad (N : Nat) (w : World) (p : Option Addr) (l c : Nat) (X : List Int) (hb : RdB w p l c X) (hX : By X) (hN : 4096 ≤ N) (hl : 4096 < l) (hl2 : l ≤ 1000000) (T : VT N) (j : Nat) (hd : decV N (X.take 4096) = some (T, j)) (E : Int) (hc : checkM (measD N 0 T) = E) (hE : (E != 0) = true) :
    Calls Try.prog 8 #[.slice p l c] w fun e w' => e = .returned (.tuple #[.agg #[.int .i64 0, .int .i64 0, .float .f64 0, .string ⟨#[]⟩, .slice none 0 0], .int .i64 0, .int .i64 20]) ∧ Below w.heap.size w w' := by
  have hlc := hb.2.1
  have hcm := hb.2.2.1
  unfold maxLen at hcm
  have HB := Lib.hid (rd_keep ((Below.refl w.heap.size w).alloc (Nat.le_refl _) (.cells #[.int .i64 0, .int .i64 0, .float .f64 0, .string ⟨#[]⟩, .slice none 0 0] 26)) (rd_cutB hb (k := 4096) (by omega)))
  have HX := Lib.hid (by_take hX 4096)
  have hl4 : ¬ ((l : Int) < 4096) := by omega
  have hl5 : (4096 : Int) < (l : Int) := by omega
  have HD := Lib.hid hd
  have RB := Lib.hid (row_alloc w #[.int .i64 0, .int .i64 0, .float .f64 0, .string ⟨#[]⟩, .slice none 0 0] 26)
  clear hd
  have HC := Lib.hid hc
  have HPT := Lib.hid (show partsT N T ≤ 1000000 by have h1 := decV_parts _ _ _ _ HD.out; have h2 := (decV_le _ _ _ _ HD.out).2; have h3 := hb.1; (try rw [List.length_take] at h2); omega)
  clear hc
  rcases rd_p hb with ⟨rfl, h0, rfl⟩ | ⟨ad, rfl⟩
  · exact absurd h0 (by omega)
  all_goals
    clear hb hX
    go_enter Try.func8, Try.ntmps8
    go_wp2_with fail
    go_at_call 21; refine (rv_all N _ _ _ _ (X.take 4096) HB.out HX.out hN (by omega)).mono ?_; rintro e w1 ⟨hb1, hno, hyes⟩
    obtain ⟨v, rfl, hrep⟩ := hyes T j HD.out
    obtain ⟨K, I, F, S, q, a, d, rfl, _⟩ := repS_shape hrep
    have HB1 := Lib.hid (bel_box _ hb1)
    have hlw : w.heap.size < w1.heap.size := by have h3 := hb1.size; rw [World.size_alloc] at h3; omega
    have HR := Lib.hid (repS_keep (fun b (hb' : (w.alloc (.cells #[.int .i64 0, .int .i64 0, .float .f64 0, .string ⟨#[]⟩, .slice none 0 0] 26)).heap.size ≤ b ∧ b < w1.heap.size) => Below.heap_alloc w1 (.cells #[.int .i64 K, .int .i64 I, .float .f64 F, .string S, .slice q a d] 26) b hb'.2) _ _ _ (repS_lt _ _ _ hrep))
    have HS := Lib.hid hrep
    have RB1 := Lib.hid (row_alloc_step (row_step RB.out hb1) (.cells #[.int .i64 K, .int .i64 I, .float .f64 F, .string S, .slice q a d] 26))
    have RV1 := Lib.hid (row_alloc w1 #[.int .i64 K, .int .i64 I, .float .f64 F, .string S, .slice q a d] 26)
    clear hb1 hno hyes hrep
    go_wp2_with fail
    go_at_call 22; refine (checkM_any N _ K I F S q a d T _ HR.out HPT.out).mono ?_; rintro e w2 ⟨rfl, hb2⟩
    rw [HC.out]
    have HB2 := Lib.hid (bel_step (bel_alloc HB1.out _) hb2)
    have hr1 := row_step RB1.out hb2
    have hv1 := row_step RV1.out hb2
    have d0 := row_cell hr1 0; have d1 := row_cell hr1 1; have d2 := row_cell hr1 2; have d3 := row_cell hr1 3; have d4 := row_cell hr1 4
    have k0 := row_cell hv1 0; have k1 := row_cell hv1 1; have k2 := row_cell hv1 2; have k3 := row_cell hv1 3; have k4 := row_cell hv1 4
    simp only [List.getElem?_toArray, List.getElem?_cons_zero, List.getElem?_cons_succ] at d0 d1 d2 d3 d4 k0 k1 k2 k3 k4
    have df := fun o => row_frz hr1 o
    have hlt := row_lt hr1
    have hne : w.heap.size ≠ w1.heap.size := by omega
    have ha := fun (o : Obj) (v0 v1 v2 v3 v4 : Value) (i : Nat) => cell_alloc5 hlt o v0 v1 v2 v3 v4 i
    clear hr1 hv1 hb2
    go_wp2
    skip
    refine bodyPost_ret (v := .tuple #[.agg #[.int .i64 0, .int .i64 0, .float .f64 0, .string ⟨#[]⟩, .slice none 0 0], .int .i64 0, .int .i64 20]) (by simp [results, Try.results8, go_sem, ha, World.cell?_setCell_same, World.cell?_setCell_other, d0, d1, d2, d3, d4]) rfl ?_
    exact ⟨rfl, bel_set5 HB2.out (Nat.le_refl _) _ _ _ _ _⟩
set_option maxRecDepth 100000 in
set_option maxHeartbeats 4000000 in
theorem gread_ok (N : Nat) (w : World) (p : Option Addr) (l c : Nat) (X : List Int) (hb : RdB w p l c X) (hX : By X) (hN : 4096 ≤ N) (hl : 4096 < l) (hl2 : l ≤ 1000000) (T : VT N) (j : Nat) (hd : decV N (X.take 4096) = some (T, j)) (hj : j ≤ 100000) (hc : checkM (measD N 0 T) = 0) :
    Calls Try.prog 8 #[.slice p l c] w fun e w' => ∃ v, e = .returned (.tuple #[v, .int .i64 (j : Int), .int .i64 0]) ∧ Below w.heap.size w w' ∧ RepS (fun b => w.heap.size < b) w' N v T := by
  have hlc := hb.2.1
  have hcm := hb.2.2.1
  unfold maxLen at hcm
  have HB := Lib.hid (rd_keep ((Below.refl w.heap.size w).alloc (Nat.le_refl _) (.cells #[.int .i64 0, .int .i64 0, .float .f64 0, .string ⟨#[]⟩, .slice none 0 0] 26)) (rd_cutB hb (k := 4096) (by omega)))
  have HX := Lib.hid (by_take hX 4096)
  have hl4 : ¬ ((l : Int) < 4096) := by omega
  have hl5 : (4096 : Int) < (l : Int) := by omega
  have HD := Lib.hid hd
  have RB := Lib.hid (row_alloc w #[.int .i64 0, .int .i64 0, .float .f64 0, .string ⟨#[]⟩, .slice none 0 0] 26)
  clear hd
  have HC := Lib.hid hc
  have HPT := Lib.hid (show partsT N T ≤ 1000000 by have h1 := decV_parts _ _ _ _ HD.out; have h2 := (decV_le _ _ _ _ HD.out).2; have h3 := hb.1; (try rw [List.length_take] at h2); omega)
  clear hc
  rcases rd_p hb with ⟨rfl, h0, rfl⟩ | ⟨ad, rfl⟩
  · exact absurd h0 (by omega)
  all_goals
    clear hb hX
    go_enter Try.func8, Try.ntmps8
    go_wp2_with fail
    go_at_call 21; refine (rv_all N _ _ _ _ (X.take 4096) HB.out HX.out hN (by omega)).mono ?_; rintro e w1 ⟨hb1, hno, hyes⟩
    obtain ⟨v, rfl, hrep⟩ := hyes T j HD.out
    obtain ⟨K, I, F, S, q, a, d, rfl, _⟩ := repS_shape hrep
    have HB1 := Lib.hid (bel_box _ hb1)
    have hlw : w.heap.size < w1.heap.size := by have h3 := hb1.size; rw [World.size_alloc] at h3; omega
    have HR := Lib.hid (repS_keep (fun b (hb' : (w.alloc (.cells #[.int .i64 0, .int .i64 0, .float .f64 0, .string ⟨#[]⟩, .slice none 0 0] 26)).heap.size ≤ b ∧ b < w1.heap.size) => Below.heap_alloc w1 (.cells #[.int .i64 K, .int .i64 I, .float .f64 F, .string S, .slice q a d] 26) b hb'.2) _ _ _ (repS_lt _ _ _ hrep))
    have HS := Lib.hid hrep
    have RB1 := Lib.hid (row_alloc_step (row_step RB.out hb1) (.cells #[.int .i64 K, .int .i64 I, .float .f64 F, .string S, .slice q a d] 26))
    have RV1 := Lib.hid (row_alloc w1 #[.int .i64 K, .int .i64 I, .float .f64 F, .string S, .slice q a d] 26)
    clear hb1 hno hyes hrep
    go_wp2_with fail
    go_at_call 22; refine (checkM_any N _ K I F S q a d T _ HR.out HPT.out).mono ?_; rintro e w2 ⟨rfl, hb2⟩
    rw [HC.out]
    have HB2 := Lib.hid (bel_step (bel_alloc HB1.out _) hb2)
    have hr1 := row_step RB1.out hb2
    have hv1 := row_step RV1.out hb2
    have d0 := row_cell hr1 0; have d1 := row_cell hr1 1; have d2 := row_cell hr1 2; have d3 := row_cell hr1 3; have d4 := row_cell hr1 4
    have k0 := row_cell hv1 0; have k1 := row_cell hv1 1; have k2 := row_cell hv1 2; have k3 := row_cell hv1 3; have k4 := row_cell hv1 4
    simp only [List.getElem?_toArray, List.getElem?_cons_zero, List.getElem?_cons_succ] at d0 d1 d2 d3 d4 k0 k1 k2 k3 k4
    have df := fun o => row_frz hr1 o
    have hlt := row_lt hr1
    have hne : w.heap.size ≠ w1.heap.size := by omega
    have hrep2 := repS_keep (fun b (hb' : w.heap.size < b ∧ b < w1.heap.size) => ((hb2.block b (by rw [World.size_alloc]; omega)).trans (Below.heap_alloc w1 (.cells #[.int .i64 K, .int .i64 I, .float .f64 F, .string S, .slice q a d] 26) b hb'.2)).symm.symm) _ _ _ (repS_mono (fun b (h : (w.alloc (.cells #[.int .i64 0, .int .i64 0, .float .f64 0, .string ⟨#[]⟩, .slice none 0 0] 26)).heap.size ≤ b ∧ b < w1.heap.size) => (⟨by have h3 := h.1; rw [World.size_alloc] at h3; omega, h.2⟩ : w.heap.size < b ∧ b < w1.heap.size)) _ _ _ (repS_lt _ _ _ HS.out))
    have HS2 := Lib.hid (repS_mono (fun b h => h.1) _ _ _ hrep2)
    clear hrep2
    have ha := fun (o : Obj) (v0 v1 v2 v3 v4 : Value) (i : Nat) => cell_alloc5 hlt o v0 v1 v2 v3 v4 i
    clear hr1 hv1 hb2
    go_wp2
    refine bodyPost_ret (v := .tuple #[.agg #[.int .i64 K, .int .i64 I, .float .f64 F, .string S, .slice q a d], .int .i64 (j : Int), .int .i64 0]) (by simp [results, Try.results8, go_sem, ha, World.cell?_setCell_same, World.cell?_setCell_other, d0, d1, d2, d3, d4]) rfl ?_
    exact ⟨_, rfl, bel_set5 HB2.out (Nat.le_refl _) _ _ _ _ _, repS_keep (fun b h => set5_heap (by omega) _ _ _ _ _) _ _ _ HS2.out⟩
end Num
end Go.Proofs.Ytbodakfgoijeeaa
