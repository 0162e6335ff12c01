/-
  What package wire reads: Read, of at most as many bytes as a value may have.
-/
import Derived.Test.YtbodakfgoijeeaaWY
import Derived.Test.YtbodakfgoijeeaaVCheck
namespace Go.Proofs.Ytbodakfgoijeeaa
open Go.RowKit
namespace Num
open Ints
set_option linter.unusedSimpArgs false
set_option linter.unusedVariables false
theorem cell_alloc5 {w : World} {b : Nat} (hb : b < w.heap.size) (o : Obj) (v0 v1 v2 v3 v4 : Value) (i : Nat) : ((((((w.setCell ⟨b, 0, none⟩ v0).setCell ⟨b, 1, none⟩ v1).setCell ⟨b, 2, none⟩ v2).setCell ⟨b, 3, none⟩ v3).setCell ⟨b, 4, none⟩ v4).alloc o).cell? ⟨b, i, none⟩ = (((((w.setCell ⟨b, 0, none⟩ v0).setCell ⟨b, 1, none⟩ v1).setCell ⟨b, 2, none⟩ v2).setCell ⟨b, 3, none⟩ v3).setCell ⟨b, 4, none⟩ v4).cell? ⟨b, i, none⟩ :=
  World.cell?_alloc_lt _ _ _ (by simp only [World.size_setCell]; exact hb)
theorem rd_p {w : World} {p : Option Addr} {l c : Nat} {X : List Int} (h : RdB w p l c X) : p = none ∧ l = 0 ∧ c = 0 ∨ ∃ ad, p = some ad := by
  cases p with
  | none => exact Or.inl ⟨rfl, by have h1 := h.2.2.2.2 rfl; have h2 := h.2.1; omega, h.2.2.2.2 rfl⟩
  | some ad => exact Or.inr ⟨ad, rfl⟩
set_option maxRecDepth 100000 in
set_option maxHeartbeats 4000000 in
theorem read_no (N : Nat) (w : World) (p : Option Addr) (l c : Nat) (X : List Int) (hb : RdB w p l c X) (hX : By X) (hN : l ≤ N) (hl : l ≤ 4096) (hd : decV N X = none) :
    Calls Try.prog 8 #[.slice p l c] w fun e w' => e = .returned (.tuple #[.agg #[.int .i64 0, .int .i64 0, .float .f64 0, .string ⟨#[]⟩, .slice none 0 0], .int .i64 0, .int .i64 20]) ∧ Below w.heap.size w w' := by
  have hlc := hb.2.1
  have hcm := hb.2.2.1
  unfold maxLen at hcm
  have HB := Lib.hid (rd_keep ((Below.refl w.heap.size w).alloc (Nat.le_refl _) (.cells #[.int .i64 0, .int .i64 0, .float .f64 0, .string ⟨#[]⟩, .slice none 0 0] 26)) hb)
  have HX := Lib.hid hX
  have HD := Lib.hid hd
  have RB := Lib.hid (row_alloc w #[.int .i64 0, .int .i64 0, .float .f64 0, .string ⟨#[]⟩, .slice none 0 0] 26)
  clear hd
  rcases rd_p hb with ⟨rfl, rfl, rfl⟩ | ⟨ad, rfl⟩
  all_goals
    clear hb hX
    go_enter Try.func8, Try.ntmps8
    go_wp2_with fail
    go_at_call 21; refine (rv_all N _ _ _ _ X HB.out HX.out hN (by omega)).mono ?_; rintro e w1 ⟨hb1, hno, hyes⟩
    obtain ⟨K, I, F, S, q, a, d, m, rfl⟩ := hno HD.out
    have HB1 := Lib.hid (bel_box _ hb1)
    have hr1 := row_step RB.out hb1
    have d0 := row_cell hr1 0
    have d1 := row_cell hr1 1
    have d2 := row_cell hr1 2
    have d3 := row_cell hr1 3
    have d4 := row_cell hr1 4
    simp only [List.getElem?_toArray, List.getElem?_cons_zero, List.getElem?_cons_succ] at d0 d1 d2 d3 d4
    have df := fun o => row_frz hr1 o
    have hlt := row_lt hr1
    have hne : w.heap.size ≠ w1.heap.size := by omega
    have ha := fun (o : Obj) (v0 v1 v2 v3 v4 : Value) (i : Nat) => cell_alloc5 hlt o v0 v1 v2 v3 v4 i
    clear hb1 hno hyes hr1
    go_wp2
    refine bodyPost_ret (v := .tuple #[.agg #[.int .i64 0, .int .i64 0, .float .f64 0, .string ⟨#[]⟩, .slice none 0 0], .int .i64 0, .int .i64 20]) (by simp [results, Try.results8, go_sem, ha, World.cell?_setCell_same, World.cell?_setCell_other, d0, d1, d2, d3, d4]) rfl ?_
    exact ⟨rfl, bel_alloc (bel_set5 HB1.out (Nat.le_refl _) _ _ _ _ _) _⟩
set_option maxRecDepth 100000 in
set_option maxHeartbeats 4000000 in
theorem read_bad (N : Nat) (w : World) (p : Option Addr) (l c : Nat) (X : List Int) (hb : RdB w p l c X) (hX : By X) (hN : l ≤ N) (hl : l ≤ 4096) (T : VT N) (j : Nat) (hd : decV N X = some (T, j)) (hdp : deepT N T 64 = false) (hpt : partsT N T ≤ 1000) (E : Int) (hc : checkM (measT N T) = E) (hE : (E != 0) = true) :
    Calls Try.prog 8 #[.slice p l c] w fun e w' => e = .returned (.tuple #[.agg #[.int .i64 0, .int .i64 0, .float .f64 0, .string ⟨#[]⟩, .slice none 0 0], .int .i64 0, .int .i64 20]) ∧ Below w.heap.size w w' := by
  have hlc := hb.2.1
  have hcm := hb.2.2.1
  unfold maxLen at hcm
  have HB := Lib.hid (rd_keep ((Below.refl w.heap.size w).alloc (Nat.le_refl _) (.cells #[.int .i64 0, .int .i64 0, .float .f64 0, .string ⟨#[]⟩, .slice none 0 0] 26)) hb)
  have HX := Lib.hid hX
  have HD := Lib.hid hd
  have RB := Lib.hid (row_alloc w #[.int .i64 0, .int .i64 0, .float .f64 0, .string ⟨#[]⟩, .slice none 0 0] 26)
  clear hd
  have HC := Lib.hid hc
  clear hc
  rcases rd_p hb with ⟨rfl, rfl, rfl⟩ | ⟨ad, rfl⟩
  all_goals
    clear hb hX
    go_enter Try.func8, Try.ntmps8
    go_wp2_with fail
    go_at_call 21; refine (rv_all N _ _ _ _ X HB.out HX.out hN (by omega)).mono ?_; rintro e w1 ⟨hb1, hno, hyes⟩
    obtain ⟨v, rfl, hrep⟩ := hyes T j HD.out
    obtain ⟨K, I, F, S, q, a, d, rfl, _⟩ := repS_shape hrep
    have HB1 := Lib.hid (bel_box _ hb1)
    have hlw : w.heap.size < w1.heap.size := by have h3 := hb1.size; rw [World.size_alloc] at h3; omega
    have HR := Lib.hid (repS_rep _ _ _ (repS_keep (fun b (hb' : (w.alloc (.cells #[.int .i64 0, .int .i64 0, .float .f64 0, .string ⟨#[]⟩, .slice none 0 0] 26)).heap.size ≤ b ∧ b < w1.heap.size) => Below.heap_alloc w1 (.cells #[.int .i64 K, .int .i64 I, .float .f64 F, .string S, .slice q a d] 26) b hb'.2) _ _ _ (repS_lt _ _ _ hrep)))
    have HS := Lib.hid hrep
    have RB1 := Lib.hid (row_alloc_step (row_step RB.out hb1) (.cells #[.int .i64 K, .int .i64 I, .float .f64 F, .string S, .slice q a d] 26))
    have RV1 := Lib.hid (row_alloc w1 #[.int .i64 K, .int .i64 I, .float .f64 F, .string S, .slice q a d] 26)
    clear hb1 hno hyes hrep
    go_wp2_with fail
    go_at_call 22; refine (check_any N K I F S q a d T _ HR.out hdp hpt).mono ?_; rintro e w2 ⟨rfl, hb2⟩
    rw [HC.out]
    have HB2 := Lib.hid (bel_step (bel_alloc HB1.out _) hb2)
    have hr1 := row_step RB1.out hb2
    have hv1 := row_step RV1.out hb2
    have d0 := row_cell hr1 0; have d1 := row_cell hr1 1; have d2 := row_cell hr1 2; have d3 := row_cell hr1 3; have d4 := row_cell hr1 4
    have k0 := row_cell hv1 0; have k1 := row_cell hv1 1; have k2 := row_cell hv1 2; have k3 := row_cell hv1 3; have k4 := row_cell hv1 4
    simp only [List.getElem?_toArray, List.getElem?_cons_zero, List.getElem?_cons_succ] at d0 d1 d2 d3 d4 k0 k1 k2 k3 k4
    have df := fun o => row_frz hr1 o
    have hlt := row_lt hr1
    have hne : w.heap.size ≠ w1.heap.size := by omega
    have ha := fun (o : Obj) (v0 v1 v2 v3 v4 : Value) (i : Nat) => cell_alloc5 hlt o v0 v1 v2 v3 v4 i
    clear hr1 hv1 hb2
    go_wp2
    skip
    refine bodyPost_ret (v := .tuple #[.agg #[.int .i64 0, .int .i64 0, .float .f64 0, .string ⟨#[]⟩, .slice none 0 0], .int .i64 0, .int .i64 20]) (by simp [results, Try.results8, go_sem, ha, World.cell?_setCell_same, World.cell?_setCell_other, d0, d1, d2, d3, d4]) rfl ?_
    exact ⟨rfl, bel_set5 HB2.out (Nat.le_refl _) _ _ _ _ _⟩
set_option maxRecDepth 100000 in
set_option maxHeartbeats 4000000 in
theorem read_ok (N : Nat) (w : World) (p : Option Addr) (l c : Nat) (X : List Int) (hb : RdB w p l c X) (hX : By X) (hN : l ≤ N) (hl : l ≤ 4096) (T : VT N) (j : Nat) (hd : decV N X = some (T, j)) (hj : j ≤ 100000) (hdp : deepT N T 64 = false) (hpt : partsT N T ≤ 1000) (hc : checkM (measT N T) = 0) :
    Calls Try.prog 8 #[.slice p l c] w fun e w' => ∃ v, e = .returned (.tuple #[v, .int .i64 (j : Int), .int .i64 0]) ∧ Below w.heap.size w w' ∧ RepS (fun b => w.heap.size < b) w' N v T := by
  have hlc := hb.2.1
  have hcm := hb.2.2.1
  unfold maxLen at hcm
  have HB := Lib.hid (rd_keep ((Below.refl w.heap.size w).alloc (Nat.le_refl _) (.cells #[.int .i64 0, .int .i64 0, .float .f64 0, .string ⟨#[]⟩, .slice none 0 0] 26)) hb)
  have HX := Lib.hid hX
  have HD := Lib.hid hd
  have RB := Lib.hid (row_alloc w #[.int .i64 0, .int .i64 0, .float .f64 0, .string ⟨#[]⟩, .slice none 0 0] 26)
  clear hd
  have HC := Lib.hid hc
  clear hc
  rcases rd_p hb with ⟨rfl, rfl, rfl⟩ | ⟨ad, rfl⟩
  all_goals
    clear hb hX
    go_enter Try.func8, Try.ntmps8
    go_wp2_with fail
    go_at_call 21; refine (rv_all N _ _ _ _ X HB.out HX.out hN (by omega)).mono ?_; rintro e w1 ⟨hb1, hno, hyes⟩
    obtain ⟨v, rfl, hrep⟩ := hyes T j HD.out
    obtain ⟨K, I, F, S, q, a, d, rfl, _⟩ := repS_shape hrep
    have HB1 := Lib.hid (bel_box _ hb1)
    have hlw : w.heap.size < w1.heap.size := by have h3 := hb1.size; rw [World.size_alloc] at h3; omega
    have HR := Lib.hid (repS_rep _ _ _ (repS_keep (fun b (hb' : (w.alloc (.cells #[.int .i64 0, .int .i64 0, .float .f64 0, .string ⟨#[]⟩, .slice none 0 0] 26)).heap.size ≤ b ∧ b < w1.heap.size) => Below.heap_alloc w1 (.cells #[.int .i64 K, .int .i64 I, .float .f64 F, .string S, .slice q a d] 26) b hb'.2) _ _ _ (repS_lt _ _ _ hrep)))
    have HS := Lib.hid hrep
    have RB1 := Lib.hid (row_alloc_step (row_step RB.out hb1) (.cells #[.int .i64 K, .int .i64 I, .float .f64 F, .string S, .slice q a d] 26))
    have RV1 := Lib.hid (row_alloc w1 #[.int .i64 K, .int .i64 I, .float .f64 F, .string S, .slice q a d] 26)
    clear hb1 hno hyes hrep
    go_wp2_with fail
    go_at_call 22; refine (check_any N K I F S q a d T _ HR.out hdp hpt).mono ?_; rintro e w2 ⟨rfl, hb2⟩
    rw [HC.out]
    have HB2 := Lib.hid (bel_step (bel_alloc HB1.out _) hb2)
    have hr1 := row_step RB1.out hb2
    have hv1 := row_step RV1.out hb2
    have d0 := row_cell hr1 0; have d1 := row_cell hr1 1; have d2 := row_cell hr1 2; have d3 := row_cell hr1 3; have d4 := row_cell hr1 4
    have k0 := row_cell hv1 0; have k1 := row_cell hv1 1; have k2 := row_cell hv1 2; have k3 := row_cell hv1 3; have k4 := row_cell hv1 4
    simp only [List.getElem?_toArray, List.getElem?_cons_zero, List.getElem?_cons_succ] at d0 d1 d2 d3 d4 k0 k1 k2 k3 k4
    have df := fun o => row_frz hr1 o
    have hlt := row_lt hr1
    have hne : w.heap.size ≠ w1.heap.size := by omega
    have hrep2 := repS_keep (fun b (hb' : w.heap.size < b ∧ b < w1.heap.size) => ((hb2.block b (by rw [World.size_alloc]; omega)).trans (Below.heap_alloc w1 (.cells #[.int .i64 K, .int .i64 I, .float .f64 F, .string S, .slice q a d] 26) b hb'.2)).symm.symm) _ _ _ (repS_mono (fun b (h : (w.alloc (.cells #[.int .i64 0, .int .i64 0, .float .f64 0, .string ⟨#[]⟩, .slice none 0 0] 26)).heap.size ≤ b ∧ b < w1.heap.size) => (⟨by have h3 := h.1; rw [World.size_alloc] at h3; omega, h.2⟩ : w.heap.size < b ∧ b < w1.heap.size)) _ _ _ (repS_lt _ _ _ HS.out))
    have HS2 := Lib.hid (repS_mono (fun b h => h.1) _ _ _ hrep2)
    clear hrep2
    have ha := fun (o : Obj) (v0 v1 v2 v3 v4 : Value) (i : Nat) => cell_alloc5 hlt o v0 v1 v2 v3 v4 i
    clear hr1 hv1 hb2
    go_wp2
    refine bodyPost_ret (v := .tuple #[.agg #[.int .i64 K, .int .i64 I, .float .f64 F, .string S, .slice q a d], .int .i64 (j : Int), .int .i64 0]) (by simp [results, Try.results8, go_sem, ha, World.cell?_setCell_same, World.cell?_setCell_other, d0, d1, d2, d3, d4]) rfl ?_
    exact ⟨_, rfl, bel_set5 HB2.out (Nat.le_refl _) _ _ _ _ _, repS_keep (fun b h => set5_heap (by omega) _ _ _ _ _) _ _ _ HS2.out⟩
end Num
end Go.Proofs.Ytbodakfgoijeeaa
