/-
  What package wire reads: a list's value; all values, by the recursion.
-/
import Derived.Test.YtbodakfgoijeeaaWW
namespace Go.Proofs.Ytbodakfgoijeeaa
open Go.RowKit
namespace Num
open Ints
set_option linter.unusedSimpArgs false
set_option linter.unusedVariables false
theorem set5_heap {w : World} {b k : Nat} (h : k ≠ b) (v0 v1 v2 v3 v4 : Value) : (((((w.setCell ⟨b, 0, none⟩ v0).setCell ⟨b, 1, none⟩ v1).setCell ⟨b, 2, none⟩ v2).setCell ⟨b, 3, none⟩ v3).setCell ⟨b, 4, none⟩ v4).heap[k]? = w.heap[k]? := by
  rw [Below.heap_setCell _ _ _ _ h, Below.heap_setCell _ _ _ _ h, Below.heap_setCell _ _ _ _ h, Below.heap_setCell _ _ _ _ h, Below.heap_setCell _ _ _ _ h]
/-- A list's value, in the result's box. -/
theorem repS_list {w w1 : World} {n : Nat} {o : Obj} {p : Option Addr} {l c : Nat} {L : List (VT n)} (h : RepLS (fun b => (w.alloc o).heap.size ≤ b) w1 (RepC w1 n) p l c L) (v0 v1 v2 v3 v4 : Value) :
    RepS (fun b => w.heap.size ≤ b) (((((w1.setCell ⟨w.heap.size, 0, none⟩ v0).setCell ⟨w.heap.size, 1, none⟩ v1).setCell ⟨w.heap.size, 2, none⟩ v2).setCell ⟨w.heap.size, 3, none⟩ v3).setCell ⟨w.heap.size, 4, none⟩ v4) (n + 1) (.agg #[.int .i64 4, .int .i64 0, .float .f64 0, .string ⟨#[]⟩, .slice p l c]) (4, 0, 0, ⟨#[]⟩, L) := by
  have hs : (w.alloc o).heap.size = w.heap.size + 1 := World.size_alloc _ _
  have hk : ∀ b, (w.alloc o).heap.size ≤ b → (((((w1.setCell ⟨w.heap.size, 0, none⟩ v0).setCell ⟨w.heap.size, 1, none⟩ v1).setCell ⟨w.heap.size, 2, none⟩ v2).setCell ⟨w.heap.size, 3, none⟩ v3).setCell ⟨w.heap.size, 4, none⟩ v4).heap[b]? = w1.heap[b]? := fun b hb => set5_heap (by omega) _ _ _ _ _
  have h' := repLS_mono (S' := fun b => w.heap.size ≤ b) (fun b hb => by omega) (repLS_keep hk h)
  exact ⟨p, l, c, rfl, (show okI (4 : Int) from by decide), (show okI (0 : Int) from by decide), (show 0 < 2 ^ 64 from by decide), (show (⟨#[]⟩ : ByteArray).size ≤ maxLen from by decide), h'⟩
set_option maxRecDepth 100000 in
set_option maxHeartbeats 4000000 in
theorem rv_k4 (n : Nat) (HLA : RlAll n) (w : World) (b off l c : Nat) (R : List Int) (hb : RdB w (some ⟨b, off, none⟩) l c (4 :: R)) (hX : By (4 :: R)) (hl : l ≤ 100000) (hln : l ≤ n + 1) : Calls Try.prog 21 #[.slice (some ⟨b, off, none⟩) l c] w (RvPost (n + 1) (4 :: R) w) := by
  obtain ⟨hR, hlc, hcm⟩ := rd_parts hb
  have HU := Lib.hid (fun w' (h : RdB w' (some ⟨b, off, none⟩) l c (4 :: R)) => readU_all w' _ l c (4 :: R) 1 h hX (by omega) (by omega))
  have HM := Lib.hid (show rdU ((4 :: R).take 1) = 4 from rdU_one 4 (by omega) (by omega))
  have HB := Lib.hid (rd_keep ((Below.refl w.heap.size w).alloc (Nat.le_refl _) (.cells #[.int .i64 0, .int .i64 0, .float .f64 0, .string ⟨#[]⟩, .slice none 0 0] 26)) hb)
  have HX := Lib.hid (show By R from fun x hx => hX x (List.mem_cons_of_mem _ hx))
  have HLA' := Lib.hid HLA
  have HDn := Lib.hid (show decR (decV n) R = none → decV (n + 1) (4 :: R) = none from fun h => by rw [decV, if_neg (by decide), if_neg (by decide), if_neg (by decide), if_neg (by decide), if_pos (by decide), h])
  have HDs := Lib.hid (show ∀ L j, decR (decV n) R = some (L, j) → decV (n + 1) (4 :: R) = some ((4, 0, 0, ⟨#[]⟩, L), 1 + j) from fun L j h => by rw [decV, if_neg (by decide), if_neg (by decide), if_neg (by decide), if_neg (by decide), if_pos (by decide), h])
  have hR1 : R.length + 1 ≤ l := by omega
  have hR2 : l ≤ R.length + 1 := by omega
  have RB := Lib.hid (row_alloc w #[.int .i64 0, .int .i64 0, .float .f64 0, .string ⟨#[]⟩, .slice none 0 0] 26)
  by_cases hc1 : c = 1
  · obtain rfl : l = 1 := by omega
    subst hc1
    have HRD := Lib.hid (show RdB (w.alloc (.cells #[.int .i64 0, .int .i64 0, .float .f64 0, .string ⟨#[]⟩, .slice none 0 0] 26)) (some ⟨b, off, none⟩) 0 0 R from rd_end HB.out)
    have hR0 : R.length ≤ 0 := by omega
    clear hb hX hR HLA
    cases hd : decR (decV n) R with
    | none =>
      have HDD := Lib.hid hd
      clear hd
      go_enter Try.func21, Try.ntmps21
      go_wp2_with fail
      go_at_call 15; refine (HU.out _ HB.out).mono ?_; rintro e w1 ⟨rfl, rfl⟩
      rw [HM.out]
      go_wp2_with fail
      go_at_call 37; refine (HLA'.out _ _ 0 0 R HRD.out HX.out (by omega) (by omega)).mono ?_; rintro e w1 ⟨hb1, hno, hyes⟩
      obtain rfl := hno HDD.out
      have HB1 := Lib.hid (bel_box _ hb1)
      have hr1 := row_step RB.out hb1
      have d0 := row_cell hr1 0
      have d1 := row_cell hr1 1
      have d2 := row_cell hr1 2
      have d3 := row_cell hr1 3
      have d4 := row_cell hr1 4
      simp only [List.getElem?_toArray, List.getElem?_cons_zero, List.getElem?_cons_succ] at d0 d1 d2 d3 d4
      have df := fun o => row_frz hr1 o
      clear hb1 hno hyes hr1
      go_wp2
      refine bodyPost_ret (v := .tuple #[.agg #[.int .i64 4, .int .i64 0, .float .f64 0, .string ⟨#[]⟩, .slice none 0 0], .int .i64 1, .bool false]) (by simp [results, Try.results21, go_sem, World.cell?_setCell_same, World.cell?_setCell_other, d0, d1, d2, d3, d4]) rfl ?_
      exact rv_none (bel_set5 HB1.out (Nat.le_refl _) _ _ _ _ _) (HDn.out HDD.out) (fail_mk _ _ _ _ _ _ _ _)
    | some LJ =>
      obtain ⟨L, j⟩ := LJ
      have hjl := decR_le (decV_le n) hd
      have hj5 : j ≤ 100000 := by omega
      have HDD := Lib.hid hd
      omega
  · have HRD := Lib.hid (show RdB (w.alloc (.cells #[.int .i64 0, .int .i64 0, .float .f64 0, .string ⟨#[]⟩, .slice none 0 0] 26)) (some ⟨b, off + 1, none⟩) (l - 1) (c - 1) R from rd_from (k := 1) HB.out (by omega) hc1)
    clear hb hX hR HLA
    cases hd : decR (decV n) R with
    | none =>
      have HDD := Lib.hid hd
      clear hd
      go_enter Try.func21, Try.ntmps21
      go_wp2_with fail
      go_at_call 15; refine (HU.out _ HB.out).mono ?_; rintro e w1 ⟨rfl, rfl⟩
      rw [HM.out]
      go_wp2_with fail
      go_at_call 37; refine (HLA'.out _ _ (l - 1) (c - 1) R HRD.out HX.out (by omega) (by omega)).mono ?_; rintro e w1 ⟨hb1, hno, hyes⟩
      obtain rfl := hno HDD.out
      have HB1 := Lib.hid (bel_box _ hb1)
      have hr1 := row_step RB.out hb1
      have d0 := row_cell hr1 0
      have d1 := row_cell hr1 1
      have d2 := row_cell hr1 2
      have d3 := row_cell hr1 3
      have d4 := row_cell hr1 4
      simp only [List.getElem?_toArray, List.getElem?_cons_zero, List.getElem?_cons_succ] at d0 d1 d2 d3 d4
      have df := fun o => row_frz hr1 o
      clear hb1 hno hyes hr1
      go_wp2
      refine bodyPost_ret (v := .tuple #[.agg #[.int .i64 4, .int .i64 0, .float .f64 0, .string ⟨#[]⟩, .slice none 0 0], .int .i64 1, .bool false]) (by simp [results, Try.results21, go_sem, World.cell?_setCell_same, World.cell?_setCell_other, d0, d1, d2, d3, d4]) rfl ?_
      exact rv_none (bel_set5 HB1.out (Nat.le_refl _) _ _ _ _ _) (HDn.out HDD.out) (fail_mk _ _ _ _ _ _ _ _)
    | some LJ =>
      obtain ⟨L, j⟩ := LJ
      have hjl := decR_le (decV_le n) hd
      have hj5 : j ≤ 100000 := by omega
      have HDD := Lib.hid hd
      clear hd
      go_enter Try.func21, Try.ntmps21
      go_wp2_with fail
      go_at_call 15; refine (HU.out _ HB.out).mono ?_; rintro e w1 ⟨rfl, rfl⟩
      rw [HM.out]
      go_wp2_with fail
      go_at_call 37; refine (HLA'.out _ _ (l - 1) (c - 1) R HRD.out HX.out (by omega) (by omega)).mono ?_; rintro e w1 ⟨hb1, hno, hyes⟩
      obtain ⟨p2, l2, c2, rfl, hrep⟩ := hyes L j HDD.out
      have HB1 := Lib.hid (bel_box _ hb1)
      have HREP := Lib.hid (repS_list hrep (.int .i64 4) (.int .i64 0) (.float .f64 0) (.string ⟨#[]⟩) (.slice p2 l2 c2))
      have HE := Lib.hid (show Ending.returned (.tuple #[.agg #[.int .i64 4, .int .i64 0, .float .f64 0, .string ⟨#[]⟩, .slice p2 l2 c2], .int .i64 (1 + (j : Int)), .bool true]) = .returned (.tuple #[.agg #[.int .i64 4, .int .i64 0, .float .f64 0, .string ⟨#[]⟩, .slice p2 l2 c2], .int .i64 ((1 + j : Nat) : Int), .bool true]) by rw [show (1 + (j : Int)) = ((1 + j : Nat) : Int) by omega])
      have hr1 := row_step RB.out hb1
      have d0 := row_cell hr1 0
      have d1 := row_cell hr1 1
      have d2 := row_cell hr1 2
      have d3 := row_cell hr1 3
      have d4 := row_cell hr1 4
      simp only [List.getElem?_toArray, List.getElem?_cons_zero, List.getElem?_cons_succ] at d0 d1 d2 d3 d4
      have df := fun o => row_frz hr1 o
      clear hb1 hno hyes hr1 hrep
      go_wp2
      refine bodyPost_ret (v := .tuple #[.agg #[.int .i64 4, .int .i64 0, .float .f64 0, .string ⟨#[]⟩, .slice p2 l2 c2], .int .i64 (1 + (j : Int)), .bool true]) (by simp [results, Try.results21, go_sem, World.cell?_setCell_same, World.cell?_setCell_other, d0, d1, d2, d3, d4]) rfl ?_
      exact rv_some (bel_set5 HB1.out (Nat.le_refl _) _ _ _ _ _) (HDs.out L j HDD.out) HE.out HREP.out
theorem rv_succ (n : Nat) (HLA : RlAll n) : RvAll (n + 1) := by
  intro w p l c X hb hX hln hl
  cases X with
  | nil =>
    obtain rfl : l = 0 := hb.1.symm
    exact rv_empty (n + 1) w p c hb.2.2.1
  | cons k R =>
    have h1 : l = R.length + 1 := hb.1.symm
    obtain ⟨b, off, rfl⟩ := rd_full hb (by omega)
    have hk := hX k (List.mem_cons_self ..)
    by_cases h0 : k = 0
    · subst h0; exact rv_k0 n w b off l c R hb hX hl
    by_cases h1 : k = 1
    · subst h1
      by_cases h8 : 8 ≤ R.length
      · exact rv_k1 n w b off l c R hb hX hl h8
      · exact rv_k1n n w b off l c R hb hX hl h8
    by_cases h2 : k = 2
    · subst h2
      by_cases h8 : 8 ≤ R.length
      · by_cases hq : Flo.canon (rdU (R.take 8)).toNat = (rdU (R.take 8)).toNat
        · exact rv_k2 n w b off l c R hb hX hl h8 hq
        · exact rv_k2b n w b off l c R hb hX hl h8 hq
      · exact rv_k2n n w b off l c R hb hX hl h8
    by_cases h3 : k = 3
    · subst h3
      by_cases h2 : 2 ≤ R.length
      · by_cases hs : (rdU (R.take 2)).toNat ≤ 256 ∧ 2 + (rdU (R.take 2)).toNat ≤ R.length
        · exact rv_k3 n w b off l c R hb hX hl h2 hs.1 hs.2
        · exact rv_k3n n w b off l c R hb hX hl h2 hs
      · exact rv_k3s n w b off l c R hb hX hl h2
    by_cases h4 : k = 4
    · subst h4; exact rv_k4 n HLA w b off l c R hb hX hl hln
    · exact rv_else n w b off l c k R hb hX hl (by omega)
theorem rv_all : ∀ n, RvAll n := by
  intro n
  induction n with
  | zero =>
    intro w p l c X hb hX hln hl
    obtain rfl : l = 0 := by omega
    obtain rfl : X = [] := List.eq_nil_of_length_eq_zero hb.1
    exact rv_empty 0 w p c hb.2.2.1
  | succ n ih => exact rv_succ n (readList_of n ih)
end Num
end Go.Proofs.Ytbodakfgoijeeaa
