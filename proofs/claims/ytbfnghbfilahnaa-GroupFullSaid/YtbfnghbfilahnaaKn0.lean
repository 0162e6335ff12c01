/-
  Package group's example holds.
-/
import Derived.Test.YtbfnghbfilahnaaKm0
namespace Go.Proofs.Ytbfnghbfilahnaa
open Go.RowKit
namespace Num
open Ints
set_option linter.unusedSimpArgs false
set_option linter.unusedVariables false
theorem dir_row_ne {w : World} {tb mb b : Nat} {L : List Gp} {cs : Array Value} {t : TypeId} (h : DirG w tb mb L) (hr : w.heap[b]? = some (.cells cs t (0, 0))) : b ≠ mb := by
  rintro rfl
  obtain ⟨_, es, ck, hm, _⟩ := h
  rw [hr] at hm
  cases hm
theorem small_two {a b c : ByteArray} (h1 : a.size ≤ 256) (h2 : b.size ≤ 256) (h3 : c.size ≤ 256) : ∀ S ∈ [a, b, c], S.size ≤ 256 := fun S hS => by
  simp only [List.mem_cons, List.not_mem_nil, or_false] at hS
  rcases hS with rfl | rfl | rfl <;> assumption
set_option maxRecDepth 100000 in
set_option maxHeartbeats 16000000 in
theorem known17 (w : World) : Calls Try.prog 5 #[] w fun e w' => e = .returned (.bool true) ∧ Below w.heap.size w w' := by
  go_enter Try.func5, Try.ntmps5
  go_wp2_with fail
  go_at_call 6; refine (new_dir _).mono ?_; rintro e w1 ⟨tb, mb, rfl, hmb, htb, hd1, hb1⟩
  have HD := Lib.hid hd1
  have HB := Lib.hid hb1
  clear hd1 hb1
  go_wp2_with fail
  go_at_call 17; refine (text_ref_any (⟨#[97]⟩ : ByteArray) _).mono ?_; rintro e x1 ⟨rfl, hb1⟩
  replace HD := Lib.hid (dir_step HD.out hb1)
  replace HB := Lib.hid (bel_step HB.out hb1)
  clear hb1
  go_wp2_with fail
  go_at_call 17; refine (text_ref_any (⟨#[113, 117, 101, 117, 101]⟩ : ByteArray) _).mono ?_; rintro e x2 ⟨rfl, hb2⟩
  replace HD := Lib.hid (dir_step HD.out hb2)
  replace HB := Lib.hid (bel_step HB.out hb2)
  clear hb2
  go_wp2_with fail
  go_at_call 17; refine (text_ref_any (⟨#[97, 99, 116, 105, 118, 101]⟩ : ByteArray) _).mono ?_; rintro e x3 ⟨rfl, hb3⟩
  replace HD := Lib.hid (dir_step HD.out hb3)
  replace HB := Lib.hid (bel_step HB.out hb3)
  clear hb3
  obtain ⟨b4, hbk4⟩ : ∃ g, x3.heap.size = g := ⟨_, rfl⟩
  obtain ⟨y4, hy4⟩ : ∃ W, x3.alloc (.cells #[.int .i64 3, .int .i64 0, .float .f64 0, .string (⟨#[97]⟩ : ByteArray), .slice none 0 0, .int .i64 3, .int .i64 0, .float .f64 0, .string (⟨#[113, 117, 101, 117, 101]⟩ : ByteArray), .slice none 0 0, .int .i64 3, .int .i64 0, .float .f64 0, .string (⟨#[97, 99, 116, 105, 118, 101]⟩ : ByteArray), .slice none 0 0] 39) = W := ⟨_, rfl⟩
  have hrw4 : y4.heap[b4]? = some (.cells #[.int .i64 3, .int .i64 0, .float .f64 0, .string (⟨#[97]⟩ : ByteArray), .slice none 0 0, .int .i64 3, .int .i64 0, .float .f64 0, .string (⟨#[113, 117, 101, 117, 101]⟩ : ByteArray), .slice none 0 0, .int .i64 3, .int .i64 0, .float .f64 0, .string (⟨#[97, 99, 116, 105, 118, 101]⟩ : ByteArray), .slice none 0 0] 39 (0, 0)) := by rw [← hy4, ← hbk4]; exact row_alloc x3 _ _
  have hb4 : Below x3.heap.size x3 y4 := by rw [← hy4]; exact bel_alloc (Below.refl _ _) _
  have HRW4 := Lib.hid hrw4
  replace HD := Lib.hid (dir_step HD.out hb4)
  replace HB := Lib.hid (bel_step HB.out hb4)
  clear hb4 hrw4
  go_wp2_with fail
  clear hy4
  go_at_call 11; refine (do_create y4 tb mb [] [(⟨(⟨#[97]⟩ : ByteArray), (⟨#[113, 117, 101, 117, 101]⟩ : ByteArray), 0, 1⟩ : Gp)] 0 b4 (⟨#[97]⟩ : ByteArray) (⟨#[113, 117, 101, 117, 101]⟩ : ByteArray) (⟨#[97, 99, 116, 105, 118, 101]⟩ : ByteArray) HD.out HRW4.out (small_two (by decide) (by decide) (by decide)) (by decide) (by decide) (by rw [ByteArray.toList_eq]; rfl) (by decide +kernel) (by decide +kernel) ?hcal0).mono ?_
  case hcal0 =>
    intro W hW
    have h := create_new W tb mb [] (⟨#[97]⟩ : ByteArray) (⟨#[113, 117, 101, 117, 101]⟩ : ByteArray) 0 hW rfl (by decide)
    exact h
  rintro e x4 ⟨rfl, hd4, hbt4⟩
  replace HD := Lib.hid hd4
  replace HB := Lib.hid (Below.trans HB.out (but_below hbt4 hmb HB.out.size))
  clear hd4 hbt4 HRW4 hbk4
  obtain ⟨g5, hg5⟩ : ∃ g, x4.heap.size = g := ⟨_, rfl⟩
  obtain ⟨z5, hz5⟩ : ∃ W, x4.alloc (.cells #[.int .i64 0, .int .i64 0, .float .f64 0, .string ⟨#[]⟩, .slice none 0 0] 39) = W := ⟨_, rfl⟩
  have hV5 : z5.heap[g5]? = some (.cells #[.int .i64 0, .int .i64 0, .float .f64 0, .string ⟨#[]⟩, .slice none 0 0] 39 (0, 0)) := by rw [← hz5, ← hg5]; exact row_alloc x4 _ _
  obtain ⟨y5, hy5⟩ : ∃ y, setV z5 g5 (.int .i64 0) (.int .i64 0) (.float .f64 0) (.string ⟨#[]⟩) (.slice none 0 0) = y := ⟨_, rfl⟩
  have hbY5 : Below x4.heap.size x4 y5 := by rw [← hy5, hg5]; exact setV_below (by rw [← hz5, ← hg5]; exact bel_alloc (Below.refl _ _) _) (Nat.le_refl _) (.int .i64 0) (.int .i64 0) (.float .f64 0) (.string ⟨#[]⟩) (.slice none 0 0)
  have hyV5 : y5.heap[g5]? = some (.cells #[.int .i64 0, .int .i64 0, .float .f64 0, .string ⟨#[]⟩, .slice none 0 0] 39 (0, 0)) := by rw [← hy5]; exact setV_at hV5 (.int .i64 0) (.int .i64 0) (.float .f64 0) (.string ⟨#[]⟩) (.slice none 0 0)
  have v5_0 := row_cell hV5 0; have v5_1 := row_cell hV5 1; have v5_2 := row_cell hV5 2; have v5_3 := row_cell hV5 3; have v5_4 := row_cell hV5 4
  simp only [List.getElem?_toArray, List.getElem?_cons_zero, List.getElem?_cons_succ] at v5_0 v5_1 v5_2 v5_3 v5_4
  have vf5 := fun o => row_frz hV5 o
  have HY5 := Lib.hid (show (((((z5.setCell ⟨g5, 0, none⟩ (.int .i64 0)).setCell ⟨g5, 1, none⟩ (.int .i64 0)).setCell ⟨g5, 2, none⟩ (.float .f64 0)).setCell ⟨g5, 3, none⟩ (.string ⟨#[]⟩)).setCell ⟨g5, 4, none⟩ (.slice none 0 0)) = y5 from hy5)
  replace HD := Lib.hid (dir_step HD.out hbY5)
  replace HB := Lib.hid (bel_step HB.out hbY5)
  clear hV5 hy5 hbY5 hyV5
  go_upto_region 5 with fail
  clear hz5
  rw [HY5.out]
  clear v5_0 v5_1 v5_2 v5_3 v5_4 vf5 HY5
  go_wp2_with fail
  go_at_call 17; refine (text_ref_any (⟨#[97]⟩ : ByteArray) _).mono ?_; rintro e x6 ⟨rfl, hb6⟩
  replace HD := Lib.hid (dir_step HD.out hb6)
  replace HB := Lib.hid (bel_step HB.out hb6)
  clear hb6
  go_wp2_with fail
  go_at_call 17; refine (text_ref_any (⟨#[113, 117, 101, 117, 101]⟩ : ByteArray) _).mono ?_; rintro e x7 ⟨rfl, hb7⟩
  replace HD := Lib.hid (dir_step HD.out hb7)
  replace HB := Lib.hid (bel_step HB.out hb7)
  clear hb7
  go_wp2_with fail
  go_at_call 17; refine (text_ref_any (⟨#[99, 111, 108, 100]⟩ : ByteArray) _).mono ?_; rintro e x8 ⟨rfl, hb8⟩
  replace HD := Lib.hid (dir_step HD.out hb8)
  replace HB := Lib.hid (bel_step HB.out hb8)
  clear hb8
  obtain ⟨b9, hbk9⟩ : ∃ g, x8.heap.size = g := ⟨_, rfl⟩
  obtain ⟨y9, hy9⟩ : ∃ W, x8.alloc (.cells #[.int .i64 3, .int .i64 0, .float .f64 0, .string (⟨#[97]⟩ : ByteArray), .slice none 0 0, .int .i64 3, .int .i64 0, .float .f64 0, .string (⟨#[113, 117, 101, 117, 101]⟩ : ByteArray), .slice none 0 0, .int .i64 3, .int .i64 0, .float .f64 0, .string (⟨#[99, 111, 108, 100]⟩ : ByteArray), .slice none 0 0] 39) = W := ⟨_, rfl⟩
  have hrw9 : y9.heap[b9]? = some (.cells #[.int .i64 3, .int .i64 0, .float .f64 0, .string (⟨#[97]⟩ : ByteArray), .slice none 0 0, .int .i64 3, .int .i64 0, .float .f64 0, .string (⟨#[113, 117, 101, 117, 101]⟩ : ByteArray), .slice none 0 0, .int .i64 3, .int .i64 0, .float .f64 0, .string (⟨#[99, 111, 108, 100]⟩ : ByteArray), .slice none 0 0] 39 (0, 0)) := by rw [← hy9, ← hbk9]; exact row_alloc x8 _ _
  have hb9 : Below x8.heap.size x8 y9 := by rw [← hy9]; exact bel_alloc (Below.refl _ _) _
  have HRW9 := Lib.hid hrw9
  replace HD := Lib.hid (dir_step HD.out hb9)
  replace HB := Lib.hid (bel_step HB.out hb9)
  clear hb9 hrw9
  go_wp2_with fail
  clear hy9
  go_at_call 11; refine (do_create y9 tb mb [(⟨(⟨#[97]⟩ : ByteArray), (⟨#[113, 117, 101, 117, 101]⟩ : ByteArray), 0, 1⟩ : Gp)] [(⟨(⟨#[97]⟩ : ByteArray), (⟨#[113, 117, 101, 117, 101]⟩ : ByteArray), 0, 1⟩ : Gp)] 32 b9 (⟨#[97]⟩ : ByteArray) (⟨#[113, 117, 101, 117, 101]⟩ : ByteArray) (⟨#[99, 111, 108, 100]⟩ : ByteArray) HD.out HRW9.out (small_two (by decide) (by decide) (by decide)) (by decide) (by decide) (by rw [ByteArray.toList_eq]; rfl) (by decide +kernel) (by decide +kernel) ?hcal1).mono ?_
  case hcal1 =>
    intro W hW
    have h := (create_there W tb mb [(⟨(⟨#[97]⟩ : ByteArray), (⟨#[113, 117, 101, 117, 101]⟩ : ByteArray), 0, 1⟩ : Gp)] (⟨#[97]⟩ : ByteArray) (⟨#[113, 117, 101, 117, 101]⟩ : ByteArray) 2 (⟨(⟨#[97]⟩ : ByteArray), (⟨#[113, 117, 101, 117, 101]⟩ : ByteArray), 0, 1⟩ : Gp) hW rfl).mono (fun e w2 (h : e = .returned (.int .i64 32) ∧ Below W.heap.size W w2) => (show e = .returned (.int .i64 32) ∧ DirG w2 tb mb [(⟨(⟨#[97]⟩ : ByteArray), (⟨#[113, 117, 101, 117, 101]⟩ : ByteArray), 0, 1⟩ : Gp)] ∧ But mb W w2 from ⟨h.1, dir_step hW h.2, but_bel h.2⟩))
    exact h
  rintro e x9 ⟨rfl, hd9, hbt9⟩
  replace HD := Lib.hid hd9
  replace HB := Lib.hid (Below.trans HB.out (but_below hbt9 hmb HB.out.size))
  clear hd9 hbt9 HRW9 hbk9
  obtain ⟨g10, hg10⟩ : ∃ g, x9.heap.size = g := ⟨_, rfl⟩
  obtain ⟨z10, hz10⟩ : ∃ W, x9.alloc (.cells #[.int .i64 0, .int .i64 0, .float .f64 0, .string ⟨#[]⟩, .slice none 0 0] 39) = W := ⟨_, rfl⟩
  have hV10 : z10.heap[g10]? = some (.cells #[.int .i64 0, .int .i64 0, .float .f64 0, .string ⟨#[]⟩, .slice none 0 0] 39 (0, 0)) := by rw [← hz10, ← hg10]; exact row_alloc x9 _ _
  obtain ⟨y10, hy10⟩ : ∃ y, setV z10 g10 (.int .i64 0) (.int .i64 0) (.float .f64 0) (.string ⟨#[]⟩) (.slice none 0 0) = y := ⟨_, rfl⟩
  have hbY10 : Below x9.heap.size x9 y10 := by rw [← hy10, hg10]; exact setV_below (by rw [← hz10, ← hg10]; exact bel_alloc (Below.refl _ _) _) (Nat.le_refl _) (.int .i64 0) (.int .i64 0) (.float .f64 0) (.string ⟨#[]⟩) (.slice none 0 0)
  have hyV10 : y10.heap[g10]? = some (.cells #[.int .i64 0, .int .i64 0, .float .f64 0, .string ⟨#[]⟩, .slice none 0 0] 39 (0, 0)) := by rw [← hy10]; exact setV_at hV10 (.int .i64 0) (.int .i64 0) (.float .f64 0) (.string ⟨#[]⟩) (.slice none 0 0)
  have v10_0 := row_cell hV10 0; have v10_1 := row_cell hV10 1; have v10_2 := row_cell hV10 2; have v10_3 := row_cell hV10 3; have v10_4 := row_cell hV10 4
  simp only [List.getElem?_toArray, List.getElem?_cons_zero, List.getElem?_cons_succ] at v10_0 v10_1 v10_2 v10_3 v10_4
  have vf10 := fun o => row_frz hV10 o
  have HY10 := Lib.hid (show (((((z10.setCell ⟨g10, 0, none⟩ (.int .i64 0)).setCell ⟨g10, 1, none⟩ (.int .i64 0)).setCell ⟨g10, 2, none⟩ (.float .f64 0)).setCell ⟨g10, 3, none⟩ (.string ⟨#[]⟩)).setCell ⟨g10, 4, none⟩ (.slice none 0 0)) = y10 from hy10)
  replace HD := Lib.hid (dir_step HD.out hbY10)
  replace HB := Lib.hid (bel_step HB.out hbY10)
  clear hV10 hy10 hbY10 hyV10
  go_upto_region 6 with fail
  clear hz10
  rw [HY10.out]
  clear v10_0 v10_1 v10_2 v10_3 v10_4 vf10 HY10
  go_wp2_with fail
  go_at_call 11; refine (do_list _ tb mb [(⟨(⟨#[97]⟩ : ByteArray), (⟨#[113, 117, 101, 117, 101]⟩ : ByteArray), 0, 1⟩ : Gp)] HD.out (by simp) (by decide) (fun g hg => by rw [List.mem_singleton.1 hg]; exact ⟨by decide, by decide⟩)).mono ?_; rintro e u1 ⟨⟨pl, cl, rfl⟩, hbu1⟩
  replace HD := Lib.hid (dir_step HD.out hbu1)
  replace HB := Lib.hid (bel_step HB.out hbu1)
  clear hbu1
  obtain ⟨g11, hg11⟩ : ∃ g, u1.heap.size = g := ⟨_, rfl⟩
  obtain ⟨z11, hz11⟩ : ∃ W, u1.alloc (.cells #[.int .i64 0, .int .i64 0, .float .f64 0, .string ⟨#[]⟩, .slice none 0 0] 39) = W := ⟨_, rfl⟩
  have hV11 : z11.heap[g11]? = some (.cells #[.int .i64 0, .int .i64 0, .float .f64 0, .string ⟨#[]⟩, .slice none 0 0] 39 (0, 0)) := by rw [← hz11, ← hg11]; exact row_alloc u1 _ _
  obtain ⟨y11, hy11⟩ : ∃ y, setV z11 g11 (.int .i64 4) (.int .i64 0) (.float .f64 0) (.string ⟨#[]⟩) (.slice pl 1 cl) = y := ⟨_, rfl⟩
  have hbY11 : Below u1.heap.size u1 y11 := by rw [← hy11, hg11]; exact setV_below (by rw [← hz11, ← hg11]; exact bel_alloc (Below.refl _ _) _) (Nat.le_refl _) (.int .i64 4) (.int .i64 0) (.float .f64 0) (.string ⟨#[]⟩) (.slice pl 1 cl)
  have hyV11 : y11.heap[g11]? = some (.cells #[.int .i64 4, .int .i64 0, .float .f64 0, .string ⟨#[]⟩, .slice pl 1 cl] 39 (0, 0)) := by rw [← hy11]; exact setV_at hV11 (.int .i64 4) (.int .i64 0) (.float .f64 0) (.string ⟨#[]⟩) (.slice pl 1 cl)
  have v11_0 := row_cell hV11 0; have v11_1 := row_cell hV11 1; have v11_2 := row_cell hV11 2; have v11_3 := row_cell hV11 3; have v11_4 := row_cell hV11 4
  simp only [List.getElem?_toArray, List.getElem?_cons_zero, List.getElem?_cons_succ] at v11_0 v11_1 v11_2 v11_3 v11_4
  have vf11 := fun o => row_frz hV11 o
  have HY11 := Lib.hid (show (((((z11.setCell ⟨g11, 0, none⟩ (.int .i64 4)).setCell ⟨g11, 1, none⟩ (.int .i64 0)).setCell ⟨g11, 2, none⟩ (.float .f64 0)).setCell ⟨g11, 3, none⟩ (.string ⟨#[]⟩)).setCell ⟨g11, 4, none⟩ (.slice pl 1 cl)) = y11 from hy11)
  replace HD := Lib.hid (dir_step HD.out hbY11)
  replace HB := Lib.hid (bel_step HB.out hbY11)
  have HL := Lib.hid hyV11
  clear hV11 hy11 hbY11 hyV11
  go_upto_region 7 with fail
  clear hz11
  rw [HY11.out]
  clear v11_0 v11_1 v11_2 v11_3 v11_4 vf11 HY11
  go_wp2_with fail
  go_at_call 15; refine (get_some _ tb mb [(⟨(⟨#[97]⟩ : ByteArray), (⟨#[113, 117, 101, 117, 101]⟩ : ByteArray), 0, 1⟩ : Gp)] (⟨#[97]⟩ : ByteArray) (⟨(⟨#[97]⟩ : ByteArray), (⟨#[113, 117, 101, 117, 101]⟩ : ByteArray), 0, 1⟩ : Gp) HD.out rfl).mono ?_; rintro e u2 ⟨rfl, hbu2⟩
  replace HD := Lib.hid (dir_step HD.out hbu2)
  replace HL := Lib.hid (row_step HL.out hbu2)
  replace HB := Lib.hid (bel_step HB.out hbu2)
  clear hbu2
  obtain ⟨g12, hg12⟩ : ∃ g, u2.heap.size = g := ⟨_, rfl⟩
  obtain ⟨z12, hz12⟩ : ∃ W, u2.alloc (.cells #[.string ⟨#[]⟩, .string ⟨#[]⟩, .int .i64 0, .int .u32 0] 49) = W := ⟨_, rfl⟩
  have hV12 : z12.heap[g12]? = some (.cells #[.string ⟨#[]⟩, .string ⟨#[]⟩, .int .i64 0, .int .u32 0] 49 (0, 0)) := by rw [← hz12, ← hg12]; exact row_alloc u2 _ _
  obtain ⟨y12, hy12⟩ : ∃ y, setG4 z12 g12 (.string ⟨#[97]⟩) (.string ⟨#[113, 117, 101, 117, 101]⟩) (.int .i64 0) (.int .u32 1) = y := ⟨_, rfl⟩
  have hbY12 : Below u2.heap.size u2 y12 := by rw [← hy12, hg12]; exact setG4_below (by rw [← hz12, ← hg12]; exact bel_alloc (Below.refl _ _) _) (Nat.le_refl _) (.string ⟨#[97]⟩) (.string ⟨#[113, 117, 101, 117, 101]⟩) (.int .i64 0) (.int .u32 1)
  have hyV12 : y12.heap[g12]? = some (.cells #[.string ⟨#[97]⟩, .string ⟨#[113, 117, 101, 117, 101]⟩, .int .i64 0, .int .u32 1] 49 (0, 0)) := by rw [← hy12]; exact setG4_at hV12 (.string ⟨#[97]⟩) (.string ⟨#[113, 117, 101, 117, 101]⟩) (.int .i64 0) (.int .u32 1)
  have v12_0 := row_cell hV12 0; have v12_1 := row_cell hV12 1; have v12_2 := row_cell hV12 2; have v12_3 := row_cell hV12 3
  simp only [List.getElem?_toArray, List.getElem?_cons_zero, List.getElem?_cons_succ] at v12_0 v12_1 v12_2 v12_3
  have vf12 := fun o => row_frz hV12 o
  have HY12 := Lib.hid (show ((((z12.setCell ⟨g12, 0, none⟩ (.string ⟨#[97]⟩)).setCell ⟨g12, 1, none⟩ (.string ⟨#[113, 117, 101, 117, 101]⟩)).setCell ⟨g12, 2, none⟩ (.int .i64 0)).setCell ⟨g12, 3, none⟩ (.int .u32 1)) = y12 from hy12)
  replace HD := Lib.hid (dir_step HD.out hbY12)
  replace HL := Lib.hid (row_step HL.out hbY12)
  replace HB := Lib.hid (bel_step HB.out hbY12)
  have HG := Lib.hid hyV12
  clear hV12 hy12 hbY12 hyV12
  go_upto_region 8 with fail
  clear hz12
  rw [HY12.out]
  clear v12_0 v12_1 v12_2 v12_3 vf12 HY12
  have hl := HL.out
  have hgr := HG.out
  have l0 := row_cell hl 0; have l1 := row_cell hl 1; have l2 := row_cell hl 2; have l3 := row_cell hl 3; have l4 := row_cell hl 4
  simp only [List.getElem?_toArray, List.getElem?_cons_zero, List.getElem?_cons_succ] at l0 l1 l2 l3 l4
  have k0 := row_cell hgr 0; have k1 := row_cell hgr 1; have k2 := row_cell hgr 2; have k3 := row_cell hgr 3
  simp only [List.getElem?_toArray, List.getElem?_cons_zero, List.getElem?_cons_succ] at k0 k1 k2 k3
  have hll := row_lt hl
  have hlg := row_lt hgr
  have heq := fun W => eq_gp W ⟨#[97]⟩ ⟨#[113, 117, 101, 117, 101]⟩ 0 1
  clear hl hgr
  go_wp2
  go_ret
  exact ⟨rfl, HB.out⟩
end Num
end Go.Proofs.Ytbfnghbfilahnaa
