/-
  The reference's table of replies, empty: Look, old, seqs.
-/
import Derived.Test.YtijfgmhdkflfmaaSx
namespace Go.Proofs.Ytijfgmhdkflfmaa
open Go.RowKit
namespace Num
open Ints
set_option linter.unusedSimpArgs false
set_option linter.unusedVariables false
set_option maxRecDepth 100000 in
theorem rseqs_nil (w : World) (b : Nat) (c : Int) (h : w.heap[b]? = some (.cells #[.slice none 0 0] 29 (0, 0))) :
    Calls Try.prog 28 #[.pointer (some ⟨b, 0, none⟩), .int .u32 c] w fun e w' => e = .returned (.slice none 0 0) ∧ Below w.heap.size w w' := by
  have c0 := row_cell h 0
  simp only [List.getElem?_toArray, List.getElem?_cons_zero] at c0
  go_enter Try.func28, Try.ntmps28
  go_wp2
  refine wp_loop_rounds 1 ?_; rw [rounds_succ]; go_wp2
  go_ret
  exact ⟨rfl, Below.refl _ _⟩
set_option maxRecDepth 100000 in
theorem rold_nil (w : World) (b : Nat) (x0 x1 x2 : Int) (h : w.heap[b]? = some (.cells #[.slice none 0 0] 29 (0, 0))) :
    Calls Try.prog 23 #[.pointer (some ⟨b, 0, none⟩), .agg #[.int .u32 x0, .int .u32 x1, .int .u16 x2]] w fun e w' => e = .returned (.bool false) ∧ Below w.heap.size w w' := by
  have h1 := row_alloc_step h (.cells #[.int .u32 x0, .int .u32 x1, .int .u16 x2] 40)
  have HB := Lib.hid ((Below.refl w.heap.size w).alloc (Nat.le_refl _) (.cells #[.int .u32 x0, .int .u32 x1, .int .u16 x2] 40))
  have HS := Lib.hid (rseqs_nil _ b x0 h1)
  clear h h1
  go_enter Try.func23, Try.ntmps23
  go_wp2_with fail
  go_at_call 28; refine HS.out.mono ?_; rintro e w2 ⟨rfl, hb2⟩
  have HB2 := Lib.hid (bel_step HB.out hb2)
  clear hb2
  go_wp2_with fail
  go_quiet (fail)
  go_wp2
  go_ret
  exact ⟨rfl, bel_drewN _ HB2.out⟩
set_option maxRecDepth 100000 in
set_option maxHeartbeats 4000000 in
theorem rlook_nil (w : World) (b : Nat) (x0 x1 x2 : Int) (h : w.heap[b]? = some (.cells #[.slice none 0 0] 29 (0, 0))) :
    Calls Try.prog 10 #[.pointer (some ⟨b, 0, none⟩), .agg #[.int .u32 x0, .int .u32 x1, .int .u16 x2]] w fun e w' => e = .returned (.tuple #[repZ, .bool false, .int .i64 0]) ∧ Below w.heap.size w w' := by
  obtain ⟨w1, hw1⟩ : ∃ W, w.alloc (.cells #[.int .u32 x0, .int .u32 x1, .int .u16 x2] 40) = W := ⟨_, rfl⟩
  obtain ⟨w2, hw2⟩ : ∃ W, w1.alloc (.cells #[.int .u32 0, .int .u32 0, .int .u16 0, .int .i64 0, .int .i64 0, .int .i64 0, .float .f64 0, .string ⟨#[]⟩, .slice none 0 0] 43) = W := ⟨_, rfl⟩
  obtain ⟨g, hg⟩ : ∃ g, w.heap.size = g := ⟨_, rfl⟩
  have hs1 : w1.heap.size = g + 1 := by rw [← hw1, World.size_alloc, hg]
  have hb2 : Below w.heap.size w w2 := by rw [← hw2, ← hw1]; exact bel_alloc (bel_alloc (Below.refl w.heap.size w) _) _
  have h2 := row_step h hb2
  have hA : w2.heap[g]? = some (.cells #[.int .u32 x0, .int .u32 x1, .int .u16 x2] 40 (0, 0)) := by rw [← hw2, ← hw1, ← hg]; exact row_alloc_step (row_alloc w _ _) _
  have hR : w2.heap[g + 1]? = some (.cells #[.int .u32 0, .int .u32 0, .int .u16 0, .int .i64 0, .int .i64 0, .int .i64 0, .float .f64 0, .string ⟨#[]⟩, .slice none 0 0] 43 (0, 0)) := by rw [← hw2, ← hs1]; exact row_alloc w1 _ _
  have c0 := row_cell h2 0
  have k0 := row_cell hA 0; have k1 := row_cell hA 1; have k2 := row_cell hA 2
  simp only [List.getElem?_toArray, List.getElem?_cons_zero, List.getElem?_cons_succ] at c0 k0 k1 k2
  have HB := Lib.hid hb2
  have HO := Lib.hid (rold_nil w2 b x0 x1 x2 h2)
  have HR := Lib.hid hR
  clear h h2 hb2 hA hR
  go_enter Try.func10, Try.ntmps10
  go_wp2_with fail
  refine wp_loop_rounds 1 ?_; rw [rounds_succ]
  go_wp2_with fail
  clear hw1 hw2
  go_at_call 23; refine HO.out.mono ?_; rintro e w3 ⟨rfl, hb3⟩
  have hR3 := row_step HR.out hb3
  have r0 := row_cell hR3 0; have r1 := row_cell hR3 1; have r2 := row_cell hR3 2; have r3 := row_cell hR3 3; have r4 := row_cell hR3 4; have r5 := row_cell hR3 5; have r6 := row_cell hR3 6; have r7 := row_cell hR3 7; have r8 := row_cell hR3 8
  simp only [List.getElem?_toArray, List.getElem?_cons_zero, List.getElem?_cons_succ] at r0 r1 r2 r3 r4 r5 r6 r7 r8
  have rf := fun o => row_frz hR3 o
  have HB3 := Lib.hid (bel_step HB.out hb3)
  clear hb3 hR3 c0 k0 k1 k2
  go_wp2
  refine bodyPost_ret (v := .tuple #[repZ, .bool false, .int .i64 0]) (by simp [results, Try.results10, go_sem, World.cell?_setCell_same, World.cell?_setCell_other, r0, r1, r2, r3, r4, r5, r6, r7, r8]) rfl ⟨rfl, ?_⟩
  exact set9_below (w := w3) (g := g + 1) HB3.out (by omega) _ _ _ _ _ _ _ _ _
/-- The reference's Clean of nothing. -/
theorem rclean_nil (w : World) : Calls Try.prog 26 #[.agg #[.int .i64 0, .int .i64 0, .float .f64 0, .string ⟨#[]⟩, .slice none 0 0]] w fun e w' => e = .returned (.agg #[.int .i64 0, .int .i64 0, .float .f64 0, .string ⟨#[]⟩, .slice none 0 0]) ∧ Below w.heap.size w w' := by
  obtain ⟨w1, hw1⟩ : ∃ W, w.alloc (.cells #[.int .i64 0, .int .i64 0, .float .f64 0, .string ⟨#[]⟩, .slice none 0 0] 33) = W := ⟨_, rfl⟩
  obtain ⟨w2, hw2⟩ : ∃ W, w1.alloc (.cells #[.int .i64 0, .int .i64 0, .float .f64 0, .string ⟨#[]⟩, .slice none 0 0] 33) = W := ⟨_, rfl⟩
  obtain ⟨g, hg⟩ : ∃ g, w.heap.size = g := ⟨_, rfl⟩
  have hs1 : w1.heap.size = g + 1 := by rw [← hw1, World.size_alloc, hg]
  have HB := Lib.hid (show Below g w w2 by rw [← hw2, ← hw1, ← hg]; exact bel_alloc (bel_alloc (Below.refl w.heap.size w) _) _)
  have hA : w2.heap[g]? = some (.cells #[.int .i64 0, .int .i64 0, .float .f64 0, .string ⟨#[]⟩, .slice none 0 0] 33 (0, 0)) := by rw [← hw2, ← hw1, ← hg]; exact row_alloc_step (row_alloc w _ _) _
  have hR : w2.heap[g + 1]? = some (.cells #[.int .i64 0, .int .i64 0, .float .f64 0, .string ⟨#[]⟩, .slice none 0 0] 33 (0, 0)) := by rw [← hw2, ← hs1]; exact row_alloc w1 _ _
  have c0 := row_cell hA 0; have c1 := row_cell hA 1; have c2 := row_cell hA 2; have c3 := row_cell hA 3; have c4 := row_cell hA 4
  have r0 := row_cell hR 0; have r1 := row_cell hR 1; have r2 := row_cell hR 2; have r3 := row_cell hR 3; have r4 := row_cell hR 4
  simp only [List.getElem?_toArray, List.getElem?_cons_zero, List.getElem?_cons_succ] at c0 c1 c2 c3 c4 r0 r1 r2 r3 r4
  have rf := fun o => row_frz hR o
  clear hA hR
  go_enter Try.func26, Try.ntmps26
  go_wp2
  clear hw1 hw2
  refine bodyPost_ret (v := .agg #[.int .i64 0, .int .i64 0, .float .f64 0, .string ⟨#[]⟩, .slice none 0 0]) (by simp [results, Try.results26, go_sem, World.cell?_setCell_same, World.cell?_setCell_other, r0, r1, r2, r3, r4]) rfl ⟨rfl, ?_⟩
  rw [hg]
  exact below5 HB.out (b := g + 1) (by omega) _ _ _ _ _
end Num
end Go.Proofs.Ytijfgmhdkflfmaa
