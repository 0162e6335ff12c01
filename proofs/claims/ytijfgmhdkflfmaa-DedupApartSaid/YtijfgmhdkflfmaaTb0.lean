/-
  The reference's Put on an empty table.
-/
import Derived.Test.YtijfgmhdkflfmaaTa0
import Derived.Test.YtijfgmhdkflfmaaQA
import Derived.RegionTactic
import Derived.Deep.RegionWith
import Derived.Deep.RegionLaw
namespace Go.Proofs.Ytijfgmhdkflfmaa
open Go.RowKit
namespace Num
open Ints
set_option linter.unusedSimpArgs false
set_option linter.unusedVariables false
theorem info_u32s : (Try.prog.info? 37).map (fun i => (i.zero, i.size, i.bytes)) = some (some (.int .u32 0), 1, 4) := by kernel_rfl
set_option maxRecDepth 100000 in
set_option maxHeartbeats 4000000 in
theorem rseqs_one (w : World) (b lb cp : Nat) (h : w.heap[b]? = some (.cells #[.slice (some ⟨lb, 0, none⟩) 1 cp] 29 (0, 0))) (e0 : w.cell? ⟨lb, 0, none⟩ = some (.int .u32 0)) (e1 : w.cell? ⟨lb, 1, none⟩ = some (.int .u32 0)) (e2 : w.cell? ⟨lb, 2, none⟩ = some (.int .u16 0)) :
    Calls Try.prog 28 #[.pointer (some ⟨b, 0, none⟩), .int .u32 0] w fun e w' => ∃ p c, e = .returned (.slice p 1 c) ∧ Below w.heap.size w w' := by
  have c0 := row_cell h 0
  simp only [List.getElem?_toArray, List.getElem?_cons_zero] at c0
  obtain ⟨w1, hw1⟩ : ∃ W, w.alloc (.cells #[.int .u32 0, .int .u32 0, .int .u16 0] 40) = W := ⟨_, rfl⟩
  obtain ⟨g, hg⟩ : ∃ g, w.heap.size = g := ⟨_, rfl⟩
  have hV : w1.heap[g]? = some (.cells #[.int .u32 0, .int .u32 0, .int .u16 0] 40 (0, 0)) := by rw [← hw1, ← hg]; exact row_alloc w _ _
  have hb1 : Below g w w1 := by rw [← hw1, ← hg]; exact (Below.refl _ _).alloc (Nat.le_refl _) _
  obtain ⟨y, hy⟩ : ∃ y, set3 w1 g (.int .u32 0) (.int .u32 0) (.int .u16 0) = y := ⟨_, rfl⟩
  have hyV : y.heap[g]? = some (.cells #[.int .u32 0, .int .u32 0, .int .u16 0] 40 (0, 0)) := by rw [← hy]; exact set3_at hV _ _ _
  have hyB : Below g w y := by rw [← hy]; unfold set3; exact (((hb1.setCell (p := ⟨g, 0, none⟩) (Nat.le_refl _) _).setCell (p := ⟨g, 1, none⟩) (Nat.le_refl _) _).setCell (p := ⟨g, 2, none⟩) (Nat.le_refl _) _)
  have f0 := cell_keep (by rw [hg]; exact hb1) e0; have f1 := cell_keep (by rw [hg]; exact hb1) e1; have f2 := cell_keep (by rw [hg]; exact hb1) e2
  have z0 := row_cell hV 0; have z1 := row_cell hV 1; have z2 := row_cell hV 2
  simp only [List.getElem?_toArray, List.getElem?_cons_zero, List.getElem?_cons_succ] at z0 z1 z2
  have zf := fun o => row_frz hV o
  have HY := Lib.hid hy
  have HYV := Lib.hid hyV
  have HYB := Lib.hid hyB
  have HT := Lib.hid (row_step h (by rw [hg]; exact hyB))
  clear hV hb1 hy hyV hyB h
  go_enter Try.func28, Try.ntmps28
  go_wp2_with fail
  refine wp_loop_rounds 2 ?_; rw [rounds_succ]
  go_wp2_with fail
  clear hw1
  rw [show ((((w1).setCell ⟨g, 0, none⟩ (.int .u32 0)).setCell ⟨g, 1, none⟩ (.int .u32 0)).setCell ⟨g, 2, none⟩ (.int .u16 0)) = y from HY.out]
  clear z0 z1 z2 zf HY f0 f1 f2 e0 e1 e2
  have y0 := row_cell HYV.out 0; have y1 := row_cell HYV.out 1
  have c1 := row_cell HT.out 0
  simp only [List.getElem?_toArray, List.getElem?_cons_zero, List.getElem?_cons_succ] at y0 y1 c1
  go_quiet (fail)
  rename_i nq
  have hs0 := HT.out
  obtain ⟨w3, hw3⟩ : ∃ W, y.drewN nq = W := ⟨_, rfl⟩
  have HB3 := Lib.hid (show Below g w w3 by rw [← hw3]; exact bel_drewN _ HYB.out)
  have q0 : w3.cell? ⟨g, 0, none⟩ = some (.int .u32 0) := by rw [← hw3]; exact y0
  have q1 : w3.cell? ⟨g, 1, none⟩ = some (.int .u32 0) := by rw [← hw3]; exact y1
  have HT3 := Lib.hid (show w3.heap[b]? = some (.cells #[.slice (some ⟨lb, 0, none⟩) 1 cp] 29 (0, 0)) by rw [← hw3]; exact HT.out)
  rw [hw3]
  clear hw3 y0 y1 c1 c0 hs0
  obtain ⟨i0, hi, hz0, hz1, hz2⟩ := info_parts info_u32s
  go_wp2_with (at_builtin; refine wpList_append_own_at _ rfl _ _ 72 rfl 0 37 i0 _ 1 4 Try.underlying72 hi hz0 hz1 hz2 rfl (by decide) (.slice none 0 0) 0 [] rfl (World.ownsRow_nil _ _ _ _) ⟨w3.heap.size, 0, none⟩ 1 1 [.int .u32 0] rfl rfl (cell_one_new _ _ _) (fun u hu => by rw [List.mem_singleton.1 hu]; rfl) (by unfold maxLen; omega) (by omega) (Nat.zero_le _) ?_; intro v' w4 ho hgb _ _)
  obtain ⟨p', c', rfl⟩ : ∃ p' c', v' = .slice p' (0 + 1) c' := by
    rcases ho.2 with ⟨_, h⟩ | ⟨g', cap, cur, rfl, _⟩
    · omega
    · exact ⟨_, _, rfl⟩
  have hT4 := row_grown (row_alloc_step HT3.out (.cells #[.int .u32 0] 37)) hgb (by simp [Value.ownBlock])
  have c4 := row_cell hT4 0
  simp only [List.getElem?_toArray, List.getElem?_cons_zero] at c4
  have HB4 := Lib.hid (show Below g w w4 from Below.trans (HB3.out.alloc (by have := HB3.out.size; omega) (.cells #[.int .u32 0] 37)) ⟨hgb.os, hgb.tape, hgb.output, hgb.size, fun k hk => hgb.block k (by have := HB3.out.size; rw [World.size_alloc]; omega) (by simp [Value.ownBlock])⟩)
  clear ho hgb hT4 q0 q1
  go_wp2
  try (rw [rounds_succ]; go_wp2)
  go_ret
  exact ⟨p', c', rfl, by rw [hg]; exact HB4.out⟩
set_option maxRecDepth 100000 in
set_option maxHeartbeats 8000000 in
theorem rput_nil (w : World) (b : Nat) (h : w.heap[b]? = some (.cells #[.slice none 0 0] 29 (0, 0))) :
    Calls Try.prog 13 #[.pointer (some ⟨b, 0, none⟩), .agg #[.int .u32 0, .int .u32 0, .int .u16 0, .int .i64 0, .int .i64 0, .int .i64 0, .float .f64 0, .string ⟨#[]⟩, .slice none 0 0]] w fun e w' => e = .returned (.bool true) ∧ ∀ B, B ≤ b → Below B w w' := by
  obtain ⟨w1, hw1⟩ : ∃ W, w.alloc (.cells #[.int .u32 0, .int .u32 0, .int .u16 0, .int .i64 0, .int .i64 0, .int .i64 0, .float .f64 0, .string ⟨#[]⟩, .slice none 0 0] 43) = W := ⟨_, rfl⟩
  obtain ⟨g, hg⟩ : ∃ g, w.heap.size = g := ⟨_, rfl⟩
  have hb1 : Below w.heap.size w w1 := by rw [← hw1]; exact (Below.refl _ _).alloc (Nat.le_refl _) _
  have hA : w1.heap[g]? = some (.cells #[.int .u32 0, .int .u32 0, .int .u16 0, .int .i64 0, .int .i64 0, .int .i64 0, .float .f64 0, .string ⟨#[]⟩, .slice none 0 0] 43 (0, 0)) := by rw [← hw1, ← hg]; exact row_alloc w _ _
  have c0 := row_cell hA 0; have c1 := row_cell hA 1; have c2 := row_cell hA 2
  simp only [List.getElem?_toArray, List.getElem?_cons_zero, List.getElem?_cons_succ] at c0 c1 c2
  have HT1 := Lib.hid (row_step h hb1)
  have HA1 := Lib.hid hA
  have HL := Lib.hid (rlook_nil w1 b 0 0 0 (row_step h hb1))
  have HLT := Lib.hid (show b < g by rw [← hg]; exact row_lt h)
  have HB1 := Lib.hid (show Below g w w1 by rw [← hg]; exact hb1)
  have HG1 := Lib.hid (row_lt hA)
  clear h hb1 hA
  go_enter Try.func13, Try.ntmps13
  go_wp2_with fail
  clear hw1
  go_at_call 10; refine HL.out.mono ?_; rintro e w2 ⟨rfl, hb2⟩
  obtain ⟨g2, hg2⟩ : ∃ g2, w2.heap.size = g2 := ⟨_, rfl⟩
  obtain ⟨w3, hw3⟩ : ∃ W, w2.alloc (.cells #[.int .u32 0, .int .u32 0, .int .u16 0, .int .i64 0, .int .i64 0, .int .i64 0, .float .f64 0, .string ⟨#[]⟩, .slice none 0 0] 43) = W := ⟨_, rfl⟩
  have hV3 : w3.heap[g2]? = some (.cells #[.int .u32 0, .int .u32 0, .int .u16 0, .int .i64 0, .int .i64 0, .int .i64 0, .float .f64 0, .string ⟨#[]⟩, .slice none 0 0] 43 (0, 0)) := by rw [← hw3, ← hg2]; exact row_alloc w2 _ _
  obtain ⟨y, hy⟩ : ∃ y, set9 w3 g2 (.int .u32 0) (.int .u32 0) (.int .u16 0) (.int .i64 0) (.int .i64 0) (.int .i64 0) (.float .f64 0) (.string ⟨#[]⟩) (.slice none 0 0) = y := ⟨_, rfl⟩
  have hyB : Below w1.heap.size w1 y := bel_step hb2 (by rw [← hy, hg2]; exact set9_below (by rw [← hw3, ← hg2]; exact (Below.refl _ _).alloc (Nat.le_refl _) _) (Nat.le_refl _) (.int .u32 0) (.int .u32 0) (.int .u16 0) (.int .i64 0) (.int .i64 0) (.int .i64 0) (.float .f64 0) (.string ⟨#[]⟩) (.slice none 0 0))
  have z0 := row_cell hV3 0; have z1 := row_cell hV3 1; have z2 := row_cell hV3 2; have z3 := row_cell hV3 3; have z4 := row_cell hV3 4; have z5 := row_cell hV3 5; have z6 := row_cell hV3 6; have z7 := row_cell hV3 7; have z8 := row_cell hV3 8
  simp only [List.getElem?_toArray, List.getElem?_cons_zero, List.getElem?_cons_succ] at z0 z1 z2 z3 z4 z5 z6 z7 z8
  have zf := fun o => row_frz hV3 o
  have hAy := row_step HA1.out hyB
  have HTy := Lib.hid (row_step HT1.out hyB)
  have hA3 : w3.heap[g]? = some (.cells #[.int .u32 0, .int .u32 0, .int .u16 0, .int .i64 0, .int .i64 0, .int .i64 0, .float .f64 0, .string ⟨#[]⟩, .slice none 0 0] 43 (0, 0)) := by rw [← hw3]; exact row_alloc_step (row_step HA1.out hb2) _
  have k0 := row_cell hA3 0; have k1 := row_cell hA3 1; have k2 := row_cell hA3 2; have k3 := row_cell hA3 3; have k4 := row_cell hA3 4; have k5 := row_cell hA3 5; have k6 := row_cell hA3 6; have k7 := row_cell hA3 7; have k8 := row_cell hA3 8
  simp only [List.getElem?_toArray, List.getElem?_cons_zero, List.getElem?_cons_succ] at k0 k1 k2 k3 k4 k5 k6 k7 k8
  have hgl : g < g2 := by rw [← hg2]; exact row_lt (row_step HA1.out hb2)
  have hgn : ¬ (g = g2) := by omega
  have hgn' : ¬ (g2 = g) := by omega
  have HY := Lib.hid hy
  have HAy := Lib.hid hAy
  have HBy := Lib.hid (Below.trans HB1.out (hyB.mono (Nat.le_of_lt HG1.out)))
  have HCL := Lib.hid (rclean_nil y)
  clear hb2 hV3 hy hyB hAy hA3 c0 c1 c2
  go_wp2_with fail
  clear hw3
  rw [show ((((((((((w3).setCell ⟨g2, 0, none⟩ (.int .u32 0)).setCell ⟨g2, 1, none⟩ (.int .u32 0)).setCell ⟨g2, 2, none⟩ (.int .u16 0)).setCell ⟨g2, 3, none⟩ (.int .i64 0)).setCell ⟨g2, 4, none⟩ (.int .i64 0)).setCell ⟨g2, 5, none⟩ (.int .i64 0)).setCell ⟨g2, 6, none⟩ (.float .f64 0)).setCell ⟨g2, 7, none⟩ (.string ⟨#[]⟩)).setCell ⟨g2, 8, none⟩ (.slice none 0 0)) = y from HY.out]
  clear z0 z1 z2 z3 z4 z5 z6 z7 z8 zf HY
  clear k0 k1 k2 k3 k4 k5 k6 k7 k8
  go_at_call 26; refine HCL.out.mono ?_; rintro e w4 ⟨rfl, hb4⟩
  have hA4 := row_step HAy.out hb4
  have HB4 := Lib.hid (Below.trans HBy.out (hb4.mono (Nat.le_of_lt (row_lt HAy.out))))
  have HT4 := Lib.hid (row_step HTy.out hb4)
  have k0 := row_cell hA4 0; have k1 := row_cell hA4 1; have k2 := row_cell hA4 2; have k3 := row_cell hA4 3; have k4 := row_cell hA4 4; have k5 := row_cell hA4 5; have k6 := row_cell hA4 6; have k7 := row_cell hA4 7; have k8 := row_cell hA4 8
  simp only [List.getElem?_toArray, List.getElem?_cons_zero, List.getElem?_cons_succ] at k0 k1 k2 k3 k4 k5 k6 k7 k8
  have kf := fun o => row_frz hA4 o
  obtain ⟨y5, hy5⟩ : ∃ y5, (((((w4).setCell ⟨g, 4, none⟩ (.int .i64 0)).setCell ⟨g, 5, none⟩ (.int .i64 0)).setCell ⟨g, 6, none⟩ (.float .f64 0)).setCell ⟨g, 7, none⟩ (.string ⟨#[]⟩)).setCell ⟨g, 8, none⟩ (.slice none 0 0) = y5 := ⟨_, rfl⟩
  have hA5 : y5.heap[g]? = some (.cells #[.int .u32 0, .int .u32 0, .int .u16 0, .int .i64 0, .int .i64 0, .int .i64 0, .float .f64 0, .string ⟨#[]⟩, .slice none 0 0] 43 (0, 0)) := by
    rw [← hy5]
    simp [World.setCell, Array.getElem?_modify, hA4]
  have hT5 : y5.heap[b]? = some (.cells #[.slice none 0 0] 29 (0, 0)) := by
    have hne : b ≠ g := by have := HLT.out; omega
    rw [← hy5]
    iterate 5 rw [Below.heap_setCell _ _ _ _ hne]
    exact HT4.out
  have HB5 := Lib.hid (show Below g w y5 by rw [← hy5]; exact ((((HB4.out.setCell (p := ⟨g, 4, none⟩) (Nat.le_refl _) _).setCell (p := ⟨g, 5, none⟩) (Nat.le_refl _) _).setCell (p := ⟨g, 6, none⟩) (Nat.le_refl _) _).setCell (p := ⟨g, 7, none⟩) (Nat.le_refl _) _).setCell (p := ⟨g, 8, none⟩) (Nat.le_refl _) _)
  have HY5 := Lib.hid hy5
  have HA5 := Lib.hid hA5
  have HT5 := Lib.hid hT5
  have t5 := row_cell hT5 0
  simp only [List.getElem?_toArray, List.getElem?_cons_zero] at t5
  clear hb4 hA4 hy5 hA5 hT5
  go_wp2_with fail
  refine wp_loop_rounds 1 ?_; rw [rounds_succ]
  rw [show (((((w4).setCell ⟨g, 4, none⟩ (.int .i64 0)).setCell ⟨g, 5, none⟩ (.int .i64 0)).setCell ⟨g, 6, none⟩ (.float .f64 0)).setCell ⟨g, 7, none⟩ (.string ⟨#[]⟩)).setCell ⟨g, 8, none⟩ (.slice none 0 0) = y5 from HY5.out]
  clear k0 k1 k2 k3 k4 k5 k6 k7 k8 kf HY5
  go_wp2_with fail
  go_quiet (fail)
  rename_i nq
  obtain ⟨w5, hw5⟩ : ∃ W, y5.drewN nq = W := ⟨_, rfl⟩
  have HB6 := Lib.hid (show Below g w w5 by rw [← hw5]; exact bel_drewN _ HB5.out)
  have hA6 : w5.heap[g]? = some (.cells #[.int .u32 0, .int .u32 0, .int .u16 0, .int .i64 0, .int .i64 0, .int .i64 0, .float .f64 0, .string ⟨#[]⟩, .slice none 0 0] 43 (0, 0)) := by rw [← hw5]; exact HA5.out
  have hT6 : w5.heap[b]? = some (.cells #[.slice none 0 0] 29 (0, 0)) := by rw [← hw5]; exact HT5.out
  rw [hw5]
  clear hw5 t5
  have k0 := row_cell hA6 0; have k1 := row_cell hA6 1; have k2 := row_cell hA6 2; have k3 := row_cell hA6 3; have k4 := row_cell hA6 4; have k5 := row_cell hA6 5; have k6 := row_cell hA6 6; have k7 := row_cell hA6 7; have k8 := row_cell hA6 8
  have t6 := row_cell hT6 0
  simp only [List.getElem?_toArray, List.getElem?_cons_zero, List.getElem?_cons_succ] at k0 k1 k2 k3 k4 k5 k6 k7 k8 t6
  obtain ⟨w6, hw6⟩ : ∃ W, w5.alloc (.cells #[.int .u32 0, .int .u32 0, .int .u16 0, .int .i64 0, .int .i64 0, .int .i64 0, .float .f64 0, .string ⟨#[]⟩, .slice none 0 0] 43) = W := ⟨_, rfl⟩
  obtain ⟨g6, hg6⟩ : ∃ g6, w5.heap.size = g6 := ⟨_, rfl⟩
  have hN6 : w6.heap[g6]? = some (.cells #[.int .u32 0, .int .u32 0, .int .u16 0, .int .i64 0, .int .i64 0, .int .i64 0, .float .f64 0, .string ⟨#[]⟩, .slice none 0 0] 43 (0, 0)) := by rw [← hw6, ← hg6]; exact row_alloc w5 _ _
  have hA7 : w6.heap[g]? = some (.cells #[.int .u32 0, .int .u32 0, .int .u16 0, .int .i64 0, .int .i64 0, .int .i64 0, .float .f64 0, .string ⟨#[]⟩, .slice none 0 0] 43 (0, 0)) := by rw [← hw6]; exact row_alloc_step hA6 _
  have hT7 : w6.heap[b]? = some (.cells #[.slice none 0 0] 29 (0, 0)) := by rw [← hw6]; exact row_alloc_step hT6 _
  have m0 := row_cell hA7 0; have m1 := row_cell hA7 1; have m2 := row_cell hA7 2; have m3 := row_cell hA7 3; have m4 := row_cell hA7 4; have m5 := row_cell hA7 5; have m6 := row_cell hA7 6; have m7 := row_cell hA7 7; have m8 := row_cell hA7 8
  have t7 := row_cell hT7 0
  simp only [List.getElem?_toArray, List.getElem?_cons_zero, List.getElem?_cons_succ] at m0 m1 m2 m3 m4 m5 m6 m7 m8 t7
  obtain ⟨i0, hi0, hz0, hz1, hz2⟩ := info_parts info_re
  have hnews : ∀ j u, [Value.int .u32 0, Value.int .u32 0, Value.int .u16 0, Value.int .i64 0, Value.int .i64 0, Value.int .i64 0, Value.float .f64 0, Value.string ⟨#[]⟩, Value.slice none 0 0][j]? = some u → w6.drew.cell? ((⟨g6, 0, none⟩ : Addr).add j) = some u := fun j u hj => by
    rw [Addr.add_lit, Nat.zero_add]
    exact (row_cell (show w6.drew.heap[g6]? = _ from hN6) j).trans (by rw [List.getElem?_toArray]; exact hj)
  have hones : ∀ u ∈ [Value.int .u32 0, Value.int .u32 0, Value.int .u16 0, Value.int .i64 0, Value.int .i64 0, Value.int .i64 0, Value.float .f64 0, Value.string ⟨#[]⟩, Value.slice none 0 0], u.oneCell' = true := fun u hu => by
    simp only [List.mem_cons, List.not_mem_nil, or_false] at hu
    rcases hu with rfl | rfl | rfl | rfl | rfl | rfl | rfl | rfl | rfl <;> rfl
  have hown1 : w6.drew.ownsRow 0 43 9 (.slice (some ⟨g6, 0, none⟩) 1 1) 1 [Value.int .u32 0, Value.int .u32 0, Value.int .u16 0, Value.int .i64 0, Value.int .i64 0, Value.int .i64 0, Value.float .f64 0, Value.string ⟨#[]⟩, Value.slice none 0 0] := ⟨rfl, Or.inr ⟨g6, 1, _, rfl, Nat.zero_le _, hN6, Nat.le_refl _, by unfold maxLen; omega, rfl, rfl⟩⟩
  have hin := run_append_zero (P := Try.prog) (w := w6.drew) 0 27 27 43 i0 9 Try.underlying27 hi0 _ _ _ hown1 none 0
  obtain ⟨v', w7, hout, ho, hgb, _, hat⟩ := run_append_own_at (P := Try.prog) w6.drew 0 27 27 43 i0 _ 9 88 Try.underlying27 hi0 hz0 hz1 hz2 rfl (by decide) (.slice none 0 0) 0 [] (World.ownsRow_nil _ _ _ _) ⟨g6, 0, none⟩ 1 1 _ rfl hnews hones (by unfold maxLen; omega) (by omega) (Nat.zero_le _)
  obtain ⟨lb, cp, rfl, hlb⟩ : ∃ lb cp, v' = .slice (some ⟨lb, 0, none⟩) 1 cp ∧ w6.heap.size ≤ lb := by
    rcases ho.2 with ⟨_, h⟩ | ⟨g', cap, cur, rfl, _⟩
    · omega
    · refine ⟨g', cap, rfl, ?_⟩
      rcases hat with e | e
      · cases e
      · have e' : g' = w6.drew.heap.size := by injection e
        rw [e']; exact Nat.le_refl _
  have hT8 := row_grown (show w6.drew.heap[b]? = _ from hT7) hgb (by simp [Value.ownBlock])
  have hA8 := row_grown (show w6.drew.heap[g]? = _ from hA7) hgb (by simp [Value.ownBlock])
  have l0 := own_cell ho 0 _ rfl; have l1 := own_cell ho 1 _ rfl; have l2 := own_cell ho 2 _ rfl
  have u0 := row_cell hT8 0
  have v0 := row_cell hA8 0
  simp only [List.getElem?_toArray, List.getElem?_cons_zero, List.getElem?_cons_succ] at u0 v0
  have uf := fun o => row_frz hT8 o
  have hblt : b < lb := by have h1 := row_lt hT7; omega
  have hblg : b ≠ g := by have := HLT.out; omega
  obtain ⟨y7, hy7⟩ : ∃ y, w7.setCell ⟨b, 0, none⟩ (.slice (some ⟨lb, 0, none⟩) 1 cp) = y := ⟨_, rfl⟩
  have hT9 : y7.heap[b]? = some (.cells #[.slice (some ⟨lb, 0, none⟩) 1 cp] 29 (0, 0)) := by rw [← hy7]; simp [World.setCell, Array.getElem?_modify, hT8]
  have hk9 : ∀ k, k ≠ b → y7.heap[k]? = w7.heap[k]? := fun k hk => by rw [← hy7]; exact Below.heap_setCell _ _ _ _ hk
  have n0 := (World.cell?_of_block (a := ⟨lb, 0, none⟩) (hk9 lb (by omega))).trans l0
  have n1 := (World.cell?_of_block (a := ⟨lb, 1, none⟩) (hk9 lb (by omega))).trans l1
  have n2 := (World.cell?_of_block (a := ⟨lb, 2, none⟩) (hk9 lb (by omega))).trans l2
  have x0 := (World.cell?_of_block (a := ⟨g, 0, none⟩) (hk9 g (Ne.symm hblg))).trans v0
  have HSQ := Lib.hid (rseqs_one y7 b lb cp hT9 n0 n1 n2)
  have HB9 := Lib.hid (show ∀ B, B ≤ b → Below B w y7 from fun B hB => by
    have h1 : Below g w w6 := by rw [← hw6]; exact HB6.out.alloc (by have := row_lt hA6; omega) _
    have h2 : Below g w w7 := ⟨hgb.os.trans h1.os, hgb.tape.trans h1.tape, hgb.output.trans h1.output, Nat.le_trans h1.size hgb.size, fun k hk => (hgb.block k (show k < w6.heap.size by have := row_lt hA7; omega) (by simp [Value.ownBlock])).trans (h1.block k hk)⟩
    rw [← hy7]
    exact (h2.mono (show B ≤ g by have := HLT.out; omega)).setCell (p := ⟨b, 0, none⟩) hB _)
  have HSZ := Lib.hid (show b < y7.heap.size from row_lt hT9)
  have HY7 := Lib.hid hy7
  clear hN6 hA7 hT7 hA6 hT6 hnews hones hown1 ho hgb hat hi0 hz0 hz1 hz2 hT8 hA8 l0 l1 l2 v0 hT9 hk9 n0 n1 n2 hy7 hlb
  rw [← hw6] at hin hout m0 m1 m2 m3 m4 m5 m6 m7 m8 t7
  clear hw6
  go_wp2_with fail
  go_region_law (first
    | (refine step_app (by rfl) _ _ 27 27 (by rfl) _ _ (by rfl) (by rfl) hin ?_)
    | (refine step_app (by rfl) _ _ 27 27 (by rfl) _ _ (by rfl) (by rfl) hout ?_))
  all_goals
    rw [show w7.setCell ⟨b, 0, none⟩ (.slice (some ⟨lb, 0, none⟩) 1 cp) = y7 from HY7.out]
    go_wp2_with fail
    go_at_call 28; refine HSQ.out.mono ?_; rintro e w8 ⟨p8, c8, rfl, hb8⟩
    have HB8 := Lib.hid hb8
    clear hb8
    go_wp2
    go_ret
    exact ⟨rfl, fun B hB => (HB9.out B hB).trans (HB8.out.mono (by have := HSZ.out; omega))⟩
end Num
end Go.Proofs.Ytijfgmhdkflfmaa
