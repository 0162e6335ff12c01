/-
  GuardInner's function.
-/
import Derived.Test.YtgeicgfijnabkaaDoorGn
import Derived.Test.YtgeicgfijnabkaaDoorGl
namespace Go.Proofs.YtgeicgfijnabkaaDoor
open Go.RowKit
namespace Num
open Ints
set_option linter.unusedSimpArgs false
set_option linter.unusedVariables false
set_option maxRecDepth 100000 in
set_option maxHeartbeats 4000000 in
theorem inner_raises (h : Int) (S : ByteArray) (x s0 : Int) (b0 b1 b2 b3 b4 : Nat) (w : World) (hS : S.size ≤ 40) (h0 : 0 ≤ h) (hx0 : -32768 ≤ x) (hx1 : x ≤ 32767) (r0 : w.heap[b0]? = some (.cells #[.int .u8 h] 5 (0, 0))) (r1 : w.heap[b1]? = some (.cells #[.string S] 9 (0, 0))) (r2 : w.heap[b2]? = some (.cells #[.int .i16 x] 49 (0, 0))) (r3 : w.heap[b3]? = some (.cells #[.int .i64 s0] 3 (0, 0))) (r4 : w.heap[b4]? = some (.cells #[.bool true] 4 (0, 0))) (n03 : b0 ≠ b3) (n13 : b1 ≠ b3) (n23 : b2 ≠ b3) (n43 : b4 ≠ b3) :
    Calls Tryd.prog 19 #[.pointer (some ⟨b0, 0, none⟩), .pointer (some ⟨b1, 0, none⟩), .pointer (some ⟨b2, 0, none⟩), .pointer (some ⟨b3, 0, none⟩), .pointer (some ⟨b4, 0, none⟩)] w fun e w' => (∃ u pv, e = .panicked [{ v := .iface u pv, recovered := false }] ∧ True) ∧ Kept [b3] w w' ∧ w'.cell? ⟨b3, 0, none⟩ = some (.int .i64 34) := by
  have l0 := row_lt r0; have l1 := row_lt r1; have l2 := row_lt r2; have l3 := row_lt r3; have l4 := row_lt r4
  have m0 : b0 ≠ w.heap.size := by omega
  have m1 : b1 ≠ w.heap.size := by omega
  have m2 : b2 ≠ w.heap.size := by omega
  have m3 : b3 ≠ w.heap.size := by omega
  have m4 : b4 ≠ w.heap.size := by omega
  have HB := Lib.hid (bel_alloc (Below.refl w.heap.size w) (.cells #[.int .i64 0, .int .i64 0, .float .f64 0, .string ⟨#[]⟩, .slice none 0 0] 25))
  have HZ := Lib.hid (row_alloc w #[.int .i64 0, .int .i64 0, .float .f64 0, .string ⟨#[]⟩, .slice none 0 0] 25)
  have HR0 := Lib.hid (row_alloc_step r0 (.cells #[.int .i64 0, .int .i64 0, .float .f64 0, .string ⟨#[]⟩, .slice none 0 0] 25))
  have HR1 := Lib.hid (row_alloc_step r1 (.cells #[.int .i64 0, .int .i64 0, .float .f64 0, .string ⟨#[]⟩, .slice none 0 0] 25))
  have HR2 := Lib.hid (row_alloc_step r2 (.cells #[.int .i64 0, .int .i64 0, .float .f64 0, .string ⟨#[]⟩, .slice none 0 0] 25))
  have HR3 := Lib.hid (row_alloc_step r3 (.cells #[.int .i64 0, .int .i64 0, .float .f64 0, .string ⟨#[]⟩, .slice none 0 0] 25))
  have HR4 := Lib.hid (row_alloc_step r4 (.cells #[.int .i64 0, .int .i64 0, .float .f64 0, .string ⟨#[]⟩, .slice none 0 0] 25))
  have HRR := Lib.hid (fun c0 c1 c2 n W q0 q1 q2 => run_rises h S n c0 c1 c2 W hS h0 q0 q1 q2)
  have HRA := Lib.hid (fun n W => raise_any h S n W hS h0)
  have c0 := row_cell r0 0; have c1 := row_cell r1 0; have c2 := row_cell r2 0
  simp only [List.getElem?_toArray, List.getElem?_cons_zero, List.getElem?_cons_succ] at c0 c1 c2
  clear r0 r1 r2 r3 r4 hS h0
  go_enter Tryd.func19, Tryd.ntmps19
  go_wp2_with fail
  go_at_call 13; refine (rises_row h S _ _).mono ?_; rintro e w2 ⟨d0, d1, d2, rfl, hb2, q0, q1, q2⟩
  have HB2 := Lib.hid (bel_step HB.out hb2)
  have HZ2 := Lib.hid (row_step HZ.out hb2)
  have HR02 := Lib.hid (row_step HR0.out hb2)
  have HR12 := Lib.hid (row_step HR1.out hb2)
  have HR22 := Lib.hid (row_step HR2.out hb2)
  have HR32 := Lib.hid (row_step HR3.out hb2)
  have HR42 := Lib.hid (row_step HR4.out hb2)
  have HRUN := Lib.hid (HRR.out d0 d1 d2 _ w2 q0 q1 q2)
  clear hb2 q0 q1 q2 HB HZ HR0 HR1 HR2 HR3 HR4 HRR c0 c1 c2
  go_wp2_with fail
  go_at_call 9; refine HRUN.out.mono ?_; rintro e w3 ⟨rfl, hb3⟩
  have hB3 := bel_step HB2.out hb3
  have z3 := row_step HZ2.out hb3
  have k0 := row_step HR02.out hb3
  have k1 := row_step HR12.out hb3
  have k2 := row_step HR22.out hb3
  have k3 := row_step HR32.out hb3
  have k4 := row_step HR42.out hb3
  have g0 := row_cell k0 0; have g1 := row_cell k1 0; have g2 := row_cell k2 0; have g3 := row_cell k3 0; have g4 := row_cell k4 0
  simp only [List.getElem?_toArray, List.getElem?_cons_zero, List.getElem?_cons_succ] at g0 g1 g2 g3 g4
  have f3 := fun o => row_frz k3 o
  have lt0 := row_lt k0; have lt1 := row_lt k1; have lt2 := row_lt k2; have lt3 := row_lt k3; have lt4 := row_lt k4; have ltz := row_lt z3
  have HK := Lib.hid (show Kept [b3] w ((w3.setCell ⟨b3, 0, none⟩ (.int .i64 34)).alloc (.cells #[.int .i64 0, .int .i64 0, .float .f64 0, .string ⟨#[]⟩, .slice none 0 0] 25)) from kept_step (kept_set (kept_below hB3) (Or.inl (List.mem_singleton.2 rfl))) (bel_alloc (Below.refl _ _) _))
  have hc3 : (w3.setCell ⟨b3, 0, none⟩ (.int .i64 34)).cell? ⟨b3, 0, none⟩ = some (.int .i64 34) := cell_set_same g3
  have HC3 := Lib.hid hc3
  have HZ3 := Lib.hid (show (w3.setCell ⟨b3, 0, none⟩ (.int .i64 34)).heap[w.heap.size]? = some (.cells #[.int .i64 0, .int .i64 0, .float .f64 0, .string ⟨#[]⟩, .slice none 0 0] 25 (0, 0)) from (Below.heap_setCell _ _ _ _ (by exact Ne.symm m3)).trans z3)
  clear hB3 hb3 k0 k1 k2 k3 k4 z3 HB2 HZ2 HR02 HR12 HR22 HR32 HR42 HRUN hc3
  go_wp2_with fail
  go_at_call 18; refine (HRA.out _ _).mono ?_; rintro e w5 ⟨⟨u, pv, rfl, _⟩, hb5⟩
  have h34 := cell_keep (bel_alloc (Below.refl _ _) (.cells #[.int .i64 0, .int .i64 0, .float .f64 0, .string ⟨#[]⟩, .slice none 0 0] 25)) HC3.out
  exact ⟨rfl, ⟨_, _, rfl, trivial⟩, kept_step HK.out hb5, cell_keep hb5 h34⟩
set_option maxRecDepth 100000 in
set_option maxHeartbeats 4000000 in
theorem inner_says (h : Int) (S : ByteArray) (x s0 : Int) (b0 b1 b2 b3 b4 : Nat) (w : World) (hS : S.size ≤ 40) (h0 : 0 ≤ h) (hx0 : -32768 ≤ x) (hx1 : x ≤ 32767) (r0 : w.heap[b0]? = some (.cells #[.int .u8 h] 5 (0, 0))) (r1 : w.heap[b1]? = some (.cells #[.string S] 9 (0, 0))) (r2 : w.heap[b2]? = some (.cells #[.int .i16 x] 49 (0, 0))) (r3 : w.heap[b3]? = some (.cells #[.int .i64 s0] 3 (0, 0))) (r4 : w.heap[b4]? = some (.cells #[.bool false] 4 (0, 0))) (n03 : b0 ≠ b3) (n13 : b1 ≠ b3) (n23 : b2 ≠ b3) (n43 : b4 ≠ b3) :
    Calls Tryd.prog 19 #[.pointer (some ⟨b0, 0, none⟩), .pointer (some ⟨b1, 0, none⟩), .pointer (some ⟨b2, 0, none⟩), .pointer (some ⟨b3, 0, none⟩), .pointer (some ⟨b4, 0, none⟩)] w fun e w' => e = .returned (.tuple #[.agg #[.int .i64 1, .int .i64 x, .float .f64 0, .string ⟨#[]⟩, .slice none 0 0], .int .i64 0]) ∧ Kept [b3] w w' ∧ w'.cell? ⟨b3, 0, none⟩ = some (.int .i64 34) := by
  have l0 := row_lt r0; have l1 := row_lt r1; have l2 := row_lt r2; have l3 := row_lt r3; have l4 := row_lt r4
  have m0 : b0 ≠ w.heap.size := by omega
  have m1 : b1 ≠ w.heap.size := by omega
  have m2 : b2 ≠ w.heap.size := by omega
  have m3 : b3 ≠ w.heap.size := by omega
  have m4 : b4 ≠ w.heap.size := by omega
  have HB := Lib.hid (bel_alloc (Below.refl w.heap.size w) (.cells #[.int .i64 0, .int .i64 0, .float .f64 0, .string ⟨#[]⟩, .slice none 0 0] 25))
  have HZ := Lib.hid (row_alloc w #[.int .i64 0, .int .i64 0, .float .f64 0, .string ⟨#[]⟩, .slice none 0 0] 25)
  have HR0 := Lib.hid (row_alloc_step r0 (.cells #[.int .i64 0, .int .i64 0, .float .f64 0, .string ⟨#[]⟩, .slice none 0 0] 25))
  have HR1 := Lib.hid (row_alloc_step r1 (.cells #[.int .i64 0, .int .i64 0, .float .f64 0, .string ⟨#[]⟩, .slice none 0 0] 25))
  have HR2 := Lib.hid (row_alloc_step r2 (.cells #[.int .i64 0, .int .i64 0, .float .f64 0, .string ⟨#[]⟩, .slice none 0 0] 25))
  have HR3 := Lib.hid (row_alloc_step r3 (.cells #[.int .i64 0, .int .i64 0, .float .f64 0, .string ⟨#[]⟩, .slice none 0 0] 25))
  have HR4 := Lib.hid (row_alloc_step r4 (.cells #[.int .i64 0, .int .i64 0, .float .f64 0, .string ⟨#[]⟩, .slice none 0 0] 25))
  have HRR := Lib.hid (fun c0 c1 c2 n W q0 q1 q2 => run_rises h S n c0 c1 c2 W hS h0 q0 q1 q2)
  have HRA := Lib.hid (fun n W => raise_any h S n W hS h0)
  have c0 := row_cell r0 0; have c1 := row_cell r1 0; have c2 := row_cell r2 0
  simp only [List.getElem?_toArray, List.getElem?_cons_zero, List.getElem?_cons_succ] at c0 c1 c2
  clear r0 r1 r2 r3 r4 hS h0
  go_enter Tryd.func19, Tryd.ntmps19
  go_wp2_with fail
  go_at_call 13; refine (rises_row h S _ _).mono ?_; rintro e w2 ⟨d0, d1, d2, rfl, hb2, q0, q1, q2⟩
  have HB2 := Lib.hid (bel_step HB.out hb2)
  have HZ2 := Lib.hid (row_step HZ.out hb2)
  have HR02 := Lib.hid (row_step HR0.out hb2)
  have HR12 := Lib.hid (row_step HR1.out hb2)
  have HR22 := Lib.hid (row_step HR2.out hb2)
  have HR32 := Lib.hid (row_step HR3.out hb2)
  have HR42 := Lib.hid (row_step HR4.out hb2)
  have HRUN := Lib.hid (HRR.out d0 d1 d2 _ w2 q0 q1 q2)
  clear hb2 q0 q1 q2 HB HZ HR0 HR1 HR2 HR3 HR4 HRR c0 c1 c2
  go_wp2_with fail
  go_at_call 9; refine HRUN.out.mono ?_; rintro e w3 ⟨rfl, hb3⟩
  have hB3 := bel_step HB2.out hb3
  have z3 := row_step HZ2.out hb3
  have k0 := row_step HR02.out hb3
  have k1 := row_step HR12.out hb3
  have k2 := row_step HR22.out hb3
  have k3 := row_step HR32.out hb3
  have k4 := row_step HR42.out hb3
  have g0 := row_cell k0 0; have g1 := row_cell k1 0; have g2 := row_cell k2 0; have g3 := row_cell k3 0; have g4 := row_cell k4 0
  simp only [List.getElem?_toArray, List.getElem?_cons_zero, List.getElem?_cons_succ] at g0 g1 g2 g3 g4
  have f3 := fun o => row_frz k3 o
  have lt0 := row_lt k0; have lt1 := row_lt k1; have lt2 := row_lt k2; have lt3 := row_lt k3; have lt4 := row_lt k4; have ltz := row_lt z3
  have HK := Lib.hid (show Kept [b3] w ((w3.setCell ⟨b3, 0, none⟩ (.int .i64 34)).alloc (.cells #[.int .i64 0, .int .i64 0, .float .f64 0, .string ⟨#[]⟩, .slice none 0 0] 25)) from kept_step (kept_set (kept_below hB3) (Or.inl (List.mem_singleton.2 rfl))) (bel_alloc (Below.refl _ _) _))
  have hc3 : (w3.setCell ⟨b3, 0, none⟩ (.int .i64 34)).cell? ⟨b3, 0, none⟩ = some (.int .i64 34) := cell_set_same g3
  have HC3 := Lib.hid hc3
  have HZ3 := Lib.hid (show (w3.setCell ⟨b3, 0, none⟩ (.int .i64 34)).heap[w.heap.size]? = some (.cells #[.int .i64 0, .int .i64 0, .float .f64 0, .string ⟨#[]⟩, .slice none 0 0] 25 (0, 0)) from (Below.heap_setCell _ _ _ _ (by exact Ne.symm m3)).trans z3)
  clear hB3 hb3 k0 k1 k2 k3 k4 z3 HB2 HZ2 HR02 HR12 HR22 HR32 HR42 HRUN hc3
  go_wp2_with fail
  go_at_call 20; refine (int_ref_any _ _).mono ?_; rintro e w5 ⟨rfl, hb5⟩
  have h34 := Lib.hid (cell_keep hb5 (cell_keep (bel_alloc (Below.refl _ _) (.cells #[.int .i64 0, .int .i64 0, .float .f64 0, .string ⟨#[]⟩, .slice none 0 0] 25)) HC3.out))
  have HK5 := Lib.hid (kept_step HK.out hb5)
  have z5 := row_step (row_alloc_step HZ3.out (.cells #[.int .i64 0, .int .i64 0, .float .f64 0, .string ⟨#[]⟩, .slice none 0 0] 25)) hb5
  have d0 := row_cell z5 0; have d1 := row_cell z5 1; have d2 := row_cell z5 2; have d3 := row_cell z5 3; have d4 := row_cell z5 4
  simp only [List.getElem?_toArray, List.getElem?_cons_zero, List.getElem?_cons_succ] at d0 d1 d2 d3 d4
  have df := fun o => row_frz z5 o
  have lz := row_lt z5
  clear hb5 z5 HK HZ3 HC3 g0 g1 g2 g3 g4 f3
  go_wp2
  exact bodyPost_ret (v := .tuple #[.agg #[.int .i64 1, .int .i64 x, .float .f64 0, .string ⟨#[]⟩, .slice none 0 0], .int .i64 0]) (by simp [results, Tryd.results19, go_sem, World.cell?_setCell_same, World.cell?_setCell_other, d0, d1, d2, d3, d4]) rfl ⟨rfl, kept_set5 (b := w.heap.size) (o := 0) _ _ _ _ _ HK5.out (Or.inr (Nat.le_refl _)), (World.cell?_of_block (set5_other (g := w.heap.size) (o := 0) (by exact m3))).trans h34.out⟩
theorem stab34 {B b3 : Nat} (h : b3 < B) : Stab B (fun W => W.cell? ⟨b3, 0, none⟩ = some (.int .i64 34)) := stab_cell h
theorem sing_lt {b n : Nat} (h : b < n) : ∀ k ∈ [b], k < n := fun k hk => by rw [List.mem_singleton] at hk; omega
theorem run_inner_pan (h : Int) (S : ByteArray) (x s0 : Int) (b0 b1 b2 b3 b4 : Nat) (w : World) (hS : S.size ≤ 40) (h0 : 0 ≤ h) (hx0 : -32768 ≤ x) (hx1 : x ≤ 32767) (r0 : w.heap[b0]? = some (.cells #[.int .u8 h] 5 (0, 0))) (r1 : w.heap[b1]? = some (.cells #[.string S] 9 (0, 0))) (r2 : w.heap[b2]? = some (.cells #[.int .i16 x] 49 (0, 0))) (r3 : w.heap[b3]? = some (.cells #[.int .i64 s0] 3 (0, 0))) (r4 : w.heap[b4]? = some (.cells #[.bool true] 4 (0, 0))) (n03 : b0 ≠ b3) (n13 : b1 ≠ b3) (n23 : b2 ≠ b3) (n43 : b4 ≠ b3) :
    Calls Tryd.prog 9 #[.func (.func 19) #[] #[.pointer (some ⟨b0, 0, none⟩), .pointer (some ⟨b1, 0, none⟩), .pointer (some ⟨b2, 0, none⟩), .pointer (some ⟨b3, 0, none⟩), .pointer (some ⟨b4, 0, none⟩)]] w fun e w' => e = .returned (.tuple #[.agg #[.int .i64 0, .int .i64 0, .float .f64 0, .string ⟨#[]⟩, .slice none 0 0], .int .i64 34]) ∧ Kept [b3] w w' ∧ w'.cell? ⟨b3, 0, none⟩ = some (.int .i64 34) :=
  run_pan _ _ [b3] (fun W => W.cell? ⟨b3, 0, none⟩ = some (.int .i64 34)) w (sing_lt (row_lt r3)) (Lib.hid (stab34 (row_lt r3)))
    (Lib.hid (fun W hb g0 g2 g3 => runc_pan_inner b0 b1 b2 b3 b4 _ _ _ [b3] (fun W => W.cell? ⟨b3, 0, none⟩ = some (.int .i64 34)) W (row_cell g0 0)
      (Lib.hid (inner_raises h S x s0 b0 b1 b2 b3 b4 W hS h0 hx0 hx1 (row_step r0 hb) (row_step r1 hb) (row_step r2 hb) (row_step r3 hb) (row_step r4 hb) n03 n13 n23 n43))))
theorem run_inner_ret (h : Int) (S : ByteArray) (x s0 : Int) (b0 b1 b2 b3 b4 : Nat) (w : World) (hS : S.size ≤ 40) (h0 : 0 ≤ h) (hx0 : -32768 ≤ x) (hx1 : x ≤ 32767) (r0 : w.heap[b0]? = some (.cells #[.int .u8 h] 5 (0, 0))) (r1 : w.heap[b1]? = some (.cells #[.string S] 9 (0, 0))) (r2 : w.heap[b2]? = some (.cells #[.int .i16 x] 49 (0, 0))) (r3 : w.heap[b3]? = some (.cells #[.int .i64 s0] 3 (0, 0))) (r4 : w.heap[b4]? = some (.cells #[.bool false] 4 (0, 0))) (n03 : b0 ≠ b3) (n13 : b1 ≠ b3) (n23 : b2 ≠ b3) (n43 : b4 ≠ b3) :
    Calls Tryd.prog 9 #[.func (.func 19) #[] #[.pointer (some ⟨b0, 0, none⟩), .pointer (some ⟨b1, 0, none⟩), .pointer (some ⟨b2, 0, none⟩), .pointer (some ⟨b3, 0, none⟩), .pointer (some ⟨b4, 0, none⟩)]] w fun e w' => ∃ p c, e = .returned (.tuple #[.agg #[.int .i64 1, .int .i64 x, .float .f64 0, .string ⟨#[]⟩, .slice p 0 c], .int .i64 0]) ∧ Kept [b3] w w' ∧ w'.cell? ⟨b3, 0, none⟩ = some (.int .i64 34) :=
  (run_ok _ _ [b3] (fun W => W.cell? ⟨b3, 0, none⟩ = some (.int .i64 34)) 1 x 0 ⟨#[]⟩ none 0 0 1 (1, x, 0, ⟨#[]⟩, []) w (sing_lt (row_lt r3)) (Lib.hid (stab34 (row_lt r3))) (Lib.hid (fun W _ => rep_int W x (by unfold okI; omega))) (show (6 : Nat) ≤ 1048576 by decide)
    (Lib.hid (fun W hb g0 g2 g3 => runc_ret_inner b0 b1 b2 b3 b4 _ _ _ _ _ _ _ _ _ [b3] (fun W => W.cell? ⟨b3, 0, none⟩ = some (.int .i64 34)) 1 x 0 ⟨#[]⟩ none 0 0 0 W (row_cell g0 0) g2 g3 (by have := row_lt r3; simp; omega) (by have := row_lt r3; simp; omega) (by omega)
      (Lib.hid (inner_says h S x s0 b0 b1 b2 b3 b4 W hS h0 hx0 hx1 (row_step r0 hb) (row_step r1 hb) (row_step r2 hb) (row_step r3 hb) (row_step r4 hb) n03 n13 n23 n43))))).mono fun e w' ⟨v', T', he, hk, hq, hr, ht⟩ => by
    obtain ⟨p, c, rfl⟩ := int_told hr ht
    exact ⟨p, c, he, hk, hq⟩
end Num
end Go.Proofs.YtgeicgfijnabkaaDoor
