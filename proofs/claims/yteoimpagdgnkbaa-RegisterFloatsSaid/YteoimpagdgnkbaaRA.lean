/-
  Package register: Right, swap.
-/
import Derived.Test.YteoimpagdgnkbaaHI
import Derived.Test.YteoimpagdgnkbaaKV
import Derived.Test.YteoimpagdgnkbaaVEq
import Derived.Deep.RegionWith
import Derived.RegionTactic
namespace Go.Proofs.Yteoimpagdgnkbaa
open Go.RowKit
namespace Num
open Ints
set_option linter.unusedSimpArgs false
set_option linter.unusedVariables false
set_option maxHeartbeats 2000000 in
/-- Is a state right? -/
theorem right_any (n : Nat) (v : Value) (T : VT n) (w : World) (hr : Rep w n v T) (hd : deepT n T 64 = false) (hp : partsT n T ≤ 1000) : Calls Try.prog 14 #[v] w fun e w' => e = .returned (.bool (checkM (measT n T) == 0)) ∧ Below w.heap.size w w' := by
  obtain ⟨K, I, F, S, q, m, d, rfl, _⟩ := rep_shape hr
  have HB := Lib.hid (bel_alloc (Below.refl w.heap.size w) (.cells #[.int .i64 K, .int .i64 I, .float .f64 F, .string S, .slice q m d] 27))
  have HC := Lib.hid (check_any n K I F S q m d T _ (rep_keep HB.out _ _ _ hr) hd hp)
  clear hr hd hp
  rcases checkM_vals (measT n T) with hc | hc | hc
  all_goals
    rw [hc] at HC ⊢
    clear hc
    go_enter Try.func14, Try.ntmps14
    go_wp2_with fail
    go_at_call 36; refine HC.out.mono ?_; rintro e w1 ⟨rfl, hb1⟩
    have HB1 := Lib.hid (bel_step HB.out hb1)
    clear hb1 HB HC
    go_wp2
    go_ret
    exact ⟨rfl, HB1.out⟩
set_option maxRecDepth 100000 in
set_option maxHeartbeats 4000000 in
/-- Another value in the state's place, if the state is the one that is awaited. -/
theorem swap_any (n : Nat) (a b c : Value) (A B C : VT n) (w : World) (hra : Rep w n a A) (hrb : Rep w n b B) (hrc : Rep w n c C) (hd : deepT n A 64 = false) (hp : partsT n A ≤ 1000) (y : Bool) (hy : (cmpT cmpF n A B == 0) = y) :
    Calls Try.prog 49 #[a, b, c] w fun e w' => e = .returned (.tuple #[if y = true then c else a, .agg #[.int .i64 1, .int .i64 (if y = true then 1 else 0), .float .f64 0, .string ⟨#[]⟩, .slice none 0 0]]) ∧ Below w.heap.size w w' := by
  obtain ⟨K1, I1, F1, S1, q1, m1, d1, rfl, _⟩ := rep_shape hra
  obtain ⟨K2, I2, F2, S2, q2, m2, d2, rfl, _⟩ := rep_shape hrb
  obtain ⟨K3, I3, F3, S3, q3, m3, d3, rfl, _⟩ := rep_shape hrc
  obtain ⟨oa, hoa⟩ : ∃ o, Obj.cells #[.int .i64 K1, .int .i64 I1, .float .f64 F1, .string S1, .slice q1 m1 d1] 27 = o := ⟨_, rfl⟩
  obtain ⟨ob, hob⟩ : ∃ o, Obj.cells #[.int .i64 K2, .int .i64 I2, .float .f64 F2, .string S2, .slice q2 m2 d2] 27 = o := ⟨_, rfl⟩
  obtain ⟨oc, hoc⟩ : ∃ o, Obj.cells #[.int .i64 K3, .int .i64 I3, .float .f64 F3, .string S3, .slice q3 m3 d3] 27 = o := ⟨_, rfl⟩
  obtain ⟨oz, hoz⟩ : ∃ o, Obj.cells #[.int .i64 0, .int .i64 0, .float .f64 0, .string ⟨#[]⟩, .slice none 0 0] 27 = o := ⟨_, rfl⟩
  have HB := Lib.hid (bel_alloc (bel_alloc (bel_alloc (bel_alloc (bel_alloc (Below.refl w.heap.size w) oa) ob) oc) oz) oz)
  have ra := row_alloc_step (row_alloc_step (row_alloc_step (row_alloc_step (row_alloc w #[.int .i64 K1, .int .i64 I1, .float .f64 F1, .string S1, .slice q1 m1 d1] 27) ob) oc) oz) oz
  have rc := row_alloc_step (row_alloc_step (row_alloc ((w.alloc oa).alloc ob) #[.int .i64 K3, .int .i64 I3, .float .f64 F3, .string S3, .slice q3 m3 d3] 27) oz) oz
  have r6 := row_alloc_step (row_alloc (((w.alloc oa).alloc ob).alloc oc) #[.int .i64 0, .int .i64 0, .float .f64 0, .string ⟨#[]⟩, .slice none 0 0] 27) oz
  have r7 := row_alloc ((((w.alloc oa).alloc ob).alloc oc).alloc oz) #[.int .i64 0, .int .i64 0, .float .f64 0, .string ⟨#[]⟩, .slice none 0 0] 27
  rw [hoa] at ra
  rw [hoc] at rc
  rw [hoz] at r6 r7
  simp only [World.size_alloc] at ra rc r6 r7
  have HRA := Lib.hid ra
  have HRC := Lib.hid rc
  have HR6 := Lib.hid r6
  have HR7 := Lib.hid r7
  have HE := Lib.hid (equal_any n _ _ A B _ (rep_keep HB.out _ _ _ hra) (rep_keep HB.out _ _ _ hrb) hd hp)
  rw [hy] at HE
  subst hoa hob hoc hoz
  clear hra hrb hrc hd hp hy ra rc r6 r7
  go_enter Try.func49, Try.ntmps49
  go_wp2_with fail
  go_at_call 75; refine HE.out.mono ?_; rintro e w1 ⟨rfl, hb1⟩
  have HB1 := Lib.hid (bel_step HB.out hb1)
  have xa := row_step HRA.out hb1
  have xc := row_step HRC.out hb1
  have x6 := row_step HR6.out hb1
  have x7 := row_step HR7.out hb1
  have a0 := row_cell xa 0; have a1 := row_cell xa 1; have a2 := row_cell xa 2; have a3 := row_cell xa 3; have a4 := row_cell xa 4
  have c0 := row_cell xc 0; have c1 := row_cell xc 1; have c2 := row_cell xc 2; have c3 := row_cell xc 3; have c4 := row_cell xc 4
  have p0 := row_cell x6 0; have p1 := row_cell x6 1; have p2 := row_cell x6 2; have p3 := row_cell x6 3; have p4 := row_cell x6 4
  have s0 := row_cell x7 0; have s1 := row_cell x7 1; have s2 := row_cell x7 2; have s3 := row_cell x7 3; have s4 := row_cell x7 4
  simp only [List.getElem?_toArray, List.getElem?_cons_zero, List.getElem?_cons_succ] at a0 a1 a2 a3 a4 c0 c1 c2 c3 c4 p0 p1 p2 p3 p4 s0 s1 s2 s3 s4
  have f6 := fun o => row_frz x6 o
  have f7 := fun o => row_frz x7 o
  have l7 := row_lt x7
  clear hb1 xa xc x6 x7 HB HRA HRC HR6 HR7 HE
  cases y
  · go_wp2
    refine bodyPost_ret (v := .tuple #[.agg #[.int .i64 K1, .int .i64 I1, .float .f64 F1, .string S1, .slice q1 m1 d1], .agg #[.int .i64 1, .int .i64 0, .float .f64 0, .string ⟨#[]⟩, .slice none 0 0]]) (by simp [results, Try.results49, go_sem, World.cell?_setCell_same, World.cell?_setCell_other, p0, p1, p2, p3, p4, s0, s1, s2, s3, s4]) rfl ⟨rfl, ?_⟩
    exact set5_below (g := w.heap.size + 1 + 1 + 1 + 1) (o := 0) (set5_below (g := w.heap.size + 1 + 1 + 1) (o := 0) HB1.out (by omega) _ _ _ _ _) (by omega) _ _ _ _ _
  · go_wp2
    refine bodyPost_ret (v := .tuple #[.agg #[.int .i64 K3, .int .i64 I3, .float .f64 F3, .string S3, .slice q3 m3 d3], .agg #[.int .i64 1, .int .i64 1, .float .f64 0, .string ⟨#[]⟩, .slice none 0 0]]) (by simp [results, Try.results49, go_sem, World.cell?_setCell_same, World.cell?_setCell_other, p0, p1, p2, p3, p4, s0, s1, s2, s3, s4]) rfl ⟨rfl, ?_⟩
    exact set5_below (g := w.heap.size + 1 + 1 + 1 + 1) (o := 0) (set5_below (g := w.heap.size + 1 + 1 + 1) (o := 0) HB1.out (by omega) _ _ _ _ _) (by omega) _ _ _ _ _
end Num
end Go.Proofs.Yteoimpagdgnkbaa
