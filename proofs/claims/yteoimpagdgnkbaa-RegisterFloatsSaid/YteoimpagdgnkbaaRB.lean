/-
  Package register: run.
-/
import Derived.Test.YteoimpagdgnkbaaRA
namespace Go.Proofs.Yteoimpagdgnkbaa
open Go.RowKit
namespace Num
open Ints
set_option linter.unusedSimpArgs false
set_option linter.unusedVariables false
set_option maxRecDepth 100000 in
set_option maxHeartbeats 4000000 in
theorem run_get (K I : Int) (F : Nat) (S : ByteArray) (q : Option Addr) (m d : Nat) (p : Option Addr) (l c : Nat) (w : World) :
    Calls Try.prog 24 #[.agg #[.int .i64 K, .int .i64 I, .float .f64 F, .string S, .slice q m d], .string { data := #[103, 101, 116] }, .slice p l c] w fun e w' => e = .returned (.tuple #[.agg #[.int .i64 K, .int .i64 I, .float .f64 F, .string S, .slice q m d], .agg #[.int .i64 K, .int .i64 I, .float .f64 F, .string S, .slice q m d]]) ∧ Below w.heap.size w w' := by
  have HB := Lib.hid (bel_alloc (bel_alloc (bel_alloc (Below.refl w.heap.size w) (.cells #[.int .i64 K, .int .i64 I, .float .f64 F, .string S, .slice q m d] 27)) (.cells #[.int .i64 K, .int .i64 I, .float .f64 F, .string S, .slice q m d] 27)) (.cells #[.int .i64 K, .int .i64 I, .float .f64 F, .string S, .slice q m d] 27))
  go_enter Try.func24, Try.ntmps24
  go_wp2
  go_region
  go_wp2
  exact bodyPost_ret (v := .tuple #[.agg #[.int .i64 K, .int .i64 I, .float .f64 F, .string S, .slice q m d], .agg #[.int .i64 K, .int .i64 I, .float .f64 F, .string S, .slice q m d]]) (by simp [results, Try.results24, go_sem, World.cell?_setCell_same, World.cell?_setCell_other]) rfl ⟨rfl, Below.drew HB.out⟩
set_option maxRecDepth 100000 in
set_option maxHeartbeats 4000000 in
theorem run_set (K I : Int) (F : Nat) (S : ByteArray) (q : Option Addr) (m d : Nat) (b off c : Nat) (K2 I2 : Int) (F2 : Nat) (S2 : ByteArray) (q2 : Option Addr) (m2 d2 : Nat) (w : World) (c0 : w.cell? ⟨b, off, none⟩ = some (.int .i64 K2)) (c1 : w.cell? ⟨b, off + 1, none⟩ = some (.int .i64 I2)) (c2 : w.cell? ⟨b, off + 2, none⟩ = some (.float .f64 F2)) (c3 : w.cell? ⟨b, off + 3, none⟩ = some (.string S2)) (c4 : w.cell? ⟨b, off + 4, none⟩ = some (.slice q2 m2 d2)) :
    Calls Try.prog 24 #[.agg #[.int .i64 K, .int .i64 I, .float .f64 F, .string S, .slice q m d], .string { data := #[115, 101, 116] }, .slice (some ⟨b, off, none⟩) 1 c] w fun e w' => e = .returned (.tuple #[.agg #[.int .i64 K2, .int .i64 I2, .float .f64 F2, .string S2, .slice q2 m2 d2], .agg #[.int .i64 K, .int .i64 I, .float .f64 F, .string S, .slice q m d]]) ∧ Below w.heap.size w w' := by
  have hlt : b < w.heap.size := cell_lt c0
  have hne : w.heap.size ≠ b := by omega
  have hne1 : w.heap.size + 1 ≠ b := by omega
  have hne2 : w.heap.size + 1 + 1 ≠ b := by omega
  have hb0 : b ≠ w.heap.size := by omega
  have hb1 : b ≠ w.heap.size + 1 := by omega
  have hb2 : b ≠ w.heap.size + 1 + 1 := by omega
  have hl1 : b < w.heap.size + 1 := by omega
  have hl2 : b < w.heap.size + 1 + 1 := by omega
  go_enter Try.func24, Try.ntmps24
  go_wp2
  have HB := Lib.hid (bel_alloc (bel_alloc (bel_alloc (Below.refl w.heap.size w) (.cells #[.int .i64 K, .int .i64 I, .float .f64 F, .string S, .slice q m d] 27)) (.cells #[.int .i64 K2, .int .i64 I2, .float .f64 F2, .string S2, .slice q2 m2 d2] 27)) (.cells #[.int .i64 K, .int .i64 I, .float .f64 F, .string S, .slice q m d] 27))
  go_region
  go_wp2
  exact bodyPost_ret (v := .tuple #[.agg #[.int .i64 K2, .int .i64 I2, .float .f64 F2, .string S2, .slice q2 m2 d2], .agg #[.int .i64 K, .int .i64 I, .float .f64 F, .string S, .slice q m d]]) (by simp [results, Try.results24, go_sem, World.cell?_setCell_same, World.cell?_setCell_other]) rfl ⟨rfl, Below.drew HB.out⟩
set_option maxRecDepth 100000 in
set_option maxHeartbeats 4000000 in
theorem run_cas (n : Nat) (K I : Int) (F : Nat) (S : ByteArray) (q : Option Addr) (m d : Nat) (b off c : Nat) (K2 I2 : Int) (F2 : Nat) (S2 : ByteArray) (q2 : Option Addr) (m2 d2 : Nat) (K3 I3 : Int) (F3 : Nat) (S3 : ByteArray) (q3 : Option Addr) (m3 d3 : Nat) (w : World)
    (c0 : w.cell? ⟨b, off, none⟩ = some (.int .i64 K2)) (c1 : w.cell? ⟨b, off + 1, none⟩ = some (.int .i64 I2)) (c2 : w.cell? ⟨b, off + 2, none⟩ = some (.float .f64 F2)) (c3 : w.cell? ⟨b, off + 3, none⟩ = some (.string S2)) (c4 : w.cell? ⟨b, off + 4, none⟩ = some (.slice q2 m2 d2))
    (e0 : w.cell? ⟨b, off + 5, none⟩ = some (.int .i64 K3)) (e1 : w.cell? ⟨b, off + 5 + 1, none⟩ = some (.int .i64 I3)) (e2 : w.cell? ⟨b, off + 5 + 2, none⟩ = some (.float .f64 F3)) (e3 : w.cell? ⟨b, off + 5 + 3, none⟩ = some (.string S3)) (e4 : w.cell? ⟨b, off + 5 + 4, none⟩ = some (.slice q3 m3 d3))
    (A B C : VT n) (hra : Rep w n (.agg #[.int .i64 K, .int .i64 I, .float .f64 F, .string S, .slice q m d]) A) (hrb : Rep w n (.agg #[.int .i64 K2, .int .i64 I2, .float .f64 F2, .string S2, .slice q2 m2 d2]) B) (hrc : Rep w n (.agg #[.int .i64 K3, .int .i64 I3, .float .f64 F3, .string S3, .slice q3 m3 d3]) C) (hd : deepT n A 64 = false) (hp : partsT n A ≤ 1000) (y : Bool) (hy : (cmpT cmpF n A B == 0) = y) :
    Calls Try.prog 24 #[.agg #[.int .i64 K, .int .i64 I, .float .f64 F, .string S, .slice q m d], .string { data := #[99, 97, 115] }, .slice (some ⟨b, off, none⟩) 2 c] w fun e w' => e = .returned (.tuple #[if y = true then .agg #[.int .i64 K3, .int .i64 I3, .float .f64 F3, .string S3, .slice q3 m3 d3] else .agg #[.int .i64 K, .int .i64 I, .float .f64 F, .string S, .slice q m d], .agg #[.int .i64 1, .int .i64 (if y = true then 1 else 0), .float .f64 0, .string ⟨#[]⟩, .slice none 0 0]]) ∧ Below w.heap.size w w' := by
  have hlt : b < w.heap.size := cell_lt c0
  have hne : w.heap.size ≠ b := by omega
  have hne1 : w.heap.size + 1 ≠ b := by omega
  have hne2 : w.heap.size + 1 + 1 ≠ b := by omega
  have hb0 : b ≠ w.heap.size := by omega
  have hb1 : b ≠ w.heap.size + 1 := by omega
  have hb2 : b ≠ w.heap.size + 1 + 1 := by omega
  have hl1 : b < w.heap.size + 1 := by omega
  have hl2 : b < w.heap.size + 1 + 1 := by omega
  obtain ⟨oa, hoa⟩ : ∃ o, Obj.cells #[.int .i64 K, .int .i64 I, .float .f64 F, .string S, .slice q m d] 27 = o := ⟨_, rfl⟩
  obtain ⟨oz, hoz⟩ : ∃ o, Obj.cells #[.int .i64 0, .int .i64 0, .float .f64 0, .string ⟨#[]⟩, .slice none 0 0] 27 = o := ⟨_, rfl⟩
  have hB : Below w.heap.size w (((w.alloc oa).alloc oz).alloc oz).drew := Below.drew (bel_alloc (bel_alloc (bel_alloc (Below.refl w.heap.size w) oa) oz) oz)
  have HB := Lib.hid hB
  have r6 := row_alloc_step (row_alloc (w.alloc oa) #[.int .i64 0, .int .i64 0, .float .f64 0, .string ⟨#[]⟩, .slice none 0 0] 27) oz
  have r7 := row_alloc ((w.alloc oa).alloc oz) #[.int .i64 0, .int .i64 0, .float .f64 0, .string ⟨#[]⟩, .slice none 0 0] 27
  rw [hoz] at r6 r7
  simp only [World.size_alloc] at r6 r7
  have HR6 := Lib.hid (show (((w.alloc oa).alloc oz).alloc oz).drew.heap[w.heap.size + 1]? = _ from r6)
  have HR7 := Lib.hid (show (((w.alloc oa).alloc oz).alloc oz).drew.heap[w.heap.size + 1 + 1]? = _ from r7)
  have HSW := Lib.hid (swap_any n _ _ _ A B C _ (rep_keep hB _ _ _ hra) (rep_keep hB _ _ _ hrb) (rep_keep hB _ _ _ hrc) hd hp y hy)
  subst hoa hoz
  clear hra hrb hrc hd hp hy r6 r7 hB
  cases y
  · rw [if_neg Bool.false_ne_true, if_neg Bool.false_ne_true] at HSW
    go_enter Try.func24, Try.ntmps24
    go_wp2
    go_region_with (go_at_call 49; refine HSW.out.mono ?_; rintro e w1 ⟨rfl, hb1⟩; have HB1 := Lib.hid (bel_step HB.out hb1); have x6 := row_step HR6.out hb1; have x7 := row_step HR7.out hb1; have p0 := row_cell x6 0; have p1 := row_cell x6 1; have p2 := row_cell x6 2; have p3 := row_cell x6 3; have p4 := row_cell x6 4; have s0 := row_cell x7 0; have s1 := row_cell x7 1; have s2 := row_cell x7 2; have s3 := row_cell x7 3; have s4 := row_cell x7 4; simp only [List.getElem?_toArray, List.getElem?_cons_zero, List.getElem?_cons_succ] at p0 p1 p2 p3 p4 s0 s1 s2 s3 s4; have f6 := fun o => row_frz x6 o; have f7 := fun o => row_frz x7 o; have l7 := row_lt x7; clear hb1 x6 x7)
    all_goals
      clear c0 c1 c2 c3 c4 e0 e1 e2 e3 e4 HSW HR6 HR7 HB
      go_wp2
      refine bodyPost_ret (v := .tuple #[.agg #[.int .i64 K, .int .i64 I, .float .f64 F, .string S, .slice q m d], .agg #[.int .i64 1, .int .i64 0, .float .f64 0, .string ⟨#[]⟩, .slice none 0 0]]) (by simp [results, Try.results24, go_sem, World.cell?_setCell_same, World.cell?_setCell_other, p0, p1, p2, p3, p4, s0, s1, s2, s3, s4]) rfl ⟨rfl, ?_⟩
      first
        | exact set5_below (g := w.heap.size + 1 + 1) (o := 0) (set5_below (g := w.heap.size + 1) (o := 0) HB1.out (by omega) _ _ _ _ _) (by omega) _ _ _ _ _
        | exact set5_below (g := w.heap.size + 1) (o := 0) (set5_below (g := w.heap.size + 1 + 1) (o := 0) HB1.out (by omega) _ _ _ _ _) (by omega) _ _ _ _ _
  · rw [if_pos rfl, if_pos rfl] at HSW
    go_enter Try.func24, Try.ntmps24
    go_wp2
    go_region_with (go_at_call 49; refine HSW.out.mono ?_; rintro e w1 ⟨rfl, hb1⟩; have HB1 := Lib.hid (bel_step HB.out hb1); have x6 := row_step HR6.out hb1; have x7 := row_step HR7.out hb1; have p0 := row_cell x6 0; have p1 := row_cell x6 1; have p2 := row_cell x6 2; have p3 := row_cell x6 3; have p4 := row_cell x6 4; have s0 := row_cell x7 0; have s1 := row_cell x7 1; have s2 := row_cell x7 2; have s3 := row_cell x7 3; have s4 := row_cell x7 4; simp only [List.getElem?_toArray, List.getElem?_cons_zero, List.getElem?_cons_succ] at p0 p1 p2 p3 p4 s0 s1 s2 s3 s4; have f6 := fun o => row_frz x6 o; have f7 := fun o => row_frz x7 o; have l7 := row_lt x7; clear hb1 x6 x7)
    all_goals
      clear c0 c1 c2 c3 c4 e0 e1 e2 e3 e4 HSW HR6 HR7 HB
      go_wp2
      refine bodyPost_ret (v := .tuple #[.agg #[.int .i64 K3, .int .i64 I3, .float .f64 F3, .string S3, .slice q3 m3 d3], .agg #[.int .i64 1, .int .i64 1, .float .f64 0, .string ⟨#[]⟩, .slice none 0 0]]) (by simp [results, Try.results24, go_sem, World.cell?_setCell_same, World.cell?_setCell_other, p0, p1, p2, p3, p4, s0, s1, s2, s3, s4]) rfl ⟨rfl, ?_⟩
      first
        | exact set5_below (g := w.heap.size + 1 + 1) (o := 0) (set5_below (g := w.heap.size + 1) (o := 0) HB1.out (by omega) _ _ _ _ _) (by omega) _ _ _ _ _
        | exact set5_below (g := w.heap.size + 1) (o := 0) (set5_below (g := w.heap.size + 1 + 1) (o := 0) HB1.out (by omega) _ _ _ _ _) (by omega) _ _ _ _ _
end Num
end Go.Proofs.Yteoimpagdgnkbaa
