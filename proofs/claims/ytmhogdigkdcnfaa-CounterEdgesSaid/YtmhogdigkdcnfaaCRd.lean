/-
  Package counter: run, reset.
-/
import Derived.Test.YtmhogdigkdcnfaaCRc
namespace Go.Proofs.Ytmhogdigkdcnfaa
open Go.RowKit
namespace Num
open Ints
set_option linter.unusedSimpArgs false
set_option linter.unusedVariables false
/-- What a counter begins with, in a block of its own. -/
def BegP (w : World) (v : Value) (w' : World) : Prop := ∃ g, v = .agg #[.int .i64 4, .int .i64 0, .float .f64 0, .string ⟨#[]⟩, .slice (some ⟨g, 0, none⟩) 2 2] ∧ w.heap.size ≤ g ∧ w'.heap[g]? = some (.cells #[.int .i64 1, .int .i64 0, .float .f64 0, .string ⟨#[]⟩, .slice none 0 0, .int .i64 2, .int .i64 0, .float .f64 0, .string ⟨#[]⟩, .slice none 0 0] 27 (0, 0))
set_option maxRecDepth 100000 in
set_option maxHeartbeats 4000000 in
theorem cstart_any (w : World) : Calls Try.prog 48 #[.string { data := #[99, 111, 117, 110, 116, 101, 114] }] w fun e w' => ∃ v, e = .returned (.tuple #[v, .bool true]) ∧ Below w.heap.size w w' ∧ BegP w v w' := by
  go_enter Try.func48, Try.ntmps48
  go_wp2
  have hr := row_alloc (w.alloc (.cells #[.int .i64 4, .int .i64 0, .float .f64 0, .string ⟨#[]⟩, .slice (some ⟨w.heap.size + 1, 0, none⟩) 2 2] 27)) #[.int .i64 1, .int .i64 0, .float .f64 0, .string ⟨#[]⟩, .slice none 0 0, .int .i64 2, .int .i64 0, .float .f64 0, .string ⟨#[]⟩, .slice none 0 0] 27
  rw [World.size_alloc] at hr
  refine bodyPost_ret (v := .tuple #[.agg #[.int .i64 4, .int .i64 0, .float .f64 0, .string ⟨#[]⟩, .slice (some ⟨w.heap.size + 1, 0, none⟩) 2 2], .bool true]) (by simp [results, Try.results48, go_sem, World.cell?_setCell_same, World.cell?_setCell_other]) rfl ⟨_, rfl, bel_alloc (bel_alloc (Below.refl _ _) _) _, _, rfl, by omega, hr⟩
set_option maxRecDepth 100000 in
set_option maxHeartbeats 4000000 in
theorem crun_reset (I : Int) (F : Nat) (S : ByteArray) (b off d : Nat) (K2 I2 : Int) (F2 : Nat) (S2 : ByteArray) (q2 : Option Addr) (m2 d2 : Nat) (K3 I3 : Int) (F3 : Nat) (S3 : ByteArray) (q3 : Option Addr) (m3 d3 : Nat) (p : Option Addr) (l c : Nat) (w : World) (c0 : w.cell? ⟨b, off, none⟩ = some (.int .i64 K2)) (c1 : w.cell? ⟨b, off + 1, none⟩ = some (.int .i64 I2)) (c2 : w.cell? ⟨b, off + 2, none⟩ = some (.float .f64 F2)) (c3 : w.cell? ⟨b, off + 3, none⟩ = some (.string S2)) (c4 : w.cell? ⟨b, off + 4, none⟩ = some (.slice q2 m2 d2))
    (e0 : w.cell? ⟨b, off + 5, none⟩ = some (.int .i64 K3)) (e1 : w.cell? ⟨b, off + 5 + 1, none⟩ = some (.int .i64 I3)) (e2 : w.cell? ⟨b, off + 5 + 2, none⟩ = some (.float .f64 F3)) (e3 : w.cell? ⟨b, off + 5 + 3, none⟩ = some (.string S3)) (e4 : w.cell? ⟨b, off + 5 + 4, none⟩ = some (.slice q3 m3 d3)) :
    Calls Try.prog 23 #[.agg #[.int .i64 4, .int .i64 I, .float .f64 F, .string S, .slice (some ⟨b, off, none⟩) 2 d], .string { data := #[114, 101, 115, 101, 116] }, .slice p l c] w fun e w' => ∃ v, e = .returned (.tuple #[v, .agg #[.int .i64 K3, .int .i64 I3, .float .f64 F3, .string S3, .slice q3 m3 d3], .int .i64 0]) ∧ Below w.heap.size w w' ∧ BegP w v w' := by
  have hlt : b < w.heap.size := cell_lt c0
  obtain ⟨oa, hoa⟩ : ∃ o, Obj.cells #[.int .i64 4, .int .i64 I, .float .f64 F, .string S, .slice (some ⟨b, off, none⟩) 2 d] 27 = o := ⟨_, rfl⟩
  obtain ⟨oz, hoz⟩ : ∃ o, Obj.cells #[.int .i64 0, .int .i64 0, .float .f64 0, .string ⟨#[]⟩, .slice none 0 0] 27 = o := ⟨_, rfl⟩
  have hB : Below w.heap.size w (((w.alloc oa).alloc oz).alloc oz) := bel_alloc (bel_alloc (bel_alloc (Below.refl w.heap.size w) oa) oz) oz
  have HB := Lib.hid hB
  have ra := row_alloc_step (row_alloc_step (row_alloc w #[.int .i64 4, .int .i64 I, .float .f64 F, .string S, .slice (some ⟨b, off, none⟩) 2 d] 27) oz) oz
  rw [hoa] at ra
  have r6 := row_alloc_step (row_alloc (w.alloc oa) #[.int .i64 0, .int .i64 0, .float .f64 0, .string ⟨#[]⟩, .slice none 0 0] 27) oz
  have r7 := row_alloc ((w.alloc oa).alloc oz) #[.int .i64 0, .int .i64 0, .float .f64 0, .string ⟨#[]⟩, .slice none 0 0] 27
  rw [hoz] at r6 r7
  simp only [World.size_alloc] at ra r6 r7
  have HRA := Lib.hid ra
  have HR6 := Lib.hid r6
  have HR7 := Lib.hid r7
  subst hoa hoz
  clear ra r6 r7 hB
  have g0 := cell_keep HB.out e0; have g1 := cell_keep HB.out e1; have g2 := cell_keep HB.out e2; have g3 := cell_keep HB.out e3; have g4 := cell_keep HB.out e4
  have HG := Lib.hid (And.intro g0 (And.intro g1 (And.intro g2 (And.intro g3 g4))))
  clear c0 c1 c2 c3 c4 e0 e1 e2 e3 e4 g0 g1 g2 g3 g4
  go_enter Try.func23, Try.ntmps23
  go_wp2_with fail
  go_at_call 48; refine (cstart_any _).mono ?_; rintro e w1 ⟨v, rfl, hb1, g, rfl, hg, hrow⟩
  have HB1 := Lib.hid (bel_step HB.out hb1)
  obtain ⟨g0, g1, g2, g3, g4⟩ := HG.out
  have e0 := cell_keep hb1 g0; have e1 := cell_keep hb1 g1; have e2 := cell_keep hb1 g2; have e3 := cell_keep hb1 g3; have e4 := cell_keep hb1 g4
  have xa := row_step HRA.out hb1
  have x6 := row_step HR6.out hb1
  have x7 := row_step HR7.out hb1
  have a0 := row_cell xa 0; have a1 := row_cell xa 1; have a2 := row_cell xa 2; have a3 := row_cell xa 3; have a4 := row_cell xa 4
  have p0 := row_cell x6 0; have p1 := row_cell x6 1; have p2 := row_cell x6 2; have p3 := row_cell x6 3; have p4 := row_cell x6 4
  have s0 := row_cell x7 0; have s1 := row_cell x7 1; have s2 := row_cell x7 2; have s3 := row_cell x7 3; have s4 := row_cell x7 4
  simp only [List.getElem?_toArray, List.getElem?_cons_zero, List.getElem?_cons_succ] at a0 a1 a2 a3 a4 p0 p1 p2 p3 p4 s0 s1 s2 s3 s4
  have f6 := fun o => row_frz x6 o
  have f7 := fun o => row_frz x7 o
  have l7 := row_lt x7
  have la : w.heap.size < w1.heap.size := by omega
  have l6 : w.heap.size + 1 < w1.heap.size := by omega
  have na : w1.heap.size ≠ w.heap.size := by omega
  have n6 : w1.heap.size ≠ w.heap.size + 1 := by omega
  have n7 : w1.heap.size ≠ w.heap.size + 1 + 1 := by omega
  have lb : b < w1.heap.size := by omega
  have nb : w1.heap.size ≠ b := by omega
  have HG1 := Lib.hid (And.intro hg (And.intro (row_lt hrow) hrow))
  clear hb1 xa x6 x7 HB HRA HR6 HR7 HG g0 g1 g2 g3 g4 hrow hg
  go_wp2
  go_region
  go_wp2
  have j6 : ¬ w.heap.size = w1.heap.size := by omega
  have j7 : ¬ w.heap.size + 1 = w1.heap.size := by omega
  have j8 : ¬ w.heap.size + 1 + 1 = w1.heap.size := by omega
  refine bodyPost_ret (v := .tuple #[.agg #[.int .i64 4, .int .i64 0, .float .f64 0, .string ⟨#[]⟩, .slice (some ⟨g, 0, none⟩) 2 2], .agg #[.int .i64 K3, .int .i64 I3, .float .f64 F3, .string S3, .slice q3 m3 d3], .int .i64 0]) ?_ ?_ ?_
  · simp [results, Try.results23, go_sem, World.cell?_setCell_same, World.cell?_setCell_other, World.cell?_alloc_old, j6, j7, j8, p0, p1, p2, p3, p4, s0, s1, s2, s3, s4]
  · rfl
  refine ⟨_, rfl, ?_, ?_⟩
  · exact Below.drew (bel_alloc (set5_below (g := w.heap.size + 1 + 1) (o := 0) (set5_below (g := w.heap.size + 1) (o := 0) HB1.out (by omega) _ _ _ _ _) (by omega) _ _ _ _ _) _)
  · obtain ⟨h, hgl, hrow⟩ := HG1.out
    simp only [World.size_alloc] at h
    refine ⟨g, rfl, by omega, ?_⟩
    have h5 : (set5 (set5 w1 (w.heap.size + 1) 0 (.int .i64 4) (.int .i64 0) (.float .f64 0) (.string ⟨#[]⟩) (.slice (some ⟨g, 0, none⟩) 2 2)) (w.heap.size + 1 + 1) 0 (.int .i64 K3) (.int .i64 I3) (.float .f64 F3) (.string S3) (.slice q3 m3 d3)).heap[g]? = some (.cells #[.int .i64 1, .int .i64 0, .float .f64 0, .string ⟨#[]⟩, .slice none 0 0, .int .i64 2, .int .i64 0, .float .f64 0, .string ⟨#[]⟩, .slice none 0 0] 27 (0, 0)) := by
      rw [set5_other (by omega), set5_other (by omega)]
      exact hrow
    exact row_alloc_step h5 (.cells #[.int .i64 4, .int .i64 0, .float .f64 0, .string ⟨#[]⟩, .slice (some ⟨g, 0, none⟩) 2 2] 27)
end Num
end Go.Proofs.Ytmhogdigkdcnfaa
