/-
  Package register: Do, where the state is right, the arguments are taken.
-/
import Derived.Test.YteoimpagdgnkbaaRB
namespace Go.Proofs.Yteoimpagdgnkbaa
open Go.RowKit
namespace Num
open Ints
set_option linter.unusedSimpArgs false
set_option linter.unusedVariables false
/-- What Do tells: two values in new blocks, an error. -/
def DoP (w : World) (n : Nat) (T V : VT n) (z : Int) (e : Ending) (w' : World) : Prop := ∃ t v, e = .returned (.tuple #[t, v, .int .i64 z]) ∧ Below w.heap.size w w' ∧ RepS (fun b => w.heap.size ≤ b) w' n t T ∧ RepS (fun b => w.heap.size ≤ b) w' n v V
set_option maxRecDepth 100000 in
set_option maxHeartbeats 8000000 in
theorem do_run (n : Nat) (K I : Int) (F : Nat) (S : ByteArray) (q : Option Addr) (m d : Nat) (ms : ByteArray) (p : Option Addr) (l c : Nat) (w : World)
    (HR : Hid (∀ W, Below w.heap.size w W → Calls Try.prog 14 #[.agg #[.int .i64 K, .int .i64 I, .float .f64 F, .string S, .slice q m d]] W fun e w' => e = .returned (.bool true) ∧ Below W.heap.size W w'))
    (HA : Hid (∀ W, Below w.heap.size w W → Calls Try.prog 23 #[.string { data := #[114, 101, 103, 105, 115, 116, 101, 114] }, .string ms, .slice p l c] W fun e w' => e = .returned (.int .i64 0) ∧ Below W.heap.size W w'))
    (K2 I2 : Int) (F2 : Nat) (S2 : ByteArray) (q2 : Option Addr) (m2 d2 : Nat) (K3 I3 : Int) (F3 : Nat) (S3 : ByteArray) (q3 : Option Addr) (m3 d3 : Nat)
    (HU : Hid (∀ W, Below w.heap.size w W → Calls Try.prog 24 #[.agg #[.int .i64 K, .int .i64 I, .float .f64 F, .string S, .slice q m d], .string ms, .slice p l c] W fun e w' => e = .returned (.tuple #[.agg #[.int .i64 K2, .int .i64 I2, .float .f64 F2, .string S2, .slice q2 m2 d2], .agg #[.int .i64 K3, .int .i64 I3, .float .f64 F3, .string S3, .slice q3 m3 d3]]) ∧ Below W.heap.size W w'))
    (T V : VT n)
    (HT : Hid (∀ W, Below w.heap.size w W → Calls Try.prog 25 #[.agg #[.int .i64 K2, .int .i64 I2, .float .f64 F2, .string S2, .slice q2 m2 d2]] W fun e w' => ∃ v', e = .returned v' ∧ Below W.heap.size W w' ∧ RepS (fun b => W.heap.size ≤ b) w' n v' T))
    (HV : Hid (∀ W, Below w.heap.size w W → Calls Try.prog 25 #[.agg #[.int .i64 K3, .int .i64 I3, .float .f64 F3, .string S3, .slice q3 m3 d3]] W fun e w' => ∃ v', e = .returned v' ∧ Below W.heap.size W w' ∧ RepS (fun b => W.heap.size ≤ b) w' n v' V)) :
    Calls Try.prog 11 #[.agg #[.int .i64 K, .int .i64 I, .float .f64 F, .string S, .slice q m d], .string ms, .slice p l c] w fun e w' => DoP w n T V 0 e w' := by
  obtain ⟨oa, hoa⟩ : ∃ o, Obj.cells #[.int .i64 K, .int .i64 I, .float .f64 F, .string S, .slice q m d] 27 = o := ⟨_, rfl⟩
  obtain ⟨oz, hoz⟩ : ∃ o, Obj.cells #[.int .i64 0, .int .i64 0, .float .f64 0, .string ⟨#[]⟩, .slice none 0 0] 27 = o := ⟨_, rfl⟩
  have hB : Below w.heap.size w (((w.alloc oa).alloc oz).alloc oz) := bel_alloc (bel_alloc (bel_alloc (Below.refl w.heap.size w) oa) oz) oz
  have HB := Lib.hid hB
  have ra := row_alloc_step (row_alloc_step (row_alloc w #[.int .i64 K, .int .i64 I, .float .f64 F, .string S, .slice q m d] 27) oz) oz
  have r6 := row_alloc_step (row_alloc (w.alloc oa) #[.int .i64 0, .int .i64 0, .float .f64 0, .string ⟨#[]⟩, .slice none 0 0] 27) oz
  have r7 := row_alloc ((w.alloc oa).alloc oz) #[.int .i64 0, .int .i64 0, .float .f64 0, .string ⟨#[]⟩, .slice none 0 0] 27
  rw [hoa] at ra
  rw [hoz] at r6 r7
  simp only [World.size_alloc] at ra r6 r7
  have HRA := Lib.hid ra
  have HR6 := Lib.hid r6
  have HR7 := Lib.hid r7
  subst hoa hoz
  clear ra r6 r7 hB
  go_enter Try.func11, Try.ntmps11
  go_wp2_with fail
  go_at_call 14; refine (HR.out _ HB.out).mono ?_; rintro e w1 ⟨rfl, hb1⟩
  have HB1 := Lib.hid (bel_step HB.out hb1)
  have HRA1 := Lib.hid (row_step HRA.out hb1)
  have HR61 := Lib.hid (row_step HR6.out hb1)
  have HR71 := Lib.hid (row_step HR7.out hb1)
  clear hb1 HB HRA HR6 HR7 HR
  go_wp2_with fail
  go_at_call 23; refine (HA.out _ HB1.out).mono ?_; rintro e w2 ⟨rfl, hb2⟩
  have HB2 := Lib.hid (bel_step HB1.out hb2)
  have xa := row_step HRA1.out hb2
  have HR62 := Lib.hid (row_step HR61.out hb2)
  have HR72 := Lib.hid (row_step HR71.out hb2)
  have a0 := row_cell xa 0; have a1 := row_cell xa 1; have a2 := row_cell xa 2; have a3 := row_cell xa 3; have a4 := row_cell xa 4
  simp only [List.getElem?_toArray, List.getElem?_cons_zero, List.getElem?_cons_succ] at a0 a1 a2 a3 a4
  clear hb2 HB1 HRA1 HR61 HR71 HA xa
  go_wp2_with fail
  go_at_call 24; refine (HU.out _ HB2.out).mono ?_; rintro e w3 ⟨rfl, hb3⟩
  have hb3' := bel_step HB2.out hb3
  have HB3 := Lib.hid (Below.drew (bel_alloc (bel_alloc hb3' (.cells #[.int .i64 K2, .int .i64 I2, .float .f64 F2, .string S2, .slice q2 m2 d2] 27)) (.cells #[.int .i64 K3, .int .i64 I3, .float .f64 F3, .string S3, .slice q3 m3 d3] 27)))
  have y6 := row_step HR62.out hb3
  have y7 := row_step HR72.out hb3
  have HR63 := Lib.hid (show (((w3.alloc (.cells #[.int .i64 K2, .int .i64 I2, .float .f64 F2, .string S2, .slice q2 m2 d2] 27)).alloc (.cells #[.int .i64 K3, .int .i64 I3, .float .f64 F3, .string S3, .slice q3 m3 d3] 27)).drew).heap[w.heap.size + 1]? = _ from row_alloc_step (row_alloc_step y6 (.cells #[.int .i64 K2, .int .i64 I2, .float .f64 F2, .string S2, .slice q2 m2 d2] 27)) (.cells #[.int .i64 K3, .int .i64 I3, .float .f64 F3, .string S3, .slice q3 m3 d3] 27))
  have HR73 := Lib.hid (show (((w3.alloc (.cells #[.int .i64 K2, .int .i64 I2, .float .f64 F2, .string S2, .slice q2 m2 d2] 27)).alloc (.cells #[.int .i64 K3, .int .i64 I3, .float .f64 F3, .string S3, .slice q3 m3 d3] 27)).drew).heap[w.heap.size + 1 + 1]? = _ from row_alloc_step (row_alloc_step y7 (.cells #[.int .i64 K2, .int .i64 I2, .float .f64 F2, .string S2, .slice q2 m2 d2] 27)) (.cells #[.int .i64 K3, .int .i64 I3, .float .f64 F3, .string S3, .slice q3 m3 d3] 27))
  have y11 := row_alloc (w3.alloc (.cells #[.int .i64 K2, .int .i64 I2, .float .f64 F2, .string S2, .slice q2 m2 d2] 27)) #[.int .i64 K3, .int .i64 I3, .float .f64 F3, .string S3, .slice q3 m3 d3] 27
  rw [World.size_alloc] at y11
  have HR11 := Lib.hid (show (((w3.alloc (.cells #[.int .i64 K2, .int .i64 I2, .float .f64 F2, .string S2, .slice q2 m2 d2] 27)).alloc (.cells #[.int .i64 K3, .int .i64 I3, .float .f64 F3, .string S3, .slice q3 m3 d3] 27)).drew).heap[w3.heap.size + 1]? = _ from y11)
  have HZ := Lib.hid (show (((w3.alloc (.cells #[.int .i64 K2, .int .i64 I2, .float .f64 F2, .string S2, .slice q2 m2 d2] 27)).alloc (.cells #[.int .i64 K3, .int .i64 I3, .float .f64 F3, .string S3, .slice q3 m3 d3] 27)).drew).heap.size = w3.heap.size + 1 + 1 by show ((w3.alloc (.cells #[.int .i64 K2, .int .i64 I2, .float .f64 F2, .string S2, .slice q2 m2 d2] 27)).alloc (.cells #[.int .i64 K3, .int .i64 I3, .float .f64 F3, .string S3, .slice q3 m3 d3] 27)).heap.size = _; rw [World.size_alloc, World.size_alloc])
  have HZ3 := Lib.hid (show w.heap.size + 1 + 1 < w3.heap.size from row_lt y7)
  clear hb3 hb3' HB2 HR62 HR72 HU a0 a1 a2 a3 a4 y6 y7 y11
  go_wp2_with fail
  go_region_with (first
    | (go_at_call 25; refine (HT.out _ HB3.out).mono ?_; rintro e w4 ⟨v4, rfl, hb4, hr4⟩; obtain ⟨K4, I4, F4, S4, q4, m4, d4, rfl, _⟩ := repS_shape hr4; have HB4 := Lib.hid (bel_step HB3.out hb4); have HR64 := Lib.hid (row_step HR63.out hb4); have HR74 := Lib.hid (row_step HR73.out hb4); have z := row_step HR11.out hb4; have x0 := row_cell z 0; have x1 := row_cell z 1; have x2 := row_cell z 2; have x3 := row_cell z 3; have x4 := row_cell z 4; simp only [List.getElem?_toArray, List.getElem?_cons_zero, List.getElem?_cons_succ] at x0 x1 x2 x3 x4; have HC4 := Lib.hid (repS_lt _ _ _ (repS_mono (S' := fun b => w3.heap.size ≤ b) (fun b hb => by have hb' := hb; rw [HZ.out] at hb'; omega) _ _ _ hr4)); have HS4 := Lib.hid (show w3.heap.size ≤ w4.heap.size by have h1 := hb4.size; rw [HZ.out] at h1; omega); clear hb4 hr4 z)
    | (go_at_call 25; refine (HV.out _ HB4.out).mono ?_; rintro e w5 ⟨v5, rfl, hb5, hr5⟩; obtain ⟨K5, I5, F5, S5, q5, m5, d5, rfl, _⟩ := repS_shape hr5; have HB5 := Lib.hid (bel_step HB4.out hb5); have x6 := row_step HR64.out hb5; have x7 := row_step HR74.out hb5; have p0 := row_cell x6 0; have p1 := row_cell x6 1; have p2 := row_cell x6 2; have p3 := row_cell x6 3; have p4 := row_cell x6 4; have s0 := row_cell x7 0; have s1 := row_cell x7 1; have s2 := row_cell x7 2; have s3 := row_cell x7 3; have s4 := row_cell x7 4; simp only [List.getElem?_toArray, List.getElem?_cons_zero, List.getElem?_cons_succ] at p0 p1 p2 p3 p4 s0 s1 s2 s3 s4; have f6 := fun o => row_frz x6 o; have f7 := fun o => row_frz x7 o; have l7 := row_lt x7; have HC5 := Lib.hid (repS_mono (S' := fun b => w3.heap.size ≤ b) (fun b hb => hb.1) _ _ _ (repS_keep (fun b hb => hb5.block b hb.2) _ _ _ HC4.out)); have HD5 := Lib.hid (repS_mono (S' := fun b => w3.heap.size ≤ b) (fun b hb => by have h1 := HS4.out; omega) _ _ _ hr5); clear hb5 hr5 x6 x7))
  all_goals
    clear HR63 HR73 HR11 HZ HT HV HB3 HB4 HR64 HR74 HC4 HS4 x0 x1 x2 x3 x4
    go_wp2
    refine bodyPost_ret (v := .tuple #[.agg #[.int .i64 K4, .int .i64 I4, .float .f64 F4, .string S4, .slice q4 m4 d4], .agg #[.int .i64 K5, .int .i64 I5, .float .f64 F5, .string S5, .slice q5 m5 d5], .int .i64 0]) (by simp [results, Try.results11, go_sem, World.cell?_setCell_same, World.cell?_setCell_other, p0, p1, p2, p3, p4, s0, s1, s2, s3, s4]) rfl ⟨_, _, rfl, ?_, ?_, ?_⟩
    · exact set5_below (g := w.heap.size + 1 + 1) (o := 0) (set5_below (g := w.heap.size + 1) (o := 0) HB5.out (by omega) _ _ _ _ _) (by omega) _ _ _ _ _
    · exact repS_mono (S := fun b => w3.heap.size ≤ b) (fun b hb => by have h1 := HZ3.out; omega) n _ _ (repS_keep (w := w5) (fun b hb => by have h1 := HZ3.out; exact (set5_other (g := w.heap.size + 1 + 1) (o := 0) (by omega)).trans (set5_other (g := w.heap.size + 1) (o := 0) (by omega))) n _ _ HC5.out)
    · exact repS_mono (S := fun b => w3.heap.size ≤ b) (fun b hb => by have h1 := HZ3.out; omega) n _ _ (repS_keep (w := w5) (fun b hb => by have h1 := HZ3.out; exact (set5_other (g := w.heap.size + 1 + 1) (o := 0) (by omega)).trans (set5_other (g := w.heap.size + 1) (o := 0) (by omega))) n _ _ HD5.out)
end Num
end Go.Proofs.Yteoimpagdgnkbaa
