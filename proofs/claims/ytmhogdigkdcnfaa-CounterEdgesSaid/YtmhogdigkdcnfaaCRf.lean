/-
  Package counter: Do.
-/
import Derived.Test.YtmhogdigkdcnfaaCRe
namespace Go.Proofs.Ytmhogdigkdcnfaa
open Go.RowKit
namespace Num
open Ints
set_option linter.unusedSimpArgs false
set_option linter.unusedVariables false
/-- What a call within Do tells; its answers lie in blocks from B on. -/
def RunP (B : Nat) (w : World) (n : Nat) (T V : VT n) (z : Int) (e : Ending) (w' : World) : Prop := ∃ t v, e = .returned (.tuple #[t, v, .int .i64 z]) ∧ Below w.heap.size w w' ∧ RepS (fun b => B ≤ b) w' n t T ∧ RepS (fun b => B ≤ b) w' n v V
set_option maxRecDepth 100000 in
set_option maxHeartbeats 4000000 in
theorem cdo_run (n : Nat) (K I : Int) (F : Nat) (S : ByteArray) (q : Option Addr) (m d : Nat) (ms : ByteArray) (p : Option Addr) (l c : Nat) (w : World)
    (HR : Hid (∀ W, Below w.heap.size w W → Calls Try.prog 14 #[.agg #[.int .i64 K, .int .i64 I, .float .f64 F, .string S, .slice q m d]] W fun e w' => e = .returned (.bool true) ∧ Below W.heap.size W w'))
    (HA : Hid (∀ W, Below w.heap.size w W → Calls Try.prog 22 #[.string { data := #[99, 111, 117, 110, 116, 101, 114] }, .string ms, .slice p l c] W fun e w' => e = .returned (.int .i64 0) ∧ Below W.heap.size W w'))
    (C T V : VT n) (z : Int)
    (HC : Hid (∀ W, Below w.heap.size w W → Calls Try.prog 24 #[.agg #[.int .i64 K, .int .i64 I, .float .f64 F, .string S, .slice q m d]] W fun e w' => ∃ v', e = .returned v' ∧ Below W.heap.size W w' ∧ RepS (fun b => W.heap.size ≤ b) w' n v' C))
    (HU : Hid (∀ B W v, B ≤ W.heap.size → Below w.heap.size w W → RepS (fun b => B ≤ b) W n v C → Calls Try.prog 23 #[v, .string ms, .slice p l c] W fun e w' => RunP B W n T V z e w')) :
    Calls Try.prog 11 #[.agg #[.int .i64 K, .int .i64 I, .float .f64 F, .string S, .slice q m d], .string ms, .slice p l c] w fun e w' => DoP w n T V z e w' := by
  obtain ⟨oa, hoa⟩ : ∃ o, Obj.cells #[.int .i64 K, .int .i64 I, .float .f64 F, .string S, .slice q m d] 27 = o := ⟨_, rfl⟩
  obtain ⟨oz, hoz⟩ : ∃ o, Obj.cells #[.int .i64 0, .int .i64 0, .float .f64 0, .string ⟨#[]⟩, .slice none 0 0] 27 = o := ⟨_, rfl⟩
  have hB : Below w.heap.size w (((w.alloc oa).alloc oz).alloc oz) := bel_alloc (bel_alloc (bel_alloc (Below.refl w.heap.size w) oa) oz) oz
  have HB := Lib.hid hB
  have ra := row_alloc_step (row_alloc_step (row_alloc w #[.int .i64 K, .int .i64 I, .float .f64 F, .string S, .slice q m d] 27) oz) oz
  rw [hoa] at ra
  have r6 := row_alloc_step (row_alloc (w.alloc oa) #[.int .i64 0, .int .i64 0, .float .f64 0, .string ⟨#[]⟩, .slice none 0 0] 27) oz
  have r7 := row_alloc ((w.alloc oa).alloc oz) #[.int .i64 0, .int .i64 0, .float .f64 0, .string ⟨#[]⟩, .slice none 0 0] 27
  rw [hoz] at r6 r7
  simp only [World.size_alloc] at ra r6 r7
  have HRA := Lib.hid ra
  have HR6 := Lib.hid r6
  have HR7 := Lib.hid r7
  subst hoa hoz
  clear ra r6 r7 hB
  unfold RunP at HU
  go_enter Try.func11, Try.ntmps11
  go_wp2_with fail
  go_at_call 14; refine (HR.out _ HB.out).mono ?_; rintro e w1 ⟨rfl, hb1⟩
  have HB1 := Lib.hid (bel_step HB.out hb1)
  have HRA1 := Lib.hid (row_step HRA.out hb1)
  have HR61 := Lib.hid (row_step HR6.out hb1)
  have HR71 := Lib.hid (row_step HR7.out hb1)
  clear hb1 HB HRA HR6 HR7 HR
  go_wp2_with fail
  go_at_call 22; refine (HA.out _ HB1.out).mono ?_; rintro e w2 ⟨rfl, hb2⟩
  have HB2 := Lib.hid (bel_step HB1.out hb2)
  have xa := row_step HRA1.out hb2
  have HR62 := Lib.hid (row_step HR61.out hb2)
  have HR72 := Lib.hid (row_step HR71.out hb2)
  have a0 := row_cell xa 0; have a1 := row_cell xa 1; have a2 := row_cell xa 2; have a3 := row_cell xa 3; have a4 := row_cell xa 4
  simp only [List.getElem?_toArray, List.getElem?_cons_zero, List.getElem?_cons_succ] at a0 a1 a2 a3 a4
  clear hb2 HB1 HRA1 HR61 HR71 HA xa
  go_wp2_with fail
  go_at_call 24; refine (HC.out _ HB2.out).mono ?_; rintro e w3 ⟨v3, rfl, hb3, hr3⟩
  have HB3 := Lib.hid (bel_step HB2.out hb3)
  have HR63 := Lib.hid (row_step HR62.out hb3)
  have HR73 := Lib.hid (row_step HR72.out hb3)
  have HC3 := Lib.hid hr3
  have HS3 := Lib.hid hb3.size
  have HL2 := Lib.hid (row_lt HR72.out)
  clear hb3 hr3 HB2 HR62 HR72 HC a0 a1 a2 a3 a4
  go_wp2_with fail
  go_at_call 23; refine (HU.out _ _ _ HS3.out HB3.out HC3.out).mono ?_; rintro e w4 ⟨t, v, rfl, hb4, ht, hv⟩
  obtain ⟨K5, I5, F5, S5, q5, m5, d5, rfl, _⟩ := repS_shape ht
  obtain ⟨K6, I6, F6, S6, q6, m6, d6, rfl, _⟩ := repS_shape hv
  have HB4 := Lib.hid (bel_step HB3.out hb4)
  have x6 := row_step HR63.out hb4
  have x7 := row_step HR73.out hb4
  have p0 := row_cell x6 0; have p1 := row_cell x6 1; have p2 := row_cell x6 2; have p3 := row_cell x6 3; have p4 := row_cell x6 4
  have s0 := row_cell x7 0; have s1 := row_cell x7 1; have s2 := row_cell x7 2; have s3 := row_cell x7 3; have s4 := row_cell x7 4
  simp only [List.getElem?_toArray, List.getElem?_cons_zero, List.getElem?_cons_succ] at p0 p1 p2 p3 p4 s0 s1 s2 s3 s4
  have f6 := fun o => row_frz x6 o
  have f7 := fun o => row_frz x7 o
  have l7 := row_lt x7
  have HT := Lib.hid ht
  have HV := Lib.hid hv
  clear hb4 x6 x7 ht hv HB3 HR63 HR73 HC3 HS3 HU
  go_wp2
  refine bodyPost_ret (v := .tuple #[.agg #[.int .i64 K5, .int .i64 I5, .float .f64 F5, .string S5, .slice q5 m5 d5], .agg #[.int .i64 K6, .int .i64 I6, .float .f64 F6, .string S6, .slice q6 m6 d6], .int .i64 z]) ?_ ?_ ?_
  · simp [results, Try.results11, go_sem, World.cell?_setCell_same, World.cell?_setCell_other, p0, p1, p2, p3, p4, s0, s1, s2, s3, s4]
  · rfl
  refine ⟨_, _, rfl, ?_, ?_, ?_⟩
  · exact set5_below (g := w.heap.size + 1 + 1) (o := 0) (set5_below (g := w.heap.size + 1) (o := 0) HB4.out (by omega) _ _ _ _ _) (by omega) _ _ _ _ _
  · exact repS_mono (S := fun b => w2.heap.size ≤ b) (fun b hb => by have h1 := HL2.out; omega) _ _ _ (repS_keep (w := w4) (fun b hb => by have h1 := HL2.out; exact (set5_other (g := w.heap.size + 1 + 1) (o := 0) (by omega)).trans (set5_other (g := w.heap.size + 1) (o := 0) (by omega))) _ _ _ HT.out)
  · exact repS_mono (S := fun b => w2.heap.size ≤ b) (fun b hb => by have h1 := HL2.out; omega) _ _ _ (repS_keep (w := w4) (fun b hb => by have h1 := HL2.out; exact (set5_other (g := w.heap.size + 1 + 1) (o := 0) (by omega)).trans (set5_other (g := w.heap.size + 1) (o := 0) (by omega))) _ _ _ HV.out)
set_option maxRecDepth 100000 in
set_option maxHeartbeats 4000000 in
theorem cdo_state (n : Nat) (K I : Int) (F : Nat) (S : ByteArray) (q : Option Addr) (m d : Nat) (ms : ByteArray) (p : Option Addr) (l c : Nat) (w : World)
    (HR : Hid (∀ W, Below w.heap.size w W → Calls Try.prog 14 #[.agg #[.int .i64 K, .int .i64 I, .float .f64 F, .string S, .slice q m d]] W fun e w' => e = .returned (.bool false) ∧ Below W.heap.size W w')) :
    Calls Try.prog 11 #[.agg #[.int .i64 K, .int .i64 I, .float .f64 F, .string S, .slice q m d], .string ms, .slice p l c] w fun e w' => DoP w (n + 1) (nilT n) (nilT n) 31 e w' := by
  obtain ⟨oa, hoa⟩ : ∃ o, Obj.cells #[.int .i64 K, .int .i64 I, .float .f64 F, .string S, .slice q m d] 27 = o := ⟨_, rfl⟩
  obtain ⟨oz, hoz⟩ : ∃ o, Obj.cells #[.int .i64 0, .int .i64 0, .float .f64 0, .string ⟨#[]⟩, .slice none 0 0] 27 = o := ⟨_, rfl⟩
  have hB : Below w.heap.size w (((w.alloc oa).alloc oz).alloc oz) := bel_alloc (bel_alloc (bel_alloc (Below.refl w.heap.size w) oa) oz) oz
  have HB := Lib.hid hB
  have r6 := row_alloc_step (row_alloc (w.alloc oa) #[.int .i64 0, .int .i64 0, .float .f64 0, .string ⟨#[]⟩, .slice none 0 0] 27) oz
  have r7 := row_alloc ((w.alloc oa).alloc oz) #[.int .i64 0, .int .i64 0, .float .f64 0, .string ⟨#[]⟩, .slice none 0 0] 27
  rw [hoz] at r6 r7
  simp only [World.size_alloc] at r6 r7
  have HR6 := Lib.hid r6
  have HR7 := Lib.hid r7
  subst hoa hoz
  clear r6 r7 hB
  go_enter Try.func11, Try.ntmps11
  go_wp2_with fail
  go_at_call 14; refine (HR.out _ HB.out).mono ?_; rintro e w1 ⟨rfl, hb1⟩
  have HB1 := Lib.hid (bel_step HB.out hb1)
  have x6 := row_step HR6.out hb1
  have x7 := row_step HR7.out hb1
  have p0 := row_cell x6 0; have p1 := row_cell x6 1; have p2 := row_cell x6 2; have p3 := row_cell x6 3; have p4 := row_cell x6 4
  have s0 := row_cell x7 0; have s1 := row_cell x7 1; have s2 := row_cell x7 2; have s3 := row_cell x7 3; have s4 := row_cell x7 4
  simp only [List.getElem?_toArray, List.getElem?_cons_zero, List.getElem?_cons_succ] at p0 p1 p2 p3 p4 s0 s1 s2 s3 s4
  have f6 := fun o => row_frz x6 o
  have f7 := fun o => row_frz x7 o
  have l7 := row_lt x7
  clear hb1 x6 x7 HB HR6 HR7 HR
  go_wp2
  refine bodyPost_ret (v := .tuple #[.agg #[.int .i64 0, .int .i64 0, .float .f64 0, .string ⟨#[]⟩, .slice none 0 0], .agg #[.int .i64 0, .int .i64 0, .float .f64 0, .string ⟨#[]⟩, .slice none 0 0], .int .i64 31]) ?_ ?_ ?_
  · simp [results, Try.results11, go_sem, World.cell?_setCell_same, World.cell?_setCell_other, p0, p1, p2, p3, p4, s0, s1, s2, s3, s4]
  · rfl
  refine ⟨_, _, rfl, ?_, nil_rep _ _ _, nil_rep _ _ _⟩
  exact set5_below (g := w.heap.size + 1 + 1) (o := 0) (set5_below (g := w.heap.size + 1) (o := 0) HB1.out (by omega) _ _ _ _ _) (by omega) _ _ _ _ _
set_option maxRecDepth 100000 in
set_option maxHeartbeats 4000000 in
theorem cdo_args (n : Nat) (K I : Int) (F : Nat) (S : ByteArray) (q : Option Addr) (m d : Nat) (ms : ByteArray) (p : Option Addr) (l c : Nat) (w : World) (z : Int) (hz : z = 22 ∨ z = 31)
    (HR : Hid (∀ W, Below w.heap.size w W → Calls Try.prog 14 #[.agg #[.int .i64 K, .int .i64 I, .float .f64 F, .string S, .slice q m d]] W fun e w' => e = .returned (.bool true) ∧ Below W.heap.size W w'))
    (HA : Hid (∀ W, Below w.heap.size w W → Calls Try.prog 22 #[.string { data := #[99, 111, 117, 110, 116, 101, 114] }, .string ms, .slice p l c] W fun e w' => e = .returned (.int .i64 z) ∧ Below W.heap.size W w')) :
    Calls Try.prog 11 #[.agg #[.int .i64 K, .int .i64 I, .float .f64 F, .string S, .slice q m d], .string ms, .slice p l c] w fun e w' => DoP w (n + 1) (nilT n) (nilT n) z e w' := by
  obtain ⟨oa, hoa⟩ : ∃ o, Obj.cells #[.int .i64 K, .int .i64 I, .float .f64 F, .string S, .slice q m d] 27 = o := ⟨_, rfl⟩
  obtain ⟨oz, hoz⟩ : ∃ o, Obj.cells #[.int .i64 0, .int .i64 0, .float .f64 0, .string ⟨#[]⟩, .slice none 0 0] 27 = o := ⟨_, rfl⟩
  have hB : Below w.heap.size w (((w.alloc oa).alloc oz).alloc oz) := bel_alloc (bel_alloc (bel_alloc (Below.refl w.heap.size w) oa) oz) oz
  have HB := Lib.hid hB
  have r6 := row_alloc_step (row_alloc (w.alloc oa) #[.int .i64 0, .int .i64 0, .float .f64 0, .string ⟨#[]⟩, .slice none 0 0] 27) oz
  have r7 := row_alloc ((w.alloc oa).alloc oz) #[.int .i64 0, .int .i64 0, .float .f64 0, .string ⟨#[]⟩, .slice none 0 0] 27
  rw [hoz] at r6 r7
  simp only [World.size_alloc] at r6 r7
  have HR6 := Lib.hid r6
  have HR7 := Lib.hid r7
  subst hoa hoz
  clear r6 r7 hB
  rcases hz with rfl | rfl
  · go_enter Try.func11, Try.ntmps11
    go_wp2_with fail
    go_at_call 14; refine (HR.out _ HB.out).mono ?_; rintro e w1 ⟨rfl, hb1⟩
    have HB1 := Lib.hid (bel_step HB.out hb1)
    have HR61 := Lib.hid (row_step HR6.out hb1)
    have HR71 := Lib.hid (row_step HR7.out hb1)
    clear hb1 HB HR6 HR7 HR
    go_wp2_with fail
    go_at_call 22; refine (HA.out _ HB1.out).mono ?_; rintro e w2 ⟨rfl, hb2⟩
    have HB2 := Lib.hid (bel_step HB1.out hb2)
    have x6 := row_step HR61.out hb2
    have x7 := row_step HR71.out hb2
    have p0 := row_cell x6 0; have p1 := row_cell x6 1; have p2 := row_cell x6 2; have p3 := row_cell x6 3; have p4 := row_cell x6 4
    have s0 := row_cell x7 0; have s1 := row_cell x7 1; have s2 := row_cell x7 2; have s3 := row_cell x7 3; have s4 := row_cell x7 4
    simp only [List.getElem?_toArray, List.getElem?_cons_zero, List.getElem?_cons_succ] at p0 p1 p2 p3 p4 s0 s1 s2 s3 s4
    have f6 := fun o => row_frz x6 o
    have f7 := fun o => row_frz x7 o
    have l7 := row_lt x7
    clear hb2 x6 x7 HB1 HR61 HR71 HA
    go_wp2
    refine bodyPost_ret (v := .tuple #[.agg #[.int .i64 0, .int .i64 0, .float .f64 0, .string ⟨#[]⟩, .slice none 0 0], .agg #[.int .i64 0, .int .i64 0, .float .f64 0, .string ⟨#[]⟩, .slice none 0 0], .int .i64 22]) ?_ ?_ ?_
    · simp [results, Try.results11, go_sem, World.cell?_setCell_same, World.cell?_setCell_other, p0, p1, p2, p3, p4, s0, s1, s2, s3, s4]
    · rfl
    refine ⟨_, _, rfl, ?_, nil_rep _ _ _, nil_rep _ _ _⟩
    exact set5_below (g := w.heap.size + 1 + 1) (o := 0) (set5_below (g := w.heap.size + 1) (o := 0) HB2.out (by omega) _ _ _ _ _) (by omega) _ _ _ _ _
  · go_enter Try.func11, Try.ntmps11
    go_wp2_with fail
    go_at_call 14; refine (HR.out _ HB.out).mono ?_; rintro e w1 ⟨rfl, hb1⟩
    have HB1 := Lib.hid (bel_step HB.out hb1)
    have HR61 := Lib.hid (row_step HR6.out hb1)
    have HR71 := Lib.hid (row_step HR7.out hb1)
    clear hb1 HB HR6 HR7 HR
    go_wp2_with fail
    go_at_call 22; refine (HA.out _ HB1.out).mono ?_; rintro e w2 ⟨rfl, hb2⟩
    have HB2 := Lib.hid (bel_step HB1.out hb2)
    have x6 := row_step HR61.out hb2
    have x7 := row_step HR71.out hb2
    have p0 := row_cell x6 0; have p1 := row_cell x6 1; have p2 := row_cell x6 2; have p3 := row_cell x6 3; have p4 := row_cell x6 4
    have s0 := row_cell x7 0; have s1 := row_cell x7 1; have s2 := row_cell x7 2; have s3 := row_cell x7 3; have s4 := row_cell x7 4
    simp only [List.getElem?_toArray, List.getElem?_cons_zero, List.getElem?_cons_succ] at p0 p1 p2 p3 p4 s0 s1 s2 s3 s4
    have f6 := fun o => row_frz x6 o
    have f7 := fun o => row_frz x7 o
    have l7 := row_lt x7
    clear hb2 x6 x7 HB1 HR61 HR71 HA
    go_wp2
    refine bodyPost_ret (v := .tuple #[.agg #[.int .i64 0, .int .i64 0, .float .f64 0, .string ⟨#[]⟩, .slice none 0 0], .agg #[.int .i64 0, .int .i64 0, .float .f64 0, .string ⟨#[]⟩, .slice none 0 0], .int .i64 31]) ?_ ?_ ?_
    · simp [results, Try.results11, go_sem, World.cell?_setCell_same, World.cell?_setCell_other, p0, p1, p2, p3, p4, s0, s1, s2, s3, s4]
    · rfl
    refine ⟨_, _, rfl, ?_, nil_rep _ _ _, nil_rep _ _ _⟩
    exact set5_below (g := w.heap.size + 1 + 1) (o := 0) (set5_below (g := w.heap.size + 1) (o := 0) HB2.out (by omega) _ _ _ _ _) (by omega) _ _ _ _ _
end Num
end Go.Proofs.Ytmhogdigkdcnfaa
