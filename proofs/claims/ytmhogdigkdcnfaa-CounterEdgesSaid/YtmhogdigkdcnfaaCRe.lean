/-
  Package counter: run, add.
-/
import Derived.Test.YtmhogdigkdcnfaaCRd
import Derived.Deep.RegionHeld3
namespace Go.Proofs.Ytmhogdigkdcnfaa
open Go.RowKit
namespace Num
open Ints
set_option linter.unusedSimpArgs false
set_option linter.unusedVariables false
/-- What run loads for add: the state's list, its two items, the argument. -/
def SR (B b off d : Nat) (K2 I2 : Int) (F2 : Nat) (S2 : ByteArray) (q2 : Option Addr) (m2 d2 : Nat) (K3 I3 : Int) (F3 : Nat) (S3 : ByteArray) (q3 : Option Addr) (m3 d3 : Nat) (K4 I4 : Int) (F4 : Nat) (S4 : ByteArray) (q4 : Option Addr) (m4 d4 bl ol : Nat) (x : World) : Prop := x.cell? ⟨B, 4, none⟩ = some (.slice (some ⟨b, off, none⟩) 2 d) ∧ x.cell? ⟨b, off, none⟩ = some (.int .i64 K2) ∧ x.cell? ⟨b, off + 1, none⟩ = some (.int .i64 I2) ∧ x.cell? ⟨b, off + 2, none⟩ = some (.float .f64 F2) ∧ x.cell? ⟨b, off + 3, none⟩ = some (.string S2) ∧ x.cell? ⟨b, off + 4, none⟩ = some (.slice q2 m2 d2) ∧ x.cell? ⟨b, off + 5, none⟩ = some (.int .i64 K3) ∧ x.cell? ⟨b, off + 5 + 1, none⟩ = some (.int .i64 I3) ∧ x.cell? ⟨b, off + 5 + 2, none⟩ = some (.float .f64 F3) ∧ x.cell? ⟨b, off + 5 + 3, none⟩ = some (.string S3) ∧ x.cell? ⟨b, off + 5 + 4, none⟩ = some (.slice q3 m3 d3) ∧ x.cell? ⟨bl, ol, none⟩ = some (.int .i64 K4) ∧ x.cell? ⟨bl, ol + 1, none⟩ = some (.int .i64 I4) ∧ x.cell? ⟨bl, ol + 2, none⟩ = some (.float .f64 F4) ∧ x.cell? ⟨bl, ol + 3, none⟩ = some (.string S4) ∧ x.cell? ⟨bl, ol + 4, none⟩ = some (.slice q4 m4 d4)
theorem sr_step {B b off d : Nat} {K2 I2 : Int} {F2 : Nat} {S2 : ByteArray} {q2 : Option Addr} {m2 d2 : Nat} {K3 I3 : Int} {F3 : Nat} {S3 : ByteArray} {q3 : Option Addr} {m3 d3 : Nat} {K4 I4 : Int} {F4 : Nat} {S4 : ByteArray} {q4 : Option Addr} {m4 d4 bl ol : Nat} {x y : World} (h : SR B b off d K2 I2 F2 S2 q2 m2 d2 K3 I3 F3 S3 q3 m3 d3 K4 I4 F4 S4 q4 m4 d4 bl ol x) (hb : Below x.heap.size x y) : SR B b off d K2 I2 F2 S2 q2 m2 d2 K3 I3 F3 S3 q3 m3 d3 K4 I4 F4 S4 q4 m4 d4 bl ol y := ⟨cell_keep hb h.1, cell_keep hb h.2.1, cell_keep hb h.2.2.1, cell_keep hb h.2.2.2.1, cell_keep hb h.2.2.2.2.1, cell_keep hb h.2.2.2.2.2.1, cell_keep hb h.2.2.2.2.2.2.1, cell_keep hb h.2.2.2.2.2.2.2.1, cell_keep hb h.2.2.2.2.2.2.2.2.1, cell_keep hb h.2.2.2.2.2.2.2.2.2.1, cell_keep hb h.2.2.2.2.2.2.2.2.2.2.1, cell_keep hb h.2.2.2.2.2.2.2.2.2.2.2.1, cell_keep hb h.2.2.2.2.2.2.2.2.2.2.2.2.1, cell_keep hb h.2.2.2.2.2.2.2.2.2.2.2.2.2.1, cell_keep hb h.2.2.2.2.2.2.2.2.2.2.2.2.2.2.1, cell_keep hb h.2.2.2.2.2.2.2.2.2.2.2.2.2.2.2⟩
theorem sr_drew {B b off d : Nat} {K2 I2 : Int} {F2 : Nat} {S2 : ByteArray} {q2 : Option Addr} {m2 d2 : Nat} {K3 I3 : Int} {F3 : Nat} {S3 : ByteArray} {q3 : Option Addr} {m3 d3 : Nat} {K4 I4 : Int} {F4 : Nat} {S4 : ByteArray} {q4 : Option Addr} {m4 d4 bl ol : Nat} {x : World} (h : SR B b off d K2 I2 F2 S2 q2 m2 d2 K3 I3 F3 S3 q3 m3 d3 K4 I4 F4 S4 q4 m4 d4 bl ol x) : SR B b off d K2 I2 F2 S2 q2 m2 d2 K3 I3 F3 S3 q3 m3 d3 K4 I4 F4 S4 q4 m4 d4 bl ol x.drew := sr_step h (Below.drew (Below.refl _ _))
theorem sr_set {B b off d : Nat} {K2 I2 : Int} {F2 : Nat} {S2 : ByteArray} {q2 : Option Addr} {m2 d2 : Nat} {K3 I3 : Int} {F3 : Nat} {S3 : ByteArray} {q3 : Option Addr} {m3 d3 : Nat} {K4 I4 : Int} {F4 : Nat} {S4 : ByteArray} {q4 : Option Addr} {m4 d4 bl ol : Nat} {x : World} {g o : Nat} {v : Value} (h : SR B b off d K2 I2 F2 S2 q2 m2 d2 K3 I3 F3 S3 q3 m3 d3 K4 I4 F4 S4 q4 m4 d4 bl ol x) (h1 : B ≠ g) (h2 : b ≠ g) (h3 : bl ≠ g) : SR B b off d K2 I2 F2 S2 q2 m2 d2 K3 I3 F3 S3 q3 m3 d3 K4 I4 F4 S4 q4 m4 d4 bl ol (x.setCell ⟨g, o, none⟩ v) := by
  unfold SR at h ⊢
  have e : ∀ c i, c ≠ g → (x.setCell ⟨g, o, none⟩ v).cell? ⟨c, i, none⟩ = x.cell? ⟨c, i, none⟩ := fun c i hc => World.cell?_setCell_other _ _ _ _ (fun e => hc (congrArg Addr.block e).symm)
  simp only [e _ _ h1, e _ _ h2, e _ _ h3]
  exact h
set_option maxRecDepth 100000 in
set_option maxHeartbeats 4000000 in
theorem crun_add (I : Int) (F : Nat) (S : ByteArray) (b off d : Nat) (K2 I2 : Int) (F2 : Nat) (S2 : ByteArray) (q2 : Option Addr) (m2 d2 : Nat) (K3 I3 : Int) (F3 : Nat) (S3 : ByteArray) (q3 : Option Addr) (m3 d3 : Nat) (K4 I4 : Int) (F4 : Nat) (S4 : ByteArray) (q4 : Option Addr) (m4 d4 : Nat) (bl ol c : Nat) (w : World) (c0 : w.cell? ⟨b, off, none⟩ = some (.int .i64 K2)) (c1 : w.cell? ⟨b, off + 1, none⟩ = some (.int .i64 I2)) (c2 : w.cell? ⟨b, off + 2, none⟩ = some (.float .f64 F2)) (c3 : w.cell? ⟨b, off + 3, none⟩ = some (.string S2)) (c4 : w.cell? ⟨b, off + 4, none⟩ = some (.slice q2 m2 d2))
    (e0 : w.cell? ⟨b, off + 5, none⟩ = some (.int .i64 K3)) (e1 : w.cell? ⟨b, off + 5 + 1, none⟩ = some (.int .i64 I3)) (e2 : w.cell? ⟨b, off + 5 + 2, none⟩ = some (.float .f64 F3)) (e3 : w.cell? ⟨b, off + 5 + 3, none⟩ = some (.string S3)) (e4 : w.cell? ⟨b, off + 5 + 4, none⟩ = some (.slice q3 m3 d3))
    (a0 : w.cell? ⟨bl, ol, none⟩ = some (.int .i64 K4)) (a1 : w.cell? ⟨bl, ol + 1, none⟩ = some (.int .i64 I4)) (a2 : w.cell? ⟨bl, ol + 2, none⟩ = some (.float .f64 F4)) (a3 : w.cell? ⟨bl, ol + 3, none⟩ = some (.string S4)) (a4 : w.cell? ⟨bl, ol + 4, none⟩ = some (.slice q4 m4 d4)) (n : Nat) (T V : VT (n + 1)) (z : Int)
    (HA : Hid (∀ W, Below w.heap.size w W → Calls Try.prog 47 #[.agg #[.int .i64 K2, .int .i64 I2, .float .f64 F2, .string S2, .slice q2 m2 d2], .agg #[.int .i64 K3, .int .i64 I3, .float .f64 F3, .string S3, .slice q3 m3 d3], .agg #[.int .i64 K4, .int .i64 I4, .float .f64 F4, .string S4, .slice q4 m4 d4]] W fun e w' => DoP W (n + 1) T V z e w')) :
    Calls Try.prog 23 #[.agg #[.int .i64 4, .int .i64 I, .float .f64 F, .string S, .slice (some ⟨b, off, none⟩) 2 d], .string { data := #[97, 100, 100] }, .slice (some ⟨bl, ol, none⟩) 1 c] w fun e w' => DoP w (n + 1) T V z e w' := by
  obtain ⟨oa, hoa⟩ : ∃ o, Obj.cells #[.int .i64 4, .int .i64 I, .float .f64 F, .string S, .slice (some ⟨b, off, none⟩) 2 d] 27 = o := ⟨_, rfl⟩
  obtain ⟨oz, hoz⟩ : ∃ o, Obj.cells #[.int .i64 0, .int .i64 0, .float .f64 0, .string ⟨#[]⟩, .slice none 0 0] 27 = o := ⟨_, rfl⟩
  have hB : Below w.heap.size w (((w.alloc oa).alloc oz).alloc oz) := bel_alloc (bel_alloc (bel_alloc (Below.refl w.heap.size w) oa) oz) oz
  have HB := Lib.hid hB
  have ra := row_alloc_step (row_alloc_step (row_alloc w #[.int .i64 4, .int .i64 I, .float .f64 F, .string S, .slice (some ⟨b, off, none⟩) 2 d] 27) oz) oz
  rw [hoa] at ra
  have r6 := row_alloc_step (row_alloc (w.alloc oa) #[.int .i64 0, .int .i64 0, .float .f64 0, .string ⟨#[]⟩, .slice none 0 0] 27) oz
  have r7 := row_alloc ((w.alloc oa).alloc oz) #[.int .i64 0, .int .i64 0, .float .f64 0, .string ⟨#[]⟩, .slice none 0 0] 27
  rw [hoz] at r6 r7
  simp only [World.size_alloc] at ra r6 r7
  have HRA := Lib.hid ra
  have HR6 := Lib.hid r6
  have HR7 := Lib.hid r7
  subst hoa hoz
  clear ra r6 r7
  have hs0 : SR w.heap.size b off d K2 I2 F2 S2 q2 m2 d2 K3 I3 F3 S3 q3 m3 d3 K4 I4 F4 S4 q4 m4 d4 bl ol (((w.alloc (.cells #[.int .i64 4, .int .i64 I, .float .f64 F, .string S, .slice (some ⟨b, off, none⟩) 2 d] 27)).alloc (.cells #[.int .i64 0, .int .i64 0, .float .f64 0, .string ⟨#[]⟩, .slice none 0 0] 27)).alloc (.cells #[.int .i64 0, .int .i64 0, .float .f64 0, .string ⟨#[]⟩, .slice none 0 0] 27)) := ⟨row_cell HRA.out 4, cell_keep hB c0, cell_keep hB c1, cell_keep hB c2, cell_keep hB c3, cell_keep hB c4, cell_keep hB e0, cell_keep hB e1, cell_keep hB e2, cell_keep hB e3, cell_keep hB e4, cell_keep hB a0, cell_keep hB a1, cell_keep hB a2, cell_keep hB a3, cell_keep hB a4⟩
  unfold DoP at HA
  have hlb : b < w.heap.size := cell_lt c0
  have hll : bl < w.heap.size := cell_lt a0
  have HRR := Lib.hid (And.intro HB.out (And.intro HR6.out (And.intro HR7.out (And.intro (show (((w.alloc (.cells #[.int .i64 4, .int .i64 I, .float .f64 F, .string S, .slice (some ⟨b, off, none⟩) 2 d] 27)).alloc (.cells #[.int .i64 0, .int .i64 0, .float .f64 0, .string ⟨#[]⟩, .slice none 0 0] 27)).alloc (.cells #[.int .i64 0, .int .i64 0, .float .f64 0, .string ⟨#[]⟩, .slice none 0 0] 27)).heap.size = w.heap.size + 1 + 1 + 1 by simp only [World.size_alloc]) hs0))))
  clear hB HR6 HR7 HB HRA hs0 c0 c1 c2 c3 c4 e0 e1 e2 e3 e4 a0 a1 a2 a3 a4
  go_enter Try.func23, Try.ntmps23
  go_wp2_with fail
  revert HRR
  generalize (((w.alloc (.cells #[.int .i64 4, .int .i64 I, .float .f64 F, .string S, .slice (some ⟨b, off, none⟩) 2 d] 27)).alloc (.cells #[.int .i64 0, .int .i64 0, .float .f64 0, .string ⟨#[]⟩, .slice none 0 0] 27)).alloc (.cells #[.int .i64 0, .int .i64 0, .float .f64 0, .string ⟨#[]⟩, .slice none 0 0] 27)) = W
  intro HRR
  obtain ⟨hB, h6, h7, hz, hs0⟩ := HRR.out
  have HZ := Lib.hid (show W.drew.heap.size = w.heap.size + 1 + 1 + 1 from hz)
  have HBd := Lib.hid (Below.drew hB)
  have HR6d := Lib.hid (show W.drew.heap[w.heap.size + 1]? = _ from h6)
  have HR7d := Lib.hid (show W.drew.heap[w.heap.size + 1 + 1]? = _ from h7)
  clear hB h6 h7 hz HRR
  go_region_held3 (fun w' => w'.cell? ⟨w.heap.size, 4, none⟩ = some (.slice (some ⟨b, off, none⟩) 2 d) ∧ w'.cell? ⟨b, off, none⟩ = some (.int .i64 K2) ∧ w'.cell? ⟨b, off + 1, none⟩ = some (.int .i64 I2) ∧ w'.cell? ⟨b, off + 2, none⟩ = some (.float .f64 F2) ∧ w'.cell? ⟨b, off + 3, none⟩ = some (.string S2) ∧ w'.cell? ⟨b, off + 4, none⟩ = some (.slice q2 m2 d2) ∧ w'.cell? ⟨b, off + 5, none⟩ = some (.int .i64 K3) ∧ w'.cell? ⟨b, off + 5 + 1, none⟩ = some (.int .i64 I3) ∧ w'.cell? ⟨b, off + 5 + 2, none⟩ = some (.float .f64 F3) ∧ w'.cell? ⟨b, off + 5 + 3, none⟩ = some (.string S3) ∧ w'.cell? ⟨b, off + 5 + 4, none⟩ = some (.slice q3 m3 d3) ∧ w'.cell? ⟨bl, ol, none⟩ = some (.int .i64 K4) ∧ w'.cell? ⟨bl, ol + 1, none⟩ = some (.int .i64 I4) ∧ w'.cell? ⟨bl, ol + 2, none⟩ = some (.float .f64 F4) ∧ w'.cell? ⟨bl, ol + 3, none⟩ = some (.string S4) ∧ w'.cell? ⟨bl, ol + 4, none⟩ = some (.slice q4 m4 d4)) ((show SR w.heap.size b off d K2 I2 F2 S2 q2 m2 d2 K3 I3 F3 S3 q3 m3 d3 K4 I4 F4 S4 q4 m4 d4 bl ol _; (repeat (with_reducible refine sr_set ?_ ?_ ?_ ?_; rotate_left; omega; omega; omega)); first | with_reducible exact hk1 | with_reducible exact sr_drew hs0)) ((go_at_call 47; refine (HA.out _ HBd.out).mono ?_; rintro e w1 ⟨t, v, rfl, hb1, ht, hv⟩; obtain ⟨K5, I5, F5, S5, q5, m5, d5, rfl, _⟩ := repS_shape ht; obtain ⟨K6, I6, F6, S6, q6, m6, d6, rfl, _⟩ := repS_shape hv; have HB1 := Lib.hid (bel_step HBd.out hb1); have x6 := row_step HR6d.out hb1; have x7 := row_step HR7d.out hb1; have p0 := row_cell x6 0; have p1 := row_cell x6 1; have p2 := row_cell x6 2; have p3 := row_cell x6 3; have p4 := row_cell x6 4; have s0 := row_cell x7 0; have s1 := row_cell x7 1; have s2 := row_cell x7 2; have s3 := row_cell x7 3; have s4 := row_cell x7 4; simp only [List.getElem?_toArray, List.getElem?_cons_zero, List.getElem?_cons_succ] at p0 p1 p2 p3 p4 s0 s1 s2 s3 s4; have f6 := fun o => row_frz x6 o; have f7 := fun o => row_frz x7 o; have l7 := row_lt x7; have HT := Lib.hid ht; have HV := Lib.hid hv; have hk1 := sr_step (sr_drew hs0) hb1; clear hb1 x6 x7 ht hv))
  go_wp2
  refine bodyPost_ret (v := .tuple #[.agg #[.int .i64 K5, .int .i64 I5, .float .f64 F5, .string S5, .slice q5 m5 d5], .agg #[.int .i64 K6, .int .i64 I6, .float .f64 F6, .string S6, .slice q6 m6 d6], .int .i64 z]) ?_ ?_ ?_
  · simp [results, Try.results23, go_sem, World.cell?_setCell_same, World.cell?_setCell_other, p0, p1, p2, p3, p4, s0, s1, s2, s3, s4]
  · rfl
  refine ⟨_, _, rfl, ?_, ?_, ?_⟩
  · exact set5_below (g := w.heap.size + 1 + 1) (o := 0) (set5_below (g := w.heap.size + 1) (o := 0) HB1.out (by omega) _ _ _ _ _) (by omega) _ _ _ _ _
  · exact repS_mono (S := fun b => W.drew.heap.size ≤ b) (fun b hb => by have h1 := HZ.out; omega) _ _ _ (repS_keep (w := w1) (fun b hb => by have h1 := HZ.out; exact (set5_other (g := w.heap.size + 1 + 1) (o := 0) (by omega)).trans (set5_other (g := w.heap.size + 1) (o := 0) (by omega))) _ _ _ HT.out)
  · exact repS_mono (S := fun b => W.drew.heap.size ≤ b) (fun b hb => by have h1 := HZ.out; omega) _ _ _ (repS_keep (w := w1) (fun b hb => by have h1 := HZ.out; exact (set5_other (g := w.heap.size + 1 + 1) (o := 0) (by omega)).trans (set5_other (g := w.heap.size + 1) (o := 0) (by omega))) _ _ _ HV.out)
end Num
end Go.Proofs.Ytmhogdigkdcnfaa
