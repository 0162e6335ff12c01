/-
  Package queue: nth.
-/
import Derived.Test.YtodjnhhnjncgdaaEA
import Derived.Defers
import Derived.Recover
import Derived.Laws.Pointers
import Derived.Laws.Panics
import Derived.RegionTactic
namespace Go.Proofs.Ytodjnhhnjncgdaa
open Go.RowKit
namespace Num
open Ints
set_option linter.unusedSimpArgs false
set_option linter.unusedVariables false
set_option maxRecDepth 100000 in
set_option maxHeartbeats 4000000 in
theorem nth_catch (pb eb : Nat) (x0 x1 x2 x3 x4 xe : Value) (u : TypeId) (pv : Value) (older : List PanicEntry) (w : World) (hne : pb ≠ eb) (c0 : w.cell? ⟨pb, 0, none⟩ = some x0) (c1 : w.cell? ⟨pb, 1, none⟩ = some x1) (c2 : w.cell? ⟨pb, 2, none⟩ = some x2) (c3 : w.cell? ⟨pb, 3, none⟩ = some x3) (c4 : w.cell? ⟨pb, 4, none⟩ = some x4) (ce : w.cell? ⟨eb, 0, none⟩ = some xe) (hz : ∀ o, w.frozen? ⟨pb, o, none⟩ = false) (hze : ∀ o, w.frozen? ⟨eb, o, none⟩ = false) :
    CallsD Try.prog 80 #[.pointer (some ⟨pb, 0, none⟩), .pointer (some ⟨eb, 0, none⟩)] (.panicking ({ v := .iface u pv, recovered := false } :: older)) w fun e u' w' =>
      e = .returned (.tuple #[]) ∧ u' = .panicking ({ v := .iface u pv, recovered := true } :: older) ∧ w' = (set5 w pb 0 (.int .i64 0) (.int .i64 0) (.float .f64 0) (.string ⟨#[]⟩) (.slice none 0 0)).setCell ⟨eb, 0, none⟩ (.int .i64 34) := by
  refine callsD_of_wpS Try.func80 rfl fun c₀ cs hu => ?_
  apply wpS_seq
  apply wpS_region
  simp [wpOpsS, go_sem, recoverD, hu, Try.ntmps80, Exit.thenS]
  refine wpS_cond (t := true) (by simp [Act.eval, Array.replicate]) ?_
  simp only [if_true]
  apply wpS_region
  simp [wpOpsS, go_sem, c0, c1, c2, c3, c4, ce, hz, hze, hne, bodyPostS, results, Try.results80]
  rfl
set_option maxRecDepth 100000 in
set_option maxHeartbeats 4000000 in
theorem nth_idle (pb eb : Nat) (w : World) :
    CallsD Try.prog 80 #[.pointer (some ⟨pb, 0, none⟩), .pointer (some ⟨eb, 0, none⟩)] .returning w fun e u' w' => e = .returned (.tuple #[]) ∧ u' = .returning ∧ w' = w := by
  refine callsD_of_wpS Try.func80 rfl fun c₀ cs hu => ?_
  apply wpS_seq
  apply wpS_region
  simp [wpOpsS, go_sem, recoverD, hu, Try.ntmps80, Exit.thenS]
  refine wpS_cond (t := false) (by simp [Act.eval, Array.replicate]) ?_
  simp only [Bool.false_eq_true, if_false]
  refine wpS_of_wp (wp_skip ?_)
  cases c₀
  simp_all [bodyPostS, results, Try.results80]
theorem bounds_own {P : Program} {w : World} {α : Type} (k : IntKind) (x y : Int) (code : BoundsCode) :
    ∃ s w', (boundsPanic k x y code : Sem α).run P w = .halt (.panic (boundsValue P (IntKind.i64.wrap x) y s code.toNat)) w' ∧ (w' = w ∨ w' = w.drew) := by
  unfold boundsPanic boundsValue
  split
  · refine ⟨_, _, by simp only [runtimePanic, goPanic, go_sem]; rfl, Or.inr rfl⟩
  · refine ⟨_, _, by simp only [runtimePanic, goPanic, go_sem]; rfl, Or.inl rfl⟩
theorem index_own {P : Program} {w : World} (t : TypeId) (a0 : Option Addr) (len cap : Nat) (k : IntKind) (i : Int) (h : P.underlying t = some (.slice (P.elem t))) (hnil : a0 = none → len = 0) (ho : i < 0 ∨ (len : Int) ≤ i) :
    ∃ s w', (Instr.indexAt t (.slice a0 len cap) (.int k i)).run P w = .halt (.panic (boundsValue P (IntKind.i64.wrap i) len s 0)) w' ∧ (w' = w ∨ w' = w.drew) := by
  cases a0 with
  | some a =>
    rw [run_indexAt_slice (h := h), if_neg (by omega)]
    exact bounds_own k i len .index
  | none =>
    obtain rfl := hnil rfl
    have e : (Instr.indexAt t (.slice none 0 cap) (.int k i)).run P w = (boundsPanic k i 0 .index).run P w := by
      simp [Instr.indexAt, run_underlying h, asIntOf]
    rw [e]
    exact bounds_own k i 0 .index
set_option maxRecDepth 100000 in
set_option maxHeartbeats 4000000 in
theorem nth_bad (p : Option Addr) (l c : Nat) (i : Int) (w : World) (hnil : p = none → l = 0) (hi : i < 0 ∨ (l : Int) ≤ i) : Calls Try.prog 50 #[.slice p l c, .int .i64 i] w fun e w' => e = .returned (.tuple #[.agg #[.int .i64 0, .int .i64 0, .float .f64 0, .string ⟨#[]⟩, .slice none 0 0], .int .i64 34]) ∧ Below w.heap.size w w' := by
  have hmf : ∀ (fn : Fn) (first cap : Array Value) (w : World), (Instr.makeFunc fn first cap).run Try.prog w = .ok (.func fn first cap) w := fun _ _ _ _ => rfl
  obtain ⟨s9, W9, hix, hw9⟩ := index_own (P := Try.prog) (w := ((w.alloc (.cells #[.int .i64 0, .int .i64 0, .float .f64 0, .string ⟨#[]⟩, .slice none 0 0] 27)).alloc (.cells #[.int .i64 0] 34))) 25 p l c .i64 i (by kernel_rfl) hnil hi
  have hal := bel_alloc (bel_alloc (Below.refl w.heap.size w) (.cells #[.int .i64 0, .int .i64 0, .float .f64 0, .string ⟨#[]⟩, .slice none 0 0] 27)) (.cells #[.int .i64 0] 34)
  have hrow0 := row_alloc_step (row_alloc w #[.int .i64 0, .int .i64 0, .float .f64 0, .string ⟨#[]⟩, .slice none 0 0] 27) (.cells #[.int .i64 0] 34)
  have hrow1 := row_alloc (w.alloc (.cells #[.int .i64 0, .int .i64 0, .float .f64 0, .string ⟨#[]⟩, .slice none 0 0] 27)) #[.int .i64 0] 34
  rw [World.size_alloc] at hrow1
  have H9 : Below w.heap.size w W9 ∧ W9.heap[w.heap.size]? = some (.cells #[.int .i64 0, .int .i64 0, .float .f64 0, .string ⟨#[]⟩, .slice none 0 0] 27 (0, 0)) ∧ W9.heap[w.heap.size + 1]? = some (.cells #[.int .i64 0] 34 (0, 0)) := by
    rcases hw9 with rfl | rfl
    · exact ⟨hal, hrow0, hrow1⟩
    · exact ⟨Below.drew hal, hrow0, hrow1⟩
  have H9 := Lib.hid H9
  clear hw9 hal hrow0 hrow1 hi
  unfold boundsValue at hix
  go_enter_defers Try.func50, Try.ntmps50
  go_wp2
  refine leaves_cons (f := 80) (args := #[.pointer (some ⟨w.heap.size, 0, none⟩), .pointer (some ⟨w.heap.size + 1, 0, none⟩)]) (by simp) (by simp [go_sem]) ?_
  have g0 := H9.out.2.1
  have g1 := H9.out.2.2
  have c0 := row_cell g0 0; have c1 := row_cell g0 1; have c2 := row_cell g0 2; have c3 := row_cell g0 3; have c4 := row_cell g0 4; have ce := row_cell g1 0
  simp only [List.getElem?_toArray, List.getElem?_cons_zero, List.getElem?_cons_succ] at c0 c1 c2 c3 c4 ce
  refine (nth_catch w.heap.size (w.heap.size + 1) _ _ _ _ _ _ _ _ [] W9 (by omega) c0 c1 c2 c3 c4 ce (fun o => row_frz g0 o) (fun o => row_frz g1 o)).mono ?_
  rintro e u' w'' ⟨rfl, rfl, rfl⟩
  have hz := row_lt g1
  have hb : Below w.heap.size w ((set5 W9 w.heap.size 0 (.int .i64 0) (.int .i64 0) (.float .f64 0) (.string ⟨#[]⟩) (.slice none 0 0)).setCell ⟨w.heap.size + 1, 0, none⟩ (.int .i64 34)) := bel_set (set5_below (g := w.heap.size) (o := 0) H9.out.1 (Nat.le_refl _) _ _ _ _ _) (by omega)
  simp only [Leaves]
  refine ⟨.tuple #[.agg #[.int .i64 0, .int .i64 0, .float .f64 0, .string ⟨#[]⟩, .slice none 0 0], .int .i64 34], ?_, rfl, hb⟩
  simp [results, Try.results50, go_sem, set5, World.cell?_setCell_same, World.cell?_setCell_other, c0, c1, c2, c3, c4, ce]
set_option maxRecDepth 100000 in
set_option maxHeartbeats 4000000 in
theorem nth_at (b off l c i : Nat) (K I : Int) (F : Nat) (Z : ByteArray) (q : Option Addr) (m d : Nat) (w : World) (hi : i < l) (hl : l ≤ 1000) (c0 : w.cell? ⟨b, off + i * 5, none⟩ = some (.int .i64 K)) (c1 : w.cell? ⟨b, off + i * 5 + 1, none⟩ = some (.int .i64 I)) (c2 : w.cell? ⟨b, off + i * 5 + 2, none⟩ = some (.float .f64 F)) (c3 : w.cell? ⟨b, off + i * 5 + 3, none⟩ = some (.string Z)) (c4 : w.cell? ⟨b, off + i * 5 + 4, none⟩ = some (.slice q m d)) : Calls Try.prog 50 #[.slice (some ⟨b, off, none⟩) l c, .int .i64 (i : Nat)] w fun e w' => e = .returned (.tuple #[.agg #[.int .i64 K, .int .i64 I, .float .f64 F, .string Z, .slice q m d], .int .i64 0]) ∧ Below w.heap.size w w' := by
  have hmf : ∀ (fn : Fn) (first cap : Array Value) (w : World), (Instr.makeFunc fn first cap).run Try.prog w = .ok (.func fn first cap) w := fun _ _ _ _ => rfl
  have hlt : b < w.heap.size := cell_lt c0
  have hne : w.heap.size ≠ b := by omega
  have hne1 : w.heap.size + 1 ≠ b := by omega
  have hlt1 : b < w.heap.size + 1 := by omega
  have hi0 : (0 : Int) ≤ (i : Int) := by omega
  have hi1 : (i : Int) < (l : Int) := by omega
  have HB := Lib.hid (bel_alloc (bel_alloc (Below.refl w.heap.size w) (.cells #[.int .i64 K, .int .i64 I, .float .f64 F, .string Z, .slice q m d] 27)) (.cells #[.int .i64 0] 34))
  go_enter_defers Try.func50, Try.ntmps50
  go_wp2
  refine leaves_cons (f := 80) (args := #[.pointer (some ⟨w.heap.size, 0, none⟩), .pointer (some ⟨w.heap.size + 1, 0, none⟩)]) (by simp) (by simp [go_sem]) ?_
  refine (nth_idle w.heap.size (w.heap.size + 1) _).mono ?_
  rintro e u' w'' ⟨rfl, rfl, rfl⟩
  simp only [Leaves]
  refine ⟨.tuple #[.agg #[.int .i64 K, .int .i64 I, .float .f64 F, .string Z, .slice q m d], .int .i64 0], ?_, rfl, HB.out⟩
  simp [results, Try.results50, go_sem, set5, World.cell?_setCell_same, World.cell?_setCell_other]
end Num
end Go.Proofs.Ytodjnhhnjncgdaa
