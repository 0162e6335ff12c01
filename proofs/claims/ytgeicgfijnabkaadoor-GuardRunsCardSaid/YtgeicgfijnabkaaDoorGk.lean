/-
  Package guard: Run.
-/
import Derived.Test.YtgeicgfijnabkaaDoorGj
namespace Go.Proofs.YtgeicgfijnabkaaDoor
open Go.RowKit
namespace Num
open Ints
set_option linter.unusedSimpArgs false
set_option linter.unusedVariables false
set_option maxRecDepth 100000 in
set_option maxHeartbeats 4000000 in
theorem run_pan (fn : Fn) (cap : Array Value) (l : List Nat) (Q : World → Prop) (w : World) (hl : ∀ k ∈ l, k < w.heap.size) (hQ : Hid (Stab w.heap.size Q))
    (HC : Hid (∀ W, Below w.heap.size w W → W.heap[w.heap.size]? = some (.cells #[.func fn #[] cap] 32 (0, 0)) → W.heap[(w.heap.size + 1 + 1)]? = some (.cells #[.int .i64 0, .int .i64 0, .float .f64 0, .string ⟨#[]⟩, .slice none 0 0] 25 (0, 0)) → W.heap[(w.heap.size + 1 + 1 + 1)]? = some (.cells #[.int .i64 0] 29 (0, 0)) → Calls Tryd.prog 26 #[.pointer (some ⟨w.heap.size, 0, none⟩), .pointer (some ⟨(w.heap.size + 1 + 1), 0, none⟩), .pointer (some ⟨(w.heap.size + 1 + 1 + 1), 0, none⟩)] W fun e w' => (∃ u pv, e = .panicked [{ v := .iface u pv, recovered := false }] ∧ True) ∧ Kept l W w' ∧ Q w')) :
    Calls Tryd.prog 9 #[.func fn #[] cap] w fun e w' => e = .returned (.tuple #[.agg #[.int .i64 0, .int .i64 0, .float .f64 0, .string ⟨#[]⟩, .slice none 0 0], .int .i64 34]) ∧ Kept l w w' ∧ Q w' := by
  have HR0 := Lib.hid (row_alloc_step (row_alloc_step (row_alloc_step (row_alloc w #[.func fn #[] cap] 32) (.cells #[.int .i64 0, .int .i64 0, .float .f64 0, .string ⟨#[]⟩, .slice none 0 0] 25)) (.cells #[.int .i64 0, .int .i64 0, .float .f64 0, .string ⟨#[]⟩, .slice none 0 0] 25)) (.cells #[.int .i64 0] 29))
  have hr1 := row_alloc_step (row_alloc_step (row_alloc (w.alloc (.cells #[.func fn #[] cap] 32)) #[.int .i64 0, .int .i64 0, .float .f64 0, .string ⟨#[]⟩, .slice none 0 0] 25) (.cells #[.int .i64 0, .int .i64 0, .float .f64 0, .string ⟨#[]⟩, .slice none 0 0] 25)) (.cells #[.int .i64 0] 29)
  have hr2 := row_alloc_step (row_alloc ((w.alloc (.cells #[.func fn #[] cap] 32)).alloc (.cells #[.int .i64 0, .int .i64 0, .float .f64 0, .string ⟨#[]⟩, .slice none 0 0] 25)) #[.int .i64 0, .int .i64 0, .float .f64 0, .string ⟨#[]⟩, .slice none 0 0] 25) (.cells #[.int .i64 0] 29)
  have hr3 := row_alloc (((w.alloc (.cells #[.func fn #[] cap] 32)).alloc (.cells #[.int .i64 0, .int .i64 0, .float .f64 0, .string ⟨#[]⟩, .slice none 0 0] 25)).alloc (.cells #[.int .i64 0, .int .i64 0, .float .f64 0, .string ⟨#[]⟩, .slice none 0 0] 25)) #[.int .i64 0] 29
  simp only [World.size_alloc] at hr1 hr2 hr3
  have HR1 := Lib.hid hr1
  have HR2 := Lib.hid hr2
  have HR3 := Lib.hid hr3
  have HB := Lib.hid (bel_alloc (bel_alloc (bel_alloc (bel_alloc (Below.refl w.heap.size w) (.cells #[.func fn #[] cap] 32)) (.cells #[.int .i64 0, .int .i64 0, .float .f64 0, .string ⟨#[]⟩, .slice none 0 0] 25)) (.cells #[.int .i64 0, .int .i64 0, .float .f64 0, .string ⟨#[]⟩, .slice none 0 0] 25)) (.cells #[.int .i64 0] 29))
  have HSZ := Lib.hid (show ((((w.alloc (.cells #[.func fn #[] cap] 32)).alloc (.cells #[.int .i64 0, .int .i64 0, .float .f64 0, .string ⟨#[]⟩, .slice none 0 0] 25)).alloc (.cells #[.int .i64 0, .int .i64 0, .float .f64 0, .string ⟨#[]⟩, .slice none 0 0] 25)).alloc (.cells #[.int .i64 0] 29)).heap.size = w.heap.size + 1 + 1 + 1 + 1 by simp only [World.size_alloc])
  clear hr1 hr2 hr3
  have hmf : ∀ (fn : Fn) (first cap : Array Value) (w : World), (Instr.makeFunc fn first cap).run Tryd.prog w = .ok (.func fn first cap) w := fun _ _ _ _ => rfl
  go_enter Tryd.func9, Tryd.ntmps9
  go_wp2_with fail
  go_at_call 25
  refine (caught_pan_run w.heap.size (w.heap.size + 1 + 1) (w.heap.size + 1 + 1 + 1) l (fun _ _ => True) Q _ (fun k hk => by have := hl k hk; rw [HSZ.out]; omega) (Lib.hid (stab_mono hQ.out (by rw [HSZ.out]; omega))) (Lib.hid (fun W hb => ?_))).mono ?_
  · exact HC.out W (HB.out.trans (hb.mono (by rw [HSZ.out]; omega))) (row_keep hb HR0.out (by rw [HSZ.out]; omega)) (row_keep hb HR2.out (by rw [HSZ.out]; omega)) (row_keep hb HR3.out (by rw [HSZ.out]; omega))
  · rintro e w5 ⟨⟨u, pv, rfl, _⟩, hk5, hq5⟩
    have z5 := kept_row hk5 HR1.out (fun hm => by have := hl _ hm; omega)
    have HK := Lib.hid (kept_trans (kept_below HB.out) hk5)
    have HQ := Lib.hid hq5
    have d0 := row_cell z5 0; have d1 := row_cell z5 1; have d2 := row_cell z5 2; have d3 := row_cell z5 3; have d4 := row_cell z5 4
    simp only [List.getElem?_toArray, List.getElem?_cons_zero, List.getElem?_cons_succ] at d0 d1 d2 d3 d4
    have df := fun o => row_frz z5 o
    have lz := row_lt z5
    clear hk5 hq5 z5
    go_wp2
    exact bodyPost_ret (v := .tuple #[.agg #[.int .i64 0, .int .i64 0, .float .f64 0, .string ⟨#[]⟩, .slice none 0 0], .int .i64 34]) (by simp [results, Tryd.results9, go_sem, World.cell?_setCell_same, World.cell?_setCell_other, d0, d1, d2, d3, d4]) rfl ⟨rfl, kept_set5 (b := (w.heap.size + 1)) (o := 0) _ _ _ _ _ HK.out (Or.inr (Nat.le_succ _)), set5_stab (g := (w.heap.size + 1)) (o := 0) hQ.out (Nat.le_succ _) _ _ _ _ _ HQ.out⟩
set_option maxRecDepth 100000 in
set_option maxHeartbeats 4000000 in
theorem run_pan_nil (l : List Nat) (Q : World → Prop) (w : World) (hl : ∀ k ∈ l, k < w.heap.size) (hQ : Hid (Stab w.heap.size Q))
    (HC : Hid (∀ W, Below w.heap.size w W → W.heap[w.heap.size]? = some (.cells #[.nilFunc] 32 (0, 0)) → W.heap[(w.heap.size + 1 + 1)]? = some (.cells #[.int .i64 0, .int .i64 0, .float .f64 0, .string ⟨#[]⟩, .slice none 0 0] 25 (0, 0)) → W.heap[(w.heap.size + 1 + 1 + 1)]? = some (.cells #[.int .i64 0] 29 (0, 0)) → Calls Tryd.prog 26 #[.pointer (some ⟨w.heap.size, 0, none⟩), .pointer (some ⟨(w.heap.size + 1 + 1), 0, none⟩), .pointer (some ⟨(w.heap.size + 1 + 1 + 1), 0, none⟩)] W fun e w' => (∃ u pv, e = .panicked [{ v := .iface u pv, recovered := false }] ∧ True) ∧ Kept l W w' ∧ Q w')) :
    Calls Tryd.prog 9 #[.nilFunc] w fun e w' => e = .returned (.tuple #[.agg #[.int .i64 0, .int .i64 0, .float .f64 0, .string ⟨#[]⟩, .slice none 0 0], .int .i64 34]) ∧ Kept l w w' ∧ Q w' := by
  have HR0 := Lib.hid (row_alloc_step (row_alloc_step (row_alloc_step (row_alloc w #[.nilFunc] 32) (.cells #[.int .i64 0, .int .i64 0, .float .f64 0, .string ⟨#[]⟩, .slice none 0 0] 25)) (.cells #[.int .i64 0, .int .i64 0, .float .f64 0, .string ⟨#[]⟩, .slice none 0 0] 25)) (.cells #[.int .i64 0] 29))
  have hr1 := row_alloc_step (row_alloc_step (row_alloc (w.alloc (.cells #[.nilFunc] 32)) #[.int .i64 0, .int .i64 0, .float .f64 0, .string ⟨#[]⟩, .slice none 0 0] 25) (.cells #[.int .i64 0, .int .i64 0, .float .f64 0, .string ⟨#[]⟩, .slice none 0 0] 25)) (.cells #[.int .i64 0] 29)
  have hr2 := row_alloc_step (row_alloc ((w.alloc (.cells #[.nilFunc] 32)).alloc (.cells #[.int .i64 0, .int .i64 0, .float .f64 0, .string ⟨#[]⟩, .slice none 0 0] 25)) #[.int .i64 0, .int .i64 0, .float .f64 0, .string ⟨#[]⟩, .slice none 0 0] 25) (.cells #[.int .i64 0] 29)
  have hr3 := row_alloc (((w.alloc (.cells #[.nilFunc] 32)).alloc (.cells #[.int .i64 0, .int .i64 0, .float .f64 0, .string ⟨#[]⟩, .slice none 0 0] 25)).alloc (.cells #[.int .i64 0, .int .i64 0, .float .f64 0, .string ⟨#[]⟩, .slice none 0 0] 25)) #[.int .i64 0] 29
  simp only [World.size_alloc] at hr1 hr2 hr3
  have HR1 := Lib.hid hr1
  have HR2 := Lib.hid hr2
  have HR3 := Lib.hid hr3
  have HB := Lib.hid (bel_alloc (bel_alloc (bel_alloc (bel_alloc (Below.refl w.heap.size w) (.cells #[.nilFunc] 32)) (.cells #[.int .i64 0, .int .i64 0, .float .f64 0, .string ⟨#[]⟩, .slice none 0 0] 25)) (.cells #[.int .i64 0, .int .i64 0, .float .f64 0, .string ⟨#[]⟩, .slice none 0 0] 25)) (.cells #[.int .i64 0] 29))
  have HSZ := Lib.hid (show ((((w.alloc (.cells #[.nilFunc] 32)).alloc (.cells #[.int .i64 0, .int .i64 0, .float .f64 0, .string ⟨#[]⟩, .slice none 0 0] 25)).alloc (.cells #[.int .i64 0, .int .i64 0, .float .f64 0, .string ⟨#[]⟩, .slice none 0 0] 25)).alloc (.cells #[.int .i64 0] 29)).heap.size = w.heap.size + 1 + 1 + 1 + 1 by simp only [World.size_alloc])
  clear hr1 hr2 hr3
  have hmf : ∀ (fn : Fn) (first cap : Array Value) (w : World), (Instr.makeFunc fn first cap).run Tryd.prog w = .ok (.func fn first cap) w := fun _ _ _ _ => rfl
  go_enter Tryd.func9, Tryd.ntmps9
  go_wp2_with fail
  go_at_call 25
  refine (caught_pan_run w.heap.size (w.heap.size + 1 + 1) (w.heap.size + 1 + 1 + 1) l (fun _ _ => True) Q _ (fun k hk => by have := hl k hk; rw [HSZ.out]; omega) (Lib.hid (stab_mono hQ.out (by rw [HSZ.out]; omega))) (Lib.hid (fun W hb => ?_))).mono ?_
  · exact HC.out W (HB.out.trans (hb.mono (by rw [HSZ.out]; omega))) (row_keep hb HR0.out (by rw [HSZ.out]; omega)) (row_keep hb HR2.out (by rw [HSZ.out]; omega)) (row_keep hb HR3.out (by rw [HSZ.out]; omega))
  · rintro e w5 ⟨⟨u, pv, rfl, _⟩, hk5, hq5⟩
    have z5 := kept_row hk5 HR1.out (fun hm => by have := hl _ hm; omega)
    have HK := Lib.hid (kept_trans (kept_below HB.out) hk5)
    have HQ := Lib.hid hq5
    have d0 := row_cell z5 0; have d1 := row_cell z5 1; have d2 := row_cell z5 2; have d3 := row_cell z5 3; have d4 := row_cell z5 4
    simp only [List.getElem?_toArray, List.getElem?_cons_zero, List.getElem?_cons_succ] at d0 d1 d2 d3 d4
    have df := fun o => row_frz z5 o
    have lz := row_lt z5
    clear hk5 hq5 z5
    go_wp2
    exact bodyPost_ret (v := .tuple #[.agg #[.int .i64 0, .int .i64 0, .float .f64 0, .string ⟨#[]⟩, .slice none 0 0], .int .i64 34]) (by simp [results, Tryd.results9, go_sem, World.cell?_setCell_same, World.cell?_setCell_other, d0, d1, d2, d3, d4]) rfl ⟨rfl, kept_set5 (b := (w.heap.size + 1)) (o := 0) _ _ _ _ _ HK.out (Or.inr (Nat.le_succ _)), set5_stab (g := (w.heap.size + 1)) (o := 0) hQ.out (Nat.le_succ _) _ _ _ _ _ HQ.out⟩
set_option maxRecDepth 100000 in
set_option maxHeartbeats 4000000 in
theorem run_err (fn : Fn) (cap : Array Value) (l : List Nat) (Q : World → Prop) (K I : Int) (F : Nat) (S : ByteArray) (q : Option Addr) (m d : Nat) (ev : Int) (w : World) (hl : ∀ k ∈ l, k < w.heap.size) (hQ : Hid (Stab w.heap.size Q)) (hev : (ev != 0) = true)
    (HC : Hid (∀ W, Below w.heap.size w W → W.heap[w.heap.size]? = some (.cells #[.func fn #[] cap] 32 (0, 0)) → W.heap[(w.heap.size + 1 + 1)]? = some (.cells #[.int .i64 0, .int .i64 0, .float .f64 0, .string ⟨#[]⟩, .slice none 0 0] 25 (0, 0)) → W.heap[(w.heap.size + 1 + 1 + 1)]? = some (.cells #[.int .i64 0] 29 (0, 0)) → Calls Tryd.prog 26 #[.pointer (some ⟨w.heap.size, 0, none⟩), .pointer (some ⟨(w.heap.size + 1 + 1), 0, none⟩), .pointer (some ⟨(w.heap.size + 1 + 1 + 1), 0, none⟩)] W fun e w' => ∃ w5, e = .returned (.tuple #[]) ∧ Kept l W w5 ∧ Q w5 ∧ w' = (set5 w5 (w.heap.size + 1 + 1) 0 (.int .i64 K) (.int .i64 I) (.float .f64 F) (.string S) (.slice q m d)).setCell ⟨(w.heap.size + 1 + 1 + 1), 0, none⟩ (.int .i64 ev))) :
    Calls Tryd.prog 9 #[.func fn #[] cap] w fun e w' => e = .returned (.tuple #[.agg #[.int .i64 0, .int .i64 0, .float .f64 0, .string ⟨#[]⟩, .slice none 0 0], .int .i64 ev]) ∧ Kept l w w' ∧ Q w' := by
  have HR0 := Lib.hid (row_alloc_step (row_alloc_step (row_alloc_step (row_alloc w #[.func fn #[] cap] 32) (.cells #[.int .i64 0, .int .i64 0, .float .f64 0, .string ⟨#[]⟩, .slice none 0 0] 25)) (.cells #[.int .i64 0, .int .i64 0, .float .f64 0, .string ⟨#[]⟩, .slice none 0 0] 25)) (.cells #[.int .i64 0] 29))
  have hr1 := row_alloc_step (row_alloc_step (row_alloc (w.alloc (.cells #[.func fn #[] cap] 32)) #[.int .i64 0, .int .i64 0, .float .f64 0, .string ⟨#[]⟩, .slice none 0 0] 25) (.cells #[.int .i64 0, .int .i64 0, .float .f64 0, .string ⟨#[]⟩, .slice none 0 0] 25)) (.cells #[.int .i64 0] 29)
  have hr2 := row_alloc_step (row_alloc ((w.alloc (.cells #[.func fn #[] cap] 32)).alloc (.cells #[.int .i64 0, .int .i64 0, .float .f64 0, .string ⟨#[]⟩, .slice none 0 0] 25)) #[.int .i64 0, .int .i64 0, .float .f64 0, .string ⟨#[]⟩, .slice none 0 0] 25) (.cells #[.int .i64 0] 29)
  have hr3 := row_alloc (((w.alloc (.cells #[.func fn #[] cap] 32)).alloc (.cells #[.int .i64 0, .int .i64 0, .float .f64 0, .string ⟨#[]⟩, .slice none 0 0] 25)).alloc (.cells #[.int .i64 0, .int .i64 0, .float .f64 0, .string ⟨#[]⟩, .slice none 0 0] 25)) #[.int .i64 0] 29
  simp only [World.size_alloc] at hr1 hr2 hr3
  have HR1 := Lib.hid hr1
  have HR2 := Lib.hid hr2
  have HR3 := Lib.hid hr3
  have HB := Lib.hid (bel_alloc (bel_alloc (bel_alloc (bel_alloc (Below.refl w.heap.size w) (.cells #[.func fn #[] cap] 32)) (.cells #[.int .i64 0, .int .i64 0, .float .f64 0, .string ⟨#[]⟩, .slice none 0 0] 25)) (.cells #[.int .i64 0, .int .i64 0, .float .f64 0, .string ⟨#[]⟩, .slice none 0 0] 25)) (.cells #[.int .i64 0] 29))
  have HSZ := Lib.hid (show ((((w.alloc (.cells #[.func fn #[] cap] 32)).alloc (.cells #[.int .i64 0, .int .i64 0, .float .f64 0, .string ⟨#[]⟩, .slice none 0 0] 25)).alloc (.cells #[.int .i64 0, .int .i64 0, .float .f64 0, .string ⟨#[]⟩, .slice none 0 0] 25)).alloc (.cells #[.int .i64 0] 29)).heap.size = w.heap.size + 1 + 1 + 1 + 1 by simp only [World.size_alloc])
  clear hr1 hr2 hr3
  have hmf : ∀ (fn : Fn) (first cap : Array Value) (w : World), (Instr.makeFunc fn first cap).run Tryd.prog w = .ok (.func fn first cap) w := fun _ _ _ _ => rfl
  go_enter Tryd.func9, Tryd.ntmps9
  go_wp2_with fail
  go_at_call 25
  refine (caught_ret_run w.heap.size (w.heap.size + 1 + 1) (w.heap.size + 1 + 1 + 1) ((w.heap.size + 1 + 1) :: (w.heap.size + 1 + 1 + 1) :: l) (fun W => (W.cell? ⟨(w.heap.size + 1 + 1), 0, none⟩ = some (.int .i64 K) ∧ W.cell? ⟨(w.heap.size + 1 + 1), 1, none⟩ = some (.int .i64 I) ∧ W.cell? ⟨(w.heap.size + 1 + 1), 2, none⟩ = some (.float .f64 F) ∧ W.cell? ⟨(w.heap.size + 1 + 1), 3, none⟩ = some (.string S) ∧ W.cell? ⟨(w.heap.size + 1 + 1), 4, none⟩ = some (.slice q m d) ∧ W.cell? ⟨(w.heap.size + 1 + 1 + 1), 0, none⟩ = some (.int .i64 ev)) ∧ Q W) _ (fun k hk => by
      rw [HSZ.out]
      simp only [List.mem_cons] at hk
      rcases hk with rfl | rfl | hk
      · omega
      · omega
      · have := hl k hk; omega) (Lib.hid (stab_and (stab_and (stab_cell (by rw [HSZ.out]; omega)) (stab_and (stab_cell (by rw [HSZ.out]; omega)) (stab_and (stab_cell (by rw [HSZ.out]; omega)) (stab_and (stab_cell (by rw [HSZ.out]; omega)) (stab_and (stab_cell (by rw [HSZ.out]; omega)) (stab_cell (by rw [HSZ.out]; omega))))))) (stab_mono hQ.out (by rw [HSZ.out]; omega)))) (Lib.hid (fun W hb => ?_))).mono ?_
  · have r2 := row_keep hb HR2.out (by rw [HSZ.out]; omega)
    have r3 := row_keep hb HR3.out (by rw [HSZ.out]; omega)
    refine (HC.out W (HB.out.trans (hb.mono (by rw [HSZ.out]; omega))) (row_keep hb HR0.out (by rw [HSZ.out]; omega)) (row_keep hb HR2.out (by rw [HSZ.out]; omega)) (row_keep hb HR3.out (by rw [HSZ.out]; omega))).mono ?_
    rintro e w' ⟨w5, rfl, hk, hq, rfl⟩
    have hws : w.heap.size + 1 + 1 + 1 + 1 ≤ W.heap.size := by have := hb.size; rw [HSZ.out] at this; omega
    have k2 := kept_row hk r2 (fun hm => by have := hl _ hm; omega)
    have k3 := kept_row hk r3 (fun hm => by have := hl _ hm; omega)
    have d0 := row_cell k2 0; have d1 := row_cell k2 1; have d2 := row_cell k2 2; have d3 := row_cell k2 3; have d4 := row_cell k2 4; have de := row_cell k3 0
    simp only [List.getElem?_toArray, List.getElem?_cons_zero, List.getElem?_cons_succ] at d0 d1 d2 d3 d4 de
    obtain ⟨s0, s1, s2, s3, s4⟩ := set5_same (w := w5) (g := (w.heap.size + 1 + 1)) (o := 0) (.int .i64 K) (.int .i64 I) (.float .f64 F) (.string S) (.slice q m d) d0 d1 d2 d3 d4
    refine ⟨rfl, kept_set (kept_set5 _ _ _ _ _ (kept_sub hk (fun k hk => Or.inl (List.mem_cons_of_mem _ (List.mem_cons_of_mem _ hk)))) (Or.inl (List.mem_cons_self ..))) (Or.inl (List.mem_cons_of_mem _ (List.mem_cons_self ..))), ⟨?_, ?_, ?_, ?_, ?_, ?_⟩, hQ.out.1 _ _ _ _ (by omega) (set5_stab hQ.out (by omega) _ _ _ _ _ hq)⟩
    · exact (cell_set_other (by omega)).trans s0
    · exact (cell_set_other (by omega)).trans s1
    · exact (cell_set_other (by omega)).trans s2
    · exact (cell_set_other (by omega)).trans s3
    · exact (cell_set_other (by omega)).trans s4
    · refine cell_set_same (x := .int .i64 0) ?_
      exact (World.cell?_of_block (set5_other (by show w.heap.size + 1 + 1 + 1 ≠ w.heap.size + 1 + 1; omega))).trans de
  · rintro e w5 ⟨rfl, hk5, ⟨v0, v1, v2, v3, v4, ve⟩, hq5⟩
    have z5 := kept_row hk5 HR1.out (fun hm => by
      simp only [List.mem_cons] at hm
      rcases hm with hm | hm | hm
      · omega
      · omega
      · have := hl _ hm; omega)
    have hkw := kept_sub (l' := l) (kept_trans (kept_below HB.out) hk5) (fun k hk => by
      simp only [List.mem_cons] at hk
      rcases hk with rfl | rfl | hk
      · exact Or.inr (by omega)
      · exact Or.inr (by omega)
      · exact Or.inl hk)
    have HK := Lib.hid hkw
    have HQ := Lib.hid hq5
    have HZ5 := Lib.hid z5
    have d0 := row_cell z5 0; have d1 := row_cell z5 1; have d2 := row_cell z5 2; have d3 := row_cell z5 3; have d4 := row_cell z5 4
    simp only [List.getElem?_toArray, List.getElem?_cons_zero, List.getElem?_cons_succ] at d0 d1 d2 d3 d4
    have df := fun o => row_frz z5 o
    have lz := row_lt z5
    clear hk5 hq5 z5 hkw
    go_wp2
    go_region
    all_goals (try go_wp2)
    all_goals first
      | exact bodyPost_ret (v := .tuple #[.agg #[.int .i64 0, .int .i64 0, .float .f64 0, .string ⟨#[]⟩, .slice none 0 0], .int .i64 ev]) (by simp [results, Tryd.results9, go_sem, World.cell?_setCell_same, World.cell?_setCell_other, d0, d1, d2, d3, d4]) rfl ⟨rfl, kept_step (kept_set5 (b := (w.heap.size + 1)) (o := 0) _ _ _ _ _ HK.out (Or.inr (Nat.le_succ _))) (Below.drew (Below.refl _ _)), hQ.out.2 _ _ (Below.drew (Below.refl _ _)) (set5_stab (g := (w.heap.size + 1)) (o := 0) hQ.out (Nat.le_succ _) _ _ _ _ _ HQ.out)⟩
      | exact bodyPost_ret (v := .tuple #[.agg #[.int .i64 0, .int .i64 0, .float .f64 0, .string ⟨#[]⟩, .slice none 0 0], .int .i64 ev]) (by simp [results, Tryd.results9, go_sem, World.cell?_setCell_same, World.cell?_setCell_other, d0, d1, d2, d3, d4]) rfl ⟨rfl, kept_set5 (b := (w.heap.size + 1)) (o := 0) _ _ _ _ _ HK.out (Or.inr (Nat.le_succ _)), set5_stab (g := (w.heap.size + 1)) (o := 0) hQ.out (Nat.le_succ _) _ _ _ _ _ HQ.out⟩
set_option maxRecDepth 100000 in
set_option maxHeartbeats 4000000 in
theorem run_ok (fn : Fn) (cap : Array Value) (l : List Nat) (Q : World → Prop) (K I : Int) (F : Nat) (S : ByteArray) (q : Option Addr) (m d : Nat) (n : Nat) (T : VT n) (w : World) (hl : ∀ k ∈ l, k < w.heap.size) (hQ : Hid (Stab w.heap.size Q)) (HT : Hid (∀ W, Kept l w W → Rep W n (.agg #[.int .i64 K, .int .i64 I, .float .f64 F, .string S, .slice q m d]) T)) (hbk : wideT n T)
    (HC : Hid (∀ W, Below w.heap.size w W → W.heap[w.heap.size]? = some (.cells #[.func fn #[] cap] 32 (0, 0)) → W.heap[(w.heap.size + 1 + 1)]? = some (.cells #[.int .i64 0, .int .i64 0, .float .f64 0, .string ⟨#[]⟩, .slice none 0 0] 25 (0, 0)) → W.heap[(w.heap.size + 1 + 1 + 1)]? = some (.cells #[.int .i64 0] 29 (0, 0)) → Calls Tryd.prog 26 #[.pointer (some ⟨w.heap.size, 0, none⟩), .pointer (some ⟨(w.heap.size + 1 + 1), 0, none⟩), .pointer (some ⟨(w.heap.size + 1 + 1 + 1), 0, none⟩)] W fun e w' => ∃ w5, e = .returned (.tuple #[]) ∧ Kept l W w5 ∧ Q w5 ∧ w' = (set5 w5 (w.heap.size + 1 + 1) 0 (.int .i64 K) (.int .i64 I) (.float .f64 F) (.string S) (.slice q m d)).setCell ⟨(w.heap.size + 1 + 1 + 1), 0, none⟩ (.int .i64 0))) :
    Calls Tryd.prog 9 #[.func fn #[] cap] w fun e w' => ∃ v' T', e = .returned (.tuple #[v', .int .i64 0]) ∧ Kept l w w' ∧ Q w' ∧ Rep w' n v' T' ∧ (T' = T ∨ T' = gcT n T) := by
  have HR0 := Lib.hid (row_alloc_step (row_alloc_step (row_alloc_step (row_alloc w #[.func fn #[] cap] 32) (.cells #[.int .i64 0, .int .i64 0, .float .f64 0, .string ⟨#[]⟩, .slice none 0 0] 25)) (.cells #[.int .i64 0, .int .i64 0, .float .f64 0, .string ⟨#[]⟩, .slice none 0 0] 25)) (.cells #[.int .i64 0] 29))
  have hr1 := row_alloc_step (row_alloc_step (row_alloc (w.alloc (.cells #[.func fn #[] cap] 32)) #[.int .i64 0, .int .i64 0, .float .f64 0, .string ⟨#[]⟩, .slice none 0 0] 25) (.cells #[.int .i64 0, .int .i64 0, .float .f64 0, .string ⟨#[]⟩, .slice none 0 0] 25)) (.cells #[.int .i64 0] 29)
  have hr2 := row_alloc_step (row_alloc ((w.alloc (.cells #[.func fn #[] cap] 32)).alloc (.cells #[.int .i64 0, .int .i64 0, .float .f64 0, .string ⟨#[]⟩, .slice none 0 0] 25)) #[.int .i64 0, .int .i64 0, .float .f64 0, .string ⟨#[]⟩, .slice none 0 0] 25) (.cells #[.int .i64 0] 29)
  have hr3 := row_alloc (((w.alloc (.cells #[.func fn #[] cap] 32)).alloc (.cells #[.int .i64 0, .int .i64 0, .float .f64 0, .string ⟨#[]⟩, .slice none 0 0] 25)).alloc (.cells #[.int .i64 0, .int .i64 0, .float .f64 0, .string ⟨#[]⟩, .slice none 0 0] 25)) #[.int .i64 0] 29
  simp only [World.size_alloc] at hr1 hr2 hr3
  have HR1 := Lib.hid hr1
  have HR2 := Lib.hid hr2
  have HR3 := Lib.hid hr3
  have HB := Lib.hid (bel_alloc (bel_alloc (bel_alloc (bel_alloc (Below.refl w.heap.size w) (.cells #[.func fn #[] cap] 32)) (.cells #[.int .i64 0, .int .i64 0, .float .f64 0, .string ⟨#[]⟩, .slice none 0 0] 25)) (.cells #[.int .i64 0, .int .i64 0, .float .f64 0, .string ⟨#[]⟩, .slice none 0 0] 25)) (.cells #[.int .i64 0] 29))
  have HSZ := Lib.hid (show ((((w.alloc (.cells #[.func fn #[] cap] 32)).alloc (.cells #[.int .i64 0, .int .i64 0, .float .f64 0, .string ⟨#[]⟩, .slice none 0 0] 25)).alloc (.cells #[.int .i64 0, .int .i64 0, .float .f64 0, .string ⟨#[]⟩, .slice none 0 0] 25)).alloc (.cells #[.int .i64 0] 29)).heap.size = w.heap.size + 1 + 1 + 1 + 1 by simp only [World.size_alloc])
  clear hr1 hr2 hr3
  have hmf : ∀ (fn : Fn) (first cap : Array Value) (w : World), (Instr.makeFunc fn first cap).run Tryd.prog w = .ok (.func fn first cap) w := fun _ _ _ _ => rfl
  go_enter Tryd.func9, Tryd.ntmps9
  go_wp2_with fail
  go_at_call 25
  refine (caught_ret_run w.heap.size (w.heap.size + 1 + 1) (w.heap.size + 1 + 1 + 1) ((w.heap.size + 1 + 1) :: (w.heap.size + 1 + 1 + 1) :: l) (fun W => (W.cell? ⟨(w.heap.size + 1 + 1), 0, none⟩ = some (.int .i64 K) ∧ W.cell? ⟨(w.heap.size + 1 + 1), 1, none⟩ = some (.int .i64 I) ∧ W.cell? ⟨(w.heap.size + 1 + 1), 2, none⟩ = some (.float .f64 F) ∧ W.cell? ⟨(w.heap.size + 1 + 1), 3, none⟩ = some (.string S) ∧ W.cell? ⟨(w.heap.size + 1 + 1), 4, none⟩ = some (.slice q m d) ∧ W.cell? ⟨(w.heap.size + 1 + 1 + 1), 0, none⟩ = some (.int .i64 0)) ∧ Q W) _ (fun k hk => by
      rw [HSZ.out]
      simp only [List.mem_cons] at hk
      rcases hk with rfl | rfl | hk
      · omega
      · omega
      · have := hl k hk; omega) (Lib.hid (stab_and (stab_and (stab_cell (by rw [HSZ.out]; omega)) (stab_and (stab_cell (by rw [HSZ.out]; omega)) (stab_and (stab_cell (by rw [HSZ.out]; omega)) (stab_and (stab_cell (by rw [HSZ.out]; omega)) (stab_and (stab_cell (by rw [HSZ.out]; omega)) (stab_cell (by rw [HSZ.out]; omega))))))) (stab_mono hQ.out (by rw [HSZ.out]; omega)))) (Lib.hid (fun W hb => ?_))).mono ?_
  · have r2 := row_keep hb HR2.out (by rw [HSZ.out]; omega)
    have r3 := row_keep hb HR3.out (by rw [HSZ.out]; omega)
    refine (HC.out W (HB.out.trans (hb.mono (by rw [HSZ.out]; omega))) (row_keep hb HR0.out (by rw [HSZ.out]; omega)) (row_keep hb HR2.out (by rw [HSZ.out]; omega)) (row_keep hb HR3.out (by rw [HSZ.out]; omega))).mono ?_
    rintro e w' ⟨w5, rfl, hk, hq, rfl⟩
    have hws : w.heap.size + 1 + 1 + 1 + 1 ≤ W.heap.size := by have := hb.size; rw [HSZ.out] at this; omega
    have k2 := kept_row hk r2 (fun hm => by have := hl _ hm; omega)
    have k3 := kept_row hk r3 (fun hm => by have := hl _ hm; omega)
    have d0 := row_cell k2 0; have d1 := row_cell k2 1; have d2 := row_cell k2 2; have d3 := row_cell k2 3; have d4 := row_cell k2 4; have de := row_cell k3 0
    simp only [List.getElem?_toArray, List.getElem?_cons_zero, List.getElem?_cons_succ] at d0 d1 d2 d3 d4 de
    obtain ⟨s0, s1, s2, s3, s4⟩ := set5_same (w := w5) (g := (w.heap.size + 1 + 1)) (o := 0) (.int .i64 K) (.int .i64 I) (.float .f64 F) (.string S) (.slice q m d) d0 d1 d2 d3 d4
    refine ⟨rfl, kept_set (kept_set5 _ _ _ _ _ (kept_sub hk (fun k hk => Or.inl (List.mem_cons_of_mem _ (List.mem_cons_of_mem _ hk)))) (Or.inl (List.mem_cons_self ..))) (Or.inl (List.mem_cons_of_mem _ (List.mem_cons_self ..))), ⟨?_, ?_, ?_, ?_, ?_, ?_⟩, hQ.out.1 _ _ _ _ (by omega) (set5_stab hQ.out (by omega) _ _ _ _ _ hq)⟩
    · exact (cell_set_other (by omega)).trans s0
    · exact (cell_set_other (by omega)).trans s1
    · exact (cell_set_other (by omega)).trans s2
    · exact (cell_set_other (by omega)).trans s3
    · exact (cell_set_other (by omega)).trans s4
    · refine cell_set_same (x := .int .i64 0) ?_
      exact (World.cell?_of_block (set5_other (by show w.heap.size + 1 + 1 + 1 ≠ w.heap.size + 1 + 1; omega))).trans de
  · rintro e w5 ⟨rfl, hk5, ⟨v0, v1, v2, v3, v4, ve⟩, hq5⟩
    have z5 := kept_row hk5 HR1.out (fun hm => by
      simp only [List.mem_cons] at hm
      rcases hm with hm | hm | hm
      · omega
      · omega
      · have := hl _ hm; omega)
    have hkw := kept_sub (l' := l) (kept_trans (kept_below HB.out) hk5) (fun k hk => by
      simp only [List.mem_cons] at hk
      rcases hk with rfl | rfl | hk
      · exact Or.inr (by omega)
      · exact Or.inr (by omega)
      · exact Or.inl hk)
    have HK := Lib.hid hkw
    have HQ := Lib.hid hq5
    have HZ5 := Lib.hid z5
    have d0 := row_cell z5 0; have d1 := row_cell z5 1; have d2 := row_cell z5 2; have d3 := row_cell z5 3; have d4 := row_cell z5 4
    simp only [List.getElem?_toArray, List.getElem?_cons_zero, List.getElem?_cons_succ] at d0 d1 d2 d3 d4
    have df := fun o => row_frz z5 o
    have lz := row_lt z5
    clear hk5 hq5 z5 hkw
    have HA := Lib.hid (anew_any n _ T w5 (HT.out _ HK.out) hbk)
    clear d0 d1 d2 d3 d4 df lz
    go_wp2_with fail
    go_at_call 27; refine HA.out.mono ?_; rintro e w6 ⟨v', rfl, hb6, hv⟩
    have hlz : w.heap.size + 1 < w5.heap.size := row_lt HZ5.out
    have HV := Lib.hid (show ∀ y, (∀ b, w5.heap.size ≤ b → y.heap[b]? = w6.heap[b]?) → Kept l w y → ∃ T', Rep y n v' T' ∧ (T' = T ∨ T' = gcT n T) from fun y hy hk => by
      rcases hv with rfl | hv
      · exact ⟨T, HT.out _ hk, Or.inl rfl⟩
      · exact ⟨_, repS_rep _ _ _ (repC_keep _ _ _ _ hy hv), Or.inr rfl⟩)
    obtain ⟨K6, I6, F6, S6, q6, m6, d6, rfl⟩ : ∃ (K I : Int) (F : Nat) (S : ByteArray) (q : Option Addr) (m d : Nat), v' = .agg #[.int .i64 K, .int .i64 I, .float .f64 F, .string S, .slice q m d] := by
      obtain ⟨T', hr6, _⟩ := HV.out w6 (fun _ _ => rfl) (kept_step HK.out hb6)
      cases n with
      | zero => exact hr6.elim
      | succ n => obtain ⟨q, m, d, hv, _⟩ := hr6; exact ⟨_, _, _, _, q, m, d, hv⟩
    have z6 := row_step HZ5.out hb6
    have e0 := row_cell z6 0; have e1 := row_cell z6 1; have e2 := row_cell z6 2; have e3 := row_cell z6 3; have e4 := row_cell z6 4
    simp only [List.getElem?_toArray, List.getElem?_cons_zero, List.getElem?_cons_succ] at e0 e1 e2 e3 e4
    have ef := fun o => row_frz z6 o
    have lz6 := row_lt z6
    have HK6 := Lib.hid (kept_set5 (b := (w.heap.size + 1)) (o := 0) (.int .i64 K6) (.int .i64 I6) (.float .f64 F6) (.string S6) (.slice q6 m6 d6) (kept_step HK.out hb6) (Or.inr (Nat.le_succ _)))
    have HQ6 := Lib.hid (set5_stab (g := (w.heap.size + 1)) (o := 0) hQ.out (Nat.le_succ _) (.int .i64 K6) (.int .i64 I6) (.float .f64 F6) (.string S6) (.slice q6 m6 d6) (hQ.out.2 _ _ hb6 HQ.out))
    have HV6 := Lib.hid (HV.out _ (fun b hb => set5_other (w := w6) (g := (w.heap.size + 1)) (o := 0) (by omega)) HK6.out)
    clear hb6 hv z6
    go_wp2
    obtain ⟨T', hr, ht⟩ := HV6.out
    exact bodyPost_ret (v := .tuple #[.agg #[.int .i64 K6, .int .i64 I6, .float .f64 F6, .string S6, .slice q6 m6 d6], .int .i64 0]) (by simp [results, Tryd.results9, go_sem, World.cell?_setCell_same, World.cell?_setCell_other, e0, e1, e2, e3, e4]) rfl ⟨_, T', rfl, HK6.out, HQ6.out, hr, ht⟩
end Num
end Go.Proofs.YtgeicgfijnabkaaDoor
