/-
  Nested ids.
-/
import Derived.Test.YtbodakfgoijeeaaDoorIH
import Derived.Deep.RegionWith
namespace Go.Proofs.YtbodakfgoijeeaaDoor
open Go.RowKit Go.Sort Go.Lib
namespace Num
set_option linter.unusedSimpArgs false
set_option linter.unusedVariables false
def nestV (a1 a2 a3 n : Int) : Value := if a3 = 0 ∧ 1 ≤ n ∧ n ≤ 8 then .tuple #[Id a1 a2 n, .bool true] else .tuple #[Id 0 0 0, .bool false]
theorem bel_set3 {w W : World} (h : Below w.heap.size w W) (b : Nat) (hb : w.heap.size ≤ b) (x y z : Value) : Below w.heap.size w (((W.setCell ⟨b, 0, none⟩ x).setCell ⟨b, 1, none⟩ y).setCell ⟨b, 2, none⟩ z) := ((h.setCell (p := ⟨b, 0, none⟩) hb x).setCell (p := ⟨b, 1, none⟩) hb y).setCell (p := ⟨b, 2, none⟩) hb z
set_option maxHeartbeats 4000000 in
theorem nest1 (a1 a2 a3 n : Int) (w : World) (h0 : ¬ a3 = 0) :
    Calls Tryd.prog 13 #[Id a1 a2 a3, .int .i64 n] w fun e w' => e = .returned (.tuple #[Id 0 0 0, .bool false]) ∧ Below w.heap.size w w' := by
  have bz : (a3 == 0) = false := by rw [beq_eq_false_iff_ne]; exact h0
  have HR := Lib.hid (fun (W : World) => root_any a1 a2 a3 W)
  unfold Id at HR ⊢
  go_enter Tryd.func13, Tryd.ntmps13
  go_wp2_with fail
  first
  | (go_region_with (go_at_call 14; refine (HR.out _).mono ?_; rintro e w1 ⟨rfl, hb1⟩; have HB1 := Lib.hid hb1; obtain ⟨hc1, hf1⟩ := bcell hb1; have hz1 : w.heap.size + 1 < w1.heap.size := (by (have := hb1.size; (try simp at this); omega)); clear hb1))
  | fail
  all_goals
    have hlt0 : w.heap.size < w1.heap.size := by omega
    have HBel : Hid (Below w.heap.size w w1) := by first | exact bel_step (bel_alloc (bel_alloc (Below.refl _ _) _) _) HB1.out | exact bel_step (Below.drew (bel_alloc (bel_alloc (Below.refl _ _) _) _)) HB1.out
    go_wp2
    exact bodyPost_ret (v := .tuple #[.agg #[.int .u32 0, .int .u32 0, .int .u16 0], .bool false]) (by simp [results, Tryd.results13, go_sem, World.cell?_setCell_same, World.cell?_setCell_other, hc1]) rfl ⟨rfl, bel_set3 HBel.out _ (by omega) _ _ _⟩
set_option maxHeartbeats 4000000 in
theorem nest2 (a1 a2 a3 n : Int) (w : World) (h0 : a3 = 0) (hn : n < 1) :
    Calls Tryd.prog 13 #[Id a1 a2 a3, .int .i64 n] w fun e w' => e = .returned (.tuple #[Id 0 0 0, .bool false]) ∧ Below w.heap.size w w' := by
  subst h0
  have HR := Lib.hid (fun (W : World) => root_any a1 a2 0 W)
  unfold Id at HR ⊢
  go_enter Tryd.func13, Tryd.ntmps13
  go_wp2_with fail
  first
  | (go_region_with (go_at_call 14; refine (HR.out _).mono ?_; rintro e w1 ⟨rfl, hb1⟩; have HB1 := Lib.hid hb1; obtain ⟨hc1, hf1⟩ := bcell hb1; have hz1 : w.heap.size + 1 < w1.heap.size := (by (have := hb1.size; (try simp at this); omega)); clear hb1))
  | fail
  all_goals
    have hlt0 : w.heap.size < w1.heap.size := by omega
    have HBel : Hid (Below w.heap.size w w1) := by first | exact bel_step (bel_alloc (bel_alloc (Below.refl _ _) _) _) HB1.out | exact bel_step (Below.drew (bel_alloc (bel_alloc (Below.refl _ _) _) _)) HB1.out
    go_wp2
    exact bodyPost_ret (v := .tuple #[.agg #[.int .u32 0, .int .u32 0, .int .u16 0], .bool false]) (by simp [results, Tryd.results13, go_sem, World.cell?_setCell_same, World.cell?_setCell_other, hc1]) rfl ⟨rfl, bel_set3 HBel.out _ (by omega) _ _ _⟩
set_option maxHeartbeats 4000000 in
theorem nest3 (a1 a2 a3 n : Int) (w : World) (h0 : a3 = 0) (hn : ¬ n < 1) (hn2 : 8 < n) :
    Calls Tryd.prog 13 #[Id a1 a2 a3, .int .i64 n] w fun e w' => e = .returned (.tuple #[Id 0 0 0, .bool false]) ∧ Below w.heap.size w w' := by
  subst h0
  have HR := Lib.hid (fun (W : World) => root_any a1 a2 0 W)
  unfold Id at HR ⊢
  go_enter Tryd.func13, Tryd.ntmps13
  go_wp2_with fail
  first
  | (go_region_with (go_at_call 14; refine (HR.out _).mono ?_; rintro e w1 ⟨rfl, hb1⟩; have HB1 := Lib.hid hb1; obtain ⟨hc1, hf1⟩ := bcell hb1; have hz1 : w.heap.size + 1 < w1.heap.size := (by (have := hb1.size; (try simp at this); omega)); clear hb1))
  | fail
  all_goals
    have hlt0 : w.heap.size < w1.heap.size := by omega
    have HBel : Hid (Below w.heap.size w w1) := by first | exact bel_step (bel_alloc (bel_alloc (Below.refl _ _) _) _) HB1.out | exact bel_step (Below.drew (bel_alloc (bel_alloc (Below.refl _ _) _) _)) HB1.out
    go_wp2
    exact bodyPost_ret (v := .tuple #[.agg #[.int .u32 0, .int .u32 0, .int .u16 0], .bool false]) (by simp [results, Tryd.results13, go_sem, World.cell?_setCell_same, World.cell?_setCell_other, hc1]) rfl ⟨rfl, bel_set3 HBel.out _ (by omega) _ _ _⟩
set_option maxHeartbeats 4000000 in
theorem nest4 (a1 a2 a3 n : Int) (w : World) (h0 : a3 = 0) (hn : ¬ n < 1) (hn2 : ¬ 8 < n) :
    Calls Tryd.prog 13 #[Id a1 a2 a3, .int .i64 n] w fun e w' => e = .returned (.tuple #[Id a1 a2 n, .bool true]) ∧ Below w.heap.size w w' := by
  subst h0
  have wn : IntKind.u16.wrap n = n := by rw [IntKind.wrap_u16]; omega
  have HR := Lib.hid (fun (W : World) => root_any a1 a2 0 W)
  unfold Id at HR ⊢
  go_enter Tryd.func13, Tryd.ntmps13
  go_wp2_with fail
  first
  | (go_region_with (go_at_call 14; refine (HR.out _).mono ?_; rintro e w1 ⟨rfl, hb1⟩; have HB1 := Lib.hid hb1; obtain ⟨hc1, hf1⟩ := bcell hb1; have hz1 : w.heap.size + 1 < w1.heap.size := (by (have := hb1.size; (try simp at this); omega)); clear hb1))
  | fail
  all_goals
    have hlt0 : w.heap.size < w1.heap.size := by omega
    have HBel : Hid (Below w.heap.size w w1) := by first | exact bel_step (bel_alloc (bel_alloc (Below.refl _ _) _) _) HB1.out | exact bel_step (Below.drew (bel_alloc (bel_alloc (Below.refl _ _) _) _)) HB1.out
    have hR0 : w1.heap[w.heap.size]? = some (.cells #[.int .u32 a1, .int .u32 a2, .int .u16 0] 25 (0, 0)) := row_step (w := ((w.alloc (.cells #[.int .u32 a1, .int .u32 a2, .int .u16 0] 25)).alloc (.cells #[.int .u32 0, .int .u32 0, .int .u16 0] 25)).drew) (row_alloc_step (row_alloc w _ _) _) HB1.out
    have hR1 : w1.heap[(w.alloc (.cells #[.int .u32 a1, .int .u32 a2, .int .u16 0] 25)).heap.size]? = some (.cells #[.int .u32 0, .int .u32 0, .int .u16 0] 25 (0, 0)) := row_step (w := ((w.alloc (.cells #[.int .u32 a1, .int .u32 a2, .int .u16 0] 25)).alloc (.cells #[.int .u32 0, .int .u32 0, .int .u16 0] 25)).drew) (row_alloc (w.alloc (.cells #[.int .u32 a1, .int .u32 a2, .int .u16 0] 25)) _ _) HB1.out
    simp only [World.size_alloc] at hR1
    have d0 := row_cell hR0 0
    have d1 := row_cell hR0 1
    have d2 := row_cell hR0 2
    have e0 := row_cell hR1 0
    have e1 := row_cell hR1 1
    have e2 := row_cell hR1 2
    simp only [List.getElem?_toArray, List.getElem?_cons_zero, List.getElem?_cons_succ] at d0 d1 d2 e0 e1 e2
    have f2 := row_frz hR0 2
    have g0 := row_frz hR1 0
    have g1 := row_frz hR1 1
    have g2 := row_frz hR1 2
    clear hc1 hf1 hR0 hR1
    go_wp2
    exact bodyPost_ret (v := .tuple #[.agg #[.int .u32 a1, .int .u32 a2, .int .u16 n], .bool true]) (by simp [results, Tryd.results13, go_sem, World.cell?_setCell_same, World.cell?_setCell_other, e0, e1, e2]) rfl ⟨rfl, bel_set3 (HBel.out.setCell (p := ⟨w.heap.size, 2, none⟩) (Nat.le_refl _) _) _ (by omega) _ _ _⟩
theorem nested_any (a1 a2 a3 n : Int) (w : World) :
    Calls Tryd.prog 13 #[Id a1 a2 a3, .int .i64 n] w fun e w' => e = .returned (nestV a1 a2 a3 n) ∧ Below w.heap.size w w' := by
  unfold nestV
  by_cases h0 : a3 = 0
  · by_cases hn : n < 1
    · rw [if_neg (by omega)]; exact nest2 a1 a2 a3 n w h0 hn
    · by_cases hn2 : 8 < n
      · rw [if_neg (by omega)]; exact nest3 a1 a2 a3 n w h0 hn hn2
      · rw [if_pos (by omega)]; exact nest4 a1 a2 a3 n w h0 hn hn2
  · rw [if_neg (fun h => h0 h.1)]; exact nest1 a1 a2 a3 n w h0
end Num
end Go.Proofs.YtbodakfgoijeeaaDoor
