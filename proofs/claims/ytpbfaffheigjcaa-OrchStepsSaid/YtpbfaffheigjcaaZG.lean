/-
  Package orch: Do.
-/
import Derived.Test.YtpbfaffheigjcaaZF
namespace Go.Proofs.Ytpbfaffheigjcaa
open Go.RowKit
namespace Num
open Ints
set_option linter.unusedSimpArgs false
set_option linter.unusedVariables false
set_option maxRecDepth 100000 in
set_option maxHeartbeats 4000000 in
theorem odo_run (n : Nat) (I : Int) (h0 : 0 ≤ I) (HI : Hid (okI I)) (p : Option Addr) (l c : Nat) (L : List (VT n)) (w : World) (HG : Hid (∀ q d W, Below w.heap.size w W → Calls Try.prog 56 #[.agg #[.int .i64 1, .int .i64 I, .float .f64 0, .string ⟨#[]⟩, .slice q 0 d], .string { data := #[114, 117, 110] }, .slice p l c] W (RunO W n I L))) :
    Calls Try.prog 30 #[.agg #[.int .i64 1, .int .i64 I, .float .f64 0, .string ⟨#[]⟩, .slice none 0 0], .string { data := #[114, 117, 110] }, .slice p l c] w (RunO w n I L) := by
  have TR1 := Lib.hid (show (((w.alloc (.cells #[.int .i64 1, .int .i64 I, .float .f64 0, .string ⟨#[]⟩, .slice none 0 0] 27)).alloc (.cells #[.int .i64 0, .int .i64 0, .float .f64 0, .string ⟨#[]⟩, .slice none 0 0] 27)).alloc (.cells #[.int .i64 0, .int .i64 0, .float .f64 0, .string ⟨#[]⟩, .slice none 0 0] 27)).heap[w.heap.size]? = some (.cells #[.int .i64 1, .int .i64 I, .float .f64 0, .string ⟨#[]⟩, .slice none 0 0] 27 (0, 0)) ∧ (((w.alloc (.cells #[.int .i64 1, .int .i64 I, .float .f64 0, .string ⟨#[]⟩, .slice none 0 0] 27)).alloc (.cells #[.int .i64 0, .int .i64 0, .float .f64 0, .string ⟨#[]⟩, .slice none 0 0] 27)).alloc (.cells #[.int .i64 0, .int .i64 0, .float .f64 0, .string ⟨#[]⟩, .slice none 0 0] 27)).heap[w.heap.size + 1]? = some (.cells #[.int .i64 0, .int .i64 0, .float .f64 0, .string ⟨#[]⟩, .slice none 0 0] 27 (0, 0)) ∧ (((w.alloc (.cells #[.int .i64 1, .int .i64 I, .float .f64 0, .string ⟨#[]⟩, .slice none 0 0] 27)).alloc (.cells #[.int .i64 0, .int .i64 0, .float .f64 0, .string ⟨#[]⟩, .slice none 0 0] 27)).alloc (.cells #[.int .i64 0, .int .i64 0, .float .f64 0, .string ⟨#[]⟩, .slice none 0 0] 27)).heap[w.heap.size + 1 + 1]? = some (.cells #[.int .i64 0, .int .i64 0, .float .f64 0, .string ⟨#[]⟩, .slice none 0 0] 27 (0, 0)) ∧ Below w.heap.size w (((w.alloc (.cells #[.int .i64 1, .int .i64 I, .float .f64 0, .string ⟨#[]⟩, .slice none 0 0] 27)).alloc (.cells #[.int .i64 0, .int .i64 0, .float .f64 0, .string ⟨#[]⟩, .slice none 0 0] 27)).alloc (.cells #[.int .i64 0, .int .i64 0, .float .f64 0, .string ⟨#[]⟩, .slice none 0 0] 27)) from ⟨row_alloc_step (row_alloc_step (row_alloc w #[.int .i64 1, .int .i64 I, .float .f64 0, .string ⟨#[]⟩, .slice none 0 0] 27) (.cells #[.int .i64 0, .int .i64 0, .float .f64 0, .string ⟨#[]⟩, .slice none 0 0] 27)) (.cells #[.int .i64 0, .int .i64 0, .float .f64 0, .string ⟨#[]⟩, .slice none 0 0] 27), (by have h := row_alloc_step (row_alloc (w.alloc (.cells #[.int .i64 1, .int .i64 I, .float .f64 0, .string ⟨#[]⟩, .slice none 0 0] 27)) #[.int .i64 0, .int .i64 0, .float .f64 0, .string ⟨#[]⟩, .slice none 0 0] 27) (.cells #[.int .i64 0, .int .i64 0, .float .f64 0, .string ⟨#[]⟩, .slice none 0 0] 27); simp only [World.size_alloc] at h; exact h), (by have h := row_alloc ((w.alloc (.cells #[.int .i64 1, .int .i64 I, .float .f64 0, .string ⟨#[]⟩, .slice none 0 0] 27)).alloc (.cells #[.int .i64 0, .int .i64 0, .float .f64 0, .string ⟨#[]⟩, .slice none 0 0] 27)) #[.int .i64 0, .int .i64 0, .float .f64 0, .string ⟨#[]⟩, .slice none 0 0] 27; simp only [World.size_alloc] at h; exact h), bel_alloc (bel_alloc (bel_alloc (Below.refl w.heap.size w) (.cells #[.int .i64 1, .int .i64 I, .float .f64 0, .string ⟨#[]⟩, .slice none 0 0] 27)) (.cells #[.int .i64 0, .int .i64 0, .float .f64 0, .string ⟨#[]⟩, .slice none 0 0] 27)) (.cells #[.int .i64 0, .int .i64 0, .float .f64 0, .string ⟨#[]⟩, .slice none 0 0] 27)⟩)
  go_enter Try.func30, Try.ntmps30
  have c0_0 := row_cell TR1.out.1 0
  have c0_1 := row_cell TR1.out.1 1
  have c0_2 := row_cell TR1.out.1 2
  have c0_3 := row_cell TR1.out.1 3
  have c0_4 := row_cell TR1.out.1 4
  have c0f := row_frz TR1.out.1
  have c0l := row_lt TR1.out.1
  go_wp2_with fail
  go_at_call 31; refine (oright_yes I _ _ _ _ _ _ h0).mono ?_; rintro e w1 ⟨rfl, hbw1⟩
  have TR2 := Lib.hid (show w1.heap[w.heap.size]? = some (.cells #[.int .i64 1, .int .i64 I, .float .f64 0, .string ⟨#[]⟩, .slice none 0 0] 27 (0, 0)) ∧ w1.heap[w.heap.size + 1]? = some (.cells #[.int .i64 0, .int .i64 0, .float .f64 0, .string ⟨#[]⟩, .slice none 0 0] 27 (0, 0)) ∧ w1.heap[w.heap.size + 1 + 1]? = some (.cells #[.int .i64 0, .int .i64 0, .float .f64 0, .string ⟨#[]⟩, .slice none 0 0] 27 (0, 0)) ∧ Below w.heap.size w w1 from ⟨row_step TR1.out.1 hbw1, row_step TR1.out.2.1 hbw1, row_step TR1.out.2.2.1 hbw1, bel_step TR1.out.2.2.2 hbw1⟩)
  clear TR1
  clear hbw1
  clear c0_0 c0_1 c0_2 c0_3 c0_4 c0f c0l
  have c0_0 := row_cell TR2.out.1 0
  have c0_1 := row_cell TR2.out.1 1
  have c0_2 := row_cell TR2.out.1 2
  have c0_3 := row_cell TR2.out.1 3
  have c0_4 := row_cell TR2.out.1 4
  have c0f := row_frz TR2.out.1
  have c0l := row_lt TR2.out.1
  go_wp2_with fail
  go_at_call 23; refine ((vclean_any 1 (.agg #[.int .i64 1, .int .i64 I, .float .f64 0, .string ⟨#[]⟩, .slice none 0 0]) ((1, I, 0, ⟨#[]⟩, []) : VT 1) _ (leafR _ 0 1 I 0 ⟨#[]⟩ (by decide) HI.out (by decide) (by decide)) (by kernel_rfl) (Nat.le_of_ble_eq_true (by kernel_rfl)) (by kernel_rfl))).mono ?_; rintro e w2 ⟨v4, rfl, hbw2, hr4⟩
  have TR3 := Lib.hid (show w2.heap[w.heap.size]? = some (.cells #[.int .i64 1, .int .i64 I, .float .f64 0, .string ⟨#[]⟩, .slice none 0 0] 27 (0, 0)) ∧ w2.heap[w.heap.size + 1]? = some (.cells #[.int .i64 0, .int .i64 0, .float .f64 0, .string ⟨#[]⟩, .slice none 0 0] 27 (0, 0)) ∧ w2.heap[w.heap.size + 1 + 1]? = some (.cells #[.int .i64 0, .int .i64 0, .float .f64 0, .string ⟨#[]⟩, .slice none 0 0] 27 (0, 0)) ∧ Below w.heap.size w w2 from ⟨row_step TR2.out.1 hbw2, row_step TR2.out.2.1 hbw2, row_step TR2.out.2.2.1 hbw2, bel_step TR2.out.2.2.2 hbw2⟩)
  clear TR2
  obtain ⟨q, d, rfl⟩ := num_shape hr4
  clear hr4
  clear hbw2
  clear c0_0 c0_1 c0_2 c0_3 c0_4 c0f c0l
  have hw4 := row_lt TR3.out.2.2.1
  go_wp2_with fail
  go_at_call 56; refine (HG.out q d _ TR3.out.2.2.2).mono ?_; rintro e w5 ⟨q5, m5, d5, rfl, hbw5, hr5⟩
  have TR4 := Lib.hid (show w5.heap[w.heap.size]? = some (.cells #[.int .i64 1, .int .i64 I, .float .f64 0, .string ⟨#[]⟩, .slice none 0 0] 27 (0, 0)) ∧ w5.heap[w.heap.size + 1]? = some (.cells #[.int .i64 0, .int .i64 0, .float .f64 0, .string ⟨#[]⟩, .slice none 0 0] 27 (0, 0)) ∧ w5.heap[w.heap.size + 1 + 1]? = some (.cells #[.int .i64 0, .int .i64 0, .float .f64 0, .string ⟨#[]⟩, .slice none 0 0] 27 (0, 0)) ∧ Below w.heap.size w w5 from ⟨row_step TR3.out.1 hbw5, row_step TR3.out.2.1 hbw5, row_step TR3.out.2.2.1 hbw5, bel_step TR3.out.2.2.2 hbw5⟩)
  clear TR3
  clear hbw5
  have c1_0 := row_cell TR4.out.2.1 0
  have c1_1 := row_cell TR4.out.2.1 1
  have c1_2 := row_cell TR4.out.2.1 2
  have c1_3 := row_cell TR4.out.2.1 3
  have c1_4 := row_cell TR4.out.2.1 4
  have c1f := row_frz TR4.out.2.1
  have c1l := row_lt TR4.out.2.1
  have c2_0 := row_cell TR4.out.2.2.1 0
  have c2_1 := row_cell TR4.out.2.2.1 1
  have c2_2 := row_cell TR4.out.2.2.1 2
  have c2_3 := row_cell TR4.out.2.2.1 3
  have c2_4 := row_cell TR4.out.2.2.1 4
  have c2f := row_frz TR4.out.2.2.1
  have c2l := row_lt TR4.out.2.2.1
  go_wp2
  have TR5 := Lib.hid (show (((((w5.setCell ⟨w.heap.size + 1, 0, none⟩ (.int .i64 1)).setCell ⟨w.heap.size + 1, 1, none⟩ (.int .i64 (I + 1))).setCell ⟨w.heap.size + 1, 2, none⟩ (.float .f64 0)).setCell ⟨w.heap.size + 1, 3, none⟩ (.string ⟨#[]⟩)).setCell ⟨w.heap.size + 1, 4, none⟩ (.slice none 0 0)).heap[w.heap.size]? = some (.cells #[.int .i64 1, .int .i64 I, .float .f64 0, .string ⟨#[]⟩, .slice none 0 0] 27 (0, 0)) ∧ (((((w5.setCell ⟨w.heap.size + 1, 0, none⟩ (.int .i64 1)).setCell ⟨w.heap.size + 1, 1, none⟩ (.int .i64 (I + 1))).setCell ⟨w.heap.size + 1, 2, none⟩ (.float .f64 0)).setCell ⟨w.heap.size + 1, 3, none⟩ (.string ⟨#[]⟩)).setCell ⟨w.heap.size + 1, 4, none⟩ (.slice none 0 0)).heap[w.heap.size + 1]? = some (.cells #[.int .i64 1, .int .i64 (I + 1), .float .f64 0, .string ⟨#[]⟩, .slice none 0 0] 27 (0, 0)) ∧ (((((w5.setCell ⟨w.heap.size + 1, 0, none⟩ (.int .i64 1)).setCell ⟨w.heap.size + 1, 1, none⟩ (.int .i64 (I + 1))).setCell ⟨w.heap.size + 1, 2, none⟩ (.float .f64 0)).setCell ⟨w.heap.size + 1, 3, none⟩ (.string ⟨#[]⟩)).setCell ⟨w.heap.size + 1, 4, none⟩ (.slice none 0 0)).heap[w.heap.size + 1 + 1]? = some (.cells #[.int .i64 0, .int .i64 0, .float .f64 0, .string ⟨#[]⟩, .slice none 0 0] 27 (0, 0)) ∧ Below w.heap.size w (((((w5.setCell ⟨w.heap.size + 1, 0, none⟩ (.int .i64 1)).setCell ⟨w.heap.size + 1, 1, none⟩ (.int .i64 (I + 1))).setCell ⟨w.heap.size + 1, 2, none⟩ (.float .f64 0)).setCell ⟨w.heap.size + 1, 3, none⟩ (.string ⟨#[]⟩)).setCell ⟨w.heap.size + 1, 4, none⟩ (.slice none 0 0)) from ⟨(set5_other (w := w5) (g := w.heap.size + 1) (o := 0) (by omega)).trans TR4.out.1, set5_row TR4.out.2.1 (.int .i64 1) (.int .i64 (I + 1)) (.float .f64 0) (.string ⟨#[]⟩) (.slice none 0 0), (set5_other (w := w5) (g := w.heap.size + 1) (o := 0) (by omega)).trans TR4.out.2.2.1, set5_below TR4.out.2.2.2 (by omega) (.int .i64 1) (.int .i64 (I + 1)) (.float .f64 0) (.string ⟨#[]⟩) (.slice none 0 0)⟩)
  have TR6 := Lib.hid (show ((((((((((w5.setCell ⟨w.heap.size + 1, 0, none⟩ (.int .i64 1)).setCell ⟨w.heap.size + 1, 1, none⟩ (.int .i64 (I + 1))).setCell ⟨w.heap.size + 1, 2, none⟩ (.float .f64 0)).setCell ⟨w.heap.size + 1, 3, none⟩ (.string ⟨#[]⟩)).setCell ⟨w.heap.size + 1, 4, none⟩ (.slice none 0 0)).setCell ⟨w.heap.size + 1 + 1, 0, none⟩ (.int .i64 4)).setCell ⟨w.heap.size + 1 + 1, 1, none⟩ (.int .i64 0)).setCell ⟨w.heap.size + 1 + 1, 2, none⟩ (.float .f64 0)).setCell ⟨w.heap.size + 1 + 1, 3, none⟩ (.string ⟨#[]⟩)).setCell ⟨w.heap.size + 1 + 1, 4, none⟩ (.slice q5 m5 d5)).heap[w.heap.size]? = some (.cells #[.int .i64 1, .int .i64 I, .float .f64 0, .string ⟨#[]⟩, .slice none 0 0] 27 (0, 0)) ∧ ((((((((((w5.setCell ⟨w.heap.size + 1, 0, none⟩ (.int .i64 1)).setCell ⟨w.heap.size + 1, 1, none⟩ (.int .i64 (I + 1))).setCell ⟨w.heap.size + 1, 2, none⟩ (.float .f64 0)).setCell ⟨w.heap.size + 1, 3, none⟩ (.string ⟨#[]⟩)).setCell ⟨w.heap.size + 1, 4, none⟩ (.slice none 0 0)).setCell ⟨w.heap.size + 1 + 1, 0, none⟩ (.int .i64 4)).setCell ⟨w.heap.size + 1 + 1, 1, none⟩ (.int .i64 0)).setCell ⟨w.heap.size + 1 + 1, 2, none⟩ (.float .f64 0)).setCell ⟨w.heap.size + 1 + 1, 3, none⟩ (.string ⟨#[]⟩)).setCell ⟨w.heap.size + 1 + 1, 4, none⟩ (.slice q5 m5 d5)).heap[w.heap.size + 1]? = some (.cells #[.int .i64 1, .int .i64 (I + 1), .float .f64 0, .string ⟨#[]⟩, .slice none 0 0] 27 (0, 0)) ∧ ((((((((((w5.setCell ⟨w.heap.size + 1, 0, none⟩ (.int .i64 1)).setCell ⟨w.heap.size + 1, 1, none⟩ (.int .i64 (I + 1))).setCell ⟨w.heap.size + 1, 2, none⟩ (.float .f64 0)).setCell ⟨w.heap.size + 1, 3, none⟩ (.string ⟨#[]⟩)).setCell ⟨w.heap.size + 1, 4, none⟩ (.slice none 0 0)).setCell ⟨w.heap.size + 1 + 1, 0, none⟩ (.int .i64 4)).setCell ⟨w.heap.size + 1 + 1, 1, none⟩ (.int .i64 0)).setCell ⟨w.heap.size + 1 + 1, 2, none⟩ (.float .f64 0)).setCell ⟨w.heap.size + 1 + 1, 3, none⟩ (.string ⟨#[]⟩)).setCell ⟨w.heap.size + 1 + 1, 4, none⟩ (.slice q5 m5 d5)).heap[w.heap.size + 1 + 1]? = some (.cells #[.int .i64 4, .int .i64 0, .float .f64 0, .string ⟨#[]⟩, .slice q5 m5 d5] 27 (0, 0)) ∧ Below w.heap.size w ((((((((((w5.setCell ⟨w.heap.size + 1, 0, none⟩ (.int .i64 1)).setCell ⟨w.heap.size + 1, 1, none⟩ (.int .i64 (I + 1))).setCell ⟨w.heap.size + 1, 2, none⟩ (.float .f64 0)).setCell ⟨w.heap.size + 1, 3, none⟩ (.string ⟨#[]⟩)).setCell ⟨w.heap.size + 1, 4, none⟩ (.slice none 0 0)).setCell ⟨w.heap.size + 1 + 1, 0, none⟩ (.int .i64 4)).setCell ⟨w.heap.size + 1 + 1, 1, none⟩ (.int .i64 0)).setCell ⟨w.heap.size + 1 + 1, 2, none⟩ (.float .f64 0)).setCell ⟨w.heap.size + 1 + 1, 3, none⟩ (.string ⟨#[]⟩)).setCell ⟨w.heap.size + 1 + 1, 4, none⟩ (.slice q5 m5 d5)) from ⟨(set5_other (w := (((((w5.setCell ⟨w.heap.size + 1, 0, none⟩ (.int .i64 1)).setCell ⟨w.heap.size + 1, 1, none⟩ (.int .i64 (I + 1))).setCell ⟨w.heap.size + 1, 2, none⟩ (.float .f64 0)).setCell ⟨w.heap.size + 1, 3, none⟩ (.string ⟨#[]⟩)).setCell ⟨w.heap.size + 1, 4, none⟩ (.slice none 0 0))) (g := w.heap.size + 1 + 1) (o := 0) (by omega)).trans TR5.out.1, (set5_other (w := (((((w5.setCell ⟨w.heap.size + 1, 0, none⟩ (.int .i64 1)).setCell ⟨w.heap.size + 1, 1, none⟩ (.int .i64 (I + 1))).setCell ⟨w.heap.size + 1, 2, none⟩ (.float .f64 0)).setCell ⟨w.heap.size + 1, 3, none⟩ (.string ⟨#[]⟩)).setCell ⟨w.heap.size + 1, 4, none⟩ (.slice none 0 0))) (g := w.heap.size + 1 + 1) (o := 0) (by omega)).trans TR5.out.2.1, set5_row TR5.out.2.2.1 (.int .i64 4) (.int .i64 0) (.float .f64 0) (.string ⟨#[]⟩) (.slice q5 m5 d5), set5_below TR5.out.2.2.2 (by omega) (.int .i64 4) (.int .i64 0) (.float .f64 0) (.string ⟨#[]⟩) (.slice q5 m5 d5)⟩)
  refine bodyPost_ret (v := .tuple #[.agg #[.int .i64 1, .int .i64 (I + 1), .float .f64 0, .string ⟨#[]⟩, .slice none 0 0], listV q5 m5 d5, .int .i64 0]) (by simp [results, Try.results30, go_sem, World.cell?_setCell_same, World.cell?_setCell_other, c1_0, c1_1, c1_2, c1_3, c1_4, c2_0, c2_1, c2_2, c2_3, c2_4]) rfl ⟨q5, m5, d5, rfl, TR6.out.2.2.2, ?_⟩
  exact repC_mono _ _ _ _ _ (fun b hb => Nat.le_trans (by omega) hb) (repC_keep _ _ _ _ (fun b hb => (set5_other (g := w.heap.size + 1 + 1) (o := 0) (by omega)).trans (set5_other (g := w.heap.size + 1) (o := 0) (by omega))) hr5)
set_option maxRecDepth 100000 in
set_option maxHeartbeats 4000000 in
theorem odo_fail (I : Int) (h0 : 0 ≤ I) (HI : Hid (okI I)) (p : Option Addr) (l c : Nat) (w : World) :
    Calls Try.prog 30 #[.agg #[.int .i64 1, .int .i64 I, .float .f64 0, .string ⟨#[]⟩, .slice none 0 0], .string { data := #[102, 97, 105, 108] }, .slice p l c] w fun e w' => e = .returned (.tuple #[.agg #[.int .i64 0, .int .i64 0, .float .f64 0, .string ⟨#[]⟩, .slice none 0 0], .agg #[.int .i64 0, .int .i64 0, .float .f64 0, .string ⟨#[]⟩, .slice none 0 0], .int .i64 34]) ∧ Below w.heap.size w w' := by
  have TR1 := Lib.hid (show (((w.alloc (.cells #[.int .i64 1, .int .i64 I, .float .f64 0, .string ⟨#[]⟩, .slice none 0 0] 27)).alloc (.cells #[.int .i64 0, .int .i64 0, .float .f64 0, .string ⟨#[]⟩, .slice none 0 0] 27)).alloc (.cells #[.int .i64 0, .int .i64 0, .float .f64 0, .string ⟨#[]⟩, .slice none 0 0] 27)).heap[w.heap.size]? = some (.cells #[.int .i64 1, .int .i64 I, .float .f64 0, .string ⟨#[]⟩, .slice none 0 0] 27 (0, 0)) ∧ (((w.alloc (.cells #[.int .i64 1, .int .i64 I, .float .f64 0, .string ⟨#[]⟩, .slice none 0 0] 27)).alloc (.cells #[.int .i64 0, .int .i64 0, .float .f64 0, .string ⟨#[]⟩, .slice none 0 0] 27)).alloc (.cells #[.int .i64 0, .int .i64 0, .float .f64 0, .string ⟨#[]⟩, .slice none 0 0] 27)).heap[w.heap.size + 1]? = some (.cells #[.int .i64 0, .int .i64 0, .float .f64 0, .string ⟨#[]⟩, .slice none 0 0] 27 (0, 0)) ∧ (((w.alloc (.cells #[.int .i64 1, .int .i64 I, .float .f64 0, .string ⟨#[]⟩, .slice none 0 0] 27)).alloc (.cells #[.int .i64 0, .int .i64 0, .float .f64 0, .string ⟨#[]⟩, .slice none 0 0] 27)).alloc (.cells #[.int .i64 0, .int .i64 0, .float .f64 0, .string ⟨#[]⟩, .slice none 0 0] 27)).heap[w.heap.size + 1 + 1]? = some (.cells #[.int .i64 0, .int .i64 0, .float .f64 0, .string ⟨#[]⟩, .slice none 0 0] 27 (0, 0)) ∧ Below w.heap.size w (((w.alloc (.cells #[.int .i64 1, .int .i64 I, .float .f64 0, .string ⟨#[]⟩, .slice none 0 0] 27)).alloc (.cells #[.int .i64 0, .int .i64 0, .float .f64 0, .string ⟨#[]⟩, .slice none 0 0] 27)).alloc (.cells #[.int .i64 0, .int .i64 0, .float .f64 0, .string ⟨#[]⟩, .slice none 0 0] 27)) from ⟨row_alloc_step (row_alloc_step (row_alloc w #[.int .i64 1, .int .i64 I, .float .f64 0, .string ⟨#[]⟩, .slice none 0 0] 27) (.cells #[.int .i64 0, .int .i64 0, .float .f64 0, .string ⟨#[]⟩, .slice none 0 0] 27)) (.cells #[.int .i64 0, .int .i64 0, .float .f64 0, .string ⟨#[]⟩, .slice none 0 0] 27), (by have h := row_alloc_step (row_alloc (w.alloc (.cells #[.int .i64 1, .int .i64 I, .float .f64 0, .string ⟨#[]⟩, .slice none 0 0] 27)) #[.int .i64 0, .int .i64 0, .float .f64 0, .string ⟨#[]⟩, .slice none 0 0] 27) (.cells #[.int .i64 0, .int .i64 0, .float .f64 0, .string ⟨#[]⟩, .slice none 0 0] 27); simp only [World.size_alloc] at h; exact h), (by have h := row_alloc ((w.alloc (.cells #[.int .i64 1, .int .i64 I, .float .f64 0, .string ⟨#[]⟩, .slice none 0 0] 27)).alloc (.cells #[.int .i64 0, .int .i64 0, .float .f64 0, .string ⟨#[]⟩, .slice none 0 0] 27)) #[.int .i64 0, .int .i64 0, .float .f64 0, .string ⟨#[]⟩, .slice none 0 0] 27; simp only [World.size_alloc] at h; exact h), bel_alloc (bel_alloc (bel_alloc (Below.refl w.heap.size w) (.cells #[.int .i64 1, .int .i64 I, .float .f64 0, .string ⟨#[]⟩, .slice none 0 0] 27)) (.cells #[.int .i64 0, .int .i64 0, .float .f64 0, .string ⟨#[]⟩, .slice none 0 0] 27)) (.cells #[.int .i64 0, .int .i64 0, .float .f64 0, .string ⟨#[]⟩, .slice none 0 0] 27)⟩)
  go_enter Try.func30, Try.ntmps30
  have c0_0 := row_cell TR1.out.1 0
  have c0_1 := row_cell TR1.out.1 1
  have c0_2 := row_cell TR1.out.1 2
  have c0_3 := row_cell TR1.out.1 3
  have c0_4 := row_cell TR1.out.1 4
  have c0f := row_frz TR1.out.1
  have c0l := row_lt TR1.out.1
  go_wp2_with fail
  go_at_call 31; refine (oright_yes I _ _ _ _ _ _ h0).mono ?_; rintro e w3 ⟨rfl, hbw3⟩
  have TR2 := Lib.hid (show w3.heap[w.heap.size]? = some (.cells #[.int .i64 1, .int .i64 I, .float .f64 0, .string ⟨#[]⟩, .slice none 0 0] 27 (0, 0)) ∧ w3.heap[w.heap.size + 1]? = some (.cells #[.int .i64 0, .int .i64 0, .float .f64 0, .string ⟨#[]⟩, .slice none 0 0] 27 (0, 0)) ∧ w3.heap[w.heap.size + 1 + 1]? = some (.cells #[.int .i64 0, .int .i64 0, .float .f64 0, .string ⟨#[]⟩, .slice none 0 0] 27 (0, 0)) ∧ Below w.heap.size w w3 from ⟨row_step TR1.out.1 hbw3, row_step TR1.out.2.1 hbw3, row_step TR1.out.2.2.1 hbw3, bel_step TR1.out.2.2.2 hbw3⟩)
  clear TR1
  clear hbw3
  clear c0_0 c0_1 c0_2 c0_3 c0_4 c0f c0l
  have c0_0 := row_cell TR2.out.1 0
  have c0_1 := row_cell TR2.out.1 1
  have c0_2 := row_cell TR2.out.1 2
  have c0_3 := row_cell TR2.out.1 3
  have c0_4 := row_cell TR2.out.1 4
  have c0f := row_frz TR2.out.1
  have c0l := row_lt TR2.out.1
  go_wp2_with fail
  go_at_call 23; refine ((vclean_any 1 (.agg #[.int .i64 1, .int .i64 I, .float .f64 0, .string ⟨#[]⟩, .slice none 0 0]) ((1, I, 0, ⟨#[]⟩, []) : VT 1) _ (leafR _ 0 1 I 0 ⟨#[]⟩ (by decide) HI.out (by decide) (by decide)) (by kernel_rfl) (Nat.le_of_ble_eq_true (by kernel_rfl)) (by kernel_rfl))).mono ?_; rintro e w4 ⟨v4, rfl, hbw4, hr4⟩
  have TR3 := Lib.hid (show w4.heap[w.heap.size]? = some (.cells #[.int .i64 1, .int .i64 I, .float .f64 0, .string ⟨#[]⟩, .slice none 0 0] 27 (0, 0)) ∧ w4.heap[w.heap.size + 1]? = some (.cells #[.int .i64 0, .int .i64 0, .float .f64 0, .string ⟨#[]⟩, .slice none 0 0] 27 (0, 0)) ∧ w4.heap[w.heap.size + 1 + 1]? = some (.cells #[.int .i64 0, .int .i64 0, .float .f64 0, .string ⟨#[]⟩, .slice none 0 0] 27 (0, 0)) ∧ Below w.heap.size w w4 from ⟨row_step TR2.out.1 hbw4, row_step TR2.out.2.1 hbw4, row_step TR2.out.2.2.1 hbw4, bel_step TR2.out.2.2.2 hbw4⟩)
  clear TR2
  obtain ⟨q, d, rfl⟩ := num_shape hr4
  clear hr4
  clear hbw4
  clear c0_0 c0_1 c0_2 c0_3 c0_4 c0f c0l
  go_wp2_with fail
  go_at_call 56; refine (oguard_fail I q 0 d p l c _).mono ?_; rintro e w5 ⟨rfl, hbw5⟩
  have TR4 := Lib.hid (show w5.heap[w.heap.size]? = some (.cells #[.int .i64 1, .int .i64 I, .float .f64 0, .string ⟨#[]⟩, .slice none 0 0] 27 (0, 0)) ∧ w5.heap[w.heap.size + 1]? = some (.cells #[.int .i64 0, .int .i64 0, .float .f64 0, .string ⟨#[]⟩, .slice none 0 0] 27 (0, 0)) ∧ w5.heap[w.heap.size + 1 + 1]? = some (.cells #[.int .i64 0, .int .i64 0, .float .f64 0, .string ⟨#[]⟩, .slice none 0 0] 27 (0, 0)) ∧ Below w.heap.size w w5 from ⟨row_step TR3.out.1 hbw5, row_step TR3.out.2.1 hbw5, row_step TR3.out.2.2.1 hbw5, bel_step TR3.out.2.2.2 hbw5⟩)
  clear TR3
  clear hbw5
  have c1_0 := row_cell TR4.out.2.1 0
  have c1_1 := row_cell TR4.out.2.1 1
  have c1_2 := row_cell TR4.out.2.1 2
  have c1_3 := row_cell TR4.out.2.1 3
  have c1_4 := row_cell TR4.out.2.1 4
  have c1f := row_frz TR4.out.2.1
  have c1l := row_lt TR4.out.2.1
  have c2_0 := row_cell TR4.out.2.2.1 0
  have c2_1 := row_cell TR4.out.2.2.1 1
  have c2_2 := row_cell TR4.out.2.2.1 2
  have c2_3 := row_cell TR4.out.2.2.1 3
  have c2_4 := row_cell TR4.out.2.2.1 4
  have c2f := row_frz TR4.out.2.2.1
  have c2l := row_lt TR4.out.2.2.1
  go_wp2
  have TR5 := Lib.hid (show (((((w5.setCell ⟨w.heap.size + 1, 0, none⟩ (.int .i64 0)).setCell ⟨w.heap.size + 1, 1, none⟩ (.int .i64 0)).setCell ⟨w.heap.size + 1, 2, none⟩ (.float .f64 0)).setCell ⟨w.heap.size + 1, 3, none⟩ (.string ⟨#[]⟩)).setCell ⟨w.heap.size + 1, 4, none⟩ (.slice none 0 0)).heap[w.heap.size]? = some (.cells #[.int .i64 1, .int .i64 I, .float .f64 0, .string ⟨#[]⟩, .slice none 0 0] 27 (0, 0)) ∧ (((((w5.setCell ⟨w.heap.size + 1, 0, none⟩ (.int .i64 0)).setCell ⟨w.heap.size + 1, 1, none⟩ (.int .i64 0)).setCell ⟨w.heap.size + 1, 2, none⟩ (.float .f64 0)).setCell ⟨w.heap.size + 1, 3, none⟩ (.string ⟨#[]⟩)).setCell ⟨w.heap.size + 1, 4, none⟩ (.slice none 0 0)).heap[w.heap.size + 1]? = some (.cells #[.int .i64 0, .int .i64 0, .float .f64 0, .string ⟨#[]⟩, .slice none 0 0] 27 (0, 0)) ∧ (((((w5.setCell ⟨w.heap.size + 1, 0, none⟩ (.int .i64 0)).setCell ⟨w.heap.size + 1, 1, none⟩ (.int .i64 0)).setCell ⟨w.heap.size + 1, 2, none⟩ (.float .f64 0)).setCell ⟨w.heap.size + 1, 3, none⟩ (.string ⟨#[]⟩)).setCell ⟨w.heap.size + 1, 4, none⟩ (.slice none 0 0)).heap[w.heap.size + 1 + 1]? = some (.cells #[.int .i64 0, .int .i64 0, .float .f64 0, .string ⟨#[]⟩, .slice none 0 0] 27 (0, 0)) ∧ Below w.heap.size w (((((w5.setCell ⟨w.heap.size + 1, 0, none⟩ (.int .i64 0)).setCell ⟨w.heap.size + 1, 1, none⟩ (.int .i64 0)).setCell ⟨w.heap.size + 1, 2, none⟩ (.float .f64 0)).setCell ⟨w.heap.size + 1, 3, none⟩ (.string ⟨#[]⟩)).setCell ⟨w.heap.size + 1, 4, none⟩ (.slice none 0 0)) from ⟨(set5_other (w := w5) (g := w.heap.size + 1) (o := 0) (by omega)).trans TR4.out.1, set5_row TR4.out.2.1 (.int .i64 0) (.int .i64 0) (.float .f64 0) (.string ⟨#[]⟩) (.slice none 0 0), (set5_other (w := w5) (g := w.heap.size + 1) (o := 0) (by omega)).trans TR4.out.2.2.1, set5_below TR4.out.2.2.2 (by omega) (.int .i64 0) (.int .i64 0) (.float .f64 0) (.string ⟨#[]⟩) (.slice none 0 0)⟩)
  have TR6 := Lib.hid (show ((((((((((w5.setCell ⟨w.heap.size + 1, 0, none⟩ (.int .i64 0)).setCell ⟨w.heap.size + 1, 1, none⟩ (.int .i64 0)).setCell ⟨w.heap.size + 1, 2, none⟩ (.float .f64 0)).setCell ⟨w.heap.size + 1, 3, none⟩ (.string ⟨#[]⟩)).setCell ⟨w.heap.size + 1, 4, none⟩ (.slice none 0 0)).setCell ⟨w.heap.size + 1 + 1, 0, none⟩ (.int .i64 0)).setCell ⟨w.heap.size + 1 + 1, 1, none⟩ (.int .i64 0)).setCell ⟨w.heap.size + 1 + 1, 2, none⟩ (.float .f64 0)).setCell ⟨w.heap.size + 1 + 1, 3, none⟩ (.string ⟨#[]⟩)).setCell ⟨w.heap.size + 1 + 1, 4, none⟩ (.slice none 0 0)).heap[w.heap.size]? = some (.cells #[.int .i64 1, .int .i64 I, .float .f64 0, .string ⟨#[]⟩, .slice none 0 0] 27 (0, 0)) ∧ ((((((((((w5.setCell ⟨w.heap.size + 1, 0, none⟩ (.int .i64 0)).setCell ⟨w.heap.size + 1, 1, none⟩ (.int .i64 0)).setCell ⟨w.heap.size + 1, 2, none⟩ (.float .f64 0)).setCell ⟨w.heap.size + 1, 3, none⟩ (.string ⟨#[]⟩)).setCell ⟨w.heap.size + 1, 4, none⟩ (.slice none 0 0)).setCell ⟨w.heap.size + 1 + 1, 0, none⟩ (.int .i64 0)).setCell ⟨w.heap.size + 1 + 1, 1, none⟩ (.int .i64 0)).setCell ⟨w.heap.size + 1 + 1, 2, none⟩ (.float .f64 0)).setCell ⟨w.heap.size + 1 + 1, 3, none⟩ (.string ⟨#[]⟩)).setCell ⟨w.heap.size + 1 + 1, 4, none⟩ (.slice none 0 0)).heap[w.heap.size + 1]? = some (.cells #[.int .i64 0, .int .i64 0, .float .f64 0, .string ⟨#[]⟩, .slice none 0 0] 27 (0, 0)) ∧ ((((((((((w5.setCell ⟨w.heap.size + 1, 0, none⟩ (.int .i64 0)).setCell ⟨w.heap.size + 1, 1, none⟩ (.int .i64 0)).setCell ⟨w.heap.size + 1, 2, none⟩ (.float .f64 0)).setCell ⟨w.heap.size + 1, 3, none⟩ (.string ⟨#[]⟩)).setCell ⟨w.heap.size + 1, 4, none⟩ (.slice none 0 0)).setCell ⟨w.heap.size + 1 + 1, 0, none⟩ (.int .i64 0)).setCell ⟨w.heap.size + 1 + 1, 1, none⟩ (.int .i64 0)).setCell ⟨w.heap.size + 1 + 1, 2, none⟩ (.float .f64 0)).setCell ⟨w.heap.size + 1 + 1, 3, none⟩ (.string ⟨#[]⟩)).setCell ⟨w.heap.size + 1 + 1, 4, none⟩ (.slice none 0 0)).heap[w.heap.size + 1 + 1]? = some (.cells #[.int .i64 0, .int .i64 0, .float .f64 0, .string ⟨#[]⟩, .slice none 0 0] 27 (0, 0)) ∧ Below w.heap.size w ((((((((((w5.setCell ⟨w.heap.size + 1, 0, none⟩ (.int .i64 0)).setCell ⟨w.heap.size + 1, 1, none⟩ (.int .i64 0)).setCell ⟨w.heap.size + 1, 2, none⟩ (.float .f64 0)).setCell ⟨w.heap.size + 1, 3, none⟩ (.string ⟨#[]⟩)).setCell ⟨w.heap.size + 1, 4, none⟩ (.slice none 0 0)).setCell ⟨w.heap.size + 1 + 1, 0, none⟩ (.int .i64 0)).setCell ⟨w.heap.size + 1 + 1, 1, none⟩ (.int .i64 0)).setCell ⟨w.heap.size + 1 + 1, 2, none⟩ (.float .f64 0)).setCell ⟨w.heap.size + 1 + 1, 3, none⟩ (.string ⟨#[]⟩)).setCell ⟨w.heap.size + 1 + 1, 4, none⟩ (.slice none 0 0)) from ⟨(set5_other (w := (((((w5.setCell ⟨w.heap.size + 1, 0, none⟩ (.int .i64 0)).setCell ⟨w.heap.size + 1, 1, none⟩ (.int .i64 0)).setCell ⟨w.heap.size + 1, 2, none⟩ (.float .f64 0)).setCell ⟨w.heap.size + 1, 3, none⟩ (.string ⟨#[]⟩)).setCell ⟨w.heap.size + 1, 4, none⟩ (.slice none 0 0))) (g := w.heap.size + 1 + 1) (o := 0) (by omega)).trans TR5.out.1, (set5_other (w := (((((w5.setCell ⟨w.heap.size + 1, 0, none⟩ (.int .i64 0)).setCell ⟨w.heap.size + 1, 1, none⟩ (.int .i64 0)).setCell ⟨w.heap.size + 1, 2, none⟩ (.float .f64 0)).setCell ⟨w.heap.size + 1, 3, none⟩ (.string ⟨#[]⟩)).setCell ⟨w.heap.size + 1, 4, none⟩ (.slice none 0 0))) (g := w.heap.size + 1 + 1) (o := 0) (by omega)).trans TR5.out.2.1, set5_row TR5.out.2.2.1 (.int .i64 0) (.int .i64 0) (.float .f64 0) (.string ⟨#[]⟩) (.slice none 0 0), set5_below TR5.out.2.2.2 (by omega) (.int .i64 0) (.int .i64 0) (.float .f64 0) (.string ⟨#[]⟩) (.slice none 0 0)⟩)
  refine bodyPost_ret (v := .tuple #[.agg #[.int .i64 0, .int .i64 0, .float .f64 0, .string ⟨#[]⟩, .slice none 0 0], .agg #[.int .i64 0, .int .i64 0, .float .f64 0, .string ⟨#[]⟩, .slice none 0 0], .int .i64 34]) (by simp [results, Try.results30, go_sem, World.cell?_setCell_same, World.cell?_setCell_other, c1_0, c1_1, c1_2, c1_3, c1_4, c2_0, c2_1, c2_2, c2_3, c2_4]) rfl ⟨rfl, TR6.out.2.2.2⟩
theorem opv_oneO {i : Int} (F : Nat) (hi : 0 ≤ i) (ho : okI i) (hne : i ≠ 9223372036854775807) : opV 0 1 i F 1 1 0 = (1, i + 1, 0, 0) := by
  refine opV_int rfl rfl ?_
  show ifOk (i + 1) = some (i + 1)
  unfold ifOk
  unfold okI at ho
  rw [if_pos (by unfold okI; omega)]
/-- Do of a run, of any count that isn't the greatest, and any results that may be answered. -/
theorem odo_ok (n : Nat) (I : Int) (h0 : 0 ≤ I) (hi : okI I) (hne : I ≠ 9223372036854775807) (p : Option Addr) (l c : Nat) (L : List (VT n)) (w : World) (hr : RepL w (Rep w n) p l c L) (hc : CleanL n L) (hk : checkM (measT (n + 1) (listW L)) = 0) :
    Calls Try.prog 30 #[.agg #[.int .i64 1, .int .i64 I, .float .f64 0, .string ⟨#[]⟩, .slice none 0 0], .string { data := #[114, 117, 110] }, .slice p l c] w (RunO w n I L) :=
  odo_run n I h0 (Lib.hid hi) p l c L w (Lib.hid (fun q d W hW => oguard_run n I q 0 d p l c L W (Lib.hid (fun W2 hW2 => ocall_run n I q 0 d p l c L W2 (Lib.hid (fun W3 hW3 => orun_ok n I q 0 d p l c L W3 (Lib.hid hi) (Lib.hid (opv_oneO 0 h0 hi hne))
    (Lib.hid (repL_keep (bel_step (bel_step hW hW2) hW3) (fun v T hv => rep_keep (bel_step (bel_step hW hW2) hW3) _ _ _ hv) hr)) (Lib.hid hc)
    (Lib.hid (fun W4 hW4 => by
      have hb := bel_step (bel_step (bel_step hW hW2) hW3) hW4
      have h := check_any (n + 1) 4 0 0 ⟨#[]⟩ p l c (listW L) W4 (list_rep (repL_keep hb (fun v T hv => rep_keep hb _ _ _ hv) hr)) hc.1 hc.2.1
      rw [hk] at h
      exact h))))))))
end Num
end Go.Proofs.Ytpbfaffheigjcaa
