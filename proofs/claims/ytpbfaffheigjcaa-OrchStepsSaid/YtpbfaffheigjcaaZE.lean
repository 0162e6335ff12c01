/-
  Package orch: Right, fail, run.
-/
import Derived.Test.YtpbfaffheigjcaaZD
import Derived.Test.YtpbfaffheigjcaaNB
import Derived.Test.YtpbfaffheigjcaaSY
import Derived.Deep.RegionHeld3
import Derived.RegionTactic
import Derived.Deep.DeepCutAuto
namespace Go.Proofs.Ytpbfaffheigjcaa
open Go.RowKit
namespace Num
open Ints
set_option linter.unusedSimpArgs false
set_option linter.unusedVariables false
theorem oright_yes (I : Int) (F : Nat) (S : ByteArray) (q : Option Addr) (m d : Nat) (w : World) (h : 0 ≤ I) : Calls Try.prog 31 #[.agg #[.int .i64 1, .int .i64 I, .float .f64 F, .string S, .slice q m d]] w fun e w' => e = .returned (.bool true) ∧ Below w.heap.size w w' := by
  have HB := Lib.hid (bel_alloc (Below.refl w.heap.size w) (.cells #[.int .i64 1, .int .i64 I, .float .f64 F, .string S, .slice q m d] 27))
  go_enter Try.func31, Try.ntmps31
  go_wp2
  go_ret
  exact ⟨rfl, HB.out⟩
theorem ofail_any (w : World) : Calls Try.prog 105 #[] w fun e w' => (∃ u pv, e = .panicked [{ v := .iface u pv, recovered := false }]) ∧ Below w.heap.size w w' := by
  have HB := Lib.hid (bel_alloc (bel_alloc (Below.refl w.heap.size w) (.cells #[.int .i64 0, .int .i64 0, .float .f64 0, .string ⟨#[]⟩, .slice none 0 0] 27)) (.cells #[.int .i64 0, .int .i64 0, .float .f64 0, .string ⟨#[]⟩, .slice none 0 0] 27))
  go_enter Try.func105, Try.ntmps105
  go_wp2
  exact ⟨rfl, ⟨_, _, rfl⟩, HB.out⟩
/-- What a run answers. -/
def RunO (w : World) (n : Nat) (I : Int) (L : List (VT n)) (e : Ending) (w' : World) : Prop := ∃ q m d, e = .returned (.tuple #[.agg #[.int .i64 1, .int .i64 (I + 1), .float .f64 0, .string ⟨#[]⟩, .slice none 0 0], listV q m d, .int .i64 0]) ∧ Below w.heap.size w w' ∧ RepC w' (n + 1) (fun b => w.heap.size ≤ b) (listV q m d) (listW (L.map (cleanT n)))
set_option maxRecDepth 100000 in
set_option maxHeartbeats 4000000 in
theorem orun_ok (n : Nat) (I : Int) (q : Option Addr) (m d : Nat) (p : Option Addr) (l c : Nat) (L : List (VT n)) (w : World) (HI : Hid (okI I)) (HOP : Hid (opV 0 1 I 0 1 1 0 = (1, I + 1, 0, 0))) (HL : Hid (RepL w (Rep w n) p l c L)) (HCN : Hid (CleanL n L)) (HCK : Hid (∀ W, Below w.heap.size w W → Calls Try.prog 40 #[listV p l c] W fun e w' => e = .returned (.int .i64 0) ∧ Below W.heap.size W w')) :
    Calls Try.prog 104 #[.agg #[.int .i64 1, .int .i64 I, .float .f64 0, .string ⟨#[]⟩, .slice q m d], .slice p l c] w (RunO w n I L) := by
  have TR1 := Lib.hid (show (((w.alloc (.cells #[.int .i64 1, .int .i64 I, .float .f64 0, .string ⟨#[]⟩, .slice q m d] 27)).alloc (.cells #[.int .i64 0, .int .i64 0, .float .f64 0, .string ⟨#[]⟩, .slice none 0 0] 27)).alloc (.cells #[.int .i64 0, .int .i64 0, .float .f64 0, .string ⟨#[]⟩, .slice none 0 0] 27)).heap[w.heap.size]? = some (.cells #[.int .i64 1, .int .i64 I, .float .f64 0, .string ⟨#[]⟩, .slice q m d] 27 (0, 0)) ∧ (((w.alloc (.cells #[.int .i64 1, .int .i64 I, .float .f64 0, .string ⟨#[]⟩, .slice q m d] 27)).alloc (.cells #[.int .i64 0, .int .i64 0, .float .f64 0, .string ⟨#[]⟩, .slice none 0 0] 27)).alloc (.cells #[.int .i64 0, .int .i64 0, .float .f64 0, .string ⟨#[]⟩, .slice none 0 0] 27)).heap[w.heap.size + 1]? = some (.cells #[.int .i64 0, .int .i64 0, .float .f64 0, .string ⟨#[]⟩, .slice none 0 0] 27 (0, 0)) ∧ (((w.alloc (.cells #[.int .i64 1, .int .i64 I, .float .f64 0, .string ⟨#[]⟩, .slice q m d] 27)).alloc (.cells #[.int .i64 0, .int .i64 0, .float .f64 0, .string ⟨#[]⟩, .slice none 0 0] 27)).alloc (.cells #[.int .i64 0, .int .i64 0, .float .f64 0, .string ⟨#[]⟩, .slice none 0 0] 27)).heap[w.heap.size + 1 + 1]? = some (.cells #[.int .i64 0, .int .i64 0, .float .f64 0, .string ⟨#[]⟩, .slice none 0 0] 27 (0, 0)) ∧ Below w.heap.size w (((w.alloc (.cells #[.int .i64 1, .int .i64 I, .float .f64 0, .string ⟨#[]⟩, .slice q m d] 27)).alloc (.cells #[.int .i64 0, .int .i64 0, .float .f64 0, .string ⟨#[]⟩, .slice none 0 0] 27)).alloc (.cells #[.int .i64 0, .int .i64 0, .float .f64 0, .string ⟨#[]⟩, .slice none 0 0] 27)) from ⟨row_alloc_step (row_alloc_step (row_alloc w #[.int .i64 1, .int .i64 I, .float .f64 0, .string ⟨#[]⟩, .slice q m d] 27) (.cells #[.int .i64 0, .int .i64 0, .float .f64 0, .string ⟨#[]⟩, .slice none 0 0] 27)) (.cells #[.int .i64 0, .int .i64 0, .float .f64 0, .string ⟨#[]⟩, .slice none 0 0] 27), (by have h := row_alloc_step (row_alloc (w.alloc (.cells #[.int .i64 1, .int .i64 I, .float .f64 0, .string ⟨#[]⟩, .slice q m d] 27)) #[.int .i64 0, .int .i64 0, .float .f64 0, .string ⟨#[]⟩, .slice none 0 0] 27) (.cells #[.int .i64 0, .int .i64 0, .float .f64 0, .string ⟨#[]⟩, .slice none 0 0] 27); simp only [World.size_alloc] at h; exact h), (by have h := row_alloc ((w.alloc (.cells #[.int .i64 1, .int .i64 I, .float .f64 0, .string ⟨#[]⟩, .slice q m d] 27)).alloc (.cells #[.int .i64 0, .int .i64 0, .float .f64 0, .string ⟨#[]⟩, .slice none 0 0] 27)) #[.int .i64 0, .int .i64 0, .float .f64 0, .string ⟨#[]⟩, .slice none 0 0] 27; simp only [World.size_alloc] at h; exact h), bel_alloc (bel_alloc (bel_alloc (Below.refl w.heap.size w) (.cells #[.int .i64 1, .int .i64 I, .float .f64 0, .string ⟨#[]⟩, .slice q m d] 27)) (.cells #[.int .i64 0, .int .i64 0, .float .f64 0, .string ⟨#[]⟩, .slice none 0 0] 27)) (.cells #[.int .i64 0, .int .i64 0, .float .f64 0, .string ⟨#[]⟩, .slice none 0 0] 27)⟩)
  go_enter Try.func104, Try.ntmps104
  have c0_0 := row_cell TR1.out.1 0
  have c0_1 := row_cell TR1.out.1 1
  have c0_2 := row_cell TR1.out.1 2
  have c0_3 := row_cell TR1.out.1 3
  have c0_4 := row_cell TR1.out.1 4
  have c0f := row_frz TR1.out.1
  have c0l := row_lt TR1.out.1
  go_wp2_with fail
  go_at_call 80; refine (add_any 1 I 0 ⟨#[]⟩ q m d 1 1 0 ⟨#[]⟩ none 0 0 _ HI.out (by decide) HOP.out).mono ?_; rintro e w1 ⟨rfl, hbw1⟩
  have TR2 := Lib.hid (show w1.heap[w.heap.size]? = some (.cells #[.int .i64 1, .int .i64 I, .float .f64 0, .string ⟨#[]⟩, .slice q m d] 27 (0, 0)) ∧ w1.heap[w.heap.size + 1]? = some (.cells #[.int .i64 0, .int .i64 0, .float .f64 0, .string ⟨#[]⟩, .slice none 0 0] 27 (0, 0)) ∧ w1.heap[w.heap.size + 1 + 1]? = some (.cells #[.int .i64 0, .int .i64 0, .float .f64 0, .string ⟨#[]⟩, .slice none 0 0] 27 (0, 0)) ∧ Below w.heap.size w w1 from ⟨row_step TR1.out.1 hbw1, row_step TR1.out.2.1 hbw1, row_step TR1.out.2.2.1 hbw1, bel_step TR1.out.2.2.2 hbw1⟩)
  clear TR1
  clear hbw1
  clear c0_0 c0_1 c0_2 c0_3 c0_4 c0f c0l
  have c1_0 := row_cell TR2.out.2.1 0
  have c1_1 := row_cell TR2.out.2.1 1
  have c1_2 := row_cell TR2.out.2.1 2
  have c1_3 := row_cell TR2.out.2.1 3
  have c1_4 := row_cell TR2.out.2.1 4
  have c1f := row_frz TR2.out.2.1
  have c1l := row_lt TR2.out.2.1
  go_wp2_with fail
  have TR3 := Lib.hid (show (((((w1.setCell ⟨w.heap.size + 1, 0, none⟩ (.int .i64 1)).setCell ⟨w.heap.size + 1, 1, none⟩ (.int .i64 (I + 1))).setCell ⟨w.heap.size + 1, 2, none⟩ (.float .f64 0)).setCell ⟨w.heap.size + 1, 3, none⟩ (.string ⟨#[]⟩)).setCell ⟨w.heap.size + 1, 4, none⟩ (.slice none 0 0)).heap[w.heap.size]? = some (.cells #[.int .i64 1, .int .i64 I, .float .f64 0, .string ⟨#[]⟩, .slice q m d] 27 (0, 0)) ∧ (((((w1.setCell ⟨w.heap.size + 1, 0, none⟩ (.int .i64 1)).setCell ⟨w.heap.size + 1, 1, none⟩ (.int .i64 (I + 1))).setCell ⟨w.heap.size + 1, 2, none⟩ (.float .f64 0)).setCell ⟨w.heap.size + 1, 3, none⟩ (.string ⟨#[]⟩)).setCell ⟨w.heap.size + 1, 4, none⟩ (.slice none 0 0)).heap[w.heap.size + 1]? = some (.cells #[.int .i64 1, .int .i64 (I + 1), .float .f64 0, .string ⟨#[]⟩, .slice none 0 0] 27 (0, 0)) ∧ (((((w1.setCell ⟨w.heap.size + 1, 0, none⟩ (.int .i64 1)).setCell ⟨w.heap.size + 1, 1, none⟩ (.int .i64 (I + 1))).setCell ⟨w.heap.size + 1, 2, none⟩ (.float .f64 0)).setCell ⟨w.heap.size + 1, 3, none⟩ (.string ⟨#[]⟩)).setCell ⟨w.heap.size + 1, 4, none⟩ (.slice none 0 0)).heap[w.heap.size + 1 + 1]? = some (.cells #[.int .i64 0, .int .i64 0, .float .f64 0, .string ⟨#[]⟩, .slice none 0 0] 27 (0, 0)) ∧ Below w.heap.size w (((((w1.setCell ⟨w.heap.size + 1, 0, none⟩ (.int .i64 1)).setCell ⟨w.heap.size + 1, 1, none⟩ (.int .i64 (I + 1))).setCell ⟨w.heap.size + 1, 2, none⟩ (.float .f64 0)).setCell ⟨w.heap.size + 1, 3, none⟩ (.string ⟨#[]⟩)).setCell ⟨w.heap.size + 1, 4, none⟩ (.slice none 0 0)) from ⟨(set5_other (w := w1) (g := w.heap.size + 1) (o := 0) (by omega)).trans TR2.out.1, set5_row TR2.out.2.1 (.int .i64 1) (.int .i64 (I + 1)) (.float .f64 0) (.string ⟨#[]⟩) (.slice none 0 0), (set5_other (w := w1) (g := w.heap.size + 1) (o := 0) (by omega)).trans TR2.out.2.2.1, set5_below TR2.out.2.2.2 (by omega) (.int .i64 1) (.int .i64 (I + 1)) (.float .f64 0) (.string ⟨#[]⟩) (.slice none 0 0)⟩)
  clear TR2
  clear c1_0 c1_1 c1_2 c1_3 c1_4 c1f c1l
  go_at_call 57; refine (olist_any p l c _).mono ?_; rintro e w2 ⟨rfl, hbw2⟩
  have TR4 := Lib.hid (show w2.heap[w.heap.size]? = some (.cells #[.int .i64 1, .int .i64 I, .float .f64 0, .string ⟨#[]⟩, .slice q m d] 27 (0, 0)) ∧ w2.heap[w.heap.size + 1]? = some (.cells #[.int .i64 1, .int .i64 (I + 1), .float .f64 0, .string ⟨#[]⟩, .slice none 0 0] 27 (0, 0)) ∧ w2.heap[w.heap.size + 1 + 1]? = some (.cells #[.int .i64 0, .int .i64 0, .float .f64 0, .string ⟨#[]⟩, .slice none 0 0] 27 (0, 0)) ∧ Below w.heap.size w w2 from ⟨row_step TR3.out.1 hbw2, row_step TR3.out.2.1 hbw2, row_step TR3.out.2.2.1 hbw2, bel_step TR3.out.2.2.2 hbw2⟩)
  clear TR3
  clear hbw2
  have c2_0 := row_cell TR4.out.2.2.1 0
  have c2_1 := row_cell TR4.out.2.2.1 1
  have c2_2 := row_cell TR4.out.2.2.1 2
  have c2_3 := row_cell TR4.out.2.2.1 3
  have c2_4 := row_cell TR4.out.2.2.1 4
  have c2f := row_frz TR4.out.2.2.1
  have c2l := row_lt TR4.out.2.2.1
  go_wp2_with fail
  have TR5 := Lib.hid (show (((((w2.setCell ⟨w.heap.size + 1 + 1, 0, none⟩ (.int .i64 4)).setCell ⟨w.heap.size + 1 + 1, 1, none⟩ (.int .i64 0)).setCell ⟨w.heap.size + 1 + 1, 2, none⟩ (.float .f64 0)).setCell ⟨w.heap.size + 1 + 1, 3, none⟩ (.string ⟨#[]⟩)).setCell ⟨w.heap.size + 1 + 1, 4, none⟩ (.slice p l c)).heap[w.heap.size]? = some (.cells #[.int .i64 1, .int .i64 I, .float .f64 0, .string ⟨#[]⟩, .slice q m d] 27 (0, 0)) ∧ (((((w2.setCell ⟨w.heap.size + 1 + 1, 0, none⟩ (.int .i64 4)).setCell ⟨w.heap.size + 1 + 1, 1, none⟩ (.int .i64 0)).setCell ⟨w.heap.size + 1 + 1, 2, none⟩ (.float .f64 0)).setCell ⟨w.heap.size + 1 + 1, 3, none⟩ (.string ⟨#[]⟩)).setCell ⟨w.heap.size + 1 + 1, 4, none⟩ (.slice p l c)).heap[w.heap.size + 1]? = some (.cells #[.int .i64 1, .int .i64 (I + 1), .float .f64 0, .string ⟨#[]⟩, .slice none 0 0] 27 (0, 0)) ∧ (((((w2.setCell ⟨w.heap.size + 1 + 1, 0, none⟩ (.int .i64 4)).setCell ⟨w.heap.size + 1 + 1, 1, none⟩ (.int .i64 0)).setCell ⟨w.heap.size + 1 + 1, 2, none⟩ (.float .f64 0)).setCell ⟨w.heap.size + 1 + 1, 3, none⟩ (.string ⟨#[]⟩)).setCell ⟨w.heap.size + 1 + 1, 4, none⟩ (.slice p l c)).heap[w.heap.size + 1 + 1]? = some (.cells #[.int .i64 4, .int .i64 0, .float .f64 0, .string ⟨#[]⟩, .slice p l c] 27 (0, 0)) ∧ Below w.heap.size w (((((w2.setCell ⟨w.heap.size + 1 + 1, 0, none⟩ (.int .i64 4)).setCell ⟨w.heap.size + 1 + 1, 1, none⟩ (.int .i64 0)).setCell ⟨w.heap.size + 1 + 1, 2, none⟩ (.float .f64 0)).setCell ⟨w.heap.size + 1 + 1, 3, none⟩ (.string ⟨#[]⟩)).setCell ⟨w.heap.size + 1 + 1, 4, none⟩ (.slice p l c)) from ⟨(set5_other (w := w2) (g := w.heap.size + 1 + 1) (o := 0) (by omega)).trans TR4.out.1, (set5_other (w := w2) (g := w.heap.size + 1 + 1) (o := 0) (by omega)).trans TR4.out.2.1, set5_row TR4.out.2.2.1 (.int .i64 4) (.int .i64 0) (.float .f64 0) (.string ⟨#[]⟩) (.slice p l c), set5_below TR4.out.2.2.2 (by omega) (.int .i64 4) (.int .i64 0) (.float .f64 0) (.string ⟨#[]⟩) (.slice p l c)⟩)
  clear TR4
  clear c2_0 c2_1 c2_2 c2_3 c2_4 c2f c2l
  go_at_call 40; refine (HCK.out _ (TR5.out.2.2.2)).mono ?_; rintro e w3 ⟨rfl, hbw3⟩
  have TR6 := Lib.hid (show w3.heap[w.heap.size]? = some (.cells #[.int .i64 1, .int .i64 I, .float .f64 0, .string ⟨#[]⟩, .slice q m d] 27 (0, 0)) ∧ w3.heap[w.heap.size + 1]? = some (.cells #[.int .i64 1, .int .i64 (I + 1), .float .f64 0, .string ⟨#[]⟩, .slice none 0 0] 27 (0, 0)) ∧ w3.heap[w.heap.size + 1 + 1]? = some (.cells #[.int .i64 4, .int .i64 0, .float .f64 0, .string ⟨#[]⟩, .slice p l c] 27 (0, 0)) ∧ Below w.heap.size w w3 from ⟨row_step TR5.out.1 hbw3, row_step TR5.out.2.1 hbw3, row_step TR5.out.2.2.1 hbw3, bel_step TR5.out.2.2.2 hbw3⟩)
  clear TR5
  clear hbw3
  go_upto_region 8 with fail
  have TR7 := Lib.hid (show w3.drew.heap[w.heap.size]? = some (.cells #[.int .i64 1, .int .i64 I, .float .f64 0, .string ⟨#[]⟩, .slice q m d] 27 (0, 0)) ∧ w3.drew.heap[w.heap.size + 1]? = some (.cells #[.int .i64 1, .int .i64 (I + 1), .float .f64 0, .string ⟨#[]⟩, .slice none 0 0] 27 (0, 0)) ∧ w3.drew.heap[w.heap.size + 1 + 1]? = some (.cells #[.int .i64 4, .int .i64 0, .float .f64 0, .string ⟨#[]⟩, .slice p l c] 27 (0, 0)) ∧ Below w.heap.size w w3.drew from ⟨row_step TR6.out.1 (show Below w3.heap.size w3 w3.drew from Below.drew (Below.refl _ _)), row_step TR6.out.2.1 (show Below w3.heap.size w3 w3.drew from Below.drew (Below.refl _ _)), row_step TR6.out.2.2.1 (show Below w3.heap.size w3 w3.drew from Below.drew (Below.refl _ _)), bel_step TR6.out.2.2.2 (show Below w3.heap.size w3 w3.drew from Below.drew (Below.refl _ _))⟩)
  clear TR6
  refine wp_region_held_drew (S := (fun z => z.cell? ⟨w.heap.size + 1, 0, none⟩ = some (.int .i64 1) ∧ z.cell? ⟨w.heap.size + 1, 1, none⟩ = some (.int .i64 (I + 1)) ∧ z.cell? ⟨w.heap.size + 1, 2, none⟩ = some (.float .f64 0) ∧ z.cell? ⟨w.heap.size + 1, 3, none⟩ = some (.string ⟨#[]⟩) ∧ z.cell? ⟨w.heap.size + 1, 4, none⟩ = some (.slice none 0 0))) (by kernel_rfl) ?_ (fun hHeld => ?_)
  · exact ⟨row_cell TR7.out.2.1 0, row_cell TR7.out.2.1 1, row_cell TR7.out.2.1 2, row_cell TR7.out.2.1 3, row_cell TR7.out.2.1 4⟩
  refine wpAnyH_take (i := 0) (oi := ?_) (v := ?_) ?hiu4_0 (by kernel_rfl) ?hfu4_0 ?hru4_0 ?hQu4_0 ?hyu4_0 (by assumption) ?restu4_0
  case hiu4_0 => (simp only [List.getElem?_toArray, List.getElem?_cons_zero, List.getElem?_cons_succ]; rfl)
  case hfu4_0 => kernel_rfl
  case hru4_0 => kernel_rfl
  case hyu4_0 => (refine Or.inl ⟨by rfl, ?_⟩; intro wS hSw; (try dsimp only at hSw); go_simp; (try with_reducible rfl))
  case hQu4_0 => exact fun _ _ _ h => h
  (try simp only [Act.put, List.setIfInBounds_toArray, List.set_cons_zero, List.set_cons_succ])
  refine wpAnyH_ready (rs := [1]) (by kernel_rfl) (by simp) ?_
  refine AllReadyH.cons (o := ?_) ?hov5_ ?hstv5_ AllReadyH.nil
  case hov5_ => (simp only [List.getElem?_toArray, List.getElem?_cons_zero, List.getElem?_cons_succ]; rfl)
  intro K hK
  have b30 := row_cell TR7.out.2.2.1 0; have b31 := row_cell TR7.out.2.2.1 1; have b32 := row_cell TR7.out.2.2.1 2; have b33 := row_cell TR7.out.2.2.1 3; have b34 := row_cell TR7.out.2.2.1 4; have b3l := row_lt TR7.out.2.2.1
  go_simp
  clear b30 b31 b32 b33 b34 b3l
  refine hK.out _ _ ?hsv5_ (fun hHeld => ?_)
  case hsv5_ => exact ⟨row_cell TR7.out.2.1 0, row_cell TR7.out.2.1 1, row_cell TR7.out.2.1 2, row_cell TR7.out.2.1 3, row_cell TR7.out.2.1 4⟩
  clear hK K
  (try simp only [Act.put, List.setIfInBounds_toArray, List.set_cons_zero, List.set_cons_succ])
  refine wpAnyH_ready (rs := [2]) (by kernel_rfl) (by simp) ?_
  refine AllReadyH.cons (o := ?_) ?hov6_ ?hstv6_ AllReadyH.nil
  case hov6_ => (simp only [List.getElem?_toArray, List.getElem?_cons_zero, List.getElem?_cons_succ]; rfl)
  intro K hK
  go_simp
  have hcw : w.heap.size < w3.drew.heap.size := Nat.lt_of_le_of_lt (Nat.le_refl _) (row_lt TR7.out.1)
  have hcx : w.heap.size + 1 < w3.drew.heap.size := row_lt TR7.out.2.1
  have hcy : w.heap.size + 1 + 1 < w3.drew.heap.size := row_lt TR7.out.2.2.1
  go_at_call 23; refine (vclean_list n p l c L _ (repL_keep (TR7.out.2.2.2) (fun v T hv => rep_keep (TR7.out.2.2.2) _ _ _ hv) HL.out) HCN.out).mono ?_; rintro e w7 ⟨q5, m5, d5, rfl, hbw7, hr5⟩
  have TR8 := Lib.hid (show w7.heap[w.heap.size]? = some (.cells #[.int .i64 1, .int .i64 I, .float .f64 0, .string ⟨#[]⟩, .slice q m d] 27 (0, 0)) ∧ w7.heap[w.heap.size + 1]? = some (.cells #[.int .i64 1, .int .i64 (I + 1), .float .f64 0, .string ⟨#[]⟩, .slice none 0 0] 27 (0, 0)) ∧ w7.heap[w.heap.size + 1 + 1]? = some (.cells #[.int .i64 4, .int .i64 0, .float .f64 0, .string ⟨#[]⟩, .slice p l c] 27 (0, 0)) ∧ Below w.heap.size w w7 from ⟨row_step TR7.out.1 hbw7, row_step TR7.out.2.1 hbw7, row_step TR7.out.2.2.1 hbw7, bel_step TR7.out.2.2.2 hbw7⟩)
  clear TR7
  have HC0 := Lib.hid (repC_lt _ _ _ _ hr5)
  clear hr5
  have TR9 := Lib.hid (show w7.heap[w.heap.size]? = some (.cells #[.int .i64 1, .int .i64 I, .float .f64 0, .string ⟨#[]⟩, .slice q m d] 27 (0, 0)) ∧ w7.heap[w.heap.size + 1]? = some (.cells #[.int .i64 1, .int .i64 (I + 1), .float .f64 0, .string ⟨#[]⟩, .slice none 0 0] 27 (0, 0)) ∧ w7.heap[w.heap.size + 1 + 1]? = some (.cells #[.int .i64 4, .int .i64 0, .float .f64 0, .string ⟨#[]⟩, .slice p l c] 27 (0, 0)) ∧ (Stay w3.drew.heap.size w7 w7 ∧ w7.heap.size ≤ w7.heap.size) ∧ Below w.heap.size w w7 from ⟨TR8.out.1, TR8.out.2.1, TR8.out.2.2.1, ⟨stay_refl _ _, Nat.le_refl _⟩, TR8.out.2.2.2⟩)
  clear TR8
  clear hbw7
  go_wp2_with fail
  refine hK.out _ _ ?hsv6_ (fun hHeld => ?_)
  case hsv6_ => exact ⟨row_cell TR9.out.2.1 0, row_cell TR9.out.2.1 1, row_cell TR9.out.2.1 2, row_cell TR9.out.2.1 3, row_cell TR9.out.2.1 4⟩
  clear hK K
  (try simp only [Act.put, List.setIfInBounds_toArray, List.set_cons_zero, List.set_cons_succ])
  refine wpAnyH_ready (rs := [3]) (by kernel_rfl) (by simp) ?_
  refine AllReadyH.cons (o := ?_) ?hov8_ ?hstv8_ AllReadyH.nil
  case hov8_ => (simp only [List.getElem?_toArray, List.getElem?_cons_zero, List.getElem?_cons_succ]; rfl)
  intro K hK
  have b30 := row_cell TR9.out.2.1 0; have b31 := row_cell TR9.out.2.1 1; have b32 := row_cell TR9.out.2.1 2; have b33 := row_cell TR9.out.2.1 3; have b34 := row_cell TR9.out.2.1 4; have b3f := row_frz TR9.out.2.1; have b3l := row_lt TR9.out.2.1; go_simp
  have TR10 := Lib.hid (show (((((w7.setCell ⟨w.heap.size + 1, 0, none⟩ (.int .i64 1)).setCell ⟨w.heap.size + 1, 1, none⟩ (.int .i64 (I + 1))).setCell ⟨w.heap.size + 1, 2, none⟩ (.float .f64 0)).setCell ⟨w.heap.size + 1, 3, none⟩ (.string ⟨#[]⟩)).setCell ⟨w.heap.size + 1, 4, none⟩ (.slice none 0 0)).heap[w.heap.size]? = some (.cells #[.int .i64 1, .int .i64 I, .float .f64 0, .string ⟨#[]⟩, .slice q m d] 27 (0, 0)) ∧ (((((w7.setCell ⟨w.heap.size + 1, 0, none⟩ (.int .i64 1)).setCell ⟨w.heap.size + 1, 1, none⟩ (.int .i64 (I + 1))).setCell ⟨w.heap.size + 1, 2, none⟩ (.float .f64 0)).setCell ⟨w.heap.size + 1, 3, none⟩ (.string ⟨#[]⟩)).setCell ⟨w.heap.size + 1, 4, none⟩ (.slice none 0 0)).heap[w.heap.size + 1]? = some (.cells #[.int .i64 1, .int .i64 (I + 1), .float .f64 0, .string ⟨#[]⟩, .slice none 0 0] 27 (0, 0)) ∧ (((((w7.setCell ⟨w.heap.size + 1, 0, none⟩ (.int .i64 1)).setCell ⟨w.heap.size + 1, 1, none⟩ (.int .i64 (I + 1))).setCell ⟨w.heap.size + 1, 2, none⟩ (.float .f64 0)).setCell ⟨w.heap.size + 1, 3, none⟩ (.string ⟨#[]⟩)).setCell ⟨w.heap.size + 1, 4, none⟩ (.slice none 0 0)).heap[w.heap.size + 1 + 1]? = some (.cells #[.int .i64 4, .int .i64 0, .float .f64 0, .string ⟨#[]⟩, .slice p l c] 27 (0, 0)) ∧ (Stay w3.drew.heap.size w7 (((((w7.setCell ⟨w.heap.size + 1, 0, none⟩ (.int .i64 1)).setCell ⟨w.heap.size + 1, 1, none⟩ (.int .i64 (I + 1))).setCell ⟨w.heap.size + 1, 2, none⟩ (.float .f64 0)).setCell ⟨w.heap.size + 1, 3, none⟩ (.string ⟨#[]⟩)).setCell ⟨w.heap.size + 1, 4, none⟩ (.slice none 0 0)) ∧ w7.heap.size ≤ (((((w7.setCell ⟨w.heap.size + 1, 0, none⟩ (.int .i64 1)).setCell ⟨w.heap.size + 1, 1, none⟩ (.int .i64 (I + 1))).setCell ⟨w.heap.size + 1, 2, none⟩ (.float .f64 0)).setCell ⟨w.heap.size + 1, 3, none⟩ (.string ⟨#[]⟩)).setCell ⟨w.heap.size + 1, 4, none⟩ (.slice none 0 0)).heap.size) ∧ Below w.heap.size w (((((w7.setCell ⟨w.heap.size + 1, 0, none⟩ (.int .i64 1)).setCell ⟨w.heap.size + 1, 1, none⟩ (.int .i64 (I + 1))).setCell ⟨w.heap.size + 1, 2, none⟩ (.float .f64 0)).setCell ⟨w.heap.size + 1, 3, none⟩ (.string ⟨#[]⟩)).setCell ⟨w.heap.size + 1, 4, none⟩ (.slice none 0 0)) from ⟨(set5_other (w := w7) (g := w.heap.size + 1) (o := 0) (by omega)).trans TR9.out.1, set5_row TR9.out.2.1 (.int .i64 1) (.int .i64 (I + 1)) (.float .f64 0) (.string ⟨#[]⟩) (.slice none 0 0), (set5_other (w := w7) (g := w.heap.size + 1) (o := 0) (by omega)).trans TR9.out.2.2.1, ⟨stay_set TR9.out.2.2.2.1.1 (by omega) (.int .i64 1) (.int .i64 (I + 1)) (.float .f64 0) (.string ⟨#[]⟩) (.slice none 0 0), by show _ ≤ (set5 w7 (w.heap.size + 1) 0 (.int .i64 1) (.int .i64 (I + 1)) (.float .f64 0) (.string ⟨#[]⟩) (.slice none 0 0)).heap.size; rw [set5_size]; exact TR9.out.2.2.2.1.2⟩, set5_below TR9.out.2.2.2.2 (by omega) (.int .i64 1) (.int .i64 (I + 1)) (.float .f64 0) (.string ⟨#[]⟩) (.slice none 0 0)⟩)
  clear TR9
  clear b30 b31 b32 b33 b34 b3f b3l
  go_wp2_with fail
  refine hK.out _ _ ?hsv8_ (fun hHeld => ?_)
  case hsv8_ => exact ⟨row_cell TR10.out.2.1 0, row_cell TR10.out.2.1 1, row_cell TR10.out.2.1 2, row_cell TR10.out.2.1 3, row_cell TR10.out.2.1 4⟩
  clear hK K
  (try simp only [Act.put, List.setIfInBounds_toArray, List.set_cons_zero, List.set_cons_succ])
  refine wpAnyH_ready (rs := [4]) (by kernel_rfl) (by simp) ?_
  refine AllReadyH.cons (o := ?_) ?hov9_ ?hstv9_ AllReadyH.nil
  case hov9_ => (simp only [List.getElem?_toArray, List.getElem?_cons_zero, List.getElem?_cons_succ]; rfl)
  intro K hK
  have b30 := row_cell TR10.out.2.2.1 0; have b31 := row_cell TR10.out.2.2.1 1; have b32 := row_cell TR10.out.2.2.1 2; have b33 := row_cell TR10.out.2.2.1 3; have b34 := row_cell TR10.out.2.2.1 4; have b3f := row_frz TR10.out.2.2.1; have b3l := row_lt TR10.out.2.2.1; go_simp
  have TR11 := Lib.hid (show ((((((((((w7.setCell ⟨w.heap.size + 1, 0, none⟩ (.int .i64 1)).setCell ⟨w.heap.size + 1, 1, none⟩ (.int .i64 (I + 1))).setCell ⟨w.heap.size + 1, 2, none⟩ (.float .f64 0)).setCell ⟨w.heap.size + 1, 3, none⟩ (.string ⟨#[]⟩)).setCell ⟨w.heap.size + 1, 4, none⟩ (.slice none 0 0)).setCell ⟨w.heap.size + 1 + 1, 0, none⟩ (.int .i64 4)).setCell ⟨w.heap.size + 1 + 1, 1, none⟩ (.int .i64 0)).setCell ⟨w.heap.size + 1 + 1, 2, none⟩ (.float .f64 0)).setCell ⟨w.heap.size + 1 + 1, 3, none⟩ (.string ⟨#[]⟩)).setCell ⟨w.heap.size + 1 + 1, 4, none⟩ (.slice q5 m5 d5)).heap[w.heap.size]? = some (.cells #[.int .i64 1, .int .i64 I, .float .f64 0, .string ⟨#[]⟩, .slice q m d] 27 (0, 0)) ∧ ((((((((((w7.setCell ⟨w.heap.size + 1, 0, none⟩ (.int .i64 1)).setCell ⟨w.heap.size + 1, 1, none⟩ (.int .i64 (I + 1))).setCell ⟨w.heap.size + 1, 2, none⟩ (.float .f64 0)).setCell ⟨w.heap.size + 1, 3, none⟩ (.string ⟨#[]⟩)).setCell ⟨w.heap.size + 1, 4, none⟩ (.slice none 0 0)).setCell ⟨w.heap.size + 1 + 1, 0, none⟩ (.int .i64 4)).setCell ⟨w.heap.size + 1 + 1, 1, none⟩ (.int .i64 0)).setCell ⟨w.heap.size + 1 + 1, 2, none⟩ (.float .f64 0)).setCell ⟨w.heap.size + 1 + 1, 3, none⟩ (.string ⟨#[]⟩)).setCell ⟨w.heap.size + 1 + 1, 4, none⟩ (.slice q5 m5 d5)).heap[w.heap.size + 1]? = some (.cells #[.int .i64 1, .int .i64 (I + 1), .float .f64 0, .string ⟨#[]⟩, .slice none 0 0] 27 (0, 0)) ∧ ((((((((((w7.setCell ⟨w.heap.size + 1, 0, none⟩ (.int .i64 1)).setCell ⟨w.heap.size + 1, 1, none⟩ (.int .i64 (I + 1))).setCell ⟨w.heap.size + 1, 2, none⟩ (.float .f64 0)).setCell ⟨w.heap.size + 1, 3, none⟩ (.string ⟨#[]⟩)).setCell ⟨w.heap.size + 1, 4, none⟩ (.slice none 0 0)).setCell ⟨w.heap.size + 1 + 1, 0, none⟩ (.int .i64 4)).setCell ⟨w.heap.size + 1 + 1, 1, none⟩ (.int .i64 0)).setCell ⟨w.heap.size + 1 + 1, 2, none⟩ (.float .f64 0)).setCell ⟨w.heap.size + 1 + 1, 3, none⟩ (.string ⟨#[]⟩)).setCell ⟨w.heap.size + 1 + 1, 4, none⟩ (.slice q5 m5 d5)).heap[w.heap.size + 1 + 1]? = some (.cells #[.int .i64 4, .int .i64 0, .float .f64 0, .string ⟨#[]⟩, .slice q5 m5 d5] 27 (0, 0)) ∧ (Stay w3.drew.heap.size w7 ((((((((((w7.setCell ⟨w.heap.size + 1, 0, none⟩ (.int .i64 1)).setCell ⟨w.heap.size + 1, 1, none⟩ (.int .i64 (I + 1))).setCell ⟨w.heap.size + 1, 2, none⟩ (.float .f64 0)).setCell ⟨w.heap.size + 1, 3, none⟩ (.string ⟨#[]⟩)).setCell ⟨w.heap.size + 1, 4, none⟩ (.slice none 0 0)).setCell ⟨w.heap.size + 1 + 1, 0, none⟩ (.int .i64 4)).setCell ⟨w.heap.size + 1 + 1, 1, none⟩ (.int .i64 0)).setCell ⟨w.heap.size + 1 + 1, 2, none⟩ (.float .f64 0)).setCell ⟨w.heap.size + 1 + 1, 3, none⟩ (.string ⟨#[]⟩)).setCell ⟨w.heap.size + 1 + 1, 4, none⟩ (.slice q5 m5 d5)) ∧ w7.heap.size ≤ ((((((((((w7.setCell ⟨w.heap.size + 1, 0, none⟩ (.int .i64 1)).setCell ⟨w.heap.size + 1, 1, none⟩ (.int .i64 (I + 1))).setCell ⟨w.heap.size + 1, 2, none⟩ (.float .f64 0)).setCell ⟨w.heap.size + 1, 3, none⟩ (.string ⟨#[]⟩)).setCell ⟨w.heap.size + 1, 4, none⟩ (.slice none 0 0)).setCell ⟨w.heap.size + 1 + 1, 0, none⟩ (.int .i64 4)).setCell ⟨w.heap.size + 1 + 1, 1, none⟩ (.int .i64 0)).setCell ⟨w.heap.size + 1 + 1, 2, none⟩ (.float .f64 0)).setCell ⟨w.heap.size + 1 + 1, 3, none⟩ (.string ⟨#[]⟩)).setCell ⟨w.heap.size + 1 + 1, 4, none⟩ (.slice q5 m5 d5)).heap.size) ∧ Below w.heap.size w ((((((((((w7.setCell ⟨w.heap.size + 1, 0, none⟩ (.int .i64 1)).setCell ⟨w.heap.size + 1, 1, none⟩ (.int .i64 (I + 1))).setCell ⟨w.heap.size + 1, 2, none⟩ (.float .f64 0)).setCell ⟨w.heap.size + 1, 3, none⟩ (.string ⟨#[]⟩)).setCell ⟨w.heap.size + 1, 4, none⟩ (.slice none 0 0)).setCell ⟨w.heap.size + 1 + 1, 0, none⟩ (.int .i64 4)).setCell ⟨w.heap.size + 1 + 1, 1, none⟩ (.int .i64 0)).setCell ⟨w.heap.size + 1 + 1, 2, none⟩ (.float .f64 0)).setCell ⟨w.heap.size + 1 + 1, 3, none⟩ (.string ⟨#[]⟩)).setCell ⟨w.heap.size + 1 + 1, 4, none⟩ (.slice q5 m5 d5)) from ⟨(set5_other (w := (((((w7.setCell ⟨w.heap.size + 1, 0, none⟩ (.int .i64 1)).setCell ⟨w.heap.size + 1, 1, none⟩ (.int .i64 (I + 1))).setCell ⟨w.heap.size + 1, 2, none⟩ (.float .f64 0)).setCell ⟨w.heap.size + 1, 3, none⟩ (.string ⟨#[]⟩)).setCell ⟨w.heap.size + 1, 4, none⟩ (.slice none 0 0))) (g := w.heap.size + 1 + 1) (o := 0) (by omega)).trans TR10.out.1, (set5_other (w := (((((w7.setCell ⟨w.heap.size + 1, 0, none⟩ (.int .i64 1)).setCell ⟨w.heap.size + 1, 1, none⟩ (.int .i64 (I + 1))).setCell ⟨w.heap.size + 1, 2, none⟩ (.float .f64 0)).setCell ⟨w.heap.size + 1, 3, none⟩ (.string ⟨#[]⟩)).setCell ⟨w.heap.size + 1, 4, none⟩ (.slice none 0 0))) (g := w.heap.size + 1 + 1) (o := 0) (by omega)).trans TR10.out.2.1, set5_row TR10.out.2.2.1 (.int .i64 4) (.int .i64 0) (.float .f64 0) (.string ⟨#[]⟩) (.slice q5 m5 d5), ⟨stay_set TR10.out.2.2.2.1.1 (by omega) (.int .i64 4) (.int .i64 0) (.float .f64 0) (.string ⟨#[]⟩) (.slice q5 m5 d5), by show _ ≤ (set5 (((((w7.setCell ⟨w.heap.size + 1, 0, none⟩ (.int .i64 1)).setCell ⟨w.heap.size + 1, 1, none⟩ (.int .i64 (I + 1))).setCell ⟨w.heap.size + 1, 2, none⟩ (.float .f64 0)).setCell ⟨w.heap.size + 1, 3, none⟩ (.string ⟨#[]⟩)).setCell ⟨w.heap.size + 1, 4, none⟩ (.slice none 0 0)) (w.heap.size + 1 + 1) 0 (.int .i64 4) (.int .i64 0) (.float .f64 0) (.string ⟨#[]⟩) (.slice q5 m5 d5)).heap.size; rw [set5_size]; exact TR10.out.2.2.2.1.2⟩, set5_below TR10.out.2.2.2.2 (by omega) (.int .i64 4) (.int .i64 0) (.float .f64 0) (.string ⟨#[]⟩) (.slice q5 m5 d5)⟩)
  clear TR10
  clear b30 b31 b32 b33 b34 b3f b3l
  go_wp2_with fail
  refine hK.out _ _ ?hsv9_ (fun hHeld => ?_)
  case hsv9_ => exact ⟨row_cell TR11.out.2.1 0, row_cell TR11.out.2.1 1, row_cell TR11.out.2.1 2, row_cell TR11.out.2.1 3, row_cell TR11.out.2.1 4⟩
  clear hK K
  (try simp only [Act.put, List.setIfInBounds_toArray, List.set_cons_zero, List.set_cons_succ])
  refine wpAnyH_take (i := 5) (oi := ?_) (v := ?_) ?hiu10_5 (by kernel_rfl) ?hfu10_5 ?hru10_5 ?hQu10_5 ?hyu10_5 (by assumption) ?restu10_5
  case hiu10_5 => (simp only [List.getElem?_toArray, List.getElem?_cons_zero, List.getElem?_cons_succ]; rfl)
  case hfu10_5 => kernel_rfl
  case hru10_5 => kernel_rfl
  case hyu10_5 => (refine Or.inl ⟨by rfl, ?_⟩; intro wS hSw; (try dsimp only at hSw); go_simp; (try with_reducible rfl))
  case hQu10_5 => exact fun _ _ _ h => h
  (try simp only [Act.put, List.setIfInBounds_toArray, List.set_cons_zero, List.set_cons_succ])
  refine wpAnyH_done (by kernel_rfl) ?_ _
  revert TR11
  generalize ((((((((((w7.setCell ⟨w.heap.size + 1, 0, none⟩ (.int .i64 1)).setCell ⟨w.heap.size + 1, 1, none⟩ (.int .i64 (I + 1))).setCell ⟨w.heap.size + 1, 2, none⟩ (.float .f64 0)).setCell ⟨w.heap.size + 1, 3, none⟩ (.string ⟨#[]⟩)).setCell ⟨w.heap.size + 1, 4, none⟩ (.slice none 0 0)).setCell ⟨w.heap.size + 1 + 1, 0, none⟩ (.int .i64 4)).setCell ⟨w.heap.size + 1 + 1, 1, none⟩ (.int .i64 0)).setCell ⟨w.heap.size + 1 + 1, 2, none⟩ (.float .f64 0)).setCell ⟨w.heap.size + 1 + 1, 3, none⟩ (.string ⟨#[]⟩)).setCell ⟨w.heap.size + 1 + 1, 4, none⟩ (.slice q5 m5 d5)) = Wf
  intro TR11
  have c1_0 := row_cell TR11.out.2.1 0
  have c1_1 := row_cell TR11.out.2.1 1
  have c1_2 := row_cell TR11.out.2.1 2
  have c1_3 := row_cell TR11.out.2.1 3
  have c1_4 := row_cell TR11.out.2.1 4
  have c1f := row_frz TR11.out.2.1
  have c1l := row_lt TR11.out.2.1
  have c2_0 := row_cell TR11.out.2.2.1 0
  have c2_1 := row_cell TR11.out.2.2.1 1
  have c2_2 := row_cell TR11.out.2.2.1 2
  have c2_3 := row_cell TR11.out.2.2.1 3
  have c2_4 := row_cell TR11.out.2.2.1 4
  have c2f := row_frz TR11.out.2.2.1
  have c2l := row_lt TR11.out.2.2.1
  go_wp2
  refine bodyPost_ret (v := .tuple #[.agg #[.int .i64 1, .int .i64 (I + 1), .float .f64 0, .string ⟨#[]⟩, .slice none 0 0], listV q5 m5 d5, .int .i64 0]) (by simp [results, Try.results104, go_sem, c1_0, c1_1, c1_2, c1_3, c1_4, c2_0, c2_1, c2_2, c2_3, c2_4]) rfl ⟨q5, m5, d5, rfl, TR11.out.2.2.2.2, ?_⟩
  exact repC_mono _ _ _ _ _ (fun b hb => Nat.le_of_lt (Nat.lt_of_lt_of_le hcw hb.1)) (repC_keep _ _ _ _ (fun b hb => TR11.out.2.2.2.1.1 b hb.1 hb.2) HC0.out)
end Num
end Go.Proofs.Ytpbfaffheigjcaa
