/-
  GuardRuns: the walk.
-/
import Derived.Test.YtgeicgfijnabkaaDoorGn
import Derived.Test.YtgeicgfijnabkaaDoorGh
import Derived.Test.YtgeicgfijnabkaaDoorMJ
import Derived.Test.YtgeicgfijnabkaaDoorVLt
import Derived.RegionTactic
import Derived.Deep.RegionHeld3
namespace Go.Proofs.YtgeicgfijnabkaaDoor
open Go.RowKit
namespace Num
open Ints
set_option linter.unusedSimpArgs false
set_option linter.unusedVariables false
theorem rep_zero (w : World) : Rep w 1 (.agg #[.int .i64 0, .int .i64 0, .float .f64 0, .string ⟨#[]⟩, .slice none 0 0]) (0, 0, 0, ⟨#[]⟩, []) :=
  ⟨none, 0, 0, rfl, (show okI 0 by decide), (show okI 0 by decide), (show (0 : Nat) < 2 ^ 64 by decide), (show (⟨#[]⟩ : ByteArray).size ≤ maxLen by decide), rfl, Nat.le_refl _, Nat.zero_le _, fun h => absurd h (Nat.lt_irrefl _)⟩
set_option maxRecDepth 100000 in
set_option maxHeartbeats 4000000 in
theorem runs_dark (n : Nat) (T : VT n) (K I : Int) (F : Nat) (Z : ByteArray) (q : Option Addr) (m d : Nat) (e h : Int) (S : ByteArray) (x : Int) (w : World) (hr : Rep w n (.agg #[.int .i64 K, .int .i64 I, .float .f64 F, .string Z, .slice q m d]) T) (hlt : lightT n T = false) : Calls Tryd.prog 3 #[.agg #[.int .i64 K, .int .i64 I, .float .f64 F, .string Z, .slice q m d], .int .u16 e, .int .u8 h, .string S, .int .i64 x] w fun e w' => e = .returned (.bool true) ∧ Below w.heap.size w w' := by
  have HBV := Lib.hid (bel_alloc (Below.refl w.heap.size w) (.cells #[.int .i64 K, .int .i64 I, .float .f64 F, .string Z, .slice q m d] 25))
  have HRV := Lib.hid (row_alloc w #[.int .i64 K, .int .i64 I, .float .f64 F, .string Z, .slice q m d] 25)
  have HR := Lib.hid (fun W (hb : Below w.heap.size w W) => rep_keep hb _ _ _ hr)
  clear hr
  go_enter Tryd.func3, Tryd.ntmps3
  go_wp2_with fail
  go_at_call 7; refine (known_any _).mono ?_; rintro eE w1 ⟨rfl, hb1⟩
  have HB1 := Lib.hid (bel_step HBV.out hb1)
  have r1 := row_step HRV.out hb1
  have HR1 := Lib.hid r1
  have c0 := row_cell r1 0; have c1 := row_cell r1 1; have c2 := row_cell r1 2; have c3 := row_cell r1 3; have c4 := row_cell r1 4
  simp only [List.getElem?_toArray, List.getElem?_cons_zero, List.getElem?_cons_succ] at c0 c1 c2 c3 c4
  have l1 := row_lt r1
  clear hb1 r1 HBV HRV
  go_wp2_with fail
  go_at_call 8; refine (light_any n _ T _ (HR.out _ HB1.out)).mono ?_; rintro eE w2 ⟨rfl, hb2⟩
  rw [hlt]
  have HB2 := Lib.hid (bel_step HB1.out hb2)
  have r2 := row_step HR1.out hb2
  have HR2 := Lib.hid r2
  clear c0 c1 c2 c3 c4 l1
  have c0 := row_cell r2 0; have c1 := row_cell r2 1; have c2 := row_cell r2 2; have c3 := row_cell r2 3; have c4 := row_cell r2 4
  simp only [List.getElem?_toArray, List.getElem?_cons_zero, List.getElem?_cons_succ] at c0 c1 c2 c3 c4
  have l2 := row_lt r2
  clear hb2 r2 HB1 HR1
  go_wp2
  go_ret
  exact ⟨rfl, HB2.out⟩
set_option maxRecDepth 100000 in
set_option maxHeartbeats 4000000 in
theorem runs_long (n : Nat) (T : VT n) (K I : Int) (F : Nat) (Z : ByteArray) (q : Option Addr) (m d : Nat) (e h : Int) (S : ByteArray) (x : Int) (w : World) (hr : Rep w n (.agg #[.int .i64 K, .int .i64 I, .float .f64 F, .string Z, .slice q m d]) T) (hlt : lightT n T = true) (hs : (40 : Int) < (S.size : Int)) : Calls Tryd.prog 3 #[.agg #[.int .i64 K, .int .i64 I, .float .f64 F, .string Z, .slice q m d], .int .u16 e, .int .u8 h, .string S, .int .i64 x] w fun e w' => e = .returned (.bool true) ∧ Below w.heap.size w w' := by
  have HBV := Lib.hid (bel_alloc (Below.refl w.heap.size w) (.cells #[.int .i64 K, .int .i64 I, .float .f64 F, .string Z, .slice q m d] 25))
  have HRV := Lib.hid (row_alloc w #[.int .i64 K, .int .i64 I, .float .f64 F, .string Z, .slice q m d] 25)
  have HR := Lib.hid (fun W (hb : Below w.heap.size w W) => rep_keep hb _ _ _ hr)
  clear hr
  go_enter Tryd.func3, Tryd.ntmps3
  go_wp2_with fail
  go_at_call 7; refine (known_any _).mono ?_; rintro eE w1 ⟨rfl, hb1⟩
  have HB1 := Lib.hid (bel_step HBV.out hb1)
  have r1 := row_step HRV.out hb1
  have HR1 := Lib.hid r1
  have c0 := row_cell r1 0; have c1 := row_cell r1 1; have c2 := row_cell r1 2; have c3 := row_cell r1 3; have c4 := row_cell r1 4
  simp only [List.getElem?_toArray, List.getElem?_cons_zero, List.getElem?_cons_succ] at c0 c1 c2 c3 c4
  have l1 := row_lt r1
  clear hb1 r1 HBV HRV
  go_wp2_with fail
  go_at_call 8; refine (light_any n _ T _ (HR.out _ HB1.out)).mono ?_; rintro eE w2 ⟨rfl, hb2⟩
  rw [hlt]
  have HB2 := Lib.hid (bel_step HB1.out hb2)
  have r2 := row_step HR1.out hb2
  have HR2 := Lib.hid r2
  clear c0 c1 c2 c3 c4 l1
  have c0 := row_cell r2 0; have c1 := row_cell r2 1; have c2 := row_cell r2 2; have c3 := row_cell r2 3; have c4 := row_cell r2 4
  simp only [List.getElem?_toArray, List.getElem?_cons_zero, List.getElem?_cons_succ] at c0 c1 c2 c3 c4
  have l2 := row_lt r2
  clear hb2 r2 HB1 HR1
  go_wp2
  go_ret
  exact ⟨rfl, HB2.out⟩
set_option maxRecDepth 100000 in
set_option maxHeartbeats 4000000 in
theorem runs_zero (n : Nat) (T : VT n) (K I : Int) (F : Nat) (Z : ByteArray) (q : Option Addr) (m d : Nat) (e h : Int) (S : ByteArray) (x : Int) (w : World) (hr : Rep w n (.agg #[.int .i64 K, .int .i64 I, .float .f64 F, .string Z, .slice q m d]) T) (hlt : lightT n T = true) (hwd : wideT n T) (hS : S.size ≤ 40) (h0 : 0 ≤ h) (he : e = 0) : Calls Tryd.prog 3 #[.agg #[.int .i64 K, .int .i64 I, .float .f64 F, .string Z, .slice q m d], .int .u16 e, .int .u8 h, .string S, .int .i64 x] w fun e w' => e = .returned (.bool true) ∧ Below w.heap.size w w' := by
  subst he
  have hs0 : (S.size : Int) ≤ 40 := by omega
  have HBV := Lib.hid (bel_alloc (Below.refl w.heap.size w) (.cells #[.int .i64 K, .int .i64 I, .float .f64 F, .string Z, .slice q m d] 25))
  have HRV := Lib.hid (row_alloc w #[.int .i64 K, .int .i64 I, .float .f64 F, .string Z, .slice q m d] 25)
  have HR := Lib.hid (fun W (hb : Below w.heap.size w W) => rep_keep hb _ _ _ hr)
  clear hr
  go_enter Tryd.func3, Tryd.ntmps3
  go_wp2_with fail
  go_at_call 7; refine (known_any _).mono ?_; rintro eE w1 ⟨rfl, hb1⟩
  have HB1 := Lib.hid (bel_step HBV.out hb1)
  have r1 := row_step HRV.out hb1
  have HR1 := Lib.hid r1
  have c0 := row_cell r1 0; have c1 := row_cell r1 1; have c2 := row_cell r1 2; have c3 := row_cell r1 3; have c4 := row_cell r1 4
  simp only [List.getElem?_toArray, List.getElem?_cons_zero, List.getElem?_cons_succ] at c0 c1 c2 c3 c4
  have l1 := row_lt r1
  clear hb1 r1 HBV HRV
  go_wp2_with fail
  go_at_call 8; refine (light_any n _ T _ (HR.out _ HB1.out)).mono ?_; rintro eE w2 ⟨rfl, hb2⟩
  rw [hlt]
  have HB2 := Lib.hid (bel_step HB1.out hb2)
  have r2 := row_step HR1.out hb2
  have HR2 := Lib.hid r2
  clear c0 c1 c2 c3 c4 l1
  have c0 := row_cell r2 0; have c1 := row_cell r2 1; have c2 := row_cell r2 2; have c3 := row_cell r2 3; have c4 := row_cell r2 4
  simp only [List.getElem?_toArray, List.getElem?_cons_zero, List.getElem?_cons_succ] at c0 c1 c2 c3 c4
  have l2 := row_lt r2
  clear hb2 r2 HB1 HR1
  go_wp2_with fail
  go_at_call 10; refine (told_row K I F Z q m d _ _).mono ?_; rintro eE w3 ⟨b0, b1, rfl, hb3, q0, q1'⟩
  have HB3 := Lib.hid (bel_step HB2.out hb3)
  have HR3 := Lib.hid (row_step HR2.out hb3)
  have HRUN := Lib.hid (run_told_ok K I F Z q m d n T b0 b1 w3 q0 q1' (HR.out _ HB3.out) hwd)
  clear hb3 q0 q1' c0 c1 c2 c3 c4 l2 HR2 HB2
  go_wp2_with fail
  go_at_call 9; refine HRUN.out.mono ?_; rintro eE w4 ⟨v', T', rfl, hb4, hr4, ht⟩
  obtain ⟨K1, I1, F1, Z1, q1, m1, d1, rfl⟩ : ∃ (K I : Int) (F : Nat) (S : ByteArray) (q : Option Addr) (m d : Nat), v' = .agg #[.int .i64 K, .int .i64 I, .float .f64 F, .string S, .slice q m d] := by
    cases n with
    | zero => exact hr4.elim
    | succ n => obtain ⟨q, m, d, hv, _⟩ := hr4; exact ⟨_, _, _, _, q, m, d, hv⟩
  have HBX := Lib.hid (bel_alloc (bel_step HB3.out hb4) (.cells #[.int .i64 K1, .int .i64 I1, .float .f64 F1, .string Z1, .slice q1 m1 d1] 25))
  have HRX := Lib.hid (show (w4.alloc (.cells #[.int .i64 K1, .int .i64 I1, .float .f64 F1, .string Z1, .slice q1 m1 d1] 25)).heap[w.heap.size]? = some (.cells #[.int .i64 K, .int .i64 I, .float .f64 F, .string Z, .slice q m d] 25 (0, 0)) from row_alloc_step (row_step HR3.out hb4) _)
  have HXX := Lib.hid (row_alloc w4 #[.int .i64 K1, .int .i64 I1, .float .f64 F1, .string Z1, .slice q1 m1 d1] 25)
  have HR4 := Lib.hid (rep_keep (bel_alloc (Below.refl _ _) (.cells #[.int .i64 K1, .int .i64 I1, .float .f64 F1, .string Z1, .slice q1 m1 d1] 25)) _ _ _ hr4)
  have HCT := Lib.hid (show cleanT n T' = cleanT n T by rcases ht with h | h; exact congrArg _ h; rw [h]; exact clean_gc n T)
  have HWT := Lib.hid (show wideT n T' by rcases ht with h | h; exact h ▸ hwd; rw [h]; exact wide_gc n T hwd)
  have HWD := Lib.hid hwd
  have HS := Lib.hid hS
  clear hb4 hr4 ht hwd HB3 HR3 HRUN hS
  go_wp2
  revert HBX HRX HXX HR4
  generalize (w4.alloc (.cells #[.int .i64 K1, .int .i64 I1, .float .f64 F1, .string Z1, .slice q1 m1 d1] 25)) = wx
  generalize w4.heap.size = bx
  intro HBX HRX HXX HR4
  have HALL := Lib.hid (show ∀ W, Below wx.heap.size wx W → (fun z => z.cell? ⟨bx, 0, none⟩ = some (.int .i64 K1) ∧ z.cell? ⟨bx, 1, none⟩ = some (.int .i64 I1) ∧ z.cell? ⟨bx, 2, none⟩ = some (.float .f64 F1) ∧ z.cell? ⟨bx, 3, none⟩ = some (.string Z1) ∧ z.cell? ⟨bx, 4, none⟩ = some (.slice q1 m1 d1) ∧ z.cell? ⟨w.heap.size, 0, none⟩ = some (.int .i64 K) ∧ z.cell? ⟨w.heap.size, 1, none⟩ = some (.int .i64 I) ∧ z.cell? ⟨w.heap.size, 2, none⟩ = some (.float .f64 F) ∧ z.cell? ⟨w.heap.size, 3, none⟩ = some (.string Z) ∧ z.cell? ⟨w.heap.size, 4, none⟩ = some (.slice q m d)) W from fun W hb => by
    have a := row_step HXX.out hb
    have b := row_step HRX.out hb
    exact ⟨row_cell a 0, row_cell a 1, row_cell a 2, row_cell a 3, row_cell a 4, row_cell b 0, row_cell b 1, row_cell b 2, row_cell b 3, row_cell b 4⟩)
  refine wp_region_held_drew (S := (fun z => z.cell? ⟨bx, 0, none⟩ = some (.int .i64 K1) ∧ z.cell? ⟨bx, 1, none⟩ = some (.int .i64 I1) ∧ z.cell? ⟨bx, 2, none⟩ = some (.float .f64 F1) ∧ z.cell? ⟨bx, 3, none⟩ = some (.string Z1) ∧ z.cell? ⟨bx, 4, none⟩ = some (.slice q1 m1 d1) ∧ z.cell? ⟨w.heap.size, 0, none⟩ = some (.int .i64 K) ∧ z.cell? ⟨w.heap.size, 1, none⟩ = some (.int .i64 I) ∧ z.cell? ⟨w.heap.size, 2, none⟩ = some (.float .f64 F) ∧ z.cell? ⟨w.heap.size, 3, none⟩ = some (.string Z) ∧ z.cell? ⟨w.heap.size, 4, none⟩ = some (.slice q m d))) (by kernel_rfl) ?_ (fun hHeld => ?_)
  · exact HALL.out _ (Below.drew (Below.refl _ _))
  have HD9 := Lib.hid (show Below wx.heap.size wx wx.drew from Below.drew (Below.refl _ _))
  revert HD9 hHeld
  generalize wx.drew = Wd
  intro hHeld HD9
  refine wpAnyH_take (i := 0) (oi := ?_) (v := ?_) ?hiA0 (by kernel_rfl) ?hfA0 ?hrA0 ?hQA0 ?hyA0 (by assumption) ?restA0
  case hiA0 => (simp only [List.getElem?_toArray, List.getElem?_cons_zero, List.getElem?_cons_succ]; rfl)
  case hfA0 => kernel_rfl
  case hrA0 => kernel_rfl
  case hyA0 => (refine Or.inl ⟨by rfl, ?_⟩; intro wS hSw; (try dsimp only at hSw); go_simp; (try with_reducible rfl))
  case hQA0 => exact fun _ _ _ h => h
  (try simp only [Act.put, List.setIfInBounds_toArray, List.set_cons_zero, List.set_cons_succ])
  refine wpAnyH_take (i := 1) (oi := ?_) (v := ?_) ?hiA1 (by kernel_rfl) ?hfA1 ?hrA1 ?hQA1 ?hyA1 (by assumption) ?restA1
  case hiA1 => (simp only [List.getElem?_toArray, List.getElem?_cons_zero, List.getElem?_cons_succ]; rfl)
  case hfA1 => kernel_rfl
  case hrA1 => kernel_rfl
  case hyA1 => (refine Or.inl ⟨by rfl, ?_⟩; intro wS hSw; (try dsimp only at hSw); go_simp; (try with_reducible rfl))
  case hQA1 => exact fun _ _ _ h => h
  (try simp only [Act.put, List.setIfInBounds_toArray, List.set_cons_zero, List.set_cons_succ])
  refine wpAnyH_take (i := 2) (oi := ?_) (v := ?_) ?hiA2 (by kernel_rfl) ?hfA2 ?hrA2 ?hQA2 ?hyA2 (by assumption) ?restA2
  case hiA2 => (simp only [List.getElem?_toArray, List.getElem?_cons_zero, List.getElem?_cons_succ]; rfl)
  case hfA2 => kernel_rfl
  case hrA2 => kernel_rfl
  case hyA2 => (refine Or.inl ⟨by rfl, ?_⟩; intro wS hSw; (try dsimp only at hSw); go_simp; (try with_reducible rfl))
  case hQA2 => exact fun _ _ _ h => h
  (try simp only [Act.put, List.setIfInBounds_toArray, List.set_cons_zero, List.set_cons_succ])
  refine wpAnyH_take (i := 3) (oi := ?_) (v := ?_) ?hiA3 (by kernel_rfl) ?hfA3 ?hrA3 ?hQA3 ?hyA3 (by assumption) ?restA3
  case hiA3 => (simp only [List.getElem?_toArray, List.getElem?_cons_zero, List.getElem?_cons_succ]; rfl)
  case hfA3 => kernel_rfl
  case hrA3 => kernel_rfl
  case hyA3 => (refine Or.inl ⟨by rfl, ?_⟩; intro wS hSw; (try dsimp only at hSw); go_simp; (try with_reducible rfl))
  case hQA3 => exact fun _ _ _ h => h
  (try simp only [Act.put, List.setIfInBounds_toArray, List.set_cons_zero, List.set_cons_succ])
  refine wpAnyH_take (i := 4) (oi := ?_) (v := ?_) ?hiA4 (by kernel_rfl) ?hfA4 ?hrA4 ?hQA4 ?hyA4 (by assumption) ?restA4
  case hiA4 => (simp only [List.getElem?_toArray, List.getElem?_cons_zero, List.getElem?_cons_succ]; rfl)
  case hfA4 => kernel_rfl
  case hrA4 => kernel_rfl
  case hyA4 => (refine Or.inl ⟨by rfl, ?_⟩; intro wS hSw; (try dsimp only at hSw); go_simp; (try with_reducible rfl))
  case hQA4 => exact fun _ _ _ h => h
  (try simp only [Act.put, List.setIfInBounds_toArray, List.set_cons_zero, List.set_cons_succ])
  refine wpAnyH_take (i := 5) (oi := ?_) (v := ?_) ?hiA5 (by kernel_rfl) ?hfA5 ?hrA5 ?hQA5 ?hyA5 (by assumption) ?restA5
  case hiA5 => (simp only [List.getElem?_toArray, List.getElem?_cons_zero, List.getElem?_cons_succ]; rfl)
  case hfA5 => kernel_rfl
  case hrA5 => kernel_rfl
  case hyA5 => (refine Or.inl ⟨by rfl, ?_⟩; intro wS hSw; (try dsimp only at hSw); go_simp; (try with_reducible rfl))
  case hQA5 => exact fun _ _ _ h => h
  (try simp only [Act.put, List.setIfInBounds_toArray, List.set_cons_zero, List.set_cons_succ])
  refine wpAnyH_take (i := 6) (oi := ?_) (v := ?_) ?hiA6 (by kernel_rfl) ?hfA6 ?hrA6 ?hQA6 ?hyA6 (by assumption) ?restA6
  case hiA6 => (simp only [List.getElem?_toArray, List.getElem?_cons_zero, List.getElem?_cons_succ]; rfl)
  case hfA6 => kernel_rfl
  case hrA6 => kernel_rfl
  case hyA6 => (refine Or.inl ⟨by rfl, ?_⟩; intro wS hSw; (try dsimp only at hSw); go_simp; (try with_reducible rfl))
  case hQA6 => exact fun _ _ _ h => h
  (try simp only [Act.put, List.setIfInBounds_toArray, List.set_cons_zero, List.set_cons_succ])
  refine wpAnyH_take (i := 7) (oi := ?_) (v := ?_) ?hiA7 (by kernel_rfl) ?hfA7 ?hrA7 ?hQA7 ?hyA7 (by assumption) ?restA7
  case hiA7 => (simp only [List.getElem?_toArray, List.getElem?_cons_zero, List.getElem?_cons_succ]; rfl)
  case hfA7 => kernel_rfl
  case hrA7 => kernel_rfl
  case hyA7 => (refine Or.inl ⟨by rfl, ?_⟩; intro wS hSw; (try dsimp only at hSw); go_simp; (try with_reducible rfl))
  case hQA7 => exact fun _ _ _ h => h
  (try simp only [Act.put, List.setIfInBounds_toArray, List.set_cons_zero, List.set_cons_succ])
  refine wpAnyH_take (i := 8) (oi := ?_) (v := ?_) ?hiA8 (by kernel_rfl) ?hfA8 ?hrA8 ?hQA8 ?hyA8 (by assumption) ?restA8
  case hiA8 => (simp only [List.getElem?_toArray, List.getElem?_cons_zero, List.getElem?_cons_succ]; rfl)
  case hfA8 => kernel_rfl
  case hrA8 => kernel_rfl
  case hyA8 => (refine Or.inl ⟨by rfl, ?_⟩; intro wS hSw; (try dsimp only at hSw); go_simp; (try with_reducible rfl))
  case hQA8 => exact fun _ _ _ h => h
  (try simp only [Act.put, List.setIfInBounds_toArray, List.set_cons_zero, List.set_cons_succ])
  refine wpAnyH_take (i := 10) (oi := ?_) (v := ?_) ?hiA10 (by kernel_rfl) ?hfA10 ?hrA10 ?hQA10 ?hyA10 (by assumption) ?restA10
  case hiA10 => (simp only [List.getElem?_toArray, List.getElem?_cons_zero, List.getElem?_cons_succ]; rfl)
  case hfA10 => kernel_rfl
  case hrA10 => kernel_rfl
  case hyA10 => (refine Or.inl ⟨by rfl, ?_⟩; intro wS hSw; (try dsimp only at hSw); go_simp; (try with_reducible rfl))
  case hQA10 => exact fun _ _ _ h => h
  (try simp only [Act.put, List.setIfInBounds_toArray, List.set_cons_zero, List.set_cons_succ])
  refine wpAnyH_ready (rs := [9]) (by kernel_rfl) (by simp) ?_
  refine AllReadyH.cons (o := ?_) ?hoA9 ?hstA9 AllReadyH.nil
  case hoA9 => (simp only [List.getElem?_toArray, List.getElem?_cons_zero, List.getElem?_cons_succ]; rfl)
  intro K hK
  go_simp
  go_at_call 12; refine (clean_anyP n 0 _ T' _ HWT.out (rep_keep HD9.out _ _ _ HR4.out)).mono ?_; rintro eE w10 ⟨vx, rfl, hb10, hrx⟩; have HX10 := Lib.hid (repS_rep _ _ _ hrx); obtain ⟨K5, I5, F5, Z5, q5, m5, d5, rfl, _⟩ := repS_shape hrx; have HW10 := Lib.hid (bel_step HD9.out hb10); clear hb10 hrx
  go_wp2_with fail
  refine hK.out _ _ ?hsA9 (fun hHeld => ?_)
  case hsA9 => exact HALL.out _ HW10.out
  clear hK K
  (try simp only [Act.put, List.setIfInBounds_toArray, List.set_cons_zero, List.set_cons_succ])
  refine wpAnyH_ready (rs := [11]) (by kernel_rfl) (by simp) ?_
  refine AllReadyH.cons (o := ?_) ?hoA11 ?hstA11 AllReadyH.nil
  case hoA11 => (simp only [List.getElem?_toArray, List.getElem?_cons_zero, List.getElem?_cons_succ]; rfl)
  intro K hK
  go_simp
  go_at_call 12; refine (clean_anyP n 0 _ T _ HWD.out (HR.out _ (HBX.out.trans (HW10.out.mono HBX.out.size)))).mono ?_; rintro eE w11 ⟨vy, rfl, hb11, hry⟩; have HX11 := Lib.hid (rep_keep hb11 _ _ _ HX10.out); have HY11 := Lib.hid (repS_rep _ _ _ hry); obtain ⟨K6, I6, F6, Z6, q6, m6, d6, rfl, _⟩ := repS_shape hry; have HW11 := Lib.hid (bel_step HW10.out hb11); clear hb11 hry
  go_wp2_with fail
  refine hK.out _ _ ?hsA11 (fun hHeld => ?_)
  case hsA11 => exact HALL.out _ HW11.out
  clear hK K
  (try simp only [Act.put, List.setIfInBounds_toArray, List.set_cons_zero, List.set_cons_succ])
  refine wpAnyH_ready (rs := [12]) (by kernel_rfl) (by simp) ?_
  refine AllReadyH.cons (o := ?_) ?hoA12 ?hstA12 AllReadyH.nil
  case hoA12 => (simp only [List.getElem?_toArray, List.getElem?_cons_zero, List.getElem?_cons_succ]; rfl)
  intro K hK
  go_simp
  go_at_call 11; refine (same_any n _ _ (cleanT n T) _ (HCT.out ▸ HX11.out) HY11.out).mono ?_; rintro eE w12 ⟨rfl, hb12⟩; have HWE := Lib.hid (bel_step HW11.out hb12); clear hb12
  go_wp2_with fail
  refine hK.out _ _ ?hsA12 (fun hHeld => ?_)
  case hsA12 => exact HALL.out _ HWE.out
  clear hK K
  (try simp only [Act.put, List.setIfInBounds_toArray, List.set_cons_zero, List.set_cons_succ])
  refine wpAnyH_take (i := 13) (oi := ?_) (v := ?_) ?hiA13 (by kernel_rfl) ?hfA13 ?hrA13 ?hQA13 ?hyA13 (by assumption) ?restA13
  case hiA13 => (simp only [List.getElem?_toArray, List.getElem?_cons_zero, List.getElem?_cons_succ]; rfl)
  case hfA13 => kernel_rfl
  case hrA13 => kernel_rfl
  case hyA13 => (refine Or.inl ⟨by rfl, ?_⟩; intro wS hSw; (try dsimp only at hSw); go_simp; (try with_reducible rfl))
  case hQA13 => exact fun _ _ _ h => h
  (try simp only [Act.put, List.setIfInBounds_toArray, List.set_cons_zero, List.set_cons_succ])
  refine wpAnyH_take (i := 14) (oi := ?_) (v := ?_) ?hiA14 (by kernel_rfl) ?hfA14 ?hrA14 ?hQA14 ?hyA14 (by assumption) ?restA14
  case hiA14 => (simp only [List.getElem?_toArray, List.getElem?_cons_zero, List.getElem?_cons_succ]; rfl)
  case hfA14 => kernel_rfl
  case hrA14 => kernel_rfl
  case hyA14 => (refine Or.inl ⟨by rfl, ?_⟩; intro wS hSw; (try dsimp only at hSw); go_simp; (try with_reducible rfl))
  case hQA14 => exact fun _ _ _ h => h
  (try simp only [Act.put, List.setIfInBounds_toArray, List.set_cons_zero, List.set_cons_succ])
  refine wpAnyH_take (i := 15) (oi := ?_) (v := ?_) ?hiA15 (by kernel_rfl) ?hfA15 ?hrA15 ?hQA15 ?hyA15 (by assumption) ?restA15
  case hiA15 => (simp only [List.getElem?_toArray, List.getElem?_cons_zero, List.getElem?_cons_succ]; rfl)
  case hfA15 => kernel_rfl
  case hrA15 => kernel_rfl
  case hyA15 => (refine Or.inl ⟨by rfl, ?_⟩; intro wS hSw; (try dsimp only at hSw); go_simp; (try with_reducible rfl))
  case hQA15 => exact fun _ _ _ h => h
  (try simp only [Act.put, List.setIfInBounds_toArray, List.set_cons_zero, List.set_cons_succ])
  refine wpAnyH_take (i := 16) (oi := ?_) (v := ?_) ?hiA16 (by kernel_rfl) ?hfA16 ?hrA16 ?hQA16 ?hyA16 (by assumption) ?restA16
  case hiA16 => (simp only [List.getElem?_toArray, List.getElem?_cons_zero, List.getElem?_cons_succ]; rfl)
  case hfA16 => kernel_rfl
  case hrA16 => kernel_rfl
  case hyA16 => (refine Or.inl ⟨by rfl, ?_⟩; intro wS hSw; (try dsimp only at hSw); go_simp; (try with_reducible rfl))
  case hQA16 => exact fun _ _ _ h => h
  (try simp only [Act.put, List.setIfInBounds_toArray, List.set_cons_zero, List.set_cons_succ])
  refine wpAnyH_take (i := 17) (oi := ?_) (v := ?_) ?hiA17 (by kernel_rfl) ?hfA17 ?hrA17 ?hQA17 ?hyA17 (by assumption) ?restA17
  case hiA17 => (simp only [List.getElem?_toArray, List.getElem?_cons_zero, List.getElem?_cons_succ]; rfl)
  case hfA17 => kernel_rfl
  case hrA17 => kernel_rfl
  case hyA17 => (refine Or.inl ⟨by rfl, ?_⟩; intro wS hSw; (try dsimp only at hSw); go_simp; (try with_reducible rfl))
  case hQA17 => exact fun _ _ _ h => h
  (try simp only [Act.put, List.setIfInBounds_toArray, List.set_cons_zero, List.set_cons_succ])
  refine wpAnyH_take (i := 18) (oi := ?_) (v := ?_) ?hiA18 (by kernel_rfl) ?hfA18 ?hrA18 ?hQA18 ?hyA18 (by assumption) ?restA18
  case hiA18 => (simp only [List.getElem?_toArray, List.getElem?_cons_zero, List.getElem?_cons_succ]; rfl)
  case hfA18 => kernel_rfl
  case hrA18 => kernel_rfl
  case hyA18 => (refine Or.inl ⟨by rfl, ?_⟩; intro wS hSw; (try dsimp only at hSw); go_simp; (try with_reducible rfl))
  case hQA18 => exact fun _ _ _ h => h
  (try simp only [Act.put, List.setIfInBounds_toArray, List.set_cons_zero, List.set_cons_succ])
  refine wpAnyH_take (i := 19) (oi := ?_) (v := ?_) ?hiA19 (by kernel_rfl) ?hfA19 ?hrA19 ?hQA19 ?hyA19 (by assumption) ?restA19
  case hiA19 => (simp only [List.getElem?_toArray, List.getElem?_cons_zero, List.getElem?_cons_succ]; rfl)
  case hfA19 => kernel_rfl
  case hrA19 => kernel_rfl
  case hyA19 => (refine Or.inl ⟨by rfl, ?_⟩; intro wS hSw; (try dsimp only at hSw); go_simp; (try with_reducible rfl))
  case hQA19 => exact fun _ _ _ h => h
  (try simp only [Act.put, List.setIfInBounds_toArray, List.set_cons_zero, List.set_cons_succ])
  refine wpAnyH_take (i := 20) (oi := ?_) (v := undef) ?hiA20 (by kernel_rfl) ?hfA20 ?hrA20 ?hQA20 ?hyA20 (by assumption) ?restA20
  case hiA20 => (simp only [List.getElem?_toArray, List.getElem?_cons_zero, List.getElem?_cons_succ]; rfl)
  case hfA20 => kernel_rfl
  case hrA20 => kernel_rfl
  case hyA20 => exact Or.inr ⟨by rfl, rfl⟩
  case hQA20 => exact fun _ _ _ h => h
  (try simp only [Act.put, List.setIfInBounds_toArray, List.set_cons_zero, List.set_cons_succ])
  refine wpAnyH_take (i := 21) (oi := ?_) (v := undef) ?hiA21 (by kernel_rfl) ?hfA21 ?hrA21 ?hQA21 ?hyA21 (by assumption) ?restA21
  case hiA21 => (simp only [List.getElem?_toArray, List.getElem?_cons_zero, List.getElem?_cons_succ]; rfl)
  case hfA21 => kernel_rfl
  case hrA21 => kernel_rfl
  case hyA21 => exact Or.inr ⟨by rfl, rfl⟩
  case hQA21 => exact fun _ _ _ h => h
  (try simp only [Act.put, List.setIfInBounds_toArray, List.set_cons_zero, List.set_cons_succ])
  refine wpAnyH_take (i := 22) (oi := ?_) (v := undef) ?hiA22 (by kernel_rfl) ?hfA22 ?hrA22 ?hQA22 ?hyA22 (by assumption) ?restA22
  case hiA22 => (simp only [List.getElem?_toArray, List.getElem?_cons_zero, List.getElem?_cons_succ]; rfl)
  case hfA22 => kernel_rfl
  case hrA22 => kernel_rfl
  case hyA22 => exact Or.inr ⟨by rfl, rfl⟩
  case hQA22 => exact fun _ _ _ h => h
  (try simp only [Act.put, List.setIfInBounds_toArray, List.set_cons_zero, List.set_cons_succ])
  refine wpAnyH_take (i := 23) (oi := ?_) (v := undef) ?hiA23 (by kernel_rfl) ?hfA23 ?hrA23 ?hQA23 ?hyA23 (by assumption) ?restA23
  case hiA23 => (simp only [List.getElem?_toArray, List.getElem?_cons_zero, List.getElem?_cons_succ]; rfl)
  case hfA23 => kernel_rfl
  case hrA23 => kernel_rfl
  case hyA23 => exact Or.inr ⟨by rfl, rfl⟩
  case hQA23 => exact fun _ _ _ h => h
  (try simp only [Act.put, List.setIfInBounds_toArray, List.set_cons_zero, List.set_cons_succ])
  refine wpAnyH_take (i := 24) (oi := ?_) (v := ?_) ?hiA24 (by kernel_rfl) ?hfA24 ?hrA24 ?hQA24 ?hyA24 (by assumption) ?restA24
  case hiA24 => (simp only [List.getElem?_toArray, List.getElem?_cons_zero, List.getElem?_cons_succ]; rfl)
  case hfA24 => kernel_rfl
  case hrA24 => kernel_rfl
  case hyA24 => (refine Or.inl ⟨by rfl, ?_⟩; intro wS hSw; (try dsimp only at hSw); go_simp; (try with_reducible rfl))
  case hQA24 => exact fun _ _ _ h => h
  (try simp only [Act.put, List.setIfInBounds_toArray, List.set_cons_zero, List.set_cons_succ])
  refine wpAnyH_take (i := 25) (oi := ?_) (v := ?_) ?hiA25 (by kernel_rfl) ?hfA25 ?hrA25 ?hQA25 ?hyA25 (by assumption) ?restA25
  case hiA25 => (simp only [List.getElem?_toArray, List.getElem?_cons_zero, List.getElem?_cons_succ]; rfl)
  case hfA25 => kernel_rfl
  case hrA25 => kernel_rfl
  case hyA25 => (refine Or.inl ⟨by rfl, ?_⟩; intro wS hSw; (try dsimp only at hSw); go_simp; (try with_reducible rfl))
  case hQA25 => exact fun _ _ _ h => h
  (try simp only [Act.put, List.setIfInBounds_toArray, List.set_cons_zero, List.set_cons_succ])
  refine wpAnyH_done (by kernel_rfl) ?_ _
  have hS := HS.out
  have HBW := HWE
  clear hHeld
  go_wp2_with fail
  go_at_call 13; refine (rises_row h S x _).mono ?_; rintro eE w6 ⟨b2, b3, b4, rfl, hb6, q0, q1', q2⟩
  have HB6 := Lib.hid (bel_step (HBX.out.trans (HBW.out.mono HBX.out.size)) hb6)
  have HRU := Lib.hid (run_rises h S x b2 b3 b4 w6 hS h0 q0 q1' q2)
  clear hb6 q0 q1' q2 HBW
  go_wp2_with fail
  go_at_call 9; refine HRU.out.mono ?_; rintro eE w7 ⟨rfl, hb7⟩
  have HB7 := Lib.hid (bel_alloc (bel_step HB6.out hb7) (.cells #[.int .i64 0, .int .i64 0, .float .f64 0, .string ⟨#[]⟩, .slice none 0 0] 25))
  have HY7 := Lib.hid (row_alloc w7 #[.int .i64 0, .int .i64 0, .float .f64 0, .string ⟨#[]⟩, .slice none 0 0] 25)
  clear hb7
  go_wp2_with fail
  go_at_call 9; refine (run_nil _).mono ?_; rintro eE w8 ⟨rfl, hb8⟩
  have HB8 := Lib.hid (bel_alloc (bel_step HB7.out hb8) (.cells #[.int .i64 0, .int .i64 0, .float .f64 0, .string ⟨#[]⟩, .slice none 0 0] 25))
  have hy8 := row_alloc_step (row_step HY7.out hb8) (.cells #[.int .i64 0, .int .i64 0, .float .f64 0, .string ⟨#[]⟩, .slice none 0 0] 25)
  have hz8 := row_alloc w8 #[.int .i64 0, .int .i64 0, .float .f64 0, .string ⟨#[]⟩, .slice none 0 0] 25
  have HY8 := Lib.hid hy8
  have HZ8 := Lib.hid hz8
  have HYL := Lib.hid (row_lt (row_step HY7.out hb8))
  have y0 := row_cell hy8 0; have y1 := row_cell hy8 1; have y2 := row_cell hy8 2; have y3 := row_cell hy8 3; have y4 := row_cell hy8 4
  simp only [List.getElem?_toArray, List.getElem?_cons_zero, List.getElem?_cons_succ] at y0 y1 y2 y3 y4
  have ly := row_lt hy8
  have lz := row_lt hz8
  clear hb8 hy8 hz8
  go_wp2_with fail
  go_at_call 11; refine (same_any 1 _ _ (0, 0, 0, ⟨#[]⟩, []) _ (rep_zero _) (rep_zero _)).mono ?_; rintro eE w9 ⟨rfl, hb9⟩
  have HB9 := Lib.hid (bel_step HB8.out hb9)
  have hz9 := row_step HZ8.out hb9
  have z0 := row_cell hz9 0; have z1 := row_cell hz9 1; have z2 := row_cell hz9 2; have z3 := row_cell hz9 3; have z4 := row_cell hz9 4
  simp only [List.getElem?_toArray, List.getElem?_cons_zero, List.getElem?_cons_succ] at z0 z1 z2 z3 z4
  have lz9 := row_lt hz9
  clear hb9 hz9 y0 y1 y2 y3 y4 ly lz
  go_wp2_with fail
  go_at_call 11; refine (same_any 1 _ _ (0, 0, 0, ⟨#[]⟩, []) _ (rep_zero _) (rep_zero _)).mono ?_; rintro eE w10 ⟨rfl, hb10⟩
  have HB10 := Lib.hid (bel_step HB9.out hb10)
  clear hb10
  go_wp2
  go_ret
  exact ⟨rfl, HB10.out⟩
set_option maxRecDepth 100000 in
set_option maxHeartbeats 4000000 in
theorem runs_err (n : Nat) (T : VT n) (K I : Int) (F : Nat) (Z : ByteArray) (q : Option Addr) (m d : Nat) (e h : Int) (S : ByteArray) (x : Int) (w : World) (hr : Rep w n (.agg #[.int .i64 K, .int .i64 I, .float .f64 F, .string Z, .slice q m d]) T) (hlt : lightT n T = true) (hS : S.size ≤ 40) (h0 : 0 ≤ h) (he0 : 0 < e) (he1 : e ≤ 65535) : Calls Tryd.prog 3 #[.agg #[.int .i64 K, .int .i64 I, .float .f64 F, .string Z, .slice q m d], .int .u16 e, .int .u8 h, .string S, .int .i64 x] w fun e w' => e = .returned (.bool true) ∧ Below w.heap.size w w' := by
  have hs0 : (S.size : Int) ≤ 40 := by omega
  have hne : (e != 0) = true := by simp; omega
  have hne2 : (e == 0) = false := by simp; omega
  have hwe : IntKind.i64.wrap e = e := by rw [IntKind.wrap_i64]; omega
  have hee : (e != e) = false := by simp
  have HBV := Lib.hid (bel_alloc (Below.refl w.heap.size w) (.cells #[.int .i64 K, .int .i64 I, .float .f64 F, .string Z, .slice q m d] 25))
  have HRV := Lib.hid (row_alloc w #[.int .i64 K, .int .i64 I, .float .f64 F, .string Z, .slice q m d] 25)
  have HR := Lib.hid (fun W (hb : Below w.heap.size w W) => rep_keep hb _ _ _ hr)
  clear hr
  go_enter Tryd.func3, Tryd.ntmps3
  go_wp2_with fail
  go_at_call 7; refine (known_any _).mono ?_; rintro eE w1 ⟨rfl, hb1⟩
  have HB1 := Lib.hid (bel_step HBV.out hb1)
  have r1 := row_step HRV.out hb1
  have HR1 := Lib.hid r1
  have c0 := row_cell r1 0; have c1 := row_cell r1 1; have c2 := row_cell r1 2; have c3 := row_cell r1 3; have c4 := row_cell r1 4
  simp only [List.getElem?_toArray, List.getElem?_cons_zero, List.getElem?_cons_succ] at c0 c1 c2 c3 c4
  have l1 := row_lt r1
  clear hb1 r1 HBV HRV
  go_wp2_with fail
  go_at_call 8; refine (light_any n _ T _ (HR.out _ HB1.out)).mono ?_; rintro eE w2 ⟨rfl, hb2⟩
  rw [hlt]
  have HB2 := Lib.hid (bel_step HB1.out hb2)
  have r2 := row_step HR1.out hb2
  have HR2 := Lib.hid r2
  clear c0 c1 c2 c3 c4 l1
  have c0 := row_cell r2 0; have c1 := row_cell r2 1; have c2 := row_cell r2 2; have c3 := row_cell r2 3; have c4 := row_cell r2 4
  simp only [List.getElem?_toArray, List.getElem?_cons_zero, List.getElem?_cons_succ] at c0 c1 c2 c3 c4
  have l2 := row_lt r2
  clear hb2 r2 HB1 HR1
  go_wp2_with fail
  go_at_call 10; refine (told_row K I F Z q m d _ _).mono ?_; rintro eE w3 ⟨b0, b1, rfl, hb3, q0, q1'⟩
  have HB3 := Lib.hid (bel_step HB2.out hb3)
  have HRUN := Lib.hid (run_told_err K I F Z q m d e b0 b1 w3 q0 q1' hne)
  clear hb3 q0 q1' c0 c1 c2 c3 c4 l2 HR2 HB2
  go_wp2_with fail
  go_at_call 9; refine HRUN.out.mono ?_; rintro eE w4 ⟨rfl, hb4⟩
  have HBX := Lib.hid (bel_alloc (bel_step HB3.out hb4) (.cells #[.int .i64 0, .int .i64 0, .float .f64 0, .string ⟨#[]⟩, .slice none 0 0] 25))
  have HXX := Lib.hid (row_alloc w4 #[.int .i64 0, .int .i64 0, .float .f64 0, .string ⟨#[]⟩, .slice none 0 0] 25)
  have HS := Lib.hid hS
  clear hb4 HB3 HRUN hS
  go_wp2
  revert HBX HXX
  generalize (w4.alloc (.cells #[.int .i64 0, .int .i64 0, .float .f64 0, .string ⟨#[]⟩, .slice none 0 0] 25)) = wx
  generalize w4.heap.size = bx
  intro HBX HXX
  have HALL := Lib.hid (show ∀ W, Below wx.heap.size wx W → (fun z => z.cell? ⟨bx, 0, none⟩ = some (.int .i64 0) ∧ z.cell? ⟨bx, 1, none⟩ = some (.int .i64 0) ∧ z.cell? ⟨bx, 2, none⟩ = some (.float .f64 0) ∧ z.cell? ⟨bx, 3, none⟩ = some (.string ⟨#[]⟩) ∧ z.cell? ⟨bx, 4, none⟩ = some (.slice none 0 0)) W from fun W hb => by
    have a := row_step HXX.out hb
    exact ⟨row_cell a 0, row_cell a 1, row_cell a 2, row_cell a 3, row_cell a 4⟩)
  refine wp_region_held_drew (S := (fun z => z.cell? ⟨bx, 0, none⟩ = some (.int .i64 0) ∧ z.cell? ⟨bx, 1, none⟩ = some (.int .i64 0) ∧ z.cell? ⟨bx, 2, none⟩ = some (.float .f64 0) ∧ z.cell? ⟨bx, 3, none⟩ = some (.string ⟨#[]⟩) ∧ z.cell? ⟨bx, 4, none⟩ = some (.slice none 0 0))) (by kernel_rfl) ?_ (fun hHeld => ?_)
  · exact HALL.out _ (Below.drew (Below.refl _ _))
  have HD9 := Lib.hid (show Below wx.heap.size wx wx.drew from Below.drew (Below.refl _ _))
  revert HD9 hHeld
  generalize wx.drew = Wd
  intro hHeld HD9
  refine wpAnyH_take (i := 0) (oi := ?_) (v := ?_) ?hiB0 (by kernel_rfl) ?hfB0 ?hrB0 ?hQB0 ?hyB0 (by assumption) ?restB0
  case hiB0 => (simp only [List.getElem?_toArray, List.getElem?_cons_zero, List.getElem?_cons_succ]; rfl)
  case hfB0 => kernel_rfl
  case hrB0 => kernel_rfl
  case hyB0 => (refine Or.inl ⟨by rfl, ?_⟩; intro wS hSw; (try dsimp only at hSw); go_simp; (try with_reducible rfl))
  case hQB0 => exact fun _ _ _ h => h
  (try simp only [Act.put, List.setIfInBounds_toArray, List.set_cons_zero, List.set_cons_succ])
  refine wpAnyH_take (i := 1) (oi := ?_) (v := ?_) ?hiB1 (by kernel_rfl) ?hfB1 ?hrB1 ?hQB1 ?hyB1 (by assumption) ?restB1
  case hiB1 => (simp only [List.getElem?_toArray, List.getElem?_cons_zero, List.getElem?_cons_succ]; rfl)
  case hfB1 => kernel_rfl
  case hrB1 => kernel_rfl
  case hyB1 => (refine Or.inl ⟨by rfl, ?_⟩; intro wS hSw; (try dsimp only at hSw); go_simp; (try with_reducible rfl))
  case hQB1 => exact fun _ _ _ h => h
  (try simp only [Act.put, List.setIfInBounds_toArray, List.set_cons_zero, List.set_cons_succ])
  refine wpAnyH_take (i := 2) (oi := ?_) (v := ?_) ?hiB2 (by kernel_rfl) ?hfB2 ?hrB2 ?hQB2 ?hyB2 (by assumption) ?restB2
  case hiB2 => (simp only [List.getElem?_toArray, List.getElem?_cons_zero, List.getElem?_cons_succ]; rfl)
  case hfB2 => kernel_rfl
  case hrB2 => kernel_rfl
  case hyB2 => (refine Or.inl ⟨by rfl, ?_⟩; intro wS hSw; (try dsimp only at hSw); go_simp; (try with_reducible rfl))
  case hQB2 => exact fun _ _ _ h => h
  (try simp only [Act.put, List.setIfInBounds_toArray, List.set_cons_zero, List.set_cons_succ])
  refine wpAnyH_take (i := 3) (oi := ?_) (v := ?_) ?hiB3 (by kernel_rfl) ?hfB3 ?hrB3 ?hQB3 ?hyB3 (by assumption) ?restB3
  case hiB3 => (simp only [List.getElem?_toArray, List.getElem?_cons_zero, List.getElem?_cons_succ]; rfl)
  case hfB3 => kernel_rfl
  case hrB3 => kernel_rfl
  case hyB3 => (refine Or.inl ⟨by rfl, ?_⟩; intro wS hSw; (try dsimp only at hSw); go_simp; (try with_reducible rfl))
  case hQB3 => exact fun _ _ _ h => h
  (try simp only [Act.put, List.setIfInBounds_toArray, List.set_cons_zero, List.set_cons_succ])
  refine wpAnyH_take (i := 4) (oi := ?_) (v := ?_) ?hiB4 (by kernel_rfl) ?hfB4 ?hrB4 ?hQB4 ?hyB4 (by assumption) ?restB4
  case hiB4 => (simp only [List.getElem?_toArray, List.getElem?_cons_zero, List.getElem?_cons_succ]; rfl)
  case hfB4 => kernel_rfl
  case hrB4 => kernel_rfl
  case hyB4 => (refine Or.inl ⟨by rfl, ?_⟩; intro wS hSw; (try dsimp only at hSw); go_simp; (try with_reducible rfl))
  case hQB4 => exact fun _ _ _ h => h
  (try simp only [Act.put, List.setIfInBounds_toArray, List.set_cons_zero, List.set_cons_succ])
  refine wpAnyH_take (i := 5) (oi := ?_) (v := ?_) ?hiB5 (by kernel_rfl) ?hfB5 ?hrB5 ?hQB5 ?hyB5 (by assumption) ?restB5
  case hiB5 => (simp only [List.getElem?_toArray, List.getElem?_cons_zero, List.getElem?_cons_succ]; rfl)
  case hfB5 => kernel_rfl
  case hrB5 => kernel_rfl
  case hyB5 => (refine Or.inl ⟨by rfl, ?_⟩; intro wS hSw; (try dsimp only at hSw); go_simp; (try with_reducible rfl))
  case hQB5 => exact fun _ _ _ h => h
  (try simp only [Act.put, List.setIfInBounds_toArray, List.set_cons_zero, List.set_cons_succ])
  refine wpAnyH_take (i := 6) (oi := ?_) (v := ?_) ?hiB6 (by kernel_rfl) ?hfB6 ?hrB6 ?hQB6 ?hyB6 (by assumption) ?restB6
  case hiB6 => (simp only [List.getElem?_toArray, List.getElem?_cons_zero, List.getElem?_cons_succ]; rfl)
  case hfB6 => kernel_rfl
  case hrB6 => kernel_rfl
  case hyB6 => (refine Or.inl ⟨by rfl, ?_⟩; intro wS hSw; (try dsimp only at hSw); go_simp; (try with_reducible rfl))
  case hQB6 => exact fun _ _ _ h => h
  (try simp only [Act.put, List.setIfInBounds_toArray, List.set_cons_zero, List.set_cons_succ])
  refine wpAnyH_take (i := 7) (oi := ?_) (v := ?_) ?hiB7 (by kernel_rfl) ?hfB7 ?hrB7 ?hQB7 ?hyB7 (by assumption) ?restB7
  case hiB7 => (simp only [List.getElem?_toArray, List.getElem?_cons_zero, List.getElem?_cons_succ]; rfl)
  case hfB7 => kernel_rfl
  case hrB7 => kernel_rfl
  case hyB7 => (refine Or.inl ⟨by rfl, ?_⟩; intro wS hSw; (try dsimp only at hSw); go_simp; (try with_reducible rfl))
  case hQB7 => exact fun _ _ _ h => h
  (try simp only [Act.put, List.setIfInBounds_toArray, List.set_cons_zero, List.set_cons_succ])
  refine wpAnyH_take (i := 8) (oi := ?_) (v := undef) ?hiB8 (by kernel_rfl) ?hfB8 ?hrB8 ?hQB8 ?hyB8 (by assumption) ?restB8
  case hiB8 => (simp only [List.getElem?_toArray, List.getElem?_cons_zero, List.getElem?_cons_succ]; rfl)
  case hfB8 => kernel_rfl
  case hrB8 => kernel_rfl
  case hyB8 => exact Or.inr ⟨by rfl, rfl⟩
  case hQB8 => exact fun _ _ _ h => h
  (try simp only [Act.put, List.setIfInBounds_toArray, List.set_cons_zero, List.set_cons_succ])
  refine wpAnyH_take (i := 9) (oi := ?_) (v := undef) ?hiB9 (by kernel_rfl) ?hfB9 ?hrB9 ?hQB9 ?hyB9 (by assumption) ?restB9
  case hiB9 => (simp only [List.getElem?_toArray, List.getElem?_cons_zero, List.getElem?_cons_succ]; rfl)
  case hfB9 => kernel_rfl
  case hrB9 => kernel_rfl
  case hyB9 => exact Or.inr ⟨by rfl, rfl⟩
  case hQB9 => exact fun _ _ _ h => h
  (try simp only [Act.put, List.setIfInBounds_toArray, List.set_cons_zero, List.set_cons_succ])
  refine wpAnyH_take (i := 10) (oi := ?_) (v := undef) ?hiB10 (by kernel_rfl) ?hfB10 ?hrB10 ?hQB10 ?hyB10 (by assumption) ?restB10
  case hiB10 => (simp only [List.getElem?_toArray, List.getElem?_cons_zero, List.getElem?_cons_succ]; rfl)
  case hfB10 => kernel_rfl
  case hrB10 => kernel_rfl
  case hyB10 => exact Or.inr ⟨by rfl, rfl⟩
  case hQB10 => exact fun _ _ _ h => h
  (try simp only [Act.put, List.setIfInBounds_toArray, List.set_cons_zero, List.set_cons_succ])
  refine wpAnyH_take (i := 11) (oi := ?_) (v := undef) ?hiB11 (by kernel_rfl) ?hfB11 ?hrB11 ?hQB11 ?hyB11 (by assumption) ?restB11
  case hiB11 => (simp only [List.getElem?_toArray, List.getElem?_cons_zero, List.getElem?_cons_succ]; rfl)
  case hfB11 => kernel_rfl
  case hrB11 => kernel_rfl
  case hyB11 => exact Or.inr ⟨by rfl, rfl⟩
  case hQB11 => exact fun _ _ _ h => h
  (try simp only [Act.put, List.setIfInBounds_toArray, List.set_cons_zero, List.set_cons_succ])
  refine wpAnyH_take (i := 12) (oi := ?_) (v := undef) ?hiB12 (by kernel_rfl) ?hfB12 ?hrB12 ?hQB12 ?hyB12 (by assumption) ?restB12
  case hiB12 => (simp only [List.getElem?_toArray, List.getElem?_cons_zero, List.getElem?_cons_succ]; rfl)
  case hfB12 => kernel_rfl
  case hrB12 => kernel_rfl
  case hyB12 => exact Or.inr ⟨by rfl, rfl⟩
  case hQB12 => exact fun _ _ _ h => h
  (try simp only [Act.put, List.setIfInBounds_toArray, List.set_cons_zero, List.set_cons_succ])
  refine wpAnyH_take (i := 13) (oi := ?_) (v := undef) ?hiB13 (by kernel_rfl) ?hfB13 ?hrB13 ?hQB13 ?hyB13 (by assumption) ?restB13
  case hiB13 => (simp only [List.getElem?_toArray, List.getElem?_cons_zero, List.getElem?_cons_succ]; rfl)
  case hfB13 => kernel_rfl
  case hrB13 => kernel_rfl
  case hyB13 => exact Or.inr ⟨by rfl, rfl⟩
  case hQB13 => exact fun _ _ _ h => h
  (try simp only [Act.put, List.setIfInBounds_toArray, List.set_cons_zero, List.set_cons_succ])
  refine wpAnyH_take (i := 14) (oi := ?_) (v := ?_) ?hiB14 (by kernel_rfl) ?hfB14 ?hrB14 ?hQB14 ?hyB14 (by assumption) ?restB14
  case hiB14 => (simp only [List.getElem?_toArray, List.getElem?_cons_zero, List.getElem?_cons_succ]; rfl)
  case hfB14 => kernel_rfl
  case hrB14 => kernel_rfl
  case hyB14 => (refine Or.inl ⟨by rfl, ?_⟩; intro wS hSw; (try dsimp only at hSw); go_simp; (try with_reducible rfl))
  case hQB14 => exact fun _ _ _ h => h
  (try simp only [Act.put, List.setIfInBounds_toArray, List.set_cons_zero, List.set_cons_succ])
  refine wpAnyH_take (i := 15) (oi := ?_) (v := ?_) ?hiB15 (by kernel_rfl) ?hfB15 ?hrB15 ?hQB15 ?hyB15 (by assumption) ?restB15
  case hiB15 => (simp only [List.getElem?_toArray, List.getElem?_cons_zero, List.getElem?_cons_succ]; rfl)
  case hfB15 => kernel_rfl
  case hrB15 => kernel_rfl
  case hyB15 => (refine Or.inl ⟨by rfl, ?_⟩; intro wS hSw; (try dsimp only at hSw); go_simp; (try with_reducible rfl))
  case hQB15 => exact fun _ _ _ h => h
  (try simp only [Act.put, List.setIfInBounds_toArray, List.set_cons_zero, List.set_cons_succ])
  refine wpAnyH_take (i := 16) (oi := ?_) (v := ?_) ?hiB16 (by kernel_rfl) ?hfB16 ?hrB16 ?hQB16 ?hyB16 (by assumption) ?restB16
  case hiB16 => (simp only [List.getElem?_toArray, List.getElem?_cons_zero, List.getElem?_cons_succ]; rfl)
  case hfB16 => kernel_rfl
  case hrB16 => kernel_rfl
  case hyB16 => (refine Or.inl ⟨by rfl, ?_⟩; intro wS hSw; (try dsimp only at hSw); go_simp; (try with_reducible rfl))
  case hQB16 => exact fun _ _ _ h => h
  (try simp only [Act.put, List.setIfInBounds_toArray, List.set_cons_zero, List.set_cons_succ])
  refine wpAnyH_take (i := 17) (oi := ?_) (v := ?_) ?hiB17 (by kernel_rfl) ?hfB17 ?hrB17 ?hQB17 ?hyB17 (by assumption) ?restB17
  case hiB17 => (simp only [List.getElem?_toArray, List.getElem?_cons_zero, List.getElem?_cons_succ]; rfl)
  case hfB17 => kernel_rfl
  case hrB17 => kernel_rfl
  case hyB17 => (refine Or.inl ⟨by rfl, ?_⟩; intro wS hSw; (try dsimp only at hSw); go_simp; (try with_reducible rfl))
  case hQB17 => exact fun _ _ _ h => h
  (try simp only [Act.put, List.setIfInBounds_toArray, List.set_cons_zero, List.set_cons_succ])
  refine wpAnyH_take (i := 18) (oi := ?_) (v := ?_) ?hiB18 (by kernel_rfl) ?hfB18 ?hrB18 ?hQB18 ?hyB18 (by assumption) ?restB18
  case hiB18 => (simp only [List.getElem?_toArray, List.getElem?_cons_zero, List.getElem?_cons_succ]; rfl)
  case hfB18 => kernel_rfl
  case hrB18 => kernel_rfl
  case hyB18 => (refine Or.inl ⟨by rfl, ?_⟩; intro wS hSw; (try dsimp only at hSw); go_simp; (try with_reducible rfl))
  case hQB18 => exact fun _ _ _ h => h
  (try simp only [Act.put, List.setIfInBounds_toArray, List.set_cons_zero, List.set_cons_succ])
  refine wpAnyH_take (i := 19) (oi := ?_) (v := ?_) ?hiB19 (by kernel_rfl) ?hfB19 ?hrB19 ?hQB19 ?hyB19 (by assumption) ?restB19
  case hiB19 => (simp only [List.getElem?_toArray, List.getElem?_cons_zero, List.getElem?_cons_succ]; rfl)
  case hfB19 => kernel_rfl
  case hrB19 => kernel_rfl
  case hyB19 => (refine Or.inl ⟨by rfl, ?_⟩; intro wS hSw; (try dsimp only at hSw); go_simp; (try with_reducible rfl))
  case hQB19 => exact fun _ _ _ h => h
  (try simp only [Act.put, List.setIfInBounds_toArray, List.set_cons_zero, List.set_cons_succ])
  refine wpAnyH_take (i := 20) (oi := ?_) (v := ?_) ?hiB20 (by kernel_rfl) ?hfB20 ?hrB20 ?hQB20 ?hyB20 (by assumption) ?restB20
  case hiB20 => (simp only [List.getElem?_toArray, List.getElem?_cons_zero, List.getElem?_cons_succ]; rfl)
  case hfB20 => kernel_rfl
  case hrB20 => kernel_rfl
  case hyB20 => (refine Or.inl ⟨by rfl, ?_⟩; intro wS hSw; (try dsimp only at hSw); go_simp; (try with_reducible rfl))
  case hQB20 => exact fun _ _ _ h => h
  (try simp only [Act.put, List.setIfInBounds_toArray, List.set_cons_zero, List.set_cons_succ])
  refine wpAnyH_take (i := 21) (oi := ?_) (v := ?_) ?hiB21 (by kernel_rfl) ?hfB21 ?hrB21 ?hQB21 ?hyB21 (by assumption) ?restB21
  case hiB21 => (simp only [List.getElem?_toArray, List.getElem?_cons_zero, List.getElem?_cons_succ]; rfl)
  case hfB21 => kernel_rfl
  case hrB21 => kernel_rfl
  case hyB21 => (refine Or.inl ⟨by rfl, ?_⟩; intro wS hSw; (try dsimp only at hSw); go_simp; (try with_reducible rfl))
  case hQB21 => exact fun _ _ _ h => h
  (try simp only [Act.put, List.setIfInBounds_toArray, List.set_cons_zero, List.set_cons_succ])
  refine wpAnyH_ready (rs := [22]) (by kernel_rfl) (by simp) ?_
  refine AllReadyH.cons (o := ?_) ?hoB22 ?hstB22 AllReadyH.nil
  case hoB22 => (simp only [List.getElem?_toArray, List.getElem?_cons_zero, List.getElem?_cons_succ]; rfl)
  intro K hK
  go_simp
  go_at_call 11; refine (same_any 1 _ _ (0, 0, 0, ⟨#[]⟩, []) _ (rep_zero _) (rep_zero _)).mono ?_; rintro eE w12 ⟨rfl, hb12⟩; have HWE := Lib.hid (bel_step HD9.out hb12); clear hb12
  go_wp2_with fail
  refine hK.out _ _ ?hsB22 (fun hHeld => ?_)
  case hsB22 => exact HALL.out _ HWE.out
  clear hK K
  (try simp only [Act.put, List.setIfInBounds_toArray, List.set_cons_zero, List.set_cons_succ])
  refine wpAnyH_take (i := 23) (oi := ?_) (v := ?_) ?hiB23 (by kernel_rfl) ?hfB23 ?hrB23 ?hQB23 ?hyB23 (by assumption) ?restB23
  case hiB23 => (simp only [List.getElem?_toArray, List.getElem?_cons_zero, List.getElem?_cons_succ]; rfl)
  case hfB23 => kernel_rfl
  case hrB23 => kernel_rfl
  case hyB23 => (refine Or.inl ⟨by rfl, ?_⟩; intro wS hSw; (try dsimp only at hSw); go_simp; (try with_reducible rfl))
  case hQB23 => exact fun _ _ _ h => h
  (try simp only [Act.put, List.setIfInBounds_toArray, List.set_cons_zero, List.set_cons_succ])
  refine wpAnyH_take (i := 24) (oi := ?_) (v := ?_) ?hiB24 (by kernel_rfl) ?hfB24 ?hrB24 ?hQB24 ?hyB24 (by assumption) ?restB24
  case hiB24 => (simp only [List.getElem?_toArray, List.getElem?_cons_zero, List.getElem?_cons_succ]; rfl)
  case hfB24 => kernel_rfl
  case hrB24 => kernel_rfl
  case hyB24 => (refine Or.inl ⟨by rfl, ?_⟩; intro wS hSw; (try dsimp only at hSw); go_simp; (try with_reducible rfl))
  case hQB24 => exact fun _ _ _ h => h
  (try simp only [Act.put, List.setIfInBounds_toArray, List.set_cons_zero, List.set_cons_succ])
  refine wpAnyH_take (i := 25) (oi := ?_) (v := ?_) ?hiB25 (by kernel_rfl) ?hfB25 ?hrB25 ?hQB25 ?hyB25 (by assumption) ?restB25
  case hiB25 => (simp only [List.getElem?_toArray, List.getElem?_cons_zero, List.getElem?_cons_succ]; rfl)
  case hfB25 => kernel_rfl
  case hrB25 => kernel_rfl
  case hyB25 => (refine Or.inl ⟨by rfl, ?_⟩; intro wS hSw; (try dsimp only at hSw); go_simp; (try with_reducible rfl))
  case hQB25 => exact fun _ _ _ h => h
  (try simp only [Act.put, List.setIfInBounds_toArray, List.set_cons_zero, List.set_cons_succ])
  refine wpAnyH_done (by kernel_rfl) ?_ _
  have hS := HS.out
  have HBW := HWE
  clear hHeld
  go_wp2_with fail
  go_at_call 13; refine (rises_row h S x _).mono ?_; rintro eE w6 ⟨b2, b3, b4, rfl, hb6, q0, q1', q2⟩
  have HB6 := Lib.hid (bel_step (HBX.out.trans (HBW.out.mono HBX.out.size)) hb6)
  have HRU := Lib.hid (run_rises h S x b2 b3 b4 w6 hS h0 q0 q1' q2)
  clear hb6 q0 q1' q2 HBW
  go_wp2_with fail
  go_at_call 9; refine HRU.out.mono ?_; rintro eE w7 ⟨rfl, hb7⟩
  have HB7 := Lib.hid (bel_alloc (bel_step HB6.out hb7) (.cells #[.int .i64 0, .int .i64 0, .float .f64 0, .string ⟨#[]⟩, .slice none 0 0] 25))
  have HY7 := Lib.hid (row_alloc w7 #[.int .i64 0, .int .i64 0, .float .f64 0, .string ⟨#[]⟩, .slice none 0 0] 25)
  clear hb7
  go_wp2_with fail
  go_at_call 9; refine (run_nil _).mono ?_; rintro eE w8 ⟨rfl, hb8⟩
  have HB8 := Lib.hid (bel_alloc (bel_step HB7.out hb8) (.cells #[.int .i64 0, .int .i64 0, .float .f64 0, .string ⟨#[]⟩, .slice none 0 0] 25))
  have hy8 := row_alloc_step (row_step HY7.out hb8) (.cells #[.int .i64 0, .int .i64 0, .float .f64 0, .string ⟨#[]⟩, .slice none 0 0] 25)
  have hz8 := row_alloc w8 #[.int .i64 0, .int .i64 0, .float .f64 0, .string ⟨#[]⟩, .slice none 0 0] 25
  have HY8 := Lib.hid hy8
  have HZ8 := Lib.hid hz8
  have HYL := Lib.hid (row_lt (row_step HY7.out hb8))
  have y0 := row_cell hy8 0; have y1 := row_cell hy8 1; have y2 := row_cell hy8 2; have y3 := row_cell hy8 3; have y4 := row_cell hy8 4
  simp only [List.getElem?_toArray, List.getElem?_cons_zero, List.getElem?_cons_succ] at y0 y1 y2 y3 y4
  have ly := row_lt hy8
  have lz := row_lt hz8
  clear hb8 hy8 hz8
  go_wp2_with fail
  go_at_call 11; refine (same_any 1 _ _ (0, 0, 0, ⟨#[]⟩, []) _ (rep_zero _) (rep_zero _)).mono ?_; rintro eE w9 ⟨rfl, hb9⟩
  have HB9 := Lib.hid (bel_step HB8.out hb9)
  have hz9 := row_step HZ8.out hb9
  have z0 := row_cell hz9 0; have z1 := row_cell hz9 1; have z2 := row_cell hz9 2; have z3 := row_cell hz9 3; have z4 := row_cell hz9 4
  simp only [List.getElem?_toArray, List.getElem?_cons_zero, List.getElem?_cons_succ] at z0 z1 z2 z3 z4
  have lz9 := row_lt hz9
  clear hb9 hz9 y0 y1 y2 y3 y4 ly lz
  go_wp2_with fail
  go_at_call 11; refine (same_any 1 _ _ (0, 0, 0, ⟨#[]⟩, []) _ (rep_zero _) (rep_zero _)).mono ?_; rintro eE w10 ⟨rfl, hb10⟩
  have HB10 := Lib.hid (bel_step HB9.out hb10)
  clear hb10
  go_wp2
  go_ret
  exact ⟨rfl, HB10.out⟩
/-- GuardRuns, whatever it is handed. -/
theorem runs_law (n : Nat) (T : VT n) (K I : Int) (F : Nat) (Z : ByteArray) (q : Option Addr) (m d : Nat) (e h : Int) (S : ByteArray) (x : Int) (w : World) (hr : Rep w n (.agg #[.int .i64 K, .int .i64 I, .float .f64 F, .string Z, .slice q m d]) T) (hwd : wideT n T) (he0 : 0 ≤ e) (he1 : e ≤ 65535) (h0 : 0 ≤ h) : Calls Tryd.prog 3 #[.agg #[.int .i64 K, .int .i64 I, .float .f64 F, .string Z, .slice q m d], .int .u16 e, .int .u8 h, .string S, .int .i64 x] w fun e w' => e = .returned (.bool true) ∧ Below w.heap.size w w' := by
  cases hlt : lightT n T
  · exact runs_dark n T K I F Z q m d e h S x w hr hlt
  · by_cases hS : S.size ≤ 40
    · by_cases he : e = 0
      · exact runs_zero n T K I F Z q m d e h S x w hr hlt hwd hS h0 he
      · exact runs_err n T K I F Z q m d e h S x w hr hlt hS h0 (by omega) he1
    · exact runs_long n T K I F Z q m d e h S x w hr hlt (by omega)
end Num
end Go.Proofs.YtgeicgfijnabkaaDoor
