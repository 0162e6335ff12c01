/-
  Package dedup's clean; Look; Last.
-/
import Derived.Test.YtijfgmhdkflfmaaSb
namespace Go.Proofs.Ytijfgmhdkflfmaa
open Go.RowKit
namespace Num
open Ints
set_option linter.unusedSimpArgs false
set_option linter.unusedVariables false
/-- A value of no great part, whatever else. -/
def Lite (n : Nat) (T : VT n) : Prop := deepT n T 64 = false ∧ partsT n T ≤ 1000 ∧ walkM (measT n T) = true
def set9 (w : World) (g : Nat) (a0 a1 a2 a3 a4 a5 a6 a7 a8 : Value) : World := ((((((((w.setCell ⟨g, 0, none⟩ a0).setCell ⟨g, 1, none⟩ a1).setCell ⟨g, 2, none⟩ a2).setCell ⟨g, 3, none⟩ a3).setCell ⟨g, 4, none⟩ a4).setCell ⟨g, 5, none⟩ a5).setCell ⟨g, 6, none⟩ a6).setCell ⟨g, 7, none⟩ a7).setCell ⟨g, 8, none⟩ a8
theorem set9_below {B : Nat} {a w : World} (h : Below B a w) {g : Nat} (hg : B ≤ g) (a0 a1 a2 a3 a4 a5 a6 a7 a8 : Value) : Below B a (set9 w g a0 a1 a2 a3 a4 a5 a6 a7 a8) :=
  ((((((((h.setCell (p := ⟨g, 0, none⟩) hg a0).setCell (p := ⟨g, 1, none⟩) hg a1).setCell (p := ⟨g, 2, none⟩) hg a2).setCell (p := ⟨g, 3, none⟩) hg a3).setCell (p := ⟨g, 4, none⟩) hg a4).setCell (p := ⟨g, 5, none⟩) hg a5).setCell (p := ⟨g, 6, none⟩) hg a6).setCell (p := ⟨g, 7, none⟩) hg a7).setCell (p := ⟨g, 8, none⟩) hg a8
theorem set9_other {w : World} {g k : Nat} (hne : k ≠ g) (a0 a1 a2 a3 a4 a5 a6 a7 a8 : Value) : (set9 w g a0 a1 a2 a3 a4 a5 a6 a7 a8).heap[k]? = w.heap[k]? := by
  unfold set9
  iterate 9 rw [Below.heap_setCell _ _ _ _ hne]
set_option maxRecDepth 100000 in
set_option maxHeartbeats 8000000 in
theorem dclean_at (n : Nat) (w : World) (i1 i2 i3 er K I : Int) (F : Nat) (S : ByteArray) (q : Option Addr) (m d : Nat) (T : VT n) (hr : Rep w n (.agg #[.int .i64 K, .int .i64 I, .float .f64 F, .string S, .slice q m d]) T) (hl : Lite n T) :
    Calls Try.prog 21 #[.agg #[.int .u32 i1, .int .u32 i2, .int .u16 i3, .int .i64 er, .int .i64 K, .int .i64 I, .float .f64 F, .string S, .slice q m d]] w fun e w' => ∃ (K2 I2 : Int) (F2 : Nat) (S2 : ByteArray) (q2 : Option Addr) (m2 d2 : Nat), e = .returned (.agg #[.int .u32 i1, .int .u32 i2, .int .u16 i3, .int .i64 er, .int .i64 K2, .int .i64 I2, .float .f64 F2, .string S2, .slice q2 m2 d2]) ∧ RepC w' n (fun b => w.heap.size ≤ b) (.agg #[.int .i64 K2, .int .i64 I2, .float .f64 F2, .string S2, .slice q2 m2 d2]) (cleanT n T) ∧ Below w.heap.size w w' := by
  obtain ⟨hd, hp, hw⟩ := hl
  have HC := Lib.hid (fun (W : World) (hb : Below w.heap.size w W) => vclean_any n _ T W (rep_keep hb _ _ _ hr) hd hp hw)
  clear hr hd hp hw
  obtain ⟨w1, hw1⟩ : ∃ W, w.alloc (.cells #[.int .u32 i1, .int .u32 i2, .int .u16 i3, .int .i64 er, .int .i64 K, .int .i64 I, .float .f64 F, .string S, .slice q m d] 43) = W := ⟨_, rfl⟩
  obtain ⟨w2, hw2⟩ : ∃ W, w1.alloc (.cells #[.int .u32 0, .int .u32 0, .int .u16 0, .int .i64 0, .int .i64 0, .int .i64 0, .float .f64 0, .string ⟨#[]⟩, .slice none 0 0] 43) = W := ⟨_, rfl⟩
  obtain ⟨g, hg⟩ : ∃ g, w.heap.size = g := ⟨_, rfl⟩
  have hs1 : w1.heap.size = g + 1 := by rw [← hw1, World.size_alloc, hg]
  have HB := Lib.hid (show Below g w w2 by rw [← hw2, ← hw1, ← hg]; exact bel_alloc (bel_alloc (Below.refl w.heap.size w) _) _)
  have hA : w2.heap[g]? = some (.cells #[.int .u32 i1, .int .u32 i2, .int .u16 i3, .int .i64 er, .int .i64 K, .int .i64 I, .float .f64 F, .string S, .slice q m d] 43 (0, 0)) := by rw [← hw2, ← hw1, ← hg]; exact row_alloc_step (row_alloc w _ _) _
  have hR : w2.heap[g + 1]? = some (.cells #[.int .u32 0, .int .u32 0, .int .u16 0, .int .i64 0, .int .i64 0, .int .i64 0, .float .f64 0, .string ⟨#[]⟩, .slice none 0 0] 43 (0, 0)) := by rw [← hw2, ← hs1]; exact row_alloc w1 _ _
  have HR := Lib.hid hR
  have c0 := row_cell hA 0; have c1 := row_cell hA 1; have c2 := row_cell hA 2; have c3 := row_cell hA 3; have c4 := row_cell hA 4; have c5 := row_cell hA 5; have c6 := row_cell hA 6; have c7 := row_cell hA 7; have c8 := row_cell hA 8
  simp only [List.getElem?_toArray, List.getElem?_cons_zero, List.getElem?_cons_succ] at c0 c1 c2 c3 c4 c5 c6 c7 c8
  have HA := Lib.hid hA
  have HS1 := Lib.hid hs1
  have HC2 := Lib.hid (fun (W : World) (hb : Below g w W) => HC.out W (by rw [hg]; exact hb))
  have HLE := Lib.hid (show g ≤ w2.drew.heap.size by have := row_lt hR; show g ≤ w2.heap.size; omega)
  have HLT := Lib.hid (show g + 1 < w2.drew.heap.size from row_lt hR)
  clear hA hR HC
  go_enter Try.func21, Try.ntmps21
  go_wp2_with fail
  clear hw1 hw2
  go_region_with (go_at_call 31; refine (HC2.out _ (Below.drew HB.out)).mono ?_; rintro e w3 ⟨v', rfl, hb3, hr3⟩; obtain ⟨K2, I2, F2, S2, q2, m2, dd, rfl, _⟩ := repS_shape hr3; have hRo := row_step (show (World.drew w2).heap[g + 1]? = _ from HR.out) hb3; have HV := Lib.hid hr3; have HB3 := Lib.hid (Below.trans (Below.drew HB.out) (hb3.mono HLE.out)); have hlt := row_lt hRo; have d0 := row_cell hRo 0; have d1 := row_cell hRo 1; have d2 := row_cell hRo 2; have d3 := row_cell hRo 3; have d4 := row_cell hRo 4; have d5 := row_cell hRo 5; have d6 := row_cell hRo 6; have d7 := row_cell hRo 7; have d8 := row_cell hRo 8; simp only [List.getElem?_toArray, List.getElem?_cons_zero, List.getElem?_cons_succ] at d0 d1 d2 d3 d4 d5 d6 d7 d8; have df := fun o => row_frz hRo o; have hA3 := row_step (show (World.drew w2).heap[g]? = _ from HA.out) hb3; have e0 := row_cell hA3 0; have e1 := row_cell hA3 1; have e2 := row_cell hA3 2; have e3 := row_cell hA3 3; have e4 := row_cell hA3 4; have e5 := row_cell hA3 5; have e6 := row_cell hA3 6; have e7 := row_cell hA3 7; have e8 := row_cell hA3 8; simp only [List.getElem?_toArray, List.getElem?_cons_zero, List.getElem?_cons_succ] at e0 e1 e2 e3 e4 e5 e6 e7 e8; clear hb3 hr3 hRo hA3)
  all_goals
    clear c0 c1 c2 c3 c4 c5 c6 c7 c8 e0 e1 e2 e3 e4 e5 e6 e7 e8 HR HA HC2 HS1
    go_wp2
    refine bodyPost_ret (v := .agg #[.int .u32 i1, .int .u32 i2, .int .u16 i3, .int .i64 er, .int .i64 K2, .int .i64 I2, .float .f64 F2, .string S2, .slice q2 m2 dd]) (by simp [results, Try.results21, go_sem, World.cell?_setCell_same, World.cell?_setCell_other, d0, d1, d2, d3, d4, d5, d6, d7, d8]) rfl ⟨K2, I2, F2, S2, q2, m2, dd, rfl, ?_, ?_⟩
    · rw [hg]
      refine repC_mono n (fun b => w2.drew.heap.size ≤ b) _ _ _ (fun b hb => Nat.le_trans HLE.out hb) (repS_keep (w := w3) (fun b hb => set9_other (w := w3) (g := g + 1) (k := b) (by have h1 := HLT.out; have h2 : w2.drew.heap.size ≤ b := hb; omega) _ _ _ _ _ _ _ _ _) n _ _ HV.out)
    · rw [hg]; exact set9_below (w := w3) HB3.out (by omega) _ _ _ _ _ _ _ _ _
theorem dclean_any (n : Nat) (w : World) (r : RE n) (hr : Rep w n r.v r.T) (hl : Lite n r.T) : Calls Try.prog 21 #[r.a] w fun e w' => ∃ r' : RE n, e = .returned r'.a ∧ r'.x = r.x ∧ r'.e = r.e ∧ r'.T = cleanT n r.T ∧ RepC w' n (fun b => w.heap.size ≤ b) r'.v r'.T ∧ Below w.heap.size w w' := by
  obtain ⟨⟨i1, i2, i3⟩, er, K, I, F, S, q, m, d, T⟩ := r
  refine (dclean_at n w i1 i2 i3 er K I F S q m d T hr hl).mono ?_
  rintro e w' ⟨K2, I2, F2, S2, q2, m2, d2, rfl, h1, h2⟩
  exact ⟨⟨(i1, i2, i3), er, K2, I2, F2, S2, q2, m2, d2, cleanT n T⟩, rfl, rfl, rfl, rfl, h1, h2⟩
end Num
end Go.Proofs.Ytijfgmhdkflfmaa
