/-
  A table of replies: Look; Last.
-/
import Derived.Test.YtijfgmhdkflfmaaSc
namespace Go.Proofs.Ytijfgmhdkflfmaa
open Go.RowKit
namespace Num
open Ints
set_option linter.unusedSimpArgs false
set_option linter.unusedVariables false
theorem flat2 : ∀ (L : List CE) (m : Nat) (y : CE), L[m]? = some y → (L.flatMap CE.cells)[m * 2]? = some (.int .u32 y.s) ∧ (L.flatMap CE.cells)[m * 2 + 1]? = some y.v
  | [], m, y, h => by cases h
  | x :: L, 0, y, h => by
    obtain rfl : x = y := by simpa using h
    exact ⟨rfl, rfl⟩
  | x :: L, m + 1, y, h => by
    have ih := flat2 L m y (by simpa using h)
    rw [show (m + 1) * 2 = m * 2 + 2 by omega, List.flatMap_cons]
    exact ⟨ih.1, ih.2⟩
theorem flat2_len : ∀ (L : List CE), (L.flatMap CE.cells).length = L.length * 2
  | [] => rfl
  | x :: L => by
    have h := flat2_len L
    simp only [List.flatMap_cons, List.length_append, List.length_cons, List.length_nil]
    omega
set_option maxRecDepth 100000 in
set_option maxHeartbeats 4000000 in
theorem last_any (n : Nat) (w : World) (tb mr mc : Nat) (R : List (RE n)) (C : List KE) (c : Int) (h : TabG n w tb mr mc R C) (z : Value) (hz : z = match (match getC C c with | some k => k.L | none => []).getLast? with | some y => .tuple #[.int .u32 y.s, .bool true] | none => .tuple #[.int .u32 0, .bool false]) (hlen : ∀ k ∈ C, k.L.length ≤ 1000) :
    Calls Try.prog 16 #[.pointer (some ⟨tb, 0, none⟩), .int .u32 c] w fun e w' => e = .returned z ∧ Below w.heap.size w w' := by
  obtain ⟨fs, ck, hm, hf⟩ := h.cal
  have t1 := row_cell h.tab 1
  simp only [List.getElem?_toArray, List.getElem?_cons_zero, List.getElem?_cons_succ] at t1
  have hl1 := look_u32 w mc fs ck C c hm hf
  have hl2 := look_u32 w.drew mc fs ck C c hm hf
  have HR := Lib.hid (fun k hk => h.row k hk)
  have HL := Lib.hid hlen
  clear h hm hf hlen
  cases hg : getC C c with
  | none =>
    rw [hg] at hl1 hl2 hz
    simp only at hl1 hl2
    have HX := Lib.hid (show Ending.returned (.tuple #[.int .u32 0, .bool false]) = .returned z by rw [hz]; rfl)
    clear hz
    go_enter Try.func16, Try.ntmps16
    go_wp2_with fail
    try go_region
    go_wp2
    go_ret2
    exact ⟨HX.out, by first | exact Below.drew (Below.refl _ _) | exact Below.refl _ _⟩
  | some k =>
    rw [hg] at hl1 hl2 hz
    simp only at hl1 hl2 hz
    have hk := HR.out k (List.mem_of_find?_eq_some hg)
    have hkl := HL.out k (List.mem_of_find?_eq_some hg)
    unfold KE.v at hl1 hl2
    by_cases h0 : k.L = []
    · rw [h0] at hl1 hl2 hz
      have HX := Lib.hid (show Ending.returned (.tuple #[.int .u32 0, .bool false]) = .returned z by rw [hz]; rfl)
      clear hz h0 hk
      go_enter Try.func16, Try.ntmps16
      go_wp2_with fail
      try go_region
      go_wp2
      go_ret2
      exact ⟨HX.out, by first | exact Below.drew (Below.refl _ _) | exact Below.refl _ _⟩
    · obtain ⟨m, hm⟩ : ∃ m, k.L.length = m + 1 := ⟨k.L.length - 1, by have : 0 < k.L.length := List.length_pos_iff.2 h0; omega⟩
      obtain ⟨y, hy⟩ : ∃ y, k.L[m]? = some y := ⟨k.L[m]'(by omega), List.getElem?_eq_getElem (by omega)⟩
      have hla : k.L.getLast? = some y := by rw [List.getLast?_eq_getElem?, hm]; exact hy
      rw [hla] at hz
      have HX := Lib.hid (show Ending.returned (.tuple #[.int .u32 y.s, .bool true]) = .returned z by rw [hz])
      have hc := own_cell hk (m * 2) (.int .u32 y.s) (flat2 k.L m y hy).1
      have hc' : w.drew.cell? ⟨k.b, m * 2, none⟩ = some (.int .u32 y.s) := hc
      rw [hm] at hl1 hl2
      clear hz h0 hk hla
      go_enter Try.func16, Try.ntmps16
      go_wp2_with fail
      try go_region
      go_wp2
      go_ret2
      exact ⟨HX.out, by first | exact Below.drew (Below.refl _ _) | exact Below.refl _ _⟩
theorem set9_at {w : World} {g : Nat} {b0 b1 b2 b3 b4 b5 b6 b7 b8 : Value} {t : TypeId} (h : w.heap[g]? = some (.cells #[b0, b1, b2, b3, b4, b5, b6, b7, b8] t (0, 0))) (a0 a1 a2 a3 a4 a5 a6 a7 a8 : Value) : (set9 w g a0 a1 a2 a3 a4 a5 a6 a7 a8).heap[g]? = some (.cells #[a0, a1, a2, a3, a4, a5, a6, a7, a8] t (0, 0)) := by
  simp [set9, World.setCell, Array.getElem?_modify, h]
set_option maxRecDepth 100000 in
set_option maxHeartbeats 8000000 in
theorem look_none (n : Nat) (w : World) (tb mr mc : Nat) (R : List (RE n)) (C : List KE) (i1 i2 i3 : Int) (h : TabG n w tb mr mc R C) (hn : getR R (i1, i2, i3) = none) (ho : oldC C (i1, i2, i3) = false) :
    Calls Try.prog 9 #[.pointer (some ⟨tb, 0, none⟩), .agg #[.int .u32 i1, .int .u32 i2, .int .u16 i3]] w fun e w' => e = .returned (.tuple #[repZ, .bool false, .int .i64 0]) ∧ Below w.heap.size w w' := by
  obtain ⟨w1, hw1⟩ : ∃ W, w.alloc (.cells #[.int .u32 i1, .int .u32 i2, .int .u16 i3] 40) = W := ⟨_, rfl⟩
  obtain ⟨w2, hw2⟩ : ∃ W, w1.alloc (.cells #[.int .u32 0, .int .u32 0, .int .u16 0, .int .i64 0, .int .i64 0, .int .i64 0, .float .f64 0, .string ⟨#[]⟩, .slice none 0 0] 43) = W := ⟨_, rfl⟩
  obtain ⟨w3, hw3⟩ : ∃ W, w2.alloc (.cells #[.int .u32 0, .int .u32 0, .int .u16 0, .int .i64 0, .int .i64 0, .int .i64 0, .float .f64 0, .string ⟨#[]⟩, .slice none 0 0] 43) = W := ⟨_, rfl⟩
  obtain ⟨g, hg⟩ : ∃ g, w.heap.size = g := ⟨_, rfl⟩
  have hs1 : w1.heap.size = g + 1 := by rw [← hw1, World.size_alloc, hg]
  have hs2 : w2.heap.size = g + 2 := by rw [← hw2, World.size_alloc, hs1]
  have hs3 : w3.heap.size = g + 3 := by rw [← hw3, World.size_alloc, hs2]
  have hb2 : Below g w w2 := by rw [← hw2, ← hw1, ← hg]; exact bel_alloc (bel_alloc (Below.refl w.heap.size w) _) _
  have hb3 : Below g w w3 := by rw [← hw3, ← hw2, ← hw1, ← hg]; exact bel_alloc (bel_alloc (bel_alloc (Below.refl w.heap.size w) _) _) _
  have HB := Lib.hid hb3
  have HS3 := Lib.hid hs3
  have h2 : TabG n w2 tb mr mc R C := tabG_step h (by rw [hg]; exact hb2)
  have h3 : TabG n w3 tb mr mc R C := tabG_step h (by rw [hg]; exact hb3)
  have t0 := row_cell h2.tab 0
  have t0' := row_cell h3.tab 0
  simp only [List.getElem?_toArray, List.getElem?_cons_zero, List.getElem?_cons_succ] at t0 t0'
  obtain ⟨es, ck, hm, hf⟩ := h2.rep
  obtain ⟨es', ck', hm', hf'⟩ := h3.rep
  have hl1 := look_did w2 mr es ck R (i1, i2, i3) hm hf
  have hl2 := look_did w2.drew mr es ck R (i1, i2, i3) hm hf
  have hl3 := look_did w3 mr es' ck' R (i1, i2, i3) hm' hf'
  have hl4 := look_did w3.drew mr es' ck' R (i1, i2, i3) hm' hf'
  have hA : w2.heap[g]? = some (.cells #[.int .u32 i1, .int .u32 i2, .int .u16 i3] 40 (0, 0)) := by rw [← hw2, ← hw1, ← hg]; exact row_alloc_step (row_alloc w _ _) _
  have hA3 : w3.heap[g]? = some (.cells #[.int .u32 i1, .int .u32 i2, .int .u16 i3] 40 (0, 0)) := by rw [← hw3]; exact row_alloc_step hA _
  have hR : w3.heap[g + 1]? = some (.cells #[.int .u32 0, .int .u32 0, .int .u16 0, .int .i64 0, .int .i64 0, .int .i64 0, .float .f64 0, .string ⟨#[]⟩, .slice none 0 0] 43 (0, 0)) := by rw [← hw3]; refine row_alloc_step ?_ _; rw [← hw2, ← hs1]; exact row_alloc w1 _ _
  have hV : w3.heap[g + 2]? = some (.cells #[.int .u32 0, .int .u32 0, .int .u16 0, .int .i64 0, .int .i64 0, .int .i64 0, .float .f64 0, .string ⟨#[]⟩, .slice none 0 0] 43 (0, 0)) := by rw [← hw3, ← hs2]; exact row_alloc w2 _ _
  have c0 := row_cell hA 0; have c1 := row_cell hA 1; have c2 := row_cell hA 2
  have k0 := row_cell hA3 0; have k1 := row_cell hA3 1; have k2 := row_cell hA3 2
  have r0 := row_cell hR 0; have r1 := row_cell hR 1; have r2 := row_cell hR 2; have r3 := row_cell hR 3; have r4 := row_cell hR 4; have r5 := row_cell hR 5; have r6 := row_cell hR 6; have r7 := row_cell hR 7; have r8 := row_cell hR 8
  have z0 := row_cell hV 0; have z1 := row_cell hV 1; have z2 := row_cell hV 2; have z3 := row_cell hV 3; have z4 := row_cell hV 4; have z5 := row_cell hV 5; have z6 := row_cell hV 6; have z7 := row_cell hV 7; have z8 := row_cell hV 8
  simp only [List.getElem?_toArray, List.getElem?_cons_zero, List.getElem?_cons_succ] at c0 c1 c2 k0 k1 k2 r0 z0 r1 z1 r2 z2 r3 z3 r4 z4 r5 z5 r6 z6 r7 z7 r8 z8
  have rf := fun o => row_frz hR o
  have zf := fun o => row_frz hV o
  have HA := Lib.hid hA3
  have HR := Lib.hid hR
  have HV := Lib.hid hV
  have HT := Lib.hid h
  rw [hn] at hl1 hl2 hl3 hl4
  simp only at hl1 hl2 hl3 hl4
  have HO := Lib.hid (fun (W : World) (H : TabG n W tb mr mc R C) => (show Calls Try.prog 22 #[.pointer (some ⟨tb, 0, none⟩), .agg #[.int .u32 i1, .int .u32 i2, .int .u16 i3]] W fun e w' => e = .returned (.bool false) ∧ Below W.heap.size W w' by rw [← ho]; exact old_any n W tb mr mc R C (i1, i2, i3) H))
  clear hn ho
  clear hA hA3 hR hV h h2 h3 hm hf hm' hf' hb2 hb3
  go_enter Try.func9, Try.ntmps9
  go_wp2_with fail
  clear hw1 hw2
  go_region
  obtain ⟨y, hy⟩ : ∃ y, set9 w3 (g + 2) (.int .u32 0) (.int .u32 0) (.int .u16 0) (.int .i64 0) (.int .i64 0) (.int .i64 0) (.float .f64 0) (.string ⟨#[]⟩) (.slice none 0 0) = y := ⟨_, rfl⟩
  have hyB : Below g w y := by rw [← hy]; exact set9_below HB.out (by omega) (.int .u32 0) (.int .u32 0) (.int .u16 0) (.int .i64 0) (.int .i64 0) (.int .i64 0) (.float .f64 0) (.string ⟨#[]⟩) (.slice none 0 0)
  have hyA : y.heap[g]? = some (.cells #[.int .u32 i1, .int .u32 i2, .int .u16 i3] 40 (0, 0)) := by rw [← hy]; exact (set9_other (by omega) (.int .u32 0) (.int .u32 0) (.int .u16 0) (.int .i64 0) (.int .i64 0) (.int .i64 0) (.float .f64 0) (.string ⟨#[]⟩) (.slice none 0 0)).trans HA.out
  have hyR : y.heap[g + 1]? = some (.cells #[.int .u32 0, .int .u32 0, .int .u16 0, .int .i64 0, .int .i64 0, .int .i64 0, .float .f64 0, .string ⟨#[]⟩, .slice none 0 0] 43 (0, 0)) := by rw [← hy]; exact (set9_other (by omega) (.int .u32 0) (.int .u32 0) (.int .u16 0) (.int .i64 0) (.int .i64 0) (.int .i64 0) (.float .f64 0) (.string ⟨#[]⟩) (.slice none 0 0)).trans HR.out
  have hyV : y.heap[g + 2]? = some (.cells #[.int .u32 0, .int .u32 0, .int .u16 0, .int .i64 0, .int .i64 0, .int .i64 0, .float .f64 0, .string ⟨#[]⟩, .slice none 0 0] 43 (0, 0)) := by rw [← hy]; exact set9_at HV.out (.int .u32 0) (.int .u32 0) (.int .u16 0) (.int .i64 0) (.int .i64 0) (.int .i64 0) (.float .f64 0) (.string ⟨#[]⟩) (.slice none 0 0)
  rw [show ((((((((((w3).setCell ⟨g + 2, 0, none⟩ (.int .u32 0)).setCell ⟨g + 2, 1, none⟩ (.int .u32 0)).setCell ⟨g + 2, 2, none⟩ (.int .u16 0)).setCell ⟨g + 2, 3, none⟩ (.int .i64 0)).setCell ⟨g + 2, 4, none⟩ (.int .i64 0)).setCell ⟨g + 2, 5, none⟩ (.int .i64 0)).setCell ⟨g + 2, 6, none⟩ (.float .f64 0)).setCell ⟨g + 2, 7, none⟩ (.string ⟨#[]⟩)).setCell ⟨g + 2, 8, none⟩ (.slice none 0 0)) = y from hy]
  have H4 := Lib.hid (show Below g w y.drew ∧ y.drew.heap[g]? = some (.cells #[.int .u32 i1, .int .u32 i2, .int .u16 i3] 40 (0, 0)) ∧ y.drew.heap[g + 1]? = some (.cells #[.int .u32 0, .int .u32 0, .int .u16 0, .int .i64 0, .int .i64 0, .int .i64 0, .float .f64 0, .string ⟨#[]⟩, .slice none 0 0] 43 (0, 0)) ∧ y.drew.heap[g + 2]? = some (.cells #[.int .u32 0, .int .u32 0, .int .u16 0, .int .i64 0, .int .i64 0, .int .i64 0, .float .f64 0, .string ⟨#[]⟩, .slice none 0 0] 43 (0, 0)) from ⟨Below.drew hyB, hyA, hyR, hyV⟩)
  clear hy hyB hyA hyR hyV
  revert H4
  generalize y.drew = w4
  intro H4
  have HB4 := Lib.hid H4.out.1
  have HA4 := Lib.hid H4.out.2.1
  have HR4 := Lib.hid H4.out.2.2.1
  have HV4 := Lib.hid H4.out.2.2.2
  have HT4 := Lib.hid (tabG_step HT.out (show Below w.heap.size w w4 by rw [hg]; exact HB4.out))
  clear H4 t0 t0' hl1 hl2 hl3 hl4 c0 c1 c2 k0 k1 k2 r0 z0 r1 z1 r2 z2 r3 z3 r4 z4 r5 z5 r6 z6 r7 z7 r8 z8 rf zf HA HR HV HB hs1 hs2 hs3 hw3
  have c0 := row_cell HA4.out 0; have c1 := row_cell HA4.out 1; have c2 := row_cell HA4.out 2
  simp only [List.getElem?_toArray, List.getElem?_cons_zero, List.getElem?_cons_succ] at c0 c1 c2
  go_wp2_with fail
  go_at_call 22; refine (HO.out _ HT4.out).mono ?_; rintro e w5 ⟨rfl, hb5⟩
  have hR5 := row_step HR4.out hb5
  have r0 := row_cell hR5 0; have r1 := row_cell hR5 1; have r2 := row_cell hR5 2; have r3 := row_cell hR5 3; have r4 := row_cell hR5 4; have r5 := row_cell hR5 5; have r6 := row_cell hR5 6; have r7 := row_cell hR5 7; have r8 := row_cell hR5 8
  simp only [List.getElem?_toArray, List.getElem?_cons_zero, List.getElem?_cons_succ] at r0 r1 r2 r3 r4 r5 r6 r7 r8
  have rf := fun o => row_frz hR5 o
  have HB5 := Lib.hid (Below.trans HB4.out (hb5.mono (show g ≤ w4.heap.size by have := HB4.out.size; omega)))
  have HLT := Lib.hid (row_lt hR5)
  clear hb5 hR5 c0 c1 c2
  go_wp2
  refine bodyPost_ret (v := .tuple #[repZ, .bool false, .int .i64 0]) (by simp [results, Try.results9, go_sem, World.cell?_setCell_same, World.cell?_setCell_other, r0, r1, r2, r3, r4, r5, r6, r7, r8]) rfl ⟨rfl, ?_⟩
  rw [hg]; exact set9_below (w := w5) (g := g + 1) HB5.out (by omega) _ _ _ _ _ _ _ _ _
set_option maxRecDepth 100000 in
set_option maxHeartbeats 8000000 in
theorem look_old (n : Nat) (w : World) (tb mr mc : Nat) (R : List (RE n)) (C : List KE) (i1 i2 i3 : Int) (h : TabG n w tb mr mc R C) (hn : getR R (i1, i2, i3) = none) (ho : oldC C (i1, i2, i3) = true) :
    Calls Try.prog 9 #[.pointer (some ⟨tb, 0, none⟩), .agg #[.int .u32 i1, .int .u32 i2, .int .u16 i3]] w fun e w' => e = .returned (.tuple #[repZ, .bool false, .int .i64 43]) ∧ Below w.heap.size w w' := by
  obtain ⟨w1, hw1⟩ : ∃ W, w.alloc (.cells #[.int .u32 i1, .int .u32 i2, .int .u16 i3] 40) = W := ⟨_, rfl⟩
  obtain ⟨w2, hw2⟩ : ∃ W, w1.alloc (.cells #[.int .u32 0, .int .u32 0, .int .u16 0, .int .i64 0, .int .i64 0, .int .i64 0, .float .f64 0, .string ⟨#[]⟩, .slice none 0 0] 43) = W := ⟨_, rfl⟩
  obtain ⟨w3, hw3⟩ : ∃ W, w2.alloc (.cells #[.int .u32 0, .int .u32 0, .int .u16 0, .int .i64 0, .int .i64 0, .int .i64 0, .float .f64 0, .string ⟨#[]⟩, .slice none 0 0] 43) = W := ⟨_, rfl⟩
  obtain ⟨g, hg⟩ : ∃ g, w.heap.size = g := ⟨_, rfl⟩
  have hs1 : w1.heap.size = g + 1 := by rw [← hw1, World.size_alloc, hg]
  have hs2 : w2.heap.size = g + 2 := by rw [← hw2, World.size_alloc, hs1]
  have hs3 : w3.heap.size = g + 3 := by rw [← hw3, World.size_alloc, hs2]
  have hb2 : Below g w w2 := by rw [← hw2, ← hw1, ← hg]; exact bel_alloc (bel_alloc (Below.refl w.heap.size w) _) _
  have hb3 : Below g w w3 := by rw [← hw3, ← hw2, ← hw1, ← hg]; exact bel_alloc (bel_alloc (bel_alloc (Below.refl w.heap.size w) _) _) _
  have HB := Lib.hid hb3
  have HS3 := Lib.hid hs3
  have h2 : TabG n w2 tb mr mc R C := tabG_step h (by rw [hg]; exact hb2)
  have h3 : TabG n w3 tb mr mc R C := tabG_step h (by rw [hg]; exact hb3)
  have t0 := row_cell h2.tab 0
  have t0' := row_cell h3.tab 0
  simp only [List.getElem?_toArray, List.getElem?_cons_zero, List.getElem?_cons_succ] at t0 t0'
  obtain ⟨es, ck, hm, hf⟩ := h2.rep
  obtain ⟨es', ck', hm', hf'⟩ := h3.rep
  have hl1 := look_did w2 mr es ck R (i1, i2, i3) hm hf
  have hl2 := look_did w2.drew mr es ck R (i1, i2, i3) hm hf
  have hl3 := look_did w3 mr es' ck' R (i1, i2, i3) hm' hf'
  have hl4 := look_did w3.drew mr es' ck' R (i1, i2, i3) hm' hf'
  have hA : w2.heap[g]? = some (.cells #[.int .u32 i1, .int .u32 i2, .int .u16 i3] 40 (0, 0)) := by rw [← hw2, ← hw1, ← hg]; exact row_alloc_step (row_alloc w _ _) _
  have hA3 : w3.heap[g]? = some (.cells #[.int .u32 i1, .int .u32 i2, .int .u16 i3] 40 (0, 0)) := by rw [← hw3]; exact row_alloc_step hA _
  have hR : w3.heap[g + 1]? = some (.cells #[.int .u32 0, .int .u32 0, .int .u16 0, .int .i64 0, .int .i64 0, .int .i64 0, .float .f64 0, .string ⟨#[]⟩, .slice none 0 0] 43 (0, 0)) := by rw [← hw3]; refine row_alloc_step ?_ _; rw [← hw2, ← hs1]; exact row_alloc w1 _ _
  have hV : w3.heap[g + 2]? = some (.cells #[.int .u32 0, .int .u32 0, .int .u16 0, .int .i64 0, .int .i64 0, .int .i64 0, .float .f64 0, .string ⟨#[]⟩, .slice none 0 0] 43 (0, 0)) := by rw [← hw3, ← hs2]; exact row_alloc w2 _ _
  have c0 := row_cell hA 0; have c1 := row_cell hA 1; have c2 := row_cell hA 2
  have k0 := row_cell hA3 0; have k1 := row_cell hA3 1; have k2 := row_cell hA3 2
  have r0 := row_cell hR 0; have r1 := row_cell hR 1; have r2 := row_cell hR 2; have r3 := row_cell hR 3; have r4 := row_cell hR 4; have r5 := row_cell hR 5; have r6 := row_cell hR 6; have r7 := row_cell hR 7; have r8 := row_cell hR 8
  have z0 := row_cell hV 0; have z1 := row_cell hV 1; have z2 := row_cell hV 2; have z3 := row_cell hV 3; have z4 := row_cell hV 4; have z5 := row_cell hV 5; have z6 := row_cell hV 6; have z7 := row_cell hV 7; have z8 := row_cell hV 8
  simp only [List.getElem?_toArray, List.getElem?_cons_zero, List.getElem?_cons_succ] at c0 c1 c2 k0 k1 k2 r0 z0 r1 z1 r2 z2 r3 z3 r4 z4 r5 z5 r6 z6 r7 z7 r8 z8
  have rf := fun o => row_frz hR o
  have zf := fun o => row_frz hV o
  have HA := Lib.hid hA3
  have HR := Lib.hid hR
  have HV := Lib.hid hV
  have HT := Lib.hid h
  rw [hn] at hl1 hl2 hl3 hl4
  simp only at hl1 hl2 hl3 hl4
  have HO := Lib.hid (fun (W : World) (H : TabG n W tb mr mc R C) => (show Calls Try.prog 22 #[.pointer (some ⟨tb, 0, none⟩), .agg #[.int .u32 i1, .int .u32 i2, .int .u16 i3]] W fun e w' => e = .returned (.bool true) ∧ Below W.heap.size W w' by rw [← ho]; exact old_any n W tb mr mc R C (i1, i2, i3) H))
  clear hn ho
  clear hA hA3 hR hV h h2 h3 hm hf hm' hf' hb2 hb3
  go_enter Try.func9, Try.ntmps9
  go_wp2_with fail
  clear hw1 hw2
  go_region
  obtain ⟨y, hy⟩ : ∃ y, set9 w3 (g + 2) (.int .u32 0) (.int .u32 0) (.int .u16 0) (.int .i64 0) (.int .i64 0) (.int .i64 0) (.float .f64 0) (.string ⟨#[]⟩) (.slice none 0 0) = y := ⟨_, rfl⟩
  have hyB : Below g w y := by rw [← hy]; exact set9_below HB.out (by omega) (.int .u32 0) (.int .u32 0) (.int .u16 0) (.int .i64 0) (.int .i64 0) (.int .i64 0) (.float .f64 0) (.string ⟨#[]⟩) (.slice none 0 0)
  have hyA : y.heap[g]? = some (.cells #[.int .u32 i1, .int .u32 i2, .int .u16 i3] 40 (0, 0)) := by rw [← hy]; exact (set9_other (by omega) (.int .u32 0) (.int .u32 0) (.int .u16 0) (.int .i64 0) (.int .i64 0) (.int .i64 0) (.float .f64 0) (.string ⟨#[]⟩) (.slice none 0 0)).trans HA.out
  have hyR : y.heap[g + 1]? = some (.cells #[.int .u32 0, .int .u32 0, .int .u16 0, .int .i64 0, .int .i64 0, .int .i64 0, .float .f64 0, .string ⟨#[]⟩, .slice none 0 0] 43 (0, 0)) := by rw [← hy]; exact (set9_other (by omega) (.int .u32 0) (.int .u32 0) (.int .u16 0) (.int .i64 0) (.int .i64 0) (.int .i64 0) (.float .f64 0) (.string ⟨#[]⟩) (.slice none 0 0)).trans HR.out
  have hyV : y.heap[g + 2]? = some (.cells #[.int .u32 0, .int .u32 0, .int .u16 0, .int .i64 0, .int .i64 0, .int .i64 0, .float .f64 0, .string ⟨#[]⟩, .slice none 0 0] 43 (0, 0)) := by rw [← hy]; exact set9_at HV.out (.int .u32 0) (.int .u32 0) (.int .u16 0) (.int .i64 0) (.int .i64 0) (.int .i64 0) (.float .f64 0) (.string ⟨#[]⟩) (.slice none 0 0)
  rw [show ((((((((((w3).setCell ⟨g + 2, 0, none⟩ (.int .u32 0)).setCell ⟨g + 2, 1, none⟩ (.int .u32 0)).setCell ⟨g + 2, 2, none⟩ (.int .u16 0)).setCell ⟨g + 2, 3, none⟩ (.int .i64 0)).setCell ⟨g + 2, 4, none⟩ (.int .i64 0)).setCell ⟨g + 2, 5, none⟩ (.int .i64 0)).setCell ⟨g + 2, 6, none⟩ (.float .f64 0)).setCell ⟨g + 2, 7, none⟩ (.string ⟨#[]⟩)).setCell ⟨g + 2, 8, none⟩ (.slice none 0 0)) = y from hy]
  have H4 := Lib.hid (show Below g w y.drew ∧ y.drew.heap[g]? = some (.cells #[.int .u32 i1, .int .u32 i2, .int .u16 i3] 40 (0, 0)) ∧ y.drew.heap[g + 1]? = some (.cells #[.int .u32 0, .int .u32 0, .int .u16 0, .int .i64 0, .int .i64 0, .int .i64 0, .float .f64 0, .string ⟨#[]⟩, .slice none 0 0] 43 (0, 0)) ∧ y.drew.heap[g + 2]? = some (.cells #[.int .u32 0, .int .u32 0, .int .u16 0, .int .i64 0, .int .i64 0, .int .i64 0, .float .f64 0, .string ⟨#[]⟩, .slice none 0 0] 43 (0, 0)) from ⟨Below.drew hyB, hyA, hyR, hyV⟩)
  clear hy hyB hyA hyR hyV
  revert H4
  generalize y.drew = w4
  intro H4
  have HB4 := Lib.hid H4.out.1
  have HA4 := Lib.hid H4.out.2.1
  have HR4 := Lib.hid H4.out.2.2.1
  have HV4 := Lib.hid H4.out.2.2.2
  have HT4 := Lib.hid (tabG_step HT.out (show Below w.heap.size w w4 by rw [hg]; exact HB4.out))
  clear H4 t0 t0' hl1 hl2 hl3 hl4 c0 c1 c2 k0 k1 k2 r0 z0 r1 z1 r2 z2 r3 z3 r4 z4 r5 z5 r6 z6 r7 z7 r8 z8 rf zf HA HR HV HB hs1 hs2 hs3 hw3
  have c0 := row_cell HA4.out 0; have c1 := row_cell HA4.out 1; have c2 := row_cell HA4.out 2
  simp only [List.getElem?_toArray, List.getElem?_cons_zero, List.getElem?_cons_succ] at c0 c1 c2
  go_wp2_with fail
  go_at_call 22; refine (HO.out _ HT4.out).mono ?_; rintro e w5 ⟨rfl, hb5⟩
  have hR5 := row_step HR4.out hb5
  have r0 := row_cell hR5 0; have r1 := row_cell hR5 1; have r2 := row_cell hR5 2; have r3 := row_cell hR5 3; have r4 := row_cell hR5 4; have r5 := row_cell hR5 5; have r6 := row_cell hR5 6; have r7 := row_cell hR5 7; have r8 := row_cell hR5 8
  simp only [List.getElem?_toArray, List.getElem?_cons_zero, List.getElem?_cons_succ] at r0 r1 r2 r3 r4 r5 r6 r7 r8
  have rf := fun o => row_frz hR5 o
  have HB5 := Lib.hid (Below.trans HB4.out (hb5.mono (show g ≤ w4.heap.size by have := HB4.out.size; omega)))
  have HLT := Lib.hid (row_lt hR5)
  clear hb5 hR5 c0 c1 c2
  go_wp2
  refine bodyPost_ret (v := .tuple #[repZ, .bool false, .int .i64 43]) (by simp [results, Try.results9, go_sem, World.cell?_setCell_same, World.cell?_setCell_other, r0, r1, r2, r3, r4, r5, r6, r7, r8]) rfl ⟨rfl, ?_⟩
  rw [hg]; exact set9_below (w := w5) (g := g + 1) HB5.out (by omega) _ _ _ _ _ _ _ _ _
set_option maxRecDepth 100000 in
set_option maxHeartbeats 8000000 in
theorem look_at (n : Nat) (w : World) (tb mr mc : Nat) (R : List (RE n)) (C : List KE) (i1 i2 i3 : Int) (h : TabG n w tb mr mc R C) (er K I : Int) (F : Nat) (S : ByteArray) (q : Option Addr) (m d : Nat) (T : VT n) (hn : getR R (i1, i2, i3) = some ⟨(i1, i2, i3), er, K, I, F, S, q, m, d, T⟩) (hL : Lite n T) :
    Calls Try.prog 9 #[.pointer (some ⟨tb, 0, none⟩), .agg #[.int .u32 i1, .int .u32 i2, .int .u16 i3]] w fun e w' => ∃ (K2 I2 : Int) (F2 : Nat) (S2 : ByteArray) (q2 : Option Addr) (m2 d2 : Nat), e = .returned (.tuple #[.agg #[.int .u32 i1, .int .u32 i2, .int .u16 i3, .int .i64 er, .int .i64 K2, .int .i64 I2, .float .f64 F2, .string S2, .slice q2 m2 d2], .bool true, .int .i64 0]) ∧ RepC w' n (fun b => w.heap.size ≤ b) (.agg #[.int .i64 K2, .int .i64 I2, .float .f64 F2, .string S2, .slice q2 m2 d2]) (cleanT n T) ∧ Below w.heap.size w w' := by
  obtain ⟨w1, hw1⟩ : ∃ W, w.alloc (.cells #[.int .u32 i1, .int .u32 i2, .int .u16 i3] 40) = W := ⟨_, rfl⟩
  obtain ⟨w2, hw2⟩ : ∃ W, w1.alloc (.cells #[.int .u32 0, .int .u32 0, .int .u16 0, .int .i64 0, .int .i64 0, .int .i64 0, .float .f64 0, .string ⟨#[]⟩, .slice none 0 0] 43) = W := ⟨_, rfl⟩
  obtain ⟨w3, hw3⟩ : ∃ W, w2.alloc (.cells #[.int .u32 0, .int .u32 0, .int .u16 0, .int .i64 0, .int .i64 0, .int .i64 0, .float .f64 0, .string ⟨#[]⟩, .slice none 0 0] 43) = W := ⟨_, rfl⟩
  obtain ⟨g, hg⟩ : ∃ g, w.heap.size = g := ⟨_, rfl⟩
  have hs1 : w1.heap.size = g + 1 := by rw [← hw1, World.size_alloc, hg]
  have hs2 : w2.heap.size = g + 2 := by rw [← hw2, World.size_alloc, hs1]
  have hs3 : w3.heap.size = g + 3 := by rw [← hw3, World.size_alloc, hs2]
  have hb2 : Below g w w2 := by rw [← hw2, ← hw1, ← hg]; exact bel_alloc (bel_alloc (Below.refl w.heap.size w) _) _
  have hb3 : Below g w w3 := by rw [← hw3, ← hw2, ← hw1, ← hg]; exact bel_alloc (bel_alloc (bel_alloc (Below.refl w.heap.size w) _) _) _
  have HB := Lib.hid hb3
  have HS3 := Lib.hid hs3
  have h2 : TabG n w2 tb mr mc R C := tabG_step h (by rw [hg]; exact hb2)
  have h3 : TabG n w3 tb mr mc R C := tabG_step h (by rw [hg]; exact hb3)
  have t0 := row_cell h2.tab 0
  have t0' := row_cell h3.tab 0
  simp only [List.getElem?_toArray, List.getElem?_cons_zero, List.getElem?_cons_succ] at t0 t0'
  obtain ⟨es, ck, hm, hf⟩ := h2.rep
  obtain ⟨es', ck', hm', hf'⟩ := h3.rep
  have hl1 := look_did w2 mr es ck R (i1, i2, i3) hm hf
  have hl2 := look_did w2.drew mr es ck R (i1, i2, i3) hm hf
  have hl3 := look_did w3 mr es' ck' R (i1, i2, i3) hm' hf'
  have hl4 := look_did w3.drew mr es' ck' R (i1, i2, i3) hm' hf'
  have hA : w2.heap[g]? = some (.cells #[.int .u32 i1, .int .u32 i2, .int .u16 i3] 40 (0, 0)) := by rw [← hw2, ← hw1, ← hg]; exact row_alloc_step (row_alloc w _ _) _
  have hA3 : w3.heap[g]? = some (.cells #[.int .u32 i1, .int .u32 i2, .int .u16 i3] 40 (0, 0)) := by rw [← hw3]; exact row_alloc_step hA _
  have hR : w3.heap[g + 1]? = some (.cells #[.int .u32 0, .int .u32 0, .int .u16 0, .int .i64 0, .int .i64 0, .int .i64 0, .float .f64 0, .string ⟨#[]⟩, .slice none 0 0] 43 (0, 0)) := by rw [← hw3]; refine row_alloc_step ?_ _; rw [← hw2, ← hs1]; exact row_alloc w1 _ _
  have hV : w3.heap[g + 2]? = some (.cells #[.int .u32 0, .int .u32 0, .int .u16 0, .int .i64 0, .int .i64 0, .int .i64 0, .float .f64 0, .string ⟨#[]⟩, .slice none 0 0] 43 (0, 0)) := by rw [← hw3, ← hs2]; exact row_alloc w2 _ _
  have c0 := row_cell hA 0; have c1 := row_cell hA 1; have c2 := row_cell hA 2
  have k0 := row_cell hA3 0; have k1 := row_cell hA3 1; have k2 := row_cell hA3 2
  have r0 := row_cell hR 0; have r1 := row_cell hR 1; have r2 := row_cell hR 2; have r3 := row_cell hR 3; have r4 := row_cell hR 4; have r5 := row_cell hR 5; have r6 := row_cell hR 6; have r7 := row_cell hR 7; have r8 := row_cell hR 8
  have z0 := row_cell hV 0; have z1 := row_cell hV 1; have z2 := row_cell hV 2; have z3 := row_cell hV 3; have z4 := row_cell hV 4; have z5 := row_cell hV 5; have z6 := row_cell hV 6; have z7 := row_cell hV 7; have z8 := row_cell hV 8
  simp only [List.getElem?_toArray, List.getElem?_cons_zero, List.getElem?_cons_succ] at c0 c1 c2 k0 k1 k2 r0 z0 r1 z1 r2 z2 r3 z3 r4 z4 r5 z5 r6 z6 r7 z7 r8 z8
  have rf := fun o => row_frz hR o
  have zf := fun o => row_frz hV o
  have HA := Lib.hid hA3
  have HR := Lib.hid hR
  have HV := Lib.hid hV
  have HT := Lib.hid h
  rw [hn] at hl1 hl2 hl3 hl4
  simp only at hl1 hl2 hl3 hl4
  have HO := Lib.hid (fun (W : World) (H : TabG n W tb mr mc R C) => dclean_at n W i1 i2 i3 er K I F S q m d T (repC_rep _ _ _ _ (H.val _ (List.mem_of_find?_eq_some hn))) hL)
  clear hn hL
  clear hA hA3 hR hV h h2 h3 hm hf hm' hf' hb2 hb3
  go_enter Try.func9, Try.ntmps9
  go_wp2_with fail
  clear hw1 hw2
  go_region
  obtain ⟨y, hy⟩ : ∃ y, set9 w3 (g + 2) (.int .u32 i1) (.int .u32 i2) (.int .u16 i3) (.int .i64 er) (.int .i64 K) (.int .i64 I) (.float .f64 F) (.string S) (.slice q m d) = y := ⟨_, rfl⟩
  have hyB : Below g w y := by rw [← hy]; exact set9_below HB.out (by omega) (.int .u32 i1) (.int .u32 i2) (.int .u16 i3) (.int .i64 er) (.int .i64 K) (.int .i64 I) (.float .f64 F) (.string S) (.slice q m d)
  have hyA : y.heap[g]? = some (.cells #[.int .u32 i1, .int .u32 i2, .int .u16 i3] 40 (0, 0)) := by rw [← hy]; exact (set9_other (by omega) (.int .u32 i1) (.int .u32 i2) (.int .u16 i3) (.int .i64 er) (.int .i64 K) (.int .i64 I) (.float .f64 F) (.string S) (.slice q m d)).trans HA.out
  have hyR : y.heap[g + 1]? = some (.cells #[.int .u32 0, .int .u32 0, .int .u16 0, .int .i64 0, .int .i64 0, .int .i64 0, .float .f64 0, .string ⟨#[]⟩, .slice none 0 0] 43 (0, 0)) := by rw [← hy]; exact (set9_other (by omega) (.int .u32 i1) (.int .u32 i2) (.int .u16 i3) (.int .i64 er) (.int .i64 K) (.int .i64 I) (.float .f64 F) (.string S) (.slice q m d)).trans HR.out
  have hyV : y.heap[g + 2]? = some (.cells #[.int .u32 i1, .int .u32 i2, .int .u16 i3, .int .i64 er, .int .i64 K, .int .i64 I, .float .f64 F, .string S, .slice q m d] 43 (0, 0)) := by rw [← hy]; exact set9_at HV.out (.int .u32 i1) (.int .u32 i2) (.int .u16 i3) (.int .i64 er) (.int .i64 K) (.int .i64 I) (.float .f64 F) (.string S) (.slice q m d)
  rw [show ((((((((((w3).setCell ⟨g + 2, 0, none⟩ (.int .u32 i1)).setCell ⟨g + 2, 1, none⟩ (.int .u32 i2)).setCell ⟨g + 2, 2, none⟩ (.int .u16 i3)).setCell ⟨g + 2, 3, none⟩ (.int .i64 er)).setCell ⟨g + 2, 4, none⟩ (.int .i64 K)).setCell ⟨g + 2, 5, none⟩ (.int .i64 I)).setCell ⟨g + 2, 6, none⟩ (.float .f64 F)).setCell ⟨g + 2, 7, none⟩ (.string S)).setCell ⟨g + 2, 8, none⟩ (.slice q m d)) = y from hy]
  have H4 := Lib.hid (show Below g w y.drew ∧ y.drew.heap[g]? = some (.cells #[.int .u32 i1, .int .u32 i2, .int .u16 i3] 40 (0, 0)) ∧ y.drew.heap[g + 1]? = some (.cells #[.int .u32 0, .int .u32 0, .int .u16 0, .int .i64 0, .int .i64 0, .int .i64 0, .float .f64 0, .string ⟨#[]⟩, .slice none 0 0] 43 (0, 0)) ∧ y.drew.heap[g + 2]? = some (.cells #[.int .u32 i1, .int .u32 i2, .int .u16 i3, .int .i64 er, .int .i64 K, .int .i64 I, .float .f64 F, .string S, .slice q m d] 43 (0, 0)) from ⟨Below.drew hyB, hyA, hyR, hyV⟩)
  clear hy hyB hyA hyR hyV
  revert H4
  generalize y.drew = w4
  intro H4
  have HB4 := Lib.hid H4.out.1
  have HA4 := Lib.hid H4.out.2.1
  have HR4 := Lib.hid H4.out.2.2.1
  have HV4 := Lib.hid H4.out.2.2.2
  have HT4 := Lib.hid (tabG_step HT.out (show Below w.heap.size w w4 by rw [hg]; exact HB4.out))
  clear H4 t0 t0' hl1 hl2 hl3 hl4 c0 c1 c2 k0 k1 k2 r0 z0 r1 z1 r2 z2 r3 z3 r4 z4 r5 z5 r6 z6 r7 z7 r8 z8 rf zf HA HR HV HB hs1 hs2 hs3 hw3
  have c0 := row_cell HA4.out 0; have c1 := row_cell HA4.out 1; have c2 := row_cell HA4.out 2
  simp only [List.getElem?_toArray, List.getElem?_cons_zero, List.getElem?_cons_succ] at c0 c1 c2
  have v0 := row_cell HV4.out 0; have v1 := row_cell HV4.out 1; have v2 := row_cell HV4.out 2; have v3 := row_cell HV4.out 3; have v4 := row_cell HV4.out 4; have v5 := row_cell HV4.out 5; have v6 := row_cell HV4.out 6; have v7 := row_cell HV4.out 7; have v8 := row_cell HV4.out 8
  simp only [List.getElem?_toArray, List.getElem?_cons_zero, List.getElem?_cons_succ] at v0 v1 v2 v3 v4 v5 v6 v7 v8
  go_wp2_with fail
  go_at_call 21; refine (HO.out _ HT4.out).mono ?_; rintro e w5 ⟨K2, I2, F2, S2, q2, m2, d2, rfl, hv5, hb5⟩
  have hR5 := row_step HR4.out hb5
  have HV5 := Lib.hid hv5
  have r0 := row_cell hR5 0; have r1 := row_cell hR5 1; have r2 := row_cell hR5 2; have r3 := row_cell hR5 3; have r4 := row_cell hR5 4; have r5 := row_cell hR5 5; have r6 := row_cell hR5 6; have r7 := row_cell hR5 7; have r8 := row_cell hR5 8
  simp only [List.getElem?_toArray, List.getElem?_cons_zero, List.getElem?_cons_succ] at r0 r1 r2 r3 r4 r5 r6 r7 r8
  have rf := fun o => row_frz hR5 o
  have HB5 := Lib.hid (Below.trans HB4.out (hb5.mono (show g ≤ w4.heap.size by have := HB4.out.size; omega)))
  have HLT := Lib.hid (row_lt HR4.out)
  clear hb5 hR5 c0 c1 c2 v0 v1 v2 v3 v4 v5 v6 v7 v8 hv5
  go_wp2
  refine bodyPost_ret (v := .tuple #[.agg #[.int .u32 i1, .int .u32 i2, .int .u16 i3, .int .i64 er, .int .i64 K2, .int .i64 I2, .float .f64 F2, .string S2, .slice q2 m2 d2], .bool true, .int .i64 0]) (by simp [results, Try.results9, go_sem, World.cell?_setCell_same, World.cell?_setCell_other, r0, r1, r2, r3, r4, r5, r6, r7, r8]) rfl ⟨K2, I2, F2, S2, q2, m2, d2, rfl, ?_, ?_⟩
  · refine repC_mono n (fun b => w4.heap.size ≤ b) _ _ _ (fun b hb => by have := HB4.out.size; show w.heap.size ≤ b; exact Nat.le_trans this hb) (repS_keep (w := w5) (fun b hb => set9_other (w := w5) (g := g + 1) (k := b) (by have h1 := HLT.out; have h2 : w4.heap.size ≤ b := hb; omega) _ _ _ _ _ _ _ _ _) n _ _ HV5.out)
  · rw [hg]; exact set9_below (w := w5) (g := g + 1) HB5.out (by omega) _ _ _ _ _ _ _ _ _
/-- Look at an id that has a reply. -/
theorem look_some (n : Nat) (w : World) (tb mr mc : Nat) (R : List (RE n)) (C : List KE) (x : DId) (r : RE n) (h : TabG n w tb mr mc R C) (hn : getR R x = some r) (hL : Lite n r.T) :
    Calls Try.prog 9 #[.pointer (some ⟨tb, 0, none⟩), didA x] w fun e w' => ∃ r' : RE n, e = .returned (.tuple #[r'.a, .bool true, .int .i64 0]) ∧ r'.x = x ∧ r'.e = r.e ∧ r'.T = cleanT n r.T ∧ RepC w' n (fun b => w.heap.size ≤ b) r'.v r'.T ∧ Below w.heap.size w w' := by
  obtain ⟨i1, i2, i3⟩ := x
  have hx : (i1, i2, i3) = r.x := by have := List.find?_some hn; simpa using this
  obtain ⟨rx, er, K, I, F, S, q, m, d, T⟩ := r
  obtain rfl : (i1, i2, i3) = rx := hx
  refine (look_at n w tb mr mc R C i1 i2 i3 h er K I F S q m d T hn hL).mono ?_
  rintro e w' ⟨K2, I2, F2, S2, q2, m2, d2, rfl, h1, h2⟩
  exact ⟨⟨(i1, i2, i3), er, K2, I2, F2, S2, q2, m2, d2, cleanT n T⟩, rfl, rfl, rfl, rfl, h1, h2⟩
/-- Look at an id that has none. -/
theorem look_no (n : Nat) (w : World) (tb mr mc : Nat) (R : List (RE n)) (C : List KE) (x : DId) (h : TabG n w tb mr mc R C) (hn : getR R x = none) :
    Calls Try.prog 9 #[.pointer (some ⟨tb, 0, none⟩), didA x] w fun e w' => e = .returned (.tuple #[repZ, .bool false, .int .i64 (if oldC C x = true then 43 else 0)]) ∧ Below w.heap.size w w' := by
  obtain ⟨i1, i2, i3⟩ := x
  cases ho : oldC C (i1, i2, i3) with
  | false => exact look_none n w tb mr mc R C i1 i2 i3 h hn ho
  | true => exact look_old n w tb mr mc R C i1 i2 i3 h hn ho
end Num
end Go.Proofs.Ytijfgmhdkflfmaa
