/-
  Package dedup's Put.
-/
import Derived.Test.YtijfgmhdkflfmaaSp
namespace Go.Proofs.Ytijfgmhdkflfmaa
open Go.RowKit
namespace Num
open Ints
set_option linter.unusedSimpArgs false
set_option linter.unusedVariables false
/-- note, whatever the table. -/
theorem note_any (n : Nat) (w : World) (tb mr mc : Nat) (R : List (RE n)) (C : List KE) (x : DId) (h : TabG n w tb mr mc R C) (hw : WfC C) :
    Calls Try.prog 25 #[.pointer (some ⟨tb, 0, none⟩), didA x] w fun e w' => e = .returned (.tuple #[]) ∧ NoteP n w tb mr mc R C x w' := by
  obtain ⟨x0, x1, x2⟩ := x
  cases hg : getC C x0 with
  | none => exact note_new n w tb mr mc R C x0 x1 x2 h hw hg
  | some k =>
    obtain ⟨kc, b, kk, L⟩ := k
    have hl := (hw.all _ (List.mem_of_find?_eq_some hg)).2.1
    simp only at hl
    have new : (∀ z, L[posL (datL L) x1]? = some z → z.s ≠ x1) → Calls Try.prog 25 #[.pointer (some ⟨tb, 0, none⟩), didA (x0, x1, x2)] w fun e w' => e = .returned (.tuple #[]) ∧ NoteP n w tb mr mc R C (x0, x1, x2) w' := fun hnf => by
      by_cases h4 : L.length = 4
      · exact note_full n w tb mr mc R C x0 x1 x2 h hw kc b kk L hg hnf h4
      · exact note_room n w tb mr mc R C x0 x1 x2 h hw kc b kk L hg hnf (by omega)
    cases hz : L[posL (datL L) x1]? with
    | none => exact new (fun z hz' => by rw [hz] at hz'; cases hz')
    | some y =>
      by_cases hy : y.s = x1
      · obtain ⟨s, ib, ic, ids⟩ := y
        obtain rfl : s = x1 := hy
        exact note_there n w tb mr mc R C x0 s x2 h hw kc b kk L hg ib ic ids hz
      · exact new (fun z hz' => by rw [hz] at hz'; injection hz' with hz'; rw [← hz']; exact hy)
set_option maxRecDepth 100000 in
set_option maxHeartbeats 8000000 in
theorem put_there (n : Nat) (w : World) (tb mr mc : Nat) (R : List (RE n)) (C : List KE) (i1 i2 i3 er K I : Int) (F : Nat) (S : ByteArray) (q : Option Addr) (m d : Nat) (T : VT n) (h : TabG n w tb mr mc R C) (r0 : RE n) (hn : getR R (i1, i2, i3) = some r0) :
    Calls Try.prog 12 #[.pointer (some ⟨tb, 0, none⟩), .agg #[.int .u32 i1, .int .u32 i2, .int .u16 i3, .int .i64 er, .int .i64 K, .int .i64 I, .float .f64 F, .string S, .slice q m d]] w fun e w' => e = .returned (.bool false) ∧ Below w.heap.size w w' := by
  obtain ⟨w1, hw1⟩ : ∃ W, w.alloc (.cells #[.int .u32 i1, .int .u32 i2, .int .u16 i3, .int .i64 er, .int .i64 K, .int .i64 I, .float .f64 F, .string S, .slice q m d] 43) = W := ⟨_, rfl⟩
  obtain ⟨w3, hw3⟩ : ∃ W, w1.alloc (.cells #[.int .u32 0, .int .u32 0, .int .u16 0, .int .i64 0, .int .i64 0, .int .i64 0, .float .f64 0, .string ⟨#[]⟩, .slice none 0 0] 43) = W := ⟨_, rfl⟩
  obtain ⟨g, hg⟩ : ∃ g, w.heap.size = g := ⟨_, rfl⟩
  have hs1 : w1.heap.size = g + 1 := by rw [← hw1, World.size_alloc, hg]
  have hs3 : w3.heap.size = g + 2 := by rw [← hw3, World.size_alloc, hs1]
  have hb1 : Below g w w1 := by rw [← hw1, ← hg]; exact bel_alloc (Below.refl w.heap.size w) _
  have hb3 : Below g w w3 := by rw [← hw3, ← hw1, ← hg]; exact bel_alloc (bel_alloc (Below.refl w.heap.size w) _) _
  have HB := Lib.hid hb3
  have h1 : TabG n w1 tb mr mc R C := tabG_step h (by rw [hg]; exact hb1)
  have h3 : TabG n w3 tb mr mc R C := tabG_step h (by rw [hg]; exact hb3)
  have t0 := row_cell h1.tab 0
  have t0' := row_cell h3.tab 0
  simp only [List.getElem?_toArray, List.getElem?_cons_zero, List.getElem?_cons_succ] at t0 t0'
  obtain ⟨es, ck, hm, hf⟩ := h1.rep
  obtain ⟨es', ck', hm', hf'⟩ := h3.rep
  have hl1 := look_did w1 mr es ck R (i1, i2, i3) hm hf
  have hl2 := look_did w1.drew mr es ck R (i1, i2, i3) hm hf
  have hl3 := look_did w3 mr es' ck' R (i1, i2, i3) hm' hf'
  have hl4 := look_did w3.drew mr es' ck' R (i1, i2, i3) hm' hf'
  have hA : w1.heap[g]? = some (.cells #[.int .u32 i1, .int .u32 i2, .int .u16 i3, .int .i64 er, .int .i64 K, .int .i64 I, .float .f64 F, .string S, .slice q m d] 43 (0, 0)) := by rw [← hw1, ← hg]; exact row_alloc w _ _
  have hA3 : w3.heap[g]? = some (.cells #[.int .u32 i1, .int .u32 i2, .int .u16 i3, .int .i64 er, .int .i64 K, .int .i64 I, .float .f64 F, .string S, .slice q m d] 43 (0, 0)) := by rw [← hw3]; exact row_alloc_step hA _
  have hV : w3.heap[g + 1]? = some (.cells #[.int .u32 0, .int .u32 0, .int .u16 0, .int .i64 0, .int .i64 0, .int .i64 0, .float .f64 0, .string ⟨#[]⟩, .slice none 0 0] 43 (0, 0)) := by rw [← hw3, ← hs1]; exact row_alloc w1 _ _
  have c0 := row_cell hA 0; have c1 := row_cell hA 1; have c2 := row_cell hA 2
  have k0 := row_cell hA3 0; have k1 := row_cell hA3 1; have k2 := row_cell hA3 2
  have z0 := row_cell hV 0; have z1 := row_cell hV 1; have z2 := row_cell hV 2; have z3 := row_cell hV 3; have z4 := row_cell hV 4; have z5 := row_cell hV 5; have z6 := row_cell hV 6; have z7 := row_cell hV 7; have z8 := row_cell hV 8
  simp only [List.getElem?_toArray, List.getElem?_cons_zero, List.getElem?_cons_succ] at c0 c1 c2 k0 k1 k2 z0 z1 z2 z3 z4 z5 z6 z7 z8
  have zf := fun o => row_frz hV o
  have HA := Lib.hid hA3
  have HV := Lib.hid hV
  have HT := Lib.hid h
  have HS3 := Lib.hid hs3
  obtain ⟨⟨j1, j2, j3⟩, er0, K0, I0, F0, S0, q0, m0, d0, T0⟩ := r0
  rw [hn] at hl1 hl2 hl3 hl4
  simp only at hl1 hl2 hl3 hl4
  clear hn
  clear hA hA3 hV h h1 h3 hm hf hm' hf' hb1 hb3
  go_enter Try.func12, Try.ntmps12
  go_wp2_with fail
  clear hw1
  go_region
  obtain ⟨y, hy⟩ : ∃ y, set9 w3 (g + 1) (.int .u32 j1) (.int .u32 j2) (.int .u16 j3) (.int .i64 er0) (.int .i64 K0) (.int .i64 I0) (.float .f64 F0) (.string S0) (.slice q0 m0 d0) = y := ⟨_, rfl⟩
  have hyB : Below g w y := by rw [← hy]; exact set9_below HB.out (by omega) (.int .u32 j1) (.int .u32 j2) (.int .u16 j3) (.int .i64 er0) (.int .i64 K0) (.int .i64 I0) (.float .f64 F0) (.string S0) (.slice q0 m0 d0)
  have hyA : y.heap[g]? = some (.cells #[.int .u32 i1, .int .u32 i2, .int .u16 i3, .int .i64 er, .int .i64 K, .int .i64 I, .float .f64 F, .string S, .slice q m d] 43 (0, 0)) := by rw [← hy]; exact (set9_other (by omega) (.int .u32 j1) (.int .u32 j2) (.int .u16 j3) (.int .i64 er0) (.int .i64 K0) (.int .i64 I0) (.float .f64 F0) (.string S0) (.slice q0 m0 d0)).trans HA.out
  rw [show ((((((((((w3).setCell ⟨g + 1, 0, none⟩ (.int .u32 j1)).setCell ⟨g + 1, 1, none⟩ (.int .u32 j2)).setCell ⟨g + 1, 2, none⟩ (.int .u16 j3)).setCell ⟨g + 1, 3, none⟩ (.int .i64 er0)).setCell ⟨g + 1, 4, none⟩ (.int .i64 K0)).setCell ⟨g + 1, 5, none⟩ (.int .i64 I0)).setCell ⟨g + 1, 6, none⟩ (.float .f64 F0)).setCell ⟨g + 1, 7, none⟩ (.string S0)).setCell ⟨g + 1, 8, none⟩ (.slice q0 m0 d0)) = y from hy]
  have H4 := Lib.hid (show Below g w y.drew ∧ y.drew.heap[g]? = some (.cells #[.int .u32 i1, .int .u32 i2, .int .u16 i3, .int .i64 er, .int .i64 K, .int .i64 I, .float .f64 F, .string S, .slice q m d] 43 (0, 0)) from ⟨Below.drew hyB, hyA⟩)
  clear hy hyB hyA
  revert H4
  generalize y.drew = w4
  intro H4
  have HB4 := Lib.hid H4.out.1
  have HA4 := Lib.hid H4.out.2
  have HT4 := Lib.hid (tabG_step HT.out (show Below w.heap.size w w4 by rw [hg]; exact HB4.out))
  clear H4 t0 t0' hl1 hl2 hl3 hl4 c0 c1 c2 k0 k1 k2 z0 z1 z2 z3 z4 z5 z6 z7 z8 zf HA HV HB hs1 hs3 hw3
  have c0 := row_cell HA4.out 0; have c1 := row_cell HA4.out 1; have c2 := row_cell HA4.out 2; have c3 := row_cell HA4.out 3; have c4 := row_cell HA4.out 4; have c5 := row_cell HA4.out 5; have c6 := row_cell HA4.out 6; have c7 := row_cell HA4.out 7; have c8 := row_cell HA4.out 8
  simp only [List.getElem?_toArray, List.getElem?_cons_zero, List.getElem?_cons_succ] at c0 c1 c2 c3 c4 c5 c6 c7 c8
  go_wp2
  go_ret
  exact ⟨rfl, by rw [hg]; exact HB4.out⟩
set_option maxRecDepth 100000 in
set_option maxHeartbeats 8000000 in
theorem put_old (n : Nat) (w : World) (tb mr mc : Nat) (R : List (RE n)) (C : List KE) (i1 i2 i3 er K I : Int) (F : Nat) (S : ByteArray) (q : Option Addr) (m d : Nat) (T : VT n) (h : TabG n w tb mr mc R C) (hn : getR R (i1, i2, i3) = none) (ho : oldC C (i1, i2, i3) = true) :
    Calls Try.prog 12 #[.pointer (some ⟨tb, 0, none⟩), .agg #[.int .u32 i1, .int .u32 i2, .int .u16 i3, .int .i64 er, .int .i64 K, .int .i64 I, .float .f64 F, .string S, .slice q m d]] w fun e w' => e = .returned (.bool false) ∧ Below w.heap.size w w' := by
  obtain ⟨w1, hw1⟩ : ∃ W, w.alloc (.cells #[.int .u32 i1, .int .u32 i2, .int .u16 i3, .int .i64 er, .int .i64 K, .int .i64 I, .float .f64 F, .string S, .slice q m d] 43) = W := ⟨_, rfl⟩
  obtain ⟨w3, hw3⟩ : ∃ W, w1.alloc (.cells #[.int .u32 0, .int .u32 0, .int .u16 0, .int .i64 0, .int .i64 0, .int .i64 0, .float .f64 0, .string ⟨#[]⟩, .slice none 0 0] 43) = W := ⟨_, rfl⟩
  obtain ⟨g, hg⟩ : ∃ g, w.heap.size = g := ⟨_, rfl⟩
  have hs1 : w1.heap.size = g + 1 := by rw [← hw1, World.size_alloc, hg]
  have hs3 : w3.heap.size = g + 2 := by rw [← hw3, World.size_alloc, hs1]
  have hb1 : Below g w w1 := by rw [← hw1, ← hg]; exact bel_alloc (Below.refl w.heap.size w) _
  have hb3 : Below g w w3 := by rw [← hw3, ← hw1, ← hg]; exact bel_alloc (bel_alloc (Below.refl w.heap.size w) _) _
  have HB := Lib.hid hb3
  have h1 : TabG n w1 tb mr mc R C := tabG_step h (by rw [hg]; exact hb1)
  have h3 : TabG n w3 tb mr mc R C := tabG_step h (by rw [hg]; exact hb3)
  have t0 := row_cell h1.tab 0
  have t0' := row_cell h3.tab 0
  simp only [List.getElem?_toArray, List.getElem?_cons_zero, List.getElem?_cons_succ] at t0 t0'
  obtain ⟨es, ck, hm, hf⟩ := h1.rep
  obtain ⟨es', ck', hm', hf'⟩ := h3.rep
  have hl1 := look_did w1 mr es ck R (i1, i2, i3) hm hf
  have hl2 := look_did w1.drew mr es ck R (i1, i2, i3) hm hf
  have hl3 := look_did w3 mr es' ck' R (i1, i2, i3) hm' hf'
  have hl4 := look_did w3.drew mr es' ck' R (i1, i2, i3) hm' hf'
  have hA : w1.heap[g]? = some (.cells #[.int .u32 i1, .int .u32 i2, .int .u16 i3, .int .i64 er, .int .i64 K, .int .i64 I, .float .f64 F, .string S, .slice q m d] 43 (0, 0)) := by rw [← hw1, ← hg]; exact row_alloc w _ _
  have hA3 : w3.heap[g]? = some (.cells #[.int .u32 i1, .int .u32 i2, .int .u16 i3, .int .i64 er, .int .i64 K, .int .i64 I, .float .f64 F, .string S, .slice q m d] 43 (0, 0)) := by rw [← hw3]; exact row_alloc_step hA _
  have hV : w3.heap[g + 1]? = some (.cells #[.int .u32 0, .int .u32 0, .int .u16 0, .int .i64 0, .int .i64 0, .int .i64 0, .float .f64 0, .string ⟨#[]⟩, .slice none 0 0] 43 (0, 0)) := by rw [← hw3, ← hs1]; exact row_alloc w1 _ _
  have c0 := row_cell hA 0; have c1 := row_cell hA 1; have c2 := row_cell hA 2
  have k0 := row_cell hA3 0; have k1 := row_cell hA3 1; have k2 := row_cell hA3 2
  have z0 := row_cell hV 0; have z1 := row_cell hV 1; have z2 := row_cell hV 2; have z3 := row_cell hV 3; have z4 := row_cell hV 4; have z5 := row_cell hV 5; have z6 := row_cell hV 6; have z7 := row_cell hV 7; have z8 := row_cell hV 8
  simp only [List.getElem?_toArray, List.getElem?_cons_zero, List.getElem?_cons_succ] at c0 c1 c2 k0 k1 k2 z0 z1 z2 z3 z4 z5 z6 z7 z8
  have zf := fun o => row_frz hV o
  have HA := Lib.hid hA3
  have HV := Lib.hid hV
  have HT := Lib.hid h
  have HS3 := Lib.hid hs3
  rw [hn] at hl1 hl2 hl3 hl4
  simp only at hl1 hl2 hl3 hl4
  have HO := Lib.hid (fun (W : World) (H : TabG n W tb mr mc R C) => (show Calls Try.prog 22 #[.pointer (some ⟨tb, 0, none⟩), .agg #[.int .u32 i1, .int .u32 i2, .int .u16 i3]] W fun e w' => e = .returned (.bool true) ∧ Below W.heap.size W w' by rw [← ho]; exact old_any n W tb mr mc R C (i1, i2, i3) H))
  clear hn ho
  clear hA hA3 hV h h1 h3 hm hf hm' hf' hb1 hb3
  go_enter Try.func12, Try.ntmps12
  go_wp2_with fail
  clear hw1
  go_region
  obtain ⟨y, hy⟩ : ∃ y, set9 w3 (g + 1) (.int .u32 0) (.int .u32 0) (.int .u16 0) (.int .i64 0) (.int .i64 0) (.int .i64 0) (.float .f64 0) (.string ⟨#[]⟩) (.slice none 0 0) = y := ⟨_, rfl⟩
  have hyB : Below g w y := by rw [← hy]; exact set9_below HB.out (by omega) (.int .u32 0) (.int .u32 0) (.int .u16 0) (.int .i64 0) (.int .i64 0) (.int .i64 0) (.float .f64 0) (.string ⟨#[]⟩) (.slice none 0 0)
  have hyA : y.heap[g]? = some (.cells #[.int .u32 i1, .int .u32 i2, .int .u16 i3, .int .i64 er, .int .i64 K, .int .i64 I, .float .f64 F, .string S, .slice q m d] 43 (0, 0)) := by rw [← hy]; exact (set9_other (by omega) (.int .u32 0) (.int .u32 0) (.int .u16 0) (.int .i64 0) (.int .i64 0) (.int .i64 0) (.float .f64 0) (.string ⟨#[]⟩) (.slice none 0 0)).trans HA.out
  rw [show ((((((((((w3).setCell ⟨g + 1, 0, none⟩ (.int .u32 0)).setCell ⟨g + 1, 1, none⟩ (.int .u32 0)).setCell ⟨g + 1, 2, none⟩ (.int .u16 0)).setCell ⟨g + 1, 3, none⟩ (.int .i64 0)).setCell ⟨g + 1, 4, none⟩ (.int .i64 0)).setCell ⟨g + 1, 5, none⟩ (.int .i64 0)).setCell ⟨g + 1, 6, none⟩ (.float .f64 0)).setCell ⟨g + 1, 7, none⟩ (.string ⟨#[]⟩)).setCell ⟨g + 1, 8, none⟩ (.slice none 0 0)) = y from hy]
  have H4 := Lib.hid (show Below g w y.drew ∧ y.drew.heap[g]? = some (.cells #[.int .u32 i1, .int .u32 i2, .int .u16 i3, .int .i64 er, .int .i64 K, .int .i64 I, .float .f64 F, .string S, .slice q m d] 43 (0, 0)) from ⟨Below.drew hyB, hyA⟩)
  clear hy hyB hyA
  revert H4
  generalize y.drew = w4
  intro H4
  have HB4 := Lib.hid H4.out.1
  have HA4 := Lib.hid H4.out.2
  have HT4 := Lib.hid (tabG_step HT.out (show Below w.heap.size w w4 by rw [hg]; exact HB4.out))
  clear H4 t0 t0' hl1 hl2 hl3 hl4 c0 c1 c2 k0 k1 k2 z0 z1 z2 z3 z4 z5 z6 z7 z8 zf HA HV HB hs1 hs3 hw3
  have c0 := row_cell HA4.out 0; have c1 := row_cell HA4.out 1; have c2 := row_cell HA4.out 2; have c3 := row_cell HA4.out 3; have c4 := row_cell HA4.out 4; have c5 := row_cell HA4.out 5; have c6 := row_cell HA4.out 6; have c7 := row_cell HA4.out 7; have c8 := row_cell HA4.out 8
  simp only [List.getElem?_toArray, List.getElem?_cons_zero, List.getElem?_cons_succ] at c0 c1 c2 c3 c4 c5 c6 c7 c8
  go_wp2_with (go_at_call 22; refine (HO.out _ HT4.out).mono ?_; rintro e w5 ⟨rfl, hb5⟩)
  go_ret
  exact ⟨rfl, by rw [hg]; exact Below.trans HB4.out (hb5.mono (by have := row_lt HA4.out; omega))⟩
theorem tabG_new {n : Nat} {w6 w7 : World} {tb mr mc : Nat} {R : List (RE n)} {C : List KE} {r : RE n} {es es' : Array MapEntry} {ck ck' : Nat} {P : Nat → Prop} (h : TabG n w6 tb mr mc R C) (hm : w6.heap[mr]? = some (.map es ck)) (ho : ∀ k, k ≠ mr → w7.heap[k]? = w6.heap[k]?) (hm7 : w7.heap[mr]? = some (.map es' ck')) (hk : KvR es' ck' (R ++ [r])) (hv : RepC w6 n P r.v r.T) : TabG n w7 tb mr mc (R ++ [r]) C :=
  tabG_rep h (fun b _ hb => ho b hb) ⟨es', ck', hm7, hk⟩ (fun z hz => by
    rcases List.mem_append.1 hz with hz | hz
    · exact Or.inl hz
    · rw [List.mem_singleton.1 hz]
      exact Or.inr (repC_mono _ _ _ _ _ (fun _ _ => trivial) (repC_keep _ _ _ _ (fun b hb => by obtain ⟨_, cur, hp⟩ := hb; exact ho b (ne_map hp hm)) (repC_pln _ _ _ _ hv))))
/-- What was told of a later world, told of an earlier one. -/
theorem noteP_from {n : Nat} {w w7 w' : World} {tb mr mc : Nat} {R : List (RE n)} {C : List KE} {x : DId} (hc : Chg mr mc (getC C x.1) w w7) (h : NoteP n w7 tb mr mc R C x w') : NoteP n w tb mr mc R C x w' := by
  obtain ⟨k2, h1, h2, h3, h4, h5⟩ := h
  exact ⟨k2, h1, h2, h3, chg_trans hc h4, fun b hb => (h5 b hb).imp (fun h => Nat.le_trans hc.size h) id⟩
set_option maxRecDepth 100000 in
set_option maxHeartbeats 8000000 in
theorem put_at (n : Nat) (w : World) (tb mr mc : Nat) (R : List (RE n)) (C : List KE) (i1 i2 i3 er K I : Int) (F : Nat) (S : ByteArray) (q : Option Addr) (m d : Nat) (T : VT n) (h : TabG n w tb mr mc R C) (hw : WfC C) (hn : getR R (i1, i2, i3) = none) (ho : oldC C (i1, i2, i3) = false) (hr : Rep w n (.agg #[.int .i64 K, .int .i64 I, .float .f64 F, .string S, .slice q m d]) T) (hL : Lite n T) :
    Calls Try.prog 12 #[.pointer (some ⟨tb, 0, none⟩), .agg #[.int .u32 i1, .int .u32 i2, .int .u16 i3, .int .i64 er, .int .i64 K, .int .i64 I, .float .f64 F, .string S, .slice q m d]] w fun e w' => ∃ (K2 I2 : Int) (F2 : Nat) (S2 : ByteArray) (q2 : Option Addr) (m2 d2 : Nat), e = .returned (.bool true) ∧ NoteP n w tb mr mc (R ++ [(⟨(i1, i2, i3), er, K2, I2, F2, S2, q2, m2, d2, cleanT n T⟩ : RE n)]) C (i1, i2, i3) w' := by
  obtain ⟨w1, hw1⟩ : ∃ W, w.alloc (.cells #[.int .u32 i1, .int .u32 i2, .int .u16 i3, .int .i64 er, .int .i64 K, .int .i64 I, .float .f64 F, .string S, .slice q m d] 43) = W := ⟨_, rfl⟩
  obtain ⟨w3, hw3⟩ : ∃ W, w1.alloc (.cells #[.int .u32 0, .int .u32 0, .int .u16 0, .int .i64 0, .int .i64 0, .int .i64 0, .float .f64 0, .string ⟨#[]⟩, .slice none 0 0] 43) = W := ⟨_, rfl⟩
  obtain ⟨g, hg⟩ : ∃ g, w.heap.size = g := ⟨_, rfl⟩
  have hs1 : w1.heap.size = g + 1 := by rw [← hw1, World.size_alloc, hg]
  have hs3 : w3.heap.size = g + 2 := by rw [← hw3, World.size_alloc, hs1]
  have hb1 : Below g w w1 := by rw [← hw1, ← hg]; exact bel_alloc (Below.refl w.heap.size w) _
  have hb3 : Below g w w3 := by rw [← hw3, ← hw1, ← hg]; exact bel_alloc (bel_alloc (Below.refl w.heap.size w) _) _
  have HB := Lib.hid hb3
  have h1 : TabG n w1 tb mr mc R C := tabG_step h (by rw [hg]; exact hb1)
  have h3 : TabG n w3 tb mr mc R C := tabG_step h (by rw [hg]; exact hb3)
  have t0 := row_cell h1.tab 0
  have t0' := row_cell h3.tab 0
  simp only [List.getElem?_toArray, List.getElem?_cons_zero, List.getElem?_cons_succ] at t0 t0'
  obtain ⟨es, ck, hm, hf⟩ := h1.rep
  obtain ⟨es', ck', hm', hf'⟩ := h3.rep
  have hl1 := look_did w1 mr es ck R (i1, i2, i3) hm hf
  have hl2 := look_did w1.drew mr es ck R (i1, i2, i3) hm hf
  have hl3 := look_did w3 mr es' ck' R (i1, i2, i3) hm' hf'
  have hl4 := look_did w3.drew mr es' ck' R (i1, i2, i3) hm' hf'
  have hA : w1.heap[g]? = some (.cells #[.int .u32 i1, .int .u32 i2, .int .u16 i3, .int .i64 er, .int .i64 K, .int .i64 I, .float .f64 F, .string S, .slice q m d] 43 (0, 0)) := by rw [← hw1, ← hg]; exact row_alloc w _ _
  have hA3 : w3.heap[g]? = some (.cells #[.int .u32 i1, .int .u32 i2, .int .u16 i3, .int .i64 er, .int .i64 K, .int .i64 I, .float .f64 F, .string S, .slice q m d] 43 (0, 0)) := by rw [← hw3]; exact row_alloc_step hA _
  have hV : w3.heap[g + 1]? = some (.cells #[.int .u32 0, .int .u32 0, .int .u16 0, .int .i64 0, .int .i64 0, .int .i64 0, .float .f64 0, .string ⟨#[]⟩, .slice none 0 0] 43 (0, 0)) := by rw [← hw3, ← hs1]; exact row_alloc w1 _ _
  have c0 := row_cell hA 0; have c1 := row_cell hA 1; have c2 := row_cell hA 2
  have k0 := row_cell hA3 0; have k1 := row_cell hA3 1; have k2 := row_cell hA3 2
  have z0 := row_cell hV 0; have z1 := row_cell hV 1; have z2 := row_cell hV 2; have z3 := row_cell hV 3; have z4 := row_cell hV 4; have z5 := row_cell hV 5; have z6 := row_cell hV 6; have z7 := row_cell hV 7; have z8 := row_cell hV 8
  simp only [List.getElem?_toArray, List.getElem?_cons_zero, List.getElem?_cons_succ] at c0 c1 c2 k0 k1 k2 z0 z1 z2 z3 z4 z5 z6 z7 z8
  have zf := fun o => row_frz hV o
  have HA := Lib.hid hA3
  have HV := Lib.hid hV
  have HT := Lib.hid h
  have HS3 := Lib.hid hs3
  rw [hn] at hl1 hl2 hl3 hl4
  simp only at hl1 hl2 hl3 hl4
  have HO := Lib.hid (fun (W : World) (H : TabG n W tb mr mc R C) => (show Calls Try.prog 22 #[.pointer (some ⟨tb, 0, none⟩), .agg #[.int .u32 i1, .int .u32 i2, .int .u16 i3]] W fun e w' => e = .returned (.bool false) ∧ Below W.heap.size W w' by rw [← ho]; exact old_any n W tb mr mc R C (i1, i2, i3) H))
  have HN := Lib.hid hn
  have HW := Lib.hid hw
  have HCL := Lib.hid (fun (W : World) (hb : Below w.heap.size w W) => dclean_at n W i1 i2 i3 er K I F S q m d T (rep_keep hb _ _ _ hr) hL)
  clear hn ho hr hL hw
  clear hA hA3 hV h h1 h3 hm hf hm' hf' hb1 hb3
  go_enter Try.func12, Try.ntmps12
  go_wp2_with fail
  clear hw1
  go_region
  obtain ⟨y, hy⟩ : ∃ y, set9 w3 (g + 1) (.int .u32 0) (.int .u32 0) (.int .u16 0) (.int .i64 0) (.int .i64 0) (.int .i64 0) (.float .f64 0) (.string ⟨#[]⟩) (.slice none 0 0) = y := ⟨_, rfl⟩
  have hyB : Below g w y := by rw [← hy]; exact set9_below HB.out (by omega) (.int .u32 0) (.int .u32 0) (.int .u16 0) (.int .i64 0) (.int .i64 0) (.int .i64 0) (.float .f64 0) (.string ⟨#[]⟩) (.slice none 0 0)
  have hyA : y.heap[g]? = some (.cells #[.int .u32 i1, .int .u32 i2, .int .u16 i3, .int .i64 er, .int .i64 K, .int .i64 I, .float .f64 F, .string S, .slice q m d] 43 (0, 0)) := by rw [← hy]; exact (set9_other (by omega) (.int .u32 0) (.int .u32 0) (.int .u16 0) (.int .i64 0) (.int .i64 0) (.int .i64 0) (.float .f64 0) (.string ⟨#[]⟩) (.slice none 0 0)).trans HA.out
  rw [show ((((((((((w3).setCell ⟨g + 1, 0, none⟩ (.int .u32 0)).setCell ⟨g + 1, 1, none⟩ (.int .u32 0)).setCell ⟨g + 1, 2, none⟩ (.int .u16 0)).setCell ⟨g + 1, 3, none⟩ (.int .i64 0)).setCell ⟨g + 1, 4, none⟩ (.int .i64 0)).setCell ⟨g + 1, 5, none⟩ (.int .i64 0)).setCell ⟨g + 1, 6, none⟩ (.float .f64 0)).setCell ⟨g + 1, 7, none⟩ (.string ⟨#[]⟩)).setCell ⟨g + 1, 8, none⟩ (.slice none 0 0)) = y from hy]
  have H4 := Lib.hid (show Below g w y.drew ∧ y.drew.heap[g]? = some (.cells #[.int .u32 i1, .int .u32 i2, .int .u16 i3, .int .i64 er, .int .i64 K, .int .i64 I, .float .f64 F, .string S, .slice q m d] 43 (0, 0)) from ⟨Below.drew hyB, hyA⟩)
  clear hy hyB hyA
  revert H4
  generalize y.drew = w4
  intro H4
  have HB4 := Lib.hid H4.out.1
  have HA4 := Lib.hid H4.out.2
  have HT4 := Lib.hid (tabG_step HT.out (show Below w.heap.size w w4 by rw [hg]; exact HB4.out))
  clear H4 t0 t0' hl1 hl2 hl3 hl4 c0 c1 c2 k0 k1 k2 z0 z1 z2 z3 z4 z5 z6 z7 z8 zf HA HV HB hs1 hs3 hw3
  have c0 := row_cell HA4.out 0; have c1 := row_cell HA4.out 1; have c2 := row_cell HA4.out 2; have c3 := row_cell HA4.out 3; have c4 := row_cell HA4.out 4; have c5 := row_cell HA4.out 5; have c6 := row_cell HA4.out 6; have c7 := row_cell HA4.out 7; have c8 := row_cell HA4.out 8
  simp only [List.getElem?_toArray, List.getElem?_cons_zero, List.getElem?_cons_succ] at c0 c1 c2 c3 c4 c5 c6 c7 c8
  go_wp2_with fail
  go_at_call 22; refine (HO.out _ HT4.out).mono ?_; rintro e w5 ⟨rfl, hb5⟩
  clear c0 c1 c2 c3 c4 c5 c6 c7 c8
  have hA5 := row_step HA4.out hb5
  have HB5 := Lib.hid (Below.trans HB4.out (hb5.mono (show g ≤ w4.heap.size by have := row_lt HA4.out; omega)))
  have HT5 := Lib.hid (tabG_step HT4.out hb5)
  have HA5 := Lib.hid hA5
  have c0 := row_cell hA5 0; have c1 := row_cell hA5 1; have c2 := row_cell hA5 2; have c3 := row_cell hA5 3; have c4 := row_cell hA5 4; have c5 := row_cell hA5 5; have c6 := row_cell hA5 6; have c7 := row_cell hA5 7; have c8 := row_cell hA5 8
  have t0 := row_cell HT5.out.tab 0
  simp only [List.getElem?_toArray, List.getElem?_cons_zero, List.getElem?_cons_succ] at c0 c1 c2 c3 c4 c5 c6 c7 c8 t0
  clear hb5 hA5
  go_wp2_with fail
  go_region_held3 (fun z => z.cell? ⟨g, 0, none⟩ = some (.int .u32 i1) ∧ z.cell? ⟨g, 1, none⟩ = some (.int .u32 i2) ∧ z.cell? ⟨g, 2, none⟩ = some (.int .u16 i3) ∧ z.cell? ⟨g, 3, none⟩ = some (.int .i64 er) ∧ z.cell? ⟨g, 4, none⟩ = some (.int .i64 K) ∧ z.cell? ⟨g, 5, none⟩ = some (.int .i64 I) ∧ z.cell? ⟨g, 6, none⟩ = some (.float .f64 F) ∧ z.cell? ⟨g, 7, none⟩ = some (.string S) ∧ z.cell? ⟨g, 8, none⟩ = some (.slice q m d) ∧ z.cell? ⟨tb, 0, none⟩ = some (.map (some mr))) ((refine ⟨?_, ?_, ?_, ?_, ?_, ?_, ?_, ?_, ?_, ?_⟩ <;> first | assumption | go_keep)) ((go_at_call 21; refine (HCL.out _ (Below.drew (by rw [hg]; exact HB5.out))).mono ?_; rintro e w6 ⟨K2, I2, F2, S2, q2, m2, d2, rfl, hv6, hb6⟩; have hb6' := bel_step (w := w5) (Below.drew (Below.refl _ _)) hb6; have HB6 := Lib.hid hb6'; have HV6 := Lib.hid hv6; have hA6 := row_step HA5.out hb6'; have h6 := tabG_step HT5.out hb6'; have e0 := row_cell hA6 0; have e1 := row_cell hA6 1; have e2 := row_cell hA6 2; have e3 := row_cell hA6 3; have e4 := row_cell hA6 4; have e5 := row_cell hA6 5; have e6 := row_cell hA6 6; have e7 := row_cell hA6 7; have e8 := row_cell hA6 8; have e9 := row_cell h6.tab 0; simp only [List.getElem?_toArray, List.getElem?_cons_zero, List.getElem?_cons_succ] at e0 e1 e2 e3 e4 e5 e6 e7 e8 e9; obtain ⟨es6, ck6, hm6, hf6⟩ := h6.rep; obtain ⟨hpd1, hpd2⟩ := put_did w6 mr es6 ck6 R ⟨(i1, i2, i3), er, K2, I2, F2, S2, q2, m2, d2, cleanT n T⟩ hm6 hf6 HN.out; obtain ⟨w7, hw7⟩ : ∃ W, mpD w6 mr (es6.push { key := didA (⟨(i1, i2, i3), er, K2, I2, F2, S2, q2, m2, d2, cleanT n T⟩ : RE n).x, val := (⟨(i1, i2, i3), er, K2, I2, F2, S2, q2, m2, d2, cleanT n T⟩ : RE n).a, born := ck6 }) (ck6 + 1) = W := ⟨_, rfl⟩; rw [hw7] at hpd1; have hup : (Instr.mapUpdate 59 (.map (some mr)) (.agg #[.int .u32 i1, .int .u32 i2, .int .u16 i3]) (.agg #[.int .u32 i1, .int .u32 i2, .int .u16 i3, .int .i64 er, .int .i64 K2, .int .i64 I2, .float .f64 F2, .string S2, .slice q2 m2 d2])).run Try.prog w6 = .ok () w7 := hpd1; have ho7 : ∀ k, k ≠ mr → w7.heap[k]? = w6.heap[k]? := (fun k hk => by rw [← hw7]; exact mpD_other hk _ _); have hA7 := (ho7 g (ne_map hA6 hm6)).trans hA6; have h7 : TabG n w7 tb mr mc (R ++ [(⟨(i1, i2, i3), er, K2, I2, F2, S2, q2, m2, d2, cleanT n T⟩ : RE n)]) C := tabG_new h6 hm6 ho7 (by rw [← hw7]; exact mpD_at hm6 _ _) hpd2 HV6.out; have f0 := row_cell hA7 0; have f1 := row_cell hA7 1; have f2 := row_cell hA7 2; have f3 := row_cell hA7 3; have f4 := row_cell hA7 4; have f5 := row_cell hA7 5; have f6 := row_cell hA7 6; have f7 := row_cell hA7 7; have f8 := row_cell hA7 8; have f9 := row_cell h7.tab 0; simp only [List.getElem?_toArray, List.getElem?_cons_zero, List.getElem?_cons_succ] at f0 f1 f2 f3 f4 f5 f6 f7 f8 f9; have HC7 := Lib.hid (show Chg mr mc (getC C i1) w w7 from (by rw [← hw7]; exact chg_mp (chg_bel (Below.trans (by rw [hg]; exact HB5.out) (hb6'.mono (by have := HB5.out.size; exact this)))) mr (Or.inl rfl) _ _)); have HT7 := Lib.hid h7; have HA7 := Lib.hid hA7; clear hm6 hf6 h6 hA6 hb6 hb6' hv6 hpd1 hpd2 hw7 ho7 hA7 h7))
  all_goals
    clear c0 c1 c2 c3 c4 c5 c6 c7 c8 e0 e1 e2 e3 e4 e5 e6 e7 e8 e9 t0
    have HNP := Lib.hid (note_any n _ tb mr mc _ C (i1, i2, i3) HT7.out HW.out)
    go_wp2_with fail
    go_at_call 25; refine HNP.out.mono ?_; rintro e w8 ⟨rfl, hp⟩
    have HP := Lib.hid hp
    clear hp
    go_wp2
    go_ret
    exact ⟨K2, I2, F2, S2, q2, m2, d2, rfl, noteP_from HC7.out HP.out⟩
/-- Put of an id that may be kept. -/
theorem put_new (n : Nat) (w : World) (tb mr mc : Nat) (R : List (RE n)) (C : List KE) (r : RE n) (h : TabG n w tb mr mc R C) (hw : WfC C) (hn : getR R r.x = none) (ho : oldC C r.x = false) (hr : Rep w n r.v r.T) (hL : Lite n r.T) :
    Calls Try.prog 12 #[.pointer (some ⟨tb, 0, none⟩), r.a] w fun e w' => ∃ r' : RE n, e = .returned (.bool true) ∧ r'.x = r.x ∧ r'.e = r.e ∧ r'.T = cleanT n r.T ∧ NoteP n w tb mr mc (R ++ [r']) C r.x w' := by
  obtain ⟨⟨i1, i2, i3⟩, er, K, I, F, S, q, m, d, T⟩ := r
  refine (put_at n w tb mr mc R C i1 i2 i3 er K I F S q m d T h hw hn ho hr hL).mono ?_
  rintro e w' ⟨K2, I2, F2, S2, q2, m2, d2, rfl, hp⟩
  exact ⟨⟨(i1, i2, i3), er, K2, I2, F2, S2, q2, m2, d2, cleanT n T⟩, rfl, rfl, rfl, rfl, hp⟩
/-- Put of an id that has a reply, or is too old. -/
theorem put_no (n : Nat) (w : World) (tb mr mc : Nat) (R : List (RE n)) (C : List KE) (r : RE n) (h : TabG n w tb mr mc R C) (hn : getR R r.x ≠ none ∨ oldC C r.x = true) :
    Calls Try.prog 12 #[.pointer (some ⟨tb, 0, none⟩), r.a] w fun e w' => e = .returned (.bool false) ∧ Below w.heap.size w w' := by
  obtain ⟨⟨i1, i2, i3⟩, er, K, I, F, S, q, m, d, T⟩ := r
  cases hg : getR R (i1, i2, i3) with
  | some r0 => exact put_there n w tb mr mc R C i1 i2 i3 er K I F S q m d T h r0 hg
  | none =>
    rcases hn with hn | hn
    · exact absurd hg hn
    · exact put_old n w tb mr mc R C i1 i2 i3 er K I F S q m d T h hg hn
end Num
end Go.Proofs.Ytijfgmhdkflfmaa
