/-
  Package group: Do, create, destroy, style.
-/
import Derived.Test.YtbfnghbfilahnaaKd0
import Derived.Test.YtbfnghbfilahnaaAH
namespace Go.Proofs.Ytbfnghbfilahnaa
open Go.RowKit
namespace Num
open Ints
set_option linter.unusedSimpArgs false
set_option linter.unusedVariables false
/-- Five cells anew. -/
def setV (w : World) (g : Nat) (a0 a1 a2 a3 a4 : Value) : World := ((((w.setCell ⟨g, 0, none⟩ a0).setCell ⟨g, 1, none⟩ a1).setCell ⟨g, 2, none⟩ a2).setCell ⟨g, 3, none⟩ a3).setCell ⟨g, 4, none⟩ a4
theorem setV_below {B : Nat} {a w : World} (h : Below B a w) {g : Nat} (hg : B ≤ g) (a0 a1 a2 a3 a4 : Value) : Below B a (setV w g a0 a1 a2 a3 a4) :=
  ((((h.setCell (p := ⟨g, 0, none⟩) hg _).setCell (p := ⟨g, 1, none⟩) hg _).setCell (p := ⟨g, 2, none⟩) hg _).setCell (p := ⟨g, 3, none⟩) hg _).setCell (p := ⟨g, 4, none⟩) hg _
theorem setV_other {w : World} {g k : Nat} (hne : k ≠ g) (a0 a1 a2 a3 a4 : Value) : (setV w g a0 a1 a2 a3 a4).heap[k]? = w.heap[k]? := by
  unfold setV
  iterate 5 rw [Below.heap_setCell _ _ _ _ hne]
theorem setV_at {w : World} {g : Nat} {b0 b1 b2 b3 b4 : Value} {t : TypeId} (h : w.heap[g]? = some (.cells #[b0, b1, b2, b3, b4] t (0, 0))) (a0 a1 a2 a3 a4 : Value) : (setV w g a0 a1 a2 a3 a4).heap[g]? = some (.cells #[a0, a1, a2, a3, a4] t (0, 0)) := by
  simp [setV, World.setCell, Array.getElem?_modify, h]
theorem setV_size (w : World) (g : Nat) (a0 a1 a2 a3 a4 : Value) : (setV w g a0 a1 a2 a3 a4).heap.size = w.heap.size := by
  unfold setV
  simp
theorem but_setV {mb : Nat} {x y : World} (h : But mb x y) {g : Nat} (hg : x.heap.size ≤ g) (a0 a1 a2 a3 a4 : Value) : But mb x (setV y g a0 a1 a2 a3 a4) := by
  have hB := setV_below (Below.refl g y) (Nat.le_refl g) a0 a1 a2 a3 a4
  generalize setV y g a0 a1 a2 a3 a4 = u at hB
  exact ⟨hB.os.trans h.1, hB.tape.trans h.2.1, hB.output.trans h.2.2.1, Nat.le_trans h.2.2.2.1 hB.size, fun k hk hne => (hB.block k (Nat.lt_of_lt_of_le hk hg)).trans (h.2.2.2.2 k hk hne)⟩
theorem but_from {mb : Nat} {w x y : World} (h : Below w.heap.size w x) (k : But mb x y) : But mb w y := but_trans (but_bel h) k
theorem but_row {mb b : Nat} {x y : World} {o : Obj} (h : But mb x y) (hr : x.heap[b]? = some o) (hne : b ≠ mb) : y.heap[b]? = some o := (h.2.2.2.2 b (row_lt hr) hne).trans hr
/-- Texts, as arguments lie. -/
def txC (S : ByteArray) : List Value := [.int .i64 3, .int .i64 0, .float .f64 0, .string S, .slice none 0 0]
theorem flat5 : ∀ (X : List ByteArray) (k j : Nat), k < X.length → j < 5 → (X.flatMap txC)[k * 5 + j]? = (txC (X.getD k ⟨#[]⟩))[j]?
  | [], k, j, h, _ => absurd h (Nat.not_lt_zero _)
  | S :: X, 0, j, _, hj => by
    rw [List.flatMap_cons, List.getElem?_append_left (by show 0 * 5 + j < 5; omega)]
    simp
  | S :: X, k + 1, j, h, hj => by
    have ih := flat5 X k j (by rw [List.length_cons] at h; omega) hj
    rw [List.flatMap_cons, List.getElem?_append_right (by show 5 ≤ (k + 1) * 5 + j; omega)]
    have e : (k + 1) * 5 + j - (txC S).length = k * 5 + j := by show (k + 1) * 5 + j - 5 = k * 5 + j; omega
    rw [e, ih]
    rfl
/-- The arguments are these texts. -/
def ArgT (w : World) (b : Nat) (X : List ByteArray) : Prop := w.heap[b]? = some (.cells (X.flatMap txC).toArray 39 (0, 0))
theorem argT_cells {w : World} {b : Nat} {X : List ByteArray} (h : ArgT w b X) (k : Nat) (hk : k < X.length) : w.cell? ⟨b, k * 5, none⟩ = some (.int .i64 3) ∧ w.cell? ⟨b, k * 5 + 1, none⟩ = some (.int .i64 0) ∧ w.cell? ⟨b, k * 5 + 2, none⟩ = some (.float .f64 0) ∧ w.cell? ⟨b, k * 5 + 3, none⟩ = some (.string (X.getD k ⟨#[]⟩)) ∧ w.cell? ⟨b, k * 5 + 4, none⟩ = some (.slice none 0 0) := by
  have f := fun j (hj : j < 5) => flat5 X k j hk hj
  refine ⟨?_, ?_, ?_, ?_, ?_⟩
  · rw [row_cell h, List.getElem?_toArray, show k * 5 = k * 5 + 0 from rfl, f 0 (by omega)]; rfl
  · rw [row_cell h, List.getElem?_toArray, f 1 (by omega)]; rfl
  · rw [row_cell h, List.getElem?_toArray, f 2 (by omega)]; rfl
  · rw [row_cell h, List.getElem?_toArray, f 3 (by omega)]; rfl
  · rw [row_cell h, List.getElem?_toArray, f 4 (by omega)]; rfl
theorem setV_cell (w : World) (g b o : Nat) (v : Value) (hne : b ≠ g) (h : w.cell? ⟨b, o, none⟩ = some v) (a0 a1 a2 a3 a4 : Value) : (setV w g a0 a1 a2 a3 a4).cell? ⟨b, o, none⟩ = some v := by
  generalize hy : setV w g a0 a1 a2 a3 a4 = y
  have e : y.heap[b]? = w.heap[b]? := by rw [← hy]; exact setV_other hne a0 a1 a2 a3 a4
  exact (World.cell?_of_block (a := ⟨b, o, none⟩) e).trans h
set_option maxRecDepth 100000 in
set_option maxHeartbeats 4000000 in
theorem do_destroy (w : World) (tb mb : Nat) (L L2 : List Gp) (z : Int) (b : Nat) (S0 : ByteArray) (hd : DirG w tb mb L) (hrow : w.heap[b]? = some (.cells #[.int .i64 3, .int .i64 0, .float .f64 0, .string S0, .slice none 0 0] 39 (0, 0))) (hx : ∀ S ∈ [S0], S.size ≤ 256) (h1 : 0 < S0.size) (h2 : S0.size ≤ 32)
    (hcal : ∀ y, DirG y tb mb L → Calls Try.prog 27 #[.pointer (some ⟨tb, 0, none⟩), .string S0] y fun e w' => e = .returned (.int .i64 z) ∧ DirG w' tb mb L2 ∧ But mb y w') :
    Calls Try.prog 11 #[.pointer (some ⟨tb, 0, none⟩), .string ⟨#[100, 101, 115, 116, 114, 111, 121]⟩, .slice (some ⟨b, 0, none⟩) 1 1] w fun e w' => e = .returned (.tuple #[.agg #[.int .i64 0, .int .i64 0, .float .f64 0, .string ⟨#[]⟩, .slice none 0 0], .int .i64 z]) ∧ DirG w' tb mb L2 ∧ But mb w w' := by
  obtain ⟨g0, hg0⟩ : ∃ g, w.heap.size = g := ⟨_, rfl⟩
  obtain ⟨w1, hw1⟩ : ∃ W, w.alloc (.cells #[.int .i64 0, .int .i64 0, .float .f64 0, .string ⟨#[]⟩, .slice none 0 0] 39) = W := ⟨_, rfl⟩
  have hR1 : w1.heap[g0]? = some (.cells #[.int .i64 0, .int .i64 0, .float .f64 0, .string ⟨#[]⟩, .slice none 0 0] 39 (0, 0)) := by rw [← hw1, ← hg0]; exact row_alloc w _ _
  have hb1 : Below w.heap.size w w1 := by rw [← hw1]; exact bel_alloc (Below.refl _ _) _
  have HR1 := Lib.hid hR1
  have HB1 := Lib.hid hb1
  have HD1 := Lib.hid (dir_step hd hb1)
  have HA1 := Lib.hid (show ArgT w1 b [S0] from row_step hrow hb1)
  have hbm : b ≠ mb := by
    rintro rfl
    obtain ⟨_, es, ck, hm, _⟩ := hd
    rw [hrow] at hm
    cases hm
  have htl : tb < g0 := by rw [← hg0]; exact row_lt hd.1
  have hml : mb < g0 := by
    obtain ⟨_, es, ck, hm, _⟩ := hd
    rw [← hg0]; exact row_lt hm
  have hbl : b < g0 := by rw [← hg0]; exact row_lt hrow
  have HX := Lib.hid hx
  have HC := Lib.hid hcal
  clear hR1 hb1 hd hrow hx hcal
  go_enter Try.func11, Try.ntmps11
  go_wp2_with fail
  clear hw1
  go_loopw [13] (fun iv wr => ∃ k : Nat, k ≤ 1 ∧ iv = .int .i64 k ∧ Below w1.heap.size w1 wr) (fun iv _ => 1 - (intOf iv).toNat)
  case atStart => exact ⟨0, Nat.zero_le _, rfl, Below.refl _ _⟩
  case round =>
    obtain ⟨k, hk, rfl, hb⟩ := hrel
    by_cases hlt : k < 1
    · have HB := Lib.hid hb
      obtain ⟨c0, c1, c2, c3, c4⟩ := argT_cells (show ArgT wr b [S0] from row_step HA1.out hb) k hlt
      obtain ⟨S, hS⟩ : ∃ S, ([S0] : List ByteArray).getD k ⟨#[]⟩ = S := ⟨_, rfl⟩
      have hS2 : S.size ≤ 256 := by
        have e : ([S0] : List ByteArray).getD k ⟨#[]⟩ = ([S0] : List ByteArray)[k]'hlt := by rw [List.getD_eq_getElem?_getD, List.getElem?_eq_getElem hlt]; rfl
        rw [← hS, e]
        exact HX.out _ (List.getElem_mem _)
      rw [hS] at c3
      have HS := Lib.hid (chk_text S · hS2)
      have hkI : (k : Int) < 1 := by omega
      have hk0 : (0 : Int) ≤ (k : Int) := by omega
      have hblw : b < wr.heap.size := cell_lt c0
      obtain ⟨g, hg⟩ : ∃ g, wr.heap.size = g := ⟨_, rfl⟩
      obtain ⟨x, hxx⟩ : ∃ W, wr.alloc (.cells #[.int .i64 0, .int .i64 0, .float .f64 0, .string ⟨#[]⟩, .slice none 0 0] 39) = W := ⟨_, rfl⟩
      have hV : x.heap[g]? = some (.cells #[.int .i64 0, .int .i64 0, .float .f64 0, .string ⟨#[]⟩, .slice none 0 0] 39 (0, 0)) := by rw [← hxx, ← hg]; exact row_alloc wr _ _
      obtain ⟨y, hy⟩ : ∃ y, setV x g (.int .i64 3) (.int .i64 0) (.float .f64 0) (.string S) (.slice none 0 0) = y := ⟨_, rfl⟩
      have hyV : y.heap[g]? = some (.cells #[.int .i64 3, .int .i64 0, .float .f64 0, .string S, .slice none 0 0] 39 (0, 0)) := by rw [← hy]; exact setV_at hV (.int .i64 3) (.int .i64 0) (.float .f64 0) (.string S) (.slice none 0 0)
      have hbY : Below wr.heap.size wr y := by rw [← hy, hg]; exact setV_below (by rw [← hxx, ← hg]; exact bel_alloc (Below.refl _ _) _) (Nat.le_refl _) (.int .i64 3) (.int .i64 0) (.float .f64 0) (.string S) (.slice none 0 0)
      have v0 := row_cell hV 0; have v1 := row_cell hV 1; have v2 := row_cell hV 2; have v3 := row_cell hV 3; have v4 := row_cell hV 4
      simp only [List.getElem?_toArray, List.getElem?_cons_zero, List.getElem?_cons_succ] at v0 v1 v2 v3 v4
      have vf := fun o => row_frz hV o
      have HY := Lib.hid (show (((((x.setCell ⟨g, 0, none⟩ (.int .i64 3)).setCell ⟨g, 1, none⟩ (.int .i64 0)).setCell ⟨g, 2, none⟩ (.float .f64 0)).setCell ⟨g, 3, none⟩ (.string S)).setCell ⟨g, 4, none⟩ (.slice none 0 0)) = y from hy)
      have HYV := Lib.hid hyV
      have HBY := Lib.hid (bel_step HB.out hbY)
      clear hV hy hyV hbY hb hS hS2
      go_upto_region 4 with fail
      clear hxx
      rw [HY.out]
      clear v0 v1 v2 v3 v4 vf c0 c1 c2 c3 c4 HY
      have c0 := row_cell HYV.out 0; have c1 := row_cell HYV.out 1; have c2 := row_cell HYV.out 2; have c3 := row_cell HYV.out 3; have c4 := row_cell HYV.out 4
      simp only [List.getElem?_toArray, List.getElem?_cons_zero, List.getElem?_cons_succ] at c0 c1 c2 c3 c4
      have hlg := row_lt HYV.out
      go_wp2_with fail
      go_at_call 23; refine (HS.out _).mono ?_; rintro e x2 ⟨rfl, hb2⟩
      have HB2 := Lib.hid (bel_step HBY.out hb2)
      clear hb2
      go_wp2
      go_roundw
      case rel => exact ⟨k + 1, by omega, by go_num, HB2.out⟩
      case measure => simp [intOf]; omega
    · obtain rfl : k = 1 := by omega
      have hkI : ¬ ((1 : Int) < 1) := by omega
      have HB := Lib.hid hb
      have HDr := Lib.hid (dir_step HD1.out hb)
      have HAr := Lib.hid (show wr.heap[b]? = some (.cells #[.int .i64 3, .int .i64 0, .float .f64 0, .string S0, .slice none 0 0] 39 (0, 0)) from row_step HA1.out hb)
      have HRr := Lib.hid (row_step HR1.out hb)
      clear hb HD1 HA1
      go_wp2_with fail
      go_at_call 24; refine (iscall_destroy _ b S0 HAr.out h1 h2).mono ?_; rintro e x3 ⟨rfl, hb3⟩
      have HD3 := Lib.hid (dir_step HDr.out hb3)
      have HA3 := Lib.hid (row_step HAr.out hb3)
      have HR3 := Lib.hid (row_step HRr.out hb3)
      have HB3 := Lib.hid (show Below w.heap.size w x3 from Below.trans HB1.out ((bel_step HB.out hb3).mono HB1.out.size))
      clear hb3 HDr HAr HRr HB HR1
      have ha := HA3.out
      have c0 := row_cell ha 0; have c1 := row_cell ha 1; have c2 := row_cell ha 2; have c3 := row_cell ha 3; have c4 := row_cell ha 4
      simp only [List.getElem?_toArray, List.getElem?_cons_zero, List.getElem?_cons_succ] at c0 c1 c2 c3 c4
      have hla := row_lt ha
      clear ha
      go_wp2_with fail
      go_at_call 27; refine (HC.out _ HD3.out).mono ?_; rintro e x4 ⟨rfl, hd4, hb4⟩
      have hr4 := but_row hb4 HR3.out (by omega)
      have r0 := row_cell hr4 0; have r1 := row_cell hr4 1; have r2 := row_cell hr4 2; have r3 := row_cell hr4 3; have r4 := row_cell hr4 4
      simp only [List.getElem?_toArray, List.getElem?_cons_zero, List.getElem?_cons_succ] at r0 r1 r2 r3 r4
      have rf := fun o => row_frz hr4 o
      have hlr := row_lt hr4
      have HD4 := Lib.hid hd4
      have HB4 := Lib.hid (but_from HB3.out hb4)
      clear hd4 hb4 hr4
      go_wp2
      refine bodyPost_ret (v := .tuple #[.agg #[.int .i64 0, .int .i64 0, .float .f64 0, .string ⟨#[]⟩, .slice none 0 0], .int .i64 z]) (by simp [results, Try.results11, go_sem, World.cell?_setCell_same, World.cell?_setCell_other, r0, r1, r2, r3, r4]) rfl ⟨rfl, dir_to HD4.out (setV_other (show tb ≠ g0 by omega) (.int .i64 0) (.int .i64 0) (.float .f64 0) (.string ⟨#[]⟩) (.slice none 0 0)) (setV_other (show mb ≠ g0 by omega) (.int .i64 0) (.int .i64 0) (.float .f64 0) (.string ⟨#[]⟩) (.slice none 0 0)), but_setV HB4.out (Nat.le_of_eq hg0) (.int .i64 0) (.int .i64 0) (.float .f64 0) (.string ⟨#[]⟩) (.slice none 0 0)⟩
set_option maxRecDepth 100000 in
set_option maxHeartbeats 4000000 in
theorem do_create (w : World) (tb mb : Nat) (L L2 : List Gp) (z : Int) (b : Nat) (S0 S1 S2 : ByteArray) (hd : DirG w tb mb L) (hrow : w.heap[b]? = some (.cells #[.int .i64 3, .int .i64 0, .float .f64 0, .string S0, .slice none 0 0, .int .i64 3, .int .i64 0, .float .f64 0, .string S1, .slice none 0 0, .int .i64 3, .int .i64 0, .float .f64 0, .string S2, .slice none 0 0] 39 (0, 0))) (hx : ∀ S ∈ [S0, S1, S2], S.size ≤ 256) (h1 : 0 < S0.size) (h2 : S0.size ≤ 32) (hgr : (S0.toList == [103, 114, 111, 117, 112, 115]) = false) (hc : 0 ≤ idxI clsL S1) (hs : 0 ≤ idxI styL S2)
    (hcal : ∀ y, DirG y tb mb L → Calls Try.prog 25 #[.pointer (some ⟨tb, 0, none⟩), .string S0, .string S1, .int .i64 (idxI styL S2)] y fun e w' => e = .returned (.int .i64 z) ∧ DirG w' tb mb L2 ∧ But mb y w') :
    Calls Try.prog 11 #[.pointer (some ⟨tb, 0, none⟩), .string ⟨#[99, 114, 101, 97, 116, 101]⟩, .slice (some ⟨b, 0, none⟩) 3 3] w fun e w' => e = .returned (.tuple #[.agg #[.int .i64 0, .int .i64 0, .float .f64 0, .string ⟨#[]⟩, .slice none 0 0], .int .i64 z]) ∧ DirG w' tb mb L2 ∧ But mb w w' := by
  obtain ⟨g0, hg0⟩ : ∃ g, w.heap.size = g := ⟨_, rfl⟩
  obtain ⟨w1, hw1⟩ : ∃ W, w.alloc (.cells #[.int .i64 0, .int .i64 0, .float .f64 0, .string ⟨#[]⟩, .slice none 0 0] 39) = W := ⟨_, rfl⟩
  have hR1 : w1.heap[g0]? = some (.cells #[.int .i64 0, .int .i64 0, .float .f64 0, .string ⟨#[]⟩, .slice none 0 0] 39 (0, 0)) := by rw [← hw1, ← hg0]; exact row_alloc w _ _
  have hb1 : Below w.heap.size w w1 := by rw [← hw1]; exact bel_alloc (Below.refl _ _) _
  have HR1 := Lib.hid hR1
  have HB1 := Lib.hid hb1
  have HD1 := Lib.hid (dir_step hd hb1)
  have HA1 := Lib.hid (show ArgT w1 b [S0, S1, S2] from row_step hrow hb1)
  have hbm : b ≠ mb := by
    rintro rfl
    obtain ⟨_, es, ck, hm, _⟩ := hd
    rw [hrow] at hm
    cases hm
  have htl : tb < g0 := by rw [← hg0]; exact row_lt hd.1
  have hml : mb < g0 := by
    obtain ⟨_, es, ck, hm, _⟩ := hd
    rw [← hg0]; exact row_lt hm
  have hbl : b < g0 := by rw [← hg0]; exact row_lt hrow
  have HX := Lib.hid hx
  have HC := Lib.hid hcal
  clear hR1 hb1 hd hrow hx hcal
  go_enter Try.func11, Try.ntmps11
  go_wp2_with fail
  clear hw1
  go_loopw [13] (fun iv wr => ∃ k : Nat, k ≤ 3 ∧ iv = .int .i64 k ∧ Below w1.heap.size w1 wr) (fun iv _ => 3 - (intOf iv).toNat)
  case atStart => exact ⟨0, Nat.zero_le _, rfl, Below.refl _ _⟩
  case round =>
    obtain ⟨k, hk, rfl, hb⟩ := hrel
    by_cases hlt : k < 3
    · have HB := Lib.hid hb
      obtain ⟨c0, c1, c2, c3, c4⟩ := argT_cells (show ArgT wr b [S0, S1, S2] from row_step HA1.out hb) k hlt
      obtain ⟨S, hS⟩ : ∃ S, ([S0, S1, S2] : List ByteArray).getD k ⟨#[]⟩ = S := ⟨_, rfl⟩
      have hS2 : S.size ≤ 256 := by
        have e : ([S0, S1, S2] : List ByteArray).getD k ⟨#[]⟩ = ([S0, S1, S2] : List ByteArray)[k]'hlt := by rw [List.getD_eq_getElem?_getD, List.getElem?_eq_getElem hlt]; rfl
        rw [← hS, e]
        exact HX.out _ (List.getElem_mem _)
      rw [hS] at c3
      have HS := Lib.hid (chk_text S · hS2)
      have hkI : (k : Int) < 3 := by omega
      have hk0 : (0 : Int) ≤ (k : Int) := by omega
      have hblw : b < wr.heap.size := cell_lt c0
      obtain ⟨g, hg⟩ : ∃ g, wr.heap.size = g := ⟨_, rfl⟩
      obtain ⟨x, hxx⟩ : ∃ W, wr.alloc (.cells #[.int .i64 0, .int .i64 0, .float .f64 0, .string ⟨#[]⟩, .slice none 0 0] 39) = W := ⟨_, rfl⟩
      have hV : x.heap[g]? = some (.cells #[.int .i64 0, .int .i64 0, .float .f64 0, .string ⟨#[]⟩, .slice none 0 0] 39 (0, 0)) := by rw [← hxx, ← hg]; exact row_alloc wr _ _
      obtain ⟨y, hy⟩ : ∃ y, setV x g (.int .i64 3) (.int .i64 0) (.float .f64 0) (.string S) (.slice none 0 0) = y := ⟨_, rfl⟩
      have hyV : y.heap[g]? = some (.cells #[.int .i64 3, .int .i64 0, .float .f64 0, .string S, .slice none 0 0] 39 (0, 0)) := by rw [← hy]; exact setV_at hV (.int .i64 3) (.int .i64 0) (.float .f64 0) (.string S) (.slice none 0 0)
      have hbY : Below wr.heap.size wr y := by rw [← hy, hg]; exact setV_below (by rw [← hxx, ← hg]; exact bel_alloc (Below.refl _ _) _) (Nat.le_refl _) (.int .i64 3) (.int .i64 0) (.float .f64 0) (.string S) (.slice none 0 0)
      have v0 := row_cell hV 0; have v1 := row_cell hV 1; have v2 := row_cell hV 2; have v3 := row_cell hV 3; have v4 := row_cell hV 4
      simp only [List.getElem?_toArray, List.getElem?_cons_zero, List.getElem?_cons_succ] at v0 v1 v2 v3 v4
      have vf := fun o => row_frz hV o
      have HY := Lib.hid (show (((((x.setCell ⟨g, 0, none⟩ (.int .i64 3)).setCell ⟨g, 1, none⟩ (.int .i64 0)).setCell ⟨g, 2, none⟩ (.float .f64 0)).setCell ⟨g, 3, none⟩ (.string S)).setCell ⟨g, 4, none⟩ (.slice none 0 0)) = y from hy)
      have HYV := Lib.hid hyV
      have HBY := Lib.hid (bel_step HB.out hbY)
      clear hV hy hyV hbY hb hS hS2
      go_upto_region 4 with fail
      clear hxx
      rw [HY.out]
      clear v0 v1 v2 v3 v4 vf c0 c1 c2 c3 c4 HY
      have c0 := row_cell HYV.out 0; have c1 := row_cell HYV.out 1; have c2 := row_cell HYV.out 2; have c3 := row_cell HYV.out 3; have c4 := row_cell HYV.out 4
      simp only [List.getElem?_toArray, List.getElem?_cons_zero, List.getElem?_cons_succ] at c0 c1 c2 c3 c4
      have hlg := row_lt HYV.out
      go_wp2_with fail
      go_at_call 23; refine (HS.out _).mono ?_; rintro e x2 ⟨rfl, hb2⟩
      have HB2 := Lib.hid (bel_step HBY.out hb2)
      clear hb2
      go_wp2
      go_roundw
      case rel => exact ⟨k + 1, by omega, by go_num, HB2.out⟩
      case measure => simp [intOf]; omega
    · obtain rfl : k = 3 := by omega
      have hkI : ¬ ((3 : Int) < 3) := by omega
      have HB := Lib.hid hb
      have HDr := Lib.hid (dir_step HD1.out hb)
      have HAr := Lib.hid (show wr.heap[b]? = some (.cells #[.int .i64 3, .int .i64 0, .float .f64 0, .string S0, .slice none 0 0, .int .i64 3, .int .i64 0, .float .f64 0, .string S1, .slice none 0 0, .int .i64 3, .int .i64 0, .float .f64 0, .string S2, .slice none 0 0] 39 (0, 0)) from row_step HA1.out hb)
      have HRr := Lib.hid (row_step HR1.out hb)
      clear hb HD1 HA1
      go_wp2_with fail
      go_at_call 24; refine (iscall_create _ b S0 S1 S2 HAr.out h1 h2 hgr hc hs).mono ?_; rintro e x3 ⟨rfl, hb3⟩
      have HD3 := Lib.hid (dir_step HDr.out hb3)
      have HA3 := Lib.hid (row_step HAr.out hb3)
      have HR3 := Lib.hid (row_step HRr.out hb3)
      have HB3 := Lib.hid (show Below w.heap.size w x3 from Below.trans HB1.out ((bel_step HB.out hb3).mono HB1.out.size))
      clear hb3 HDr HAr HRr HB HR1
      go_upto_region 13 with fail
      have HDX := Lib.hid (dir_step HD3.out (Below.drew (Below.refl _ _)))
      have HAX := Lib.hid (row_step HA3.out (Below.drew (Below.refl _ _)))
      have HRX := Lib.hid (row_step HR3.out (Below.drew (Below.refl _ _)))
      have HBX := Lib.hid (Below.drew HB3.out)
      have hA := HAX.out
      have a0 := row_cell hA 0; have a1 := row_cell hA 1; have a2 := row_cell hA 2; have a3 := row_cell hA 3; have a4 := row_cell hA 4; have a5 := row_cell hA 5; have a6 := row_cell hA 6; have a7 := row_cell hA 7; have a8 := row_cell hA 8; have a9 := row_cell hA 9; have a10 := row_cell hA 10; have a11 := row_cell hA 11; have a12 := row_cell hA 12; have a13 := row_cell hA 13; have a14 := row_cell hA 14
      simp only [List.getElem?_toArray, List.getElem?_cons_zero, List.getElem?_cons_succ] at a0 a1 a2 a3 a4 a5 a6 a7 a8 a9 a10 a11 a12 a13 a14
      refine wp_region_held_drew (S := (fun z => z.cell? ⟨b, 3, none⟩ = some (.string S0) ∧ z.cell? ⟨b, 8, none⟩ = some (.string S1) ∧ z.cell? ⟨b, 10, none⟩ = some (.int .i64 3) ∧ z.cell? ⟨b, 11, none⟩ = some (.int .i64 0) ∧ z.cell? ⟨b, 12, none⟩ = some (.float .f64 0) ∧ z.cell? ⟨b, 13, none⟩ = some (.string S2) ∧ z.cell? ⟨b, 14, none⟩ = some (.slice none 0 0))) (by kernel_rfl) ?_ (fun hHeld => ?_)
      · exact ⟨a3, a8, a10, a11, a12, a13, a14⟩
      revert HDX HAX HRX HBX hHeld hA a0 a1 a2 a3 a4 a5 a6 a7 a8 a9 a10 a11 a12 a13 a14
      generalize x3.drew = X3
      intro HDX HAX HRX HBX hA a0 a1 a2 a3 a4 a5 a6 a7 a8 a9 a10 a11 a12 a13 a14 hHeld
      refine wpAnyH_take (i := 0) (oi := ?_) (v := ?_) ?hiq0 (by kernel_rfl) ?hfq0 ?hrq0 ?hQq0 ?hyq0 (by assumption) ?restq0
      case hiq0 => (simp only [List.getElem?_toArray, List.getElem?_cons_zero, List.getElem?_cons_succ]; rfl)
      case hfq0 => kernel_rfl
      case hrq0 => kernel_rfl
      case hyq0 => (refine Or.inl ⟨by rfl, ?_⟩; intro wS hSw; (try dsimp only at hSw); go_simp; (try with_reducible rfl))
      case hQq0 => exact fun _ _ _ h => h
      (try simp only [Act.put, List.setIfInBounds_toArray, List.set_cons_zero, List.set_cons_succ])
      refine wpAnyH_take (i := 1) (oi := ?_) (v := ?_) ?hiq1 (by kernel_rfl) ?hfq1 ?hrq1 ?hQq1 ?hyq1 (by assumption) ?restq1
      case hiq1 => (simp only [List.getElem?_toArray, List.getElem?_cons_zero, List.getElem?_cons_succ]; rfl)
      case hfq1 => kernel_rfl
      case hrq1 => kernel_rfl
      case hyq1 => (refine Or.inl ⟨by rfl, ?_⟩; intro wS hSw; (try dsimp only at hSw); go_simp; (try with_reducible rfl))
      case hQq1 => exact fun _ _ _ h => h
      (try simp only [Act.put, List.setIfInBounds_toArray, List.set_cons_zero, List.set_cons_succ])
      refine wpAnyH_take (i := 2) (oi := ?_) (v := ?_) ?hiq2 (by kernel_rfl) ?hfq2 ?hrq2 ?hQq2 ?hyq2 (by assumption) ?restq2
      case hiq2 => (simp only [List.getElem?_toArray, List.getElem?_cons_zero, List.getElem?_cons_succ]; rfl)
      case hfq2 => kernel_rfl
      case hrq2 => kernel_rfl
      case hyq2 => (refine Or.inl ⟨by rfl, ?_⟩; intro wS hSw; (try dsimp only at hSw); go_simp; (try with_reducible rfl))
      case hQq2 => exact fun _ _ _ h => h
      (try simp only [Act.put, List.setIfInBounds_toArray, List.set_cons_zero, List.set_cons_succ])
      refine wpAnyH_take (i := 3) (oi := ?_) (v := ?_) ?hiq3 (by kernel_rfl) ?hfq3 ?hrq3 ?hQq3 ?hyq3 (by assumption) ?restq3
      case hiq3 => (simp only [List.getElem?_toArray, List.getElem?_cons_zero, List.getElem?_cons_succ]; rfl)
      case hfq3 => kernel_rfl
      case hrq3 => kernel_rfl
      case hyq3 => (refine Or.inl ⟨by rfl, ?_⟩; intro wS hSw; (try dsimp only at hSw); go_simp; (try with_reducible rfl))
      case hQq3 => exact fun _ _ _ h => h
      (try simp only [Act.put, List.setIfInBounds_toArray, List.set_cons_zero, List.set_cons_succ])
      refine wpAnyH_take (i := 4) (oi := ?_) (v := ?_) ?hiq4 (by kernel_rfl) ?hfq4 ?hrq4 ?hQq4 ?hyq4 (by assumption) ?restq4
      case hiq4 => (simp only [List.getElem?_toArray, List.getElem?_cons_zero, List.getElem?_cons_succ]; rfl)
      case hfq4 => kernel_rfl
      case hrq4 => kernel_rfl
      case hyq4 => (refine Or.inl ⟨by rfl, ?_⟩; intro wS hSw; (try dsimp only at hSw); go_simp; (try with_reducible rfl))
      case hQq4 => exact fun _ _ _ h => h
      (try simp only [Act.put, List.setIfInBounds_toArray, List.set_cons_zero, List.set_cons_succ])
      refine wpAnyH_take (i := 5) (oi := ?_) (v := ?_) ?hiq5 (by kernel_rfl) ?hfq5 ?hrq5 ?hQq5 ?hyq5 (by assumption) ?restq5
      case hiq5 => (simp only [List.getElem?_toArray, List.getElem?_cons_zero, List.getElem?_cons_succ]; rfl)
      case hfq5 => kernel_rfl
      case hrq5 => kernel_rfl
      case hyq5 => (refine Or.inl ⟨by rfl, ?_⟩; intro wS hSw; (try dsimp only at hSw); go_simp; (try with_reducible rfl))
      case hQq5 => exact fun _ _ _ h => h
      (try simp only [Act.put, List.setIfInBounds_toArray, List.set_cons_zero, List.set_cons_succ])
      refine wpAnyH_take (i := 6) (oi := ?_) (v := ?_) ?hiq6 (by kernel_rfl) ?hfq6 ?hrq6 ?hQq6 ?hyq6 (by assumption) ?restq6
      case hiq6 => (simp only [List.getElem?_toArray, List.getElem?_cons_zero, List.getElem?_cons_succ]; rfl)
      case hfq6 => kernel_rfl
      case hrq6 => kernel_rfl
      case hyq6 => (refine Or.inl ⟨by rfl, ?_⟩; intro wS hSw; (try dsimp only at hSw); go_simp; (try with_reducible rfl))
      case hQq6 => exact fun _ _ _ h => h
      (try simp only [Act.put, List.setIfInBounds_toArray, List.set_cons_zero, List.set_cons_succ])
      refine wpAnyH_take (i := 7) (oi := ?_) (v := ?_) ?hiq7 (by kernel_rfl) ?hfq7 ?hrq7 ?hQq7 ?hyq7 (by assumption) ?restq7
      case hiq7 => (simp only [List.getElem?_toArray, List.getElem?_cons_zero, List.getElem?_cons_succ]; rfl)
      case hfq7 => kernel_rfl
      case hrq7 => kernel_rfl
      case hyq7 => (refine Or.inl ⟨by rfl, ?_⟩; intro wS hSw; (try dsimp only at hSw); go_simp; (try with_reducible rfl))
      case hQq7 => exact fun _ _ _ h => h
      (try simp only [Act.put, List.setIfInBounds_toArray, List.set_cons_zero, List.set_cons_succ])
      refine wpAnyH_take (i := 8) (oi := ?_) (v := ?_) ?hiq8 (by kernel_rfl) ?hfq8 ?hrq8 ?hQq8 ?hyq8 (by assumption) ?restq8
      case hiq8 => (simp only [List.getElem?_toArray, List.getElem?_cons_zero, List.getElem?_cons_succ]; rfl)
      case hfq8 => kernel_rfl
      case hrq8 => kernel_rfl
      case hyq8 => (refine Or.inl ⟨by rfl, ?_⟩; intro wS hSw; (try dsimp only at hSw); go_simp; (try with_reducible rfl))
      case hQq8 => exact fun _ _ _ h => h
      (try simp only [Act.put, List.setIfInBounds_toArray, List.set_cons_zero, List.set_cons_succ])
      refine wpAnyH_take (i := 9) (oi := ?_) (v := ?_) ?hiq9 (by kernel_rfl) ?hfq9 ?hrq9 ?hQq9 ?hyq9 (by assumption) ?restq9
      case hiq9 => (simp only [List.getElem?_toArray, List.getElem?_cons_zero, List.getElem?_cons_succ]; rfl)
      case hfq9 => kernel_rfl
      case hrq9 => kernel_rfl
      case hyq9 => (refine Or.inl ⟨by rfl, ?_⟩; intro wS hSw; (try dsimp only at hSw); go_simp; (try with_reducible rfl))
      case hQq9 => exact fun _ _ _ h => h
      (try simp only [Act.put, List.setIfInBounds_toArray, List.set_cons_zero, List.set_cons_succ])
      refine wpAnyH_take (i := 10) (oi := ?_) (v := ?_) ?hiq10 (by kernel_rfl) ?hfq10 ?hrq10 ?hQq10 ?hyq10 (by assumption) ?restq10
      case hiq10 => (simp only [List.getElem?_toArray, List.getElem?_cons_zero, List.getElem?_cons_succ]; rfl)
      case hfq10 => kernel_rfl
      case hrq10 => kernel_rfl
      case hyq10 => (refine Or.inl ⟨by rfl, ?_⟩; intro wS hSw; (try dsimp only at hSw); go_simp; (try with_reducible rfl))
      case hQq10 => exact fun _ _ _ h => h
      (try simp only [Act.put, List.setIfInBounds_toArray, List.set_cons_zero, List.set_cons_succ])
      refine wpAnyH_take (i := 11) (oi := ?_) (v := ?_) ?hiq11 (by kernel_rfl) ?hfq11 ?hrq11 ?hQq11 ?hyq11 (by assumption) ?restq11
      case hiq11 => (simp only [List.getElem?_toArray, List.getElem?_cons_zero, List.getElem?_cons_succ]; rfl)
      case hfq11 => kernel_rfl
      case hrq11 => kernel_rfl
      case hyq11 => (refine Or.inl ⟨by rfl, ?_⟩; intro wS hSw; (try dsimp only at hSw); go_simp; (try with_reducible rfl))
      case hQq11 => exact fun _ _ _ h => h
      (try simp only [Act.put, List.setIfInBounds_toArray, List.set_cons_zero, List.set_cons_succ])
      refine wpAnyH_take (i := 12) (oi := ?_) (v := ?_) ?hiq12 (by kernel_rfl) ?hfq12 ?hrq12 ?hQq12 ?hyq12 (by assumption) ?restq12
      case hiq12 => (simp only [List.getElem?_toArray, List.getElem?_cons_zero, List.getElem?_cons_succ]; rfl)
      case hfq12 => kernel_rfl
      case hrq12 => kernel_rfl
      case hyq12 => (refine Or.inl ⟨by rfl, ?_⟩; intro wS hSw; (try dsimp only at hSw); go_simp; (try with_reducible rfl))
      case hQq12 => exact fun _ _ _ h => h
      (try simp only [Act.put, List.setIfInBounds_toArray, List.set_cons_zero, List.set_cons_succ])
      refine wpAnyH_ready (rs := [13]) (by kernel_rfl) (by simp) ?_
      refine AllReadyH.cons (o := ?_) ?hos13 ?hsts13 AllReadyH.nil
      case hos13 => (simp only [List.getElem?_toArray, List.getElem?_cons_zero, List.getElem?_cons_succ]; rfl)
      intro K hK
      go_simp
      go_at_call 26; refine (styleof_text S2 _).mono ?_; rintro e x4 ⟨rfl, hb4⟩
      go_wp2_with fail
      refine hK.out _ _ ?hss13 (fun hHeld => ?_)
      case hss13 => exact ⟨cell_keep hb4 a3, cell_keep hb4 a8, cell_keep hb4 a10, cell_keep hb4 a11, cell_keep hb4 a12, cell_keep hb4 a13, cell_keep hb4 a14⟩
      clear hK K
      (try simp only [Act.put, List.setIfInBounds_toArray, List.set_cons_zero, List.set_cons_succ])
      have HDY := Lib.hid (dir_step HDX.out hb4)
      have hAY := row_step hA hb4
      have HRY := Lib.hid (row_step HRX.out hb4)
      have HBY2 := Lib.hid (bel_step HBX.out hb4)
      have b0 := row_cell hAY 0; have b1 := row_cell hAY 1; have b2 := row_cell hAY 2; have b3 := row_cell hAY 3; have b4 := row_cell hAY 4; have b5 := row_cell hAY 5; have b6 := row_cell hAY 6; have b7 := row_cell hAY 7; have b8 := row_cell hAY 8; have b9 := row_cell hAY 9; have b10 := row_cell hAY 10; have b11 := row_cell hAY 11; have b12 := row_cell hAY 12; have b13 := row_cell hAY 13; have b14 := row_cell hAY 14
      simp only [List.getElem?_toArray, List.getElem?_cons_zero, List.getElem?_cons_succ] at b0 b1 b2 b3 b4 b5 b6 b7 b8 b9 b10 b11 b12 b13 b14
      clear hb4
      refine wpAnyH_ready (rs := [14]) (by kernel_rfl) (by simp) ?_
      refine AllReadyH.cons (o := ?_) ?hoc14 ?hstc14 AllReadyH.nil
      case hoc14 => (simp only [List.getElem?_toArray, List.getElem?_cons_zero, List.getElem?_cons_succ]; rfl)
      intro K hK
      go_simp
      go_at_call 25; refine (HC.out _ HDY.out).mono ?_; rintro e x5 ⟨rfl, hd5, hb5⟩; have hA5 := but_row hb5 hAY hbm; have d0 := row_cell hA5 0; have d1 := row_cell hA5 1; have d2 := row_cell hA5 2; have d3 := row_cell hA5 3; have d4 := row_cell hA5 4; have d5 := row_cell hA5 5; have d6 := row_cell hA5 6; have d7 := row_cell hA5 7; have d8 := row_cell hA5 8; have d9 := row_cell hA5 9; have d10 := row_cell hA5 10; have d11 := row_cell hA5 11; have d12 := row_cell hA5 12; have d13 := row_cell hA5 13; have d14 := row_cell hA5 14; simp only [List.getElem?_toArray, List.getElem?_cons_zero, List.getElem?_cons_succ] at d0 d1 d2 d3 d4 d5 d6 d7 d8 d9 d10 d11 d12 d13 d14
      go_wp2_with fail
      refine hK.out _ _ ?hsc14 (fun hHeld => ?_)
      case hsc14 => exact ⟨d3, d8, d10, d11, d12, d13, d14⟩
      clear hK K
      (try simp only [Act.put, List.setIfInBounds_toArray, List.set_cons_zero, List.set_cons_succ])
      have hr4 := but_row hb5 HRY.out (by omega)
      have r0 := row_cell hr4 0; have r1 := row_cell hr4 1; have r2 := row_cell hr4 2; have r3 := row_cell hr4 3; have r4 := row_cell hr4 4
      simp only [List.getElem?_toArray, List.getElem?_cons_zero, List.getElem?_cons_succ] at r0 r1 r2 r3 r4
      have rf := fun o => row_frz hr4 o
      have hlr := row_lt hr4
      have HD4 := Lib.hid hd5
      have HB4 := Lib.hid (but_from HBY2.out hb5)
      clear hd5 hb5
      refine wpAnyH_ready (rs := [15]) (by kernel_rfl) (by simp) ?_
      refine AllReadyH.cons (o := ?_) ?hot15 ?hstt15 AllReadyH.nil
      case hot15 => (simp only [List.getElem?_toArray, List.getElem?_cons_zero, List.getElem?_cons_succ]; rfl)
      intro K hK
      go_simp
      have hbg : b ≠ g0 := by omega
      go_wp2_with fail
      refine hK.out _ _ ?hst15 (fun hHeld => ?_)
      case hst15 => exact ⟨setV_cell x5 g0 b 3 _ hbg d3 (.int .i64 0) (.int .i64 0) (.float .f64 0) (.string ⟨#[]⟩) (.slice none 0 0), setV_cell x5 g0 b 8 _ hbg d8 (.int .i64 0) (.int .i64 0) (.float .f64 0) (.string ⟨#[]⟩) (.slice none 0 0), setV_cell x5 g0 b 10 _ hbg d10 (.int .i64 0) (.int .i64 0) (.float .f64 0) (.string ⟨#[]⟩) (.slice none 0 0), setV_cell x5 g0 b 11 _ hbg d11 (.int .i64 0) (.int .i64 0) (.float .f64 0) (.string ⟨#[]⟩) (.slice none 0 0), setV_cell x5 g0 b 12 _ hbg d12 (.int .i64 0) (.int .i64 0) (.float .f64 0) (.string ⟨#[]⟩) (.slice none 0 0), setV_cell x5 g0 b 13 _ hbg d13 (.int .i64 0) (.int .i64 0) (.float .f64 0) (.string ⟨#[]⟩) (.slice none 0 0), setV_cell x5 g0 b 14 _ hbg d14 (.int .i64 0) (.int .i64 0) (.float .f64 0) (.string ⟨#[]⟩) (.slice none 0 0)⟩
      clear hK K
      (try simp only [Act.put, List.setIfInBounds_toArray, List.set_cons_zero, List.set_cons_succ])
      refine wpAnyH_take (i := 16) (oi := ?_) (v := ?_) ?hiu16 (by kernel_rfl) ?hfu16 ?hru16 ?hQu16 ?hyu16 (by assumption) ?restu16
      case hiu16 => (simp only [List.getElem?_toArray, List.getElem?_cons_zero, List.getElem?_cons_succ]; rfl)
      case hfu16 => kernel_rfl
      case hru16 => kernel_rfl
      case hyu16 => (refine Or.inl ⟨by rfl, ?_⟩; intro wS hSw; (try dsimp only at hSw); go_simp; (try with_reducible rfl))
      case hQu16 => exact fun _ _ _ h => h
      (try simp only [Act.put, List.setIfInBounds_toArray, List.set_cons_zero, List.set_cons_succ])
      refine wpAnyH_done (by kernel_rfl) ?_ _
      go_wp2
      refine bodyPost_ret (v := .tuple #[.agg #[.int .i64 0, .int .i64 0, .float .f64 0, .string ⟨#[]⟩, .slice none 0 0], .int .i64 z]) (by simp [results, Try.results11, go_sem, World.cell?_setCell_same, World.cell?_setCell_other, r0, r1, r2, r3, r4]) rfl ⟨rfl, dir_to HD4.out (setV_other (show tb ≠ g0 by omega) (.int .i64 0) (.int .i64 0) (.float .f64 0) (.string ⟨#[]⟩) (.slice none 0 0)) (setV_other (show mb ≠ g0 by omega) (.int .i64 0) (.int .i64 0) (.float .f64 0) (.string ⟨#[]⟩) (.slice none 0 0)), but_setV HB4.out (Nat.le_of_eq hg0) (.int .i64 0) (.int .i64 0) (.float .f64 0) (.string ⟨#[]⟩) (.slice none 0 0)⟩
set_option maxRecDepth 100000 in
set_option maxHeartbeats 4000000 in
theorem do_style (w : World) (tb mb : Nat) (L L2 : List Gp) (z : Int) (b : Nat) (S0 S1 : ByteArray) (hd : DirG w tb mb L) (hrow : w.heap[b]? = some (.cells #[.int .i64 3, .int .i64 0, .float .f64 0, .string S0, .slice none 0 0, .int .i64 3, .int .i64 0, .float .f64 0, .string S1, .slice none 0 0] 39 (0, 0))) (hx : ∀ S ∈ [S0, S1], S.size ≤ 256) (h1 : 0 < S0.size) (h2 : S0.size ≤ 32) (hs : 0 ≤ idxI styL S1)
    (hcal : ∀ y, DirG y tb mb L → Calls Try.prog 28 #[.pointer (some ⟨tb, 0, none⟩), .string S0, .int .i64 (idxI styL S1)] y fun e w' => e = .returned (.int .i64 z) ∧ DirG w' tb mb L2 ∧ But mb y w') :
    Calls Try.prog 11 #[.pointer (some ⟨tb, 0, none⟩), .string ⟨#[115, 116, 121, 108, 101]⟩, .slice (some ⟨b, 0, none⟩) 2 2] w fun e w' => e = .returned (.tuple #[.agg #[.int .i64 0, .int .i64 0, .float .f64 0, .string ⟨#[]⟩, .slice none 0 0], .int .i64 z]) ∧ DirG w' tb mb L2 ∧ But mb w w' := by
  obtain ⟨g0, hg0⟩ : ∃ g, w.heap.size = g := ⟨_, rfl⟩
  obtain ⟨w1, hw1⟩ : ∃ W, w.alloc (.cells #[.int .i64 0, .int .i64 0, .float .f64 0, .string ⟨#[]⟩, .slice none 0 0] 39) = W := ⟨_, rfl⟩
  have hR1 : w1.heap[g0]? = some (.cells #[.int .i64 0, .int .i64 0, .float .f64 0, .string ⟨#[]⟩, .slice none 0 0] 39 (0, 0)) := by rw [← hw1, ← hg0]; exact row_alloc w _ _
  have hb1 : Below w.heap.size w w1 := by rw [← hw1]; exact bel_alloc (Below.refl _ _) _
  have HR1 := Lib.hid hR1
  have HB1 := Lib.hid hb1
  have HD1 := Lib.hid (dir_step hd hb1)
  have HA1 := Lib.hid (show ArgT w1 b [S0, S1] from row_step hrow hb1)
  have hbm : b ≠ mb := by
    rintro rfl
    obtain ⟨_, es, ck, hm, _⟩ := hd
    rw [hrow] at hm
    cases hm
  have htl : tb < g0 := by rw [← hg0]; exact row_lt hd.1
  have hml : mb < g0 := by
    obtain ⟨_, es, ck, hm, _⟩ := hd
    rw [← hg0]; exact row_lt hm
  have hbl : b < g0 := by rw [← hg0]; exact row_lt hrow
  have HX := Lib.hid hx
  have HC := Lib.hid hcal
  clear hR1 hb1 hd hrow hx hcal
  go_enter Try.func11, Try.ntmps11
  go_wp2_with fail
  clear hw1
  go_loopw [13] (fun iv wr => ∃ k : Nat, k ≤ 2 ∧ iv = .int .i64 k ∧ Below w1.heap.size w1 wr) (fun iv _ => 2 - (intOf iv).toNat)
  case atStart => exact ⟨0, Nat.zero_le _, rfl, Below.refl _ _⟩
  case round =>
    obtain ⟨k, hk, rfl, hb⟩ := hrel
    by_cases hlt : k < 2
    · have HB := Lib.hid hb
      obtain ⟨c0, c1, c2, c3, c4⟩ := argT_cells (show ArgT wr b [S0, S1] from row_step HA1.out hb) k hlt
      obtain ⟨S, hS⟩ : ∃ S, ([S0, S1] : List ByteArray).getD k ⟨#[]⟩ = S := ⟨_, rfl⟩
      have hS2 : S.size ≤ 256 := by
        have e : ([S0, S1] : List ByteArray).getD k ⟨#[]⟩ = ([S0, S1] : List ByteArray)[k]'hlt := by rw [List.getD_eq_getElem?_getD, List.getElem?_eq_getElem hlt]; rfl
        rw [← hS, e]
        exact HX.out _ (List.getElem_mem _)
      rw [hS] at c3
      have HS := Lib.hid (chk_text S · hS2)
      have hkI : (k : Int) < 2 := by omega
      have hk0 : (0 : Int) ≤ (k : Int) := by omega
      have hblw : b < wr.heap.size := cell_lt c0
      obtain ⟨g, hg⟩ : ∃ g, wr.heap.size = g := ⟨_, rfl⟩
      obtain ⟨x, hxx⟩ : ∃ W, wr.alloc (.cells #[.int .i64 0, .int .i64 0, .float .f64 0, .string ⟨#[]⟩, .slice none 0 0] 39) = W := ⟨_, rfl⟩
      have hV : x.heap[g]? = some (.cells #[.int .i64 0, .int .i64 0, .float .f64 0, .string ⟨#[]⟩, .slice none 0 0] 39 (0, 0)) := by rw [← hxx, ← hg]; exact row_alloc wr _ _
      obtain ⟨y, hy⟩ : ∃ y, setV x g (.int .i64 3) (.int .i64 0) (.float .f64 0) (.string S) (.slice none 0 0) = y := ⟨_, rfl⟩
      have hyV : y.heap[g]? = some (.cells #[.int .i64 3, .int .i64 0, .float .f64 0, .string S, .slice none 0 0] 39 (0, 0)) := by rw [← hy]; exact setV_at hV (.int .i64 3) (.int .i64 0) (.float .f64 0) (.string S) (.slice none 0 0)
      have hbY : Below wr.heap.size wr y := by rw [← hy, hg]; exact setV_below (by rw [← hxx, ← hg]; exact bel_alloc (Below.refl _ _) _) (Nat.le_refl _) (.int .i64 3) (.int .i64 0) (.float .f64 0) (.string S) (.slice none 0 0)
      have v0 := row_cell hV 0; have v1 := row_cell hV 1; have v2 := row_cell hV 2; have v3 := row_cell hV 3; have v4 := row_cell hV 4
      simp only [List.getElem?_toArray, List.getElem?_cons_zero, List.getElem?_cons_succ] at v0 v1 v2 v3 v4
      have vf := fun o => row_frz hV o
      have HY := Lib.hid (show (((((x.setCell ⟨g, 0, none⟩ (.int .i64 3)).setCell ⟨g, 1, none⟩ (.int .i64 0)).setCell ⟨g, 2, none⟩ (.float .f64 0)).setCell ⟨g, 3, none⟩ (.string S)).setCell ⟨g, 4, none⟩ (.slice none 0 0)) = y from hy)
      have HYV := Lib.hid hyV
      have HBY := Lib.hid (bel_step HB.out hbY)
      clear hV hy hyV hbY hb hS hS2
      go_upto_region 4 with fail
      clear hxx
      rw [HY.out]
      clear v0 v1 v2 v3 v4 vf c0 c1 c2 c3 c4 HY
      have c0 := row_cell HYV.out 0; have c1 := row_cell HYV.out 1; have c2 := row_cell HYV.out 2; have c3 := row_cell HYV.out 3; have c4 := row_cell HYV.out 4
      simp only [List.getElem?_toArray, List.getElem?_cons_zero, List.getElem?_cons_succ] at c0 c1 c2 c3 c4
      have hlg := row_lt HYV.out
      go_wp2_with fail
      go_at_call 23; refine (HS.out _).mono ?_; rintro e x2 ⟨rfl, hb2⟩
      have HB2 := Lib.hid (bel_step HBY.out hb2)
      clear hb2
      go_wp2
      go_roundw
      case rel => exact ⟨k + 1, by omega, by go_num, HB2.out⟩
      case measure => simp [intOf]; omega
    · obtain rfl : k = 2 := by omega
      have hkI : ¬ ((2 : Int) < 2) := by omega
      have HB := Lib.hid hb
      have HDr := Lib.hid (dir_step HD1.out hb)
      have HAr := Lib.hid (show wr.heap[b]? = some (.cells #[.int .i64 3, .int .i64 0, .float .f64 0, .string S0, .slice none 0 0, .int .i64 3, .int .i64 0, .float .f64 0, .string S1, .slice none 0 0] 39 (0, 0)) from row_step HA1.out hb)
      have HRr := Lib.hid (row_step HR1.out hb)
      clear hb HD1 HA1
      go_wp2_with fail
      go_at_call 24; refine (iscall_style _ b S0 S1 HAr.out h1 h2 hs).mono ?_; rintro e x3 ⟨rfl, hb3⟩
      have HD3 := Lib.hid (dir_step HDr.out hb3)
      have HA3 := Lib.hid (row_step HAr.out hb3)
      have HR3 := Lib.hid (row_step HRr.out hb3)
      have HB3 := Lib.hid (show Below w.heap.size w x3 from Below.trans HB1.out ((bel_step HB.out hb3).mono HB1.out.size))
      clear hb3 HDr HAr HRr HB HR1
      go_upto_region 17 with fail
      have HDX := Lib.hid (dir_step HD3.out (Below.drew (Below.refl _ _)))
      have HAX := Lib.hid (row_step HA3.out (Below.drew (Below.refl _ _)))
      have HRX := Lib.hid (row_step HR3.out (Below.drew (Below.refl _ _)))
      have HBX := Lib.hid (Below.drew HB3.out)
      have hA := HAX.out
      have a0 := row_cell hA 0; have a1 := row_cell hA 1; have a2 := row_cell hA 2; have a3 := row_cell hA 3; have a4 := row_cell hA 4; have a5 := row_cell hA 5; have a6 := row_cell hA 6; have a7 := row_cell hA 7; have a8 := row_cell hA 8; have a9 := row_cell hA 9
      simp only [List.getElem?_toArray, List.getElem?_cons_zero, List.getElem?_cons_succ] at a0 a1 a2 a3 a4 a5 a6 a7 a8 a9
      refine wp_region_held_drew (S := (fun z => z.cell? ⟨b, 3, none⟩ = some (.string S0) ∧ z.cell? ⟨b, 5, none⟩ = some (.int .i64 3) ∧ z.cell? ⟨b, 6, none⟩ = some (.int .i64 0) ∧ z.cell? ⟨b, 7, none⟩ = some (.float .f64 0) ∧ z.cell? ⟨b, 8, none⟩ = some (.string S1) ∧ z.cell? ⟨b, 9, none⟩ = some (.slice none 0 0))) (by kernel_rfl) ?_ (fun hHeld => ?_)
      · exact ⟨a3, a5, a6, a7, a8, a9⟩
      revert HDX HAX HRX HBX hHeld hA a0 a1 a2 a3 a4 a5 a6 a7 a8 a9
      generalize x3.drew = X3
      intro HDX HAX HRX HBX hA a0 a1 a2 a3 a4 a5 a6 a7 a8 a9 hHeld
      refine wpAnyH_take (i := 0) (oi := ?_) (v := ?_) ?hiq0 (by kernel_rfl) ?hfq0 ?hrq0 ?hQq0 ?hyq0 (by assumption) ?restq0
      case hiq0 => (simp only [List.getElem?_toArray, List.getElem?_cons_zero, List.getElem?_cons_succ]; rfl)
      case hfq0 => kernel_rfl
      case hrq0 => kernel_rfl
      case hyq0 => (refine Or.inl ⟨by rfl, ?_⟩; intro wS hSw; (try dsimp only at hSw); go_simp; (try with_reducible rfl))
      case hQq0 => exact fun _ _ _ h => h
      (try simp only [Act.put, List.setIfInBounds_toArray, List.set_cons_zero, List.set_cons_succ])
      refine wpAnyH_take (i := 1) (oi := ?_) (v := ?_) ?hiq1 (by kernel_rfl) ?hfq1 ?hrq1 ?hQq1 ?hyq1 (by assumption) ?restq1
      case hiq1 => (simp only [List.getElem?_toArray, List.getElem?_cons_zero, List.getElem?_cons_succ]; rfl)
      case hfq1 => kernel_rfl
      case hrq1 => kernel_rfl
      case hyq1 => (refine Or.inl ⟨by rfl, ?_⟩; intro wS hSw; (try dsimp only at hSw); go_simp; (try with_reducible rfl))
      case hQq1 => exact fun _ _ _ h => h
      (try simp only [Act.put, List.setIfInBounds_toArray, List.set_cons_zero, List.set_cons_succ])
      refine wpAnyH_take (i := 2) (oi := ?_) (v := ?_) ?hiq2 (by kernel_rfl) ?hfq2 ?hrq2 ?hQq2 ?hyq2 (by assumption) ?restq2
      case hiq2 => (simp only [List.getElem?_toArray, List.getElem?_cons_zero, List.getElem?_cons_succ]; rfl)
      case hfq2 => kernel_rfl
      case hrq2 => kernel_rfl
      case hyq2 => (refine Or.inl ⟨by rfl, ?_⟩; intro wS hSw; (try dsimp only at hSw); go_simp; (try with_reducible rfl))
      case hQq2 => exact fun _ _ _ h => h
      (try simp only [Act.put, List.setIfInBounds_toArray, List.set_cons_zero, List.set_cons_succ])
      refine wpAnyH_take (i := 3) (oi := ?_) (v := ?_) ?hiq3 (by kernel_rfl) ?hfq3 ?hrq3 ?hQq3 ?hyq3 (by assumption) ?restq3
      case hiq3 => (simp only [List.getElem?_toArray, List.getElem?_cons_zero, List.getElem?_cons_succ]; rfl)
      case hfq3 => kernel_rfl
      case hrq3 => kernel_rfl
      case hyq3 => (refine Or.inl ⟨by rfl, ?_⟩; intro wS hSw; (try dsimp only at hSw); go_simp; (try with_reducible rfl))
      case hQq3 => exact fun _ _ _ h => h
      (try simp only [Act.put, List.setIfInBounds_toArray, List.set_cons_zero, List.set_cons_succ])
      refine wpAnyH_take (i := 4) (oi := ?_) (v := ?_) ?hiq4 (by kernel_rfl) ?hfq4 ?hrq4 ?hQq4 ?hyq4 (by assumption) ?restq4
      case hiq4 => (simp only [List.getElem?_toArray, List.getElem?_cons_zero, List.getElem?_cons_succ]; rfl)
      case hfq4 => kernel_rfl
      case hrq4 => kernel_rfl
      case hyq4 => (refine Or.inl ⟨by rfl, ?_⟩; intro wS hSw; (try dsimp only at hSw); go_simp; (try with_reducible rfl))
      case hQq4 => exact fun _ _ _ h => h
      (try simp only [Act.put, List.setIfInBounds_toArray, List.set_cons_zero, List.set_cons_succ])
      refine wpAnyH_take (i := 5) (oi := ?_) (v := ?_) ?hiq5 (by kernel_rfl) ?hfq5 ?hrq5 ?hQq5 ?hyq5 (by assumption) ?restq5
      case hiq5 => (simp only [List.getElem?_toArray, List.getElem?_cons_zero, List.getElem?_cons_succ]; rfl)
      case hfq5 => kernel_rfl
      case hrq5 => kernel_rfl
      case hyq5 => (refine Or.inl ⟨by rfl, ?_⟩; intro wS hSw; (try dsimp only at hSw); go_simp; (try with_reducible rfl))
      case hQq5 => exact fun _ _ _ h => h
      (try simp only [Act.put, List.setIfInBounds_toArray, List.set_cons_zero, List.set_cons_succ])
      refine wpAnyH_take (i := 6) (oi := ?_) (v := ?_) ?hiq6 (by kernel_rfl) ?hfq6 ?hrq6 ?hQq6 ?hyq6 (by assumption) ?restq6
      case hiq6 => (simp only [List.getElem?_toArray, List.getElem?_cons_zero, List.getElem?_cons_succ]; rfl)
      case hfq6 => kernel_rfl
      case hrq6 => kernel_rfl
      case hyq6 => (refine Or.inl ⟨by rfl, ?_⟩; intro wS hSw; (try dsimp only at hSw); go_simp; (try with_reducible rfl))
      case hQq6 => exact fun _ _ _ h => h
      (try simp only [Act.put, List.setIfInBounds_toArray, List.set_cons_zero, List.set_cons_succ])
      refine wpAnyH_take (i := 7) (oi := ?_) (v := ?_) ?hiq7 (by kernel_rfl) ?hfq7 ?hrq7 ?hQq7 ?hyq7 (by assumption) ?restq7
      case hiq7 => (simp only [List.getElem?_toArray, List.getElem?_cons_zero, List.getElem?_cons_succ]; rfl)
      case hfq7 => kernel_rfl
      case hrq7 => kernel_rfl
      case hyq7 => (refine Or.inl ⟨by rfl, ?_⟩; intro wS hSw; (try dsimp only at hSw); go_simp; (try with_reducible rfl))
      case hQq7 => exact fun _ _ _ h => h
      (try simp only [Act.put, List.setIfInBounds_toArray, List.set_cons_zero, List.set_cons_succ])
      refine wpAnyH_take (i := 8) (oi := ?_) (v := ?_) ?hiq8 (by kernel_rfl) ?hfq8 ?hrq8 ?hQq8 ?hyq8 (by assumption) ?restq8
      case hiq8 => (simp only [List.getElem?_toArray, List.getElem?_cons_zero, List.getElem?_cons_succ]; rfl)
      case hfq8 => kernel_rfl
      case hrq8 => kernel_rfl
      case hyq8 => (refine Or.inl ⟨by rfl, ?_⟩; intro wS hSw; (try dsimp only at hSw); go_simp; (try with_reducible rfl))
      case hQq8 => exact fun _ _ _ h => h
      (try simp only [Act.put, List.setIfInBounds_toArray, List.set_cons_zero, List.set_cons_succ])
      refine wpAnyH_ready (rs := [9]) (by kernel_rfl) (by simp) ?_
      refine AllReadyH.cons (o := ?_) ?hos9 ?hsts9 AllReadyH.nil
      case hos9 => (simp only [List.getElem?_toArray, List.getElem?_cons_zero, List.getElem?_cons_succ]; rfl)
      intro K hK
      go_simp
      go_at_call 26; refine (styleof_text S1 _).mono ?_; rintro e x4 ⟨rfl, hb4⟩
      go_wp2_with fail
      refine hK.out _ _ ?hss9 (fun hHeld => ?_)
      case hss9 => exact ⟨cell_keep hb4 a3, cell_keep hb4 a5, cell_keep hb4 a6, cell_keep hb4 a7, cell_keep hb4 a8, cell_keep hb4 a9⟩
      clear hK K
      (try simp only [Act.put, List.setIfInBounds_toArray, List.set_cons_zero, List.set_cons_succ])
      have HDY := Lib.hid (dir_step HDX.out hb4)
      have hAY := row_step hA hb4
      have HRY := Lib.hid (row_step HRX.out hb4)
      have HBY2 := Lib.hid (bel_step HBX.out hb4)
      have b0 := row_cell hAY 0; have b1 := row_cell hAY 1; have b2 := row_cell hAY 2; have b3 := row_cell hAY 3; have b4 := row_cell hAY 4; have b5 := row_cell hAY 5; have b6 := row_cell hAY 6; have b7 := row_cell hAY 7; have b8 := row_cell hAY 8; have b9 := row_cell hAY 9
      simp only [List.getElem?_toArray, List.getElem?_cons_zero, List.getElem?_cons_succ] at b0 b1 b2 b3 b4 b5 b6 b7 b8 b9
      clear hb4
      refine wpAnyH_ready (rs := [10]) (by kernel_rfl) (by simp) ?_
      refine AllReadyH.cons (o := ?_) ?hoc10 ?hstc10 AllReadyH.nil
      case hoc10 => (simp only [List.getElem?_toArray, List.getElem?_cons_zero, List.getElem?_cons_succ]; rfl)
      intro K hK
      go_simp
      go_at_call 28; refine (HC.out _ HDY.out).mono ?_; rintro e x5 ⟨rfl, hd5, hb5⟩; have hA5 := but_row hb5 hAY hbm; have d0 := row_cell hA5 0; have d1 := row_cell hA5 1; have d2 := row_cell hA5 2; have d3 := row_cell hA5 3; have d4 := row_cell hA5 4; have d5 := row_cell hA5 5; have d6 := row_cell hA5 6; have d7 := row_cell hA5 7; have d8 := row_cell hA5 8; have d9 := row_cell hA5 9; simp only [List.getElem?_toArray, List.getElem?_cons_zero, List.getElem?_cons_succ] at d0 d1 d2 d3 d4 d5 d6 d7 d8 d9
      go_wp2_with fail
      refine hK.out _ _ ?hsc10 (fun hHeld => ?_)
      case hsc10 => exact ⟨d3, d5, d6, d7, d8, d9⟩
      clear hK K
      (try simp only [Act.put, List.setIfInBounds_toArray, List.set_cons_zero, List.set_cons_succ])
      have hr4 := but_row hb5 HRY.out (by omega)
      have r0 := row_cell hr4 0; have r1 := row_cell hr4 1; have r2 := row_cell hr4 2; have r3 := row_cell hr4 3; have r4 := row_cell hr4 4
      simp only [List.getElem?_toArray, List.getElem?_cons_zero, List.getElem?_cons_succ] at r0 r1 r2 r3 r4
      have rf := fun o => row_frz hr4 o
      have hlr := row_lt hr4
      have HD4 := Lib.hid hd5
      have HB4 := Lib.hid (but_from HBY2.out hb5)
      clear hd5 hb5
      refine wpAnyH_ready (rs := [11]) (by kernel_rfl) (by simp) ?_
      refine AllReadyH.cons (o := ?_) ?hot11 ?hstt11 AllReadyH.nil
      case hot11 => (simp only [List.getElem?_toArray, List.getElem?_cons_zero, List.getElem?_cons_succ]; rfl)
      intro K hK
      go_simp
      have hbg : b ≠ g0 := by omega
      go_wp2_with fail
      refine hK.out _ _ ?hst11 (fun hHeld => ?_)
      case hst11 => exact ⟨setV_cell x5 g0 b 3 _ hbg d3 (.int .i64 0) (.int .i64 0) (.float .f64 0) (.string ⟨#[]⟩) (.slice none 0 0), setV_cell x5 g0 b 5 _ hbg d5 (.int .i64 0) (.int .i64 0) (.float .f64 0) (.string ⟨#[]⟩) (.slice none 0 0), setV_cell x5 g0 b 6 _ hbg d6 (.int .i64 0) (.int .i64 0) (.float .f64 0) (.string ⟨#[]⟩) (.slice none 0 0), setV_cell x5 g0 b 7 _ hbg d7 (.int .i64 0) (.int .i64 0) (.float .f64 0) (.string ⟨#[]⟩) (.slice none 0 0), setV_cell x5 g0 b 8 _ hbg d8 (.int .i64 0) (.int .i64 0) (.float .f64 0) (.string ⟨#[]⟩) (.slice none 0 0), setV_cell x5 g0 b 9 _ hbg d9 (.int .i64 0) (.int .i64 0) (.float .f64 0) (.string ⟨#[]⟩) (.slice none 0 0)⟩
      clear hK K
      (try simp only [Act.put, List.setIfInBounds_toArray, List.set_cons_zero, List.set_cons_succ])
      refine wpAnyH_take (i := 12) (oi := ?_) (v := ?_) ?hiu12 (by kernel_rfl) ?hfu12 ?hru12 ?hQu12 ?hyu12 (by assumption) ?restu12
      case hiu12 => (simp only [List.getElem?_toArray, List.getElem?_cons_zero, List.getElem?_cons_succ]; rfl)
      case hfu12 => kernel_rfl
      case hru12 => kernel_rfl
      case hyu12 => (refine Or.inl ⟨by rfl, ?_⟩; intro wS hSw; (try dsimp only at hSw); go_simp; (try with_reducible rfl))
      case hQu12 => exact fun _ _ _ h => h
      (try simp only [Act.put, List.setIfInBounds_toArray, List.set_cons_zero, List.set_cons_succ])
      refine wpAnyH_done (by kernel_rfl) ?_ _
      go_wp2
      refine bodyPost_ret (v := .tuple #[.agg #[.int .i64 0, .int .i64 0, .float .f64 0, .string ⟨#[]⟩, .slice none 0 0], .int .i64 z]) (by simp [results, Try.results11, go_sem, World.cell?_setCell_same, World.cell?_setCell_other, r0, r1, r2, r3, r4]) rfl ⟨rfl, dir_to HD4.out (setV_other (show tb ≠ g0 by omega) (.int .i64 0) (.int .i64 0) (.float .f64 0) (.string ⟨#[]⟩) (.slice none 0 0)) (setV_other (show mb ≠ g0 by omega) (.int .i64 0) (.int .i64 0) (.float .f64 0) (.string ⟨#[]⟩) (.slice none 0 0)), but_setV HB4.out (Nat.le_of_eq hg0) (.int .i64 0) (.int .i64 0) (.float .f64 0) (.string ⟨#[]⟩) (.slice none 0 0)⟩
end Num
end Go.Proofs.Ytbfnghbfilahnaa
