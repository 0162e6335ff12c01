/-
  Package queue: list, count, first, pop.
-/
import Derived.Test.YtodjnhhnjncgdaaEQ
import Derived.RegionTactic
namespace Go.Proofs.Ytodjnhhnjncgdaa
open Go.RowKit
namespace Num
open Ints
set_option linter.unusedSimpArgs false
set_option linter.unusedVariables false
set_option maxRecDepth 100000 in
set_option maxHeartbeats 4000000 in
theorem qlist_any (p : Option Addr) (l c : Nat) (w : World) : Calls Try.prog 79 #[.slice p l c] w fun e w' => e = .returned (.agg #[.int .i64 4, .int .i64 0, .float .f64 0, .string ⟨#[]⟩, .slice p l c]) ∧ Below w.heap.size w w' := by
  go_enter Try.func79, Try.ntmps79
  go_wp2
  exact bodyPost_ret (v := .agg #[.int .i64 4, .int .i64 0, .float .f64 0, .string ⟨#[]⟩, .slice p l c]) (by simp [results, Try.results79, go_sem]) rfl ⟨rfl, ((Below.refl _ _).alloc (Nat.le_refl _) _)⟩
set_option maxRecDepth 100000 in
set_option maxHeartbeats 4000000 in
theorem qcount_any (p : Option Addr) (l c : Nat) (w : World) : Calls Try.prog 51 #[.slice p l c] w fun e w' => e = .returned (.agg #[.int .i64 1, .int .i64 l, .float .f64 0, .string ⟨#[]⟩, .slice none 0 0]) ∧ Below w.heap.size w w' := by
  go_enter Try.func51, Try.ntmps51
  go_wp2
  exact bodyPost_ret (v := .agg #[.int .i64 1, .int .i64 l, .float .f64 0, .string ⟨#[]⟩, .slice none 0 0]) (by simp [results, Try.results51, go_sem]) rfl ⟨rfl, ((Below.refl _ _).alloc (Nat.le_refl _) _)⟩
set_option maxRecDepth 100000 in
set_option maxHeartbeats 4000000 in
theorem qfirst_none (p : Option Addr) (c : Nat) (w : World) : Calls Try.prog 49 #[.slice p 0 c] w fun e w' => e = .returned (.agg #[.int .i64 0, .int .i64 0, .float .f64 0, .string ⟨#[]⟩, .slice none 0 0]) ∧ Below w.heap.size w w' := by
  go_enter Try.func49, Try.ntmps49
  go_wp2
  exact bodyPost_ret (v := .agg #[.int .i64 0, .int .i64 0, .float .f64 0, .string ⟨#[]⟩, .slice none 0 0]) (by simp [results, Try.results49, go_sem]) rfl ⟨rfl, ((Below.refl _ _).alloc (Nat.le_refl _) _)⟩
set_option maxRecDepth 100000 in
set_option maxHeartbeats 4000000 in
theorem qfirst_at (b off : Nat) (l c : Nat) (K I : Int) (F : Nat) (Z : ByteArray) (q : Option Addr) (m d : Nat) (w : World) (hl : 0 < l) (c0 : w.cell? ⟨b, off, none⟩ = some (.int .i64 K)) (c1 : w.cell? ⟨b, off + 1, none⟩ = some (.int .i64 I)) (c2 : w.cell? ⟨b, off + 2, none⟩ = some (.float .f64 F)) (c3 : w.cell? ⟨b, off + 3, none⟩ = some (.string Z)) (c4 : w.cell? ⟨b, off + 4, none⟩ = some (.slice q m d)) : Calls Try.prog 49 #[.slice (some ⟨b, off, none⟩) l c] w fun e w' => e = .returned (.agg #[.int .i64 K, .int .i64 I, .float .f64 F, .string Z, .slice q m d]) ∧ Below w.heap.size w w' := by
  have hlt : b < w.heap.size := cell_lt c0
  have hne : w.heap.size ≠ b := by omega
  have hl0 : ((l : Int) == 0) = false := by rw [beq_eq_false_iff_ne]; omega
  have hl1 : (0 : Int) < (l : Int) := by omega
  go_enter Try.func49, Try.ntmps49
  go_wp2
  exact bodyPost_ret (v := .agg #[.int .i64 K, .int .i64 I, .float .f64 F, .string Z, .slice q m d]) (by simp [results, Try.results49, go_sem]) rfl ⟨rfl, ((Below.refl _ _).alloc (Nat.le_refl _) _)⟩
def headT (n : Nat) (L : List (VT (n + 1))) : VT (n + 1) := match L with | [] => nilT n | x :: _ => x
/-- The first one. -/
theorem qfirst_any (n : Nat) (p : Option Addr) (l c : Nat) (L : List (VT (n + 1))) (w0 w : World) (hb : Below w0.heap.size w0 w) (h : RepL w0 (Rep w0 (n + 1)) p l c L) :
    Calls Try.prog 49 #[.slice p l c] w fun e w' => ∃ v, e = .returned v ∧ Below w.heap.size w w' ∧ Rep w0 (n + 1) v (headT n L) := by
  obtain ⟨h1, h2, h3, h4⟩ := h
  match L, h1, h4 with
  | [], h1, _ =>
    obtain rfl : 0 = l := h1
    refine (qfirst_none p c w).mono ?_
    rintro e w' ⟨rfl, hb⟩
    exact ⟨_, rfl, hb, leafR _ n 0 0 0 ⟨#[]⟩ (by decide) (by decide) (by decide) (by decide)⟩
  | x :: r, h1, h4 =>
    have hl : 0 < l := by rw [← h1]; exact Nat.succ_pos _
    obtain ⟨b, off, rfl, hi⟩ := h4 hl
    obtain ⟨v0, v1, v2, v3, v4, c0, c1, c2, c3, c4, hr⟩ := hi 0 (Nat.succ_pos _)
    have hr' : Rep w0 (n + 1) (.agg #[v0, v1, v2, v3, v4]) x := hr
    obtain ⟨K, I, F, Z, q, m, d, hv, _⟩ := rep_shape hr'
    injection hv with hv
    simp only [Array.mk.injEq, List.cons.injEq, and_true] at hv
    obtain ⟨rfl, rfl, rfl, rfl, rfl⟩ := hv
    simp only [Nat.zero_mul, Nat.add_zero] at c0 c1 c2 c3 c4
    refine (qfirst_at b off l c K I F Z q m d w hl (cell_keep hb c0) (cell_keep hb c1) (cell_keep hb c2) (cell_keep hb c3) (cell_keep hb c4)).mono ?_
    rintro e w' ⟨rfl, hb⟩
    exact ⟨_, rfl, hb, hr'⟩
set_option maxRecDepth 100000 in
set_option maxHeartbeats 4000000 in
theorem qpop_any (n : Nat) (p : Option Addr) (l c : Nat) (L : List (VT (n + 1))) (w0 w : World) (HBW : Hid (Below w0.heap.size w0 w)) (HL : Hid (RepL w0 (Rep w0 (n + 1)) p l c L)) (hl : l ≤ 1000) :
    Calls Try.prog 48 #[.slice p l c] w fun e w' => ∃ t u, e = .returned (.tuple #[t, u]) ∧ Below w.heap.size w w' ∧ (∀ y, Below w0.heap.size w0 y → Stay w.heap.size w' y → Rep y (n + 2) t (4, 0, 0, ⟨#[]⟩, L.drop 1)) ∧ Rep w0 (n + 1) u (headT n L) := by
  have hcc : c ≤ 9223372036854775807 := by have := HL.out.2.2.1; unfold maxLen at this; omega
  have hlc : l ≤ c := HL.out.2.1
  by_cases h0 : l = 0
  · subst h0
    have HD := Lib.hid (show RepL w (Rep w0 (n + 1)) p 0 c (L.drop 1) from by
      have e : L = [] := List.eq_nil_of_length_eq_zero HL.out.1
      have h := repL_at HBW.out HL.out
      rw [e] at h ⊢
      exact h)
    have HO := Lib.hid (ow_none ((w.alloc (.cells #[.int .i64 0, .int .i64 0, .float .f64 0, .string ⟨#[]⟩, .slice none 0 0] 27)).alloc (.cells #[.int .i64 0, .int .i64 0, .float .f64 0, .string ⟨#[]⟩, .slice none 0 0] 27)) ((w.alloc (.cells #[.int .i64 0, .int .i64 0, .float .f64 0, .string ⟨#[]⟩, .slice none 0 0] 27)).alloc (.cells #[.int .i64 0, .int .i64 0, .float .f64 0, .string ⟨#[]⟩, .slice none 0 0] 27)) (Rep w0 (n + 1)) (Below.refl _ _) (Nat.le_refl _))
    have HBA := Lib.hid (bel_alloc (bel_alloc (Below.refl w.heap.size w) (.cells #[.int .i64 0, .int .i64 0, .float .f64 0, .string ⟨#[]⟩, .slice none 0 0] 27)) (.cells #[.int .i64 0, .int .i64 0, .float .f64 0, .string ⟨#[]⟩, .slice none 0 0] 27))
    have HD2 := Lib.hid (repL_at HBA.out HD.out)
    have r0 := row_alloc_step (row_alloc w #[.int .i64 0, .int .i64 0, .float .f64 0, .string ⟨#[]⟩, .slice none 0 0] 27) (.cells #[.int .i64 0, .int .i64 0, .float .f64 0, .string ⟨#[]⟩, .slice none 0 0] 27)
    have r1 := row_alloc (w.alloc (.cells #[.int .i64 0, .int .i64 0, .float .f64 0, .string ⟨#[]⟩, .slice none 0 0] 27)) #[.int .i64 0, .int .i64 0, .float .f64 0, .string ⟨#[]⟩, .slice none 0 0] 27
    simp only [World.size_alloc] at r1
    have HR0 := Lib.hid r0
    have HR1 := Lib.hid r1
    have hza : (((w.alloc (.cells #[.int .i64 0, .int .i64 0, .float .f64 0, .string ⟨#[]⟩, .slice none 0 0] 27)).alloc (.cells #[.int .i64 0, .int .i64 0, .float .f64 0, .string ⟨#[]⟩, .slice none 0 0] 27))).heap.size = w.heap.size + 1 + 1 := by simp only [World.size_alloc]
    have HZA := Lib.hid hza
    clear r0 r1 hza HD
    go_enter Try.func48, Try.ntmps48
    go_wp2_with (first
      | (at_builtin; refine wp_ovs rfl (.const (.slice none 0 0)) (.tmp 9) rfl (rep_one w0 (n + 1)) ((w.alloc (.cells #[.int .i64 0, .int .i64 0, .float .f64 0, .string ⟨#[]⟩, .slice none 0 0] 27)).alloc (.cells #[.int .i64 0, .int .i64 0, .float .f64 0, .string ⟨#[]⟩, .slice none 0 0] 27)) ((w.alloc (.cells #[.int .i64 0, .int .i64 0, .float .f64 0, .string ⟨#[]⟩, .slice none 0 0] 27)).alloc (.cells #[.int .i64 0, .int .i64 0, .float .f64 0, .string ⟨#[]⟩, .slice none 0 0] 27)) none 0 0 [] _ _ _ _ rfl rfl HO.out HD2.out (by omega) ?_; intro p1 c1 w1 ho1; rw [Nat.zero_add, List.nil_append] at ho1; have hw1 := ow_rep ho1; have HX1 := Lib.hid (row_step HR0.out hw1.2); have HX2 := Lib.hid (row_step HR1.out hw1.2); have HY := Lib.hid hw1.1; have HB1 := Lib.hid (bel_step HBA.out hw1.2); have HS1 := Lib.hid hw1.2.size; clear hw1 ho1)
      | (go_at_call 79; refine (qlist_any _ _ _ _).mono ?_; rintro e w2 ⟨rfl, hb2⟩; have HX12 := Lib.hid (row_step HX1.out hb2); have HX22 := Lib.hid (row_step HX2.out hb2); have HST2 := Lib.hid (stay_below (B := (((w.alloc (.cells #[.int .i64 0, .int .i64 0, .float .f64 0, .string ⟨#[]⟩, .slice none 0 0] 27)).alloc (.cells #[.int .i64 0, .int .i64 0, .float .f64 0, .string ⟨#[]⟩, .slice none 0 0] 27))).heap.size) hb2); have HB2 := Lib.hid (bel_step HB1.out hb2); have HS2 := Lib.hid hb2.size; clear hb2)
      | (go_at_call 49; refine (qfirst_any n _ _ c L w0 _ (bel_step HBW.out HB2.out) HL.out).mono ?_; rintro e w3 ⟨u, rfl, hb3, hu⟩; obtain ⟨Ku, Iu, Fu, Su, qu, mu, du, rfl, _⟩ := rep_shape hu; have x1 := row_step HX12.out hb3; have x2 := row_step HX22.out hb3; have HB3 := Lib.hid (bel_step HB2.out hb3); have HS3 := Lib.hid (Nat.le_trans HS2.out hb3.size); have HU := Lib.hid hu; have HST3 := Lib.hid (show Stay (((w.alloc (.cells #[.int .i64 0, .int .i64 0, .float .f64 0, .string ⟨#[]⟩, .slice none 0 0] 27)).alloc (.cells #[.int .i64 0, .int .i64 0, .float .f64 0, .string ⟨#[]⟩, .slice none 0 0] 27))).heap.size w1 w3 from fun b h1 h2 => (hb3.block b (Nat.lt_of_lt_of_le h2 HS2.out)).trans (HST2.out b h1 h2)); clear hb3 hu
         have p0 := row_cell x1 0; have p1' := row_cell x1 1; have p2 := row_cell x1 2; have p3 := row_cell x1 3; have p4 := row_cell x1 4
         have s0 := row_cell x2 0; have s1 := row_cell x2 1; have s2 := row_cell x2 2; have s3 := row_cell x2 3; have s4 := row_cell x2 4
         simp only [List.getElem?_toArray, List.getElem?_cons_zero, List.getElem?_cons_succ] at p0 p1' p2 p3 p4 s0 s1 s2 s3 s4
         have f1 := fun o => row_frz x1 o
         have f2 := fun o => row_frz x2 o
         have l2 := row_lt x2
         clear x1 x2))
    refine bodyPost_ret (v := .tuple #[.agg #[.int .i64 4, .int .i64 0, .float .f64 0, .string ⟨#[]⟩, .slice p1 (0) c1], .agg #[.int .i64 Ku, .int .i64 Iu, .float .f64 Fu, .string Su, .slice qu mu du]]) (by simp [results, Try.results48, go_sem, World.cell?_setCell_same, World.cell?_setCell_other, p0, p1', p2, p3, p4, s0, s1, s2, s3, s4]) rfl ⟨_, _, rfl, ?_, ?_, ?_⟩
    · exact set5_below (g := w.heap.size + 1) (o := 0) (set5_below (g := w.heap.size) (o := 0) HB3.out (by omega) _ _ _ _ _) (by omega) _ _ _ _ _
    · intro y hby hst
      refine list_rep (repL_mono (fun _ _ h => rep_keep hby _ _ _ h) (HY.out y (fun b h1 h2 => ?_)))
      have hz := HZA.out
      have hz3 := HS3.out
      rw [hz] at h1
      exact (hst b (by omega) (show b < (set5 (set5 w3 w.heap.size 0 (.int .i64 4) (.int .i64 0) (.float .f64 0) (.string ⟨#[]⟩) (.slice p1 (0) c1)) (w.heap.size + 1) 0 (.int .i64 Ku) (.int .i64 Iu) (.float .f64 Fu) (.string Su) (.slice qu mu du)).heap.size by rw [set5_size, set5_size]; omega)).trans ((set5_other (w := set5 w3 w.heap.size 0 (.int .i64 4) (.int .i64 0) (.float .f64 0) (.string ⟨#[]⟩) (.slice p1 (0) c1)) (g := w.heap.size + 1) (o := 0) (by omega)).trans ((set5_other (g := w.heap.size) (o := 0) (by omega)).trans (HST3.out b (by rw [hz]; omega) h2)))
    · exact HU.out
  · have hl1 : (1 : Int) ≤ (l : Int) := by omega
    obtain ⟨b, off, rfl, _⟩ := HL.out.2.2.2 (by omega)
    obtain ⟨q9, hq9⟩ : ∃ q, (if c = 1 then some (⟨b, off, none⟩ : Addr) else some ⟨b, off + 5, none⟩) = q := ⟨_, rfl⟩
    have HD := Lib.hid (show RepL w (Rep w0 (n + 1)) q9 (l - 1) (c - 1) (L.drop 1) by
      have h := repL_sub (repL_at HBW.out HL.out) 1 l (by omega) (Nat.le_refl _)
      rw [List.take_of_length_le (by rw [List.length_drop, HL.out.1]; exact Nat.le_refl _), Nat.one_mul] at h
      rw [← hq9]
      exact h)
    have hlb : ¬ (l : Int) < 1 := by omega
    have HO := Lib.hid (ow_none ((w.alloc (.cells #[.int .i64 0, .int .i64 0, .float .f64 0, .string ⟨#[]⟩, .slice none 0 0] 27)).alloc (.cells #[.int .i64 0, .int .i64 0, .float .f64 0, .string ⟨#[]⟩, .slice none 0 0] 27)) ((w.alloc (.cells #[.int .i64 0, .int .i64 0, .float .f64 0, .string ⟨#[]⟩, .slice none 0 0] 27)).alloc (.cells #[.int .i64 0, .int .i64 0, .float .f64 0, .string ⟨#[]⟩, .slice none 0 0] 27)) (Rep w0 (n + 1)) (Below.refl _ _) (Nat.le_refl _))
    have HBA := Lib.hid (bel_alloc (bel_alloc (Below.refl w.heap.size w) (.cells #[.int .i64 0, .int .i64 0, .float .f64 0, .string ⟨#[]⟩, .slice none 0 0] 27)) (.cells #[.int .i64 0, .int .i64 0, .float .f64 0, .string ⟨#[]⟩, .slice none 0 0] 27))
    have HD2 := Lib.hid (repL_at HBA.out HD.out)
    have r0 := row_alloc_step (row_alloc w #[.int .i64 0, .int .i64 0, .float .f64 0, .string ⟨#[]⟩, .slice none 0 0] 27) (.cells #[.int .i64 0, .int .i64 0, .float .f64 0, .string ⟨#[]⟩, .slice none 0 0] 27)
    have r1 := row_alloc (w.alloc (.cells #[.int .i64 0, .int .i64 0, .float .f64 0, .string ⟨#[]⟩, .slice none 0 0] 27)) #[.int .i64 0, .int .i64 0, .float .f64 0, .string ⟨#[]⟩, .slice none 0 0] 27
    simp only [World.size_alloc] at r1
    have HR0 := Lib.hid r0
    have HR1 := Lib.hid r1
    have hza : (((w.alloc (.cells #[.int .i64 0, .int .i64 0, .float .f64 0, .string ⟨#[]⟩, .slice none 0 0] 27)).alloc (.cells #[.int .i64 0, .int .i64 0, .float .f64 0, .string ⟨#[]⟩, .slice none 0 0] 27))).heap.size = w.heap.size + 1 + 1 := by simp only [World.size_alloc]
    have HZA := Lib.hid hza
    clear r0 r1 hza HD
    go_enter Try.func48, Try.ntmps48
    go_wp2_with (first
      | (at_builtin; refine wp_ovs rfl (.const (.slice none 0 0)) (.tmp 9) rfl (rep_one w0 (n + 1)) ((w.alloc (.cells #[.int .i64 0, .int .i64 0, .float .f64 0, .string ⟨#[]⟩, .slice none 0 0] 27)).alloc (.cells #[.int .i64 0, .int .i64 0, .float .f64 0, .string ⟨#[]⟩, .slice none 0 0] 27)) ((w.alloc (.cells #[.int .i64 0, .int .i64 0, .float .f64 0, .string ⟨#[]⟩, .slice none 0 0] 27)).alloc (.cells #[.int .i64 0, .int .i64 0, .float .f64 0, .string ⟨#[]⟩, .slice none 0 0] 27)) none 0 0 [] _ _ _ _ rfl rfl HO.out HD2.out (by omega) ?_; intro p1 c1 w1 ho1; rw [Nat.zero_add, List.nil_append] at ho1; have hw1 := ow_rep ho1; have HX1 := Lib.hid (row_step HR0.out hw1.2); have HX2 := Lib.hid (row_step HR1.out hw1.2); have HY := Lib.hid hw1.1; have HB1 := Lib.hid (bel_step HBA.out hw1.2); have HS1 := Lib.hid hw1.2.size; clear hw1 ho1)
      | (go_at_call 79; refine (qlist_any _ _ _ _).mono ?_; rintro e w2 ⟨rfl, hb2⟩; have HX12 := Lib.hid (row_step HX1.out hb2); have HX22 := Lib.hid (row_step HX2.out hb2); have HST2 := Lib.hid (stay_below (B := (((w.alloc (.cells #[.int .i64 0, .int .i64 0, .float .f64 0, .string ⟨#[]⟩, .slice none 0 0] 27)).alloc (.cells #[.int .i64 0, .int .i64 0, .float .f64 0, .string ⟨#[]⟩, .slice none 0 0] 27))).heap.size) hb2); have HB2 := Lib.hid (bel_step HB1.out hb2); have HS2 := Lib.hid hb2.size; clear hb2)
      | (go_at_call 49; refine (qfirst_any n _ _ c L w0 _ (bel_step HBW.out HB2.out) HL.out).mono ?_; rintro e w3 ⟨u, rfl, hb3, hu⟩; obtain ⟨Ku, Iu, Fu, Su, qu, mu, du, rfl, _⟩ := rep_shape hu; have x1 := row_step HX12.out hb3; have x2 := row_step HX22.out hb3; have HB3 := Lib.hid (bel_step HB2.out hb3); have HS3 := Lib.hid (Nat.le_trans HS2.out hb3.size); have HU := Lib.hid hu; have HST3 := Lib.hid (show Stay (((w.alloc (.cells #[.int .i64 0, .int .i64 0, .float .f64 0, .string ⟨#[]⟩, .slice none 0 0] 27)).alloc (.cells #[.int .i64 0, .int .i64 0, .float .f64 0, .string ⟨#[]⟩, .slice none 0 0] 27))).heap.size w1 w3 from fun b h1 h2 => (hb3.block b (Nat.lt_of_lt_of_le h2 HS2.out)).trans (HST2.out b h1 h2)); clear hb3 hu
         have p0 := row_cell x1 0; have p1' := row_cell x1 1; have p2 := row_cell x1 2; have p3 := row_cell x1 3; have p4 := row_cell x1 4
         have s0 := row_cell x2 0; have s1 := row_cell x2 1; have s2 := row_cell x2 2; have s3 := row_cell x2 3; have s4 := row_cell x2 4
         simp only [List.getElem?_toArray, List.getElem?_cons_zero, List.getElem?_cons_succ] at p0 p1' p2 p3 p4 s0 s1 s2 s3 s4
         have f1 := fun o => row_frz x1 o
         have f2 := fun o => row_frz x2 o
         have l2 := row_lt x2
         clear x1 x2))
    refine bodyPost_ret (v := .tuple #[.agg #[.int .i64 4, .int .i64 0, .float .f64 0, .string ⟨#[]⟩, .slice p1 (l - 1) c1], .agg #[.int .i64 Ku, .int .i64 Iu, .float .f64 Fu, .string Su, .slice qu mu du]]) (by simp [results, Try.results48, go_sem, World.cell?_setCell_same, World.cell?_setCell_other, p0, p1', p2, p3, p4, s0, s1, s2, s3, s4]) rfl ⟨_, _, rfl, ?_, ?_, ?_⟩
    · exact set5_below (g := w.heap.size + 1) (o := 0) (set5_below (g := w.heap.size) (o := 0) HB3.out (by omega) _ _ _ _ _) (by omega) _ _ _ _ _
    · intro y hby hst
      refine list_rep (repL_mono (fun _ _ h => rep_keep hby _ _ _ h) (HY.out y (fun b h1 h2 => ?_)))
      have hz := HZA.out
      have hz3 := HS3.out
      rw [hz] at h1
      exact (hst b (by omega) (show b < (set5 (set5 w3 w.heap.size 0 (.int .i64 4) (.int .i64 0) (.float .f64 0) (.string ⟨#[]⟩) (.slice p1 (l - 1) c1)) (w.heap.size + 1) 0 (.int .i64 Ku) (.int .i64 Iu) (.float .f64 Fu) (.string Su) (.slice qu mu du)).heap.size by rw [set5_size, set5_size]; omega)).trans ((set5_other (w := set5 w3 w.heap.size 0 (.int .i64 4) (.int .i64 0) (.float .f64 0) (.string ⟨#[]⟩) (.slice p1 (l - 1) c1)) (g := w.heap.size + 1) (o := 0) (by omega)).trans ((set5_other (g := w.heap.size) (o := 0) (by omega)).trans (HST3.out b (by rw [hz]; omega) h2)))
    · exact HU.out
end Num
end Go.Proofs.Ytodjnhhnjncgdaa
