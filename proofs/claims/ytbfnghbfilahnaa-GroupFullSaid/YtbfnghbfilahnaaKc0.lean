/-
  Package group: its words.
-/
import Derived.Test.YtbfnghbfilahnaaKb0
import Derived.Test.YtbfnghbfilahnaaVCheck
import Derived.RegionTactic
import Derived.Deep.RegionHeld3
import Derived.Deep.RegionWith
import Derived.Deep.DeepCutAuto
namespace Go.Proofs.Ytbfnghbfilahnaa
open Go.RowKit
namespace Num
open Ints
set_option linter.unusedSimpArgs false
set_option linter.unusedVariables false
def styL : List ByteArray := [(⟨#[97, 99, 116, 105, 118, 101]⟩ : ByteArray), (⟨#[119, 97, 114, 109]⟩ : ByteArray), (⟨#[99, 111, 108, 100]⟩ : ByteArray)]
def clsL : List ByteArray := [(⟨#[99, 111, 117, 110, 116, 101, 114]⟩ : ByteArray), (⟨#[108, 101, 100, 103, 101, 114]⟩ : ByteArray), (⟨#[111, 114, 99, 104]⟩ : ByteArray), (⟨#[113, 117, 101, 117, 101]⟩ : ByteArray), (⟨#[114, 101, 103, 105, 115, 116, 101, 114]⟩ : ByteArray), (⟨#[116, 97, 98, 108, 101]⟩ : ByteArray)]
/-- Where a text stands among others, or -1. -/
def idxI (T : List ByteArray) (x : ByteArray) : Int := match T.findIdx? (bq x) with | some j => (j : Int) | none => -1
theorem idx_some {T : List ByteArray} {x : ByteArray} {j : Nat} (hj : j < T.length) (h : bq x T[j] = true) (hn : ∀ i (hi : i < T.length), i < j → bq x T[i] = false) : idxI T x = (j : Int) := by
  unfold idxI
  have e : T.findIdx? (bq x) = some j := by
    rw [List.findIdx?_eq_some_iff_getElem]
    exact ⟨hj, h, fun i hi => by rw [hn i (by omega) hi]; exact Bool.false_ne_true⟩
  rw [e]
theorem idx_none {T : List ByteArray} {x : ByteArray} (hn : ∀ i (hi : i < T.length), bq x T[i] = false) : idxI T x = -1 := by
  unfold idxI
  have e : T.findIdx? (bq x) = none := by
    rw [List.findIdx?_eq_none_iff]
    intro y hy
    obtain ⟨i, hi, rfl⟩ := List.getElem_of_mem hy
    exact hn i hi
  rw [e]
theorem tl_bq (x y : ByteArray) : (x.toList == y.toList) = bq x y := by
  rw [ByteArray.toList_eq, ByteArray.toList_eq, Bool.eq_iff_iff]
  unfold bq
  rw [beq_iff_eq, beq_iff_eq]
  exact ⟨fun h => Array.toList_inj.1 h, fun h => by rw [h]⟩
set_option maxRecDepth 100000 in
set_option maxHeartbeats 4000000 in
theorem index_any (T : List ByteArray) (x : ByteArray) (b c : Nat) (w : World) (hT : T.length ≤ 1000) (hr : ∀ i (hi : i < T.length), w.cell? ⟨b, i, none⟩ = some (.string T[i])) :
    Calls Try.prog 50 #[.slice (some ⟨b, 0, none⟩) T.length c, .string x] w fun e w' => e = .returned (.int .i64 (idxI T x)) ∧ w' = w := by
  obtain ⟨n, hn⟩ : ∃ n, T.length = n := ⟨_, rfl⟩
  have HR := Lib.hid hr
  have HN := Lib.hid hn
  have hn1 : n ≤ 1000 := by omega
  rw [hn]
  clear hr hT hn
  go_enter Try.func50, Try.ntmps50
  go_wp2_with fail
  go_loopw [8] (fun iv wr => ∃ j : Nat, j ≤ n ∧ iv = .int .i64 j ∧ wr = w ∧ (∀ i (hi : i < T.length), i < j → bq x T[i] = false)) (fun iv _ => n - (intOf iv).toNat)
  case atStart => exact ⟨0, Nat.zero_le _, rfl, rfl, fun i hi h => absurd h (Nat.not_lt_zero _)⟩
  case round =>
    obtain ⟨j, hjn, rfl, rfl, hno⟩ := hrel
    by_cases hj : j < n
    · have hjT : j < T.length := by rw [HN.out]; exact hj
      have hc := HR.out j hjT
      obtain ⟨y, hy⟩ : ∃ y, T[j] = y := ⟨_, rfl⟩
      rw [hy] at hc
      have hji : (j : Int) < (n : Int) := by omega
      have hj0 : (0 : Int) ≤ (j : Int) := by omega
      have HNO := Lib.hid hno
      clear hno
      cases hb : bq x y with
      | true =>
        have heq : (x.toList == y.toList) = true := by rw [tl_bq]; exact hb
        have HI := Lib.hid (idx_some hjT (by rw [hy]; exact hb) HNO.out)
        clear hb
        go_wp2
        go_ret
        refine ⟨?_, rfl⟩
        rw [HI.out]
        rfl
      | false =>
        have heq : (x.toList == y.toList) = false := by rw [tl_bq]; exact hb
        have HY := Lib.hid (show bq x T[j] = false by rw [hy]; exact hb)
        clear hb
        go_wp2
        go_roundw
        case rel =>
          refine ⟨j + 1, by omega, by go_num, trivial, fun i hi hij => ?_⟩
          by_cases e : i = j
          · subst e; exact HY.out
          · exact HNO.out i hi (by omega)
        case measure => simp [intOf]; omega
    · obtain rfl : j = n := by omega
      have hji : ¬ ((j : Int) < (j : Int)) := by omega
      have HI := Lib.hid (idx_none fun i hi => hno i hi (by rw [← HN.out]; exact hi))
      clear hno
      go_wp2
      go_ret
      refine ⟨?_, rfl⟩
      rw [HI.out]
      rfl
set_option maxRecDepth 100000 in
set_option maxHeartbeats 4000000 in
theorem styles_any (w : World) : Calls Try.prog 51 #[] w fun e w' => e = .returned (.slice (some ⟨w.heap.size, 0, none⟩) 3 3) ∧ w' = w.alloc (.cells #[.string ⟨#[97, 99, 116, 105, 118, 101]⟩, .string ⟨#[119, 97, 114, 109]⟩, .string ⟨#[99, 111, 108, 100]⟩] 9) := by
  go_enter Try.func51, Try.ntmps51
  go_wp2
  go_ret
  exact ⟨rfl, rfl⟩
set_option maxRecDepth 100000 in
set_option maxHeartbeats 4000000 in
theorem classes_any (w : World) : Calls Try.prog 64 #[] w fun e w' => e = .returned (.slice (some ⟨w.heap.size, 0, none⟩) 6 6) ∧ w' = w.alloc (.cells #[.string ⟨#[99, 111, 117, 110, 116, 101, 114]⟩, .string ⟨#[108, 101, 100, 103, 101, 114]⟩, .string ⟨#[111, 114, 99, 104]⟩, .string ⟨#[113, 117, 101, 117, 101]⟩, .string ⟨#[114, 101, 103, 105, 115, 116, 101, 114]⟩, .string ⟨#[116, 97, 98, 108, 101]⟩] 9) := by
  go_enter Try.func64, Try.ntmps64
  go_wp2
  go_ret
  exact ⟨rfl, rfl⟩
abbrev txA (S : ByteArray) : Value := .agg #[.int .i64 3, .int .i64 0, .float .f64 0, .string S, .slice none 0 0]
set_option maxRecDepth 100000 in
set_option maxHeartbeats 4000000 in
theorem contains_any (T : List ByteArray) (x : ByteArray) (b c : Nat) (w : World) (hT : T.length ≤ 1000) (hr : ∀ i (hi : i < T.length), w.cell? ⟨b, i, none⟩ = some (.string T[i])) :
    Calls Try.prog 63 #[.slice (some ⟨b, 0, none⟩) T.length c, .string x] w fun e w' => e = .returned (.bool (decide (0 ≤ idxI T x))) ∧ w' = w := by
  have HI := Lib.hid (index_any T x b c w hT hr)
  obtain ⟨z, hz⟩ : ∃ z, idxI T x = z := ⟨_, rfl⟩
  rw [hz] at HI ⊢
  obtain ⟨n, hn⟩ : ∃ n, T.length = n := ⟨_, rfl⟩
  rw [hn] at HI ⊢
  clear hr hT hz hn
  go_enter Try.func63, Try.ntmps63
  go_wp2_with (go_at_call 50; refine HI.out.mono ?_; rintro e w' ⟨rfl, rfl⟩)
  go_ret
  exact ⟨rfl, rfl⟩
theorem list_cells {w : World} {b : Nat} {T : List ByteArray} {t : TypeId} (h : w.heap[b]? = some (.cells (T.map Value.string).toArray t (0, 0))) : ∀ i (hi : i < T.length), w.cell? ⟨b, i, none⟩ = some (.string T[i]) := fun i hi => by
  rw [row_cell h i, List.getElem?_toArray, List.getElem?_map, List.getElem?_eq_getElem hi]
  rfl
set_option maxRecDepth 100000 in
set_option maxHeartbeats 4000000 in
theorem isclass_text (S : ByteArray) (w : World) : Calls Try.prog 48 #[.agg #[.int .i64 3, .int .i64 0, .float .f64 0, .string S, .slice none 0 0]] w fun e w' => e = .returned (.bool (decide (0 ≤ idxI clsL S))) ∧ Below w.heap.size w w' := by
  obtain ⟨g, hg⟩ : ∃ g, w.heap.size = g := ⟨_, rfl⟩
  obtain ⟨w1, hw1⟩ : ∃ W, w.alloc (.cells #[.int .i64 3, .int .i64 0, .float .f64 0, .string S, .slice none 0 0] 39) = W := ⟨_, rfl⟩
  have hV : w1.heap[g]? = some (.cells #[.int .i64 3, .int .i64 0, .float .f64 0, .string S, .slice none 0 0] 39 (0, 0)) := by rw [← hw1, ← hg]; exact row_alloc w _ _
  have hb1 : Below w.heap.size w w1 := by rw [← hw1]; exact bel_alloc (Below.refl _ _) _
  obtain ⟨m, hm1⟩ : ∃ m, w1.heap.size = m := ⟨_, rfl⟩
  have hgm : g < m := by rw [← hm1]; exact row_lt hV
  have HRW := Lib.hid (show (w1.drew.alloc (.cells #[.string ⟨#[99, 111, 117, 110, 116, 101, 114]⟩, .string ⟨#[108, 101, 100, 103, 101, 114]⟩, .string ⟨#[111, 114, 99, 104]⟩, .string ⟨#[113, 117, 101, 117, 101]⟩, .string ⟨#[114, 101, 103, 105, 115, 116, 101, 114]⟩, .string ⟨#[116, 97, 98, 108, 101]⟩] 9)).heap[m]? = some (.cells #[.string ⟨#[99, 111, 117, 110, 116, 101, 114]⟩, .string ⟨#[108, 101, 100, 103, 101, 114]⟩, .string ⟨#[111, 114, 99, 104]⟩, .string ⟨#[113, 117, 101, 117, 101]⟩, .string ⟨#[114, 101, 103, 105, 115, 116, 101, 114]⟩, .string ⟨#[116, 97, 98, 108, 101]⟩] 9 (0, 0)) from by rw [← hm1]; exact row_alloc w1.drew _ _)
  have HB := Lib.hid (bel_alloc (Below.drew hb1) (.cells #[.string ⟨#[99, 111, 117, 110, 116, 101, 114]⟩, .string ⟨#[108, 101, 100, 103, 101, 114]⟩, .string ⟨#[111, 114, 99, 104]⟩, .string ⟨#[113, 117, 101, 117, 101]⟩, .string ⟨#[114, 101, 103, 105, 115, 116, 101, 114]⟩, .string ⟨#[116, 97, 98, 108, 101]⟩] 9))
  have HST := Lib.hid (fun (W : World) => classes_any W)
  have HIX := Lib.hid (fun (W : World) (b : Nat) (hr : W.heap[b]? = some (.cells #[.string ⟨#[99, 111, 117, 110, 116, 101, 114]⟩, .string ⟨#[108, 101, 100, 103, 101, 114]⟩, .string ⟨#[111, 114, 99, 104]⟩, .string ⟨#[113, 117, 101, 117, 101]⟩, .string ⟨#[114, 101, 103, 105, 115, 116, 101, 114]⟩, .string ⟨#[116, 97, 98, 108, 101]⟩] 9 (0, 0))) => contains_any clsL S b 6 W (by decide) (list_cells (T := clsL) hr))
  obtain ⟨z, hz⟩ : ∃ z, idxI clsL S = z := ⟨_, rfl⟩
  rw [hz] at HIX ⊢
  have c0 := row_cell hV 0; have c1 := row_cell hV 3
  simp only [List.getElem?_toArray, List.getElem?_cons_zero, List.getElem?_cons_succ] at c0 c1
  clear hV hb1 hz
  go_enter Try.func48, Try.ntmps48
  go_wp2_with fail
  clear hw1
  go_region_held3 (fun w' => w'.cell? ⟨g, 0, none⟩ = some (.int .i64 3) ∧ w'.cell? ⟨g, 3, none⟩ = some (.string S)) ((refine ⟨?_, ?_⟩ <;> first | assumption | go_keep)) (first
    | (go_at_call 64; refine (HST.out _).mono ?_; rintro e w' ⟨rfl, rfl⟩)
    | (go_at_call 63; refine (HIX.out _ _ ?c0).mono ?_; (case c0 => exact HRW.out); rintro e w' ⟨rfl, rfl⟩))
  go_wp2
  go_ret
  exact ⟨rfl, HB.out⟩
set_option maxRecDepth 100000 in
set_option maxHeartbeats 4000000 in
theorem isstyle_text (S : ByteArray) (w : World) : Calls Try.prog 49 #[.agg #[.int .i64 3, .int .i64 0, .float .f64 0, .string S, .slice none 0 0]] w fun e w' => e = .returned (.bool (decide (0 ≤ idxI styL S))) ∧ Below w.heap.size w w' := by
  obtain ⟨g, hg⟩ : ∃ g, w.heap.size = g := ⟨_, rfl⟩
  obtain ⟨w1, hw1⟩ : ∃ W, w.alloc (.cells #[.int .i64 3, .int .i64 0, .float .f64 0, .string S, .slice none 0 0] 39) = W := ⟨_, rfl⟩
  have hV : w1.heap[g]? = some (.cells #[.int .i64 3, .int .i64 0, .float .f64 0, .string S, .slice none 0 0] 39 (0, 0)) := by rw [← hw1, ← hg]; exact row_alloc w _ _
  have hb1 : Below w.heap.size w w1 := by rw [← hw1]; exact bel_alloc (Below.refl _ _) _
  obtain ⟨m, hm1⟩ : ∃ m, w1.heap.size = m := ⟨_, rfl⟩
  have hgm : g < m := by rw [← hm1]; exact row_lt hV
  have HRW := Lib.hid (show (w1.drew.alloc (.cells #[.string ⟨#[97, 99, 116, 105, 118, 101]⟩, .string ⟨#[119, 97, 114, 109]⟩, .string ⟨#[99, 111, 108, 100]⟩] 9)).heap[m]? = some (.cells #[.string ⟨#[97, 99, 116, 105, 118, 101]⟩, .string ⟨#[119, 97, 114, 109]⟩, .string ⟨#[99, 111, 108, 100]⟩] 9 (0, 0)) from by rw [← hm1]; exact row_alloc w1.drew _ _)
  have HB := Lib.hid (bel_alloc (Below.drew hb1) (.cells #[.string ⟨#[97, 99, 116, 105, 118, 101]⟩, .string ⟨#[119, 97, 114, 109]⟩, .string ⟨#[99, 111, 108, 100]⟩] 9))
  have HST := Lib.hid (fun (W : World) => styles_any W)
  have HIX := Lib.hid (fun (W : World) (b : Nat) (hr : W.heap[b]? = some (.cells #[.string ⟨#[97, 99, 116, 105, 118, 101]⟩, .string ⟨#[119, 97, 114, 109]⟩, .string ⟨#[99, 111, 108, 100]⟩] 9 (0, 0))) => contains_any styL S b 3 W (by decide) (list_cells (T := styL) hr))
  obtain ⟨z, hz⟩ : ∃ z, idxI styL S = z := ⟨_, rfl⟩
  rw [hz] at HIX ⊢
  have c0 := row_cell hV 0; have c1 := row_cell hV 3
  simp only [List.getElem?_toArray, List.getElem?_cons_zero, List.getElem?_cons_succ] at c0 c1
  clear hV hb1 hz
  go_enter Try.func49, Try.ntmps49
  go_wp2_with fail
  clear hw1
  go_region_held3 (fun w' => w'.cell? ⟨g, 0, none⟩ = some (.int .i64 3) ∧ w'.cell? ⟨g, 3, none⟩ = some (.string S)) ((refine ⟨?_, ?_⟩ <;> first | assumption | go_keep)) (first
    | (go_at_call 51; refine (HST.out _).mono ?_; rintro e w' ⟨rfl, rfl⟩)
    | (go_at_call 63; refine (HIX.out _ _ ?c0).mono ?_; (case c0 => exact HRW.out); rintro e w' ⟨rfl, rfl⟩))
  go_wp2
  go_ret
  exact ⟨rfl, HB.out⟩
set_option maxRecDepth 100000 in
set_option maxHeartbeats 4000000 in
theorem styleof_text (S : ByteArray) (w : World) : Calls Try.prog 26 #[.agg #[.int .i64 3, .int .i64 0, .float .f64 0, .string S, .slice none 0 0]] w fun e w' => e = .returned (.int .i64 (idxI styL S)) ∧ Below w.heap.size w w' := by
  obtain ⟨g, hg⟩ : ∃ g, w.heap.size = g := ⟨_, rfl⟩
  obtain ⟨w1, hw1⟩ : ∃ W, w.alloc (.cells #[.int .i64 3, .int .i64 0, .float .f64 0, .string S, .slice none 0 0] 39) = W := ⟨_, rfl⟩
  have hV : w1.heap[g]? = some (.cells #[.int .i64 3, .int .i64 0, .float .f64 0, .string S, .slice none 0 0] 39 (0, 0)) := by rw [← hw1, ← hg]; exact row_alloc w _ _
  have hb1 : Below w.heap.size w w1 := by rw [← hw1]; exact bel_alloc (Below.refl _ _) _
  obtain ⟨m, hm1⟩ : ∃ m, w1.heap.size = m := ⟨_, rfl⟩
  have hgm : g < m := by rw [← hm1]; exact row_lt hV
  have HRW := Lib.hid (show (w1.drew.alloc (.cells #[.string ⟨#[97, 99, 116, 105, 118, 101]⟩, .string ⟨#[119, 97, 114, 109]⟩, .string ⟨#[99, 111, 108, 100]⟩] 9)).heap[m]? = some (.cells #[.string ⟨#[97, 99, 116, 105, 118, 101]⟩, .string ⟨#[119, 97, 114, 109]⟩, .string ⟨#[99, 111, 108, 100]⟩] 9 (0, 0)) from by rw [← hm1]; exact row_alloc w1.drew _ _)
  have HB := Lib.hid (bel_alloc (Below.drew hb1) (.cells #[.string ⟨#[97, 99, 116, 105, 118, 101]⟩, .string ⟨#[119, 97, 114, 109]⟩, .string ⟨#[99, 111, 108, 100]⟩] 9))
  have HST := Lib.hid (fun (W : World) => styles_any W)
  have HIX := Lib.hid (fun (W : World) (b : Nat) (hr : W.heap[b]? = some (.cells #[.string ⟨#[97, 99, 116, 105, 118, 101]⟩, .string ⟨#[119, 97, 114, 109]⟩, .string ⟨#[99, 111, 108, 100]⟩] 9 (0, 0))) => index_any styL S b 3 W (by decide) (list_cells (T := styL) hr))
  obtain ⟨z, hz⟩ : ∃ z, idxI styL S = z := ⟨_, rfl⟩
  rw [hz] at HIX ⊢
  have c0 := row_cell hV 0; have c1 := row_cell hV 3
  simp only [List.getElem?_toArray, List.getElem?_cons_zero, List.getElem?_cons_succ] at c0 c1
  clear hV hb1 hz
  go_enter Try.func26, Try.ntmps26
  go_wp2_with fail
  clear hw1
  go_region_held3 (fun w' => w'.cell? ⟨g, 0, none⟩ = some (.int .i64 3) ∧ w'.cell? ⟨g, 3, none⟩ = some (.string S)) ((refine ⟨?_, ?_⟩ <;> first | assumption | go_keep)) (first
    | (go_at_call 51; refine (HST.out _).mono ?_; rintro e w' ⟨rfl, rfl⟩)
    | (go_at_call 50; refine (HIX.out _ _ ?c0).mono ?_; (case c0 => exact HRW.out); rintro e w' ⟨rfl, rfl⟩))
  go_wp2
  go_ret
  exact ⟨rfl, HB.out⟩
set_option maxRecDepth 100000 in
set_option maxHeartbeats 4000000 in
theorem isname_text (S : ByteArray) (w : World) (h1 : 0 < S.size) (h2 : S.size ≤ 32) : Calls Try.prog 47 #[.agg #[.int .i64 3, .int .i64 0, .float .f64 0, .string S, .slice none 0 0]] w fun e w' => e = .returned (.bool true) ∧ Below w.heap.size w w' := by
  have HB := Lib.hid (bel_alloc (Below.refl w.heap.size w) (.cells #[.int .i64 3, .int .i64 0, .float .f64 0, .string S, .slice none 0 0] 39))
  have g1 : (0 : Int) < (S.size : Int) := by omega
  have g2 : (S.size : Int) ≤ 32 := by omega
  clear h1 h2
  go_enter Try.func47, Try.ntmps47
  go_wp2
  go_ret
  exact ⟨rfl, HB.out⟩
set_option maxRecDepth 100000 in
set_option maxHeartbeats 4000000 in
theorem text_gp (S : ByteArray) (w : World) : Calls Try.prog 52 #[.string S] w fun e w' => e = .returned (txA S) ∧ Below w.heap.size w w' := by
  obtain ⟨g, hg⟩ : ∃ g, w.heap.size = g := ⟨_, rfl⟩
  obtain ⟨w1, hw1⟩ : ∃ W, w.alloc (.cells #[.int .i64 0, .int .i64 0, .float .f64 0, .string ⟨#[]⟩, .slice none 0 0] 39) = W := ⟨_, rfl⟩
  have hV : w1.heap[g]? = some (.cells #[.int .i64 0, .int .i64 0, .float .f64 0, .string ⟨#[]⟩, .slice none 0 0] 39 (0, 0)) := by rw [← hw1, ← hg]; exact row_alloc w _ _
  have HB := Lib.hid (show Below g w w1 by rw [← hw1, ← hg]; exact bel_alloc (Below.refl _ _) _)
  have c0 := row_cell hV 0; have c1 := row_cell hV 1; have c2 := row_cell hV 2; have c3 := row_cell hV 3; have c4 := row_cell hV 4
  simp only [List.getElem?_toArray, List.getElem?_cons_zero, List.getElem?_cons_succ] at c0 c1 c2 c3 c4
  have cf := fun o => row_frz hV o
  clear hV
  go_enter Try.func52, Try.ntmps52
  go_wp2
  refine bodyPost_ret (v := txA S) (by simp [results, Try.results52, go_sem, World.cell?_setCell_same, World.cell?_setCell_other, c0, c1, c2, c3, c4]) rfl ⟨rfl, ?_⟩
  rw [hg]
  exact ((((HB.out.setCell (p := ⟨g, 0, none⟩) (Nat.le_refl _) _).setCell (p := ⟨g, 1, none⟩) (Nat.le_refl _) _).setCell (p := ⟨g, 2, none⟩) (Nat.le_refl _) _).setCell (p := ⟨g, 3, none⟩) (Nat.le_refl _) _).setCell (p := ⟨g, 4, none⟩) (Nat.le_refl _) _
theorem chk_text (S : ByteArray) (w : World) (h2 : S.size ≤ 256) : Calls Try.prog 23 #[.agg #[.int .i64 3, .int .i64 0, .float .f64 0, .string S, .slice none 0 0]] w fun e w' => e = .returned (.int .i64 0) ∧ Below w.heap.size w w' := by
  have hr : Rep w 1 (txA S) ((3, 0, 0, S, []) : VT 1) := ⟨none, 0, 0, rfl, (show okI 3 by decide), (show okI 0 by decide), (show (0 : Nat) < 2 ^ 64 by decide), (show S.size ≤ maxLen by unfold maxLen; omega), rfl, Nat.le_refl _, Nat.zero_le _, fun h => absurd h (Nat.lt_irrefl _)⟩
  have h := check_any 1 3 0 0 S none 0 0 ((3, 0, 0, S, []) : VT 1) w hr rfl (by show (1 : Nat) ≤ 1000; decide)
  have e1 : decide (256 < (S.size : Int)) = false := by rw [decide_eq_false_iff_not]; omega
  have e2 : wrap64 (3 + (S.size : Int)) = 3 + (S.size : Int) := by unfold wrap64; omega
  have e3 : decide (4096 < 3 + (S.size : Int)) = false := by rw [decide_eq_false_iff_not]; omega
  have e : checkM (measT 1 ((3, 0, 0, S, []) : VT 1)) = 0 := by
    rw [measT_text rfl rfl rfl, e1, e2]
    unfold checkM
    show (if false = true then (31 : Int) else if (false || decide (8 < (0 : Int)) || decide (4096 < 3 + (S.size : Int))) = true then 22 else 0) = 0
    rw [e3]
    rfl
  rw [e] at h
  exact h
end Num
end Go.Proofs.Ytbfnghbfilahnaa
