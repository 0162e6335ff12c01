/-
  Texts of numbers: package value's and the reference's.
-/
import Derived.Test.YtahcgdjcjapnkaaGreatDoorVTa
import Derived.Test.YtahcgdjcjapnkaaGreatDoorVKn
namespace Go.Proofs.YtahcgdjcjapnkaaGreatDoor
open Go.RowKit
namespace Num
open Ints
set_option linter.unusedSimpArgs false
set_option linter.unusedVariables false
theorem bel_grow (w : World) (k : Nat) (os : Array Obj) : Below w.heap.size w (Sort.grow (w.drewN k) os) :=
  ⟨rfl, rfl, rfl, by show w.heap.size ≤ (w.heap ++ os).size; rw [Array.size_append]; omega, fun i hi => by
    show (w.heap ++ os)[i]? = w.heap[i]?
    rw [Array.getElem?_append_left hi]⟩
def itoaS (n : Int) : ByteArray := ⟨(Lib.itoa n).toArray⟩
theorem itoa_str (n : Int) : strOfI ((Lib.itoa n).map fun b => (b.toNat : Int)) = itoaS n := by
  unfold strOfI itoaS
  rw [List.map_map]
  have e : ((fun c : Int => UInt8.ofNat c.toNat) ∘ fun b : UInt8 => (b.toNat : Int)) = id := by
    funext b; simp
  rw [e, List.map_id]
theorem byteCells_ints (l : List UInt8) : Lib.byteCells l = (l.map fun b => (b.toNat : Int)).map (Value.int .u8) := by
  unfold Lib.byteCells
  rw [List.map_map]
  rfl
set_option maxRecDepth 100000 in
set_option maxHeartbeats 4000000 in
/-- An Int's text. -/
theorem text_int (w : World) (n : Int) (h0 : -9223372036854775808 ≤ n) (h1 : n ≤ 9223372036854775807) (ht : Tabs w) :
    Calls Tryz.prog 11 #[.agg #[.int .i64 1, .int .i64 n, .float .f64 0, .string ⟨#[]⟩, .slice none 0 0]] w fun e w' => e = .returned (.string (itoaS n)) ∧ Below w.heap.size w w' := by
  obtain ⟨o, ho⟩ : ∃ o, o = Obj.cells #[.int .i64 1, .int .i64 n, .float .f64 0, .string ⟨#[]⟩, .slice none 0 0] 26 := ⟨_, rfl⟩
  have hb : Below w.heap.size w (w.alloc o) := (Below.refl _ _).alloc (Nat.le_refl _) _
  have HB := Lib.hid hb
  have HT := Lib.hid (tabs_keep ht hb)
  have HX := Lib.hid (row_alloc w #[.int .i64 1, .int .i64 n, .float .f64 0, .string ⟨#[]⟩, .slice none 0 0] 26)
  have HW := Lib.hid (walkable_any 1 1 n 0 ⟨#[]⟩ none 0 0 (1, n, 0, ⟨#[]⟩, []) (w.alloc o) (rep_leaf _ 1 n 0 ⟨#[]⟩ (by decide) ⟨h0, h1⟩ (by decide) (by decide)) (deepT_not (by decide)) (by rw [partsT_else (by decide)]; decide))
  rw [show walkM (measT 1 (1, n, 0, ⟨#[]⟩, [])) = true by rw [measT_num (by decide) (by decide)]; decide] at HW
  have HC := Lib.hid (fun w' (h : Tabs w') => at_int w' w' (.slice none 0 0) 0 [] n 0 ⟨#[]⟩ none 0 0 h0 h1 (World.ownsRow_nil _ _ _ _) (Below.refl _ _) (Nat.le_refl _) (by decide) h.2.2.1)
  subst ho
  clear ht hb h0 h1
  go_enter Tryz.func11, Tryz.ntmps11
  go_wp2_with fail
  go_at_call 19; refine HW.out.mono ?_; rintro e' w1 ⟨rfl, hb1⟩
  have HB1 := Lib.hid (bel_step HB.out hb1)
  have HT1 := Lib.hid (tabs_keep HT.out hb1)
  have rx := row_step HX.out hb1
  have c0 := row_cell rx 0; have c1 := row_cell rx 1; have c2 := row_cell rx 2; have c3 := row_cell rx 3; have c4 := row_cell rx 4
  simp only [List.getElem?_toArray, List.getElem?_cons_zero, List.getElem?_cons_succ] at c0 c1 c2 c3 c4
  clear rx hb1
  go_wp2_with fail
  go_at_call 20; refine (HC.out w1 HT1.out).mono ?_; rintro e' w2 ⟨v', rfl, ho2, hb2, _⟩
  have HB2 := Lib.hid (bel_step HB1.out hb2)
  have hcv := str_of_own (xs := (Lib.itoa n).map fun b => (b.toNat : Int)) (v := v') (w := w2) (base := w1.heap.size) (by
    rw [List.length_map, ← byteCells_ints]
    have h := ho2
    rw [Nat.zero_add, List.nil_append] at h
    exact h)
  rw [itoa_str] at hcv
  clear ho2 hb2
  go_wp2
  go_ret
  exact ⟨rfl, HB2.out⟩
set_option maxRecDepth 100000 in
set_option maxHeartbeats 4000000 in
theorem show_int (w : World) (n : Int) (h0 : -9223372036854775808 ≤ n) (h1 : n ≤ 9223372036854775807) (ht : Tabs w) :
    Calls Tryz.prog 14 #[.agg #[.int .i64 1, .int .i64 n, .float .f64 0, .string ⟨#[]⟩, .slice none 0 0]] w fun e w' => e = .returned (.string (itoaS n)) ∧ Below w.heap.size w w' := by
  obtain ⟨o, ho⟩ : ∃ o, o = Obj.cells #[.int .i64 1, .int .i64 n, .float .f64 0, .string ⟨#[]⟩, .slice none 0 0] 26 := ⟨_, rfl⟩
  have hb : Below w.heap.size w (w.alloc o) := (Below.refl _ _).alloc (Nat.le_refl _) _
  have HB := Lib.hid hb
  have HC := Lib.hid (Tryz.strconv_FormatInt_10 n h0 h1 (w.alloc o) (tabs_keep ht hb).2.2.1)
  subst ho
  clear ht hb h0 h1
  go_enter Tryz.func14, Tryz.ntmps14
  go_wp2_with fail
  go_at_call 21; refine HC.out.mono ?_; rintro e' w1 ⟨rfl, k, os, rfl⟩
  have HB1 := Lib.hid (bel_step HB.out (bel_grow _ k os))
  go_wp2
  go_ret
  exact ⟨rfl, HB1.out⟩
/-- Is a byte a digit or a minus? -/
def plainB (c : Int) : Bool := (decide (48 ≤ c) && decide (c ≤ 57)) || c == 45
def plainS (s : ByteArray) (k : Nat) : Bool := (s.data.toList.take k).all fun b => plainB (b.toNat : Int)
theorem plainS_snoc (s : ByteArray) (k : Nat) (h : k < s.size) : plainS s (k + 1) = (plainS s k && plainB (s[k].toNat : Int)) := by
  have hl : k < s.data.toList.length := by rw [Array.length_toList]; exact h
  unfold plainS
  rw [List.take_succ_eq_append_getElem hl, List.all_append]
  rw [List.all_cons, List.all_nil, Bool.and_true]
  rfl
def showS (s : ByteArray) : ByteArray := if plainS s s.size = true then s ++ ⟨#[46, 48]⟩ else s
theorem plain_iff (x : Nat) : plainS (strOfI (ffmt x)) (strOfI (ffmt x)).size = true ↔ Pln (ffmt x) := by
  have hasc := (ffmt_asc x).1
  unfold plainS
  rw [List.take_of_length_le (by rw [Array.length_toList]; exact Nat.le_refl _), strOfI_list, List.all_map, List.all_eq_true]
  constructor
  · intro h c hc
    have h1 := h c hc
    have h2 := hasc c hc
    simp only [Function.comp, plainB, UInt8.toNat_ofNat', Bool.or_eq_true, Bool.and_eq_true, decide_eq_true_eq, beq_iff_eq] at h1
    unfold PlainC
    omega
  · intro h c hc
    have h1 := h c hc
    have h2 := hasc c hc
    unfold PlainC at h1
    simp only [Function.comp, plainB, UInt8.toNat_ofNat', Bool.or_eq_true, Bool.and_eq_true, decide_eq_true_eq, beq_iff_eq]
    omega
/-- The reference's text is package value's. -/
theorem show_fts (x : Nat) : showS (strOfI (ffmt x)) = ftS x := by
  unfold showS ftS
  by_cases h1 : x % 9223372036854775808 < 9218868437227405312
  · have hn : nanB x = false := by rw [nanB_of, feq_numT x (by omega)]; rfl
    rw [hn, inf_fin x h1, Bool.or_self, Bool.false_or]
    have hg := (ffmt_fin x h1).2.2
    by_cases hd : dotE x = true
    · rw [if_pos hd, if_neg]
      rw [plain_iff]
      intro hp
      rcases (dotE_iff x).1 hd with h | h
      · have := hp _ h; unfold PlainC at this; omega
      · have := hp _ h; unfold PlainC at this; omega
    · rw [if_neg hd, if_pos]
      rw [plain_iff]
      rcases hg with h | h | h
      · exact absurd ((dotE_iff x).2 (Or.inl h)) hd
      · exact absurd ((dotE_iff x).2 (Or.inr h)) hd
      · exact h
  · have hnp : ¬ Pln (ffmt x) := by
      by_cases h2 : x % 9223372036854775808 = 9218868437227405312
      · rcases ffmt_inf x h2 with h | h <;> rw [h] <;> intro hp <;> have := hp 73 (by simp) <;> unfold PlainC at this <;> omega
      · rw [ffmt_nan x (by omega)]; intro hp; have := hp 78 (by simp); unfold PlainC at this; omega
    rw [if_neg (fun h => hnp ((plain_iff x).1 h))]
    have hor : (nanB x || isInfB x || dotE x) = true := by
      by_cases h2 : x % 9223372036854775808 = 9218868437227405312
      · rw [inf_inf x h2]; simp
      · rw [nanB_of, feq_notT x (by omega)]; simp
    rw [if_pos hor]
end Num
end Go.Proofs.YtahcgdjcjapnkaaGreatDoor
