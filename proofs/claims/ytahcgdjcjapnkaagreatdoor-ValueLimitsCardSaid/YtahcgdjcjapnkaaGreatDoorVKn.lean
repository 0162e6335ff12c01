/-
  Text of the two values that every statement of the layer asks first.
-/
import Derived.Test.YtahcgdjcjapnkaaGreatDoorVKt
import Derived.Test.YtahcgdjcjapnkaaGreatDoorVWalk
namespace Go.Proofs.YtahcgdjcjapnkaaGreatDoor
open Go.RowKit
namespace Num
open Ints
set_option linter.unusedSimpArgs false
set_option linter.unusedVariables false
def kl : VT 2 := (4, 0, 0, ⟨#[]⟩, [(1, 1, 0, ⟨#[]⟩, []), (2, 0, 4602678819172646912, ⟨#[]⟩, []), (3, 0, 0, ⟨#[97]⟩, [])])
def klV (lb : Nat) : Value := .agg #[.int .i64 4, .int .i64 0, .float .f64 0, .string ⟨#[]⟩, .slice (some ⟨lb, 0, none⟩) 3 3]
theorem repL_nil {α : Type} (w : World) (R : Value → α → Prop) : RepL w R none 0 0 [] := ⟨rfl, Nat.le_refl _, Nat.zero_le _, fun h => absurd h (Nat.lt_irrefl _)⟩
theorem rep_leaf (w : World) (K I : Int) (x : Nat) (s : ByteArray) (hK : okI K) (hI : okI I) (hx : x < 2 ^ 64) (hs : s.size ≤ maxLen) : Rep w 1 (.agg #[.int .i64 K, .int .i64 I, .float .f64 x, .string s, .slice none 0 0]) (K, I, x, s, []) :=
  ⟨none, 0, 0, rfl, hK, hI, hx, hs, repL_nil _ _⟩
theorem rep_known {w : World} {lb : Nat} (hr : w.heap[lb]? = some (.cells knownRow 26 (0, 0))) : Rep w 2 (klV lb) kl := by
  refine ⟨some ⟨lb, 0, none⟩, 3, 3, rfl, by decide, by decide, by decide, by decide, rfl, Nat.le_refl _, by decide, fun _ => ⟨lb, 0, rfl, fun i hi => ?_⟩⟩
  have h3 : i < 3 := hi
  have c := row_cell hr
  match i, h3 with
  | 0, _ => exact ⟨_, _, _, _, _, c 0, c 1, c 2, c 3, c 4, rep_leaf w 1 1 0 ⟨#[]⟩ (by decide) (by decide) (by decide) (by decide)⟩
  | 1, _ => exact ⟨_, _, _, _, _, c 5, c 6, c 7, c 8, c 9, rep_leaf w 2 0 4602678819172646912 ⟨#[]⟩ (by decide) (by decide) (by decide) (by decide)⟩
  | 2, _ => exact ⟨_, _, _, _, _, c 10, c 11, c 12, c 13, c 14, rep_leaf w 3 0 0 ⟨#[97]⟩ (by decide) (by decide) (by decide) (by decide)⟩
theorem nil_buf (W0 : World) (h0 : 0 < W0.heap.size) : Bu W0 W0 (.slice none 0 0) [] 0 [] 0 := ⟨World.ownsRow_nil _ _ _ _, Below.refl _ _, Nat.le_refl _, by simp [Value.ownBlock], fun i hi => absurd hi (Nat.not_lt_zero i), Nat.le_refl _⟩
theorem str_back (s : ByteArray) : strOfI (strI s) = s := by
  unfold strOfI strI
  rw [List.map_map]
  have : ((fun c : Int => UInt8.ofNat c.toNat) ∘ fun b : UInt8 => (b.toNat : Int)) = id := by
    funext b
    simp
  rw [this, List.map_id]
/-- All tables that the texts want. -/
def Tabs (w : World) : Prop := 0 < w.heap.size ∧ PowTab w ∧ TenT w ∧ PrT w ∧ U8T w
theorem tabs_keep {w w' : World} (h : Tabs w) (hb : Below w.heap.size w w') : Tabs w' :=
  ⟨Nat.lt_of_lt_of_le h.1 hb.size, powTab_keep h.2.1 hb, Lib.tabBelow_of_tabIs h.2.2.1 _ hb, printTabs_below h.2.2.2.1 hb, Utf8Tabs_below h.2.2.2.2 hb⟩
set_option maxRecDepth 100000 in
set_option maxHeartbeats 4000000 in
theorem at_known (w : World) (lb : Nat) (hr : w.heap[lb]? = some (.cells knownRow 26 (0, 0))) (ht : Tabs w) :
    Calls Tryz.prog 20 #[.slice none 0 0, .agg #[.int .i64 4, .int .i64 0, .float .f64 0, .string ⟨#[]⟩, .slice (some ⟨lb, 0, none⟩) 3 3]] w fun e w' => ∃ v' base, e = .returned v' ∧ w'.ownsRowF base 5 1 v' 13 ([91, 49, 44, 32, 48, 46, 53, 44, 32, 34, 97, 34, 93].map (Value.int .u8)) ∧ Below w.heap.size w w' := by
  obtain ⟨o, ho⟩ : ∃ o, o = Obj.cells #[.int .i64 4, .int .i64 0, .float .f64 0, .string ⟨#[]⟩, .slice (some ⟨lb, 0, none⟩) 3 3] 26 := ⟨_, rfl⟩
  have hb : Below w.heap.size w (w.alloc o) := (Below.refl _ _).alloc (Nat.le_refl _) _
  have ht' := tabs_keep ht hb
  have HC := Lib.hid (al_known_at (w.alloc o) _ (nil_buf _ ht'.1) lb (row_alloc_step hr o) ht'.1 ht'.2.1 ht'.2.2.1 ht'.2.2.2.1 ht'.2.2.2.2)
  have HB := Lib.hid hb
  subst ho
  clear ht ht' hr hb
  go_enter Tryz.func20, Tryz.ntmps20
  go_wp2_with fail
  go_at_call 32; refine HC.out.mono ?_; rintro e' w1 ⟨v', rfl, hb1⟩
  go_wp2
  go_ret
  exact ⟨_, _, rfl, hb1.1, bel_step HB.out hb1.2.1⟩
def knownS : ByteArray := ⟨#[91, 49, 44, 32, 48, 46, 53, 44, 32, 34, 97, 34, 93]⟩
set_option maxRecDepth 100000 in
set_option maxHeartbeats 4000000 in
theorem text_known (w : World) (lb : Nat) (hr : w.heap[lb]? = some (.cells knownRow 26 (0, 0))) (ht : Tabs w) :
    Calls Tryz.prog 11 #[.agg #[.int .i64 4, .int .i64 0, .float .f64 0, .string ⟨#[]⟩, .slice (some ⟨lb, 0, none⟩) 3 3]] w fun e w' => e = .returned (.string knownS) ∧ Below w.heap.size w w' := by
  obtain ⟨o, ho⟩ : ∃ o, o = Obj.cells #[.int .i64 4, .int .i64 0, .float .f64 0, .string ⟨#[]⟩, .slice (some ⟨lb, 0, none⟩) 3 3] 26 := ⟨_, rfl⟩
  have hb : Below w.heap.size w (w.alloc o) := (Below.refl _ _).alloc (Nat.le_refl _) _
  have HB := Lib.hid hb
  have HR := Lib.hid (row_alloc_step hr o)
  have HT := Lib.hid (tabs_keep ht hb)
  have HX := Lib.hid (row_alloc w #[.int .i64 4, .int .i64 0, .float .f64 0, .string ⟨#[]⟩, .slice (some ⟨lb, 0, none⟩) 3 3] 26)
  have HW := Lib.hid (walkable_any 2 4 0 0 ⟨#[]⟩ (some ⟨lb, 0, none⟩) 3 3 kl (w.alloc o) (rep_known HR.out) (by decide) (by decide))
  rw [show walkM (measT 2 kl) = true by decide +kernel] at HW
  subst ho
  clear ht hr hb
  go_enter Tryz.func11, Tryz.ntmps11
  go_wp2_with fail
  go_at_call 19; refine HW.out.mono ?_; rintro e' w1 ⟨rfl, hb1⟩
  have HB1 := Lib.hid (bel_step HB.out hb1)
  have HR1 := Lib.hid (row_step HR.out hb1)
  have HT1 := Lib.hid (tabs_keep HT.out hb1)
  have rx := row_step HX.out hb1
  have c0 := row_cell rx 0; have c1 := row_cell rx 1; have c2 := row_cell rx 2; have c3 := row_cell rx 3; have c4 := row_cell rx 4
  simp only [List.getElem?_toArray, List.getElem?_cons_zero, List.getElem?_cons_succ] at c0 c1 c2 c3 c4
  clear rx hb1
  go_wp2_with fail
  go_at_call 20; refine (at_known w1 lb HR1.out HT1.out).mono ?_; rintro e' w2 ⟨v', base, rfl, ho2, hb2⟩
  have hcv := str_of_ownF ho2
  go_wp2
  go_ret
  exact ⟨rfl, bel_step HB1.out hb2⟩
set_option maxRecDepth 100000 in
set_option maxHeartbeats 4000000 in
/-- A float's text. -/
theorem text_flo (w : World) (x : Nat) (hx : x < 18446744073709551616) (has : Ascii x) (hsz : (ftS x).size ≤ 100000) (ht : Tabs w) :
    Calls Tryz.prog 11 #[.agg #[.int .i64 2, .int .i64 0, .float .f64 x, .string ⟨#[]⟩, .slice none 0 0]] w fun e w' => e = .returned (.string (ftS x)) ∧ Below w.heap.size w w' := by
  obtain ⟨o, ho⟩ : ∃ o, o = Obj.cells #[.int .i64 2, .int .i64 0, .float .f64 x, .string ⟨#[]⟩, .slice none 0 0] 26 := ⟨_, rfl⟩
  have hb : Below w.heap.size w (w.alloc o) := (Below.refl _ _).alloc (Nat.le_refl _) _
  have HB := Lib.hid hb
  have HT := Lib.hid (tabs_keep ht hb)
  have HX := Lib.hid (row_alloc w #[.int .i64 2, .int .i64 0, .float .f64 x, .string ⟨#[]⟩, .slice none 0 0] 26)
  have HW := Lib.hid (walkable_any 1 2 0 x ⟨#[]⟩ none 0 0 (2, 0, x, ⟨#[]⟩, []) (w.alloc o) (rep_leaf _ 2 0 x ⟨#[]⟩ (by decide) (by decide) hx (by decide)) (deepT_not (by decide)) (by rw [partsT_else (by decide)]; decide))
  rw [show walkM (measT 1 (2, 0, x, ⟨#[]⟩, [])) = true by rw [measT_num (by decide) (by decide)]; decide] at HW
  have HXX := Lib.hid (And.intro hx (And.intro has hsz))
  subst ho
  clear ht hb hx has hsz
  go_enter Tryz.func11, Tryz.ntmps11
  go_wp2_with fail
  go_at_call 19; refine HW.out.mono ?_; rintro e' w1 ⟨rfl, hb1⟩
  have HB1 := Lib.hid (bel_step HB.out hb1)
  have HT1 := Lib.hid (tabs_keep HT.out hb1)
  have rx := row_step HX.out hb1
  have c0 := row_cell rx 0; have c1 := row_cell rx 1; have c2 := row_cell rx 2; have c3 := row_cell rx 3; have c4 := row_cell rx 4
  simp only [List.getElem?_toArray, List.getElem?_cons_zero, List.getElem?_cons_succ] at c0 c1 c2 c3 c4
  clear rx hb1
  go_wp2_with fail
  go_at_call 20; refine (at_flo w1 w1 (.slice none 0 0) 0 [] 0 x ⟨#[]⟩ none 0 0 HXX.out.1 HXX.out.2.1 ⟨World.ownsRowF_nil _ _ _ _, Below.refl _ _, Nat.le_refl _⟩ HT1.out.1 (by decide) HXX.out.2.2 HT1.out.2.1 HT1.out.2.2.1).mono ?_; rintro e' w2 ⟨v', rfl, ho2⟩
  have hcv := str_of_ownF (xs := strI (ftS x)) (n := 0 + (ftS x).size) (by rw [← strCells_eq]; exact ho2.1)
  rw [str_back] at hcv
  go_wp2
  go_ret
  exact ⟨rfl, bel_step HB1.out ho2.2.1⟩
end Num
end Go.Proofs.YtahcgdjcjapnkaaGreatDoor
