/-
  ArgsSteps: the walk.
-/
import Derived.Test.YthmgmfmecfmeeaaHJ
import Derived.Test.YthmgmfmecfmeeaaHM
import Derived.Deep.RegionHeld3
namespace Go.Proofs.Ythmgmfmecfmeeaa
open Go.RowKit
namespace Num
open Ints
set_option linter.unusedSimpArgs false
set_option linter.unusedVariables false
def stepF (e : Nat) : List Leaf := (3, 0, { data := #[103] }) :: (3, 0, { data := #[109] }) :: (List.range e).map fun j : Nat => ((1, (j : Int), ⟨#[]⟩) : Leaf)
theorem stepF_succ (e : Nat) : stepF (e + 1) = stepF e ++ [(1, (e : Int), ⟨#[]⟩)] := by
  unfold stepF
  rw [List.range_succ, List.map_append]
  rfl
theorem stepF_len (e : Nat) : (stepF e).length = e + 2 := by unfold stepF; simp
theorem good_steps (e : Nat) (he : e ≤ 100) : GoodF (stepF e) := fun x hx => by
  unfold stepF at hx
  rcases List.mem_cons.1 hx with rfl | hx
  · exact ⟨by unfold okI; constructor <;> decide, ok0, by unfold maxLen; decide⟩
  · rcases List.mem_cons.1 hx with rfl | hx
    · exact ⟨by unfold okI; constructor <;> decide, ok0, by unfold maxLen; decide⟩
    · obtain ⟨j, hj, rfl⟩ := List.mem_map.1 hx
      rw [List.mem_range] at hj
      exact ⟨ok1, (show okI (j : Int) by unfold okI; constructor <;> omega), (show (⟨#[]⟩ : ByteArray).size ≤ maxLen by unfold maxLen; decide)⟩
def stepT (e : Nat) : VT 2 := listT (stepF e)
theorem row_set4 {w : World} {b : Nat} {x0 x1 x2 x3 x4 : Value} {t : TypeId} (h : w.heap[b]? = some (.cells #[x0, x1, x2, x3, x4] t (0, 0))) (v : Value) : (w.setCell ⟨b, 4, none⟩ v).heap[b]? = some (.cells #[x0, x1, x2, x3, v] t (0, 0)) := by
  simp [World.setCell, Array.getElem?_modify, h]
theorem chk_all0 (n : Nat) : ∀ L : List (VT (n + 1)), (∀ T ∈ L, checkM (measT (n + 1) T) = 0) → chkL n L = 0
  | [], _ => rfl
  | T :: r, h => by
    unfold chkL
    rw [if_pos (h T (List.mem_cons_self ..))]
    exact chk_all0 n r (fun T hT => h T (List.mem_cons_of_mem _ hT))
theorem kat_s (j : Nat) : kAt { data := #[115] } j = 4 := by
  unfold kAt
  rw [show min j ((⟨#[115]⟩ : ByteArray).size - 1) = 0 from Nat.min_eq_right (Nat.zero_le _)]
  decide +kernel
theorem hld_all (n : Nat) : ∀ (L : List (VT (n + 1))) (j : Nat), hldL { data := #[115] } n j L = L.all (stT n)
  | [], _ => rfl
  | T :: r, j => by
    unfold hldL
    rw [kat_s, hld_all n r (j + 1), List.all_cons]
    rfl
theorem find_run : findM { data := #[114, 117, 110] } (metas { data := #[111, 114, 99, 104] }) = some ({ data := #[114, 117, 110] }, true, { data := #[115] }) := by decide +kernel
theorem chk_run (L : List (VT 2)) (h0 : ∀ T ∈ L, checkM (measT 2 T) = 0) : chkA { data := #[111, 114, 99, 104] } { data := #[114, 117, 110] } 1 L = if (decide (1 ≤ L.length) && decide (L.length ≤ 8)) = true then (if L.all (stT 1) = true then 0 else 31) else 31 := by
  unfold chkA
  rw [find_run]
  show (if (decide ((⟨#[115]⟩ : ByteArray).size ≤ L.length) && decide ((L.length : Int) ≤ ((⟨#[115]⟩ : ByteArray).size : Int) + moreOf ⟨#[115]⟩)) = true then _ else _) = _
  rw [show (⟨#[115]⟩ : ByteArray).size = 1 from rfl, show moreOf ⟨#[115]⟩ = 7 by decide +kernel, chk_all0 1 L h0, hld_all 1 L 0]
  rw [show decide ((L.length : Int) ≤ ((1 : Nat) : Int) + 7) = decide (L.length ≤ 8) by by_cases h : L.length ≤ 8 <;> simp <;> omega]
  rfl
/-- What is asked of a tree here. -/
def Easy (T : VT 2) : Prop := checkM (measT 2 T) = 0 ∧ deepT 2 T 64 = false ∧ partsT 2 T ≤ 1000
theorem step_easy (x : Nat) (hx : x < 5) : Easy (stepT x) ∧ stT 1 (stepT x) = true := by
  match x, hx with
  | 0, _ => exact ⟨⟨by decide +kernel, by decide +kernel, by decide +kernel⟩, by decide +kernel⟩
  | 1, _ => exact ⟨⟨by decide +kernel, by decide +kernel, by decide +kernel⟩, by decide +kernel⟩
  | 2, _ => exact ⟨⟨by decide +kernel, by decide +kernel, by decide +kernel⟩, by decide +kernel⟩
  | 3, _ => exact ⟨⟨by decide +kernel, by decide +kernel, by decide +kernel⟩, by decide +kernel⟩
  | 4, _ => exact ⟨⟨by decide +kernel, by decide +kernel, by decide +kernel⟩, by decide +kernel⟩
def bad1 : VT 2 := (3, 0, 0, { data := #[103] }, [])
def bad2 : VT 2 := listT [(3, 0, { data := #[103] })]
def bad3 : VT 2 := listT [(3, 0, ⟨#[]⟩), (3, 0, { data := #[109] })]
theorem bad_easy : (Easy bad1 ∧ stT 1 bad1 = false) ∧ (Easy bad2 ∧ stT 1 bad2 = false) ∧ (Easy bad3 ∧ stT 1 bad3 = false) :=
  ⟨⟨⟨by decide +kernel, by decide +kernel, by decide +kernel⟩, by decide +kernel⟩, ⟨⟨by decide +kernel, by decide +kernel, by decide +kernel⟩, by decide +kernel⟩, ⟨⟨by decide +kernel, by decide +kernel, by decide +kernel⟩, by decide +kernel⟩⟩
theorem easy_rep {T : VT 2} (h : Easy T) (i : Nat) : ∀ U ∈ List.replicate i T, Easy U := fun U hU => by rw [List.eq_of_mem_replicate hU]; exact h
theorem easy_set {T U : VT 2} (h : Easy T) (hU : Easy U) (i j : Nat) : ∀ V ∈ (List.replicate i T).set j U, Easy V := fun V hV => by
  rcases List.mem_or_eq_of_mem_set hV with h' | rfl
  · exact easy_rep h i V h'
  · exact hU
theorem all_rep {T : VT 2} (h : stT 1 T = true) (i : Nat) : (List.replicate i T).all (stT 1) = true := List.all_eq_true.2 fun U hU => by rw [List.eq_of_mem_replicate hU]; exact h
theorem all_set {T U : VT 2} (hU : stT 1 U = false) (i j : Nat) (hj : j < i) : ((List.replicate i T).set j U).all (stT 1) = false :=
  List.all_eq_false.2 ⟨U, List.mem_set (by rw [List.length_replicate]; exact hj) U, by rw [hU]; simp⟩
/-- Check of a run, of trees of which so much is asked. -/
theorem check_run (p : Option Addr) (l c : Nat) (L : List (VT 2)) (w : World) (hr : RepL w (Rep w 2) p l c L) (he : ∀ T ∈ L, Easy T) (b a : Bool) (hl : (decide (1 ≤ l) && decide (l ≤ 8)) = b) (ha : L.all (stT 1) = a) :
    Calls Try.prog 20 #[.string { data := #[111, 114, 99, 104] }, .string { data := #[114, 117, 110] }, .slice p l c] w fun e w' => e = .returned (.int .i64 (if (b && a) = true then 0 else 31)) ∧ Below w.heap.size w w' := by
  have h := check_args { data := #[111, 114, 99, 104] } { data := #[114, 117, 110] } 1 p l c L w hr (fun T hT => ⟨(he T hT).2.1, (he T hT).2.2⟩)
  rw [chk_run L (fun T hT => (he T hT).1), hr.1, hl, ha] at h
  cases b <;> cases a <;> exact h
def set5 (w : World) (g o : Nat) (u0 u1 u2 u3 u4 : Value) : World := ((((w.setCell ⟨g, o, none⟩ u0).setCell ⟨g, o + 1, none⟩ u1).setCell ⟨g, o + 2, none⟩ u2).setCell ⟨g, o + 3, none⟩ u3).setCell ⟨g, o + 4, none⟩ u4
theorem set5_other {w : World} {g o b : Nat} {u0 u1 u2 u3 u4 : Value} (h : b ≠ g) : (set5 w g o u0 u1 u2 u3 u4).heap[b]? = w.heap[b]? := by
  unfold set5
  iterate 5 rw [Below.heap_setCell _ _ _ _ (by exact h)]
theorem set5_size (w : World) (g o : Nat) (u0 u1 u2 u3 u4 : Value) : (set5 w g o u0 u1 u2 u3 u4).heap.size = w.heap.size := by
  unfold set5
  simp [World.setCell]
theorem set5_same {w : World} {g o : Nat} {v0 v1 v2 v3 v4 : Value} (u0 u1 u2 u3 u4 : Value) (d0 : w.cell? ⟨g, o, none⟩ = some v0) (d1 : w.cell? ⟨g, o + 1, none⟩ = some v1) (d2 : w.cell? ⟨g, o + 2, none⟩ = some v2) (d3 : w.cell? ⟨g, o + 3, none⟩ = some v3) (d4 : w.cell? ⟨g, o + 4, none⟩ = some v4) :
    (set5 w g o u0 u1 u2 u3 u4).cell? ⟨g, o, none⟩ = some u0 ∧ (set5 w g o u0 u1 u2 u3 u4).cell? ⟨g, o + 1, none⟩ = some u1 ∧ (set5 w g o u0 u1 u2 u3 u4).cell? ⟨g, o + 2, none⟩ = some u2 ∧ (set5 w g o u0 u1 u2 u3 u4).cell? ⟨g, o + 3, none⟩ = some u3 ∧ (set5 w g o u0 u1 u2 u3 u4).cell? ⟨g, o + 4, none⟩ = some u4 := by
  unfold set5
  refine ⟨?_, ?_, ?_, ?_, ?_⟩ <;> simp [World.cell?_setCell_same, World.cell?_setCell_other, d0, d1, d2, d3, d4]
theorem set5_cell {w : World} {g o i : Nat} {u0 u1 u2 u3 u4 : Value} (h : i < o ∨ o + 5 ≤ i) : (set5 w g o u0 u1 u2 u3 u4).cell? ⟨g, i, none⟩ = w.cell? ⟨g, i, none⟩ := by
  unfold set5
  have e0 : (⟨g, i, none⟩ : Addr) ≠ ⟨g, o, none⟩ := fun e => by injection e with _ e; omega
  have e1 : (⟨g, i, none⟩ : Addr) ≠ ⟨g, o + 1, none⟩ := fun e => by injection e with _ e; omega
  have e2 : (⟨g, i, none⟩ : Addr) ≠ ⟨g, o + 2, none⟩ := fun e => by injection e with _ e; omega
  have e3 : (⟨g, i, none⟩ : Addr) ≠ ⟨g, o + 3, none⟩ := fun e => by injection e with _ e; omega
  have e4 : (⟨g, i, none⟩ : Addr) ≠ ⟨g, o + 4, none⟩ := fun e => by injection e with _ e; omega
  have n0 : ¬ i = o := by omega
  have n1 : ¬ i = o + 1 := by omega
  have n2 : ¬ i = o + 2 := by omega
  have n3 : ¬ i = o + 3 := by omega
  have n4 : ¬ i = o + 4 := by omega
  simp [World.cell?_setCell_other, e0, e1, e2, e3, e4, n0, n1, n2, n3, n4]
theorem set5_below {W w : World} {B g o : Nat} (h : Below B W w) (hg : B ≤ g) (u0 u1 u2 u3 u4 : Value) : Below B W (set5 w g o u0 u1 u2 u3 u4) :=
  ((((h.setCell (p := ⟨g, o, none⟩) hg u0).setCell (p := ⟨g, o + 1, none⟩) hg u1).setCell (p := ⟨g, o + 2, none⟩) hg u2).setCell (p := ⟨g, o + 3, none⟩) hg u3).setCell (p := ⟨g, o + 4, none⟩) hg u4
theorem alloc_cell {w : World} {g i : Nat} (h : g < w.heap.size) (ob : Obj) : (w.alloc ob).cell? ⟨g, i, none⟩ = w.cell? ⟨g, i, none⟩ := by
  unfold World.cell?
  rw [Below.heap_alloc w ob g h]
/-- An owned list of values, an item stored over, a block laid behind. -/
theorem stored {W0 wo w7 : World} {g l c : Nat} {L : List (VT 2)} (h : OwL W0 wo 2 (some ⟨g, 0, none⟩) l c L) (hB : Below wo.heap.size wo w7) (j : Nat) (hj : j < l) (hg : g < wo.heap.size) (ob : Obj) (u0 u1 u2 u3 u4 v0 v1 v2 v3 v4 : Value) (T : VT 2)
    (d0 : w7.cell? ⟨g, j * 5, none⟩ = some v0) (d1 : w7.cell? ⟨g, j * 5 + 1, none⟩ = some v1) (d2 : w7.cell? ⟨g, j * 5 + 2, none⟩ = some v2) (d3 : w7.cell? ⟨g, j * 5 + 3, none⟩ = some v3) (d4 : w7.cell? ⟨g, j * 5 + 4, none⟩ = some v4)
    (hT : Rep ((set5 w7 g (j * 5) u0 u1 u2 u3 u4).alloc ob) 2 (.agg #[u0, u1, u2, u3, u4]) T) :
    RepL ((set5 w7 g (j * 5) u0 u1 u2 u3 u4).alloc ob) (Rep ((set5 w7 g (j * 5) u0 u1 u2 u3 u4).alloc ob) 2) (some ⟨g, 0, none⟩) l c (L.set j T) := by
  have hs := hB.size
  have hg7 : g < (set5 w7 g (j * 5) u0 u1 u2 u3 u4).heap.size := by rw [set5_size]; omega
  obtain ⟨s0, s1, s2, s3, s4⟩ := set5_same u0 u1 u2 u3 u4 d0 d1 d2 d3 d4
  refine ol_store h j hj u0 u1 u2 u3 u4 T hT (fun b hb hne => ?_) ((alloc_cell hg7 ob).trans s0) ((alloc_cell hg7 ob).trans s1) ((alloc_cell hg7 ob).trans s2) ((alloc_cell hg7 ob).trans s3) ((alloc_cell hg7 ob).trans s4) (fun o ho => ?_)
  · rw [Below.heap_alloc _ ob b (by rw [set5_size]; omega), set5_other hne]
    exact hB.block b hb
  · rw [alloc_cell hg7 ob, set5_cell ho]
    exact hB.cell (p := ⟨g, o, none⟩) hg
theorem ok3 : okI 3 := by unfold okI; constructor <;> decide
theorem rep_txt (w : World) (s : ByteArray) (n : Nat) (hs : s.size ≤ maxLen) : Rep w (n + 1) (.agg #[.int .i64 3, .int .i64 0, .float .f64 0, .string s, .slice none 0 0]) (3, 0, 0, s, []) :=
  ⟨none, 0, 0, rfl, ok3, ok0, (show (0 : Nat) < 2 ^ 64 by decide), hs, rfl, Nat.le_refl _, Nat.zero_le _, fun h => absurd h (Nat.lt_irrefl _)⟩
theorem rep_l1 {w : World} {b : Nat} {t : TypeId} (h : w.heap[b]? = some (.cells #[.int .i64 3, .int .i64 0, .float .f64 0, .string { data := #[103] }, .slice none 0 0] t (0, 0))) : Rep w 2 (.agg #[.int .i64 4, .int .i64 0, .float .f64 0, .string ⟨#[]⟩, .slice (some ⟨b, 0, none⟩) 1 1]) bad2 := by
  refine ⟨some ⟨b, 0, none⟩, 1, 1, rfl, ok4, ok0, (show (0 : Nat) < 2 ^ 64 by decide), (show (⟨#[]⟩ : ByteArray).size ≤ maxLen by unfold maxLen; decide), rfl, Nat.le_refl _, by unfold maxLen; decide, fun _ => ⟨b, 0, rfl, fun i hi => ?_⟩⟩
  match i, hi with
  | 0, _ => exact ⟨_, _, _, _, _, row_cell h _, row_cell h _, row_cell h _, row_cell h _, row_cell h _, rep_txt w _ 0 (by unfold maxLen; decide)⟩
theorem rep_l2 {w : World} {b : Nat} {t : TypeId} (h : w.heap[b]? = some (.cells #[.int .i64 3, .int .i64 0, .float .f64 0, .string ⟨#[]⟩, .slice none 0 0, .int .i64 3, .int .i64 0, .float .f64 0, .string { data := #[109] }, .slice none 0 0] t (0, 0))) : Rep w 2 (.agg #[.int .i64 4, .int .i64 0, .float .f64 0, .string ⟨#[]⟩, .slice (some ⟨b, 0, none⟩) 2 2]) bad3 := by
  refine ⟨some ⟨b, 0, none⟩, 2, 2, rfl, ok4, ok0, (show (0 : Nat) < 2 ^ 64 by decide), (show (⟨#[]⟩ : ByteArray).size ≤ maxLen by unfold maxLen; decide), rfl, Nat.le_refl _, by unfold maxLen; decide, fun _ => ⟨b, 0, rfl, fun i hi => ?_⟩⟩
  match i, hi with
  | 0, _ => exact ⟨_, _, _, _, _, row_cell h _, row_cell h _, row_cell h _, row_cell h _, row_cell h _, rep_txt w _ 0 (by unfold maxLen; decide)⟩
  | 1, _ => exact ⟨_, _, _, _, _, row_cell h _, row_cell h _, row_cell h _, row_cell h _, row_cell h _, rep_txt w _ 0 (by unfold maxLen; decide)⟩
set_option maxRecDepth 100000 in
set_option maxHeartbeats 3000000 in
theorem steps_in (nk bd ex : Nat) (w : World) (hnk : nk < 256) (hbd : bd < 256) (hex : ex < 256) : Calls Try.prog 6 #[.int .u8 nk, .int .u8 bd, .int .u8 ex] w fun e w' => e = .returned (.bool true) ∧ Below w.heap.size w w' := by
  obtain ⟨k, hk⟩ : ∃ k, nk % 12 = k := ⟨_, rfl⟩
  obtain ⟨x, hx⟩ : ∃ x, ex % 5 = x := ⟨_, rfl⟩
  have hk12 : k < 12 := by omega
  have hx5 : x < 5 := by omega
  have k1 : ((nk : Int) % 12) = (k : Int) := by omega
  have k2 : (nk : Int).tmod 12 = (k : Int) := by rw [Int.tmod_eq_emod_of_nonneg (by omega)]; omega
  have x1 : ((ex : Int) % 5) = (x : Int) := by omega
  have x2 : (ex : Int).tmod 5 = (x : Int) := by rw [Int.tmod_eq_emod_of_nonneg (by omega)]; omega
  clear hk hx hnk hex
  go_enter Try.func6, Try.ntmps6
  go_wp2_with fail
  go_at_call 7; refine (known7 _).mono ?_; rintro e w1 ⟨rfl, hb1⟩
  have HB1 := Lib.hid hb1
  have HZ := Lib.hid (ol_nil w1 w1 2 (Below.refl _ _) (Nat.le_refl _))
  clear hb1
  go_wp2
  go_loopw [8, 9] (fun lv iv wr => ∃ (i : Nat) (p : Option Addr) (c : Nat), i ≤ k ∧ iv = .int .i64 i ∧ lv = .slice p i c ∧ OwL w1 wr 2 p i c (List.replicate i (stepT x))) (fun _ iv _ => k - (intOf iv).toNat)
  case atStart => exact ⟨0, none, 0, by omega, rfl, rfl, HZ.out⟩
  case round =>
    obtain ⟨i, p, c, hi0, rfl, rfl, hO⟩ := hrel
    obtain ⟨wo, rfl⟩ : ∃ wo, wo = wr := ⟨_, rfl⟩
    have HO := Lib.hid hO
    clear hO HZ
    by_cases hlt : i < k
    · have hlt' : (i : Int) < (k : Int) := by omega
      go_wp2_with fail
      go_at_call 23; refine (text_ref_any _ _).mono ?_; rintro e w2 ⟨rfl, hb2⟩
      have HB2 := Lib.hid hb2
      clear hb2
      go_wp2_with fail
      go_at_call 23; refine (text_ref_any _ _).mono ?_; rintro e w3 ⟨rfl, hb3⟩
      have HB3 := Lib.hid (bel_step HB2.out hb3)
      have HF3 := Lib.hid (of_lit wo w3 (stepF 0) #[.int .i64 3, .int .i64 0, .float .f64 0, .string { data := #[103] }, .slice none 0 0, .int .i64 3, .int .i64 0, .float .f64 0, .string { data := #[109] }, .slice none 0 0] rfl (by decide) HB3.out.size)
      have HA3 := Lib.hid (bel_alloc HB3.out (.cells #[.int .i64 3, .int .i64 0, .float .f64 0, .string { data := #[103] }, .slice none 0 0, .int .i64 3, .int .i64 0, .float .f64 0, .string { data := #[109] }, .slice none 0 0] 29))
      clear hb3 HB2
      go_wp2_with fail
      go_at_call 25; refine (list_ref_any _ _ _ _).mono ?_; rintro e w4 ⟨rfl, hb4⟩
      have HB4 := Lib.hid (bel_step HA3.out hb4)
      have HF4 := Lib.hid (of_keep (of_keep HF3.out hb4) (bel_alloc (Below.refl _ _) (.cells #[.int .i64 4, .int .i64 0, .float .f64 0, .string ⟨#[]⟩, .slice (some ⟨w3.heap.size, 0, none⟩) 2 2] 29)))
      have HR4 := Lib.hid (row_alloc w4 #[.int .i64 4, .int .i64 0, .float .f64 0, .string ⟨#[]⟩, .slice (some ⟨w3.heap.size, 0, none⟩) 2 2] 29)
      have HB5 := Lib.hid (bel_alloc HB4.out (.cells #[.int .i64 4, .int .i64 0, .float .f64 0, .string ⟨#[]⟩, .slice (some ⟨w3.heap.size, 0, none⟩) 2 2] 29))
      have hlt3 : w3.heap.size < w4.heap.size := by have := hb4.size; rw [World.size_alloc] at this; omega
      have HNE := Lib.hid (show (Value.slice (some ⟨w3.heap.size, 0, none⟩) 2 2).ownBlock ≠ some w4.heap.size from fun e => by injection e with e; simp at e; omega)
      have hob : wo.heap.size ≤ w4.heap.size := HB4.out.size
      clear hb4 HB3 HF3 HA3 hlt3
      go_wp2_with fail
      generalize w4.alloc (.cells #[.int .i64 4, .int .i64 0, .float .f64 0, .string ⟨#[]⟩, .slice (some ⟨w3.heap.size, 0, none⟩) 2 2] 29) = w5 at HF4 HR4 HB5 ⊢
      obtain ⟨ob, hobe⟩ : ∃ ob, w4.heap.size = ob := ⟨_, rfl⟩
      rw [hobe] at HR4 HNE hob ⊢
      go_loopw [11] (fun jv wr => ∃ (j : Nat) (q : Option Addr) (d : Nat), j ≤ x ∧ jv = .int .i64 j ∧ wr.heap[ob]? = some (.cells #[.int .i64 4, .int .i64 0, .float .f64 0, .string ⟨#[]⟩, .slice q (j + 2) d] 29 (0, 0)) ∧ OwF wo wr q (j + 2) d (stepF j) ∧ (Value.slice q (j + 2) d).ownBlock ≠ some ob ∧ Below wo.heap.size wo wr) (fun jv _ => x - (intOf jv).toNat)
      case atStart => exact ⟨0, _, _, by omega, rfl, HR4.out, HF4.out, HNE.out, HB5.out⟩
      case round =>
        obtain ⟨j, q, d, hj0, rfl, hrow, hF, hnb, hB⟩ := hrel
        rename World => wj
        have HRW := Lib.hid hrow
        have HF := Lib.hid hF
        have HNB := Lib.hid hnb
        have HBJ := Lib.hid hB
        have hltb := row_lt hrow
        have b4 := row_cell hrow 4
        simp only [List.getElem?_toArray, List.getElem?_cons_zero, List.getElem?_cons_succ] at b4
        by_cases hjx : j < x
        · have hjx' : (j : Int) < (x : Int) := by omega
          clear hrow hF hnb hB
          go_wp2
          go_region_law (first
            | (go_simp; go_at_call 26; refine (int_ref_any _ _).mono ?_; rintro e w6 ⟨rfl, hb6⟩; have HBX := Lib.hid (bel_step (w := wj) (y := wj.drew) (Below.drew (Below.refl _ _)) hb6); have HRX := Lib.hid (row_step HRW.out HBX.out); have HFX := Lib.hid (of_keep HF.out HBX.out); have ltX := row_lt HRX.out; have z4 := row_cell HRX.out 4; (simp only [List.getElem?_toArray, List.getElem?_cons_zero, List.getElem?_cons_succ] at z4); clear hb6)
            | (refine step_of (by rfl) _ _ (by rfl) wo w6 q (j + 2) d (stepF j) (j : Int) (by rfl) (by rfl) HFX.out (Nat.le_trans HBJ.out.size HBX.out.size) (by omega) ?_; intro p' c' w7 ho hg hw; have HRN := Lib.hid ((hg.block _ ltX (fun e => HNB.out e.symm)).trans HRX.out); have HFN := Lib.hid ho; have HBN := Lib.hid (Below.grown (bel_step HBJ.out HBX.out) hg (Nat.le_trans HBJ.out.size HBX.out.size) (of_ge HF.out)); have HNN := Lib.hid (own_no (B := ob) HNB.out ltX hw); have ltN := row_lt HRN.out; have y4 := row_cell HRN.out 4; (simp only [List.getElem?_toArray, List.getElem?_cons_zero, List.getElem?_cons_succ] at y4); have yf := row_frz HRN.out 4; clear ho hg hw))
          all_goals
            go_wp2
            go_roundw
            case rel => exact ⟨j + 1, p', c', by omega, by go_num, row_set4 HRN.out _, (by rw [stepF_succ]; exact of_store HFN.out HNN.out _), HNN.out, HBN.out.setCell (p := ⟨ob, 4, none⟩) hob _⟩
            case measure => simp [intOf]; omega
        · obtain rfl : j = x := by omega
          have b0 := row_cell hrow 0; have b1 := row_cell hrow 1; have b2 := row_cell hrow 2; have b3 := row_cell hrow 3
          simp only [List.getElem?_toArray, List.getElem?_cons_zero, List.getElem?_cons_succ] at b0 b1 b2 b3
          have HOM := Lib.hid (om_keep HO.out hB)
          have HREP := Lib.hid (of_repC (S := fun b => Fr w1 wj (.slice p i c) b ∧ wo.heap.size ≤ b) hF (good_steps j (by omega)) (fun b hb => by
            have hge := of_ge hF b hb
            have hlt : b < wj.heap.size := by obtain ⟨XS, h1, _⟩ := hF; exact (h1.lt b hb).2
            have how := HO.out
            have hlo := ol_lt how
            obtain ⟨XS, _, _, hb1, hs1, _⟩ := how
            exact ⟨⟨by omega, hlt, fun e => by have := (hlo b e).2; omega⟩, hge⟩))
          have HLR := Lib.hid (show List.replicate (i + 1) (stepT j) = List.replicate i (stepT j) ++ [stepT j] from List.replicate_succ')
          clear hrow hF hnb hB
          go_wp2_with (at_builtin; refine wp_ov1 rfl _ _ rfl wo.heap.size w1 wj 2 p i c _ _ _ _ _ _ (stepT j) rfl rfl HOM.out (by omega) HREP.out ?_; intro p2 c2 w8 ho8)
          go_roundw
          case rel => exact ⟨i + 1, p2, c2, by omega, by go_num, rfl, by rw [HLR.out]; exact ho8⟩
          case measure => simp [intOf]; omega
    · have hik : i = k := by omega
      subst hik
      have HRL := Lib.hid (repLS_rep (ol_rep HO.out))
      have HBE := Lib.hid (show Below w1.heap.size w1 wo from by have h := HO.out; obtain ⟨XS, _, _, h3, _⟩ := h; exact h3)
      obtain ⟨hE, hS⟩ := step_easy x hx5
      have hi0 : (0 : Int) ≤ (i : Int) := by omega
      by_cases h1 : 1 ≤ i
      · have g1 : (1 : Int) ≤ (i : Int) := by omega
        by_cases h8 : i ≤ 8
        · have g8 : (i : Int) ≤ 8 := by omega
          have HDEC := Lib.hid (show (decide (1 ≤ i) && decide (i ≤ 8)) = true by simp [h1, h8])
          obtain ⟨r, hr⟩ : ∃ r, bd % 4 = r := ⟨_, rfl⟩
          have hr4 : r < 4 := by omega
          have r1 : ((bd : Int) % 4) = (r : Int) := by omega
          have r2 : (bd : Int).tmod 4 = (r : Int) := by rw [Int.tmod_eq_emod_of_nonneg (by omega)]; omega
          by_cases hr0 : r = 0
          · subst hr0
            clear hr h1 h8
            go_wp2_with fail
            go_at_call 20; refine (check_run p i c _ wo HRL.out (easy_rep hE i) true true HDEC.out (all_rep hS i)).mono ?_; rintro e w2 ⟨rfl, hb2⟩
            have HB2 := Lib.hid (bel_step HB1.out (bel_step HBE.out hb2))
            clear hb2
            go_wp2
            go_ret
            exact ⟨rfl, HB2.out⟩
          · obtain ⟨j, hj⟩ : ∃ j, bd % i = j := ⟨_, rfl⟩
            have hji : j < i := by rw [← hj]; exact Nat.mod_lt _ (by omega)
            have j1 : ((bd : Int) % (i : Int)) = (j : Int) := by rw [← hj]; exact (Int.natCast_emod bd i).symm
            have j2 : (bd : Int).tmod (i : Int) = (j : Int) := by rw [Int.tmod_eq_emod_of_nonneg (by omega)]; exact j1
            have j3 : ¬ (i : Int) = 0 := by omega
            have j4 : (0 : Int) ≤ (j : Int) := by omega
            have j5 : (j : Int) < (i : Int) := by omega
            clear hj
            have how := HO.out
            obtain ⟨XS, hw1, _⟩ := how
            rcases hw1.2 with ⟨_, hn0⟩ | ⟨g, cap, cur, hv, _, hcur, _, _, _, _⟩
            · omega
            injection hv with hv1 hv2 hv3
            subst hv1 hv3
            have hsh := HRL.out.2.2.2 (by omega)
            obtain ⟨bb, off, hpb, hit⟩ := hsh
            cases hpb
            obtain ⟨v0, v1, v2, v3, v4, c0, c1, c2, c3, c4, _⟩ := hit j (by rw [List.length_replicate]; exact hji)
            rw [Nat.zero_add] at c0 c1 c2 c3 c4
            have HCU := Lib.hid hcur
            have glt := row_lt hcur
            have HCS := Lib.hid (show wo.cell? ⟨g, j * 5, none⟩ = some v0 ∧ wo.cell? ⟨g, j * 5 + 1, none⟩ = some v1 ∧ wo.cell? ⟨g, j * 5 + 2, none⟩ = some v2 ∧ wo.cell? ⟨g, j * 5 + 3, none⟩ = some v3 ∧ wo.cell? ⟨g, j * 5 + 4, none⟩ = some v4 from ⟨c0, c1, c2, c3, c4⟩)
            have HDEC := Lib.hid (show (decide (1 ≤ i) && decide (i ≤ 8)) = true by simp [h1, h8])
            have hgw : w1.heap.size ≤ g := (hw1.lt g rfl).1
            clear hw1 hcur hit c0 c1 c2 c3 c4
            have rpos : (0 : Int) < (r : Int) := by omega
            go_wp2_with fail
            go_at_call 23; refine (text_ref_any _ _).mono ?_; rintro e w2 ⟨rfl, hb2⟩
            have HB2 := Lib.hid hb2
            clear hb2
            go_wp2_with fail
            go_at_call 23; refine (text_ref_any _ _).mono ?_; rintro e w3 ⟨rfl, hb3⟩
            have HB3 := Lib.hid (bel_step HB2.out hb3)
            have HA3 := Lib.hid (bel_alloc HB3.out (.cells #[.int .i64 3, .int .i64 0, .float .f64 0, .string { data := #[103] }, .slice none 0 0] 29))
            have HR3 := Lib.hid (row_alloc w3 #[.int .i64 3, .int .i64 0, .float .f64 0, .string { data := #[103] }, .slice none 0 0] 29)
            clear hb3
            go_wp2_with fail
            go_at_call 25; refine (list_ref_any _ _ _ _).mono ?_; rintro e w4 ⟨rfl, hb4⟩
            have HB4 := Lib.hid (bel_step HA3.out hb4)
            have HR4 := Lib.hid (row_step HR3.out hb4)
            clear hb4 HA3 HR3 HB2
            go_wp2_with fail
            go_at_call 23; refine (text_ref_any _ _).mono ?_; rintro e w5 ⟨rfl, hb5⟩
            have HB5 := Lib.hid (bel_step HB4.out hb5)
            have HR5 := Lib.hid (row_step HR4.out hb5)
            clear hb5 HB4 HR4
            go_wp2_with fail
            go_at_call 23; refine (text_ref_any _ _).mono ?_; rintro e w6 ⟨rfl, hb6⟩
            have HB6 := Lib.hid (bel_step HB5.out hb6)
            have HA6 := Lib.hid (bel_alloc HB6.out (.cells #[.int .i64 3, .int .i64 0, .float .f64 0, .string ⟨#[]⟩, .slice none 0 0, .int .i64 3, .int .i64 0, .float .f64 0, .string { data := #[109] }, .slice none 0 0] 29))
            have HR6 := Lib.hid (row_alloc_step (row_step HR5.out hb6) (.cells #[.int .i64 3, .int .i64 0, .float .f64 0, .string ⟨#[]⟩, .slice none 0 0, .int .i64 3, .int .i64 0, .float .f64 0, .string { data := #[109] }, .slice none 0 0] 29))
            have HQ6 := Lib.hid (row_alloc w6 #[.int .i64 3, .int .i64 0, .float .f64 0, .string ⟨#[]⟩, .slice none 0 0, .int .i64 3, .int .i64 0, .float .f64 0, .string { data := #[109] }, .slice none 0 0] 29)
            clear hb6 HB5 HR5
            go_wp2_with fail
            go_at_call 25; refine (list_ref_any _ _ _ _).mono ?_; rintro e w7 ⟨rfl, hb7⟩
            have HB7 := Lib.hid (bel_step HA6.out hb7)
            have HR7 := Lib.hid (row_step HR6.out hb7)
            have HQ7 := Lib.hid (row_step HQ6.out hb7)
            clear hb7 HA6 HR6 HQ6
            have HC7 := Lib.hid (row_keep HB7.out HCU.out glt)
            obtain ⟨c0, c1, c2, c3, c4⟩ := HCS.out
            have d0 := cell_keep HB7.out c0; have d1 := cell_keep HB7.out c1; have d2 := cell_keep HB7.out c2; have d3 := cell_keep HB7.out c3; have d4 := cell_keep HB7.out c4
            have df := fun o => row_frz HC7.out o
            have glt7 := row_lt HC7.out
            have gne : w7.heap.size ≠ g := by omega
            have hr123 : r = 1 ∨ r = 2 ∨ r = 3 := by omega
            clear c0 c1 c2 c3 c4
            have hs3 := HB3.out.size
            have hs6 := HB6.out.size
            rcases hr123 with rfl | rfl | rfl
            · have HSR := Lib.hid (stored HO.out HB7.out j hji glt (.cells #[.int .i64 3, .int .i64 0, .float .f64 0, .string { data := #[103] }, .slice none 0 0, .int .i64 4, .int .i64 0, .float .f64 0, .string ⟨#[]⟩, .slice (some ⟨w3.heap.size, 0, none⟩) 1 1, .int .i64 4, .int .i64 0, .float .f64 0, .string ⟨#[]⟩, .slice (some ⟨w6.heap.size, 0, none⟩) 2 2] 29) (.int .i64 3) (.int .i64 0) (.float .f64 0) (.string { data := #[103] }) (.slice none 0 0) v0 v1 v2 v3 v4 bad1 d0 d1 d2 d3 d4 (rep_txt _ _ 1 (by unfold maxLen; decide)))
              have HBS := Lib.hid (bel_alloc (set5_below (o := j * 5) (HBE.out.trans (HB7.out.mono HBE.out.size)) hgw (.int .i64 3) (.int .i64 0) (.float .f64 0) (.string { data := #[103] }) (.slice none 0 0)) (.cells #[.int .i64 3, .int .i64 0, .float .f64 0, .string { data := #[103] }, .slice none 0 0, .int .i64 4, .int .i64 0, .float .f64 0, .string ⟨#[]⟩, .slice (some ⟨w3.heap.size, 0, none⟩) 1 1, .int .i64 4, .int .i64 0, .float .f64 0, .string ⟨#[]⟩, .slice (some ⟨w6.heap.size, 0, none⟩) 2 2] 29))
              have HCK := Lib.hid (check_run (some ⟨g, 0, none⟩) i c _ _ HSR.out (easy_set hE bad_easy.1.1 i j) true false HDEC.out (all_set bad_easy.1.2 i j hji))
              clear HSR HO
              go_wp2_with fail
              go_at_call 20; refine (HCK.out).mono ?_; rintro e w8 ⟨rfl, hb8⟩
              have HB8 := Lib.hid (bel_step HB1.out (bel_step HBS.out hb8))
              clear hb8
              go_wp2
              go_ret
              exact ⟨rfl, HB8.out⟩
            · have HSR := Lib.hid (stored HO.out HB7.out j hji glt (.cells #[.int .i64 3, .int .i64 0, .float .f64 0, .string { data := #[103] }, .slice none 0 0, .int .i64 4, .int .i64 0, .float .f64 0, .string ⟨#[]⟩, .slice (some ⟨w3.heap.size, 0, none⟩) 1 1, .int .i64 4, .int .i64 0, .float .f64 0, .string ⟨#[]⟩, .slice (some ⟨w6.heap.size, 0, none⟩) 2 2] 29) (.int .i64 4) (.int .i64 0) (.float .f64 0) (.string ⟨#[]⟩) (.slice (some ⟨w3.heap.size, 0, none⟩) 1 1) v0 v1 v2 v3 v4 bad2 d0 d1 d2 d3 d4 (rep_l1 (row_alloc_step ((set5_other (by omega)).trans HR7.out) _)))
              have HBS := Lib.hid (bel_alloc (set5_below (o := j * 5) (HBE.out.trans (HB7.out.mono HBE.out.size)) hgw (.int .i64 4) (.int .i64 0) (.float .f64 0) (.string ⟨#[]⟩) (.slice (some ⟨w3.heap.size, 0, none⟩) 1 1)) (.cells #[.int .i64 3, .int .i64 0, .float .f64 0, .string { data := #[103] }, .slice none 0 0, .int .i64 4, .int .i64 0, .float .f64 0, .string ⟨#[]⟩, .slice (some ⟨w3.heap.size, 0, none⟩) 1 1, .int .i64 4, .int .i64 0, .float .f64 0, .string ⟨#[]⟩, .slice (some ⟨w6.heap.size, 0, none⟩) 2 2] 29))
              have HCK := Lib.hid (check_run (some ⟨g, 0, none⟩) i c _ _ HSR.out (easy_set hE bad_easy.2.1.1 i j) true false HDEC.out (all_set bad_easy.2.1.2 i j hji))
              clear HSR HO
              go_wp2_with fail
              go_at_call 20; refine (HCK.out).mono ?_; rintro e w8 ⟨rfl, hb8⟩
              have HB8 := Lib.hid (bel_step HB1.out (bel_step HBS.out hb8))
              clear hb8
              go_wp2
              go_ret
              exact ⟨rfl, HB8.out⟩
            · have HSR := Lib.hid (stored HO.out HB7.out j hji glt (.cells #[.int .i64 3, .int .i64 0, .float .f64 0, .string { data := #[103] }, .slice none 0 0, .int .i64 4, .int .i64 0, .float .f64 0, .string ⟨#[]⟩, .slice (some ⟨w3.heap.size, 0, none⟩) 1 1, .int .i64 4, .int .i64 0, .float .f64 0, .string ⟨#[]⟩, .slice (some ⟨w6.heap.size, 0, none⟩) 2 2] 29) (.int .i64 4) (.int .i64 0) (.float .f64 0) (.string ⟨#[]⟩) (.slice (some ⟨w6.heap.size, 0, none⟩) 2 2) v0 v1 v2 v3 v4 bad3 d0 d1 d2 d3 d4 (rep_l2 (row_alloc_step ((set5_other (by omega)).trans HQ7.out) _)))
              have HBS := Lib.hid (bel_alloc (set5_below (o := j * 5) (HBE.out.trans (HB7.out.mono HBE.out.size)) hgw (.int .i64 4) (.int .i64 0) (.float .f64 0) (.string ⟨#[]⟩) (.slice (some ⟨w6.heap.size, 0, none⟩) 2 2)) (.cells #[.int .i64 3, .int .i64 0, .float .f64 0, .string { data := #[103] }, .slice none 0 0, .int .i64 4, .int .i64 0, .float .f64 0, .string ⟨#[]⟩, .slice (some ⟨w3.heap.size, 0, none⟩) 1 1, .int .i64 4, .int .i64 0, .float .f64 0, .string ⟨#[]⟩, .slice (some ⟨w6.heap.size, 0, none⟩) 2 2] 29))
              have HCK := Lib.hid (check_run (some ⟨g, 0, none⟩) i c _ _ HSR.out (easy_set hE bad_easy.2.2.1 i j) true false HDEC.out (all_set bad_easy.2.2.2 i j hji))
              clear HSR HO
              go_wp2_with fail
              go_at_call 20; refine (HCK.out).mono ?_; rintro e w8 ⟨rfl, hb8⟩
              have HB8 := Lib.hid (bel_step HB1.out (bel_step HBS.out hb8))
              clear hb8
              go_wp2
              go_ret
              exact ⟨rfl, HB8.out⟩
        · have g8 : ¬ (i : Int) ≤ 8 := by omega
          have HDEC := Lib.hid (show (decide (1 ≤ i) && decide (i ≤ 8)) = false by simp [h8])
          clear h1 h8
          go_wp2_with fail
          go_at_call 20; refine (check_run p i c _ wo HRL.out (easy_rep hE i) false true HDEC.out (all_rep hS i)).mono ?_; rintro e w2 ⟨rfl, hb2⟩
          have HB2 := Lib.hid (bel_step HB1.out (bel_step HBE.out hb2))
          clear hb2
          go_wp2
          go_ret
          exact ⟨rfl, HB2.out⟩
      · have g1 : ¬ (1 : Int) ≤ (i : Int) := by omega
        have HDEC := Lib.hid (show (decide (1 ≤ i) && decide (i ≤ 8)) = false by simp [h1])
        clear h1
        go_wp2_with fail
        go_at_call 20; refine (check_run p i c _ wo HRL.out (easy_rep hE i) false true HDEC.out (all_rep hS i)).mono ?_; rintro e w2 ⟨rfl, hb2⟩
        have HB2 := Lib.hid (bel_step HB1.out (bel_step HBE.out hb2))
        clear hb2
        go_wp2
        go_ret
        exact ⟨rfl, HB2.out⟩
end Num
end Go.Proofs.Ythmgmfmecfmeeaa
