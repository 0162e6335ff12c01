/-
  What package wire puts of an Int or a Float.
-/
import Derived.Test.YtbodakfgoijeeaaWZ
import Derived.Deep.RegionHeld3
namespace Go.Proofs.Ytbodakfgoijeeaa
open Go.RowKit
namespace Num
open Ints
set_option linter.unusedSimpArgs false
set_option linter.unusedVariables false
theorem ow_drew1 {W0 w : World} {p : Option Addr} {l c : Nat} {X : List Int} (h : OwB W0 w p l c X) : OwB W0 w.drew p l c X := ⟨h.1, h.2.1, Below.drew h.2.2.1, h.2.2.2⟩
theorem ow_drewN {W0 w : World} {p : Option Addr} {l c : Nat} {X : List Int} (n : Nat) (h : OwB W0 w p l c X) : OwB W0 (w.drewN n) p l c X := ⟨h.1, h.2.1, bel_drewN n h.2.2.1, h.2.2.2⟩
theorem bel_un {w w' : World} {n : Nat} (h : Below w.heap.size (w.drewN n) w') : Below w.heap.size w w' := ⟨h.os, h.tape, h.output, h.size, h.block⟩
theorem rep_num (w : World) (K I : Int) (x : Nat) (q : Option Addr) (d : Nat) (hK : okI K) (hI : okI I) (hx : x < 2 ^ 64) (hd : d ≤ maxLen) : Rep w 1 (.agg #[.int .i64 K, .int .i64 I, .float .f64 x, .string ⟨#[]⟩, .slice q 0 d]) (K, I, x, ⟨#[]⟩, []) :=
  ⟨q, 0, d, rfl, hK, hI, hx, (show (⟨#[]⟩ : ByteArray).size ≤ maxLen from by decide), rfl, Nat.zero_le _, hd, fun h => absurd h (Nat.lt_irrefl _)⟩
set_option maxRecDepth 100000 in
set_option maxHeartbeats 4000000 in
theorem appendValue_1 (W0 w : World) (p : Option Addr) (l c : Nat) (X : List Int) (I : Int) (F : Nat) (hb : OwB W0 w p l c X) (hl : l ≤ 50000) (q : Option Addr) (d : Nat) (hI : okI I) (hx : F < 2 ^ 64) (hd : d ≤ maxLen) :
    Calls Try.prog 28 #[.slice p l c, .agg #[.int .i64 1, .int .i64 I, .float .f64 F, .string ⟨#[]⟩, .slice q 0 d]] w fun e w' => ∃ p' c', e = .returned (.slice p' (l + 9) c') ∧ OwB W0 w' p' (l + 9) c' (X ++ 1 :: beI (IntKind.u64.wrap I) 8) := by
  have HO := Lib.hid (ow_alloc hb (.cells #[.int .i64 1, .int .i64 I, .float .f64 F, .string ⟨#[]⟩, .slice q 0 d] 26))
  have HAU := Lib.hid (fun w p l c X (h : OwB W0 w p l c X) (hl : l ≤ 100000) => appendU_any W0 w p l c X (IntKind.u64.wrap I) 8 (by rw [Go.IntKind.wrap_u64]; omega) (by rw [Go.IntKind.wrap_u64]; omega) (by omega) h hl)
  have RB := Lib.hid (row_alloc_step (row_alloc w #[.int .i64 1, .int .i64 I, .float .f64 F, .string ⟨#[]⟩, .slice q 0 d] 26) (.cells #[.int .u8 1] 5))
  have HOB := Lib.hid (fun k (h : (Value.slice p l c).ownBlock = some k) => ((hb.2.1.lt k h).2 : k < w.heap.size))
  clear hb hI hx hd
  go_enter Try.func28, Try.ntmps28
  go_wp2_with (at_builtin; refine wp_ob1 rfl (.tmp 5) (.tmp 9) rfl W0 _ p l c X 1 rfl (congrArg (fun z => Value.slice (some ⟨z, 0, none⟩) 1 1) (World.size_alloc w (.cells #[.int .i64 1, .int .i64 I, .float .f64 F, .string ⟨#[]⟩, .slice q 0 d] 26)).symm) HO.out (by omega) ?_; intro p2 c2 w2 ho2 hg2; have HO2 := Lib.hid ho2; have hr := row_grown RB.out hg2 (fun e => by have := HOB.out _ e.symm; omega); have d0 := row_cell hr 0; have d1 := row_cell hr 1; have d2 := row_cell hr 2; simp only [List.getElem?_toArray, List.getElem?_cons_zero, List.getElem?_cons_succ] at d0 d1 d2; clear ho2 hg2 hr)
  go_at_call 44; refine (HAU.out _ _ _ _ _ HO2.out (by omega)).mono ?_; rintro e w3 ⟨p3, c3, rfl, ho3⟩
  have HO3 := Lib.hid (show OwB W0 w3 p3 (l + 9) c3 (X ++ 1 :: beI (IntKind.u64.wrap I) 8) by have h := ho3; rw [List.append_assoc] at h; exact h)
  clear ho3
  go_wp2
  go_ret
  exact ⟨p3, c3, rfl, HO3.out⟩
theorem vsize_1 (w : World) (I : Int) (F : Nat) (q : Option Addr) (d : Nat) (hI : okI I) (hx : F < 2 ^ 64) (hd : d ≤ maxLen) : Calls Try.prog 30 #[.agg #[.int .i64 1, .int .i64 I, .float .f64 F, .string ⟨#[]⟩, .slice q 0 d]] w fun e w' => e = .returned (.int .i64 9) ∧ Below w.heap.size w w' := by
  have h := vsize_any 1 1 I F ⟨#[]⟩ q 0 d (1, I, F, ⟨#[]⟩, []) w (rep_num w 1 I F q d (by decide) hI hx hd) (deepT_not (by decide)) (by rw [partsT_else (by decide)]; decide)
  rw [measT_num (by decide) (by decide)] at h
  exact h
theorem vcheck_1 (w : World) (I : Int) (F : Nat) (q : Option Addr) (d : Nat) (hI : okI I) (hx : F < 2 ^ 64) (hd : d ≤ maxLen) : Calls Try.prog 22 #[.agg #[.int .i64 1, .int .i64 I, .float .f64 F, .string ⟨#[]⟩, .slice q 0 d]] w fun e w' => e = .returned (.int .i64 0) ∧ Below w.heap.size w w' := by
  have h := check_any 1 1 I F ⟨#[]⟩ q 0 d (1, I, F, ⟨#[]⟩, []) w (rep_num w 1 I F q d (by decide) hI hx hd) (deepT_not (by decide)) (by rw [partsT_else (by decide)]; decide)
  rw [measT_num (by decide) (by decide)] at h
  exact h
set_option maxRecDepth 100000 in
set_option maxHeartbeats 8000000 in
theorem put_1 (w : World) (I : Int) (F : Nat) (q : Option Addr) (d : Nat) (hI : okI I) (hx : F < 2 ^ 64) (hd : d ≤ maxLen) :
    Calls Try.prog 13 #[.slice none 0 0, .agg #[.int .i64 1, .int .i64 I, .float .f64 F, .string ⟨#[]⟩, .slice q 0 d]] w fun e w' => ∃ p' c', e = .returned (.tuple #[.slice p' 9 c', .int .i64 0]) ∧ OwB w w' p' 9 c' (1 :: beI (IntKind.u64.wrap I) 8) := by
  have RB := Lib.hid (row_alloc w #[.int .i64 1, .int .i64 I, .float .f64 F, .string ⟨#[]⟩, .slice q 0 d] 26)
  have HZ := Lib.hid (fun w => vsize_1 w I F q d hI hx hd)
  have HA := Lib.hid (fun W0 w p c h => appendValue_1 W0 w p 0 c [] I F h (by omega) q d hI hx hd)
  have HB0 := Lib.hid ((Below.refl w.heap.size w).alloc (Nat.le_refl _) (.cells #[.int .i64 1, .int .i64 I, .float .f64 F, .string ⟨#[]⟩, .slice q 0 d] 26))
  go_enter Try.func13, Try.ntmps13
  go_wp2_with fail
  go_at_call 22; refine (vcheck_1 _ I F q d hI hx hd).mono ?_; rintro e w2 ⟨rfl, hb2⟩
  have HB2 := Lib.hid (bel_step HB0.out hb2)
  have hr := row_step RB.out hb2
  have hlt := row_lt hr
  have d0 := row_cell hr 0
  have d1 := row_cell hr 1
  have d2 := row_cell hr 2
  have d3 := row_cell hr 3
  have d4 := row_cell hr 4
  simp only [List.getElem?_toArray, List.getElem?_cons_zero, List.getElem?_cons_succ] at d0 d1 d2 d3 d4
  clear hb2 hr
  clear hI hx hd
  go_wp2
  go_region_held3 (fun w' => w'.cell? ⟨w.heap.size, 0, none⟩ = some (.int .i64 1) ∧ w'.cell? ⟨w.heap.size, 1, none⟩ = some (.int .i64 I) ∧ w'.cell? ⟨w.heap.size, 2, none⟩ = some (.float .f64 F) ∧ w'.cell? ⟨w.heap.size, 3, none⟩ = some (.string ⟨#[]⟩) ∧ w'.cell? ⟨w.heap.size, 4, none⟩ = some (.slice q 0 d) ∧ w.heap.size < w'.heap.size) (go_keep) (first
    | (go_at_call 30; refine (HZ.out _).mono ?_; rintro e w' ⟨rfl, hb'⟩; have HBS := Lib.hid (⟨hb'.os, hb'.tape, hb'.output, hb'.size, hb'.block⟩ : Below w2.heap.size w2 w'); obtain ⟨hc', _⟩ := bcell hb'; have z' := hb'.size; (try simp only [World.size_drew, World.cell?_drew, World.heap_drewN, World.cell?_drewN] at hc' z'); have z0 := Nat.lt_of_lt_of_le ‹w.heap.size < _› z'; clear hb')
    | (go_at_call 29; refine (roomy_any _ none 0 0 [] 9 (rd_nil _) (by omega) (by omega)).mono ?_; rintro e w' ⟨p1, c1, rfl, ho1⟩; have hb1 := ow_bel ho1; have HO1 := Lib.hid (ow_base (W0 := w2) ⟨HBS.out.os, HBS.out.tape, HBS.out.output, HBS.out.size, HBS.out.block⟩ ho1); clear ho1; obtain ⟨hc', _⟩ := bcell hb1; have z' := hb1.size; (try simp only [World.size_drew, World.cell?_drew, World.heap_drewN, World.cell?_drewN] at hc' z'); have z0 := Nat.lt_of_lt_of_le ‹w.heap.size < _› z')
    | (go_at_call 28; refine (HA.out w2 _ _ _ (by first | exact HO1.out | exact ow_drew1 HO1.out | exact ow_drewN _ HO1.out)).mono ?_; rintro e w' ⟨p2, c2, rfl, ho2⟩; have hb3 := ow_bel ho2; have HO2 := Lib.hid ho2; clear ho2; obtain ⟨hc', _⟩ := bcell hb3; have z' := hb3.size; have z0 := Nat.lt_of_lt_of_le hlt z'))
  all_goals
    have HF := Lib.hid (ow_base HB2.out HO2.out)
    go_wp2
    go_ret2
    exact ⟨p2, c2, rfl, HF.out⟩
set_option maxRecDepth 100000 in
set_option maxHeartbeats 4000000 in
theorem appendValue_2 (W0 w : World) (p : Option Addr) (l c : Nat) (X : List Int) (I : Int) (F : Nat) (hb : OwB W0 w p l c X) (hl : l ≤ 50000) (q : Option Addr) (d : Nat) (hI : okI I) (hx : F < 18446744073709551616) (hd : d ≤ maxLen) :
    Calls Try.prog 28 #[.slice p l c, .agg #[.int .i64 2, .int .i64 I, .float .f64 F, .string ⟨#[]⟩, .slice q 0 d]] w fun e w' => ∃ p' c', e = .returned (.slice p' (l + 9) c') ∧ OwB W0 w' p' (l + 9) c' (X ++ 2 :: beI ((Flo.canon F : Int)) 8) := by
  have HO := Lib.hid (ow_alloc hb (.cells #[.int .i64 2, .int .i64 I, .float .f64 F, .string ⟨#[]⟩, .slice q 0 d] 26))
  have HAU := Lib.hid (fun w p l c X (h : OwB W0 w p l c X) (hl : l ≤ 100000) => appendU_any W0 w p l c X ((Flo.canon F : Int)) 8 (by omega) (by have := Flo.canon_lt (x := F) hx; omega) (by omega) h hl)
  have RB := Lib.hid (row_alloc_step (row_alloc w #[.int .i64 2, .int .i64 I, .float .f64 F, .string ⟨#[]⟩, .slice q 0 d] 26) (.cells #[.int .u8 2] 5))
  have HOB := Lib.hid (fun k (h : (Value.slice p l c).ownBlock = some k) => ((hb.2.1.lt k h).2 : k < w.heap.size))
  clear hb hI hx hd
  go_enter Try.func28, Try.ntmps28
  go_wp2_with (at_builtin; refine wp_ob1 rfl (.tmp 5) (.tmp 9) rfl W0 _ p l c X 2 rfl (congrArg (fun z => Value.slice (some ⟨z, 0, none⟩) 1 1) (World.size_alloc w (.cells #[.int .i64 2, .int .i64 I, .float .f64 F, .string ⟨#[]⟩, .slice q 0 d] 26)).symm) HO.out (by omega) ?_; intro p2 c2 w2 ho2 hg2; have HO2 := Lib.hid ho2; have hr := row_grown RB.out hg2 (fun e => by have := HOB.out _ e.symm; omega); have d0 := row_cell hr 0; have d1 := row_cell hr 1; have d2 := row_cell hr 2; simp only [List.getElem?_toArray, List.getElem?_cons_zero, List.getElem?_cons_succ] at d0 d1 d2; clear ho2 hg2 hr)
  go_at_call 45; refine (bits_any _ _).mono ?_; rintro e w3 ⟨rfl, rfl⟩
  go_wp2_with fail
  go_at_call 44; refine (HAU.out _ _ _ _ _ HO2.out (by omega)).mono ?_; rintro e w3 ⟨p3, c3, rfl, ho3⟩
  have HO3 := Lib.hid (show OwB W0 w3 p3 (l + 9) c3 (X ++ 2 :: beI ((Flo.canon F : Int)) 8) by have h := ho3; rw [List.append_assoc] at h; exact h)
  clear ho3
  go_wp2
  go_ret
  exact ⟨p3, c3, rfl, HO3.out⟩
theorem vsize_2 (w : World) (I : Int) (F : Nat) (q : Option Addr) (d : Nat) (hI : okI I) (hx : F < 18446744073709551616) (hd : d ≤ maxLen) : Calls Try.prog 30 #[.agg #[.int .i64 2, .int .i64 I, .float .f64 F, .string ⟨#[]⟩, .slice q 0 d]] w fun e w' => e = .returned (.int .i64 9) ∧ Below w.heap.size w w' := by
  have h := vsize_any 1 2 I F ⟨#[]⟩ q 0 d (2, I, F, ⟨#[]⟩, []) w (rep_num w 2 I F q d (by decide) hI hx hd) (deepT_not (by decide)) (by rw [partsT_else (by decide)]; decide)
  rw [measT_num (by decide) (by decide)] at h
  exact h
theorem vcheck_2 (w : World) (I : Int) (F : Nat) (q : Option Addr) (d : Nat) (hI : okI I) (hx : F < 18446744073709551616) (hd : d ≤ maxLen) : Calls Try.prog 22 #[.agg #[.int .i64 2, .int .i64 I, .float .f64 F, .string ⟨#[]⟩, .slice q 0 d]] w fun e w' => e = .returned (.int .i64 0) ∧ Below w.heap.size w w' := by
  have h := check_any 1 2 I F ⟨#[]⟩ q 0 d (2, I, F, ⟨#[]⟩, []) w (rep_num w 2 I F q d (by decide) hI hx hd) (deepT_not (by decide)) (by rw [partsT_else (by decide)]; decide)
  rw [measT_num (by decide) (by decide)] at h
  exact h
set_option maxRecDepth 100000 in
set_option maxHeartbeats 8000000 in
theorem put_2 (w : World) (I : Int) (F : Nat) (q : Option Addr) (d : Nat) (hI : okI I) (hx : F < 18446744073709551616) (hd : d ≤ maxLen) :
    Calls Try.prog 13 #[.slice none 0 0, .agg #[.int .i64 2, .int .i64 I, .float .f64 F, .string ⟨#[]⟩, .slice q 0 d]] w fun e w' => ∃ p' c', e = .returned (.tuple #[.slice p' 9 c', .int .i64 0]) ∧ OwB w w' p' 9 c' (2 :: beI ((Flo.canon F : Int)) 8) := by
  have RB := Lib.hid (row_alloc w #[.int .i64 2, .int .i64 I, .float .f64 F, .string ⟨#[]⟩, .slice q 0 d] 26)
  have HZ := Lib.hid (fun w => vsize_2 w I F q d hI hx hd)
  have HA := Lib.hid (fun W0 w p c h => appendValue_2 W0 w p 0 c [] I F h (by omega) q d hI hx hd)
  have HB0 := Lib.hid ((Below.refl w.heap.size w).alloc (Nat.le_refl _) (.cells #[.int .i64 2, .int .i64 I, .float .f64 F, .string ⟨#[]⟩, .slice q 0 d] 26))
  go_enter Try.func13, Try.ntmps13
  go_wp2_with fail
  go_at_call 22; refine (vcheck_2 _ I F q d hI hx hd).mono ?_; rintro e w2 ⟨rfl, hb2⟩
  have HB2 := Lib.hid (bel_step HB0.out hb2)
  have hr := row_step RB.out hb2
  have hlt := row_lt hr
  have d0 := row_cell hr 0
  have d1 := row_cell hr 1
  have d2 := row_cell hr 2
  have d3 := row_cell hr 3
  have d4 := row_cell hr 4
  simp only [List.getElem?_toArray, List.getElem?_cons_zero, List.getElem?_cons_succ] at d0 d1 d2 d3 d4
  clear hb2 hr
  clear hI hx hd
  go_wp2
  go_region_held3 (fun w' => w'.cell? ⟨w.heap.size, 0, none⟩ = some (.int .i64 2) ∧ w'.cell? ⟨w.heap.size, 1, none⟩ = some (.int .i64 I) ∧ w'.cell? ⟨w.heap.size, 2, none⟩ = some (.float .f64 F) ∧ w'.cell? ⟨w.heap.size, 3, none⟩ = some (.string ⟨#[]⟩) ∧ w'.cell? ⟨w.heap.size, 4, none⟩ = some (.slice q 0 d) ∧ w.heap.size < w'.heap.size) (go_keep) (first
    | (go_at_call 30; refine (HZ.out _).mono ?_; rintro e w' ⟨rfl, hb'⟩; have HBS := Lib.hid (⟨hb'.os, hb'.tape, hb'.output, hb'.size, hb'.block⟩ : Below w2.heap.size w2 w'); obtain ⟨hc', _⟩ := bcell hb'; have z' := hb'.size; (try simp only [World.size_drew, World.cell?_drew, World.heap_drewN, World.cell?_drewN] at hc' z'); have z0 := Nat.lt_of_lt_of_le ‹w.heap.size < _› z'; clear hb')
    | (go_at_call 29; refine (roomy_any _ none 0 0 [] 9 (rd_nil _) (by omega) (by omega)).mono ?_; rintro e w' ⟨p1, c1, rfl, ho1⟩; have hb1 := ow_bel ho1; have HO1 := Lib.hid (ow_base (W0 := w2) ⟨HBS.out.os, HBS.out.tape, HBS.out.output, HBS.out.size, HBS.out.block⟩ ho1); clear ho1; obtain ⟨hc', _⟩ := bcell hb1; have z' := hb1.size; (try simp only [World.size_drew, World.cell?_drew, World.heap_drewN, World.cell?_drewN] at hc' z'); have z0 := Nat.lt_of_lt_of_le ‹w.heap.size < _› z')
    | (go_at_call 28; refine (HA.out w2 _ _ _ (by first | exact HO1.out | exact ow_drew1 HO1.out | exact ow_drewN _ HO1.out)).mono ?_; rintro e w' ⟨p2, c2, rfl, ho2⟩; have hb3 := ow_bel ho2; have HO2 := Lib.hid ho2; clear ho2; obtain ⟨hc', _⟩ := bcell hb3; have z' := hb3.size; have z0 := Nat.lt_of_lt_of_le hlt z'))
  all_goals
    have HF := Lib.hid (ow_base HB2.out HO2.out)
    go_wp2
    go_ret2
    exact ⟨p2, c2, rfl, HF.out⟩
end Num
end Go.Proofs.Ytbodakfgoijeeaa
