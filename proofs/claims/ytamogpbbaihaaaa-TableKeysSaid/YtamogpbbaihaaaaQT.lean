/-
  The example of chapter 10.
-/
import Derived.Test.YtamogpbbaihaaaaQS
import Derived.Test.YtamogpbbaihaaaaVList
import Derived.Deep.RegionHeld3
import Derived.Deep.DeepCutAuto
namespace Go.Proofs.Ytamogpbbaihaaaa
open Go.RowKit
namespace Num
open Ints
set_option linter.unusedSimpArgs false
set_option linter.unusedVariables false
/-- A list of one name, in a block of its own. -/
def LN (g : Nat) (k : ByteArray) (x : World) : Prop := RepL x (Rep x 1) (some ⟨g, 0, none⟩) 1 1 [nameV 0 k]
theorem ln_alloc {g : Nat} {k : ByteArray} {x : World} (h : LN g k x) (o : Obj) : LN g k (x.alloc o) := repL_keep (bel_alloc (Below.refl _ _) o) (rep_keep (bel_alloc (Below.refl _ _) o) _) h
theorem ln_new {g : Nat} {k : ByteArray} {x : World} (hg : g = x.heap.size) (hk : k.size ≤ maxLen) : LN g k (x.alloc (.cells #[.int .i64 3, .int .i64 0, .float .f64 0, .string k, .slice none 0 0] 27)) := by
  subst hg
  exact row1_rep (row_alloc x _ _) (leafR _ 0 3 0 0 k (by decide) (by decide) (by decide) hk)
/-- A list of a name and a value, in a block of its own. -/
def LV (g : Nat) (k : ByteArray) (K I : Int) (F : Nat) (Z : ByteArray) (x : World) : Prop := RepL x (Rep x 1) (some ⟨g, 0, none⟩) 2 2 [nameV 0 k, (K, I, F, Z, [])]
theorem lv_alloc {g : Nat} {k : ByteArray} {K I : Int} {F : Nat} {Z : ByteArray} {x : World} (h : LV g k K I F Z x) (o : Obj) : LV g k K I F Z (x.alloc o) := repL_keep (bel_alloc (Below.refl _ _) o) (rep_keep (bel_alloc (Below.refl _ _) o) _) h
theorem lv_new {g : Nat} {k : ByteArray} {K I : Int} {F : Nat} {Z : ByteArray} {x : World} (hg : g = x.heap.size) (hk : k.size ≤ maxLen) (hK : okI K) (hI : okI I) (hF : F < 2 ^ 64) (hZ : Z.size ≤ maxLen) : LV g k K I F Z (x.alloc (.cells #[.int .i64 3, .int .i64 0, .float .f64 0, .string k, .slice none 0 0, .int .i64 K, .int .i64 I, .float .f64 F, .string Z, .slice none 0 0] 27)) := by
  subst hg
  exact row2_rep (row_alloc x _ _) (leafR _ 0 3 0 0 k (by decide) (by decide) (by decide) hk) (leafR _ 0 K I F Z hK hI hF hZ)
theorem rep_nil3 (x : World) : Rep x 3 (.agg #[.int .i64 4, .int .i64 0, .float .f64 0, .string ⟨#[]⟩, .slice none 0 0]) (tableT 0 []) := list_rep ⟨rfl, Nat.le_refl _, Nat.zero_le _, fun h => absurd h (Nat.lt_irrefl _)⟩
theorem rep_tab5 {x : World} {Kv Iv : Int} {Fv : Nat} {Zv : ByteArray} {qv : Option Addr} {mv dv : Nat} {ES : List (ByteArray × VT 1)} (h : Rep x 3 (.agg #[.int .i64 Kv, .int .i64 Iv, .float .f64 Fv, .string Zv, .slice qv mv dv]) (tableT 0 ES)) : Kv = 4 ∧ Iv = 0 ∧ Fv = 0 ∧ Zv = ⟨#[]⟩ := by
  obtain ⟨p, l, c, hv, _⟩ := h
  injection hv with hv
  simp only [Array.mk.injEq, List.cons.injEq, and_true] at hv
  obtain ⟨h1, h2, h3, h4, h5⟩ := hv
  injection h1 with _ h1
  injection h2 with _ h2
  injection h3 with _ h3
  injection h4 with h4
  exact ⟨h1, h2, h3, h4⟩
def intF (k : ByteArray) (i : Int) : ByteArray × VT 1 := (k, (1, i, 0, ⟨#[]⟩, []))
theorem small_int (i : Int) : SmallV ((1, i, 0, ⟨#[]⟩, []) : VT 1) := ⟨⟨9, measT_num rfl rfl, by decide, by decide⟩, partsT_else rfl, rfl⟩
def fA : Nat → ByteArray × VT 1 := fun _ => intF ⟨#[97]⟩ 1
theorem fam_A : Fam 1 fA := ⟨by decide, fun i j h1 h2 => by omega, fun i _ => (by decide : nmV 3 ⟨#[97]⟩ = true), fun i _ => small_int 1⟩
/-- get on the table of one name. -/
theorem get_A {s : Value} {w : World} {g : Nat} (hs : Rep w 3 s (tableT 0 [fA 0])) (hr : LN g ⟨#[97]⟩ w) :
    Calls Try.prog 12 #[s, .string { data := #[103, 101, 116] }, .slice (some ⟨g, 0, none⟩) 1 1] w fun e w' => DoQ w 3 1 (tableT 0 [fA 0]) (1, 1, 0, ⟨#[]⟩, []) 0 e w' := by
  have h := tdo_get (n := 0) (X := []) (M := [fA 0]) (Y := []) (k := ⟨#[97]⟩) hs hr (fam_ok fam_A fun _ => true) (fun e he => absurd he List.not_mem_nil) (fun e he => absurd he List.not_mem_nil) (Or.inr ⟨_, rfl⟩) (by decide) (small_cln (small_int 1)).2
  exact h
/-- Boxes of two values. -/
def CS2 (x : World) (b : Nat) (v0 v1 v2 v3 v4 : Value) (b' : Nat) (u0 u1 u2 u3 u4 : Value) : Prop := x.cell? ⟨b, 0, none⟩ = some (v0) ∧ x.cell? ⟨b, 1, none⟩ = some (v1) ∧ x.cell? ⟨b, 2, none⟩ = some (v2) ∧ x.cell? ⟨b, 3, none⟩ = some (v3) ∧ x.cell? ⟨b, 4, none⟩ = some (v4) ∧ x.cell? ⟨b', 0, none⟩ = some (u0) ∧ x.cell? ⟨b', 1, none⟩ = some (u1) ∧ x.cell? ⟨b', 2, none⟩ = some (u2) ∧ x.cell? ⟨b', 3, none⟩ = some (u3) ∧ x.cell? ⟨b', 4, none⟩ = some (u4)
section
variable {x y : World} {b b' : Nat} {v0 v1 v2 v3 v4 u0 u1 u2 u3 u4 : Value}
theorem cs2_of (h : CS x b v0 v1 v2 v3 v4) (h' : CS x b' u0 u1 u2 u3 u4) : CS2 x b v0 v1 v2 v3 v4 b' u0 u1 u2 u3 u4 := ⟨h.1, h.2.1, h.2.2.1, h.2.2.2.1, h.2.2.2.2, h'⟩
theorem cs2_l (h : CS2 x b v0 v1 v2 v3 v4 b' u0 u1 u2 u3 u4) : CS x b v0 v1 v2 v3 v4 := ⟨h.1, h.2.1, h.2.2.1, h.2.2.2.1, h.2.2.2.2.1⟩
theorem cs2_r (h : CS2 x b v0 v1 v2 v3 v4 b' u0 u1 u2 u3 u4) : CS x b' u0 u1 u2 u3 u4 := h.2.2.2.2.2
theorem cs2_step (h : CS2 x b v0 v1 v2 v3 v4 b' u0 u1 u2 u3 u4) (hb : Below x.heap.size x y) : CS2 y b v0 v1 v2 v3 v4 b' u0 u1 u2 u3 u4 := cs2_of (cs_step (cs2_l h) hb) (cs_step (cs2_r h) hb)
theorem cs2_alloc (h : CS2 x b v0 v1 v2 v3 v4 b' u0 u1 u2 u3 u4) (o : Obj) : CS2 (x.alloc o) b v0 v1 v2 v3 v4 b' u0 u1 u2 u3 u4 := cs2_step h (bel_alloc (Below.refl _ _) o)
theorem cs2_drew (h : CS2 x b v0 v1 v2 v3 v4 b' u0 u1 u2 u3 u4) : CS2 x.drew b v0 v1 v2 v3 v4 b' u0 u1 u2 u3 u4 := h
theorem cs2_set {g o : Nat} {v : Value} (h : CS2 x b v0 v1 v2 v3 v4 b' u0 u1 u2 u3 u4) (h1 : b ≠ g) (h2 : b' ≠ g) : CS2 (x.setCell ⟨g, o, none⟩ v) b v0 v1 v2 v3 v4 b' u0 u1 u2 u3 u4 := cs2_of (cs_set (cs2_l h) h1) (cs_set (cs2_r h) h2)
theorem cs2_set5 {g : Nat} {t0 t1 t2 t3 t4 : Value} (h : CS2 x b v0 v1 v2 v3 v4 b' u0 u1 u2 u3 u4) (h1 : b ≠ g) (h2 : b' ≠ g) : CS2 (((((x.setCell ⟨g, 0, none⟩ t0).setCell ⟨g, 1, none⟩ t1).setCell ⟨g, 2, none⟩ t2).setCell ⟨g, 3, none⟩ t3).setCell ⟨g, 4, none⟩ t4) b v0 v1 v2 v3 v4 b' u0 u1 u2 u3 u4 := cs2_set (cs2_set (cs2_set (cs2_set (cs2_set h h1 h2) h1 h2) h1 h2) h1 h2) h1 h2
end
set_option maxRecDepth 100000 in
set_option maxHeartbeats 4000000 in
theorem known10 (w : World) : Calls Try.prog 8 #[] w fun e w' => e = .returned (.bool true) ∧ Below w.heap.size w w' := by
  go_enter Try.func8, Try.ntmps8
  go_upto_region 2 with (first
    | (go_at_call 18; refine (list_ref_any _ _ _ _).mono ?_; rintro e w1 ⟨rfl, hb1⟩; have HB1 := Lib.hid hb1; clear hb1)
    | (go_at_call 19; refine (text_ref_any _ _).mono ?_; rintro e w2 ⟨rfl, hb2⟩; have HB2 := Lib.hid (bel_step HB1.out hb2); clear hb2)
    | (go_at_call 20; refine (int_ref_any _ _).mono ?_; rintro e w3 ⟨rfl, hb3⟩; have HB3 := Lib.hid (bel_step HB2.out hb3); clear hb3)
    | (go_at_call 12; refine (put_fam fam_A (fun _ => false) 0 (by decide) (rep_nil3 _) (show LV w3.heap.size ⟨#[97]⟩ 1 1 0 ⟨#[]⟩ _ from lv_new rfl (by decide) (by decide) (by decide) (by decide) (by decide))).mono ?_; rintro e w4 ⟨t, v, rfl, hb4, ht, hv⟩; obtain ⟨Ks, Is, Fs, Ss, qs, ms, ds, rfl, _⟩ := repS_shape ht; obtain ⟨rfl, rfl, rfl, rfl⟩ := rep_tab5 (repS_rep _ _ _ ht); obtain ⟨qn, dn, rfl⟩ := num_shape hv
       have hal := bel_alloc (bel_alloc (Below.refl w4.heap.size w4) (.cells #[.int .i64 4, .int .i64 0, .float .f64 0, .string ⟨#[]⟩, .slice qs ms ds] 27)) (.cells #[.int .i64 0, .int .i64 0, .float .f64 0, .string ⟨#[]⟩, .slice qn 0 dn] 27)
       have HS := Lib.hid (And.intro (show CS2 ((w4.alloc (.cells #[.int .i64 4, .int .i64 0, .float .f64 0, .string ⟨#[]⟩, .slice qs ms ds] 27)).alloc (.cells #[.int .i64 0, .int .i64 0, .float .f64 0, .string ⟨#[]⟩, .slice qn 0 dn] 27)) w4.heap.size (.int .i64 4) (.int .i64 0) (.float .f64 0) (.string ⟨#[]⟩) (.slice qs ms ds) (w4.heap.size + 1) (.int .i64 0) (.int .i64 0) (.float .f64 0) (.string ⟨#[]⟩) (.slice qn 0 dn) from cs2_of (cs_alloc (cs_new rfl) _) (cs_new (World.size_alloc _ _).symm)) (show RC1 w (.agg #[.int .i64 4, .int .i64 0, .float .f64 0, .string ⟨#[]⟩, .slice qs ms ds]) 3 (tableT 0 [fA 0]) ((w4.alloc (.cells #[.int .i64 4, .int .i64 0, .float .f64 0, .string ⟨#[]⟩, .slice qs ms ds] 27)).alloc (.cells #[.int .i64 0, .int .i64 0, .float .f64 0, .string ⟨#[]⟩, .slice qn 0 dn] 27)) from ⟨bel_step (bel_step (bel_alloc HB3.out _) hb4) hal, rep_keep hal _ _ _ (repS_rep _ _ _ ht)⟩)); clear hb4 ht hv hal HB1 HB2 HB3))
  revert HS
  generalize (w4.alloc (.cells #[.int .i64 4, .int .i64 0, .float .f64 0, .string ⟨#[]⟩, .slice qs ms ds] 27)).alloc (.cells #[.int .i64 0, .int .i64 0, .float .f64 0, .string ⟨#[]⟩, .slice qn 0 dn] 27) = W
  generalize w4.heap.size + 1 = nb
  generalize w4.heap.size = sb
  intro HS
  have HR0 := Lib.hid HS.out.2
  obtain ⟨hs0, hr0'⟩ := HS.out
  have hr0 : RC1 W (.agg #[.int .i64 4, .int .i64 0, .float .f64 0, .string ⟨#[]⟩, .slice qs ms ds]) 3 (tableT 0 [fA 0]) W := ⟨Below.refl _ _, hr0'.2⟩
  clear hr0'
  go_cut [4, 5, 6] (fun s4 s5 s6 wx => ∃ tb vb Kt It Ft Zt qt mt dt Kv Iv Fv Zv qv mv dv, s4 = .pointer (some ⟨tb, 0, none⟩) ∧ s5 = .pointer (some ⟨vb, 0, none⟩) ∧ s6 = .int .i64 0 ∧ CS wx tb (.int .i64 Kt) (.int .i64 It) (.float .f64 Ft) (.string Zt) (.slice qt mt dt) ∧ CS wx vb (.int .i64 Kv) (.int .i64 Iv) (.float .f64 Fv) (.string Zv) (.slice qv mv dv) ∧ RC1 W (.agg #[.int .i64 Kt, .int .i64 It, .float .f64 Ft, .string Zt, .slice qt mt dt]) 3 (tableT 0 [fA 0]) wx ∧ Rep wx 1 (.agg #[.int .i64 Kv, .int .i64 Iv, .float .f64 Fv, .string Zv, .slice qv mv dv]) (((1, 1, 0, ⟨#[]⟩, []) : VT 1)) ∧ CS2 wx sb (.int .i64 4) (.int .i64 0) (.float .f64 0) (.string ⟨#[]⟩) (.slice qs ms ds) nb (.int .i64 0) (.int .i64 0) (.float .f64 0) (.string ⟨#[]⟩) (.slice qn 0 dn))
  case first =>
    have hlt := cs_lt (cs2_l hs0)
    have hlt2 := cs_lt (cs2_r hs0)
    go_region_held3 (fun x => x.cell? ⟨sb, 0, none⟩ = some (.int .i64 4) ∧ x.cell? ⟨sb, 1, none⟩ = some (.int .i64 0) ∧ x.cell? ⟨sb, 2, none⟩ = some (.float .f64 0) ∧ x.cell? ⟨sb, 3, none⟩ = some (.string ⟨#[]⟩) ∧ x.cell? ⟨sb, 4, none⟩ = some (.slice qs ms ds) ∧ x.cell? ⟨nb, 0, none⟩ = some (.int .i64 0) ∧ x.cell? ⟨nb, 1, none⟩ = some (.int .i64 0) ∧ x.cell? ⟨nb, 2, none⟩ = some (.float .f64 0) ∧ x.cell? ⟨nb, 3, none⟩ = some (.string ⟨#[]⟩) ∧ x.cell? ⟨nb, 4, none⟩ = some (.slice qn 0 dn)) ((show CS2 _ sb (.int .i64 4) (.int .i64 0) (.float .f64 0) (.string ⟨#[]⟩) (.slice qs ms ds) nb (.int .i64 0) (.int .i64 0) (.float .f64 0) (.string ⟨#[]⟩) (.slice qn 0 dn); (repeat (with_reducible first | assumption | refine cs2_alloc ?_ _ | refine cs2_drew ?_ | (refine cs2_set ?_ ?_ ?_; rotate_left; omega; omega))))) (first
      | (go_at_call 19; refine (text_ref_any _ _).mono ?_; rintro e wF ⟨rfl, hb⟩; have hkF : CS2 wF sb (.int .i64 4) (.int .i64 0) (.float .f64 0) (.string ⟨#[]⟩) (.slice qs ms ds) nb (.int .i64 0) (.int .i64 0) (.float .f64 0) (.string ⟨#[]⟩) (.slice qn 0 dn) := cs2_step (by (repeat (with_reducible first | assumption | refine cs2_alloc ?_ _ | refine cs2_drew ?_))) hb; have hrF : RC1 W (.agg #[.int .i64 4, .int .i64 0, .float .f64 0, .string ⟨#[]⟩, .slice qs ms ds]) 3 (tableT 0 [fA 0]) wF := rc_step (by (repeat (with_reducible first | assumption | refine rc_alloc ?_ _ | refine rc_drew ?_))) hb; obtain ⟨hcF, hfF⟩ := bcell hb; (try simp only [World.size_alloc, World.size_drew] at hcF hfF); have zF := hb.size; (try simp only [World.size_alloc, World.size_drew] at zF); (try have ylFW0 : W.heap.size < wF.heap.size := by omega); (try have ynFW0 : wF.heap.size ≠ W.heap.size := by omega); (try have ymFW0 : wF.heap.size + 1 ≠ W.heap.size := by omega); (try have ykFW0 : W.heap.size < wF.heap.size + 1 := by omega); (try have ylFW1 : W.heap.size + 1 < wF.heap.size := by omega); (try have ynFW1 : wF.heap.size ≠ W.heap.size + 1 := by omega); (try have ymFW1 : wF.heap.size + 1 ≠ W.heap.size + 1 := by omega); (try have ykFW1 : W.heap.size + 1 < wF.heap.size + 1 := by omega); clear hb)
      | (go_at_call 12; refine (get_A (And.right (show RC1 W (.agg #[.int .i64 4, .int .i64 0, .float .f64 0, .string ⟨#[]⟩, .slice qs ms ds]) 3 (tableT 0 [fA 0]) _ by (repeat (with_reducible first | assumption | refine rc_alloc ?_ _ | refine rc_drew ?_)))) (by first | exact ln_new (by simp only [World.size_alloc]) (by decide) | (refine ln_alloc ?_ _; first | exact ln_new (by simp only [World.size_alloc]) (by decide) | (refine ln_alloc ?_ _; exact ln_new (by simp only [World.size_alloc]) (by decide))))).mono ?_; rintro e wD ⟨t, v, rfl, hb, ht, hv⟩; obtain ⟨Kt, It, Ft, Zt, qt, mt, dt, rfl, _⟩ := repS_shape ht; obtain ⟨Kv, Iv, Fv, Zv, qv, mv, dv, rfl, _⟩ := repS_shape hv; have hkD : CS2 wD sb (.int .i64 4) (.int .i64 0) (.float .f64 0) (.string ⟨#[]⟩) (.slice qs ms ds) nb (.int .i64 0) (.int .i64 0) (.float .f64 0) (.string ⟨#[]⟩) (.slice qn 0 dn) := cs2_step (by (repeat (with_reducible first | assumption | refine cs2_alloc ?_ _ | refine cs2_drew ?_))) hb; have hrD : RC1 W (.agg #[.int .i64 4, .int .i64 0, .float .f64 0, .string ⟨#[]⟩, .slice qs ms ds]) 3 (tableT 0 [fA 0]) wD := rc_step (by (repeat (with_reducible first | assumption | refine rc_alloc ?_ _ | refine rc_drew ?_))) hb; have hBD := hrD.1; (try simp only [World.size_alloc, World.size_drew] at ht hv); have HTV := Lib.hid (And.intro ht hv); clear ht hv; obtain ⟨hcD, hfD⟩ := bcell hb; (try simp only [World.size_alloc, World.size_drew] at hcD hfD); have zD := hb.size; (try simp only [World.size_alloc, World.size_drew] at zD); (try have ylDW0 : W.heap.size < wD.heap.size := by omega); (try have ynDW0 : wD.heap.size ≠ W.heap.size := by omega); (try have ymDW0 : wD.heap.size + 1 ≠ W.heap.size := by omega); (try have ykDW0 : W.heap.size < wD.heap.size + 1 := by omega); (try have ylDW1 : W.heap.size + 1 < wD.heap.size := by omega); (try have ynDW1 : wD.heap.size ≠ W.heap.size + 1 := by omega); (try have ymDW1 : wD.heap.size + 1 ≠ W.heap.size + 1 := by omega); (try have ykDW1 : W.heap.size + 1 < wD.heap.size + 1 := by omega); (try have ylDwF0 : wF.heap.size < wD.heap.size := by omega); (try have ynDwF0 : wD.heap.size ≠ wF.heap.size := by omega); (try have ymDwF0 : wD.heap.size + 1 ≠ wF.heap.size := by omega); (try have ykDwF0 : wF.heap.size < wD.heap.size + 1 := by omega); (try have ylDwF1 : wF.heap.size + 1 < wD.heap.size := by omega); (try have ynDwF1 : wD.heap.size ≠ wF.heap.size + 1 := by omega); (try have ymDwF1 : wD.heap.size + 1 ≠ wF.heap.size + 1 := by omega); (try have ykDwF1 : wF.heap.size + 1 < wD.heap.size + 1 := by omega); (try have ylDwF2 : wF.heap.size + 1 + 1 < wD.heap.size := by omega); (try have ynDwF2 : wD.heap.size ≠ wF.heap.size + 1 + 1 := by omega); (try have ymDwF2 : wD.heap.size + 1 ≠ wF.heap.size + 1 + 1 := by omega); (try have ykDwF2 : wF.heap.size + 1 + 1 < wD.heap.size + 1 := by omega); clear hb))
    all_goals (go_wp2_with fail)
    all_goals go_meet
    all_goals
      clear hkF hrF hrD hs0 hr0 HR0 HS
      refine ⟨_, _, Kt, It, Ft, Zt, qt, mt, dt, Kv, Iv, Fv, Zv, qv, mv, dv, rfl, rfl, rfl, ?_, ?_, ⟨?_, ?_⟩, ?_, ?_⟩
      · (repeat (with_reducible first | exact cs_new (by simp only [World.size_alloc, World.size_setCell]) | refine cs_alloc ?_ _ | refine cs_set5 (u0 := .int .i64 0) (u1 := .int .i64 0) (u2 := .float .f64 0) (u3 := .string ⟨#[]⟩) (u4 := .slice none 0 0) ?_ | (refine cs_other ?_ ?_; rotate_left; omega)))
        all_goals (unfold CS; simp [go_sem, *]; done)
      · (repeat (with_reducible first | exact cs_new (by simp only [World.size_alloc, World.size_setCell]) | refine cs_alloc ?_ _ | refine cs_set5 (u0 := .int .i64 0) (u1 := .int .i64 0) (u2 := .float .f64 0) (u3 := .string ⟨#[]⟩) (u4 := .slice none 0 0) ?_ | (refine cs_other ?_ ?_; rotate_left; omega)))
        all_goals (unfold CS; simp [go_sem, *]; done)
      · (repeat (with_reducible first | exact hBD | refine bel_alloc ?_ _ | (refine bel_set5 ?_ ?_; rotate_left; omega)))
      · refine rep_out HTV.out.1 (fun b hb1 hb2 => ?_)
        (repeat (with_reducible first | exact rfl | (refine hk_alloc ?_ ?_; rotate_left; ((try simp only [World.size_alloc, World.size_setCell]); omega)) | (refine hk_set5 ?_ ?_; rotate_left; omega)))
      · refine rep_out HTV.out.2 (fun b hb1 hb2 => ?_)
        (repeat (with_reducible first | exact rfl | (refine hk_alloc ?_ ?_; rotate_left; ((try simp only [World.size_alloc, World.size_setCell]); omega)) | (refine hk_set5 ?_ ?_; rotate_left; omega)))
      · (repeat (with_reducible first | exact hkD | refine cs2_alloc ?_ _ | (refine cs2_set5 ?_ ?_ ?_; rotate_left; omega; omega)))
  case rest =>
  obtain ⟨tb, vb', Kt, It, Ft, Zt, qt, mt, dt, Kv, Iv, Fv, Zv, qv, mv, dv, rfl, rfl, rfl, hct, hcv, hrt, hrv, hkk⟩ := hcut
  have hks : RC1 w (.agg #[.int .i64 4, .int .i64 0, .float .f64 0, .string ⟨#[]⟩, .slice qs ms ds]) 3 (tableT 0 [fA 0]) wc := ⟨bel_step HR0.out.1 hrt.1, rep_keep hrt.1 _ _ _ HR0.out.2⟩
  obtain ⟨rfl, rfl, rfl, rfl, rfl⟩ := rep_leaf hrv
  obtain ⟨x0, x1, x2, x3, x4⟩ := cs2_l hkk
  obtain ⟨y0, y1, y2, y3, y4⟩ := cs2_r hkk
  obtain ⟨z0, z1, z2, z3, z4⟩ := hcv
  have HRG := Lib.hid (tright_any 0 _ [fA 0] _ hks.2 (fam_ok fam_A fun _ => true))
  have HBW := Lib.hid hks.1
  clear hct hrt hrv hkk hks HS hs0 hr0 HR0
  go_wp2_with fail
  go_at_call 15; refine HRG.out.mono ?_; rintro e w9 ⟨rfl, hb9⟩
  have HB9 := Lib.hid (bel_step HBW.out hb9)
  clear hb9 HBW HRG x0 x1 x2 x3 x4 y0 y1 y2 y3 y4 z0 z1 z2 z3 z4
  go_wp2
  go_ret
  exact ⟨rfl, HB9.out⟩
end Num
end Go.Proofs.Ytamogpbbaihaaaa
