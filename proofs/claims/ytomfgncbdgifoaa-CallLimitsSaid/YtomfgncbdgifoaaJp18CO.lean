/-
  What package wire puts of Nil; package call's appends.
-/
import Derived.Test.YtomfgncbdgifoaaJp16CV
import Derived.Test.YtomfgncbdgifoaaJp8UA
import Derived.Test.YtomfgncbdgifoaaJBB
import Derived.Test.YtomfgncbdgifoaaJp15MT
namespace Go.Proofs.Ytomfgncbdgifoaa
open Go.RowKit
namespace Num
open Ints
set_option linter.unusedSimpArgs false
set_option linter.unusedVariables false
set_option maxRecDepth 100000 in
set_option maxHeartbeats 4000000 in
theorem appendValue_0 (W0 w : World) (p : Option Addr) (l c : Nat) (X : List Int) (I : Int) (F : Nat) (hb : OwB W0 w p l c X) (hl : l ≤ 50000) (q : Option Addr) (d : Nat) (hI : okI I) (hx : F < 2 ^ 64) (hd : d ≤ maxLen) :
    Calls Try.prog 80 #[.slice p l c, .agg #[.int .i64 0, .int .i64 I, .float .f64 F, .string ⟨#[]⟩, .slice q 0 d]] w fun e w' => ∃ p' c', e = .returned (.slice p' (l + 1) c') ∧ OwB W0 w' p' (l + 1) c' (X ++ [0]) := by
  have HO := Lib.hid (ow_alloc hb (.cells #[.int .i64 0, .int .i64 I, .float .f64 F, .string ⟨#[]⟩, .slice q 0 d] 47))
  have RB := Lib.hid (row_alloc_step (row_alloc w #[.int .i64 0, .int .i64 I, .float .f64 F, .string ⟨#[]⟩, .slice q 0 d] 47) (.cells #[.int .u8 0] 5))
  have HOB := Lib.hid (fun k (h : (Value.slice p l c).ownBlock = some k) => ((hb.2.1.lt k h).2 : k < w.heap.size))
  clear hb hI hx hd
  go_enter Try.func80, Try.ntmps80
  go_wp2_with (at_builtin; refine wp_ob1 rfl (.tmp 5) (.tmp 9) rfl W0 _ p l c X 0 rfl (congrArg (fun z => Value.slice (some ⟨z, 0, none⟩) 1 1) (World.size_alloc w (.cells #[.int .i64 0, .int .i64 I, .float .f64 F, .string ⟨#[]⟩, .slice q 0 d] 47)).symm) HO.out (by omega) ?_; intro p2 c2 w2 ho2 hg2; have HO2 := Lib.hid ho2; have hr := row_grown RB.out hg2 (fun e => by have := HOB.out _ e.symm; omega); have d0 := row_cell hr 0; have d1 := row_cell hr 1; have d2 := row_cell hr 2; simp only [List.getElem?_toArray, List.getElem?_cons_zero, List.getElem?_cons_succ] at d0 d1 d2; clear ho2 hg2 hr)
  go_ret
  exact ⟨p2, c2, rfl, HO2.out⟩
theorem vsize_0 (w : World) (I : Int) (F : Nat) (q : Option Addr) (d : Nat) (hI : okI I) (hx : F < 2 ^ 64) (hd : d ≤ maxLen) : Calls Try.prog 81 #[.agg #[.int .i64 0, .int .i64 I, .float .f64 F, .string ⟨#[]⟩, .slice q 0 d]] w fun e w' => e = .returned (.int .i64 1) ∧ Below w.heap.size w w' := by
  have h := vsize_any 1 0 I F ⟨#[]⟩ q 0 d (0, I, F, ⟨#[]⟩, []) w (rep_num w 0 I F q d (by decide) hI hx hd) (deepT_not (by decide)) (by rw [partsT_else (by decide)]; decide)
  rw [measT_nil (by decide)] at h
  exact h
theorem vcheck_0 (w : World) (I : Int) (F : Nat) (q : Option Addr) (d : Nat) (hI : okI I) (hx : F < 2 ^ 64) (hd : d ≤ maxLen) : Calls Try.prog 79 #[.agg #[.int .i64 0, .int .i64 I, .float .f64 F, .string ⟨#[]⟩, .slice q 0 d]] w fun e w' => e = .returned (.int .i64 0) ∧ Below w.heap.size w w' := by
  have h := check_any 1 0 I F ⟨#[]⟩ q 0 d (0, I, F, ⟨#[]⟩, []) w (rep_num w 0 I F q d (by decide) hI hx hd) (deepT_not (by decide)) (by rw [partsT_else (by decide)]; decide)
  rw [measT_nil (by decide)] at h
  exact h
set_option maxRecDepth 100000 in
set_option maxHeartbeats 8000000 in
theorem put_0 (w : World) (I : Int) (F : Nat) (q : Option Addr) (d : Nat) (hI : okI I) (hx : F < 2 ^ 64) (hd : d ≤ maxLen) :
    Calls Try.prog 60 #[.slice none 0 0, .agg #[.int .i64 0, .int .i64 I, .float .f64 F, .string ⟨#[]⟩, .slice q 0 d]] w fun e w' => ∃ p' c', e = .returned (.tuple #[.slice p' 1 c', .int .i64 0]) ∧ OwB w w' p' 1 c' ([0]) := by
  have RB := Lib.hid (row_alloc w #[.int .i64 0, .int .i64 I, .float .f64 F, .string ⟨#[]⟩, .slice q 0 d] 47)
  have HZ := Lib.hid (fun w => vsize_0 w I F q d hI hx hd)
  have HA := Lib.hid (fun W0 w p c h => appendValue_0 W0 w p 0 c [] I F h (by omega) q d hI hx hd)
  have HB0 := Lib.hid ((Below.refl w.heap.size w).alloc (Nat.le_refl _) (.cells #[.int .i64 0, .int .i64 I, .float .f64 F, .string ⟨#[]⟩, .slice q 0 d] 47))
  go_enter Try.func60, Try.ntmps60
  go_wp2_with fail
  go_at_call 79; refine (vcheck_0 _ I F q d hI hx hd).mono ?_; rintro e w2 ⟨rfl, hb2⟩
  have HB2 := Lib.hid (bel_step HB0.out hb2)
  have hr := row_step RB.out hb2
  have hlt := row_lt hr
  have d0 := row_cell hr 0
  have d1 := row_cell hr 1
  have d2 := row_cell hr 2
  have d3 := row_cell hr 3
  have d4 := row_cell hr 4
  simp only [List.getElem?_toArray, List.getElem?_cons_zero, List.getElem?_cons_succ] at d0 d1 d2 d3 d4
  clear hb2 hr
  clear hI hx hd
  go_wp2
  go_region_held3 (fun w' => w'.cell? ⟨w.heap.size, 0, none⟩ = some (.int .i64 0) ∧ w'.cell? ⟨w.heap.size, 1, none⟩ = some (.int .i64 I) ∧ w'.cell? ⟨w.heap.size, 2, none⟩ = some (.float .f64 F) ∧ w'.cell? ⟨w.heap.size, 3, none⟩ = some (.string ⟨#[]⟩) ∧ w'.cell? ⟨w.heap.size, 4, none⟩ = some (.slice q 0 d) ∧ w.heap.size < w'.heap.size) (go_keep) (first
    | (go_at_call 81; refine (HZ.out _).mono ?_; rintro e w' ⟨rfl, hb'⟩; have HBS := Lib.hid (⟨hb'.os, hb'.tape, hb'.output, hb'.size, hb'.block⟩ : Below w2.heap.size w2 w'); obtain ⟨hc', _⟩ := bcell hb'; have z' := hb'.size; (try simp only [World.size_drew, World.cell?_drew, World.heap_drewN, World.cell?_drewN] at hc' z'); have z0 := Nat.lt_of_lt_of_le ‹w.heap.size < _› z'; clear hb')
    | (go_at_call 77; refine (roomy_any _ none 0 0 [] 1 (rd_nil _) (by omega) (by omega)).mono ?_; rintro e w' ⟨p1, c1, rfl, ho1⟩; have hb1 := ow_bel ho1; have HO1 := Lib.hid (ow_base (W0 := w2) ⟨HBS.out.os, HBS.out.tape, HBS.out.output, HBS.out.size, HBS.out.block⟩ ho1); clear ho1; obtain ⟨hc', _⟩ := bcell hb1; have z' := hb1.size; (try simp only [World.size_drew, World.cell?_drew, World.heap_drewN, World.cell?_drewN] at hc' z'); have z0 := Nat.lt_of_lt_of_le ‹w.heap.size < _› z')
    | (go_at_call 80; refine (HA.out w2 _ _ _ (by first | exact HO1.out | exact ow_drew1 HO1.out | exact ow_drewN _ HO1.out)).mono ?_; rintro e w' ⟨p2, c2, rfl, ho2⟩; have hb3 := ow_bel ho2; have HO2 := Lib.hid ho2; clear ho2; obtain ⟨hc', _⟩ := bcell hb3; have z' := hb3.size; have z0 := Nat.lt_of_lt_of_le hlt z'))
  all_goals
    have HF := Lib.hid (ow_base HB2.out HO2.out)
    go_wp2
    go_ret2
    exact ⟨p2, c2, rfl, HF.out⟩
theorem clampN_of {k : Nat} (h : k ≤ 8) : clampN (k : Int) = k := by unfold clampN; rw [if_neg (by omega), if_neg (by omega)]; omega
set_option maxHeartbeats 1000000 in
theorem cappU_any (W0 w : World) (p : Option Addr) (l c : Nat) (X : List Int) (u : Int) (k : Nat) (hu0 : 0 ≤ u) (hu1 : u < 18446744073709551616) (hk : k ≤ 8) (hb : OwB W0 w p l c X) (hl : l ≤ 100000) :
    Calls Try.prog 32 #[.slice p l c, .int .u64 u, .int .i64 k] w fun e w' => ∃ p' c', e = .returned (.slice p' (l + k) c') ∧ OwB W0 w' p' (l + k) c' (X ++ beI u k) := by
  have HB := Lib.hid hb
  have HU := Lib.hid (show Calls Try.prog 59 #[.slice none 0 0, .int .u64 u, .int .i64 k] w fun e w' => ∃ p' c', e = .returned (.slice p' k c') ∧ OwB w w' p' k c' (beI u k) by
    have h := putU_any w none 0 0 [] u k hu0 hu1 (rd_nil w) (by omega)
    rw [clampN_of hk, Nat.zero_add, List.nil_append] at h
    exact h)
  clear hb hu0 hu1
  go_enter Try.func32, Try.ntmps32
  go_wp2_with fail
  go_at_call 59; refine HU.out.mono ?_; rintro e w1 ⟨p1, c1, rfl, ho1⟩
  have HO := Lib.hid (ow_keep HB.out (ow_bel ho1))
  have HR := Lib.hid (rd_of_ow ho1)
  clear ho1
  go_wp2_with (at_builtin; refine wp_obR rfl _ _ rfl W0 w1 p l c X p1 k c1 (beI u k) rfl rfl HO.out HR.out (by omega) (by omega) ?_; intro p2 c2 w2 ho2 _)
  have HO2 := Lib.hid ho2
  clear ho2
  go_ret
  exact ⟨p2, c2, rfl, HO2.out⟩
set_option maxHeartbeats 1000000 in
theorem copied_nil (w : World) : Calls Try.prog 31 #[.slice none 0 0] w fun e w' => e = .returned (.slice none 0 0) ∧ w = w' := by
  go_enter Try.func31, Try.ntmps31
  go_wp2
  go_ret
  exact ⟨rfl, rfl⟩
set_option maxRecDepth 100000 in
set_option maxHeartbeats 2000000 in
theorem cappid_nil (w : World) (i1 i2 i3 : Int) (h1 : 0 ≤ i1 ∧ i1 < 4294967296) (h2 : 0 ≤ i2 ∧ i2 < 4294967296) (h3 : 0 ≤ i3 ∧ i3 < 65536) : Calls Try.prog 30 #[.slice none 0 0, .agg #[.int .u32 i1, .int .u32 i2, .int .u16 i3]] w fun e w' => ∃ p' c', e = .returned (.slice p' 10 c') ∧ OwB w w' p' 10 c' (idB i1 i2 i3) := by
  obtain ⟨a1, a2⟩ := h1
  obtain ⟨b1, b2⟩ := h2
  obtain ⟨g1, g2⟩ := h3
  obtain ⟨w0, hw0⟩ : ∃ W, w.alloc (.cells #[.int .u32 i1, .int .u32 i2, .int .u16 i3] 26) = W := ⟨_, rfl⟩
  have R := row_alloc w #[.int .u32 i1, .int .u32 i2, .int .u16 i3] 26
  rw [hw0] at R
  have HR := Lib.hid R
  have HW := Lib.hid hw0
  have c0 := row_cell R 0; have c1 := row_cell R 1; have c2 := row_cell R 2
  simp only [List.getElem?_toArray, List.getElem?_cons_zero, List.getElem?_cons_succ] at c0 c1 c2
  have HB1 := Lib.hid (cappU_any w0 w0 none 0 0 [] (IntKind.u64.wrap i1) 4 (wrap_rng _).1 (wrap_rng _).2 (by omega) (ow_nil w0) (by omega))
  have HB2 := Lib.hid (fun (w' : World) (p : Option Addr) (l c : Nat) (X : List Int) (h : OwB w0 w' p l c X) (hl : l ≤ 100000) => cappU_any w0 w' p l c X (IntKind.u64.wrap i2) 4 (wrap_rng _).1 (wrap_rng _).2 (by omega) h hl)
  have HB3 := Lib.hid (fun (w' : World) (p : Option Addr) (l c : Nat) (X : List Int) (h : OwB w0 w' p l c X) (hl : l ≤ 100000) => cappU_any w0 w' p l c X (IntKind.u64.wrap i3) 2 (wrap_rng _).1 (wrap_rng _).2 (by omega) h hl)
  have HWR := Lib.hid (show IntKind.u64.wrap i1 = i1 ∧ IntKind.u64.wrap i2 = i2 ∧ IntKind.u64.wrap i3 = i3 from ⟨wr64 a1 (by omega), wr64 b1 (by omega), wr64 g1 (by omega)⟩)
  clear R a1 a2 b1 b2 g1 g2
  go_enter Try.func30, Try.ntmps30
  go_wp2_with fail
  go_at_call 32; refine HB1.out.mono ?_; rintro e w1 ⟨p1, k1, rfl, ho1⟩
  have HO1 := Lib.hid ho1
  have r1 := row_step HR.out (ow_bel ho1)
  have c0 := row_cell r1 0; have c1 := row_cell r1 1; have c2 := row_cell r1 2
  simp only [List.getElem?_toArray, List.getElem?_cons_zero, List.getElem?_cons_succ] at c0 c1 c2
  clear ho1 r1
  go_wp2_with fail
  go_at_call 32; refine (HB2.out _ _ _ _ _ HO1.out (by omega)).mono ?_; rintro e w2 ⟨p2, k2, rfl, ho2⟩
  have HO2 := Lib.hid ho2
  have r1 := row_step HR.out (ow_bel ho2)
  have c0 := row_cell r1 0; have c1 := row_cell r1 1; have c2 := row_cell r1 2
  simp only [List.getElem?_toArray, List.getElem?_cons_zero, List.getElem?_cons_succ] at c0 c1 c2
  clear ho2 r1
  go_wp2_with fail
  go_at_call 32; refine (HB3.out _ _ _ _ _ HO2.out (by omega)).mono ?_; rintro e w3 ⟨p3, k3, rfl, ho3⟩
  have HF := Lib.hid (show OwB w w3 p3 10 k3 (idB i1 i2 i3) by
    have h := ho3
    rw [HWR.out.1, HWR.out.2.1, HWR.out.2.2, List.nil_append, List.append_assoc] at h
    rw [← HW.out] at h
    exact ow_bare _ h)
  clear ho3
  go_wp2
  go_ret
  exact ⟨p3, k3, rfl, HF.out⟩
/-- A name's bytes. -/
def nmB (s : ByteArray) : List Int := beI s.size 2 ++ strIs s
theorem nmB_by (s : ByteArray) : By (nmB s) := by_app (by_be _ _) (by_str _)
theorem nmB_len (s : ByteArray) : (nmB s).length = 2 + s.size := by unfold nmB; rw [List.length_append, beI_len, strIs_len]
theorem ow_ne {W0 w : World} {p : Option Addr} {l c : Nat} {X : List Int} (h : OwB W0 w p l c X) (hl : 0 < l) {b : Nat} {cs : Array Value} (hr : w.heap[b]? = some (.cells cs 9 (0, 0))) : some b ≠ (Value.slice p l c).ownBlock := by
  intro e
  obtain ⟨g, cur, rfl, hg, _⟩ := ow_some h hl
  have e2 : b = g := by injection e
  subst e2
  rw [hr] at hg
  injection hg with hg
  injection hg with _ hg
  exact absurd hg (by decide)
theorem putName (w : World) (s : ByteArray) (hs : s.size ≤ 32) : Calls Try.prog 58 #[.slice none 0 0, .string s, .int .i64 32] w fun e w' => ∃ p' c', e = .returned (.tuple #[.slice p' (2 + s.size) c', .int .i64 0]) ∧ OwB w w' p' (2 + s.size) c' (nmB s) := by
  have h := putText_yes w none 0 0 [] s 32 (rd_nil w) (by omega) (by omega) (by omega)
  rw [Nat.zero_add, List.nil_append] at h
  exact h
set_option maxRecDepth 100000 in
set_option maxHeartbeats 2000000 in
theorem names_any (W0 w : World) (p : Option Addr) (l c : Nat) (X : List Int) (nb : Nat) (S1 S2 : ByteArray) (hr : w.heap[nb]? = some (.cells #[.string S1, .string S2] 9 (0, 0))) (hb : OwB W0 w p l c X) (hl : l ≤ 100) (hl0 : 0 < l) (hs1 : S1.size ≤ 100) (hs2 : S2.size ≤ 100) :
    Calls Try.prog 29 #[.slice p l c, .slice (some ⟨nb, 0, none⟩) 2 2] w fun e w' => Below W0.heap.size W0 w' ∧ ((S1.size ≤ 32 ∧ S2.size ≤ 32) → ∃ p' c', e = .returned (.tuple #[.slice p' (l + (2 + S1.size) + (2 + S2.size)) c', .int .i64 0]) ∧ OwB W0 w' p' (l + (2 + S1.size) + (2 + S2.size)) c' (X ++ nmB S1 ++ nmB S2)) ∧ (¬ (S1.size ≤ 32 ∧ S2.size ≤ 32) → e = .returned (.tuple #[.slice none 0 0, .int .i64 22])) := by
  have HB := Lib.hid hb
  have HR := Lib.hid hr
  have c0 := row_cell hr 0; have c1 := row_cell hr 1
  simp only [List.getElem?_toArray, List.getElem?_cons_zero, List.getElem?_cons_succ] at c0 c1
  clear hb hr
  by_cases h1 : S1.size ≤ 32
  · go_enter Try.func29, Try.ntmps29
    go_wp2_with fail
    refine wp_loop_rounds 3 ?_
    rw [rounds_succ]
    go_wp2_with fail
    go_at_call 58; refine (putName w S1 h1).mono ?_; rintro e w1 ⟨p1, k1, rfl, ho1⟩
    have HO1 := Lib.hid (ow_keep HB.out (ow_bel ho1))
    have HQ1 := Lib.hid (rd_of_ow ho1)
    have HR1 := Lib.hid (row_step HR.out (ow_bel ho1))
    clear ho1
    go_wp2_with (at_builtin; refine wp_obR rfl (.tmp 24) (.tmp 25) rfl W0 w1 p l c X p1 (2 + S1.size) k1 (nmB S1) rfl rfl HO1.out HQ1.out (by omega) (by omega) ?_; intro p2 k2 w2 ho2 hg2; have HO2 := Lib.hid ho2; have r2 := row_grown HR1.out hg2 (ow_ne HO1.out hl0 HR1.out); have HR2 := Lib.hid r2; have e1 := row_cell r2 1; simp only [List.getElem?_toArray, List.getElem?_cons_zero, List.getElem?_cons_succ] at e1; clear ho2 hg2 r2)
    rw [rounds_succ]
    by_cases h2 : S2.size ≤ 32
    · go_wp2_with fail
      go_at_call 58; refine (putName w2 S2 h2).mono ?_; rintro e w3 ⟨p3, k3, rfl, ho3⟩
      have HO3 := Lib.hid (ow_keep HO2.out (ow_bel ho3))
      have HQ3 := Lib.hid (rd_of_ow ho3)
      clear ho3
      go_wp2_with (at_builtin; refine wp_obR rfl (.tmp 24) (.tmp 25) rfl W0 w3 p2 _ k2 _ p3 (2 + S2.size) k3 (nmB S2) rfl rfl HO3.out HQ3.out (by omega) (by omega) ?_; intro p4 k4 w4 ho4 _; have HO4 := Lib.hid ho4; clear ho4)
      rw [rounds_succ]
      go_wp2
      go_ret2
      exact ⟨ow_bel HO4.out, fun _ => ⟨p4, k4, rfl, HO4.out⟩, fun h => absurd ⟨h1, h2⟩ h⟩
    · go_wp2_with fail
      go_at_call 58; refine (putText_no w2 none 0 0 S2 32 (by omega) (by omega)).mono ?_; rintro e w3 ⟨rfl, rfl⟩
      go_wp2
      go_ret2
      exact ⟨ow_bel HO2.out, fun h => absurd h.2 (by omega), fun _ => rfl⟩
  · go_enter Try.func29, Try.ntmps29
    go_wp2_with fail
    refine wp_loop_rounds 3 ?_
    rw [rounds_succ]
    go_wp2_with fail
    go_at_call 58; refine (putText_no w none 0 0 S1 32 (by omega) (by omega)).mono ?_; rintro e w3 ⟨rfl, rfl⟩
    go_wp2
    go_ret2
    exact ⟨ow_bel HB.out, fun h => absurd h.1 (by omega), fun _ => rfl⟩
end Num
end Go.Proofs.Ytomfgncbdgifoaa
/-
  package call's appendValues, where each value is put as these bytes.
-/
namespace Go.Proofs.Ytomfgncbdgifoaa
open Go.RowKit
namespace Num
open Ints
set_option linter.unusedSimpArgs false
set_option linter.unusedVariables false
/-- wire puts v as these bytes. -/
def PutsTo (v : Value) (Y : List Int) : Prop := ∀ W : World, Calls Try.prog 60 #[.slice none 0 0, v] W fun e w' => ∃ p' c', e = .returned (.tuple #[.slice p' Y.length c', .int .i64 0]) ∧ OwB W w' p' Y.length c' Y
theorem puts_int (I : Int) (F : Nat) (q : Option Addr) (d : Nat) (hI : okI I) (hx : F < 2 ^ 64) (hd : d ≤ maxLen) : PutsTo (.agg #[.int .i64 1, .int .i64 I, .float .f64 F, .string ⟨#[]⟩, .slice q 0 d]) (1 :: beI (IntKind.u64.wrap I) 8) := fun W => by
  have h := put_1 W I F q d hI hx hd
  rw [show (1 :: beI (IntKind.u64.wrap I) 8).length = 9 by rw [List.length_cons, beI_len]]
  exact h
theorem puts_nil (I : Int) (F : Nat) (q : Option Addr) (d : Nat) (hI : okI I) (hx : F < 2 ^ 64) (hd : d ≤ maxLen) : PutsTo (.agg #[.int .i64 0, .int .i64 I, .float .f64 F, .string ⟨#[]⟩, .slice q 0 d]) [0] := fun W => put_0 W I F q d hI hx hd
theorem ow_neT {W0 w : World} {p : Option Addr} {l c : Nat} {X : List Int} (h : OwB W0 w p l c X) (hl : 0 < l) {b : Nat} {cs : Array Value} {t : TypeId} (ht : t ≠ 5) (hr : w.heap[b]? = some (.cells cs t (0, 0))) : some b ≠ (Value.slice p l c).ownBlock := by
  intro e
  obtain ⟨g, cur, rfl, hg, _⟩ := ow_some h hl
  have e2 : b = g := by injection e
  subst e2
  rw [hr] at hg
  injection hg with hg
  injection hg with _ hg
  exact ht hg
/-- A slice of values, each put as these bytes. -/
def Puts (w : World) (q : Option Addr) (m d : Nat) (L : List (List Int)) : Prop := L.length = m ∧ m ≤ d ∧ d ≤ maxLen ∧ (0 < m → ∃ vb cs, q = some ⟨vb, 0, none⟩ ∧ w.heap[vb]? = some (.cells cs 47 (0, 0)) ∧ ∀ i (h : i < L.length), ∃ (K I : Int) (F : Nat) (S : ByteArray) (q' : Option Addr) (l' c' : Nat), cs[i * 5]? = some (.int .i64 K) ∧ cs[i * 5 + 1]? = some (.int .i64 I) ∧ cs[i * 5 + 2]? = some (.float .f64 F) ∧ cs[i * 5 + 3]? = some (.string S) ∧ cs[i * 5 + 4]? = some (.slice q' l' c') ∧ PutsTo (.agg #[.int .i64 K, .int .i64 I, .float .f64 F, .string S, .slice q' l' c']) L[i] ∧ L[i].length ≤ 4096)
set_option maxRecDepth 100000 in
set_option maxHeartbeats 2000000 in
theorem vals_any (W0 w : World) (p : Option Addr) (l c : Nat) (X : List Int) (q : Option Addr) (m d : Nat) (L : List (List Int)) (hv : Puts w q m d L) (hb : OwB W0 w p l c X) (hl0 : 0 < l) (hl : l ≤ 10000) (hm : m ≤ 20) :
    Calls Try.prog 33 #[.slice p l c, .slice q m d] w fun e w' => ∃ p' c', e = .returned (.tuple #[.slice p' (l + L.flatten.length) c', .int .i64 0]) ∧ OwB W0 w' p' (l + L.flatten.length) c' (X ++ L.flatten) := by
  obtain ⟨hL, hmd, hdm, hel⟩ := hv
  unfold maxLen at hdm
  have HE := Lib.hid hel
  have HL := Lib.hid hL
  have HB := Lib.hid hb
  clear hel hL hb
  go_enter Try.func33, Try.ntmps33
  go_wp2
  go_loopw [0, 12] (fun bv iv wr => ∃ (k l5 : Nat) (p5 : Option Addr) (c5 : Nat), k ≤ m ∧ iv = .int .i64 (k : Int) ∧ bv = .slice p5 l5 c5 ∧ OwB W0 wr p5 l5 c5 (X ++ (L.take k).flatten) ∧ l5 = l + (L.take k).flatten.length ∧ l5 ≤ l + 4096 * k ∧ (∀ vb cs, q = some ⟨vb, 0, none⟩ → w.heap[vb]? = some (.cells cs 47 (0, 0)) → wr.heap[vb]? = some (.cells cs 47 (0, 0)))) (fun _ iv _ => m - (intOf iv).toNat)
  case atStart => exact ⟨0, l, p, c, Nat.zero_le _, rfl, rfl, by rw [List.take_zero, List.flatten_nil, List.append_nil]; exact HB.out, by simp, by omega, fun vb cs _ h => h⟩
  case round =>
    obtain ⟨k, l5, p5, k5, hk, rfl, rfl, ho, hle, hl5, hrow⟩ := hrel
    have HO := Lib.hid ho
    have HLE := Lib.hid hle
    have HROW := Lib.hid hrow
    clear ho hle hrow
    by_cases hkm : k < m
    · obtain ⟨vb, cs, hq, hr, hi⟩ := HE.out (by omega)
      subst hq
      have hr2 := HROW.out vb cs rfl hr
      have HR0 := Lib.hid hr
      have HR2 := Lib.hid hr2
      have hkl : k < L.length := by have := HL.out; omega
      obtain ⟨K, I, F, S, q', l', c', d0, d1, d2, d3, d4, hp, hn⟩ := hi k hkl
      have e0 := (row_cell hr2 (k * 5)).trans d0
      have e1 := (row_cell hr2 (k * 5 + 1)).trans d1
      have e2 := (row_cell hr2 (k * 5 + 2)).trans d2
      have e3 := (row_cell hr2 (k * 5 + 3)).trans d3
      have e4 := (row_cell hr2 (k * 5 + 4)).trans d4
      have HP := Lib.hid hp
      have HTK := Lib.hid (show (L.take (k + 1)).flatten = (L.take k).flatten ++ L[k] by rw [List.take_succ_eq_append_getElem hkl, List.flatten_append]; simp)
      obtain ⟨Y, hY⟩ : ∃ Y, L[k] = Y := ⟨_, rfl⟩
      rw [hY] at HP HTK hn
      have HRB := Lib.hid (row_alloc_step hr2 (.cells #[.int .i64 K, .int .i64 I, .float .f64 F, .string S, .slice q' l' c'] 47))
      have HOB := Lib.hid (ow_alloc HO.out (.cells #[.int .i64 K, .int .i64 I, .float .f64 F, .string S, .slice q' l' c'] 47))
      clear d0 d1 d2 d3 d4 hp hi hr hr2 hY
      go_wp2_with fail
      go_at_call 60; refine (HP.out _).mono ?_; rintro e w1 ⟨p1, k1, rfl, ho1⟩
      have HO1 := Lib.hid (ow_keep HOB.out (ow_bel ho1))
      have HQ1 := Lib.hid (rd_of_ow ho1)
      have HR1 := Lib.hid (row_step HRB.out (ow_bel ho1))
      have hl50 : 0 < l5 := by have := HLE.out; omega
      clear ho1 e0 e1 e2 e3 e4
      go_wp2_with (at_builtin; refine wp_obR rfl (.tmp 24) (.tmp 25) rfl W0 w1 p5 l5 k5 _ p1 Y.length k1 Y rfl rfl HO1.out HQ1.out (by omega) (by omega) ?_; intro p2 k2 w2 ho2 hg2; have HO2 := Lib.hid ho2; have HR3 := Lib.hid (row_grown HR1.out hg2 (ow_neT HO1.out hl50 (by decide) HR1.out)); clear ho2 hg2)
      go_roundw
      case rel => exact ⟨k + 1, l5 + Y.length, p2, k2, by omega, by go_num, rfl, by rw [HTK.out, ← List.append_assoc]; exact HO2.out, by rw [HTK.out, List.length_append, HLE.out]; omega, by omega, fun vb' cs' hq' h' => by cases hq'; rw [HR0.out] at h'; cases h'; exact HR3.out⟩
      case measure => simp [intOf]; omega
    · obtain rfl : k = m := by omega
      have HFT := Lib.hid (show L.take k = L from List.take_of_length_le (by have := HL.out; omega))
      go_wp2
      go_ret2
      have h := HO.out
      have h2 := HLE.out
      rw [HFT.out] at h h2
      subst h2
      exact ⟨p5, k5, rfl, h⟩
end Num
end Go.Proofs.Ytomfgncbdgifoaa
/-
  package call's Put onto nil, where each argument is put as these bytes.
-/
namespace Go.Proofs.Ytomfgncbdgifoaa
open Go.RowKit
namespace Num
open Ints
set_option linter.unusedSimpArgs false
set_option linter.unusedVariables false
theorem s6_of {w0 w' : World} {b : Nat} {i1 i2 i3 : Int} {S1 S2 : ByteArray} {q : Option Addr} {m d : Nat} {t : TypeId} (h : w0.heap[b]? = some (.cells #[.int .u32 i1, .int .u32 i2, .int .u16 i3, .string S1, .string S2, .slice q m d] t (0, 0))) (hb : Below w0.heap.size w0 w') :
    w'.cell? ⟨b, 0, none⟩ = some (.int .u32 i1) ∧ w'.cell? ⟨b, 1, none⟩ = some (.int .u32 i2) ∧ w'.cell? ⟨b, 2, none⟩ = some (.int .u16 i3) ∧ w'.cell? ⟨b, 3, none⟩ = some (.string S1) ∧ w'.cell? ⟨b, 4, none⟩ = some (.string S2) ∧ Below w0.heap.size w0 w' := by
  have r := row_step h hb
  exact ⟨by rw [row_cell r]; rfl, by rw [row_cell r]; rfl, by rw [row_cell r]; rfl, by rw [row_cell r]; rfl, by rw [row_cell r]; rfl, hb⟩
/-- A call's bytes, its arguments' bytes given. -/
def putB (i1 i2 i3 : Int) (S1 S2 : ByteArray) (m : Nat) (L : List (List Int)) : List Int := idB i1 i2 i3 ++ nmB S1 ++ nmB S2 ++ beI (m : Int) 1 ++ L.flatten
theorem put_own {w w0 w' : World} {p : Option Addr} {l c : Nat} {i1 i2 i3 : Int} {S1 S2 : ByteArray} {m : Nat} {L : List (List Int)} (h : Below w.heap.size w w0) (ho : OwB w0 w' p l c (idB i1 i2 i3 ++ nmB S1 ++ nmB S2 ++ beI (m : Int) 1 ++ L.flatten)) : OwB w w' p l c (putB i1 i2 i3 S1 S2 m L) := ow_base h ho
theorem puts_bel {w w' : World} {q : Option Addr} {m d : Nat} {L : List (List Int)} (hb : Below w.heap.size w w') (h : Puts w q m d L) : Puts w' q m d L := by
  obtain ⟨h1, h2, h3, h4⟩ := h
  refine ⟨h1, h2, h3, fun hm => ?_⟩
  obtain ⟨vb, cs, hq, hr, hi⟩ := h4 hm
  exact ⟨vb, cs, hq, row_step hr hb, hi⟩
set_option maxRecDepth 100000 in
set_option maxHeartbeats 2000000 in
theorem cput_yes (w : World) (i1 i2 i3 : Int) (S1 S2 : ByteArray) (q : Option Addr) (m d : Nat) (L : List (List Int)) (g1 : 0 ≤ i1 ∧ i1 < 4294967296) (g2 : 0 ≤ i2 ∧ i2 < 4294967296) (g3 : 0 ≤ i3 ∧ i3 < 65536) (hs1 : S1.size ≤ 100) (hs2 : S2.size ≤ 100) (hv : Puts w q m d L) (hm16 : m ≤ 16) (hS : S1.size ≤ 32 ∧ S2.size ≤ 32) :
    Calls Try.prog 10 #[.slice none 0 0, .agg #[.int .u32 i1, .int .u32 i2, .int .u16 i3, .string S1, .string S2, .slice q m d]] w fun e w' => ∃ p' c', e = .returned (.tuple #[.slice p' (putB i1 i2 i3 S1 S2 m L).length c', .int .i64 0]) ∧ OwB w w' p' (putB i1 i2 i3 S1 S2 m L).length c' (putB i1 i2 i3 S1 S2 m L) := by
  have HID := Lib.hid (fun (w' : World) => cappid_nil w' i1 i2 i3 g1 g2 g3)
  clear g1 g2 g3
  obtain ⟨w0, hw0⟩ : ∃ W, w.alloc (.cells #[.int .u32 i1, .int .u32 i2, .int .u16 i3, .string S1, .string S2, .slice q m d] 29) = W := ⟨_, rfl⟩
  have HB0 := Lib.hid (show Below w.heap.size w w0 by rw [← hw0]; exact (Below.refl _ _).alloc (Nat.le_refl _) _)
  have R := row_alloc w #[.int .u32 i1, .int .u32 i2, .int .u16 i3, .string S1, .string S2, .slice q m d] 29
  rw [hw0] at R
  have HR := Lib.hid R
  have hsz : w.heap.size < w0.heap.size := row_lt R
  have c0 := row_cell R 0; have c1 := row_cell R 1; have c2 := row_cell R 2; have c3 := row_cell R 3; have c4 := row_cell R 4; have c5 := row_cell R 5
  simp only [List.getElem?_toArray, List.getElem?_cons_zero, List.getElem?_cons_succ] at c0 c1 c2 c3 c4 c5
  have HW0 := Lib.hid hw0
  have HVV := Lib.hid hv
  have HSS := Lib.hid hS
  have hZ : 10 + (2 + S1.size) + (2 + S2.size) ≤ 78 := by omega
  clear R hv hS
  go_enter Try.func10, Try.ntmps10
  go_wp2_with fail
  clear hw0
  have k6 : Below w0.heap.size w0 w0 := Below.refl _ _
  go_region_held3 (fun w' => w'.cell? ⟨w.heap.size, 0, none⟩ = some (.int .u32 i1) ∧ w'.cell? ⟨w.heap.size, 1, none⟩ = some (.int .u32 i2) ∧ w'.cell? ⟨w.heap.size, 2, none⟩ = some (.int .u16 i3) ∧ w'.cell? ⟨w.heap.size, 3, none⟩ = some (.string S1) ∧ w'.cell? ⟨w.heap.size, 4, none⟩ = some (.string S2) ∧ Below w0.heap.size w0 w') ((refine ⟨?_, ?_, ?_, ?_, ?_, ?_⟩ <;> first | assumption | exact Below.drew (by assumption) | exact bel_alloc (by assumption) _ | exact Below.drew (bel_alloc (by assumption) _) | go_keep)) (first
    | (go_at_call 31; refine (copied_nil _).mono ?_; rintro e w' ⟨rfl, rfl⟩)
    | (go_at_call 30; refine (HID.out _).mono ?_; rintro e w' ⟨p1, k1, rfl, ho1⟩; have HO1 := Lib.hid (show OwB w0 _ p1 10 k1 (idB i1 i2 i3) from ow_base (by first | assumption | exact Below.drew (by assumption) | exact bel_alloc (by assumption) _ | exact Below.drew (bel_alloc (by assumption) _) | exact bel_alloc (Below.drew (by assumption)) _) ho1); (try have HN1 := Lib.hid (row_step (w := (World.alloc w0 (.cells #[.string S1, .string S2] 9)).drew) (show (World.drew (World.alloc w0 (.cells #[.string S1, .string S2] 9))).heap[w0.heap.size]? = _ from row_alloc w0 #[.string S1, .string S2] 9) (ow_bel ho1))); obtain ⟨k0, k1', k2, k3, k4, k6⟩ := s6_of HR.out (ow_bel HO1.out); clear ho1)
    | (go_at_call 29; refine (names_any w0 _ p1 10 k1 _ _ S1 S2 (by first | exact HN1.out | exact row_alloc _ _ _) (by first | exact HO1.out | exact ow_alloc HO1.out _) (by omega) (by omega) hs1 hs2).mono ?_; rintro e w' ⟨hb3, hyes, hno⟩; obtain ⟨p3, k3', rfl, ho3⟩ := hyes HSS.out; have HO3 := Lib.hid ho3; obtain ⟨k0, k1', k2, k3, k4, k6⟩ := s6_of HR.out hb3; clear hb3 hyes hno ho3))
  all_goals
    have HF := Lib.hid (row_step HR.out (ow_bel HO3.out))
    have HV3 := Lib.hid (puts_bel (bel_step HB0.out (ow_bel HO3.out)) HVV.out)
    have e5 := row_cell HF.out 5
    simp only [List.getElem?_toArray, List.getElem?_cons_zero, List.getElem?_cons_succ] at e5
    generalize 10 + (2 + S1.size) + (2 + S2.size) = l3 at HO3 hZ ⊢
    clear c0 c1 c2 c3 c4 c5 k0 k1' k2 k3 k4 k6
    go_wp2_with fail
    go_at_call 32; refine (cappU_any w0 _ p3 l3 k3' _ (m : Int) 1 (by omega) (by omega) (by omega) HO3.out (by omega)).mono ?_; rintro e w5 ⟨p5, k5, rfl, ho5⟩
    have HO5 := Lib.hid ho5
    have HV5 := Lib.hid (puts_bel (bel_step HB0.out (ow_bel HO5.out)) HVV.out)
    have r5 := row_step HR.out (ow_bel ho5)
    have g5 := row_cell r5 5
    simp only [List.getElem?_toArray, List.getElem?_cons_zero, List.getElem?_cons_succ] at g5
    clear ho5 r5 e5
    go_wp2_with fail
    go_at_call 33; refine (vals_any w0 w5 p5 (l3 + 1) k5 _ q m d L HV5.out HO5.out (by omega) (by omega) (by omega)).mono ?_; rintro e w6 ⟨p6, k6, rfl, ho6⟩
    have HO6 := Lib.hid (put_own HB0.out ho6)
    clear ho6
    obtain ⟨N, hN⟩ : ∃ N, l3 + 1 + L.flatten.length = N := ⟨_, rfl⟩
    rw [hN] at HO6
    rw [hN]
    go_wp2
    go_ret2
    exact ⟨p6, k6, (by rw [← HO6.out.1]; rfl), by have h := HO6.out; rw [← h.1] at h; exact h⟩
set_option maxRecDepth 100000 in
set_option maxHeartbeats 2000000 in
theorem cput_many (w : World) (i1 i2 i3 : Int) (S1 S2 : ByteArray) (q : Option Addr) (m d : Nat) (L : List (List Int)) (g1 : 0 ≤ i1 ∧ i1 < 4294967296) (g2 : 0 ≤ i2 ∧ i2 < 4294967296) (g3 : 0 ≤ i3 ∧ i3 < 65536) (hs1 : S1.size ≤ 100) (hs2 : S2.size ≤ 100) (hv : Puts w q m d L) (hm16 : 16 < m) :
    Calls Try.prog 10 #[.slice none 0 0, .agg #[.int .u32 i1, .int .u32 i2, .int .u16 i3, .string S1, .string S2, .slice q m d]] w fun e w' => e = .returned (.tuple #[.slice none 0 0, .int .i64 22]) ∧ Below w.heap.size w w' := by
  clear g1 g2 g3
  obtain ⟨w0, hw0⟩ : ∃ W, w.alloc (.cells #[.int .u32 i1, .int .u32 i2, .int .u16 i3, .string S1, .string S2, .slice q m d] 29) = W := ⟨_, rfl⟩
  have HB0 := Lib.hid (show Below w.heap.size w w0 by rw [← hw0]; exact (Below.refl _ _).alloc (Nat.le_refl _) _)
  have R := row_alloc w #[.int .u32 i1, .int .u32 i2, .int .u16 i3, .string S1, .string S2, .slice q m d] 29
  rw [hw0] at R
  have HR := Lib.hid R
  have hsz : w.heap.size < w0.heap.size := row_lt R
  have c0 := row_cell R 0; have c1 := row_cell R 1; have c2 := row_cell R 2; have c3 := row_cell R 3; have c4 := row_cell R 4; have c5 := row_cell R 5
  simp only [List.getElem?_toArray, List.getElem?_cons_zero, List.getElem?_cons_succ] at c0 c1 c2 c3 c4 c5
  have HW0 := Lib.hid hw0
  have hdm := hv.2.1
  have hdx := hv.2.2.1
  unfold maxLen at hdx
  clear R hv
  go_enter Try.func10, Try.ntmps10
  go_wp2
  go_ret2
  exact ⟨rfl, HB0.out⟩
set_option maxRecDepth 100000 in
set_option maxHeartbeats 2000000 in
theorem cput_long (w : World) (i1 i2 i3 : Int) (S1 S2 : ByteArray) (q : Option Addr) (m d : Nat) (L : List (List Int)) (g1 : 0 ≤ i1 ∧ i1 < 4294967296) (g2 : 0 ≤ i2 ∧ i2 < 4294967296) (g3 : 0 ≤ i3 ∧ i3 < 65536) (hs1 : S1.size ≤ 100) (hs2 : S2.size ≤ 100) (hv : Puts w q m d L) (hm16 : m ≤ 16) (hS : ¬ (S1.size ≤ 32 ∧ S2.size ≤ 32)) :
    Calls Try.prog 10 #[.slice none 0 0, .agg #[.int .u32 i1, .int .u32 i2, .int .u16 i3, .string S1, .string S2, .slice q m d]] w fun e w' => e = .returned (.tuple #[.slice none 0 0, .int .i64 22]) ∧ Below w.heap.size w w' := by
  have HID := Lib.hid (fun (w' : World) => cappid_nil w' i1 i2 i3 g1 g2 g3)
  clear g1 g2 g3
  obtain ⟨w0, hw0⟩ : ∃ W, w.alloc (.cells #[.int .u32 i1, .int .u32 i2, .int .u16 i3, .string S1, .string S2, .slice q m d] 29) = W := ⟨_, rfl⟩
  have HB0 := Lib.hid (show Below w.heap.size w w0 by rw [← hw0]; exact (Below.refl _ _).alloc (Nat.le_refl _) _)
  have R := row_alloc w #[.int .u32 i1, .int .u32 i2, .int .u16 i3, .string S1, .string S2, .slice q m d] 29
  rw [hw0] at R
  have HR := Lib.hid R
  have hsz : w.heap.size < w0.heap.size := row_lt R
  have c0 := row_cell R 0; have c1 := row_cell R 1; have c2 := row_cell R 2; have c3 := row_cell R 3; have c4 := row_cell R 4; have c5 := row_cell R 5
  simp only [List.getElem?_toArray, List.getElem?_cons_zero, List.getElem?_cons_succ] at c0 c1 c2 c3 c4 c5
  have HW0 := Lib.hid hw0
  have HVV := Lib.hid hv
  have HSS := Lib.hid hS
  clear R hv hS
  go_enter Try.func10, Try.ntmps10
  go_wp2_with fail
  clear hw0
  have k6 : Below w0.heap.size w0 w0 := Below.refl _ _
  go_region_held3 (fun w' => w'.cell? ⟨w.heap.size, 0, none⟩ = some (.int .u32 i1) ∧ w'.cell? ⟨w.heap.size, 1, none⟩ = some (.int .u32 i2) ∧ w'.cell? ⟨w.heap.size, 2, none⟩ = some (.int .u16 i3) ∧ w'.cell? ⟨w.heap.size, 3, none⟩ = some (.string S1) ∧ w'.cell? ⟨w.heap.size, 4, none⟩ = some (.string S2) ∧ Below w0.heap.size w0 w') ((refine ⟨?_, ?_, ?_, ?_, ?_, ?_⟩ <;> first | assumption | exact Below.drew (by assumption) | exact bel_alloc (by assumption) _ | exact Below.drew (bel_alloc (by assumption) _) | go_keep)) (first
    | (go_at_call 31; refine (copied_nil _).mono ?_; rintro e w' ⟨rfl, rfl⟩)
    | (go_at_call 30; refine (HID.out _).mono ?_; rintro e w' ⟨p1, k1, rfl, ho1⟩; have HO1 := Lib.hid (show OwB w0 _ p1 10 k1 (idB i1 i2 i3) from ow_base (by first | assumption | exact Below.drew (by assumption) | exact bel_alloc (by assumption) _ | exact Below.drew (bel_alloc (by assumption) _) | exact bel_alloc (Below.drew (by assumption)) _) ho1); (try have HN1 := Lib.hid (row_step (w := (World.alloc w0 (.cells #[.string S1, .string S2] 9)).drew) (show (World.drew (World.alloc w0 (.cells #[.string S1, .string S2] 9))).heap[w0.heap.size]? = _ from row_alloc w0 #[.string S1, .string S2] 9) (ow_bel ho1))); obtain ⟨k0, k1', k2, k3, k4, k6⟩ := s6_of HR.out (ow_bel HO1.out); clear ho1)
    | (go_at_call 29; refine (names_any w0 _ p1 10 k1 _ _ S1 S2 (by first | exact HN1.out | exact row_alloc _ _ _) (by first | exact HO1.out | exact ow_alloc HO1.out _) (by omega) (by omega) hs1 hs2).mono ?_; rintro e w' ⟨hb3, hyes, hno⟩; obtain rfl := hno HSS.out; have HB3 := Lib.hid hb3; obtain ⟨k0, k1', k2, k3, k4, k6⟩ := s6_of HR.out hb3; clear hb3 hyes hno))
  all_goals
    have HF := Lib.hid (bel_step HB0.out HB3.out)
    go_wp2
    go_ret2
    exact ⟨rfl, HF.out⟩
end Num
end Go.Proofs.Ytomfgncbdgifoaa
/-
  package call's PutReply onto nil, where the value is put as these bytes.
-/
namespace Go.Proofs.Ytomfgncbdgifoaa
open Go.RowKit
namespace Num
open Ints
set_option linter.unusedSimpArgs false
set_option linter.unusedVariables false
theorem s4_of {w0 w' : World} {b : Nat} {i1 i2 i3 r K I : Int} {F : Nat} {S : ByteArray} {q : Option Addr} {m d : Nat} {t : TypeId} (h : w0.heap[b]? = some (.cells #[.int .u32 i1, .int .u32 i2, .int .u16 i3, .int .i64 r, .int .i64 K, .int .i64 I, .float .f64 F, .string S, .slice q m d] t (0, 0))) (hb : Below w0.heap.size w0 w') :
    w'.cell? ⟨b, 0, none⟩ = some (.int .u32 i1) ∧ w'.cell? ⟨b, 1, none⟩ = some (.int .u32 i2) ∧ w'.cell? ⟨b, 2, none⟩ = some (.int .u16 i3) ∧ w'.cell? ⟨b, 3, none⟩ = some (.int .i64 r) ∧ Below w0.heap.size w0 w' := by
  have r := row_step h hb
  exact ⟨by rw [row_cell r]; rfl, by rw [row_cell r]; rfl, by rw [row_cell r]; rfl, by rw [row_cell r]; rfl, hb⟩
/-- A reply's bytes, its value's bytes given. -/
def repB (i1 i2 i3 r : Int) (Y : List Int) : List Int := idB i1 i2 i3 ++ beI r 2 ++ Y
theorem puts_one (w : World) {K I : Int} {F : Nat} {S : ByteArray} {q : Option Addr} {m d : Nat} {Y : List Int} (hp : PutsTo (.agg #[.int .i64 K, .int .i64 I, .float .f64 F, .string S, .slice q m d]) Y) (hY : Y.length ≤ 4096) :
    Puts (w.alloc (.cells #[.int .i64 K, .int .i64 I, .float .f64 F, .string S, .slice q m d] 47)) (some ⟨w.heap.size, 0, none⟩) 1 1 [Y] :=
  ⟨rfl, Nat.le_refl _, by unfold maxLen; omega, fun _ => ⟨w.heap.size, _, rfl, row_alloc _ _ _, fun i h => by
    obtain rfl : i = 0 := by simp at h; omega
    exact ⟨K, I, F, S, q, m, d, rfl, rfl, rfl, rfl, rfl, hp, hY⟩⟩⟩
set_option maxRecDepth 100000 in
set_option maxHeartbeats 2000000 in
theorem creply_nil (w : World) (i1 i2 i3 r K I : Int) (F : Nat) (S : ByteArray) (q : Option Addr) (m d : Nat) (Y : List Int) (g1 : 0 ≤ i1 ∧ i1 < 4294967296) (g2 : 0 ≤ i2 ∧ i2 < 4294967296) (g3 : 0 ≤ i3 ∧ i3 < 65536) (gr : 0 ≤ r) (gr2 : r ≤ 65535) (hp : PutsTo (.agg #[.int .i64 K, .int .i64 I, .float .f64 F, .string S, .slice q m d]) Y) (hY : Y.length ≤ 4096) :
    Calls Try.prog 21 #[.slice none 0 0, .agg #[.int .u32 i1, .int .u32 i2, .int .u16 i3, .int .i64 r, .int .i64 K, .int .i64 I, .float .f64 F, .string S, .slice q m d]] w fun e w' => ∃ p' c', e = .returned (.tuple #[.slice p' (repB i1 i2 i3 r Y).length c', .int .i64 0]) ∧ OwB w w' p' (repB i1 i2 i3 r Y).length c' (repB i1 i2 i3 r Y) := by
  have HID := Lib.hid (fun (w' : World) => cappid_nil w' i1 i2 i3 g1 g2 g3)
  clear g1 g2 g3
  obtain ⟨w0, hw0⟩ : ∃ W, w.alloc (.cells #[.int .u32 i1, .int .u32 i2, .int .u16 i3, .int .i64 r, .int .i64 K, .int .i64 I, .float .f64 F, .string S, .slice q m d] 49) = W := ⟨_, rfl⟩
  have HB0 := Lib.hid (show Below w.heap.size w w0 by rw [← hw0]; exact (Below.refl _ _).alloc (Nat.le_refl _) _)
  have R := row_alloc w #[.int .u32 i1, .int .u32 i2, .int .u16 i3, .int .i64 r, .int .i64 K, .int .i64 I, .float .f64 F, .string S, .slice q m d] 49
  rw [hw0] at R
  have HR := Lib.hid R
  have hsz : w.heap.size < w0.heap.size := row_lt R
  have c0 := row_cell R 0; have c1 := row_cell R 1; have c2 := row_cell R 2; have c3 := row_cell R 3
  simp only [List.getElem?_toArray, List.getElem?_cons_zero, List.getElem?_cons_succ] at c0 c1 c2 c3
  have HW0 := Lib.hid hw0
  have HP := Lib.hid hp
  have HU := Lib.hid (fun (w' : World) (p : Option Addr) (c : Nat) (h : OwB w0 w' p 10 c (idB i1 i2 i3)) => cappU_any w0 w' p 10 c _ (IntKind.u64.wrap r) 2 (wrap_rng _).1 (wrap_rng _).2 (by omega) h (by omega))
  have HWR := Lib.hid (show IntKind.u64.wrap r = r from wr64 gr (by omega))
  clear R hp
  go_enter Try.func21, Try.ntmps21
  go_wp2_with fail
  clear hw0
  have k6 : Below w0.heap.size w0 w0 := Below.refl _ _
  go_region_held3 (fun w' => w'.cell? ⟨w.heap.size, 0, none⟩ = some (.int .u32 i1) ∧ w'.cell? ⟨w.heap.size, 1, none⟩ = some (.int .u32 i2) ∧ w'.cell? ⟨w.heap.size, 2, none⟩ = some (.int .u16 i3) ∧ w'.cell? ⟨w.heap.size, 3, none⟩ = some (.int .i64 r) ∧ Below w0.heap.size w0 w') ((refine ⟨?_, ?_, ?_, ?_, ?_⟩ <;> first | assumption | exact Below.drew (by assumption) | go_keep)) (first
    | (go_at_call 31; refine (copied_nil _).mono ?_; rintro e w' ⟨rfl, rfl⟩)
    | (go_at_call 30; refine (HID.out _).mono ?_; rintro e w' ⟨p1, k1, rfl, ho1⟩; have HO1 := Lib.hid (show OwB w0 _ p1 10 k1 (idB i1 i2 i3) from ow_base (by first | assumption | exact Below.drew (by assumption)) ho1); obtain ⟨k0, k1', k2, k3, k6⟩ := s4_of HR.out (ow_bel HO1.out); clear ho1)
    | (go_at_call 32; go_loud (refine (HU.out _ _ _ HO1.out).mono ?_; rintro e w' ⟨p3, k3', rfl, ho3⟩; rw [HWR.out] at ho3; have HO3 := Lib.hid ho3; obtain ⟨k0, k1', k2, k3, k6⟩ := s4_of HR.out (ow_bel ho3); clear ho3)))
  all_goals
    have HF := Lib.hid (row_step HR.out (ow_bel HO3.out))
    have e4 := row_cell HF.out 4; have e5 := row_cell HF.out 5; have e6 := row_cell HF.out 6; have e7 := row_cell HF.out 7; have e8 := row_cell HF.out 8
    simp only [List.getElem?_toArray, List.getElem?_cons_zero, List.getElem?_cons_succ] at e4 e5 e6 e7 e8
    clear c0 c1 c2 c3 k0 k1' k2 k3 k6
    go_wp2_with fail
    go_at_call 33; refine (vals_any w0 _ p3 (10 + 2) k3' _ _ 1 1 [Y] (puts_one w' HP.out hY) (ow_alloc HO3.out _) (by omega) (by omega) (by omega)).mono ?_; rintro e w6 ⟨p6, k6, rfl, ho6⟩
    have HO6 := Lib.hid (show OwB w w6 p6 (10 + 2 + [Y].flatten.length) k6 (repB i1 i2 i3 r Y) by have h := ow_base HB0.out ho6; rw [List.flatten_cons, List.flatten_nil, List.append_nil] at h ⊢; exact h)
    clear ho6
    obtain ⟨N, hN⟩ : ∃ N, 10 + 2 + [Y].flatten.length = N := ⟨_, rfl⟩
    rw [hN] at HO6
    rw [hN]
    go_wp2
    go_ret2
    exact ⟨p6, k6, (by rw [← HO6.out.1]; rfl), by have h := HO6.out; rw [← h.1] at h; exact h⟩
end Num
end Go.Proofs.Ytomfgncbdgifoaa
/-
  A call's bytes, read back: plain.
-/
namespace Go.Proofs.Ytomfgncbdgifoaa
open Go.RowKit
namespace Num
open Ints
set_option linter.unusedSimpArgs false
set_option linter.unusedVariables false
theorem rdU_be4 (u : Int) (h0 : 0 ≤ u) (h1 : u < 4294967296) : rdU (beI u 4) = u := by
  have h := fold_be u h0 4 0 (by omega) (by decide)
  have e : (256 : Int) ^ 4 = 4294967296 := by decide
  rw [e] at h
  unfold rdU
  rw [h]
  omega
theorem numV_be (u : Int) (k : Nat) (R : List Int) : numV k (beI u k ++ R) = rdU (beI u k) := by
  rw [numV_ge (by rw [List.length_append, beI_len]; omega), take_be]
theorem idV_put (i1 i2 i3 : Int) (g1 : 0 ≤ i1 ∧ i1 < 4294967296) (g2 : 0 ≤ i2 ∧ i2 < 4294967296) (g3 : 0 ≤ i3 ∧ i3 < 65536) (R : List Int) : idV (idB i1 i2 i3 ++ R) = (i1, i2, i3) := by
  unfold idV idB
  have d4 : ((beI i1 4 ++ (beI i2 4 ++ beI i3 2)) ++ R).drop 4 = beI i2 4 ++ (beI i3 2 ++ R) := by rw [List.append_assoc, List.append_assoc, drop_be]
  have d8 : ((beI i1 4 ++ (beI i2 4 ++ beI i3 2)) ++ R).drop 8 = beI i3 2 ++ R := by
    rw [show (8 : Nat) = 4 + 4 from rfl, ← List.drop_drop, d4, drop_be]
  rw [d4, d8, List.append_assoc, numV_be, numV_be, numV_be, rdU_be4 i1 g1.1 g1.2, rdU_be4 i2 g2.1 g2.2, rdU_be2 i3 g3.1 g3.2]
  have e1 : IntKind.u32.wrap i1 = i1 := by show i1 % 4294967296 = i1; omega
  have e2 : IntKind.u32.wrap i2 = i2 := by show i2 % 4294967296 = i2; omega
  have e3 : IntKind.u16.wrap i3 = i3 := by show i3 % 65536 = i3; omega
  rw [e1, e2, e3]
theorem nameD_put (S : ByteArray) (h : S.size ≤ 32) (R : List Int) : nameD (nmB S ++ R) = some (S, 2 + S.size) := by
  unfold nmB
  rw [List.append_assoc]
  have ht : (rdU ((beI (S.size : Int) 2 ++ (strIs S ++ R)).take 2)).toNat = S.size := by rw [take_be, rdU_be2 _ (by omega) (by omega), Int.toNat_natCast]
  unfold nameD
  rw [ht, if_pos ⟨by rw [List.length_append, beI_len]; omega, h, by rw [List.length_append, beI_len, List.length_append, strIs_len]; omega⟩, drop_be, List.take_append_of_le_length (by rw [strIs_len]; omega), List.take_of_length_le (by rw [strIs_len]; omega), strB_back]
/-- A value's bytes, whatever stands behind them, are read as the value. -/
theorem refRd_front (N : Nat) (hN : N ≤ 100000) (T : VT N) (R : List Int) (hok : okT N T) (hG : greatT N 0 T = false) (hsz : (encV N T).length ≤ 4096) : refRd N (encV N T ++ R) = some (cleanT N T, (encV N T).length) := by
  rw [← same_big N _ hN]
  have e : (encV N T ++ R).take 4096 = encV N T ++ R.take (4096 - (encV N T).length) := by rw [List.take_append, List.take_of_length_le hsz]
  unfold progR
  rw [e, dec_enc N 0 T _ hok hG]
  simp only [if_pos (check_clean N T hok hG hsz)]
theorem dec_listR {α β : Type} {dec : List Int → Option (β × Nat)} {enc : α → List Int} {f : α → β} (R : List Int) : ∀ (L : List α), (∀ x ∈ L, ∀ R, dec (enc x ++ R) = some (f x, (enc x).length)) → ∀ k, k ≤ L.length → decL dec k (L.flatMap enc ++ R) = some ((L.take k).map f, ((L.take k).flatMap enc).length) := by
  intro L h k
  induction k with
  | zero => intro _; rfl
  | succ k ih =>
    intro hk
    have hkl : k < L.length := by omega
    rw [decL, ih (by omega)]
    have e : (L.flatMap enc ++ R).drop ((L.take k).flatMap enc).length = enc L[k] ++ ((L.drop (k + 1)).flatMap enc ++ R) := by
      have e1 : L.flatMap enc = (L.take k).flatMap enc ++ (enc L[k] ++ (L.drop (k + 1)).flatMap enc) := by
        have e2 : L = L.take k ++ (L[k] :: L.drop (k + 1)) := by rw [List.getElem_cons_drop, List.take_append_drop]
        conv => lhs; rw [e2]
        rw [List.flatMap_append, List.flatMap_cons]
      rw [e1, List.append_assoc, List.drop_append_of_le_length (Nat.le_refl _), List.drop_of_length_le (Nat.le_refl _), List.nil_append, List.append_assoc]
    simp only [e, h L[k] (List.getElem_mem hkl)]
    rw [List.take_succ_eq_append_getElem hkl, List.map_append, List.flatMap_append, List.length_append]
    simp
theorem beI_one (m : Nat) (h : m < 256) : beI (m : Int) 1 = [(m : Int)] := by
  show [(m : Int) / 2 ^ (8 * 0) % 256] = _
  congr 1
  have e : (2 : Int) ^ (8 * 0) = 1 := by decide
  rw [e]; omega
theorem argsD_put (M : Nat) (hM : M < 100000) (Ts : List (VT (M + 1))) (h16 : Ts.length ≤ 16) (hT : ∀ T ∈ Ts, okT (M + 1) T ∧ greatT (M + 1) 0 T = false ∧ (encV (M + 1) T).length ≤ 4096) (R : List Int) : argsD M (beI (Ts.length : Int) 1 ++ (Ts.flatMap (encV (M + 1)) ++ R)) = some (Ts.map (cleanT (M + 1)), 1 + (Ts.flatMap (encV (M + 1))).length) := by
  rw [beI_one _ (by omega)]
  show (if 16 < (Ts.length : Int) then none else match decL (refRd (M + 1)) (Ts.length : Int).toNat _ with | none => none | some (L, j) => some (L, 1 + j)) = _
  rw [if_neg (by omega), Int.toNat_natCast]
  have h := dec_listR (dec := refRd (M + 1)) (enc := encV (M + 1)) (f := cleanT (M + 1)) R Ts (fun x hx R => refRd_front (M + 1) (by omega) x R (hT x hx).1 (hT x hx).2.1 (hT x hx).2.2) Ts.length (Nat.le_refl _)
  rw [List.take_of_length_le (Nat.le_refl _)] at h
  show (match decL (refRd (M + 1)) Ts.length (Ts.flatMap (encV (M + 1)) ++ R) with | none => none | some (L, j) => some (L, 1 + j)) = _
  rw [h]
theorem opD_put (M : Nat) (hM : M < 100000) (i1 i2 i3 : Int) (S1 S2 : ByteArray) (Ts : List (VT (M + 1))) (g1 : 0 ≤ i1 ∧ i1 < 4294967296) (g2 : 0 ≤ i2 ∧ i2 < 4294967296) (g3 : 0 ≤ i3 ∧ i3 < 65536) (h1 : S1.size ≤ 32) (h2 : S2.size ≤ 32) (h16 : Ts.length ≤ 16) (hT : ∀ T ∈ Ts, okT (M + 1) T ∧ greatT (M + 1) 0 T = false ∧ (encV (M + 1) T).length ≤ 4096) :
    opD M (putB i1 i2 i3 S1 S2 Ts.length (Ts.map (encV (M + 1)))) = some ((i1, i2, i3), S1, S2, Ts.map (cleanT (M + 1)), (putB i1 i2 i3 S1 S2 Ts.length (Ts.map (encV (M + 1)))).length) := by
  obtain ⟨X, hX⟩ : ∃ X, putB i1 i2 i3 S1 S2 Ts.length (Ts.map (encV (M + 1))) = X := ⟨_, rfl⟩
  have e0 : X = idB i1 i2 i3 ++ (nmB S1 ++ (nmB S2 ++ (beI (Ts.length : Int) 1 ++ (Ts.flatMap (encV (M + 1)) ++ [])))) := by
    rw [← hX]; unfold putB; rw [← List.flatMap_def]; simp only [List.append_assoc, List.append_nil]
  have e1 : X.drop 10 = nmB S1 ++ (nmB S2 ++ (beI (Ts.length : Int) 1 ++ (Ts.flatMap (encV (M + 1)) ++ []))) := by
    rw [e0, List.drop_append_of_le_length (by rw [idB_len]; omega), List.drop_of_length_le (by rw [idB_len]; omega), List.nil_append]
  have e2 : X.drop (10 + (2 + S1.size)) = nmB S2 ++ (beI (Ts.length : Int) 1 ++ (Ts.flatMap (encV (M + 1)) ++ [])) := by
    rw [← List.drop_drop, e1, List.drop_append_of_le_length (by rw [nmB_len]; omega), List.drop_of_length_le (by rw [nmB_len]; omega), List.nil_append]
  have e3 : X.drop (10 + (2 + S1.size) + (2 + S2.size)) = beI (Ts.length : Int) 1 ++ (Ts.flatMap (encV (M + 1)) ++ []) := by
    rw [← List.drop_drop, e2, List.drop_append_of_le_length (by rw [nmB_len]; omega), List.drop_of_length_le (by rw [nmB_len]; omega), List.nil_append]
  have hlen : X.length = 10 + (2 + S1.size) + (2 + S2.size) + (1 + (Ts.flatMap (encV (M + 1))).length) := by
    rw [e0]; simp only [List.length_append, idB_len, nmB_len, beI_len, List.length_nil]; omega
  rw [hX]
  unfold opD
  rw [if_neg (by omega), e1, nameD_put S1 h1]
  simp only
  rw [e2, nameD_put S2 h2]
  simp only
  rw [e3, argsD_put M hM Ts h16 hT []]
  simp only
  rw [e0, idV_put i1 i2 i3 g1 g2 g3, ← e0, hlen]
theorem repD_put (M : Nat) (hM : M < 100000) (i1 i2 i3 : Int) (r : Int) (T : VT (M + 1)) (g1 : 0 ≤ i1 ∧ i1 < 4294967296) (g2 : 0 ≤ i2 ∧ i2 < 4294967296) (g3 : 0 ≤ i3 ∧ i3 < 65536) (gr : 0 ≤ r ∧ r < 65536) (hok : okT (M + 1) T) (hG : greatT (M + 1) 0 T = false) (hsz : (encV (M + 1) T).length ≤ 4096) :
    repD M (repB i1 i2 i3 r (encV (M + 1) T)) = some ((i1, i2, i3), r, cleanT (M + 1) T, (repB i1 i2 i3 r (encV (M + 1) T)).length) := by
  obtain ⟨X, hX⟩ : ∃ X, repB i1 i2 i3 r (encV (M + 1) T) = X := ⟨_, rfl⟩
  have e0 : X = idB i1 i2 i3 ++ (beI r 2 ++ (encV (M + 1) T ++ [])) := by
    rw [← hX]; unfold repB; simp only [List.append_assoc, List.append_nil]
  have e1 : X.drop 10 = beI r 2 ++ (encV (M + 1) T ++ []) := by
    rw [e0, List.drop_append_of_le_length (by rw [idB_len]; omega), List.drop_of_length_le (by rw [idB_len]; omega), List.nil_append]
  have e2 : X.drop 12 = encV (M + 1) T ++ [] := by
    rw [show (12 : Nat) = 10 + 2 from rfl, ← List.drop_drop, e1, drop_be]
  have hlen : X.length = 12 + (encV (M + 1) T).length := by
    rw [e0]; simp only [List.length_append, idB_len, beI_len, List.length_nil]; omega
  rw [hX]
  unfold repD
  rw [if_neg (by omega), e2, refRd_front (M + 1) (by omega) T [] hok hG hsz]
  simp only
  rw [e1, take_be, rdU_be2 r gr.1 gr.2, e0, idV_put i1 i2 i3 g1 g2 g3, ← e0, hlen]
end Num
end Go.Proofs.Ytomfgncbdgifoaa
