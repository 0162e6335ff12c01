/-
  OrchSteps: the walk.
-/
import Derived.Test.YtpbfaffheigjcaaZI
import Derived.Test.YtpbfaffheigjcaaZH
import Derived.Test.YtpbfaffheigjcaaWB
import Derived.Test.YtpbfaffheigjcaaUA
import Derived.Deep.RegionLaw
namespace Go.Proofs.Ytpbfaffheigjcaa
open Go.RowKit
namespace Num
open Ints
set_option linter.unusedSimpArgs false
set_option linter.unusedVariables false
def bxs (X : List Int) (j : Nat) : UInt8 := UInt8.ofNat (X[j]?.getD 0).toNat
theorem bxs_nat {X : List Int} (hX : By X) {j : Nat} (h : j < X.length) : ((bxs X j).toNat : Int) = X[j] := by
  have h1 := hX X[j] (List.getElem_mem h)
  unfold bxs
  rw [List.getElem?_eq_getElem h, Option.getD_some, UInt8.toNat_ofNat']
  omega
def SSO (X : List Int) (x i : Nat) : List (StepD 1) := (List.range i).map fun j => stepO (bxs X j) j x
def LSO (X : List Int) (x i : Nat) : List (VT 2) := (List.range i).map fun j => stepV 0 (stepO (bxs X j) j x)
theorem sso_tree (X : List Int) (x i : Nat) : (SSO X x i).map (stepV 0) = LSO X x i := by unfold SSO LSO; rw [List.map_map]; rfl
theorem sso_clean (X : List Int) (x i : Nat) : (SSO X x i).map (stepC 1) = SSO X x i := by
  unfold SSO
  rw [List.map_map]
  exact List.map_congr_left (fun j _ => stepO_clean _ _ _)
theorem lso_succ (X : List Int) (x i : Nat) : LSO X x (i + 1) = LSO X x i ++ [stepV 0 (stepO (bxs X i) i x)] := by unfold LSO; rw [List.range_succ, List.map_append]; rfl
theorem lso_easy (X : List Int) (x i : Nat) (hx : x < 6) : ∀ T ∈ LSO X x i, EasyO 1 T := fun T hT => by
  obtain ⟨j, _, rfl⟩ := List.mem_map.1 hT
  exact (stepO_all _ _ _ hx).1
theorem lso_all (X : List Int) (x i : Nat) (hx : x < 6) : (LSO X x i).all (stT 1) = true := List.all_eq_true.2 fun T hT => by
  obtain ⟨j, _, rfl⟩ := List.mem_map.1 hT
  exact (stepO_all _ _ _ hx).2.1
theorem sso_cl (X : List Int) (x i : Nat) (hx : x < 6) : ∀ s ∈ SSO X x i, CleanL 1 s.2.2 := fun s hs => by
  obtain ⟨j, _, rfl⟩ := List.mem_map.1 hs
  exact (stepO_all (bxs X j) j x hx).2.2
theorem sso_at (X : List Int) (x l i : Nat) (h : i < (SSO X x l).length) : (SSO X x l)[i] = stepO (bxs X i) i x := by
  simp only [SSO, List.getElem_map, List.getElem_range]
theorem sso_len (X : List Int) (x l : Nat) : (SSO X x l).length = l := by unfold SSO; rw [List.length_map, List.length_range]
/-- Plan of the law's steps. -/
theorem plan_sso (X : List Int) (x : Nat) (hx : x < 6) (p : Option Addr) (l c : Nat) (w : World) (h1 : 1 ≤ l) (h8 : l ≤ 8) (hr : RepL w (Rep w 2) p l c (LSO X x l)) :
    Calls Try.prog 14 #[.slice p l c] w fun e w' => ∃ p' c', e = .returned (.tuple #[.slice p' l c', .int .i64 0]) ∧ Below w.heap.size w w' ∧ RepSt w' 1 p' l c' (SSO X x l) := by
  have hd : (decide (1 ≤ l) && decide (l ≤ 8)) = true := by simp [h1, h8]
  refine (plan_any 0 p l c (SSO X x l) w (by rw [sso_tree]; exact hr) (by omega) (Lib.hid (fun W hW => check_runO 1 p l c (LSO X x l) W (repL_keep hW (fun v T hv => rep_keep hW _ _ _ hv) hr) (lso_easy X x l hx) true true hd (lso_all X x l hx))) (sso_cl X x l hx)).mono ?_
  rintro e w' ⟨p', c', rfl, ho⟩
  rw [sso_clean] at ho
  exact ⟨p', c', rfl, ost_bel ho, ost_rep ho⟩
theorem row_set4O {w : World} {b : Nat} {x0 x1 x2 x3 x4 : Value} {t : TypeId} (h : w.heap[b]? = some (.cells #[x0, x1, x2, x3, x4] t (0, 0))) (v : Value) : (w.setCell ⟨b, 4, none⟩ v).heap[b]? = some (.cells #[x0, x1, x2, x3, v] t (0, 0)) := by
  simp [World.setCell, Array.getElem?_modify, h]
theorem ol_bel {W0 w : World} {n : Nat} {p : Option Addr} {l c : Nat} {L : List (VT n)} (h : OwL W0 w n p l c L) : Below W0.heap.size W0 w := by obtain ⟨XS, _, _, h3, _⟩ := h; exact h3
/-- What is read of a step and its name's byte. -/
def S21 (b5 i : Nat) (bx : UInt8) (q : Option Addr) (x d nb no : Nat) (u : Int) (z : World) : Prop := z.cell? ⟨b5, i * 3, none⟩ = some (.string ⟨#[103, bx]⟩) ∧ z.cell? ⟨b5, i * 3 + 1, none⟩ = some (.string ⟨#[109, bx]⟩) ∧ z.cell? ⟨b5, i * 3 + 2, none⟩ = some (.slice q x d) ∧ z.cell? ⟨nb, no + i, none⟩ = some (.int .u8 u)
theorem s21_step {b5 i : Nat} {bx : UInt8} {q : Option Addr} {x d nb no : Nat} {u : Int} {z z' : World} (h : S21 b5 i bx q x d nb no u z) (hb : Below z.heap.size z z') : S21 b5 i bx q x d nb no u z' := ⟨cell_keep hb h.1, cell_keep hb h.2.1, cell_keep hb h.2.2.1, cell_keep hb h.2.2.2⟩
/-- A step's third cell, and what it leads to. -/
theorem st_args {w : World} {b5 i x : Nat} {bx : UInt8} {q : Option Addr} {m d : Nat} (hr : Rep w 2 (listV q m d) (listW (intsO i x))) : m = x ∧ ∀ k, k < x → ∃ b3 o3, q = some ⟨b3, o3, none⟩ ∧ w.cell? ⟨b3, o3 + k * 5 + 1, none⟩ = some (.int .i64 ((i : Int) + (k : Int))) := by
  obtain ⟨p, l, c, hv, _, _, _, _, hl, hlc, hcm, hit⟩ := hr
  injection hv with hv
  simp only [Array.mk.injEq, List.cons.injEq, and_true] at hv
  obtain ⟨_, _, _, _, hv⟩ := hv
  injection hv with e1 e2 e3
  subst e1 e2 e3
  have hlen : (intsO i x).length = x := by unfold intsO; rw [List.length_map, List.length_range]
  have hm : m = x := hl.symm.trans hlen
  subst hm
  refine ⟨rfl, fun k hk => ?_⟩
  obtain ⟨b3, o3, rfl, hi⟩ := hit (by omega)
  obtain ⟨v0, v1, v2, v3, v4, c0, c1, c2, c3, c4, hv⟩ := hi k (by show k < (intsO i m).length; omega)
  have he : (intsO i m)[k]'(by omega) = ((1, ((i : Int) + (k : Int)), 0, ⟨#[]⟩, []) : VT 1) := by unfold intsO; rw [List.getElem_map, List.getElem_range]
  have hv' : Rep w 1 (.agg #[v0, v1, v2, v3, v4]) ((intsO i m)[k]'(by omega)) := hv
  rw [he] at hv'
  obtain ⟨q2, m2, d2, hv2, _⟩ := hv'
  injection hv2 with hv2
  simp only [Array.mk.injEq, List.cons.injEq, and_true] at hv2
  obtain ⟨_, rfl, _⟩ := hv2
  exact ⟨b3, o3, rfl, c1⟩
set_option maxRecDepth 100000 in
set_option maxHeartbeats 4000000 in
theorem orch_in (p : Option Addr) (l c : Nat) (X : List Int) (nk : Nat) (w : World) (h : RdB w p l c X) (hX : By X) (hnk : nk < 256) :
    Calls Try.prog 5 #[.slice p l c, .int .u8 nk] w fun e w' => e = .returned (.bool true) ∧ Below w.heap.size w w' := by
  obtain ⟨x, hx⟩ : ∃ x, nk % 6 = x := ⟨_, rfl⟩
  have hx6 : x < 6 := by omega
  have x1 : ((nk : Int) % 6) = (x : Int) := by omega
  have x2 : (nk : Int).tmod 6 = (x : Int) := by rw [Int.tmod_eq_emod_of_nonneg (by omega)]; omega
  have hlen := h.1
  have hcm := h.2.2.1
  have hlc := h.2.1
  unfold maxLen at hcm
  have HX := Lib.hid h
  have HBY := Lib.hid hX
  have HLEN := Lib.hid hlen
  clear hx h hX hlen
  by_cases h0 : l = 0
  · subst h0
    clear x1 x2
    go_enter Try.func5, Try.ntmps5
    go_wp2_with (go_at_call 13; refine (known13 _).mono ?_; rintro e w1 ⟨rfl, hb1⟩)
    go_ret
    exact ⟨rfl, hb1⟩
  have g0 : ((l : Int) == 0) = false := by rw [beq_eq_false_iff_ne]; omega
  by_cases h8 : 8 < l
  · have g8 : (8 : Int) < (l : Int) := by omega
    clear x1 x2 h0
    go_enter Try.func5, Try.ntmps5
    go_wp2_with (go_at_call 13; refine (known13 _).mono ?_; rintro e w1 ⟨rfl, hb1⟩)
    go_ret
    exact ⟨rfl, hb1⟩
  have g8 : ¬ (8 : Int) < (l : Int) := by omega
  have HL8 := Lib.hid (show 1 ≤ l ∧ l ≤ 8 by omega)
  clear h0 h8
  go_enter Try.func5, Try.ntmps5
  go_wp2_with fail
  go_at_call 13; refine (known13 _).mono ?_; rintro e w1 ⟨rfl, hb1⟩
  have HB1 := Lib.hid hb1
  have HZ := Lib.hid (ol_nil w1 w1 2 (Below.refl _ _) (Nat.le_refl _))
  clear hb1
  go_wp2
  clear g0 g8
  go_loopw [5, 6] (fun lv iv wr => ∃ (i : Nat) (p' : Option Addr) (c' : Nat), i ≤ l ∧ iv = .int .i64 i ∧ lv = .slice p' i c' ∧ OwL w1 wr 2 p' i c' (LSO X x i)) (fun _ iv _ => l - (intOf iv).toNat)
  case atStart => exact ⟨0, none, 0, by omega, rfl, rfl, HZ.out⟩
  case round =>
    obtain ⟨i, p', c', hi0, rfl, rfl, hO⟩ := hrel
    obtain ⟨wo, rfl⟩ : ∃ wo, wo = wr := ⟨_, rfl⟩
    have HO := Lib.hid hO
    clear hO HZ
    by_cases hlt : i < l
    · obtain ⟨nb, no, hpb, hit⟩ := HX.out.2.2.2.1 (by omega)
      subst hpb
      have hix : i < X.length := by have := HLEN.out; omega
      have hcw := hit i hix
      have HBX := Lib.hid (bxs_nat HBY.out hix)
      obtain ⟨u, hu⟩ : ∃ u, X[i] = u := ⟨_, rfl⟩
      have HLS := Lib.hid (lso_succ X x i)
      rw [hu] at hcw HBX
      obtain ⟨bx, hbx⟩ : ∃ bx, bxs X i = bx := ⟨_, rfl⟩
      rw [hbx] at HBX HLS
      have HBW := Lib.hid (bel_step HB1.out (ol_bel HO.out))
      have hcell := cell_keep HBW.out hcw
      have hnb : nb < wo.heap.size := cell_lt hcell
      have hi1 : (0 : Int) ≤ (i : Int) := by omega
      have hi2 : (i : Int) < (l : Int) := by omega
      have hi9 : i ≤ 8 := by have := HL8.out; omega
      clear hu hbx hit hcw hix
      go_upto_region 9 with fail
      refine os9_any wo nb no i l c u bx _ _ _ _ _ _ _ _ _ _ _ _ _ _ _ _ _ _ _ _ _ _ _ _ _ _ _ _ _ _ _ _ _ _ _ _ _ _ _ _ _ _ _ _ _ _ _ _ _ _ _ _ _ _ _ _ _ _ _ _ _ _ _ _ _ _ _ _ _ _ _ _ _ _ _ _ _ _ _ _ _ _ _ _ _ _ _ _ _ _ _ _ _ _ _ _ _ _ _ _ _ _ _ _ _ _ _ _ _ _ _ _ _ _ _ _ _ _ _ _ _ _ _ _ _ _ _ _ _ _ _ _ _ _ _ _ _ _ _ _ _ _ _ _ _ (fun _ _ d _ _ h => by cases d <;> exact h) hcell hnb HBX hi1 hi2 ?_
      intro gA gB gE ob w5 hcut
      obtain ⟨hrow, hF, hne, hbel, hob⟩ := hcut
      have HR4 := Lib.hid hrow
      have HF4 := Lib.hid hF
      have HNE := Lib.hid (show (Value.slice (some ⟨gE, 0, none⟩) 2 2).ownBlock ≠ some ob from fun e => by injection e with e; exact hne e.symm)
      have HB5 := Lib.hid hbel
      clear hrow hF hne hbel hcell hnb
      go_wp2
      go_loopw [8] (fun jv wr => ∃ (j : Nat) (q : Option Addr) (d : Nat), j ≤ x ∧ jv = .int .i64 j ∧ wr.heap[ob]? = some (.cells #[.int .i64 4, .int .i64 0, .float .f64 0, .string ⟨#[]⟩, .slice q (j + 2) d] 27 (0, 0)) ∧ OwF wo wr q (j + 2) d (stepL bx i j) ∧ (Value.slice q (j + 2) d).ownBlock ≠ some ob ∧ Below wo.heap.size wo wr) (fun jv _ => x - (intOf jv).toNat)
      case atStart => exact ⟨0, _, _, by omega, rfl, HR4.out, HF4.out, HNE.out, HB5.out⟩
      case round =>
        obtain ⟨j, q, d, hj0, rfl, hrow, hF, hnb, hB⟩ := hrel
        rename World => wj
        have HRW := Lib.hid hrow
        have HF := Lib.hid hF
        have HNB := Lib.hid hnb
        have HBJ := Lib.hid hB
        have hltb := row_lt hrow
        have b4 := row_cell hrow 4
        simp only [List.getElem?_toArray, List.getElem?_cons_zero, List.getElem?_cons_succ] at b4
        by_cases hjx : j < x
        · have hjx' : (j : Int) < (x : Int) := by omega
          have hwp : IntKind.i64.wrap ((i : Int) + (j : Int)) = (i : Int) + (j : Int) := by rw [IntKind.wrap_i64]; omega
          clear hrow hF hnb hB
          go_wp2
          go_region_law (first
            | (go_simp; go_at_call 18; refine (int_ref_any ((i : Int) + (j : Int)) _).mono ?_; rintro e w6 ⟨rfl, hb6⟩; have HBX6 := Lib.hid (bel_step (w := wj) (y := wj.drew) (Below.drew (Below.refl _ _)) hb6); have HRX := Lib.hid (row_step HRW.out HBX6.out); have HFX := Lib.hid (of_keep HF.out HBX6.out); have ltX := row_lt HRX.out; have z4 := row_cell HRX.out 4; (simp only [List.getElem?_toArray, List.getElem?_cons_zero, List.getElem?_cons_succ] at z4); clear hb6)
            | (refine step_of (by rfl) _ _ (by rfl) wo w6 q (j + 2) d (stepL bx i j) ((i : Int) + (j : Int)) (by rfl) (by rfl) HFX.out (Nat.le_trans HBJ.out.size HBX6.out.size) (by omega) ?_; intro p' c' w7 ho hg hw; have HRN := Lib.hid ((hg.block _ ltX (fun e => HNB.out e.symm)).trans HRX.out); have HFN := Lib.hid ho; have HBN := Lib.hid (Below.grown (bel_step HBJ.out HBX6.out) hg (Nat.le_trans HBJ.out.size HBX6.out.size) (of_ge HF.out)); have HNN := Lib.hid (own_no (B := ob) HNB.out ltX hw); have ltN := row_lt HRN.out; have y4 := row_cell HRN.out 4; (simp only [List.getElem?_toArray, List.getElem?_cons_zero, List.getElem?_cons_succ] at y4); have yf := row_frz HRN.out 4; clear ho hg hw))
          all_goals
            go_wp2
            go_roundw
            case rel => exact ⟨j + 1, _, _, by omega, by go_num, row_set4O HRN.out _, (by rw [stepL_succ]; exact of_store HFN.out HNN.out _), HNN.out, HBN.out.setCell (p := ⟨ob, 4, none⟩) hob _⟩
            case measure => simp [intOf]; omega
        · obtain rfl : j = x := by omega
          have b0 := row_cell hrow 0; have b1 := row_cell hrow 1; have b2 := row_cell hrow 2; have b3 := row_cell hrow 3
          simp only [List.getElem?_toArray, List.getElem?_cons_zero, List.getElem?_cons_succ] at b0 b1 b2 b3
          have HOM := Lib.hid (om_keep HO.out hB)
          have hrep := of_repC (S := fun b => Fr w1 wj (.slice p' i c') b ∧ wo.heap.size ≤ b) hF (good_stepL bx i j (by omega) (by omega)) (fun b hb => by
            have hge := of_ge hF b hb
            have hlt : b < wj.heap.size := by obtain ⟨XS, h1, _⟩ := hF; exact (h1.lt b hb).2
            have how := HO.out
            have hlo := ol_lt how
            obtain ⟨XS, _, _, hb1, hs1, _⟩ := how
            exact ⟨⟨by omega, hlt, fun e => by have := (hlo b e).2; omega⟩, hge⟩)
          rw [stepL_tree] at hrep
          have HREP := Lib.hid hrep
          clear hrow hF hnb hB hrep
          go_wp2_with (at_builtin; refine wp_ov1 rfl _ _ rfl wo.heap.size w1 wj 2 p' i c' _ _ _ _ _ _ (stepV 0 (stepO bx i j)) rfl rfl HOM.out (by omega) HREP.out ?_; intro p2 c2 w8 ho8)
          go_roundw
          case rel => exact ⟨i + 1, p2, c2, by omega, by go_num, rfl, by rw [HLS.out]; exact ho8⟩
          case measure => simp [intOf]; omega
    · obtain rfl : i = l := by omega
      have HPL := Lib.hid (plan_sso X x hx6 p' i c' wo HL8.out.1 HL8.out.2 (repLS_rep (ol_rep HO.out)))
      have HBW := Lib.hid (bel_step HB1.out (ol_bel HO.out))
      have hi0' : (0 : Int) ≤ (i : Int) := by omega
      go_wp2_with fail
      go_at_call 14; refine HPL.out.mono ?_; rintro e w2 ⟨p5, c5, rfl, hb2, hst⟩
      have HB2 := Lib.hid (bel_step HBW.out hb2)
      have HST := Lib.hid hst
      clear hb2 hst HPL HBW HO
      go_wp2
      go_loopw [11] (fun iv wr => ∃ m : Nat, m ≤ i ∧ iv = .int .i64 m ∧ Below w2.heap.size w2 wr) (fun iv _ => i - (intOf iv).toNat)
      case atStart => exact ⟨0, by omega, rfl, Below.refl _ _⟩
      case round =>
        obtain ⟨m, hm0, rfl, hB⟩ := hrel
        have HB := Lib.hid hB
        obtain ⟨l, hl⟩ : ∃ l, l = i := ⟨_, rfl⟩
        by_cases hlt : m < i
        · obtain ⟨nb, no, hpb, hit⟩ := HX.out.2.2.2.1 (by omega)
          subst hpb
          have hix : m < X.length := by have := HLEN.out; omega
          have hcw := hit m hix
          have HBX := Lib.hid (bxs_nat HBY.out hix)
          obtain ⟨u, hu⟩ : ∃ u, X[m] = u := ⟨_, rfl⟩
          rw [hu] at hcw HBX
          obtain ⟨b5, hp5, hst⟩ := (repSt_keep HST.out hB).2.2.2 (by omega)
          subst hp5
          obtain ⟨q, mm, d, s0, s1, s2, hr⟩ := hst m (by rw [sso_len]; exact hlt)
          rw [sso_at] at s0 s1 hr
          obtain ⟨bx, hbx⟩ : ∃ bx, bxs X m = bx := ⟨_, rfl⟩
          rw [hbx] at HBX s0 s1 hr
          obtain ⟨rfl, hargs⟩ := st_args (b5 := b5) (bx := bx) hr
          have hcell := cell_keep (bel_step HB2.out hB) hcw
          have HS0 := Lib.hid (show S21 b5 m bx q mm d nb no u wr.drew ∧ Below wr.heap.size wr wr.drew from ⟨⟨s0, s1, s2, hcell⟩, Below.drew (Below.refl _ _)⟩)
          have HAR := Lib.hid hargs
          have hm1 : (0 : Int) ≤ (m : Int) := by omega
          have hm2 : (m : Int) < (i : Int) := by omega
          have hmm : (mm : Int) ≤ 5 := by omega
          have hm8 : (m : Int) ≤ 8 := by have := HL8.out; omega
          have hwu : IntKind.u8.wrap (mm : Int) = (mm : Int) := by show IntKind.wrap .u8 (mm : Int) = _; unfold IntKind.wrap; simp [IntKind.signed, IntKind.bits]; omega
          have hwi : IntKind.i64.wrap (mm : Int) = (mm : Int) := by rw [IntKind.wrap_i64]; omega
          clear hu hbx hit hcw hix hst s0 s1 s2 hr hcell hB hargs
          go_upto_region 21 with fail
          refine wp_region_held_drew (S := (fun z => z.cell? ⟨b5, m * 3, none⟩ = some (.string ⟨#[103, bx]⟩) ∧ z.cell? ⟨b5, m * 3 + 1, none⟩ = some (.string ⟨#[109, bx]⟩) ∧ z.cell? ⟨b5, m * 3 + 2, none⟩ = some (.slice q mm d) ∧ z.cell? ⟨nb, no + m, none⟩ = some (.int .u8 u))) (by kernel_rfl) ?_ (fun hHeld => ?_)
          · exact HS0.out.1
          revert HS0 hHeld
          generalize wr.drew = Wd
          intro HS0 hHeld
          refine wpAnyH_take (i := 0) (oi := ?_) (v := ?_) ?hia0 (by kernel_rfl) ?hfa0 ?hra0 ?hQa0 ?hya0 (by assumption) ?resta0
          case hia0 => (simp only [List.getElem?_toArray, List.getElem?_cons_zero, List.getElem?_cons_succ]; rfl)
          case hfa0 => kernel_rfl
          case hra0 => kernel_rfl
          case hya0 => (refine Or.inl ⟨by rfl, ?_⟩; intro wS hSw; (try dsimp only at hSw); go_simp; (try with_reducible rfl))
          case hQa0 => exact fun _ _ _ h => h
          (try simp only [Act.put, List.setIfInBounds_toArray, List.set_cons_zero, List.set_cons_succ])
          refine wpAnyH_take (i := 1) (oi := ?_) (v := ?_) ?hia1 (by kernel_rfl) ?hfa1 ?hra1 ?hQa1 ?hya1 (by assumption) ?resta1
          case hia1 => (simp only [List.getElem?_toArray, List.getElem?_cons_zero, List.getElem?_cons_succ]; rfl)
          case hfa1 => kernel_rfl
          case hra1 => kernel_rfl
          case hya1 => (refine Or.inl ⟨by rfl, ?_⟩; intro wS hSw; (try dsimp only at hSw); go_simp; (try with_reducible rfl))
          case hQa1 => exact fun _ _ _ h => h
          (try simp only [Act.put, List.setIfInBounds_toArray, List.set_cons_zero, List.set_cons_succ])
          refine wpAnyH_take (i := 2) (oi := ?_) (v := ?_) ?hia2 (by kernel_rfl) ?hfa2 ?hra2 ?hQa2 ?hya2 (by assumption) ?resta2
          case hia2 => (simp only [List.getElem?_toArray, List.getElem?_cons_zero, List.getElem?_cons_succ]; rfl)
          case hfa2 => kernel_rfl
          case hra2 => kernel_rfl
          case hya2 => (refine Or.inl ⟨by rfl, ?_⟩; intro wS hSw; (try dsimp only at hSw); go_simp; (try with_reducible rfl))
          case hQa2 => exact fun _ _ _ h => h
          (try simp only [Act.put, List.setIfInBounds_toArray, List.set_cons_zero, List.set_cons_succ])
          refine wpAnyH_take (i := 3) (oi := ?_) (v := ?_) ?hia3 (by kernel_rfl) ?hfa3 ?hra3 ?hQa3 ?hya3 (by assumption) ?resta3
          case hia3 => (simp only [List.getElem?_toArray, List.getElem?_cons_zero, List.getElem?_cons_succ]; rfl)
          case hfa3 => kernel_rfl
          case hra3 => kernel_rfl
          case hya3 => (refine Or.inl ⟨by rfl, ?_⟩; intro wS hSw; (try dsimp only at hSw); go_simp; (try with_reducible rfl))
          case hQa3 => exact fun _ _ _ h => h
          (try simp only [Act.put, List.setIfInBounds_toArray, List.set_cons_zero, List.set_cons_succ])
          refine wpAnyH_take (i := 4) (oi := ?_) (v := ?_) ?hia4 (by kernel_rfl) ?hfa4 ?hra4 ?hQa4 ?hya4 (by assumption) ?resta4
          case hia4 => (simp only [List.getElem?_toArray, List.getElem?_cons_zero, List.getElem?_cons_succ]; rfl)
          case hfa4 => kernel_rfl
          case hra4 => kernel_rfl
          case hya4 => (refine Or.inl ⟨by rfl, ?_⟩; intro wS hSw; (try dsimp only at hSw); go_simp; (try with_reducible rfl))
          case hQa4 => exact fun _ _ _ h => h
          (try simp only [Act.put, List.setIfInBounds_toArray, List.set_cons_zero, List.set_cons_succ])
          refine wpAnyH_take (i := 5) (oi := ?_) (v := ?_) ?hia5 (by kernel_rfl) ?hfa5 ?hra5 ?hQa5 ?hya5 (by assumption) ?resta5
          case hia5 => (simp only [List.getElem?_toArray, List.getElem?_cons_zero, List.getElem?_cons_succ]; rfl)
          case hfa5 => kernel_rfl
          case hra5 => kernel_rfl
          case hya5 => (refine Or.inl ⟨by rfl, ?_⟩; intro wS hSw; (try dsimp only at hSw); go_simp; (try with_reducible rfl))
          case hQa5 => exact fun _ _ _ h => h
          (try simp only [Act.put, List.setIfInBounds_toArray, List.set_cons_zero, List.set_cons_succ])
          refine wpAnyH_take (i := 6) (oi := ?_) (v := ?_) ?hia6 (by kernel_rfl) ?hfa6 ?hra6 ?hQa6 ?hya6 (by assumption) ?resta6
          case hia6 => (simp only [List.getElem?_toArray, List.getElem?_cons_zero, List.getElem?_cons_succ]; rfl)
          case hfa6 => kernel_rfl
          case hra6 => kernel_rfl
          case hya6 => (refine Or.inl ⟨by rfl, ?_⟩; intro wS hSw; (try dsimp only at hSw); go_simp; (try with_reducible rfl))
          case hQa6 => exact fun _ _ _ h => h
          (try simp only [Act.put, List.setIfInBounds_toArray, List.set_cons_zero, List.set_cons_succ])
          refine wpAnyH_take (i := 7) (oi := ?_) (v := ?_) ?hia7 (by kernel_rfl) ?hfa7 ?hra7 ?hQa7 ?hya7 (by assumption) ?resta7
          case hia7 => (simp only [List.getElem?_toArray, List.getElem?_cons_zero, List.getElem?_cons_succ]; rfl)
          case hfa7 => kernel_rfl
          case hra7 => kernel_rfl
          case hya7 => (refine Or.inl ⟨by rfl, ?_⟩; intro wS hSw; (try dsimp only at hSw); go_simp; (try with_reducible rfl))
          case hQa7 => exact fun _ _ _ h => h
          (try simp only [Act.put, List.setIfInBounds_toArray, List.set_cons_zero, List.set_cons_succ])
          refine wpAnyH_take (i := 8) (oi := ?_) (v := ?_) ?hia8 (by kernel_rfl) ?hfa8 ?hra8 ?hQa8 ?hya8 (by assumption) ?resta8
          case hia8 => (simp only [List.getElem?_toArray, List.getElem?_cons_zero, List.getElem?_cons_succ]; rfl)
          case hfa8 => kernel_rfl
          case hra8 => kernel_rfl
          case hya8 => (refine Or.inl ⟨by rfl, ?_⟩; intro wS hSw; (try dsimp only at hSw); go_simp; (try with_reducible rfl))
          case hQa8 => exact fun _ _ _ h => h
          (try simp only [Act.put, List.setIfInBounds_toArray, List.set_cons_zero, List.set_cons_succ])
          refine wpAnyH_ready (rs := [9]) (by kernel_rfl) (by simp) ?_
          refine AllReadyH.cons (o := ?_) ?hob9 ?hstb9 AllReadyH.nil
          case hob9 => (simp only [List.getElem?_toArray, List.getElem?_cons_zero, List.getElem?_cons_succ]; rfl)
          intro K hK
          go_simp
          have HS1 := Lib.hid (show S21 b5 m bx q mm d nb no u _ ∧ Below wr.heap.size wr _ from ⟨s21_step HS0.out.1 (bel_alloc (Below.refl _ _) (.cells #[.int .u8 103, .int .u8 u] 5)), bel_alloc HS0.out.2 (.cells #[.int .u8 103, .int .u8 u] 5)⟩); have hrow1 := row_alloc Wd #[.int .u8 103, .int .u8 u] 5
          skip
          refine hK.out _ _ ?hsb9 (fun hHeld => ?_)
          case hsb9 => exact HS1.out.1
          clear hK K
          (try simp only [Act.put, List.setIfInBounds_toArray, List.set_cons_zero, List.set_cons_succ])
          refine wpAnyH_ready (rs := [10]) (by kernel_rfl) (by simp) ?_
          refine AllReadyH.cons (o := ?_) ?hoc10 ?hstc10 AllReadyH.nil
          case hoc10 => (simp only [List.getElem?_toArray, List.getElem?_cons_zero, List.getElem?_cons_succ]; rfl)
          intro K hK
          have hcv := conv2O (cap := 2) (b := 103) (b' := bx) rfl HBX.out hrow1; go_simp
          clear hcv
          go_wp2_with fail
          refine hK.out _ _ ?hsc10 (fun hHeld => ?_)
          case hsc10 => exact HS1.out.1
          clear hK K
          (try simp only [Act.put, List.setIfInBounds_toArray, List.set_cons_zero, List.set_cons_succ])
          refine wpAnyH_take (i := 11) (oi := ?_) (v := ?_) ?hid11 (by kernel_rfl) ?hfd11 ?hrd11 ?hQd11 ?hyd11 (by assumption) ?restd11
          case hid11 => (simp only [List.getElem?_toArray, List.getElem?_cons_zero, List.getElem?_cons_succ]; rfl)
          case hfd11 => kernel_rfl
          case hrd11 => kernel_rfl
          case hyd11 => (refine Or.inl ⟨by rfl, ?_⟩; intro wS hSw; (try dsimp only at hSw); go_simp; (try with_reducible rfl))
          case hQd11 => exact fun _ _ _ h => h
          (try simp only [Act.put, List.setIfInBounds_toArray, List.set_cons_zero, List.set_cons_succ])
          refine wpAnyH_take (i := 12) (oi := ?_) (v := ?_) ?hid12 (by kernel_rfl) ?hfd12 ?hrd12 ?hQd12 ?hyd12 (by assumption) ?restd12
          case hid12 => (simp only [List.getElem?_toArray, List.getElem?_cons_zero, List.getElem?_cons_succ]; rfl)
          case hfd12 => kernel_rfl
          case hrd12 => kernel_rfl
          case hyd12 => (refine Or.inl ⟨by rfl, ?_⟩; intro wS hSw; (try dsimp only at hSw); go_simp; (try with_reducible rfl))
          case hQd12 => exact fun _ _ _ h => h
          (try simp only [Act.put, List.setIfInBounds_toArray, List.set_cons_zero, List.set_cons_succ])
          refine wpAnyH_take (i := 13) (oi := ?_) (v := ?_) ?hid13 (by kernel_rfl) ?hfd13 ?hrd13 ?hQd13 ?hyd13 (by assumption) ?restd13
          case hid13 => (simp only [List.getElem?_toArray, List.getElem?_cons_zero, List.getElem?_cons_succ]; rfl)
          case hfd13 => kernel_rfl
          case hrd13 => kernel_rfl
          case hyd13 => (refine Or.inl ⟨by rfl, ?_⟩; intro wS hSw; (try dsimp only at hSw); go_simp; (try with_reducible rfl))
          case hQd13 => exact fun _ _ _ h => h
          (try simp only [Act.put, List.setIfInBounds_toArray, List.set_cons_zero, List.set_cons_succ])
          refine wpAnyH_take (i := 14) (oi := ?_) (v := ?_) ?hid14 (by kernel_rfl) ?hfd14 ?hrd14 ?hQd14 ?hyd14 (by assumption) ?restd14
          case hid14 => (simp only [List.getElem?_toArray, List.getElem?_cons_zero, List.getElem?_cons_succ]; rfl)
          case hfd14 => kernel_rfl
          case hrd14 => kernel_rfl
          case hyd14 => (refine Or.inl ⟨by rfl, ?_⟩; intro wS hSw; (try dsimp only at hSw); go_simp; (try with_reducible rfl))
          case hQd14 => exact fun _ _ _ h => h
          (try simp only [Act.put, List.setIfInBounds_toArray, List.set_cons_zero, List.set_cons_succ])
          refine wpAnyH_take (i := 15) (oi := ?_) (v := ?_) ?hid15 (by kernel_rfl) ?hfd15 ?hrd15 ?hQd15 ?hyd15 (by assumption) ?restd15
          case hid15 => (simp only [List.getElem?_toArray, List.getElem?_cons_zero, List.getElem?_cons_succ]; rfl)
          case hfd15 => kernel_rfl
          case hrd15 => kernel_rfl
          case hyd15 => (refine Or.inl ⟨by rfl, ?_⟩; intro wS hSw; (try dsimp only at hSw); go_simp; (try with_reducible rfl))
          case hQd15 => exact fun _ _ _ h => h
          (try simp only [Act.put, List.setIfInBounds_toArray, List.set_cons_zero, List.set_cons_succ])
          refine wpAnyH_take (i := 16) (oi := ?_) (v := ?_) ?hid16 (by kernel_rfl) ?hfd16 ?hrd16 ?hQd16 ?hyd16 (by assumption) ?restd16
          case hid16 => (simp only [List.getElem?_toArray, List.getElem?_cons_zero, List.getElem?_cons_succ]; rfl)
          case hfd16 => kernel_rfl
          case hrd16 => kernel_rfl
          case hyd16 => (refine Or.inl ⟨by rfl, ?_⟩; intro wS hSw; (try dsimp only at hSw); go_simp; (try with_reducible rfl))
          case hQd16 => exact fun _ _ _ h => h
          (try simp only [Act.put, List.setIfInBounds_toArray, List.set_cons_zero, List.set_cons_succ])
          refine wpAnyH_take (i := 17) (oi := ?_) (v := ?_) ?hid17 (by kernel_rfl) ?hfd17 ?hrd17 ?hQd17 ?hyd17 (by assumption) ?restd17
          case hid17 => (simp only [List.getElem?_toArray, List.getElem?_cons_zero, List.getElem?_cons_succ]; rfl)
          case hfd17 => kernel_rfl
          case hrd17 => kernel_rfl
          case hyd17 => (refine Or.inl ⟨by rfl, ?_⟩; intro wS hSw; (try dsimp only at hSw); go_simp; (try with_reducible rfl))
          case hQd17 => exact fun _ _ _ h => h
          (try simp only [Act.put, List.setIfInBounds_toArray, List.set_cons_zero, List.set_cons_succ])
          refine wpAnyH_take (i := 18) (oi := ?_) (v := ?_) ?hid18 (by kernel_rfl) ?hfd18 ?hrd18 ?hQd18 ?hyd18 (by assumption) ?restd18
          case hid18 => (simp only [List.getElem?_toArray, List.getElem?_cons_zero, List.getElem?_cons_succ]; rfl)
          case hfd18 => kernel_rfl
          case hrd18 => kernel_rfl
          case hyd18 => (refine Or.inl ⟨by rfl, ?_⟩; intro wS hSw; (try dsimp only at hSw); go_simp; (try with_reducible rfl))
          case hQd18 => exact fun _ _ _ h => h
          (try simp only [Act.put, List.setIfInBounds_toArray, List.set_cons_zero, List.set_cons_succ])
          refine wpAnyH_take (i := 19) (oi := ?_) (v := ?_) ?hid19 (by kernel_rfl) ?hfd19 ?hrd19 ?hQd19 ?hyd19 (by assumption) ?restd19
          case hid19 => (simp only [List.getElem?_toArray, List.getElem?_cons_zero, List.getElem?_cons_succ]; rfl)
          case hfd19 => kernel_rfl
          case hrd19 => kernel_rfl
          case hyd19 => (refine Or.inl ⟨by rfl, ?_⟩; intro wS hSw; (try dsimp only at hSw); go_simp; (try with_reducible rfl))
          case hQd19 => exact fun _ _ _ h => h
          (try simp only [Act.put, List.setIfInBounds_toArray, List.set_cons_zero, List.set_cons_succ])
          refine wpAnyH_take (i := 20) (oi := ?_) (v := ?_) ?hid20 (by kernel_rfl) ?hfd20 ?hrd20 ?hQd20 ?hyd20 (by assumption) ?restd20
          case hid20 => (simp only [List.getElem?_toArray, List.getElem?_cons_zero, List.getElem?_cons_succ]; rfl)
          case hfd20 => kernel_rfl
          case hrd20 => kernel_rfl
          case hyd20 => (refine Or.inl ⟨by rfl, ?_⟩; intro wS hSw; (try dsimp only at hSw); go_simp; (try with_reducible rfl))
          case hQd20 => exact fun _ _ _ h => h
          (try simp only [Act.put, List.setIfInBounds_toArray, List.set_cons_zero, List.set_cons_succ])
          refine wpAnyH_take (i := 21) (oi := ?_) (v := ?_) ?hid21 (by kernel_rfl) ?hfd21 ?hrd21 ?hQd21 ?hyd21 (by assumption) ?restd21
          case hid21 => (simp only [List.getElem?_toArray, List.getElem?_cons_zero, List.getElem?_cons_succ]; rfl)
          case hfd21 => kernel_rfl
          case hrd21 => kernel_rfl
          case hyd21 => (refine Or.inl ⟨by rfl, ?_⟩; intro wS hSw; (try dsimp only at hSw); go_simp; (try with_reducible rfl))
          case hQd21 => exact fun _ _ _ h => h
          (try simp only [Act.put, List.setIfInBounds_toArray, List.set_cons_zero, List.set_cons_succ])
          refine wpAnyH_ready (rs := [22]) (by kernel_rfl) (by simp) ?_
          refine AllReadyH.cons (o := ?_) ?hoe22 ?hste22 AllReadyH.nil
          case hoe22 => (simp only [List.getElem?_toArray, List.getElem?_cons_zero, List.getElem?_cons_succ]; rfl)
          intro K hK
          go_simp
          have HS2 := Lib.hid (show S21 b5 m bx q mm d nb no u _ ∧ Below wr.heap.size wr _ from ⟨s21_step HS1.out.1 (bel_alloc (Below.refl _ _) (.cells #[.int .u8 109, .int .u8 u] 5)), bel_alloc HS1.out.2 (.cells #[.int .u8 109, .int .u8 u] 5)⟩); have hrow2 := row_alloc (Wd.alloc (.cells #[.int .u8 103, .int .u8 u] 5)) #[.int .u8 109, .int .u8 u] 5; rw [World.size_alloc] at hrow2
          skip
          refine hK.out _ _ ?hse22 (fun hHeld => ?_)
          case hse22 => exact HS2.out.1
          clear hK K
          (try simp only [Act.put, List.setIfInBounds_toArray, List.set_cons_zero, List.set_cons_succ])
          refine wpAnyH_ready (rs := [23]) (by kernel_rfl) (by simp) ?_
          refine AllReadyH.cons (o := ?_) ?hof23 ?hstf23 AllReadyH.nil
          case hof23 => (simp only [List.getElem?_toArray, List.getElem?_cons_zero, List.getElem?_cons_succ]; rfl)
          intro K hK
          have hcv := conv2O (cap := 2) (b := 109) (b' := bx) rfl HBX.out hrow2; go_simp
          clear hcv
          go_wp2_with fail
          refine hK.out _ _ ?hsf23 (fun hHeld => ?_)
          case hsf23 => exact HS2.out.1
          clear hK K
          (try simp only [Act.put, List.setIfInBounds_toArray, List.set_cons_zero, List.set_cons_succ])
          refine wpAnyH_take (i := 24) (oi := ?_) (v := ?_) ?hig24 (by kernel_rfl) ?hfg24 ?hrg24 ?hQg24 ?hyg24 (by assumption) ?restg24
          case hig24 => (simp only [List.getElem?_toArray, List.getElem?_cons_zero, List.getElem?_cons_succ]; rfl)
          case hfg24 => kernel_rfl
          case hrg24 => kernel_rfl
          case hyg24 => (refine Or.inl ⟨by rfl, ?_⟩; intro wS hSw; (try dsimp only at hSw); go_simp; (try with_reducible rfl))
          case hQg24 => exact fun _ _ _ h => h
          (try simp only [Act.put, List.setIfInBounds_toArray, List.set_cons_zero, List.set_cons_succ])
          refine wpAnyH_take (i := 25) (oi := ?_) (v := ?_) ?hig25 (by kernel_rfl) ?hfg25 ?hrg25 ?hQg25 ?hyg25 (by assumption) ?restg25
          case hig25 => (simp only [List.getElem?_toArray, List.getElem?_cons_zero, List.getElem?_cons_succ]; rfl)
          case hfg25 => kernel_rfl
          case hrg25 => kernel_rfl
          case hyg25 => (refine Or.inl ⟨by rfl, ?_⟩; intro wS hSw; (try dsimp only at hSw); go_simp; (try with_reducible rfl))
          case hQg25 => exact fun _ _ _ h => h
          (try simp only [Act.put, List.setIfInBounds_toArray, List.set_cons_zero, List.set_cons_succ])
          refine wpAnyH_take (i := 26) (oi := ?_) (v := ?_) ?hig26 (by kernel_rfl) ?hfg26 ?hrg26 ?hQg26 ?hyg26 (by assumption) ?restg26
          case hig26 => (simp only [List.getElem?_toArray, List.getElem?_cons_zero, List.getElem?_cons_succ]; rfl)
          case hfg26 => kernel_rfl
          case hrg26 => kernel_rfl
          case hyg26 => (refine Or.inl ⟨by rfl, ?_⟩; intro wS hSw; (try dsimp only at hSw); go_simp; (try with_reducible rfl))
          case hQg26 => exact fun _ _ _ h => h
          (try simp only [Act.put, List.setIfInBounds_toArray, List.set_cons_zero, List.set_cons_succ])
          refine wpAnyH_take (i := 27) (oi := ?_) (v := ?_) ?hig27 (by kernel_rfl) ?hfg27 ?hrg27 ?hQg27 ?hyg27 (by assumption) ?restg27
          case hig27 => (simp only [List.getElem?_toArray, List.getElem?_cons_zero, List.getElem?_cons_succ]; rfl)
          case hfg27 => kernel_rfl
          case hrg27 => kernel_rfl
          case hyg27 => (refine Or.inl ⟨by rfl, ?_⟩; intro wS hSw; (try dsimp only at hSw); go_simp; (try with_reducible rfl))
          case hQg27 => exact fun _ _ _ h => h
          (try simp only [Act.put, List.setIfInBounds_toArray, List.set_cons_zero, List.set_cons_succ])
          refine wpAnyH_take (i := 28) (oi := ?_) (v := ?_) ?hig28 (by kernel_rfl) ?hfg28 ?hrg28 ?hQg28 ?hyg28 (by assumption) ?restg28
          case hig28 => (simp only [List.getElem?_toArray, List.getElem?_cons_zero, List.getElem?_cons_succ]; rfl)
          case hfg28 => kernel_rfl
          case hrg28 => kernel_rfl
          case hyg28 => (refine Or.inl ⟨by rfl, ?_⟩; intro wS hSw; (try dsimp only at hSw); go_simp; (try with_reducible rfl))
          case hQg28 => exact fun _ _ _ h => h
          (try simp only [Act.put, List.setIfInBounds_toArray, List.set_cons_zero, List.set_cons_succ])
          refine wpAnyH_take (i := 29) (oi := ?_) (v := ?_) ?hig29 (by kernel_rfl) ?hfg29 ?hrg29 ?hQg29 ?hyg29 (by assumption) ?restg29
          case hig29 => (simp only [List.getElem?_toArray, List.getElem?_cons_zero, List.getElem?_cons_succ]; rfl)
          case hfg29 => kernel_rfl
          case hrg29 => kernel_rfl
          case hyg29 => (refine Or.inl ⟨by rfl, ?_⟩; intro wS hSw; (try dsimp only at hSw); go_simp; (try with_reducible rfl))
          case hQg29 => exact fun _ _ _ h => h
          (try simp only [Act.put, List.setIfInBounds_toArray, List.set_cons_zero, List.set_cons_succ])
          refine wpAnyH_take (i := 30) (oi := ?_) (v := ?_) ?hig30 (by kernel_rfl) ?hfg30 ?hrg30 ?hQg30 ?hyg30 (by assumption) ?restg30
          case hig30 => (simp only [List.getElem?_toArray, List.getElem?_cons_zero, List.getElem?_cons_succ]; rfl)
          case hfg30 => kernel_rfl
          case hrg30 => kernel_rfl
          case hyg30 => (refine Or.inl ⟨by rfl, ?_⟩; intro wS hSw; (try dsimp only at hSw); go_simp; (try with_reducible rfl))
          case hQg30 => exact fun _ _ _ h => h
          (try simp only [Act.put, List.setIfInBounds_toArray, List.set_cons_zero, List.set_cons_succ])
          refine wpAnyH_take (i := 31) (oi := ?_) (v := ?_) ?hig31 (by kernel_rfl) ?hfg31 ?hrg31 ?hQg31 ?hyg31 (by assumption) ?restg31
          case hig31 => (simp only [List.getElem?_toArray, List.getElem?_cons_zero, List.getElem?_cons_succ]; rfl)
          case hfg31 => kernel_rfl
          case hrg31 => kernel_rfl
          case hyg31 => (refine Or.inl ⟨by rfl, ?_⟩; intro wS hSw; (try dsimp only at hSw); go_simp; (try with_reducible rfl))
          case hQg31 => exact fun _ _ _ h => h
          (try simp only [Act.put, List.setIfInBounds_toArray, List.set_cons_zero, List.set_cons_succ])
          refine wpAnyH_take (i := 32) (oi := ?_) (v := ?_) ?hig32 (by kernel_rfl) ?hfg32 ?hrg32 ?hQg32 ?hyg32 (by assumption) ?restg32
          case hig32 => (simp only [List.getElem?_toArray, List.getElem?_cons_zero, List.getElem?_cons_succ]; rfl)
          case hfg32 => kernel_rfl
          case hrg32 => kernel_rfl
          case hyg32 => (refine Or.inl ⟨by rfl, ?_⟩; intro wS hSw; (try dsimp only at hSw); go_simp; (try with_reducible rfl))
          case hQg32 => exact fun _ _ _ h => h
          (try simp only [Act.put, List.setIfInBounds_toArray, List.set_cons_zero, List.set_cons_succ])
          refine wpAnyH_take (i := 33) (oi := ?_) (v := ?_) ?hig33 (by kernel_rfl) ?hfg33 ?hrg33 ?hQg33 ?hyg33 (by assumption) ?restg33
          case hig33 => (simp only [List.getElem?_toArray, List.getElem?_cons_zero, List.getElem?_cons_succ]; rfl)
          case hfg33 => kernel_rfl
          case hrg33 => kernel_rfl
          case hyg33 => (refine Or.inl ⟨by rfl, ?_⟩; intro wS hSw; (try dsimp only at hSw); go_simp; (try with_reducible rfl))
          case hQg33 => exact fun _ _ _ h => h
          (try simp only [Act.put, List.setIfInBounds_toArray, List.set_cons_zero, List.set_cons_succ])
          refine wpAnyH_take (i := 34) (oi := ?_) (v := ?_) ?hig34 (by kernel_rfl) ?hfg34 ?hrg34 ?hQg34 ?hyg34 (by assumption) ?restg34
          case hig34 => (simp only [List.getElem?_toArray, List.getElem?_cons_zero, List.getElem?_cons_succ]; rfl)
          case hfg34 => kernel_rfl
          case hrg34 => kernel_rfl
          case hyg34 => (refine Or.inl ⟨by rfl, ?_⟩; intro wS hSw; (try dsimp only at hSw); go_simp; (try with_reducible rfl))
          case hQg34 => exact fun _ _ _ h => h
          (try simp only [Act.put, List.setIfInBounds_toArray, List.set_cons_zero, List.set_cons_succ])
          refine wpAnyH_take (i := 35) (oi := ?_) (v := ?_) ?hig35 (by kernel_rfl) ?hfg35 ?hrg35 ?hQg35 ?hyg35 (by assumption) ?restg35
          case hig35 => (simp only [List.getElem?_toArray, List.getElem?_cons_zero, List.getElem?_cons_succ]; rfl)
          case hfg35 => kernel_rfl
          case hrg35 => kernel_rfl
          case hyg35 => (refine Or.inl ⟨by rfl, ?_⟩; intro wS hSw; (try dsimp only at hSw); go_simp; (try with_reducible rfl))
          case hQg35 => exact fun _ _ _ h => h
          (try simp only [Act.put, List.setIfInBounds_toArray, List.set_cons_zero, List.set_cons_succ])
          refine wpAnyH_take (i := 36) (oi := ?_) (v := ?_) ?hig36 (by kernel_rfl) ?hfg36 ?hrg36 ?hQg36 ?hyg36 (by assumption) ?restg36
          case hig36 => (simp only [List.getElem?_toArray, List.getElem?_cons_zero, List.getElem?_cons_succ]; rfl)
          case hfg36 => kernel_rfl
          case hrg36 => kernel_rfl
          case hyg36 => (refine Or.inl ⟨by rfl, ?_⟩; intro wS hSw; (try dsimp only at hSw); go_simp; (try with_reducible rfl))
          case hQg36 => exact fun _ _ _ h => h
          (try simp only [Act.put, List.setIfInBounds_toArray, List.set_cons_zero, List.set_cons_succ])
          refine wpAnyH_take (i := 37) (oi := ?_) (v := ?_) ?hig37 (by kernel_rfl) ?hfg37 ?hrg37 ?hQg37 ?hyg37 (by assumption) ?restg37
          case hig37 => (simp only [List.getElem?_toArray, List.getElem?_cons_zero, List.getElem?_cons_succ]; rfl)
          case hfg37 => kernel_rfl
          case hrg37 => kernel_rfl
          case hyg37 => (refine Or.inl ⟨by rfl, ?_⟩; intro wS hSw; (try dsimp only at hSw); go_simp; (try with_reducible rfl))
          case hQg37 => exact fun _ _ _ h => h
          (try simp only [Act.put, List.setIfInBounds_toArray, List.set_cons_zero, List.set_cons_succ])
          refine wpAnyH_done (by kernel_rfl) ?_ _
          revert HS2
          generalize (Wd.alloc (.cells #[.int .u8 103, .int .u8 u] 5)).alloc (.cells #[.int .u8 109, .int .u8 u] 5) = Wz
          intro HS2
          have HAZ := Lib.hid (show ∀ k, k < mm → ∃ b3 o3, q = some ⟨b3, o3, none⟩ ∧ Wz.cell? ⟨b3, o3 + k * 5 + 1, none⟩ = some (.int .i64 ((m : Int) + (k : Int))) from fun k hk => by
            obtain ⟨b3, o3, e, h⟩ := HAR.out k hk
            exact ⟨b3, o3, e, cell_keep HS2.out.2 h⟩)
          have HBZ := Lib.hid (bel_step HB.out HS2.out.2)
          have HC5 := Lib.hid HS2.out.1.2.2.1
          clear HS0 HS1 HS2 hrow1 hrow2 hHeld HAR HBX hwu hwi HB
          go_wp2
          go_loopw [12] (fun kv wz => ∃ k : Nat, k ≤ mm ∧ kv = .int .i64 k ∧ wz = Wz) (fun kv _ => mm - (intOf kv).toNat)
          case atStart => exact ⟨0, by omega, rfl, rfl⟩
          case round =>
            obtain ⟨k, hk0, rfl, hwz⟩ := hrel
            subst hwz
            have c5 := HC5.out
            by_cases hk : k < mm
            · obtain ⟨b3, o3, hq, hc⟩ := HAZ.out k hk
              subst hq
              have hk1 : (0 : Int) ≤ (k : Int) := by omega
              have hk2 : (k : Int) < (mm : Int) := by omega
              go_wp2
              go_roundw
              case rel => exact ⟨k + 1, by omega, by go_num, by first | exact rfl | exact trivial⟩
              case measure => simp [intOf]; omega
            · obtain rfl : k = mm := by omega
              go_wp2
              go_roundw
              case rel => exact ⟨m + 1, by omega, by go_num, HBZ.out⟩
              case measure => simp [intOf]; omega
        · obtain rfl : m = i := by omega
          go_wp2
          go_ret
          exact ⟨rfl, bel_step HB2.out HB.out⟩
end Num
end Go.Proofs.Ytpbfaffheigjcaa
