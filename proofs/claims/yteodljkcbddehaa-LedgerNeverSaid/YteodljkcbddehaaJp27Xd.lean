/-
  LedgerNever: the walk.
-/
import Derived.Test.YteodljkcbddehaaJMI
import Derived.Test.YteodljkcbddehaaJXc
import Derived.Test.YteodljkcbddehaaJXb
import Derived.Test.YteodljkcbddehaaJp18YU
import Derived.Test.YteodljkcbddehaaJp3VBase
import Derived.Test.YteodljkcbddehaaJp4VTree
import Derived.Test.YteodljkcbddehaaJYLf
namespace Go.Proofs.Yteodljkcbddehaa
open Go.RowKit
namespace Num
open Ints
set_option linter.unusedSimpArgs false
set_option linter.unusedVariables false
theorem acc_float {w : World} {AS : List (ByteArray × Nat)} (hok : OkA AS) {b off l c : Nat} (hrl : RepL w (Rep w 2) (some ⟨b, off, none⟩) l c ((ledA AS).map (pairE 0))) {j : Nat} (hj : j < AS.length) : ∃ g o cg G, w.cell? ⟨b, off + j * 5 + 4, none⟩ = some (.slice (some ⟨g, o, none⟩) 2 cg) ∧ w.cell? ⟨g, o + 5 + 2, none⟩ = some (.float .f64 G) ∧ G < 9218868437227405312 := by
  have hej : j < (ledA AS).length := by rw [ledA_len]; exact hj
  obtain ⟨g, o, cg, c0, c1, c2, c3, c4, hp⟩ := acc_at hrl hej
  obtain ⟨g', o', c', hv, _, _, K, I, F, Z, q, m, d, ⟨x0, x1, x2, x3, x4⟩, hr⟩ := pair_mem hp
  injection hv with hv
  simp only [Array.mk.injEq, List.cons.injEq, and_true, true_and] at hv
  injection hv with hv1 hv2 hv3
  injection hv1 with hv1
  injection hv1 with e1 e2
  subst e1 e2
  obtain ⟨G, hG, hV⟩ := ledA_mem hok _ (List.getElem_mem hej)
  rw [hV] at hr
  obtain ⟨rfl, rfl, rfl, rfl, _, _⟩ := leaf_is hr
  exact ⟨g, o, cg, _, c4, x2, hG⟩
theorem can_pos {G : Nat} (h : G < 9218868437227405312) : Flo.canon G = G := Flo.canon_yes (feq_pos (Nat.le_of_lt h))
theorem max_no {G : Nat} (h : G < 9218868437227405312) : (FloatKind.f64.format.order G 9218868437227405311 == some .gt) = false := by
  have h1 := inf_no h
  unfold isInfB at h1
  rwa [Nat.mod_eq_of_lt (by omega : G < 9223372036854775808)] at h1
theorem led_list {w : World} {AS : List (ByteArray × Nat)} {p : Option Addr} {l c : Nat} (h : Rep w 3 (.agg #[.int .i64 4, .int .i64 0, .float .f64 0, .string ⟨#[]⟩, .slice p l c]) (tableT 0 (ledA AS))) : RepL w (Rep w 2) p l c ((ledA AS).map (pairE 0)) ∧ AS.length = l := by
  obtain ⟨p9, l9, c9, hv, hrl⟩ := led_mem h
  injection hv with hv
  simp only [Array.mk.injEq, List.cons.injEq, and_true] at hv
  obtain ⟨_, _, _, _, e5⟩ := hv
  injection e5 with e5 e6 e7
  subst e5 e6 e7
  have h := len_A hrl
  rw [ledA_len] at h
  exact ⟨hrl, h⟩
set_option maxRecDepth 100000 in
set_option maxHeartbeats 16000000 in
theorem never_in (n : Nat) (p : Option Addr) (l c : Nat) (L : List (Nat × List (VT (n + 1)))) (w : World) (h : ActLP w n p l c L) :
    Calls Try.prog 3 #[.slice p l c] w fun e w' => e = .returned (.bool true) ∧ Below w.heap.size w w' := by
  obtain ⟨hl, hlc, hcm, hel⟩ := h
  unfold maxLen at hcm
  have HL := Lib.hid hl
  have HE := Lib.hid hel
  clear hl hel
  have hl0 : (0 : Int) ≤ (l : Int) := by omega
  by_cases h50 : 60 < l
  · have g50 : (60 : Int) < (l : Int) := by omega
    go_enter Try.func3, Try.ntmps3
    go_wp2_with (go_at_call 4; refine (known12f _).mono ?_; rintro e w1 ⟨rfl, hb1⟩)
    go_ret
    exact ⟨rfl, hb1⟩
  have g50 : ¬ (60 : Int) < (l : Int) := by omega
  clear h50
  go_enter Try.func3, Try.ntmps3
  go_wp2_with fail
  go_at_call 4; refine (known12f _).mono ?_; rintro e w1 ⟨rfl, hb1⟩
  have HB1 := Lib.hid hb1
  clear hb1
  go_wp2_with fail
  go_at_call 5; refine (list_ref_any _ _ _ _).mono ?_; rintro e W0 ⟨rfl, hb2⟩
  have HS := Lib.hid (show (fun z0 : World => ZL z0 W0.heap.size none 0 0 ∧ Below w.heap.size w z0) (W0.alloc (.cells #[.int .i64 4, .int .i64 0, .float .f64 0, .string ⟨#[]⟩, .slice none 0 0] 27)) from ⟨row_alloc _ _ _, bel_step (bel_step HB1.out hb2) (bel_alloc br _)⟩)
  have hsb0 : w.heap.size ≤ W0.heap.size := (bel_step HB1.out hb2).size
  clear hb2 HB1
  go_wp2
  clear g50
  revert HS
  generalize W0.alloc (.cells #[.int .i64 4, .int .i64 0, .float .f64 0, .string ⟨#[]⟩, .slice none 0 0] 27) = W1
  obtain ⟨sb, hsbe⟩ : ∃ sb, W0.heap.size = sb := ⟨_, rfl⟩
  rw [hsbe]
  intro HS
  rw [hsbe] at hsb0
  clear hsbe
  go_loopw [4] (fun iv wr => ∃ (i : Nat) (AS : List (ByteArray × Nat)) (ps : Option Addr) (ls cs : Nat), i ≤ l ∧ iv = .int .i64 i ∧ OkA AS ∧ Rep wr 3 (.agg #[.int .i64 4, .int .i64 0, .float .f64 0, .string ⟨#[]⟩, .slice ps ls cs]) (tableT 0 (ledA AS)) ∧ wr.heap[sb]? = some (.cells #[.int .i64 4, .int .i64 0, .float .f64 0, .string ⟨#[]⟩, .slice ps ls cs] 27 (0, 0)) ∧ Below w.heap.size w wr) (fun iv _ => l - (intOf iv).toNat)
  case atStart => exact ⟨0, [], none, 0, 0, by omega, rfl, okA_nil, list_rep ⟨rfl, Nat.le_refl _, Nat.zero_le _, fun h => absurd h (Nat.lt_irrefl _)⟩, HS.out.1, HS.out.2⟩
  case round =>
    obtain ⟨i, AS, ps, ls, cs, hil, rfl, hok, hrep, hrel⟩ := hrel
    have TL0 := Lib.hid hrel
    have HREP := Lib.hid hrep
    have HOK := Lib.hid hok
    clear hrel hrep hok HS
    by_cases hlt : i < l
    · obtain ⟨b, off, hpb, hi⟩ := HE.out (by omega)
      subst hpb
      have hiL : i < L.length := by have := HL.out; omega
      obtain ⟨q, m, d, hk, ck0, ck1, hra⟩ := hi i hiL
      obtain ⟨k, hkk⟩ : ∃ k, L[i].1 = k := ⟨_, rfl⟩
      obtain ⟨NL, hNL⟩ : ∃ N, L[i].2 = N := ⟨_, rfl⟩
      rw [hkk] at hk ck0
      rw [hNL] at hra
      have HCK := Lib.hid (And.intro ck0 ck1)
      have HRA := Lib.hid hra
      have hbl : b < w.heap.size := cell_lt ck0
      have e1 := ck TL0.out.2 ck1
      have elt := cell_lt e1
      have hi0 : (0 : Int) ≤ (i : Int) := by omega
      have hi2 : (i : Int) < (l : Int) := by omega
      clear hi ck0 ck1 hra hkk hNL
      go_wp2_with fail
      go_at_call 6; refine (lights_any n q m d NL _ (repLP_rep (repLP_keep TL0.out.2 HRA.out))).mono ?_; rintro e w2 ⟨rfl, hb2⟩
      clear e1 elt
      have HREP2 := Lib.hid (rep_keep hb2 _ _ _ HREP.out)
      have TL1 := Lib.hid (And.intro (row_step TL0.out.1 hb2) (bel_step TL0.out.2 hb2))
      clear TL0
      clear hb2
      cases hlg : (decide (m ≤ 40) && NL.all (lightT (n + 1)))
      · go_wp2
        go_ret
        exact ⟨rfl, TL1.out.2⟩
      clear hlg HREP
      have HDO := Lib.hid (fun W (hb : Below w2.heap.size w2 W) => ldo_any HOK.out (rep_keep hb _ _ _ HREP2.out) (mthN (k % 8)) (repLP_keep (bel_step TL1.out.2 hb) HRA.out))
      go_upto_region 11 with fail
      refine nev11_any w b off l c i k q m d sb ps ls cs w2 _ _ _ _ _ _ _ _ _ _ _ _ _ _ _ _ _ _ _ _ _ _ _ _ _ _ _ _ _ _ _ _ _ _ _ _ _ _ _ _ _ _ _ _ _ _ _ _ _ _ _ _ _ _ _ _ _ _ _ _ _ _ _ _ _ _ _ _ _ _ _ _ _ _ _ _ _ _ _ _ _ _ _ _ _ _ _ _ _ _ _ _ _ _ _ _ _ _ _ _ _ (fun _ _ d _ _ h => by cases d <;> exact h) TL1 HCK.out.1 HCK.out.2 hk hbl hsb0 hi0 hi2 HDO ?_
      intro gA gB Kt It Ft St qt mt dt Ku Iu Fu Su qu mu du z wy hgA hgB hwy hrows HZ hby
      have TM0 := Lib.hid hrows
      have HREP3 := Lib.hid (rep_keep hby _ _ _ HREP2.out)
      clear hrows HREP2 HDO
      by_cases hz : z = 0
      · subst hz
        obtain ⟨AS2, hok2, hT⟩ := HZ.out rfl
        obtain ⟨p9, l9, c9, hv, _⟩ := led_mem (hT wy (fun _ _ _ => rfl))
        injection hv with hv
        simp only [Array.mk.injEq, List.cons.injEq, and_true] at hv
        obtain ⟨e1, e2, e3, e4, e5⟩ := hv
        injection e1 with _ e1
        injection e2 with _ e2
        injection e3 with _ e3
        injection e4 with e4
        injection e5 with e5 e6 e7
        subst e1 e2 e3 e4 e5 e6 e7
        have HT := Lib.hid hT
        have HOK2 := Lib.hid hok2
        clear hT HZ HREP3 HOK hok2
        obtain ⟨c0_0, c0_1, c0_2, c0_3, c0_4, c0f, c0l⟩ := r7 TM0.out.1
        obtain ⟨c1_0, c1_1, c1_2, c1_3, c1_4, c1f, c1l⟩ := r7 TM0.out.2.1
        go_wp2
        clear c0_0 c0_1 c0_2 c0_3 c0_4 c1_0 c1_1 c1_2 c1_3 c1_4 c0f c0l c1f c1l
        have TM2 := Lib.hid (show (fun z0 : World => ZL z0 sb qt mt dt ∧ ZL z0 gA qt mt dt ∧ Zw z0 gB (.int .i64 Ku) (.int .i64 Iu) (.float .f64 Fu) (.string Su) (.slice qu mu du) ∧ Below w.heap.size w z0) (((((wy.setCell ⟨sb, 0, none⟩ (.int .i64 4)).setCell ⟨sb, 1, none⟩ (.int .i64 0)).setCell ⟨sb, 2, none⟩ (.float .f64 0)).setCell ⟨sb, 3, none⟩ (.string ⟨#[]⟩)).setCell ⟨sb, 4, none⟩ (.slice qt mt dt)) from ⟨s5r TM0.out.1, s5o TM0.out.2.1 (by omega), s5o TM0.out.2.2.1 (by omega), s5b TM0.out.2.2.2 (by omega)⟩)
        clear TM0
        have HRQ := Lib.hid (HT.out (((((wy.setCell ⟨sb, 0, none⟩ (.int .i64 4)).setCell ⟨sb, 1, none⟩ (.int .i64 0)).setCell ⟨sb, 2, none⟩ (.float .f64 0)).setCell ⟨sb, 3, none⟩ (.string ⟨#[]⟩)).setCell ⟨sb, 4, none⟩ (.slice qt mt dt)) (fun b h1 h2 => set5_other (g := sb) (o := 0) h1))
        clear HT
        revert HRQ TM2
        generalize (((((wy.setCell ⟨sb, 0, none⟩ (.int .i64 4)).setCell ⟨sb, 1, none⟩ (.int .i64 0)).setCell ⟨sb, 2, none⟩ (.float .f64 0)).setCell ⟨sb, 3, none⟩ (.string ⟨#[]⟩)).setCell ⟨sb, 4, none⟩ (.slice qt mt dt)) = wq
        intro TM2 HRQ
        have HLL := Lib.hid (led_list HRQ.out)
        have hmt : mt ≤ 32 := by have h1 := HLL.out.2; have h2 := HOK2.out.2.1; omega
        go_loopw [8] (fun iv wz => ∃ j : Nat, j ≤ mt ∧ iv = .int .i64 j ∧ wz = wq) (fun iv _ => mt - (intOf iv).toNat)
        case atStart => exact ⟨0, by omega, rfl, rfl⟩
        case round =>
          obtain ⟨j, hjl, rfl, rfl⟩ := hrel
          rename World => wq
          by_cases hlj : j < mt
          · obtain ⟨bt, ot, rfl, _⟩ := HLL.out.1.2.2.2 (by omega)
            obtain ⟨g, o, cg, G, hc4, hc6, hG⟩ := acc_float HOK2.out HLL.out.1 (show j < AS2.length by have := HLL.out.2; omega)
            have hbc := cell_lt hc4
            have hgc := cell_lt hc6
            have hj0 : (0 : Int) ≤ (j : Int) := by omega
            have hj2 : (j : Int) < (mt : Int) := by omega
            have hcan := can_pos hG
            have hmx := max_no hG
            have hbt : ((G : Int) == 9223372036854775808) = false := by rw [beq_eq_false_iff_ne]; omega
            have hor := order_pos (Nat.le_of_lt hG)
            clear HLL HRQ
            obtain ⟨c0_0, c0_1, c0_2, c0_3, c0_4, c0f, c0l⟩ := r7 TM2.out.1
            rcases hor with hor | hor
            all_goals
              go_wp2_with (go_at_call 9; refine (bits_ref_any _ _).mono ?_; rintro e wB ⟨rfl, rfl⟩; rw [hcan])
              go_roundw
              case rel => exact ⟨j + 1, by omega, by go_num, by first | rfl | trivial⟩
              case measure => simp [intOf]; omega
          · obtain rfl : j = mt := by omega
            obtain ⟨c0_0, c0_1, c0_2, c0_3, c0_4, c0f, c0l⟩ := r7 TM2.out.1
            go_wp2
            go_roundw
            case rel => exact ⟨i + 1, AS2, qt, j, dt, by omega, by go_num, HOK2.out, HRQ.out, TM2.out.1, TM2.out.2.2.2⟩
            case measure => simp [intOf]; omega
      · have hz2 : (z != 0) = true := by simpa using hz
        go_wp2
        go_roundw
        case rel => exact ⟨i + 1, AS, ps, ls, cs, by omega, by go_num, HOK.out, HREP3.out, TM0.out.1, TM0.out.2.2.2⟩
        case measure => simp [intOf]; omega
    · obtain rfl : i = l := by omega
      obtain ⟨c0_0, c0_1, c0_2, c0_3, c0_4, c0f, c0l⟩ := r7 TL0.out.1
      go_wp2_with fail
      go_at_call 10; refine (lright_any 0 _ (ledA AS) _ HREP.out (okA_L HOK.out)).mono ?_; rintro e w9 ⟨rfl, hb9⟩
      have HB9 := Lib.hid (bel_step TL0.out.2 hb9)
      clear hb9
      go_wp2
      go_ret
      exact ⟨rfl, HB9.out⟩
end Num
end Go.Proofs.Yteodljkcbddehaa
/-
  LedgerNever: whatever comes in.
-/
namespace Go.Proofs.Yteodljkcbddehaa
open Go.RowKit
namespace Num
open Ints
set_option linter.unusedSimpArgs false
set_option linter.unusedVariables false
set_option maxRecDepth 100000 in
theorem never_law {H : Type} {enc : TypeId × Value → H} {W : World} {v0 : Value} {d0 : DataW H} {p0 : List MemPlace} {b0 : Nat} (hfz : W.noneFrozen p0) (k0 : DataW.Trod enc Try.prog W 0 (fun _ => true) true 22 v0 d0 p0) (o0 : Value.okWide Try.prog W .any b0 22 v0) :
    Calls Try.prog 3 #[v0] W fun e w' => e = .returned (.bool true) ∧ Below W.heap.size W w' := by
  obtain ⟨n, p, l, c, L, rfl, h⟩ := actsP_of_Trod k0 hfz o0
  exact never_in n p l c L W h
end Num
end Go.Proofs.Yteodljkcbddehaa
