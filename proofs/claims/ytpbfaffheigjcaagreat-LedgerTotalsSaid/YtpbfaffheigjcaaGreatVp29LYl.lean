/-
  LedgerTotals: the walk.
-/
import Derived.Test.YtpbfaffheigjcaaGreatVMI
import Derived.Test.YtpbfaffheigjcaaGreatVLYr
import Derived.Test.YtpbfaffheigjcaaGreatVp4VTree
import Derived.Test.YtpbfaffheigjcaaGreatVp21LN
import Derived.Test.YtpbfaffheigjcaaGreatVp9VSurv
import Derived.Test.YtpbfaffheigjcaaGreatVYLf
namespace Go.Proofs.YtpbfaffheigjcaaGreat
open Go.RowKit
namespace Num
open Ints
set_option linter.unusedSimpArgs false
set_option linter.unusedVariables false
theorem sum_takele {AS : List (ByteArray × Nat)} (h : OkA AS) (j : Nat) : sumL ((ledA AS).take j) ≤ 9218868437227405312 := by
  have e : (ledA AS).take j = ledA (AS.take j) := by unfold ledA; rw [List.map_take]
  rw [e]
  exact sum_le (fun x hx => h.2.2 x (List.mem_of_mem_take hx))
set_option maxRecDepth 100000 in
set_option maxHeartbeats 16000000 in
theorem totals_in (n : Nat) (p : Option Addr) (l c : Nat) (L : List (Nat × List (VT (n + 1)))) (w : World) (h : ActL w n p l c L) :
    Calls Tryz.prog 7 #[.slice p l c] w fun e w' => e = .returned (.bool true) ∧ Below w.heap.size w w' := by
  obtain ⟨hl, hlc, hcm, hel⟩ := h
  unfold maxLen at hcm
  have HL := Lib.hid hl
  have HE := Lib.hid hel
  clear hl hel
  have hl0 : (0 : Int) ≤ (l : Int) := by omega
  by_cases h50 : 50 < l
  · have g50 : (50 : Int) < (l : Int) := by omega
    go_enter Tryz.func7, Tryz.ntmps7
    go_wp2_with (go_at_call 8; refine (known12f _).mono ?_; rintro e w1 ⟨rfl, hb1⟩)
    go_ret
    exact ⟨rfl, hb1⟩
  have g50 : ¬ (50 : Int) < (l : Int) := by omega
  clear h50
  go_enter Tryz.func7, Tryz.ntmps7
  go_wp2_with fail
  go_at_call 8; refine (known12f _).mono ?_; rintro e w1 ⟨rfl, hb1⟩
  have HB1 := Lib.hid hb1
  clear hb1
  go_wp2_with fail
  go_at_call 18; refine (list_ref_any _ _ _ _).mono ?_; rintro e W0 ⟨rfl, hb2⟩
  have HS := Lib.hid (show (fun z0 : World => ZL z0 W0.heap.size none 0 0 ∧ Below w.heap.size w z0) (W0.alloc (.cells #[.int .i64 4, .int .i64 0, .float .f64 0, .string ⟨#[]⟩, .slice none 0 0] 27)) from ⟨row_alloc _ _ _, bel_step (bel_step HB1.out hb2) (bel_alloc br _)⟩)
  have hsb0 : w.heap.size ≤ W0.heap.size := (bel_step HB1.out hb2).size
  clear hb2 HB1
  go_wp2
  clear g50
  revert HS
  generalize W0.alloc (.cells #[.int .i64 4, .int .i64 0, .float .f64 0, .string ⟨#[]⟩, .slice none 0 0] 27) = W1
  obtain ⟨sb, hsbe⟩ : ∃ sb, W0.heap.size = sb := ⟨_, rfl⟩
  rw [hsbe]
  intro HS
  rw [hsbe] at hsb0
  clear hsbe
  go_loopw [4] (fun iv wr => ∃ (i : Nat) (AS : List (ByteArray × Nat)) (ps : Option Addr) (ls cs : Nat), i ≤ l ∧ iv = .int .i64 i ∧ OkA AS ∧ Rep wr 3 (.agg #[.int .i64 4, .int .i64 0, .float .f64 0, .string ⟨#[]⟩, .slice ps ls cs]) (tableT 0 (ledA AS)) ∧ wr.heap[sb]? = some (.cells #[.int .i64 4, .int .i64 0, .float .f64 0, .string ⟨#[]⟩, .slice ps ls cs] 27 (0, 0)) ∧ Below w.heap.size w wr) (fun iv _ => l - (intOf iv).toNat)
  case atStart => exact ⟨0, [], none, 0, 0, by omega, rfl, okA_nil, list_rep ⟨rfl, Nat.le_refl _, Nat.zero_le _, fun h => absurd h (Nat.lt_irrefl _)⟩, HS.out.1, HS.out.2⟩
  case round =>
    obtain ⟨i, AS, ps, ls, cs, hil, rfl, hok, hrep, hrel⟩ := hrel
    have TL0 := Lib.hid hrel
    have HREP := Lib.hid hrep
    have HOK := Lib.hid hok
    clear hrel hrep hok HS
    by_cases hlt : i < l
    · obtain ⟨b, off, hpb, hi⟩ := HE.out (by omega)
      subst hpb
      have hiL : i < L.length := by have := HL.out; omega
      obtain ⟨q, m, d, hk, ck0, ck1, hra⟩ := hi i hiL
      obtain ⟨k, hkk⟩ : ∃ k, L[i].1 = k := ⟨_, rfl⟩
      obtain ⟨NL, hNL⟩ : ∃ N, L[i].2 = N := ⟨_, rfl⟩
      rw [hkk] at hk ck0
      rw [hNL] at hra
      have HCK := Lib.hid (And.intro ck0 ck1)
      have HRA := Lib.hid hra
      have hbl : b < w.heap.size := cell_lt ck0
      have e1 := ck TL0.out.2 ck1
      have elt := cell_lt e1
      have hi0 : (0 : Int) ≤ (i : Int) := by omega
      have hi2 : (i : Int) < (l : Int) := by omega
      clear hi ck0 ck1 hra hkk hNL
      go_wp2_with fail
      go_at_call 10; refine (lights_any n q m d NL _ (repL_accn TL0.out.2 HRA.out)).mono ?_; rintro e w2 ⟨rfl, hb2⟩
      clear e1 elt
      have HREP2 := Lib.hid (rep_keep hb2 _ _ _ HREP.out)
      have TL1 := Lib.hid (And.intro (row_step TL0.out.1 hb2) (bel_step TL0.out.2 hb2))
      clear TL0
      clear hb2
      cases hlg : (decide (m ≤ 40) && NL.all (lightT (n + 1)))
      · go_wp2
        go_ret
        exact ⟨rfl, TL1.out.2⟩
      have hm40 : m ≤ 40 := by rw [Bool.and_eq_true, decide_eq_true_iff] at hlg; exact hlg.1
      clear hlg HREP
      have HDO := Lib.hid (fun W (hb : Below w2.heap.size w2 W) => rdl_all (k % 8) ps ls cs q m d W AS HOK.out (Lib.hid (rep_keep hb _ _ _ HREP2.out)) n NL (Lib.hid (repL_accn (bel_step TL1.out.2 hb) HRA.out)) (by omega))
      go_upto_region 11 with fail
      refine tot11_any w b off l c i k q m d sb ps ls cs w2 _ _ _ _ _ _ _ _ _ _ _ _ _ _ _ _ _ _ _ _ _ _ _ _ _ _ _ _ _ _ _ _ _ _ _ _ _ _ _ _ _ _ _ _ _ _ _ _ _ _ _ _ _ _ _ _ _ _ _ _ _ _ _ _ _ _ _ _ _ _ _ _ _ _ _ _ _ _ _ _ _ _ _ _ _ _ _ _ _ _ _ _ _ _ _ _ _ _ _ _ _ _ _ _ _ _ _ (fun _ _ d _ _ h => by cases d <;> exact h) TL1 HCK.out.1 HCK.out.2 hk hbl hsb0 hi0 hi2 HDO ?_
      intro gA gB Kt It Ft St qt mt dt Ku Iu Fu Su qu mu du z wy hgA hgB hwy hrows HZ hby
      have TM0 := Lib.hid hrows
      have HREP3 := Lib.hid (rep_keep hby _ _ _ HREP2.out)
      clear hrows HREP2
      by_cases hz : z = 0
      · subst hz
        obtain ⟨AS2, hok2, hT⟩ := HZ.out rfl
        obtain ⟨p9, l9, c9, hv, _⟩ := led_mem (hT wy (fun _ _ _ => rfl))
        injection hv with hv
        simp only [Array.mk.injEq, List.cons.injEq, and_true] at hv
        obtain ⟨e1, e2, e3, e4, e5⟩ := hv
        injection e1 with _ e1
        injection e2 with _ e2
        injection e3 with _ e3
        injection e4 with e4
        injection e5 with e5 e6 e7
        subst e1 e2 e3 e4 e5 e6 e7
        have HT := Lib.hid hT
        clear hT HZ HREP3
        obtain ⟨c0_0, c0_1, c0_2, c0_3, c0_4, c0f, c0l⟩ := r7 TM0.out.1
        obtain ⟨c1_0, c1_1, c1_2, c1_3, c1_4, c1f, c1l⟩ := r7 TM0.out.2.1
        go_wp2
        have TM2 := Lib.hid (show (fun z0 : World => ZL z0 sb qt mt dt ∧ ZL z0 gA qt mt dt ∧ Zw z0 gB (.int .i64 Ku) (.int .i64 Iu) (.float .f64 Fu) (.string Su) (.slice qu mu du) ∧ Below w.heap.size w z0) (((((wy.setCell ⟨sb, 0, none⟩ (.int .i64 4)).setCell ⟨sb, 1, none⟩ (.int .i64 0)).setCell ⟨sb, 2, none⟩ (.float .f64 0)).setCell ⟨sb, 3, none⟩ (.string ⟨#[]⟩)).setCell ⟨sb, 4, none⟩ (.slice qt mt dt)) from ⟨s5r TM0.out.1, s5o TM0.out.2.1 (by omega), s5o TM0.out.2.2.1 (by omega), s5b TM0.out.2.2.2 (by omega)⟩)
        clear TM0
        go_roundw
        case rel => exact ⟨i + 1, AS2, qt, mt, dt, by omega, by go_num, hok2, HT.out _ (fun b h1 h2 => set5_other (g := sb) (o := 0) h1), TM2.out.1, TM2.out.2.2.2⟩
        case measure => simp [intOf]; omega
      · have hz2 : (z == 0) = false := by rw [beq_eq_false_iff_ne]; exact hz
        go_wp2
        go_roundw
        case rel => exact ⟨i + 1, AS, ps, ls, cs, by omega, by go_num, HOK.out, HREP3.out, TM0.out.1, TM0.out.2.2.2⟩
        case measure => simp [intOf]; omega
    · obtain rfl : i = l := by omega
      have hls : AS.length = ls := by
        obtain ⟨p9, l9, c9, hv, hrl⟩ := led_mem HREP.out
        injection hv with hv
        simp only [Array.mk.injEq, List.cons.injEq, and_true] at hv
        obtain ⟨_, _, _, _, e5⟩ := hv
        injection e5 with e5 e6 e7
        subst e5 e6 e7
        have h := len_A hrl
        rw [ledA_len] at h
        exact h
      have HLL := Lib.hid (show RepL wr (Rep wr 2) ps ls cs ((ledA AS).map (pairE 0)) from by
        obtain ⟨p9, l9, c9, hv, hrl⟩ := led_mem HREP.out
        injection hv with hv
        simp only [Array.mk.injEq, List.cons.injEq, and_true] at hv
        obtain ⟨_, _, _, _, e5⟩ := hv
        injection e5 with e5 e6 e7
        subst e5 e6 e7
        exact hrl)
      have HLEN := Lib.hid (show (ledA AS).length = ls by rw [ledA_len]; exact hls)
      have hls0 : (0 : Int) ≤ (ls : Int) := by omega
      have hll : ls ≤ 32 := by have := HOK.out.2.1; omega
      obtain ⟨c0_0, c0_1, c0_2, c0_3, c0_4, c0f, c0l⟩ := r7 TL0.out.1
      go_wp2
      clear c0_0 c0_1 c0_2 c0_3 c0_4 c0f c0l
      go_loopw [8, 9] (fun fv iv wz => ∃ j : Nat, j ≤ ls ∧ iv = .int .i64 j ∧ fv = .float .f64 (sumL ((ledA AS).take j)) ∧ wz = wr) (fun _ iv _ => ls - (intOf iv).toNat)
      case atStart => exact ⟨0, by omega, rfl, rfl, rfl⟩
      case round =>
        obtain ⟨j, hjl, rfl, rfl, rfl⟩ := hrel
        rename World => wr
        by_cases hlj : j < ls
        · have hej : j < (ledA AS).length := by have := HLEN.out; omega
          obtain ⟨b, off, rfl, _⟩ := HLL.out.2.2.2 (by omega)
          obtain ⟨G, hG, hV⟩ := ledA_mem HOK.out _ (List.getElem_mem hej)
          obtain ⟨gx, ox, cgx, hc⟩ := accC_of (k := (ledA AS)[j].1) (F := G) HLL.out (fun _ _ h => h) hej (by rw [← hV])
          obtain ⟨SM, hSM⟩ : ∃ s, sumL ((ledA AS).take j) = s := ⟨_, rfl⟩
          have hSL : SM ≤ 9218868437227405312 := by rw [← hSM]; exact sum_takele HOK.out j
          have had := cop_add hSL (Nat.le_of_lt hG)
          have hop : ∀ t W, (binOp .add t (.float .f64 SM) (.float .f64 G)).run Tryz.prog W = .ok (.float .f64 (Flo.cop .add SM G)) W := fun t W => run_float_arith W .add t .f64 _ _ _ had.2
          have HSN := Lib.hid (show sumL ((ledA AS).take (j + 1)) = Flo.cop .add SM G by rw [sum_take hej, hSM, hV]; rfl)
          have hc4 := hc.2.2.2.2.1
          have hc6 := hc.2.2.2.2.2.2
          have hbc := cell_lt hc4
          have hgc := cell_lt hc6
          have hj0 : (0 : Int) ≤ (j : Int) := by omega
          have hj2 : (j : Int) < (ls : Int) := by omega
          rw [hSM]
          clear hc hV hSM had hSL hG
          obtain ⟨c0_0, c0_1, c0_2, c0_3, c0_4, c0f, c0l⟩ := r7 TL0.out.1
          go_wp2
          go_roundw
          case rel => exact ⟨j + 1, by omega, by go_num, by rw [HSN.out], by first | rfl | trivial⟩
          case measure => simp [intOf]; omega
        · obtain rfl : j = ls := by omega
          have HSUM := Lib.hid (show sumL ((ledA AS).take j) = sumL (ledA AS) by rw [List.take_of_length_le (by have := HLEN.out; omega)])
          rw [HSUM.out]
          obtain ⟨SM, hSM⟩ : ∃ s, sumL (ledA AS) = s := ⟨_, rfl⟩
          have hSL : SM ≤ 9218868437227405312 := by rw [← hSM]; exact sum_le HOK.out.2.2
          have HSL := Lib.hid hSL
          have HSM := Lib.hid hSM
          rw [hSM]
          clear hSL hSM HSUM
          obtain ⟨c0_0, c0_1, c0_2, c0_3, c0_4, c0f, c0l⟩ := r7 TL0.out.1
          go_wp2_with fail
          go_at_call 12; refine (ldo_total HOK.out (HREP.out) ⟨rfl, Nat.le_refl _, Nat.zero_le _, fun h => absurd h (Nat.lt_irrefl _)⟩).mono ?_; rintro e w3 ⟨tt, uu, rfl, hb3, ht3, hu3⟩
          obtain ⟨Kt, It, Ft, St, qt, mt, dt, rfl, _⟩ := repS_shape ht3
          obtain ⟨Ku, Iu, Fu, Su, qu, mu, du, rfl, _⟩ := repS_shape hu3
          rw [HSM.out] at hu3
          clear c0_0 c0_1 c0_2 c0_3 c0_4 c0f c0l
          have TL1 := Lib.hid (And.intro (row_step TL0.out.1 hb3) (bel_step TL0.out.2 hb3))
          clear TL0
          have HX3 := Lib.hid (show Rep w3 3 (.agg #[.int .i64 4, .int .i64 0, .float .f64 0, .string ⟨#[]⟩, .slice ps j cs]) (tableT 0 (ledA AS)) ∧ Rep w3 3 (.agg #[.int .i64 Kt, .int .i64 It, .float .f64 Ft, .string St, .slice qt mt dt]) (tableT 0 (ledA AS)) ∧ Rep w3 1 (.agg #[.int .i64 Ku, .int .i64 Iu, .float .f64 Fu, .string Su, .slice qu mu du]) (floT 0 SM) from ⟨rep_keep hb3 _ _ _ HREP.out, repS_rep _ _ _ ht3, repS_rep _ _ _ hu3⟩)
          clear hb3 ht3 hu3 HREP
          obtain ⟨c0_0, c0_1, c0_2, c0_3, c0_4, c0f, c0l⟩ := r7 TL1.out.1
          go_wp2_with fail
          clear c0_0 c0_1 c0_2 c0_3 c0_4 c0f c0l
          have hlt1 : sb < w3.heap.size := (by have h := row_lt TL1.out.1; (try simp only [World.size_alloc, World.size_drew] at h); exact h)
          have hlt2 : w.heap.size ≤ w3.heap.size := (by have h := TL1.out.2.size; (try simp only [World.size_alloc, World.size_drew] at h); exact h)
          have TL2 := Lib.hid (show (fun z0 : World => ZL z0 sb ps j cs ∧ Zw z0 w3.heap.size (.int .i64 Kt) (.int .i64 It) (.float .f64 Ft) (.string St) (.slice qt mt dt) ∧ Below w.heap.size w z0) (w3.alloc (.cells #[.int .i64 Kt, .int .i64 It, .float .f64 Ft, .string St, .slice qt mt dt] 27)) from ⟨(row_alloc_step (TL1.out.1) _), (ra (by simp only [World.size_alloc, World.size_drew, World.size_setCell])), bel_step TL1.out.2 (bel_alloc br _)⟩)
          have hlt3 : sb < w3.heap.size + 1 := (by have h := row_lt TL2.out.1; (try simp only [World.size_alloc, World.size_drew] at h); exact h)
          have hlt4 : w3.heap.size < w3.heap.size + 1 := (by have h := row_lt TL2.out.2.1; (try simp only [World.size_alloc, World.size_drew] at h); exact h)
          have hlt5 : w.heap.size ≤ w3.heap.size + 1 := (by have h := TL2.out.2.2.size; (try simp only [World.size_alloc, World.size_drew] at h); exact h)
          have TL3 := Lib.hid (show (fun z0 : World => ZL z0 sb ps j cs ∧ Zw z0 w3.heap.size (.int .i64 Kt) (.int .i64 It) (.float .f64 Ft) (.string St) (.slice qt mt dt) ∧ Zw z0 (w3.heap.size + 1) (.int .i64 Ku) (.int .i64 Iu) (.float .f64 Fu) (.string Su) (.slice qu mu du) ∧ Below w.heap.size w z0) ((w3.alloc (.cells #[.int .i64 Kt, .int .i64 It, .float .f64 Ft, .string St, .slice qt mt dt] 27)).alloc (.cells #[.int .i64 Ku, .int .i64 Iu, .float .f64 Fu, .string Su, .slice qu mu du] 27)) from ⟨(row_alloc_step (row_alloc_step (TL1.out.1) _) _), (row_alloc_step (ra (by simp only [World.size_alloc, World.size_drew, World.size_setCell])) _), (ra (by simp only [World.size_alloc, World.size_drew, World.size_setCell])), bel_step TL1.out.2 (bel_alloc (bel_alloc br _) _)⟩)
          have hb34 : Below w3.heap.size w3 ((w3.alloc (.cells #[.int .i64 Kt, .int .i64 It, .float .f64 Ft, .string St, .slice qt mt dt] 27)).alloc (.cells #[.int .i64 Ku, .int .i64 Iu, .float .f64 Fu, .string Su, .slice qu mu du] 27)) := bel_alloc (bel_alloc br _) _
          go_at_call 12; refine (ldo_names HOK.out (rep_keep hb34 _ _ _ HX3.out.1) ⟨rfl, Nat.le_refl _, Nat.zero_le _, fun h => absurd h (Nat.lt_irrefl _)⟩).mono ?_; rintro e w5 ⟨tn, un, rfl, hb5, ht5, hu5⟩
          obtain ⟨Kn, In, Fn, Sn, qn, mn, dn, rfl, _⟩ := repS_shape ht5
          obtain ⟨p9, l9, c9, hv, _, _, _, _, hl9, _⟩ := repS_rep _ _ _ hu5
          have hl9 : (AS.map (·.1)).length = l9 := (List.length_map _).symm.trans hl9
          rw [List.length_map] at hl9
          obtain rfl : l9 = j := by omega
          have hv : un = .agg #[.int .i64 4, .int .i64 0, .float .f64 0, .string ⟨#[]⟩, .slice p9 l9 c9] := hv
          subst hv
          have TL4 := Lib.hid (And.intro (row_step TL3.out.1 hb5) (And.intro (row_step TL3.out.2.1 hb5) (And.intro (row_step TL3.out.2.2.1 hb5) (bel_step TL3.out.2.2.2 hb5))))
          clear TL3
          have HX5 := Lib.hid (show Rep w5 3 (.agg #[.int .i64 4, .int .i64 0, .float .f64 0, .string ⟨#[]⟩, .slice ps l9 cs]) (tableT 0 (ledA AS)) ∧ Rep w5 3 (.agg #[.int .i64 Kt, .int .i64 It, .float .f64 Ft, .string St, .slice qt mt dt]) (tableT 0 (ledA AS)) ∧ Rep w5 1 (.agg #[.int .i64 Ku, .int .i64 Iu, .float .f64 Fu, .string Su, .slice qu mu du]) (floT 0 SM) from ⟨rep_keep hb5 _ _ _ (rep_keep hb34 _ _ _ HX3.out.1), rep_keep hb5 _ _ _ (rep_keep hb34 _ _ _ HX3.out.2.1), rep_keep hb5 _ _ _ (rep_keep hb34 _ _ _ HX3.out.2.2)⟩)
          clear hb5 hb34 ht5 hu5 HX3
          have TL5 := Lib.hid (show ZL w5 sb ps l9 cs ∧ Zw w5 w3.heap.size (.int .i64 Kt) (.int .i64 It) (.float .f64 Ft) (.string St) (.slice qt mt dt) ∧ Zw w5 (w3.heap.size + 1) (.int .i64 Ku) (.int .i64 Iu) (.float .f64 Fu) (.string Su) (.slice qu mu du) ∧ (Below w5.heap.size w5 w5) ∧ Below w.heap.size w w5 from ⟨TL4.out.1, TL4.out.2.1, TL4.out.2.2.1, Below.refl _ _, TL4.out.2.2.2⟩)
          clear TL4
          have HCN := Lib.hid (Flo.canon_yes (feq_pos HSL.out))
          have hw00 : IntKind.i64.wrap 0 = 0 := by decide
          go_upto_region 21 with fail
          have hlt6 : sb < w5.heap.size := (by have h := row_lt TL5.out.1; (try simp only [World.size_alloc, World.size_drew] at h); exact h)
          have hlt7 : w3.heap.size < w5.heap.size := (by have h := row_lt TL5.out.2.1; (try simp only [World.size_alloc, World.size_drew] at h); exact h)
          have hlt8 : w3.heap.size + 1 < w5.heap.size := (by have h := row_lt TL5.out.2.2.1; (try simp only [World.size_alloc, World.size_drew] at h); exact h)
          have hlt9 : w.heap.size ≤ w5.heap.size := (by have h := TL5.out.2.2.2.2.size; (try simp only [World.size_alloc, World.size_drew] at h); exact h)
          have TL6 := Lib.hid (show (fun z0 : World => ZL z0 sb ps l9 cs ∧ Zw z0 w3.heap.size (.int .i64 Kt) (.int .i64 It) (.float .f64 Ft) (.string St) (.slice qt mt dt) ∧ Zw z0 (w3.heap.size + 1) (.int .i64 Ku) (.int .i64 Iu) (.float .f64 Fu) (.string Su) (.slice qu mu du) ∧ Zw z0 w5.heap.size (.int .i64 Kn) (.int .i64 In) (.float .f64 Fn) (.string Sn) (.slice qn mn dn) ∧ (Below w5.heap.size w5 z0) ∧ Below w.heap.size w z0) (w5.alloc (.cells #[.int .i64 Kn, .int .i64 In, .float .f64 Fn, .string Sn, .slice qn mn dn] 27)) from ⟨(row_alloc_step (TL5.out.1) _), (row_alloc_step (TL5.out.2.1) _), (row_alloc_step (TL5.out.2.2.1) _), (ra (by simp only [World.size_alloc, World.size_drew, World.size_setCell])), bel_step TL5.out.2.2.2.1 (bel_alloc br _), bel_step TL5.out.2.2.2.2 (bel_alloc br _)⟩)
          have hlt10 : sb < w5.heap.size + 1 := (by have h := row_lt TL6.out.1; (try simp only [World.size_alloc, World.size_drew] at h); exact h)
          have hlt11 : w3.heap.size < w5.heap.size + 1 := (by have h := row_lt TL6.out.2.1; (try simp only [World.size_alloc, World.size_drew] at h); exact h)
          have hlt12 : w3.heap.size + 1 < w5.heap.size + 1 := (by have h := row_lt TL6.out.2.2.1; (try simp only [World.size_alloc, World.size_drew] at h); exact h)
          have hlt13 : w5.heap.size < w5.heap.size + 1 := (by have h := row_lt TL6.out.2.2.2.1; (try simp only [World.size_alloc, World.size_drew] at h); exact h)
          have hlt14 : w.heap.size ≤ w5.heap.size + 1 := (by have h := TL6.out.2.2.2.2.2.size; (try simp only [World.size_alloc, World.size_drew] at h); exact h)
          have TL7 := Lib.hid (show (fun z0 : World => ZL z0 sb ps l9 cs ∧ Zw z0 w3.heap.size (.int .i64 Kt) (.int .i64 It) (.float .f64 Ft) (.string St) (.slice qt mt dt) ∧ Zw z0 (w3.heap.size + 1) (.int .i64 Ku) (.int .i64 Iu) (.float .f64 Fu) (.string Su) (.slice qu mu du) ∧ Zw z0 w5.heap.size (.int .i64 Kn) (.int .i64 In) (.float .f64 Fn) (.string Sn) (.slice qn mn dn) ∧ ZL z0 (w5.heap.size + 1) p9 l9 c9 ∧ (Below w5.heap.size w5 z0) ∧ Below w.heap.size w z0) ((w5.alloc (.cells #[.int .i64 Kn, .int .i64 In, .float .f64 Fn, .string Sn, .slice qn mn dn] 27)).alloc (.cells #[.int .i64 4, .int .i64 0, .float .f64 0, .string ⟨#[]⟩, .slice p9 l9 c9] 27)) from ⟨(row_alloc_step (row_alloc_step (TL5.out.1) _) _), (row_alloc_step (row_alloc_step (TL5.out.2.1) _) _), (row_alloc_step (row_alloc_step (TL5.out.2.2.1) _) _), (row_alloc_step (ra (by simp only [World.size_alloc, World.size_drew, World.size_setCell])) _), (ra (by simp only [World.size_alloc, World.size_drew, World.size_setCell])), bel_step TL5.out.2.2.2.1 (bel_alloc (bel_alloc br _) _), bel_step TL5.out.2.2.2.2 (bel_alloc (bel_alloc br _) _)⟩)
          have TL8 := Lib.hid (And.intro (row_step TL7.out.1 (show Below ((w5.alloc (.cells #[.int .i64 Kn, .int .i64 In, .float .f64 Fn, .string Sn, .slice qn mn dn] 27)).alloc (.cells #[.int .i64 4, .int .i64 0, .float .f64 0, .string ⟨#[]⟩, .slice p9 l9 c9] 27)).heap.size ((w5.alloc (.cells #[.int .i64 Kn, .int .i64 In, .float .f64 Fn, .string Sn, .slice qn mn dn] 27)).alloc (.cells #[.int .i64 4, .int .i64 0, .float .f64 0, .string ⟨#[]⟩, .slice p9 l9 c9] 27)) ((w5.alloc (.cells #[.int .i64 Kn, .int .i64 In, .float .f64 Fn, .string Sn, .slice qn mn dn] 27)).alloc (.cells #[.int .i64 4, .int .i64 0, .float .f64 0, .string ⟨#[]⟩, .slice p9 l9 c9] 27)).drew from Below.drew br)) (And.intro (row_step TL7.out.2.1 (show Below ((w5.alloc (.cells #[.int .i64 Kn, .int .i64 In, .float .f64 Fn, .string Sn, .slice qn mn dn] 27)).alloc (.cells #[.int .i64 4, .int .i64 0, .float .f64 0, .string ⟨#[]⟩, .slice p9 l9 c9] 27)).heap.size ((w5.alloc (.cells #[.int .i64 Kn, .int .i64 In, .float .f64 Fn, .string Sn, .slice qn mn dn] 27)).alloc (.cells #[.int .i64 4, .int .i64 0, .float .f64 0, .string ⟨#[]⟩, .slice p9 l9 c9] 27)) ((w5.alloc (.cells #[.int .i64 Kn, .int .i64 In, .float .f64 Fn, .string Sn, .slice qn mn dn] 27)).alloc (.cells #[.int .i64 4, .int .i64 0, .float .f64 0, .string ⟨#[]⟩, .slice p9 l9 c9] 27)).drew from Below.drew br)) (And.intro (row_step TL7.out.2.2.1 (show Below ((w5.alloc (.cells #[.int .i64 Kn, .int .i64 In, .float .f64 Fn, .string Sn, .slice qn mn dn] 27)).alloc (.cells #[.int .i64 4, .int .i64 0, .float .f64 0, .string ⟨#[]⟩, .slice p9 l9 c9] 27)).heap.size ((w5.alloc (.cells #[.int .i64 Kn, .int .i64 In, .float .f64 Fn, .string Sn, .slice qn mn dn] 27)).alloc (.cells #[.int .i64 4, .int .i64 0, .float .f64 0, .string ⟨#[]⟩, .slice p9 l9 c9] 27)) ((w5.alloc (.cells #[.int .i64 Kn, .int .i64 In, .float .f64 Fn, .string Sn, .slice qn mn dn] 27)).alloc (.cells #[.int .i64 4, .int .i64 0, .float .f64 0, .string ⟨#[]⟩, .slice p9 l9 c9] 27)).drew from Below.drew br)) (And.intro (row_step TL7.out.2.2.2.1 (show Below ((w5.alloc (.cells #[.int .i64 Kn, .int .i64 In, .float .f64 Fn, .string Sn, .slice qn mn dn] 27)).alloc (.cells #[.int .i64 4, .int .i64 0, .float .f64 0, .string ⟨#[]⟩, .slice p9 l9 c9] 27)).heap.size ((w5.alloc (.cells #[.int .i64 Kn, .int .i64 In, .float .f64 Fn, .string Sn, .slice qn mn dn] 27)).alloc (.cells #[.int .i64 4, .int .i64 0, .float .f64 0, .string ⟨#[]⟩, .slice p9 l9 c9] 27)) ((w5.alloc (.cells #[.int .i64 Kn, .int .i64 In, .float .f64 Fn, .string Sn, .slice qn mn dn] 27)).alloc (.cells #[.int .i64 4, .int .i64 0, .float .f64 0, .string ⟨#[]⟩, .slice p9 l9 c9] 27)).drew from Below.drew br)) (And.intro (row_step TL7.out.2.2.2.2.1 (show Below ((w5.alloc (.cells #[.int .i64 Kn, .int .i64 In, .float .f64 Fn, .string Sn, .slice qn mn dn] 27)).alloc (.cells #[.int .i64 4, .int .i64 0, .float .f64 0, .string ⟨#[]⟩, .slice p9 l9 c9] 27)).heap.size ((w5.alloc (.cells #[.int .i64 Kn, .int .i64 In, .float .f64 Fn, .string Sn, .slice qn mn dn] 27)).alloc (.cells #[.int .i64 4, .int .i64 0, .float .f64 0, .string ⟨#[]⟩, .slice p9 l9 c9] 27)) ((w5.alloc (.cells #[.int .i64 Kn, .int .i64 In, .float .f64 Fn, .string Sn, .slice qn mn dn] 27)).alloc (.cells #[.int .i64 4, .int .i64 0, .float .f64 0, .string ⟨#[]⟩, .slice p9 l9 c9] 27)).drew from Below.drew br)) (And.intro (bel_step TL7.out.2.2.2.2.2.1 (show Below ((w5.alloc (.cells #[.int .i64 Kn, .int .i64 In, .float .f64 Fn, .string Sn, .slice qn mn dn] 27)).alloc (.cells #[.int .i64 4, .int .i64 0, .float .f64 0, .string ⟨#[]⟩, .slice p9 l9 c9] 27)).heap.size ((w5.alloc (.cells #[.int .i64 Kn, .int .i64 In, .float .f64 Fn, .string Sn, .slice qn mn dn] 27)).alloc (.cells #[.int .i64 4, .int .i64 0, .float .f64 0, .string ⟨#[]⟩, .slice p9 l9 c9] 27)) ((w5.alloc (.cells #[.int .i64 Kn, .int .i64 In, .float .f64 Fn, .string Sn, .slice qn mn dn] 27)).alloc (.cells #[.int .i64 4, .int .i64 0, .float .f64 0, .string ⟨#[]⟩, .slice p9 l9 c9] 27)).drew from Below.drew br)) (bel_step TL7.out.2.2.2.2.2.2 (show Below ((w5.alloc (.cells #[.int .i64 Kn, .int .i64 In, .float .f64 Fn, .string Sn, .slice qn mn dn] 27)).alloc (.cells #[.int .i64 4, .int .i64 0, .float .f64 0, .string ⟨#[]⟩, .slice p9 l9 c9] 27)).heap.size ((w5.alloc (.cells #[.int .i64 Kn, .int .i64 In, .float .f64 Fn, .string Sn, .slice qn mn dn] 27)).alloc (.cells #[.int .i64 4, .int .i64 0, .float .f64 0, .string ⟨#[]⟩, .slice p9 l9 c9] 27)) ((w5.alloc (.cells #[.int .i64 Kn, .int .i64 In, .float .f64 Fn, .string Sn, .slice qn mn dn] 27)).alloc (.cells #[.int .i64 4, .int .i64 0, .float .f64 0, .string ⟨#[]⟩, .slice p9 l9 c9] 27)).drew from Below.drew br))))))))
          clear TL7
          refine wp_region_held_drew (S := (fun z => z.cell? ⟨sb, 0, none⟩ = some (.int .i64 4) ∧ z.cell? ⟨sb, 1, none⟩ = some (.int .i64 0) ∧ z.cell? ⟨sb, 2, none⟩ = some (.float .f64 0) ∧ z.cell? ⟨sb, 3, none⟩ = some (.string ⟨#[]⟩) ∧ z.cell? ⟨sb, 4, none⟩ = some (.slice ps l9 cs) ∧ z.cell? ⟨w3.heap.size, 0, none⟩ = some (.int .i64 Kt) ∧ z.cell? ⟨w3.heap.size, 1, none⟩ = some (.int .i64 It) ∧ z.cell? ⟨w3.heap.size, 2, none⟩ = some (.float .f64 Ft) ∧ z.cell? ⟨w3.heap.size, 3, none⟩ = some (.string St) ∧ z.cell? ⟨w3.heap.size, 4, none⟩ = some (.slice qt mt dt) ∧ z.cell? ⟨w3.heap.size + 1, 0, none⟩ = some (.int .i64 Ku) ∧ z.cell? ⟨w3.heap.size + 1, 1, none⟩ = some (.int .i64 Iu) ∧ z.cell? ⟨w3.heap.size + 1, 2, none⟩ = some (.float .f64 Fu) ∧ z.cell? ⟨w3.heap.size + 1, 3, none⟩ = some (.string Su) ∧ z.cell? ⟨w3.heap.size + 1, 4, none⟩ = some (.slice qu mu du) ∧ z.cell? ⟨w5.heap.size + 1, 4, none⟩ = some (.slice p9 l9 c9))) (by kernel_rfl) ?_ (fun hH => ?_)
          · exact ⟨rc TL8.out.1 0, rc TL8.out.1 1, rc TL8.out.1 2, rc TL8.out.1 3, rc TL8.out.1 4, rc TL8.out.2.1 0, rc TL8.out.2.1 1, rc TL8.out.2.1 2, rc TL8.out.2.1 3, rc TL8.out.2.1 4, rc TL8.out.2.2.1 0, rc TL8.out.2.2.1 1, rc TL8.out.2.2.1 2, rc TL8.out.2.2.1 3, rc TL8.out.2.2.1 4, rc TL8.out.2.2.2.2.1 4⟩
          revert TL8 hH
          generalize ((w5.alloc (.cells #[.int .i64 Kn, .int .i64 In, .float .f64 Fn, .string Sn, .slice qn mn dn] 27)).alloc (.cells #[.int .i64 4, .int .i64 0, .float .f64 0, .string ⟨#[]⟩, .slice p9 l9 c9] 27)).drew = Wd
          intro TL8 hH
          refine zt [0, 1, 2, 3, 4, 5, 6] ?_
          iterate 7 (refine zt1 (fun _ _ d _ _ h => by cases d <;> exact h) (by simp only [lk0, lk1, lk2]; rfl) (by kernel_rfl) (by assumption) (by rfl) (fun w h => by (try dsimp only at h); go_simp; (try with_reducible rfl)) ?_; (try simp only [Act.put, pk0, pk1, pk2]))
          refine zt0 ?_
          refine zr1 7 (by kernel_rfl) (by simp only [lk0, lk1, lk2]; rfl) (fun K hK => ?_)
          go_simp
          go_at_call 14; refine (same_any 3 _ _ _ _ (rep_keep TL8.out.2.2.2.2.2.1 _ _ _ HX5.out.2.1) (rep_keep TL8.out.2.2.2.2.2.1 _ _ _ HX5.out.1)).mono ?_; rintro e w23 ⟨rfl, hbw23⟩
          have TL9 := Lib.hid (And.intro (row_step TL8.out.1 hbw23) (And.intro (row_step TL8.out.2.1 hbw23) (And.intro (row_step TL8.out.2.2.1 hbw23) (And.intro (row_step TL8.out.2.2.2.1 hbw23) (And.intro (row_step TL8.out.2.2.2.2.1 hbw23) (And.intro (bel_step TL8.out.2.2.2.2.2.1 hbw23) (bel_step TL8.out.2.2.2.2.2.2 hbw23)))))))
          clear TL8
          clear hbw23
          go_wp2_with fail
          refine hK.out _ _ ?hsv22_ (fun hH => ?_)
          case hsv22_ => exact ⟨rc TL9.out.1 0, rc TL9.out.1 1, rc TL9.out.1 2, rc TL9.out.1 3, rc TL9.out.1 4, rc TL9.out.2.1 0, rc TL9.out.2.1 1, rc TL9.out.2.1 2, rc TL9.out.2.1 3, rc TL9.out.2.1 4, rc TL9.out.2.2.1 0, rc TL9.out.2.2.1 1, rc TL9.out.2.2.1 2, rc TL9.out.2.2.1 3, rc TL9.out.2.2.1 4, rc TL9.out.2.2.2.2.1 4⟩
          clear hK K
          (try simp only [Act.put, pk0, pk1, pk2])
          refine zt [8, 9, 10, 11] ?_
          iterate 4 (refine zt1 (fun _ _ d _ _ h => by cases d <;> exact h) (by simp only [lk0, lk1, lk2]; rfl) (by kernel_rfl) (by assumption) (by rfl) (fun w h => by (try dsimp only at h); go_simp; (try with_reducible rfl)) ?_; (try simp only [Act.put, pk0, pk1, pk2]))
          refine zt0 ?_
          refine zr1 12 (by kernel_rfl) (by simp only [lk0, lk1, lk2]; rfl) (fun K hK => ?_)
          go_simp
          go_at_call 20; refine (float_is HCN.out _).mono ?_; rintro e w29 ⟨rfl, hbw29⟩
          have TL10 := Lib.hid (And.intro (row_step TL9.out.1 hbw29) (And.intro (row_step TL9.out.2.1 hbw29) (And.intro (row_step TL9.out.2.2.1 hbw29) (And.intro (row_step TL9.out.2.2.2.1 hbw29) (And.intro (row_step TL9.out.2.2.2.2.1 hbw29) (And.intro (bel_step TL9.out.2.2.2.2.2.1 hbw29) (bel_step TL9.out.2.2.2.2.2.2 hbw29)))))))
          clear TL9
          clear hbw29
          go_wp2_with fail
          refine hK.out _ _ ?hsv28_ (fun hH => ?_)
          case hsv28_ => exact ⟨rc TL10.out.1 0, rc TL10.out.1 1, rc TL10.out.1 2, rc TL10.out.1 3, rc TL10.out.1 4, rc TL10.out.2.1 0, rc TL10.out.2.1 1, rc TL10.out.2.1 2, rc TL10.out.2.1 3, rc TL10.out.2.1 4, rc TL10.out.2.2.1 0, rc TL10.out.2.2.1 1, rc TL10.out.2.2.1 2, rc TL10.out.2.2.1 3, rc TL10.out.2.2.1 4, rc TL10.out.2.2.2.2.1 4⟩
          clear hK K
          (try simp only [Act.put, pk0, pk1, pk2])
          refine zr1 13 (by kernel_rfl) (by simp only [lk0, lk1, lk2]; rfl) (fun K hK => ?_)
          go_simp
          go_at_call 14; refine (same_any 1 _ _ (floT 0 SM) _ (rep_keep TL10.out.2.2.2.2.2.1 _ _ _ HX5.out.2.2) (flo_repn 0 _ (by have := HSL.out; omega))).mono ?_; rintro e w31 ⟨rfl, hbw31⟩
          have TL11 := Lib.hid (And.intro (row_step TL10.out.1 hbw31) (And.intro (row_step TL10.out.2.1 hbw31) (And.intro (row_step TL10.out.2.2.1 hbw31) (And.intro (row_step TL10.out.2.2.2.1 hbw31) (And.intro (row_step TL10.out.2.2.2.2.1 hbw31) (And.intro (bel_step TL10.out.2.2.2.2.2.1 hbw31) (bel_step TL10.out.2.2.2.2.2.2 hbw31)))))))
          clear TL10
          clear hbw31
          go_wp2_with fail
          refine hK.out _ _ ?hsv30_ (fun hH => ?_)
          case hsv30_ => exact ⟨rc TL11.out.1 0, rc TL11.out.1 1, rc TL11.out.1 2, rc TL11.out.1 3, rc TL11.out.1 4, rc TL11.out.2.1 0, rc TL11.out.2.1 1, rc TL11.out.2.1 2, rc TL11.out.2.1 3, rc TL11.out.2.1 4, rc TL11.out.2.2.1 0, rc TL11.out.2.2.1 1, rc TL11.out.2.2.1 2, rc TL11.out.2.2.1 3, rc TL11.out.2.2.1 4, rc TL11.out.2.2.2.2.1 4⟩
          clear hK K
          (try simp only [Act.put, pk0, pk1, pk2])
          refine zt [14, 15, 16, 17, 18, 19, 20, 21, 22, 23, 24] ?_
          iterate 11 (refine zt1 (fun _ _ d _ _ h => by cases d <;> exact h) (by simp only [lk0, lk1, lk2]; rfl) (by kernel_rfl) (by assumption) (by rfl) (fun w h => by (try dsimp only at h); go_simp; (try with_reducible rfl)) ?_; (try simp only [Act.put, pk0, pk1, pk2]))
          refine zt0 ?_
          refine wpAnyH_done (by kernel_rfl) ?_ _
          go_wp2
          go_ret
          exact ⟨rfl, TL11.out.2.2.2.2.2.2⟩
end Num
end Go.Proofs.YtpbfaffheigjcaaGreat
/-
  LedgerTotals: whatever comes in.
-/
namespace Go.Proofs.YtpbfaffheigjcaaGreat
open Go.RowKit
namespace Num
open Ints
set_option linter.unusedSimpArgs false
set_option linter.unusedVariables false
set_option maxRecDepth 100000 in
theorem totals_law {H : Type} {enc : TypeId × Value → H} {W : World} {v0 : Value} {d0 : DataW H} {p0 : List MemPlace} {b0 : Nat} (k0 : DataW.Trod enc Tryz.prog W 0 (fun _ => true) true 22 v0 d0 p0) (o0 : Value.okWide Tryz.prog W .any b0 22 v0) :
    Calls Tryz.prog 7 #[v0] W fun e w' => e = .returned (.bool true) ∧ Below W.heap.size W w' := by
  obtain ⟨n, p, l, c, L, rfl, h⟩ := acts_of_Trod k0 o0
  exact totals_in n p l c L W h
end Num
end Go.Proofs.YtpbfaffheigjcaaGreat
