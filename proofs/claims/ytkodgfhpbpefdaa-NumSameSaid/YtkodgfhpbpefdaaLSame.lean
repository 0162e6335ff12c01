/-
  NumSame: what is added in one order, the same way, is the same to the last bit, however often: the call returns true at any list of floats.
-/
import Derived.Test.YtkodgfhpbpefdaaSameF
import Derived.Test.YtkodgfhpbpefdaaSame0
namespace Go.Proofs.Ytkodgfhpbpefdaa
open Go.RowKit
namespace Num
open Ints
set_option linter.unusedSimpArgs false
set_option linter.unusedVariables false
theorem nil_rep {α : Type} {w : World} {R : Value → α → Prop} : RepL w R none 0 0 [] := ⟨rfl, Nat.le_refl _, Nat.zero_le _, fun h => absurd h (Nat.lt_irrefl _)⟩
theorem bel_of_drew {w w' : World} (h : Below w.drew.heap.size w.drew w') : Below w.heap.size w w' := ⟨h.os, h.tape, h.output, h.size, h.block⟩
theorem rep_flat {w w' : World} {v : Value} {y : Nat} (h : Rep w 1 v (treeF y)) : Rep w' 1 v (treeF y) := by
  obtain ⟨p, l, c, hv, h1, h2, h3, h4, h5⟩ := h
  have h0 : 0 = l := h5.1
  subst h0
  exact ⟨p, 0, c, hv, h1, h2, h3, h4, ⟨h5.1, h5.2.1, h5.2.2.1, fun h => absurd h (Nat.lt_irrefl _)⟩⟩
theorem repL_set5 {w : World} {g og k d b : Nat} {Fs : List Nat} {v0 v1 v2 v3 v4 : Value} (h : RepL w (Rep w 1) (some ⟨g, og, none⟩) k d (Fs.map treeF)) (hne : g ≠ b) :
    RepL (set5 w b v0 v1 v2 v3 v4) (Rep (set5 w b v0 v1 v2 v3 v4) 1) (some ⟨g, og, none⟩) k d (Fs.map treeF) := by
  obtain ⟨h1, h2, h3, h4⟩ := h
  refine ⟨h1, h2, h3, fun hk => ?_⟩
  obtain ⟨b', off', hp, hi⟩ := h4 hk
  refine ⟨b', off', hp, fun i hi' => ?_⟩
  simp only [Option.some.injEq, Addr.mk.injEq, and_true] at hp
  obtain ⟨rfl, rfl⟩ := hp
  obtain ⟨u0, u1, u2, u3, u4, c0, c1, c2, c3, c4, hr⟩ := hi i hi'
  have hh : (set5 w b v0 v1 v2 v3 v4).heap[g]? = w.heap[g]? := set5_other rfl hne v0 v1 v2 v3 v4
  generalize set5 w b v0 v1 v2 v3 v4 = w' at hh ⊢
  have hc : ∀ o, w'.cell? ⟨g, o, none⟩ = w.cell? ⟨g, o, none⟩ := fun o => by
    unfold World.cell?
    rw [hh]
  refine ⟨u0, u1, u2, u3, u4, (hc _).trans c0, (hc _).trans c1, (hc _).trans c2, (hc _).trans c3, (hc _).trans c4, ?_⟩
  rw [List.getElem_map] at hr ⊢
  exact rep_flat hr
theorem info5 : (Try.prog.info? 25).map (fun i => (i.zero, i.size, i.bytes)) = some (some (.agg #[.int .i64 0, .int .i64 0, .float .f64 0, .string ⟨#[]⟩, .slice none 0 0]), 5, 64) := by kernel_rfl
set_option maxHeartbeats 2000000 in
/-- The first loop: a list of Floats of the call's own. -/
theorem numSame_calls (p : Option Addr) (l c : Nat) (Fs : List Nat) (m : Int) (hm0 : 0 ≤ m) (hm1 : m < 256) (hF : ∀ y ∈ Fs, y < 2 ^ 64) (w : World) (h : RepF w p l c Fs) :
    Calls Try.prog 7 #[.slice p l c, .int .u8 m] w fun e w' => e = .returned (.bool true) ∧ Below w.heap.size w w' := by
  obtain ⟨hl, hlc, hcm, hel⟩ := h
  unfold maxLen at hcm
  have HL := Lib.hid hl
  have HE := Lib.hid hel
  have HF := Lib.hid hF
  clear hl hel hF
  by_cases h60 : 60 < l
  · 
    go_enter Try.func7, Try.ntmps7
    go_wp2_with fail
    go_at_call 10; refine (known_any _).mono ?_; rintro e w0 ⟨rfl, hb0⟩
    go_wp2
    go_ret
    exact ⟨rfl, hb0⟩
  obtain ⟨i0, hi, hz0, hz1, hz2⟩ := info_parts info5
  have hl60 : l ≤ 60 := by omega
  go_enter Try.func7, Try.ntmps7
  go_wp2_with fail
  go_at_call 10; refine (known_any _).mono ?_; rintro e w0 ⟨rfl, hb0⟩
  have B0 := Lib.hid hb0
  clear hb0
  go_wp2
  go_loopw [5, 6] (fun v i wr => ∃ k : Nat, k ≤ l ∧ i = .int .i64 k ∧ Below w.heap.size w wr ∧ wr.ownsRow w.heap.size 25 5 v k ((Fs.take k).flatMap cellsF) ∧ Hid (k = 0 → v = .slice none 0 0)) (fun _ i _ => l - (intOf i).toNat)
  case atStart => exact ⟨0, by omega, rfl, B0.out, World.ownsRow_nil _ _ _ _, Lib.hid fun _ => rfl⟩
  case round =>
    obtain ⟨k, hk, rfl, hB, hown, hnil⟩ := hrel
    have GB := Lib.hid hB
    have GO := Lib.hid hown
    clear B0
    by_cases hkl : k < l
    · obtain ⟨b, off, hp, hcell⟩ := HE.out (by omega)
      subst hp
      have hkL : k < Fs.length := by have := HL.out; omega
      have c0 := cell_keep hB (hcell k hkL)
      have hk0 : (0 : Int) ≤ (k : Int) := by omega
      have Htake := Lib.hid (show (Fs.take (k + 1)).flatMap cellsF = (Fs.take k).flatMap cellsF ++ cellsF Fs[k] by rw [List.take_succ_eq_append_getElem hkL, List.flatMap_append]; simp)
      clear hcell hB hown
      go_wp2_with fail
      go_at_call 30; refine (float_ref_any _ _).mono ?_; rintro e w1 ⟨rfl, hb1⟩
      have GB1 := Lib.hid (bel_step GB.out hb1)
      have GO1 := Lib.hid (owns_keep hb1 GO.out)
      have hsz := GB1.out.size
      clear hb1 c0
      go_wp2_with (at_builtin; refine wpList_append_own _ rfl _ _ 23 rfl w.heap.size 25 i0 (.agg #[.int .i64 0, .int .i64 0, .float .f64 0, .string ⟨#[]⟩, .slice none 0 0]) 5 64 Try.underlying23 hi hz0 hz1 hz2 rfl (by decide) _ _ _ rfl (GO1.out.alloc _) ⟨w1.heap.size, 0, none⟩ 1 1 [.int .i64 2, .int .i64 0, .float .f64 (Flo.canon Fs[k]), .string ⟨#[]⟩, .slice none 0 0] rfl rfl ?c1 ?c2 ?c3 ?c4 ?c5 ?_)
      case c1 =>
        intro j u hj
        have hr := row_alloc w1 #[Value.int .i64 2, .int .i64 0, .float .f64 (Flo.canon Fs[k]), .string ⟨#[]⟩, .slice none 0 0] 25
        match j, hj with
        | 0, hj => cases hj; exact row_cell hr 0
        | 1, hj => cases hj; exact row_cell hr 1
        | 2, hj => cases hj; exact row_cell hr 2
        | 3, hj => cases hj; exact row_cell hr 3
        | 4, hj => cases hj; exact row_cell hr 4
      case c2 => intro u hu; simp at hu; rcases hu with rfl | rfl | rfl | rfl | rfl <;> rfl
      case c3 => simp [maxLen]; omega
      case c4 => omega
      case c5 => simp; omega
      intro v' w2 hown' hgrow _
      have HO := Lib.hid (show w2.ownsRow w.heap.size 25 5 v' (k + 1) ((Fs.take (k + 1)).flatMap cellsF) by rw [Htake.out]; exact hown')
      have HB2 := Lib.hid (Below.grown (bel_alloc GB1.out (.cells #[Value.int .i64 2, .int .i64 0, .float .f64 (Flo.canon Fs[k]), .string ⟨#[]⟩, .slice none 0 0] 25)) hgrow (by simp; omega) (owns_block GO1.out))
      clear hown' hgrow GO1 GB1 GO GB Htake hsz hnil
      go_wp2
      go_roundw
      case rel => exact ⟨k + 1, by omega, by go_num, HB2.out, HO.out, Lib.hid fun h => absurd h (by omega)⟩
      case measure => simp [intOf]; omega
    · obtain rfl : k = l := by omega
      have hlen : Fs.length = k := HL.out
      have htk : Fs.take k = Fs := List.take_of_length_le (by omega)
      rw [htk] at hown
      have hcan : ∀ y ∈ Fs, Flo.canon y < 2 ^ 64 := fun y hy => Flo.canon_lt (HF.out y hy)
      obtain ⟨q, d, rfl, hrep, _⟩ := repL_of_owns hlen hcan hown
      have HR := Lib.hid hrep
      obtain ⟨A, N, D, hs, hA, oN⟩ := sumV_floats Fs 1 0 0 rfl (by decide)
      have HS := Lib.hid hs
      clear hrep hs hB hcan htk GO hA oN
      by_cases h0 : k = 0
      · subst h0
        have hv := hnil.out rfl
        simp only [Value.slice.injEq] at hv
        obtain ⟨rfl, _, rfl⟩ := hv
        obtain rfl : Fs = [] := List.length_eq_zero_iff.1 hlen
        clear hown hnil hlen
        go_wp2_with fail
        go_at_call 20; refine (sum_any 0 none 0 0 [] _ nil_rep (sumV_nil 1 0 0)).mono ?_; rintro e w1 ⟨rfl, hb1⟩
        have R7 := row_alloc w1 #[.int .i64 1, .int .i64 0, .float .f64 0, .string ⟨#[]⟩, .slice none 0 0] 25
        have G1 := Lib.hid (bel_alloc (bel_step GB.out hb1) (.cells #[.int .i64 1, .int .i64 0, .float .f64 0, .string ⟨#[]⟩, .slice none 0 0] 25))
        clear hb1 GB
        go_wp2_with fail
        go_at_call 20; refine (sum_any 0 none 0 0 [] _ nil_rep (sumV_nil 1 0 0)).mono ?_; rintro e w2 ⟨rfl, hb2⟩
        have R8 := row_step R7 hb2
        have G2 := Lib.hid (bel_alloc (bel_step G1.out hb2) (.cells #[.int .i64 1, .int .i64 0, .float .f64 0, .string ⟨#[]⟩, .slice none 0 0] 25))
        have l8 := row_lt R8
        have n8 : w2.heap.size ≠ w1.heap.size := by omega
        have x0 := row_cell R8 0
        have x1 := row_cell R8 1
        have x2 := row_cell R8 2
        have x3 := row_cell R8 3
        have x4 := row_cell R8 4
        simp only [List.getElem?_toArray, List.getElem?_cons_zero, List.getElem?_cons_succ] at x0 x1 x2 x3 x4
        clear hb2 R7 R8 G1 HR
        go_wp2
        refine wp_loop_rounds 1 ?_
        rw [rounds_succ]
        go_wp2_with fail
        go_at_call 14; refine (same_shallow _ _ _ _).mono ?_; rintro e w3 ⟨rfl, hb3⟩
        have G3 := Lib.hid (bel_step G2.out hb3)
        clear hb3 x0 x1 x2 x3 x4
        go_wp2
        go_ret
        exact ⟨rfl, G3.out⟩
      · obtain ⟨g, og, hq, hgel⟩ := HR.out.2.2.2 (by omega)
        subst hq
        have hkp : 0 < k := by omega
        have hkI : (0 : Int) < (k : Int) := by omega
        obtain ⟨t, ht⟩ : ∃ t : Nat, m % (k : Int) = t := ⟨(m % (k : Int)).toNat, (Int.toNat_of_nonneg (Int.emod_nonneg _ (by omega))).symm⟩
        have htk : t < k := by have := Int.emod_lt_of_pos m hkI; omega
        have HT := Lib.hid ht
        have hkd : k ≤ d := HR.out.2.1
        have hdm : d ≤ 2 ^ 63 - 1 := HR.out.2.2.1
        have hm2 : 0 ≤ m % (k : Int) := by omega
        have hm3 : m % (k : Int) < (k : Int) := by omega
        have hm4 : m % (k : Int) ≤ (d : Int) := by omega
        obtain ⟨A1, N1, D1, hs1, hA1, oN1⟩ := sumV_floats (Fs.take t) 1 0 0 rfl (by decide)
        have HS1 := Lib.hid hs1
        have HA1 := Lib.hid hA1
        have HN1 := Lib.hid oN1
        have HQ1 := Lib.hid (show sumV (n := 0) (1, 0, 0) ((Fs.map treeF).take t) = (A1, N1, D1, 0) by rw [← List.map_take]; exact hs1)
        clear hs1 hA1 oN1
        clear hown hnil hlen ht hgel h0
        go_wp2_with fail
        go_at_call 20; refine (sum_any 0 _ _ _ _ _ HR.out HS.out).mono ?_; rintro e w1 ⟨rfl, hb1⟩
        have R7 := Lib.hid (row_alloc w1 #[.int .i64 A, .int .i64 N, .float .f64 D, .string ⟨#[]⟩, .slice none 0 0] 25)
        have G1 := Lib.hid (bel_alloc (bel_step GB.out hb1) (.cells #[.int .i64 A, .int .i64 N, .float .f64 D, .string ⟨#[]⟩, .slice none 0 0] 25))
        have P1 := Lib.hid (repL_keep (bel_alloc hb1 (.cells #[.int .i64 A, .int .i64 N, .float .f64 D, .string ⟨#[]⟩, .slice none 0 0] 25)) (rep_keep (bel_alloc hb1 (.cells #[.int .i64 A, .int .i64 N, .float .f64 D, .string ⟨#[]⟩, .slice none 0 0] 25)) 1) HR.out)
        clear hb1 GB HR
        go_wp2_with fail
        rw [HT.out, Int.toNat_natCast]
        clear hm2 hm3 hm4
        go_at_call 20; refine (sum_any 0 _ _ _ _ _ (repL_take P1.out (by omega)) HQ1.out).mono ?_; rintro e w2 ⟨rfl, hb2⟩
        have R8 := Lib.hid (row_alloc_step (row_step R7.out hb2) (.cells #[.int .i64 A1, .int .i64 N1, .float .f64 D1, .string ⟨#[]⟩, .slice none 0 0] 25))
        have R10 := Lib.hid (row_alloc w2 #[.int .i64 A1, .int .i64 N1, .float .f64 D1, .string ⟨#[]⟩, .slice none 0 0] 25)
        have G2 := Lib.hid (bel_alloc (bel_step G1.out hb2) (.cells #[.int .i64 A1, .int .i64 N1, .float .f64 D1, .string ⟨#[]⟩, .slice none 0 0] 25))
        have P2 := Lib.hid (repL_keep (bel_alloc hb2 (.cells #[.int .i64 A1, .int .i64 N1, .float .f64 D1, .string ⟨#[]⟩, .slice none 0 0] 25)) (rep_keep (bel_alloc hb2 (.cells #[.int .i64 A1, .int .i64 N1, .float .f64 D1, .string ⟨#[]⟩, .slice none 0 0] 25)) 1) P1.out)
        have l8 := row_lt (row_step R7.out hb2)
        have n8 : w2.heap.size ≠ w1.heap.size := by omega
        have n9 : w1.heap.size ≠ w2.heap.size := by omega
        have hle1 := G1.out.size
        simp only [World.size_alloc] at hle1
        have hle2 : w.heap.size ≤ w2.heap.size := by omega
        have HOWN := Lib.hid (show g ≠ w2.heap.size by
          obtain ⟨b3, off3, hq3, hi3⟩ := P1.out.2.2.2 hkp
          simp only [Option.some.injEq, Addr.mk.injEq, and_true] at hq3
          obtain ⟨rfl, rfl⟩ := hq3
          obtain ⟨_, _, _, _, _, cc, _⟩ := hi3 0 (by have := P1.out.1; omega)
          have := cell_lt cc
          have := hb2.size
          show g ≠ _
          simp only at *
          omega)
        clear hb2 R7 G1 P1
        go_wp2
        go_loopw [12] (fun i wr => ∃ (j : Nat) (A2 N2 : Int) (D2 : Nat), j ≤ k ∧ i = .int .i64 j ∧ Hid (isNum A2 = true) ∧ Hid (okI N2) ∧ Below w.heap.size w wr ∧ wr.heap[w1.heap.size]? = some (.cells #[.int .i64 A, .int .i64 N, .float .f64 D, .string ⟨#[]⟩, .slice none 0 0] 25 (0, 0)) ∧ wr.heap[w2.heap.size]? = some (.cells #[.int .i64 A2, .int .i64 N2, .float .f64 D2, .string ⟨#[]⟩, .slice none 0 0] 25 (0, 0)) ∧ Hid (sumV (n := 0) (1, 0, 0) ((Fs.take j).map treeF) = (A2, N2, D2, 0)) ∧ RepL wr (Rep wr 1) (some ⟨g, og, none⟩) k d (Fs.map treeF)) (fun i _ => k - (intOf i).toNat)
        case atStart => exact ⟨t, A1, N1, D1, by omega, rfl, HA1, HN1, G2.out, R8.out, R10.out, HS1, P2.out⟩
        case round =>
          obtain ⟨j, A2, N2, D2, hj, rfl, HA2, HN2, hB, r7, r10, HS2, hP⟩ := hrel
          have GB := Lib.hid hB
          have GP := Lib.hid hP
          have G7 := Lib.hid r7
          have G10 := Lib.hid r10
          clear R8 R10 G2 P2 HS1 HA1 HN1 HQ1
          have y0 := row_cell r10 0
          have y1 := row_cell r10 1
          have y2 := row_cell r10 2
          have y3 := row_cell r10 3
          have y4 := row_cell r10 4
          simp only [List.getElem?_toArray, List.getElem?_cons_zero, List.getElem?_cons_succ] at y0 y1 y2 y3 y4
          have x0 := row_cell r7 0
          have x1 := row_cell r7 1
          have x2 := row_cell r7 2
          have x3 := row_cell r7 3
          have x4 := row_cell r7 4
          simp only [List.getElem?_toArray, List.getElem?_cons_zero, List.getElem?_cons_succ] at x0 x1 x2 x3 x4
          have l7 := row_lt r7
          have l10 := row_lt r10
          have fr10 := row_frozen r10
          clear hB r7 r10
          by_cases hjk : j < k
          · obtain ⟨b2, off2, hq2, hgel⟩ := hP.2.2.2 (by omega)
            simp only [Option.some.injEq, Addr.mk.injEq, and_true] at hq2
            obtain ⟨rfl, rfl⟩ := hq2
            have hjL : j < (Fs.map treeF).length := by have := hP.1; omega
            have hjF : j < Fs.length := by simpa using hjL
            obtain ⟨K', I', F', S', M, qq, mm, dd, hx, e0, e1, e2, e3, e4, _, _, _, _⟩ := elem (n := 0) (c := 0) (l := 0) hgel j hjL
            rw [List.getElem_map] at hx
            simp only [treeF, Prod.mk.injEq] at hx
            obtain ⟨rfl, rfl, rfl, rfl, rfl⟩ := hx
            obtain ⟨D3, hD3⟩ := opV_flo1 (I := N2) (F := D2) (y := Flo.canon Fs[j]) HA2.out
            have HD := Lib.hid hD3
            have HS3 := Lib.hid (show sumV (n := 0) (1, 0, 0) ((Fs.take (j + 1)).map treeF) = (2, 0, D3, 0) by
              rw [List.take_succ_eq_append_getElem hjF, List.map_append]
              exact sumV_snoc _ (treeF Fs[j]) 1 0 0 HS2.out hD3 rfl)
            have hj0 : (0 : Int) ≤ (j : Int) := by omega
            have hjk2 : (j : Int) < (k : Int) := by omega
            clear hgel hP hD3
            go_wp2_with fail
            go_region_with (go_at_call 12; refine (add_any _ _ _ _ _ _ _ _ _ _ _ _ _ _ _ HN2.out (show okI 0 by decide) HD.out).mono ?_; rintro e w3 ⟨rfl, hb3⟩; have X7 := Lib.hid (row_step (w := wr.drew) G7.out hb3); have X10 := Lib.hid (row_step (w := wr.drew) G10.out hb3); have HB3 := Lib.hid (bel_step (Below.drew GB.out) hb3); have XP := Lib.hid (repL_keep (w := wr) (w' := w3) (bel_of_drew hb3) (rep_keep (bel_of_drew hb3) 1) GP.out); obtain ⟨hc3, hf3⟩ := bcell hb3; (try simp only [World.size_drew, World.cell?_drew, World.frozen?_drew] at hc3 hf3); have m7 := row_lt X7.out; have m10 := row_lt X10.out)
            all_goals
              have Y7 := Lib.hid (set5_other X7.out n9 (.int .i64 2) (.int .i64 0) (.float .f64 D3) (.string ⟨#[]⟩) (.slice none 0 0))
              have Y10 := Lib.hid (set5_row X10.out (.int .i64 2) (.int .i64 0) (.float .f64 D3) (.string ⟨#[]⟩) (.slice none 0 0))
              have HY := Lib.hid (bel_set5 HB3.out hle2 (.int .i64 2) (.int .i64 0) (.float .f64 D3) (.string ⟨#[]⟩) (.slice none 0 0))
              clear X7 X10 HB3 hc3 hf3 HS2 HD G7 G10 GP GB
              go_wp2
              go_roundw
              case rel => exact ⟨j + 1, 2, 0, D3, by omega, by go_num, Lib.hid rfl, Lib.hid (by decide), HY.out, Y7.out, Y10.out, HS3, repL_set5 XP.out HOWN.out⟩
              case measure => simp [intOf]; omega
          · obtain rfl : j = k := by omega
            have e : Fs.take j = Fs := List.take_of_length_le (by have : Fs.length = j := HL.out; omega)
            have h2 := HS2.out
            rw [e, HS.out] at h2
            simp only [Prod.mk.injEq, and_true] at h2
            obtain ⟨rfl, rfl, rfl⟩ := h2
            clear HS2 HA2 HN2 hP GP G7 G10
            go_wp2_with fail
            go_at_call 14; refine (same_shallow _ _ _ _).mono ?_; rintro e w3 ⟨rfl, hb3⟩
            have G3 := Lib.hid (bel_step GB.out hb3)
            clear hb3 x0 x1 x2 x3 x4 y0 y1 y2 y3 y4
            go_wp2
            go_ret
            exact ⟨rfl, G3.out⟩
theorem numSame_law {H : Type} {enc : TypeId × Value → H} {W : World} {v0 : Value} {d0 : DataW H} {p0 : List MemPlace} {b0 : Nat} (k0 : DataW.Trod enc Try.prog W 0 (fun _ => true) true 45 v0 d0 p0) (o0 : Value.okWide Try.prog W .any b0 45 v0) (m : Int) (wm : (Lit.int .u8 m).wf = true) :
    Calls Try.prog 7 #[v0, .int .u8 m] W fun e w' => e = .returned (.bool true) ∧ Below W.heap.size W w' := by
  obtain ⟨p, l, c, L, rfl, h, hF⟩ := repF_of_Trod k0 o0
  have h1 : IntKind.u8.bits = 8 := rfl
  have hm : 0 ≤ m ∧ m < 256 := by
    simp [Lit.wf, IntKind.min, IntKind.max, IntKind.signed, h1] at wm
    omega
  exact numSame_calls p l c L m hm.1 hm.2 hF W h
end Num
end Go.Proofs.Ytkodgfhpbpefdaa
