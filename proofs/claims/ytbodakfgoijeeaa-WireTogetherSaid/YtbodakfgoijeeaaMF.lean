/-
  The reference's Check of a value.
-/
import Derived.Test.YtbodakfgoijeeaaMQ
namespace Go.Proofs.Ytbodakfgoijeeaa
open Go.RowKit
namespace Num
open Ints
set_option linter.unusedSimpArgs false
set_option linter.unusedVariables false
theorem kindsT_eq {n : Nat} {K I : Int} {F : Nat} {S : ByteArray} {L : List (VT n)} : kindsT (n + 1) (K, I, F, S, L) = if (decide (K < 0) || decide (4 < K)) = true then false else if (K == 4) = true then L.all (kindsT n) else true := rfl
theorem greatT_eq {n d : Nat} {K I : Int} {F : Nat} {S : ByteArray} {L : List (VT n)} : greatT (n + 1) d (K, I, F, S, L) = if (K == 3) = true then decide (256 < (S.size : Int)) else if (K == 4) = true then (decide (8 ≤ d) || decide (64 < (L.length : Int)) || L.any (greatT n (d + 1))) else false := rfl
set_option maxHeartbeats 2000000 in
theorem kinds_any : ∀ (n : Nat) (v : Value) (T : VT n) (w : World) (hr : Rep w n v T), Calls Try.prog 32 #[v] w fun e w' => e = .returned (.bool (kindsT n T)) ∧ Below w.heap.size w w' := by
  intro n
  induction n with
  | zero => intro v T w h; exact h.elim
  | succ n ih =>
    intro v T w hr
    have IH := Lib.hid ih
    clear ih
    obtain ⟨K, I, F, S, L⟩ := T
    obtain ⟨p, l, c, rfl, _, _, _, hS, hl, hlc, hcm, hel⟩ := hr
    unfold maxLen at hcm hS
    by_cases hbad : K < 0 ∨ 4 < K
    · have H := Lib.hid (show Ending.returned (.bool false) = .returned (.bool (kindsT (n + 1) (K, I, F, S, L))) by rw [kindsT_eq, if_pos (by simp; omega)])
      clear hel hl
      by_cases h0 : K < 0
      · go_enter Try.func32, Try.ntmps32
        go_wp2
        go_ret
        exact ⟨H.out, (Below.refl _ _).alloc (Nat.le_refl _) _⟩
      · have h4 : 4 < K := by omega
        go_enter Try.func32, Try.ntmps32
        go_wp2
        go_ret
        exact ⟨H.out, (Below.refl _ _).alloc (Nat.le_refl _) _⟩
    · have hk0 : ¬ K < 0 := by omega
      have hk4 : ¬ 4 < K := by omega
      have hdec : (decide (K < 0) || decide (4 < K)) = false := by simp; omega
      cases h4 : (K == 4)
      · have H := Lib.hid (show Ending.returned (.bool true) = .returned (.bool (kindsT (n + 1) (K, I, F, S, L))) by rw [kindsT_eq, hdec, h4]; rfl)
        clear hel hl hdec hbad
        by_cases hl0 : (0 : Int) < (l : Int)
        all_goals
          go_enter Try.func32, Try.ntmps32
          go_wp2
          refine wp_loop_rounds 1 ?_
          rw [rounds_succ]
          go_wp2
          go_ret
          exact ⟨H.out, (Below.refl _ _).alloc (Nat.le_refl _) _⟩
      · have HK := Lib.hid (show kindsT (n + 1) (K, I, F, S, L) = L.all (kindsT n) by rw [kindsT_eq, hdec, h4]; rfl)
        have HL := Lib.hid hl
        have HE := Lib.hid hel
        clear hl hel hdec hbad
        go_enter Try.func32, Try.ntmps32
        go_wp2
        have RS0 := row_alloc w #[.int .i64 K, .int .i64 I, .float .f64 F, .string S, .slice p l c] 26
        go_loopw [3] (fun i wr => ∃ k : Nat, k ≤ l ∧ i = .int .i64 k ∧ (∀ x ∈ L.take k, kindsT n x = true) ∧ Below w.heap.size w wr ∧ wr.heap[w.heap.size]? = some (.cells #[.int .i64 K, .int .i64 I, .float .f64 F, .string S, .slice p l c] 26 (0, 0))) (fun i _ => l - (intOf i).toNat)
        case atStart => exact ⟨0, by omega, rfl, fun x hx => (by cases hx), (Below.refl _ _).alloc (Nat.le_refl _) _, RS0⟩
        case round =>
          obtain ⟨k, hk, rfl, hall, hB, RS⟩ := hrel
          clear RS0
          have s0 := row_cell RS 0
          have s4 := row_cell RS 4
          simp only [List.getElem?_toArray, List.getElem?_cons_zero, List.getElem?_cons_succ] at s0 s4
          have HB := Lib.hid hB
          have HRS := Lib.hid RS
          have HA := Lib.hid hall
          by_cases hlt : k < l
          · obtain ⟨b, off, hp, hi⟩ := HE.out (by omega)
            subst hp
            have hkl : k < L.length := by have := HL.out; omega
            obtain ⟨v0, v1, v2, v3, v4, c0, c1, c2, c3, c4, hr⟩ := hi k hkl
            have hr' := rep_keep hB n _ _ hr
            have e0 := cell_keep hB c0
            have e1 := cell_keep hB c1
            have e2 := cell_keep hB c2
            have e3 := cell_keep hB c3
            have e4 := cell_keep hB c4
            clear c0 c1 c2 c3 c4 hr hi hB RS hall
            have HR := Lib.hid hr'
            clear hr'
            cases hx : kindsT n L[k]
            · have HF := Lib.hid (show Ending.returned (.bool false) = .returned (.bool (kindsT (n + 1) (K, I, F, S, L))) by
                rw [HK.out]
                have : L.all (kindsT n) = false := by rw [List.all_eq_false]; exact ⟨L[k], List.getElem_mem hkl, by rw [hx]; simp⟩
                rw [this])
              have HX := Lib.hid hx
              clear hx
              go_wp2_with fail
              go_at_call 32; refine (IH.out _ _ _ HR.out).mono ?_; rintro e w1 ⟨rfl, hb1⟩
              rw [HX.out]
              have HB1 := Lib.hid (bel_step HB.out hb1)
              clear hb1 e0 e1 e2 e3 e4 s0 s4
              go_wp2
              go_ret
              exact ⟨HF.out, HB1.out⟩
            · have HX := Lib.hid hx
              have HA2 := Lib.hid (show ∀ x ∈ L.take (k + 1), kindsT n x = true from fun x hm => by
                rw [List.take_succ_eq_append_getElem hkl, List.mem_append] at hm
                rcases hm with hm | hm
                · exact HA.out x hm
                · rw [List.mem_singleton.1 hm]; exact HX.out)
              clear hx
              go_wp2_with fail
              go_at_call 32; refine (IH.out _ _ _ HR.out).mono ?_; rintro e w1 ⟨rfl, hb1⟩
              rw [HX.out]
              have HB1 := Lib.hid (bel_step HB.out hb1)
              have HR1 := Lib.hid (row_step HRS.out hb1)
              clear hb1 e0 e1 e2 e3 e4 HB HRS s0 s4 HR
              go_wp2
              go_roundw
              case rel => exact ⟨k + 1, by omega, by go_num, HA2.out, HB1.out, HR1.out⟩
              case measure => simp [intOf]; omega
          · have HT := Lib.hid (show Ending.returned (.bool true) = .returned (.bool (kindsT (n + 1) (K, I, F, S, L))) by
              have e : L.take k = L := List.take_of_length_le (by have : L.length = l := HL.out; omega)
              have : L.all (kindsT n) = true := by rw [List.all_eq_true]; intro x hm; exact HA.out x (by rw [e]; exact hm)
              rw [HK.out, this])
            clear hB RS hall
            go_wp2
            go_ret
            exact ⟨HT.out, HB.out⟩
set_option maxHeartbeats 2000000 in
theorem great_any : ∀ (n d : Nat) (v : Value) (T : VT n) (w : World) (hr : Rep w n v T) (hd : d ≤ 1000000), Calls Try.prog 33 #[v, .int .i64 d] w fun e w' => e = .returned (.bool (greatT n d T)) ∧ Below w.heap.size w w' := by
  intro n
  induction n with
  | zero => intro d v T w h; exact h.elim
  | succ n ih =>
    intro d v T w hr hd
    have IH := Lib.hid ih
    clear ih
    obtain ⟨K, I, F, S, L⟩ := T
    obtain ⟨p, l, c, rfl, _, _, _, hS, hl, hlc, hcm, hel⟩ := hr
    unfold maxLen at hcm hS
    cases h3 : (K == 3)
    · cases h4 : (K == 4)
      · have H := Lib.hid (show Ending.returned (.bool false) = .returned (.bool (greatT (n + 1) d (K, I, F, S, L))) by rw [greatT_eq, h3, h4]; rfl)
        have hn4 : (K != 4) = true := by simp only [bne, h4]; rfl
        clear hel hl
        go_enter Try.func33, Try.ntmps33
        go_wp2
        go_ret
        exact ⟨H.out, (Below.refl _ _).alloc (Nat.le_refl _) _⟩
      · have hn4 : (K != 4) = false := by simp only [bne, h4]; rfl
        have HG := Lib.hid (show greatT (n + 1) d (K, I, F, S, L) = (decide (8 ≤ d) || decide (64 < (L.length : Int)) || L.any (greatT n (d + 1))) by rw [greatT_eq, h3, h4]; rfl)
        by_cases h8 : 8 ≤ d
        · have h8' : (8 : Int) ≤ (d : Int) := by omega
          have H := Lib.hid (show Ending.returned (.bool true) = .returned (.bool (greatT (n + 1) d (K, I, F, S, L))) by rw [HG.out]; simp [h8])
          clear hel hl
          go_enter Try.func33, Try.ntmps33
          go_wp2
          go_ret
          exact ⟨H.out, (Below.refl _ _).alloc (Nat.le_refl _) _⟩
        · have h8' : ¬ (8 : Int) ≤ (d : Int) := by omega
          by_cases h64 : (64 : Int) < (l : Int)
          · have H := Lib.hid (show Ending.returned (.bool true) = .returned (.bool (greatT (n + 1) d (K, I, F, S, L))) by rw [HG.out]; have : (64 : Int) < (L.length : Int) := (by have : L.length = l := hl; omega); simp [this])
            clear hel hl
            go_enter Try.func33, Try.ntmps33
            go_wp2
            go_ret
            exact ⟨H.out, (Below.refl _ _).alloc (Nat.le_refl _) _⟩
          · have HG2 := Lib.hid (show greatT (n + 1) d (K, I, F, S, L) = L.any (greatT n (d + 1)) by
              rw [HG.out]
              have a1 : decide (8 ≤ d) = false := by simp; omega
              have a2 : decide (64 < (L.length : Int)) = false := by have : L.length = l := hl; simp; omega
              rw [a1, a2]; simp)
            have HL := Lib.hid hl
            have HE := Lib.hid hel
            clear hl hel
            go_enter Try.func33, Try.ntmps33
            go_wp2
            have RS0 := row_alloc w #[.int .i64 K, .int .i64 I, .float .f64 F, .string S, .slice p l c] 26
            go_loopw [5] (fun i wr => ∃ k : Nat, k ≤ l ∧ i = .int .i64 k ∧ (∀ x ∈ L.take k, greatT n (d + 1) x = false) ∧ Below w.heap.size w wr ∧ wr.heap[w.heap.size]? = some (.cells #[.int .i64 K, .int .i64 I, .float .f64 F, .string S, .slice p l c] 26 (0, 0))) (fun i _ => l - (intOf i).toNat)
            case atStart => exact ⟨0, by omega, rfl, fun x hx => (by cases hx), (Below.refl _ _).alloc (Nat.le_refl _) _, RS0⟩
            case round =>
              obtain ⟨k, hk, rfl, hall, hB, RS⟩ := hrel
              clear RS0
              have s0 := row_cell RS 0
              have s4 := row_cell RS 4
              simp only [List.getElem?_toArray, List.getElem?_cons_zero, List.getElem?_cons_succ] at s0 s4
              have HB := Lib.hid hB
              have HRS := Lib.hid RS
              have HA := Lib.hid hall
              by_cases hlt : k < l
              · obtain ⟨b, off, hp, hi⟩ := HE.out (by omega)
                subst hp
                have hkl : k < L.length := by have := HL.out; omega
                obtain ⟨v0, v1, v2, v3, v4, c0, c1, c2, c3, c4, hr⟩ := hi k hkl
                have hr' := rep_keep hB n _ _ hr
                have e0 := cell_keep hB c0
                have e1 := cell_keep hB c1
                have e2 := cell_keep hB c2
                have e3 := cell_keep hB c3
                have e4 := cell_keep hB c4
                clear c0 c1 c2 c3 c4 hr hi hB RS hall
                have HR := Lib.hid hr'
                clear hr'
                cases hx : greatT n (d + 1) L[k]
                · have HX := Lib.hid hx
                  have HA2 := Lib.hid (show ∀ x ∈ L.take (k + 1), greatT n (d + 1) x = false from fun x hm => by
                    rw [List.take_succ_eq_append_getElem hkl, List.mem_append] at hm
                    rcases hm with hm | hm
                    · exact HA.out x hm
                    · rw [List.mem_singleton.1 hm]; exact HX.out)
                  clear hx
                  go_wp2_with fail
                  go_at_call 33; rw [show ((d : Int) + 1) = ((d + 1 : Nat) : Int) by omega]; refine (IH.out (d + 1) _ _ _ HR.out (by omega)).mono ?_; rintro e w1 ⟨rfl, hb1⟩
                  rw [HX.out]
                  have HB1 := Lib.hid (bel_step HB.out hb1)
                  have HR1 := Lib.hid (row_step HRS.out hb1)
                  clear hb1 e0 e1 e2 e3 e4 HB HRS s0 s4 HR
                  go_wp2
                  go_roundw
                  case rel => exact ⟨k + 1, by omega, by go_num, HA2.out, HB1.out, HR1.out⟩
                  case measure => simp [intOf]; omega
                · have HF := Lib.hid (show Ending.returned (.bool true) = .returned (.bool (greatT (n + 1) d (K, I, F, S, L))) by
                    rw [HG2.out]
                    have : L.any (greatT n (d + 1)) = true := by rw [List.any_eq_true]; exact ⟨L[k], List.getElem_mem hkl, hx⟩
                    rw [this])
                  have HX := Lib.hid hx
                  clear hx
                  go_wp2_with fail
                  go_at_call 33; rw [show ((d : Int) + 1) = ((d + 1 : Nat) : Int) by omega]; refine (IH.out (d + 1) _ _ _ HR.out (by omega)).mono ?_; rintro e w1 ⟨rfl, hb1⟩
                  rw [HX.out]
                  have HB1 := Lib.hid (bel_step HB.out hb1)
                  clear hb1 e0 e1 e2 e3 e4 s0 s4
                  go_wp2
                  go_ret
                  exact ⟨HF.out, HB1.out⟩
              · have HT := Lib.hid (show Ending.returned (.bool false) = .returned (.bool (greatT (n + 1) d (K, I, F, S, L))) by
                  have e : L.take k = L := List.take_of_length_le (by have : L.length = l := HL.out; omega)
                  have : L.any (greatT n (d + 1)) = false := by rw [List.any_eq_false]; intro x hm; rw [HA.out x (by rw [e]; exact hm)]; simp
                  rw [HG2.out, this])
                clear hB RS hall
                go_wp2
                go_ret
                exact ⟨HT.out, HB.out⟩
    · have H := Lib.hid (show Ending.returned (.bool (decide (256 < (S.size : Int)))) = .returned (.bool (greatT (n + 1) d (K, I, F, S, L))) by rw [greatT_eq, h3]; rfl)
      clear hel hl
      go_enter Try.func33, Try.ntmps33
      go_wp2
      go_ret
      exact ⟨H.out, (Below.refl _ _).alloc (Nat.le_refl _) _⟩
set_option maxHeartbeats 2000000 in
theorem rcheck_any (n : Nat) (v : Value) (T : VT n) (w : World) (hr : Rep w n v T) : Calls Try.prog 19 #[v] w fun e w' => e = .returned (.int .i64 (rcheckT n T)) ∧ Below w.heap.size w w' := by
  obtain ⟨K, I, F, S, p, l, c, rfl, _⟩ := rep_shape hr
  have HR := Lib.hid (rep_keep ((Below.refl w.heap.size w).alloc (Nat.le_refl _) (.cells #[.int .i64 K, .int .i64 I, .float .f64 F, .string S, .slice p l c] 26)) _ _ _ hr)
  have HB := Lib.hid ((Below.refl w.heap.size w).alloc (Nat.le_refl _) (.cells #[.int .i64 K, .int .i64 I, .float .f64 F, .string S, .slice p l c] 26))
  have RS := Lib.hid (row_alloc w #[.int .i64 K, .int .i64 I, .float .f64 F, .string S, .slice p l c] 26)
  clear hr
  have HC := Lib.hid (show rcheckT n T = if kindsT n T = false then 31 else if (greatT n 0 T || decide (4096 < sizeT n T)) = true then 22 else 0 from rfl)
  cases hk : kindsT n T
  · have HE := Lib.hid (show Ending.returned (.int .i64 31) = .returned (.int .i64 (rcheckT n T)) by rw [HC.out, if_pos hk])
    have HX := Lib.hid hk
    clear hk
    go_enter Try.func19, Try.ntmps19
    go_wp2_with fail
    go_at_call 32; refine (kinds_any n _ T _ HR.out).mono ?_; rintro e w1 ⟨rfl, hb1⟩
    rw [HX.out]
    have HB1 := Lib.hid (bel_step HB.out hb1)
    clear hb1
    go_wp2
    go_ret
    exact ⟨HE.out, HB1.out⟩
  · have HX := Lib.hid hk
    cases hg : greatT n 0 T
    · obtain ⟨z, hz⟩ : ∃ z, sizeT n T = z := ⟨_, rfl⟩
      have HZ := Lib.hid hz
      by_cases hbig : 4096 < z
      all_goals
        have HE := Lib.hid (show rcheckT n T = if 4096 < z then 22 else 0 by rw [HC.out, hk, hg, hz]; simp)
        have HY := Lib.hid hg
        go_enter Try.func19, Try.ntmps19
        go_wp2_with fail
        go_at_call 32; refine (kinds_any n _ T _ HR.out).mono ?_; rintro e w1 ⟨rfl, hb1⟩
        rw [HX.out]
        have HB1 := Lib.hid (bel_step HB.out hb1)
        have HR1 := Lib.hid (rep_keep hb1 _ _ _ HR.out)
        have HS1 := Lib.hid (row_step RS.out hb1)
        have d0 := row_cell HS1.out 0; have d1 := row_cell HS1.out 1; have d2 := row_cell HS1.out 2; have d3 := row_cell HS1.out 3; have d4 := row_cell HS1.out 4
        simp only [List.getElem?_toArray, List.getElem?_cons_zero, List.getElem?_cons_succ] at d0 d1 d2 d3 d4
        clear hb1
        go_wp2_with fail
        go_at_call 33; refine (great_any n 0 _ T _ HR1.out (by omega)).mono ?_; rintro e w2 ⟨rfl, hb2⟩
        rw [HY.out]
        have HB2 := Lib.hid (bel_step HB1.out hb2)
        have HR2 := Lib.hid (rep_keep hb2 _ _ _ HR1.out)
        have HS2 := Lib.hid (row_step HS1.out hb2)
        have e0 := row_cell HS2.out 0; have e1 := row_cell HS2.out 1; have e2 := row_cell HS2.out 2; have e3 := row_cell HS2.out 3; have e4 := row_cell HS2.out 4
        simp only [List.getElem?_toArray, List.getElem?_cons_zero, List.getElem?_cons_succ] at e0 e1 e2 e3 e4
        clear hb2 d0 d1 d2 d3 d4
        go_wp2_with fail
        go_at_call 18; refine (size_any n _ T _ HR2.out).mono ?_; rintro e w3 ⟨rfl, hb3⟩
        rw [HZ.out]
        have HB3 := Lib.hid (bel_step HB2.out hb3)
        clear hb3 e0 e1 e2 e3 e4
        go_wp2
        go_ret
        exact ⟨by rw [HE.out]; simp [hbig], HB3.out⟩
    · have HE := Lib.hid (show Ending.returned (.int .i64 22) = .returned (.int .i64 (rcheckT n T)) by rw [HC.out, hk, hg]; rfl)
      have HY := Lib.hid hg
      clear hk hg
      go_enter Try.func19, Try.ntmps19
      go_wp2_with fail
      go_at_call 32; refine (kinds_any n _ T _ HR.out).mono ?_; rintro e w1 ⟨rfl, hb1⟩
      rw [HX.out]
      have HB1 := Lib.hid (bel_step HB.out hb1)
      have HR1 := Lib.hid (rep_keep hb1 _ _ _ HR.out)
      have HS1 := Lib.hid (row_step RS.out hb1)
      have d0 := row_cell HS1.out 0; have d1 := row_cell HS1.out 1; have d2 := row_cell HS1.out 2; have d3 := row_cell HS1.out 3; have d4 := row_cell HS1.out 4
      simp only [List.getElem?_toArray, List.getElem?_cons_zero, List.getElem?_cons_succ] at d0 d1 d2 d3 d4
      clear hb1
      go_wp2_with fail
      go_at_call 33; refine (great_any n 0 _ T _ HR1.out (by omega)).mono ?_; rintro e w2 ⟨rfl, hb2⟩
      rw [HY.out]
      have HB2 := Lib.hid (bel_step HB1.out hb2)
      clear hb2 d0 d1 d2 d3 d4
      go_wp2
      go_ret
      exact ⟨HE.out, HB2.out⟩
end Num
end Go.Proofs.Ytbodakfgoijeeaa
