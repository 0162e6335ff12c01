/-
  Frames, one behind another: what the program and the reference scan.
-/
import Derived.Test.YthjjakpjanoamaaFK
namespace Go.Proofs.Ythjjakpjanoamaa
open Go.RowKit
namespace Num
open Ints
set_option linter.unusedSimpArgs false
set_option linter.unusedVariables false
theorem opE_nil : opE [] = 23 := by unfold opE; rw [if_pos (by decide)]
theorem rd_zero {w : World} {q : Option Addr} {c : Nat} (hc : c ≤ maxLen) (h : q = none → c = 0) : RdB w q 0 c [] := ⟨rfl, Nat.zero_le _, hc, fun h => absurd h (Nat.lt_irrefl _), h⟩
set_option maxRecDepth 100000 in
set_option maxHeartbeats 2000000 in
theorem scan_any (w : World) (p : Option Addr) (l c : Nat) (X : List Int) (hx : RdB w p l c X) (hX : By X) (hl : l ≤ 100000) :
    Calls Try.prog 26 #[.slice p l c] w fun e w' => ∃ (K : Nat) (p' : Option Addr) (c' : Nat), scK X K ∧ e = .returned (.tuple #[.slice p' K c', .int .i64 (scA X K)]) ∧ OwS w w' p' K c' (scZ X K) := by
  have HR := Lib.hid hx
  have HX := Lib.hid hX
  have hlc := hx.2.1
  have hcm := hx.2.2.1
  have HCM := Lib.hid hcm
  unfold maxLen at hcm
  have HLX := Lib.hid hx.1
  have HNIL := Lib.hid hx.2.2.2.2
  have HNONE := Lib.hid (os_nil w w (Below.refl _ _) (Nat.le_refl _))
  clear hx hX
  go_enter Try.func26, Try.ntmps26
  go_wp2
  go_loopw [4, 5] (fun v i wr => ∃ (k : Nat) (q : Option Addr) (d : Nat), (∀ j, j < k → opE (X.drop (scA X j)) = 0) ∧ v = .slice q k d ∧ i = .int .i64 (scA X k) ∧ OwS w wr q k d (scZ X k)) (fun _ i _ => l - (intOf i).toNat)
  case atStart => exact ⟨0, none, 0, fun j hj => absurd hj (Nat.not_lt_zero _), rfl, rfl, HNONE.out⟩
  case round =>
    obtain ⟨k, q, d, hk, rfl, rfl, ho⟩ := hrel
    obtain ⟨hA1, hA2⟩ := scA_le k hk
    rw [HLX.out] at hA1
    have HRW := Lib.hid (show RdB wr p l c X from rd_keep (by obtain ⟨_, _, _, h3, _⟩ := ho; exact h3) HR.out)
    have HO := Lib.hid ho
    have HK := Lib.hid hk
    have HD := Lib.hid (show By (X.drop (scA X k)) from by_drop HX.out _)
    clear ho hk
    by_cases hl0 : l = 0
    · subst hl0
      have hk0 : scA X k = 0 := by omega
      cases p with
      | none =>
        have hc0 := HNIL.out rfl
        subst hc0
        have HC := Lib.hid (open_any wr none 0 0 [] (rd_nil wr) (fun x hx => by cases hx))
        have HBAD := Lib.hid (show opE (X.drop (scA X k)) ≠ 0 by rw [List.drop_of_length_le (by have := HLX.out; omega), opE_nil]; decide)
        have e23 := opE_nil
        have eZ : opZ [] = [] := (opZ_bad e23 (by decide)).1
        have eN : opN [] = 0 := (opZ_bad e23 (by decide)).2
        rw [e23, eZ, eN] at HC
        have HAE := Lib.hid hk0
        rw [hk0]
        clear e23 eZ eN hk0 hA1 hA2
        go_wp2_with fail
        go_at_call 22; refine HC.out.mono ?_; rintro e w1 ⟨p1, c1, rfl, ho1⟩
        have HBW := Lib.hid (ow_bel ho1)
        clear ho1
        go_wp2
        go_ret2
        exact ⟨k, q, d, ⟨HK.out, HBAD.out⟩, by rw [HAE.out]; rfl, os_keep HO.out HBW.out⟩
      | some ad =>
        have HC := Lib.hid (open_any wr (some ad) 0 c [] (rd_zero HCM.out (fun e => by cases e)) (fun x hx => by cases hx))
        have HBAD := Lib.hid (show opE (X.drop (scA X k)) ≠ 0 by rw [List.drop_of_length_le (by have := HLX.out; omega), opE_nil]; decide)
        have e23 := opE_nil
        have eZ : opZ [] = [] := (opZ_bad e23 (by decide)).1
        have eN : opN [] = 0 := (opZ_bad e23 (by decide)).2
        rw [e23, eZ, eN] at HC
        have HAE := Lib.hid hk0
        rw [hk0]
        clear e23 eZ eN hk0 hA1 hA2
        go_wp2_with fail
        go_at_call 22; refine HC.out.mono ?_; rintro e w1 ⟨p1, c1, rfl, ho1⟩
        have HBW := Lib.hid (ow_bel ho1)
        clear ho1
        go_wp2
        go_ret2
        exact ⟨k, q, d, ⟨HK.out, HBAD.out⟩, by rw [HAE.out]; rfl, os_keep HO.out HBW.out⟩
    · obtain ⟨b, off, rfl⟩ := rd_full HRW.out (by omega)
      by_cases hce : c = scA X k
      · have hle : l = c := by omega
        subst hle
        have hk0 : scA X k = l := hce.symm
        clear hce
        have HC := Lib.hid (open_any wr (some ⟨b, off, none⟩) 0 0 [] (rd_zero (Nat.zero_le _) (fun e => by cases e)) (fun x hx => by cases hx))
        have HBAD := Lib.hid (show opE (X.drop (scA X k)) ≠ 0 by rw [List.drop_of_length_le (by have := HLX.out; omega), opE_nil]; decide)
        have e23 := opE_nil
        have eZ : opZ [] = [] := (opZ_bad e23 (by decide)).1
        have eN : opN [] = 0 := (opZ_bad e23 (by decide)).2
        rw [e23, eZ, eN] at HC
        have HAE := Lib.hid hk0
        rw [hk0]
        clear e23 eZ eN hk0 hA1 hA2
        go_wp2_with fail
        go_at_call 22; refine HC.out.mono ?_; rintro e w1 ⟨p1, c1, rfl, ho1⟩
        have HBW := Lib.hid (ow_bel ho1)
        clear ho1
        go_wp2
        go_ret2
        exact ⟨k, q, d, ⟨HK.out, HBAD.out⟩, by rw [HAE.out]; rfl, os_keep HO.out HBW.out⟩
      · have hrd := rd_drop (p := none) (k := scA X k) HRW.out hA1 hce
        have HC := Lib.hid (open_any wr _ _ _ _ hrd HD.out)
        have HFIT := Lib.hid (fun h => opE_fits (X := X.drop (scA X k)) h)
        have HSA := Lib.hid (show scA X (k + 1) = scA X k + opN (X.drop (scA X k)) from rfl)
        have HSZ := Lib.hid (show scZ X (k + 1) = scZ X k ++ [opZ (X.drop (scA X k))] from rfl)
        have HDL := Lib.hid (List.length_drop (i := scA X k) (l := X))
        obtain ⟨D, hDe⟩ : ∃ D, X.drop (scA X k) = D := ⟨_, rfl⟩
        rw [hDe] at HC HFIT HSA HSZ HDL
        have HDE := Lib.hid hDe
        obtain ⟨A, hAe⟩ : ∃ A, scA X k = A := ⟨_, rfl⟩
        rw [hAe] at HC HSA hA1 hA2 hce HDL
        rw [hAe]
        have HAE := Lib.hid hAe
        obtain ⟨E, hEe⟩ : ∃ E, opE D = E := ⟨_, rfl⟩
        obtain ⟨N, hNe⟩ : ∃ N, opN D = N := ⟨_, rfl⟩
        obtain ⟨Z, hZe⟩ : ∃ Z, opZ D = Z := ⟨_, rfl⟩
        obtain ⟨m, hme⟩ : ∃ m, Z.length = m := ⟨_, rfl⟩
        rw [hEe, hNe, hZe, hme] at HC
        rw [hEe, hNe] at HFIT
        rw [hNe] at HSA
        rw [hZe] at HSZ
        have HEE := Lib.hid hEe
        by_cases hE0 : E = 0
        · subst hE0
          obtain ⟨f1, f2, f3⟩ := HFIT.out rfl
          rw [HDL.out, HLX.out] at f1 f2
          have hAN : A + N ≤ l := by omega
          have hN8 : 8 ≤ N := by omega
          have hk5 : k ≤ 100000 := by omega
          have HK2 := Lib.hid (show ∀ j, j < k + 1 → opE (X.drop (scA X j)) = 0 from fun j hj => by
            by_cases hjk : j < k
            · exact HK.out j hjk
            · obtain rfl : j = k := by omega
              rw [HDE.out]; exact HEE.out)
          clear hrd hDe hAe hEe hNe hZe hme f1 f2 f3
          go_wp2_with fail
          go_at_call 22; refine HC.out.mono ?_; rintro e w1 ⟨p1, c1, rfl, ho1⟩
          have HO1 := Lib.hid ho1
          clear ho1
          go_wp2_with (at_builtin; refine wp_os1 rfl _ _ rfl w wr w1 q k d (scZ X k) p1 m c1 Z rfl rfl HO.out (by omega) HO1.out ?_; intro p2 c2 w2 ho2)
          have HO2 := Lib.hid ho2
          clear ho2
          go_roundw
          case rel => exact ⟨k + 1, p2, c2, HK2.out, rfl, by rw [HSA.out]; go_num, by rw [HSZ.out]; exact HO2.out⟩
          case measure => simp [intOf]; omega
        · have HBAD := Lib.hid (show opE (X.drop (scA X k)) ≠ 0 by rw [HDE.out, HEE.out]; exact hE0)
          clear hrd hDe hAe hEe hNe hZe hme
          go_wp2_with fail
          go_at_call 22; refine HC.out.mono ?_; rintro e w1 ⟨p1, c1, rfl, ho1⟩
          have HBW := Lib.hid (ow_bel ho1)
          clear ho1
          go_wp2
          go_ret2
          exact ⟨k, q, d, ⟨HK.out, HBAD.out⟩, by rw [HAE.out]; rfl, os_keep HO.out HBW.out⟩
set_option maxRecDepth 100000 in
set_option maxHeartbeats 2000000 in
theorem rscan_any (w : World) (p : Option Addr) (l c : Nat) (X : List Int) (hx : RdB w p l c X) (hX : By X) (hl : l ≤ 100000) :
    Calls Try.prog 27 #[.slice p l c] w fun e w' => ∃ (K : Nat) (p' : Option Addr) (c' : Nat), scK X K ∧ e = .returned (.tuple #[.slice p' K c', .int .i64 (scA X K)]) ∧ OwS w w' p' K c' (scZ X K) := by
  have HR := Lib.hid hx
  have HX := Lib.hid hX
  have hlc := hx.2.1
  have hcm := hx.2.2.1
  have HCM := Lib.hid hcm
  unfold maxLen at hcm
  have HLX := Lib.hid hx.1
  have HNIL := Lib.hid hx.2.2.2.2
  have HNONE := Lib.hid (os_nil w w (Below.refl _ _) (Nat.le_refl _))
  clear hx hX
  go_enter Try.func27, Try.ntmps27
  go_wp2
  go_loopw [4, 5] (fun v i wr => ∃ (k : Nat) (q : Option Addr) (d : Nat), (∀ j, j < k → opE (X.drop (scA X j)) = 0) ∧ v = .slice q k d ∧ i = .int .i64 (scA X k) ∧ OwS w wr q k d (scZ X k)) (fun _ i _ => l - (intOf i).toNat)
  case atStart => exact ⟨0, none, 0, fun j hj => absurd hj (Nat.not_lt_zero _), rfl, rfl, HNONE.out⟩
  case round =>
    obtain ⟨k, q, d, hk, rfl, rfl, ho⟩ := hrel
    obtain ⟨hA1, hA2⟩ := scA_le k hk
    rw [HLX.out] at hA1
    have HRW := Lib.hid (show RdB wr p l c X from rd_keep (by obtain ⟨_, _, _, h3, _⟩ := ho; exact h3) HR.out)
    have HO := Lib.hid ho
    have HK := Lib.hid hk
    have HD := Lib.hid (show By (X.drop (scA X k)) from by_drop HX.out _)
    clear ho hk
    by_cases hl0 : l = 0
    · subst hl0
      have hk0 : scA X k = 0 := by omega
      cases p with
      | none =>
        have hc0 := HNIL.out rfl
        subst hc0
        have HC := Lib.hid (ropen_any wr none 0 0 [] (rd_nil wr) (fun x hx => by cases hx))
        have HBAD := Lib.hid (show opE (X.drop (scA X k)) ≠ 0 by rw [List.drop_of_length_le (by have := HLX.out; omega), opE_nil]; decide)
        have e23 := opE_nil
        have eZ : opZ [] = [] := (opZ_bad e23 (by decide)).1
        have eN : opN [] = 0 := (opZ_bad e23 (by decide)).2
        rw [e23, eZ, eN] at HC
        have HAE := Lib.hid hk0
        rw [hk0]
        clear e23 eZ eN hk0 hA1 hA2
        go_wp2_with fail
        go_at_call 25; refine HC.out.mono ?_; rintro e w1 ⟨p1, c1, rfl, ho1⟩
        have HBW := Lib.hid (ow_bel ho1)
        clear ho1
        go_wp2
        go_ret2
        exact ⟨k, q, d, ⟨HK.out, HBAD.out⟩, by rw [HAE.out]; rfl, os_keep HO.out HBW.out⟩
      | some ad =>
        have HC := Lib.hid (ropen_any wr (some ad) 0 c [] (rd_zero HCM.out (fun e => by cases e)) (fun x hx => by cases hx))
        have HBAD := Lib.hid (show opE (X.drop (scA X k)) ≠ 0 by rw [List.drop_of_length_le (by have := HLX.out; omega), opE_nil]; decide)
        have e23 := opE_nil
        have eZ : opZ [] = [] := (opZ_bad e23 (by decide)).1
        have eN : opN [] = 0 := (opZ_bad e23 (by decide)).2
        rw [e23, eZ, eN] at HC
        have HAE := Lib.hid hk0
        rw [hk0]
        clear e23 eZ eN hk0 hA1 hA2
        go_wp2_with fail
        go_at_call 25; refine HC.out.mono ?_; rintro e w1 ⟨p1, c1, rfl, ho1⟩
        have HBW := Lib.hid (ow_bel ho1)
        clear ho1
        go_wp2
        go_ret2
        exact ⟨k, q, d, ⟨HK.out, HBAD.out⟩, by rw [HAE.out]; rfl, os_keep HO.out HBW.out⟩
    · obtain ⟨b, off, rfl⟩ := rd_full HRW.out (by omega)
      by_cases hce : c = scA X k
      · have hle : l = c := by omega
        subst hle
        have hk0 : scA X k = l := hce.symm
        clear hce
        have HC := Lib.hid (ropen_any wr (some ⟨b, off, none⟩) 0 0 [] (rd_zero (Nat.zero_le _) (fun e => by cases e)) (fun x hx => by cases hx))
        have HBAD := Lib.hid (show opE (X.drop (scA X k)) ≠ 0 by rw [List.drop_of_length_le (by have := HLX.out; omega), opE_nil]; decide)
        have e23 := opE_nil
        have eZ : opZ [] = [] := (opZ_bad e23 (by decide)).1
        have eN : opN [] = 0 := (opZ_bad e23 (by decide)).2
        rw [e23, eZ, eN] at HC
        have HAE := Lib.hid hk0
        rw [hk0]
        clear e23 eZ eN hk0 hA1 hA2
        go_wp2_with fail
        go_at_call 25; refine HC.out.mono ?_; rintro e w1 ⟨p1, c1, rfl, ho1⟩
        have HBW := Lib.hid (ow_bel ho1)
        clear ho1
        go_wp2
        go_ret2
        exact ⟨k, q, d, ⟨HK.out, HBAD.out⟩, by rw [HAE.out]; rfl, os_keep HO.out HBW.out⟩
      · have hrd := rd_drop (p := none) (k := scA X k) HRW.out hA1 hce
        have HC := Lib.hid (ropen_any wr _ _ _ _ hrd HD.out)
        have HFIT := Lib.hid (fun h => opE_fits (X := X.drop (scA X k)) h)
        have HSA := Lib.hid (show scA X (k + 1) = scA X k + opN (X.drop (scA X k)) from rfl)
        have HSZ := Lib.hid (show scZ X (k + 1) = scZ X k ++ [opZ (X.drop (scA X k))] from rfl)
        have HDL := Lib.hid (List.length_drop (i := scA X k) (l := X))
        obtain ⟨D, hDe⟩ : ∃ D, X.drop (scA X k) = D := ⟨_, rfl⟩
        rw [hDe] at HC HFIT HSA HSZ HDL
        have HDE := Lib.hid hDe
        obtain ⟨A, hAe⟩ : ∃ A, scA X k = A := ⟨_, rfl⟩
        rw [hAe] at HC HSA hA1 hA2 hce HDL
        rw [hAe]
        have HAE := Lib.hid hAe
        obtain ⟨E, hEe⟩ : ∃ E, opE D = E := ⟨_, rfl⟩
        obtain ⟨N, hNe⟩ : ∃ N, opN D = N := ⟨_, rfl⟩
        obtain ⟨Z, hZe⟩ : ∃ Z, opZ D = Z := ⟨_, rfl⟩
        obtain ⟨m, hme⟩ : ∃ m, Z.length = m := ⟨_, rfl⟩
        rw [hEe, hNe, hZe, hme] at HC
        rw [hEe, hNe] at HFIT
        rw [hNe] at HSA
        rw [hZe] at HSZ
        have HEE := Lib.hid hEe
        by_cases hE0 : E = 0
        · subst hE0
          obtain ⟨f1, f2, f3⟩ := HFIT.out rfl
          rw [HDL.out, HLX.out] at f1 f2
          have hAN : A + N ≤ l := by omega
          have hN8 : 8 ≤ N := by omega
          have hk5 : k ≤ 100000 := by omega
          have HK2 := Lib.hid (show ∀ j, j < k + 1 → opE (X.drop (scA X j)) = 0 from fun j hj => by
            by_cases hjk : j < k
            · exact HK.out j hjk
            · obtain rfl : j = k := by omega
              rw [HDE.out]; exact HEE.out)
          clear hrd hDe hAe hEe hNe hZe hme f1 f2 f3
          go_wp2_with fail
          go_at_call 25; refine HC.out.mono ?_; rintro e w1 ⟨p1, c1, rfl, ho1⟩
          have HO1 := Lib.hid ho1
          clear ho1
          go_wp2_with (at_builtin; refine wp_os1 rfl _ _ rfl w wr w1 q k d (scZ X k) p1 m c1 Z rfl rfl HO.out (by omega) HO1.out ?_; intro p2 c2 w2 ho2)
          have HO2 := Lib.hid ho2
          clear ho2
          go_roundw
          case rel => exact ⟨k + 1, p2, c2, HK2.out, rfl, by rw [HSA.out]; go_num, by rw [HSZ.out]; exact HO2.out⟩
          case measure => simp [intOf]; omega
        · have HBAD := Lib.hid (show opE (X.drop (scA X k)) ≠ 0 by rw [HDE.out, HEE.out]; exact hE0)
          clear hrd hDe hAe hEe hNe hZe hme
          go_wp2_with fail
          go_at_call 25; refine HC.out.mono ?_; rintro e w1 ⟨p1, c1, rfl, ho1⟩
          have HBW := Lib.hid (ow_bel ho1)
          clear ho1
          go_wp2
          go_ret2
          exact ⟨k, q, d, ⟨HK.out, HBAD.out⟩, by rw [HAE.out]; rfl, os_keep HO.out HBW.out⟩
end Num
end Go.Proofs.Ythjjakpjanoamaa
