/-
  FrameScans: the walk.
-/
import Derived.Test.YthjjakpjanoamaaGR
import Derived.Test.YthjjakpjanoamaaRS
import Derived.RegionTactic
namespace Go.Proofs.Ythjjakpjanoamaa
open Go.RowKit
namespace Num
open Ints
set_option linter.unusedSimpArgs false
set_option linter.unusedVariables false
theorem os_at {W0 w : World} {p : Option Addr} {l c : Nat} {ZS : List (List Int)} (h : OwS W0 w p l c ZS) (hl : 0 < l) : ∃ g, p = some ⟨g, 0, none⟩ ∧ l ≤ c ∧ c ≤ maxLen ∧ ∀ i (hi : i < ZS.length), ∃ q m d, w.cell? ⟨g, i, none⟩ = some (.slice q m d) ∧ RdB w q m d ZS[i] := by
  obtain ⟨XS, h1, h2, h3, h4, h5⟩ := h
  have hcells := fun g (hg : (Value.slice p l c).ownBlock = some g) => h1.cells hg
  rcases h1.2 with ⟨hv, h0⟩ | ⟨g, cap, cur, hv, _, _, hle, hm, _⟩
  · omega
  · injection hv with e1 e2 e3
    subst e1 e3
    refine ⟨g, rfl, hle, hm, fun i hi => ?_⟩
    obtain ⟨q, m, d, c0, hr, _⟩ := h5 i hi
    have hc := hcells g rfl _ _ c0
    rw [Addr.add_lit, Nat.zero_add] at hc
    exact ⟨q, m, d, hc, hr⟩
set_option maxRecDepth 100000 in
set_option maxHeartbeats 8000000 in
theorem scans_in (w : World) (p r : Option Addr) (l c k f : Nat) (LS : List (List Int)) (M : List Int) (at' xx : Nat) (hs : RdS w p l c LS) (hr : RdB w r k f M) (hM : By M) (ha : at' < 65536) (hxx : xx < 256) (hl : l ≤ 10) (hk : k ≤ 100) :
    Calls Try.prog 8 #[.slice p l c, .int .u16 at', .int .u8 xx, .slice r k f] w fun e w' => e = .returned (.bool true) ∧ Below w.heap.size w w' := by
  have HS := Lib.hid hs
  have HR := Lib.hid hr
  have HM := Lib.hid hM
  have hlc := hs.2.1
  have hcm := hs.2.2.1
  unfold maxLen at hcm
  have hkf := hr.2.1
  clear hs hr hM
  have g1 : ¬ ((10 : Int) < (l : Int)) := by omega
  have g2 : ¬ ((100 : Int) < (k : Int)) := by omega
  go_enter Try.func8, Try.ntmps8
  go_wp2_with fail
  go_at_call 19; refine (known4_any _).mono ?_; rintro e w1 ⟨rfl, hb1⟩
  have HB1 := Lib.hid hb1
  have HS1 := Lib.hid (rs_keep hb1 HS.out)
  clear hb1
  go_wp2
  go_loopw [9, 10] (fun v i wr => ∃ (j n : Nat) (q : Option Addr) (d : Nat) (Z : List Int), j ≤ l ∧ i = .int .i64 j ∧ v = .slice q n d ∧ OwB w1 wr q n d Z ∧ By Z ∧ n ≤ 108 * j) (fun _ i _ => l - (intOf i).toNat)
  case atStart => exact ⟨0, 0, none, 0, [], Nat.zero_le _, rfl, rfl, ow_nil w1, fun x hx => (by cases hx), by omega⟩
  case round =>
    obtain ⟨j, n, q, d, Z, hj, rfl, rfl, ho, hB, hn⟩ := hrel
    have HO := Lib.hid ho
    have HBZ := Lib.hid hB
    clear ho hB
    by_cases hlt : j < l
    · obtain ⟨b, off, rfl, he⟩ := HS1.out.2.2.2 (by omega)
      obtain ⟨qe, me, de, ke, re, be⟩ := he j (by rw [HS1.out.1]; exact hlt)
      obtain ⟨E, hE⟩ : ∃ E, LS[j]'(by rw [HS1.out.1]; exact hlt) = E := ⟨_, rfl⟩
      rw [hE] at re be
      have HRE := Lib.hid re
      have HBE := Lib.hid be
      have ke' := cell_keep (ow_bel HO.out) ke
      clear he ke re be hE
      by_cases hbig : 100 < me
      · have hmb := HRE.out.2.1
        have hmc := HRE.out.2.2.1
        unfold maxLen at hmc
        go_wp2
        go_ret
        exact ⟨rfl, bel_step HB1.out (ow_bel HO.out)⟩
      · have hsm : me ≤ 100 := by omega
        go_wp2_with fail
        go_at_call 21; refine (rwrap_ok w1 wr q qe n d me de Z E (Or.inl HO.out) HRE.out HBE.out (by omega) (by omega)).mono ?_; rintro e w2 ⟨p2, c2, rfl, ho2⟩
        have HO2 := Lib.hid ho2
        clear ho2
        go_wp2
        go_roundw
        case rel => exact ⟨j + 1, n + 4 + 4 + me, p2, c2, _, by omega, by go_num, rfl, HO2.out, by_app HBZ.out (by_fr HBE.out), by omega⟩
        case measure => simp [intOf]; omega
    · obtain rfl : j = l := by omega
      have hn5 : n ≤ 1080 := by omega
      have HRM := Lib.hid (rd_keep (ow_bel HO.out) (rd_keep HB1.out HR.out))
      obtain ⟨N, hN⟩ : ∃ N, n + k = N := ⟨_, rfl⟩
      have hN5 : N ≤ 1180 := by omega
      have HBZM := Lib.hid (by_app HBZ.out HM.out)
      by_cases h0 : N = 0
      · obtain rfl : n = 0 := by omega
        obtain rfl : k = 0 := by omega
        subst h0
        clear hN
        go_wp2_with (at_builtin; first
          | (refine wp_obR rfl _ _ rfl w1 wr q 0 d Z r 0 f M rfl rfl HO.out HRM.out (by omega) (by omega) ?_
             intro p2 c2 w2 ho2 _
             have HO2 := Lib.hid (show OwB w1 w2 p2 0 c2 (Z ++ M) from ho2)
             clear ho2))
        have HSC := Lib.hid (scan_any w2 p2 0 c2 (Z ++ M) (rd_of_ow HO2.out) HBZM.out (by omega))
        go_wp2_with fail
        go_at_call 26; refine HSC.out.mono ?_; rintro e w5 ⟨K, p5, c5, hK5, rfl, ho5⟩
        have HB5 := Lib.hid (show Below w2.heap.size w2 w5 by obtain ⟨_, _, _, h, _⟩ := ho5; exact h)
        have HSR := Lib.hid (rscan_any w5 p2 0 c2 (Z ++ M) (rd_keep HB5.out (rd_of_ow HO2.out)) HBZM.out (by omega))
        have HK5 := Lib.hid hK5
        have HO5 := Lib.hid ho5
        clear hK5 ho5
        go_wp2_with fail
        go_at_call 27; refine HSR.out.mono ?_; rintro e w6 ⟨K6, p6, c6, hK6, rfl, ho6⟩
        have hKK := scK_one HK5.out hK6
        subst hKK
        have HO6 := Lib.hid ho6
        have HB6 := Lib.hid (show Below w5.heap.size w5 w6 by obtain ⟨_, _, _, h, _⟩ := ho6; exact h)
        have HO56 := Lib.hid (os_keep HO5.out HB6.out)
        have HBW6 := Lib.hid (bel_step (bel_step (bel_step HB1.out (ow_bel HO2.out)) HB5.out) HB6.out)
        have hKl := (scA_le K HK5.out.1)
        have hKb : K ≤ 100000 := by
          have h1 := ((rd_of_ow HO2.out)).1
          omega
        obtain ⟨A, hA⟩ : ∃ A, scA (Z ++ M) K = A := ⟨_, rfl⟩
        rw [hA]
        clear ho6 hK6 hKl hA
        go_wp2
        go_loopw [15] (fun i wr => ∃ j : Nat, j ≤ K ∧ i = .int .i64 j ∧ Below w6.heap.size w6 wr) (fun i _ => K - (intOf i).toNat)
        case atStart => exact ⟨0, Nat.zero_le _, rfl, Below.refl _ _⟩
        case round =>
          obtain ⟨j, hj, rfl, hbr⟩ := hrel
          have HBR := Lib.hid hbr
          clear hbr
          by_cases hlt : j < K
          · obtain ⟨ga, rfl, hca, hcam, ha⟩ := os_at HO56.out (by omega)
            obtain ⟨gb, rfl, hcb, hcbm, hb⟩ := os_at HO6.out (by omega)
            obtain ⟨qa, ma, da, ka, ra⟩ := ha j (by rw [scZ_len]; exact hlt)
            obtain ⟨qb, mb, db, kb, rb⟩ := hb j (by rw [scZ_len]; exact hlt)
            unfold maxLen at hcam hcbm
            have hla := (cell_lt ka)
            have hlb := (cell_lt kb)
            have ka' := cell_keep HBR.out ka
            have kb' := cell_keep HBR.out kb
            obtain ⟨sj, hsj⟩ : ∃ sj, strB ((scZ (Z ++ M) K)[j]'(by rw [scZ_len]; exact hlt)) = sj := ⟨_, rfl⟩
            have cva := rd_string (rd_keep HBR.out ra)
            have cvb := rd_string (rd_keep HBR.out rb)
            have cvc := rd_string (show RdB wr.drew qa ma da _ from rd_keep HBR.out ra)
            have cvd := rd_string (show RdB wr.drew qb mb db _ from rd_keep HBR.out rb)
            rw [hsj] at cva cvb cvc cvd
            clear ka kb ra rb hsj ha hb hla hlb
            go_wp2
            go_region
            go_wp2
            go_roundw
            case rel => exact ⟨j + 1, by omega, by go_num, Below.drew HBR.out⟩
            case measure => simp [intOf]; omega
          · obtain rfl : j = K := by omega
            go_wp2
            go_ret
            exact ⟨rfl, bel_step HBW6.out HBR.out⟩
      · obtain ⟨jj, hje⟩ : ∃ jj, at' % N = jj := ⟨_, rfl⟩
        have hjN : jj < N := by rw [← hje]; exact Nat.mod_lt _ (by omega)
        have hji : ((at' : Int) % (N : Int)) = (jj : Int) := by omega
        have hN0 : (0 : Int) < (N : Int) := by omega
        have hnk : (n : Int) + (k : Int) = (N : Int) := by omega
        go_wp2_with (at_builtin; first
          | (refine wp_obR rfl _ _ rfl w1 wr q n d Z r k f M rfl rfl HO.out HRM.out (by omega) (by omega) ?_
             rw [hN]
             intro p2 c2 w2 ho2 _
             obtain ⟨g, cur, rfl, hg2, hW2, hcs, hlc2, htk⟩ := ow_some ho2 (by omega)
             have HO2 := Lib.hid ho2
             have hjX : jj < (Z ++ M).length := by rw [ho2.1]; exact hjN
             obtain ⟨hx0, hx1⟩ := HBZM.out _ (List.getElem_mem hjX)
             obtain ⟨x, hx⟩ : ∃ x : Nat, (Z ++ M)[jj] = (x : Int) := ⟨(Z ++ M)[jj].toNat, by omega⟩
             have hc2 : w2.cell? ⟨g, jj, none⟩ = some (.int .u8 (x : Int)) := by
               obtain ⟨b', off', e, h⟩ := (rd_of_ow HO2.out).2.2.2.1 (by omega)
               cases e
               have := h jj hjX
               rw [Nat.zero_add] at this
               rw [this, hx]
             rw [hx] at hx0 hx1
             obtain ⟨y, hyb, hy256⟩ := xor_walk (show x < 256 by omega) hxx
             have hf2 := row_frz hg2 jj
             have HO3 := Lib.hid (ow_set HO2.out hjN (y : Int))
             have HY := Lib.hid (by_setB (j := jj) HBZM.out (show 0 ≤ (y : Int) ∧ (y : Int) < 256 by omega))
             clear ho2 hg2 hcs htk hx hy256))
        have HSC := Lib.hid (scan_any (w2.setCell ⟨g, jj, none⟩ (.int .u8 (y : Int))) (some ⟨g, 0, none⟩) N c2 ((Z ++ M).set jj (y : Int)) (rd_of_ow HO3.out) HY.out (by omega))
        go_wp2_with fail
        go_at_call 26; refine HSC.out.mono ?_; rintro e w5 ⟨K, p5, c5, hK5, rfl, ho5⟩
        have HB5 := Lib.hid (show Below (w2.setCell ⟨g, jj, none⟩ (.int .u8 (y : Int))).heap.size (w2.setCell ⟨g, jj, none⟩ (.int .u8 (y : Int))) w5 by obtain ⟨_, _, _, h, _⟩ := ho5; exact h)
        have HSR := Lib.hid (rscan_any w5 (some ⟨g, 0, none⟩) N c2 ((Z ++ M).set jj (y : Int)) (rd_keep HB5.out (rd_of_ow HO3.out)) HY.out (by omega))
        have HK5 := Lib.hid hK5
        have HO5 := Lib.hid ho5
        clear hK5 ho5
        go_wp2_with fail
        go_at_call 27; refine HSR.out.mono ?_; rintro e w6 ⟨K6, p6, c6, hK6, rfl, ho6⟩
        have hKK := scK_one HK5.out hK6
        subst hKK
        have HO6 := Lib.hid ho6
        have HB6 := Lib.hid (show Below w5.heap.size w5 w6 by obtain ⟨_, _, _, h, _⟩ := ho6; exact h)
        have HO56 := Lib.hid (os_keep HO5.out HB6.out)
        have HBW6 := Lib.hid (bel_step (bel_step (bel_step HB1.out (ow_bel HO3.out)) HB5.out) HB6.out)
        have hKl := (scA_le K HK5.out.1)
        have hKb : K ≤ 100000 := by
          have h1 := ((rd_of_ow HO3.out)).1
          omega
        obtain ⟨A, hA⟩ : ∃ A, scA ((Z ++ M).set jj (y : Int)) K = A := ⟨_, rfl⟩
        rw [hA]
        clear ho6 hK6 hKl hA
        go_wp2
        go_loopw [15] (fun i wr => ∃ j : Nat, j ≤ K ∧ i = .int .i64 j ∧ Below w6.heap.size w6 wr) (fun i _ => K - (intOf i).toNat)
        case atStart => exact ⟨0, Nat.zero_le _, rfl, Below.refl _ _⟩
        case round =>
          obtain ⟨j, hj, rfl, hbr⟩ := hrel
          have HBR := Lib.hid hbr
          clear hbr
          by_cases hlt : j < K
          · obtain ⟨ga, rfl, hca, hcam, ha⟩ := os_at HO56.out (by omega)
            obtain ⟨gb, rfl, hcb, hcbm, hb⟩ := os_at HO6.out (by omega)
            obtain ⟨qa, ma, da, ka, ra⟩ := ha j (by rw [scZ_len]; exact hlt)
            obtain ⟨qb, mb, db, kb, rb⟩ := hb j (by rw [scZ_len]; exact hlt)
            unfold maxLen at hcam hcbm
            have hla := (cell_lt ka)
            have hlb := (cell_lt kb)
            have ka' := cell_keep HBR.out ka
            have kb' := cell_keep HBR.out kb
            obtain ⟨sj, hsj⟩ : ∃ sj, strB ((scZ ((Z ++ M).set jj (y : Int)) K)[j]'(by rw [scZ_len]; exact hlt)) = sj := ⟨_, rfl⟩
            have cva := rd_string (rd_keep HBR.out ra)
            have cvb := rd_string (rd_keep HBR.out rb)
            have cvc := rd_string (show RdB wr.drew qa ma da _ from rd_keep HBR.out ra)
            have cvd := rd_string (show RdB wr.drew qb mb db _ from rd_keep HBR.out rb)
            rw [hsj] at cva cvb cvc cvd
            clear ka kb ra rb hsj ha hb hla hlb
            go_wp2
            go_region
            go_wp2
            go_roundw
            case rel => exact ⟨j + 1, by omega, by go_num, Below.drew HBR.out⟩
            case measure => simp [intOf]; omega
          · obtain rfl : j = K := by omega
            go_wp2
            go_ret
            exact ⟨rfl, bel_step HBW6.out HBR.out⟩
set_option maxRecDepth 100000 in
set_option maxHeartbeats 4000000 in
theorem scans_out (w : World) (p r : Option Addr) (l c k f : Nat) (a b : Int) (h1 : l ≤ c) (h2 : c ≤ maxLen) (h5 : k ≤ f) (h6 : f ≤ maxLen) (h : 10 < l ∨ 100 < k) :
    Calls Try.prog 8 #[.slice p l c, .int .u16 a, .int .u8 b, .slice r k f] w fun e w' => e = .returned (.bool true) ∧ Below w.heap.size w w' := by
  unfold maxLen at h2 h6
  by_cases k1 : 10 < l <;> by_cases k2 : 100 < k
  all_goals first
    | (exfalso; omega)
    | (clear h
       go_enter Try.func8, Try.ntmps8
       go_wp2_with fail
       go_at_call 19; refine (known4_any _).mono ?_; rintro e w1 ⟨rfl, hb1⟩
       have HB1 := Lib.hid hb1
       clear hb1
       go_wp2
       all_goals (go_ret; exact ⟨rfl, HB1.out⟩))
end Num
end Go.Proofs.Ythjjakpjanoamaa
