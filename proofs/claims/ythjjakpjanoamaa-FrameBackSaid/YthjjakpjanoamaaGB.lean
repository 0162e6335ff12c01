/-
  FrameBack: the walk.
-/
import Derived.Test.YthjjakpjanoamaaGS
namespace Go.Proofs.Ythjjakpjanoamaa
open Go.RowKit
namespace Num
open Ints
set_option linter.unusedSimpArgs false
set_option linter.unusedVariables false
theorem rd_tightB {w : World} {p : Option Addr} {l c : Nat} {X : List Int} (h : RdB w p l c X) : RdB w p l l X :=
  ⟨h.1, Nat.le_refl _, Nat.le_trans h.2.1 h.2.2.1, h.2.2.2.1, fun e => by have := h.2.2.2.2 e; have := h.2.1; omega⟩
set_option maxRecDepth 100000 in
set_option maxHeartbeats 4000000 in
theorem back_in (w : World) (p q r : Option Addr) (l c m d k f : Nat) (X Y M : List Int) (hb : RdB w p l c X) (hq : RdB w q m d Y) (hr : RdB w r k f M) (hX : By X) (hY : By Y) (hM : By M) (hl : l ≤ 100) (hm : m ≤ 500) (hk : k ≤ 100) :
    Calls Try.prog 5 #[.slice p l c, .slice q m d, .slice r k f] w fun e w' => e = .returned (.bool true) ∧ Below w.heap.size w w' := by
  have HX := Lib.hid hb
  have HQ := Lib.hid hq
  have HR := Lib.hid hr
  have HBX := Lib.hid hX
  have HBY := Lib.hid hY
  have HBM := Lib.hid hM
  have hlc := hb.2.1
  have hcm := hb.2.2.1
  unfold maxLen at hcm
  obtain ⟨L, hL⟩ : ∃ L, l + 4 + 4 + m = L := ⟨_, rfl⟩
  have HW := Lib.hid (fun (w : World) (h1 : RdB w p l c X) (h2 : RdB w q m d Y) => wrap_ok w p q l c m d X Y h1 h2 hY (by omega) (by omega))
  have HV := Lib.hid (fun (w : World) (h1 : RdB w p l l X) (h2 : RdB w q m d Y) => rwrap_ok w w p q l l m d X Y (in_of_rd h1) h2 hY (by omega) (by omega))
  rw [hL] at HW HV
  have hLl : l < L := by omega
  have hL5 : L ≤ 608 := by omega
  have HF := Lib.hid (op_frame (Y := Y) M hY (by rw [hq.1]; omega))
  have HDR := Lib.hid (show (X ++ frI Y).drop l = frI Y by rw [List.drop_append_of_le_length (by rw [hb.1]; omega), List.drop_of_length_le (by rw [hb.1]; omega), List.nil_append])
  have HYL := Lib.hid hq.1
  have HLL := Lib.hid (show L - l = 8 + m by omega)
  clear hb hq hr hX hY hM hL
  have g1 : ¬ ((100 : Int) < (l : Int)) := by omega
  have g2 : ¬ ((500 : Int) < (m : Int)) := by omega
  have g3 : ¬ ((100 : Int) < (k : Int)) := by omega
  go_enter Try.func5, Try.ntmps5
  go_wp2_with fail
  go_at_call 19; refine (known4_any _).mono ?_; rintro e w1 ⟨rfl, hb1⟩
  have HB1 := Lib.hid hb1
  clear hb1
  go_wp2_with fail
  go_at_call 20; refine (HW.out w1 (rd_keep HB1.out HX.out) (rd_keep HB1.out HQ.out)).mono ?_; rintro e w2 ⟨p2, c2, rfl, ho2⟩
  have HO2 := Lib.hid ho2
  have HB2 := Lib.hid (bel_step HB1.out (ow_bel ho2))
  clear ho2
  -- the reference's
  go_wp2_with fail
  go_at_call 21; refine (HV.out w2 (rd_tightB (rd_keep HB2.out HX.out)) (rd_keep HB2.out HQ.out)).mono ?_; rintro e w3 ⟨p3, c3, rfl, ho3⟩
  have HO3 := Lib.hid ho3
  have HB3 := Lib.hid (bel_step HB2.out (ow_bel ho3))
  have HO23 := Lib.hid (ow_keep HO2.out (ow_bel ho3))
  clear ho3
  obtain ⟨g, o, rfl⟩ := rd_full (rd_of_ow HO23.out) (by omega)
  have hc2 : L ≤ c2 := (rd_of_ow HO23.out).2.1
  have hc2m := (rd_of_ow HO23.out).2.2.1
  unfold maxLen at hc2m
  have hne : ¬ (c2 = l) := by omega
  have HD := Lib.hid (show RdB w3 (some ⟨g, o + l, none⟩) (L - l) (c2 - l) (frI Y) by have h := rd_drop (p := none) (k := l) (rd_of_ow HO23.out) (by omega) hne; rw [HDR.out] at h; exact h)
  have hLl2 : l ≤ L := by omega
  have HL5 := Lib.hid (show L - l ≤ 1000000 by omega)
  have HL6 := Lib.hid (show L - l + k ≤ 1000000 by omega)
  go_wp2_with (at_builtin; first
    | (refine wp_obR rfl _ _ rfl w3 w3 none 0 0 [] (some ⟨g, o + l, none⟩) (L - l) (c2 - l) (frI Y) rfl rfl (ow_nil w3) HD.out (by omega) HL5.out ?_
       intro p4 c4 w4 ho4 _
       have HO4 := Lib.hid (show OwB w3 w4 p4 (L - l) c4 (frI Y) by have h := ho4; rw [Nat.zero_add, List.nil_append] at h; exact h)
       clear ho4)
    | (refine wp_obR rfl _ _ rfl w3 w4 p4 (L - l) c4 (frI Y) r k f M rfl rfl HO4.out (rd_keep (ow_bel HO4.out) (rd_keep HB3.out HR.out)) HL5.out (by omega) ?_
       intro p5 c5 w5 ho5 _
       have HO5 := Lib.hid ho5
       clear ho5))
  have HC := Lib.hid (open_any w5 p5 (L - l + k) c5 (frI Y ++ M) (rd_of_ow HO5.out) (by_app (by_fr HBY.out) HBM.out))
  rw [HF.out.1, HF.out.2.1, HF.out.2.2, HYL.out] at HC
  go_at_call 22; refine HC.out.mono ?_; rintro e w6 ⟨p6, c6, rfl, ho6⟩
  have HB36 := Lib.hid (bel_step (ow_bel HO5.out) (ow_bel ho6))
  have HB6 := Lib.hid (bel_step HB3.out HB36.out)
  obtain ⟨s1, hs1⟩ : ∃ s1, strB (X ++ frI Y) = s1 := ⟨_, rfl⟩
  obtain ⟨s2, hs2⟩ : ∃ s2, strB Y = s2 := ⟨_, rfl⟩
  have cv1 := rd_string (rd_keep HB36.out (rd_of_ow HO23.out))
  have cv2 := rd_string (rd_keep HB36.out (rd_of_ow HO3.out))
  have cv3 := rd_string (rd_of_ow ho6)
  have cv4 := rd_string (rd_keep HB6.out HQ.out)
  rw [hs1] at cv1 cv2
  rw [hs2] at cv3 cv4
  obtain ⟨s, hs⟩ : ∃ s, crcI Y = s := ⟨_, rfl⟩
  have HSP := Lib.hid (sum_any w6 q m d Y (rd_keep HB6.out HQ.out) HBY.out (by omega))
  have HSR := Lib.hid (rsum_any w6 q m d Y (rd_keep HB6.out HQ.out) HBY.out (by omega))
  rw [hs] at HSP HSR
  clear ho6 hs1 hs2 hs
  go_wp2_with fail
  go_at_call 23; refine HSP.out.mono ?_; rintro e w7 ⟨rfl, rfl⟩
  go_wp2_with fail
  go_at_call 24; refine HSR.out.mono ?_; rintro e w7 ⟨rfl, rfl⟩
  go_wp2
  go_ret
  exact ⟨rfl, HB6.out⟩
set_option maxRecDepth 100000 in
set_option maxHeartbeats 4000000 in
theorem back_out (w : World) (p q r : Option Addr) (l c m d k f : Nat) (h1 : l ≤ c) (h2 : c ≤ maxLen) (h3 : m ≤ d) (h4 : d ≤ maxLen) (h5 : k ≤ f) (h6 : f ≤ maxLen) (h : 100 < l ∨ 500 < m ∨ 100 < k) :
    Calls Try.prog 5 #[.slice p l c, .slice q m d, .slice r k f] w fun e w' => e = .returned (.bool true) ∧ Below w.heap.size w w' := by
  unfold maxLen at h2 h4 h6
  by_cases k1 : 100 < l <;> by_cases k2 : 500 < m <;> by_cases k3 : 100 < k
  all_goals first
    | (exfalso; omega)
    | (clear h
       go_enter Try.func5, Try.ntmps5
       go_wp2_with fail
       go_at_call 19; refine (known4_any _).mono ?_; rintro e w1 ⟨rfl, hb1⟩
       have HB1 := Lib.hid hb1
       clear hb1
       go_wp2
       all_goals (go_ret; exact ⟨rfl, HB1.out⟩))
end Num
end Go.Proofs.Ythjjakpjanoamaa
