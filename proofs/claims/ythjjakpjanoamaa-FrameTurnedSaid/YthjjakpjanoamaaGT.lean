/-
  FrameTurned: the walk.
-/
import Derived.Test.YthjjakpjanoamaaGS
namespace Go.Proofs.Ythjjakpjanoamaa
open Go.RowKit
namespace Num
open Ints
set_option linter.unusedSimpArgs false
set_option linter.unusedVariables false
theorem be4_rd {S : List Int} (h : By S) (hl : S.length = 4) : S = beI (rdU S) 4 ∧ 0 ≤ rdU S ∧ rdU S < 4294967296 := by
  match S, hl with
  | [a, b, c, d], _ =>
    have ha := h a (by simp)
    have hb := h b (by simp)
    have hc := h c (by simp)
    have hd := h d (by simp)
    rw [rdU_four a b c d ha hb hc hd]
    refine ⟨?_, by omega, by omega⟩
    show [a, b, c, d] = [_ / 2 ^ (8 * 3) % 256, _ / 2 ^ (8 * 2) % 256, _ / 2 ^ (8 * 1) % 256, _ / 2 ^ (8 * 0) % 256]
    simp only [List.cons.injEq, and_true]
    have e3 : (2 : Int) ^ (8 * 3) = 16777216 := by decide
    have e2 : (2 : Int) ^ (8 * 2) = 65536 := by decide
    have e1 : (2 : Int) ^ (8 * 1) = 256 := by decide
    have e0 : (2 : Int) ^ (8 * 0) = 1 := by decide
    rw [e3, e2, e1, e0]
    refine ⟨by omega, by omega, by omega, by omega⟩
theorem by_set {X : List Int} {j : Nat} {y : Int} (h : By X) (hy : 0 ≤ y ∧ y < 256) : By (X.set j y) := fun z hz => by
  rcases List.mem_or_eq_of_mem_set hz with h' | h'
  · exact h z h'
  · rw [h']; exact hy
/-- A frame of which a byte behind its length is another one isn't one. -/
theorem op_turn {Y : List Int} (hB : By Y) (hY : Y.length ≤ 65536) (j : Nat) (h4 : 4 ≤ j) (hj : j < (frI Y).length) (y : Int) (hy : 0 ≤ y ∧ y < 256) (hne : (frI Y)[j]? ≠ some y) : opE ((frI Y).set j y) = 21 := by
  have hlen := frI_len Y
  have hr := crcI_rng (by_app (by_hd Y) hB)
  have hs4 : (beI (crcI (hdI Y ++ Y)) 4).length = 4 := beI_len _ 4
  have h8 : (hdI Y ++ beI (crcI (hdI Y ++ Y)) 4).length = 8 := by rw [List.length_append, hdI_len, hs4]
  by_cases hlt : j < 8
  · have e : (frI Y).set j y = hdI Y ++ (beI (crcI (hdI Y ++ Y)) 4).set (j - 4) y ++ Y ++ [] := by
      unfold frI
      rw [List.set_append, if_pos (by omega), List.set_append, if_neg (by rw [hdI_len]; omega), hdI_len, List.append_nil]
    have hb4 := by_set (j := j - 4) (y := y) (by_be (crcI (hdI Y ++ Y)) 4) hy
    obtain ⟨k1, k2, k3⟩ := be4_rd hb4 (by rw [List.length_set]; exact hs4)
    have hne2 : (beI (crcI (hdI Y ++ Y)) 4).set (j - 4) y ≠ beI (crcI (hdI Y ++ Y)) 4 := by
      intro h
      apply hne
      have h2 : ((beI (crcI (hdI Y ++ Y)) 4).set (j - 4) y)[j - 4]? = some y := List.getElem?_set_self (by omega)
      rw [h] at h2
      unfold frI
      rw [List.getElem?_append_left (by omega), List.getElem?_append_right (by rw [hdI_len]; omega), hdI_len]
      exact h2
    rw [e, k1, op_parts_E _ Y [] k2 k3 rfl hY, if_neg]
    intro h
    apply hne2
    rw [k1, ← h]
  · have e : (frI Y).set j y = hdI Y ++ beI (crcI (hdI Y ++ Y)) 4 ++ Y.set (j - 8) y ++ [] := by
      unfold frI
      rw [List.set_append, if_neg (by omega), h8, List.append_nil]
    rw [e, op_parts_E _ (Y.set (j - 8) y) [] hr.1 hr.2 (by rw [List.length_set]) hY, if_neg]
    have e2 : hdI Y ++ Y.set (j - 8) y = (hdI Y ++ Y).set (j - 4) y := by
      rw [List.set_append, if_neg (by rw [hdI_len]; omega), hdI_len]
      congr 2
      (try omega)
    rw [e2]
    refine crcI_set (by_app (by_hd Y) hB) (j - 4) (by rw [List.length_append, hdI_len]; omega) y hy.1 hy.2 ?_
    intro h
    apply hne
    have h2 : (hdI Y ++ Y)[j - 4]? = some y := by rw [h]; exact List.getElem?_eq_getElem _
    rw [List.getElem?_append_right (by rw [hdI_len]; omega), hdI_len] at h2
    unfold frI
    rw [List.getElem?_append_right (by omega), h8, ← h2]
    congr 1
set_option maxRecDepth 100000 in
set_option maxHeartbeats 4000000 in
theorem turned_in (w : World) (p : Option Addr) (l c : Nat) (X : List Int) (at' bit : Nat) (hb : RdB w p l c X) (hX : By X) (ha : at' < 65536) (hbit : bit < 256) (hl : l ≤ 500) :
    Calls Try.prog 7 #[.slice p l c, .int .u16 at', .int .u8 bit] w fun e w' => e = .returned (.bool true) ∧ Below w.heap.size w w' := by
  have HB := Lib.hid hb
  have HX := Lib.hid hX
  have hlX := hb.1
  obtain ⟨L, hL⟩ : ∃ L, 0 + 4 + 4 + l = L := ⟨_, rfl⟩
  obtain ⟨k, hke⟩ : ∃ k, at' % (L - 4) = k := ⟨_, rfl⟩
  have hkL : k < L - 4 := by rw [← hke]; exact Nat.mod_lt _ (by omega)
  have hki : ((at' : Int) % ((L : Int) - 4)) = (k : Int) := by
    have : ((L : Int) - 4) = ((L - 4 : Nat) : Int) := by omega
    rw [this]; omega
  have hjX : 4 + k < (frI X).length := by rw [frI_len]; omega
  have hbF := by_fr hX
  obtain ⟨hx0, hx1⟩ := hbF _ (List.getElem_mem hjX)
  obtain ⟨x, hx⟩ : ∃ x : Nat, (frI X)[4 + k] = (x : Int) := ⟨(frI X)[4 + k].toNat, by omega⟩
  rw [hx] at hx0 hx1
  have HXJ := Lib.hid hx
  obtain ⟨y, hyb, hy256, hyx⟩ := turn_walk bit (show x < 256 by omega)
  have HE := Lib.hid (op_turn hX (by omega) (4 + k) (by omega) hjX (y : Int) ⟨by omega, by omega⟩ (by rw [List.getElem?_eq_getElem hjX, hx]; intro h; injection h; omega))
  have HY := Lib.hid (show By ((frI X).set (4 + k) (y : Int)) from by_set hbF ⟨by omega, by omega⟩)
  have HZ := Lib.hid (opZ_bad HE.out (by decide))
  have HL := Lib.hid hL
  have HW := Lib.hid (fun (w : World) (h : RdB w p l c X) => wrap_ok w none p 0 0 l c [] X (rd_nil w) h HX.out (by omega) (by omega))
  rw [hL] at HW
  have hL8 : 8 ≤ L := by omega
  have hL5 : L ≤ 508 := by omega
  clear hb hX hke hx hy256 hyx hbF hL hlX
  go_enter Try.func7, Try.ntmps7
  go_wp2_with fail
  go_at_call 19; refine (known4_any _).mono ?_; rintro e w1 ⟨rfl, hb1⟩
  have HB1 := Lib.hid hb1
  have HR1 := Lib.hid (rd_keep hb1 HB.out)
  clear hb1
  go_wp2_with fail
  go_at_call 20; refine (HW.out w1 HR1.out).mono ?_; rintro e w2 ⟨p2, c2, rfl, ho2⟩
  obtain ⟨g, cur, rfl, hg2, hW2, hcs, hlc2, htk⟩ := ow_some ho2 (by omega)
  have HO2 := Lib.hid (show OwB w1 w2 (some ⟨g, 0, none⟩) L c2 (frI X) from ho2)
  have hc2 : w2.cell? ⟨g, 4 + k, none⟩ = some (.int .u8 (x : Int)) := by
    obtain ⟨b', off', e, h⟩ := (rd_of_ow HO2.out).2.2.2.1 (by omega)
    cases e
    have := h (4 + k) hjX
    rw [Nat.zero_add] at this
    rw [this, HXJ.out]
  have hf2 := row_frz hg2 (4 + k)
  clear ho2 hg2 hcs htk
  have hk4 : 4 + k < L := by omega
  have HO3 := Lib.hid (ow_set HO2.out hk4 (y : Int))
  have HC := Lib.hid (open_any _ _ L c2 _ (rd_of_ow HO3.out) HY.out)
  rw [HE.out, HZ.out.1, HZ.out.2] at HC
  go_wp2_with fail
  go_at_call 22; refine HC.out.mono ?_; rintro e w4 ⟨p4, c4, rfl, ho4⟩
  have HB4 := Lib.hid (bel_step (bel_step HB1.out (ow_bel HO3.out)) (ow_bel ho4))
  clear ho4
  go_wp2
  go_ret
  exact ⟨rfl, HB4.out⟩
set_option maxRecDepth 100000 in
set_option maxHeartbeats 4000000 in
theorem turned_out (w : World) (p : Option Addr) (l c : Nat) (a b : Int) (hlc : l ≤ c) (hc : c ≤ maxLen) (hl : 500 < l) :
    Calls Try.prog 7 #[.slice p l c, .int .u16 a, .int .u8 b] w fun e w' => e = .returned (.bool true) ∧ Below w.heap.size w w' := by
  unfold maxLen at hc
  go_enter Try.func7, Try.ntmps7
  go_wp2_with fail
  go_at_call 19; refine (known4_any _).mono ?_; rintro e w1 ⟨rfl, hb1⟩
  have HB1 := Lib.hid hb1
  clear hb1
  go_wp2
  go_ret
  exact ⟨rfl, HB1.out⟩
end Num
end Go.Proofs.Ythjjakpjanoamaa
