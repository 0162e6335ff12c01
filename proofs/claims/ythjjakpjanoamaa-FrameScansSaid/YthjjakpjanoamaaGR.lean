/-
  FrameReads: the walk.
-/
import Derived.Test.YthjjakpjanoamaaGS
namespace Go.Proofs.Ythjjakpjanoamaa
open Go.RowKit
namespace Num
open Ints
set_option linter.unusedSimpArgs false
set_option linter.unusedVariables false
theorem by_setB {X : List Int} {j : Nat} {y : Int} (h : By X) (hy : 0 ≤ y ∧ y < 256) : By (X.set j y) := fun z hz => by
  rcases List.mem_or_eq_of_mem_set hz with h' | h'
  · exact h z h'
  · rw [h']; exact hy
/-- A byte turned, as the walk spells it. -/
theorem xor_walk {a b : Nat} (ha : a < 256) (hb : b < 256) : ∃ y : Nat, bits .xor .u8 (a : Int) (b : Int) = (y : Int) ∧ y < 256 := by
  rw [x8_nat ha hb]
  exact ⟨_, rfl, Nat.xor_lt_two_pow (n := 8) ha hb⟩
set_option maxRecDepth 100000 in
set_option maxHeartbeats 4000000 in
theorem reads_in (w : World) (p r : Option Addr) (l c k f : Nat) (X R : List Int) (at' xx : Nat) (cut : Bool) (hb : RdB w p l c X) (hr : RdB w r k f R) (hX : By X) (hR : By R) (ha : at' < 65536) (hxx : xx < 256) (hl : l ≤ 300) (hk : k ≤ 300) :
    Calls Try.prog 6 #[.slice r k f, .slice p l c, .int .u16 at', .int .u8 xx, .bool cut] w fun e w' => e = .returned (.bool true) ∧ Below w.heap.size w w' := by
  have HX := Lib.hid hb
  have HR := Lib.hid hr
  have HBX := Lib.hid hX
  have HBR := Lib.hid hR
  have hlX := hb.1
  obtain ⟨L, hL⟩ : ∃ L, 0 + 4 + 4 + l = L := ⟨_, rfl⟩
  have HV := Lib.hid (fun (w : World) (h2 : RdB w p l c X) => rwrap_ok w w none p 0 0 l c [] X (in_of_rd (rd_nil w)) h2 hX (by omega) (by omega))
  rw [hL] at HV
  have hL8 : 8 ≤ L := by omega
  have hL5 : L ≤ 308 := by omega
  obtain ⟨j, hje⟩ : ∃ j, at' % L = j := ⟨_, rfl⟩
  have hjL : j < L := by rw [← hje]; exact Nat.mod_lt _ (by omega)
  have hji : ((at' : Int) % (L : Int)) = (j : Int) := by omega
  have hjX : j < (frI X).length := by rw [frI_len]; omega
  have hbF := by_fr hX
  obtain ⟨hx0, hx1⟩ := hbF _ (List.getElem_mem hjX)
  obtain ⟨x, hx⟩ : ∃ x : Nat, (frI X)[j] = (x : Int) := ⟨(frI X)[j].toNat, by omega⟩
  rw [hx] at hx0 hx1
  have HXJ := Lib.hid hx
  obtain ⟨y, hyb, hy256⟩ := xor_walk (show x < 256 by omega) hxx
  have HY := Lib.hid (show By ((frI X).set j (y : Int)) from by_setB hbF ⟨by omega, by omega⟩)
  clear hb hr hX hR hje hx hy256 hbF hL hlX
  have g1 : ¬ ((300 : Int) < (l : Int)) := by omega
  have g2 : ¬ ((300 : Int) < (k : Int)) := by omega
  cases cut
  all_goals
    go_enter Try.func6, Try.ntmps6
    go_wp2_with fail
    go_at_call 19; refine (known4_any _).mono ?_; rintro e w1 ⟨rfl, hb1⟩
    have HB1 := Lib.hid hb1
    clear hb1
    go_wp2_with fail
    go_at_call 21; refine (HV.out w1 (rd_keep HB1.out HX.out)).mono ?_; rintro e w2 ⟨p2, c2, rfl, ho2⟩
    obtain ⟨g, cur, rfl, hg2, hW2, hcs, hlc2, htk⟩ := ow_some ho2 (by omega)
    have HO2 := Lib.hid (show OwB w1 w2 (some ⟨g, 0, none⟩) L c2 (frI X) from ho2)
    have hc2 : w2.cell? ⟨g, j, none⟩ = some (.int .u8 (x : Int)) := by
      obtain ⟨b', off', e, h⟩ := (rd_of_ow HO2.out).2.2.2.1 (by omega)
      cases e
      have := h j hjX
      rw [Nat.zero_add] at this
      rw [this, HXJ.out]
    have hf2 := row_frz hg2 j
    have HO3 := Lib.hid (ow_set HO2.out hjL (y : Int))
    clear ho2 hg2 hcs htk
    go_wp2_with fail
  · -- false
    have hS : (w2.setCell ⟨g, j, none⟩ (.int .u8 (y : Int))).heap.size = w2.heap.size := World.size_setCell _ _ _
    have hrow := row_alloc (w2.setCell ⟨g, j, none⟩ (.int .u8 (y : Int))) #[.slice r k f, .slice (some ⟨g, 0, none⟩) L c2] 22
    rw [hS] at hrow
    obtain ⟨W4, hW4⟩ : ∃ W4, (w2.setCell ⟨g, j, none⟩ (.int .u8 (y : Int))).alloc (.cells #[.slice r k f, .slice (some ⟨g, 0, none⟩) L c2] 22) = W4 := ⟨_, rfl⟩
    have HA4 := Lib.hid (show Below (w2.setCell ⟨g, j, none⟩ (.int .u8 (y : Int))).heap.size (w2.setCell ⟨g, j, none⟩ (.int .u8 (y : Int))) W4 from hW4 ▸ (Below.refl _ _).alloc (Nat.le_refl _) _)
    rw [hW4] at hrow
    rw [hW4]
    have HB4 := Lib.hid (bel_step (bel_step HB1.out (ow_bel HO3.out)) HA4.out)
    have HRR := Lib.hid (rd_keep HB4.out HR.out)
    have HRB := Lib.hid (show RdB W4 (some ⟨g, 0, none⟩) L c2 ((frI X).set j (y : Int)) from rd_keep HA4.out (rd_of_ow HO3.out))
    have c0 : W4.cell? ⟨w2.heap.size, 0, none⟩ = some (.slice r k f) := by rw [row_cell hrow]; rfl
    have HK1 := Lib.hid (show W4.cell? ⟨w2.heap.size, 1, none⟩ = some (.slice (some ⟨g, 0, none⟩) L c2) by rw [row_cell hrow]; rfl)
    clear hrow hW4 hS
    refine wp_loop_rounds 3 ?_
    rw [rounds_succ]
    obtain ⟨E0, hE0⟩ : ∃ E, opE R = E := ⟨_, rfl⟩
    obtain ⟨N0, hN0⟩ : ∃ N, opN R = N := ⟨_, rfl⟩
    obtain ⟨Z0, hZ0⟩ : ∃ Z, opZ R = Z := ⟨_, rfl⟩
    obtain ⟨m0, hm0⟩ : ∃ m, Z0.length = m := ⟨_, rfl⟩
    obtain ⟨s0, hs0⟩ : ∃ s, strB Z0 = s := ⟨_, rfl⟩
    have HC0 := Lib.hid (fun (w : World) (h : RdB w r k f R) => open_any w _ _ _ _ h HBR.out)
    have HD0 := Lib.hid (fun (w : World) (h : RdB w r k f R) => ropen_any w _ _ _ _ h HBR.out)
    rw [hE0, hN0, hZ0, hm0] at HC0 HD0
    have HSS0 := Lib.hid hs0
    clear hE0 hN0 hZ0 hm0 hs0
    have cc0 := c0
    go_wp2_with fail
    go_at_call 22; refine (HC0.out _ (HRR.out)).mono ?_; rintro e w0a ⟨pa0, ca0, rfl, ho0a⟩
    have HO0a := Lib.hid ho0a
    have HBa0 := Lib.hid (ow_bel ho0a)
    clear ho0a cc0
    have HRa0 := Lib.hid (rd_keep HBa0.out (HRR.out))
    go_wp2_with fail
    go_at_call 25; refine (HD0.out _ HRa0.out).mono ?_; rintro e w0b ⟨pb0, cb0, rfl, ho0b⟩
    have HBb0 := Lib.hid (bel_step HBa0.out (ow_bel ho0b))
    have cva0 := rd_string (rd_keep (ow_bel ho0b) (rd_of_ow HO0a.out))
    have cvb0 := rd_string (rd_of_ow ho0b)
    rw [HSS0.out] at cva0 cvb0
    clear ho0b
    go_wp2
    clear cva0 cvb0
    rw [rounds_succ]
    obtain ⟨E1, hE1⟩ : ∃ E, opE ((frI X).set j (y : Int)) = E := ⟨_, rfl⟩
    obtain ⟨N1, hN1⟩ : ∃ N, opN ((frI X).set j (y : Int)) = N := ⟨_, rfl⟩
    obtain ⟨Z1, hZ1⟩ : ∃ Z, opZ ((frI X).set j (y : Int)) = Z := ⟨_, rfl⟩
    obtain ⟨m1, hm1⟩ : ∃ m, Z1.length = m := ⟨_, rfl⟩
    obtain ⟨s1, hs1⟩ : ∃ s, strB Z1 = s := ⟨_, rfl⟩
    have HC1 := Lib.hid (fun (w : World) (h : RdB w (some ⟨g, 0, none⟩) L c2 ((frI X).set j (y : Int))) => open_any w _ _ _ _ h HY.out)
    have HD1 := Lib.hid (fun (w : World) (h : RdB w (some ⟨g, 0, none⟩) L c2 ((frI X).set j (y : Int))) => ropen_any w _ _ _ _ h HY.out)
    rw [hE1, hN1, hZ1, hm1] at HC1 HD1
    have HSS1 := Lib.hid hs1
    clear hE1 hN1 hZ1 hm1 hs1
    have cc1 := cell_keep HBb0.out HK1.out
    go_wp2_with fail
    go_at_call 22; refine (HC1.out _ (rd_keep HBb0.out HRB.out)).mono ?_; rintro e w1a ⟨pa1, ca1, rfl, ho1a⟩
    have HO1a := Lib.hid ho1a
    have HBa1 := Lib.hid (ow_bel ho1a)
    clear ho1a cc1
    have HRa1 := Lib.hid (rd_keep HBa1.out (rd_keep HBb0.out HRB.out))
    go_wp2_with fail
    go_at_call 25; refine (HD1.out _ HRa1.out).mono ?_; rintro e w1b ⟨pb1, cb1, rfl, ho1b⟩
    have HBb1 := Lib.hid (bel_step HBa1.out (ow_bel ho1b))
    have cva1 := rd_string (rd_keep (ow_bel ho1b) (rd_of_ow HO1a.out))
    have cvb1 := rd_string (rd_of_ow ho1b)
    rw [HSS1.out] at cva1 cvb1
    clear ho1b
    go_wp2
    clear cva1 cvb1
    rw [rounds_succ]
    go_wp2
    go_ret
    exact ⟨rfl, bel_step (bel_step HB4.out HBb0.out) HBb1.out⟩
  · -- true
    have hS : (w2.setCell ⟨g, j, none⟩ (.int .u8 (y : Int))).heap.size = w2.heap.size := World.size_setCell _ _ _
    have hrow := row_alloc (w2.setCell ⟨g, j, none⟩ (.int .u8 (y : Int))) #[.slice r k f, .slice (some ⟨g, 0, none⟩) j c2] 22
    rw [hS] at hrow
    obtain ⟨W4, hW4⟩ : ∃ W4, (w2.setCell ⟨g, j, none⟩ (.int .u8 (y : Int))).alloc (.cells #[.slice r k f, .slice (some ⟨g, 0, none⟩) j c2] 22) = W4 := ⟨_, rfl⟩
    have HA4 := Lib.hid (show Below (w2.setCell ⟨g, j, none⟩ (.int .u8 (y : Int))).heap.size (w2.setCell ⟨g, j, none⟩ (.int .u8 (y : Int))) W4 from hW4 ▸ (Below.refl _ _).alloc (Nat.le_refl _) _)
    rw [hW4] at hrow
    rw [hW4]
    have HB4 := Lib.hid (bel_step (bel_step HB1.out (ow_bel HO3.out)) HA4.out)
    have HRR := Lib.hid (rd_keep HB4.out HR.out)
    have HRB := Lib.hid (show RdB W4 (some ⟨g, 0, none⟩) j c2 (((frI X).set j (y : Int)).take j) from rd_keep HA4.out (rd_take (rd_of_ow HO3.out) (by omega)))
    have c0 : W4.cell? ⟨w2.heap.size, 0, none⟩ = some (.slice r k f) := by rw [row_cell hrow]; rfl
    have HK1 := Lib.hid (show W4.cell? ⟨w2.heap.size, 1, none⟩ = some (.slice (some ⟨g, 0, none⟩) j c2) by rw [row_cell hrow]; rfl)
    clear hrow hW4 hS
    refine wp_loop_rounds 3 ?_
    rw [rounds_succ]
    obtain ⟨E0, hE0⟩ : ∃ E, opE R = E := ⟨_, rfl⟩
    obtain ⟨N0, hN0⟩ : ∃ N, opN R = N := ⟨_, rfl⟩
    obtain ⟨Z0, hZ0⟩ : ∃ Z, opZ R = Z := ⟨_, rfl⟩
    obtain ⟨m0, hm0⟩ : ∃ m, Z0.length = m := ⟨_, rfl⟩
    obtain ⟨s0, hs0⟩ : ∃ s, strB Z0 = s := ⟨_, rfl⟩
    have HC0 := Lib.hid (fun (w : World) (h : RdB w r k f R) => open_any w _ _ _ _ h HBR.out)
    have HD0 := Lib.hid (fun (w : World) (h : RdB w r k f R) => ropen_any w _ _ _ _ h HBR.out)
    rw [hE0, hN0, hZ0, hm0] at HC0 HD0
    have HSS0 := Lib.hid hs0
    clear hE0 hN0 hZ0 hm0 hs0
    have cc0 := c0
    go_wp2_with fail
    go_at_call 22; refine (HC0.out _ (HRR.out)).mono ?_; rintro e w0a ⟨pa0, ca0, rfl, ho0a⟩
    have HO0a := Lib.hid ho0a
    have HBa0 := Lib.hid (ow_bel ho0a)
    clear ho0a cc0
    have HRa0 := Lib.hid (rd_keep HBa0.out (HRR.out))
    go_wp2_with fail
    go_at_call 25; refine (HD0.out _ HRa0.out).mono ?_; rintro e w0b ⟨pb0, cb0, rfl, ho0b⟩
    have HBb0 := Lib.hid (bel_step HBa0.out (ow_bel ho0b))
    have cva0 := rd_string (rd_keep (ow_bel ho0b) (rd_of_ow HO0a.out))
    have cvb0 := rd_string (rd_of_ow ho0b)
    rw [HSS0.out] at cva0 cvb0
    clear ho0b
    go_wp2
    clear cva0 cvb0
    rw [rounds_succ]
    obtain ⟨E1, hE1⟩ : ∃ E, opE (((frI X).set j (y : Int)).take j) = E := ⟨_, rfl⟩
    obtain ⟨N1, hN1⟩ : ∃ N, opN (((frI X).set j (y : Int)).take j) = N := ⟨_, rfl⟩
    obtain ⟨Z1, hZ1⟩ : ∃ Z, opZ (((frI X).set j (y : Int)).take j) = Z := ⟨_, rfl⟩
    obtain ⟨m1, hm1⟩ : ∃ m, Z1.length = m := ⟨_, rfl⟩
    obtain ⟨s1, hs1⟩ : ∃ s, strB Z1 = s := ⟨_, rfl⟩
    have HC1 := Lib.hid (fun (w : World) (h : RdB w (some ⟨g, 0, none⟩) j c2 (((frI X).set j (y : Int)).take j)) => open_any w _ _ _ _ h (by_take HY.out j))
    have HD1 := Lib.hid (fun (w : World) (h : RdB w (some ⟨g, 0, none⟩) j c2 (((frI X).set j (y : Int)).take j)) => ropen_any w _ _ _ _ h (by_take HY.out j))
    rw [hE1, hN1, hZ1, hm1] at HC1 HD1
    have HSS1 := Lib.hid hs1
    clear hE1 hN1 hZ1 hm1 hs1
    have cc1 := cell_keep HBb0.out HK1.out
    go_wp2_with fail
    go_at_call 22; refine (HC1.out _ (rd_keep HBb0.out HRB.out)).mono ?_; rintro e w1a ⟨pa1, ca1, rfl, ho1a⟩
    have HO1a := Lib.hid ho1a
    have HBa1 := Lib.hid (ow_bel ho1a)
    clear ho1a cc1
    have HRa1 := Lib.hid (rd_keep HBa1.out (rd_keep HBb0.out HRB.out))
    go_wp2_with fail
    go_at_call 25; refine (HD1.out _ HRa1.out).mono ?_; rintro e w1b ⟨pb1, cb1, rfl, ho1b⟩
    have HBb1 := Lib.hid (bel_step HBa1.out (ow_bel ho1b))
    have cva1 := rd_string (rd_keep (ow_bel ho1b) (rd_of_ow HO1a.out))
    have cvb1 := rd_string (rd_of_ow ho1b)
    rw [HSS1.out] at cva1 cvb1
    clear ho1b
    go_wp2
    clear cva1 cvb1
    rw [rounds_succ]
    go_wp2
    go_ret
    exact ⟨rfl, bel_step (bel_step HB4.out HBb0.out) HBb1.out⟩
set_option maxRecDepth 100000 in
set_option maxHeartbeats 4000000 in
theorem reads_out (w : World) (p r : Option Addr) (l c k f : Nat) (a b : Int) (cut : Bool) (h1 : l ≤ c) (h2 : c ≤ maxLen) (h5 : k ≤ f) (h6 : f ≤ maxLen) (h : 300 < l ∨ 300 < k) :
    Calls Try.prog 6 #[.slice r k f, .slice p l c, .int .u16 a, .int .u8 b, .bool cut] w fun e w' => e = .returned (.bool true) ∧ Below w.heap.size w w' := by
  unfold maxLen at h2 h6
  by_cases k1 : 300 < l <;> by_cases k2 : 300 < k
  all_goals first
    | (exfalso; omega)
    | (clear h
       go_enter Try.func6, Try.ntmps6
       go_wp2_with fail
       go_at_call 19; refine (known4_any _).mono ?_; rintro e w1 ⟨rfl, hb1⟩
       have HB1 := Lib.hid hb1
       clear hb1
       go_wp2
       all_goals (go_ret; exact ⟨rfl, HB1.out⟩))
end Num
end Go.Proofs.Ythjjakpjanoamaa
