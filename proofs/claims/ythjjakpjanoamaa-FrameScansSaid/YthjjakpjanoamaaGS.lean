/-
  FrameSums: the walk.
-/
import Derived.Test.YthjjakpjanoamaaFM
namespace Go.Proofs.Ythjjakpjanoamaa
open Go.RowKit
namespace Num
open Ints
set_option linter.unusedSimpArgs false
set_option linter.unusedVariables false
/-- Where what is owned lies. -/
theorem ow_some {W0 w : World} {p : Option Addr} {l c : Nat} {X : List Int} (h : OwB W0 w p l c X) (hl : 0 < l) : ∃ g cur, p = some ⟨g, 0, none⟩ ∧ w.heap[g]? = some (.cells cur 5 (0, 0)) ∧ W0.heap.size ≤ g ∧ cur.size = c ∧ l ≤ c ∧ cur.toList.take l = X.map (Value.int .u8) := by
  obtain ⟨h1, h2, h3, h4⟩ := h
  rcases h2.2 with ⟨_, h0⟩ | ⟨g, cap, cur, hv, hbg, hg, hnc, hcm, hcs, htake⟩
  · omega
  · injection hv with e1 e2 e3
    subst e1 e3
    rw [Nat.mul_one] at hcs htake
    exact ⟨g, cur, rfl, hg, hbg, hcs, hnc, htake⟩
theorem cells_set {w : World} {g j : Nat} {cur : Array Value} {t : TypeId} (h : w.heap[g]? = some (.cells cur t (0, 0))) (v : Value) : (w.setCell ⟨g, j, none⟩ v).heap[g]? = some (.cells (cur.setIfInBounds j v) t (0, 0)) := by
  rw [setCell_eq_setRow w g j cur t (0, 0) v h]
  exact setRow_heap w g _ _ t _ h
/-- A byte of what is owned is set. -/
theorem ow_set {W0 w : World} {g l c j : Nat} {X : List Int} (h : OwB W0 w (some ⟨g, 0, none⟩) l c X) (hj : j < l) (y : Int) : OwB W0 (w.setCell ⟨g, j, none⟩ (.int .u8 y)) (some ⟨g, 0, none⟩) l c (X.set j y) := by
  obtain ⟨g', cur, e, hg, hW, hcs, hlc, htk⟩ := ow_some h (by omega)
  cases e
  obtain ⟨h1, h2, h3, h4⟩ := h
  have hcm : c ≤ maxLen := by
    rcases h2.2 with ⟨_, h0⟩ | ⟨g, cap, cur, hv, hbg, hg, hnc, hcm, hcs, htake⟩
    · omega
    · injection hv with e1 e2 e3; subst e3; exact hcm
  have hb := h3.setCell (p := ⟨g, j, none⟩) hW (.int .u8 y)
  refine ⟨by rw [List.length_set]; exact h1, ⟨by rw [List.length_map, List.length_set]; omega, Or.inr ⟨g, c, cur.setIfInBounds j (.int .u8 y), rfl, hW, cells_set hg _, hlc, hcm, by rw [Array.size_setIfInBounds]; omega, ?_⟩⟩, hb, hb.size⟩
  rw [Nat.mul_one, Array.toList_setIfInBounds, List.take_set, htk, List.map_set]
theorem x8_nat {a b : Nat} (ha : a < 256) (hb : b < 256) : bits .xor .u8 (a : Int) (b : Int) = ((a ^^^ b : Nat) : Int) := by
  have h : (BitVec.ofInt 8 (a : Int) ^^^ BitVec.ofInt 8 (b : Int)).toNat = a ^^^ b := by
    rw [BitVec.toNat_xor, BitVec.toNat_ofInt, BitVec.toNat_ofInt]
    have e1 : ((a : Int) % ((2 ^ 8 : Nat) : Int)).toNat = a := by omega
    have e2 : ((b : Int) % ((2 ^ 8 : Nat) : Int)).toNat = b := by omega
    rw [e1, e2]
  show IntKind.u8.wrap (((BitVec.ofInt 8 (a : Int) ^^^ BitVec.ofInt 8 (b : Int)).toNat : Nat) : Int) = _
  rw [h]
  have hl : a ^^^ b < 256 := Nat.xor_lt_two_pow (n := 8) ha hb
  have e : IntKind.u8.bits = 8 := rfl
  unfold IntKind.wrap
  simp only [IntKind.signed, e]
  simp
  omega
/-- A bit of a byte turned, as the walk spells it. -/
theorem turn_walk {x : Nat} (bit : Nat) (hx : x < 256) : ∃ y : Nat, bits .xor .u8 (x : Int) ((2 : Int) ^ (bit % 8) % 256) = (y : Int) ∧ y < 256 ∧ y ≠ x := by
  have hk : bit % 8 < 8 := Nat.mod_lt _ (by decide)
  have h := turn_ne hx hk
  have hp : 2 ^ (bit % 8) < 256 := Nat.pow_lt_pow_right (n := 8) (by decide) hk
  have e : ((2 : Int) ^ (bit % 8) % 256) = ((2 ^ (bit % 8) : Nat) : Int) := by
    rw [Int.natCast_pow]
    have hp' : ((2 : Nat) : Int) ^ (bit % 8) < 256 := by rw [← Int.natCast_pow]; omega
    have h0 : (0 : Int) ≤ ((2 : Nat) : Int) ^ (bit % 8) := by rw [← Int.natCast_pow]; exact Int.natCast_nonneg _
    exact Int.emod_eq_of_lt h0 hp'
  rw [e, x8_nat hx hp]
  exact ⟨_, rfl, h.2, h.1⟩
set_option maxRecDepth 100000 in
set_option maxHeartbeats 4000000 in
theorem sums_some (w : World) (b off l c : Nat) (X : List Int) (at' bit : Nat) (hb : RdB w (some ⟨b, off, none⟩) l c X) (hX : By X) (ha : at' < 65536) (hbit : bit < 256) (hl0 : 0 < l) (hl : l ≤ 500) :
    Calls Try.prog 9 #[.slice (some ⟨b, off, none⟩) l c, .int .u16 at', .int .u8 bit] w fun e w' => e = .returned (.bool true) ∧ Below w.heap.size w w' := by
  have HB := Lib.hid hb
  have HX := Lib.hid hX
  obtain ⟨j, hje⟩ : ∃ j, at' % l = j := ⟨_, rfl⟩
  have hjl : j < l := by rw [← hje]; exact Nat.mod_lt _ hl0
  have hjX : j < X.length := by rw [hb.1]; exact hjl
  obtain ⟨hx0, hx1⟩ := hX _ (List.getElem_mem hjX)
  obtain ⟨x, hx⟩ : ∃ x : Nat, X[j] = (x : Int) := ⟨X[j].toNat, by omega⟩
  rw [hx] at hx0 hx1
  have HXJ := Lib.hid hx
  obtain ⟨y, hyb, hy256, hyx⟩ := turn_walk bit (show x < 256 by omega)
  have hne := crcI_set hX j hjX (y : Int) (by omega) (by omega) (by rw [hx]; omega)
  have HY := Lib.hid (show By (X.set j (y : Int)) from fun z hz => by
    rcases List.mem_or_eq_of_mem_set hz with h | h
    · exact hX z h
    · rw [h]; omega)
  obtain ⟨s, hs⟩ : ∃ s, crcI X = s := ⟨_, rfl⟩
  obtain ⟨t, ht⟩ : ∃ t, crcI (X.set j (y : Int)) = t := ⟨_, rfl⟩
  rw [hs, ht] at hne
  have hts : (t != s) = true := by simpa using hne
  have HS := Lib.hid hs
  have HT := Lib.hid ht
  have hji : ((at' : Int) % (l : Int)) = (j : Int) := by omega
  clear hb hX hje hx hs ht hne hy256 hyx
  have hg : (decide ((500 : Int) < (l : Int)) || ((l : Int) == 0)) = false := by simp; omega
  go_enter Try.func9, Try.ntmps9
  go_wp2_with fail
  go_at_call 19; refine (known4_any _).mono ?_; rintro e w1 ⟨rfl, hb1⟩
  have HB1 := Lib.hid hb1
  have HR1 := Lib.hid (rd_keep hb1 HB.out)
  clear hb1
  go_wp2_with fail
  go_at_call 23; refine (sum_any w1 _ l c X HR1.out HX.out (by omega)).mono ?_; rintro e w2 ⟨rfl, rfl⟩
  rw [HS.out]
  go_wp2_with (at_builtin; first
    | (refine wp_obR rfl _ _ rfl w1 w1 none 0 0 [] (some ⟨b, off, none⟩) l c X rfl rfl (ow_nil w1) HR1.out (by omega) (by omega) ?_
       intro p2 c2 w2 ho2 _
       obtain ⟨g, cur, rfl, hg2, hW2, hcs, hlc2, htk⟩ := ow_some ho2 (by omega)
       have HO2 := Lib.hid (show OwB w1 w2 (some ⟨g, 0, none⟩) l c2 X by have h := ho2; rw [Nat.zero_add, List.nil_append] at h; exact h)
       have hc2 : w2.cell? ⟨g, j, none⟩ = some (.int .u8 (x : Int)) := by
         obtain ⟨b', off', e, h⟩ := (rd_of_ow HO2.out).2.2.2.1 (by omega)
         cases e
         have := h j hjX
         rw [Nat.zero_add] at this
         rw [this, HXJ.out]
       have hf2 := row_frz hg2 j
       have hcc : l ≤ c2 := by have := (rd_of_ow HO2.out).2.1; omega
       clear ho2 hg2 hcs htk hlc2))
  have HO3 := Lib.hid (ow_set HO2.out hjl (y : Int))
  go_at_call 24; refine (rsum_any _ _ l c X (rd_keep (ow_bel HO3.out) HR1.out) HX.out (by omega)).mono ?_; rintro e w4 ⟨rfl, rfl⟩
  rw [HS.out]
  go_wp2_with fail
  go_at_call 23; refine (sum_any _ _ l c2 (X.set j (y : Int)) (rd_of_ow HO3.out) HY.out (by omega)).mono ?_; rintro e w4 ⟨rfl, rfl⟩
  rw [HT.out]
  go_wp2_with fail
  go_at_call 24; refine (rsum_any _ _ l c2 (X.set j (y : Int)) (rd_of_ow HO3.out) HY.out (by omega)).mono ?_; rintro e w4 ⟨rfl, rfl⟩
  rw [HT.out]
  go_wp2_with fail
  go_at_call 23; refine (sum_any _ _ l c2 (X.set j (y : Int)) (rd_of_ow HO3.out) HY.out (by omega)).mono ?_; rintro e w4 ⟨rfl, rfl⟩
  rw [HT.out]
  go_wp2
  go_ret
  exact ⟨rfl, bel_step HB1.out (ow_bel HO3.out)⟩
set_option maxRecDepth 100000 in
set_option maxHeartbeats 4000000 in
theorem sums_out (w : World) (p : Option Addr) (l c : Nat) (a b : Int) (hlc : l ≤ c) (hc : c ≤ maxLen) (hl : l = 0 ∨ 500 < l) :
    Calls Try.prog 9 #[.slice p l c, .int .u16 a, .int .u8 b] w fun e w' => e = .returned (.bool true) ∧ Below w.heap.size w w' := by
  unfold maxLen at hc
  have hg : (decide ((500 : Int) < (l : Int)) || ((l : Int) == 0)) = true := by simp; omega
  clear hl
  go_enter Try.func9, Try.ntmps9
  go_wp2_with fail
  go_at_call 19; refine (known4_any _).mono ?_; rintro e w1 ⟨rfl, hb1⟩
  have HB1 := Lib.hid hb1
  clear hb1
  go_wp2
  all_goals
    go_ret
    exact ⟨rfl, HB1.out⟩
end Num
end Go.Proofs.Ythjjakpjanoamaa
