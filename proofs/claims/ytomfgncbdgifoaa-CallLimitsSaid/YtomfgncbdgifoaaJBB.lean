/-
  Bytes of a slice of the call's own: one set, some cut off (also in FG, GS, GR: import one or the other).
-/
import Derived.Test.YtomfgncbdgifoaaJp8UA
import Derived.Laws.CopyOwn
namespace Go.Proofs.Ytomfgncbdgifoaa
open Go.RowKit
namespace Num
open Ints
set_option linter.unusedSimpArgs false
set_option linter.unusedVariables false
theorem ow_some {W0 w : World} {p : Option Addr} {l c : Nat} {X : List Int} (h : OwB W0 w p l c X) (hl : 0 < l) : ∃ g cur, p = some ⟨g, 0, none⟩ ∧ w.heap[g]? = some (.cells cur 5 (0, 0)) ∧ W0.heap.size ≤ g ∧ cur.size = c ∧ l ≤ c ∧ cur.toList.take l = X.map (Value.int .u8) := by
  obtain ⟨h1, h2, h3, h4⟩ := h
  rcases h2.2 with ⟨_, h0⟩ | ⟨g, cap, cur, hv, hbg, hg, hnc, hcm, hcs, htake⟩
  · omega
  · injection hv with e1 e2 e3
    subst e1 e3
    rw [Nat.mul_one] at hcs htake
    exact ⟨g, cur, rfl, hg, hbg, hcs, hnc, htake⟩
theorem cells_set {w : World} {g j : Nat} {cur : Array Value} {t : TypeId} (h : w.heap[g]? = some (.cells cur t (0, 0))) (v : Value) : (w.setCell ⟨g, j, none⟩ v).heap[g]? = some (.cells (cur.setIfInBounds j v) t (0, 0)) := by
  rw [setCell_eq_setRow w g j cur t (0, 0) v h]
  exact setRow_heap w g _ _ t _ h
theorem ow_set {W0 w : World} {g l c j : Nat} {X : List Int} (h : OwB W0 w (some ⟨g, 0, none⟩) l c X) (hj : j < l) (y : Int) : OwB W0 (w.setCell ⟨g, j, none⟩ (.int .u8 y)) (some ⟨g, 0, none⟩) l c (X.set j y) := by
  obtain ⟨g', cur, e, hg, hW, hcs, hlc, htk⟩ := ow_some h (by omega)
  cases e
  obtain ⟨h1, h2, h3, h4⟩ := h
  have hcm : c ≤ maxLen := by
    rcases h2.2 with ⟨_, h0⟩ | ⟨g, cap, cur, hv, hbg, hg, hnc, hcm, hcs, htake⟩
    · omega
    · injection hv with e1 e2 e3; subst e3; exact hcm
  have hb := h3.setCell (p := ⟨g, j, none⟩) hW (.int .u8 y)
  refine ⟨by rw [List.length_set]; exact h1, ⟨by rw [List.length_map, List.length_set]; omega, Or.inr ⟨g, c, cur.setIfInBounds j (.int .u8 y), rfl, hW, cells_set hg _, hlc, hcm, by rw [Array.size_setIfInBounds]; omega, ?_⟩⟩, hb, hb.size⟩
  rw [Nat.mul_one, Array.toList_setIfInBounds, List.take_set, htk, List.map_set]
theorem x8_nat {a b : Nat} (ha : a < 256) (hb : b < 256) : bits .xor .u8 (a : Int) (b : Int) = ((a ^^^ b : Nat) : Int) := by
  have h : (BitVec.ofInt 8 (a : Int) ^^^ BitVec.ofInt 8 (b : Int)).toNat = a ^^^ b := by
    rw [BitVec.toNat_xor, BitVec.toNat_ofInt, BitVec.toNat_ofInt]
    have e1 : ((a : Int) % ((2 ^ 8 : Nat) : Int)).toNat = a := by omega
    have e2 : ((b : Int) % ((2 ^ 8 : Nat) : Int)).toNat = b := by omega
    rw [e1, e2]
  show IntKind.u8.wrap (((BitVec.ofInt 8 (a : Int) ^^^ BitVec.ofInt 8 (b : Int)).toNat : Nat) : Int) = _
  rw [h]
  have hl : a ^^^ b < 256 := Nat.xor_lt_two_pow (n := 8) ha hb
  have e : IntKind.u8.bits = 8 := rfl
  unfold IntKind.wrap
  simp only [IntKind.signed, e]
  simp
  omega
theorem rd_take {w : World} {p : Option Addr} {l c k : Nat} {X : List Int} (h : RdB w p l c X) (hk : k ≤ l) : RdB w p k c (X.take k) := by
  obtain ⟨h1, h2, h3, h4, h5⟩ := h
  refine ⟨by rw [List.length_take]; omega, by omega, h3, fun hm => ?_, h5⟩
  obtain ⟨b, off, e, hc⟩ := h4 (by omega)
  refine ⟨b, off, e, fun i hi => ?_⟩
  rw [List.getElem_take]
  exact hc i (by rw [List.length_take] at hi; omega)
theorem by_setB {X : List Int} {j : Nat} {y : Int} (h : By X) (hy : 0 ≤ y ∧ y < 256) : By (X.set j y) := fun z hz => by
  rcases List.mem_or_eq_of_mem_set hz with h' | h'
  · exact h z h'
  · rw [h']; exact hy
theorem xor_walk {a b : Nat} (ha : a < 256) (hb : b < 256) : ∃ y : Nat, bits .xor .u8 (a : Int) (b : Int) = (y : Int) ∧ y < 256 := by
  rw [x8_nat ha hb]
  exact ⟨_, rfl, Nat.xor_lt_two_pow (n := 8) ha hb⟩
end Num
end Go.Proofs.Ytomfgncbdgifoaa
