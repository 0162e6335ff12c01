/-
  Package dedup's forget.
-/
import Derived.Test.YtijfgmhdkflfmaaSj
import Derived.RegionTactic
import Derived.Deep.RegionWith
import Derived.Deep.RegionLaw
import Derived.Deep.LoopGhost
namespace Go.Proofs.Ytijfgmhdkflfmaa
open Go.RowKit
namespace Num
open Ints
set_option linter.unusedSimpArgs false
set_option linter.unusedVariables false
theorem flat3 : ∀ (l : List DId) (m : Nat) (x : DId), l[m]? = some x → (l.flatMap didC)[m * 3]? = some (.int .u32 x.1) ∧ (l.flatMap didC)[m * 3 + 1]? = some (.int .u32 x.2.1) ∧ (l.flatMap didC)[m * 3 + 2]? = some (.int .u16 x.2.2)
  | [], m, y, h => by cases h
  | x :: L, 0, y, h => by
    obtain rfl : x = y := by simpa using h
    exact ⟨rfl, rfl, rfl⟩
  | x :: L, m + 1, y, h => by
    have ih := flat3 L m y (by simpa using h)
    rw [show (m + 1) * 3 = m * 3 + 3 by omega, List.flatMap_cons]
    exact ⟨ih.1, ih.2.1, ih.2.2⟩
def set3 (w : World) (g : Nat) (a0 a1 a2 : Value) : World := ((w.setCell ⟨g, 0, none⟩ a0).setCell ⟨g, 1, none⟩ a1).setCell ⟨g, 2, none⟩ a2
theorem set3_other {w : World} {g k : Nat} (hne : k ≠ g) (a0 a1 a2 : Value) : (set3 w g a0 a1 a2).heap[k]? = w.heap[k]? := by
  unfold set3
  iterate 3 rw [Below.heap_setCell _ _ _ _ hne]
theorem set3_at {w : World} {g : Nat} {b0 b1 b2 : Value} {t : TypeId} (h : w.heap[g]? = some (.cells #[b0, b1, b2] t (0, 0))) (a0 a1 a2 : Value) : (set3 w g a0 a1 a2).heap[g]? = some (.cells #[a0, a1, a2] t (0, 0)) := by
  simp [set3, World.setCell, Array.getElem?_modify, h]
theorem delR_snoc {n : Nat} (R : List (RE n)) (l : List DId) (x : DId) : delR R (l ++ [x]) = (delR R l).eraseP (fun r => decide (x = r.x)) := by
  unfold delR
  rw [List.foldl_append]
  rfl
/-- A builtin's call whose run is known, as a step of a region that draws. -/
theorem step_del {P : Program} {ops : Array Oper} {o : Oper} {a : Act} {w : World} {K : Act → World → Prop} {Q : Exit → Act → World → Prop} {E : Prop} (hg : o.guard = none) (d x : Operand) (dT sT : TypeId)
    (hop : o.op = .call { callee := .builtin .delete, args := #[d, x], argTypes := #[dT, sT] }) (v u : Value) (hd : a.eval d = v) (hx : a.eval x = u) {v' : Value} {w' : World} (hr : (Builtin.delete_ #[dT, sT] o.type #[v, u]).run P w = .ok v' w') (hK : K (a.put o.dst v') w') :
    if Region.wanted o (yielded ops a.tmps) = true then Oper.wp P o a w K Q else E := by
  have hw : Region.wanted o (yielded ops a.tmps) = true := by simp [Region.wanted, hg]
  rw [if_pos hw]
  unfold Oper.wp
  simp [execOp, hop, resolve, invoke, builtin, hd, hx, hr, Result.andThen]
  exact hK
set_option maxRecDepth 100000 in
set_option maxHeartbeats 4000000 in
theorem forget_any (n : Nat) (w : World) (tb mr mc : Nat) (R : List (RE n)) (s : Int) (ib ic : Nat) (ids : List DId) (ht : w.heap[tb]? = some (.cells #[.map (some mr), .map (some mc)] 62 (0, 0))) (hre : ∃ es ck, w.heap[mr]? = some (.map es ck) ∧ KvR es ck R) (hi : w.ownsRow 0 40 3 (.slice (some ⟨ib, 0, none⟩) ids.length ic) ids.length (ids.flatMap didC)) (hl : ids.length ≤ 1000000) :
    Calls Try.prog 36 #[.pointer (some ⟨tb, 0, none⟩), .agg #[.int .u32 s, .slice (some ⟨ib, 0, none⟩) ids.length ic]] w fun e w' => e = .returned (.tuple #[]) ∧ (∃ es ck, w'.heap[mr]? = some (.map es ck) ∧ KvR es ck (delR R ids)) ∧ w.grownBy w' (some mr) := by
  obtain ⟨es0, ck0, hm0, hf0⟩ := hre
  have htm := ne_map ht hm0
  obtain ⟨ci, hci⟩ := own_block hi
  have him := ne_map hci hm0
  obtain ⟨m, hm⟩ : ∃ m, ids.length = m := ⟨_, rfl⟩
  have HT := Lib.hid ht
  have HI := Lib.hid (fun j v (hj : (ids.flatMap didC)[j]? = some v) => own_cell hi j v hj)
  have HM := Lib.hid hm
  have HN := Lib.hid (And.intro htm him)
  have HR0 := Lib.hid (show (∃ es ck, (w.alloc (.cells #[.int .u32 s, .slice (some ⟨ib, 0, none⟩) m ic] 79)).heap[mr]? = some (.map es ck) ∧ KvR es ck (delR R (ids.take 0))) ∧ w.grownBy (w.alloc (.cells #[.int .u32 s, .slice (some ⟨ib, 0, none⟩) m ic] 79)) (some mr) from ⟨⟨es0, ck0, row_alloc_step hm0 _, hf0⟩, World.grownBy_alloc _ _ _⟩)
  have hc := row_cell (row_alloc w #[.int .u32 s, .slice (some ⟨ib, 0, none⟩) m ic] 79) 1
  simp only [List.getElem?_toArray, List.getElem?_cons_zero, List.getElem?_cons_succ] at hc
  rw [hm] at hl ⊢
  clear ht hi hm0 hf0 htm hci him hm
  go_enter Try.func36, Try.ntmps36
  go_wp2
  go_loopw [9] (fun iv wr => ∃ i : Nat, i ≤ m ∧ iv = .int .i64 i ∧ (∃ es ck, wr.heap[mr]? = some (.map es ck) ∧ KvR es ck (delR R (ids.take i))) ∧ w.grownBy wr (some mr)) (fun i _ => m - (intOf i).toNat)
  case atStart => exact ⟨0, Nat.zero_le _, rfl, HR0.out.1, HR0.out.2⟩
  case round =>
    obtain ⟨i, him, rfl, ⟨es, ck, hes, hkv⟩, hgb⟩ := hrel
    by_cases hlt : i < m
    · obtain ⟨x, hx⟩ : ∃ x, ids[i]? = some x := ⟨ids[i]'(by have := HM.out; omega), List.getElem?_eq_getElem _⟩
      obtain ⟨x0, x1, x2⟩ := x
      obtain ⟨f0, f1, f2⟩ := flat3 ids i _ hx
      have k0 := HI.out _ _ f0; have k1 := HI.out _ _ f1; have k2 := HI.out _ _ f2
      have hibl : ib < w.heap.size := cell_lt k0
      have hbi := hgb.block ib hibl (by have := HN.out.2; exact fun e => this (by injection e))
      have hbt := (hgb.block tb (row_lt HT.out) (by have := HN.out.1; exact fun e => this (by injection e))).trans HT.out
      have j0 := (World.cell?_of_block (a := ⟨ib, i * 3, none⟩) hbi).trans k0
      have j1 := (World.cell?_of_block (a := ⟨ib, i * 3 + 1, none⟩) hbi).trans k1
      have j2 := (World.cell?_of_block (a := ⟨ib, i * 3 + 2, none⟩) hbi).trans k2
      obtain ⟨w1, hw1⟩ : ∃ W, wr.alloc (.cells #[.int .u32 0, .int .u32 0, .int .u16 0] 40) = W := ⟨_, rfl⟩
      obtain ⟨g, hg⟩ : ∃ g, wr.heap.size = g := ⟨_, rfl⟩
      have hg1 : w1.heap[g]? = some (.cells #[.int .u32 0, .int .u32 0, .int .u16 0] 40 (0, 0)) := by rw [← hw1, ← hg]; exact row_alloc _ _ _
      obtain ⟨y, hy⟩ : ∃ y, set3 w1 g (.int .u32 x0) (.int .u32 x1) (.int .u16 x2) = y := ⟨_, rfl⟩
      have hyo : ∀ k, k < g → y.heap[k]? = wr.heap[k]? := fun k hk => by rw [← hy, set3_other (by omega), ← hw1]; exact Below.heap_alloc _ _ _ (by omega)
      have hyg : y.heap[g]? = some (.cells #[.int .u32 x0, .int .u32 x1, .int .u16 x2] 40 (0, 0)) := by rw [← hy]; exact set3_at hg1 _ _ _
      have hys : g ≤ y.heap.size := by have := row_lt hyg; omega
      have hyq : y.os = wr.os ∧ y.tape = wr.tape ∧ y.output = wr.output := by rw [← hy, ← hw1]; exact ⟨rfl, rfl, rfl⟩
      have hmg : mr < g := by rw [← hg]; exact row_lt hes
      obtain ⟨es', hdel, hkv'⟩ := del_did y.drew mr es ck 0 (delR R (ids.take i)) (x0, x1, x2) ((hyo mr hmg).trans hes) hkv
      have htk : delR R (ids.take (i + 1)) = (delR R (ids.take i)).eraseP (fun r => decide ((x0, x1, x2) = r.x)) := by rw [List.take_add_one, hx, Option.toList_some, delR_snoc]
      have HNX := Lib.hid (show (∃ es2 ck2, (mpD y.drew mr es' ck).heap[mr]? = some (.map es2 ck2) ∧ KvR es2 ck2 (delR R (ids.take (i + 1)))) ∧ w.grownBy (mpD y.drew mr es' ck) (some mr) from ⟨⟨es', ck, mpD_at (w := y.drew) ((hyo mr hmg).trans hes) _ _, by rw [htk]; exact hkv'⟩, ⟨hyq.1.trans hgb.os, hyq.2.1.trans hgb.tape, hyq.2.2.trans hgb.output, by
        show w.heap.size ≤ (y.heap.setIfInBounds mr _).size
        rw [Array.size_setIfInBounds]
        have := hgb.size
        omega, fun k hk hne => (mpD_other (w := y.drew) (fun e => hne (by rw [e])) _ _).trans ((hyo k (by have := hgb.size; omega)).trans (hgb.block k hk hne))⟩⟩)
      have y0 := row_cell hyg 0; have y1 := row_cell hyg 1; have y2 := row_cell hyg 2
      simp only [List.getElem?_toArray, List.getElem?_cons_zero, List.getElem?_cons_succ] at y0 y1 y2
      have z0 := row_cell hg1 0; have z1 := row_cell hg1 1; have z2 := row_cell hg1 2
      simp only [List.getElem?_toArray, List.getElem?_cons_zero, List.getElem?_cons_succ] at z0 z1 z2
      have zf := fun o => row_frz hg1 o
      have t0 := row_cell ((hyo tb (by rw [← hg]; exact row_lt hbt)).trans hbt) 0
      simp only [List.getElem?_toArray, List.getElem?_cons_zero, List.getElem?_cons_succ] at t0
      have hj : ∀ o, w1.cell? ⟨ib, o, none⟩ = wr.cell? ⟨ib, o, none⟩ := fun o => World.cell?_of_block (a := ⟨ib, o, none⟩) (by rw [← hw1]; exact Below.heap_alloc _ _ _ (by show ib < wr.heap.size; have := hgb.size; omega))
      have i0 := (hj _).trans j0; have i1 := (hj _).trans j1; have i2 := (hj _).trans j2
      have HY := Lib.hid hy
      have hltI : (i : Int) < (m : Int) := by omega
      clear f0 f1 f2 k0 k1 k2 hibl hbi hbt hg1 hyo hyg hys hyq hkv hkv' htk hj hgb hes hy hx
      go_wp2
      rw [show ((w1.setCell ⟨g, 0, none⟩ (.int .u32 x0)).setCell ⟨g, 1, none⟩ (.int .u32 x1)).setCell ⟨g, 2, none⟩ (.int .u16 x2) = y from HY.out]
      clear HY z0 z1 z2 zf i0 i1 i2 j0 j1 j2 hw1
      go_region_law (refine step_del (by rfl) _ _ 59 40 (by rfl) _ _ (by rfl) (by rfl) hdel ?_)
      all_goals
        go_wp2
        go_roundw
        case rel => exact ⟨i + 1, by omega, by go_num, HNX.out.1, HNX.out.2⟩
        case measure => simp [intOf]; omega
    · obtain rfl : i = m := by omega
      have HE := Lib.hid (show (∃ es ck, wr.heap[mr]? = some (.map es ck) ∧ KvR es ck (delR R ids)) ∧ w.grownBy wr (some mr) from ⟨⟨es, ck, hes, by rw [List.take_of_length_le (by have := HM.out; omega)] at hkv; exact hkv⟩, hgb⟩)
      clear hes hkv hgb
      go_wp2
      refine bodyPost_end (results_none rfl _ _ _) rfl ?_
      exact ⟨rfl, HE.out.1, HE.out.2⟩
end Num
end Go.Proofs.Ytijfgmhdkflfmaa
