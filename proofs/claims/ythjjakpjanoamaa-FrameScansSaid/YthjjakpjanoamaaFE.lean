/-
  slices.Concat of four byte slices; appends of zeros.
-/
import Derived.Test.YthjjakpjanoamaaUB
import Derived.Lib.AppendZeros
import Derived.Outline
namespace Go.Proofs.Ythjjakpjanoamaa
open Go.RowKit
namespace Num
open Ints
set_option linter.unusedSimpArgs false
set_option linter.unusedVariables false
theorem zeros_list (m : Nat) : (Builtin.zeroCells (Value.int .u8 0).cells m).toList = (List.replicate m (0 : Int)).map (Value.int .u8) := by
  unfold Builtin.zeroCells
  rw [Array.toList_map, Array.toList_range, List.map_replicate]
  have hs : (Value.int .u8 0).cells.size = 1 := rfl
  rw [hs, Nat.mul_one]
  apply List.ext_getElem
  · simp
  · intro i h1 h2
    simp only [List.getElem_map, List.getElem_range, List.getElem_replicate]
    rw [Nat.mod_one]
    rfl
theorem run_oz {P : Program} (w : World) (base : Nat) (t tn ty e : TypeId) (i : TypeInfo) (k kn : IntKind) (ht : P.underlying t = some (.slice e)) (htn : P.underlying tn = some (.int kn)) (hi : P.info? e = some i) (hz : i.zero = some (.int .u8 0))
    (hsize : i.size = 1) (hby : i.bytes = 1) (v : Value) (n : Nat) (xs : List Value) (hown : w.ownsRow base e 1 v n xs) (m : Nat) (hm0 : m ≠ 0) (hn : n ≤ 1000000) (hm : m ≤ 1000000) (hbase : base ≤ w.heap.size) :
    ∃ v' w', (Builtin.append_ #[t, tn] ty #[v, .int k m]).run P w = .ok v' w' ∧ w'.ownsRow base e 1 v' (n + m) (xs ++ (List.replicate m (0 : Int)).map (Value.int .u8)) ∧ w.grownBy w' v.ownBlock ∧ (v'.ownBlock = v.ownBlock ∨ v'.ownBlock = some w.heap.size) := by
  have hw : IntKind.i64.wrap (m : Int) = m := by rw [IntKind.wrap_i64]; omega
  have hneg : ¬ ((m : Int) < 0) := by omega
  have h48i : ¬ (281474976710656 < (m : Int)) := by omega
  have hzl : ((Builtin.zeroCells (Value.int .u8 0).cells m).toList).length = m := by rw [zeros_list]; simp
  have hlen : (xs ++ (Builtin.zeroCells (Value.int .u8 0).cells m).toList).length = (n + m) * 1 := by rw [List.length_append, hown.1, hzl]; omega
  have grown : ∀ (old : Nat), old < n + m → ∀ (row : Option Nat),
      (w.drew.alloc (.cells (xs.toArray ++ Builtin.zeroCells (Value.int .u8 0).cells m ++ Builtin.zeroCells (Value.int .u8 0).cells (grownCap w (n + m) old e - (n + m))) e)).ownsRow base e 1
        (.slice (some ⟨w.heap.size, 0, none⟩) (n + m) (grownCap w (n + m) old e)) (n + m) (xs ++ (Builtin.zeroCells (Value.int .u8 0).cells m).toList) ∧
      w.grownBy (w.drew.alloc (.cells (xs.toArray ++ Builtin.zeroCells (Value.int .u8 0).cells m ++ Builtin.zeroCells (Value.int .u8 0).cells (grownCap w (n + m) old e - (n + m))) e)) row := by
    intro old ho row
    have hge := grownCap_ge w (n + m) old e
    have hcm : grownCap w (n + m) old e ≤ maxLen := grownCap_le_maxLen w (n + m) old e (by unfold maxLen; omega)
    refine ⟨⟨hlen, .inr ⟨w.heap.size, _, _, rfl, hbase, heap_alloc_new w.drew _, hge, hcm, ?_, ?_⟩⟩, ⟨rfl, rfl, rfl, by simp, fun k' hk h => (World.grownBy_alloc w.drew _ row).block k' hk h⟩⟩
    · have := hown.1
      simp only [Array.size_append, List.size_toArray, size_zeroCells, show (Value.int .u8 0).cells.size = 1 from rfl]
      omega
    · simp only [Array.toList_append, List.append_assoc]
      rw [← List.append_assoc, ← hlen]
      exact List.take_left
  rw [← zeros_list]
  rcases hown.2 with ⟨rfl, rfl⟩ | ⟨g, cap, cur, rfl, hbg, hg, hnc, hcm, hcs, htake⟩
  · have hx : xs = [] := List.eq_nil_of_length_eq_zero (by simpa using hown.1)
    subst hx
    · have hr := Lib.run_append_nil_zeros (P := P) w t tn ty e i (.int .u8 0) k kn ht htn hi hz m (by omega) (by rw [hsize]; omega) (by omega) (by rw [hby]; omega)
      have hgr := grown 0 (by omega) (Value.ownBlock (.slice none 0 0))
      simp only [Nat.zero_add, List.nil_append, Array.empty_append] at hgr ⊢
      exact ⟨_, _, hr, hgr.1, hgr.2, Or.inr rfl⟩
  · by_cases hroom : n + m ≤ cap
    · have hst := run_storeCells_at P g n e (Builtin.zeroCells (Value.int .u8 0).cells m).toList 0 cur w hg (by rw [hzl, hcs]; omega) (by rw [zeros_list]; exact ints_oneCell _ _)
      simp only [Nat.add_zero] at hst
      refine ⟨.slice (some ⟨g, 0, none⟩) (n + m) cap, w.setRow g (cur.toList.take n ++ (Builtin.zeroCells (Value.int .u8 0).cells m).toList ++ cur.toList.drop (n + m)).toArray, ?_, ⟨hlen, .inr ⟨g, cap, _, rfl, hbg, setRow_heap w g cur _ e _ hg, hroom, hcm, ?_, ?_⟩⟩, ⟨rfl, rfl, rfl, by simp, fun k _ hk => setRow_other w g k _ (fun e => hk (by simp [Value.ownBlock, e]))⟩, Or.inl rfl⟩
      · rw [hzl] at hst
        simp [Builtin.append_, run_underlying ht, run_underlying htn, sizeOf, typeInfo, zeroValue, hi, hz, asInt, asIntOf, hw, hneg, h48i, hby, hsize, hroom, hm0, Addr.add_lit, hst]
      · simp only [List.size_toArray, List.length_append, List.length_take, List.length_drop, Array.length_toList, hzl]
        omega
      · simp only [Nat.mul_one] at htake ⊢
        rw [htake]
        have e : n + m = (xs ++ (Builtin.zeroCells (Value.int .u8 0).cells m).toList).length := by rw [hlen]; omega
        rw [e]
        exact List.take_left
    · have holds : ∀ j u, xs[j]? = some u → w.cell? ((⟨g, 0, none⟩ : Addr).add j) = some u := hown.cells (g := g) rfl
      have hgr := grown cap (by omega) (Value.ownBlock (.slice (some ⟨g, 0, none⟩) n cap))
      have hfit := growslice_fits (need := n + m) (old := cap) (bytes := 1) (by omega) (by omega)
      have hfit2 : ¬ (281474976710656 < Builtin.nextslicecap (n + m) cap) := by omega
      have h63 : ¬ (9223372036854775807 < ((n : Int) + (m : Int))) := by omega
      have hfo := run_firstCells_some (P := P) w.drew 1 n ⟨g, 0, none⟩ n cap xs hown.1 (by simpa using holds)
      refine ⟨_, _, ?_, hgr.1, hgr.2, Or.inr rfl⟩
      rw [Nat.mul_one] at hfit
      simp [Builtin.append_, run_underlying ht, run_underlying htn, sizeOf, typeInfo, zeroValue, hi, hz, asInt, asIntOf, hw, hneg, h48i, hby, hsize, hroom, hm0, hfit2, h63, Question.forced, hfo, newRow, grownCap]
section
variable {ops : Array Oper} {rest : List Oper} {o : Oper} {a : Act} {Q : Exit → Act → World → Prop}
/-- Zeros behind what is owned. -/
theorem wp_oz (hgd : o.guard = none) (s x : Operand) (ho : o.op = .call { callee := .builtin .append, args := #[s, x], argTypes := #[22, 3] })
    (W0 w : World) (p : Option Addr) (l c : Nat) (X : List Int) (m : Nat) (hs : a.eval s = .slice p l c) (hx : a.eval x = .int .i64 m) (hb : OwB W0 w p l c X) (hl : l ≤ 1000000) (hm0 : m ≠ 0) (hm : m ≤ 1000000)
    (h : ∀ p' c' w', OwB W0 w' p' (l + m) c' (X ++ List.replicate m 0) → w.grownBy w' (Value.slice p l c).ownBlock → wpList Try.prog ops Q rest (a.put o.dst (.slice p' (l + m) c')) w') : wpList Try.prog ops Q (o :: rest) a w := by
  obtain ⟨i0, hi, hz0, hz1, hz2⟩ := info_parts info_b8
  obtain ⟨v', w', hr, hown, hg, _⟩ := run_oz (P := Try.prog) w W0.heap.size 22 3 o.type 5 i0 .i64 .i64 Try.underlying22 Try.underlying3 hi hz0 hz1 hz2 (.slice p l c) l (X.map (Value.int .u8)) hb.2.1 m hm0 hl hm hb.2.2.2
  obtain ⟨p', c', rfl, hn⟩ := ow_grown hb (Y := List.replicate m (0 : Int)) (m := m) (by simp) hown hg
  exact Lib.wpList_append_run w hgd s x 22 3 ho _ _ hs hx _ _ hr (h p' c' w' hn hg)
end
theorem ow_take {W0 w : World} {p : Option Addr} {l c k : Nat} {X : List Int} (h : OwB W0 w p l c X) (hk : k ≤ l) : OwB W0 w p k c (X.take k) := by
  obtain ⟨h1, h2, h3, h4⟩ := h
  refine ⟨by rw [List.length_take]; omega, ⟨by rw [List.length_map, List.length_take]; omega, ?_⟩, h3, h4⟩
  rcases h2.2 with ⟨hv, h0⟩ | ⟨g, cap, cur, hv, hbg, hg, hnc, hcm, hcs, htake⟩
  · injection hv with e1 e2 e3
    subst e1 e2 e3
    obtain rfl : k = 0 := by omega
    exact Or.inl ⟨rfl, rfl⟩
  · injection hv with e1 e2 e3
    subst e1 e3
    refine Or.inr ⟨g, c, cur, rfl, hbg, hg, by omega, hcm, hcs, ?_⟩
    rw [List.map_take, ← htake, List.take_take]
    congr 1
    omega
set_option maxRecDepth 100000 in
set_option maxHeartbeats 1000000 in
theorem grow_nil (w : World) (n : Nat) (h0 : 0 < n) (hn : n ≤ 1000000) :
    Calls Try.prog 65 #[.slice none 0 0, .int .i64 n] w fun e w' => ∃ p' c', e = .returned (.slice p' 0 c') ∧ OwB w w' p' 0 c' [] := by
  go_enter Try.func65, Try.ntmps65
  go_wp2_with (at_builtin; refine wp_oz rfl _ _ rfl w _ none 0 0 [] n rfl rfl (ow_nil w) (by omega) (by omega) hn ?_; intro p2 c2 w2 ho2 _)
  have HO := Lib.hid (ow_take ho2 (k := 0) (by omega))
  clear ho2
  go_ret
  exact ⟨p2, c2, rfl, HO.out⟩
/-- Four slices, one behind another. -/
theorem concat4 (w : World) (b : Nat) (p1 p2 p3 p4 : Option Addr) (l1 c1 l2 c2 l3 c3 l4 c4 : Nat) (X1 X2 X3 X4 : List Int)
    (k1 : w.cell? ⟨b, 0, none⟩ = some (.slice p1 l1 c1)) (k2 : w.cell? ⟨b, 1, none⟩ = some (.slice p2 l2 c2)) (k3 : w.cell? ⟨b, 2, none⟩ = some (.slice p3 l3 c3)) (k4 : w.cell? ⟨b, 3, none⟩ = some (.slice p4 l4 c4))
    (h1 : RdB w p1 l1 c1 X1) (h2 : RdB w p2 l2 c2 X2) (h3 : RdB w p3 l3 c3 X3) (h4 : RdB w p4 l4 c4 X4) (m1 : l1 ≤ 100000) (m2 : l2 ≤ 100000) (m3 : l3 ≤ 100000) (m4 : l4 ≤ 100000) (hpos : 0 < l2) :
    Calls Try.prog 46 #[.slice (some ⟨b, 0, none⟩) 4 4] w fun e w' => ∃ p' c', e = .returned (.slice p' (l1 + l2 + l3 + l4) c') ∧ OwB w w' p' (l1 + l2 + l3 + l4) c' (X1 ++ X2 ++ X3 ++ X4) := by
  have H1 := Lib.hid h1
  have H2 := Lib.hid h2
  have H3 := Lib.hid h3
  have H4 := Lib.hid h4
  have K1 := Lib.hid (fun w' (h : Below w.heap.size w w') => cell_keep h k1)
  have K2 := Lib.hid (fun w' (h : Below w.heap.size w w') => cell_keep h k2)
  have K3 := Lib.hid (fun w' (h : Below w.heap.size w w') => cell_keep h k3)
  have K4 := Lib.hid (fun w' (h : Below w.heap.size w w') => cell_keep h k4)
  clear h1 h2 h3 h4
  go_enter Try.func46, Try.ntmps46
  go_wp2
  refine wp_loop_rounds 5 ?_
  rw [rounds_succ]
  go_wp2
  rw [rounds_succ]
  go_wp2
  rw [rounds_succ]
  go_wp2
  rw [rounds_succ]
  go_wp2
  rw [rounds_succ]
  go_wp2_with fail
  go_at_call 65
  rw [show (l1 : Int) + (l2 : Int) + (l3 : Int) + (l4 : Int) = ((l1 + l2 + l3 + l4 : Nat) : Int) by omega]
  refine (grow_nil w (l1 + l2 + l3 + l4) (by omega) (by omega)).mono ?_; rintro e w0 ⟨q0, d0, rfl, ho0⟩
  have HO0 := Lib.hid ho0
  have j1 := K1.out w0 (ow_bel ho0)
  clear ho0
  go_wp2
  refine wp_loop_rounds 5 ?_
  rw [rounds_succ]
  go_wp2_with (at_builtin; refine wp_obR rfl _ _ rfl w w0 q0 0 d0 ([]) p1 l1 c1 X1 rfl rfl HO0.out (rd_keep (ow_bel HO0.out) H1.out) (by omega) (by omega) ?_; intro q1 d1 w1 ho1 _)
  rw [Nat.zero_add, List.nil_append] at ho1

  have HO1 := Lib.hid ho1
  have j2 := K2.out w1 (ow_bel ho1)
  clear ho1
  go_wp2
  rw [rounds_succ]
  go_wp2_with (at_builtin; refine wp_obR rfl _ _ rfl w w1 q1 (l1) d1 (X1) p2 l2 c2 X2 rfl rfl HO1.out (rd_keep (ow_bel HO1.out) H2.out) (by omega) (by omega) ?_; intro q2 d2 w2 ho2 _)
  have HO2 := Lib.hid ho2
  have j3 := K3.out w2 (ow_bel ho2)
  clear ho2
  go_wp2
  rw [rounds_succ]
  go_wp2_with (at_builtin; refine wp_obR rfl _ _ rfl w w2 q2 (l1 + l2) d2 (X1 ++ X2) p3 l3 c3 X3 rfl rfl HO2.out (rd_keep (ow_bel HO2.out) H3.out) (by omega) (by omega) ?_; intro q3 d3 w3 ho3 _)
  have HO3 := Lib.hid ho3
  have j4 := K4.out w3 (ow_bel ho3)
  clear ho3
  go_wp2
  rw [rounds_succ]
  go_wp2_with (at_builtin; refine wp_obR rfl _ _ rfl w w3 q3 (l1 + l2 + l3) d3 (X1 ++ X2 ++ X3) p4 l4 c4 X4 rfl rfl HO3.out (rd_keep (ow_bel HO3.out) H4.out) (by omega) (by omega) ?_; intro q4 d4 w4 ho4 _)
  have HO4 := Lib.hid ho4
  clear ho4
  go_wp2
  rw [rounds_succ]
  go_wp2
  go_ret
  exact ⟨q4, d4, rfl, HO4.out⟩
end Num
end Go.Proofs.Ythjjakpjanoamaa
