/-
  ValueLimits: the walk of kind 3: seventeen texts in a list.
-/
import Derived.Test.YtahcgdjcjapnkaaGreatDoorVLb
namespace Go.Proofs.YtahcgdjcjapnkaaGreatDoor
open Go.RowKit
namespace Num
open Ints
set_option linter.unusedSimpArgs false
set_option linter.unusedVariables false
/-- A list of texts that the call has made and appends to. -/
def OwT (W0 w : World) (p : Option Addr) (l c : Nat) (L : List ByteArray) : Prop := ∃ XS : List Value, w.ownsRow W0.heap.size 26 5 (.slice p l c) l XS ∧ L.length = l ∧
  ∀ i (h : i < L.length), XS[i * 5]? = some (.int .i64 3) ∧ XS[i * 5 + 1]? = some (.int .i64 0) ∧ XS[i * 5 + 2]? = some (.float .f64 0) ∧ XS[i * 5 + 3]? = some (.string L[i]) ∧ XS[i * 5 + 4]? = some (.slice none 0 0)
theorem ot_nil (W0 w : World) : OwT W0 w none 0 0 [] := ⟨[], World.ownsRow_nil _ _ _ _, rfl, fun i h => absurd h (Nat.not_lt_zero _)⟩
theorem ot_grown {W0 w w' : World} {p : Option Addr} {l c : Nat} {L : List ByteArray} {row : Option Nat} (h : OwT W0 w p l c L) (hg : w.grownBy w' row) (hne : (Value.slice p l c).ownBlock = none ∨ (Value.slice p l c).ownBlock ≠ row) : OwT W0 w' p l c L := by
  obtain ⟨XS, h1, h2, h3⟩ := h
  exact ⟨XS, h1.kept hg hne, h2, h3⟩
theorem ot_keep {W0 w w' : World} {p : Option Addr} {l c : Nat} {L : List ByteArray} (h : OwT W0 w p l c L) (hb : Below w.heap.size w w') : OwT W0 w' p l c L := by
  refine ot_grown h (bel_grown hb none) ?_
  cases Value.ownBlock (.slice p l c) with
  | none => exact Or.inl rfl
  | some k => exact Or.inr (by simp)
theorem ot_store {W0 w : World} {p : Option Addr} {l c : Nat} {L : List ByteArray} (h : OwT W0 w p l c L) {B o : Nat} (hB : (Value.slice p l c).ownBlock ≠ some B) (v : Value) : OwT W0 (w.setCell ⟨B, o, none⟩ v) p l c L := by
  refine ot_grown (row := some B) h ⟨rfl, rfl, rfl, ?_, fun k hk hne => ?_⟩ (Or.inr hB)
  · simp [World.setCell]
  · exact Below.heap_setCell _ _ _ _ (fun e => hne (by rw [e]))
theorem row_set4 {w : World} {b : Nat} {x0 x1 x2 x3 x4 : Value} {t : TypeId} (h : w.heap[b]? = some (.cells #[x0, x1, x2, x3, x4] t (0, 0))) (v : Value) : (w.setCell ⟨b, 4, none⟩ v).heap[b]? = some (.cells #[x0, x1, x2, x3, v] t (0, 0)) := by
  simp [World.setCell, Array.getElem?_modify, h]
theorem ot_rep {W0 w : World} {p : Option Addr} {l c : Nat} {L : List ByteArray} (h : OwT W0 w p l c L) (hL : ∀ s ∈ L, s.size ≤ 300) : RepL w (Rep w 1) p l c (L.map txtV) := by
  obtain ⟨XS, h1, h2, h3⟩ := h
  have hcells := fun g (hg : (Value.slice p l c).ownBlock = some g) => h1.cells hg
  rcases h1.2 with ⟨hv, h0⟩ | ⟨g, cap, cur, hv, _, _, hle, hm, _⟩
  · injection hv with e1 e2 e3
    subst e1 e2 e3
    exact ⟨by rw [List.length_map]; exact h2, Nat.le_refl _, Nat.zero_le _, fun h => absurd h (Nat.lt_irrefl _)⟩
  · injection hv with e1 e2 e3
    subst e1 e3
    refine ⟨by rw [List.length_map]; exact h2, hle, hm, fun _ => ⟨g, 0, rfl, fun i hi => ?_⟩⟩
    rw [List.length_map] at hi
    obtain ⟨c0, c1, c2, c3, c4⟩ := h3 i hi
    have hc := hcells g rfl
    have k0 := hc _ _ c0; have k1 := hc _ _ c1; have k2 := hc _ _ c2; have k3 := hc _ _ c3; have k4 := hc _ _ c4
    rw [Addr.add_lit] at k0 k1 k2 k3 k4
    refine ⟨_, _, _, _, _, k0, k1, k2, k3, k4, ?_⟩
    rw [List.getElem_map]
    exact rep_leaf w 3 0 0 L[i] (by decide) (by decide) (by decide) (Nat.le_trans (hL _ (List.getElem_mem hi)) (by decide))
theorem some_bytes (N0 : Nat) (h : N0 ≤ 1000) (x : Int) (hx : x = (N0 : Int)) : ∃ (N : Nat) (st : ByteArray), st.size = N0 ∧
    (∀ W : World, (Instr.makeSlice 28 (.int .i64 x) (.int .i64 x)).run Tryz.prog W = .ok (.slice (some ⟨W.heap.size, 0, none⟩) N N) (W.alloc (.cells (zs N) 5))) ∧
    (∀ W : World, (convert 28 9 (.slice (some ⟨W.heap.size, 0, none⟩) N N)).run Tryz.prog (W.alloc (.cells (zs N) 5)) = .ok (.string st) (W.alloc (.cells (zs N) 5))) :=
  ⟨N0, nulS N0, nulS_size N0, mk_bytes N0 h x hx, cv_bytes N0 h⟩
section
variable {ops : Array Oper} {o : Oper} {a : Act} {K : Act → World → Prop} {Q : Exit → Act → World → Prop} {E : Prop}
/-- A text behind an owned list, at a step of a region. -/
theorem step_ot (hgd : o.guard = none) (s x : Operand) (ho : o.op = .call { callee := .builtin .append, args := #[s, x], argTypes := #[24, 24] })
    (W0 w : World) (p : Option Addr) (l c : Nat) (L : List ByteArray) (st : ByteArray) (hs : a.eval s = .slice p l c) (hx : a.eval x = .slice (some ⟨w.heap.size, 0, none⟩) 1 1) (hb : OwT W0 w p l c L) (hsz : W0.heap.size ≤ w.heap.size) (hl : l ≤ 1000)
    (h : ∀ p' c' w', OwT W0 w' p' (l + 1) c' (L ++ [st]) → w.grownBy w' (Value.slice p l c).ownBlock → ((Value.slice p' (l + 1) c').ownBlock = (Value.slice p l c).ownBlock ∨ ∃ g, (Value.slice p' (l + 1) c').ownBlock = some g ∧ w.heap.size ≤ g) → K (a.put o.dst (.slice p' (l + 1) c')) w') :
    if Region.wanted o (yielded ops a.tmps) = true then Oper.wp Tryz.prog o a (w.alloc (.cells #[.int .i64 3, .int .i64 0, .float .f64 0, .string st, .slice none 0 0] 26)) K Q else E := by
  have hw : Region.wanted o (yielded ops a.tmps) = true := by simp [Region.wanted, hgd]
  rw [if_pos hw]
  obtain ⟨i0, hi, hz0, hz1, hz2⟩ := info_parts info_v5
  have hsz1 : (w.alloc (.cells #[.int .i64 3, .int .i64 0, .float .f64 0, .string st, .slice none 0 0] 26)).heap.size = w.heap.size + 1 := World.size_alloc _ _
  obtain ⟨XS, h1, h2, h3⟩ := hb
  have h1' := h1.alloc (.cells #[.int .i64 3, .int .i64 0, .float .f64 0, .string st, .slice none 0 0] 26)
  have hnews : ∀ j u, [Value.int .i64 3, .int .i64 0, .float .f64 0, .string st, .slice none 0 0][j]? = some u → (w.alloc (.cells #[.int .i64 3, .int .i64 0, .float .f64 0, .string st, .slice none 0 0] 26)).cell? ((⟨w.heap.size, 0, none⟩ : Addr).add j) = some u := by
    intro j u hj
    rw [Addr.add_lit, Nat.zero_add, row_cell (row_alloc w _ 26) j, List.getElem?_toArray]
    exact hj
  have hone : ∀ u ∈ [Value.int .i64 3, .int .i64 0, .float .f64 0, .string st, .slice none 0 0], u.oneCell' = true := by
    intro u hu
    simp only [List.mem_cons, List.not_mem_nil, or_false] at hu
    rcases hu with rfl | rfl | rfl | rfl | rfl <;> rfl
  obtain ⟨v', w', hr, r2, r3, r4, r5⟩ := run_append_own_at (P := Tryz.prog) _ W0.heap.size 24 o.type 26 i0 _ 5 64 Tryz.underlying24 hi hz0 hz1 hz2 rfl (by decide) (.slice p l c) l XS h1' ⟨w.heap.size, 0, none⟩ 1 1 _ rfl hnews hone (by unfold maxLen; omega) (by omega) (by omega)
  have hpc : ∃ p' c', v' = .slice p' (l + 1) c' := by
    rcases r2.2 with ⟨rfl, hn⟩ | ⟨g, cap, cur, rfl, _⟩
    · exact absurd hn (by omega)
    · exact ⟨_, _, rfl⟩
  obtain ⟨p', c', rfl⟩ := hpc
  unfold Oper.wp execOp
  simp only [ho, resolve, invoke, builtin, Sem.run_bind, Sem.run_pure, Result.andThen_ok, List.map_toArray, List.map_cons, List.map_nil, hs, hx, hr]
  refine h p' c' w' ⟨XS ++ [.int .i64 3, .int .i64 0, .float .f64 0, .string st, .slice none 0 0], r2, by rw [List.length_append, h2]; rfl, fun i hi => ?_⟩ ⟨r3.os, r3.tape, r3.output, by have := r3.size; omega, fun k hk hne => ?_⟩ ?_
  · have hlen := h1.1
    by_cases hlt : i < L.length
    · obtain ⟨c0, c1, c2, c3, c4⟩ := h3 i hlt
      have hlt5 : i * 5 + 5 ≤ XS.length := by omega
      rw [List.getElem_append_left hlt]
      exact ⟨by rw [List.getElem?_append_left (by omega)]; exact c0, by rw [List.getElem?_append_left (by omega)]; exact c1, by rw [List.getElem?_append_left (by omega)]; exact c2, by rw [List.getElem?_append_left (by omega)]; exact c3, by rw [List.getElem?_append_left (by omega)]; exact c4⟩
    · have hie : i = l := by rw [List.length_append, h2] at hi; simp at hi; omega
      subst hie
      have e := five_at hlen (.int .i64 3) (.int .i64 0) (.float .f64 0) (.string st) (.slice none 0 0)
      rw [List.getElem_append_right (by omega)]
      simp only [h2, Nat.sub_self, List.getElem_cons_zero]
      exact ⟨by have := e 0; simpa using this, by rw [e 1]; rfl, by rw [e 2]; rfl, by rw [e 3]; rfl, by rw [e 4]; rfl⟩
  · rw [r3.block k (by omega) hne]
    exact Below.heap_alloc _ _ _ hk
  · rcases r5 with e | e
    · exact Or.inl e
    · exact Or.inr ⟨_, e, by omega⟩
end
theorem own_ge {W0 w : World} {p : Option Addr} {l c : Nat} {L : List ByteArray} (h : OwT W0 w p l c L) : ∀ k, (Value.slice p l c).ownBlock = some k → W0.heap.size ≤ k := by
  obtain ⟨XS, h1, _⟩ := h
  exact fun k hk => (h1.lt k hk).1
theorem own_ne {w : World} {v v' : Value} {B : Nat} (h : v.ownBlock ≠ some B) (hlt : B < w.heap.size) (hw : v'.ownBlock = v.ownBlock ∨ ∃ g, v'.ownBlock = some g ∧ w.heap.size ≤ g) : v'.ownBlock ≠ some B := by
  rcases hw with e | ⟨g, e, hg⟩
  · rw [e]; exact h
  · rw [e]; intro e'; injection e' with e'; omega
theorem fine_lim (s t : ByteArray) (D : Nat) (hD : D ≤ 4) (hs : s.size = 251) (ht : t.size = 25 + D) : Fine 2 (4, 0, 0, ⟨#[]⟩, (List.replicate 16 s ++ [t]).map txtV) (decide (D ≤ 2)) := by
  have hZ : ((List.replicate 16 s ++ [t]).map fun s => 3 + (s.size : Int)).sum = 4092 + (D : Int) := by
    simp [List.replicate, hs, ht]
    omega
  have h := fine_txts (List.replicate 16 s ++ [t]) (by simp) (4092 + (D : Int)) hZ (by omega) (by omega) (fun u hu => by
    rcases List.mem_append.1 hu with h | h
    · rw [List.eq_of_mem_replicate h, hs]; omega
    · rw [List.mem_singleton.1 h, ht]; omega)
  rwa [show decide (4092 + (D : Int) + 2 ≤ 4096) = decide (D ≤ 2) by simp; omega] at h
set_option maxRecDepth 100000 in
set_option maxHeartbeats 16000000 in
theorem lim_Dy (a n : Int) (h0 : 0 ≤ n) (h1 : n < 256) (g0 : 0 ≤ a) (g1 : a < 256) (D : Nat) (hD : n % 5 = (D : Int)) (hD4 : D ≤ 4) (ha : a % 4 = 3) (hd : (D : Int) ≤ 2) (w : World) (ht : Tabs w) :
    Calls Tryz.prog 3 #[.int .u8 a, .int .u8 n] w fun e w' => e = .returned (.bool true) ∧ Below w.heap.size w w' := by
  have hD2 : n.tmod 5 = (D : Int) := by rw [Int.tmod_eq_emod_of_nonneg h0]; exact hD
  have ha2 : a.tmod 4 = 3 := by rw [Int.tmod_eq_emod_of_nonneg g0]; exact ha
  have hD0 : (0 : Int) ≤ (D : Int) := by omega
  have hDb : (D : Int) ≤ 4 := by omega
  have hdf : decide ((D : Int) - 2 ≤ 0) = true := by simp; omega
  have hdg : decide ((D : Int) ≤ 2) = true := by simp; omega
  have HT := Lib.hid ht
  clear ht
  go_enter Tryz.func3, Tryz.ntmps3
  go_wp2_with fail
  go_at_call 5; refine (known_any _ HT.out).mono ?_; rintro e w1 ⟨rfl, hb1⟩
  have HB1 := Lib.hid hb1
  clear hb1
  obtain ⟨N1, s1, hs1, hmk1, hcv1⟩ := some_bytes 251 (by omega) 251 rfl
  obtain ⟨N2, s2, hs2, hmk2, hcv2⟩ := some_bytes (25 + D) (by omega) (IntKind.i64.wrap (27 + ((D : Int) - 2))) (by rw [show IntKind.i64.wrap (27 + ((D : Int) - 2)) = 27 + ((D : Int) - 2) from IntWalk.i64_in _ (by omega)]; omega)
  have HC1 := Lib.hid hcv1
  have HC2 := Lib.hid hcv2
  have HM2 := Lib.hid hmk2
  have HS1 := Lib.hid hs1
  have HS2 := Lib.hid hs2
  clear hcv1 hcv2 hmk2 hs1 hs2
  have RB := Lib.hid (row_alloc w1 #[.int .i64 0, .int .i64 0, .float .f64 0, .string ⟨#[]⟩, .slice none 0 0] 26)
  have HBX := Lib.hid (bel_alloc HB1.out (.cells #[.int .i64 0, .int .i64 0, .float .f64 0, .string ⟨#[]⟩, .slice none 0 0] 26))
  go_wp2_with fail
  go_at_call 7; refine (list_ref_any _ _ _ _).mono ?_; rintro e w2 ⟨rfl, hb2⟩
  have hr2 := row_step RB.out hb2
  have hlt := row_lt hr2
  have HR2 := Lib.hid (set5_rowL hr2 (.int .i64 4) (.int .i64 0) (.float .f64 0) (.string ⟨#[]⟩) (.slice none 0 0))
  have HB2 := Lib.hid (below5 (bel_step HBX.out hb2) HB1.out.size (.int .i64 4) (.int .i64 0) (.float .f64 0) (.string ⟨#[]⟩) (.slice none 0 0))
  have k0 := row_cell hr2 0; have k1 := row_cell hr2 1; have k2 := row_cell hr2 2; have k3 := row_cell hr2 3; have k4 := row_cell hr2 4
  simp only [List.getElem?_toArray, List.getElem?_cons_zero, List.getElem?_cons_succ] at k0 k1 k2 k3 k4
  have kf := fun o => row_frz hr2 o
  clear hr2 hb2
  go_wp2
  clear hD hD2 h0 h1 ha ha2 g0 g1 k0 k1 k2 k3 k4 kf hlt
  go_loopw [8] (fun i wr => ∃ (k : Nat) (p : Option Addr) (c : Nat), k ≤ 16 ∧ i = .int .i64 (k : Int) ∧ wr.heap[w1.heap.size]? = some (.cells #[.int .i64 4, .int .i64 0, .float .f64 0, .string ⟨#[]⟩, .slice p k c] 26 (0, 0)) ∧ OwT w wr p k c (List.replicate k s1) ∧ (Value.slice p k c).ownBlock ≠ some w1.heap.size ∧ Below w.heap.size w wr) (fun i _ => 16 - (intOf i).toNat)
  case atStart => exact ⟨0, none, 0, Nat.zero_le _, rfl, HR2.out, ot_nil _ _, (by simp [Value.ownBlock]), HB2.out⟩
  case round =>
    obtain ⟨k, p, c, hk, rfl, hrow, how, hnb, hbw⟩ := hrel
    have HRW := Lib.hid hrow
    have HOW := Lib.hid how
    have HNB := Lib.hid hnb
    have HBW := Lib.hid hbw
    have hlt := row_lt hrow
    have b4 := row_cell hrow 4
    simp only [List.getElem?_toArray, List.getElem?_cons_zero, List.getElem?_cons_succ] at b4
    clear how hnb hbw
    by_cases hltk : k < 16
    · have hltk' : (k : Int) < 16 := by omega
      have hcv : (convert 28 9 (.slice (some ⟨wr.heap.size, 0, none⟩) N1 N1)).run Tryz.prog (wr.alloc (.cells (zs N1) 5)).drew = .ok (.string s1) (wr.alloc (.cells (zs N1) 5)).drew := HC1.out wr.drew
      clear hrow
      go_wp2
      go_region_law (first
        | (go_simp; go_at_call 6; refine (text_ref_any _ _).mono ?_; rintro e w2 ⟨rfl, hb2⟩; have HRX := Lib.hid (row_step (w := (wr.alloc (.cells (zs N1) 5)).drew) (row_alloc_step (w := wr.drew) HRW.out _) hb2); have HBX := Lib.hid (bel_step (w := wr) (y := (wr.alloc (.cells (zs N1) 5)).drew) (Below.drew (bel_alloc (Below.refl _ _) (.cells (zs N1) 5))) hb2); have HOX := Lib.hid (ot_keep HOW.out HBX.out); have ltX := row_lt HRX.out; have x4 := row_cell HRX.out 4; (simp only [List.getElem?_toArray, List.getElem?_cons_zero, List.getElem?_cons_succ] at x4); clear hb2)
        | (refine step_ot (by rfl) _ _ (by rfl) w w2 p k c (List.replicate k s1) s1 (by rfl) (by rfl) HOX.out (Nat.le_trans HBW.out.size HBX.out.size) (by omega) ?_; intro p' c' w3 ho hg hw; have HRN := Lib.hid ((hg.block _ ltX (fun e => HNB.out e.symm)).trans HRX.out); have HON := Lib.hid ho; have HBN := Lib.hid (Below.grown (bel_step HBW.out HBX.out) hg (Nat.le_trans HBW.out.size HBX.out.size) (own_ge HOW.out)); have HNN := Lib.hid (own_ne (B := w1.heap.size) HNB.out ltX hw); have ltN := row_lt HRN.out; have y4 := row_cell HRN.out 4; (simp only [List.getElem?_toArray, List.getElem?_cons_zero, List.getElem?_cons_succ] at y4); have yf := row_frz HRN.out 4; clear ho hg hw))
      all_goals
        go_wp2
        go_roundw
        case rel => exact ⟨k + 1, p', c', by omega, by go_num, row_set4 HRN.out _, (by rw [List.replicate_succ']; exact ot_store HON.out HNN.out _), HNN.out, HBN.out.setCell (p := ⟨w1.heap.size, 4, none⟩) HB1.out.size _⟩
        case measure => simp [intOf]; omega
    · obtain rfl : k = 16 := by omega
      have hltk' : ¬ (((16 : Nat) : Int) < 16) := by omega
      have hmk2 := HM2.out
      have hcv : (convert 28 9 (.slice (some ⟨wr.heap.size, 0, none⟩) N2 N2)).run Tryz.prog (wr.alloc (.cells (zs N2) 5)).drew = .ok (.string s2) (wr.alloc (.cells (zs N2) 5)).drew := HC2.out wr.drew
      clear hrow hmk1
      go_wp2
      go_region_law (first
        | (go_simp; go_at_call 6; refine (text_ref_any _ _).mono ?_; rintro e w2 ⟨rfl, hb2⟩; have HRX := Lib.hid (row_step (w := (wr.alloc (.cells (zs N2) 5)).drew) (row_alloc_step (w := wr.drew) HRW.out _) hb2); have HBX := Lib.hid (bel_step (w := wr) (y := (wr.alloc (.cells (zs N2) 5)).drew) (Below.drew (bel_alloc (Below.refl _ _) (.cells (zs N2) 5))) hb2); have HOX := Lib.hid (ot_keep HOW.out HBX.out); have ltX := row_lt HRX.out; have x4 := row_cell HRX.out 4; (simp only [List.getElem?_toArray, List.getElem?_cons_zero, List.getElem?_cons_succ] at x4); clear hb2)
        | (refine step_ot (by rfl) _ _ (by rfl) w w2 p 16 c (List.replicate 16 s1) s2 (by rfl) (by rfl) HOX.out (Nat.le_trans HBW.out.size HBX.out.size) (by omega) ?_; intro p' c' w3 ho hg hw; have HRN := Lib.hid ((hg.block _ ltX (fun e => HNB.out e.symm)).trans HRX.out); have HON := Lib.hid ho; have HBN := Lib.hid (Below.grown (bel_step HBW.out HBX.out) hg (Nat.le_trans HBW.out.size HBX.out.size) (own_ge HOW.out)); have HNN := Lib.hid (own_ne (B := w1.heap.size) HNB.out ltX hw); have ltN := row_lt HRN.out; have y4 := row_cell HRN.out 4; (simp only [List.getElem?_toArray, List.getElem?_cons_zero, List.getElem?_cons_succ] at y4); have yf := row_frz HRN.out 4; clear ho hg hw))
      · have HRT := Lib.hid (row_set4 HRN.out (.slice p' 17 c'))
        have HBT := Lib.hid (HBN.out.setCell (p := ⟨w1.heap.size, 4, none⟩) HB1.out.size (.slice p' 17 c'))
        have HFI := Lib.hid (fine_lim s1 s2 D hD4 HS1.out HS2.out)
        rw [show decide (D ≤ 2) = true by simp; omega] at HFI
        have HREP := Lib.hid (show Rep (w3.setCell ⟨w1.heap.size, 4, none⟩ (.slice p' 17 c')) 2 (.agg #[.int .i64 4, .int .i64 0, .float .f64 0, .string ⟨#[]⟩, .slice p' 17 c']) (4, 0, 0, ⟨#[]⟩, (List.replicate 16 s1 ++ [s2]).map txtV) from ⟨p', 17, c', rfl, (show okI (4 : Int) from by decide), (show okI (0 : Int) from by decide), (show 0 < 2 ^ 64 from by decide), (show (⟨#[]⟩ : ByteArray).size ≤ maxLen from by decide), ot_rep (ot_store HON.out HNN.out _) (fun u hu => by
          rcases List.mem_append.1 hu with h | h
          · rw [List.eq_of_mem_replicate h, HS1.out]; omega
          · rw [List.mem_singleton.1 h, HS2.out]; omega)⟩)
        obtain ⟨LL, hLL⟩ : ∃ LL, (List.replicate 16 s1 ++ [s2]).map txtV = LL := ⟨_, rfl⟩
        rw [hLL] at HFI HREP
        clear y4 yf x4 b4 hcv hmk2 hLL
        have hrt := HRT.out
        have b0 := row_cell hrt 0; have b1 := row_cell hrt 1; have b2 := row_cell hrt 2; have b3 := row_cell hrt 3; have b4 := row_cell hrt 4
        simp only [List.getElem?_toArray, List.getElem?_cons_zero, List.getElem?_cons_succ] at b0 b1 b2 b3 b4
        clear hrt
        go_wp2_with fail
        go_at_call 8; refine (check_any 2 _ _ _ _ _ _ _ (4, 0, 0, ⟨#[]⟩, LL) _ HREP.out HFI.out.1 HFI.out.2.1).mono ?_; rintro e wc ⟨rfl, hbc⟩
        rw [show checkM (measT 2 (4, 0, 0, ⟨#[]⟩, LL)) = 0 from HFI.out.2.2.1]
        have HROW := Lib.hid (row_step HRT.out hbc)
        have HBC := Lib.hid (bel_step HBT.out hbc)
        have HRC := Lib.hid (rep_keep hbc _ _ _ HREP.out)
        clear hbc b0 b1 b2 b3 b4
        go_wp2
        refine wp_region_held_drew (S := fun w' => Below wc.heap.size wc w') (by kernel_rfl) ?_ (fun hHeld => ?_)
        · exact Below.drew (Below.refl _ _)
        refine wpAnyH_take (i := 0) (oi := ?_) (v := ?_) ?hia0q0 (by kernel_rfl) ?hfa0q0 ?hra0q0 ?hQa0q0 ?hya0q0 (by assumption) ?resta0q0
        case hia0q0 => (simp only [List.getElem?_toArray, List.getElem?_cons_zero, List.getElem?_cons_succ]; rfl)
        case hfa0q0 => kernel_rfl
        case hra0q0 => kernel_rfl
        case hya0q0 => (refine Or.inl ⟨by rfl, ?_⟩; intro w hSw; (try dsimp only at hSw); go_simp; (try with_reducible rfl))
        case hQa0q0 => exact fun _ _ _ h => h
        (try simp only [Act.put, List.setIfInBounds_toArray, List.set_cons_zero, List.set_cons_succ])
        refine wpAnyH_take (i := 1) (oi := ?_) (v := ?_) ?hia0q1 (by kernel_rfl) ?hfa0q1 ?hra0q1 ?hQa0q1 ?hya0q1 (by assumption) ?resta0q1
        case hia0q1 => (simp only [List.getElem?_toArray, List.getElem?_cons_zero, List.getElem?_cons_succ]; rfl)
        case hfa0q1 => kernel_rfl
        case hra0q1 => kernel_rfl
        case hya0q1 => (refine Or.inl ⟨by rfl, ?_⟩; intro w hSw; (try dsimp only at hSw); go_simp; (try with_reducible rfl))
        case hQa0q1 => exact fun _ _ _ h => h
        (try simp only [Act.put, List.setIfInBounds_toArray, List.set_cons_zero, List.set_cons_succ])
        refine wpAnyH_take (i := 2) (oi := ?_) (v := ?_) ?hia0q2 (by kernel_rfl) ?hfa0q2 ?hra0q2 ?hQa0q2 ?hya0q2 (by assumption) ?resta0q2
        case hia0q2 => (simp only [List.getElem?_toArray, List.getElem?_cons_zero, List.getElem?_cons_succ]; rfl)
        case hfa0q2 => kernel_rfl
        case hra0q2 => kernel_rfl
        case hya0q2 => (refine Or.inl ⟨by rfl, ?_⟩; intro w hSw; (try dsimp only at hSw); go_simp; (try with_reducible rfl))
        case hQa0q2 => exact fun _ _ _ h => h
        (try simp only [Act.put, List.setIfInBounds_toArray, List.set_cons_zero, List.set_cons_succ])
        refine wpAnyH_take (i := 3) (oi := ?_) (v := ?_) ?hia0q3 (by kernel_rfl) ?hfa0q3 ?hra0q3 ?hQa0q3 ?hya0q3 (by assumption) ?resta0q3
        case hia0q3 => (simp only [List.getElem?_toArray, List.getElem?_cons_zero, List.getElem?_cons_succ]; rfl)
        case hfa0q3 => kernel_rfl
        case hra0q3 => kernel_rfl
        case hya0q3 => (refine Or.inl ⟨by rfl, ?_⟩; intro w hSw; (try dsimp only at hSw); go_simp; (try with_reducible rfl))
        case hQa0q3 => exact fun _ _ _ h => h
        (try simp only [Act.put, List.setIfInBounds_toArray, List.set_cons_zero, List.set_cons_succ])
        refine wpAnyH_take (i := 4) (oi := ?_) (v := ?_) ?hia0q4 (by kernel_rfl) ?hfa0q4 ?hra0q4 ?hQa0q4 ?hya0q4 (by assumption) ?resta0q4
        case hia0q4 => (simp only [List.getElem?_toArray, List.getElem?_cons_zero, List.getElem?_cons_succ]; rfl)
        case hfa0q4 => kernel_rfl
        case hra0q4 => kernel_rfl
        case hya0q4 => (refine Or.inl ⟨by rfl, ?_⟩; intro w hSw; (try dsimp only at hSw); go_simp; (try with_reducible rfl))
        case hQa0q4 => exact fun _ _ _ h => h
        (try simp only [Act.put, List.setIfInBounds_toArray, List.set_cons_zero, List.set_cons_succ])
        refine wpAnyH_take (i := 5) (oi := ?_) (v := ?_) ?hia0q5 (by kernel_rfl) ?hfa0q5 ?hra0q5 ?hQa0q5 ?hya0q5 (by assumption) ?resta0q5
        case hia0q5 => (simp only [List.getElem?_toArray, List.getElem?_cons_zero, List.getElem?_cons_succ]; rfl)
        case hfa0q5 => kernel_rfl
        case hra0q5 => kernel_rfl
        case hya0q5 => (refine Or.inl ⟨by rfl, ?_⟩; intro w hSw; (try dsimp only at hSw); go_simp; (try with_reducible rfl))
        case hQa0q5 => exact fun _ _ _ h => h
        (try simp only [Act.put, List.setIfInBounds_toArray, List.set_cons_zero, List.set_cons_succ])
        refine wpAnyH_take (i := 6) (oi := ?_) (v := ?_) ?hia0q6 (by kernel_rfl) ?hfa0q6 ?hra0q6 ?hQa0q6 ?hya0q6 (by assumption) ?resta0q6
        case hia0q6 => (simp only [List.getElem?_toArray, List.getElem?_cons_zero, List.getElem?_cons_succ]; rfl)
        case hfa0q6 => kernel_rfl
        case hra0q6 => kernel_rfl
        case hya0q6 => (refine Or.inl ⟨by rfl, ?_⟩; intro w hSw; (try dsimp only at hSw); go_simp; (try with_reducible rfl))
        case hQa0q6 => exact fun _ _ _ h => h
        (try simp only [Act.put, List.setIfInBounds_toArray, List.set_cons_zero, List.set_cons_succ])
        refine wpAnyH_take (i := 7) (oi := ?_) (v := ?_) ?hia0q7 (by kernel_rfl) ?hfa0q7 ?hra0q7 ?hQa0q7 ?hya0q7 (by assumption) ?resta0q7
        case hia0q7 => (simp only [List.getElem?_toArray, List.getElem?_cons_zero, List.getElem?_cons_succ]; rfl)
        case hfa0q7 => kernel_rfl
        case hra0q7 => kernel_rfl
        case hya0q7 => (refine Or.inl ⟨by rfl, ?_⟩; intro w hSw; (try dsimp only at hSw); go_simp; (try with_reducible rfl))
        case hQa0q7 => exact fun _ _ _ h => h
        (try simp only [Act.put, List.setIfInBounds_toArray, List.set_cons_zero, List.set_cons_succ])
        refine wpAnyH_take (i := 8) (oi := ?_) (v := ?_) ?hia0q8 (by kernel_rfl) ?hfa0q8 ?hra0q8 ?hQa0q8 ?hya0q8 (by assumption) ?resta0q8
        case hia0q8 => (simp only [List.getElem?_toArray, List.getElem?_cons_zero, List.getElem?_cons_succ]; rfl)
        case hfa0q8 => kernel_rfl
        case hra0q8 => kernel_rfl
        case hya0q8 => (refine Or.inl ⟨by rfl, ?_⟩; intro w hSw; (try dsimp only at hSw); go_simp; (try with_reducible rfl))
        case hQa0q8 => exact fun _ _ _ h => h
        (try simp only [Act.put, List.setIfInBounds_toArray, List.set_cons_zero, List.set_cons_succ])
        refine wpAnyH_take (i := 9) (oi := ?_) (v := undef) ?hia0q9 (by kernel_rfl) ?hfa0q9 ?hra0q9 ?hQa0q9 ?hya0q9 (by assumption) ?resta0q9
        case hia0q9 => (simp only [List.getElem?_toArray, List.getElem?_cons_zero, List.getElem?_cons_succ]; rfl)
        case hfa0q9 => kernel_rfl
        case hra0q9 => kernel_rfl
        case hya0q9 => exact Or.inr ⟨by rfl, rfl⟩
        case hQa0q9 => exact fun _ _ _ h => h
        (try simp only [Act.put, List.setIfInBounds_toArray, List.set_cons_zero, List.set_cons_succ])
        refine wpAnyH_take (i := 10) (oi := ?_) (v := undef) ?hia0q10 (by kernel_rfl) ?hfa0q10 ?hra0q10 ?hQa0q10 ?hya0q10 (by assumption) ?resta0q10
        case hia0q10 => (simp only [List.getElem?_toArray, List.getElem?_cons_zero, List.getElem?_cons_succ]; rfl)
        case hfa0q10 => kernel_rfl
        case hra0q10 => kernel_rfl
        case hya0q10 => exact Or.inr ⟨by rfl, rfl⟩
        case hQa0q10 => exact fun _ _ _ h => h
        (try simp only [Act.put, List.setIfInBounds_toArray, List.set_cons_zero, List.set_cons_succ])
        refine wpAnyH_take (i := 11) (oi := ?_) (v := ?_) ?hia0q11 (by kernel_rfl) ?hfa0q11 ?hra0q11 ?hQa0q11 ?hya0q11 (by assumption) ?resta0q11
        case hia0q11 => (simp only [List.getElem?_toArray, List.getElem?_cons_zero, List.getElem?_cons_succ]; rfl)
        case hfa0q11 => kernel_rfl
        case hra0q11 => kernel_rfl
        case hya0q11 => (refine Or.inl ⟨by rfl, ?_⟩; intro w hSw; (try dsimp only at hSw); go_simp; (try with_reducible rfl))
        case hQa0q11 => exact fun _ _ _ h => h
        (try simp only [Act.put, List.setIfInBounds_toArray, List.set_cons_zero, List.set_cons_succ])
        refine wpAnyH_take (i := 12) (oi := ?_) (v := ?_) ?hia0q12 (by kernel_rfl) ?hfa0q12 ?hra0q12 ?hQa0q12 ?hya0q12 (by assumption) ?resta0q12
        case hia0q12 => (simp only [List.getElem?_toArray, List.getElem?_cons_zero, List.getElem?_cons_succ]; rfl)
        case hfa0q12 => kernel_rfl
        case hra0q12 => kernel_rfl
        case hya0q12 => (refine Or.inl ⟨by rfl, ?_⟩; intro w hSw; (try dsimp only at hSw); go_simp; (try with_reducible rfl))
        case hQa0q12 => exact fun _ _ _ h => h
        (try simp only [Act.put, List.setIfInBounds_toArray, List.set_cons_zero, List.set_cons_succ])
        refine wpAnyH_take (i := 13) (oi := ?_) (v := ?_) ?hia0q13 (by kernel_rfl) ?hfa0q13 ?hra0q13 ?hQa0q13 ?hya0q13 (by assumption) ?resta0q13
        case hia0q13 => (simp only [List.getElem?_toArray, List.getElem?_cons_zero, List.getElem?_cons_succ]; rfl)
        case hfa0q13 => kernel_rfl
        case hra0q13 => kernel_rfl
        case hya0q13 => (refine Or.inl ⟨by rfl, ?_⟩; intro w hSw; (try dsimp only at hSw); go_simp; (try with_reducible rfl))
        case hQa0q13 => exact fun _ _ _ h => h
        (try simp only [Act.put, List.setIfInBounds_toArray, List.set_cons_zero, List.set_cons_succ])
        refine wpAnyH_take (i := 14) (oi := ?_) (v := ?_) ?hia0q14 (by kernel_rfl) ?hfa0q14 ?hra0q14 ?hQa0q14 ?hya0q14 (by assumption) ?resta0q14
        case hia0q14 => (simp only [List.getElem?_toArray, List.getElem?_cons_zero, List.getElem?_cons_succ]; rfl)
        case hfa0q14 => kernel_rfl
        case hra0q14 => kernel_rfl
        case hya0q14 => (refine Or.inl ⟨by rfl, ?_⟩; intro w hSw; (try dsimp only at hSw); have rr := row_step HROW.out hSw; have c0 := row_cell rr 0; have c1 := row_cell rr 1; have c2 := row_cell rr 2; have c3 := row_cell rr 3; have c4 := row_cell rr 4; simp only [List.getElem?_toArray, List.getElem?_cons_zero, List.getElem?_cons_succ] at c0 c1 c2 c3 c4; go_simp; (try with_reducible rfl))
        case hQa0q14 => exact fun _ _ _ h => h
        (try simp only [Act.put, List.setIfInBounds_toArray, List.set_cons_zero, List.set_cons_succ])
        refine wpAnyH_take (i := 16) (oi := ?_) (v := ?_) ?hia0q16 (by kernel_rfl) ?hfa0q16 ?hra0q16 ?hQa0q16 ?hya0q16 (by assumption) ?resta0q16
        case hia0q16 => (simp only [List.getElem?_toArray, List.getElem?_cons_zero, List.getElem?_cons_succ]; rfl)
        case hfa0q16 => kernel_rfl
        case hra0q16 => kernel_rfl
        case hya0q16 => (refine Or.inl ⟨by rfl, ?_⟩; intro w hSw; (try dsimp only at hSw); have rr := row_step HROW.out hSw; have c0 := row_cell rr 0; have c1 := row_cell rr 1; have c2 := row_cell rr 2; have c3 := row_cell rr 3; have c4 := row_cell rr 4; simp only [List.getElem?_toArray, List.getElem?_cons_zero, List.getElem?_cons_succ] at c0 c1 c2 c3 c4; go_simp; (try with_reducible rfl))
        case hQa0q16 => exact fun _ _ _ h => h
        (try simp only [Act.put, List.setIfInBounds_toArray, List.set_cons_zero, List.set_cons_succ])
        refine wpAnyH_ready (rs := [15]) (by kernel_rfl) (by simp) ?_
        refine AllReadyH.cons (o := ?_) ?hox0q15 ?stx0q15 AllReadyH.nil
        case hox0q15 => (simp only [List.getElem?_toArray, List.getElem?_cons_zero, List.getElem?_cons_succ]; rfl)
        intro K hK
        go_simp
        go_at_call 9; refine (vsize_any 2 _ _ _ _ _ _ _ (4, 0, 0, ⟨#[]⟩, LL) _ (rep_keep hHeld _ _ _ HRC.out) HFI.out.1 HFI.out.2.1).mono ?_; rintro e ws ⟨rfl, hb⟩; rw [show sizeM (measT 2 (4, 0, 0, ⟨#[]⟩, LL)) = sizeT 2 (4, 0, 0, ⟨#[]⟩, LL) from HFI.out.2.2.2]; have hS1 := bel_step hHeld hb; clear hb
        go_wp2_with fail
        refine hK.out _ _ hS1 (fun hHeld2 => ?_)
        clear hK K hHeld hHeld2
        have hHeld := hS1
        clear hS1
        (try simp only [Act.put, List.setIfInBounds_toArray, List.set_cons_zero, List.set_cons_succ])
        refine wpAnyH_ready (rs := [17]) (by kernel_rfl) (by simp) ?_
        refine AllReadyH.cons (o := ?_) ?hox0q17 ?stx0q17 AllReadyH.nil
        case hox0q17 => (simp only [List.getElem?_toArray, List.getElem?_cons_zero, List.getElem?_cons_succ]; rfl)
        intro K hK
        go_simp
        go_at_call 10; refine (size_any 2 _ (4, 0, 0, ⟨#[]⟩, LL) _ (rep_keep hHeld _ _ _ HRC.out)).mono ?_; rintro e ws ⟨rfl, hb⟩; have hS1 := bel_step hHeld hb; clear hb
        go_wp2_with fail
        refine hK.out _ _ hS1 (fun hHeld2 => ?_)
        clear hK K hHeld hHeld2
        have hHeld := hS1
        clear hS1
        (try simp only [Act.put, List.setIfInBounds_toArray, List.set_cons_zero, List.set_cons_succ])
        refine wpAnyH_take (i := 18) (oi := ?_) (v := ?_) ?hix0q18 (by kernel_rfl) ?hfx0q18 ?hrx0q18 ?hQx0q18 ?hyx0q18 (by assumption) ?restx0q18
        case hix0q18 => (simp only [List.getElem?_toArray, List.getElem?_cons_zero, List.getElem?_cons_succ]; rfl)
        case hfx0q18 => kernel_rfl
        case hrx0q18 => kernel_rfl
        case hyx0q18 => (refine Or.inl ⟨by rfl, ?_⟩; intro w hSw; (try dsimp only at hSw); go_simp; (try with_reducible rfl))
        case hQx0q18 => exact fun _ _ _ h => h
        (try simp only [Act.put, List.setIfInBounds_toArray, List.set_cons_zero, List.set_cons_succ])
        refine wpAnyH_take (i := 19) (oi := ?_) (v := ?_) ?hix0q19 (by kernel_rfl) ?hfx0q19 ?hrx0q19 ?hQx0q19 ?hyx0q19 (by assumption) ?restx0q19
        case hix0q19 => (simp only [List.getElem?_toArray, List.getElem?_cons_zero, List.getElem?_cons_succ]; rfl)
        case hfx0q19 => kernel_rfl
        case hrx0q19 => kernel_rfl
        case hyx0q19 => (refine Or.inl ⟨by rfl, ?_⟩; intro w hSw; (try dsimp only at hSw); go_simp; (try with_reducible rfl))
        case hQx0q19 => exact fun _ _ _ h => h
        (try simp only [Act.put, List.setIfInBounds_toArray, List.set_cons_zero, List.set_cons_succ])
        refine wpAnyH_take (i := 20) (oi := ?_) (v := ?_) ?hix0q20 (by kernel_rfl) ?hfx0q20 ?hrx0q20 ?hQx0q20 ?hyx0q20 (by assumption) ?restx0q20
        case hix0q20 => (simp only [List.getElem?_toArray, List.getElem?_cons_zero, List.getElem?_cons_succ]; rfl)
        case hfx0q20 => kernel_rfl
        case hrx0q20 => kernel_rfl
        case hyx0q20 => (refine Or.inl ⟨by rfl, ?_⟩; intro w hSw; (try dsimp only at hSw); go_simp; (try with_reducible rfl))
        case hQx0q20 => exact fun _ _ _ h => h
        (try simp only [Act.put, List.setIfInBounds_toArray, List.set_cons_zero, List.set_cons_succ])
        refine wpAnyH_done (by kernel_rfl) ?_ _
        have HF := Lib.hid (bel_step HBC.out hHeld)
        clear hHeld
        go_wp2
        go_ret
        exact ⟨rfl, HF.out⟩
      · have HRT := Lib.hid (row_set4 HRN.out (.slice p' 17 c'))
        have HBT := Lib.hid (HBN.out.setCell (p := ⟨w1.heap.size, 4, none⟩) HB1.out.size (.slice p' 17 c'))
        have HFI := Lib.hid (fine_lim s1 s2 D hD4 HS1.out HS2.out)
        rw [show decide (D ≤ 2) = true by simp; omega] at HFI
        have HREP := Lib.hid (show Rep (w3.setCell ⟨w1.heap.size, 4, none⟩ (.slice p' 17 c')) 2 (.agg #[.int .i64 4, .int .i64 0, .float .f64 0, .string ⟨#[]⟩, .slice p' 17 c']) (4, 0, 0, ⟨#[]⟩, (List.replicate 16 s1 ++ [s2]).map txtV) from ⟨p', 17, c', rfl, (show okI (4 : Int) from by decide), (show okI (0 : Int) from by decide), (show 0 < 2 ^ 64 from by decide), (show (⟨#[]⟩ : ByteArray).size ≤ maxLen from by decide), ot_rep (ot_store HON.out HNN.out _) (fun u hu => by
          rcases List.mem_append.1 hu with h | h
          · rw [List.eq_of_mem_replicate h, HS1.out]; omega
          · rw [List.mem_singleton.1 h, HS2.out]; omega)⟩)
        obtain ⟨LL, hLL⟩ : ∃ LL, (List.replicate 16 s1 ++ [s2]).map txtV = LL := ⟨_, rfl⟩
        rw [hLL] at HFI HREP
        clear y4 yf x4 b4 hcv hmk2 hLL
        have hrt := HRT.out
        have b0 := row_cell hrt 0; have b1 := row_cell hrt 1; have b2 := row_cell hrt 2; have b3 := row_cell hrt 3; have b4 := row_cell hrt 4
        simp only [List.getElem?_toArray, List.getElem?_cons_zero, List.getElem?_cons_succ] at b0 b1 b2 b3 b4
        clear hrt
        go_wp2_with fail
        go_at_call 8; refine (check_any 2 _ _ _ _ _ _ _ (4, 0, 0, ⟨#[]⟩, LL) _ HREP.out HFI.out.1 HFI.out.2.1).mono ?_; rintro e wc ⟨rfl, hbc⟩
        rw [show checkM (measT 2 (4, 0, 0, ⟨#[]⟩, LL)) = 0 from HFI.out.2.2.1]
        have HROW := Lib.hid (row_step HRT.out hbc)
        have HBC := Lib.hid (bel_step HBT.out hbc)
        have HRC := Lib.hid (rep_keep hbc _ _ _ HREP.out)
        clear hbc b0 b1 b2 b3 b4
        go_wp2
        refine wp_region_held_drew (S := fun w' => Below wc.heap.size wc w') (by kernel_rfl) ?_ (fun hHeld => ?_)
        · exact Below.drew (Below.refl _ _)
        refine wpAnyH_take (i := 0) (oi := ?_) (v := ?_) ?hia1q0 (by kernel_rfl) ?hfa1q0 ?hra1q0 ?hQa1q0 ?hya1q0 (by assumption) ?resta1q0
        case hia1q0 => (simp only [List.getElem?_toArray, List.getElem?_cons_zero, List.getElem?_cons_succ]; rfl)
        case hfa1q0 => kernel_rfl
        case hra1q0 => kernel_rfl
        case hya1q0 => (refine Or.inl ⟨by rfl, ?_⟩; intro w hSw; (try dsimp only at hSw); go_simp; (try with_reducible rfl))
        case hQa1q0 => exact fun _ _ _ h => h
        (try simp only [Act.put, List.setIfInBounds_toArray, List.set_cons_zero, List.set_cons_succ])
        refine wpAnyH_take (i := 1) (oi := ?_) (v := ?_) ?hia1q1 (by kernel_rfl) ?hfa1q1 ?hra1q1 ?hQa1q1 ?hya1q1 (by assumption) ?resta1q1
        case hia1q1 => (simp only [List.getElem?_toArray, List.getElem?_cons_zero, List.getElem?_cons_succ]; rfl)
        case hfa1q1 => kernel_rfl
        case hra1q1 => kernel_rfl
        case hya1q1 => (refine Or.inl ⟨by rfl, ?_⟩; intro w hSw; (try dsimp only at hSw); go_simp; (try with_reducible rfl))
        case hQa1q1 => exact fun _ _ _ h => h
        (try simp only [Act.put, List.setIfInBounds_toArray, List.set_cons_zero, List.set_cons_succ])
        refine wpAnyH_take (i := 2) (oi := ?_) (v := ?_) ?hia1q2 (by kernel_rfl) ?hfa1q2 ?hra1q2 ?hQa1q2 ?hya1q2 (by assumption) ?resta1q2
        case hia1q2 => (simp only [List.getElem?_toArray, List.getElem?_cons_zero, List.getElem?_cons_succ]; rfl)
        case hfa1q2 => kernel_rfl
        case hra1q2 => kernel_rfl
        case hya1q2 => (refine Or.inl ⟨by rfl, ?_⟩; intro w hSw; (try dsimp only at hSw); go_simp; (try with_reducible rfl))
        case hQa1q2 => exact fun _ _ _ h => h
        (try simp only [Act.put, List.setIfInBounds_toArray, List.set_cons_zero, List.set_cons_succ])
        refine wpAnyH_take (i := 3) (oi := ?_) (v := ?_) ?hia1q3 (by kernel_rfl) ?hfa1q3 ?hra1q3 ?hQa1q3 ?hya1q3 (by assumption) ?resta1q3
        case hia1q3 => (simp only [List.getElem?_toArray, List.getElem?_cons_zero, List.getElem?_cons_succ]; rfl)
        case hfa1q3 => kernel_rfl
        case hra1q3 => kernel_rfl
        case hya1q3 => (refine Or.inl ⟨by rfl, ?_⟩; intro w hSw; (try dsimp only at hSw); go_simp; (try with_reducible rfl))
        case hQa1q3 => exact fun _ _ _ h => h
        (try simp only [Act.put, List.setIfInBounds_toArray, List.set_cons_zero, List.set_cons_succ])
        refine wpAnyH_take (i := 4) (oi := ?_) (v := ?_) ?hia1q4 (by kernel_rfl) ?hfa1q4 ?hra1q4 ?hQa1q4 ?hya1q4 (by assumption) ?resta1q4
        case hia1q4 => (simp only [List.getElem?_toArray, List.getElem?_cons_zero, List.getElem?_cons_succ]; rfl)
        case hfa1q4 => kernel_rfl
        case hra1q4 => kernel_rfl
        case hya1q4 => (refine Or.inl ⟨by rfl, ?_⟩; intro w hSw; (try dsimp only at hSw); go_simp; (try with_reducible rfl))
        case hQa1q4 => exact fun _ _ _ h => h
        (try simp only [Act.put, List.setIfInBounds_toArray, List.set_cons_zero, List.set_cons_succ])
        refine wpAnyH_take (i := 5) (oi := ?_) (v := ?_) ?hia1q5 (by kernel_rfl) ?hfa1q5 ?hra1q5 ?hQa1q5 ?hya1q5 (by assumption) ?resta1q5
        case hia1q5 => (simp only [List.getElem?_toArray, List.getElem?_cons_zero, List.getElem?_cons_succ]; rfl)
        case hfa1q5 => kernel_rfl
        case hra1q5 => kernel_rfl
        case hya1q5 => (refine Or.inl ⟨by rfl, ?_⟩; intro w hSw; (try dsimp only at hSw); go_simp; (try with_reducible rfl))
        case hQa1q5 => exact fun _ _ _ h => h
        (try simp only [Act.put, List.setIfInBounds_toArray, List.set_cons_zero, List.set_cons_succ])
        refine wpAnyH_take (i := 6) (oi := ?_) (v := ?_) ?hia1q6 (by kernel_rfl) ?hfa1q6 ?hra1q6 ?hQa1q6 ?hya1q6 (by assumption) ?resta1q6
        case hia1q6 => (simp only [List.getElem?_toArray, List.getElem?_cons_zero, List.getElem?_cons_succ]; rfl)
        case hfa1q6 => kernel_rfl
        case hra1q6 => kernel_rfl
        case hya1q6 => (refine Or.inl ⟨by rfl, ?_⟩; intro w hSw; (try dsimp only at hSw); go_simp; (try with_reducible rfl))
        case hQa1q6 => exact fun _ _ _ h => h
        (try simp only [Act.put, List.setIfInBounds_toArray, List.set_cons_zero, List.set_cons_succ])
        refine wpAnyH_take (i := 7) (oi := ?_) (v := ?_) ?hia1q7 (by kernel_rfl) ?hfa1q7 ?hra1q7 ?hQa1q7 ?hya1q7 (by assumption) ?resta1q7
        case hia1q7 => (simp only [List.getElem?_toArray, List.getElem?_cons_zero, List.getElem?_cons_succ]; rfl)
        case hfa1q7 => kernel_rfl
        case hra1q7 => kernel_rfl
        case hya1q7 => (refine Or.inl ⟨by rfl, ?_⟩; intro w hSw; (try dsimp only at hSw); go_simp; (try with_reducible rfl))
        case hQa1q7 => exact fun _ _ _ h => h
        (try simp only [Act.put, List.setIfInBounds_toArray, List.set_cons_zero, List.set_cons_succ])
        refine wpAnyH_take (i := 8) (oi := ?_) (v := ?_) ?hia1q8 (by kernel_rfl) ?hfa1q8 ?hra1q8 ?hQa1q8 ?hya1q8 (by assumption) ?resta1q8
        case hia1q8 => (simp only [List.getElem?_toArray, List.getElem?_cons_zero, List.getElem?_cons_succ]; rfl)
        case hfa1q8 => kernel_rfl
        case hra1q8 => kernel_rfl
        case hya1q8 => (refine Or.inl ⟨by rfl, ?_⟩; intro w hSw; (try dsimp only at hSw); go_simp; (try with_reducible rfl))
        case hQa1q8 => exact fun _ _ _ h => h
        (try simp only [Act.put, List.setIfInBounds_toArray, List.set_cons_zero, List.set_cons_succ])
        refine wpAnyH_take (i := 9) (oi := ?_) (v := undef) ?hia1q9 (by kernel_rfl) ?hfa1q9 ?hra1q9 ?hQa1q9 ?hya1q9 (by assumption) ?resta1q9
        case hia1q9 => (simp only [List.getElem?_toArray, List.getElem?_cons_zero, List.getElem?_cons_succ]; rfl)
        case hfa1q9 => kernel_rfl
        case hra1q9 => kernel_rfl
        case hya1q9 => exact Or.inr ⟨by rfl, rfl⟩
        case hQa1q9 => exact fun _ _ _ h => h
        (try simp only [Act.put, List.setIfInBounds_toArray, List.set_cons_zero, List.set_cons_succ])
        refine wpAnyH_take (i := 10) (oi := ?_) (v := undef) ?hia1q10 (by kernel_rfl) ?hfa1q10 ?hra1q10 ?hQa1q10 ?hya1q10 (by assumption) ?resta1q10
        case hia1q10 => (simp only [List.getElem?_toArray, List.getElem?_cons_zero, List.getElem?_cons_succ]; rfl)
        case hfa1q10 => kernel_rfl
        case hra1q10 => kernel_rfl
        case hya1q10 => exact Or.inr ⟨by rfl, rfl⟩
        case hQa1q10 => exact fun _ _ _ h => h
        (try simp only [Act.put, List.setIfInBounds_toArray, List.set_cons_zero, List.set_cons_succ])
        refine wpAnyH_take (i := 11) (oi := ?_) (v := ?_) ?hia1q11 (by kernel_rfl) ?hfa1q11 ?hra1q11 ?hQa1q11 ?hya1q11 (by assumption) ?resta1q11
        case hia1q11 => (simp only [List.getElem?_toArray, List.getElem?_cons_zero, List.getElem?_cons_succ]; rfl)
        case hfa1q11 => kernel_rfl
        case hra1q11 => kernel_rfl
        case hya1q11 => (refine Or.inl ⟨by rfl, ?_⟩; intro w hSw; (try dsimp only at hSw); go_simp; (try with_reducible rfl))
        case hQa1q11 => exact fun _ _ _ h => h
        (try simp only [Act.put, List.setIfInBounds_toArray, List.set_cons_zero, List.set_cons_succ])
        refine wpAnyH_take (i := 12) (oi := ?_) (v := ?_) ?hia1q12 (by kernel_rfl) ?hfa1q12 ?hra1q12 ?hQa1q12 ?hya1q12 (by assumption) ?resta1q12
        case hia1q12 => (simp only [List.getElem?_toArray, List.getElem?_cons_zero, List.getElem?_cons_succ]; rfl)
        case hfa1q12 => kernel_rfl
        case hra1q12 => kernel_rfl
        case hya1q12 => (refine Or.inl ⟨by rfl, ?_⟩; intro w hSw; (try dsimp only at hSw); go_simp; (try with_reducible rfl))
        case hQa1q12 => exact fun _ _ _ h => h
        (try simp only [Act.put, List.setIfInBounds_toArray, List.set_cons_zero, List.set_cons_succ])
        refine wpAnyH_take (i := 13) (oi := ?_) (v := ?_) ?hia1q13 (by kernel_rfl) ?hfa1q13 ?hra1q13 ?hQa1q13 ?hya1q13 (by assumption) ?resta1q13
        case hia1q13 => (simp only [List.getElem?_toArray, List.getElem?_cons_zero, List.getElem?_cons_succ]; rfl)
        case hfa1q13 => kernel_rfl
        case hra1q13 => kernel_rfl
        case hya1q13 => (refine Or.inl ⟨by rfl, ?_⟩; intro w hSw; (try dsimp only at hSw); go_simp; (try with_reducible rfl))
        case hQa1q13 => exact fun _ _ _ h => h
        (try simp only [Act.put, List.setIfInBounds_toArray, List.set_cons_zero, List.set_cons_succ])
        refine wpAnyH_take (i := 14) (oi := ?_) (v := ?_) ?hia1q14 (by kernel_rfl) ?hfa1q14 ?hra1q14 ?hQa1q14 ?hya1q14 (by assumption) ?resta1q14
        case hia1q14 => (simp only [List.getElem?_toArray, List.getElem?_cons_zero, List.getElem?_cons_succ]; rfl)
        case hfa1q14 => kernel_rfl
        case hra1q14 => kernel_rfl
        case hya1q14 => (refine Or.inl ⟨by rfl, ?_⟩; intro w hSw; (try dsimp only at hSw); have rr := row_step HROW.out hSw; have c0 := row_cell rr 0; have c1 := row_cell rr 1; have c2 := row_cell rr 2; have c3 := row_cell rr 3; have c4 := row_cell rr 4; simp only [List.getElem?_toArray, List.getElem?_cons_zero, List.getElem?_cons_succ] at c0 c1 c2 c3 c4; go_simp; (try with_reducible rfl))
        case hQa1q14 => exact fun _ _ _ h => h
        (try simp only [Act.put, List.setIfInBounds_toArray, List.set_cons_zero, List.set_cons_succ])
        refine wpAnyH_take (i := 16) (oi := ?_) (v := ?_) ?hia1q16 (by kernel_rfl) ?hfa1q16 ?hra1q16 ?hQa1q16 ?hya1q16 (by assumption) ?resta1q16
        case hia1q16 => (simp only [List.getElem?_toArray, List.getElem?_cons_zero, List.getElem?_cons_succ]; rfl)
        case hfa1q16 => kernel_rfl
        case hra1q16 => kernel_rfl
        case hya1q16 => (refine Or.inl ⟨by rfl, ?_⟩; intro w hSw; (try dsimp only at hSw); have rr := row_step HROW.out hSw; have c0 := row_cell rr 0; have c1 := row_cell rr 1; have c2 := row_cell rr 2; have c3 := row_cell rr 3; have c4 := row_cell rr 4; simp only [List.getElem?_toArray, List.getElem?_cons_zero, List.getElem?_cons_succ] at c0 c1 c2 c3 c4; go_simp; (try with_reducible rfl))
        case hQa1q16 => exact fun _ _ _ h => h
        (try simp only [Act.put, List.setIfInBounds_toArray, List.set_cons_zero, List.set_cons_succ])
        refine wpAnyH_ready (rs := [15]) (by kernel_rfl) (by simp) ?_
        refine AllReadyH.cons (o := ?_) ?hox1q15 ?stx1q15 AllReadyH.nil
        case hox1q15 => (simp only [List.getElem?_toArray, List.getElem?_cons_zero, List.getElem?_cons_succ]; rfl)
        intro K hK
        go_simp
        go_at_call 9; refine (vsize_any 2 _ _ _ _ _ _ _ (4, 0, 0, ⟨#[]⟩, LL) _ (rep_keep hHeld _ _ _ HRC.out) HFI.out.1 HFI.out.2.1).mono ?_; rintro e ws ⟨rfl, hb⟩; rw [show sizeM (measT 2 (4, 0, 0, ⟨#[]⟩, LL)) = sizeT 2 (4, 0, 0, ⟨#[]⟩, LL) from HFI.out.2.2.2]; have hS1 := bel_step hHeld hb; clear hb
        go_wp2_with fail
        refine hK.out _ _ hS1 (fun hHeld2 => ?_)
        clear hK K hHeld hHeld2
        have hHeld := hS1
        clear hS1
        (try simp only [Act.put, List.setIfInBounds_toArray, List.set_cons_zero, List.set_cons_succ])
        refine wpAnyH_ready (rs := [17]) (by kernel_rfl) (by simp) ?_
        refine AllReadyH.cons (o := ?_) ?hox1q17 ?stx1q17 AllReadyH.nil
        case hox1q17 => (simp only [List.getElem?_toArray, List.getElem?_cons_zero, List.getElem?_cons_succ]; rfl)
        intro K hK
        go_simp
        go_at_call 10; refine (size_any 2 _ (4, 0, 0, ⟨#[]⟩, LL) _ (rep_keep hHeld _ _ _ HRC.out)).mono ?_; rintro e ws ⟨rfl, hb⟩; have hS1 := bel_step hHeld hb; clear hb
        go_wp2_with fail
        refine hK.out _ _ hS1 (fun hHeld2 => ?_)
        clear hK K hHeld hHeld2
        have hHeld := hS1
        clear hS1
        (try simp only [Act.put, List.setIfInBounds_toArray, List.set_cons_zero, List.set_cons_succ])
        refine wpAnyH_take (i := 18) (oi := ?_) (v := ?_) ?hix1q18 (by kernel_rfl) ?hfx1q18 ?hrx1q18 ?hQx1q18 ?hyx1q18 (by assumption) ?restx1q18
        case hix1q18 => (simp only [List.getElem?_toArray, List.getElem?_cons_zero, List.getElem?_cons_succ]; rfl)
        case hfx1q18 => kernel_rfl
        case hrx1q18 => kernel_rfl
        case hyx1q18 => (refine Or.inl ⟨by rfl, ?_⟩; intro w hSw; (try dsimp only at hSw); go_simp; (try with_reducible rfl))
        case hQx1q18 => exact fun _ _ _ h => h
        (try simp only [Act.put, List.setIfInBounds_toArray, List.set_cons_zero, List.set_cons_succ])
        refine wpAnyH_take (i := 19) (oi := ?_) (v := ?_) ?hix1q19 (by kernel_rfl) ?hfx1q19 ?hrx1q19 ?hQx1q19 ?hyx1q19 (by assumption) ?restx1q19
        case hix1q19 => (simp only [List.getElem?_toArray, List.getElem?_cons_zero, List.getElem?_cons_succ]; rfl)
        case hfx1q19 => kernel_rfl
        case hrx1q19 => kernel_rfl
        case hyx1q19 => (refine Or.inl ⟨by rfl, ?_⟩; intro w hSw; (try dsimp only at hSw); go_simp; (try with_reducible rfl))
        case hQx1q19 => exact fun _ _ _ h => h
        (try simp only [Act.put, List.setIfInBounds_toArray, List.set_cons_zero, List.set_cons_succ])
        refine wpAnyH_take (i := 20) (oi := ?_) (v := ?_) ?hix1q20 (by kernel_rfl) ?hfx1q20 ?hrx1q20 ?hQx1q20 ?hyx1q20 (by assumption) ?restx1q20
        case hix1q20 => (simp only [List.getElem?_toArray, List.getElem?_cons_zero, List.getElem?_cons_succ]; rfl)
        case hfx1q20 => kernel_rfl
        case hrx1q20 => kernel_rfl
        case hyx1q20 => (refine Or.inl ⟨by rfl, ?_⟩; intro w hSw; (try dsimp only at hSw); go_simp; (try with_reducible rfl))
        case hQx1q20 => exact fun _ _ _ h => h
        (try simp only [Act.put, List.setIfInBounds_toArray, List.set_cons_zero, List.set_cons_succ])
        refine wpAnyH_done (by kernel_rfl) ?_ _
        have HF := Lib.hid (bel_step HBC.out hHeld)
        clear hHeld
        go_wp2
        go_ret
        exact ⟨rfl, HF.out⟩
      · have HRT := Lib.hid (row_set4 HRN.out (.slice p' 17 c'))
        have HBT := Lib.hid (HBN.out.setCell (p := ⟨w1.heap.size, 4, none⟩) HB1.out.size (.slice p' 17 c'))
        have HFI := Lib.hid (fine_lim s1 s2 D hD4 HS1.out HS2.out)
        rw [show decide (D ≤ 2) = true by simp; omega] at HFI
        have HREP := Lib.hid (show Rep (w3.setCell ⟨w1.heap.size, 4, none⟩ (.slice p' 17 c')) 2 (.agg #[.int .i64 4, .int .i64 0, .float .f64 0, .string ⟨#[]⟩, .slice p' 17 c']) (4, 0, 0, ⟨#[]⟩, (List.replicate 16 s1 ++ [s2]).map txtV) from ⟨p', 17, c', rfl, (show okI (4 : Int) from by decide), (show okI (0 : Int) from by decide), (show 0 < 2 ^ 64 from by decide), (show (⟨#[]⟩ : ByteArray).size ≤ maxLen from by decide), ot_rep (ot_store HON.out HNN.out _) (fun u hu => by
          rcases List.mem_append.1 hu with h | h
          · rw [List.eq_of_mem_replicate h, HS1.out]; omega
          · rw [List.mem_singleton.1 h, HS2.out]; omega)⟩)
        obtain ⟨LL, hLL⟩ : ∃ LL, (List.replicate 16 s1 ++ [s2]).map txtV = LL := ⟨_, rfl⟩
        rw [hLL] at HFI HREP
        clear y4 yf x4 b4 hcv hmk2 hLL
        have hrt := HRT.out
        have b0 := row_cell hrt 0; have b1 := row_cell hrt 1; have b2 := row_cell hrt 2; have b3 := row_cell hrt 3; have b4 := row_cell hrt 4
        simp only [List.getElem?_toArray, List.getElem?_cons_zero, List.getElem?_cons_succ] at b0 b1 b2 b3 b4
        clear hrt
        go_wp2_with fail
        go_at_call 8; refine (check_any 2 _ _ _ _ _ _ _ (4, 0, 0, ⟨#[]⟩, LL) _ HREP.out HFI.out.1 HFI.out.2.1).mono ?_; rintro e wc ⟨rfl, hbc⟩
        rw [show checkM (measT 2 (4, 0, 0, ⟨#[]⟩, LL)) = 0 from HFI.out.2.2.1]
        have HROW := Lib.hid (row_step HRT.out hbc)
        have HBC := Lib.hid (bel_step HBT.out hbc)
        have HRC := Lib.hid (rep_keep hbc _ _ _ HREP.out)
        clear hbc b0 b1 b2 b3 b4
        go_wp2
        refine wp_region_held_drew (S := fun w' => Below wc.heap.size wc w') (by kernel_rfl) ?_ (fun hHeld => ?_)
        · exact Below.drew (Below.refl _ _)
        refine wpAnyH_take (i := 0) (oi := ?_) (v := ?_) ?hia2q0 (by kernel_rfl) ?hfa2q0 ?hra2q0 ?hQa2q0 ?hya2q0 (by assumption) ?resta2q0
        case hia2q0 => (simp only [List.getElem?_toArray, List.getElem?_cons_zero, List.getElem?_cons_succ]; rfl)
        case hfa2q0 => kernel_rfl
        case hra2q0 => kernel_rfl
        case hya2q0 => (refine Or.inl ⟨by rfl, ?_⟩; intro w hSw; (try dsimp only at hSw); go_simp; (try with_reducible rfl))
        case hQa2q0 => exact fun _ _ _ h => h
        (try simp only [Act.put, List.setIfInBounds_toArray, List.set_cons_zero, List.set_cons_succ])
        refine wpAnyH_take (i := 1) (oi := ?_) (v := ?_) ?hia2q1 (by kernel_rfl) ?hfa2q1 ?hra2q1 ?hQa2q1 ?hya2q1 (by assumption) ?resta2q1
        case hia2q1 => (simp only [List.getElem?_toArray, List.getElem?_cons_zero, List.getElem?_cons_succ]; rfl)
        case hfa2q1 => kernel_rfl
        case hra2q1 => kernel_rfl
        case hya2q1 => (refine Or.inl ⟨by rfl, ?_⟩; intro w hSw; (try dsimp only at hSw); go_simp; (try with_reducible rfl))
        case hQa2q1 => exact fun _ _ _ h => h
        (try simp only [Act.put, List.setIfInBounds_toArray, List.set_cons_zero, List.set_cons_succ])
        refine wpAnyH_take (i := 2) (oi := ?_) (v := ?_) ?hia2q2 (by kernel_rfl) ?hfa2q2 ?hra2q2 ?hQa2q2 ?hya2q2 (by assumption) ?resta2q2
        case hia2q2 => (simp only [List.getElem?_toArray, List.getElem?_cons_zero, List.getElem?_cons_succ]; rfl)
        case hfa2q2 => kernel_rfl
        case hra2q2 => kernel_rfl
        case hya2q2 => (refine Or.inl ⟨by rfl, ?_⟩; intro w hSw; (try dsimp only at hSw); go_simp; (try with_reducible rfl))
        case hQa2q2 => exact fun _ _ _ h => h
        (try simp only [Act.put, List.setIfInBounds_toArray, List.set_cons_zero, List.set_cons_succ])
        refine wpAnyH_take (i := 3) (oi := ?_) (v := ?_) ?hia2q3 (by kernel_rfl) ?hfa2q3 ?hra2q3 ?hQa2q3 ?hya2q3 (by assumption) ?resta2q3
        case hia2q3 => (simp only [List.getElem?_toArray, List.getElem?_cons_zero, List.getElem?_cons_succ]; rfl)
        case hfa2q3 => kernel_rfl
        case hra2q3 => kernel_rfl
        case hya2q3 => (refine Or.inl ⟨by rfl, ?_⟩; intro w hSw; (try dsimp only at hSw); go_simp; (try with_reducible rfl))
        case hQa2q3 => exact fun _ _ _ h => h
        (try simp only [Act.put, List.setIfInBounds_toArray, List.set_cons_zero, List.set_cons_succ])
        refine wpAnyH_take (i := 4) (oi := ?_) (v := ?_) ?hia2q4 (by kernel_rfl) ?hfa2q4 ?hra2q4 ?hQa2q4 ?hya2q4 (by assumption) ?resta2q4
        case hia2q4 => (simp only [List.getElem?_toArray, List.getElem?_cons_zero, List.getElem?_cons_succ]; rfl)
        case hfa2q4 => kernel_rfl
        case hra2q4 => kernel_rfl
        case hya2q4 => (refine Or.inl ⟨by rfl, ?_⟩; intro w hSw; (try dsimp only at hSw); go_simp; (try with_reducible rfl))
        case hQa2q4 => exact fun _ _ _ h => h
        (try simp only [Act.put, List.setIfInBounds_toArray, List.set_cons_zero, List.set_cons_succ])
        refine wpAnyH_take (i := 5) (oi := ?_) (v := ?_) ?hia2q5 (by kernel_rfl) ?hfa2q5 ?hra2q5 ?hQa2q5 ?hya2q5 (by assumption) ?resta2q5
        case hia2q5 => (simp only [List.getElem?_toArray, List.getElem?_cons_zero, List.getElem?_cons_succ]; rfl)
        case hfa2q5 => kernel_rfl
        case hra2q5 => kernel_rfl
        case hya2q5 => (refine Or.inl ⟨by rfl, ?_⟩; intro w hSw; (try dsimp only at hSw); go_simp; (try with_reducible rfl))
        case hQa2q5 => exact fun _ _ _ h => h
        (try simp only [Act.put, List.setIfInBounds_toArray, List.set_cons_zero, List.set_cons_succ])
        refine wpAnyH_take (i := 6) (oi := ?_) (v := ?_) ?hia2q6 (by kernel_rfl) ?hfa2q6 ?hra2q6 ?hQa2q6 ?hya2q6 (by assumption) ?resta2q6
        case hia2q6 => (simp only [List.getElem?_toArray, List.getElem?_cons_zero, List.getElem?_cons_succ]; rfl)
        case hfa2q6 => kernel_rfl
        case hra2q6 => kernel_rfl
        case hya2q6 => (refine Or.inl ⟨by rfl, ?_⟩; intro w hSw; (try dsimp only at hSw); go_simp; (try with_reducible rfl))
        case hQa2q6 => exact fun _ _ _ h => h
        (try simp only [Act.put, List.setIfInBounds_toArray, List.set_cons_zero, List.set_cons_succ])
        refine wpAnyH_take (i := 7) (oi := ?_) (v := ?_) ?hia2q7 (by kernel_rfl) ?hfa2q7 ?hra2q7 ?hQa2q7 ?hya2q7 (by assumption) ?resta2q7
        case hia2q7 => (simp only [List.getElem?_toArray, List.getElem?_cons_zero, List.getElem?_cons_succ]; rfl)
        case hfa2q7 => kernel_rfl
        case hra2q7 => kernel_rfl
        case hya2q7 => (refine Or.inl ⟨by rfl, ?_⟩; intro w hSw; (try dsimp only at hSw); go_simp; (try with_reducible rfl))
        case hQa2q7 => exact fun _ _ _ h => h
        (try simp only [Act.put, List.setIfInBounds_toArray, List.set_cons_zero, List.set_cons_succ])
        refine wpAnyH_take (i := 8) (oi := ?_) (v := ?_) ?hia2q8 (by kernel_rfl) ?hfa2q8 ?hra2q8 ?hQa2q8 ?hya2q8 (by assumption) ?resta2q8
        case hia2q8 => (simp only [List.getElem?_toArray, List.getElem?_cons_zero, List.getElem?_cons_succ]; rfl)
        case hfa2q8 => kernel_rfl
        case hra2q8 => kernel_rfl
        case hya2q8 => (refine Or.inl ⟨by rfl, ?_⟩; intro w hSw; (try dsimp only at hSw); go_simp; (try with_reducible rfl))
        case hQa2q8 => exact fun _ _ _ h => h
        (try simp only [Act.put, List.setIfInBounds_toArray, List.set_cons_zero, List.set_cons_succ])
        refine wpAnyH_take (i := 9) (oi := ?_) (v := undef) ?hia2q9 (by kernel_rfl) ?hfa2q9 ?hra2q9 ?hQa2q9 ?hya2q9 (by assumption) ?resta2q9
        case hia2q9 => (simp only [List.getElem?_toArray, List.getElem?_cons_zero, List.getElem?_cons_succ]; rfl)
        case hfa2q9 => kernel_rfl
        case hra2q9 => kernel_rfl
        case hya2q9 => exact Or.inr ⟨by rfl, rfl⟩
        case hQa2q9 => exact fun _ _ _ h => h
        (try simp only [Act.put, List.setIfInBounds_toArray, List.set_cons_zero, List.set_cons_succ])
        refine wpAnyH_take (i := 10) (oi := ?_) (v := undef) ?hia2q10 (by kernel_rfl) ?hfa2q10 ?hra2q10 ?hQa2q10 ?hya2q10 (by assumption) ?resta2q10
        case hia2q10 => (simp only [List.getElem?_toArray, List.getElem?_cons_zero, List.getElem?_cons_succ]; rfl)
        case hfa2q10 => kernel_rfl
        case hra2q10 => kernel_rfl
        case hya2q10 => exact Or.inr ⟨by rfl, rfl⟩
        case hQa2q10 => exact fun _ _ _ h => h
        (try simp only [Act.put, List.setIfInBounds_toArray, List.set_cons_zero, List.set_cons_succ])
        refine wpAnyH_take (i := 11) (oi := ?_) (v := ?_) ?hia2q11 (by kernel_rfl) ?hfa2q11 ?hra2q11 ?hQa2q11 ?hya2q11 (by assumption) ?resta2q11
        case hia2q11 => (simp only [List.getElem?_toArray, List.getElem?_cons_zero, List.getElem?_cons_succ]; rfl)
        case hfa2q11 => kernel_rfl
        case hra2q11 => kernel_rfl
        case hya2q11 => (refine Or.inl ⟨by rfl, ?_⟩; intro w hSw; (try dsimp only at hSw); go_simp; (try with_reducible rfl))
        case hQa2q11 => exact fun _ _ _ h => h
        (try simp only [Act.put, List.setIfInBounds_toArray, List.set_cons_zero, List.set_cons_succ])
        refine wpAnyH_take (i := 12) (oi := ?_) (v := ?_) ?hia2q12 (by kernel_rfl) ?hfa2q12 ?hra2q12 ?hQa2q12 ?hya2q12 (by assumption) ?resta2q12
        case hia2q12 => (simp only [List.getElem?_toArray, List.getElem?_cons_zero, List.getElem?_cons_succ]; rfl)
        case hfa2q12 => kernel_rfl
        case hra2q12 => kernel_rfl
        case hya2q12 => (refine Or.inl ⟨by rfl, ?_⟩; intro w hSw; (try dsimp only at hSw); go_simp; (try with_reducible rfl))
        case hQa2q12 => exact fun _ _ _ h => h
        (try simp only [Act.put, List.setIfInBounds_toArray, List.set_cons_zero, List.set_cons_succ])
        refine wpAnyH_take (i := 13) (oi := ?_) (v := ?_) ?hia2q13 (by kernel_rfl) ?hfa2q13 ?hra2q13 ?hQa2q13 ?hya2q13 (by assumption) ?resta2q13
        case hia2q13 => (simp only [List.getElem?_toArray, List.getElem?_cons_zero, List.getElem?_cons_succ]; rfl)
        case hfa2q13 => kernel_rfl
        case hra2q13 => kernel_rfl
        case hya2q13 => (refine Or.inl ⟨by rfl, ?_⟩; intro w hSw; (try dsimp only at hSw); go_simp; (try with_reducible rfl))
        case hQa2q13 => exact fun _ _ _ h => h
        (try simp only [Act.put, List.setIfInBounds_toArray, List.set_cons_zero, List.set_cons_succ])
        refine wpAnyH_take (i := 14) (oi := ?_) (v := ?_) ?hia2q14 (by kernel_rfl) ?hfa2q14 ?hra2q14 ?hQa2q14 ?hya2q14 (by assumption) ?resta2q14
        case hia2q14 => (simp only [List.getElem?_toArray, List.getElem?_cons_zero, List.getElem?_cons_succ]; rfl)
        case hfa2q14 => kernel_rfl
        case hra2q14 => kernel_rfl
        case hya2q14 => (refine Or.inl ⟨by rfl, ?_⟩; intro w hSw; (try dsimp only at hSw); have rr := row_step HROW.out hSw; have c0 := row_cell rr 0; have c1 := row_cell rr 1; have c2 := row_cell rr 2; have c3 := row_cell rr 3; have c4 := row_cell rr 4; simp only [List.getElem?_toArray, List.getElem?_cons_zero, List.getElem?_cons_succ] at c0 c1 c2 c3 c4; go_simp; (try with_reducible rfl))
        case hQa2q14 => exact fun _ _ _ h => h
        (try simp only [Act.put, List.setIfInBounds_toArray, List.set_cons_zero, List.set_cons_succ])
        refine wpAnyH_take (i := 16) (oi := ?_) (v := ?_) ?hia2q16 (by kernel_rfl) ?hfa2q16 ?hra2q16 ?hQa2q16 ?hya2q16 (by assumption) ?resta2q16
        case hia2q16 => (simp only [List.getElem?_toArray, List.getElem?_cons_zero, List.getElem?_cons_succ]; rfl)
        case hfa2q16 => kernel_rfl
        case hra2q16 => kernel_rfl
        case hya2q16 => (refine Or.inl ⟨by rfl, ?_⟩; intro w hSw; (try dsimp only at hSw); have rr := row_step HROW.out hSw; have c0 := row_cell rr 0; have c1 := row_cell rr 1; have c2 := row_cell rr 2; have c3 := row_cell rr 3; have c4 := row_cell rr 4; simp only [List.getElem?_toArray, List.getElem?_cons_zero, List.getElem?_cons_succ] at c0 c1 c2 c3 c4; go_simp; (try with_reducible rfl))
        case hQa2q16 => exact fun _ _ _ h => h
        (try simp only [Act.put, List.setIfInBounds_toArray, List.set_cons_zero, List.set_cons_succ])
        refine wpAnyH_ready (rs := [15]) (by kernel_rfl) (by simp) ?_
        refine AllReadyH.cons (o := ?_) ?hox2q15 ?stx2q15 AllReadyH.nil
        case hox2q15 => (simp only [List.getElem?_toArray, List.getElem?_cons_zero, List.getElem?_cons_succ]; rfl)
        intro K hK
        go_simp
        go_at_call 9; refine (vsize_any 2 _ _ _ _ _ _ _ (4, 0, 0, ⟨#[]⟩, LL) _ (rep_keep hHeld _ _ _ HRC.out) HFI.out.1 HFI.out.2.1).mono ?_; rintro e ws ⟨rfl, hb⟩; rw [show sizeM (measT 2 (4, 0, 0, ⟨#[]⟩, LL)) = sizeT 2 (4, 0, 0, ⟨#[]⟩, LL) from HFI.out.2.2.2]; have hS1 := bel_step hHeld hb; clear hb
        go_wp2_with fail
        refine hK.out _ _ hS1 (fun hHeld2 => ?_)
        clear hK K hHeld hHeld2
        have hHeld := hS1
        clear hS1
        (try simp only [Act.put, List.setIfInBounds_toArray, List.set_cons_zero, List.set_cons_succ])
        refine wpAnyH_ready (rs := [17]) (by kernel_rfl) (by simp) ?_
        refine AllReadyH.cons (o := ?_) ?hox2q17 ?stx2q17 AllReadyH.nil
        case hox2q17 => (simp only [List.getElem?_toArray, List.getElem?_cons_zero, List.getElem?_cons_succ]; rfl)
        intro K hK
        go_simp
        go_at_call 10; refine (size_any 2 _ (4, 0, 0, ⟨#[]⟩, LL) _ (rep_keep hHeld _ _ _ HRC.out)).mono ?_; rintro e ws ⟨rfl, hb⟩; have hS1 := bel_step hHeld hb; clear hb
        go_wp2_with fail
        refine hK.out _ _ hS1 (fun hHeld2 => ?_)
        clear hK K hHeld hHeld2
        have hHeld := hS1
        clear hS1
        (try simp only [Act.put, List.setIfInBounds_toArray, List.set_cons_zero, List.set_cons_succ])
        refine wpAnyH_take (i := 18) (oi := ?_) (v := ?_) ?hix2q18 (by kernel_rfl) ?hfx2q18 ?hrx2q18 ?hQx2q18 ?hyx2q18 (by assumption) ?restx2q18
        case hix2q18 => (simp only [List.getElem?_toArray, List.getElem?_cons_zero, List.getElem?_cons_succ]; rfl)
        case hfx2q18 => kernel_rfl
        case hrx2q18 => kernel_rfl
        case hyx2q18 => (refine Or.inl ⟨by rfl, ?_⟩; intro w hSw; (try dsimp only at hSw); go_simp; (try with_reducible rfl))
        case hQx2q18 => exact fun _ _ _ h => h
        (try simp only [Act.put, List.setIfInBounds_toArray, List.set_cons_zero, List.set_cons_succ])
        refine wpAnyH_take (i := 19) (oi := ?_) (v := ?_) ?hix2q19 (by kernel_rfl) ?hfx2q19 ?hrx2q19 ?hQx2q19 ?hyx2q19 (by assumption) ?restx2q19
        case hix2q19 => (simp only [List.getElem?_toArray, List.getElem?_cons_zero, List.getElem?_cons_succ]; rfl)
        case hfx2q19 => kernel_rfl
        case hrx2q19 => kernel_rfl
        case hyx2q19 => (refine Or.inl ⟨by rfl, ?_⟩; intro w hSw; (try dsimp only at hSw); go_simp; (try with_reducible rfl))
        case hQx2q19 => exact fun _ _ _ h => h
        (try simp only [Act.put, List.setIfInBounds_toArray, List.set_cons_zero, List.set_cons_succ])
        refine wpAnyH_take (i := 20) (oi := ?_) (v := ?_) ?hix2q20 (by kernel_rfl) ?hfx2q20 ?hrx2q20 ?hQx2q20 ?hyx2q20 (by assumption) ?restx2q20
        case hix2q20 => (simp only [List.getElem?_toArray, List.getElem?_cons_zero, List.getElem?_cons_succ]; rfl)
        case hfx2q20 => kernel_rfl
        case hrx2q20 => kernel_rfl
        case hyx2q20 => (refine Or.inl ⟨by rfl, ?_⟩; intro w hSw; (try dsimp only at hSw); go_simp; (try with_reducible rfl))
        case hQx2q20 => exact fun _ _ _ h => h
        (try simp only [Act.put, List.setIfInBounds_toArray, List.set_cons_zero, List.set_cons_succ])
        refine wpAnyH_done (by kernel_rfl) ?_ _
        have HF := Lib.hid (bel_step HBC.out hHeld)
        clear hHeld
        go_wp2
        go_ret
        exact ⟨rfl, HF.out⟩
      · have HRT := Lib.hid (row_set4 HRN.out (.slice p' 17 c'))
        have HBT := Lib.hid (HBN.out.setCell (p := ⟨w1.heap.size, 4, none⟩) HB1.out.size (.slice p' 17 c'))
        have HFI := Lib.hid (fine_lim s1 s2 D hD4 HS1.out HS2.out)
        rw [show decide (D ≤ 2) = true by simp; omega] at HFI
        have HREP := Lib.hid (show Rep (w3.setCell ⟨w1.heap.size, 4, none⟩ (.slice p' 17 c')) 2 (.agg #[.int .i64 4, .int .i64 0, .float .f64 0, .string ⟨#[]⟩, .slice p' 17 c']) (4, 0, 0, ⟨#[]⟩, (List.replicate 16 s1 ++ [s2]).map txtV) from ⟨p', 17, c', rfl, (show okI (4 : Int) from by decide), (show okI (0 : Int) from by decide), (show 0 < 2 ^ 64 from by decide), (show (⟨#[]⟩ : ByteArray).size ≤ maxLen from by decide), ot_rep (ot_store HON.out HNN.out _) (fun u hu => by
          rcases List.mem_append.1 hu with h | h
          · rw [List.eq_of_mem_replicate h, HS1.out]; omega
          · rw [List.mem_singleton.1 h, HS2.out]; omega)⟩)
        obtain ⟨LL, hLL⟩ : ∃ LL, (List.replicate 16 s1 ++ [s2]).map txtV = LL := ⟨_, rfl⟩
        rw [hLL] at HFI HREP
        clear y4 yf x4 b4 hcv hmk2 hLL
        have hrt := HRT.out
        have b0 := row_cell hrt 0; have b1 := row_cell hrt 1; have b2 := row_cell hrt 2; have b3 := row_cell hrt 3; have b4 := row_cell hrt 4
        simp only [List.getElem?_toArray, List.getElem?_cons_zero, List.getElem?_cons_succ] at b0 b1 b2 b3 b4
        clear hrt
        go_wp2_with fail
        go_at_call 8; refine (check_any 2 _ _ _ _ _ _ _ (4, 0, 0, ⟨#[]⟩, LL) _ HREP.out HFI.out.1 HFI.out.2.1).mono ?_; rintro e wc ⟨rfl, hbc⟩
        rw [show checkM (measT 2 (4, 0, 0, ⟨#[]⟩, LL)) = 0 from HFI.out.2.2.1]
        have HROW := Lib.hid (row_step HRT.out hbc)
        have HBC := Lib.hid (bel_step HBT.out hbc)
        have HRC := Lib.hid (rep_keep hbc _ _ _ HREP.out)
        clear hbc b0 b1 b2 b3 b4
        go_wp2
        refine wp_region_held_drew (S := fun w' => Below wc.heap.size wc w') (by kernel_rfl) ?_ (fun hHeld => ?_)
        · exact Below.drew (Below.refl _ _)
        refine wpAnyH_take (i := 0) (oi := ?_) (v := ?_) ?hia3q0 (by kernel_rfl) ?hfa3q0 ?hra3q0 ?hQa3q0 ?hya3q0 (by assumption) ?resta3q0
        case hia3q0 => (simp only [List.getElem?_toArray, List.getElem?_cons_zero, List.getElem?_cons_succ]; rfl)
        case hfa3q0 => kernel_rfl
        case hra3q0 => kernel_rfl
        case hya3q0 => (refine Or.inl ⟨by rfl, ?_⟩; intro w hSw; (try dsimp only at hSw); go_simp; (try with_reducible rfl))
        case hQa3q0 => exact fun _ _ _ h => h
        (try simp only [Act.put, List.setIfInBounds_toArray, List.set_cons_zero, List.set_cons_succ])
        refine wpAnyH_take (i := 1) (oi := ?_) (v := ?_) ?hia3q1 (by kernel_rfl) ?hfa3q1 ?hra3q1 ?hQa3q1 ?hya3q1 (by assumption) ?resta3q1
        case hia3q1 => (simp only [List.getElem?_toArray, List.getElem?_cons_zero, List.getElem?_cons_succ]; rfl)
        case hfa3q1 => kernel_rfl
        case hra3q1 => kernel_rfl
        case hya3q1 => (refine Or.inl ⟨by rfl, ?_⟩; intro w hSw; (try dsimp only at hSw); go_simp; (try with_reducible rfl))
        case hQa3q1 => exact fun _ _ _ h => h
        (try simp only [Act.put, List.setIfInBounds_toArray, List.set_cons_zero, List.set_cons_succ])
        refine wpAnyH_take (i := 2) (oi := ?_) (v := ?_) ?hia3q2 (by kernel_rfl) ?hfa3q2 ?hra3q2 ?hQa3q2 ?hya3q2 (by assumption) ?resta3q2
        case hia3q2 => (simp only [List.getElem?_toArray, List.getElem?_cons_zero, List.getElem?_cons_succ]; rfl)
        case hfa3q2 => kernel_rfl
        case hra3q2 => kernel_rfl
        case hya3q2 => (refine Or.inl ⟨by rfl, ?_⟩; intro w hSw; (try dsimp only at hSw); go_simp; (try with_reducible rfl))
        case hQa3q2 => exact fun _ _ _ h => h
        (try simp only [Act.put, List.setIfInBounds_toArray, List.set_cons_zero, List.set_cons_succ])
        refine wpAnyH_take (i := 3) (oi := ?_) (v := ?_) ?hia3q3 (by kernel_rfl) ?hfa3q3 ?hra3q3 ?hQa3q3 ?hya3q3 (by assumption) ?resta3q3
        case hia3q3 => (simp only [List.getElem?_toArray, List.getElem?_cons_zero, List.getElem?_cons_succ]; rfl)
        case hfa3q3 => kernel_rfl
        case hra3q3 => kernel_rfl
        case hya3q3 => (refine Or.inl ⟨by rfl, ?_⟩; intro w hSw; (try dsimp only at hSw); go_simp; (try with_reducible rfl))
        case hQa3q3 => exact fun _ _ _ h => h
        (try simp only [Act.put, List.setIfInBounds_toArray, List.set_cons_zero, List.set_cons_succ])
        refine wpAnyH_take (i := 4) (oi := ?_) (v := ?_) ?hia3q4 (by kernel_rfl) ?hfa3q4 ?hra3q4 ?hQa3q4 ?hya3q4 (by assumption) ?resta3q4
        case hia3q4 => (simp only [List.getElem?_toArray, List.getElem?_cons_zero, List.getElem?_cons_succ]; rfl)
        case hfa3q4 => kernel_rfl
        case hra3q4 => kernel_rfl
        case hya3q4 => (refine Or.inl ⟨by rfl, ?_⟩; intro w hSw; (try dsimp only at hSw); go_simp; (try with_reducible rfl))
        case hQa3q4 => exact fun _ _ _ h => h
        (try simp only [Act.put, List.setIfInBounds_toArray, List.set_cons_zero, List.set_cons_succ])
        refine wpAnyH_take (i := 5) (oi := ?_) (v := ?_) ?hia3q5 (by kernel_rfl) ?hfa3q5 ?hra3q5 ?hQa3q5 ?hya3q5 (by assumption) ?resta3q5
        case hia3q5 => (simp only [List.getElem?_toArray, List.getElem?_cons_zero, List.getElem?_cons_succ]; rfl)
        case hfa3q5 => kernel_rfl
        case hra3q5 => kernel_rfl
        case hya3q5 => (refine Or.inl ⟨by rfl, ?_⟩; intro w hSw; (try dsimp only at hSw); go_simp; (try with_reducible rfl))
        case hQa3q5 => exact fun _ _ _ h => h
        (try simp only [Act.put, List.setIfInBounds_toArray, List.set_cons_zero, List.set_cons_succ])
        refine wpAnyH_take (i := 6) (oi := ?_) (v := ?_) ?hia3q6 (by kernel_rfl) ?hfa3q6 ?hra3q6 ?hQa3q6 ?hya3q6 (by assumption) ?resta3q6
        case hia3q6 => (simp only [List.getElem?_toArray, List.getElem?_cons_zero, List.getElem?_cons_succ]; rfl)
        case hfa3q6 => kernel_rfl
        case hra3q6 => kernel_rfl
        case hya3q6 => (refine Or.inl ⟨by rfl, ?_⟩; intro w hSw; (try dsimp only at hSw); go_simp; (try with_reducible rfl))
        case hQa3q6 => exact fun _ _ _ h => h
        (try simp only [Act.put, List.setIfInBounds_toArray, List.set_cons_zero, List.set_cons_succ])
        refine wpAnyH_take (i := 7) (oi := ?_) (v := ?_) ?hia3q7 (by kernel_rfl) ?hfa3q7 ?hra3q7 ?hQa3q7 ?hya3q7 (by assumption) ?resta3q7
        case hia3q7 => (simp only [List.getElem?_toArray, List.getElem?_cons_zero, List.getElem?_cons_succ]; rfl)
        case hfa3q7 => kernel_rfl
        case hra3q7 => kernel_rfl
        case hya3q7 => (refine Or.inl ⟨by rfl, ?_⟩; intro w hSw; (try dsimp only at hSw); go_simp; (try with_reducible rfl))
        case hQa3q7 => exact fun _ _ _ h => h
        (try simp only [Act.put, List.setIfInBounds_toArray, List.set_cons_zero, List.set_cons_succ])
        refine wpAnyH_take (i := 8) (oi := ?_) (v := ?_) ?hia3q8 (by kernel_rfl) ?hfa3q8 ?hra3q8 ?hQa3q8 ?hya3q8 (by assumption) ?resta3q8
        case hia3q8 => (simp only [List.getElem?_toArray, List.getElem?_cons_zero, List.getElem?_cons_succ]; rfl)
        case hfa3q8 => kernel_rfl
        case hra3q8 => kernel_rfl
        case hya3q8 => (refine Or.inl ⟨by rfl, ?_⟩; intro w hSw; (try dsimp only at hSw); go_simp; (try with_reducible rfl))
        case hQa3q8 => exact fun _ _ _ h => h
        (try simp only [Act.put, List.setIfInBounds_toArray, List.set_cons_zero, List.set_cons_succ])
        refine wpAnyH_take (i := 9) (oi := ?_) (v := undef) ?hia3q9 (by kernel_rfl) ?hfa3q9 ?hra3q9 ?hQa3q9 ?hya3q9 (by assumption) ?resta3q9
        case hia3q9 => (simp only [List.getElem?_toArray, List.getElem?_cons_zero, List.getElem?_cons_succ]; rfl)
        case hfa3q9 => kernel_rfl
        case hra3q9 => kernel_rfl
        case hya3q9 => exact Or.inr ⟨by rfl, rfl⟩
        case hQa3q9 => exact fun _ _ _ h => h
        (try simp only [Act.put, List.setIfInBounds_toArray, List.set_cons_zero, List.set_cons_succ])
        refine wpAnyH_take (i := 10) (oi := ?_) (v := undef) ?hia3q10 (by kernel_rfl) ?hfa3q10 ?hra3q10 ?hQa3q10 ?hya3q10 (by assumption) ?resta3q10
        case hia3q10 => (simp only [List.getElem?_toArray, List.getElem?_cons_zero, List.getElem?_cons_succ]; rfl)
        case hfa3q10 => kernel_rfl
        case hra3q10 => kernel_rfl
        case hya3q10 => exact Or.inr ⟨by rfl, rfl⟩
        case hQa3q10 => exact fun _ _ _ h => h
        (try simp only [Act.put, List.setIfInBounds_toArray, List.set_cons_zero, List.set_cons_succ])
        refine wpAnyH_take (i := 11) (oi := ?_) (v := ?_) ?hia3q11 (by kernel_rfl) ?hfa3q11 ?hra3q11 ?hQa3q11 ?hya3q11 (by assumption) ?resta3q11
        case hia3q11 => (simp only [List.getElem?_toArray, List.getElem?_cons_zero, List.getElem?_cons_succ]; rfl)
        case hfa3q11 => kernel_rfl
        case hra3q11 => kernel_rfl
        case hya3q11 => (refine Or.inl ⟨by rfl, ?_⟩; intro w hSw; (try dsimp only at hSw); go_simp; (try with_reducible rfl))
        case hQa3q11 => exact fun _ _ _ h => h
        (try simp only [Act.put, List.setIfInBounds_toArray, List.set_cons_zero, List.set_cons_succ])
        refine wpAnyH_take (i := 12) (oi := ?_) (v := ?_) ?hia3q12 (by kernel_rfl) ?hfa3q12 ?hra3q12 ?hQa3q12 ?hya3q12 (by assumption) ?resta3q12
        case hia3q12 => (simp only [List.getElem?_toArray, List.getElem?_cons_zero, List.getElem?_cons_succ]; rfl)
        case hfa3q12 => kernel_rfl
        case hra3q12 => kernel_rfl
        case hya3q12 => (refine Or.inl ⟨by rfl, ?_⟩; intro w hSw; (try dsimp only at hSw); go_simp; (try with_reducible rfl))
        case hQa3q12 => exact fun _ _ _ h => h
        (try simp only [Act.put, List.setIfInBounds_toArray, List.set_cons_zero, List.set_cons_succ])
        refine wpAnyH_take (i := 13) (oi := ?_) (v := ?_) ?hia3q13 (by kernel_rfl) ?hfa3q13 ?hra3q13 ?hQa3q13 ?hya3q13 (by assumption) ?resta3q13
        case hia3q13 => (simp only [List.getElem?_toArray, List.getElem?_cons_zero, List.getElem?_cons_succ]; rfl)
        case hfa3q13 => kernel_rfl
        case hra3q13 => kernel_rfl
        case hya3q13 => (refine Or.inl ⟨by rfl, ?_⟩; intro w hSw; (try dsimp only at hSw); go_simp; (try with_reducible rfl))
        case hQa3q13 => exact fun _ _ _ h => h
        (try simp only [Act.put, List.setIfInBounds_toArray, List.set_cons_zero, List.set_cons_succ])
        refine wpAnyH_take (i := 14) (oi := ?_) (v := ?_) ?hia3q14 (by kernel_rfl) ?hfa3q14 ?hra3q14 ?hQa3q14 ?hya3q14 (by assumption) ?resta3q14
        case hia3q14 => (simp only [List.getElem?_toArray, List.getElem?_cons_zero, List.getElem?_cons_succ]; rfl)
        case hfa3q14 => kernel_rfl
        case hra3q14 => kernel_rfl
        case hya3q14 => (refine Or.inl ⟨by rfl, ?_⟩; intro w hSw; (try dsimp only at hSw); have rr := row_step HROW.out hSw; have c0 := row_cell rr 0; have c1 := row_cell rr 1; have c2 := row_cell rr 2; have c3 := row_cell rr 3; have c4 := row_cell rr 4; simp only [List.getElem?_toArray, List.getElem?_cons_zero, List.getElem?_cons_succ] at c0 c1 c2 c3 c4; go_simp; (try with_reducible rfl))
        case hQa3q14 => exact fun _ _ _ h => h
        (try simp only [Act.put, List.setIfInBounds_toArray, List.set_cons_zero, List.set_cons_succ])
        refine wpAnyH_take (i := 16) (oi := ?_) (v := ?_) ?hia3q16 (by kernel_rfl) ?hfa3q16 ?hra3q16 ?hQa3q16 ?hya3q16 (by assumption) ?resta3q16
        case hia3q16 => (simp only [List.getElem?_toArray, List.getElem?_cons_zero, List.getElem?_cons_succ]; rfl)
        case hfa3q16 => kernel_rfl
        case hra3q16 => kernel_rfl
        case hya3q16 => (refine Or.inl ⟨by rfl, ?_⟩; intro w hSw; (try dsimp only at hSw); have rr := row_step HROW.out hSw; have c0 := row_cell rr 0; have c1 := row_cell rr 1; have c2 := row_cell rr 2; have c3 := row_cell rr 3; have c4 := row_cell rr 4; simp only [List.getElem?_toArray, List.getElem?_cons_zero, List.getElem?_cons_succ] at c0 c1 c2 c3 c4; go_simp; (try with_reducible rfl))
        case hQa3q16 => exact fun _ _ _ h => h
        (try simp only [Act.put, List.setIfInBounds_toArray, List.set_cons_zero, List.set_cons_succ])
        refine wpAnyH_ready (rs := [15]) (by kernel_rfl) (by simp) ?_
        refine AllReadyH.cons (o := ?_) ?hox3q15 ?stx3q15 AllReadyH.nil
        case hox3q15 => (simp only [List.getElem?_toArray, List.getElem?_cons_zero, List.getElem?_cons_succ]; rfl)
        intro K hK
        go_simp
        go_at_call 9; refine (vsize_any 2 _ _ _ _ _ _ _ (4, 0, 0, ⟨#[]⟩, LL) _ (rep_keep hHeld _ _ _ HRC.out) HFI.out.1 HFI.out.2.1).mono ?_; rintro e ws ⟨rfl, hb⟩; rw [show sizeM (measT 2 (4, 0, 0, ⟨#[]⟩, LL)) = sizeT 2 (4, 0, 0, ⟨#[]⟩, LL) from HFI.out.2.2.2]; have hS1 := bel_step hHeld hb; clear hb
        go_wp2_with fail
        refine hK.out _ _ hS1 (fun hHeld2 => ?_)
        clear hK K hHeld hHeld2
        have hHeld := hS1
        clear hS1
        (try simp only [Act.put, List.setIfInBounds_toArray, List.set_cons_zero, List.set_cons_succ])
        refine wpAnyH_ready (rs := [17]) (by kernel_rfl) (by simp) ?_
        refine AllReadyH.cons (o := ?_) ?hox3q17 ?stx3q17 AllReadyH.nil
        case hox3q17 => (simp only [List.getElem?_toArray, List.getElem?_cons_zero, List.getElem?_cons_succ]; rfl)
        intro K hK
        go_simp
        go_at_call 10; refine (size_any 2 _ (4, 0, 0, ⟨#[]⟩, LL) _ (rep_keep hHeld _ _ _ HRC.out)).mono ?_; rintro e ws ⟨rfl, hb⟩; have hS1 := bel_step hHeld hb; clear hb
        go_wp2_with fail
        refine hK.out _ _ hS1 (fun hHeld2 => ?_)
        clear hK K hHeld hHeld2
        have hHeld := hS1
        clear hS1
        (try simp only [Act.put, List.setIfInBounds_toArray, List.set_cons_zero, List.set_cons_succ])
        refine wpAnyH_take (i := 18) (oi := ?_) (v := ?_) ?hix3q18 (by kernel_rfl) ?hfx3q18 ?hrx3q18 ?hQx3q18 ?hyx3q18 (by assumption) ?restx3q18
        case hix3q18 => (simp only [List.getElem?_toArray, List.getElem?_cons_zero, List.getElem?_cons_succ]; rfl)
        case hfx3q18 => kernel_rfl
        case hrx3q18 => kernel_rfl
        case hyx3q18 => (refine Or.inl ⟨by rfl, ?_⟩; intro w hSw; (try dsimp only at hSw); go_simp; (try with_reducible rfl))
        case hQx3q18 => exact fun _ _ _ h => h
        (try simp only [Act.put, List.setIfInBounds_toArray, List.set_cons_zero, List.set_cons_succ])
        refine wpAnyH_take (i := 19) (oi := ?_) (v := ?_) ?hix3q19 (by kernel_rfl) ?hfx3q19 ?hrx3q19 ?hQx3q19 ?hyx3q19 (by assumption) ?restx3q19
        case hix3q19 => (simp only [List.getElem?_toArray, List.getElem?_cons_zero, List.getElem?_cons_succ]; rfl)
        case hfx3q19 => kernel_rfl
        case hrx3q19 => kernel_rfl
        case hyx3q19 => (refine Or.inl ⟨by rfl, ?_⟩; intro w hSw; (try dsimp only at hSw); go_simp; (try with_reducible rfl))
        case hQx3q19 => exact fun _ _ _ h => h
        (try simp only [Act.put, List.setIfInBounds_toArray, List.set_cons_zero, List.set_cons_succ])
        refine wpAnyH_take (i := 20) (oi := ?_) (v := ?_) ?hix3q20 (by kernel_rfl) ?hfx3q20 ?hrx3q20 ?hQx3q20 ?hyx3q20 (by assumption) ?restx3q20
        case hix3q20 => (simp only [List.getElem?_toArray, List.getElem?_cons_zero, List.getElem?_cons_succ]; rfl)
        case hfx3q20 => kernel_rfl
        case hrx3q20 => kernel_rfl
        case hyx3q20 => (refine Or.inl ⟨by rfl, ?_⟩; intro w hSw; (try dsimp only at hSw); go_simp; (try with_reducible rfl))
        case hQx3q20 => exact fun _ _ _ h => h
        (try simp only [Act.put, List.setIfInBounds_toArray, List.set_cons_zero, List.set_cons_succ])
        refine wpAnyH_done (by kernel_rfl) ?_ _
        have HF := Lib.hid (bel_step HBC.out hHeld)
        clear hHeld
        go_wp2
        go_ret
        exact ⟨rfl, HF.out⟩
      · have HRT := Lib.hid (row_set4 HRN.out (.slice p' 17 c'))
        have HBT := Lib.hid (HBN.out.setCell (p := ⟨w1.heap.size, 4, none⟩) HB1.out.size (.slice p' 17 c'))
        have HFI := Lib.hid (fine_lim s1 s2 D hD4 HS1.out HS2.out)
        rw [show decide (D ≤ 2) = true by simp; omega] at HFI
        have HREP := Lib.hid (show Rep (w3.setCell ⟨w1.heap.size, 4, none⟩ (.slice p' 17 c')) 2 (.agg #[.int .i64 4, .int .i64 0, .float .f64 0, .string ⟨#[]⟩, .slice p' 17 c']) (4, 0, 0, ⟨#[]⟩, (List.replicate 16 s1 ++ [s2]).map txtV) from ⟨p', 17, c', rfl, (show okI (4 : Int) from by decide), (show okI (0 : Int) from by decide), (show 0 < 2 ^ 64 from by decide), (show (⟨#[]⟩ : ByteArray).size ≤ maxLen from by decide), ot_rep (ot_store HON.out HNN.out _) (fun u hu => by
          rcases List.mem_append.1 hu with h | h
          · rw [List.eq_of_mem_replicate h, HS1.out]; omega
          · rw [List.mem_singleton.1 h, HS2.out]; omega)⟩)
        obtain ⟨LL, hLL⟩ : ∃ LL, (List.replicate 16 s1 ++ [s2]).map txtV = LL := ⟨_, rfl⟩
        rw [hLL] at HFI HREP
        clear y4 yf x4 b4 hcv hmk2 hLL
        have hrt := HRT.out
        have b0 := row_cell hrt 0; have b1 := row_cell hrt 1; have b2 := row_cell hrt 2; have b3 := row_cell hrt 3; have b4 := row_cell hrt 4
        simp only [List.getElem?_toArray, List.getElem?_cons_zero, List.getElem?_cons_succ] at b0 b1 b2 b3 b4
        clear hrt
        go_wp2_with fail
        go_at_call 8; refine (check_any 2 _ _ _ _ _ _ _ (4, 0, 0, ⟨#[]⟩, LL) _ HREP.out HFI.out.1 HFI.out.2.1).mono ?_; rintro e wc ⟨rfl, hbc⟩
        rw [show checkM (measT 2 (4, 0, 0, ⟨#[]⟩, LL)) = 0 from HFI.out.2.2.1]
        have HROW := Lib.hid (row_step HRT.out hbc)
        have HBC := Lib.hid (bel_step HBT.out hbc)
        have HRC := Lib.hid (rep_keep hbc _ _ _ HREP.out)
        clear hbc b0 b1 b2 b3 b4
        go_wp2
        refine wp_region_held_drew (S := fun w' => Below wc.heap.size wc w') (by kernel_rfl) ?_ (fun hHeld => ?_)
        · exact Below.drew (Below.refl _ _)
        refine wpAnyH_take (i := 0) (oi := ?_) (v := ?_) ?hia4q0 (by kernel_rfl) ?hfa4q0 ?hra4q0 ?hQa4q0 ?hya4q0 (by assumption) ?resta4q0
        case hia4q0 => (simp only [List.getElem?_toArray, List.getElem?_cons_zero, List.getElem?_cons_succ]; rfl)
        case hfa4q0 => kernel_rfl
        case hra4q0 => kernel_rfl
        case hya4q0 => (refine Or.inl ⟨by rfl, ?_⟩; intro w hSw; (try dsimp only at hSw); go_simp; (try with_reducible rfl))
        case hQa4q0 => exact fun _ _ _ h => h
        (try simp only [Act.put, List.setIfInBounds_toArray, List.set_cons_zero, List.set_cons_succ])
        refine wpAnyH_take (i := 1) (oi := ?_) (v := ?_) ?hia4q1 (by kernel_rfl) ?hfa4q1 ?hra4q1 ?hQa4q1 ?hya4q1 (by assumption) ?resta4q1
        case hia4q1 => (simp only [List.getElem?_toArray, List.getElem?_cons_zero, List.getElem?_cons_succ]; rfl)
        case hfa4q1 => kernel_rfl
        case hra4q1 => kernel_rfl
        case hya4q1 => (refine Or.inl ⟨by rfl, ?_⟩; intro w hSw; (try dsimp only at hSw); go_simp; (try with_reducible rfl))
        case hQa4q1 => exact fun _ _ _ h => h
        (try simp only [Act.put, List.setIfInBounds_toArray, List.set_cons_zero, List.set_cons_succ])
        refine wpAnyH_take (i := 2) (oi := ?_) (v := ?_) ?hia4q2 (by kernel_rfl) ?hfa4q2 ?hra4q2 ?hQa4q2 ?hya4q2 (by assumption) ?resta4q2
        case hia4q2 => (simp only [List.getElem?_toArray, List.getElem?_cons_zero, List.getElem?_cons_succ]; rfl)
        case hfa4q2 => kernel_rfl
        case hra4q2 => kernel_rfl
        case hya4q2 => (refine Or.inl ⟨by rfl, ?_⟩; intro w hSw; (try dsimp only at hSw); go_simp; (try with_reducible rfl))
        case hQa4q2 => exact fun _ _ _ h => h
        (try simp only [Act.put, List.setIfInBounds_toArray, List.set_cons_zero, List.set_cons_succ])
        refine wpAnyH_take (i := 3) (oi := ?_) (v := ?_) ?hia4q3 (by kernel_rfl) ?hfa4q3 ?hra4q3 ?hQa4q3 ?hya4q3 (by assumption) ?resta4q3
        case hia4q3 => (simp only [List.getElem?_toArray, List.getElem?_cons_zero, List.getElem?_cons_succ]; rfl)
        case hfa4q3 => kernel_rfl
        case hra4q3 => kernel_rfl
        case hya4q3 => (refine Or.inl ⟨by rfl, ?_⟩; intro w hSw; (try dsimp only at hSw); go_simp; (try with_reducible rfl))
        case hQa4q3 => exact fun _ _ _ h => h
        (try simp only [Act.put, List.setIfInBounds_toArray, List.set_cons_zero, List.set_cons_succ])
        refine wpAnyH_take (i := 4) (oi := ?_) (v := ?_) ?hia4q4 (by kernel_rfl) ?hfa4q4 ?hra4q4 ?hQa4q4 ?hya4q4 (by assumption) ?resta4q4
        case hia4q4 => (simp only [List.getElem?_toArray, List.getElem?_cons_zero, List.getElem?_cons_succ]; rfl)
        case hfa4q4 => kernel_rfl
        case hra4q4 => kernel_rfl
        case hya4q4 => (refine Or.inl ⟨by rfl, ?_⟩; intro w hSw; (try dsimp only at hSw); go_simp; (try with_reducible rfl))
        case hQa4q4 => exact fun _ _ _ h => h
        (try simp only [Act.put, List.setIfInBounds_toArray, List.set_cons_zero, List.set_cons_succ])
        refine wpAnyH_take (i := 5) (oi := ?_) (v := ?_) ?hia4q5 (by kernel_rfl) ?hfa4q5 ?hra4q5 ?hQa4q5 ?hya4q5 (by assumption) ?resta4q5
        case hia4q5 => (simp only [List.getElem?_toArray, List.getElem?_cons_zero, List.getElem?_cons_succ]; rfl)
        case hfa4q5 => kernel_rfl
        case hra4q5 => kernel_rfl
        case hya4q5 => (refine Or.inl ⟨by rfl, ?_⟩; intro w hSw; (try dsimp only at hSw); go_simp; (try with_reducible rfl))
        case hQa4q5 => exact fun _ _ _ h => h
        (try simp only [Act.put, List.setIfInBounds_toArray, List.set_cons_zero, List.set_cons_succ])
        refine wpAnyH_take (i := 6) (oi := ?_) (v := ?_) ?hia4q6 (by kernel_rfl) ?hfa4q6 ?hra4q6 ?hQa4q6 ?hya4q6 (by assumption) ?resta4q6
        case hia4q6 => (simp only [List.getElem?_toArray, List.getElem?_cons_zero, List.getElem?_cons_succ]; rfl)
        case hfa4q6 => kernel_rfl
        case hra4q6 => kernel_rfl
        case hya4q6 => (refine Or.inl ⟨by rfl, ?_⟩; intro w hSw; (try dsimp only at hSw); go_simp; (try with_reducible rfl))
        case hQa4q6 => exact fun _ _ _ h => h
        (try simp only [Act.put, List.setIfInBounds_toArray, List.set_cons_zero, List.set_cons_succ])
        refine wpAnyH_take (i := 7) (oi := ?_) (v := ?_) ?hia4q7 (by kernel_rfl) ?hfa4q7 ?hra4q7 ?hQa4q7 ?hya4q7 (by assumption) ?resta4q7
        case hia4q7 => (simp only [List.getElem?_toArray, List.getElem?_cons_zero, List.getElem?_cons_succ]; rfl)
        case hfa4q7 => kernel_rfl
        case hra4q7 => kernel_rfl
        case hya4q7 => (refine Or.inl ⟨by rfl, ?_⟩; intro w hSw; (try dsimp only at hSw); go_simp; (try with_reducible rfl))
        case hQa4q7 => exact fun _ _ _ h => h
        (try simp only [Act.put, List.setIfInBounds_toArray, List.set_cons_zero, List.set_cons_succ])
        refine wpAnyH_take (i := 8) (oi := ?_) (v := ?_) ?hia4q8 (by kernel_rfl) ?hfa4q8 ?hra4q8 ?hQa4q8 ?hya4q8 (by assumption) ?resta4q8
        case hia4q8 => (simp only [List.getElem?_toArray, List.getElem?_cons_zero, List.getElem?_cons_succ]; rfl)
        case hfa4q8 => kernel_rfl
        case hra4q8 => kernel_rfl
        case hya4q8 => (refine Or.inl ⟨by rfl, ?_⟩; intro w hSw; (try dsimp only at hSw); go_simp; (try with_reducible rfl))
        case hQa4q8 => exact fun _ _ _ h => h
        (try simp only [Act.put, List.setIfInBounds_toArray, List.set_cons_zero, List.set_cons_succ])
        refine wpAnyH_take (i := 9) (oi := ?_) (v := undef) ?hia4q9 (by kernel_rfl) ?hfa4q9 ?hra4q9 ?hQa4q9 ?hya4q9 (by assumption) ?resta4q9
        case hia4q9 => (simp only [List.getElem?_toArray, List.getElem?_cons_zero, List.getElem?_cons_succ]; rfl)
        case hfa4q9 => kernel_rfl
        case hra4q9 => kernel_rfl
        case hya4q9 => exact Or.inr ⟨by rfl, rfl⟩
        case hQa4q9 => exact fun _ _ _ h => h
        (try simp only [Act.put, List.setIfInBounds_toArray, List.set_cons_zero, List.set_cons_succ])
        refine wpAnyH_take (i := 10) (oi := ?_) (v := undef) ?hia4q10 (by kernel_rfl) ?hfa4q10 ?hra4q10 ?hQa4q10 ?hya4q10 (by assumption) ?resta4q10
        case hia4q10 => (simp only [List.getElem?_toArray, List.getElem?_cons_zero, List.getElem?_cons_succ]; rfl)
        case hfa4q10 => kernel_rfl
        case hra4q10 => kernel_rfl
        case hya4q10 => exact Or.inr ⟨by rfl, rfl⟩
        case hQa4q10 => exact fun _ _ _ h => h
        (try simp only [Act.put, List.setIfInBounds_toArray, List.set_cons_zero, List.set_cons_succ])
        refine wpAnyH_take (i := 11) (oi := ?_) (v := ?_) ?hia4q11 (by kernel_rfl) ?hfa4q11 ?hra4q11 ?hQa4q11 ?hya4q11 (by assumption) ?resta4q11
        case hia4q11 => (simp only [List.getElem?_toArray, List.getElem?_cons_zero, List.getElem?_cons_succ]; rfl)
        case hfa4q11 => kernel_rfl
        case hra4q11 => kernel_rfl
        case hya4q11 => (refine Or.inl ⟨by rfl, ?_⟩; intro w hSw; (try dsimp only at hSw); go_simp; (try with_reducible rfl))
        case hQa4q11 => exact fun _ _ _ h => h
        (try simp only [Act.put, List.setIfInBounds_toArray, List.set_cons_zero, List.set_cons_succ])
        refine wpAnyH_take (i := 12) (oi := ?_) (v := ?_) ?hia4q12 (by kernel_rfl) ?hfa4q12 ?hra4q12 ?hQa4q12 ?hya4q12 (by assumption) ?resta4q12
        case hia4q12 => (simp only [List.getElem?_toArray, List.getElem?_cons_zero, List.getElem?_cons_succ]; rfl)
        case hfa4q12 => kernel_rfl
        case hra4q12 => kernel_rfl
        case hya4q12 => (refine Or.inl ⟨by rfl, ?_⟩; intro w hSw; (try dsimp only at hSw); go_simp; (try with_reducible rfl))
        case hQa4q12 => exact fun _ _ _ h => h
        (try simp only [Act.put, List.setIfInBounds_toArray, List.set_cons_zero, List.set_cons_succ])
        refine wpAnyH_take (i := 13) (oi := ?_) (v := ?_) ?hia4q13 (by kernel_rfl) ?hfa4q13 ?hra4q13 ?hQa4q13 ?hya4q13 (by assumption) ?resta4q13
        case hia4q13 => (simp only [List.getElem?_toArray, List.getElem?_cons_zero, List.getElem?_cons_succ]; rfl)
        case hfa4q13 => kernel_rfl
        case hra4q13 => kernel_rfl
        case hya4q13 => (refine Or.inl ⟨by rfl, ?_⟩; intro w hSw; (try dsimp only at hSw); go_simp; (try with_reducible rfl))
        case hQa4q13 => exact fun _ _ _ h => h
        (try simp only [Act.put, List.setIfInBounds_toArray, List.set_cons_zero, List.set_cons_succ])
        refine wpAnyH_take (i := 14) (oi := ?_) (v := ?_) ?hia4q14 (by kernel_rfl) ?hfa4q14 ?hra4q14 ?hQa4q14 ?hya4q14 (by assumption) ?resta4q14
        case hia4q14 => (simp only [List.getElem?_toArray, List.getElem?_cons_zero, List.getElem?_cons_succ]; rfl)
        case hfa4q14 => kernel_rfl
        case hra4q14 => kernel_rfl
        case hya4q14 => (refine Or.inl ⟨by rfl, ?_⟩; intro w hSw; (try dsimp only at hSw); have rr := row_step HROW.out hSw; have c0 := row_cell rr 0; have c1 := row_cell rr 1; have c2 := row_cell rr 2; have c3 := row_cell rr 3; have c4 := row_cell rr 4; simp only [List.getElem?_toArray, List.getElem?_cons_zero, List.getElem?_cons_succ] at c0 c1 c2 c3 c4; go_simp; (try with_reducible rfl))
        case hQa4q14 => exact fun _ _ _ h => h
        (try simp only [Act.put, List.setIfInBounds_toArray, List.set_cons_zero, List.set_cons_succ])
        refine wpAnyH_take (i := 16) (oi := ?_) (v := ?_) ?hia4q16 (by kernel_rfl) ?hfa4q16 ?hra4q16 ?hQa4q16 ?hya4q16 (by assumption) ?resta4q16
        case hia4q16 => (simp only [List.getElem?_toArray, List.getElem?_cons_zero, List.getElem?_cons_succ]; rfl)
        case hfa4q16 => kernel_rfl
        case hra4q16 => kernel_rfl
        case hya4q16 => (refine Or.inl ⟨by rfl, ?_⟩; intro w hSw; (try dsimp only at hSw); have rr := row_step HROW.out hSw; have c0 := row_cell rr 0; have c1 := row_cell rr 1; have c2 := row_cell rr 2; have c3 := row_cell rr 3; have c4 := row_cell rr 4; simp only [List.getElem?_toArray, List.getElem?_cons_zero, List.getElem?_cons_succ] at c0 c1 c2 c3 c4; go_simp; (try with_reducible rfl))
        case hQa4q16 => exact fun _ _ _ h => h
        (try simp only [Act.put, List.setIfInBounds_toArray, List.set_cons_zero, List.set_cons_succ])
        refine wpAnyH_ready (rs := [15]) (by kernel_rfl) (by simp) ?_
        refine AllReadyH.cons (o := ?_) ?hox4q15 ?stx4q15 AllReadyH.nil
        case hox4q15 => (simp only [List.getElem?_toArray, List.getElem?_cons_zero, List.getElem?_cons_succ]; rfl)
        intro K hK
        go_simp
        go_at_call 9; refine (vsize_any 2 _ _ _ _ _ _ _ (4, 0, 0, ⟨#[]⟩, LL) _ (rep_keep hHeld _ _ _ HRC.out) HFI.out.1 HFI.out.2.1).mono ?_; rintro e ws ⟨rfl, hb⟩; rw [show sizeM (measT 2 (4, 0, 0, ⟨#[]⟩, LL)) = sizeT 2 (4, 0, 0, ⟨#[]⟩, LL) from HFI.out.2.2.2]; have hS1 := bel_step hHeld hb; clear hb
        go_wp2_with fail
        refine hK.out _ _ hS1 (fun hHeld2 => ?_)
        clear hK K hHeld hHeld2
        have hHeld := hS1
        clear hS1
        (try simp only [Act.put, List.setIfInBounds_toArray, List.set_cons_zero, List.set_cons_succ])
        refine wpAnyH_ready (rs := [17]) (by kernel_rfl) (by simp) ?_
        refine AllReadyH.cons (o := ?_) ?hox4q17 ?stx4q17 AllReadyH.nil
        case hox4q17 => (simp only [List.getElem?_toArray, List.getElem?_cons_zero, List.getElem?_cons_succ]; rfl)
        intro K hK
        go_simp
        go_at_call 10; refine (size_any 2 _ (4, 0, 0, ⟨#[]⟩, LL) _ (rep_keep hHeld _ _ _ HRC.out)).mono ?_; rintro e ws ⟨rfl, hb⟩; have hS1 := bel_step hHeld hb; clear hb
        go_wp2_with fail
        refine hK.out _ _ hS1 (fun hHeld2 => ?_)
        clear hK K hHeld hHeld2
        have hHeld := hS1
        clear hS1
        (try simp only [Act.put, List.setIfInBounds_toArray, List.set_cons_zero, List.set_cons_succ])
        refine wpAnyH_take (i := 18) (oi := ?_) (v := ?_) ?hix4q18 (by kernel_rfl) ?hfx4q18 ?hrx4q18 ?hQx4q18 ?hyx4q18 (by assumption) ?restx4q18
        case hix4q18 => (simp only [List.getElem?_toArray, List.getElem?_cons_zero, List.getElem?_cons_succ]; rfl)
        case hfx4q18 => kernel_rfl
        case hrx4q18 => kernel_rfl
        case hyx4q18 => (refine Or.inl ⟨by rfl, ?_⟩; intro w hSw; (try dsimp only at hSw); go_simp; (try with_reducible rfl))
        case hQx4q18 => exact fun _ _ _ h => h
        (try simp only [Act.put, List.setIfInBounds_toArray, List.set_cons_zero, List.set_cons_succ])
        refine wpAnyH_take (i := 19) (oi := ?_) (v := ?_) ?hix4q19 (by kernel_rfl) ?hfx4q19 ?hrx4q19 ?hQx4q19 ?hyx4q19 (by assumption) ?restx4q19
        case hix4q19 => (simp only [List.getElem?_toArray, List.getElem?_cons_zero, List.getElem?_cons_succ]; rfl)
        case hfx4q19 => kernel_rfl
        case hrx4q19 => kernel_rfl
        case hyx4q19 => (refine Or.inl ⟨by rfl, ?_⟩; intro w hSw; (try dsimp only at hSw); go_simp; (try with_reducible rfl))
        case hQx4q19 => exact fun _ _ _ h => h
        (try simp only [Act.put, List.setIfInBounds_toArray, List.set_cons_zero, List.set_cons_succ])
        refine wpAnyH_take (i := 20) (oi := ?_) (v := ?_) ?hix4q20 (by kernel_rfl) ?hfx4q20 ?hrx4q20 ?hQx4q20 ?hyx4q20 (by assumption) ?restx4q20
        case hix4q20 => (simp only [List.getElem?_toArray, List.getElem?_cons_zero, List.getElem?_cons_succ]; rfl)
        case hfx4q20 => kernel_rfl
        case hrx4q20 => kernel_rfl
        case hyx4q20 => (refine Or.inl ⟨by rfl, ?_⟩; intro w hSw; (try dsimp only at hSw); go_simp; (try with_reducible rfl))
        case hQx4q20 => exact fun _ _ _ h => h
        (try simp only [Act.put, List.setIfInBounds_toArray, List.set_cons_zero, List.set_cons_succ])
        refine wpAnyH_done (by kernel_rfl) ?_ _
        have HF := Lib.hid (bel_step HBC.out hHeld)
        clear hHeld
        go_wp2
        go_ret
        exact ⟨rfl, HF.out⟩
set_option maxRecDepth 100000 in
set_option maxHeartbeats 16000000 in
theorem lim_Dn (a n : Int) (h0 : 0 ≤ n) (h1 : n < 256) (g0 : 0 ≤ a) (g1 : a < 256) (D : Nat) (hD : n % 5 = (D : Int)) (hD4 : D ≤ 4) (ha : a % 4 = 3) (hd : 2 < (D : Int)) (w : World) (ht : Tabs w) :
    Calls Tryz.prog 3 #[.int .u8 a, .int .u8 n] w fun e w' => e = .returned (.bool true) ∧ Below w.heap.size w w' := by
  have hD2 : n.tmod 5 = (D : Int) := by rw [Int.tmod_eq_emod_of_nonneg h0]; exact hD
  have ha2 : a.tmod 4 = 3 := by rw [Int.tmod_eq_emod_of_nonneg g0]; exact ha
  have hD0 : (0 : Int) ≤ (D : Int) := by omega
  have hDb : (D : Int) ≤ 4 := by omega
  have hdf : decide ((D : Int) - 2 ≤ 0) = false := by simp; omega
  have hdg : decide ((D : Int) ≤ 2) = false := by simp; omega
  have HT := Lib.hid ht
  clear ht
  go_enter Tryz.func3, Tryz.ntmps3
  go_wp2_with fail
  go_at_call 5; refine (known_any _ HT.out).mono ?_; rintro e w1 ⟨rfl, hb1⟩
  have HB1 := Lib.hid hb1
  clear hb1
  obtain ⟨N1, s1, hs1, hmk1, hcv1⟩ := some_bytes 251 (by omega) 251 rfl
  obtain ⟨N2, s2, hs2, hmk2, hcv2⟩ := some_bytes (25 + D) (by omega) (IntKind.i64.wrap (27 + ((D : Int) - 2))) (by rw [show IntKind.i64.wrap (27 + ((D : Int) - 2)) = 27 + ((D : Int) - 2) from IntWalk.i64_in _ (by omega)]; omega)
  have HC1 := Lib.hid hcv1
  have HC2 := Lib.hid hcv2
  have HM2 := Lib.hid hmk2
  have HS1 := Lib.hid hs1
  have HS2 := Lib.hid hs2
  clear hcv1 hcv2 hmk2 hs1 hs2
  have RB := Lib.hid (row_alloc w1 #[.int .i64 0, .int .i64 0, .float .f64 0, .string ⟨#[]⟩, .slice none 0 0] 26)
  have HBX := Lib.hid (bel_alloc HB1.out (.cells #[.int .i64 0, .int .i64 0, .float .f64 0, .string ⟨#[]⟩, .slice none 0 0] 26))
  go_wp2_with fail
  go_at_call 7; refine (list_ref_any _ _ _ _).mono ?_; rintro e w2 ⟨rfl, hb2⟩
  have hr2 := row_step RB.out hb2
  have hlt := row_lt hr2
  have HR2 := Lib.hid (set5_rowL hr2 (.int .i64 4) (.int .i64 0) (.float .f64 0) (.string ⟨#[]⟩) (.slice none 0 0))
  have HB2 := Lib.hid (below5 (bel_step HBX.out hb2) HB1.out.size (.int .i64 4) (.int .i64 0) (.float .f64 0) (.string ⟨#[]⟩) (.slice none 0 0))
  have k0 := row_cell hr2 0; have k1 := row_cell hr2 1; have k2 := row_cell hr2 2; have k3 := row_cell hr2 3; have k4 := row_cell hr2 4
  simp only [List.getElem?_toArray, List.getElem?_cons_zero, List.getElem?_cons_succ] at k0 k1 k2 k3 k4
  have kf := fun o => row_frz hr2 o
  clear hr2 hb2
  go_wp2
  clear hD hD2 h0 h1 ha ha2 g0 g1 k0 k1 k2 k3 k4 kf hlt
  go_loopw [8] (fun i wr => ∃ (k : Nat) (p : Option Addr) (c : Nat), k ≤ 16 ∧ i = .int .i64 (k : Int) ∧ wr.heap[w1.heap.size]? = some (.cells #[.int .i64 4, .int .i64 0, .float .f64 0, .string ⟨#[]⟩, .slice p k c] 26 (0, 0)) ∧ OwT w wr p k c (List.replicate k s1) ∧ (Value.slice p k c).ownBlock ≠ some w1.heap.size ∧ Below w.heap.size w wr) (fun i _ => 16 - (intOf i).toNat)
  case atStart => exact ⟨0, none, 0, Nat.zero_le _, rfl, HR2.out, ot_nil _ _, (by simp [Value.ownBlock]), HB2.out⟩
  case round =>
    obtain ⟨k, p, c, hk, rfl, hrow, how, hnb, hbw⟩ := hrel
    have HRW := Lib.hid hrow
    have HOW := Lib.hid how
    have HNB := Lib.hid hnb
    have HBW := Lib.hid hbw
    have hlt := row_lt hrow
    have b4 := row_cell hrow 4
    simp only [List.getElem?_toArray, List.getElem?_cons_zero, List.getElem?_cons_succ] at b4
    clear how hnb hbw
    by_cases hltk : k < 16
    · have hltk' : (k : Int) < 16 := by omega
      have hcv : (convert 28 9 (.slice (some ⟨wr.heap.size, 0, none⟩) N1 N1)).run Tryz.prog (wr.alloc (.cells (zs N1) 5)).drew = .ok (.string s1) (wr.alloc (.cells (zs N1) 5)).drew := HC1.out wr.drew
      clear hrow
      go_wp2
      go_region_law (first
        | (go_simp; go_at_call 6; refine (text_ref_any _ _).mono ?_; rintro e w2 ⟨rfl, hb2⟩; have HRX := Lib.hid (row_step (w := (wr.alloc (.cells (zs N1) 5)).drew) (row_alloc_step (w := wr.drew) HRW.out _) hb2); have HBX := Lib.hid (bel_step (w := wr) (y := (wr.alloc (.cells (zs N1) 5)).drew) (Below.drew (bel_alloc (Below.refl _ _) (.cells (zs N1) 5))) hb2); have HOX := Lib.hid (ot_keep HOW.out HBX.out); have ltX := row_lt HRX.out; have x4 := row_cell HRX.out 4; (simp only [List.getElem?_toArray, List.getElem?_cons_zero, List.getElem?_cons_succ] at x4); clear hb2)
        | (refine step_ot (by rfl) _ _ (by rfl) w w2 p k c (List.replicate k s1) s1 (by rfl) (by rfl) HOX.out (Nat.le_trans HBW.out.size HBX.out.size) (by omega) ?_; intro p' c' w3 ho hg hw; have HRN := Lib.hid ((hg.block _ ltX (fun e => HNB.out e.symm)).trans HRX.out); have HON := Lib.hid ho; have HBN := Lib.hid (Below.grown (bel_step HBW.out HBX.out) hg (Nat.le_trans HBW.out.size HBX.out.size) (own_ge HOW.out)); have HNN := Lib.hid (own_ne (B := w1.heap.size) HNB.out ltX hw); have ltN := row_lt HRN.out; have y4 := row_cell HRN.out 4; (simp only [List.getElem?_toArray, List.getElem?_cons_zero, List.getElem?_cons_succ] at y4); have yf := row_frz HRN.out 4; clear ho hg hw))
      all_goals
        go_wp2
        go_roundw
        case rel => exact ⟨k + 1, p', c', by omega, by go_num, row_set4 HRN.out _, (by rw [List.replicate_succ']; exact ot_store HON.out HNN.out _), HNN.out, HBN.out.setCell (p := ⟨w1.heap.size, 4, none⟩) HB1.out.size _⟩
        case measure => simp [intOf]; omega
    · obtain rfl : k = 16 := by omega
      have hltk' : ¬ (((16 : Nat) : Int) < 16) := by omega
      have hmk2 := HM2.out
      have hcv : (convert 28 9 (.slice (some ⟨wr.heap.size, 0, none⟩) N2 N2)).run Tryz.prog (wr.alloc (.cells (zs N2) 5)).drew = .ok (.string s2) (wr.alloc (.cells (zs N2) 5)).drew := HC2.out wr.drew
      clear hrow hmk1
      go_wp2
      go_region_law (first
        | (go_simp; go_at_call 6; refine (text_ref_any _ _).mono ?_; rintro e w2 ⟨rfl, hb2⟩; have HRX := Lib.hid (row_step (w := (wr.alloc (.cells (zs N2) 5)).drew) (row_alloc_step (w := wr.drew) HRW.out _) hb2); have HBX := Lib.hid (bel_step (w := wr) (y := (wr.alloc (.cells (zs N2) 5)).drew) (Below.drew (bel_alloc (Below.refl _ _) (.cells (zs N2) 5))) hb2); have HOX := Lib.hid (ot_keep HOW.out HBX.out); have ltX := row_lt HRX.out; have x4 := row_cell HRX.out 4; (simp only [List.getElem?_toArray, List.getElem?_cons_zero, List.getElem?_cons_succ] at x4); clear hb2)
        | (refine step_ot (by rfl) _ _ (by rfl) w w2 p 16 c (List.replicate 16 s1) s2 (by rfl) (by rfl) HOX.out (Nat.le_trans HBW.out.size HBX.out.size) (by omega) ?_; intro p' c' w3 ho hg hw; have HRN := Lib.hid ((hg.block _ ltX (fun e => HNB.out e.symm)).trans HRX.out); have HON := Lib.hid ho; have HBN := Lib.hid (Below.grown (bel_step HBW.out HBX.out) hg (Nat.le_trans HBW.out.size HBX.out.size) (own_ge HOW.out)); have HNN := Lib.hid (own_ne (B := w1.heap.size) HNB.out ltX hw); have ltN := row_lt HRN.out; have y4 := row_cell HRN.out 4; (simp only [List.getElem?_toArray, List.getElem?_cons_zero, List.getElem?_cons_succ] at y4); have yf := row_frz HRN.out 4; clear ho hg hw))
      · have HRT := Lib.hid (row_set4 HRN.out (.slice p' 17 c'))
        have HBT := Lib.hid (HBN.out.setCell (p := ⟨w1.heap.size, 4, none⟩) HB1.out.size (.slice p' 17 c'))
        have HFI := Lib.hid (fine_lim s1 s2 D hD4 HS1.out HS2.out)
        rw [show decide (D ≤ 2) = false by simp; omega] at HFI
        have HREP := Lib.hid (show Rep (w3.setCell ⟨w1.heap.size, 4, none⟩ (.slice p' 17 c')) 2 (.agg #[.int .i64 4, .int .i64 0, .float .f64 0, .string ⟨#[]⟩, .slice p' 17 c']) (4, 0, 0, ⟨#[]⟩, (List.replicate 16 s1 ++ [s2]).map txtV) from ⟨p', 17, c', rfl, (show okI (4 : Int) from by decide), (show okI (0 : Int) from by decide), (show 0 < 2 ^ 64 from by decide), (show (⟨#[]⟩ : ByteArray).size ≤ maxLen from by decide), ot_rep (ot_store HON.out HNN.out _) (fun u hu => by
          rcases List.mem_append.1 hu with h | h
          · rw [List.eq_of_mem_replicate h, HS1.out]; omega
          · rw [List.mem_singleton.1 h, HS2.out]; omega)⟩)
        obtain ⟨LL, hLL⟩ : ∃ LL, (List.replicate 16 s1 ++ [s2]).map txtV = LL := ⟨_, rfl⟩
        rw [hLL] at HFI HREP
        clear y4 yf x4 b4 hcv hmk2 hLL
        have hrt := HRT.out
        have b0 := row_cell hrt 0; have b1 := row_cell hrt 1; have b2 := row_cell hrt 2; have b3 := row_cell hrt 3; have b4 := row_cell hrt 4
        simp only [List.getElem?_toArray, List.getElem?_cons_zero, List.getElem?_cons_succ] at b0 b1 b2 b3 b4
        clear hrt
        go_wp2_with fail
        go_at_call 8; refine (check_any 2 _ _ _ _ _ _ _ (4, 0, 0, ⟨#[]⟩, LL) _ HREP.out HFI.out.1 HFI.out.2.1).mono ?_; rintro e wc ⟨rfl, hbc⟩
        rw [show checkM (measT 2 (4, 0, 0, ⟨#[]⟩, LL)) = 22 from HFI.out.2.2.1]
        have HROW := Lib.hid (row_step HRT.out hbc)
        have HBC := Lib.hid (bel_step HBT.out hbc)
        have HRC := Lib.hid (rep_keep hbc _ _ _ HREP.out)
        clear hbc b0 b1 b2 b3 b4
        go_wp2
        refine wp_region_held_drew (S := fun w' => Below wc.heap.size wc w') (by kernel_rfl) ?_ (fun hHeld => ?_)
        · exact Below.drew (Below.refl _ _)
        refine wpAnyH_take (i := 0) (oi := ?_) (v := ?_) ?hia0q0 (by kernel_rfl) ?hfa0q0 ?hra0q0 ?hQa0q0 ?hya0q0 (by assumption) ?resta0q0
        case hia0q0 => (simp only [List.getElem?_toArray, List.getElem?_cons_zero, List.getElem?_cons_succ]; rfl)
        case hfa0q0 => kernel_rfl
        case hra0q0 => kernel_rfl
        case hya0q0 => (refine Or.inl ⟨by rfl, ?_⟩; intro w hSw; (try dsimp only at hSw); go_simp; (try with_reducible rfl))
        case hQa0q0 => exact fun _ _ _ h => h
        (try simp only [Act.put, List.setIfInBounds_toArray, List.set_cons_zero, List.set_cons_succ])
        refine wpAnyH_take (i := 1) (oi := ?_) (v := ?_) ?hia0q1 (by kernel_rfl) ?hfa0q1 ?hra0q1 ?hQa0q1 ?hya0q1 (by assumption) ?resta0q1
        case hia0q1 => (simp only [List.getElem?_toArray, List.getElem?_cons_zero, List.getElem?_cons_succ]; rfl)
        case hfa0q1 => kernel_rfl
        case hra0q1 => kernel_rfl
        case hya0q1 => (refine Or.inl ⟨by rfl, ?_⟩; intro w hSw; (try dsimp only at hSw); go_simp; (try with_reducible rfl))
        case hQa0q1 => exact fun _ _ _ h => h
        (try simp only [Act.put, List.setIfInBounds_toArray, List.set_cons_zero, List.set_cons_succ])
        refine wpAnyH_take (i := 2) (oi := ?_) (v := ?_) ?hia0q2 (by kernel_rfl) ?hfa0q2 ?hra0q2 ?hQa0q2 ?hya0q2 (by assumption) ?resta0q2
        case hia0q2 => (simp only [List.getElem?_toArray, List.getElem?_cons_zero, List.getElem?_cons_succ]; rfl)
        case hfa0q2 => kernel_rfl
        case hra0q2 => kernel_rfl
        case hya0q2 => (refine Or.inl ⟨by rfl, ?_⟩; intro w hSw; (try dsimp only at hSw); go_simp; (try with_reducible rfl))
        case hQa0q2 => exact fun _ _ _ h => h
        (try simp only [Act.put, List.setIfInBounds_toArray, List.set_cons_zero, List.set_cons_succ])
        refine wpAnyH_take (i := 3) (oi := ?_) (v := ?_) ?hia0q3 (by kernel_rfl) ?hfa0q3 ?hra0q3 ?hQa0q3 ?hya0q3 (by assumption) ?resta0q3
        case hia0q3 => (simp only [List.getElem?_toArray, List.getElem?_cons_zero, List.getElem?_cons_succ]; rfl)
        case hfa0q3 => kernel_rfl
        case hra0q3 => kernel_rfl
        case hya0q3 => (refine Or.inl ⟨by rfl, ?_⟩; intro w hSw; (try dsimp only at hSw); go_simp; (try with_reducible rfl))
        case hQa0q3 => exact fun _ _ _ h => h
        (try simp only [Act.put, List.setIfInBounds_toArray, List.set_cons_zero, List.set_cons_succ])
        refine wpAnyH_take (i := 4) (oi := ?_) (v := ?_) ?hia0q4 (by kernel_rfl) ?hfa0q4 ?hra0q4 ?hQa0q4 ?hya0q4 (by assumption) ?resta0q4
        case hia0q4 => (simp only [List.getElem?_toArray, List.getElem?_cons_zero, List.getElem?_cons_succ]; rfl)
        case hfa0q4 => kernel_rfl
        case hra0q4 => kernel_rfl
        case hya0q4 => (refine Or.inl ⟨by rfl, ?_⟩; intro w hSw; (try dsimp only at hSw); go_simp; (try with_reducible rfl))
        case hQa0q4 => exact fun _ _ _ h => h
        (try simp only [Act.put, List.setIfInBounds_toArray, List.set_cons_zero, List.set_cons_succ])
        refine wpAnyH_take (i := 5) (oi := ?_) (v := ?_) ?hia0q5 (by kernel_rfl) ?hfa0q5 ?hra0q5 ?hQa0q5 ?hya0q5 (by assumption) ?resta0q5
        case hia0q5 => (simp only [List.getElem?_toArray, List.getElem?_cons_zero, List.getElem?_cons_succ]; rfl)
        case hfa0q5 => kernel_rfl
        case hra0q5 => kernel_rfl
        case hya0q5 => (refine Or.inl ⟨by rfl, ?_⟩; intro w hSw; (try dsimp only at hSw); go_simp; (try with_reducible rfl))
        case hQa0q5 => exact fun _ _ _ h => h
        (try simp only [Act.put, List.setIfInBounds_toArray, List.set_cons_zero, List.set_cons_succ])
        refine wpAnyH_take (i := 6) (oi := ?_) (v := ?_) ?hia0q6 (by kernel_rfl) ?hfa0q6 ?hra0q6 ?hQa0q6 ?hya0q6 (by assumption) ?resta0q6
        case hia0q6 => (simp only [List.getElem?_toArray, List.getElem?_cons_zero, List.getElem?_cons_succ]; rfl)
        case hfa0q6 => kernel_rfl
        case hra0q6 => kernel_rfl
        case hya0q6 => (refine Or.inl ⟨by rfl, ?_⟩; intro w hSw; (try dsimp only at hSw); go_simp; (try with_reducible rfl))
        case hQa0q6 => exact fun _ _ _ h => h
        (try simp only [Act.put, List.setIfInBounds_toArray, List.set_cons_zero, List.set_cons_succ])
        refine wpAnyH_take (i := 7) (oi := ?_) (v := ?_) ?hia0q7 (by kernel_rfl) ?hfa0q7 ?hra0q7 ?hQa0q7 ?hya0q7 (by assumption) ?resta0q7
        case hia0q7 => (simp only [List.getElem?_toArray, List.getElem?_cons_zero, List.getElem?_cons_succ]; rfl)
        case hfa0q7 => kernel_rfl
        case hra0q7 => kernel_rfl
        case hya0q7 => (refine Or.inl ⟨by rfl, ?_⟩; intro w hSw; (try dsimp only at hSw); go_simp; (try with_reducible rfl))
        case hQa0q7 => exact fun _ _ _ h => h
        (try simp only [Act.put, List.setIfInBounds_toArray, List.set_cons_zero, List.set_cons_succ])
        refine wpAnyH_take (i := 8) (oi := ?_) (v := ?_) ?hia0q8 (by kernel_rfl) ?hfa0q8 ?hra0q8 ?hQa0q8 ?hya0q8 (by assumption) ?resta0q8
        case hia0q8 => (simp only [List.getElem?_toArray, List.getElem?_cons_zero, List.getElem?_cons_succ]; rfl)
        case hfa0q8 => kernel_rfl
        case hra0q8 => kernel_rfl
        case hya0q8 => (refine Or.inl ⟨by rfl, ?_⟩; intro w hSw; (try dsimp only at hSw); go_simp; (try with_reducible rfl))
        case hQa0q8 => exact fun _ _ _ h => h
        (try simp only [Act.put, List.setIfInBounds_toArray, List.set_cons_zero, List.set_cons_succ])
        refine wpAnyH_take (i := 9) (oi := ?_) (v := ?_) ?hia0q9 (by kernel_rfl) ?hfa0q9 ?hra0q9 ?hQa0q9 ?hya0q9 (by assumption) ?resta0q9
        case hia0q9 => (simp only [List.getElem?_toArray, List.getElem?_cons_zero, List.getElem?_cons_succ]; rfl)
        case hfa0q9 => kernel_rfl
        case hra0q9 => kernel_rfl
        case hya0q9 => (refine Or.inl ⟨by rfl, ?_⟩; intro w hSw; (try dsimp only at hSw); go_simp; (try with_reducible rfl))
        case hQa0q9 => exact fun _ _ _ h => h
        (try simp only [Act.put, List.setIfInBounds_toArray, List.set_cons_zero, List.set_cons_succ])
        refine wpAnyH_take (i := 10) (oi := ?_) (v := ?_) ?hia0q10 (by kernel_rfl) ?hfa0q10 ?hra0q10 ?hQa0q10 ?hya0q10 (by assumption) ?resta0q10
        case hia0q10 => (simp only [List.getElem?_toArray, List.getElem?_cons_zero, List.getElem?_cons_succ]; rfl)
        case hfa0q10 => kernel_rfl
        case hra0q10 => kernel_rfl
        case hya0q10 => (refine Or.inl ⟨by rfl, ?_⟩; intro w hSw; (try dsimp only at hSw); go_simp; (try with_reducible rfl))
        case hQa0q10 => exact fun _ _ _ h => h
        (try simp only [Act.put, List.setIfInBounds_toArray, List.set_cons_zero, List.set_cons_succ])
        refine wpAnyH_take (i := 11) (oi := ?_) (v := ?_) ?hia0q11 (by kernel_rfl) ?hfa0q11 ?hra0q11 ?hQa0q11 ?hya0q11 (by assumption) ?resta0q11
        case hia0q11 => (simp only [List.getElem?_toArray, List.getElem?_cons_zero, List.getElem?_cons_succ]; rfl)
        case hfa0q11 => kernel_rfl
        case hra0q11 => kernel_rfl
        case hya0q11 => (refine Or.inl ⟨by rfl, ?_⟩; intro w hSw; (try dsimp only at hSw); go_simp; (try with_reducible rfl))
        case hQa0q11 => exact fun _ _ _ h => h
        (try simp only [Act.put, List.setIfInBounds_toArray, List.set_cons_zero, List.set_cons_succ])
        refine wpAnyH_take (i := 12) (oi := ?_) (v := ?_) ?hia0q12 (by kernel_rfl) ?hfa0q12 ?hra0q12 ?hQa0q12 ?hya0q12 (by assumption) ?resta0q12
        case hia0q12 => (simp only [List.getElem?_toArray, List.getElem?_cons_zero, List.getElem?_cons_succ]; rfl)
        case hfa0q12 => kernel_rfl
        case hra0q12 => kernel_rfl
        case hya0q12 => (refine Or.inl ⟨by rfl, ?_⟩; intro w hSw; (try dsimp only at hSw); go_simp; (try with_reducible rfl))
        case hQa0q12 => exact fun _ _ _ h => h
        (try simp only [Act.put, List.setIfInBounds_toArray, List.set_cons_zero, List.set_cons_succ])
        refine wpAnyH_take (i := 13) (oi := ?_) (v := ?_) ?hia0q13 (by kernel_rfl) ?hfa0q13 ?hra0q13 ?hQa0q13 ?hya0q13 (by assumption) ?resta0q13
        case hia0q13 => (simp only [List.getElem?_toArray, List.getElem?_cons_zero, List.getElem?_cons_succ]; rfl)
        case hfa0q13 => kernel_rfl
        case hra0q13 => kernel_rfl
        case hya0q13 => (refine Or.inl ⟨by rfl, ?_⟩; intro w hSw; (try dsimp only at hSw); go_simp; (try with_reducible rfl))
        case hQa0q13 => exact fun _ _ _ h => h
        (try simp only [Act.put, List.setIfInBounds_toArray, List.set_cons_zero, List.set_cons_succ])
        refine wpAnyH_take (i := 14) (oi := ?_) (v := ?_) ?hia0q14 (by kernel_rfl) ?hfa0q14 ?hra0q14 ?hQa0q14 ?hya0q14 (by assumption) ?resta0q14
        case hia0q14 => (simp only [List.getElem?_toArray, List.getElem?_cons_zero, List.getElem?_cons_succ]; rfl)
        case hfa0q14 => kernel_rfl
        case hra0q14 => kernel_rfl
        case hya0q14 => (refine Or.inl ⟨by rfl, ?_⟩; intro w hSw; (try dsimp only at hSw); have rr := row_step HROW.out hSw; have c0 := row_cell rr 0; have c1 := row_cell rr 1; have c2 := row_cell rr 2; have c3 := row_cell rr 3; have c4 := row_cell rr 4; simp only [List.getElem?_toArray, List.getElem?_cons_zero, List.getElem?_cons_succ] at c0 c1 c2 c3 c4; go_simp; (try with_reducible rfl))
        case hQa0q14 => exact fun _ _ _ h => h
        (try simp only [Act.put, List.setIfInBounds_toArray, List.set_cons_zero, List.set_cons_succ])
        refine wpAnyH_take (i := 16) (oi := ?_) (v := ?_) ?hia0q16 (by kernel_rfl) ?hfa0q16 ?hra0q16 ?hQa0q16 ?hya0q16 (by assumption) ?resta0q16
        case hia0q16 => (simp only [List.getElem?_toArray, List.getElem?_cons_zero, List.getElem?_cons_succ]; rfl)
        case hfa0q16 => kernel_rfl
        case hra0q16 => kernel_rfl
        case hya0q16 => (refine Or.inl ⟨by rfl, ?_⟩; intro w hSw; (try dsimp only at hSw); have rr := row_step HROW.out hSw; have c0 := row_cell rr 0; have c1 := row_cell rr 1; have c2 := row_cell rr 2; have c3 := row_cell rr 3; have c4 := row_cell rr 4; simp only [List.getElem?_toArray, List.getElem?_cons_zero, List.getElem?_cons_succ] at c0 c1 c2 c3 c4; go_simp; (try with_reducible rfl))
        case hQa0q16 => exact fun _ _ _ h => h
        (try simp only [Act.put, List.setIfInBounds_toArray, List.set_cons_zero, List.set_cons_succ])
        refine wpAnyH_ready (rs := [15]) (by kernel_rfl) (by simp) ?_
        refine AllReadyH.cons (o := ?_) ?hox0q15 ?stx0q15 AllReadyH.nil
        case hox0q15 => (simp only [List.getElem?_toArray, List.getElem?_cons_zero, List.getElem?_cons_succ]; rfl)
        intro K hK
        go_simp
        go_at_call 9; refine (vsize_any 2 _ _ _ _ _ _ _ (4, 0, 0, ⟨#[]⟩, LL) _ (rep_keep hHeld _ _ _ HRC.out) HFI.out.1 HFI.out.2.1).mono ?_; rintro e ws ⟨rfl, hb⟩; rw [show sizeM (measT 2 (4, 0, 0, ⟨#[]⟩, LL)) = sizeT 2 (4, 0, 0, ⟨#[]⟩, LL) from HFI.out.2.2.2]; have hS1 := bel_step hHeld hb; clear hb
        go_wp2_with fail
        refine hK.out _ _ hS1 (fun hHeld2 => ?_)
        clear hK K hHeld hHeld2
        have hHeld := hS1
        clear hS1
        (try simp only [Act.put, List.setIfInBounds_toArray, List.set_cons_zero, List.set_cons_succ])
        refine wpAnyH_ready (rs := [17]) (by kernel_rfl) (by simp) ?_
        refine AllReadyH.cons (o := ?_) ?hox0q17 ?stx0q17 AllReadyH.nil
        case hox0q17 => (simp only [List.getElem?_toArray, List.getElem?_cons_zero, List.getElem?_cons_succ]; rfl)
        intro K hK
        go_simp
        go_at_call 10; refine (size_any 2 _ (4, 0, 0, ⟨#[]⟩, LL) _ (rep_keep hHeld _ _ _ HRC.out)).mono ?_; rintro e ws ⟨rfl, hb⟩; have hS1 := bel_step hHeld hb; clear hb
        go_wp2_with fail
        refine hK.out _ _ hS1 (fun hHeld2 => ?_)
        clear hK K hHeld hHeld2
        have hHeld := hS1
        clear hS1
        (try simp only [Act.put, List.setIfInBounds_toArray, List.set_cons_zero, List.set_cons_succ])
        refine wpAnyH_take (i := 18) (oi := ?_) (v := ?_) ?hix0q18 (by kernel_rfl) ?hfx0q18 ?hrx0q18 ?hQx0q18 ?hyx0q18 (by assumption) ?restx0q18
        case hix0q18 => (simp only [List.getElem?_toArray, List.getElem?_cons_zero, List.getElem?_cons_succ]; rfl)
        case hfx0q18 => kernel_rfl
        case hrx0q18 => kernel_rfl
        case hyx0q18 => (refine Or.inl ⟨by rfl, ?_⟩; intro w hSw; (try dsimp only at hSw); go_simp; (try with_reducible rfl))
        case hQx0q18 => exact fun _ _ _ h => h
        (try simp only [Act.put, List.setIfInBounds_toArray, List.set_cons_zero, List.set_cons_succ])
        refine wpAnyH_take (i := 19) (oi := ?_) (v := ?_) ?hix0q19 (by kernel_rfl) ?hfx0q19 ?hrx0q19 ?hQx0q19 ?hyx0q19 (by assumption) ?restx0q19
        case hix0q19 => (simp only [List.getElem?_toArray, List.getElem?_cons_zero, List.getElem?_cons_succ]; rfl)
        case hfx0q19 => kernel_rfl
        case hrx0q19 => kernel_rfl
        case hyx0q19 => (refine Or.inl ⟨by rfl, ?_⟩; intro w hSw; (try dsimp only at hSw); go_simp; (try with_reducible rfl))
        case hQx0q19 => exact fun _ _ _ h => h
        (try simp only [Act.put, List.setIfInBounds_toArray, List.set_cons_zero, List.set_cons_succ])
        refine wpAnyH_take (i := 20) (oi := ?_) (v := ?_) ?hix0q20 (by kernel_rfl) ?hfx0q20 ?hrx0q20 ?hQx0q20 ?hyx0q20 (by assumption) ?restx0q20
        case hix0q20 => (simp only [List.getElem?_toArray, List.getElem?_cons_zero, List.getElem?_cons_succ]; rfl)
        case hfx0q20 => kernel_rfl
        case hrx0q20 => kernel_rfl
        case hyx0q20 => (refine Or.inl ⟨by rfl, ?_⟩; intro w hSw; (try dsimp only at hSw); go_simp; (try with_reducible rfl))
        case hQx0q20 => exact fun _ _ _ h => h
        (try simp only [Act.put, List.setIfInBounds_toArray, List.set_cons_zero, List.set_cons_succ])
        refine wpAnyH_done (by kernel_rfl) ?_ _
        have HF := Lib.hid (bel_step HBC.out hHeld)
        clear hHeld
        go_wp2
        go_ret
        exact ⟨rfl, HF.out⟩
      · have HRT := Lib.hid (row_set4 HRN.out (.slice p' 17 c'))
        have HBT := Lib.hid (HBN.out.setCell (p := ⟨w1.heap.size, 4, none⟩) HB1.out.size (.slice p' 17 c'))
        have HFI := Lib.hid (fine_lim s1 s2 D hD4 HS1.out HS2.out)
        rw [show decide (D ≤ 2) = false by simp; omega] at HFI
        have HREP := Lib.hid (show Rep (w3.setCell ⟨w1.heap.size, 4, none⟩ (.slice p' 17 c')) 2 (.agg #[.int .i64 4, .int .i64 0, .float .f64 0, .string ⟨#[]⟩, .slice p' 17 c']) (4, 0, 0, ⟨#[]⟩, (List.replicate 16 s1 ++ [s2]).map txtV) from ⟨p', 17, c', rfl, (show okI (4 : Int) from by decide), (show okI (0 : Int) from by decide), (show 0 < 2 ^ 64 from by decide), (show (⟨#[]⟩ : ByteArray).size ≤ maxLen from by decide), ot_rep (ot_store HON.out HNN.out _) (fun u hu => by
          rcases List.mem_append.1 hu with h | h
          · rw [List.eq_of_mem_replicate h, HS1.out]; omega
          · rw [List.mem_singleton.1 h, HS2.out]; omega)⟩)
        obtain ⟨LL, hLL⟩ : ∃ LL, (List.replicate 16 s1 ++ [s2]).map txtV = LL := ⟨_, rfl⟩
        rw [hLL] at HFI HREP
        clear y4 yf x4 b4 hcv hmk2 hLL
        have hrt := HRT.out
        have b0 := row_cell hrt 0; have b1 := row_cell hrt 1; have b2 := row_cell hrt 2; have b3 := row_cell hrt 3; have b4 := row_cell hrt 4
        simp only [List.getElem?_toArray, List.getElem?_cons_zero, List.getElem?_cons_succ] at b0 b1 b2 b3 b4
        clear hrt
        go_wp2_with fail
        go_at_call 8; refine (check_any 2 _ _ _ _ _ _ _ (4, 0, 0, ⟨#[]⟩, LL) _ HREP.out HFI.out.1 HFI.out.2.1).mono ?_; rintro e wc ⟨rfl, hbc⟩
        rw [show checkM (measT 2 (4, 0, 0, ⟨#[]⟩, LL)) = 22 from HFI.out.2.2.1]
        have HROW := Lib.hid (row_step HRT.out hbc)
        have HBC := Lib.hid (bel_step HBT.out hbc)
        have HRC := Lib.hid (rep_keep hbc _ _ _ HREP.out)
        clear hbc b0 b1 b2 b3 b4
        go_wp2
        refine wp_region_held_drew (S := fun w' => Below wc.heap.size wc w') (by kernel_rfl) ?_ (fun hHeld => ?_)
        · exact Below.drew (Below.refl _ _)
        refine wpAnyH_take (i := 0) (oi := ?_) (v := ?_) ?hia1q0 (by kernel_rfl) ?hfa1q0 ?hra1q0 ?hQa1q0 ?hya1q0 (by assumption) ?resta1q0
        case hia1q0 => (simp only [List.getElem?_toArray, List.getElem?_cons_zero, List.getElem?_cons_succ]; rfl)
        case hfa1q0 => kernel_rfl
        case hra1q0 => kernel_rfl
        case hya1q0 => (refine Or.inl ⟨by rfl, ?_⟩; intro w hSw; (try dsimp only at hSw); go_simp; (try with_reducible rfl))
        case hQa1q0 => exact fun _ _ _ h => h
        (try simp only [Act.put, List.setIfInBounds_toArray, List.set_cons_zero, List.set_cons_succ])
        refine wpAnyH_take (i := 1) (oi := ?_) (v := ?_) ?hia1q1 (by kernel_rfl) ?hfa1q1 ?hra1q1 ?hQa1q1 ?hya1q1 (by assumption) ?resta1q1
        case hia1q1 => (simp only [List.getElem?_toArray, List.getElem?_cons_zero, List.getElem?_cons_succ]; rfl)
        case hfa1q1 => kernel_rfl
        case hra1q1 => kernel_rfl
        case hya1q1 => (refine Or.inl ⟨by rfl, ?_⟩; intro w hSw; (try dsimp only at hSw); go_simp; (try with_reducible rfl))
        case hQa1q1 => exact fun _ _ _ h => h
        (try simp only [Act.put, List.setIfInBounds_toArray, List.set_cons_zero, List.set_cons_succ])
        refine wpAnyH_take (i := 2) (oi := ?_) (v := ?_) ?hia1q2 (by kernel_rfl) ?hfa1q2 ?hra1q2 ?hQa1q2 ?hya1q2 (by assumption) ?resta1q2
        case hia1q2 => (simp only [List.getElem?_toArray, List.getElem?_cons_zero, List.getElem?_cons_succ]; rfl)
        case hfa1q2 => kernel_rfl
        case hra1q2 => kernel_rfl
        case hya1q2 => (refine Or.inl ⟨by rfl, ?_⟩; intro w hSw; (try dsimp only at hSw); go_simp; (try with_reducible rfl))
        case hQa1q2 => exact fun _ _ _ h => h
        (try simp only [Act.put, List.setIfInBounds_toArray, List.set_cons_zero, List.set_cons_succ])
        refine wpAnyH_take (i := 3) (oi := ?_) (v := ?_) ?hia1q3 (by kernel_rfl) ?hfa1q3 ?hra1q3 ?hQa1q3 ?hya1q3 (by assumption) ?resta1q3
        case hia1q3 => (simp only [List.getElem?_toArray, List.getElem?_cons_zero, List.getElem?_cons_succ]; rfl)
        case hfa1q3 => kernel_rfl
        case hra1q3 => kernel_rfl
        case hya1q3 => (refine Or.inl ⟨by rfl, ?_⟩; intro w hSw; (try dsimp only at hSw); go_simp; (try with_reducible rfl))
        case hQa1q3 => exact fun _ _ _ h => h
        (try simp only [Act.put, List.setIfInBounds_toArray, List.set_cons_zero, List.set_cons_succ])
        refine wpAnyH_take (i := 4) (oi := ?_) (v := ?_) ?hia1q4 (by kernel_rfl) ?hfa1q4 ?hra1q4 ?hQa1q4 ?hya1q4 (by assumption) ?resta1q4
        case hia1q4 => (simp only [List.getElem?_toArray, List.getElem?_cons_zero, List.getElem?_cons_succ]; rfl)
        case hfa1q4 => kernel_rfl
        case hra1q4 => kernel_rfl
        case hya1q4 => (refine Or.inl ⟨by rfl, ?_⟩; intro w hSw; (try dsimp only at hSw); go_simp; (try with_reducible rfl))
        case hQa1q4 => exact fun _ _ _ h => h
        (try simp only [Act.put, List.setIfInBounds_toArray, List.set_cons_zero, List.set_cons_succ])
        refine wpAnyH_take (i := 5) (oi := ?_) (v := ?_) ?hia1q5 (by kernel_rfl) ?hfa1q5 ?hra1q5 ?hQa1q5 ?hya1q5 (by assumption) ?resta1q5
        case hia1q5 => (simp only [List.getElem?_toArray, List.getElem?_cons_zero, List.getElem?_cons_succ]; rfl)
        case hfa1q5 => kernel_rfl
        case hra1q5 => kernel_rfl
        case hya1q5 => (refine Or.inl ⟨by rfl, ?_⟩; intro w hSw; (try dsimp only at hSw); go_simp; (try with_reducible rfl))
        case hQa1q5 => exact fun _ _ _ h => h
        (try simp only [Act.put, List.setIfInBounds_toArray, List.set_cons_zero, List.set_cons_succ])
        refine wpAnyH_take (i := 6) (oi := ?_) (v := ?_) ?hia1q6 (by kernel_rfl) ?hfa1q6 ?hra1q6 ?hQa1q6 ?hya1q6 (by assumption) ?resta1q6
        case hia1q6 => (simp only [List.getElem?_toArray, List.getElem?_cons_zero, List.getElem?_cons_succ]; rfl)
        case hfa1q6 => kernel_rfl
        case hra1q6 => kernel_rfl
        case hya1q6 => (refine Or.inl ⟨by rfl, ?_⟩; intro w hSw; (try dsimp only at hSw); go_simp; (try with_reducible rfl))
        case hQa1q6 => exact fun _ _ _ h => h
        (try simp only [Act.put, List.setIfInBounds_toArray, List.set_cons_zero, List.set_cons_succ])
        refine wpAnyH_take (i := 7) (oi := ?_) (v := ?_) ?hia1q7 (by kernel_rfl) ?hfa1q7 ?hra1q7 ?hQa1q7 ?hya1q7 (by assumption) ?resta1q7
        case hia1q7 => (simp only [List.getElem?_toArray, List.getElem?_cons_zero, List.getElem?_cons_succ]; rfl)
        case hfa1q7 => kernel_rfl
        case hra1q7 => kernel_rfl
        case hya1q7 => (refine Or.inl ⟨by rfl, ?_⟩; intro w hSw; (try dsimp only at hSw); go_simp; (try with_reducible rfl))
        case hQa1q7 => exact fun _ _ _ h => h
        (try simp only [Act.put, List.setIfInBounds_toArray, List.set_cons_zero, List.set_cons_succ])
        refine wpAnyH_take (i := 8) (oi := ?_) (v := ?_) ?hia1q8 (by kernel_rfl) ?hfa1q8 ?hra1q8 ?hQa1q8 ?hya1q8 (by assumption) ?resta1q8
        case hia1q8 => (simp only [List.getElem?_toArray, List.getElem?_cons_zero, List.getElem?_cons_succ]; rfl)
        case hfa1q8 => kernel_rfl
        case hra1q8 => kernel_rfl
        case hya1q8 => (refine Or.inl ⟨by rfl, ?_⟩; intro w hSw; (try dsimp only at hSw); go_simp; (try with_reducible rfl))
        case hQa1q8 => exact fun _ _ _ h => h
        (try simp only [Act.put, List.setIfInBounds_toArray, List.set_cons_zero, List.set_cons_succ])
        refine wpAnyH_take (i := 9) (oi := ?_) (v := ?_) ?hia1q9 (by kernel_rfl) ?hfa1q9 ?hra1q9 ?hQa1q9 ?hya1q9 (by assumption) ?resta1q9
        case hia1q9 => (simp only [List.getElem?_toArray, List.getElem?_cons_zero, List.getElem?_cons_succ]; rfl)
        case hfa1q9 => kernel_rfl
        case hra1q9 => kernel_rfl
        case hya1q9 => (refine Or.inl ⟨by rfl, ?_⟩; intro w hSw; (try dsimp only at hSw); go_simp; (try with_reducible rfl))
        case hQa1q9 => exact fun _ _ _ h => h
        (try simp only [Act.put, List.setIfInBounds_toArray, List.set_cons_zero, List.set_cons_succ])
        refine wpAnyH_take (i := 10) (oi := ?_) (v := ?_) ?hia1q10 (by kernel_rfl) ?hfa1q10 ?hra1q10 ?hQa1q10 ?hya1q10 (by assumption) ?resta1q10
        case hia1q10 => (simp only [List.getElem?_toArray, List.getElem?_cons_zero, List.getElem?_cons_succ]; rfl)
        case hfa1q10 => kernel_rfl
        case hra1q10 => kernel_rfl
        case hya1q10 => (refine Or.inl ⟨by rfl, ?_⟩; intro w hSw; (try dsimp only at hSw); go_simp; (try with_reducible rfl))
        case hQa1q10 => exact fun _ _ _ h => h
        (try simp only [Act.put, List.setIfInBounds_toArray, List.set_cons_zero, List.set_cons_succ])
        refine wpAnyH_take (i := 11) (oi := ?_) (v := ?_) ?hia1q11 (by kernel_rfl) ?hfa1q11 ?hra1q11 ?hQa1q11 ?hya1q11 (by assumption) ?resta1q11
        case hia1q11 => (simp only [List.getElem?_toArray, List.getElem?_cons_zero, List.getElem?_cons_succ]; rfl)
        case hfa1q11 => kernel_rfl
        case hra1q11 => kernel_rfl
        case hya1q11 => (refine Or.inl ⟨by rfl, ?_⟩; intro w hSw; (try dsimp only at hSw); go_simp; (try with_reducible rfl))
        case hQa1q11 => exact fun _ _ _ h => h
        (try simp only [Act.put, List.setIfInBounds_toArray, List.set_cons_zero, List.set_cons_succ])
        refine wpAnyH_take (i := 12) (oi := ?_) (v := ?_) ?hia1q12 (by kernel_rfl) ?hfa1q12 ?hra1q12 ?hQa1q12 ?hya1q12 (by assumption) ?resta1q12
        case hia1q12 => (simp only [List.getElem?_toArray, List.getElem?_cons_zero, List.getElem?_cons_succ]; rfl)
        case hfa1q12 => kernel_rfl
        case hra1q12 => kernel_rfl
        case hya1q12 => (refine Or.inl ⟨by rfl, ?_⟩; intro w hSw; (try dsimp only at hSw); go_simp; (try with_reducible rfl))
        case hQa1q12 => exact fun _ _ _ h => h
        (try simp only [Act.put, List.setIfInBounds_toArray, List.set_cons_zero, List.set_cons_succ])
        refine wpAnyH_take (i := 13) (oi := ?_) (v := ?_) ?hia1q13 (by kernel_rfl) ?hfa1q13 ?hra1q13 ?hQa1q13 ?hya1q13 (by assumption) ?resta1q13
        case hia1q13 => (simp only [List.getElem?_toArray, List.getElem?_cons_zero, List.getElem?_cons_succ]; rfl)
        case hfa1q13 => kernel_rfl
        case hra1q13 => kernel_rfl
        case hya1q13 => (refine Or.inl ⟨by rfl, ?_⟩; intro w hSw; (try dsimp only at hSw); go_simp; (try with_reducible rfl))
        case hQa1q13 => exact fun _ _ _ h => h
        (try simp only [Act.put, List.setIfInBounds_toArray, List.set_cons_zero, List.set_cons_succ])
        refine wpAnyH_take (i := 14) (oi := ?_) (v := ?_) ?hia1q14 (by kernel_rfl) ?hfa1q14 ?hra1q14 ?hQa1q14 ?hya1q14 (by assumption) ?resta1q14
        case hia1q14 => (simp only [List.getElem?_toArray, List.getElem?_cons_zero, List.getElem?_cons_succ]; rfl)
        case hfa1q14 => kernel_rfl
        case hra1q14 => kernel_rfl
        case hya1q14 => (refine Or.inl ⟨by rfl, ?_⟩; intro w hSw; (try dsimp only at hSw); have rr := row_step HROW.out hSw; have c0 := row_cell rr 0; have c1 := row_cell rr 1; have c2 := row_cell rr 2; have c3 := row_cell rr 3; have c4 := row_cell rr 4; simp only [List.getElem?_toArray, List.getElem?_cons_zero, List.getElem?_cons_succ] at c0 c1 c2 c3 c4; go_simp; (try with_reducible rfl))
        case hQa1q14 => exact fun _ _ _ h => h
        (try simp only [Act.put, List.setIfInBounds_toArray, List.set_cons_zero, List.set_cons_succ])
        refine wpAnyH_take (i := 16) (oi := ?_) (v := ?_) ?hia1q16 (by kernel_rfl) ?hfa1q16 ?hra1q16 ?hQa1q16 ?hya1q16 (by assumption) ?resta1q16
        case hia1q16 => (simp only [List.getElem?_toArray, List.getElem?_cons_zero, List.getElem?_cons_succ]; rfl)
        case hfa1q16 => kernel_rfl
        case hra1q16 => kernel_rfl
        case hya1q16 => (refine Or.inl ⟨by rfl, ?_⟩; intro w hSw; (try dsimp only at hSw); have rr := row_step HROW.out hSw; have c0 := row_cell rr 0; have c1 := row_cell rr 1; have c2 := row_cell rr 2; have c3 := row_cell rr 3; have c4 := row_cell rr 4; simp only [List.getElem?_toArray, List.getElem?_cons_zero, List.getElem?_cons_succ] at c0 c1 c2 c3 c4; go_simp; (try with_reducible rfl))
        case hQa1q16 => exact fun _ _ _ h => h
        (try simp only [Act.put, List.setIfInBounds_toArray, List.set_cons_zero, List.set_cons_succ])
        refine wpAnyH_ready (rs := [15]) (by kernel_rfl) (by simp) ?_
        refine AllReadyH.cons (o := ?_) ?hox1q15 ?stx1q15 AllReadyH.nil
        case hox1q15 => (simp only [List.getElem?_toArray, List.getElem?_cons_zero, List.getElem?_cons_succ]; rfl)
        intro K hK
        go_simp
        go_at_call 9; refine (vsize_any 2 _ _ _ _ _ _ _ (4, 0, 0, ⟨#[]⟩, LL) _ (rep_keep hHeld _ _ _ HRC.out) HFI.out.1 HFI.out.2.1).mono ?_; rintro e ws ⟨rfl, hb⟩; rw [show sizeM (measT 2 (4, 0, 0, ⟨#[]⟩, LL)) = sizeT 2 (4, 0, 0, ⟨#[]⟩, LL) from HFI.out.2.2.2]; have hS1 := bel_step hHeld hb; clear hb
        go_wp2_with fail
        refine hK.out _ _ hS1 (fun hHeld2 => ?_)
        clear hK K hHeld hHeld2
        have hHeld := hS1
        clear hS1
        (try simp only [Act.put, List.setIfInBounds_toArray, List.set_cons_zero, List.set_cons_succ])
        refine wpAnyH_ready (rs := [17]) (by kernel_rfl) (by simp) ?_
        refine AllReadyH.cons (o := ?_) ?hox1q17 ?stx1q17 AllReadyH.nil
        case hox1q17 => (simp only [List.getElem?_toArray, List.getElem?_cons_zero, List.getElem?_cons_succ]; rfl)
        intro K hK
        go_simp
        go_at_call 10; refine (size_any 2 _ (4, 0, 0, ⟨#[]⟩, LL) _ (rep_keep hHeld _ _ _ HRC.out)).mono ?_; rintro e ws ⟨rfl, hb⟩; have hS1 := bel_step hHeld hb; clear hb
        go_wp2_with fail
        refine hK.out _ _ hS1 (fun hHeld2 => ?_)
        clear hK K hHeld hHeld2
        have hHeld := hS1
        clear hS1
        (try simp only [Act.put, List.setIfInBounds_toArray, List.set_cons_zero, List.set_cons_succ])
        refine wpAnyH_take (i := 18) (oi := ?_) (v := ?_) ?hix1q18 (by kernel_rfl) ?hfx1q18 ?hrx1q18 ?hQx1q18 ?hyx1q18 (by assumption) ?restx1q18
        case hix1q18 => (simp only [List.getElem?_toArray, List.getElem?_cons_zero, List.getElem?_cons_succ]; rfl)
        case hfx1q18 => kernel_rfl
        case hrx1q18 => kernel_rfl
        case hyx1q18 => (refine Or.inl ⟨by rfl, ?_⟩; intro w hSw; (try dsimp only at hSw); go_simp; (try with_reducible rfl))
        case hQx1q18 => exact fun _ _ _ h => h
        (try simp only [Act.put, List.setIfInBounds_toArray, List.set_cons_zero, List.set_cons_succ])
        refine wpAnyH_take (i := 19) (oi := ?_) (v := ?_) ?hix1q19 (by kernel_rfl) ?hfx1q19 ?hrx1q19 ?hQx1q19 ?hyx1q19 (by assumption) ?restx1q19
        case hix1q19 => (simp only [List.getElem?_toArray, List.getElem?_cons_zero, List.getElem?_cons_succ]; rfl)
        case hfx1q19 => kernel_rfl
        case hrx1q19 => kernel_rfl
        case hyx1q19 => (refine Or.inl ⟨by rfl, ?_⟩; intro w hSw; (try dsimp only at hSw); go_simp; (try with_reducible rfl))
        case hQx1q19 => exact fun _ _ _ h => h
        (try simp only [Act.put, List.setIfInBounds_toArray, List.set_cons_zero, List.set_cons_succ])
        refine wpAnyH_take (i := 20) (oi := ?_) (v := ?_) ?hix1q20 (by kernel_rfl) ?hfx1q20 ?hrx1q20 ?hQx1q20 ?hyx1q20 (by assumption) ?restx1q20
        case hix1q20 => (simp only [List.getElem?_toArray, List.getElem?_cons_zero, List.getElem?_cons_succ]; rfl)
        case hfx1q20 => kernel_rfl
        case hrx1q20 => kernel_rfl
        case hyx1q20 => (refine Or.inl ⟨by rfl, ?_⟩; intro w hSw; (try dsimp only at hSw); go_simp; (try with_reducible rfl))
        case hQx1q20 => exact fun _ _ _ h => h
        (try simp only [Act.put, List.setIfInBounds_toArray, List.set_cons_zero, List.set_cons_succ])
        refine wpAnyH_done (by kernel_rfl) ?_ _
        have HF := Lib.hid (bel_step HBC.out hHeld)
        clear hHeld
        go_wp2
        go_ret
        exact ⟨rfl, HF.out⟩
      · have HRT := Lib.hid (row_set4 HRN.out (.slice p' 17 c'))
        have HBT := Lib.hid (HBN.out.setCell (p := ⟨w1.heap.size, 4, none⟩) HB1.out.size (.slice p' 17 c'))
        have HFI := Lib.hid (fine_lim s1 s2 D hD4 HS1.out HS2.out)
        rw [show decide (D ≤ 2) = false by simp; omega] at HFI
        have HREP := Lib.hid (show Rep (w3.setCell ⟨w1.heap.size, 4, none⟩ (.slice p' 17 c')) 2 (.agg #[.int .i64 4, .int .i64 0, .float .f64 0, .string ⟨#[]⟩, .slice p' 17 c']) (4, 0, 0, ⟨#[]⟩, (List.replicate 16 s1 ++ [s2]).map txtV) from ⟨p', 17, c', rfl, (show okI (4 : Int) from by decide), (show okI (0 : Int) from by decide), (show 0 < 2 ^ 64 from by decide), (show (⟨#[]⟩ : ByteArray).size ≤ maxLen from by decide), ot_rep (ot_store HON.out HNN.out _) (fun u hu => by
          rcases List.mem_append.1 hu with h | h
          · rw [List.eq_of_mem_replicate h, HS1.out]; omega
          · rw [List.mem_singleton.1 h, HS2.out]; omega)⟩)
        obtain ⟨LL, hLL⟩ : ∃ LL, (List.replicate 16 s1 ++ [s2]).map txtV = LL := ⟨_, rfl⟩
        rw [hLL] at HFI HREP
        clear y4 yf x4 b4 hcv hmk2 hLL
        have hrt := HRT.out
        have b0 := row_cell hrt 0; have b1 := row_cell hrt 1; have b2 := row_cell hrt 2; have b3 := row_cell hrt 3; have b4 := row_cell hrt 4
        simp only [List.getElem?_toArray, List.getElem?_cons_zero, List.getElem?_cons_succ] at b0 b1 b2 b3 b4
        clear hrt
        go_wp2_with fail
        go_at_call 8; refine (check_any 2 _ _ _ _ _ _ _ (4, 0, 0, ⟨#[]⟩, LL) _ HREP.out HFI.out.1 HFI.out.2.1).mono ?_; rintro e wc ⟨rfl, hbc⟩
        rw [show checkM (measT 2 (4, 0, 0, ⟨#[]⟩, LL)) = 22 from HFI.out.2.2.1]
        have HROW := Lib.hid (row_step HRT.out hbc)
        have HBC := Lib.hid (bel_step HBT.out hbc)
        have HRC := Lib.hid (rep_keep hbc _ _ _ HREP.out)
        clear hbc b0 b1 b2 b3 b4
        go_wp2
        refine wp_region_held_drew (S := fun w' => Below wc.heap.size wc w') (by kernel_rfl) ?_ (fun hHeld => ?_)
        · exact Below.drew (Below.refl _ _)
        refine wpAnyH_take (i := 0) (oi := ?_) (v := ?_) ?hia2q0 (by kernel_rfl) ?hfa2q0 ?hra2q0 ?hQa2q0 ?hya2q0 (by assumption) ?resta2q0
        case hia2q0 => (simp only [List.getElem?_toArray, List.getElem?_cons_zero, List.getElem?_cons_succ]; rfl)
        case hfa2q0 => kernel_rfl
        case hra2q0 => kernel_rfl
        case hya2q0 => (refine Or.inl ⟨by rfl, ?_⟩; intro w hSw; (try dsimp only at hSw); go_simp; (try with_reducible rfl))
        case hQa2q0 => exact fun _ _ _ h => h
        (try simp only [Act.put, List.setIfInBounds_toArray, List.set_cons_zero, List.set_cons_succ])
        refine wpAnyH_take (i := 1) (oi := ?_) (v := ?_) ?hia2q1 (by kernel_rfl) ?hfa2q1 ?hra2q1 ?hQa2q1 ?hya2q1 (by assumption) ?resta2q1
        case hia2q1 => (simp only [List.getElem?_toArray, List.getElem?_cons_zero, List.getElem?_cons_succ]; rfl)
        case hfa2q1 => kernel_rfl
        case hra2q1 => kernel_rfl
        case hya2q1 => (refine Or.inl ⟨by rfl, ?_⟩; intro w hSw; (try dsimp only at hSw); go_simp; (try with_reducible rfl))
        case hQa2q1 => exact fun _ _ _ h => h
        (try simp only [Act.put, List.setIfInBounds_toArray, List.set_cons_zero, List.set_cons_succ])
        refine wpAnyH_take (i := 2) (oi := ?_) (v := ?_) ?hia2q2 (by kernel_rfl) ?hfa2q2 ?hra2q2 ?hQa2q2 ?hya2q2 (by assumption) ?resta2q2
        case hia2q2 => (simp only [List.getElem?_toArray, List.getElem?_cons_zero, List.getElem?_cons_succ]; rfl)
        case hfa2q2 => kernel_rfl
        case hra2q2 => kernel_rfl
        case hya2q2 => (refine Or.inl ⟨by rfl, ?_⟩; intro w hSw; (try dsimp only at hSw); go_simp; (try with_reducible rfl))
        case hQa2q2 => exact fun _ _ _ h => h
        (try simp only [Act.put, List.setIfInBounds_toArray, List.set_cons_zero, List.set_cons_succ])
        refine wpAnyH_take (i := 3) (oi := ?_) (v := ?_) ?hia2q3 (by kernel_rfl) ?hfa2q3 ?hra2q3 ?hQa2q3 ?hya2q3 (by assumption) ?resta2q3
        case hia2q3 => (simp only [List.getElem?_toArray, List.getElem?_cons_zero, List.getElem?_cons_succ]; rfl)
        case hfa2q3 => kernel_rfl
        case hra2q3 => kernel_rfl
        case hya2q3 => (refine Or.inl ⟨by rfl, ?_⟩; intro w hSw; (try dsimp only at hSw); go_simp; (try with_reducible rfl))
        case hQa2q3 => exact fun _ _ _ h => h
        (try simp only [Act.put, List.setIfInBounds_toArray, List.set_cons_zero, List.set_cons_succ])
        refine wpAnyH_take (i := 4) (oi := ?_) (v := ?_) ?hia2q4 (by kernel_rfl) ?hfa2q4 ?hra2q4 ?hQa2q4 ?hya2q4 (by assumption) ?resta2q4
        case hia2q4 => (simp only [List.getElem?_toArray, List.getElem?_cons_zero, List.getElem?_cons_succ]; rfl)
        case hfa2q4 => kernel_rfl
        case hra2q4 => kernel_rfl
        case hya2q4 => (refine Or.inl ⟨by rfl, ?_⟩; intro w hSw; (try dsimp only at hSw); go_simp; (try with_reducible rfl))
        case hQa2q4 => exact fun _ _ _ h => h
        (try simp only [Act.put, List.setIfInBounds_toArray, List.set_cons_zero, List.set_cons_succ])
        refine wpAnyH_take (i := 5) (oi := ?_) (v := ?_) ?hia2q5 (by kernel_rfl) ?hfa2q5 ?hra2q5 ?hQa2q5 ?hya2q5 (by assumption) ?resta2q5
        case hia2q5 => (simp only [List.getElem?_toArray, List.getElem?_cons_zero, List.getElem?_cons_succ]; rfl)
        case hfa2q5 => kernel_rfl
        case hra2q5 => kernel_rfl
        case hya2q5 => (refine Or.inl ⟨by rfl, ?_⟩; intro w hSw; (try dsimp only at hSw); go_simp; (try with_reducible rfl))
        case hQa2q5 => exact fun _ _ _ h => h
        (try simp only [Act.put, List.setIfInBounds_toArray, List.set_cons_zero, List.set_cons_succ])
        refine wpAnyH_take (i := 6) (oi := ?_) (v := ?_) ?hia2q6 (by kernel_rfl) ?hfa2q6 ?hra2q6 ?hQa2q6 ?hya2q6 (by assumption) ?resta2q6
        case hia2q6 => (simp only [List.getElem?_toArray, List.getElem?_cons_zero, List.getElem?_cons_succ]; rfl)
        case hfa2q6 => kernel_rfl
        case hra2q6 => kernel_rfl
        case hya2q6 => (refine Or.inl ⟨by rfl, ?_⟩; intro w hSw; (try dsimp only at hSw); go_simp; (try with_reducible rfl))
        case hQa2q6 => exact fun _ _ _ h => h
        (try simp only [Act.put, List.setIfInBounds_toArray, List.set_cons_zero, List.set_cons_succ])
        refine wpAnyH_take (i := 7) (oi := ?_) (v := ?_) ?hia2q7 (by kernel_rfl) ?hfa2q7 ?hra2q7 ?hQa2q7 ?hya2q7 (by assumption) ?resta2q7
        case hia2q7 => (simp only [List.getElem?_toArray, List.getElem?_cons_zero, List.getElem?_cons_succ]; rfl)
        case hfa2q7 => kernel_rfl
        case hra2q7 => kernel_rfl
        case hya2q7 => (refine Or.inl ⟨by rfl, ?_⟩; intro w hSw; (try dsimp only at hSw); go_simp; (try with_reducible rfl))
        case hQa2q7 => exact fun _ _ _ h => h
        (try simp only [Act.put, List.setIfInBounds_toArray, List.set_cons_zero, List.set_cons_succ])
        refine wpAnyH_take (i := 8) (oi := ?_) (v := ?_) ?hia2q8 (by kernel_rfl) ?hfa2q8 ?hra2q8 ?hQa2q8 ?hya2q8 (by assumption) ?resta2q8
        case hia2q8 => (simp only [List.getElem?_toArray, List.getElem?_cons_zero, List.getElem?_cons_succ]; rfl)
        case hfa2q8 => kernel_rfl
        case hra2q8 => kernel_rfl
        case hya2q8 => (refine Or.inl ⟨by rfl, ?_⟩; intro w hSw; (try dsimp only at hSw); go_simp; (try with_reducible rfl))
        case hQa2q8 => exact fun _ _ _ h => h
        (try simp only [Act.put, List.setIfInBounds_toArray, List.set_cons_zero, List.set_cons_succ])
        refine wpAnyH_take (i := 9) (oi := ?_) (v := ?_) ?hia2q9 (by kernel_rfl) ?hfa2q9 ?hra2q9 ?hQa2q9 ?hya2q9 (by assumption) ?resta2q9
        case hia2q9 => (simp only [List.getElem?_toArray, List.getElem?_cons_zero, List.getElem?_cons_succ]; rfl)
        case hfa2q9 => kernel_rfl
        case hra2q9 => kernel_rfl
        case hya2q9 => (refine Or.inl ⟨by rfl, ?_⟩; intro w hSw; (try dsimp only at hSw); go_simp; (try with_reducible rfl))
        case hQa2q9 => exact fun _ _ _ h => h
        (try simp only [Act.put, List.setIfInBounds_toArray, List.set_cons_zero, List.set_cons_succ])
        refine wpAnyH_take (i := 10) (oi := ?_) (v := ?_) ?hia2q10 (by kernel_rfl) ?hfa2q10 ?hra2q10 ?hQa2q10 ?hya2q10 (by assumption) ?resta2q10
        case hia2q10 => (simp only [List.getElem?_toArray, List.getElem?_cons_zero, List.getElem?_cons_succ]; rfl)
        case hfa2q10 => kernel_rfl
        case hra2q10 => kernel_rfl
        case hya2q10 => (refine Or.inl ⟨by rfl, ?_⟩; intro w hSw; (try dsimp only at hSw); go_simp; (try with_reducible rfl))
        case hQa2q10 => exact fun _ _ _ h => h
        (try simp only [Act.put, List.setIfInBounds_toArray, List.set_cons_zero, List.set_cons_succ])
        refine wpAnyH_take (i := 11) (oi := ?_) (v := ?_) ?hia2q11 (by kernel_rfl) ?hfa2q11 ?hra2q11 ?hQa2q11 ?hya2q11 (by assumption) ?resta2q11
        case hia2q11 => (simp only [List.getElem?_toArray, List.getElem?_cons_zero, List.getElem?_cons_succ]; rfl)
        case hfa2q11 => kernel_rfl
        case hra2q11 => kernel_rfl
        case hya2q11 => (refine Or.inl ⟨by rfl, ?_⟩; intro w hSw; (try dsimp only at hSw); go_simp; (try with_reducible rfl))
        case hQa2q11 => exact fun _ _ _ h => h
        (try simp only [Act.put, List.setIfInBounds_toArray, List.set_cons_zero, List.set_cons_succ])
        refine wpAnyH_take (i := 12) (oi := ?_) (v := ?_) ?hia2q12 (by kernel_rfl) ?hfa2q12 ?hra2q12 ?hQa2q12 ?hya2q12 (by assumption) ?resta2q12
        case hia2q12 => (simp only [List.getElem?_toArray, List.getElem?_cons_zero, List.getElem?_cons_succ]; rfl)
        case hfa2q12 => kernel_rfl
        case hra2q12 => kernel_rfl
        case hya2q12 => (refine Or.inl ⟨by rfl, ?_⟩; intro w hSw; (try dsimp only at hSw); go_simp; (try with_reducible rfl))
        case hQa2q12 => exact fun _ _ _ h => h
        (try simp only [Act.put, List.setIfInBounds_toArray, List.set_cons_zero, List.set_cons_succ])
        refine wpAnyH_take (i := 13) (oi := ?_) (v := ?_) ?hia2q13 (by kernel_rfl) ?hfa2q13 ?hra2q13 ?hQa2q13 ?hya2q13 (by assumption) ?resta2q13
        case hia2q13 => (simp only [List.getElem?_toArray, List.getElem?_cons_zero, List.getElem?_cons_succ]; rfl)
        case hfa2q13 => kernel_rfl
        case hra2q13 => kernel_rfl
        case hya2q13 => (refine Or.inl ⟨by rfl, ?_⟩; intro w hSw; (try dsimp only at hSw); go_simp; (try with_reducible rfl))
        case hQa2q13 => exact fun _ _ _ h => h
        (try simp only [Act.put, List.setIfInBounds_toArray, List.set_cons_zero, List.set_cons_succ])
        refine wpAnyH_take (i := 14) (oi := ?_) (v := ?_) ?hia2q14 (by kernel_rfl) ?hfa2q14 ?hra2q14 ?hQa2q14 ?hya2q14 (by assumption) ?resta2q14
        case hia2q14 => (simp only [List.getElem?_toArray, List.getElem?_cons_zero, List.getElem?_cons_succ]; rfl)
        case hfa2q14 => kernel_rfl
        case hra2q14 => kernel_rfl
        case hya2q14 => (refine Or.inl ⟨by rfl, ?_⟩; intro w hSw; (try dsimp only at hSw); have rr := row_step HROW.out hSw; have c0 := row_cell rr 0; have c1 := row_cell rr 1; have c2 := row_cell rr 2; have c3 := row_cell rr 3; have c4 := row_cell rr 4; simp only [List.getElem?_toArray, List.getElem?_cons_zero, List.getElem?_cons_succ] at c0 c1 c2 c3 c4; go_simp; (try with_reducible rfl))
        case hQa2q14 => exact fun _ _ _ h => h
        (try simp only [Act.put, List.setIfInBounds_toArray, List.set_cons_zero, List.set_cons_succ])
        refine wpAnyH_take (i := 16) (oi := ?_) (v := ?_) ?hia2q16 (by kernel_rfl) ?hfa2q16 ?hra2q16 ?hQa2q16 ?hya2q16 (by assumption) ?resta2q16
        case hia2q16 => (simp only [List.getElem?_toArray, List.getElem?_cons_zero, List.getElem?_cons_succ]; rfl)
        case hfa2q16 => kernel_rfl
        case hra2q16 => kernel_rfl
        case hya2q16 => (refine Or.inl ⟨by rfl, ?_⟩; intro w hSw; (try dsimp only at hSw); have rr := row_step HROW.out hSw; have c0 := row_cell rr 0; have c1 := row_cell rr 1; have c2 := row_cell rr 2; have c3 := row_cell rr 3; have c4 := row_cell rr 4; simp only [List.getElem?_toArray, List.getElem?_cons_zero, List.getElem?_cons_succ] at c0 c1 c2 c3 c4; go_simp; (try with_reducible rfl))
        case hQa2q16 => exact fun _ _ _ h => h
        (try simp only [Act.put, List.setIfInBounds_toArray, List.set_cons_zero, List.set_cons_succ])
        refine wpAnyH_ready (rs := [15]) (by kernel_rfl) (by simp) ?_
        refine AllReadyH.cons (o := ?_) ?hox2q15 ?stx2q15 AllReadyH.nil
        case hox2q15 => (simp only [List.getElem?_toArray, List.getElem?_cons_zero, List.getElem?_cons_succ]; rfl)
        intro K hK
        go_simp
        go_at_call 9; refine (vsize_any 2 _ _ _ _ _ _ _ (4, 0, 0, ⟨#[]⟩, LL) _ (rep_keep hHeld _ _ _ HRC.out) HFI.out.1 HFI.out.2.1).mono ?_; rintro e ws ⟨rfl, hb⟩; rw [show sizeM (measT 2 (4, 0, 0, ⟨#[]⟩, LL)) = sizeT 2 (4, 0, 0, ⟨#[]⟩, LL) from HFI.out.2.2.2]; have hS1 := bel_step hHeld hb; clear hb
        go_wp2_with fail
        refine hK.out _ _ hS1 (fun hHeld2 => ?_)
        clear hK K hHeld hHeld2
        have hHeld := hS1
        clear hS1
        (try simp only [Act.put, List.setIfInBounds_toArray, List.set_cons_zero, List.set_cons_succ])
        refine wpAnyH_ready (rs := [17]) (by kernel_rfl) (by simp) ?_
        refine AllReadyH.cons (o := ?_) ?hox2q17 ?stx2q17 AllReadyH.nil
        case hox2q17 => (simp only [List.getElem?_toArray, List.getElem?_cons_zero, List.getElem?_cons_succ]; rfl)
        intro K hK
        go_simp
        go_at_call 10; refine (size_any 2 _ (4, 0, 0, ⟨#[]⟩, LL) _ (rep_keep hHeld _ _ _ HRC.out)).mono ?_; rintro e ws ⟨rfl, hb⟩; have hS1 := bel_step hHeld hb; clear hb
        go_wp2_with fail
        refine hK.out _ _ hS1 (fun hHeld2 => ?_)
        clear hK K hHeld hHeld2
        have hHeld := hS1
        clear hS1
        (try simp only [Act.put, List.setIfInBounds_toArray, List.set_cons_zero, List.set_cons_succ])
        refine wpAnyH_take (i := 18) (oi := ?_) (v := ?_) ?hix2q18 (by kernel_rfl) ?hfx2q18 ?hrx2q18 ?hQx2q18 ?hyx2q18 (by assumption) ?restx2q18
        case hix2q18 => (simp only [List.getElem?_toArray, List.getElem?_cons_zero, List.getElem?_cons_succ]; rfl)
        case hfx2q18 => kernel_rfl
        case hrx2q18 => kernel_rfl
        case hyx2q18 => (refine Or.inl ⟨by rfl, ?_⟩; intro w hSw; (try dsimp only at hSw); go_simp; (try with_reducible rfl))
        case hQx2q18 => exact fun _ _ _ h => h
        (try simp only [Act.put, List.setIfInBounds_toArray, List.set_cons_zero, List.set_cons_succ])
        refine wpAnyH_take (i := 19) (oi := ?_) (v := ?_) ?hix2q19 (by kernel_rfl) ?hfx2q19 ?hrx2q19 ?hQx2q19 ?hyx2q19 (by assumption) ?restx2q19
        case hix2q19 => (simp only [List.getElem?_toArray, List.getElem?_cons_zero, List.getElem?_cons_succ]; rfl)
        case hfx2q19 => kernel_rfl
        case hrx2q19 => kernel_rfl
        case hyx2q19 => (refine Or.inl ⟨by rfl, ?_⟩; intro w hSw; (try dsimp only at hSw); go_simp; (try with_reducible rfl))
        case hQx2q19 => exact fun _ _ _ h => h
        (try simp only [Act.put, List.setIfInBounds_toArray, List.set_cons_zero, List.set_cons_succ])
        refine wpAnyH_take (i := 20) (oi := ?_) (v := ?_) ?hix2q20 (by kernel_rfl) ?hfx2q20 ?hrx2q20 ?hQx2q20 ?hyx2q20 (by assumption) ?restx2q20
        case hix2q20 => (simp only [List.getElem?_toArray, List.getElem?_cons_zero, List.getElem?_cons_succ]; rfl)
        case hfx2q20 => kernel_rfl
        case hrx2q20 => kernel_rfl
        case hyx2q20 => (refine Or.inl ⟨by rfl, ?_⟩; intro w hSw; (try dsimp only at hSw); go_simp; (try with_reducible rfl))
        case hQx2q20 => exact fun _ _ _ h => h
        (try simp only [Act.put, List.setIfInBounds_toArray, List.set_cons_zero, List.set_cons_succ])
        refine wpAnyH_done (by kernel_rfl) ?_ _
        have HF := Lib.hid (bel_step HBC.out hHeld)
        clear hHeld
        go_wp2
        go_ret
        exact ⟨rfl, HF.out⟩
      · have HRT := Lib.hid (row_set4 HRN.out (.slice p' 17 c'))
        have HBT := Lib.hid (HBN.out.setCell (p := ⟨w1.heap.size, 4, none⟩) HB1.out.size (.slice p' 17 c'))
        have HFI := Lib.hid (fine_lim s1 s2 D hD4 HS1.out HS2.out)
        rw [show decide (D ≤ 2) = false by simp; omega] at HFI
        have HREP := Lib.hid (show Rep (w3.setCell ⟨w1.heap.size, 4, none⟩ (.slice p' 17 c')) 2 (.agg #[.int .i64 4, .int .i64 0, .float .f64 0, .string ⟨#[]⟩, .slice p' 17 c']) (4, 0, 0, ⟨#[]⟩, (List.replicate 16 s1 ++ [s2]).map txtV) from ⟨p', 17, c', rfl, (show okI (4 : Int) from by decide), (show okI (0 : Int) from by decide), (show 0 < 2 ^ 64 from by decide), (show (⟨#[]⟩ : ByteArray).size ≤ maxLen from by decide), ot_rep (ot_store HON.out HNN.out _) (fun u hu => by
          rcases List.mem_append.1 hu with h | h
          · rw [List.eq_of_mem_replicate h, HS1.out]; omega
          · rw [List.mem_singleton.1 h, HS2.out]; omega)⟩)
        obtain ⟨LL, hLL⟩ : ∃ LL, (List.replicate 16 s1 ++ [s2]).map txtV = LL := ⟨_, rfl⟩
        rw [hLL] at HFI HREP
        clear y4 yf x4 b4 hcv hmk2 hLL
        have hrt := HRT.out
        have b0 := row_cell hrt 0; have b1 := row_cell hrt 1; have b2 := row_cell hrt 2; have b3 := row_cell hrt 3; have b4 := row_cell hrt 4
        simp only [List.getElem?_toArray, List.getElem?_cons_zero, List.getElem?_cons_succ] at b0 b1 b2 b3 b4
        clear hrt
        go_wp2_with fail
        go_at_call 8; refine (check_any 2 _ _ _ _ _ _ _ (4, 0, 0, ⟨#[]⟩, LL) _ HREP.out HFI.out.1 HFI.out.2.1).mono ?_; rintro e wc ⟨rfl, hbc⟩
        rw [show checkM (measT 2 (4, 0, 0, ⟨#[]⟩, LL)) = 22 from HFI.out.2.2.1]
        have HROW := Lib.hid (row_step HRT.out hbc)
        have HBC := Lib.hid (bel_step HBT.out hbc)
        have HRC := Lib.hid (rep_keep hbc _ _ _ HREP.out)
        clear hbc b0 b1 b2 b3 b4
        go_wp2
        refine wp_region_held_drew (S := fun w' => Below wc.heap.size wc w') (by kernel_rfl) ?_ (fun hHeld => ?_)
        · exact Below.drew (Below.refl _ _)
        refine wpAnyH_take (i := 0) (oi := ?_) (v := ?_) ?hia3q0 (by kernel_rfl) ?hfa3q0 ?hra3q0 ?hQa3q0 ?hya3q0 (by assumption) ?resta3q0
        case hia3q0 => (simp only [List.getElem?_toArray, List.getElem?_cons_zero, List.getElem?_cons_succ]; rfl)
        case hfa3q0 => kernel_rfl
        case hra3q0 => kernel_rfl
        case hya3q0 => (refine Or.inl ⟨by rfl, ?_⟩; intro w hSw; (try dsimp only at hSw); go_simp; (try with_reducible rfl))
        case hQa3q0 => exact fun _ _ _ h => h
        (try simp only [Act.put, List.setIfInBounds_toArray, List.set_cons_zero, List.set_cons_succ])
        refine wpAnyH_take (i := 1) (oi := ?_) (v := ?_) ?hia3q1 (by kernel_rfl) ?hfa3q1 ?hra3q1 ?hQa3q1 ?hya3q1 (by assumption) ?resta3q1
        case hia3q1 => (simp only [List.getElem?_toArray, List.getElem?_cons_zero, List.getElem?_cons_succ]; rfl)
        case hfa3q1 => kernel_rfl
        case hra3q1 => kernel_rfl
        case hya3q1 => (refine Or.inl ⟨by rfl, ?_⟩; intro w hSw; (try dsimp only at hSw); go_simp; (try with_reducible rfl))
        case hQa3q1 => exact fun _ _ _ h => h
        (try simp only [Act.put, List.setIfInBounds_toArray, List.set_cons_zero, List.set_cons_succ])
        refine wpAnyH_take (i := 2) (oi := ?_) (v := ?_) ?hia3q2 (by kernel_rfl) ?hfa3q2 ?hra3q2 ?hQa3q2 ?hya3q2 (by assumption) ?resta3q2
        case hia3q2 => (simp only [List.getElem?_toArray, List.getElem?_cons_zero, List.getElem?_cons_succ]; rfl)
        case hfa3q2 => kernel_rfl
        case hra3q2 => kernel_rfl
        case hya3q2 => (refine Or.inl ⟨by rfl, ?_⟩; intro w hSw; (try dsimp only at hSw); go_simp; (try with_reducible rfl))
        case hQa3q2 => exact fun _ _ _ h => h
        (try simp only [Act.put, List.setIfInBounds_toArray, List.set_cons_zero, List.set_cons_succ])
        refine wpAnyH_take (i := 3) (oi := ?_) (v := ?_) ?hia3q3 (by kernel_rfl) ?hfa3q3 ?hra3q3 ?hQa3q3 ?hya3q3 (by assumption) ?resta3q3
        case hia3q3 => (simp only [List.getElem?_toArray, List.getElem?_cons_zero, List.getElem?_cons_succ]; rfl)
        case hfa3q3 => kernel_rfl
        case hra3q3 => kernel_rfl
        case hya3q3 => (refine Or.inl ⟨by rfl, ?_⟩; intro w hSw; (try dsimp only at hSw); go_simp; (try with_reducible rfl))
        case hQa3q3 => exact fun _ _ _ h => h
        (try simp only [Act.put, List.setIfInBounds_toArray, List.set_cons_zero, List.set_cons_succ])
        refine wpAnyH_take (i := 4) (oi := ?_) (v := ?_) ?hia3q4 (by kernel_rfl) ?hfa3q4 ?hra3q4 ?hQa3q4 ?hya3q4 (by assumption) ?resta3q4
        case hia3q4 => (simp only [List.getElem?_toArray, List.getElem?_cons_zero, List.getElem?_cons_succ]; rfl)
        case hfa3q4 => kernel_rfl
        case hra3q4 => kernel_rfl
        case hya3q4 => (refine Or.inl ⟨by rfl, ?_⟩; intro w hSw; (try dsimp only at hSw); go_simp; (try with_reducible rfl))
        case hQa3q4 => exact fun _ _ _ h => h
        (try simp only [Act.put, List.setIfInBounds_toArray, List.set_cons_zero, List.set_cons_succ])
        refine wpAnyH_take (i := 5) (oi := ?_) (v := ?_) ?hia3q5 (by kernel_rfl) ?hfa3q5 ?hra3q5 ?hQa3q5 ?hya3q5 (by assumption) ?resta3q5
        case hia3q5 => (simp only [List.getElem?_toArray, List.getElem?_cons_zero, List.getElem?_cons_succ]; rfl)
        case hfa3q5 => kernel_rfl
        case hra3q5 => kernel_rfl
        case hya3q5 => (refine Or.inl ⟨by rfl, ?_⟩; intro w hSw; (try dsimp only at hSw); go_simp; (try with_reducible rfl))
        case hQa3q5 => exact fun _ _ _ h => h
        (try simp only [Act.put, List.setIfInBounds_toArray, List.set_cons_zero, List.set_cons_succ])
        refine wpAnyH_take (i := 6) (oi := ?_) (v := ?_) ?hia3q6 (by kernel_rfl) ?hfa3q6 ?hra3q6 ?hQa3q6 ?hya3q6 (by assumption) ?resta3q6
        case hia3q6 => (simp only [List.getElem?_toArray, List.getElem?_cons_zero, List.getElem?_cons_succ]; rfl)
        case hfa3q6 => kernel_rfl
        case hra3q6 => kernel_rfl
        case hya3q6 => (refine Or.inl ⟨by rfl, ?_⟩; intro w hSw; (try dsimp only at hSw); go_simp; (try with_reducible rfl))
        case hQa3q6 => exact fun _ _ _ h => h
        (try simp only [Act.put, List.setIfInBounds_toArray, List.set_cons_zero, List.set_cons_succ])
        refine wpAnyH_take (i := 7) (oi := ?_) (v := ?_) ?hia3q7 (by kernel_rfl) ?hfa3q7 ?hra3q7 ?hQa3q7 ?hya3q7 (by assumption) ?resta3q7
        case hia3q7 => (simp only [List.getElem?_toArray, List.getElem?_cons_zero, List.getElem?_cons_succ]; rfl)
        case hfa3q7 => kernel_rfl
        case hra3q7 => kernel_rfl
        case hya3q7 => (refine Or.inl ⟨by rfl, ?_⟩; intro w hSw; (try dsimp only at hSw); go_simp; (try with_reducible rfl))
        case hQa3q7 => exact fun _ _ _ h => h
        (try simp only [Act.put, List.setIfInBounds_toArray, List.set_cons_zero, List.set_cons_succ])
        refine wpAnyH_take (i := 8) (oi := ?_) (v := ?_) ?hia3q8 (by kernel_rfl) ?hfa3q8 ?hra3q8 ?hQa3q8 ?hya3q8 (by assumption) ?resta3q8
        case hia3q8 => (simp only [List.getElem?_toArray, List.getElem?_cons_zero, List.getElem?_cons_succ]; rfl)
        case hfa3q8 => kernel_rfl
        case hra3q8 => kernel_rfl
        case hya3q8 => (refine Or.inl ⟨by rfl, ?_⟩; intro w hSw; (try dsimp only at hSw); go_simp; (try with_reducible rfl))
        case hQa3q8 => exact fun _ _ _ h => h
        (try simp only [Act.put, List.setIfInBounds_toArray, List.set_cons_zero, List.set_cons_succ])
        refine wpAnyH_take (i := 9) (oi := ?_) (v := ?_) ?hia3q9 (by kernel_rfl) ?hfa3q9 ?hra3q9 ?hQa3q9 ?hya3q9 (by assumption) ?resta3q9
        case hia3q9 => (simp only [List.getElem?_toArray, List.getElem?_cons_zero, List.getElem?_cons_succ]; rfl)
        case hfa3q9 => kernel_rfl
        case hra3q9 => kernel_rfl
        case hya3q9 => (refine Or.inl ⟨by rfl, ?_⟩; intro w hSw; (try dsimp only at hSw); go_simp; (try with_reducible rfl))
        case hQa3q9 => exact fun _ _ _ h => h
        (try simp only [Act.put, List.setIfInBounds_toArray, List.set_cons_zero, List.set_cons_succ])
        refine wpAnyH_take (i := 10) (oi := ?_) (v := ?_) ?hia3q10 (by kernel_rfl) ?hfa3q10 ?hra3q10 ?hQa3q10 ?hya3q10 (by assumption) ?resta3q10
        case hia3q10 => (simp only [List.getElem?_toArray, List.getElem?_cons_zero, List.getElem?_cons_succ]; rfl)
        case hfa3q10 => kernel_rfl
        case hra3q10 => kernel_rfl
        case hya3q10 => (refine Or.inl ⟨by rfl, ?_⟩; intro w hSw; (try dsimp only at hSw); go_simp; (try with_reducible rfl))
        case hQa3q10 => exact fun _ _ _ h => h
        (try simp only [Act.put, List.setIfInBounds_toArray, List.set_cons_zero, List.set_cons_succ])
        refine wpAnyH_take (i := 11) (oi := ?_) (v := ?_) ?hia3q11 (by kernel_rfl) ?hfa3q11 ?hra3q11 ?hQa3q11 ?hya3q11 (by assumption) ?resta3q11
        case hia3q11 => (simp only [List.getElem?_toArray, List.getElem?_cons_zero, List.getElem?_cons_succ]; rfl)
        case hfa3q11 => kernel_rfl
        case hra3q11 => kernel_rfl
        case hya3q11 => (refine Or.inl ⟨by rfl, ?_⟩; intro w hSw; (try dsimp only at hSw); go_simp; (try with_reducible rfl))
        case hQa3q11 => exact fun _ _ _ h => h
        (try simp only [Act.put, List.setIfInBounds_toArray, List.set_cons_zero, List.set_cons_succ])
        refine wpAnyH_take (i := 12) (oi := ?_) (v := ?_) ?hia3q12 (by kernel_rfl) ?hfa3q12 ?hra3q12 ?hQa3q12 ?hya3q12 (by assumption) ?resta3q12
        case hia3q12 => (simp only [List.getElem?_toArray, List.getElem?_cons_zero, List.getElem?_cons_succ]; rfl)
        case hfa3q12 => kernel_rfl
        case hra3q12 => kernel_rfl
        case hya3q12 => (refine Or.inl ⟨by rfl, ?_⟩; intro w hSw; (try dsimp only at hSw); go_simp; (try with_reducible rfl))
        case hQa3q12 => exact fun _ _ _ h => h
        (try simp only [Act.put, List.setIfInBounds_toArray, List.set_cons_zero, List.set_cons_succ])
        refine wpAnyH_take (i := 13) (oi := ?_) (v := ?_) ?hia3q13 (by kernel_rfl) ?hfa3q13 ?hra3q13 ?hQa3q13 ?hya3q13 (by assumption) ?resta3q13
        case hia3q13 => (simp only [List.getElem?_toArray, List.getElem?_cons_zero, List.getElem?_cons_succ]; rfl)
        case hfa3q13 => kernel_rfl
        case hra3q13 => kernel_rfl
        case hya3q13 => (refine Or.inl ⟨by rfl, ?_⟩; intro w hSw; (try dsimp only at hSw); go_simp; (try with_reducible rfl))
        case hQa3q13 => exact fun _ _ _ h => h
        (try simp only [Act.put, List.setIfInBounds_toArray, List.set_cons_zero, List.set_cons_succ])
        refine wpAnyH_take (i := 14) (oi := ?_) (v := ?_) ?hia3q14 (by kernel_rfl) ?hfa3q14 ?hra3q14 ?hQa3q14 ?hya3q14 (by assumption) ?resta3q14
        case hia3q14 => (simp only [List.getElem?_toArray, List.getElem?_cons_zero, List.getElem?_cons_succ]; rfl)
        case hfa3q14 => kernel_rfl
        case hra3q14 => kernel_rfl
        case hya3q14 => (refine Or.inl ⟨by rfl, ?_⟩; intro w hSw; (try dsimp only at hSw); have rr := row_step HROW.out hSw; have c0 := row_cell rr 0; have c1 := row_cell rr 1; have c2 := row_cell rr 2; have c3 := row_cell rr 3; have c4 := row_cell rr 4; simp only [List.getElem?_toArray, List.getElem?_cons_zero, List.getElem?_cons_succ] at c0 c1 c2 c3 c4; go_simp; (try with_reducible rfl))
        case hQa3q14 => exact fun _ _ _ h => h
        (try simp only [Act.put, List.setIfInBounds_toArray, List.set_cons_zero, List.set_cons_succ])
        refine wpAnyH_take (i := 16) (oi := ?_) (v := ?_) ?hia3q16 (by kernel_rfl) ?hfa3q16 ?hra3q16 ?hQa3q16 ?hya3q16 (by assumption) ?resta3q16
        case hia3q16 => (simp only [List.getElem?_toArray, List.getElem?_cons_zero, List.getElem?_cons_succ]; rfl)
        case hfa3q16 => kernel_rfl
        case hra3q16 => kernel_rfl
        case hya3q16 => (refine Or.inl ⟨by rfl, ?_⟩; intro w hSw; (try dsimp only at hSw); have rr := row_step HROW.out hSw; have c0 := row_cell rr 0; have c1 := row_cell rr 1; have c2 := row_cell rr 2; have c3 := row_cell rr 3; have c4 := row_cell rr 4; simp only [List.getElem?_toArray, List.getElem?_cons_zero, List.getElem?_cons_succ] at c0 c1 c2 c3 c4; go_simp; (try with_reducible rfl))
        case hQa3q16 => exact fun _ _ _ h => h
        (try simp only [Act.put, List.setIfInBounds_toArray, List.set_cons_zero, List.set_cons_succ])
        refine wpAnyH_ready (rs := [15]) (by kernel_rfl) (by simp) ?_
        refine AllReadyH.cons (o := ?_) ?hox3q15 ?stx3q15 AllReadyH.nil
        case hox3q15 => (simp only [List.getElem?_toArray, List.getElem?_cons_zero, List.getElem?_cons_succ]; rfl)
        intro K hK
        go_simp
        go_at_call 9; refine (vsize_any 2 _ _ _ _ _ _ _ (4, 0, 0, ⟨#[]⟩, LL) _ (rep_keep hHeld _ _ _ HRC.out) HFI.out.1 HFI.out.2.1).mono ?_; rintro e ws ⟨rfl, hb⟩; rw [show sizeM (measT 2 (4, 0, 0, ⟨#[]⟩, LL)) = sizeT 2 (4, 0, 0, ⟨#[]⟩, LL) from HFI.out.2.2.2]; have hS1 := bel_step hHeld hb; clear hb
        go_wp2_with fail
        refine hK.out _ _ hS1 (fun hHeld2 => ?_)
        clear hK K hHeld hHeld2
        have hHeld := hS1
        clear hS1
        (try simp only [Act.put, List.setIfInBounds_toArray, List.set_cons_zero, List.set_cons_succ])
        refine wpAnyH_ready (rs := [17]) (by kernel_rfl) (by simp) ?_
        refine AllReadyH.cons (o := ?_) ?hox3q17 ?stx3q17 AllReadyH.nil
        case hox3q17 => (simp only [List.getElem?_toArray, List.getElem?_cons_zero, List.getElem?_cons_succ]; rfl)
        intro K hK
        go_simp
        go_at_call 10; refine (size_any 2 _ (4, 0, 0, ⟨#[]⟩, LL) _ (rep_keep hHeld _ _ _ HRC.out)).mono ?_; rintro e ws ⟨rfl, hb⟩; have hS1 := bel_step hHeld hb; clear hb
        go_wp2_with fail
        refine hK.out _ _ hS1 (fun hHeld2 => ?_)
        clear hK K hHeld hHeld2
        have hHeld := hS1
        clear hS1
        (try simp only [Act.put, List.setIfInBounds_toArray, List.set_cons_zero, List.set_cons_succ])
        refine wpAnyH_take (i := 18) (oi := ?_) (v := ?_) ?hix3q18 (by kernel_rfl) ?hfx3q18 ?hrx3q18 ?hQx3q18 ?hyx3q18 (by assumption) ?restx3q18
        case hix3q18 => (simp only [List.getElem?_toArray, List.getElem?_cons_zero, List.getElem?_cons_succ]; rfl)
        case hfx3q18 => kernel_rfl
        case hrx3q18 => kernel_rfl
        case hyx3q18 => (refine Or.inl ⟨by rfl, ?_⟩; intro w hSw; (try dsimp only at hSw); go_simp; (try with_reducible rfl))
        case hQx3q18 => exact fun _ _ _ h => h
        (try simp only [Act.put, List.setIfInBounds_toArray, List.set_cons_zero, List.set_cons_succ])
        refine wpAnyH_take (i := 19) (oi := ?_) (v := ?_) ?hix3q19 (by kernel_rfl) ?hfx3q19 ?hrx3q19 ?hQx3q19 ?hyx3q19 (by assumption) ?restx3q19
        case hix3q19 => (simp only [List.getElem?_toArray, List.getElem?_cons_zero, List.getElem?_cons_succ]; rfl)
        case hfx3q19 => kernel_rfl
        case hrx3q19 => kernel_rfl
        case hyx3q19 => (refine Or.inl ⟨by rfl, ?_⟩; intro w hSw; (try dsimp only at hSw); go_simp; (try with_reducible rfl))
        case hQx3q19 => exact fun _ _ _ h => h
        (try simp only [Act.put, List.setIfInBounds_toArray, List.set_cons_zero, List.set_cons_succ])
        refine wpAnyH_take (i := 20) (oi := ?_) (v := ?_) ?hix3q20 (by kernel_rfl) ?hfx3q20 ?hrx3q20 ?hQx3q20 ?hyx3q20 (by assumption) ?restx3q20
        case hix3q20 => (simp only [List.getElem?_toArray, List.getElem?_cons_zero, List.getElem?_cons_succ]; rfl)
        case hfx3q20 => kernel_rfl
        case hrx3q20 => kernel_rfl
        case hyx3q20 => (refine Or.inl ⟨by rfl, ?_⟩; intro w hSw; (try dsimp only at hSw); go_simp; (try with_reducible rfl))
        case hQx3q20 => exact fun _ _ _ h => h
        (try simp only [Act.put, List.setIfInBounds_toArray, List.set_cons_zero, List.set_cons_succ])
        refine wpAnyH_done (by kernel_rfl) ?_ _
        have HF := Lib.hid (bel_step HBC.out hHeld)
        clear hHeld
        go_wp2
        go_ret
        exact ⟨rfl, HF.out⟩
      · have HRT := Lib.hid (row_set4 HRN.out (.slice p' 17 c'))
        have HBT := Lib.hid (HBN.out.setCell (p := ⟨w1.heap.size, 4, none⟩) HB1.out.size (.slice p' 17 c'))
        have HFI := Lib.hid (fine_lim s1 s2 D hD4 HS1.out HS2.out)
        rw [show decide (D ≤ 2) = false by simp; omega] at HFI
        have HREP := Lib.hid (show Rep (w3.setCell ⟨w1.heap.size, 4, none⟩ (.slice p' 17 c')) 2 (.agg #[.int .i64 4, .int .i64 0, .float .f64 0, .string ⟨#[]⟩, .slice p' 17 c']) (4, 0, 0, ⟨#[]⟩, (List.replicate 16 s1 ++ [s2]).map txtV) from ⟨p', 17, c', rfl, (show okI (4 : Int) from by decide), (show okI (0 : Int) from by decide), (show 0 < 2 ^ 64 from by decide), (show (⟨#[]⟩ : ByteArray).size ≤ maxLen from by decide), ot_rep (ot_store HON.out HNN.out _) (fun u hu => by
          rcases List.mem_append.1 hu with h | h
          · rw [List.eq_of_mem_replicate h, HS1.out]; omega
          · rw [List.mem_singleton.1 h, HS2.out]; omega)⟩)
        obtain ⟨LL, hLL⟩ : ∃ LL, (List.replicate 16 s1 ++ [s2]).map txtV = LL := ⟨_, rfl⟩
        rw [hLL] at HFI HREP
        clear y4 yf x4 b4 hcv hmk2 hLL
        have hrt := HRT.out
        have b0 := row_cell hrt 0; have b1 := row_cell hrt 1; have b2 := row_cell hrt 2; have b3 := row_cell hrt 3; have b4 := row_cell hrt 4
        simp only [List.getElem?_toArray, List.getElem?_cons_zero, List.getElem?_cons_succ] at b0 b1 b2 b3 b4
        clear hrt
        go_wp2_with fail
        go_at_call 8; refine (check_any 2 _ _ _ _ _ _ _ (4, 0, 0, ⟨#[]⟩, LL) _ HREP.out HFI.out.1 HFI.out.2.1).mono ?_; rintro e wc ⟨rfl, hbc⟩
        rw [show checkM (measT 2 (4, 0, 0, ⟨#[]⟩, LL)) = 22 from HFI.out.2.2.1]
        have HROW := Lib.hid (row_step HRT.out hbc)
        have HBC := Lib.hid (bel_step HBT.out hbc)
        have HRC := Lib.hid (rep_keep hbc _ _ _ HREP.out)
        clear hbc b0 b1 b2 b3 b4
        go_wp2
        refine wp_region_held_drew (S := fun w' => Below wc.heap.size wc w') (by kernel_rfl) ?_ (fun hHeld => ?_)
        · exact Below.drew (Below.refl _ _)
        refine wpAnyH_take (i := 0) (oi := ?_) (v := ?_) ?hia4q0 (by kernel_rfl) ?hfa4q0 ?hra4q0 ?hQa4q0 ?hya4q0 (by assumption) ?resta4q0
        case hia4q0 => (simp only [List.getElem?_toArray, List.getElem?_cons_zero, List.getElem?_cons_succ]; rfl)
        case hfa4q0 => kernel_rfl
        case hra4q0 => kernel_rfl
        case hya4q0 => (refine Or.inl ⟨by rfl, ?_⟩; intro w hSw; (try dsimp only at hSw); go_simp; (try with_reducible rfl))
        case hQa4q0 => exact fun _ _ _ h => h
        (try simp only [Act.put, List.setIfInBounds_toArray, List.set_cons_zero, List.set_cons_succ])
        refine wpAnyH_take (i := 1) (oi := ?_) (v := ?_) ?hia4q1 (by kernel_rfl) ?hfa4q1 ?hra4q1 ?hQa4q1 ?hya4q1 (by assumption) ?resta4q1
        case hia4q1 => (simp only [List.getElem?_toArray, List.getElem?_cons_zero, List.getElem?_cons_succ]; rfl)
        case hfa4q1 => kernel_rfl
        case hra4q1 => kernel_rfl
        case hya4q1 => (refine Or.inl ⟨by rfl, ?_⟩; intro w hSw; (try dsimp only at hSw); go_simp; (try with_reducible rfl))
        case hQa4q1 => exact fun _ _ _ h => h
        (try simp only [Act.put, List.setIfInBounds_toArray, List.set_cons_zero, List.set_cons_succ])
        refine wpAnyH_take (i := 2) (oi := ?_) (v := ?_) ?hia4q2 (by kernel_rfl) ?hfa4q2 ?hra4q2 ?hQa4q2 ?hya4q2 (by assumption) ?resta4q2
        case hia4q2 => (simp only [List.getElem?_toArray, List.getElem?_cons_zero, List.getElem?_cons_succ]; rfl)
        case hfa4q2 => kernel_rfl
        case hra4q2 => kernel_rfl
        case hya4q2 => (refine Or.inl ⟨by rfl, ?_⟩; intro w hSw; (try dsimp only at hSw); go_simp; (try with_reducible rfl))
        case hQa4q2 => exact fun _ _ _ h => h
        (try simp only [Act.put, List.setIfInBounds_toArray, List.set_cons_zero, List.set_cons_succ])
        refine wpAnyH_take (i := 3) (oi := ?_) (v := ?_) ?hia4q3 (by kernel_rfl) ?hfa4q3 ?hra4q3 ?hQa4q3 ?hya4q3 (by assumption) ?resta4q3
        case hia4q3 => (simp only [List.getElem?_toArray, List.getElem?_cons_zero, List.getElem?_cons_succ]; rfl)
        case hfa4q3 => kernel_rfl
        case hra4q3 => kernel_rfl
        case hya4q3 => (refine Or.inl ⟨by rfl, ?_⟩; intro w hSw; (try dsimp only at hSw); go_simp; (try with_reducible rfl))
        case hQa4q3 => exact fun _ _ _ h => h
        (try simp only [Act.put, List.setIfInBounds_toArray, List.set_cons_zero, List.set_cons_succ])
        refine wpAnyH_take (i := 4) (oi := ?_) (v := ?_) ?hia4q4 (by kernel_rfl) ?hfa4q4 ?hra4q4 ?hQa4q4 ?hya4q4 (by assumption) ?resta4q4
        case hia4q4 => (simp only [List.getElem?_toArray, List.getElem?_cons_zero, List.getElem?_cons_succ]; rfl)
        case hfa4q4 => kernel_rfl
        case hra4q4 => kernel_rfl
        case hya4q4 => (refine Or.inl ⟨by rfl, ?_⟩; intro w hSw; (try dsimp only at hSw); go_simp; (try with_reducible rfl))
        case hQa4q4 => exact fun _ _ _ h => h
        (try simp only [Act.put, List.setIfInBounds_toArray, List.set_cons_zero, List.set_cons_succ])
        refine wpAnyH_take (i := 5) (oi := ?_) (v := ?_) ?hia4q5 (by kernel_rfl) ?hfa4q5 ?hra4q5 ?hQa4q5 ?hya4q5 (by assumption) ?resta4q5
        case hia4q5 => (simp only [List.getElem?_toArray, List.getElem?_cons_zero, List.getElem?_cons_succ]; rfl)
        case hfa4q5 => kernel_rfl
        case hra4q5 => kernel_rfl
        case hya4q5 => (refine Or.inl ⟨by rfl, ?_⟩; intro w hSw; (try dsimp only at hSw); go_simp; (try with_reducible rfl))
        case hQa4q5 => exact fun _ _ _ h => h
        (try simp only [Act.put, List.setIfInBounds_toArray, List.set_cons_zero, List.set_cons_succ])
        refine wpAnyH_take (i := 6) (oi := ?_) (v := ?_) ?hia4q6 (by kernel_rfl) ?hfa4q6 ?hra4q6 ?hQa4q6 ?hya4q6 (by assumption) ?resta4q6
        case hia4q6 => (simp only [List.getElem?_toArray, List.getElem?_cons_zero, List.getElem?_cons_succ]; rfl)
        case hfa4q6 => kernel_rfl
        case hra4q6 => kernel_rfl
        case hya4q6 => (refine Or.inl ⟨by rfl, ?_⟩; intro w hSw; (try dsimp only at hSw); go_simp; (try with_reducible rfl))
        case hQa4q6 => exact fun _ _ _ h => h
        (try simp only [Act.put, List.setIfInBounds_toArray, List.set_cons_zero, List.set_cons_succ])
        refine wpAnyH_take (i := 7) (oi := ?_) (v := ?_) ?hia4q7 (by kernel_rfl) ?hfa4q7 ?hra4q7 ?hQa4q7 ?hya4q7 (by assumption) ?resta4q7
        case hia4q7 => (simp only [List.getElem?_toArray, List.getElem?_cons_zero, List.getElem?_cons_succ]; rfl)
        case hfa4q7 => kernel_rfl
        case hra4q7 => kernel_rfl
        case hya4q7 => (refine Or.inl ⟨by rfl, ?_⟩; intro w hSw; (try dsimp only at hSw); go_simp; (try with_reducible rfl))
        case hQa4q7 => exact fun _ _ _ h => h
        (try simp only [Act.put, List.setIfInBounds_toArray, List.set_cons_zero, List.set_cons_succ])
        refine wpAnyH_take (i := 8) (oi := ?_) (v := ?_) ?hia4q8 (by kernel_rfl) ?hfa4q8 ?hra4q8 ?hQa4q8 ?hya4q8 (by assumption) ?resta4q8
        case hia4q8 => (simp only [List.getElem?_toArray, List.getElem?_cons_zero, List.getElem?_cons_succ]; rfl)
        case hfa4q8 => kernel_rfl
        case hra4q8 => kernel_rfl
        case hya4q8 => (refine Or.inl ⟨by rfl, ?_⟩; intro w hSw; (try dsimp only at hSw); go_simp; (try with_reducible rfl))
        case hQa4q8 => exact fun _ _ _ h => h
        (try simp only [Act.put, List.setIfInBounds_toArray, List.set_cons_zero, List.set_cons_succ])
        refine wpAnyH_take (i := 9) (oi := ?_) (v := ?_) ?hia4q9 (by kernel_rfl) ?hfa4q9 ?hra4q9 ?hQa4q9 ?hya4q9 (by assumption) ?resta4q9
        case hia4q9 => (simp only [List.getElem?_toArray, List.getElem?_cons_zero, List.getElem?_cons_succ]; rfl)
        case hfa4q9 => kernel_rfl
        case hra4q9 => kernel_rfl
        case hya4q9 => (refine Or.inl ⟨by rfl, ?_⟩; intro w hSw; (try dsimp only at hSw); go_simp; (try with_reducible rfl))
        case hQa4q9 => exact fun _ _ _ h => h
        (try simp only [Act.put, List.setIfInBounds_toArray, List.set_cons_zero, List.set_cons_succ])
        refine wpAnyH_take (i := 10) (oi := ?_) (v := ?_) ?hia4q10 (by kernel_rfl) ?hfa4q10 ?hra4q10 ?hQa4q10 ?hya4q10 (by assumption) ?resta4q10
        case hia4q10 => (simp only [List.getElem?_toArray, List.getElem?_cons_zero, List.getElem?_cons_succ]; rfl)
        case hfa4q10 => kernel_rfl
        case hra4q10 => kernel_rfl
        case hya4q10 => (refine Or.inl ⟨by rfl, ?_⟩; intro w hSw; (try dsimp only at hSw); go_simp; (try with_reducible rfl))
        case hQa4q10 => exact fun _ _ _ h => h
        (try simp only [Act.put, List.setIfInBounds_toArray, List.set_cons_zero, List.set_cons_succ])
        refine wpAnyH_take (i := 11) (oi := ?_) (v := ?_) ?hia4q11 (by kernel_rfl) ?hfa4q11 ?hra4q11 ?hQa4q11 ?hya4q11 (by assumption) ?resta4q11
        case hia4q11 => (simp only [List.getElem?_toArray, List.getElem?_cons_zero, List.getElem?_cons_succ]; rfl)
        case hfa4q11 => kernel_rfl
        case hra4q11 => kernel_rfl
        case hya4q11 => (refine Or.inl ⟨by rfl, ?_⟩; intro w hSw; (try dsimp only at hSw); go_simp; (try with_reducible rfl))
        case hQa4q11 => exact fun _ _ _ h => h
        (try simp only [Act.put, List.setIfInBounds_toArray, List.set_cons_zero, List.set_cons_succ])
        refine wpAnyH_take (i := 12) (oi := ?_) (v := ?_) ?hia4q12 (by kernel_rfl) ?hfa4q12 ?hra4q12 ?hQa4q12 ?hya4q12 (by assumption) ?resta4q12
        case hia4q12 => (simp only [List.getElem?_toArray, List.getElem?_cons_zero, List.getElem?_cons_succ]; rfl)
        case hfa4q12 => kernel_rfl
        case hra4q12 => kernel_rfl
        case hya4q12 => (refine Or.inl ⟨by rfl, ?_⟩; intro w hSw; (try dsimp only at hSw); go_simp; (try with_reducible rfl))
        case hQa4q12 => exact fun _ _ _ h => h
        (try simp only [Act.put, List.setIfInBounds_toArray, List.set_cons_zero, List.set_cons_succ])
        refine wpAnyH_take (i := 13) (oi := ?_) (v := ?_) ?hia4q13 (by kernel_rfl) ?hfa4q13 ?hra4q13 ?hQa4q13 ?hya4q13 (by assumption) ?resta4q13
        case hia4q13 => (simp only [List.getElem?_toArray, List.getElem?_cons_zero, List.getElem?_cons_succ]; rfl)
        case hfa4q13 => kernel_rfl
        case hra4q13 => kernel_rfl
        case hya4q13 => (refine Or.inl ⟨by rfl, ?_⟩; intro w hSw; (try dsimp only at hSw); go_simp; (try with_reducible rfl))
        case hQa4q13 => exact fun _ _ _ h => h
        (try simp only [Act.put, List.setIfInBounds_toArray, List.set_cons_zero, List.set_cons_succ])
        refine wpAnyH_take (i := 14) (oi := ?_) (v := ?_) ?hia4q14 (by kernel_rfl) ?hfa4q14 ?hra4q14 ?hQa4q14 ?hya4q14 (by assumption) ?resta4q14
        case hia4q14 => (simp only [List.getElem?_toArray, List.getElem?_cons_zero, List.getElem?_cons_succ]; rfl)
        case hfa4q14 => kernel_rfl
        case hra4q14 => kernel_rfl
        case hya4q14 => (refine Or.inl ⟨by rfl, ?_⟩; intro w hSw; (try dsimp only at hSw); have rr := row_step HROW.out hSw; have c0 := row_cell rr 0; have c1 := row_cell rr 1; have c2 := row_cell rr 2; have c3 := row_cell rr 3; have c4 := row_cell rr 4; simp only [List.getElem?_toArray, List.getElem?_cons_zero, List.getElem?_cons_succ] at c0 c1 c2 c3 c4; go_simp; (try with_reducible rfl))
        case hQa4q14 => exact fun _ _ _ h => h
        (try simp only [Act.put, List.setIfInBounds_toArray, List.set_cons_zero, List.set_cons_succ])
        refine wpAnyH_take (i := 16) (oi := ?_) (v := ?_) ?hia4q16 (by kernel_rfl) ?hfa4q16 ?hra4q16 ?hQa4q16 ?hya4q16 (by assumption) ?resta4q16
        case hia4q16 => (simp only [List.getElem?_toArray, List.getElem?_cons_zero, List.getElem?_cons_succ]; rfl)
        case hfa4q16 => kernel_rfl
        case hra4q16 => kernel_rfl
        case hya4q16 => (refine Or.inl ⟨by rfl, ?_⟩; intro w hSw; (try dsimp only at hSw); have rr := row_step HROW.out hSw; have c0 := row_cell rr 0; have c1 := row_cell rr 1; have c2 := row_cell rr 2; have c3 := row_cell rr 3; have c4 := row_cell rr 4; simp only [List.getElem?_toArray, List.getElem?_cons_zero, List.getElem?_cons_succ] at c0 c1 c2 c3 c4; go_simp; (try with_reducible rfl))
        case hQa4q16 => exact fun _ _ _ h => h
        (try simp only [Act.put, List.setIfInBounds_toArray, List.set_cons_zero, List.set_cons_succ])
        refine wpAnyH_ready (rs := [15]) (by kernel_rfl) (by simp) ?_
        refine AllReadyH.cons (o := ?_) ?hox4q15 ?stx4q15 AllReadyH.nil
        case hox4q15 => (simp only [List.getElem?_toArray, List.getElem?_cons_zero, List.getElem?_cons_succ]; rfl)
        intro K hK
        go_simp
        go_at_call 9; refine (vsize_any 2 _ _ _ _ _ _ _ (4, 0, 0, ⟨#[]⟩, LL) _ (rep_keep hHeld _ _ _ HRC.out) HFI.out.1 HFI.out.2.1).mono ?_; rintro e ws ⟨rfl, hb⟩; rw [show sizeM (measT 2 (4, 0, 0, ⟨#[]⟩, LL)) = sizeT 2 (4, 0, 0, ⟨#[]⟩, LL) from HFI.out.2.2.2]; have hS1 := bel_step hHeld hb; clear hb
        go_wp2_with fail
        refine hK.out _ _ hS1 (fun hHeld2 => ?_)
        clear hK K hHeld hHeld2
        have hHeld := hS1
        clear hS1
        (try simp only [Act.put, List.setIfInBounds_toArray, List.set_cons_zero, List.set_cons_succ])
        refine wpAnyH_ready (rs := [17]) (by kernel_rfl) (by simp) ?_
        refine AllReadyH.cons (o := ?_) ?hox4q17 ?stx4q17 AllReadyH.nil
        case hox4q17 => (simp only [List.getElem?_toArray, List.getElem?_cons_zero, List.getElem?_cons_succ]; rfl)
        intro K hK
        go_simp
        go_at_call 10; refine (size_any 2 _ (4, 0, 0, ⟨#[]⟩, LL) _ (rep_keep hHeld _ _ _ HRC.out)).mono ?_; rintro e ws ⟨rfl, hb⟩; have hS1 := bel_step hHeld hb; clear hb
        go_wp2_with fail
        refine hK.out _ _ hS1 (fun hHeld2 => ?_)
        clear hK K hHeld hHeld2
        have hHeld := hS1
        clear hS1
        (try simp only [Act.put, List.setIfInBounds_toArray, List.set_cons_zero, List.set_cons_succ])
        refine wpAnyH_take (i := 18) (oi := ?_) (v := ?_) ?hix4q18 (by kernel_rfl) ?hfx4q18 ?hrx4q18 ?hQx4q18 ?hyx4q18 (by assumption) ?restx4q18
        case hix4q18 => (simp only [List.getElem?_toArray, List.getElem?_cons_zero, List.getElem?_cons_succ]; rfl)
        case hfx4q18 => kernel_rfl
        case hrx4q18 => kernel_rfl
        case hyx4q18 => (refine Or.inl ⟨by rfl, ?_⟩; intro w hSw; (try dsimp only at hSw); go_simp; (try with_reducible rfl))
        case hQx4q18 => exact fun _ _ _ h => h
        (try simp only [Act.put, List.setIfInBounds_toArray, List.set_cons_zero, List.set_cons_succ])
        refine wpAnyH_take (i := 19) (oi := ?_) (v := ?_) ?hix4q19 (by kernel_rfl) ?hfx4q19 ?hrx4q19 ?hQx4q19 ?hyx4q19 (by assumption) ?restx4q19
        case hix4q19 => (simp only [List.getElem?_toArray, List.getElem?_cons_zero, List.getElem?_cons_succ]; rfl)
        case hfx4q19 => kernel_rfl
        case hrx4q19 => kernel_rfl
        case hyx4q19 => (refine Or.inl ⟨by rfl, ?_⟩; intro w hSw; (try dsimp only at hSw); go_simp; (try with_reducible rfl))
        case hQx4q19 => exact fun _ _ _ h => h
        (try simp only [Act.put, List.setIfInBounds_toArray, List.set_cons_zero, List.set_cons_succ])
        refine wpAnyH_take (i := 20) (oi := ?_) (v := ?_) ?hix4q20 (by kernel_rfl) ?hfx4q20 ?hrx4q20 ?hQx4q20 ?hyx4q20 (by assumption) ?restx4q20
        case hix4q20 => (simp only [List.getElem?_toArray, List.getElem?_cons_zero, List.getElem?_cons_succ]; rfl)
        case hfx4q20 => kernel_rfl
        case hrx4q20 => kernel_rfl
        case hyx4q20 => (refine Or.inl ⟨by rfl, ?_⟩; intro w hSw; (try dsimp only at hSw); go_simp; (try with_reducible rfl))
        case hQx4q20 => exact fun _ _ _ h => h
        (try simp only [Act.put, List.setIfInBounds_toArray, List.set_cons_zero, List.set_cons_succ])
        refine wpAnyH_done (by kernel_rfl) ?_ _
        have HF := Lib.hid (bel_step HBC.out hHeld)
        clear hHeld
        go_wp2
        go_ret
        exact ⟨rfl, HF.out⟩
theorem u8_wf {n : Int} (h : (Lit.int .u8 n).wf = true) : 0 ≤ n ∧ n < 256 := by
  unfold Lit.wf at h
  rw [Bool.and_eq_true, decide_eq_true_eq, decide_eq_true_eq] at h
  have h1 : IntKind.u8.min = 0 := by decide
  have h2 : IntKind.u8.max = 255 := by decide
  omega
theorem limits_law (a n : Int) (ha : (Lit.int .u8 a).wf = true) (hn : (Lit.int .u8 n).wf = true) (w : World) (ht : Tabs w) : Calls Tryz.prog 3 #[.int .u8 a, .int .u8 n] w fun e w' => e = .returned (.bool true) ∧ Below w.heap.size w w' := by
  obtain ⟨g0, g1⟩ := u8_wf ha
  obtain ⟨h0, h1⟩ := u8_wf hn
  obtain ⟨D, hD⟩ : ∃ D : Nat, n % 5 = (D : Int) := ⟨(n % 5).toNat, by omega⟩
  have hD4 : D ≤ 4 := by omega
  have hk : a % 4 = 0 ∨ a % 4 = 1 ∨ a % 4 = 2 ∨ a % 4 = 3 := by omega
  by_cases hd : (D : Int) ≤ 2
  · rcases hk with hk | hk | hk | hk
    · exact lim_Ay a n h0 h1 g0 g1 D hD hD4 hk hd w ht
    · exact lim_By a n h0 h1 g0 g1 D hD hD4 hk hd w ht
    · exact lim_Cy a n h0 h1 g0 g1 D hD hD4 hk hd w ht
    · exact lim_Dy a n h0 h1 g0 g1 D hD hD4 hk hd w ht
  · rcases hk with hk | hk | hk | hk
    · exact lim_An a n h0 h1 g0 g1 D hD hD4 hk (by omega) w ht
    · exact lim_Bn a n h0 h1 g0 g1 D hD hD4 hk (by omega) w ht
    · exact lim_Cn a n h0 h1 g0 g1 D hD hD4 hk (by omega) w ht
    · exact lim_Dn a n h0 h1 g0 g1 D hD hD4 hk (by omega) w ht
end Num
end Go.Proofs.YtahcgdjcjapnkaaGreatDoor
