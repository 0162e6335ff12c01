/-
  What the reference's Clean makes, of values of no great bulk.
-/
import Derived.Test.YtgeicgfijnabkaaDoorGf
import Derived.Test.YtgeicgfijnabkaaDoorKP
import Derived.Test.YtgeicgfijnabkaaDoorHQ
import Derived.Test.YtgeicgfijnabkaaDoorVBr
namespace Go.Proofs.YtgeicgfijnabkaaDoor
open Go.RowKit
namespace Num
open Ints
set_option linter.unusedSimpArgs false
set_option linter.unusedVariables false
section
variable {ops : Array Oper} {rest : List Oper} {o : Oper} {a : Act} {Q : Exit → Act → World → Prop}
/-- A value behind an owned list. -/
theorem wp_ovW (hgd : o.guard = none) (s x : Operand) (ho : o.op = .call { callee := .builtin .append, args := #[s, x], argTypes := #[23, 23] })
    (M : Nat) (W0 w : World) (n : Nat) (p : Option Addr) (l c : Nat) (L : List (VT n)) (u0 u1 u2 u3 u4 : Value) (T : VT n) (hs : a.eval s = .slice p l c) (hx : a.eval x = .slice (some ⟨w.heap.size, 0, none⟩) 1 1) (hb : OwM M W0 w n p l c L) (hl : l ≤ 2199023255488)
    (hT : RepC w n (fun b => Fr W0 w (.slice p l c) b ∧ M ≤ b) (.agg #[u0, u1, u2, u3, u4]) T)
    (h : ∀ p' c' w', OwL W0 w' n p' (l + 1) c' (L ++ [T]) → wpList Tryd.prog ops Q rest (a.put o.dst (.slice p' (l + 1) c')) w') : wpList Tryd.prog ops Q (o :: rest) a (w.alloc (.cells #[u0, u1, u2, u3, u4] 25)) := by
  obtain ⟨i0, hi, hz0, hz1, hz2⟩ := info_parts info_v5
  have hb' := om_keep hb ((Below.refl w.heap.size w).alloc (Nat.le_refl _) (.cells #[u0, u1, u2, u3, u4] 25))
  obtain ⟨XS, h1, h2, h3, h4, hM, g, h5⟩ := hb'
  have hone : ∀ u ∈ [u0, u1, u2, u3, u4], u.oneCell' = true := by
    cases n with
    | zero => exact hT.elim
    | succ n =>
      obtain ⟨q, m, d, e, _⟩ := hT
      injection e with e
      have e' := congrArg Array.toList e
      simp only [List.cons.injEq] at e'
      obtain ⟨rfl, rfl, rfl, rfl, rfl, _⟩ := e'
      intro u hu
      simp only [List.mem_cons, List.not_mem_nil, or_false] at hu
      rcases hu with rfl | rfl | rfl | rfl | rfl <;> rfl
  refine wpList_append_own_at _ hgd s x 23 ho W0.heap.size 25 i0 _ 5 64 Tryd.underlying23 hi hz0 hz1 hz2 rfl (by decide) (.slice p l c) l XS hs h1 ⟨w.heap.size, 0, none⟩ 1 1 [u0, u1, u2, u3, u4] hx rfl ?_ hone (by unfold maxLen; omega) (by omega) h4 ?_
  · intro j u hj
    rw [Addr.add_lit, Nat.zero_add, row_cell (row_alloc w #[u0, u1, u2, u3, u4] 25) j, List.getElem?_toArray]
    exact hj
  · intro v' w' hown hg _ hown'
    have hsz : (w.alloc (.cells #[u0, u1, u2, u3, u4] 25)).heap.size = w.heap.size + 1 := World.size_alloc _ _
    have hgs := hg.size
    have hpc : ∃ p' c', v' = .slice p' (l + 1) c' := by
      rcases hown.2 with ⟨rfl, hn⟩ | ⟨g, cap, cur, rfl, _⟩
      · exact absurd hn (by omega)
      · exact ⟨_, _, rfl⟩
    obtain ⟨p', c', rfl⟩ := hpc
    have hlen := h1.1
    have hfr' : ∀ b, Fr W0 (w.alloc (.cells #[u0, u1, u2, u3, u4] 25)) (.slice p l c) b → Fr W0 w' (.slice p' (l + 1) c') b ∧ w'.heap[b]? = (w.alloc (.cells #[u0, u1, u2, u3, u4] 25)).heap[b]? := by
      intro b ⟨k1, k2, k3⟩
      refine ⟨⟨k1, by omega, ?_⟩, hg.block b k2 (fun e => k3 e.symm)⟩
      rcases hown' with e | e
      · rw [e]; exact k3
      · rw [e]; intro e'; injection e' with e'; omega
    have hT' := repC_mono n _ (fun b => Fr W0 (w.alloc (.cells #[u0, u1, u2, u3, u4] 25)) (.slice p l c) b ∧ M ≤ b) _ _ (fun b hb' => ⟨⟨hb'.1.1, by have := hb'.1.2.1; omega, hb'.1.2.2⟩, hb'.2⟩) (repC_keep n _ _ _ (fun b hb' => Below.heap_alloc w (.cells #[u0, u1, u2, u3, u4] 25) _ hb'.1.2.1) hT)
    refine h p' c' w' ⟨XS ++ [u0, u1, u2, u3, u4], hown, by rw [List.length_append, h2]; rfl, Below.grown h3 hg h4 (fun k hk => (h1.lt k hk).1), Nat.le_trans h4 hg.size, Nat.le_refl _, fun b => if b < M then g b else l, fun i hi => ?_⟩
    by_cases hlt : i < L.length
    · obtain ⟨v0, v1, v2, v3, v4, c0, c1, c2, c3, c4, hr⟩ := h5 i hlt
      have hlt5 : i * 5 + 5 ≤ XS.length := by omega
      refine ⟨v0, v1, v2, v3, v4, by rw [List.getElem?_append_left (by omega)]; exact c0, by rw [List.getElem?_append_left (by omega)]; exact c1, by rw [List.getElem?_append_left (by omega)]; exact c2, by rw [List.getElem?_append_left (by omega)]; exact c3, by rw [List.getElem?_append_left (by omega)]; exact c4, ?_⟩
      rw [List.getElem_append_left hlt]
      exact repC_mono n _ _ _ _ (fun b hb' => ⟨(hfr' b hb'.1).1, (hfr' b hb'.1).1.2.1, (show (if b < M then g b else l) = i from (if_pos hb'.2.1).trans hb'.2.2)⟩) (repC_keep n _ _ _ (fun b hb' => (hfr' b hb'.1).2) hr)
    · have hie : i = l := by rw [List.length_append, h2] at hi; simp at hi; omega
      subst hie
      have e := five_at hlen u0 u1 u2 u3 u4
      refine ⟨u0, u1, u2, u3, u4, by have := e 0; simpa using this, by rw [e 1]; rfl, by rw [e 2]; rfl, by rw [e 3]; rfl, by rw [e 4]; rfl, ?_⟩
      rw [List.getElem_append_right (by omega)]
      simp only [h2, Nat.sub_self, List.getElem_cons_zero]
      exact repC_mono n _ _ _ _ (fun b hb' => ⟨(hfr' b hb'.1).1, (hfr' b hb'.1).1.2.1, (if_neg (Nat.not_lt.2 hb'.2) : (if b < M then g b else _) = _)⟩) (repC_keep n _ _ _ (fun b hb' => (hfr' b hb'.1).2) hT')
end
def CleanAnyP (n : Nat) : Prop := ∀ (dp : Nat) (v : Value) (T : VT n) (w : World), wideT n T → Rep w n v T → Calls Tryd.prog 12 #[v] w fun e w' => ∃ v', e = .returned v' ∧ Below w.heap.size w w' ∧ RepS (fun b => w.heap.size ≤ b) w' n v' (cleanT n T)
def CleansPostP (n : Nat) (w : World) (L : List (VT n)) (e : Ending) (w' : World) : Prop := ∃ p l c, e = .returned (.slice p l c) ∧ Below w.heap.size w w' ∧ RepLS (fun b => w.heap.size ≤ b) w' (RepC w' n) p l c (L.map (cleanT n))
theorem ow_bel_l {W0 w : World} {n : Nat} {p : Option Addr} {l c : Nat} {L : List (VT n)} (h : OwL W0 w n p l c L) : Below W0.heap.size W0 w := by
  obtain ⟨_, _, _, h3, _⟩ := h
  exact h3
theorem set5_heapR {w : World} {b k : Nat} (h : k ≠ b) (v0 v1 v2 v3 v4 : Value) : (((((w.setCell ⟨b, 0, none⟩ v0).setCell ⟨b, 1, none⟩ v1).setCell ⟨b, 2, none⟩ v2).setCell ⟨b, 3, none⟩ v3).setCell ⟨b, 4, none⟩ v4).heap[k]? = w.heap[k]? := by
  rw [Below.heap_setCell _ _ _ _ h, Below.heap_setCell _ _ _ _ h, Below.heap_setCell _ _ _ _ h, Below.heap_setCell _ _ _ _ h, Below.heap_setCell _ _ _ _ h]
theorem rep_fresh0P {W0 wr w1 : World} {n : Nat} {p : Option Addr} {l c : Nat} {L : List (VT n)} (h : OwL W0 wr n p l c L) (hb : Below wr.heap.size wr w1) {v : Value} {T : VT n} (hr : RepS (fun b => wr.heap.size ≤ b) w1 n v T) : RepC w1 n (fun b => Fr W0 w1 (.slice p l c) b ∧ wr.heap.size ≤ b) v T := by
  have hlt := ol_lt h
  obtain ⟨_, _, _, _, hle, _⟩ := h
  refine repC_mono n _ _ _ _ (fun b ⟨h1, h2⟩ => ⟨⟨by omega, h2, fun e => ?_⟩, h1⟩) (repS_lt n _ _ hr)
  have := hlt b e
  omega
set_option maxRecDepth 100000 in
set_option maxHeartbeats 4000000 in
theorem cleans_anyP (n dp : Nat) (ih : CleanAnyP n) (w : World) (p : Option Addr) (l c : Nat) (L : List (VT n)) (hgr : ∀ x ∈ L, wideT n x) (h : RepL w (Rep w n) p l c L) (hl : l ≤ 2199023255488) :
    Calls Tryd.prog 32 #[.slice p l c] w (CleansPostP n w L) := by
  have IH := Lib.hid ih
  have HG := Lib.hid hgr
  clear hgr
  obtain ⟨hlL, hlc, hcm, hel⟩ := h
  unfold maxLen at hcm
  have HE := Lib.hid hel
  have HL := Lib.hid hlL
  clear ih hel hlL
  go_enter Tryd.func32, Tryd.ntmps32
  go_wp2
  go_loopw [3, 4] (fun v i wr => ∃ (k : Nat) (q : Option Addr) (dd : Nat), k ≤ l ∧ i = .int .i64 (k : Int) ∧ v = .slice q k dd ∧ OwL w wr n q k dd ((L.take k).map (cleanT n))) (fun _ i _ => l - (intOf i).toNat)
  case atStart => exact ⟨0, none, 0, Nat.zero_le _, rfl, rfl, ol_nil _ _ _ (Below.refl _ _) (Nat.le_refl _)⟩
  case round =>
    obtain ⟨k, q, dd, hk, rfl, rfl, ho⟩ := hrel
    have HO := Lib.hid ho
    have HB := Lib.hid (ow_bel_l ho)
    have hsl : k ≤ 2199023255488 := by omega
    clear ho
    by_cases hlt : k < l
    · obtain ⟨b, off, hp, hi⟩ := HE.out (by omega)
      subst hp
      have hkl : k < L.length := by have := HL.out; omega
      obtain ⟨v0, v1, v2, v3, v4, c0, c1, c2, c3, c4, hr⟩ := hi k hkl
      have HR := Lib.hid (rep_keep HB.out n _ _ hr)
      have e0 := cell_keep HB.out c0
      have e1 := cell_keep HB.out c1
      have e2 := cell_keep HB.out c2
      have e3 := cell_keep HB.out c3
      have e4 := cell_keep HB.out c4
      have HT := Lib.hid (show (L.take (k + 1)).map (cleanT n) = (L.take k).map (cleanT n) ++ [cleanT n L[k]] by rw [List.take_succ_eq_append_getElem hkl, List.map_append]; rfl)
      have hk0 : (0 : Int) ≤ (k : Int) := by omega
      have hkl2 : (k : Int) < (l : Int) := by omega
      clear c0 c1 c2 c3 c4 hr hi
      go_wp2_with fail
      go_at_call 12; refine (IH.out dp _ _ _ (HG.out _ (List.getElem_mem hkl)) HR.out).mono ?_; rintro e w1 ⟨v, rfl, hb1, hrep⟩
      obtain ⟨K, I, F, S, q', l', c', rfl, _⟩ := repS_shape hrep
      have HO1 := Lib.hid (om_keep HO.out hb1)
      have HREP := Lib.hid (rep_fresh0P HO.out hb1 hrep)
      clear hb1 hrep e0 e1 e2 e3 e4
      go_wp2_with (at_builtin; refine wp_ovW rfl _ _ rfl wr.heap.size w w1 n q k dd _ _ _ _ _ _ _ rfl rfl HO1.out (by omega) HREP.out ?_; intro p2 c2 w2 ho2; have HO2 := Lib.hid ho2; clear ho2)
      go_roundw
      case rel => exact ⟨k + 1, p2, c2, by omega, by go_num, rfl, by rw [HT.out]; exact HO2.out⟩
      case measure => simp [intOf]; omega
    · have hkl : k = l := by omega
      have HP := Lib.hid (show CleansPostP n w L (.returned (.slice q k dd)) wr from ⟨q, k, dd, rfl, HB.out, by
        have h := ol_rep HO.out
        rw [List.take_of_length_le (by have := HL.out; omega)] at h
        exact h⟩)
      clear HO
      go_wp2
      go_ret
      exact HP.out
set_option maxRecDepth 100000 in
set_option maxHeartbeats 2199023255488 in
theorem clean_intP (w : World) (I : Int) (F : Nat) (S : ByteArray) (q : Option Addr) (m d : Nat) :
    Calls Tryd.prog 12 #[.agg #[.int .i64 1, .int .i64 I, .float .f64 F, .string S, .slice q m d]] w fun e w' => e = .returned (.agg #[.int .i64 1, .int .i64 I, .float .f64 0, .string ⟨#[]⟩, .slice none 0 0]) ∧ Below w.heap.size w w' := by
  have HA := Lib.hid (bel_alloc (bel_alloc (Below.refl w.heap.size w) (.cells #[.int .i64 1, .int .i64 I, .float .f64 F, .string S, .slice q m d] 25)) (.cells #[.int .i64 0, .int .i64 0, .float .f64 0, .string ⟨#[]⟩, .slice none 0 0] 25))
  have RZ := row_alloc (w.alloc (.cells #[.int .i64 1, .int .i64 I, .float .f64 F, .string S, .slice q m d] 25)) #[.int .i64 0, .int .i64 0, .float .f64 0, .string ⟨#[]⟩, .slice none 0 0] 25
  rw [World.size_alloc] at RZ
  have HZ := Lib.hid RZ
  clear RZ
  go_enter Tryd.func12, Tryd.ntmps12
  go_wp2_with fail
  go_at_call 20; refine (int_ref_any _ _).mono ?_; rintro e w1 ⟨rfl, hb1⟩
  have HB := Lib.hid (bel_step HA.out hb1)
  have z1 := row_step HZ.out hb1
  have d0 := row_cell z1 0; have d1 := row_cell z1 1; have d2 := row_cell z1 2; have d3 := row_cell z1 3; have d4 := row_cell z1 4
  simp only [List.getElem?_toArray, List.getElem?_cons_zero, List.getElem?_cons_succ] at d0 d1 d2 d3 d4
  have df := fun o => row_frz z1 o
  clear hb1 z1
  go_wp2
  exact bodyPost_ret (v := .agg #[.int .i64 1, .int .i64 I, .float .f64 0, .string ⟨#[]⟩, .slice none 0 0]) (by simp [results, Tryd.results12, go_sem, World.cell?_setCell_same, World.cell?_setCell_other, d0, d1, d2, d3, d4]) rfl ⟨rfl, below5 HB.out (Nat.le_succ _) _ _ _ _ _⟩
set_option maxRecDepth 100000 in
set_option maxHeartbeats 2199023255488 in
theorem clean_floP (w : World) (I : Int) (F : Nat) (S : ByteArray) (q : Option Addr) (m d : Nat) :
    Calls Tryd.prog 12 #[.agg #[.int .i64 2, .int .i64 I, .float .f64 F, .string S, .slice q m d]] w fun e w' => e = .returned (.agg #[.int .i64 2, .int .i64 0, .float .f64 (Flo.canon F), .string ⟨#[]⟩, .slice none 0 0]) ∧ Below w.heap.size w w' := by
  have HA := Lib.hid (bel_alloc (bel_alloc (Below.refl w.heap.size w) (.cells #[.int .i64 2, .int .i64 I, .float .f64 F, .string S, .slice q m d] 25)) (.cells #[.int .i64 0, .int .i64 0, .float .f64 0, .string ⟨#[]⟩, .slice none 0 0] 25))
  have RZ := row_alloc (w.alloc (.cells #[.int .i64 2, .int .i64 I, .float .f64 F, .string S, .slice q m d] 25)) #[.int .i64 0, .int .i64 0, .float .f64 0, .string ⟨#[]⟩, .slice none 0 0] 25
  rw [World.size_alloc] at RZ
  have HZ := Lib.hid RZ
  clear RZ
  go_enter Tryd.func12, Tryd.ntmps12
  go_wp2_with fail
  go_at_call 30; refine (float_ref_any _ _).mono ?_; rintro e w1 ⟨rfl, hb1⟩
  have HB := Lib.hid (bel_step HA.out hb1)
  have z1 := row_step HZ.out hb1
  have d0 := row_cell z1 0; have d1 := row_cell z1 1; have d2 := row_cell z1 2; have d3 := row_cell z1 3; have d4 := row_cell z1 4
  simp only [List.getElem?_toArray, List.getElem?_cons_zero, List.getElem?_cons_succ] at d0 d1 d2 d3 d4
  have df := fun o => row_frz z1 o
  clear hb1 z1
  go_wp2
  exact bodyPost_ret (v := .agg #[.int .i64 2, .int .i64 0, .float .f64 (Flo.canon F), .string ⟨#[]⟩, .slice none 0 0]) (by simp [results, Tryd.results12, go_sem, World.cell?_setCell_same, World.cell?_setCell_other, d0, d1, d2, d3, d4]) rfl ⟨rfl, below5 HB.out (Nat.le_succ _) _ _ _ _ _⟩
set_option maxRecDepth 100000 in
set_option maxHeartbeats 2199023255488 in
theorem clean_txtP (w : World) (I : Int) (F : Nat) (S : ByteArray) (q : Option Addr) (m d : Nat) :
    Calls Tryd.prog 12 #[.agg #[.int .i64 3, .int .i64 I, .float .f64 F, .string S, .slice q m d]] w fun e w' => e = .returned (.agg #[.int .i64 3, .int .i64 0, .float .f64 0, .string S, .slice none 0 0]) ∧ Below w.heap.size w w' := by
  have HA := Lib.hid (bel_alloc (bel_alloc (Below.refl w.heap.size w) (.cells #[.int .i64 3, .int .i64 I, .float .f64 F, .string S, .slice q m d] 25)) (.cells #[.int .i64 0, .int .i64 0, .float .f64 0, .string ⟨#[]⟩, .slice none 0 0] 25))
  have RZ := row_alloc (w.alloc (.cells #[.int .i64 3, .int .i64 I, .float .f64 F, .string S, .slice q m d] 25)) #[.int .i64 0, .int .i64 0, .float .f64 0, .string ⟨#[]⟩, .slice none 0 0] 25
  rw [World.size_alloc] at RZ
  have HZ := Lib.hid RZ
  clear RZ
  go_enter Tryd.func12, Tryd.ntmps12
  go_wp2_with fail
  go_at_call 31; refine (text_ref_any _ _).mono ?_; rintro e w1 ⟨rfl, hb1⟩
  have HB := Lib.hid (bel_step HA.out hb1)
  have z1 := row_step HZ.out hb1
  have d0 := row_cell z1 0; have d1 := row_cell z1 1; have d2 := row_cell z1 2; have d3 := row_cell z1 3; have d4 := row_cell z1 4
  simp only [List.getElem?_toArray, List.getElem?_cons_zero, List.getElem?_cons_succ] at d0 d1 d2 d3 d4
  have df := fun o => row_frz z1 o
  clear hb1 z1
  go_wp2
  exact bodyPost_ret (v := .agg #[.int .i64 3, .int .i64 0, .float .f64 0, .string S, .slice none 0 0]) (by simp [results, Tryd.results12, go_sem, World.cell?_setCell_same, World.cell?_setCell_other, d0, d1, d2, d3, d4]) rfl ⟨rfl, below5 HB.out (Nat.le_succ _) _ _ _ _ _⟩
set_option maxRecDepth 100000 in
set_option maxHeartbeats 2199023255488 in
theorem clean_nilP (w : World) (K I : Int) (F : Nat) (S : ByteArray) (q : Option Addr) (m d : Nat) (h1 : ¬ K = 1) (h2 : ¬ K = 2) (h3 : ¬ K = 3) (h4 : ¬ K = 4) :
    Calls Tryd.prog 12 #[.agg #[.int .i64 K, .int .i64 I, .float .f64 F, .string S, .slice q m d]] w fun e w' => e = .returned (.agg #[.int .i64 0, .int .i64 0, .float .f64 0, .string ⟨#[]⟩, .slice none 0 0]) ∧ Below w.heap.size w w' := by
  have HA := Lib.hid (bel_alloc (Below.refl w.heap.size w) (.cells #[.int .i64 K, .int .i64 I, .float .f64 F, .string S, .slice q m d] 25))
  go_enter Tryd.func12, Tryd.ntmps12
  have k1 : (K == 1) = false := by simpa using h1
  have k2 : (K == 2) = false := by simpa using h2
  have k3 : (K == 3) = false := by simpa using h3
  have k4 : (K == 4) = false := by simpa using h4
  clear h1 h2 h3 h4
  go_wp2
  all_goals exact bodyPost_ret (v := .agg #[.int .i64 0, .int .i64 0, .float .f64 0, .string ⟨#[]⟩, .slice none 0 0]) (by simp [results, Tryd.results12, go_sem]) rfl ⟨rfl, bel_alloc HA.out _⟩
set_option maxRecDepth 100000 in
set_option maxHeartbeats 2199023255488 in
theorem clean_listP (n dp : Nat) (ih : CleanAnyP n) (w : World) (I : Int) (F : Nat) (S : ByteArray) (q : Option Addr) (m d : Nat) (L : List (VT n)) (hgr : ∀ x ∈ L, wideT n x) (h : RepL w (Rep w n) q m d L) (hm : m ≤ 2199023255488) :
    Calls Tryd.prog 12 #[.agg #[.int .i64 4, .int .i64 I, .float .f64 F, .string S, .slice q m d]] w fun e w' => ∃ v', e = .returned v' ∧ Below w.heap.size w w' ∧ RepS (fun b => w.heap.size ≤ b) w' (n + 1) v' (4, 0, 0, ⟨#[]⟩, L.map (cleanT n)) := by
  have HA := Lib.hid (bel_alloc (bel_alloc (Below.refl w.heap.size w) (.cells #[.int .i64 4, .int .i64 I, .float .f64 F, .string S, .slice q m d] 25)) (.cells #[.int .i64 0, .int .i64 0, .float .f64 0, .string ⟨#[]⟩, .slice none 0 0] 25))
  have HC := Lib.hid (fun (w' : World) (hb : Below w.heap.size w w') => cleans_anyP n dp ih w' q m d L hgr (repL_keep hb (fun v x hv => rep_keep hb n v x hv) h) hm)
  have hsz : ((w.alloc (.cells #[.int .i64 4, .int .i64 I, .float .f64 F, .string S, .slice q m d] 25)).alloc (.cells #[.int .i64 0, .int .i64 0, .float .f64 0, .string ⟨#[]⟩, .slice none 0 0] 25)).heap.size = w.heap.size + 1 + 1 := by rw [World.size_alloc, World.size_alloc]
  have RZ := row_alloc (w.alloc (.cells #[.int .i64 4, .int .i64 I, .float .f64 F, .string S, .slice q m d] 25)) #[.int .i64 0, .int .i64 0, .float .f64 0, .string ⟨#[]⟩, .slice none 0 0] 25
  rw [World.size_alloc] at RZ
  have HZ := Lib.hid RZ
  have HS := Lib.hid hsz
  clear RZ hsz ih hgr h
  go_enter Tryd.func12, Tryd.ntmps12
  go_wp2_with fail
  go_at_call 32; refine (HC.out _ HA.out).mono ?_; rintro e w1 ⟨p1, l1, c1, rfl, hb1, hr1⟩
  have HB := Lib.hid (bel_step HA.out hb1)
  have HR := Lib.hid (show RepS (fun b => w.heap.size + 1 + 1 ≤ b) w1 (n + 1) (.agg #[.int .i64 4, .int .i64 0, .float .f64 0, .string ⟨#[]⟩, .slice p1 l1 c1]) (4, 0, 0, ⟨#[]⟩, L.map (cleanT n)) from ⟨p1, l1, c1, rfl, (show okI 4 by decide), (show okI 0 by decide), (show (0 : Nat) < 2 ^ 64 by decide), (show (⟨#[]⟩ : ByteArray).size ≤ maxLen by decide), HS.out ▸ hr1⟩)
  have z1 := row_step HZ.out hb1
  have d0 := row_cell z1 0; have d1 := row_cell z1 1; have d2 := row_cell z1 2; have d3 := row_cell z1 3; have d4 := row_cell z1 4
  simp only [List.getElem?_toArray, List.getElem?_cons_zero, List.getElem?_cons_succ] at d0 d1 d2 d3 d4
  have df := fun o => row_frz z1 o
  clear hb1 z1 hr1
  go_wp2
  exact bodyPost_ret (v := .agg #[.int .i64 4, .int .i64 0, .float .f64 0, .string ⟨#[]⟩, .slice p1 l1 c1]) (by simp [results, Tryd.results12, go_sem, World.cell?_setCell_same, World.cell?_setCell_other, d0, d1, d2, d3, d4]) rfl ⟨_, rfl, below5 HB.out (Nat.le_succ _) _ _ _ _ _, repC_mono _ _ _ _ _ (fun b hb => by omega) (repC_keep _ _ _ _ (fun b hb' => set5_heapR (show b ≠ w.heap.size + 1 by omega) _ _ _ _ _) HR.out)⟩
theorem rep_leafCP (w w' : World) (n : Nat) (K I : Int) (x : Nat) (s : ByteArray) (hK : okI K) (hI : okI I) (hx : x < 2 ^ 64) (hs : s.size ≤ maxLen) : RepS (fun b => w.heap.size ≤ b) w' (n + 1) (.agg #[.int .i64 K, .int .i64 I, .float .f64 x, .string s, .slice none 0 0]) (K, I, x, s, []) :=
  ⟨none, 0, 0, rfl, hK, hI, hx, hs, rfl, Nat.le_refl _, Nat.zero_le _, fun h => absurd h (Nat.lt_irrefl _)⟩
/-- What the reference's Clean makes of any value of no great part. -/
theorem clean_anyP : ∀ n, CleanAnyP n := by
  intro n
  induction n with
  | zero => intro dp v T w _ h; exact h.elim
  | succ n ih =>
    intro dp v T w hg hr
    obtain ⟨K, I, F, S, L⟩ := T
    obtain ⟨q, m, d, rfl, hK, hI, hF, hS, hL⟩ := hr
    have hI' : okI I := hI
    have hF' : F < 2 ^ 64 := hF
    have hS' : S.size ≤ maxLen := hS
    have z0 : okI 0 := by decide
    have zF : (0 : Nat) < 2 ^ 64 := by decide
    have zS : (⟨#[]⟩ : ByteArray).size ≤ maxLen := by decide
    by_cases h1 : K = 1
    · subst h1
      exact (clean_intP w I F S q m d).mono fun e w' h => ⟨_, h.1, h.2, rep_leafCP w w' n 1 I 0 ⟨#[]⟩ (show okI 1 by decide) hI' zF zS⟩
    by_cases h2 : K = 2
    · subst h2
      exact (clean_floP w I F S q m d).mono fun e w' h => ⟨_, h.1, h.2, rep_leafCP w w' n 2 0 (Flo.canon F) ⟨#[]⟩ (show okI 2 by decide) z0 (Flo.canon_lt (x := F) hF') zS⟩
    by_cases h3 : K = 3
    · subst h3
      exact (clean_txtP w I F S q m d).mono fun e w' h => ⟨_, h.1, h.2, rep_leafCP w w' n 3 0 0 S (show okI 3 by decide) z0 zF hS'⟩
    by_cases h4 : K = 4
    · subst h4
      obtain ⟨g4, g3⟩ : L.length ≤ 2199023255488 ∧ ∀ x ∈ L, wideT n x := hg
      exact clean_listP n (dp + 1) ih w I F S q m d L g3 hL (by have : L.length = m := hL.1; omega)
    have e2 : cleanT (n + 1) (K, I, F, S, L) = (0, 0, 0, ⟨#[]⟩, []) := by
      unfold cleanT
      rw [if_neg (by simpa using h1), if_neg (by simpa using h2), if_neg (by simpa using h3), if_neg (by simpa using h4)]
    exact (clean_nilP w K I F S q m d h1 h2 h3 h4).mono fun e w' h => ⟨_, h.1, h.2, by rw [e2]; exact rep_leafCP w w' n 0 0 0 ⟨#[]⟩ z0 z0 zF zS⟩
end Num
end Go.Proofs.YtgeicgfijnabkaaDoor
