/-
  Package group: list.
-/
import Derived.Test.YtbfnghbfilahnaaKe0
import Derived.Test.YtbfnghbfilahnaaKh0
import Derived.Test.YtbfnghbfilahnaaAH
namespace Go.Proofs.Ytbfnghbfilahnaa
open Go.RowKit
namespace Num
open Ints
set_option linter.unusedSimpArgs false
set_option linter.unusedVariables false
theorem info_val : (Try.prog.info? 39).map (fun i => (i.zero, i.size, i.bytes)) = some (some (.agg #[.int .i64 0, .int .i64 0, .float .f64 0, .string ⟨#[]⟩, .slice none 0 0]), 5, 64) := by kernel_rfl
theorem gown_no {W : World} {base : Nat} {e e' : TypeId} {size : Nat} {v : Value} {k : Nat} {xs : List Value} {j : Nat} {cs : Array Value} (h : W.ownsRow base e size v k xs) (hj : W.heap[j]? = some (.cells cs e' (0, 0))) (hne : e' ≠ e) : some j ≠ v.ownBlock := fun e2 => by
  rcases ownsRow_ne_a h hj (fun cur e3 => by injection e3 with _ e4 _; exact hne e4) with h1 | h1
  · rw [h1] at e2; cases e2
  · exact h1 e2.symm
section
variable {ops : Array Oper} {o : Oper} {a : Act} {K : Act → World → Prop} {Q : Exit → Act → World → Prop} {E : Prop}
/-- A value behind a list of the call's own, at a step of a region. -/
theorem step_ownV (hgd : o.guard = none) (s x : Operand) (ho : o.op = .call { callee := .builtin .append, args := #[s, x], argTypes := #[31, 31] })
    (B : Nat) (w : World) (p : Option Addr) (l c b1 : Nat) (xs : List Value) (n0 n1 n2 n3 n4 : Value) (hs : a.eval s = .slice p l c) (hx : a.eval x = .slice (some ⟨b1, 0, none⟩) 1 1) (hown : w.ownsRow B 39 5 (.slice p l c) l xs) (hrow : w.heap[b1]? = some (.cells #[n0, n1, n2, n3, n4] 39 (0, 0)))
    (hone : ∀ u ∈ [n0, n1, n2, n3, n4], u.oneCell' = true) (hB : B ≤ w.heap.size) (hl : l ≤ 1000)
    (h : ∀ p' c' w', w'.ownsRow B 39 5 (.slice p' (l + 1) c') (l + 1) (xs ++ [n0, n1, n2, n3, n4]) → w.grownBy w' (Value.slice p l c).ownBlock → K (a.put o.dst (.slice p' (l + 1) c')) w') :
    if Region.wanted o (yielded ops a.tmps) = true then Oper.wp Try.prog o a w K Q else E := by
  have hw : Region.wanted o (yielded ops a.tmps) = true := by simp [Region.wanted, hgd]
  rw [if_pos hw]
  obtain ⟨i0, hi, hz0, hz1, hz2⟩ := info_parts info_val
  have hnews : ∀ j u, [n0, n1, n2, n3, n4][j]? = some u → w.cell? ((⟨b1, 0, none⟩ : Addr).add j) = some u := by
    intro j u hj
    rw [Addr.add_lit, Nat.zero_add, row_cell hrow j, List.getElem?_toArray]
    exact hj
  obtain ⟨v', w', hr, r2, r3, r4, r5⟩ := run_append_own_at (P := Try.prog) _ B 31 o.type 39 i0 _ 5 64 Try.underlying31 hi hz0 hz1 hz2 rfl (by decide) (.slice p l c) l xs hown ⟨b1, 0, none⟩ 1 1 _ rfl hnews hone (by unfold maxLen; omega) (by omega) hB
  have hpc : ∃ p' c', v' = .slice p' (l + 1) c' := by
    rcases r2.2 with ⟨rfl, hn⟩ | ⟨g, cap, cur, rfl, _⟩
    · exact absurd hn (by omega)
    · exact ⟨_, _, rfl⟩
  obtain ⟨p', c', rfl⟩ := hpc
  unfold Oper.wp execOp
  simp only [ho, resolve, invoke, builtin, Sem.run_bind, Sem.run_pure, Result.andThen_ok, List.map_toArray, List.map_cons, List.map_nil, hs, hx, hr]
  exact h p' c' w' r2 r3
end
set_option maxRecDepth 100000 in
set_option maxHeartbeats 8000000 in
theorem list_gp (w : World) (b c : Nat) (L : List Gp) (hr : ∀ i (h : i < L.length), w.cell? ⟨b, i * 4, none⟩ = some (.string L[i].n) ∧ w.cell? ⟨b, i * 4 + 1, none⟩ = some (.string L[i].c) ∧ w.cell? ⟨b, i * 4 + 2, none⟩ = some (.int .i64 L[i].s) ∧ w.cell? ⟨b, i * 4 + 3, none⟩ = some (.int .u32 L[i].v)) (hs : ∀ g ∈ L, 0 ≤ g.s ∧ g.s < 3) (hL : L.length ≤ 100) :
    Calls Try.prog 29 #[.slice (some ⟨b, 0, none⟩) L.length c] w fun e w' => ∃ p c', e = .returned (.agg #[.int .i64 4, .int .i64 0, .float .f64 0, .string ⟨#[]⟩, .slice p L.length c']) ∧ Below w.heap.size w w' := by
  obtain ⟨n, hn⟩ : ∃ n, L.length = n := ⟨_, rfl⟩
  obtain ⟨g0, hg0⟩ : ∃ g, w.heap.size = g := ⟨_, rfl⟩
  obtain ⟨w1, hw1⟩ : ∃ W, w.alloc (.cells #[.int .i64 0, .int .i64 0, .float .f64 0, .string ⟨#[]⟩, .slice none 0 0] 39) = W := ⟨_, rfl⟩
  have hR1 : w1.heap[g0]? = some (.cells #[.int .i64 0, .int .i64 0, .float .f64 0, .string ⟨#[]⟩, .slice none 0 0] 39 (0, 0)) := by rw [← hw1, ← hg0]; exact row_alloc w _ _
  have hb1 : Below w.heap.size w w1 := by rw [← hw1]; exact bel_alloc (Below.refl _ _) _
  have HR1 := Lib.hid hR1
  have HB1 := Lib.hid hb1
  have HR := Lib.hid hr
  have HS := Lib.hid hs
  have HN := Lib.hid hn
  have hn1 : n ≤ 100 := by omega
  have HO1 := Lib.hid (World.ownsRow_nil w1 w1.heap.size 39 5)
  rw [hn]
  clear hR1 hb1 hr hs hn hL
  go_enter Try.func29, Try.ntmps29
  go_wp2_with fail
  clear hw1
  go_loopw [3, 8] (fun v3 v8 wr => ∃ (i : Nat) (p : Option Addr) (cc : Nat) (xs : List Value), i ≤ n ∧ v8 = .int .i64 i ∧ v3 = .slice p i cc ∧ wr.ownsRow w1.heap.size 39 5 (.slice p i cc) i xs ∧ Below w1.heap.size w1 wr) (fun _ iv _ => n - (intOf iv).toNat)
  case atStart => exact ⟨0, none, 0, [], Nat.zero_le _, rfl, rfl, HO1.out, Below.refl _ _⟩
  case round =>
    obtain ⟨i, p, cc, ws, hin, rfl, rfl, hown, hb⟩ := hrel
    by_cases hlt : i < n
    · have hiL : i < L.length := by rw [HN.out]; exact hlt
      obtain ⟨x, hx⟩ : ∃ x, L[i] = x := ⟨_, rfl⟩
      have hc := HR.out i hiL
      have hs3 := HS.out L[i] (List.getElem_mem hiL)
      rw [hx] at hc hs3
      have hbw : Below w.heap.size w wr := Below.trans HB1.out (hb.mono HB1.out.size)
      obtain ⟨xn, xc, xs, xv⟩ := x
      obtain ⟨k, rfl⟩ : ∃ k : Nat, xs = (k : Int) := ⟨xs.toNat, by have := hs3.1; simp only at this; omega⟩
      have hk3 : k < 3 := by have := hs3.2; simp only at this; omega
      have c0 := cell_keep hbw hc.1
      have c1 := cell_keep hbw hc.2.1
      have c2 := cell_keep hbw hc.2.2.1
      have c3 := cell_keep hbw hc.2.2.2
      simp only at c0 c1 c2 c3
      have hblw : b < wr.heap.size := cell_lt c0
      have hiI : (i : Int) < (n : Int) := by omega
      have hi0 : (0 : Int) ≤ (i : Int) := by omega
      have hk0 : (0 : Int) ≤ (k : Int) := by omega
      have hkI : (k : Int) < 3 := by omega
      obtain ⟨ga, hga⟩ : ∃ g, wr.heap.size = g := ⟨_, rfl⟩
      obtain ⟨za, hza⟩ : ∃ W, wr.alloc (.cells #[.string ⟨#[]⟩, .string ⟨#[]⟩, .int .i64 0, .int .u32 0] 49) = W := ⟨_, rfl⟩
      have hVa : za.heap[ga]? = some (.cells #[.string ⟨#[]⟩, .string ⟨#[]⟩, .int .i64 0, .int .u32 0] 49 (0, 0)) := by rw [← hza, ← hga]; exact row_alloc wr _ _
      obtain ⟨ya, hya⟩ : ∃ y, setG4 za ga (.string xn) (.string xc) (.int .i64 (k : Int)) (.int .u32 xv) = y := ⟨_, rfl⟩
      have hbYa : Below wr.heap.size wr ya := by rw [← hya, hga]; exact setG4_below (by rw [← hza, ← hga]; exact (Below.refl _ _).alloc (Nat.le_refl _) _) (Nat.le_refl _) (.string xn) (.string xc) (.int .i64 (k : Int)) (.int .u32 xv)
      have hyVa : ya.heap[ga]? = some (.cells #[.string xn, .string xc, .int .i64 (k : Int), .int .u32 xv] 49 (0, 0)) := by rw [← hya]; exact setG4_at hVa (.string xn) (.string xc) (.int .i64 (k : Int)) (.int .u32 xv)
      have va0 := row_cell hVa 0; have va1 := row_cell hVa 1; have va2 := row_cell hVa 2; have va3 := row_cell hVa 3
      simp only [List.getElem?_toArray, List.getElem?_cons_zero, List.getElem?_cons_succ] at va0 va1 va2 va3
      have vfa := fun o => row_frz hVa o
      have HYa := Lib.hid (show ((((za.setCell ⟨ga, 0, none⟩ (.string xn)).setCell ⟨ga, 1, none⟩ (.string xc)).setCell ⟨ga, 2, none⟩ (.int .i64 (k : Int))).setCell ⟨ga, 3, none⟩ (.int .u32 xv)) = ya from hya)
      have HOY := Lib.hid (show ya.ownsRow w1.heap.size 39 5 (.slice p i cc) i ws from hown.kept (ggb_bel hbYa) (by cases hx : Value.ownBlock (.slice p i cc) with | none => exact Or.inl rfl | some z => exact Or.inr (by simp)))
      have HBY := Lib.hid (bel_step hb hbYa)
      have HYV := Lib.hid hyVa
      clear hVa hya hyVa hbYa hown hb hbw hc hs3 hx
      go_upto_region 5 with fail
      clear hza
      rw [HYa.out]
      clear va0 va1 va2 va3 vfa HYa c0 c1 c2 c3
      have HOX := Lib.hid (show ya.drew.ownsRow w1.heap.size 39 5 (.slice p i cc) i ws from HOY.out.drew)
      have HBX := Lib.hid (Below.drew HBY.out)
      have hv0 := row_step HYV.out (Below.drew (Below.refl _ _))
      have a0 := row_cell hv0 0; have a1 := row_cell hv0 1; have a2 := row_cell hv0 2; have a3 := row_cell hv0 3
      simp only [List.getElem?_toArray, List.getElem?_cons_zero, List.getElem?_cons_succ] at a0 a1 a2 a3
      refine wp_region_held_drew (S := (fun z => z.cell? ⟨ga, 0, none⟩ = some (.string xn) ∧ z.cell? ⟨ga, 1, none⟩ = some (.string xc) ∧ z.cell? ⟨ga, 2, none⟩ = some (.int .i64 (k : Int)) ∧ z.cell? ⟨ga, 3, none⟩ = some (.int .u32 xv))) (by kernel_rfl) ?_ (fun hHeld => ?_)
      · exact ⟨a0, a1, a2, a3⟩
      revert HOX HBX hv0 a0 a1 a2 a3 hHeld
      generalize ya.drew = X0
      intro HOX HBX hv0 a0 a1 a2 a3 hHeld
      refine wpAnyH_take (i := 0) (oi := ?_) (v := ?_) ?hiq0 (by kernel_rfl) ?hfq0 ?hrq0 ?hQq0 ?hyq0 (by assumption) ?restq0
      case hiq0 => (simp only [List.getElem?_toArray, List.getElem?_cons_zero, List.getElem?_cons_succ]; rfl)
      case hfq0 => kernel_rfl
      case hrq0 => kernel_rfl
      case hyq0 => (refine Or.inl ⟨by rfl, ?_⟩; intro wS hSw; (try dsimp only at hSw); go_simp; (try with_reducible rfl))
      case hQq0 => exact fun _ _ _ h => h
      (try simp only [Act.put, List.setIfInBounds_toArray, List.set_cons_zero, List.set_cons_succ])
      refine wpAnyH_take (i := 1) (oi := ?_) (v := ?_) ?hiq1 (by kernel_rfl) ?hfq1 ?hrq1 ?hQq1 ?hyq1 (by assumption) ?restq1
      case hiq1 => (simp only [List.getElem?_toArray, List.getElem?_cons_zero, List.getElem?_cons_succ]; rfl)
      case hfq1 => kernel_rfl
      case hrq1 => kernel_rfl
      case hyq1 => (refine Or.inl ⟨by rfl, ?_⟩; intro wS hSw; (try dsimp only at hSw); go_simp; (try with_reducible rfl))
      case hQq1 => exact fun _ _ _ h => h
      (try simp only [Act.put, List.setIfInBounds_toArray, List.set_cons_zero, List.set_cons_succ])
      refine wpAnyH_take (i := 2) (oi := ?_) (v := ?_) ?hiq2 (by kernel_rfl) ?hfq2 ?hrq2 ?hQq2 ?hyq2 (by assumption) ?restq2
      case hiq2 => (simp only [List.getElem?_toArray, List.getElem?_cons_zero, List.getElem?_cons_succ]; rfl)
      case hfq2 => kernel_rfl
      case hrq2 => kernel_rfl
      case hyq2 => (refine Or.inl ⟨by rfl, ?_⟩; intro wS hSw; (try dsimp only at hSw); go_simp; (try with_reducible rfl))
      case hQq2 => exact fun _ _ _ h => h
      (try simp only [Act.put, List.setIfInBounds_toArray, List.set_cons_zero, List.set_cons_succ])
      refine wpAnyH_take (i := 4) (oi := ?_) (v := ?_) ?hiq4 (by kernel_rfl) ?hfq4 ?hrq4 ?hQq4 ?hyq4 (by assumption) ?restq4
      case hiq4 => (simp only [List.getElem?_toArray, List.getElem?_cons_zero, List.getElem?_cons_succ]; rfl)
      case hfq4 => kernel_rfl
      case hrq4 => kernel_rfl
      case hyq4 => (refine Or.inl ⟨by rfl, ?_⟩; intro wS hSw; (try dsimp only at hSw); go_simp; (try with_reducible rfl))
      case hQq4 => exact fun _ _ _ h => h
      (try simp only [Act.put, List.setIfInBounds_toArray, List.set_cons_zero, List.set_cons_succ])
      refine wpAnyH_take (i := 5) (oi := ?_) (v := ?_) ?hiq5 (by kernel_rfl) ?hfq5 ?hrq5 ?hQq5 ?hyq5 (by assumption) ?restq5
      case hiq5 => (simp only [List.getElem?_toArray, List.getElem?_cons_zero, List.getElem?_cons_succ]; rfl)
      case hfq5 => kernel_rfl
      case hrq5 => kernel_rfl
      case hyq5 => (refine Or.inl ⟨by rfl, ?_⟩; intro wS hSw; (try dsimp only at hSw); go_simp; (try with_reducible rfl))
      case hQq5 => exact fun _ _ _ h => h
      (try simp only [Act.put, List.setIfInBounds_toArray, List.set_cons_zero, List.set_cons_succ])
      refine wpAnyH_take (i := 8) (oi := ?_) (v := ?_) ?hiq8 (by kernel_rfl) ?hfq8 ?hrq8 ?hQq8 ?hyq8 (by assumption) ?restq8
      case hiq8 => (simp only [List.getElem?_toArray, List.getElem?_cons_zero, List.getElem?_cons_succ]; rfl)
      case hfq8 => kernel_rfl
      case hrq8 => kernel_rfl
      case hyq8 => (refine Or.inl ⟨by rfl, ?_⟩; intro wS hSw; (try dsimp only at hSw); go_simp; (try with_reducible rfl))
      case hQq8 => exact fun _ _ _ h => h
      (try simp only [Act.put, List.setIfInBounds_toArray, List.set_cons_zero, List.set_cons_succ])
      refine wpAnyH_take (i := 9) (oi := ?_) (v := ?_) ?hiq9 (by kernel_rfl) ?hfq9 ?hrq9 ?hQq9 ?hyq9 (by assumption) ?restq9
      case hiq9 => (simp only [List.getElem?_toArray, List.getElem?_cons_zero, List.getElem?_cons_succ]; rfl)
      case hfq9 => kernel_rfl
      case hrq9 => kernel_rfl
      case hyq9 => (refine Or.inl ⟨by rfl, ?_⟩; intro wS hSw; (try dsimp only at hSw); go_simp; (try with_reducible rfl))
      case hQq9 => exact fun _ _ _ h => h
      (try simp only [Act.put, List.setIfInBounds_toArray, List.set_cons_zero, List.set_cons_succ])
      refine wpAnyH_take (i := 13) (oi := ?_) (v := ?_) ?hiq13 (by kernel_rfl) ?hfq13 ?hrq13 ?hQq13 ?hyq13 (by assumption) ?restq13
      case hiq13 => (simp only [List.getElem?_toArray, List.getElem?_cons_zero, List.getElem?_cons_succ]; rfl)
      case hfq13 => kernel_rfl
      case hrq13 => kernel_rfl
      case hyq13 => (refine Or.inl ⟨by rfl, ?_⟩; intro wS hSw; (try dsimp only at hSw); go_simp; (try with_reducible rfl))
      case hQq13 => exact fun _ _ _ h => h
      (try simp only [Act.put, List.setIfInBounds_toArray, List.set_cons_zero, List.set_cons_succ])
      refine wpAnyH_take (i := 14) (oi := ?_) (v := ?_) ?hiq14 (by kernel_rfl) ?hfq14 ?hrq14 ?hQq14 ?hyq14 (by assumption) ?restq14
      case hiq14 => (simp only [List.getElem?_toArray, List.getElem?_cons_zero, List.getElem?_cons_succ]; rfl)
      case hfq14 => kernel_rfl
      case hrq14 => kernel_rfl
      case hyq14 => (refine Or.inl ⟨by rfl, ?_⟩; intro wS hSw; (try dsimp only at hSw); go_simp; (try with_reducible rfl))
      case hQq14 => exact fun _ _ _ h => h
      (try simp only [Act.put, List.setIfInBounds_toArray, List.set_cons_zero, List.set_cons_succ])
      refine wpAnyH_take (i := 15) (oi := ?_) (v := ?_) ?hiq15 (by kernel_rfl) ?hfq15 ?hrq15 ?hQq15 ?hyq15 (by assumption) ?restq15
      case hiq15 => (simp only [List.getElem?_toArray, List.getElem?_cons_zero, List.getElem?_cons_succ]; rfl)
      case hfq15 => kernel_rfl
      case hrq15 => kernel_rfl
      case hyq15 => (refine Or.inl ⟨by rfl, ?_⟩; intro wS hSw; (try dsimp only at hSw); go_simp; (try with_reducible rfl))
      case hQq15 => exact fun _ _ _ h => h
      (try simp only [Act.put, List.setIfInBounds_toArray, List.set_cons_zero, List.set_cons_succ])
      refine wpAnyH_take (i := 16) (oi := ?_) (v := ?_) ?hiq16 (by kernel_rfl) ?hfq16 ?hrq16 ?hQq16 ?hyq16 (by assumption) ?restq16
      case hiq16 => (simp only [List.getElem?_toArray, List.getElem?_cons_zero, List.getElem?_cons_succ]; rfl)
      case hfq16 => kernel_rfl
      case hrq16 => kernel_rfl
      case hyq16 => (refine Or.inl ⟨by rfl, ?_⟩; intro wS hSw; (try dsimp only at hSw); go_simp; (try with_reducible rfl))
      case hQq16 => exact fun _ _ _ h => h
      (try simp only [Act.put, List.setIfInBounds_toArray, List.set_cons_zero, List.set_cons_succ])
      refine wpAnyH_ready (rs := [3]) (by kernel_rfl) (by simp) ?_
      refine AllReadyH.cons (o := ?_) ?hos3 ?hsts3 AllReadyH.nil
      case hos3 => (simp only [List.getElem?_toArray, List.getElem?_cons_zero, List.getElem?_cons_succ]; rfl)
      intro K hK
      go_simp
      go_at_call 52; refine (text_gp xn _).mono ?_; rintro e x1 ⟨rfl, hbA⟩; have HO1 := Lib.hid (show x1.ownsRow w1.heap.size 39 5 (.slice p i cc) i ws from HOX.out.kept (ggb_bel hbA) (by cases hx : Value.ownBlock (.slice p i cc) with | none => exact Or.inl rfl | some z => exact Or.inr (by simp))); have HB1 := Lib.hid (bel_step HBX.out hbA); have hv1 := row_step hv0 hbA; have b0 := row_cell hv1 0; have b1 := row_cell hv1 1; have b2 := row_cell hv1 2; have b3 := row_cell hv1 3; simp only [List.getElem?_toArray, List.getElem?_cons_zero, List.getElem?_cons_succ] at b0 b1 b2 b3
      go_wp2_with fail
      refine hK.out _ _ ?hss3 (fun hHeld => ?_)
      case hss3 => exact ⟨b0, b1, b2, b3⟩
      clear hK K
      (try simp only [Act.put, List.setIfInBounds_toArray, List.set_cons_zero, List.set_cons_succ])
      refine wpAnyH_ready (rs := [6]) (by kernel_rfl) (by simp) ?_
      refine AllReadyH.cons (o := ?_) ?hos6 ?hsts6 AllReadyH.nil
      case hos6 => (simp only [List.getElem?_toArray, List.getElem?_cons_zero, List.getElem?_cons_succ]; rfl)
      intro K hK
      go_simp
      go_at_call 52; refine (text_gp xc _).mono ?_; rintro e x2 ⟨rfl, hbB⟩; have HO2 := Lib.hid (show x2.ownsRow w1.heap.size 39 5 (.slice p i cc) i ws from HO1.out.kept (ggb_bel hbB) (by cases hx : Value.ownBlock (.slice p i cc) with | none => exact Or.inl rfl | some z => exact Or.inr (by simp))); have HB2 := Lib.hid (bel_step HB1.out hbB); have hv2 := row_step hv1 hbB; have d0 := row_cell hv2 0; have d1 := row_cell hv2 1; have d2 := row_cell hv2 2; have d3 := row_cell hv2 3; simp only [List.getElem?_toArray, List.getElem?_cons_zero, List.getElem?_cons_succ] at d0 d1 d2 d3
      go_wp2_with fail
      refine hK.out _ _ ?hss6 (fun hHeld => ?_)
      case hss6 => exact ⟨d0, d1, d2, d3⟩
      clear hK K
      (try simp only [Act.put, List.setIfInBounds_toArray, List.set_cons_zero, List.set_cons_succ])
      obtain ⟨m3, hm3⟩ : ∃ m, x2.heap.size = m := ⟨_, rfl⟩
      obtain ⟨x3, hx3⟩ : ∃ W, x2.alloc (.cells #[.string ⟨#[97, 99, 116, 105, 118, 101]⟩, .string ⟨#[119, 97, 114, 109]⟩, .string ⟨#[99, 111, 108, 100]⟩] 9) = W := ⟨_, rfl⟩
      have hr3 : x3.heap[m3]? = some (.cells #[.string ⟨#[97, 99, 116, 105, 118, 101]⟩, .string ⟨#[119, 97, 114, 109]⟩, .string ⟨#[99, 111, 108, 100]⟩] 9 (0, 0)) := by rw [← hx3, ← hm3]; exact row_alloc x2 _ _
      have hbC : Below x2.heap.size x2 x3 := by rw [← hx3]; exact bel_alloc (Below.refl _ _) _
      obtain ⟨sn, hsn⟩ : ∃ sn, x3.cell? ⟨m3, k, none⟩ = some (.string sn) := by
        have hlc := list_cells (T := styL) hr3 k hk3
        exact ⟨_, hlc⟩
      have HO3 := Lib.hid (show x3.ownsRow w1.heap.size 39 5 (.slice p i cc) i ws from HO2.out.kept (ggb_bel hbC) (by cases hx : Value.ownBlock (.slice p i cc) with | none => exact Or.inl rfl | some z => exact Or.inr (by simp)))
      have HB3 := Lib.hid (bel_step HB2.out hbC)
      have hv3 := row_step hv2 hbC
      have e0 := row_cell hv3 0
      have e1 := row_cell hv3 1
      have e2 := row_cell hv3 2
      have e3 := row_cell hv3 3
      simp only [List.getElem?_toArray, List.getElem?_cons_zero, List.getElem?_cons_succ] at e0 e1 e2 e3
      have hlm := row_lt hr3
      clear hr3 hbC
      refine wpAnyH_ready (rs := [7]) (by kernel_rfl) (by simp) ?_
      refine AllReadyH.cons (o := ?_) ?hos7 ?hsts7 AllReadyH.nil
      case hos7 => (simp only [List.getElem?_toArray, List.getElem?_cons_zero, List.getElem?_cons_succ]; rfl)
      intro K hK
      go_simp
      go_at_call 51; refine (styles_any _).mono ?_; rintro e xx ⟨rfl, rfl⟩
      go_wp2_with fail
      refine hK.out _ _ ?hss7 (fun hHeld => ?_)
      case hss7 => (first | (rw [hx3]; exact ⟨e0, e1, e2, e3⟩) | exact ⟨e0, e1, e2, e3⟩)
      clear hK K
      (try simp only [Act.put, List.setIfInBounds_toArray, List.set_cons_zero, List.set_cons_succ])
      (try rw [hx3])
      refine wpAnyH_take (i := 10) (oi := ?_) (v := ?_) ?hiq10 (by kernel_rfl) ?hfq10 ?hrq10 ?hQq10 ?hyq10 (by assumption) ?restq10
      case hiq10 => (simp only [List.getElem?_toArray, List.getElem?_cons_zero, List.getElem?_cons_succ]; rfl)
      case hfq10 => kernel_rfl
      case hrq10 => kernel_rfl
      case hyq10 => (refine Or.inl ⟨by rfl, ?_⟩; intro wS hSw; (try dsimp only at hSw); go_simp; (try with_reducible rfl))
      case hQq10 => exact fun _ _ _ h => h
      (try simp only [Act.put, List.setIfInBounds_toArray, List.set_cons_zero, List.set_cons_succ])
      refine wpAnyH_ready (rs := [11]) (by kernel_rfl) (by simp) ?_
      refine AllReadyH.cons (o := ?_) ?hos11 ?hsts11 AllReadyH.nil
      case hos11 => (simp only [List.getElem?_toArray, List.getElem?_cons_zero, List.getElem?_cons_succ]; rfl)
      intro K hK
      go_simp
      skip
      go_wp2_with fail
      refine hK.out _ _ ?hss11 (fun hHeld => ?_)
      case hss11 => exact ⟨e0, e1, e2, e3⟩
      clear hK K
      (try simp only [Act.put, List.setIfInBounds_toArray, List.set_cons_zero, List.set_cons_succ])
      refine wpAnyH_ready (rs := [12]) (by kernel_rfl) (by simp) ?_
      refine AllReadyH.cons (o := ?_) ?hos12 ?hsts12 AllReadyH.nil
      case hos12 => (simp only [List.getElem?_toArray, List.getElem?_cons_zero, List.getElem?_cons_succ]; rfl)
      intro K hK
      go_simp
      go_at_call 52; refine (text_gp sn _).mono ?_; rintro e x4 ⟨rfl, hbD⟩; have HO4 := Lib.hid (show x4.ownsRow w1.heap.size 39 5 (.slice p i cc) i ws from HO3.out.kept (ggb_bel hbD) (by cases hx : Value.ownBlock (.slice p i cc) with | none => exact Or.inl rfl | some z => exact Or.inr (by simp))); have HB4 := Lib.hid (bel_step HB3.out hbD); have hv4 := row_step hv3 hbD; have f0 := row_cell hv4 0; have f1 := row_cell hv4 1; have f2 := row_cell hv4 2; have f3 := row_cell hv4 3; simp only [List.getElem?_toArray, List.getElem?_cons_zero, List.getElem?_cons_succ] at f0 f1 f2 f3
      go_wp2_with fail
      refine hK.out _ _ ?hss12 (fun hHeld => ?_)
      case hss12 => exact ⟨f0, f1, f2, f3⟩
      clear hK K
      (try simp only [Act.put, List.setIfInBounds_toArray, List.set_cons_zero, List.set_cons_succ])
      obtain ⟨m5, hm5⟩ : ∃ m, x4.heap.size = m := ⟨_, rfl⟩
      obtain ⟨x5, hx5⟩ : ∃ W, x4.alloc (.cells #[.int .i64 3, .int .i64 0, .float .f64 0, .string xn, .slice none 0 0, .int .i64 3, .int .i64 0, .float .f64 0, .string xc, .slice none 0 0, .int .i64 3, .int .i64 0, .float .f64 0, .string sn, .slice none 0 0, .int .i64 1, .int .i64 (IntKind.i64.wrap xv), .float .f64 0, .string ⟨#[]⟩, .slice none 0 0] 39) = W := ⟨_, rfl⟩
      have hbE : Below x4.heap.size x4 x5 := by rw [← hx5]; exact bel_alloc (Below.refl _ _) _
      have HO5 := Lib.hid (show x5.ownsRow w1.heap.size 39 5 (.slice p i cc) i ws from HO4.out.kept (ggb_bel hbE) (by cases hx : Value.ownBlock (.slice p i cc) with | none => exact Or.inl rfl | some z => exact Or.inr (by simp)))
      have HB5 := Lib.hid (bel_step HB4.out hbE)
      have hv5 := row_step hv4 hbE
      have g0 := row_cell hv5 0
      have g1 := row_cell hv5 1
      have g2 := row_cell hv5 2
      have g3 := row_cell hv5 3
      simp only [List.getElem?_toArray, List.getElem?_cons_zero, List.getElem?_cons_succ] at g0 g1 g2 g3
      refine wpAnyH_ready (rs := [17]) (by kernel_rfl) (by simp) ?_
      refine AllReadyH.cons (o := ?_) ?hos17 ?hsts17 AllReadyH.nil
      case hos17 => (simp only [List.getElem?_toArray, List.getElem?_cons_zero, List.getElem?_cons_succ]; rfl)
      intro K hK
      go_simp
      skip
      go_wp2_with fail
      refine hK.out _ _ ?hss17 (fun hHeld => ?_)
      case hss17 => (first | (rw [hx5]; exact ⟨g0, g1, g2, g3⟩) | exact ⟨g0, g1, g2, g3⟩)
      clear hK K
      (try simp only [Act.put, List.setIfInBounds_toArray, List.set_cons_zero, List.set_cons_succ])
      (try rw [hx5])
      refine wpAnyH_take (i := 18) (oi := ?_) (v := ?_) ?hiq18 (by kernel_rfl) ?hfq18 ?hrq18 ?hQq18 ?hyq18 (by assumption) ?restq18
      case hiq18 => (simp only [List.getElem?_toArray, List.getElem?_cons_zero, List.getElem?_cons_succ]; rfl)
      case hfq18 => kernel_rfl
      case hrq18 => kernel_rfl
      case hyq18 => (refine Or.inl ⟨by rfl, ?_⟩; intro wS hSw; (try dsimp only at hSw); go_simp; (try with_reducible rfl))
      case hQq18 => exact fun _ _ _ h => h
      (try simp only [Act.put, List.setIfInBounds_toArray, List.set_cons_zero, List.set_cons_succ])
      obtain ⟨m6, hm6⟩ : ∃ m, x5.heap.size = m := ⟨_, rfl⟩
      obtain ⟨x6, hx6⟩ : ∃ W, x5.alloc (.cells #[.int .i64 4, .int .i64 0, .float .f64 0, .string ⟨#[]⟩, .slice (some ⟨m5, 0, none⟩) 4 4] 39) = W := ⟨_, rfl⟩
      have hbF : Below x5.heap.size x5 x6 := by rw [← hx6]; exact bel_alloc (Below.refl _ _) _
      have hr6 : x6.heap[m6]? = some (.cells #[.int .i64 4, .int .i64 0, .float .f64 0, .string ⟨#[]⟩, .slice (some ⟨m5, 0, none⟩) 4 4] 39 (0, 0)) := by rw [← hx6, ← hm6]; exact row_alloc x5 _ _
      have HO6 := Lib.hid (show x6.ownsRow w1.heap.size 39 5 (.slice p i cc) i ws from HO5.out.kept (ggb_bel hbF) (by cases hx : Value.ownBlock (.slice p i cc) with | none => exact Or.inl rfl | some z => exact Or.inr (by simp)))
      have HB6 := Lib.hid (bel_step HB5.out hbF)
      have hv6 := row_step hv5 hbF
      have h0 := row_cell hv6 0
      have h1 := row_cell hv6 1
      have h2 := row_cell hv6 2
      have h3 := row_cell hv6 3
      simp only [List.getElem?_toArray, List.getElem?_cons_zero, List.getElem?_cons_succ] at h0 h1 h2 h3
      refine wpAnyH_ready (rs := [19]) (by kernel_rfl) (by simp) ?_
      refine AllReadyH.cons (o := ?_) ?hos19 ?hsts19 AllReadyH.nil
      case hos19 => (simp only [List.getElem?_toArray, List.getElem?_cons_zero, List.getElem?_cons_succ]; rfl)
      intro K hK
      go_simp
      skip
      go_wp2_with fail
      refine hK.out _ _ ?hss19 (fun hHeld => ?_)
      case hss19 => (first | (rw [hx6]; exact ⟨h0, h1, h2, h3⟩) | exact ⟨h0, h1, h2, h3⟩)
      clear hK K
      (try simp only [Act.put, List.setIfInBounds_toArray, List.set_cons_zero, List.set_cons_succ])
      (try rw [hx6])
      refine wpAnyH_ready (rs := [20]) (by kernel_rfl) (by simp) ?_
      refine AllReadyH.cons (o := ?_) ?hos20 ?hsts20 AllReadyH.nil
      case hos20 => (simp only [List.getElem?_toArray, List.getElem?_cons_zero, List.getElem?_cons_succ]; rfl)
      intro K hK
      skip
      refine step_ownV rfl (.tmp 12) (.tmp 31) rfl w1.heap.size x6 p i cc m6 ws _ _ _ _ _ rfl rfl HO6.out hr6 (by intro u hu; simp only [List.mem_cons, List.not_mem_nil, or_false] at hu; rcases hu with rfl | rfl | rfl | rfl | rfl <;> rfl) HB6.out.size (by omega) ?_; intro p9 c9 x7 ho9 hg9; have hv7 := (hg9.block ga (row_lt hv6) (gown_no HO6.out hv6 (by decide))).trans hv6; have j0 := row_cell hv7 0; have j1 := row_cell hv7 1; have j2 := row_cell hv7 2; have j3 := row_cell hv7 3; simp only [List.getElem?_toArray, List.getElem?_cons_zero, List.getElem?_cons_succ] at j0 j1 j2 j3; have HO9 := Lib.hid ho9; have HB9 := Lib.hid (show Below w1.heap.size w1 x7 from Below.grown HB6.out hg9 HB6.out.size (fun k hk => (HO6.out.lt k hk).1)); clear ho9 hg9
      go_wp2_with fail
      refine hK.out _ _ ?hss20 (fun hHeld => ?_)
      case hss20 => exact ⟨j0, j1, j2, j3⟩
      clear hK K
      (try simp only [Act.put, List.setIfInBounds_toArray, List.set_cons_zero, List.set_cons_succ])
      refine wpAnyH_take (i := 21) (oi := ?_) (v := ?_) ?hiq21 (by kernel_rfl) ?hfq21 ?hrq21 ?hQq21 ?hyq21 (by assumption) ?restq21
      case hiq21 => (simp only [List.getElem?_toArray, List.getElem?_cons_zero, List.getElem?_cons_succ]; rfl)
      case hfq21 => kernel_rfl
      case hrq21 => kernel_rfl
      case hyq21 => (refine Or.inl ⟨by rfl, ?_⟩; intro wS hSw; (try dsimp only at hSw); go_simp; (try with_reducible rfl))
      case hQq21 => exact fun _ _ _ h => h
      (try simp only [Act.put, List.setIfInBounds_toArray, List.set_cons_zero, List.set_cons_succ])
      refine wpAnyH_done (by kernel_rfl) ?_ _
      go_wp2
      go_roundw
      case rel => exact ⟨i + 1, p9, c9, _, by omega, by go_num, rfl, HO9.out, HB9.out⟩
      case measure => simp [intOf]; omega
    · obtain rfl : i = n := by omega
      have hiI : ¬ ((i : Int) < (i : Int)) := by omega
      have HB := Lib.hid hb
      have hr := row_step HR1.out hb
      have r0 := row_cell hr 0; have r1 := row_cell hr 1; have r2 := row_cell hr 2; have r3 := row_cell hr 3; have r4 := row_cell hr 4
      simp only [List.getElem?_toArray, List.getElem?_cons_zero, List.getElem?_cons_succ] at r0 r1 r2 r3 r4
      have rf := fun o => row_frz hr o
      have hlr := row_lt hr
      clear hb hown hr
      go_wp2
      refine bodyPost_ret (v := .agg #[.int .i64 4, .int .i64 0, .float .f64 0, .string ⟨#[]⟩, .slice p i cc]) (by simp [results, Try.results29, go_sem, World.cell?_setCell_same, World.cell?_setCell_other, r0, r1, r2, r3, r4]) rfl ⟨⟨p, cc, rfl⟩, ?_⟩
      refine setV_below (B := g0) ?_ (Nat.le_refl _) (.int .i64 4) (.int .i64 0) (.float .f64 0) (.string ⟨#[]⟩) (.slice p i cc)
      have hfin := Below.trans HB1.out (HB.out.mono HB1.out.size)
      rwa [hg0] at hfin
end Num
end Go.Proofs.Ytbfnghbfilahnaa
