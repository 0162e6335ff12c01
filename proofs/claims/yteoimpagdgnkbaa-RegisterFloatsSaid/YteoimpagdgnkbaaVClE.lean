/-
  The comparison of package value: lists against lists.
-/
import Derived.Test.YteoimpagdgnkbaaVCvE
import Derived.Deep.RegionWith
import Derived.RegionTactic
namespace Go.Proofs.Yteoimpagdgnkbaa
open Go.RowKit
namespace Num
open Ints
set_option linter.unusedSimpArgs false
set_option linter.unusedVariables false
theorem look_pair (a b : Addr) (n : Int) (w : World) : (Instr.lookup 105 (.map none) (.agg #[.pointer (some a), .pointer (some b), .int .i64 n]) true).run Try.prog w = .ok (.tuple #[.agg #[], .bool false]) w := by kernel_rfl
theorem comp_keep (a b : Addr) (n : Int) (w : World) (cb fn : Nat) (vis : Int) (hat : CpAt w cb fn vis) (hv : vis ≤ 1000) : Calls Try.prog 100 #[.pointer (some ⟨cb, 0, none⟩), .agg #[.pointer (some a), .pointer (some b), .int .i64 n]] w fun e w' => e = .returned (.tuple #[]) ∧ Below w.heap.size w w' := by
  have c0 : w.cell? ⟨cb, 1, none⟩ = some (.int .i64 vis) := row_cell hat 1
  have hlt := row_lt hat
  have hne : cb ≠ w.heap.size := by omega
  clear hat
  go_enter Try.func100, Try.ntmps100
  go_wp2
  refine bodyPost_ret (results_none rfl _ _ _) rfl ?_
  exact ⟨rfl, (Below.refl _ _).alloc (Nat.le_refl _) _⟩
def CpItems (fn : Nat) (fc : Nat → Nat → Int) (n : Nat) : Prop := ∀ (L1 L2 : List (VT n)) (p1 p2 : Option Addr) (l c1 c2 : Nat) (x y : Addr) (m : Nat) (lev vis : Int) (w0 w : World) (cb : Nat), RepL w0 (Rep w0 n) p1 l c1 L1 → RepL w0 (Rep w0 n) p2 l c2 L2 → Below w0.heap.size w0 w → w0.heap.size ≤ cb → CpAt w cb fn vis → (∀ x ∈ L1, deepT n x m = false) → 0 ≤ lev → lev + m ≤ 64 → 0 ≤ vis → vis + (L1.foldl (fun a x => a + partsT n x) 0 : Nat) ≤ 1000 →
  Calls Try.prog 99 #[.pointer (some ⟨cb, 0, none⟩), .agg #[.pointer (some x), .pointer (some y), .int .i64 l], .slice p1 l c1, .slice p2 l c2, .int .i64 lev] w fun e w' => e = .returned (.int .i64 (itemsC (cmpT fc n) L1 L2)) ∧ Cp w w' cb fn vis (L1.foldl (fun a x => a + partsT n x) 0)
/-- What the walk through items keeps. -/
def Its (w wr : World) (cb fn : Nat) (vis vis' : Int) (k : Nat) (x y : Addr) (l : Nat) : Prop :=
  w.grownBy wr (some cb) ∧ CpAt wr cb fn vis' ∧ vis ≤ vis' ∧ vis' ≤ vis + k ∧ wr.heap[w.heap.size]? = some (.cells #[.pointer (some x), .pointer (some y), .int .i64 l] 126 (0, 0))
theorem its_bel {w wr w1 : World} {cb fn : Nat} {vis vis' : Int} {k : Nat} {x y : Addr} {l : Nat} (h : Its w wr cb fn vis vis' k x y l) (hb : Below wr.heap.size wr w1) : Its w w1 cb fn vis vis' k x y l := by
  obtain ⟨h1, h2, h3, h4, h5⟩ := h
  exact ⟨h1.trans (bel_grown hb _), row_step h2 hb, h3, h4, row_step h5 hb⟩
theorem its_cp {w wr w1 : World} {cb fn : Nat} {vis vis' : Int} {k j : Nat} {x y : Addr} {l : Nat} (h : Its w wr cb fn vis vis' k x y l) (hs : cb < w.heap.size) (hb : Cp wr w1 cb fn vis' j) : ∃ vis2, Its w w1 cb fn vis vis2 (k + j) x y l := by
  obtain ⟨h1, h2, h3, h4, h5⟩ := h
  obtain ⟨g, vis2, a1, a2, a3⟩ := hb
  exact ⟨vis2, h1.trans g, a3, by omega, by omega, row_grown h5 g (by simp; omega)⟩
theorem items_step {α : Type} (c : α → α → Int) (L1 L2 : List α) (k : Nat) (h1 : k < L1.length) (h2 : k < L2.length) : itemsC c (L1.drop k) (L2.drop k) = if (c L1[k] L2[k] != 0) = true then c L1[k] L2[k] else itemsC c (L1.drop (k + 1)) (L2.drop (k + 1)) := by
  rw [List.drop_eq_getElem_cons h1, List.drop_eq_getElem_cons h2, itemsC]
theorem items_end {α : Type} (c : α → α → Int) (L1 L2 : List α) (k : Nat) (h1 : L1.length ≤ k) : itemsC c (L1.drop k) (L2.drop k) = 0 := by
  rw [List.drop_eq_nil_of_le h1, itemsC]
  intro x xs y ys h _; cases h
theorem items_take {α : Type} (c : α → α → Int) : ∀ (L1 L2 : List α) (k : Nat), k = min L1.length L2.length → itemsC c (L1.take k) (L2.take k) = itemsC c L1 L2 := by
  intro L1
  induction L1 with
  | nil => intro L2 k hk; simp at hk; subst hk; simp [itemsC]
  | cons x xs ih =>
    intro L2 k hk
    cases L2 with
    | nil => simp at hk; subst hk; simp [itemsC]
    | cons y ys =>
      simp only [List.length_cons] at hk
      obtain ⟨j, rfl⟩ : ∃ j, k = j + 1 := ⟨k - 1, by omega⟩
      rw [List.take_succ_cons, List.take_succ_cons, itemsC, itemsC, ih ys j (by omega)]
theorem fold_take {n : Nat} (L : List (VT n)) (k : Nat) : (L.take k).foldl (fun a x => a + partsT n x) 0 ≤ L.foldl (fun a x => a + partsT n x) 0 := by
  conv => rhs; rw [← List.take_append_drop k L, List.foldl_append]
  exact foldl_parts _ _
theorem repL_take {α : Type} {w : World} {R : Value → α → Prop} {p : Option Addr} {l c k : Nat} {L : List α} (h : RepL w R p l c L) (hk : k ≤ l) : RepL w R p k c (L.take k) := by
  obtain ⟨h1, h2, h3, h4⟩ := h
  refine ⟨by rw [List.length_take]; omega, by omega, h3, fun hk0 => ?_⟩
  obtain ⟨b, off, hp, hi⟩ := h4 (by omega)
  refine ⟨b, off, hp, fun i hi' => ?_⟩
  have hlt : i < L.length := by rw [List.length_take] at hi'; omega
  obtain ⟨v0, v1, v2, v3, v4, c0, c1, c2, c3, c4, hr⟩ := hi i hlt
  exact ⟨v0, v1, v2, v3, v4, c0, c1, c2, c3, c4, by rw [List.getElem_take]; exact hr⟩
set_option maxRecDepth 100000 in
set_option maxHeartbeats 4000000 in
theorem cp_items_ofE (n : Nat) (hv : CpValues 85 cmpF n) : CpItems 85 cmpF n := by
  intro L1 L2 p1 p2 l c1 c2 x y m lev vis w0 w cb hr1 hr2 hB hs hat hd hlev hlm hv0 hvp
  obtain ⟨hl1, hlc1, hcm1, hel1⟩ := hr1
  obtain ⟨hl2, hlc2, hcm2, hel2⟩ := hr2
  unfold maxLen at hcm1 hcm2
  have g2 : w.cell? ⟨cb, 2, none⟩ = some (.map none) := row_cell hat 2
  have hlt := row_lt hat
  have hne : cb ≠ w.heap.size := by omega
  have lt1 : cb < w.heap.size + 1 := by omega
  have ne1 : cb ≠ w.heap.size + 1 := by omega
  have HAT := Lib.hid hat
  have HB := Lib.hid hB
  have HP := Lib.hid hvp
  have HD := Lib.hid hd
  have HLV := Lib.hid hv
  have HL1 := Lib.hid hl1
  have HL2 := Lib.hid hl2
  have HE1 := Lib.hid hel1
  have HE2 := Lib.hid hel2
  clear hat hB hvp hd hv hl1 hl2 hel1 hel2
  have lk := look_pair
  have RK := Lib.hid (row_alloc w #[.pointer (some x), .pointer (some y), .int .i64 l] 126)
  go_enter Try.func99, Try.ntmps99
  go_wp2
  go_region
  go_wp2
  go_loopw [27] (fun i wr => ∃ (k : Nat) (vis' : Int), k ≤ l ∧ i = .int .i64 k ∧ Hid (itemsC (cmpT cmpF n) (L1.drop k) (L2.drop k) = itemsC (cmpT cmpF n) L1 L2) ∧ Hid (Its w wr cb 85 vis vis' ((L1.take k).foldl (fun a x => a + partsT n x) 0) x y l)) (fun i _ => l - (intOf i).toNat)
  case atStart =>
    refine ⟨0, vis, by omega, rfl, Lib.hid rfl, Lib.hid ⟨grown_drew ((World.grownBy_alloc _ _ _).trans (World.grownBy_alloc _ _ _)), ?_, by omega, by omega, ?_⟩⟩
    · exact row_alloc_step (row_alloc_step HAT.out _) _
    · exact row_alloc_step RK.out _
  case round =>
    obtain ⟨k, vis', hk, rfl, HQ, HIT⟩ := hrel
    clear RK g2
    by_cases hlt2 : k < l
    · obtain ⟨b1, off1, hp1, hi1⟩ := HE1.out (by omega)
      obtain ⟨b2, off2, hp2, hi2⟩ := HE2.out (by omega)
      subst hp1
      subst hp2
      have hk1 : k < L1.length := by have := HL1.out; omega
      have hk2 : k < L2.length := by have := HL2.out; omega
      obtain ⟨v0, v1, v2, v3, v4, d0, d1, d2, d3, d4, hr1⟩ := hi1 k hk1
      obtain ⟨u0, u1, u2, u3, u4, t0, t1, t2, t3, t4, hr2⟩ := hi2 k hk2
      obtain ⟨X1, J1, G1, Z1, pp1, ll1, cc1, he1, _⟩ := rep_shape hr1
      simp only [Value.agg.injEq, Array.mk.injEq, List.cons.injEq, and_true] at he1
      obtain ⟨rfl, rfl, rfl, rfl, rfl⟩ := he1
      obtain ⟨X2, J2, G2, Z2, pp2, ll2, cc2, he2, _⟩ := rep_shape hr2
      simp only [Value.agg.injEq, Array.mk.injEq, List.cons.injEq, and_true] at he2
      obtain ⟨rfl, rfl, rfl, rfl, rfl⟩ := he2
      have HBW := Lib.hid (Below.grown HB.out HIT.out.1 HB.out.size (fun k hk => by cases hk; exact hs))
      have HR1 := Lib.hid hr1
      have HR2 := Lib.hid hr2
      have HDK := Lib.hid (HD.out L1[k] (List.getElem_mem hk1))
      have hvv : 0 ≤ vis' := by have := HIT.out.2.2.1; omega
      have HPK := Lib.hid (show vis' + partsT n L1[k] ≤ 1000 by
        have h1 := HIT.out.2.2.2.1
        have h2 := parts_prefix L1 k hk1 0
        have h3 := HP.out
        omega)
      have HPT := Lib.hid (show (L1.take k).foldl (fun a x => a + partsT n x) 0 + partsT n L1[k] = (L1.take (k + 1)).foldl (fun a x => a + partsT n x) 0 by rw [List.take_succ_eq_append_getElem hk1, List.foldl_append]; rfl)
      have HST := Lib.hid (items_step (cmpT cmpF n) L1 L2 k hk1 hk2)
      have HBD := Lib.hid (bel_drew HBW.out)
      have HCD := Lib.hid (show CpAt wr.drew cb 85 vis' from HIT.out.2.1)
      clear hr1 hr2 hi1 hi2
      go_wp2
      refine wp_region_held_drew (S := fun w' => Below w0.heap.size w0 w') (by kernel_rfl) ?_ (fun hHeld => ?_)
      · exact HBD.out
      refine wpAnyH_take (i := 0) (oi := ?_) (v := ?_) ?hic0 (by kernel_rfl) ?hfc0 ?hrc0 ?hQc0 ?hyc0 (by assumption) ?restc0
      case hic0 => (simp only [List.getElem?_toArray, List.getElem?_cons_zero, List.getElem?_cons_succ]; rfl)
      case hfc0 => kernel_rfl
      case hrc0 => kernel_rfl
      case hyc0 => (refine Or.inl ⟨by rfl, ?_⟩; intro w hSw; (try dsimp only at hSw); go_simp; (try with_reducible rfl))
      case hQc0 => exact fun _ _ _ h => h
      (try simp only [Act.put, List.setIfInBounds_toArray, List.set_cons_zero, List.set_cons_succ])
      refine wpAnyH_take (i := 1) (oi := ?_) (v := ?_) ?hic1 (by kernel_rfl) ?hfc1 ?hrc1 ?hQc1 ?hyc1 (by assumption) ?restc1
      case hic1 => (simp only [List.getElem?_toArray, List.getElem?_cons_zero, List.getElem?_cons_succ]; rfl)
      case hfc1 => kernel_rfl
      case hrc1 => kernel_rfl
      case hyc1 => (refine Or.inl ⟨by rfl, ?_⟩; intro w hSw; (try dsimp only at hSw); go_simp; (try with_reducible rfl))
      case hQc1 => exact fun _ _ _ h => h
      (try simp only [Act.put, List.setIfInBounds_toArray, List.set_cons_zero, List.set_cons_succ])
      refine wpAnyH_take (i := 2) (oi := ?_) (v := ?_) ?hic2 (by kernel_rfl) ?hfc2 ?hrc2 ?hQc2 ?hyc2 (by assumption) ?restc2
      case hic2 => (simp only [List.getElem?_toArray, List.getElem?_cons_zero, List.getElem?_cons_succ]; rfl)
      case hfc2 => kernel_rfl
      case hrc2 => kernel_rfl
      case hyc2 => (refine Or.inl ⟨by rfl, ?_⟩; intro w hSw; (try dsimp only at hSw); go_simp; (try with_reducible rfl))
      case hQc2 => exact fun _ _ _ h => h
      (try simp only [Act.put, List.setIfInBounds_toArray, List.set_cons_zero, List.set_cons_succ])
      refine wpAnyH_take (i := 3) (oi := ?_) (v := ?_) ?hic3 (by kernel_rfl) ?hfc3 ?hrc3 ?hQc3 ?hyc3 (by assumption) ?restc3
      case hic3 => (simp only [List.getElem?_toArray, List.getElem?_cons_zero, List.getElem?_cons_succ]; rfl)
      case hfc3 => kernel_rfl
      case hrc3 => kernel_rfl
      case hyc3 => (refine Or.inl ⟨by rfl, ?_⟩; intro w hSw; (try dsimp only at hSw); go_simp; (try with_reducible rfl))
      case hQc3 => exact fun _ _ _ h => h
      (try simp only [Act.put, List.setIfInBounds_toArray, List.set_cons_zero, List.set_cons_succ])
      refine wpAnyH_take (i := 4) (oi := ?_) (v := ?_) ?hic4 (by kernel_rfl) ?hfc4 ?hrc4 ?hQc4 ?hyc4 (by assumption) ?restc4
      case hic4 => (simp only [List.getElem?_toArray, List.getElem?_cons_zero, List.getElem?_cons_succ]; rfl)
      case hfc4 => kernel_rfl
      case hrc4 => kernel_rfl
      case hyc4 => (refine Or.inl ⟨by rfl, ?_⟩; intro w hSw; (try dsimp only at hSw); have c0 := cell_keep hSw d0; have c1 := cell_keep hSw d1; have c2 := cell_keep hSw d2; have c3 := cell_keep hSw d3; have c4 := cell_keep hSw d4; go_simp; (try with_reducible rfl))
      case hQc4 => exact fun _ _ _ h => h
      (try simp only [Act.put, List.setIfInBounds_toArray, List.set_cons_zero, List.set_cons_succ])
      refine wpAnyH_take (i := 5) (oi := ?_) (v := ?_) ?hic5 (by kernel_rfl) ?hfc5 ?hrc5 ?hQc5 ?hyc5 (by assumption) ?restc5
      case hic5 => (simp only [List.getElem?_toArray, List.getElem?_cons_zero, List.getElem?_cons_succ]; rfl)
      case hfc5 => kernel_rfl
      case hrc5 => kernel_rfl
      case hyc5 => (refine Or.inl ⟨by rfl, ?_⟩; intro w hSw; (try dsimp only at hSw); go_simp; (try with_reducible rfl))
      case hQc5 => exact fun _ _ _ h => h
      (try simp only [Act.put, List.setIfInBounds_toArray, List.set_cons_zero, List.set_cons_succ])
      refine wpAnyH_take (i := 6) (oi := ?_) (v := ?_) ?hic6 (by kernel_rfl) ?hfc6 ?hrc6 ?hQc6 ?hyc6 (by assumption) ?restc6
      case hic6 => (simp only [List.getElem?_toArray, List.getElem?_cons_zero, List.getElem?_cons_succ]; rfl)
      case hfc6 => kernel_rfl
      case hrc6 => kernel_rfl
      case hyc6 => (refine Or.inl ⟨by rfl, ?_⟩; intro w hSw; (try dsimp only at hSw); go_simp; (try with_reducible rfl))
      case hQc6 => exact fun _ _ _ h => h
      (try simp only [Act.put, List.setIfInBounds_toArray, List.set_cons_zero, List.set_cons_succ])
      refine wpAnyH_take (i := 7) (oi := ?_) (v := ?_) ?hic7 (by kernel_rfl) ?hfc7 ?hrc7 ?hQc7 ?hyc7 (by assumption) ?restc7
      case hic7 => (simp only [List.getElem?_toArray, List.getElem?_cons_zero, List.getElem?_cons_succ]; rfl)
      case hfc7 => kernel_rfl
      case hrc7 => kernel_rfl
      case hyc7 => (refine Or.inl ⟨by rfl, ?_⟩; intro w hSw; (try dsimp only at hSw); go_simp; (try with_reducible rfl))
      case hQc7 => exact fun _ _ _ h => h
      (try simp only [Act.put, List.setIfInBounds_toArray, List.set_cons_zero, List.set_cons_succ])
      refine wpAnyH_take (i := 8) (oi := ?_) (v := ?_) ?hic8 (by kernel_rfl) ?hfc8 ?hrc8 ?hQc8 ?hyc8 (by assumption) ?restc8
      case hic8 => (simp only [List.getElem?_toArray, List.getElem?_cons_zero, List.getElem?_cons_succ]; rfl)
      case hfc8 => kernel_rfl
      case hrc8 => kernel_rfl
      case hyc8 => (refine Or.inl ⟨by rfl, ?_⟩; intro w hSw; (try dsimp only at hSw); have c0 := cell_keep hSw t0; have c1 := cell_keep hSw t1; have c2 := cell_keep hSw t2; have c3 := cell_keep hSw t3; have c4 := cell_keep hSw t4; go_simp; (try with_reducible rfl))
      case hQc8 => exact fun _ _ _ h => h
      (try simp only [Act.put, List.setIfInBounds_toArray, List.set_cons_zero, List.set_cons_succ])
      refine wpAnyH_take (i := 9) (oi := ?_) (v := ?_) ?hic9 (by kernel_rfl) ?hfc9 ?hrc9 ?hQc9 ?hyc9 (by assumption) ?restc9
      case hic9 => (simp only [List.getElem?_toArray, List.getElem?_cons_zero, List.getElem?_cons_succ]; rfl)
      case hfc9 => kernel_rfl
      case hrc9 => kernel_rfl
      case hyc9 => (refine Or.inl ⟨by rfl, ?_⟩; intro w hSw; (try dsimp only at hSw); go_simp; (try with_reducible rfl))
      case hQc9 => exact fun _ _ _ h => h
      (try simp only [Act.put, List.setIfInBounds_toArray, List.set_cons_zero, List.set_cons_succ])
      refine wpAnyH_ready (rs := [10]) (by kernel_rfl) (by simp) ?_
      refine AllReadyH.cons (o := ?_) ?hoc10 ?hstc10 AllReadyH.nil
      case hoc10 => (simp only [List.getElem?_toArray, List.getElem?_cons_zero, List.getElem?_cons_succ]; rfl)
      intro K hK
      go_simp
      go_at_call 86; refine (HLV.out L1[k] L2[k] _ _ m lev vis' w0 _ cb HR1.out HR2.out HBD.out hs HCD.out HDK.out hlev hlm hvv HPK.out).mono ?_; rintro e w1 ⟨rfl, hcp⟩; have hS1 := Below.grown HBD.out hcp.1 HBD.out.size (fun k hk => by cases hk; exact hs); obtain ⟨vis2, hi2⟩ := its_cp (its_bel HIT.out (bel_drew (Below.refl _ _))) hlt hcp; have HI2 := Lib.hid hi2; clear hcp hi2
      go_wp2_with fail
      refine hK.out _ _ ?hsc10 (fun hHeld => ?_)
      case hsc10 => exact hS1
      clear hK K
      (try simp only [Act.put, List.setIfInBounds_toArray, List.set_cons_zero, List.set_cons_succ])
      refine wpAnyH_take (i := 11) (oi := ?_) (v := ?_) ?hic11 (by kernel_rfl) ?hfc11 ?hrc11 ?hQc11 ?hyc11 (by assumption) ?restc11
      case hic11 => (simp only [List.getElem?_toArray, List.getElem?_cons_zero, List.getElem?_cons_succ]; rfl)
      case hfc11 => kernel_rfl
      case hrc11 => kernel_rfl
      case hyc11 => (refine Or.inl ⟨by rfl, ?_⟩; intro w hSw; (try dsimp only at hSw); go_simp; (try with_reducible rfl))
      case hQc11 => exact fun _ _ _ h => h
      (try simp only [Act.put, List.setIfInBounds_toArray, List.set_cons_zero, List.set_cons_succ])
      refine wpAnyH_done (by kernel_rfl) ?_ _
      have rk := row_cell HI2.out.2.2.2.2 0
      have rk1 := row_cell HI2.out.2.2.2.2 1
      have rk2 := row_cell HI2.out.2.2.2.2 2
      simp only [List.getElem?_toArray, List.getElem?_cons_zero, List.getElem?_cons_succ] at rk rk1 rk2
      clear d0 d1 d2 d3 d4 t0 t1 t2 t3 t4
      cases hz : (cmpT cmpF n L1[k] L2[k] != 0)
      · have HN := Lib.hid (show itemsC (cmpT cmpF n) (L1.drop (k + 1)) (L2.drop (k + 1)) = itemsC (cmpT cmpF n) L1 L2 by
          have h1 := HST.out
          rw [hz] at h1
          rw [← HQ.out, h1]; rfl)
        go_wp2
        go_roundw
        case rel => exact ⟨k + 1, vis2, by omega, by go_num, Lib.hid HN.out, Lib.hid (by rw [← HPT.out]; exact HI2.out)⟩
        case measure => simp [intOf]; omega
      · have HN := Lib.hid (show Ending.returned (.int .i64 (cmpT cmpF n L1[k] L2[k])) = .returned (.int .i64 (itemsC (cmpT cmpF n) L1 L2)) by
          have h1 := HST.out
          rw [hz] at h1
          rw [← HQ.out, h1]; rfl)
        have HFT := Lib.hid (fold_take L1 (k + 1))
        go_wp2
        go_ret
        refine ⟨HN.out, HI2.out.1, vis2, HI2.out.2.2.1, ?_, HI2.out.2.1⟩
        have h1 := HI2.out.2.2.2.1
        have h2 := HPT.out
        have h3 := HFT.out
        omega
    · have HN := Lib.hid (show Ending.returned (.int .i64 0) = .returned (.int .i64 (itemsC (cmpT cmpF n) L1 L2)) by
        rw [← HQ.out, items_end _ _ _ _ (by have := HL1.out; omega)])
      have hrk := HIT.out.2.2.2.2
      have rk := row_cell hrk 0
      have rk1 := row_cell hrk 1
      have rk2 := row_cell hrk 2
      simp only [List.getElem?_toArray, List.getElem?_cons_zero, List.getElem?_cons_succ] at rk rk1 rk2
      have HFT := Lib.hid (fold_take L1 k)
      have hv1000 : vis' ≤ 1000 := by
        have h1 := HIT.out.2.2.2.1
        have h2 := HP.out
        have h3 := HFT.out
        omega
      clear hrk
      go_wp2_with fail
      go_at_call 100; refine (comp_keep _ _ _ _ _ _ _ HIT.out.2.1 hv1000).mono ?_; rintro e w1 ⟨rfl, hb⟩
      have HI1 := Lib.hid (its_bel HIT.out hb)
      clear hb rk rk1 rk2
      go_wp2
      go_ret
      refine ⟨HN.out, HI1.out.1, vis', HI1.out.2.2.1, ?_, HI1.out.2.1⟩
      have h1 := HI1.out.2.2.2.1
      have h3 := HFT.out
      omega
set_option maxRecDepth 100000 in
set_option maxHeartbeats 4000000 in
theorem cp_lists_ofE (n : Nat) (hi : CpItems 85 cmpF n) : CpLists 85 cmpF n := by
  intro L1 L2 p1 l1 c1 p2 l2 c2 m lev vis w0 w cb hr1 hr2 hB hs hat hd hlev hlm hv0 hvp
  have HR1 := Lib.hid hr1
  have HR2 := Lib.hid hr2
  obtain ⟨hl1, hlc1, hcm1, hel1⟩ := hr1
  obtain ⟨hl2, hlc2, hcm2, hel2⟩ := hr2
  unfold maxLen at hcm1 hcm2
  have HAT := Lib.hid hat
  have HB := Lib.hid hB
  have HP := Lib.hid hvp
  have HD := Lib.hid hd
  have HI := Lib.hid hi
  have HL1 := Lib.hid hl1
  have HL2 := Lib.hid hl2
  have HE1 := Lib.hid hel1
  have HE2 := Lib.hid hel2
  clear hat hB hvp hd hi hl1 hl2 hel1 hel2
  have hlev' : ¬ (64 < lev) := by omega
  by_cases hle : l1 ≤ l2
  · by_cases h0 : 0 < l1
    · obtain ⟨b1, off1, hp1, _⟩ := HE1.out (by omega)
      obtain ⟨b2, off2, hp2, _⟩ := HE2.out (by omega)
      subst hp1
      subst hp2
      have h0o : 0 < l2 := by omega
      have hcc : (l1 : Int) ≤ (l2 : Int) := by omega
      have HT1 := Lib.hid (repL_take (k := l1) HR1.out (by omega))
      have HT2 := Lib.hid (repL_take (k := l1) HR2.out (by omega))
      have HDT := Lib.hid (show ∀ x ∈ L1.take l1, deepT n x m = false from fun x hx => HD.out x (List.mem_of_mem_take hx))
      have HPT := Lib.hid (fold_take L1 l1)
      have HPP := Lib.hid (show vis + ((L1.take l1).foldl (fun a x => a + partsT n x) 0 : Nat) ≤ 1000 by
        have h1 := HP.out
        have h2 := HPT.out
        omega)
      have HIT := Lib.hid (items_take (cmpT cmpF n) L1 L2 l1 (by rw [HL1.out, HL2.out]; omega))
      have HBD := Lib.hid (bel_drew HB.out)
      have HCD := Lib.hid (show CpAt w.drew cb 85 vis from HAT.out)
      have cpe : ∀ w1, Cp w.drew w1 cb 85 vis ((L1.take l1).foldl (fun a x => a + partsT n x) 0) → Cp w w1 cb 85 vis (L1.foldl (fun a x => a + partsT n x) 0) := by
        intro w1 h
        obtain ⟨hg, vis', a, b, c⟩ := h
        have h2 := HPT.out
        exact ⟨⟨hg.os, hg.tape, hg.output, hg.size, hg.block⟩, vis', a, by omega, c⟩
      have CPE := Lib.hid cpe
      clear cpe
      go_enter Try.func93, Try.ntmps93
      go_wp2
      go_region_with (first
        | (go_at_call 99; refine (HI.out (L1.take l1) (L2.take l1) _ _ l1 c1 c2 _ _ m lev vis w0 _ cb HT1.out HT2.out HBD.out hs HCD.out HDT.out hlev hlm hv0 HPP.out).mono ?_; rintro e w1 ⟨rfl, hcp⟩; have HCP := Lib.hid (CPE.out _ hcp); clear hcp))
      rw [HIT.out]
      cases hz : (itemsC (cmpT cmpF n) L1 L2 != 0)
      · have HX := Lib.hid (show Ending.returned (.int .i64 (cmpI l1 l2)) = .returned (.int .i64 (listC (cmpT cmpF n) L1 L2)) by simp only [listC, hz, HL1.out, HL2.out]; rfl)
        go_wp2_with (go_at_call 89; refine (cmp_int_any _ _ _).mono ?_; rintro e w4 ⟨rfl, rfl⟩)
        go_ret
        exact ⟨HX.out, HCP.out⟩
      · have HX := Lib.hid (show Ending.returned (.int .i64 (itemsC (cmpT cmpF n) L1 L2)) = .returned (.int .i64 (listC (cmpT cmpF n) L1 L2)) by simp only [listC, hz]; rfl)
        go_wp2
        go_ret
        exact ⟨HX.out, HCP.out⟩
    · have e0 : l1 = 0 := by omega
      have HX := Lib.hid (show Ending.returned (.int .i64 (cmpI l1 l2)) = .returned (.int .i64 (listC (cmpT cmpF n) L1 L2)) by
        have hz : itemsC (cmpT cmpF n) L1 L2 = 0 := by
          rw [← items_take (cmpT cmpF n) L1 L2 0 (by rw [HL1.out, HL2.out]; omega)]
          rfl
        simp only [listC, hz, HL1.out, HL2.out]; rfl)
      have HCP := Lib.hid (show Cp w w cb 85 vis (L1.foldl (fun a x => a + partsT n x) 0) from ⟨World.grownBy.refl _ _, vis, by omega, by omega, HAT.out⟩)
      subst e0
      go_enter Try.func93, Try.ntmps93
      go_wp2_with (go_at_call 89; refine (cmp_int_any _ _ _).mono ?_; rintro e w4 ⟨rfl, rfl⟩)
      go_ret
      exact ⟨HX.out, HCP.out⟩
  · have hge : l2 < l1 := by omega
    have hge2 : ¬ ((l1 : Int) ≤ (l2 : Int)) := by omega
    by_cases h0 : 0 < l2
    · obtain ⟨b1, off1, hp1, _⟩ := HE1.out (by omega)
      obtain ⟨b2, off2, hp2, _⟩ := HE2.out (by omega)
      subst hp1
      subst hp2
      have h0o : 0 < l1 := by omega
      have hcc : (l2 : Int) < (l1 : Int) := by omega
      have HT1 := Lib.hid (repL_take (k := l2) HR1.out (by omega))
      have HT2 := Lib.hid (repL_take (k := l2) HR2.out (by omega))
      have HDT := Lib.hid (show ∀ x ∈ L1.take l2, deepT n x m = false from fun x hx => HD.out x (List.mem_of_mem_take hx))
      have HPT := Lib.hid (fold_take L1 l2)
      have HPP := Lib.hid (show vis + ((L1.take l2).foldl (fun a x => a + partsT n x) 0 : Nat) ≤ 1000 by
        have h1 := HP.out
        have h2 := HPT.out
        omega)
      have HIT := Lib.hid (items_take (cmpT cmpF n) L1 L2 l2 (by rw [HL1.out, HL2.out]; omega))
      have HBD := Lib.hid (bel_drew HB.out)
      have HCD := Lib.hid (show CpAt w.drew cb 85 vis from HAT.out)
      have cpe : ∀ w1, Cp w.drew w1 cb 85 vis ((L1.take l2).foldl (fun a x => a + partsT n x) 0) → Cp w w1 cb 85 vis (L1.foldl (fun a x => a + partsT n x) 0) := by
        intro w1 h
        obtain ⟨hg, vis', a, b, c⟩ := h
        have h2 := HPT.out
        exact ⟨⟨hg.os, hg.tape, hg.output, hg.size, hg.block⟩, vis', a, by omega, c⟩
      have CPE := Lib.hid cpe
      clear cpe
      go_enter Try.func93, Try.ntmps93
      go_wp2
      go_region_with (first
        | (go_at_call 99; refine (HI.out (L1.take l2) (L2.take l2) _ _ l2 c1 c2 _ _ m lev vis w0 _ cb HT1.out HT2.out HBD.out hs HCD.out HDT.out hlev hlm hv0 HPP.out).mono ?_; rintro e w1 ⟨rfl, hcp⟩; have HCP := Lib.hid (CPE.out _ hcp); clear hcp))
      rw [HIT.out]
      cases hz : (itemsC (cmpT cmpF n) L1 L2 != 0)
      · have HX := Lib.hid (show Ending.returned (.int .i64 (cmpI l1 l2)) = .returned (.int .i64 (listC (cmpT cmpF n) L1 L2)) by simp only [listC, hz, HL1.out, HL2.out]; rfl)
        go_wp2_with (go_at_call 89; refine (cmp_int_any _ _ _).mono ?_; rintro e w4 ⟨rfl, rfl⟩)
        go_ret
        exact ⟨HX.out, HCP.out⟩
      · have HX := Lib.hid (show Ending.returned (.int .i64 (itemsC (cmpT cmpF n) L1 L2)) = .returned (.int .i64 (listC (cmpT cmpF n) L1 L2)) by simp only [listC, hz]; rfl)
        go_wp2
        go_ret
        exact ⟨HX.out, HCP.out⟩
    · have e0 : l2 = 0 := by omega
      have HX := Lib.hid (show Ending.returned (.int .i64 (cmpI l1 l2)) = .returned (.int .i64 (listC (cmpT cmpF n) L1 L2)) by
        have hz : itemsC (cmpT cmpF n) L1 L2 = 0 := by
          rw [← items_take (cmpT cmpF n) L1 L2 0 (by rw [HL1.out, HL2.out]; omega)]
          rfl
        simp only [listC, hz, HL1.out, HL2.out]; rfl)
      have HCP := Lib.hid (show Cp w w cb 85 vis (L1.foldl (fun a x => a + partsT n x) 0) from ⟨World.grownBy.refl _ _, vis, by omega, by omega, HAT.out⟩)
      subst e0
      go_enter Try.func93, Try.ntmps93
      go_wp2_with (go_at_call 89; refine (cmp_int_any _ _ _).mono ?_; rintro e w4 ⟨rfl, rfl⟩)
      go_ret
      exact ⟨HX.out, HCP.out⟩
theorem cp_allE : ∀ n, CpValues 85 cmpF n ∧ CpLists 85 cmpF n := by
  have z : CpValues 85 cmpF 0 := fun A B a b m lev vis w0 w cb h => h.elim
  intro n
  induction n with
  | zero => exact ⟨z, cp_lists_ofE 0 (cp_items_ofE 0 z)⟩
  | succ n ih => exact ⟨cp_values_succE n ih.2, cp_lists_ofE (n + 1) (cp_items_ofE (n + 1) (cp_values_succE n ih.2))⟩
theorem bel_cp {w w1 : World} {cb fn : Nat} {vis : Int} {k : Nat} {W : World} (h : Below w.heap.size w W) (hs : w.heap.size ≤ cb) (hv : Cp W w1 cb fn vis k) : Below w.heap.size w w1 :=
  Below.grown h hv.1 h.size (fun k hk => by cases hk; exact hs)
end Num
end Go.Proofs.Yteoimpagdgnkbaa
