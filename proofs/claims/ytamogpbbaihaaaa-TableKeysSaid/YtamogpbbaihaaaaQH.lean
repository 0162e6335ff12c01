/-
  Package table: put.
-/
import Derived.Test.YtamogpbbaihaaaaQG
import Derived.Deep.RegionHeld3
import Derived.RegionTactic
import Derived.Deep.DeepCutAuto
namespace Go.Proofs.Ytamogpbbaihaaaa
open Go.RowKit
namespace Num
open Ints
set_option linter.unusedSimpArgs false
set_option linter.unusedVariables false
theorem pa_set3 {p : Option Addr} {l c : Nat} {k : ByteArray} {q : Option Addr} {d : Nat} {K3 I3 : Int} {F3 : Nat} {S3 : ByteArray} {q3 : Option Addr} {m3 d3 : Nat} {x0 x1 x2 x3 x4 y0 y1 y2 y3 y4 : Value} {w x : World} (h : PA p l c k q d K3 I3 F3 S3 q3 m3 d3 x0 x1 x2 x3 x4 y0 y1 y2 y3 y4 w x) (u0 u1 u2 u3 u4 : Value) : PA p l c k q d K3 I3 F3 S3 q3 m3 d3 u0 u1 u2 u3 u4 y0 y1 y2 y3 y4 w (set5 x (w.heap.size + 1 + 1 + 1) 0 u0 u1 u2 u3 u4) := by
  have e : ∀ c i, c ≠ w.heap.size + 1 + 1 + 1 → (set5 x (w.heap.size + 1 + 1 + 1) 0 u0 u1 u2 u3 u4).cell? ⟨c, i, none⟩ = x.cell? ⟨c, i, none⟩ := fun c i hc => World.cell?_of_block (set5_other hc)
  have hs := set5_same (g := w.heap.size + 1 + 1 + 1) (o := 0) u0 u1 u2 u3 u4 h.2.2.2.2.2.2.2.2.2.2.2.1 h.2.2.2.2.2.2.2.2.2.2.2.2.1 h.2.2.2.2.2.2.2.2.2.2.2.2.2.1 h.2.2.2.2.2.2.2.2.2.2.2.2.2.2.1 h.2.2.2.2.2.2.2.2.2.2.2.2.2.2.2.1
  unfold PA at h ⊢
  obtain ⟨g0, g1, g2, g3, g4, g5, g6, g7, g8, g9, g10, g11, g12, g13, g14, g15, g16, g17, g18, g19, g20, g21, g22, g23⟩ := h
  refine ⟨(e _ _ (by omega)).trans g0, (e _ _ (by omega)).trans g1, (e _ _ (by omega)).trans g2, (e _ _ (by omega)).trans g3, (e _ _ (by omega)).trans g4, (e _ _ (by omega)).trans g5, (e _ _ (by omega)).trans g6, (e _ _ (by omega)).trans g7, (e _ _ (by omega)).trans g8, (e _ _ (by omega)).trans g9, (e _ _ (by omega)).trans g10, hs.1, hs.2.1, hs.2.2.1, hs.2.2.2.1, hs.2.2.2.2, (e _ _ (by omega)).trans g16, (e _ _ (by omega)).trans g17, (e _ _ (by omega)).trans g18, (e _ _ (by omega)).trans g19, (e _ _ (by omega)).trans g20, set5_below g21 (by omega) _ _ _ _ _, fun o => ?_, fun o => ?_⟩
  all_goals (unfold set5; simp only [World.frozen?_setCell]; first | exact g22 o | exact g23 o)
theorem pa_set4 {p : Option Addr} {l c : Nat} {k : ByteArray} {q : Option Addr} {d : Nat} {K3 I3 : Int} {F3 : Nat} {S3 : ByteArray} {q3 : Option Addr} {m3 d3 : Nat} {x0 x1 x2 x3 x4 y0 y1 y2 y3 y4 : Value} {w x : World} (h : PA p l c k q d K3 I3 F3 S3 q3 m3 d3 x0 x1 x2 x3 x4 y0 y1 y2 y3 y4 w x) (u0 u1 u2 u3 u4 : Value) : PA p l c k q d K3 I3 F3 S3 q3 m3 d3 x0 x1 x2 x3 x4 u0 u1 u2 u3 u4 w (set5 x (w.heap.size + 1 + 1 + 1 + 1) 0 u0 u1 u2 u3 u4) := by
  have e : ∀ c i, c ≠ w.heap.size + 1 + 1 + 1 + 1 → (set5 x (w.heap.size + 1 + 1 + 1 + 1) 0 u0 u1 u2 u3 u4).cell? ⟨c, i, none⟩ = x.cell? ⟨c, i, none⟩ := fun c i hc => World.cell?_of_block (set5_other hc)
  have hs := set5_same (g := w.heap.size + 1 + 1 + 1 + 1) (o := 0) u0 u1 u2 u3 u4 h.2.2.2.2.2.2.2.2.2.2.2.2.2.2.2.2.1 h.2.2.2.2.2.2.2.2.2.2.2.2.2.2.2.2.2.1 h.2.2.2.2.2.2.2.2.2.2.2.2.2.2.2.2.2.2.1 h.2.2.2.2.2.2.2.2.2.2.2.2.2.2.2.2.2.2.2.1 h.2.2.2.2.2.2.2.2.2.2.2.2.2.2.2.2.2.2.2.2.1
  unfold PA at h ⊢
  obtain ⟨g0, g1, g2, g3, g4, g5, g6, g7, g8, g9, g10, g11, g12, g13, g14, g15, g16, g17, g18, g19, g20, g21, g22, g23⟩ := h
  refine ⟨(e _ _ (by omega)).trans g0, (e _ _ (by omega)).trans g1, (e _ _ (by omega)).trans g2, (e _ _ (by omega)).trans g3, (e _ _ (by omega)).trans g4, (e _ _ (by omega)).trans g5, (e _ _ (by omega)).trans g6, (e _ _ (by omega)).trans g7, (e _ _ (by omega)).trans g8, (e _ _ (by omega)).trans g9, (e _ _ (by omega)).trans g10, (e _ _ (by omega)).trans g11, (e _ _ (by omega)).trans g12, (e _ _ (by omega)).trans g13, (e _ _ (by omega)).trans g14, (e _ _ (by omega)).trans g15, hs.1, hs.2.1, hs.2.2.1, hs.2.2.2.1, hs.2.2.2.2, set5_below g21 (by omega) _ _ _ _ _, fun o => ?_, fun o => ?_⟩
  all_goals (unfold set5; simp only [World.frozen?_setCell]; first | exact g22 o | exact g23 o)
set_option maxRecDepth 100000 in
set_option maxHeartbeats 4000000 in
theorem tput_ok (n : Nat) (p : Option Addr) (l c : Nat) (k : ByteArray) (q : Option Addr) (d : Nat) (K3 I3 : Int) (F3 : Nat) (S3 : ByteArray) (q3 : Option Addr) (m3 d3 : Nat) (a bh : Nat) (L : List (VT (n + 2))) (V H : VT (n + 1)) (T : VT (n + 3)) (q9 : Option Addr) (w0 w : World) (HBW : Hid (Below w0.heap.size w0 w)) (hl : l ≤ 32) (hab : a ≤ bh) (hbl : bh ≤ l) (hlc : l ≤ c) (hroom : a = bh → l ≠ 32)
    (HL : Hid (RepL w0 (Rep w0 (n + 2)) p l c L)) (HK : Hid (Rep w0 (n + 1) (.agg #[.int .i64 3, .int .i64 0, .float .f64 0, .string k, .slice q 0 d]) (3, 0, 0, k, []))) (HV : Hid (Rep w0 (n + 1) (.agg #[.int .i64 K3, .int .i64 I3, .float .f64 F3, .string S3, .slice q3 m3 d3]) V))
    (HF : Hid (∀ W, Below w.heap.size w W → Calls Try.prog 52 #[.slice p l c, .string k] W fun e w' => e = .returned (.tuple #[.int .i64 a, .int .i64 bh]) ∧ Below W.heap.size W w'))
    (HH : Hid (∀ W, Below w.heap.size w W → Calls Try.prog 53 #[.slice q9 (bh - a) (c - a)] W fun e w' => ∃ u, e = .returned u ∧ Below W.heap.size W w' ∧ Rep w0 (n + 1) u H))
    (hq9 : (if c = a then p else p.map (·.add (a * 5))) = q9) (hT : T = (4, 0, 0, ⟨#[]⟩, L.take a ++ ([pairT n k V] ++ L.drop bh))) (HC : Hid (checkM (measT (n + 3) T) = 0 ∧ deepT (n + 3) T 64 = false ∧ partsT (n + 3) T ≤ 1000)) :
    Calls Try.prog 50 #[.agg #[.int .i64 4, .int .i64 0, .float .f64 0, .string ⟨#[]⟩, .slice p l c], .agg #[.int .i64 3, .int .i64 0, .float .f64 0, .string k, .slice q 0 d], .agg #[.int .i64 K3, .int .i64 I3, .float .f64 F3, .string S3, .slice q3 m3 d3]] w fun e w' => ∃ t u, e = .returned (.tuple #[t, u, .int .i64 0]) ∧ Below w.heap.size w w' ∧ (∀ y, Below w0.heap.size w0 y → Stay w.heap.size w' y → Rep y (n + 3) t T) ∧ Rep w0 (n + 1) u H := by
  obtain ⟨oa, hoa⟩ : ∃ o, Obj.cells #[.int .i64 4, .int .i64 0, .float .f64 0, .string ⟨#[]⟩, .slice p l c] 27 = o := ⟨_, rfl⟩
  obtain ⟨ob, hob⟩ : ∃ o, Obj.cells #[.int .i64 3, .int .i64 0, .float .f64 0, .string k, .slice q 0 d] 27 = o := ⟨_, rfl⟩
  obtain ⟨oc, hoc⟩ : ∃ o, Obj.cells #[.int .i64 K3, .int .i64 I3, .float .f64 F3, .string S3, .slice q3 m3 d3] 27 = o := ⟨_, rfl⟩
  obtain ⟨oz, hoz⟩ : ∃ o, Obj.cells #[.int .i64 0, .int .i64 0, .float .f64 0, .string ⟨#[]⟩, .slice none 0 0] 27 = o := ⟨_, rfl⟩
  have hB : Below w.heap.size w (((((w.alloc oa).alloc ob).alloc oc).alloc oz).alloc oz) := bel_alloc (bel_alloc (bel_alloc (bel_alloc (bel_alloc (Below.refl w.heap.size w) oa) ob) oc) oz) oz
  have r0 := row_alloc_step (row_alloc_step (row_alloc_step (row_alloc_step (row_alloc w #[.int .i64 4, .int .i64 0, .float .f64 0, .string ⟨#[]⟩, .slice p l c] 27) ob) oc) oz) oz
  rw [hoa] at r0
  have r1 := row_alloc_step (row_alloc_step (row_alloc_step (row_alloc (w.alloc oa) #[.int .i64 3, .int .i64 0, .float .f64 0, .string k, .slice q 0 d] 27) oc) oz) oz
  rw [hob] at r1
  have r2 := row_alloc_step (row_alloc_step (row_alloc ((w.alloc oa).alloc ob) #[.int .i64 K3, .int .i64 I3, .float .f64 F3, .string S3, .slice q3 m3 d3] 27) oz) oz
  rw [hoc] at r2
  have r3 := row_alloc_step (row_alloc (((w.alloc oa).alloc ob).alloc oc) #[.int .i64 0, .int .i64 0, .float .f64 0, .string ⟨#[]⟩, .slice none 0 0] 27) oz
  rw [hoz] at r3
  have r4 := row_alloc ((((w.alloc oa).alloc ob).alloc oc).alloc oz) #[.int .i64 0, .int .i64 0, .float .f64 0, .string ⟨#[]⟩, .slice none 0 0] 27
  rw [hoz] at r4
  simp only [World.size_alloc] at r0 r1 r2 r3 r4
  have HB := Lib.hid hB
  have HT := Lib.hid hT
  subst hoa hob hoc hoz
  have HP0 := Lib.hid (show PA p l c k q d K3 I3 F3 S3 q3 m3 d3 (.int .i64 0) (.int .i64 0) (.float .f64 0) (.string ⟨#[]⟩) (.slice none 0 0) (.int .i64 0) (.int .i64 0) (.float .f64 0) (.string ⟨#[]⟩) (.slice none 0 0) w (((((w.alloc (.cells #[.int .i64 4, .int .i64 0, .float .f64 0, .string ⟨#[]⟩, .slice p l c] 27)).alloc (.cells #[.int .i64 3, .int .i64 0, .float .f64 0, .string k, .slice q 0 d] 27)).alloc (.cells #[.int .i64 K3, .int .i64 I3, .float .f64 F3, .string S3, .slice q3 m3 d3] 27)).alloc (.cells #[.int .i64 0, .int .i64 0, .float .f64 0, .string ⟨#[]⟩, .slice none 0 0] 27)).alloc (.cells #[.int .i64 0, .int .i64 0, .float .f64 0, .string ⟨#[]⟩, .slice none 0 0] 27)) from ⟨row_cell r0 4, row_cell r1 0, row_cell r1 1, row_cell r1 2, row_cell r1 3, row_cell r1 4, row_cell r2 0, row_cell r2 1, row_cell r2 2, row_cell r2 3, row_cell r2 4, row_cell r3 0, row_cell r3 1, row_cell r3 2, row_cell r3 3, row_cell r3 4, row_cell r4 0, row_cell r4 1, row_cell r4 2, row_cell r4 3, row_cell r4 4, hB, fun o => row_frz r3 o, fun o => row_frz r4 o⟩)
  clear r0 r1 r2 r3 r4 hB hT
  have ha0 : (0 : Int) ≤ (a : Int) := by omega
  have hab2 : (a : Int) ≤ (bh : Int) := by omega
  have hbc : (bh : Int) ≤ (c : Int) := by omega
  by_cases hx : a = bh
  · have hl32 : ((l : Int) == 32) = false := by rw [beq_eq_false_iff_ne]; have := hroom hx; omega
    have hxx : ((a : Int) == (bh : Int)) = true := by rw [beq_iff_eq]; omega
    have HX := Lib.hid hx
    clear hroom hx
    go_enter Try.func50, Try.ntmps50
    go_wp2_with fail
    go_at_call 52; refine (HF.out _ HB.out).mono ?_; rintro e w1 ⟨rfl, hb1⟩
    have HB1 := Lib.hid (bel_step HB.out hb1)
    have hp1 := pa_step HP0.out hb1
    have HP1 := Lib.hid hp1
    have s4 := hp1.1
    clear hb1 HB HP0 HF hp1
    go_upto_region 4 with fail
    have hp := HP1.out
    have hz1 : w.heap.size + 1 + 1 + 1 + 1 < w1.heap.size := cell_lt hp.2.2.2.2.2.2.2.2.2.2.2.2.2.2.2.2.1
    have l0 := cell_lt hp.1; have l1 := cell_lt hp.2.1; have l2 := cell_lt hp.2.2.2.2.2.2.1
    clear hp
    refine wp_region_held_drew (S := (fun z => z.cell? ⟨w.heap.size, 4, none⟩ = some (.slice p l c) ∧ z.cell? ⟨w.heap.size + 1, 0, none⟩ = some (.int .i64 3) ∧ z.cell? ⟨w.heap.size + 1, 1, none⟩ = some (.int .i64 0) ∧ z.cell? ⟨w.heap.size + 1, 2, none⟩ = some (.float .f64 0) ∧ z.cell? ⟨w.heap.size + 1, 3, none⟩ = some (.string k) ∧ z.cell? ⟨w.heap.size + 1, 4, none⟩ = some (.slice q 0 d) ∧ z.cell? ⟨w.heap.size + 1 + 1, 0, none⟩ = some (.int .i64 K3) ∧ z.cell? ⟨w.heap.size + 1 + 1, 1, none⟩ = some (.int .i64 I3) ∧ z.cell? ⟨w.heap.size + 1 + 1, 2, none⟩ = some (.float .f64 F3) ∧ z.cell? ⟨w.heap.size + 1 + 1, 3, none⟩ = some (.string S3) ∧ z.cell? ⟨w.heap.size + 1 + 1, 4, none⟩ = some (.slice q3 m3 d3))) (by kernel_rfl) ?_ (fun hHeld => ?_)
    · exact pa_pc (pa_drew HP1.out)
    refine wpAnyH_take (i := 0) (oi := ?_) (v := ?_) ?hia0 (by kernel_rfl) ?hfa0 ?hra0 ?hQa0 ?hya0 (by assumption) ?resta0
    case hia0 => (simp only [List.getElem?_toArray, List.getElem?_cons_zero, List.getElem?_cons_succ]; rfl)
    case hfa0 => kernel_rfl
    case hra0 => kernel_rfl
    case hya0 => (refine Or.inl ⟨by rfl, ?_⟩; intro wS hSw; (try dsimp only at hSw); go_simp; (try with_reducible rfl))
    case hQa0 => exact fun _ _ _ h => h
    (try simp only [Act.put, List.setIfInBounds_toArray, List.set_cons_zero, List.set_cons_succ])
    refine wpAnyH_take (i := 1) (oi := ?_) (v := ?_) ?hia1 (by kernel_rfl) ?hfa1 ?hra1 ?hQa1 ?hya1 (by assumption) ?resta1
    case hia1 => (simp only [List.getElem?_toArray, List.getElem?_cons_zero, List.getElem?_cons_succ]; rfl)
    case hfa1 => kernel_rfl
    case hra1 => kernel_rfl
    case hya1 => (refine Or.inl ⟨by rfl, ?_⟩; intro wS hSw; (try dsimp only at hSw); go_simp; (try with_reducible rfl))
    case hQa1 => exact fun _ _ _ h => h
    (try simp only [Act.put, List.setIfInBounds_toArray, List.set_cons_zero, List.set_cons_succ])
    refine wpAnyH_take (i := 2) (oi := ?_) (v := ?_) ?hia2 (by kernel_rfl) ?hfa2 ?hra2 ?hQa2 ?hya2 (by assumption) ?resta2
    case hia2 => (simp only [List.getElem?_toArray, List.getElem?_cons_zero, List.getElem?_cons_succ]; rfl)
    case hfa2 => kernel_rfl
    case hra2 => kernel_rfl
    case hya2 => (refine Or.inl ⟨by rfl, ?_⟩; intro wS hSw; (try dsimp only at hSw); go_simp; (try with_reducible rfl))
    case hQa2 => exact fun _ _ _ h => h
    (try simp only [Act.put, List.setIfInBounds_toArray, List.set_cons_zero, List.set_cons_succ])
    refine wpAnyH_take (i := 3) (oi := ?_) (v := ?_) ?hia3 (by kernel_rfl) ?hfa3 ?hra3 ?hQa3 ?hya3 (by assumption) ?resta3
    case hia3 => (simp only [List.getElem?_toArray, List.getElem?_cons_zero, List.getElem?_cons_succ]; rfl)
    case hfa3 => kernel_rfl
    case hra3 => kernel_rfl
    case hya3 => (refine Or.inl ⟨by rfl, ?_⟩; intro wS hSw; (try dsimp only at hSw); go_simp; (try with_reducible rfl))
    case hQa3 => exact fun _ _ _ h => h
    (try simp only [Act.put, List.setIfInBounds_toArray, List.set_cons_zero, List.set_cons_succ])
    refine wpAnyH_take (i := 4) (oi := ?_) (v := ?_) ?hia4 (by kernel_rfl) ?hfa4 ?hra4 ?hQa4 ?hya4 (by assumption) ?resta4
    case hia4 => (simp only [List.getElem?_toArray, List.getElem?_cons_zero, List.getElem?_cons_succ]; rfl)
    case hfa4 => kernel_rfl
    case hra4 => kernel_rfl
    case hya4 => (refine Or.inl ⟨by rfl, ?_⟩; intro wS hSw; (try dsimp only at hSw); go_simp; (try with_reducible rfl))
    case hQa4 => exact fun _ _ _ h => h
    (try simp only [Act.put, List.setIfInBounds_toArray, List.set_cons_zero, List.set_cons_succ])
    refine wpAnyH_take (i := 5) (oi := ?_) (v := ?_) ?hia5 (by kernel_rfl) ?hfa5 ?hra5 ?hQa5 ?hya5 (by assumption) ?resta5
    case hia5 => (simp only [List.getElem?_toArray, List.getElem?_cons_zero, List.getElem?_cons_succ]; rfl)
    case hfa5 => kernel_rfl
    case hra5 => kernel_rfl
    case hya5 => (refine Or.inl ⟨by rfl, ?_⟩; intro wS hSw; (try dsimp only at hSw); go_simp; (try with_reducible rfl))
    case hQa5 => exact fun _ _ _ h => h
    (try simp only [Act.put, List.setIfInBounds_toArray, List.set_cons_zero, List.set_cons_succ])
    refine wpAnyH_ready (rs := [6]) (by kernel_rfl) (by simp) ?_
    refine AllReadyH.cons (o := ?_) ?hoa6 ?hsta6 AllReadyH.nil
    case hoa6 => (simp only [List.getElem?_toArray, List.getElem?_cons_zero, List.getElem?_cons_succ]; rfl)
    intro K hK
    go_simp
    have hq1 : PA p l c k q d K3 I3 F3 S3 q3 m3 d3 (.int .i64 0) (.int .i64 0) (.float .f64 0) (.string ⟨#[]⟩) (.slice none 0 0) (.int .i64 0) (.int .i64 0) (.float .f64 0) (.string ⟨#[]⟩) (.slice none 0 0) w _ := pa_step (show PA p l c k q d K3 I3 F3 S3 q3 m3 d3 (.int .i64 0) (.int .i64 0) (.float .f64 0) (.string ⟨#[]⟩) (.slice none 0 0) (.int .i64 0) (.int .i64 0) (.float .f64 0) (.string ⟨#[]⟩) (.slice none 0 0) w w1.drew from pa_drew HP1.out) (bel_alloc (Below.refl _ _) (.cells #[.int .i64 3, .int .i64 0, .float .f64 0, .string k, .slice q 0 d, .int .i64 K3, .int .i64 I3, .float .f64 F3, .string S3, .slice q3 m3 d3] 27)); have hrow := row_alloc w1.drew #[.int .i64 3, .int .i64 0, .float .f64 0, .string k, .slice q 0 d, .int .i64 K3, .int .i64 I3, .float .f64 F3, .string S3, .slice q3 m3 d3] 27; have hbz := bel_alloc (Below.refl w1.drew.heap.size w1.drew) (.cells #[.int .i64 3, .int .i64 0, .float .f64 0, .string k, .slice q 0 d, .int .i64 K3, .int .i64 I3, .float .f64 F3, .string S3, .slice q3 m3 d3] 27)
    go_wp2_with fail
    refine hK.out _ _ ?hsa6 (fun hHeld => ?_)
    case hsa6 => exact pa_pc hq1
    clear hK K
    (try simp only [Act.put, List.setIfInBounds_toArray, List.set_cons_zero, List.set_cons_succ])
    refine wpAnyH_ready (rs := [7]) (by kernel_rfl) (by simp) ?_
    refine AllReadyH.cons (o := ?_) ?hoa7 ?hsta7 AllReadyH.nil
    case hoa7 => (simp only [List.getElem?_toArray, List.getElem?_cons_zero, List.getElem?_cons_succ]; rfl)
    intro K hK
    go_simp
    go_at_call 83; refine (tlist_any _ _ _ _).mono ?_; rintro e w5 ⟨rfl, hb5⟩; have hq2 := pa_step hq1 hb5; have hrow2 := row_step hrow hb5; have hbz2 := bel_step hbz hb5; clear hb5 hq1 hrow hbz; simp only [World.size_drew] at hrow2
    go_wp2_with fail
    refine hK.out _ _ ?hsa7 (fun hHeld => ?_)
    case hsa7 => exact pa_pc hq2
    clear hK K
    (try simp only [Act.put, List.setIfInBounds_toArray, List.set_cons_zero, List.set_cons_succ])
    refine wpAnyH_ready (rs := [8]) (by kernel_rfl) (by simp) ?_
    refine AllReadyH.cons (o := ?_) ?hoa8 ?hsta8 AllReadyH.nil
    case hoa8 => (simp only [List.getElem?_toArray, List.getElem?_cons_zero, List.getElem?_cons_succ]; rfl)
    intro K hK
    go_simp
    have hal5 := bel_alloc (Below.refl w5.heap.size w5) (.cells #[.int .i64 4, .int .i64 0, .float .f64 0, .string ⟨#[]⟩, .slice (some ⟨w1.heap.size, 0, none⟩) 2 2] 27); have hq3 := pa_step hq2 hal5; have hrow3 := row_step hrow2 hal5; have hrow4 := row_alloc w5 #[.int .i64 4, .int .i64 0, .float .f64 0, .string ⟨#[]⟩, .slice (some ⟨w1.heap.size, 0, none⟩) 2 2] 27; have hbz3 := bel_step hbz2 hal5; clear hq2 hrow2 hbz2 hal5
    go_wp2_with fail
    refine hK.out _ _ ?hsa8 (fun hHeld => ?_)
    case hsa8 => exact pa_pc hq3
    clear hK K
    (try simp only [Act.put, List.setIfInBounds_toArray, List.set_cons_zero, List.set_cons_succ])
    refine wpAnyH_ready (rs := [9]) (by kernel_rfl) (by simp) ?_
    refine AllReadyH.cons (o := ?_) ?hoa9 ?hsta9 AllReadyH.nil
    case hoa9 => (simp only [List.getElem?_toArray, List.getElem?_cons_zero, List.getElem?_cons_succ]; rfl)
    intro K hK
    go_simp
    have hge := hbz3.size; have hs9 := spliced_any (rq_one n w1.heap.size k V w0) p l c a bh L (some ⟨w5.heap.size, 0, none⟩) 1 1 [pairT n k V] _ (rq_old (bel_step HBW.out hq3.2.2.2.2.2.2.2.2.2.2.2.2.2.2.2.2.2.2.2.2.2.1) HL.out) (rq_new hrow4) hab hbl (by omega) (by omega); go_at_call 84; refine hs9.mono ?_; rintro e w6 ⟨p6, c6, rfl, hb6, hy6⟩; have hq4 := pa_step hq3 hb6; have hrow6 := row_step hrow3 hb6; have hbz4 := bel_step hbz3 hb6; have HY := Lib.hid (show ∀ y, Below w0.heap.size w0 y → Stay w1.heap.size w6 y → Rep y (n + 3) (.agg #[.int .i64 4, .int .i64 0, .float .f64 0, .string ⟨#[]⟩, .slice p6 (a + 1 + (l - bh)) c6]) T from fun y hby hst => by rw [HT.out]; exact list_rep (repL_mono (rq_rep hby ((hst _ (Nat.le_refl _) (row_lt hrow6)).trans hrow6) HK.out HV.out) (hy6 y (fun b h1 h2 => hst b (by rw [World.size_drew] at hge; omega) h2)))); clear hs9 hb6 hy6 hq3 hrow3 hrow4 hrow6 hbz3 hge
    go_wp2_with fail
    refine hK.out _ _ ?hsa9 (fun hHeld => ?_)
    case hsa9 => exact pa_pc hq4
    clear hK K
    (try simp only [Act.put, List.setIfInBounds_toArray, List.set_cons_zero, List.set_cons_succ])
    refine wpAnyH_ready (rs := [10]) (by kernel_rfl) (by simp) ?_
    refine AllReadyH.cons (o := ?_) ?hoa10 ?hsta10 AllReadyH.nil
    case hoa10 => (simp only [List.getElem?_toArray, List.getElem?_cons_zero, List.getElem?_cons_succ]; rfl)
    intro K hK
    go_simp
    go_at_call 83; refine (tlist_any _ _ _ _).mono ?_; rintro e w7 ⟨rfl, hb7⟩; have hq5 := pa_step hq4 hb7; have hst7 := stay_below (B := w1.heap.size) hb7; have hgz := hbz4.size; have hgz2 := hb7.size; clear hb7 hq4
    go_wp2_with fail
    refine hK.out _ _ ?hsa10 (fun hHeld => ?_)
    case hsa10 => exact pa_pc hq5
    clear hK K
    (try simp only [Act.put, List.setIfInBounds_toArray, List.set_cons_zero, List.set_cons_succ])
    refine wpAnyH_ready (rs := [11]) (by kernel_rfl) (by simp) ?_
    refine AllReadyH.cons (o := ?_) ?hoa11 ?hsta11 AllReadyH.nil
    case hoa11 => (simp only [List.getElem?_toArray, List.getElem?_cons_zero, List.getElem?_cons_succ]; rfl)
    intro K hK
    have b30 := hq5.2.2.2.2.2.2.2.2.2.2.2.1; have b31 := hq5.2.2.2.2.2.2.2.2.2.2.2.2.1; have b32 := hq5.2.2.2.2.2.2.2.2.2.2.2.2.2.1; have b33 := hq5.2.2.2.2.2.2.2.2.2.2.2.2.2.2.1; have b34 := hq5.2.2.2.2.2.2.2.2.2.2.2.2.2.2.2.1; have b3f := hq5.2.2.2.2.2.2.2.2.2.2.2.2.2.2.2.2.2.2.2.2.2.2.1; have b3l := cell_lt b30; go_simp
    have hq6 := pa_set3 hq5 (.int .i64 4) (.int .i64 0) (.float .f64 0) (.string ⟨#[]⟩) (.slice p6 (a + 1 + (l - bh)) c6); have hst8 : Stay w1.heap.size w6 (((((w7.setCell ⟨w.heap.size + 1 + 1 + 1, 0, none⟩ (.int .i64 4)).setCell ⟨w.heap.size + 1 + 1 + 1, 1, none⟩ (.int .i64 0)).setCell ⟨w.heap.size + 1 + 1 + 1, 2, none⟩ (.float .f64 0)).setCell ⟨w.heap.size + 1 + 1 + 1, 3, none⟩ (.string ⟨#[]⟩)).setCell ⟨w.heap.size + 1 + 1 + 1, 4, none⟩ (.slice p6 (a + 1 + (l - bh)) c6)) := fun b h1 h2 => (set5_other (g := w.heap.size + 1 + 1 + 1) (o := 0) (by omega)).trans (hst7 b h1 h2)
    go_wp2_with fail
    refine hK.out _ _ ?hsa11 (fun hHeld => ?_)
    case hsa11 => exact pa_pc hq6
    clear hK K
    (try simp only [Act.put, List.setIfInBounds_toArray, List.set_cons_zero, List.set_cons_succ])
    refine wpAnyH_done (by kernel_rfl) ?_ _
    have HG8 := Lib.hid (show PA p l c k q d K3 I3 F3 S3 q3 m3 d3 (.int .i64 4) (.int .i64 0) (.float .f64 0) (.string ⟨#[]⟩) (.slice p6 (a + 1 + (l - bh)) c6) (.int .i64 0) (.int .i64 0) (.float .f64 0) (.string ⟨#[]⟩) (.slice none 0 0) w (((((w7.setCell ⟨w.heap.size + 1 + 1 + 1, 0, none⟩ (.int .i64 4)).setCell ⟨w.heap.size + 1 + 1 + 1, 1, none⟩ (.int .i64 0)).setCell ⟨w.heap.size + 1 + 1 + 1, 2, none⟩ (.float .f64 0)).setCell ⟨w.heap.size + 1 + 1 + 1, 3, none⟩ (.string ⟨#[]⟩)).setCell ⟨w.heap.size + 1 + 1 + 1, 4, none⟩ (.slice p6 (a + 1 + (l - bh)) c6)) ∧ Stay w1.heap.size w6 (((((w7.setCell ⟨w.heap.size + 1 + 1 + 1, 0, none⟩ (.int .i64 4)).setCell ⟨w.heap.size + 1 + 1 + 1, 1, none⟩ (.int .i64 0)).setCell ⟨w.heap.size + 1 + 1 + 1, 2, none⟩ (.float .f64 0)).setCell ⟨w.heap.size + 1 + 1 + 1, 3, none⟩ (.string ⟨#[]⟩)).setCell ⟨w.heap.size + 1 + 1 + 1, 4, none⟩ (.slice p6 (a + 1 + (l - bh)) c6)) ∧ w6.heap.size ≤ ((((((w7.setCell ⟨w.heap.size + 1 + 1 + 1, 0, none⟩ (.int .i64 4)).setCell ⟨w.heap.size + 1 + 1 + 1, 1, none⟩ (.int .i64 0)).setCell ⟨w.heap.size + 1 + 1 + 1, 2, none⟩ (.float .f64 0)).setCell ⟨w.heap.size + 1 + 1 + 1, 3, none⟩ (.string ⟨#[]⟩)).setCell ⟨w.heap.size + 1 + 1 + 1, 4, none⟩ (.slice p6 (a + 1 + (l - bh)) c6))).heap.size from ⟨hq6, hst8, (set5_size w7 (w.heap.size + 1 + 1 + 1) 0 (.int .i64 4) (.int .i64 0) (.float .f64 0) (.string ⟨#[]⟩) (.slice p6 (a + 1 + (l - bh)) c6)) ▸ hgz2⟩)
    clear hq6 hst8 hq5 hst7 hgz hgz2 hHeld hbz4 s4
    revert HG8
    generalize (((((w7.setCell ⟨w.heap.size + 1 + 1 + 1, 0, none⟩ (.int .i64 4)).setCell ⟨w.heap.size + 1 + 1 + 1, 1, none⟩ (.int .i64 0)).setCell ⟨w.heap.size + 1 + 1 + 1, 2, none⟩ (.float .f64 0)).setCell ⟨w.heap.size + 1 + 1 + 1, 3, none⟩ (.string ⟨#[]⟩)).setCell ⟨w.heap.size + 1 + 1 + 1, 4, none⟩ (.slice p6 (a + 1 + (l - bh)) c6)) = W8
    intro HG8
    obtain ⟨hq8, hst8, hz8⟩ := HG8.out
    have hck := check_any (n + 3) 4 0 0 ⟨#[]⟩ p6 (a + 1 + (l - bh)) c6 T W8 (HY.out W8 (bel_step HBW.out hq8.2.2.2.2.2.2.2.2.2.2.2.2.2.2.2.2.2.2.2.2.2.1) hst8) HC.out.2.1 HC.out.2.2
    rw [HC.out.1] at hck
    have HCK := Lib.hid hck
    have HQ8 := Lib.hid hq8
    have HST8 := Lib.hid hst8
    have HZ8 := Lib.hid hz8
    have b30 := hq8.2.2.2.2.2.2.2.2.2.2.2.1
    have b31 := hq8.2.2.2.2.2.2.2.2.2.2.2.2.1
    have b32 := hq8.2.2.2.2.2.2.2.2.2.2.2.2.2.1
    have b33 := hq8.2.2.2.2.2.2.2.2.2.2.2.2.2.2.1
    have b34 := hq8.2.2.2.2.2.2.2.2.2.2.2.2.2.2.2.1
    clear hck hq8 hst8 hz8 HG8
    go_wp2_with fail
    go_at_call 37; refine HCK.out.mono ?_; rintro e w9 ⟨rfl, hb9⟩
    have HQ9 := Lib.hid (pa_step HQ8.out hb9)
    have HST9 := Lib.hid (show Stay w1.heap.size w6 w9 from fun b h1 h2 => (hb9.block b (Nat.lt_of_lt_of_le h2 HZ8.out)).trans (HST8.out b h1 h2))
    have HZ9 := Lib.hid (Nat.le_trans HZ8.out hb9.size)
    clear b30 b31 b32 b33 b34 hb9 HCK HQ8 HST8 HZ8
    go_upto_region 7 with fail
    have hp := HQ9.out
    have l0 := cell_lt hp.1; have l3 : w.heap.size + 1 + 1 + 1 < w9.heap.size := cell_lt hp.2.2.2.2.2.2.2.2.2.2.2.1
    clear hp
    refine wp_region_held_drew (S := (fun z => z.cell? ⟨w.heap.size, 4, none⟩ = some (.slice p l c) ∧ z.cell? ⟨w.heap.size + 1, 0, none⟩ = some (.int .i64 3) ∧ z.cell? ⟨w.heap.size + 1, 1, none⟩ = some (.int .i64 0) ∧ z.cell? ⟨w.heap.size + 1, 2, none⟩ = some (.float .f64 0) ∧ z.cell? ⟨w.heap.size + 1, 3, none⟩ = some (.string k) ∧ z.cell? ⟨w.heap.size + 1, 4, none⟩ = some (.slice q 0 d) ∧ z.cell? ⟨w.heap.size + 1 + 1, 0, none⟩ = some (.int .i64 K3) ∧ z.cell? ⟨w.heap.size + 1 + 1, 1, none⟩ = some (.int .i64 I3) ∧ z.cell? ⟨w.heap.size + 1 + 1, 2, none⟩ = some (.float .f64 F3) ∧ z.cell? ⟨w.heap.size + 1 + 1, 3, none⟩ = some (.string S3) ∧ z.cell? ⟨w.heap.size + 1 + 1, 4, none⟩ = some (.slice q3 m3 d3) ∧ z.cell? ⟨w.heap.size + 1 + 1 + 1, 0, none⟩ = some (.int .i64 4) ∧ z.cell? ⟨w.heap.size + 1 + 1 + 1, 1, none⟩ = some (.int .i64 0) ∧ z.cell? ⟨w.heap.size + 1 + 1 + 1, 2, none⟩ = some (.float .f64 0) ∧ z.cell? ⟨w.heap.size + 1 + 1 + 1, 3, none⟩ = some (.string ⟨#[]⟩) ∧ z.cell? ⟨w.heap.size + 1 + 1 + 1, 4, none⟩ = some (.slice p6 (a + 1 + (l - bh)) c6))) (by kernel_rfl) ?_ (fun hHeld => ?_)
    · exact pa_p3 (pa_drew HQ9.out)
    refine wpAnyH_take (i := 0) (oi := ?_) (v := ?_) ?hiax0 (by kernel_rfl) ?hfax0 ?hrax0 ?hQax0 ?hyax0 (by assumption) ?restax0
    case hiax0 => (simp only [List.getElem?_toArray, List.getElem?_cons_zero, List.getElem?_cons_succ]; rfl)
    case hfax0 => kernel_rfl
    case hrax0 => kernel_rfl
    case hyax0 => (refine Or.inl ⟨by rfl, ?_⟩; intro wS hSw; (try dsimp only at hSw); go_simp; (try with_reducible rfl))
    case hQax0 => exact fun _ _ _ h => h
    (try simp only [Act.put, List.setIfInBounds_toArray, List.set_cons_zero, List.set_cons_succ])
    refine wpAnyH_take (i := 1) (oi := ?_) (v := ?_) ?hiax1 (by kernel_rfl) ?hfax1 ?hrax1 ?hQax1 ?hyax1 (by assumption) ?restax1
    case hiax1 => (simp only [List.getElem?_toArray, List.getElem?_cons_zero, List.getElem?_cons_succ]; rfl)
    case hfax1 => kernel_rfl
    case hrax1 => kernel_rfl
    case hyax1 => (refine Or.inl ⟨by rfl, ?_⟩; intro wS hSw; (try dsimp only at hSw); go_simp; (try with_reducible rfl))
    case hQax1 => exact fun _ _ _ h => h
    (try simp only [Act.put, List.setIfInBounds_toArray, List.set_cons_zero, List.set_cons_succ])
    refine wpAnyH_take (i := 2) (oi := ?_) (v := ?_) ?hiax2 (by kernel_rfl) ?hfax2 ?hrax2 ?hQax2 ?hyax2 (by assumption) ?restax2
    case hiax2 => (simp only [List.getElem?_toArray, List.getElem?_cons_zero, List.getElem?_cons_succ]; rfl)
    case hfax2 => kernel_rfl
    case hrax2 => kernel_rfl
    case hyax2 => (refine Or.inl ⟨by rfl, ?_⟩; intro wS hSw; (try dsimp only at hSw); go_simp; (try with_reducible rfl))
    case hQax2 => exact fun _ _ _ h => h
    (try simp only [Act.put, List.setIfInBounds_toArray, List.set_cons_zero, List.set_cons_succ])
    refine wpAnyH_take (i := 3) (oi := ?_) (v := ?_) ?hiax3 (by kernel_rfl) ?hfax3 ?hrax3 ?hQax3 ?hyax3 (by assumption) ?restax3
    case hiax3 => (simp only [List.getElem?_toArray, List.getElem?_cons_zero, List.getElem?_cons_succ]; rfl)
    case hfax3 => kernel_rfl
    case hrax3 => kernel_rfl
    case hyax3 => (refine Or.inl ⟨by rfl, ?_⟩; intro wS hSw; (try dsimp only at hSw); go_simp; (try with_reducible rfl))
    case hQax3 => exact fun _ _ _ h => h
    (try simp only [Act.put, List.setIfInBounds_toArray, List.set_cons_zero, List.set_cons_succ])
    refine wpAnyH_take (i := 4) (oi := ?_) (v := ?_) ?hiax4 (by kernel_rfl) ?hfax4 ?hrax4 ?hQax4 ?hyax4 (by assumption) ?restax4
    case hiax4 => (simp only [List.getElem?_toArray, List.getElem?_cons_zero, List.getElem?_cons_succ]; rfl)
    case hfax4 => kernel_rfl
    case hrax4 => kernel_rfl
    case hyax4 => (refine Or.inl ⟨by rfl, ?_⟩; intro wS hSw; (try dsimp only at hSw); go_simp; (try with_reducible rfl))
    case hQax4 => exact fun _ _ _ h => h
    (try simp only [Act.put, List.setIfInBounds_toArray, List.set_cons_zero, List.set_cons_succ])
    refine wpAnyH_take (i := 5) (oi := ?_) (v := ?_) ?hiax5 (by kernel_rfl) ?hfax5 ?hrax5 ?hQax5 ?hyax5 (by assumption) ?restax5
    case hiax5 => (simp only [List.getElem?_toArray, List.getElem?_cons_zero, List.getElem?_cons_succ]; rfl)
    case hfax5 => kernel_rfl
    case hrax5 => kernel_rfl
    case hyax5 => (refine Or.inl ⟨by rfl, ?_⟩; intro wS hSw; (try dsimp only at hSw); go_simp; (try with_reducible rfl))
    case hQax5 => exact fun _ _ _ h => h
    (try simp only [Act.put, List.setIfInBounds_toArray, List.set_cons_zero, List.set_cons_succ])
    refine wpAnyH_ready (rs := [6]) (by kernel_rfl) (by simp) ?_
    refine AllReadyH.cons (o := ?_) ?hoax6 ?hstax6 AllReadyH.nil
    case hoax6 => (simp only [List.getElem?_toArray, List.getElem?_cons_zero, List.getElem?_cons_succ]; rfl)
    intro K hK
    go_simp
    go_at_call 53; refine (HH.out _ (pa_drew HQ9.out).2.2.2.2.2.2.2.2.2.2.2.2.2.2.2.2.2.2.2.2.2.1).mono ?_; rintro e w10 ⟨u, rfl, hb10, hu⟩; obtain ⟨Ku, Iu, Fu, Su, qu, mu, du, rfl, _⟩ := rep_shape hu; have hq10 := pa_step (pa_drew HQ9.out) hb10; have hz10 := Nat.le_trans HZ9.out hb10.size; have hst10 : Stay w1.heap.size w6 w10 := (fun b h1 h2 => (hb10.block b (Nat.lt_of_lt_of_le h2 HZ9.out)).trans (HST9.out b h1 h2)); clear hb10
    go_wp2_with fail
    refine hK.out _ _ ?hsax6 (fun hHeld => ?_)
    case hsax6 => exact pa_p3 hq10
    clear hK K
    (try simp only [Act.put, List.setIfInBounds_toArray, List.set_cons_zero, List.set_cons_succ])
    refine wpAnyH_ready (rs := [7]) (by kernel_rfl) (by simp) ?_
    refine AllReadyH.cons (o := ?_) ?hoax7 ?hstax7 AllReadyH.nil
    case hoax7 => (simp only [List.getElem?_toArray, List.getElem?_cons_zero, List.getElem?_cons_succ]; rfl)
    intro K hK
    have b30 := hq10.2.2.2.2.2.2.2.2.2.2.2.1; have b31 := hq10.2.2.2.2.2.2.2.2.2.2.2.2.1; have b32 := hq10.2.2.2.2.2.2.2.2.2.2.2.2.2.1; have b33 := hq10.2.2.2.2.2.2.2.2.2.2.2.2.2.2.1; have b34 := hq10.2.2.2.2.2.2.2.2.2.2.2.2.2.2.2.1; have b3f := hq10.2.2.2.2.2.2.2.2.2.2.2.2.2.2.2.2.2.2.2.2.2.2.1; have b3l := cell_lt b30; go_simp
    have hq11 := pa_set3 hq10 (.int .i64 4) (.int .i64 0) (.float .f64 0) (.string ⟨#[]⟩) (.slice p6 (a + 1 + (l - bh)) c6); have hst11 : Stay w1.heap.size w6 (((((w10.setCell ⟨w.heap.size + 1 + 1 + 1, 0, none⟩ (.int .i64 4)).setCell ⟨w.heap.size + 1 + 1 + 1, 1, none⟩ (.int .i64 0)).setCell ⟨w.heap.size + 1 + 1 + 1, 2, none⟩ (.float .f64 0)).setCell ⟨w.heap.size + 1 + 1 + 1, 3, none⟩ (.string ⟨#[]⟩)).setCell ⟨w.heap.size + 1 + 1 + 1, 4, none⟩ (.slice p6 (a + 1 + (l - bh)) c6)) := fun b h1 h2 => (set5_other (g := w.heap.size + 1 + 1 + 1) (o := 0) (by omega)).trans (hst10 b h1 h2); clear b30 b31 b32 b33 b34 b3f b3l
    go_wp2_with fail
    refine hK.out _ _ ?hsax7 (fun hHeld => ?_)
    case hsax7 => exact pa_p3 hq11
    clear hK K
    (try simp only [Act.put, List.setIfInBounds_toArray, List.set_cons_zero, List.set_cons_succ])
    refine wpAnyH_ready (rs := [8]) (by kernel_rfl) (by simp) ?_
    refine AllReadyH.cons (o := ?_) ?hoax8 ?hstax8 AllReadyH.nil
    case hoax8 => (simp only [List.getElem?_toArray, List.getElem?_cons_zero, List.getElem?_cons_succ]; rfl)
    intro K hK
    have b40 := hq10.2.2.2.2.2.2.2.2.2.2.2.2.2.2.2.2.1; have b41 := hq10.2.2.2.2.2.2.2.2.2.2.2.2.2.2.2.2.2.1; have b42 := hq10.2.2.2.2.2.2.2.2.2.2.2.2.2.2.2.2.2.2.1; have b43 := hq10.2.2.2.2.2.2.2.2.2.2.2.2.2.2.2.2.2.2.2.1; have b44 := hq10.2.2.2.2.2.2.2.2.2.2.2.2.2.2.2.2.2.2.2.2.1; have b4f := hq10.2.2.2.2.2.2.2.2.2.2.2.2.2.2.2.2.2.2.2.2.2.2.2; have b4l := cell_lt b40; go_simp
    have hq12 := pa_set4 hq11 (.int .i64 Ku) (.int .i64 Iu) (.float .f64 Fu) (.string Su) (.slice qu mu du); have hst12 : Stay w1.heap.size w6 ((((((((((w10.setCell ⟨w.heap.size + 1 + 1 + 1, 0, none⟩ (.int .i64 4)).setCell ⟨w.heap.size + 1 + 1 + 1, 1, none⟩ (.int .i64 0)).setCell ⟨w.heap.size + 1 + 1 + 1, 2, none⟩ (.float .f64 0)).setCell ⟨w.heap.size + 1 + 1 + 1, 3, none⟩ (.string ⟨#[]⟩)).setCell ⟨w.heap.size + 1 + 1 + 1, 4, none⟩ (.slice p6 (a + 1 + (l - bh)) c6)).setCell ⟨w.heap.size + 1 + 1 + 1 + 1, 0, none⟩ (.int .i64 Ku)).setCell ⟨w.heap.size + 1 + 1 + 1 + 1, 1, none⟩ (.int .i64 Iu)).setCell ⟨w.heap.size + 1 + 1 + 1 + 1, 2, none⟩ (.float .f64 Fu)).setCell ⟨w.heap.size + 1 + 1 + 1 + 1, 3, none⟩ (.string Su)).setCell ⟨w.heap.size + 1 + 1 + 1 + 1, 4, none⟩ (.slice qu mu du)) := fun b h1 h2 => (set5_other (g := w.heap.size + 1 + 1 + 1 + 1) (o := 0) (by omega)).trans (hst11 b h1 h2); clear b40 b41 b42 b43 b44 b4f b4l
    go_wp2_with fail
    refine hK.out _ _ ?hsax8 (fun hHeld => ?_)
    case hsax8 => exact pa_p3 hq12
    clear hK K
    (try simp only [Act.put, List.setIfInBounds_toArray, List.set_cons_zero, List.set_cons_succ])
    refine wpAnyH_take (i := 9) (oi := ?_) (v := ?_) ?hiax9 (by kernel_rfl) ?hfax9 ?hrax9 ?hQax9 ?hyax9 (by assumption) ?restax9
    case hiax9 => (simp only [List.getElem?_toArray, List.getElem?_cons_zero, List.getElem?_cons_succ]; rfl)
    case hfax9 => kernel_rfl
    case hrax9 => kernel_rfl
    case hyax9 => (refine Or.inl ⟨by rfl, ?_⟩; intro wS hSw; (try dsimp only at hSw); go_simp; (try with_reducible rfl))
    case hQax9 => exact fun _ _ _ h => h
    (try simp only [Act.put, List.setIfInBounds_toArray, List.set_cons_zero, List.set_cons_succ])
    refine wpAnyH_done (by kernel_rfl) ?_ _
    have HGF := Lib.hid (show PA p l c k q d K3 I3 F3 S3 q3 m3 d3 (.int .i64 4) (.int .i64 0) (.float .f64 0) (.string ⟨#[]⟩) (.slice p6 (a + 1 + (l - bh)) c6) (.int .i64 Ku) (.int .i64 Iu) (.float .f64 Fu) (.string Su) (.slice qu mu du) w ((((((((((w10.setCell ⟨w.heap.size + 1 + 1 + 1, 0, none⟩ (.int .i64 4)).setCell ⟨w.heap.size + 1 + 1 + 1, 1, none⟩ (.int .i64 0)).setCell ⟨w.heap.size + 1 + 1 + 1, 2, none⟩ (.float .f64 0)).setCell ⟨w.heap.size + 1 + 1 + 1, 3, none⟩ (.string ⟨#[]⟩)).setCell ⟨w.heap.size + 1 + 1 + 1, 4, none⟩ (.slice p6 (a + 1 + (l - bh)) c6)).setCell ⟨w.heap.size + 1 + 1 + 1 + 1, 0, none⟩ (.int .i64 Ku)).setCell ⟨w.heap.size + 1 + 1 + 1 + 1, 1, none⟩ (.int .i64 Iu)).setCell ⟨w.heap.size + 1 + 1 + 1 + 1, 2, none⟩ (.float .f64 Fu)).setCell ⟨w.heap.size + 1 + 1 + 1 + 1, 3, none⟩ (.string Su)).setCell ⟨w.heap.size + 1 + 1 + 1 + 1, 4, none⟩ (.slice qu mu du)) ∧ Stay w1.heap.size w6 ((((((((((w10.setCell ⟨w.heap.size + 1 + 1 + 1, 0, none⟩ (.int .i64 4)).setCell ⟨w.heap.size + 1 + 1 + 1, 1, none⟩ (.int .i64 0)).setCell ⟨w.heap.size + 1 + 1 + 1, 2, none⟩ (.float .f64 0)).setCell ⟨w.heap.size + 1 + 1 + 1, 3, none⟩ (.string ⟨#[]⟩)).setCell ⟨w.heap.size + 1 + 1 + 1, 4, none⟩ (.slice p6 (a + 1 + (l - bh)) c6)).setCell ⟨w.heap.size + 1 + 1 + 1 + 1, 0, none⟩ (.int .i64 Ku)).setCell ⟨w.heap.size + 1 + 1 + 1 + 1, 1, none⟩ (.int .i64 Iu)).setCell ⟨w.heap.size + 1 + 1 + 1 + 1, 2, none⟩ (.float .f64 Fu)).setCell ⟨w.heap.size + 1 + 1 + 1 + 1, 3, none⟩ (.string Su)).setCell ⟨w.heap.size + 1 + 1 + 1 + 1, 4, none⟩ (.slice qu mu du)) ∧ w6.heap.size ≤ (((((((((((w10.setCell ⟨w.heap.size + 1 + 1 + 1, 0, none⟩ (.int .i64 4)).setCell ⟨w.heap.size + 1 + 1 + 1, 1, none⟩ (.int .i64 0)).setCell ⟨w.heap.size + 1 + 1 + 1, 2, none⟩ (.float .f64 0)).setCell ⟨w.heap.size + 1 + 1 + 1, 3, none⟩ (.string ⟨#[]⟩)).setCell ⟨w.heap.size + 1 + 1 + 1, 4, none⟩ (.slice p6 (a + 1 + (l - bh)) c6)).setCell ⟨w.heap.size + 1 + 1 + 1 + 1, 0, none⟩ (.int .i64 Ku)).setCell ⟨w.heap.size + 1 + 1 + 1 + 1, 1, none⟩ (.int .i64 Iu)).setCell ⟨w.heap.size + 1 + 1 + 1 + 1, 2, none⟩ (.float .f64 Fu)).setCell ⟨w.heap.size + 1 + 1 + 1 + 1, 3, none⟩ (.string Su)).setCell ⟨w.heap.size + 1 + 1 + 1 + 1, 4, none⟩ (.slice qu mu du))).heap.size from ⟨hq12, hst12, by show w6.heap.size ≤ (set5 (set5 w10 (w.heap.size + 1 + 1 + 1) 0 (.int .i64 4) (.int .i64 0) (.float .f64 0) (.string ⟨#[]⟩) (.slice p6 (a + 1 + (l - bh)) c6)) (w.heap.size + 1 + 1 + 1 + 1) 0 (.int .i64 Ku) (.int .i64 Iu) (.float .f64 Fu) (.string Su) (.slice qu mu du)).heap.size; rw [set5_size, set5_size]; exact hz10⟩)
    have HU := Lib.hid hu
    clear hq12 hst12 hq11 hst11 hq10 hst10 hu hHeld
    revert HGF
    generalize ((((((((((w10.setCell ⟨w.heap.size + 1 + 1 + 1, 0, none⟩ (.int .i64 4)).setCell ⟨w.heap.size + 1 + 1 + 1, 1, none⟩ (.int .i64 0)).setCell ⟨w.heap.size + 1 + 1 + 1, 2, none⟩ (.float .f64 0)).setCell ⟨w.heap.size + 1 + 1 + 1, 3, none⟩ (.string ⟨#[]⟩)).setCell ⟨w.heap.size + 1 + 1 + 1, 4, none⟩ (.slice p6 (a + 1 + (l - bh)) c6)).setCell ⟨w.heap.size + 1 + 1 + 1 + 1, 0, none⟩ (.int .i64 Ku)).setCell ⟨w.heap.size + 1 + 1 + 1 + 1, 1, none⟩ (.int .i64 Iu)).setCell ⟨w.heap.size + 1 + 1 + 1 + 1, 2, none⟩ (.float .f64 Fu)).setCell ⟨w.heap.size + 1 + 1 + 1 + 1, 3, none⟩ (.string Su)).setCell ⟨w.heap.size + 1 + 1 + 1 + 1, 4, none⟩ (.slice qu mu du)) = Wf
    intro HGF
    have hqf := HGF.out.1
    have HYF := Lib.hid (show ∀ y, Below w0.heap.size w0 y → Stay w.heap.size Wf y → Rep y (n + 3) (.agg #[.int .i64 4, .int .i64 0, .float .f64 0, .string ⟨#[]⟩, .slice p6 (a + 1 + (l - bh)) c6]) T from fun y hby hst => HY.out y hby (fun b h1 h2 => (hst b (by omega) (Nat.lt_of_lt_of_le h2 HGF.out.2.2)).trans (HGF.out.2.1 b h1 h2)))
    have b30 := hqf.2.2.2.2.2.2.2.2.2.2.2.1
    have b31 := hqf.2.2.2.2.2.2.2.2.2.2.2.2.1
    have b32 := hqf.2.2.2.2.2.2.2.2.2.2.2.2.2.1
    have b33 := hqf.2.2.2.2.2.2.2.2.2.2.2.2.2.2.1
    have b34 := hqf.2.2.2.2.2.2.2.2.2.2.2.2.2.2.2.1
    have b40 := hqf.2.2.2.2.2.2.2.2.2.2.2.2.2.2.2.2.1
    have b41 := hqf.2.2.2.2.2.2.2.2.2.2.2.2.2.2.2.2.2.1
    have b42 := hqf.2.2.2.2.2.2.2.2.2.2.2.2.2.2.2.2.2.2.1
    have b43 := hqf.2.2.2.2.2.2.2.2.2.2.2.2.2.2.2.2.2.2.2.1
    have b44 := hqf.2.2.2.2.2.2.2.2.2.2.2.2.2.2.2.2.2.2.2.2.1
    clear hqf
    go_wp2
    refine bodyPost_ret (v := .tuple #[.agg #[.int .i64 4, .int .i64 0, .float .f64 0, .string ⟨#[]⟩, .slice p6 (a + 1 + (l - bh)) c6], .agg #[.int .i64 Ku, .int .i64 Iu, .float .f64 Fu, .string Su, .slice qu mu du], .int .i64 0]) (by simp [results, Try.results50, go_sem, b30, b31, b32, b33, b34, b40, b41, b42, b43, b44]) rfl ⟨_, _, rfl, HGF.out.1.2.2.2.2.2.2.2.2.2.2.2.2.2.2.2.2.2.2.2.2.2.1, HYF.out, HU.out⟩
  · have hxx : ((a : Int) == (bh : Int)) = false := by rw [beq_eq_false_iff_ne]; omega
    have HX := Lib.hid hx
    clear hroom hx
    go_enter Try.func50, Try.ntmps50
    go_wp2_with fail
    go_at_call 52; refine (HF.out _ HB.out).mono ?_; rintro e w1 ⟨rfl, hb1⟩
    have HB1 := Lib.hid (bel_step HB.out hb1)
    have hp1 := pa_step HP0.out hb1
    have HP1 := Lib.hid hp1
    have s4 := hp1.1
    clear hb1 HB HP0 HF hp1
    go_upto_region 4 with fail
    have hp := HP1.out
    have hz1 : w.heap.size + 1 + 1 + 1 + 1 < w1.heap.size := cell_lt hp.2.2.2.2.2.2.2.2.2.2.2.2.2.2.2.2.1
    have l0 := cell_lt hp.1; have l1 := cell_lt hp.2.1; have l2 := cell_lt hp.2.2.2.2.2.2.1
    clear hp
    refine wp_region_held_drew (S := (fun z => z.cell? ⟨w.heap.size, 4, none⟩ = some (.slice p l c) ∧ z.cell? ⟨w.heap.size + 1, 0, none⟩ = some (.int .i64 3) ∧ z.cell? ⟨w.heap.size + 1, 1, none⟩ = some (.int .i64 0) ∧ z.cell? ⟨w.heap.size + 1, 2, none⟩ = some (.float .f64 0) ∧ z.cell? ⟨w.heap.size + 1, 3, none⟩ = some (.string k) ∧ z.cell? ⟨w.heap.size + 1, 4, none⟩ = some (.slice q 0 d) ∧ z.cell? ⟨w.heap.size + 1 + 1, 0, none⟩ = some (.int .i64 K3) ∧ z.cell? ⟨w.heap.size + 1 + 1, 1, none⟩ = some (.int .i64 I3) ∧ z.cell? ⟨w.heap.size + 1 + 1, 2, none⟩ = some (.float .f64 F3) ∧ z.cell? ⟨w.heap.size + 1 + 1, 3, none⟩ = some (.string S3) ∧ z.cell? ⟨w.heap.size + 1 + 1, 4, none⟩ = some (.slice q3 m3 d3))) (by kernel_rfl) ?_ (fun hHeld => ?_)
    · exact pa_pc (pa_drew HP1.out)
    refine wpAnyH_take (i := 0) (oi := ?_) (v := ?_) ?hib0 (by kernel_rfl) ?hfb0 ?hrb0 ?hQb0 ?hyb0 (by assumption) ?restb0
    case hib0 => (simp only [List.getElem?_toArray, List.getElem?_cons_zero, List.getElem?_cons_succ]; rfl)
    case hfb0 => kernel_rfl
    case hrb0 => kernel_rfl
    case hyb0 => (refine Or.inl ⟨by rfl, ?_⟩; intro wS hSw; (try dsimp only at hSw); go_simp; (try with_reducible rfl))
    case hQb0 => exact fun _ _ _ h => h
    (try simp only [Act.put, List.setIfInBounds_toArray, List.set_cons_zero, List.set_cons_succ])
    refine wpAnyH_take (i := 1) (oi := ?_) (v := ?_) ?hib1 (by kernel_rfl) ?hfb1 ?hrb1 ?hQb1 ?hyb1 (by assumption) ?restb1
    case hib1 => (simp only [List.getElem?_toArray, List.getElem?_cons_zero, List.getElem?_cons_succ]; rfl)
    case hfb1 => kernel_rfl
    case hrb1 => kernel_rfl
    case hyb1 => (refine Or.inl ⟨by rfl, ?_⟩; intro wS hSw; (try dsimp only at hSw); go_simp; (try with_reducible rfl))
    case hQb1 => exact fun _ _ _ h => h
    (try simp only [Act.put, List.setIfInBounds_toArray, List.set_cons_zero, List.set_cons_succ])
    refine wpAnyH_take (i := 2) (oi := ?_) (v := ?_) ?hib2 (by kernel_rfl) ?hfb2 ?hrb2 ?hQb2 ?hyb2 (by assumption) ?restb2
    case hib2 => (simp only [List.getElem?_toArray, List.getElem?_cons_zero, List.getElem?_cons_succ]; rfl)
    case hfb2 => kernel_rfl
    case hrb2 => kernel_rfl
    case hyb2 => (refine Or.inl ⟨by rfl, ?_⟩; intro wS hSw; (try dsimp only at hSw); go_simp; (try with_reducible rfl))
    case hQb2 => exact fun _ _ _ h => h
    (try simp only [Act.put, List.setIfInBounds_toArray, List.set_cons_zero, List.set_cons_succ])
    refine wpAnyH_take (i := 3) (oi := ?_) (v := ?_) ?hib3 (by kernel_rfl) ?hfb3 ?hrb3 ?hQb3 ?hyb3 (by assumption) ?restb3
    case hib3 => (simp only [List.getElem?_toArray, List.getElem?_cons_zero, List.getElem?_cons_succ]; rfl)
    case hfb3 => kernel_rfl
    case hrb3 => kernel_rfl
    case hyb3 => (refine Or.inl ⟨by rfl, ?_⟩; intro wS hSw; (try dsimp only at hSw); go_simp; (try with_reducible rfl))
    case hQb3 => exact fun _ _ _ h => h
    (try simp only [Act.put, List.setIfInBounds_toArray, List.set_cons_zero, List.set_cons_succ])
    refine wpAnyH_take (i := 4) (oi := ?_) (v := ?_) ?hib4 (by kernel_rfl) ?hfb4 ?hrb4 ?hQb4 ?hyb4 (by assumption) ?restb4
    case hib4 => (simp only [List.getElem?_toArray, List.getElem?_cons_zero, List.getElem?_cons_succ]; rfl)
    case hfb4 => kernel_rfl
    case hrb4 => kernel_rfl
    case hyb4 => (refine Or.inl ⟨by rfl, ?_⟩; intro wS hSw; (try dsimp only at hSw); go_simp; (try with_reducible rfl))
    case hQb4 => exact fun _ _ _ h => h
    (try simp only [Act.put, List.setIfInBounds_toArray, List.set_cons_zero, List.set_cons_succ])
    refine wpAnyH_take (i := 5) (oi := ?_) (v := ?_) ?hib5 (by kernel_rfl) ?hfb5 ?hrb5 ?hQb5 ?hyb5 (by assumption) ?restb5
    case hib5 => (simp only [List.getElem?_toArray, List.getElem?_cons_zero, List.getElem?_cons_succ]; rfl)
    case hfb5 => kernel_rfl
    case hrb5 => kernel_rfl
    case hyb5 => (refine Or.inl ⟨by rfl, ?_⟩; intro wS hSw; (try dsimp only at hSw); go_simp; (try with_reducible rfl))
    case hQb5 => exact fun _ _ _ h => h
    (try simp only [Act.put, List.setIfInBounds_toArray, List.set_cons_zero, List.set_cons_succ])
    refine wpAnyH_ready (rs := [6]) (by kernel_rfl) (by simp) ?_
    refine AllReadyH.cons (o := ?_) ?hob6 ?hstb6 AllReadyH.nil
    case hob6 => (simp only [List.getElem?_toArray, List.getElem?_cons_zero, List.getElem?_cons_succ]; rfl)
    intro K hK
    go_simp
    have hq1 : PA p l c k q d K3 I3 F3 S3 q3 m3 d3 (.int .i64 0) (.int .i64 0) (.float .f64 0) (.string ⟨#[]⟩) (.slice none 0 0) (.int .i64 0) (.int .i64 0) (.float .f64 0) (.string ⟨#[]⟩) (.slice none 0 0) w _ := pa_step (show PA p l c k q d K3 I3 F3 S3 q3 m3 d3 (.int .i64 0) (.int .i64 0) (.float .f64 0) (.string ⟨#[]⟩) (.slice none 0 0) (.int .i64 0) (.int .i64 0) (.float .f64 0) (.string ⟨#[]⟩) (.slice none 0 0) w w1.drew from pa_drew HP1.out) (bel_alloc (Below.refl _ _) (.cells #[.int .i64 3, .int .i64 0, .float .f64 0, .string k, .slice q 0 d, .int .i64 K3, .int .i64 I3, .float .f64 F3, .string S3, .slice q3 m3 d3] 27)); have hrow := row_alloc w1.drew #[.int .i64 3, .int .i64 0, .float .f64 0, .string k, .slice q 0 d, .int .i64 K3, .int .i64 I3, .float .f64 F3, .string S3, .slice q3 m3 d3] 27; have hbz := bel_alloc (Below.refl w1.drew.heap.size w1.drew) (.cells #[.int .i64 3, .int .i64 0, .float .f64 0, .string k, .slice q 0 d, .int .i64 K3, .int .i64 I3, .float .f64 F3, .string S3, .slice q3 m3 d3] 27)
    go_wp2_with fail
    refine hK.out _ _ ?hsb6 (fun hHeld => ?_)
    case hsb6 => exact pa_pc hq1
    clear hK K
    (try simp only [Act.put, List.setIfInBounds_toArray, List.set_cons_zero, List.set_cons_succ])
    refine wpAnyH_ready (rs := [7]) (by kernel_rfl) (by simp) ?_
    refine AllReadyH.cons (o := ?_) ?hob7 ?hstb7 AllReadyH.nil
    case hob7 => (simp only [List.getElem?_toArray, List.getElem?_cons_zero, List.getElem?_cons_succ]; rfl)
    intro K hK
    go_simp
    go_at_call 83; refine (tlist_any _ _ _ _).mono ?_; rintro e w5 ⟨rfl, hb5⟩; have hq2 := pa_step hq1 hb5; have hrow2 := row_step hrow hb5; have hbz2 := bel_step hbz hb5; clear hb5 hq1 hrow hbz; simp only [World.size_drew] at hrow2
    go_wp2_with fail
    refine hK.out _ _ ?hsb7 (fun hHeld => ?_)
    case hsb7 => exact pa_pc hq2
    clear hK K
    (try simp only [Act.put, List.setIfInBounds_toArray, List.set_cons_zero, List.set_cons_succ])
    refine wpAnyH_ready (rs := [8]) (by kernel_rfl) (by simp) ?_
    refine AllReadyH.cons (o := ?_) ?hob8 ?hstb8 AllReadyH.nil
    case hob8 => (simp only [List.getElem?_toArray, List.getElem?_cons_zero, List.getElem?_cons_succ]; rfl)
    intro K hK
    go_simp
    have hal5 := bel_alloc (Below.refl w5.heap.size w5) (.cells #[.int .i64 4, .int .i64 0, .float .f64 0, .string ⟨#[]⟩, .slice (some ⟨w1.heap.size, 0, none⟩) 2 2] 27); have hq3 := pa_step hq2 hal5; have hrow3 := row_step hrow2 hal5; have hrow4 := row_alloc w5 #[.int .i64 4, .int .i64 0, .float .f64 0, .string ⟨#[]⟩, .slice (some ⟨w1.heap.size, 0, none⟩) 2 2] 27; have hbz3 := bel_step hbz2 hal5; clear hq2 hrow2 hbz2 hal5
    go_wp2_with fail
    refine hK.out _ _ ?hsb8 (fun hHeld => ?_)
    case hsb8 => exact pa_pc hq3
    clear hK K
    (try simp only [Act.put, List.setIfInBounds_toArray, List.set_cons_zero, List.set_cons_succ])
    refine wpAnyH_ready (rs := [9]) (by kernel_rfl) (by simp) ?_
    refine AllReadyH.cons (o := ?_) ?hob9 ?hstb9 AllReadyH.nil
    case hob9 => (simp only [List.getElem?_toArray, List.getElem?_cons_zero, List.getElem?_cons_succ]; rfl)
    intro K hK
    go_simp
    have hge := hbz3.size; have hs9 := spliced_any (rq_one n w1.heap.size k V w0) p l c a bh L (some ⟨w5.heap.size, 0, none⟩) 1 1 [pairT n k V] _ (rq_old (bel_step HBW.out hq3.2.2.2.2.2.2.2.2.2.2.2.2.2.2.2.2.2.2.2.2.2.1) HL.out) (rq_new hrow4) hab hbl (by omega) (by omega); go_at_call 84; refine hs9.mono ?_; rintro e w6 ⟨p6, c6, rfl, hb6, hy6⟩; have hq4 := pa_step hq3 hb6; have hrow6 := row_step hrow3 hb6; have hbz4 := bel_step hbz3 hb6; have HY := Lib.hid (show ∀ y, Below w0.heap.size w0 y → Stay w1.heap.size w6 y → Rep y (n + 3) (.agg #[.int .i64 4, .int .i64 0, .float .f64 0, .string ⟨#[]⟩, .slice p6 (a + 1 + (l - bh)) c6]) T from fun y hby hst => by rw [HT.out]; exact list_rep (repL_mono (rq_rep hby ((hst _ (Nat.le_refl _) (row_lt hrow6)).trans hrow6) HK.out HV.out) (hy6 y (fun b h1 h2 => hst b (by rw [World.size_drew] at hge; omega) h2)))); clear hs9 hb6 hy6 hq3 hrow3 hrow4 hrow6 hbz3 hge
    go_wp2_with fail
    refine hK.out _ _ ?hsb9 (fun hHeld => ?_)
    case hsb9 => exact pa_pc hq4
    clear hK K
    (try simp only [Act.put, List.setIfInBounds_toArray, List.set_cons_zero, List.set_cons_succ])
    refine wpAnyH_ready (rs := [10]) (by kernel_rfl) (by simp) ?_
    refine AllReadyH.cons (o := ?_) ?hob10 ?hstb10 AllReadyH.nil
    case hob10 => (simp only [List.getElem?_toArray, List.getElem?_cons_zero, List.getElem?_cons_succ]; rfl)
    intro K hK
    go_simp
    go_at_call 83; refine (tlist_any _ _ _ _).mono ?_; rintro e w7 ⟨rfl, hb7⟩; have hq5 := pa_step hq4 hb7; have hst7 := stay_below (B := w1.heap.size) hb7; have hgz := hbz4.size; have hgz2 := hb7.size; clear hb7 hq4
    go_wp2_with fail
    refine hK.out _ _ ?hsb10 (fun hHeld => ?_)
    case hsb10 => exact pa_pc hq5
    clear hK K
    (try simp only [Act.put, List.setIfInBounds_toArray, List.set_cons_zero, List.set_cons_succ])
    refine wpAnyH_ready (rs := [11]) (by kernel_rfl) (by simp) ?_
    refine AllReadyH.cons (o := ?_) ?hob11 ?hstb11 AllReadyH.nil
    case hob11 => (simp only [List.getElem?_toArray, List.getElem?_cons_zero, List.getElem?_cons_succ]; rfl)
    intro K hK
    have b30 := hq5.2.2.2.2.2.2.2.2.2.2.2.1; have b31 := hq5.2.2.2.2.2.2.2.2.2.2.2.2.1; have b32 := hq5.2.2.2.2.2.2.2.2.2.2.2.2.2.1; have b33 := hq5.2.2.2.2.2.2.2.2.2.2.2.2.2.2.1; have b34 := hq5.2.2.2.2.2.2.2.2.2.2.2.2.2.2.2.1; have b3f := hq5.2.2.2.2.2.2.2.2.2.2.2.2.2.2.2.2.2.2.2.2.2.2.1; have b3l := cell_lt b30; go_simp
    have hq6 := pa_set3 hq5 (.int .i64 4) (.int .i64 0) (.float .f64 0) (.string ⟨#[]⟩) (.slice p6 (a + 1 + (l - bh)) c6); have hst8 : Stay w1.heap.size w6 (((((w7.setCell ⟨w.heap.size + 1 + 1 + 1, 0, none⟩ (.int .i64 4)).setCell ⟨w.heap.size + 1 + 1 + 1, 1, none⟩ (.int .i64 0)).setCell ⟨w.heap.size + 1 + 1 + 1, 2, none⟩ (.float .f64 0)).setCell ⟨w.heap.size + 1 + 1 + 1, 3, none⟩ (.string ⟨#[]⟩)).setCell ⟨w.heap.size + 1 + 1 + 1, 4, none⟩ (.slice p6 (a + 1 + (l - bh)) c6)) := fun b h1 h2 => (set5_other (g := w.heap.size + 1 + 1 + 1) (o := 0) (by omega)).trans (hst7 b h1 h2)
    go_wp2_with fail
    refine hK.out _ _ ?hsb11 (fun hHeld => ?_)
    case hsb11 => exact pa_pc hq6
    clear hK K
    (try simp only [Act.put, List.setIfInBounds_toArray, List.set_cons_zero, List.set_cons_succ])
    refine wpAnyH_done (by kernel_rfl) ?_ _
    have HG8 := Lib.hid (show PA p l c k q d K3 I3 F3 S3 q3 m3 d3 (.int .i64 4) (.int .i64 0) (.float .f64 0) (.string ⟨#[]⟩) (.slice p6 (a + 1 + (l - bh)) c6) (.int .i64 0) (.int .i64 0) (.float .f64 0) (.string ⟨#[]⟩) (.slice none 0 0) w (((((w7.setCell ⟨w.heap.size + 1 + 1 + 1, 0, none⟩ (.int .i64 4)).setCell ⟨w.heap.size + 1 + 1 + 1, 1, none⟩ (.int .i64 0)).setCell ⟨w.heap.size + 1 + 1 + 1, 2, none⟩ (.float .f64 0)).setCell ⟨w.heap.size + 1 + 1 + 1, 3, none⟩ (.string ⟨#[]⟩)).setCell ⟨w.heap.size + 1 + 1 + 1, 4, none⟩ (.slice p6 (a + 1 + (l - bh)) c6)) ∧ Stay w1.heap.size w6 (((((w7.setCell ⟨w.heap.size + 1 + 1 + 1, 0, none⟩ (.int .i64 4)).setCell ⟨w.heap.size + 1 + 1 + 1, 1, none⟩ (.int .i64 0)).setCell ⟨w.heap.size + 1 + 1 + 1, 2, none⟩ (.float .f64 0)).setCell ⟨w.heap.size + 1 + 1 + 1, 3, none⟩ (.string ⟨#[]⟩)).setCell ⟨w.heap.size + 1 + 1 + 1, 4, none⟩ (.slice p6 (a + 1 + (l - bh)) c6)) ∧ w6.heap.size ≤ ((((((w7.setCell ⟨w.heap.size + 1 + 1 + 1, 0, none⟩ (.int .i64 4)).setCell ⟨w.heap.size + 1 + 1 + 1, 1, none⟩ (.int .i64 0)).setCell ⟨w.heap.size + 1 + 1 + 1, 2, none⟩ (.float .f64 0)).setCell ⟨w.heap.size + 1 + 1 + 1, 3, none⟩ (.string ⟨#[]⟩)).setCell ⟨w.heap.size + 1 + 1 + 1, 4, none⟩ (.slice p6 (a + 1 + (l - bh)) c6))).heap.size from ⟨hq6, hst8, (set5_size w7 (w.heap.size + 1 + 1 + 1) 0 (.int .i64 4) (.int .i64 0) (.float .f64 0) (.string ⟨#[]⟩) (.slice p6 (a + 1 + (l - bh)) c6)) ▸ hgz2⟩)
    clear hq6 hst8 hq5 hst7 hgz hgz2 hHeld hbz4 s4
    revert HG8
    generalize (((((w7.setCell ⟨w.heap.size + 1 + 1 + 1, 0, none⟩ (.int .i64 4)).setCell ⟨w.heap.size + 1 + 1 + 1, 1, none⟩ (.int .i64 0)).setCell ⟨w.heap.size + 1 + 1 + 1, 2, none⟩ (.float .f64 0)).setCell ⟨w.heap.size + 1 + 1 + 1, 3, none⟩ (.string ⟨#[]⟩)).setCell ⟨w.heap.size + 1 + 1 + 1, 4, none⟩ (.slice p6 (a + 1 + (l - bh)) c6)) = W8
    intro HG8
    obtain ⟨hq8, hst8, hz8⟩ := HG8.out
    have hck := check_any (n + 3) 4 0 0 ⟨#[]⟩ p6 (a + 1 + (l - bh)) c6 T W8 (HY.out W8 (bel_step HBW.out hq8.2.2.2.2.2.2.2.2.2.2.2.2.2.2.2.2.2.2.2.2.2.1) hst8) HC.out.2.1 HC.out.2.2
    rw [HC.out.1] at hck
    have HCK := Lib.hid hck
    have HQ8 := Lib.hid hq8
    have HST8 := Lib.hid hst8
    have HZ8 := Lib.hid hz8
    have b30 := hq8.2.2.2.2.2.2.2.2.2.2.2.1
    have b31 := hq8.2.2.2.2.2.2.2.2.2.2.2.2.1
    have b32 := hq8.2.2.2.2.2.2.2.2.2.2.2.2.2.1
    have b33 := hq8.2.2.2.2.2.2.2.2.2.2.2.2.2.2.1
    have b34 := hq8.2.2.2.2.2.2.2.2.2.2.2.2.2.2.2.1
    clear hck hq8 hst8 hz8 HG8
    go_wp2_with fail
    go_at_call 37; refine HCK.out.mono ?_; rintro e w9 ⟨rfl, hb9⟩
    have HQ9 := Lib.hid (pa_step HQ8.out hb9)
    have HST9 := Lib.hid (show Stay w1.heap.size w6 w9 from fun b h1 h2 => (hb9.block b (Nat.lt_of_lt_of_le h2 HZ8.out)).trans (HST8.out b h1 h2))
    have HZ9 := Lib.hid (Nat.le_trans HZ8.out hb9.size)
    clear b30 b31 b32 b33 b34 hb9 HCK HQ8 HST8 HZ8
    go_upto_region 7 with fail
    have hp := HQ9.out
    have l0 := cell_lt hp.1; have l3 : w.heap.size + 1 + 1 + 1 < w9.heap.size := cell_lt hp.2.2.2.2.2.2.2.2.2.2.2.1
    clear hp
    refine wp_region_held_drew (S := (fun z => z.cell? ⟨w.heap.size, 4, none⟩ = some (.slice p l c) ∧ z.cell? ⟨w.heap.size + 1, 0, none⟩ = some (.int .i64 3) ∧ z.cell? ⟨w.heap.size + 1, 1, none⟩ = some (.int .i64 0) ∧ z.cell? ⟨w.heap.size + 1, 2, none⟩ = some (.float .f64 0) ∧ z.cell? ⟨w.heap.size + 1, 3, none⟩ = some (.string k) ∧ z.cell? ⟨w.heap.size + 1, 4, none⟩ = some (.slice q 0 d) ∧ z.cell? ⟨w.heap.size + 1 + 1, 0, none⟩ = some (.int .i64 K3) ∧ z.cell? ⟨w.heap.size + 1 + 1, 1, none⟩ = some (.int .i64 I3) ∧ z.cell? ⟨w.heap.size + 1 + 1, 2, none⟩ = some (.float .f64 F3) ∧ z.cell? ⟨w.heap.size + 1 + 1, 3, none⟩ = some (.string S3) ∧ z.cell? ⟨w.heap.size + 1 + 1, 4, none⟩ = some (.slice q3 m3 d3) ∧ z.cell? ⟨w.heap.size + 1 + 1 + 1, 0, none⟩ = some (.int .i64 4) ∧ z.cell? ⟨w.heap.size + 1 + 1 + 1, 1, none⟩ = some (.int .i64 0) ∧ z.cell? ⟨w.heap.size + 1 + 1 + 1, 2, none⟩ = some (.float .f64 0) ∧ z.cell? ⟨w.heap.size + 1 + 1 + 1, 3, none⟩ = some (.string ⟨#[]⟩) ∧ z.cell? ⟨w.heap.size + 1 + 1 + 1, 4, none⟩ = some (.slice p6 (a + 1 + (l - bh)) c6))) (by kernel_rfl) ?_ (fun hHeld => ?_)
    · exact pa_p3 (pa_drew HQ9.out)
    refine wpAnyH_take (i := 0) (oi := ?_) (v := ?_) ?hibx0 (by kernel_rfl) ?hfbx0 ?hrbx0 ?hQbx0 ?hybx0 (by assumption) ?restbx0
    case hibx0 => (simp only [List.getElem?_toArray, List.getElem?_cons_zero, List.getElem?_cons_succ]; rfl)
    case hfbx0 => kernel_rfl
    case hrbx0 => kernel_rfl
    case hybx0 => (refine Or.inl ⟨by rfl, ?_⟩; intro wS hSw; (try dsimp only at hSw); go_simp; (try with_reducible rfl))
    case hQbx0 => exact fun _ _ _ h => h
    (try simp only [Act.put, List.setIfInBounds_toArray, List.set_cons_zero, List.set_cons_succ])
    refine wpAnyH_take (i := 1) (oi := ?_) (v := ?_) ?hibx1 (by kernel_rfl) ?hfbx1 ?hrbx1 ?hQbx1 ?hybx1 (by assumption) ?restbx1
    case hibx1 => (simp only [List.getElem?_toArray, List.getElem?_cons_zero, List.getElem?_cons_succ]; rfl)
    case hfbx1 => kernel_rfl
    case hrbx1 => kernel_rfl
    case hybx1 => (refine Or.inl ⟨by rfl, ?_⟩; intro wS hSw; (try dsimp only at hSw); go_simp; (try with_reducible rfl))
    case hQbx1 => exact fun _ _ _ h => h
    (try simp only [Act.put, List.setIfInBounds_toArray, List.set_cons_zero, List.set_cons_succ])
    refine wpAnyH_take (i := 2) (oi := ?_) (v := ?_) ?hibx2 (by kernel_rfl) ?hfbx2 ?hrbx2 ?hQbx2 ?hybx2 (by assumption) ?restbx2
    case hibx2 => (simp only [List.getElem?_toArray, List.getElem?_cons_zero, List.getElem?_cons_succ]; rfl)
    case hfbx2 => kernel_rfl
    case hrbx2 => kernel_rfl
    case hybx2 => (refine Or.inl ⟨by rfl, ?_⟩; intro wS hSw; (try dsimp only at hSw); go_simp; (try with_reducible rfl))
    case hQbx2 => exact fun _ _ _ h => h
    (try simp only [Act.put, List.setIfInBounds_toArray, List.set_cons_zero, List.set_cons_succ])
    refine wpAnyH_take (i := 3) (oi := ?_) (v := ?_) ?hibx3 (by kernel_rfl) ?hfbx3 ?hrbx3 ?hQbx3 ?hybx3 (by assumption) ?restbx3
    case hibx3 => (simp only [List.getElem?_toArray, List.getElem?_cons_zero, List.getElem?_cons_succ]; rfl)
    case hfbx3 => kernel_rfl
    case hrbx3 => kernel_rfl
    case hybx3 => (refine Or.inl ⟨by rfl, ?_⟩; intro wS hSw; (try dsimp only at hSw); go_simp; (try with_reducible rfl))
    case hQbx3 => exact fun _ _ _ h => h
    (try simp only [Act.put, List.setIfInBounds_toArray, List.set_cons_zero, List.set_cons_succ])
    refine wpAnyH_take (i := 4) (oi := ?_) (v := ?_) ?hibx4 (by kernel_rfl) ?hfbx4 ?hrbx4 ?hQbx4 ?hybx4 (by assumption) ?restbx4
    case hibx4 => (simp only [List.getElem?_toArray, List.getElem?_cons_zero, List.getElem?_cons_succ]; rfl)
    case hfbx4 => kernel_rfl
    case hrbx4 => kernel_rfl
    case hybx4 => (refine Or.inl ⟨by rfl, ?_⟩; intro wS hSw; (try dsimp only at hSw); go_simp; (try with_reducible rfl))
    case hQbx4 => exact fun _ _ _ h => h
    (try simp only [Act.put, List.setIfInBounds_toArray, List.set_cons_zero, List.set_cons_succ])
    refine wpAnyH_take (i := 5) (oi := ?_) (v := ?_) ?hibx5 (by kernel_rfl) ?hfbx5 ?hrbx5 ?hQbx5 ?hybx5 (by assumption) ?restbx5
    case hibx5 => (simp only [List.getElem?_toArray, List.getElem?_cons_zero, List.getElem?_cons_succ]; rfl)
    case hfbx5 => kernel_rfl
    case hrbx5 => kernel_rfl
    case hybx5 => (refine Or.inl ⟨by rfl, ?_⟩; intro wS hSw; (try dsimp only at hSw); go_simp; (try with_reducible rfl))
    case hQbx5 => exact fun _ _ _ h => h
    (try simp only [Act.put, List.setIfInBounds_toArray, List.set_cons_zero, List.set_cons_succ])
    refine wpAnyH_ready (rs := [6]) (by kernel_rfl) (by simp) ?_
    refine AllReadyH.cons (o := ?_) ?hobx6 ?hstbx6 AllReadyH.nil
    case hobx6 => (simp only [List.getElem?_toArray, List.getElem?_cons_zero, List.getElem?_cons_succ]; rfl)
    intro K hK
    go_simp
    go_at_call 53; refine (HH.out _ (pa_drew HQ9.out).2.2.2.2.2.2.2.2.2.2.2.2.2.2.2.2.2.2.2.2.2.1).mono ?_; rintro e w10 ⟨u, rfl, hb10, hu⟩; obtain ⟨Ku, Iu, Fu, Su, qu, mu, du, rfl, _⟩ := rep_shape hu; have hq10 := pa_step (pa_drew HQ9.out) hb10; have hz10 := Nat.le_trans HZ9.out hb10.size; have hst10 : Stay w1.heap.size w6 w10 := (fun b h1 h2 => (hb10.block b (Nat.lt_of_lt_of_le h2 HZ9.out)).trans (HST9.out b h1 h2)); clear hb10
    go_wp2_with fail
    refine hK.out _ _ ?hsbx6 (fun hHeld => ?_)
    case hsbx6 => exact pa_p3 hq10
    clear hK K
    (try simp only [Act.put, List.setIfInBounds_toArray, List.set_cons_zero, List.set_cons_succ])
    refine wpAnyH_ready (rs := [7]) (by kernel_rfl) (by simp) ?_
    refine AllReadyH.cons (o := ?_) ?hobx7 ?hstbx7 AllReadyH.nil
    case hobx7 => (simp only [List.getElem?_toArray, List.getElem?_cons_zero, List.getElem?_cons_succ]; rfl)
    intro K hK
    have b30 := hq10.2.2.2.2.2.2.2.2.2.2.2.1; have b31 := hq10.2.2.2.2.2.2.2.2.2.2.2.2.1; have b32 := hq10.2.2.2.2.2.2.2.2.2.2.2.2.2.1; have b33 := hq10.2.2.2.2.2.2.2.2.2.2.2.2.2.2.1; have b34 := hq10.2.2.2.2.2.2.2.2.2.2.2.2.2.2.2.1; have b3f := hq10.2.2.2.2.2.2.2.2.2.2.2.2.2.2.2.2.2.2.2.2.2.2.1; have b3l := cell_lt b30; go_simp
    have hq11 := pa_set3 hq10 (.int .i64 4) (.int .i64 0) (.float .f64 0) (.string ⟨#[]⟩) (.slice p6 (a + 1 + (l - bh)) c6); have hst11 : Stay w1.heap.size w6 (((((w10.setCell ⟨w.heap.size + 1 + 1 + 1, 0, none⟩ (.int .i64 4)).setCell ⟨w.heap.size + 1 + 1 + 1, 1, none⟩ (.int .i64 0)).setCell ⟨w.heap.size + 1 + 1 + 1, 2, none⟩ (.float .f64 0)).setCell ⟨w.heap.size + 1 + 1 + 1, 3, none⟩ (.string ⟨#[]⟩)).setCell ⟨w.heap.size + 1 + 1 + 1, 4, none⟩ (.slice p6 (a + 1 + (l - bh)) c6)) := fun b h1 h2 => (set5_other (g := w.heap.size + 1 + 1 + 1) (o := 0) (by omega)).trans (hst10 b h1 h2); clear b30 b31 b32 b33 b34 b3f b3l
    go_wp2_with fail
    refine hK.out _ _ ?hsbx7 (fun hHeld => ?_)
    case hsbx7 => exact pa_p3 hq11
    clear hK K
    (try simp only [Act.put, List.setIfInBounds_toArray, List.set_cons_zero, List.set_cons_succ])
    refine wpAnyH_ready (rs := [8]) (by kernel_rfl) (by simp) ?_
    refine AllReadyH.cons (o := ?_) ?hobx8 ?hstbx8 AllReadyH.nil
    case hobx8 => (simp only [List.getElem?_toArray, List.getElem?_cons_zero, List.getElem?_cons_succ]; rfl)
    intro K hK
    have b40 := hq10.2.2.2.2.2.2.2.2.2.2.2.2.2.2.2.2.1; have b41 := hq10.2.2.2.2.2.2.2.2.2.2.2.2.2.2.2.2.2.1; have b42 := hq10.2.2.2.2.2.2.2.2.2.2.2.2.2.2.2.2.2.2.1; have b43 := hq10.2.2.2.2.2.2.2.2.2.2.2.2.2.2.2.2.2.2.2.1; have b44 := hq10.2.2.2.2.2.2.2.2.2.2.2.2.2.2.2.2.2.2.2.2.1; have b4f := hq10.2.2.2.2.2.2.2.2.2.2.2.2.2.2.2.2.2.2.2.2.2.2.2; have b4l := cell_lt b40; go_simp
    have hq12 := pa_set4 hq11 (.int .i64 Ku) (.int .i64 Iu) (.float .f64 Fu) (.string Su) (.slice qu mu du); have hst12 : Stay w1.heap.size w6 ((((((((((w10.setCell ⟨w.heap.size + 1 + 1 + 1, 0, none⟩ (.int .i64 4)).setCell ⟨w.heap.size + 1 + 1 + 1, 1, none⟩ (.int .i64 0)).setCell ⟨w.heap.size + 1 + 1 + 1, 2, none⟩ (.float .f64 0)).setCell ⟨w.heap.size + 1 + 1 + 1, 3, none⟩ (.string ⟨#[]⟩)).setCell ⟨w.heap.size + 1 + 1 + 1, 4, none⟩ (.slice p6 (a + 1 + (l - bh)) c6)).setCell ⟨w.heap.size + 1 + 1 + 1 + 1, 0, none⟩ (.int .i64 Ku)).setCell ⟨w.heap.size + 1 + 1 + 1 + 1, 1, none⟩ (.int .i64 Iu)).setCell ⟨w.heap.size + 1 + 1 + 1 + 1, 2, none⟩ (.float .f64 Fu)).setCell ⟨w.heap.size + 1 + 1 + 1 + 1, 3, none⟩ (.string Su)).setCell ⟨w.heap.size + 1 + 1 + 1 + 1, 4, none⟩ (.slice qu mu du)) := fun b h1 h2 => (set5_other (g := w.heap.size + 1 + 1 + 1 + 1) (o := 0) (by omega)).trans (hst11 b h1 h2); clear b40 b41 b42 b43 b44 b4f b4l
    go_wp2_with fail
    refine hK.out _ _ ?hsbx8 (fun hHeld => ?_)
    case hsbx8 => exact pa_p3 hq12
    clear hK K
    (try simp only [Act.put, List.setIfInBounds_toArray, List.set_cons_zero, List.set_cons_succ])
    refine wpAnyH_take (i := 9) (oi := ?_) (v := ?_) ?hibx9 (by kernel_rfl) ?hfbx9 ?hrbx9 ?hQbx9 ?hybx9 (by assumption) ?restbx9
    case hibx9 => (simp only [List.getElem?_toArray, List.getElem?_cons_zero, List.getElem?_cons_succ]; rfl)
    case hfbx9 => kernel_rfl
    case hrbx9 => kernel_rfl
    case hybx9 => (refine Or.inl ⟨by rfl, ?_⟩; intro wS hSw; (try dsimp only at hSw); go_simp; (try with_reducible rfl))
    case hQbx9 => exact fun _ _ _ h => h
    (try simp only [Act.put, List.setIfInBounds_toArray, List.set_cons_zero, List.set_cons_succ])
    refine wpAnyH_done (by kernel_rfl) ?_ _
    have HGF := Lib.hid (show PA p l c k q d K3 I3 F3 S3 q3 m3 d3 (.int .i64 4) (.int .i64 0) (.float .f64 0) (.string ⟨#[]⟩) (.slice p6 (a + 1 + (l - bh)) c6) (.int .i64 Ku) (.int .i64 Iu) (.float .f64 Fu) (.string Su) (.slice qu mu du) w ((((((((((w10.setCell ⟨w.heap.size + 1 + 1 + 1, 0, none⟩ (.int .i64 4)).setCell ⟨w.heap.size + 1 + 1 + 1, 1, none⟩ (.int .i64 0)).setCell ⟨w.heap.size + 1 + 1 + 1, 2, none⟩ (.float .f64 0)).setCell ⟨w.heap.size + 1 + 1 + 1, 3, none⟩ (.string ⟨#[]⟩)).setCell ⟨w.heap.size + 1 + 1 + 1, 4, none⟩ (.slice p6 (a + 1 + (l - bh)) c6)).setCell ⟨w.heap.size + 1 + 1 + 1 + 1, 0, none⟩ (.int .i64 Ku)).setCell ⟨w.heap.size + 1 + 1 + 1 + 1, 1, none⟩ (.int .i64 Iu)).setCell ⟨w.heap.size + 1 + 1 + 1 + 1, 2, none⟩ (.float .f64 Fu)).setCell ⟨w.heap.size + 1 + 1 + 1 + 1, 3, none⟩ (.string Su)).setCell ⟨w.heap.size + 1 + 1 + 1 + 1, 4, none⟩ (.slice qu mu du)) ∧ Stay w1.heap.size w6 ((((((((((w10.setCell ⟨w.heap.size + 1 + 1 + 1, 0, none⟩ (.int .i64 4)).setCell ⟨w.heap.size + 1 + 1 + 1, 1, none⟩ (.int .i64 0)).setCell ⟨w.heap.size + 1 + 1 + 1, 2, none⟩ (.float .f64 0)).setCell ⟨w.heap.size + 1 + 1 + 1, 3, none⟩ (.string ⟨#[]⟩)).setCell ⟨w.heap.size + 1 + 1 + 1, 4, none⟩ (.slice p6 (a + 1 + (l - bh)) c6)).setCell ⟨w.heap.size + 1 + 1 + 1 + 1, 0, none⟩ (.int .i64 Ku)).setCell ⟨w.heap.size + 1 + 1 + 1 + 1, 1, none⟩ (.int .i64 Iu)).setCell ⟨w.heap.size + 1 + 1 + 1 + 1, 2, none⟩ (.float .f64 Fu)).setCell ⟨w.heap.size + 1 + 1 + 1 + 1, 3, none⟩ (.string Su)).setCell ⟨w.heap.size + 1 + 1 + 1 + 1, 4, none⟩ (.slice qu mu du)) ∧ w6.heap.size ≤ (((((((((((w10.setCell ⟨w.heap.size + 1 + 1 + 1, 0, none⟩ (.int .i64 4)).setCell ⟨w.heap.size + 1 + 1 + 1, 1, none⟩ (.int .i64 0)).setCell ⟨w.heap.size + 1 + 1 + 1, 2, none⟩ (.float .f64 0)).setCell ⟨w.heap.size + 1 + 1 + 1, 3, none⟩ (.string ⟨#[]⟩)).setCell ⟨w.heap.size + 1 + 1 + 1, 4, none⟩ (.slice p6 (a + 1 + (l - bh)) c6)).setCell ⟨w.heap.size + 1 + 1 + 1 + 1, 0, none⟩ (.int .i64 Ku)).setCell ⟨w.heap.size + 1 + 1 + 1 + 1, 1, none⟩ (.int .i64 Iu)).setCell ⟨w.heap.size + 1 + 1 + 1 + 1, 2, none⟩ (.float .f64 Fu)).setCell ⟨w.heap.size + 1 + 1 + 1 + 1, 3, none⟩ (.string Su)).setCell ⟨w.heap.size + 1 + 1 + 1 + 1, 4, none⟩ (.slice qu mu du))).heap.size from ⟨hq12, hst12, by show w6.heap.size ≤ (set5 (set5 w10 (w.heap.size + 1 + 1 + 1) 0 (.int .i64 4) (.int .i64 0) (.float .f64 0) (.string ⟨#[]⟩) (.slice p6 (a + 1 + (l - bh)) c6)) (w.heap.size + 1 + 1 + 1 + 1) 0 (.int .i64 Ku) (.int .i64 Iu) (.float .f64 Fu) (.string Su) (.slice qu mu du)).heap.size; rw [set5_size, set5_size]; exact hz10⟩)
    have HU := Lib.hid hu
    clear hq12 hst12 hq11 hst11 hq10 hst10 hu hHeld
    revert HGF
    generalize ((((((((((w10.setCell ⟨w.heap.size + 1 + 1 + 1, 0, none⟩ (.int .i64 4)).setCell ⟨w.heap.size + 1 + 1 + 1, 1, none⟩ (.int .i64 0)).setCell ⟨w.heap.size + 1 + 1 + 1, 2, none⟩ (.float .f64 0)).setCell ⟨w.heap.size + 1 + 1 + 1, 3, none⟩ (.string ⟨#[]⟩)).setCell ⟨w.heap.size + 1 + 1 + 1, 4, none⟩ (.slice p6 (a + 1 + (l - bh)) c6)).setCell ⟨w.heap.size + 1 + 1 + 1 + 1, 0, none⟩ (.int .i64 Ku)).setCell ⟨w.heap.size + 1 + 1 + 1 + 1, 1, none⟩ (.int .i64 Iu)).setCell ⟨w.heap.size + 1 + 1 + 1 + 1, 2, none⟩ (.float .f64 Fu)).setCell ⟨w.heap.size + 1 + 1 + 1 + 1, 3, none⟩ (.string Su)).setCell ⟨w.heap.size + 1 + 1 + 1 + 1, 4, none⟩ (.slice qu mu du)) = Wf
    intro HGF
    have hqf := HGF.out.1
    have HYF := Lib.hid (show ∀ y, Below w0.heap.size w0 y → Stay w.heap.size Wf y → Rep y (n + 3) (.agg #[.int .i64 4, .int .i64 0, .float .f64 0, .string ⟨#[]⟩, .slice p6 (a + 1 + (l - bh)) c6]) T from fun y hby hst => HY.out y hby (fun b h1 h2 => (hst b (by omega) (Nat.lt_of_lt_of_le h2 HGF.out.2.2)).trans (HGF.out.2.1 b h1 h2)))
    have b30 := hqf.2.2.2.2.2.2.2.2.2.2.2.1
    have b31 := hqf.2.2.2.2.2.2.2.2.2.2.2.2.1
    have b32 := hqf.2.2.2.2.2.2.2.2.2.2.2.2.2.1
    have b33 := hqf.2.2.2.2.2.2.2.2.2.2.2.2.2.2.1
    have b34 := hqf.2.2.2.2.2.2.2.2.2.2.2.2.2.2.2.1
    have b40 := hqf.2.2.2.2.2.2.2.2.2.2.2.2.2.2.2.2.1
    have b41 := hqf.2.2.2.2.2.2.2.2.2.2.2.2.2.2.2.2.2.1
    have b42 := hqf.2.2.2.2.2.2.2.2.2.2.2.2.2.2.2.2.2.2.1
    have b43 := hqf.2.2.2.2.2.2.2.2.2.2.2.2.2.2.2.2.2.2.2.1
    have b44 := hqf.2.2.2.2.2.2.2.2.2.2.2.2.2.2.2.2.2.2.2.2.1
    clear hqf
    go_wp2
    refine bodyPost_ret (v := .tuple #[.agg #[.int .i64 4, .int .i64 0, .float .f64 0, .string ⟨#[]⟩, .slice p6 (a + 1 + (l - bh)) c6], .agg #[.int .i64 Ku, .int .i64 Iu, .float .f64 Fu, .string Su, .slice qu mu du], .int .i64 0]) (by simp [results, Try.results50, go_sem, b30, b31, b32, b33, b34, b40, b41, b42, b43, b44]) rfl ⟨_, _, rfl, HGF.out.1.2.2.2.2.2.2.2.2.2.2.2.2.2.2.2.2.2.2.2.2.2.1, HYF.out, HU.out⟩
end Num
end Go.Proofs.Ytamogpbbaihaaaa
