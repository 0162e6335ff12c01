/-
  Package orch: list, stepOf.
-/
import Derived.Test.YtpbfaffheigjcaaZA
import Derived.Test.YtpbfaffheigjcaaKV
import Derived.Test.YtpbfaffheigjcaaEQ
import Derived.Deep.RegionHeld3
import Derived.RegionTactic
import Derived.Deep.DeepCutAuto
namespace Go.Proofs.Ytpbfaffheigjcaa
open Go.RowKit
namespace Num
open Ints
set_option linter.unusedSimpArgs false
set_option linter.unusedVariables false
theorem bel_set3O {w W : World} (h : Below w.heap.size w W) {b : Nat} (hb : w.heap.size ≤ b) (x y z : Value) : Below w.heap.size w (((W.setCell ⟨b, 0, none⟩ x).setCell ⟨b, 1, none⟩ y).setCell ⟨b, 2, none⟩ z) := ((h.setCell (p := ⟨b, 0, none⟩) hb x).setCell (p := ⟨b, 1, none⟩) hb y).setCell (p := ⟨b, 2, none⟩) hb z
theorem set3_other {W : World} {b k : Nat} (h : k ≠ b) {x y z : Value} : (((W.setCell ⟨b, 0, none⟩ x).setCell ⟨b, 1, none⟩ y).setCell ⟨b, 2, none⟩ z).heap[k]? = W.heap[k]? := by
  iterate 3 rw [Below.heap_setCell _ _ _ _ (by exact h)]
theorem olist_any (p : Option Addr) (l c : Nat) (w : World) : Calls Try.prog 57 #[.slice p l c] w fun e w' => e = .returned (listV p l c) ∧ Below w.heap.size w w' := by
  go_enter Try.func57, Try.ntmps57
  go_wp2
  exact bodyPost_ret (v := listV p l c) (by simp [results, Try.results57, go_sem]) rfl ⟨rfl, ((Below.refl _ _).alloc (Nat.le_refl _) _)⟩
/-- A step as a value. -/
def stepV (n : Nat) (s : StepD (n + 1)) : VT (n + 2) := listW ((3, 0, 0, s.1, []) :: (3, 0, 0, s.2.1, []) :: s.2.2)
def CleanL (n : Nat) (L : List (VT n)) : Prop := deepT (n + 1) (listW L) 64 = false ∧ partsT (n + 1) (listW L) ≤ 1000 ∧ walkM (measT (n + 1) (listW L)) = true
theorem clean_lw (n : Nat) (L : List (VT n)) : cleanT (n + 1) (listW L) = listW (L.map (cleanT n)) := rfl
/-- Clean of a list that may be walked. -/
theorem vclean_list (n : Nat) (p : Option Addr) (l c : Nat) (L : List (VT n)) (w : World) (hr : RepL w (Rep w n) p l c L) (h : CleanL n L) :
    Calls Try.prog 23 #[listV p l c] w fun e w' => ∃ q m d, e = .returned (listV q m d) ∧ Below w.heap.size w w' ∧ RepC w' (n + 1) (fun b => w.heap.size ≤ b) (listV q m d) (listW (L.map (cleanT n))) := by
  refine (vclean_any (n + 1) (listV p l c) (listW L) w (list_rep hr) h.1 h.2.1 h.2.2).mono ?_
  rintro e w' ⟨v', rfl, hb, hr'⟩
  rw [clean_lw] at hr'
  have hr2 := hr'
  obtain ⟨q, m, d, rfl, _⟩ := hr2
  exact ⟨q, m, d, rfl, hb, hr'⟩
theorem repL_drop2 {w : World} {n : Nat} {b off l c : Nat} {A B : VT n} {L : List (VT n)} (h : RepL w (Rep w n) (some ⟨b, off, none⟩) l c (A :: B :: L)) : RepL w (Rep w n) (if c = 2 then some ⟨b, off, none⟩ else some ⟨b, off + 10, none⟩) (l - 2) (c - 2) L := by
  obtain ⟨h1, h2, h3, h4⟩ := h
  have hl : L.length + 2 = l := h1
  refine ⟨by omega, by omega, by omega, fun h0 => ?_⟩
  obtain ⟨b', off', e, hi⟩ := h4 (by omega)
  cases e
  rw [if_neg (by omega)]
  refine ⟨b, off + 10, rfl, fun i hi' => ?_⟩
  obtain ⟨v0, v1, v2, v3, v4, c0, c1, c2, c3, c4, hr⟩ := hi (i + 2) (by simp; omega)
  have e : off + (i + 2) * 5 = off + 10 + i * 5 := by omega
  rw [e] at c0 c1 c2 c3 c4
  exact ⟨v0, v1, v2, v3, v4, c0, c1, c2, c3, c4, hr⟩
theorem arg_txt {w : World} {n : Nat} {b off l c : Nat} {L : List (VT (n + 1))} (h : RepL w (Rep w (n + 1)) (some ⟨b, off, none⟩) l c L) {i : Nat} (hi : i < L.length) {s : ByteArray} (hs : L[i] = (3, 0, 0, s, [])) : w.cell? ⟨b, off + i * 5 + 3, none⟩ = some (.string s) := by
  obtain ⟨h1, h2, h3, h4⟩ := h
  obtain ⟨b', off', e, hit⟩ := h4 (by omega)
  cases e
  obtain ⟨v0, v1, v2, v3, v4, c0, c1, c2, c3, c4, hr⟩ := hit i hi
  rw [hs] at hr
  obtain ⟨q, m, d, hv, _⟩ := hr
  injection hv with hv
  simp only [Array.mk.injEq, List.cons.injEq, and_true] at hv
  obtain ⟨_, _, _, rfl, _⟩ := hv
  exact c3
set_option maxRecDepth 100000 in
set_option maxHeartbeats 4000000 in
/-- stepOf of a list of two texts and whatever may be cleaned. -/
theorem step_of_any (n : Nat) (b off l c : Nat) (g m : ByteArray) (A : List (VT (n + 1))) (w : World) (hr : RepL w (Rep w (n + 1)) (some ⟨b, off, none⟩) l c ((3, 0, 0, g, []) :: (3, 0, 0, m, []) :: A)) (hc : CleanL (n + 1) A) :
    Calls Try.prog 32 #[.slice (some ⟨b, off, none⟩) l c] w fun e w' => ∃ q k d, e = .returned (.agg #[.string g, .string m, .slice q k d]) ∧ Below w.heap.size w w' ∧ RepC w' (n + 2) (fun b => w.heap.size ≤ b) (listV q k d) (listW (A.map (cleanT (n + 1)))) := by
  have hl : A.length + 2 = l := hr.1
  have hlc := hr.2.1
  have hcm := hr.2.2.1
  unfold maxLen at hcm
  have cg := arg_txt hr (i := 0) (by simp) rfl
  have cm := arg_txt hr (i := 1) (by simp) rfl
  simp only [Nat.zero_mul, Nat.one_mul, Nat.add_zero] at cg cm
  have HB0 := Lib.hid (bel_alloc (Below.refl w.heap.size w) (.cells #[.string ⟨#[]⟩, .string ⟨#[]⟩, .slice none 0 0] 46))
  have HBD := Lib.hid (Below.drew HB0.out)
  have HROW := Lib.hid (row_alloc w #[.string ⟨#[]⟩, .string ⟨#[]⟩, .slice none 0 0] 46)
  have HRD := Lib.hid (show (w.alloc (.cells #[.string ⟨#[]⟩, .string ⟨#[]⟩, .slice none 0 0] 46)).drew.heap[w.heap.size]? = some (.cells #[.string ⟨#[]⟩, .string ⟨#[]⟩, .slice none 0 0] 46 (0, 0)) from HROW.out)
  have CG := Lib.hid cg
  have CM := Lib.hid cm
  have HC0 := Lib.hid (show (w.alloc (.cells #[.string ⟨#[]⟩, .string ⟨#[]⟩, .slice none 0 0] 46)).drew.cell? ⟨b, off + 3, none⟩ = some (.string g) ∧ (w.alloc (.cells #[.string ⟨#[]⟩, .string ⟨#[]⟩, .slice none 0 0] 46)).drew.cell? ⟨b, off + 5 + 3, none⟩ = some (.string m) from ⟨cell_keep HBD.out cg, cell_keep HBD.out cm⟩)
  obtain ⟨q9, hq9⟩ : ∃ q9, (if c = 2 then some ⟨b, off, none⟩ else some (⟨b, off + 10, none⟩ : Addr)) = q9 := ⟨_, rfl⟩
  have hd := repL_drop2 hr
  rw [hq9] at hd
  have HCL := Lib.hid (fun W (hb : Below w.heap.size w W) => vclean_list (n + 1) q9 (l - 2) (c - 2) A W (repL_keep hb (fun v T hv => rep_keep hb _ _ _ hv) hd) hc)
  have h0 : (0 : Int) < (l : Int) := by omega
  have n0 : 0 < l := by omega
  have n1 : 1 < l := by omega
  have n2 : 2 ≤ l := by omega
  have h1 : (1 : Int) < (l : Int) := by omega
  have h2 : (2 : Int) ≤ (l : Int) := by omega
  have h3 : (l : Int) ≤ (c : Int) := by omega
  have hfld : ∀ (q : Option Addr) (m d : Nat) (w : World), (Instr.field 27 (listV q m d) 4).run Try.prog w = .ok (.slice q m d) w := fun _ _ _ _ => by kernel_rfl
  clear hr hd hc cg cm hl hlc hcm
  go_enter Try.func32, Try.ntmps32
  go_upto_region 1 with fail
  refine wp_region_held_drew (S := (fun z => z.cell? ⟨b, off + 3, none⟩ = some (.string g) ∧ z.cell? ⟨b, off + 5 + 3, none⟩ = some (.string m))) (by kernel_rfl) ?_ (fun hHeld => ?_)
  · exact HC0.out
  refine wpAnyH_take (i := 0) (oi := ?_) (v := ?_) ?hia0 (by kernel_rfl) ?hfa0 ?hra0 ?hQa0 ?hya0 (by assumption) ?resta0
  case hia0 => (simp only [List.getElem?_toArray, List.getElem?_cons_zero, List.getElem?_cons_succ]; rfl)
  case hfa0 => kernel_rfl
  case hra0 => kernel_rfl
  case hya0 => (refine Or.inl ⟨by rfl, ?_⟩; intro wS hSw; (try dsimp only at hSw); go_simp; (try with_reducible rfl))
  case hQa0 => exact fun _ _ _ h => h
  (try simp only [Act.put, List.setIfInBounds_toArray, List.set_cons_zero, List.set_cons_succ])
  refine wpAnyH_take (i := 1) (oi := ?_) (v := ?_) ?hia1 (by kernel_rfl) ?hfa1 ?hra1 ?hQa1 ?hya1 (by assumption) ?resta1
  case hia1 => (simp only [List.getElem?_toArray, List.getElem?_cons_zero, List.getElem?_cons_succ]; rfl)
  case hfa1 => kernel_rfl
  case hra1 => kernel_rfl
  case hya1 => (refine Or.inl ⟨by rfl, ?_⟩; intro wS hSw; (try dsimp only at hSw); go_simp; (try with_reducible rfl))
  case hQa1 => exact fun _ _ _ h => h
  (try simp only [Act.put, List.setIfInBounds_toArray, List.set_cons_zero, List.set_cons_succ])
  refine wpAnyH_take (i := 2) (oi := ?_) (v := ?_) ?hia2 (by kernel_rfl) ?hfa2 ?hra2 ?hQa2 ?hya2 (by assumption) ?resta2
  case hia2 => (simp only [List.getElem?_toArray, List.getElem?_cons_zero, List.getElem?_cons_succ]; rfl)
  case hfa2 => kernel_rfl
  case hra2 => kernel_rfl
  case hya2 => (refine Or.inl ⟨by rfl, ?_⟩; intro wS hSw; (try dsimp only at hSw); go_simp; (try with_reducible rfl))
  case hQa2 => exact fun _ _ _ h => h
  (try simp only [Act.put, List.setIfInBounds_toArray, List.set_cons_zero, List.set_cons_succ])
  refine wpAnyH_take (i := 3) (oi := ?_) (v := ?_) ?hia3 (by kernel_rfl) ?hfa3 ?hra3 ?hQa3 ?hya3 (by assumption) ?resta3
  case hia3 => (simp only [List.getElem?_toArray, List.getElem?_cons_zero, List.getElem?_cons_succ]; rfl)
  case hfa3 => kernel_rfl
  case hra3 => kernel_rfl
  case hya3 => (refine Or.inl ⟨by rfl, ?_⟩; intro wS hSw; (try dsimp only at hSw); go_simp; (try with_reducible rfl))
  case hQa3 => exact fun _ _ _ h => h
  (try simp only [Act.put, List.setIfInBounds_toArray, List.set_cons_zero, List.set_cons_succ])
  refine wpAnyH_take (i := 4) (oi := ?_) (v := ?_) ?hia4 (by kernel_rfl) ?hfa4 ?hra4 ?hQa4 ?hya4 (by assumption) ?resta4
  case hia4 => (simp only [List.getElem?_toArray, List.getElem?_cons_zero, List.getElem?_cons_succ]; rfl)
  case hfa4 => kernel_rfl
  case hra4 => kernel_rfl
  case hya4 => (refine Or.inl ⟨by rfl, ?_⟩; intro wS hSw; (try dsimp only at hSw); go_simp; (try with_reducible rfl))
  case hQa4 => exact fun _ _ _ h => h
  (try simp only [Act.put, List.setIfInBounds_toArray, List.set_cons_zero, List.set_cons_succ])
  refine wpAnyH_take (i := 5) (oi := ?_) (v := ?_) ?hia5 (by kernel_rfl) ?hfa5 ?hra5 ?hQa5 ?hya5 (by assumption) ?resta5
  case hia5 => (simp only [List.getElem?_toArray, List.getElem?_cons_zero, List.getElem?_cons_succ]; rfl)
  case hfa5 => kernel_rfl
  case hra5 => kernel_rfl
  case hya5 => (refine Or.inl ⟨by rfl, ?_⟩; intro wS hSw; (try dsimp only at hSw); go_simp; (try with_reducible rfl))
  case hQa5 => exact fun _ _ _ h => h
  (try simp only [Act.put, List.setIfInBounds_toArray, List.set_cons_zero, List.set_cons_succ])
  refine wpAnyH_take (i := 6) (oi := ?_) (v := ?_) ?hia6 (by kernel_rfl) ?hfa6 ?hra6 ?hQa6 ?hya6 (by assumption) ?resta6
  case hia6 => (simp only [List.getElem?_toArray, List.getElem?_cons_zero, List.getElem?_cons_succ]; rfl)
  case hfa6 => kernel_rfl
  case hra6 => kernel_rfl
  case hya6 => (refine Or.inl ⟨by rfl, ?_⟩; intro wS hSw; (try dsimp only at hSw); go_simp; (try with_reducible rfl))
  case hQa6 => exact fun _ _ _ h => h
  (try simp only [Act.put, List.setIfInBounds_toArray, List.set_cons_zero, List.set_cons_succ])
  refine wpAnyH_take (i := 7) (oi := ?_) (v := ?_) ?hia7 (by kernel_rfl) ?hfa7 ?hra7 ?hQa7 ?hya7 (by assumption) ?resta7
  case hia7 => (simp only [List.getElem?_toArray, List.getElem?_cons_zero, List.getElem?_cons_succ]; rfl)
  case hfa7 => kernel_rfl
  case hra7 => kernel_rfl
  case hya7 => (refine Or.inl ⟨by rfl, ?_⟩; intro wS hSw; (try dsimp only at hSw); go_simp; (try with_reducible rfl))
  case hQa7 => exact fun _ _ _ h => h
  (try simp only [Act.put, List.setIfInBounds_toArray, List.set_cons_zero, List.set_cons_succ])
  refine wpAnyH_take (i := 8) (oi := ?_) (v := ?_) ?hia8 (by kernel_rfl) ?hfa8 ?hra8 ?hQa8 ?hya8 (by assumption) ?resta8
  case hia8 => (simp only [List.getElem?_toArray, List.getElem?_cons_zero, List.getElem?_cons_succ]; rfl)
  case hfa8 => kernel_rfl
  case hra8 => kernel_rfl
  case hya8 => (refine Or.inl ⟨by rfl, ?_⟩; intro wS hSw; (try dsimp only at hSw); go_simp; (try with_reducible rfl))
  case hQa8 => exact fun _ _ _ h => h
  (try simp only [Act.put, List.setIfInBounds_toArray, List.set_cons_zero, List.set_cons_succ])
  refine wpAnyH_take (i := 9) (oi := ?_) (v := ?_) ?hia9 (by kernel_rfl) ?hfa9 ?hra9 ?hQa9 ?hya9 (by assumption) ?resta9
  case hia9 => (simp only [List.getElem?_toArray, List.getElem?_cons_zero, List.getElem?_cons_succ]; rfl)
  case hfa9 => kernel_rfl
  case hra9 => kernel_rfl
  case hya9 => (refine Or.inl ⟨by rfl, ?_⟩; intro wS hSw; (try dsimp only at hSw); go_simp; (try with_reducible rfl))
  case hQa9 => exact fun _ _ _ h => h
  (try simp only [Act.put, List.setIfInBounds_toArray, List.set_cons_zero, List.set_cons_succ])
  refine wpAnyH_ready (rs := [10]) (by kernel_rfl) (by simp) ?_
  refine AllReadyH.cons (o := ?_) ?hob10 ?hstb10 AllReadyH.nil
  case hob10 => (simp only [List.getElem?_toArray, List.getElem?_cons_zero, List.getElem?_cons_succ]; rfl)
  intro K hK
  go_simp
  go_at_call 57; refine (olist_any _ _ _ _).mono ?_; rintro e w3 ⟨rfl, hb3⟩; have HB3 := Lib.hid (bel_step HBD.out hb3); have HR3 := Lib.hid (row_step HRD.out hb3); clear hb3
  go_wp2_with fail
  refine hK.out _ _ ?hsb10 (fun hHeld => ?_)
  case hsb10 => exact ⟨cell_keep HB3.out CG.out, cell_keep HB3.out CM.out⟩
  clear hK K
  (try simp only [Act.put, List.setIfInBounds_toArray, List.set_cons_zero, List.set_cons_succ])
  refine wpAnyH_ready (rs := [11]) (by kernel_rfl) (by simp) ?_
  refine AllReadyH.cons (o := ?_) ?hoc11 ?hstc11 AllReadyH.nil
  case hoc11 => (simp only [List.getElem?_toArray, List.getElem?_cons_zero, List.getElem?_cons_succ]; rfl)
  intro K hK
  go_simp
  go_at_call 23; refine (HCL.out _ HB3.out).mono ?_; rintro e w4 ⟨q4, k4, d4, rfl, hb4, hr4⟩; have HB4 := Lib.hid (bel_step HB3.out hb4); have HR4 := Lib.hid (row_step HR3.out hb4); have HV4 := Lib.hid (repC_mono _ _ _ _ _ (fun b h => Nat.lt_of_lt_of_le (row_lt HR3.out) h) hr4); clear hb4 hr4
  go_wp2_with fail
  refine hK.out _ _ ?hsc11 (fun hHeld => ?_)
  case hsc11 => exact ⟨cell_keep HB4.out CG.out, cell_keep HB4.out CM.out⟩
  clear hK K
  (try simp only [Act.put, List.setIfInBounds_toArray, List.set_cons_zero, List.set_cons_succ])
  refine wpAnyH_take (i := 12) (oi := ?_) (v := ?_) ?hid12 (by kernel_rfl) ?hfd12 ?hrd12 ?hQd12 ?hyd12 (by assumption) ?restd12
  case hid12 => (simp only [List.getElem?_toArray, List.getElem?_cons_zero, List.getElem?_cons_succ]; rfl)
  case hfd12 => kernel_rfl
  case hrd12 => kernel_rfl
  case hyd12 => (refine Or.inl ⟨by rfl, ?_⟩; intro wS hSw; (try dsimp only at hSw); go_simp; (try with_reducible rfl))
  case hQd12 => exact fun _ _ _ h => h
  (try simp only [Act.put, List.setIfInBounds_toArray, List.set_cons_zero, List.set_cons_succ])
  refine wpAnyH_take (i := 13) (oi := ?_) (v := ?_) ?hid13 (by kernel_rfl) ?hfd13 ?hrd13 ?hQd13 ?hyd13 (by assumption) ?restd13
  case hid13 => (simp only [List.getElem?_toArray, List.getElem?_cons_zero, List.getElem?_cons_succ]; rfl)
  case hfd13 => kernel_rfl
  case hrd13 => kernel_rfl
  case hyd13 => (refine Or.inl ⟨by rfl, ?_⟩; intro wS hSw; (try dsimp only at hSw); go_simp; (try with_reducible rfl))
  case hQd13 => exact fun _ _ _ h => h
  (try simp only [Act.put, List.setIfInBounds_toArray, List.set_cons_zero, List.set_cons_succ])
  have hbl : b < w.heap.size := cell_lt CG.out
  have HW5 := Lib.hid (bel_set3O HB4.out (Nat.le_refl _) (.string g) (.string m) (.slice q4 k4 d4))
  refine wpAnyH_ready (rs := [14]) (by kernel_rfl) (by simp) ?_
  refine AllReadyH.cons (o := ?_) ?hoe14 ?hste14 AllReadyH.nil
  case hoe14 => (simp only [List.getElem?_toArray, List.getElem?_cons_zero, List.getElem?_cons_succ]; rfl)
  intro K hK
  have bb0 := row_cell HR4.out 0; have bb1 := row_cell HR4.out 1; have bb2 := row_cell HR4.out 2; have bbf := row_frz HR4.out; have bbl := row_lt HR4.out; go_simp
  clear bb0 bb1 bb2 bbf bbl
  skip
  refine hK.out _ _ ?hse14 (fun hHeld => ?_)
  case hse14 => exact ⟨cell_keep HW5.out CG.out, cell_keep HW5.out CM.out⟩
  clear hK K
  (try simp only [Act.put, List.setIfInBounds_toArray, List.set_cons_zero, List.set_cons_succ])
  refine wpAnyH_done (by kernel_rfl) ?_ _
  have bb0 := row_cell HR4.out 0; have bb1 := row_cell HR4.out 1; have bb2 := row_cell HR4.out 2; have bbf := row_frz HR4.out; have bbl := row_lt HR4.out
  go_wp2
  refine bodyPost_ret (v := .agg #[.string g, .string m, .slice q4 k4 d4]) (by simp [results, Try.results32, go_sem, World.cell?_setCell_same, World.cell?_setCell_other, bb0, bb1, bb2]) rfl ⟨q4, k4, d4, rfl, HW5.out, ?_⟩
  exact repC_mono _ _ _ _ _ (fun b hb => Nat.le_of_lt hb) (repC_keep _ _ _ _ (fun b hb => set3_other (by omega)) HV4.out)
end Num
end Go.Proofs.Ytpbfaffheigjcaa
