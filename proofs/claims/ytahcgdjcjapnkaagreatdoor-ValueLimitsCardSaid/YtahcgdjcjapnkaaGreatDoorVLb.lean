/-
  ValueLimits: the walk, by what is made.
-/
import Derived.Test.YtahcgdjcjapnkaaGreatDoorVLa
import Derived.Test.YtahcgdjcjapnkaaGreatDoorVKo
import Derived.Test.YtahcgdjcjapnkaaGreatDoorVAq
import Derived.Deep.RegionHeld3
import Derived.Outline
namespace Go.Proofs.YtahcgdjcjapnkaaGreatDoor
open Go.RowKit
namespace Num
open Ints
set_option linter.unusedSimpArgs false
set_option linter.unusedVariables false
theorem set5_rowL {w : World} {b : Nat} {x0 x1 x2 x3 x4 : Value} {t : TypeId} (h : w.heap[b]? = some (.cells #[x0, x1, x2, x3, x4] t (0, 0))) (v0 v1 v2 v3 v4 : Value) :
    (((((w.setCell ⟨b, 0, none⟩ v0).setCell ⟨b, 1, none⟩ v1).setCell ⟨b, 2, none⟩ v2).setCell ⟨b, 3, none⟩ v3).setCell ⟨b, 4, none⟩ v4).heap[b]? = some (.cells #[v0, v1, v2, v3, v4] t (0, 0)) := by
  simp [World.setCell, Array.getElem?_modify, h]
theorem set5_heapL {w : World} {b k : Nat} (h : k ≠ b) (v0 v1 v2 v3 v4 : Value) : (((((w.setCell ⟨b, 0, none⟩ v0).setCell ⟨b, 1, none⟩ v1).setCell ⟨b, 2, none⟩ v2).setCell ⟨b, 3, none⟩ v3).setCell ⟨b, 4, none⟩ v4).heap[k]? = w.heap[k]? := by
  rw [Below.heap_setCell _ _ _ _ h, Below.heap_setCell _ _ _ _ h, Below.heap_setCell _ _ _ _ h, Below.heap_setCell _ _ _ _ h, Below.heap_setCell _ _ _ _ h]
/-- A text of so many noughts. -/
def nulS (N : Nat) : ByteArray := strOfI (List.replicate N 0)
theorem nulS_size (N : Nat) : (nulS N).size = N := by unfold nulS strOfI; simp [ByteArray.size]
theorem mk_bytes (N : Nat) (hN : N ≤ 1000) (x : Int) (hx : x = (N : Int)) (W : World) : (Instr.makeSlice 28 (.int .i64 x) (.int .i64 x)).run Tryz.prog W = .ok (.slice (some ⟨W.heap.size, 0, none⟩) N N) (W.alloc (.cells (zs N) 5)) := by
  subst hx
  obtain ⟨i0, hi, hz0, hz1, hz2⟩ := info_parts info_u8
  have h := run_makeSlice W 28 5 i0 (.int .u8 0) Tryz.underlying28 hi hz0 .i64 .i64 (N : Int) (N : Int) (by omega) (by omega) (by rw [hz1]; omega) (by rw [hz2]; omega) (by omega)
  rw [h, hz1, Int.toNat_natCast]
  rfl
theorem cv_bytes (N : Nat) (hN : N ≤ 1000) (W : World) : (convert 28 9 (.slice (some ⟨W.heap.size, 0, none⟩) N N)).run Tryz.prog (W.alloc (.cells (zs N) 5)) = .ok (.string (nulS N)) (W.alloc (.cells (zs N) 5)) := by
  refine str_of_own (base := 0) (xs := List.replicate N 0) ?_
  rw [List.length_replicate, List.map_replicate]
  refine ⟨by simp, .inr ⟨W.heap.size, N, zs N, rfl, Nat.zero_le _, row_alloc W _ _, Nat.le_refl _, by unfold maxLen; omega, by rw [zs_size]; omega, ?_⟩⟩
  have e : (zs N).toList = List.replicate N (Value.int .u8 0) := by
    unfold zs
    rw [Nat.mul_one]
    exact toList_madeCells_one _ _
  rw [e, Nat.mul_one, List.take_of_length_le (by simp)]
theorem info_vv : (Tryz.prog.info? 26).map (fun i => (i.zero, i.size, i.bytes)) = some (some (.agg #[.int .i64 0, .int .i64 0, .float .f64 0, .string ⟨#[]⟩, .slice none 0 0]), 5, 64) := by kernel_rfl
def zv (N : Nat) : Array Value := madeCells (Value.cells (.agg #[.int .i64 0, .int .i64 0, .float .f64 0, .string ⟨#[]⟩, .slice none 0 0])) (N * 5)
theorem mk_vals (N : Nat) (hN : N ≤ 1000) (x : Int) (hx : x = (N : Int)) (W : World) : (Instr.makeSlice 24 (.int .i64 x) (.int .i64 x)).run Tryz.prog W = .ok (.slice (some ⟨W.heap.size, 0, none⟩) N N) (W.alloc (.cells (zv N) 26)) := by
  subst hx
  obtain ⟨i0, hi, hz0, hz1, hz2⟩ := info_parts info_vv
  have h := run_makeSlice W 24 26 i0 _ Tryz.underlying24 hi hz0 .i64 .i64 (N : Int) (N : Int) (by omega) (by omega) (by rw [hz1]; omega) (by rw [hz2]; omega) (by omega)
  rw [h, hz1, Int.toNat_natCast]
  rfl
theorem zv_at (N i j : Nat) (hi : i < N) (hj : j < 5) : (zv N)[i * 5 + j]? = (#[.int .i64 0, .int .i64 0, .float .f64 0, .string ⟨#[]⟩, .slice none 0 0] : Array Value)[j]? := by
  unfold zv madeCells
  rw [Array.getElem?_map, Array.getElem?_range, if_pos (by omega), Option.map_some]
  have e : (i * 5 + j) % (Value.cells (.agg #[.int .i64 0, .int .i64 0, .float .f64 0, .string ⟨#[]⟩, .slice none 0 0])).size = j := by
    show (i * 5 + j) % 5 = j
    omega
  rw [e]
  have h : j = 0 ∨ j = 1 ∨ j = 2 ∨ j = 3 ∨ j = 4 := by omega
  rcases h with rfl | rfl | rfl | rfl | rfl <;> rfl
theorem rep_vals {w : World} {g N : Nat} (hN : N ≤ 1000) (hr : w.heap[g]? = some (.cells (zv N) 26 (0, 0))) : Rep w 2 (.agg #[.int .i64 4, .int .i64 0, .float .f64 0, .string ⟨#[]⟩, .slice (some ⟨g, 0, none⟩) N N]) (4, 0, 0, ⟨#[]⟩, List.replicate N (nilV 0)) := by
  refine ⟨some ⟨g, 0, none⟩, N, N, rfl, (show okI (4 : Int) from by decide), (show okI (0 : Int) from by decide), (show 0 < 2 ^ 64 from by decide), (show (⟨#[]⟩ : ByteArray).size ≤ maxLen from by decide), by rw [List.length_replicate], Nat.le_refl _, by unfold maxLen; omega, fun _ => ⟨g, 0, rfl, fun i hi => ?_⟩⟩
  have hiN : i < N := by rw [List.length_replicate] at hi; exact hi
  have hc : ∀ j, j < 5 → w.cell? ⟨g, 0 + i * 5 + j, none⟩ = (#[.int .i64 0, .int .i64 0, .float .f64 0, .string ⟨#[]⟩, .slice none 0 0] : Array Value)[j]? := fun j hj => by
    rw [Nat.zero_add, row_cell hr, zv_at N i j hiN hj]
  refine ⟨_, _, _, _, _, hc 0 (by omega), hc 1 (by omega), hc 2 (by omega), hc 3 (by omega), hc 4 (by omega), ?_⟩
  rw [List.getElem_replicate]
  exact rep_leaf w 0 0 0 ⟨#[]⟩ (by decide) (by decide) (by decide) (by decide)
/-- One list more round what the box holds. -/
theorem nest_step {w w1 w2 : World} {B : Nat} {n : Nat} {c0 c1 c2 c3 c4 : Value} {T : VT n} (hB : B < w.heap.size) (h : RepS (fun b => b ≠ B) w n (.agg #[c0, c1, c2, c3, c4]) T) (h1 : w1 = w.alloc (.cells #[c0, c1, c2, c3, c4] 26)) (hb : Below w1.heap.size w1 w2) (v0 v1 v2 v3 v4 : Value) :
    RepS (fun b => b ≠ B) (((((w2.setCell ⟨B, 0, none⟩ v0).setCell ⟨B, 1, none⟩ v1).setCell ⟨B, 2, none⟩ v2).setCell ⟨B, 3, none⟩ v3).setCell ⟨B, 4, none⟩ v4) (n + 1) (.agg #[.int .i64 4, .int .i64 0, .float .f64 0, .string ⟨#[]⟩, .slice (some ⟨w.heap.size, 0, none⟩) 1 1]) (4, 0, 0, ⟨#[]⟩, [T]) := by
  subst h1
  have hsz : (w.alloc (.cells #[c0, c1, c2, c3, c4] 26)).heap.size = w.heap.size + 1 := World.size_alloc _ _
  have hrow := row_step (row_alloc w #[c0, c1, c2, c3, c4] 26) hb
  have hrow2 : (((((w2.setCell ⟨B, 0, none⟩ v0).setCell ⟨B, 1, none⟩ v1).setCell ⟨B, 2, none⟩ v2).setCell ⟨B, 3, none⟩ v3).setCell ⟨B, 4, none⟩ v4).heap[w.heap.size]? = some (.cells #[c0, c1, c2, c3, c4] 26 (0, 0)) := (set5_heapL (by omega) _ _ _ _ _).trans hrow
  have hk : ∀ b, (b ≠ B ∧ b < w.heap.size) → (((((w2.setCell ⟨B, 0, none⟩ v0).setCell ⟨B, 1, none⟩ v1).setCell ⟨B, 2, none⟩ v2).setCell ⟨B, 3, none⟩ v3).setCell ⟨B, 4, none⟩ v4).heap[b]? = w.heap[b]? := fun b ⟨h1, h2⟩ => by
    rw [set5_heapL h1, hb.block b (by omega)]
    exact Below.heap_alloc _ _ _ h2
  have hT := repS_mono (S' := fun b => b ≠ B) (fun b h => h.1) n _ _ (repS_keep hk n _ _ (repS_lt n _ _ h))
  refine ⟨some ⟨w.heap.size, 0, none⟩, 1, 1, rfl, (show okI (4 : Int) from by decide), (show okI (0 : Int) from by decide), (show 0 < 2 ^ 64 from by decide), (show (⟨#[]⟩ : ByteArray).size ≤ maxLen from by decide), ⟨rfl, Nat.le_refl _, by decide, fun _ => ⟨w.heap.size, 0, rfl, fun i hi => ?_⟩⟩, fun _ b off e => by cases e; omega⟩
  obtain rfl : i = 0 := by simp at hi; omega
  have hc := fun j => row_cell hrow2 j
  exact ⟨c0, c1, c2, c3, c4, hc 0, hc 1, hc 2, hc 3, hc 4, hT⟩
set_option maxRecDepth 100000 in
set_option maxHeartbeats 16000000 in
theorem lim_Ay (a n : Int) (h0 : 0 ≤ n) (h1 : n < 256) (g0 : 0 ≤ a) (g1 : a < 256) (D : Nat) (hD : n % 5 = (D : Int)) (hD4 : D ≤ 4) (ha : a % 4 = 0) (hd : (D : Int) ≤ 2) (w : World) (ht : Tabs w) :
    Calls Tryz.prog 3 #[.int .u8 a, .int .u8 n] w fun e w' => e = .returned (.bool true) ∧ Below w.heap.size w w' := by
  have hD2 : n.tmod 5 = (D : Int) := by rw [Int.tmod_eq_emod_of_nonneg h0]; exact hD
  have ha2 : a.tmod 4 = 0 := by rw [Int.tmod_eq_emod_of_nonneg g0]; exact ha
  have hD0 : (0 : Int) ≤ (D : Int) := by omega
  have hDb : (D : Int) ≤ 4 := by omega
  have hdf : decide ((D : Int) - 2 ≤ 0) = true := by simp; omega
  have hdg : decide ((D : Int) ≤ 2) = true := by simp; omega
  have HT := Lib.hid ht
  have hmk := mk_bytes (254 + D) (by omega) (256 + ((D : Int) - 2)) (by omega)
  have hcv := cv_bytes (254 + D) (by omega)
  have hsz := nulS_size (254 + D)
  have HFI := Lib.hid (fine_text (nulS (254 + D)) (254 + D) hsz (by omega))
  rw [show decide (254 + D ≤ 256) = true by simp; omega] at HFI
  have HSZ := Lib.hid (show (nulS (254 + D)).size ≤ maxLen by rw [hsz]; unfold maxLen; omega)
  clear hsz
  obtain ⟨N, hN⟩ : ∃ N, 254 + D = N := ⟨_, rfl⟩
  rw [hN] at hmk hcv HFI HSZ
  obtain ⟨st, hst⟩ : ∃ st, nulS N = st := ⟨_, rfl⟩
  rw [hst] at hcv HFI HSZ
  clear hst hN
  clear ht
  go_enter Tryz.func3, Tryz.ntmps3
  go_wp2_with fail
  go_at_call 5; refine (known_any _ HT.out).mono ?_; rintro e w1 ⟨rfl, hb1⟩
  have HB1 := Lib.hid hb1
  clear hb1
  have RB := Lib.hid (row_alloc w1 #[.int .i64 0, .int .i64 0, .float .f64 0, .string ⟨#[]⟩, .slice none 0 0] 26)
  have HBX := Lib.hid (bel_alloc (bel_alloc HB1.out (.cells #[.int .i64 0, .int .i64 0, .float .f64 0, .string ⟨#[]⟩, .slice none 0 0] 26)) (.cells (zs N) 5))
  have RB2 := Lib.hid (row_alloc_step RB.out (.cells (zs N) 5))
  have hcv1 := hcv (w1.alloc (.cells #[.int .i64 0, .int .i64 0, .float .f64 0, .string ⟨#[]⟩, .slice none 0 0] 26))
  simp only [World.size_alloc] at hcv1
  clear hcv
  go_wp2_with fail
  go_at_call 6; refine (text_ref_any _ _).mono ?_; rintro e w2 ⟨rfl, hb2⟩
  have hr := row_step RB2.out hb2
  have hlt := row_lt hr
  have HRT := Lib.hid (set5_rowL hr (.int .i64 3) (.int .i64 0) (.float .f64 0) (.string st) (.slice none 0 0))
  have HB2 := Lib.hid (bel_step HBX.out hb2)
  have HBT := Lib.hid (below5 HB2.out HB1.out.size (.int .i64 3) (.int .i64 0) (.float .f64 0) (.string st) (.slice none 0 0))
  have d0 := row_cell hr 0; have d1 := row_cell hr 1; have d2 := row_cell hr 2; have d3 := row_cell hr 3; have d4 := row_cell hr 4
  simp only [List.getElem?_toArray, List.getElem?_cons_zero, List.getElem?_cons_succ] at d0 d1 d2 d3 d4
  have df := fun o => row_frz hr o
  have HREP := Lib.hid (rep_leaf (((((w2.setCell ⟨w1.heap.size, 0, none⟩ (.int .i64 3)).setCell ⟨w1.heap.size, 1, none⟩ (.int .i64 0)).setCell ⟨w1.heap.size, 2, none⟩ (.float .f64 0)).setCell ⟨w1.heap.size, 3, none⟩ (.string st)).setCell ⟨w1.heap.size, 4, none⟩ (.slice none 0 0)) 3 0 0 st (by decide) (by decide) (by decide) HSZ.out)
  clear hr hb2 hmk hcv1
  have hrt := HRT.out
  have b0 := row_cell hrt 0; have b1 := row_cell hrt 1; have b2 := row_cell hrt 2; have b3 := row_cell hrt 3; have b4 := row_cell hrt 4
  simp only [List.getElem?_toArray, List.getElem?_cons_zero, List.getElem?_cons_succ] at b0 b1 b2 b3 b4
  clear hrt
  go_wp2_with fail
  go_at_call 8; refine (check_any 1 _ _ _ _ _ _ _ (3, 0, 0, st, []) _ HREP.out HFI.out.1 HFI.out.2.1).mono ?_; rintro e wc ⟨rfl, hbc⟩
  rw [show checkM (measT 1 (3, 0, 0, st, [])) = 0 from HFI.out.2.2.1]
  have HROW := Lib.hid (row_step HRT.out hbc)
  have HBC := Lib.hid (bel_step HBT.out hbc)
  have HRC := Lib.hid (rep_keep hbc _ _ _ HREP.out)
  clear hbc b0 b1 b2 b3 b4
  go_wp2
  refine wp_region_held_drew (S := fun w' => Below wc.heap.size wc w') (by kernel_rfl) ?_ (fun hHeld => ?_)
  · exact Below.drew (Below.refl _ _)
  refine wpAnyH_take (i := 0) (oi := ?_) (v := ?_) ?hia0 (by kernel_rfl) ?hfa0 ?hra0 ?hQa0 ?hya0 (by assumption) ?resta0
  case hia0 => (simp only [List.getElem?_toArray, List.getElem?_cons_zero, List.getElem?_cons_succ]; rfl)
  case hfa0 => kernel_rfl
  case hra0 => kernel_rfl
  case hya0 => (refine Or.inl ⟨by rfl, ?_⟩; intro w hSw; (try dsimp only at hSw); go_simp; (try with_reducible rfl))
  case hQa0 => exact fun _ _ _ h => h
  (try simp only [Act.put, List.setIfInBounds_toArray, List.set_cons_zero, List.set_cons_succ])
  refine wpAnyH_take (i := 1) (oi := ?_) (v := ?_) ?hia1 (by kernel_rfl) ?hfa1 ?hra1 ?hQa1 ?hya1 (by assumption) ?resta1
  case hia1 => (simp only [List.getElem?_toArray, List.getElem?_cons_zero, List.getElem?_cons_succ]; rfl)
  case hfa1 => kernel_rfl
  case hra1 => kernel_rfl
  case hya1 => (refine Or.inl ⟨by rfl, ?_⟩; intro w hSw; (try dsimp only at hSw); go_simp; (try with_reducible rfl))
  case hQa1 => exact fun _ _ _ h => h
  (try simp only [Act.put, List.setIfInBounds_toArray, List.set_cons_zero, List.set_cons_succ])
  refine wpAnyH_take (i := 2) (oi := ?_) (v := ?_) ?hia2 (by kernel_rfl) ?hfa2 ?hra2 ?hQa2 ?hya2 (by assumption) ?resta2
  case hia2 => (simp only [List.getElem?_toArray, List.getElem?_cons_zero, List.getElem?_cons_succ]; rfl)
  case hfa2 => kernel_rfl
  case hra2 => kernel_rfl
  case hya2 => (refine Or.inl ⟨by rfl, ?_⟩; intro w hSw; (try dsimp only at hSw); go_simp; (try with_reducible rfl))
  case hQa2 => exact fun _ _ _ h => h
  (try simp only [Act.put, List.setIfInBounds_toArray, List.set_cons_zero, List.set_cons_succ])
  refine wpAnyH_take (i := 3) (oi := ?_) (v := ?_) ?hia3 (by kernel_rfl) ?hfa3 ?hra3 ?hQa3 ?hya3 (by assumption) ?resta3
  case hia3 => (simp only [List.getElem?_toArray, List.getElem?_cons_zero, List.getElem?_cons_succ]; rfl)
  case hfa3 => kernel_rfl
  case hra3 => kernel_rfl
  case hya3 => (refine Or.inl ⟨by rfl, ?_⟩; intro w hSw; (try dsimp only at hSw); go_simp; (try with_reducible rfl))
  case hQa3 => exact fun _ _ _ h => h
  (try simp only [Act.put, List.setIfInBounds_toArray, List.set_cons_zero, List.set_cons_succ])
  refine wpAnyH_take (i := 4) (oi := ?_) (v := ?_) ?hia4 (by kernel_rfl) ?hfa4 ?hra4 ?hQa4 ?hya4 (by assumption) ?resta4
  case hia4 => (simp only [List.getElem?_toArray, List.getElem?_cons_zero, List.getElem?_cons_succ]; rfl)
  case hfa4 => kernel_rfl
  case hra4 => kernel_rfl
  case hya4 => (refine Or.inl ⟨by rfl, ?_⟩; intro w hSw; (try dsimp only at hSw); go_simp; (try with_reducible rfl))
  case hQa4 => exact fun _ _ _ h => h
  (try simp only [Act.put, List.setIfInBounds_toArray, List.set_cons_zero, List.set_cons_succ])
  refine wpAnyH_take (i := 5) (oi := ?_) (v := ?_) ?hia5 (by kernel_rfl) ?hfa5 ?hra5 ?hQa5 ?hya5 (by assumption) ?resta5
  case hia5 => (simp only [List.getElem?_toArray, List.getElem?_cons_zero, List.getElem?_cons_succ]; rfl)
  case hfa5 => kernel_rfl
  case hra5 => kernel_rfl
  case hya5 => (refine Or.inl ⟨by rfl, ?_⟩; intro w hSw; (try dsimp only at hSw); go_simp; (try with_reducible rfl))
  case hQa5 => exact fun _ _ _ h => h
  (try simp only [Act.put, List.setIfInBounds_toArray, List.set_cons_zero, List.set_cons_succ])
  refine wpAnyH_take (i := 6) (oi := ?_) (v := ?_) ?hia6 (by kernel_rfl) ?hfa6 ?hra6 ?hQa6 ?hya6 (by assumption) ?resta6
  case hia6 => (simp only [List.getElem?_toArray, List.getElem?_cons_zero, List.getElem?_cons_succ]; rfl)
  case hfa6 => kernel_rfl
  case hra6 => kernel_rfl
  case hya6 => (refine Or.inl ⟨by rfl, ?_⟩; intro w hSw; (try dsimp only at hSw); go_simp; (try with_reducible rfl))
  case hQa6 => exact fun _ _ _ h => h
  (try simp only [Act.put, List.setIfInBounds_toArray, List.set_cons_zero, List.set_cons_succ])
  refine wpAnyH_take (i := 7) (oi := ?_) (v := ?_) ?hia7 (by kernel_rfl) ?hfa7 ?hra7 ?hQa7 ?hya7 (by assumption) ?resta7
  case hia7 => (simp only [List.getElem?_toArray, List.getElem?_cons_zero, List.getElem?_cons_succ]; rfl)
  case hfa7 => kernel_rfl
  case hra7 => kernel_rfl
  case hya7 => (refine Or.inl ⟨by rfl, ?_⟩; intro w hSw; (try dsimp only at hSw); go_simp; (try with_reducible rfl))
  case hQa7 => exact fun _ _ _ h => h
  (try simp only [Act.put, List.setIfInBounds_toArray, List.set_cons_zero, List.set_cons_succ])
  refine wpAnyH_take (i := 8) (oi := ?_) (v := ?_) ?hia8 (by kernel_rfl) ?hfa8 ?hra8 ?hQa8 ?hya8 (by assumption) ?resta8
  case hia8 => (simp only [List.getElem?_toArray, List.getElem?_cons_zero, List.getElem?_cons_succ]; rfl)
  case hfa8 => kernel_rfl
  case hra8 => kernel_rfl
  case hya8 => (refine Or.inl ⟨by rfl, ?_⟩; intro w hSw; (try dsimp only at hSw); go_simp; (try with_reducible rfl))
  case hQa8 => exact fun _ _ _ h => h
  (try simp only [Act.put, List.setIfInBounds_toArray, List.set_cons_zero, List.set_cons_succ])
  refine wpAnyH_take (i := 9) (oi := ?_) (v := undef) ?hia9 (by kernel_rfl) ?hfa9 ?hra9 ?hQa9 ?hya9 (by assumption) ?resta9
  case hia9 => (simp only [List.getElem?_toArray, List.getElem?_cons_zero, List.getElem?_cons_succ]; rfl)
  case hfa9 => kernel_rfl
  case hra9 => kernel_rfl
  case hya9 => exact Or.inr ⟨by rfl, rfl⟩
  case hQa9 => exact fun _ _ _ h => h
  (try simp only [Act.put, List.setIfInBounds_toArray, List.set_cons_zero, List.set_cons_succ])
  refine wpAnyH_take (i := 10) (oi := ?_) (v := undef) ?hia10 (by kernel_rfl) ?hfa10 ?hra10 ?hQa10 ?hya10 (by assumption) ?resta10
  case hia10 => (simp only [List.getElem?_toArray, List.getElem?_cons_zero, List.getElem?_cons_succ]; rfl)
  case hfa10 => kernel_rfl
  case hra10 => kernel_rfl
  case hya10 => exact Or.inr ⟨by rfl, rfl⟩
  case hQa10 => exact fun _ _ _ h => h
  (try simp only [Act.put, List.setIfInBounds_toArray, List.set_cons_zero, List.set_cons_succ])
  refine wpAnyH_take (i := 11) (oi := ?_) (v := ?_) ?hia11 (by kernel_rfl) ?hfa11 ?hra11 ?hQa11 ?hya11 (by assumption) ?resta11
  case hia11 => (simp only [List.getElem?_toArray, List.getElem?_cons_zero, List.getElem?_cons_succ]; rfl)
  case hfa11 => kernel_rfl
  case hra11 => kernel_rfl
  case hya11 => (refine Or.inl ⟨by rfl, ?_⟩; intro w hSw; (try dsimp only at hSw); go_simp; (try with_reducible rfl))
  case hQa11 => exact fun _ _ _ h => h
  (try simp only [Act.put, List.setIfInBounds_toArray, List.set_cons_zero, List.set_cons_succ])
  refine wpAnyH_take (i := 12) (oi := ?_) (v := ?_) ?hia12 (by kernel_rfl) ?hfa12 ?hra12 ?hQa12 ?hya12 (by assumption) ?resta12
  case hia12 => (simp only [List.getElem?_toArray, List.getElem?_cons_zero, List.getElem?_cons_succ]; rfl)
  case hfa12 => kernel_rfl
  case hra12 => kernel_rfl
  case hya12 => (refine Or.inl ⟨by rfl, ?_⟩; intro w hSw; (try dsimp only at hSw); go_simp; (try with_reducible rfl))
  case hQa12 => exact fun _ _ _ h => h
  (try simp only [Act.put, List.setIfInBounds_toArray, List.set_cons_zero, List.set_cons_succ])
  refine wpAnyH_take (i := 13) (oi := ?_) (v := ?_) ?hia13 (by kernel_rfl) ?hfa13 ?hra13 ?hQa13 ?hya13 (by assumption) ?resta13
  case hia13 => (simp only [List.getElem?_toArray, List.getElem?_cons_zero, List.getElem?_cons_succ]; rfl)
  case hfa13 => kernel_rfl
  case hra13 => kernel_rfl
  case hya13 => (refine Or.inl ⟨by rfl, ?_⟩; intro w hSw; (try dsimp only at hSw); go_simp; (try with_reducible rfl))
  case hQa13 => exact fun _ _ _ h => h
  (try simp only [Act.put, List.setIfInBounds_toArray, List.set_cons_zero, List.set_cons_succ])
  refine wpAnyH_take (i := 14) (oi := ?_) (v := ?_) ?hia14 (by kernel_rfl) ?hfa14 ?hra14 ?hQa14 ?hya14 (by assumption) ?resta14
  case hia14 => (simp only [List.getElem?_toArray, List.getElem?_cons_zero, List.getElem?_cons_succ]; rfl)
  case hfa14 => kernel_rfl
  case hra14 => kernel_rfl
  case hya14 => (refine Or.inl ⟨by rfl, ?_⟩; intro w hSw; (try dsimp only at hSw); have rr := row_step HROW.out hSw; have c0 := row_cell rr 0; have c1 := row_cell rr 1; have c2 := row_cell rr 2; have c3 := row_cell rr 3; have c4 := row_cell rr 4; simp only [List.getElem?_toArray, List.getElem?_cons_zero, List.getElem?_cons_succ] at c0 c1 c2 c3 c4; go_simp; (try with_reducible rfl))
  case hQa14 => exact fun _ _ _ h => h
  (try simp only [Act.put, List.setIfInBounds_toArray, List.set_cons_zero, List.set_cons_succ])
  refine wpAnyH_take (i := 16) (oi := ?_) (v := ?_) ?hia16 (by kernel_rfl) ?hfa16 ?hra16 ?hQa16 ?hya16 (by assumption) ?resta16
  case hia16 => (simp only [List.getElem?_toArray, List.getElem?_cons_zero, List.getElem?_cons_succ]; rfl)
  case hfa16 => kernel_rfl
  case hra16 => kernel_rfl
  case hya16 => (refine Or.inl ⟨by rfl, ?_⟩; intro w hSw; (try dsimp only at hSw); have rr := row_step HROW.out hSw; have c0 := row_cell rr 0; have c1 := row_cell rr 1; have c2 := row_cell rr 2; have c3 := row_cell rr 3; have c4 := row_cell rr 4; simp only [List.getElem?_toArray, List.getElem?_cons_zero, List.getElem?_cons_succ] at c0 c1 c2 c3 c4; go_simp; (try with_reducible rfl))
  case hQa16 => exact fun _ _ _ h => h
  (try simp only [Act.put, List.setIfInBounds_toArray, List.set_cons_zero, List.set_cons_succ])
  refine wpAnyH_ready (rs := [15]) (by kernel_rfl) (by simp) ?_
  refine AllReadyH.cons (o := ?_) ?hox15 ?stx15 AllReadyH.nil
  case hox15 => (simp only [List.getElem?_toArray, List.getElem?_cons_zero, List.getElem?_cons_succ]; rfl)
  intro K hK
  go_simp
  go_at_call 9; refine (vsize_any 1 _ _ _ _ _ _ _ (3, 0, 0, st, []) _ (rep_keep hHeld _ _ _ HRC.out) HFI.out.1 HFI.out.2.1).mono ?_; rintro e ws ⟨rfl, hb⟩; rw [show sizeM (measT 1 (3, 0, 0, st, [])) = sizeT 1 (3, 0, 0, st, []) from HFI.out.2.2.2]; have hS1 := bel_step hHeld hb; clear hb
  go_wp2_with fail
  refine hK.out _ _ hS1 (fun hHeld2 => ?_)
  clear hK K hHeld hHeld2
  have hHeld := hS1
  clear hS1
  (try simp only [Act.put, List.setIfInBounds_toArray, List.set_cons_zero, List.set_cons_succ])
  refine wpAnyH_ready (rs := [17]) (by kernel_rfl) (by simp) ?_
  refine AllReadyH.cons (o := ?_) ?hox17 ?stx17 AllReadyH.nil
  case hox17 => (simp only [List.getElem?_toArray, List.getElem?_cons_zero, List.getElem?_cons_succ]; rfl)
  intro K hK
  go_simp
  go_at_call 10; refine (size_any 1 _ (3, 0, 0, st, []) _ (rep_keep hHeld _ _ _ HRC.out)).mono ?_; rintro e ws ⟨rfl, hb⟩; have hS1 := bel_step hHeld hb; clear hb
  go_wp2_with fail
  refine hK.out _ _ hS1 (fun hHeld2 => ?_)
  clear hK K hHeld hHeld2
  have hHeld := hS1
  clear hS1
  (try simp only [Act.put, List.setIfInBounds_toArray, List.set_cons_zero, List.set_cons_succ])
  refine wpAnyH_take (i := 18) (oi := ?_) (v := ?_) ?hix18 (by kernel_rfl) ?hfx18 ?hrx18 ?hQx18 ?hyx18 (by assumption) ?restx18
  case hix18 => (simp only [List.getElem?_toArray, List.getElem?_cons_zero, List.getElem?_cons_succ]; rfl)
  case hfx18 => kernel_rfl
  case hrx18 => kernel_rfl
  case hyx18 => (refine Or.inl ⟨by rfl, ?_⟩; intro w hSw; (try dsimp only at hSw); go_simp; (try with_reducible rfl))
  case hQx18 => exact fun _ _ _ h => h
  (try simp only [Act.put, List.setIfInBounds_toArray, List.set_cons_zero, List.set_cons_succ])
  refine wpAnyH_take (i := 19) (oi := ?_) (v := ?_) ?hix19 (by kernel_rfl) ?hfx19 ?hrx19 ?hQx19 ?hyx19 (by assumption) ?restx19
  case hix19 => (simp only [List.getElem?_toArray, List.getElem?_cons_zero, List.getElem?_cons_succ]; rfl)
  case hfx19 => kernel_rfl
  case hrx19 => kernel_rfl
  case hyx19 => (refine Or.inl ⟨by rfl, ?_⟩; intro w hSw; (try dsimp only at hSw); go_simp; (try with_reducible rfl))
  case hQx19 => exact fun _ _ _ h => h
  (try simp only [Act.put, List.setIfInBounds_toArray, List.set_cons_zero, List.set_cons_succ])
  refine wpAnyH_take (i := 20) (oi := ?_) (v := ?_) ?hix20 (by kernel_rfl) ?hfx20 ?hrx20 ?hQx20 ?hyx20 (by assumption) ?restx20
  case hix20 => (simp only [List.getElem?_toArray, List.getElem?_cons_zero, List.getElem?_cons_succ]; rfl)
  case hfx20 => kernel_rfl
  case hrx20 => kernel_rfl
  case hyx20 => (refine Or.inl ⟨by rfl, ?_⟩; intro w hSw; (try dsimp only at hSw); go_simp; (try with_reducible rfl))
  case hQx20 => exact fun _ _ _ h => h
  (try simp only [Act.put, List.setIfInBounds_toArray, List.set_cons_zero, List.set_cons_succ])
  refine wpAnyH_done (by kernel_rfl) ?_ _
  have HF := Lib.hid (bel_step HBC.out hHeld)
  clear hHeld
  go_wp2
  go_ret
  exact ⟨rfl, HF.out⟩
set_option maxRecDepth 100000 in
set_option maxHeartbeats 16000000 in
theorem lim_An (a n : Int) (h0 : 0 ≤ n) (h1 : n < 256) (g0 : 0 ≤ a) (g1 : a < 256) (D : Nat) (hD : n % 5 = (D : Int)) (hD4 : D ≤ 4) (ha : a % 4 = 0) (hd : 2 < (D : Int)) (w : World) (ht : Tabs w) :
    Calls Tryz.prog 3 #[.int .u8 a, .int .u8 n] w fun e w' => e = .returned (.bool true) ∧ Below w.heap.size w w' := by
  have hD2 : n.tmod 5 = (D : Int) := by rw [Int.tmod_eq_emod_of_nonneg h0]; exact hD
  have ha2 : a.tmod 4 = 0 := by rw [Int.tmod_eq_emod_of_nonneg g0]; exact ha
  have hD0 : (0 : Int) ≤ (D : Int) := by omega
  have hDb : (D : Int) ≤ 4 := by omega
  have hdf : decide ((D : Int) - 2 ≤ 0) = false := by simp; omega
  have hdg : decide ((D : Int) ≤ 2) = false := by simp; omega
  have HT := Lib.hid ht
  have hmk := mk_bytes (254 + D) (by omega) (256 + ((D : Int) - 2)) (by omega)
  have hcv := cv_bytes (254 + D) (by omega)
  have hsz := nulS_size (254 + D)
  have HFI := Lib.hid (fine_text (nulS (254 + D)) (254 + D) hsz (by omega))
  rw [show decide (254 + D ≤ 256) = false by simp; omega] at HFI
  have HSZ := Lib.hid (show (nulS (254 + D)).size ≤ maxLen by rw [hsz]; unfold maxLen; omega)
  clear hsz
  obtain ⟨N, hN⟩ : ∃ N, 254 + D = N := ⟨_, rfl⟩
  rw [hN] at hmk hcv HFI HSZ
  obtain ⟨st, hst⟩ : ∃ st, nulS N = st := ⟨_, rfl⟩
  rw [hst] at hcv HFI HSZ
  clear hst hN
  clear ht
  go_enter Tryz.func3, Tryz.ntmps3
  go_wp2_with fail
  go_at_call 5; refine (known_any _ HT.out).mono ?_; rintro e w1 ⟨rfl, hb1⟩
  have HB1 := Lib.hid hb1
  clear hb1
  have RB := Lib.hid (row_alloc w1 #[.int .i64 0, .int .i64 0, .float .f64 0, .string ⟨#[]⟩, .slice none 0 0] 26)
  have HBX := Lib.hid (bel_alloc (bel_alloc HB1.out (.cells #[.int .i64 0, .int .i64 0, .float .f64 0, .string ⟨#[]⟩, .slice none 0 0] 26)) (.cells (zs N) 5))
  have RB2 := Lib.hid (row_alloc_step RB.out (.cells (zs N) 5))
  have hcv1 := hcv (w1.alloc (.cells #[.int .i64 0, .int .i64 0, .float .f64 0, .string ⟨#[]⟩, .slice none 0 0] 26))
  simp only [World.size_alloc] at hcv1
  clear hcv
  go_wp2_with fail
  go_at_call 6; refine (text_ref_any _ _).mono ?_; rintro e w2 ⟨rfl, hb2⟩
  have hr := row_step RB2.out hb2
  have hlt := row_lt hr
  have HRT := Lib.hid (set5_rowL hr (.int .i64 3) (.int .i64 0) (.float .f64 0) (.string st) (.slice none 0 0))
  have HB2 := Lib.hid (bel_step HBX.out hb2)
  have HBT := Lib.hid (below5 HB2.out HB1.out.size (.int .i64 3) (.int .i64 0) (.float .f64 0) (.string st) (.slice none 0 0))
  have d0 := row_cell hr 0; have d1 := row_cell hr 1; have d2 := row_cell hr 2; have d3 := row_cell hr 3; have d4 := row_cell hr 4
  simp only [List.getElem?_toArray, List.getElem?_cons_zero, List.getElem?_cons_succ] at d0 d1 d2 d3 d4
  have df := fun o => row_frz hr o
  have HREP := Lib.hid (rep_leaf (((((w2.setCell ⟨w1.heap.size, 0, none⟩ (.int .i64 3)).setCell ⟨w1.heap.size, 1, none⟩ (.int .i64 0)).setCell ⟨w1.heap.size, 2, none⟩ (.float .f64 0)).setCell ⟨w1.heap.size, 3, none⟩ (.string st)).setCell ⟨w1.heap.size, 4, none⟩ (.slice none 0 0)) 3 0 0 st (by decide) (by decide) (by decide) HSZ.out)
  clear hr hb2 hmk hcv1
  have hrt := HRT.out
  have b0 := row_cell hrt 0; have b1 := row_cell hrt 1; have b2 := row_cell hrt 2; have b3 := row_cell hrt 3; have b4 := row_cell hrt 4
  simp only [List.getElem?_toArray, List.getElem?_cons_zero, List.getElem?_cons_succ] at b0 b1 b2 b3 b4
  clear hrt
  go_wp2_with fail
  go_at_call 8; refine (check_any 1 _ _ _ _ _ _ _ (3, 0, 0, st, []) _ HREP.out HFI.out.1 HFI.out.2.1).mono ?_; rintro e wc ⟨rfl, hbc⟩
  rw [show checkM (measT 1 (3, 0, 0, st, [])) = 22 from HFI.out.2.2.1]
  have HROW := Lib.hid (row_step HRT.out hbc)
  have HBC := Lib.hid (bel_step HBT.out hbc)
  have HRC := Lib.hid (rep_keep hbc _ _ _ HREP.out)
  clear hbc b0 b1 b2 b3 b4
  go_wp2
  refine wp_region_held_drew (S := fun w' => Below wc.heap.size wc w') (by kernel_rfl) ?_ (fun hHeld => ?_)
  · exact Below.drew (Below.refl _ _)
  refine wpAnyH_take (i := 0) (oi := ?_) (v := ?_) ?hia0 (by kernel_rfl) ?hfa0 ?hra0 ?hQa0 ?hya0 (by assumption) ?resta0
  case hia0 => (simp only [List.getElem?_toArray, List.getElem?_cons_zero, List.getElem?_cons_succ]; rfl)
  case hfa0 => kernel_rfl
  case hra0 => kernel_rfl
  case hya0 => (refine Or.inl ⟨by rfl, ?_⟩; intro w hSw; (try dsimp only at hSw); go_simp; (try with_reducible rfl))
  case hQa0 => exact fun _ _ _ h => h
  (try simp only [Act.put, List.setIfInBounds_toArray, List.set_cons_zero, List.set_cons_succ])
  refine wpAnyH_take (i := 1) (oi := ?_) (v := ?_) ?hia1 (by kernel_rfl) ?hfa1 ?hra1 ?hQa1 ?hya1 (by assumption) ?resta1
  case hia1 => (simp only [List.getElem?_toArray, List.getElem?_cons_zero, List.getElem?_cons_succ]; rfl)
  case hfa1 => kernel_rfl
  case hra1 => kernel_rfl
  case hya1 => (refine Or.inl ⟨by rfl, ?_⟩; intro w hSw; (try dsimp only at hSw); go_simp; (try with_reducible rfl))
  case hQa1 => exact fun _ _ _ h => h
  (try simp only [Act.put, List.setIfInBounds_toArray, List.set_cons_zero, List.set_cons_succ])
  refine wpAnyH_take (i := 2) (oi := ?_) (v := ?_) ?hia2 (by kernel_rfl) ?hfa2 ?hra2 ?hQa2 ?hya2 (by assumption) ?resta2
  case hia2 => (simp only [List.getElem?_toArray, List.getElem?_cons_zero, List.getElem?_cons_succ]; rfl)
  case hfa2 => kernel_rfl
  case hra2 => kernel_rfl
  case hya2 => (refine Or.inl ⟨by rfl, ?_⟩; intro w hSw; (try dsimp only at hSw); go_simp; (try with_reducible rfl))
  case hQa2 => exact fun _ _ _ h => h
  (try simp only [Act.put, List.setIfInBounds_toArray, List.set_cons_zero, List.set_cons_succ])
  refine wpAnyH_take (i := 3) (oi := ?_) (v := ?_) ?hia3 (by kernel_rfl) ?hfa3 ?hra3 ?hQa3 ?hya3 (by assumption) ?resta3
  case hia3 => (simp only [List.getElem?_toArray, List.getElem?_cons_zero, List.getElem?_cons_succ]; rfl)
  case hfa3 => kernel_rfl
  case hra3 => kernel_rfl
  case hya3 => (refine Or.inl ⟨by rfl, ?_⟩; intro w hSw; (try dsimp only at hSw); go_simp; (try with_reducible rfl))
  case hQa3 => exact fun _ _ _ h => h
  (try simp only [Act.put, List.setIfInBounds_toArray, List.set_cons_zero, List.set_cons_succ])
  refine wpAnyH_take (i := 4) (oi := ?_) (v := ?_) ?hia4 (by kernel_rfl) ?hfa4 ?hra4 ?hQa4 ?hya4 (by assumption) ?resta4
  case hia4 => (simp only [List.getElem?_toArray, List.getElem?_cons_zero, List.getElem?_cons_succ]; rfl)
  case hfa4 => kernel_rfl
  case hra4 => kernel_rfl
  case hya4 => (refine Or.inl ⟨by rfl, ?_⟩; intro w hSw; (try dsimp only at hSw); go_simp; (try with_reducible rfl))
  case hQa4 => exact fun _ _ _ h => h
  (try simp only [Act.put, List.setIfInBounds_toArray, List.set_cons_zero, List.set_cons_succ])
  refine wpAnyH_take (i := 5) (oi := ?_) (v := ?_) ?hia5 (by kernel_rfl) ?hfa5 ?hra5 ?hQa5 ?hya5 (by assumption) ?resta5
  case hia5 => (simp only [List.getElem?_toArray, List.getElem?_cons_zero, List.getElem?_cons_succ]; rfl)
  case hfa5 => kernel_rfl
  case hra5 => kernel_rfl
  case hya5 => (refine Or.inl ⟨by rfl, ?_⟩; intro w hSw; (try dsimp only at hSw); go_simp; (try with_reducible rfl))
  case hQa5 => exact fun _ _ _ h => h
  (try simp only [Act.put, List.setIfInBounds_toArray, List.set_cons_zero, List.set_cons_succ])
  refine wpAnyH_take (i := 6) (oi := ?_) (v := ?_) ?hia6 (by kernel_rfl) ?hfa6 ?hra6 ?hQa6 ?hya6 (by assumption) ?resta6
  case hia6 => (simp only [List.getElem?_toArray, List.getElem?_cons_zero, List.getElem?_cons_succ]; rfl)
  case hfa6 => kernel_rfl
  case hra6 => kernel_rfl
  case hya6 => (refine Or.inl ⟨by rfl, ?_⟩; intro w hSw; (try dsimp only at hSw); go_simp; (try with_reducible rfl))
  case hQa6 => exact fun _ _ _ h => h
  (try simp only [Act.put, List.setIfInBounds_toArray, List.set_cons_zero, List.set_cons_succ])
  refine wpAnyH_take (i := 7) (oi := ?_) (v := ?_) ?hia7 (by kernel_rfl) ?hfa7 ?hra7 ?hQa7 ?hya7 (by assumption) ?resta7
  case hia7 => (simp only [List.getElem?_toArray, List.getElem?_cons_zero, List.getElem?_cons_succ]; rfl)
  case hfa7 => kernel_rfl
  case hra7 => kernel_rfl
  case hya7 => (refine Or.inl ⟨by rfl, ?_⟩; intro w hSw; (try dsimp only at hSw); go_simp; (try with_reducible rfl))
  case hQa7 => exact fun _ _ _ h => h
  (try simp only [Act.put, List.setIfInBounds_toArray, List.set_cons_zero, List.set_cons_succ])
  refine wpAnyH_take (i := 8) (oi := ?_) (v := ?_) ?hia8 (by kernel_rfl) ?hfa8 ?hra8 ?hQa8 ?hya8 (by assumption) ?resta8
  case hia8 => (simp only [List.getElem?_toArray, List.getElem?_cons_zero, List.getElem?_cons_succ]; rfl)
  case hfa8 => kernel_rfl
  case hra8 => kernel_rfl
  case hya8 => (refine Or.inl ⟨by rfl, ?_⟩; intro w hSw; (try dsimp only at hSw); go_simp; (try with_reducible rfl))
  case hQa8 => exact fun _ _ _ h => h
  (try simp only [Act.put, List.setIfInBounds_toArray, List.set_cons_zero, List.set_cons_succ])
  refine wpAnyH_take (i := 9) (oi := ?_) (v := ?_) ?hia9 (by kernel_rfl) ?hfa9 ?hra9 ?hQa9 ?hya9 (by assumption) ?resta9
  case hia9 => (simp only [List.getElem?_toArray, List.getElem?_cons_zero, List.getElem?_cons_succ]; rfl)
  case hfa9 => kernel_rfl
  case hra9 => kernel_rfl
  case hya9 => (refine Or.inl ⟨by rfl, ?_⟩; intro w hSw; (try dsimp only at hSw); go_simp; (try with_reducible rfl))
  case hQa9 => exact fun _ _ _ h => h
  (try simp only [Act.put, List.setIfInBounds_toArray, List.set_cons_zero, List.set_cons_succ])
  refine wpAnyH_take (i := 10) (oi := ?_) (v := ?_) ?hia10 (by kernel_rfl) ?hfa10 ?hra10 ?hQa10 ?hya10 (by assumption) ?resta10
  case hia10 => (simp only [List.getElem?_toArray, List.getElem?_cons_zero, List.getElem?_cons_succ]; rfl)
  case hfa10 => kernel_rfl
  case hra10 => kernel_rfl
  case hya10 => (refine Or.inl ⟨by rfl, ?_⟩; intro w hSw; (try dsimp only at hSw); go_simp; (try with_reducible rfl))
  case hQa10 => exact fun _ _ _ h => h
  (try simp only [Act.put, List.setIfInBounds_toArray, List.set_cons_zero, List.set_cons_succ])
  refine wpAnyH_take (i := 11) (oi := ?_) (v := ?_) ?hia11 (by kernel_rfl) ?hfa11 ?hra11 ?hQa11 ?hya11 (by assumption) ?resta11
  case hia11 => (simp only [List.getElem?_toArray, List.getElem?_cons_zero, List.getElem?_cons_succ]; rfl)
  case hfa11 => kernel_rfl
  case hra11 => kernel_rfl
  case hya11 => (refine Or.inl ⟨by rfl, ?_⟩; intro w hSw; (try dsimp only at hSw); go_simp; (try with_reducible rfl))
  case hQa11 => exact fun _ _ _ h => h
  (try simp only [Act.put, List.setIfInBounds_toArray, List.set_cons_zero, List.set_cons_succ])
  refine wpAnyH_take (i := 12) (oi := ?_) (v := ?_) ?hia12 (by kernel_rfl) ?hfa12 ?hra12 ?hQa12 ?hya12 (by assumption) ?resta12
  case hia12 => (simp only [List.getElem?_toArray, List.getElem?_cons_zero, List.getElem?_cons_succ]; rfl)
  case hfa12 => kernel_rfl
  case hra12 => kernel_rfl
  case hya12 => (refine Or.inl ⟨by rfl, ?_⟩; intro w hSw; (try dsimp only at hSw); go_simp; (try with_reducible rfl))
  case hQa12 => exact fun _ _ _ h => h
  (try simp only [Act.put, List.setIfInBounds_toArray, List.set_cons_zero, List.set_cons_succ])
  refine wpAnyH_take (i := 13) (oi := ?_) (v := ?_) ?hia13 (by kernel_rfl) ?hfa13 ?hra13 ?hQa13 ?hya13 (by assumption) ?resta13
  case hia13 => (simp only [List.getElem?_toArray, List.getElem?_cons_zero, List.getElem?_cons_succ]; rfl)
  case hfa13 => kernel_rfl
  case hra13 => kernel_rfl
  case hya13 => (refine Or.inl ⟨by rfl, ?_⟩; intro w hSw; (try dsimp only at hSw); go_simp; (try with_reducible rfl))
  case hQa13 => exact fun _ _ _ h => h
  (try simp only [Act.put, List.setIfInBounds_toArray, List.set_cons_zero, List.set_cons_succ])
  refine wpAnyH_take (i := 14) (oi := ?_) (v := ?_) ?hia14 (by kernel_rfl) ?hfa14 ?hra14 ?hQa14 ?hya14 (by assumption) ?resta14
  case hia14 => (simp only [List.getElem?_toArray, List.getElem?_cons_zero, List.getElem?_cons_succ]; rfl)
  case hfa14 => kernel_rfl
  case hra14 => kernel_rfl
  case hya14 => (refine Or.inl ⟨by rfl, ?_⟩; intro w hSw; (try dsimp only at hSw); have rr := row_step HROW.out hSw; have c0 := row_cell rr 0; have c1 := row_cell rr 1; have c2 := row_cell rr 2; have c3 := row_cell rr 3; have c4 := row_cell rr 4; simp only [List.getElem?_toArray, List.getElem?_cons_zero, List.getElem?_cons_succ] at c0 c1 c2 c3 c4; go_simp; (try with_reducible rfl))
  case hQa14 => exact fun _ _ _ h => h
  (try simp only [Act.put, List.setIfInBounds_toArray, List.set_cons_zero, List.set_cons_succ])
  refine wpAnyH_take (i := 16) (oi := ?_) (v := ?_) ?hia16 (by kernel_rfl) ?hfa16 ?hra16 ?hQa16 ?hya16 (by assumption) ?resta16
  case hia16 => (simp only [List.getElem?_toArray, List.getElem?_cons_zero, List.getElem?_cons_succ]; rfl)
  case hfa16 => kernel_rfl
  case hra16 => kernel_rfl
  case hya16 => (refine Or.inl ⟨by rfl, ?_⟩; intro w hSw; (try dsimp only at hSw); have rr := row_step HROW.out hSw; have c0 := row_cell rr 0; have c1 := row_cell rr 1; have c2 := row_cell rr 2; have c3 := row_cell rr 3; have c4 := row_cell rr 4; simp only [List.getElem?_toArray, List.getElem?_cons_zero, List.getElem?_cons_succ] at c0 c1 c2 c3 c4; go_simp; (try with_reducible rfl))
  case hQa16 => exact fun _ _ _ h => h
  (try simp only [Act.put, List.setIfInBounds_toArray, List.set_cons_zero, List.set_cons_succ])
  refine wpAnyH_ready (rs := [15]) (by kernel_rfl) (by simp) ?_
  refine AllReadyH.cons (o := ?_) ?hox15 ?stx15 AllReadyH.nil
  case hox15 => (simp only [List.getElem?_toArray, List.getElem?_cons_zero, List.getElem?_cons_succ]; rfl)
  intro K hK
  go_simp
  go_at_call 9; refine (vsize_any 1 _ _ _ _ _ _ _ (3, 0, 0, st, []) _ (rep_keep hHeld _ _ _ HRC.out) HFI.out.1 HFI.out.2.1).mono ?_; rintro e ws ⟨rfl, hb⟩; rw [show sizeM (measT 1 (3, 0, 0, st, [])) = sizeT 1 (3, 0, 0, st, []) from HFI.out.2.2.2]; have hS1 := bel_step hHeld hb; clear hb
  go_wp2_with fail
  refine hK.out _ _ hS1 (fun hHeld2 => ?_)
  clear hK K hHeld hHeld2
  have hHeld := hS1
  clear hS1
  (try simp only [Act.put, List.setIfInBounds_toArray, List.set_cons_zero, List.set_cons_succ])
  refine wpAnyH_ready (rs := [17]) (by kernel_rfl) (by simp) ?_
  refine AllReadyH.cons (o := ?_) ?hox17 ?stx17 AllReadyH.nil
  case hox17 => (simp only [List.getElem?_toArray, List.getElem?_cons_zero, List.getElem?_cons_succ]; rfl)
  intro K hK
  go_simp
  go_at_call 10; refine (size_any 1 _ (3, 0, 0, st, []) _ (rep_keep hHeld _ _ _ HRC.out)).mono ?_; rintro e ws ⟨rfl, hb⟩; have hS1 := bel_step hHeld hb; clear hb
  go_wp2_with fail
  refine hK.out _ _ hS1 (fun hHeld2 => ?_)
  clear hK K hHeld hHeld2
  have hHeld := hS1
  clear hS1
  (try simp only [Act.put, List.setIfInBounds_toArray, List.set_cons_zero, List.set_cons_succ])
  refine wpAnyH_take (i := 18) (oi := ?_) (v := ?_) ?hix18 (by kernel_rfl) ?hfx18 ?hrx18 ?hQx18 ?hyx18 (by assumption) ?restx18
  case hix18 => (simp only [List.getElem?_toArray, List.getElem?_cons_zero, List.getElem?_cons_succ]; rfl)
  case hfx18 => kernel_rfl
  case hrx18 => kernel_rfl
  case hyx18 => (refine Or.inl ⟨by rfl, ?_⟩; intro w hSw; (try dsimp only at hSw); go_simp; (try with_reducible rfl))
  case hQx18 => exact fun _ _ _ h => h
  (try simp only [Act.put, List.setIfInBounds_toArray, List.set_cons_zero, List.set_cons_succ])
  refine wpAnyH_take (i := 19) (oi := ?_) (v := ?_) ?hix19 (by kernel_rfl) ?hfx19 ?hrx19 ?hQx19 ?hyx19 (by assumption) ?restx19
  case hix19 => (simp only [List.getElem?_toArray, List.getElem?_cons_zero, List.getElem?_cons_succ]; rfl)
  case hfx19 => kernel_rfl
  case hrx19 => kernel_rfl
  case hyx19 => (refine Or.inl ⟨by rfl, ?_⟩; intro w hSw; (try dsimp only at hSw); go_simp; (try with_reducible rfl))
  case hQx19 => exact fun _ _ _ h => h
  (try simp only [Act.put, List.setIfInBounds_toArray, List.set_cons_zero, List.set_cons_succ])
  refine wpAnyH_take (i := 20) (oi := ?_) (v := ?_) ?hix20 (by kernel_rfl) ?hfx20 ?hrx20 ?hQx20 ?hyx20 (by assumption) ?restx20
  case hix20 => (simp only [List.getElem?_toArray, List.getElem?_cons_zero, List.getElem?_cons_succ]; rfl)
  case hfx20 => kernel_rfl
  case hrx20 => kernel_rfl
  case hyx20 => (refine Or.inl ⟨by rfl, ?_⟩; intro w hSw; (try dsimp only at hSw); go_simp; (try with_reducible rfl))
  case hQx20 => exact fun _ _ _ h => h
  (try simp only [Act.put, List.setIfInBounds_toArray, List.set_cons_zero, List.set_cons_succ])
  refine wpAnyH_done (by kernel_rfl) ?_ _
  have HF := Lib.hid (bel_step HBC.out hHeld)
  clear hHeld
  go_wp2
  go_ret
  exact ⟨rfl, HF.out⟩
set_option maxRecDepth 100000 in
set_option maxHeartbeats 16000000 in
theorem lim_By (a n : Int) (h0 : 0 ≤ n) (h1 : n < 256) (g0 : 0 ≤ a) (g1 : a < 256) (D : Nat) (hD : n % 5 = (D : Int)) (hD4 : D ≤ 4) (ha : a % 4 = 1) (hd : (D : Int) ≤ 2) (w : World) (ht : Tabs w) :
    Calls Tryz.prog 3 #[.int .u8 a, .int .u8 n] w fun e w' => e = .returned (.bool true) ∧ Below w.heap.size w w' := by
  have hD2 : n.tmod 5 = (D : Int) := by rw [Int.tmod_eq_emod_of_nonneg h0]; exact hD
  have ha2 : a.tmod 4 = 1 := by rw [Int.tmod_eq_emod_of_nonneg g0]; exact ha
  have hD0 : (0 : Int) ≤ (D : Int) := by omega
  have hDb : (D : Int) ≤ 4 := by omega
  have hdf : decide ((D : Int) - 2 ≤ 0) = true := by simp; omega
  have hdg : decide ((D : Int) ≤ 2) = true := by simp; omega
  have HT := Lib.hid ht
  have hmk := mk_vals (62 + D) (by omega) (64 + ((D : Int) - 2)) (by omega)
  have HFI := Lib.hid (fine_nils (62 + D) (by omega))
  rw [show decide (62 + D ≤ 64) = true by simp; omega] at HFI
  obtain ⟨N, hN⟩ : ∃ N, 62 + D = N := ⟨_, rfl⟩
  have hNb : N ≤ 1000 := by omega
  rw [hN] at hmk HFI
  clear hN
  clear ht
  go_enter Tryz.func3, Tryz.ntmps3
  go_wp2_with fail
  go_at_call 5; refine (known_any _ HT.out).mono ?_; rintro e w1 ⟨rfl, hb1⟩
  have HB1 := Lib.hid hb1
  clear hb1
  have HRT := Lib.hid (row_alloc_step (row_alloc w1 #[.int .i64 4, .int .i64 0, .float .f64 0, .string ⟨#[]⟩, .slice (some ⟨w1.heap.size + 1, 0, none⟩) N N] 26) (.cells (zv N) 26))
  have HBT := Lib.hid (bel_alloc (bel_alloc HB1.out (.cells #[.int .i64 4, .int .i64 0, .float .f64 0, .string ⟨#[]⟩, .slice (some ⟨w1.heap.size + 1, 0, none⟩) N N] 26)) (.cells (zv N) 26))
  have hzr := row_alloc (w1.alloc (.cells #[.int .i64 4, .int .i64 0, .float .f64 0, .string ⟨#[]⟩, .slice (some ⟨w1.heap.size + 1, 0, none⟩) N N] 26)) (zv N) 26
  rw [World.size_alloc] at hzr
  have HREP := Lib.hid (rep_vals hNb hzr)
  clear hzr
  have hrt := HRT.out
  have b0 := row_cell hrt 0; have b1 := row_cell hrt 1; have b2 := row_cell hrt 2; have b3 := row_cell hrt 3; have b4 := row_cell hrt 4
  simp only [List.getElem?_toArray, List.getElem?_cons_zero, List.getElem?_cons_succ] at b0 b1 b2 b3 b4
  clear hrt
  go_wp2_with fail
  go_at_call 8; refine (check_any 2 _ _ _ _ _ _ _ (4, 0, 0, ⟨#[]⟩, List.replicate N (nilV 0)) _ HREP.out HFI.out.1 HFI.out.2.1).mono ?_; rintro e wc ⟨rfl, hbc⟩
  rw [show checkM (measT 2 (4, 0, 0, ⟨#[]⟩, List.replicate N (nilV 0))) = 0 from HFI.out.2.2.1]
  have HROW := Lib.hid (row_step HRT.out hbc)
  have HBC := Lib.hid (bel_step HBT.out hbc)
  have HRC := Lib.hid (rep_keep hbc _ _ _ HREP.out)
  clear hbc b0 b1 b2 b3 b4
  go_wp2
  refine wp_region_held_drew (S := fun w' => Below wc.heap.size wc w') (by kernel_rfl) ?_ (fun hHeld => ?_)
  · exact Below.drew (Below.refl _ _)
  refine wpAnyH_take (i := 0) (oi := ?_) (v := ?_) ?hia0 (by kernel_rfl) ?hfa0 ?hra0 ?hQa0 ?hya0 (by assumption) ?resta0
  case hia0 => (simp only [List.getElem?_toArray, List.getElem?_cons_zero, List.getElem?_cons_succ]; rfl)
  case hfa0 => kernel_rfl
  case hra0 => kernel_rfl
  case hya0 => (refine Or.inl ⟨by rfl, ?_⟩; intro w hSw; (try dsimp only at hSw); go_simp; (try with_reducible rfl))
  case hQa0 => exact fun _ _ _ h => h
  (try simp only [Act.put, List.setIfInBounds_toArray, List.set_cons_zero, List.set_cons_succ])
  refine wpAnyH_take (i := 1) (oi := ?_) (v := ?_) ?hia1 (by kernel_rfl) ?hfa1 ?hra1 ?hQa1 ?hya1 (by assumption) ?resta1
  case hia1 => (simp only [List.getElem?_toArray, List.getElem?_cons_zero, List.getElem?_cons_succ]; rfl)
  case hfa1 => kernel_rfl
  case hra1 => kernel_rfl
  case hya1 => (refine Or.inl ⟨by rfl, ?_⟩; intro w hSw; (try dsimp only at hSw); go_simp; (try with_reducible rfl))
  case hQa1 => exact fun _ _ _ h => h
  (try simp only [Act.put, List.setIfInBounds_toArray, List.set_cons_zero, List.set_cons_succ])
  refine wpAnyH_take (i := 2) (oi := ?_) (v := ?_) ?hia2 (by kernel_rfl) ?hfa2 ?hra2 ?hQa2 ?hya2 (by assumption) ?resta2
  case hia2 => (simp only [List.getElem?_toArray, List.getElem?_cons_zero, List.getElem?_cons_succ]; rfl)
  case hfa2 => kernel_rfl
  case hra2 => kernel_rfl
  case hya2 => (refine Or.inl ⟨by rfl, ?_⟩; intro w hSw; (try dsimp only at hSw); go_simp; (try with_reducible rfl))
  case hQa2 => exact fun _ _ _ h => h
  (try simp only [Act.put, List.setIfInBounds_toArray, List.set_cons_zero, List.set_cons_succ])
  refine wpAnyH_take (i := 3) (oi := ?_) (v := ?_) ?hia3 (by kernel_rfl) ?hfa3 ?hra3 ?hQa3 ?hya3 (by assumption) ?resta3
  case hia3 => (simp only [List.getElem?_toArray, List.getElem?_cons_zero, List.getElem?_cons_succ]; rfl)
  case hfa3 => kernel_rfl
  case hra3 => kernel_rfl
  case hya3 => (refine Or.inl ⟨by rfl, ?_⟩; intro w hSw; (try dsimp only at hSw); go_simp; (try with_reducible rfl))
  case hQa3 => exact fun _ _ _ h => h
  (try simp only [Act.put, List.setIfInBounds_toArray, List.set_cons_zero, List.set_cons_succ])
  refine wpAnyH_take (i := 4) (oi := ?_) (v := ?_) ?hia4 (by kernel_rfl) ?hfa4 ?hra4 ?hQa4 ?hya4 (by assumption) ?resta4
  case hia4 => (simp only [List.getElem?_toArray, List.getElem?_cons_zero, List.getElem?_cons_succ]; rfl)
  case hfa4 => kernel_rfl
  case hra4 => kernel_rfl
  case hya4 => (refine Or.inl ⟨by rfl, ?_⟩; intro w hSw; (try dsimp only at hSw); go_simp; (try with_reducible rfl))
  case hQa4 => exact fun _ _ _ h => h
  (try simp only [Act.put, List.setIfInBounds_toArray, List.set_cons_zero, List.set_cons_succ])
  refine wpAnyH_take (i := 5) (oi := ?_) (v := ?_) ?hia5 (by kernel_rfl) ?hfa5 ?hra5 ?hQa5 ?hya5 (by assumption) ?resta5
  case hia5 => (simp only [List.getElem?_toArray, List.getElem?_cons_zero, List.getElem?_cons_succ]; rfl)
  case hfa5 => kernel_rfl
  case hra5 => kernel_rfl
  case hya5 => (refine Or.inl ⟨by rfl, ?_⟩; intro w hSw; (try dsimp only at hSw); go_simp; (try with_reducible rfl))
  case hQa5 => exact fun _ _ _ h => h
  (try simp only [Act.put, List.setIfInBounds_toArray, List.set_cons_zero, List.set_cons_succ])
  refine wpAnyH_take (i := 6) (oi := ?_) (v := ?_) ?hia6 (by kernel_rfl) ?hfa6 ?hra6 ?hQa6 ?hya6 (by assumption) ?resta6
  case hia6 => (simp only [List.getElem?_toArray, List.getElem?_cons_zero, List.getElem?_cons_succ]; rfl)
  case hfa6 => kernel_rfl
  case hra6 => kernel_rfl
  case hya6 => (refine Or.inl ⟨by rfl, ?_⟩; intro w hSw; (try dsimp only at hSw); go_simp; (try with_reducible rfl))
  case hQa6 => exact fun _ _ _ h => h
  (try simp only [Act.put, List.setIfInBounds_toArray, List.set_cons_zero, List.set_cons_succ])
  refine wpAnyH_take (i := 7) (oi := ?_) (v := ?_) ?hia7 (by kernel_rfl) ?hfa7 ?hra7 ?hQa7 ?hya7 (by assumption) ?resta7
  case hia7 => (simp only [List.getElem?_toArray, List.getElem?_cons_zero, List.getElem?_cons_succ]; rfl)
  case hfa7 => kernel_rfl
  case hra7 => kernel_rfl
  case hya7 => (refine Or.inl ⟨by rfl, ?_⟩; intro w hSw; (try dsimp only at hSw); go_simp; (try with_reducible rfl))
  case hQa7 => exact fun _ _ _ h => h
  (try simp only [Act.put, List.setIfInBounds_toArray, List.set_cons_zero, List.set_cons_succ])
  refine wpAnyH_take (i := 8) (oi := ?_) (v := ?_) ?hia8 (by kernel_rfl) ?hfa8 ?hra8 ?hQa8 ?hya8 (by assumption) ?resta8
  case hia8 => (simp only [List.getElem?_toArray, List.getElem?_cons_zero, List.getElem?_cons_succ]; rfl)
  case hfa8 => kernel_rfl
  case hra8 => kernel_rfl
  case hya8 => (refine Or.inl ⟨by rfl, ?_⟩; intro w hSw; (try dsimp only at hSw); go_simp; (try with_reducible rfl))
  case hQa8 => exact fun _ _ _ h => h
  (try simp only [Act.put, List.setIfInBounds_toArray, List.set_cons_zero, List.set_cons_succ])
  refine wpAnyH_take (i := 9) (oi := ?_) (v := undef) ?hia9 (by kernel_rfl) ?hfa9 ?hra9 ?hQa9 ?hya9 (by assumption) ?resta9
  case hia9 => (simp only [List.getElem?_toArray, List.getElem?_cons_zero, List.getElem?_cons_succ]; rfl)
  case hfa9 => kernel_rfl
  case hra9 => kernel_rfl
  case hya9 => exact Or.inr ⟨by rfl, rfl⟩
  case hQa9 => exact fun _ _ _ h => h
  (try simp only [Act.put, List.setIfInBounds_toArray, List.set_cons_zero, List.set_cons_succ])
  refine wpAnyH_take (i := 10) (oi := ?_) (v := undef) ?hia10 (by kernel_rfl) ?hfa10 ?hra10 ?hQa10 ?hya10 (by assumption) ?resta10
  case hia10 => (simp only [List.getElem?_toArray, List.getElem?_cons_zero, List.getElem?_cons_succ]; rfl)
  case hfa10 => kernel_rfl
  case hra10 => kernel_rfl
  case hya10 => exact Or.inr ⟨by rfl, rfl⟩
  case hQa10 => exact fun _ _ _ h => h
  (try simp only [Act.put, List.setIfInBounds_toArray, List.set_cons_zero, List.set_cons_succ])
  refine wpAnyH_take (i := 11) (oi := ?_) (v := ?_) ?hia11 (by kernel_rfl) ?hfa11 ?hra11 ?hQa11 ?hya11 (by assumption) ?resta11
  case hia11 => (simp only [List.getElem?_toArray, List.getElem?_cons_zero, List.getElem?_cons_succ]; rfl)
  case hfa11 => kernel_rfl
  case hra11 => kernel_rfl
  case hya11 => (refine Or.inl ⟨by rfl, ?_⟩; intro w hSw; (try dsimp only at hSw); go_simp; (try with_reducible rfl))
  case hQa11 => exact fun _ _ _ h => h
  (try simp only [Act.put, List.setIfInBounds_toArray, List.set_cons_zero, List.set_cons_succ])
  refine wpAnyH_take (i := 12) (oi := ?_) (v := ?_) ?hia12 (by kernel_rfl) ?hfa12 ?hra12 ?hQa12 ?hya12 (by assumption) ?resta12
  case hia12 => (simp only [List.getElem?_toArray, List.getElem?_cons_zero, List.getElem?_cons_succ]; rfl)
  case hfa12 => kernel_rfl
  case hra12 => kernel_rfl
  case hya12 => (refine Or.inl ⟨by rfl, ?_⟩; intro w hSw; (try dsimp only at hSw); go_simp; (try with_reducible rfl))
  case hQa12 => exact fun _ _ _ h => h
  (try simp only [Act.put, List.setIfInBounds_toArray, List.set_cons_zero, List.set_cons_succ])
  refine wpAnyH_take (i := 13) (oi := ?_) (v := ?_) ?hia13 (by kernel_rfl) ?hfa13 ?hra13 ?hQa13 ?hya13 (by assumption) ?resta13
  case hia13 => (simp only [List.getElem?_toArray, List.getElem?_cons_zero, List.getElem?_cons_succ]; rfl)
  case hfa13 => kernel_rfl
  case hra13 => kernel_rfl
  case hya13 => (refine Or.inl ⟨by rfl, ?_⟩; intro w hSw; (try dsimp only at hSw); go_simp; (try with_reducible rfl))
  case hQa13 => exact fun _ _ _ h => h
  (try simp only [Act.put, List.setIfInBounds_toArray, List.set_cons_zero, List.set_cons_succ])
  refine wpAnyH_take (i := 14) (oi := ?_) (v := ?_) ?hia14 (by kernel_rfl) ?hfa14 ?hra14 ?hQa14 ?hya14 (by assumption) ?resta14
  case hia14 => (simp only [List.getElem?_toArray, List.getElem?_cons_zero, List.getElem?_cons_succ]; rfl)
  case hfa14 => kernel_rfl
  case hra14 => kernel_rfl
  case hya14 => (refine Or.inl ⟨by rfl, ?_⟩; intro w hSw; (try dsimp only at hSw); have rr := row_step HROW.out hSw; have c0 := row_cell rr 0; have c1 := row_cell rr 1; have c2 := row_cell rr 2; have c3 := row_cell rr 3; have c4 := row_cell rr 4; simp only [List.getElem?_toArray, List.getElem?_cons_zero, List.getElem?_cons_succ] at c0 c1 c2 c3 c4; go_simp; (try with_reducible rfl))
  case hQa14 => exact fun _ _ _ h => h
  (try simp only [Act.put, List.setIfInBounds_toArray, List.set_cons_zero, List.set_cons_succ])
  refine wpAnyH_take (i := 16) (oi := ?_) (v := ?_) ?hia16 (by kernel_rfl) ?hfa16 ?hra16 ?hQa16 ?hya16 (by assumption) ?resta16
  case hia16 => (simp only [List.getElem?_toArray, List.getElem?_cons_zero, List.getElem?_cons_succ]; rfl)
  case hfa16 => kernel_rfl
  case hra16 => kernel_rfl
  case hya16 => (refine Or.inl ⟨by rfl, ?_⟩; intro w hSw; (try dsimp only at hSw); have rr := row_step HROW.out hSw; have c0 := row_cell rr 0; have c1 := row_cell rr 1; have c2 := row_cell rr 2; have c3 := row_cell rr 3; have c4 := row_cell rr 4; simp only [List.getElem?_toArray, List.getElem?_cons_zero, List.getElem?_cons_succ] at c0 c1 c2 c3 c4; go_simp; (try with_reducible rfl))
  case hQa16 => exact fun _ _ _ h => h
  (try simp only [Act.put, List.setIfInBounds_toArray, List.set_cons_zero, List.set_cons_succ])
  refine wpAnyH_ready (rs := [15]) (by kernel_rfl) (by simp) ?_
  refine AllReadyH.cons (o := ?_) ?hox15 ?stx15 AllReadyH.nil
  case hox15 => (simp only [List.getElem?_toArray, List.getElem?_cons_zero, List.getElem?_cons_succ]; rfl)
  intro K hK
  go_simp
  go_at_call 9; refine (vsize_any 2 _ _ _ _ _ _ _ (4, 0, 0, ⟨#[]⟩, List.replicate N (nilV 0)) _ (rep_keep hHeld _ _ _ HRC.out) HFI.out.1 HFI.out.2.1).mono ?_; rintro e ws ⟨rfl, hb⟩; rw [show sizeM (measT 2 (4, 0, 0, ⟨#[]⟩, List.replicate N (nilV 0))) = sizeT 2 (4, 0, 0, ⟨#[]⟩, List.replicate N (nilV 0)) from HFI.out.2.2.2]; have hS1 := bel_step hHeld hb; clear hb
  go_wp2_with fail
  refine hK.out _ _ hS1 (fun hHeld2 => ?_)
  clear hK K hHeld hHeld2
  have hHeld := hS1
  clear hS1
  (try simp only [Act.put, List.setIfInBounds_toArray, List.set_cons_zero, List.set_cons_succ])
  refine wpAnyH_ready (rs := [17]) (by kernel_rfl) (by simp) ?_
  refine AllReadyH.cons (o := ?_) ?hox17 ?stx17 AllReadyH.nil
  case hox17 => (simp only [List.getElem?_toArray, List.getElem?_cons_zero, List.getElem?_cons_succ]; rfl)
  intro K hK
  go_simp
  go_at_call 10; refine (size_any 2 _ (4, 0, 0, ⟨#[]⟩, List.replicate N (nilV 0)) _ (rep_keep hHeld _ _ _ HRC.out)).mono ?_; rintro e ws ⟨rfl, hb⟩; have hS1 := bel_step hHeld hb; clear hb
  go_wp2_with fail
  refine hK.out _ _ hS1 (fun hHeld2 => ?_)
  clear hK K hHeld hHeld2
  have hHeld := hS1
  clear hS1
  (try simp only [Act.put, List.setIfInBounds_toArray, List.set_cons_zero, List.set_cons_succ])
  refine wpAnyH_take (i := 18) (oi := ?_) (v := ?_) ?hix18 (by kernel_rfl) ?hfx18 ?hrx18 ?hQx18 ?hyx18 (by assumption) ?restx18
  case hix18 => (simp only [List.getElem?_toArray, List.getElem?_cons_zero, List.getElem?_cons_succ]; rfl)
  case hfx18 => kernel_rfl
  case hrx18 => kernel_rfl
  case hyx18 => (refine Or.inl ⟨by rfl, ?_⟩; intro w hSw; (try dsimp only at hSw); go_simp; (try with_reducible rfl))
  case hQx18 => exact fun _ _ _ h => h
  (try simp only [Act.put, List.setIfInBounds_toArray, List.set_cons_zero, List.set_cons_succ])
  refine wpAnyH_take (i := 19) (oi := ?_) (v := ?_) ?hix19 (by kernel_rfl) ?hfx19 ?hrx19 ?hQx19 ?hyx19 (by assumption) ?restx19
  case hix19 => (simp only [List.getElem?_toArray, List.getElem?_cons_zero, List.getElem?_cons_succ]; rfl)
  case hfx19 => kernel_rfl
  case hrx19 => kernel_rfl
  case hyx19 => (refine Or.inl ⟨by rfl, ?_⟩; intro w hSw; (try dsimp only at hSw); go_simp; (try with_reducible rfl))
  case hQx19 => exact fun _ _ _ h => h
  (try simp only [Act.put, List.setIfInBounds_toArray, List.set_cons_zero, List.set_cons_succ])
  refine wpAnyH_take (i := 20) (oi := ?_) (v := ?_) ?hix20 (by kernel_rfl) ?hfx20 ?hrx20 ?hQx20 ?hyx20 (by assumption) ?restx20
  case hix20 => (simp only [List.getElem?_toArray, List.getElem?_cons_zero, List.getElem?_cons_succ]; rfl)
  case hfx20 => kernel_rfl
  case hrx20 => kernel_rfl
  case hyx20 => (refine Or.inl ⟨by rfl, ?_⟩; intro w hSw; (try dsimp only at hSw); go_simp; (try with_reducible rfl))
  case hQx20 => exact fun _ _ _ h => h
  (try simp only [Act.put, List.setIfInBounds_toArray, List.set_cons_zero, List.set_cons_succ])
  refine wpAnyH_done (by kernel_rfl) ?_ _
  have HF := Lib.hid (bel_step HBC.out hHeld)
  clear hHeld
  go_wp2
  go_ret
  exact ⟨rfl, HF.out⟩
set_option maxRecDepth 100000 in
set_option maxHeartbeats 16000000 in
theorem lim_Bn (a n : Int) (h0 : 0 ≤ n) (h1 : n < 256) (g0 : 0 ≤ a) (g1 : a < 256) (D : Nat) (hD : n % 5 = (D : Int)) (hD4 : D ≤ 4) (ha : a % 4 = 1) (hd : 2 < (D : Int)) (w : World) (ht : Tabs w) :
    Calls Tryz.prog 3 #[.int .u8 a, .int .u8 n] w fun e w' => e = .returned (.bool true) ∧ Below w.heap.size w w' := by
  have hD2 : n.tmod 5 = (D : Int) := by rw [Int.tmod_eq_emod_of_nonneg h0]; exact hD
  have ha2 : a.tmod 4 = 1 := by rw [Int.tmod_eq_emod_of_nonneg g0]; exact ha
  have hD0 : (0 : Int) ≤ (D : Int) := by omega
  have hDb : (D : Int) ≤ 4 := by omega
  have hdf : decide ((D : Int) - 2 ≤ 0) = false := by simp; omega
  have hdg : decide ((D : Int) ≤ 2) = false := by simp; omega
  have HT := Lib.hid ht
  have hmk := mk_vals (62 + D) (by omega) (64 + ((D : Int) - 2)) (by omega)
  have HFI := Lib.hid (fine_nils (62 + D) (by omega))
  rw [show decide (62 + D ≤ 64) = false by simp; omega] at HFI
  obtain ⟨N, hN⟩ : ∃ N, 62 + D = N := ⟨_, rfl⟩
  have hNb : N ≤ 1000 := by omega
  rw [hN] at hmk HFI
  clear hN
  clear ht
  go_enter Tryz.func3, Tryz.ntmps3
  go_wp2_with fail
  go_at_call 5; refine (known_any _ HT.out).mono ?_; rintro e w1 ⟨rfl, hb1⟩
  have HB1 := Lib.hid hb1
  clear hb1
  have HRT := Lib.hid (row_alloc_step (row_alloc w1 #[.int .i64 4, .int .i64 0, .float .f64 0, .string ⟨#[]⟩, .slice (some ⟨w1.heap.size + 1, 0, none⟩) N N] 26) (.cells (zv N) 26))
  have HBT := Lib.hid (bel_alloc (bel_alloc HB1.out (.cells #[.int .i64 4, .int .i64 0, .float .f64 0, .string ⟨#[]⟩, .slice (some ⟨w1.heap.size + 1, 0, none⟩) N N] 26)) (.cells (zv N) 26))
  have hzr := row_alloc (w1.alloc (.cells #[.int .i64 4, .int .i64 0, .float .f64 0, .string ⟨#[]⟩, .slice (some ⟨w1.heap.size + 1, 0, none⟩) N N] 26)) (zv N) 26
  rw [World.size_alloc] at hzr
  have HREP := Lib.hid (rep_vals hNb hzr)
  clear hzr
  have hrt := HRT.out
  have b0 := row_cell hrt 0; have b1 := row_cell hrt 1; have b2 := row_cell hrt 2; have b3 := row_cell hrt 3; have b4 := row_cell hrt 4
  simp only [List.getElem?_toArray, List.getElem?_cons_zero, List.getElem?_cons_succ] at b0 b1 b2 b3 b4
  clear hrt
  go_wp2_with fail
  go_at_call 8; refine (check_any 2 _ _ _ _ _ _ _ (4, 0, 0, ⟨#[]⟩, List.replicate N (nilV 0)) _ HREP.out HFI.out.1 HFI.out.2.1).mono ?_; rintro e wc ⟨rfl, hbc⟩
  rw [show checkM (measT 2 (4, 0, 0, ⟨#[]⟩, List.replicate N (nilV 0))) = 22 from HFI.out.2.2.1]
  have HROW := Lib.hid (row_step HRT.out hbc)
  have HBC := Lib.hid (bel_step HBT.out hbc)
  have HRC := Lib.hid (rep_keep hbc _ _ _ HREP.out)
  clear hbc b0 b1 b2 b3 b4
  go_wp2
  refine wp_region_held_drew (S := fun w' => Below wc.heap.size wc w') (by kernel_rfl) ?_ (fun hHeld => ?_)
  · exact Below.drew (Below.refl _ _)
  refine wpAnyH_take (i := 0) (oi := ?_) (v := ?_) ?hia0 (by kernel_rfl) ?hfa0 ?hra0 ?hQa0 ?hya0 (by assumption) ?resta0
  case hia0 => (simp only [List.getElem?_toArray, List.getElem?_cons_zero, List.getElem?_cons_succ]; rfl)
  case hfa0 => kernel_rfl
  case hra0 => kernel_rfl
  case hya0 => (refine Or.inl ⟨by rfl, ?_⟩; intro w hSw; (try dsimp only at hSw); go_simp; (try with_reducible rfl))
  case hQa0 => exact fun _ _ _ h => h
  (try simp only [Act.put, List.setIfInBounds_toArray, List.set_cons_zero, List.set_cons_succ])
  refine wpAnyH_take (i := 1) (oi := ?_) (v := ?_) ?hia1 (by kernel_rfl) ?hfa1 ?hra1 ?hQa1 ?hya1 (by assumption) ?resta1
  case hia1 => (simp only [List.getElem?_toArray, List.getElem?_cons_zero, List.getElem?_cons_succ]; rfl)
  case hfa1 => kernel_rfl
  case hra1 => kernel_rfl
  case hya1 => (refine Or.inl ⟨by rfl, ?_⟩; intro w hSw; (try dsimp only at hSw); go_simp; (try with_reducible rfl))
  case hQa1 => exact fun _ _ _ h => h
  (try simp only [Act.put, List.setIfInBounds_toArray, List.set_cons_zero, List.set_cons_succ])
  refine wpAnyH_take (i := 2) (oi := ?_) (v := ?_) ?hia2 (by kernel_rfl) ?hfa2 ?hra2 ?hQa2 ?hya2 (by assumption) ?resta2
  case hia2 => (simp only [List.getElem?_toArray, List.getElem?_cons_zero, List.getElem?_cons_succ]; rfl)
  case hfa2 => kernel_rfl
  case hra2 => kernel_rfl
  case hya2 => (refine Or.inl ⟨by rfl, ?_⟩; intro w hSw; (try dsimp only at hSw); go_simp; (try with_reducible rfl))
  case hQa2 => exact fun _ _ _ h => h
  (try simp only [Act.put, List.setIfInBounds_toArray, List.set_cons_zero, List.set_cons_succ])
  refine wpAnyH_take (i := 3) (oi := ?_) (v := ?_) ?hia3 (by kernel_rfl) ?hfa3 ?hra3 ?hQa3 ?hya3 (by assumption) ?resta3
  case hia3 => (simp only [List.getElem?_toArray, List.getElem?_cons_zero, List.getElem?_cons_succ]; rfl)
  case hfa3 => kernel_rfl
  case hra3 => kernel_rfl
  case hya3 => (refine Or.inl ⟨by rfl, ?_⟩; intro w hSw; (try dsimp only at hSw); go_simp; (try with_reducible rfl))
  case hQa3 => exact fun _ _ _ h => h
  (try simp only [Act.put, List.setIfInBounds_toArray, List.set_cons_zero, List.set_cons_succ])
  refine wpAnyH_take (i := 4) (oi := ?_) (v := ?_) ?hia4 (by kernel_rfl) ?hfa4 ?hra4 ?hQa4 ?hya4 (by assumption) ?resta4
  case hia4 => (simp only [List.getElem?_toArray, List.getElem?_cons_zero, List.getElem?_cons_succ]; rfl)
  case hfa4 => kernel_rfl
  case hra4 => kernel_rfl
  case hya4 => (refine Or.inl ⟨by rfl, ?_⟩; intro w hSw; (try dsimp only at hSw); go_simp; (try with_reducible rfl))
  case hQa4 => exact fun _ _ _ h => h
  (try simp only [Act.put, List.setIfInBounds_toArray, List.set_cons_zero, List.set_cons_succ])
  refine wpAnyH_take (i := 5) (oi := ?_) (v := ?_) ?hia5 (by kernel_rfl) ?hfa5 ?hra5 ?hQa5 ?hya5 (by assumption) ?resta5
  case hia5 => (simp only [List.getElem?_toArray, List.getElem?_cons_zero, List.getElem?_cons_succ]; rfl)
  case hfa5 => kernel_rfl
  case hra5 => kernel_rfl
  case hya5 => (refine Or.inl ⟨by rfl, ?_⟩; intro w hSw; (try dsimp only at hSw); go_simp; (try with_reducible rfl))
  case hQa5 => exact fun _ _ _ h => h
  (try simp only [Act.put, List.setIfInBounds_toArray, List.set_cons_zero, List.set_cons_succ])
  refine wpAnyH_take (i := 6) (oi := ?_) (v := ?_) ?hia6 (by kernel_rfl) ?hfa6 ?hra6 ?hQa6 ?hya6 (by assumption) ?resta6
  case hia6 => (simp only [List.getElem?_toArray, List.getElem?_cons_zero, List.getElem?_cons_succ]; rfl)
  case hfa6 => kernel_rfl
  case hra6 => kernel_rfl
  case hya6 => (refine Or.inl ⟨by rfl, ?_⟩; intro w hSw; (try dsimp only at hSw); go_simp; (try with_reducible rfl))
  case hQa6 => exact fun _ _ _ h => h
  (try simp only [Act.put, List.setIfInBounds_toArray, List.set_cons_zero, List.set_cons_succ])
  refine wpAnyH_take (i := 7) (oi := ?_) (v := ?_) ?hia7 (by kernel_rfl) ?hfa7 ?hra7 ?hQa7 ?hya7 (by assumption) ?resta7
  case hia7 => (simp only [List.getElem?_toArray, List.getElem?_cons_zero, List.getElem?_cons_succ]; rfl)
  case hfa7 => kernel_rfl
  case hra7 => kernel_rfl
  case hya7 => (refine Or.inl ⟨by rfl, ?_⟩; intro w hSw; (try dsimp only at hSw); go_simp; (try with_reducible rfl))
  case hQa7 => exact fun _ _ _ h => h
  (try simp only [Act.put, List.setIfInBounds_toArray, List.set_cons_zero, List.set_cons_succ])
  refine wpAnyH_take (i := 8) (oi := ?_) (v := ?_) ?hia8 (by kernel_rfl) ?hfa8 ?hra8 ?hQa8 ?hya8 (by assumption) ?resta8
  case hia8 => (simp only [List.getElem?_toArray, List.getElem?_cons_zero, List.getElem?_cons_succ]; rfl)
  case hfa8 => kernel_rfl
  case hra8 => kernel_rfl
  case hya8 => (refine Or.inl ⟨by rfl, ?_⟩; intro w hSw; (try dsimp only at hSw); go_simp; (try with_reducible rfl))
  case hQa8 => exact fun _ _ _ h => h
  (try simp only [Act.put, List.setIfInBounds_toArray, List.set_cons_zero, List.set_cons_succ])
  refine wpAnyH_take (i := 9) (oi := ?_) (v := ?_) ?hia9 (by kernel_rfl) ?hfa9 ?hra9 ?hQa9 ?hya9 (by assumption) ?resta9
  case hia9 => (simp only [List.getElem?_toArray, List.getElem?_cons_zero, List.getElem?_cons_succ]; rfl)
  case hfa9 => kernel_rfl
  case hra9 => kernel_rfl
  case hya9 => (refine Or.inl ⟨by rfl, ?_⟩; intro w hSw; (try dsimp only at hSw); go_simp; (try with_reducible rfl))
  case hQa9 => exact fun _ _ _ h => h
  (try simp only [Act.put, List.setIfInBounds_toArray, List.set_cons_zero, List.set_cons_succ])
  refine wpAnyH_take (i := 10) (oi := ?_) (v := ?_) ?hia10 (by kernel_rfl) ?hfa10 ?hra10 ?hQa10 ?hya10 (by assumption) ?resta10
  case hia10 => (simp only [List.getElem?_toArray, List.getElem?_cons_zero, List.getElem?_cons_succ]; rfl)
  case hfa10 => kernel_rfl
  case hra10 => kernel_rfl
  case hya10 => (refine Or.inl ⟨by rfl, ?_⟩; intro w hSw; (try dsimp only at hSw); go_simp; (try with_reducible rfl))
  case hQa10 => exact fun _ _ _ h => h
  (try simp only [Act.put, List.setIfInBounds_toArray, List.set_cons_zero, List.set_cons_succ])
  refine wpAnyH_take (i := 11) (oi := ?_) (v := ?_) ?hia11 (by kernel_rfl) ?hfa11 ?hra11 ?hQa11 ?hya11 (by assumption) ?resta11
  case hia11 => (simp only [List.getElem?_toArray, List.getElem?_cons_zero, List.getElem?_cons_succ]; rfl)
  case hfa11 => kernel_rfl
  case hra11 => kernel_rfl
  case hya11 => (refine Or.inl ⟨by rfl, ?_⟩; intro w hSw; (try dsimp only at hSw); go_simp; (try with_reducible rfl))
  case hQa11 => exact fun _ _ _ h => h
  (try simp only [Act.put, List.setIfInBounds_toArray, List.set_cons_zero, List.set_cons_succ])
  refine wpAnyH_take (i := 12) (oi := ?_) (v := ?_) ?hia12 (by kernel_rfl) ?hfa12 ?hra12 ?hQa12 ?hya12 (by assumption) ?resta12
  case hia12 => (simp only [List.getElem?_toArray, List.getElem?_cons_zero, List.getElem?_cons_succ]; rfl)
  case hfa12 => kernel_rfl
  case hra12 => kernel_rfl
  case hya12 => (refine Or.inl ⟨by rfl, ?_⟩; intro w hSw; (try dsimp only at hSw); go_simp; (try with_reducible rfl))
  case hQa12 => exact fun _ _ _ h => h
  (try simp only [Act.put, List.setIfInBounds_toArray, List.set_cons_zero, List.set_cons_succ])
  refine wpAnyH_take (i := 13) (oi := ?_) (v := ?_) ?hia13 (by kernel_rfl) ?hfa13 ?hra13 ?hQa13 ?hya13 (by assumption) ?resta13
  case hia13 => (simp only [List.getElem?_toArray, List.getElem?_cons_zero, List.getElem?_cons_succ]; rfl)
  case hfa13 => kernel_rfl
  case hra13 => kernel_rfl
  case hya13 => (refine Or.inl ⟨by rfl, ?_⟩; intro w hSw; (try dsimp only at hSw); go_simp; (try with_reducible rfl))
  case hQa13 => exact fun _ _ _ h => h
  (try simp only [Act.put, List.setIfInBounds_toArray, List.set_cons_zero, List.set_cons_succ])
  refine wpAnyH_take (i := 14) (oi := ?_) (v := ?_) ?hia14 (by kernel_rfl) ?hfa14 ?hra14 ?hQa14 ?hya14 (by assumption) ?resta14
  case hia14 => (simp only [List.getElem?_toArray, List.getElem?_cons_zero, List.getElem?_cons_succ]; rfl)
  case hfa14 => kernel_rfl
  case hra14 => kernel_rfl
  case hya14 => (refine Or.inl ⟨by rfl, ?_⟩; intro w hSw; (try dsimp only at hSw); have rr := row_step HROW.out hSw; have c0 := row_cell rr 0; have c1 := row_cell rr 1; have c2 := row_cell rr 2; have c3 := row_cell rr 3; have c4 := row_cell rr 4; simp only [List.getElem?_toArray, List.getElem?_cons_zero, List.getElem?_cons_succ] at c0 c1 c2 c3 c4; go_simp; (try with_reducible rfl))
  case hQa14 => exact fun _ _ _ h => h
  (try simp only [Act.put, List.setIfInBounds_toArray, List.set_cons_zero, List.set_cons_succ])
  refine wpAnyH_take (i := 16) (oi := ?_) (v := ?_) ?hia16 (by kernel_rfl) ?hfa16 ?hra16 ?hQa16 ?hya16 (by assumption) ?resta16
  case hia16 => (simp only [List.getElem?_toArray, List.getElem?_cons_zero, List.getElem?_cons_succ]; rfl)
  case hfa16 => kernel_rfl
  case hra16 => kernel_rfl
  case hya16 => (refine Or.inl ⟨by rfl, ?_⟩; intro w hSw; (try dsimp only at hSw); have rr := row_step HROW.out hSw; have c0 := row_cell rr 0; have c1 := row_cell rr 1; have c2 := row_cell rr 2; have c3 := row_cell rr 3; have c4 := row_cell rr 4; simp only [List.getElem?_toArray, List.getElem?_cons_zero, List.getElem?_cons_succ] at c0 c1 c2 c3 c4; go_simp; (try with_reducible rfl))
  case hQa16 => exact fun _ _ _ h => h
  (try simp only [Act.put, List.setIfInBounds_toArray, List.set_cons_zero, List.set_cons_succ])
  refine wpAnyH_ready (rs := [15]) (by kernel_rfl) (by simp) ?_
  refine AllReadyH.cons (o := ?_) ?hox15 ?stx15 AllReadyH.nil
  case hox15 => (simp only [List.getElem?_toArray, List.getElem?_cons_zero, List.getElem?_cons_succ]; rfl)
  intro K hK
  go_simp
  go_at_call 9; refine (vsize_any 2 _ _ _ _ _ _ _ (4, 0, 0, ⟨#[]⟩, List.replicate N (nilV 0)) _ (rep_keep hHeld _ _ _ HRC.out) HFI.out.1 HFI.out.2.1).mono ?_; rintro e ws ⟨rfl, hb⟩; rw [show sizeM (measT 2 (4, 0, 0, ⟨#[]⟩, List.replicate N (nilV 0))) = sizeT 2 (4, 0, 0, ⟨#[]⟩, List.replicate N (nilV 0)) from HFI.out.2.2.2]; have hS1 := bel_step hHeld hb; clear hb
  go_wp2_with fail
  refine hK.out _ _ hS1 (fun hHeld2 => ?_)
  clear hK K hHeld hHeld2
  have hHeld := hS1
  clear hS1
  (try simp only [Act.put, List.setIfInBounds_toArray, List.set_cons_zero, List.set_cons_succ])
  refine wpAnyH_ready (rs := [17]) (by kernel_rfl) (by simp) ?_
  refine AllReadyH.cons (o := ?_) ?hox17 ?stx17 AllReadyH.nil
  case hox17 => (simp only [List.getElem?_toArray, List.getElem?_cons_zero, List.getElem?_cons_succ]; rfl)
  intro K hK
  go_simp
  go_at_call 10; refine (size_any 2 _ (4, 0, 0, ⟨#[]⟩, List.replicate N (nilV 0)) _ (rep_keep hHeld _ _ _ HRC.out)).mono ?_; rintro e ws ⟨rfl, hb⟩; have hS1 := bel_step hHeld hb; clear hb
  go_wp2_with fail
  refine hK.out _ _ hS1 (fun hHeld2 => ?_)
  clear hK K hHeld hHeld2
  have hHeld := hS1
  clear hS1
  (try simp only [Act.put, List.setIfInBounds_toArray, List.set_cons_zero, List.set_cons_succ])
  refine wpAnyH_take (i := 18) (oi := ?_) (v := ?_) ?hix18 (by kernel_rfl) ?hfx18 ?hrx18 ?hQx18 ?hyx18 (by assumption) ?restx18
  case hix18 => (simp only [List.getElem?_toArray, List.getElem?_cons_zero, List.getElem?_cons_succ]; rfl)
  case hfx18 => kernel_rfl
  case hrx18 => kernel_rfl
  case hyx18 => (refine Or.inl ⟨by rfl, ?_⟩; intro w hSw; (try dsimp only at hSw); go_simp; (try with_reducible rfl))
  case hQx18 => exact fun _ _ _ h => h
  (try simp only [Act.put, List.setIfInBounds_toArray, List.set_cons_zero, List.set_cons_succ])
  refine wpAnyH_take (i := 19) (oi := ?_) (v := ?_) ?hix19 (by kernel_rfl) ?hfx19 ?hrx19 ?hQx19 ?hyx19 (by assumption) ?restx19
  case hix19 => (simp only [List.getElem?_toArray, List.getElem?_cons_zero, List.getElem?_cons_succ]; rfl)
  case hfx19 => kernel_rfl
  case hrx19 => kernel_rfl
  case hyx19 => (refine Or.inl ⟨by rfl, ?_⟩; intro w hSw; (try dsimp only at hSw); go_simp; (try with_reducible rfl))
  case hQx19 => exact fun _ _ _ h => h
  (try simp only [Act.put, List.setIfInBounds_toArray, List.set_cons_zero, List.set_cons_succ])
  refine wpAnyH_take (i := 20) (oi := ?_) (v := ?_) ?hix20 (by kernel_rfl) ?hfx20 ?hrx20 ?hQx20 ?hyx20 (by assumption) ?restx20
  case hix20 => (simp only [List.getElem?_toArray, List.getElem?_cons_zero, List.getElem?_cons_succ]; rfl)
  case hfx20 => kernel_rfl
  case hrx20 => kernel_rfl
  case hyx20 => (refine Or.inl ⟨by rfl, ?_⟩; intro w hSw; (try dsimp only at hSw); go_simp; (try with_reducible rfl))
  case hQx20 => exact fun _ _ _ h => h
  (try simp only [Act.put, List.setIfInBounds_toArray, List.set_cons_zero, List.set_cons_succ])
  refine wpAnyH_done (by kernel_rfl) ?_ _
  have HF := Lib.hid (bel_step HBC.out hHeld)
  clear hHeld
  go_wp2
  go_ret
  exact ⟨rfl, HF.out⟩
set_option maxRecDepth 100000 in
set_option maxHeartbeats 16000000 in
theorem lim_Cy (a n : Int) (h0 : 0 ≤ n) (h1 : n < 256) (g0 : 0 ≤ a) (g1 : a < 256) (D : Nat) (hD : n % 5 = (D : Int)) (hD4 : D ≤ 4) (ha : a % 4 = 2) (hd : (D : Int) ≤ 2) (w : World) (ht : Tabs w) :
    Calls Tryz.prog 3 #[.int .u8 a, .int .u8 n] w fun e w' => e = .returned (.bool true) ∧ Below w.heap.size w w' := by
  have hD2 : n.tmod 5 = (D : Int) := by rw [Int.tmod_eq_emod_of_nonneg h0]; exact hD
  have ha2 : a.tmod 4 = 2 := by rw [Int.tmod_eq_emod_of_nonneg g0]; exact ha
  have hD0 : (0 : Int) ≤ (D : Int) := by omega
  have hDb : (D : Int) ≤ 4 := by omega
  have hdf : decide ((D : Int) - 2 ≤ 0) = true := by simp; omega
  have hdg : decide ((D : Int) ≤ 2) = true := by simp; omega
  have HT := Lib.hid ht
  clear ht
  go_enter Tryz.func3, Tryz.ntmps3
  go_wp2_with fail
  go_at_call 5; refine (known_any _ HT.out).mono ?_; rintro e w1 ⟨rfl, hb1⟩
  have HB1 := Lib.hid hb1
  clear hb1
  have HW1 := Lib.hid (rfl : w1 = w1)
  have HBZ := Lib.hid (bel_alloc HB1.out (.cells #[.int .i64 0, .int .i64 0, .float .f64 0, .string ⟨#[]⟩, .slice none 0 0] 26))
  have HRZ := Lib.hid (row_alloc w1 #[.int .i64 0, .int .i64 0, .float .f64 0, .string ⟨#[]⟩, .slice none 0 0] 26)
  have HPZ := Lib.hid (show RepS (fun b => b ≠ w1.heap.size) (w1.alloc (.cells #[.int .i64 0, .int .i64 0, .float .f64 0, .string ⟨#[]⟩, .slice none 0 0] 26)) 1 (.agg #[.int .i64 0, .int .i64 0, .float .f64 0, .string ⟨#[]⟩, .slice none 0 0]) (nestV 0) from ⟨none, 0, 0, rfl, (show okI (0 : Int) from by decide), (show okI (0 : Int) from by decide), (show 0 < 2 ^ 64 from by decide), (show (⟨#[]⟩ : ByteArray).size ≤ maxLen from by decide), ⟨rfl, Nat.le_refl _, Nat.zero_le _, fun h => absurd h (Nat.lt_irrefl _)⟩, fun h => absurd h (Nat.lt_irrefl _)⟩)
  go_wp2
  clear hD hD2 h0 h1 ha ha2 g0 g1
  go_loopw [7] (fun i wr => ∃ (k : Nat) (K I : Int) (F : Nat) (S : ByteArray) (p : Option Addr) (l c : Nat), k ≤ 6 + D ∧ i = .int .i64 (k : Int) ∧ wr.heap[w1.heap.size]? = some (.cells #[.int .i64 K, .int .i64 I, .float .f64 F, .string S, .slice p l c] 26 (0, 0)) ∧ RepS (fun b => b ≠ w1.heap.size) wr (k + 1) (.agg #[.int .i64 K, .int .i64 I, .float .f64 F, .string S, .slice p l c]) (nestV k) ∧ Below w.heap.size w wr) (fun i _ => 6 + D - (intOf i).toNat)
  case atStart => exact ⟨0, 0, 0, 0, ⟨#[]⟩, none, 0, 0, Nat.zero_le _, rfl, HRZ.out, HPZ.out, HBZ.out⟩
  case round =>
    obtain ⟨k, K, I, F, S, p, l, c, hk, rfl, hrow, hrep, hbw⟩ := hrel
    have HRW := Lib.hid hrow
    have HRP := Lib.hid hrep
    have HBW := Lib.hid hbw
    have hlt := row_lt hrow
    by_cases hltk : k < 6 + D
    · have hltk' : (k : Int) < 8 + ((D : Int) - 2) := by omega
      have b0 := row_cell hrow 0; have b1 := row_cell hrow 1; have b2 := row_cell hrow 2; have b3 := row_cell hrow 3; have b4 := row_cell hrow 4
      simp only [List.getElem?_toArray, List.getElem?_cons_zero, List.getElem?_cons_succ] at b0 b1 b2 b3 b4
      clear hrow hrep hbw
      go_wp2_with fail
      go_at_call 7; refine (list_ref_any _ _ _ _).mono ?_; rintro e w2 ⟨rfl, hb2⟩
      have hr2 := row_step (row_alloc_step HRW.out (.cells #[.int .i64 K, .int .i64 I, .float .f64 F, .string S, .slice p l c] 26)) hb2
      have HR2 := Lib.hid (set5_rowL hr2 (.int .i64 4) (.int .i64 0) (.float .f64 0) (.string ⟨#[]⟩) (.slice (some ⟨wr.heap.size, 0, none⟩) 1 1))
      have HP2 := Lib.hid (nest_step (n := k + 1) (T := nestV k) hlt HRP.out rfl hb2 (.int .i64 4) (.int .i64 0) (.float .f64 0) (.string ⟨#[]⟩) (.slice (some ⟨wr.heap.size, 0, none⟩) 1 1))
      have HB2 := Lib.hid (below5 (bel_step (bel_alloc HBW.out (.cells #[.int .i64 K, .int .i64 I, .float .f64 F, .string S, .slice p l c] 26)) hb2) HB1.out.size (.int .i64 4) (.int .i64 0) (.float .f64 0) (.string ⟨#[]⟩) (.slice (some ⟨wr.heap.size, 0, none⟩) 1 1))
      have k0 := row_cell hr2 0; have k1 := row_cell hr2 1; have k2 := row_cell hr2 2; have k3 := row_cell hr2 3; have k4 := row_cell hr2 4
      simp only [List.getElem?_toArray, List.getElem?_cons_zero, List.getElem?_cons_succ] at k0 k1 k2 k3 k4
      have kf := fun o => row_frz hr2 o
      clear hr2 hb2 b0 b1 b2 b3 b4
      go_wp2
      go_roundw
      case rel => exact ⟨k + 1, 4, 0, 0, ⟨#[]⟩, some ⟨wr.heap.size, 0, none⟩, 1, 1, by omega, by go_num, HR2.out, HP2.out, HB2.out⟩
      case measure => simp [intOf]; omega
    · obtain rfl : k = 6 + D := by omega
      have hltk' : ¬ (((6 + D : Nat) : Int) < 8 + ((D : Int) - 2)) := by omega
      have HFI := Lib.hid (fine_nest (6 + D) (by omega))
      rw [show decide (6 + D ≤ 8) = true by simp; omega] at HFI
      have HREP := Lib.hid (repS_rep _ _ _ hrep)
      have HRT := HRW
      have HBT := HBW
      clear hrow hrep hbw
      have hrt := HRT.out
      have b0 := row_cell hrt 0; have b1 := row_cell hrt 1; have b2 := row_cell hrt 2; have b3 := row_cell hrt 3; have b4 := row_cell hrt 4
      simp only [List.getElem?_toArray, List.getElem?_cons_zero, List.getElem?_cons_succ] at b0 b1 b2 b3 b4
      clear hrt
      go_wp2_with fail
      go_at_call 8; refine (check_any (6 + D + 1) _ _ _ _ _ _ _ (nestV (6 + D)) _ HREP.out HFI.out.1 HFI.out.2.1).mono ?_; rintro e wc ⟨rfl, hbc⟩
      rw [show checkM (measT (6 + D + 1) (nestV (6 + D))) = 0 from HFI.out.2.2.1]
      have HROW := Lib.hid (row_step HRT.out hbc)
      have HBC := Lib.hid (bel_step HBT.out hbc)
      have HRC := Lib.hid (rep_keep hbc _ _ _ HREP.out)
      clear hbc b0 b1 b2 b3 b4
      go_wp2
      refine wp_region_held_drew (S := fun w' => Below wc.heap.size wc w') (by kernel_rfl) ?_ (fun hHeld => ?_)
      · exact Below.drew (Below.refl _ _)
      refine wpAnyH_take (i := 0) (oi := ?_) (v := ?_) ?hia0 (by kernel_rfl) ?hfa0 ?hra0 ?hQa0 ?hya0 (by assumption) ?resta0
      case hia0 => (simp only [List.getElem?_toArray, List.getElem?_cons_zero, List.getElem?_cons_succ]; rfl)
      case hfa0 => kernel_rfl
      case hra0 => kernel_rfl
      case hya0 => (refine Or.inl ⟨by rfl, ?_⟩; intro w hSw; (try dsimp only at hSw); go_simp; (try with_reducible rfl))
      case hQa0 => exact fun _ _ _ h => h
      (try simp only [Act.put, List.setIfInBounds_toArray, List.set_cons_zero, List.set_cons_succ])
      refine wpAnyH_take (i := 1) (oi := ?_) (v := ?_) ?hia1 (by kernel_rfl) ?hfa1 ?hra1 ?hQa1 ?hya1 (by assumption) ?resta1
      case hia1 => (simp only [List.getElem?_toArray, List.getElem?_cons_zero, List.getElem?_cons_succ]; rfl)
      case hfa1 => kernel_rfl
      case hra1 => kernel_rfl
      case hya1 => (refine Or.inl ⟨by rfl, ?_⟩; intro w hSw; (try dsimp only at hSw); go_simp; (try with_reducible rfl))
      case hQa1 => exact fun _ _ _ h => h
      (try simp only [Act.put, List.setIfInBounds_toArray, List.set_cons_zero, List.set_cons_succ])
      refine wpAnyH_take (i := 2) (oi := ?_) (v := ?_) ?hia2 (by kernel_rfl) ?hfa2 ?hra2 ?hQa2 ?hya2 (by assumption) ?resta2
      case hia2 => (simp only [List.getElem?_toArray, List.getElem?_cons_zero, List.getElem?_cons_succ]; rfl)
      case hfa2 => kernel_rfl
      case hra2 => kernel_rfl
      case hya2 => (refine Or.inl ⟨by rfl, ?_⟩; intro w hSw; (try dsimp only at hSw); go_simp; (try with_reducible rfl))
      case hQa2 => exact fun _ _ _ h => h
      (try simp only [Act.put, List.setIfInBounds_toArray, List.set_cons_zero, List.set_cons_succ])
      refine wpAnyH_take (i := 3) (oi := ?_) (v := ?_) ?hia3 (by kernel_rfl) ?hfa3 ?hra3 ?hQa3 ?hya3 (by assumption) ?resta3
      case hia3 => (simp only [List.getElem?_toArray, List.getElem?_cons_zero, List.getElem?_cons_succ]; rfl)
      case hfa3 => kernel_rfl
      case hra3 => kernel_rfl
      case hya3 => (refine Or.inl ⟨by rfl, ?_⟩; intro w hSw; (try dsimp only at hSw); go_simp; (try with_reducible rfl))
      case hQa3 => exact fun _ _ _ h => h
      (try simp only [Act.put, List.setIfInBounds_toArray, List.set_cons_zero, List.set_cons_succ])
      refine wpAnyH_take (i := 4) (oi := ?_) (v := ?_) ?hia4 (by kernel_rfl) ?hfa4 ?hra4 ?hQa4 ?hya4 (by assumption) ?resta4
      case hia4 => (simp only [List.getElem?_toArray, List.getElem?_cons_zero, List.getElem?_cons_succ]; rfl)
      case hfa4 => kernel_rfl
      case hra4 => kernel_rfl
      case hya4 => (refine Or.inl ⟨by rfl, ?_⟩; intro w hSw; (try dsimp only at hSw); go_simp; (try with_reducible rfl))
      case hQa4 => exact fun _ _ _ h => h
      (try simp only [Act.put, List.setIfInBounds_toArray, List.set_cons_zero, List.set_cons_succ])
      refine wpAnyH_take (i := 5) (oi := ?_) (v := ?_) ?hia5 (by kernel_rfl) ?hfa5 ?hra5 ?hQa5 ?hya5 (by assumption) ?resta5
      case hia5 => (simp only [List.getElem?_toArray, List.getElem?_cons_zero, List.getElem?_cons_succ]; rfl)
      case hfa5 => kernel_rfl
      case hra5 => kernel_rfl
      case hya5 => (refine Or.inl ⟨by rfl, ?_⟩; intro w hSw; (try dsimp only at hSw); go_simp; (try with_reducible rfl))
      case hQa5 => exact fun _ _ _ h => h
      (try simp only [Act.put, List.setIfInBounds_toArray, List.set_cons_zero, List.set_cons_succ])
      refine wpAnyH_take (i := 6) (oi := ?_) (v := ?_) ?hia6 (by kernel_rfl) ?hfa6 ?hra6 ?hQa6 ?hya6 (by assumption) ?resta6
      case hia6 => (simp only [List.getElem?_toArray, List.getElem?_cons_zero, List.getElem?_cons_succ]; rfl)
      case hfa6 => kernel_rfl
      case hra6 => kernel_rfl
      case hya6 => (refine Or.inl ⟨by rfl, ?_⟩; intro w hSw; (try dsimp only at hSw); go_simp; (try with_reducible rfl))
      case hQa6 => exact fun _ _ _ h => h
      (try simp only [Act.put, List.setIfInBounds_toArray, List.set_cons_zero, List.set_cons_succ])
      refine wpAnyH_take (i := 7) (oi := ?_) (v := ?_) ?hia7 (by kernel_rfl) ?hfa7 ?hra7 ?hQa7 ?hya7 (by assumption) ?resta7
      case hia7 => (simp only [List.getElem?_toArray, List.getElem?_cons_zero, List.getElem?_cons_succ]; rfl)
      case hfa7 => kernel_rfl
      case hra7 => kernel_rfl
      case hya7 => (refine Or.inl ⟨by rfl, ?_⟩; intro w hSw; (try dsimp only at hSw); go_simp; (try with_reducible rfl))
      case hQa7 => exact fun _ _ _ h => h
      (try simp only [Act.put, List.setIfInBounds_toArray, List.set_cons_zero, List.set_cons_succ])
      refine wpAnyH_take (i := 8) (oi := ?_) (v := ?_) ?hia8 (by kernel_rfl) ?hfa8 ?hra8 ?hQa8 ?hya8 (by assumption) ?resta8
      case hia8 => (simp only [List.getElem?_toArray, List.getElem?_cons_zero, List.getElem?_cons_succ]; rfl)
      case hfa8 => kernel_rfl
      case hra8 => kernel_rfl
      case hya8 => (refine Or.inl ⟨by rfl, ?_⟩; intro w hSw; (try dsimp only at hSw); go_simp; (try with_reducible rfl))
      case hQa8 => exact fun _ _ _ h => h
      (try simp only [Act.put, List.setIfInBounds_toArray, List.set_cons_zero, List.set_cons_succ])
      refine wpAnyH_take (i := 9) (oi := ?_) (v := undef) ?hia9 (by kernel_rfl) ?hfa9 ?hra9 ?hQa9 ?hya9 (by assumption) ?resta9
      case hia9 => (simp only [List.getElem?_toArray, List.getElem?_cons_zero, List.getElem?_cons_succ]; rfl)
      case hfa9 => kernel_rfl
      case hra9 => kernel_rfl
      case hya9 => exact Or.inr ⟨by rfl, rfl⟩
      case hQa9 => exact fun _ _ _ h => h
      (try simp only [Act.put, List.setIfInBounds_toArray, List.set_cons_zero, List.set_cons_succ])
      refine wpAnyH_take (i := 10) (oi := ?_) (v := undef) ?hia10 (by kernel_rfl) ?hfa10 ?hra10 ?hQa10 ?hya10 (by assumption) ?resta10
      case hia10 => (simp only [List.getElem?_toArray, List.getElem?_cons_zero, List.getElem?_cons_succ]; rfl)
      case hfa10 => kernel_rfl
      case hra10 => kernel_rfl
      case hya10 => exact Or.inr ⟨by rfl, rfl⟩
      case hQa10 => exact fun _ _ _ h => h
      (try simp only [Act.put, List.setIfInBounds_toArray, List.set_cons_zero, List.set_cons_succ])
      refine wpAnyH_take (i := 11) (oi := ?_) (v := ?_) ?hia11 (by kernel_rfl) ?hfa11 ?hra11 ?hQa11 ?hya11 (by assumption) ?resta11
      case hia11 => (simp only [List.getElem?_toArray, List.getElem?_cons_zero, List.getElem?_cons_succ]; rfl)
      case hfa11 => kernel_rfl
      case hra11 => kernel_rfl
      case hya11 => (refine Or.inl ⟨by rfl, ?_⟩; intro w hSw; (try dsimp only at hSw); go_simp; (try with_reducible rfl))
      case hQa11 => exact fun _ _ _ h => h
      (try simp only [Act.put, List.setIfInBounds_toArray, List.set_cons_zero, List.set_cons_succ])
      refine wpAnyH_take (i := 12) (oi := ?_) (v := ?_) ?hia12 (by kernel_rfl) ?hfa12 ?hra12 ?hQa12 ?hya12 (by assumption) ?resta12
      case hia12 => (simp only [List.getElem?_toArray, List.getElem?_cons_zero, List.getElem?_cons_succ]; rfl)
      case hfa12 => kernel_rfl
      case hra12 => kernel_rfl
      case hya12 => (refine Or.inl ⟨by rfl, ?_⟩; intro w hSw; (try dsimp only at hSw); go_simp; (try with_reducible rfl))
      case hQa12 => exact fun _ _ _ h => h
      (try simp only [Act.put, List.setIfInBounds_toArray, List.set_cons_zero, List.set_cons_succ])
      refine wpAnyH_take (i := 13) (oi := ?_) (v := ?_) ?hia13 (by kernel_rfl) ?hfa13 ?hra13 ?hQa13 ?hya13 (by assumption) ?resta13
      case hia13 => (simp only [List.getElem?_toArray, List.getElem?_cons_zero, List.getElem?_cons_succ]; rfl)
      case hfa13 => kernel_rfl
      case hra13 => kernel_rfl
      case hya13 => (refine Or.inl ⟨by rfl, ?_⟩; intro w hSw; (try dsimp only at hSw); go_simp; (try with_reducible rfl))
      case hQa13 => exact fun _ _ _ h => h
      (try simp only [Act.put, List.setIfInBounds_toArray, List.set_cons_zero, List.set_cons_succ])
      refine wpAnyH_take (i := 14) (oi := ?_) (v := ?_) ?hia14 (by kernel_rfl) ?hfa14 ?hra14 ?hQa14 ?hya14 (by assumption) ?resta14
      case hia14 => (simp only [List.getElem?_toArray, List.getElem?_cons_zero, List.getElem?_cons_succ]; rfl)
      case hfa14 => kernel_rfl
      case hra14 => kernel_rfl
      case hya14 => (refine Or.inl ⟨by rfl, ?_⟩; intro w hSw; (try dsimp only at hSw); have rr := row_step HROW.out hSw; have c0 := row_cell rr 0; have c1 := row_cell rr 1; have c2 := row_cell rr 2; have c3 := row_cell rr 3; have c4 := row_cell rr 4; simp only [List.getElem?_toArray, List.getElem?_cons_zero, List.getElem?_cons_succ] at c0 c1 c2 c3 c4; go_simp; (try with_reducible rfl))
      case hQa14 => exact fun _ _ _ h => h
      (try simp only [Act.put, List.setIfInBounds_toArray, List.set_cons_zero, List.set_cons_succ])
      refine wpAnyH_take (i := 16) (oi := ?_) (v := ?_) ?hia16 (by kernel_rfl) ?hfa16 ?hra16 ?hQa16 ?hya16 (by assumption) ?resta16
      case hia16 => (simp only [List.getElem?_toArray, List.getElem?_cons_zero, List.getElem?_cons_succ]; rfl)
      case hfa16 => kernel_rfl
      case hra16 => kernel_rfl
      case hya16 => (refine Or.inl ⟨by rfl, ?_⟩; intro w hSw; (try dsimp only at hSw); have rr := row_step HROW.out hSw; have c0 := row_cell rr 0; have c1 := row_cell rr 1; have c2 := row_cell rr 2; have c3 := row_cell rr 3; have c4 := row_cell rr 4; simp only [List.getElem?_toArray, List.getElem?_cons_zero, List.getElem?_cons_succ] at c0 c1 c2 c3 c4; go_simp; (try with_reducible rfl))
      case hQa16 => exact fun _ _ _ h => h
      (try simp only [Act.put, List.setIfInBounds_toArray, List.set_cons_zero, List.set_cons_succ])
      refine wpAnyH_ready (rs := [15]) (by kernel_rfl) (by simp) ?_
      refine AllReadyH.cons (o := ?_) ?hox15 ?stx15 AllReadyH.nil
      case hox15 => (simp only [List.getElem?_toArray, List.getElem?_cons_zero, List.getElem?_cons_succ]; rfl)
      intro K hK
      go_simp
      go_at_call 9; refine (vsize_any (6 + D + 1) _ _ _ _ _ _ _ (nestV (6 + D)) _ (rep_keep hHeld _ _ _ HRC.out) HFI.out.1 HFI.out.2.1).mono ?_; rintro e ws ⟨rfl, hb⟩; rw [show sizeM (measT (6 + D + 1) (nestV (6 + D))) = sizeT (6 + D + 1) (nestV (6 + D)) from HFI.out.2.2.2]; have hS1 := bel_step hHeld hb; clear hb
      go_wp2_with fail
      refine hK.out _ _ hS1 (fun hHeld2 => ?_)
      clear hK K hHeld hHeld2
      have hHeld := hS1
      clear hS1
      (try simp only [Act.put, List.setIfInBounds_toArray, List.set_cons_zero, List.set_cons_succ])
      refine wpAnyH_ready (rs := [17]) (by kernel_rfl) (by simp) ?_
      refine AllReadyH.cons (o := ?_) ?hox17 ?stx17 AllReadyH.nil
      case hox17 => (simp only [List.getElem?_toArray, List.getElem?_cons_zero, List.getElem?_cons_succ]; rfl)
      intro K hK
      go_simp
      go_at_call 10; refine (size_any (6 + D + 1) _ (nestV (6 + D)) _ (rep_keep hHeld _ _ _ HRC.out)).mono ?_; rintro e ws ⟨rfl, hb⟩; have hS1 := bel_step hHeld hb; clear hb
      go_wp2_with fail
      refine hK.out _ _ hS1 (fun hHeld2 => ?_)
      clear hK K hHeld hHeld2
      have hHeld := hS1
      clear hS1
      (try simp only [Act.put, List.setIfInBounds_toArray, List.set_cons_zero, List.set_cons_succ])
      refine wpAnyH_take (i := 18) (oi := ?_) (v := ?_) ?hix18 (by kernel_rfl) ?hfx18 ?hrx18 ?hQx18 ?hyx18 (by assumption) ?restx18
      case hix18 => (simp only [List.getElem?_toArray, List.getElem?_cons_zero, List.getElem?_cons_succ]; rfl)
      case hfx18 => kernel_rfl
      case hrx18 => kernel_rfl
      case hyx18 => (refine Or.inl ⟨by rfl, ?_⟩; intro w hSw; (try dsimp only at hSw); go_simp; (try with_reducible rfl))
      case hQx18 => exact fun _ _ _ h => h
      (try simp only [Act.put, List.setIfInBounds_toArray, List.set_cons_zero, List.set_cons_succ])
      refine wpAnyH_take (i := 19) (oi := ?_) (v := ?_) ?hix19 (by kernel_rfl) ?hfx19 ?hrx19 ?hQx19 ?hyx19 (by assumption) ?restx19
      case hix19 => (simp only [List.getElem?_toArray, List.getElem?_cons_zero, List.getElem?_cons_succ]; rfl)
      case hfx19 => kernel_rfl
      case hrx19 => kernel_rfl
      case hyx19 => (refine Or.inl ⟨by rfl, ?_⟩; intro w hSw; (try dsimp only at hSw); go_simp; (try with_reducible rfl))
      case hQx19 => exact fun _ _ _ h => h
      (try simp only [Act.put, List.setIfInBounds_toArray, List.set_cons_zero, List.set_cons_succ])
      refine wpAnyH_take (i := 20) (oi := ?_) (v := ?_) ?hix20 (by kernel_rfl) ?hfx20 ?hrx20 ?hQx20 ?hyx20 (by assumption) ?restx20
      case hix20 => (simp only [List.getElem?_toArray, List.getElem?_cons_zero, List.getElem?_cons_succ]; rfl)
      case hfx20 => kernel_rfl
      case hrx20 => kernel_rfl
      case hyx20 => (refine Or.inl ⟨by rfl, ?_⟩; intro w hSw; (try dsimp only at hSw); go_simp; (try with_reducible rfl))
      case hQx20 => exact fun _ _ _ h => h
      (try simp only [Act.put, List.setIfInBounds_toArray, List.set_cons_zero, List.set_cons_succ])
      refine wpAnyH_done (by kernel_rfl) ?_ _
      have HF := Lib.hid (bel_step HBC.out hHeld)
      clear hHeld
      go_wp2
      go_ret
      exact ⟨rfl, HF.out⟩
set_option maxRecDepth 100000 in
set_option maxHeartbeats 16000000 in
theorem lim_Cn (a n : Int) (h0 : 0 ≤ n) (h1 : n < 256) (g0 : 0 ≤ a) (g1 : a < 256) (D : Nat) (hD : n % 5 = (D : Int)) (hD4 : D ≤ 4) (ha : a % 4 = 2) (hd : 2 < (D : Int)) (w : World) (ht : Tabs w) :
    Calls Tryz.prog 3 #[.int .u8 a, .int .u8 n] w fun e w' => e = .returned (.bool true) ∧ Below w.heap.size w w' := by
  have hD2 : n.tmod 5 = (D : Int) := by rw [Int.tmod_eq_emod_of_nonneg h0]; exact hD
  have ha2 : a.tmod 4 = 2 := by rw [Int.tmod_eq_emod_of_nonneg g0]; exact ha
  have hD0 : (0 : Int) ≤ (D : Int) := by omega
  have hDb : (D : Int) ≤ 4 := by omega
  have hdf : decide ((D : Int) - 2 ≤ 0) = false := by simp; omega
  have hdg : decide ((D : Int) ≤ 2) = false := by simp; omega
  have HT := Lib.hid ht
  clear ht
  go_enter Tryz.func3, Tryz.ntmps3
  go_wp2_with fail
  go_at_call 5; refine (known_any _ HT.out).mono ?_; rintro e w1 ⟨rfl, hb1⟩
  have HB1 := Lib.hid hb1
  clear hb1
  have HW1 := Lib.hid (rfl : w1 = w1)
  have HBZ := Lib.hid (bel_alloc HB1.out (.cells #[.int .i64 0, .int .i64 0, .float .f64 0, .string ⟨#[]⟩, .slice none 0 0] 26))
  have HRZ := Lib.hid (row_alloc w1 #[.int .i64 0, .int .i64 0, .float .f64 0, .string ⟨#[]⟩, .slice none 0 0] 26)
  have HPZ := Lib.hid (show RepS (fun b => b ≠ w1.heap.size) (w1.alloc (.cells #[.int .i64 0, .int .i64 0, .float .f64 0, .string ⟨#[]⟩, .slice none 0 0] 26)) 1 (.agg #[.int .i64 0, .int .i64 0, .float .f64 0, .string ⟨#[]⟩, .slice none 0 0]) (nestV 0) from ⟨none, 0, 0, rfl, (show okI (0 : Int) from by decide), (show okI (0 : Int) from by decide), (show 0 < 2 ^ 64 from by decide), (show (⟨#[]⟩ : ByteArray).size ≤ maxLen from by decide), ⟨rfl, Nat.le_refl _, Nat.zero_le _, fun h => absurd h (Nat.lt_irrefl _)⟩, fun h => absurd h (Nat.lt_irrefl _)⟩)
  go_wp2
  clear hD hD2 h0 h1 ha ha2 g0 g1
  go_loopw [7] (fun i wr => ∃ (k : Nat) (K I : Int) (F : Nat) (S : ByteArray) (p : Option Addr) (l c : Nat), k ≤ 6 + D ∧ i = .int .i64 (k : Int) ∧ wr.heap[w1.heap.size]? = some (.cells #[.int .i64 K, .int .i64 I, .float .f64 F, .string S, .slice p l c] 26 (0, 0)) ∧ RepS (fun b => b ≠ w1.heap.size) wr (k + 1) (.agg #[.int .i64 K, .int .i64 I, .float .f64 F, .string S, .slice p l c]) (nestV k) ∧ Below w.heap.size w wr) (fun i _ => 6 + D - (intOf i).toNat)
  case atStart => exact ⟨0, 0, 0, 0, ⟨#[]⟩, none, 0, 0, Nat.zero_le _, rfl, HRZ.out, HPZ.out, HBZ.out⟩
  case round =>
    obtain ⟨k, K, I, F, S, p, l, c, hk, rfl, hrow, hrep, hbw⟩ := hrel
    have HRW := Lib.hid hrow
    have HRP := Lib.hid hrep
    have HBW := Lib.hid hbw
    have hlt := row_lt hrow
    by_cases hltk : k < 6 + D
    · have hltk' : (k : Int) < 8 + ((D : Int) - 2) := by omega
      have b0 := row_cell hrow 0; have b1 := row_cell hrow 1; have b2 := row_cell hrow 2; have b3 := row_cell hrow 3; have b4 := row_cell hrow 4
      simp only [List.getElem?_toArray, List.getElem?_cons_zero, List.getElem?_cons_succ] at b0 b1 b2 b3 b4
      clear hrow hrep hbw
      go_wp2_with fail
      go_at_call 7; refine (list_ref_any _ _ _ _).mono ?_; rintro e w2 ⟨rfl, hb2⟩
      have hr2 := row_step (row_alloc_step HRW.out (.cells #[.int .i64 K, .int .i64 I, .float .f64 F, .string S, .slice p l c] 26)) hb2
      have HR2 := Lib.hid (set5_rowL hr2 (.int .i64 4) (.int .i64 0) (.float .f64 0) (.string ⟨#[]⟩) (.slice (some ⟨wr.heap.size, 0, none⟩) 1 1))
      have HP2 := Lib.hid (nest_step (n := k + 1) (T := nestV k) hlt HRP.out rfl hb2 (.int .i64 4) (.int .i64 0) (.float .f64 0) (.string ⟨#[]⟩) (.slice (some ⟨wr.heap.size, 0, none⟩) 1 1))
      have HB2 := Lib.hid (below5 (bel_step (bel_alloc HBW.out (.cells #[.int .i64 K, .int .i64 I, .float .f64 F, .string S, .slice p l c] 26)) hb2) HB1.out.size (.int .i64 4) (.int .i64 0) (.float .f64 0) (.string ⟨#[]⟩) (.slice (some ⟨wr.heap.size, 0, none⟩) 1 1))
      have k0 := row_cell hr2 0; have k1 := row_cell hr2 1; have k2 := row_cell hr2 2; have k3 := row_cell hr2 3; have k4 := row_cell hr2 4
      simp only [List.getElem?_toArray, List.getElem?_cons_zero, List.getElem?_cons_succ] at k0 k1 k2 k3 k4
      have kf := fun o => row_frz hr2 o
      clear hr2 hb2 b0 b1 b2 b3 b4
      go_wp2
      go_roundw
      case rel => exact ⟨k + 1, 4, 0, 0, ⟨#[]⟩, some ⟨wr.heap.size, 0, none⟩, 1, 1, by omega, by go_num, HR2.out, HP2.out, HB2.out⟩
      case measure => simp [intOf]; omega
    · obtain rfl : k = 6 + D := by omega
      have hltk' : ¬ (((6 + D : Nat) : Int) < 8 + ((D : Int) - 2)) := by omega
      have HFI := Lib.hid (fine_nest (6 + D) (by omega))
      rw [show decide (6 + D ≤ 8) = false by simp; omega] at HFI
      have HREP := Lib.hid (repS_rep _ _ _ hrep)
      have HRT := HRW
      have HBT := HBW
      clear hrow hrep hbw
      have hrt := HRT.out
      have b0 := row_cell hrt 0; have b1 := row_cell hrt 1; have b2 := row_cell hrt 2; have b3 := row_cell hrt 3; have b4 := row_cell hrt 4
      simp only [List.getElem?_toArray, List.getElem?_cons_zero, List.getElem?_cons_succ] at b0 b1 b2 b3 b4
      clear hrt
      go_wp2_with fail
      go_at_call 8; refine (check_any (6 + D + 1) _ _ _ _ _ _ _ (nestV (6 + D)) _ HREP.out HFI.out.1 HFI.out.2.1).mono ?_; rintro e wc ⟨rfl, hbc⟩
      rw [show checkM (measT (6 + D + 1) (nestV (6 + D))) = 22 from HFI.out.2.2.1]
      have HROW := Lib.hid (row_step HRT.out hbc)
      have HBC := Lib.hid (bel_step HBT.out hbc)
      have HRC := Lib.hid (rep_keep hbc _ _ _ HREP.out)
      clear hbc b0 b1 b2 b3 b4
      go_wp2
      refine wp_region_held_drew (S := fun w' => Below wc.heap.size wc w') (by kernel_rfl) ?_ (fun hHeld => ?_)
      · exact Below.drew (Below.refl _ _)
      refine wpAnyH_take (i := 0) (oi := ?_) (v := ?_) ?hia0 (by kernel_rfl) ?hfa0 ?hra0 ?hQa0 ?hya0 (by assumption) ?resta0
      case hia0 => (simp only [List.getElem?_toArray, List.getElem?_cons_zero, List.getElem?_cons_succ]; rfl)
      case hfa0 => kernel_rfl
      case hra0 => kernel_rfl
      case hya0 => (refine Or.inl ⟨by rfl, ?_⟩; intro w hSw; (try dsimp only at hSw); go_simp; (try with_reducible rfl))
      case hQa0 => exact fun _ _ _ h => h
      (try simp only [Act.put, List.setIfInBounds_toArray, List.set_cons_zero, List.set_cons_succ])
      refine wpAnyH_take (i := 1) (oi := ?_) (v := ?_) ?hia1 (by kernel_rfl) ?hfa1 ?hra1 ?hQa1 ?hya1 (by assumption) ?resta1
      case hia1 => (simp only [List.getElem?_toArray, List.getElem?_cons_zero, List.getElem?_cons_succ]; rfl)
      case hfa1 => kernel_rfl
      case hra1 => kernel_rfl
      case hya1 => (refine Or.inl ⟨by rfl, ?_⟩; intro w hSw; (try dsimp only at hSw); go_simp; (try with_reducible rfl))
      case hQa1 => exact fun _ _ _ h => h
      (try simp only [Act.put, List.setIfInBounds_toArray, List.set_cons_zero, List.set_cons_succ])
      refine wpAnyH_take (i := 2) (oi := ?_) (v := ?_) ?hia2 (by kernel_rfl) ?hfa2 ?hra2 ?hQa2 ?hya2 (by assumption) ?resta2
      case hia2 => (simp only [List.getElem?_toArray, List.getElem?_cons_zero, List.getElem?_cons_succ]; rfl)
      case hfa2 => kernel_rfl
      case hra2 => kernel_rfl
      case hya2 => (refine Or.inl ⟨by rfl, ?_⟩; intro w hSw; (try dsimp only at hSw); go_simp; (try with_reducible rfl))
      case hQa2 => exact fun _ _ _ h => h
      (try simp only [Act.put, List.setIfInBounds_toArray, List.set_cons_zero, List.set_cons_succ])
      refine wpAnyH_take (i := 3) (oi := ?_) (v := ?_) ?hia3 (by kernel_rfl) ?hfa3 ?hra3 ?hQa3 ?hya3 (by assumption) ?resta3
      case hia3 => (simp only [List.getElem?_toArray, List.getElem?_cons_zero, List.getElem?_cons_succ]; rfl)
      case hfa3 => kernel_rfl
      case hra3 => kernel_rfl
      case hya3 => (refine Or.inl ⟨by rfl, ?_⟩; intro w hSw; (try dsimp only at hSw); go_simp; (try with_reducible rfl))
      case hQa3 => exact fun _ _ _ h => h
      (try simp only [Act.put, List.setIfInBounds_toArray, List.set_cons_zero, List.set_cons_succ])
      refine wpAnyH_take (i := 4) (oi := ?_) (v := ?_) ?hia4 (by kernel_rfl) ?hfa4 ?hra4 ?hQa4 ?hya4 (by assumption) ?resta4
      case hia4 => (simp only [List.getElem?_toArray, List.getElem?_cons_zero, List.getElem?_cons_succ]; rfl)
      case hfa4 => kernel_rfl
      case hra4 => kernel_rfl
      case hya4 => (refine Or.inl ⟨by rfl, ?_⟩; intro w hSw; (try dsimp only at hSw); go_simp; (try with_reducible rfl))
      case hQa4 => exact fun _ _ _ h => h
      (try simp only [Act.put, List.setIfInBounds_toArray, List.set_cons_zero, List.set_cons_succ])
      refine wpAnyH_take (i := 5) (oi := ?_) (v := ?_) ?hia5 (by kernel_rfl) ?hfa5 ?hra5 ?hQa5 ?hya5 (by assumption) ?resta5
      case hia5 => (simp only [List.getElem?_toArray, List.getElem?_cons_zero, List.getElem?_cons_succ]; rfl)
      case hfa5 => kernel_rfl
      case hra5 => kernel_rfl
      case hya5 => (refine Or.inl ⟨by rfl, ?_⟩; intro w hSw; (try dsimp only at hSw); go_simp; (try with_reducible rfl))
      case hQa5 => exact fun _ _ _ h => h
      (try simp only [Act.put, List.setIfInBounds_toArray, List.set_cons_zero, List.set_cons_succ])
      refine wpAnyH_take (i := 6) (oi := ?_) (v := ?_) ?hia6 (by kernel_rfl) ?hfa6 ?hra6 ?hQa6 ?hya6 (by assumption) ?resta6
      case hia6 => (simp only [List.getElem?_toArray, List.getElem?_cons_zero, List.getElem?_cons_succ]; rfl)
      case hfa6 => kernel_rfl
      case hra6 => kernel_rfl
      case hya6 => (refine Or.inl ⟨by rfl, ?_⟩; intro w hSw; (try dsimp only at hSw); go_simp; (try with_reducible rfl))
      case hQa6 => exact fun _ _ _ h => h
      (try simp only [Act.put, List.setIfInBounds_toArray, List.set_cons_zero, List.set_cons_succ])
      refine wpAnyH_take (i := 7) (oi := ?_) (v := ?_) ?hia7 (by kernel_rfl) ?hfa7 ?hra7 ?hQa7 ?hya7 (by assumption) ?resta7
      case hia7 => (simp only [List.getElem?_toArray, List.getElem?_cons_zero, List.getElem?_cons_succ]; rfl)
      case hfa7 => kernel_rfl
      case hra7 => kernel_rfl
      case hya7 => (refine Or.inl ⟨by rfl, ?_⟩; intro w hSw; (try dsimp only at hSw); go_simp; (try with_reducible rfl))
      case hQa7 => exact fun _ _ _ h => h
      (try simp only [Act.put, List.setIfInBounds_toArray, List.set_cons_zero, List.set_cons_succ])
      refine wpAnyH_take (i := 8) (oi := ?_) (v := ?_) ?hia8 (by kernel_rfl) ?hfa8 ?hra8 ?hQa8 ?hya8 (by assumption) ?resta8
      case hia8 => (simp only [List.getElem?_toArray, List.getElem?_cons_zero, List.getElem?_cons_succ]; rfl)
      case hfa8 => kernel_rfl
      case hra8 => kernel_rfl
      case hya8 => (refine Or.inl ⟨by rfl, ?_⟩; intro w hSw; (try dsimp only at hSw); go_simp; (try with_reducible rfl))
      case hQa8 => exact fun _ _ _ h => h
      (try simp only [Act.put, List.setIfInBounds_toArray, List.set_cons_zero, List.set_cons_succ])
      refine wpAnyH_take (i := 9) (oi := ?_) (v := ?_) ?hia9 (by kernel_rfl) ?hfa9 ?hra9 ?hQa9 ?hya9 (by assumption) ?resta9
      case hia9 => (simp only [List.getElem?_toArray, List.getElem?_cons_zero, List.getElem?_cons_succ]; rfl)
      case hfa9 => kernel_rfl
      case hra9 => kernel_rfl
      case hya9 => (refine Or.inl ⟨by rfl, ?_⟩; intro w hSw; (try dsimp only at hSw); go_simp; (try with_reducible rfl))
      case hQa9 => exact fun _ _ _ h => h
      (try simp only [Act.put, List.setIfInBounds_toArray, List.set_cons_zero, List.set_cons_succ])
      refine wpAnyH_take (i := 10) (oi := ?_) (v := ?_) ?hia10 (by kernel_rfl) ?hfa10 ?hra10 ?hQa10 ?hya10 (by assumption) ?resta10
      case hia10 => (simp only [List.getElem?_toArray, List.getElem?_cons_zero, List.getElem?_cons_succ]; rfl)
      case hfa10 => kernel_rfl
      case hra10 => kernel_rfl
      case hya10 => (refine Or.inl ⟨by rfl, ?_⟩; intro w hSw; (try dsimp only at hSw); go_simp; (try with_reducible rfl))
      case hQa10 => exact fun _ _ _ h => h
      (try simp only [Act.put, List.setIfInBounds_toArray, List.set_cons_zero, List.set_cons_succ])
      refine wpAnyH_take (i := 11) (oi := ?_) (v := ?_) ?hia11 (by kernel_rfl) ?hfa11 ?hra11 ?hQa11 ?hya11 (by assumption) ?resta11
      case hia11 => (simp only [List.getElem?_toArray, List.getElem?_cons_zero, List.getElem?_cons_succ]; rfl)
      case hfa11 => kernel_rfl
      case hra11 => kernel_rfl
      case hya11 => (refine Or.inl ⟨by rfl, ?_⟩; intro w hSw; (try dsimp only at hSw); go_simp; (try with_reducible rfl))
      case hQa11 => exact fun _ _ _ h => h
      (try simp only [Act.put, List.setIfInBounds_toArray, List.set_cons_zero, List.set_cons_succ])
      refine wpAnyH_take (i := 12) (oi := ?_) (v := ?_) ?hia12 (by kernel_rfl) ?hfa12 ?hra12 ?hQa12 ?hya12 (by assumption) ?resta12
      case hia12 => (simp only [List.getElem?_toArray, List.getElem?_cons_zero, List.getElem?_cons_succ]; rfl)
      case hfa12 => kernel_rfl
      case hra12 => kernel_rfl
      case hya12 => (refine Or.inl ⟨by rfl, ?_⟩; intro w hSw; (try dsimp only at hSw); go_simp; (try with_reducible rfl))
      case hQa12 => exact fun _ _ _ h => h
      (try simp only [Act.put, List.setIfInBounds_toArray, List.set_cons_zero, List.set_cons_succ])
      refine wpAnyH_take (i := 13) (oi := ?_) (v := ?_) ?hia13 (by kernel_rfl) ?hfa13 ?hra13 ?hQa13 ?hya13 (by assumption) ?resta13
      case hia13 => (simp only [List.getElem?_toArray, List.getElem?_cons_zero, List.getElem?_cons_succ]; rfl)
      case hfa13 => kernel_rfl
      case hra13 => kernel_rfl
      case hya13 => (refine Or.inl ⟨by rfl, ?_⟩; intro w hSw; (try dsimp only at hSw); go_simp; (try with_reducible rfl))
      case hQa13 => exact fun _ _ _ h => h
      (try simp only [Act.put, List.setIfInBounds_toArray, List.set_cons_zero, List.set_cons_succ])
      refine wpAnyH_take (i := 14) (oi := ?_) (v := ?_) ?hia14 (by kernel_rfl) ?hfa14 ?hra14 ?hQa14 ?hya14 (by assumption) ?resta14
      case hia14 => (simp only [List.getElem?_toArray, List.getElem?_cons_zero, List.getElem?_cons_succ]; rfl)
      case hfa14 => kernel_rfl
      case hra14 => kernel_rfl
      case hya14 => (refine Or.inl ⟨by rfl, ?_⟩; intro w hSw; (try dsimp only at hSw); have rr := row_step HROW.out hSw; have c0 := row_cell rr 0; have c1 := row_cell rr 1; have c2 := row_cell rr 2; have c3 := row_cell rr 3; have c4 := row_cell rr 4; simp only [List.getElem?_toArray, List.getElem?_cons_zero, List.getElem?_cons_succ] at c0 c1 c2 c3 c4; go_simp; (try with_reducible rfl))
      case hQa14 => exact fun _ _ _ h => h
      (try simp only [Act.put, List.setIfInBounds_toArray, List.set_cons_zero, List.set_cons_succ])
      refine wpAnyH_take (i := 16) (oi := ?_) (v := ?_) ?hia16 (by kernel_rfl) ?hfa16 ?hra16 ?hQa16 ?hya16 (by assumption) ?resta16
      case hia16 => (simp only [List.getElem?_toArray, List.getElem?_cons_zero, List.getElem?_cons_succ]; rfl)
      case hfa16 => kernel_rfl
      case hra16 => kernel_rfl
      case hya16 => (refine Or.inl ⟨by rfl, ?_⟩; intro w hSw; (try dsimp only at hSw); have rr := row_step HROW.out hSw; have c0 := row_cell rr 0; have c1 := row_cell rr 1; have c2 := row_cell rr 2; have c3 := row_cell rr 3; have c4 := row_cell rr 4; simp only [List.getElem?_toArray, List.getElem?_cons_zero, List.getElem?_cons_succ] at c0 c1 c2 c3 c4; go_simp; (try with_reducible rfl))
      case hQa16 => exact fun _ _ _ h => h
      (try simp only [Act.put, List.setIfInBounds_toArray, List.set_cons_zero, List.set_cons_succ])
      refine wpAnyH_ready (rs := [15]) (by kernel_rfl) (by simp) ?_
      refine AllReadyH.cons (o := ?_) ?hox15 ?stx15 AllReadyH.nil
      case hox15 => (simp only [List.getElem?_toArray, List.getElem?_cons_zero, List.getElem?_cons_succ]; rfl)
      intro K hK
      go_simp
      go_at_call 9; refine (vsize_any (6 + D + 1) _ _ _ _ _ _ _ (nestV (6 + D)) _ (rep_keep hHeld _ _ _ HRC.out) HFI.out.1 HFI.out.2.1).mono ?_; rintro e ws ⟨rfl, hb⟩; rw [show sizeM (measT (6 + D + 1) (nestV (6 + D))) = sizeT (6 + D + 1) (nestV (6 + D)) from HFI.out.2.2.2]; have hS1 := bel_step hHeld hb; clear hb
      go_wp2_with fail
      refine hK.out _ _ hS1 (fun hHeld2 => ?_)
      clear hK K hHeld hHeld2
      have hHeld := hS1
      clear hS1
      (try simp only [Act.put, List.setIfInBounds_toArray, List.set_cons_zero, List.set_cons_succ])
      refine wpAnyH_ready (rs := [17]) (by kernel_rfl) (by simp) ?_
      refine AllReadyH.cons (o := ?_) ?hox17 ?stx17 AllReadyH.nil
      case hox17 => (simp only [List.getElem?_toArray, List.getElem?_cons_zero, List.getElem?_cons_succ]; rfl)
      intro K hK
      go_simp
      go_at_call 10; refine (size_any (6 + D + 1) _ (nestV (6 + D)) _ (rep_keep hHeld _ _ _ HRC.out)).mono ?_; rintro e ws ⟨rfl, hb⟩; have hS1 := bel_step hHeld hb; clear hb
      go_wp2_with fail
      refine hK.out _ _ hS1 (fun hHeld2 => ?_)
      clear hK K hHeld hHeld2
      have hHeld := hS1
      clear hS1
      (try simp only [Act.put, List.setIfInBounds_toArray, List.set_cons_zero, List.set_cons_succ])
      refine wpAnyH_take (i := 18) (oi := ?_) (v := ?_) ?hix18 (by kernel_rfl) ?hfx18 ?hrx18 ?hQx18 ?hyx18 (by assumption) ?restx18
      case hix18 => (simp only [List.getElem?_toArray, List.getElem?_cons_zero, List.getElem?_cons_succ]; rfl)
      case hfx18 => kernel_rfl
      case hrx18 => kernel_rfl
      case hyx18 => (refine Or.inl ⟨by rfl, ?_⟩; intro w hSw; (try dsimp only at hSw); go_simp; (try with_reducible rfl))
      case hQx18 => exact fun _ _ _ h => h
      (try simp only [Act.put, List.setIfInBounds_toArray, List.set_cons_zero, List.set_cons_succ])
      refine wpAnyH_take (i := 19) (oi := ?_) (v := ?_) ?hix19 (by kernel_rfl) ?hfx19 ?hrx19 ?hQx19 ?hyx19 (by assumption) ?restx19
      case hix19 => (simp only [List.getElem?_toArray, List.getElem?_cons_zero, List.getElem?_cons_succ]; rfl)
      case hfx19 => kernel_rfl
      case hrx19 => kernel_rfl
      case hyx19 => (refine Or.inl ⟨by rfl, ?_⟩; intro w hSw; (try dsimp only at hSw); go_simp; (try with_reducible rfl))
      case hQx19 => exact fun _ _ _ h => h
      (try simp only [Act.put, List.setIfInBounds_toArray, List.set_cons_zero, List.set_cons_succ])
      refine wpAnyH_take (i := 20) (oi := ?_) (v := ?_) ?hix20 (by kernel_rfl) ?hfx20 ?hrx20 ?hQx20 ?hyx20 (by assumption) ?restx20
      case hix20 => (simp only [List.getElem?_toArray, List.getElem?_cons_zero, List.getElem?_cons_succ]; rfl)
      case hfx20 => kernel_rfl
      case hrx20 => kernel_rfl
      case hyx20 => (refine Or.inl ⟨by rfl, ?_⟩; intro w hSw; (try dsimp only at hSw); go_simp; (try with_reducible rfl))
      case hQx20 => exact fun _ _ _ h => h
      (try simp only [Act.put, List.setIfInBounds_toArray, List.set_cons_zero, List.set_cons_succ])
      refine wpAnyH_done (by kernel_rfl) ?_ _
      have HF := Lib.hid (bel_step HBC.out hHeld)
      clear hHeld
      go_wp2
      go_ret
      exact ⟨rfl, HF.out⟩
end Num
end Go.Proofs.YtahcgdjcjapnkaaGreatDoor
