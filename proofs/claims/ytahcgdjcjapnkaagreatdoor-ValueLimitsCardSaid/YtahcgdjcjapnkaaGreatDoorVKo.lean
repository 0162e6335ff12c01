/-
  known(): what every statement of the layer asks first.
-/
import Derived.Test.YtahcgdjcjapnkaaGreatDoorVList
import Derived.Test.YtahcgdjcjapnkaaGreatDoorVKn
import Derived.Test.YtahcgdjcjapnkaaGreatDoorVOrd
import Derived.Deep.RegionHeld3
namespace Go.Proofs.YtahcgdjcjapnkaaGreatDoor
open Go.RowKit
namespace Num
open Ints
set_option linter.unusedSimpArgs false
set_option linter.unusedVariables false
set_option maxRecDepth 100000 in
set_option maxHeartbeats 4000000 in
theorem known_any (w : World) (ht : Tabs w) : Calls Tryz.prog 5 #[] w fun e w' => e = .returned (.bool true) ∧ Below w.heap.size w w' := by
  have HT := Lib.hid ht
  clear ht
  have z0 : Flo.canon 0 = 0 := by decide +kernel
  have z1 : Flo.canon 4602678819172646912 = 4602678819172646912 := by decide +kernel
  have z2 : Flo.canon 4611686018427387904 = 4611686018427387904 := by decide +kernel
  have z3 : Flo.canon 4607182418800017408 = 4607182418800017408 := by decide +kernel
  have HZ := Lib.hid (And.intro z0 (And.intro z1 (And.intro z2 z3)))
  clear z0 z1 z2 z3
  go_enter Tryz.func5, Tryz.ntmps5
  go_wp2_with fail
  go_at_call 15; refine (canon_ref_any _ _).mono ?_; rintro e' w1 ⟨rfl, rfl⟩
  rw [HZ.out.1]
  go_wp2_with fail
  go_at_call 13; refine (float_ref_any _ _).mono ?_; rintro e' w1 ⟨rfl, hb1⟩
  rw [HZ.out.1]
  go_wp2_with fail
  go_at_call 12; refine (int_ref_any _ _).mono ?_; rintro e' w2 ⟨rfl, hb2⟩
  go_wp2_with fail
  go_at_call 13; refine (float_ref_any _ _).mono ?_; rintro e' w3 ⟨rfl, hb3⟩
  rw [HZ.out.2.1]
  go_wp2_with fail
  go_at_call 6; refine (text_ref_any _ _).mono ?_; rintro e' w4 ⟨rfl, hb4⟩
  go_wp2_with fail
  go_at_call 7; refine (list_ref_any _ _ _ _).mono ?_; rintro e' w5 ⟨rfl, hb5⟩
  go_wp2_with fail
  have n2 := row_step (row_alloc w1 #[.int .i64 2, .int .i64 0, .float .f64 0, .string ⟨#[]⟩, .slice none 0 0] 26) hb2
  have n3 := row_step n2 hb3
  have n4 := row_step n3 hb4
  have n5 := row_step (row_alloc_step n4 (.cells knownRow 26)) hb5
  have HN := Lib.hid (row_alloc_step n5 (.cells #[.int .i64 4, .int .i64 0, .float .f64 0, .string ⟨#[]⟩, .slice (some ⟨w4.heap.size, 0, none⟩) 3 3] 26))
  have k5 := row_step (row_alloc w4 knownRow 26) hb5
  have HK := Lib.hid (row_alloc_step k5 (.cells #[.int .i64 4, .int .i64 0, .float .f64 0, .string ⟨#[]⟩, .slice (some ⟨w4.heap.size, 0, none⟩) 3 3] 26))
  have HL := Lib.hid (row_alloc w5 #[.int .i64 4, .int .i64 0, .float .f64 0, .string ⟨#[]⟩, .slice (some ⟨w4.heap.size, 0, none⟩) 3 3] 26)
  have b1 := bel_step (bel_alloc hb1 (.cells #[.int .i64 2, .int .i64 0, .float .f64 0, .string ⟨#[]⟩, .slice none 0 0] 26)) hb2
  have b2 := bel_step b1 hb3
  have b3 := bel_step b2 hb4
  have b4 := bel_step (bel_alloc b3 (.cells knownRow 26)) hb5
  have HB := Lib.hid (bel_alloc b4 (.cells #[.int .i64 4, .int .i64 0, .float .f64 0, .string ⟨#[]⟩, .slice (some ⟨w4.heap.size, 0, none⟩) 3 3] 26))
  clear hb1 hb2 hb3 hb4 hb5 n2 n3 n4 n5 k5 b1 b2 b3 b4
  generalize w5.alloc (.cells #[.int .i64 4, .int .i64 0, .float .f64 0, .string ⟨#[]⟩, .slice (some ⟨w4.heap.size, 0, none⟩) 3 3] 26) = W1 at HN HK HL HB ⊢
  generalize w1.heap.size = nb at HN ⊢
  generalize w4.heap.size = lb at HK HL ⊢
  generalize w5.heap.size = vb at HL ⊢
  have HTW := Lib.hid (tabs_keep HT.out HB.out)
  clear HT
  refine wp_region_held_drew (S := fun w' => Below W1.heap.size W1 w') (by kernel_rfl) ?_ (fun hHeld => ?_)
  · exact bel_drewN 1 (Below.refl _ _)
  refine wpAnyH_take (i := 0) (oi := ?_) (v := ?_) ?hia0 (by kernel_rfl) ?hfa0 ?hra0 ?hQa0 ?hya0 (by assumption) ?resta0
  case hia0 => (simp only [List.getElem?_toArray, List.getElem?_cons_zero, List.getElem?_cons_succ]; rfl)
  case hfa0 => kernel_rfl
  case hra0 => kernel_rfl
  case hya0 => (refine Or.inl ⟨by rfl, ?_⟩; intro w hSw; (try dsimp only at hSw); have rr := row_step HL.out hSw; have c0 := row_cell rr 0; have c1 := row_cell rr 1; have c2 := row_cell rr 2; have c3 := row_cell rr 3; have c4 := row_cell rr 4; simp only [List.getElem?_toArray, List.getElem?_cons_zero, List.getElem?_cons_succ] at c0 c1 c2 c3 c4; go_simp; (try with_reducible rfl))
  case hQa0 => exact fun _ _ _ h => h
  (try simp only [Act.put, List.setIfInBounds_toArray, List.set_cons_zero, List.set_cons_succ])
  refine wpAnyH_ready (rs := [1]) (by kernel_rfl) (by simp) ?_
  refine AllReadyH.cons (o := ?_) ?hoa1 ?hsta1 AllReadyH.nil
  case hoa1 => (simp only [List.getElem?_toArray, List.getElem?_cons_zero, List.getElem?_cons_succ]; rfl)
  intro K hK
  (try rw [if_pos (by rfl)])
  go_simp
  go_at_call 11; refine (text_known _ lb (row_step HK.out hHeld) (tabs_keep HTW.out hHeld)).mono ?_; rintro e w2 ⟨rfl, hb⟩; have hS2 := bel_step hHeld hb; clear hb; rw [show knownS = ⟨#[91, 49, 44, 32, 48, 46, 53, 44, 32, 34, 97, 34, 93]⟩ from rfl]
  go_wp2_with fail
  refine hK.out _ _ ?hsa1 (fun hHeld => ?_)
  case hsa1 => exact hS2
  clear hK K
  (try simp only [Act.put, List.setIfInBounds_toArray, List.set_cons_zero, List.set_cons_succ])
  refine wpAnyH_take (i := 2) (oi := ?_) (v := ?_) ?hia2 (by kernel_rfl) ?hfa2 ?hra2 ?hQa2 ?hya2 (by assumption) ?resta2
  case hia2 => (simp only [List.getElem?_toArray, List.getElem?_cons_zero, List.getElem?_cons_succ]; rfl)
  case hfa2 => kernel_rfl
  case hra2 => kernel_rfl
  case hya2 => (refine Or.inl ⟨by rfl, ?_⟩; intro w hSw; (try dsimp only at hSw); go_simp; (try with_reducible rfl))
  case hQa2 => exact fun _ _ _ h => h
  (try simp only [Act.put, List.setIfInBounds_toArray, List.set_cons_zero, List.set_cons_succ])
  refine wpAnyH_take (i := 3) (oi := ?_) (v := ?_) ?hia3 (by kernel_rfl) ?hfa3 ?hra3 ?hQa3 ?hya3 (by assumption) ?resta3
  case hia3 => (simp only [List.getElem?_toArray, List.getElem?_cons_zero, List.getElem?_cons_succ]; rfl)
  case hfa3 => kernel_rfl
  case hra3 => kernel_rfl
  case hya3 => (refine Or.inl ⟨by rfl, ?_⟩; intro w hSw; (try dsimp only at hSw); go_simp; (try with_reducible rfl))
  case hQa3 => exact fun _ _ _ h => h
  (try simp only [Act.put, List.setIfInBounds_toArray, List.set_cons_zero, List.set_cons_succ])
  refine wpAnyH_ready (rs := [4]) (by kernel_rfl) (by simp) ?_
  refine AllReadyH.cons (o := ?_) ?hoa4 ?hsta4 AllReadyH.nil
  case hoa4 => (simp only [List.getElem?_toArray, List.getElem?_cons_zero, List.getElem?_cons_succ]; rfl)
  intro K hK
  (try rw [if_pos (by rfl)])
  go_simp
  go_at_call 13; refine (float_ref_any _ _).mono ?_; rintro e w2 ⟨rfl, hb⟩; have hS2 := bel_step hHeld hb; clear hb; rw [HZ.out.2.2.1]
  go_wp2_with fail
  refine hK.out _ _ ?hsa4 (fun hHeld => ?_)
  case hsa4 => exact hS2
  clear hK K
  (try simp only [Act.put, List.setIfInBounds_toArray, List.set_cons_zero, List.set_cons_succ])
  refine wpAnyH_ready (rs := [5]) (by kernel_rfl) (by simp) ?_
  refine AllReadyH.cons (o := ?_) ?hoa5 ?hsta5 AllReadyH.nil
  case hoa5 => (simp only [List.getElem?_toArray, List.getElem?_cons_zero, List.getElem?_cons_succ]; rfl)
  intro K hK
  (try rw [if_pos (by rfl)])
  go_simp
  go_at_call 11; refine (text_flo _ 4611686018427387904 (by decide) ascii_two (by rw [ftS_two]; decide) (tabs_keep HTW.out hHeld)).mono ?_; rintro e w2 ⟨rfl, hb⟩; have hS2 := bel_step hHeld hb; clear hb; rw [ftS_two]
  go_wp2_with fail
  refine hK.out _ _ ?hsa5 (fun hHeld => ?_)
  case hsa5 => exact hS2
  clear hK K
  (try simp only [Act.put, List.setIfInBounds_toArray, List.set_cons_zero, List.set_cons_succ])
  refine wpAnyH_take (i := 6) (oi := ?_) (v := ?_) ?hia6 (by kernel_rfl) ?hfa6 ?hra6 ?hQa6 ?hya6 (by assumption) ?resta6
  case hia6 => (simp only [List.getElem?_toArray, List.getElem?_cons_zero, List.getElem?_cons_succ]; rfl)
  case hfa6 => kernel_rfl
  case hra6 => kernel_rfl
  case hya6 => (refine Or.inl ⟨by rfl, ?_⟩; intro w hSw; (try dsimp only at hSw); go_simp; (try with_reducible rfl))
  case hQa6 => exact fun _ _ _ h => h
  (try simp only [Act.put, List.setIfInBounds_toArray, List.set_cons_zero, List.set_cons_succ])
  refine wpAnyH_take (i := 7) (oi := ?_) (v := ?_) ?hia7 (by kernel_rfl) ?hfa7 ?hra7 ?hQa7 ?hya7 (by assumption) ?resta7
  case hia7 => (simp only [List.getElem?_toArray, List.getElem?_cons_zero, List.getElem?_cons_succ]; rfl)
  case hfa7 => kernel_rfl
  case hra7 => kernel_rfl
  case hya7 => (refine Or.inl ⟨by rfl, ?_⟩; intro w hSw; (try dsimp only at hSw); go_simp; (try with_reducible rfl))
  case hQa7 => exact fun _ _ _ h => h
  (try simp only [Act.put, List.setIfInBounds_toArray, List.set_cons_zero, List.set_cons_succ])
  refine wpAnyH_take (i := 8) (oi := ?_) (v := ?_) ?hia8 (by kernel_rfl) ?hfa8 ?hra8 ?hQa8 ?hya8 (by assumption) ?resta8
  case hia8 => (simp only [List.getElem?_toArray, List.getElem?_cons_zero, List.getElem?_cons_succ]; rfl)
  case hfa8 => kernel_rfl
  case hra8 => kernel_rfl
  case hya8 => (refine Or.inl ⟨by rfl, ?_⟩; intro w hSw; (try dsimp only at hSw); go_simp; (try with_reducible rfl))
  case hQa8 => exact fun _ _ _ h => h
  (try simp only [Act.put, List.setIfInBounds_toArray, List.set_cons_zero, List.set_cons_succ])
  refine wpAnyH_take (i := 9) (oi := ?_) (v := ?_) ?hia9 (by kernel_rfl) ?hfa9 ?hra9 ?hQa9 ?hya9 (by assumption) ?resta9
  case hia9 => (simp only [List.getElem?_toArray, List.getElem?_cons_zero, List.getElem?_cons_succ]; rfl)
  case hfa9 => kernel_rfl
  case hra9 => kernel_rfl
  case hya9 => (refine Or.inl ⟨by rfl, ?_⟩; intro w hSw; (try dsimp only at hSw); have rr := row_step HL.out hSw; have c0 := row_cell rr 0; have c1 := row_cell rr 1; have c2 := row_cell rr 2; have c3 := row_cell rr 3; have c4 := row_cell rr 4; simp only [List.getElem?_toArray, List.getElem?_cons_zero, List.getElem?_cons_succ] at c0 c1 c2 c3 c4; go_simp; (try with_reducible rfl))
  case hQa9 => exact fun _ _ _ h => h
  (try simp only [Act.put, List.setIfInBounds_toArray, List.set_cons_zero, List.set_cons_succ])
  refine wpAnyH_take (i := 10) (oi := ?_) (v := ?_) ?hia10 (by kernel_rfl) ?hfa10 ?hra10 ?hQa10 ?hya10 (by assumption) ?resta10
  case hia10 => (simp only [List.getElem?_toArray, List.getElem?_cons_zero, List.getElem?_cons_succ]; rfl)
  case hfa10 => kernel_rfl
  case hra10 => kernel_rfl
  case hya10 => (refine Or.inl ⟨by rfl, ?_⟩; intro w hSw; (try dsimp only at hSw); have rr := row_step HL.out hSw; have c0 := row_cell rr 0; have c1 := row_cell rr 1; have c2 := row_cell rr 2; have c3 := row_cell rr 3; have c4 := row_cell rr 4; simp only [List.getElem?_toArray, List.getElem?_cons_zero, List.getElem?_cons_succ] at c0 c1 c2 c3 c4; go_simp; (try with_reducible rfl))
  case hQa10 => exact fun _ _ _ h => h
  (try simp only [Act.put, List.setIfInBounds_toArray, List.set_cons_zero, List.set_cons_succ])
  refine wpAnyH_ready (rs := [11]) (by kernel_rfl) (by simp) ?_
  refine AllReadyH.cons (o := ?_) ?hoa11 ?hsta11 AllReadyH.nil
  case hoa11 => (simp only [List.getElem?_toArray, List.getElem?_cons_zero, List.getElem?_cons_succ]; rfl)
  intro K hK
  (try rw [if_pos (by rfl)])
  go_simp
  go_at_call 16; refine (equal_any 2 _ _ kl kl _ (rep_known (row_step HK.out hHeld)) (rep_known (row_step HK.out hHeld)) (by decide) (by decide)).mono ?_; rintro e w2 ⟨rfl, hb⟩; have hS2 := bel_step hHeld hb; clear hb; rw [show (cmpT cmpF 2 kl kl == 0) = true by decide +kernel]
  go_wp2_with fail
  refine hK.out _ _ ?hsa11 (fun hHeld => ?_)
  case hsa11 => exact hS2
  clear hK K
  (try simp only [Act.put, List.setIfInBounds_toArray, List.set_cons_zero, List.set_cons_succ])
  refine wpAnyH_take (i := 12) (oi := ?_) (v := ?_) ?hia12 (by kernel_rfl) ?hfa12 ?hra12 ?hQa12 ?hya12 (by assumption) ?resta12
  case hia12 => (simp only [List.getElem?_toArray, List.getElem?_cons_zero, List.getElem?_cons_succ]; rfl)
  case hfa12 => kernel_rfl
  case hra12 => kernel_rfl
  case hya12 => (refine Or.inl ⟨by rfl, ?_⟩; intro w hSw; (try dsimp only at hSw); go_simp; (try with_reducible rfl))
  case hQa12 => exact fun _ _ _ h => h
  (try simp only [Act.put, List.setIfInBounds_toArray, List.set_cons_zero, List.set_cons_succ])
  refine wpAnyH_take (i := 13) (oi := ?_) (v := ?_) ?hia13 (by kernel_rfl) ?hfa13 ?hra13 ?hQa13 ?hya13 (by assumption) ?resta13
  case hia13 => (simp only [List.getElem?_toArray, List.getElem?_cons_zero, List.getElem?_cons_succ]; rfl)
  case hfa13 => kernel_rfl
  case hra13 => kernel_rfl
  case hya13 => (refine Or.inl ⟨by rfl, ?_⟩; intro w hSw; (try dsimp only at hSw); go_simp; (try with_reducible rfl))
  case hQa13 => exact fun _ _ _ h => h
  (try simp only [Act.put, List.setIfInBounds_toArray, List.set_cons_zero, List.set_cons_succ])
  refine wpAnyH_take (i := 14) (oi := ?_) (v := ?_) ?hia14 (by kernel_rfl) ?hfa14 ?hra14 ?hQa14 ?hya14 (by assumption) ?resta14
  case hia14 => (simp only [List.getElem?_toArray, List.getElem?_cons_zero, List.getElem?_cons_succ]; rfl)
  case hfa14 => kernel_rfl
  case hra14 => kernel_rfl
  case hya14 => (refine Or.inl ⟨by rfl, ?_⟩; intro w hSw; (try dsimp only at hSw); have rr := row_step HN.out hSw; have c0 := row_cell rr 0; have c1 := row_cell rr 1; have c2 := row_cell rr 2; have c3 := row_cell rr 3; have c4 := row_cell rr 4; simp only [List.getElem?_toArray, List.getElem?_cons_zero, List.getElem?_cons_succ] at c0 c1 c2 c3 c4; go_simp; (try with_reducible rfl))
  case hQa14 => exact fun _ _ _ h => h
  (try simp only [Act.put, List.setIfInBounds_toArray, List.set_cons_zero, List.set_cons_succ])
  refine wpAnyH_ready (rs := [15]) (by kernel_rfl) (by simp) ?_
  refine AllReadyH.cons (o := ?_) ?hoa15 ?hsta15 AllReadyH.nil
  case hoa15 => (simp only [List.getElem?_toArray, List.getElem?_cons_zero, List.getElem?_cons_succ]; rfl)
  intro K hK
  (try rw [if_pos (by rfl)])
  go_simp
  go_at_call 13; refine (float_ref_any _ _).mono ?_; rintro e w2 ⟨rfl, hb⟩; have hS2 := bel_step hHeld hb; clear hb; rw [HZ.out.2.2.2]
  go_wp2_with fail
  refine hK.out _ _ ?hsa15 (fun hHeld => ?_)
  case hsa15 => exact hS2
  clear hK K
  (try simp only [Act.put, List.setIfInBounds_toArray, List.set_cons_zero, List.set_cons_succ])
  refine wpAnyH_ready (rs := [16]) (by kernel_rfl) (by simp) ?_
  refine AllReadyH.cons (o := ?_) ?hoa16 ?hsta16 AllReadyH.nil
  case hoa16 => (simp only [List.getElem?_toArray, List.getElem?_cons_zero, List.getElem?_cons_succ]; rfl)
  intro K hK
  (try rw [if_pos (by rfl)])
  go_simp
  go_at_call 17; refine (order_any 1 _ _ (2, 0, 0, ⟨#[]⟩, []) (2, 0, 4607182418800017408, ⟨#[]⟩, []) _ (rep_leaf _ 2 0 0 ⟨#[]⟩ (by decide) (by decide) (by decide) (by decide)) (rep_leaf _ 2 0 4607182418800017408 ⟨#[]⟩ (by decide) (by decide) (by decide) (by decide)) (by decide) (by decide)).mono ?_; rintro e w2 ⟨rfl, hb⟩; have hS2 := bel_step hHeld hb; clear hb; rw [show cmpT ordF 1 (2, 0, 0, ⟨#[]⟩, []) (2, 0, 4607182418800017408, ⟨#[]⟩, []) = -1 by decide +kernel]
  go_wp2_with fail
  refine hK.out _ _ ?hsa16 (fun hHeld => ?_)
  case hsa16 => exact hS2
  clear hK K
  (try simp only [Act.put, List.setIfInBounds_toArray, List.set_cons_zero, List.set_cons_succ])
  refine wpAnyH_take (i := 17) (oi := ?_) (v := ?_) ?hia17 (by kernel_rfl) ?hfa17 ?hra17 ?hQa17 ?hya17 (by assumption) ?resta17
  case hia17 => (simp only [List.getElem?_toArray, List.getElem?_cons_zero, List.getElem?_cons_succ]; rfl)
  case hfa17 => kernel_rfl
  case hra17 => kernel_rfl
  case hya17 => (refine Or.inl ⟨by rfl, ?_⟩; intro w hSw; (try dsimp only at hSw); go_simp; (try with_reducible rfl))
  case hQa17 => exact fun _ _ _ h => h
  (try simp only [Act.put, List.setIfInBounds_toArray, List.set_cons_zero, List.set_cons_succ])
  refine wpAnyH_take (i := 18) (oi := ?_) (v := ?_) ?hia18 (by kernel_rfl) ?hfa18 ?hra18 ?hQa18 ?hya18 (by assumption) ?resta18
  case hia18 => (simp only [List.getElem?_toArray, List.getElem?_cons_zero, List.getElem?_cons_succ]; rfl)
  case hfa18 => kernel_rfl
  case hra18 => kernel_rfl
  case hya18 => (refine Or.inl ⟨by rfl, ?_⟩; intro w hSw; (try dsimp only at hSw); go_simp; (try with_reducible rfl))
  case hQa18 => exact fun _ _ _ h => h
  (try simp only [Act.put, List.setIfInBounds_toArray, List.set_cons_zero, List.set_cons_succ])
  refine wpAnyH_take (i := 19) (oi := ?_) (v := ?_) ?hia19 (by kernel_rfl) ?hfa19 ?hra19 ?hQa19 ?hya19 (by assumption) ?resta19
  case hia19 => (simp only [List.getElem?_toArray, List.getElem?_cons_zero, List.getElem?_cons_succ]; rfl)
  case hfa19 => kernel_rfl
  case hra19 => kernel_rfl
  case hya19 => (refine Or.inl ⟨by rfl, ?_⟩; intro w hSw; (try dsimp only at hSw); go_simp; (try with_reducible rfl))
  case hQa19 => exact fun _ _ _ h => h
  (try simp only [Act.put, List.setIfInBounds_toArray, List.set_cons_zero, List.set_cons_succ])
  refine wpAnyH_take (i := 20) (oi := ?_) (v := ?_) ?hia20 (by kernel_rfl) ?hfa20 ?hra20 ?hQa20 ?hya20 (by assumption) ?resta20
  case hia20 => (simp only [List.getElem?_toArray, List.getElem?_cons_zero, List.getElem?_cons_succ]; rfl)
  case hfa20 => kernel_rfl
  case hra20 => kernel_rfl
  case hya20 => (refine Or.inl ⟨by rfl, ?_⟩; intro w hSw; (try dsimp only at hSw); have rr := row_step HL.out hSw; have c0 := row_cell rr 0; have c1 := row_cell rr 1; have c2 := row_cell rr 2; have c3 := row_cell rr 3; have c4 := row_cell rr 4; simp only [List.getElem?_toArray, List.getElem?_cons_zero, List.getElem?_cons_succ] at c0 c1 c2 c3 c4; go_simp; (try with_reducible rfl))
  case hQa20 => exact fun _ _ _ h => h
  (try simp only [Act.put, List.setIfInBounds_toArray, List.set_cons_zero, List.set_cons_succ])
  refine wpAnyH_ready (rs := [21]) (by kernel_rfl) (by simp) ?_
  refine AllReadyH.cons (o := ?_) ?hoa21 ?hsta21 AllReadyH.nil
  case hoa21 => (simp only [List.getElem?_toArray, List.getElem?_cons_zero, List.getElem?_cons_succ]; rfl)
  intro K hK
  (try rw [if_pos (by rfl)])
  go_simp
  go_at_call 8; refine (check_any 2 4 0 0 ⟨#[]⟩ (some ⟨lb, 0, none⟩) 3 3 kl _ (rep_known (row_step HK.out hHeld)) (by decide) (by decide)).mono ?_; rintro e w2 ⟨rfl, hb⟩; have hS2 := bel_step hHeld hb; clear hb; rw [show checkM (measT 2 kl) = 0 by decide +kernel]
  go_wp2_with fail
  refine hK.out _ _ ?hsa21 (fun hHeld => ?_)
  case hsa21 => exact hS2
  clear hK K
  (try simp only [Act.put, List.setIfInBounds_toArray, List.set_cons_zero, List.set_cons_succ])
  refine wpAnyH_take (i := 22) (oi := ?_) (v := ?_) ?hia22 (by kernel_rfl) ?hfa22 ?hra22 ?hQa22 ?hya22 (by assumption) ?resta22
  case hia22 => (simp only [List.getElem?_toArray, List.getElem?_cons_zero, List.getElem?_cons_succ]; rfl)
  case hfa22 => kernel_rfl
  case hra22 => kernel_rfl
  case hya22 => (refine Or.inl ⟨by rfl, ?_⟩; intro w hSw; (try dsimp only at hSw); go_simp; (try with_reducible rfl))
  case hQa22 => exact fun _ _ _ h => h
  (try simp only [Act.put, List.setIfInBounds_toArray, List.set_cons_zero, List.set_cons_succ])
  refine wpAnyH_take (i := 23) (oi := ?_) (v := ?_) ?hia23 (by kernel_rfl) ?hfa23 ?hra23 ?hQa23 ?hya23 (by assumption) ?resta23
  case hia23 => (simp only [List.getElem?_toArray, List.getElem?_cons_zero, List.getElem?_cons_succ]; rfl)
  case hfa23 => kernel_rfl
  case hra23 => kernel_rfl
  case hya23 => (refine Or.inl ⟨by rfl, ?_⟩; intro w hSw; (try dsimp only at hSw); go_simp; (try with_reducible rfl))
  case hQa23 => exact fun _ _ _ h => h
  (try simp only [Act.put, List.setIfInBounds_toArray, List.set_cons_zero, List.set_cons_succ])
  refine wpAnyH_take (i := 24) (oi := ?_) (v := ?_) ?hia24 (by kernel_rfl) ?hfa24 ?hra24 ?hQa24 ?hya24 (by assumption) ?resta24
  case hia24 => (simp only [List.getElem?_toArray, List.getElem?_cons_zero, List.getElem?_cons_succ]; rfl)
  case hfa24 => kernel_rfl
  case hra24 => kernel_rfl
  case hya24 => (refine Or.inl ⟨by rfl, ?_⟩; intro w hSw; (try dsimp only at hSw); go_simp; (try with_reducible rfl))
  case hQa24 => exact fun _ _ _ h => h
  (try simp only [Act.put, List.setIfInBounds_toArray, List.set_cons_zero, List.set_cons_succ])
  refine wpAnyH_take (i := 25) (oi := ?_) (v := ?_) ?hia25 (by kernel_rfl) ?hfa25 ?hra25 ?hQa25 ?hya25 (by assumption) ?resta25
  case hia25 => (simp only [List.getElem?_toArray, List.getElem?_cons_zero, List.getElem?_cons_succ]; rfl)
  case hfa25 => kernel_rfl
  case hra25 => kernel_rfl
  case hya25 => (refine Or.inl ⟨by rfl, ?_⟩; intro w hSw; (try dsimp only at hSw); go_simp; (try with_reducible rfl))
  case hQa25 => exact fun _ _ _ h => h
  (try simp only [Act.put, List.setIfInBounds_toArray, List.set_cons_zero, List.set_cons_succ])
  refine wpAnyH_ready (rs := [26]) (by kernel_rfl) (by simp) ?_
  refine AllReadyH.cons (o := ?_) ?hoa26 ?hsta26 AllReadyH.nil
  case hoa26 => (simp only [List.getElem?_toArray, List.getElem?_cons_zero, List.getElem?_cons_succ]; rfl)
  intro K hK
  (try rw [if_pos (by rfl)])
  go_simp
  go_at_call 8; refine (check_any 1 9 0 0 ⟨#[]⟩ none 0 0 (9, 0, 0, ⟨#[]⟩, []) _ (rep_leaf _ 9 0 0 ⟨#[]⟩ (by decide) (by decide) (by decide) (by decide)) (by decide) (by decide)).mono ?_; rintro e w2 ⟨rfl, hb⟩; have hS2 := bel_step hHeld hb; clear hb; rw [show checkM (measT 1 (9, 0, 0, ⟨#[]⟩, [])) = 31 by decide +kernel]
  go_wp2_with fail
  refine hK.out _ _ ?hsa26 (fun hHeld => ?_)
  case hsa26 => exact hS2
  clear hK K
  (try simp only [Act.put, List.setIfInBounds_toArray, List.set_cons_zero, List.set_cons_succ])
  refine wpAnyH_take (i := 27) (oi := ?_) (v := ?_) ?hia27 (by kernel_rfl) ?hfa27 ?hra27 ?hQa27 ?hya27 (by assumption) ?resta27
  case hia27 => (simp only [List.getElem?_toArray, List.getElem?_cons_zero, List.getElem?_cons_succ]; rfl)
  case hfa27 => kernel_rfl
  case hra27 => kernel_rfl
  case hya27 => (refine Or.inl ⟨by rfl, ?_⟩; intro w hSw; (try dsimp only at hSw); go_simp; (try with_reducible rfl))
  case hQa27 => exact fun _ _ _ h => h
  (try simp only [Act.put, List.setIfInBounds_toArray, List.set_cons_zero, List.set_cons_succ])
  refine wpAnyH_take (i := 28) (oi := ?_) (v := ?_) ?hia28 (by kernel_rfl) ?hfa28 ?hra28 ?hQa28 ?hya28 (by assumption) ?resta28
  case hia28 => (simp only [List.getElem?_toArray, List.getElem?_cons_zero, List.getElem?_cons_succ]; rfl)
  case hfa28 => kernel_rfl
  case hra28 => kernel_rfl
  case hya28 => (refine Or.inl ⟨by rfl, ?_⟩; intro w hSw; (try dsimp only at hSw); go_simp; (try with_reducible rfl))
  case hQa28 => exact fun _ _ _ h => h
  (try simp only [Act.put, List.setIfInBounds_toArray, List.set_cons_zero, List.set_cons_succ])
  refine wpAnyH_take (i := 29) (oi := ?_) (v := ?_) ?hia29 (by kernel_rfl) ?hfa29 ?hra29 ?hQa29 ?hya29 (by assumption) ?resta29
  case hia29 => (simp only [List.getElem?_toArray, List.getElem?_cons_zero, List.getElem?_cons_succ]; rfl)
  case hfa29 => kernel_rfl
  case hra29 => kernel_rfl
  case hya29 => (refine Or.inl ⟨by rfl, ?_⟩; intro w hSw; (try dsimp only at hSw); go_simp; (try with_reducible rfl))
  case hQa29 => exact fun _ _ _ h => h
  (try simp only [Act.put, List.setIfInBounds_toArray, List.set_cons_zero, List.set_cons_succ])
  refine wpAnyH_take (i := 30) (oi := ?_) (v := ?_) ?hia30 (by kernel_rfl) ?hfa30 ?hra30 ?hQa30 ?hya30 (by assumption) ?resta30
  case hia30 => (simp only [List.getElem?_toArray, List.getElem?_cons_zero, List.getElem?_cons_succ]; rfl)
  case hfa30 => kernel_rfl
  case hra30 => kernel_rfl
  case hya30 => (refine Or.inl ⟨by rfl, ?_⟩; intro w hSw; (try dsimp only at hSw); have rr := row_step HL.out hSw; have c0 := row_cell rr 0; have c1 := row_cell rr 1; have c2 := row_cell rr 2; have c3 := row_cell rr 3; have c4 := row_cell rr 4; simp only [List.getElem?_toArray, List.getElem?_cons_zero, List.getElem?_cons_succ] at c0 c1 c2 c3 c4; go_simp; (try with_reducible rfl))
  case hQa30 => exact fun _ _ _ h => h
  (try simp only [Act.put, List.setIfInBounds_toArray, List.set_cons_zero, List.set_cons_succ])
  refine wpAnyH_ready (rs := [31]) (by kernel_rfl) (by simp) ?_
  refine AllReadyH.cons (o := ?_) ?hoa31 ?hsta31 AllReadyH.nil
  case hoa31 => (simp only [List.getElem?_toArray, List.getElem?_cons_zero, List.getElem?_cons_succ]; rfl)
  intro K hK
  (try rw [if_pos (by rfl)])
  go_simp
  go_at_call 9; refine (vsize_any 2 4 0 0 ⟨#[]⟩ (some ⟨lb, 0, none⟩) 3 3 kl _ (rep_known (row_step HK.out hHeld)) (by decide) (by decide)).mono ?_; rintro e w2 ⟨rfl, hb⟩; have hS2 := bel_step hHeld hb; clear hb; rw [show sizeM (measT 2 kl) = 24 by decide +kernel]
  go_wp2_with fail
  refine hK.out _ _ ?hsa31 (fun hHeld => ?_)
  case hsa31 => exact hS2
  clear hK K
  (try simp only [Act.put, List.setIfInBounds_toArray, List.set_cons_zero, List.set_cons_succ])
  refine wpAnyH_take (i := 32) (oi := ?_) (v := ?_) ?hia32 (by kernel_rfl) ?hfa32 ?hra32 ?hQa32 ?hya32 (by assumption) ?resta32
  case hia32 => (simp only [List.getElem?_toArray, List.getElem?_cons_zero, List.getElem?_cons_succ]; rfl)
  case hfa32 => kernel_rfl
  case hra32 => kernel_rfl
  case hya32 => (refine Or.inl ⟨by rfl, ?_⟩; intro w hSw; (try dsimp only at hSw); go_simp; (try with_reducible rfl))
  case hQa32 => exact fun _ _ _ h => h
  (try simp only [Act.put, List.setIfInBounds_toArray, List.set_cons_zero, List.set_cons_succ])
  refine wpAnyH_take (i := 33) (oi := ?_) (v := ?_) ?hia33 (by kernel_rfl) ?hfa33 ?hra33 ?hQa33 ?hya33 (by assumption) ?resta33
  case hia33 => (simp only [List.getElem?_toArray, List.getElem?_cons_zero, List.getElem?_cons_succ]; rfl)
  case hfa33 => kernel_rfl
  case hra33 => kernel_rfl
  case hya33 => (refine Or.inl ⟨by rfl, ?_⟩; intro w hSw; (try dsimp only at hSw); go_simp; (try with_reducible rfl))
  case hQa33 => exact fun _ _ _ h => h
  (try simp only [Act.put, List.setIfInBounds_toArray, List.set_cons_zero, List.set_cons_succ])
  refine wpAnyH_take (i := 34) (oi := ?_) (v := ?_) ?hia34 (by kernel_rfl) ?hfa34 ?hra34 ?hQa34 ?hya34 (by assumption) ?resta34
  case hia34 => (simp only [List.getElem?_toArray, List.getElem?_cons_zero, List.getElem?_cons_succ]; rfl)
  case hfa34 => kernel_rfl
  case hra34 => kernel_rfl
  case hya34 => (refine Or.inl ⟨by rfl, ?_⟩; intro w hSw; (try dsimp only at hSw); go_simp; (try with_reducible rfl))
  case hQa34 => exact fun _ _ _ h => h
  (try simp only [Act.put, List.setIfInBounds_toArray, List.set_cons_zero, List.set_cons_succ])
  refine wpAnyH_done (by kernel_rfl) ?_ _
  go_wp2
  go_ret
  exact ⟨rfl, bel_step HB.out hHeld⟩
end Num
end Go.Proofs.YtahcgdjcjapnkaaGreatDoor
