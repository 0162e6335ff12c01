/-
  WireNumbers: the walk.
-/
import Derived.Test.YtahcgdjcjapnkaaWG
import Derived.Deep.RegionHeld3
import Derived.Outline
namespace Go.Proofs.Ytahcgdjcjapnkaa
open Go.RowKit
namespace Num
open Ints
set_option linter.unusedSimpArgs false
set_option linter.unusedVariables false
theorem anyH_mono {P : Program} {md : Region.Mode} {ops : Array Oper} {Q : Exit → Act → World → Prop} {S S' : World → Prop} (hS : ∀ w, S' w → S w) : ∀ (fuel : Nat) (listed : Array Bool) (a : Act) (w : World), wpAnyH P md ops Q S' fuel listed a w → wpAnyH P md ops Q S fuel listed a w
  | 0, _, _, _, h => h
  | fuel + 1, _, _, _, h => ⟨h.1, fun i hi => wpOp_mono (fun a' w' h' => ⟨hS _ h'.1, anyH_mono hS fuel _ _ _ h'.2⟩) (h.2 i hi)⟩
/-- What a text put behind X is read as, behind X. -/
theorem tail_text (X : List Int) (s : ByteArray) (l : Nat) (Z : List Int) (L2 : Nat) (hX : X.length = l) (hZ : X ++ beI s.size 2 ++ strIs s = Z) (hL2 : l + 2 + s.size = L2) (w : World) (g f c : Nat) (m : Int) (hb : RdB w (some ⟨g, f, none⟩) L2 c Z) (hc : ¬ (c = l)) (hs : s.size ≤ 300) (hm : (s.size : Int) ≤ m) :
    Calls Try.prog 24 #[.slice (some ⟨g, f + l, none⟩) (L2 - l) (c - l), .int .i64 m] w fun e w' => e = .returned (.tuple #[.string s, .int .i64 (2 + (s.size : Int)), .int .i64 0]) ∧ w = w' := by
  have hr := rd_from (k := l) hb (by omega) hc
  have hd : Z.drop l = beI s.size 2 ++ strIs s := by rw [← hZ, List.append_assoc, List.drop_append_of_le_length (by omega), List.drop_of_length_le (by omega), List.nil_append]
  rw [hd] at hr
  have ht : (beI (s.size : Int) 2 ++ strIs s).take 2 = beI s.size 2 := by rw [List.take_append_of_le_length (by rw [beI_len]; omega), List.take_of_length_le (by rw [beI_len]; omega)]
  have hu : rdU ((beI (s.size : Int) 2 ++ strIs s).take 2) = ((s.size : Nat) : Int) := by
    rw [ht]
    show rdU [(s.size : Int) / 2 ^ (8 * 1) % 256, (s.size : Int) / 2 ^ (8 * 0) % 256] = _
    rw [rdU_two _ _ (by omega) (by omega) (by omega) (by omega)]
    have e1 : (2 : Int) ^ (8 * 1) = 256 := by decide
    have e0 : (2 : Int) ^ (8 * 0) = 1 := by decide
    rw [e1, e0]
    omega
  have h := readText_yes w _ _ _ _ s.size m hr (by_app (by_be _ 2) (by_str s)) (by omega) hu (by omega) hm (by omega)
  have hd2 : (beI (s.size : Int) 2 ++ strIs s).drop 2 = strIs s := by rw [List.drop_append_of_le_length (by rw [beI_len]; omega), List.drop_of_length_le (by rw [beI_len]; omega), List.nil_append]
  rw [hd2, List.take_of_length_le (by rw [strIs_len]; omega), strB_back] at h
  exact h
theorem rd_drew {w : World} {p : Option Addr} {l c : Nat} {X : List Int} (h : RdB w p l c X) : RdB w.drew p l c X := h
theorem rd_drewN {w : World} {p : Option Addr} {l c : Nat} {X : List Int} (n : Nat) (h : RdB w p l c X) : RdB (w.drewN n) p l c X := h
set_option maxRecDepth 100000 in
set_option maxHeartbeats 16000000 in
theorem numbers_nil (w : World) (X : List Int) (u n most : Int) (s : ByteArray) (hb : RdB w none 0 0 X) (hX : By X) (hu0 : 0 ≤ u) (hu1 : u < 18446744073709551616) (hs : s.size ≤ 300) :
    Calls Try.prog 5 #[.slice none 0 0, .int .u64 u, .int .i64 n, .string s, .int .i64 most] w fun e w' => e = .returned (.bool true) ∧ Below w.heap.size w w' := by
  have HB := Lib.hid hb
  have HX := Lib.hid hX
  have hlc := hb.2.1
  have hcm := hb.2.2.1
  unfold maxLen at hcm
  have HPU := Lib.hid (fun w (h : RdB w none 0 0 X) => putU_any w none 0 0 X u n hu0 hu1 h (by omega))
  have HRP := Lib.hid (fun w (h : RdB w none 0 0 X) => rputU_any w w none 0 0 X u n hu0 hu1 (in_of_rd h) (by omega))
  obtain ⟨K, hK⟩ : ∃ K, clampN n = K := ⟨_, rfl⟩
  have hK8 : K ≤ 8 := by rw [← hK]; exact clamp_le n
  rw [hK] at HPU HRP
  obtain ⟨L1, hL1⟩ : ∃ L1, 0 + K = L1 := ⟨_, rfl⟩
  have hL1b : L1 ≤ 108 := by omega
  rw [hL1] at HPU HRP
  obtain ⟨Y, hY⟩ : ∃ Y, X ++ beI u K = Y := ⟨_, rfl⟩
  rw [hY] at HPU HRP
  obtain ⟨V, hV⟩ : ∃ V, rdV X 0 n = V := ⟨_, rfl⟩
  obtain ⟨Q, hQ⟩ : ∃ Q, rdQ 0 n = Q := ⟨_, rfl⟩
  have HRU := Lib.hid (fun w (h : RdB w none 0 0 X) => readU_tot w none 0 0 X n h HX.out)
  have HRR := Lib.hid (fun w (h : RdB w none 0 0 X) => rreadU_tot w none 0 0 X n h HX.out)
  rw [hV, hQ] at HRU HRR
  have HRT := Lib.hid (fun w (h : RdB w none 0 0 X) => rd_tight h)
  clear hb hX hu0 hu1 hK hY hV hQ hL1
  go_enter Try.func5, Try.ntmps5
  go_wp2_with fail
  go_at_call 9; refine (known_any _).mono ?_; rintro e w1 ⟨rfl, hb1⟩
  have HB1 := Lib.hid hb1
  have HR1 := Lib.hid (rd_keep hb1 HB.out)
  clear hb1
  go_wp2_with fail
  go_at_call 18; refine (HPU.out _ HR1.out).mono ?_; rintro e w2 ⟨p2, c2, rfl, ho2⟩
  have HO2 := Lib.hid ho2
  have HB2 := Lib.hid (bel_step HB1.out (ow_bel ho2))
  have HR2 := Lib.hid (rd_keep (ow_bel ho2) HR1.out)
  clear ho2
  go_wp2_with fail
  go_at_call 19; refine (HRU.out _ HR2.out).mono ?_; rintro e w3 ⟨rfl, rfl⟩
  go_wp2_with fail
  go_at_call 20; refine (HRR.out _ HR2.out).mono ?_; rintro e w3 ⟨rfl, rfl⟩
  go_wp2
  obtain ⟨str, hstr⟩ : ∃ str, strB Y = str := ⟨_, rfl⟩
  have HKEEP := Lib.hid (fun w' (h : Below w2.heap.size w2 w') => hstr ▸ rd_string (rd_keep h (rd_of_ow HO2.out)))
  have HSTR := Lib.hid hstr
  clear hstr
  have hcv0 := HKEEP.out _ (Below.refl _ _)
  have hcv1 := HKEEP.out _ (Below.drew (Below.refl _ w2))
  have hcv2 := fun k => HKEEP.out _ (bel_drewN k (Below.refl _ w2))
  refine wp_region_held_drew (S := fun w' => Below w2.heap.size w2 w') (by kernel_rfl) ?_ (fun hHeld => ?_)
  · exact Below.drew (Below.refl _ _)
  refine wpAnyH_take (i := 0) (oi := ?_) (v := ?_) ?hia0 (by kernel_rfl) ?hfa0 ?hra0 ?hQa0 ?hya0 (by assumption) ?resta0
  case hia0 => (simp only [List.getElem?_toArray, List.getElem?_cons_zero, List.getElem?_cons_succ]; rfl)
  case hfa0 => kernel_rfl
  case hra0 => kernel_rfl
  case hya0 => (refine Or.inl ⟨by rfl, ?_⟩; intro w hSw; (try dsimp only at hSw); go_simp; (try with_reducible rfl))
  case hQa0 => exact fun _ _ _ h => h
  (try simp only [Act.put, List.setIfInBounds_toArray, List.set_cons_zero, List.set_cons_succ])
  refine wpAnyH_take (i := 1) (oi := ?_) (v := ?_) ?hia1 (by kernel_rfl) ?hfa1 ?hra1 ?hQa1 ?hya1 (by assumption) ?resta1
  case hia1 => (simp only [List.getElem?_toArray, List.getElem?_cons_zero, List.getElem?_cons_succ]; rfl)
  case hfa1 => kernel_rfl
  case hra1 => kernel_rfl
  case hya1 => (refine Or.inl ⟨by rfl, ?_⟩; intro w hSw; (try dsimp only at hSw); have hcc := HKEEP.out _ hSw; go_simp; (try with_reducible rfl))
  case hQa1 => exact fun _ _ _ h => h
  (try simp only [Act.put, List.setIfInBounds_toArray, List.set_cons_zero, List.set_cons_succ])
  refine wpAnyH_take (i := 2) (oi := ?_) (v := ?_) ?hia2 (by kernel_rfl) ?hfa2 ?hra2 ?hQa2 ?hya2 (by assumption) ?resta2
  case hia2 => (simp only [List.getElem?_toArray, List.getElem?_cons_zero, List.getElem?_cons_succ]; rfl)
  case hfa2 => kernel_rfl
  case hra2 => kernel_rfl
  case hya2 => (refine Or.inl ⟨by rfl, ?_⟩; intro w hSw; (try dsimp only at hSw); go_simp; (try with_reducible rfl))
  case hQa2 => exact fun _ _ _ h => h
  (try simp only [Act.put, List.setIfInBounds_toArray, List.set_cons_zero, List.set_cons_succ])
  refine wpAnyH_take (i := 3) (oi := ?_) (v := ?_) ?hia3 (by kernel_rfl) ?hfa3 ?hra3 ?hQa3 ?hya3 (by assumption) ?resta3
  case hia3 => (simp only [List.getElem?_toArray, List.getElem?_cons_zero, List.getElem?_cons_succ]; rfl)
  case hfa3 => kernel_rfl
  case hra3 => kernel_rfl
  case hya3 => (refine Or.inl ⟨by rfl, ?_⟩; intro w hSw; (try dsimp only at hSw); go_simp; (try with_reducible rfl))
  case hQa3 => exact fun _ _ _ h => h
  (try simp only [Act.put, List.setIfInBounds_toArray, List.set_cons_zero, List.set_cons_succ])
  refine wpAnyH_take (i := 4) (oi := ?_) (v := ?_) ?hia4 (by kernel_rfl) ?hfa4 ?hra4 ?hQa4 ?hya4 (by assumption) ?resta4
  case hia4 => (simp only [List.getElem?_toArray, List.getElem?_cons_zero, List.getElem?_cons_succ]; rfl)
  case hfa4 => kernel_rfl
  case hra4 => kernel_rfl
  case hya4 => (refine Or.inl ⟨by rfl, ?_⟩; intro w hSw; (try dsimp only at hSw); go_simp; (try with_reducible rfl))
  case hQa4 => exact fun _ _ _ h => h
  (try simp only [Act.put, List.setIfInBounds_toArray, List.set_cons_zero, List.set_cons_succ])
  refine wpAnyH_take (i := 5) (oi := ?_) (v := ?_) ?hia5 (by kernel_rfl) ?hfa5 ?hra5 ?hQa5 ?hya5 (by assumption) ?resta5
  case hia5 => (simp only [List.getElem?_toArray, List.getElem?_cons_zero, List.getElem?_cons_succ]; rfl)
  case hfa5 => kernel_rfl
  case hra5 => kernel_rfl
  case hya5 => (refine Or.inl ⟨by rfl, ?_⟩; intro w hSw; (try dsimp only at hSw); go_simp; (try with_reducible rfl))
  case hQa5 => exact fun _ _ _ h => h
  (try simp only [Act.put, List.setIfInBounds_toArray, List.set_cons_zero, List.set_cons_succ])
  refine wpAnyH_take (i := 6) (oi := ?_) (v := ?_) ?hia6 (by kernel_rfl) ?hfa6 ?hra6 ?hQa6 ?hya6 (by assumption) ?resta6
  case hia6 => (simp only [List.getElem?_toArray, List.getElem?_cons_zero, List.getElem?_cons_succ]; rfl)
  case hfa6 => kernel_rfl
  case hra6 => kernel_rfl
  case hya6 => (refine Or.inl ⟨by rfl, ?_⟩; intro w hSw; (try dsimp only at hSw); go_simp; (try with_reducible rfl))
  case hQa6 => exact fun _ _ _ h => h
  (try simp only [Act.put, List.setIfInBounds_toArray, List.set_cons_zero, List.set_cons_succ])
  refine wpAnyH_take (i := 7) (oi := ?_) (v := ?_) ?hia7 (by kernel_rfl) ?hfa7 ?hra7 ?hQa7 ?hya7 (by assumption) ?resta7
  case hia7 => (simp only [List.getElem?_toArray, List.getElem?_cons_zero, List.getElem?_cons_succ]; rfl)
  case hfa7 => kernel_rfl
  case hra7 => kernel_rfl
  case hya7 => (refine Or.inl ⟨by rfl, ?_⟩; intro w hSw; (try dsimp only at hSw); go_simp; (try with_reducible rfl))
  case hQa7 => exact fun _ _ _ h => h
  (try simp only [Act.put, List.setIfInBounds_toArray, List.set_cons_zero, List.set_cons_succ])
  refine wpAnyH_take (i := 8) (oi := ?_) (v := ?_) ?hia8 (by kernel_rfl) ?hfa8 ?hra8 ?hQa8 ?hya8 (by assumption) ?resta8
  case hia8 => (simp only [List.getElem?_toArray, List.getElem?_cons_zero, List.getElem?_cons_succ]; rfl)
  case hfa8 => kernel_rfl
  case hra8 => kernel_rfl
  case hya8 => (refine Or.inl ⟨by rfl, ?_⟩; intro w hSw; (try dsimp only at hSw); go_simp; (try with_reducible rfl))
  case hQa8 => exact fun _ _ _ h => h
  (try simp only [Act.put, List.setIfInBounds_toArray, List.set_cons_zero, List.set_cons_succ])
  refine wpAnyH_take (i := 9) (oi := ?_) (v := ?_) ?hia9 (by kernel_rfl) ?hfa9 ?hra9 ?hQa9 ?hya9 (by assumption) ?resta9
  case hia9 => (simp only [List.getElem?_toArray, List.getElem?_cons_zero, List.getElem?_cons_succ]; rfl)
  case hfa9 => kernel_rfl
  case hra9 => kernel_rfl
  case hya9 => (refine Or.inl ⟨by rfl, ?_⟩; intro w hSw; (try dsimp only at hSw); go_simp; (try with_reducible rfl))
  case hQa9 => exact fun _ _ _ h => h
  (try simp only [Act.put, List.setIfInBounds_toArray, List.set_cons_zero, List.set_cons_succ])
  refine wpAnyH_ready (rs := [10]) (by kernel_rfl) (by simp) ?_
  refine AllReadyH.cons (o := ?_) ?hoa10 ?hsta10 AllReadyH.nil
  case hoa10 => (simp only [List.getElem?_toArray, List.getElem?_cons_zero, List.getElem?_cons_succ]; rfl)
  intro K hK
  go_simp
  go_at_call 21; refine (HRP.out _ (HRT.out _ (by first | exact HR2.out | exact rd_drew HR2.out | exact rd_drewN _ HR2.out))).mono ?_; rintro e w3 ⟨p3, c3, rfl, hin, _⟩; have hbb := in_bel hin; have hS3 : Below w2.heap.size w2 w3 := ⟨hbb.os, hbb.tape, hbb.output, hbb.size, hbb.block⟩; have hcw : (convert 22 9 (.slice p3 L1 c3)).run Try.prog w3 = .ok (.string str) w3 := HSTR.out ▸ rd_string (in_rd hin); have HCW := Lib.hid hcw; clear hin hbb hcw
  go_wp2_with fail
  refine hK.out _ _ ?hsa10 (fun hHeld => ?_)
  case hsa10 => exact hS3
  clear hK K
  (try simp only [Act.put, List.setIfInBounds_toArray, List.set_cons_zero, List.set_cons_succ])
  have hHeld2 : Below w2.heap.size w2 w3 ∧ (convert 22 9 (.slice p3 L1 c3)).run Try.prog w3 = .ok (.string str) w3 := ⟨hS3, HCW.out⟩
  refine anyH_mono (S' := fun W => Below w2.heap.size w2 W ∧ (convert 22 9 (.slice p3 L1 c3)).run Try.prog W = .ok (.string str) W) (fun _ h => h.1) _ _ _ _ ?_
  refine wpAnyH_take (i := 11) (oi := ?_) (v := ?_) ?hib11 (by kernel_rfl) ?hfb11 ?hrb11 ?hQb11 ?hyb11 (by assumption) ?restb11
  case hib11 => (simp only [List.getElem?_toArray, List.getElem?_cons_zero, List.getElem?_cons_succ]; rfl)
  case hfb11 => kernel_rfl
  case hrb11 => kernel_rfl
  case hyb11 => (refine Or.inl ⟨by rfl, ?_⟩; intro w hSw; (try dsimp only at hSw); have hcc := hSw.2; go_simp; (try with_reducible rfl))
  case hQb11 => exact fun _ _ _ h => h
  (try simp only [Act.put, List.setIfInBounds_toArray, List.set_cons_zero, List.set_cons_succ])
  refine wpAnyH_take (i := 12) (oi := ?_) (v := ?_) ?hib12 (by kernel_rfl) ?hfb12 ?hrb12 ?hQb12 ?hyb12 (by assumption) ?restb12
  case hib12 => (simp only [List.getElem?_toArray, List.getElem?_cons_zero, List.getElem?_cons_succ]; rfl)
  case hfb12 => kernel_rfl
  case hrb12 => kernel_rfl
  case hyb12 => (refine Or.inl ⟨by rfl, ?_⟩; intro w hSw; (try dsimp only at hSw); go_simp; (try with_reducible rfl))
  case hQb12 => exact fun _ _ _ h => h
  (try simp only [Act.put, List.setIfInBounds_toArray, List.set_cons_zero, List.set_cons_succ])
  refine wpAnyH_take (i := 13) (oi := ?_) (v := ?_) ?hib13 (by kernel_rfl) ?hfb13 ?hrb13 ?hQb13 ?hyb13 (by assumption) ?restb13
  case hib13 => (simp only [List.getElem?_toArray, List.getElem?_cons_zero, List.getElem?_cons_succ]; rfl)
  case hfb13 => kernel_rfl
  case hrb13 => kernel_rfl
  case hyb13 => (refine Or.inl ⟨by rfl, ?_⟩; intro w hSw; (try dsimp only at hSw); go_simp; (try with_reducible rfl))
  case hQb13 => exact fun _ _ _ h => h
  (try simp only [Act.put, List.setIfInBounds_toArray, List.set_cons_zero, List.set_cons_succ])
  refine wpAnyH_take (i := 14) (oi := ?_) (v := ?_) ?hib14 (by kernel_rfl) ?hfb14 ?hrb14 ?hQb14 ?hyb14 (by assumption) ?restb14
  case hib14 => (simp only [List.getElem?_toArray, List.getElem?_cons_zero, List.getElem?_cons_succ]; rfl)
  case hfb14 => kernel_rfl
  case hrb14 => kernel_rfl
  case hyb14 => (refine Or.inl ⟨by rfl, ?_⟩; intro w hSw; (try dsimp only at hSw); go_simp; (try with_reducible rfl))
  case hQb14 => exact fun _ _ _ h => h
  (try simp only [Act.put, List.setIfInBounds_toArray, List.set_cons_zero, List.set_cons_succ])
  refine wpAnyH_take (i := 15) (oi := ?_) (v := ?_) ?hib15 (by kernel_rfl) ?hfb15 ?hrb15 ?hQb15 ?hyb15 (by assumption) ?restb15
  case hib15 => (simp only [List.getElem?_toArray, List.getElem?_cons_zero, List.getElem?_cons_succ]; rfl)
  case hfb15 => kernel_rfl
  case hrb15 => kernel_rfl
  case hyb15 => (refine Or.inl ⟨by rfl, ?_⟩; intro w hSw; (try dsimp only at hSw); go_simp; (try with_reducible rfl))
  case hQb15 => exact fun _ _ _ h => h
  (try simp only [Act.put, List.setIfInBounds_toArray, List.set_cons_zero, List.set_cons_succ])
  refine wpAnyH_take (i := 16) (oi := ?_) (v := ?_) ?hib16 (by kernel_rfl) ?hfb16 ?hrb16 ?hQb16 ?hyb16 (by assumption) ?restb16
  case hib16 => (simp only [List.getElem?_toArray, List.getElem?_cons_zero, List.getElem?_cons_succ]; rfl)
  case hfb16 => kernel_rfl
  case hrb16 => kernel_rfl
  case hyb16 => (refine Or.inl ⟨by rfl, ?_⟩; intro w hSw; (try dsimp only at hSw); go_simp; (try with_reducible rfl))
  case hQb16 => exact fun _ _ _ h => h
  (try simp only [Act.put, List.setIfInBounds_toArray, List.set_cons_zero, List.set_cons_succ])
  refine wpAnyH_take (i := 17) (oi := ?_) (v := ?_) ?hib17 (by kernel_rfl) ?hfb17 ?hrb17 ?hQb17 ?hyb17 (by assumption) ?restb17
  case hib17 => (simp only [List.getElem?_toArray, List.getElem?_cons_zero, List.getElem?_cons_succ]; rfl)
  case hfb17 => kernel_rfl
  case hrb17 => kernel_rfl
  case hyb17 => (refine Or.inl ⟨by rfl, ?_⟩; intro w hSw; (try dsimp only at hSw); go_simp; (try with_reducible rfl))
  case hQb17 => exact fun _ _ _ h => h
  (try simp only [Act.put, List.setIfInBounds_toArray, List.set_cons_zero, List.set_cons_succ])
  refine wpAnyH_take (i := 18) (oi := ?_) (v := ?_) ?hib18 (by kernel_rfl) ?hfb18 ?hrb18 ?hQb18 ?hyb18 (by assumption) ?restb18
  case hib18 => (simp only [List.getElem?_toArray, List.getElem?_cons_zero, List.getElem?_cons_succ]; rfl)
  case hfb18 => kernel_rfl
  case hrb18 => kernel_rfl
  case hyb18 => (refine Or.inl ⟨by rfl, ?_⟩; intro w hSw; (try dsimp only at hSw); go_simp; (try with_reducible rfl))
  case hQb18 => exact fun _ _ _ h => h
  (try simp only [Act.put, List.setIfInBounds_toArray, List.set_cons_zero, List.set_cons_succ])
  refine wpAnyH_take (i := 19) (oi := ?_) (v := ?_) ?hib19 (by kernel_rfl) ?hfb19 ?hrb19 ?hQb19 ?hyb19 (by assumption) ?restb19
  case hib19 => (simp only [List.getElem?_toArray, List.getElem?_cons_zero, List.getElem?_cons_succ]; rfl)
  case hfb19 => kernel_rfl
  case hrb19 => kernel_rfl
  case hyb19 => (refine Or.inl ⟨by rfl, ?_⟩; intro w hSw; (try dsimp only at hSw); go_simp; (try with_reducible rfl))
  case hQb19 => exact fun _ _ _ h => h
  (try simp only [Act.put, List.setIfInBounds_toArray, List.set_cons_zero, List.set_cons_succ])
  refine wpAnyH_take (i := 20) (oi := ?_) (v := ?_) ?hib20 (by kernel_rfl) ?hfb20 ?hrb20 ?hQb20 ?hyb20 (by assumption) ?restb20
  case hib20 => (simp only [List.getElem?_toArray, List.getElem?_cons_zero, List.getElem?_cons_succ]; rfl)
  case hfb20 => kernel_rfl
  case hrb20 => kernel_rfl
  case hyb20 => (refine Or.inl ⟨by rfl, ?_⟩; intro w hSw; (try dsimp only at hSw); go_simp; (try with_reducible rfl))
  case hQb20 => exact fun _ _ _ h => h
  (try simp only [Act.put, List.setIfInBounds_toArray, List.set_cons_zero, List.set_cons_succ])
  refine wpAnyH_take (i := 21) (oi := ?_) (v := ?_) ?hib21 (by kernel_rfl) ?hfb21 ?hrb21 ?hQb21 ?hyb21 (by assumption) ?restb21
  case hib21 => (simp only [List.getElem?_toArray, List.getElem?_cons_zero, List.getElem?_cons_succ]; rfl)
  case hfb21 => kernel_rfl
  case hrb21 => kernel_rfl
  case hyb21 => (refine Or.inl ⟨by rfl, ?_⟩; intro w hSw; (try dsimp only at hSw); go_simp; (try with_reducible rfl))
  case hQb21 => exact fun _ _ _ h => h
  (try simp only [Act.put, List.setIfInBounds_toArray, List.set_cons_zero, List.set_cons_succ])
  refine wpAnyH_take (i := 22) (oi := ?_) (v := ?_) ?hib22 (by kernel_rfl) ?hfb22 ?hrb22 ?hQb22 ?hyb22 (by assumption) ?restb22
  case hib22 => (simp only [List.getElem?_toArray, List.getElem?_cons_zero, List.getElem?_cons_succ]; rfl)
  case hfb22 => kernel_rfl
  case hrb22 => kernel_rfl
  case hyb22 => (refine Or.inl ⟨by rfl, ?_⟩; intro w hSw; (try dsimp only at hSw); go_simp; (try with_reducible rfl))
  case hQb22 => exact fun _ _ _ h => h
  (try simp only [Act.put, List.setIfInBounds_toArray, List.set_cons_zero, List.set_cons_succ])
  refine wpAnyH_done (by kernel_rfl) ?_ _
  have HB3 := Lib.hid (bel_step HB2.out hS3)
  have HR3 := Lib.hid (rd_keep hS3 HR2.out)
  clear hHeld2 hS3
  go_wp2
  have ROW := Lib.hid (row_alloc w3 #[.int .i64 most, .int .i64 (most.tmod 300), .int .i64 300] 3)
  have HRA := Lib.hid (rd_keep ((Below.refl w3.heap.size w3).alloc (Nat.le_refl _) (.cells #[.int .i64 most, .int .i64 (most.tmod 300), .int .i64 300] 3)) HR3.out)
  have HBA := Lib.hid (bel_alloc HB3.out (.cells #[.int .i64 most, .int .i64 (most.tmod 300), .int .i64 300] 3))
  have HXX := Lib.hid (HB.out.1)
  go_loopw [85] (fun i wr => ∃ k : Nat, k ≤ 3 ∧ i = .int .i64 k ∧ Below (w3.alloc (.cells #[.int .i64 most, .int .i64 (most.tmod 300), .int .i64 300] 3)).heap.size (w3.alloc (.cells #[.int .i64 most, .int .i64 (most.tmod 300), .int .i64 300] 3)) wr) (fun i _ => 3 - (intOf i).toNat)
  case atStart => exact ⟨0, by omega, rfl, Below.refl _ _⟩
  case round =>
    obtain ⟨k, hk, rfl, hbr⟩ := hrel
    have HBR := Lib.hid hbr
    have HRr := Lib.hid (rd_keep hbr HRA.out)
    have hrow := row_step ROW.out hbr
    by_cases hlt : k < 3
    · obtain ⟨m, hm⟩ : ∃ m : Int, (#[.int .i64 most, .int .i64 (most.tmod 300), .int .i64 300] : Array Value)[k]? = some (.int .i64 m) := by
        have h3 : k = 0 ∨ k = 1 ∨ k = 2 := by omega
        rcases h3 with rfl | rfl | rfl
        · exact ⟨_, rfl⟩
        · exact ⟨_, rfl⟩
        · exact ⟨_, rfl⟩
      have hc : wr.cell? ⟨w3.heap.size, k, none⟩ = some (.int .i64 m) := (row_cell hrow k).trans hm
      clear hm hrow hbr
      by_cases hsm : (s.size : Int) ≤ m
      · have HPT := Lib.hid (fun w (h : RdB w none 0 0 X) => putText_yes w none 0 0 X s m h (by omega) (by omega) hsm)
        have HRPT := Lib.hid (fun w (h : RdB w none 0 0 X) => rputText_yes w w none 0 0 X s m (in_of_rd h) (by omega) (by omega) hsm)
        obtain ⟨L2, hL2⟩ : ∃ L2, 0 + 2 + s.size = L2 := ⟨_, rfl⟩
        obtain ⟨Z, hZ⟩ : ∃ Z, X ++ beI s.size 2 ++ strIs s = Z := ⟨_, rfl⟩
        have hL2a : 2 ≤ L2 := by omega
        have hL2b : L2 ≤ 500 := by omega
        have HTAIL := Lib.hid (tail_text X s 0 Z L2 HXX.out hZ hL2)
        rw [hL2, hZ] at HPT HRPT
        have hne2 : ((2 + (s.size : Int)) != (s.size : Int) + 2) = false := by simp; omega
        obtain ⟨st, hst⟩ : ∃ st, strB Z = st := ⟨_, rfl⟩
        obtain ⟨T, hT⟩ : ∃ T, txS X 0 m = T := ⟨_, rfl⟩
        obtain ⟨N, hN⟩ : ∃ N, txN X 0 m = N := ⟨_, rfl⟩
        obtain ⟨E, hE⟩ : ∃ E, txE X 0 m = E := ⟨_, rfl⟩
        have HT1 := Lib.hid (fun w (h : RdB w none 0 0 X) => readText_tot w none 0 0 X m h HX.out)
        have HT2 := Lib.hid (fun w (h : RdB w none 0 0 X) => rreadText_tot w none 0 0 X m h HX.out)
        rw [hT, hN, hE] at HT1 HT2
        have HSM := Lib.hid hsm
        have HST := Lib.hid hst
        clear hL2 hZ hT hN hE hst
        go_wp2_with fail
        go_at_call 22; refine (HPT.out _ HRr.out).mono ?_; rintro e w4 ⟨p4, c4, rfl, ho4⟩
        have HO4 := Lib.hid ho4
        have HR4 := Lib.hid (rd_keep (ow_bel ho4) HRr.out)
        obtain ⟨g4, f4, rfl⟩ := rd_full (rd_of_ow ho4) (by omega)
        have hc4 : L2 ≤ c4 := (rd_of_ow ho4).2.1
        have hc4n : ¬ (c4 = 0) := by omega
        have hc4m : c4 ≤ 9223372036854775807 := by have h := (rd_of_ow ho4).2.2.1; unfold maxLen at h; omega
        clear ho4
        go_wp2_with fail
        go_at_call 23; refine (HRPT.out _ (HRT.out _ HR4.out)).mono ?_; rintro e w5 ⟨p5, c5, rfl, ho5⟩
        have HO5 := Lib.hid ho5
        have HR5 := Lib.hid (rd_keep (ow_bel ho5) HR4.out)
        have HBB := Lib.hid (bel_step (bel_step HBR.out (ow_bel HO4.out)) (ow_bel ho5))
        have HD := Lib.hid (rd_keep (ow_bel ho5) (rd_of_ow HO4.out))
        clear ho5
        go_wp2_with fail
        go_at_call 24; refine (HT1.out _ HR5.out).mono ?_; rintro e w6 ⟨rfl, rfl⟩
        go_wp2_with fail
        go_at_call 25; refine (HT2.out _ HR5.out).mono ?_; rintro e w6 ⟨rfl, rfl⟩
        have hcd := rd_string HD.out
        have hcx := rd_string (rd_of_ow HO5.out)
        rw [HST.out] at hcd hcx
        go_wp2_with fail
        go_at_call 24; refine (HTAIL.out _ _ _ _ m HD.out hc4n hs HSM.out).mono ?_; rintro e w6 ⟨rfl, rfl⟩
        go_wp2
        go_roundw
        case rel => exact ⟨k + 1, by omega, by go_num, HBB.out⟩
        case measure => simp [intOf]; omega
      · have HPT := Lib.hid (fun w => putText_no w none 0 0 s m (by omega) (Or.inl (by omega)))
        have HRPT := Lib.hid (fun w => rputText_no w none 0 0 s m (by omega) (Or.inl (by omega)))
        obtain ⟨T, hT⟩ : ∃ T, txS X 0 m = T := ⟨_, rfl⟩
        obtain ⟨N, hN⟩ : ∃ N, txN X 0 m = N := ⟨_, rfl⟩
        obtain ⟨E, hE⟩ : ∃ E, txE X 0 m = E := ⟨_, rfl⟩
        have HT1 := Lib.hid (fun w (h : RdB w none 0 0 X) => readText_tot w none 0 0 X m h HX.out)
        have HT2 := Lib.hid (fun w (h : RdB w none 0 0 X) => rreadText_tot w none 0 0 X m h HX.out)
        rw [hT, hN, hE] at HT1 HT2
        have hcn := rd_string (rd_nil wr)
        clear hT hN hE
        go_wp2_with fail
        go_at_call 22; refine (HPT.out _).mono ?_; rintro e w4 ⟨rfl, rfl⟩
        go_wp2_with fail
        go_at_call 23; refine (HRPT.out _).mono ?_; rintro e w5 ⟨rfl, rfl⟩
        go_wp2_with fail
        go_at_call 24; refine (HT1.out _ HRr.out).mono ?_; rintro e w6 ⟨rfl, rfl⟩
        go_wp2_with fail
        go_at_call 25; refine (HT2.out _ HRr.out).mono ?_; rintro e w6 ⟨rfl, rfl⟩
        go_wp2
        go_roundw
        case rel => exact ⟨k + 1, by omega, by go_num, HBR.out⟩
        case measure => simp [intOf]; omega
    · obtain rfl : k = 3 := by omega
      have HF := Lib.hid (bel_step HBA.out hbr)
      clear hrow hbr
      go_wp2
      go_ret
      exact ⟨rfl, HF.out⟩
set_option maxRecDepth 100000 in
set_option maxHeartbeats 16000000 in
theorem numbers_some (w : World) (ad : Addr) (l c : Nat) (X : List Int) (u n most : Int) (s : ByteArray) (hb : RdB w (some ad) l c X) (hX : By X) (hu0 : 0 ≤ u) (hu1 : u < 18446744073709551616) (hl : l ≤ 100) (hs : s.size ≤ 300) :
    Calls Try.prog 5 #[.slice (some ad) l c, .int .u64 u, .int .i64 n, .string s, .int .i64 most] w fun e w' => e = .returned (.bool true) ∧ Below w.heap.size w w' := by
  have HB := Lib.hid hb
  have HX := Lib.hid hX
  have hlc := hb.2.1
  have hcm := hb.2.2.1
  unfold maxLen at hcm
  have HPU := Lib.hid (fun w (h : RdB w (some ad) l c X) => putU_any w (some ad) l c X u n hu0 hu1 h (by omega))
  have HRP := Lib.hid (fun w (h : RdB w (some ad) l l X) => rputU_any w w (some ad) l l X u n hu0 hu1 (in_of_rd h) (by omega))
  obtain ⟨K, hK⟩ : ∃ K, clampN n = K := ⟨_, rfl⟩
  have hK8 : K ≤ 8 := by rw [← hK]; exact clamp_le n
  rw [hK] at HPU HRP
  obtain ⟨L1, hL1⟩ : ∃ L1, l + K = L1 := ⟨_, rfl⟩
  have hL1b : L1 ≤ 108 := by omega
  rw [hL1] at HPU HRP
  obtain ⟨Y, hY⟩ : ∃ Y, X ++ beI u K = Y := ⟨_, rfl⟩
  rw [hY] at HPU HRP
  obtain ⟨V, hV⟩ : ∃ V, rdV X l n = V := ⟨_, rfl⟩
  obtain ⟨Q, hQ⟩ : ∃ Q, rdQ l n = Q := ⟨_, rfl⟩
  have HRU := Lib.hid (fun w (h : RdB w (some ad) l c X) => readU_tot w (some ad) l c X n h HX.out)
  have HRR := Lib.hid (fun w (h : RdB w (some ad) l c X) => rreadU_tot w (some ad) l c X n h HX.out)
  rw [hV, hQ] at HRU HRR
  have HRT := Lib.hid (fun w (h : RdB w (some ad) l c X) => rd_tight h)
  clear hb hX hu0 hu1 hK hY hV hQ hL1
  go_enter Try.func5, Try.ntmps5
  go_wp2_with fail
  go_at_call 9; refine (known_any _).mono ?_; rintro e w1 ⟨rfl, hb1⟩
  have HB1 := Lib.hid hb1
  have HR1 := Lib.hid (rd_keep hb1 HB.out)
  clear hb1
  go_wp2_with fail
  go_at_call 18; refine (HPU.out _ HR1.out).mono ?_; rintro e w2 ⟨p2, c2, rfl, ho2⟩
  have HO2 := Lib.hid ho2
  have HB2 := Lib.hid (bel_step HB1.out (ow_bel ho2))
  have HR2 := Lib.hid (rd_keep (ow_bel ho2) HR1.out)
  clear ho2
  go_wp2_with fail
  go_at_call 19; refine (HRU.out _ HR2.out).mono ?_; rintro e w3 ⟨rfl, rfl⟩
  go_wp2_with fail
  go_at_call 20; refine (HRR.out _ HR2.out).mono ?_; rintro e w3 ⟨rfl, rfl⟩
  go_wp2
  obtain ⟨str, hstr⟩ : ∃ str, strB Y = str := ⟨_, rfl⟩
  have HKEEP := Lib.hid (fun w' (h : Below w2.heap.size w2 w') => hstr ▸ rd_string (rd_keep h (rd_of_ow HO2.out)))
  have HSTR := Lib.hid hstr
  clear hstr
  have hcv0 := HKEEP.out _ (Below.refl _ _)
  have hcv1 := HKEEP.out _ (Below.drew (Below.refl _ w2))
  have hcv2 := fun k => HKEEP.out _ (bel_drewN k (Below.refl _ w2))
  refine wp_region_held_drew (S := fun w' => Below w2.heap.size w2 w') (by kernel_rfl) ?_ (fun hHeld => ?_)
  · exact Below.drew (Below.refl _ _)
  refine wpAnyH_take (i := 0) (oi := ?_) (v := ?_) ?hia0 (by kernel_rfl) ?hfa0 ?hra0 ?hQa0 ?hya0 (by assumption) ?resta0
  case hia0 => (simp only [List.getElem?_toArray, List.getElem?_cons_zero, List.getElem?_cons_succ]; rfl)
  case hfa0 => kernel_rfl
  case hra0 => kernel_rfl
  case hya0 => (refine Or.inl ⟨by rfl, ?_⟩; intro w hSw; (try dsimp only at hSw); go_simp; (try with_reducible rfl))
  case hQa0 => exact fun _ _ _ h => h
  (try simp only [Act.put, List.setIfInBounds_toArray, List.set_cons_zero, List.set_cons_succ])
  refine wpAnyH_take (i := 1) (oi := ?_) (v := ?_) ?hia1 (by kernel_rfl) ?hfa1 ?hra1 ?hQa1 ?hya1 (by assumption) ?resta1
  case hia1 => (simp only [List.getElem?_toArray, List.getElem?_cons_zero, List.getElem?_cons_succ]; rfl)
  case hfa1 => kernel_rfl
  case hra1 => kernel_rfl
  case hya1 => (refine Or.inl ⟨by rfl, ?_⟩; intro w hSw; (try dsimp only at hSw); have hcc := HKEEP.out _ hSw; go_simp; (try with_reducible rfl))
  case hQa1 => exact fun _ _ _ h => h
  (try simp only [Act.put, List.setIfInBounds_toArray, List.set_cons_zero, List.set_cons_succ])
  refine wpAnyH_take (i := 2) (oi := ?_) (v := ?_) ?hia2 (by kernel_rfl) ?hfa2 ?hra2 ?hQa2 ?hya2 (by assumption) ?resta2
  case hia2 => (simp only [List.getElem?_toArray, List.getElem?_cons_zero, List.getElem?_cons_succ]; rfl)
  case hfa2 => kernel_rfl
  case hra2 => kernel_rfl
  case hya2 => (refine Or.inl ⟨by rfl, ?_⟩; intro w hSw; (try dsimp only at hSw); go_simp; (try with_reducible rfl))
  case hQa2 => exact fun _ _ _ h => h
  (try simp only [Act.put, List.setIfInBounds_toArray, List.set_cons_zero, List.set_cons_succ])
  refine wpAnyH_take (i := 3) (oi := ?_) (v := ?_) ?hia3 (by kernel_rfl) ?hfa3 ?hra3 ?hQa3 ?hya3 (by assumption) ?resta3
  case hia3 => (simp only [List.getElem?_toArray, List.getElem?_cons_zero, List.getElem?_cons_succ]; rfl)
  case hfa3 => kernel_rfl
  case hra3 => kernel_rfl
  case hya3 => (refine Or.inl ⟨by rfl, ?_⟩; intro w hSw; (try dsimp only at hSw); go_simp; (try with_reducible rfl))
  case hQa3 => exact fun _ _ _ h => h
  (try simp only [Act.put, List.setIfInBounds_toArray, List.set_cons_zero, List.set_cons_succ])
  refine wpAnyH_take (i := 4) (oi := ?_) (v := ?_) ?hia4 (by kernel_rfl) ?hfa4 ?hra4 ?hQa4 ?hya4 (by assumption) ?resta4
  case hia4 => (simp only [List.getElem?_toArray, List.getElem?_cons_zero, List.getElem?_cons_succ]; rfl)
  case hfa4 => kernel_rfl
  case hra4 => kernel_rfl
  case hya4 => (refine Or.inl ⟨by rfl, ?_⟩; intro w hSw; (try dsimp only at hSw); go_simp; (try with_reducible rfl))
  case hQa4 => exact fun _ _ _ h => h
  (try simp only [Act.put, List.setIfInBounds_toArray, List.set_cons_zero, List.set_cons_succ])
  refine wpAnyH_take (i := 5) (oi := ?_) (v := ?_) ?hia5 (by kernel_rfl) ?hfa5 ?hra5 ?hQa5 ?hya5 (by assumption) ?resta5
  case hia5 => (simp only [List.getElem?_toArray, List.getElem?_cons_zero, List.getElem?_cons_succ]; rfl)
  case hfa5 => kernel_rfl
  case hra5 => kernel_rfl
  case hya5 => (refine Or.inl ⟨by rfl, ?_⟩; intro w hSw; (try dsimp only at hSw); go_simp; (try with_reducible rfl))
  case hQa5 => exact fun _ _ _ h => h
  (try simp only [Act.put, List.setIfInBounds_toArray, List.set_cons_zero, List.set_cons_succ])
  refine wpAnyH_take (i := 6) (oi := ?_) (v := ?_) ?hia6 (by kernel_rfl) ?hfa6 ?hra6 ?hQa6 ?hya6 (by assumption) ?resta6
  case hia6 => (simp only [List.getElem?_toArray, List.getElem?_cons_zero, List.getElem?_cons_succ]; rfl)
  case hfa6 => kernel_rfl
  case hra6 => kernel_rfl
  case hya6 => (refine Or.inl ⟨by rfl, ?_⟩; intro w hSw; (try dsimp only at hSw); go_simp; (try with_reducible rfl))
  case hQa6 => exact fun _ _ _ h => h
  (try simp only [Act.put, List.setIfInBounds_toArray, List.set_cons_zero, List.set_cons_succ])
  refine wpAnyH_take (i := 7) (oi := ?_) (v := ?_) ?hia7 (by kernel_rfl) ?hfa7 ?hra7 ?hQa7 ?hya7 (by assumption) ?resta7
  case hia7 => (simp only [List.getElem?_toArray, List.getElem?_cons_zero, List.getElem?_cons_succ]; rfl)
  case hfa7 => kernel_rfl
  case hra7 => kernel_rfl
  case hya7 => (refine Or.inl ⟨by rfl, ?_⟩; intro w hSw; (try dsimp only at hSw); go_simp; (try with_reducible rfl))
  case hQa7 => exact fun _ _ _ h => h
  (try simp only [Act.put, List.setIfInBounds_toArray, List.set_cons_zero, List.set_cons_succ])
  refine wpAnyH_take (i := 8) (oi := ?_) (v := ?_) ?hia8 (by kernel_rfl) ?hfa8 ?hra8 ?hQa8 ?hya8 (by assumption) ?resta8
  case hia8 => (simp only [List.getElem?_toArray, List.getElem?_cons_zero, List.getElem?_cons_succ]; rfl)
  case hfa8 => kernel_rfl
  case hra8 => kernel_rfl
  case hya8 => (refine Or.inl ⟨by rfl, ?_⟩; intro w hSw; (try dsimp only at hSw); go_simp; (try with_reducible rfl))
  case hQa8 => exact fun _ _ _ h => h
  (try simp only [Act.put, List.setIfInBounds_toArray, List.set_cons_zero, List.set_cons_succ])
  refine wpAnyH_take (i := 9) (oi := ?_) (v := ?_) ?hia9 (by kernel_rfl) ?hfa9 ?hra9 ?hQa9 ?hya9 (by assumption) ?resta9
  case hia9 => (simp only [List.getElem?_toArray, List.getElem?_cons_zero, List.getElem?_cons_succ]; rfl)
  case hfa9 => kernel_rfl
  case hra9 => kernel_rfl
  case hya9 => (refine Or.inl ⟨by rfl, ?_⟩; intro w hSw; (try dsimp only at hSw); go_simp; (try with_reducible rfl))
  case hQa9 => exact fun _ _ _ h => h
  (try simp only [Act.put, List.setIfInBounds_toArray, List.set_cons_zero, List.set_cons_succ])
  refine wpAnyH_ready (rs := [10]) (by kernel_rfl) (by simp) ?_
  refine AllReadyH.cons (o := ?_) ?hoa10 ?hsta10 AllReadyH.nil
  case hoa10 => (simp only [List.getElem?_toArray, List.getElem?_cons_zero, List.getElem?_cons_succ]; rfl)
  intro K hK
  go_simp
  go_at_call 21; refine (HRP.out _ (HRT.out _ (by first | exact HR2.out | exact rd_drew HR2.out | exact rd_drewN _ HR2.out))).mono ?_; rintro e w3 ⟨p3, c3, rfl, hin, _⟩; have hbb := in_bel hin; have hS3 : Below w2.heap.size w2 w3 := ⟨hbb.os, hbb.tape, hbb.output, hbb.size, hbb.block⟩; have hcw : (convert 22 9 (.slice p3 L1 c3)).run Try.prog w3 = .ok (.string str) w3 := HSTR.out ▸ rd_string (in_rd hin); have HCW := Lib.hid hcw; clear hin hbb hcw
  go_wp2_with fail
  refine hK.out _ _ ?hsa10 (fun hHeld => ?_)
  case hsa10 => exact hS3
  clear hK K
  (try simp only [Act.put, List.setIfInBounds_toArray, List.set_cons_zero, List.set_cons_succ])
  have hHeld2 : Below w2.heap.size w2 w3 ∧ (convert 22 9 (.slice p3 L1 c3)).run Try.prog w3 = .ok (.string str) w3 := ⟨hS3, HCW.out⟩
  refine anyH_mono (S' := fun W => Below w2.heap.size w2 W ∧ (convert 22 9 (.slice p3 L1 c3)).run Try.prog W = .ok (.string str) W) (fun _ h => h.1) _ _ _ _ ?_
  refine wpAnyH_take (i := 11) (oi := ?_) (v := ?_) ?hib11 (by kernel_rfl) ?hfb11 ?hrb11 ?hQb11 ?hyb11 (by assumption) ?restb11
  case hib11 => (simp only [List.getElem?_toArray, List.getElem?_cons_zero, List.getElem?_cons_succ]; rfl)
  case hfb11 => kernel_rfl
  case hrb11 => kernel_rfl
  case hyb11 => (refine Or.inl ⟨by rfl, ?_⟩; intro w hSw; (try dsimp only at hSw); have hcc := hSw.2; go_simp; (try with_reducible rfl))
  case hQb11 => exact fun _ _ _ h => h
  (try simp only [Act.put, List.setIfInBounds_toArray, List.set_cons_zero, List.set_cons_succ])
  refine wpAnyH_take (i := 12) (oi := ?_) (v := ?_) ?hib12 (by kernel_rfl) ?hfb12 ?hrb12 ?hQb12 ?hyb12 (by assumption) ?restb12
  case hib12 => (simp only [List.getElem?_toArray, List.getElem?_cons_zero, List.getElem?_cons_succ]; rfl)
  case hfb12 => kernel_rfl
  case hrb12 => kernel_rfl
  case hyb12 => (refine Or.inl ⟨by rfl, ?_⟩; intro w hSw; (try dsimp only at hSw); go_simp; (try with_reducible rfl))
  case hQb12 => exact fun _ _ _ h => h
  (try simp only [Act.put, List.setIfInBounds_toArray, List.set_cons_zero, List.set_cons_succ])
  refine wpAnyH_take (i := 13) (oi := ?_) (v := ?_) ?hib13 (by kernel_rfl) ?hfb13 ?hrb13 ?hQb13 ?hyb13 (by assumption) ?restb13
  case hib13 => (simp only [List.getElem?_toArray, List.getElem?_cons_zero, List.getElem?_cons_succ]; rfl)
  case hfb13 => kernel_rfl
  case hrb13 => kernel_rfl
  case hyb13 => (refine Or.inl ⟨by rfl, ?_⟩; intro w hSw; (try dsimp only at hSw); go_simp; (try with_reducible rfl))
  case hQb13 => exact fun _ _ _ h => h
  (try simp only [Act.put, List.setIfInBounds_toArray, List.set_cons_zero, List.set_cons_succ])
  refine wpAnyH_take (i := 14) (oi := ?_) (v := ?_) ?hib14 (by kernel_rfl) ?hfb14 ?hrb14 ?hQb14 ?hyb14 (by assumption) ?restb14
  case hib14 => (simp only [List.getElem?_toArray, List.getElem?_cons_zero, List.getElem?_cons_succ]; rfl)
  case hfb14 => kernel_rfl
  case hrb14 => kernel_rfl
  case hyb14 => (refine Or.inl ⟨by rfl, ?_⟩; intro w hSw; (try dsimp only at hSw); go_simp; (try with_reducible rfl))
  case hQb14 => exact fun _ _ _ h => h
  (try simp only [Act.put, List.setIfInBounds_toArray, List.set_cons_zero, List.set_cons_succ])
  refine wpAnyH_take (i := 15) (oi := ?_) (v := ?_) ?hib15 (by kernel_rfl) ?hfb15 ?hrb15 ?hQb15 ?hyb15 (by assumption) ?restb15
  case hib15 => (simp only [List.getElem?_toArray, List.getElem?_cons_zero, List.getElem?_cons_succ]; rfl)
  case hfb15 => kernel_rfl
  case hrb15 => kernel_rfl
  case hyb15 => (refine Or.inl ⟨by rfl, ?_⟩; intro w hSw; (try dsimp only at hSw); go_simp; (try with_reducible rfl))
  case hQb15 => exact fun _ _ _ h => h
  (try simp only [Act.put, List.setIfInBounds_toArray, List.set_cons_zero, List.set_cons_succ])
  refine wpAnyH_take (i := 16) (oi := ?_) (v := ?_) ?hib16 (by kernel_rfl) ?hfb16 ?hrb16 ?hQb16 ?hyb16 (by assumption) ?restb16
  case hib16 => (simp only [List.getElem?_toArray, List.getElem?_cons_zero, List.getElem?_cons_succ]; rfl)
  case hfb16 => kernel_rfl
  case hrb16 => kernel_rfl
  case hyb16 => (refine Or.inl ⟨by rfl, ?_⟩; intro w hSw; (try dsimp only at hSw); go_simp; (try with_reducible rfl))
  case hQb16 => exact fun _ _ _ h => h
  (try simp only [Act.put, List.setIfInBounds_toArray, List.set_cons_zero, List.set_cons_succ])
  refine wpAnyH_take (i := 17) (oi := ?_) (v := ?_) ?hib17 (by kernel_rfl) ?hfb17 ?hrb17 ?hQb17 ?hyb17 (by assumption) ?restb17
  case hib17 => (simp only [List.getElem?_toArray, List.getElem?_cons_zero, List.getElem?_cons_succ]; rfl)
  case hfb17 => kernel_rfl
  case hrb17 => kernel_rfl
  case hyb17 => (refine Or.inl ⟨by rfl, ?_⟩; intro w hSw; (try dsimp only at hSw); go_simp; (try with_reducible rfl))
  case hQb17 => exact fun _ _ _ h => h
  (try simp only [Act.put, List.setIfInBounds_toArray, List.set_cons_zero, List.set_cons_succ])
  refine wpAnyH_take (i := 18) (oi := ?_) (v := ?_) ?hib18 (by kernel_rfl) ?hfb18 ?hrb18 ?hQb18 ?hyb18 (by assumption) ?restb18
  case hib18 => (simp only [List.getElem?_toArray, List.getElem?_cons_zero, List.getElem?_cons_succ]; rfl)
  case hfb18 => kernel_rfl
  case hrb18 => kernel_rfl
  case hyb18 => (refine Or.inl ⟨by rfl, ?_⟩; intro w hSw; (try dsimp only at hSw); go_simp; (try with_reducible rfl))
  case hQb18 => exact fun _ _ _ h => h
  (try simp only [Act.put, List.setIfInBounds_toArray, List.set_cons_zero, List.set_cons_succ])
  refine wpAnyH_take (i := 19) (oi := ?_) (v := ?_) ?hib19 (by kernel_rfl) ?hfb19 ?hrb19 ?hQb19 ?hyb19 (by assumption) ?restb19
  case hib19 => (simp only [List.getElem?_toArray, List.getElem?_cons_zero, List.getElem?_cons_succ]; rfl)
  case hfb19 => kernel_rfl
  case hrb19 => kernel_rfl
  case hyb19 => (refine Or.inl ⟨by rfl, ?_⟩; intro w hSw; (try dsimp only at hSw); go_simp; (try with_reducible rfl))
  case hQb19 => exact fun _ _ _ h => h
  (try simp only [Act.put, List.setIfInBounds_toArray, List.set_cons_zero, List.set_cons_succ])
  refine wpAnyH_take (i := 20) (oi := ?_) (v := ?_) ?hib20 (by kernel_rfl) ?hfb20 ?hrb20 ?hQb20 ?hyb20 (by assumption) ?restb20
  case hib20 => (simp only [List.getElem?_toArray, List.getElem?_cons_zero, List.getElem?_cons_succ]; rfl)
  case hfb20 => kernel_rfl
  case hrb20 => kernel_rfl
  case hyb20 => (refine Or.inl ⟨by rfl, ?_⟩; intro w hSw; (try dsimp only at hSw); go_simp; (try with_reducible rfl))
  case hQb20 => exact fun _ _ _ h => h
  (try simp only [Act.put, List.setIfInBounds_toArray, List.set_cons_zero, List.set_cons_succ])
  refine wpAnyH_take (i := 21) (oi := ?_) (v := ?_) ?hib21 (by kernel_rfl) ?hfb21 ?hrb21 ?hQb21 ?hyb21 (by assumption) ?restb21
  case hib21 => (simp only [List.getElem?_toArray, List.getElem?_cons_zero, List.getElem?_cons_succ]; rfl)
  case hfb21 => kernel_rfl
  case hrb21 => kernel_rfl
  case hyb21 => (refine Or.inl ⟨by rfl, ?_⟩; intro w hSw; (try dsimp only at hSw); go_simp; (try with_reducible rfl))
  case hQb21 => exact fun _ _ _ h => h
  (try simp only [Act.put, List.setIfInBounds_toArray, List.set_cons_zero, List.set_cons_succ])
  refine wpAnyH_take (i := 22) (oi := ?_) (v := ?_) ?hib22 (by kernel_rfl) ?hfb22 ?hrb22 ?hQb22 ?hyb22 (by assumption) ?restb22
  case hib22 => (simp only [List.getElem?_toArray, List.getElem?_cons_zero, List.getElem?_cons_succ]; rfl)
  case hfb22 => kernel_rfl
  case hrb22 => kernel_rfl
  case hyb22 => (refine Or.inl ⟨by rfl, ?_⟩; intro w hSw; (try dsimp only at hSw); go_simp; (try with_reducible rfl))
  case hQb22 => exact fun _ _ _ h => h
  (try simp only [Act.put, List.setIfInBounds_toArray, List.set_cons_zero, List.set_cons_succ])
  refine wpAnyH_done (by kernel_rfl) ?_ _
  have HB3 := Lib.hid (bel_step HB2.out hS3)
  have HR3 := Lib.hid (rd_keep hS3 HR2.out)
  clear hHeld2 hS3
  go_wp2
  have ROW := Lib.hid (row_alloc w3 #[.int .i64 most, .int .i64 (most.tmod 300), .int .i64 300] 3)
  have HRA := Lib.hid (rd_keep ((Below.refl w3.heap.size w3).alloc (Nat.le_refl _) (.cells #[.int .i64 most, .int .i64 (most.tmod 300), .int .i64 300] 3)) HR3.out)
  have HBA := Lib.hid (bel_alloc HB3.out (.cells #[.int .i64 most, .int .i64 (most.tmod 300), .int .i64 300] 3))
  have HXX := Lib.hid (HB.out.1)
  go_loopw [85] (fun i wr => ∃ k : Nat, k ≤ 3 ∧ i = .int .i64 k ∧ Below (w3.alloc (.cells #[.int .i64 most, .int .i64 (most.tmod 300), .int .i64 300] 3)).heap.size (w3.alloc (.cells #[.int .i64 most, .int .i64 (most.tmod 300), .int .i64 300] 3)) wr) (fun i _ => 3 - (intOf i).toNat)
  case atStart => exact ⟨0, by omega, rfl, Below.refl _ _⟩
  case round =>
    obtain ⟨k, hk, rfl, hbr⟩ := hrel
    have HBR := Lib.hid hbr
    have HRr := Lib.hid (rd_keep hbr HRA.out)
    have hrow := row_step ROW.out hbr
    by_cases hlt : k < 3
    · obtain ⟨m, hm⟩ : ∃ m : Int, (#[.int .i64 most, .int .i64 (most.tmod 300), .int .i64 300] : Array Value)[k]? = some (.int .i64 m) := by
        have h3 : k = 0 ∨ k = 1 ∨ k = 2 := by omega
        rcases h3 with rfl | rfl | rfl
        · exact ⟨_, rfl⟩
        · exact ⟨_, rfl⟩
        · exact ⟨_, rfl⟩
      have hc : wr.cell? ⟨w3.heap.size, k, none⟩ = some (.int .i64 m) := (row_cell hrow k).trans hm
      clear hm hrow hbr
      by_cases hsm : (s.size : Int) ≤ m
      · have HPT := Lib.hid (fun w (h : RdB w (some ad) l c X) => putText_yes w (some ad) l c X s m h (by omega) (by omega) hsm)
        have HRPT := Lib.hid (fun w (h : RdB w (some ad) l l X) => rputText_yes w w (some ad) l l X s m (in_of_rd h) (by omega) (by omega) hsm)
        obtain ⟨L2, hL2⟩ : ∃ L2, l + 2 + s.size = L2 := ⟨_, rfl⟩
        obtain ⟨Z, hZ⟩ : ∃ Z, X ++ beI s.size 2 ++ strIs s = Z := ⟨_, rfl⟩
        have hL2a : l + 2 ≤ L2 := by omega
        have hL2b : L2 ≤ 500 := by omega
        have HTAIL := Lib.hid (tail_text X s l Z L2 HXX.out hZ hL2)
        rw [hL2, hZ] at HPT HRPT
        have hne2 : ((2 + (s.size : Int)) != (s.size : Int) + 2) = false := by simp; omega
        obtain ⟨st, hst⟩ : ∃ st, strB Z = st := ⟨_, rfl⟩
        obtain ⟨T, hT⟩ : ∃ T, txS X l m = T := ⟨_, rfl⟩
        obtain ⟨N, hN⟩ : ∃ N, txN X l m = N := ⟨_, rfl⟩
        obtain ⟨E, hE⟩ : ∃ E, txE X l m = E := ⟨_, rfl⟩
        have HT1 := Lib.hid (fun w (h : RdB w (some ad) l c X) => readText_tot w (some ad) l c X m h HX.out)
        have HT2 := Lib.hid (fun w (h : RdB w (some ad) l c X) => rreadText_tot w (some ad) l c X m h HX.out)
        rw [hT, hN, hE] at HT1 HT2
        have HSM := Lib.hid hsm
        have HST := Lib.hid hst
        clear hL2 hZ hT hN hE hst
        go_wp2_with fail
        go_at_call 22; refine (HPT.out _ HRr.out).mono ?_; rintro e w4 ⟨p4, c4, rfl, ho4⟩
        have HO4 := Lib.hid ho4
        have HR4 := Lib.hid (rd_keep (ow_bel ho4) HRr.out)
        obtain ⟨g4, f4, rfl⟩ := rd_full (rd_of_ow ho4) (by omega)
        have hc4 : L2 ≤ c4 := (rd_of_ow ho4).2.1
        have hc4n : ¬ (c4 = l) := by omega
        have hc4m : c4 ≤ 9223372036854775807 := by have h := (rd_of_ow ho4).2.2.1; unfold maxLen at h; omega
        clear ho4
        go_wp2_with fail
        go_at_call 23; refine (HRPT.out _ (HRT.out _ HR4.out)).mono ?_; rintro e w5 ⟨p5, c5, rfl, ho5⟩
        have HO5 := Lib.hid ho5
        have HR5 := Lib.hid (rd_keep (ow_bel ho5) HR4.out)
        have HBB := Lib.hid (bel_step (bel_step HBR.out (ow_bel HO4.out)) (ow_bel ho5))
        have HD := Lib.hid (rd_keep (ow_bel ho5) (rd_of_ow HO4.out))
        clear ho5
        go_wp2_with fail
        go_at_call 24; refine (HT1.out _ HR5.out).mono ?_; rintro e w6 ⟨rfl, rfl⟩
        go_wp2_with fail
        go_at_call 25; refine (HT2.out _ HR5.out).mono ?_; rintro e w6 ⟨rfl, rfl⟩
        have hcd := rd_string HD.out
        have hcx := rd_string (rd_of_ow HO5.out)
        rw [HST.out] at hcd hcx
        go_wp2_with fail
        go_at_call 24; refine (HTAIL.out _ _ _ _ m HD.out hc4n hs HSM.out).mono ?_; rintro e w6 ⟨rfl, rfl⟩
        go_wp2
        go_roundw
        case rel => exact ⟨k + 1, by omega, by go_num, HBB.out⟩
        case measure => simp [intOf]; omega
      · have HPT := Lib.hid (fun w => putText_no w (some ad) l c s m (by omega) (Or.inl (by omega)))
        have HRPT := Lib.hid (fun w => rputText_no w (some ad) l l s m (by omega) (Or.inl (by omega)))
        obtain ⟨T, hT⟩ : ∃ T, txS X l m = T := ⟨_, rfl⟩
        obtain ⟨N, hN⟩ : ∃ N, txN X l m = N := ⟨_, rfl⟩
        obtain ⟨E, hE⟩ : ∃ E, txE X l m = E := ⟨_, rfl⟩
        have HT1 := Lib.hid (fun w (h : RdB w (some ad) l c X) => readText_tot w (some ad) l c X m h HX.out)
        have HT2 := Lib.hid (fun w (h : RdB w (some ad) l c X) => rreadText_tot w (some ad) l c X m h HX.out)
        rw [hT, hN, hE] at HT1 HT2
        have hcn := rd_string (rd_nil wr)
        clear hT hN hE
        go_wp2_with fail
        go_at_call 22; refine (HPT.out _).mono ?_; rintro e w4 ⟨rfl, rfl⟩
        go_wp2_with fail
        go_at_call 23; refine (HRPT.out _).mono ?_; rintro e w5 ⟨rfl, rfl⟩
        go_wp2_with fail
        go_at_call 24; refine (HT1.out _ HRr.out).mono ?_; rintro e w6 ⟨rfl, rfl⟩
        go_wp2_with fail
        go_at_call 25; refine (HT2.out _ HRr.out).mono ?_; rintro e w6 ⟨rfl, rfl⟩
        go_wp2
        go_roundw
        case rel => exact ⟨k + 1, by omega, by go_num, HBR.out⟩
        case measure => simp [intOf]; omega
    · obtain rfl : k = 3 := by omega
      have HF := Lib.hid (bel_step HBA.out hbr)
      clear hrow hbr
      go_wp2
      go_ret
      exact ⟨rfl, HF.out⟩
end Num
end Go.Proofs.Ytahcgdjcjapnkaa
