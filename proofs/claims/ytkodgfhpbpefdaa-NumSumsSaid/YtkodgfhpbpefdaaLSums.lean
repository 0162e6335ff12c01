/-
  NumSums: sums go from the left, the first error is told; signs and finiteness of each: the call returns true at any list.
-/
import Derived.Test.YtkodgfhpbpefdaaRefFin
import Derived.Test.YtkodgfhpbpefdaaTreeL
import Derived.Deep.RegionHeld3
namespace Go.Proofs.Ytkodgfhpbpefdaa
open Go.RowKit
namespace Num
open Ints
set_option linter.unusedSimpArgs false
set_option linter.unusedVariables false
set_option maxHeartbeats 1000000 in
theorem lights_any (n : Nat) (p : Option Addr) (l c : Nat) (L : List (VT (n + 1))) (w : World) (h : RepL w (Rep w (n + 1)) p l c L) :
    Calls Try.prog 19 #[.slice p l c] w fun e w' => e = .returned (.bool (decide (l ≤ 40) && L.all (lightT (n + 1)))) ∧ Below w.heap.size w w' := by
  obtain ⟨hl, hlc, hcm, hel⟩ := h
  unfold maxLen at hcm
  have HL := Lib.hid hl
  have HE := Lib.hid hel
  clear hl hel
  by_cases h40 : l ≤ 40
  · have HH := Lib.hid (show ∀ b, b = L.all (lightT (n + 1)) → Ending.returned (.bool b) = .returned (.bool (decide (l ≤ 40) && L.all (lightT (n + 1)))) from fun b hb => by rw [hb]; simp [h40])
    go_enter Try.func19, Try.ntmps19
    go_wp2
    go_loopw [3] (fun i wr => ∃ k : Nat, k ≤ l ∧ i = .int .i64 k ∧ Below w.heap.size w wr ∧ Hid ((L.take k).all (lightT (n + 1)) = true)) (fun i _ => l - (intOf i).toNat)
    case atStart => exact ⟨0, by omega, rfl, Below.refl _ _, Lib.hid rfl⟩
    case round =>
      obtain ⟨k, hk, rfl, hB, HK⟩ := hrel
      have GB := Lib.hid hB
      by_cases hlt : k < l
      · obtain ⟨b, off, hp, hi⟩ := HE.out (by omega)
        subst hp
        have hkl : k < L.length := by have := HL.out; omega
        obtain ⟨v0, v1, v2, v3, v4, c0, c1, c2, c3, c4, hr⟩ := hi k hkl
        have HR := Lib.hid (rep_keep hB _ _ _ hr)
        have e0 := cell_keep hB c0
        have e1 := cell_keep hB c1
        have e2 := cell_keep hB c2
        have e3 := cell_keep hB c3
        have e4 := cell_keep hB c4
        have Htake : Hid _ := Lib.hid (show (L.take (k + 1)).all (lightT (n + 1)) = ((L.take k).all (lightT (n + 1)) && lightT (n + 1) L[k]) by rw [List.take_succ_eq_append_getElem hkl, List.all_append]; simp)
        have Hall : Hid _ := Lib.hid (show lightT (n + 1) L[k] = false → false = L.all (lightT (n + 1)) from fun h => (List.all_eq_false.2 ⟨L[k], List.getElem_mem hkl, by rw [h]; simp⟩).symm)
        clear c0 c1 c2 c3 c4 hr hi hB
        cases hd : lightT (n + 1) L[k]
        · have HF := Lib.hid (HH.out false (Hall.out hd))
          clear Htake Hall HK HH
          go_wp2_with fail
          go_at_call 11; refine (light_any _ _ _ _ HR.out).mono ?_; rintro e w1 ⟨rfl, hb1⟩
          have GB1 := Lib.hid (bel_step GB.out hb1)
          clear hb1 e0 e1 e2 e3 e4 GB HR
          go_wp2
          go_ret
          exact ⟨HF.out, GB1.out⟩
        · have HN := Lib.hid (show (L.take (k + 1)).all (lightT (n + 1)) = true by rw [Htake.out, HK.out, hd]; rfl)
          clear Htake Hall HK
          go_wp2_with fail
          go_at_call 11; refine (light_any _ _ _ _ HR.out).mono ?_; rintro e w1 ⟨rfl, hb1⟩
          have GB1 := Lib.hid (bel_step GB.out hb1)
          clear hb1 e0 e1 e2 e3 e4 GB HR
          go_wp2
          go_roundw
          case rel => exact ⟨k + 1, by omega, by go_num, GB1.out, HN⟩
          case measure => simp [intOf]; omega
      · have HF := Lib.hid (HH.out true (by
          have e : L.take k = L := List.take_of_length_le (by have : L.length = l := HL.out; omega)
          rw [← HK.out, e]))
        clear hB HK HH
        go_wp2
        go_ret
        exact ⟨HF.out, GB.out⟩
  · have HF := Lib.hid (show Ending.returned (.bool false) = .returned (.bool (decide (l ≤ 40) && L.all (lightT (n + 1)))) by simp [h40])
    have h40' : 40 < l := by omega
    go_enter Try.func19, Try.ntmps19
    go_wp2
    go_ret
    exact ⟨HF.out, Below.refl _ _⟩
theorem number_ref_b (K I : Int) (F : Nat) (S : ByteArray) (p : Option Addr) (l c : Nat) (w : World) {b : Bool} (h : isNum K = b) : Calls Try.prog 25 #[.agg #[.int .i64 K, .int .i64 I, .float .f64 F, .string S, .slice p l c]] w fun e w' => e = .returned (.bool b) ∧ Below w.heap.size w w' := by
  rw [← h]; exact number_ref_any K I F S p l c w
theorem fin_num {K : Int} {F : Nat} (h : isNum K = false) : finV K F = false := by
  unfold isNum at h
  rw [Bool.or_eq_false_iff] at h
  unfold finV
  rw [h.2, h.1]; rfl
set_option maxHeartbeats 8000000 in
theorem numSums_calls (n : Nat) (p : Option Addr) (l c : Nat) (L : List (VT (n + 1))) (w : World) (h : RepL w (Rep w (n + 1)) p l c L) :
    Calls Try.prog 5 #[.slice p l c] w fun e w' => e = .returned (.bool true) ∧ Below w.heap.size w w' := by
  have HR := Lib.hid h
  obtain ⟨hl, hlc, hcm, hel⟩ := h
  unfold maxLen at hcm
  have HL := Lib.hid hl
  have HE := Lib.hid hel
  clear hl hel
  obtain ⟨⟨A, N, D, E⟩, g⟩ : ∃ q, q = sumV (1, 0, 0) L := ⟨_, rfl⟩
  have G := Lib.hid g.symm
  clear g
  cases hlt : (decide (l ≤ 40) && L.all (lightT (n + 1)))
  · 
    go_enter Try.func5, Try.ntmps5
    go_wp2_with fail
    go_at_call 10; refine (known_any _).mono ?_; rintro e w0 ⟨rfl, hb0⟩
    have P1 := Lib.hid (repL_keep hb0 (rep_keep hb0 (n + 1)) HR.out)
    go_wp2_with fail
    go_at_call 19; refine (lights_any _ _ _ _ _ _ P1.out).mono ?_; rintro e w1 ⟨rfl, hb1⟩
    have GB := Lib.hid (bel_step hb0 hb1)
    clear hb0 hb1 P1
    go_wp2
    go_ret
    exact ⟨rfl, GB.out⟩
  · 
    go_enter Try.func5, Try.ntmps5
    go_wp2_with fail
    go_at_call 10; refine (known_any _).mono ?_; rintro e w0 ⟨rfl, hb0⟩
    have P1 := Lib.hid (repL_keep hb0 (rep_keep hb0 (n + 1)) HR.out)
    go_wp2_with fail
    go_at_call 19; refine (lights_any _ _ _ _ _ _ P1.out).mono ?_; rintro e w1 ⟨rfl, hb1⟩
    have P2 := Lib.hid (repL_keep hb1 (rep_keep hb1 (n + 1)) P1.out)
    have GB := Lib.hid (bel_step hb0 hb1)
    clear hb0 hb1 P1
    go_wp2_with fail
    go_at_call 20; refine (sum_any _ _ _ _ _ _ P2.out G.out).mono ?_; rintro e w2 ⟨rfl, hb2⟩
    have R3 := Lib.hid (row_alloc w2 #[.int .i64 A, .int .i64 N, .float .f64 D, .string ⟨#[]⟩, .slice none 0 0] 25)
    have P3 := Lib.hid (repL_keep (bel_alloc hb2 (.cells #[.int .i64 A, .int .i64 N, .float .f64 D, .string ⟨#[]⟩, .slice none 0 0] 25)) (rep_keep (bel_alloc hb2 (.cells #[.int .i64 A, .int .i64 N, .float .f64 D, .string ⟨#[]⟩, .slice none 0 0] 25)) (n + 1)) P2.out)
    have GB2 := Lib.hid (bel_alloc (bel_step GB.out hb2) (.cells #[.int .i64 A, .int .i64 N, .float .f64 D, .string ⟨#[]⟩, .slice none 0 0] 25))
    clear hb2 P2 GB
    go_wp2_with fail
    go_at_call 21; refine (refSum_any _ _ _ _ _ _ P3.out G.out).mono ?_; rintro e w3 ⟨rfl, hb3⟩
    have rx := row_step R3.out hb3
    have lx := row_lt rx
    have nx : w3.heap.size ≠ w2.heap.size := by omega
    have GB3 := Lib.hid (bel_alloc (bel_step GB2.out hb3) (.cells #[.int .i64 A, .int .i64 N, .float .f64 D, .string ⟨#[]⟩, .slice none 0 0] 25))
    have x0 := row_cell rx 0
    have x1 := row_cell rx 1
    have x2 := row_cell rx 2
    have x3 := row_cell rx 3
    have x4 := row_cell rx 4
    simp only [List.getElem?_toArray, List.getElem?_cons_zero, List.getElem?_cons_succ] at x0 x1 x2 x3 x4
    clear hb3 R3 GB2 rx P3
    go_wp2_with fail
    go_at_call 14; refine (same_shallow _ _ _ _).mono ?_; rintro e w4 ⟨rfl, hb4⟩
    have GB4 := Lib.hid (bel_step GB3.out hb4)
    clear hb4 GB3 x0 x1 x2 x3 x4
    go_wp2
    go_loopw [7] (fun i wr => ∃ k : Nat, k ≤ l ∧ i = .int .i64 k ∧ Below w.heap.size w wr) (fun i _ => l - (intOf i).toNat)
    case atStart => exact ⟨0, by omega, rfl, GB4.out⟩
    case round =>
      obtain ⟨k, hk, rfl, hB⟩ := hrel
      have GB := Lib.hid hB
      clear GB4
      by_cases hkl : k < l
      · obtain ⟨b, off, hp, hi⟩ := HE.out (by omega)
        subst hp
        have hkL : k < L.length := by have := HL.out; omega
        obtain ⟨K', I', F', S', M, q, m, d, hx, c0, c1, c2, c3, c4, oK, oI, oF, hr⟩ := elem (c := 0) (l := 0) hi k hkL
        have e0 := cell_keep hB c0
        have e1 := cell_keep hB c1
        have e2 := cell_keep hB c2
        have e3 := cell_keep hB c3
        have e4 := cell_keep hB c4
        have lb : b < wr.heap.size := cell_lt e0
        have OF := Lib.hid oF
        have hk0 : (0 : Int) ≤ (k : Int) := by omega
        have hkl2 : (k : Int) < (l : Int) := by omega
        have hNum : isNum K' = false → finV K' F' = false := fin_num
        have HNum := Lib.hid hNum
        clear c0 c1 c2 c3 c4 hr hi hB hx oK oI oF hNum
        cases hn : isNum K'
        · have hfn := HNum.out hn
          go_wp2_with fail
          refine wp_region_held_drew (S := (fun w' => w'.cell? ⟨b, off + k * 5, none⟩ = some (.int .i64 K') ∧ w'.cell? ⟨b, off + k * 5 + 1, none⟩ = some (.int .i64 I') ∧ w'.cell? ⟨b, off + k * 5 + 2, none⟩ = some (.float .f64 F') ∧ w'.cell? ⟨b, off + k * 5 + 3, none⟩ = some (.string S') ∧ w'.cell? ⟨b, off + k * 5 + 4, none⟩ = some (.slice q m d) ∧ b < w'.heap.size)) (by kernel_rfl) ?_ (fun hHeld => ?_)
          · go_keep
          refine wpAnyH_take (i := 0) (oi := ?_) (v := ?_) ?hia0 (by kernel_rfl) ?hfa0 ?hra0 ?hQa0 ?hya0 (by assumption) ?resta0
          case hia0 => (simp only [List.getElem?_toArray, List.getElem?_cons_zero, List.getElem?_cons_succ]; rfl)
          case hfa0 => kernel_rfl
          case hra0 => kernel_rfl
          case hya0 => (refine Or.inl ⟨by rfl, ?_⟩; intro w hSw; (try dsimp only at hSw); go_simp; (try with_reducible rfl))
          case hQa0 => exact fun _ _ _ h => h
          (try simp only [Act.put, List.setIfInBounds_toArray, List.set_cons_zero, List.set_cons_succ])
          refine wpAnyH_take (i := 1) (oi := ?_) (v := ?_) ?hia1 (by kernel_rfl) ?hfa1 ?hra1 ?hQa1 ?hya1 (by assumption) ?resta1
          case hia1 => (simp only [List.getElem?_toArray, List.getElem?_cons_zero, List.getElem?_cons_succ]; rfl)
          case hfa1 => kernel_rfl
          case hra1 => kernel_rfl
          case hya1 => (refine Or.inl ⟨by rfl, ?_⟩; intro w hSw; (try dsimp only at hSw); go_simp; (try with_reducible rfl))
          case hQa1 => exact fun _ _ _ h => h
          (try simp only [Act.put, List.setIfInBounds_toArray, List.set_cons_zero, List.set_cons_succ])
          refine wpAnyH_take (i := 2) (oi := ?_) (v := ?_) ?hia2 (by kernel_rfl) ?hfa2 ?hra2 ?hQa2 ?hya2 (by assumption) ?resta2
          case hia2 => (simp only [List.getElem?_toArray, List.getElem?_cons_zero, List.getElem?_cons_succ]; rfl)
          case hfa2 => kernel_rfl
          case hra2 => kernel_rfl
          case hya2 => (refine Or.inl ⟨by rfl, ?_⟩; intro w hSw; (try dsimp only at hSw); go_simp; (try with_reducible rfl))
          case hQa2 => exact fun _ _ _ h => h
          (try simp only [Act.put, List.setIfInBounds_toArray, List.set_cons_zero, List.set_cons_succ])
          refine wpAnyH_take (i := 3) (oi := ?_) (v := ?_) ?hia3 (by kernel_rfl) ?hfa3 ?hra3 ?hQa3 ?hya3 (by assumption) ?resta3
          case hia3 => (simp only [List.getElem?_toArray, List.getElem?_cons_zero, List.getElem?_cons_succ]; rfl)
          case hfa3 => kernel_rfl
          case hra3 => kernel_rfl
          case hya3 => (refine Or.inl ⟨by rfl, ?_⟩; intro w hSw; (try dsimp only at hSw); go_simp; (try with_reducible rfl))
          case hQa3 => exact fun _ _ _ h => h
          (try simp only [Act.put, List.setIfInBounds_toArray, List.set_cons_zero, List.set_cons_succ])
          refine wpAnyH_take (i := 5) (oi := ?_) (v := ?_) ?hia5 (by kernel_rfl) ?hfa5 ?hra5 ?hQa5 ?hya5 (by assumption) ?resta5
          case hia5 => (simp only [List.getElem?_toArray, List.getElem?_cons_zero, List.getElem?_cons_succ]; rfl)
          case hfa5 => kernel_rfl
          case hra5 => kernel_rfl
          case hya5 => (refine Or.inl ⟨by rfl, ?_⟩; intro w hSw; (try dsimp only at hSw); go_simp; (try with_reducible rfl))
          case hQa5 => exact fun _ _ _ h => h
          (try simp only [Act.put, List.setIfInBounds_toArray, List.set_cons_zero, List.set_cons_succ])
          refine wpAnyH_take (i := 6) (oi := ?_) (v := ?_) ?hia6 (by kernel_rfl) ?hfa6 ?hra6 ?hQa6 ?hya6 (by assumption) ?resta6
          case hia6 => (simp only [List.getElem?_toArray, List.getElem?_cons_zero, List.getElem?_cons_succ]; rfl)
          case hfa6 => kernel_rfl
          case hra6 => kernel_rfl
          case hya6 => (refine Or.inl ⟨by rfl, ?_⟩; intro w hSw; (try dsimp only at hSw); go_simp; (try with_reducible rfl))
          case hQa6 => exact fun _ _ _ h => h
          (try simp only [Act.put, List.setIfInBounds_toArray, List.set_cons_zero, List.set_cons_succ])
          refine wpAnyH_take (i := 7) (oi := ?_) (v := ?_) ?hia7 (by kernel_rfl) ?hfa7 ?hra7 ?hQa7 ?hya7 (by assumption) ?resta7
          case hia7 => (simp only [List.getElem?_toArray, List.getElem?_cons_zero, List.getElem?_cons_succ]; rfl)
          case hfa7 => kernel_rfl
          case hra7 => kernel_rfl
          case hya7 => (refine Or.inl ⟨by rfl, ?_⟩; intro w hSw; (try dsimp only at hSw); go_simp; (try with_reducible rfl))
          case hQa7 => exact fun _ _ _ h => h
          (try simp only [Act.put, List.setIfInBounds_toArray, List.set_cons_zero, List.set_cons_succ])
          refine wpAnyH_take (i := 8) (oi := ?_) (v := ?_) ?hia8 (by kernel_rfl) ?hfa8 ?hra8 ?hQa8 ?hya8 (by assumption) ?resta8
          case hia8 => (simp only [List.getElem?_toArray, List.getElem?_cons_zero, List.getElem?_cons_succ]; rfl)
          case hfa8 => kernel_rfl
          case hra8 => kernel_rfl
          case hya8 => (refine Or.inl ⟨by rfl, ?_⟩; intro w hSw; (try dsimp only at hSw); go_simp; (try with_reducible rfl))
          case hQa8 => exact fun _ _ _ h => h
          (try simp only [Act.put, List.setIfInBounds_toArray, List.set_cons_zero, List.set_cons_succ])
          refine wpAnyH_ready (rs := [4]) (by kernel_rfl) (by simp) ?_
          refine AllReadyH.cons (o := ?_) ?hoa4 ?hsta4 AllReadyH.nil
          case hoa4 => (simp only [List.getElem?_toArray, List.getElem?_cons_zero, List.getElem?_cons_succ]; rfl)
          intro K hK
          go_simp
          go_at_call 22; refine (sign_any _ _ _ _ _ _ _ _).mono ?_; rintro e w' ⟨rfl, hb'⟩; obtain ⟨hc', _⟩ := bcell hb'; have z' := hb'.size; (try simp only [World.size_drew, World.cell?_drew, World.heap_drewN, World.cell?_drewN] at hc' z'); have z0 := Nat.lt_of_lt_of_le ‹b < _› z'
          go_wp2_with fail
          refine hK.out _ _ ?hsa4 (fun hHeld => ?_)
          case hsa4 => go_keep
          clear hK K
          (try simp only [Act.put, List.setIfInBounds_toArray, List.set_cons_zero, List.set_cons_succ])
          refine wpAnyH_ready (rs := [9]) (by kernel_rfl) (by simp) ?_
          refine AllReadyH.cons (o := ?_) ?hoa9 ?hsta9 AllReadyH.nil
          case hoa9 => (simp only [List.getElem?_toArray, List.getElem?_cons_zero, List.getElem?_cons_succ]; rfl)
          intro K hK
          go_simp
          go_at_call 23; refine (refSign_any _ _ _ _ _ _ _ _).mono ?_; rintro e w' ⟨rfl, hb'⟩; obtain ⟨hc', _⟩ := bcell hb'; have z' := hb'.size; (try simp only [World.size_drew, World.cell?_drew, World.heap_drewN, World.cell?_drewN] at hc' z'); have z0 := Nat.lt_of_lt_of_le ‹b < _› z'
          go_wp2_with fail
          refine hK.out _ _ ?hsa9 (fun hHeld => ?_)
          case hsa9 => go_keep
          clear hK K
          (try simp only [Act.put, List.setIfInBounds_toArray, List.set_cons_zero, List.set_cons_succ])
          refine wpAnyH_take (i := 10) (oi := ?_) (v := ?_) ?hia10 (by kernel_rfl) ?hfa10 ?hra10 ?hQa10 ?hya10 (by assumption) ?resta10
          case hia10 => (simp only [List.getElem?_toArray, List.getElem?_cons_zero, List.getElem?_cons_succ]; rfl)
          case hfa10 => kernel_rfl
          case hra10 => kernel_rfl
          case hya10 => (refine Or.inl ⟨by rfl, ?_⟩; intro w hSw; (try dsimp only at hSw); go_simp; (try with_reducible rfl))
          case hQa10 => exact fun _ _ _ h => h
          (try simp only [Act.put, List.setIfInBounds_toArray, List.set_cons_zero, List.set_cons_succ])
          refine wpAnyH_take (i := 11) (oi := ?_) (v := ?_) ?hia11 (by kernel_rfl) ?hfa11 ?hra11 ?hQa11 ?hya11 (by assumption) ?resta11
          case hia11 => (simp only [List.getElem?_toArray, List.getElem?_cons_zero, List.getElem?_cons_succ]; rfl)
          case hfa11 => kernel_rfl
          case hra11 => kernel_rfl
          case hya11 => (refine Or.inl ⟨by rfl, ?_⟩; intro w hSw; (try dsimp only at hSw); go_simp; (try with_reducible rfl))
          case hQa11 => exact fun _ _ _ h => h
          (try simp only [Act.put, List.setIfInBounds_toArray, List.set_cons_zero, List.set_cons_succ])
          refine wpAnyH_take (i := 12) (oi := ?_) (v := ?_) ?hia12 (by kernel_rfl) ?hfa12 ?hra12 ?hQa12 ?hya12 (by assumption) ?resta12
          case hia12 => (simp only [List.getElem?_toArray, List.getElem?_cons_zero, List.getElem?_cons_succ]; rfl)
          case hfa12 => kernel_rfl
          case hra12 => kernel_rfl
          case hya12 => (refine Or.inl ⟨by rfl, ?_⟩; intro w hSw; (try dsimp only at hSw); go_simp; (try with_reducible rfl))
          case hQa12 => exact fun _ _ _ h => h
          (try simp only [Act.put, List.setIfInBounds_toArray, List.set_cons_zero, List.set_cons_succ])
          refine wpAnyH_take (i := 13) (oi := ?_) (v := ?_) ?hia13 (by kernel_rfl) ?hfa13 ?hra13 ?hQa13 ?hya13 (by assumption) ?resta13
          case hia13 => (simp only [List.getElem?_toArray, List.getElem?_cons_zero, List.getElem?_cons_succ]; rfl)
          case hfa13 => kernel_rfl
          case hra13 => kernel_rfl
          case hya13 => (refine Or.inl ⟨by rfl, ?_⟩; intro w hSw; (try dsimp only at hSw); go_simp; (try with_reducible rfl))
          case hQa13 => exact fun _ _ _ h => h
          (try simp only [Act.put, List.setIfInBounds_toArray, List.set_cons_zero, List.set_cons_succ])
          refine wpAnyH_take (i := 14) (oi := ?_) (v := ?_) ?hia14 (by kernel_rfl) ?hfa14 ?hra14 ?hQa14 ?hya14 (by assumption) ?resta14
          case hia14 => (simp only [List.getElem?_toArray, List.getElem?_cons_zero, List.getElem?_cons_succ]; rfl)
          case hfa14 => kernel_rfl
          case hra14 => kernel_rfl
          case hya14 => (refine Or.inl ⟨by rfl, ?_⟩; intro w hSw; (try dsimp only at hSw); go_simp; (try with_reducible rfl))
          case hQa14 => exact fun _ _ _ h => h
          (try simp only [Act.put, List.setIfInBounds_toArray, List.set_cons_zero, List.set_cons_succ])
          refine wpAnyH_take (i := 15) (oi := ?_) (v := ?_) ?hia15 (by kernel_rfl) ?hfa15 ?hra15 ?hQa15 ?hya15 (by assumption) ?resta15
          case hia15 => (simp only [List.getElem?_toArray, List.getElem?_cons_zero, List.getElem?_cons_succ]; rfl)
          case hfa15 => kernel_rfl
          case hra15 => kernel_rfl
          case hya15 => (refine Or.inl ⟨by rfl, ?_⟩; intro w hSw; (try dsimp only at hSw); go_simp; (try with_reducible rfl))
          case hQa15 => exact fun _ _ _ h => h
          (try simp only [Act.put, List.setIfInBounds_toArray, List.set_cons_zero, List.set_cons_succ])
          refine wpAnyH_take (i := 17) (oi := ?_) (v := ?_) ?hia17 (by kernel_rfl) ?hfa17 ?hra17 ?hQa17 ?hya17 (by assumption) ?resta17
          case hia17 => (simp only [List.getElem?_toArray, List.getElem?_cons_zero, List.getElem?_cons_succ]; rfl)
          case hfa17 => kernel_rfl
          case hra17 => kernel_rfl
          case hya17 => (refine Or.inl ⟨by rfl, ?_⟩; intro w hSw; (try dsimp only at hSw); go_simp; (try with_reducible rfl))
          case hQa17 => exact fun _ _ _ h => h
          (try simp only [Act.put, List.setIfInBounds_toArray, List.set_cons_zero, List.set_cons_succ])
          refine wpAnyH_take (i := 18) (oi := ?_) (v := ?_) ?hia18 (by kernel_rfl) ?hfa18 ?hra18 ?hQa18 ?hya18 (by assumption) ?resta18
          case hia18 => (simp only [List.getElem?_toArray, List.getElem?_cons_zero, List.getElem?_cons_succ]; rfl)
          case hfa18 => kernel_rfl
          case hra18 => kernel_rfl
          case hya18 => (refine Or.inl ⟨by rfl, ?_⟩; intro w hSw; (try dsimp only at hSw); go_simp; (try with_reducible rfl))
          case hQa18 => exact fun _ _ _ h => h
          (try simp only [Act.put, List.setIfInBounds_toArray, List.set_cons_zero, List.set_cons_succ])
          refine wpAnyH_take (i := 19) (oi := ?_) (v := ?_) ?hia19 (by kernel_rfl) ?hfa19 ?hra19 ?hQa19 ?hya19 (by assumption) ?resta19
          case hia19 => (simp only [List.getElem?_toArray, List.getElem?_cons_zero, List.getElem?_cons_succ]; rfl)
          case hfa19 => kernel_rfl
          case hra19 => kernel_rfl
          case hya19 => (refine Or.inl ⟨by rfl, ?_⟩; intro w hSw; (try dsimp only at hSw); go_simp; (try with_reducible rfl))
          case hQa19 => exact fun _ _ _ h => h
          (try simp only [Act.put, List.setIfInBounds_toArray, List.set_cons_zero, List.set_cons_succ])
          refine wpAnyH_take (i := 20) (oi := ?_) (v := ?_) ?hia20 (by kernel_rfl) ?hfa20 ?hra20 ?hQa20 ?hya20 (by assumption) ?resta20
          case hia20 => (simp only [List.getElem?_toArray, List.getElem?_cons_zero, List.getElem?_cons_succ]; rfl)
          case hfa20 => kernel_rfl
          case hra20 => kernel_rfl
          case hya20 => (refine Or.inl ⟨by rfl, ?_⟩; intro w hSw; (try dsimp only at hSw); go_simp; (try with_reducible rfl))
          case hQa20 => exact fun _ _ _ h => h
          (try simp only [Act.put, List.setIfInBounds_toArray, List.set_cons_zero, List.set_cons_succ])
          refine wpAnyH_ready (rs := [16]) (by kernel_rfl) (by simp) ?_
          refine AllReadyH.cons (o := ?_) ?hoa16 ?hsta16 AllReadyH.nil
          case hoa16 => (simp only [List.getElem?_toArray, List.getElem?_cons_zero, List.getElem?_cons_succ]; rfl)
          intro K hK
          go_simp
          go_at_call 24; refine (finite_any _ _ _ _ _ _ _ OF.out _).mono ?_; rintro e w' ⟨rfl, hb'⟩; obtain ⟨hc', _⟩ := bcell hb'; have z' := hb'.size; (try simp only [World.size_drew, World.cell?_drew, World.heap_drewN, World.cell?_drewN] at hc' z'); have z0 := Nat.lt_of_lt_of_le ‹b < _› z'
          go_wp2_with fail
          refine hK.out _ _ ?hsa16 (fun hHeld => ?_)
          case hsa16 => go_keep
          clear hK K
          (try simp only [Act.put, List.setIfInBounds_toArray, List.set_cons_zero, List.set_cons_succ])
          refine wpAnyH_ready (rs := [21]) (by kernel_rfl) (by simp) ?_
          refine AllReadyH.cons (o := ?_) ?hoa21 ?hsta21 AllReadyH.nil
          case hoa21 => (simp only [List.getElem?_toArray, List.getElem?_cons_zero, List.getElem?_cons_succ]; rfl)
          intro K hK
          go_simp
          go_at_call 25; refine (number_ref_b _ _ _ _ _ _ _ _ hn).mono ?_; rintro e w' ⟨rfl, hb'⟩; obtain ⟨hc', _⟩ := bcell hb'; have z' := hb'.size; (try simp only [World.size_drew, World.cell?_drew, World.heap_drewN, World.cell?_drewN] at hc' z'); have z0 := Nat.lt_of_lt_of_le ‹b < _› z'
          go_wp2_with fail
          refine hK.out _ _ ?hsa21 (fun hHeld => ?_)
          case hsa21 => go_keep
          clear hK K
          (try simp only [Act.put, List.setIfInBounds_toArray, List.set_cons_zero, List.set_cons_succ])
          refine wpAnyH_take (i := 22) (oi := ?_) (v := ?_) ?hia22 (by kernel_rfl) ?hfa22 ?hra22 ?hQa22 ?hya22 (by assumption) ?resta22
          case hia22 => (simp only [List.getElem?_toArray, List.getElem?_cons_zero, List.getElem?_cons_succ]; rfl)
          case hfa22 => kernel_rfl
          case hra22 => kernel_rfl
          case hya22 => (refine Or.inl ⟨by rfl, ?_⟩; intro w hSw; (try dsimp only at hSw); go_simp; (try with_reducible rfl))
          case hQa22 => exact fun _ _ _ h => h
          (try simp only [Act.put, List.setIfInBounds_toArray, List.set_cons_zero, List.set_cons_succ])
          refine wpAnyH_take (i := 23) (oi := ?_) (v := undef) ?hia23 (by kernel_rfl) ?hfa23 ?hra23 ?hQa23 ?hya23 (by assumption) ?resta23
          case hia23 => (simp only [List.getElem?_toArray, List.getElem?_cons_zero, List.getElem?_cons_succ]; rfl)
          case hfa23 => kernel_rfl
          case hra23 => kernel_rfl
          case hya23 => exact Or.inr ⟨by rfl, rfl⟩
          case hQa23 => exact fun _ _ _ h => h
          (try simp only [Act.put, List.setIfInBounds_toArray, List.set_cons_zero, List.set_cons_succ])
          refine wpAnyH_take (i := 24) (oi := ?_) (v := undef) ?hia24 (by kernel_rfl) ?hfa24 ?hra24 ?hQa24 ?hya24 (by assumption) ?resta24
          case hia24 => (simp only [List.getElem?_toArray, List.getElem?_cons_zero, List.getElem?_cons_succ]; rfl)
          case hfa24 => kernel_rfl
          case hra24 => kernel_rfl
          case hya24 => exact Or.inr ⟨by rfl, rfl⟩
          case hQa24 => exact fun _ _ _ h => h
          (try simp only [Act.put, List.setIfInBounds_toArray, List.set_cons_zero, List.set_cons_succ])
          refine wpAnyH_take (i := 25) (oi := ?_) (v := undef) ?hia25 (by kernel_rfl) ?hfa25 ?hra25 ?hQa25 ?hya25 (by assumption) ?resta25
          case hia25 => (simp only [List.getElem?_toArray, List.getElem?_cons_zero, List.getElem?_cons_succ]; rfl)
          case hfa25 => kernel_rfl
          case hra25 => kernel_rfl
          case hya25 => exact Or.inr ⟨by rfl, rfl⟩
          case hQa25 => exact fun _ _ _ h => h
          (try simp only [Act.put, List.setIfInBounds_toArray, List.set_cons_zero, List.set_cons_succ])
          refine wpAnyH_take (i := 26) (oi := ?_) (v := undef) ?hia26 (by kernel_rfl) ?hfa26 ?hra26 ?hQa26 ?hya26 (by assumption) ?resta26
          case hia26 => (simp only [List.getElem?_toArray, List.getElem?_cons_zero, List.getElem?_cons_succ]; rfl)
          case hfa26 => kernel_rfl
          case hra26 => kernel_rfl
          case hya26 => exact Or.inr ⟨by rfl, rfl⟩
          case hQa26 => exact fun _ _ _ h => h
          (try simp only [Act.put, List.setIfInBounds_toArray, List.set_cons_zero, List.set_cons_succ])
          refine wpAnyH_take (i := 27) (oi := ?_) (v := undef) ?hia27 (by kernel_rfl) ?hfa27 ?hra27 ?hQa27 ?hya27 (by assumption) ?resta27
          case hia27 => (simp only [List.getElem?_toArray, List.getElem?_cons_zero, List.getElem?_cons_succ]; rfl)
          case hfa27 => kernel_rfl
          case hra27 => kernel_rfl
          case hya27 => exact Or.inr ⟨by rfl, rfl⟩
          case hQa27 => exact fun _ _ _ h => h
          (try simp only [Act.put, List.setIfInBounds_toArray, List.set_cons_zero, List.set_cons_succ])
          refine wpAnyH_take (i := 28) (oi := ?_) (v := ?_) ?hia28 (by kernel_rfl) ?hfa28 ?hra28 ?hQa28 ?hya28 (by assumption) ?resta28
          case hia28 => (simp only [List.getElem?_toArray, List.getElem?_cons_zero, List.getElem?_cons_succ]; rfl)
          case hfa28 => kernel_rfl
          case hra28 => kernel_rfl
          case hya28 => (refine Or.inl ⟨by rfl, ?_⟩; intro w hSw; (try dsimp only at hSw); go_simp; (try with_reducible rfl))
          case hQa28 => exact fun _ _ _ h => h
          (try simp only [Act.put, List.setIfInBounds_toArray, List.set_cons_zero, List.set_cons_succ])
          refine wpAnyH_take (i := 29) (oi := ?_) (v := ?_) ?hia29 (by kernel_rfl) ?hfa29 ?hra29 ?hQa29 ?hya29 (by assumption) ?resta29
          case hia29 => (simp only [List.getElem?_toArray, List.getElem?_cons_zero, List.getElem?_cons_succ]; rfl)
          case hfa29 => kernel_rfl
          case hra29 => kernel_rfl
          case hya29 => (refine Or.inl ⟨by rfl, ?_⟩; intro w hSw; (try dsimp only at hSw); go_simp; (try with_reducible rfl))
          case hQa29 => exact fun _ _ _ h => h
          (try simp only [Act.put, List.setIfInBounds_toArray, List.set_cons_zero, List.set_cons_succ])
          refine wpAnyH_take (i := 30) (oi := ?_) (v := ?_) ?hia30 (by kernel_rfl) ?hfa30 ?hra30 ?hQa30 ?hya30 (by assumption) ?resta30
          case hia30 => (simp only [List.getElem?_toArray, List.getElem?_cons_zero, List.getElem?_cons_succ]; rfl)
          case hfa30 => kernel_rfl
          case hra30 => kernel_rfl
          case hya30 => (refine Or.inl ⟨by rfl, ?_⟩; intro w hSw; (try dsimp only at hSw); go_simp; (try with_reducible rfl))
          case hQa30 => exact fun _ _ _ h => h
          (try simp only [Act.put, List.setIfInBounds_toArray, List.set_cons_zero, List.set_cons_succ])
          refine wpAnyH_done (by kernel_rfl) ?_ _
          all_goals
            go_wp2
            go_roundw
            case rel => exact ⟨k + 1, by omega, by go_num, by repeat (first | exact GB.out | refine bel_step ?_ (by assumption) | refine Below.drew ?_ | refine bel_drewN _ ?_)⟩
            case measure => simp [intOf]; omega
        · go_wp2_with fail
          go_region_held3 (fun w' => w'.cell? ⟨b, off + k * 5, none⟩ = some (.int .i64 K') ∧ w'.cell? ⟨b, off + k * 5 + 1, none⟩ = some (.int .i64 I') ∧ w'.cell? ⟨b, off + k * 5 + 2, none⟩ = some (.float .f64 F') ∧ w'.cell? ⟨b, off + k * 5 + 3, none⟩ = some (.string S') ∧ w'.cell? ⟨b, off + k * 5 + 4, none⟩ = some (.slice q m d) ∧ b < w'.heap.size) (go_keep) (first
            | (go_at_call 22; refine (sign_any _ _ _ _ _ _ _ _).mono ?_; rintro e w' ⟨rfl, hb'⟩; obtain ⟨hc', _⟩ := bcell hb'; have z' := hb'.size; (try simp only [World.size_drew, World.cell?_drew, World.heap_drewN, World.cell?_drewN] at hc' z'); have z0 := Nat.lt_of_lt_of_le ‹b < _› z')
            | (go_at_call 23; refine (refSign_any _ _ _ _ _ _ _ _).mono ?_; rintro e w' ⟨rfl, hb'⟩; obtain ⟨hc', _⟩ := bcell hb'; have z' := hb'.size; (try simp only [World.size_drew, World.cell?_drew, World.heap_drewN, World.cell?_drewN] at hc' z'); have z0 := Nat.lt_of_lt_of_le ‹b < _› z')
            | (go_at_call 24; refine (finite_any _ _ _ _ _ _ _ OF.out _).mono ?_; rintro e w' ⟨rfl, hb'⟩; obtain ⟨hc', _⟩ := bcell hb'; have z' := hb'.size; (try simp only [World.size_drew, World.cell?_drew, World.heap_drewN, World.cell?_drewN] at hc' z'); have z0 := Nat.lt_of_lt_of_le ‹b < _› z')
            | (go_at_call 25; refine (number_ref_b _ _ _ _ _ _ _ _ hn).mono ?_; rintro e w' ⟨rfl, hb'⟩; obtain ⟨hc', _⟩ := bcell hb'; have z' := hb'.size; (try simp only [World.size_drew, World.cell?_drew, World.heap_drewN, World.cell?_drewN] at hc' z'); have z0 := Nat.lt_of_lt_of_le ‹b < _› z')
            | (go_at_call 26; refine (refFinite_any _ _ _ _ _ _ _ _).mono ?_; rintro e w' ⟨rfl, hb'⟩; obtain ⟨hc', _⟩ := bcell hb'; have z' := hb'.size; (try simp only [World.size_drew, World.cell?_drew, World.heap_drewN, World.cell?_drewN] at hc' z'); have z0 := Nat.lt_of_lt_of_le ‹b < _› z'))
          all_goals
            go_wp2
            go_roundw
            case rel => exact ⟨k + 1, by omega, by go_num, by repeat (first | exact GB.out | refine bel_step ?_ (by assumption) | refine Below.drew ?_ | refine bel_drewN _ ?_)⟩
            case measure => simp [intOf]; omega
      · clear hB
        go_wp2
        go_ret
        exact ⟨rfl, GB.out⟩
theorem numSums_law {H : Type} {enc : TypeId × Value → H} {W : World} {v0 : Value} {d0 : DataW H} {p0 : List MemPlace} {b0 : Nat} (k0 : DataW.Trod enc Try.prog W 0 (fun _ => true) true 23 v0 d0 p0) (o0 : Value.okWide Try.prog W .any b0 23 v0) :
    Calls Try.prog 5 #[v0] W fun e w' => e = .returned (.bool true) ∧ Below W.heap.size W w' := by
  obtain ⟨n, p, l, c, L, rfl, h⟩ := repL_of_Trod k0 o0
  exact numSums_calls n p l c L W h
end Num
end Go.Proofs.Ytkodgfhpbpefdaa
