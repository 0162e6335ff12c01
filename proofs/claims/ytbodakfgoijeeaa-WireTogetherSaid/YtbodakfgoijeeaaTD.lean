/-
  Lights; a slice of values that came in leads to trees.
-/
import Derived.Test.YtbodakfgoijeeaaVLt
namespace Go.Proofs.Ytbodakfgoijeeaa
open Go.RowKit Go.ChangeShapes Go.WideShapes
namespace Num
open Ints
set_option linter.unusedSimpArgs false
set_option linter.unusedVariables false
set_option maxHeartbeats 1000000 in
theorem lights_any (n : Nat) (p : Option Addr) (l c : Nat) (L : List (VT (n + 1))) (w : World) (h : RepL w (Rep w (n + 1)) p l c L) :
    Calls Try.prog 11 #[.slice p l c] w fun e w' => e = .returned (.bool (decide (l ≤ 40) && L.all (lightT (n + 1)))) ∧ Below w.heap.size w w' := by
  obtain ⟨hl, hlc, hcm, hel⟩ := h
  unfold maxLen at hcm
  have HL := Lib.hid hl
  have HE := Lib.hid hel
  clear hl hel
  by_cases h40 : l ≤ 40
  · have HH := Lib.hid (show ∀ b, b = L.all (lightT (n + 1)) → Ending.returned (.bool b) = .returned (.bool (decide (l ≤ 40) && L.all (lightT (n + 1)))) from fun b hb => by rw [hb]; simp [h40])
    go_enter Try.func11, Try.ntmps11
    go_wp2
    go_loopw [3] (fun i wr => ∃ k : Nat, k ≤ l ∧ i = .int .i64 k ∧ Below w.heap.size w wr ∧ Hid ((L.take k).all (lightT (n + 1)) = true)) (fun i _ => l - (intOf i).toNat)
    case atStart => exact ⟨0, by omega, rfl, Below.refl _ _, Lib.hid rfl⟩
    case round =>
      obtain ⟨k, hk, rfl, hB, HK⟩ := hrel
      have GB := Lib.hid hB
      by_cases hlt : k < l
      · obtain ⟨b, off, hp, hi⟩ := HE.out (by omega)
        subst hp
        have hkl : k < L.length := by have := HL.out; omega
        obtain ⟨v0, v1, v2, v3, v4, c0, c1, c2, c3, c4, hr⟩ := hi k hkl
        have HR := Lib.hid (rep_keep hB _ _ _ hr)
        have e0 := cell_keep hB c0
        have e1 := cell_keep hB c1
        have e2 := cell_keep hB c2
        have e3 := cell_keep hB c3
        have e4 := cell_keep hB c4
        have Htake : Hid _ := Lib.hid (show (L.take (k + 1)).all (lightT (n + 1)) = ((L.take k).all (lightT (n + 1)) && lightT (n + 1) L[k]) by rw [List.take_succ_eq_append_getElem hkl, List.all_append]; simp)
        have Hall : Hid _ := Lib.hid (show lightT (n + 1) L[k] = false → false = L.all (lightT (n + 1)) from fun h => (List.all_eq_false.2 ⟨L[k], List.getElem_mem hkl, by rw [h]; simp⟩).symm)
        clear c0 c1 c2 c3 c4 hr hi hB
        cases hd : lightT (n + 1) L[k]
        · have HF := Lib.hid (HH.out false (Hall.out hd))
          clear Htake Hall HK HH
          go_wp2_with fail
          go_at_call 6; refine (light_any _ _ _ _ HR.out).mono ?_; rintro e w1 ⟨rfl, hb1⟩
          have GB1 := Lib.hid (bel_step GB.out hb1)
          clear hb1 e0 e1 e2 e3 e4 GB HR
          go_wp2
          go_ret
          exact ⟨HF.out, GB1.out⟩
        · have HN := Lib.hid (show (L.take (k + 1)).all (lightT (n + 1)) = true by rw [Htake.out, HK.out, hd]; rfl)
          clear Htake Hall HK
          go_wp2_with fail
          go_at_call 6; refine (light_any _ _ _ _ HR.out).mono ?_; rintro e w1 ⟨rfl, hb1⟩
          have GB1 := Lib.hid (bel_step GB.out hb1)
          clear hb1 e0 e1 e2 e3 e4 GB HR
          go_wp2
          go_roundw
          case rel => exact ⟨k + 1, by omega, by go_num, GB1.out, HN⟩
          case measure => simp [intOf]; omega
      · have HF := Lib.hid (HH.out true (by
          have e : L.take k = L := List.take_of_length_le (by have : L.length = l := HL.out; omega)
          rw [← HK.out, e]))
        clear hB HK HH
        go_wp2
        go_ret
        exact ⟨HF.out, GB.out⟩
  · have HF := Lib.hid (show Ending.returned (.bool false) = .returned (.bool (decide (l ≤ 40) && L.all (lightT (n + 1)))) by simp [h40])
    have h40' : 40 < l := by omega
    go_enter Try.func11, Try.ntmps11
    go_wp2
    go_ret
    exact ⟨HF.out, Below.refl _ _⟩
section
variable {H : Type} {enc : TypeId × Value → H} {w : World} {base : Nat} {spare : Nat → Bool} {held : Bool}
theorem repL_of_trod (n fuel : Nat) (hf : fuel ≤ 2 * n + 1) (p : Option Addr) (l c : Nat) (x : DataW H × List MemPlace) (h : DataW.trod enc Try.prog w base spare held fuel 24 [.slice p l c] = some x) : ∃ L : List (VT n), RepL w (Rep w n) p l c L := by
  rcases DataW.trod_slice Try.underlying24 h with ⟨hc, _⟩ | ⟨a, len, cap, elems, rest, g, rfl, hc, _, hb, hl, hm, hlen, hel, _, _⟩
  · simp only [List.cons.injEq, Value.slice.injEq, and_true] at hc
    obtain ⟨rfl, rfl, rfl⟩ := hc
    exact ⟨[], rfl, Nat.le_refl _, Nat.zero_le _, fun h => absurd h (Nat.lt_irrefl _)⟩
  · simp only [List.cons.injEq, Value.slice.injEq, and_true] at hc
    obtain ⟨rfl, rfl, rfl⟩ := hc
    rw [cells5] at hel
    have one : ∀ i, i < l → ∃ cs', w.cells? base (a.add (i * 5)) 5 = some cs' ∧ ∃ T : VT n, Rep w n (.agg cs'.toArray) T := by
      intro i hi
      have := hel i hi
      rw [List.getElem?_eq_getElem (by omega)] at this
      obtain ⟨cs', h1, h2⟩ := Option.bind_eq_some_iff.1 this
      exact ⟨cs', h1, rep_of_trod n g (by omega) cs' _ h2⟩
    obtain ⟨b, off, spot⟩ := a
    by_cases hl0 : 0 < l
    · have hspot : spot = none := by
        obtain ⟨cs', h1, _⟩ := one 0 hl0
        obtain ⟨_, _, h3⟩ := World.cells?_some h1
        have h30 := h3 0 (by omega)
        simp only [Nat.zero_mul, Addr.add, if_true] at h30
        cases hs : spot with
        | none => rfl
        | some z =>
          rw [hs] at h30
          simp [World.cell?] at h30
          split at h30 <;> simp_all
      subst hspot
      obtain ⟨L, hL, hE⟩ := list_of (P := fun i (T : VT n) => ∃ v0 v1 v2 v3 v4,
        w.cell? ⟨b, off + i * 5, none⟩ = some v0 ∧ w.cell? ⟨b, off + i * 5 + 1, none⟩ = some v1 ∧ w.cell? ⟨b, off + i * 5 + 2, none⟩ = some v2 ∧
        w.cell? ⟨b, off + i * 5 + 3, none⟩ = some v3 ∧ w.cell? ⟨b, off + i * 5 + 4, none⟩ = some v4 ∧ Rep w n (.agg #[v0, v1, v2, v3, v4]) T) l (fun i hi => by
          obtain ⟨cs', h1, T, hT⟩ := one i hi
          obtain ⟨_, h2, h3⟩ := World.cells?_some h1
          match cs', h2 with
          | [v0, v1, v2, v3, v4], _ =>
            have a0 := h3 0 (by omega)
            have a1 := h3 1 (by omega)
            have a2 := h3 2 (by omega)
            have a3 := h3 3 (by omega)
            have a4 := h3 4 (by omega)
            have e : (Addr.add ⟨b, off, none⟩ (i * 5)) = ⟨b, off + i * 5, none⟩ := by
              unfold Addr.add; split <;> simp_all
            rw [e] at a0 a1 a2 a3 a4
            simp [Addr.add] at a0 a1 a2 a3 a4
            exact ⟨T, v0, v1, v2, v3, v4, a0, a1, a2, a3, a4, hT⟩)
      exact ⟨L, hL, hl, hm, fun _ => ⟨b, off, rfl, hE⟩⟩
    · obtain rfl : l = 0 := by omega
      exact ⟨[], rfl, hl, hm, fun h => absurd h hl0⟩
set_option maxRecDepth 100000 in
theorem repL_of_Trod {v : Value} {d : DataW H} {ps : List MemPlace} {b0 : Nat} (h : DataW.Trod enc Try.prog w base spare held 24 v d ps) (ho : Value.okWide Try.prog w .any b0 24 v) :
    ∃ (n : Nat) (p : Option Addr) (l c : Nat) (L : List (VT (n + 1))), v = .slice p l c ∧ RepL w (Rep w (n + 1)) p l c L := by
  obtain ⟨p, l, c, rfl⟩ := okWide_slice Try.underlying24 ho
  obtain ⟨fuel, hf⟩ := h
  obtain ⟨L, hL⟩ := repL_of_trod (fuel + 1) fuel (by omega) p l c _ (by simpa [Value.cells] using hf)
  exact ⟨fuel, p, l, c, L, rfl, hL⟩
end
end Num
end Go.Proofs.Ytbodakfgoijeeaa
