/-
  The reference's Deep; Light: which values may be asked.
-/
import Derived.Test.YtgeicgfijnabkaaDoorVDeep
namespace Go.Proofs.YtgeicgfijnabkaaDoor
open Go.RowKit
namespace Num
open Ints
set_option linter.unusedSimpArgs false
set_option linter.unusedVariables false
theorem deep_any : ∀ (n : Nat) (v : Value) (T : VT n) (m : Nat) (hm : m ≤ 1000) (w : World) (hr : Rep w n v T), Calls Tryd.prog 23 #[v, .int .i64 m] w fun e w' => e = .returned (.bool (deepT n T m)) ∧ Below w.heap.size w w' := by
  intro n
  induction n with
  | zero => intro v T m hm w h; exact h.elim
  | succ n ih =>
    intro v T m hm w hr
    have IH := Lib.hid ih
    clear ih
    obtain ⟨K, I, F, S, L⟩ := T
    obtain ⟨p, l, c, rfl, _, _, _, _, hl, hlc, hcm, hel⟩ := hr
    unfold maxLen at hcm
    cases h1 : (K == 4)
    · have H := Lib.hid (show Ending.returned (.bool false) = .returned (.bool (deepT (n + 1) (K, I, F, S, L) m)) by rw [deepT_not h1])
      have h1' : (K != 4) = true := by rw [bne, h1]; rfl
      clear hel hl
      go_enter Tryd.func23, Tryd.ntmps23
      go_wp2
      go_ret
      exact ⟨H.out, (Below.refl _ _).alloc (Nat.le_refl _) _⟩
    have h1' : (K != 4) = false := by rw [bne, h1]; rfl
    cases m with
    | zero =>
      have H := Lib.hid (show Ending.returned (.bool true) = .returned (.bool (deepT (n + 1) (K, I, F, S, L) 0)) by rw [deepT_zero h1])
      clear hel hl
      go_enter Tryd.func23, Tryd.ntmps23
      go_wp2
      go_ret
      exact ⟨H.out, (Below.refl _ _).alloc (Nat.le_refl _) _⟩
    | succ m =>
      have H0 := Lib.hid (deepT_succ (n := n) (I := I) (F := F) (S := S) (L := L) (m := m) h1)
      have hm0 : (((m + 1 : Nat) : Int) == 0) = false := by simp; omega
      have HL := Lib.hid hl
      have HE := Lib.hid hel
      clear hl hel
      go_enter Tryd.func23, Tryd.ntmps23
      go_wp2
      have RS0 := row_alloc w #[.int .i64 K, .int .i64 I, .float .f64 F, .string S, .slice p l c] 25
      go_loopw [5] (fun i wr => ∃ k : Nat, k ≤ l ∧ i = .int .i64 k ∧ Below w.heap.size w wr ∧ wr.heap[w.heap.size]? = some (.cells #[.int .i64 K, .int .i64 I, .float .f64 F, .string S, .slice p l c] 25 (0, 0)) ∧ Hid ((L.take k).any (fun x => deepT n x m) = false)) (fun i _ => l - (intOf i).toNat)
      case atStart => exact ⟨0, by omega, rfl, (Below.refl _ _).alloc (Nat.le_refl _) _, RS0, Lib.hid rfl⟩
      case round =>
        obtain ⟨k, hk, rfl, hB, RS, HK⟩ := hrel
        clear RS0
        have s0 := row_cell RS 4
        simp only [List.getElem?_toArray, List.getElem?_cons_zero, List.getElem?_cons_succ] at s0
        have HB := Lib.hid hB
        have HRS := Lib.hid RS
        by_cases hlt : k < l
        · obtain ⟨b, off, hp, hi⟩ := HE.out (by omega)
          subst hp
          have hkl : k < L.length := by have := HL.out; simpa using (this.symm ▸ hlt)
          obtain ⟨v0, v1, v2, v3, v4, c0, c1, c2, c3, c4, hr⟩ := hi k hkl
          have hr' := rep_keep hB n _ _ hr
          have e0 := cell_keep hB c0
          have e1 := cell_keep hB c1
          have e2 := cell_keep hB c2
          have e3 := cell_keep hB c3
          have e4 := cell_keep hB c4
          clear c0 c1 c2 c3 c4 hr hi hB RS
          have HR := Lib.hid hr'
          clear hr'
          have Htake : Hid _ := Lib.hid (show (L.take (k + 1)).any (fun x => deepT n x m) = ((L.take k).any (fun x => deepT n x m) || deepT n L[k] m) by rw [List.take_succ_eq_append_getElem hkl, List.any_append]; simp)
          have Hany : Hid _ := Lib.hid (show deepT n L[k] m = true → (L.any fun x => deepT n x m) = true from fun h => List.any_eq_true.2 ⟨L[k], List.getElem_mem hkl, h⟩)
          cases hd : deepT n L[k] m
          · have HN := Lib.hid (show (L.take (k + 1)).any (fun x => deepT n x m) = false by rw [Htake.out, HK.out, hd]; rfl)
            clear Htake Hany HK
            go_wp2_with fail
            go_at_call 23; refine (IH.out _ _ _ (by omega) _ HR.out).mono ?_; rintro e w1 ⟨rfl, hb1⟩
            have HB1 := Lib.hid (bel_step HB.out hb1)
            have HR1 := Lib.hid (row_step HRS.out hb1)
            clear hb1 e0 e1 e2 e3 e4 HB HRS s0 HR
            go_wp2
            go_roundw
            case rel => exact ⟨k + 1, by omega, by go_num, HB1.out, HR1.out, HN⟩
            case measure => simp [intOf]; omega
          · have H1 := Lib.hid (show Ending.returned (.bool true) = .returned (.bool (deepT (n + 1) (K, I, F, S, L) (m + 1))) by rw [H0.out, Hany.out hd])
            clear Htake Hany HK
            go_wp2_with fail
            go_at_call 23; refine (IH.out _ _ _ (by omega) _ HR.out).mono ?_; rintro e w1 ⟨rfl, hb1⟩
            have HB1 := Lib.hid (bel_step HB.out hb1)
            clear hb1 e0 e1 e2 e3 e4 HB HRS s0 HR
            go_wp2
            go_ret
            exact ⟨H1.out, HB1.out⟩
        · have H1 := Lib.hid (show Ending.returned (.bool false) = .returned (.bool (deepT (n + 1) (K, I, F, S, L) (m + 1))) by
            have e : L.take k = L := List.take_of_length_le (by have : L.length = l := HL.out; omega)
            have h2 := HK.out
            rw [e] at h2
            rw [H0.out, h2])
          clear HK hB RS
          go_wp2
          go_ret
          exact ⟨H1.out, HB.out⟩

def lightT (n : Nat) (T : VT n) : Bool := !deepT n T 20 && decide (sizeT n T ≤ 6000)
theorem light_any (n : Nat) (v : Value) (T : VT n) (w : World) (hr : Rep w n v T) : Calls Tryd.prog 8 #[v] w fun e w' => e = .returned (.bool (lightT n T)) ∧ Below w.heap.size w w' := by
  have HR := Lib.hid hr
  cases n with
  | zero => exact hr.elim
  | succ n =>
    obtain ⟨K, I, F, S, L⟩ := T
    obtain ⟨p, l, c, rfl, _, _, _, _, _⟩ := hr
    have R1 := Lib.hid (rep_keep ((Below.refl w.heap.size w).alloc (Nat.le_refl _) (.cells #[.int .i64 K, .int .i64 I, .float .f64 F, .string S, .slice p l c] 25)) _ _ _ HR.out)
    cases hd : deepT (n + 1) (K, I, F, S, L) 20
    · have H := Lib.hid (show Ending.returned (.bool (decide (sizeT (n + 1) (K, I, F, S, L) ≤ 6000))) = .returned (.bool (lightT (n + 1) (K, I, F, S, L))) by unfold lightT; rw [hd]; rfl)
      go_enter Tryd.func8, Tryd.ntmps8
      go_wp2_with fail
      go_at_call 23; refine (deep_any _ _ _ 20 (by omega) _ R1.out).mono ?_; rintro e w1 ⟨rfl, hb1⟩
      have RS := row_step (row_alloc w #[.int .i64 K, .int .i64 I, .float .f64 F, .string S, .slice p l c] 25) hb1
      have c0 := row_cell RS 0
      have c1 := row_cell RS 1
      have c2 := row_cell RS 2
      have c3 := row_cell RS 3
      have c4 := row_cell RS 4
      simp only [List.getElem?_toArray, List.getElem?_cons_zero, List.getElem?_cons_succ] at c0 c1 c2 c3 c4
      have R2 := Lib.hid (rep_keep hb1 _ _ _ R1.out)
      have HB := Lib.hid (bel_step ((Below.refl w.heap.size w).alloc (Nat.le_refl _) (.cells #[.int .i64 K, .int .i64 I, .float .f64 F, .string S, .slice p l c] 25)) hb1)
      clear RS hb1
      go_wp2_with fail
      go_at_call 24; refine (size_any _ _ _ _ R2.out).mono ?_; rintro e w2 ⟨rfl, hb2⟩
      have HB2 := Lib.hid (bel_step HB.out hb2)
      clear hb2 c0 c1 c2 c3 c4
      go_wp2
      go_ret
      exact ⟨H.out, HB2.out⟩
    · have H := Lib.hid (show Ending.returned (.bool false) = .returned (.bool (lightT (n + 1) (K, I, F, S, L))) by unfold lightT; rw [hd]; rfl)
      go_enter Tryd.func8, Tryd.ntmps8
      go_wp2_with fail
      go_at_call 23; refine (deep_any _ _ _ 20 (by omega) _ R1.out).mono ?_; rintro e w1 ⟨rfl, hb1⟩
      have HB := Lib.hid (bel_step ((Below.refl w.heap.size w).alloc (Nat.le_refl _) (.cells #[.int .i64 K, .int .i64 I, .float .f64 F, .string S, .slice p l c] 25)) hb1)
      clear hb1
      go_wp2
      go_ret
      exact ⟨H.out, HB.out⟩
end Num
end Go.Proofs.YtgeicgfijnabkaaDoor
