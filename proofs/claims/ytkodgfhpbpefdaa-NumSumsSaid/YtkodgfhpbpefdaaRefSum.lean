/-
  The reference's Sum: from the left, the first error told.
-/
import Derived.Test.YtkodgfhpbpefdaaSum
namespace Go.Proofs.Ytkodgfhpbpefdaa
open Go.RowKit
namespace Num
open Ints
set_option linter.unusedSimpArgs false
set_option linter.unusedVariables false
set_option maxHeartbeats 1000000 in
theorem refSum_any (n : Nat) (p : Option Addr) (l c : Nat) (L : List (VT (n + 1))) (w : World) (h : RepL w (Rep w (n + 1)) p l c L) {K I : Int} {F : Nat} {E : Int} (hq : sumV (1, 0, 0) L = (K, I, F, E)) :
    Calls Try.prog 21 #[.slice p l c] w fun e w' => e = .returned (.tuple #[.agg #[.int .i64 K, .int .i64 I, .float .f64 F, .string ⟨#[]⟩, .slice none 0 0], .int .i64 E]) ∧ Below w.heap.size w w' := by
  obtain ⟨hl, hlc, hcm, hel⟩ := h
  unfold maxLen at hcm
  have HL := Lib.hid hl
  have HE := Lib.hid hel
  have HQ := Lib.hid hq
  clear hl hel hq
  go_enter Try.func21, Try.ntmps21
  go_wp2_with fail
  go_at_call 18; refine (int_ref_any _ _).mono ?_; rintro e w1 ⟨rfl, hb1⟩
  have r2 := row_step (row_alloc w #[.int .i64 0, .int .i64 0, .float .f64 0, .string ⟨#[]⟩, .slice none 0 0] 25) hb1
  have lt2 := row_lt r2
  have q24 : w.heap.size ≠ w1.heap.size := by omega
  have q42 : w1.heap.size ≠ w.heap.size := by omega
  have hle : w.heap.size ≤ w1.heap.size := by omega
  have R2 := Lib.hid (row_alloc_step r2 (.cells #[.int .i64 1, .int .i64 0, .float .f64 0, .string ⟨#[]⟩, .slice none 0 0] 25))
  have R4 := Lib.hid (row_alloc w1 #[.int .i64 1, .int .i64 0, .float .f64 0, .string ⟨#[]⟩, .slice none 0 0] 25)
  have HB := Lib.hid (bel_alloc (bel_step ((Below.refl w.heap.size w).alloc (Nat.le_refl _) (.cells #[.int .i64 0, .int .i64 0, .float .f64 0, .string ⟨#[]⟩, .slice none 0 0] 25)) hb1) (.cells #[.int .i64 1, .int .i64 0, .float .f64 0, .string ⟨#[]⟩, .slice none 0 0] 25))
  clear r2 hb1
  go_wp2
  go_loopw [5] (fun i wr => ∃ (k : Nat) (A N : Int) (D : Nat), k ≤ l ∧ i = .int .i64 k ∧ Hid (okI N) ∧ Below w.heap.size w wr ∧ wr.heap[w.heap.size]? = some (.cells #[.int .i64 0, .int .i64 0, .float .f64 0, .string ⟨#[]⟩, .slice none 0 0] 25 (0, 0)) ∧ wr.heap[w1.heap.size]? = some (.cells #[.int .i64 A, .int .i64 N, .float .f64 D, .string ⟨#[]⟩, .slice none 0 0] 25 (0, 0)) ∧ Hid (sumV (1, 0, 0) L = sumV (A, N, D) (L.drop k))) (fun i _ => l - (intOf i).toNat)
  case atStart => exact ⟨0, 1, 0, 0, by omega, rfl, Lib.hid (by decide), HB.out, R2.out, R4.out, Lib.hid rfl⟩
  case round =>
    obtain ⟨k, A, N, D, hk, rfl, hN, hB, r2, r4, HS⟩ := hrel
    clear R2 R4 HB
    have t0 := row_cell r4 0
    have t1 := row_cell r4 1
    have t2 := row_cell r4 2
    have t3 := row_cell r4 3
    have t4 := row_cell r4 4
    simp only [List.getElem?_toArray, List.getElem?_cons_zero, List.getElem?_cons_succ] at t0 t1 t2 t3 t4
    have fr2 := row_frozen r2
    have fr4 := row_frozen r4
    have z0 := row_cell r2 0
    have z1 := row_cell r2 1
    have z2 := row_cell r2 2
    have z3 := row_cell r2 3
    have z4 := row_cell r2 4
    simp only [List.getElem?_toArray, List.getElem?_cons_zero, List.getElem?_cons_succ] at z0 z1 z2 z3 z4
    have l2 := row_lt r2
    have l4 := row_lt r4
    have G2 := Lib.hid r2
    have G4 := Lib.hid r4
    have GB := Lib.hid hB
    by_cases hlt : k < l
    · obtain ⟨b, off, hp, hi⟩ := HE.out (by omega)
      subst hp
      have hkl : k < L.length := by have := HL.out; omega
      obtain ⟨K', I', F', S', M, q, m, d, hx, c0, c1, c2, c3, c4, oK, oI, oF, hr⟩ := elem (c := 0) (l := 0) hi k hkl
      have HX := Lib.hid hx
      have e0 := cell_keep hB c0
      have e1 := cell_keep hB c1
      have e2 := cell_keep hB c2
      have e3 := cell_keep hB c3
      have e4 := cell_keep hB c4
      obtain ⟨⟨A2, N2, D2, E2⟩, g⟩ : ∃ q, q = opV 0 A N D K' I' F' := ⟨_, rfl⟩
      have G := Lib.hid g.symm
      have O2 := Lib.hid oI
      have Hrest := Lib.hid (show L.drop k = (K', I', F', S', M) :: L.drop (k + 1) by rw [getElem_drop hkl, HX.out])
      have hk0 : (0 : Int) ≤ (k : Int) := by omega
      have hkl2 : (k : Int) < (l : Int) := by omega
      clear c0 c1 c2 c3 c4 hr hi hB r2 r4 hx g oK oI oF
      go_wp2_with fail
      go_region_with (go_at_call 13; refine (refOp0_any _ _ _ _ _ _ _ _ _ _ _ _ _ _ _ hN.out O2.out G.out).mono ?_; rintro e w2 ⟨rfl, hb2⟩; have X4 := Lib.hid (row_step (w := wr.drew) G4.out hb2); have X2 := Lib.hid (row_step (w := wr.drew) G2.out hb2); have HB2 := Lib.hid (bel_step (Below.drew GB.out) hb2); obtain ⟨hc2, hf2⟩ := bcell hb2; (try simp only [World.size_drew, World.cell?_drew, World.frozen?_drew] at hc2 hf2); have m2 := row_lt X2.out; have m4 := row_lt X4.out)
      all_goals
        cases hE : (E2 == 0)
        · have hE' : (E2 != 0) = true := by rw [bne, hE]; rfl
          have HF := Lib.hid (show (0, 0, 0, E2) = (K, I, F, E) by rw [← HQ.out, HS.out, Hrest.out, sumV_err G.out hE])
          obtain ⟨rfl, rfl, rfl, rfl⟩ : 0 = K ∧ 0 = I ∧ 0 = F ∧ E2 = E := by simpa using HF.out
          clear HF HQ HS Hrest G HX
          go_wp2
          exact bodyPost_ret (v := .tuple #[.agg #[.int .i64 0, .int .i64 0, .float .f64 0, .string ⟨#[]⟩, .slice none 0 0], .int .i64 E2]) (by simp [results, Try.results21, go_sem, q24, q42, l2, l4, m2, m4, z0, z1, z2, z3, z4, fr2, hc2, hf2]) rfl ⟨rfl, bel_set5 (bel_set5 HB2.out hle _ _ _ _ _) (Nat.le_refl _) _ _ _ _ _⟩
        · have hE' : (E2 != 0) = false := by rw [bne, hE]; rfl
          have HS2 := Lib.hid (show sumV (1, 0, 0) L = sumV (A2, N2, D2) (L.drop (k + 1)) by rw [HS.out, Hrest.out, sumV_ok G.out hE])
          have ON := Lib.hid (opV_ok G.out)
          have Y2 := Lib.hid (set5_other X2.out q24 (.int .i64 A2) (.int .i64 N2) (.float .f64 D2) (.string ⟨#[]⟩) (.slice none 0 0))
          have Y4 := Lib.hid (set5_row X4.out (.int .i64 A2) (.int .i64 N2) (.float .f64 D2) (.string ⟨#[]⟩) (.slice none 0 0))
          have HY := Lib.hid (bel_set5 HB2.out hle (.int .i64 A2) (.int .i64 N2) (.float .f64 D2) (.string ⟨#[]⟩) (.slice none 0 0))
          clear HS Hrest X4 X2 HB2 G hc2 hf2
          go_wp2
          go_roundw
          case rel => exact ⟨k + 1, A2, N2, D2, by omega, by go_num, ON, HY.out, Y2.out, Y4.out, HS2⟩
          case measure => simp [intOf]; omega
    · have HF := Lib.hid (show (A, N, D, 0) = (K, I, F, E) by
        have e : L.drop k = [] := List.drop_eq_nil_of_le (by have : L.length = l := HL.out; omega)
        rw [← HQ.out, HS.out, e]; rfl)
      obtain ⟨rfl, rfl, rfl, rfl⟩ : A = K ∧ N = I ∧ D = F ∧ 0 = E := by simpa using HF.out
      clear hB r2 r4 HF HQ HS
      go_wp2
      exact bodyPost_ret (v := .tuple #[.agg #[.int .i64 A, .int .i64 N, .float .f64 D, .string ⟨#[]⟩, .slice none 0 0], .int .i64 0]) (by simp [results, Try.results21, go_sem, z0, z1, z2, z3, z4, fr2]) rfl ⟨rfl, bel_set5 GB.out (Nat.le_refl _) _ _ _ _ _⟩
end Num
end Go.Proofs.Ytkodgfhpbpefdaa
