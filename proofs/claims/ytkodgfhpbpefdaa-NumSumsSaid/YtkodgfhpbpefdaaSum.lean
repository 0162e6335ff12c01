/-
  Package num's Sum: from the left, the first error told.
-/
import Derived.Test.YtkodgfhpbpefdaaLOps
namespace Go.Proofs.Ytkodgfhpbpefdaa
open Go.RowKit
namespace Num
open Ints
set_option linter.unusedSimpArgs false
set_option linter.unusedVariables false
/-- Element i of a slice of values: its five cells. -/
theorem elem {w : World} {n : Nat} {b off l c : Nat} {L : List (VT (n + 1))} (h : ∀ i (h : i < L.length), ∃ v0 v1 v2 v3 v4,
    w.cell? ⟨b, off + i * 5, none⟩ = some v0 ∧ w.cell? ⟨b, off + i * 5 + 1, none⟩ = some v1 ∧ w.cell? ⟨b, off + i * 5 + 2, none⟩ = some v2 ∧
    w.cell? ⟨b, off + i * 5 + 3, none⟩ = some v3 ∧ w.cell? ⟨b, off + i * 5 + 4, none⟩ = some v4 ∧ Rep w (n + 1) (.agg #[v0, v1, v2, v3, v4]) L[i]) (k : Nat) (hk : k < L.length) :
    ∃ (K I : Int) (F : Nat) (S : ByteArray) (M : List (VT n)) (q : Option Addr) (m d : Nat), L[k] = (K, I, F, S, M) ∧
      w.cell? ⟨b, off + k * 5, none⟩ = some (.int .i64 K) ∧ w.cell? ⟨b, off + k * 5 + 1, none⟩ = some (.int .i64 I) ∧ w.cell? ⟨b, off + k * 5 + 2, none⟩ = some (.float .f64 F) ∧
      w.cell? ⟨b, off + k * 5 + 3, none⟩ = some (.string S) ∧ w.cell? ⟨b, off + k * 5 + 4, none⟩ = some (.slice q m d) ∧ okI K ∧ okI I ∧ F < 2 ^ 64 ∧
      Rep w (n + 1) (.agg #[.int .i64 K, .int .i64 I, .float .f64 F, .string S, .slice q m d]) (K, I, F, S, M) := by
  obtain ⟨v0, v1, v2, v3, v4, c0, c1, c2, c3, c4, hr⟩ := h k hk
  have hr0 := hr
  obtain ⟨q, m, d, hv, o1, o2, o3, o4, o5⟩ := hr
  simp only [Value.agg.injEq, Array.mk.injEq, List.cons.injEq, and_true] at hv
  obtain ⟨rfl, rfl, rfl, rfl, rfl⟩ := hv
  exact ⟨L[k].1, L[k].2.1, L[k].2.2.1, L[k].2.2.2.1, L[k].2.2.2.2, q, m, d, rfl, c0, c1, c2, c3, c4, o1, o2, o3, hr0⟩

/-- What a sum comes to, from what is there already. -/
def sumV {n : Nat} : (Int × Int × Nat) → List (VT (n + 1)) → Int × Int × Nat × Int
  | a, [] => (a.1, a.2.1, a.2.2, 0)
  | a, x :: xs => if ((opV 0 a.1 a.2.1 a.2.2 x.1 x.2.1 x.2.2.1).2.2.2 == 0) = true then sumV ((opV 0 a.1 a.2.1 a.2.2 x.1 x.2.1 x.2.2.1).1, (opV 0 a.1 a.2.1 a.2.2 x.1 x.2.1 x.2.2.1).2.1, (opV 0 a.1 a.2.1 a.2.2 x.1 x.2.1 x.2.2.1).2.2.1) xs
      else (0, 0, 0, (opV 0 a.1 a.2.1 a.2.2 x.1 x.2.1 x.2.2.1).2.2.2)
theorem sumV_nil {n : Nat} (K I : Int) (F : Nat) : sumV (n := n) (K, I, F) [] = (K, I, F, 0) := rfl
theorem sumV_ok {n : Nat} {K I : Int} {F : Nat} {x : VT (n + 1)} {xs : List (VT (n + 1))} {A N : Int} {D : Nat} {E : Int} (h : opV 0 K I F x.1 x.2.1 x.2.2.1 = (A, N, D, E)) (hE : (E == 0) = true) : sumV (K, I, F) (x :: xs) = sumV (A, N, D) xs := by
  show (if ((opV 0 K I F x.1 x.2.1 x.2.2.1).2.2.2 == 0) = true then sumV ((opV 0 K I F x.1 x.2.1 x.2.2.1).1, (opV 0 K I F x.1 x.2.1 x.2.2.1).2.1, (opV 0 K I F x.1 x.2.1 x.2.2.1).2.2.1) xs else _) = _
  rw [h, if_pos hE]
theorem sumV_err {n : Nat} {K I : Int} {F : Nat} {x : VT (n + 1)} {xs : List (VT (n + 1))} {A N : Int} {D : Nat} {E : Int} (h : opV 0 K I F x.1 x.2.1 x.2.2.1 = (A, N, D, E)) (hE : (E == 0) = false) : sumV (K, I, F) (x :: xs) = (0, 0, 0, E) := by
  show (if ((opV 0 K I F x.1 x.2.1 x.2.2.1).2.2.2 == 0) = true then sumV ((opV 0 K I F x.1 x.2.1 x.2.2.1).1, (opV 0 K I F x.1 x.2.1 x.2.2.1).2.1, (opV 0 K I F x.1 x.2.1 x.2.2.1).2.2.1) xs else (0, 0, 0, (opV 0 K I F x.1 x.2.1 x.2.2.1).2.2.2)) = _
  rw [h, if_neg (by rw [hE]; simp)]
theorem ifOk_ok {n m : Int} (h : ifOk n = some m) : okI m := by
  unfold ifOk at h
  split at h
  · cases h; assumption
  · cases h
theorem intR_ok {o : Nat} {x y n : Int} (h : intR o x y = some n) : okI n := by
  unfold intR at h
  split at h
  · exact ifOk_ok h
  · split at h
    · exact ifOk_ok h
    · split at h
      · exact ifOk_ok h
      · split at h
        · cases h
        · exact ifOk_ok h
theorem opV_ok {o : Nat} {K1 I1 K2 I2 : Int} {F1 F2 : Nat} {A N : Int} {D : Nat} {E : Int} (h : opV o K1 I1 F1 K2 I2 F2 = (A, N, D, E)) : okI N := by
  have z : okI 0 := by decide
  cases h1 : (isNum K1 && isNum K2)
  · rw [opV_not h1] at h; cases h; exact z
  · cases h2 : (K1 == 2 || K2 == 2)
    · cases h3 : intR o I1 I2 with
      | some n => rw [opV_int h1 h2 h3] at h; cases h; exact intR_ok h3
      | none => rw [opV_none h1 h2 h3] at h; cases h; exact z
    · rw [opV_flo h1 h2] at h; cases h; exact z
theorem getElem_drop {α : Type} {L : List α} {k : Nat} (h : k < L.length) : L.drop k = L[k] :: L.drop (k + 1) := List.drop_eq_getElem_cons h
set_option maxHeartbeats 4000000 in
theorem sum_any (n : Nat) (p : Option Addr) (l c : Nat) (L : List (VT (n + 1))) (w : World) (h : RepL w (Rep w (n + 1)) p l c L) {K I : Int} {F : Nat} {E : Int} (hq : sumV (1, 0, 0) L = (K, I, F, E)) :
    Calls Try.prog 20 #[.slice p l c] w fun e w' => e = .returned (.tuple #[.agg #[.int .i64 K, .int .i64 I, .float .f64 F, .string ⟨#[]⟩, .slice none 0 0], .int .i64 E]) ∧ Below w.heap.size w w' := by
  obtain ⟨hl, hlc, hcm, hel⟩ := h
  unfold maxLen at hcm
  have HL := Lib.hid hl
  have HE := Lib.hid hel
  have HQ := Lib.hid hq
  clear hl hel hq
  go_enter Try.func20, Try.ntmps20
  go_wp2_with fail
  go_at_call 46; refine (ofInt_any _ _).mono ?_; rintro e w1 ⟨rfl, hb1⟩
  have r2 := row_step (row_alloc w #[.int .i64 0, .int .i64 0, .float .f64 0, .string ⟨#[]⟩, .slice none 0 0] 25) hb1
  have lt2 := row_lt r2
  have q24 : w.heap.size ≠ w1.heap.size := by omega
  have q42 : w1.heap.size ≠ w.heap.size := by omega
  have hle : w.heap.size ≤ w1.heap.size := by omega
  have R2 := Lib.hid (row_alloc_step r2 (.cells #[.int .i64 1, .int .i64 0, .float .f64 0, .string ⟨#[]⟩, .slice none 0 0] 25))
  have R4 := Lib.hid (row_alloc w1 #[.int .i64 1, .int .i64 0, .float .f64 0, .string ⟨#[]⟩, .slice none 0 0] 25)
  have HB := Lib.hid (bel_alloc (bel_step ((Below.refl w.heap.size w).alloc (Nat.le_refl _) (.cells #[.int .i64 0, .int .i64 0, .float .f64 0, .string ⟨#[]⟩, .slice none 0 0] 25)) hb1) (.cells #[.int .i64 1, .int .i64 0, .float .f64 0, .string ⟨#[]⟩, .slice none 0 0] 25))
  clear r2 hb1
  go_wp2
  go_loopw [12] (fun i wr => ∃ (k : Nat) (A N : Int) (D : Nat), k ≤ l ∧ i = .int .i64 k ∧ Hid (okI N) ∧ Below w.heap.size w wr ∧ wr.heap[w.heap.size]? = some (.cells #[.int .i64 0, .int .i64 0, .float .f64 0, .string ⟨#[]⟩, .slice none 0 0] 25 (0, 0)) ∧ wr.heap[w1.heap.size]? = some (.cells #[.int .i64 A, .int .i64 N, .float .f64 D, .string ⟨#[]⟩, .slice none 0 0] 25 (0, 0)) ∧ Hid (sumV (1, 0, 0) L = sumV (A, N, D) (L.drop k))) (fun i _ => l - (intOf i).toNat)
  case atStart => exact ⟨0, 1, 0, 0, by omega, rfl, Lib.hid (by decide), HB.out, R2.out, R4.out, Lib.hid rfl⟩
  case round =>
    obtain ⟨k, A, N, D, hk, rfl, hN, hB, r2, r4, HS⟩ := hrel
    clear R2 R4 HB
    have t0 := row_cell r4 0
    have t1 := row_cell r4 1
    have t2 := row_cell r4 2
    have t3 := row_cell r4 3
    have t4 := row_cell r4 4
    simp only [List.getElem?_toArray, List.getElem?_cons_zero, List.getElem?_cons_succ] at t0 t1 t2 t3 t4
    have fr2 := row_frozen r2
    have fr4 := row_frozen r4
    have z0 := row_cell r2 0
    have z1 := row_cell r2 1
    have z2 := row_cell r2 2
    have z3 := row_cell r2 3
    have z4 := row_cell r2 4
    simp only [List.getElem?_toArray, List.getElem?_cons_zero, List.getElem?_cons_succ] at z0 z1 z2 z3 z4
    have l2 := row_lt r2
    have l4 := row_lt r4
    have G2 := Lib.hid r2
    have G4 := Lib.hid r4
    have GB := Lib.hid hB
    by_cases hlt : k < l
    · obtain ⟨b, off, hp, hi⟩ := HE.out (by omega)
      subst hp
      have hkl : k < L.length := by have := HL.out; omega
      obtain ⟨K', I', F', S', M, q, m, d, hx, c0, c1, c2, c3, c4, oK, oI, oF, hr⟩ := elem (c := 0) (l := 0) hi k hkl
      have HX := Lib.hid hx
      have e0 := cell_keep hB c0
      have e1 := cell_keep hB c1
      have e2 := cell_keep hB c2
      have e3 := cell_keep hB c3
      have e4 := cell_keep hB c4
      have lb : b < wr.heap.size := cell_lt e0
      obtain ⟨⟨A2, N2, D2, E2⟩, g⟩ : ∃ q, q = opV 0 A N D K' I' F' := ⟨_, rfl⟩
      have G := Lib.hid g.symm
      have O2 := Lib.hid oI
      clear c0 c1 c2 c3 c4 hr hi hB r2 r4 hx g oK oI oF
      have W4 := Lib.hid (row_alloc_step G4.out (.cells #[.int .i64 K', .int .i64 I', .float .f64 F', .string S', .slice q m d] 25))
      have W2 := Lib.hid (row_alloc_step G2.out (.cells #[.int .i64 K', .int .i64 I', .float .f64 F', .string S', .slice q m d] 25))
      have n4 : wr.heap.size ≠ w1.heap.size := by omega
      go_wp2_with fail
      go_at_call 12; refine (add_any _ _ _ _ _ _ _ _ _ _ _ _ _ _ _ hN.out O2.out G.out).mono ?_; rintro e w2 ⟨rfl, hb2⟩
      have X4 := Lib.hid (row_step W4.out hb2)
      have X2 := Lib.hid (row_step W2.out hb2)
      have HB2 := Lib.hid (bel_step (bel_alloc GB.out (.cells #[.int .i64 K', .int .i64 I', .float .f64 F', .string S', .slice q m d] 25)) hb2)
      clear W4 W2 hb2 GB e0 e1 e2 e3 e4 t0 t1 t2 t3 t4 z0 z1 z2 z3 z4 fr2 fr4 G2 G4
      have x4 := X4.out
      have x2 := X2.out
      have t0 := row_cell x4 0
      have t1 := row_cell x4 1
      have t2 := row_cell x4 2
      have t3 := row_cell x4 3
      have t4 := row_cell x4 4
      simp only [List.getElem?_toArray, List.getElem?_cons_zero, List.getElem?_cons_succ] at t0 t1 t2 t3 t4
      have z0 := row_cell x2 0
      have z1 := row_cell x2 1
      have z2 := row_cell x2 2
      have z3 := row_cell x2 3
      have z4 := row_cell x2 4
      simp only [List.getElem?_toArray, List.getElem?_cons_zero, List.getElem?_cons_succ] at z0 z1 z2 z3 z4
      have fr4 := row_frozen x4
      have fr2 := row_frozen x2
      have m4 := row_lt x4
      have m2 := row_lt x2
      have n24 : w2.heap.size ≠ w1.heap.size := by omega
      have n22 : w2.heap.size ≠ w.heap.size := by omega
      have n42 : w1.heap.size ≠ w2.heap.size := by omega
      have Hrest := Lib.hid (show L.drop k = (K', I', F', S', M) :: L.drop (k + 1) by rw [getElem_drop hkl, HX.out])
      cases hE : (E2 == 0)
      · have hE' : (E2 != 0) = true := by rw [bne, hE]; rfl
        have HF := Lib.hid (show (0, 0, 0, E2) = (K, I, F, E) by rw [← HQ.out, HS.out, Hrest.out, sumV_err G.out hE])
        obtain ⟨rfl, rfl, rfl, rfl⟩ : 0 = K ∧ 0 = I ∧ 0 = F ∧ E2 = E := by simpa using HF.out
        clear HF HQ HS Hrest G x4 x2 X4 X2 HX
        go_wp2
        exact bodyPost_ret (v := .tuple #[.agg #[.int .i64 0, .int .i64 0, .float .f64 0, .string ⟨#[]⟩, .slice none 0 0], .int .i64 E2]) (by simp [results, Try.results20, go_sem, n22, m2, z0, z1, z2, z3, z4, fr2]) rfl ⟨rfl, bel_alloc (bel_set5 HB2.out (Nat.le_refl _) _ _ _ _ _) _⟩
      · have hE' : (E2 != 0) = false := by rw [bne, hE]; rfl
        have HS2 := Lib.hid (show sumV (1, 0, 0) L = sumV (A2, N2, D2) (L.drop (k + 1)) by rw [HS.out, Hrest.out, sumV_ok G.out hE])
        have ON := Lib.hid (opV_ok G.out)
        have Y2 := Lib.hid (row_alloc_step (set5_other x2 q24 (.int .i64 A2) (.int .i64 N2) (.float .f64 D2) (.string ⟨#[]⟩) (.slice none 0 0)) (.cells #[.int .i64 A2, .int .i64 N2, .float .f64 D2, .string ⟨#[]⟩, .slice none 0 0] 25))
        have Y4 := Lib.hid (row_alloc_step (set5_row x4 (.int .i64 A2) (.int .i64 N2) (.float .f64 D2) (.string ⟨#[]⟩) (.slice none 0 0)) (.cells #[.int .i64 A2, .int .i64 N2, .float .f64 D2, .string ⟨#[]⟩, .slice none 0 0] 25))
        have HY := Lib.hid (bel_alloc (bel_set5 HB2.out hle (.int .i64 A2) (.int .i64 N2) (.float .f64 D2) (.string ⟨#[]⟩) (.slice none 0 0)) (.cells #[.int .i64 A2, .int .i64 N2, .float .f64 D2, .string ⟨#[]⟩, .slice none 0 0] 25))
        clear x4 x2 HS Hrest X4 X2 HB2 G
        go_wp2
        go_roundw
        case rel => exact ⟨k + 1, A2, N2, D2, by omega, by go_num, ON, HY.out, Y2.out, Y4.out, HS2⟩
        case measure => simp [intOf]; omega
    · have HF := Lib.hid (show (A, N, D, 0) = (K, I, F, E) by
        have e : L.drop k = [] := List.drop_eq_nil_of_le (by have : L.length = l := HL.out; omega)
        rw [← HQ.out, HS.out, e]; rfl)
      clear hB r2 r4
      obtain ⟨rfl, rfl, rfl, rfl⟩ : A = K ∧ N = I ∧ D = F ∧ 0 = E := by simpa using HF.out
      clear HF HQ HS
      go_wp2
      exact bodyPost_ret (v := .tuple #[.agg #[.int .i64 A, .int .i64 N, .float .f64 D, .string ⟨#[]⟩, .slice none 0 0], .int .i64 0]) (by simp [results, Try.results20, go_sem, z0, z1, z2, z3, z4, fr2]) rfl ⟨rfl, bel_set5 GB.out (Nat.le_refl _) _ _ _ _ _⟩
end Num
end Go.Proofs.Ytkodgfhpbpefdaa
