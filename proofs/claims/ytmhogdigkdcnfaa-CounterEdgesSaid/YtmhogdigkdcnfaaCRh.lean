/-
  Package counter: Do at whatever state, method, arguments may be asked.
-/
import Derived.Test.YtmhogdigkdcnfaaCRg
namespace Go.Proofs.Ytmhogdigkdcnfaa
open Go.RowKit
namespace Num
open Ints
set_option linter.unusedSimpArgs false
set_option linter.unusedVariables false
/-- A counter's clean state, in memory. -/
theorem cntS_mem {S : Nat → Prop} {w : World} {n : Nat} {v : Value} {i : Int} {f : Nat} (h : RepS S w (n + 2) v (cntS n i f)) : ∃ b off d q2 d2 q3 d3, v = .agg #[.int .i64 4, .int .i64 0, .float .f64 0, .string ⟨#[]⟩, .slice (some ⟨b, off, none⟩) 2 d] ∧ okI i ∧ f < 2 ^ 64 ∧
    (w.cell? ⟨b, off, none⟩ = some (.int .i64 1) ∧ w.cell? ⟨b, off + 1, none⟩ = some (.int .i64 i) ∧ w.cell? ⟨b, off + 2, none⟩ = some (.float .f64 0) ∧ w.cell? ⟨b, off + 3, none⟩ = some (.string ⟨#[]⟩) ∧ w.cell? ⟨b, off + 4, none⟩ = some (.slice q2 0 d2)) ∧
    (w.cell? ⟨b, off + 5, none⟩ = some (.int .i64 2) ∧ w.cell? ⟨b, off + 5 + 1, none⟩ = some (.int .i64 0) ∧ w.cell? ⟨b, off + 5 + 2, none⟩ = some (.float .f64 f) ∧ w.cell? ⟨b, off + 5 + 3, none⟩ = some (.string ⟨#[]⟩) ∧ w.cell? ⟨b, off + 5 + 4, none⟩ = some (.slice q3 0 d3)) ∧
    (∀ (S' : Nat → Prop) w', RepS S' w' (n + 2) (.agg #[.int .i64 1, .int .i64 i, .float .f64 0, .string ⟨#[]⟩, .slice q2 0 d2]) (intV (n + 1) i)) ∧ (∀ (S' : Nat → Prop) w', RepS S' w' (n + 2) (.agg #[.int .i64 2, .int .i64 0, .float .f64 f, .string ⟨#[]⟩, .slice q3 0 d3]) (floV (n + 1) f)) := by
  obtain ⟨p, l, c, rfl, _, _, _, _, hl, _, _, hel⟩ := h
  obtain rfl : 2 = l := hl
  obtain ⟨b, off, hp, _, _, g, hi⟩ := hel (by omega)
  obtain rfl : p = some ⟨b, off, none⟩ := hp
  obtain ⟨v0, v1, v2, v3, v4, c0, c1, c2, c3, c4, hra⟩ := hi 0 (show 0 < 2 by omega)
  obtain ⟨u0, u1, u2, u3, u4, e0, e1, e2, e3, e4, hrb⟩ := hi 1 (show 1 < 2 by omega)
  have hra' : RepS _ w (n + 1) (.agg #[v0, v1, v2, v3, v4]) (intV n i) := hra
  have hrb' : RepS _ w (n + 1) (.agg #[u0, u1, u2, u3, u4]) (floV n f) := hrb
  obtain ⟨q2, d2, hv⟩ := num_shape hra'
  obtain ⟨q3, d3, hu⟩ := num_shape hrb'
  injection hv with hv
  injection hu with hu
  simp only [Array.mk.injEq, List.cons.injEq, and_true] at hv hu
  obtain ⟨rfl, rfl, rfl, rfl, rfl⟩ := hv
  obtain ⟨rfl, rfl, rfl, rfl, rfl⟩ := hu
  simp only [Nat.zero_mul, Nat.one_mul, Nat.add_zero] at c0 c1 c2 c3 c4 e0 e1 e2 e3 e4
  have hoi : okI i := by obtain ⟨_, _, _, _, _, h2, _⟩ := hra'; exact h2
  have hof : f < 2 ^ 64 := by obtain ⟨_, _, _, _, _, _, h3, _⟩ := hrb'; exact h3
  exact ⟨b, off, c, q2, d2, q3, d3, rfl, hoi, hof, ⟨c0, c1, c2, c3, c4⟩, ⟨e0, e1, e2, e3, e4⟩, fun S' w' => leaf_up hra', fun S' w' => leaf_up hrb'⟩
theorem opv_one {i : Int} (F : Nat) (hi : 0 ≤ i) (ho : okI i) (hne : i ≠ 9223372036854775807) : opV 0 1 i F 1 1 0 = (1, i + 1, 0, 0) := by
  refine opV_int rfl rfl ?_
  show ifOk (i + 1) = some (i + 1)
  unfold ifOk
  unfold okI at ho
  rw [if_pos (by unfold okI; omega)]
theorem opv_max (F : Nat) : opV 0 1 9223372036854775807 F 1 1 0 = (0, 0, 0, 35) := by
  refine opV_none rfl rfl ?_
  show ifOk (9223372036854775807 + 1) = none
  unfold ifOk
  rw [if_neg (by unfold okI; omega)]
theorem opv_flo (f : Nat) (K I : Int) (F : Nat) (h : isNum K = true) : opV 0 2 0 f K I F = (2, 0, Flo.cop .add f (asF K I F), 0) := by
  rw [opV_flo (by rw [h]; rfl) rfl]
  rfl
/-- run, where a call is taken. -/
theorem crun_any (n : Nat) (m : ByteArray) (i : Int) (f : Nat) (L : List (VT (n + 2))) (p : Option Addr) (l c : Nat) (B : Nat) (W : World) (v : Value) (hB : B ≤ W.heap.size) (h0 : 0 ≤ i) (hv : RepS (fun b => B ≤ b) W (n + 2) v (cntS n i f)) (hr : RepL W (Rep W (n + 2)) p l c L)
    (hm : (m = addC ∧ ∃ a, L = [a] ∧ isNum a.1 = true) ∨ ((m = countC ∨ m = resetC ∨ m = totalC) ∧ L = [])) :
    Calls Try.prog 23 #[v, .string m, .slice p l c] W fun e w' => RunP B W (n + 2) (cntR n m i f L).1 (cntR n m i f L).2.1 (cntR n m i f L).2.2 e w' := by
  obtain ⟨b, off, d, q2, d2, q3, d3, rfl, hoi, hof, ⟨c0, c1, c2, c3, c4⟩, ⟨e0, e1, e2, e3, e4⟩, hI, hF⟩ := cntS_mem hv
  rcases hm with ⟨rfl, a, rfl, ha⟩ | ⟨rfl | rfl | rfl, rfl⟩
  · obtain ⟨hl, hlc, hcm, hel⟩ := hr
    obtain rfl : 1 = l := hl
    obtain ⟨g, ol, rfl, hi⟩ := hel (by omega)
    obtain ⟨v0, v1, v2, v3, v4, a0, a1, a2, a3, a4, hra⟩ := hi 0 (show 0 < 1 by omega)
    obtain ⟨q4, m4, d4, hv4, _, hi4, hf4, _⟩ := hra
    injection hv4 with hv4
    simp only [Array.mk.injEq, List.cons.injEq, and_true] at hv4
    obtain ⟨rfl, rfl, rfl, rfl, rfl⟩ := hv4
    simp only [Nat.zero_mul, Nat.add_zero, List.getElem_cons_zero] at a0 a1 a2 a3 a4 hi4 hf4
    have hcl : Flo.cop .add f (asF a.1 a.2.1 a.2.2.1) < 2 ^ 64 := Flo.cop_lt _ _ _
    by_cases hx : i = 9223372036854775807
    · subst hx
      refine (crun_add 0 0 ⟨#[]⟩ b off d 1 _ 0 ⟨#[]⟩ q2 0 d2 2 0 f ⟨#[]⟩ q3 0 d3 _ _ _ _ q4 m4 d4 g ol c W c0 c1 c2 c3 c4 e0 e1 e2 e3 e4 a0 a1 a2 a3 a4 (n + 1) (nilT (n + 1)) (nilT (n + 1)) 35 (Lib.hid (fun W' _ => cadd_bad 1 _ 0 ⟨#[]⟩ q2 0 d2 2 0 f ⟨#[]⟩ q3 0 d3 _ _ _ _ q4 m4 d4 (n + 1) W' (by decide) (opv_max 0)))).mono ?_
      rintro e w' ⟨t, u, rfl, h1, h2, h3⟩
      exact ⟨t, u, rfl, h1, repS_mono (fun b hb => Nat.le_trans hB hb) _ _ _ h2, repS_mono (fun b hb => Nat.le_trans hB hb) _ _ _ h3⟩
    · have hy : cntR n addC i f [a] = (cntS n (i + 1) (Flo.cop .add f (asF a.1 a.2.1 a.2.2.1)), floV (n + 1) (Flo.cop .add f (asF a.1 a.2.1 a.2.2.1)), 0) := by
        unfold cntR
        rw [if_pos rfl]
        show (if i = 9223372036854775807 then _ else _) = _
        rw [if_neg hx]
      rw [hy]
      have hoj : okI (i + 1) := by unfold okI at hoi ⊢; omega
      refine (crun_add 0 0 ⟨#[]⟩ b off d 1 _ 0 ⟨#[]⟩ q2 0 d2 2 0 f ⟨#[]⟩ q3 0 d3 _ _ _ _ q4 m4 d4 g ol c W c0 c1 c2 c3 c4 e0 e1 e2 e3 e4 a0 a1 a2 a3 a4 (n + 1) _ _ 0 (Lib.hid (fun W' _ => cadd_ok 1 _ 0 ⟨#[]⟩ q2 0 d2 2 0 f ⟨#[]⟩ q3 0 d3 _ _ _ _ q4 m4 d4 n W' hoi (by decide) hi4 (opv_one 0 h0 hoi hx) (opv_flo f _ _ _ ha) (by decide) hoj (by decide) (by decide) (by decide) hcl))).mono ?_
      rintro e w' ⟨t, u, rfl, h1, h2, h3⟩
      exact ⟨t, u, rfl, h1, repS_mono (fun b hb => Nat.le_trans hB hb) _ _ _ h2, repS_mono (fun b hb => Nat.le_trans hB hb) _ _ _ h3⟩
  · refine (crun_count 0 0 ⟨#[]⟩ b off d 1 i 0 ⟨#[]⟩ q2 0 d2 2 0 f ⟨#[]⟩ q3 0 d3 p l c W c0 c1 c2 c3 c4 e0 e1 e2 e3 e4).mono ?_
    rintro e w' ⟨rfl, hb⟩
    exact ⟨_, _, rfl, hb, repS_stay hb _ _ _ hv, hI _ _⟩
  · refine (crun_reset 0 0 ⟨#[]⟩ b off d 1 i 0 ⟨#[]⟩ q2 0 d2 2 0 f ⟨#[]⟩ q3 0 d3 p l c W c0 c1 c2 c3 c4 e0 e1 e2 e3 e4).mono ?_
    rintro e w' ⟨u, rfl, hb, g, rfl, hg, hrow⟩
    exact ⟨_, _, rfl, hb, two_new _ _ n g 1 0 0 ⟨#[]⟩ (by decide) (by decide) (by decide) (by decide) 2 0 0 ⟨#[]⟩ (by decide) (by decide) (by decide) (by decide) (Nat.le_trans hB hg) hrow, hF _ _⟩
  · refine (crun_total 0 0 ⟨#[]⟩ b off d 1 i 0 ⟨#[]⟩ q2 0 d2 2 0 f ⟨#[]⟩ q3 0 d3 p l c W c0 c1 c2 c3 c4 e0 e1 e2 e3 e4).mono ?_
    rintro e w' ⟨rfl, hb⟩
    exact ⟨_, _, rfl, hb, repS_stay hb _ _ _ hv, hF _ _⟩
theorem cdo_any (n : Nat) (s : Value) (S : VT (n + 2)) (ms : ByteArray) (p : Option Addr) (l c : Nat) (L : List (VT (n + 2))) (w : World) (hs : Rep w (n + 2) s S) (hr : RepL w (Rep w (n + 2)) p l c L) (hg : GoodL (n + 1) L) :
    Calls Try.prog 11 #[s, .string ms, .slice p l c] w fun e w' => DoP w (n + 2) (cntD n ms S L).1 (cntD n ms S L).2.1 (cntD n ms S L).2.2 e w' := by
  obtain ⟨K, I, F, Z, q, m, d, rfl, _⟩ := rep_shape hs
  have HR := fun W (hb : Below w.heap.size w W) => cright_any n _ S W (rep_keep hb _ _ _ hs)
  have HA := fun W (hb : Below w.heap.size w W) => check_args cntC ms (n + 1) p l c L W (repL_keep hb (rep_keep hb _) hr) hg
  unfold cntD
  cases h0 : cntB n S
  · rw [if_pos rfl]
    rw [h0] at HR
    exact cdo_state (n + 1) K I F Z q m d ms p l c w (Lib.hid HR)
  · rw [if_neg (fun h => Bool.noConfusion h)]
    rw [h0] at HR
    by_cases h1 : chkA cntC ms (n + 1) L = 0
    · rw [if_neg (fun h => h h1)]
      rw [h1] at HA
      have hm := cnt_told (n + 1) ms L h1
      obtain ⟨I', F', Z', i, A0, A1, A2, B0, f, B1, B2, rfl, hi⟩ := cnt_shape h0
      obtain ⟨l1, l2, l3⟩ := cnt_light n I' F' Z' i A0 A1 A2 B0 f B1 B2
      have HC := fun W (hb : Below w.heap.size w W) => vclean_any (n + 2) _ _ W (rep_keep hb _ _ _ hs) l1 l2 l3
      exact cdo_run (n + 2) K I F Z q m d ms p l c w (Lib.hid HR) (Lib.hid HA) (cntS n i (Flo.canon f)) _ _ _ (Lib.hid HC) (Lib.hid (fun B W v hB hb hv => crun_any n ms i (Flo.canon f) L p l c B W v hB hi hv (repL_keep hb (rep_keep hb _) hr) hm))
    · rw [if_pos h1]
      have hv : chkA cntC ms (n + 1) L = 22 ∨ chkA cntC ms (n + 1) L = 31 := by
        rcases chkA_vals cntC ms (n + 1) L with h | h
        · exact absurd h h1
        · exact h
      exact cdo_args (n + 1) K I F Z q m d ms p l c w _ hv (Lib.hid HR) (Lib.hid HA)
end Num
end Go.Proofs.Ytmhogdigkdcnfaa
