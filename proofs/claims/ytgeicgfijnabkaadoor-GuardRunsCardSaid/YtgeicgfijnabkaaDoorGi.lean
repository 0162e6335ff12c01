/-
  Package guard: room, anew.
-/
import Derived.Test.YtgeicgfijnabkaaDoorGg
import Derived.Test.YtgeicgfijnabkaaDoorVDeep
namespace Go.Proofs.YtgeicgfijnabkaaDoor
open Go.RowKit
namespace Num
open Ints
set_option linter.unusedSimpArgs false
set_option linter.unusedVariables false
set_option maxRecDepth 100000 in
set_option maxHeartbeats 4000000 in
theorem room_any : ∀ (n : Nat) (v : Value) (T : VT n) (a k : Int) (w : World), Rep w n v T → Calls Tryd.prog 37 #[v, .int .i64 a, .int .i64 k] w fun e w' => (∃ x, e = .returned (.int .i64 x)) ∧ Below w.heap.size w w' := by
  intro n
  induction n with
  | zero => intro v T a k w h; exact h.elim
  | succ n ih =>
    intro v T a k w hr
    have IH := Lib.hid ih
    clear ih
    obtain ⟨K, I, F, S, L⟩ := T
    obtain ⟨p, l, c, rfl, _, _, _, _, hl, hlc, hcm, hel⟩ := hr
    unfold maxLen at hcm
    have HB0 := Lib.hid (bel_alloc (Below.refl w.heap.size w) (.cells #[.int .i64 K, .int .i64 I, .float .f64 F, .string S, .slice p l c] 25))
    have HL := Lib.hid hl
    have HE := Lib.hid hel
    clear hl hel
    cases h1 : (K == 4)
    · have h1' : (K != 4) = true := by rw [bne, h1]; rfl
      go_enter Tryd.func37, Tryd.ntmps37
      go_wp2
      go_ret
      exact ⟨⟨_, rfl⟩, HB0.out⟩
    have h1' : (K != 4) = false := by rw [bne, h1]; rfl
    cases h2 : decide (wrap64 (k - 1) < 0)
    case true =>
      go_enter Tryd.func37, Tryd.ntmps37
      go_wp2
      go_ret
      exact ⟨⟨_, rfl⟩, HB0.out⟩
    cases h3 : (a == 4096)
    case true =>
      go_enter Tryd.func37, Tryd.ntmps37
      go_wp2
      go_ret
      exact ⟨⟨_, rfl⟩, HB0.out⟩
    go_enter Tryd.func37, Tryd.ntmps37
    go_wp2
    go_loopw [2, 24] (fun lv i wr => ∃ (y : Int) (j : Nat), j ≤ l ∧ lv = .int .i64 y ∧ i = .int .i64 j ∧ Below w.heap.size w wr) (fun _ i _ => l - (intOf i).toNat)
    case atStart => exact ⟨_, 0, by omega, rfl, rfl, HB0.out⟩
    case round =>
      obtain ⟨y, j, hj, rfl, rfl, hB⟩ := hrel
      have HB := Lib.hid hB
      by_cases hlt : j < l
      · obtain ⟨b, off, hp, hi⟩ := HE.out (by omega)
        subst hp
        have hkl : j < L.length := by have := HL.out; omega
        obtain ⟨v0, v1, v2, v3, v4, c0, c1, c2, c3, c4, hr⟩ := hi j hkl
        have hr' := rep_keep (bel_alloc (Below.refl wr.heap.size wr) (.cells #[v0, v1, v2, v3, v4] 25)) n _ _ (rep_keep hB n _ _ hr)
        have e0 := cell_keep hB c0
        have e1 := cell_keep hB c1
        have e2 := cell_keep hB c2
        have e3 := cell_keep hB c3
        have e4 := cell_keep hB c4
        have elt := cell_lt e0
        have HBA := Lib.hid (bel_alloc hB (.cells #[v0, v1, v2, v3, v4] 25))
        obtain ⟨K2, I2, F2, S2, q2, m2, d2, hv⟩ : ∃ (K I : Int) (F : Nat) (S : ByteArray) (q : Option Addr) (m d : Nat), (Value.agg #[v0, v1, v2, v3, v4]) = .agg #[.int .i64 K, .int .i64 I, .float .f64 F, .string S, .slice q m d] := by
          cases n with
          | zero => exact hr.elim
          | succ n => obtain ⟨q, m, d, hv, _⟩ := hr; exact ⟨_, _, _, _, q, m, d, hv⟩
        injection hv with hv
        simp only [Array.mk.injEq, List.cons.injEq, and_true] at hv
        obtain ⟨rfl, rfl, rfl, rfl, rfl⟩ := hv
        clear c0 c1 c2 c3 c4 hr hi hB
        have HR := Lib.hid hr'
        clear hr'
        go_wp2_with fail
        go_at_call 37; refine (IH.out _ _ _ _ _ HR.out).mono ?_; rintro e w1 ⟨⟨x, rfl⟩, hb1⟩
        have HB1 := Lib.hid (bel_step HBA.out hb1)
        clear hb1 e0 e1 e2 e3 e4 elt HB HBA HR
        go_wp2
        go_roundw
        case rel => exact ⟨x, j + 1, by omega, rfl, by go_num, HB1.out⟩
        case measure => simp [intOf]; omega
      · go_wp2
        go_ret
        exact ⟨⟨_, rfl⟩, HB.out⟩
set_option maxRecDepth 100000 in
set_option maxHeartbeats 4000000 in
theorem anew_five (n : Nat) (K I : Int) (F : Nat) (S : ByteArray) (q : Option Addr) (m d : Nat) (T : VT n) (w : World) (hr : Rep w n (.agg #[.int .i64 K, .int .i64 I, .float .f64 F, .string S, .slice q m d]) T) (hb : wideT n T) :
    Calls Tryd.prog 27 #[.agg #[.int .i64 K, .int .i64 I, .float .f64 F, .string S, .slice q m d]] w fun e w' => ∃ v', e = .returned v' ∧ Below w.heap.size w w' ∧ (v' = .agg #[.int .i64 K, .int .i64 I, .float .f64 F, .string S, .slice q m d] ∨ RepS (fun b => w.heap.size ≤ b) w' n v' (gcT n T)) := by
  have HB := Lib.hid (bel_alloc (bel_alloc (Below.refl w.heap.size w) (.cells #[.int .i64 K, .int .i64 I, .float .f64 F, .string S, .slice q m d] 25)) (.cells #[.int .i64 0, .int .i64 0, .float .f64 0, .string ⟨#[]⟩, .slice none 0 0] 25))
  have HA := Lib.hid (row_alloc_step (row_alloc w #[.int .i64 K, .int .i64 I, .float .f64 F, .string S, .slice q m d] 25) (.cells #[.int .i64 0, .int .i64 0, .float .f64 0, .string ⟨#[]⟩, .slice none 0 0] 25))
  have hz := row_alloc (w.alloc (.cells #[.int .i64 K, .int .i64 I, .float .f64 F, .string S, .slice q m d] 25)) #[.int .i64 0, .int .i64 0, .float .f64 0, .string ⟨#[]⟩, .slice none 0 0] 25
  rw [World.size_alloc] at hz
  have HZ := Lib.hid hz
  have HRO := Lib.hid (room_any n _ T 0 33554432 _ (rep_keep HB.out _ _ _ hr))
  have HR := Lib.hid hr
  have HC := Lib.hid (fun W (hbw : Below w.heap.size w W) => pclean_any n _ T W (rep_keep hbw _ _ _ hr) hb)
  clear hz hr hb
  go_enter Tryd.func27, Tryd.ntmps27
  go_wp2_with fail
  go_at_call 37; refine HRO.out.mono ?_; rintro e w2 ⟨⟨x, rfl⟩, hb2⟩
  have HB2 := Lib.hid (bel_step HB.out hb2)
  have a2 := row_step HA.out hb2
  have z2 := row_step HZ.out hb2
  have HZ2 := Lib.hid z2
  have a0 := row_cell a2 0; have a1 := row_cell a2 1; have a3 := row_cell a2 2; have a4 := row_cell a2 3; have a5 := row_cell a2 4
  have d0 := row_cell z2 0; have d1 := row_cell z2 1; have d2 := row_cell z2 2; have d3 := row_cell z2 3; have d4 := row_cell z2 4
  simp only [List.getElem?_toArray, List.getElem?_cons_zero, List.getElem?_cons_succ] at a0 a1 a3 a4 a5 d0 d1 d2 d3 d4
  have df := fun o => row_frz z2 o
  have lz := row_lt z2
  cases hx : decide (x < 0)
  case true =>
    clear hb2 a2 z2 HB HA HZ HRO HC
    go_wp2
    have hbe := set5_below (g := w.heap.size + 1) (o := 0) HB2.out (Nat.le_succ _) (.int .i64 K) (.int .i64 I) (.float .f64 F) (.string S) (.slice q m d)
    exact bodyPost_ret (v := .agg #[.int .i64 K, .int .i64 I, .float .f64 F, .string S, .slice q m d]) (by simp [results, Tryd.results27, go_sem, World.cell?_setCell_same, World.cell?_setCell_other, d0, d1, d2, d3, d4]) rfl ⟨_, rfl, hbe, Or.inl rfl⟩
  case false =>
    clear hb2 a2 z2 HB HA HZ HRO
    go_wp2_with fail
    go_at_call 38; refine (HC.out _ HB2.out).mono ?_; rintro e w3 ⟨v', rfl, hb3, hr3⟩
    obtain ⟨K3, I3, F3, S3, q3, m3, d3', rfl, _⟩ := repS_shape hr3
    have HB3 := Lib.hid (bel_step HB2.out hb3)
    have z3 := row_step HZ2.out hb3
    have g0 := row_cell z3 0; have g1 := row_cell z3 1; have g2 := row_cell z3 2; have g3 := row_cell z3 3; have g4 := row_cell z3 4
    simp only [List.getElem?_toArray, List.getElem?_cons_zero, List.getElem?_cons_succ] at g0 g1 g2 g3 g4
    have gf := fun o => row_frz z3 o
    have lz3 := row_lt z3
    have HR3 := Lib.hid (repC_keep _ _ _ _ (fun b hb => set5_other (w := w3) (g := w.heap.size + 1) (o := 0) (u0 := .int .i64 K3) (u1 := .int .i64 I3) (u2 := .float .f64 F3) (u3 := .string S3) (u4 := .slice q3 m3 d3') (by omega)) hr3)
    clear hb3 hr3 z3 a0 a1 a3 a4 a5 d0 d1 d2 d3 d4 df HC
    go_wp2
    exact bodyPost_ret (v := .agg #[.int .i64 K3, .int .i64 I3, .float .f64 F3, .string S3, .slice q3 m3 d3']) (by simp [results, Tryd.results27, go_sem, World.cell?_setCell_same, World.cell?_setCell_other, g0, g1, g2, g3, g4]) rfl ⟨_, rfl, set5_below (g := w.heap.size + 1) (o := 0) HB3.out (Nat.le_succ _) _ _ _ _ _, Or.inr (repC_mono _ _ _ _ _ (fun b hb => Nat.le_trans HB2.out.size hb) HR3.out)⟩
/-- What a value becomes that is told. -/
theorem anew_any (n : Nat) (v : Value) (T : VT n) (w : World) (hr : Rep w n v T) (hb : wideT n T) :
    Calls Tryd.prog 27 #[v] w fun e w' => ∃ v', e = .returned v' ∧ Below w.heap.size w w' ∧ (v' = v ∨ RepS (fun b => w.heap.size ≤ b) w' n v' (gcT n T)) := by
  obtain ⟨K, I, F, S, q, m, d, rfl⟩ : ∃ (K I : Int) (F : Nat) (S : ByteArray) (q : Option Addr) (m d : Nat), v = .agg #[.int .i64 K, .int .i64 I, .float .f64 F, .string S, .slice q m d] := by
    cases n with
    | zero => exact hr.elim
    | succ n => obtain ⟨q, m, d, hv, _⟩ := hr; exact ⟨_, _, _, _, q, m, d, hv⟩
  exact anew_five n K I F S q m d T w hr hb
end Num
end Go.Proofs.YtgeicgfijnabkaaDoor
