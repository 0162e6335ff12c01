/-
  Two values alike: Same says so.
-/
import Derived.Test.YtgeicgfijnabkaaDoorVBr
import Derived.Test.YtgeicgfijnabkaaDoorVTree
import Derived.Deep.RegionWith
import Derived.RegionTactic
namespace Go.Proofs.YtgeicgfijnabkaaDoor
open Go.RowKit
namespace Num
open Ints
set_option linter.unusedSimpArgs false
set_option linter.unusedVariables false
theorem bits_ref_q (x : Nat) (w : World) : Calls Tryd.prog 29 #[.float .f64 x] w fun e w' => e = .returned (.int .u64 (Flo.canon x)) ∧ w' = w := (bits_ref_any x w).mono fun _ _ ⟨a, b⟩ => ⟨a, b.symm⟩
theorem bel_drewQ {B : Nat} {a w : World} (n : Nat) (h : Below B a w) : Below B a (w.drewN n) := h.trans ⟨rfl, rfl, rfl, Nat.le_refl _, fun _ _ => rfl⟩
set_option maxHeartbeats 4000000 in
theorem same_any : ∀ (n : Nat) (v v' : Value) (T : VT n) (w : World) (hr : Rep w n v T) (hr' : Rep w n v' T), Calls Tryd.prog 11 #[v, v'] w fun e w' => e = .returned (.bool true) ∧ Below w.heap.size w w' := by
  intro n
  induction n with
  | zero => intro v v' T w h; exact h.elim
  | succ n ih =>
    intro v v' T w hr hr'
    have IH := Lib.hid ih
    clear ih
    obtain ⟨K, I, F, S, L⟩ := T
    obtain ⟨p, l, c, rfl, _, _, _, hS, hl, hlc, hcm, hel⟩ := hr
    obtain ⟨p', l', c', rfl, _, _, _, _, hl', hlc', hcm', hel'⟩ := hr'
    have hll : l' = l := by have h1 : L.length = l := hl; have h2 : L.length = l' := hl'; omega
    subst hll
    unfold maxLen at hcm hcm' hS
    have HE := Lib.hid hel
    have HE' := Lib.hid hel'
    have HL := Lib.hid hl
    clear hel hel' hl hl'
    go_enter Tryd.func11, Tryd.ntmps11
    go_wp2_with fail
    go_quiet ((go_at_call 29; exact Calls.quiet_of_same (bits_ref_q _ _)))
    have RA0 := Lib.hid (row_alloc_step (row_alloc w #[.int .i64 K, .int .i64 I, .float .f64 F, .string S, .slice p l' c] 25) (.cells #[.int .i64 K, .int .i64 I, .float .f64 F, .string S, .slice p' l' c'] 25))
    have RB0 := Lib.hid (row_alloc (w.alloc (.cells #[.int .i64 K, .int .i64 I, .float .f64 F, .string S, .slice p l' c] 25)) #[.int .i64 K, .int .i64 I, .float .f64 F, .string S, .slice p' l' c'] 25)
    have HB0 := Lib.hid (bel_alloc (bel_alloc (Below.refl w.heap.size w) (.cells #[.int .i64 K, .int .i64 I, .float .f64 F, .string S, .slice p l' c] 25)) (.cells #[.int .i64 K, .int .i64 I, .float .f64 F, .string S, .slice p' l' c'] 25))
    go_wp2
    go_loopw [5] (fun i wr => ∃ k : Nat, k ≤ l' ∧ i = .int .i64 k ∧ Below w.heap.size w wr ∧ wr.heap[w.heap.size]? = some (.cells #[.int .i64 K, .int .i64 I, .float .f64 F, .string S, .slice p l' c] 25 (0, 0)) ∧ wr.heap[w.heap.size + 1]? = some (.cells #[.int .i64 K, .int .i64 I, .float .f64 F, .string S, .slice p' l' c'] 25 (0, 0))) (fun i _ => l' - (intOf i).toNat)
    case atStart => exact ⟨0, by omega, rfl, bel_drewQ _ HB0.out, RA0.out, by have h := RB0.out; rw [World.size_alloc] at h; exact h⟩
    case round =>
      obtain ⟨k, hk, rfl, hB, RA, RB⟩ := hrel
      clear RA0 RB0 HB0
      have a0 := row_cell RA 4
      have b0 := row_cell RB 4
      simp only [List.getElem?_toArray, List.getElem?_cons_zero, List.getElem?_cons_succ] at a0 b0
      have HB := Lib.hid hB
      have HRA := Lib.hid RA
      have HRB := Lib.hid RB
      by_cases hlt : k < l'
      · obtain ⟨b, off, hp, hi⟩ := HE.out (by omega)
        obtain ⟨b', off', hp', hi'⟩ := HE'.out (by omega)
        subst hp
        subst hp'
        have hkl : k < L.length := by have := HL.out; simpa using (this.symm ▸ hlt)
        obtain ⟨v0, v1, v2, v3, v4, c0, c1, c2, c3, c4, hr⟩ := hi k hkl
        obtain ⟨u0, u1, u2, u3, u4, d0, d1, d2, d3, d4, hr'⟩ := hi' k hkl
        have HR := Lib.hid (rep_keep (Below.drew hB) n _ _ hr)
        have HR' := Lib.hid (rep_keep (Below.drew hB) n _ _ hr')
        have e0 := cell_keep hB c0
        have e1 := cell_keep hB c1
        have e2 := cell_keep hB c2
        have e3 := cell_keep hB c3
        have e4 := cell_keep hB c4
        have f0 := cell_keep hB d0
        have f1 := cell_keep hB d1
        have f2 := cell_keep hB d2
        have f3 := cell_keep hB d3
        have f4 := cell_keep hB d4
        have hk0 : (0 : Int) ≤ (k : Int) := by omega
        have hkl2 : (k : Int) < (l' : Int) := by omega
        clear c0 c1 c2 c3 c4 d0 d1 d2 d3 d4 hr hr' hi hi' hB RA RB
        go_wp2_with fail
        go_region_with (go_at_call 11; refine (IH.out _ _ _ _ HR.out HR'.out).mono ?_; rintro e w1 ⟨rfl, hb1⟩; have HB1 := Lib.hid (bel_step (Below.drew HB.out) hb1); have XA := Lib.hid (row_step (w := wr.drew) HRA.out hb1); have XB := Lib.hid (row_step (w := wr.drew) HRB.out hb1); clear hb1)
        all_goals
          clear e0 e1 e2 e3 e4 f0 f1 f2 f3 f4 HB HRA HRB a0 b0 HR HR'
          go_wp2
          go_roundw
          case rel => exact ⟨k + 1, by omega, by go_num, HB1.out, XA.out, XB.out⟩
          case measure => simp [intOf]; omega
      · clear hB RA RB
        go_wp2
        go_ret
        exact ⟨rfl, HB.out⟩
end Num
end Go.Proofs.YtgeicgfijnabkaaDoor
