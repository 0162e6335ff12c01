/-
  The order of ids: opid.Less; byIds.
-/
import Derived.Test.YtijfgmhdkflfmaaSb
import Derived.Test.YtijfgmhdkflfmaaSe
import Derived.Outline
import Derived.Deep.RegionHeld3
import Derived.Sort.Grow
namespace Go.Proofs.Ytijfgmhdkflfmaa
open Go.RowKit
namespace Num
set_option linter.unusedSimpArgs false
set_option linter.unusedVariables false
/-- What laid blocks, and drew. -/
def Gr (w w' : World) : Prop := ∃ q os', w' = Sort.grow (w.drewN q) os'
theorem gr_refl (w : World) : Gr w w := ⟨0, #[], by rw [Sort.grow_empty]; rfl⟩
theorem gr_alloc {w x : World} (h : Gr w x) (o : Obj) : Gr w (x.alloc o) := by
  obtain ⟨q, os, rfl⟩ := h
  exact ⟨q, os ++ #[o], by rw [Sort.alloc_eq_grow, Sort.grow_grow]⟩
theorem gr_drew {w x : World} (h : Gr w x) : Gr w x.drew := by
  obtain ⟨q, os, rfl⟩ := h
  exact ⟨q + 1, os, rfl⟩
theorem gr_trans {w x y : World} (h : Gr w x) (k : Gr x y) : Gr w y := by
  obtain ⟨q, os, rfl⟩ := h
  obtain ⟨q', os', rfl⟩ := k
  refine ⟨q + q', os ++ os', ?_⟩
  rw [← Sort.grow_grow]
  show Sort.grow { w with heap := w.heap ++ os, drawn := _ } os' = Sort.grow { w with heap := w.heap ++ os, drawn := _ } os'
  congr 2
  show w.drawn + q + q' = w.drawn + (q + q')
  omega
theorem gr_below {w x : World} (h : Gr w x) : Below w.heap.size w x := by
  obtain ⟨q, os, rfl⟩ := h
  refine ⟨rfl, rfl, rfl, ?_, fun k hk => ?_⟩
  · show w.heap.size ≤ (w.heap ++ os).size
    rw [Array.size_append]; omega
  · show (w.heap ++ os)[k]? = w.heap[k]?
    rw [Array.getElem?_append_left hk]
theorem cmp16_any (a b : Int) (w : World) : Calls Try.prog 62 #[.int .u16 a, .int .u16 b] w fun e w' => e = .returned (.int .i64 (cmpI a b)) ∧ w' = w := by
  unfold cmpI
  by_cases h1 : a < b
  · rw [if_pos h1]
    go_enter Try.func62, Try.ntmps62
    go_wp2
    go_ret
    exact ⟨rfl, rfl⟩
  · rw [if_neg h1]
    by_cases h2 : b < a
    · rw [if_pos h2]
      go_enter Try.func62, Try.ntmps62
      go_wp2
      go_ret
      exact ⟨rfl, rfl⟩
    · rw [if_neg h2]
      go_enter Try.func62, Try.ntmps62
      go_wp2
      go_ret
      exact ⟨rfl, rfl⟩
def orI (x y z : Int) : Int := if x = 0 then (if y = 0 then z else y) else x
theorem or_any (x y z : Int) (b : Nat) (w : World) (h0 : w.cell? ⟨b, 0, none⟩ = some (.int .i64 x)) (h1 : w.cell? ⟨b, 1, none⟩ = some (.int .i64 y)) (h2 : w.cell? ⟨b, 2, none⟩ = some (.int .i64 z)) :
    Calls Try.prog 61 #[.slice (some ⟨b, 0, none⟩) 3 3] w fun e w' => e = .returned (.int .i64 (orI x y z)) ∧ w' = w := by
  unfold orI
  by_cases hx : x = 0
  · rw [if_pos hx]
    by_cases hy : y = 0
    · rw [if_pos hy]
      by_cases hz : z = 0
      · go_enter Try.func61, Try.ntmps61
        go_wp2
        refine wp_loop_rounds 4 ?_
        rw [rounds_succ]
        go_wp2
        rw [rounds_succ]
        go_wp2
        rw [rounds_succ]
        go_wp2
        rw [rounds_succ]
        go_wp2
        go_ret
        exact ⟨by rw [hz]; rfl, rfl⟩
      · have bz : (z == 0) = false := by rw [beq_eq_false_iff_ne]; exact hz
        go_enter Try.func61, Try.ntmps61
        go_wp2
        refine wp_loop_rounds 3 ?_
        rw [rounds_succ]
        go_wp2
        rw [rounds_succ]
        go_wp2
        rw [rounds_succ]
        go_wp2
        go_ret
        exact ⟨rfl, rfl⟩
    · rw [if_neg hy]
      have bz : (y == 0) = false := by rw [beq_eq_false_iff_ne]; exact hy
      go_enter Try.func61, Try.ntmps61
      go_wp2
      refine wp_loop_rounds 2 ?_
      rw [rounds_succ]
      go_wp2
      rw [rounds_succ]
      go_wp2
      go_ret
      exact ⟨rfl, rfl⟩
  · rw [if_neg hx]
    have bz : (x == 0) = false := by rw [beq_eq_false_iff_ne]; exact hx
    go_enter Try.func61, Try.ntmps61
    go_wp2
    refine wp_loop_rounds 1 ?_
    rw [rounds_succ]
    go_wp2
    go_ret
    exact ⟨rfl, rfl⟩
set_option maxHeartbeats 4000000 in
theorem less_any (a1 a2 a3 b1 b2 b3 : Int) (w : World) :
    Calls Try.prog 43 #[.agg #[.int .u32 a1, .int .u32 a2, .int .u16 a3], .agg #[.int .u32 b1, .int .u32 b2, .int .u16 b3]] w fun e w' => e = .returned (.bool (decide (orI (cmpI a1 b1) (cmpI a2 b2) (cmpI a3 b3) < 0))) ∧ Gr w w' := by
  have H32 := Lib.hid (fun a b (W : World) => cmp_u32 a b W)
  have H16 := Lib.hid (fun a b (W : World) => cmp16_any a b W)
  have HO := Lib.hid (fun x y z b (W : World) h0 h1 h2 => or_any x y z b W h0 h1 h2)
  have HB : Below w.heap.size w ((w.alloc (.cells #[.int .u32 a1, .int .u32 a2, .int .u16 a3] 40)).alloc (.cells #[.int .u32 b1, .int .u32 b2, .int .u16 b3] 40)).drew := (bel_alloc (bel_alloc (Below.refl _ _) _) _).drew
  have K := row_alloc ((w.alloc (.cells #[.int .u32 a1, .int .u32 a2, .int .u16 a3] 40)).alloc (.cells #[.int .u32 b1, .int .u32 b2, .int .u16 b3] 40)) #[.int .i64 (cmpI a1 b1), .int .i64 (cmpI a2 b2), .int .i64 (cmpI a3 b3)] 3
  simp only [World.size_alloc] at K
  have k0 := row_cell K 0
  have k1 := row_cell K 1
  have k2 := row_cell K 2
  simp only [List.getElem?_toArray, List.getElem?_cons_zero, List.getElem?_cons_succ] at k0 k1 k2
  have K0 := Lib.hid k0
  have K1 := Lib.hid k1
  have K2 := Lib.hid k2
  clear K k0 k1 k2
  go_enter Try.func43, Try.ntmps43
  go_wp2_with fail
  go_region_held3 (fun w' => w'.cell? ⟨w.heap.size, 0, none⟩ = some (.int .u32 a1) ∧ w'.cell? ⟨w.heap.size, 1, none⟩ = some (.int .u32 a2) ∧ w'.cell? ⟨w.heap.size, 2, none⟩ = some (.int .u16 a3) ∧ w'.cell? ⟨w.heap.size + 1, 0, none⟩ = some (.int .u32 b1) ∧ w'.cell? ⟨w.heap.size + 1, 1, none⟩ = some (.int .u32 b2) ∧ w'.cell? ⟨w.heap.size + 1, 2, none⟩ = some (.int .u16 b3) ∧ w.heap.size + 1 < w'.heap.size ∧ Below w.heap.size w w') ((refine ⟨?_, ?_, ?_, ?_, ?_, ?_, ?_, ?_⟩ <;> first | assumption | exact bel_alloc (by assumption) _ | exact Below.drew (by assumption) | go_keep)) (first
    | (go_at_call 48; refine (H32.out _ _ _).mono ?_; rintro e w' ⟨rfl, rfl⟩)
    | (go_at_call 62; refine (H16.out _ _ _).mono ?_; rintro e w' ⟨rfl, rfl⟩)
    | (go_at_call 61; refine (HO.out (cmpI a1 b1) (cmpI a2 b2) (cmpI a3 b3) _ _ ?c0 ?c1 ?c2).mono ?_; (case c0 => exact K0.out); (case c1 => exact K1.out); (case c2 => exact K2.out); rintro e w' ⟨rfl, rfl⟩))
  go_wp2
  go_ret
  exact ⟨rfl, gr_drew (gr_alloc (gr_alloc (gr_alloc (gr_refl _) _) _) _)⟩
def lessT (a1 a2 a3 b1 b2 b3 : Int) : Bool := decide (a1 < b1 ∨ (a1 = b1 ∧ (a2 < b2 ∨ (a2 = b2 ∧ a3 < b3))))
theorem less_eq (a1 a2 a3 b1 b2 b3 : Int) : decide (orI (cmpI a1 b1) (cmpI a2 b2) (cmpI a3 b3) < 0) = lessT a1 a2 a3 b1 b2 b3 := by
  have key : ∀ a b : Int, (cmpI a b < 0 ↔ a < b) ∧ (cmpI a b = 0 ↔ a = b) := by
    intro a b
    unfold cmpI
    split
    · constructor <;> constructor <;> intro <;> omega
    · split
      · constructor <;> constructor <;> intro <;> omega
      · constructor <;> constructor <;> intro <;> omega
  unfold lessT orI
  have k1 := key a1 b1
  have k2 := key a2 b2
  have k3 := key a3 b3
  rw [decide_eq_decide]
  split
  · rename_i e1
    split
    · rename_i e2
      have e1' := k1.2.1 e1
      have e2' := k2.2.1 e2
      rw [k3.1]
      omega
    · rename_i e2
      have e1' := k1.2.1 e1
      have e2' : ¬ a2 = b2 := fun e => e2 (k2.2.2 e)
      rw [k2.1]
      omega
  · rename_i e1
    have e1' : ¬ a1 = b1 := fun e => e1 (k1.2.2 e)
    rw [k1.1]
    omega
theorem pless_any (a1 a2 a3 b1 b2 b3 : Int) (w : World) :
    Calls Try.prog 43 #[.agg #[.int .u32 a1, .int .u32 a2, .int .u16 a3], .agg #[.int .u32 b1, .int .u32 b2, .int .u16 b3]] w fun e w' => e = .returned (.bool (lessT a1 a2 a3 b1 b2 b3)) ∧ Gr w w' := by
  rw [← less_eq]
  exact less_any a1 a2 a3 b1 b2 b3 w
def cfR {n : Nat} (r1 r2 : RE n) : Int := if lessT r1.x.1 r1.x.2.1 r1.x.2.2 r2.x.1 r2.x.2.1 r2.x.2.2 = true then -1 else if lessT r2.x.1 r2.x.2.1 r2.x.2.2 r1.x.1 r1.x.2.1 r1.x.2.2 = true then 1 else 0
theorem byids_any (n : Nat) (r1 r2 : RE n) (w : World) : Calls Try.prog 30 #[r1.a, r2.a] w fun e w' => e = .returned (.int .i64 (cfR r1 r2)) ∧ Gr w w' := by
  obtain ⟨z, hz⟩ : ∃ z, cfR r1 r2 = z := ⟨_, rfl⟩
  rw [hz]
  unfold cfR at hz
  obtain ⟨⟨a1, a2, a3⟩, er1, K1, I1, F1, S1, q1, m1, d1, T1⟩ := r1
  obtain ⟨⟨b1, b2, b3⟩, er2, K2, I2, F2, S2, q2, m2, d2, T2⟩ := r2
  obtain ⟨w1, hw1⟩ : ∃ W, w.alloc (.cells #[.int .u32 a1, .int .u32 a2, .int .u16 a3, .int .i64 er1, .int .i64 K1, .int .i64 I1, .float .f64 F1, .string S1, .slice q1 m1 d1] 43) = W := ⟨_, rfl⟩
  obtain ⟨w2, hw2⟩ : ∃ W, w1.alloc (.cells #[.int .u32 b1, .int .u32 b2, .int .u16 b3, .int .i64 er2, .int .i64 K2, .int .i64 I2, .float .f64 F2, .string S2, .slice q2 m2 d2] 43) = W := ⟨_, rfl⟩
  obtain ⟨g, hg⟩ : ∃ g, w.heap.size = g := ⟨_, rfl⟩
  have hs1 : w1.heap.size = g + 1 := by rw [← hw1, World.size_alloc, hg]
  have HGR := Lib.hid (show Gr w w2 by rw [← hw2, ← hw1]; exact gr_alloc (gr_alloc (gr_refl w) _) _)
  have HB := Lib.hid (show Below g w w2 by rw [← hw2, ← hw1, ← hg]; exact bel_alloc (bel_alloc (Below.refl w.heap.size w) _) _)
  have hA : w2.heap[g]? = some (.cells #[.int .u32 a1, .int .u32 a2, .int .u16 a3, .int .i64 er1, .int .i64 K1, .int .i64 I1, .float .f64 F1, .string S1, .slice q1 m1 d1] 43 (0, 0)) := by rw [← hw2, ← hw1, ← hg]; exact row_alloc_step (row_alloc w _ _) _
  have hC : w2.heap[g + 1]? = some (.cells #[.int .u32 b1, .int .u32 b2, .int .u16 b3, .int .i64 er2, .int .i64 K2, .int .i64 I2, .float .f64 F2, .string S2, .slice q2 m2 d2] 43 (0, 0)) := by rw [← hw2, ← hs1]; exact row_alloc w1 _ _
  have HA := Lib.hid hA
  have HC := Lib.hid hC
  have c0 := row_cell hA 0; have c1 := row_cell hA 1; have c2 := row_cell hA 2
  have e0 := row_cell hC 0; have e1 := row_cell hC 1; have e2 := row_cell hC 2
  simp only [List.getElem?_toArray, List.getElem?_cons_zero, List.getElem?_cons_succ] at c0 c1 c2 e0 e1 e2
  clear hA hC
  obtain ⟨o1, ho1⟩ : ∃ o, lessT a1 a2 a3 b1 b2 b3 = o := ⟨_, rfl⟩
  obtain ⟨o2, ho2⟩ : ∃ o, lessT b1 b2 b3 a1 a2 a3 = o := ⟨_, rfl⟩
  have H1 := Lib.hid (fun W => (show Calls Try.prog 43 #[.agg #[.int .u32 a1, .int .u32 a2, .int .u16 a3], .agg #[.int .u32 b1, .int .u32 b2, .int .u16 b3]] W fun e w' => e = .returned (.bool o1) ∧ Gr W w' by rw [← ho1]; exact pless_any a1 a2 a3 b1 b2 b3 W))
  have H2 := Lib.hid (fun W => (show Calls Try.prog 43 #[.agg #[.int .u32 b1, .int .u32 b2, .int .u16 b3], .agg #[.int .u32 a1, .int .u32 a2, .int .u16 a3]] W fun e w' => e = .returned (.bool o2) ∧ Gr W w' by rw [← ho2]; exact pless_any b1 b2 b3 a1 a2 a3 W))
  simp only at hz
  rw [ho1, ho2] at hz
  clear ho1 ho2
  cases o1
  · cases o2
    all_goals
      have HZ := Lib.hid (congrArg (fun t => Ending.returned (.int .i64 t)) hz)
      clear hz
      go_enter Try.func30, Try.ntmps30
      go_wp2_with fail
      clear hw1 hw2
      go_at_call 43; refine (H1.out _).mono ?_; rintro e w3 ⟨rfl, hg3⟩; have hb3 := gr_below hg3; have HG3 := Lib.hid hg3
      have HB3 := Lib.hid (Below.trans HB.out (hb3.mono (show g ≤ w2.heap.size by have := row_lt HA.out; omega)))
      have hA := row_step HA.out hb3
      have hC := row_step HC.out hb3
      clear c0 c1 c2 e0 e1 e2 hb3
      have c0 := row_cell hA 0; have c1 := row_cell hA 1; have c2 := row_cell hA 2
      have e0 := row_cell hC 0; have e1 := row_cell hC 1; have e2 := row_cell hC 2
      simp only [List.getElem?_toArray, List.getElem?_cons_zero, List.getElem?_cons_succ] at c0 c1 c2 e0 e1 e2
      have HG := Lib.hid (show g ≤ w3.heap.size by have := row_lt hA; omega)
      clear hA hC
      go_wp2_with fail
      go_at_call 43; refine (H2.out _).mono ?_; rintro e w4 ⟨rfl, hg4⟩; have HG4 := Lib.hid hg4
      clear hg3 hg4 c0 c1 c2 e0 e1 e2
      go_wp2
      go_ret
      exact ⟨HZ.out, gr_trans (gr_trans HGR.out HG3.out) HG4.out⟩
  · have HZ := Lib.hid (congrArg (fun t => Ending.returned (.int .i64 t)) hz)
    clear hz
    go_enter Try.func30, Try.ntmps30
    go_wp2_with fail
    clear hw1 hw2
    go_at_call 43; refine (H1.out _).mono ?_; rintro e w3 ⟨rfl, hg3⟩; have hb3 := gr_below hg3; have HG3 := Lib.hid hg3
    have HB3 := Lib.hid (Below.trans HB.out (hb3.mono (show g ≤ w2.heap.size by have := row_lt HA.out; omega)))
    clear c0 c1 c2 e0 e1 e2 hb3 hg3
    go_wp2
    go_ret
    exact ⟨HZ.out, gr_trans HGR.out HG3.out⟩
end Num
end Go.Proofs.Ytijfgmhdkflfmaa
