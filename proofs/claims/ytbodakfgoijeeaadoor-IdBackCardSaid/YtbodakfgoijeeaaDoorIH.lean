/-
  The order of ids.
-/
import Derived.Test.YtbodakfgoijeeaaDoorIC
import Derived.Test.YtbodakfgoijeeaaDoorRow
import Derived.Outline
import Derived.Deep.RegionHeld3
namespace Go.Proofs.YtbodakfgoijeeaaDoor
open Go.RowKit Go.Sort Go.Lib
namespace Num
set_option linter.unusedSimpArgs false
set_option linter.unusedVariables false
def cmpI (a b : Int) : Int := if a < b then -1 else if b < a then 1 else 0
theorem cmp32_any (a b : Int) (w : World) : Calls Tryd.prog 21 #[.int .u32 a, .int .u32 b] w fun e w' => e = .returned (.int .i64 (cmpI a b)) ∧ w' = w := by
  unfold cmpI
  by_cases h1 : a < b
  · rw [if_pos h1]
    go_enter Tryd.func21, Tryd.ntmps21
    go_wp2
    go_ret
    exact ⟨rfl, rfl⟩
  · rw [if_neg h1]
    by_cases h2 : b < a
    · rw [if_pos h2]
      go_enter Tryd.func21, Tryd.ntmps21
      go_wp2
      go_ret
      exact ⟨rfl, rfl⟩
    · rw [if_neg h2]
      go_enter Tryd.func21, Tryd.ntmps21
      go_wp2
      go_ret
      exact ⟨rfl, rfl⟩
theorem cmp16_any (a b : Int) (w : World) : Calls Tryd.prog 22 #[.int .u16 a, .int .u16 b] w fun e w' => e = .returned (.int .i64 (cmpI a b)) ∧ w' = w := by
  unfold cmpI
  by_cases h1 : a < b
  · rw [if_pos h1]
    go_enter Tryd.func22, Tryd.ntmps22
    go_wp2
    go_ret
    exact ⟨rfl, rfl⟩
  · rw [if_neg h1]
    by_cases h2 : b < a
    · rw [if_pos h2]
      go_enter Tryd.func22, Tryd.ntmps22
      go_wp2
      go_ret
      exact ⟨rfl, rfl⟩
    · rw [if_neg h2]
      go_enter Tryd.func22, Tryd.ntmps22
      go_wp2
      go_ret
      exact ⟨rfl, rfl⟩
def orI (x y z : Int) : Int := if x = 0 then (if y = 0 then z else y) else x
theorem or_any (x y z : Int) (b : Nat) (w : World) (h0 : w.cell? ⟨b, 0, none⟩ = some (.int .i64 x)) (h1 : w.cell? ⟨b, 1, none⟩ = some (.int .i64 y)) (h2 : w.cell? ⟨b, 2, none⟩ = some (.int .i64 z)) :
    Calls Tryd.prog 20 #[.slice (some ⟨b, 0, none⟩) 3 3] w fun e w' => e = .returned (.int .i64 (orI x y z)) ∧ w' = w := by
  unfold orI
  by_cases hx : x = 0
  · rw [if_pos hx]
    by_cases hy : y = 0
    · rw [if_pos hy]
      by_cases hz : z = 0
      · go_enter Tryd.func20, Tryd.ntmps20
        go_wp2
        refine wp_loop_rounds 4 ?_
        rw [rounds_succ]
        go_wp2
        rw [rounds_succ]
        go_wp2
        rw [rounds_succ]
        go_wp2
        rw [rounds_succ]
        go_wp2
        go_ret
        exact ⟨by rw [hz]; rfl, rfl⟩
      · have bz : (z == 0) = false := by rw [beq_eq_false_iff_ne]; exact hz
        go_enter Tryd.func20, Tryd.ntmps20
        go_wp2
        refine wp_loop_rounds 3 ?_
        rw [rounds_succ]
        go_wp2
        rw [rounds_succ]
        go_wp2
        rw [rounds_succ]
        go_wp2
        go_ret
        exact ⟨rfl, rfl⟩
    · rw [if_neg hy]
      have bz : (y == 0) = false := by rw [beq_eq_false_iff_ne]; exact hy
      go_enter Tryd.func20, Tryd.ntmps20
      go_wp2
      refine wp_loop_rounds 2 ?_
      rw [rounds_succ]
      go_wp2
      rw [rounds_succ]
      go_wp2
      go_ret
      exact ⟨rfl, rfl⟩
  · rw [if_neg hx]
    have bz : (x == 0) = false := by rw [beq_eq_false_iff_ne]; exact hx
    go_enter Tryd.func20, Tryd.ntmps20
    go_wp2
    refine wp_loop_rounds 1 ?_
    rw [rounds_succ]
    go_wp2
    go_ret
    exact ⟨rfl, rfl⟩
set_option maxHeartbeats 4000000 in
theorem less_any (a1 a2 a3 b1 b2 b3 : Int) (w : World) :
    Calls Tryd.prog 11 #[Id a1 a2 a3, Id b1 b2 b3] w fun e w' => e = .returned (.bool (decide (orI (cmpI a1 b1) (cmpI a2 b2) (cmpI a3 b3) < 0))) ∧ Below w.heap.size w w' := by
  have H32 := Lib.hid (fun a b (W : World) => cmp32_any a b W)
  have H16 := Lib.hid (fun a b (W : World) => cmp16_any a b W)
  have HO := Lib.hid (fun x y z b (W : World) h0 h1 h2 => or_any x y z b W h0 h1 h2)
  have HB : Below w.heap.size w ((w.alloc (.cells #[.int .u32 a1, .int .u32 a2, .int .u16 a3] 25)).alloc (.cells #[.int .u32 b1, .int .u32 b2, .int .u16 b3] 25)).drew := (bel_alloc (bel_alloc (Below.refl _ _) _) _).drew
  have K := row_alloc ((w.alloc (.cells #[.int .u32 a1, .int .u32 a2, .int .u16 a3] 25)).alloc (.cells #[.int .u32 b1, .int .u32 b2, .int .u16 b3] 25)) #[.int .i64 (cmpI a1 b1), .int .i64 (cmpI a2 b2), .int .i64 (cmpI a3 b3)] 3
  simp only [World.size_alloc] at K
  have k0 := row_cell K 0
  have k1 := row_cell K 1
  have k2 := row_cell K 2
  simp only [List.getElem?_toArray, List.getElem?_cons_zero, List.getElem?_cons_succ] at k0 k1 k2
  have K0 := Lib.hid k0
  have K1 := Lib.hid k1
  have K2 := Lib.hid k2
  clear K k0 k1 k2
  unfold Id
  go_enter Tryd.func11, Tryd.ntmps11
  go_wp2_with fail
  go_region_held3 (fun w' => w'.cell? ⟨w.heap.size, 0, none⟩ = some (.int .u32 a1) ∧ w'.cell? ⟨w.heap.size, 1, none⟩ = some (.int .u32 a2) ∧ w'.cell? ⟨w.heap.size, 2, none⟩ = some (.int .u16 a3) ∧ w'.cell? ⟨w.heap.size + 1, 0, none⟩ = some (.int .u32 b1) ∧ w'.cell? ⟨w.heap.size + 1, 1, none⟩ = some (.int .u32 b2) ∧ w'.cell? ⟨w.heap.size + 1, 2, none⟩ = some (.int .u16 b3) ∧ w.heap.size + 1 < w'.heap.size ∧ Below w.heap.size w w') ((refine ⟨?_, ?_, ?_, ?_, ?_, ?_, ?_, ?_⟩ <;> first | assumption | exact bel_alloc (by assumption) _ | exact Below.drew (by assumption) | go_keep)) (first
    | (go_at_call 21; refine (H32.out _ _ _).mono ?_; rintro e w' ⟨rfl, rfl⟩)
    | (go_at_call 22; refine (H16.out _ _ _).mono ?_; rintro e w' ⟨rfl, rfl⟩)
    | (go_at_call 20; refine (HO.out (cmpI a1 b1) (cmpI a2 b2) (cmpI a3 b3) _ _ ?c0 ?c1 ?c2).mono ?_; (case c0 => exact K0.out); (case c1 => exact K1.out); (case c2 => exact K2.out); rintro e w' ⟨rfl, rfl⟩))
  go_wp2
  go_ret
  exact ⟨rfl, (bel_alloc (bel_alloc (bel_alloc (Below.refl _ _) _) _) _).drew⟩
def lessT (a1 a2 a3 b1 b2 b3 : Int) : Bool := decide (a1 < b1 ∨ (a1 = b1 ∧ (a2 < b2 ∨ (a2 = b2 ∧ a3 < b3))))
theorem less_eq (a1 a2 a3 b1 b2 b3 : Int) : decide (orI (cmpI a1 b1) (cmpI a2 b2) (cmpI a3 b3) < 0) = lessT a1 a2 a3 b1 b2 b3 := by
  have key : ∀ a b : Int, (cmpI a b < 0 ↔ a < b) ∧ (cmpI a b = 0 ↔ a = b) := by
    intro a b
    unfold cmpI
    split
    · constructor <;> constructor <;> intro <;> omega
    · split
      · constructor <;> constructor <;> intro <;> omega
      · constructor <;> constructor <;> intro <;> omega
  unfold lessT orI
  have k1 := key a1 b1
  have k2 := key a2 b2
  have k3 := key a3 b3
  rw [decide_eq_decide]
  split
  · rename_i e1
    split
    · rename_i e2
      have e1' := k1.2.1 e1
      have e2' := k2.2.1 e2
      rw [k3.1]
      omega
    · rename_i e2
      have e1' := k1.2.1 e1
      have e2' : ¬ a2 = b2 := fun e => e2 (k2.2.2 e)
      rw [k2.1]
      omega
  · rename_i e1
    have e1' : ¬ a1 = b1 := fun e => e1 (k1.2.2 e)
    rw [k1.1]
    omega
theorem pless_any (a1 a2 a3 b1 b2 b3 : Int) (w : World) :
    Calls Tryd.prog 11 #[Id a1 a2 a3, Id b1 b2 b3] w fun e w' => e = .returned (.bool (lessT a1 a2 a3 b1 b2 b3)) ∧ Below w.heap.size w w' := by
  rw [← less_eq]
  exact less_any a1 a2 a3 b1 b2 b3 w
set_option maxHeartbeats 4000000 in
theorem rless_any (a1 a2 a3 b1 b2 b3 : Int) (w : World) :
    Calls Tryd.prog 12 #[Id a1 a2 a3, Id b1 b2 b3] w fun e w' => e = .returned (.bool (lessT a1 a2 a3 b1 b2 b3)) ∧ Below w.heap.size w w' := by
  have HB := Lib.hid (bel_alloc (bel_alloc (Below.refl _ w) (.cells #[.int .u32 a1, .int .u32 a2, .int .u16 a3] 25)) (.cells #[.int .u32 b1, .int .u32 b2, .int .u16 b3] 25))
  unfold Id
  by_cases h1 : a1 = b1
  · by_cases h2 : a2 = b2
    · have e : lessT a1 a2 a3 b1 b2 b3 = decide (a3 < b3) := by unfold lessT; rw [decide_eq_decide]; omega
      rw [e]
      subst h1
      subst h2
      go_enter Tryd.func12, Tryd.ntmps12
      go_wp2
      go_ret
      exact ⟨rfl, HB.out⟩
    · have e : lessT a1 a2 a3 b1 b2 b3 = decide (a2 < b2) := by unfold lessT; rw [decide_eq_decide]; omega
      rw [e]
      subst h1
      have bz : (a2 == b2) = false := by rw [beq_eq_false_iff_ne]; exact h2
      go_enter Tryd.func12, Tryd.ntmps12
      go_wp2
      go_ret
      exact ⟨rfl, HB.out⟩
  · have e : lessT a1 a2 a3 b1 b2 b3 = decide (a1 < b1) := by unfold lessT; rw [decide_eq_decide]; omega
    rw [e]
    have bz : (a1 == b1) = false := by rw [beq_eq_false_iff_ne]; exact h1
    go_enter Tryd.func12, Tryd.ntmps12
    go_wp2
    go_ret
    exact ⟨rfl, HB.out⟩
set_option maxHeartbeats 4000000 in
theorem root_any (a1 a2 a3 : Int) (w : World) :
    Calls Tryd.prog 14 #[Id a1 a2 a3] w fun e w' => e = .returned (Id a1 a2 0) ∧ Below w.heap.size w w' := by
  unfold Id
  go_enter Tryd.func14, Tryd.ntmps14
  go_wp2
  exact bodyPost_ret (v := .agg #[.int .u32 a1, .int .u32 a2, .int .u16 0]) (by simp [results, Tryd.results14, go_sem]) rfl ⟨rfl, bel_alloc (bel_alloc (Below.refl _ _) _) _⟩
end Num
end Go.Proofs.YtbodakfgoijeeaaDoor
