/-
  Package guard: caught, of the law's own closures.
-/
import Derived.Test.YtgeicgfijnabkaaDoorGc
namespace Go.Proofs.YtgeicgfijnabkaaDoor
open Go.RowKit
namespace Num
open Ints
set_option linter.unusedSimpArgs false
set_option linter.unusedVariables false
set_option maxRecDepth 100000 in
set_option maxHeartbeats 4000000 in
theorem caught_pan_tells (a0 a1 a2 : Nat) (l : List Nat) (R : TypeId → Value → Prop) (Q : World → Prop) (w : World) (hl : ∀ k ∈ l, k < w.heap.size) (hQ : Hid (Stab w.heap.size Q))
    (HC : Hid (∀ W, Below w.heap.size w W → Calls Tryd.prog 17 #[.pointer (some ⟨a0, 0, none⟩), .pointer (some ⟨a1, 0, none⟩), .pointer (some ⟨a2, 0, none⟩)] W fun e w' => (∃ u pv, e = .panicked [{ v := .iface u pv, recovered := false }] ∧ R u pv) ∧ Kept l W w' ∧ Q w')) :
    Calls Tryd.prog 25 #[.func (.func 17) #[] #[.pointer (some ⟨a0, 0, none⟩), .pointer (some ⟨a1, 0, none⟩), .pointer (some ⟨a2, 0, none⟩)]] w fun e w' => (∃ u pv, e = .returned (.tuple #[.iface u pv, .bool true]) ∧ R u pv) ∧ Kept l w w' ∧ Q w' := by
  have hmf : ∀ (fn : Fn) (first cap : Array Value) (w : World), (Instr.makeFunc fn first cap).run Tryd.prog w = .ok (.func fn first cap) w := fun _ _ _ _ => rfl
  have HB := Lib.hid (bel_alloc (bel_alloc (Below.refl w.heap.size w) (.cells #[.nilIface] 20)) (.cells #[.bool true] 4))
  have HG0 := Lib.hid (row_alloc_step (row_alloc w #[.nilIface] 20) (.cells #[.bool true] 4))
  have hg1 := row_alloc (w.alloc (.cells #[.nilIface] 20)) #[.bool true] 4
  rw [World.size_alloc] at hg1
  have HG1 := Lib.hid hg1
  clear hg1
  go_enter_defers Tryd.func25, Tryd.ntmps25
  go_wp2_with fail
  go_at_call 17; refine (HC.out _ HB.out).mono ?_; rintro e w5 ⟨⟨u, pv, rfl, hR⟩, hk5, hq5⟩
  have g0 := kept_row hk5 HG0.out (fun hm => by have := hl _ hm; omega)
  have g1 := kept_row hk5 HG1.out (fun hm => by have := hl _ hm; omega)
  have c0 := row_cell g0 0; have c1 := row_cell g1 0
  simp only [List.getElem?_toArray, List.getElem?_cons_zero, List.getElem?_cons_succ] at c0 c1
  have f0 := fun o => row_frz g0 o
  have f1 := fun o => row_frz g1 o
  have HK := Lib.hid (kept_trans (kept_below HB.out) hk5)
  have HQ5 := Lib.hid hq5
  have l0 := row_lt g0; have l1 := row_lt g1
  clear hk5 hq5 g0 g1
  refine leaves_cons (f := 36) (args := #[.pointer (some ⟨w.heap.size + 1, 0, none⟩), .pointer (some ⟨w.heap.size, 0, none⟩)]) (by simp) (by simp [go_sem]) ?_
  refine (caught_catch (w.heap.size + 1) w.heap.size _ u pv [] w5 c1 c0 f0).mono ?_
  rintro e u' w'' ⟨rfl, rfl, rfl⟩
  simp only [Leaves]
  refine ⟨.tuple #[.iface u pv, .bool true], ?_, ⟨u, pv, rfl, hR⟩, kept_set HK.out (Or.inr (Nat.le_refl _)), hQ.out.1 _ _ _ _ (Nat.le_refl _) HQ5.out⟩
  simp [results, Tryd.results25, go_sem, World.cell?_setCell_same, World.cell?_setCell_other, c0, c1]
set_option maxRecDepth 100000 in
set_option maxHeartbeats 4000000 in
theorem caught_pan_known1 (l : List Nat) (R : TypeId → Value → Prop) (Q : World → Prop) (w : World) (hl : ∀ k ∈ l, k < w.heap.size) (hQ : Hid (Stab w.heap.size Q))
    (HC : Hid (∀ W, Below w.heap.size w W → Calls Tryd.prog 21 #[] W fun e w' => (∃ u pv, e = .panicked [{ v := .iface u pv, recovered := false }] ∧ R u pv) ∧ Kept l W w' ∧ Q w')) :
    Calls Tryd.prog 25 #[.func (.func 21) #[] #[]] w fun e w' => (∃ u pv, e = .returned (.tuple #[.iface u pv, .bool true]) ∧ R u pv) ∧ Kept l w w' ∧ Q w' := by
  have hmf : ∀ (fn : Fn) (first cap : Array Value) (w : World), (Instr.makeFunc fn first cap).run Tryd.prog w = .ok (.func fn first cap) w := fun _ _ _ _ => rfl
  have HB := Lib.hid (bel_alloc (bel_alloc (Below.refl w.heap.size w) (.cells #[.nilIface] 20)) (.cells #[.bool true] 4))
  have HG0 := Lib.hid (row_alloc_step (row_alloc w #[.nilIface] 20) (.cells #[.bool true] 4))
  have hg1 := row_alloc (w.alloc (.cells #[.nilIface] 20)) #[.bool true] 4
  rw [World.size_alloc] at hg1
  have HG1 := Lib.hid hg1
  clear hg1
  go_enter_defers Tryd.func25, Tryd.ntmps25
  go_wp2_with fail
  go_at_call 21; refine (HC.out _ HB.out).mono ?_; rintro e w5 ⟨⟨u, pv, rfl, hR⟩, hk5, hq5⟩
  have g0 := kept_row hk5 HG0.out (fun hm => by have := hl _ hm; omega)
  have g1 := kept_row hk5 HG1.out (fun hm => by have := hl _ hm; omega)
  have c0 := row_cell g0 0; have c1 := row_cell g1 0
  simp only [List.getElem?_toArray, List.getElem?_cons_zero, List.getElem?_cons_succ] at c0 c1
  have f0 := fun o => row_frz g0 o
  have f1 := fun o => row_frz g1 o
  have HK := Lib.hid (kept_trans (kept_below HB.out) hk5)
  have HQ5 := Lib.hid hq5
  have l0 := row_lt g0; have l1 := row_lt g1
  clear hk5 hq5 g0 g1
  refine leaves_cons (f := 36) (args := #[.pointer (some ⟨w.heap.size + 1, 0, none⟩), .pointer (some ⟨w.heap.size, 0, none⟩)]) (by simp) (by simp [go_sem]) ?_
  refine (caught_catch (w.heap.size + 1) w.heap.size _ u pv [] w5 c1 c0 f0).mono ?_
  rintro e u' w'' ⟨rfl, rfl, rfl⟩
  simp only [Leaves]
  refine ⟨.tuple #[.iface u pv, .bool true], ?_, ⟨u, pv, rfl, hR⟩, kept_set HK.out (Or.inr (Nat.le_refl _)), hQ.out.1 _ _ _ _ (Nat.le_refl _) HQ5.out⟩
  simp [results, Tryd.results25, go_sem, World.cell?_setCell_same, World.cell?_setCell_other, c0, c1]
set_option maxRecDepth 100000 in
set_option maxHeartbeats 4000000 in
theorem caught_ret_known2 (l : List Nat) (Q : World → Prop) (w : World) (hl : ∀ k ∈ l, k < w.heap.size) (hQ : Hid (Stab w.heap.size Q))
    (HC : Hid (∀ W, Below w.heap.size w W → Calls Tryd.prog 22 #[] W fun e w' => e = .returned (.tuple #[]) ∧ Kept l W w' ∧ Q w')) :
    Calls Tryd.prog 25 #[.func (.func 22) #[] #[]] w fun e w' => e = .returned (.tuple #[.nilIface, .bool false]) ∧ Kept l w w' ∧ Q w' := by
  have hmf : ∀ (fn : Fn) (first cap : Array Value) (w : World), (Instr.makeFunc fn first cap).run Tryd.prog w = .ok (.func fn first cap) w := fun _ _ _ _ => rfl
  have HB := Lib.hid (bel_alloc (bel_alloc (Below.refl w.heap.size w) (.cells #[.nilIface] 20)) (.cells #[.bool true] 4))
  have HG0 := Lib.hid (row_alloc_step (row_alloc w #[.nilIface] 20) (.cells #[.bool true] 4))
  have hg1 := row_alloc (w.alloc (.cells #[.nilIface] 20)) #[.bool true] 4
  rw [World.size_alloc] at hg1
  have HG1 := Lib.hid hg1
  clear hg1
  go_enter_defers Tryd.func25, Tryd.ntmps25
  go_wp2_with fail
  go_at_call 22; refine (HC.out _ HB.out).mono ?_; rintro e w5 ⟨rfl, hk5, hq5⟩
  have g0 := kept_row hk5 HG0.out (fun hm => by have := hl _ hm; omega)
  have g1 := kept_row hk5 HG1.out (fun hm => by have := hl _ hm; omega)
  have c0 := row_cell g0 0; have c1 := row_cell g1 0
  simp only [List.getElem?_toArray, List.getElem?_cons_zero, List.getElem?_cons_succ] at c0 c1
  have f0 := fun o => row_frz g0 o
  have f1 := fun o => row_frz g1 o
  have HK := Lib.hid (kept_trans (kept_below HB.out) hk5)
  have HQ5 := Lib.hid hq5
  have l0 := row_lt g0; have l1 := row_lt g1
  clear hk5 hq5 g0 g1
  go_wp2
  refine leaves_cons (f := 36) (args := #[.pointer (some ⟨w.heap.size + 1, 0, none⟩), .pointer (some ⟨w.heap.size, 0, none⟩)]) (by simp) (by simp [go_sem]) ?_
  refine (caught_idle (w.heap.size + 1) w.heap.size _ (by simp [World.cell?_setCell_same, World.cell?_setCell_other, c1])).mono ?_
  rintro e u' w'' ⟨rfl, rfl, rfl⟩
  simp only [Leaves]
  refine ⟨.tuple #[.nilIface, .bool false], ?_, rfl, kept_set (kept_set HK.out (Or.inr (Nat.le_refl _))) (Or.inr (Nat.le_succ _)), hQ.out.1 _ _ _ _ (Nat.le_succ _) (hQ.out.1 _ _ _ _ (Nat.le_refl _) HQ5.out)⟩
  simp [results, Tryd.results25, go_sem, World.cell?_setCell_same, World.cell?_setCell_other, c0, c1]
end Num
end Go.Proofs.YtgeicgfijnabkaaDoor
