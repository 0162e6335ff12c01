/-
  Package guard: caught.
-/
import Derived.Test.YtgeicgfijnabkaaDoorGb
namespace Go.Proofs.YtgeicgfijnabkaaDoor
open Go.RowKit
namespace Num
open Ints
set_option linter.unusedSimpArgs false
set_option linter.unusedVariables false
set_option maxRecDepth 100000 in
set_option maxHeartbeats 4000000 in
theorem caught_catch (pb wb : Nat) (x : Value) (u : TypeId) (pv : Value) (older : List PanicEntry) (w : World) (cp : w.cell? ⟨pb, 0, none⟩ = some (.bool true)) (cw : w.cell? ⟨wb, 0, none⟩ = some x) (hz : ∀ o, w.frozen? ⟨wb, o, none⟩ = false) :
    CallsD Tryd.prog 36 #[.pointer (some ⟨pb, 0, none⟩), .pointer (some ⟨wb, 0, none⟩)] (.panicking ({ v := .iface u pv, recovered := false } :: older)) w fun e u' w' =>
      e = .returned (.tuple #[]) ∧ u' = .panicking ({ v := .iface u pv, recovered := true } :: older) ∧ w' = w.setCell ⟨wb, 0, none⟩ (.iface u pv) := by
  refine callsD_of_wpS Tryd.func36 rfl fun c₀ cs hu => ?_
  apply wpS_seq
  apply wpS_region
  simp [wpOpsS, go_sem, cp, Tryd.ntmps36, Exit.thenS]
  refine wpS_cond (t := true) (by simp [Act.eval, Array.replicate]) ?_
  simp only [if_true]
  apply wpS_region
  simp [wpOpsS, go_sem, recoverD, hu, cw, hz, bodyPostS, results, Tryd.results36]
set_option maxRecDepth 100000 in
set_option maxHeartbeats 4000000 in
theorem caught_idle (pb wb : Nat) (w : World) (cp : w.cell? ⟨pb, 0, none⟩ = some (.bool false)) :
    CallsD Tryd.prog 36 #[.pointer (some ⟨pb, 0, none⟩), .pointer (some ⟨wb, 0, none⟩)] .returning w fun e u' w' => e = .returned (.tuple #[]) ∧ u' = .returning ∧ w' = w := by
  refine callsD_of_wpS Tryd.func36 rfl fun c₀ cs hu => ?_
  apply wpS_seq
  apply wpS_region
  simp [wpOpsS, go_sem, cp, Tryd.ntmps36, Exit.thenS]
  refine wpS_cond (t := false) (by simp [Act.eval, Array.replicate]) ?_
  simp only [Bool.false_eq_true, if_false]
  refine wpS_of_wp (wp_skip ?_)
  cases c₀
  simp_all [bodyPostS, results, Tryd.results36]
set_option maxRecDepth 100000 in
set_option maxHeartbeats 4000000 in
theorem caught_pan_run (a0 a1 a2 : Nat) (l : List Nat) (R : TypeId → Value → Prop) (Q : World → Prop) (w : World) (hl : ∀ k ∈ l, k < w.heap.size) (hQ : Hid (Stab w.heap.size Q))
    (HC : Hid (∀ W, Below w.heap.size w W → Calls Tryd.prog 26 #[.pointer (some ⟨a0, 0, none⟩), .pointer (some ⟨a1, 0, none⟩), .pointer (some ⟨a2, 0, none⟩)] W fun e w' => (∃ u pv, e = .panicked [{ v := .iface u pv, recovered := false }] ∧ R u pv) ∧ Kept l W w' ∧ Q w')) :
    Calls Tryd.prog 25 #[.func (.func 26) #[] #[.pointer (some ⟨a0, 0, none⟩), .pointer (some ⟨a1, 0, none⟩), .pointer (some ⟨a2, 0, none⟩)]] w fun e w' => (∃ u pv, e = .returned (.tuple #[.iface u pv, .bool true]) ∧ R u pv) ∧ Kept l w w' ∧ Q w' := by
  have hmf : ∀ (fn : Fn) (first cap : Array Value) (w : World), (Instr.makeFunc fn first cap).run Tryd.prog w = .ok (.func fn first cap) w := fun _ _ _ _ => rfl
  have HB := Lib.hid (bel_alloc (bel_alloc (Below.refl w.heap.size w) (.cells #[.nilIface] 20)) (.cells #[.bool true] 4))
  have HG0 := Lib.hid (row_alloc_step (row_alloc w #[.nilIface] 20) (.cells #[.bool true] 4))
  have hg1 := row_alloc (w.alloc (.cells #[.nilIface] 20)) #[.bool true] 4
  rw [World.size_alloc] at hg1
  have HG1 := Lib.hid hg1
  clear hg1
  go_enter_defers Tryd.func25, Tryd.ntmps25
  go_wp2_with fail
  go_at_call 26; refine (HC.out _ HB.out).mono ?_; rintro e w5 ⟨⟨u, pv, rfl, hR⟩, hk5, hq5⟩
  have g0 := kept_row hk5 HG0.out (fun hm => by have := hl _ hm; omega)
  have g1 := kept_row hk5 HG1.out (fun hm => by have := hl _ hm; omega)
  have c0 := row_cell g0 0; have c1 := row_cell g1 0
  simp only [List.getElem?_toArray, List.getElem?_cons_zero, List.getElem?_cons_succ] at c0 c1
  have f0 := fun o => row_frz g0 o
  have f1 := fun o => row_frz g1 o
  have HK := Lib.hid (kept_trans (kept_below HB.out) hk5)
  have HQ5 := Lib.hid hq5
  have l0 := row_lt g0; have l1 := row_lt g1
  clear hk5 hq5 g0 g1
  refine leaves_cons (f := 36) (args := #[.pointer (some ⟨w.heap.size + 1, 0, none⟩), .pointer (some ⟨w.heap.size, 0, none⟩)]) (by simp) (by simp [go_sem]) ?_
  refine (caught_catch (w.heap.size + 1) w.heap.size _ u pv [] w5 c1 c0 f0).mono ?_
  rintro e u' w'' ⟨rfl, rfl, rfl⟩
  simp only [Leaves]
  refine ⟨.tuple #[.iface u pv, .bool true], ?_, ⟨u, pv, rfl, hR⟩, kept_set HK.out (Or.inr (Nat.le_refl _)), hQ.out.1 _ _ _ _ (Nat.le_refl _) HQ5.out⟩
  simp [results, Tryd.results25, go_sem, World.cell?_setCell_same, World.cell?_setCell_other, c0, c1]
set_option maxRecDepth 100000 in
set_option maxHeartbeats 4000000 in
theorem caught_ret_run (a0 a1 a2 : Nat) (l : List Nat) (Q : World → Prop) (w : World) (hl : ∀ k ∈ l, k < w.heap.size) (hQ : Hid (Stab w.heap.size Q))
    (HC : Hid (∀ W, Below w.heap.size w W → Calls Tryd.prog 26 #[.pointer (some ⟨a0, 0, none⟩), .pointer (some ⟨a1, 0, none⟩), .pointer (some ⟨a2, 0, none⟩)] W fun e w' => e = .returned (.tuple #[]) ∧ Kept l W w' ∧ Q w')) :
    Calls Tryd.prog 25 #[.func (.func 26) #[] #[.pointer (some ⟨a0, 0, none⟩), .pointer (some ⟨a1, 0, none⟩), .pointer (some ⟨a2, 0, none⟩)]] w fun e w' => e = .returned (.tuple #[.nilIface, .bool false]) ∧ Kept l w w' ∧ Q w' := by
  have hmf : ∀ (fn : Fn) (first cap : Array Value) (w : World), (Instr.makeFunc fn first cap).run Tryd.prog w = .ok (.func fn first cap) w := fun _ _ _ _ => rfl
  have HB := Lib.hid (bel_alloc (bel_alloc (Below.refl w.heap.size w) (.cells #[.nilIface] 20)) (.cells #[.bool true] 4))
  have HG0 := Lib.hid (row_alloc_step (row_alloc w #[.nilIface] 20) (.cells #[.bool true] 4))
  have hg1 := row_alloc (w.alloc (.cells #[.nilIface] 20)) #[.bool true] 4
  rw [World.size_alloc] at hg1
  have HG1 := Lib.hid hg1
  clear hg1
  go_enter_defers Tryd.func25, Tryd.ntmps25
  go_wp2_with fail
  go_at_call 26; refine (HC.out _ HB.out).mono ?_; rintro e w5 ⟨rfl, hk5, hq5⟩
  have g0 := kept_row hk5 HG0.out (fun hm => by have := hl _ hm; omega)
  have g1 := kept_row hk5 HG1.out (fun hm => by have := hl _ hm; omega)
  have c0 := row_cell g0 0; have c1 := row_cell g1 0
  simp only [List.getElem?_toArray, List.getElem?_cons_zero, List.getElem?_cons_succ] at c0 c1
  have f0 := fun o => row_frz g0 o
  have f1 := fun o => row_frz g1 o
  have HK := Lib.hid (kept_trans (kept_below HB.out) hk5)
  have HQ5 := Lib.hid hq5
  have l0 := row_lt g0; have l1 := row_lt g1
  clear hk5 hq5 g0 g1
  go_wp2
  refine leaves_cons (f := 36) (args := #[.pointer (some ⟨w.heap.size + 1, 0, none⟩), .pointer (some ⟨w.heap.size, 0, none⟩)]) (by simp) (by simp [go_sem]) ?_
  refine (caught_idle (w.heap.size + 1) w.heap.size _ (by simp [World.cell?_setCell_same, World.cell?_setCell_other, c1])).mono ?_
  rintro e u' w'' ⟨rfl, rfl, rfl⟩
  simp only [Leaves]
  refine ⟨.tuple #[.nilIface, .bool false], ?_, rfl, kept_set (kept_set HK.out (Or.inr (Nat.le_refl _))) (Or.inr (Nat.le_succ _)), hQ.out.1 _ _ _ _ (Nat.le_succ _) (hQ.out.1 _ _ _ _ (Nat.le_refl _) HQ5.out)⟩
  simp [results, Tryd.results25, go_sem, World.cell?_setCell_same, World.cell?_setCell_other, c0, c1]
set_option maxRecDepth 100000 in
set_option maxHeartbeats 4000000 in
theorem caught_ret_said (a0 a1 : Nat) (l : List Nat) (Q : World → Prop) (w : World) (hl : ∀ k ∈ l, k < w.heap.size) (hQ : Hid (Stab w.heap.size Q))
    (HC : Hid (∀ W, Below w.heap.size w W → Calls Tryd.prog 47 #[.pointer (some ⟨a0, 0, none⟩), .pointer (some ⟨a1, 0, none⟩)] W fun e w' => e = .returned (.tuple #[]) ∧ Kept l W w' ∧ Q w')) :
    Calls Tryd.prog 25 #[.func (.func 47) #[] #[.pointer (some ⟨a0, 0, none⟩), .pointer (some ⟨a1, 0, none⟩)]] w fun e w' => e = .returned (.tuple #[.nilIface, .bool false]) ∧ Kept l w w' ∧ Q w' := by
  have hmf : ∀ (fn : Fn) (first cap : Array Value) (w : World), (Instr.makeFunc fn first cap).run Tryd.prog w = .ok (.func fn first cap) w := fun _ _ _ _ => rfl
  have HB := Lib.hid (bel_alloc (bel_alloc (Below.refl w.heap.size w) (.cells #[.nilIface] 20)) (.cells #[.bool true] 4))
  have HG0 := Lib.hid (row_alloc_step (row_alloc w #[.nilIface] 20) (.cells #[.bool true] 4))
  have hg1 := row_alloc (w.alloc (.cells #[.nilIface] 20)) #[.bool true] 4
  rw [World.size_alloc] at hg1
  have HG1 := Lib.hid hg1
  clear hg1
  go_enter_defers Tryd.func25, Tryd.ntmps25
  go_wp2_with fail
  go_at_call 47; refine (HC.out _ HB.out).mono ?_; rintro e w5 ⟨rfl, hk5, hq5⟩
  have g0 := kept_row hk5 HG0.out (fun hm => by have := hl _ hm; omega)
  have g1 := kept_row hk5 HG1.out (fun hm => by have := hl _ hm; omega)
  have c0 := row_cell g0 0; have c1 := row_cell g1 0
  simp only [List.getElem?_toArray, List.getElem?_cons_zero, List.getElem?_cons_succ] at c0 c1
  have f0 := fun o => row_frz g0 o
  have f1 := fun o => row_frz g1 o
  have HK := Lib.hid (kept_trans (kept_below HB.out) hk5)
  have HQ5 := Lib.hid hq5
  have l0 := row_lt g0; have l1 := row_lt g1
  clear hk5 hq5 g0 g1
  go_wp2
  refine leaves_cons (f := 36) (args := #[.pointer (some ⟨w.heap.size + 1, 0, none⟩), .pointer (some ⟨w.heap.size, 0, none⟩)]) (by simp) (by simp [go_sem]) ?_
  refine (caught_idle (w.heap.size + 1) w.heap.size _ (by simp [World.cell?_setCell_same, World.cell?_setCell_other, c1])).mono ?_
  rintro e u' w'' ⟨rfl, rfl, rfl⟩
  simp only [Leaves]
  refine ⟨.tuple #[.nilIface, .bool false], ?_, rfl, kept_set (kept_set HK.out (Or.inr (Nat.le_refl _))) (Or.inr (Nat.le_succ _)), hQ.out.1 _ _ _ _ (Nat.le_succ _) (hQ.out.1 _ _ _ _ (Nat.le_refl _) HQ5.out)⟩
  simp [results, Tryd.results25, go_sem, World.cell?_setCell_same, World.cell?_setCell_other, c0, c1]
end Num
end Go.Proofs.YtgeicgfijnabkaaDoor
