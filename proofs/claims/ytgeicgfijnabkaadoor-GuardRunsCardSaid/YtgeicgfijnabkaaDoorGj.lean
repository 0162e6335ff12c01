/-
  Package guard: Run's function, of closures one by one.
-/
import Derived.Test.YtgeicgfijnabkaaDoorGc
import Derived.Test.YtgeicgfijnabkaaDoorGi
namespace Go.Proofs.YtgeicgfijnabkaaDoor
open Go.RowKit
namespace Num
open Ints
set_option linter.unusedSimpArgs false
set_option linter.unusedVariables false
set_option maxRecDepth 100000 in
set_option maxHeartbeats 4000000 in
theorem runc_ret_told (b0 b1 : Nat) (a0 a1 a2 : Nat) (x0 x1 x2 x3 x4 xe : Value) (l : List Nat) (Q : World → Prop) (K I : Int) (F : Nat) (S : ByteArray) (q : Option Addr) (m d : Nat) (ev : Int) (w : World) (c0 : w.cell? ⟨a0, 0, none⟩ = some (.func (.func 28) #[] #[.pointer (some ⟨b0, 0, none⟩), .pointer (some ⟨b1, 0, none⟩)])) (r1 : w.heap[a1]? = some (.cells #[x0, x1, x2, x3, x4] 25 (0, 0))) (r2 : w.heap[a2]? = some (.cells #[xe] 29 (0, 0))) (h1 : a1 ∉ l) (h2 : a2 ∉ l) (h12 : a1 ≠ a2)
    (HC : Hid (Calls Tryd.prog 28 #[.pointer (some ⟨b0, 0, none⟩), .pointer (some ⟨b1, 0, none⟩)] w fun e w' => e = .returned (.tuple #[.agg #[.int .i64 K, .int .i64 I, .float .f64 F, .string S, .slice q m d], .int .i64 ev]) ∧ Kept l w w' ∧ Q w')) :
    Calls Tryd.prog 26 #[.pointer (some ⟨a0, 0, none⟩), .pointer (some ⟨a1, 0, none⟩), .pointer (some ⟨a2, 0, none⟩)] w fun e w' => ∃ w5, e = .returned (.tuple #[]) ∧ Kept l w w5 ∧ Q w5 ∧ w' = (set5 w5 a1 0 (.int .i64 K) (.int .i64 I) (.float .f64 F) (.string S) (.slice q m d)).setCell ⟨a2, 0, none⟩ (.int .i64 ev) := by
  have HR1 := Lib.hid r1
  have HR2 := Lib.hid r2
  clear r1 r2
  go_enter Tryd.func26, Tryd.ntmps26
  go_wp2_with fail
  go_at_call 28; refine HC.out.mono ?_; rintro e w5 ⟨rfl, hk5, hq5⟩
  have g1 := kept_row hk5 HR1.out h1
  have g2 := kept_row hk5 HR2.out h2
  have d0 := row_cell g1 0; have d1 := row_cell g1 1; have d2 := row_cell g1 2; have d3 := row_cell g1 3; have d4 := row_cell g1 4; have de := row_cell g2 0
  simp only [List.getElem?_toArray, List.getElem?_cons_zero, List.getElem?_cons_succ] at d0 d1 d2 d3 d4 de
  have f1 := fun o => row_frz g1 o
  have f2 := fun o => row_frz g2 o
  have HK := Lib.hid hk5
  have HQ := Lib.hid hq5
  clear hk5 hq5 g1 g2
  go_wp2
  go_end0
  exact ⟨w5, rfl, HK.out, HQ.out, rfl⟩
set_option maxRecDepth 100000 in
set_option maxHeartbeats 4000000 in
theorem runc_pan_rises (b0 b1 b2 : Nat) (a0 a1 a2 : Nat) (l : List Nat) (Q : World → Prop) (w : World) (c0 : w.cell? ⟨a0, 0, none⟩ = some (.func (.func 33) #[] #[.pointer (some ⟨b0, 0, none⟩), .pointer (some ⟨b1, 0, none⟩), .pointer (some ⟨b2, 0, none⟩)]))
    (HC : Hid (Calls Tryd.prog 33 #[.pointer (some ⟨b0, 0, none⟩), .pointer (some ⟨b1, 0, none⟩), .pointer (some ⟨b2, 0, none⟩)] w fun e w' => (∃ u pv, e = .panicked [{ v := .iface u pv, recovered := false }] ∧ True) ∧ Kept l w w' ∧ Q w')) :
    Calls Tryd.prog 26 #[.pointer (some ⟨a0, 0, none⟩), .pointer (some ⟨a1, 0, none⟩), .pointer (some ⟨a2, 0, none⟩)] w fun e w' => (∃ u pv, e = .panicked [{ v := .iface u pv, recovered := false }] ∧ True) ∧ Kept l w w' ∧ Q w' := by
  go_enter Tryd.func26, Tryd.ntmps26
  go_wp2_with fail
  go_at_call 33; refine HC.out.mono ?_; rintro e w5 ⟨⟨u, pv, rfl, _⟩, hk5, hq5⟩
  exact ⟨rfl, ⟨_, _, rfl, trivial⟩, hk5, hq5⟩
set_option maxRecDepth 100000 in
set_option maxHeartbeats 4000000 in
theorem runc_nil (a0 a1 a2 : Nat) (w : World) (c0 : w.cell? ⟨a0, 0, none⟩ = some .nilFunc) :
    Calls Tryd.prog 26 #[.pointer (some ⟨a0, 0, none⟩), .pointer (some ⟨a1, 0, none⟩), .pointer (some ⟨a2, 0, none⟩)] w fun e w' => (∃ u pv, e = .panicked [{ v := .iface u pv, recovered := false }] ∧ True) ∧ Kept [] w w' ∧ True := by
  go_enter Tryd.func26, Tryd.ntmps26
  go_wp2
  exact ⟨rfl, ⟨_, _, rfl, trivial⟩, kept_refl _ _, trivial⟩
end Num
end Go.Proofs.YtgeicgfijnabkaaDoor
