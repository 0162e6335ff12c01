/-
  GuardInner: the walk.
-/
import Derived.Test.YtgeicgfijnabkaaDoorGp
namespace Go.Proofs.YtgeicgfijnabkaaDoor
open Go.RowKit
namespace Num
open Ints
set_option linter.unusedSimpArgs false
set_option linter.unusedVariables false
set_option maxRecDepth 100000 in
set_option maxHeartbeats 4000000 in
theorem inner_law_true (h : Int) (S : ByteArray) (x : Int) (w : World) (h0 : 0 ≤ h) (hx0 : -32768 ≤ x) (hx1 : x ≤ 32767) : Calls Tryd.prog 6 #[.int .u8 h, .string S, .int .i16 x, .bool true] w fun e w' => e = .returned (.bool true) ∧ Below w.heap.size w w' := by
  have HB := Lib.hid (bel_alloc (bel_alloc (bel_alloc (bel_alloc (Below.refl w.heap.size w) (.cells #[.int .u8 h] 5)) (.cells #[.string S] 9)) (.cells #[.int .i16 x] 49)) (.cells #[.bool true] 4))
  have hr0 := (row_alloc_step (row_alloc_step (row_alloc_step (row_alloc w #[.int .u8 h] 5) (.cells #[.string S] 9)) (.cells #[.int .i16 x] 49)) (.cells #[.bool true] 4))
  have hr1 := (row_alloc_step (row_alloc_step (row_alloc (w.alloc (.cells #[.int .u8 h] 5)) #[.string S] 9) (.cells #[.int .i16 x] 49)) (.cells #[.bool true] 4))
  have hr2 := (row_alloc_step (row_alloc ((w.alloc (.cells #[.int .u8 h] 5)).alloc (.cells #[.string S] 9)) #[.int .i16 x] 49) (.cells #[.bool true] 4))
  have hr3 := (row_alloc (((w.alloc (.cells #[.int .u8 h] 5)).alloc (.cells #[.string S] 9)).alloc (.cells #[.int .i16 x] 49)) #[.bool true] 4)
  simp only [World.size_alloc] at hr0 hr1 hr2 hr3
  have HR0 := Lib.hid hr0
  have HR1 := Lib.hid hr1
  have HR2 := Lib.hid hr2
  have HR3 := Lib.hid hr3
  clear hr0 hr1 hr2 hr3
  cases hs : decide ((40 : Int) < (S.size : Int))
  case true =>
    go_enter Tryd.func6, Tryd.ntmps6
    go_wp2_with fail
    go_at_call 7; refine (known_any _).mono ?_; rintro e w1 ⟨rfl, hb1⟩
    have HB1 := Lib.hid (bel_step HB.out hb1)
    have hsz := hb1.size
    simp only [World.size_alloc] at hsz
    have k0 := row_step HR0.out hb1
    have k1 := row_step HR1.out hb1
    have k2 := row_step HR2.out hb1
    have k3 := row_step HR3.out hb1
    have c0 := row_cell k0 0; have c1 := row_cell k1 0; have c2 := row_cell k2 0; have c3 := row_cell k3 0
    simp only [List.getElem?_toArray, List.getElem?_cons_zero, List.getElem?_cons_succ] at c0 c1 c2 c3
    clear k0 k1 k2 k3 hb1
    go_wp2
    go_ret
    exact ⟨rfl, HB1.out⟩
  case false =>
    have hS : S.size ≤ 40 := by have := of_decide_eq_false hs; omega
    go_enter Tryd.func6, Tryd.ntmps6
    go_wp2_with fail
    go_at_call 7; refine (known_any _).mono ?_; rintro e w1 ⟨rfl, hb1⟩
    have HB1 := Lib.hid (bel_step HB.out hb1)
    have hsz := hb1.size
    simp only [World.size_alloc] at hsz
    have k0 := row_step HR0.out hb1
    have k1 := row_step HR1.out hb1
    have k2 := row_step HR2.out hb1
    have k3 := row_step HR3.out hb1
    have c0 := row_cell k0 0; have c1 := row_cell k1 0; have c2 := row_cell k2 0; have c3 := row_cell k3 0
    simp only [List.getElem?_toArray, List.getElem?_cons_zero, List.getElem?_cons_succ] at c0 c1 c2 c3
    have HRUN := Lib.hid (run_inner_pan h S x 0 w.heap.size (w.heap.size + 1) (w.heap.size + 1 + 1) w1.heap.size (w.heap.size + 1 + 1 + 1) (w1.alloc (.cells #[.int .i64 0] 3)) hS h0 hx0 hx1 (row_alloc_step k0 _) (row_alloc_step k1 _) (row_alloc_step k2 _) (row_alloc w1 _ _) (row_alloc_step k3 _) (by omega) (by omega) (by omega) (by omega))
    have K2 := Lib.hid k2
    have K3 := Lib.hid k3
    have HS1 := Lib.hid (show w.heap.size + 1 + 1 + 1 + 1 ≤ w1.heap.size from hsz)
    have l1 := row_lt k0
    clear k0 k1 k2 k3 hb1 hS h0 hsz
    have hmf : ∀ (fn : Fn) (first cap : Array Value) (w : World), (Instr.makeFunc fn first cap).run Tryd.prog w = .ok (.func fn first cap) w := fun _ _ _ _ => rfl
    go_wp2_with fail
    go_at_call 9; refine HRUN.out.mono ?_; rintro e w2 ⟨rfl, hk2, h34⟩
    have HB2 := Lib.hid (HB1.out.trans ((Below.alloc (Below.refl w.heap.size w1) (by have := HS1.out; omega) (.cells #[.int .i64 0] 3)).trans (kept_bel hk2 (fun k hk => by rw [List.mem_singleton] at hk; have := HS1.out; omega) (by rw [World.size_alloc]; have := HS1.out; omega))))
    have j2 := kept_row hk2 (row_alloc_step K2.out _) (by rw [List.mem_singleton]; have := HS1.out; omega)
    have j3 := kept_row hk2 (row_alloc_step K3.out _) (by rw [List.mem_singleton]; have := HS1.out; omega)
    have d2 := row_cell j2 0; have d3 := row_cell j3 0
    simp only [List.getElem?_toArray, List.getElem?_cons_zero, List.getElem?_cons_succ] at d2 d3
    have lj2 := row_lt j2; have lj3 := row_lt j3; have l34 : w1.heap.size < w2.heap.size := cell_lt h34
    clear hk2 j2 j3 c0 c1 c2 c3 HRUN
    go_wp2
    go_ret
    exact ⟨rfl, bel_alloc HB2.out _⟩
set_option maxRecDepth 100000 in
set_option maxHeartbeats 4000000 in
theorem inner_law_false (h : Int) (S : ByteArray) (x : Int) (w : World) (h0 : 0 ≤ h) (hx0 : -32768 ≤ x) (hx1 : x ≤ 32767) : Calls Tryd.prog 6 #[.int .u8 h, .string S, .int .i16 x, .bool false] w fun e w' => e = .returned (.bool true) ∧ Below w.heap.size w w' := by
  have HB := Lib.hid (bel_alloc (bel_alloc (bel_alloc (bel_alloc (Below.refl w.heap.size w) (.cells #[.int .u8 h] 5)) (.cells #[.string S] 9)) (.cells #[.int .i16 x] 49)) (.cells #[.bool false] 4))
  have hr0 := (row_alloc_step (row_alloc_step (row_alloc_step (row_alloc w #[.int .u8 h] 5) (.cells #[.string S] 9)) (.cells #[.int .i16 x] 49)) (.cells #[.bool false] 4))
  have hr1 := (row_alloc_step (row_alloc_step (row_alloc (w.alloc (.cells #[.int .u8 h] 5)) #[.string S] 9) (.cells #[.int .i16 x] 49)) (.cells #[.bool false] 4))
  have hr2 := (row_alloc_step (row_alloc ((w.alloc (.cells #[.int .u8 h] 5)).alloc (.cells #[.string S] 9)) #[.int .i16 x] 49) (.cells #[.bool false] 4))
  have hr3 := (row_alloc (((w.alloc (.cells #[.int .u8 h] 5)).alloc (.cells #[.string S] 9)).alloc (.cells #[.int .i16 x] 49)) #[.bool false] 4)
  simp only [World.size_alloc] at hr0 hr1 hr2 hr3
  have HR0 := Lib.hid hr0
  have HR1 := Lib.hid hr1
  have HR2 := Lib.hid hr2
  have HR3 := Lib.hid hr3
  clear hr0 hr1 hr2 hr3
  cases hs : decide ((40 : Int) < (S.size : Int))
  case true =>
    go_enter Tryd.func6, Tryd.ntmps6
    go_wp2_with fail
    go_at_call 7; refine (known_any _).mono ?_; rintro e w1 ⟨rfl, hb1⟩
    have HB1 := Lib.hid (bel_step HB.out hb1)
    have hsz := hb1.size
    simp only [World.size_alloc] at hsz
    have k0 := row_step HR0.out hb1
    have k1 := row_step HR1.out hb1
    have k2 := row_step HR2.out hb1
    have k3 := row_step HR3.out hb1
    have c0 := row_cell k0 0; have c1 := row_cell k1 0; have c2 := row_cell k2 0; have c3 := row_cell k3 0
    simp only [List.getElem?_toArray, List.getElem?_cons_zero, List.getElem?_cons_succ] at c0 c1 c2 c3
    clear k0 k1 k2 k3 hb1
    go_wp2
    go_ret
    exact ⟨rfl, HB1.out⟩
  case false =>
    have hS : S.size ≤ 40 := by have := of_decide_eq_false hs; omega
    go_enter Tryd.func6, Tryd.ntmps6
    go_wp2_with fail
    go_at_call 7; refine (known_any _).mono ?_; rintro e w1 ⟨rfl, hb1⟩
    have HB1 := Lib.hid (bel_step HB.out hb1)
    have hsz := hb1.size
    simp only [World.size_alloc] at hsz
    have k0 := row_step HR0.out hb1
    have k1 := row_step HR1.out hb1
    have k2 := row_step HR2.out hb1
    have k3 := row_step HR3.out hb1
    have c0 := row_cell k0 0; have c1 := row_cell k1 0; have c2 := row_cell k2 0; have c3 := row_cell k3 0
    simp only [List.getElem?_toArray, List.getElem?_cons_zero, List.getElem?_cons_succ] at c0 c1 c2 c3
    have HRUN := Lib.hid (run_inner_ret h S x 0 w.heap.size (w.heap.size + 1) (w.heap.size + 1 + 1) w1.heap.size (w.heap.size + 1 + 1 + 1) (w1.alloc (.cells #[.int .i64 0] 3)) hS h0 hx0 hx1 (row_alloc_step k0 _) (row_alloc_step k1 _) (row_alloc_step k2 _) (row_alloc w1 _ _) (row_alloc_step k3 _) (by omega) (by omega) (by omega) (by omega))
    have K2 := Lib.hid k2
    have K3 := Lib.hid k3
    have HS1 := Lib.hid (show w.heap.size + 1 + 1 + 1 + 1 ≤ w1.heap.size from hsz)
    have l1 := row_lt k0
    clear k0 k1 k2 k3 hb1 hS h0 hsz
    have hmf : ∀ (fn : Fn) (first cap : Array Value) (w : World), (Instr.makeFunc fn first cap).run Tryd.prog w = .ok (.func fn first cap) w := fun _ _ _ _ => rfl
    go_wp2_with fail
    go_at_call 9; refine HRUN.out.mono ?_; rintro e w2 ⟨p, c, rfl, hk2, h34⟩
    have HB2 := Lib.hid (HB1.out.trans ((Below.alloc (Below.refl w.heap.size w1) (by have := HS1.out; omega) (.cells #[.int .i64 0] 3)).trans (kept_bel hk2 (fun k hk => by rw [List.mem_singleton] at hk; have := HS1.out; omega) (by rw [World.size_alloc]; have := HS1.out; omega))))
    have j2 := kept_row hk2 (row_alloc_step K2.out _) (by rw [List.mem_singleton]; have := HS1.out; omega)
    have j3 := kept_row hk2 (row_alloc_step K3.out _) (by rw [List.mem_singleton]; have := HS1.out; omega)
    have d2 := row_cell j2 0; have d3 := row_cell j3 0
    simp only [List.getElem?_toArray, List.getElem?_cons_zero, List.getElem?_cons_succ] at d2 d3
    have lj2 := row_lt j2; have lj3 := row_lt j3; have l34 : w1.heap.size < w2.heap.size := cell_lt h34
    clear hk2 j2 j3 c0 c1 c2 c3 HRUN
    go_wp2
    go_ret
    exact ⟨rfl, bel_alloc HB2.out _⟩
end Num
end Go.Proofs.YtgeicgfijnabkaaDoor
