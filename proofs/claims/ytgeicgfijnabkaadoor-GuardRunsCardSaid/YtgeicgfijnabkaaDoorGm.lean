/-
  Package choirlaw14: told, rises, and what they make; Run of these.
-/
import Derived.Test.YtgeicgfijnabkaaDoorGk
namespace Go.Proofs.YtgeicgfijnabkaaDoor
open Go.RowKit
namespace Num
open Ints
set_option linter.unusedSimpArgs false
set_option linter.unusedVariables false
set_option maxRecDepth 100000 in
set_option maxHeartbeats 4000000 in
theorem told_mk (K I : Int) (F : Nat) (S : ByteArray) (q : Option Addr) (m d : Nat) (x : Int) (w : World) : Calls Tryd.prog 10 #[.agg #[.int .i64 K, .int .i64 I, .float .f64 F, .string S, .slice q m d], .int .i64 x] w fun e w' => e = .returned (.func (.func 28) #[] #[.pointer (some ⟨w.heap.size, 0, none⟩), .pointer (some ⟨w.heap.size + 1, 0, none⟩)]) ∧ w' = (w.alloc (.cells #[.int .i64 K, .int .i64 I, .float .f64 F, .string S, .slice q m d] 25)).alloc (.cells #[.int .i64 x] 3) := by
  have hmf : ∀ (fn : Fn) (first cap : Array Value) (w : World), (Instr.makeFunc fn first cap).run Tryd.prog w = .ok (.func fn first cap) w := fun _ _ _ _ => rfl
  go_enter Tryd.func10, Tryd.ntmps10
  go_wp2
  go_ret
  exact ⟨rfl, rfl⟩
set_option maxRecDepth 100000 in
set_option maxHeartbeats 4000000 in
theorem rises_mk (h : Int) (S : ByteArray) (x : Int) (w : World) : Calls Tryd.prog 13 #[.int .u8 h, .string S, .int .i64 x] w fun e w' => e = .returned (.func (.func 33) #[] #[.pointer (some ⟨w.heap.size, 0, none⟩), .pointer (some ⟨w.heap.size + 1, 0, none⟩), .pointer (some ⟨w.heap.size + 1 + 1, 0, none⟩)]) ∧ w' = ((w.alloc (.cells #[.int .u8 h] 5)).alloc (.cells #[.string S] 9)).alloc (.cells #[.int .i64 x] 3) := by
  have hmf : ∀ (fn : Fn) (first cap : Array Value) (w : World), (Instr.makeFunc fn first cap).run Tryd.prog w = .ok (.func fn first cap) w := fun _ _ _ _ => rfl
  go_enter Tryd.func13, Tryd.ntmps13
  go_wp2
  go_ret
  exact ⟨rfl, rfl⟩
set_option maxRecDepth 100000 in
set_option maxHeartbeats 4000000 in
theorem told_says (K I : Int) (F : Nat) (S : ByteArray) (q : Option Addr) (m d : Nat) (x : Int) (b0 b1 : Nat) (w : World) (r0 : w.heap[b0]? = some (.cells #[.int .i64 K, .int .i64 I, .float .f64 F, .string S, .slice q m d] 25 (0, 0))) (r1 : w.heap[b1]? = some (.cells #[.int .i64 x] 3 (0, 0))) :
    Calls Tryd.prog 28 #[.pointer (some ⟨b0, 0, none⟩), .pointer (some ⟨b1, 0, none⟩)] w fun e w' => e = .returned (.tuple #[.agg #[.int .i64 K, .int .i64 I, .float .f64 F, .string S, .slice q m d], .int .i64 x]) ∧ Kept [] w w' ∧ True := by
  have HZ := Lib.hid (row_alloc w #[.int .i64 0, .int .i64 0, .float .f64 0, .string ⟨#[]⟩, .slice none 0 0] 25)
  have HB := Lib.hid (bel_alloc (Below.refl w.heap.size w) (.cells #[.int .i64 K, .int .i64 I, .float .f64 F, .string S, .slice q m d] 25))
  have l0 := row_lt r0
  have l1 := row_lt r1
  have n0 : b0 ≠ w.heap.size := by omega
  have n1 : b1 ≠ w.heap.size := by omega
  have c0 := row_cell r0 0; have c1 := row_cell r0 1; have c2 := row_cell r0 2; have c3 := row_cell r0 3; have c4 := row_cell r0 4; have cx := row_cell r1 0
  simp only [List.getElem?_toArray, List.getElem?_cons_zero, List.getElem?_cons_succ] at c0 c1 c2 c3 c4 cx
  clear r0 r1
  go_enter Tryd.func28, Tryd.ntmps28
  go_wp2
  go_region
  all_goals (try go_wp2)
  all_goals first
    | exact bodyPost_ret (v := .tuple #[.agg #[.int .i64 K, .int .i64 I, .float .f64 F, .string S, .slice q m d], .int .i64 x]) (by simp [results, Tryd.results28, go_sem, World.cell?_setCell_same, World.cell?_setCell_other]) rfl ⟨rfl, kept_below (Below.drew HB.out), trivial⟩
    | exact bodyPost_ret (v := .tuple #[.agg #[.int .i64 K, .int .i64 I, .float .f64 F, .string S, .slice q m d], .int .i64 x]) (by simp [results, Tryd.results28, go_sem, World.cell?_setCell_same, World.cell?_setCell_other]) rfl ⟨rfl, kept_below HB.out, trivial⟩
set_option maxRecDepth 100000 in
set_option maxHeartbeats 4000000 in
theorem rises_raises (h : Int) (S : ByteArray) (x : Int) (b0 b1 b2 : Nat) (w : World) (hS : S.size ≤ 40) (h0 : 0 ≤ h) (r0 : w.heap[b0]? = some (.cells #[.int .u8 h] 5 (0, 0))) (r1 : w.heap[b1]? = some (.cells #[.string S] 9 (0, 0))) (r2 : w.heap[b2]? = some (.cells #[.int .i64 x] 3 (0, 0))) :
    Calls Tryd.prog 33 #[.pointer (some ⟨b0, 0, none⟩), .pointer (some ⟨b1, 0, none⟩), .pointer (some ⟨b2, 0, none⟩)] w fun e w' => (∃ u pv, e = .panicked [{ v := .iface u pv, recovered := false }] ∧ True) ∧ Kept [] w w' ∧ True := by
  have HB := Lib.hid (bel_alloc (Below.refl w.heap.size w) (.cells #[.int .i64 0, .int .i64 0, .float .f64 0, .string ⟨#[]⟩, .slice none 0 0] 25))
  have HRA := Lib.hid (fun W => raise_any h S x W hS h0)
  have l0 := row_lt r0
  have l1 := row_lt r1
  have l2 := row_lt r2
  have n0 : b0 ≠ w.heap.size := by omega
  have n1 : b1 ≠ w.heap.size := by omega
  have n2 : b2 ≠ w.heap.size := by omega
  have c0 := row_cell r0 0; have c1 := row_cell r1 0; have c2 := row_cell r2 0
  simp only [List.getElem?_toArray, List.getElem?_cons_zero, List.getElem?_cons_succ] at c0 c1 c2
  clear r0 r1 r2 hS h0
  go_enter Tryd.func33, Tryd.ntmps33
  go_wp2_with fail
  go_at_call 18; refine (HRA.out _).mono ?_; rintro e w5 ⟨⟨u, pv, rfl, _⟩, hb5⟩
  exact ⟨rfl, ⟨_, _, rfl, trivial⟩, kept_below (bel_step HB.out hb5), trivial⟩
theorem kept_nil {w w' : World} (h : Kept [] w w') : Below w.heap.size w w' := kept_bel h (fun k hk => absurd hk List.not_mem_nil) (Nat.le_refl _)
theorem run_told_ok (K I : Int) (F : Nat) (S : ByteArray) (q : Option Addr) (m d : Nat) (n : Nat) (T : VT n) (b0 b1 : Nat) (w : World) (r0 : w.heap[b0]? = some (.cells #[.int .i64 K, .int .i64 I, .float .f64 F, .string S, .slice q m d] 25 (0, 0))) (r1 : w.heap[b1]? = some (.cells #[.int .i64 0] 3 (0, 0))) (hr : Rep w n (.agg #[.int .i64 K, .int .i64 I, .float .f64 F, .string S, .slice q m d]) T) (hbk : wideT n T) :
    Calls Tryd.prog 9 #[.func (.func 28) #[] #[.pointer (some ⟨b0, 0, none⟩), .pointer (some ⟨b1, 0, none⟩)]] w fun e w' => ∃ v' T', e = .returned (.tuple #[v', .int .i64 0]) ∧ Below w.heap.size w w' ∧ Rep w' n v' T' ∧ (T' = T ∨ T' = gcT n T) :=
  (run_ok _ _ [] (fun _ => True) K I F S q m d n T w (fun k hk => absurd hk List.not_mem_nil) (Lib.hid (stab_true _)) (Lib.hid (fun W hk => rep_keep (kept_nil hk) _ _ _ hr)) hbk
    (Lib.hid (fun W hb g0 g2 g3 => runc_ret_told b0 b1 _ _ _ _ _ _ _ _ _ [] (fun _ => True) K I F S q m d 0 W (row_cell g0 0) g2 g3 List.not_mem_nil List.not_mem_nil (by omega)
      (Lib.hid (told_says K I F S q m d 0 b0 b1 W (row_step r0 hb) (row_step r1 hb)))))).mono fun e w' ⟨v', T', he, hk, _, hr', ht⟩ => ⟨v', T', he, kept_nil hk, hr', ht⟩
theorem run_told_err (K I : Int) (F : Nat) (S : ByteArray) (q : Option Addr) (m d : Nat) (x : Int) (b0 b1 : Nat) (w : World) (r0 : w.heap[b0]? = some (.cells #[.int .i64 K, .int .i64 I, .float .f64 F, .string S, .slice q m d] 25 (0, 0))) (r1 : w.heap[b1]? = some (.cells #[.int .i64 x] 3 (0, 0))) (hx : (x != 0) = true) :
    Calls Tryd.prog 9 #[.func (.func 28) #[] #[.pointer (some ⟨b0, 0, none⟩), .pointer (some ⟨b1, 0, none⟩)]] w fun e w' => e = .returned (.tuple #[.agg #[.int .i64 0, .int .i64 0, .float .f64 0, .string ⟨#[]⟩, .slice none 0 0], .int .i64 x]) ∧ Below w.heap.size w w' :=
  (run_err _ _ [] (fun _ => True) K I F S q m d x w (fun k hk => absurd hk List.not_mem_nil) (Lib.hid (stab_true _)) hx
    (Lib.hid (fun W hb g0 g2 g3 => runc_ret_told b0 b1 _ _ _ _ _ _ _ _ _ [] (fun _ => True) K I F S q m d x W (row_cell g0 0) g2 g3 List.not_mem_nil List.not_mem_nil (by omega)
      (Lib.hid (told_says K I F S q m d x b0 b1 W (row_step r0 hb) (row_step r1 hb)))))).mono fun e w' ⟨he, hk, _⟩ => ⟨he, kept_nil hk⟩
theorem run_rises (h : Int) (S : ByteArray) (x : Int) (b0 b1 b2 : Nat) (w : World) (hS : S.size ≤ 40) (h0 : 0 ≤ h) (r0 : w.heap[b0]? = some (.cells #[.int .u8 h] 5 (0, 0))) (r1 : w.heap[b1]? = some (.cells #[.string S] 9 (0, 0))) (r2 : w.heap[b2]? = some (.cells #[.int .i64 x] 3 (0, 0))) :
    Calls Tryd.prog 9 #[.func (.func 33) #[] #[.pointer (some ⟨b0, 0, none⟩), .pointer (some ⟨b1, 0, none⟩), .pointer (some ⟨b2, 0, none⟩)]] w fun e w' => e = .returned (.tuple #[.agg #[.int .i64 0, .int .i64 0, .float .f64 0, .string ⟨#[]⟩, .slice none 0 0], .int .i64 34]) ∧ Below w.heap.size w w' :=
  (run_pan _ _ [] (fun _ => True) w (fun k hk => absurd hk List.not_mem_nil) (Lib.hid (stab_true _))
    (Lib.hid (fun W hb g0 g2 g3 => runc_pan_rises b0 b1 b2 _ _ _ [] (fun _ => True) W (row_cell g0 0)
      (Lib.hid (rises_raises h S x b0 b1 b2 W hS h0 (row_step r0 hb) (row_step r1 hb) (row_step r2 hb)))))).mono fun e w' ⟨he, hk, _⟩ => ⟨he, kept_nil hk⟩
theorem run_nil (w : World) : Calls Tryd.prog 9 #[.nilFunc] w fun e w' => e = .returned (.tuple #[.agg #[.int .i64 0, .int .i64 0, .float .f64 0, .string ⟨#[]⟩, .slice none 0 0], .int .i64 34]) ∧ Below w.heap.size w w' :=
  (run_pan_nil [] (fun _ => True) w (fun k hk => absurd hk List.not_mem_nil) (Lib.hid (stab_true _)) (Lib.hid (fun W hb g0 g2 g3 => runc_nil _ _ _ W (row_cell g0 0)))).mono fun e w' ⟨he, hk, _⟩ => ⟨he, kept_nil hk⟩
end Num
end Go.Proofs.YtgeicgfijnabkaaDoor
