/-
  Package choirlaw14: one, what it makes, and Run of that.
-/
import Derived.Test.YtgeicgfijnabkaaDoorGn
import Derived.Test.YtgeicgfijnabkaaDoorGl
import Derived.Laws.Rows
namespace Go.Proofs.YtgeicgfijnabkaaDoor
open Go.RowKit
namespace Num
open Ints
set_option linter.unusedSimpArgs false
set_option linter.unusedVariables false
set_option maxRecDepth 100000 in
set_option maxHeartbeats 4000000 in
theorem one_row (R : Nat) (k i : Int) (w : World) : Calls Tryd.prog 14 #[.pointer (some ⟨R, 0, none⟩), .int .u8 k, .int .i64 i] w fun e w' => ∃ b0 b1 b2, e = .returned (.func (.func 34) #[] #[.pointer (some ⟨b0, 0, none⟩), .pointer (some ⟨b1, 0, none⟩), .pointer (some ⟨b2, 0, none⟩)]) ∧ Below w.heap.size w w' ∧ (w.heap.size ≤ b0 ∧ w.heap.size ≤ b1 ∧ w.heap.size ≤ b2) ∧ w'.heap[b0]? = some (.cells #[.pointer (some ⟨R, 0, none⟩)] 41 (0, 0)) ∧ w'.heap[b1]? = some (.cells #[.int .u8 k] 5 (0, 0)) ∧ w'.heap[b2]? = some (.cells #[.int .i64 i] 3 (0, 0)) := by
  have hmf : ∀ (fn : Fn) (first cap : Array Value) (w : World), (Instr.makeFunc fn first cap).run Tryd.prog w = .ok (.func fn first cap) w := fun _ _ _ _ => rfl
  have hr0 := row_alloc_step (row_alloc_step (row_alloc w #[.pointer (some ⟨R, 0, none⟩)] 41) (.cells #[.int .u8 k] 5)) (.cells #[.int .i64 i] 3)
  have hr1 := row_alloc_step (row_alloc (w.alloc (.cells #[.pointer (some ⟨R, 0, none⟩)] 41)) #[.int .u8 k] 5) (.cells #[.int .i64 i] 3)
  have hr2 := row_alloc ((w.alloc (.cells #[.pointer (some ⟨R, 0, none⟩)] 41)).alloc (.cells #[.int .u8 k] 5)) #[.int .i64 i] 3
  simp only [World.size_alloc] at hr1 hr2
  have HR := Lib.hid (And.intro hr0 (And.intro hr1 hr2))
  have HB := Lib.hid (bel_alloc (bel_alloc (bel_alloc (Below.refl w.heap.size w) (.cells #[.pointer (some ⟨R, 0, none⟩)] 41)) (.cells #[.int .u8 k] 5)) (.cells #[.int .i64 i] 3))
  clear hr0 hr1 hr2
  go_enter Tryd.func14, Tryd.ntmps14
  go_wp2
  go_ret
  exact ⟨_, _, _, rfl, HB.out, ⟨Nat.le_refl _, by omega, by omega⟩, HR.out⟩
set_option maxRecDepth 100000 in
set_option maxHeartbeats 4000000 in
theorem one_raises (R b0 b1 b2 : Nat) (k i r : Int) (w : World) (r0 : w.heap[b0]? = some (.cells #[.pointer (some ⟨R, 0, none⟩)] 41 (0, 0))) (r1 : w.heap[b1]? = some (.cells #[.int .u8 k] 5 (0, 0))) (r2 : w.heap[b2]? = some (.cells #[.int .i64 i] 3 (0, 0))) (rr : w.heap[R]? = some (.cells #[.int .i64 r] 3 (0, 0))) (n0 : b0 ≠ R) (n1 : b1 ≠ R) (n2 : b2 ≠ R) (hr0 : 0 ≤ r) (hr1 : r ≤ 100) (hk : 240 ≤ k) :
    Calls Tryd.prog 34 #[.pointer (some ⟨b0, 0, none⟩), .pointer (some ⟨b1, 0, none⟩), .pointer (some ⟨b2, 0, none⟩)] w fun e w' => (∃ u pv, e = .panicked [{ v := .iface u pv, recovered := false }] ∧ True) ∧ Kept [R] w w' ∧ w'.heap[R]? = some (.cells #[.int .i64 (r + 1)] 3 (0, 0)) := by
  have HRA := Lib.hid (fun n W => raise_any k ⟨#[120]⟩ n W (by decide) (by omega))
  have l0 := row_lt r0; have l1 := row_lt r1; have l2 := row_lt r2; have lr := row_lt rr
  have m0 : b0 ≠ w.heap.size := by omega
  have m1 : b1 ≠ w.heap.size := by omega
  have m2 : b2 ≠ w.heap.size := by omega
  have mr : R ≠ w.heap.size := by omega
  have hsz : (w.setCell ⟨R, 0, none⟩ (.int .i64 (r + 1))).heap.size = w.heap.size := by simp [World.setCell]
  have HK := Lib.hid (show Kept [R] w ((w.setCell ⟨R, 0, none⟩ (.int .i64 (r + 1))).alloc (.cells #[.int .i64 0, .int .i64 0, .float .f64 0, .string ⟨#[]⟩, .slice none 0 0] 25)) from kept_step (kept_set (kept_refl _ _) (Or.inl (List.mem_singleton.2 rfl))) (bel_alloc (Below.refl _ _) _))
  have hrr := row_alloc_step (heap_setCell_same w R 0 _ _ (.int .i64 (r + 1)) rr) (.cells #[.int .i64 0, .int .i64 0, .float .f64 0, .string ⟨#[]⟩, .slice none 0 0] 25)
  have HRR := Lib.hid (show ((w.setCell ⟨R, 0, none⟩ (.int .i64 (r + 1))).alloc (.cells #[.int .i64 0, .int .i64 0, .float .f64 0, .string ⟨#[]⟩, .slice none 0 0] 25)).heap[R]? = some (.cells #[.int .i64 (r + 1)] 3 (0, 0)) from hrr)
  have hz := row_alloc (w.setCell ⟨R, 0, none⟩ (.int .i64 (r + 1))) #[.int .i64 0, .int .i64 0, .float .f64 0, .string ⟨#[]⟩, .slice none 0 0] 25
  rw [hsz] at hz
  have HZ := Lib.hid hz
  have c0 := row_cell r0 0; have c1 := row_cell r1 0; have c2 := row_cell r2 0; have cr := row_cell rr 0
  simp only [List.getElem?_toArray, List.getElem?_cons_zero, List.getElem?_cons_succ] at c0 c1 c2 cr
  have fr := fun o => row_frz rr o
  clear r0 r1 r2 rr hrr hz hsz
  go_enter Tryd.func34, Tryd.ntmps34
  go_wp2_with fail
  go_at_call 18; refine (HRA.out _ _).mono ?_; rintro e w5 ⟨⟨u, pv, rfl, _⟩, hb5⟩
  exact ⟨rfl, ⟨_, _, rfl, trivial⟩, kept_step HK.out hb5, row_step HRR.out hb5⟩
set_option maxRecDepth 100000 in
set_option maxHeartbeats 4000000 in
theorem one_errs (R b0 b1 b2 : Nat) (k i r : Int) (w : World) (r0 : w.heap[b0]? = some (.cells #[.pointer (some ⟨R, 0, none⟩)] 41 (0, 0))) (r1 : w.heap[b1]? = some (.cells #[.int .u8 k] 5 (0, 0))) (r2 : w.heap[b2]? = some (.cells #[.int .i64 i] 3 (0, 0))) (rr : w.heap[R]? = some (.cells #[.int .i64 r] 3 (0, 0))) (n0 : b0 ≠ R) (n1 : b1 ≠ R) (n2 : b2 ≠ R) (hr0 : 0 ≤ r) (hr1 : r ≤ 100) (hk : k < 240) (hk2 : 220 ≤ k) :
    Calls Tryd.prog 34 #[.pointer (some ⟨b0, 0, none⟩), .pointer (some ⟨b1, 0, none⟩), .pointer (some ⟨b2, 0, none⟩)] w fun e w' => e = .returned (.tuple #[.agg #[.int .i64 0, .int .i64 0, .float .f64 0, .string ⟨#[]⟩, .slice none 0 0], .int .i64 k]) ∧ Kept [R] w w' ∧ w'.heap[R]? = some (.cells #[.int .i64 (r + 1)] 3 (0, 0)) := by
  have l0 := row_lt r0; have l1 := row_lt r1; have l2 := row_lt r2; have lr := row_lt rr
  have m0 : b0 ≠ w.heap.size := by omega
  have m1 : b1 ≠ w.heap.size := by omega
  have m2 : b2 ≠ w.heap.size := by omega
  have mr : R ≠ w.heap.size := by omega
  have hsz : (w.setCell ⟨R, 0, none⟩ (.int .i64 (r + 1))).heap.size = w.heap.size := by simp [World.setCell]
  have HK := Lib.hid (show Kept [R] w ((w.setCell ⟨R, 0, none⟩ (.int .i64 (r + 1))).alloc (.cells #[.int .i64 0, .int .i64 0, .float .f64 0, .string ⟨#[]⟩, .slice none 0 0] 25)) from kept_step (kept_set (kept_refl _ _) (Or.inl (List.mem_singleton.2 rfl))) (bel_alloc (Below.refl _ _) _))
  have hrr := row_alloc_step (heap_setCell_same w R 0 _ _ (.int .i64 (r + 1)) rr) (.cells #[.int .i64 0, .int .i64 0, .float .f64 0, .string ⟨#[]⟩, .slice none 0 0] 25)
  have HRR := Lib.hid (show ((w.setCell ⟨R, 0, none⟩ (.int .i64 (r + 1))).alloc (.cells #[.int .i64 0, .int .i64 0, .float .f64 0, .string ⟨#[]⟩, .slice none 0 0] 25)).heap[R]? = some (.cells #[.int .i64 (r + 1)] 3 (0, 0)) from hrr)
  have hz := row_alloc (w.setCell ⟨R, 0, none⟩ (.int .i64 (r + 1))) #[.int .i64 0, .int .i64 0, .float .f64 0, .string ⟨#[]⟩, .slice none 0 0] 25
  rw [hsz] at hz
  have HZ := Lib.hid hz
  have c0 := row_cell r0 0; have c1 := row_cell r1 0; have c2 := row_cell r2 0; have cr := row_cell rr 0
  simp only [List.getElem?_toArray, List.getElem?_cons_zero, List.getElem?_cons_succ] at c0 c1 c2 cr
  have fr := fun o => row_frz rr o
  clear r0 r1 r2 rr hrr hz hsz
  go_enter Tryd.func34, Tryd.ntmps34
  go_wp2
  go_region
  all_goals (try go_wp2)
  all_goals first
    | exact bodyPost_ret (v := .tuple #[.agg #[.int .i64 0, .int .i64 0, .float .f64 0, .string ⟨#[]⟩, .slice none 0 0], .int .i64 k]) (by simp [results, Tryd.results34, go_sem, World.cell?_setCell_same, World.cell?_setCell_other]) rfl ⟨rfl, kept_step HK.out (Below.drew (Below.refl _ _)), row_step HRR.out (Below.drew (Below.refl _ _))⟩
    | exact bodyPost_ret (v := .tuple #[.agg #[.int .i64 0, .int .i64 0, .float .f64 0, .string ⟨#[]⟩, .slice none 0 0], .int .i64 k]) (by simp [results, Tryd.results34, go_sem, World.cell?_setCell_same, World.cell?_setCell_other]) rfl ⟨rfl, HK.out, HRR.out⟩
set_option maxRecDepth 100000 in
set_option maxHeartbeats 4000000 in
theorem one_says (R b0 b1 b2 : Nat) (k i r : Int) (w : World) (r0 : w.heap[b0]? = some (.cells #[.pointer (some ⟨R, 0, none⟩)] 41 (0, 0))) (r1 : w.heap[b1]? = some (.cells #[.int .u8 k] 5 (0, 0))) (r2 : w.heap[b2]? = some (.cells #[.int .i64 i] 3 (0, 0))) (rr : w.heap[R]? = some (.cells #[.int .i64 r] 3 (0, 0))) (n0 : b0 ≠ R) (n1 : b1 ≠ R) (n2 : b2 ≠ R) (hr0 : 0 ≤ r) (hr1 : r ≤ 100) (hk : k < 220) :
    Calls Tryd.prog 34 #[.pointer (some ⟨b0, 0, none⟩), .pointer (some ⟨b1, 0, none⟩), .pointer (some ⟨b2, 0, none⟩)] w fun e w' => e = .returned (.tuple #[.agg #[.int .i64 1, .int .i64 i, .float .f64 0, .string ⟨#[]⟩, .slice none 0 0], .int .i64 0]) ∧ Kept [R] w w' ∧ w'.heap[R]? = some (.cells #[.int .i64 (r + 1)] 3 (0, 0)) := by
  have hk1 : k < 240 := by omega
  have l0 := row_lt r0; have l1 := row_lt r1; have l2 := row_lt r2; have lr := row_lt rr
  have m0 : b0 ≠ w.heap.size := by omega
  have m1 : b1 ≠ w.heap.size := by omega
  have m2 : b2 ≠ w.heap.size := by omega
  have mr : R ≠ w.heap.size := by omega
  have hsz : (w.setCell ⟨R, 0, none⟩ (.int .i64 (r + 1))).heap.size = w.heap.size := by simp [World.setCell]
  have HK := Lib.hid (show Kept [R] w ((w.setCell ⟨R, 0, none⟩ (.int .i64 (r + 1))).alloc (.cells #[.int .i64 0, .int .i64 0, .float .f64 0, .string ⟨#[]⟩, .slice none 0 0] 25)) from kept_step (kept_set (kept_refl _ _) (Or.inl (List.mem_singleton.2 rfl))) (bel_alloc (Below.refl _ _) _))
  have hrr := row_alloc_step (heap_setCell_same w R 0 _ _ (.int .i64 (r + 1)) rr) (.cells #[.int .i64 0, .int .i64 0, .float .f64 0, .string ⟨#[]⟩, .slice none 0 0] 25)
  have HRR := Lib.hid (show ((w.setCell ⟨R, 0, none⟩ (.int .i64 (r + 1))).alloc (.cells #[.int .i64 0, .int .i64 0, .float .f64 0, .string ⟨#[]⟩, .slice none 0 0] 25)).heap[R]? = some (.cells #[.int .i64 (r + 1)] 3 (0, 0)) from hrr)
  have hz := row_alloc (w.setCell ⟨R, 0, none⟩ (.int .i64 (r + 1))) #[.int .i64 0, .int .i64 0, .float .f64 0, .string ⟨#[]⟩, .slice none 0 0] 25
  rw [hsz] at hz
  have HZ := Lib.hid hz
  have c0 := row_cell r0 0; have c1 := row_cell r1 0; have c2 := row_cell r2 0; have cr := row_cell rr 0
  simp only [List.getElem?_toArray, List.getElem?_cons_zero, List.getElem?_cons_succ] at c0 c1 c2 cr
  have fr := fun o => row_frz rr o
  clear r0 r1 r2 rr hrr hz hsz
  go_enter Tryd.func34, Tryd.ntmps34
  go_wp2_with fail
  go_at_call 20; refine (int_ref_any _ _).mono ?_; rintro e w5 ⟨rfl, hb5⟩
  have HK5 := Lib.hid (kept_step HK.out hb5)
  have HR5 := Lib.hid (row_step HRR.out hb5)
  have z5 := row_step HZ.out hb5
  have d0 := row_cell z5 0; have d1 := row_cell z5 1; have d2 := row_cell z5 2; have d3 := row_cell z5 3; have d4 := row_cell z5 4
  simp only [List.getElem?_toArray, List.getElem?_cons_zero, List.getElem?_cons_succ] at d0 d1 d2 d3 d4
  have df := fun o => row_frz z5 o
  have lz := row_lt z5
  clear hb5 z5 HK HRR HZ
  go_wp2
  exact bodyPost_ret (v := .tuple #[.agg #[.int .i64 1, .int .i64 i, .float .f64 0, .string ⟨#[]⟩, .slice none 0 0], .int .i64 0]) (by simp [results, Tryd.results34, go_sem, World.cell?_setCell_same, World.cell?_setCell_other, d0, d1, d2, d3, d4]) rfl ⟨rfl, kept_set5 (b := w.heap.size) (o := 0) _ _ _ _ _ HK5.out (Or.inr (Nat.le_refl _)), (set5_other (g := w.heap.size) (o := 0) (by exact mr)).trans HR5.out⟩
theorem stab_row {B b : Nat} {o : Obj} (hb : b < B) : Stab B (fun W => W.heap[b]? = some o) :=
  ⟨fun W c o' v hc h => (Below.heap_setCell _ _ _ _ (by show b ≠ c; omega)).trans h, fun W W' hbw h => row_step h hbw⟩
theorem sing_lt {b n : Nat} (h : b < n) : ∀ k ∈ [b], k < n := fun k hk => by rw [List.mem_singleton] at hk; omega
theorem run_one_pan (R b0 b1 b2 : Nat) (k i r : Int) (w : World) (r0 : w.heap[b0]? = some (.cells #[.pointer (some ⟨R, 0, none⟩)] 41 (0, 0))) (r1 : w.heap[b1]? = some (.cells #[.int .u8 k] 5 (0, 0))) (r2 : w.heap[b2]? = some (.cells #[.int .i64 i] 3 (0, 0))) (rr : w.heap[R]? = some (.cells #[.int .i64 r] 3 (0, 0))) (n0 : b0 ≠ R) (n1 : b1 ≠ R) (n2 : b2 ≠ R) (hr0 : 0 ≤ r) (hr1 : r ≤ 100) (hk : 240 ≤ k) :
    Calls Tryd.prog 9 #[.func (.func 34) #[] #[.pointer (some ⟨b0, 0, none⟩), .pointer (some ⟨b1, 0, none⟩), .pointer (some ⟨b2, 0, none⟩)]] w fun e w' => e = .returned (.tuple #[.agg #[.int .i64 0, .int .i64 0, .float .f64 0, .string ⟨#[]⟩, .slice none 0 0], .int .i64 34]) ∧ Kept [R] w w' ∧ w'.heap[R]? = some (.cells #[.int .i64 (r + 1)] 3 (0, 0)) :=
  run_pan _ _ [R] (fun W => W.heap[R]? = some (.cells #[.int .i64 (r + 1)] 3 (0, 0))) w (sing_lt (row_lt rr)) (Lib.hid (stab_row (row_lt rr)))
    (Lib.hid (fun W hb g0 g2 g3 => runc_pan_one b0 b1 b2 _ _ _ [R] (fun W => W.heap[R]? = some (.cells #[.int .i64 (r + 1)] 3 (0, 0))) W (row_cell g0 0) (Lib.hid (one_raises R b0 b1 b2 k i r W (row_step r0 hb) (row_step r1 hb) (row_step r2 hb) (row_step rr hb) n0 n1 n2 hr0 hr1 hk))))
theorem run_one_err (R b0 b1 b2 : Nat) (k i r : Int) (w : World) (r0 : w.heap[b0]? = some (.cells #[.pointer (some ⟨R, 0, none⟩)] 41 (0, 0))) (r1 : w.heap[b1]? = some (.cells #[.int .u8 k] 5 (0, 0))) (r2 : w.heap[b2]? = some (.cells #[.int .i64 i] 3 (0, 0))) (rr : w.heap[R]? = some (.cells #[.int .i64 r] 3 (0, 0))) (n0 : b0 ≠ R) (n1 : b1 ≠ R) (n2 : b2 ≠ R) (hr0 : 0 ≤ r) (hr1 : r ≤ 100) (hk : k < 240) (hk2 : 220 ≤ k) :
    Calls Tryd.prog 9 #[.func (.func 34) #[] #[.pointer (some ⟨b0, 0, none⟩), .pointer (some ⟨b1, 0, none⟩), .pointer (some ⟨b2, 0, none⟩)]] w fun e w' => e = .returned (.tuple #[.agg #[.int .i64 0, .int .i64 0, .float .f64 0, .string ⟨#[]⟩, .slice none 0 0], .int .i64 k]) ∧ Kept [R] w w' ∧ w'.heap[R]? = some (.cells #[.int .i64 (r + 1)] 3 (0, 0)) :=
  run_err _ _ [R] (fun W => W.heap[R]? = some (.cells #[.int .i64 (r + 1)] 3 (0, 0))) 0 0 0 ⟨#[]⟩ none 0 0 k w (sing_lt (row_lt rr)) (Lib.hid (stab_row (row_lt rr))) (by simp; omega)
    (Lib.hid (fun W hb g0 g2 g3 => runc_ret_one b0 b1 b2 _ _ _ _ _ _ _ _ _ [R] (fun W => W.heap[R]? = some (.cells #[.int .i64 (r + 1)] 3 (0, 0))) 0 0 0 ⟨#[]⟩ none 0 0 k W (row_cell g0 0) g2 g3 (by have := row_lt rr; simp; omega) (by have := row_lt rr; simp; omega) (by omega) (Lib.hid (one_errs R b0 b1 b2 k i r W (row_step r0 hb) (row_step r1 hb) (row_step r2 hb) (row_step rr hb) n0 n1 n2 hr0 hr1 hk hk2))))
theorem run_one_ret (R b0 b1 b2 : Nat) (k i r : Int) (w : World) (r0 : w.heap[b0]? = some (.cells #[.pointer (some ⟨R, 0, none⟩)] 41 (0, 0))) (r1 : w.heap[b1]? = some (.cells #[.int .u8 k] 5 (0, 0))) (r2 : w.heap[b2]? = some (.cells #[.int .i64 i] 3 (0, 0))) (rr : w.heap[R]? = some (.cells #[.int .i64 r] 3 (0, 0))) (n0 : b0 ≠ R) (n1 : b1 ≠ R) (n2 : b2 ≠ R) (hr0 : 0 ≤ r) (hr1 : r ≤ 100) (hk : k < 220) (hi : okI i) :
    Calls Tryd.prog 9 #[.func (.func 34) #[] #[.pointer (some ⟨b0, 0, none⟩), .pointer (some ⟨b1, 0, none⟩), .pointer (some ⟨b2, 0, none⟩)]] w fun e w' => ∃ p c, e = .returned (.tuple #[.agg #[.int .i64 1, .int .i64 i, .float .f64 0, .string ⟨#[]⟩, .slice p 0 c], .int .i64 0]) ∧ Kept [R] w w' ∧ w'.heap[R]? = some (.cells #[.int .i64 (r + 1)] 3 (0, 0)) :=
  (run_ok _ _ [R] (fun W => W.heap[R]? = some (.cells #[.int .i64 (r + 1)] 3 (0, 0))) 1 i 0 ⟨#[]⟩ none 0 0 1 (1, i, 0, ⟨#[]⟩, []) w (sing_lt (row_lt rr)) (Lib.hid (stab_row (row_lt rr))) (Lib.hid (fun W _ => rep_int W i hi)) (show (6 : Nat) ≤ 1048576 by decide)
    (Lib.hid (fun W hb g0 g2 g3 => runc_ret_one b0 b1 b2 _ _ _ _ _ _ _ _ _ [R] (fun W => W.heap[R]? = some (.cells #[.int .i64 (r + 1)] 3 (0, 0))) 1 i 0 ⟨#[]⟩ none 0 0 0 W (row_cell g0 0) g2 g3 (by have := row_lt rr; simp; omega) (by have := row_lt rr; simp; omega) (by omega) (Lib.hid (one_says R b0 b1 b2 k i r W (row_step r0 hb) (row_step r1 hb) (row_step r2 hb) (row_step rr hb) n0 n1 n2 hr0 hr1 hk))))).mono fun e w' ⟨v', T', he, hk, hq, hr, ht⟩ => by
    obtain ⟨p, c, rfl⟩ := int_told hr ht
    exact ⟨p, c, he, hk, hq⟩
end Num
end Go.Proofs.YtgeicgfijnabkaaDoor
