/-
  The reference's ids out of texts: IdParse.
-/
import Derived.Test.YtbodakfgoijeeaaDoorIF
namespace Go.Proofs.YtbodakfgoijeeaaDoor
open Go.RowKit Go.Sort Go.Lib
namespace Num
set_option linter.unusedSimpArgs false
set_option linter.unusedVariables false
def idV : Option (Nat × Nat × Nat) → Value
  | none => .tuple #[Id 0 0 0, .bool false]
  | some (c, q, n) => .tuple #[Id c q n, .bool true]
theorem sb_isnil : ((SB []).toList == []) = true := by rw [Lib.toList_data]; rfl
theorem sb_cons (x : UInt8) (r : List UInt8) : ((SB (x :: r)).toList == []) = false := by rw [Lib.toList_data]; rfl
theorem sb_at1 (x : UInt8) (r : List UInt8) (W : World) : (Instr.index 9 (.string (SB (x :: r))) (.int .i64 0)).run Tryd.prog W = .ok (.int .u8 ((x.toNat : Nat) : Int)) W := sb_at0 (x :: r) (by simp) W
theorem sb_rest (x : UInt8) (r : List UInt8) (W : World) : (Instr.slice 9 (.string (SB (x :: r))) (some (.int .i64 1)) none none).run Tryd.prog W = .ok (.string (SB r)) W := sb_tail (x :: r) 1 (by simp) W
/-- The world behind a step of IdParse: the block of its first result is as it was laid. -/
def St (w W : World) : Prop := Sid w W ∧ W.heap[w.heap.size]? = some (.cells #[.int .u32 0, .int .u32 0, .int .u16 0] 25 (0, 0))
theorem st_bel {w W : World} (h : St w W) (x y z : Value) : Below w.heap.size w (((W.setCell ⟨w.heap.size, 0, none⟩ x).setCell ⟨w.heap.size, 1, none⟩ y).setCell ⟨w.heap.size, 2, none⟩ z) := ((h.1.2.setCell (p := ⟨w.heap.size, 0, none⟩) (Nat.le_refl _) x).setCell (p := ⟨w.heap.size, 1, none⟩) (Nat.le_refl _) y).setCell (p := ⟨w.heap.size, 2, none⟩) (Nat.le_refl _) z
theorem st_belx {w W : World} (h : St w W) (b : Nat) (hb : w.heap.size ≤ b) (v x y z : Value) : Below w.heap.size w ((((W.setCell ⟨b, 2, none⟩ v).setCell ⟨w.heap.size, 0, none⟩ x).setCell ⟨w.heap.size, 1, none⟩ y).setCell ⟨w.heap.size, 2, none⟩ z) := (((h.1.2.setCell (p := ⟨b, 2, none⟩) hb v).setCell (p := ⟨w.heap.size, 0, none⟩) (Nat.le_refl _) x).setCell (p := ⟨w.heap.size, 1, none⟩) (Nat.le_refl _) y).setCell (p := ⟨w.heap.size, 2, none⟩) (Nat.le_refl _) z
theorem st_size {w W : World} (h : St w W) (x y z : Value) : w.heap.size ≤ (((W.setCell ⟨w.heap.size, 0, none⟩ x).setCell ⟨w.heap.size, 1, none⟩ y).setCell ⟨w.heap.size, 2, none⟩ z).heap.size := (st_bel h x y z).size
theorem st_start {w : World} (h : Good w) : St w (w.alloc (.cells #[.int .u32 0, .int .u32 0, .int .u16 0] 25)) := ⟨sid_alloc (sid_start h) _, row_alloc _ _ _⟩
theorem st_alloc {w W : World} (h : St w W) (o : Obj) : St w (W.alloc o) := ⟨sid_alloc h.1 _, row_alloc_step h.2 _⟩
theorem num_of {S : List UInt8} {M : Nat} (Mi : Int) (hMi : Mi = M) {o : Option (Nat × List UInt8)} (h : numR M S = o) (hM : M ≤ 4294967295) (hS : S.length ≤ 1000) (w W : World) (hw : St w W) :
    Calls Tryd.prog 19 #[Str S, .int .u64 Mi] W fun e w' => e = .returned (numV o) ∧ St w w' ∧ Below W.heap.size W w' := by
  subst hMi
  refine (num_walk S M hM hS W).mono ?_
  rintro e w' ⟨rfl, hb⟩
  rw [h]
  exact ⟨rfl, ⟨sid_step hw.1 hb, row_step hw.2 hb⟩, hb⟩
theorem numR_len {M : Nat} {S r : List UInt8} {n : Nat} (h : numR M S = some (n, r)) : r.length ≤ S.length := by
  rw [(numR_some h).1, List.length_append]; omega
set_option maxRecDepth 100000 in
set_option maxHeartbeats 8000000 in
theorem way1 (S : List UInt8) (hS : S.length ≤ 1000) (w : World) (hg : Good w) (h1 : numR 4294967295 S = none) :
    Calls Tryd.prog 10 #[Str S] w fun e w' => e = .returned (idV none) ∧ Below w.heap.size w w' := by
  have HN1 := Lib.hid (fun W (hw : St w W) => (by have h := num_of 4294967295 rfl h1 (by decide) hS w W hw; unfold numV at h; exact h : Calls Tryd.prog 19 #[Str S, .int .u64 4294967295] W fun e w' => e = .returned (.tuple #[.int .u64 0, Str [], .bool false]) ∧ St w w' ∧ Below W.heap.size W w'))
  clear h1
  have HS := Lib.hid (st_start hg)
  clear hg hS
  go_enter Tryd.func10, Tryd.ntmps10
  go_wp2_with fail
  go_at_call 19; refine (HN1.out _ HS.out).mono ?_; rintro e w1 ⟨rfl, hw1, hbw1⟩
  have H1 := Lib.hid hw1
  have d0 := row_cell H1.out.2 0
  have d1 := row_cell H1.out.2 1
  have d2 := row_cell H1.out.2 2
  simp only [List.getElem?_toArray, List.getElem?_cons_zero, List.getElem?_cons_succ] at d0 d1 d2
  have f0 := row_frz H1.out.2 0
  have f1 := row_frz H1.out.2 1
  have f2 := row_frz H1.out.2 2
  have hlt := row_lt H1.out.2
  have hne : w1.heap.size ≠ w.heap.size := by omega
  have hBel := fun x y z => Lib.hid (st_bel H1.out x y z)
  have hSz := fun x y z => Lib.hid (st_size H1.out x y z)
  clear hw1 hbw1
  go_wp2
  exact bodyPost_ret (v := .tuple #[.agg #[.int .u32 0, .int .u32 0, .int .u16 0], .bool false]) (by simp [results, Tryd.results10, go_sem, World.cell?_setCell_same, World.cell?_setCell_other, World.cell?_alloc_old, *]) rfl ⟨rfl, by first | exact (hBel _ _ _).out | exact Below.alloc (hBel _ _ _).out (hSz _ _ _).out _ | exact st_belx H3.out _ (Nat.le_of_lt hl0) _ _ _ _⟩
set_option maxRecDepth 100000 in
set_option maxHeartbeats 8000000 in
theorem way2 (S : List UInt8) (hS : S.length ≤ 1000) (w : World) (hg : Good w) {c : Nat} (h1 : numR 4294967295 S = some (c, [])) :
    Calls Tryd.prog 10 #[Str S] w fun e w' => e = .returned (idV none) ∧ Below w.heap.size w w' := by
  have HN1 := Lib.hid (fun W (hw : St w W) => (by have h := num_of 4294967295 rfl h1 (by decide) hS w W hw; unfold numV at h; exact h : Calls Tryd.prog 19 #[Str S, .int .u64 4294967295] W fun e w' => e = .returned (.tuple #[.int .u64 (c : Nat), Str [], .bool true]) ∧ St w w' ∧ Below W.heap.size W w'))
  have zz := sb_isnil
  clear h1
  have HS := Lib.hid (st_start hg)
  clear hg hS
  go_enter Tryd.func10, Tryd.ntmps10
  go_wp2_with fail
  go_at_call 19; refine (HN1.out _ HS.out).mono ?_; rintro e w1 ⟨rfl, hw1, hbw1⟩
  have H1 := Lib.hid hw1
  have d0 := row_cell H1.out.2 0
  have d1 := row_cell H1.out.2 1
  have d2 := row_cell H1.out.2 2
  simp only [List.getElem?_toArray, List.getElem?_cons_zero, List.getElem?_cons_succ] at d0 d1 d2
  have f0 := row_frz H1.out.2 0
  have f1 := row_frz H1.out.2 1
  have f2 := row_frz H1.out.2 2
  have hlt := row_lt H1.out.2
  have hne : w1.heap.size ≠ w.heap.size := by omega
  have hBel := fun x y z => Lib.hid (st_bel H1.out x y z)
  have hSz := fun x y z => Lib.hid (st_size H1.out x y z)
  clear hw1 hbw1
  go_wp2
  exact bodyPost_ret (v := .tuple #[.agg #[.int .u32 0, .int .u32 0, .int .u16 0], .bool false]) (by simp [results, Tryd.results10, go_sem, World.cell?_setCell_same, World.cell?_setCell_other, World.cell?_alloc_old, *]) rfl ⟨rfl, by first | exact (hBel _ _ _).out | exact Below.alloc (hBel _ _ _).out (hSz _ _ _).out _ | exact st_belx H3.out _ (Nat.le_of_lt hl0) _ _ _ _⟩
set_option maxRecDepth 100000 in
set_option maxHeartbeats 8000000 in
theorem way3 (S : List UInt8) (hS : S.length ≤ 1000) (w : World) (hg : Good w) {c : Nat} {x : UInt8} {r1 : List UInt8} (h1 : numR 4294967295 S = some (c, x :: r1)) (hx : x ≠ 45) :
    Calls Tryd.prog 10 #[Str S] w fun e w' => e = .returned (idV none) ∧ Below w.heap.size w w' := by
  have HN1 := Lib.hid (fun W (hw : St w W) => (by have h := num_of 4294967295 rfl h1 (by decide) hS w W hw; unfold numV at h; exact h : Calls Tryd.prog 19 #[Str S, .int .u64 4294967295] W fun e w' => e = .returned (.tuple #[.int .u64 (c : Nat), Str (x :: r1), .bool true]) ∧ St w w' ∧ Below W.heap.size W w'))
  have ix := fun W => sb_at1 x r1 W
  have sx := fun W => sb_rest x r1 W
  have zx := sb_cons x r1
  obtain ⟨xn, qx⟩ : ∃ xn : Nat, xn = x.toNat := ⟨_, rfl⟩
  rw [← qx] at ix
  have kx : xn ≠ 45 := fun e => hx (UInt8.toNat_inj.1 (by rw [← qx, e]; rfl))
  have exn : ¬ ((xn : Nat) : Int) = 45 := by omega
  have bxn : (((xn : Nat) : Int) == 45) = false := by rw [beq_eq_false_iff_ne]; exact exn
  clear qx kx hx
  clear h1
  have HS := Lib.hid (st_start hg)
  clear hg hS
  go_enter Tryd.func10, Tryd.ntmps10
  go_wp2_with fail
  go_at_call 19; refine (HN1.out _ HS.out).mono ?_; rintro e w1 ⟨rfl, hw1, hbw1⟩
  have H1 := Lib.hid hw1
  have d0 := row_cell H1.out.2 0
  have d1 := row_cell H1.out.2 1
  have d2 := row_cell H1.out.2 2
  simp only [List.getElem?_toArray, List.getElem?_cons_zero, List.getElem?_cons_succ] at d0 d1 d2
  have f0 := row_frz H1.out.2 0
  have f1 := row_frz H1.out.2 1
  have f2 := row_frz H1.out.2 2
  have hlt := row_lt H1.out.2
  have hne : w1.heap.size ≠ w.heap.size := by omega
  have hBel := fun x y z => Lib.hid (st_bel H1.out x y z)
  have hSz := fun x y z => Lib.hid (st_size H1.out x y z)
  clear hw1 hbw1
  go_wp2
  exact bodyPost_ret (v := .tuple #[.agg #[.int .u32 0, .int .u32 0, .int .u16 0], .bool false]) (by simp [results, Tryd.results10, go_sem, World.cell?_setCell_same, World.cell?_setCell_other, World.cell?_alloc_old, *]) rfl ⟨rfl, by first | exact (hBel _ _ _).out | exact Below.alloc (hBel _ _ _).out (hSz _ _ _).out _ | exact st_belx H3.out _ (Nat.le_of_lt hl0) _ _ _ _⟩
set_option maxRecDepth 100000 in
set_option maxHeartbeats 8000000 in
theorem way4 (S : List UInt8) (hS : S.length ≤ 1000) (w : World) (hg : Good w) {c : Nat} {x : UInt8} {r1 : List UInt8} (h1 : numR 4294967295 S = some (c, x :: r1)) (hx : x = 45) (h2 : numR 4294967295 r1 = none) :
    Calls Tryd.prog 10 #[Str S] w fun e w' => e = .returned (idV none) ∧ Below w.heap.size w w' := by
  have HN1 := Lib.hid (fun W (hw : St w W) => (by have h := num_of 4294967295 rfl h1 (by decide) hS w W hw; unfold numV at h; exact h : Calls Tryd.prog 19 #[Str S, .int .u64 4294967295] W fun e w' => e = .returned (.tuple #[.int .u64 (c : Nat), Str (x :: r1), .bool true]) ∧ St w w' ∧ Below W.heap.size W w'))
  have l1 : r1.length ≤ 1000 := by have := numR_len h1; simp only [List.length_cons] at this; omega
  have ix := fun W => sb_at1 x r1 W
  have sx := fun W => sb_rest x r1 W
  have zx := sb_cons x r1
  obtain ⟨xn, qx⟩ : ∃ xn : Nat, xn = x.toNat := ⟨_, rfl⟩
  rw [← qx] at ix
  have kx : xn = 45 := by rw [qx, hx]; rfl
  have exn : ((xn : Nat) : Int) = 45 := by omega
  have bxn : (((xn : Nat) : Int) == 45) = true := by rw [beq_iff_eq]; exact exn
  clear qx kx hx
  have HN2 := Lib.hid (fun W (hw : St w W) => (by have h := num_of 4294967295 rfl h2 (by decide) l1 w W hw; unfold numV at h; exact h : Calls Tryd.prog 19 #[Str r1, .int .u64 4294967295] W fun e w' => e = .returned (.tuple #[.int .u64 0, Str [], .bool false]) ∧ St w w' ∧ Below W.heap.size W w'))
  clear h1 h2 l1
  have HS := Lib.hid (st_start hg)
  clear hg hS
  go_enter Tryd.func10, Tryd.ntmps10
  go_wp2_with fail
  go_at_call 19; refine (HN1.out _ HS.out).mono ?_; rintro e w1 ⟨rfl, hw1, hbw1⟩
  have H1 := Lib.hid hw1
  clear hw1 hbw1
  go_wp2_with fail
  go_at_call 19; refine (HN2.out _ H1.out).mono ?_; rintro e w2 ⟨rfl, hw2, hbw2⟩
  have H2 := Lib.hid hw2
  have d0 := row_cell H2.out.2 0
  have d1 := row_cell H2.out.2 1
  have d2 := row_cell H2.out.2 2
  simp only [List.getElem?_toArray, List.getElem?_cons_zero, List.getElem?_cons_succ] at d0 d1 d2
  have f0 := row_frz H2.out.2 0
  have f1 := row_frz H2.out.2 1
  have f2 := row_frz H2.out.2 2
  have hlt := row_lt H2.out.2
  have hne : w2.heap.size ≠ w.heap.size := by omega
  have hBel := fun x y z => Lib.hid (st_bel H2.out x y z)
  have hSz := fun x y z => Lib.hid (st_size H2.out x y z)
  clear hw2 hbw2
  go_wp2
  exact bodyPost_ret (v := .tuple #[.agg #[.int .u32 0, .int .u32 0, .int .u16 0], .bool false]) (by simp [results, Tryd.results10, go_sem, World.cell?_setCell_same, World.cell?_setCell_other, World.cell?_alloc_old, *]) rfl ⟨rfl, by first | exact (hBel _ _ _).out | exact Below.alloc (hBel _ _ _).out (hSz _ _ _).out _ | exact st_belx H3.out _ (Nat.le_of_lt hl0) _ _ _ _⟩
set_option maxRecDepth 100000 in
set_option maxHeartbeats 8000000 in
theorem way5 (S : List UInt8) (hS : S.length ≤ 1000) (w : World) (hg : Good w) {c : Nat} {x : UInt8} {r1 : List UInt8} {q : Nat} (h1 : numR 4294967295 S = some (c, x :: r1)) (hx : x = 45) (h2 : numR 4294967295 r1 = some (q, [])) :
    Calls Tryd.prog 10 #[Str S] w fun e w' => e = .returned (idV (some (c, q, 0))) ∧ Below w.heap.size w w' := by
  have HN1 := Lib.hid (fun W (hw : St w W) => (by have h := num_of 4294967295 rfl h1 (by decide) hS w W hw; unfold numV at h; exact h : Calls Tryd.prog 19 #[Str S, .int .u64 4294967295] W fun e w' => e = .returned (.tuple #[.int .u64 (c : Nat), Str (x :: r1), .bool true]) ∧ St w w' ∧ Below W.heap.size W w'))
  have l1 : r1.length ≤ 1000 := by have := numR_len h1; simp only [List.length_cons] at this; omega
  have ix := fun W => sb_at1 x r1 W
  have sx := fun W => sb_rest x r1 W
  have zx := sb_cons x r1
  obtain ⟨xn, qx⟩ : ∃ xn : Nat, xn = x.toNat := ⟨_, rfl⟩
  rw [← qx] at ix
  have kx : xn = 45 := by rw [qx, hx]; rfl
  have exn : ((xn : Nat) : Int) = 45 := by omega
  have bxn : (((xn : Nat) : Int) == 45) = true := by rw [beq_iff_eq]; exact exn
  clear qx kx hx
  have HN2 := Lib.hid (fun W (hw : St w W) => (by have h := num_of 4294967295 rfl h2 (by decide) l1 w W hw; unfold numV at h; exact h : Calls Tryd.prog 19 #[Str r1, .int .u64 4294967295] W fun e w' => e = .returned (.tuple #[.int .u64 (q : Nat), Str [], .bool true]) ∧ St w w' ∧ Below W.heap.size W w'))
  have lc : c ≤ 4294967295 := (numR_some h1).2
  have wc : (c : Int) % 4294967296 = c := by omega
  have lq : q ≤ 4294967295 := (numR_some h2).2
  have wq : (q : Int) % 4294967296 = q := by omega
  have zz := sb_isnil
  clear h1 h2 l1 lc lq
  have HS := Lib.hid (st_start hg)
  clear hg hS
  go_enter Tryd.func10, Tryd.ntmps10
  go_wp2_with fail
  go_at_call 19; refine (HN1.out _ HS.out).mono ?_; rintro e w1 ⟨rfl, hw1, hbw1⟩
  have H1 := Lib.hid hw1
  clear hw1 hbw1
  go_wp2_with fail
  go_at_call 19; refine (HN2.out _ H1.out).mono ?_; rintro e w2 ⟨rfl, hw2, hbw2⟩
  have H2 := Lib.hid hw2
  have d0 := row_cell H2.out.2 0
  have d1 := row_cell H2.out.2 1
  have d2 := row_cell H2.out.2 2
  simp only [List.getElem?_toArray, List.getElem?_cons_zero, List.getElem?_cons_succ] at d0 d1 d2
  have f0 := row_frz H2.out.2 0
  have f1 := row_frz H2.out.2 1
  have f2 := row_frz H2.out.2 2
  have hlt := row_lt H2.out.2
  have hne : w2.heap.size ≠ w.heap.size := by omega
  have hBel := fun x y z => Lib.hid (st_bel H2.out x y z)
  have hSz := fun x y z => Lib.hid (st_size H2.out x y z)
  clear hw2 hbw2
  go_wp2
  exact bodyPost_ret (v := .tuple #[.agg #[.int .u32 c, .int .u32 q, .int .u16 0], .bool true]) (by simp [results, Tryd.results10, go_sem, World.cell?_setCell_same, World.cell?_setCell_other, World.cell?_alloc_old, *]) rfl ⟨rfl, by first | exact (hBel _ _ _).out | exact Below.alloc (hBel _ _ _).out (hSz _ _ _).out _ | exact st_belx H3.out _ (Nat.le_of_lt hl0) _ _ _ _⟩
set_option maxRecDepth 100000 in
set_option maxHeartbeats 8000000 in
theorem way6 (S : List UInt8) (hS : S.length ≤ 1000) (w : World) (hg : Good w) {c : Nat} {x : UInt8} {r1 : List UInt8} {q : Nat} {y : UInt8} {r3 : List UInt8} (h1 : numR 4294967295 S = some (c, x :: r1)) (hx : x = 45) (h2 : numR 4294967295 r1 = some (q, y :: r3)) (hy : y ≠ 46) :
    Calls Tryd.prog 10 #[Str S] w fun e w' => e = .returned (idV none) ∧ Below w.heap.size w w' := by
  have HN1 := Lib.hid (fun W (hw : St w W) => (by have h := num_of 4294967295 rfl h1 (by decide) hS w W hw; unfold numV at h; exact h : Calls Tryd.prog 19 #[Str S, .int .u64 4294967295] W fun e w' => e = .returned (.tuple #[.int .u64 (c : Nat), Str (x :: r1), .bool true]) ∧ St w w' ∧ Below W.heap.size W w'))
  have l1 : r1.length ≤ 1000 := by have := numR_len h1; simp only [List.length_cons] at this; omega
  have ix := fun W => sb_at1 x r1 W
  have sx := fun W => sb_rest x r1 W
  have zx := sb_cons x r1
  obtain ⟨xn, qx⟩ : ∃ xn : Nat, xn = x.toNat := ⟨_, rfl⟩
  rw [← qx] at ix
  have kx : xn = 45 := by rw [qx, hx]; rfl
  have exn : ((xn : Nat) : Int) = 45 := by omega
  have bxn : (((xn : Nat) : Int) == 45) = true := by rw [beq_iff_eq]; exact exn
  clear qx kx hx
  have HN2 := Lib.hid (fun W (hw : St w W) => (by have h := num_of 4294967295 rfl h2 (by decide) l1 w W hw; unfold numV at h; exact h : Calls Tryd.prog 19 #[Str r1, .int .u64 4294967295] W fun e w' => e = .returned (.tuple #[.int .u64 (q : Nat), Str (y :: r3), .bool true]) ∧ St w w' ∧ Below W.heap.size W w'))
  have lc : c ≤ 4294967295 := (numR_some h1).2
  have wc : (c : Int) % 4294967296 = c := by omega
  have lq : q ≤ 4294967295 := (numR_some h2).2
  have wq : (q : Int) % 4294967296 = q := by omega
  have l3 : r3.length ≤ 1000 := by have := numR_len h2; simp only [List.length_cons] at this; omega
  have iy := fun W => sb_at1 y r3 W
  have sy := fun W => sb_rest y r3 W
  have zy := sb_cons y r3
  obtain ⟨yn, qy⟩ : ∃ yn : Nat, yn = y.toNat := ⟨_, rfl⟩
  rw [← qy] at iy
  have ky : yn ≠ 46 := fun e => hy (UInt8.toNat_inj.1 (by rw [← qy, e]; rfl))
  have eyn : ¬ ((yn : Nat) : Int) = 46 := by omega
  have byn : (((yn : Nat) : Int) == 46) = false := by rw [beq_eq_false_iff_ne]; exact eyn
  clear qy ky hy
  clear h1 h2 l1 l3 lc lq
  have HS := Lib.hid (st_start hg)
  clear hg hS
  go_enter Tryd.func10, Tryd.ntmps10
  go_wp2_with fail
  go_at_call 19; refine (HN1.out _ HS.out).mono ?_; rintro e w1 ⟨rfl, hw1, hbw1⟩
  have H1 := Lib.hid hw1
  clear hw1 hbw1
  go_wp2_with fail
  go_at_call 19; refine (HN2.out _ H1.out).mono ?_; rintro e w2 ⟨rfl, hw2, hbw2⟩
  have H2 := Lib.hid hw2
  have d0 := row_cell H2.out.2 0
  have d1 := row_cell H2.out.2 1
  have d2 := row_cell H2.out.2 2
  simp only [List.getElem?_toArray, List.getElem?_cons_zero, List.getElem?_cons_succ] at d0 d1 d2
  have f0 := row_frz H2.out.2 0
  have f1 := row_frz H2.out.2 1
  have f2 := row_frz H2.out.2 2
  have hlt := row_lt H2.out.2
  have hne : w2.heap.size ≠ w.heap.size := by omega
  have hBel := fun x y z => Lib.hid (st_bel H2.out x y z)
  have hSz := fun x y z => Lib.hid (st_size H2.out x y z)
  clear hw2 hbw2
  go_wp2
  exact bodyPost_ret (v := .tuple #[.agg #[.int .u32 0, .int .u32 0, .int .u16 0], .bool false]) (by simp [results, Tryd.results10, go_sem, World.cell?_setCell_same, World.cell?_setCell_other, World.cell?_alloc_old, *]) rfl ⟨rfl, by first | exact (hBel _ _ _).out | exact Below.alloc (hBel _ _ _).out (hSz _ _ _).out _ | exact st_belx H3.out _ (Nat.le_of_lt hl0) _ _ _ _⟩
set_option maxRecDepth 100000 in
set_option maxHeartbeats 8000000 in
theorem way7 (S : List UInt8) (hS : S.length ≤ 1000) (w : World) (hg : Good w) {c : Nat} {x : UInt8} {r1 : List UInt8} {q : Nat} {y : UInt8} {r3 : List UInt8} (h1 : numR 4294967295 S = some (c, x :: r1)) (hx : x = 45) (h2 : numR 4294967295 r1 = some (q, y :: r3)) (hy : y = 46) (h3 : numR 65535 r3 = none) :
    Calls Tryd.prog 10 #[Str S] w fun e w' => e = .returned (idV none) ∧ Below w.heap.size w w' := by
  have HN1 := Lib.hid (fun W (hw : St w W) => (by have h := num_of 4294967295 rfl h1 (by decide) hS w W hw; unfold numV at h; exact h : Calls Tryd.prog 19 #[Str S, .int .u64 4294967295] W fun e w' => e = .returned (.tuple #[.int .u64 (c : Nat), Str (x :: r1), .bool true]) ∧ St w w' ∧ Below W.heap.size W w'))
  have l1 : r1.length ≤ 1000 := by have := numR_len h1; simp only [List.length_cons] at this; omega
  have ix := fun W => sb_at1 x r1 W
  have sx := fun W => sb_rest x r1 W
  have zx := sb_cons x r1
  obtain ⟨xn, qx⟩ : ∃ xn : Nat, xn = x.toNat := ⟨_, rfl⟩
  rw [← qx] at ix
  have kx : xn = 45 := by rw [qx, hx]; rfl
  have exn : ((xn : Nat) : Int) = 45 := by omega
  have bxn : (((xn : Nat) : Int) == 45) = true := by rw [beq_iff_eq]; exact exn
  clear qx kx hx
  have HN2 := Lib.hid (fun W (hw : St w W) => (by have h := num_of 4294967295 rfl h2 (by decide) l1 w W hw; unfold numV at h; exact h : Calls Tryd.prog 19 #[Str r1, .int .u64 4294967295] W fun e w' => e = .returned (.tuple #[.int .u64 (q : Nat), Str (y :: r3), .bool true]) ∧ St w w' ∧ Below W.heap.size W w'))
  have lc : c ≤ 4294967295 := (numR_some h1).2
  have wc : (c : Int) % 4294967296 = c := by omega
  have lq : q ≤ 4294967295 := (numR_some h2).2
  have wq : (q : Int) % 4294967296 = q := by omega
  have l3 : r3.length ≤ 1000 := by have := numR_len h2; simp only [List.length_cons] at this; omega
  have iy := fun W => sb_at1 y r3 W
  have sy := fun W => sb_rest y r3 W
  have zy := sb_cons y r3
  obtain ⟨yn, qy⟩ : ∃ yn : Nat, yn = y.toNat := ⟨_, rfl⟩
  rw [← qy] at iy
  have ky : yn = 46 := by rw [qy, hy]; rfl
  have eyn : ((yn : Nat) : Int) = 46 := by omega
  have byn : (((yn : Nat) : Int) == 46) = true := by rw [beq_iff_eq]; exact eyn
  clear qy ky hy
  have HN3 := Lib.hid (fun W (hw : St w W) => (by have h := num_of 65535 rfl h3 (by decide) l3 w W hw; unfold numV at h; exact h : Calls Tryd.prog 19 #[Str r3, .int .u64 65535] W fun e w' => e = .returned (.tuple #[.int .u64 0, Str [], .bool false]) ∧ St w w' ∧ Below W.heap.size W w'))
  clear h1 h2 h3 l1 l3 lc lq
  have HS := Lib.hid (st_start hg)
  clear hg hS
  go_enter Tryd.func10, Tryd.ntmps10
  go_wp2_with fail
  go_at_call 19; refine (HN1.out _ HS.out).mono ?_; rintro e w1 ⟨rfl, hw1, hbw1⟩
  have H1 := Lib.hid hw1
  clear hw1 hbw1
  go_wp2_with fail
  go_at_call 19; refine (HN2.out _ H1.out).mono ?_; rintro e w2 ⟨rfl, hw2, hbw2⟩
  have H2 := Lib.hid hw2
  clear hw2 hbw2
  go_wp2_with fail
  go_at_call 19; refine (HN3.out _ (st_alloc H2.out _)).mono ?_; rintro e w3 ⟨rfl, hw3, hbw3⟩
  have H3 := Lib.hid hw3
  have HR := Lib.hid (row_step (row_alloc w2 #[.int .u32 c, .int .u32 q, .int .u16 0] 25) hbw3)
  have i0 := row_cell HR.out 0
  have i1 := row_cell HR.out 1
  have i2 := row_cell HR.out 2
  simp only [List.getElem?_toArray, List.getElem?_cons_zero, List.getElem?_cons_succ] at i0 i1 i2
  have g2 := row_frz HR.out 2
  have hl2 := row_lt HR.out
  have hl0 := row_lt H2.out.2
  have hn2 : w2.heap.size ≠ w.heap.size := by omega
  have d0 := row_cell H3.out.2 0
  have d1 := row_cell H3.out.2 1
  have d2 := row_cell H3.out.2 2
  simp only [List.getElem?_toArray, List.getElem?_cons_zero, List.getElem?_cons_succ] at d0 d1 d2
  have f0 := row_frz H3.out.2 0
  have f1 := row_frz H3.out.2 1
  have f2 := row_frz H3.out.2 2
  have hlt := row_lt H3.out.2
  have hne : w3.heap.size ≠ w.heap.size := by omega
  have hBel := fun x y z => Lib.hid (st_bel H3.out x y z)
  have hSz := fun x y z => Lib.hid (st_size H3.out x y z)
  clear hw3 hbw3
  go_wp2
  exact bodyPost_ret (v := .tuple #[.agg #[.int .u32 0, .int .u32 0, .int .u16 0], .bool false]) (by simp [results, Tryd.results10, go_sem, World.cell?_setCell_same, World.cell?_setCell_other, World.cell?_alloc_old, *]) rfl ⟨rfl, by first | exact (hBel _ _ _).out | exact Below.alloc (hBel _ _ _).out (hSz _ _ _).out _ | exact st_belx H3.out _ (Nat.le_of_lt hl0) _ _ _ _⟩
set_option maxRecDepth 100000 in
set_option maxHeartbeats 8000000 in
theorem way8 (S : List UInt8) (hS : S.length ≤ 1000) (w : World) (hg : Good w) {c : Nat} {x : UInt8} {r1 : List UInt8} {q : Nat} {y : UInt8} {r3 : List UInt8} {n : Nat} {z : UInt8} {r4 : List UInt8} (h1 : numR 4294967295 S = some (c, x :: r1)) (hx : x = 45) (h2 : numR 4294967295 r1 = some (q, y :: r3)) (hy : y = 46) (h3 : numR 65535 r3 = some (n, z :: r4)) :
    Calls Tryd.prog 10 #[Str S] w fun e w' => e = .returned (idV none) ∧ Below w.heap.size w w' := by
  have HN1 := Lib.hid (fun W (hw : St w W) => (by have h := num_of 4294967295 rfl h1 (by decide) hS w W hw; unfold numV at h; exact h : Calls Tryd.prog 19 #[Str S, .int .u64 4294967295] W fun e w' => e = .returned (.tuple #[.int .u64 (c : Nat), Str (x :: r1), .bool true]) ∧ St w w' ∧ Below W.heap.size W w'))
  have l1 : r1.length ≤ 1000 := by have := numR_len h1; simp only [List.length_cons] at this; omega
  have ix := fun W => sb_at1 x r1 W
  have sx := fun W => sb_rest x r1 W
  have zx := sb_cons x r1
  obtain ⟨xn, qx⟩ : ∃ xn : Nat, xn = x.toNat := ⟨_, rfl⟩
  rw [← qx] at ix
  have kx : xn = 45 := by rw [qx, hx]; rfl
  have exn : ((xn : Nat) : Int) = 45 := by omega
  have bxn : (((xn : Nat) : Int) == 45) = true := by rw [beq_iff_eq]; exact exn
  clear qx kx hx
  have HN2 := Lib.hid (fun W (hw : St w W) => (by have h := num_of 4294967295 rfl h2 (by decide) l1 w W hw; unfold numV at h; exact h : Calls Tryd.prog 19 #[Str r1, .int .u64 4294967295] W fun e w' => e = .returned (.tuple #[.int .u64 (q : Nat), Str (y :: r3), .bool true]) ∧ St w w' ∧ Below W.heap.size W w'))
  have lc : c ≤ 4294967295 := (numR_some h1).2
  have wc : (c : Int) % 4294967296 = c := by omega
  have lq : q ≤ 4294967295 := (numR_some h2).2
  have wq : (q : Int) % 4294967296 = q := by omega
  have l3 : r3.length ≤ 1000 := by have := numR_len h2; simp only [List.length_cons] at this; omega
  have iy := fun W => sb_at1 y r3 W
  have sy := fun W => sb_rest y r3 W
  have zy := sb_cons y r3
  obtain ⟨yn, qy⟩ : ∃ yn : Nat, yn = y.toNat := ⟨_, rfl⟩
  rw [← qy] at iy
  have ky : yn = 46 := by rw [qy, hy]; rfl
  have eyn : ((yn : Nat) : Int) = 46 := by omega
  have byn : (((yn : Nat) : Int) == 46) = true := by rw [beq_iff_eq]; exact eyn
  clear qy ky hy
  have HN3 := Lib.hid (fun W (hw : St w W) => (by have h := num_of 65535 rfl h3 (by decide) l3 w W hw; unfold numV at h; exact h : Calls Tryd.prog 19 #[Str r3, .int .u64 65535] W fun e w' => e = .returned (.tuple #[.int .u64 (n : Nat), Str (z :: r4), .bool true]) ∧ St w w' ∧ Below W.heap.size W w'))
  have ln : n ≤ 65535 := (numR_some h3).2
  have wn : IntKind.u16.wrap (n : Int) = n := by rw [IntKind.wrap_u16]; omega
  have zz := sb_cons z r4
  clear h1 h2 h3 l1 l3 lc lq ln
  have HS := Lib.hid (st_start hg)
  clear hg hS
  go_enter Tryd.func10, Tryd.ntmps10
  go_wp2_with fail
  go_at_call 19; refine (HN1.out _ HS.out).mono ?_; rintro e w1 ⟨rfl, hw1, hbw1⟩
  have H1 := Lib.hid hw1
  clear hw1 hbw1
  go_wp2_with fail
  go_at_call 19; refine (HN2.out _ H1.out).mono ?_; rintro e w2 ⟨rfl, hw2, hbw2⟩
  have H2 := Lib.hid hw2
  clear hw2 hbw2
  go_wp2_with fail
  go_at_call 19; refine (HN3.out _ (st_alloc H2.out _)).mono ?_; rintro e w3 ⟨rfl, hw3, hbw3⟩
  have H3 := Lib.hid hw3
  have HR := Lib.hid (row_step (row_alloc w2 #[.int .u32 c, .int .u32 q, .int .u16 0] 25) hbw3)
  have i0 := row_cell HR.out 0
  have i1 := row_cell HR.out 1
  have i2 := row_cell HR.out 2
  simp only [List.getElem?_toArray, List.getElem?_cons_zero, List.getElem?_cons_succ] at i0 i1 i2
  have g2 := row_frz HR.out 2
  have hl2 := row_lt HR.out
  have hl0 := row_lt H2.out.2
  have hn2 : w2.heap.size ≠ w.heap.size := by omega
  have d0 := row_cell H3.out.2 0
  have d1 := row_cell H3.out.2 1
  have d2 := row_cell H3.out.2 2
  simp only [List.getElem?_toArray, List.getElem?_cons_zero, List.getElem?_cons_succ] at d0 d1 d2
  have f0 := row_frz H3.out.2 0
  have f1 := row_frz H3.out.2 1
  have f2 := row_frz H3.out.2 2
  have hlt := row_lt H3.out.2
  have hne : w3.heap.size ≠ w.heap.size := by omega
  have hBel := fun x y z => Lib.hid (st_bel H3.out x y z)
  have hSz := fun x y z => Lib.hid (st_size H3.out x y z)
  clear hw3 hbw3
  go_wp2
  exact bodyPost_ret (v := .tuple #[.agg #[.int .u32 0, .int .u32 0, .int .u16 0], .bool false]) (by simp [results, Tryd.results10, go_sem, World.cell?_setCell_same, World.cell?_setCell_other, World.cell?_alloc_old, *]) rfl ⟨rfl, by first | exact (hBel _ _ _).out | exact Below.alloc (hBel _ _ _).out (hSz _ _ _).out _ | exact st_belx H3.out _ (Nat.le_of_lt hl0) _ _ _ _⟩
set_option maxRecDepth 100000 in
set_option maxHeartbeats 8000000 in
theorem way9 (S : List UInt8) (hS : S.length ≤ 1000) (w : World) (hg : Good w) {c : Nat} {x : UInt8} {r1 : List UInt8} {q : Nat} {y : UInt8} {r3 : List UInt8} (h1 : numR 4294967295 S = some (c, x :: r1)) (hx : x = 45) (h2 : numR 4294967295 r1 = some (q, y :: r3)) (hy : y = 46) (h3 : numR 65535 r3 = some (0, [])) :
    Calls Tryd.prog 10 #[Str S] w fun e w' => e = .returned (idV none) ∧ Below w.heap.size w w' := by
  have HN1 := Lib.hid (fun W (hw : St w W) => (by have h := num_of 4294967295 rfl h1 (by decide) hS w W hw; unfold numV at h; exact h : Calls Tryd.prog 19 #[Str S, .int .u64 4294967295] W fun e w' => e = .returned (.tuple #[.int .u64 (c : Nat), Str (x :: r1), .bool true]) ∧ St w w' ∧ Below W.heap.size W w'))
  have l1 : r1.length ≤ 1000 := by have := numR_len h1; simp only [List.length_cons] at this; omega
  have ix := fun W => sb_at1 x r1 W
  have sx := fun W => sb_rest x r1 W
  have zx := sb_cons x r1
  obtain ⟨xn, qx⟩ : ∃ xn : Nat, xn = x.toNat := ⟨_, rfl⟩
  rw [← qx] at ix
  have kx : xn = 45 := by rw [qx, hx]; rfl
  have exn : ((xn : Nat) : Int) = 45 := by omega
  have bxn : (((xn : Nat) : Int) == 45) = true := by rw [beq_iff_eq]; exact exn
  clear qx kx hx
  have HN2 := Lib.hid (fun W (hw : St w W) => (by have h := num_of 4294967295 rfl h2 (by decide) l1 w W hw; unfold numV at h; exact h : Calls Tryd.prog 19 #[Str r1, .int .u64 4294967295] W fun e w' => e = .returned (.tuple #[.int .u64 (q : Nat), Str (y :: r3), .bool true]) ∧ St w w' ∧ Below W.heap.size W w'))
  have lc : c ≤ 4294967295 := (numR_some h1).2
  have wc : (c : Int) % 4294967296 = c := by omega
  have lq : q ≤ 4294967295 := (numR_some h2).2
  have wq : (q : Int) % 4294967296 = q := by omega
  have l3 : r3.length ≤ 1000 := by have := numR_len h2; simp only [List.length_cons] at this; omega
  have iy := fun W => sb_at1 y r3 W
  have sy := fun W => sb_rest y r3 W
  have zy := sb_cons y r3
  obtain ⟨yn, qy⟩ : ∃ yn : Nat, yn = y.toNat := ⟨_, rfl⟩
  rw [← qy] at iy
  have ky : yn = 46 := by rw [qy, hy]; rfl
  have eyn : ((yn : Nat) : Int) = 46 := by omega
  have byn : (((yn : Nat) : Int) == 46) = true := by rw [beq_iff_eq]; exact eyn
  clear qy ky hy
  have HN3 := Lib.hid (fun W (hw : St w W) => (by have h := num_of 65535 rfl h3 (by decide) l3 w W hw; unfold numV at h; exact h : Calls Tryd.prog 19 #[Str r3, .int .u64 65535] W fun e w' => e = .returned (.tuple #[.int .u64 (0 : Nat), Str [], .bool true]) ∧ St w w' ∧ Below W.heap.size W w'))
  have zz := sb_isnil
  clear h1 h2 h3 l1 l3 lc lq
  have HS := Lib.hid (st_start hg)
  clear hg hS
  go_enter Tryd.func10, Tryd.ntmps10
  go_wp2_with fail
  go_at_call 19; refine (HN1.out _ HS.out).mono ?_; rintro e w1 ⟨rfl, hw1, hbw1⟩
  have H1 := Lib.hid hw1
  clear hw1 hbw1
  go_wp2_with fail
  go_at_call 19; refine (HN2.out _ H1.out).mono ?_; rintro e w2 ⟨rfl, hw2, hbw2⟩
  have H2 := Lib.hid hw2
  clear hw2 hbw2
  go_wp2_with fail
  go_at_call 19; refine (HN3.out _ (st_alloc H2.out _)).mono ?_; rintro e w3 ⟨rfl, hw3, hbw3⟩
  have H3 := Lib.hid hw3
  have HR := Lib.hid (row_step (row_alloc w2 #[.int .u32 c, .int .u32 q, .int .u16 0] 25) hbw3)
  have i0 := row_cell HR.out 0
  have i1 := row_cell HR.out 1
  have i2 := row_cell HR.out 2
  simp only [List.getElem?_toArray, List.getElem?_cons_zero, List.getElem?_cons_succ] at i0 i1 i2
  have g2 := row_frz HR.out 2
  have hl2 := row_lt HR.out
  have hl0 := row_lt H2.out.2
  have hn2 : w2.heap.size ≠ w.heap.size := by omega
  have d0 := row_cell H3.out.2 0
  have d1 := row_cell H3.out.2 1
  have d2 := row_cell H3.out.2 2
  simp only [List.getElem?_toArray, List.getElem?_cons_zero, List.getElem?_cons_succ] at d0 d1 d2
  have f0 := row_frz H3.out.2 0
  have f1 := row_frz H3.out.2 1
  have f2 := row_frz H3.out.2 2
  have hlt := row_lt H3.out.2
  have hne : w3.heap.size ≠ w.heap.size := by omega
  have hBel := fun x y z => Lib.hid (st_bel H3.out x y z)
  have hSz := fun x y z => Lib.hid (st_size H3.out x y z)
  clear hw3 hbw3
  go_wp2
  exact bodyPost_ret (v := .tuple #[.agg #[.int .u32 0, .int .u32 0, .int .u16 0], .bool false]) (by simp [results, Tryd.results10, go_sem, World.cell?_setCell_same, World.cell?_setCell_other, World.cell?_alloc_old, *]) rfl ⟨rfl, by first | exact (hBel _ _ _).out | exact Below.alloc (hBel _ _ _).out (hSz _ _ _).out _ | exact st_belx H3.out _ (Nat.le_of_lt hl0) _ _ _ _⟩

set_option maxRecDepth 100000 in
set_option maxHeartbeats 8000000 in
theorem way10 (S : List UInt8) (hS : S.length ≤ 1000) (w : World) (hg : Good w) {c : Nat} {x : UInt8} {r1 : List UInt8} {q : Nat} {y : UInt8} {r3 : List UInt8} {n : Nat} (h1 : numR 4294967295 S = some (c, x :: r1)) (hx : x = 45) (h2 : numR 4294967295 r1 = some (q, y :: r3)) (hy : y = 46) (h3 : numR 65535 r3 = some (n, [])) (hn : n ≠ 0) :
    Calls Tryd.prog 10 #[Str S] w fun e w' => e = .returned (idV (some (c, q, n))) ∧ Below w.heap.size w w' := by
  have HN1 := Lib.hid (fun W (hw : St w W) => (by have h := num_of 4294967295 rfl h1 (by decide) hS w W hw; unfold numV at h; exact h : Calls Tryd.prog 19 #[Str S, .int .u64 4294967295] W fun e w' => e = .returned (.tuple #[.int .u64 (c : Nat), Str (x :: r1), .bool true]) ∧ St w w' ∧ Below W.heap.size W w'))
  have l1 : r1.length ≤ 1000 := by have := numR_len h1; simp only [List.length_cons] at this; omega
  have ix := fun W => sb_at1 x r1 W
  have sx := fun W => sb_rest x r1 W
  have zx := sb_cons x r1
  obtain ⟨xn, qx⟩ : ∃ xn : Nat, xn = x.toNat := ⟨_, rfl⟩
  rw [← qx] at ix
  have kx : xn = 45 := by rw [qx, hx]; rfl
  have exn : ((xn : Nat) : Int) = 45 := by omega
  have bxn : (((xn : Nat) : Int) == 45) = true := by rw [beq_iff_eq]; exact exn
  clear qx kx hx
  have HN2 := Lib.hid (fun W (hw : St w W) => (by have h := num_of 4294967295 rfl h2 (by decide) l1 w W hw; unfold numV at h; exact h : Calls Tryd.prog 19 #[Str r1, .int .u64 4294967295] W fun e w' => e = .returned (.tuple #[.int .u64 (q : Nat), Str (y :: r3), .bool true]) ∧ St w w' ∧ Below W.heap.size W w'))
  have lc : c ≤ 4294967295 := (numR_some h1).2
  have wc : (c : Int) % 4294967296 = c := by omega
  have lq : q ≤ 4294967295 := (numR_some h2).2
  have wq : (q : Int) % 4294967296 = q := by omega
  have l3 : r3.length ≤ 1000 := by have := numR_len h2; simp only [List.length_cons] at this; omega
  have iy := fun W => sb_at1 y r3 W
  have sy := fun W => sb_rest y r3 W
  have zy := sb_cons y r3
  obtain ⟨yn, qy⟩ : ∃ yn : Nat, yn = y.toNat := ⟨_, rfl⟩
  rw [← qy] at iy
  have ky : yn = 46 := by rw [qy, hy]; rfl
  have eyn : ((yn : Nat) : Int) = 46 := by omega
  have byn : (((yn : Nat) : Int) == 46) = true := by rw [beq_iff_eq]; exact eyn
  clear qy ky hy
  have HN3 := Lib.hid (fun W (hw : St w W) => (by have h := num_of 65535 rfl h3 (by decide) l3 w W hw; unfold numV at h; exact h : Calls Tryd.prog 19 #[Str r3, .int .u64 65535] W fun e w' => e = .returned (.tuple #[.int .u64 (n : Nat), Str [], .bool true]) ∧ St w w' ∧ Below W.heap.size W w'))
  have ln : n ≤ 65535 := (numR_some h3).2
  have wn : IntKind.u16.wrap (n : Int) = n := by rw [IntKind.wrap_u16]; omega
  have en : ¬ ((n : Nat) : Int) = 0 := by omega
  have bn : (((n : Nat) : Int) == 0) = false := by rw [beq_eq_false_iff_ne]; exact en
  have zz := sb_isnil
  clear h1 h2 h3 l1 l3 lc lq ln hn
  have HS := Lib.hid (st_start hg)
  clear hg hS
  go_enter Tryd.func10, Tryd.ntmps10
  go_wp2_with fail
  go_at_call 19; refine (HN1.out _ HS.out).mono ?_; rintro e w1 ⟨rfl, hw1, hbw1⟩
  have H1 := Lib.hid hw1
  clear hw1 hbw1
  go_wp2_with fail
  go_at_call 19; refine (HN2.out _ H1.out).mono ?_; rintro e w2 ⟨rfl, hw2, hbw2⟩
  have H2 := Lib.hid hw2
  clear hw2 hbw2
  go_wp2_with fail
  go_at_call 19; refine (HN3.out _ (st_alloc H2.out _)).mono ?_; rintro e w3 ⟨rfl, hw3, hbw3⟩
  have H3 := Lib.hid hw3
  have HR := Lib.hid (row_step (row_alloc w2 #[.int .u32 c, .int .u32 q, .int .u16 0] 25) hbw3)
  have i0 := row_cell HR.out 0
  have i1 := row_cell HR.out 1
  have i2 := row_cell HR.out 2
  simp only [List.getElem?_toArray, List.getElem?_cons_zero, List.getElem?_cons_succ] at i0 i1 i2
  have g2 := row_frz HR.out 2
  have hl2 := row_lt HR.out
  have hl0 := row_lt H2.out.2
  have hn2 : w2.heap.size ≠ w.heap.size := by omega
  have d0 := row_cell H3.out.2 0
  have d1 := row_cell H3.out.2 1
  have d2 := row_cell H3.out.2 2
  simp only [List.getElem?_toArray, List.getElem?_cons_zero, List.getElem?_cons_succ] at d0 d1 d2
  have f0 := row_frz H3.out.2 0
  have f1 := row_frz H3.out.2 1
  have f2 := row_frz H3.out.2 2
  have hlt := row_lt H3.out.2
  have hne : w3.heap.size ≠ w.heap.size := by omega
  have hBel := fun x y z => Lib.hid (st_bel H3.out x y z)
  have hSz := fun x y z => Lib.hid (st_size H3.out x y z)
  clear hw3 hbw3
  go_wp2
  exact bodyPost_ret (v := .tuple #[.agg #[.int .u32 c, .int .u32 q, .int .u16 n], .bool true]) (by simp [results, Tryd.results10, go_sem, World.cell?_setCell_same, World.cell?_setCell_other, World.cell?_alloc_old, *]) rfl ⟨rfl, by first | exact (hBel _ _ _).out | exact Below.alloc (hBel _ _ _).out (hSz _ _ _).out _ | exact st_belx H3.out _ (Nat.le_of_lt hl0) _ _ _ _⟩
theorem rparse_any (S : List UInt8) (hS : S.length ≤ 1000) (w : World) (hg : Good w) :
    Calls Tryd.prog 10 #[Str S] w fun e w' => e = .returned (idV (refId S)) ∧ Below w.heap.size w w' := by
  cases h1 : numR 4294967295 S with
  | none => have e : refId S = none := by unfold refId; rw [h1]
            rw [e]; exact way1 S hS w hg h1
  | some p =>
    obtain ⟨c, t1⟩ := p
    cases t1 with
    | nil => have e : refId S = none := by unfold refId; rw [h1]
             rw [e]; exact way2 S hS w hg h1
    | cons x r1 =>
      by_cases hx : x = 45
      · cases h2 : numR 4294967295 r1 with
        | none => have e : refId S = none := by unfold refId; rw [h1]; simp only [hx, h2, ne_eq, not_true_eq_false, if_false]
                  rw [e]; exact way4 S hS w hg h1 hx h2
        | some p =>
          obtain ⟨q, t2⟩ := p
          cases t2 with
          | nil => have e : refId S = some (c, q, 0) := by unfold refId; rw [h1]; simp only [hx, h2, ne_eq, not_true_eq_false, if_false]
                   rw [e]; exact way5 S hS w hg h1 hx h2
          | cons y r3 =>
            by_cases hy : y = 46
            · cases h3 : numR 65535 r3 with
              | none => have e : refId S = none := by unfold refId; rw [h1]; simp only [hx, h2, hy, h3, ne_eq, not_true_eq_false, if_false]
                        rw [e]; exact way7 S hS w hg h1 hx h2 hy h3
              | some p =>
                obtain ⟨n, t3⟩ := p
                cases t3 with
                | cons z r4 => have e : refId S = none := by unfold refId; rw [h1]; simp [hx, h2, hy, h3]
                               rw [e]; exact way8 S hS w hg h1 hx h2 hy h3
                | nil =>
                  by_cases hn : n = 0
                  · subst hn
                    have e : refId S = none := by unfold refId; rw [h1]; simp [hx, h2, hy, h3]
                    rw [e]; exact way9 S hS w hg h1 hx h2 hy h3
                  · have e : refId S = some (c, q, n) := by unfold refId; rw [h1]; simp [hx, h2, hy, h3, hn]
                    rw [e]; exact way10 S hS w hg h1 hx h2 hy h3 hn
            · have e : refId S = none := by unfold refId; rw [h1]; simp [hx, h2, hy]
              rw [e]; exact way6 S hS w hg h1 hx h2 hy
      · have e : refId S = none := by unfold refId; rw [h1]; simp [hx]
        rw [e]; exact way3 S hS w hg h1 hx
end Num
end Go.Proofs.YtbodakfgoijeeaaDoor
