/-
  IdLine's walk.
-/
import Derived.Test.YtbodakfgoijeeaaDoorIJ
namespace Go.Proofs.YtbodakfgoijeeaaDoor
open Go.RowKit Go.Sort Go.Lib
namespace Num
set_option linter.unusedSimpArgs false
set_option linter.unusedVariables false
set_option maxRecDepth 100000 in
set_option maxHeartbeats 8000000 in
theorem lineA1 (a1 a2 a3 b1 b2 b3 c1 c2 c3 n : Int) (w : World) (hg : Good w) (hn0 : 0 ≤ n) (hn1 : n ≤ 255) (ha0 : 0 ≤ a2) (ha1 : a2 ≤ 4294967295) (t1 : lessT a1 a2 a3 b1 b2 b3 = true) (t2 : lessT b1 b2 b3 c1 c2 c3 = true) (t3 : lessT a1 a2 a3 c1 c2 c3 = true) (hm : a2 = 4294967295) : Calls Tryd.prog 5 #[.agg #[.int .u32 a1, .int .u32 a2, .int .u16 a3], .agg #[.int .u32 b1, .int .u32 b2, .int .u16 b3], .agg #[.int .u32 c1, .int .u32 c2, .int .u16 c3], .int .u8 n] w fun e w' => e = .returned (.bool true) ∧ Below w.heap.size w w' := by
  have HK := Lib.hid (fun (W : World) (h : Sid w W) => known_any W h.1)
  have HAB := Lib.hid (show ∀ W : World, Calls Tryd.prog 11 #[.agg #[.int .u32 a1, .int .u32 a2, .int .u16 a3], .agg #[.int .u32 b1, .int .u32 b2, .int .u16 b3]] W fun e w' => e = .returned (.bool true) ∧ Below W.heap.size W w' from fun W => by have h := pless_any a1 a2 a3 b1 b2 b3 W; rw [t1] at h; exact h)
  have HBC := Lib.hid (show ∀ W : World, Calls Tryd.prog 11 #[.agg #[.int .u32 b1, .int .u32 b2, .int .u16 b3], .agg #[.int .u32 c1, .int .u32 c2, .int .u16 c3]] W fun e w' => e = .returned (.bool true) ∧ Below W.heap.size W w' from fun W => by have h := pless_any b1 b2 b3 c1 c2 c3 W; rw [t2] at h; exact h)
  have HAC := Lib.hid (show ∀ W : World, Calls Tryd.prog 11 #[.agg #[.int .u32 a1, .int .u32 a2, .int .u16 a3], .agg #[.int .u32 c1, .int .u32 c2, .int .u16 c3]] W fun e w' => e = .returned (.bool true) ∧ Below W.heap.size W w' from fun W => by have h := pless_any a1 a2 a3 c1 c2 c3 W; rw [t3] at h; exact h)
  have HRX := Lib.hid (show ∀ W : World, Calls Tryd.prog 11 #[.agg #[.int .u32 a1, .int .u32 a2, .int .u16 0], .agg #[.int .u32 a1, .int .u32 a2, .int .u16 (n % 8 + 1)]] W fun e w' => e = .returned (.bool true) ∧ Below W.heap.size W w' from fun W => by have h := pless_any a1 a2 0 a1 a2 (n % 8 + 1) W; rw [(show lessT a1 a2 0 a1 a2 (n % 8 + 1) = true by unfold lessT; rw [decide_eq_true_eq]; omega)] at h; exact h)
  have HR := Lib.hid (show ∀ W : World, Calls Tryd.prog 14 #[.agg #[.int .u32 a1, .int .u32 a2, .int .u16 a3]] W fun e w' => e = .returned (.agg #[.int .u32 a1, .int .u32 a2, .int .u16 0]) ∧ Below W.heap.size W w' from fun W => root_any a1 a2 a3 W)
  have HN := Lib.hid (show ∀ W : World, Calls Tryd.prog 13 #[.agg #[.int .u32 a1, .int .u32 a2, .int .u16 0], .int .i64 (n % 8 + 1)] W fun e w' => e = .returned (.tuple #[.agg #[.int .u32 a1, .int .u32 a2, .int .u16 (n % 8 + 1)], .bool true]) ∧ Below W.heap.size W w' from fun W => by have h := nested_any a1 a2 0 (n % 8 + 1) W; unfold nestV at h; rw [if_pos (by omega)] at h; exact h)
  have wn1 : n.tmod 8 = n % 8 := Int.tmod_eq_emod_of_nonneg hn0
  have wn2 : wrap64 (n % 8) = n % 8 := by unfold wrap64; omega
  have wn3 : wrap64 (n % 8 + 1) = n % 8 + 1 := by unfold wrap64; omega
  have ba : (a2 == 4294967295) = true := by rw [beq_iff_eq]; exact hm
  clear hm
  have H0 := Lib.hid (sid_alloc (sid_alloc (sid_alloc (sid_start hg) (.cells #[.int .u32 a1, .int .u32 a2, .int .u16 a3] 25)) (.cells #[.int .u32 b1, .int .u32 b2, .int .u16 b3] 25)) (.cells #[.int .u32 c1, .int .u32 c2, .int .u16 c3] 25))
  have ra0 := Lib.hid (row_alloc_step (row_alloc_step (row_alloc w #[.int .u32 a1, .int .u32 a2, .int .u16 a3] 25) (.cells #[.int .u32 b1, .int .u32 b2, .int .u16 b3] 25)) (.cells #[.int .u32 c1, .int .u32 c2, .int .u16 c3] 25))
  have rb := row_alloc_step (row_alloc (w.alloc (.cells #[.int .u32 a1, .int .u32 a2, .int .u16 a3] 25)) #[.int .u32 b1, .int .u32 b2, .int .u16 b3] 25) (.cells #[.int .u32 c1, .int .u32 c2, .int .u16 c3] 25)
  have rc := row_alloc ((w.alloc (.cells #[.int .u32 a1, .int .u32 a2, .int .u16 a3] 25)).alloc (.cells #[.int .u32 b1, .int .u32 b2, .int .u16 b3] 25)) #[.int .u32 c1, .int .u32 c2, .int .u16 c3] 25
  simp only [World.size_alloc] at rb rc
  have rb0 := Lib.hid rb
  have rc0 := Lib.hid rc
  clear rb rc hg hn0 hn1 ha0 ha1
  go_enter Tryd.func5, Tryd.ntmps5
  go_wp2_with fail
  go_at_call 6; refine (HK.out _ H0.out).mono ?_; rintro e w1 ⟨rfl, hb1⟩
  have H1 := Lib.hid (sid_step H0.out hb1)
  have ra1 := Lib.hid (row_step ra0.out hb1)
  have rb1 := Lib.hid (row_step rb0.out hb1)
  have rc1 := Lib.hid (row_step rc0.out hb1)
  clear hb1
  have rax0 := row_cell ra1.out 0
  have rax1 := row_cell ra1.out 1
  have rax2 := row_cell ra1.out 2
  simp only [List.getElem?_toArray, List.getElem?_cons_zero, List.getElem?_cons_succ] at rax0 rax1 rax2
  have ralt := row_lt ra1.out
  have rbx0 := row_cell rb1.out 0
  have rbx1 := row_cell rb1.out 1
  have rbx2 := row_cell rb1.out 2
  simp only [List.getElem?_toArray, List.getElem?_cons_zero, List.getElem?_cons_succ] at rbx0 rbx1 rbx2
  have rblt := row_lt rb1.out
  have rcx0 := row_cell rc1.out 0
  have rcx1 := row_cell rc1.out 1
  have rcx2 := row_cell rc1.out 2
  simp only [List.getElem?_toArray, List.getElem?_cons_zero, List.getElem?_cons_succ] at rcx0 rcx1 rcx2
  have rclt := row_lt rc1.out
  go_wp2_with fail
  go_at_call 11; refine (HAB.out _).mono ?_; rintro e w2 ⟨rfl, hb2⟩
  have H2 := Lib.hid (sid_step H1.out hb2)
  have ra2 := Lib.hid (row_step ra1.out hb2)
  have rb2 := Lib.hid (row_step rb1.out hb2)
  have rc2 := Lib.hid (row_step rc1.out hb2)
  clear hb2 rax0 rax1 rax2 rbx0 rbx1 rbx2 rcx0 rcx1 rcx2 ralt rblt rclt
  have rax0 := row_cell ra2.out 0
  have rax1 := row_cell ra2.out 1
  have rax2 := row_cell ra2.out 2
  simp only [List.getElem?_toArray, List.getElem?_cons_zero, List.getElem?_cons_succ] at rax0 rax1 rax2
  have ralt := row_lt ra2.out
  have rbx0 := row_cell rb2.out 0
  have rbx1 := row_cell rb2.out 1
  have rbx2 := row_cell rb2.out 2
  simp only [List.getElem?_toArray, List.getElem?_cons_zero, List.getElem?_cons_succ] at rbx0 rbx1 rbx2
  have rblt := row_lt rb2.out
  have rcx0 := row_cell rc2.out 0
  have rcx1 := row_cell rc2.out 1
  have rcx2 := row_cell rc2.out 2
  simp only [List.getElem?_toArray, List.getElem?_cons_zero, List.getElem?_cons_succ] at rcx0 rcx1 rcx2
  have rclt := row_lt rc2.out
  go_wp2_with fail
  go_at_call 11; refine (HBC.out _).mono ?_; rintro e w3 ⟨rfl, hb3⟩
  have H3 := Lib.hid (sid_step H2.out hb3)
  have ra3 := Lib.hid (row_step ra2.out hb3)
  have rb3 := Lib.hid (row_step rb2.out hb3)
  have rc3 := Lib.hid (row_step rc2.out hb3)
  clear hb3 rax0 rax1 rax2 rbx0 rbx1 rbx2 rcx0 rcx1 rcx2 ralt rblt rclt
  have rax0 := row_cell ra3.out 0
  have rax1 := row_cell ra3.out 1
  have rax2 := row_cell ra3.out 2
  simp only [List.getElem?_toArray, List.getElem?_cons_zero, List.getElem?_cons_succ] at rax0 rax1 rax2
  have ralt := row_lt ra3.out
  have rbx0 := row_cell rb3.out 0
  have rbx1 := row_cell rb3.out 1
  have rbx2 := row_cell rb3.out 2
  simp only [List.getElem?_toArray, List.getElem?_cons_zero, List.getElem?_cons_succ] at rbx0 rbx1 rbx2
  have rblt := row_lt rb3.out
  have rcx0 := row_cell rc3.out 0
  have rcx1 := row_cell rc3.out 1
  have rcx2 := row_cell rc3.out 2
  simp only [List.getElem?_toArray, List.getElem?_cons_zero, List.getElem?_cons_succ] at rcx0 rcx1 rcx2
  have rclt := row_lt rc3.out
  go_wp2_with fail
  go_at_call 11; refine (HAC.out _).mono ?_; rintro e w4 ⟨rfl, hb4⟩
  have H4 := Lib.hid (sid_step H3.out hb4)
  have ra4 := Lib.hid (row_step ra3.out hb4)
  have rb4 := Lib.hid (row_step rb3.out hb4)
  have rc4 := Lib.hid (row_step rc3.out hb4)
  clear hb4 rax0 rax1 rax2 rbx0 rbx1 rbx2 rcx0 rcx1 rcx2 ralt rblt rclt
  have rax0 := row_cell ra4.out 0
  have rax1 := row_cell ra4.out 1
  have rax2 := row_cell ra4.out 2
  simp only [List.getElem?_toArray, List.getElem?_cons_zero, List.getElem?_cons_succ] at rax0 rax1 rax2
  have ralt := row_lt ra4.out
  have rbx0 := row_cell rb4.out 0
  have rbx1 := row_cell rb4.out 1
  have rbx2 := row_cell rb4.out 2
  simp only [List.getElem?_toArray, List.getElem?_cons_zero, List.getElem?_cons_succ] at rbx0 rbx1 rbx2
  have rblt := row_lt rb4.out
  have rcx0 := row_cell rc4.out 0
  have rcx1 := row_cell rc4.out 1
  have rcx2 := row_cell rc4.out 2
  simp only [List.getElem?_toArray, List.getElem?_cons_zero, List.getElem?_cons_succ] at rcx0 rcx1 rcx2
  have rclt := row_lt rc4.out
  go_wp2_with fail
  go_at_call 11; refine (HAB.out _).mono ?_; rintro e w5 ⟨rfl, hb5⟩
  have H5 := Lib.hid (sid_step H4.out hb5)
  have ra5 := Lib.hid (row_step ra4.out hb5)
  have rb5 := Lib.hid (row_step rb4.out hb5)
  have rc5 := Lib.hid (row_step rc4.out hb5)
  clear hb5 rax0 rax1 rax2 rbx0 rbx1 rbx2 rcx0 rcx1 rcx2 ralt rblt rclt
  have rax0 := row_cell ra5.out 0
  have rax1 := row_cell ra5.out 1
  have rax2 := row_cell ra5.out 2
  simp only [List.getElem?_toArray, List.getElem?_cons_zero, List.getElem?_cons_succ] at rax0 rax1 rax2
  have ralt := row_lt ra5.out
  have rbx0 := row_cell rb5.out 0
  have rbx1 := row_cell rb5.out 1
  have rbx2 := row_cell rb5.out 2
  simp only [List.getElem?_toArray, List.getElem?_cons_zero, List.getElem?_cons_succ] at rbx0 rbx1 rbx2
  have rblt := row_lt rb5.out
  have rcx0 := row_cell rc5.out 0
  have rcx1 := row_cell rc5.out 1
  have rcx2 := row_cell rc5.out 2
  simp only [List.getElem?_toArray, List.getElem?_cons_zero, List.getElem?_cons_succ] at rcx0 rcx1 rcx2
  have rclt := row_lt rc5.out
  go_wp2_with fail
  go_at_call 14; refine (HR.out _).mono ?_; rintro e w6 ⟨rfl, hb6⟩
  have H6 := Lib.hid (sid_step H5.out hb6)
  have ra6 := Lib.hid (row_step ra5.out hb6)
  have rb6 := Lib.hid (row_step rb5.out hb6)
  have rc6 := Lib.hid (row_step rc5.out hb6)
  clear hb6 rax0 rax1 rax2 rbx0 rbx1 rbx2 rcx0 rcx1 rcx2 ralt rblt rclt
  have rax0 := row_cell ra6.out 0
  have rax1 := row_cell ra6.out 1
  have rax2 := row_cell ra6.out 2
  simp only [List.getElem?_toArray, List.getElem?_cons_zero, List.getElem?_cons_succ] at rax0 rax1 rax2
  have ralt := row_lt ra6.out
  have rbx0 := row_cell rb6.out 0
  have rbx1 := row_cell rb6.out 1
  have rbx2 := row_cell rb6.out 2
  simp only [List.getElem?_toArray, List.getElem?_cons_zero, List.getElem?_cons_succ] at rbx0 rbx1 rbx2
  have rblt := row_lt rb6.out
  have rcx0 := row_cell rc6.out 0
  have rcx1 := row_cell rc6.out 1
  have rcx2 := row_cell rc6.out 2
  simp only [List.getElem?_toArray, List.getElem?_cons_zero, List.getElem?_cons_succ] at rcx0 rcx1 rcx2
  have rclt := row_lt rc6.out
  go_wp2_with fail
  go_at_call 13; refine (HN.out _).mono ?_; rintro e w7 ⟨rfl, hb7⟩
  have H7 := Lib.hid (sid_step (sid_alloc H6.out _) hb7)
  have ra7 := Lib.hid (row_step (row_alloc_step ra6.out _) hb7)
  have rb7 := Lib.hid (row_step (row_alloc_step rb6.out _) hb7)
  have rc7 := Lib.hid (row_step (row_alloc_step rc6.out _) hb7)
  have rr7 := Lib.hid (row_step (row_alloc w6 #[.int .u32 a1, .int .u32 a2, .int .u16 0] 25) hb7)
  clear hb7 rax0 rax1 rax2 rbx0 rbx1 rbx2 rcx0 rcx1 rcx2 ralt rblt rclt
  have rax0 := row_cell ra7.out 0
  have rax1 := row_cell ra7.out 1
  have rax2 := row_cell ra7.out 2
  simp only [List.getElem?_toArray, List.getElem?_cons_zero, List.getElem?_cons_succ] at rax0 rax1 rax2
  have ralt := row_lt ra7.out
  have rbx0 := row_cell rb7.out 0
  have rbx1 := row_cell rb7.out 1
  have rbx2 := row_cell rb7.out 2
  simp only [List.getElem?_toArray, List.getElem?_cons_zero, List.getElem?_cons_succ] at rbx0 rbx1 rbx2
  have rblt := row_lt rb7.out
  have rcx0 := row_cell rc7.out 0
  have rcx1 := row_cell rc7.out 1
  have rcx2 := row_cell rc7.out 2
  simp only [List.getElem?_toArray, List.getElem?_cons_zero, List.getElem?_cons_succ] at rcx0 rcx1 rcx2
  have rclt := row_lt rc7.out
  have rrx0 := row_cell rr7.out 0
  have rrx1 := row_cell rr7.out 1
  have rrx2 := row_cell rr7.out 2
  simp only [List.getElem?_toArray, List.getElem?_cons_zero, List.getElem?_cons_succ] at rrx0 rrx1 rrx2
  have rrlt := row_lt rr7.out
  go_wp2_with fail
  go_at_call 11; refine (HRX.out _).mono ?_; rintro e v1 ⟨rfl, hv1⟩
  have G1 := Lib.hid (sid_step (sid_alloc (sid_alloc H7.out _) _) hv1)
  have qr := Lib.hid (row_step (row_alloc_step (row_alloc_step rr7.out _) _) hv1)
  clear hv1
  have q0 := row_cell qr.out 0
  have q1 := row_cell qr.out 1
  have q2 := row_cell qr.out 2
  simp only [List.getElem?_toArray, List.getElem?_cons_zero, List.getElem?_cons_succ] at q0 q1 q2
  go_wp2_with fail
  go_ret
  exact ⟨rfl, G1.out.2⟩
set_option maxRecDepth 100000 in
set_option maxHeartbeats 8000000 in
theorem lineA0 (a1 a2 a3 b1 b2 b3 c1 c2 c3 n : Int) (w : World) (hg : Good w) (hn0 : 0 ≤ n) (hn1 : n ≤ 255) (ha0 : 0 ≤ a2) (ha1 : a2 ≤ 4294967295) (t1 : lessT a1 a2 a3 b1 b2 b3 = true) (t2 : lessT b1 b2 b3 c1 c2 c3 = true) (t3 : lessT a1 a2 a3 c1 c2 c3 = true) (hm : ¬ a2 = 4294967295) : Calls Tryd.prog 5 #[.agg #[.int .u32 a1, .int .u32 a2, .int .u16 a3], .agg #[.int .u32 b1, .int .u32 b2, .int .u16 b3], .agg #[.int .u32 c1, .int .u32 c2, .int .u16 c3], .int .u8 n] w fun e w' => e = .returned (.bool true) ∧ Below w.heap.size w w' := by
  have HK := Lib.hid (fun (W : World) (h : Sid w W) => known_any W h.1)
  have HAB := Lib.hid (show ∀ W : World, Calls Tryd.prog 11 #[.agg #[.int .u32 a1, .int .u32 a2, .int .u16 a3], .agg #[.int .u32 b1, .int .u32 b2, .int .u16 b3]] W fun e w' => e = .returned (.bool true) ∧ Below W.heap.size W w' from fun W => by have h := pless_any a1 a2 a3 b1 b2 b3 W; rw [t1] at h; exact h)
  have HBC := Lib.hid (show ∀ W : World, Calls Tryd.prog 11 #[.agg #[.int .u32 b1, .int .u32 b2, .int .u16 b3], .agg #[.int .u32 c1, .int .u32 c2, .int .u16 c3]] W fun e w' => e = .returned (.bool true) ∧ Below W.heap.size W w' from fun W => by have h := pless_any b1 b2 b3 c1 c2 c3 W; rw [t2] at h; exact h)
  have HAC := Lib.hid (show ∀ W : World, Calls Tryd.prog 11 #[.agg #[.int .u32 a1, .int .u32 a2, .int .u16 a3], .agg #[.int .u32 c1, .int .u32 c2, .int .u16 c3]] W fun e w' => e = .returned (.bool true) ∧ Below W.heap.size W w' from fun W => by have h := pless_any a1 a2 a3 c1 c2 c3 W; rw [t3] at h; exact h)
  have HRX := Lib.hid (show ∀ W : World, Calls Tryd.prog 11 #[.agg #[.int .u32 a1, .int .u32 a2, .int .u16 0], .agg #[.int .u32 a1, .int .u32 a2, .int .u16 (n % 8 + 1)]] W fun e w' => e = .returned (.bool true) ∧ Below W.heap.size W w' from fun W => by have h := pless_any a1 a2 0 a1 a2 (n % 8 + 1) W; rw [(show lessT a1 a2 0 a1 a2 (n % 8 + 1) = true by unfold lessT; rw [decide_eq_true_eq]; omega)] at h; exact h)
  have HXN := Lib.hid (show ∀ W : World, Calls Tryd.prog 11 #[.agg #[.int .u32 a1, .int .u32 a2, .int .u16 (n % 8 + 1)], .agg #[.int .u32 a1, .int .u32 (a2 + 1), .int .u16 0]] W fun e w' => e = .returned (.bool true) ∧ Below W.heap.size W w' from fun W => by have h := pless_any a1 a2 (n % 8 + 1) a1 (a2 + 1) 0 W; rw [(show lessT a1 a2 (n % 8 + 1) a1 (a2 + 1) 0 = true by unfold lessT; rw [decide_eq_true_eq]; omega)] at h; exact h)
  have HR := Lib.hid (show ∀ W : World, Calls Tryd.prog 14 #[.agg #[.int .u32 a1, .int .u32 a2, .int .u16 a3]] W fun e w' => e = .returned (.agg #[.int .u32 a1, .int .u32 a2, .int .u16 0]) ∧ Below W.heap.size W w' from fun W => root_any a1 a2 a3 W)
  have HN := Lib.hid (show ∀ W : World, Calls Tryd.prog 13 #[.agg #[.int .u32 a1, .int .u32 a2, .int .u16 0], .int .i64 (n % 8 + 1)] W fun e w' => e = .returned (.tuple #[.agg #[.int .u32 a1, .int .u32 a2, .int .u16 (n % 8 + 1)], .bool true]) ∧ Below W.heap.size W w' from fun W => by have h := nested_any a1 a2 0 (n % 8 + 1) W; unfold nestV at h; rw [if_pos (by omega)] at h; exact h)
  have wn1 : n.tmod 8 = n % 8 := Int.tmod_eq_emod_of_nonneg hn0
  have wn2 : wrap64 (n % 8) = n % 8 := by unfold wrap64; omega
  have wn3 : wrap64 (n % 8 + 1) = n % 8 + 1 := by unfold wrap64; omega
  have wa : (a2 + 1) % 4294967296 = a2 + 1 := by omega
  have ba : (a2 == 4294967295) = false := by rw [beq_eq_false_iff_ne]; exact hm
  have H0 := Lib.hid (sid_alloc (sid_alloc (sid_alloc (sid_start hg) (.cells #[.int .u32 a1, .int .u32 a2, .int .u16 a3] 25)) (.cells #[.int .u32 b1, .int .u32 b2, .int .u16 b3] 25)) (.cells #[.int .u32 c1, .int .u32 c2, .int .u16 c3] 25))
  have ra0 := Lib.hid (row_alloc_step (row_alloc_step (row_alloc w #[.int .u32 a1, .int .u32 a2, .int .u16 a3] 25) (.cells #[.int .u32 b1, .int .u32 b2, .int .u16 b3] 25)) (.cells #[.int .u32 c1, .int .u32 c2, .int .u16 c3] 25))
  have rb := row_alloc_step (row_alloc (w.alloc (.cells #[.int .u32 a1, .int .u32 a2, .int .u16 a3] 25)) #[.int .u32 b1, .int .u32 b2, .int .u16 b3] 25) (.cells #[.int .u32 c1, .int .u32 c2, .int .u16 c3] 25)
  have rc := row_alloc ((w.alloc (.cells #[.int .u32 a1, .int .u32 a2, .int .u16 a3] 25)).alloc (.cells #[.int .u32 b1, .int .u32 b2, .int .u16 b3] 25)) #[.int .u32 c1, .int .u32 c2, .int .u16 c3] 25
  simp only [World.size_alloc] at rb rc
  have rb0 := Lib.hid rb
  have rc0 := Lib.hid rc
  clear rb rc hg hn0 hn1 ha0 ha1
  go_enter Tryd.func5, Tryd.ntmps5
  go_wp2_with fail
  go_at_call 6; refine (HK.out _ H0.out).mono ?_; rintro e w1 ⟨rfl, hb1⟩
  have H1 := Lib.hid (sid_step H0.out hb1)
  have ra1 := Lib.hid (row_step ra0.out hb1)
  have rb1 := Lib.hid (row_step rb0.out hb1)
  have rc1 := Lib.hid (row_step rc0.out hb1)
  clear hb1
  have rax0 := row_cell ra1.out 0
  have rax1 := row_cell ra1.out 1
  have rax2 := row_cell ra1.out 2
  simp only [List.getElem?_toArray, List.getElem?_cons_zero, List.getElem?_cons_succ] at rax0 rax1 rax2
  have ralt := row_lt ra1.out
  have rbx0 := row_cell rb1.out 0
  have rbx1 := row_cell rb1.out 1
  have rbx2 := row_cell rb1.out 2
  simp only [List.getElem?_toArray, List.getElem?_cons_zero, List.getElem?_cons_succ] at rbx0 rbx1 rbx2
  have rblt := row_lt rb1.out
  have rcx0 := row_cell rc1.out 0
  have rcx1 := row_cell rc1.out 1
  have rcx2 := row_cell rc1.out 2
  simp only [List.getElem?_toArray, List.getElem?_cons_zero, List.getElem?_cons_succ] at rcx0 rcx1 rcx2
  have rclt := row_lt rc1.out
  go_wp2_with fail
  go_at_call 11; refine (HAB.out _).mono ?_; rintro e w2 ⟨rfl, hb2⟩
  have H2 := Lib.hid (sid_step H1.out hb2)
  have ra2 := Lib.hid (row_step ra1.out hb2)
  have rb2 := Lib.hid (row_step rb1.out hb2)
  have rc2 := Lib.hid (row_step rc1.out hb2)
  clear hb2 rax0 rax1 rax2 rbx0 rbx1 rbx2 rcx0 rcx1 rcx2 ralt rblt rclt
  have rax0 := row_cell ra2.out 0
  have rax1 := row_cell ra2.out 1
  have rax2 := row_cell ra2.out 2
  simp only [List.getElem?_toArray, List.getElem?_cons_zero, List.getElem?_cons_succ] at rax0 rax1 rax2
  have ralt := row_lt ra2.out
  have rbx0 := row_cell rb2.out 0
  have rbx1 := row_cell rb2.out 1
  have rbx2 := row_cell rb2.out 2
  simp only [List.getElem?_toArray, List.getElem?_cons_zero, List.getElem?_cons_succ] at rbx0 rbx1 rbx2
  have rblt := row_lt rb2.out
  have rcx0 := row_cell rc2.out 0
  have rcx1 := row_cell rc2.out 1
  have rcx2 := row_cell rc2.out 2
  simp only [List.getElem?_toArray, List.getElem?_cons_zero, List.getElem?_cons_succ] at rcx0 rcx1 rcx2
  have rclt := row_lt rc2.out
  go_wp2_with fail
  go_at_call 11; refine (HBC.out _).mono ?_; rintro e w3 ⟨rfl, hb3⟩
  have H3 := Lib.hid (sid_step H2.out hb3)
  have ra3 := Lib.hid (row_step ra2.out hb3)
  have rb3 := Lib.hid (row_step rb2.out hb3)
  have rc3 := Lib.hid (row_step rc2.out hb3)
  clear hb3 rax0 rax1 rax2 rbx0 rbx1 rbx2 rcx0 rcx1 rcx2 ralt rblt rclt
  have rax0 := row_cell ra3.out 0
  have rax1 := row_cell ra3.out 1
  have rax2 := row_cell ra3.out 2
  simp only [List.getElem?_toArray, List.getElem?_cons_zero, List.getElem?_cons_succ] at rax0 rax1 rax2
  have ralt := row_lt ra3.out
  have rbx0 := row_cell rb3.out 0
  have rbx1 := row_cell rb3.out 1
  have rbx2 := row_cell rb3.out 2
  simp only [List.getElem?_toArray, List.getElem?_cons_zero, List.getElem?_cons_succ] at rbx0 rbx1 rbx2
  have rblt := row_lt rb3.out
  have rcx0 := row_cell rc3.out 0
  have rcx1 := row_cell rc3.out 1
  have rcx2 := row_cell rc3.out 2
  simp only [List.getElem?_toArray, List.getElem?_cons_zero, List.getElem?_cons_succ] at rcx0 rcx1 rcx2
  have rclt := row_lt rc3.out
  go_wp2_with fail
  go_at_call 11; refine (HAC.out _).mono ?_; rintro e w4 ⟨rfl, hb4⟩
  have H4 := Lib.hid (sid_step H3.out hb4)
  have ra4 := Lib.hid (row_step ra3.out hb4)
  have rb4 := Lib.hid (row_step rb3.out hb4)
  have rc4 := Lib.hid (row_step rc3.out hb4)
  clear hb4 rax0 rax1 rax2 rbx0 rbx1 rbx2 rcx0 rcx1 rcx2 ralt rblt rclt
  have rax0 := row_cell ra4.out 0
  have rax1 := row_cell ra4.out 1
  have rax2 := row_cell ra4.out 2
  simp only [List.getElem?_toArray, List.getElem?_cons_zero, List.getElem?_cons_succ] at rax0 rax1 rax2
  have ralt := row_lt ra4.out
  have rbx0 := row_cell rb4.out 0
  have rbx1 := row_cell rb4.out 1
  have rbx2 := row_cell rb4.out 2
  simp only [List.getElem?_toArray, List.getElem?_cons_zero, List.getElem?_cons_succ] at rbx0 rbx1 rbx2
  have rblt := row_lt rb4.out
  have rcx0 := row_cell rc4.out 0
  have rcx1 := row_cell rc4.out 1
  have rcx2 := row_cell rc4.out 2
  simp only [List.getElem?_toArray, List.getElem?_cons_zero, List.getElem?_cons_succ] at rcx0 rcx1 rcx2
  have rclt := row_lt rc4.out
  go_wp2_with fail
  go_at_call 11; refine (HAB.out _).mono ?_; rintro e w5 ⟨rfl, hb5⟩
  have H5 := Lib.hid (sid_step H4.out hb5)
  have ra5 := Lib.hid (row_step ra4.out hb5)
  have rb5 := Lib.hid (row_step rb4.out hb5)
  have rc5 := Lib.hid (row_step rc4.out hb5)
  clear hb5 rax0 rax1 rax2 rbx0 rbx1 rbx2 rcx0 rcx1 rcx2 ralt rblt rclt
  have rax0 := row_cell ra5.out 0
  have rax1 := row_cell ra5.out 1
  have rax2 := row_cell ra5.out 2
  simp only [List.getElem?_toArray, List.getElem?_cons_zero, List.getElem?_cons_succ] at rax0 rax1 rax2
  have ralt := row_lt ra5.out
  have rbx0 := row_cell rb5.out 0
  have rbx1 := row_cell rb5.out 1
  have rbx2 := row_cell rb5.out 2
  simp only [List.getElem?_toArray, List.getElem?_cons_zero, List.getElem?_cons_succ] at rbx0 rbx1 rbx2
  have rblt := row_lt rb5.out
  have rcx0 := row_cell rc5.out 0
  have rcx1 := row_cell rc5.out 1
  have rcx2 := row_cell rc5.out 2
  simp only [List.getElem?_toArray, List.getElem?_cons_zero, List.getElem?_cons_succ] at rcx0 rcx1 rcx2
  have rclt := row_lt rc5.out
  go_wp2_with fail
  go_at_call 14; refine (HR.out _).mono ?_; rintro e w6 ⟨rfl, hb6⟩
  have H6 := Lib.hid (sid_step H5.out hb6)
  have ra6 := Lib.hid (row_step ra5.out hb6)
  have rb6 := Lib.hid (row_step rb5.out hb6)
  have rc6 := Lib.hid (row_step rc5.out hb6)
  clear hb6 rax0 rax1 rax2 rbx0 rbx1 rbx2 rcx0 rcx1 rcx2 ralt rblt rclt
  have rax0 := row_cell ra6.out 0
  have rax1 := row_cell ra6.out 1
  have rax2 := row_cell ra6.out 2
  simp only [List.getElem?_toArray, List.getElem?_cons_zero, List.getElem?_cons_succ] at rax0 rax1 rax2
  have ralt := row_lt ra6.out
  have rbx0 := row_cell rb6.out 0
  have rbx1 := row_cell rb6.out 1
  have rbx2 := row_cell rb6.out 2
  simp only [List.getElem?_toArray, List.getElem?_cons_zero, List.getElem?_cons_succ] at rbx0 rbx1 rbx2
  have rblt := row_lt rb6.out
  have rcx0 := row_cell rc6.out 0
  have rcx1 := row_cell rc6.out 1
  have rcx2 := row_cell rc6.out 2
  simp only [List.getElem?_toArray, List.getElem?_cons_zero, List.getElem?_cons_succ] at rcx0 rcx1 rcx2
  have rclt := row_lt rc6.out
  go_wp2_with fail
  go_at_call 13; refine (HN.out _).mono ?_; rintro e w7 ⟨rfl, hb7⟩
  have H7 := Lib.hid (sid_step (sid_alloc H6.out _) hb7)
  have ra7 := Lib.hid (row_step (row_alloc_step ra6.out _) hb7)
  have rb7 := Lib.hid (row_step (row_alloc_step rb6.out _) hb7)
  have rc7 := Lib.hid (row_step (row_alloc_step rc6.out _) hb7)
  have rr7 := Lib.hid (row_step (row_alloc w6 #[.int .u32 a1, .int .u32 a2, .int .u16 0] 25) hb7)
  clear hb7 rax0 rax1 rax2 rbx0 rbx1 rbx2 rcx0 rcx1 rcx2 ralt rblt rclt
  have rax0 := row_cell ra7.out 0
  have rax1 := row_cell ra7.out 1
  have rax2 := row_cell ra7.out 2
  simp only [List.getElem?_toArray, List.getElem?_cons_zero, List.getElem?_cons_succ] at rax0 rax1 rax2
  have ralt := row_lt ra7.out
  have rbx0 := row_cell rb7.out 0
  have rbx1 := row_cell rb7.out 1
  have rbx2 := row_cell rb7.out 2
  simp only [List.getElem?_toArray, List.getElem?_cons_zero, List.getElem?_cons_succ] at rbx0 rbx1 rbx2
  have rblt := row_lt rb7.out
  have rcx0 := row_cell rc7.out 0
  have rcx1 := row_cell rc7.out 1
  have rcx2 := row_cell rc7.out 2
  simp only [List.getElem?_toArray, List.getElem?_cons_zero, List.getElem?_cons_succ] at rcx0 rcx1 rcx2
  have rclt := row_lt rc7.out
  have rrx0 := row_cell rr7.out 0
  have rrx1 := row_cell rr7.out 1
  have rrx2 := row_cell rr7.out 2
  simp only [List.getElem?_toArray, List.getElem?_cons_zero, List.getElem?_cons_succ] at rrx0 rrx1 rrx2
  have rrlt := row_lt rr7.out
  go_wp2_with fail
  go_at_call 11; refine (HRX.out _).mono ?_; rintro e v1 ⟨rfl, hv1⟩
  have G1 := Lib.hid (sid_step (sid_alloc (sid_alloc H7.out _) _) hv1)
  have qr := Lib.hid (row_step (row_alloc_step (row_alloc_step rr7.out _) _) hv1)
  have qx := Lib.hid (row_step (row_alloc_step (row_alloc w7 #[.int .u32 a1, .int .u32 a2, .int .u16 (n % 8 + 1)] 25) _) hv1)
  have qn := row_step (row_alloc (w7.alloc (.cells #[.int .u32 a1, .int .u32 a2, .int .u16 (n % 8 + 1)] 25)) #[.int .u32 a1, .int .u32 (a2 + 1), .int .u16 0] 25) hv1
  simp only [World.size_alloc] at qn
  have q0 := row_cell qr.out 0
  have q1 := row_cell qr.out 1
  have q2 := row_cell qr.out 2
  have x0 := row_cell qx.out 0
  have x1 := row_cell qx.out 1
  have x2 := row_cell qx.out 2
  have n0 := row_cell qn 0
  have n1 := row_cell qn 1
  have n2 := row_cell qn 2
  clear hv1 qn
  simp only [List.getElem?_toArray, List.getElem?_cons_zero, List.getElem?_cons_succ] at q0 q1 q2 x0 x1 x2 n0 n1 n2
  go_wp2_with fail
  go_at_call 11; refine (HXN.out _).mono ?_; rintro e v2 ⟨rfl, hv2⟩
  have G2 := Lib.hid (sid_step G1.out hv2)
  clear hv2
  go_wp2_with fail
  go_ret
  exact ⟨rfl, G2.out.2⟩
set_option maxRecDepth 100000 in
set_option maxHeartbeats 8000000 in
theorem lineB1 (a1 a2 a3 b1 b2 b3 c1 c2 c3 n : Int) (w : World) (hg : Good w) (hn0 : 0 ≤ n) (hn1 : n ≤ 255) (ha0 : 0 ≤ a2) (ha1 : a2 ≤ 4294967295) (t1 : lessT a1 a2 a3 b1 b2 b3 = true) (t2 : lessT b1 b2 b3 c1 c2 c3 = false) (hm : a2 = 4294967295) : Calls Tryd.prog 5 #[.agg #[.int .u32 a1, .int .u32 a2, .int .u16 a3], .agg #[.int .u32 b1, .int .u32 b2, .int .u16 b3], .agg #[.int .u32 c1, .int .u32 c2, .int .u16 c3], .int .u8 n] w fun e w' => e = .returned (.bool true) ∧ Below w.heap.size w w' := by
  have HK := Lib.hid (fun (W : World) (h : Sid w W) => known_any W h.1)
  have HAB := Lib.hid (show ∀ W : World, Calls Tryd.prog 11 #[.agg #[.int .u32 a1, .int .u32 a2, .int .u16 a3], .agg #[.int .u32 b1, .int .u32 b2, .int .u16 b3]] W fun e w' => e = .returned (.bool true) ∧ Below W.heap.size W w' from fun W => by have h := pless_any a1 a2 a3 b1 b2 b3 W; rw [t1] at h; exact h)
  have HBC := Lib.hid (show ∀ W : World, Calls Tryd.prog 11 #[.agg #[.int .u32 b1, .int .u32 b2, .int .u16 b3], .agg #[.int .u32 c1, .int .u32 c2, .int .u16 c3]] W fun e w' => e = .returned (.bool false) ∧ Below W.heap.size W w' from fun W => by have h := pless_any b1 b2 b3 c1 c2 c3 W; rw [t2] at h; exact h)
  have HRX := Lib.hid (show ∀ W : World, Calls Tryd.prog 11 #[.agg #[.int .u32 a1, .int .u32 a2, .int .u16 0], .agg #[.int .u32 a1, .int .u32 a2, .int .u16 (n % 8 + 1)]] W fun e w' => e = .returned (.bool true) ∧ Below W.heap.size W w' from fun W => by have h := pless_any a1 a2 0 a1 a2 (n % 8 + 1) W; rw [(show lessT a1 a2 0 a1 a2 (n % 8 + 1) = true by unfold lessT; rw [decide_eq_true_eq]; omega)] at h; exact h)
  have HR := Lib.hid (show ∀ W : World, Calls Tryd.prog 14 #[.agg #[.int .u32 a1, .int .u32 a2, .int .u16 a3]] W fun e w' => e = .returned (.agg #[.int .u32 a1, .int .u32 a2, .int .u16 0]) ∧ Below W.heap.size W w' from fun W => root_any a1 a2 a3 W)
  have HN := Lib.hid (show ∀ W : World, Calls Tryd.prog 13 #[.agg #[.int .u32 a1, .int .u32 a2, .int .u16 0], .int .i64 (n % 8 + 1)] W fun e w' => e = .returned (.tuple #[.agg #[.int .u32 a1, .int .u32 a2, .int .u16 (n % 8 + 1)], .bool true]) ∧ Below W.heap.size W w' from fun W => by have h := nested_any a1 a2 0 (n % 8 + 1) W; unfold nestV at h; rw [if_pos (by omega)] at h; exact h)
  have wn1 : n.tmod 8 = n % 8 := Int.tmod_eq_emod_of_nonneg hn0
  have wn2 : wrap64 (n % 8) = n % 8 := by unfold wrap64; omega
  have wn3 : wrap64 (n % 8 + 1) = n % 8 + 1 := by unfold wrap64; omega
  have ba : (a2 == 4294967295) = true := by rw [beq_iff_eq]; exact hm
  clear hm
  have H0 := Lib.hid (sid_alloc (sid_alloc (sid_alloc (sid_start hg) (.cells #[.int .u32 a1, .int .u32 a2, .int .u16 a3] 25)) (.cells #[.int .u32 b1, .int .u32 b2, .int .u16 b3] 25)) (.cells #[.int .u32 c1, .int .u32 c2, .int .u16 c3] 25))
  have ra0 := Lib.hid (row_alloc_step (row_alloc_step (row_alloc w #[.int .u32 a1, .int .u32 a2, .int .u16 a3] 25) (.cells #[.int .u32 b1, .int .u32 b2, .int .u16 b3] 25)) (.cells #[.int .u32 c1, .int .u32 c2, .int .u16 c3] 25))
  have rb := row_alloc_step (row_alloc (w.alloc (.cells #[.int .u32 a1, .int .u32 a2, .int .u16 a3] 25)) #[.int .u32 b1, .int .u32 b2, .int .u16 b3] 25) (.cells #[.int .u32 c1, .int .u32 c2, .int .u16 c3] 25)
  have rc := row_alloc ((w.alloc (.cells #[.int .u32 a1, .int .u32 a2, .int .u16 a3] 25)).alloc (.cells #[.int .u32 b1, .int .u32 b2, .int .u16 b3] 25)) #[.int .u32 c1, .int .u32 c2, .int .u16 c3] 25
  simp only [World.size_alloc] at rb rc
  have rb0 := Lib.hid rb
  have rc0 := Lib.hid rc
  clear rb rc hg hn0 hn1 ha0 ha1
  go_enter Tryd.func5, Tryd.ntmps5
  go_wp2_with fail
  go_at_call 6; refine (HK.out _ H0.out).mono ?_; rintro e w1 ⟨rfl, hb1⟩
  have H1 := Lib.hid (sid_step H0.out hb1)
  have ra1 := Lib.hid (row_step ra0.out hb1)
  have rb1 := Lib.hid (row_step rb0.out hb1)
  have rc1 := Lib.hid (row_step rc0.out hb1)
  clear hb1
  have rax0 := row_cell ra1.out 0
  have rax1 := row_cell ra1.out 1
  have rax2 := row_cell ra1.out 2
  simp only [List.getElem?_toArray, List.getElem?_cons_zero, List.getElem?_cons_succ] at rax0 rax1 rax2
  have ralt := row_lt ra1.out
  have rbx0 := row_cell rb1.out 0
  have rbx1 := row_cell rb1.out 1
  have rbx2 := row_cell rb1.out 2
  simp only [List.getElem?_toArray, List.getElem?_cons_zero, List.getElem?_cons_succ] at rbx0 rbx1 rbx2
  have rblt := row_lt rb1.out
  have rcx0 := row_cell rc1.out 0
  have rcx1 := row_cell rc1.out 1
  have rcx2 := row_cell rc1.out 2
  simp only [List.getElem?_toArray, List.getElem?_cons_zero, List.getElem?_cons_succ] at rcx0 rcx1 rcx2
  have rclt := row_lt rc1.out
  go_wp2_with fail
  go_at_call 11; refine (HAB.out _).mono ?_; rintro e w2 ⟨rfl, hb2⟩
  have H2 := Lib.hid (sid_step H1.out hb2)
  have ra2 := Lib.hid (row_step ra1.out hb2)
  have rb2 := Lib.hid (row_step rb1.out hb2)
  have rc2 := Lib.hid (row_step rc1.out hb2)
  clear hb2 rax0 rax1 rax2 rbx0 rbx1 rbx2 rcx0 rcx1 rcx2 ralt rblt rclt
  have rax0 := row_cell ra2.out 0
  have rax1 := row_cell ra2.out 1
  have rax2 := row_cell ra2.out 2
  simp only [List.getElem?_toArray, List.getElem?_cons_zero, List.getElem?_cons_succ] at rax0 rax1 rax2
  have ralt := row_lt ra2.out
  have rbx0 := row_cell rb2.out 0
  have rbx1 := row_cell rb2.out 1
  have rbx2 := row_cell rb2.out 2
  simp only [List.getElem?_toArray, List.getElem?_cons_zero, List.getElem?_cons_succ] at rbx0 rbx1 rbx2
  have rblt := row_lt rb2.out
  have rcx0 := row_cell rc2.out 0
  have rcx1 := row_cell rc2.out 1
  have rcx2 := row_cell rc2.out 2
  simp only [List.getElem?_toArray, List.getElem?_cons_zero, List.getElem?_cons_succ] at rcx0 rcx1 rcx2
  have rclt := row_lt rc2.out
  go_wp2_with fail
  go_at_call 11; refine (HBC.out _).mono ?_; rintro e w3 ⟨rfl, hb3⟩
  have H3 := Lib.hid (sid_step H2.out hb3)
  have ra3 := Lib.hid (row_step ra2.out hb3)
  have rb3 := Lib.hid (row_step rb2.out hb3)
  have rc3 := Lib.hid (row_step rc2.out hb3)
  clear hb3 rax0 rax1 rax2 rbx0 rbx1 rbx2 rcx0 rcx1 rcx2 ralt rblt rclt
  have rax0 := row_cell ra3.out 0
  have rax1 := row_cell ra3.out 1
  have rax2 := row_cell ra3.out 2
  simp only [List.getElem?_toArray, List.getElem?_cons_zero, List.getElem?_cons_succ] at rax0 rax1 rax2
  have ralt := row_lt ra3.out
  have rbx0 := row_cell rb3.out 0
  have rbx1 := row_cell rb3.out 1
  have rbx2 := row_cell rb3.out 2
  simp only [List.getElem?_toArray, List.getElem?_cons_zero, List.getElem?_cons_succ] at rbx0 rbx1 rbx2
  have rblt := row_lt rb3.out
  have rcx0 := row_cell rc3.out 0
  have rcx1 := row_cell rc3.out 1
  have rcx2 := row_cell rc3.out 2
  simp only [List.getElem?_toArray, List.getElem?_cons_zero, List.getElem?_cons_succ] at rcx0 rcx1 rcx2
  have rclt := row_lt rc3.out
  go_wp2_with fail
  go_at_call 11; refine (HAB.out _).mono ?_; rintro e w4 ⟨rfl, hb4⟩
  have H4 := Lib.hid (sid_step H3.out hb4)
  have ra4 := Lib.hid (row_step ra3.out hb4)
  have rb4 := Lib.hid (row_step rb3.out hb4)
  have rc4 := Lib.hid (row_step rc3.out hb4)
  clear hb4 rax0 rax1 rax2 rbx0 rbx1 rbx2 rcx0 rcx1 rcx2 ralt rblt rclt
  have rax0 := row_cell ra4.out 0
  have rax1 := row_cell ra4.out 1
  have rax2 := row_cell ra4.out 2
  simp only [List.getElem?_toArray, List.getElem?_cons_zero, List.getElem?_cons_succ] at rax0 rax1 rax2
  have ralt := row_lt ra4.out
  have rbx0 := row_cell rb4.out 0
  have rbx1 := row_cell rb4.out 1
  have rbx2 := row_cell rb4.out 2
  simp only [List.getElem?_toArray, List.getElem?_cons_zero, List.getElem?_cons_succ] at rbx0 rbx1 rbx2
  have rblt := row_lt rb4.out
  have rcx0 := row_cell rc4.out 0
  have rcx1 := row_cell rc4.out 1
  have rcx2 := row_cell rc4.out 2
  simp only [List.getElem?_toArray, List.getElem?_cons_zero, List.getElem?_cons_succ] at rcx0 rcx1 rcx2
  have rclt := row_lt rc4.out
  go_wp2_with fail
  go_at_call 14; refine (HR.out _).mono ?_; rintro e w5 ⟨rfl, hb5⟩
  have H5 := Lib.hid (sid_step H4.out hb5)
  have ra5 := Lib.hid (row_step ra4.out hb5)
  have rb5 := Lib.hid (row_step rb4.out hb5)
  have rc5 := Lib.hid (row_step rc4.out hb5)
  clear hb5 rax0 rax1 rax2 rbx0 rbx1 rbx2 rcx0 rcx1 rcx2 ralt rblt rclt
  have rax0 := row_cell ra5.out 0
  have rax1 := row_cell ra5.out 1
  have rax2 := row_cell ra5.out 2
  simp only [List.getElem?_toArray, List.getElem?_cons_zero, List.getElem?_cons_succ] at rax0 rax1 rax2
  have ralt := row_lt ra5.out
  have rbx0 := row_cell rb5.out 0
  have rbx1 := row_cell rb5.out 1
  have rbx2 := row_cell rb5.out 2
  simp only [List.getElem?_toArray, List.getElem?_cons_zero, List.getElem?_cons_succ] at rbx0 rbx1 rbx2
  have rblt := row_lt rb5.out
  have rcx0 := row_cell rc5.out 0
  have rcx1 := row_cell rc5.out 1
  have rcx2 := row_cell rc5.out 2
  simp only [List.getElem?_toArray, List.getElem?_cons_zero, List.getElem?_cons_succ] at rcx0 rcx1 rcx2
  have rclt := row_lt rc5.out
  go_wp2_with fail
  go_at_call 13; refine (HN.out _).mono ?_; rintro e w6 ⟨rfl, hb6⟩
  have H6 := Lib.hid (sid_step (sid_alloc H5.out _) hb6)
  have ra6 := Lib.hid (row_step (row_alloc_step ra5.out _) hb6)
  have rb6 := Lib.hid (row_step (row_alloc_step rb5.out _) hb6)
  have rc6 := Lib.hid (row_step (row_alloc_step rc5.out _) hb6)
  have rr6 := Lib.hid (row_step (row_alloc w5 #[.int .u32 a1, .int .u32 a2, .int .u16 0] 25) hb6)
  clear hb6 rax0 rax1 rax2 rbx0 rbx1 rbx2 rcx0 rcx1 rcx2 ralt rblt rclt
  have rax0 := row_cell ra6.out 0
  have rax1 := row_cell ra6.out 1
  have rax2 := row_cell ra6.out 2
  simp only [List.getElem?_toArray, List.getElem?_cons_zero, List.getElem?_cons_succ] at rax0 rax1 rax2
  have ralt := row_lt ra6.out
  have rbx0 := row_cell rb6.out 0
  have rbx1 := row_cell rb6.out 1
  have rbx2 := row_cell rb6.out 2
  simp only [List.getElem?_toArray, List.getElem?_cons_zero, List.getElem?_cons_succ] at rbx0 rbx1 rbx2
  have rblt := row_lt rb6.out
  have rcx0 := row_cell rc6.out 0
  have rcx1 := row_cell rc6.out 1
  have rcx2 := row_cell rc6.out 2
  simp only [List.getElem?_toArray, List.getElem?_cons_zero, List.getElem?_cons_succ] at rcx0 rcx1 rcx2
  have rclt := row_lt rc6.out
  have rrx0 := row_cell rr6.out 0
  have rrx1 := row_cell rr6.out 1
  have rrx2 := row_cell rr6.out 2
  simp only [List.getElem?_toArray, List.getElem?_cons_zero, List.getElem?_cons_succ] at rrx0 rrx1 rrx2
  have rrlt := row_lt rr6.out
  go_wp2_with fail
  go_at_call 11; refine (HRX.out _).mono ?_; rintro e v1 ⟨rfl, hv1⟩
  have G1 := Lib.hid (sid_step (sid_alloc (sid_alloc H6.out _) _) hv1)
  have qr := Lib.hid (row_step (row_alloc_step (row_alloc_step rr6.out _) _) hv1)
  clear hv1
  have q0 := row_cell qr.out 0
  have q1 := row_cell qr.out 1
  have q2 := row_cell qr.out 2
  simp only [List.getElem?_toArray, List.getElem?_cons_zero, List.getElem?_cons_succ] at q0 q1 q2
  go_wp2_with fail
  go_ret
  exact ⟨rfl, G1.out.2⟩
set_option maxRecDepth 100000 in
set_option maxHeartbeats 8000000 in
theorem lineB0 (a1 a2 a3 b1 b2 b3 c1 c2 c3 n : Int) (w : World) (hg : Good w) (hn0 : 0 ≤ n) (hn1 : n ≤ 255) (ha0 : 0 ≤ a2) (ha1 : a2 ≤ 4294967295) (t1 : lessT a1 a2 a3 b1 b2 b3 = true) (t2 : lessT b1 b2 b3 c1 c2 c3 = false) (hm : ¬ a2 = 4294967295) : Calls Tryd.prog 5 #[.agg #[.int .u32 a1, .int .u32 a2, .int .u16 a3], .agg #[.int .u32 b1, .int .u32 b2, .int .u16 b3], .agg #[.int .u32 c1, .int .u32 c2, .int .u16 c3], .int .u8 n] w fun e w' => e = .returned (.bool true) ∧ Below w.heap.size w w' := by
  have HK := Lib.hid (fun (W : World) (h : Sid w W) => known_any W h.1)
  have HAB := Lib.hid (show ∀ W : World, Calls Tryd.prog 11 #[.agg #[.int .u32 a1, .int .u32 a2, .int .u16 a3], .agg #[.int .u32 b1, .int .u32 b2, .int .u16 b3]] W fun e w' => e = .returned (.bool true) ∧ Below W.heap.size W w' from fun W => by have h := pless_any a1 a2 a3 b1 b2 b3 W; rw [t1] at h; exact h)
  have HBC := Lib.hid (show ∀ W : World, Calls Tryd.prog 11 #[.agg #[.int .u32 b1, .int .u32 b2, .int .u16 b3], .agg #[.int .u32 c1, .int .u32 c2, .int .u16 c3]] W fun e w' => e = .returned (.bool false) ∧ Below W.heap.size W w' from fun W => by have h := pless_any b1 b2 b3 c1 c2 c3 W; rw [t2] at h; exact h)
  have HRX := Lib.hid (show ∀ W : World, Calls Tryd.prog 11 #[.agg #[.int .u32 a1, .int .u32 a2, .int .u16 0], .agg #[.int .u32 a1, .int .u32 a2, .int .u16 (n % 8 + 1)]] W fun e w' => e = .returned (.bool true) ∧ Below W.heap.size W w' from fun W => by have h := pless_any a1 a2 0 a1 a2 (n % 8 + 1) W; rw [(show lessT a1 a2 0 a1 a2 (n % 8 + 1) = true by unfold lessT; rw [decide_eq_true_eq]; omega)] at h; exact h)
  have HXN := Lib.hid (show ∀ W : World, Calls Tryd.prog 11 #[.agg #[.int .u32 a1, .int .u32 a2, .int .u16 (n % 8 + 1)], .agg #[.int .u32 a1, .int .u32 (a2 + 1), .int .u16 0]] W fun e w' => e = .returned (.bool true) ∧ Below W.heap.size W w' from fun W => by have h := pless_any a1 a2 (n % 8 + 1) a1 (a2 + 1) 0 W; rw [(show lessT a1 a2 (n % 8 + 1) a1 (a2 + 1) 0 = true by unfold lessT; rw [decide_eq_true_eq]; omega)] at h; exact h)
  have HR := Lib.hid (show ∀ W : World, Calls Tryd.prog 14 #[.agg #[.int .u32 a1, .int .u32 a2, .int .u16 a3]] W fun e w' => e = .returned (.agg #[.int .u32 a1, .int .u32 a2, .int .u16 0]) ∧ Below W.heap.size W w' from fun W => root_any a1 a2 a3 W)
  have HN := Lib.hid (show ∀ W : World, Calls Tryd.prog 13 #[.agg #[.int .u32 a1, .int .u32 a2, .int .u16 0], .int .i64 (n % 8 + 1)] W fun e w' => e = .returned (.tuple #[.agg #[.int .u32 a1, .int .u32 a2, .int .u16 (n % 8 + 1)], .bool true]) ∧ Below W.heap.size W w' from fun W => by have h := nested_any a1 a2 0 (n % 8 + 1) W; unfold nestV at h; rw [if_pos (by omega)] at h; exact h)
  have wn1 : n.tmod 8 = n % 8 := Int.tmod_eq_emod_of_nonneg hn0
  have wn2 : wrap64 (n % 8) = n % 8 := by unfold wrap64; omega
  have wn3 : wrap64 (n % 8 + 1) = n % 8 + 1 := by unfold wrap64; omega
  have wa : (a2 + 1) % 4294967296 = a2 + 1 := by omega
  have ba : (a2 == 4294967295) = false := by rw [beq_eq_false_iff_ne]; exact hm
  have H0 := Lib.hid (sid_alloc (sid_alloc (sid_alloc (sid_start hg) (.cells #[.int .u32 a1, .int .u32 a2, .int .u16 a3] 25)) (.cells #[.int .u32 b1, .int .u32 b2, .int .u16 b3] 25)) (.cells #[.int .u32 c1, .int .u32 c2, .int .u16 c3] 25))
  have ra0 := Lib.hid (row_alloc_step (row_alloc_step (row_alloc w #[.int .u32 a1, .int .u32 a2, .int .u16 a3] 25) (.cells #[.int .u32 b1, .int .u32 b2, .int .u16 b3] 25)) (.cells #[.int .u32 c1, .int .u32 c2, .int .u16 c3] 25))
  have rb := row_alloc_step (row_alloc (w.alloc (.cells #[.int .u32 a1, .int .u32 a2, .int .u16 a3] 25)) #[.int .u32 b1, .int .u32 b2, .int .u16 b3] 25) (.cells #[.int .u32 c1, .int .u32 c2, .int .u16 c3] 25)
  have rc := row_alloc ((w.alloc (.cells #[.int .u32 a1, .int .u32 a2, .int .u16 a3] 25)).alloc (.cells #[.int .u32 b1, .int .u32 b2, .int .u16 b3] 25)) #[.int .u32 c1, .int .u32 c2, .int .u16 c3] 25
  simp only [World.size_alloc] at rb rc
  have rb0 := Lib.hid rb
  have rc0 := Lib.hid rc
  clear rb rc hg hn0 hn1 ha0 ha1
  go_enter Tryd.func5, Tryd.ntmps5
  go_wp2_with fail
  go_at_call 6; refine (HK.out _ H0.out).mono ?_; rintro e w1 ⟨rfl, hb1⟩
  have H1 := Lib.hid (sid_step H0.out hb1)
  have ra1 := Lib.hid (row_step ra0.out hb1)
  have rb1 := Lib.hid (row_step rb0.out hb1)
  have rc1 := Lib.hid (row_step rc0.out hb1)
  clear hb1
  have rax0 := row_cell ra1.out 0
  have rax1 := row_cell ra1.out 1
  have rax2 := row_cell ra1.out 2
  simp only [List.getElem?_toArray, List.getElem?_cons_zero, List.getElem?_cons_succ] at rax0 rax1 rax2
  have ralt := row_lt ra1.out
  have rbx0 := row_cell rb1.out 0
  have rbx1 := row_cell rb1.out 1
  have rbx2 := row_cell rb1.out 2
  simp only [List.getElem?_toArray, List.getElem?_cons_zero, List.getElem?_cons_succ] at rbx0 rbx1 rbx2
  have rblt := row_lt rb1.out
  have rcx0 := row_cell rc1.out 0
  have rcx1 := row_cell rc1.out 1
  have rcx2 := row_cell rc1.out 2
  simp only [List.getElem?_toArray, List.getElem?_cons_zero, List.getElem?_cons_succ] at rcx0 rcx1 rcx2
  have rclt := row_lt rc1.out
  go_wp2_with fail
  go_at_call 11; refine (HAB.out _).mono ?_; rintro e w2 ⟨rfl, hb2⟩
  have H2 := Lib.hid (sid_step H1.out hb2)
  have ra2 := Lib.hid (row_step ra1.out hb2)
  have rb2 := Lib.hid (row_step rb1.out hb2)
  have rc2 := Lib.hid (row_step rc1.out hb2)
  clear hb2 rax0 rax1 rax2 rbx0 rbx1 rbx2 rcx0 rcx1 rcx2 ralt rblt rclt
  have rax0 := row_cell ra2.out 0
  have rax1 := row_cell ra2.out 1
  have rax2 := row_cell ra2.out 2
  simp only [List.getElem?_toArray, List.getElem?_cons_zero, List.getElem?_cons_succ] at rax0 rax1 rax2
  have ralt := row_lt ra2.out
  have rbx0 := row_cell rb2.out 0
  have rbx1 := row_cell rb2.out 1
  have rbx2 := row_cell rb2.out 2
  simp only [List.getElem?_toArray, List.getElem?_cons_zero, List.getElem?_cons_succ] at rbx0 rbx1 rbx2
  have rblt := row_lt rb2.out
  have rcx0 := row_cell rc2.out 0
  have rcx1 := row_cell rc2.out 1
  have rcx2 := row_cell rc2.out 2
  simp only [List.getElem?_toArray, List.getElem?_cons_zero, List.getElem?_cons_succ] at rcx0 rcx1 rcx2
  have rclt := row_lt rc2.out
  go_wp2_with fail
  go_at_call 11; refine (HBC.out _).mono ?_; rintro e w3 ⟨rfl, hb3⟩
  have H3 := Lib.hid (sid_step H2.out hb3)
  have ra3 := Lib.hid (row_step ra2.out hb3)
  have rb3 := Lib.hid (row_step rb2.out hb3)
  have rc3 := Lib.hid (row_step rc2.out hb3)
  clear hb3 rax0 rax1 rax2 rbx0 rbx1 rbx2 rcx0 rcx1 rcx2 ralt rblt rclt
  have rax0 := row_cell ra3.out 0
  have rax1 := row_cell ra3.out 1
  have rax2 := row_cell ra3.out 2
  simp only [List.getElem?_toArray, List.getElem?_cons_zero, List.getElem?_cons_succ] at rax0 rax1 rax2
  have ralt := row_lt ra3.out
  have rbx0 := row_cell rb3.out 0
  have rbx1 := row_cell rb3.out 1
  have rbx2 := row_cell rb3.out 2
  simp only [List.getElem?_toArray, List.getElem?_cons_zero, List.getElem?_cons_succ] at rbx0 rbx1 rbx2
  have rblt := row_lt rb3.out
  have rcx0 := row_cell rc3.out 0
  have rcx1 := row_cell rc3.out 1
  have rcx2 := row_cell rc3.out 2
  simp only [List.getElem?_toArray, List.getElem?_cons_zero, List.getElem?_cons_succ] at rcx0 rcx1 rcx2
  have rclt := row_lt rc3.out
  go_wp2_with fail
  go_at_call 11; refine (HAB.out _).mono ?_; rintro e w4 ⟨rfl, hb4⟩
  have H4 := Lib.hid (sid_step H3.out hb4)
  have ra4 := Lib.hid (row_step ra3.out hb4)
  have rb4 := Lib.hid (row_step rb3.out hb4)
  have rc4 := Lib.hid (row_step rc3.out hb4)
  clear hb4 rax0 rax1 rax2 rbx0 rbx1 rbx2 rcx0 rcx1 rcx2 ralt rblt rclt
  have rax0 := row_cell ra4.out 0
  have rax1 := row_cell ra4.out 1
  have rax2 := row_cell ra4.out 2
  simp only [List.getElem?_toArray, List.getElem?_cons_zero, List.getElem?_cons_succ] at rax0 rax1 rax2
  have ralt := row_lt ra4.out
  have rbx0 := row_cell rb4.out 0
  have rbx1 := row_cell rb4.out 1
  have rbx2 := row_cell rb4.out 2
  simp only [List.getElem?_toArray, List.getElem?_cons_zero, List.getElem?_cons_succ] at rbx0 rbx1 rbx2
  have rblt := row_lt rb4.out
  have rcx0 := row_cell rc4.out 0
  have rcx1 := row_cell rc4.out 1
  have rcx2 := row_cell rc4.out 2
  simp only [List.getElem?_toArray, List.getElem?_cons_zero, List.getElem?_cons_succ] at rcx0 rcx1 rcx2
  have rclt := row_lt rc4.out
  go_wp2_with fail
  go_at_call 14; refine (HR.out _).mono ?_; rintro e w5 ⟨rfl, hb5⟩
  have H5 := Lib.hid (sid_step H4.out hb5)
  have ra5 := Lib.hid (row_step ra4.out hb5)
  have rb5 := Lib.hid (row_step rb4.out hb5)
  have rc5 := Lib.hid (row_step rc4.out hb5)
  clear hb5 rax0 rax1 rax2 rbx0 rbx1 rbx2 rcx0 rcx1 rcx2 ralt rblt rclt
  have rax0 := row_cell ra5.out 0
  have rax1 := row_cell ra5.out 1
  have rax2 := row_cell ra5.out 2
  simp only [List.getElem?_toArray, List.getElem?_cons_zero, List.getElem?_cons_succ] at rax0 rax1 rax2
  have ralt := row_lt ra5.out
  have rbx0 := row_cell rb5.out 0
  have rbx1 := row_cell rb5.out 1
  have rbx2 := row_cell rb5.out 2
  simp only [List.getElem?_toArray, List.getElem?_cons_zero, List.getElem?_cons_succ] at rbx0 rbx1 rbx2
  have rblt := row_lt rb5.out
  have rcx0 := row_cell rc5.out 0
  have rcx1 := row_cell rc5.out 1
  have rcx2 := row_cell rc5.out 2
  simp only [List.getElem?_toArray, List.getElem?_cons_zero, List.getElem?_cons_succ] at rcx0 rcx1 rcx2
  have rclt := row_lt rc5.out
  go_wp2_with fail
  go_at_call 13; refine (HN.out _).mono ?_; rintro e w6 ⟨rfl, hb6⟩
  have H6 := Lib.hid (sid_step (sid_alloc H5.out _) hb6)
  have ra6 := Lib.hid (row_step (row_alloc_step ra5.out _) hb6)
  have rb6 := Lib.hid (row_step (row_alloc_step rb5.out _) hb6)
  have rc6 := Lib.hid (row_step (row_alloc_step rc5.out _) hb6)
  have rr6 := Lib.hid (row_step (row_alloc w5 #[.int .u32 a1, .int .u32 a2, .int .u16 0] 25) hb6)
  clear hb6 rax0 rax1 rax2 rbx0 rbx1 rbx2 rcx0 rcx1 rcx2 ralt rblt rclt
  have rax0 := row_cell ra6.out 0
  have rax1 := row_cell ra6.out 1
  have rax2 := row_cell ra6.out 2
  simp only [List.getElem?_toArray, List.getElem?_cons_zero, List.getElem?_cons_succ] at rax0 rax1 rax2
  have ralt := row_lt ra6.out
  have rbx0 := row_cell rb6.out 0
  have rbx1 := row_cell rb6.out 1
  have rbx2 := row_cell rb6.out 2
  simp only [List.getElem?_toArray, List.getElem?_cons_zero, List.getElem?_cons_succ] at rbx0 rbx1 rbx2
  have rblt := row_lt rb6.out
  have rcx0 := row_cell rc6.out 0
  have rcx1 := row_cell rc6.out 1
  have rcx2 := row_cell rc6.out 2
  simp only [List.getElem?_toArray, List.getElem?_cons_zero, List.getElem?_cons_succ] at rcx0 rcx1 rcx2
  have rclt := row_lt rc6.out
  have rrx0 := row_cell rr6.out 0
  have rrx1 := row_cell rr6.out 1
  have rrx2 := row_cell rr6.out 2
  simp only [List.getElem?_toArray, List.getElem?_cons_zero, List.getElem?_cons_succ] at rrx0 rrx1 rrx2
  have rrlt := row_lt rr6.out
  go_wp2_with fail
  go_at_call 11; refine (HRX.out _).mono ?_; rintro e v1 ⟨rfl, hv1⟩
  have G1 := Lib.hid (sid_step (sid_alloc (sid_alloc H6.out _) _) hv1)
  have qr := Lib.hid (row_step (row_alloc_step (row_alloc_step rr6.out _) _) hv1)
  have qx := Lib.hid (row_step (row_alloc_step (row_alloc w6 #[.int .u32 a1, .int .u32 a2, .int .u16 (n % 8 + 1)] 25) _) hv1)
  have qn := row_step (row_alloc (w6.alloc (.cells #[.int .u32 a1, .int .u32 a2, .int .u16 (n % 8 + 1)] 25)) #[.int .u32 a1, .int .u32 (a2 + 1), .int .u16 0] 25) hv1
  simp only [World.size_alloc] at qn
  have q0 := row_cell qr.out 0
  have q1 := row_cell qr.out 1
  have q2 := row_cell qr.out 2
  have x0 := row_cell qx.out 0
  have x1 := row_cell qx.out 1
  have x2 := row_cell qx.out 2
  have n0 := row_cell qn 0
  have n1 := row_cell qn 1
  have n2 := row_cell qn 2
  clear hv1 qn
  simp only [List.getElem?_toArray, List.getElem?_cons_zero, List.getElem?_cons_succ] at q0 q1 q2 x0 x1 x2 n0 n1 n2
  go_wp2_with fail
  go_at_call 11; refine (HXN.out _).mono ?_; rintro e v2 ⟨rfl, hv2⟩
  have G2 := Lib.hid (sid_step G1.out hv2)
  clear hv2
  go_wp2_with fail
  go_ret
  exact ⟨rfl, G2.out.2⟩
set_option maxRecDepth 100000 in
set_option maxHeartbeats 8000000 in
theorem lineC1 (a1 a2 a3 b1 b2 b3 c1 c2 c3 n : Int) (w : World) (hg : Good w) (hn0 : 0 ≤ n) (hn1 : n ≤ 255) (ha0 : 0 ≤ a2) (ha1 : a2 ≤ 4294967295) (t1 : lessT a1 a2 a3 b1 b2 b3 = false) (t4 : lessT b1 b2 b3 a1 a2 a3 = true) (hm : a2 = 4294967295) : Calls Tryd.prog 5 #[.agg #[.int .u32 a1, .int .u32 a2, .int .u16 a3], .agg #[.int .u32 b1, .int .u32 b2, .int .u16 b3], .agg #[.int .u32 c1, .int .u32 c2, .int .u16 c3], .int .u8 n] w fun e w' => e = .returned (.bool true) ∧ Below w.heap.size w w' := by
  have HK := Lib.hid (fun (W : World) (h : Sid w W) => known_any W h.1)
  have HAB := Lib.hid (show ∀ W : World, Calls Tryd.prog 11 #[.agg #[.int .u32 a1, .int .u32 a2, .int .u16 a3], .agg #[.int .u32 b1, .int .u32 b2, .int .u16 b3]] W fun e w' => e = .returned (.bool false) ∧ Below W.heap.size W w' from fun W => by have h := pless_any a1 a2 a3 b1 b2 b3 W; rw [t1] at h; exact h)
  have HBA := Lib.hid (show ∀ W : World, Calls Tryd.prog 11 #[.agg #[.int .u32 b1, .int .u32 b2, .int .u16 b3], .agg #[.int .u32 a1, .int .u32 a2, .int .u16 a3]] W fun e w' => e = .returned (.bool true) ∧ Below W.heap.size W w' from fun W => by have h := pless_any b1 b2 b3 a1 a2 a3 W; rw [t4] at h; exact h)
  have HRX := Lib.hid (show ∀ W : World, Calls Tryd.prog 11 #[.agg #[.int .u32 a1, .int .u32 a2, .int .u16 0], .agg #[.int .u32 a1, .int .u32 a2, .int .u16 (n % 8 + 1)]] W fun e w' => e = .returned (.bool true) ∧ Below W.heap.size W w' from fun W => by have h := pless_any a1 a2 0 a1 a2 (n % 8 + 1) W; rw [(show lessT a1 a2 0 a1 a2 (n % 8 + 1) = true by unfold lessT; rw [decide_eq_true_eq]; omega)] at h; exact h)
  have HR := Lib.hid (show ∀ W : World, Calls Tryd.prog 14 #[.agg #[.int .u32 a1, .int .u32 a2, .int .u16 a3]] W fun e w' => e = .returned (.agg #[.int .u32 a1, .int .u32 a2, .int .u16 0]) ∧ Below W.heap.size W w' from fun W => root_any a1 a2 a3 W)
  have HN := Lib.hid (show ∀ W : World, Calls Tryd.prog 13 #[.agg #[.int .u32 a1, .int .u32 a2, .int .u16 0], .int .i64 (n % 8 + 1)] W fun e w' => e = .returned (.tuple #[.agg #[.int .u32 a1, .int .u32 a2, .int .u16 (n % 8 + 1)], .bool true]) ∧ Below W.heap.size W w' from fun W => by have h := nested_any a1 a2 0 (n % 8 + 1) W; unfold nestV at h; rw [if_pos (by omega)] at h; exact h)
  have wn1 : n.tmod 8 = n % 8 := Int.tmod_eq_emod_of_nonneg hn0
  have wn2 : wrap64 (n % 8) = n % 8 := by unfold wrap64; omega
  have wn3 : wrap64 (n % 8 + 1) = n % 8 + 1 := by unfold wrap64; omega
  have ba : (a2 == 4294967295) = true := by rw [beq_iff_eq]; exact hm
  clear hm
  have H0 := Lib.hid (sid_alloc (sid_alloc (sid_alloc (sid_start hg) (.cells #[.int .u32 a1, .int .u32 a2, .int .u16 a3] 25)) (.cells #[.int .u32 b1, .int .u32 b2, .int .u16 b3] 25)) (.cells #[.int .u32 c1, .int .u32 c2, .int .u16 c3] 25))
  have ra0 := Lib.hid (row_alloc_step (row_alloc_step (row_alloc w #[.int .u32 a1, .int .u32 a2, .int .u16 a3] 25) (.cells #[.int .u32 b1, .int .u32 b2, .int .u16 b3] 25)) (.cells #[.int .u32 c1, .int .u32 c2, .int .u16 c3] 25))
  have rb := row_alloc_step (row_alloc (w.alloc (.cells #[.int .u32 a1, .int .u32 a2, .int .u16 a3] 25)) #[.int .u32 b1, .int .u32 b2, .int .u16 b3] 25) (.cells #[.int .u32 c1, .int .u32 c2, .int .u16 c3] 25)
  have rc := row_alloc ((w.alloc (.cells #[.int .u32 a1, .int .u32 a2, .int .u16 a3] 25)).alloc (.cells #[.int .u32 b1, .int .u32 b2, .int .u16 b3] 25)) #[.int .u32 c1, .int .u32 c2, .int .u16 c3] 25
  simp only [World.size_alloc] at rb rc
  have rb0 := Lib.hid rb
  have rc0 := Lib.hid rc
  clear rb rc hg hn0 hn1 ha0 ha1
  go_enter Tryd.func5, Tryd.ntmps5
  go_wp2_with fail
  go_at_call 6; refine (HK.out _ H0.out).mono ?_; rintro e w1 ⟨rfl, hb1⟩
  have H1 := Lib.hid (sid_step H0.out hb1)
  have ra1 := Lib.hid (row_step ra0.out hb1)
  have rb1 := Lib.hid (row_step rb0.out hb1)
  have rc1 := Lib.hid (row_step rc0.out hb1)
  clear hb1
  have rax0 := row_cell ra1.out 0
  have rax1 := row_cell ra1.out 1
  have rax2 := row_cell ra1.out 2
  simp only [List.getElem?_toArray, List.getElem?_cons_zero, List.getElem?_cons_succ] at rax0 rax1 rax2
  have ralt := row_lt ra1.out
  have rbx0 := row_cell rb1.out 0
  have rbx1 := row_cell rb1.out 1
  have rbx2 := row_cell rb1.out 2
  simp only [List.getElem?_toArray, List.getElem?_cons_zero, List.getElem?_cons_succ] at rbx0 rbx1 rbx2
  have rblt := row_lt rb1.out
  have rcx0 := row_cell rc1.out 0
  have rcx1 := row_cell rc1.out 1
  have rcx2 := row_cell rc1.out 2
  simp only [List.getElem?_toArray, List.getElem?_cons_zero, List.getElem?_cons_succ] at rcx0 rcx1 rcx2
  have rclt := row_lt rc1.out
  go_wp2_with fail
  go_at_call 11; refine (HAB.out _).mono ?_; rintro e w2 ⟨rfl, hb2⟩
  have H2 := Lib.hid (sid_step H1.out hb2)
  have ra2 := Lib.hid (row_step ra1.out hb2)
  have rb2 := Lib.hid (row_step rb1.out hb2)
  have rc2 := Lib.hid (row_step rc1.out hb2)
  clear hb2 rax0 rax1 rax2 rbx0 rbx1 rbx2 rcx0 rcx1 rcx2 ralt rblt rclt
  have rax0 := row_cell ra2.out 0
  have rax1 := row_cell ra2.out 1
  have rax2 := row_cell ra2.out 2
  simp only [List.getElem?_toArray, List.getElem?_cons_zero, List.getElem?_cons_succ] at rax0 rax1 rax2
  have ralt := row_lt ra2.out
  have rbx0 := row_cell rb2.out 0
  have rbx1 := row_cell rb2.out 1
  have rbx2 := row_cell rb2.out 2
  simp only [List.getElem?_toArray, List.getElem?_cons_zero, List.getElem?_cons_succ] at rbx0 rbx1 rbx2
  have rblt := row_lt rb2.out
  have rcx0 := row_cell rc2.out 0
  have rcx1 := row_cell rc2.out 1
  have rcx2 := row_cell rc2.out 2
  simp only [List.getElem?_toArray, List.getElem?_cons_zero, List.getElem?_cons_succ] at rcx0 rcx1 rcx2
  have rclt := row_lt rc2.out
  go_wp2_with fail
  go_at_call 11; refine (HAB.out _).mono ?_; rintro e w3 ⟨rfl, hb3⟩
  have H3 := Lib.hid (sid_step H2.out hb3)
  have ra3 := Lib.hid (row_step ra2.out hb3)
  have rb3 := Lib.hid (row_step rb2.out hb3)
  have rc3 := Lib.hid (row_step rc2.out hb3)
  clear hb3 rax0 rax1 rax2 rbx0 rbx1 rbx2 rcx0 rcx1 rcx2 ralt rblt rclt
  have rax0 := row_cell ra3.out 0
  have rax1 := row_cell ra3.out 1
  have rax2 := row_cell ra3.out 2
  simp only [List.getElem?_toArray, List.getElem?_cons_zero, List.getElem?_cons_succ] at rax0 rax1 rax2
  have ralt := row_lt ra3.out
  have rbx0 := row_cell rb3.out 0
  have rbx1 := row_cell rb3.out 1
  have rbx2 := row_cell rb3.out 2
  simp only [List.getElem?_toArray, List.getElem?_cons_zero, List.getElem?_cons_succ] at rbx0 rbx1 rbx2
  have rblt := row_lt rb3.out
  have rcx0 := row_cell rc3.out 0
  have rcx1 := row_cell rc3.out 1
  have rcx2 := row_cell rc3.out 2
  simp only [List.getElem?_toArray, List.getElem?_cons_zero, List.getElem?_cons_succ] at rcx0 rcx1 rcx2
  have rclt := row_lt rc3.out
  go_wp2_with fail
  go_at_call 11; refine (HBA.out _).mono ?_; rintro e w4 ⟨rfl, hb4⟩
  have H4 := Lib.hid (sid_step H3.out hb4)
  have ra4 := Lib.hid (row_step ra3.out hb4)
  have rb4 := Lib.hid (row_step rb3.out hb4)
  have rc4 := Lib.hid (row_step rc3.out hb4)
  clear hb4 rax0 rax1 rax2 rbx0 rbx1 rbx2 rcx0 rcx1 rcx2 ralt rblt rclt
  have rax0 := row_cell ra4.out 0
  have rax1 := row_cell ra4.out 1
  have rax2 := row_cell ra4.out 2
  simp only [List.getElem?_toArray, List.getElem?_cons_zero, List.getElem?_cons_succ] at rax0 rax1 rax2
  have ralt := row_lt ra4.out
  have rbx0 := row_cell rb4.out 0
  have rbx1 := row_cell rb4.out 1
  have rbx2 := row_cell rb4.out 2
  simp only [List.getElem?_toArray, List.getElem?_cons_zero, List.getElem?_cons_succ] at rbx0 rbx1 rbx2
  have rblt := row_lt rb4.out
  have rcx0 := row_cell rc4.out 0
  have rcx1 := row_cell rc4.out 1
  have rcx2 := row_cell rc4.out 2
  simp only [List.getElem?_toArray, List.getElem?_cons_zero, List.getElem?_cons_succ] at rcx0 rcx1 rcx2
  have rclt := row_lt rc4.out
  go_wp2_with fail
  go_at_call 14; refine (HR.out _).mono ?_; rintro e w5 ⟨rfl, hb5⟩
  have H5 := Lib.hid (sid_step H4.out hb5)
  have ra5 := Lib.hid (row_step ra4.out hb5)
  have rb5 := Lib.hid (row_step rb4.out hb5)
  have rc5 := Lib.hid (row_step rc4.out hb5)
  clear hb5 rax0 rax1 rax2 rbx0 rbx1 rbx2 rcx0 rcx1 rcx2 ralt rblt rclt
  have rax0 := row_cell ra5.out 0
  have rax1 := row_cell ra5.out 1
  have rax2 := row_cell ra5.out 2
  simp only [List.getElem?_toArray, List.getElem?_cons_zero, List.getElem?_cons_succ] at rax0 rax1 rax2
  have ralt := row_lt ra5.out
  have rbx0 := row_cell rb5.out 0
  have rbx1 := row_cell rb5.out 1
  have rbx2 := row_cell rb5.out 2
  simp only [List.getElem?_toArray, List.getElem?_cons_zero, List.getElem?_cons_succ] at rbx0 rbx1 rbx2
  have rblt := row_lt rb5.out
  have rcx0 := row_cell rc5.out 0
  have rcx1 := row_cell rc5.out 1
  have rcx2 := row_cell rc5.out 2
  simp only [List.getElem?_toArray, List.getElem?_cons_zero, List.getElem?_cons_succ] at rcx0 rcx1 rcx2
  have rclt := row_lt rc5.out
  go_wp2_with fail
  go_at_call 13; refine (HN.out _).mono ?_; rintro e w6 ⟨rfl, hb6⟩
  have H6 := Lib.hid (sid_step (sid_alloc H5.out _) hb6)
  have ra6 := Lib.hid (row_step (row_alloc_step ra5.out _) hb6)
  have rb6 := Lib.hid (row_step (row_alloc_step rb5.out _) hb6)
  have rc6 := Lib.hid (row_step (row_alloc_step rc5.out _) hb6)
  have rr6 := Lib.hid (row_step (row_alloc w5 #[.int .u32 a1, .int .u32 a2, .int .u16 0] 25) hb6)
  clear hb6 rax0 rax1 rax2 rbx0 rbx1 rbx2 rcx0 rcx1 rcx2 ralt rblt rclt
  have rax0 := row_cell ra6.out 0
  have rax1 := row_cell ra6.out 1
  have rax2 := row_cell ra6.out 2
  simp only [List.getElem?_toArray, List.getElem?_cons_zero, List.getElem?_cons_succ] at rax0 rax1 rax2
  have ralt := row_lt ra6.out
  have rbx0 := row_cell rb6.out 0
  have rbx1 := row_cell rb6.out 1
  have rbx2 := row_cell rb6.out 2
  simp only [List.getElem?_toArray, List.getElem?_cons_zero, List.getElem?_cons_succ] at rbx0 rbx1 rbx2
  have rblt := row_lt rb6.out
  have rcx0 := row_cell rc6.out 0
  have rcx1 := row_cell rc6.out 1
  have rcx2 := row_cell rc6.out 2
  simp only [List.getElem?_toArray, List.getElem?_cons_zero, List.getElem?_cons_succ] at rcx0 rcx1 rcx2
  have rclt := row_lt rc6.out
  have rrx0 := row_cell rr6.out 0
  have rrx1 := row_cell rr6.out 1
  have rrx2 := row_cell rr6.out 2
  simp only [List.getElem?_toArray, List.getElem?_cons_zero, List.getElem?_cons_succ] at rrx0 rrx1 rrx2
  have rrlt := row_lt rr6.out
  go_wp2_with fail
  go_at_call 11; refine (HRX.out _).mono ?_; rintro e v1 ⟨rfl, hv1⟩
  have G1 := Lib.hid (sid_step (sid_alloc (sid_alloc H6.out _) _) hv1)
  have qr := Lib.hid (row_step (row_alloc_step (row_alloc_step rr6.out _) _) hv1)
  clear hv1
  have q0 := row_cell qr.out 0
  have q1 := row_cell qr.out 1
  have q2 := row_cell qr.out 2
  simp only [List.getElem?_toArray, List.getElem?_cons_zero, List.getElem?_cons_succ] at q0 q1 q2
  go_wp2_with fail
  go_ret
  exact ⟨rfl, G1.out.2⟩
set_option maxRecDepth 100000 in
set_option maxHeartbeats 8000000 in
theorem lineC0 (a1 a2 a3 b1 b2 b3 c1 c2 c3 n : Int) (w : World) (hg : Good w) (hn0 : 0 ≤ n) (hn1 : n ≤ 255) (ha0 : 0 ≤ a2) (ha1 : a2 ≤ 4294967295) (t1 : lessT a1 a2 a3 b1 b2 b3 = false) (t4 : lessT b1 b2 b3 a1 a2 a3 = true) (hm : ¬ a2 = 4294967295) : Calls Tryd.prog 5 #[.agg #[.int .u32 a1, .int .u32 a2, .int .u16 a3], .agg #[.int .u32 b1, .int .u32 b2, .int .u16 b3], .agg #[.int .u32 c1, .int .u32 c2, .int .u16 c3], .int .u8 n] w fun e w' => e = .returned (.bool true) ∧ Below w.heap.size w w' := by
  have HK := Lib.hid (fun (W : World) (h : Sid w W) => known_any W h.1)
  have HAB := Lib.hid (show ∀ W : World, Calls Tryd.prog 11 #[.agg #[.int .u32 a1, .int .u32 a2, .int .u16 a3], .agg #[.int .u32 b1, .int .u32 b2, .int .u16 b3]] W fun e w' => e = .returned (.bool false) ∧ Below W.heap.size W w' from fun W => by have h := pless_any a1 a2 a3 b1 b2 b3 W; rw [t1] at h; exact h)
  have HBA := Lib.hid (show ∀ W : World, Calls Tryd.prog 11 #[.agg #[.int .u32 b1, .int .u32 b2, .int .u16 b3], .agg #[.int .u32 a1, .int .u32 a2, .int .u16 a3]] W fun e w' => e = .returned (.bool true) ∧ Below W.heap.size W w' from fun W => by have h := pless_any b1 b2 b3 a1 a2 a3 W; rw [t4] at h; exact h)
  have HRX := Lib.hid (show ∀ W : World, Calls Tryd.prog 11 #[.agg #[.int .u32 a1, .int .u32 a2, .int .u16 0], .agg #[.int .u32 a1, .int .u32 a2, .int .u16 (n % 8 + 1)]] W fun e w' => e = .returned (.bool true) ∧ Below W.heap.size W w' from fun W => by have h := pless_any a1 a2 0 a1 a2 (n % 8 + 1) W; rw [(show lessT a1 a2 0 a1 a2 (n % 8 + 1) = true by unfold lessT; rw [decide_eq_true_eq]; omega)] at h; exact h)
  have HXN := Lib.hid (show ∀ W : World, Calls Tryd.prog 11 #[.agg #[.int .u32 a1, .int .u32 a2, .int .u16 (n % 8 + 1)], .agg #[.int .u32 a1, .int .u32 (a2 + 1), .int .u16 0]] W fun e w' => e = .returned (.bool true) ∧ Below W.heap.size W w' from fun W => by have h := pless_any a1 a2 (n % 8 + 1) a1 (a2 + 1) 0 W; rw [(show lessT a1 a2 (n % 8 + 1) a1 (a2 + 1) 0 = true by unfold lessT; rw [decide_eq_true_eq]; omega)] at h; exact h)
  have HR := Lib.hid (show ∀ W : World, Calls Tryd.prog 14 #[.agg #[.int .u32 a1, .int .u32 a2, .int .u16 a3]] W fun e w' => e = .returned (.agg #[.int .u32 a1, .int .u32 a2, .int .u16 0]) ∧ Below W.heap.size W w' from fun W => root_any a1 a2 a3 W)
  have HN := Lib.hid (show ∀ W : World, Calls Tryd.prog 13 #[.agg #[.int .u32 a1, .int .u32 a2, .int .u16 0], .int .i64 (n % 8 + 1)] W fun e w' => e = .returned (.tuple #[.agg #[.int .u32 a1, .int .u32 a2, .int .u16 (n % 8 + 1)], .bool true]) ∧ Below W.heap.size W w' from fun W => by have h := nested_any a1 a2 0 (n % 8 + 1) W; unfold nestV at h; rw [if_pos (by omega)] at h; exact h)
  have wn1 : n.tmod 8 = n % 8 := Int.tmod_eq_emod_of_nonneg hn0
  have wn2 : wrap64 (n % 8) = n % 8 := by unfold wrap64; omega
  have wn3 : wrap64 (n % 8 + 1) = n % 8 + 1 := by unfold wrap64; omega
  have wa : (a2 + 1) % 4294967296 = a2 + 1 := by omega
  have ba : (a2 == 4294967295) = false := by rw [beq_eq_false_iff_ne]; exact hm
  have H0 := Lib.hid (sid_alloc (sid_alloc (sid_alloc (sid_start hg) (.cells #[.int .u32 a1, .int .u32 a2, .int .u16 a3] 25)) (.cells #[.int .u32 b1, .int .u32 b2, .int .u16 b3] 25)) (.cells #[.int .u32 c1, .int .u32 c2, .int .u16 c3] 25))
  have ra0 := Lib.hid (row_alloc_step (row_alloc_step (row_alloc w #[.int .u32 a1, .int .u32 a2, .int .u16 a3] 25) (.cells #[.int .u32 b1, .int .u32 b2, .int .u16 b3] 25)) (.cells #[.int .u32 c1, .int .u32 c2, .int .u16 c3] 25))
  have rb := row_alloc_step (row_alloc (w.alloc (.cells #[.int .u32 a1, .int .u32 a2, .int .u16 a3] 25)) #[.int .u32 b1, .int .u32 b2, .int .u16 b3] 25) (.cells #[.int .u32 c1, .int .u32 c2, .int .u16 c3] 25)
  have rc := row_alloc ((w.alloc (.cells #[.int .u32 a1, .int .u32 a2, .int .u16 a3] 25)).alloc (.cells #[.int .u32 b1, .int .u32 b2, .int .u16 b3] 25)) #[.int .u32 c1, .int .u32 c2, .int .u16 c3] 25
  simp only [World.size_alloc] at rb rc
  have rb0 := Lib.hid rb
  have rc0 := Lib.hid rc
  clear rb rc hg hn0 hn1 ha0 ha1
  go_enter Tryd.func5, Tryd.ntmps5
  go_wp2_with fail
  go_at_call 6; refine (HK.out _ H0.out).mono ?_; rintro e w1 ⟨rfl, hb1⟩
  have H1 := Lib.hid (sid_step H0.out hb1)
  have ra1 := Lib.hid (row_step ra0.out hb1)
  have rb1 := Lib.hid (row_step rb0.out hb1)
  have rc1 := Lib.hid (row_step rc0.out hb1)
  clear hb1
  have rax0 := row_cell ra1.out 0
  have rax1 := row_cell ra1.out 1
  have rax2 := row_cell ra1.out 2
  simp only [List.getElem?_toArray, List.getElem?_cons_zero, List.getElem?_cons_succ] at rax0 rax1 rax2
  have ralt := row_lt ra1.out
  have rbx0 := row_cell rb1.out 0
  have rbx1 := row_cell rb1.out 1
  have rbx2 := row_cell rb1.out 2
  simp only [List.getElem?_toArray, List.getElem?_cons_zero, List.getElem?_cons_succ] at rbx0 rbx1 rbx2
  have rblt := row_lt rb1.out
  have rcx0 := row_cell rc1.out 0
  have rcx1 := row_cell rc1.out 1
  have rcx2 := row_cell rc1.out 2
  simp only [List.getElem?_toArray, List.getElem?_cons_zero, List.getElem?_cons_succ] at rcx0 rcx1 rcx2
  have rclt := row_lt rc1.out
  go_wp2_with fail
  go_at_call 11; refine (HAB.out _).mono ?_; rintro e w2 ⟨rfl, hb2⟩
  have H2 := Lib.hid (sid_step H1.out hb2)
  have ra2 := Lib.hid (row_step ra1.out hb2)
  have rb2 := Lib.hid (row_step rb1.out hb2)
  have rc2 := Lib.hid (row_step rc1.out hb2)
  clear hb2 rax0 rax1 rax2 rbx0 rbx1 rbx2 rcx0 rcx1 rcx2 ralt rblt rclt
  have rax0 := row_cell ra2.out 0
  have rax1 := row_cell ra2.out 1
  have rax2 := row_cell ra2.out 2
  simp only [List.getElem?_toArray, List.getElem?_cons_zero, List.getElem?_cons_succ] at rax0 rax1 rax2
  have ralt := row_lt ra2.out
  have rbx0 := row_cell rb2.out 0
  have rbx1 := row_cell rb2.out 1
  have rbx2 := row_cell rb2.out 2
  simp only [List.getElem?_toArray, List.getElem?_cons_zero, List.getElem?_cons_succ] at rbx0 rbx1 rbx2
  have rblt := row_lt rb2.out
  have rcx0 := row_cell rc2.out 0
  have rcx1 := row_cell rc2.out 1
  have rcx2 := row_cell rc2.out 2
  simp only [List.getElem?_toArray, List.getElem?_cons_zero, List.getElem?_cons_succ] at rcx0 rcx1 rcx2
  have rclt := row_lt rc2.out
  go_wp2_with fail
  go_at_call 11; refine (HAB.out _).mono ?_; rintro e w3 ⟨rfl, hb3⟩
  have H3 := Lib.hid (sid_step H2.out hb3)
  have ra3 := Lib.hid (row_step ra2.out hb3)
  have rb3 := Lib.hid (row_step rb2.out hb3)
  have rc3 := Lib.hid (row_step rc2.out hb3)
  clear hb3 rax0 rax1 rax2 rbx0 rbx1 rbx2 rcx0 rcx1 rcx2 ralt rblt rclt
  have rax0 := row_cell ra3.out 0
  have rax1 := row_cell ra3.out 1
  have rax2 := row_cell ra3.out 2
  simp only [List.getElem?_toArray, List.getElem?_cons_zero, List.getElem?_cons_succ] at rax0 rax1 rax2
  have ralt := row_lt ra3.out
  have rbx0 := row_cell rb3.out 0
  have rbx1 := row_cell rb3.out 1
  have rbx2 := row_cell rb3.out 2
  simp only [List.getElem?_toArray, List.getElem?_cons_zero, List.getElem?_cons_succ] at rbx0 rbx1 rbx2
  have rblt := row_lt rb3.out
  have rcx0 := row_cell rc3.out 0
  have rcx1 := row_cell rc3.out 1
  have rcx2 := row_cell rc3.out 2
  simp only [List.getElem?_toArray, List.getElem?_cons_zero, List.getElem?_cons_succ] at rcx0 rcx1 rcx2
  have rclt := row_lt rc3.out
  go_wp2_with fail
  go_at_call 11; refine (HBA.out _).mono ?_; rintro e w4 ⟨rfl, hb4⟩
  have H4 := Lib.hid (sid_step H3.out hb4)
  have ra4 := Lib.hid (row_step ra3.out hb4)
  have rb4 := Lib.hid (row_step rb3.out hb4)
  have rc4 := Lib.hid (row_step rc3.out hb4)
  clear hb4 rax0 rax1 rax2 rbx0 rbx1 rbx2 rcx0 rcx1 rcx2 ralt rblt rclt
  have rax0 := row_cell ra4.out 0
  have rax1 := row_cell ra4.out 1
  have rax2 := row_cell ra4.out 2
  simp only [List.getElem?_toArray, List.getElem?_cons_zero, List.getElem?_cons_succ] at rax0 rax1 rax2
  have ralt := row_lt ra4.out
  have rbx0 := row_cell rb4.out 0
  have rbx1 := row_cell rb4.out 1
  have rbx2 := row_cell rb4.out 2
  simp only [List.getElem?_toArray, List.getElem?_cons_zero, List.getElem?_cons_succ] at rbx0 rbx1 rbx2
  have rblt := row_lt rb4.out
  have rcx0 := row_cell rc4.out 0
  have rcx1 := row_cell rc4.out 1
  have rcx2 := row_cell rc4.out 2
  simp only [List.getElem?_toArray, List.getElem?_cons_zero, List.getElem?_cons_succ] at rcx0 rcx1 rcx2
  have rclt := row_lt rc4.out
  go_wp2_with fail
  go_at_call 14; refine (HR.out _).mono ?_; rintro e w5 ⟨rfl, hb5⟩
  have H5 := Lib.hid (sid_step H4.out hb5)
  have ra5 := Lib.hid (row_step ra4.out hb5)
  have rb5 := Lib.hid (row_step rb4.out hb5)
  have rc5 := Lib.hid (row_step rc4.out hb5)
  clear hb5 rax0 rax1 rax2 rbx0 rbx1 rbx2 rcx0 rcx1 rcx2 ralt rblt rclt
  have rax0 := row_cell ra5.out 0
  have rax1 := row_cell ra5.out 1
  have rax2 := row_cell ra5.out 2
  simp only [List.getElem?_toArray, List.getElem?_cons_zero, List.getElem?_cons_succ] at rax0 rax1 rax2
  have ralt := row_lt ra5.out
  have rbx0 := row_cell rb5.out 0
  have rbx1 := row_cell rb5.out 1
  have rbx2 := row_cell rb5.out 2
  simp only [List.getElem?_toArray, List.getElem?_cons_zero, List.getElem?_cons_succ] at rbx0 rbx1 rbx2
  have rblt := row_lt rb5.out
  have rcx0 := row_cell rc5.out 0
  have rcx1 := row_cell rc5.out 1
  have rcx2 := row_cell rc5.out 2
  simp only [List.getElem?_toArray, List.getElem?_cons_zero, List.getElem?_cons_succ] at rcx0 rcx1 rcx2
  have rclt := row_lt rc5.out
  go_wp2_with fail
  go_at_call 13; refine (HN.out _).mono ?_; rintro e w6 ⟨rfl, hb6⟩
  have H6 := Lib.hid (sid_step (sid_alloc H5.out _) hb6)
  have ra6 := Lib.hid (row_step (row_alloc_step ra5.out _) hb6)
  have rb6 := Lib.hid (row_step (row_alloc_step rb5.out _) hb6)
  have rc6 := Lib.hid (row_step (row_alloc_step rc5.out _) hb6)
  have rr6 := Lib.hid (row_step (row_alloc w5 #[.int .u32 a1, .int .u32 a2, .int .u16 0] 25) hb6)
  clear hb6 rax0 rax1 rax2 rbx0 rbx1 rbx2 rcx0 rcx1 rcx2 ralt rblt rclt
  have rax0 := row_cell ra6.out 0
  have rax1 := row_cell ra6.out 1
  have rax2 := row_cell ra6.out 2
  simp only [List.getElem?_toArray, List.getElem?_cons_zero, List.getElem?_cons_succ] at rax0 rax1 rax2
  have ralt := row_lt ra6.out
  have rbx0 := row_cell rb6.out 0
  have rbx1 := row_cell rb6.out 1
  have rbx2 := row_cell rb6.out 2
  simp only [List.getElem?_toArray, List.getElem?_cons_zero, List.getElem?_cons_succ] at rbx0 rbx1 rbx2
  have rblt := row_lt rb6.out
  have rcx0 := row_cell rc6.out 0
  have rcx1 := row_cell rc6.out 1
  have rcx2 := row_cell rc6.out 2
  simp only [List.getElem?_toArray, List.getElem?_cons_zero, List.getElem?_cons_succ] at rcx0 rcx1 rcx2
  have rclt := row_lt rc6.out
  have rrx0 := row_cell rr6.out 0
  have rrx1 := row_cell rr6.out 1
  have rrx2 := row_cell rr6.out 2
  simp only [List.getElem?_toArray, List.getElem?_cons_zero, List.getElem?_cons_succ] at rrx0 rrx1 rrx2
  have rrlt := row_lt rr6.out
  go_wp2_with fail
  go_at_call 11; refine (HRX.out _).mono ?_; rintro e v1 ⟨rfl, hv1⟩
  have G1 := Lib.hid (sid_step (sid_alloc (sid_alloc H6.out _) _) hv1)
  have qr := Lib.hid (row_step (row_alloc_step (row_alloc_step rr6.out _) _) hv1)
  have qx := Lib.hid (row_step (row_alloc_step (row_alloc w6 #[.int .u32 a1, .int .u32 a2, .int .u16 (n % 8 + 1)] 25) _) hv1)
  have qn := row_step (row_alloc (w6.alloc (.cells #[.int .u32 a1, .int .u32 a2, .int .u16 (n % 8 + 1)] 25)) #[.int .u32 a1, .int .u32 (a2 + 1), .int .u16 0] 25) hv1
  simp only [World.size_alloc] at qn
  have q0 := row_cell qr.out 0
  have q1 := row_cell qr.out 1
  have q2 := row_cell qr.out 2
  have x0 := row_cell qx.out 0
  have x1 := row_cell qx.out 1
  have x2 := row_cell qx.out 2
  have n0 := row_cell qn 0
  have n1 := row_cell qn 1
  have n2 := row_cell qn 2
  clear hv1 qn
  simp only [List.getElem?_toArray, List.getElem?_cons_zero, List.getElem?_cons_succ] at q0 q1 q2 x0 x1 x2 n0 n1 n2
  go_wp2_with fail
  go_at_call 11; refine (HXN.out _).mono ?_; rintro e v2 ⟨rfl, hv2⟩
  have G2 := Lib.hid (sid_step G1.out hv2)
  clear hv2
  go_wp2_with fail
  go_ret
  exact ⟨rfl, G2.out.2⟩
set_option maxRecDepth 100000 in
set_option maxHeartbeats 8000000 in
theorem lineD1 (a1 a2 a3 b1 b2 b3 c1 c2 c3 n : Int) (w : World) (hg : Good w) (hn0 : 0 ≤ n) (hn1 : n ≤ 255) (ha0 : 0 ≤ a2) (ha1 : a2 ≤ 4294967295) (t1 : lessT a1 a2 a3 a1 a2 a3 = false) (hm : a2 = 4294967295) : Calls Tryd.prog 5 #[.agg #[.int .u32 a1, .int .u32 a2, .int .u16 a3], .agg #[.int .u32 a1, .int .u32 a2, .int .u16 a3], .agg #[.int .u32 c1, .int .u32 c2, .int .u16 c3], .int .u8 n] w fun e w' => e = .returned (.bool true) ∧ Below w.heap.size w w' := by
  have HK := Lib.hid (fun (W : World) (h : Sid w W) => known_any W h.1)
  have HAB := Lib.hid (show ∀ W : World, Calls Tryd.prog 11 #[.agg #[.int .u32 a1, .int .u32 a2, .int .u16 a3], .agg #[.int .u32 a1, .int .u32 a2, .int .u16 a3]] W fun e w' => e = .returned (.bool false) ∧ Below W.heap.size W w' from fun W => by have h := pless_any a1 a2 a3 a1 a2 a3 W; rw [t1] at h; exact h)
  have HBA := Lib.hid (show ∀ W : World, Calls Tryd.prog 11 #[.agg #[.int .u32 a1, .int .u32 a2, .int .u16 a3], .agg #[.int .u32 a1, .int .u32 a2, .int .u16 a3]] W fun e w' => e = .returned (.bool false) ∧ Below W.heap.size W w' from fun W => by have h := pless_any a1 a2 a3 a1 a2 a3 W; rw [t1] at h; exact h)
  have HRX := Lib.hid (show ∀ W : World, Calls Tryd.prog 11 #[.agg #[.int .u32 a1, .int .u32 a2, .int .u16 0], .agg #[.int .u32 a1, .int .u32 a2, .int .u16 (n % 8 + 1)]] W fun e w' => e = .returned (.bool true) ∧ Below W.heap.size W w' from fun W => by have h := pless_any a1 a2 0 a1 a2 (n % 8 + 1) W; rw [(show lessT a1 a2 0 a1 a2 (n % 8 + 1) = true by unfold lessT; rw [decide_eq_true_eq]; omega)] at h; exact h)
  have HR := Lib.hid (show ∀ W : World, Calls Tryd.prog 14 #[.agg #[.int .u32 a1, .int .u32 a2, .int .u16 a3]] W fun e w' => e = .returned (.agg #[.int .u32 a1, .int .u32 a2, .int .u16 0]) ∧ Below W.heap.size W w' from fun W => root_any a1 a2 a3 W)
  have HN := Lib.hid (show ∀ W : World, Calls Tryd.prog 13 #[.agg #[.int .u32 a1, .int .u32 a2, .int .u16 0], .int .i64 (n % 8 + 1)] W fun e w' => e = .returned (.tuple #[.agg #[.int .u32 a1, .int .u32 a2, .int .u16 (n % 8 + 1)], .bool true]) ∧ Below W.heap.size W w' from fun W => by have h := nested_any a1 a2 0 (n % 8 + 1) W; unfold nestV at h; rw [if_pos (by omega)] at h; exact h)
  have wn1 : n.tmod 8 = n % 8 := Int.tmod_eq_emod_of_nonneg hn0
  have wn2 : wrap64 (n % 8) = n % 8 := by unfold wrap64; omega
  have wn3 : wrap64 (n % 8 + 1) = n % 8 + 1 := by unfold wrap64; omega
  have ba : (a2 == 4294967295) = true := by rw [beq_iff_eq]; exact hm
  clear hm
  have H0 := Lib.hid (sid_alloc (sid_alloc (sid_alloc (sid_start hg) (.cells #[.int .u32 a1, .int .u32 a2, .int .u16 a3] 25)) (.cells #[.int .u32 a1, .int .u32 a2, .int .u16 a3] 25)) (.cells #[.int .u32 c1, .int .u32 c2, .int .u16 c3] 25))
  have ra0 := Lib.hid (row_alloc_step (row_alloc_step (row_alloc w #[.int .u32 a1, .int .u32 a2, .int .u16 a3] 25) (.cells #[.int .u32 a1, .int .u32 a2, .int .u16 a3] 25)) (.cells #[.int .u32 c1, .int .u32 c2, .int .u16 c3] 25))
  have rb := row_alloc_step (row_alloc (w.alloc (.cells #[.int .u32 a1, .int .u32 a2, .int .u16 a3] 25)) #[.int .u32 a1, .int .u32 a2, .int .u16 a3] 25) (.cells #[.int .u32 c1, .int .u32 c2, .int .u16 c3] 25)
  have rc := row_alloc ((w.alloc (.cells #[.int .u32 a1, .int .u32 a2, .int .u16 a3] 25)).alloc (.cells #[.int .u32 a1, .int .u32 a2, .int .u16 a3] 25)) #[.int .u32 c1, .int .u32 c2, .int .u16 c3] 25
  simp only [World.size_alloc] at rb rc
  have rb0 := Lib.hid rb
  have rc0 := Lib.hid rc
  clear rb rc hg hn0 hn1 ha0 ha1
  go_enter Tryd.func5, Tryd.ntmps5
  go_wp2_with fail
  go_at_call 6; refine (HK.out _ H0.out).mono ?_; rintro e w1 ⟨rfl, hb1⟩
  have H1 := Lib.hid (sid_step H0.out hb1)
  have ra1 := Lib.hid (row_step ra0.out hb1)
  have rb1 := Lib.hid (row_step rb0.out hb1)
  have rc1 := Lib.hid (row_step rc0.out hb1)
  clear hb1
  have rax0 := row_cell ra1.out 0
  have rax1 := row_cell ra1.out 1
  have rax2 := row_cell ra1.out 2
  simp only [List.getElem?_toArray, List.getElem?_cons_zero, List.getElem?_cons_succ] at rax0 rax1 rax2
  have ralt := row_lt ra1.out
  have rbx0 := row_cell rb1.out 0
  have rbx1 := row_cell rb1.out 1
  have rbx2 := row_cell rb1.out 2
  simp only [List.getElem?_toArray, List.getElem?_cons_zero, List.getElem?_cons_succ] at rbx0 rbx1 rbx2
  have rblt := row_lt rb1.out
  have rcx0 := row_cell rc1.out 0
  have rcx1 := row_cell rc1.out 1
  have rcx2 := row_cell rc1.out 2
  simp only [List.getElem?_toArray, List.getElem?_cons_zero, List.getElem?_cons_succ] at rcx0 rcx1 rcx2
  have rclt := row_lt rc1.out
  go_wp2_with fail
  go_at_call 11; refine (HAB.out _).mono ?_; rintro e w2 ⟨rfl, hb2⟩
  have H2 := Lib.hid (sid_step H1.out hb2)
  have ra2 := Lib.hid (row_step ra1.out hb2)
  have rb2 := Lib.hid (row_step rb1.out hb2)
  have rc2 := Lib.hid (row_step rc1.out hb2)
  clear hb2 rax0 rax1 rax2 rbx0 rbx1 rbx2 rcx0 rcx1 rcx2 ralt rblt rclt
  have rax0 := row_cell ra2.out 0
  have rax1 := row_cell ra2.out 1
  have rax2 := row_cell ra2.out 2
  simp only [List.getElem?_toArray, List.getElem?_cons_zero, List.getElem?_cons_succ] at rax0 rax1 rax2
  have ralt := row_lt ra2.out
  have rbx0 := row_cell rb2.out 0
  have rbx1 := row_cell rb2.out 1
  have rbx2 := row_cell rb2.out 2
  simp only [List.getElem?_toArray, List.getElem?_cons_zero, List.getElem?_cons_succ] at rbx0 rbx1 rbx2
  have rblt := row_lt rb2.out
  have rcx0 := row_cell rc2.out 0
  have rcx1 := row_cell rc2.out 1
  have rcx2 := row_cell rc2.out 2
  simp only [List.getElem?_toArray, List.getElem?_cons_zero, List.getElem?_cons_succ] at rcx0 rcx1 rcx2
  have rclt := row_lt rc2.out
  go_wp2_with fail
  go_at_call 11; refine (HAB.out _).mono ?_; rintro e w3 ⟨rfl, hb3⟩
  have H3 := Lib.hid (sid_step H2.out hb3)
  have ra3 := Lib.hid (row_step ra2.out hb3)
  have rb3 := Lib.hid (row_step rb2.out hb3)
  have rc3 := Lib.hid (row_step rc2.out hb3)
  clear hb3 rax0 rax1 rax2 rbx0 rbx1 rbx2 rcx0 rcx1 rcx2 ralt rblt rclt
  have rax0 := row_cell ra3.out 0
  have rax1 := row_cell ra3.out 1
  have rax2 := row_cell ra3.out 2
  simp only [List.getElem?_toArray, List.getElem?_cons_zero, List.getElem?_cons_succ] at rax0 rax1 rax2
  have ralt := row_lt ra3.out
  have rbx0 := row_cell rb3.out 0
  have rbx1 := row_cell rb3.out 1
  have rbx2 := row_cell rb3.out 2
  simp only [List.getElem?_toArray, List.getElem?_cons_zero, List.getElem?_cons_succ] at rbx0 rbx1 rbx2
  have rblt := row_lt rb3.out
  have rcx0 := row_cell rc3.out 0
  have rcx1 := row_cell rc3.out 1
  have rcx2 := row_cell rc3.out 2
  simp only [List.getElem?_toArray, List.getElem?_cons_zero, List.getElem?_cons_succ] at rcx0 rcx1 rcx2
  have rclt := row_lt rc3.out
  go_wp2_with fail
  go_at_call 11; refine (HBA.out _).mono ?_; rintro e w4 ⟨rfl, hb4⟩
  have H4 := Lib.hid (sid_step H3.out hb4)
  have ra4 := Lib.hid (row_step ra3.out hb4)
  have rb4 := Lib.hid (row_step rb3.out hb4)
  have rc4 := Lib.hid (row_step rc3.out hb4)
  clear hb4 rax0 rax1 rax2 rbx0 rbx1 rbx2 rcx0 rcx1 rcx2 ralt rblt rclt
  have rax0 := row_cell ra4.out 0
  have rax1 := row_cell ra4.out 1
  have rax2 := row_cell ra4.out 2
  simp only [List.getElem?_toArray, List.getElem?_cons_zero, List.getElem?_cons_succ] at rax0 rax1 rax2
  have ralt := row_lt ra4.out
  have rbx0 := row_cell rb4.out 0
  have rbx1 := row_cell rb4.out 1
  have rbx2 := row_cell rb4.out 2
  simp only [List.getElem?_toArray, List.getElem?_cons_zero, List.getElem?_cons_succ] at rbx0 rbx1 rbx2
  have rblt := row_lt rb4.out
  have rcx0 := row_cell rc4.out 0
  have rcx1 := row_cell rc4.out 1
  have rcx2 := row_cell rc4.out 2
  simp only [List.getElem?_toArray, List.getElem?_cons_zero, List.getElem?_cons_succ] at rcx0 rcx1 rcx2
  have rclt := row_lt rc4.out
  go_wp2_with fail
  go_at_call 14; refine (HR.out _).mono ?_; rintro e w5 ⟨rfl, hb5⟩
  have H5 := Lib.hid (sid_step H4.out hb5)
  have ra5 := Lib.hid (row_step ra4.out hb5)
  have rb5 := Lib.hid (row_step rb4.out hb5)
  have rc5 := Lib.hid (row_step rc4.out hb5)
  clear hb5 rax0 rax1 rax2 rbx0 rbx1 rbx2 rcx0 rcx1 rcx2 ralt rblt rclt
  have rax0 := row_cell ra5.out 0
  have rax1 := row_cell ra5.out 1
  have rax2 := row_cell ra5.out 2
  simp only [List.getElem?_toArray, List.getElem?_cons_zero, List.getElem?_cons_succ] at rax0 rax1 rax2
  have ralt := row_lt ra5.out
  have rbx0 := row_cell rb5.out 0
  have rbx1 := row_cell rb5.out 1
  have rbx2 := row_cell rb5.out 2
  simp only [List.getElem?_toArray, List.getElem?_cons_zero, List.getElem?_cons_succ] at rbx0 rbx1 rbx2
  have rblt := row_lt rb5.out
  have rcx0 := row_cell rc5.out 0
  have rcx1 := row_cell rc5.out 1
  have rcx2 := row_cell rc5.out 2
  simp only [List.getElem?_toArray, List.getElem?_cons_zero, List.getElem?_cons_succ] at rcx0 rcx1 rcx2
  have rclt := row_lt rc5.out
  go_wp2_with fail
  go_at_call 13; refine (HN.out _).mono ?_; rintro e w6 ⟨rfl, hb6⟩
  have H6 := Lib.hid (sid_step (sid_alloc H5.out _) hb6)
  have ra6 := Lib.hid (row_step (row_alloc_step ra5.out _) hb6)
  have rb6 := Lib.hid (row_step (row_alloc_step rb5.out _) hb6)
  have rc6 := Lib.hid (row_step (row_alloc_step rc5.out _) hb6)
  have rr6 := Lib.hid (row_step (row_alloc w5 #[.int .u32 a1, .int .u32 a2, .int .u16 0] 25) hb6)
  clear hb6 rax0 rax1 rax2 rbx0 rbx1 rbx2 rcx0 rcx1 rcx2 ralt rblt rclt
  have rax0 := row_cell ra6.out 0
  have rax1 := row_cell ra6.out 1
  have rax2 := row_cell ra6.out 2
  simp only [List.getElem?_toArray, List.getElem?_cons_zero, List.getElem?_cons_succ] at rax0 rax1 rax2
  have ralt := row_lt ra6.out
  have rbx0 := row_cell rb6.out 0
  have rbx1 := row_cell rb6.out 1
  have rbx2 := row_cell rb6.out 2
  simp only [List.getElem?_toArray, List.getElem?_cons_zero, List.getElem?_cons_succ] at rbx0 rbx1 rbx2
  have rblt := row_lt rb6.out
  have rcx0 := row_cell rc6.out 0
  have rcx1 := row_cell rc6.out 1
  have rcx2 := row_cell rc6.out 2
  simp only [List.getElem?_toArray, List.getElem?_cons_zero, List.getElem?_cons_succ] at rcx0 rcx1 rcx2
  have rclt := row_lt rc6.out
  have rrx0 := row_cell rr6.out 0
  have rrx1 := row_cell rr6.out 1
  have rrx2 := row_cell rr6.out 2
  simp only [List.getElem?_toArray, List.getElem?_cons_zero, List.getElem?_cons_succ] at rrx0 rrx1 rrx2
  have rrlt := row_lt rr6.out
  go_wp2_with fail
  go_at_call 11; refine (HRX.out _).mono ?_; rintro e v1 ⟨rfl, hv1⟩
  have G1 := Lib.hid (sid_step (sid_alloc (sid_alloc H6.out _) _) hv1)
  have qr := Lib.hid (row_step (row_alloc_step (row_alloc_step rr6.out _) _) hv1)
  clear hv1
  have q0 := row_cell qr.out 0
  have q1 := row_cell qr.out 1
  have q2 := row_cell qr.out 2
  simp only [List.getElem?_toArray, List.getElem?_cons_zero, List.getElem?_cons_succ] at q0 q1 q2
  go_wp2_with fail
  go_ret
  exact ⟨rfl, G1.out.2⟩
set_option maxRecDepth 100000 in
set_option maxHeartbeats 8000000 in
theorem lineD0 (a1 a2 a3 b1 b2 b3 c1 c2 c3 n : Int) (w : World) (hg : Good w) (hn0 : 0 ≤ n) (hn1 : n ≤ 255) (ha0 : 0 ≤ a2) (ha1 : a2 ≤ 4294967295) (t1 : lessT a1 a2 a3 a1 a2 a3 = false) (hm : ¬ a2 = 4294967295) : Calls Tryd.prog 5 #[.agg #[.int .u32 a1, .int .u32 a2, .int .u16 a3], .agg #[.int .u32 a1, .int .u32 a2, .int .u16 a3], .agg #[.int .u32 c1, .int .u32 c2, .int .u16 c3], .int .u8 n] w fun e w' => e = .returned (.bool true) ∧ Below w.heap.size w w' := by
  have HK := Lib.hid (fun (W : World) (h : Sid w W) => known_any W h.1)
  have HAB := Lib.hid (show ∀ W : World, Calls Tryd.prog 11 #[.agg #[.int .u32 a1, .int .u32 a2, .int .u16 a3], .agg #[.int .u32 a1, .int .u32 a2, .int .u16 a3]] W fun e w' => e = .returned (.bool false) ∧ Below W.heap.size W w' from fun W => by have h := pless_any a1 a2 a3 a1 a2 a3 W; rw [t1] at h; exact h)
  have HBA := Lib.hid (show ∀ W : World, Calls Tryd.prog 11 #[.agg #[.int .u32 a1, .int .u32 a2, .int .u16 a3], .agg #[.int .u32 a1, .int .u32 a2, .int .u16 a3]] W fun e w' => e = .returned (.bool false) ∧ Below W.heap.size W w' from fun W => by have h := pless_any a1 a2 a3 a1 a2 a3 W; rw [t1] at h; exact h)
  have HRX := Lib.hid (show ∀ W : World, Calls Tryd.prog 11 #[.agg #[.int .u32 a1, .int .u32 a2, .int .u16 0], .agg #[.int .u32 a1, .int .u32 a2, .int .u16 (n % 8 + 1)]] W fun e w' => e = .returned (.bool true) ∧ Below W.heap.size W w' from fun W => by have h := pless_any a1 a2 0 a1 a2 (n % 8 + 1) W; rw [(show lessT a1 a2 0 a1 a2 (n % 8 + 1) = true by unfold lessT; rw [decide_eq_true_eq]; omega)] at h; exact h)
  have HXN := Lib.hid (show ∀ W : World, Calls Tryd.prog 11 #[.agg #[.int .u32 a1, .int .u32 a2, .int .u16 (n % 8 + 1)], .agg #[.int .u32 a1, .int .u32 (a2 + 1), .int .u16 0]] W fun e w' => e = .returned (.bool true) ∧ Below W.heap.size W w' from fun W => by have h := pless_any a1 a2 (n % 8 + 1) a1 (a2 + 1) 0 W; rw [(show lessT a1 a2 (n % 8 + 1) a1 (a2 + 1) 0 = true by unfold lessT; rw [decide_eq_true_eq]; omega)] at h; exact h)
  have HR := Lib.hid (show ∀ W : World, Calls Tryd.prog 14 #[.agg #[.int .u32 a1, .int .u32 a2, .int .u16 a3]] W fun e w' => e = .returned (.agg #[.int .u32 a1, .int .u32 a2, .int .u16 0]) ∧ Below W.heap.size W w' from fun W => root_any a1 a2 a3 W)
  have HN := Lib.hid (show ∀ W : World, Calls Tryd.prog 13 #[.agg #[.int .u32 a1, .int .u32 a2, .int .u16 0], .int .i64 (n % 8 + 1)] W fun e w' => e = .returned (.tuple #[.agg #[.int .u32 a1, .int .u32 a2, .int .u16 (n % 8 + 1)], .bool true]) ∧ Below W.heap.size W w' from fun W => by have h := nested_any a1 a2 0 (n % 8 + 1) W; unfold nestV at h; rw [if_pos (by omega)] at h; exact h)
  have wn1 : n.tmod 8 = n % 8 := Int.tmod_eq_emod_of_nonneg hn0
  have wn2 : wrap64 (n % 8) = n % 8 := by unfold wrap64; omega
  have wn3 : wrap64 (n % 8 + 1) = n % 8 + 1 := by unfold wrap64; omega
  have wa : (a2 + 1) % 4294967296 = a2 + 1 := by omega
  have ba : (a2 == 4294967295) = false := by rw [beq_eq_false_iff_ne]; exact hm
  have H0 := Lib.hid (sid_alloc (sid_alloc (sid_alloc (sid_start hg) (.cells #[.int .u32 a1, .int .u32 a2, .int .u16 a3] 25)) (.cells #[.int .u32 a1, .int .u32 a2, .int .u16 a3] 25)) (.cells #[.int .u32 c1, .int .u32 c2, .int .u16 c3] 25))
  have ra0 := Lib.hid (row_alloc_step (row_alloc_step (row_alloc w #[.int .u32 a1, .int .u32 a2, .int .u16 a3] 25) (.cells #[.int .u32 a1, .int .u32 a2, .int .u16 a3] 25)) (.cells #[.int .u32 c1, .int .u32 c2, .int .u16 c3] 25))
  have rb := row_alloc_step (row_alloc (w.alloc (.cells #[.int .u32 a1, .int .u32 a2, .int .u16 a3] 25)) #[.int .u32 a1, .int .u32 a2, .int .u16 a3] 25) (.cells #[.int .u32 c1, .int .u32 c2, .int .u16 c3] 25)
  have rc := row_alloc ((w.alloc (.cells #[.int .u32 a1, .int .u32 a2, .int .u16 a3] 25)).alloc (.cells #[.int .u32 a1, .int .u32 a2, .int .u16 a3] 25)) #[.int .u32 c1, .int .u32 c2, .int .u16 c3] 25
  simp only [World.size_alloc] at rb rc
  have rb0 := Lib.hid rb
  have rc0 := Lib.hid rc
  clear rb rc hg hn0 hn1 ha0 ha1
  go_enter Tryd.func5, Tryd.ntmps5
  go_wp2_with fail
  go_at_call 6; refine (HK.out _ H0.out).mono ?_; rintro e w1 ⟨rfl, hb1⟩
  have H1 := Lib.hid (sid_step H0.out hb1)
  have ra1 := Lib.hid (row_step ra0.out hb1)
  have rb1 := Lib.hid (row_step rb0.out hb1)
  have rc1 := Lib.hid (row_step rc0.out hb1)
  clear hb1
  have rax0 := row_cell ra1.out 0
  have rax1 := row_cell ra1.out 1
  have rax2 := row_cell ra1.out 2
  simp only [List.getElem?_toArray, List.getElem?_cons_zero, List.getElem?_cons_succ] at rax0 rax1 rax2
  have ralt := row_lt ra1.out
  have rbx0 := row_cell rb1.out 0
  have rbx1 := row_cell rb1.out 1
  have rbx2 := row_cell rb1.out 2
  simp only [List.getElem?_toArray, List.getElem?_cons_zero, List.getElem?_cons_succ] at rbx0 rbx1 rbx2
  have rblt := row_lt rb1.out
  have rcx0 := row_cell rc1.out 0
  have rcx1 := row_cell rc1.out 1
  have rcx2 := row_cell rc1.out 2
  simp only [List.getElem?_toArray, List.getElem?_cons_zero, List.getElem?_cons_succ] at rcx0 rcx1 rcx2
  have rclt := row_lt rc1.out
  go_wp2_with fail
  go_at_call 11; refine (HAB.out _).mono ?_; rintro e w2 ⟨rfl, hb2⟩
  have H2 := Lib.hid (sid_step H1.out hb2)
  have ra2 := Lib.hid (row_step ra1.out hb2)
  have rb2 := Lib.hid (row_step rb1.out hb2)
  have rc2 := Lib.hid (row_step rc1.out hb2)
  clear hb2 rax0 rax1 rax2 rbx0 rbx1 rbx2 rcx0 rcx1 rcx2 ralt rblt rclt
  have rax0 := row_cell ra2.out 0
  have rax1 := row_cell ra2.out 1
  have rax2 := row_cell ra2.out 2
  simp only [List.getElem?_toArray, List.getElem?_cons_zero, List.getElem?_cons_succ] at rax0 rax1 rax2
  have ralt := row_lt ra2.out
  have rbx0 := row_cell rb2.out 0
  have rbx1 := row_cell rb2.out 1
  have rbx2 := row_cell rb2.out 2
  simp only [List.getElem?_toArray, List.getElem?_cons_zero, List.getElem?_cons_succ] at rbx0 rbx1 rbx2
  have rblt := row_lt rb2.out
  have rcx0 := row_cell rc2.out 0
  have rcx1 := row_cell rc2.out 1
  have rcx2 := row_cell rc2.out 2
  simp only [List.getElem?_toArray, List.getElem?_cons_zero, List.getElem?_cons_succ] at rcx0 rcx1 rcx2
  have rclt := row_lt rc2.out
  go_wp2_with fail
  go_at_call 11; refine (HAB.out _).mono ?_; rintro e w3 ⟨rfl, hb3⟩
  have H3 := Lib.hid (sid_step H2.out hb3)
  have ra3 := Lib.hid (row_step ra2.out hb3)
  have rb3 := Lib.hid (row_step rb2.out hb3)
  have rc3 := Lib.hid (row_step rc2.out hb3)
  clear hb3 rax0 rax1 rax2 rbx0 rbx1 rbx2 rcx0 rcx1 rcx2 ralt rblt rclt
  have rax0 := row_cell ra3.out 0
  have rax1 := row_cell ra3.out 1
  have rax2 := row_cell ra3.out 2
  simp only [List.getElem?_toArray, List.getElem?_cons_zero, List.getElem?_cons_succ] at rax0 rax1 rax2
  have ralt := row_lt ra3.out
  have rbx0 := row_cell rb3.out 0
  have rbx1 := row_cell rb3.out 1
  have rbx2 := row_cell rb3.out 2
  simp only [List.getElem?_toArray, List.getElem?_cons_zero, List.getElem?_cons_succ] at rbx0 rbx1 rbx2
  have rblt := row_lt rb3.out
  have rcx0 := row_cell rc3.out 0
  have rcx1 := row_cell rc3.out 1
  have rcx2 := row_cell rc3.out 2
  simp only [List.getElem?_toArray, List.getElem?_cons_zero, List.getElem?_cons_succ] at rcx0 rcx1 rcx2
  have rclt := row_lt rc3.out
  go_wp2_with fail
  go_at_call 11; refine (HBA.out _).mono ?_; rintro e w4 ⟨rfl, hb4⟩
  have H4 := Lib.hid (sid_step H3.out hb4)
  have ra4 := Lib.hid (row_step ra3.out hb4)
  have rb4 := Lib.hid (row_step rb3.out hb4)
  have rc4 := Lib.hid (row_step rc3.out hb4)
  clear hb4 rax0 rax1 rax2 rbx0 rbx1 rbx2 rcx0 rcx1 rcx2 ralt rblt rclt
  have rax0 := row_cell ra4.out 0
  have rax1 := row_cell ra4.out 1
  have rax2 := row_cell ra4.out 2
  simp only [List.getElem?_toArray, List.getElem?_cons_zero, List.getElem?_cons_succ] at rax0 rax1 rax2
  have ralt := row_lt ra4.out
  have rbx0 := row_cell rb4.out 0
  have rbx1 := row_cell rb4.out 1
  have rbx2 := row_cell rb4.out 2
  simp only [List.getElem?_toArray, List.getElem?_cons_zero, List.getElem?_cons_succ] at rbx0 rbx1 rbx2
  have rblt := row_lt rb4.out
  have rcx0 := row_cell rc4.out 0
  have rcx1 := row_cell rc4.out 1
  have rcx2 := row_cell rc4.out 2
  simp only [List.getElem?_toArray, List.getElem?_cons_zero, List.getElem?_cons_succ] at rcx0 rcx1 rcx2
  have rclt := row_lt rc4.out
  go_wp2_with fail
  go_at_call 14; refine (HR.out _).mono ?_; rintro e w5 ⟨rfl, hb5⟩
  have H5 := Lib.hid (sid_step H4.out hb5)
  have ra5 := Lib.hid (row_step ra4.out hb5)
  have rb5 := Lib.hid (row_step rb4.out hb5)
  have rc5 := Lib.hid (row_step rc4.out hb5)
  clear hb5 rax0 rax1 rax2 rbx0 rbx1 rbx2 rcx0 rcx1 rcx2 ralt rblt rclt
  have rax0 := row_cell ra5.out 0
  have rax1 := row_cell ra5.out 1
  have rax2 := row_cell ra5.out 2
  simp only [List.getElem?_toArray, List.getElem?_cons_zero, List.getElem?_cons_succ] at rax0 rax1 rax2
  have ralt := row_lt ra5.out
  have rbx0 := row_cell rb5.out 0
  have rbx1 := row_cell rb5.out 1
  have rbx2 := row_cell rb5.out 2
  simp only [List.getElem?_toArray, List.getElem?_cons_zero, List.getElem?_cons_succ] at rbx0 rbx1 rbx2
  have rblt := row_lt rb5.out
  have rcx0 := row_cell rc5.out 0
  have rcx1 := row_cell rc5.out 1
  have rcx2 := row_cell rc5.out 2
  simp only [List.getElem?_toArray, List.getElem?_cons_zero, List.getElem?_cons_succ] at rcx0 rcx1 rcx2
  have rclt := row_lt rc5.out
  go_wp2_with fail
  go_at_call 13; refine (HN.out _).mono ?_; rintro e w6 ⟨rfl, hb6⟩
  have H6 := Lib.hid (sid_step (sid_alloc H5.out _) hb6)
  have ra6 := Lib.hid (row_step (row_alloc_step ra5.out _) hb6)
  have rb6 := Lib.hid (row_step (row_alloc_step rb5.out _) hb6)
  have rc6 := Lib.hid (row_step (row_alloc_step rc5.out _) hb6)
  have rr6 := Lib.hid (row_step (row_alloc w5 #[.int .u32 a1, .int .u32 a2, .int .u16 0] 25) hb6)
  clear hb6 rax0 rax1 rax2 rbx0 rbx1 rbx2 rcx0 rcx1 rcx2 ralt rblt rclt
  have rax0 := row_cell ra6.out 0
  have rax1 := row_cell ra6.out 1
  have rax2 := row_cell ra6.out 2
  simp only [List.getElem?_toArray, List.getElem?_cons_zero, List.getElem?_cons_succ] at rax0 rax1 rax2
  have ralt := row_lt ra6.out
  have rbx0 := row_cell rb6.out 0
  have rbx1 := row_cell rb6.out 1
  have rbx2 := row_cell rb6.out 2
  simp only [List.getElem?_toArray, List.getElem?_cons_zero, List.getElem?_cons_succ] at rbx0 rbx1 rbx2
  have rblt := row_lt rb6.out
  have rcx0 := row_cell rc6.out 0
  have rcx1 := row_cell rc6.out 1
  have rcx2 := row_cell rc6.out 2
  simp only [List.getElem?_toArray, List.getElem?_cons_zero, List.getElem?_cons_succ] at rcx0 rcx1 rcx2
  have rclt := row_lt rc6.out
  have rrx0 := row_cell rr6.out 0
  have rrx1 := row_cell rr6.out 1
  have rrx2 := row_cell rr6.out 2
  simp only [List.getElem?_toArray, List.getElem?_cons_zero, List.getElem?_cons_succ] at rrx0 rrx1 rrx2
  have rrlt := row_lt rr6.out
  go_wp2_with fail
  go_at_call 11; refine (HRX.out _).mono ?_; rintro e v1 ⟨rfl, hv1⟩
  have G1 := Lib.hid (sid_step (sid_alloc (sid_alloc H6.out _) _) hv1)
  have qr := Lib.hid (row_step (row_alloc_step (row_alloc_step rr6.out _) _) hv1)
  have qx := Lib.hid (row_step (row_alloc_step (row_alloc w6 #[.int .u32 a1, .int .u32 a2, .int .u16 (n % 8 + 1)] 25) _) hv1)
  have qn := row_step (row_alloc (w6.alloc (.cells #[.int .u32 a1, .int .u32 a2, .int .u16 (n % 8 + 1)] 25)) #[.int .u32 a1, .int .u32 (a2 + 1), .int .u16 0] 25) hv1
  simp only [World.size_alloc] at qn
  have q0 := row_cell qr.out 0
  have q1 := row_cell qr.out 1
  have q2 := row_cell qr.out 2
  have x0 := row_cell qx.out 0
  have x1 := row_cell qx.out 1
  have x2 := row_cell qx.out 2
  have n0 := row_cell qn 0
  have n1 := row_cell qn 1
  have n2 := row_cell qn 2
  clear hv1 qn
  simp only [List.getElem?_toArray, List.getElem?_cons_zero, List.getElem?_cons_succ] at q0 q1 q2 x0 x1 x2 n0 n1 n2
  go_wp2_with fail
  go_at_call 11; refine (HXN.out _).mono ?_; rintro e v2 ⟨rfl, hv2⟩
  have G2 := Lib.hid (sid_step G1.out hv2)
  clear hv2
  go_wp2_with fail
  go_ret
  exact ⟨rfl, G2.out.2⟩
theorem line_law (a1 a2 a3 b1 b2 b3 c1 c2 c3 n : Int) (w : World) (hg : Good w) (hn0 : 0 ≤ n) (hn1 : n ≤ 255) (ha0 : 0 ≤ a2) (ha1 : a2 ≤ 4294967295) : Calls Tryd.prog 5 #[Id a1 a2 a3, Id b1 b2 b3, Id c1 c2 c3, .int .u8 n] w fun e w' => e = .returned (.bool true) ∧ Below w.heap.size w w' := by
  unfold Id
  by_cases hm : a2 = 4294967295
  · cases t1 : lessT a1 a2 a3 b1 b2 b3 with
    | true => cases t2 : lessT b1 b2 b3 c1 c2 c3 with
      | true => exact lineA1 a1 a2 a3 b1 b2 b3 c1 c2 c3 n w hg hn0 hn1 ha0 ha1 t1 t2 (by unfold lessT at t1 t2 ⊢; rw [decide_eq_true_eq] at t1 t2 ⊢; omega) hm
      | false => exact lineB1 a1 a2 a3 b1 b2 b3 c1 c2 c3 n w hg hn0 hn1 ha0 ha1 t1 t2 hm
    | false => cases t4 : lessT b1 b2 b3 a1 a2 a3 with
      | true => exact lineC1 a1 a2 a3 b1 b2 b3 c1 c2 c3 n w hg hn0 hn1 ha0 ha1 t1 t4 hm
      | false =>
        have e : a1 = b1 ∧ a2 = b2 ∧ a3 = b3 := by
          have k1 := t1
          have k4 := t4
          unfold lessT at k1 k4
          rw [decide_eq_false_iff_not] at k1 k4
          omega
        obtain ⟨e1, e2, e3⟩ := e
        subst e1
        subst e2
        subst e3
        exact lineD1 a1 a2 a3 a1 a2 a3 c1 c2 c3 n w hg hn0 hn1 ha0 ha1 t1 hm
  · cases t1 : lessT a1 a2 a3 b1 b2 b3 with
    | true => cases t2 : lessT b1 b2 b3 c1 c2 c3 with
      | true => exact lineA0 a1 a2 a3 b1 b2 b3 c1 c2 c3 n w hg hn0 hn1 ha0 ha1 t1 t2 (by unfold lessT at t1 t2 ⊢; rw [decide_eq_true_eq] at t1 t2 ⊢; omega) hm
      | false => exact lineB0 a1 a2 a3 b1 b2 b3 c1 c2 c3 n w hg hn0 hn1 ha0 ha1 t1 t2 hm
    | false => cases t4 : lessT b1 b2 b3 a1 a2 a3 with
      | true => exact lineC0 a1 a2 a3 b1 b2 b3 c1 c2 c3 n w hg hn0 hn1 ha0 ha1 t1 t4 hm
      | false =>
        have e : a1 = b1 ∧ a2 = b2 ∧ a3 = b3 := by
          have k1 := t1
          have k4 := t4
          unfold lessT at k1 k4
          rw [decide_eq_false_iff_not] at k1 k4
          omega
        obtain ⟨e1, e2, e3⟩ := e
        subst e1
        subst e2
        subst e3
        exact lineD0 a1 a2 a3 a1 a2 a3 c1 c2 c3 n w hg hn0 hn1 ha0 ha1 t1 hm
end Num
end Go.Proofs.YtbodakfgoijeeaaDoor
