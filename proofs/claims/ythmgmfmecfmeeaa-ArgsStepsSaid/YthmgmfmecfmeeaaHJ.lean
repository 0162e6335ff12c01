/-
  Stage 7's known: methods there and not.
-/
import Derived.Test.YthmgmfmecfmeeaaHF
import Derived.Test.YthmgmfmecfmeeaaHG
import Derived.Test.YthmgmfmecfmeeaaHI
namespace Go.Proofs.Ythmgmfmecfmeeaa
open Go.RowKit
namespace Num
open Ints
set_option linter.unusedSimpArgs false
set_option linter.unusedVariables false
theorem strL_vs (w : World) (L : List ByteArray) (t : TypeId) (hL : L.length ≤ 100) (cs : Array Value) (hcs : cs = (strVs L).toArray) : StrL (w.alloc (.cells cs t)) (some ⟨w.heap.size, 0, none⟩) L.length L.length L := hcs ▸ strL_lit w L t hL
theorem start_q {w : World} {T : VT 2} {B : Bool} {e : Ending} {w' : World} (h : StartP w T B e w') : ∃ (K I : Int) (F : Nat) (S : ByteArray) (p : Option Addr) (c : Nat), e = .returned (.tuple #[.agg #[.int .i64 K, .int .i64 I, .float .f64 F, .string S, .slice p T.2.2.2.2.length c], .bool B]) ∧ Rep w' 2 (.agg #[.int .i64 K, .int .i64 I, .float .f64 F, .string S, .slice p T.2.2.2.2.length c]) T ∧ Below w.heap.size w w' := by
  obtain ⟨v0, v1, v2, v3, v4, rfl, hr, hb⟩ := h
  have hr' := hr
  obtain ⟨p, l, c, hv, _, _, _, _, hl, _⟩ := hr'
  injection hv with hv
  simp only [Array.mk.injEq, List.cons.injEq, and_true] at hv
  obtain ⟨rfl, rfl, rfl, rfl, rfl⟩ := hv
  subst hl
  exact ⟨_, _, _, _, _, _, rfl, hr, hb⟩
def qL : List ByteArray := [{ data := #[108, 101, 110] }, { data := #[110, 116, 104] }, { data := #[112, 101, 101, 107] }, { data := #[112, 111, 112] }, { data := #[112, 117, 115, 104] }]
theorem q_names : (metas { data := #[113, 117, 101, 117, 101] }).map (fun x => x.1) = qL := by rfl
theorem chk_q0 : chkA { data := #[113, 117, 101, 117, 101] } { data := #[112, 117, 115, 104] } 0 [] = 31 := by decide +kernel
theorem chk_q1 : chkA { data := #[113, 117, 101, 117, 101] } { data := #[112, 117, 115, 104] } 0 [bare 0 0] = 0 := by decide +kernel
theorem wr_pop : wrS { data := #[112, 111, 112] } (metas { data := #[113, 117, 101, 117, 101] }) = true := by decide +kernel
theorem wr_len : wrS { data := #[108, 101, 110] } (metas { data := #[113, 117, 101, 117, 101] }) = false := by decide +kernel
theorem start_cnt : startT { data := #[99, 111, 117, 110, 116, 101, 114] } = cntT ∧ startB { data := #[99, 111, 117, 110, 116, 101, 114] } = true := ⟨rfl, rfl⟩
theorem start_nope : startB { data := #[110, 111, 112, 101] } = false := by decide +kernel
theorem good_q1 : GoodL 0 [bare 0 0] := fun T hT => by
  rw [List.mem_singleton] at hT
  subst hT
  exact ⟨by decide +kernel, by decide +kernel⟩
theorem repl_q1 (w : World) (t : TypeId) (h : okI 0) : RepL (w.alloc (.cells #[.int .i64 0, .int .i64 0, .float .f64 0, .string ⟨#[]⟩, .slice none 0 0] t)) (Rep (w.alloc (.cells #[.int .i64 0, .int .i64 0, .float .f64 0, .string ⟨#[]⟩, .slice none 0 0] t)) 1) (some ⟨w.heap.size, 0, none⟩) 1 1 [bare 0 0] := by
  refine ⟨rfl, Nat.le_refl _, by unfold maxLen; decide, fun _ => ⟨_, 0, rfl, fun i hi => ?_⟩⟩
  have hr := row_alloc w #[.int .i64 0, .int .i64 0, .float .f64 0, .string ⟨#[]⟩, .slice none 0 0] t
  match i, hi with
  | 0, _ => exact ⟨_, _, _, _, _, row_cell hr _, row_cell hr _, row_cell hr _, row_cell hr _, row_cell hr _, rep_bare _ 0 0 h⟩
set_option maxRecDepth 100000 in
set_option maxHeartbeats 8000000 in
theorem known7 (w : World) : Calls Try.prog 7 #[] w fun e w' => e = .returned (.bool true) ∧ Below w.heap.size w w' := by
  have HS1 := Lib.hid (fun W => (pstart_any { data := #[99, 111, 117, 110, 116, 101, 114] } W).mono fun _ _ h => start_q h)
  rw [start_cnt.1, start_cnt.2] at HS1
  have HS2 := Lib.hid (fun W => (pstart_any { data := #[110, 111, 112, 101] } W).mono fun _ _ h => start_q h)
  rw [start_nope] at HS2
  have HM := Lib.hid (fun W => methods_any { data := #[113, 117, 101, 117, 101] } W)
  rw [q_names] at HM
  have HC0 := Lib.hid (fun W => check_args { data := #[113, 117, 101, 117, 101] } { data := #[112, 117, 115, 104] } 0 none 0 0 [] W ⟨rfl, Nat.le_refl _, Nat.zero_le _, fun h => absurd h (Nat.lt_irrefl _)⟩ (fun T h => absurd h List.not_mem_nil))
  rw [chk_q0] at HC0
  have HC1 := Lib.hid (fun W => check_args { data := #[113, 117, 101, 117, 101] } { data := #[112, 117, 115, 104] } 0 (some ⟨W.heap.size, 0, none⟩) 1 1 [bare 0 0] (W.alloc (.cells #[.int .i64 0, .int .i64 0, .float .f64 0, .string ⟨#[]⟩, .slice none 0 0] 29)) (repl_q1 W _ ok0) good_q1)
  rw [chk_q1] at HC1
  have HW1 := Lib.hid (fun W => writes_any { data := #[113, 117, 101, 117, 101] } { data := #[112, 111, 112] } W)
  rw [wr_pop] at HW1
  have HW2 := Lib.hid (fun W => writes_any { data := #[113, 117, 101, 117, 101] } { data := #[108, 101, 110] } W)
  rw [wr_len] at HW2
  go_enter Try.func7, Try.ntmps7
  go_wp2_with fail
  go_at_call 10; refine (HS1.out _).mono ?_; rintro e w1 ⟨K, I, F, S, p, c, rfl, _, hb1⟩
  rw [show cntT.2.2.2.2.length = 2 from rfl]
  have HB1 := Lib.hid (bel_alloc hb1 (.cells #[.int .i64 K, .int .i64 I, .float .f64 F, .string S, .slice p 2 c] 29))
  have HR1 := Lib.hid (row_alloc w1 #[.int .i64 K, .int .i64 I, .float .f64 F, .string S, .slice p 2 c] 29)
  clear hb1
  go_wp2_with fail
  go_at_call 10; refine (HS2.out _).mono ?_; rintro e w2 ⟨K2, I2, F2, S2, p2, c2, rfl, _, hb2⟩
  obtain ⟨l2, hl2⟩ : ∃ l2, (startT { data := #[110, 111, 112, 101] }).2.2.2.2.length = l2 := ⟨_, rfl⟩
  rw [hl2]
  clear hl2
  have HB2 := Lib.hid (bel_alloc (bel_step HB1.out hb2) (.cells #[.int .i64 K2, .int .i64 I2, .float .f64 F2, .string S2, .slice p2 l2 c2] 29))
  have HR2 := Lib.hid (row_alloc_step (row_step HR1.out hb2) (.cells #[.int .i64 K2, .int .i64 I2, .float .f64 F2, .string S2, .slice p2 l2 c2] 29))
  clear hb2
  go_wp2_with fail
  go_at_call 9; refine (HM.out _).mono ?_; rintro e w3 ⟨q, m, d, rfl, hs3, hb3⟩
  obtain rfl : m = 5 := hs3.1.symm
  have HB3 := Lib.hid (bel_step HB2.out hb3)
  have HR3 := Lib.hid (row_step HR2.out hb3)
  have HS3 := Lib.hid (strL_keep hs3 (bel_alloc (Below.refl _ _) (.cells (strVs qL).toArray 9)))
  have HL3 := Lib.hid (strL_vs w3 qL 9 (by decide) _ rfl)
  clear hs3 hb3 HS1 HS2 HB1 HB2 HR1 HR2
  go_wp2_with fail
  go_at_call 12; refine (strings_yes _ _ _ 5 _ 5 qL HS3.out HL3.out).mono ?_; rintro e w4 ⟨rfl, hb4⟩
  have HB4 := Lib.hid (bel_step (bel_alloc HB3.out _) hb4)
  have HR4 := Lib.hid (row_step (row_alloc_step HR3.out _) hb4)
  clear hb4
  go_wp2_with fail
  go_at_call 13; refine (pcls_any _).mono ?_; rintro e w5 ⟨rfl, _, hb5⟩
  have HB5 := Lib.hid (bel_step HB4.out hb5)
  have HR5 := Lib.hid (row_step HR4.out hb5)
  clear hb5
  go_wp2_with fail
  go_at_call 20; refine (HC0.out _).mono ?_; rintro e w6 ⟨rfl, hb6⟩
  have HB6 := Lib.hid (bel_step HB5.out hb6)
  have HR6 := Lib.hid (row_step HR5.out hb6)
  clear hb6
  go_wp2_with fail
  go_at_call 20; refine (HC1.out _).mono ?_; rintro e w7 ⟨rfl, hb7⟩
  have HB7 := Lib.hid (bel_step (bel_alloc HB6.out _) hb7)
  have HR7 := Lib.hid (row_step (row_alloc_step HR6.out _) hb7)
  clear hb7
  go_wp2_with fail
  go_at_call 17; refine (HW1.out _).mono ?_; rintro e w8 ⟨rfl, hb8⟩
  have HB8 := Lib.hid (bel_step HB7.out hb8)
  have HR8 := Lib.hid (row_step HR7.out hb8)
  clear hb8
  go_wp2_with fail
  go_at_call 17; refine (HW2.out _).mono ?_; rintro e w9 ⟨rfl, hb9⟩
  have HB9 := Lib.hid (bel_step HB8.out hb9)
  have c4 := row_cell (row_step HR8.out hb9) 4
  simp only [List.getElem?_toArray, List.getElem?_cons_zero, List.getElem?_cons_succ] at c4
  clear hb9
  go_wp2
  go_ret
  exact ⟨rfl, HB9.out⟩
end Num
end Go.Proofs.Ythmgmfmecfmeeaa
