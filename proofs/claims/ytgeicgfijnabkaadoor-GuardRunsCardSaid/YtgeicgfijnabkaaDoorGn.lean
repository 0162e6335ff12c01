/-
  known14: a panic, and none.
-/
import Derived.Test.YtgeicgfijnabkaaDoorGm
import Derived.Test.YtgeicgfijnabkaaDoorGe
namespace Go.Proofs.YtgeicgfijnabkaaDoor
open Go.RowKit
namespace Num
open Ints
set_option linter.unusedSimpArgs false
set_option linter.unusedVariables false
theorem re_size (m : ByteArray) : 15 ≤ (reB ++ m).size := by
  have h : (reB ++ m).size = reB.size + m.size := ByteArray.size_append
  have h2 : reB.size = 15 := rfl
  omega
theorem re_14 (m : ByteArray) : (reB ++ m).extract 0 14 = ⟨#[114, 117, 110, 116, 105, 109, 101, 32, 101, 114, 114, 111, 114, 58]⟩ := by
  apply ByteArray.ext
  rw [ByteArray.data_extract, ByteArray.data_append]
  simp [reB]
theorem as_10 : asB.extract 0 10 = ⟨#[97, 115, 115, 105, 103, 110, 109, 101, 110, 116]⟩ := by decide +kernel
theorem rep_int (w : World) (i : Int) (hi : okI i) : Rep w 1 (.agg #[.int .i64 1, .int .i64 i, .float .f64 0, .string ⟨#[]⟩, .slice none 0 0]) (1, i, 0, ⟨#[]⟩, []) :=
  ⟨none, 0, 0, rfl, (show okI 1 by decide), hi, (show (0 : Nat) < 2 ^ 64 by decide), (show (⟨#[]⟩ : ByteArray).size ≤ maxLen by decide), rfl, Nat.le_refl _, Nat.zero_le _, fun h => absurd h (Nat.lt_irrefl _)⟩
theorem int_told {w : World} {i : Int} {v' : Value} {T' : VT 1} (hr : Rep w 1 v' T') (ht : T' = (1, i, 0, ⟨#[]⟩, []) ∨ T' = gcT 1 (1, i, 0, ⟨#[]⟩, [])) : ∃ p c, v' = .agg #[.int .i64 1, .int .i64 i, .float .f64 0, .string ⟨#[]⟩, .slice p 0 c] := by
  have e : T' = (1, i, 0, ⟨#[]⟩, []) := by
    rcases ht with h | h
    · exact h
    · exact h
  subst e
  obtain ⟨p, l, c, rfl, _, _, _, _, hl, _⟩ := hr
  obtain rfl : 0 = l := hl
  exact ⟨p, c, rfl⟩
theorem run_told_int (i : Int) (hi : okI i) (b0 b1 : Nat) (w : World) (r0 : w.heap[b0]? = some (.cells #[.int .i64 1, .int .i64 i, .float .f64 0, .string ⟨#[]⟩, .slice none 0 0] 25 (0, 0))) (r1 : w.heap[b1]? = some (.cells #[.int .i64 0] 3 (0, 0))) :
    Calls Tryd.prog 9 #[.func (.func 28) #[] #[.pointer (some ⟨b0, 0, none⟩), .pointer (some ⟨b1, 0, none⟩)]] w fun e w' => ∃ p c, e = .returned (.tuple #[.agg #[.int .i64 1, .int .i64 i, .float .f64 0, .string ⟨#[]⟩, .slice p 0 c], .int .i64 0]) ∧ Below w.heap.size w w' :=
  (run_told_ok 1 i 0 ⟨#[]⟩ none 0 0 1 (1, i, 0, ⟨#[]⟩, []) b0 b1 w r0 r1 (rep_int w i hi) wide_nil).mono fun e w' ⟨v', T', he, hb, hr, ht⟩ => by
    obtain ⟨p, c, rfl⟩ := int_told hr ht
    exact ⟨p, c, he, hb⟩
set_option maxRecDepth 100000 in
set_option maxHeartbeats 4000000 in
theorem known1_raises (w : World) : Calls Tryd.prog 21 #[] w fun e w' => (∃ u pv, e = .panicked [{ v := .iface u pv, recovered := false }] ∧ Pan 0 u pv) ∧ Kept [] w w' ∧ True := by
  go_enter Tryd.func21, Tryd.ntmps21
  go_wp2_with fail
  go_at_call 18; refine (raise_any 0 ⟨#[120]⟩ 0 _ (by decide) (Int.le_refl _)).mono ?_; rintro e w5 ⟨⟨u, pv, rfl, hp⟩, hb5⟩
  exact ⟨rfl, ⟨_, _, rfl, hp⟩, kept_below hb5, trivial⟩
theorem known2_idle (w : World) : Calls Tryd.prog 22 #[] w fun e w' => e = .returned (.tuple #[]) ∧ Kept [] w w' ∧ True := by
  go_enter Tryd.func22, Tryd.ntmps22
  go_wp2
  go_end0
  exact ⟨rfl, kept_refl _ _, trivial⟩
theorem told_known1 (w : World) : Calls Tryd.prog 16 #[.func (.func 21) #[] #[]] w fun e w' => ∃ t, e = .returned (.tuple #[.string t, .bool true]) ∧ TellOk 0 t ∧ Below w.heap.size w w' :=
  told_pan 0 _ w (Lib.hid ((caught_pan_known1 [] (Pan 0) (fun _ => True) w (fun k hk => absurd hk List.not_mem_nil) (Lib.hid (stab_true _)) (Lib.hid (fun W _ => known1_raises W))).mono fun e w' ⟨h, hk, _⟩ => ⟨h, kept_nil hk⟩))
theorem told_known2 (w : World) : Calls Tryd.prog 16 #[.func (.func 22) #[] #[]] w fun e w' => e = .returned (.tuple #[.string ⟨#[]⟩, .bool false]) ∧ Below w.heap.size w w' :=
  told_none _ w (Lib.hid ((caught_ret_known2 [] (fun _ => True) w (fun k hk => absurd hk List.not_mem_nil) (Lib.hid (stab_true _)) (Lib.hid (fun W _ => known2_idle W))).mono fun e w' ⟨h, hk, _⟩ => ⟨h, kept_nil hk⟩))
theorem told_row (K I : Int) (F : Nat) (S : ByteArray) (q : Option Addr) (m d : Nat) (x : Int) (w : World) : Calls Tryd.prog 10 #[.agg #[.int .i64 K, .int .i64 I, .float .f64 F, .string S, .slice q m d], .int .i64 x] w fun e w' => ∃ b0 b1, e = .returned (.func (.func 28) #[] #[.pointer (some ⟨b0, 0, none⟩), .pointer (some ⟨b1, 0, none⟩)]) ∧ Below w.heap.size w w' ∧ w'.heap[b0]? = some (.cells #[.int .i64 K, .int .i64 I, .float .f64 F, .string S, .slice q m d] 25 (0, 0)) ∧ w'.heap[b1]? = some (.cells #[.int .i64 x] 3 (0, 0)) :=
  (told_mk K I F S q m d x w).mono fun e w' ⟨he, hw⟩ => by
    subst hw
    have h := row_alloc (w.alloc (.cells #[.int .i64 K, .int .i64 I, .float .f64 F, .string S, .slice q m d] 25)) #[.int .i64 x] 3
    rw [World.size_alloc] at h
    exact ⟨_, _, he, bel_alloc (bel_alloc (Below.refl _ _) _) _, row_alloc_step (row_alloc _ _ _) _, h⟩
theorem rises_row (h : Int) (S : ByteArray) (x : Int) (w : World) : Calls Tryd.prog 13 #[.int .u8 h, .string S, .int .i64 x] w fun e w' => ∃ b0 b1 b2, e = .returned (.func (.func 33) #[] #[.pointer (some ⟨b0, 0, none⟩), .pointer (some ⟨b1, 0, none⟩), .pointer (some ⟨b2, 0, none⟩)]) ∧ Below w.heap.size w w' ∧
    w'.heap[b0]? = some (.cells #[.int .u8 h] 5 (0, 0)) ∧ w'.heap[b1]? = some (.cells #[.string S] 9 (0, 0)) ∧ w'.heap[b2]? = some (.cells #[.int .i64 x] 3 (0, 0)) :=
  (rises_mk h S x w).mono fun e w' ⟨he, hw⟩ => by
    subst hw
    have h1 := row_alloc_step (row_alloc (w.alloc (.cells #[.int .u8 h] 5)) #[.string S] 9) (.cells #[.int .i64 x] 3)
    have h2 := row_alloc ((w.alloc (.cells #[.int .u8 h] 5)).alloc (.cells #[.string S] 9)) #[.int .i64 x] 3
    simp only [World.size_alloc] at h1 h2
    exact ⟨_, _, _, he, bel_alloc (bel_alloc (bel_alloc (Below.refl _ _) _) _) _, row_alloc_step (row_alloc_step (row_alloc _ _ _) _) _, h1, h2⟩
set_option maxRecDepth 100000 in
set_option maxHeartbeats 4000000 in
theorem known_any (w : World) : Calls Tryd.prog 7 #[] w fun e w' => e = .returned (.bool true) ∧ Below w.heap.size w w' := by
  go_enter Tryd.func7, Tryd.ntmps7
  go_wp2_with fail
  go_at_call 20; refine (int_ref_any 3 _).mono ?_; rintro e w1 ⟨rfl, hb1⟩
  have HB1 := Lib.hid hb1
  clear hb1
  go_wp2_with fail
  go_at_call 10; refine (told_row 1 3 0 ⟨#[]⟩ none 0 0 0 w1).mono ?_; rintro e w2 ⟨b0, b1, rfl, hb2, q0, q1⟩
  have HB2 := Lib.hid (bel_step HB1.out hb2)
  have HRUN := Lib.hid (run_told_int 3 (by decide) b0 b1 w2 q0 q1)
  clear hb2 q0 q1
  go_wp2_with fail
  go_at_call 9; refine HRUN.out.mono ?_; rintro e w3 ⟨p, c, rfl, hb3⟩
  have HB3 := Lib.hid (bel_alloc (bel_step HB2.out hb3) (.cells #[.int .i64 1, .int .i64 3, .float .f64 0, .string ⟨#[]⟩, .slice p 0 c] 25))
  have HV3 := Lib.hid (row_alloc w3 #[.int .i64 1, .int .i64 3, .float .f64 0, .string ⟨#[]⟩, .slice p 0 c] 25)
  clear hb3
  go_wp2_with fail
  go_at_call 13; refine (rises_row 0 ⟨#[120]⟩ 0 _).mono ?_; rintro e w4 ⟨b2, b3, b4, rfl, hb4, q0, q1, q2⟩
  have HB4 := Lib.hid (bel_step HB3.out hb4)
  have HV4 := Lib.hid (row_step HV3.out hb4)
  have HRU2 := Lib.hid (run_rises 0 ⟨#[120]⟩ 0 b2 b3 b4 w4 (by decide) (Int.le_refl _) q0 q1 q2)
  clear hb4 q0 q1 q2
  go_wp2_with fail
  go_at_call 9; refine HRU2.out.mono ?_; rintro e w5 ⟨rfl, hb5⟩
  have HB5 := Lib.hid (bel_alloc (bel_step HB4.out hb5) (.cells #[.int .i64 0, .int .i64 0, .float .f64 0, .string ⟨#[]⟩, .slice none 0 0] 25))
  have HV5 := Lib.hid (row_alloc_step (row_step HV4.out hb5) (.cells #[.int .i64 0, .int .i64 0, .float .f64 0, .string ⟨#[]⟩, .slice none 0 0] 25))
  clear hb5
  go_wp2_with fail
  go_at_call 16; refine (told_known1 _).mono ?_; rintro e w6 ⟨t, rfl, ht, hb6⟩
  have HB6 := Lib.hid (bel_step HB5.out hb6)
  have HV6 := Lib.hid (row_step HV5.out hb6)
  have HT := Lib.hid ht
  clear hb6 ht
  go_wp2_with fail
  go_at_call 16; refine (told_known2 _).mono ?_; rintro e w7 ⟨rfl, hb7⟩
  have HB7 := Lib.hid (bel_step HB6.out hb7)
  have hv7 := row_step HV6.out hb7
  have c1 := row_cell hv7 1
  simp only [List.getElem?_toArray, List.getElem?_cons_zero, List.getElem?_cons_succ] at c1
  obtain ⟨m, hm⟩ : ∃ m, t = reB ++ m := by
    rcases HT.out with ⟨h, _⟩ | ⟨_, h⟩
    · exact absurd h (by decide)
    · exact h
  have t0 : (14 : Int) ≤ (t.size : Int) := by rw [hm]; have := re_size m; omega
  have t1 : (14 : Int) < (t.size : Int) := by rw [hm]; have := re_size m; omega
  have t2 : t.extract 0 14 = ⟨#[114, 117, 110, 116, 105, 109, 101, 32, 101, 114, 114, 111, 114, 58]⟩ := by rw [hm]; exact re_14 m
  clear hb7 hv7 hm
  go_wp2
  go_ret
  exact ⟨rfl, HB7.out⟩
end Num
end Go.Proofs.YtgeicgfijnabkaaDoor
