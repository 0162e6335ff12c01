/-
  The reference's Put behind bytes of the call's own, or onto a slice without room.
-/
import Derived.Test.YtbodakfgoijeeaaMU
namespace Go.Proofs.Ytbodakfgoijeeaa
open Go.RowKit
namespace Num
open Ints
set_option linter.unusedSimpArgs false
set_option linter.unusedVariables false
theorem good_parts {n : Nat} {T : VT n} (hc : rcheckT n T = 0) : kindsT n T = true ∧ greatT n 0 T = false ∧ (encV n T).length ≤ 4096 := by
  have hk : kindsT n T = true := by
    unfold rcheckT at hc
    cases h : kindsT n T
    · rw [if_pos h] at hc; cases hc
    · rfl
  have hgs : greatT n 0 T = false ∧ sizeT n T ≤ 4096 := by
    unfold rcheckT at hc
    rw [if_neg (by rw [hk]; decide)] at hc
    by_cases h : (greatT n 0 T || decide (4096 < sizeT n T)) = true
    · rw [if_pos h] at hc; cases hc
    · simp only [Bool.or_eq_true, decide_eq_true_eq, not_or, Bool.not_eq_true] at h
      exact ⟨h.1, by omega⟩
  exact ⟨hk, hgs.1, by have := (enc_len n 0 T hk hgs.1 (by omega)).1; omega⟩
def PutIn (n : Nat) (W0 w : World) (l : Nat) (X : List Int) (T : VT n) (e : Ending) (w' : World) : Prop := ∃ p' c', e = .returned (.tuple #[.slice p' (l + (encV n T).length) c', .int .i64 0]) ∧ OwB W0 w' p' (l + (encV n T).length) c' (X ++ encV n T) ∧ KeepV w w'
set_option maxHeartbeats 1000000 in
theorem rput_good (n : Nat) (W0 w : World) (p : Option Addr) (l c : Nat) (X : List Int) (v : Value) (T : VT n) (hr : Rep W0 n v T) (hb : InB W0 w p l c X) (hl : l ≤ 800000) (hc : rcheckT n T = 0) : Calls Try.prog 7 #[.slice p l c, v] w (PutIn n W0 w l X T) := by
  have hshape : ∃ (K I : Int) (F : Nat) (S : ByteArray) (q : Option Addr) (m d : Nat), v = .agg #[.int .i64 K, .int .i64 I, .float .f64 F, .string S, .slice q m d] := by
    cases n with
    | zero => exact hr.elim
    | succ n => obtain ⟨q, m, d, rfl, _⟩ := hr; exact ⟨_, _, _, _, q, m, d, rfl⟩
  obtain ⟨K, I, F, S, q, m, d, rfl⟩ := hshape
  have HR0 := Lib.hid hr
  have HR := Lib.hid (rep_keep (bel_alloc (in_bel hb) (.cells #[.int .i64 K, .int .i64 I, .float .f64 F, .string S, .slice q m d] 26)) _ _ _ hr)
  have HI := Lib.hid (in_keep hb ((Below.refl w.heap.size w).alloc (Nat.le_refl _) (.cells #[.int .i64 K, .int .i64 I, .float .f64 F, .string S, .slice q m d] 26)))
  have HKV := Lib.hid (kv_alloc w (.cells #[.int .i64 K, .int .i64 I, .float .f64 F, .string S, .slice q m d] 26))
  have RB := Lib.hid (row_alloc w #[.int .i64 K, .int .i64 I, .float .f64 F, .string S, .slice q m d] 26)
  have HS := Lib.hid (good_parts hc).2.2
  have HC := Lib.hid hc
  clear hr hb hc
  go_enter Try.func7, Try.ntmps7
  go_wp2_with fail
  go_at_call 19; refine (rcheck_any n _ T _ HR.out).mono ?_; rintro e w1 ⟨rfl, hb1⟩
  rw [HC.out]
  have HI1 := Lib.hid (in_keep HI.out hb1)
  have HK1 := Lib.hid (kv_trans HKV.out (kv_bel hb1))
  have hr1 := row_step RB.out hb1
  have d0 := row_cell hr1 0; have d1 := row_cell hr1 1; have d2 := row_cell hr1 2; have d3 := row_cell hr1 3; have d4 := row_cell hr1 4
  simp only [List.getElem?_toArray, List.getElem?_cons_zero, List.getElem?_cons_succ] at d0 d1 d2 d3 d4
  clear hb1 hr1
  go_wp2_with fail
  go_at_call 20; refine (put_any n _ T W0 w1 p l c X HR0.out HI1.out (by have := HS.out; omega)).mono ?_; rintro e w2 ⟨p2, c2, rfl, ho2, hk2⟩
  have HP := Lib.hid (show PutIn n W0 w l X T (.returned (.tuple #[.slice p2 (l + (encV n T).length) c2, .int .i64 0])) w2 from ⟨p2, c2, rfl, ho2, kv_trans HK1.out hk2⟩)
  clear ho2 hk2
  generalize l + (encV n T).length = l2 at *
  clear d0 d1 d2 d3 d4
  go_wp2
  go_ret2
  exact HP.out
set_option maxHeartbeats 1000000 in
theorem rput_bad (n : Nat) (w : World) (p : Option Addr) (l c : Nat) (v : Value) (T : VT n) (hr : Rep w n v T) (hc : ¬ rcheckT n T = 0) : Calls Try.prog 7 #[.slice p l c, v] w fun e w' => e = .returned (.tuple #[.slice none 0 0, .int .i64 (rcheckT n T)]) ∧ Below w.heap.size w w' := by
  have hshape : ∃ (K I : Int) (F : Nat) (S : ByteArray) (q : Option Addr) (m d : Nat), v = .agg #[.int .i64 K, .int .i64 I, .float .f64 F, .string S, .slice q m d] := by
    cases n with
    | zero => exact hr.elim
    | succ n => obtain ⟨q, m, d, rfl, _⟩ := hr; exact ⟨_, _, _, _, q, m, d, rfl⟩
  obtain ⟨K, I, F, S, q, m, d, rfl⟩ := hshape
  have HR := Lib.hid (rep_keep ((Below.refl w.heap.size w).alloc (Nat.le_refl _) (.cells #[.int .i64 K, .int .i64 I, .float .f64 F, .string S, .slice q m d] 26)) _ _ _ hr)
  have HA := Lib.hid (bel_alloc (Below.refl w.heap.size w) (.cells #[.int .i64 K, .int .i64 I, .float .f64 F, .string S, .slice q m d] 26))
  obtain ⟨E, hE⟩ : ∃ E, rcheckT n T = E := ⟨_, rfl⟩
  rw [hE] at hc ⊢
  have hne : (E != 0) = true := by rw [bne_iff_ne]; exact hc
  have HC := Lib.hid hE
  clear hr hE hc
  go_enter Try.func7, Try.ntmps7
  go_wp2_with fail
  go_at_call 19; refine (rcheck_any n _ T _ HR.out).mono ?_; rintro e w1 ⟨rfl, hb1⟩
  rw [HC.out]
  have HB1 := Lib.hid (bel_step HA.out hb1)
  clear hb1
  go_wp2
  go_ret2
  exact ⟨rfl, HB1.out⟩
end Num
end Go.Proofs.Ytbodakfgoijeeaa
