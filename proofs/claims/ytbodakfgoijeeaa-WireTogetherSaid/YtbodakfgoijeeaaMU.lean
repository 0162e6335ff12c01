/-
  The reference's Put onto nil; what both read, in one form.
-/
import Derived.Test.YtbodakfgoijeeaaMT
import Derived.Test.YtbodakfgoijeeaaMI
import Derived.Test.YtbodakfgoijeeaaMJ
import Derived.Test.YtbodakfgoijeeaaVLt
namespace Go.Proofs.Ytbodakfgoijeeaa
open Go.RowKit
namespace Num
open Ints
set_option linter.unusedSimpArgs false
set_option linter.unusedVariables false
def RputPost (w : World) (e : Ending) (w' : World) : Prop := ∃ (p : Option Addr) (l c : Nat) (Z : List Int) (r : Int), e = .returned (.tuple #[.slice p l c, .int .i64 r]) ∧ OwB w w' p l c Z ∧ By Z ∧ l ≤ 4096
set_option maxHeartbeats 1000000 in
theorem rput_nil (n : Nat) (w : World) (v : Value) (T : VT n) (hr : Rep w n v T) : Calls Try.prog 7 #[.slice none 0 0, v] w (RputPost w) := by
  have hshape : ∃ (K I : Int) (F : Nat) (S : ByteArray) (q : Option Addr) (m d : Nat), v = .agg #[.int .i64 K, .int .i64 I, .float .f64 F, .string S, .slice q m d] := by
    cases n with
    | zero => exact hr.elim
    | succ n => obtain ⟨q, m, d, rfl, _⟩ := hr; exact ⟨_, _, _, _, q, m, d, rfl⟩
  obtain ⟨K, I, F, S, q, m, d, rfl⟩ := hshape
  have HR := Lib.hid (rep_keep ((Below.refl w.heap.size w).alloc (Nat.le_refl _) (.cells #[.int .i64 K, .int .i64 I, .float .f64 F, .string S, .slice q m d] 26)) _ _ _ hr)
  have HA := Lib.hid (bel_alloc (Below.refl w.heap.size w) (.cells #[.int .i64 K, .int .i64 I, .float .f64 F, .string S, .slice q m d] 26))
  have RB := Lib.hid (row_alloc w #[.int .i64 K, .int .i64 I, .float .f64 F, .string S, .slice q m d] 26)
  by_cases hc : rcheckT n T = 0
  · have hk : kindsT n T = true := by
      unfold rcheckT at hc
      cases h : kindsT n T
      · rw [if_pos h] at hc; cases hc
      · rfl
    have hgs : greatT n 0 T = false ∧ sizeT n T ≤ 4096 := by
      unfold rcheckT at hc
      rw [if_neg (by rw [hk]; decide)] at hc
      by_cases h : (greatT n 0 T || decide (4096 < sizeT n T)) = true
      · rw [if_pos h] at hc; cases hc
      · simp only [Bool.or_eq_true, decide_eq_true_eq, not_or, Bool.not_eq_true] at h
        exact ⟨h.1, by omega⟩
    have hsz : (encV n T).length ≤ 4096 := by have := (enc_len n 0 T hk hgs.1 (by omega)).1; omega
    have HC := Lib.hid hc
    have HS := Lib.hid hsz
    clear hr hc hk hgs hsz
    go_enter Try.func7, Try.ntmps7
    go_wp2_with fail
    go_at_call 19; refine (rcheck_any n _ T _ HR.out).mono ?_; rintro e w1 ⟨rfl, hb1⟩
    rw [HC.out]
    have HB1 := Lib.hid (bel_step HA.out hb1)
    have HR1 := Lib.hid (rep_keep hb1 _ _ _ HR.out)
    have hr1 := row_step RB.out hb1
    have d0 := row_cell hr1 0; have d1 := row_cell hr1 1; have d2 := row_cell hr1 2; have d3 := row_cell hr1 3; have d4 := row_cell hr1 4
    simp only [List.getElem?_toArray, List.getElem?_cons_zero, List.getElem?_cons_succ] at d0 d1 d2 d3 d4
    clear hb1 hr1
    go_wp2_with fail
    go_at_call 20; refine (put_any n _ T w1 w1 none 0 0 [] HR1.out (Or.inl (ow_nil w1)) (by have := HS.out; omega)).mono ?_; rintro e w2 ⟨p2, c2, rfl, ho2, _⟩
    have HP := Lib.hid (show RputPost w (.returned (.tuple #[.slice p2 (0 + (encV n T).length) c2, .int .i64 0])) w2 from ⟨p2, _, c2, _, 0, rfl, ow_base HB1.out ho2, enc_by n T, by have := HS.out; omega⟩)
    clear ho2
    generalize 0 + (encV n T).length = l2 at *
    clear d0 d1 d2 d3 d4
    go_wp2
    go_ret2
    exact HP.out
  · obtain ⟨E, hE⟩ : ∃ E, rcheckT n T = E := ⟨_, rfl⟩
    have hne : (E != 0) = true := by rw [← hE, bne_iff_ne]; exact hc
    have HC := Lib.hid hE
    clear hr hE hc
    go_enter Try.func7, Try.ntmps7
    go_wp2_with fail
    go_at_call 19; refine (rcheck_any n _ T _ HR.out).mono ?_; rintro e w1 ⟨rfl, hb1⟩
    rw [HC.out]
    have HB1 := Lib.hid (bel_step HA.out hb1)
    clear hb1
    go_wp2
    go_ret2
    exact ⟨none, 0, 0, [], E, rfl, ow_base HB1.out (ow_nil w1), fun x h => (by cases h), by omega⟩
/-- What is read: a tree, its bytes, an error. -/
def rdOut (N : Nat) (X : List Int) : VT (N + 1) × Int × Int := match refRd (N + 1) X with | none => ((0, 0, 0, ⟨#[]⟩, []), 0, 20) | some (T, j) => (T, (j : Int), 0)
def OutPost (N : Nat) (o : VT (N + 1) × Int × Int) (w : World) (e : Ending) (w' : World) : Prop := Below w.heap.size w w' ∧ ∃ (K I : Int) (F : Nat) (S : ByteArray) (q : Option Addr) (m d : Nat), e = .returned (.tuple #[.agg #[.int .i64 K, .int .i64 I, .float .f64 F, .string S, .slice q m d], .int .i64 o.2.1, .int .i64 o.2.2]) ∧ Rep w' (N + 1) (.agg #[.int .i64 K, .int .i64 I, .float .f64 F, .string S, .slice q m d]) o.1
theorem out_of_rd {N : Nat} {X : List Int} {w w' : World} {e : Ending} (h : RdPost (N + 1) (refRd (N + 1) X) w e w') : OutPost N (rdOut N X) w e w' := by
  obtain ⟨hb, h1, h2⟩ := h
  unfold rdOut
  cases hd : refRd (N + 1) X with
  | none =>
    refine ⟨hb, 0, 0, 0, ⟨#[]⟩, none, 0, 0, h1 hd, none, 0, 0, rfl, (show okI 0 by decide), (show okI 0 by decide), (show (0 : Nat) < 2 ^ 64 by decide), (show (⟨#[]⟩ : ByteArray).size ≤ maxLen by decide), rfl, Nat.le_refl _, Nat.zero_le _, fun h => absurd h (Nat.lt_irrefl _)⟩
  | some q =>
    obtain ⟨T, j⟩ := q
    obtain ⟨v, he, hr⟩ := h2 T j hd
    obtain ⟨p, l, c, rfl, hrest⟩ := hr
    exact ⟨hb, _, _, _, _, p, l, c, he, p, l, c, rfl, hrest⟩
theorem pread_out (N : Nat) (w : World) (p : Option Addr) (l c : Nat) (X : List Int) (hb : RdB w p l c X) (hX : By X) (hN : l ≤ 4096) (h1 : 4096 ≤ N) (h2 : N ≤ 90000) :
    Calls Try.prog 8 #[.slice p l c] w (OutPost N (rdOut N X) w) :=
  (pread_any (N + 1) w p l c X hb hX (by omega) hN).mono fun e w' h => out_of_rd (by rw [same_read (N + 1) X (by omega) (by have := hb.1; omega)] at h; exact h)
theorem rread_out (N : Nat) (w : World) (p : Option Addr) (l c : Nat) (X : List Int) (hb : RdB w p l c X) (hX : By X) (hN : l ≤ 4096) (h1 : 4096 ≤ N) (h2 : N ≤ 90000) :
    Calls Try.prog 9 #[.slice p l c] w (OutPost N (rdOut N X) w) :=
  (rread_any (N + 1) w p l c X hb hX (by omega) (by omega)).mono fun e w' h => out_of_rd h
end Num
end Go.Proofs.Ytbodakfgoijeeaa
