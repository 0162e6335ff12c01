/-
  How many bytes a value has.
-/
import Derived.Test.YtomfgncbdgifoaaJp14MN
import Derived.Test.YtomfgncbdgifoaaJp12MK
import Derived.Test.YtomfgncbdgifoaaJp13MG
import Derived.Test.YtomfgncbdgifoaaJp4VSurv
import Derived.Test.YtomfgncbdgifoaaJp3VTree
import Derived.Test.YtomfgncbdgifoaaJp9WE
import Derived.RegionTactic
import Derived.Deep.RegionWith
namespace Go.Proofs.Ytomfgncbdgifoaa
open Go.RowKit
namespace Num
open Ints
set_option linter.unusedSimpArgs false
set_option linter.unusedVariables false
theorem fold_enc {n : Nat} {B : Nat} : ∀ (L : List (VT n)) (a : Int), (∀ x ∈ L, sizeT n x = ((encV n x).length : Int) ∧ (encV n x).length ≤ B) → 0 ≤ a → a + (L.length * B : Nat) < 9223372036854775808 →
    L.foldl (fun a x => wrap64 (a + sizeT n x)) a = a + ((L.flatMap (encV n)).length : Int) ∧ (L.flatMap (encV n)).length ≤ L.length * B := by
  intro L
  induction L with
  | nil => intro a _ _ _; simp
  | cons x L ih =>
    intro a h h0 hb
    obtain ⟨h1, h2⟩ := h x (List.mem_cons_self ..)
    rw [List.length_cons, Nat.succ_mul] at hb
    obtain ⟨M, hM⟩ : ∃ M, L.length * B = M := ⟨_, rfl⟩
    rw [hM] at hb
    have e : wrap64 (a + sizeT n x) = a + ((encV n x).length : Int) := by rw [h1]; unfold wrap64; omega
    obtain ⟨i1, i2⟩ := ih (a + ((encV n x).length : Int)) (fun y hy => h y (List.mem_cons_of_mem _ hy)) (by omega) (by rw [hM]; omega)
    rw [List.foldl_cons, e, i1, List.flatMap_cons, List.length_append, List.length_cons, Nat.succ_mul]
    exact ⟨by omega, by omega⟩
theorem enc_len : ∀ (n d : Nat) (T : VT n), kindsT n T = true → greatT n d T = false → d ≤ 8 → sizeT n T = ((encV n T).length : Int) ∧ (encV n T).length ≤ 300 * 65 ^ (8 - d) := by
  intro n
  induction n with
  | zero => intro d T _ _ _; exact ⟨rfl, Nat.zero_le _⟩
  | succ n ih =>
    intro d T hk hg hd
    obtain ⟨K, I, F, S, L⟩ := T
    have hp : 0 < 65 ^ (8 - d) := Nat.pow_pos (by decide)
    by_cases h1 : K = 1
    · subst h1
      have e : encV (n + 1) (1, I, F, S, L) = 1 :: beI (IntKind.u64.wrap I) 8 := rfl
      rw [e, sizeT_num (by decide), List.length_cons, beI_len]
      exact ⟨rfl, by omega⟩
    by_cases h2 : K = 2
    · subst h2
      have e : encV (n + 1) (2, I, F, S, L) = 2 :: beI (Flo.canon F : Int) 8 := rfl
      rw [e, sizeT_num (by decide), List.length_cons, beI_len]
      exact ⟨rfl, by omega⟩
    by_cases h3 : K = 3
    · subst h3
      have e : encV (n + 1) (3, I, F, S, L) = 3 :: (beI (S.size : Int) 2 ++ S.data.toList.map fun b => (b.toNat : Int)) := rfl
      rw [e, sizeT_text (by decide) (by decide), text_len]
      have hS : S.size ≤ 256 := by
        have h : decide (256 < (S.size : Int)) = false := hg
        simp at h
        omega
      exact ⟨by unfold wrap64; omega, by omega⟩
    by_cases h4 : K = 4
    · subst h4
      have hg' : (decide (8 ≤ d) || decide (64 < (L.length : Int)) || L.any (greatT n (d + 1))) = false := hg
      have hk' : L.all (kindsT n) = true := hk
      simp only [Bool.or_eq_false_iff, decide_eq_false_iff_not, List.any_eq_false] at hg'
      obtain ⟨⟨g1, g2⟩, g3⟩ := hg'
      have e : encV (n + 1) (4, I, F, S, L) = 4 :: IntKind.u8.wrap (L.length : Int) :: L.flatMap (encV n) := rfl
      obtain ⟨B, hB⟩ : ∃ B, 300 * 65 ^ (8 - (d + 1)) = B := ⟨_, rfl⟩
      have hB2 : 300 * 65 ^ (8 - d) = 65 * B := by
        rw [← hB, show 8 - d = (8 - (d + 1)) + 1 by omega, Nat.pow_succ]
        omega
      have hB3 : 300 ≤ B := by rw [← hB]; have : 0 < 65 ^ (8 - (d + 1)) := Nat.pow_pos (by decide); omega
      have hB4 : B ≤ 300 * 65 ^ 7 := by rw [← hB]; exact Nat.mul_le_mul_left _ (Nat.pow_le_pow_right (by decide) (by omega))
      have hL : L.length * B ≤ 64 * B := Nat.mul_le_mul_right _ (by omega)
      obtain ⟨M, hM⟩ : ∃ M, L.length * B = M := ⟨_, rfl⟩
      have hbig : (2 : Int) + (L.length * B : Nat) < 9223372036854775808 := by
        have h7 : (300 * 65 ^ 7 : Nat) = 1470668367187500 := by decide
        rw [hM] at hL ⊢
        omega
      obtain ⟨f1, f2⟩ := fold_enc (B := B) L 2 (fun x hx => by
        have := ih (d + 1) x (by simpa using (List.all_eq_true.1 hk' x hx)) (by simpa using g3 x hx) (by omega)
        rw [hB] at this
        exact this) (by decide) hbig
      rw [e, sizeT_list (by decide) (by decide) (by decide), f1, List.length_cons, List.length_cons, hB2]
      exact ⟨by omega, by omega⟩
    have e : encV (n + 1) (K, I, F, S, L) = [0] := by
      unfold encV
      rw [if_neg (by simpa using h1), if_neg (by simpa using h2), if_neg (by simpa using h3), if_neg (by simpa using h4)]
    rw [e, sizeT_else (by simp [h1, h2]) (by simpa using h3) (by simpa using h4)]
    exact ⟨rfl, by simp; omega⟩
theorem enc_by : ∀ (n : Nat) (T : VT n), By (encV n T) := by
  intro n
  induction n with
  | zero => intro T x hx; cases hx
  | succ n ih =>
    intro T x hx
    unfold encV at hx
    split at hx
    · rcases List.mem_cons.1 hx with rfl | hx
      · omega
      · exact by_be _ _ x hx
    split at hx
    · rcases List.mem_cons.1 hx with rfl | hx
      · omega
      · exact by_be _ _ x hx
    split at hx
    · rcases List.mem_cons.1 hx with rfl | hx
      · omega
      · rcases List.mem_append.1 hx with hx | hx
        · exact by_be _ _ x hx
        · obtain ⟨b, _, rfl⟩ := List.mem_map.1 hx
          have := b.toNat_lt
          omega
    split at hx
    · rcases List.mem_cons.1 hx with rfl | hx
      · omega
      · rcases List.mem_cons.1 hx with rfl | hx
        · rw [Go.IntKind.wrap_u8]; omega
        · obtain ⟨y, _, hy⟩ := List.mem_flatMap.1 hx
          exact ih y x hy
    · rcases List.mem_cons.1 hx with rfl | hx
      · omega
      · cases hx
end Num
end Go.Proofs.Ytomfgncbdgifoaa
/-
  The reference's Put onto nil; what both read, in one form.
-/
namespace Go.Proofs.Ytomfgncbdgifoaa
open Go.RowKit
namespace Num
open Ints
set_option linter.unusedSimpArgs false
set_option linter.unusedVariables false
def RputPost (w : World) (e : Ending) (w' : World) : Prop := ∃ (p : Option Addr) (l c : Nat) (Z : List Int) (r : Int), e = .returned (.tuple #[.slice p l c, .int .i64 r]) ∧ OwB w w' p l c Z ∧ By Z ∧ l ≤ 4096
set_option maxHeartbeats 1000000 in
theorem rput_nil (n : Nat) (w : World) (v : Value) (T : VT n) (hr : Rep w n v T) : Calls Try.prog 36 #[.slice none 0 0, v] w (RputPost w) := by
  have hshape : ∃ (K I : Int) (F : Nat) (S : ByteArray) (q : Option Addr) (m d : Nat), v = .agg #[.int .i64 K, .int .i64 I, .float .f64 F, .string S, .slice q m d] := by
    cases n with
    | zero => exact hr.elim
    | succ n => obtain ⟨q, m, d, rfl, _⟩ := hr; exact ⟨_, _, _, _, q, m, d, rfl⟩
  obtain ⟨K, I, F, S, q, m, d, rfl⟩ := hshape
  have HR := Lib.hid (rep_keep ((Below.refl w.heap.size w).alloc (Nat.le_refl _) (.cells #[.int .i64 K, .int .i64 I, .float .f64 F, .string S, .slice q m d] 47)) _ _ _ hr)
  have HA := Lib.hid (bel_alloc (Below.refl w.heap.size w) (.cells #[.int .i64 K, .int .i64 I, .float .f64 F, .string S, .slice q m d] 47))
  have RB := Lib.hid (row_alloc w #[.int .i64 K, .int .i64 I, .float .f64 F, .string S, .slice q m d] 47)
  by_cases hc : rcheckT n T = 0
  · have hk : kindsT n T = true := by
      unfold rcheckT at hc
      cases h : kindsT n T
      · rw [if_pos h] at hc; cases hc
      · rfl
    have hgs : greatT n 0 T = false ∧ sizeT n T ≤ 4096 := by
      unfold rcheckT at hc
      rw [if_neg (by rw [hk]; decide)] at hc
      by_cases h : (greatT n 0 T || decide (4096 < sizeT n T)) = true
      · rw [if_pos h] at hc; cases hc
      · simp only [Bool.or_eq_true, decide_eq_true_eq, not_or, Bool.not_eq_true] at h
        exact ⟨h.1, by omega⟩
    have hsz : (encV n T).length ≤ 4096 := by have := (enc_len n 0 T hk hgs.1 (by omega)).1; omega
    have HC := Lib.hid hc
    have HS := Lib.hid hsz
    clear hr hc hk hgs hsz
    go_enter Try.func36, Try.ntmps36
    go_wp2_with fail
    go_at_call 61; refine (rcheck_any n _ T _ HR.out).mono ?_; rintro e w1 ⟨rfl, hb1⟩
    rw [HC.out]
    have HB1 := Lib.hid (bel_step HA.out hb1)
    have HR1 := Lib.hid (rep_keep hb1 _ _ _ HR.out)
    have hr1 := row_step RB.out hb1
    have d0 := row_cell hr1 0; have d1 := row_cell hr1 1; have d2 := row_cell hr1 2; have d3 := row_cell hr1 3; have d4 := row_cell hr1 4
    simp only [List.getElem?_toArray, List.getElem?_cons_zero, List.getElem?_cons_succ] at d0 d1 d2 d3 d4
    clear hb1 hr1
    go_wp2_with fail
    go_at_call 62; refine (put_any n _ T w1 w1 none 0 0 [] HR1.out (Or.inl (ow_nil w1)) (by have := HS.out; omega)).mono ?_; rintro e w2 ⟨p2, c2, rfl, ho2, _⟩
    have HP := Lib.hid (show RputPost w (.returned (.tuple #[.slice p2 (0 + (encV n T).length) c2, .int .i64 0])) w2 from ⟨p2, _, c2, _, 0, rfl, ow_base HB1.out ho2, enc_by n T, by have := HS.out; omega⟩)
    clear ho2
    generalize 0 + (encV n T).length = l2 at *
    clear d0 d1 d2 d3 d4
    go_wp2
    go_ret2
    exact HP.out
  · obtain ⟨E, hE⟩ : ∃ E, rcheckT n T = E := ⟨_, rfl⟩
    have hne : (E != 0) = true := by rw [← hE, bne_iff_ne]; exact hc
    have HC := Lib.hid hE
    clear hr hE hc
    go_enter Try.func36, Try.ntmps36
    go_wp2_with fail
    go_at_call 61; refine (rcheck_any n _ T _ HR.out).mono ?_; rintro e w1 ⟨rfl, hb1⟩
    rw [HC.out]
    have HB1 := Lib.hid (bel_step HA.out hb1)
    clear hb1
    go_wp2
    go_ret2
    exact ⟨none, 0, 0, [], E, rfl, ow_base HB1.out (ow_nil w1), fun x h => (by cases h), by omega⟩
/-- What is read: a tree, its bytes, an error. -/
def rdOut (N : Nat) (X : List Int) : VT (N + 1) × Int × Int := match refRd (N + 1) X with | none => ((0, 0, 0, ⟨#[]⟩, []), 0, 20) | some (T, j) => (T, (j : Int), 0)
def OutPost (N : Nat) (o : VT (N + 1) × Int × Int) (w : World) (e : Ending) (w' : World) : Prop := Below w.heap.size w w' ∧ ∃ (K I : Int) (F : Nat) (S : ByteArray) (q : Option Addr) (m d : Nat), e = .returned (.tuple #[.agg #[.int .i64 K, .int .i64 I, .float .f64 F, .string S, .slice q m d], .int .i64 o.2.1, .int .i64 o.2.2]) ∧ Rep w' (N + 1) (.agg #[.int .i64 K, .int .i64 I, .float .f64 F, .string S, .slice q m d]) o.1
theorem out_of_rd {N : Nat} {X : List Int} {w w' : World} {e : Ending} (h : RdPost (N + 1) (refRd (N + 1) X) w e w') : OutPost N (rdOut N X) w e w' := by
  obtain ⟨hb, h1, h2⟩ := h
  unfold rdOut
  cases hd : refRd (N + 1) X with
  | none =>
    refine ⟨hb, 0, 0, 0, ⟨#[]⟩, none, 0, 0, h1 hd, none, 0, 0, rfl, (show okI 0 by decide), (show okI 0 by decide), (show (0 : Nat) < 2 ^ 64 by decide), (show (⟨#[]⟩ : ByteArray).size ≤ maxLen by decide), rfl, Nat.le_refl _, Nat.zero_le _, fun h => absurd h (Nat.lt_irrefl _)⟩
  | some q =>
    obtain ⟨T, j⟩ := q
    obtain ⟨v, he, hr⟩ := h2 T j hd
    obtain ⟨p, l, c, rfl, hrest⟩ := hr
    exact ⟨hb, _, _, _, _, p, l, c, he, p, l, c, rfl, hrest⟩
theorem pread_out (N : Nat) (w : World) (p : Option Addr) (l c : Nat) (X : List Int) (hb : RdB w p l c X) (hX : By X) (hN : l ≤ 4096) (h1 : 4096 ≤ N) (h2 : N ≤ 90000) :
    Calls Try.prog 69 #[.slice p l c] w (OutPost N (rdOut N X) w) :=
  (pread_any (N + 1) w p l c X hb hX (by omega) hN).mono fun e w' h => out_of_rd (by rw [same_read (N + 1) X (by omega) (by have := hb.1; omega)] at h; exact h)
theorem rread_out (N : Nat) (w : World) (p : Option Addr) (l c : Nat) (X : List Int) (hb : RdB w p l c X) (hX : By X) (hN : l ≤ 4096) (h1 : 4096 ≤ N) (h2 : N ≤ 90000) :
    Calls Try.prog 45 #[.slice p l c] w (OutPost N (rdOut N X) w) :=
  (rread_any (N + 1) w p l c X hb hX (by omega) (by omega)).mono fun e w' h => out_of_rd h
end Num
end Go.Proofs.Ytomfgncbdgifoaa
/-
  The reference's Put behind bytes of the call's own, or onto a slice without room.
-/
namespace Go.Proofs.Ytomfgncbdgifoaa
open Go.RowKit
namespace Num
open Ints
set_option linter.unusedSimpArgs false
set_option linter.unusedVariables false
theorem good_parts {n : Nat} {T : VT n} (hc : rcheckT n T = 0) : kindsT n T = true ∧ greatT n 0 T = false ∧ (encV n T).length ≤ 4096 := by
  have hk : kindsT n T = true := by
    unfold rcheckT at hc
    cases h : kindsT n T
    · rw [if_pos h] at hc; cases hc
    · rfl
  have hgs : greatT n 0 T = false ∧ sizeT n T ≤ 4096 := by
    unfold rcheckT at hc
    rw [if_neg (by rw [hk]; decide)] at hc
    by_cases h : (greatT n 0 T || decide (4096 < sizeT n T)) = true
    · rw [if_pos h] at hc; cases hc
    · simp only [Bool.or_eq_true, decide_eq_true_eq, not_or, Bool.not_eq_true] at h
      exact ⟨h.1, by omega⟩
  exact ⟨hk, hgs.1, by have := (enc_len n 0 T hk hgs.1 (by omega)).1; omega⟩
def PutIn (n : Nat) (W0 w : World) (l : Nat) (X : List Int) (T : VT n) (e : Ending) (w' : World) : Prop := ∃ p' c', e = .returned (.tuple #[.slice p' (l + (encV n T).length) c', .int .i64 0]) ∧ OwB W0 w' p' (l + (encV n T).length) c' (X ++ encV n T) ∧ KeepV w w'
set_option maxHeartbeats 1000000 in
theorem rput_good (n : Nat) (W0 w : World) (p : Option Addr) (l c : Nat) (X : List Int) (v : Value) (T : VT n) (hr : Rep W0 n v T) (hb : InB W0 w p l c X) (hl : l ≤ 800000) (hc : rcheckT n T = 0) : Calls Try.prog 36 #[.slice p l c, v] w (PutIn n W0 w l X T) := by
  have hshape : ∃ (K I : Int) (F : Nat) (S : ByteArray) (q : Option Addr) (m d : Nat), v = .agg #[.int .i64 K, .int .i64 I, .float .f64 F, .string S, .slice q m d] := by
    cases n with
    | zero => exact hr.elim
    | succ n => obtain ⟨q, m, d, rfl, _⟩ := hr; exact ⟨_, _, _, _, q, m, d, rfl⟩
  obtain ⟨K, I, F, S, q, m, d, rfl⟩ := hshape
  have HR0 := Lib.hid hr
  have HR := Lib.hid (rep_keep (bel_alloc (in_bel hb) (.cells #[.int .i64 K, .int .i64 I, .float .f64 F, .string S, .slice q m d] 47)) _ _ _ hr)
  have HI := Lib.hid (in_keep hb ((Below.refl w.heap.size w).alloc (Nat.le_refl _) (.cells #[.int .i64 K, .int .i64 I, .float .f64 F, .string S, .slice q m d] 47)))
  have HKV := Lib.hid (kv_alloc w (.cells #[.int .i64 K, .int .i64 I, .float .f64 F, .string S, .slice q m d] 47))
  have RB := Lib.hid (row_alloc w #[.int .i64 K, .int .i64 I, .float .f64 F, .string S, .slice q m d] 47)
  have HS := Lib.hid (good_parts hc).2.2
  have HC := Lib.hid hc
  clear hr hb hc
  go_enter Try.func36, Try.ntmps36
  go_wp2_with fail
  go_at_call 61; refine (rcheck_any n _ T _ HR.out).mono ?_; rintro e w1 ⟨rfl, hb1⟩
  rw [HC.out]
  have HI1 := Lib.hid (in_keep HI.out hb1)
  have HK1 := Lib.hid (kv_trans HKV.out (kv_bel hb1))
  have hr1 := row_step RB.out hb1
  have d0 := row_cell hr1 0; have d1 := row_cell hr1 1; have d2 := row_cell hr1 2; have d3 := row_cell hr1 3; have d4 := row_cell hr1 4
  simp only [List.getElem?_toArray, List.getElem?_cons_zero, List.getElem?_cons_succ] at d0 d1 d2 d3 d4
  clear hb1 hr1
  go_wp2_with fail
  go_at_call 62; refine (put_any n _ T W0 w1 p l c X HR0.out HI1.out (by have := HS.out; omega)).mono ?_; rintro e w2 ⟨p2, c2, rfl, ho2, hk2⟩
  have HP := Lib.hid (show PutIn n W0 w l X T (.returned (.tuple #[.slice p2 (l + (encV n T).length) c2, .int .i64 0])) w2 from ⟨p2, c2, rfl, ho2, kv_trans HK1.out hk2⟩)
  clear ho2 hk2
  generalize l + (encV n T).length = l2 at *
  clear d0 d1 d2 d3 d4
  go_wp2
  go_ret2
  exact HP.out
set_option maxHeartbeats 1000000 in
theorem rput_bad (n : Nat) (w : World) (p : Option Addr) (l c : Nat) (v : Value) (T : VT n) (hr : Rep w n v T) (hc : ¬ rcheckT n T = 0) : Calls Try.prog 36 #[.slice p l c, v] w fun e w' => e = .returned (.tuple #[.slice none 0 0, .int .i64 (rcheckT n T)]) ∧ Below w.heap.size w w' := by
  have hshape : ∃ (K I : Int) (F : Nat) (S : ByteArray) (q : Option Addr) (m d : Nat), v = .agg #[.int .i64 K, .int .i64 I, .float .f64 F, .string S, .slice q m d] := by
    cases n with
    | zero => exact hr.elim
    | succ n => obtain ⟨q, m, d, rfl, _⟩ := hr; exact ⟨_, _, _, _, q, m, d, rfl⟩
  obtain ⟨K, I, F, S, q, m, d, rfl⟩ := hshape
  have HR := Lib.hid (rep_keep ((Below.refl w.heap.size w).alloc (Nat.le_refl _) (.cells #[.int .i64 K, .int .i64 I, .float .f64 F, .string S, .slice q m d] 47)) _ _ _ hr)
  have HA := Lib.hid (bel_alloc (Below.refl w.heap.size w) (.cells #[.int .i64 K, .int .i64 I, .float .f64 F, .string S, .slice q m d] 47))
  obtain ⟨E, hE⟩ : ∃ E, rcheckT n T = E := ⟨_, rfl⟩
  rw [hE] at hc ⊢
  have hne : (E != 0) = true := by rw [bne_iff_ne]; exact hc
  have HC := Lib.hid hE
  clear hr hE hc
  go_enter Try.func36, Try.ntmps36
  go_wp2_with fail
  go_at_call 61; refine (rcheck_any n _ T _ HR.out).mono ?_; rintro e w1 ⟨rfl, hb1⟩
  rw [HC.out]
  have HB1 := Lib.hid (bel_step HA.out hb1)
  clear hb1
  go_wp2
  go_ret2
  exact ⟨rfl, HB1.out⟩
end Num
end Go.Proofs.Ytomfgncbdgifoaa
/-
  A value read ahead of other bytes, by the program and by the reference: in the same words, where its lists lie, however many bytes there are.
-/
namespace Go.Proofs.Ytomfgncbdgifoaa
open Go.RowKit
namespace Num
open Ints
set_option linter.unusedSimpArgs false
set_option linter.unusedVariables false
theorem decL_len {n : Nat} (h : ∀ X T j, decV n X = some (T, j) → (encV n T).length = j) : ∀ m X L k, decL (decV n) m X = some (L, k) → (L.flatMap (encV n)).length = k := by
  intro m
  induction m with
  | zero => intro X L k e; cases e; rfl
  | succ m ih =>
    intro X L k e
    obtain ⟨L1, k1, T, j, e1, e2, rfl, rfl⟩ := decL_snoc e
    rw [List.flatMap_append, List.length_append, ih _ _ _ e1, List.flatMap_cons, List.flatMap_nil, List.append_nil, h _ _ _ e2]
theorem decV_len : ∀ n X (T : VT n) j, decV n X = some (T, j) → (encV n T).length = j := by
  intro n
  induction n with
  | zero => intro X T j e; cases e
  | succ n ih =>
    intro X T j e
    cases X with
    | nil => cases e
    | cons k R =>
      rw [decV] at e
      by_cases h0 : (k == 0) = true
      · rw [if_pos h0] at e; cases e; rfl
      rw [if_neg h0] at e
      by_cases h1 : (k == 1) = true
      · rw [if_pos h1] at e
        split at e
        · cases e; rfl
        · cases e
      rw [if_neg h1] at e
      by_cases h2 : (k == 2) = true
      · rw [if_pos h2] at e
        split at e
        · cases e; rfl
        · cases e
      rw [if_neg h2] at e
      by_cases h3 : (k == 3) = true
      · rw [if_pos h3] at e
        split at e
        · rename_i hs
          cases e
          show (3 :: (beI _ 2 ++ List.map _ _)).length = _
          rw [text_len]
          have h5 : (strB ((R.drop 2).take (rdU (R.take 2)).toNat)).size = ((R.drop 2).take (rdU (R.take 2)).toNat).length := by
            show (List.toArray (List.map _ _)).size = _
            simp
          rw [h5, List.length_take, List.length_drop]
          omega
        · cases e
      rw [if_neg h3] at e
      by_cases h4 : (k == 4) = true
      · rw [if_pos h4] at e
        cases h5 : decR (decV n) R with
        | none => rw [h5] at e; cases e
        | some q =>
          obtain ⟨L, j2⟩ := q
          rw [h5] at e
          cases e
          cases R with
          | nil => cases h5
          | cons m R =>
            rw [decR] at h5
            cases h6 : decL (decV n) m.toNat R with
            | none => simp only [h6] at h5; cases h5
            | some q =>
              obtain ⟨L1, k1⟩ := q
              simp only [h6] at h5
              cases h5
              show (4 :: _ :: List.flatMap (encV n) _).length = _
              rw [List.length_cons, List.length_cons, decL_len ih _ _ _ _ h6]
              omega
      · rw [if_neg h4] at e; cases e
/-- What is read hangs on no more bytes than it takes. -/
theorem decL_pre {n : Nat} (h : ∀ X R T j, decV n X = some (T, j) → decV n (X.take j ++ R) = some (T, j)) : ∀ m X R L k, decL (decV n) m X = some (L, k) → decL (decV n) m (X.take k ++ R) = some (L, k) := by
  intro m
  induction m with
  | zero => intro X R L k e; cases e; rfl
  | succ m ih =>
    intro X R L k e
    obtain ⟨L1, k1, T, j, e1, e2, rfl, rfl⟩ := decL_snoc e
    have hk1 := (decL_le (decV_le n) _ _ _ _ e1).2.1
    rw [List.take_add, List.append_assoc, decL, ih _ _ _ _ e1]
    have hd : (X.take k1 ++ ((X.drop k1).take j ++ R)).drop k1 = (X.drop k1).take j ++ R := by
      rw [List.drop_append_of_le_length (by rw [List.length_take]; omega), List.drop_take_self, List.nil_append]
    simp only [hd, h _ _ _ _ e2]
theorem take_front {X : List Int} {a b : Nat} (R : List Int) (h : a ≤ b) (hb : b ≤ X.length) : (X.take b ++ R).take a = X.take a := by
  rw [List.take_append_of_le_length (by rw [List.length_take]; omega), List.take_take, Nat.min_eq_left h]
theorem dec_pre : ∀ n X R (T : VT n) j, decV n X = some (T, j) → decV n (X.take j ++ R) = some (T, j) := by
  intro n
  induction n with
  | zero => intro X R T j e; cases e
  | succ n ih =>
    intro X R T j e
    cases X with
    | nil => cases e
    | cons k Y =>
      have hj := decV_le _ _ _ _ e
      obtain ⟨i, rfl⟩ : ∃ i, j = i + 1 := ⟨j - 1, by omega⟩
      rw [List.take_succ_cons, List.cons_append]
      rw [decV] at e ⊢
      by_cases h0 : (k == 0) = true
      · rw [if_pos h0] at e ⊢; exact e
      rw [if_neg h0] at e ⊢
      by_cases h1 : (k == 1) = true
      · rw [if_pos h1] at e ⊢
        split at e
        · rename_i hs
          cases e
          rw [if_pos (by rw [List.length_append, List.length_take]; omega), take_front R (Nat.le_refl _) hs]
        · cases e
      rw [if_neg h1] at e ⊢
      by_cases h2 : (k == 2) = true
      · rw [if_pos h2] at e ⊢
        split at e
        · rename_i hs
          cases e
          rw [take_front R (Nat.le_refl _) hs.1, if_pos ⟨by rw [List.length_append, List.length_take]; omega, hs.2⟩]
        · cases e
      rw [if_neg h2] at e ⊢
      by_cases h3 : (k == 3) = true
      · rw [if_pos h3] at e ⊢
        split at e
        · rename_i hs
          obtain ⟨L, hL⟩ : ∃ L, (rdU (Y.take 2)).toNat = L := ⟨_, rfl⟩
          rw [hL] at hs e
          have hi : i = 2 + L := by
            injection e with e
            have := congrArg Prod.snd e
            simp only at this
            omega
          subst hi
          have t2 : (Y.take (2 + L) ++ R).take 2 = Y.take 2 := take_front R (by omega) hs.2.2
          have t3 : ((Y.take (2 + L) ++ R).drop 2).take L = (Y.drop 2).take L := by
            rw [List.drop_append_of_le_length (by rw [List.length_take]; omega), List.drop_take, Nat.add_sub_cancel_left, List.take_append_of_le_length (by rw [List.length_take, List.length_drop]; omega), List.take_take, Nat.min_self]
          rw [t2, hL, if_pos ⟨by rw [List.length_append, List.length_take]; omega, hs.2.1, by rw [List.length_append, List.length_take]; omega⟩, t3]
          exact e
        · cases e
      rw [if_neg h3] at e ⊢
      by_cases h4 : (k == 4) = true
      · rw [if_pos h4] at e ⊢
        cases Y with
        | nil => cases e
        | cons m Y =>
          rw [decR] at e
          cases h6 : decL (decV n) m.toNat Y with
          | none => simp only [h6] at e; cases e
          | some q =>
            obtain ⟨L1, k1⟩ := q
            simp only [h6] at e
            have hi : i = k1 + 1 := by
              injection e with e
              have := congrArg Prod.snd e
              simp only at this
              omega
            subst hi
            rw [List.take_succ_cons, List.cons_append, decR, decL_pre ih _ _ _ _ _ h6]
            exact e
      · rw [if_neg h4] at e; cases e
theorem dec_take {n K : Nat} {X : List Int} {T : VT n} {j : Nat} (e : decV n X = some (T, j)) (hj : j ≤ K) : decV n (X.take K) = some (T, j) := by
  have h := dec_pre n X ((X.take K).drop j) T j e
  have e2 : X.take j = (X.take K).take j := by rw [List.take_take, Nat.min_eq_left hj]
  rw [e2, List.take_append_drop] at h
  exact h
theorem dec_untake {n K : Nat} {X : List Int} {T : VT n} {j : Nat} (e : decV n (X.take K) = some (T, j)) : decV n X = some (T, j) := by
  have hj := (decV_le _ _ _ _ e).2
  rw [List.length_take] at hj
  have h := dec_pre n (X.take K) (X.drop j) T j e
  rw [List.take_take, Nat.min_eq_left (by omega), List.take_append_drop] at h
  exact h
theorem same_big (N : Nat) (X : List Int) (hN : N ≤ 100000) : progR N (X.take 4096) = refRd N X := by
  rw [same_read N (X.take 4096) hN (by rw [List.length_take]; omega)]
  have up : ∀ T j, refV N 0 (X.take 4096) = some (T, j) → refV N 0 X = some (T, j) := fun T j h => by
    obtain ⟨a, b⟩ := ref_dec _ _ _ _ _ h
    exact dec_ref _ _ _ _ _ (dec_untake a) b
  have dn : ∀ T j, refV N 0 X = some (T, j) → rcheckT N T = 0 → refV N 0 (X.take 4096) = some (T, j) := fun T j h hc => by
    obtain ⟨a, b⟩ := ref_dec _ _ _ _ _ h
    exact dec_ref _ _ _ _ _ (dec_take a (by rw [← decV_len _ _ _ _ a]; exact (good_parts hc).2.2)) b
  unfold refRd
  cases h1 : refV N 0 (X.take 4096) with
  | some q => obtain ⟨T, j⟩ := q; rw [up T j h1]
  | none =>
    cases h2 : refV N 0 X with
    | none => rfl
    | some q =>
      obtain ⟨T, j⟩ := q
      by_cases hc : rcheckT N T = 0
      · rw [dn T j h2 hc] at h1; cases h1
      · simp only [if_neg hc]
/-- What Read gives of bytes, its lists in blocks of its own. -/
def RdPS (N : Nat) (o : Option (VT N × Nat)) (w : World) (e : Ending) (w' : World) : Prop := Below w.heap.size w w' ∧ (o = none → e = .returned (.tuple #[.agg #[.int .i64 0, .int .i64 0, .float .f64 0, .string ⟨#[]⟩, .slice none 0 0], .int .i64 0, .int .i64 20])) ∧ ∀ T j, o = some (T, j) → ∃ v, e = .returned (.tuple #[v, .int .i64 (j : Int), .int .i64 0]) ∧ RepS (fun b => w.heap.size ≤ b) w' N v T
theorem wread_s (N : Nat) (w : World) (p : Option Addr) (l c : Nat) (X : List Int) (hb : RdB w p l c X) (hX : By X) (hN : l ≤ N) (h4 : 4096 ≤ N) (hN2 : N ≤ 100000) :
    Calls Try.prog 69 #[.slice p l c] w (RdPS N (refRd N X) w) := by
  rw [← same_big N X hN2]
  have hln := hb.1
  by_cases hl : l ≤ 4096
  · rw [List.take_of_length_le (by omega)]
    cases hd : decV N X with
    | none =>
      have h : progR N X = none := by unfold progR; rw [hd]
      refine (read_no N w p l c X hb hX hN hl hd).mono ?_
      rintro e w' ⟨rfl, hb'⟩
      exact ⟨hb', fun _ => rfl, fun T j h' => by rw [h] at h'; cases h'⟩
    | some q =>
      obtain ⟨T, j⟩ := q
      by_cases hc : checkM (measD N 0 T) = 0
      · have h : progR N X = some (T, j) := by unfold progR; rw [hd]; simp only; rw [if_pos hc]
        refine (mread_ok N w p l c X hb hX hN hl T j hd (by have := (decV_le _ _ _ _ hd).2; have := hb.1; omega) hc).mono ?_
        rintro e w' ⟨v, rfl, hb', hr⟩
        refine ⟨hb', fun h' => (by rw [h] at h'; cases h'), fun T' j' h' => ?_⟩
        rw [h] at h'
        cases h'
        exact ⟨v, rfl, repS_mono (fun b h => Nat.le_of_lt h) _ _ _ hr⟩
      · have h : progR N X = none := by unfold progR; rw [hd]; simp only; rw [if_neg hc]
        refine (mread_bad N w p l c X hb hX hN hl T j hd _ rfl (by simpa using hc)).mono ?_
        rintro e w' ⟨rfl, hb'⟩
        exact ⟨hb', fun _ => rfl, fun T j h' => by rw [h] at h'; cases h'⟩
  · cases hd : decV N (X.take 4096) with
    | none =>
      have h : progR N (X.take 4096) = none := by unfold progR; rw [hd]
      refine (gread_no N w p l c X hb hX h4 (by omega) (by omega) hd).mono ?_
      rintro e w' ⟨rfl, hb'⟩
      exact ⟨hb', fun _ => rfl, fun T j h' => by rw [h] at h'; cases h'⟩
    | some q =>
      obtain ⟨T, j⟩ := q
      by_cases hc : checkM (measD N 0 T) = 0
      · have h : progR N (X.take 4096) = some (T, j) := by unfold progR; rw [hd]; simp only; rw [if_pos hc]
        refine (gread_ok N w p l c X hb hX h4 (by omega) (by omega) T j hd (by have := (decV_le _ _ _ _ hd).2; rw [List.length_take] at this; omega) hc).mono ?_
        rintro e w' ⟨v, rfl, hb', hr⟩
        refine ⟨hb', fun h' => (by rw [h] at h'; cases h'), fun T' j' h' => ?_⟩
        rw [h] at h'
        cases h'
        exact ⟨v, rfl, repS_mono (fun b h => Nat.le_of_lt h) _ _ _ hr⟩
      · have h : progR N (X.take 4096) = none := by unfold progR; rw [hd]; simp only; rw [if_neg hc]
        refine (gread_bad N w p l c X hb hX h4 (by omega) (by omega) T j hd _ rfl (by simpa using hc)).mono ?_
        rintro e w' ⟨rfl, hb'⟩
        exact ⟨hb', fun _ => rfl, fun T j h' => by rw [h] at h'; cases h'⟩
set_option maxRecDepth 100000 in
set_option maxHeartbeats 4000000 in
theorem rread_some_s (N : Nat) (w : World) (p : Option Addr) (l c : Nat) (X : List Int) (hb : RdB w p l c X) (hX : By X) (hN : l ≤ N) (hl : l ≤ 100000) (T : VT N) (j : Nat) (hd : refV N 0 X = some (T, j)) :
    Calls Try.prog 45 #[.slice p l c] w (RdPS N (refRd N X) w) := by
  have HB := Lib.hid (rd_keep ((Below.refl w.heap.size w).alloc (Nat.le_refl _) (.cells #[.int .i64 0, .int .i64 0, .float .f64 0, .string ⟨#[]⟩, .slice none 0 0] 47)) hb)
  have HX := Lib.hid hX
  have HD := Lib.hid hd
  have RB := Lib.hid (row_alloc w #[.int .i64 0, .int .i64 0, .float .f64 0, .string ⟨#[]⟩, .slice none 0 0] 47)
  obtain ⟨E, hE⟩ : ∃ E, rcheckT N T = E := ⟨_, rfl⟩
  have HE := Lib.hid hE
  clear hd hb hX hE
  by_cases h0 : E = 0
  all_goals
    have hE0 : (E != 0) = decide (E ≠ 0) := by by_cases h : E = 0 <;> simp [h]
    have HE0 := Lib.hid h0
    go_enter Try.func45, Try.ntmps45
    go_wp2_with fail
    go_at_call 67; refine (rr_all N _ _ _ _ 0 X HB.out HX.out hN hl (by omega)).mono ?_; rintro e w1 ⟨hb1, hno, hyes⟩
    obtain ⟨v, rfl, hrep⟩ := hyes T j HD.out
    obtain ⟨K, I, F, S, q, a, d, rfl, _⟩ := repS_shape hrep
    have HB1 := Lib.hid (bel_box _ hb1)
    have HR := Lib.hid (rep_keep ((Below.refl w1.heap.size w1).alloc (Nat.le_refl _) (.cells #[.int .i64 K, .int .i64 I, .float .f64 F, .string S, .slice q a d] 47)) _ _ _ (repS_rep _ _ _ hrep))
    have hrlt := repS_lt _ _ _ hrep
    have HS := Lib.hid (repS_keep (fun b hb' => Below.heap_alloc w1 (.cells #[.int .i64 K, .int .i64 I, .float .f64 F, .string S, .slice q a d] 47) _ hb'.2) _ _ _ hrlt)
    have RB1 := Lib.hid (row_alloc_step (row_step RB.out hb1) (.cells #[.int .i64 K, .int .i64 I, .float .f64 F, .string S, .slice q a d] 47))
    have RV1 := Lib.hid (row_alloc w1 #[.int .i64 K, .int .i64 I, .float .f64 F, .string S, .slice q a d] 47)
    have hlw : w.heap.size < w1.heap.size := by have h3 := hb1.size; rw [World.size_alloc] at h3; omega
    clear hb1 hno hyes hrep hrlt
    go_wp2_with fail
    go_at_call 61; refine (rcheck_any N _ T _ HR.out).mono ?_; rintro e w2 ⟨rfl, hb2⟩
    rw [HE.out]
    have HB2 := Lib.hid (bel_step (bel_alloc HB1.out _) hb2)
    have HS2 := Lib.hid (repS_keep (fun b hb' => hb2.block b (by rw [World.size_alloc]; have := hb'.2; omega)) _ _ _ HS.out)
    have hr1 := row_step RB1.out hb2
    have hv1 := row_step RV1.out hb2
    have d0 := row_cell hr1 0; have d1 := row_cell hr1 1; have d2 := row_cell hr1 2; have d3 := row_cell hr1 3; have d4 := row_cell hr1 4
    have k0 := row_cell hv1 0; have k1 := row_cell hv1 1; have k2 := row_cell hv1 2; have k3 := row_cell hv1 3; have k4 := row_cell hv1 4
    simp only [List.getElem?_toArray, List.getElem?_cons_zero, List.getElem?_cons_succ] at d0 d1 d2 d3 d4 k0 k1 k2 k3 k4
    have df := fun o => row_frz hr1 o
    have hlt := row_lt hr1
    have hne : w.heap.size ≠ w1.heap.size := by omega
    have ha := fun (o : Obj) (v0 v1 v2 v3 v4 : Value) (i : Nat) => cell_alloc5 hlt o v0 v1 v2 v3 v4 i
    clear hr1 hv1 hb2
    go_wp2
  · refine bodyPost_ret (v := .tuple #[.agg #[.int .i64 K, .int .i64 I, .float .f64 F, .string S, .slice q a d], .int .i64 (j : Int), .int .i64 0]) (by simp [results, Try.results45, go_sem, ha, World.cell?_setCell_same, World.cell?_setCell_other, d0, d1, d2, d3, d4]) rfl ?_
    refine ⟨bel_set5 HB2.out (Nat.le_refl _) _ _ _ _ _, fun h => (by rw [refRd_ok HD.out (by rw [HE.out]; exact HE0.out)] at h; cases h), fun T' j' h => ?_⟩
    rw [refRd_ok HD.out (by rw [HE.out]; exact HE0.out)] at h
    cases h
    exact ⟨_, rfl, repS_mono (fun b hb' => by have h1 := hb'.1; rw [World.size_alloc] at h1; omega) _ _ _ (repS_keep (fun b hb' => set5_heap (show b ≠ w.heap.size by have h1 := hb'.1; rw [World.size_alloc] at h1; omega) _ _ _ _ _) _ _ _ HS2.out)⟩
  · refine bodyPost_ret (v := .tuple #[.agg #[.int .i64 0, .int .i64 0, .float .f64 0, .string ⟨#[]⟩, .slice none 0 0], .int .i64 0, .int .i64 20]) (by simp [results, Try.results45, go_sem, ha, World.cell?_setCell_same, World.cell?_setCell_other, d0, d1, d2, d3, d4]) rfl ?_
    exact ⟨bel_set5 HB2.out (Nat.le_refl _) _ _ _ _ _, fun _ => rfl, fun T j h => by rw [refRd_bad HD.out (by rw [HE.out]; exact HE0.out)] at h; cases h⟩
theorem rread_s (N : Nat) (w : World) (p : Option Addr) (l c : Nat) (X : List Int) (hb : RdB w p l c X) (hX : By X) (hN : l ≤ N) (hl : l ≤ 100000) :
    Calls Try.prog 45 #[.slice p l c] w (RdPS N (refRd N X) w) := by
  cases hd : refV N 0 X with
  | none =>
    refine (rread_none N w p l c X hb hX hN hl hd).mono ?_
    rintro e w' ⟨h1, h2, h3⟩
    exact ⟨h1, h2, fun T j h => by rw [refRd_none hd] at h; cases h⟩
  | some q => obtain ⟨T, j⟩ := q; exact rread_some_s N w p l c X hb hX hN hl T j hd
end Num
end Go.Proofs.Ytomfgncbdgifoaa
/-
  package call's reader: a value.
-/
namespace Go.Proofs.Ytomfgncbdgifoaa
open Go.RowKit
namespace Num
open Ints
set_option linter.unusedSimpArgs false
set_option linter.unusedVariables false
/-- A value that stands first; the empty one, if there is none. -/
def valV (M : Nat) (X : List Int) : VT (M + 1) := match refRd (M + 1) X with | none => (0, 0, 0, ⟨#[]⟩, []) | some (T, _) => T
def valX (M : Nat) (X : List Int) : List Int := match refRd (M + 1) X with | none => [] | some (_, j) => X.drop j
theorem val_none {M : Nat} {X : List Int} (h : refRd (M + 1) X = none) : valV M X = (0, 0, 0, ⟨#[]⟩, []) ∧ valX M X = [] := by unfold valV valX; rw [h]; exact ⟨rfl, rfl⟩
theorem val_some {M : Nat} {X : List Int} {T : VT (M + 1)} {j : Nat} (h : refRd (M + 1) X = some (T, j)) : valV M X = T ∧ valX M X = X.drop j := by unfold valV valX; rw [h]; exact ⟨rfl, rfl⟩
theorem refRd_le {N : Nat} {X : List Int} {T : VT N} {j : Nat} (h : refRd N X = some (T, j)) : 1 ≤ j ∧ j ≤ X.length := by
  unfold refRd at h
  cases hr : refV N 0 X with
  | none => rw [hr] at h; cases h
  | some q =>
    obtain ⟨T1, j1⟩ := q
    rw [hr] at h
    simp only at h
    split at h
    · cases h; exact decV_le _ _ _ _ (ref_dec _ _ _ _ _ hr).1
    · cases h
theorem repS_zero (S : Nat → Prop) (w : World) (M : Nat) : RepS S w (M + 1) (.agg #[.int .i64 0, .int .i64 0, .float .f64 0, .string ⟨#[]⟩, .slice none 0 0]) (0, 0, 0, ⟨#[]⟩, []) :=
  ⟨none, 0, 0, rfl, (show okI 0 by decide), (show okI 0 by decide), (show (0 : Nat) < 2 ^ 64 by decide), (show (⟨#[]⟩ : ByteArray).size ≤ maxLen by decide), rfl, Nat.le_refl _, Nat.zero_le _, fun h => absurd h (Nat.lt_irrefl _)⟩
theorem set5_rowW {w : World} {b : Nat} {a0 a1 a2 a3 a4 : Value} {t : TypeId} (h : w.heap[b]? = some (.cells #[a0, a1, a2, a3, a4] t (0, 0))) (v0 v1 v2 v3 v4 : Value) :
    (((((w.setCell ⟨b, 0, none⟩ v0).setCell ⟨b, 1, none⟩ v1).setCell ⟨b, 2, none⟩ v2).setCell ⟨b, 3, none⟩ v3).setCell ⟨b, 4, none⟩ v4).heap[b]? = some (.cells #[v0, v1, v2, v3, v4] t (0, 0)) := by
  simp [World.setCell, Array.getElem?_modify, h]
theorem grown_set5 (w : World) (b : Nat) (v0 v1 v2 v3 v4 : Value) : w.grownBy (((((w.setCell ⟨b, 0, none⟩ v0).setCell ⟨b, 1, none⟩ v1).setCell ⟨b, 2, none⟩ v2).setCell ⟨b, 3, none⟩ v3).setCell ⟨b, 4, none⟩ v4) (some b) :=
  ((((grown_set1 w b 0 v0).trans (grown_set1 _ b 1 v1)).trans (grown_set1 _ b 2 v2)).trans (grown_set1 _ b 3 v3)).trans (grown_set1 _ b 4 v4)
theorem rdr_set5 {B : Nat} {w : World} {b b2 : Nat} {t : TypeId} {cs : Array Value} {X : List Int} {lost : Bool} (h : Rdr B w b X lost) (hb : w.heap[b2]? = some (.cells cs t (0, 0))) (hno : cs.toList.all noB = true) (hne : b2 ≠ b) (v0 v1 v2 v3 v4 : Value) : Rdr B (((((w.setCell ⟨b2, 0, none⟩ v0).setCell ⟨b2, 1, none⟩ v1).setCell ⟨b2, 2, none⟩ v2).setCell ⟨b2, 3, none⟩ v3).setCell ⟨b2, 4, none⟩ v4) b X lost :=
  rdr_at h hb hno hne (grown_set5 w b2 v0 v1 v2 v3 v4)
def ValP (B M : Nat) (w : World) (b : Nat) (X : List Int) (lost : Bool) (e : Ending) (w' : World) : Prop := w.grownBy w' (some b) ∧ Rdr B w' b (valX M X) (lost || (refRd (M + 1) X).isNone) ∧ ∃ v, e = .returned v ∧ RepS (fun x => w.heap.size ≤ x) w' (M + 1) v (valV M X)
set_option maxRecDepth 100000 in
set_option maxHeartbeats 1000000 in
theorem value_any {B : Nat} (M : Nat) (h4 : 4096 ≤ M) (hM : M < 100000) (w : World) (b : Nat) (X : List Int) (lost : Bool) (h : Rdr B w b X lost) (hX : By X) (hl : X.length ≤ M) : Calls Try.prog 47 #[.pointer (some ⟨b, 0, none⟩)] w (ValP B M w b X lost) := by
  have hlt := rdr_lt h
  obtain ⟨zb, hzb⟩ : ∃ z : Obj, (.cells #[.int .i64 0, .int .i64 0, .float .f64 0, .string ⟨#[]⟩, .slice none 0 0] 47) = z := ⟨_, rfl⟩
  have H0 := rdr_keep h ((Below.refl w.heap.size w).alloc (Nat.le_refl _) zb)
  subst hzb
  have HG0 := Lib.hid (gb_alloc (World.grownBy.refl w (some b)) (.cells #[.int .i64 0, .int .i64 0, .float .f64 0, .string ⟨#[]⟩, .slice none 0 0] 47))
  have R0 := Lib.hid (row_alloc w #[.int .i64 0, .int .i64 0, .float .f64 0, .string ⟨#[]⟩, .slice none 0 0] 47)
  have HH := Lib.hid H0
  obtain ⟨p, l, c, hb, hr, hB⟩ := H0
  have c0 : (w.alloc (.cells #[.int .i64 0, .int .i64 0, .float .f64 0, .string ⟨#[]⟩, .slice none 0 0] 47)).cell? ⟨b, 0, none⟩ = some (.slice p l c) := row_cell hb 0
  have HC := Lib.hid (wread_s (M + 1) _ p l c X hr hX (by have := hr.1; omega) (by omega) (by omega))
  clear h hX hb hr hB
  cases hd : refRd (M + 1) X with
  | none =>
    rw [hd] at HC
    have HV := Lib.hid (val_none hd)
    have HD := Lib.hid hd
    clear hd
    go_enter Try.func47, Try.ntmps47
    go_wp2_with fail
    go_at_call 69; refine HC.out.mono ?_; rintro e w1 ⟨hb1, h1, h2⟩
    obtain rfl := h1 rfl
    clear h1 h2
    have HG1 := Lib.hid (gb_alloc (gb_bel HG0.out hb1) (.cells #[.int .i64 0, .int .i64 0, .float .f64 0, .string ⟨#[]⟩, .slice none 0 0] 47))
    have HR1 := Lib.hid (rdr_keep (rdr_keep HH.out hb1) ((Below.refl w1.heap.size w1).alloc (Nat.le_refl _) (.cells #[.int .i64 0, .int .i64 0, .float .f64 0, .string ⟨#[]⟩, .slice none 0 0] 47)))
    have RA := Lib.hid (row_alloc_step (row_step R0.out hb1) (.cells #[.int .i64 0, .int .i64 0, .float .f64 0, .string ⟨#[]⟩, .slice none 0 0] 47))
    have RB := Lib.hid (row_alloc w1 #[.int .i64 0, .int .i64 0, .float .f64 0, .string ⟨#[]⟩, .slice none 0 0] 47)
    have hs1 : w.heap.size < w1.heap.size := by have := hb1.size; rw [World.size_alloc] at this; omega
    clear hb1
    go_wp2_with fail
    go_at_call 66; refine (pass_no _ b X lost 0 HR1.out).mono ?_; rintro e w2 ⟨rfl, hg2, hr2⟩
    have HG2 := Lib.hid (HG1.out.trans hg2)
    have hne1 : w.heap.size ≠ b := by omega
    have hne2 : w1.heap.size ≠ b := by omega
    have ka := row_grown RA.out hg2 (fun e => hne1 (by injection e))
    have kb := row_grown RB.out hg2 (fun e => hne2 (by injection e))
    have c0 := row_cell kb 0; have c1 := row_cell kb 1; have c2 := row_cell kb 2; have c3 := row_cell kb 3; have c4 := row_cell kb 4
    have d0 := row_cell ka 0; have d1 := row_cell ka 1; have d2 := row_cell ka 2; have d3 := row_cell ka 3; have d4 := row_cell ka 4
    simp only [List.getElem?_toArray, List.getElem?_cons_zero, List.getElem?_cons_succ] at c0 c1 c2 c3 c4 d0 d1 d2 d3 d4
    have fa := fun o => row_frz ka o
    have KA := Lib.hid ka
    have HR2 := Lib.hid hr2
    clear ka kb hg2 hr2
    go_wp2
    refine bodyPost_ret (v := .agg #[.int .i64 0, .int .i64 0, .float .f64 0, .string ⟨#[]⟩, .slice none 0 0]) (by simp [results, Try.results47, go_sem, World.cell?_setCell_same, World.cell?_setCell_other, d0, d1, d2, d3, d4]) rfl ?_
    refine ⟨gb_set (gb_set (gb_set (gb_set (gb_set HG2.out (Nat.le_refl _) _ _) (Nat.le_refl _) _ _) (Nat.le_refl _) _ _) (Nat.le_refl _) _ _) (Nat.le_refl _) _ _, ?_, _, rfl, ?_⟩
    · rw [HV.out.2, HD.out]
      simp only [Option.isNone_none, Bool.or_true]
      exact rdr_set5 HR2.out KA.out rfl hne1 _ _ _ _ _
    · rw [HV.out.1]
      exact repS_zero _ _ _
  | some q =>
    obtain ⟨T, j⟩ := q
    rw [hd] at HC
    have HV := Lib.hid (val_some hd)
    have HD := Lib.hid hd
    have hj := (refRd_le hd).2
    clear hd
    go_enter Try.func47, Try.ntmps47
    go_wp2_with fail
    go_at_call 69; refine HC.out.mono ?_; rintro e w1 ⟨hb1, h1, h2⟩
    obtain ⟨v, rfl, hrep⟩ := h2 T j rfl
    obtain ⟨K, I, F, S, q, a, d, rfl, _⟩ := repS_shape hrep
    clear h1 h2
    have HG1 := Lib.hid (gb_alloc (gb_bel HG0.out hb1) (.cells #[.int .i64 K, .int .i64 I, .float .f64 F, .string S, .slice q a d] 47))
    have HR1 := Lib.hid (rdr_keep (rdr_keep HH.out hb1) ((Below.refl w1.heap.size w1).alloc (Nat.le_refl _) (.cells #[.int .i64 K, .int .i64 I, .float .f64 F, .string S, .slice q a d] 47)))
    have RA := Lib.hid (row_alloc_step (row_step R0.out hb1) (.cells #[.int .i64 K, .int .i64 I, .float .f64 F, .string S, .slice q a d] 47))
    have RB := Lib.hid (row_alloc w1 #[.int .i64 K, .int .i64 I, .float .f64 F, .string S, .slice q a d] 47)
    have hs1 : w.heap.size < w1.heap.size := by have := hb1.size; rw [World.size_alloc] at this; omega
    have HS1 := Lib.hid (repS_keep (fun x hx => Below.heap_alloc w1 (.cells #[.int .i64 K, .int .i64 I, .float .f64 F, .string S, .slice q a d] 47) x hx.2) _ _ _ (repS_lt _ _ _ hrep))
    clear hrep
    clear hb1
    go_wp2_with fail
    go_at_call 66; refine (pass_yes _ b X lost j HR1.out hj).mono ?_; rintro e w2 ⟨rfl, hg2, hr2⟩
    have HG2 := Lib.hid (HG1.out.trans hg2)
    have hne1 : w.heap.size ≠ b := by omega
    have hne2 : w1.heap.size ≠ b := by omega
    have ka := row_grown RA.out hg2 (fun e => hne1 (by injection e))
    have kb := row_grown RB.out hg2 (fun e => hne2 (by injection e))
    have c0 := row_cell kb 0; have c1 := row_cell kb 1; have c2 := row_cell kb 2; have c3 := row_cell kb 3; have c4 := row_cell kb 4
    have d0 := row_cell ka 0; have d1 := row_cell ka 1; have d2 := row_cell ka 2; have d3 := row_cell ka 3; have d4 := row_cell ka 4
    simp only [List.getElem?_toArray, List.getElem?_cons_zero, List.getElem?_cons_succ] at c0 c1 c2 c3 c4 d0 d1 d2 d3 d4
    have fa := fun o => row_frz ka o
    have KA := Lib.hid ka
    have HR2 := Lib.hid hr2
    have HS2 := Lib.hid (repS_keep (fun x hx => hg2.block x (by have := hx.2; rw [World.size_alloc]; omega) (fun e => by injection e with e; have := hx.1; rw [World.size_alloc] at this; omega)) _ _ _ HS1.out)
    clear ka kb hg2 hr2
    go_wp2
    refine bodyPost_ret (v := .agg #[.int .i64 K, .int .i64 I, .float .f64 F, .string S, .slice q a d]) (by simp [results, Try.results47, go_sem, World.cell?_setCell_same, World.cell?_setCell_other, d0, d1, d2, d3, d4]) rfl ?_
    refine ⟨gb_set (gb_set (gb_set (gb_set (gb_set HG2.out (Nat.le_refl _) _ _) (Nat.le_refl _) _ _) (Nat.le_refl _) _ _) (Nat.le_refl _) _ _) (Nat.le_refl _) _ _, ?_, _, rfl, ?_⟩
    · rw [HV.out.2, HD.out]
      simp only [Option.isNone_some, Bool.or_false]
      exact rdr_set5 HR2.out KA.out rfl hne1 _ _ _ _ _
    · rw [HV.out.1]
      exact repS_mono (fun x hx => by have := hx.1; rw [World.size_alloc] at this; omega) _ _ _ (repS_keep (fun x hx => set5_heap (show x ≠ w.heap.size by have := hx.1; rw [World.size_alloc] at this; omega) _ _ _ _ _) _ _ _ HS2.out)
end Num
end Go.Proofs.Ytomfgncbdgifoaa
/-
  package call's reader: a call's arguments.
-/
namespace Go.Proofs.Ytomfgncbdgifoaa
open Go.RowKit
namespace Num
open Ints
set_option linter.unusedSimpArgs false
set_option linter.unusedVariables false
/-- As many values, one behind another: what they are, what is left, whether one isn't there. -/
def argsR (M : Nat) : Nat → List Int → List (VT (M + 1)) × List Int × Bool
  | 0, X => ([], X, false)
  | k + 1, X => ((argsR M k X).1 ++ [valV M (argsR M k X).2.1], valX M (argsR M k X).2.1, (argsR M k X).2.2 || (refRd (M + 1) (argsR M k X).2.1).isNone)
def argsV (M : Nat) (X : List Int) : List (VT (M + 1)) := if 16 < numV 1 X then [] else (argsR M (numV 1 X).toNat (X.drop 1)).1
def argsX (M : Nat) (X : List Int) : List Int := if 16 < numV 1 X then [] else (argsR M (numV 1 X).toNat (X.drop 1)).2.1
def argsL (M : Nat) (X : List Int) : Bool := if 16 < numV 1 X then true else (decide (X.length < 1) || (argsR M (numV 1 X).toNat (X.drop 1)).2.2)
theorem valX_by {M : Nat} {X : List Int} (h : By X) : By (valX M X) := by
  unfold valX
  cases refRd (M + 1) X with
  | none => exact fun x hx => by cases hx
  | some q => exact by_drop h _
theorem valX_len (M : Nat) (X : List Int) : (valX M X).length ≤ X.length := by
  unfold valX
  cases refRd (M + 1) X with
  | none => exact Nat.zero_le _
  | some q => rw [List.length_drop]; omega
theorem argsR_by {M : Nat} {X : List Int} (h : By X) : ∀ k, By (argsR M k X).2.1
  | 0 => h
  | k + 1 => valX_by (argsR_by h k)
theorem argsR_len (M : Nat) (X : List Int) : ∀ k, (argsR M k X).2.1.length ≤ X.length
  | 0 => Nat.le_refl _
  | k + 1 => Nat.le_trans (valX_len _ _) (argsR_len M X k)
theorem argsR_num (M : Nat) (X : List Int) : ∀ k, (argsR M k X).1.length = k
  | 0 => rfl
  | k + 1 => by show (_ ++ [_]).length = _; rw [List.length_append, argsR_num M X k]; rfl
theorem numV_one {X : List Int} (h : By X) : ∃ m : Nat, numV 1 X = (m : Int) ∧ m < 256 := by
  unfold numV
  split
  · exact ⟨0, rfl, by omega⟩
  · match X with
    | [] => exact ⟨0, rfl, by omega⟩
    | a :: X =>
      have ha := h a (List.mem_cons_self ..)
      refine ⟨a.toNat, ?_, by omega⟩
      show rdU [a] = _
      rw [rdU_one a ha.1 ha.2]; omega
/-- The world as far as block B. -/
def baseW (w : World) (B : Nat) : World := { w with heap := w.heap.extract 0 B }
theorem base_size {w : World} {B : Nat} (h : B ≤ w.heap.size) : (baseW w B).heap.size = B := by
  show (w.heap.extract 0 B).size = B
  rw [Array.size_extract]; omega
theorem base_bel {w : World} {B : Nat} (h : B ≤ w.heap.size) : Below (baseW w B).heap.size (baseW w B) w := by
  refine ⟨rfl, rfl, rfl, by rw [base_size h]; exact h, fun k hk => ?_⟩
  rw [base_size h] at hk
  show w.heap[k]? = (w.heap.extract 0 B)[k]?
  rw [Array.getElem?_extract, if_pos (by omega), Nat.zero_add]
/-- A list of values of the call's own, made since block B. -/
def OwA (B : Nat) (w : World) (n : Nat) (p : Option Addr) (l c : Nat) (L : List (VT n)) : Prop := B ≤ w.heap.size ∧ OwL (baseW w B) w n p l c L
theorem oa_nil {B : Nat} {w : World} (n : Nat) (h : B ≤ w.heap.size) : OwA B w n none 0 0 [] := ⟨h, ol_nil _ _ _ (base_bel h) (by rw [base_size h]; exact h)⟩
/-- What is written in a block below B leaves it. -/
theorem oa_step {B : Nat} {w w1 : World} {b n : Nat} {p : Option Addr} {l c : Nat} {L : List (VT n)} (h : OwA B w n p l c L) (hg : w.grownBy w1 (some b)) (hb : b < B) : OwM w.heap.size (baseW w1 B) w1 n p l c L := by
  obtain ⟨hB, XS, h1, h2, h3, h4, hM, g, h5⟩ := h
  have hB1 : B ≤ w1.heap.size := Nat.le_trans hB hg.size
  rw [base_size hB] at h1 h4
  refine ⟨XS, by rw [base_size hB1]; exact h1.kept hg (by
    cases ho : Value.ownBlock (.slice p l c) with
    | none => exact Or.inl rfl
    | some k => exact Or.inr (fun e => by injection e with e; have := (h1.lt k ho).1; omega)), h2, base_bel hB1, by rw [base_size hB1]; exact hB1, hg.size, g, fun i hi => ?_⟩
  obtain ⟨v0, v1, v2, v3, v4, c0, c1, c2, c3, c4, hr⟩ := h5 i hi
  refine ⟨v0, v1, v2, v3, v4, c0, c1, c2, c3, c4, repC_mono n _ _ _ _ (fun x hx => ?_) (repC_keep n _ _ _ (fun x hx => hg.block x hx.1.2.1 (fun e => ?_)) hr)⟩
  · refine ⟨⟨?_, Nat.lt_of_lt_of_le hx.1.2.1 hg.size, hx.1.2.2⟩, hx.2⟩
    have := hx.1.1
    rw [base_size hB] at this
    rw [base_size hB1]; exact this
  · injection e with e
    have := hx.1.1
    rw [base_size hB] at this
    omega
theorem rep_freshA {B : Nat} {w w1 : World} {b n : Nat} {p : Option Addr} {l c : Nat} {L : List (VT n)} (h : OwA B w n p l c L) (hg : w.grownBy w1 (some b)) {v : Value} {T : VT n} (hr : RepS (fun x => w.heap.size ≤ x) w1 n v T) : RepC w1 n (fun x => Fr (baseW w1 B) w1 (.slice p l c) x ∧ w.heap.size ≤ x) v T := by
  obtain ⟨hB, hol⟩ := h
  have hlt := ol_lt hol
  refine repC_mono n _ _ _ _ (fun x hx => ⟨⟨?_, hx.2, fun e => ?_⟩, hx.1⟩) (repS_lt n _ _ hr)
  · rw [base_size (Nat.le_trans hB hg.size)]
    exact Nat.le_trans hB hx.1
  · have := (hlt x e).2
    have := hx.1
    omega
/-- Below B all is as it was. -/
def Upto (B : Nat) (w w' : World) : Prop := w'.os = w.os ∧ w'.tape = w.tape ∧ w'.output = w.output ∧ B ≤ w'.heap.size ∧ ∀ k, k < B → w'.heap[k]? = w.heap[k]?
theorem gb_upto {w0 w1 w2 : World} {r : Option Nat} (h : w0.grownBy w1 r) (h2 : Upto w0.heap.size w1 w2) : w0.grownBy w2 r :=
  ⟨h2.1.trans h.os, h2.2.1.trans h.tape, h2.2.2.1.trans h.output, h2.2.2.2.1, fun i hi hne => (h2.2.2.2.2 i hi).trans (h.block i hi hne)⟩
theorem rdr_upto {B B2 b : Nat} {w w' : World} {X : List Int} {lost : Bool} (h : Rdr B w b X lost) (hB : B ≤ B2) (hb : b < B2) (hu : Upto B2 w w') : Rdr B w' b X lost := by
  obtain ⟨p, l, c, h1, h2, h3⟩ := h
  refine ⟨p, l, c, (hu.2.2.2.2 b hb).trans h1, ?_, h3⟩
  obtain ⟨k1, k2, k3, k4, k5⟩ := h2
  refine ⟨k1, k2, k3, fun hl => ?_, k5⟩
  obtain ⟨pb, off, hp, hc⟩ := k4 hl
  obtain ⟨pb', off', hp', hlt⟩ := h3 hl
  rw [hp] at hp'
  cases hp'
  exact ⟨pb, off, hp, fun i hi => cell_block (hu.2.2.2.2 pb (by omega)) (hc i hi)⟩
theorem oa_of {B : Nat} {w1 w' : World} {n : Nat} {p : Option Addr} {l c : Nat} {L : List (VT n)} (hB : B ≤ w1.heap.size) (h : OwL (baseW w1 B) w' n p l c L) : OwA B w' n p l c L ∧ Upto B w1 w' := by
  have hb := ow_bel_l h
  obtain ⟨XS, h1, h2, h3, h4, h5⟩ := h
  rw [base_size hB] at h1 h4 hb
  have hB' : B ≤ w'.heap.size := h4
  refine ⟨⟨hB', XS, by rw [base_size hB']; exact h1, h2, base_bel hB', by rw [base_size hB']; exact hB', ?_⟩, ?_⟩
  · unfold Fr at h5 ⊢
    rw [base_size hB'] 
    rw [base_size hB] at h5
    exact h5
  · refine ⟨hb.os, hb.tape, hb.output, hB', fun k hk => (hb.block k hk).trans ?_⟩
    show (w1.heap.extract 0 B)[k]? = w1.heap[k]?
    rw [Array.getElem?_extract, if_pos (by omega), Nat.zero_add]
def ArgsP (B M : Nat) (w : World) (b : Nat) (X : List Int) (lost : Bool) (e : Ending) (w' : World) : Prop := w.grownBy w' (some b) ∧ Rdr B w' b (argsX M X) (lost || argsL M X) ∧ ∃ p l c, e = .returned (.slice p l c) ∧ RepLS (fun x => w.heap.size ≤ x) w' (RepC w' (M + 1)) p l c (argsV M X)
set_option maxRecDepth 100000 in
set_option maxHeartbeats 1000000 in
theorem args_any {B : Nat} (M : Nat) (h4 : 4096 ≤ M) (hM : M < 100000) (w : World) (b : Nat) (X : List Int) (lost : Bool) (h : Rdr B w b X lost) (hBb : B ≤ b) (hX : By X) (hl : X.length ≤ M) : Calls Try.prog 42 #[.pointer (some ⟨b, 0, none⟩)] w (ArgsP B M w b X lost) := by
  have hlt := rdr_lt h
  have H := Lib.hid h
  have HX := Lib.hid hX
  have HXd := Lib.hid (by_drop hX 1)
  have HLd := Lib.hid (show (X.drop 1).length ≤ M by rw [List.length_drop]; omega)
  obtain ⟨m, hm, hm256⟩ := numV_one hX
  have HM := Lib.hid hm
  by_cases h16 : 16 < m
  · have HV := Lib.hid (show argsV M X = [] ∧ argsX M X = [] ∧ argsL M X = true by
      unfold argsV argsX argsL; rw [hm, if_pos (by omega), if_pos (by omega), if_pos (by omega)]; exact ⟨rfl, rfl, rfl⟩)
    clear h hX hm
    go_enter Try.func42, Try.ntmps42
    go_wp2_with fail
    go_at_call 46; refine (number_any w b 1 X lost H.out HX.out (by omega)).mono ?_; rintro e w1 ⟨rfl, hg1, hr1⟩
    rw [HM.out]
    have HG1 := Lib.hid hg1
    have HR1 := Lib.hid hr1
    clear hg1 hr1
    go_wp2_with fail
    go_at_call 66; refine (pass_no w1 b _ _ 0 HR1.out).mono ?_; rintro e w2 ⟨rfl, hg2, hr2⟩
    have HG2 := Lib.hid (HG1.out.trans hg2)
    have HR2 := Lib.hid hr2
    clear hg2 hr2
    go_wp2
    go_ret
    refine ⟨HG2.out, ?_, none, 0, 0, rfl, ?_⟩
    · rw [HV.out.2.1, HV.out.2.2, Bool.or_true]; exact HR2.out
    · rw [HV.out.1]; exact ⟨rfl, Nat.le_refl _, Nat.zero_le _, fun h => absurd h (Nat.lt_irrefl _)⟩
  · have HV := Lib.hid (show argsV M X = (argsR M m (X.drop 1)).1 ∧ argsX M X = (argsR M m (X.drop 1)).2.1 ∧ argsL M X = (decide (X.length < 1) || (argsR M m (X.drop 1)).2.2) by
      unfold argsV argsX argsL; rw [hm, if_neg (by omega), if_neg (by omega), if_neg (by omega), Int.toNat_natCast]; exact ⟨rfl, rfl, rfl⟩)
    clear h hX hm
    go_enter Try.func42, Try.ntmps42
    go_wp2_with fail
    go_at_call 46; refine (number_any w b 1 X lost H.out HX.out (by omega)).mono ?_; rintro e w1 ⟨rfl, hg1, hr1⟩
    rw [HM.out]
    have HG1 := Lib.hid hg1
    have HR1 := Lib.hid hr1
    have hs1 : w.heap.size ≤ w1.heap.size := hg1.size
    clear hg1 hr1
    go_wp2
    go_loopw [4, 12] (fun lv i wr => ∃ (k : Nat) (q : Option Addr) (d : Nat), k ≤ m ∧ i = .int .u64 (k : Int) ∧ lv = .slice q k d ∧ w1.grownBy wr (some b) ∧ Rdr B wr b (argsR M k (X.drop 1)).2.1 ((lost || decide (X.length < 1)) || (argsR M k (X.drop 1)).2.2) ∧ OwA w1.heap.size wr (M + 1) q k d (argsR M k (X.drop 1)).1) (fun _ i _ => m - (intOf i).toNat)
    case atStart => exact ⟨0, none, 0, Nat.zero_le _, rfl, rfl, World.grownBy.refl _ _, by show Rdr B w1 b (X.drop 1) (_ || false); rw [Bool.or_false]; exact HR1.out, oa_nil _ (Nat.le_refl _)⟩
    case round =>
      obtain ⟨k, q, d, hk, rfl, rfl, hg, hr, ho⟩ := hrel
      have HG := Lib.hid hg
      have HR := Lib.hid hr
      have HO := Lib.hid ho
      clear hg hr ho
      by_cases hkm : k < m
      · go_wp2_with fail
        go_at_call 47; refine (value_any M h4 hM wr b _ _ HR.out (argsR_by HXd.out k) (Nat.le_trans (argsR_len _ _ _) HLd.out)).mono ?_; rintro e w2 ⟨hg2, hr2, v, rfl, hrep⟩
        obtain ⟨K, I, F, S, q', l', c', rfl, _⟩ := repS_shape hrep
        have HG2 := Lib.hid (HG.out.trans hg2)
        have HR2 := Lib.hid hr2
        have HO2 := Lib.hid (oa_step HO.out hg2 (show b < w1.heap.size by omega))
        have HF2 := Lib.hid (rep_freshA HO.out hg2 hrep)
        have HB2 := Lib.hid (show w1.heap.size ≤ w2.heap.size from HG2.out.size)
        clear hg2 hr2 hrep
        go_wp2_with (at_builtin; refine wp_ov1 rfl (.tmp 14) (.tmp 17) rfl wr.heap.size (baseW w2 w1.heap.size) w2 (M + 1) q k d _ _ _ _ _ _ _ rfl rfl HO2.out (by omega) HF2.out ?_; intro p2 c2 w3 ho3)
        obtain ⟨ho4, hu4⟩ := oa_of HB2.out ho3
        have HO4 := Lib.hid ho4
        have HU4 := Lib.hid hu4
        clear ho3 ho4 hu4
        go_roundw
        case rel => exact ⟨k + 1, p2, c2, by omega, by go_num, rfl, gb_upto HG2.out HU4.out, rdr_upto (by show Rdr B w2 b (valX M (argsR M k (X.drop 1)).2.1) ((lost || decide (X.length < 1)) || ((argsR M k (X.drop 1)).2.2 || _)); rw [← Bool.or_assoc]; exact HR2.out) (by omega) (by omega) HU4.out, HO4.out⟩
        case measure => simp [intOf]; omega
      · obtain rfl : k = m := by omega
        go_wp2
        go_ret
        refine ⟨HG1.out.trans HG.out, ?_, q, k, d, rfl, ?_⟩
        · rw [HV.out.2.1, HV.out.2.2, ← Bool.or_assoc]; exact HR.out
        · rw [HV.out.1]; exact repLS_mono (fun x hx => by rw [base_size HO.out.1] at hx; omega) (ol_rep HO.out.2)
end Num
end Go.Proofs.Ytomfgncbdgifoaa
/-
  A call, as it is read: plain.
-/
namespace Go.Proofs.Ytomfgncbdgifoaa
open Go.RowKit
namespace Num
open Ints
set_option linter.unusedSimpArgs false
set_option linter.unusedVariables false
/-- A call's arguments, their count ahead, and how many bytes they take. -/
def argsD (M : Nat) : List Int → Option (List (VT (M + 1)) × Nat)
  | [] => none
  | k :: R => if 16 < k then none else match decL (refRd (M + 1)) k.toNat R with
    | none => none
    | some (L, j) => some (L, 1 + j)
/-- A call, and how many bytes it takes. -/
def opD (M : Nat) (X : List Int) : Option ((Int × Int × Int) × ByteArray × ByteArray × List (VT (M + 1)) × Nat) :=
  if X.length < 10 then none else match nameD (X.drop 10) with
  | none => none
  | some (S1, n1) => match nameD (X.drop (10 + n1)) with
    | none => none
    | some (S2, n2) => match argsD M (X.drop (10 + n1 + n2)) with
      | none => none
      | some (L, n3) => some (idV X, S1, S2, L, 10 + n1 + n2 + n3)
theorem argsR_dec (M : Nat) (X : List Int) : ∀ k, (∀ L j, decL (refRd (M + 1)) k X = some (L, j) → argsR M k X = (L, X.drop j, false) ∧ j ≤ X.length) ∧ (decL (refRd (M + 1)) k X = none → (argsR M k X).2.2 = true) := by
  intro k
  induction k with
  | zero => exact ⟨fun L j e => by cases e; exact ⟨rfl, Nat.zero_le _⟩, fun e => by cases e⟩
  | succ k ih =>
    obtain ⟨i1, i2⟩ := ih
    rw [decL]
    cases h1 : decL (refRd (M + 1)) k X with
    | none =>
      refine ⟨fun L j e => (by cases e), fun _ => ?_⟩
      show ((argsR M k X).2.2 || _) = true
      rw [i2 h1]; rfl
    | some q =>
      obtain ⟨L1, k1⟩ := q
      obtain ⟨a1, a2⟩ := i1 L1 k1 h1
      cases h2 : refRd (M + 1) (X.drop k1) with
      | none =>
        refine ⟨fun L j e => (by simp only [h2] at e; cases e), fun _ => ?_⟩
        show ((argsR M k X).2.2 || (refRd (M + 1) (argsR M k X).2.1).isNone) = true
        rw [a1]
        show (false || (refRd (M + 1) (X.drop k1)).isNone) = true
        rw [h2]; rfl
      | some q =>
        obtain ⟨T, j1⟩ := q
        have hj := (refRd_le h2).2
        rw [List.length_drop] at hj
        refine ⟨fun L j e => ?_, fun e => by simp only [h2] at e; cases e⟩
        simp only [h2] at e
        cases e
        obtain ⟨v1, v2⟩ := val_some h2
        refine ⟨?_, by omega⟩
        show ((argsR M k X).1 ++ [valV M (argsR M k X).2.1], valX M (argsR M k X).2.1, (argsR M k X).2.2 || (refRd (M + 1) (argsR M k X).2.1).isNone) = _
        rw [a1]
        show (L1 ++ [valV M (X.drop k1)], valX M (X.drop k1), false || (refRd (M + 1) (X.drop k1)).isNone) = _
        rw [v1, v2, h2, List.drop_drop]; rfl
theorem args_dec {M : Nat} {X : List Int} (hX : By X) : (∀ L n, argsD M X = some (L, n) → argsV M X = L ∧ argsX M X = X.drop n ∧ argsL M X = false ∧ n ≤ X.length) ∧ (argsD M X = none → argsL M X = true) := by
  cases X with
  | nil => exact ⟨fun L n e => (by cases e), fun _ => rfl⟩
  | cons k R =>
    have hk := hX k (List.mem_cons_self ..)
    have hn : numV 1 (k :: R) = k := by
      show rdU [k] = k
      exact rdU_one k hk.1 hk.2
    have hD : argsD M (k :: R) = if 16 < k then none else match decL (refRd (M + 1)) k.toNat R with
      | none => none
      | some (L, j) => some (L, 1 + j) := rfl
    rw [hD]
    unfold argsV argsX argsL
    rw [hn]
    by_cases h16 : 16 < k
    · rw [if_pos h16, if_pos h16, if_pos h16, if_pos h16]
      exact ⟨fun L n e => (by cases e), fun _ => rfl⟩
    · rw [if_neg h16, if_neg h16, if_neg h16, if_neg h16]
      obtain ⟨a1, a2⟩ := argsR_dec M R k.toNat
      have hd : (k :: R).drop 1 = R := rfl
      rw [hd]
      cases h1 : decL (refRd (M + 1)) k.toNat R with
      | none => exact ⟨fun L n e => (by cases e), fun _ => by rw [a2 h1, Bool.or_true]⟩
      | some q =>
        obtain ⟨L1, j1⟩ := q
        obtain ⟨b1, b2⟩ := a1 L1 j1 h1
        refine ⟨fun L n e => ?_, fun e => by cases e⟩
        cases e
        rw [b1]
        refine ⟨rfl, (by show R.drop j1 = _; rw [Nat.add_comm, List.drop_succ_cons]), ?_, by rw [List.length_cons]; omega⟩
        rw [decide_eq_false (by rw [List.length_cons]; omega)]; rfl
theorem nameD_le {X : List Int} {S : ByteArray} {n : Nat} (h : nameD X = some (S, n)) : n ≤ X.length ∧ nameV X = S ∧ nameX X = X.drop n ∧ (nameD X).isNone = false := by
  refine ⟨?_, by unfold nameV; rw [h], by unfold nameX; rw [h], by rw [h]; rfl⟩
  unfold nameD at h
  split at h
  · cases h; rename_i hs; exact hs.2.2
  · cases h
/-- Whether the program's reader is lost behind a call. -/
def opLost (M : Nat) (X : List Int) : Bool := (((decide (X.length < 10)) || (nameD (X.drop 10)).isNone) || (nameD (nameX (X.drop 10))).isNone) || argsL M (nameX (nameX (X.drop 10)))
theorem nameX_by {X : List Int} (h : By X) : By (nameX X) := by
  unfold nameX
  cases nameD X with
  | none => exact fun x hx => by cases hx
  | some q => exact by_drop h _
theorem nameX_len (X : List Int) : (nameX X).length ≤ X.length := by
  unfold nameX
  cases nameD X with
  | none => exact Nat.zero_le _
  | some q => rw [List.length_drop]; omega
theorem op_dec {M : Nat} {X : List Int} (hX : By X) : (∀ i S1 S2 L j, opD M X = some (i, S1, S2, L, j) → opLost M X = false ∧ i = idV X ∧ nameV (X.drop 10) = S1 ∧ nameV (nameX (X.drop 10)) = S2 ∧ argsV M (nameX (nameX (X.drop 10))) = L ∧ argsX M (nameX (nameX (X.drop 10))) = X.drop j ∧ j ≤ X.length) ∧ (opD M X = none → opLost M X = true) := by
  unfold opD opLost
  by_cases h10 : X.length < 10
  · rw [if_pos h10, decide_eq_true h10]
    exact ⟨fun _ _ _ _ _ e => (by cases e), fun _ => rfl⟩
  rw [if_neg h10, decide_eq_false h10]
  cases h1 : nameD (X.drop 10) with
  | none => exact ⟨fun _ _ _ _ _ e => (by cases e), fun _ => rfl⟩
  | some q =>
    obtain ⟨S1, n1⟩ := q
    obtain ⟨a1, a2, a3, a4⟩ := nameD_le h1
    rw [a3, List.drop_drop]
    cases h2 : nameD (X.drop (10 + n1)) with
    | none => exact ⟨fun _ _ _ _ _ e => (by simp only [h2] at e; cases e), fun _ => by simp⟩
    | some q =>
      obtain ⟨S2, n2⟩ := q
      obtain ⟨b1, b2, b3, b4⟩ := nameD_le h2
      rw [b3, List.drop_drop]
      obtain ⟨c1, c2⟩ := args_dec (M := M) (by_drop hX (10 + n1 + n2))
      rw [List.length_drop] at a1 b1
      cases h3 : argsD M (X.drop (10 + n1 + n2)) with
      | none => exact ⟨fun _ _ _ _ _ e => (by simp only [h2, h3] at e; cases e), fun _ => by rw [c2 h3, Bool.or_true]⟩
      | some q =>
        obtain ⟨L, n3⟩ := q
        obtain ⟨d1, d2, d3, d4⟩ := c1 L n3 h3
        rw [List.length_drop] at d4
        refine ⟨fun i S1' S2' L' j e => ?_, fun e => by simp only [h2, h3] at e; cases e⟩
        simp only [h2, h3] at e
        cases e
        rw [d3, d1, d2, List.drop_drop]
        exact ⟨rfl, rfl, a2, b2, rfl, rfl, by omega⟩
/-- A reply, and how many bytes it takes. -/
def repD (M : Nat) (X : List Int) : Option ((Int × Int × Int) × Int × VT (M + 1) × Nat) :=
  if X.length < 12 then none else match refRd (M + 1) (X.drop 12) with
  | none => none
  | some (T, j) => some (idV X, rdU ((X.drop 10).take 2), T, 12 + j)
def repLost (M : Nat) (X : List Int) : Bool := ((decide (X.length < 10)) || decide ((X.drop 10).length < 2)) || (refRd (M + 1) ((X.drop 10).drop 2)).isNone
theorem rep_dec {M : Nat} {X : List Int} : (∀ i r T j, repD M X = some (i, r, T, j) → repLost M X = false ∧ i = idV X ∧ numV 2 (X.drop 10) = r ∧ valV M ((X.drop 10).drop 2) = T ∧ valX M ((X.drop 10).drop 2) = X.drop j ∧ j ≤ X.length) ∧ (repD M X = none → repLost M X = true) := by
  unfold repD repLost
  rw [List.length_drop, List.drop_drop]
  by_cases h12 : X.length < 12
  · rw [if_pos h12]
    refine ⟨fun _ _ _ _ e => (by cases e), fun _ => ?_⟩
    by_cases h10 : X.length < 10
    · rw [decide_eq_true h10]; rfl
    · rw [decide_eq_true (show X.length - 10 < 2 by omega), Bool.or_true]; rfl
  · rw [if_neg h12, decide_eq_false (show ¬ X.length < 10 by omega), decide_eq_false (show ¬ X.length - 10 < 2 by omega)]
    cases h : refRd (M + 1) (X.drop (10 + 2)) with
    | none => exact ⟨fun _ _ _ _ e => (by simp only [h] at e; cases e), fun _ => rfl⟩
    | some q =>
      obtain ⟨T, j⟩ := q
      obtain ⟨v1, v2⟩ := val_some h
      have hj := (refRd_le h).2
      rw [List.length_drop] at hj
      refine ⟨fun i r T' j' e => ?_, fun e => by simp only [h] at e; cases e⟩
      simp only [h] at e
      cases e
      rw [v1, v2, List.drop_drop]
      exact ⟨rfl, rfl, numV_ge (by rw [List.length_drop]; omega), rfl, rfl, by omega⟩
end Num
end Go.Proofs.Ytomfgncbdgifoaa
/-
  package call's Read.
-/
namespace Go.Proofs.Ytomfgncbdgifoaa
open Go.RowKit
namespace Num
open Ints
set_option linter.unusedSimpArgs false
set_option linter.unusedVariables false
def opA (i : Int × Int × Int) (S1 S2 : ByteArray) (p : Option Addr) (l c : Nat) : Value := .agg #[.int .u32 i.1, .int .u32 i.2.1, .int .u16 i.2.2, .string S1, .string S2, .slice p l c]
def OpPost (M : Nat) (o : Option ((Int × Int × Int) × ByteArray × ByteArray × List (VT (M + 1)) × Nat)) (w : World) (e : Ending) (w' : World) : Prop := Below w.heap.size w w' ∧
  (o = none → e = .returned (.tuple #[opA (0, 0, 0) ⟨#[]⟩ ⟨#[]⟩ none 0 0, .int .i64 0, .int .i64 20])) ∧
  ∀ i S1 S2 L j, o = some (i, S1, S2, L, j) → ∃ p l c, e = .returned (.tuple #[opA i S1 S2 p l c, .int .i64 (j : Int), .int .i64 0]) ∧ RepL w' (Rep w' (M + 1)) p l c L
theorem rdr_set3 {B : Nat} {w : World} {b b2 : Nat} {t : TypeId} {cs : Array Value} {X : List Int} {lost : Bool} (h : Rdr B w b X lost) (hb : w.heap[b2]? = some (.cells cs t (0, 0))) (hno : cs.toList.all noB = true) (hne : b2 ≠ b) (v0 v1 v2 : Value) : Rdr B (((w.setCell ⟨b2, 0, none⟩ v0).setCell ⟨b2, 1, none⟩ v1).setCell ⟨b2, 2, none⟩ v2) b X lost :=
  rdr_at h hb hno hne (((grown_set1 w b2 0 v0).trans (grown_set1 _ b2 1 v1)).trans (grown_set1 _ b2 2 v2))
theorem bel_set1 {w w' : World} (h : Below w.heap.size w w') {b : Nat} (hb : w.heap.size ≤ b) (o : Nat) (v : Value) : Below w.heap.size w (w'.setCell ⟨b, o, none⟩ v) := h.setCell (p := ⟨b, o, none⟩) hb v
theorem bel_gb {w w1 w2 : World} {b : Nat} (h : Below w.heap.size w w1) (hg : w1.grownBy w2 (some b)) (hb : w.heap.size ≤ b) : Below w.heap.size w w2 := Below.grown h hg h.size (fun k e => by injection e with e; omega)
theorem row_setO {w : World} {b b2 i : Nat} {o : Obj} (h : w.heap[b]? = some o) (hne : b ≠ b2) (v : Value) : (w.setCell ⟨b2, i, none⟩ v).heap[b]? = some o := (Below.heap_setCell _ _ _ _ hne).trans h
theorem row_set3O {w : World} {b b2 : Nat} {o : Obj} (h : w.heap[b]? = some o) (hne : b ≠ b2) (v0 v1 v2 : Value) : (((w.setCell ⟨b2, 0, none⟩ v0).setCell ⟨b2, 1, none⟩ v1).setCell ⟨b2, 2, none⟩ v2).heap[b]? = some o :=
  row_setO (row_setO (row_setO h hne v0) hne v1) hne v2
theorem bel_set6 {w w' : World} (h : Below w.heap.size w w') {b : Nat} (hb : w.heap.size ≤ b) (v0 v1 v2 v3 v4 v5 : Value) : Below w.heap.size w ((((((w'.setCell ⟨b, 0, none⟩ v0).setCell ⟨b, 1, none⟩ v1).setCell ⟨b, 2, none⟩ v2).setCell ⟨b, 3, none⟩ v3).setCell ⟨b, 4, none⟩ v4).setCell ⟨b, 5, none⟩ v5) :=
  bel_set1 (bel_set1 (bel_set1 (bel_set1 (bel_set1 (bel_set1 h hb _ _) hb _ _) hb _ _) hb _ _) hb _ _) hb _ _
theorem set6_heap {w : World} {b k : Nat} (h : k ≠ b) (v0 v1 v2 v3 v4 v5 : Value) : ((((((w.setCell ⟨b, 0, none⟩ v0).setCell ⟨b, 1, none⟩ v1).setCell ⟨b, 2, none⟩ v2).setCell ⟨b, 3, none⟩ v3).setCell ⟨b, 4, none⟩ v4).setCell ⟨b, 5, none⟩ v5).heap[k]? = w.heap[k]? := by
  rw [Below.heap_setCell _ _ _ _ h, Below.heap_setCell _ _ _ _ h, Below.heap_setCell _ _ _ _ h, Below.heap_setCell _ _ _ _ h, Below.heap_setCell _ _ _ _ h, Below.heap_setCell _ _ _ _ h]
theorem op_keep {w w4 : World} {Q : Nat → Prop} {n : Nat} {p : Option Addr} {l c : Nat} {L : List (VT n)} (hq : ∀ b, Q b → w.heap.size + 1 + 1 < b) (v v0 v1 v2 v3 v4 v5 : Value) (h : RepLS Q w4 (RepC w4 n) p l c L) :
    RepL (((((((w4.setCell ⟨w.heap.size + 1 + 1, 5, none⟩ v).setCell ⟨w.heap.size, 0, none⟩ v0).setCell ⟨w.heap.size, 1, none⟩ v1).setCell ⟨w.heap.size, 2, none⟩ v2).setCell ⟨w.heap.size, 3, none⟩ v3).setCell ⟨w.heap.size, 4, none⟩ v4).setCell ⟨w.heap.size, 5, none⟩ v5).drew
      (Rep (((((((w4.setCell ⟨w.heap.size + 1 + 1, 5, none⟩ v).setCell ⟨w.heap.size, 0, none⟩ v0).setCell ⟨w.heap.size, 1, none⟩ v1).setCell ⟨w.heap.size, 2, none⟩ v2).setCell ⟨w.heap.size, 3, none⟩ v3).setCell ⟨w.heap.size, 4, none⟩ v4).setCell ⟨w.heap.size, 5, none⟩ v5).drew n) p l c L := by
  obtain ⟨W, hW⟩ : ∃ W, ((((((w4.setCell ⟨w.heap.size + 1 + 1, 5, none⟩ v).setCell ⟨w.heap.size, 0, none⟩ v0).setCell ⟨w.heap.size, 1, none⟩ v1).setCell ⟨w.heap.size, 2, none⟩ v2).setCell ⟨w.heap.size, 3, none⟩ v3).setCell ⟨w.heap.size, 4, none⟩ v4).setCell ⟨w.heap.size, 5, none⟩ v5 = W := ⟨_, rfl⟩
  have hk : ∀ b, Q b → W.heap[b]? = w4.heap[b]? := by
    intro b hb
    have h1 := hq b hb
    have e1 : b ≠ w.heap.size := by omega
    have e2 : b ≠ w.heap.size + 1 + 1 := by omega
    rw [← hW, set6_heap e1, Below.heap_setCell _ _ _ _ e2]
  rw [hW]
  exact repLS_rep (repLS_keep (w' := W.drew) (fun b hb => hk b hb) h)
theorem rdr_new {w : World} {p : Option Addr} {l c : Nat} {X : List Int} (hb : RdB w p l c X) (o1 o2 : Obj) : Rdr w.heap.size (((w.alloc o1).alloc (.cells #[.slice p l c, .bool false] 77)).alloc o2) (w.heap.size + 1) X false := by
  refine ⟨p, l, c, row_alloc_step (row2_alloc w o1 _ _) o2, rd_keep (below3 w o1 _ o2) hb, fun hl => ?_⟩
  obtain ⟨pb, off, hp, hc⟩ := hb.2.2.2.1 hl
  exact ⟨pb, off, hp, cell_lt (hc 0 (by have := hb.1; omega))⟩
theorem row3_alloc (w : World) (o1 o2 : Obj) (cs : Array Value) (t : TypeId) : (((w.alloc o1).alloc o2).alloc (.cells cs t)).heap[w.heap.size + 1 + 1]? = some (.cells cs t (0, 0)) := by
  rw [show w.heap.size + 1 + 1 = ((w.alloc o1).alloc o2).heap.size by rw [World.size_alloc, World.size_alloc]]; exact row_alloc _ _ _
set_option maxRecDepth 100000 in
set_option maxHeartbeats 2000000 in
theorem cread_any (M : Nat) (h4 : 4096 ≤ M) (hM : M < 100000) (w : World) (p : Option Addr) (l c : Nat) (X : List Int) (hb : RdB w p l c X) (hX : By X) (hl : l ≤ M) : Calls Try.prog 15 #[.slice p l c] w (OpPost M (opD M X) w) := by
  have hln := hb.1
  have HX10 := Lib.hid (by_drop hX 10)
  have HX := Lib.hid hX
  have HD := Lib.hid (op_dec (M := M) hX)
  have HL := Lib.hid (show X.length ≤ M by omega)
  have H0 := Lib.hid (rdr_new hb (.cells #[.int .u32 0, .int .u32 0, .int .u16 0, .string ⟨#[]⟩, .string ⟨#[]⟩, .slice none 0 0] 29) (.cells #[.int .u32 0, .int .u32 0, .int .u16 0, .string ⟨#[]⟩, .string ⟨#[]⟩, .slice none 0 0] 29))
  have HB0 := Lib.hid (below3 w (.cells #[.int .u32 0, .int .u32 0, .int .u16 0, .string ⟨#[]⟩, .string ⟨#[]⟩, .slice none 0 0] 29) (.cells #[.slice p l c, .bool false] 77) (.cells #[.int .u32 0, .int .u32 0, .int .u16 0, .string ⟨#[]⟩, .string ⟨#[]⟩, .slice none 0 0] 29))
  have R0 := Lib.hid (row_alloc_step (row_alloc_step (row_alloc w #[.int .u32 0, .int .u32 0, .int .u16 0, .string ⟨#[]⟩, .string ⟨#[]⟩, .slice none 0 0] 29) (.cells #[.slice p l c, .bool false] 77)) (.cells #[.int .u32 0, .int .u32 0, .int .u16 0, .string ⟨#[]⟩, .string ⟨#[]⟩, .slice none 0 0] 29))
  have R2 := Lib.hid (row3_alloc w (.cells #[.int .u32 0, .int .u32 0, .int .u16 0, .string ⟨#[]⟩, .string ⟨#[]⟩, .slice none 0 0] 29) (.cells #[.slice p l c, .bool false] 77) #[.int .u32 0, .int .u32 0, .int .u16 0, .string ⟨#[]⟩, .string ⟨#[]⟩, .slice none 0 0] 29)
  obtain ⟨i, hi⟩ : ∃ i, idV X = i := ⟨_, rfl⟩
  obtain ⟨i1, i2, i3⟩ := i
  have HI := Lib.hid hi
  obtain ⟨S1, hS1⟩ : ∃ S, nameV (X.drop 10) = S := ⟨_, rfl⟩
  obtain ⟨S2, hS2⟩ : ∃ S, nameV (nameX (X.drop 10)) = S := ⟨_, rfl⟩
  have HS1 := Lib.hid hS1
  have HS2 := Lib.hid hS2
  clear hb hX hi hS1 hS2
  go_enter Try.func15, Try.ntmps15
  go_wp2_with fail
  go_at_call 40; refine (id_any _ _ X false H0.out HX.out).mono ?_; rintro e w1 ⟨rfl, hg1, hr1⟩
  rw [HI.out]
  simp only [idA]
  have HB1 := Lib.hid (bel_gb HB0.out hg1 (by omega))
  have ne0 : w.heap.size ≠ w.heap.size + 1 := by omega
  have ne2 : w.heap.size + 1 + 1 ≠ w.heap.size + 1 := by omega
  have k0 := grown_row R0.out hg1 ne0
  have k2 := grown_row R2.out hg1 ne2
  have f2 := fun o => row_frz k2 o
  have c0 := row_cell k2 0; have c1 := row_cell k2 1; have c2 := row_cell k2 2
  simp only [List.getElem?_toArray, List.getElem?_cons_zero, List.getElem?_cons_succ] at c0 c1 c2
  have HR1 := Lib.hid (rdr_set3 hr1 k2 rfl ne2 (.int .u32 i1) (.int .u32 i2) (.int .u16 i3))
  have K0 := Lib.hid (row_set3O k0 (show w.heap.size ≠ w.heap.size + 1 + 1 by omega) (.int .u32 i1) (.int .u32 i2) (.int .u16 i3))
  have K2 := Lib.hid (row_set (i := 2) (row_set (i := 1) (row_set (i := 0) k2 (.int .u32 i1)) (.int .u32 i2)) (.int .u16 i3))
  have HB1' := Lib.hid (bel_set1 (bel_set1 (bel_set1 HB1.out (show w.heap.size ≤ w.heap.size + 1 + 1 by omega) 0 (.int .u32 i1)) (show w.heap.size ≤ w.heap.size + 1 + 1 by omega) 1 (.int .u32 i2)) (show w.heap.size ≤ w.heap.size + 1 + 1 by omega) 2 (.int .u16 i3))
  clear hg1 hr1 k0 k2
  go_wp2_with fail
  go_at_call 41; refine (name_any _ _ (X.drop 10) _ HR1.out HX10.out).mono ?_; rintro e w2 ⟨rfl, hg2, hr2⟩
  rw [HS1.out]
  clear c0 c1 c2 f2
  have HB2 := Lib.hid (bel_gb HB1'.out hg2 (by omega))
  have k0 := grown_row K0.out hg2 ne0
  have k2 := grown_row K2.out hg2 ne2
  have f2 := fun o => row_frz k2 o
  have c3 := row_cell k2 3
  simp only [Array.setIfInBounds, List.getElem?_toArray, List.getElem?_cons_zero, List.getElem?_cons_succ] at c3
  have HR2 := Lib.hid (rdr_at hr2 k2 rfl ne2 (grown_set1 w2 (w.heap.size + 1 + 1) 3 (.string S1)))
  have K0' := Lib.hid (row_setO (i := 3) k0 (b2 := w.heap.size + 1 + 1) (by omega) (.string S1))
  have K2' := Lib.hid (row_set (i := 3) k2 (.string S1))
  have HB2' := Lib.hid (bel_set1 HB2.out (show w.heap.size ≤ w.heap.size + 1 + 1 by omega) 3 (.string S1))
  clear hg2 hr2 k0 k2
  go_wp2_with fail
  go_at_call 41; refine (name_any _ _ (nameX (X.drop 10)) _ HR2.out (nameX_by HX10.out)).mono ?_; rintro e w3 ⟨rfl, hg3, hr3⟩
  rw [HS2.out]
  have HB3 := Lib.hid (bel_gb HB2'.out hg3 (by omega))
  have k0 := grown_row K0'.out hg3 ne0
  have k2 := grown_row K2'.out hg3 ne2
  have g2 := fun o => row_frz k2 o
  have c4 := row_cell k2 4
  simp only [Array.setIfInBounds, List.getElem?_toArray, List.getElem?_cons_zero, List.getElem?_cons_succ] at c4
  have HR3 := Lib.hid (rdr_at hr3 k2 rfl ne2 (grown_set1 w3 (w.heap.size + 1 + 1) 4 (.string S2)))
  have K0'' := Lib.hid (row_setO (i := 4) k0 (b2 := w.heap.size + 1 + 1) (by omega) (.string S2))
  have K2'' := Lib.hid (row_set (i := 4) k2 (.string S2))
  have HB3' := Lib.hid (bel_set1 HB3.out (show w.heap.size ≤ w.heap.size + 1 + 1 by omega) 4 (.string S2))
  have HL3 := Lib.hid (show (nameX (nameX (X.drop 10))).length ≤ M from Nat.le_trans (nameX_len _) (Nat.le_trans (nameX_len _) (by rw [List.length_drop]; have := HL.out; omega)))
  have hs0 : w.heap.size + 1 + 1 < w3.heap.size := row_lt k2
  clear hg3 hr3 k0 k2 c3 f2
  go_wp2_with fail
  go_at_call 42; refine (args_any M h4 hM _ _ (nameX (nameX (X.drop 10))) _ HR3.out (by omega) (nameX_by (nameX_by HX10.out)) HL3.out).mono ?_; rintro e w4 ⟨hg4, hr4, pL, lL, cL, rfl, hrep⟩
  have HB4 := Lib.hid (bel_gb HB3'.out hg4 (by omega))
  have k0 := grown_row K0''.out hg4 ne0
  have k2 := grown_row K2''.out hg4 ne2
  have hg := hg4.size
  rw [World.size_setCell] at hg
  clear hg4 c4 g2
  obtain ⟨pr, lr, cr, kr, hrd, _⟩ := hr4
  obtain ⟨lst, hlst⟩ : ∃ z, opLost M X = z := ⟨_, rfl⟩
  have kr' : w4.heap[w.heap.size + 1]? = some (.cells #[.slice pr lr cr, .bool lst] 77 (0, 0)) := by rw [← hlst]; exact kr
  have hlr := hrd.1
  have a0 := row_cell kr' 0; have a1 := row_cell kr' 1
  have d0 := row_cell k0 0; have d1 := row_cell k0 1; have d2 := row_cell k0 2; have d3 := row_cell k0 3; have d4 := row_cell k0 4; have d5 := row_cell k0 5
  have e0 := row_cell k2 0; have e1 := row_cell k2 1; have e2 := row_cell k2 2; have e3 := row_cell k2 3; have e4 := row_cell k2 4; have e5 := row_cell k2 5
  simp only [Array.setIfInBounds, List.getElem?_toArray, List.getElem?_cons_zero, List.getElem?_cons_succ] at a0 a1 d0 d1 d2 d3 d4 d5 e0 e1 e2 e3 e4 e5
  have f0 := fun o => row_frz k0 o
  have f2 := fun o => row_frz k2 o
  have HLS := Lib.hid hlst
  have HLR := Lib.hid hlr
  have HREP := Lib.hid hrep
  have hsz4 : w.heap.size < w4.heap.size := row_lt k0
  clear k0 k2 kr kr' hrd hrep hlst hlr
  cases lst with
  | true =>
    go_wp2
    refine bodyPost_ret (v := .tuple #[opA (0, 0, 0) ⟨#[]⟩ ⟨#[]⟩ none 0 0, .int .i64 0, .int .i64 20]) (by simp [opA, results, Try.results15, go_sem, World.cell?_setCell_same, World.cell?_setCell_other, d0, d1, d2, d3, d4, d5]) rfl ?_
    refine ⟨bel_set6 (bel_set1 HB4.out (by omega) _ _) (Nat.le_refl _) _ _ _ _ _ _, fun _ => rfl, fun i S1 S2 L j h => ?_⟩
    have := (HD.out.1 i S1 S2 L j h).1
    rw [HLS.out] at this
    cases this
  | false =>
    go_wp2
    go_region
    all_goals go_wp2
    refine bodyPost_ret (v := .tuple #[opA (i1, i2, i3) S1 S2 pL lL cL, .int .i64 (wrap64 ((l : Int) - (lr : Int))), .int .i64 0]) (by simp [opA, results, Try.results15, go_sem, World.cell?_setCell_same, World.cell?_setCell_other, World.cell?_drew, d0, d1, d2, d3, d4, d5]) rfl ?_
    refine ⟨Below.drew (bel_set6 (bel_set1 HB4.out (by omega) _ _) (Nat.le_refl _) _ _ _ _ _ _), fun h => ?_, fun i S1' S2' L j h => ?_⟩
    · have := HD.out.2 h
      rw [HLS.out] at this
      cases this
    · obtain ⟨_, q1, q2, q3, q4, q5, q6⟩ := HD.out.1 i S1' S2' L j h
      have hlr := HLR.out
      rw [q5, List.length_drop] at hlr
      have hw : wrap64 ((l : Int) - (lr : Int)) = (j : Int) := by unfold wrap64; omega
      rw [HI.out] at q1
      rw [HS1.out] at q2
      rw [HS2.out] at q3
      subst q1 q2 q3
      refine ⟨pL, lL, cL, by rw [hw], ?_⟩
      rw [← q4]
      exact op_keep (w := w) (fun b hb => by rw [World.size_setCell] at hb; omega) _ _ _ _ _ _ _ HREP.out
end Num
end Go.Proofs.Ytomfgncbdgifoaa
/-
  package call's ReadReply.
-/
namespace Go.Proofs.Ytomfgncbdgifoaa
open Go.RowKit
namespace Num
open Ints
set_option linter.unusedSimpArgs false
set_option linter.unusedVariables false
def repA (i : Int × Int × Int) (r K I : Int) (F : Nat) (S : ByteArray) (p : Option Addr) (l c : Nat) : Value := .agg #[.int .u32 i.1, .int .u32 i.2.1, .int .u16 i.2.2, .int .i64 r, .int .i64 K, .int .i64 I, .float .f64 F, .string S, .slice p l c]
def ReplyPost (M : Nat) (o : Option ((Int × Int × Int) × Int × VT (M + 1) × Nat)) (w : World) (e : Ending) (w' : World) : Prop := Below w.heap.size w w' ∧
  (o = none → e = .returned (.tuple #[repA (0, 0, 0) 0 0 0 0 ⟨#[]⟩ none 0 0, .int .i64 0, .int .i64 20])) ∧
  ∀ i r T j, o = some (i, r, T, j) → ∃ (K I : Int) (F : Nat) (S : ByteArray) (p : Option Addr) (l c : Nat), e = .returned (.tuple #[repA i r K I F S p l c, .int .i64 (j : Int), .int .i64 0]) ∧ Rep w' (M + 1) (.agg #[.int .i64 K, .int .i64 I, .float .f64 F, .string S, .slice p l c]) T
theorem row_set45 {w : World} {b : Nat} {cs : Array Value} {t : TypeId} (h : w.heap[b]? = some (.cells cs t (0, 0))) (u0 u1 u2 u3 u4 : Value) : ((((((w.setCell ⟨b, 4, none⟩ u0).setCell ⟨b, 5, none⟩ u1).setCell ⟨b, 6, none⟩ u2).setCell ⟨b, 7, none⟩ u3).setCell ⟨b, 8, none⟩ u4)).heap[b]? = some (.cells (((((cs.setIfInBounds 4 u0).setIfInBounds 5 u1).setIfInBounds 6 u2).setIfInBounds 7 u3).setIfInBounds 8 u4) t (0, 0)) :=
  row_set (row_set (row_set (row_set (row_set h u0) u1) u2) u3) u4
theorem grown_set45 (w : World) (b : Nat) (u0 u1 u2 u3 u4 : Value) : w.grownBy (((((w.setCell ⟨b, 4, none⟩ u0).setCell ⟨b, 5, none⟩ u1).setCell ⟨b, 6, none⟩ u2).setCell ⟨b, 7, none⟩ u3).setCell ⟨b, 8, none⟩ u4) (some b) :=
  ((((grown_set1 w b 4 u0).trans (grown_set1 _ b 5 u1)).trans (grown_set1 _ b 6 u2)).trans (grown_set1 _ b 7 u3)).trans (grown_set1 _ b 8 u4)
theorem grown_set9 (w : World) (b : Nat) (v0 v1 v2 v3 v4 v5 v6 v7 v8 : Value) : w.grownBy (((((((((w.setCell ⟨b, 0, none⟩ v0).setCell ⟨b, 1, none⟩ v1).setCell ⟨b, 2, none⟩ v2).setCell ⟨b, 3, none⟩ v3).setCell ⟨b, 4, none⟩ v4).setCell ⟨b, 5, none⟩ v5).setCell ⟨b, 6, none⟩ v6).setCell ⟨b, 7, none⟩ v7).setCell ⟨b, 8, none⟩ v8) (some b) :=
  ((((((((grown_set1 w b 0 v0).trans (grown_set1 _ b 1 v1)).trans (grown_set1 _ b 2 v2)).trans (grown_set1 _ b 3 v3)).trans (grown_set1 _ b 4 v4)).trans (grown_set1 _ b 5 v5)).trans (grown_set1 _ b 6 v6)).trans (grown_set1 _ b 7 v7)).trans (grown_set1 _ b 8 v8)
theorem numV_two {X : List Int} (h : By X) : ∃ m : Nat, numV 2 X = (m : Int) ∧ m < 65536 := by
  unfold numV
  split
  · exact ⟨0, rfl, by omega⟩
  · obtain ⟨L, h1, h2⟩ := len16 h (by omega)
    exact ⟨L, h1, h2⟩
theorem reply_keep {w w4 : World} {Q : Nat → Prop} {n : Nat} {x : Value} {T : VT n} (hq : ∀ b, Q b → w.heap.size + 1 + 1 < b) (u0 u1 u2 u3 u4 v0 v1 v2 v3 v4 v5 v6 v7 v8 : Value) (h : RepS Q w4 n x T) :
    Rep ((((((((((((((w4.setCell ⟨w.heap.size + 1 + 1, 4, none⟩ u0).setCell ⟨w.heap.size + 1 + 1, 5, none⟩ u1).setCell ⟨w.heap.size + 1 + 1, 6, none⟩ u2).setCell ⟨w.heap.size + 1 + 1, 7, none⟩ u3).setCell ⟨w.heap.size + 1 + 1, 8, none⟩ u4).setCell ⟨w.heap.size, 0, none⟩ v0).setCell ⟨w.heap.size, 1, none⟩ v1).setCell ⟨w.heap.size, 2, none⟩ v2).setCell ⟨w.heap.size, 3, none⟩ v3).setCell ⟨w.heap.size, 4, none⟩ v4).setCell ⟨w.heap.size, 5, none⟩ v5).setCell ⟨w.heap.size, 6, none⟩ v6).setCell ⟨w.heap.size, 7, none⟩ v7).setCell ⟨w.heap.size, 8, none⟩ v8).drew n x T := by
  have g1 := grown_set45 w4 (w.heap.size + 1 + 1) u0 u1 u2 u3 u4
  obtain ⟨W1, hW1⟩ : ∃ W, (((((w4.setCell ⟨w.heap.size + 1 + 1, 4, none⟩ u0).setCell ⟨w.heap.size + 1 + 1, 5, none⟩ u1).setCell ⟨w.heap.size + 1 + 1, 6, none⟩ u2).setCell ⟨w.heap.size + 1 + 1, 7, none⟩ u3).setCell ⟨w.heap.size + 1 + 1, 8, none⟩ u4) = W := ⟨_, rfl⟩
  rw [hW1] at g1 ⊢
  have g2 := grown_set9 W1 w.heap.size v0 v1 v2 v3 v4 v5 v6 v7 v8
  obtain ⟨W2, hW2⟩ : ∃ W, (((((((((W1.setCell ⟨w.heap.size, 0, none⟩ v0).setCell ⟨w.heap.size, 1, none⟩ v1).setCell ⟨w.heap.size, 2, none⟩ v2).setCell ⟨w.heap.size, 3, none⟩ v3).setCell ⟨w.heap.size, 4, none⟩ v4).setCell ⟨w.heap.size, 5, none⟩ v5).setCell ⟨w.heap.size, 6, none⟩ v6).setCell ⟨w.heap.size, 7, none⟩ v7).setCell ⟨w.heap.size, 8, none⟩ v8) = W := ⟨_, rfl⟩
  rw [hW2] at g2 ⊢
  have hk : ∀ b, (Q b ∧ b < w4.heap.size) → W2.heap[b]? = w4.heap[b]? := by
    intro b hb
    have h1 := hq b hb.1
    exact (g2.block b (Nat.lt_of_lt_of_le hb.2 g1.size) (fun e => by injection e with e; omega)).trans (g1.block b hb.2 (fun e => by injection e with e; omega))
  exact repS_rep _ _ _ (repS_keep (w' := W2.drew) (fun b hb => hk b hb) _ _ _ (repS_lt _ _ _ h))
set_option maxRecDepth 100000 in
set_option maxHeartbeats 2000000 in
theorem creply_any (M : Nat) (h4 : 4096 ≤ M) (hM : M < 100000) (w : World) (p : Option Addr) (l c : Nat) (X : List Int) (hb : RdB w p l c X) (hX : By X) (hl : l ≤ M) : Calls Try.prog 17 #[.slice p l c] w (ReplyPost M (repD M X) w) := by
  have hln := hb.1
  have HX10 := Lib.hid (by_drop hX 10)
  have HX := Lib.hid hX
  have HD := Lib.hid (rep_dec (M := M) (X := X))
  have HL := Lib.hid (show X.length ≤ M by omega)
  have H0 := Lib.hid (rdr_new hb (.cells #[.int .u32 0, .int .u32 0, .int .u16 0, .int .i64 0, .int .i64 0, .int .i64 0, .float .f64 0, .string ⟨#[]⟩, .slice none 0 0] 49) (.cells #[.int .u32 0, .int .u32 0, .int .u16 0, .int .i64 0, .int .i64 0, .int .i64 0, .float .f64 0, .string ⟨#[]⟩, .slice none 0 0] 49))
  have HB0 := Lib.hid (below3 w (.cells #[.int .u32 0, .int .u32 0, .int .u16 0, .int .i64 0, .int .i64 0, .int .i64 0, .float .f64 0, .string ⟨#[]⟩, .slice none 0 0] 49) (.cells #[.slice p l c, .bool false] 77) (.cells #[.int .u32 0, .int .u32 0, .int .u16 0, .int .i64 0, .int .i64 0, .int .i64 0, .float .f64 0, .string ⟨#[]⟩, .slice none 0 0] 49))
  have R0 := Lib.hid (row_alloc_step (row_alloc_step (row_alloc w #[.int .u32 0, .int .u32 0, .int .u16 0, .int .i64 0, .int .i64 0, .int .i64 0, .float .f64 0, .string ⟨#[]⟩, .slice none 0 0] 49) (.cells #[.slice p l c, .bool false] 77)) (.cells #[.int .u32 0, .int .u32 0, .int .u16 0, .int .i64 0, .int .i64 0, .int .i64 0, .float .f64 0, .string ⟨#[]⟩, .slice none 0 0] 49))
  have R2 := Lib.hid (row3_alloc w (.cells #[.int .u32 0, .int .u32 0, .int .u16 0, .int .i64 0, .int .i64 0, .int .i64 0, .float .f64 0, .string ⟨#[]⟩, .slice none 0 0] 49) (.cells #[.slice p l c, .bool false] 77) #[.int .u32 0, .int .u32 0, .int .u16 0, .int .i64 0, .int .i64 0, .int .i64 0, .float .f64 0, .string ⟨#[]⟩, .slice none 0 0] 49)
  obtain ⟨i, hi⟩ : ∃ i, idV X = i := ⟨_, rfl⟩
  obtain ⟨i1, i2, i3⟩ := i
  have HI := Lib.hid hi
  obtain ⟨r, hr, hr16⟩ := numV_two (by_drop hX 10)
  have HR := Lib.hid hr
  have HX12 := Lib.hid (show By ((X.drop 10).drop 2) from by_drop (by_drop hX 10) 2)
  have HL12 := Lib.hid (show ((X.drop 10).drop 2).length ≤ M by rw [List.length_drop, List.length_drop]; omega)
  clear hb hX hi hr
  go_enter Try.func17, Try.ntmps17
  go_wp2_with fail
  go_at_call 40; refine (id_any _ _ X false H0.out HX.out).mono ?_; rintro e w1 ⟨rfl, hg1, hr1⟩
  rw [HI.out]
  simp only [idA]
  have HB1 := Lib.hid (bel_gb HB0.out hg1 (by omega))
  have ne0 : w.heap.size ≠ w.heap.size + 1 := by omega
  have ne2 : w.heap.size + 1 + 1 ≠ w.heap.size + 1 := by omega
  have k0 := grown_row R0.out hg1 ne0
  have k2 := grown_row R2.out hg1 ne2
  have f2 := fun o => row_frz k2 o
  have c0 := row_cell k2 0; have c1 := row_cell k2 1; have c2 := row_cell k2 2
  simp only [List.getElem?_toArray, List.getElem?_cons_zero, List.getElem?_cons_succ] at c0 c1 c2
  have HR1 := Lib.hid (rdr_set3 hr1 k2 rfl ne2 (.int .u32 i1) (.int .u32 i2) (.int .u16 i3))
  have K0 := Lib.hid (row_set3O k0 (show w.heap.size ≠ w.heap.size + 1 + 1 by omega) (.int .u32 i1) (.int .u32 i2) (.int .u16 i3))
  have K2 := Lib.hid (row_set (i := 2) (row_set (i := 1) (row_set (i := 0) k2 (.int .u32 i1)) (.int .u32 i2)) (.int .u16 i3))
  have HB1' := Lib.hid (bel_set1 (bel_set1 (bel_set1 HB1.out (show w.heap.size ≤ w.heap.size + 1 + 1 by omega) 0 (.int .u32 i1)) (show w.heap.size ≤ w.heap.size + 1 + 1 by omega) 1 (.int .u32 i2)) (show w.heap.size ≤ w.heap.size + 1 + 1 by omega) 2 (.int .u16 i3))
  clear hg1 hr1 k0 k2
  go_wp2_with fail
  go_at_call 46; refine (number_any _ _ 2 (X.drop 10) _ HR1.out HX10.out (by omega)).mono ?_; rintro e w2 ⟨rfl, hg2, hr2⟩
  rw [HR.out]
  clear c0 c1 c2 f2
  have HB2 := Lib.hid (bel_gb HB1'.out hg2 (by omega))
  have k0 := grown_row K0.out hg2 ne0
  have k2 := grown_row K2.out hg2 ne2
  have f2 := fun o => row_frz k2 o
  have c3 := row_cell k2 3
  simp only [Array.setIfInBounds, List.getElem?_toArray, List.getElem?_cons_zero, List.getElem?_cons_succ] at c3
  have HR2 := Lib.hid (rdr_at hr2 k2 rfl ne2 (grown_set1 w2 (w.heap.size + 1 + 1) 3 (.int .i64 (r : Int))))
  have K0' := Lib.hid (row_setO (i := 3) k0 (b2 := w.heap.size + 1 + 1) (by omega) (.int .i64 (r : Int)))
  have K2' := Lib.hid (row_set (i := 3) k2 (.int .i64 (r : Int)))
  have HB2' := Lib.hid (bel_set1 HB2.out (show w.heap.size ≤ w.heap.size + 1 + 1 by omega) 3 (.int .i64 (r : Int)))
  have hs0 : w.heap.size + 1 + 1 < w2.heap.size := row_lt k2
  clear hg2 hr2 k0 k2
  go_wp2_with fail
  go_at_call 47; refine (value_any M h4 hM _ _ ((X.drop 10).drop 2) _ HR2.out HX12.out HL12.out).mono ?_; rintro e w4 ⟨hg4, hr4, v, rfl, hrep⟩
  obtain ⟨K, I, F, S, q, a, d, rfl, _⟩ := repS_shape hrep
  clear c3 f2
  have HB4 := Lib.hid (bel_gb HB2'.out hg4 (by omega))
  have k0 := grown_row K0'.out hg4 ne0
  have k2 := grown_row K2'.out hg4 ne2
  obtain ⟨pr, lr, cr, kr, hrd, _⟩ := hr4
  obtain ⟨lst, hlst⟩ : ∃ z, repLost M X = z := ⟨_, rfl⟩
  have kr' : w4.heap[w.heap.size + 1]? = some (.cells #[.slice pr lr cr, .bool lst] 77 (0, 0)) := by rw [← hlst]; exact kr
  have hlr := hrd.1
  have a0 := row_cell kr' 0; have a1 := row_cell kr' 1
  have d0 := row_cell k0 0; have d1 := row_cell k0 1; have d2 := row_cell k0 2; have d3 := row_cell k0 3; have d4 := row_cell k0 4; have d5 := row_cell k0 5; have d6 := row_cell k0 6; have d7 := row_cell k0 7; have d8 := row_cell k0 8
  have e0 := row_cell k2 0; have e1 := row_cell k2 1; have e2 := row_cell k2 2; have e3 := row_cell k2 3; have e4 := row_cell k2 4; have e5 := row_cell k2 5; have e6 := row_cell k2 6; have e7 := row_cell k2 7; have e8 := row_cell k2 8
  simp only [Array.setIfInBounds, List.getElem?_toArray, List.getElem?_cons_zero, List.getElem?_cons_succ] at a0 a1 d0 d1 d2 d3 d4 d5 d6 d7 d8 e0 e1 e2 e3 e4 e5 e6 e7 e8
  have f0 := fun o => row_frz k0 o
  have f2 := fun o => row_frz k2 o
  have HLS := Lib.hid hlst
  have HLR := Lib.hid hlr
  have HREP := Lib.hid hrep
  have hsz4 : w.heap.size < w4.heap.size := row_lt k0
  clear k0 k2 kr kr' hrd hrep hlst hlr hg4
  cases lst with
  | true =>
    go_wp2
    refine bodyPost_ret (v := .tuple #[repA (0, 0, 0) 0 0 0 0 ⟨#[]⟩ none 0 0, .int .i64 0, .int .i64 20]) (by simp [repA, results, Try.results17, go_sem, World.cell?_setCell_same, World.cell?_setCell_other, d0, d1, d2, d3, d4, d5, d6, d7, d8]) rfl ?_
    refine ⟨bel_gb (bel_gb HB4.out (grown_set45 w4 (w.heap.size + 1 + 1) _ _ _ _ _) (by omega)) (grown_set9 _ w.heap.size _ _ _ _ _ _ _ _ _) (Nat.le_refl _), fun _ => rfl, fun i r T j h => ?_⟩
    have := (HD.out.1 i r T j h).1
    rw [HLS.out] at this
    cases this
  | false =>
    go_wp2
    go_region
    all_goals go_wp2
    refine bodyPost_ret (v := .tuple #[repA (i1, i2, i3) r K I F S q a d, .int .i64 (wrap64 ((l : Int) - (lr : Int))), .int .i64 0]) (by simp [repA, results, Try.results17, go_sem, World.cell?_setCell_same, World.cell?_setCell_other, World.cell?_drew, d0, d1, d2, d3, d4, d5, d6, d7, d8]) rfl ?_
    refine ⟨Below.drew (bel_gb (bel_gb HB4.out (grown_set45 w4 (w.heap.size + 1 + 1) _ _ _ _ _) (by omega)) (grown_set9 _ w.heap.size _ _ _ _ _ _ _ _ _) (Nat.le_refl _)), fun h => ?_, fun i r' T j h => ?_⟩
    · have := HD.out.2 h
      rw [HLS.out] at this
      cases this
    · obtain ⟨_, q1, q2, q4, q5, q6⟩ := HD.out.1 i r' T j h
      have hlr := HLR.out
      rw [q5, List.length_drop] at hlr
      have hw : wrap64 ((l : Int) - (lr : Int)) = (j : Int) := by unfold wrap64; omega
      rw [HI.out] at q1
      rw [HR.out] at q2
      subst q1 q2
      refine ⟨K, I, F, S, q, a, d, by rw [hw], ?_⟩
      rw [← q4]
      exact reply_keep (w := w) (fun b hb => by rw [World.size_setCell] at hb; omega) _ _ _ _ _ _ _ _ _ _ _ _ _ _ HREP.out
end Num
end Go.Proofs.Ytomfgncbdgifoaa
/-
  Calls, replies alike: the helps say so; LightOp.
-/
namespace Go.Proofs.Ytomfgncbdgifoaa
open Go.RowKit
namespace Num
open Ints
set_option linter.unusedSimpArgs false
set_option linter.unusedVariables false
set_option maxHeartbeats 4000000 in
theorem values_any (n : Nat) (L : List (VT n)) (w : World) (p p' : Option Addr) (l l' c c' : Nat) (h : RepL w (Rep w n) p l c L) (h' : RepL w (Rep w n) p' l' c' L) : Calls Try.prog 37 #[.slice p l c, .slice p' l' c'] w fun e w' => e = .returned (.bool true) ∧ Below w.heap.size w w' := by
  obtain ⟨hl, hlc, hcm, hel⟩ := h
  obtain ⟨hl', hlc', hcm', hel'⟩ := h'
  have hll : l' = l := by have h1 : L.length = l := hl; have h2 : L.length = l' := hl'; omega
  subst hll
  unfold maxLen at hcm hcm'
  have HE := Lib.hid hel
  have HE' := Lib.hid hel'
  have HL := Lib.hid hl
  clear hel hel' hl hl'
  go_enter Try.func37, Try.ntmps37
  go_wp2
  go_loopw [5] (fun i wr => ∃ k : Nat, k ≤ l' ∧ i = .int .i64 k ∧ Below w.heap.size w wr) (fun i _ => l' - (intOf i).toNat)
  case atStart => exact ⟨0, by omega, rfl, Below.refl _ _⟩
  case round =>
    obtain ⟨k, hk, rfl, hB⟩ := hrel
    have HB := Lib.hid hB
    by_cases hlt : k < l'
    · obtain ⟨b, off, hp, hi⟩ := HE.out (by omega)
      obtain ⟨b', off', hp', hi'⟩ := HE'.out (by omega)
      subst hp
      subst hp'
      have hkl : k < L.length := by have := HL.out; omega
      obtain ⟨v0, v1, v2, v3, v4, c0, c1, c2, c3, c4, hr⟩ := hi k hkl
      obtain ⟨u0, u1, u2, u3, u4, d0, d1, d2, d3, d4, hr'⟩ := hi' k hkl
      have HR := Lib.hid (rep_keep (Below.drew hB) n _ _ hr)
      have HR' := Lib.hid (rep_keep (Below.drew hB) n _ _ hr')
      have e0 := cell_keep hB c0
      have e1 := cell_keep hB c1
      have e2 := cell_keep hB c2
      have e3 := cell_keep hB c3
      have e4 := cell_keep hB c4
      have f0 := cell_keep hB d0
      have f1 := cell_keep hB d1
      have f2 := cell_keep hB d2
      have f3 := cell_keep hB d3
      have f4 := cell_keep hB d4
      have hk0 : (0 : Int) ≤ (k : Int) := by omega
      have hkl2 : (k : Int) < (l' : Int) := by omega
      clear c0 c1 c2 c3 c4 d0 d1 d2 d3 d4 hr hr' hi hi' hB
      go_wp2_with fail
      go_region_with (go_at_call 49; refine (same_any n _ _ _ _ HR.out HR'.out).mono ?_; rintro e w1 ⟨rfl, hb1⟩; have HB1 := Lib.hid (bel_step (Below.drew HB.out) hb1); clear hb1)
      all_goals
        clear e0 e1 e2 e3 e4 f0 f1 f2 f3 f4 HB HR HR'
        go_wp2
        go_roundw
        case rel => exact ⟨k + 1, by omega, by go_num, HB1.out⟩
        case measure => simp [intOf]; omega
    · clear hB
      go_wp2
      go_ret
      exact ⟨rfl, HB.out⟩
theorem repL_bel {w w' : World} {n : Nat} {p : Option Addr} {l c : Nat} {L : List (VT n)} (hb : Below w.heap.size w w') (h : RepL w (Rep w n) p l c L) : RepL w' (Rep w' n) p l c L := by
  obtain ⟨h1, h2, h3, h4⟩ := h
  refine ⟨h1, h2, h3, fun hl => ?_⟩
  obtain ⟨b, off, hp, hi⟩ := h4 hl
  refine ⟨b, off, hp, fun i hi' => ?_⟩
  obtain ⟨v0, v1, v2, v3, v4, c0, c1, c2, c3, c4, hr⟩ := hi i hi'
  exact ⟨v0, v1, v2, v3, v4, cell_keep hb c0, cell_keep hb c1, cell_keep hb c2, cell_keep hb c3, cell_keep hb c4, rep_keep hb _ _ _ hr⟩
set_option maxRecDepth 100000 in
set_option maxHeartbeats 1000000 in
theorem op_same (n : Nat) (L : List (VT n)) (w : World) (i1 i2 i3 : Int) (S1 S2 : ByteArray) (p p' : Option Addr) (l l' c c' : Nat) (h : RepL w (Rep w n) p l c L) (h' : RepL w (Rep w n) p' l' c' L) : Calls Try.prog 12 #[.agg #[.int .u32 i1, .int .u32 i2, .int .u16 i3, .string S1, .string S2, .slice p l c], .agg #[.int .u32 i1, .int .u32 i2, .int .u16 i3, .string S1, .string S2, .slice p' l' c']] w fun e w' => e = .returned (.bool true) ∧ Below w.heap.size w w' := by
  have HB0 := Lib.hid (bel_alloc (bel_alloc (Below.refl w.heap.size w) (.cells #[.int .u32 i1, .int .u32 i2, .int .u16 i3, .string S1, .string S2, .slice p l c] 29)) (.cells #[.int .u32 i1, .int .u32 i2, .int .u16 i3, .string S1, .string S2, .slice p' l' c'] 29))
  have HH := Lib.hid (repL_bel HB0.out h)
  have HH' := Lib.hid (repL_bel HB0.out h')
  clear h h'
  go_enter Try.func12, Try.ntmps12
  go_wp2_with fail
  go_at_call 37; refine (values_any n L _ p p' l l' c c' HH.out HH'.out).mono ?_; rintro e w1 ⟨rfl, hb1⟩
  have HB1 := Lib.hid (bel_step HB0.out hb1)
  clear hb1
  go_wp2
  go_ret
  exact ⟨rfl, HB1.out⟩
set_option maxRecDepth 100000 in
set_option maxHeartbeats 1000000 in
theorem reply_same (n : Nat) (T : VT n) (w : World) (i1 i2 i3 r : Int) (K K' I I' : Int) (F F' : Nat) (S S' : ByteArray) (p p' : Option Addr) (l l' c c' : Nat) (h : Rep w n (.agg #[.int .i64 K, .int .i64 I, .float .f64 F, .string S, .slice p l c]) T) (h' : Rep w n (.agg #[.int .i64 K', .int .i64 I', .float .f64 F', .string S', .slice p' l' c']) T) :
    Calls Try.prog 19 #[.agg #[.int .u32 i1, .int .u32 i2, .int .u16 i3, .int .i64 r, .int .i64 K, .int .i64 I, .float .f64 F, .string S, .slice p l c], .agg #[.int .u32 i1, .int .u32 i2, .int .u16 i3, .int .i64 r, .int .i64 K', .int .i64 I', .float .f64 F', .string S', .slice p' l' c']] w fun e w' => e = .returned (.bool true) ∧ Below w.heap.size w w' := by
  have HB0 := Lib.hid (bel_alloc (bel_alloc (Below.refl w.heap.size w) (.cells #[.int .u32 i1, .int .u32 i2, .int .u16 i3, .int .i64 r, .int .i64 K, .int .i64 I, .float .f64 F, .string S, .slice p l c] 49)) (.cells #[.int .u32 i1, .int .u32 i2, .int .u16 i3, .int .i64 r, .int .i64 K', .int .i64 I', .float .f64 F', .string S', .slice p' l' c'] 49))
  have HH := Lib.hid (rep_keep HB0.out _ _ _ h)
  have HH' := Lib.hid (rep_keep HB0.out _ _ _ h')
  clear h h'
  go_enter Try.func19, Try.ntmps19
  go_wp2_with fail
  go_at_call 49; refine (same_any n _ _ T _ HH.out HH'.out).mono ?_; rintro e w1 ⟨rfl, hb1⟩
  have HB1 := Lib.hid (bel_step HB0.out hb1)
  clear hb1
  go_wp2
  go_ret
  exact ⟨rfl, HB1.out⟩
set_option maxRecDepth 100000 in
set_option maxHeartbeats 1000000 in
theorem lightop_any (n : Nat) (L : List (VT (n + 1))) (w : World) (i1 i2 i3 : Int) (S1 S2 : ByteArray) (p : Option Addr) (l c : Nat) (h : RepL w (Rep w (n + 1)) p l c L) : Calls Try.prog 9 #[.agg #[.int .u32 i1, .int .u32 i2, .int .u16 i3, .string S1, .string S2, .slice p l c]] w fun e w' => e = .returned (.bool (decide ((S1.size : Int) ≤ 100) && (decide ((S2.size : Int) ≤ 100) && (decide (l ≤ 40) && L.all (lightT (n + 1)))))) ∧ Below w.heap.size w w' := by
  have HB0 := Lib.hid (bel_alloc (Below.refl w.heap.size w) (.cells #[.int .u32 i1, .int .u32 i2, .int .u16 i3, .string S1, .string S2, .slice p l c] 29))
  have HH := Lib.hid (repL_bel HB0.out h)
  clear h
  by_cases h1 : (S1.size : Int) ≤ 100
  · by_cases h2 : (S2.size : Int) ≤ 100
    · go_enter Try.func9, Try.ntmps9
      go_wp2_with fail
      go_at_call 28; refine (lights_any n p l c L _ HH.out).mono ?_; rintro e w1 ⟨rfl, hb1⟩
      have HB1 := Lib.hid (bel_step HB0.out hb1)
      obtain ⟨z, hz⟩ : ∃ z, (decide (l ≤ 40) && L.all (lightT (n + 1))) = z := ⟨_, rfl⟩
      have HZ := Lib.hid hz
      rw [hz]
      clear hb1 hz
      go_wp2
      go_ret
      refine ⟨?_, HB1.out⟩
      rw [HZ.out, decide_eq_true h1, decide_eq_true h2]; rfl
    · go_enter Try.func9, Try.ntmps9
      go_wp2
      go_ret
      refine ⟨?_, HB0.out⟩
      rw [decide_eq_false (Int.not_le.2 h2), Bool.false_and]; (try rw [Bool.and_false]); rfl
  · go_enter Try.func9, Try.ntmps9
    go_wp2
    go_ret
    refine ⟨?_, HB0.out⟩
    rw [decide_eq_false (Int.not_le.2 h1), Bool.false_and]; rfl
end Num
end Go.Proofs.Ytomfgncbdgifoaa
/-
  A value's bytes are read back, cleaned, whatever stands behind them.
-/
namespace Go.Proofs.Ytomfgncbdgifoaa
open Go.RowKit
namespace Num
open Ints
set_option linter.unusedSimpArgs false
set_option linter.unusedVariables false
/-- A value as Clean makes it. -/
def cleanT : (n : Nat) → VT n → VT n
  | 0, T => T
  | n + 1, T => if (T.1 == 1) = true then (1, T.2.1, 0, ⟨#[]⟩, []) else if (T.1 == 2) = true then (2, 0, Flo.canon T.2.2.1, ⟨#[]⟩, [])
      else if (T.1 == 3) = true then (3, 0, 0, T.2.2.2.1, []) else if (T.1 == 4) = true then (4, 0, 0, ⟨#[]⟩, T.2.2.2.2.map (cleanT n)) else (0, 0, 0, ⟨#[]⟩, [])
/-- The numbers in a tree are Go's. -/
def okT : (n : Nat) → VT n → Prop
  | 0, _ => False
  | n + 1, T => okI T.2.1 ∧ T.2.2.1 < 2 ^ 64 ∧ ∀ x ∈ T.2.2.2.2, okT n x
theorem ok_of_rep {w : World} : ∀ (n : Nat) (v : Value) (T : VT n), Rep w n v T → okT n T := by
  intro n
  induction n with
  | zero => intro v T h; exact h.elim
  | succ n ih =>
    intro v T h
    obtain ⟨p, l, c, rfl, _, h2, h3, _, hl, _, _, hel⟩ := h
    refine ⟨h2, h3, fun x hx => ?_⟩
    obtain ⟨i, hi, rfl⟩ := List.mem_iff_getElem.1 hx
    obtain ⟨b, off, _, hc⟩ := hel (by have : T.2.2.2.2.length = l := hl; omega)
    obtain ⟨v0, v1, v2, v3, v4, _, _, _, _, _, hr⟩ := hc i hi
    exact ih _ _ hr
theorem rdU_be2 (u : Int) (h0 : 0 ≤ u) (h1 : u < 65536) : rdU (beI u 2) = u := by
  have h := fold_be u h0 2 0 (by omega) (by decide)
  have e : (256 : Int) ^ 2 = 65536 := by decide
  rw [e] at h
  unfold rdU
  rw [h]
  omega
theorem take_be (u : Int) (k : Nat) (R : List Int) : (beI u k ++ R).take k = beI u k := by
  rw [List.take_append_of_le_length (by rw [beI_len]; omega), List.take_of_length_le (by rw [beI_len]; omega)]
theorem drop_be (u : Int) (k : Nat) (R : List Int) : (beI u k ++ R).drop k = R := by
  rw [List.drop_append_of_le_length (by rw [beI_len]; omega), List.drop_of_length_le (by rw [beI_len]; omega), List.nil_append]
theorem wrap_back {I : Int} (h : okI I) : wrap64 (IntKind.u64.wrap I) = I := by
  unfold okI at h
  rw [Go.IntKind.wrap_u64]
  unfold wrap64
  omega
theorem dec_list {n : Nat} {f : VT n → VT n} (R : List Int) : ∀ (L : List (VT n)), (∀ x ∈ L, ∀ R, decV n (encV n x ++ R) = some (f x, (encV n x).length)) → ∀ k, k ≤ L.length → decL (decV n) k (L.flatMap (encV n) ++ R) = some ((L.take k).map f, ((L.take k).flatMap (encV n)).length) := by
  intro L h k
  induction k with
  | zero => intro _; rfl
  | succ k ih =>
    intro hk
    have hkl : k < L.length := by omega
    rw [decL, ih (by omega)]
    have e : (L.flatMap (encV n) ++ R).drop ((L.take k).flatMap (encV n)).length = encV n L[k] ++ ((L.drop (k + 1)).flatMap (encV n) ++ R) := by
      have e1 : L.flatMap (encV n) = (L.take k).flatMap (encV n) ++ (encV n L[k] ++ (L.drop (k + 1)).flatMap (encV n)) := by
        have e2 : L = L.take k ++ (L[k] :: L.drop (k + 1)) := by rw [List.getElem_cons_drop, List.take_append_drop]
        conv => lhs; rw [e2]
        rw [List.flatMap_append, List.flatMap_cons]
      rw [e1, List.append_assoc, List.drop_append_of_le_length (Nat.le_refl _), List.drop_of_length_le (Nat.le_refl _), List.nil_append, List.append_assoc]
    simp only [e, h L[k] (List.getElem_mem hkl)]
    rw [List.take_succ_eq_append_getElem hkl, List.map_append, List.flatMap_append, List.length_append]
    simp
theorem dec_enc : ∀ (n d : Nat) (T : VT n) (R : List Int), okT n T → greatT n d T = false → decV n (encV n T ++ R) = some (cleanT n T, (encV n T).length) := by
  intro n
  induction n with
  | zero => intro d T R h; exact h.elim
  | succ n ih =>
    intro d T R hok hg
    obtain ⟨K, I, F, S, L⟩ := T
    obtain ⟨hI, hF, hL⟩ := hok
    have hI' : okI I := hI
    have hF' : F < 18446744073709551616 := hF
    by_cases h1 : K = 1
    · subst h1
      have e : encV (n + 1) (1, I, F, S, L) = 1 :: beI (IntKind.u64.wrap I) 8 := rfl
      have e2 : cleanT (n + 1) (1, I, F, S, L) = (1, I, 0, ⟨#[]⟩, []) := rfl
      rw [e, e2, List.cons_append, decV, if_neg (by decide), if_pos (by decide), if_pos (by rw [List.length_append, beI_len]; omega), take_be, rdU_be _ (by rw [Go.IntKind.wrap_u64]; omega) (by rw [Go.IntKind.wrap_u64]; omega), wrap_back hI', List.length_cons, beI_len]
    by_cases h2 : K = 2
    · subst h2
      have e : encV (n + 1) (2, I, F, S, L) = 2 :: beI (Flo.canon F : Int) 8 := rfl
      have e2 : cleanT (n + 1) (2, I, F, S, L) = (2, 0, Flo.canon F, ⟨#[]⟩, []) := rfl
      have hc := Flo.canon_lt (x := F) hF'
      rw [e, e2, List.cons_append, decV, if_neg (by decide), if_neg (by decide), if_pos (by decide), take_be, rdU_be _ (by omega) (by omega), Int.toNat_natCast, if_pos ⟨by rw [List.length_append, beI_len]; omega, Flo.canon_canon F⟩, List.length_cons, beI_len]
    by_cases h3 : K = 3
    · subst h3
      have e : encV (n + 1) (3, I, F, S, L) = 3 :: (beI (S.size : Int) 2 ++ strIs S) := rfl
      have e2 : cleanT (n + 1) (3, I, F, S, L) = (3, 0, 0, S, []) := rfl
      have hS : S.size ≤ 256 := by
        have h : decide (256 < (S.size : Int)) = false := hg
        simp at h
        omega
      rw [e, e2, List.cons_append, List.append_assoc, decV, if_neg (by decide), if_neg (by decide), if_neg (by decide), if_pos (by decide), take_be, rdU_be2 _ (by omega) (by omega), Int.toNat_natCast,
        if_pos ⟨by rw [List.length_append, beI_len]; omega, hS, by rw [List.length_append, List.length_append, beI_len, strIs_len]; omega⟩, drop_be,
        List.take_append_of_le_length (by rw [strIs_len]; omega), List.take_of_length_le (by rw [strIs_len]; omega), strB_back, List.length_cons, List.length_append, beI_len, strIs_len]
      rw [show 3 + S.size = 2 + S.size + 1 by omega]
    by_cases h4 : K = 4
    · subst h4
      have hg' : (decide (8 ≤ d) || decide (64 < (L.length : Int)) || L.any (greatT n (d + 1))) = false := hg
      simp only [Bool.or_eq_false_iff, decide_eq_false_iff_not, List.any_eq_false] at hg'
      obtain ⟨⟨g1, g2⟩, g3⟩ := hg'
      have e : encV (n + 1) (4, I, F, S, L) = 4 :: IntKind.u8.wrap (L.length : Int) :: L.flatMap (encV n) := rfl
      have e2 : cleanT (n + 1) (4, I, F, S, L) = (4, 0, 0, ⟨#[]⟩, L.map (cleanT n)) := rfl
      have hw : IntKind.u8.wrap (L.length : Int) = (L.length : Int) := by rw [Go.IntKind.wrap_u8]; omega
      have hd := dec_list (f := cleanT n) R L (fun x hx R => ih (d + 1) x R (hL x hx) (by simpa using g3 x hx)) L.length (Nat.le_refl _)
      rw [List.take_length] at hd
      rw [e, e2, hw, List.cons_append, List.cons_append, decV, if_neg (by decide), if_neg (by decide), if_neg (by decide), if_neg (by decide), if_pos (by decide), decR, Int.toNat_natCast, hd, List.length_cons, List.length_cons]
      simp only
      rw [show 1 + (1 + (L.flatMap (encV n)).length) = (L.flatMap (encV n)).length + 1 + 1 by omega]
    have e : encV (n + 1) (K, I, F, S, L) = [0] := by
      unfold encV
      rw [if_neg (by simpa using h1), if_neg (by simpa using h2), if_neg (by simpa using h3), if_neg (by simpa using h4)]
    have e2 : cleanT (n + 1) (K, I, F, S, L) = (0, 0, 0, ⟨#[]⟩, []) := by
      unfold cleanT
      rw [if_neg (by simpa using h1), if_neg (by simpa using h2), if_neg (by simpa using h3), if_neg (by simpa using h4)]
    rw [e, e2, List.cons_append, decV, if_pos (by decide)]
    rfl
theorem great_clean : ∀ (n d : Nat) (T : VT n), greatT n d T = false → greatT n d (cleanT n T) = false := by
  intro n
  induction n with
  | zero => intro d T h; exact h
  | succ n ih =>
    intro d T hg
    obtain ⟨K, I, F, S, L⟩ := T
    by_cases h1 : K = 1
    · subst h1; rfl
    by_cases h2 : K = 2
    · subst h2; rfl
    by_cases h3 : K = 3
    · subst h3; exact hg
    by_cases h4 : K = 4
    · subst h4
      have hg' : (decide (8 ≤ d) || decide (64 < (L.length : Int)) || L.any (greatT n (d + 1))) = false := hg
      show (decide (8 ≤ d) || decide (64 < ((L.map (cleanT n)).length : Int)) || (L.map (cleanT n)).any (greatT n (d + 1))) = false
      simp only [Bool.or_eq_false_iff, decide_eq_false_iff_not, List.any_eq_false] at hg'
      obtain ⟨⟨g1, g2⟩, g3⟩ := hg'
      simp only [Bool.or_eq_false_iff, decide_eq_false_iff_not, List.any_eq_false, List.length_map]
      refine ⟨⟨g1, g2⟩, fun x hx => ?_⟩
      obtain ⟨y, hy, rfl⟩ := List.mem_map.1 hx
      have := ih (d + 1) y (by simpa using g3 y hy)
      simp [this]
    have e2 : cleanT (n + 1) (K, I, F, S, L) = (0, 0, 0, ⟨#[]⟩, []) := by
      unfold cleanT
      rw [if_neg (by simpa using h1), if_neg (by simpa using h2), if_neg (by simpa using h3), if_neg (by simpa using h4)]
    rw [e2]
    rfl
/-- What isn't too great is measured so, however deep a tree may be. -/
theorem great_meas_ok : ∀ (n d : Nat) (T : VT n), d ≤ 8 → greatT n d T = false → (measD n d T).2.1 = false ∧ 0 ≤ (measD n d T).2.2.1 ∧ (measD n d T).2.2.1 + d ≤ 8 := by
  intro n
  induction n with
  | zero => intro d T hd _; exact ⟨rfl, Int.le_refl _, by show (0 : Int) + d ≤ 8; omega⟩
  | succ n ih =>
    intro d T hd hgr
    obtain ⟨K, I, F, S, L⟩ := T
    have hg : greatT (n + 1) d (K, I, F, S, L) = if (K == 3) = true then decide (256 < (S.size : Int)) else if (K == 4) = true then (decide (8 ≤ d) || decide (64 < (L.length : Int)) || L.any (greatT n (d + 1))) else false := rfl
    rw [hg] at hgr
    cases h0 : (K == 0)
    · cases h12 : (K == 1 || K == 2)
      · cases h3 : (K == 3)
        · cases h4 : (K == 4)
          · rw [measD_else h0 h12 h3 h4]; exact ⟨rfl, Int.le_refl _, by show (0 : Int) + d ≤ 8; omega⟩
          · rw [h3, h4] at hgr
            simp only [Bool.false_eq_true, if_false, if_true, Bool.or_eq_false_iff, List.any_eq_false, decide_eq_false_iff_not] at hgr
            obtain ⟨⟨a, b⟩, c⟩ := hgr
            rw [measD_list h0 h12 h3 h4, measDL_in (by omega)]
            have hx : ∀ x ∈ L, (measD n (d + 1) x).2.1 = false ∧ 0 ≤ (measD n (d + 1) x).2.2.1 ∧ (measD n (d + 1) x).2.2.1 + ((d + 1 : Nat) : Int) ≤ 8 := fun x hxm => ih (d + 1) x (by omega) (by simpa using c x hxm)
            obtain ⟨k1, k2, k3⟩ := wm_deep (f := measD n (d + 1)) 8 (by omega) L (fun x hxm => by have := hx x hxm; exact ⟨this.2.1, by omega⟩) (false, decide (64 < (L.length : Int)), 1, 2) (by show (0 : Int) ≤ 1; decide) (by show (1 : Int) ≤ 8 + 1; decide)
            refine ⟨?_, k1, ?_⟩
            · rw [wm_long]
              simp only [Bool.or_eq_false_iff, List.any_eq_false, decide_eq_false_iff_not]
              exact ⟨b, fun x hxm => by rw [(hx x hxm).1]; simp⟩
            · have := (k3 (8 - (d : Int))).2 ⟨by show (1 : Int) ≤ 8 - d; omega, fun x hxm => by have := (hx x hxm).2.2; omega⟩
              omega
        · rw [h3] at hgr
          simp only [if_true] at hgr
          rw [measD_text h0 h12 h3]
          exact ⟨hgr, Int.le_refl _, by show (0 : Int) + d ≤ 8; omega⟩
      · rw [measD_num h0 h12]; exact ⟨rfl, Int.le_refl _, by show (0 : Int) + d ≤ 8; omega⟩
    · rw [measD_nil h0]; exact ⟨rfl, Int.le_refl _, by show (0 : Int) + d ≤ 8; omega⟩
/-- What is read of a value's bytes is let pass. -/
theorem check_dec (N : Nat) (X : List Int) (T : VT N) (j : Nat) (hX : X.length ≤ 4096) (hd : decV N X = some (T, j)) (hG : greatT N 0 T = false) : checkM (measD N 0 T) = 0 := by
  have hj := (decV_le _ _ _ _ hd).2
  obtain ⟨hk, hst⟩ := decV_kinds _ _ _ _ hd
  obtain ⟨hs0, hs1⟩ := decV_size _ _ _ _ hd (by omega) 0
  obtain ⟨g1, _, g2⟩ := great_meas_ok N 0 T (by omega) hG
  unfold checkM
  rw [hst 0, if_neg (by decide)]
  have h4 : decide (4096 < (measD N 0 T).2.2.2) = false := by simp; omega
  rw [h4, Bool.or_false]
  have : decide (8 < (measD N 0 T).2.2.1) = false := by simp; omega
  rw [g1, this]
  rfl
theorem check_clean (N : Nat) (T : VT N) (hok : okT N T) (hG : greatT N 0 T = false) (hsz : (encV N T).length ≤ 4096) : checkM (measD N 0 (cleanT N T)) = 0 := by
  have h := dec_enc N 0 T [] hok hG
  rw [List.append_nil] at h
  exact check_dec N (encV N T) _ _ hsz h (great_clean N 0 T hG)
end Num
end Go.Proofs.Ytomfgncbdgifoaa
/-
  The reference's id, read.
-/
namespace Go.Proofs.Ytomfgncbdgifoaa
open Go.RowKit
namespace Num
open Ints
set_option linter.unusedSimpArgs false
set_option linter.unusedVariables false
theorem bel_set1I {w w' : World} (h : Below w.heap.size w w') {b : Nat} (hb : w.heap.size ≤ b) (o : Nat) (v : Value) : Below w.heap.size w (w'.setCell ⟨b, o, none⟩ v) := h.setCell (p := ⟨b, o, none⟩) hb v
set_option maxHeartbeats 1000000 in
theorem rid_short (w : World) (p : Option Addr) (l c : Nat) (hl : l < 10) : Calls Try.prog 43 #[.slice p l c] w fun e w' => e = .returned (.tuple #[idA (0, 0, 0), .bool false]) ∧ Below w.heap.size w w' := by
  have HB := Lib.hid ((Below.refl w.heap.size w).alloc (Nat.le_refl _) (.cells #[.int .u32 0, .int .u32 0, .int .u16 0] 26))
  go_enter Try.func43, Try.ntmps43
  go_wp2
  refine bodyPost_ret (v := .tuple #[idA (0, 0, 0), .bool false]) (by simp [idA, results, Try.results43, go_sem]) rfl ?_
  refine ⟨rfl, ?_⟩
  exact HB.out
set_option maxHeartbeats 1000000 in
theorem rid_yes (w : World) (p : Option Addr) (l c : Nat) (X : List Int) (hb : RdB w p l c X) (hX : By X) (hl : 10 ≤ l) : Calls Try.prog 43 #[.slice p l c] w fun e w' => e = .returned (.tuple #[idA (idV X), .bool true]) ∧ Below w.heap.size w w' := by
  obtain ⟨b, off, rfl⟩ := rd_full hb (by omega)
  have hlc := hb.2.1
  have hcm := hb.2.2.1
  unfold maxLen at hcm
  have hb1 := rd_keep ((Below.refl w.heap.size w).alloc (Nat.le_refl _) (.cells #[.int .u32 0, .int .u32 0, .int .u16 0] 26)) hb
  have HB := Lib.hid ((Below.refl w.heap.size w).alloc (Nat.le_refl _) (.cells #[.int .u32 0, .int .u32 0, .int .u16 0] 26))
  have H0 := Lib.hid (rreadU_yes _ _ _ _ _ 4 hb1 hX (by omega) (by omega))
  have H4 := Lib.hid (rreadU_yes _ _ _ _ _ 4 (rd_from (k := 4) hb1 (by omega) (by omega)) (by_drop hX 4) (by omega) (by omega))
  have H8 := Lib.hid (rreadU_yes _ _ _ _ _ 2 (rd_from (k := 8) hb1 (by omega) (by omega)) (by_drop hX 8) (by omega) (by omega))
  obtain ⟨n1, hn1⟩ : ∃ n, rdU (X.take 4) = n := ⟨_, rfl⟩
  obtain ⟨n2, hn2⟩ : ∃ n, rdU ((X.drop 4).take 4) = n := ⟨_, rfl⟩
  obtain ⟨n3, hn3⟩ : ∃ n, rdU ((X.drop 8).take 2) = n := ⟨_, rfl⟩
  have hln := hb.1
  have HI := Lib.hid (show idV X = (IntKind.u32.wrap n1, IntKind.u32.wrap n2, IntKind.u16.wrap n3) by
    unfold idV
    rw [numV_ge (by omega), numV_ge (by rw [List.length_drop]; omega), numV_ge (by rw [List.length_drop]; omega), hn1, hn2, hn3])
  rw [hn1] at H0
  rw [hn2] at H4
  rw [hn3] at H8
  clear hb hX hb1 hn1 hn2 hn3
  go_enter Try.func43, Try.ntmps43
  go_wp2_with fail
  go_at_call 48; refine H0.out.mono ?_; rintro e w1 ⟨rfl, rfl⟩
  go_wp2_with fail
  go_at_call 48; refine H4.out.mono ?_; rintro e w1 ⟨rfl, rfl⟩
  go_wp2_with fail
  go_at_call 48; refine H8.out.mono ?_; rintro e w1 ⟨rfl, rfl⟩
  go_wp2
  refine bodyPost_ret (v := .tuple #[.agg #[.int .u32 (n1 % 4294967296), .int .u32 (n2 % 4294967296), .int .u16 (IntKind.u16.wrap n3)], .bool true]) (by simp [results, Try.results43, go_sem]) rfl ?_
  exact ⟨by rw [HI.out]; rfl, (Below.refl _ _).alloc (Nat.le_refl _) _⟩
theorem rtext_some {w : World} {p : Option Addr} {l c : Nat} {X : List Int} {S : ByteArray} {n : Nat} (hb : RdB w p l c X) (hX : By X) (h : nameD X = some (S, n)) : Calls Try.prog 44 #[.slice p l c, .int .i64 32] w fun e w' => e = .returned (.tuple #[.string S, .int .i64 (n : Int), .int .i64 0]) ∧ w = w' := by
  have hln := hb.1
  unfold nameD at h
  split at h
  · rename_i hs
    obtain ⟨L, hL, hL16⟩ := len16 hX hs.1
    have hLn : (rdU (X.take 2)).toNat = L := by rw [hL]; rfl
    rw [hLn] at hs h
    cases h
    refine (rreadText_yes w p l c X L 32 hb hX (by omega) hL hL16 (by omega) (by omega)).mono ?_
    rintro e w' ⟨rfl, rfl⟩
    refine ⟨?_, rfl⟩
    rw [show ((2 + L : Nat) : Int) = 2 + (L : Int) by omega]
  · cases h
theorem rtext_none {w : World} {p : Option Addr} {l c : Nat} {X : List Int} (hb : RdB w p l c X) (hX : By X) (h : nameD X = none) : Calls Try.prog 44 #[.slice p l c, .int .i64 32] w fun e w' => e = .returned (.tuple #[.string ⟨#[]⟩, .int .i64 0, .int .i64 20]) ∧ w = w' := by
  have hln := hb.1
  by_cases h2 : 2 ≤ X.length
  · obtain ⟨L, hL, hL16⟩ := len16 hX h2
    have hLn : (rdU (X.take 2)).toNat = L := by rw [hL]; rfl
    unfold nameD at h
    rw [hLn] at h
    split at h
    · cases h
    · rename_i hs
      exact rreadText_no w p l c X L 32 hb hX (by omega) hL hL16 (by omega)
  · exact rreadText_short w p l c 32 hb.2.1 hb.2.2.1 (by omega)
theorem nameD_pos {X : List Int} {S : ByteArray} {n : Nat} (h : nameD X = some (S, n)) : 2 ≤ n ∧ 2 ≤ X.length := by
  unfold nameD at h
  split at h
  · cases h; rename_i hs; exact ⟨by omega, hs.1⟩
  · cases h
theorem oa_set {B : Nat} {w : World} {b i n : Nat} {p : Option Addr} {l c : Nat} {L : List (VT n)} (h : OwA B w n p l c L) (hb : b < B) (v : Value) : OwA B (w.setCell ⟨b, i, none⟩ v) n p l c L := by
  have h1 := oa_step h (grown_set1 w b i v) hb
  have e : (w.setCell ⟨b, i, none⟩ v).heap.size = w.heap.size := World.size_setCell _ _ _
  refine ⟨by rw [e]; exact h.1, ?_⟩
  unfold OwL
  rw [e]
  exact h1
theorem bel_upto {w w1 w2 : World} {B : Nat} (h : Below w.heap.size w w1) (hB : w.heap.size ≤ B) (hu : Upto B w1 w2) : Below w.heap.size w w2 :=
  ⟨hu.1.trans h.os, hu.2.1.trans h.tape, hu.2.2.1.trans h.output, Nat.le_trans hB hu.2.2.2.1, fun k hk => (hu.2.2.2.2 k (by omega)).trans (h.block k hk)⟩
end Num
end Go.Proofs.Ytomfgncbdgifoaa
