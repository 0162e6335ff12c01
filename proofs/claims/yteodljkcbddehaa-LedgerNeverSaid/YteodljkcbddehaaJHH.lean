/-
  Package args' signatures: how many a method takes, of which kind each is; which values are of a kind.
-/
import Derived.Test.YteodljkcbddehaaJMI
import Derived.Test.YteodljkcbddehaaJp7HB
import Derived.Test.YteodljkcbddehaaJp4VTree
namespace Go.Proofs.Yteodljkcbddehaa
open Go.RowKit
namespace Num
open Ints
set_option linter.unusedSimpArgs false
set_option linter.unusedVariables false
set_option maxRecDepth 100000 in
set_option maxHeartbeats 2000000 in
theorem takes_many (p : Option Addr) (n : Nat) (more : Int) (wr : Bool) (x : Nat) (w : World) (hn : n ≤ 100) (hm : 0 ≤ more ∧ more ≤ 100) (hx : x ≤ 9223372036854775807) : Calls Try.prog 27 #[.agg #[.slice p n n, .int .i64 more, .bool wr], .int .i64 x] w fun e w' => e = .returned (.bool (decide (n ≤ x) && decide ((x : Int) ≤ n + more))) ∧ Below w.heap.size w w' := by
  have HB := Lib.hid (bel_alloc (Below.refl w.heap.size w) (.cells #[.slice p n n, .int .i64 more, .bool wr] 56))
  obtain ⟨hm0, hm1⟩ := hm
  have hn0 : (0 : Int) ≤ (n : Int) := by omega
  have hx0 : (0 : Int) ≤ (x : Int) := by omega
  by_cases h1 : n ≤ x
  · have HY := Lib.hid (show Ending.returned (.bool (decide ((x : Int) ≤ n + more))) = .returned (.bool (decide (n ≤ x) && decide ((x : Int) ≤ n + more))) by simp [h1])
    go_enter Try.func27, Try.ntmps27
    go_wp2
    go_ret
    exact ⟨HY.out, HB.out⟩
  · have HY := Lib.hid (show Ending.returned (.bool false) = .returned (.bool (decide (n ≤ x) && decide ((x : Int) ≤ n + more))) by simp [h1])
    go_enter Try.func27, Try.ntmps27
    go_wp2
    go_ret
    exact ⟨HY.out, HB.out⟩
set_option maxRecDepth 100000 in
set_option maxHeartbeats 2000000 in
theorem sig_at (b n : Nat) (more : Int) (wr : Bool) (i : Nat) (z : Int) (w : World) (hn : n ≤ 100) (h0 : 0 < n) (hi : i ≤ 9223372036854775807) (hz : w.cell? ⟨b, min i (n - 1), none⟩ = some (.int .i64 z)) : Calls Try.prog 29 #[.agg #[.slice (some ⟨b, 0, none⟩) n n, .int .i64 more, .bool wr], .int .i64 i] w fun e w' => e = .returned (.int .i64 z) ∧ Below w.heap.size w w' := by
  have HB := Lib.hid (bel_alloc (Below.refl w.heap.size w) (.cells #[.slice (some ⟨b, 0, none⟩) n n, .int .i64 more, .bool wr] 56))
  have hlt : b < w.heap.size := cell_lt hz
  have hn0 : (0 : Int) ≤ (n : Int) := by omega
  have hx0 : (0 : Int) ≤ (i : Int) := by omega
  have hne : w.heap.size ≠ b := by omega
  by_cases hle : i ≤ n - 1
  · rw [show min i (n - 1) = i by omega] at hz
    have h1 : (i : Int) ≤ (n : Int) - 1 := by omega
    have h2 : ¬ (n : Int) - 1 < (i : Int) := by omega
    have h3 : (i : Int) < (n : Int) := by omega
    go_enter Try.func29, Try.ntmps29
    go_wp2
    go_ret
    exact ⟨rfl, HB.out⟩
  · rw [show min i (n - 1) = n - 1 by omega] at hz
    have h1 : ¬ (i : Int) ≤ (n : Int) - 1 := by omega
    have h2 : (n : Int) - 1 < (i : Int) := by omega
    have h3 : (0 : Int) ≤ (n : Int) - 1 := by omega
    go_enter Try.func29, Try.ntmps29
    go_wp2
    go_ret
    exact ⟨rfl, HB.out⟩
def nmV (K : Int) (S : ByteArray) : Bool := decide (K = 3) && (decide (0 < S.size) && decide (S.size ≤ 32))
set_option maxRecDepth 100000 in
set_option maxHeartbeats 2000000 in
theorem holds_any (K I : Int) (F : Nat) (S : ByteArray) (p : Option Addr) (l c : Nat) (w : World) : Calls Try.prog 30 #[.int .i64 0, .agg #[.int .i64 K, .int .i64 I, .float .f64 F, .string S, .slice p l c]] w fun e w' => e = .returned (.bool (true)) ∧ Below w.heap.size w w' := by
  have HB := Lib.hid (bel_alloc (Below.refl w.heap.size w) (.cells #[.int .i64 K, .int .i64 I, .float .f64 F, .string S, .slice p l c] 27))
  go_enter Try.func30, Try.ntmps30
  go_wp2
  go_ret
  exact ⟨rfl, HB.out⟩
set_option maxRecDepth 100000 in
set_option maxHeartbeats 2000000 in
theorem holds_int (K I : Int) (F : Nat) (S : ByteArray) (p : Option Addr) (l c : Nat) (w : World) : Calls Try.prog 30 #[.int .i64 1, .agg #[.int .i64 K, .int .i64 I, .float .f64 F, .string S, .slice p l c]] w fun e w' => e = .returned (.bool (K == 1)) ∧ Below w.heap.size w w' := by
  have HB := Lib.hid (bel_alloc (Below.refl w.heap.size w) (.cells #[.int .i64 K, .int .i64 I, .float .f64 F, .string S, .slice p l c] 27))
  go_enter Try.func30, Try.ntmps30
  go_wp2
  go_ret
  exact ⟨rfl, HB.out⟩
set_option maxRecDepth 100000 in
set_option maxHeartbeats 2000000 in
theorem holds_num (K I : Int) (F : Nat) (S : ByteArray) (p : Option Addr) (l c : Nat) (w : World) : Calls Try.prog 30 #[.int .i64 2, .agg #[.int .i64 K, .int .i64 I, .float .f64 F, .string S, .slice p l c]] w fun e w' => e = .returned (.bool (K == 1 || K == 2)) ∧ Below w.heap.size w w' := by
  have HB := Lib.hid (bel_alloc (Below.refl w.heap.size w) (.cells #[.int .i64 K, .int .i64 I, .float .f64 F, .string S, .slice p l c] 27))
  cases h : (K == 1)
  · go_enter Try.func30, Try.ntmps30
    go_wp2
    go_ret
    exact ⟨by first | rfl | (simp; done), HB.out⟩
  · go_enter Try.func30, Try.ntmps30
    go_wp2
    go_ret
    exact ⟨by first | rfl | (simp; done), HB.out⟩
set_option maxRecDepth 100000 in
set_option maxHeartbeats 2000000 in
theorem holds_name (K I : Int) (F : Nat) (S : ByteArray) (p : Option Addr) (l c : Nat) (w : World) (hS : S.size ≤ maxLen) : Calls Try.prog 30 #[.int .i64 3, .agg #[.int .i64 K, .int .i64 I, .float .f64 F, .string S, .slice p l c]] w fun e w' => e = .returned (.bool (nmV K S)) ∧ Below w.heap.size w w' := by
  have HB := Lib.hid (bel_alloc (Below.refl w.heap.size w) (.cells #[.int .i64 K, .int .i64 I, .float .f64 F, .string S, .slice p l c] 27))
  unfold maxLen at hS
  by_cases h : K = 3
  · subst h
    by_cases h1 : 0 < S.size
    · by_cases h2 : S.size ≤ 32
      · have g1 : (0 : Int) < (S.size : Int) := by omega
        have g2 : (S.size : Int) ≤ 32 := by omega
        have HY := Lib.hid (show Ending.returned (.bool true) = .returned (.bool (nmV 3 S)) by simp [nmV, h1, h2])
        go_enter Try.func30, Try.ntmps30
        go_wp2
        go_ret
        exact ⟨HY.out, HB.out⟩
      · have g1 : (0 : Int) < (S.size : Int) := by omega
        have g2 : ¬ (S.size : Int) ≤ 32 := by omega
        have HY := Lib.hid (show Ending.returned (.bool false) = .returned (.bool (nmV 3 S)) by simp [nmV, h1, h2])
        go_enter Try.func30, Try.ntmps30
        go_wp2
        go_ret
        exact ⟨HY.out, HB.out⟩
    · have g1 : ¬ (0 : Int) < (S.size : Int) := by omega
      have HY := Lib.hid (show Ending.returned (.bool false) = .returned (.bool (nmV 3 S)) by simp [nmV, h1])
      go_enter Try.func30, Try.ntmps30
      go_wp2
      go_ret
      exact ⟨HY.out, HB.out⟩
  · have h1 : decide (K = 3) = false := by simp [h]
    have HY := Lib.hid (show Ending.returned (.bool false) = .returned (.bool (nmV K S)) by simp [nmV, h])
    go_enter Try.func30, Try.ntmps30
    go_wp2
    go_ret
    exact ⟨HY.out, HB.out⟩
def nmT : (n : Nat) → VT n → Bool
  | 0, _ => false
  | _ + 1, T => nmV T.1 T.2.2.2.1
def stL (n : Nat) : List (VT n) → Bool
  | x :: y :: _ => nmT n x && nmT n y
  | _ => false
theorem rep_name {w : World} : ∀ {n : Nat} {v0 v1 v2 v3 v4 : Value} {T : VT n}, Rep w n (.agg #[v0, v1, v2, v3, v4]) T →
    ∃ (K I : Int) (F : Nat) (S : ByteArray) (p : Option Addr) (l c : Nat), v0 = .int .i64 K ∧ v1 = .int .i64 I ∧ v2 = .float .f64 F ∧ v3 = .string S ∧ v4 = .slice p l c ∧ nmT n T = nmV K S ∧ S.size ≤ maxLen
  | 0, _, _, _, _, _, _, h => h.elim
  | n + 1, v0, v1, v2, v3, v4, T, h => by
    obtain ⟨p, l, c, hv, _, _, _, h4, _⟩ := h
    injection hv with hv
    simp only [Array.mk.injEq, List.cons.injEq, and_true] at hv
    obtain ⟨e0, e1, e2, e3, e4⟩ := hv
    exact ⟨T.1, T.2.1, T.2.2.1, T.2.2.2.1, p, l, c, e0, e1, e2, e3, e4, rfl, h4⟩
set_option maxRecDepth 100000 in
set_option maxHeartbeats 4000000 in
theorem begins_any (n : Nat) (p : Option Addr) (l c : Nat) (L : List (VT n)) (w : World) (h : RepL w (Rep w n) p l c L) : Calls Try.prog 51 #[.slice p l c] w fun e w' => e = .returned (.bool (stL n L)) ∧ Below w.heap.size w w' := by
  obtain ⟨hl, hlc, hcm, hel⟩ := h
  unfold maxLen at hcm
  by_cases h2 : 2 ≤ l
  · obtain ⟨b, off, rfl, hi⟩ := hel (by omega)
    have hsh : ∃ x y r, L = x :: y :: r := by
      match L, hl with
      | [], hl => simp at hl; omega
      | [x], hl => simp at hl; omega
      | x :: y :: r, _ => exact ⟨x, y, r, rfl⟩
    obtain ⟨x, y, r, rfl⟩ := hsh
    · obtain ⟨v0, v1, v2, v3, v4, c0, c1, c2, c3, c4, hx⟩ := hi 0 (by simp)
      obtain ⟨u0, u1, u2, u3, u4, d0, d1, d2, d3, d4, hy⟩ := hi 1 (by simp)
      simp only [List.getElem_cons_zero, List.getElem_cons_succ] at hx hy
      obtain ⟨K, I, F, S, q, m, d, rfl, rfl, rfl, rfl, rfl, hn, hS⟩ := rep_name hx
      obtain ⟨K2, I2, F2, S2, q2, m2, e2, rfl, rfl, rfl, rfl, rfl, hn2, hS2⟩ := rep_name hy
      have hst : stL n (x :: y :: r) = (nmV K S && nmV K2 S2) := by show (nmT n x && nmT n y) = _; rw [hn, hn2]
      rw [hst]
      have k0 := cell_lt c0
      simp only [Nat.zero_mul, Nat.add_zero, Nat.one_mul, Nat.add_assoc, Nat.reduceAdd] at c0 c1 c2 c3 c4 d0 d1 d2 d3 d4
      have g1 : (2 : Int) ≤ (l : Int) := by omega
      have g2 : (0 : Int) < (l : Int) := by omega
      have g3 : (1 : Int) < (l : Int) := by omega
      clear hi hx hy hel hl hn hn2 hst
      cases hA : nmV K S
      · go_enter Try.func51, Try.ntmps51
        go_wp2_with fail
        go_at_call 30; refine (holds_name K I F S q m d _ hS).mono ?_; rintro e w1 ⟨rfl, hb1⟩
        have HB1 := Lib.hid hb1
        rw [hA]
        go_wp2
        go_ret
        exact ⟨by first | rfl | (simp; done), HB1.out⟩
      · go_enter Try.func51, Try.ntmps51
        go_wp2_with fail
        go_at_call 30; refine (holds_name K I F S q m d _ hS).mono ?_; rintro e w1 ⟨rfl, hb1⟩
        have HB1 := Lib.hid hb1
        rw [hA]
        have f0 := ck hb1 d0
        have f1 := ck hb1 d1
        have f2 := ck hb1 d2
        have f3 := ck hb1 d3
        have f4 := ck hb1 d4
        clear hb1 c0 c1 c2 c3 c4 d0 d1 d2 d3 d4
        go_wp2_with fail
        go_at_call 30; refine (holds_name K2 I2 F2 S2 q2 m2 e2 _ hS2).mono ?_; rintro e w2 ⟨rfl, hb2⟩
        have HB2 := Lib.hid (bel_step HB1.out hb2)
        obtain ⟨z, hz⟩ : ∃ z, nmV K2 S2 = z := ⟨_, rfl⟩
        have HZ := Lib.hid hz
        rw [hz]
        clear hb2 hz
        go_wp2
        go_ret
        exact ⟨by rw [HZ.out]; first | rfl | (simp; done), HB2.out⟩
  · have hst : stL n L = false := by
      match L, hl with
      | [], _ => rfl
      | [x], _ => rfl
      | x :: y :: r, hl => simp at hl; omega
    rw [hst]
    have g1 : ¬ (2 : Int) ≤ (l : Int) := by omega
    clear hel hl hst
    go_enter Try.func51, Try.ntmps51
    go_wp2
    go_ret
    exact ⟨rfl, Below.refl _ _⟩
def stT (n : Nat) (T : VT (n + 1)) : Bool := (T.1 == 4) && stL n T.2.2.2.2
set_option maxRecDepth 100000 in
set_option maxHeartbeats 4000000 in
theorem holds_step (n : Nat) (v : Value) (T : VT (n + 1)) (w : World) (hr : Rep w (n + 1) v T) : Calls Try.prog 30 #[.int .i64 4, v] w fun e w' => e = .returned (.bool (stT n T)) ∧ Below w.heap.size w w' := by
  obtain ⟨p, l, c, rfl, _, _, _, _, h5⟩ := hr
  obtain ⟨K, I, F, S, L⟩ := T
  have HB := Lib.hid (bel_alloc (Below.refl w.heap.size w) (.cells #[.int .i64 K, .int .i64 I, .float .f64 F, .string S, .slice p l c] 27))
  have HL := Lib.hid (repL_keep (bel_alloc (Below.refl w.heap.size w) (.cells #[.int .i64 K, .int .i64 I, .float .f64 F, .string S, .slice p l c] 27)) (rep_keep (bel_alloc (Below.refl w.heap.size w) (.cells #[.int .i64 K, .int .i64 I, .float .f64 F, .string S, .slice p l c] 27)) n) h5)
  show Calls _ _ _ _ fun e w' => e = .returned (.bool ((K == 4) && stL n L)) ∧ _
  clear h5
  obtain ⟨y, hy⟩ : ∃ y, stL n L = y := ⟨_, rfl⟩
  cases h : (K == 4)
  · go_enter Try.func30, Try.ntmps30
    go_wp2
    go_ret
    exact ⟨by first | rfl | (simp; done), HB.out⟩
  · rw [hy]
    go_enter Try.func30, Try.ntmps30
    go_wp2_with fail
    go_at_call 51; refine (begins_any n p l c L _ HL.out).mono ?_; rintro e w1 ⟨rfl, hb1⟩
    have HB1 := Lib.hid (bel_step HB.out hb1)
    rw [hy]
    clear hb1
    go_wp2
    go_ret
    exact ⟨by first | rfl | (simp; done), HB1.out⟩
end Num
end Go.Proofs.Yteodljkcbddehaa
