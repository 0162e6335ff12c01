/-
  WireNumbers: numbers of any width, texts of any length.
-/
import Derived.Test.YtahcgdjcjapnkaaWN
namespace Go.Proofs.Ytahcgdjcjapnkaa
open Go.RowKit
namespace Num
open Ints
set_option linter.unusedSimpArgs false
set_option linter.unusedVariables false
set_option maxRecDepth 100000 in
set_option maxHeartbeats 4000000 in
theorem rputText_yes (W0 w : World) (p : Option Addr) (l c : Nat) (X : List Int) (s : ByteArray) (most : Int) (hb : InB W0 w p l c X) (hl : l ≤ 10000) (hs : s.size ≤ 65535) (hm : (s.size : Int) ≤ most) :
    Calls Try.prog 23 #[.slice p l c, .string s, .int .i64 most] w fun e w' => ∃ p' c', e = .returned (.tuple #[.slice p' (l + 2 + s.size) c', .int .i64 0]) ∧ OwB W0 w' p' (l + 2 + s.size) c' (X ++ beI s.size 2 ++ strIs s) := by
  have HU := Lib.hid (rputU_at W0 w p l c X (s.size : Int) 2 (by omega) (by omega) (by omega) hb (by omega))
  clear hb
  go_enter Try.func23, Try.ntmps23
  go_wp2_with fail
  go_at_call 21; refine HU.out.mono ?_; rintro e w1 ⟨p1, c1, rfl, _, ho1⟩
  have HO1 := Lib.hid (ho1 (by omega))
  clear ho1
  go_wp2_with (at_builtin; refine wp_obS rfl _ _ rfl W0 _ p1 _ c1 _ s rfl rfl HO1.out (by omega) (by omega) ?_; intro p2 c2 w2 ho2 _)
  have HO2 := Lib.hid ho2
  clear ho2
  go_ret2
  exact ⟨p2, c2, rfl, HO2.out⟩
set_option maxHeartbeats 1000000 in
theorem rputText_no (w : World) (p : Option Addr) (l c : Nat) (s : ByteArray) (most : Int) (hs : s.size ≤ 9223372036854775807) (hm : most < s.size ∨ 65535 < s.size) :
    Calls Try.prog 23 #[.slice p l c, .string s, .int .i64 most] w fun e w' => e = .returned (.tuple #[.slice none 0 0, .int .i64 22]) ∧ w = w' := by
  by_cases h0 : most < s.size
  · clear hm
    go_enter Try.func23, Try.ntmps23
    go_wp2
    go_ret2
    exact ⟨rfl, rfl⟩
  · have h1 : 65535 < s.size := by omega
    clear hm
    go_enter Try.func23, Try.ntmps23
    go_wp2
    go_ret2
    exact ⟨rfl, rfl⟩
/-- What ReadU tells. -/
def rdQ (l : Nat) (n : Int) : Bool := decide (0 ≤ n) && decide (n ≤ 8) && decide (n ≤ l)
def rdV (X : List Int) (l : Nat) (n : Int) : Int := if rdQ l n = true then rdU (X.take n.toNat) else 0
theorem readU_tot (w : World) (p : Option Addr) (l c : Nat) (X : List Int) (n : Int) (hb : RdB w p l c X) (hX : By X) :
    Calls Try.prog 19 #[.slice p l c, .int .i64 n] w fun e w' => e = .returned (.tuple #[.int .u64 (rdV X l n), .bool (rdQ l n)]) ∧ w = w' := by
  by_cases h : 0 ≤ n ∧ n ≤ 8 ∧ n ≤ l
  · have hq : rdQ l n = true := by simp [rdQ, h]
    obtain ⟨k, rfl⟩ : ∃ k : Nat, n = (k : Int) := ⟨n.toNat, by omega⟩
    rw [rdV, if_pos hq, hq, Int.toNat_natCast]
    exact readU_all w p l c X k hb hX (by omega) (by omega)
  · have hq : rdQ l n = false := by simp [rdQ]; omega
    rw [rdV, if_neg (by rw [hq]; simp), hq]
    exact readU_no w p l c n hb.2.1 hb.2.2.1 (by omega)
theorem rreadU_tot (w : World) (p : Option Addr) (l c : Nat) (X : List Int) (n : Int) (hb : RdB w p l c X) (hX : By X) :
    Calls Try.prog 20 #[.slice p l c, .int .i64 n] w fun e w' => e = .returned (.tuple #[.int .u64 (rdV X l n), .bool (rdQ l n)]) ∧ w = w' := by
  by_cases h : 0 ≤ n ∧ n ≤ 8 ∧ n ≤ l
  · have hq : rdQ l n = true := by simp [rdQ, h]
    obtain ⟨k, rfl⟩ : ∃ k : Nat, n = (k : Int) := ⟨n.toNat, by omega⟩
    rw [rdV, if_pos hq, hq, Int.toNat_natCast]
    exact rreadU_yes w p l c X k hb hX (by omega) (by omega)
  · have hq : rdQ l n = false := by simp [rdQ]; omega
    rw [rdV, if_neg (by rw [hq]; simp), hq]
    exact rreadU_no w p l c n hb.2.1 hb.2.2.1 (by omega)
/-- Is a text there, of at most so many bytes? -/
def txQ (X : List Int) (l : Nat) (m : Int) : Bool := decide (2 ≤ l) && decide (rdU (X.take 2) ≤ m) && decide (rdU (X.take 2) + 2 ≤ l)
def txS (X : List Int) (l : Nat) (m : Int) : ByteArray := if txQ X l m = true then strB ((X.drop 2).take (rdU (X.take 2)).toNat) else ⟨#[]⟩
def txN (X : List Int) (l : Nat) (m : Int) : Int := if txQ X l m = true then 2 + rdU (X.take 2) else 0
def txE (X : List Int) (l : Nat) (m : Int) : Int := if txQ X l m = true then 0 else 20
theorem readText_tot (w : World) (p : Option Addr) (l c : Nat) (X : List Int) (m : Int) (hb : RdB w p l c X) (hX : By X) :
    Calls Try.prog 24 #[.slice p l c, .int .i64 m] w fun e w' => e = .returned (.tuple #[.string (txS X l m), .int .i64 (txN X l m), .int .i64 (txE X l m)]) ∧ w = w' := by
  by_cases h2 : 2 ≤ l
  · obtain ⟨L, hL, hL16⟩ := len16 hX (by rw [hb.1]; exact h2)
    by_cases h : (L : Int) ≤ m ∧ 2 + L ≤ l
    · have hq : txQ X l m = true := by unfold txQ; rw [hL]; simp; omega
      unfold txS txN txE
      rw [if_pos hq, if_pos hq, if_pos hq, hL, Int.toNat_natCast]
      exact readText_yes w p l c X L m hb hX h2 hL hL16 h.1 h.2
    · have hq : txQ X l m = false := by unfold txQ; rw [hL]; simp; omega
      unfold txS txN txE
      rw [if_neg (by rw [hq]; simp), if_neg (by rw [hq]; simp), if_neg (by rw [hq]; simp)]
      exact readText_no w p l c X L m hb hX h2 hL hL16 (by omega)
  · have hq : txQ X l m = false := by unfold txQ; simp; omega
    unfold txS txN txE
    rw [if_neg (by rw [hq]; simp), if_neg (by rw [hq]; simp), if_neg (by rw [hq]; simp)]
    exact readText_short w p l c m hb.2.1 hb.2.2.1 (by omega)
theorem rreadText_tot (w : World) (p : Option Addr) (l c : Nat) (X : List Int) (m : Int) (hb : RdB w p l c X) (hX : By X) :
    Calls Try.prog 25 #[.slice p l c, .int .i64 m] w fun e w' => e = .returned (.tuple #[.string (txS X l m), .int .i64 (txN X l m), .int .i64 (txE X l m)]) ∧ w = w' := by
  by_cases h2 : 2 ≤ l
  · obtain ⟨L, hL, hL16⟩ := len16 hX (by rw [hb.1]; exact h2)
    by_cases h : (L : Int) ≤ m ∧ 2 + L ≤ l
    · have hq : txQ X l m = true := by unfold txQ; rw [hL]; simp; omega
      unfold txS txN txE
      rw [if_pos hq, if_pos hq, if_pos hq, hL, Int.toNat_natCast]
      exact rreadText_yes w p l c X L m hb hX h2 hL hL16 h.1 h.2
    · have hq : txQ X l m = false := by unfold txQ; rw [hL]; simp; omega
      unfold txS txN txE
      rw [if_neg (by rw [hq]; simp), if_neg (by rw [hq]; simp), if_neg (by rw [hq]; simp)]
      exact rreadText_no w p l c X L m hb hX h2 hL hL16 (by omega)
  · have hq : txQ X l m = false := by unfold txQ; simp; omega
    unfold txS txN txE
    rw [if_neg (by rw [hq]; simp), if_neg (by rw [hq]; simp), if_neg (by rw [hq]; simp)]
    exact rreadText_short w p l c m hb.2.1 hb.2.2.1 (by omega)
theorem rd_tight {w : World} {p : Option Addr} {l c : Nat} {X : List Int} (h : RdB w p l c X) : RdB w p l l X :=
  ⟨h.1, Nat.le_refl _, Nat.le_trans h.2.1 h.2.2.1, h.2.2.2.1, fun e => by have h1 := h.2.2.2.2 e; have h2 := h.2.1; omega⟩
set_option maxRecDepth 100000 in
set_option maxHeartbeats 4000000 in
theorem numbers_big (w : World) (p : Option Addr) (l c : Nat) (X : List Int) (u n most : Int) (s : ByteArray) (hb : RdB w p l c X) (hs : s.size ≤ 9223372036854775807) (h : 100 < l ∨ 300 < s.size) :
    Calls Try.prog 5 #[.slice p l c, .int .u64 u, .int .i64 n, .string s, .int .i64 most] w fun e w' => e = .returned (.bool true) ∧ Below w.heap.size w w' := by
  have hlc := hb.2.1
  have hcm := hb.2.2.1
  unfold maxLen at hcm
  clear hb
  by_cases h1 : 100 < l
  · clear h
    go_enter Try.func5, Try.ntmps5
    go_wp2_with fail
    go_at_call 9; refine (known_any _).mono ?_; rintro e w1 ⟨rfl, hb⟩
    have HB1 := Lib.hid hb
    clear hb
    go_wp2
    go_ret
    exact ⟨rfl, HB1.out⟩
  · have h2 : 300 < s.size := by omega
    clear h
    go_enter Try.func5, Try.ntmps5
    go_wp2_with fail
    go_at_call 9; refine (known_any _).mono ?_; rintro e w1 ⟨rfl, hb⟩
    have HB1 := Lib.hid hb
    clear hb
    go_wp2
    go_ret
    exact ⟨rfl, HB1.out⟩
end Num
end Go.Proofs.Ytahcgdjcjapnkaa
