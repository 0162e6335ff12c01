/-
  Package table: isName, isEntry; tables as trees.
-/
import Derived.Test.YtamogpbbaihaaaaQD
import Derived.Test.YtamogpbbaihaaaaHH
import Derived.Test.YtamogpbbaihaaaaVCheck
namespace Go.Proofs.Ytamogpbbaihaaaa
open Go.RowKit
namespace Num
open Ints
set_option linter.unusedSimpArgs false
set_option linter.unusedVariables false
/-- An entry, a table. -/
def pairT (n : Nat) (s : ByteArray) (V : VT (n + 1)) : VT (n + 2) := (4, 0, 0, ⟨#[]⟩, [(3, 0, 0, s, []), V])
def pairE (n : Nat) (e : ByteArray × VT (n + 1)) : VT (n + 2) := pairT n e.1 e.2
def tableT (n : Nat) (ES : List (ByteArray × VT (n + 1))) : VT (n + 3) := (4, 0, 0, ⟨#[]⟩, ES.map (pairE n))
/-- A table that is right: few names, in order. -/
def Names (NS : List ByteArray) : Prop := (∀ s ∈ NS, nmV 3 s = true) ∧ ∀ i j (hi : i < NS.length) (hj : j < NS.length), i < j → ltB NS[i] NS[j] = true
theorem pair_mem {w : World} {n : Nat} {v : Value} {s : ByteArray} {V : VT (n + 1)} (h : Rep w (n + 2) v (pairT n s V)) : ∃ g o c, v = .agg #[.int .i64 4, .int .i64 0, .float .f64 0, .string ⟨#[]⟩, .slice (some ⟨g, o, none⟩) 2 c] ∧
    (w.cell? ⟨g, o, none⟩ = some (.int .i64 3) ∧ w.cell? ⟨g, o + 1, none⟩ = some (.int .i64 0) ∧ w.cell? ⟨g, o + 2, none⟩ = some (.float .f64 0) ∧ w.cell? ⟨g, o + 3, none⟩ = some (.string s) ∧ ∃ q d, w.cell? ⟨g, o + 4, none⟩ = some (.slice q 0 d) ∧ d ≤ maxLen) ∧ s.size ≤ maxLen ∧
    ∃ (K I : Int) (F : Nat) (Z : ByteArray) (q : Option Addr) (m d : Nat), (w.cell? ⟨g, o + 5, none⟩ = some (.int .i64 K) ∧ w.cell? ⟨g, o + 5 + 1, none⟩ = some (.int .i64 I) ∧ w.cell? ⟨g, o + 5 + 2, none⟩ = some (.float .f64 F) ∧ w.cell? ⟨g, o + 5 + 3, none⟩ = some (.string Z) ∧ w.cell? ⟨g, o + 5 + 4, none⟩ = some (.slice q m d)) ∧ Rep w (n + 1) (.agg #[.int .i64 K, .int .i64 I, .float .f64 F, .string Z, .slice q m d]) V := by
  obtain ⟨p, l, c, rfl, _, _, _, _, hlen, _, _, h5⟩ := h
  obtain rfl : 2 = l := hlen
  obtain ⟨g, o, rfl, hj⟩ := h5 (by omega)
  obtain ⟨v0, v1, v2, v3, v4, c0, c1, c2, c3, c4, q, m, d, hv, _, _, _, hz, hl, _, hdm, _⟩ := hj 0 (show 0 < 2 by omega)
  obtain rfl : 0 = m := hl
  injection hv with hv
  simp only [Array.mk.injEq, List.cons.injEq, and_true] at hv
  obtain ⟨rfl, rfl, rfl, rfl, rfl⟩ := hv
  obtain ⟨u0, u1, u2, u3, u4, d0, d1, d2, d3, d4, hr⟩ := hj 1 (show 1 < 2 by omega)
  obtain ⟨K2, I2, F2, S2, q2, m2, d2', hu, _⟩ := rep_shape hr
  injection hu with hu
  simp only [Array.mk.injEq, List.cons.injEq, and_true] at hu
  obtain ⟨rfl, rfl, rfl, rfl, rfl⟩ := hu
  simp only [Nat.zero_mul, Nat.one_mul, Nat.add_zero] at c0 c1 c2 c3 c4 d0 d1 d2 d3 d4
  exact ⟨g, o, c, rfl, ⟨c0, c1, c2, c3, q, d, c4, hdm⟩, hz, K2, I2, F2, S2, q2, m2, d2', ⟨d0, d1, d2, d3, d4⟩, hr⟩
theorem pair_name {w : World} {n : Nat} {K I : Int} {F : Nat} {Z : ByteArray} {p : Option Addr} {l c : Nat} {s : ByteArray} {V : VT (n + 1)} (h : Rep w (n + 2) (.agg #[.int .i64 K, .int .i64 I, .float .f64 F, .string Z, .slice p l c]) (pairT n s V)) : K = 4 ∧ I = 0 ∧ F = 0 ∧ Z = ⟨#[]⟩ ∧ l = 2 ∧ NameAt w p s := by
  obtain ⟨g, o, c', hv, hc, _⟩ := pair_mem h
  injection hv with hv
  simp only [Array.mk.injEq, List.cons.injEq, and_true] at hv
  obtain ⟨h1, h2, h3, h4, h5⟩ := hv
  injection h1 with _ h1
  injection h2 with _ h2
  injection h3 with _ h3
  injection h4 with h4
  injection h5 with h5 h6 h7
  subst h1 h2 h3 h4 h5 h6 h7
  exact ⟨rfl, rfl, rfl, rfl, rfl, g, o, rfl, hc.2.2.2.1⟩
theorem isName_any (s : ByteArray) (q : Option Addr) (d : Nat) (w : World) (hn : nmV 3 s = true) (hs : s.size ≤ maxLen) : Calls Try.prog 70 #[.agg #[.int .i64 3, .int .i64 0, .float .f64 0, .string s, .slice q 0 d]] w fun e w' => e = .returned (.bool true) ∧ Below w.heap.size w w' := by
  unfold nmV at hn
  rw [Bool.and_eq_true, Bool.and_eq_true, decide_eq_true_iff, decide_eq_true_iff, decide_eq_true_iff] at hn
  obtain ⟨_, h1, h2⟩ := hn
  have g1 : (0 : Int) < (s.size : Int) := by omega
  have g2 : (s.size : Int) ≤ 32 := by omega
  unfold maxLen at hs
  go_enter Try.func70, Try.ntmps70
  go_wp2
  go_ret
  exact ⟨rfl, bel_alloc (Below.refl w.heap.size w) _⟩
set_option maxRecDepth 100000 in
set_option maxHeartbeats 4000000 in
theorem isEntry_any (n : Nat) (v : Value) (s : ByteArray) (V : VT (n + 1)) (w : World) (h : Rep w (n + 2) v (pairT n s V)) (hn : nmV 3 s = true) : Calls Try.prog 38 #[v] w fun e w' => e = .returned (.bool true) ∧ Below w.heap.size w w' := by
  obtain ⟨g, o, c, rfl, ⟨c0, c1, c2, c3, q, d, c4, _⟩, hs, _⟩ := pair_mem h
  have hlt : g < w.heap.size := cell_lt c0
  have hne : w.heap.size ≠ g := by omega
  have HB := Lib.hid (bel_alloc (Below.refl w.heap.size w) (.cells #[.int .i64 4, .int .i64 0, .float .f64 0, .string ⟨#[]⟩, .slice (some ⟨g, o, none⟩) 2 c] 27))
  clear h
  go_enter Try.func38, Try.ntmps38
  go_wp2_with (go_at_call 70; refine (isName_any _ _ _ _ hn hs).mono ?_; rintro e w1 ⟨rfl, hb1⟩; have HB1 := Lib.hid (bel_step HB.out hb1); clear hb1)
  go_ret
  exact ⟨rfl, HB1.out⟩
end Num
end Go.Proofs.Ytamogpbbaihaaaa
