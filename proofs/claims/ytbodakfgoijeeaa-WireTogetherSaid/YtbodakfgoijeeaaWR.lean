/-
  Numbers as bytes: what the reference puts and reads.
-/
import Derived.Test.YtbodakfgoijeeaaUA
namespace Go.Proofs.Ytbodakfgoijeeaa
open Go.RowKit
namespace Num
open Ints
set_option linter.unusedSimpArgs false
set_option linter.unusedVariables false
/-- A slice that is the call's own, or one that came in and has no room. -/
def InB (W0 w : World) (p : Option Addr) (l c : Nat) (X : List Int) : Prop := OwB W0 w p l c X ∨ (c = l ∧ RdB w p l l X ∧ Below W0.heap.size W0 w ∧ W0.heap.size ≤ w.heap.size)
theorem in_rd {W0 w : World} {p : Option Addr} {l c : Nat} {X : List Int} (h : InB W0 w p l c X) : RdB w p l c X := by
  rcases h with h | ⟨rfl, h, _⟩
  · exact rd_of_ow h
  · exact h
theorem in_bel {W0 w : World} {p : Option Addr} {l c : Nat} {X : List Int} (h : InB W0 w p l c X) : Below W0.heap.size W0 w := by
  rcases h with h | ⟨rfl, _, h, _⟩
  · exact ow_bel h
  · exact h
theorem in_keep {W0 w w' : World} {p : Option Addr} {l c : Nat} {X : List Int} (h : InB W0 w p l c X) (hb : Below w.heap.size w w') : InB W0 w' p l c X := by
  rcases h with h | ⟨rfl, h, h1, h2⟩
  · exact Or.inl (ow_keep h hb)
  · exact Or.inr ⟨rfl, rd_keep hb h, h1.trans (hb.mono h2), Nat.le_trans h2 hb.size⟩
theorem in_of_rd {w : World} {p : Option Addr} {l : Nat} {X : List Int} (h : RdB w p l l X) : InB w w p l l X := Or.inr ⟨rfl, h, Below.refl _ _, Nat.le_refl _⟩
section
variable {ops : Array Oper} {rest : List Oper} {o : Oper} {a : Act} {Q : Exit → Act → World → Prop}
theorem wp_in1 (hgd : o.guard = none) (s x : Operand) (ho : o.op = .call { callee := .builtin .append, args := #[s, x], argTypes := #[22, 22] })
    (W0 w : World) (p : Option Addr) (l c : Nat) (X : List Int) (n : Int) (hs : a.eval s = .slice p l c) (hx : a.eval x = .slice (some ⟨w.heap.size, 0, none⟩) 1 1) (hb : InB W0 w p l c X) (hl : l ≤ 1000000)
    (h : ∀ p' c' w', OwB W0 w' p' (l + 1) c' (X ++ [n]) → wpList Try.prog ops Q rest (a.put o.dst (.slice p' (l + 1) c')) w') : wpList Try.prog ops Q (o :: rest) a (w.alloc (.cells #[.int .u8 n] 5)) := by
  rcases hb with hb | ⟨rfl, hb, hB, hle⟩
  · exact wp_ob1 hgd s x ho W0 w p l c X n hs hx hb hl (fun p' c' w' h1 _ => h p' c' w' h1)
  · exact wp_tb1 hgd s x ho w p c X n hs hx hb hl (fun p' c' w' h1 _ => h p' c' w' (ow_base hB h1))
end
set_option maxHeartbeats 1000000 in
theorem rputU_at (W0 w : World) (p : Option Addr) (l c : Nat) (X : List Int) (u : Int) (k : Nat) (hu0 : 0 ≤ u) (hu1 : u < 18446744073709551616) (hk : k ≤ 8) (hb : InB W0 w p l c X) (hl : l ≤ 100000) :
    Calls Try.prog 34 #[.slice p l c, .int .u64 u, .int .i64 k] w fun e w' => ∃ p' c', e = .returned (.slice p' (l + k) c') ∧ InB W0 w' p' (l + k) c' (X ++ beI u k) ∧ (0 < k → OwB W0 w' p' (l + k) c' (X ++ beI u k)) := by
  have HB := Lib.hid hb
  clear hb
  go_enter Try.func34, Try.ntmps34
  go_wp2
  go_loopw [0, 7] (fun v i wr => ∃ (r l' : Nat) (p' : Option Addr) (c' : Nat) (Z : List Int), r ≤ k ∧ i = .int .i64 ((r : Int) - 1) ∧ v = .slice p' l' c' ∧ InB W0 wr p' l' c' Z ∧ (r < k → OwB W0 wr p' l' c' Z) ∧ Z ++ beI u r = X ++ beI u k ∧ l' + r = l + k) (fun _ i _ => (intOf i + 1).toNat)
  case atStart => exact ⟨k, l, p, c, X, Nat.le_refl _, rfl, rfl, HB.out, fun h => absurd h (Nat.lt_irrefl _), rfl, rfl⟩
  case round =>
    obtain ⟨r, l', p', c', Z, hr, rfl, rfl, ho, hown, hz, hlr⟩ := hrel
    have HO := Lib.hid ho
    have HW := Lib.hid hown
    have HZ := Lib.hid hz
    have HL := Lib.hid hlr
    have hl' : l' ≤ 200000 := by omega
    clear ho hz hlr hown
    by_cases h0 : 1 ≤ r
    · obtain ⟨m, rfl⟩ : ∃ m, r = m + 1 := ⟨r - 1, by omega⟩
      rw [show (((m + 1 : Nat) : Int) - 1) = (m : Int) by omega]
      go_wp2_with (at_builtin; refine wp_in1 rfl _ _ rfl W0 wr p' l' c' Z _ rfl rfl HO.out (by omega) ?_; intro p2 c2 w2 ho2)
      have HO2 := Lib.hid ho2
      clear ho2
      go_roundw
      case rel => exact ⟨m, l' + 1, p2, c2, _, by omega, rfl, rfl, Or.inl HO2.out, fun _ => HO2.out, by rw [List.append_assoc]; exact HZ.out, by have := HL.out; omega⟩
      case measure => simp [intOf]
    · obtain rfl : r = 0 := by omega
      have hZ : Z = X ++ beI u k := by have := HZ.out; rw [beI, List.append_nil] at this; exact this
      have hL : l' = l + k := by have := HL.out; omega
      have HO2 := Lib.hid (show InB W0 wr p' (l + k) c' (X ++ beI u k) ∧ (0 < k → OwB W0 wr p' (l + k) c' (X ++ beI u k)) by rw [← hL, ← hZ]; exact ⟨HO.out, HW.out⟩)
      have HR := Lib.hid (show Ending.returned (.slice p' l' c') = .returned (.slice p' (l + k) c') by rw [hL])
      clear hZ hL HZ
      go_wp2
      go_ret
      exact ⟨p', c', HR.out, HO2.out⟩
set_option maxHeartbeats 1000000 in
theorem rputU_neg (W0 w : World) (p : Option Addr) (l c : Nat) (X : List Int) (u n : Int) (hu0 : 0 ≤ u) (hu1 : u < 18446744073709551616) (hn : n < 0) (hb : InB W0 w p l c X) (hl : l ≤ 100000) :
    Calls Try.prog 34 #[.slice p l c, .int .u64 u, .int .i64 n] w fun e w' => ∃ p' c', e = .returned (.slice p' (l + 0) c') ∧ InB W0 w' p' (l + 0) c' (X ++ beI u 0) ∧ (0 < 0 → OwB W0 w' p' (l + 0) c' (X ++ beI u 0)) := by
  have HB := Lib.hid hb
  clear hb
  go_enter Try.func34, Try.ntmps34
  go_wp2
  go_loopw [0, 7] (fun v i wr => ∃ (r l' : Nat) (p' : Option Addr) (c' : Nat) (Z : List Int), r ≤ 0 ∧ i = .int .i64 ((r : Int) - 1) ∧ v = .slice p' l' c' ∧ InB W0 wr p' l' c' Z ∧ (r < 0 → OwB W0 wr p' l' c' Z) ∧ Z ++ beI u r = X ++ beI u 0 ∧ l' + r = l + 0) (fun _ i _ => (intOf i + 1).toNat)
  case atStart => exact ⟨0, l, p, c, X, Nat.le_refl _, rfl, rfl, HB.out, fun h => absurd h (Nat.lt_irrefl _), rfl, rfl⟩
  case round =>
    obtain ⟨r, l', p', c', Z, hr, rfl, rfl, ho, hown, hz, hlr⟩ := hrel
    have HO := Lib.hid ho
    have HW := Lib.hid hown
    have HZ := Lib.hid hz
    have HL := Lib.hid hlr
    have hl' : l' ≤ 200000 := by omega
    clear ho hz hlr hown
    by_cases h0 : 1 ≤ r
    · exfalso; omega
    · obtain rfl : r = 0 := by omega
      have hZ : Z = X ++ beI u 0 := by have := HZ.out; rw [beI, List.append_nil] at this; exact this
      have hL : l' = l + 0 := by have := HL.out; omega
      have HO2 := Lib.hid (show InB W0 wr p' (l + 0) c' (X ++ beI u 0) ∧ (0 < 0 → OwB W0 wr p' (l + 0) c' (X ++ beI u 0)) by rw [← hL, ← hZ]; exact ⟨HO.out, HW.out⟩)
      have HR := Lib.hid (show Ending.returned (.slice p' l' c') = .returned (.slice p' (l + 0) c') by rw [hL])
      clear hZ hL HZ
      go_wp2
      go_ret
      exact ⟨p', c', HR.out, HO2.out⟩
set_option maxHeartbeats 1000000 in
theorem rputU_big (W0 w : World) (p : Option Addr) (l c : Nat) (X : List Int) (u n : Int) (hu0 : 0 ≤ u) (hu1 : u < 18446744073709551616) (hn : 8 < n) (hb : InB W0 w p l c X) (hl : l ≤ 100000) :
    Calls Try.prog 34 #[.slice p l c, .int .u64 u, .int .i64 n] w fun e w' => ∃ p' c', e = .returned (.slice p' (l + 8) c') ∧ InB W0 w' p' (l + 8) c' (X ++ beI u 8) ∧ (0 < 8 → OwB W0 w' p' (l + 8) c' (X ++ beI u 8)) := by
  have HB := Lib.hid hb
  clear hb
  go_enter Try.func34, Try.ntmps34
  go_wp2
  go_loopw [0, 7] (fun v i wr => ∃ (r l' : Nat) (p' : Option Addr) (c' : Nat) (Z : List Int), r ≤ 8 ∧ i = .int .i64 ((r : Int) - 1) ∧ v = .slice p' l' c' ∧ InB W0 wr p' l' c' Z ∧ (r < 8 → OwB W0 wr p' l' c' Z) ∧ Z ++ beI u r = X ++ beI u 8 ∧ l' + r = l + 8) (fun _ i _ => (intOf i + 1).toNat)
  case atStart => exact ⟨8, l, p, c, X, Nat.le_refl _, rfl, rfl, HB.out, fun h => absurd h (Nat.lt_irrefl _), rfl, rfl⟩
  case round =>
    obtain ⟨r, l', p', c', Z, hr, rfl, rfl, ho, hown, hz, hlr⟩ := hrel
    have HO := Lib.hid ho
    have HW := Lib.hid hown
    have HZ := Lib.hid hz
    have HL := Lib.hid hlr
    have hl' : l' ≤ 200000 := by omega
    clear ho hz hlr hown
    by_cases h0 : 1 ≤ r
    · obtain ⟨m, rfl⟩ : ∃ m, r = m + 1 := ⟨r - 1, by omega⟩
      rw [show (((m + 1 : Nat) : Int) - 1) = (m : Int) by omega]
      go_wp2_with (at_builtin; refine wp_in1 rfl _ _ rfl W0 wr p' l' c' Z _ rfl rfl HO.out (by omega) ?_; intro p2 c2 w2 ho2)
      have HO2 := Lib.hid ho2
      clear ho2
      go_roundw
      case rel => exact ⟨m, l' + 1, p2, c2, _, by omega, rfl, rfl, Or.inl HO2.out, fun _ => HO2.out, by rw [List.append_assoc]; exact HZ.out, by have := HL.out; omega⟩
      case measure => simp [intOf]
    · obtain rfl : r = 0 := by omega
      have hZ : Z = X ++ beI u 8 := by have := HZ.out; rw [beI, List.append_nil] at this; exact this
      have hL : l' = l + 8 := by have := HL.out; omega
      have HO2 := Lib.hid (show InB W0 wr p' (l + 8) c' (X ++ beI u 8) ∧ (0 < 8 → OwB W0 wr p' (l + 8) c' (X ++ beI u 8)) by rw [← hL, ← hZ]; exact ⟨HO.out, HW.out⟩)
      have HR := Lib.hid (show Ending.returned (.slice p' l' c') = .returned (.slice p' (l + 8) c') by rw [hL])
      clear hZ hL HZ
      go_wp2
      go_ret
      exact ⟨p', c', HR.out, HO2.out⟩
/-- The number of bytes is clamped. -/
theorem rputU_any (W0 w : World) (p : Option Addr) (l c : Nat) (X : List Int) (u n : Int) (hu0 : 0 ≤ u) (hu1 : u < 18446744073709551616) (hb : InB W0 w p l c X) (hl : l ≤ 100000) :
    Calls Try.prog 34 #[.slice p l c, .int .u64 u, .int .i64 n] w fun e w' => ∃ p' c', e = .returned (.slice p' (l + clampN n) c') ∧ InB W0 w' p' (l + clampN n) c' (X ++ beI u (clampN n)) ∧ (0 < clampN n → OwB W0 w' p' (l + clampN n) c' (X ++ beI u (clampN n))) := by
  by_cases h0 : n < 0
  · have hc : clampN n = 0 := by unfold clampN; rw [if_pos h0]
    rw [hc]
    exact rputU_neg W0 w p l c X u n hu0 hu1 h0 hb hl
  · by_cases h8 : 8 < n
    · have hc : clampN n = 8 := by unfold clampN; rw [if_neg h0, if_pos h8]
      rw [hc]
      exact rputU_big W0 w p l c X u n hu0 hu1 h8 hb hl
    · obtain ⟨k, rfl⟩ : ∃ k : Nat, n = (k : Int) := ⟨n.toNat, by omega⟩
      have hc : clampN (k : Int) = k := by unfold clampN; rw [if_neg h0, if_neg h8]; rfl
      rw [hc]
      exact rputU_at W0 w p l c X u k hu0 hu1 (by omega) hb hl
set_option maxHeartbeats 1000000 in
theorem rreadU_yes (w : World) (p : Option Addr) (l c : Nat) (X : List Int) (k : Nat) (hb : RdB w p l c X) (hX : By X) (hk : k ≤ 8) (hkl : k ≤ l) :
    Calls Try.prog 39 #[.slice p l c, .int .i64 k] w fun e w' => e = .returned (.tuple #[.int .u64 (rdU (X.take k)), .bool true]) ∧ w = w' := by
  have HB := Lib.hid hb
  have HX := Lib.hid hX
  have hlc := hb.2.1
  have hcm := hb.2.2.1
  unfold maxLen at hcm
  clear hb hX
  go_enter Try.func39, Try.ntmps39
  go_wp2
  go_loop [6, 7] (fun v i => ∃ j : Nat, j ≤ k ∧ i = .int .i64 j ∧ v = .int .u64 (rdU (X.take j))) (fun _ i => k - (intOf i).toNat)
  case atStart => exact ⟨0, Nat.zero_le _, rfl, rfl⟩
  case round =>
    obtain ⟨j, hj, rfl, rfl⟩ := hrel
    by_cases hlt : j < k
    · have hjX : j < X.length := by have := HB.out.1; omega
      obtain ⟨x, hx⟩ : ∃ x, x = X[j] := ⟨_, rfl⟩
      obtain ⟨b, off, rfl, h⟩ := HB.out.2.2.2.1 (by omega)
      have hc : w.cell? ⟨b, off + j, none⟩ = some (.int .u8 x) := by
        rw [hx]; exact h j hjX
      obtain ⟨hx0, hx1⟩ : 0 ≤ x ∧ x < 256 := by rw [hx]; exact HX.out _ (List.getElem_mem hjX)
      have HS := Lib.hid (show rdU (X.take (j + 1)) = shor (rdU (X.take j)) x by rw [take_snocI X j hjX, rdU_snoc, hx])
      have hjl : j < l := by omega
      clear hx hjX h
      go_wp2
      go_round
      case rel => exact ⟨j + 1, by omega, by go_num, by rw [HS.out]; rfl⟩
      case measure => simp [intOf]; omega
    · obtain rfl : j = k := by omega
      go_wp2
      go_ret2
      exact ⟨rfl, rfl⟩
set_option maxHeartbeats 1000000 in
theorem rreadU_no (w : World) (p : Option Addr) (l c : Nat) (n : Int) (hl : l ≤ c) (hc : c ≤ maxLen) (hn : n < 0 ∨ 8 < n ∨ (l : Int) < n) :
    Calls Try.prog 39 #[.slice p l c, .int .i64 n] w fun e w' => e = .returned (.tuple #[.int .u64 0, .bool false]) ∧ w = w' := by
  unfold maxLen at hc
  by_cases h0 : n < 0
  · clear hn
    go_enter Try.func39, Try.ntmps39
    go_wp2
    go_ret2
    exact ⟨rfl, rfl⟩
  · by_cases h8 : 8 < n
    · clear hn
      go_enter Try.func39, Try.ntmps39
      go_wp2
      go_ret2
      exact ⟨rfl, rfl⟩
    · have hl : (l : Int) < n := by omega
      clear hn
      go_enter Try.func39, Try.ntmps39
      go_wp2
      go_ret2
      exact ⟨rfl, rfl⟩
end Num
end Go.Proofs.Ytbodakfgoijeeaa
