/-
  Bytes of numbers: plain functions.
-/
import Derived.Test.YtomfgncbdgifoaaJWB
import Derived.Laws.ShiftsVar
import Derived.Laws.ShiftsVarLaws
import Derived.Lib.EndianBits
import Derived.Outline
namespace Go.Proofs.Ytomfgncbdgifoaa
open Go.RowKit
namespace Num
open Ints
set_option linter.unusedSimpArgs false
set_option linter.unusedVariables false
/-- u's lowest n bytes, the highest first. -/
def beI (u : Int) : Nat → List Int
  | 0 => []
  | n + 1 => u / 2 ^ (8 * n) % 256 :: beI u n
theorem beI_len (u : Int) : ∀ n, (beI u n).length = n
  | 0 => rfl
  | n + 1 => by rw [beI, List.length_cons, beI_len u n]
def zb (n : Nat) : Array Value := madeCells (Value.cells (.int .u8 0)) (n * 1)
theorem zb_size (n : Nat) : (zb n).size = n := by
  unfold zb; rw [size_madeCells, Nat.mul_one]
/-- How many bytes are put. -/
def clampN (n : Int) : Nat := if n < 0 then 0 else if 8 < n then 8 else n.toNat
theorem clamp_le (n : Int) : clampN n ≤ 8 := by unfold clampN; split <;> (try split) <;> omega
/-- A byte more, at the end. -/
def shor (v x : Int) : Int := bits BinOp.or .u64 (IntKind.u64.wrap (v * 256)) x
def rdU (X : List Int) : Int := X.foldl shor 0
def By (X : List Int) : Prop := ∀ x ∈ X, 0 ≤ x ∧ x < 256
theorem rdU_snoc (X : List Int) (x : Int) : rdU (X ++ [x]) = shor (rdU X) x := by unfold rdU; rw [List.foldl_append]; rfl
theorem take_snocI (X : List Int) (k : Nat) (h : k < X.length) : X.take (k + 1) = X.take k ++ [X[k]] := by
  rw [List.take_succ_eq_append_getElem h]
end Num
end Go.Proofs.Ytomfgncbdgifoaa
/-
  Numbers as bytes: what the reference puts and reads.
-/
namespace Go.Proofs.Ytomfgncbdgifoaa
open Go.RowKit
namespace Num
open Ints
set_option linter.unusedSimpArgs false
set_option linter.unusedVariables false
/-- A slice that is the call's own, or one that came in and has no room. -/
def InB (W0 w : World) (p : Option Addr) (l c : Nat) (X : List Int) : Prop := OwB W0 w p l c X ∨ (c = l ∧ RdB w p l l X ∧ Below W0.heap.size W0 w ∧ W0.heap.size ≤ w.heap.size)
theorem in_rd {W0 w : World} {p : Option Addr} {l c : Nat} {X : List Int} (h : InB W0 w p l c X) : RdB w p l c X := by
  rcases h with h | ⟨rfl, h, _⟩
  · exact rd_of_ow h
  · exact h
theorem in_bel {W0 w : World} {p : Option Addr} {l c : Nat} {X : List Int} (h : InB W0 w p l c X) : Below W0.heap.size W0 w := by
  rcases h with h | ⟨rfl, _, h, _⟩
  · exact ow_bel h
  · exact h
theorem in_keep {W0 w w' : World} {p : Option Addr} {l c : Nat} {X : List Int} (h : InB W0 w p l c X) (hb : Below w.heap.size w w') : InB W0 w' p l c X := by
  rcases h with h | ⟨rfl, h, h1, h2⟩
  · exact Or.inl (ow_keep h hb)
  · exact Or.inr ⟨rfl, rd_keep hb h, h1.trans (hb.mono h2), Nat.le_trans h2 hb.size⟩
theorem in_of_rd {w : World} {p : Option Addr} {l : Nat} {X : List Int} (h : RdB w p l l X) : InB w w p l l X := Or.inr ⟨rfl, h, Below.refl _ _, Nat.le_refl _⟩
section
variable {ops : Array Oper} {rest : List Oper} {o : Oper} {a : Act} {Q : Exit → Act → World → Prop}
theorem wp_in1 (hgd : o.guard = none) (s x : Operand) (ho : o.op = .call { callee := .builtin .append, args := #[s, x], argTypes := #[22, 22] })
    (W0 w : World) (p : Option Addr) (l c : Nat) (X : List Int) (n : Int) (hs : a.eval s = .slice p l c) (hx : a.eval x = .slice (some ⟨w.heap.size, 0, none⟩) 1 1) (hb : InB W0 w p l c X) (hl : l ≤ 1000000)
    (h : ∀ p' c' w', OwB W0 w' p' (l + 1) c' (X ++ [n]) → wpList Try.prog ops Q rest (a.put o.dst (.slice p' (l + 1) c')) w') : wpList Try.prog ops Q (o :: rest) a (w.alloc (.cells #[.int .u8 n] 5)) := by
  rcases hb with hb | ⟨rfl, hb, hB, hle⟩
  · exact wp_ob1 hgd s x ho W0 w p l c X n hs hx hb hl (fun p' c' w' h1 _ => h p' c' w' h1)
  · exact wp_tb1 hgd s x ho w p c X n hs hx hb hl (fun p' c' w' h1 _ => h p' c' w' (ow_base hB h1))
end
set_option maxHeartbeats 1000000 in
theorem rputU_at (W0 w : World) (p : Option Addr) (l c : Nat) (X : List Int) (u : Int) (k : Nat) (hu0 : 0 ≤ u) (hu1 : u < 18446744073709551616) (hk : k ≤ 8) (hb : InB W0 w p l c X) (hl : l ≤ 100000) :
    Calls Try.prog 52 #[.slice p l c, .int .u64 u, .int .i64 k] w fun e w' => ∃ p' c', e = .returned (.slice p' (l + k) c') ∧ InB W0 w' p' (l + k) c' (X ++ beI u k) ∧ (0 < k → OwB W0 w' p' (l + k) c' (X ++ beI u k)) := by
  have HB := Lib.hid hb
  clear hb
  go_enter Try.func52, Try.ntmps52
  go_wp2
  go_loopw [0, 7] (fun v i wr => ∃ (r l' : Nat) (p' : Option Addr) (c' : Nat) (Z : List Int), r ≤ k ∧ i = .int .i64 ((r : Int) - 1) ∧ v = .slice p' l' c' ∧ InB W0 wr p' l' c' Z ∧ (r < k → OwB W0 wr p' l' c' Z) ∧ Z ++ beI u r = X ++ beI u k ∧ l' + r = l + k) (fun _ i _ => (intOf i + 1).toNat)
  case atStart => exact ⟨k, l, p, c, X, Nat.le_refl _, rfl, rfl, HB.out, fun h => absurd h (Nat.lt_irrefl _), rfl, rfl⟩
  case round =>
    obtain ⟨r, l', p', c', Z, hr, rfl, rfl, ho, hown, hz, hlr⟩ := hrel
    have HO := Lib.hid ho
    have HW := Lib.hid hown
    have HZ := Lib.hid hz
    have HL := Lib.hid hlr
    have hl' : l' ≤ 200000 := by omega
    clear ho hz hlr hown
    by_cases h0 : 1 ≤ r
    · obtain ⟨m, rfl⟩ : ∃ m, r = m + 1 := ⟨r - 1, by omega⟩
      rw [show (((m + 1 : Nat) : Int) - 1) = (m : Int) by omega]
      go_wp2_with (at_builtin; refine wp_in1 rfl _ _ rfl W0 wr p' l' c' Z _ rfl rfl HO.out (by omega) ?_; intro p2 c2 w2 ho2)
      have HO2 := Lib.hid ho2
      clear ho2
      go_roundw
      case rel => exact ⟨m, l' + 1, p2, c2, _, by omega, rfl, rfl, Or.inl HO2.out, fun _ => HO2.out, by rw [List.append_assoc]; exact HZ.out, by have := HL.out; omega⟩
      case measure => simp [intOf]
    · obtain rfl : r = 0 := by omega
      have hZ : Z = X ++ beI u k := by have := HZ.out; rw [beI, List.append_nil] at this; exact this
      have hL : l' = l + k := by have := HL.out; omega
      have HO2 := Lib.hid (show InB W0 wr p' (l + k) c' (X ++ beI u k) ∧ (0 < k → OwB W0 wr p' (l + k) c' (X ++ beI u k)) by rw [← hL, ← hZ]; exact ⟨HO.out, HW.out⟩)
      have HR := Lib.hid (show Ending.returned (.slice p' l' c') = .returned (.slice p' (l + k) c') by rw [hL])
      clear hZ hL HZ
      go_wp2
      go_ret
      exact ⟨p', c', HR.out, HO2.out⟩
set_option maxHeartbeats 1000000 in
theorem rputU_neg (W0 w : World) (p : Option Addr) (l c : Nat) (X : List Int) (u n : Int) (hu0 : 0 ≤ u) (hu1 : u < 18446744073709551616) (hn : n < 0) (hb : InB W0 w p l c X) (hl : l ≤ 100000) :
    Calls Try.prog 52 #[.slice p l c, .int .u64 u, .int .i64 n] w fun e w' => ∃ p' c', e = .returned (.slice p' (l + 0) c') ∧ InB W0 w' p' (l + 0) c' (X ++ beI u 0) ∧ (0 < 0 → OwB W0 w' p' (l + 0) c' (X ++ beI u 0)) := by
  have HB := Lib.hid hb
  clear hb
  go_enter Try.func52, Try.ntmps52
  go_wp2
  go_loopw [0, 7] (fun v i wr => ∃ (r l' : Nat) (p' : Option Addr) (c' : Nat) (Z : List Int), r ≤ 0 ∧ i = .int .i64 ((r : Int) - 1) ∧ v = .slice p' l' c' ∧ InB W0 wr p' l' c' Z ∧ (r < 0 → OwB W0 wr p' l' c' Z) ∧ Z ++ beI u r = X ++ beI u 0 ∧ l' + r = l + 0) (fun _ i _ => (intOf i + 1).toNat)
  case atStart => exact ⟨0, l, p, c, X, Nat.le_refl _, rfl, rfl, HB.out, fun h => absurd h (Nat.lt_irrefl _), rfl, rfl⟩
  case round =>
    obtain ⟨r, l', p', c', Z, hr, rfl, rfl, ho, hown, hz, hlr⟩ := hrel
    have HO := Lib.hid ho
    have HW := Lib.hid hown
    have HZ := Lib.hid hz
    have HL := Lib.hid hlr
    have hl' : l' ≤ 200000 := by omega
    clear ho hz hlr hown
    by_cases h0 : 1 ≤ r
    · exfalso; omega
    · obtain rfl : r = 0 := by omega
      have hZ : Z = X ++ beI u 0 := by have := HZ.out; rw [beI, List.append_nil] at this; exact this
      have hL : l' = l + 0 := by have := HL.out; omega
      have HO2 := Lib.hid (show InB W0 wr p' (l + 0) c' (X ++ beI u 0) ∧ (0 < 0 → OwB W0 wr p' (l + 0) c' (X ++ beI u 0)) by rw [← hL, ← hZ]; exact ⟨HO.out, HW.out⟩)
      have HR := Lib.hid (show Ending.returned (.slice p' l' c') = .returned (.slice p' (l + 0) c') by rw [hL])
      clear hZ hL HZ
      go_wp2
      go_ret
      exact ⟨p', c', HR.out, HO2.out⟩
set_option maxHeartbeats 1000000 in
theorem rputU_big (W0 w : World) (p : Option Addr) (l c : Nat) (X : List Int) (u n : Int) (hu0 : 0 ≤ u) (hu1 : u < 18446744073709551616) (hn : 8 < n) (hb : InB W0 w p l c X) (hl : l ≤ 100000) :
    Calls Try.prog 52 #[.slice p l c, .int .u64 u, .int .i64 n] w fun e w' => ∃ p' c', e = .returned (.slice p' (l + 8) c') ∧ InB W0 w' p' (l + 8) c' (X ++ beI u 8) ∧ (0 < 8 → OwB W0 w' p' (l + 8) c' (X ++ beI u 8)) := by
  have HB := Lib.hid hb
  clear hb
  go_enter Try.func52, Try.ntmps52
  go_wp2
  go_loopw [0, 7] (fun v i wr => ∃ (r l' : Nat) (p' : Option Addr) (c' : Nat) (Z : List Int), r ≤ 8 ∧ i = .int .i64 ((r : Int) - 1) ∧ v = .slice p' l' c' ∧ InB W0 wr p' l' c' Z ∧ (r < 8 → OwB W0 wr p' l' c' Z) ∧ Z ++ beI u r = X ++ beI u 8 ∧ l' + r = l + 8) (fun _ i _ => (intOf i + 1).toNat)
  case atStart => exact ⟨8, l, p, c, X, Nat.le_refl _, rfl, rfl, HB.out, fun h => absurd h (Nat.lt_irrefl _), rfl, rfl⟩
  case round =>
    obtain ⟨r, l', p', c', Z, hr, rfl, rfl, ho, hown, hz, hlr⟩ := hrel
    have HO := Lib.hid ho
    have HW := Lib.hid hown
    have HZ := Lib.hid hz
    have HL := Lib.hid hlr
    have hl' : l' ≤ 200000 := by omega
    clear ho hz hlr hown
    by_cases h0 : 1 ≤ r
    · obtain ⟨m, rfl⟩ : ∃ m, r = m + 1 := ⟨r - 1, by omega⟩
      rw [show (((m + 1 : Nat) : Int) - 1) = (m : Int) by omega]
      go_wp2_with (at_builtin; refine wp_in1 rfl _ _ rfl W0 wr p' l' c' Z _ rfl rfl HO.out (by omega) ?_; intro p2 c2 w2 ho2)
      have HO2 := Lib.hid ho2
      clear ho2
      go_roundw
      case rel => exact ⟨m, l' + 1, p2, c2, _, by omega, rfl, rfl, Or.inl HO2.out, fun _ => HO2.out, by rw [List.append_assoc]; exact HZ.out, by have := HL.out; omega⟩
      case measure => simp [intOf]
    · obtain rfl : r = 0 := by omega
      have hZ : Z = X ++ beI u 8 := by have := HZ.out; rw [beI, List.append_nil] at this; exact this
      have hL : l' = l + 8 := by have := HL.out; omega
      have HO2 := Lib.hid (show InB W0 wr p' (l + 8) c' (X ++ beI u 8) ∧ (0 < 8 → OwB W0 wr p' (l + 8) c' (X ++ beI u 8)) by rw [← hL, ← hZ]; exact ⟨HO.out, HW.out⟩)
      have HR := Lib.hid (show Ending.returned (.slice p' l' c') = .returned (.slice p' (l + 8) c') by rw [hL])
      clear hZ hL HZ
      go_wp2
      go_ret
      exact ⟨p', c', HR.out, HO2.out⟩
/-- The number of bytes is clamped. -/
theorem rputU_any (W0 w : World) (p : Option Addr) (l c : Nat) (X : List Int) (u n : Int) (hu0 : 0 ≤ u) (hu1 : u < 18446744073709551616) (hb : InB W0 w p l c X) (hl : l ≤ 100000) :
    Calls Try.prog 52 #[.slice p l c, .int .u64 u, .int .i64 n] w fun e w' => ∃ p' c', e = .returned (.slice p' (l + clampN n) c') ∧ InB W0 w' p' (l + clampN n) c' (X ++ beI u (clampN n)) ∧ (0 < clampN n → OwB W0 w' p' (l + clampN n) c' (X ++ beI u (clampN n))) := by
  by_cases h0 : n < 0
  · have hc : clampN n = 0 := by unfold clampN; rw [if_pos h0]
    rw [hc]
    exact rputU_neg W0 w p l c X u n hu0 hu1 h0 hb hl
  · by_cases h8 : 8 < n
    · have hc : clampN n = 8 := by unfold clampN; rw [if_neg h0, if_pos h8]
      rw [hc]
      exact rputU_big W0 w p l c X u n hu0 hu1 h8 hb hl
    · obtain ⟨k, rfl⟩ : ∃ k : Nat, n = (k : Int) := ⟨n.toNat, by omega⟩
      have hc : clampN (k : Int) = k := by unfold clampN; rw [if_neg h0, if_neg h8]; rfl
      rw [hc]
      exact rputU_at W0 w p l c X u k hu0 hu1 (by omega) hb hl
set_option maxHeartbeats 1000000 in
theorem rreadU_yes (w : World) (p : Option Addr) (l c : Nat) (X : List Int) (k : Nat) (hb : RdB w p l c X) (hX : By X) (hk : k ≤ 8) (hkl : k ≤ l) :
    Calls Try.prog 48 #[.slice p l c, .int .i64 k] w fun e w' => e = .returned (.tuple #[.int .u64 (rdU (X.take k)), .bool true]) ∧ w = w' := by
  have HB := Lib.hid hb
  have HX := Lib.hid hX
  have hlc := hb.2.1
  have hcm := hb.2.2.1
  unfold maxLen at hcm
  clear hb hX
  go_enter Try.func48, Try.ntmps48
  go_wp2
  go_loop [6, 7] (fun v i => ∃ j : Nat, j ≤ k ∧ i = .int .i64 j ∧ v = .int .u64 (rdU (X.take j))) (fun _ i => k - (intOf i).toNat)
  case atStart => exact ⟨0, Nat.zero_le _, rfl, rfl⟩
  case round =>
    obtain ⟨j, hj, rfl, rfl⟩ := hrel
    by_cases hlt : j < k
    · have hjX : j < X.length := by have := HB.out.1; omega
      obtain ⟨x, hx⟩ : ∃ x, x = X[j] := ⟨_, rfl⟩
      obtain ⟨b, off, rfl, h⟩ := HB.out.2.2.2.1 (by omega)
      have hc : w.cell? ⟨b, off + j, none⟩ = some (.int .u8 x) := by
        rw [hx]; exact h j hjX
      obtain ⟨hx0, hx1⟩ : 0 ≤ x ∧ x < 256 := by rw [hx]; exact HX.out _ (List.getElem_mem hjX)
      have HS := Lib.hid (show rdU (X.take (j + 1)) = shor (rdU (X.take j)) x by rw [take_snocI X j hjX, rdU_snoc, hx])
      have hjl : j < l := by omega
      clear hx hjX h
      go_wp2
      go_round
      case rel => exact ⟨j + 1, by omega, by go_num, by rw [HS.out]; rfl⟩
      case measure => simp [intOf]; omega
    · obtain rfl : j = k := by omega
      go_wp2
      go_ret2
      exact ⟨rfl, rfl⟩
set_option maxHeartbeats 1000000 in
theorem rreadU_no (w : World) (p : Option Addr) (l c : Nat) (n : Int) (hl : l ≤ c) (hc : c ≤ maxLen) (hn : n < 0 ∨ 8 < n ∨ (l : Int) < n) :
    Calls Try.prog 48 #[.slice p l c, .int .i64 n] w fun e w' => e = .returned (.tuple #[.int .u64 0, .bool false]) ∧ w = w' := by
  unfold maxLen at hc
  by_cases h0 : n < 0
  · clear hn
    go_enter Try.func48, Try.ntmps48
    go_wp2
    go_ret2
    exact ⟨rfl, rfl⟩
  · by_cases h8 : 8 < n
    · clear hn
      go_enter Try.func48, Try.ntmps48
      go_wp2
      go_ret2
      exact ⟨rfl, rfl⟩
    · have hl : (l : Int) < n := by omega
      clear hn
      go_enter Try.func48, Try.ntmps48
      go_wp2
      go_ret2
      exact ⟨rfl, rfl⟩
end Num
end Go.Proofs.Ytomfgncbdgifoaa
/-
  Numbers as bytes: what package wire and the reference put and read.
-/
namespace Go.Proofs.Ytomfgncbdgifoaa
open Go.RowKit
namespace Num
open Ints
set_option linter.unusedSimpArgs false
set_option linter.unusedVariables false
set_option maxHeartbeats 1000000 in
theorem appendU_any (W0 w : World) (p : Option Addr) (l c : Nat) (X : List Int) (u : Int) (n : Nat) (hu0 : 0 ≤ u) (hu1 : u < 18446744073709551616) (hn : n ≤ 8) (hb : OwB W0 w p l c X) (hl : l ≤ 100000) :
    Calls Try.prog 78 #[.slice p l c, .int .u64 u, .int .i64 n] w fun e w' => ∃ p' c', e = .returned (.slice p' (l + n) c') ∧ OwB W0 w' p' (l + n) c' (X ++ beI u n) := by
  have HB := Lib.hid hb
  clear hb
  go_enter Try.func78, Try.ntmps78
  go_wp2
  go_loopw [0, 7] (fun v i wr => ∃ (r l' : Nat) (p' : Option Addr) (c' : Nat) (Z : List Int), r ≤ n ∧ i = .int .i64 ((r : Int) - 1) ∧ v = .slice p' l' c' ∧ OwB W0 wr p' l' c' Z ∧ Z ++ beI u r = X ++ beI u n ∧ l' + r = l + n) (fun _ i _ => (intOf i + 1).toNat)
  case atStart => exact ⟨n, l, p, c, X, Nat.le_refl _, rfl, rfl, HB.out, rfl, rfl⟩
  case round =>
    obtain ⟨r, l', p', c', Z, hr, rfl, rfl, ho, hz, hlr⟩ := hrel
    have HO := Lib.hid ho
    have HZ := Lib.hid hz
    have HL := Lib.hid hlr
    have hl' : l' ≤ 200000 := by omega
    clear ho hz hlr
    by_cases h0 : 1 ≤ r
    · obtain ⟨m, rfl⟩ : ∃ m, r = m + 1 := ⟨r - 1, by omega⟩
      rw [show (((m + 1 : Nat) : Int) - 1) = (m : Int) by omega]
      go_wp2_with (at_builtin; refine wp_ob1 rfl _ _ rfl W0 wr p' l' c' Z _ rfl rfl HO.out (by omega) ?_; intro p2 c2 w2 ho2 _)
      have HO2 := Lib.hid ho2
      clear ho2
      go_roundw
      case rel => exact ⟨m, l' + 1, p2, c2, _, by omega, rfl, rfl, HO2.out, by rw [List.append_assoc]; exact HZ.out, by have := HL.out; omega⟩
      case measure => simp [intOf]
    · obtain rfl : r = 0 := by omega
      have hZ : Z = X ++ beI u n := by have := HZ.out; rw [beI, List.append_nil] at this; exact this
      have hL : l' = l + n := by have := HL.out; omega
      have HO2 := Lib.hid (show OwB W0 wr p' (l + n) c' (X ++ beI u n) by rw [← hL, ← hZ]; exact HO.out)
      have HR := Lib.hid (show Ending.returned (.slice p' l' c') = .returned (.slice p' (l + n) c') by rw [hL])
      clear hZ hL HZ
      go_wp2
      go_ret
      exact ⟨p', c', HR.out, HO2.out⟩
set_option maxHeartbeats 1000000 in
theorem roomy_any (w : World) (p : Option Addr) (l c : Nat) (X : List Int) (m : Nat) (hb : RdB w p l c X) (hl : l ≤ 100000) (hm : m ≤ 100000) :
    Calls Try.prog 77 #[.slice p l c, .int .i64 m] w fun e w' => ∃ p' c', e = .returned (.slice p' l c') ∧ OwB w w' p' l c' X := by
  obtain ⟨i0, hi, hz0, hz1, hz2⟩ := info_parts info_b8
  have hmk : (Instr.makeSlice 22 (.int .i64 0) (.int .i64 ((l : Int) + (m : Int)))).run Try.prog w = .ok (.slice (some ⟨w.heap.size, 0, none⟩) 0 (l + m)) (w.alloc (.cells (zb (l + m)) 5)) := by
    have h := run_makeSlice w 22 5 i0 (.int .u8 0) Try.underlying22 hi hz0 .i64 .i64 0 ((l : Int) + (m : Int)) (by omega) (by omega) (by rw [hz1]; omega) (by rw [hz2]; omega) (by omega)
    rw [h, hz1, show ((l : Int) + (m : Int)).toNat = l + m by omega, show (0 : Int).toNat = 0 by rfl]
    rfl
  have HO := Lib.hid (show OwB w (w.alloc (.cells (zb (l + m)) 5)) (some ⟨w.heap.size, 0, none⟩) 0 (l + m) [] from ⟨rfl, World.ownsRow_made w _ (l + m) (Nat.le_refl _) (by unfold maxLen; omega) (by rw [zb_size]; omega), (Below.refl _ _).alloc (Nat.le_refl _) _, by rw [World.size_alloc]; omega⟩)
  have HR := Lib.hid (rd_keep ((Below.refl w.heap.size w).alloc (Nat.le_refl _) (.cells (zb (l + m)) 5)) hb)
  clear hb
  go_enter Try.func77, Try.ntmps77
  go_wp2_with (at_builtin; refine wp_obR rfl _ _ rfl w _ _ 0 _ [] p l c X rfl rfl HO.out HR.out (by omega) (by omega) ?_; intro p2 c2 w2 ho2 _)
  have HO2 := Lib.hid ho2
  clear ho2
  have HR := Lib.hid (show OwB w w2 p2 l c2 X by have h := HO2.out; rw [Nat.zero_add, List.nil_append] at h; exact h)
  go_ret
  exact ⟨p2, c2, rfl, HR.out⟩
set_option maxHeartbeats 1000000 in
theorem readU_yes (w : World) (b off l c : Nat) (X : List Int) (k : Nat) (hb : RdB w (some ⟨b, off, none⟩) l c X) (hX : By X) (hk : k ≤ 8) (hkl : k ≤ l) :
    Calls Try.prog 68 #[.slice (some ⟨b, off, none⟩) l c, .int .i64 k] w fun e w' => e = .returned (.tuple #[.int .u64 (rdU (X.take k)), .bool true]) ∧ w = w' := by
  have HB := Lib.hid hb
  have HX := Lib.hid hX
  have hlc := hb.2.1
  have hcm := hb.2.2.1
  unfold maxLen at hcm
  clear hb hX
  go_enter Try.func68, Try.ntmps68
  go_wp2
  go_loop [6, 25] (fun v i => ∃ j : Nat, j ≤ k ∧ i = .int .i64 j ∧ v = .int .u64 (rdU (X.take j))) (fun _ i => k - (intOf i).toNat)
  case atStart => exact ⟨0, Nat.zero_le _, rfl, rfl⟩
  case round =>
    obtain ⟨j, hj, rfl, rfl⟩ := hrel
    by_cases hlt : j < k
    · have hjX : j < X.length := by have := HB.out.1; omega
      obtain ⟨x, hx⟩ : ∃ x, x = X[j] := ⟨_, rfl⟩
      have hc : w.cell? ⟨b, off + j, none⟩ = some (.int .u8 x) := by
        obtain ⟨b', off', e, h⟩ := HB.out.2.2.2.1 (by omega)
        cases e
        rw [hx]; exact h j hjX
      obtain ⟨hx0, hx1⟩ : 0 ≤ x ∧ x < 256 := by rw [hx]; exact HX.out _ (List.getElem_mem hjX)
      have HS := Lib.hid (show rdU (X.take (j + 1)) = shor (rdU (X.take j)) x by rw [take_snocI X j hjX, rdU_snoc, hx])
      clear hx hjX
      go_wp2
      go_round
      case rel => exact ⟨j + 1, by omega, by go_num, by rw [HS.out]; rfl⟩
      case measure => simp [intOf]; omega
    · obtain rfl : j = k := by omega
      go_wp2
      go_ret2
      exact ⟨rfl, rfl⟩
set_option maxHeartbeats 1000000 in
theorem readU_zero (w : World) (p : Option Addr) (l c : Nat) (hc : c ≤ maxLen) :
    Calls Try.prog 68 #[.slice p l c, .int .i64 0] w fun e w' => e = .returned (.tuple #[.int .u64 0, .bool true]) ∧ w = w' := by
  unfold maxLen at hc
  cases p
  all_goals
    go_enter Try.func68, Try.ntmps68
    go_wp2
    refine wp_loop_rounds 1 ?_
    rw [rounds_succ]
    go_wp2
    go_ret2
    exact ⟨rfl, rfl⟩
set_option maxHeartbeats 1000000 in
theorem readU_no (w : World) (p : Option Addr) (l c : Nat) (n : Int) (hl : l ≤ c) (hc : c ≤ maxLen) (hn : n < 0 ∨ 8 < n ∨ (l : Int) < n) :
    Calls Try.prog 68 #[.slice p l c, .int .i64 n] w fun e w' => e = .returned (.tuple #[.int .u64 0, .bool false]) ∧ w = w' := by
  unfold maxLen at hc
  by_cases h0 : n < 0
  · clear hn
    go_enter Try.func68, Try.ntmps68
    go_wp2
    go_ret2
    exact ⟨rfl, rfl⟩
  · by_cases h8 : 8 < n
    · clear hn
      go_enter Try.func68, Try.ntmps68
      go_wp2
      go_ret2
      exact ⟨rfl, rfl⟩
    · have hl : (l : Int) < n := by omega
      clear hn
      go_enter Try.func68, Try.ntmps68
      go_wp2
      go_ret2
      exact ⟨rfl, rfl⟩
end Num
end Go.Proofs.Ytomfgncbdgifoaa
/-
  Bytes of numbers and of texts: plain facts.
-/
namespace Go.Proofs.Ytomfgncbdgifoaa
open Go.RowKit
namespace Num
open Ints
set_option linter.unusedSimpArgs false
set_option linter.unusedVariables false
theorem shor_eq (v x : Int) (h0 : 0 ≤ v) (h1 : v < 72057594037927936) (hx0 : 0 ≤ x) (hx1 : x < 256) : shor v x = v * 256 + x := by
  unfold shor
  rw [Go.IntKind.wrap_u64]
  have e : v * 256 % 18446744073709551616 = v * 256 := by omega
  rw [e]
  exact bits_join .u64 64 (by decide) wraps_u64 8 _ _ (by omega) (by omega) (by omega) hx0 (by omega) (by omega)
theorem rdU_one (a : Int) (h0 : 0 ≤ a) (h1 : a < 256) : rdU [a] = a := by
  show shor 0 a = a
  rw [shor_eq 0 a (by omega) (by omega) h0 h1]; omega
theorem rdU_two (a b : Int) (h0 : 0 ≤ a) (h1 : a < 256) (h2 : 0 ≤ b) (h3 : b < 256) : rdU [a, b] = a * 256 + b := by
  show shor (shor 0 a) b = _
  rw [shor_eq 0 a (by omega) (by omega) h0 h1, shor_eq _ b (by omega) (by omega) h2 h3]; omega
theorem by_take {X : List Int} (h : By X) (n : Nat) : By (X.take n) := fun x hx => h x (List.mem_of_mem_take hx)
theorem by_drop {X : List Int} (h : By X) (n : Nat) : By (X.drop n) := fun x hx => h x (List.mem_of_mem_drop hx)
theorem by_app {X Y : List Int} (h : By X) (k : By Y) : By (X ++ Y) := fun x hx => by
  rcases List.mem_append.1 hx with hx | hx
  · exact h x hx
  · exact k x hx
theorem by_be (u : Int) : ∀ n, By (beI u n)
  | 0 => fun x hx => by cases hx
  | n + 1 => fun x hx => by
    rcases List.mem_cons.1 hx with rfl | hx
    · omega
    · exact by_be u n x hx
theorem rdU_pow (X : List Int) : ∀ n, n ≤ 8 → X.length = n → By X → 0 ≤ rdU X ∧ rdU X < 256 ^ n := by
  intro n
  induction n generalizing X with
  | zero => intro _ h _; rw [List.length_eq_zero_iff.1 h]; exact ⟨by decide, by decide⟩
  | succ n ih =>
    intro hn hl hb
    have hne : X ≠ [] := by intro e; rw [e] at hl; cases hl
    have e := List.dropLast_concat_getLast hne
    have h1 := ih X.dropLast (by omega) (by rw [List.length_dropLast, hl]; rfl) (fun x hx => hb x (List.dropLast_subset _ hx))
    have h2 := hb _ (List.getLast_mem hne)
    have hp : (256 : Int) ^ n ≤ 256 ^ 7 := by
      have : ∀ m, m ≤ 7 → (256 : Int) ^ m ≤ 256 ^ 7 := by
        intro m hm
        have : m = 0 ∨ m = 1 ∨ m = 2 ∨ m = 3 ∨ m = 4 ∨ m = 5 ∨ m = 6 ∨ m = 7 := by omega
        rcases this with rfl | rfl | rfl | rfl | rfl | rfl | rfl | rfl <;> decide
      exact this n (by omega)
    have hp7 : (256 : Int) ^ 7 = 72057594037927936 := by decide
    rw [← e, rdU_snoc, shor_eq _ _ h1.1 (by omega) h2.1 h2.2, Int.pow_succ]
    omega
/-- A text's length, as it stands ahead of it. -/
theorem len16 {X : List Int} (hX : By X) (h : 2 ≤ X.length) : ∃ L : Nat, rdU (X.take 2) = (L : Int) ∧ L < 65536 := by
  have hl : (X.take 2).length = 2 := by rw [List.length_take]; omega
  obtain ⟨h0, h1⟩ := rdU_pow (X.take 2) 2 (by omega) hl (by_take hX 2)
  have e : (256 : Int) ^ 2 = 65536 := by decide
  exact ⟨(rdU (X.take 2)).toNat, by omega, by omega⟩
/-- A text's bytes. -/
def strIs (s : ByteArray) : List Int := s.data.toList.map fun b => (b.toNat : Int)
theorem strIs_len (s : ByteArray) : (strIs s).length = s.size := by unfold strIs; rw [List.length_map, Array.length_toList]; rfl
theorem by_str (s : ByteArray) : By (strIs s) := fun x hx => by
  obtain ⟨b, _, rfl⟩ := List.mem_map.1 hx
  have := b.toNat_lt
  omega
theorem strB_back (s : ByteArray) : strB (strIs s) = s := by
  unfold strB strOfNums strIs
  rw [List.map_map]
  have e : ((fun n : Int => UInt8.ofNat n.toNat) ∘ fun b : UInt8 => (b.toNat : Int)) = id := by
    funext b
    simp
  rw [e, List.map_id]
/-- The part of a slice behind its first k. -/
theorem rd_cut {w : World} {b off l c k m : Nat} {X : List Int} (h : RdB w (some ⟨b, off, none⟩) l c X) (hkl : k + m ≤ l) : RdB w (some ⟨b, off + k, none⟩) m (c - k) ((X.drop k).take m) := by
  obtain ⟨h1, h2, h3, h4, h5⟩ := h
  refine ⟨by rw [List.length_take, List.length_drop]; omega, by omega, by omega, fun hm => ?_, fun e => by cases e⟩
  obtain ⟨b', off', e, hc⟩ := h4 (by omega)
  cases e
  refine ⟨b, off + k, rfl, fun i hi => ?_⟩
  have hi' : i < m := by rw [List.length_take] at hi; omega
  rw [List.getElem_take, List.getElem_drop, Nat.add_assoc]
  exact hc (k + i) (by omega)
theorem rd_full {w : World} {p : Option Addr} {l c : Nat} {X : List Int} (h : RdB w p l c X) (hl : 0 < l) : ∃ b off, p = some ⟨b, off, none⟩ := by
  obtain ⟨b, off, e, _⟩ := h.2.2.2.1 hl
  exact ⟨b, off, e⟩
theorem pow256 (n : Nat) : (2 : Int) ^ (8 * n) = 256 ^ n := by rw [Int.pow_mul]; rfl
theorem fold_be (u : Int) (hu : 0 ≤ u) : ∀ (n : Nat) (v : Int), 0 ≤ v → (v + 1) * 256 ^ n ≤ 18446744073709551616 → (beI u n).foldl shor v = v * 256 ^ n + u % 256 ^ n := by
  intro n
  induction n with
  | zero => intro v _ _; show v = v * 1 + u % 1; omega
  | succ n ih =>
    intro v hv hb
    have hp : (0 : Int) < 256 ^ n := Int.pow_pos (by omega)
    have e1 : (256 : Int) ^ (n + 1) = 256 ^ n * 256 := Int.pow_succ _ _
    rw [e1] at hb ⊢
    obtain ⟨P, hP⟩ : ∃ P : Int, P = 256 ^ n := ⟨_, rfl⟩
    rw [← hP] at hb hp ⊢
    have hv56 : v < 72057594037927936 := by
      have h1 : (v + 1) * 256 ≤ (v + 1) * (P * 256) := Int.mul_le_mul_of_nonneg_left (by omega) (by omega)
      omega
    have ha : 0 ≤ u / P % 256 ∧ u / P % 256 < 256 := by omega
    rw [beI, List.foldl_cons, pow256, ← hP, shor_eq v _ hv hv56 ha.1 ha.2]
    have hb2 : (v * 256 + u / P % 256 + 1) * P ≤ 18446744073709551616 := by
      have h1 : (v * 256 + u / P % 256 + 1) * P ≤ ((v + 1) * 256) * P := Int.mul_le_mul_of_nonneg_right (by omega) (by omega)
      have h2 : ((v + 1) * 256) * P = (v + 1) * (P * 256) := by rw [Int.mul_assoc, Int.mul_comm 256 P]
      omega
    have h3 := ih (v * 256 + u / P % 256) (by omega) (by rw [← hP]; exact hb2)
    rw [← hP] at h3
    rw [h3]
    have e2 : u % (P * 256) = u % P + P * (u / P % 256) := by
      have hq : u / (P * 256) = u / P / 256 := (Int.ediv_ediv_of_nonneg (by omega)).symm
      have k1 := Int.emod_def u (P * 256)
      have k2 := Int.emod_def u P
      have k3 := Int.emod_def (u / P) 256
      rw [hq] at k1
      rw [k1, k2, k3, Int.mul_sub, Int.mul_assoc]
      omega
    rw [e2, Int.add_mul, Int.mul_assoc, Int.mul_comm 256 P, Int.mul_comm (u / P % 256) P]
    omega
theorem rdU_be (u : Int) (h0 : 0 ≤ u) (h1 : u < 18446744073709551616) : rdU (beI u 8) = u := by
  have h := fold_be u h0 8 0 (by omega) (by decide)
  have e : (256 : Int) ^ 8 = 18446744073709551616 := by decide
  rw [e] at h
  unfold rdU
  rw [h]
  omega
theorem by_cons {k : Int} {X : List Int} (hk : 0 ≤ k ∧ k < 256) (h : By X) : By (k :: X) := fun x hx => by
  rcases List.mem_cons.1 hx with rfl | hx
  · exact hk
  · exact h x hx
theorem be_take (u : Int) : (beI u 8).take 8 = beI u 8 := List.take_of_length_le (by rw [beI_len]; omega)
end Num
end Go.Proofs.Ytomfgncbdgifoaa
/-
  Texts as bytes: what package wire and the reference put and read.
-/
namespace Go.Proofs.Ytomfgncbdgifoaa
open Go.RowKit
namespace Num
open Ints
set_option linter.unusedSimpArgs false
set_option linter.unusedVariables false
set_option maxHeartbeats 1000000 in
theorem appendText_any (W0 w : World) (p : Option Addr) (l c : Nat) (X : List Int) (s : ByteArray) (hb : OwB W0 w p l c X) (hl : l ≤ 50000) (hs : s.size ≤ 65535) :
    Calls Try.prog 76 #[.slice p l c, .string s] w fun e w' => ∃ p' c', e = .returned (.slice p' (l + 2 + s.size) c') ∧ OwB W0 w' p' (l + 2 + s.size) c' (X ++ beI s.size 2 ++ strIs s) := by
  have HB := Lib.hid hb
  clear hb
  go_enter Try.func76, Try.ntmps76
  go_wp2_with fail
  go_at_call 78; refine (appendU_any W0 w p l c X (s.size : Int) 2 (by omega) (by omega) (by omega) HB.out (by omega)).mono ?_; rintro e w1 ⟨p1, c1, rfl, ho1⟩
  have HO1 := Lib.hid ho1
  clear ho1
  go_wp2_with (at_builtin; refine wp_obS rfl _ _ rfl W0 _ p1 _ c1 _ s rfl rfl HO1.out (by omega) (by omega) ?_; intro p2 c2 w2 ho2 _)
  have HO2 := Lib.hid ho2
  clear ho2
  go_ret
  exact ⟨p2, c2, rfl, HO2.out⟩
set_option maxHeartbeats 1000000 in
theorem putText_yes (w : World) (p : Option Addr) (l c : Nat) (X : List Int) (s : ByteArray) (most : Int) (hb : RdB w p l c X) (hl : l ≤ 10000) (hs : s.size ≤ 65535) (hm : (s.size : Int) ≤ most) :
    Calls Try.prog 58 #[.slice p l c, .string s, .int .i64 most] w fun e w' => ∃ p' c', e = .returned (.tuple #[.slice p' (l + 2 + s.size) c', .int .i64 0]) ∧ OwB w w' p' (l + 2 + s.size) c' (X ++ beI s.size 2 ++ strIs s) := by
  have HB := Lib.hid hb
  clear hb
  go_enter Try.func58, Try.ntmps58
  go_wp2_with fail
  go_at_call 77; refine (roomy_any w p l c X (2 + s.size) HB.out (by omega) (by omega)).mono ?_; rintro e w1 ⟨p1, c1, rfl, ho1⟩
  have HO1 := Lib.hid ho1
  clear ho1
  go_wp2_with fail
  go_at_call 76; refine (appendText_any w w1 p1 l c1 X s HO1.out (by omega) hs).mono ?_; rintro e w2 ⟨p2, c2, rfl, ho2⟩
  have HO2 := Lib.hid ho2
  clear ho2
  go_wp2
  go_ret2
  exact ⟨p2, c2, rfl, HO2.out⟩
set_option maxHeartbeats 1000000 in
theorem putText_no (w : World) (p : Option Addr) (l c : Nat) (s : ByteArray) (most : Int) (hs : s.size ≤ 9223372036854775807) (hm : most < s.size ∨ 65535 < s.size) :
    Calls Try.prog 58 #[.slice p l c, .string s, .int .i64 most] w fun e w' => e = .returned (.tuple #[.slice none 0 0, .int .i64 22]) ∧ w = w' := by
  by_cases h0 : most < s.size
  · clear hm
    go_enter Try.func58, Try.ntmps58
    go_wp2
    go_ret2
    exact ⟨rfl, rfl⟩
  · have h1 : 65535 < s.size := by omega
    clear hm
    go_enter Try.func58, Try.ntmps58
    go_wp2
    go_ret2
    exact ⟨rfl, rfl⟩
end Num
end Go.Proofs.Ytomfgncbdgifoaa
/-
  Texts as bytes: what is read; what the reference puts.
-/
namespace Go.Proofs.Ytomfgncbdgifoaa
open Go.RowKit
namespace Num
open Ints
set_option linter.unusedSimpArgs false
set_option linter.unusedVariables false
theorem readU_all (w : World) (p : Option Addr) (l c : Nat) (X : List Int) (k : Nat) (hb : RdB w p l c X) (hX : By X) (hk : k ≤ 8) (hkl : k ≤ l) :
    Calls Try.prog 68 #[.slice p l c, .int .i64 k] w fun e w' => e = .returned (.tuple #[.int .u64 (rdU (X.take k)), .bool true]) ∧ w = w' := by
  by_cases h0 : k = 0
  · subst h0
    exact readU_zero w p l c hb.2.2.1
  · obtain ⟨b, off, rfl⟩ := rd_full hb (by omega)
    exact readU_yes w b off l c X k hb hX hk hkl
set_option maxRecDepth 100000 in
set_option maxHeartbeats 1000000 in
theorem readText_yes (w : World) (p : Option Addr) (l c : Nat) (X : List Int) (L : Nat) (most : Int) (hb : RdB w p l c X) (hX : By X) (hl2 : 2 ≤ l) (hL : rdU (X.take 2) = (L : Int)) (hL16 : L < 65536) (hm : (L : Int) ≤ most) (hl : 2 + L ≤ l) :
    Calls Try.prog 65 #[.slice p l c, .int .i64 most] w fun e w' => e = .returned (.tuple #[.string (strB ((X.drop 2).take L)), .int .i64 (2 + (L : Int)), .int .i64 0]) ∧ w = w' := by
  obtain ⟨b, off, rfl⟩ := rd_full hb (by omega)
  have HB := Lib.hid hb
  have HX := Lib.hid hX
  have HL := Lib.hid hL
  have hlc := hb.2.1
  have hcm := hb.2.2.1
  unfold maxLen at hcm
  by_cases h2 : c = 2
  · obtain rfl : L = 0 := by omega
    have hcv := rd_string (show RdB w (some ⟨b, off, none⟩) 0 0 [] from ⟨rfl, Nat.le_refl _, Nat.zero_le _, fun h => absurd h (Nat.lt_irrefl _), fun e => by cases e⟩)
    subst h2
    clear hb hX hL
    go_enter Try.func65, Try.ntmps65
    go_wp2_with fail
    go_at_call 68; refine (readU_all _ _ l 2 X 2 HB.out HX.out (by omega) hl2).mono ?_; rintro e w1 ⟨rfl, rfl⟩
    rw [HL.out]
    go_wp2
    go_ret3
    exact ⟨rfl, rfl⟩
  · have hcv := rd_string (rd_cut (k := 2) (m := L) hb hl)
    clear hb hX hL
    go_enter Try.func65, Try.ntmps65
    go_wp2_with fail
    go_at_call 68; refine (readU_all _ _ l c X 2 HB.out HX.out (by omega) hl2).mono ?_; rintro e w1 ⟨rfl, rfl⟩
    rw [HL.out]
    go_wp2
    go_ret3
    exact ⟨rfl, rfl⟩

set_option maxRecDepth 100000 in
set_option maxHeartbeats 1000000 in
theorem readText_short (w : World) (p : Option Addr) (l c : Nat) (most : Int) (hl : l ≤ c) (hc : c ≤ maxLen) (hl2 : l < 2) :
    Calls Try.prog 65 #[.slice p l c, .int .i64 most] w fun e w' => e = .returned (.tuple #[.string ⟨#[]⟩, .int .i64 0, .int .i64 20]) ∧ w = w' := by
  have HU := Lib.hid (readU_no w p l c 2 hl hc (by omega))
  clear hc
  go_enter Try.func65, Try.ntmps65
  go_wp2_with fail
  go_at_call 68; refine HU.out.mono ?_; rintro e w1 ⟨rfl, rfl⟩
  go_wp2
  go_ret3
  exact ⟨rfl, rfl⟩
set_option maxRecDepth 100000 in
set_option maxHeartbeats 1000000 in
theorem readText_no (w : World) (p : Option Addr) (l c : Nat) (X : List Int) (L : Nat) (most : Int) (hb : RdB w p l c X) (hX : By X) (hl2 : 2 ≤ l) (hL : rdU (X.take 2) = (L : Int)) (hL16 : L < 65536) (hm : most < (L : Int) ∨ l < 2 + L) :
    Calls Try.prog 65 #[.slice p l c, .int .i64 most] w fun e w' => e = .returned (.tuple #[.string ⟨#[]⟩, .int .i64 0, .int .i64 20]) ∧ w = w' := by
  have HB := Lib.hid hb
  have HX := Lib.hid hX
  have HL := Lib.hid hL
  have hlc := hb.2.1
  have hcm := hb.2.2.1
  unfold maxLen at hcm
  clear hb hX hL
  by_cases h0 : most < (L : Int)
  · clear hm
    go_enter Try.func65, Try.ntmps65
    go_wp2_with fail
    go_at_call 68; refine (readU_all _ _ l c X 2 HB.out HX.out (by omega) hl2).mono ?_; rintro e w1 ⟨rfl, rfl⟩
    rw [HL.out]
    go_wp2
    go_ret3
    exact ⟨rfl, rfl⟩
  · have h1 : l < 2 + L := by omega
    have h2 : (l : Int) - 2 < L := by omega
    clear hm
    go_enter Try.func65, Try.ntmps65
    go_wp2_with fail
    go_at_call 68; refine (readU_all _ _ l c X 2 HB.out HX.out (by omega) hl2).mono ?_; rintro e w1 ⟨rfl, rfl⟩
    rw [HL.out]
    go_wp2
    go_ret3
    exact ⟨rfl, rfl⟩
set_option maxRecDepth 100000 in
set_option maxHeartbeats 1000000 in
theorem rreadText_yes (w : World) (p : Option Addr) (l c : Nat) (X : List Int) (L : Nat) (most : Int) (hb : RdB w p l c X) (hX : By X) (hl2 : 2 ≤ l) (hL : rdU (X.take 2) = (L : Int)) (hL16 : L < 65536) (hm : (L : Int) ≤ most) (hl : 2 + L ≤ l) :
    Calls Try.prog 44 #[.slice p l c, .int .i64 most] w fun e w' => e = .returned (.tuple #[.string (strB ((X.drop 2).take L)), .int .i64 (2 + (L : Int)), .int .i64 0]) ∧ w = w' := by
  obtain ⟨b, off, rfl⟩ := rd_full hb (by omega)
  have HB := Lib.hid hb
  have HX := Lib.hid hX
  have HL := Lib.hid hL
  have hlc := hb.2.1
  have hcm := hb.2.2.1
  unfold maxLen at hcm
  by_cases h2 : c = 2
  · obtain rfl : L = 0 := by omega
    have hcv := rd_string (show RdB w (some ⟨b, off, none⟩) 0 0 [] from ⟨rfl, Nat.le_refl _, Nat.zero_le _, fun h => absurd h (Nat.lt_irrefl _), fun e => by cases e⟩)
    subst h2
    clear hb hX hL
    go_enter Try.func44, Try.ntmps44
    go_wp2_with fail
    go_at_call 48; refine (rreadU_yes _ _ l 2 X 2 HB.out HX.out (by omega) hl2).mono ?_; rintro e w1 ⟨rfl, rfl⟩
    rw [HL.out]
    go_wp2
    go_ret3
    exact ⟨rfl, rfl⟩
  · have hcv := rd_string (rd_cut (k := 2) (m := L) hb hl)
    clear hb hX hL
    go_enter Try.func44, Try.ntmps44
    go_wp2_with fail
    go_at_call 48; refine (rreadU_yes _ _ l c X 2 HB.out HX.out (by omega) hl2).mono ?_; rintro e w1 ⟨rfl, rfl⟩
    rw [HL.out]
    go_wp2
    go_ret3
    exact ⟨rfl, rfl⟩

set_option maxRecDepth 100000 in
set_option maxHeartbeats 1000000 in
theorem rreadText_short (w : World) (p : Option Addr) (l c : Nat) (most : Int) (hl : l ≤ c) (hc : c ≤ maxLen) (hl2 : l < 2) :
    Calls Try.prog 44 #[.slice p l c, .int .i64 most] w fun e w' => e = .returned (.tuple #[.string ⟨#[]⟩, .int .i64 0, .int .i64 20]) ∧ w = w' := by
  have HU := Lib.hid (rreadU_no w p l c 2 hl hc (by omega))
  clear hc
  go_enter Try.func44, Try.ntmps44
  go_wp2_with fail
  go_at_call 48; refine HU.out.mono ?_; rintro e w1 ⟨rfl, rfl⟩
  go_wp2
  go_ret3
  exact ⟨rfl, rfl⟩
set_option maxRecDepth 100000 in
set_option maxHeartbeats 1000000 in
theorem rreadText_no (w : World) (p : Option Addr) (l c : Nat) (X : List Int) (L : Nat) (most : Int) (hb : RdB w p l c X) (hX : By X) (hl2 : 2 ≤ l) (hL : rdU (X.take 2) = (L : Int)) (hL16 : L < 65536) (hm : most < (L : Int) ∨ l < 2 + L) :
    Calls Try.prog 44 #[.slice p l c, .int .i64 most] w fun e w' => e = .returned (.tuple #[.string ⟨#[]⟩, .int .i64 0, .int .i64 20]) ∧ w = w' := by
  have HB := Lib.hid hb
  have HX := Lib.hid hX
  have HL := Lib.hid hL
  have hlc := hb.2.1
  have hcm := hb.2.2.1
  unfold maxLen at hcm
  clear hb hX hL
  by_cases h0 : most < (L : Int)
  · clear hm
    go_enter Try.func44, Try.ntmps44
    go_wp2_with fail
    go_at_call 48; refine (rreadU_yes _ _ l c X 2 HB.out HX.out (by omega) hl2).mono ?_; rintro e w1 ⟨rfl, rfl⟩
    rw [HL.out]
    go_wp2
    go_ret3
    exact ⟨rfl, rfl⟩
  · have h1 : l < 2 + L := by omega
    have h2 : (l : Int) - 2 < L := by omega
    clear hm
    go_enter Try.func44, Try.ntmps44
    go_wp2_with fail
    go_at_call 48; refine (rreadU_yes _ _ l c X 2 HB.out HX.out (by omega) hl2).mono ?_; rintro e w1 ⟨rfl, rfl⟩
    rw [HL.out]
    go_wp2
    go_ret3
    exact ⟨rfl, rfl⟩
end Num
end Go.Proofs.Ytomfgncbdgifoaa
/-
  Numbers as bytes: what package wire and the reference put and read.
-/
namespace Go.Proofs.Ytomfgncbdgifoaa
open Go.RowKit
namespace Num
open Ints
set_option linter.unusedSimpArgs false
set_option linter.unusedVariables false
set_option maxHeartbeats 1000000 in
theorem putU_any (w : World) (p : Option Addr) (l c : Nat) (X : List Int) (u n : Int) (hu0 : 0 ≤ u) (hu1 : u < 18446744073709551616) (hb : RdB w p l c X) (hl : l ≤ 50000) :
    Calls Try.prog 59 #[.slice p l c, .int .u64 u, .int .i64 n] w fun e w' => ∃ p' c', e = .returned (.slice p' (l + clampN n) c') ∧ OwB w w' p' (l + clampN n) c' (X ++ beI u (clampN n)) := by
  have HB := Lib.hid hb
  clear hb
  by_cases h0 : n < 0
  · have hc : clampN n = 0 := by unfold clampN; rw [if_pos h0]
    have HC := Lib.hid hc
    clear hc
    go_enter Try.func59, Try.ntmps59
    go_wp2_with fail
    go_at_call 77; refine (roomy_any _ p l c X 0 HB.out (by omega) (by omega)).mono ?_; rintro e w1 ⟨p1, c1, rfl, ho1⟩
    have HO1 := Lib.hid ho1
    clear ho1
    go_wp2_with fail
    go_at_call 78; refine (appendU_any w _ p1 l c1 X u 0 hu0 hu1 (by omega) HO1.out (by omega)).mono ?_; rintro e w2 ⟨p2, c2, rfl, ho2⟩
    have HO2 := Lib.hid ho2
    clear ho2
    go_wp2
    go_ret
    rw [HC.out]
    exact ⟨p2, c2, rfl, HO2.out⟩
  · by_cases h8 : 8 < n
    · have hc : clampN n = 8 := by unfold clampN; rw [if_neg h0, if_pos h8]
      have HC := Lib.hid hc
      clear hc
      go_enter Try.func59, Try.ntmps59
      go_wp2_with fail
      go_at_call 77; refine (roomy_any _ p l c X 8 HB.out (by omega) (by omega)).mono ?_; rintro e w1 ⟨p1, c1, rfl, ho1⟩
      have HO1 := Lib.hid ho1
      clear ho1
      go_wp2_with fail
      go_at_call 78; refine (appendU_any w _ p1 l c1 X u 8 hu0 hu1 (by omega) HO1.out (by omega)).mono ?_; rintro e w2 ⟨p2, c2, rfl, ho2⟩
      have HO2 := Lib.hid ho2
      clear ho2
      go_wp2
      go_ret
      rw [HC.out]
      exact ⟨p2, c2, rfl, HO2.out⟩
    · obtain ⟨k, rfl⟩ : ∃ k : Nat, n = (k : Int) := ⟨n.toNat, by omega⟩
      have hc : clampN (k : Int) = k := by unfold clampN; rw [if_neg h0, if_neg h8]; rfl
      have HC := Lib.hid hc
      clear hc
      go_enter Try.func59, Try.ntmps59
      go_wp2_with fail
      go_at_call 77; refine (roomy_any _ p l c X k HB.out (by omega) (by omega)).mono ?_; rintro e w1 ⟨p1, c1, rfl, ho1⟩
      have HO1 := Lib.hid ho1
      clear ho1
      go_wp2_with fail
      go_at_call 78; refine (appendU_any w _ p1 l c1 X u k hu0 hu1 (by omega) HO1.out (by omega)).mono ?_; rintro e w2 ⟨p2, c2, rfl, ho2⟩
      have HO2 := Lib.hid ho2
      clear ho2
      go_wp2
      go_ret
      rw [HC.out]
      exact ⟨p2, c2, rfl, HO2.out⟩
end Num
end Go.Proofs.Ytomfgncbdgifoaa
