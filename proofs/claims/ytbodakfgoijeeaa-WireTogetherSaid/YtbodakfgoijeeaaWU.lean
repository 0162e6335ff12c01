/-
  Numbers as bytes: what package wire and the reference put and read.
-/
import Derived.Test.YtbodakfgoijeeaaUA
import Derived.Laws.ShiftsVar
import Derived.Laws.ShiftsVarLaws
import Derived.Lib.EndianBits
import Derived.Outline
namespace Go.Proofs.Ytbodakfgoijeeaa
open Go.RowKit
namespace Num
open Ints
set_option linter.unusedSimpArgs false
set_option linter.unusedVariables false
set_option maxHeartbeats 1000000 in
theorem appendU_any (W0 w : World) (p : Option Addr) (l c : Nat) (X : List Int) (u : Int) (n : Nat) (hu0 : 0 ≤ u) (hu1 : u < 18446744073709551616) (hn : n ≤ 8) (hb : OwB W0 w p l c X) (hl : l ≤ 100000) :
    Calls Try.prog 44 #[.slice p l c, .int .u64 u, .int .i64 n] w fun e w' => ∃ p' c', e = .returned (.slice p' (l + n) c') ∧ OwB W0 w' p' (l + n) c' (X ++ beI u n) := by
  have HB := Lib.hid hb
  clear hb
  go_enter Try.func44, Try.ntmps44
  go_wp2
  go_loopw [0, 7] (fun v i wr => ∃ (r l' : Nat) (p' : Option Addr) (c' : Nat) (Z : List Int), r ≤ n ∧ i = .int .i64 ((r : Int) - 1) ∧ v = .slice p' l' c' ∧ OwB W0 wr p' l' c' Z ∧ Z ++ beI u r = X ++ beI u n ∧ l' + r = l + n) (fun _ i _ => (intOf i + 1).toNat)
  case atStart => exact ⟨n, l, p, c, X, Nat.le_refl _, rfl, rfl, HB.out, rfl, rfl⟩
  case round =>
    obtain ⟨r, l', p', c', Z, hr, rfl, rfl, ho, hz, hlr⟩ := hrel
    have HO := Lib.hid ho
    have HZ := Lib.hid hz
    have HL := Lib.hid hlr
    have hl' : l' ≤ 200000 := by omega
    clear ho hz hlr
    by_cases h0 : 1 ≤ r
    · obtain ⟨m, rfl⟩ : ∃ m, r = m + 1 := ⟨r - 1, by omega⟩
      rw [show (((m + 1 : Nat) : Int) - 1) = (m : Int) by omega]
      go_wp2_with (at_builtin; refine wp_ob1 rfl _ _ rfl W0 wr p' l' c' Z _ rfl rfl HO.out (by omega) ?_; intro p2 c2 w2 ho2 _)
      have HO2 := Lib.hid ho2
      clear ho2
      go_roundw
      case rel => exact ⟨m, l' + 1, p2, c2, _, by omega, rfl, rfl, HO2.out, by rw [List.append_assoc]; exact HZ.out, by have := HL.out; omega⟩
      case measure => simp [intOf]
    · obtain rfl : r = 0 := by omega
      have hZ : Z = X ++ beI u n := by have := HZ.out; rw [beI, List.append_nil] at this; exact this
      have hL : l' = l + n := by have := HL.out; omega
      have HO2 := Lib.hid (show OwB W0 wr p' (l + n) c' (X ++ beI u n) by rw [← hL, ← hZ]; exact HO.out)
      have HR := Lib.hid (show Ending.returned (.slice p' l' c') = .returned (.slice p' (l + n) c') by rw [hL])
      clear hZ hL HZ
      go_wp2
      go_ret
      exact ⟨p', c', HR.out, HO2.out⟩
set_option maxHeartbeats 1000000 in
theorem roomy_any (w : World) (p : Option Addr) (l c : Nat) (X : List Int) (m : Nat) (hb : RdB w p l c X) (hl : l ≤ 100000) (hm : m ≤ 100000) :
    Calls Try.prog 29 #[.slice p l c, .int .i64 m] w fun e w' => ∃ p' c', e = .returned (.slice p' l c') ∧ OwB w w' p' l c' X := by
  obtain ⟨i0, hi, hz0, hz1, hz2⟩ := info_parts info_b8
  have hmk : (Instr.makeSlice 22 (.int .i64 0) (.int .i64 ((l : Int) + (m : Int)))).run Try.prog w = .ok (.slice (some ⟨w.heap.size, 0, none⟩) 0 (l + m)) (w.alloc (.cells (zb (l + m)) 5)) := by
    have h := run_makeSlice w 22 5 i0 (.int .u8 0) Try.underlying22 hi hz0 .i64 .i64 0 ((l : Int) + (m : Int)) (by omega) (by omega) (by rw [hz1]; omega) (by rw [hz2]; omega) (by omega)
    rw [h, hz1, show ((l : Int) + (m : Int)).toNat = l + m by omega, show (0 : Int).toNat = 0 by rfl]
    rfl
  have HO := Lib.hid (show OwB w (w.alloc (.cells (zb (l + m)) 5)) (some ⟨w.heap.size, 0, none⟩) 0 (l + m) [] from ⟨rfl, World.ownsRow_made w _ (l + m) (Nat.le_refl _) (by unfold maxLen; omega) (by rw [zb_size]; omega), (Below.refl _ _).alloc (Nat.le_refl _) _, by rw [World.size_alloc]; omega⟩)
  have HR := Lib.hid (rd_keep ((Below.refl w.heap.size w).alloc (Nat.le_refl _) (.cells (zb (l + m)) 5)) hb)
  clear hb
  go_enter Try.func29, Try.ntmps29
  go_wp2_with (at_builtin; refine wp_obR rfl _ _ rfl w _ _ 0 _ [] p l c X rfl rfl HO.out HR.out (by omega) (by omega) ?_; intro p2 c2 w2 ho2 _)
  have HO2 := Lib.hid ho2
  clear ho2
  have HR := Lib.hid (show OwB w w2 p2 l c2 X by have h := HO2.out; rw [Nat.zero_add, List.nil_append] at h; exact h)
  go_ret
  exact ⟨p2, c2, rfl, HR.out⟩
set_option maxHeartbeats 1000000 in
theorem readU_yes (w : World) (b off l c : Nat) (X : List Int) (k : Nat) (hb : RdB w (some ⟨b, off, none⟩) l c X) (hX : By X) (hk : k ≤ 8) (hkl : k ≤ l) :
    Calls Try.prog 15 #[.slice (some ⟨b, off, none⟩) l c, .int .i64 k] w fun e w' => e = .returned (.tuple #[.int .u64 (rdU (X.take k)), .bool true]) ∧ w = w' := by
  have HB := Lib.hid hb
  have HX := Lib.hid hX
  have hlc := hb.2.1
  have hcm := hb.2.2.1
  unfold maxLen at hcm
  clear hb hX
  go_enter Try.func15, Try.ntmps15
  go_wp2
  go_loop [6, 25] (fun v i => ∃ j : Nat, j ≤ k ∧ i = .int .i64 j ∧ v = .int .u64 (rdU (X.take j))) (fun _ i => k - (intOf i).toNat)
  case atStart => exact ⟨0, Nat.zero_le _, rfl, rfl⟩
  case round =>
    obtain ⟨j, hj, rfl, rfl⟩ := hrel
    by_cases hlt : j < k
    · have hjX : j < X.length := by have := HB.out.1; omega
      obtain ⟨x, hx⟩ : ∃ x, x = X[j] := ⟨_, rfl⟩
      have hc : w.cell? ⟨b, off + j, none⟩ = some (.int .u8 x) := by
        obtain ⟨b', off', e, h⟩ := HB.out.2.2.2.1 (by omega)
        cases e
        rw [hx]; exact h j hjX
      obtain ⟨hx0, hx1⟩ : 0 ≤ x ∧ x < 256 := by rw [hx]; exact HX.out _ (List.getElem_mem hjX)
      have HS := Lib.hid (show rdU (X.take (j + 1)) = shor (rdU (X.take j)) x by rw [take_snocI X j hjX, rdU_snoc, hx])
      clear hx hjX
      go_wp2
      go_round
      case rel => exact ⟨j + 1, by omega, by go_num, by rw [HS.out]; rfl⟩
      case measure => simp [intOf]; omega
    · obtain rfl : j = k := by omega
      go_wp2
      go_ret2
      exact ⟨rfl, rfl⟩
set_option maxHeartbeats 1000000 in
theorem readU_zero (w : World) (p : Option Addr) (l c : Nat) (hc : c ≤ maxLen) :
    Calls Try.prog 15 #[.slice p l c, .int .i64 0] w fun e w' => e = .returned (.tuple #[.int .u64 0, .bool true]) ∧ w = w' := by
  unfold maxLen at hc
  cases p
  all_goals
    go_enter Try.func15, Try.ntmps15
    go_wp2
    refine wp_loop_rounds 1 ?_
    rw [rounds_succ]
    go_wp2
    go_ret2
    exact ⟨rfl, rfl⟩
set_option maxHeartbeats 1000000 in
theorem readU_no (w : World) (p : Option Addr) (l c : Nat) (n : Int) (hl : l ≤ c) (hc : c ≤ maxLen) (hn : n < 0 ∨ 8 < n ∨ (l : Int) < n) :
    Calls Try.prog 15 #[.slice p l c, .int .i64 n] w fun e w' => e = .returned (.tuple #[.int .u64 0, .bool false]) ∧ w = w' := by
  unfold maxLen at hc
  by_cases h0 : n < 0
  · clear hn
    go_enter Try.func15, Try.ntmps15
    go_wp2
    go_ret2
    exact ⟨rfl, rfl⟩
  · by_cases h8 : 8 < n
    · clear hn
      go_enter Try.func15, Try.ntmps15
      go_wp2
      go_ret2
      exact ⟨rfl, rfl⟩
    · have hl : (l : Int) < n := by omega
      clear hn
      go_enter Try.func15, Try.ntmps15
      go_wp2
      go_ret2
      exact ⟨rfl, rfl⟩
end Num
end Go.Proofs.Ytbodakfgoijeeaa
