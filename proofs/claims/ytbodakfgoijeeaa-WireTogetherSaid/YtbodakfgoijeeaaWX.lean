/-
  Texts as bytes: what is read; what the reference puts.
-/
import Derived.Test.YtbodakfgoijeeaaWT
namespace Go.Proofs.Ytbodakfgoijeeaa
open Go.RowKit
namespace Num
open Ints
set_option linter.unusedSimpArgs false
set_option linter.unusedVariables false
theorem readU_all (w : World) (p : Option Addr) (l c : Nat) (X : List Int) (k : Nat) (hb : RdB w p l c X) (hX : By X) (hk : k ≤ 8) (hkl : k ≤ l) :
    Calls Try.prog 15 #[.slice p l c, .int .i64 k] w fun e w' => e = .returned (.tuple #[.int .u64 (rdU (X.take k)), .bool true]) ∧ w = w' := by
  by_cases h0 : k = 0
  · subst h0
    exact readU_zero w p l c hb.2.2.1
  · obtain ⟨b, off, rfl⟩ := rd_full hb (by omega)
    exact readU_yes w b off l c X k hb hX hk hkl
set_option maxRecDepth 100000 in
set_option maxHeartbeats 1000000 in
theorem readText_yes (w : World) (p : Option Addr) (l c : Nat) (X : List Int) (L : Nat) (most : Int) (hb : RdB w p l c X) (hX : By X) (hl2 : 2 ≤ l) (hL : rdU (X.take 2) = (L : Int)) (hL16 : L < 65536) (hm : (L : Int) ≤ most) (hl : 2 + L ≤ l) :
    Calls Try.prog 36 #[.slice p l c, .int .i64 most] w fun e w' => e = .returned (.tuple #[.string (strB ((X.drop 2).take L)), .int .i64 (2 + (L : Int)), .int .i64 0]) ∧ w = w' := by
  obtain ⟨b, off, rfl⟩ := rd_full hb (by omega)
  have HB := Lib.hid hb
  have HX := Lib.hid hX
  have HL := Lib.hid hL
  have hlc := hb.2.1
  have hcm := hb.2.2.1
  unfold maxLen at hcm
  by_cases h2 : c = 2
  · obtain rfl : L = 0 := by omega
    have hcv := rd_string (show RdB w (some ⟨b, off, none⟩) 0 0 [] from ⟨rfl, Nat.le_refl _, Nat.zero_le _, fun h => absurd h (Nat.lt_irrefl _), fun e => by cases e⟩)
    subst h2
    clear hb hX hL
    go_enter Try.func36, Try.ntmps36
    go_wp2_with fail
    go_at_call 15; refine (readU_all _ _ l 2 X 2 HB.out HX.out (by omega) hl2).mono ?_; rintro e w1 ⟨rfl, rfl⟩
    rw [HL.out]
    go_wp2
    go_ret3
    exact ⟨rfl, rfl⟩
  · have hcv := rd_string (rd_cut (k := 2) (m := L) hb hl)
    clear hb hX hL
    go_enter Try.func36, Try.ntmps36
    go_wp2_with fail
    go_at_call 15; refine (readU_all _ _ l c X 2 HB.out HX.out (by omega) hl2).mono ?_; rintro e w1 ⟨rfl, rfl⟩
    rw [HL.out]
    go_wp2
    go_ret3
    exact ⟨rfl, rfl⟩

set_option maxRecDepth 100000 in
set_option maxHeartbeats 1000000 in
theorem readText_short (w : World) (p : Option Addr) (l c : Nat) (most : Int) (hl : l ≤ c) (hc : c ≤ maxLen) (hl2 : l < 2) :
    Calls Try.prog 36 #[.slice p l c, .int .i64 most] w fun e w' => e = .returned (.tuple #[.string ⟨#[]⟩, .int .i64 0, .int .i64 20]) ∧ w = w' := by
  have HU := Lib.hid (readU_no w p l c 2 hl hc (by omega))
  clear hc
  go_enter Try.func36, Try.ntmps36
  go_wp2_with fail
  go_at_call 15; refine HU.out.mono ?_; rintro e w1 ⟨rfl, rfl⟩
  go_wp2
  go_ret3
  exact ⟨rfl, rfl⟩
set_option maxRecDepth 100000 in
set_option maxHeartbeats 1000000 in
theorem readText_no (w : World) (p : Option Addr) (l c : Nat) (X : List Int) (L : Nat) (most : Int) (hb : RdB w p l c X) (hX : By X) (hl2 : 2 ≤ l) (hL : rdU (X.take 2) = (L : Int)) (hL16 : L < 65536) (hm : most < (L : Int) ∨ l < 2 + L) :
    Calls Try.prog 36 #[.slice p l c, .int .i64 most] w fun e w' => e = .returned (.tuple #[.string ⟨#[]⟩, .int .i64 0, .int .i64 20]) ∧ w = w' := by
  have HB := Lib.hid hb
  have HX := Lib.hid hX
  have HL := Lib.hid hL
  have hlc := hb.2.1
  have hcm := hb.2.2.1
  unfold maxLen at hcm
  clear hb hX hL
  by_cases h0 : most < (L : Int)
  · clear hm
    go_enter Try.func36, Try.ntmps36
    go_wp2_with fail
    go_at_call 15; refine (readU_all _ _ l c X 2 HB.out HX.out (by omega) hl2).mono ?_; rintro e w1 ⟨rfl, rfl⟩
    rw [HL.out]
    go_wp2
    go_ret3
    exact ⟨rfl, rfl⟩
  · have h1 : l < 2 + L := by omega
    have h2 : (l : Int) - 2 < L := by omega
    clear hm
    go_enter Try.func36, Try.ntmps36
    go_wp2_with fail
    go_at_call 15; refine (readU_all _ _ l c X 2 HB.out HX.out (by omega) hl2).mono ?_; rintro e w1 ⟨rfl, rfl⟩
    rw [HL.out]
    go_wp2
    go_ret3
    exact ⟨rfl, rfl⟩
set_option maxRecDepth 100000 in
set_option maxHeartbeats 1000000 in
theorem rreadText_yes (w : World) (p : Option Addr) (l c : Nat) (X : List Int) (L : Nat) (most : Int) (hb : RdB w p l c X) (hX : By X) (hl2 : 2 ≤ l) (hL : rdU (X.take 2) = (L : Int)) (hL16 : L < 65536) (hm : (L : Int) ≤ most) (hl : 2 + L ≤ l) :
    Calls Try.prog 41 #[.slice p l c, .int .i64 most] w fun e w' => e = .returned (.tuple #[.string (strB ((X.drop 2).take L)), .int .i64 (2 + (L : Int)), .int .i64 0]) ∧ w = w' := by
  obtain ⟨b, off, rfl⟩ := rd_full hb (by omega)
  have HB := Lib.hid hb
  have HX := Lib.hid hX
  have HL := Lib.hid hL
  have hlc := hb.2.1
  have hcm := hb.2.2.1
  unfold maxLen at hcm
  by_cases h2 : c = 2
  · obtain rfl : L = 0 := by omega
    have hcv := rd_string (show RdB w (some ⟨b, off, none⟩) 0 0 [] from ⟨rfl, Nat.le_refl _, Nat.zero_le _, fun h => absurd h (Nat.lt_irrefl _), fun e => by cases e⟩)
    subst h2
    clear hb hX hL
    go_enter Try.func41, Try.ntmps41
    go_wp2_with fail
    go_at_call 39; refine (rreadU_yes _ _ l 2 X 2 HB.out HX.out (by omega) hl2).mono ?_; rintro e w1 ⟨rfl, rfl⟩
    rw [HL.out]
    go_wp2
    go_ret3
    exact ⟨rfl, rfl⟩
  · have hcv := rd_string (rd_cut (k := 2) (m := L) hb hl)
    clear hb hX hL
    go_enter Try.func41, Try.ntmps41
    go_wp2_with fail
    go_at_call 39; refine (rreadU_yes _ _ l c X 2 HB.out HX.out (by omega) hl2).mono ?_; rintro e w1 ⟨rfl, rfl⟩
    rw [HL.out]
    go_wp2
    go_ret3
    exact ⟨rfl, rfl⟩

set_option maxRecDepth 100000 in
set_option maxHeartbeats 1000000 in
theorem rreadText_short (w : World) (p : Option Addr) (l c : Nat) (most : Int) (hl : l ≤ c) (hc : c ≤ maxLen) (hl2 : l < 2) :
    Calls Try.prog 41 #[.slice p l c, .int .i64 most] w fun e w' => e = .returned (.tuple #[.string ⟨#[]⟩, .int .i64 0, .int .i64 20]) ∧ w = w' := by
  have HU := Lib.hid (rreadU_no w p l c 2 hl hc (by omega))
  clear hc
  go_enter Try.func41, Try.ntmps41
  go_wp2_with fail
  go_at_call 39; refine HU.out.mono ?_; rintro e w1 ⟨rfl, rfl⟩
  go_wp2
  go_ret3
  exact ⟨rfl, rfl⟩
set_option maxRecDepth 100000 in
set_option maxHeartbeats 1000000 in
theorem rreadText_no (w : World) (p : Option Addr) (l c : Nat) (X : List Int) (L : Nat) (most : Int) (hb : RdB w p l c X) (hX : By X) (hl2 : 2 ≤ l) (hL : rdU (X.take 2) = (L : Int)) (hL16 : L < 65536) (hm : most < (L : Int) ∨ l < 2 + L) :
    Calls Try.prog 41 #[.slice p l c, .int .i64 most] w fun e w' => e = .returned (.tuple #[.string ⟨#[]⟩, .int .i64 0, .int .i64 20]) ∧ w = w' := by
  have HB := Lib.hid hb
  have HX := Lib.hid hX
  have HL := Lib.hid hL
  have hlc := hb.2.1
  have hcm := hb.2.2.1
  unfold maxLen at hcm
  clear hb hX hL
  by_cases h0 : most < (L : Int)
  · clear hm
    go_enter Try.func41, Try.ntmps41
    go_wp2_with fail
    go_at_call 39; refine (rreadU_yes _ _ l c X 2 HB.out HX.out (by omega) hl2).mono ?_; rintro e w1 ⟨rfl, rfl⟩
    rw [HL.out]
    go_wp2
    go_ret3
    exact ⟨rfl, rfl⟩
  · have h1 : l < 2 + L := by omega
    have h2 : (l : Int) - 2 < L := by omega
    clear hm
    go_enter Try.func41, Try.ntmps41
    go_wp2_with fail
    go_at_call 39; refine (rreadU_yes _ _ l c X 2 HB.out HX.out (by omega) hl2).mono ?_; rintro e w1 ⟨rfl, rfl⟩
    rw [HL.out]
    go_wp2
    go_ret3
    exact ⟨rfl, rfl⟩
end Num
end Go.Proofs.Ytbodakfgoijeeaa
