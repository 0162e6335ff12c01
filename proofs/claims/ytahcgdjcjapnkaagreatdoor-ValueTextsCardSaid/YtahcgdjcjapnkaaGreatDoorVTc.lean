/-
  The reference's text of a float; the bytes that tell a Float from an Int.
-/
import Derived.Test.YtahcgdjcjapnkaaGreatDoorVTb
import Derived.Outline
namespace Go.Proofs.YtahcgdjcjapnkaaGreatDoor
open Go.RowKit
namespace Num
open Ints
set_option linter.unusedSimpArgs false
set_option linter.unusedVariables false
set_option maxRecDepth 100000 in
set_option maxHeartbeats 8000000 in
theorem show_flo (w : World) (x : Nat) (hx : x < 18446744073709551616) (hcx : Flo.canon x = x) (ht : Tabs w) :
    Calls Tryz.prog 14 #[.agg #[.int .i64 2, .int .i64 0, .float .f64 x, .string ⟨#[]⟩, .slice none 0 0]] w fun e w' => e = .returned (.string (ftS x)) ∧ Below w.heap.size w w' := by
  obtain ⟨o, ho⟩ : ∃ o, o = Obj.cells #[.int .i64 2, .int .i64 0, .float .f64 x, .string ⟨#[]⟩, .slice none 0 0] 26 := ⟨_, rfl⟩
  have hb : Below w.heap.size w (w.alloc o) := (Below.refl _ _).alloc (Nat.le_refl _) _
  have HB := Lib.hid hb
  have ht' := tabs_keep ht hb
  have HC := Lib.hid (fmt_any x hx (w.alloc o) ht'.1 ht'.2.1 ht'.2.2.1)
  have HCX := Lib.hid hcx
  obtain ⟨s, hs⟩ : ∃ s, s = strOfI (ffmt x) := ⟨_, rfl⟩
  have hsz : s.size ≤ 2000 := by rw [hs, strOfI_size]; exact (ffmt_asc x).2
  have HF := Lib.hid (show ftS x = showS s by rw [hs, show_fts])
  rw [← hs] at HC
  subst ho
  clear ht ht' hb hx hcx hs
  go_enter Tryz.func14, Tryz.ntmps14
  go_wp2_with fail
  go_at_call 15; refine (canon_ref_any _ _).mono ?_; rintro e w1 ⟨rfl, rfl⟩
  rw [HCX.out]
  go_wp2_with fail
  go_at_call 22; refine HC.out.mono ?_; rintro e w1 ⟨rfl, hb1⟩
  have HB1 := Lib.hid (bel_step HB.out hb1)
  clear hb1
  go_wp2
  go_loop [4, 5] (fun v i => ∃ k : Nat, k ≤ s.size ∧ i = .int .i64 k ∧ v = .bool (plainS s k)) (fun _ i => s.size - (intOf i).toNat)
  case atStart => exact ⟨0, Nat.zero_le _, rfl, rfl⟩
  case round =>
    obtain ⟨k, hk, rfl, rfl⟩ := hrel
    by_cases hlt : k < s.size
    · have HSN := Lib.hid (plainS_snoc s k hlt)
      have hc0 : 0 ≤ (s[k].toNat : Int) := by omega
      cases hacc : plainS s k
      · have HN := Lib.hid (show plainS s (k + 1) = false by rw [HSN.out, hacc]; rfl)
        clear hacc
        go_wp2
        go_round
        case rel => exact ⟨k + 1, by omega, by go_num, by rw [HN.out]⟩
        case measure => simp [intOf]; omega
      · have HN := Lib.hid (show plainS s (k + 1) = plainB (s[k].toNat : Int) by rw [HSN.out, hacc]; rfl)
        clear hacc
        by_cases h48 : 48 ≤ (s[k].toNat : Int)
        · by_cases h57 : (s[k].toNat : Int) ≤ 57
          · have HP := Lib.hid (show plainS s (k + 1) = true by rw [HN.out]; simp [plainB, h48, h57])
            go_wp2
            go_round
            case rel => exact ⟨k + 1, by omega, by go_num, by rw [HP.out]⟩
            case measure => simp [intOf]; omega
          · have h45 : ((s[k].toNat : Int) == 45) = false := by simp; omega
            have HP := Lib.hid (show plainS s (k + 1) = false by rw [HN.out]; simp only [plainB, h57, h45]; simp)
            go_wp2
            go_round
            case rel => exact ⟨k + 1, by omega, by go_num, by rw [HP.out]⟩
            case measure => simp [intOf]; omega
        · cases h45 : ((s[k].toNat : Int) == 45)
          · have HP := Lib.hid (show plainS s (k + 1) = false by rw [HN.out]; simp only [plainB, h48, h45]; simp)
            go_wp2
            go_round
            case rel => exact ⟨k + 1, by omega, by go_num, by rw [HP.out]⟩
            case measure => simp [intOf]; omega
          · have HP := Lib.hid (show plainS s (k + 1) = true by rw [HN.out]; simp only [plainB, h45]; simp)
            go_wp2
            go_round
            case rel => exact ⟨k + 1, by omega, by go_num, by rw [HP.out]⟩
            case measure => simp [intOf]; omega
    · obtain rfl : k = s.size := by omega
      cases hpl : plainS s s.size
      · have HE := Lib.hid (show Ending.returned (.string s) = .returned (.string (ftS x)) by rw [HF.out, showS, hpl]; rfl)
        go_wp2
        go_ret
        exact ⟨HE.out, HB1.out⟩
      · have HE := Lib.hid (show Ending.returned (.string (s ++ ⟨#[46, 48]⟩)) = .returned (.string (ftS x)) by rw [HF.out, showS, hpl]; rfl)
        go_wp2
        go_ret
        exact ⟨HE.out, HB1.out⟩
end Num
end Go.Proofs.YtahcgdjcjapnkaaGreatDoor
