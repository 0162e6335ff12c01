/-
  Package value's text of a float.
-/
import Derived.Test.YtahcgdjcjapnkaaGreatDoorVFmt
import Derived.Test.YtahcgdjcjapnkaaGreatDoorVBase
import Derived.Test.YtahcgdjcjapnkaaGreatDoorShelf
namespace Go.Proofs.YtahcgdjcjapnkaaGreatDoor
open Go.RowKit
namespace Num
open Ints
set_option linter.unusedSimpArgs false
set_option linter.unusedVariables false
theorem abs_bits (x : Nat) (hx : x < 2 ^ 64) : (bits BinOp.andNot IntKind.u64 (x : Int) 9223372036854775808).toNat = x % 9223372036854775808 := by
  have e := u64_andNot_nat x 9223372036854775808 hx (by decide)
  have e2 : ((9223372036854775808 : Nat) : Int) = 9223372036854775808 := rfl
  rw [e2] at e
  rw [e, Int.toNat_natCast]
  exact Nat.and_two_pow_sub_one_eq_mod x 63
theorem abs_any (x : Nat) (hx : x < 2 ^ 64) (w : World) : Calls Tryz.prog 63 #[.float .f64 x] w fun e w' => e = .returned (.float .f64 (x % 9223372036854775808)) ∧ w = w' := by
  have H := Lib.hid (show Ending.returned (.float .f64 (bits BinOp.andNot IntKind.u64 (x : Int) 9223372036854775808).toNat) = .returned (.float .f64 (x % 9223372036854775808)) by rw [abs_bits x hx])
  clear hx
  go_enter Tryz.func63, Tryz.ntmps63
  go_wp2
  go_ret
  exact ⟨H.out, rfl⟩
def isInfB (x : Nat) : Bool := FloatKind.f64.format.order (x % 9223372036854775808) 9218868437227405311 == some .gt
theorem isInf_any (x : Nat) (hx : x < 2 ^ 64) (w : World) : Calls Tryz.prog 46 #[.float .f64 x, .int .i64 0] w fun e w' => e = .returned (.bool (isInfB x)) ∧ w = w' := by
  have H := Lib.hid (show Ending.returned (.bool (FloatKind.f64.format.order (x % 9223372036854775808) 9218868437227405311 == some .gt)) = .returned (.bool (isInfB x)) from rfl)
  have Hx := Lib.hid hx
  clear hx
  go_enter Tryz.func46, Tryz.ntmps46
  go_wp2_with (go_at_call 63; refine (abs_any _ Hx.out _).mono ?_; rintro e w1 ⟨rfl, rfl⟩)
  go_ret
  exact ⟨H.out, rfl⟩

def nanB (x : Nat) : Bool := FloatKind.f64.format.order x x != some .eq
theorem isNaN_any (x : Nat) (w : World) : Calls Tryz.prog 45 #[.float .f64 x] w fun e w' => e = .returned (.bool (nanB x)) ∧ w = w' := by
  unfold nanB
  go_enter Tryz.func45, Tryz.ntmps45
  go_wp2
  go_ret
  exact ⟨rfl, rfl⟩
set_option maxRecDepth 100000 in
theorem zero_ascii (w : World) : (zeroValue 131).run Tryz.prog w = .ok (.agg (Array.replicate 256 (.bool false))) w := by kernel_rfl
theorem ascii_dotE : ∀ (j : Nat) (b : UInt8), (⟨#[46, 101]⟩ : ByteArray).data.toList[j]? = some b → b.toNat < 128 := fun j b h => by
  have := List.mem_of_getElem? h
  simp at this
  rcases this with rfl | rfl <;> decide
def dotE (x : Nat) : Bool := Lib.containsAny (strOfI (ffmt x)).data.toList [46, 101]
def ftS (x : Nat) : ByteArray := if (nanB x || isInfB x || dotE x) = true then strOfI (ffmt x) else strOfI (ffmt x) ++ ⟨#[46, 48]⟩
/-- What a float's text is of: bytes below 128, not many. -/
def Ascii (x : Nat) : Prop := (strOfI (ffmt x)).size < 4294967281 ∧ ∀ (j : Nat) b, (strOfI (ffmt x)).data.toList[j]? = some b → b.toNat < 128
set_option maxRecDepth 100000 in
set_option maxHeartbeats 4000000 in
theorem ftext_any (x : Nat) (hx : x < 18446744073709551616) (has : Ascii x) (w : World) (h0 : 0 < w.heap.size) (hpt : PowTab w) (htb : Lib.TabIs Tryz.prog w "internal/strconv.uint64pow10" .u64 Lib.pow10Tab) : Calls Tryz.prog 30 #[.float .f64 x] w fun e w' => e = .returned (.string (ftS x)) ∧ Below w.heap.size w w' := by
  have HC := Lib.hid (fmt_any x hx w h0 hpt htb)
  have HI := Lib.hid (fun w => isInf_any x hx w)
  have HA := Lib.hid (fun w => Tryz.strings_ContainsAny zero_ascii (strOfI (ffmt x)) ⟨#[46, 101]⟩ w has.1 (by decide) has.2 ascii_dotE)
  have hsz := has.1
  unfold ftS dotE
  generalize hs : strOfI (ffmt x) = s at HC HA hsz ⊢
  clear hs hpt htb has
  cases hn : nanB x
  · cases hi : isInfB x
    · obtain ⟨d, hd⟩ : ∃ d, Lib.containsAny s.data.toList [46, 101] = d := ⟨_, rfl⟩
      rw [hd] at HA ⊢
      clear hd
      cases d
      all_goals
        go_enter Tryz.func30, Tryz.ntmps30
        go_wp2_with fail
        go_at_call 22; refine HC.out.mono ?_; rintro e' w1 ⟨rfl, hb1⟩
        go_wp2_with fail
        go_at_call 45; refine (isNaN_any _ _).mono ?_; rintro e' w2 ⟨rfl, rfl⟩
        go_wp2_with fail
        go_at_call 46; refine (HI.out _).mono ?_; rintro e' w2 ⟨rfl, rfl⟩
        go_wp2_with fail
        go_at_call 47; refine (HA.out _).mono ?_; rintro e' w2 ⟨rfl, hb2⟩
        go_wp2
        go_ret
        exact ⟨rfl, bel_step hb1 hb2⟩
    · go_enter Tryz.func30, Tryz.ntmps30
      go_wp2_with fail
      go_at_call 22; refine HC.out.mono ?_; rintro e' w1 ⟨rfl, hb1⟩
      go_wp2_with fail
      go_at_call 45; refine (isNaN_any _ _).mono ?_; rintro e' w2 ⟨rfl, rfl⟩
      go_wp2_with fail
      go_at_call 46; refine (HI.out _).mono ?_; rintro e' w2 ⟨rfl, rfl⟩
      go_wp2
      go_ret
      exact ⟨rfl, hb1⟩
  · go_enter Tryz.func30, Tryz.ntmps30
    go_wp2_with fail
    go_at_call 22; refine HC.out.mono ?_; rintro e' w1 ⟨rfl, hb1⟩
    go_wp2_with fail
    go_at_call 45; refine (isNaN_any _ _).mono ?_; rintro e' w2 ⟨rfl, rfl⟩
    go_wp2
    go_ret
    exact ⟨rfl, hb1⟩
end Num
end Go.Proofs.YtahcgdjcjapnkaaGreatDoor
