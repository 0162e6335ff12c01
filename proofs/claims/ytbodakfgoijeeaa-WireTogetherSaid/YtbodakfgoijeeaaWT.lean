/-
  Texts as bytes: what package wire and the reference put and read.
-/
import Derived.Test.YtbodakfgoijeeaaWR
import Derived.Test.YtbodakfgoijeeaaWU
import Derived.Test.YtbodakfgoijeeaaUB
namespace Go.Proofs.Ytbodakfgoijeeaa
open Go.RowKit
namespace Num
open Ints
set_option linter.unusedSimpArgs false
set_option linter.unusedVariables false
set_option maxHeartbeats 1000000 in
theorem appendText_any (W0 w : World) (p : Option Addr) (l c : Nat) (X : List Int) (s : ByteArray) (hb : OwB W0 w p l c X) (hl : l ≤ 50000) (hs : s.size ≤ 65535) :
    Calls Try.prog 31 #[.slice p l c, .string s] w fun e w' => ∃ p' c', e = .returned (.slice p' (l + 2 + s.size) c') ∧ OwB W0 w' p' (l + 2 + s.size) c' (X ++ beI s.size 2 ++ strIs s) := by
  have HB := Lib.hid hb
  clear hb
  go_enter Try.func31, Try.ntmps31
  go_wp2_with fail
  go_at_call 44; refine (appendU_any W0 w p l c X (s.size : Int) 2 (by omega) (by omega) (by omega) HB.out (by omega)).mono ?_; rintro e w1 ⟨p1, c1, rfl, ho1⟩
  have HO1 := Lib.hid ho1
  clear ho1
  go_wp2_with (at_builtin; refine wp_obS rfl _ _ rfl W0 _ p1 _ c1 _ s rfl rfl HO1.out (by omega) (by omega) ?_; intro p2 c2 w2 ho2 _)
  have HO2 := Lib.hid ho2
  clear ho2
  go_ret
  exact ⟨p2, c2, rfl, HO2.out⟩
set_option maxHeartbeats 1000000 in
theorem putText_yes (w : World) (p : Option Addr) (l c : Nat) (X : List Int) (s : ByteArray) (most : Int) (hb : RdB w p l c X) (hl : l ≤ 10000) (hs : s.size ≤ 65535) (hm : (s.size : Int) ≤ most) :
    Calls Try.prog 16 #[.slice p l c, .string s, .int .i64 most] w fun e w' => ∃ p' c', e = .returned (.tuple #[.slice p' (l + 2 + s.size) c', .int .i64 0]) ∧ OwB w w' p' (l + 2 + s.size) c' (X ++ beI s.size 2 ++ strIs s) := by
  have HB := Lib.hid hb
  clear hb
  go_enter Try.func16, Try.ntmps16
  go_wp2_with fail
  go_at_call 29; refine (roomy_any w p l c X (2 + s.size) HB.out (by omega) (by omega)).mono ?_; rintro e w1 ⟨p1, c1, rfl, ho1⟩
  have HO1 := Lib.hid ho1
  clear ho1
  go_wp2_with fail
  go_at_call 31; refine (appendText_any w w1 p1 l c1 X s HO1.out (by omega) hs).mono ?_; rintro e w2 ⟨p2, c2, rfl, ho2⟩
  have HO2 := Lib.hid ho2
  clear ho2
  go_wp2
  go_ret2
  exact ⟨p2, c2, rfl, HO2.out⟩
set_option maxHeartbeats 1000000 in
theorem putText_no (w : World) (p : Option Addr) (l c : Nat) (s : ByteArray) (most : Int) (hs : s.size ≤ 9223372036854775807) (hm : most < s.size ∨ 65535 < s.size) :
    Calls Try.prog 16 #[.slice p l c, .string s, .int .i64 most] w fun e w' => e = .returned (.tuple #[.slice none 0 0, .int .i64 22]) ∧ w = w' := by
  by_cases h0 : most < s.size
  · clear hm
    go_enter Try.func16, Try.ntmps16
    go_wp2
    go_ret2
    exact ⟨rfl, rfl⟩
  · have h1 : 65535 < s.size := by omega
    clear hm
    go_enter Try.func16, Try.ntmps16
    go_wp2
    go_ret2
    exact ⟨rfl, rfl⟩
end Num
end Go.Proofs.Ytbodakfgoijeeaa
