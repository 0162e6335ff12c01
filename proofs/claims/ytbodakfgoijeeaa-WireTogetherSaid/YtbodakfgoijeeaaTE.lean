/-
  What the program reads ahead of other bytes, where a value's bytes stand first.
-/
import Derived.Test.YtbodakfgoijeeaaTA
import Derived.Test.YtbodakfgoijeeaaMR
namespace Go.Proofs.Ytbodakfgoijeeaa
open Go.RowKit
namespace Num
open Ints
set_option linter.unusedSimpArgs false
set_option linter.unusedVariables false
theorem read_front (N : Nat) (hN : 4096 ≤ N) (w : World) (p : Option Addr) (l c : Nat) (X rest : List Int) (T : VT N) (hb : RdB w p l c X) (hX : By X) (hXe : X = encV N T ++ rest) (hl : l ≤ 1000000) (hok : okT N T) (hG : greatT N 0 T = false) (hsz : (encV N T).length ≤ 4096) :
    Calls Try.prog 8 #[.slice p l c] w fun e w' => ∃ v, e = .returned (.tuple #[v, .int .i64 ((encV N T).length : Int), .int .i64 0]) ∧ Below w.heap.size w w' ∧ RepS (fun b => w.heap.size < b) w' N v (cleanT N T) := by
  have hc := check_clean N T hok hG hsz
  by_cases h : l ≤ 4096
  · exact mread_ok N w p l c X hb hX (by omega) h (cleanT N T) (encV N T).length (by rw [hXe]; exact dec_enc N 0 T rest hok hG) (by omega) hc
  · refine gread_ok N w p l c X hb hX hN (by omega) hl (cleanT N T) (encV N T).length ?_ (by omega) hc
    have e : X.take 4096 = encV N T ++ rest.take (4096 - (encV N T).length) := by rw [hXe, List.take_append, List.take_of_length_le hsz]
    rw [e]
    exact dec_enc N 0 T _ hok hG
end Num
end Go.Proofs.Ytbodakfgoijeeaa
