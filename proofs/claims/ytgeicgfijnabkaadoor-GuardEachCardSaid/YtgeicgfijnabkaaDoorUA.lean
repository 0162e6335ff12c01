/-
  Bytes of numbers: plain functions.
-/
import Derived.Test.YtgeicgfijnabkaaDoorWB
import Derived.Laws.ShiftsVar
import Derived.Laws.ShiftsVarLaws
import Derived.Lib.EndianBits
import Derived.Outline
namespace Go.Proofs.YtgeicgfijnabkaaDoor
open Go.RowKit
namespace Num
open Ints
set_option linter.unusedSimpArgs false
set_option linter.unusedVariables false
/-- u's lowest n bytes, the highest first. -/
def beI (u : Int) : Nat → List Int
  | 0 => []
  | n + 1 => u / 2 ^ (8 * n) % 256 :: beI u n
theorem beI_len (u : Int) : ∀ n, (beI u n).length = n
  | 0 => rfl
  | n + 1 => by rw [beI, List.length_cons, beI_len u n]
def zb (n : Nat) : Array Value := madeCells (Value.cells (.int .u8 0)) (n * 1)
theorem zb_size (n : Nat) : (zb n).size = n := by
  unfold zb; rw [size_madeCells, Nat.mul_one]
/-- How many bytes are put. -/
def clampN (n : Int) : Nat := if n < 0 then 0 else if 8 < n then 8 else n.toNat
theorem clamp_le (n : Int) : clampN n ≤ 8 := by unfold clampN; split <;> (try split) <;> omega
/-- A byte more, at the end. -/
def shor (v x : Int) : Int := bits BinOp.or .u64 (IntKind.u64.wrap (v * 256)) x
def rdU (X : List Int) : Int := X.foldl shor 0
def By (X : List Int) : Prop := ∀ x ∈ X, 0 ≤ x ∧ x < 256
theorem rdU_snoc (X : List Int) (x : Int) : rdU (X ++ [x]) = shor (rdU X) x := by unfold rdU; rw [List.foldl_append]; rfl
theorem take_snocI (X : List Int) (k : Nat) (h : k < X.length) : X.take (k + 1) = X.take k ++ [X[k]] := by
  rw [List.take_succ_eq_append_getElem h]
end Num
end Go.Proofs.YtgeicgfijnabkaaDoor
