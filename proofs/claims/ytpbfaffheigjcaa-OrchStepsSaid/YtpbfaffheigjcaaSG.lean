/-
  Numbers: their signs, which are numbers; a number as a float: plain.
-/
import Derived.Test.YtpbfaffheigjcaaFlo
namespace Go.Proofs.Ytpbfaffheigjcaa
open Go.RowKit
namespace Num
def isNum (K : Int) : Bool := K == 1 || K == 2
def asF (K I : Int) (F : Nat) : Nat := if (K == 1) = true then floatOfInt .f64 I else F
theorem asF_lt (K I : Int) (F : Nat) (h : F < 2 ^ 64) : asF K I F < 2 ^ 64 := by
  unfold asF; split
  · have := floatOfInt_wf .f64 I
    simpa [Lit.wf] using this
  · exact h
def signI (n : Int) : Int := if n < 0 then -1 else if 0 < n then 1 else 0
def signF (x : Nat) : Int := if FloatKind.f64.format.order x 0 == some .lt then -1 else if FloatKind.f64.format.order x 0 == some .gt then 1 else 0
def signV (K I : Int) (F : Nat) : Int := if isNum K = false then 0 else if (K == 1) = true then signI I else signF F
def isInfB (x : Nat) : Bool := FloatKind.f64.format.order (x % 9223372036854775808) 9218868437227405311 == some .gt
def finV (K : Int) (F : Nat) : Bool := if (K == 2) = true then Flo.feq F F && !isInfB F else K == 1
end Num
end Go.Proofs.Ytpbfaffheigjcaa
