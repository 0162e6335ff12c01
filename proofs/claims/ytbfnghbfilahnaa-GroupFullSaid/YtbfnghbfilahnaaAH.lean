/-
  A drawn region walked by its states: what is listed, and the region by its number.
-/
import Derived.Test.YtbfnghbfilahnaaRow
import Derived.Test.YtbfnghbfilahnaaInts
import Derived.Deep.RegionHeld3
import Derived.RegionTactic
import Derived.Deep.DeepCutAuto
namespace Go.Proofs.Ytbfnghbfilahnaa
open Go.RowKit
namespace Num
open Ints
set_option linter.unusedSimpArgs false
set_option linter.unusedVariables false
/-- The region of that number in a code. -/
def regBy (n : Nat) : Code → Option Code
  | .region i ops d => if i = n then some (.region i ops d) else none
  | .seq a b => match regBy n a with
    | some c => some c
    | none => regBy n b
  | .cond _ a b => match regBy n a with
    | some c => some c
    | none => regBy n b
  | .block _ c => regBy n c
  | .loop c => regBy n c
  | .scope c => regBy n c
  | _ => none
/-- The operations listed besides. -/
def setL : Array Bool → List Nat → Array Bool
  | l, [] => l
  | l, i :: r => setL (l.setIfInBounds i true) r
theorem any_have {P : Program} {md : Region.Mode} {ops : Array Oper} {Q : Exit → Act → World → Prop} {S : World → Prop} {fuel : Nat} {listed : Array Bool} {a : Act} {w : World} (fuel' : Nat) (is : List Nat) (K : Act → Act → World → Prop)
    (h1 : ∀ a' w', K a a' w' → S w' → wpAnyH P md ops Q S fuel' (setL listed is) a' w') (h2 : (∀ a' w', K a a' w' → S w' → wpAnyH P md ops Q S fuel' (setL listed is) a' w') → wpAnyH P md ops Q S fuel listed a w) : wpAnyH P md ops Q S fuel listed a w := h2 h1
theorem any_eq {P : Program} {md : Region.Mode} {ops : Array Oper} {Q : Exit → Act → World → Prop} {S : World → Prop} {fuel : Nat} {listed listed' : Array Bool} {a a' : Act} {w : World} (hl : listed' = listed) (ha : a' = a) (h : wpAnyH P md ops Q S fuel listed' a' w) : wpAnyH P md ops Q S fuel listed a w := by
  subst hl ha
  exact h
end Num
end Go.Proofs.Ytbfnghbfilahnaa
