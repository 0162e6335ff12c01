/-
  NumMixed: an Int beside a Float is the Float nearest to it, on either side: the call returns true at any number and any word.
-/
import Derived.Test.YtkodgfhpbpefdaaKnown
import Derived.Test.YtkodgfhpbpefdaaSame0
import Derived.Deep.RegionHeld3
namespace Go.Proofs.Ytkodgfhpbpefdaa
open Go.RowKit
namespace Num
open Ints
set_option linter.unusedSimpArgs false
set_option linter.unusedVariables false
theorem isNaN_of {y : Nat} (h : Flo.feq y y = false) : (FloatKind.f64.format.read y).isNaN = true := by
  cases hn : (FloatKind.f64.format.read y).isNaN
  · rw [Flo.feq_self hn] at h; cases h
  · rfl
theorem none_right {op : BinOp} {x y : Nat} (hop : op = .add ∨ op = .sub ∨ op = .mul ∨ op = .quo) (h : Flo.feq y y = false) : floatBits op .f64 x y = none := by
  have hn := isNaN_of h
  have e : ∃ s f, FloatKind.f64.format.read y = .nan s f := by
    cases hr : FloatKind.f64.format.read y with
    | nan s f => exact ⟨s, f, rfl⟩
    | number s m e => rw [hr] at hn; cases hn
    | infinity s => rw [hr] at hn; cases hn
  obtain ⟨s, f, e⟩ := e
  rcases hop with rfl | rfl | rfl | rfl
  · show Option.map _ (Ieee.Datum.sum _ (FloatKind.f64.format.read y)) = none
    rw [e]; cases FloatKind.f64.format.read x <;> rfl
  · show Option.map _ (Ieee.Datum.sum _ (FloatKind.f64.format.read y).opposite) = none
    rw [e]; cases FloatKind.f64.format.read x <;> rfl
  · show Option.map _ (Ieee.Datum.product _ (FloatKind.f64.format.read y)) = none
    rw [e]; cases FloatKind.f64.format.read x <;> rfl
  · show Option.map _ (Ieee.Datum.quotient _ _ (FloatKind.f64.format.read y)) = none
    rw [e]; cases FloatKind.f64.format.read x <;> rfl
/-- An operation does not tell a NaN from its canonical form. -/
theorem cop_canon_right {op : BinOp} (x y : Nat) (hop : op = .add ∨ op = .sub ∨ op = .mul ∨ op = .quo) : Flo.cop op x (Flo.canon y) = Flo.cop op x y := by
  cases h : Flo.feq y y
  · rw [Flo.canon_no h, Flo.cop_none (none_right hop Flo.nan_ne), Flo.cop_none (none_right hop h)]
  · rw [Flo.canon_yes h]
theorem opV_mixed (o : Nat) (n : Int) (y : Nat) : opV o 1 n 0 2 0 y = (2, 0, Flo.cop (bop o) (floatOfInt .f64 n) y, 0) := opV_flo rfl rfl
theorem opV_mixed' (o : Nat) (n : Int) (y : Nat) : opV o 2 0 y 1 n 0 = (2, 0, Flo.cop (bop o) y (floatOfInt .f64 n), 0) := opV_flo rfl rfl
theorem int_ok_of_wf {n : Int} (h : (Lit.int .i64 n).wf = true) : okI n := by
  simp only [Lit.wf, decide_eq_true_eq, IntKind.min, IntKind.max] at h
  unfold okI
  have h1 : IntKind.i64.bits = 64 := rfl
  simp [IntKind.signed, h1] at h
  omega
theorem add_l (n : Int) (y : Nat) (hn : okI n) (w : World) : Calls Try.prog 12 #[.agg #[.int .i64 1, .int .i64 n, .float .f64 0, .string ⟨#[]⟩, .slice none 0 0], .agg #[.int .i64 2, .int .i64 0, .float .f64 (Flo.canon y), .string ⟨#[]⟩, .slice none 0 0]] w fun e w' => e = .returned (.tuple #[.agg #[.int .i64 2, .int .i64 0, .float .f64 (Flo.cop .add (floatOfInt .f64 n) y), .string ⟨#[]⟩, .slice none 0 0], .int .i64 0]) ∧ Below w.heap.size w w' :=
  add_any 1 n 0 ⟨#[]⟩ none 0 0 2 0 (Flo.canon y) ⟨#[]⟩ none 0 0 w hn (by decide) (by rw [opV_mixed]; exact congrArg (fun z => ((2 : Int), (0 : Int), z, (0 : Int))) (cop_canon_right _ _ (.inl rfl)))
theorem add_r (n : Int) (y : Nat) (hn : okI n) (w : World) : Calls Try.prog 12 #[.agg #[.int .i64 2, .int .i64 0, .float .f64 (Flo.canon y), .string ⟨#[]⟩, .slice none 0 0], .agg #[.int .i64 1, .int .i64 n, .float .f64 0, .string ⟨#[]⟩, .slice none 0 0]] w fun e w' => e = .returned (.tuple #[.agg #[.int .i64 2, .int .i64 0, .float .f64 (Flo.cop .add (floatOfInt .f64 n) y), .string ⟨#[]⟩, .slice none 0 0], .int .i64 0]) ∧ Below w.heap.size w w' :=
  add_any 2 0 (Flo.canon y) ⟨#[]⟩ none 0 0 1 n 0 ⟨#[]⟩ none 0 0 w (by decide) hn (by rw [opV_mixed']; exact congrArg (fun z => ((2 : Int), (0 : Int), z, (0 : Int))) ((Flo.cop_add_comm _ _).trans (cop_canon_right _ _ (.inl rfl))))
theorem mul_l (n : Int) (y : Nat) (hn : okI n) (w : World) : Calls Try.prog 16 #[.agg #[.int .i64 1, .int .i64 n, .float .f64 0, .string ⟨#[]⟩, .slice none 0 0], .agg #[.int .i64 2, .int .i64 0, .float .f64 (Flo.canon y), .string ⟨#[]⟩, .slice none 0 0]] w fun e w' => e = .returned (.tuple #[.agg #[.int .i64 2, .int .i64 0, .float .f64 (Flo.cop .mul (floatOfInt .f64 n) y), .string ⟨#[]⟩, .slice none 0 0], .int .i64 0]) ∧ Below w.heap.size w w' :=
  mul_any 1 n 0 ⟨#[]⟩ none 0 0 2 0 (Flo.canon y) ⟨#[]⟩ none 0 0 w hn (by decide) (by rw [opV_mixed]; exact congrArg (fun z => ((2 : Int), (0 : Int), z, (0 : Int))) (cop_canon_right _ _ (.inr (.inr (.inl rfl)))))
end Num
end Go.Proofs.Ytkodgfhpbpefdaa
