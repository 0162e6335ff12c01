/-
  Plain facts on integers of 64 bits: what a sum, a difference, a product, a quotient is, or that there is none such.
-/
import Derived.WalkKit
namespace Go.Proofs.Ytbfnghbfilahnaa
namespace Ints
open Go.RowKit

def okI (n : Int) : Prop := -9223372036854775808 ≤ n ∧ n ≤ 9223372036854775807
instance (n : Int) : Decidable (okI n) := by unfold okI; exact inferInstance
def ifOk (n : Int) : Option Int := if okI n then some n else none
/-- The Int of an operation, if there is one: o is 0, 1, 2, 3 for sums, differences, products, quotients. -/
def intR (o : Nat) (x y : Int) : Option Int :=
  if o = 0 then ifOk (x + y) else if o = 1 then ifOk (x - y) else if o = 2 then ifOk (x * y) else if y = 0 then none else ifOk (x.tdiv y)

/-- What a function that tells an Int and whether there is one returns. -/
def Tells (e : Ending) (r : Option Int) : Prop := (∀ n, r = some n → e = .returned (.tuple #[.int .i64 n, .bool true])) ∧ (r = none → ∃ s, e = .returned (.tuple #[.int .i64 s, .bool false]))

theorem tells_mk {s : Int} {b : Bool} {n : Int} (h : b = decide (okI n)) (hs : okI n → s = n) : Tells (.returned (.tuple #[.int .i64 s, .bool b])) (ifOk n) := by
  unfold Tells ifOk
  by_cases hn : okI n
  · rw [if_pos hn]
    refine ⟨fun m hm => ?_, fun h0 => by cases h0⟩
    cases hm
    rw [h, hs hn]; simp [hn]
  · rw [if_neg hn]
    exact ⟨fun m hm => (by cases hm), fun _ => ⟨s, by rw [h]; simp [hn]⟩⟩

theorem bool_dec {b : Bool} {p : Prop} [Decidable p] (h : b = true ↔ p) : b = decide p := by
  rw [Bool.eq_iff_iff, decide_eq_true_iff]; exact h
theorem add_ok (x y : Int) (hx : okI x) (hy : okI y) : (decide (x < wrap64 (x + y)) == decide (0 < y)) = decide (okI (x + y)) := by
  refine bool_dec ?_
  unfold okI at *; unfold wrap64
  simp only [beq_iff_eq, decide_eq_decide]
  omega
theorem sub_ok (x y : Int) (hx : okI x) (hy : okI y) : (decide (wrap64 (x - y) < x) == decide (0 < y)) = decide (okI (x - y)) := by
  refine bool_dec ?_
  unfold okI at *; unfold wrap64
  simp only [beq_iff_eq, decide_eq_decide]
  omega
theorem wrap_ok {n : Int} (h : okI n) : wrap64 n = n := by unfold okI at h; unfold wrap64; omega
theorem wrap_ok_iff {n : Int} : okI (wrap64 n) := by unfold okI wrap64; omega
/-- A product of two Ints whose wrapped one divides back is the product itself: another one would be off by 2^64 at least. -/
theorem mul_back {x y : Int} (hy : okI y) (hy0 : y ≠ 0) (h : (wrap64 (x * y)).tdiv y = x) : okI (x * y) := by
  have hw : okI (wrap64 (x * y)) := wrap_ok_iff
  obtain ⟨k, hk⟩ : ∃ k : Int, wrap64 (x * y) = x * y + 18446744073709551616 * k := ⟨-((x * y + 9223372036854775808) / 18446744073709551616), by unfold wrap64; omega⟩
  have hd := Int.tmod_def (wrap64 (x * y)) y
  rw [h] at hd
  have hn := Int.natAbs_tmod (wrap64 (x * y)) y
  have hl : (wrap64 (x * y)).natAbs % y.natAbs < y.natAbs := Nat.mod_lt _ (by omega)
  have hc : y * x = x * y := Int.mul_comm y x
  generalize hp : x * y = p at *
  unfold okI at *
  omega
theorem tdiv_ok {p y : Int} (hp : okI p) (h : y ≠ -1) : okI (p.tdiv y) := by
  have hn := Int.natAbs_tdiv p y
  have e : p.natAbs.div y.natAbs = p.natAbs / y.natAbs := rfl
  rw [e] at hn
  by_cases h1 : y = 1
  · subst h1; rw [Int.tdiv_one]; exact hp
  · by_cases h0 : y = 0
    · subst h0; rw [Int.tdiv_zero]; exact ⟨by decide, by decide⟩
    · have : p.natAbs / y.natAbs ≤ p.natAbs / 2 := Nat.div_le_div_left (by omega) (by omega)
      unfold okI at *
      omega
theorem mul_neg_iff {x y : Int} (hx0 : x ≠ 0) (hy0 : y ≠ 0) : (decide (x * y < 0) == (decide (x < 0) != decide (y < 0))) = true := by
  rcases Int.lt_or_gt_of_ne hx0 with hx | hx <;> rcases Int.lt_or_gt_of_ne hy0 with hy | hy
  · have := Int.mul_pos_of_neg_of_neg hx hy
    simp [hx, hy, show ¬ x * y < 0 by omega]
  · have := Int.mul_neg_of_neg_of_pos hx hy
    simp [hx, show ¬ y < 0 by omega, this]
  · have := Int.mul_neg_of_pos_of_neg hx hy
    simp [hy, show ¬ x < 0 by omega, this]
  · have := Int.mul_pos hx hy
    simp [show ¬ x < 0 by omega, show ¬ y < 0 by omega, show ¬ x * y < 0 by omega]
/-- The two tests of a product: divided back, and of the right sign. -/
theorem mul_ok {x y : Int} (hx : okI x) (hy : okI y) (hx0 : x ≠ 0) (hy0 : y ≠ 0) :
    ((wrap64 ((wrap64 (x * y)).tdiv y) == x) && (decide (wrap64 (x * y) < 0) == (decide (x < 0) != decide (y < 0)))) = decide (okI (x * y)) := by
  by_cases h : okI (x * y)
  · rw [wrap_ok h, Int.mul_tdiv_cancel _ hy0, wrap_ok hx, mul_neg_iff hx0 hy0]; simp [h]
  · have e : decide (okI (x * y)) = false := by simp [h]
    rw [e, Bool.and_eq_false_iff]
    by_cases hm : y = -1
    · right
      subst hm
      have hx' : x = -9223372036854775808 := by unfold okI at *; omega
      subst hx'
      decide +kernel
    · left
      rw [wrap_ok (tdiv_ok wrap_ok_iff hm), beq_eq_false_iff_ne]
      exact fun hb => h (mul_back hy hy0 hb)
/-- The one test of a product that is by neither 0 nor -1. -/
theorem mul_ok_ref {x y : Int} (hy : okI y) (hy0 : y ≠ 0) (hm : y ≠ -1) : (wrap64 ((wrap64 (x * y)).tdiv y) == x) = decide (okI (x * y)) := by
  refine bool_dec ?_
  rw [wrap_ok (tdiv_ok wrap_ok_iff hm), beq_iff_eq]
  refine ⟨fun hb => mul_back hy hy0 hb, fun h => ?_⟩
  rw [wrap_ok h, Int.mul_tdiv_cancel _ hy0]
theorem div_ok {x y : Int} (hx : okI x) (h : ¬ (x = -9223372036854775808 ∧ y = -1)) : okI (x.tdiv y) := by
  by_cases hm : y = -1
  · subst hm
    rw [Int.tdiv_neg, Int.tdiv_one]
    unfold okI at *; omega
  · exact tdiv_ok hx hm
theorem div_not : ¬ okI ((-9223372036854775808 : Int).tdiv (-1)) := by decide +kernel
end Ints
end Go.Proofs.Ytbfnghbfilahnaa
