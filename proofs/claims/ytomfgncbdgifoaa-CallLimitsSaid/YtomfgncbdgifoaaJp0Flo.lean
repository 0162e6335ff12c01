/-
  Plain facts on floats of 64 bits, as words: the canonical NaN, equality, the four operations up to the choice of a NaN; sums and products do not hang on the order of their operands.
-/
import Derived.WalkKit
import Derived.Laws.FloatArith
namespace Go.Proofs.Ytomfgncbdgifoaa
namespace Flo

/-- The word of the one NaN. -/
def nan : Nat := 9221120237041090561
/-- Go's '==' on words. -/
def feq (x y : Nat) : Bool := FloatKind.f64.format.order x y == some .eq
def canon (x : Nat) : Nat := if feq x x = true then x else nan
/-- An operation's word, with the one NaN where it is none. -/
def cop (op : BinOp) (x y : Nat) : Nat := match floatBits op .f64 x y with | some r => canon r | none => nan

theorem canon_yes {x : Nat} (h : feq x x = true) : canon x = x := by unfold canon; rw [if_pos h]
theorem canon_no {x : Nat} (h : feq x x = false) : canon x = nan := by unfold canon; rw [h]; rfl
theorem nan_ne : feq nan nan = false := by decide +kernel
theorem canon_nan : canon nan = nan := by decide +kernel
theorem canon_canon (x : Nat) : canon (canon x) = canon x := by
  by_cases h : feq x x = true
  · rw [canon_yes h, canon_yes h]
  · have h' : feq x x = false := by simpa using h
    rw [canon_no h', canon_nan]
theorem cop_some {op : BinOp} {x y r : Nat} (h : floatBits op .f64 x y = some r) : cop op x y = canon r := by unfold cop; rw [h]
theorem cop_none {op : BinOp} {x y : Nat} (h : floatBits op .f64 x y = none) : cop op x y = nan := by unfold cop; rw [h]
theorem canon_cop (op : BinOp) (x y : Nat) : canon (cop op x y) = cop op x y := by
  unfold cop; split
  · exact canon_canon _
  · exact canon_nan

theorem nan_lt : nan < 2 ^ 64 := by decide
theorem canon_lt {x : Nat} (h : x < 2 ^ 64) : canon x < 2 ^ 64 := by unfold canon; split; exact h; exact nan_lt
theorem floatBits_lt {op : BinOp} {x y r : Nat} (h : floatBits op .f64 x y = some r) : r < 2 ^ 64 := by
  have := floatBits_wf h
  simpa [Lit.wf] using this
theorem cop_lt (op : BinOp) (x y : Nat) : cop op x y < 2 ^ 64 := by
  unfold cop; split
  · rename_i h; exact canon_lt (floatBits_lt h)
  · exact nan_lt

/-- What the tape answers where an operation has no number is a NaN. -/
def drawn (x y t : Nat) : Nat := Question.cut (.nanBits .f64 x y) t
theorem drawn_eq (x y t : Nat) : drawn x y t = (t % 2) * 2 ^ 63 + 0x7ff0000000000000 + 1 + (t / 2) % (2 ^ 52 - 1) := rfl
theorem drawn_lt (x y t : Nat) : drawn x y t < 2 ^ 64 := by rw [drawn_eq]; omega
theorem read_drawn (x y t : Nat) : (FloatKind.f64.format.read (drawn x y t)).isNaN = true := by
  have h0 : FloatKind.f64.format.signWeight = 9223372036854775808 := by decide +kernel
  have h1 : FloatKind.f64.format.binade = 4503599627370496 := by decide +kernel
  have h2 : FloatKind.f64.format.infRung = 9218868437227405312 := by decide +kernel
  unfold Ieee.Format.read
  simp only [h0, h1, h2]
  have hm : drawn x y t % 9223372036854775808 = 9218868437227405313 + (t / 2) % (2 ^ 52 - 1) := by rw [drawn_eq]; omega
  rw [hm, if_neg (by omega), if_neg (by omega), if_neg (by omega)]
  rfl
theorem feq_nan {x : Nat} (h : (FloatKind.f64.format.read x).isNaN = true) (y : Nat) : feq x y = false := by
  unfold feq Ieee.Format.order
  cases hx : FloatKind.f64.format.read x with
  | nan s f => rfl
  | number s m e => rw [hx] at h; cases h
  | infinity s => rw [hx] at h; cases h
theorem feq_drawn (x y t : Nat) : feq (drawn x y t) (drawn x y t) = false := feq_nan (read_drawn x y t) _
theorem canon_drawn (x y t : Nat) : canon (drawn x y t) = nan := canon_no (feq_drawn x y t)

/-- A number is equal to itself. -/
theorem order_self (d : Ieee.Datum) : d.isNaN = false → d.order d = some .eq := by
  cases d with
  | nan s f => intro h; cases h
  | infinity s => intro _; cases s <;> rfl
  | number s m e => intro _; simp [Ieee.Datum.order]
theorem feq_self {x : Nat} (h : (FloatKind.f64.format.read x).isNaN = false) : feq x x = true := by
  unfold feq Ieee.Format.order; rw [order_self _ h]; rfl

theorem sum_comm (a b : Ieee.Datum) : a.sum b = b.sum a := by
  cases a <;> cases b <;> simp [Ieee.Datum.sum, Int.min_comm, Int.add_comm, Bool.and_comm]
  · rename_i s t
    by_cases h : s = t
    · subst h; simp
    · rw [if_neg h, if_neg (fun e => h e.symm)]
theorem product_comm (a b : Ieee.Datum) : a.product b = b.product a := by
  cases a <;> cases b <;> simp [Ieee.Datum.product, Int.add_comm, Nat.mul_comm, Bool.xor_comm]
theorem add_comm (x y : Nat) : floatBits .add .f64 x y = floatBits .add .f64 y x := by
  show Option.map _ (Ieee.Datum.sum _ _) = Option.map _ (Ieee.Datum.sum _ _); rw [sum_comm]
theorem mul_comm (x y : Nat) : floatBits .mul .f64 x y = floatBits .mul .f64 y x := by
  show Option.map _ (Ieee.Datum.product _ _) = Option.map _ (Ieee.Datum.product _ _); rw [product_comm]
theorem cop_add_comm (x y : Nat) : cop .add x y = cop .add y x := by unfold cop; rw [add_comm]

section
variable {P : Program} (w : World)
/-- The walk's law where an operation has no number: the tape is asked. -/
theorem run_none (op : BinOp) (t : TypeId) (x y : Nat) (hop : op = .add ∨ op = .sub ∨ op = .mul ∨ op = .quo) (h : floatBits op .f64 x y = none) :
    (binOp op t (.float .f64 x) (.float .f64 y)).run P w = .ok (.float .f64 (drawn x y (w.tape w.drawn (.nanBits .f64 x y)))) w.drew := by
  unfold floatBits at h
  rcases hop with rfl | rfl | rfl | rfl
  all_goals
    simp only at h
    simp [binOp, Op.floatArith, h, drawn, Question.forced]
end
section
variable (P : Program) (w : World) (a : Addr) (m : Mode)
@[go_sem] theorem run_store_float (k : FloatKind) (b : Nat) : (store a (.float k b) m).run P w = stored P w a (.float k b) m := run_store P w a _ m rfl
end
end Flo
end Go.Proofs.Ytomfgncbdgifoaa
/-
  Plain facts on integers of 64 bits: what a sum, a difference, a product, a quotient is, or that there is none such.
-/
namespace Go.Proofs.Ytomfgncbdgifoaa
namespace Ints
open Go.RowKit

def okI (n : Int) : Prop := -9223372036854775808 ≤ n ∧ n ≤ 9223372036854775807
instance (n : Int) : Decidable (okI n) := by unfold okI; exact inferInstance
def ifOk (n : Int) : Option Int := if okI n then some n else none
/-- The Int of an operation, if there is one: o is 0, 1, 2, 3 for sums, differences, products, quotients. -/
def intR (o : Nat) (x y : Int) : Option Int :=
  if o = 0 then ifOk (x + y) else if o = 1 then ifOk (x - y) else if o = 2 then ifOk (x * y) else if y = 0 then none else ifOk (x.tdiv y)

/-- What a function that tells an Int and whether there is one returns. -/
def Tells (e : Ending) (r : Option Int) : Prop := (∀ n, r = some n → e = .returned (.tuple #[.int .i64 n, .bool true])) ∧ (r = none → ∃ s, e = .returned (.tuple #[.int .i64 s, .bool false]))

theorem tells_mk {s : Int} {b : Bool} {n : Int} (h : b = decide (okI n)) (hs : okI n → s = n) : Tells (.returned (.tuple #[.int .i64 s, .bool b])) (ifOk n) := by
  unfold Tells ifOk
  by_cases hn : okI n
  · rw [if_pos hn]
    refine ⟨fun m hm => ?_, fun h0 => by cases h0⟩
    cases hm
    rw [h, hs hn]; simp [hn]
  · rw [if_neg hn]
    exact ⟨fun m hm => (by cases hm), fun _ => ⟨s, by rw [h]; simp [hn]⟩⟩

theorem bool_dec {b : Bool} {p : Prop} [Decidable p] (h : b = true ↔ p) : b = decide p := by
  rw [Bool.eq_iff_iff, decide_eq_true_iff]; exact h
theorem add_ok (x y : Int) (hx : okI x) (hy : okI y) : (decide (x < wrap64 (x + y)) == decide (0 < y)) = decide (okI (x + y)) := by
  refine bool_dec ?_
  unfold okI at *; unfold wrap64
  simp only [beq_iff_eq, decide_eq_decide]
  omega
theorem sub_ok (x y : Int) (hx : okI x) (hy : okI y) : (decide (wrap64 (x - y) < x) == decide (0 < y)) = decide (okI (x - y)) := by
  refine bool_dec ?_
  unfold okI at *; unfold wrap64
  simp only [beq_iff_eq, decide_eq_decide]
  omega
theorem wrap_ok {n : Int} (h : okI n) : wrap64 n = n := by unfold okI at h; unfold wrap64; omega
theorem wrap_ok_iff {n : Int} : okI (wrap64 n) := by unfold okI wrap64; omega
/-- A product of two Ints whose wrapped one divides back is the product itself: another one would be off by 2^64 at least. -/
theorem mul_back {x y : Int} (hy : okI y) (hy0 : y ≠ 0) (h : (wrap64 (x * y)).tdiv y = x) : okI (x * y) := by
  have hw : okI (wrap64 (x * y)) := wrap_ok_iff
  obtain ⟨k, hk⟩ : ∃ k : Int, wrap64 (x * y) = x * y + 18446744073709551616 * k := ⟨-((x * y + 9223372036854775808) / 18446744073709551616), by unfold wrap64; omega⟩
  have hd := Int.tmod_def (wrap64 (x * y)) y
  rw [h] at hd
  have hn := Int.natAbs_tmod (wrap64 (x * y)) y
  have hl : (wrap64 (x * y)).natAbs % y.natAbs < y.natAbs := Nat.mod_lt _ (by omega)
  have hc : y * x = x * y := Int.mul_comm y x
  generalize hp : x * y = p at *
  unfold okI at *
  omega
theorem tdiv_ok {p y : Int} (hp : okI p) (h : y ≠ -1) : okI (p.tdiv y) := by
  have hn := Int.natAbs_tdiv p y
  have e : p.natAbs.div y.natAbs = p.natAbs / y.natAbs := rfl
  rw [e] at hn
  by_cases h1 : y = 1
  · subst h1; rw [Int.tdiv_one]; exact hp
  · by_cases h0 : y = 0
    · subst h0; rw [Int.tdiv_zero]; exact ⟨by decide, by decide⟩
    · have : p.natAbs / y.natAbs ≤ p.natAbs / 2 := Nat.div_le_div_left (by omega) (by omega)
      unfold okI at *
      omega
theorem mul_neg_iff {x y : Int} (hx0 : x ≠ 0) (hy0 : y ≠ 0) : (decide (x * y < 0) == (decide (x < 0) != decide (y < 0))) = true := by
  rcases Int.lt_or_gt_of_ne hx0 with hx | hx <;> rcases Int.lt_or_gt_of_ne hy0 with hy | hy
  · have := Int.mul_pos_of_neg_of_neg hx hy
    simp [hx, hy, show ¬ x * y < 0 by omega]
  · have := Int.mul_neg_of_neg_of_pos hx hy
    simp [hx, show ¬ y < 0 by omega, this]
  · have := Int.mul_neg_of_pos_of_neg hx hy
    simp [hy, show ¬ x < 0 by omega, this]
  · have := Int.mul_pos hx hy
    simp [show ¬ x < 0 by omega, show ¬ y < 0 by omega, show ¬ x * y < 0 by omega]
/-- The two tests of a product: divided back, and of the right sign. -/
theorem mul_ok {x y : Int} (hx : okI x) (hy : okI y) (hx0 : x ≠ 0) (hy0 : y ≠ 0) :
    ((wrap64 ((wrap64 (x * y)).tdiv y) == x) && (decide (wrap64 (x * y) < 0) == (decide (x < 0) != decide (y < 0)))) = decide (okI (x * y)) := by
  by_cases h : okI (x * y)
  · rw [wrap_ok h, Int.mul_tdiv_cancel _ hy0, wrap_ok hx, mul_neg_iff hx0 hy0]; simp [h]
  · have e : decide (okI (x * y)) = false := by simp [h]
    rw [e, Bool.and_eq_false_iff]
    by_cases hm : y = -1
    · right
      subst hm
      have hx' : x = -9223372036854775808 := by unfold okI at *; omega
      subst hx'
      decide +kernel
    · left
      rw [wrap_ok (tdiv_ok wrap_ok_iff hm), beq_eq_false_iff_ne]
      exact fun hb => h (mul_back hy hy0 hb)
/-- The one test of a product that is by neither 0 nor -1. -/
theorem mul_ok_ref {x y : Int} (hy : okI y) (hy0 : y ≠ 0) (hm : y ≠ -1) : (wrap64 ((wrap64 (x * y)).tdiv y) == x) = decide (okI (x * y)) := by
  refine bool_dec ?_
  rw [wrap_ok (tdiv_ok wrap_ok_iff hm), beq_iff_eq]
  refine ⟨fun hb => mul_back hy hy0 hb, fun h => ?_⟩
  rw [wrap_ok h, Int.mul_tdiv_cancel _ hy0]
theorem div_ok {x y : Int} (hx : okI x) (h : ¬ (x = -9223372036854775808 ∧ y = -1)) : okI (x.tdiv y) := by
  by_cases hm : y = -1
  · subst hm
    rw [Int.tdiv_neg, Int.tdiv_one]
    unfold okI at *; omega
  · exact tdiv_ok hx hm
theorem div_not : ¬ okI ((-9223372036854775808 : Int).tdiv (-1)) := by decide +kernel
end Ints
end Go.Proofs.Ytomfgncbdgifoaa
