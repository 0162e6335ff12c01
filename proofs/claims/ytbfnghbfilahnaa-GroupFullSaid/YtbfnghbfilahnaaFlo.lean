/-
  Plain facts on floats of 64 bits, as words: the canonical NaN, equality, the four operations up to the choice of a NaN; sums and products do not hang on the order of their operands.
-/
import Derived.WalkKit
import Derived.Laws.FloatArith
namespace Go.Proofs.Ytbfnghbfilahnaa
namespace Flo

/-- The word of the one NaN. -/
def nan : Nat := 9221120237041090561
/-- Go's '==' on words. -/
def feq (x y : Nat) : Bool := FloatKind.f64.format.order x y == some .eq
def canon (x : Nat) : Nat := if feq x x = true then x else nan
/-- An operation's word, with the one NaN where it is none. -/
def cop (op : BinOp) (x y : Nat) : Nat := match floatBits op .f64 x y with | some r => canon r | none => nan

theorem canon_yes {x : Nat} (h : feq x x = true) : canon x = x := by unfold canon; rw [if_pos h]
theorem canon_no {x : Nat} (h : feq x x = false) : canon x = nan := by unfold canon; rw [h]; rfl
theorem nan_ne : feq nan nan = false := by decide +kernel
theorem canon_nan : canon nan = nan := by decide +kernel
theorem canon_canon (x : Nat) : canon (canon x) = canon x := by
  by_cases h : feq x x = true
  · rw [canon_yes h, canon_yes h]
  · have h' : feq x x = false := by simpa using h
    rw [canon_no h', canon_nan]
theorem cop_some {op : BinOp} {x y r : Nat} (h : floatBits op .f64 x y = some r) : cop op x y = canon r := by unfold cop; rw [h]
theorem cop_none {op : BinOp} {x y : Nat} (h : floatBits op .f64 x y = none) : cop op x y = nan := by unfold cop; rw [h]
theorem canon_cop (op : BinOp) (x y : Nat) : canon (cop op x y) = cop op x y := by
  unfold cop; split
  · exact canon_canon _
  · exact canon_nan

theorem nan_lt : nan < 2 ^ 64 := by decide
theorem canon_lt {x : Nat} (h : x < 2 ^ 64) : canon x < 2 ^ 64 := by unfold canon; split; exact h; exact nan_lt
theorem floatBits_lt {op : BinOp} {x y r : Nat} (h : floatBits op .f64 x y = some r) : r < 2 ^ 64 := by
  have := floatBits_wf h
  simpa [Lit.wf] using this
theorem cop_lt (op : BinOp) (x y : Nat) : cop op x y < 2 ^ 64 := by
  unfold cop; split
  · rename_i h; exact canon_lt (floatBits_lt h)
  · exact nan_lt

/-- What the tape answers where an operation has no number is a NaN. -/
def drawn (x y t : Nat) : Nat := Question.cut (.nanBits .f64 x y) t
theorem drawn_eq (x y t : Nat) : drawn x y t = (t % 2) * 2 ^ 63 + 0x7ff0000000000000 + 1 + (t / 2) % (2 ^ 52 - 1) := rfl
theorem drawn_lt (x y t : Nat) : drawn x y t < 2 ^ 64 := by rw [drawn_eq]; omega
theorem read_drawn (x y t : Nat) : (FloatKind.f64.format.read (drawn x y t)).isNaN = true := by
  have h0 : FloatKind.f64.format.signWeight = 9223372036854775808 := by decide +kernel
  have h1 : FloatKind.f64.format.binade = 4503599627370496 := by decide +kernel
  have h2 : FloatKind.f64.format.infRung = 9218868437227405312 := by decide +kernel
  unfold Ieee.Format.read
  simp only [h0, h1, h2]
  have hm : drawn x y t % 9223372036854775808 = 9218868437227405313 + (t / 2) % (2 ^ 52 - 1) := by rw [drawn_eq]; omega
  rw [hm, if_neg (by omega), if_neg (by omega), if_neg (by omega)]
  rfl
theorem feq_nan {x : Nat} (h : (FloatKind.f64.format.read x).isNaN = true) (y : Nat) : feq x y = false := by
  unfold feq Ieee.Format.order
  cases hx : FloatKind.f64.format.read x with
  | nan s f => rfl
  | number s m e => rw [hx] at h; cases h
  | infinity s => rw [hx] at h; cases h
theorem feq_drawn (x y t : Nat) : feq (drawn x y t) (drawn x y t) = false := feq_nan (read_drawn x y t) _
theorem canon_drawn (x y t : Nat) : canon (drawn x y t) = nan := canon_no (feq_drawn x y t)

/-- A number is equal to itself. -/
theorem order_self (d : Ieee.Datum) : d.isNaN = false → d.order d = some .eq := by
  cases d with
  | nan s f => intro h; cases h
  | infinity s => intro _; cases s <;> rfl
  | number s m e => intro _; simp [Ieee.Datum.order]
theorem feq_self {x : Nat} (h : (FloatKind.f64.format.read x).isNaN = false) : feq x x = true := by
  unfold feq Ieee.Format.order; rw [order_self _ h]; rfl

theorem sum_comm (a b : Ieee.Datum) : a.sum b = b.sum a := by
  cases a <;> cases b <;> simp [Ieee.Datum.sum, Int.min_comm, Int.add_comm, Bool.and_comm]
  · rename_i s t
    by_cases h : s = t
    · subst h; simp
    · rw [if_neg h, if_neg (fun e => h e.symm)]
theorem product_comm (a b : Ieee.Datum) : a.product b = b.product a := by
  cases a <;> cases b <;> simp [Ieee.Datum.product, Int.add_comm, Nat.mul_comm, Bool.xor_comm]
theorem add_comm (x y : Nat) : floatBits .add .f64 x y = floatBits .add .f64 y x := by
  show Option.map _ (Ieee.Datum.sum _ _) = Option.map _ (Ieee.Datum.sum _ _); rw [sum_comm]
theorem mul_comm (x y : Nat) : floatBits .mul .f64 x y = floatBits .mul .f64 y x := by
  show Option.map _ (Ieee.Datum.product _ _) = Option.map _ (Ieee.Datum.product _ _); rw [product_comm]
theorem cop_add_comm (x y : Nat) : cop .add x y = cop .add y x := by unfold cop; rw [add_comm]

section
variable {P : Program} (w : World)
/-- The walk's law where an operation has no number: the tape is asked. -/
theorem run_none (op : BinOp) (t : TypeId) (x y : Nat) (hop : op = .add ∨ op = .sub ∨ op = .mul ∨ op = .quo) (h : floatBits op .f64 x y = none) :
    (binOp op t (.float .f64 x) (.float .f64 y)).run P w = .ok (.float .f64 (drawn x y (w.tape w.drawn (.nanBits .f64 x y)))) w.drew := by
  unfold floatBits at h
  rcases hop with rfl | rfl | rfl | rfl
  all_goals
    simp only at h
    simp [binOp, Op.floatArith, h, drawn, Question.forced]
end
section
variable (P : Program) (w : World) (a : Addr) (m : Mode)
@[go_sem] theorem run_store_float (k : FloatKind) (b : Nat) : (store a (.float k b) m).run P w = stored P w a (.float k b) m := run_store P w a _ m rfl
end
end Flo
end Go.Proofs.Ytbfnghbfilahnaa
