/-
  Plain facts on floats of 64 bits, as words: the canonical NaN, equality, the four operations up to the choice of a NaN; sums and products do not hang on the order of their operands.
-/
import Derived.WalkKit
import Derived.Laws.FloatArith
namespace Go.Proofs.Yteodljkcbddehaa
namespace Flo

def nan : Nat := 9221120237041090561
def feq (x y : Nat) : Bool := FloatKind.f64.format.order x y == some .eq
def canon (x : Nat) : Nat := if feq x x = true then x else nan
def cop (op : BinOp) (x y : Nat) : Nat := match floatBits op .f64 x y with | some r => canon r | none => nan

theorem canon_yes {x : Nat} (h : feq x x = true) : canon x = x := by unfold canon; rw [if_pos h]
theorem canon_no {x : Nat} (h : feq x x = false) : canon x = nan := by unfold canon; rw [h]; rfl
theorem cop_some {op : BinOp} {x y r : Nat} (h : floatBits op .f64 x y = some r) : cop op x y = canon r := by unfold cop; rw [h]
theorem cop_none {op : BinOp} {x y : Nat} (h : floatBits op .f64 x y = none) : cop op x y = nan := by unfold cop; rw [h]
theorem nan_lt : nan < 2 ^ 64 := by decide
theorem canon_lt {x : Nat} (h : x < 2 ^ 64) : canon x < 2 ^ 64 := by unfold canon; split; exact h; exact nan_lt
theorem floatBits_lt {op : BinOp} {x y r : Nat} (h : floatBits op .f64 x y = some r) : r < 2 ^ 64 := by
  have := floatBits_wf h
  simpa [Lit.wf] using this
theorem cop_lt (op : BinOp) (x y : Nat) : cop op x y < 2 ^ 64 := by
  unfold cop; split
  · rename_i h; exact canon_lt (floatBits_lt h)
  · exact nan_lt

def drawn (x y t : Nat) : Nat := Question.cut (.nanBits .f64 x y) t
theorem drawn_eq (x y t : Nat) : drawn x y t = (t % 2) * 2 ^ 63 + 0x7ff0000000000000 + 1 + (t / 2) % (2 ^ 52 - 1) := rfl
theorem drawn_lt (x y t : Nat) : drawn x y t < 2 ^ 64 := by rw [drawn_eq]; omega
theorem read_drawn (x y t : Nat) : (FloatKind.f64.format.read (drawn x y t)).isNaN = true := by
  have h0 : FloatKind.f64.format.signWeight = 9223372036854775808 := by decide +kernel
  have h1 : FloatKind.f64.format.binade = 4503599627370496 := by decide +kernel
  have h2 : FloatKind.f64.format.infRung = 9218868437227405312 := by decide +kernel
  unfold Ieee.Format.read
  simp only [h0, h1, h2]
  have hm : drawn x y t % 9223372036854775808 = 9218868437227405313 + (t / 2) % (2 ^ 52 - 1) := by rw [drawn_eq]; omega
  rw [hm, if_neg (by omega), if_neg (by omega), if_neg (by omega)]
  rfl
theorem feq_nan {x : Nat} (h : (FloatKind.f64.format.read x).isNaN = true) (y : Nat) : feq x y = false := by
  unfold feq Ieee.Format.order
  cases hx : FloatKind.f64.format.read x with
  | nan s f => rfl
  | number s m e => rw [hx] at h; cases h
  | infinity s => rw [hx] at h; cases h
theorem feq_drawn (x y t : Nat) : feq (drawn x y t) (drawn x y t) = false := feq_nan (read_drawn x y t) _
theorem canon_drawn (x y t : Nat) : canon (drawn x y t) = nan := canon_no (feq_drawn x y t)

theorem order_self (d : Ieee.Datum) : d.isNaN = false → d.order d = some .eq := by
  cases d with
  | nan s f => intro h; cases h
  | infinity s => intro _; cases s <;> rfl
  | number s m e => intro _; simp [Ieee.Datum.order]
theorem feq_self {x : Nat} (h : (FloatKind.f64.format.read x).isNaN = false) : feq x x = true := by
  unfold feq Ieee.Format.order; rw [order_self _ h]; rfl

section
variable {P : Program} (w : World)
theorem run_none (op : BinOp) (t : TypeId) (x y : Nat) (hop : op = .add ∨ op = .sub ∨ op = .mul ∨ op = .quo) (h : floatBits op .f64 x y = none) :
    (binOp op t (.float .f64 x) (.float .f64 y)).run P w = .ok (.float .f64 (drawn x y (w.tape w.drawn (.nanBits .f64 x y)))) w.drew := by
  unfold floatBits at h
  rcases hop with rfl | rfl | rfl | rfl
  all_goals
    simp only at h
    simp [binOp, Op.floatArith, h, drawn, Question.forced]
end
section
variable (P : Program) (w : World) (a : Addr) (m : Mode)
@[go_sem] theorem run_store_float (k : FloatKind) (b : Nat) : (store a (.float k b) m).run P w = stored P w a (.float k b) m := run_store P w a _ m rfl
end
end Flo
end Go.Proofs.Yteodljkcbddehaa
/-
  Plain facts on integers of 64 bits: what a sum, a difference, a product, a quotient is, or that there is none such.
-/
namespace Go.Proofs.Yteodljkcbddehaa
namespace Ints
open Go.RowKit

def okI (n : Int) : Prop := -9223372036854775808 ≤ n ∧ n ≤ 9223372036854775807
instance (n : Int) : Decidable (okI n) := by unfold okI; exact inferInstance
def ifOk (n : Int) : Option Int := if okI n then some n else none
def intR (o : Nat) (x y : Int) : Option Int :=
  if o = 0 then ifOk (x + y) else if o = 1 then ifOk (x - y) else if o = 2 then ifOk (x * y) else if y = 0 then none else ifOk (x.tdiv y)

def Tells (e : Ending) (r : Option Int) : Prop := (∀ n, r = some n → e = .returned (.tuple #[.int .i64 n, .bool true])) ∧ (r = none → ∃ s, e = .returned (.tuple #[.int .i64 s, .bool false]))

theorem tells_mk {s : Int} {b : Bool} {n : Int} (h : b = decide (okI n)) (hs : okI n → s = n) : Tells (.returned (.tuple #[.int .i64 s, .bool b])) (ifOk n) := by
  unfold Tells ifOk
  by_cases hn : okI n
  · rw [if_pos hn]
    refine ⟨fun m hm => ?_, fun h0 => by cases h0⟩
    cases hm
    rw [h, hs hn]; simp [hn]
  · rw [if_neg hn]
    exact ⟨fun m hm => (by cases hm), fun _ => ⟨s, by rw [h]; simp [hn]⟩⟩

theorem bool_dec {b : Bool} {p : Prop} [Decidable p] (h : b = true ↔ p) : b = decide p := by
  rw [Bool.eq_iff_iff, decide_eq_true_iff]; exact h
theorem add_ok (x y : Int) (hx : okI x) (hy : okI y) : (decide (x < wrap64 (x + y)) == decide (0 < y)) = decide (okI (x + y)) := by
  refine bool_dec ?_
  unfold okI at *; unfold wrap64
  simp only [beq_iff_eq, decide_eq_decide]
  omega
theorem wrap_ok {n : Int} (h : okI n) : wrap64 n = n := by unfold okI at h; unfold wrap64; omega
end Ints
end Go.Proofs.Yteodljkcbddehaa
/-
  Numbers: their signs, which are numbers; a number as a float: plain.
-/
namespace Go.Proofs.Yteodljkcbddehaa
open Go.RowKit
namespace Num
def isNum (K : Int) : Bool := K == 1 || K == 2
def asF (K I : Int) (F : Nat) : Nat := if (K == 1) = true then floatOfInt .f64 I else F
def signI (n : Int) : Int := if n < 0 then -1 else if 0 < n then 1 else 0
def signF (x : Nat) : Int := if FloatKind.f64.format.order x 0 == some .lt then -1 else if FloatKind.f64.format.order x 0 == some .gt then 1 else 0
def signV (K I : Int) (F : Nat) : Int := if isNum K = false then 0 else if (K == 1) = true then signI I else signF F
def isInfB (x : Nat) : Bool := FloatKind.f64.format.order (x % 9223372036854775808) 9218868437227405311 == some .gt
def finV (K : Int) (F : Nat) : Bool := if (K == 2) = true then Flo.feq F F && !isInfB F else K == 1
end Num
end Go.Proofs.Yteodljkcbddehaa
/-
  Floats that are not below nothing: sums, differences, a sum with nothing: plain.
-/
namespace Go.Proofs.Yteodljkcbddehaa
open Go.RowKit
namespace Num
set_option linter.unusedSimpArgs false
set_option linter.unusedVariables false
theorem dbl_facts : Ieee.double.signWeight = 9223372036854775808 ∧ Ieee.double.binade = 4503599627370496 ∧ Ieee.double.infRung = 9218868437227405312 ∧ Ieee.double.leastPlace = -1074 ∧ Ieee.double.fractionBits = 52 := by decide +kernel
theorem f64_fmt : FloatKind.f64.format = Ieee.double := rfl
def PosD (x : Nat) (d : Ieee.Datum) : Prop := (d = .number false x (-1074) ∧ x < 4503599627370496) ∨
  (∃ e m : Nat, d = .number false m (-1074 + (e : Int)) ∧ x = e * 4503599627370496 + m ∧ e ≤ 2045 ∧ 4503599627370496 ≤ m ∧ m < 9007199254740992) ∨ (d = .infinity false ∧ x = 9218868437227405312)
theorem read_pos {x : Nat} (h : x ≤ 9218868437227405312) : PosD x (FloatKind.f64.format.read x) := by
  obtain ⟨h1, h2, h3, h4, h5⟩ := dbl_facts
  rw [f64_fmt]
  unfold Ieee.Format.read
  simp only [h1, h2, h3, h4]
  have e1 : x % 9223372036854775808 = x := Nat.mod_eq_of_lt (by omega)
  have e2 : (x / 9223372036854775808 % 2 == 1) = false := by rw [Nat.div_eq_of_lt (by omega)]; rfl
  rw [e1, e2]
  by_cases c1 : x < 4503599627370496
  · rw [if_pos c1]; exact Or.inl ⟨rfl, c1⟩
  · rw [if_neg c1]
    by_cases c2 : x < 9218868437227405312
    · rw [if_pos c2]
      exact Or.inr (Or.inl ⟨x / 4503599627370496 - 1, _, rfl, by omega, by omega, by omega, by omega⟩)
    · rw [if_neg c2, if_pos (by omega)]
      exact Or.inr (Or.inr ⟨rfl, by omega⟩)
theorem word_pos (r : Nat) : Ieee.double.word false r = r := by simp [Ieee.Format.word]
theorem nearest_pos (m : Nat) (p : Int) : Ieee.double.nearest false m p ≤ 9218868437227405312 := by
  obtain ⟨h1, h2, h3, h4, h5⟩ := dbl_facts
  unfold Ieee.Format.nearest
  split
  · rw [word_pos]; omega
  · simp only [word_pos, h3]
    exact Nat.min_le_right _ _
theorem cmp_lt {a b : Int} (h : a < b) : compare a b = .lt := by show compareOfLessAndEq a b = .lt; unfold compareOfLessAndEq; rw [if_pos h]
theorem cmp_gt {a b : Int} (h : b < a) : compare a b = .gt := by show compareOfLessAndEq a b = .gt; unfold compareOfLessAndEq; rw [if_neg (by omega), if_neg (by omega)]
theorem cmp_eq {a b : Int} (h : a = b) : compare a b = .eq := by show compareOfLessAndEq a b = .eq; unfold compareOfLessAndEq; rw [if_neg (by omega), if_pos h]
theorem write_num (s : Bool) (m : Nat) (p : Int) : FloatKind.f64.format.write (.number s m p) = Ieee.double.nearest s m p := rfl
theorem signed_pos (m u : Nat) : Ieee.signed false m u = ((m <<< u : Nat) : Int) := rfl
theorem signed_neg (m u : Nat) : Ieee.signed true m u = -((m <<< u : Nat) : Int) := rfl
theorem signed_sum (m n a b : Nat) : 0 ≤ Ieee.signed false m a + Ieee.signed false n b := Int.add_nonneg (Int.natCast_nonneg _) (Int.natCast_nonneg _)
theorem sum_sign (t : Int) (s : Bool) (h : 0 ≤ t) : (if t = 0 then (false && s) else decide (t < 0)) = false := by
  split
  · rfl
  · rw [decide_eq_false_iff_not]; omega
theorem num_sum (m n : Nat) (i j : Int) : ∃ r, r ≤ 9218868437227405312 ∧ ((Ieee.Datum.sum (.number false m i) (.number false n j)).map FloatKind.f64.format.write) = some r := by
  refine ⟨_, ?_, rfl⟩
  rw [write_num, sum_sign _ _ (signed_sum _ _ _ _)]
  exact nearest_pos _ _
theorem inf_sum : ∃ r, r ≤ 9218868437227405312 ∧ (some (Ieee.Datum.infinity false)).map FloatKind.f64.format.write = some r := by
  obtain ⟨h1, h2, h3, h4, h5⟩ := dbl_facts
  refine ⟨_, ?_, rfl⟩
  rw [f64_fmt]
  show Ieee.double.word false Ieee.double.infRung ≤ _
  rw [word_pos, h3]; exact Nat.le_refl _
theorem add_pos {x y : Nat} (hx : x ≤ 9218868437227405312) (hy : y ≤ 9218868437227405312) : ∃ r, r ≤ 9218868437227405312 ∧ floatBits .add .f64 x y = some r := by
  show ∃ r, r ≤ 9218868437227405312 ∧ (((FloatKind.f64.format.read x).sum (FloatKind.f64.format.read y)).map FloatKind.f64.format.write) = some r
  rcases read_pos hx with ⟨e, _⟩ | ⟨_, _, e, _⟩ | ⟨e, _⟩
  · rcases read_pos hy with ⟨g, _⟩ | ⟨_, _, g, _⟩ | ⟨g, _⟩
    · rw [e, g]; exact num_sum _ _ _ _
    · rw [e, g]; exact num_sum _ _ _ _
    · rw [e, g]; exact inf_sum
  · rcases read_pos hy with ⟨g, _⟩ | ⟨_, _, g, _⟩ | ⟨g, _⟩
    · rw [e, g]; exact num_sum _ _ _ _
    · rw [e, g]; exact num_sum _ _ _ _
    · rw [e, g]; exact inf_sum
  · rcases read_pos hy with ⟨g, _⟩ | ⟨_, _, g, _⟩ | ⟨g, _⟩
    · rw [e, g]; exact inf_sum
    · rw [e, g]; exact inf_sum
    · rw [e, g]; exact inf_sum
theorem num_pos {x : Nat} (h : x < 9218868437227405312) : ∃ m p, FloatKind.f64.format.read x = .number false m p := by
  rcases read_pos (Nat.le_of_lt h) with ⟨e, _⟩ | ⟨_, _, e, _⟩ | ⟨e, g⟩
  · exact ⟨_, _, e⟩
  · exact ⟨_, _, e⟩
  · omega
theorem sub_pos {x y : Nat} (hx : x < 9218868437227405312) (hy : y < 9218868437227405312) (h : FloatKind.f64.format.order x y ≠ some .lt) : ∃ r, r ≤ 9218868437227405312 ∧ floatBits .sub .f64 x y = some r := by
  show ∃ r, r ≤ 9218868437227405312 ∧ (((FloatKind.f64.format.read x).sum (FloatKind.f64.format.read y).opposite).map FloatKind.f64.format.write) = some r
  obtain ⟨m, i, e⟩ := num_pos hx
  obtain ⟨n, j, g⟩ := num_pos hy
  have h' : Ieee.Datum.order (.number false m i) (.number false n j) ≠ some .lt := by rw [← e, ← g]; exact h
  rw [e, g]
  refine ⟨_, ?_, rfl⟩
  have hs : 0 ≤ Ieee.signed false m (i - min i j).toNat + Ieee.signed (!false) n (j - min i j).toNat := by
    have e1 : Ieee.signed (!false) n (j - min i j).toNat = - Ieee.signed false n (j - min i j).toNat := rfl
    rw [e1]
    have h2 : compare (Ieee.signed false m (i - min i j).toNat) (Ieee.signed false n (j - min i j).toNat) ≠ .lt := fun hh => h' (congrArg some hh)
    have h3 : ¬ Ieee.signed false m (i - min i j).toNat < Ieee.signed false n (j - min i j).toNat := fun hh => h2 (cmp_lt hh)
    omega
  rw [write_num]
  have e3 : (if Ieee.signed false m (i - min i j).toNat + Ieee.signed (!false) n (j - min i j).toNat = 0 then (false && !false) else decide (Ieee.signed false m (i - min i j).toNat + Ieee.signed (!false) n (j - min i j).toNat < 0)) = false := sum_sign _ _ hs
  rw [e3]
  exact nearest_pos _ _
theorem feq_pos {x : Nat} (h : x ≤ 9218868437227405312) : Flo.feq x x = true := by
  refine Flo.feq_self ?_
  rcases read_pos h with ⟨e, _⟩ | ⟨_, _, e, _⟩ | ⟨e, g⟩ <;> rw [e] <;> rfl
theorem read_zero : FloatKind.f64.format.read 0 = .number false 0 (-1074) := by decide +kernel
theorem order_pos {x : Nat} (h : x ≤ 9218868437227405312) : FloatKind.f64.format.order x 0 = some .gt ∨ FloatKind.f64.format.order x 0 = some .eq := by
  show (FloatKind.f64.format.read x).order (FloatKind.f64.format.read 0) = _ ∨ (FloatKind.f64.format.read x).order (FloatKind.f64.format.read 0) = _
  rw [read_zero]
  have num : ∀ (m : Nat) (p : Int), (Ieee.Datum.number false m p).order (.number false 0 (-1074)) = some .gt ∨ (Ieee.Datum.number false m p).order (.number false 0 (-1074)) = some .eq := by
    intro m p
    show some (compare (Ieee.signed false m (p - min p (-1074)).toNat) (Ieee.signed false 0 (-1074 - min p (-1074)).toNat)) = _ ∨ some (compare (Ieee.signed false m (p - min p (-1074)).toNat) (Ieee.signed false 0 (-1074 - min p (-1074)).toNat)) = _
    have e0 : Ieee.signed false 0 (-1074 - min p (-1074)).toNat = 0 := by rw [signed_pos, Nat.zero_shiftLeft]; rfl
    rw [e0]
    have hp : 0 ≤ Ieee.signed false m (p - min p (-1074)).toNat := Int.natCast_nonneg _
    rcases Int.lt_or_eq_of_le hp with h1 | h1
    · exact Or.inl (congrArg some (cmp_gt h1))
    · exact Or.inr (congrArg some (cmp_eq h1.symm))
  rcases read_pos h with ⟨e, _⟩ | ⟨_, _, e, _⟩ | ⟨e, g⟩
  · rw [e]; exact num _ _
  · rw [e]; exact num _ _
  · rw [e]; exact Or.inl rfl
theorem shl_mul (m e : Nat) : m <<< e = m * 2 ^ e := Nat.shiftLeft_eq m e
theorem log_norm (m e : Nat) (h1 : 4503599627370496 ≤ m) (h2 : m < 9007199254740992) : (m <<< e).log2 = 52 + e := by
  rw [shl_mul]
  have hm : m * 2 ^ e ≠ 0 := Nat.mul_ne_zero (by omega) (Nat.ne_of_gt (Nat.two_pow_pos e))
  have l1 : 52 + e ≤ (m * 2 ^ e).log2 := by
    rw [Nat.le_log2 hm, Nat.pow_add]
    exact Nat.mul_le_mul_right _ h1
  have l2 : (m * 2 ^ e).log2 < 53 + e := by
    rw [Nat.log2_lt hm, Nat.pow_add]
    exact Nat.mul_lt_mul_of_pos_right h2 (Nat.two_pow_pos e)
  omega
theorem cut_zero (n : Nat) : Ieee.Toward.even.cut false n 0 = n := by
  unfold Ieee.Toward.cut
  simp [Nat.mod_one]
theorem cut_exact (m e : Nat) (h1 : 4503599627370496 ≤ m) (h2 : m < 9007199254740992) : Ieee.Toward.even.cut false (m <<< e) e = m := by
  unfold Ieee.Toward.cut
  have hl := log_norm m e h1 h2
  have hmin : min e ((m <<< e).log2 + 2) = e := by rw [hl]; omega
  simp only [hmin]
  have hg : 1 <<< e = 2 ^ e := by rw [shl_mul, Nat.one_mul]
  rw [hg, shl_mul]
  rw [Nat.mul_div_cancel _ (Nat.two_pow_pos e), Nat.mul_mod_left]
  have hp : 2 ^ e ≠ 0 := Nat.ne_of_gt (Nat.two_pow_pos e)
  simp [hp]
theorem nought_add {x : Nat} (h : x < 9218868437227405312) : floatBits .add .f64 0 x = some x := by
  obtain ⟨h1, h2, h3, h4, h5⟩ := dbl_facts
  show (((FloatKind.f64.format.read 0).sum (FloatKind.f64.format.read x)).map FloatKind.f64.format.write) = some x
  rw [read_zero]
  rcases read_pos (Nat.le_of_lt h) with ⟨e, hx⟩ | ⟨k, m, e, hx, hk, hm1, hm2⟩ | ⟨e, g⟩
  · rw [e]
    refine congrArg some ?_
    rw [write_num, sum_sign _ _ (signed_sum _ _ _ _)]
    have e1 : (Ieee.signed false 0 ((-1074 : Int) - min (-1074) (-1074)).toNat + Ieee.signed false x ((-1074 : Int) - min (-1074) (-1074)).toNat).natAbs = x := by
      rw [signed_pos, signed_pos]
      show (((0 <<< 0 : Nat) : Int) + ((x <<< 0 : Nat) : Int)).natAbs = x
      simp
    rw [e1]
    unfold Ieee.Format.nearest
    split
    · rename_i h0; rw [word_pos, h0]
    · rename_i h0
      have hl : x.log2 < 52 := (Nat.log2_lt h0).2 hx
      simp only [h2, h3, h4, h5, word_pos]
      have hlast : max (min (-1074 : Int) (-1074) + (x.log2 : Int) - ((52 : Nat) : Int)) (-1074) = -1074 := by omega
      rw [hlast]
      have hz : (min (-1074 : Int) (-1074) - (-1074)).toNat = 0 := by decide
      have hz2 : ((-1074 : Int) - min (-1074) (-1074)).toNat = 0 := by decide
      have hz3 : ((-1074 : Int) - (-1074)).toNat = 0 := by decide
      rw [hz, hz2, hz3, Nat.shiftLeft_zero, cut_zero]
      omega
  · rw [e]
    refine congrArg some ?_
    rw [write_num, sum_sign _ _ (signed_sum _ _ _ _)]
    have hmn : min (-1074 : Int) (-1074 + (k : Int)) = -1074 := by omega
    rw [hmn]
    have e1 : (Ieee.signed false 0 ((-1074 : Int) - (-1074)).toNat + Ieee.signed false m (-1074 + (k : Int) - (-1074)).toNat).natAbs = m <<< k := by
      have hk' : (-1074 + (k : Int) - (-1074)).toNat = k := by omega
      rw [hk', signed_pos, signed_pos, Nat.zero_shiftLeft]
      generalize m <<< k = t
      omega
    rw [e1]
    have hl := log_norm m k hm1 hm2
    unfold Ieee.Format.nearest
    split
    · rename_i h0
      rw [h0, show Nat.log2 0 = 0 from by decide] at hl
      omega
    · simp only [h2, h3, h4, h5, word_pos, hl]
      have hlast : max ((-1074 : Int) + ((52 + k : Nat) : Int) - ((52 : Nat) : Int)) (-1074) = -1074 + (k : Int) := by omega
      rw [hlast]
      have hz : ((-1074 : Int) - (-1074 + (k : Int))).toNat = 0 := by omega
      have hz2 : (-1074 + (k : Int) - (-1074)).toNat = k := by omega
      rw [hz, hz2, Nat.shiftLeft_zero, cut_exact m k hm1 hm2, ← hx]
      exact Nat.min_eq_left (Nat.le_of_lt h)
  · omega
theorem cop_nought {x : Nat} (h : x < 9218868437227405312) : Flo.cop .add 0 x = x := by rw [Flo.cop_some (nought_add h), Flo.canon_yes (feq_pos (Nat.le_of_lt h))]
theorem cop_add {x y : Nat} (hx : x ≤ 9218868437227405312) (hy : y ≤ 9218868437227405312) : Flo.cop .add x y ≤ 9218868437227405312 ∧ floatBits .add .f64 x y = some (Flo.cop .add x y) := by
  obtain ⟨r, hr, h⟩ := add_pos hx hy
  have e : Flo.cop .add x y = r := by rw [Flo.cop_some h, Flo.canon_yes (feq_pos hr)]
  rw [e]; exact ⟨hr, h⟩
theorem cop_sub {x y : Nat} (hx : x < 9218868437227405312) (hy : y < 9218868437227405312) (h : FloatKind.f64.format.order x y ≠ some .lt) : Flo.cop .sub x y ≤ 9218868437227405312 ∧ floatBits .sub .f64 x y = some (Flo.cop .sub x y) := by
  obtain ⟨r, hr, h⟩ := sub_pos hx hy h
  have e : Flo.cop .sub x y = r := by rw [Flo.cop_some h, Flo.canon_yes (feq_pos hr)]
  rw [e]; exact ⟨hr, h⟩
end Num
end Go.Proofs.Yteodljkcbddehaa
/-
  Floats: what is taken off a finite one leaves a finite one: plain.
-/
namespace Go.Proofs.Yteodljkcbddehaa
open Go.RowKit
namespace Num
set_option linter.unusedSimpArgs false
set_option linter.unusedVariables false
theorem cut_le (x g : Nat) : Ieee.Toward.even.cut false x g ≤ x / (1 <<< min g (x.log2 + 2)) + 1 := by
  unfold Ieee.Toward.cut
  have : ∀ b : Bool, b.toNat ≤ 1 := by intro b; cases b <;> decide
  exact Nat.add_le_add_left (this _) _
theorem cut_bound {x g m : Nat} (h : x ≤ m * 2 ^ g) (hg : g ≤ x.log2 + 2) : Ieee.Toward.even.cut false x g ≤ m := by
  unfold Ieee.Toward.cut
  have hmin : min g (x.log2 + 2) = g := by omega
  simp only [hmin]
  have hp : 1 <<< g = 2 ^ g := by rw [Nat.shiftLeft_eq, Nat.one_mul]
  rw [hp]
  have hpos := Nat.two_pow_pos g
  rcases Nat.lt_or_eq_of_le h with h1 | h1
  · have hlow : x / 2 ^ g < m := by rw [Nat.div_lt_iff_lt_mul hpos]; exact h1
    have : ∀ b : Bool, b.toNat ≤ 1 := by intro b; cases b <;> decide
    exact Nat.le_trans (Nat.add_le_add_left (this _) _) hlow
  · rw [h1, Nat.mul_div_cancel _ hpos, Nat.mul_mod_left]
    have hz : (2 ^ g == 0) = false := beq_eq_false_iff_ne.2 (Nat.ne_of_gt hpos)
    simp [hz]
theorem near_lt {mag : Nat} {base : Int} {m : Nat} {i : Int} (hb : base ≤ i) (hb0 : -1074 ≤ base) (hm : m < 9007199254740992) (hi : i ≤ 971) (hle : mag ≤ m * 2 ^ (i - base).toNat) : Ieee.double.nearest false mag base < 9218868437227405312 := by
  obtain ⟨d1, d2, d3, d4, d5⟩ := dbl_facts
  unfold Ieee.Format.nearest
  by_cases h0 : mag = 0
  · rw [if_pos h0, word_pos]; omega
  rw [if_neg h0]
  simp only [d2, d3, d4, d5, word_pos]
  generalize hL : mag.log2 = L
  have hpow : mag < 2 ^ (L + 1) := by rw [← hL]; exact Nat.lt_log2_self
  have hLi : L ≤ 52 + (i - base).toNat := by
    have h1 : mag < 2 ^ (53 + (i - base).toNat) := by
      refine Nat.lt_of_le_of_lt hle ?_
      rw [Nat.pow_add]
      exact Nat.mul_lt_mul_of_pos_right hm (Nat.two_pow_pos _)
    have h2 := (Nat.log2_lt h0).2 h1
    omega
  generalize hlast : max (base + (L : Int) - ((52 : Nat) : Int)) (-1074) = last
  have l1 : last ≤ i := by omega
  have l2 : base + (L : Int) - 52 ≤ last := by omega
  have l3 : -1074 ≤ last := by omega
  refine Nat.lt_of_le_of_lt (Nat.min_le_left _ _) ?_
  have key : Ieee.Toward.even.cut false (mag <<< (base - last).toNat) (last - base).toNat ≤ 9007199254740992 ∧ (last = 971 → Ieee.Toward.even.cut false (mag <<< (base - last).toNat) (last - base).toNat ≤ 9007199254740991) := by
    by_cases hc : last < base
    · have e2 : (last - base).toNat = 0 := by omega
      rw [e2, cut_zero, Nat.shiftLeft_eq]
      have e3 : mag * 2 ^ (base - last).toNat < 2 ^ (L + 1) * 2 ^ (base - last).toNat := Nat.mul_lt_mul_of_pos_right hpow (Nat.two_pow_pos _)
      rw [← Nat.pow_add] at e3
      have e4 : 2 ^ (L + 1 + (base - last).toNat) ≤ 2 ^ 53 := Nat.pow_le_pow_right (by decide) (by omega)
      have e5 : (2 : Nat) ^ 53 = 9007199254740992 := by decide
      exact ⟨by omega, fun _ => by omega⟩
    · have e1 : (base - last).toNat = 0 := by omega
      rw [e1, Nat.shiftLeft_zero]
      by_cases hg : (last - base).toNat ≤ mag.log2 + 2
      · by_cases ht : last = i
        · subst ht
          have h := cut_bound hle hg
          exact ⟨by omega, fun _ => by omega⟩
        · refine ⟨?_, fun h => by omega⟩
          refine cut_bound (m := 9007199254740992) ?_ hg
          refine Nat.le_trans (Nat.le_of_lt hpow) ?_
          rw [show (9007199254740992 : Nat) = 2 ^ 53 by decide, ← Nat.pow_add]
          exact Nat.pow_le_pow_right (by decide) (by omega)
      · have h := cut_le mag (last - base).toNat
        have hmin : min (last - base).toNat (mag.log2 + 2) = mag.log2 + 2 := by omega
        rw [hmin, Nat.shiftLeft_eq, Nat.one_mul] at h
        have hz : mag / 2 ^ (mag.log2 + 2) = 0 := by
          rw [Nat.div_eq_zero_iff]
          refine Or.inr (Nat.lt_of_lt_of_le hpow ?_)
          rw [hL]; exact Nat.pow_le_pow_right (by decide) (by omega)
        rw [hz] at h
        exact ⟨by omega, fun _ => by omega⟩
  generalize Ieee.Toward.even.cut false (mag <<< (base - last).toNat) (last - base).toNat = kept at key
  have hz : (last - (-1074)).toNat ≤ 2045 := by omega
  by_cases h9 : last = 971
  · have := key.2 h9
    have hz2 : (last - (-1074)).toNat * 4503599627370496 ≤ 2045 * 4503599627370496 := Nat.mul_le_mul_right _ hz
    omega
  · have := key.1
    have hz3 : (last - (-1074)).toNat ≤ 2044 := by omega
    have hz2 : (last - (-1074)).toNat * 4503599627370496 ≤ 2044 * 4503599627370496 := Nat.mul_le_mul_right _ hz3
    omega
theorem num_pos2 {x : Nat} (h : x < 9218868437227405312) : ∃ m p, FloatKind.f64.format.read x = .number false m p ∧ m < 9007199254740992 ∧ -1074 ≤ p ∧ p ≤ 971 := by
  rcases read_pos (Nat.le_of_lt h) with ⟨e, _⟩ | ⟨_, _, e, _⟩ | ⟨e, g⟩
  · exact ⟨_, _, e, by omega, by omega, by omega⟩
  · exact ⟨_, _, e, by omega, by omega, by omega⟩
  · omega
theorem sub_lt {x y : Nat} (hx : x < 9218868437227405312) (hy : y < 9218868437227405312) (h : FloatKind.f64.format.order x y ≠ some .lt) : Flo.cop .sub x y < 9218868437227405312 := by
  have hb := cop_sub hx hy h
  have e2 := hb.2
  rw [show floatBits .sub .f64 x y = ((FloatKind.f64.format.read x).sum (FloatKind.f64.format.read y).opposite).map FloatKind.f64.format.write from rfl] at e2
  obtain ⟨m, i, e, hm, hi0, hi⟩ := num_pos2 hx
  obtain ⟨n, j, g, hn, hj0, hj⟩ := num_pos2 hy
  have h' : Ieee.Datum.order (.number false m i) (.number false n j) ≠ some .lt := by rw [← e, ← g]; exact h
  rw [e, g] at e2
  have hs : 0 ≤ Ieee.signed false m (i - min i j).toNat + Ieee.signed (!false) n (j - min i j).toNat := by
    have e1 : Ieee.signed (!false) n (j - min i j).toNat = - Ieee.signed false n (j - min i j).toNat := rfl
    rw [e1]
    have h2 : compare (Ieee.signed false m (i - min i j).toNat) (Ieee.signed false n (j - min i j).toNat) ≠ .lt := fun hh => h' (congrArg some hh)
    have h3 : ¬ Ieee.signed false m (i - min i j).toNat < Ieee.signed false n (j - min i j).toNat := fun hh => h2 (cmp_lt hh)
    omega
  have e4 : some (FloatKind.f64.format.write (.number (if Ieee.signed false m (i - min i j).toNat + Ieee.signed (!false) n (j - min i j).toNat = 0 then (false && !false) else decide (Ieee.signed false m (i - min i j).toNat + Ieee.signed (!false) n (j - min i j).toNat < 0)) (Ieee.signed false m (i - min i j).toNat + Ieee.signed (!false) n (j - min i j).toNat).natAbs (min i j))) = some (Flo.cop .sub x y) := e2
  rw [sum_sign _ _ hs, write_num] at e4
  rw [← Option.some.inj e4]
  refine near_lt (m := m) (i := i) (by omega) (by omega) hm hi ?_
  have e5 : Ieee.signed (!false) n (j - min i j).toNat = -((n <<< (j - min i j).toNat : Nat) : Int) := rfl
  rw [e5, signed_pos, ← Nat.shiftLeft_eq]
  rw [e5, signed_pos] at hs
  generalize m <<< (i - min i j).toNat = A at hs ⊢
  generalize n <<< (j - min i j).toNat = B at hs ⊢
  omega
end Num
end Go.Proofs.Yteodljkcbddehaa
