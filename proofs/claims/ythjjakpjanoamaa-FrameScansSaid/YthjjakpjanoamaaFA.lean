/-
  The sum of bytes (a shift, a fold by 0xedb88320): over naturals and over the model's integers: one byte changed makes another sum.
-/
import Derived.Lib.EndianBits
namespace Go.Proofs.Ythjjakpjanoamaa
namespace Num
set_option linter.unusedSimpArgs false
set_option linter.unusedVariables false
def bitN (c : Nat) : Nat := if c % 2 = 1 then (c / 2) ^^^ 3988292384 else c / 2
def bitsN : Nat → Nat → Nat
  | 0, c => c
  | k + 1, c => bitN (bitsN k c)
def byteN (c b : Nat) : Nat := bitsN 8 (c ^^^ b)
def crcN (X : List Nat) : Nat := X.foldl byteN 4294967295 ^^^ 4294967295
theorem xor_lt32 {a b : Nat} (ha : a < 4294967296) (hb : b < 4294967296) : a ^^^ b < 4294967296 := Nat.xor_lt_two_pow (n := 32) ha hb
theorem bitN_lt {c : Nat} (h : c < 4294967296) : bitN c < 4294967296 := by
  unfold bitN
  split
  · exact xor_lt32 (by omega) (by decide)
  · omega
theorem top_xor {d : Nat} (h : d < 2147483648) : (d ^^^ 3988292384).testBit 31 = true := by
  rw [Nat.testBit_xor, Nat.testBit_lt_two_pow (show d < 2 ^ 31 from h)]
  decide
theorem top_lt {d : Nat} (h : d < 2147483648) : d.testBit 31 = false := Nat.testBit_lt_two_pow (show d < 2 ^ 31 from h)
theorem xor_back {a b x : Nat} (h : a ^^^ x = b ^^^ x) : a = b := by
  have h2 : (a ^^^ x) ^^^ x = (b ^^^ x) ^^^ x := by rw [h]
  rwa [Nat.xor_assoc, Nat.xor_assoc, Nat.xor_self, Nat.xor_zero, Nat.xor_zero] at h2
theorem bitN_inj {c d : Nat} (hc : c < 4294967296) (hd : d < 4294967296) (h : bitN c = bitN d) : c = d := by
  unfold bitN at h
  have c2 : c / 2 < 2147483648 := by omega
  have d2 : d / 2 < 2147483648 := by omega
  by_cases h1 : c % 2 = 1 <;> by_cases h2 : d % 2 = 1
  · rw [if_pos h1, if_pos h2] at h
    have := xor_back h
    omega
  · rw [if_pos h1, if_neg h2] at h
    have t := top_xor c2
    rw [h, top_lt d2] at t
    cases t
  · rw [if_neg h1, if_pos h2] at h
    have t := top_xor d2
    rw [← h, top_lt c2] at t
    cases t
  · rw [if_neg h1, if_neg h2] at h
    omega
theorem bitsN_lt : ∀ (k : Nat) {c : Nat}, c < 4294967296 → bitsN k c < 4294967296
  | 0, _, h => h
  | k + 1, _, h => bitN_lt (bitsN_lt k h)
theorem bitsN_inj : ∀ (k : Nat) {c d : Nat}, c < 4294967296 → d < 4294967296 → bitsN k c = bitsN k d → c = d
  | 0, _, _, _, _, h => h
  | k + 1, _, _, hc, hd, h => bitsN_inj k hc hd (bitN_inj (bitsN_lt k hc) (bitsN_lt k hd) h)
theorem byteN_lt {c b : Nat} (hc : c < 4294967296) (hb : b < 256) : byteN c b < 4294967296 := bitsN_lt 8 (xor_lt32 hc (by omega))
theorem byteN_inj {c d b : Nat} (hc : c < 4294967296) (hd : d < 4294967296) (hb : b < 256) (h : byteN c b = byteN d b) : c = d :=
  xor_back (bitsN_inj 8 (xor_lt32 hc (by omega)) (xor_lt32 hd (by omega)) h)
theorem byteN_byte {c b x : Nat} (hc : c < 4294967296) (hb : b < 256) (hx : x < 256) (h : byteN c b = byteN c x) : b = x := by
  have h2 := bitsN_inj 8 (xor_lt32 hc (by omega)) (xor_lt32 hc (by omega)) h
  rw [Nat.xor_comm c b, Nat.xor_comm c x] at h2
  exact xor_back h2
theorem fold_lt : ∀ (X : List Nat) {c : Nat}, c < 4294967296 → (∀ x ∈ X, x < 256) → X.foldl byteN c < 4294967296
  | [], _, h, _ => h
  | x :: X, _, h, hX => fold_lt X (byteN_lt h (hX x (List.mem_cons_self ..))) (fun y hy => hX y (List.mem_cons_of_mem _ hy))
theorem fold_inj : ∀ (X : List Nat) {c d : Nat}, c < 4294967296 → d < 4294967296 → (∀ x ∈ X, x < 256) → X.foldl byteN c = X.foldl byteN d → c = d
  | [], _, _, _, _, _, h => h
  | x :: X, _, _, hc, hd, hX, h => by
    have hx := hX x (List.mem_cons_self ..)
    exact byteN_inj hc hd hx (fold_inj X (byteN_lt hc hx) (byteN_lt hd hx) (fun y hy => hX y (List.mem_cons_of_mem _ hy)) h)
/-- One byte changed: another sum. -/
theorem crcN_turn (A B : List Nat) (x y : Nat) (hA : ∀ z ∈ A, z < 256) (hB : ∀ z ∈ B, z < 256) (hx : x < 256) (hy : y < 256) (hne : x ≠ y) : crcN (A ++ x :: B) ≠ crcN (A ++ y :: B) := by
  intro h
  unfold crcN at h
  have h2 := xor_back h
  rw [List.foldl_append, List.foldl_append, List.foldl_cons, List.foldl_cons] at h2
  have hc := fold_lt A (c := 4294967295) (by decide) hA
  exact hne (byteN_byte hc hx hy (fold_inj B (byteN_lt hc hx) (byteN_lt hc hy) hB h2))
theorem crcN_lt {X : List Nat} (hX : ∀ x ∈ X, x < 256) : crcN X < 4294967296 := xor_lt32 (fold_lt X (by decide) hX) (by decide)
/-- A byte with one bit turned is another byte. -/
theorem turn_ne {x k : Nat} (hx : x < 256) (hk : k < 8) : x ^^^ 2 ^ k ≠ x ∧ x ^^^ 2 ^ k < 256 := by
  refine ⟨fun h => ?_, Nat.xor_lt_two_pow (n := 8) hx (Nat.pow_lt_pow_right (by decide) hk)⟩
  have h2 : x ^^^ 2 ^ k = x ^^^ 0 := by rw [Nat.xor_zero]; exact h
  rw [Nat.xor_comm x, Nat.xor_comm x] at h2
  have h3 := xor_back h2
  have := Nat.two_pow_pos k
  omega
/-! ### the model's integers -/
theorem x32_nat {a b : Nat} (ha : a < 4294967296) (hb : b < 4294967296) : bits .xor .u32 (a : Int) (b : Int) = ((a ^^^ b : Nat) : Int) := by
  have h : (BitVec.ofInt 32 (a : Int) ^^^ BitVec.ofInt 32 (b : Int)).toNat = a ^^^ b := by
    rw [BitVec.toNat_xor, BitVec.toNat_ofInt, BitVec.toNat_ofInt]
    have e1 : ((a : Int) % ((2 ^ 32 : Nat) : Int)).toNat = a := by omega
    have e2 : ((b : Int) % ((2 ^ 32 : Nat) : Int)).toNat = b := by omega
    rw [e1, e2]
  show IntKind.u32.wrap (((BitVec.ofInt 32 (a : Int) ^^^ BitVec.ofInt 32 (b : Int)).toNat : Nat) : Int) = _
  rw [h]
  exact wraps_u32 _ (by omega) (by have := xor_lt32 ha hb; omega)
theorem and1_nat {a : Nat} (ha : a < 4294967296) : bits .and .u32 (a : Int) 1 = ((a % 2 : Nat) : Int) := by
  have h := bits_mask .u32 32 (by decide) wraps_u32 1 (by decide) (a : Int) (by omega) (by omega)
  have e1 : ((2 : Int) ^ 1 - 1) = 1 := by decide
  have e2 : ((2 : Int) ^ 1) = 2 := by decide
  rw [e1, e2] at h
  rw [h]
  omega
end Num
end Go.Proofs.Ythjjakpjanoamaa
