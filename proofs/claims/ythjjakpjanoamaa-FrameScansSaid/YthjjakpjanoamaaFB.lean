/-
  The sum of bytes over the model's integers: its steps as the walk meets them; one byte changed makes another sum; a frame's bytes.
-/
import Derived.Test.YthjjakpjanoamaaFA
namespace Go.Proofs.Ythjjakpjanoamaa
namespace Num
set_option linter.unusedSimpArgs false
set_option linter.unusedVariables false
def crcI (X : List Int) : Int := ((crcN (X.map Int.toNat) : Nat) : Int)
theorem nat_bytes {X : List Int} (hX : ∀ x ∈ X, 0 ≤ x ∧ x < 256) : ∀ x ∈ X.map Int.toNat, x < 256 := by
  intro x hx
  obtain ⟨y, hy, rfl⟩ := List.mem_map.1 hx
  have := hX y hy
  omega
theorem crcI_rng {X : List Int} (hX : ∀ x ∈ X, 0 ≤ x ∧ x < 256) : 0 ≤ crcI X ∧ crcI X < 4294967296 := by
  have := crcN_lt (nat_bytes hX)
  unfold crcI
  omega
theorem crcI_set {X : List Int} (hX : ∀ x ∈ X, 0 ≤ x ∧ x < 256) (i : Nat) (hi : i < X.length) (y : Int) (h0 : 0 ≤ y) (h1 : y < 256) (hne : y ≠ X[i]) : crcI (X.set i y) ≠ crcI X := by
  intro h
  have hx := hX X[i] (List.getElem_mem hi)
  have e1 : (X.set i y).map Int.toNat = (X.take i).map Int.toNat ++ y.toNat :: (X.drop (i + 1)).map Int.toNat := by
    rw [List.set_eq_take_append_cons_drop, if_pos hi, List.map_append, List.map_cons]
  have e2 : X.map Int.toNat = (X.take i).map Int.toNat ++ X[i].toNat :: (X.drop (i + 1)).map Int.toNat := by
    rw [← List.map_cons, ← List.map_append, ← List.drop_eq_getElem_cons hi, List.take_append_drop]
  unfold crcI at h
  rw [e1, e2] at h
  exact crcN_turn _ _ y.toNat X[i].toNat (nat_bytes fun x hx => hX x (List.mem_of_mem_take hx)) (nat_bytes fun x hx => hX x (List.mem_of_mem_drop hx)) (by omega) (by omega) (by omega) (by exact_mod_cast h)
/-- A bit of a byte turned. -/
theorem turnI {x : Int} {k : Nat} (h0 : 0 ≤ x) (h1 : x < 256) (hk : k < 8) : ∃ y : Nat, y = x.toNat ^^^ 2 ^ k ∧ y < 256 ∧ (y : Int) ≠ x := by
  have h := turn_ne (x := x.toNat) (k := k) (by omega) hk
  refine ⟨_, rfl, h.2, fun e => h.1 ?_⟩
  omega
/-! ### the steps -/
theorem odd_yes {n : Nat} (hn : n < 4294967296) (h : n % 2 = 1) : (bits .and .u32 (n : Int) 1 == 1) = true := by
  rw [and1_nat hn, h]; rfl
theorem odd_no {n : Nat} (hn : n < 4294967296) (h : n % 2 ≠ 1) : (bits .and .u32 (n : Int) 1 == 1) = false := by
  rw [and1_nat hn, show n % 2 = 0 by omega]; rfl
theorem step_yes {n : Nat} (hn : n < 4294967296) (h : n % 2 = 1) : bits .xor .u32 ((n : Int) / 2) 3988292384 = ((bitN n : Nat) : Int) := by
  have e : ((n : Int) / 2) = ((n / 2 : Nat) : Int) := by omega
  rw [e, show (3988292384 : Int) = ((3988292384 : Nat) : Int) from rfl, x32_nat (by omega) (by decide)]
  unfold bitN
  rw [if_pos h]
theorem step_no {n : Nat} (h : n % 2 ≠ 1) : (n : Int) / 2 = ((bitN n : Nat) : Int) := by
  unfold bitN
  rw [if_neg h]
  omega
theorem byte_in {n b : Nat} (hn : n < 4294967296) (hb : b < 256) : bits .xor .u32 (n : Int) (b : Int) = ((n ^^^ b : Nat) : Int) := x32_nat hn (by omega)
theorem all_ones {n : Nat} (hn : n < 4294967296) : n ^^^ 4294967295 = 4294967295 - n := by
  have h : (BitVec.ofNat 32 n ^^^ BitVec.allOnes 32).toNat = (~~~ BitVec.ofNat 32 n).toNat := by rw [BitVec.xor_allOnes]
  rw [BitVec.toNat_xor, BitVec.toNat_not, BitVec.toNat_ofNat, BitVec.toNat_allOnes] at h
  have e : n % 2 ^ 32 = n := Nat.mod_eq_of_lt hn
  rw [e] at h
  exact h
theorem crcN_snoc (X : List Nat) (x c : Nat) : (X ++ [x]).foldl byteN c = byteN (X.foldl byteN c) x := by rw [List.foldl_append]; rfl
theorem byteN_eq (c b : Nat) : byteN c b = bitsN 8 (c ^^^ b) := rfl
theorem bitsN_succ (k c : Nat) : bitsN (k + 1) c = bitN (bitsN k c) := rfl
theorem crcN_eq (X : List Nat) (hX : ∀ x ∈ X, x < 256) : crcN X = 4294967295 - X.foldl byteN 4294967295 := all_ones (fold_lt X (by decide) hX)
end Num
end Go.Proofs.Ythjjakpjanoamaa
