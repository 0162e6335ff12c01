/-
  What a Do tells; what args.Check lets through; leaves and pairs of leaves.
-/
import Derived.Test.YtpbfaffheigjcaaHI
import Derived.Test.YtpbfaffheigjcaaKV
namespace Go.Proofs.Ytpbfaffheigjcaa
open Go.RowKit
namespace Num
open Ints
set_option linter.unusedSimpArgs false
set_option linter.unusedVariables false
/-- What Do tells: two values in new blocks, an error. -/
def DoP (w : World) (n : Nat) (T V : VT n) (z : Int) (e : Ending) (w' : World) : Prop := ∃ t v, e = .returned (.tuple #[t, v, .int .i64 z]) ∧ Below w.heap.size w w' ∧ RepS (fun b => w.heap.size ≤ b) w' n t T ∧ RepS (fun b => w.heap.size ≤ b) w' n v V
theorem ba_of_beq {a b : ByteArray} (h : (a == b) = true) : a = b := by
  cases a
  cases b
  exact congrArg ByteArray.mk (eq_of_beq h)
theorem chkL_all {n : Nat} : ∀ (L : List (VT (n + 1))), chkL n L = 0 → ∀ T ∈ L, checkM (measT (n + 1) T) = 0
  | [], _, T, h => absurd h List.not_mem_nil
  | x :: r, h, T, hT => by
    unfold chkL at h
    split at h
    · rename_i h0
      rcases List.mem_cons.1 hT with rfl | h1
      · exact h0
      · exact chkL_all r h T h1
    · rename_i h0
      exact absurd h h0
theorem chkL_vals {n : Nat} : ∀ (L : List (VT (n + 1))), chkL n L = 0 ∨ chkL n L = 22 ∨ chkL n L = 31
  | [] => Or.inl rfl
  | x :: r => by
    unfold chkL
    split
    · exact chkL_vals r
    · exact checkM_vals _
theorem chkA_vals (c m : ByteArray) (n : Nat) (L : List (VT (n + 1))) : chkA c m n L = 0 ∨ chkA c m n L = 22 ∨ chkA c m n L = 31 := by
  unfold chkA
  split
  · exact Or.inr (Or.inr rfl)
  · split
    · split
      · split
        · exact Or.inl rfl
        · exact Or.inr (Or.inr rfl)
      · exact chkL_vals L
    · exact Or.inr (Or.inr rfl)
theorem walk_check {q : Me} (h : checkM q = 0) : walkM q = true := by
  unfold checkM at h
  unfold walkM
  split at h
  · cases h
  · split at h
    · cases h
    · rename_i h1
      rw [Bool.or_eq_true, Bool.or_eq_true, not_or, not_or, decide_eq_true_iff, decide_eq_true_iff] at h1
      rw [Bool.and_eq_true, decide_eq_true_iff, decide_eq_true_iff]
      omega
theorem len0 {α : Type} {L : List α} (h : L.length = 0) : L = [] := List.eq_nil_of_length_eq_zero h
theorem len1 {α : Type} {L : List α} (h : L.length = 1) : ∃ a, L = [a] := by
  match L, h with
  | [a], _ => exact ⟨a, rfl⟩
theorem len2 {α : Type} {L : List α} (h : L.length = 2) : ∃ a b, L = [a, b] := by
  match L, h with
  | [a, b], _ => exact ⟨a, b, rfl⟩
def nilT (n : Nat) : VT (n + 1) := (0, 0, 0, ⟨#[]⟩, [])
def numT (n : Nat) (k : Int) : VT (n + 1) := (1, k, 0, ⟨#[]⟩, [])
theorem nil_rep (n : Nat) (S : Nat → Prop) (w : World) : RepS S w (n + 1) (.agg #[.int .i64 0, .int .i64 0, .float .f64 0, .string ⟨#[]⟩, .slice none 0 0]) (nilT n) := leafC S w n 0 0 0 ⟨#[]⟩ (by decide) (by decide) (by decide) (by decide)
theorem leafR (w : World) (n : Nat) (K I : Int) (F : Nat) (Z : ByteArray) (hK : okI K) (hI : okI I) (hF : F < 2 ^ 64) (hZ : Z.size ≤ maxLen) : Rep w (n + 1) (.agg #[.int .i64 K, .int .i64 I, .float .f64 F, .string Z, .slice none 0 0]) (K, I, F, Z, []) :=
  repS_rep (n + 1) _ _ (leafC (fun _ => True) w n K I F Z hK hI hF hZ)
theorem pair_lit (w : World) (n : Nat) (K I : Int) (F : Nat) (Z : ByteArray) (hK : okI K) (hI : okI I) (hF : F < 2 ^ 64) (hZ : Z.size ≤ maxLen) (K2 I2 : Int) (F2 : Nat) (Z2 : ByteArray) (hK2 : okI K2) (hI2 : okI I2) (hF2 : F2 < 2 ^ 64) (hZ2 : Z2.size ≤ maxLen) (t : TypeId) :
    RepL (w.alloc (.cells #[.int .i64 K, .int .i64 I, .float .f64 F, .string Z, .slice none 0 0, .int .i64 K2, .int .i64 I2, .float .f64 F2, .string Z2, .slice none 0 0] t)) (Rep (w.alloc (.cells #[.int .i64 K, .int .i64 I, .float .f64 F, .string Z, .slice none 0 0, .int .i64 K2, .int .i64 I2, .float .f64 F2, .string Z2, .slice none 0 0] t)) (n + 1)) (some ⟨w.heap.size, 0, none⟩) 2 2 [(K, I, F, Z, []), (K2, I2, F2, Z2, [])] := by
  refine ⟨rfl, Nat.le_refl _, by unfold maxLen; omega, fun _ => ⟨w.heap.size, 0, rfl, fun i hi => ?_⟩⟩
  have hr := row_alloc w #[.int .i64 K, .int .i64 I, .float .f64 F, .string Z, .slice none 0 0, .int .i64 K2, .int .i64 I2, .float .f64 F2, .string Z2, .slice none 0 0] t
  have hi' : i = 0 ∨ i = 1 := by simp at hi; omega
  rcases hi' with rfl | rfl
  · exact ⟨_, _, _, _, _, row_cell hr 0, row_cell hr 1, row_cell hr 2, row_cell hr 3, row_cell hr 4, leafR _ n K I F Z hK hI hF hZ⟩
  · exact ⟨_, _, _, _, _, row_cell hr 5, row_cell hr 6, row_cell hr 7, row_cell hr 8, row_cell hr 9, leafR _ n K2 I2 F2 Z2 hK2 hI2 hF2 hZ2⟩
def floT (n : Nat) (x : Nat) : VT (n + 1) := (2, 0, x, ⟨#[]⟩, [])
theorem num_shape {n : Nat} {w : World} {S : Nat → Prop} {v : Value} {K I : Int} {F : Nat} {Z : ByteArray} (h : RepS S w (n + 1) v (K, I, F, Z, [])) : ∃ p c, v = .agg #[.int .i64 K, .int .i64 I, .float .f64 F, .string Z, .slice p 0 c] := by
  obtain ⟨p, l, c, rfl, _, _, _, _, hl, _⟩ := h
  obtain rfl : 0 = l := hl
  exact ⟨p, c, rfl⟩
theorem good_pair {K I : Int} {F : Nat} {Z : ByteArray} {K2 I2 : Int} {F2 : Nat} {Z2 : ByteArray} (h1 : deepT 1 (K, I, F, Z, []) 64 = false) (h2 : partsT 1 (K, I, F, Z, []) ≤ 1000) (h3 : deepT 1 (K2, I2, F2, Z2, []) 64 = false) (h4 : partsT 1 (K2, I2, F2, Z2, []) ≤ 1000) : GoodL 0 [(K, I, F, Z, []), (K2, I2, F2, Z2, [])] := by
  intro T hT
  rcases List.mem_cons.1 hT with rfl | hT
  · exact ⟨h1, h2⟩
  · rcases List.mem_cons.1 hT with rfl | hT
    · exact ⟨h3, h4⟩
    · exact absurd hT List.not_mem_nil
end Num
end Go.Proofs.Ytpbfaffheigjcaa
