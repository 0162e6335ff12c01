/-
  Queues of leaves of one size: push; like texts of noughts.
-/
import Derived.Test.YtodjnhhnjncgdaaEI
import Derived.Test.YtodjnhhnjncgdaaEN
import Derived.Test.YtodjnhhnjncgdaaVDeep
namespace Go.Proofs.Ytodjnhhnjncgdaa
open Go.RowKit
namespace Num
open Ints
set_option linter.unusedSimpArgs false
set_option linter.unusedVariables false
theorem uni_leaf {k : Int} {L : List (VT 1)} {V : VT 1} (h : Uni k (L ++ [V])) : checkM (measT 1 V) = 0 ∧ deepT 1 V 64 = false ∧ partsT 1 V ≤ 1000 ∧ Uni k L := by
  have hV := h.2.2 V (List.mem_append.2 (Or.inr List.mem_cons_self))
  refine ⟨?_, deep1 V 63, by rw [hV.2.1]; decide, h.1, h.2.1, fun x hx => h.2.2 x (List.mem_append.2 (Or.inl hx))⟩
  rw [hV.1]
  have e : decide (4096 < k) = false := by have := h.2.1; rw [decide_eq_false_iff_not]; omega
  show (if false = true then (31 : Int) else if (false || decide (8 < (0 : Int)) || decide (4096 < k)) = true then 22 else 0) = 0
  rw [e]; rfl
section
variable {k : Int} {L : List (VT 1)} {V : VT 1} {s : Value} {pl : Option Addr} {cl : Nat} {W : World}
theorem push_U (h : Uni k (L ++ [V])) (hl : L.length < 32) (hz : 2 + k * ((L.length : Int) + 1) ≤ 4096) (hz0 : 2 + k * (L.length : Int) ≤ 4096) (hs : Rep W 2 s (queueT 0 L)) (hr : RepL W (Rep W 1) pl 1 cl [V]) :
    Calls Try.prog 11 #[s, .string { data := #[112, 117, 115, 104] }, .slice pl 1 cl] W fun e w' => DoQ W 2 1 (queueT 0 (L ++ [V])) (numT 0 ((L.length : Int) + 1)) 0 e w' := by
  obtain ⟨h1, h2, h3, h4⟩ := uni_leaf h
  have hlen : (L ++ [V]).length = L.length + 1 := by rw [List.length_append]; rfl
  have hk := qdo_push (n := 0) (V := V) hs hr (uni_ok h4 (by omega) hz0) h1 ⟨h2, h3⟩ (by omega) (uni_ok h (by omega) (by rw [hlen]; push_cast; exact hz))
  rw [uni_clean h] at hk
  exact hk
theorem big_U (h : Uni k (L ++ [V])) (hl : L.length < 32) (hz : 4096 < 2 + k * ((L.length : Int) + 1)) (hz0 : 2 + k * (L.length : Int) ≤ 4096) (hs : Rep W 2 s (queueT 0 L)) (hr : RepL W (Rep W 1) pl 1 cl [V]) :
    Calls Try.prog 11 #[s, .string { data := #[112, 117, 115, 104] }, .slice pl 1 cl] W fun e w' => DoQ W 2 1 (nilT 1) (nilT 0) 33 e w' := by
  obtain ⟨h1, h2, h3, h4⟩ := uni_leaf h
  have hlen : (L ++ [V]).length = L.length + 1 := by rw [List.length_append]; rfl
  refine qdo_no (n := 0) (V := V) hs hr (uni_ok h4 (by omega) hz0) h1 ⟨h2, h3⟩ (by omega) ⟨?_, uni_light h (by omega)⟩
  rw [uni_check h (by omega), hlen, if_pos (by push_cast; exact hz)]
  decide
theorem full_U (h : Uni k (L ++ [V])) (hl : L.length = 32) (hz0 : 2 + k * (L.length : Int) ≤ 4096) (hs : Rep W 2 s (queueT 0 L)) (hr : RepL W (Rep W 1) pl 1 cl [V]) :
    Calls Try.prog 11 #[s, .string { data := #[112, 117, 115, 104] }, .slice pl 1 cl] W fun e w' => DoQ W 2 1 (nilT 1) (nilT 0) 33 e w' := by
  obtain ⟨h1, h2, h3, h4⟩ := uni_leaf h
  exact qdo_full (n := 0) (V := V) hs hr (uni_ok h4 (by omega) hz0) h1 ⟨h2, h3⟩ hl
end
theorem fold_size (k : Int) (h0 : 0 ≤ k) (h1 : k ≤ 300) : ∀ (L : List (VT 1)), (∀ x ∈ L, sizeT 1 x = k) → ∀ z : Int, 0 ≤ z → z + 300 * L.length ≤ 90000 → L.foldl (fun a x => wrap64 (a + sizeT 1 x)) z = z + k * L.length
  | [], _, z, _, _ => by simp
  | x :: r, h, z, g0, g1 => by
    rw [List.length_cons] at g1
    have e : wrap64 (z + k) = z + k := by unfold wrap64; omega
    rw [List.foldl_cons, h x List.mem_cons_self, e, fold_size k h0 h1 r (fun y hy => h y (List.mem_cons_of_mem _ hy)) _ (by omega) (by omega), List.length_cons, Int.natCast_succ, Int.mul_add, Int.mul_one]
    omega
theorem queue_size (k : Int) (h0 : 0 ≤ k) (h1 : k ≤ 300) (L : List (VT 1)) (h : ∀ x ∈ L, sizeT 1 x = k) (hl : L.length ≤ 64) : sizeT 2 (queueT 0 L) = 2 + k * L.length := by
  unfold queueT
  rw [sizeT_list rfl rfl rfl]
  exact fold_size k h0 h1 L h 2 (by decide) (by omega)
/-- So many like texts of noughts. -/
def txtT (N : Nat) : VT 1 := (3, 0, 0, nulS N, [])
def manyT (N k : Nat) : List (VT 1) := List.replicate k (txtT N)
theorem many_succ (N k : Nat) : manyT N k ++ [txtT N] = manyT N (k + 1) := List.replicate_succ'.symm
theorem many_len (N k : Nat) : (manyT N k).length = k := List.length_replicate
theorem many_uni {N : Nat} (h : N < 256) (k : Nat) : Uni (3 + (N : Int)) (manyT N k) := by
  refine ⟨by omega, by omega, fun x hx => ?_⟩
  obtain rfl : x = txtT N := List.eq_of_mem_replicate hx
  refine ⟨?_, partsT_else rfl, rfl⟩
  unfold txtT
  rw [measT_text rfl rfl rfl, nulS_size]
  have e1 : decide (256 < (N : Int)) = false := by rw [decide_eq_false_iff_not]; omega
  have e2 : wrap64 (3 + (N : Int)) = 3 + (N : Int) := by unfold wrap64; omega
  rw [e1, e2]
theorem txt_size {N : Nat} (h : N < 256) : sizeT 1 (txtT N) = 3 + (N : Int) := by
  unfold txtT
  rw [sizeT_text rfl rfl, nulS_size]
  unfold wrap64; omega
theorem many_size {N : Nat} (h : N < 256) {k : Nat} (hk : k ≤ 32) : sizeT 2 (queueT 0 (manyT N k)) = 2 + (3 + (N : Int)) * k := by
  rw [queue_size (3 + (N : Int)) (by omega) (by omega) _ (fun x hx => by obtain rfl : x = txtT N := List.eq_of_mem_replicate hx; exact txt_size h) (by rw [many_len]; omega), many_len]
theorem txt_rep (N : Nat) (hN : N < 256) (W : World) : Rep W 1 (.agg #[.int .i64 3, .int .i64 0, .float .f64 0, .string (nulS N), .slice none 0 0]) (txtT N) := leafR _ 0 3 0 0 (nulS N) (by decide) (by decide) (by decide) (by rw [nulS_size]; unfold maxLen; omega)
end Num
end Go.Proofs.Ytodjnhhnjncgdaa
