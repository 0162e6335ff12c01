/-
  What package value measures of a value: strays, lengths, depth, size: plain functions on trees; (measure).with.
-/
import Derived.Test.YtbfnghbfilahnaaVDeep
namespace Go.Proofs.Ytbfnghbfilahnaa
open Go.RowKit
namespace Num
open Ints
set_option linter.unusedSimpArgs false
set_option linter.unusedVariables false
/-- A measure: a part of no kind; too long; depth; size. -/
abbrev Me := Bool × Bool × Int × Int
def meV (m : Me) : Value := .agg #[.bool m.1, .bool m.2.1, .int .i64 m.2.2.1, .int .i64 m.2.2.2]
def withM (m i : Me) : Me := (m.1 || i.1, m.2.1 || i.2.1, if m.2.2.1 < wrap64 (i.2.2.1 + 1) then wrap64 (i.2.2.1 + 1) else m.2.2.1, if wrap64 (9223372036854775807 - i.2.2.2) < m.2.2.2 then 9223372036854775807 else wrap64 (m.2.2.2 + i.2.2.2))
set_option maxHeartbeats 4000000 in
theorem with_any (s1 l1 : Bool) (d1 z1 : Int) (s2 l2 : Bool) (d2 z2 : Int) (w : World) : Calls Try.prog 84 #[.agg #[.bool s1, .bool l1, .int .i64 d1, .int .i64 z1], .agg #[.bool s2, .bool l2, .int .i64 d2, .int .i64 z2]] w fun e w' => e = .returned (meV (withM (s1, l1, d1, z1) (s2, l2, d2, z2))) ∧ Below w.heap.size w w' := by
  by_cases hz : wrap64 (9223372036854775807 - z2) < z1
  · by_cases hd : d1 < wrap64 (d2 + 1)
    · cases s1 <;> cases l1
      · have H := Lib.hid (show Ending.returned (.agg #[.bool s2, .bool l2, .int .i64 (wrap64 (d2 + 1)), .int .i64 9223372036854775807]) = .returned (meV (withM (false, false, d1, z1) (s2, l2, d2, z2))) by simp [meV, withM, hd, hz])
        go_enter Try.func84, Try.ntmps84
        go_wp2
        exact bodyPost_ret (v := .agg #[.bool s2, .bool l2, .int .i64 (wrap64 (d2 + 1)), .int .i64 9223372036854775807]) (by simp [results, Try.results84, go_sem]) rfl ⟨H.out, below3 _ _ _ _⟩
      · have H := Lib.hid (show Ending.returned (.agg #[.bool s2, .bool true, .int .i64 (wrap64 (d2 + 1)), .int .i64 9223372036854775807]) = .returned (meV (withM (false, true, d1, z1) (s2, l2, d2, z2))) by simp [meV, withM, hd, hz])
        go_enter Try.func84, Try.ntmps84
        go_wp2
        exact bodyPost_ret (v := .agg #[.bool s2, .bool true, .int .i64 (wrap64 (d2 + 1)), .int .i64 9223372036854775807]) (by simp [results, Try.results84, go_sem]) rfl ⟨H.out, below3 _ _ _ _⟩
      · have H := Lib.hid (show Ending.returned (.agg #[.bool true, .bool l2, .int .i64 (wrap64 (d2 + 1)), .int .i64 9223372036854775807]) = .returned (meV (withM (true, false, d1, z1) (s2, l2, d2, z2))) by simp [meV, withM, hd, hz])
        go_enter Try.func84, Try.ntmps84
        go_wp2
        exact bodyPost_ret (v := .agg #[.bool true, .bool l2, .int .i64 (wrap64 (d2 + 1)), .int .i64 9223372036854775807]) (by simp [results, Try.results84, go_sem]) rfl ⟨H.out, below3 _ _ _ _⟩
      · have H := Lib.hid (show Ending.returned (.agg #[.bool true, .bool true, .int .i64 (wrap64 (d2 + 1)), .int .i64 9223372036854775807]) = .returned (meV (withM (true, true, d1, z1) (s2, l2, d2, z2))) by simp [meV, withM, hd, hz])
        go_enter Try.func84, Try.ntmps84
        go_wp2
        exact bodyPost_ret (v := .agg #[.bool true, .bool true, .int .i64 (wrap64 (d2 + 1)), .int .i64 9223372036854775807]) (by simp [results, Try.results84, go_sem]) rfl ⟨H.out, below3 _ _ _ _⟩
    · cases s1 <;> cases l1
      · have H := Lib.hid (show Ending.returned (.agg #[.bool s2, .bool l2, .int .i64 d1, .int .i64 9223372036854775807]) = .returned (meV (withM (false, false, d1, z1) (s2, l2, d2, z2))) by simp [meV, withM, hd, hz])
        go_enter Try.func84, Try.ntmps84
        go_wp2
        exact bodyPost_ret (v := .agg #[.bool s2, .bool l2, .int .i64 d1, .int .i64 9223372036854775807]) (by simp [results, Try.results84, go_sem]) rfl ⟨H.out, below3 _ _ _ _⟩
      · have H := Lib.hid (show Ending.returned (.agg #[.bool s2, .bool true, .int .i64 d1, .int .i64 9223372036854775807]) = .returned (meV (withM (false, true, d1, z1) (s2, l2, d2, z2))) by simp [meV, withM, hd, hz])
        go_enter Try.func84, Try.ntmps84
        go_wp2
        exact bodyPost_ret (v := .agg #[.bool s2, .bool true, .int .i64 d1, .int .i64 9223372036854775807]) (by simp [results, Try.results84, go_sem]) rfl ⟨H.out, below3 _ _ _ _⟩
      · have H := Lib.hid (show Ending.returned (.agg #[.bool true, .bool l2, .int .i64 d1, .int .i64 9223372036854775807]) = .returned (meV (withM (true, false, d1, z1) (s2, l2, d2, z2))) by simp [meV, withM, hd, hz])
        go_enter Try.func84, Try.ntmps84
        go_wp2
        exact bodyPost_ret (v := .agg #[.bool true, .bool l2, .int .i64 d1, .int .i64 9223372036854775807]) (by simp [results, Try.results84, go_sem]) rfl ⟨H.out, below3 _ _ _ _⟩
      · have H := Lib.hid (show Ending.returned (.agg #[.bool true, .bool true, .int .i64 d1, .int .i64 9223372036854775807]) = .returned (meV (withM (true, true, d1, z1) (s2, l2, d2, z2))) by simp [meV, withM, hd, hz])
        go_enter Try.func84, Try.ntmps84
        go_wp2
        exact bodyPost_ret (v := .agg #[.bool true, .bool true, .int .i64 d1, .int .i64 9223372036854775807]) (by simp [results, Try.results84, go_sem]) rfl ⟨H.out, below3 _ _ _ _⟩
  · by_cases hd : d1 < wrap64 (d2 + 1)
    · cases s1 <;> cases l1
      · have H := Lib.hid (show Ending.returned (.agg #[.bool s2, .bool l2, .int .i64 (wrap64 (d2 + 1)), .int .i64 (wrap64 (z1 + z2))]) = .returned (meV (withM (false, false, d1, z1) (s2, l2, d2, z2))) by simp [meV, withM, hd, hz])
        go_enter Try.func84, Try.ntmps84
        go_wp2
        exact bodyPost_ret (v := .agg #[.bool s2, .bool l2, .int .i64 (wrap64 (d2 + 1)), .int .i64 (wrap64 (z1 + z2))]) (by simp [results, Try.results84, go_sem]) rfl ⟨H.out, below3 _ _ _ _⟩
      · have H := Lib.hid (show Ending.returned (.agg #[.bool s2, .bool true, .int .i64 (wrap64 (d2 + 1)), .int .i64 (wrap64 (z1 + z2))]) = .returned (meV (withM (false, true, d1, z1) (s2, l2, d2, z2))) by simp [meV, withM, hd, hz])
        go_enter Try.func84, Try.ntmps84
        go_wp2
        exact bodyPost_ret (v := .agg #[.bool s2, .bool true, .int .i64 (wrap64 (d2 + 1)), .int .i64 (wrap64 (z1 + z2))]) (by simp [results, Try.results84, go_sem]) rfl ⟨H.out, below3 _ _ _ _⟩
      · have H := Lib.hid (show Ending.returned (.agg #[.bool true, .bool l2, .int .i64 (wrap64 (d2 + 1)), .int .i64 (wrap64 (z1 + z2))]) = .returned (meV (withM (true, false, d1, z1) (s2, l2, d2, z2))) by simp [meV, withM, hd, hz])
        go_enter Try.func84, Try.ntmps84
        go_wp2
        exact bodyPost_ret (v := .agg #[.bool true, .bool l2, .int .i64 (wrap64 (d2 + 1)), .int .i64 (wrap64 (z1 + z2))]) (by simp [results, Try.results84, go_sem]) rfl ⟨H.out, below3 _ _ _ _⟩
      · have H := Lib.hid (show Ending.returned (.agg #[.bool true, .bool true, .int .i64 (wrap64 (d2 + 1)), .int .i64 (wrap64 (z1 + z2))]) = .returned (meV (withM (true, true, d1, z1) (s2, l2, d2, z2))) by simp [meV, withM, hd, hz])
        go_enter Try.func84, Try.ntmps84
        go_wp2
        exact bodyPost_ret (v := .agg #[.bool true, .bool true, .int .i64 (wrap64 (d2 + 1)), .int .i64 (wrap64 (z1 + z2))]) (by simp [results, Try.results84, go_sem]) rfl ⟨H.out, below3 _ _ _ _⟩
    · cases s1 <;> cases l1
      · have H := Lib.hid (show Ending.returned (.agg #[.bool s2, .bool l2, .int .i64 d1, .int .i64 (wrap64 (z1 + z2))]) = .returned (meV (withM (false, false, d1, z1) (s2, l2, d2, z2))) by simp [meV, withM, hd, hz])
        go_enter Try.func84, Try.ntmps84
        go_wp2
        exact bodyPost_ret (v := .agg #[.bool s2, .bool l2, .int .i64 d1, .int .i64 (wrap64 (z1 + z2))]) (by simp [results, Try.results84, go_sem]) rfl ⟨H.out, below3 _ _ _ _⟩
      · have H := Lib.hid (show Ending.returned (.agg #[.bool s2, .bool true, .int .i64 d1, .int .i64 (wrap64 (z1 + z2))]) = .returned (meV (withM (false, true, d1, z1) (s2, l2, d2, z2))) by simp [meV, withM, hd, hz])
        go_enter Try.func84, Try.ntmps84
        go_wp2
        exact bodyPost_ret (v := .agg #[.bool s2, .bool true, .int .i64 d1, .int .i64 (wrap64 (z1 + z2))]) (by simp [results, Try.results84, go_sem]) rfl ⟨H.out, below3 _ _ _ _⟩
      · have H := Lib.hid (show Ending.returned (.agg #[.bool true, .bool l2, .int .i64 d1, .int .i64 (wrap64 (z1 + z2))]) = .returned (meV (withM (true, false, d1, z1) (s2, l2, d2, z2))) by simp [meV, withM, hd, hz])
        go_enter Try.func84, Try.ntmps84
        go_wp2
        exact bodyPost_ret (v := .agg #[.bool true, .bool l2, .int .i64 d1, .int .i64 (wrap64 (z1 + z2))]) (by simp [results, Try.results84, go_sem]) rfl ⟨H.out, below3 _ _ _ _⟩
      · have H := Lib.hid (show Ending.returned (.agg #[.bool true, .bool true, .int .i64 d1, .int .i64 (wrap64 (z1 + z2))]) = .returned (meV (withM (true, true, d1, z1) (s2, l2, d2, z2))) by simp [meV, withM, hd, hz])
        go_enter Try.func84, Try.ntmps84
        go_wp2
        exact bodyPost_ret (v := .agg #[.bool true, .bool true, .int .i64 d1, .int .i64 (wrap64 (z1 + z2))]) (by simp [results, Try.results84, go_sem]) rfl ⟨H.out, below3 _ _ _ _⟩
/-- A value's measure. -/
def measT : (n : Nat) → VT n → Me
  | 0, _ => (false, false, 0, 0)
  | n + 1, T => if (T.1 == 0) = true then (false, false, 0, 1) else if (T.1 == 1 || T.1 == 2) = true then (false, false, 0, 9)
      else if (T.1 == 3) = true then (false, decide (256 < (T.2.2.2.1.size : Int)), 0, wrap64 (3 + (T.2.2.2.1.size : Int)))
      else if (T.1 == 4) = true then T.2.2.2.2.foldl (fun a x => withM a (measT n x)) (false, decide (64 < (T.2.2.2.2.length : Int)), 1, 2) else (true, false, 0, 1)
/-- How many parts a value has. -/
def partsT : (n : Nat) → VT n → Nat
  | 0, _ => 1
  | n + 1, T => if (T.1 == 4) = true then T.2.2.2.2.foldl (fun a x => a + partsT n x) 1 else 1
theorem measT_nil {n : Nat} {K I : Int} {F : Nat} {S : ByteArray} {L : List (VT n)} (h : (K == 0) = true) : measT (n + 1) (K, I, F, S, L) = (false, false, 0, 1) := by
  show (if (K == 0) = true then _ else _) = _
  rw [if_pos h]
theorem measT_num {n : Nat} {K I : Int} {F : Nat} {S : ByteArray} {L : List (VT n)} (h0 : (K == 0) = false) (h : (K == 1 || K == 2) = true) : measT (n + 1) (K, I, F, S, L) = (false, false, 0, 9) := by
  show (if (K == 0) = true then _ else if (K == 1 || K == 2) = true then _ else _) = _
  rw [if_neg (by rw [h0]; simp), if_pos h]
theorem measT_text {n : Nat} {K I : Int} {F : Nat} {S : ByteArray} {L : List (VT n)} (h0 : (K == 0) = false) (h : (K == 1 || K == 2) = false) (h3 : (K == 3) = true) : measT (n + 1) (K, I, F, S, L) = (false, decide (256 < (S.size : Int)), 0, wrap64 (3 + (S.size : Int))) := by
  show (if (K == 0) = true then _ else if (K == 1 || K == 2) = true then _ else if (K == 3) = true then _ else _) = _
  rw [if_neg (by rw [h0]; simp), if_neg (by rw [h]; simp), if_pos h3]
theorem measT_list {n : Nat} {K I : Int} {F : Nat} {S : ByteArray} {L : List (VT n)} (h0 : (K == 0) = false) (h : (K == 1 || K == 2) = false) (h3 : (K == 3) = false) (h4 : (K == 4) = true) : measT (n + 1) (K, I, F, S, L) = L.foldl (fun a x => withM a (measT n x)) (false, decide (64 < (L.length : Int)), 1, 2) := by
  show (if (K == 0) = true then _ else if (K == 1 || K == 2) = true then _ else if (K == 3) = true then _ else if (K == 4) = true then _ else _) = _
  rw [if_neg (by rw [h0]; simp), if_neg (by rw [h]; simp), if_neg (by rw [h3]; simp), if_pos h4]
theorem measT_else {n : Nat} {K I : Int} {F : Nat} {S : ByteArray} {L : List (VT n)} (h0 : (K == 0) = false) (h : (K == 1 || K == 2) = false) (h3 : (K == 3) = false) (h4 : (K == 4) = false) : measT (n + 1) (K, I, F, S, L) = (true, false, 0, 1) := by
  show (if (K == 0) = true then _ else if (K == 1 || K == 2) = true then _ else if (K == 3) = true then _ else if (K == 4) = true then _ else _) = _
  rw [if_neg (by rw [h0]; simp), if_neg (by rw [h]; simp), if_neg (by rw [h3]; simp), if_neg (by rw [h4]; simp)]
theorem partsT_list {n : Nat} {K I : Int} {F : Nat} {S : ByteArray} {L : List (VT n)} (h4 : (K == 4) = true) : partsT (n + 1) (K, I, F, S, L) = L.foldl (fun a x => a + partsT n x) 1 := by
  show (if (K == 4) = true then _ else _) = _
  rw [if_pos h4]
theorem partsT_else {n : Nat} {K I : Int} {F : Nat} {S : ByteArray} {L : List (VT n)} (h4 : (K == 4) = false) : partsT (n + 1) (K, I, F, S, L) = 1 := by
  show (if (K == 4) = true then _ else _) = _
  rw [if_neg (by rw [h4]; simp)]
theorem foldl_parts {n : Nat} (L : List (VT n)) : ∀ a : Nat, a ≤ L.foldl (fun a x => a + partsT n x) a := by
  induction L with
  | nil => intro a; exact Nat.le_refl _
  | cons x xs ih => intro a; rw [List.foldl_cons]; exact Nat.le_trans (Nat.le_add_right _ _) (ih _)
theorem parts_prefix {n : Nat} (L : List (VT n)) (k : Nat) (hk : k < L.length) (a : Nat) : (L.take k).foldl (fun a x => a + partsT n x) a + partsT n L[k] ≤ L.foldl (fun a x => a + partsT n x) a := by
  conv => rhs; rw [← List.take_append_drop k L, List.foldl_append, List.drop_eq_getElem_cons hk, List.foldl_cons]
  exact foldl_parts _ _
end Num
end Go.Proofs.Ytbfnghbfilahnaa
