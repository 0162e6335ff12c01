/-
  WireDeep: lists in lists, lists of nils: what is read of them; an append of noughts.
-/
import Derived.Test.YtahcgdjcjapnkaaWN
import Derived.Lib.AppendZerosOnto
import Derived.Lib.AppendZeros
namespace Go.Proofs.Ytahcgdjcjapnkaa
open Go.RowKit
namespace Num
open Ints
set_option linter.unusedSimpArgs false
set_option linter.unusedVariables false
/-- k lists in one another, so far. -/
def nestP : Nat → List Int
  | 0 => []
  | k + 1 => nestP k ++ [4, 1]
theorem nestP_len : ∀ k, (nestP k).length = 2 * k
  | 0 => rfl
  | k + 1 => by rw [nestP, List.length_append, nestP_len k]; rfl
theorem nestP_cons : ∀ k, nestP (k + 1) = 4 :: 1 :: nestP k
  | 0 => rfl
  | k + 1 => by
    show nestP (k + 1) ++ [4, 1] = 4 :: 1 :: (nestP k ++ [4, 1])
    rw [nestP_cons k]
    rfl
def nestT : (n : Nat) → Nat → VT n
  | 0, _ => ()
  | n + 1, 0 => (0, 0, 0, ⟨#[]⟩, [])
  | n + 1, k + 1 => (4, 0, 0, ⟨#[]⟩, [nestT n k])
theorem dec_nest : ∀ (k n : Nat), k < n → decV n (nestP k ++ [0]) = some (nestT n k, 2 * k + 1) := by
  intro k
  induction k with
  | zero =>
    intro n h
    obtain ⟨n, rfl⟩ : ∃ m, n = m + 1 := ⟨n - 1, by omega⟩
    show decV (n + 1) (0 :: []) = _
    rw [decV, if_pos (by decide)]
    rfl
  | succ k ih =>
    intro n h
    obtain ⟨n, rfl⟩ : ∃ m, n = m + 1 := ⟨n - 1, by omega⟩
    rw [nestP_cons, List.cons_append, List.cons_append, decV, if_neg (by decide), if_neg (by decide), if_neg (by decide), if_neg (by decide), if_pos (by decide)]
    have h1 := ih n (by omega)
    have h2 : decL (decV n) 1 (nestP k ++ [0]) = some ([nestT n k], 0 + (2 * k + 1)) := by
      rw [decL, decL]
      simp only [List.drop_zero, h1, List.nil_append]
    have h3 : decR (decV n) (1 :: (nestP k ++ [0])) = some ([nestT n k], 1 + (0 + (2 * k + 1))) := by
      rw [decR]
      simp only [show (1 : Int).toNat = 1 from rfl, h2]
    simp only [h3]
    rw [nestT, show 1 + (1 + (0 + (2 * k + 1))) = 2 * (k + 1) + 1 by omega]
theorem meas_nest : ∀ (k n : Nat), k < n → k ≤ 20 → measT n (nestT n k) = (false, false, (k : Int), 2 * (k : Int) + 1) := by
  intro k
  induction k with
  | zero =>
    intro n h _
    obtain ⟨n, rfl⟩ : ∃ m, n = m + 1 := ⟨n - 1, by omega⟩
    rw [nestT, measT_nil (by decide)]
    rfl
  | succ k ih =>
    intro n h hk
    obtain ⟨n, rfl⟩ : ∃ m, n = m + 1 := ⟨n - 1, by omega⟩
    rw [nestT, measT_list (by decide) (by decide) (by decide) (by decide), List.foldl_cons, List.foldl_nil, ih n (by omega) (by omega)]
    have e1 : wrap64 ((k : Int) + 1) = (k : Int) + 1 := by unfold wrap64; omega
    have e2 : wrap64 (9223372036854775807 - (2 * (k : Int) + 1)) = 9223372036854775807 - (2 * (k : Int) + 1) := by unfold wrap64; omega
    have e3 : wrap64 (2 + (2 * (k : Int) + 1)) = 2 + (2 * (k : Int) + 1) := by unfold wrap64; omega
    simp only [withM, e1, e2, e3, List.length_singleton]
    rw [if_neg (show ¬ (9223372036854775807 - (2 * (k : Int) + 1) < 2) by omega)]
    have e4 : (if (1 : Int) < (k : Int) + 1 then (k : Int) + 1 else 1) = ((k + 1 : Nat) : Int) := by split <;> omega
    rw [e4]
    simp
    omega
theorem deep_nest : ∀ (k n m : Nat), k < n → k ≤ m → deepT n (nestT n k) m = false := by
  intro k
  induction k with
  | zero =>
    intro n m h _
    obtain ⟨n, rfl⟩ : ∃ m, n = m + 1 := ⟨n - 1, by omega⟩
    exact deepT_not (by decide)
  | succ k ih =>
    intro n m h hm
    obtain ⟨n, rfl⟩ : ∃ m, n = m + 1 := ⟨n - 1, by omega⟩
    obtain ⟨m, rfl⟩ : ∃ q, m = q + 1 := ⟨m - 1, by omega⟩
    rw [nestT, deepT_succ (by decide), List.any_cons, ih n m (by omega) (by omega)]
    rfl
theorem parts_nest : ∀ (k n : Nat), k < n → partsT n (nestT n k) = k + 1 := by
  intro k
  induction k with
  | zero =>
    intro n h
    obtain ⟨n, rfl⟩ : ∃ m, n = m + 1 := ⟨n - 1, by omega⟩
    rw [nestT, partsT_else (by decide)]
  | succ k ih =>
    intro n h
    obtain ⟨n, rfl⟩ : ∃ m, n = m + 1 := ⟨n - 1, by omega⟩
    rw [nestT, partsT_list (by decide), List.foldl_cons, List.foldl_nil, ih n (by omega)]
    omega
theorem by_nest : ∀ k, By (nestP k ++ [0])
  | 0 => fun x hx => by simp [nestP] at hx; omega
  | k + 1 => by
    rw [nestP_cons]
    exact by_cons (by omega) (by_cons (by omega) (by_nest k))
theorem read_nest_ok (w : World) (p : Option Addr) (L c k : Nat) (hk : k ≤ 8) (hL : L = 2 * k + 1) (hb : RdB w p L c (nestP k ++ [0])) :
    Calls Try.prog 13 #[.slice p L c] w fun e w' => ∃ (K I : Int) (F : Nat) (Z : ByteArray) (q : Option Addr) (a d : Nat), e = .returned (.tuple #[.agg #[.int .i64 K, .int .i64 I, .float .f64 F, .string Z, .slice q a d], .int .i64 (L : Int), .int .i64 0]) ∧ Below w.heap.size w w' := by
  subst hL
  refine (read_ok (2 * k + 1) w p (2 * k + 1) c _ hb (by_nest k) (by omega) (by omega) (nestT _ k) (2 * k + 1) (dec_nest k _ (by omega)) (by omega) (deep_nest k _ _ (by omega) (by omega)) (by rw [parts_nest k _ (by omega)]; omega) (by rw [meas_nest k _ (by omega) (by omega)]; simp [checkM]; omega)).mono ?_
  rintro e w' ⟨v, rfl, hB, hr⟩
  obtain ⟨K, I, F, Z, q, a, d, rfl, _⟩ := repS_shape hr
  exact ⟨K, I, F, Z, q, a, d, rfl, hB⟩
theorem read_nest_bad (w : World) (p : Option Addr) (L c k : Nat) (hk8 : 8 < k) (hk : k ≤ 10) (hL : L = 2 * k + 1) (hb : RdB w p L c (nestP k ++ [0])) :
    Calls Try.prog 13 #[.slice p L c] w fun e w' => e = .returned (.tuple #[.agg #[.int .i64 0, .int .i64 0, .float .f64 0, .string ⟨#[]⟩, .slice none 0 0], .int .i64 0, .int .i64 20]) ∧ Below w.heap.size w w' := by
  subst hL
  exact read_bad (2 * k + 1) w p (2 * k + 1) c _ hb (by_nest k) (by omega) (by omega) (nestT _ k) (2 * k + 1) (dec_nest k _ (by omega)) (deep_nest k _ _ (by omega) (by omega)) (by rw [parts_nest k _ (by omega)]; omega) 22 (by rw [meas_nest k _ (by omega) (by omega)]; simp [checkM]; omega) (by decide)
/-- So many nils. -/
def nilT (n : Nat) : VT (n + 1) := (0, 0, 0, ⟨#[]⟩, [])
theorem decL_nils {n : Nat} (M : Nat) : ∀ m, m ≤ M → decL (decV (n + 1)) m (List.replicate M 0) = some (List.replicate m (nilT n), m) := by
  intro m
  induction m with
  | zero => intro _; rfl
  | succ m ih =>
    intro h
    rw [decL, ih (by omega)]
    have e : (List.replicate M (0 : Int)).drop m = 0 :: List.replicate (M - m - 1) 0 := by
      rw [List.drop_replicate, show M - m = (M - m - 1) + 1 by omega]
      rfl
    have h1 : decV (n + 1) ((List.replicate M (0 : Int)).drop m) = some (nilT n, 1) := by
      rw [e, decV, if_pos (by decide)]
      rfl
    simp only [h1]
    rw [List.replicate_succ']
def nilsT (n m : Nat) : VT (n + 2) := (4, 0, 0, ⟨#[]⟩, List.replicate m (nilT n))
theorem dec_nils (n m : Nat) : decV (n + 2) (4 :: (m : Int) :: List.replicate m 0) = some (nilsT n m, m + 2) := by
  rw [decV, if_neg (by decide), if_neg (by decide), if_neg (by decide), if_neg (by decide), if_pos (by decide)]
  have h3 : decR (decV (n + 1)) ((m : Int) :: List.replicate m 0) = some (List.replicate m (nilT n), 1 + m) := by
    rw [decR, Int.toNat_natCast, decL_nils m m (Nat.le_refl _)]
  simp only [h3]
  rw [nilsT, show 1 + (1 + m) = m + 2 by omega]
theorem meas_fold (n : Nat) (b : Bool) : ∀ (m : Nat) (z : Int), 0 ≤ z → z + m ≤ 5000 → (List.replicate m (nilT n)).foldl (fun a x => withM a (measT (n + 1) x)) (false, b, 1, z) = (false, b, 1, z + m) := by
  intro m
  induction m with
  | zero => intro z _ _; simp
  | succ m ih =>
    intro z h0 h1
    rw [List.replicate_succ, List.foldl_cons, nilT, measT_nil (by decide)]
    have e1 : wrap64 ((0 : Int) + 1) = 1 := by unfold wrap64; omega
    have e2 : wrap64 (9223372036854775807 - (1 : Int)) = 9223372036854775806 := by unfold wrap64; omega
    have e3 : wrap64 (z + 1) = z + 1 := by unfold wrap64; omega
    have e4 : withM (false, b, 1, z) (false, false, 0, 1) = (false, b, 1, z + 1) := by
      simp only [withM, e1, e2, e3]
      rw [if_neg (by omega), if_neg (by omega)]
      simp
    rw [e4]
    have h2 := ih (z + 1) (by omega) (by omega)
    rw [nilT] at h2
    rw [h2, show z + 1 + (m : Int) = z + ((m + 1 : Nat) : Int) by omega]
theorem meas_nils (n m : Nat) (hm : m ≤ 300) : measT (n + 2) (nilsT n m) = (false, decide (64 < (m : Int)), 1, 2 + (m : Int)) := by
  rw [nilsT, measT_list (by decide) (by decide) (by decide) (by decide), List.length_replicate, meas_fold n _ m 2 (by omega) (by omega)]
theorem deep_nils (n m : Nat) : deepT (n + 2) (nilsT n m) 64 = false := by
  rw [nilsT, deepT_succ (by decide), List.any_eq_false]
  intro x hx
  rw [List.eq_of_mem_replicate hx, nilT, deepT_not (by decide)]
  simp
theorem parts_nils (n m : Nat) : partsT (n + 2) (nilsT n m) = m + 1 := by
  have h : ∀ (m a : Nat), (List.replicate m (nilT n)).foldl (fun a x => a + partsT (n + 1) x) a = a + m := by
    intro m
    induction m with
    | zero => intro a; rfl
    | succ m ih =>
      intro a
      rw [List.replicate_succ, List.foldl_cons, ih, nilT, partsT_else (by decide)]
      omega
  rw [nilsT, partsT_list (by decide), h]
  omega
theorem by_nils (m : Nat) (hm : m < 256) : By (4 :: (m : Int) :: List.replicate m 0) :=
  by_cons (by omega) (by_cons (by omega) (fun x hx => by rw [List.eq_of_mem_replicate hx]; omega))
theorem read_nils_ok (w : World) (p : Option Addr) (c m : Nat) (hm : m ≤ 64) (hb : RdB w p (2 + m) c (4 :: (m : Int) :: List.replicate m 0)) :
    Calls Try.prog 13 #[.slice p (2 + m) c] w fun e w' => ∃ (q : Option Addr) (d : Nat), e = .returned (.tuple #[.agg #[.int .i64 4, .int .i64 0, .float .f64 0, .string ⟨#[]⟩, .slice q m d], .int .i64 ((m : Int) + 2), .int .i64 0]) ∧ Below w.heap.size w w' := by
  refine (read_ok (m + 2) w p (2 + m) c _ hb (by_nils m (by omega)) (by omega) (by omega) (nilsT m m) (m + 2) (dec_nils m m) (by omega) (deep_nils m m) (by rw [parts_nils]; omega) (by rw [meas_nils m m (by omega)]; simp [checkM]; omega)).mono ?_
  rintro e w' ⟨v, rfl, hB, hr⟩
  obtain ⟨q, a, d, rfl, _, _, _, _, hl⟩ := hr
  have ha : a = m := by have h := hl.1.1; rw [nilsT, List.length_replicate] at h; exact h.symm
  subst ha
  exact ⟨q, d, rfl, hB⟩
theorem read_nils_bad (w : World) (p : Option Addr) (c m : Nat) (hm0 : 64 < m) (hm : m < 256) (hb : RdB w p (2 + m) c (4 :: (m : Int) :: List.replicate m 0)) :
    Calls Try.prog 13 #[.slice p (2 + m) c] w fun e w' => e = .returned (.tuple #[.agg #[.int .i64 0, .int .i64 0, .float .f64 0, .string ⟨#[]⟩, .slice none 0 0], .int .i64 0, .int .i64 20]) ∧ Below w.heap.size w w' :=
  read_bad (m + 2) w p (2 + m) c _ hb (by_nils m (by omega)) (by omega) (by omega) (nilsT m m) (m + 2) (dec_nils m m) (deep_nils m m) (by rw [parts_nils]; omega) 22 (by rw [meas_nils m m (by omega)]; simp [checkM]; omega) (by decide)
theorem zeros_at (n i : Nat) (h : i < n) : (Builtin.zeroCells (Value.cells (.int .u8 0)) n)[i]? = some (.int .u8 0) := by
  unfold Builtin.zeroCells
  rw [Array.getElem?_map, Array.getElem?_range]
  have hs : (Value.cells (.int .u8 0)).size = 1 := rfl
  rw [hs, Nat.mul_one, if_pos h]
  rw [Option.map_some, Nat.mod_one]
  rfl
theorem run_zeros (w : World) (g : Nat) (a b : Int) (m : Nat) (hm : m ≤ 300) (hb : RdB w (some ⟨g, 0, none⟩) 2 2 [a, b]) :
    ∃ p c w', (Builtin.append_ #[22, 3] 22 #[.slice (some ⟨g, 0, none⟩) 2 2, .int .i64 m]).run Try.prog w = .ok (.slice p (2 + m) c) w' ∧ RdB w' p (2 + m) c (a :: b :: List.replicate m 0) ∧ Below w.heap.size w w' := by
  by_cases h0 : m = 0
  · subst h0
    exact ⟨_, _, w, by kernel_rfl, hb, Below.refl _ _⟩
  · obtain ⟨i0, hi, hz0, hz1, hz2⟩ := info_parts info_b8
    have hold : (Builtin.firstCells i0.size 2 (.slice (some ⟨g, 0, none⟩) 2 2)).run Try.prog w.drew = .ok ([a, b].map (Value.int .u8)).toArray w.drew :=
      run_firstCells_some w.drew i0.size 2 ⟨g, 0, none⟩ 2 2 ([a, b].map (Value.int .u8)) (by rw [hz1]; rfl) (rd_src (show RdB w.drew (some ⟨g, 0, none⟩) 2 2 [a, b] from hb) rfl)
    have hr := Lib.run_append_grow_zeros (P := Try.prog) w 22 3 22 5 i0 (.int .u8 0) .i64 .i64 Try.underlying22 Try.underlying3 hi hz0 (some ⟨g, 0, none⟩) 2 2 _ hold m (by omega) (by rw [hz1]; omega) (by omega) (by omega) (by rw [hz2]; omega) (by rw [hz2]; have := nextslicecap_le (need := 2 + m) (old := 2) (by omega); omega)
    have hge := grownCap_ge w (2 + m) 2 5
    have hcm := grownCap_le_maxLen w (2 + m) 2 5 (by unfold maxLen; omega)
    refine ⟨_, _, _, hr, ⟨by simp; omega, hge, hcm, fun _ => ⟨w.heap.size, 0, rfl, fun i hi' => ?_⟩, fun e => by cases e⟩, (Below.drew (Below.refl _ w)).alloc (Nat.le_refl _) _⟩
    rw [Nat.zero_add]
    have hcell := row_cell (row_alloc w.drew (([a, b].map (Value.int .u8)).toArray ++ Builtin.zeroCells (Value.cells (.int .u8 0)) m ++ Builtin.zeroCells (Value.cells (.int .u8 0)) (grownCap w (2 + m) 2 5 - (2 + m))) 5) i
    refine hcell.trans ?_
    have hlen : i < 2 + m := by simp at hi'; omega
    have hz : (Builtin.zeroCells (Value.cells (.int .u8 0)) m).size = m := by rw [size_zeroCells]; show m * 1 = m; omega
    rw [Array.getElem?_append_left (by rw [Array.size_append, hz]; show i < 2 + m; exact hlen)]
    by_cases h2 : i < 2
    · rw [Array.getElem?_append_left (by show i < 2; exact h2)]
      have h3 : i = 0 ∨ i = 1 := by omega
      rcases h3 with rfl | rfl <;> rfl
    · rw [Array.getElem?_append_right (by show 2 ≤ i; omega)]
      obtain ⟨j, rfl⟩ : ∃ j, i = j + 2 := ⟨i - 2, by omega⟩
      show (Builtin.zeroCells (Value.cells (.int .u8 0)) m)[j + 2 - 2]? = _
      rw [Nat.add_sub_cancel, zeros_at m j (by omega)]
      simp
end Num
end Go.Proofs.Ytahcgdjcjapnkaa
