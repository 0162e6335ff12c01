/-
  Package table: tables as lists of names with values; where a name stands; what find and held tell of them.
-/
import Derived.Test.YtamogpbbaihaaaaQN
namespace Go.Proofs.Ytamogpbbaihaaaa
open Go.RowKit
namespace Num
open Ints
set_option linter.unusedSimpArgs false
set_option linter.unusedVariables false
theorem bl_irrefl : ∀ x : List UInt8, Op.bytesLess x x = false
  | [] => by simp [Op.bytesLess]
  | a :: x => by
    rw [Op.bytesLess, bl_irrefl x]
    simp
theorem bl_asymm : ∀ x y : List UInt8, Op.bytesLess x y = true → Op.bytesLess y x = false
  | [], [], _ => by simp [Op.bytesLess]
  | [], _ :: _, _ => by simp [Op.bytesLess]
  | _ :: _, [], h => by simp [Op.bytesLess] at h
  | a :: x, b :: y, h => by
    have ih := bl_asymm x y
    rw [Op.bytesLess] at h ⊢
    simp only [Bool.or_eq_true, Bool.and_eq_true, decide_eq_true_iff, beq_iff_eq] at h
    rcases h with h | ⟨rfl, h⟩
    · have h1 : ¬ b < a := by rw [UInt8.lt_iff_toNat_lt] at h ⊢; omega
      have h2 : ¬ b = a := by rintro rfl; rw [UInt8.lt_iff_toNat_lt] at h; omega
      simp [h1, h2]
    · rw [ih h]
      simp
theorem ltB_irrefl (k : ByteArray) : ltB k k = false := bl_irrefl _
theorem ltB_asymm {a b : ByteArray} (h : ltB a b = true) : ltB b a = false := bl_asymm _ _ h
theorem ltB_ne {a b : ByteArray} (h : ltB a b = true) : (b.toList == a.toList) = false := by
  rw [beq_eq_false_iff_ne]
  intro e
  unfold ltB at h
  rw [e, bl_irrefl] at h
  cases h
theorem spot_split {β : Type} {k : ByteArray} {X M Y : List (ByteArray × β)} {fnd : Bool} (hX : ∀ e ∈ X, ltB e.1 k = true) (hY : ∀ e ∈ Y, ltB k e.1 = true) (hM : (M = [] ∧ fnd = false) ∨ ∃ V, M = [(k, V)] ∧ fnd = true) :
    Spot ((X ++ (M ++ Y)).map (·.1)) k X.length fnd := by
  have hMY : ∀ e ∈ M ++ Y, ltB e.1 k = false := by
    intro e he
    rcases List.mem_append.1 he with h | h
    · rcases hM with ⟨rfl, _⟩ | ⟨V, rfl, _⟩
      · exact absurd h List.not_mem_nil
      · rw [List.mem_singleton.1 h]; exact ltB_irrefl k
    · exact ltB_asymm (hY e h)
  refine ⟨by rw [List.length_map, List.length_append]; omega, fun t h => ?_, fun h => ?_, fun h => ?_⟩
  · rw [List.getElem_map]
    have h' : t < (X ++ (M ++ Y)).length := by rw [List.length_map] at h; exact h
    by_cases ht : t < X.length
    · rw [List.getElem_append_left ht, decide_eq_true ht]
      exact hX _ (List.getElem_mem ht)
    · rw [List.getElem_append_right (by omega), decide_eq_false ht]
      exact hMY _ (List.getElem_mem _)
  · rw [List.getElem_map, List.getElem_append_right (Nat.le_refl _)]
    simp only [Nat.sub_self]
    rcases hM with ⟨rfl, rfl⟩ | ⟨V, rfl, rfl⟩
    · have h0 : 0 < Y.length := by rw [List.length_map, List.length_append] at h; simp at h; omega
      exact ltB_ne (hY _ (List.getElem_mem h0))
    · exact beq_self_eq_true _
  · rcases hM with ⟨rfl, rfl⟩ | ⟨V, rfl, rfl⟩
    · rfl
    · exact absurd (by rw [List.length_map, List.length_append, List.length_append]; simp; omega) h
theorem ents_of {w : World} {n : Nat} {p : Option Addr} {l c : Nat} {ES : List (ByteArray × VT (n + 1))} (h : RepL w (Rep w (n + 2)) p l c (ES.map (pairE n))) (hl : l ≤ 1000000) : EntsL w p l (ES.map (·.1)) := by
  obtain ⟨h1, h2, h3, h4⟩ := h
  rw [List.length_map] at h1
  refine ⟨by rw [List.length_map]; exact h1, hl, fun h0 => ?_⟩
  obtain ⟨b, off, rfl, hi⟩ := h4 h0
  refine ⟨b, off, rfl, fun i hi' => ?_⟩
  rw [List.length_map] at hi'
  obtain ⟨v0, v1, v2, v3, v4, c0, c1, c2, c3, c4, hr⟩ := hi i (by rw [List.length_map]; exact hi')
  rw [List.getElem_map] at hr
  have hr' : Rep w (n + 2) (.agg #[v0, v1, v2, v3, v4]) (pairT n ES[i].1 ES[i].2) := hr
  obtain ⟨g, o, d, rfl, rfl, rfl, rfl, rfl⟩ := pair_shape hr'
  refine ⟨_, _, _, _, _, _, _, c0, c1, c2, c3, c4, by omega, ?_⟩
  rw [List.getElem_map]
  exact (pair_name hr').2.2.2.2.2
def hadT (n : Nat) (M : List (ByteArray × VT (n + 1))) : VT (n + 1) := match M with | [] => nilT n | e :: _ => e.2
/-- What held tells of the entry that was found, or of none. -/
theorem held_M {w W : World} {n : Nat} {p : Option Addr} {l c : Nat} {k : ByteArray} {X M Y : List (ByteArray × VT (n + 1))} (hb : Below w.heap.size w W) (h : RepL w (Rep w (n + 2)) p l c ((X ++ (M ++ Y)).map (pairE n))) (hM : M = [] ∨ ∃ V, M = [(k, V)]) (bh : Nat) (hbh : bh = X.length + M.length) :
    Calls Try.prog 53 #[.slice (if c = X.length then p else p.map (·.add (X.length * 5))) (bh - X.length) (c - X.length)] W fun e w' => ∃ u, e = .returned u ∧ Below W.heap.size W w' ∧ Rep w (n + 1) u (hadT n M) := by
  have hlen := h.1
  rw [List.length_map, List.length_append, List.length_append] at hlen
  have hs := repL_sub h X.length bh (by omega) (by omega)
  have he : ((((X ++ (M ++ Y)).map (pairE n)).drop X.length).take (bh - X.length)) = M.map (pairE n) := by
    rw [List.map_append, List.map_append, show X.length = (X.map (pairE n)).length by rw [List.length_map], List.drop_left, show bh - (X.map (pairE n)).length = (M.map (pairE n)).length by rw [List.length_map, List.length_map]; omega, List.take_left]
  rw [he] at hs
  have hbx : bh - X.length = M.length := by omega
  rw [hbx] at hs ⊢
  rcases hM with rfl | ⟨V, rfl⟩
  · refine (held_none _ _ _).mono ?_
    rintro e w' ⟨rfl, hb'⟩
    exact ⟨_, rfl, hb', leafR _ n 0 0 0 ⟨#[]⟩ (by decide) (by decide) (by decide) (by decide)⟩
  · exact held_one n _ _ 4 0 0 ⟨#[]⟩ (3, 0, 0, k, []) V w W hb hs
end Num
end Go.Proofs.Ytamogpbbaihaaaa
