/-
  Package args' Methods: the names of a class's methods, in order.
-/
import Derived.Test.YthmgmfmecfmeeaaHC
import Derived.Test.YthmgmfmecfmeeaaIter
import Derived.Sort.KeysCollected
namespace Go.Proofs.Ythmgmfmecfmeeaa
open Go.RowKit
namespace Num
open Ints
set_option linter.unusedSimpArgs false
set_option linter.unusedVariables false
theorem metas_cases (c : ByteArray) : metas c = msC ∨ metas c = msL ∨ metas c = msO ∨ metas c = msQ ∨ metas c = msR ∨ metas c = msT ∨ metas c = [] := by
  unfold metas
  split
  · exact Or.inl rfl
  split
  · exact Or.inr (Or.inl rfl)
  split
  · exact Or.inr (Or.inr (Or.inl rfl))
  split
  · exact Or.inr (Or.inr (Or.inr (Or.inl rfl)))
  split
  · exact Or.inr (Or.inr (Or.inr (Or.inr (Or.inl rfl))))
  split
  · exact Or.inr (Or.inr (Or.inr (Or.inr (Or.inr (Or.inl rfl)))))
  exact Or.inr (Or.inr (Or.inr (Or.inr (Or.inr (Or.inr (rfl))))))
def nmsL (M : List (ByteArray × Bool × ByteArray)) : List (List UInt8) := M.map fun x => x.1.data.toList
set_option maxRecDepth 100000 in
theorem names_good (c : ByteArray) : (metas c).length ≤ 7 ∧ (∀ x ∈ metas c, x.1.size ≤ 40) ∧ (nmsL (metas c)).Pairwise (fun a b => a < b) := by
  rcases metas_cases c with h | h | h | h | h | h | h <;> rw [h]
  all_goals first | exact ⟨by decide, by decide, by decide +kernel⟩ | exact ⟨by decide, fun x hx => absurd hx List.not_mem_nil, List.Pairwise.nil⟩
def anyR : Value → Option (DataW Unit × List MemPlace) := fun _ => some (.nil, [])
theorem str_under : Try.prog.underlying 9 = some .string := by kernel_rfl
theorem key_str {s : ByteArray} (hs : s.size ≤ 40) : keyOf Try.prog 9 (.string s) = some (.string s.data.toList) := by
  have : s.size ≤ maxLen := by unfold maxLen; omega
  simp [keyOf, str_under, mapKey, this]
theorem ents_rg : ∀ (L : List (ByteArray × Value)) (j : Nat), (∀ x ∈ L, x.1.size ≤ 40) → (ents L j).map (WideElems.rg Try.prog 9 anyR) = L.map (fun x => (.string x.1.data.toList, .nil))
  | [], _, _ => rfl
  | x :: r, j, h => by
    unfold ents
    have e : WideElems.rg Try.prog 9 anyR { key := .string x.1, val := x.2, born := j } = (Lit.string x.1.data.toList, (.nil : DataW Unit)) := WideElems.rg_of (WideElems.rd_mk (R := anyR) (val := x.2) (born := j) (yv := ((.nil : DataW Unit), [])) (key_str (h x (List.mem_cons_self ..))) rfl)
    rw [List.map_cons, List.map_cons, ents_rg r (j + 1) (fun y hy => h y (List.mem_cons_of_mem _ hy)), e]
theorem ents_born : ∀ (L : List (ByteArray × Value)) (j : Nat), (ents L j).map (·.born) = List.range' j L.length
  | [], _ => rfl
  | x :: r, j => by
    unfold ents
    rw [List.map_cons, ents_born r (j + 1), List.length_cons, List.range'_succ]
theorem ents_key : ∀ (L : List (ByteArray × Value)) (j : Nat), (ents L j).map (·.key) = L.map (fun x => .string x.1)
  | [], _ => rfl
  | x :: r, j => by
    unfold ents
    rw [List.map_cons, ents_key r (j + 1), List.map_cons]
theorem ents_fit (L : List (ByteArray × Value)) (hn : L.length ≤ 7) (hs : ∀ x ∈ L, x.1.size ≤ 40) (hd : (L.map (fun x => x.1)).Nodup) : WideElems.Fit Try.prog 9 anyR (ents L 0).toArray L.length := by
  refine ⟨show (ents L 0).toArray.size ≤ maxLen by rw [List.size_toArray, ents_len]; unfold maxLen; omega, ⟨?_, ?_, ?_⟩, ?_⟩
  · intro x hx
    have hm := List.mem_map_of_mem (f := fun e : MapEntry => e.born) hx
    rw [show ((ents L 0).toArray.toList.map fun e : MapEntry => e.born) = List.range' 0 L.length from ents_born L 0, List.mem_range'_1] at hm
    omega
  · rw [show ((ents L 0).toArray.toList.map fun e : MapEntry => e.born) = List.range' 0 L.length from ents_born L 0]
    exact List.nodup_range' ..
  · rw [show ((ents L 0).toArray.toList.map fun e : MapEntry => e.key) = _ from ents_key L 0]
    rw [List.Nodup, List.pairwise_map] at hd ⊢
    exact hd.imp (fun h e => h (by injection e))
  · intro x hx
    have hm := List.mem_map_of_mem (f := fun e : MapEntry => e.key) hx
    rw [show ((ents L 0).toArray.toList.map fun e : MapEntry => e.key) = _ from ents_key L 0] at hm
    obtain ⟨y, hy, e⟩ := List.mem_map.1 hm
    exact ⟨_, WideElems.rd_mk (R := anyR) (val := x.val) (born := x.born) (yv := ((.nil : DataW Unit), [])) (by rw [← e]; exact key_str (hs y hy)) rfl⟩
def datL (M : List (ByteArray × Bool × ByteArray)) : DataW Unit := .map ((M.map fun x => (Lit.string x.1.data.toList, (.nil : DataW Unit))).foldr DataW.insert [])
theorem dat_keys (M : List (ByteArray × Bool × ByteArray)) : (strKeys (datL M)).Perm (nmsL M) := by
  unfold datL strKeys nmsL
  refine ((WideShapes.sorted_perm _).map _).trans (List.Perm.of_eq ?_)
  rw [List.map_map]
  rfl
theorem dat_size (M : List (ByteArray × Bool × ByteArray)) : Maps.size (datL M) = M.length := by
  unfold datL
  rw [Maps.size_eq, length_sorted, List.length_map]
/-- A class's map is one that the library's laws speak of. -/
theorem own_of {w : World} {b : Nat} {c : ByteArray} (h : MapOf w (.map (some b)) (metas c)) : w.ownsMap Try.prog 9 anyR b 7 (datL (metas c)) := by
  obtain ⟨g1, g2, g3⟩ := names_good c
  rcases h with ⟨_, h⟩ | ⟨b', L, h, hh, hk, _⟩
  · cases h
  · cases h
    have hl : L.length = (metas c).length := by simpa using congrArg List.length hk
    have hs : ∀ x ∈ L, x.1.size ≤ 40 := fun x hx => by
      have := List.mem_map_of_mem (f := fun x : ByteArray × Value => x.1) hx
      rw [hk] at this
      obtain ⟨y, hy, e⟩ := List.mem_map.1 this
      rw [← e]
      exact g2 y hy
    refine ⟨(ents L 0).toArray, L.length, hh, ents_fit L (by omega) hs ?_, by rw [List.size_toArray, ents_len]; omega, ?_⟩
    · rw [hk]
      have : (nmsL (metas c)).Nodup := List.Pairwise.imp (R := fun a b : List UInt8 => a < b) (S := fun a b => a ≠ b) (fun {a b} h e => by subst e; exact List.lt_irrefl _ h) g3
      unfold nmsL at this
      rw [show ((metas c).map fun x => x.1.data.toList) = ((metas c).map (fun x => x.1)).map (fun s => s.data.toList) by rw [List.map_map]; rfl] at this
      exact (List.pairwise_map.1 this).imp (fun h e => h (by rw [e]))
    · unfold datL
      rw [show (ents L 0).toArray.toList = ents L 0 from rfl, ents_rg L 0 hs]
      rw [show (L.map fun x => (Lit.string x.1.data.toList, (.nil : DataW Unit))) = (L.map (fun x => x.1)).map (fun s => (Lit.string s.data.toList, .nil)) by rw [List.map_map]; rfl, hk, List.map_map]
      rfl
theorem sort_names {c : ByteArray} {ss : List (List UInt8)} (h : ss.Perm (strKeys (datL (metas c)))) : ss.mergeSort (fun x y => decide (x ≤ y)) = nmsL (metas c) := by
  have h1 := mergeSort_of_perm (h.trans (dat_keys _))
  refine h1.trans ?_
  exact List.mergeSort_of_pairwise ((names_good c).2.2.imp (fun h => by simpa using List.le_of_lt h))
theorem strL_own {w : World} {B : Nat} {v : Value} {c : ByteArray} {n : Nat} (h : w.ownsRow B 9 1 v n ((nmsL (metas c)).map encStr)) : ∃ p l k, v = .slice p l k ∧ StrL w p l k ((metas c).map (fun x => x.1)) := by
  obtain ⟨h1, h2⟩ := h
  have hn : (metas c).length = n := by simpa [nmsL] using h1
  rcases h2 with ⟨rfl, h0⟩ | ⟨g, cap, cur, rfl, _, hg, hc1, hc2, hc3, ht⟩
  · refine ⟨_, _, _, rfl, by rw [List.length_map]; omega, Nat.le_refl _, Nat.zero_le _, fun h => absurd h (Nat.lt_irrefl _)⟩
  · refine ⟨_, _, _, rfl, by rw [List.length_map]; omega, hc1, hc2, fun _ => ⟨g, 0, rfl, fun i hi => ?_⟩⟩
    rw [List.length_map] at hi
    have e := congrArg (fun l => l[i]?) ht
    simp only [Nat.mul_one] at e
    rw [List.getElem?_take_of_lt (by omega), List.getElem?_map] at e
    unfold nmsL at e
    rw [List.getElem?_map, List.getElem?_eq_getElem hi, Array.getElem?_toList] at e
    rw [Nat.zero_add, row_cell hg, e, List.getElem_map]
    rfl
set_option maxHeartbeats 2000000 in
/-- A class's names, sorted by the library out of its map. -/
theorem methods_any (c : ByteArray) (w : World) : Calls Try.prog 9 #[.string c] w fun e w' => ∃ p l k, e = .returned (.slice p l k) ∧ StrL w' p l k ((metas c).map (fun x => x.1)) ∧ Below w.heap.size w w' := by
  refine (callsIn_wide (n := 6)).1 ?_
  have hfM : Fence.wide.fn 29 := trivial
  have hfK : Fence.wide.fn 28 := trivial
  have hfS : Fence.wide.fn 27 := trivial
  refine callsIn_of_wp Try.func9 rfl trivial ?_ rfl
  simp only [Try.ntmps9, List.size_toArray, List.length_cons, List.length_nil, Nat.reduceAdd, Nat.reduceSub, Array.replicate_succ, Array.replicate_zero, List.push_toArray, List.append_toArray, List.nil_append, List.cons_append]
  gi_wp2_with fail
  gi_at_call 29; refine (callsIn_wide.2 (mof_any c w)).mono ?_; rintro e w1 ⟨m, rfl, hm, hb1⟩
  have HB1 := Lib.hid hb1
  have HM := Lib.hid hm
  clear hb1
  have hm2 : m = .map none ∧ metas c = [] ∨ ∃ b, m = .map (some b) := by
    rcases hm with ⟨h, rfl⟩ | ⟨b, L, rfl, _⟩
    · exact Or.inl ⟨rfl, h⟩
    · exact Or.inr ⟨b, rfl⟩
  clear hm
  rcases hm2 with ⟨rfl, hnil0⟩ | ⟨b, rfl⟩
  · have HN := Lib.hid hnil0
    clear hnil0 HM
    gi_wp2_with (first
      | (gi_at_call 28; refine (Try.maps_Keys_28 _ _).mono ?_; rintro e w2 ⟨rfl, rfl⟩)
      | (gi_at_call 27; refine (Try.slices_Sorted_keys_nil_27_28 _).mono ?_; rintro e w2 ⟨v, ss, rfl, hS, hrow, hnil, hb⟩))
    go_ret
    have hv : v = .slice none 0 0 := hnil.2 hS
    subst hv
    rw [HN.out]
    exact ⟨_, _, _, rfl, ⟨rfl, Nat.le_refl _, Nat.zero_le _, fun h => absurd h (Nat.lt_irrefl _)⟩, bel_step (bel_alloc HB1.out _) hb⟩
  · have HO := Lib.hid (own_of HM.out)
    have hsz : Maps.size (datL (metas c)) ≤ 7 := by rw [dat_size]; exact (names_good c).1
    gi_wp2_with (first
      | (gi_at_call 28; refine (Try.maps_Keys_28 _ _).mono ?_; rintro e w2 ⟨rfl, rfl⟩)
      | (gi_at_call 27; refine (Try.slices_Sorted_keys_27_28 b 7 (datL (metas c)) anyR w1 HO.out (by unfold maxLen; omega) (by omega)).mono ?_; rintro e w2 ⟨v, ss, rfl, hS, hrow, hnil, hb⟩))
    go_ret
    rw [sort_names hS] at hrow
    obtain ⟨p, l, k, rfl, hstr⟩ := strL_own hrow
    exact ⟨p, l, k, rfl, hstr, bel_step (bel_alloc HB1.out _) hb⟩
end Num
end Go.Proofs.Ythmgmfmecfmeeaa
