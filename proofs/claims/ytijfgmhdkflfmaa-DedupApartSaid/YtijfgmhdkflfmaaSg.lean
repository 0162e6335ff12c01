/-
  slices.Insert of one call among calls, where there is room.
-/
import Derived.Test.YtijfgmhdkflfmaaSf
namespace Go.Proofs.Ytijfgmhdkflfmaa
open Go.RowKit
namespace Num
open Ints
set_option linter.unusedSimpArgs false
set_option linter.unusedVariables false
theorem flat_take : ∀ (L : List CE) (i : Nat), (L.flatMap CE.cells).take (i * 2) = (L.take i).flatMap CE.cells
  | [], i => by simp
  | x :: L, 0 => by simp
  | x :: L, i + 1 => by
    rw [List.take_succ_cons, List.flatMap_cons, List.flatMap_cons, ← flat_take L i, show (i + 1) * 2 = (x.cells).length + i * 2 by show _ = 2 + _; omega, List.take_length_add_append]
theorem flat_drop : ∀ (L : List CE) (i : Nat), (L.flatMap CE.cells).drop (i * 2) = (L.drop i).flatMap CE.cells
  | [], i => by simp
  | x :: L, 0 => by simp
  | x :: L, i + 1 => by
    rw [List.drop_succ_cons, List.flatMap_cons, ← flat_drop L i, show (i + 1) * 2 = (x.cells).length + i * 2 by show _ = 2 + _; omega, List.drop_length_add_append]
theorem flat_ones (L : List CE) : ∀ u ∈ L.flatMap CE.cells, u.oneCell' = true := by
  intro u hu
  obtain ⟨y, _, hy⟩ := List.mem_flatMap.1 hu
  simp only [CE.cells, List.mem_cons, List.not_mem_nil, or_false] at hy
  rcases hy with rfl | rfl <;> rfl
theorem ins_split (L : List CE) (y : CE) (i : Nat) : (L.flatMap CE.cells).take (i * 2) ++ (y.cells ++ (L.flatMap CE.cells).drop (i * 2)) = (L.take i ++ y :: L.drop i).flatMap CE.cells := by
  rw [flat_take, flat_drop, List.flatMap_append, List.flatMap_cons]
set_option maxRecDepth 100000 in
set_option maxHeartbeats 4000000 in
theorem ins_room (b c i n : Nat) (L : List CE) (y : CE) (vb : Nat) (w : World) (hown : w.ownsRow 0 79 2 (.slice (some ⟨b, 0, none⟩) n c) n (L.flatMap CE.cells)) (hn : L.length = n)
    (hv : w.heap[vb]? = some (.cells #[.int .u32 y.s, .slice (some ⟨y.ib, 0, none⟩) y.ids.length y.ic] 79 (0, 0))) (hl : n ≤ 100000) (hin : i < n) (hroom : n + 1 ≤ c) (hvb : vb ≠ b) :
    Calls Try.prog 35 #[.slice (some ⟨b, 0, none⟩) n c, .int .i64 i, .slice (some ⟨vb, 0, none⟩) 1 1] w (InsT w (some b) (L.take i ++ y :: L.drop i)) := by
  obtain ⟨i0, hi, hz0, hz1, hz2⟩ := info_parts info_ca
  have hs2 : (Try.prog.info? 79).map (·.size) = some 2 := by rw [hi]; simp [hz1]
  have hXl := flat2_len L
  rw [hn] at hXl
  rcases hown.2 with ⟨hv, _⟩ | ⟨g, cap, cur, hv, _, hcur, hle, hcm, hcs, htk⟩
  · cases hv
  injection hv with e1 e2 e3
  injection e1 with e1
  injection e1 with e1
  subst e1 e3
  obtain ⟨f1, f2⟩ := flat_one hv
  have hov : ∀ lb cb, (callFunc 49 #[.slice (some ⟨vb, 0, none⟩) 1 1, .slice (some ⟨b, (i + 1) * 2, none⟩) lb cb]).run Try.prog w = .ok (.value (.bool false)) w := fun lb cb => by
    rw [run_callFunc_extern Try.func49 (by kernel_rfl) (by kernel_rfl) (by kernel_rfl) (e := Extern.SlicesOverlaps.overlaps #[76, 76] #[4]) (by kernel_rfl),
      Lib.run_overlaps_apart w 76 4 79 under_cs 2 (fun w => by simp [sizeOf, typeInfo, hi, hz1]) ⟨vb, 0, none⟩ ⟨b, (i + 1) * 2, none⟩ 1 1 lb cb hvb 79 79 2 cur.size (by simp [World.shape?, hv]) (by simp [World.shape?, hcur]) (by omega) (row_frz hv 0) (row_frz hv 2)]
    rfl
  obtain ⟨X, hX⟩ : ∃ X, L.flatMap CE.cells = X := ⟨_, rfl⟩
  rw [hX] at hXl htk
  have hcl : cur.toList.length = c * 2 := by rw [Array.length_toList]; exact hcs
  have hcell : ∀ j v, (X.drop (i * 2))[j]? = some v → w.drew.cell? ((⟨b, i * 2, none⟩ : Addr).add j) = some v := by
    intro j v hj
    rw [Addr.add_lit]
    rw [List.getElem?_drop] at hj
    have := hown.cells (g := b) rfl (i * 2 + j) v (by rw [hX]; exact hj)
    rw [Addr.add_lit, Nat.zero_add] at this
    exact this
  have hX1 : ∀ u ∈ X.drop (i * 2), u.oneCell' = true := fun u hu => flat_ones L u (by rw [hX]; exact List.mem_of_mem_drop hu)
  have hdl : (X.drop (i * 2)).length = n * 2 - i * 2 := by rw [List.length_drop, hXl]
  have hcp1 : ∀ ty dc sc, (Builtin.copy_ #[76, 76] ty #[.slice (some ⟨b, (i + 1) * 2, none⟩) (n - i) dc, .slice (some ⟨b, i * 2, none⟩) (n + 1 - i) sc]).run Try.prog w.drew = .ok (goInt ((n - i : Nat) : Int)) (w.drew.setRow b (cur.toList.take ((i + 1) * 2) ++ X.drop (i * 2) ++ cur.toList.drop ((i + 1) * 2 + (X.drop (i * 2)).length)).toArray) := fun ty dc sc => by
    have h := run_copy_k (P := Try.prog) w.drew 76 76 ty 79 2 b ((i + 1) * 2) (n - i) dc ⟨b, i * 2, none⟩ (n + 1 - i) sc cur 79 (X.drop (i * 2)) (n - i) (by simp only [Nat.min_def]; split <;> omega) under_cs hs2 hcur (by rw [hdl]; omega) hcell (by rw [hdl]; omega) hX1
    exact h
  obtain ⟨A1, hA1⟩ : ∃ A1 : List Value, cur.toList.take ((i + 1) * 2) ++ X.drop (i * 2) ++ cur.toList.drop ((i + 1) * 2 + (X.drop (i * 2)).length) = A1 := ⟨_, rfl⟩
  rw [hA1] at hcp1
  have hcur0 : cur.toList = X ++ cur.toList.drop (n * 2) := by rw [← htk]; exact (List.take_append_drop _ _).symm
  have hA1l : A1.length = c * 2 := by rw [← hA1]; simp only [List.length_append, List.length_take, List.length_drop, hXl, hcl]; omega
  have hA1t : A1.take (i * 2) = X.take (i * 2) := by
    rw [← hA1, List.append_assoc, List.take_append_of_le_length (by rw [List.length_take, hcl]; omega), List.take_take, Nat.min_eq_left (by omega), hcur0, List.take_append_of_le_length (by rw [hXl]; omega)]
  have hA1d : A1.drop (i * 2 + 2) = X.drop (i * 2) ++ cur.toList.drop (n * 2 + 2) := by
    rw [← hA1, List.append_assoc, List.drop_append_of_le_length (by rw [List.length_take, hcl]; omega), List.drop_eq_nil_of_le (by rw [List.length_take, hcl]; omega), List.nil_append, hdl, show (i + 1) * 2 + (n * 2 - i * 2) = n * 2 + 2 by omega]
  have hW1 : (w.drew.setRow b A1.toArray).heap[b]? = some (.cells A1.toArray 79 (0, 0)) := setRow_heap w.drew b cur _ _ _ hcur
  have hcp2 : ∀ ty dc, (Builtin.copy_ #[76, 76] ty #[.slice (some ⟨b, i * 2, none⟩) (n + 1 - i) dc, .slice (some ⟨vb, 0, none⟩) 1 1]).run Try.prog (w.drew.setRow b A1.toArray) = .ok (goInt ((1 : Nat) : Int)) (w.drew.setRow b (X.take (i * 2) ++ (y.cells ++ (X.drop (i * 2) ++ cur.toList.drop (n * 2 + 2)))).toArray) := fun ty dc => by
    have h := run_copy_k (P := Try.prog) (w.drew.setRow b A1.toArray) 76 76 ty 79 2 b (i * 2) (n + 1 - i) dc ⟨vb, 0, none⟩ 1 1 A1.toArray 79 y.cells 1 (by simp only [Nat.min_def]; split <;> omega) under_cs hs2 hW1 rfl (fun j v hj => by
      rw [cell_setRow_other _ _ _ _ (by rw [Addr.add_lit]; exact hvb)]
      exact f1 j v hj) (by rw [List.size_toArray, hA1l]; show _ + 2 ≤ _; omega) f2
    rw [setRow_setRow, show (A1.toArray).toList = A1 from rfl, hA1t, show y.cells.length = 2 from rfl, hA1d, List.append_assoc] at h
    exact h
  have HFIN := Lib.hid (show InsT w (some b) (L.take i ++ y :: L.drop i) (.returned (.slice (some ⟨b, 0, none⟩) (n + 1) c)) (w.drew.setRow b (X.take (i * 2) ++ (y.cells ++ (X.drop (i * 2) ++ cur.toList.drop (n * 2 + 2)))).toArray) by
    have hml : (L.take i ++ y :: L.drop i).length = n + 1 := by rw [List.length_append, List.length_take, List.length_cons, List.length_drop, hn]; omega
    refine ⟨b, c, by rw [hml], ?_, ⟨rfl, rfl, rfl, by simp, fun k hk hne => setRow_other w.drew b k _ (fun e => hne (by rw [e]))⟩, Or.inl rfl⟩
    rw [hml, ← ins_split, hX]
    refine ⟨?_, Or.inr ⟨b, c, _, rfl, Nat.zero_le _, setRow_heap w.drew b cur _ _ _ hcur, hroom, hcm, ?_, ?_⟩⟩
    · rw [List.length_append, List.length_append, List.length_take, hdl, hXl]; show _ + (2 + _) = _; omega
    · rw [List.size_toArray, List.length_append, List.length_append, List.length_append, List.length_take, hdl, hXl, List.length_drop, hcl]; show _ + (2 + _) = _; omega
    · show List.take _ (X.take (i * 2) ++ (y.cells ++ (X.drop (i * 2) ++ cur.toList.drop (n * 2 + 2)))) = _
      rw [← List.append_assoc y.cells, ← List.append_assoc (X.take (i * 2)), List.take_append_of_le_length (by rw [List.length_append, List.length_append, List.length_take, hdl, hXl]; show _ ≤ _ + (2 + _); omega), List.take_of_length_le (by rw [List.length_append, List.length_append, List.length_take, hdl, hXl]; show _ + (2 + _) ≤ _; omega)])
  clear hcell hX1 hdl hA1 hcur0 hA1l hA1t hA1d hW1 f1 f2 hv hown hcur hcs htk hcl hXl hX hn
  go_enter Try.func35, Try.ntmps35
  go_wp2_with (simp only [hov])
  go_region
  go_wp2
  go_ret
  exact HFIN.out
end Num
end Go.Proofs.Ytijfgmhdkflfmaa
