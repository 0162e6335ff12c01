/-
  slices.Insert of one call among calls, where there is no room; whatever; slices.Delete of the first.
-/
import Derived.Test.YtijfgmhdkflfmaaSg
namespace Go.Proofs.Ytijfgmhdkflfmaa
open Go.RowKit
namespace Num
open Ints
set_option linter.unusedSimpArgs false
set_option linter.unusedVariables false
theorem gb_row {w W : World} {row : Option Nat} (h : w.grownBy W row) (g : Nat) (hg : some g = row ∨ w.heap.size ≤ g) (cs : Array Value) : w.grownBy (W.setRow g cs) row :=
  ⟨h.os, h.tape, h.output, by rw [size_setRow]; exact h.size, fun k hk hne => (setRow_other W g k cs (fun he => by
    rcases hg with e | e
    · exact hne (by rw [he]; exact e)
    · omega)).trans (h.block k hk hne)⟩
theorem gb_drew {w W : World} {row : Option Nat} (h : w.grownBy W row) : w.grownBy W.drew row := ⟨h.os, h.tape, h.output, h.size, h.block⟩
set_option maxRecDepth 100000 in
set_option maxHeartbeats 4000000 in
theorem ins_grow (b c i n : Nat) (L : List CE) (y : CE) (vb : Nat) (w : World) (hown : w.ownsRow 0 79 2 (.slice (some ⟨b, 0, none⟩) n c) n (L.flatMap CE.cells)) (hn : L.length = n)
    (hv : w.heap[vb]? = some (.cells #[.int .u32 y.s, .slice (some ⟨y.ib, 0, none⟩) y.ids.length y.ic] 79 (0, 0))) (hl : n ≤ 100000) (hin : i < n) (hroom : c < n + 1) :
    Calls Try.prog 35 #[.slice (some ⟨b, 0, none⟩) n c, .int .i64 i, .slice (some ⟨vb, 0, none⟩) 1 1] w (InsT w (some b) (L.take i ++ y :: L.drop i)) := by
  obtain ⟨i0, hi, hz0, hz1, hz2⟩ := info_parts info_ca
  have hs2 : (Try.prog.info? 79).map (·.size) = some 2 := by rw [hi]; simp [hz1]
  have hXl := flat2_len L
  rw [hn] at hXl
  rcases hown.2 with ⟨hv, _⟩ | ⟨g', cap, cur, hv, _, hcur, hle, hcm, hcs, htk⟩
  · cases hv
  injection hv with e1 e2 e3
  injection e1 with e1
  injection e1 with e1
  subst e1 e3
  obtain ⟨f1, f2⟩ := flat_one hv
  obtain rfl : c = n := by omega
  obtain ⟨X, hX⟩ : ∃ X, L.flatMap CE.cells = X := ⟨_, rfl⟩
  rw [hX] at hXl htk
  have hbl := row_lt hcur
  have hvl := row_lt hv
  have hcX : ∀ j v, X[j]? = some v → w.cell? ((⟨b, 0, none⟩ : Addr).add j) = some v := fun j v hj => hown.cells (g := b) rfl j v (by rw [hX]; exact hj)
  have hX1 : ∀ u ∈ X, u.oneCell' = true := fun u hu => flat_ones L u (by rw [hX]; exact hu)
  have hold : (Builtin.firstCells i0.size i (.slice (some ⟨b, 0, none⟩) i c)).run Try.prog w.drew = .ok (X.take (i * 2)).toArray w.drew := by
    rw [hz1]
    exact run_firstCells_some w.drew 2 i ⟨b, 0, none⟩ i c (X.take (i * 2)) (by rw [List.length_take, hXl]; omega) (fun j v hj => by
      rw [List.getElem?_take] at hj
      split at hj
      · exact hcX j v hj
      · cases hj)
  have hrz0 := fun ty => Lib.run_append_grow_zeros (P := Try.prog) w 76 3 ty 79 i0 _ .i64 .i64 under_cs Try.underlying3 hi hz0 (some ⟨b, 0, none⟩) i c (X.take (i * 2)) hold (c + 1 - i) (by omega) (by omega) (by omega) (by omega) (by rw [hz2]; omega) (by rw [hz2, show i + (c + 1 - i) = c + 1 by omega]; exact growslice_fits (by omega) (by omega))
  rw [show i + (c + 1 - i) = c + 1 by omega] at hrz0
  obtain ⟨G, hG⟩ : ∃ G, grownCap w (c + 1) c 79 = G := ⟨_, rfl⟩
  have hGn : c + 1 ≤ G := by rw [← hG]; exact grownCap_ge w _ _ _
  have hGm : G ≤ maxLen := by rw [← hG]; exact grownCap_le_maxLen w (c + 1) c _ (by unfold maxLen; omega)
  rw [hG] at hrz0
  obtain ⟨ROW, hROW⟩ : ∃ ROW : Array Value, (X.take (i * 2)).toArray ++ Builtin.zeroCells (Value.agg #[.int .u32 0, .slice none 0 0]).cells (c + 1 - i) ++ Builtin.zeroCells (Value.agg #[.int .u32 0, .slice none 0 0]).cells (G - (c + 1)) = ROW := ⟨_, rfl⟩
  rw [hROW] at hrz0
  have hRs : ROW.size = G * 2 := by
    rw [← hROW]
    simp only [Array.size_append, List.size_toArray, size_zeroCells, List.length_take, hXl, show (Value.agg #[.int .u32 0, .slice none 0 0]).cells.size = 2 from rfl]
    omega
  have hRt : ROW.toList.take (i * 2) = X.take (i * 2) := by
    rw [← hROW, Array.toList_append, Array.toList_append, List.append_assoc, List.take_append_of_le_length (by show _ ≤ (X.take (i * 2)).length; rw [List.length_take, hXl]; omega)]
    show (X.take (i * 2)).take (i * 2) = _
    rw [List.take_take, Nat.min_self]
  obtain ⟨W1, hW1⟩ : ∃ W1, w.drew.alloc (.cells ROW 79) = W1 := ⟨_, rfl⟩
  rw [hW1] at hrz0
  obtain ⟨g, hg⟩ : ∃ g, w.heap.size = g := ⟨_, rfl⟩
  rw [hg] at hrz0 hbl hvl
  have hGB1 : w.grownBy W1 (some b) := by rw [← hW1]; exact ⟨rfl, rfl, rfl, by rw [World.size_alloc]; exact Nat.le_succ _, fun k hk _ => Below.heap_alloc w.drew _ _ hk⟩
  have hgW : W1.heap[g]? = some (.cells ROW 79 (0, 0)) := by rw [← hW1, ← hg]; exact row_alloc w.drew _ _
  have hbW : ∀ k, k < g → W1.heap[k]? = w.heap[k]? := fun k hk => by rw [← hW1]; exact Below.heap_alloc w.drew _ _ (by show k < w.heap.size; rw [hg]; exact hk)
  obtain ⟨A1, hA1⟩ : ∃ A1 : List Value, ROW.toList.take (i * 2) ++ y.cells ++ ROW.toList.drop (i * 2 + y.cells.length) = A1 := ⟨_, rfl⟩
  have hcpA := fun (ty : TypeId) (dc : Nat) => run_copy_k (P := Try.prog) W1 76 76 ty 79 2 g (i * 2) (c + 1 - i) dc ⟨vb, 0, none⟩ 1 1 ROW 79 y.cells 1 (by simp only [Nat.min_def]; split <;> omega) under_cs hs2 hgW rfl (fun j v hj => by
    rw [World.cell?_of_block (w := w) (by rw [Addr.add_lit]; exact hbW vb hvl)]
    exact f1 j v hj) (by rw [hRs]; show _ + 2 ≤ _; omega) f2
  rw [hA1] at hcpA
  obtain ⟨W2, hW2⟩ : ∃ W2, W1.setRow g A1.toArray = W2 := ⟨_, rfl⟩
  rw [hW2] at hcpA
  have hA1l : A1.length = G * 2 := by rw [← hA1]; simp only [List.length_append, List.length_take, List.length_drop, Array.length_toList, hRs, show y.cells.length = 2 from rfl]; omega
  have hA1t : A1.take ((i + 1) * 2) = X.take (i * 2) ++ y.cells := by
    rw [← hA1, hRt, List.take_append_of_le_length (by rw [List.length_append, List.length_take, hXl]; show _ ≤ _ + 2; omega), List.take_of_length_le (by rw [List.length_append, List.length_take, hXl]; show _ + 2 ≤ _; omega)]
  have hgW2 : W2.drew.heap[g]? = some (.cells A1.toArray 79 (0, 0)) := by rw [← hW2]; exact setRow_heap W1 g ROW _ _ _ hgW
  have hGB2 : w.grownBy W2 (some b) := by rw [← hW2]; exact gb_row hGB1 g (Or.inr (by omega)) _
  have hdl : (X.drop (i * 2)).length = (c - i) * 2 := by rw [List.length_drop, hXl]; omega
  have hcpB := fun (ty : TypeId) (dc sc : Nat) => run_copy_k (P := Try.prog) W2.drew 76 76 ty 79 2 g ((i + 1) * 2) (c - i) dc ⟨b, i * 2, none⟩ (c - i) sc A1.toArray 79 (X.drop (i * 2)) (c - i) (Nat.min_self _) under_cs hs2 hgW2 hdl (fun j v hj => by
    rw [Addr.add_lit, World.cell?_of_block (w := w) (by rw [← hW2]; exact (setRow_other W1 g b _ (by omega)).trans (hbW b hbl))]
    rw [List.getElem?_drop] at hj
    have := hcX (i * 2 + j) v hj
    rw [Addr.add_lit, Nat.zero_add] at this
    exact this) (by rw [hdl, List.size_toArray, hA1l]; omega) (fun u hu => hX1 u (List.mem_of_mem_drop hu))
  rw [show (A1.toArray).toList = A1 from rfl, hA1t, hdl] at hcpB
  obtain ⟨Z, hZ⟩ : ∃ Z : List Value, A1.drop ((i + 1) * 2 + (c - i) * 2) = Z := ⟨_, rfl⟩
  have hZl : Z.length = (G - (c + 1)) * 2 := by rw [← hZ, List.length_drop, hA1l]; omega
  rw [hZ] at hcpB
  obtain ⟨W3, hW3⟩ : ∃ W3, W2.drew.setRow g (X.take (i * 2) ++ y.cells ++ X.drop (i * 2) ++ Z).toArray = W3 := ⟨_, rfl⟩
  rw [hW3] at hcpB
  have HFIN := Lib.hid (show InsT w (some b) (L.take i ++ y :: L.drop i) (.returned (.slice (some ⟨g, 0, none⟩) (c + 1) G)) W3 by
    have hml : (L.take i ++ y :: L.drop i).length = c + 1 := by rw [List.length_append, List.length_take, List.length_cons, List.length_drop, hn]; omega
    have hsl : (X.take (i * 2) ++ (y.cells ++ X.drop (i * 2))).length = (c + 1) * 2 := by rw [List.length_append, List.length_append, List.length_take, hdl, hXl]; show _ + (2 + _) = _; omega
    refine ⟨g, G, by rw [hml], ?_, ?_, Or.inr (by omega)⟩
    · rw [hml, ← ins_split, hX]
      refine ⟨hsl, Or.inr ⟨g, G, _, rfl, Nat.zero_le _, by rw [← hW3]; exact setRow_heap W2.drew g _ _ _ _ hgW2, hGn, hGm, ?_, ?_⟩⟩
      · rw [List.size_toArray, List.append_assoc (X.take (i * 2)), List.length_append, hsl, hZl]; omega
      · show List.take _ (X.take (i * 2) ++ y.cells ++ X.drop (i * 2) ++ Z) = _
        rw [List.append_assoc (X.take (i * 2)), List.take_append_of_le_length (by rw [hsl]; exact Nat.le_refl _), List.take_of_length_le (by rw [hsl]; exact Nat.le_refl _)]
    · rw [← hW3]; exact gb_row (gb_drew hGB2) g (Or.inr (by omega)) _)
  have hrz : ∀ ty, (Builtin.append_ #[76, 3] ty #[.slice (some ⟨b, 0, none⟩) i c, .int .i64 ((c : Int) + 1 - (i : Int))]).run Try.prog w = .ok (.slice (some ⟨g, 0, none⟩) (c + 1) G) W1 := fun ty => by
    have h := hrz0 ty
    rwa [show (((c + 1 - i : Nat) : Int)) = (c : Int) + 1 - (i : Int) by omega] at h
  clear hrz0 hold hcX hX1 hdl hA1 hA1l hA1t f1 f2 hv hown hcur hcs htk hXl hX hn hZl hZ hgW2 hGB2 hGB1 hgW hbW hROW hRs hRt hW1 hW2 hW3 hG hbl hvl hle hcm
  have hGi : ¬ (G = i) := by omega
  have hGi1 : ¬ (G = i + 1) := by omega
  have hci : ¬ (c = i) := by omega
  unfold maxLen at hGm
  go_enter Try.func35, Try.ntmps35
  go_wp2_with (at_builtin; refine Lib.wpList_append_run _ rfl _ _ _ _ rfl _ _ rfl rfl _ _ (hrz _) ?_)
  go_region
  go_wp2
  go_ret
  exact HFIN.out
/-- slices.Insert of one call among calls that are there. -/
theorem ins_any (b c i n : Nat) (L : List CE) (y : CE) (vb : Nat) (w : World) (hown : w.ownsRow 0 79 2 (.slice (some ⟨b, 0, none⟩) n c) n (L.flatMap CE.cells)) (hn : L.length = n)
    (hv : w.heap[vb]? = some (.cells #[.int .u32 y.s, .slice (some ⟨y.ib, 0, none⟩) y.ids.length y.ic] 79 (0, 0))) (hl : n ≤ 100000) (hin : i ≤ n) (hvb : vb ≠ b) :
    Calls Try.prog 35 #[.slice (some ⟨b, 0, none⟩) n c, .int .i64 i, .slice (some ⟨vb, 0, none⟩) 1 1] w (InsT w (some b) (L.take i ++ y :: L.drop i)) := by
  by_cases h : i = n
  · subst h
    have := ins_end (some ⟨b, 0, none⟩) i c L y vb w hown hn hv hl
    rw [List.take_of_length_le (by omega), List.drop_eq_nil_of_le (by omega)]
    exact this
  · by_cases hr : n + 1 ≤ c
    · exact ins_room b c i n L y vb w hown hn hv hl (by omega) hr hvb
    · exact ins_grow b c i n L y vb w hown hn hv hl (by omega) (by omega)
theorem run_clear_k {P : Program} (w : World) (t e ty : TypeId) (z : Value) (q : Nat) (ht : P.underlying t = some (.slice e)) (hv : ∀ w, (zeroValue e).run P w = .ok z w) (hz : z.cells.size = q) (h1 : ∀ u ∈ z.cells.toList, u.oneCell' = true) (b o c : Nat) (cur : Array Value) (tc : TypeId)
    (hg : w.heap[b]? = some (.cells cur tc (0, 0))) (hfit : o + q ≤ cur.size) :
    (Builtin.clear_ #[t] ty #[.slice (some ⟨b, o, none⟩) 1 c]).run P w = .ok (.tuple #[]) (w.setRow b (cur.toList.take o ++ z.cells.toList ++ cur.toList.drop (o + z.cells.toList.length)).toArray) := by
  have hzc : (Builtin.zeroCells z.cells 1).toList = z.cells.toList := by
    simp [Builtin.zeroCells]
    apply List.ext_getElem
    · simp
    · intro i h2 h3
      simp at h2
      simp only [List.getElem_map, List.getElem_range, Nat.mod_eq_of_lt h2, Array.getElem_toList]
      exact getElem!_pos z.cells i h2
  have hst := run_storeCells_at P b o tc z.cells.toList 0 cur w hg (by rw [Array.length_toList, hz]; omega) h1
  simp [Builtin.clear_, run_underlying ht, hv, hzc, hst]
end Num
end Go.Proofs.Ytijfgmhdkflfmaa
