/-
  slices.Insert of one call among calls.
-/
import Derived.Test.YtijfgmhdkflfmaaSd
import Derived.Laws.CopyRow
import Derived.Lib.Overlaps
import Derived.Lib.AppendZerosOnto
import Derived.Laws.NewBlocks
namespace Go.Proofs.Ytijfgmhdkflfmaa
open Go.RowKit
namespace Num
open Ints
set_option linter.unusedSimpArgs false
set_option linter.unusedVariables false
theorem info_ca : (Try.prog.info? 79).map (fun i => (i.zero, i.size, i.bytes)) = some (some (.agg #[.int .u32 0, .slice none 0 0]), 2, 32) := by kernel_rfl
theorem info_id : (Try.prog.info? 40).map (fun i => (i.zero, i.size, i.bytes)) = some (some (.agg #[.int .u32 0, .int .u32 0, .int .u16 0]), 3, 12) := by kernel_rfl
theorem under_cs : Try.prog.underlying 76 = some (.slice 79) := Try.underlying76
theorem flat_one {w : World} {vb : Nat} {y : CE} (hv : w.heap[vb]? = some (.cells #[.int .u32 y.s, .slice (some ⟨y.ib, 0, none⟩) y.ids.length y.ic] 79 (0, 0))) : (∀ j u, y.cells[j]? = some u → w.cell? ((⟨vb, 0, none⟩ : Addr).add j) = some u) ∧ ∀ u ∈ y.cells, u.oneCell' = true := by
  refine ⟨fun j u hj => ?_, fun u hu => ?_⟩
  · rw [Addr.add_lit, Nat.zero_add, row_cell hv j, List.getElem?_toArray]
    exact hj
  · simp only [CE.cells, List.mem_cons, List.not_mem_nil, or_false] at hu
    rcases hu with rfl | rfl <;> rfl
/-- What an insertion tells. -/
def InsT (w : World) (ob : Option Nat) (M : List CE) (e : Ending) (w' : World) : Prop := ∃ b' k', e = .returned (.slice (some ⟨b', 0, none⟩) M.length k') ∧ w'.ownsRow 0 79 2 (.slice (some ⟨b', 0, none⟩) M.length k') M.length (M.flatMap CE.cells) ∧ w.grownBy w' ob ∧ (ob = some b' ∨ w.heap.size ≤ b')
set_option maxRecDepth 100000 in
set_option maxHeartbeats 4000000 in
theorem ins_end (p : Option Addr) (n c : Nat) (L : List CE) (y : CE) (vb : Nat) (w : World) (hown : w.ownsRow 0 79 2 (.slice p n c) n (L.flatMap CE.cells)) (hn : L.length = n)
    (hv : w.heap[vb]? = some (.cells #[.int .u32 y.s, .slice (some ⟨y.ib, 0, none⟩) y.ids.length y.ic] 79 (0, 0))) (hl : n ≤ 100000) :
    Calls Try.prog 35 #[.slice p n c, .int .i64 n, .slice (some ⟨vb, 0, none⟩) 1 1] w (InsT w (Value.ownBlock (.slice p n c)) (L ++ [y])) := by
  obtain ⟨i0, hi, hz0, hz1, hz2⟩ := info_parts info_ca
  have HF := Lib.hid (flat_one hv)
  clear hv
  have fin : ∀ (v' : Value) (w' : World), w'.ownsRow 0 79 2 v' (n + 1) (L.flatMap CE.cells ++ y.cells) → w.grownBy w' (Value.ownBlock (.slice p n c)) → (v'.ownBlock = Value.ownBlock (.slice p n c) ∨ v'.ownBlock = some w.heap.size) → InsT w (Value.ownBlock (.slice p n c)) (L ++ [y]) (.returned v') w' := by
    intro v' w' ho hg hat
    rcases ho.2 with ⟨_, h0⟩ | ⟨g, cap, cur, rfl, _⟩
    · omega
    · refine ⟨g, cap, ?_, ?_, hg, ?_⟩
      · rw [List.length_append, hn]; rfl
      · rw [List.flatMap_append, List.length_append, hn, show [y].flatMap CE.cells = y.cells from List.append_nil _]; exact ho
      · rcases hat with h | h
        · exact Or.inl h.symm
        · have : g = w.heap.size := by injection h
          exact Or.inr (by omega)
  have FIN := Lib.hid fin
  have HO := Lib.hid hown
  rcases hown.2 with ⟨hv, h0⟩ | ⟨g, cap, cur, hv, _, _, hle, _⟩
  · injection hv with e1 e2 e3
    subst e1 e3 h0
    clear hown fin hn
    go_enter Try.func35, Try.ntmps35
    go_wp2_with (at_builtin; refine wpList_append_own_at _ rfl _ _ 76 rfl 0 79 i0 _ 2 32 under_cs hi hz0 hz1 hz2 rfl (by decide) _ 0 _ rfl HO.out ⟨vb, 0, none⟩ 1 1 _ rfl rfl HF.out.1 HF.out.2 (by unfold maxLen; omega) (by omega) (Nat.zero_le _) ?_; intro v' w' ho hg _ hat)
    go_ret
    exact FIN.out _ _ ho hg hat
  · injection hv with e1 e2 e3
    subst e1 e3
    clear hown fin hn
    go_enter Try.func35, Try.ntmps35
    go_wp2_with (at_builtin; refine wpList_append_own_at _ rfl _ _ 76 rfl 0 79 i0 _ 2 32 under_cs hi hz0 hz1 hz2 rfl (by decide) _ n _ rfl HO.out ⟨vb, 0, none⟩ 1 1 _ rfl rfl HF.out.1 HF.out.2 (by unfold maxLen; omega) (by omega) (Nat.zero_le _) ?_; intro v' w' ho hg _ hat)
    all_goals go_ret
    all_goals exact FIN.out _ _ ho hg hat
theorem run_copy_k {P : Program} (w : World) (dT sT ty elem : TypeId) (q g o dLen dCap : Nat) (a : Addr) (sLen sCap : Nat) (cur : Array Value) (t : TypeId) (cs : List Value) (m : Nat) (hm : Nat.min sLen dLen = m)
    (hu : P.underlying dT = some (.slice elem)) (hs : (P.info? elem).map (·.size) = some q)
    (hg : w.heap[g]? = some (.cells cur t (0, 0))) (hn : cs.length = m * q)
    (hsrc : ∀ j v, cs[j]? = some v → w.cell? (a.add j) = some v) (hfit : o + cs.length ≤ cur.size) (h1 : ∀ v ∈ cs, v.oneCell' = true) :
    (Builtin.copy_ #[dT, sT] ty #[.slice (some ⟨g, o, none⟩) dLen dCap, .slice (some a) sLen sCap]).run P w =
      .ok (goInt m) (w.setRow g (cur.toList.take o ++ cs ++ cur.toList.drop (o + cs.length)).toArray) := by
  have hl := run_loadCells_list (P := P) w a cs hsrc
  have hst := run_storeCells_at P g o t cs 0 cur w hg (by simpa using hfit) h1
  cases hq : P.info? elem with
  | none => simp [hq] at hs
  | some i =>
    have hi : i.size = q := by simpa [hq] using hs
    simp [Builtin.copy_, run_underlying hu, Builtin.lenOf, Builtin.firstCells, sizeOf, typeInfo, hq, hi, hm, ← hn, hl, hst]
/-- A row's cells turned at once. -/
theorem setRow_lists (w : World) (g : Nat) (xs : List Value) : (w.setRow g xs.toArray).heap.size = w.heap.size ∧ (w.setRow g xs.toArray).os = w.os ∧ (w.setRow g xs.toArray).tape = w.tape ∧ (w.setRow g xs.toArray).output = w.output ∧ ∀ k, k ≠ g → (w.setRow g xs.toArray).heap[k]? = w.heap[k]? :=
  ⟨by simp, rfl, rfl, rfl, fun k hk => setRow_other w g k _ hk⟩
end Num
end Go.Proofs.Ytijfgmhdkflfmaa
