/-
  slices.Delete of the first of some calls.
-/
import Derived.Test.YtijfgmhdkflfmaaSh
import Derived.RegionTactic
import Derived.Deep.RegionWith
import Derived.Deep.RegionLaw
import Derived.Deep.DeepCutAuto
namespace Go.Proofs.Ytijfgmhdkflfmaa
open Go.RowKit
namespace Num
open Ints
set_option linter.unusedSimpArgs false
set_option linter.unusedVariables false
/-- An append whose run is known, as a step of a region that draws. -/
theorem step_app {P : Program} {ops : Array Oper} {o : Oper} {a : Act} {w : World} {K : Act → World → Prop} {Q : Exit → Act → World → Prop} {E : Prop} (hg : o.guard = none) (d x : Operand) (dT sT : TypeId)
    (hop : o.op = .call { callee := .builtin .append, args := #[d, x], argTypes := #[dT, sT] }) (v u : Value) (hd : a.eval d = v) (hx : a.eval x = u) {v' : Value} {w' : World} (hr : (Builtin.append_ #[dT, sT] o.type #[v, u]).run P w = .ok v' w') (hK : K (a.put o.dst v') w') :
    if Region.wanted o (yielded ops a.tmps) = true then Oper.wp P o a w K Q else E := by
  have hw : Region.wanted o (yielded ops a.tmps) = true := by simp [Region.wanted, hg]
  rw [if_pos hw]
  unfold Oper.wp
  simp [execOp, hop, resolve, invoke, builtin, hd, hx, hr, Result.andThen]
  exact hK
theorem zero_call (w : World) : (zeroValue 79).run Try.prog w = .ok (.agg #[.int .u32 0, .slice none 0 0]) w := by kernel_rfl
set_option maxRecDepth 100000 in
set_option maxHeartbeats 4000000 in
theorem del_first (b c k : Nat) (L : List CE) (w : World) (hown : w.ownsRow 0 79 2 (.slice (some ⟨b, 0, none⟩) (k + 1) c) (k + 1) (L.flatMap CE.cells)) (hn : L.length = k + 1) (hl : k ≤ 100000) (hk : 1 ≤ k) :
    Calls Try.prog 37 #[.slice (some ⟨b, 0, none⟩) (k + 1) c, .int .i64 0, .int .i64 1] w fun e w' => e = .returned (.slice (some ⟨b, 0, none⟩) k c) ∧ w'.ownsRow 0 79 2 (.slice (some ⟨b, 0, none⟩) k c) k ((L.drop 1).flatMap CE.cells) ∧ w.grownBy w' (some b) := by
  obtain ⟨i0, hi, hz0, hz1, hz2⟩ := info_parts info_ca
  have hXl := flat2_len L
  rw [hn] at hXl
  rcases hown.2 with ⟨hv, _⟩ | ⟨g', cap, cur, hv, _, hcur, hle, hcm, hcs, htk⟩
  · cases hv
  injection hv with e1 e2 e3
  injection e1 with e1
  injection e1 with e1
  subst e1 e3
  obtain ⟨X, hX⟩ : ∃ X, L.flatMap CE.cells = X := ⟨_, rfl⟩
  rw [hX] at hXl htk
  have hXd : X.drop 2 = (L.drop 1).flatMap CE.cells := by rw [← hX]; exact flat_drop L 1
  have hdl : (X.drop 2).length = k * 2 := by rw [List.length_drop, hXl]; omega
  have hcl : cur.toList.length = c * 2 := by rw [Array.length_toList]; exact hcs
  have hap := fun ty cc => run_append_room (P := Try.prog) w.drew 76 ty 79 i0 under_cs hi b 0 c cur hcur ⟨b, 2, none⟩ k cc (X.drop 2) (by rw [hz1]; exact hdl) (fun j v hj => by
    rw [List.getElem?_drop] at hj
    have := hown.cells (g := b) rfl (2 + j) v (by rw [hX]; exact hj)
    rw [Addr.add_lit, Nat.zero_add] at this
    rw [Addr.add_lit]
    exact this) (fun u hu => flat_ones L u (by rw [hX]; exact List.mem_of_mem_drop hu)) (by omega) (by rw [Nat.zero_mul, hdl, hcs]; omega)
  rw [Nat.zero_mul, Nat.zero_add, List.take_zero, List.nil_append, Nat.zero_add, hdl] at hap
  obtain ⟨A1, hA1⟩ : ∃ A1 : List Value, X.drop 2 ++ cur.toList.drop (k * 2) = A1 := ⟨_, rfl⟩
  rw [hA1] at hap
  have hA1l : A1.length = c * 2 := by rw [← hA1]; simp only [List.length_append, hdl, List.length_drop, hcl]; omega
  obtain ⟨W1, hW1⟩ : ∃ W1, w.drew.setRow b A1.toArray = W1 := ⟨_, rfl⟩
  rw [hW1] at hap
  have hb1 : W1.heap[b]? = some (.cells A1.toArray 79 (0, 0)) := by rw [← hW1]; exact setRow_heap w.drew b cur _ _ _ hcur
  have hG1 : w.grownBy W1 (some b) := by rw [← hW1]; exact gb_row (gb_drew (World.grownBy.refl w (some b))) b (Or.inl rfl) _
  have hclr := fun ty cc => run_clear_k (P := Try.prog) W1 76 79 ty _ 2 under_cs zero_call rfl (fun u hu => by
    simp only [Value.cells, List.mem_cons, List.not_mem_nil, or_false] at hu
    rcases hu with rfl | rfl <;> rfl) b (k * 2) cc A1.toArray 79 hb1 (by rw [List.size_toArray, hA1l]; omega)
  rw [show (A1.toArray).toList = A1 from rfl, show A1.take (k * 2) = X.drop 2 by rw [← hA1, List.take_append_of_le_length (by rw [hdl]; exact Nat.le_refl _), List.take_of_length_le (by rw [hdl]; exact Nat.le_refl _)]] at hclr
  obtain ⟨Z, hZ⟩ : ∃ Z : List Value, (Value.agg #[.int .u32 0, .slice none 0 0]).cells.toList ++ A1.drop (k * 2 + (Value.agg #[.int .u32 0, .slice none 0 0]).cells.toList.length) = Z := ⟨_, rfl⟩
  rw [List.append_assoc, hZ] at hclr
  have hZl : Z.length = (c - k) * 2 := by
    rw [← hZ, List.length_append, List.length_drop, hA1l, show (Value.agg #[.int .u32 0, .slice none 0 0]).cells.toList.length = 2 from rfl]; omega
  obtain ⟨W2, hW2⟩ : ∃ W2, W1.setRow b (X.drop 2 ++ Z).toArray = W2 := ⟨_, rfl⟩
  rw [hW2] at hclr
  have HFIN := Lib.hid (show W2.ownsRow 0 79 2 (.slice (some ⟨b, 0, none⟩) k c) k ((L.drop 1).flatMap CE.cells) ∧ w.grownBy W2 (some b) by
    rw [← hXd]
    refine ⟨⟨hdl, Or.inr ⟨b, c, _, rfl, Nat.zero_le _, by rw [← hW2]; exact setRow_heap W1 b _ _ _ _ hb1, by omega, hcm, ?_, ?_⟩⟩, by rw [← hW2]; exact gb_row hG1 b (Or.inl rfl) _⟩
    · rw [List.size_toArray, List.length_append, hdl, hZl]; omega
    · show List.take _ (X.drop 2 ++ Z) = _
      rw [List.take_append_of_le_length (by rw [hdl]; exact Nat.le_refl _), List.take_of_length_le (by rw [hdl]; exact Nat.le_refl _)])
  have hc1 : ¬ (c = 1) := by omega
  have h1k : (1 : Int) ≤ (k : Int) + 1 := by omega
  have hck : ¬ (c = k) := by omega
  have hc0 : ¬ (c = 0) := by omega
  clear hXd hdl hcl hA1 hA1l hb1 hG1 hZ hZl hW1 hW2 hX hXl htk hcs hcur hown hn hcm
  go_enter Try.func37, Try.ntmps37
  go_wp2
  go_region_law (refine step_app (by rfl) _ _ 76 76 (by rfl) _ _ (by rfl) (by rfl) (hap _ (c - 1)) ?_)
  go_wp2
  go_ret
  exact ⟨rfl, HFIN.out⟩
end Num
end Go.Proofs.Ytijfgmhdkflfmaa
