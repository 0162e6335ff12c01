/-
  A list of values that the call has made at its length and fills item by item.
-/
import Derived.Test.YtijfgmhdkflfmaaWLo
import Derived.Test.YtijfgmhdkflfmaaHQ
import Derived.Laws.OwnMore
import Derived.Laws.MakeOwn
namespace Go.Proofs.Ytijfgmhdkflfmaa
open Go.RowKit
namespace Num
open Ints
set_option linter.unusedSimpArgs false
set_option linter.unusedVariables false
/-- The first i of a made list have been filled; what they lead to was made ahead of block M. -/
def OwP (M i : Nat) (W0 w : World) (n G N : Nat) (L : List (VT n)) : Prop := ∃ XS : List Value, w.ownsRow W0.heap.size 33 5 (.slice (some ⟨G, 0, none⟩) N N) N XS ∧ L.length = N ∧ Below W0.heap.size W0 w ∧ W0.heap.size ≤ w.heap.size ∧ M ≤ w.heap.size ∧
  ∃ g : Nat → Nat, ∀ j (h : j < L.length), j < i → ∃ v0 v1 v2 v3 v4, XS[j * 5]? = some v0 ∧ XS[j * 5 + 1]? = some v1 ∧ XS[j * 5 + 2]? = some v2 ∧ XS[j * 5 + 3]? = some v3 ∧ XS[j * 5 + 4]? = some v4 ∧ RepC w n (fun b => Fr W0 w (.slice (some ⟨G, 0, none⟩) N N) b ∧ b < M ∧ g b = j) (.agg #[v0, v1, v2, v3, v4]) L[j]
theorem op_keep {M i : Nat} {W0 w w' : World} {n G N : Nat} {L : List (VT n)} (h : OwP M i W0 w n G N L) (hb : Below w.heap.size w w') : OwP M i W0 w' n G N L := by
  obtain ⟨XS, h1, h2, h3, h4, hM, g, h5⟩ := h
  refine ⟨XS, h1.kept (bel_own hb none) (Or.inr (by simp [Value.ownBlock])), h2, h3.trans (hb.mono h4), Nat.le_trans h4 hb.size, Nat.le_trans hM hb.size, g, fun j hj hji => ?_⟩
  obtain ⟨v0, v1, v2, v3, v4, c0, c1, c2, c3, c4, hr⟩ := h5 j hj hji
  refine ⟨v0, v1, v2, v3, v4, c0, c1, c2, c3, c4, repC_mono n _ _ _ _ (fun b hb' => ⟨⟨hb'.1.1, Nat.lt_of_lt_of_le hb'.1.2.1 hb.size, hb'.1.2.2⟩, hb'.2⟩) (repC_keep n _ _ _ (fun b hb' => hb.block b hb'.1.2.1) hr)⟩
theorem op_cells {M i : Nat} {W0 w : World} {n G N : Nat} {L : List (VT n)} (h : OwP M i W0 w n G N L) (hi : i < N) : W0.heap.size ≤ G ∧ G < w.heap.size ∧ (∀ o, w.frozen? ⟨G, o, none⟩ = false) ∧ ∃ v0 v1 v2 v3 v4, w.cell? ⟨G, i * 5, none⟩ = some v0 ∧ w.cell? ⟨G, i * 5 + 1, none⟩ = some v1 ∧ w.cell? ⟨G, i * 5 + 2, none⟩ = some v2 ∧ w.cell? ⟨G, i * 5 + 3, none⟩ = some v3 ∧ w.cell? ⟨G, i * 5 + 4, none⟩ = some v4 := by
  obtain ⟨XS, h1, h2, h3, h4, hM, g, h5⟩ := h
  have hlt := h1.lt G rfl
  have hx := h1.1
  have hc := fun (t : Nat) (ht : i * 5 + t < N * 5) => h1.cellAt (i * 5 + t) ht
  have hz := fun (t : Nat) (ht : i * 5 + t < XS.length) => List.getElem?_eq_getElem ht
  refine ⟨hlt.1, hlt.2, fun o => h1.frozenAt o, XS[i * 5]'(by omega), XS[i * 5 + 1]'(by omega), XS[i * 5 + 2]'(by omega), XS[i * 5 + 3]'(by omega), XS[i * 5 + 4]'(by omega), ?_, ?_, ?_, ?_, ?_⟩
  · exact (hc 0 (by omega)).trans (hz 0 (by omega))
  · exact (hc 1 (by omega)).trans (hz 1 (by omega))
  · exact (hc 2 (by omega)).trans (hz 2 (by omega))
  · exact (hc 3 (by omega)).trans (hz 3 (by omega))
  · exact (hc 4 (by omega)).trans (hz 4 (by omega))
theorem sets_at {XS : List Value} {o : Nat} (h : o + 5 ≤ XS.length) (u0 u1 u2 u3 u4 : Value) : ∀ XT, XT = ((((XS.set o u0).set (o + 1) u1).set (o + 2) u2).set (o + 3) u3).set (o + 4) u4 →
    XT[o]? = some u0 ∧ XT[o + 1]? = some u1 ∧ XT[o + 2]? = some u2 ∧ XT[o + 3]? = some u3 ∧ XT[o + 4]? = some u4 ∧ ∀ j, j < o ∨ o + 5 ≤ j → XT[j]? = XS[j]? := by
  intro XT e
  subst e
  refine ⟨?_, ?_, ?_, ?_, ?_, fun j hj => ?_⟩
  · simp [List.getElem?_set]; omega
  · simp [List.getElem?_set]; omega
  · simp [List.getElem?_set]; omega
  · simp [List.getElem?_set]; omega
  · simp [List.getElem?_set]; omega
  · have n0 : ¬ o = j := by omega
    have n1 : ¬ o + 1 = j := by omega
    have n2 : ¬ o + 2 = j := by omega
    have n3 : ¬ o + 3 = j := by omega
    have n4 : ¬ o + 4 = j := by omega
    simp [List.getElem?_set, n0, n1, n2, n3, n4]
theorem op_fill {M i : Nat} {W0 w : World} {n G N : Nat} {L : List (VT n)} (h : OwP M i W0 w n G N L) (hi : i < L.length) (u0 u1 u2 u3 u4 : Value) (hT : RepC w n (fun b => Fr W0 w (.slice (some ⟨G, 0, none⟩) N N) b ∧ M ≤ b) (.agg #[u0, u1, u2, u3, u4]) L[i]) :
    OwP (set5 w G (i * 5) u0 u1 u2 u3 u4).heap.size (i + 1) W0 (set5 w G (i * 5) u0 u1 u2 u3 u4) n G N L := by
  obtain ⟨XS, h1, h2, h3, h4, hM, g, h5⟩ := h
  have hlt := h1.lt G rfl
  have hx := h1.1
  have r0 := (h1.stored (i * 5) u0).1
  have r1 := (r0.stored (i * 5 + 1) u1).1
  have r2 := (r1.stored (i * 5 + 2) u2).1
  have r3 := (r2.stored (i * 5 + 3) u3).1
  have r4 := (r3.stored (i * 5 + 4) u4).1
  obtain ⟨s0, s1, s2, s3, s4, so⟩ := sets_at (XS := XS) (o := i * 5) (by omega) u0 u1 u2 u3 u4 _ rfl
  have hsz := set5_size w G (i * 5) u0 u1 u2 u3 u4
  have hfr : ∀ b, Fr W0 w (.slice (some ⟨G, 0, none⟩) N N) b → Fr W0 (set5 w G (i * 5) u0 u1 u2 u3 u4) (.slice (some ⟨G, 0, none⟩) N N) b ∧ (set5 w G (i * 5) u0 u1 u2 u3 u4).heap[b]? = w.heap[b]? := fun b hb =>
    ⟨⟨hb.1, by rw [hsz]; exact hb.2.1, hb.2.2⟩, set5_other (fun e => hb.2.2 (by rw [e]; rfl))⟩
  refine ⟨_, r4, h2, set5_below h3 hlt.1 u0 u1 u2 u3 u4, by rw [hsz]; exact h4, Nat.le_refl _, fun b => if b < M then g b else i, fun j hj hji => ?_⟩
  by_cases hlt' : j < i
  · obtain ⟨v0, v1, v2, v3, v4, c0, c1, c2, c3, c4, hr⟩ := h5 j hj hlt'
    refine ⟨v0, v1, v2, v3, v4, (so _ (by omega)).trans c0, (so _ (by omega)).trans c1, (so _ (by omega)).trans c2, (so _ (by omega)).trans c3, (so _ (by omega)).trans c4, ?_⟩
    exact repC_mono n _ _ _ _ (fun b hb' => ⟨(hfr b hb'.1).1, (hfr b hb'.1).1.2.1, (show (if b < M then g b else i) = j from (if_pos hb'.2.1).trans hb'.2.2)⟩) (repC_keep n _ _ _ (fun b hb' => (hfr b hb'.1).2) hr)
  · have hje : j = i := by omega
    subst hje
    refine ⟨u0, u1, u2, u3, u4, s0, s1, s2, s3, s4, ?_⟩
    exact repC_mono n _ _ _ _ (fun b hb' => ⟨(hfr b hb'.1).1, (hfr b hb'.1).1.2.1, (show (if b < M then g b else j) = j from if_neg (Nat.not_lt.2 hb'.2))⟩) (repC_keep n _ _ _ (fun b hb' => (hfr b hb'.1).2) hT)
def OwPL (i : Nat) (W0 w : World) (n G N : Nat) (L : List (VT n)) : Prop := OwP w.heap.size i W0 w n G N L
theorem op_rep {M : Nat} {W0 w : World} {n G N : Nat} {L : List (VT n)} (h : OwP M N W0 w n G N L) : RepLS (fun b => W0.heap.size ≤ b) w (RepC w n) (some ⟨G, 0, none⟩) N N L := by
  obtain ⟨XS, h1, h2, h3, h4, hM, g, h5⟩ := h
  have hlt := h1.lt G rfl
  rcases h1.2 with ⟨hv, _⟩ | ⟨g', cap, cur, hv, _, hcur, _, hm, _, _⟩
  · cases hv
  · injection hv with e1 e2 e3
    injection e1 with e1
    injection e1 with e1
    subst e1
    refine ⟨h2, Nat.le_refl _, by omega, fun hl => ⟨G, 0, rfl, hlt.1, ⟨cur, hcur⟩, g, fun j hj => ?_⟩⟩
    obtain ⟨v0, v1, v2, v3, v4, c0, c1, c2, c3, c4, hr⟩ := h5 j hj (by omega)
    have hx := h1.1
    have hc := fun (t : Nat) (ht : j * 5 + t < N * 5) => h1.cellAt (j * 5 + t) ht
    refine ⟨v0, v1, v2, v3, v4, ?_, ?_, ?_, ?_, ?_, repC_mono n _ _ _ _ (fun b hb => ⟨hb.1.1, fun e => hb.1.2.2 (by rw [e]; rfl), hb.2.2⟩) hr⟩
    · rw [Nat.zero_add]; exact (hc 0 (by omega)).trans c0
    · rw [Nat.zero_add]; exact (hc 1 (by omega)).trans c1
    · rw [Nat.zero_add]; exact (hc 2 (by omega)).trans c2
    · rw [Nat.zero_add]; exact (hc 3 (by omega)).trans c3
    · rw [Nat.zero_add]; exact (hc 4 (by omega)).trans c4
end Num
end Go.Proofs.Ytijfgmhdkflfmaa
