/-
  Package num's four operations: one body, handed its two functions.
-/
import Derived.Test.YtkodgfhpbpefdaaNm
import Derived.Deep.RegionWith
namespace Go.Proofs.Ytkodgfhpbpefdaa
open Go.RowKit

namespace Num
set_option linter.unusedSimpArgs false
set_option linter.unusedVariables false
open Ints
theorem bcell {W w1 : World} (hb : Below W.heap.size W w1) : (∀ b o, b < W.heap.size → w1.cell? ⟨b, o, none⟩ = W.cell? ⟨b, o, none⟩) ∧ (∀ b o, b < W.heap.size → w1.frozen? ⟨b, o, none⟩ = W.frozen? ⟨b, o, none⟩) :=
  ⟨fun b o h => hb.cell (p := ⟨b, o, none⟩) h, fun b o h => hb.frozen (p := ⟨b, o, none⟩) h⟩
theorem below5 {B : Nat} {a w : World} (h : Below B a w) {b : Nat} (hb : B ≤ b) (v0 v1 v2 v3 v4 : Value) :
    Below B a (((((w.setCell ⟨b, 0, none⟩ v0).setCell ⟨b, 1, none⟩ v1).setCell ⟨b, 2, none⟩ v2).setCell ⟨b, 3, none⟩ v3).setCell ⟨b, 4, none⟩ v4) :=
  ((((h.setCell (p := ⟨b, 0, none⟩) hb v0).setCell (p := ⟨b, 1, none⟩) hb v1).setCell (p := ⟨b, 2, none⟩) hb v2).setCell (p := ⟨b, 3, none⟩) hb v3).setCell (p := ⟨b, 4, none⟩) hb v4
theorem bel_tr {B b : Nat} {x y z : World} (h2 : Below b y z) (hle : B ≤ b) (h1 : Below B x y) : Below B x z := h1.trans (h2.mono hle)
theorem bel_drewN {B : Nat} {a w : World} (n : Nat) (h : Below B a w) : Below B a (w.drewN n) := h.trans ⟨rfl, rfl, rfl, Nat.le_refl _, fun _ _ => rfl⟩
theorem below3 (w : World) (o1 o2 o3 : Obj) : Below w.heap.size w (((w.alloc o1).alloc o2).alloc o3) :=
  ((((Below.refl _ _).alloc (Nat.le_refl _) _).alloc (by simp) _).alloc (by simp; omega) _)
def bop (o : Nat) : BinOp := if o = 0 then .add else if o = 1 then .sub else if o = 2 then .mul else .quo
/-- What an operation comes to: kind, Int, Float, error. -/
def opV (o : Nat) (K1 I1 : Int) (F1 : Nat) (K2 I2 : Int) (F2 : Nat) : Int × Int × Nat × Int :=
  if (isNum K1 && isNum K2) = false then (0, 0, 0, 31)
  else if (K1 == 2 || K2 == 2) = true then (2, 0, Flo.cop (bop o) (asF K1 I1 F1) (asF K2 I2 F2), 0)
  else match intR o I1 I2 with | some n => (1, n, 0, 0) | none => (0, 0, 0, 35)

/-- Three boxes of five cells, behind calls that keep them: what they hold. -/
theorem three (t : TypeId) (a0 a1 a2 a3 a4 b0 b1 b2 b3 b4 r0 r1 r2 r3 r4 : Value) {w w1 w2 : World}
    (h1 : Below (((w.alloc (.cells #[a0, a1, a2, a3, a4] t)).alloc (.cells #[b0, b1, b2, b3, b4] t)).alloc (.cells #[r0, r1, r2, r3, r4] t)).heap.size (((w.alloc (.cells #[a0, a1, a2, a3, a4] t)).alloc (.cells #[b0, b1, b2, b3, b4] t)).alloc (.cells #[r0, r1, r2, r3, r4] t)) w1)
    (h2 : Below w1.heap.size w1 w2) :
    Below w.heap.size w w2 ∧ w.heap.size + 1 + 1 < w2.heap.size ∧ w.heap.size + 1 < w2.heap.size ∧ w.heap.size < w2.heap.size ∧
    w2.cell? ⟨w.heap.size, 0, none⟩ = some a0 ∧
    w2.cell? ⟨w.heap.size, 1, none⟩ = some a1 ∧
    w2.cell? ⟨w.heap.size, 2, none⟩ = some a2 ∧
    w2.cell? ⟨w.heap.size, 3, none⟩ = some a3 ∧
    w2.cell? ⟨w.heap.size, 4, none⟩ = some a4 ∧
    w2.cell? ⟨w.heap.size + 1, 0, none⟩ = some b0 ∧
    w2.cell? ⟨w.heap.size + 1, 1, none⟩ = some b1 ∧
    w2.cell? ⟨w.heap.size + 1, 2, none⟩ = some b2 ∧
    w2.cell? ⟨w.heap.size + 1, 3, none⟩ = some b3 ∧
    w2.cell? ⟨w.heap.size + 1, 4, none⟩ = some b4 ∧
    w2.cell? ⟨w.heap.size + 1 + 1, 0, none⟩ = some r0 ∧
    w2.cell? ⟨w.heap.size + 1 + 1, 1, none⟩ = some r1 ∧
    w2.cell? ⟨w.heap.size + 1 + 1, 2, none⟩ = some r2 ∧
    w2.cell? ⟨w.heap.size + 1 + 1, 3, none⟩ = some r3 ∧
    w2.cell? ⟨w.heap.size + 1 + 1, 4, none⟩ = some r4 ∧
    (∀ o, w2.frozen? ⟨w.heap.size, o, none⟩ = false) ∧
    (∀ o, w2.frozen? ⟨w.heap.size + 1, o, none⟩ = false) ∧
    (∀ o, w2.frozen? ⟨w.heap.size + 1 + 1, o, none⟩ = false) := by
  obtain ⟨c1, f1⟩ := bcell h1
  obtain ⟨c2, f2⟩ := bcell h2
  have zs : (((w.alloc (.cells #[a0, a1, a2, a3, a4] t)).alloc (.cells #[b0, b1, b2, b3, b4] t)).alloc (.cells #[r0, r1, r2, r3, r4] t)).heap.size = w.heap.size + 3 := by simp
  have z1 : w.heap.size + 1 + 1 < w1.heap.size := by have := h1.size; simp at this; omega
  have z2 : w.heap.size + 1 + 1 < w2.heap.size := by have := h2.size; omega
  refine ⟨((below3 _ _ _ _).trans (h1.mono (by simp; omega))).trans (h2.mono (by omega)), z2, by omega, by omega, ?_, ?_, ?_, ?_, ?_, ?_, ?_, ?_, ?_, ?_, ?_, ?_, ?_, ?_, ?_, ?_, ?_, ?_⟩
  all_goals first
    | (rw [c2 _ _ (by omega), c1 _ _ (by omega)]; simp [go_sem]; done)
    | (intro o; rw [f2 _ _ (by omega), f1 _ _ (by omega)]; simp [go_sem]; done)

theorem opV_not {o : Nat} {K1 I1 : Int} {F1 : Nat} {K2 I2 : Int} {F2 : Nat} (h : (isNum K1 && isNum K2) = false) : opV o K1 I1 F1 K2 I2 F2 = (0, 0, 0, 31) := by unfold opV; rw [if_pos h]
theorem opV_flo {o : Nat} {K1 I1 : Int} {F1 : Nat} {K2 I2 : Int} {F2 : Nat} (h : (isNum K1 && isNum K2) = true) (hk : (K1 == 2 || K2 == 2) = true) : opV o K1 I1 F1 K2 I2 F2 = (2, 0, Flo.cop (bop o) (asF K1 I1 F1) (asF K2 I2 F2), 0) := by
  unfold opV; rw [if_neg (by rw [h]; simp), if_pos hk]
theorem opV_int {o : Nat} {K1 I1 : Int} {F1 : Nat} {K2 I2 : Int} {F2 : Nat} (h : (isNum K1 && isNum K2) = true) (hk : (K1 == 2 || K2 == 2) = false) {n : Int} (hn : intR o I1 I2 = some n) : opV o K1 I1 F1 K2 I2 F2 = (1, n, 0, 0) := by
  unfold opV; rw [if_neg (by rw [h]; simp), if_neg (by rw [hk]; simp), hn]
theorem opV_none {o : Nat} {K1 I1 : Int} {F1 : Nat} {K2 I2 : Int} {F2 : Nat} (h : (isNum K1 && isNum K2) = true) (hk : (K1 == 2 || K2 == 2) = false) (hn : intR o I1 I2 = none) : opV o K1 I1 F1 K2 I2 F2 = (0, 0, 0, 35) := by
  unfold opV; rw [if_neg (by rw [h]; simp), if_neg (by rw [hk]; simp), hn]
end Num
end Go.Proofs.Ytkodgfhpbpefdaa
