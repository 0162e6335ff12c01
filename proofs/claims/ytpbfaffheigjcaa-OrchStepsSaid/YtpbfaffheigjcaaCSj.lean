/-
  What a law keeps beside a region that makes boxes in whatever order: boxes, values.
-/
import Derived.Test.YtpbfaffheigjcaaRDa
import Derived.Test.YtpbfaffheigjcaaHQ
namespace Go.Proofs.Ytpbfaffheigjcaa
open Go.RowKit
namespace Num
open Ints
set_option linter.unusedSimpArgs false
set_option linter.unusedVariables false
/-- Five cells of a block. -/
def CS (x : World) (b : Nat) (v0 v1 v2 v3 v4 : Value) : Prop := x.cell? ⟨b, 0, none⟩ = some v0 ∧ x.cell? ⟨b, 1, none⟩ = some v1 ∧ x.cell? ⟨b, 2, none⟩ = some v2 ∧ x.cell? ⟨b, 3, none⟩ = some v3 ∧ x.cell? ⟨b, 4, none⟩ = some v4
theorem cs_step {x y : World} {b : Nat} {v0 v1 v2 v3 v4 : Value} (h : CS x b v0 v1 v2 v3 v4) (hb : Below x.heap.size x y) : CS y b v0 v1 v2 v3 v4 := ⟨cell_keep hb h.1, cell_keep hb h.2.1, cell_keep hb h.2.2.1, cell_keep hb h.2.2.2.1, cell_keep hb h.2.2.2.2⟩
theorem cs_alloc {x : World} {b : Nat} {v0 v1 v2 v3 v4 : Value} (h : CS x b v0 v1 v2 v3 v4) (o : Obj) : CS (x.alloc o) b v0 v1 v2 v3 v4 := cs_step h (bel_alloc (Below.refl _ _) o)
theorem cs_drew {x : World} {b : Nat} {v0 v1 v2 v3 v4 : Value} (h : CS x b v0 v1 v2 v3 v4) : CS x.drew b v0 v1 v2 v3 v4 := h
theorem cs_set {x : World} {b g o : Nat} {v v0 v1 v2 v3 v4 : Value} (h : CS x b v0 v1 v2 v3 v4) (hne : b ≠ g) : CS (x.setCell ⟨g, o, none⟩ v) b v0 v1 v2 v3 v4 := by
  have e : ∀ i, (x.setCell ⟨g, o, none⟩ v).cell? ⟨b, i, none⟩ = x.cell? ⟨b, i, none⟩ := fun i => World.cell?_setCell_other _ _ _ _ (fun e => hne (congrArg Addr.block e).symm)
  unfold CS at h ⊢
  simp only [e]
  exact h
theorem cs_row {x : World} {b : Nat} {v0 v1 v2 v3 v4 : Value} {t : TypeId} (h : x.heap[b]? = some (.cells #[v0, v1, v2, v3, v4] t (0, 0))) : CS x b v0 v1 v2 v3 v4 := ⟨row_cell h 0, row_cell h 1, row_cell h 2, row_cell h 3, row_cell h 4⟩
theorem cs_lt {x : World} {b : Nat} {v0 v1 v2 v3 v4 : Value} (h : CS x b v0 v1 v2 v3 v4) : b < x.heap.size := cell_lt h.1
/-- A value that a call goes on with. -/
def RC1 (w : World) (v : Value) (n : Nat) (T : VT n) (x : World) : Prop := Below w.heap.size w x ∧ Rep x n v T
theorem rc_step {w x y : World} {v : Value} {n : Nat} {T : VT n} (h : RC1 w v n T x) (hb : Below x.heap.size x y) : RC1 w v n T y := ⟨bel_step h.1 hb, rep_keep hb _ _ _ h.2⟩
theorem rc_alloc {w x : World} {v : Value} {n : Nat} {T : VT n} (h : RC1 w v n T x) (o : Obj) : RC1 w v n T (x.alloc o) := rc_step h (bel_alloc (Below.refl _ _) o)
theorem rc_drew {w x : World} {v : Value} {n : Nat} {T : VT n} (h : RC1 w v n T x) : RC1 w v n T x.drew := rc_step h (Below.drew (Below.refl _ _))
/-- What lies in blocks from B on that were there, in a world that has them still. -/
theorem rep_out {B : Nat} {x y : World} {n : Nat} {v : Value} {T : VT n} (h : RepS (fun b => B ≤ b) x n v T) (hk : ∀ b, B ≤ b → b < x.heap.size → y.heap[b]? = x.heap[b]?) : Rep y n v T :=
  repS_rep (S := fun b => B ≤ b ∧ b < x.heap.size) n v T (repS_keep (fun b hb => hk b hb.1 hb.2) n v T (repS_lt n v T h))
theorem hk_set {x y : World} {b g o : Nat} {v : Value} (h : y.heap[b]? = x.heap[b]?) (hne : b ≠ g) : (y.setCell ⟨g, o, none⟩ v).heap[b]? = x.heap[b]? := (Below.heap_setCell _ _ _ _ (by exact hne)).trans h
theorem hk_alloc {x y : World} {b : Nat} {ob : Obj} (h : y.heap[b]? = x.heap[b]?) (hlt : b < y.heap.size) : (y.alloc ob).heap[b]? = x.heap[b]? := (Below.heap_alloc _ _ _ hlt).trans h
theorem bel_set {w y : World} {g o : Nat} {v : Value} (h : Below w.heap.size w y) (hg : w.heap.size ≤ g) : Below w.heap.size w (y.setCell ⟨g, o, none⟩ v) := h.setCell (p := ⟨g, o, none⟩) hg v
theorem cs_new {x : World} {g : Nat} {v0 v1 v2 v3 v4 : Value} {t : TypeId} (hg : g = x.heap.size) : CS (x.alloc (.cells #[v0, v1, v2, v3, v4] t)) g v0 v1 v2 v3 v4 := by
  subst hg
  exact cs_row (row_alloc x _ _)
theorem cs_set5 {x : World} {g : Nat} {u0 u1 u2 u3 u4 v0 v1 v2 v3 v4 : Value} (h : CS x g u0 u1 u2 u3 u4) : CS (((((x.setCell ⟨g, 0, none⟩ v0).setCell ⟨g, 1, none⟩ v1).setCell ⟨g, 2, none⟩ v2).setCell ⟨g, 3, none⟩ v3).setCell ⟨g, 4, none⟩ v4) g v0 v1 v2 v3 v4 := set5_same (o := 0) v0 v1 v2 v3 v4 h.1 h.2.1 h.2.2.1 h.2.2.2.1 h.2.2.2.2
theorem cs_other {x : World} {b g : Nat} {u0 u1 u2 u3 u4 v0 v1 v2 v3 v4 : Value} (h : CS x b v0 v1 v2 v3 v4) (hne : b ≠ g) : CS (((((x.setCell ⟨g, 0, none⟩ u0).setCell ⟨g, 1, none⟩ u1).setCell ⟨g, 2, none⟩ u2).setCell ⟨g, 3, none⟩ u3).setCell ⟨g, 4, none⟩ u4) b v0 v1 v2 v3 v4 := cs_set (cs_set (cs_set (cs_set (cs_set h hne) hne) hne) hne) hne
theorem hk_set5 {x y : World} {b g : Nat} {u0 u1 u2 u3 u4 : Value} (h : y.heap[b]? = x.heap[b]?) (hne : b ≠ g) : (((((y.setCell ⟨g, 0, none⟩ u0).setCell ⟨g, 1, none⟩ u1).setCell ⟨g, 2, none⟩ u2).setCell ⟨g, 3, none⟩ u3).setCell ⟨g, 4, none⟩ u4).heap[b]? = x.heap[b]? := hk_set (hk_set (hk_set (hk_set (hk_set h hne) hne) hne) hne) hne
theorem bel_set5 {w y : World} {g : Nat} {u0 u1 u2 u3 u4 : Value} (h : Below w.heap.size w y) (hg : w.heap.size ≤ g) : Below w.heap.size w (((((y.setCell ⟨g, 0, none⟩ u0).setCell ⟨g, 1, none⟩ u1).setCell ⟨g, 2, none⟩ u2).setCell ⟨g, 3, none⟩ u3).setCell ⟨g, 4, none⟩ u4) := bel_set (bel_set (bel_set (bel_set (bel_set h hg) hg) hg) hg) hg
theorem rep_leaf {x : World} {n : Nat} {Kv Iv : Int} {Fv : Nat} {Zv : ByteArray} {qv : Option Addr} {mv dv : Nat} {K I : Int} {F : Nat} {Z : ByteArray} (h : Rep x (n + 1) (.agg #[.int .i64 Kv, .int .i64 Iv, .float .f64 Fv, .string Zv, .slice qv mv dv]) (K, I, F, Z, [])) : Kv = K ∧ Iv = I ∧ Fv = F ∧ Zv = Z ∧ mv = 0 := by
  obtain ⟨p, l, c, hv, _, _, _, _, hl, _⟩ := h
  injection hv with hv
  simp only [Array.mk.injEq, List.cons.injEq, and_true] at hv
  obtain ⟨h1, h2, h3, h4, h5⟩ := hv
  injection h1 with _ h1
  injection h2 with _ h2
  injection h3 with _ h3
  injection h4 with h4
  injection h5 with _ h5 _
  exact ⟨h1, h2, h3, h4, h5.trans hl.symm⟩
/-- What lies in blocks behind lo, in a world that has them still. -/
theorem rep_outS {B lo : Nat} {x y : World} {n : Nat} {v : Value} {T : VT n} (h : RepS (fun b => B ≤ b) x n v T) (hlo : lo + 1 ≤ B) (hk : ∀ b, B ≤ b → b < x.heap.size → y.heap[b]? = x.heap[b]?) : RepS (fun b => lo + 1 ≤ b) y n v T :=
  repS_mono (S := fun b => B ≤ b ∧ b < x.heap.size) (fun b hb => Nat.le_trans hlo hb.1) n v T (repS_keep (fun b hb => hk b hb.1 hb.2) n v T (repS_lt n v T h))
/-- A box that may be stored into, and a float of a list. -/
def CSL (x : World) (b : Nat) (v0 v1 v2 v3 v4 : Value) (lb lo y : Nat) : Prop := x.cell? ⟨b, 0, none⟩ = some v0 ∧ x.cell? ⟨b, 1, none⟩ = some v1 ∧ x.cell? ⟨b, 2, none⟩ = some v2 ∧ x.cell? ⟨b, 3, none⟩ = some v3 ∧ x.cell? ⟨b, 4, none⟩ = some v4 ∧ x.cell? ⟨lb, lo, none⟩ = some (.float .f64 y) ∧ ∀ o, x.frozen? ⟨b, o, none⟩ = false
theorem csl_step {x y : World} {b : Nat} {v0 v1 v2 v3 v4 : Value} {lb lo z : Nat} (h : CSL x b v0 v1 v2 v3 v4 lb lo z) (hb : Below x.heap.size x y) : CSL y b v0 v1 v2 v3 v4 lb lo z :=
  ⟨cell_keep hb h.1, cell_keep hb h.2.1, cell_keep hb h.2.2.1, cell_keep hb h.2.2.2.1, cell_keep hb h.2.2.2.2.1, cell_keep hb h.2.2.2.2.2.1, fun o => (hb.frozen (p := ⟨b, o, none⟩) (show b < _ from cell_lt h.1)).trans (h.2.2.2.2.2.2 o)⟩
theorem csl_alloc {x : World} {b : Nat} {v0 v1 v2 v3 v4 : Value} {lb lo z : Nat} (h : CSL x b v0 v1 v2 v3 v4 lb lo z) (o : Obj) : CSL (x.alloc o) b v0 v1 v2 v3 v4 lb lo z := csl_step h (bel_alloc (Below.refl _ _) o)
theorem csl_drew {x : World} {b : Nat} {v0 v1 v2 v3 v4 : Value} {lb lo z : Nat} (h : CSL x b v0 v1 v2 v3 v4 lb lo z) : CSL x.drew b v0 v1 v2 v3 v4 lb lo z := csl_step h (Below.drew (Below.refl _ _))
theorem csl_set {x : World} {b g o : Nat} {v v0 v1 v2 v3 v4 : Value} {lb lo z : Nat} (h : CSL x b v0 v1 v2 v3 v4 lb lo z) (hne : b ≠ g) (hnl : lb ≠ g) : CSL (x.setCell ⟨g, o, none⟩ v) b v0 v1 v2 v3 v4 lb lo z := by
  have e : ∀ i, (x.setCell ⟨g, o, none⟩ v).cell? ⟨b, i, none⟩ = x.cell? ⟨b, i, none⟩ := fun i => World.cell?_setCell_other _ _ _ _ (fun e => hne (congrArg Addr.block e).symm)
  have e' : ∀ i, (x.setCell ⟨g, o, none⟩ v).cell? ⟨lb, i, none⟩ = x.cell? ⟨lb, i, none⟩ := fun i => World.cell?_setCell_other _ _ _ _ (fun e => hnl (congrArg Addr.block e).symm)
  unfold CSL at h ⊢
  simp only [e, e', World.frozen?_setCell]
  exact h
theorem csl_set5 {x : World} {b g : Nat} {u0 u1 u2 u3 u4 v0 v1 v2 v3 v4 : Value} {lb lo z : Nat} (h : CSL x b v0 v1 v2 v3 v4 lb lo z) (hne : b ≠ g) (hnl : lb ≠ g) : CSL (((((x.setCell ⟨g, 0, none⟩ u0).setCell ⟨g, 1, none⟩ u1).setCell ⟨g, 2, none⟩ u2).setCell ⟨g, 3, none⟩ u3).setCell ⟨g, 4, none⟩ u4) b v0 v1 v2 v3 v4 lb lo z := csl_set (csl_set (csl_set (csl_set (csl_set h hne hnl) hne hnl) hne hnl) hne hnl) hne hnl
theorem csl_cs {x : World} {b : Nat} {v0 v1 v2 v3 v4 : Value} {lb lo z : Nat} (h : CSL x b v0 v1 v2 v3 v4 lb lo z) : CS x b v0 v1 v2 v3 v4 := ⟨h.1, h.2.1, h.2.2.1, h.2.2.2.1, h.2.2.2.2.1⟩
/-- A box that may be stored into. -/
def SBX (x : World) (b : Nat) (v0 v1 v2 v3 v4 : Value) : Prop := CS x b v0 v1 v2 v3 v4 ∧ ∀ o, x.frozen? ⟨b, o, none⟩ = false
theorem sbx_step {x y : World} {b : Nat} {v0 v1 v2 v3 v4 : Value} (h : SBX x b v0 v1 v2 v3 v4) (hb : Below x.heap.size x y) : SBX y b v0 v1 v2 v3 v4 := ⟨cs_step h.1 hb, fun o => (hb.frozen (p := ⟨b, o, none⟩) (show b < _ from cs_lt h.1)).trans (h.2 o)⟩
theorem csl_sbx {x : World} {b : Nat} {v0 v1 v2 v3 v4 : Value} {lb lo z : Nat} (h : CSL x b v0 v1 v2 v3 v4 lb lo z) : SBX x b v0 v1 v2 v3 v4 := ⟨csl_cs h, h.2.2.2.2.2.2⟩
theorem sbx_csl {x : World} {b : Nat} {v0 v1 v2 v3 v4 : Value} {lb lo z : Nat} (h : SBX x b v0 v1 v2 v3 v4) (hl : x.cell? ⟨lb, lo, none⟩ = some (.float .f64 z)) : CSL x b v0 v1 v2 v3 v4 lb lo z := ⟨h.1.1, h.1.2.1, h.1.2.2.1, h.1.2.2.2.1, h.1.2.2.2.2, hl, h.2⟩
theorem sbx_set5 {x : World} {g : Nat} {u0 u1 u2 u3 u4 v0 v1 v2 v3 v4 : Value} (h : SBX x g u0 u1 u2 u3 u4) : SBX (((((x.setCell ⟨g, 0, none⟩ v0).setCell ⟨g, 1, none⟩ v1).setCell ⟨g, 2, none⟩ v2).setCell ⟨g, 3, none⟩ v3).setCell ⟨g, 4, none⟩ v4) g v0 v1 v2 v3 v4 := ⟨cs_set5 h.1, fun o => by simp only [World.frozen?_setCell]; exact h.2 o⟩
end Num
end Go.Proofs.Ytpbfaffheigjcaa
