/-
  Short words for long texts (mini.py): a store's facts, rows of five cells, steps of a drawn region that are taken one behind another.
-/
import Derived.Test.YteodljkcbddehaaJp0Row
import Derived.Deep.RegionHeld3
import Derived.RegionTactic
namespace Go.Proofs.Yteodljkcbddehaa
open Go.RowKit
namespace Num
set_option linter.unusedSimpArgs false
set_option linter.unusedVariables false
theorem s5o {w : World} {g b : Nat} {x : Option Obj} {u0 u1 u2 u3 u4 : Value} (h : w.heap[b]? = x) (hne : b ≠ g) : (((((w.setCell ⟨g, 0, none⟩ u0).setCell ⟨g, 1, none⟩ u1).setCell ⟨g, 2, none⟩ u2).setCell ⟨g, 3, none⟩ u3).setCell ⟨g, 4, none⟩ u4).heap[b]? = x := (set5_other (w := w) (g := g) (o := 0) hne).trans h
theorem s5r {w : World} {b : Nat} {a0 a1 a2 a3 a4 v0 v1 v2 v3 v4 : Value} {t : TypeId} (h : w.heap[b]? = some (.cells #[a0, a1, a2, a3, a4] t (0, 0))) : (((((w.setCell ⟨b, 0, none⟩ v0).setCell ⟨b, 1, none⟩ v1).setCell ⟨b, 2, none⟩ v2).setCell ⟨b, 3, none⟩ v3).setCell ⟨b, 4, none⟩ v4).heap[b]? = some (.cells #[v0, v1, v2, v3, v4] t (0, 0)) := by
  simp [World.setCell, Array.getElem?_modify, h]
theorem s5b {W w : World} {B g : Nat} {u0 u1 u2 u3 u4 : Value} (h : Below B W w) (hg : B ≤ g) : Below B W (((((w.setCell ⟨g, 0, none⟩ u0).setCell ⟨g, 1, none⟩ u1).setCell ⟨g, 2, none⟩ u2).setCell ⟨g, 3, none⟩ u3).setCell ⟨g, 4, none⟩ u4) := set5_below (o := 0) h hg u0 u1 u2 u3 u4
theorem rc {w : World} {b : Nat} {cs : Array Value} {t : TypeId} (h : w.heap[b]? = some (.cells cs t (0, 0))) (i : Nat) : w.cell? ⟨b, i, none⟩ = cs[i]? := row_cell h i
theorem ck {w w' : World} (hb : Below w.heap.size w w') {a : Addr} {v : Value} (h : w.cell? a = some v) : w'.cell? a = some v := cell_keep hb h
theorem br {B : Nat} {x : World} : Below B x x := Below.refl B x
theorem ra {w : World} {a : Nat} {cs : Array Value} {t : TypeId} (h : a = w.heap.size) : (w.alloc (.cells cs t)).heap[a]? = some (.cells cs t (0, 0)) := by rw [h]; exact row_alloc w cs t
theorem r7 {w : World} {b : Nat} {v0 v1 v2 v3 v4 : Value} {t : TypeId} (h : w.heap[b]? = some (.cells #[v0, v1, v2, v3, v4] t (0, 0))) : w.cell? ⟨b, 0, none⟩ = some v0 ∧ w.cell? ⟨b, 1, none⟩ = some v1 ∧ w.cell? ⟨b, 2, none⟩ = some v2 ∧ w.cell? ⟨b, 3, none⟩ = some v3 ∧ w.cell? ⟨b, 4, none⟩ = some v4 ∧ (∀ o, w.frozen? ⟨b, o, none⟩ = false) ∧ b < w.heap.size := ⟨row_cell h 0, row_cell h 1, row_cell h 2, row_cell h 3, row_cell h 4, fun o => row_frz h o, row_lt h⟩
theorem lk0 {α : Type} {l : List α} {i : Nat} : l.toArray[i]? = l[i]? := List.getElem?_toArray
theorem lk1 {α : Type} {a : α} {l : List α} : (a :: l)[0]? = some a := List.getElem?_cons_zero
theorem lk2 {α : Type} {a : α} {l : List α} {i : Nat} : (a :: l)[i + 1]? = l[i]? := List.getElem?_cons_succ
theorem pk0 {α : Type} {l : List α} {i : Nat} {a : α} : l.toArray.setIfInBounds i a = (l.set i a).toArray := List.setIfInBounds_toArray ..
theorem pk1 {α : Type} {x a : α} {l : List α} : (x :: l).set 0 a = a :: l := List.set_cons_zero
theorem pk2 {α : Type} {x a : α} {l : List α} {i : Nat} : (x :: l).set (i + 1) a = x :: l.set i a := List.set_cons_succ
abbrev Zw (z : World) (a : Nat) (v0 v1 v2 v3 v4 : Value) : Prop := z.heap[a]? = some (.cells #[v0, v1, v2, v3, v4] 27 (0, 0))
abbrev Zz (z : World) (a : Nat) : Prop := z.heap[a]? = some (.cells #[.int .i64 0, .int .i64 0, .float .f64 0, .string ⟨#[]⟩, .slice none 0 0] 27 (0, 0))
abbrev ZF (z : World) (a F : Nat) : Prop := z.heap[a]? = some (.cells #[.int .i64 2, .int .i64 0, .float .f64 F, .string ⟨#[]⟩, .slice none 0 0] 27 (0, 0))
abbrev ZN (z : World) (a : Nat) (s : ByteArray) : Prop := z.heap[a]? = some (.cells #[.int .i64 3, .int .i64 0, .float .f64 0, .string s, .slice none 0 0] 27 (0, 0))
abbrev ZL (z : World) (a : Nat) (p : Option Addr) (l c : Nat) : Prop := z.heap[a]? = some (.cells #[.int .i64 4, .int .i64 0, .float .f64 0, .string ⟨#[]⟩, .slice p l c] 27 (0, 0))
theorem bz {x : World} : Below x.heap.size x (x.alloc (.cells #[.int .i64 0, .int .i64 0, .float .f64 0, .string ⟨#[]⟩, .slice none 0 0] 27)) := bel_alloc (Below.refl _ _) _
section
variable {P : Program} {md : Region.Mode} {ops : Array Oper} {Q : Exit → Act → World → Prop} {S : World → Prop}
/-- May this one be taken now? -/
def ztB (md : Region.Mode) (ops : Array Oper) (listed : Array Bool) (i : Nat) : Bool := Region.noSelect ops && (Region.free md ops listed i && (Region.ready md ops listed).contains i)
/-- A walk through a region, and which operations are to be taken next. -/
def zTk (_ : List Nat) (P : Program) (md : Region.Mode) (ops : Array Oper) (Q : Exit → Act → World → Prop) (S : World → Prop) (fuel : Nat) (listed : Array Bool) (a : Act) (w : World) : Prop := wpAnyH P md ops Q S fuel listed a w
theorem zt (L : List Nat) {fuel : Nat} {listed : Array Bool} {a : Act} {w : World} (h : zTk L P md ops Q S fuel listed a w) : wpAnyH P md ops Q S fuel listed a w := h
theorem zt0 {fuel : Nat} {listed : Array Bool} {a : Act} {w : World} (h : wpAnyH P md ops Q S fuel listed a w) : zTk [] P md ops Q S fuel listed a w := h
theorem zt1 {i : Nat} {L : List Nat} {fuel : Nat} {listed : Array Bool} {a : Act} {w : World} {oi : Oper} {v : Value} (hQ : ∀ c a (d : Option Tmp) v w, Q (.panic c) (Act.put a d v) w → Q (.panic c) a w) (hi : ops[i]? = some oi) (hb : ztB md ops listed i = true) (hS : S w)
    (hw : Region.wanted oi (yielded ops a.tmps) = true) (hy : ∀ w, S w → (execOp a.eval oi).run P w = .ok (.value v) w) (h : zTk L P md ops Q S fuel (listed.setIfInBounds i true) (a.put oi.dst v) w) : zTk (i :: L) P md ops Q S (fuel + 1) listed a w := by
  unfold ztB at hb
  rw [Bool.and_eq_true, Bool.and_eq_true] at hb
  exact wpAnyH_take hi hb.1 hb.2.1 hb.2.2 (fun c a w => hQ c a oi.dst v w) (Or.inl ⟨hw, hy⟩) hS h
/-- One operation comes up next. -/
theorem zr1 (i : Nat) {o : Oper} {fuel : Nat} {listed : Array Bool} {a : Act} {w : World} (hr : Region.ready md ops listed = [i]) (ho : ops[i]? = some o)
    (h : ∀ K' : Act → World → Prop, Shut (∀ a w, S w → (S w → wpAnyH P md ops Q S fuel (listed.setIfInBounds i true) a w) → K' a w) → if Region.wanted o (yielded ops a.tmps) = true then Oper.wp P o a w K' Q else K' (a.put o.dst undef) w) : wpAnyH P md ops Q S (fuel + 1) listed a w :=
  wpAnyH_ready hr (by simp) (AllReadyH.cons ho h AllReadyH.nil)
end
end Num
end Go.Proofs.Yteodljkcbddehaa
