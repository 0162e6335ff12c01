/-
  A map's block anew; where an item stands.
-/
import Derived.Test.YtbfnghbfilahnaaRow
import Derived.Test.YtbfnghbfilahnaaInts
import Derived.LaidEql
import Derived.MapKept
import Derived.Laws.Cover3
import Derived.Maps.AppendAt
namespace Go.Proofs.Ytbfnghbfilahnaa
open Go.RowKit
namespace Num
open Ints
set_option linter.unusedSimpArgs false
set_option linter.unusedVariables false
abbrev kv (e : MapEntry) : Value × Value := (e.key, e.val)
theorem idx_get {α : Type} (p : α → Bool) : ∀ (L : List α), ((L.findIdx? p).bind fun j => L[j]?) = L.find? p
  | [] => rfl
  | a :: L => by
    rw [List.findIdx?_cons, List.find?_cons]
    cases p a with
    | true => simp
    | false =>
      have := idx_get p L
      cases h : L.findIdx? p with
      | none => rw [h] at this; simpa using this
      | some j => rw [h] at this; simpa using this
/-- A map's block anew. -/
def mpD (w : World) (mb : Nat) (es : Array MapEntry) (ck : Nat) : World := { w with heap := w.heap.setIfInBounds mb (.map es ck) }
theorem mpD_at {w : World} {mb : Nat} {o : Obj} (h : w.heap[mb]? = some o) (es : Array MapEntry) (ck : Nat) : (mpD w mb es ck).heap[mb]? = some (.map es ck) := (MapKept.heap_set h).1
theorem mpD_other {w : World} {mb k : Nat} (hne : k ≠ mb) (es : Array MapEntry) (ck : Nat) : (mpD w mb es ck).heap[k]? = w.heap[k]? := by
  show (w.heap.setIfInBounds mb _)[k]? = _
  simp [Ne.symm hne]
theorem map_erase {α β : Type} (f : α → β) (L : List α) (j : Nat) : (L.eraseIdx j).map f = (L.map f).eraseIdx j := by
  rw [List.eraseIdx_eq_take_drop_succ, List.eraseIdx_eq_take_drop_succ, List.map_append, List.map_take, List.map_drop]
end Num
end Go.Proofs.Ytbfnghbfilahnaa
