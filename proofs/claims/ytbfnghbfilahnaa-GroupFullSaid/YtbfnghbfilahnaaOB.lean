/-
  Rows that a call owns: their form; blocks behind a call.
-/
import Derived.Test.YtbfnghbfilahnaaRow
import Derived.Maps.AppendAt
import Derived.ArgAppend
import Derived.Laws.BytesString
import Derived.Laws.BytesArg
import Derived.Laws.AppendOwnNone
import Derived.Lib.AppendStr
import Derived.Laws.MakeOwn
namespace Go.Proofs.Ytbfnghbfilahnaa
open Go.RowKit
namespace Num
set_option linter.unusedSimpArgs false
set_option linter.unusedVariables false
theorem own_form {w : World} {B : Nat} {e : TypeId} {v : Value} {n : Nat} {xs : List Value} (h : w.ownsRow B e 1 v n xs) : ∃ p c, v = .slice p n c := by
  rcases h.2 with ⟨rfl, rfl⟩ | ⟨g, cap, cur, rfl, _⟩
  · exact ⟨_, _, rfl⟩
  · exact ⟨_, _, rfl⟩
theorem bel_own {w w' : World} (h : Below w.heap.size w w') (row : Option Nat) : w.grownBy w' row := ⟨h.os, h.tape, h.output, h.size, fun i hi _ => h.block i hi⟩
end Num
end Go.Proofs.Ytbfnghbfilahnaa
