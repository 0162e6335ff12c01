/-
  Values: their bulk; what package guard makes of them.
-/
import Derived.Test.YtgeicgfijnabkaaDoorKT
import Derived.Test.YtgeicgfijnabkaaDoorFlo
namespace Go.Proofs.YtgeicgfijnabkaaDoor
open Go.RowKit
namespace Num
open Ints
set_option linter.unusedSimpArgs false
set_option linter.unusedVariables false
/-- No list of a value is longer than what one may be handed. -/
def wideT : (n : Nat) → VT n → Prop
  | 0, _ => True
  | n + 1, T => T.2.2.2.2.length ≤ 2199023255488 ∧ ∀ x ∈ T.2.2.2.2, wideT n x
theorem wide_nil {n : Nat} {K I : Int} {F : Nat} {S : ByteArray} : wideT (n + 1) (K, I, F, S, []) := ⟨Nat.zero_le _, fun x h => absurd h List.not_mem_nil⟩
/-- A value as package guard tells it. -/
def gcT : (n : Nat) → VT n → VT n
  | 0, T => T
  | n + 1, T => if (T.1 == 1) = true then (1, T.2.1, 0, ⟨#[]⟩, []) else if (T.1 == 2) = true then (2, 0, Flo.canon T.2.2.1, ⟨#[]⟩, [])
      else if (T.1 == 3) = true then (3, 0, 0, T.2.2.2.1, []) else if (T.1 == 4) = true then (4, 0, 0, ⟨#[]⟩, T.2.2.2.2.map (gcT n)) else (T.1, 0, 0, ⟨#[]⟩, [])
theorem wide_gc : ∀ (n : Nat) (T : VT n), wideT n T → wideT n (gcT n T)
  | 0, _, _ => trivial
  | n + 1, (K, I, F, S, L), h => by
    unfold gcT
    split
    · exact wide_nil
    · split
      · exact wide_nil
      · split
        · exact wide_nil
        · split
          · refine ⟨by simpa using h.1, fun x hx => ?_⟩
            obtain ⟨y, hy, rfl⟩ := List.mem_map.1 hx
            exact wide_gc n y (h.2 y hy)
          · exact wide_nil
theorem clean_gc : ∀ (n : Nat) (T : VT n), cleanT n (gcT n T) = cleanT n T
  | 0, _ => rfl
  | n + 1, (K, I, F, S, L) => by
    by_cases h1 : K = 1
    · subst h1; rfl
    by_cases h2 : K = 2
    · subst h2
      show (2, 0, Flo.canon (Flo.canon F), (⟨#[]⟩ : ByteArray), ([] : List (VT n))) = (2, 0, Flo.canon F, ⟨#[]⟩, [])
      rw [Flo.canon_canon]
    by_cases h3 : K = 3
    · subst h3; rfl
    by_cases h4 : K = 4
    · subst h4
      show (4, 0, 0, (⟨#[]⟩ : ByteArray), (L.map (gcT n)).map (cleanT n)) = (4, 0, 0, ⟨#[]⟩, L.map (cleanT n))
      rw [List.map_map, List.map_congr_left (f := cleanT n ∘ gcT n) (g := cleanT n) (fun x _ => clean_gc n x)]
    have e : gcT (n + 1) (K, I, F, S, L) = (K, 0, 0, ⟨#[]⟩, []) := by
      unfold gcT
      rw [if_neg (by simpa using h1), if_neg (by simpa using h2), if_neg (by simpa using h3), if_neg (by simpa using h4)]
    rw [e]
    unfold cleanT
    rw [if_neg (by simpa using h1), if_neg (by simpa using h2), if_neg (by simpa using h3), if_neg (by simpa using h4)]
    rw [if_neg (by simpa using h1), if_neg (by simpa using h2), if_neg (by simpa using h3), if_neg (by simpa using h4)]
end Num
end Go.Proofs.YtgeicgfijnabkaaDoor
