/-
  Values as trees: what a value in memory reads as, at most so many lists in one another; a reading gives a tree; calls that change nothing below keep it.
-/
import Derived.Test.YtpbfaffheigjcaaGreatJp3VBase
import Derived.ProofKit
namespace Go.Proofs.YtpbfaffheigjcaaGreat
open Go.RowKit Go.ChangeShapes Go.WideShapes
namespace Num
open Ints
set_option linter.unusedSimpArgs false
set_option linter.unusedVariables false

/-- A value at most n lists deep: kind, Int, Float's word, text, items. -/
@[reducible] def VT : Nat → Type
  | 0 => Unit
  | n + 1 => Int × Int × Nat × ByteArray × List (VT n)

/-- A slice of values leads to these. -/
def RepL {α : Type} (w : World) (R : Value → α → Prop) (p : Option Addr) (l c : Nat) (L : List α) : Prop :=
  L.length = l ∧ l ≤ c ∧ c ≤ maxLen ∧ (0 < l → ∃ b off, p = some ⟨b, off, none⟩ ∧ ∀ i (h : i < L.length), ∃ v0 v1 v2 v3 v4,
    w.cell? ⟨b, off + i * 5, none⟩ = some v0 ∧ w.cell? ⟨b, off + i * 5 + 1, none⟩ = some v1 ∧ w.cell? ⟨b, off + i * 5 + 2, none⟩ = some v2 ∧
    w.cell? ⟨b, off + i * 5 + 3, none⟩ = some v3 ∧ w.cell? ⟨b, off + i * 5 + 4, none⟩ = some v4 ∧ R (.agg #[v0, v1, v2, v3, v4]) L[i])

def Rep (w : World) : (n : Nat) → Value → VT n → Prop
  | 0, _, _ => False
  | n + 1, v, T => ∃ (p : Option Addr) (l c : Nat), v = .agg #[.int .i64 T.1, .int .i64 T.2.1, .float .f64 T.2.2.1, .string T.2.2.2.1, .slice p l c] ∧
      okI T.1 ∧ okI T.2.1 ∧ T.2.2.1 < 2 ^ 64 ∧ T.2.2.2.1.size ≤ maxLen ∧ RepL w (Rep w n) p l c T.2.2.2.2

theorem repL_keep {α : Type} {w w' : World} {R R' : Value → α → Prop} (hb : Below w.heap.size w w') (hR : ∀ v x, R v x → R' v x) {p : Option Addr} {l c : Nat} {L : List α} (h : RepL w R p l c L) : RepL w' R' p l c L := by
  obtain ⟨h1, h2, h3, h4⟩ := h
  refine ⟨h1, h2, h3, fun hl => ?_⟩
  obtain ⟨b, off, hp, hi⟩ := h4 hl
  refine ⟨b, off, hp, fun i hi' => ?_⟩
  obtain ⟨v0, v1, v2, v3, v4, c0, c1, c2, c3, c4, hr⟩ := hi i hi'
  exact ⟨v0, v1, v2, v3, v4, cell_keep hb c0, cell_keep hb c1, cell_keep hb c2, cell_keep hb c3, cell_keep hb c4, hR _ _ hr⟩
theorem rep_keep {w w' : World} (hb : Below w.heap.size w w') : ∀ (n : Nat) (v : Value) (T : VT n), Rep w n v T → Rep w' n v T := by
  intro n
  induction n with
  | zero => intro v T h; exact h.elim
  | succ n ih =>
    intro v T h
    obtain ⟨p, l, c, hv, h1, h2, h3, h4, h5⟩ := h
    exact ⟨p, l, c, hv, h1, h2, h3, h4, repL_keep hb ih h5⟩

theorem list_of {α : Type} {P : Nat → α → Prop} : ∀ l, (∀ i, i < l → ∃ x, P i x) → ∃ L : List α, L.length = l ∧ ∀ i (h : i < L.length), P i L[i] := by
  intro l
  induction l with
  | zero => intro _; exact ⟨[], rfl, fun i h => absurd h (Nat.not_lt_zero _)⟩
  | succ l ih =>
    intro h
    obtain ⟨L, hl, hL⟩ := ih (fun i hi => h i (by omega))
    obtain ⟨x, hx⟩ := h l (by omega)
    refine ⟨L ++ [x], by simp [hl], fun i hi => ?_⟩
    by_cases hlt : i < L.length
    · rw [List.getElem_append_left hlt]; exact hL i hlt
    · have : i = L.length := by simp at hi; omega
      subst this
      rw [List.getElem_append_right (by omega)]
      simpa [hl] using hx

section
variable {H : Type} {enc : TypeId × Value → H} {w : World} {base : Nat} {spare : Nat → Bool} {held : Bool}
end
end Num
end Go.Proofs.YtpbfaffheigjcaaGreat
/-
  A value as Clean makes it.
-/
namespace Go.Proofs.YtpbfaffheigjcaaGreat
open Go.RowKit
namespace Num
open Ints
set_option linter.unusedSimpArgs false
set_option linter.unusedVariables false
/-- A value as Clean makes it. -/
def cleanT : (n : Nat) → VT n → VT n
  | 0, T => T
  | n + 1, T => if (T.1 == 1) = true then (1, T.2.1, 0, ⟨#[]⟩, []) else if (T.1 == 2) = true then (2, 0, Flo.canon T.2.2.1, ⟨#[]⟩, [])
      else if (T.1 == 3) = true then (3, 0, 0, T.2.2.2.1, []) else if (T.1 == 4) = true then (4, 0, 0, ⟨#[]⟩, T.2.2.2.2.map (cleanT n)) else (0, 0, 0, ⟨#[]⟩, [])
end Num
end Go.Proofs.YtpbfaffheigjcaaGreat
