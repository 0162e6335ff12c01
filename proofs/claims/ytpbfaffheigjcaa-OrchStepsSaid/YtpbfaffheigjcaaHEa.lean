/-
  Looking a method up in a class's map.
-/
import Derived.Test.YtpbfaffheigjcaaHB
namespace Go.Proofs.Ytpbfaffheigjcaa
open Go.RowKit
namespace Num
open Ints
set_option linter.unusedSimpArgs false
set_option linter.unusedVariables false
def wrS (k : ByteArray) : List (ByteArray × Bool × ByteArray) → Bool
  | [] => false
  | x :: r => if (k == x.1) = true then x.2.1 else wrS k r
def findM (k : ByteArray) : List (ByteArray × Bool × ByteArray) → Option (ByteArray × Bool × ByteArray)
  | [] => none
  | x :: r => if (k == x.1) = true then some x else findM k r
theorem wr_find (k : ByteArray) : ∀ M, wrS k M = ((findM k M).map (fun x => x.2.1)).getD false
  | [] => rfl
  | x :: r => by
    unfold wrS findM
    cases h : (k == x.1)
    · simpa using wr_find k r
    · simp
theorem sig_find {w : World} (k : ByteArray) : ∀ (L : List (ByteArray × Value)) (M : List (ByteArray × Bool × ByteArray)) (j : Nat), L.map (fun x => x.1) = M.map (fun x => x.1) → (∀ i (h : i < L.length) (h' : i < M.length), SigAt w L[i].2 M[i]) →
    (findM k M = none ∧ findS k L j = none) ∨ ∃ x i v, findM k M = some x ∧ findS k L j = some (i, v) ∧ SigAt w v x
  | [], M, j, h, _ => by
    cases M with
    | nil => exact Or.inl ⟨rfl, rfl⟩
    | cons x r => cases h
  | x :: r, M, j, h, hs => by
    cases M with
    | nil => cases h
    | cons y s =>
      rw [List.map_cons, List.map_cons, List.cons.injEq] at h
      unfold findS findM
      rw [← h.1]
      cases e : (k == x.1)
      · exact sig_find k r s (j + 1) h.2 (fun i h1 h2 => by have := hs (i + 1) (by simpa using h1) (by simpa using h2); simpa using this)
      · have h0 := hs 0 (by simp) (by simp)
        simp only [List.getElem_cons_zero] at h0
        exact Or.inr ⟨y, j, x.2, rfl, rfl, h0⟩
/-- A look-up in a class's map, with ok. -/
theorem look_find {w : World} {b : Nat} {M : List (ByteArray × Bool × ByteArray)} (h : MapOf w (.map (some b)) M) (k : ByteArray) :
    (findM k M = none ∧ ∀ c : Bool, (Instr.lookup 72 (.map (some b)) (.string k) c).run Try.prog w = .ok (if c then .tuple #[noSig, .bool false] else noSig) w) ∨
    ∃ x v, findM k M = some x ∧ SigAt w v x ∧ ∀ c : Bool, (Instr.lookup 72 (.map (some b)) (.string k) c).run Try.prog w = .ok (if c then .tuple #[v, .bool true] else v) w := by
  rcases h with ⟨_, h⟩ | ⟨b', L, h, hh, hk, hs⟩
  · cases h
  · cases h
    rcases sig_find k L M 0 hk hs with ⟨h1, h2⟩ | ⟨x, i, v, h1, h2, h3⟩
    · refine Or.inl ⟨h1, fun c => ?_⟩
      cases c
      · exact (look_sig w b L L.length k hh).trans (by unfold sigOf; rw [h2]; rfl)
      · exact (look_ok w b L L.length k hh).trans (by unfold sigOf; rw [h2]; rfl)
    · refine Or.inr ⟨x, v, h1, h3, fun c => ?_⟩
      cases c
      · exact (look_sig w b L L.length k hh).trans (by unfold sigOf; rw [h2]; rfl)
      · exact (look_ok w b L L.length k hh).trans (by unfold sigOf; rw [h2]; rfl)
theorem look_writes {w : World} {b : Nat} {M : List (ByteArray × Bool × ByteArray)} (h : MapOf w (.map (some b)) M) (k : ByteArray) :
    ∃ (p : Option Addr) (n : Nat) (more : Int), (Instr.lookup 72 (.map (some b)) (.string k) false).run Try.prog w = .ok (.agg #[.slice p n n, .int .i64 more, .bool (wrS k M)]) w := by
  rcases look_find h k with ⟨h1, h2⟩ | ⟨x, v, h1, ⟨p, rfl, _⟩, h2⟩
  · exact ⟨none, 0, 0, (h2 false).trans (by rw [wr_find, h1]; rfl)⟩
  · exact ⟨p, _, _, (h2 false).trans (by rw [wr_find, h1]; rfl)⟩
theorem look_none_ok (w : World) (k : ByteArray) : (Instr.lookup 72 (.map none) (.string k) true).run Try.prog w = .ok (.tuple #[noSig, .bool false]) w := by
  simp [Instr.lookup, run_underlying sig_under, check_str, Instr.findKey, Instr.findNow, run_underlying Try.underlying9, zero_sig, noSig]
theorem metas_cases (c : ByteArray) : metas c = msC ∨ metas c = msL ∨ metas c = msO ∨ metas c = msQ ∨ metas c = msR ∨ metas c = msT ∨ metas c = [] := by
  unfold metas
  split
  · exact Or.inl rfl
  split
  · exact Or.inr (Or.inl rfl)
  split
  · exact Or.inr (Or.inr (Or.inl rfl))
  split
  · exact Or.inr (Or.inr (Or.inr (Or.inl rfl)))
  split
  · exact Or.inr (Or.inr (Or.inr (Or.inr (Or.inl rfl))))
  split
  · exact Or.inr (Or.inr (Or.inr (Or.inr (Or.inr (Or.inl rfl)))))
  exact Or.inr (Or.inr (Or.inr (Or.inr (Or.inr (Or.inr (rfl))))))
end Num
end Go.Proofs.Ytpbfaffheigjcaa
