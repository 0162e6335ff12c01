/-
  DedupApart: what Look tells of two tables that are alike in one client's calls.
-/
import Derived.Test.YtijfgmhdkflfmaaTd0
namespace Go.Proofs.Ytijfgmhdkflfmaa
open Go.RowKit
namespace Num
open Ints
set_option linter.unusedSimpArgs false
set_option linter.unusedVariables false
/-- What Look tells of one id, in every world that goes on from this one. -/
def LookIs (tb : Nat) (x : DId) (ok : Bool) (er I : Int) (wr : World) : Prop :=
  ∀ y, Below wr.heap.size wr y → Calls Try.prog 9 #[.pointer (some ⟨tb, 0, none⟩), didA x] y fun e w' => ∃ r : RE 1, e = .returned (.tuple #[r.a, .bool ok, .int .i64 er]) ∧ r.I = I ∧ Below y.heap.size y w'
theorem ap_look {w wr : World} {tb1 mr1 mc1 tb2 mr2 mc2 : Nat} {c : Int} {i g : Nat} (h : Ap w wr tb1 mr1 mc1 tb2 mr2 mc2 c i g) (s : Int) : ∃ ok er I, LookIs tb1 (c, s, 0) ok er I wr ∧ LookIs tb2 (c, s, 0) ok er I wr := by
  obtain ⟨P, Q, R, C, R2, C2, m, m2, h1, h2, _, _, _, h6, h7, h8, h9, _⟩ := h
  have h7s := h7 s 0
  cases hr : getR R (c, s, 0) with
  | some r =>
    cases hr2 : getR R2 (c, s, 0) with
    | none => rw [hr, hr2] at h7s; cases h7s
    | some r2 =>
      rw [hr, hr2, Option.map_some, Option.map_some] at h7s
      injection h7s with hT
      obtain ⟨I, hI⟩ := h8 r (List.mem_of_find?_eq_some hr)
      rw [hI] at hT
      refine ⟨true, 0, I, fun y hy => (look_some 1 y tb1 _ _ R C _ r (st_step h1 hy).tab hr (by rw [hI]; exact lf_lite 1 I (Or.inr rfl))).mono ?_, fun y hy => (look_some 1 y tb2 _ _ R2 C2 _ r2 (st_step h2 hy).tab hr2 (by rw [← hT]; exact lf_lite 1 I (Or.inr rfl))).mono ?_⟩
      · rintro e w' ⟨r', rfl, _, _, hT', hv, hb⟩
        exact ⟨r', rfl, (by rw [re_I hv, hT', hI, lf_clean 1 I (Or.inr rfl)]), hb⟩
      · rintro e w' ⟨r', rfl, _, _, hT', hv, hb⟩
        exact ⟨r', rfl, (by rw [re_I hv, hT', ← hT, lf_clean 1 I (Or.inr rfl)]), hb⟩
  | none =>
    have hr2 : getR R2 (c, s, 0) = none := by
      cases hr2 : getR R2 (c, s, 0) with
      | none => rfl
      | some r2 => rw [hr, hr2] at h7s; cases h7s
    have ho : oldC C2 (c, s, 0) = oldC C (c, s, 0) := by rw [old_dat, old_dat]; show oldD (gL C2 c) s = oldD (gL C c) s; rw [h6]
    refine ⟨false, if oldC C (c, s, 0) = true then 43 else 0, 0, fun y hy => (look_no 1 y tb1 _ _ R C _ (st_step h1 hy).tab hr).mono ?_, fun y hy => (look_no 1 y tb2 _ _ R2 C2 _ (st_step h2 hy).tab hr2).mono ?_⟩
    · rintro e w' ⟨rfl, hb⟩
      exact ⟨lfR (0, 0, 0) 0 0, rfl, rfl, hb⟩
    · rintro e w' ⟨rfl, hb⟩
      rw [ho]
      exact ⟨lfR (0, 0, 0) 0 0, rfl, rfl, hb⟩
end Num
end Go.Proofs.Ytijfgmhdkflfmaa
