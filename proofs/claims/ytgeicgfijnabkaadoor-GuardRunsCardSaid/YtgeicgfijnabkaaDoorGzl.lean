/-
  GuardRuns at what its arguments may be.
-/
import Derived.Test.YtgeicgfijnabkaaDoorGz
import Derived.Test.YtgeicgfijnabkaaDoorGy
namespace Go.Proofs.YtgeicgfijnabkaaDoor
open Go.RowKit Go.ChangeShapes Go.WideShapes
namespace Num
open Ints
set_option linter.unusedVariables false
theorem wide_of_Trod {H : Type} {enc : TypeId × Value → H} {w : World} {base : Nat} {spare : Nat → Bool} {held : Bool} {v : Value} {d : DataW H} {ps : List MemPlace} (h : DataW.Trod enc Tryd.prog w base spare held 25 v d ps) (hw : (d.weights Tryd.prog 25).all (· ≤ reachBytes) = true) : ∃ (n : Nat) (T : VT n), Rep w n v T ∧ wideT n T := by
  obtain ⟨fuel, hf⟩ := h
  obtain ⟨T, hT, hW⟩ := wide_of_trod fuel fuel (by omega) _ _ hf hw
  refine ⟨fuel, T, ?_, hW⟩
  obtain ⟨_, _, _, _, _, _, _, _, hcs, _⟩ := trod5 hf
  have e : Value.agg v.cells.toList.toArray = v := by
    cases v <;> first | rfl | (simp [Value.cells] at hcs)
  rwa [e] at hT
theorem runs_card {H : Type} {enc : TypeId × Value → H} {W : World} {base : Nat} {spare : Nat → Bool} {held : Bool} {v : Value} {d : DataW H} {ps : List MemPlace} (k : DataW.Trod enc Tryd.prog W base spare held 25 v d ps) (hw : (d.weights Tryd.prog 25).all (· ≤ reachBytes) = true)
    (e : Int) (he : 0 ≤ e ∧ e ≤ 65535) (h : Int) (hh : 0 ≤ h ∧ h ≤ 255) (S : ByteArray) (_ : S.size ≤ maxLen) (x : Int) (_ : -9223372036854775808 ≤ x ∧ x ≤ 9223372036854775807) (W' : World) (hW : W' = W) :
    Calls Tryd.prog 3 #[v, .int .u16 e, .int .u8 h, .string S, .int .i64 x] W' fun e w' => e = .returned (.bool true) ∧ Below W'.heap.size W' w' := by
  subst hW
  obtain ⟨n, T, hr, hwd⟩ := wide_of_Trod k hw
  obtain ⟨K, I, F, Z, q, m, d', rfl⟩ : ∃ (K I : Int) (F : Nat) (S : ByteArray) (q : Option Addr) (m d : Nat), v = .agg #[.int .i64 K, .int .i64 I, .float .f64 F, .string S, .slice q m d] := by
    cases n with
    | zero => exact hr.elim
    | succ n => obtain ⟨q, m, d, hv, _⟩ := hr; exact ⟨_, _, _, _, q, m, d, hv⟩
  exact runs_law n T K I F Z q m d' e h S x W' hr hwd he.1 he.2 hh.1
end Num
end Go.Proofs.YtgeicgfijnabkaaDoor
