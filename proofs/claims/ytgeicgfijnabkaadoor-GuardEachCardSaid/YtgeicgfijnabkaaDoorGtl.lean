/-
  GuardEach at what its argument may be.
-/
import Derived.Test.YtgeicgfijnabkaaDoorGt
import Derived.Test.YtgeicgfijnabkaaDoorRT
namespace Go.Proofs.YtgeicgfijnabkaaDoor
open Go.RowKit Go.ChangeShapes Go.WideShapes
namespace Num
set_option linter.unusedVariables false
theorem each_plain (p : Option Addr) (l c : Nat) (X : List Int) (w : World) (hrd : RdB w p l c X) (hby : ∀ x ∈ X, 0 ≤ x ∧ x < 256) :
    Calls Tryd.prog 4 #[.slice p l c] w fun e w' => e = .returned (.bool true) ∧ Below w.heap.size w w' := by
  by_cases hl : l ≤ 30
  · obtain ⟨jb, h1, h2, h3⟩ := first_bad X
    by_cases hj : jb < X.length
    · exact each_law p l c X jb (wantOf X[jb]) w hl hrd hby (by rw [← hrd.1]; exact h1) h2 (fun h => ⟨h3 h, rfl⟩)
    · exact each_law p l c X jb 0 w hl hrd hby (by rw [← hrd.1]; exact h1) h2 (fun h => absurd h hj)
  · exact each_great p l c X w (by omega)
theorem each_card {H : Type} {enc : TypeId × Value → H} {W : World} {base : Nat} {spare : Nat → Bool} {held : Bool} {v : Value} {d : DataW H} {ps : List MemPlace} {b0 : Nat} (k : DataW.Trod enc Tryd.prog W base spare held 38 v d ps) (ho : Value.okWide Tryd.prog W .any b0 38 v) (_ : ∀ x ∈ ps, x.block < W.heap.size) (W' : World) (hW : W' = W) :
    Calls Tryd.prog 4 #[v] W' fun e w' => e = .returned (.bool true) ∧ Below W'.heap.size W' w' := by
  subst hW
  obtain ⟨p, l, c, X, rfl, hrd, hby⟩ := rd_of_Trod k ho
  exact each_plain p l c X W' hrd hby
end Num
end Go.Proofs.YtgeicgfijnabkaaDoor
