/-
  Regions walked by their states; a list's box that a law goes on with.
-/
import Derived.Test.YtpbfaffheigjcaaEQ
import Derived.Deep.RegionHeld3
import Derived.RegionTactic
import Derived.Deep.DeepCutAuto
namespace Go.Proofs.Ytpbfaffheigjcaa
open Go.RowKit
namespace Num
open Ints
set_option linter.unusedSimpArgs false
set_option linter.unusedVariables false
theorem repS_step {S : Nat → Prop} {W W' : World} {n : Nat} {v : Value} {T : VT n} (hb : Below W.heap.size W W') (h : RepS S W n v T) : RepS S W' n v T := repS_mono (S := fun b => S b ∧ b < W.heap.size) (fun b h => h.1) _ _ _ (repS_keep (fun b hb' => hb.block b hb'.2) _ _ _ (repS_lt _ _ _ h))
theorem repS_set {S : Nat → Prop} {W : World} {n g : Nat} {v : Value} {T : VT n} {u0 u1 u2 u3 u4 : Value} (h : RepS S W n v T) (hg : ∀ b, S b → b ≠ g) : RepS S (set5 W g 0 u0 u1 u2 u3 u4) n v T := repS_keep (fun b hb => set5_other (hg b hb)) _ _ _ h
/-- The operations listed besides. -/
def setL : Array Bool → List Nat → Array Bool
  | l, [] => l
  | l, i :: r => setL (l.setIfInBounds i true) r
theorem any_have {P : Program} {md : Region.Mode} {ops : Array Oper} {Q : Exit → Act → World → Prop} {S : World → Prop} {fuel : Nat} {listed : Array Bool} {a : Act} {w : World} (fuel' : Nat) (is : List Nat) (K : Act → Act → World → Prop)
    (h1 : ∀ a' w', K a a' w' → S w' → wpAnyH P md ops Q S fuel' (setL listed is) a' w') (h2 : (∀ a' w', K a a' w' → S w' → wpAnyH P md ops Q S fuel' (setL listed is) a' w') → wpAnyH P md ops Q S fuel listed a w) : wpAnyH P md ops Q S fuel listed a w := h2 h1
theorem any_eq {P : Program} {md : Region.Mode} {ops : Array Oper} {Q : Exit → Act → World → Prop} {S : World → Prop} {fuel : Nat} {listed listed' : Array Bool} {a a' : Act} {w : World} (hl : listed' = listed) (ha : a' = a) (h : wpAnyH P md ops Q S fuel listed' a' w) : wpAnyH P md ops Q S fuel listed a w := by
  subst hl ha
  exact h
/-- A table's box that the call goes on with. -/
def FB (w : World) (sb : Nat) (qs : Option Addr) (ms ds : Nat) (z : World) : Prop := CS z sb (.int .i64 4) (.int .i64 0) (.float .f64 0) (.string ⟨#[]⟩) (.slice qs ms ds) ∧ Below w.heap.size w z ∧ ∀ o, z.frozen? ⟨sb, o, none⟩ = false
theorem fb_step {w x y : World} {sb : Nat} {qs : Option Addr} {ms ds : Nat} (h : FB w sb qs ms ds x) (hb : Below x.heap.size x y) : FB w sb qs ms ds y := ⟨cs_step h.1 hb, bel_step h.2.1 hb, fun o => (hb.frozen (p := ⟨sb, o, none⟩) (show sb < _ from cs_lt h.1)).trans (h.2.2 o)⟩
theorem fb_drew {w x : World} {sb : Nat} {qs : Option Addr} {ms ds : Nat} (h : FB w sb qs ms ds x) : FB w sb qs ms ds x.drew := fb_step h (Below.drew (Below.refl _ _))
theorem fb_set {w x : World} {sb g : Nat} {qs : Option Addr} {ms ds : Nat} {u0 u1 u2 u3 u4 : Value} (h : FB w sb qs ms ds x) (h1 : sb ≠ g) (h2 : w.heap.size ≤ g) : FB w sb qs ms ds (set5 x g 0 u0 u1 u2 u3 u4) := ⟨cs_other h.1 h1, set5_below h.2.1 h2 _ _ _ _ _, fun o => by unfold set5; simp only [World.frozen?_setCell]; exact h.2.2 o⟩
theorem fb_new {w x : World} {sb : Nat} {qs : Option Addr} {ms ds : Nat} (h : FB w sb qs ms ds x) (hw : w.heap.size ≤ sb) (qt : Option Addr) (mt dt : Nat) : FB w sb qt mt dt (set5 x sb 0 (.int .i64 4) (.int .i64 0) (.float .f64 0) (.string ⟨#[]⟩) (.slice qt mt dt)) := ⟨cs_set5 h.1, set5_below h.2.1 hw _ _ _ _ _, fun o => by unfold set5; simp only [World.frozen?_setCell]; exact h.2.2 o⟩
end Num
end Go.Proofs.Ytpbfaffheigjcaa
