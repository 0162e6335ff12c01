/-
  Package queue: Right on queues that are right.
-/
import Derived.Test.YtodjnhhnjncgdaaEA
import Derived.Test.YtodjnhhnjncgdaaHI
import Derived.RegionTactic
namespace Go.Proofs.Ytodjnhhnjncgdaa
open Go.RowKit
namespace Num
open Ints
set_option linter.unusedSimpArgs false
set_option linter.unusedVariables false
/-- A queue. -/
def queueT (n : Nat) (L : List (VT (n + 1))) : VT (n + 2) := (4, 0, 0, ⟨#[]⟩, L)
/-- A queue that is right. -/
def OkQ (n : Nat) (L : List (VT (n + 1))) : Prop := L.length ≤ 32 ∧ checkM (measT (n + 2) (queueT n L)) = 0 ∧ deepT (n + 2) (queueT n L) 64 = false ∧ partsT (n + 2) (queueT n L) ≤ 1000
theorem queue_mem {w : World} {n : Nat} {v : Value} {L : List (VT (n + 1))} (h : Rep w (n + 2) v (queueT n L)) : ∃ p l c, v = .agg #[.int .i64 4, .int .i64 0, .float .f64 0, .string ⟨#[]⟩, .slice p l c] ∧ RepL w (Rep w (n + 1)) p l c L := by
  obtain ⟨p, l, c, rfl, _, _, _, _, h5⟩ := h
  exact ⟨p, l, c, rfl, h5⟩
set_option maxRecDepth 100000 in
set_option maxHeartbeats 4000000 in
theorem qright_any (n : Nat) (v : Value) (L : List (VT (n + 1))) (w : World) (hr : Rep w (n + 2) v (queueT n L)) (hok : OkQ n L) : Calls Try.prog 14 #[v] w fun e w' => e = .returned (.bool true) ∧ Below w.heap.size w w' := by
  obtain ⟨p, l, c, rfl, hrl⟩ := queue_mem hr
  obtain ⟨hl, h0, hd, hp⟩ := hok
  have hl2 : (l : Int) ≤ 32 := by have := hrl.1; omega
  have HB := Lib.hid (bel_alloc (Below.refl w.heap.size w) (.cells #[.int .i64 4, .int .i64 0, .float .f64 0, .string ⟨#[]⟩, .slice p l c] 27))
  have hck := check_any (n + 2) 4 0 0 ⟨#[]⟩ p l c (queueT n L) _ (rep_keep HB.out _ _ _ hr) hd hp
  rw [h0] at hck
  have HC := Lib.hid hck
  clear hck h0 hd hp hr hrl hl
  go_enter Try.func14, Try.ntmps14
  go_wp2_with (go_at_call 37; refine HC.out.mono ?_; rintro e w1 ⟨rfl, hb1⟩; have HB1 := Lib.hid (bel_step HB.out hb1); clear hb1)
  go_ret
  exact ⟨rfl, HB1.out⟩
end Num
end Go.Proofs.Ytodjnhhnjncgdaa
