/-
  The witness world's variables are well formed.
-/
import Derived.Test.YtahcgdjcjapnkaaGreatDoorVWit
import Derived.Lay
namespace Go.Proofs.YtahcgdjcjapnkaaGreatDoor
open Go.RowKit Go.Lib
namespace Wit
set_option linter.unusedSimpArgs false
set_option linter.unusedVariables false
theorem okRef_of_zip {P : Program} {w : World} {t : TypeId} {cs : Array Value} {ts : List TypeId} (hts : P.cellTypes P.depth t = some ts) (hz : Lay.zipOk P w cs.toList ts = true) : Row.okRefB P w t cs = true := by
  obtain ⟨hl, h⟩ := Lay.zipOk_at _ _ hz
  rw [Array.length_toList] at hl
  unfold Row.okRefB
  rw [hts]
  simp only [hl, Nat.mod_self, beq_self_eq_true, Bool.true_and, List.all_eq_true, List.mem_range]
  intro i hi
  have hi' : i < cs.size := by omega
  obtain ⟨u, hu, ho⟩ := h i cs[i] (by rw [Array.getElem?_toList, Array.getElem?_eq_getElem hi'])
  rw [Array.getElem?_eq_getElem hi', Nat.mod_eq_of_lt hi, hu]
  exact ho
theorem pow_types : ∃ ts, Tryz.prog.cellTypes Tryz.prog.depth 166 = some ts ∧ ts = List.replicate 1392 50 := ⟨_, by kernel_rfl, rfl⟩
set_option maxRecDepth 1000000 in
theorem pow_zip (os : Os) (args : Array Value) : Lay.zipOk Tryz.prog ((laidWorld os).forCall (fun _ _ => 0) ⟨#[], args, []⟩) powCells.toList (List.replicate 1392 50) = true := by kernel_rfl
theorem pow_start : ∃ z, ((begin Tryz.prog (fun _ _ => 0) default).world.heap[12]?).bind Obj.row? = some (z, 166) ∧ z.size = 1392 := ⟨Array.replicate 1392 (.int .u64 0), by kernel_rfl, by kernel_rfl⟩
set_option maxRecDepth 1000000 in
theorem vars_ok (os : Os) (args : Array Value) : ((laidWorld os).forCall (fun _ _ => 0) ⟨#[], args, []⟩).variablesRefB Tryz.checked.prog = true := by
  unfold World.variablesRefB
  have hs : Tryz.checked.prog.globals.size = 15 := by kernel_rfl
  rw [hs, List.all_eq_true]
  intro g hg
  have hg' := List.mem_range.1 hg
  have hc : g = 0 ∨ g = 1 ∨ g = 2 ∨ g = 3 ∨ g = 4 ∨ g = 5 ∨ g = 6 ∨ g = 7 ∨ g = 8 ∨ g = 9 ∨ g = 10 ∨ g = 11 ∨ g = 13 ∨ g = 14 ∨ g = 12 := by omega
  rcases hc with rfl | rfl | rfl | rfl | rfl | rfl | rfl | rfl | rfl | rfl | rfl | rfl | rfl | rfl | rfl
  · show (_ : Bool) = true; kernel_rfl
  · show (_ : Bool) = true; kernel_rfl
  · show (_ : Bool) = true; kernel_rfl
  · show (_ : Bool) = true; kernel_rfl
  · show (_ : Bool) = true; kernel_rfl
  · show (_ : Bool) = true; kernel_rfl
  · show (_ : Bool) = true; kernel_rfl
  · show (_ : Bool) = true; kernel_rfl
  · show (_ : Bool) = true; kernel_rfl
  · show (_ : Bool) = true; kernel_rfl
  · show (_ : Bool) = true; kernel_rfl
  · show (_ : Bool) = true; kernel_rfl
  · show (_ : Bool) = true; kernel_rfl
  · show (_ : Bool) = true; kernel_rfl
  · obtain ⟨z, hz1, hz2⟩ := pow_start
    obtain ⟨ts, ht1, rfl⟩ := pow_types
    have hz1' : ((begin Tryz.checked.prog (fun _ _ => 0) default).world.heap[12]?).bind Obj.row? = some (z, 166) := hz1
    have hb : ((laidWorld os).forCall (fun _ _ => 0) ⟨#[], args, []⟩).heap[12]? = some (.cells powCells 166 (0, 0)) := pow_block os args
    have hok : Row.okRefB Tryz.checked.prog ((laidWorld os).forCall (fun _ _ => 0) ⟨#[], args, []⟩) 166 powCells = true := okRef_of_zip (P := Tryz.prog) ht1 (pow_zip os args)
    have hsz : powCells.size = 1392 := by kernel_rfl
    simp only [hz1', hb, hok, hsz, hz2, decide_true, beq_self_eq_true, Bool.and_true, Bool.or_true]
end Wit
end Go.Proofs.YtahcgdjcjapnkaaGreatDoor
