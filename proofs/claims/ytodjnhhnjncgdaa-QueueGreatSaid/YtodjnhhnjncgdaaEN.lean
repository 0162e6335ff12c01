/-
  Texts of noughts: made, turned to a text.
-/
import Derived.Test.YtodjnhhnjncgdaaUB
import Derived.Laws.OwnMore
import Derived.Laws.MakeOwn
namespace Go.Proofs.Ytodjnhhnjncgdaa
open Go.RowKit
namespace Num
open Ints
set_option linter.unusedSimpArgs false
set_option linter.unusedVariables false
/-- A text of so many noughts. -/
def nulS (N : Nat) : ByteArray := strB (List.replicate N 0)
theorem nulS_size (N : Nat) : (nulS N).size = N := by
  show (List.toArray (List.map _ _)).size = _
  simp
theorem mk_bytes (N : Nat) (hN : N ≤ 1000) (W : World) : (Instr.makeSlice 51 (.int .i64 (N : Int)) (.int .i64 (N : Int))).run Try.prog W = .ok (.slice (some ⟨W.heap.size, 0, none⟩) N N) (W.alloc (.cells (zb N) 5)) := by
  obtain ⟨i0, hi, hz0, hz1, hz2⟩ := info_parts info_b8
  have h := run_makeSlice W 51 5 i0 (.int .u8 0) Try.underlying51 hi hz0 .i64 .i64 (N : Int) (N : Int) (by omega) (by omega) (by rw [hz1]; omega) (by rw [hz2]; omega) (by omega)
  rw [h, hz1, Int.toNat_natCast]
  rfl
theorem zb_at (N i : Nat) (h : i < N) : (zb N)[i]? = some (.int .u8 0) := by
  have e : (zb N).toList = List.replicate N (Value.int .u8 0) := by
    unfold zb
    rw [Nat.mul_one]
    exact toList_madeCells_one _ _
  rw [← Array.getElem?_toList, e, List.getElem?_replicate, if_pos h]
theorem zb_rd {W : World} {b N : Nat} (h : W.heap[b]? = some (.cells (zb N) 5 (0, 0))) (hN : N ≤ 1000) : RdB W (some ⟨b, 0, none⟩) N N (List.replicate N 0) :=
  ⟨List.length_replicate, Nat.le_refl _, by unfold maxLen; omega, fun _ => ⟨b, 0, rfl, fun i hi => by
    rw [List.length_replicate] at hi
    rw [row_cell h, Nat.zero_add, zb_at N i hi]
    simp⟩, fun e => by cases e⟩
theorem cv_nul {W : World} {b N : Nat} (h : W.heap[b]? = some (.cells (zb N) 5 (0, 0))) (hN : N ≤ 1000) : (convert 51 9 (.slice (some ⟨b, 0, none⟩) N N)).run Try.prog W = .ok (.string (nulS N)) W := rd_string (zb_rd h hN)
end Num
end Go.Proofs.Ytodjnhhnjncgdaa
