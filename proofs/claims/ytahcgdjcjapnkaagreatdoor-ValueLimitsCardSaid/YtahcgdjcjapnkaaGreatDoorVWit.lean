/-
  A world that lays the thirteen variables of the layer's rows.
-/
import Derived.Test.YtahcgdjcjapnkaaGreatDoorVLaid
import Derived.Lib.LaidIn
import Derived.Lib.LaidSlice
import Derived.Deep.DeepHandedRow
import Derived.Deep.DeepWitnessRowRef
namespace Go.Proofs.YtahcgdjcjapnkaaGreatDoor
open Go.RowKit Go.Lib
namespace Wit
set_option linter.unusedSimpArgs false
set_option linter.unusedVariables false
def flatV : Nat → DataW Unit → List Value
  | 0, _ => []
  | n + 1, .lit (.int k z) => [.int k z]
  | n + 1, .lit (.bool b) => [.bool b]
  | n + 1, .lit (.string s) => [.string ⟨s.toArray⟩]
  | n + 1, .agg ds => ds.flatMap (flatV n)
  | _, _ => []
def cheatCells : Array Value := (Pinned.cheatRows.flatMap fun x => [Value.int .i64 x.1, Value.string ⟨x.2.toArray⟩]).toArray
noncomputable def laidWorld (os : Os) : World :=
  let N := (World.settled Tryz.prog os).heap.size
  let w0 := World.holding Tryz.prog os ⟨#[.cells cheatCells 172,
    .cells (intCellsOf .u16 Pinned.isGraphicZ) 157,
    .cells (intCellsOf .u16 Pinned.isNotPrint16Z) 157,
    .cells (intCellsOf .u16 Pinned.isNotPrint32Z) 157,
    .cells (intCellsOf .u16 Pinned.isPrint16Z) 157,
    .cells (intCellsOf .u32 Pinned.isPrint32Z) 107], #[], []⟩
  let put (h : Array Obj) (g : Nat) (cs : Array Value) : Array Obj := h.modify g fun
    | .cells _ t frozen => .cells cs t frozen
    | o => o
  let h0 := w0.heap
  let h1 := put h0 10 (flatV 4 Rows.laid_math_bits_deBruijn32tab).toArray
  let h2 := put h1 11 (flatV 4 Rows.laid_math_bits_deBruijn64tab).toArray
  let h3 := put h2 2 (flatV 4 Rows.laid_internal_strconv_optimize).toArray
  let h4 := put h3 1 (flatV 4 Rows.laid_internal_strconv_uint64pow10).toArray
  let h5 := put h4 4 (flatV 4 Rows.laid_unicode_utf8_acceptRanges).toArray
  let h6 := put h5 12 (flatV 4 Pinned.pow10Tab).toArray
  let h7 := put h6 3 (flatV 4 Pinned.utf8First).toArray
  let h8 := put h7 13 #[.slice (some ⟨N, 0, none⟩) Pinned.cheatRows.length Pinned.cheatRows.length]
  let h9 := put h8 9 #[.slice (some ⟨N + 1, 0, none⟩) Pinned.isGraphicZ.length Pinned.isGraphicZ.length]
  let h10 := put h9 6 #[.slice (some ⟨N + 2, 0, none⟩) Pinned.isNotPrint16Z.length Pinned.isNotPrint16Z.length]
  let h11 := put h10 8 #[.slice (some ⟨N + 3, 0, none⟩) Pinned.isNotPrint32Z.length Pinned.isNotPrint32Z.length]
  let h12 := put h11 5 #[.slice (some ⟨N + 4, 0, none⟩) Pinned.isPrint16Z.length Pinned.isPrint16Z.length]
  let h13 := put h12 7 #[.slice (some ⟨N + 5, 0, none⟩) Pinned.isPrint32Z.length Pinned.isPrint32Z.length]
  { w0 with heap := h13 }
noncomputable abbrev N0 : Nat := (World.settled Tryz.prog default).heap.size
set_option maxRecDepth 1000000 in
theorem piece0 (os : Os) (args : Array Value) : LaidIn Tryz.prog ((laidWorld os).forCall (fun _ _ => 0) ⟨#[], args, []⟩).memory [("math/bits.deBruijn32tab", Rows.laid_math_bits_deBruijn32tab), ("math/bits.deBruijn64tab", Rows.laid_math_bits_deBruijn64tab), ("internal/strconv.optimize", Rows.laid_internal_strconv_optimize), ("internal/strconv.uint64pow10", Rows.laid_internal_strconv_uint64pow10), ("unicode/utf8.acceptRanges", Rows.laid_unicode_utf8_acceptRanges)] [10, 11, 2, 1, 4] :=
  LaidIn.of_run [10, 11, 2, 1, 4] 8 (by kernel_rfl) (by kernel_rfl) (by kernel_rfl) (by kernel_rfl)
set_option maxRecDepth 1000000 in
theorem piece1 (os : Os) (args : Array Value) : LaidIn Tryz.prog ((laidWorld os).forCall (fun _ _ => 0) ⟨#[], args, []⟩).memory [("internal/strconv.leftcheats", Pinned.leftcheats)] [13, N0] :=
  LaidIn.of_run [13, N0] 8 (by kernel_rfl) (by kernel_rfl) (by kernel_rfl) (by kernel_rfl)
def powCells : Array Value := (flatV 4 Pinned.pow10Tab).toArray
set_option maxRecDepth 1000000 in
theorem pow_block (os : Os) (args : Array Value) : ((laidWorld os).forCall (fun _ _ => 0) ⟨#[], args, []⟩).memory.heap[12]? = some (.cells powCells 166 (0, 0)) := by kernel_rfl
def plainB : Value → Bool
  | .int _ _ => true
  | _ => false
set_option maxRecDepth 1000000 in
theorem pow_plain : (powCells.toList.all plainB) = true := by kernel_rfl
set_option maxRecDepth 1000000 in
theorem piece2 (os : Os) (args : Array Value) : LaidIn Tryz.prog ((laidWorld os).forCall (fun _ _ => 0) ⟨#[], args, []⟩).memory [("internal/strconv.pow10Tab", Pinned.pow10Tab)] [12] := by
  have hb := pow_block os args
  refine LaidIn.one (g := 12) (t := 166) (cs := powCells) (fuel := 8) (p := []) [12] (by kernel_rfl) (by kernel_rfl) (by kernel_rfl) (by kernel_rfl) (by rw [List.append_nil]; exact rowP_nodup _ _) ?_ ?_
  · rw [List.append_nil]
    intro b off hp
    obtain ⟨i, hi, he⟩ := MemPlace.mem_row.1 hp
    obtain ⟨rfl, rfl⟩ : b = 12 ∧ off = 0 + i := by cases he; exact ⟨rfl, rfl⟩
    refine ⟨⟨_, _, hb⟩, fun u v hc => ?_⟩
    rw [Num.row_cell hb] at hc
    have := List.all_eq_true.1 pow_plain _ (Array.mem_toList_iff.2 (Array.mem_of_getElem? hc))
    exact absurd this (by simp [plainB])
  · rw [List.append_nil]
    intro x hx
    obtain ⟨i, hi, rfl⟩ := MemPlace.mem_row.1 hx
    exact List.mem_singleton.2 rfl
set_option maxRecDepth 1000000 in
theorem piece3 (os : Os) (args : Array Value) : LaidIn Tryz.prog ((laidWorld os).forCall (fun _ _ => 0) ⟨#[], args, []⟩).memory [("strconv.isGraphic", sliceData .u16 Pinned.isGraphicZ)] [9, N0 + 1] :=
  laidIn_slice (t := 158) (e := 157) (te := 157) Pinned.isGraphicZ (N0 + 1) (by kernel_rfl) (by kernel_rfl) (by kernel_rfl) (by kernel_rfl) (by kernel_rfl) (by kernel_rfl) (by kernel_rfl) (by kernel_rfl) (of_decide_eq_true (by kernel_rfl)) (of_decide_eq_true (by kernel_rfl))
set_option maxRecDepth 1000000 in
theorem piece4 (os : Os) (args : Array Value) : LaidIn Tryz.prog ((laidWorld os).forCall (fun _ _ => 0) ⟨#[], args, []⟩).memory [("strconv.isNotPrint16", sliceData .u16 Pinned.isNotPrint16Z)] [6, N0 + 2] :=
  laidIn_slice (t := 158) (e := 157) (te := 157) Pinned.isNotPrint16Z (N0 + 2) (by kernel_rfl) (by kernel_rfl) (by kernel_rfl) (by kernel_rfl) (by kernel_rfl) (by kernel_rfl) (by kernel_rfl) (by kernel_rfl) (of_decide_eq_true (by kernel_rfl)) (of_decide_eq_true (by kernel_rfl))
set_option maxRecDepth 1000000 in
theorem piece5 (os : Os) (args : Array Value) : LaidIn Tryz.prog ((laidWorld os).forCall (fun _ _ => 0) ⟨#[], args, []⟩).memory [("strconv.isNotPrint32", sliceData .u16 Pinned.isNotPrint32Z)] [8, N0 + 3] :=
  laidIn_slice (t := 158) (e := 157) (te := 157) Pinned.isNotPrint32Z (N0 + 3) (by kernel_rfl) (by kernel_rfl) (by kernel_rfl) (by kernel_rfl) (by kernel_rfl) (by kernel_rfl) (by kernel_rfl) (by kernel_rfl) (of_decide_eq_true (by kernel_rfl)) (of_decide_eq_true (by kernel_rfl))
set_option maxRecDepth 1000000 in
theorem piece6 (os : Os) (args : Array Value) : LaidIn Tryz.prog ((laidWorld os).forCall (fun _ _ => 0) ⟨#[], args, []⟩).memory [("strconv.isPrint16", sliceData .u16 Pinned.isPrint16Z)] [5, N0 + 4] :=
  laidIn_slice (t := 158) (e := 157) (te := 157) Pinned.isPrint16Z (N0 + 4) (by kernel_rfl) (by kernel_rfl) (by kernel_rfl) (by kernel_rfl) (by kernel_rfl) (by kernel_rfl) (by kernel_rfl) (by kernel_rfl) (of_decide_eq_true (by kernel_rfl)) (of_decide_eq_true (by kernel_rfl))
set_option maxRecDepth 1000000 in
theorem piece7 (os : Os) (args : Array Value) : LaidIn Tryz.prog ((laidWorld os).forCall (fun _ _ => 0) ⟨#[], args, []⟩).memory [("strconv.isPrint32", sliceData .u32 Pinned.isPrint32Z)] [7, N0 + 5] :=
  laidIn_slice (t := 161) (e := 107) (te := 107) Pinned.isPrint32Z (N0 + 5) (by kernel_rfl) (by kernel_rfl) (by kernel_rfl) (by kernel_rfl) (by kernel_rfl) (by kernel_rfl) (by kernel_rfl) (by kernel_rfl) (of_decide_eq_true (by kernel_rfl)) (of_decide_eq_true (by kernel_rfl))
set_option maxRecDepth 1000000 in
theorem piece8 (os : Os) (args : Array Value) : LaidIn Tryz.prog ((laidWorld os).forCall (fun _ _ => 0) ⟨#[], args, []⟩).memory [("unicode/utf8.first", Pinned.utf8First)] [3] :=
  LaidIn.of_run [3] 8 (by kernel_rfl) (by kernel_rfl) (by kernel_rfl) (by kernel_rfl)
theorem laid_met (os : Os) (args : Array Value) : laidMet Tryz.prog Rows.valueTextsRow.laid ((laidWorld os).forCall (fun _ _ => 0) ⟨#[], args, []⟩).memory :=
  (((((((((piece0 os args).append (piece1 os args) (by kernel_rfl)).append (piece2 os args) (by kernel_rfl)).append (piece3 os args) (by kernel_rfl)).append (piece4 os args) (by kernel_rfl)).append (piece5 os args) (by kernel_rfl)).append (piece6 os args) (by kernel_rfl)).append (piece7 os args) (by kernel_rfl)).append (piece8 os args) (by kernel_rfl)).met
end Wit
end Go.Proofs.YtahcgdjcjapnkaaGreatDoor
