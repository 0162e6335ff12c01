/-
  What the calls of package opid want of the world, off the variables that a row of the layer lists; and a world that lays them.
-/
import Derived.Test.YtbodakfgoijeeaaDoorIB
import Derived.Test.YtbodakfgoijeeaaDoorRow
import Derived.Test.YtbodakfgoijeeaaDoorRows
import Derived.Lib.LaidTab
import Derived.PinnedBridge
import Derived.Lib.LaidIn
import Derived.Stop.LaidErr
import Derived.Deep.DeepHandedRow
import Derived.Deep.DeepWitnessRowRef
namespace Go.Proofs.YtbodakfgoijeeaaDoor
open Go.RowKit Go.Lib
namespace Num
set_option linter.unusedSimpArgs false
set_option linter.unusedVariables false
theorem uint64_name : Tryd.prog.globalNamed "internal/strconv.uint64pow10" = some 1 := by kernel_rfl
theorem ten_of {w : World} (h : Lib.VarReads Tryd.prog w "internal/strconv.uint64pow10" (Lib.tabData .u64 Lib.pow10Tab)) : TenT w := by
  obtain ⟨g, t, cs, fuel, p, hg, hty, hvar, hd⟩ := h
  obtain rfl := Option.some.inj (uint64_name.symm.trans hg)
  obtain rfl := Option.some.inj ((show (Tryd.prog.globals[1]?).map (·.type) = some 74 by kernel_rfl).symm.trans hty)
  show w.var? _ _ = _
  rw [hvar, ← Lib.cells_of_tab Tryd.underlying74 Tryd.underlying40 (by kernel_rfl) (by kernel_rfl) hd]
theorem gER : Tryd.prog.globalNamed "strconv.ErrRange" = some 3 := by kernel_rfl
theorem gERType : (Tryd.prog.globals[3]?).map (·.type) = some 51 := by kernel_rfl
theorem gES : Tryd.prog.globalNamed "strconv.ErrSyntax" = some 2 := by kernel_rfl
theorem gESType : (Tryd.prog.globals[2]?).map (·.type) = some 51 := by kernel_rfl
theorem cellsEs : Tryd.prog.cellsOf 88 = 1 := by kernel_rfl
theorem cellsSt : Tryd.prog.cellsOf 9 = 1 := by kernel_rfl
theorem max_int (w : World) (h : w.ShapedOpen Tryd.prog) : ∃ m, w.cell? ⟨0, 0, none⟩ = some (.int .i64 m) :=
  Go.Proofs.cell_of_shapedOpen_int (zero := #[.int .i64 0]) (t := 3) h (of_decide_eq_true (by kernel_rfl)) (by kernel_rfl) rfl (by kernel_rfl) (by kernel_rfl) Tryd.underlying3
theorem starS : "*" ++ "errors.errorString" = "*errors.errorString" := by decide
theorem rowErr (u : TypeId) (h : Tryd.prog.typeName? 3 u = some "*errors.errorString") : u = 86 :=
  typeName_ptr_named (nm := "errors.errorString") (by rw [starS]; kernel_rfl) (by kernel_rfl) (by decide) u (by rw [starS]; exact h)
theorem good_of {w : World} (hL : laidMet Tryd.prog Rows.idBackRow.laid w) (hs : w.ShapedOpen Tryd.prog) : Good w := by
  have r2 := Lib.laidMet.reads hL (n := "internal/strconv.uint64pow10") (d := Lib.tabData .u64 Lib.pow10Tab) (.tail _ (.tail _ (.head _)))
  have t3 := hL.tail.tail.tail
  obtain ⟨a1, s1, hv1, -, -, -⟩ := laid_sentinel t3 gER gERType Tryd.underlying51 rowErr Tryd.underlying86 Tryd.underlying88 rfl rfl Tryd.underlying9 cellsEs cellsSt
  obtain ⟨a2, s2, hv2, -, -, -⟩ := laid_sentinel t3.tail gES gESType Tryd.underlying51 rowErr Tryd.underlying86 Tryd.underlying88 rfl rfl Tryd.underlying9 cellsEs cellsSt
  exact ⟨ten_of r2, ⟨_, _, hv2⟩, ⟨_, _, hv1⟩, max_int w hs⟩
end Num
namespace Wit
set_option linter.unusedSimpArgs false
set_option linter.unusedVariables false
def flatV : Nat → DataW Unit → List Value
  | 0, _ => []
  | n + 1, .lit (.int k z) => [.int k z]
  | n + 1, .agg ds => ds.flatMap (flatV n)
  | _, _ => []
abbrev synS : ByteArray := { data := #[105, 110, 118, 97, 108, 105, 100, 32, 115, 121, 110, 116, 97, 120] }
abbrev rngS : ByteArray := { data := #[118, 97, 108, 117, 101, 32, 111, 117, 116, 32, 111, 102, 32, 114, 97, 110, 103, 101] }
noncomputable abbrev N0 : Nat := (World.settled Tryd.prog default).heap.size
noncomputable def laidWorld (os : Os) : World :=
  let w0 := World.holding Tryd.prog os ⟨#[.cells #[.string synS] 88, .cells #[.string rngS] 88], #[], []⟩
  let put (h : Array Obj) (g : Nat) (cs : Array Value) : Array Obj := h.modify g fun
    | .cells _ t frozen => .cells cs t frozen
    | o => o
  let h1 := put w0.heap 4 (flatV 4 Rows.laid_math_bits_deBruijn32tab).toArray
  let h2 := put h1 5 (flatV 4 Rows.laid_math_bits_deBruijn64tab).toArray
  let h3 := put h2 1 (flatV 4 Rows.laid_internal_strconv_uint64pow10).toArray
  let h4 := put h3 2 #[.iface 86 (.pointer (some ⟨N0, 0, none⟩))]
  let h5 := put h4 3 #[.iface 86 (.pointer (some ⟨N0 + 1, 0, none⟩))]
  { w0 with heap := h5 }
def row (b n : Nat) : List MemPlace := (List.range n).map fun i => .cell b i
set_option maxRecDepth 1000000 in
theorem laid_met (os : Os) (args : Array Value) : laidMet Tryd.prog Rows.idBackRow.laid ((laidWorld os).forCall (fun _ _ => 0) ⟨#[], args, []⟩).memory :=
  laidMet_of_run (ps := row 4 32 ++ row 5 64 ++ row 1 20 ++ [.cell 3 0, .cell (N0 + 1) 0, .cell 2 0, .cell N0 0]) 8 (by kernel_rfl) (by kernel_rfl) (by kernel_rfl)
set_option maxRecDepth 1000000 in
theorem vars_ok (os : Os) (args : Array Value) : ((laidWorld os).forCall (fun _ _ => 0) ⟨#[], args, []⟩).variablesRefB Tryd.checked.prog = true := by kernel_rfl
end Wit
end Go.Proofs.YtbodakfgoijeeaaDoor
