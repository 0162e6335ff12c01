/-
  The tables that the texts want, off the variables that a row of the layer lists.
-/
import Derived.Test.YtahcgdjcjapnkaaGreatDoorVKn
import Derived.Test.YtahcgdjcjapnkaaGreatDoorRows
import Derived.PinnedBridge
import Derived.Lib.LaidU8T
import Derived.Lib.LaidPrint
import Derived.Lib.LaidTab
namespace Go.Proofs.YtahcgdjcjapnkaaGreatDoor
open Go.RowKit
namespace Num
open Ints
set_option linter.unusedSimpArgs false
set_option linter.unusedVariables false
def rhoU : Go.Shelf.Ren := ⟨fun n => n, fun | 5 => 5 | 119 => 153 | 138 => 155 | 139 => 156 | n => n, fun | 3 => 3 | 4 => 4 | n => n⟩
theorem u8_types : U8Types Tryz.prog rhoU := ⟨Tryz.underlying5, Tryz.underlying153, Tryz.underlying155, Tryz.underlying156⟩
theorem u8_of {w : World} (h3 : Lib.VarReads Tryz.prog w "unicode/utf8.first" Pinned.utf8First) (h4 : Lib.VarReads Tryz.prog w "unicode/utf8.acceptRanges" Lib.acceptData) : U8T w :=
  utf8Tabs_of_readsT (ρ := rhoU) u8_types ⟨by kernel_rfl, by kernel_rfl, by kernel_rfl, by kernel_rfl, by kernel_rfl, by kernel_rfl, by kernel_rfl⟩ (by rw [← Pinned.utf8First_eq]; exact h3) h4
set_option maxRecDepth 100000 in
theorem pr_of {w : World} (h20 : Lib.VarReads Tryz.prog w "strconv.isPrint16" Pinned.isPrint16) (h21 : Lib.VarReads Tryz.prog w "strconv.isNotPrint16" Pinned.isNotPrint16) (h22 : Lib.VarReads Tryz.prog w "strconv.isPrint32" Pinned.isPrint32) (h23 : Lib.VarReads Tryz.prog w "strconv.isNotPrint32" Pinned.isNotPrint32) : PrT w := by
  rw [Pinned.isPrint16_eq] at h20
  rw [Pinned.isNotPrint16_eq] at h21
  rw [Pinned.isPrint32_eq] at h22
  rw [Pinned.isNotPrint32_eq] at h23
  exact ⟨Lib.tabSlice_of_reads (t := 158) (e := 157) (by kernel_rfl) (by kernel_rfl) Tryz.underlying158 Tryz.underlying157 (by kernel_rfl) (by decide) h20, Lib.tabSlice_of_reads (t := 158) (e := 157) (by kernel_rfl) (by kernel_rfl) Tryz.underlying158 Tryz.underlying157 (by kernel_rfl) (by decide) h21,
   Lib.tabSlice_of_reads (t := 161) (e := 107) (by kernel_rfl) (by kernel_rfl) Tryz.underlying161 Tryz.underlying107 (by kernel_rfl) (by decide) h22, Lib.tabSlice_of_reads (t := 158) (e := 157) (by kernel_rfl) (by kernel_rfl) Tryz.underlying158 Tryz.underlying157 (by kernel_rfl) (by decide) h23,
   by decide, by decide, by decide⟩
theorem uint64_name : Tryz.prog.globalNamed "internal/strconv.uint64pow10" = some 1 := by kernel_rfl
theorem ten_of {w : World} (h : Lib.VarReads Tryz.prog w "internal/strconv.uint64pow10" (Lib.tabData .u64 Lib.pow10Tab)) : TenT w := by
  obtain ⟨g, t, cs, fuel, p, hg, hty, hvar, hd⟩ := h
  obtain rfl := Option.some.inj (uint64_name.symm.trans hg)
  obtain rfl := Option.some.inj ((show (Tryz.prog.globals[1]?).map (·.type) = some 106 by kernel_rfl).symm.trans hty)
  show w.var? _ _ = _
  rw [hvar, ← Lib.cells_of_tab Tryz.underlying106 Tryz.underlying50 (by kernel_rfl) (by kernel_rfl) hd]
theorem pow_at : ∀ i : Fin 696, Pinned.pow10Rows[i.val]? = some (powHi i.val, powLo i.val) := by decide +kernel
theorem pow_of {w : World} (h : Lib.VarReads Tryz.prog w "internal/strconv.pow10Tab" Pinned.pow10Tab) : PowTab w := by
  obtain ⟨g, t, cs, fuel, p, hg, hty, hvar, hd⟩ := h
  obtain rfl := Option.some.inj ((show Tryz.prog.globalNamed "internal/strconv.pow10Tab" = some 12 by kernel_rfl).symm.trans hg)
  obtain rfl := Option.some.inj ((show (Tryz.prog.globals[12]?).map (·.type) = some 166 by kernel_rfl).symm.trans hty)
  intro i hi
  obtain ⟨fuel', d, q, hdi, he⟩ := Lib.array_elem Tryz.underlying166 hd i hi
  rw [List.getElem?_map, pow_at ⟨i, hi⟩] at hdi
  simp only [Option.map_some, Option.some.injEq] at hdi
  subst hdi
  rw [show Tryz.prog.cellsOf 165 = 2 by kernel_rfl] at he
  have hcs := Lib.ints_of_struct (zs := [((powHi i : Nat) : Int), ((powLo i : Nat) : Int)]) Tryz.underlying165 (fun j f hj => by
    match j, hj with
    | 0, hj => simp at hj; subst hj; exact ⟨Tryz.underlying50, rfl, by kernel_rfl⟩
    | 1, hj => simp at hj; subst hj; exact ⟨Tryz.underlying50, rfl, by kernel_rfl⟩
    | j + 2, hj => simp at hj) (by kernel_rfl) he
  have e0 := congrArg (·[0]?) hcs
  have e1 := congrArg (·[1]?) hcs
  simp only [List.getElem?_take, List.getElem?_drop] at e0 e1
  constructor
  · rw [World.var?_cell hg hvar (i * 2), ← Array.getElem?_toList]
    simpa [Nat.mul_comm] using e0
  · rw [World.var?_cell hg hvar (i * 2 + 1), ← Array.getElem?_toList]
    simpa [Nat.mul_comm] using e1
def rowLaid : List (String × DataW Unit) := Rows.valueTextsRow.laid
theorem tabs_of {w : World} (hL : laidMet Tryz.prog Rows.valueTextsRow.laid w) : Tabs w := by
  have r1 := Lib.laidMet.reads hL (n := "internal/strconv.pow10Tab") (d := Pinned.pow10Tab) (.tail _ (.tail _ (.tail _ (.tail _ (.tail _ (.tail _ (.head _)))))))
  have r2 := Lib.laidMet.reads hL (n := "internal/strconv.uint64pow10") (d := Lib.tabData .u64 Lib.pow10Tab) (.tail _ (.tail _ (.tail _ (.head _))))
  have r3 := Lib.laidMet.reads hL (n := "strconv.isPrint16") (d := Pinned.isPrint16) (.tail _ (.tail _ (.tail _ (.tail _ (.tail _ (.tail _ (.tail _ (.tail _ (.tail _ (.tail _ (.head _)))))))))))
  have r4 := Lib.laidMet.reads hL (n := "strconv.isNotPrint16") (d := Pinned.isNotPrint16) (.tail _ (.tail _ (.tail _ (.tail _ (.tail _ (.tail _ (.tail _ (.tail _ (.head _)))))))))
  have r5 := Lib.laidMet.reads hL (n := "strconv.isPrint32") (d := Pinned.isPrint32) (.tail _ (.tail _ (.tail _ (.tail _ (.tail _ (.tail _ (.tail _ (.tail _ (.tail _ (.tail _ (.tail _ (.head _))))))))))))
  have r6 := Lib.laidMet.reads hL (n := "strconv.isNotPrint32") (d := Pinned.isNotPrint32) (.tail _ (.tail _ (.tail _ (.tail _ (.tail _ (.tail _ (.tail _ (.tail _ (.tail _ (.head _))))))))))
  have r7 := Lib.laidMet.reads hL (n := "unicode/utf8.first") (d := Pinned.utf8First) (.tail _ (.tail _ (.tail _ (.tail _ (.tail _ (.tail _ (.tail _ (.tail _ (.tail _ (.tail _ (.tail _ (.tail _ (.head _)))))))))))))
  have r8 := Lib.laidMet.reads hL (n := "unicode/utf8.acceptRanges") (d := Lib.acceptData) (.tail _ (.tail _ (.tail _ (.tail _ (.head _)))))
  have hp := pow_of r1
  exact ⟨Nat.lt_of_le_of_lt (Nat.zero_le _) (World.block_lt_of_cell? w _ (hp 0 (by decide)).1), hp, ten_of r2, pr_of r3 r4 r5 r6, u8_of r7 r8⟩
end Num
end Go.Proofs.YtahcgdjcjapnkaaGreatDoor
