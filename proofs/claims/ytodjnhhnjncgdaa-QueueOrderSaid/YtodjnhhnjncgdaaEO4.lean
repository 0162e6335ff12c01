/-
  QueueOrder: what is not there (region 32).
-/
import Derived.Test.YtodjnhhnjncgdaaEO1
namespace Go.Proofs.Ytodjnhhnjncgdaa
open Go.RowKit
namespace Num
open Ints
set_option linter.unusedSimpArgs false
set_option linter.unusedVariables false
set_option maxRecDepth 1000000 in
set_option maxHeartbeats 4000000 in
theorem reg32_any (w wr : World) (sb : Nat) (qs : Option Addr) (ms ds : Nat) (Y : List Int) (TT : VT 2) (UU : VT 1) (z : Int) (c0 c1 c2 c4 c5 c6 c7 c8 c9 c10 c11 c12 c13 c14 c15 c16 c17 c18 c19 c20 c21 c22 c23 c24 c25 c26 c27 c28 c29 c30 c31 c32 c33 c34 c35 c36 c37 c38 c39 c40 c41 c42 c43 c44 c45 c46 c47 c48 c49 c50 c51 c52 c53 c54 c55 c56 c57 c58 c59 c60 c61 c62 c63 c64 c65 c66 c67 c68 c69 c70 c71 c72 c73 c74 c75 c76 c77 c78 c79 c80 c81 c82 c83 c84 c85 c86 c87 c88 c89 c90 c91 c92 c93 c94 c95 c96 c97 c98 c99 c100 c101 c102 c103 c104 c105 c106 c107 c108 c109 c110 c111 c112 c113 c114 c115 c116 c117 c118 c119 c120 c121 c122 c123 c124 c125 c126 c127 c128 c129 c130 c131 c132 c133 c134 c135 c136 c137 c138 c139 c140 c141 c142 c143 c144 c145 c146 c147 c148 c149 c150 c151 c152 c153 c154 c155 c156 c157 c158 c159 c160 c161 c162 : Value) (Q : Exit → Act → World → Prop) (hP : ∀ p a (d : Option Tmp) v w, Q (.panic p) (Act.put a d v) w → Q (.panic p) a w) (HFB : Hid (FB w sb qs ms ds wr)) (HDO : Hid (∀ (W : World) (g : Nat), Rep W 2 (.agg #[.int .i64 4, .int .i64 0, .float .f64 0, .string ⟨#[]⟩, .slice qs ms ds]) (intsQ Y) → L1 g (-1) W → Calls Try.prog 11 #[.agg #[.int .i64 4, .int .i64 0, .float .f64 0, .string ⟨#[]⟩, .slice qs ms ds], .string { data := #[110, 116, 104] }, .slice (some ⟨g, 0, none⟩) 1 1] W fun e w' => DoQ W 2 1 TT UU z e w')) (hsbr : sb < wr.heap.size) (hwr : w.heap.size ≤ wr.heap.size) (HSTr : Hid (Rep wr 2 (.agg #[.int .i64 4, .int .i64 0, .float .f64 0, .string ⟨#[]⟩, .slice qs ms ds]) (intsQ Y)))
    (hQ : ∀ (gA gB gE : Nat) (Kt It : Int) (Ft : Nat) (Zt : ByteArray) (qt : Option Addr) (mt dt : Nat) (Kv Iv : Int) (Fv : Nat) (Zv : ByteArray) (qv : Option Addr) (mv dv : Nat) (wx : World), CS wx gA (.int .i64 Kt) (.int .i64 It) (.float .f64 Ft) (.string Zt) (.slice qt mt dt) ∧ CS wx gB (.int .i64 Kv) (.int .i64 Iv) (.float .f64 Fv) (.string Zv) (.slice qv mv dv) ∧ FB w sb qs ms ds wx ∧ Below wr.heap.size wr wx ∧ RepS (fun b => wr.heap.size ≤ b ∧ b ≠ gA ∧ b ≠ gB) wx 2 (.agg #[.int .i64 Kt, .int .i64 It, .float .f64 Ft, .string Zt, .slice qt mt dt]) (TT) ∧ RepS (fun b => wr.heap.size ≤ b ∧ b ≠ gA ∧ b ≠ gB) wx 1 (.agg #[.int .i64 Kv, .int .i64 Iv, .float .f64 Fv, .string Zv, .slice qv mv dv]) (UU) → Q .normal { tmps := #[c0, c1, c2, (.pointer (some ⟨sb, 0, none⟩)), c4, c5, c6, c7, c8, c9, c10, c11, c12, c13, c14, c15, c16, c17, c18, (.pointer (some ⟨gA, 0, none⟩)), (.pointer (some ⟨gB, 0, none⟩)), (.int .i64 z), c22, c23, c24, c25, c26, c27, c28, c29, c30, c31, c32, c33, c34, c35, c36, c37, c38, c39, c40, c41, c42, c43, c44, c45, c46, c47, c48, c49, c50, c51, c52, c53, c54, c55, c56, c57, c58, c59, c60, c61, c62, c63, c64, c65, c66, c67, c68, c69, c70, c71, c72, c73, c74, c75, c76, c77, c78, c79, c80, c81, c82, c83, c84, c85, c86, c87, c88, c89, c90, c91, c92, c93, c94, c95, c96, c97, c98, c99, c100, c101, c102, c103, c104, c105, c106, c107, c108, c109, c110, c111, c112, c113, c114, c115, c116, c117, c118, c119, c120, c121, c122, c123, c124, c125, c126, c127, c128, c129, c130, c131, c132, c133, c134, c135, c136, c137, c138, c139, c140, c141, c142, c143, c144, c145, c146, c147, c148, (.tuple #[.agg #[.int .i64 Kt, .int .i64 It, .float .f64 Ft, .string Zt, .slice qt mt dt], .agg #[.int .i64 Kv, .int .i64 Iv, .float .f64 Fv, .string Zv, .slice qv mv dv], .int .i64 z]), (.agg #[.int .i64 4, .int .i64 0, .float .f64 0, .string ⟨#[]⟩, .slice qs ms ds]), (.agg #[.int .i64 1, .int .i64 (-1), .float .f64 0, .string ⟨#[]⟩, .slice none 0 0]), (.slice (some ⟨gE, 0, none⟩) 1 1), (.tuple #[.agg #[.int .i64 Kt, .int .i64 It, .float .f64 Ft, .string Zt, .slice qt mt dt], .agg #[.int .i64 Kv, .int .i64 Iv, .float .f64 Fv, .string Zv, .slice qv mv dv], .int .i64 z]), (.agg #[.int .i64 Kt, .int .i64 It, .float .f64 Ft, .string Zt, .slice qt mt dt]), (.agg #[.int .i64 Kv, .int .i64 Iv, .float .f64 Fv, .string Zv, .slice qv mv dv]), (.int .i64 z), c157, c158, c159, c160, c161, c162], defers := [] } wx) :
    Code.wp Try.prog ((Try.f5.body.bind (regionBy 32)).getD .skip) Q { tmps := #[c0, c1, c2, (.pointer (some ⟨sb, 0, none⟩)), c4, c5, c6, c7, c8, c9, c10, c11, c12, c13, c14, c15, c16, c17, c18, c19, c20, c21, c22, c23, c24, c25, c26, c27, c28, c29, c30, c31, c32, c33, c34, c35, c36, c37, c38, c39, c40, c41, c42, c43, c44, c45, c46, c47, c48, c49, c50, c51, c52, c53, c54, c55, c56, c57, c58, c59, c60, c61, c62, c63, c64, c65, c66, c67, c68, c69, c70, c71, c72, c73, c74, c75, c76, c77, c78, c79, c80, c81, c82, c83, c84, c85, c86, c87, c88, c89, c90, c91, c92, c93, c94, c95, c96, c97, c98, c99, c100, c101, c102, c103, c104, c105, c106, c107, c108, c109, c110, c111, c112, c113, c114, c115, c116, c117, c118, c119, c120, c121, c122, c123, c124, c125, c126, c127, c128, c129, c130, c131, c132, c133, c134, c135, c136, c137, c138, c139, c140, c141, c142, c143, c144, c145, c146, c147, c148, c149, c150, c151, c152, c153, c154, c155, c156, c157, c158, c159, c160, c161, c162], defers := [] } wr := by
  conv => arg 2; whnf
  refine wp_region_held_drew (S := (fun z => z.cell? ⟨sb, 0, none⟩ = some (.int .i64 4) ∧ z.cell? ⟨sb, 1, none⟩ = some (.int .i64 0) ∧ z.cell? ⟨sb, 2, none⟩ = some (.float .f64 0) ∧ z.cell? ⟨sb, 3, none⟩ = some (.string ⟨#[]⟩) ∧ z.cell? ⟨sb, 4, none⟩ = some (.slice qs ms ds))) (by kernel_rfl) ?_ (fun hHeld => ?_)
  · exact (fb_drew HFB.out).1
  have HDW := Lib.hid (show FB w sb qs ms ds wr.drew ∧ Below wr.heap.size wr wr.drew from ⟨fb_drew HFB.out, Below.drew (Below.refl _ _)⟩)
  revert HDW hHeld
  generalize wr.drew = Wd
  intro hHeld HDW
  have hq := HDW.out.1
  have hbd := HDW.out.2
  refine wpAnyH_take (i := 0) (oi := ?_) (v := ?_) ?hid0 (by kernel_rfl) ?hfd0 ?hrd0 ?hQd0 ?hyd0 (by assumption) ?restd0
  case hid0 => (simp only [List.getElem?_toArray, List.getElem?_cons_zero, List.getElem?_cons_succ]; rfl)
  case hfd0 => kernel_rfl
  case hrd0 => kernel_rfl
  case hyd0 => (refine Or.inl ⟨by rfl, ?_⟩; intro wS hSw; (try dsimp only at hSw); go_simp; (try with_reducible rfl))
  case hQd0 => exact fun _ _ _ h => hP _ _ _ _ _ h
  (try simp only [Act.put, List.setIfInBounds_toArray, List.set_cons_zero, List.set_cons_succ])
  refine any_have 3 [8, 9, 1, 2, 3, 4, 5, 6, 7] (fun a a' w' => ∃ (gA gB gE : Nat), ∃ (Kt It : Int) (Ft : Nat) (Zt : ByteArray) (qt : Option Addr) (mt dt : Nat) (Kv Iv : Int) (Fv : Nat) (Zv : ByteArray) (qv : Option Addr) (mv dv : Nat), a' = (((((((((a.put (some 19) (.pointer (some ⟨gA, 0, none⟩))).put (some 20) (.pointer (some ⟨gB, 0, none⟩))).put (some 151) (.agg #[.int .i64 1, .int .i64 (-1), .float .f64 0, .string ⟨#[]⟩, .slice none 0 0])).put (some 152) (.slice (some ⟨gE, 0, none⟩) 1 1)).put (some 153) (.tuple #[.agg #[.int .i64 Kt, .int .i64 It, .float .f64 Ft, .string Zt, .slice qt mt dt], .agg #[.int .i64 Kv, .int .i64 Iv, .float .f64 Fv, .string Zv, .slice qv mv dv], .int .i64 z])).put (some 149) (.tuple #[.agg #[.int .i64 Kt, .int .i64 It, .float .f64 Ft, .string Zt, .slice qt mt dt], .agg #[.int .i64 Kv, .int .i64 Iv, .float .f64 Fv, .string Zv, .slice qv mv dv], .int .i64 z])).put (some 154) (.agg #[.int .i64 Kt, .int .i64 It, .float .f64 Ft, .string Zt, .slice qt mt dt])).put (some 155) (.agg #[.int .i64 Kv, .int .i64 Iv, .float .f64 Fv, .string Zv, .slice qv mv dv])).put (some 156) (.int .i64 z)) ∧ FB w sb qs ms ds w' ∧ Below wr.heap.size wr w' ∧ SBX w' gA (.int .i64 0) (.int .i64 0) (.float .f64 0) (.string ⟨#[]⟩) (.slice none 0 0) ∧ wr.heap.size ≤ gA ∧ SBX w' gB (.int .i64 0) (.int .i64 0) (.float .f64 0) (.string ⟨#[]⟩) (.slice none 0 0) ∧ wr.heap.size ≤ gB ∧ gA ≠ gB ∧ RepS (fun b => wr.heap.size ≤ b ∧ b ≠ gA ∧ b ≠ gB) w' 2 (.agg #[.int .i64 Kt, .int .i64 It, .float .f64 Ft, .string Zt, .slice qt mt dt]) (TT) ∧ RepS (fun b => wr.heap.size ≤ b ∧ b ≠ gA ∧ b ≠ gB) w' 1 (.agg #[.int .i64 Kv, .int .i64 Iv, .float .f64 Fv, .string Zv, .slice qv mv dv]) (UU)) ?phK113m (fun hK113 => ?_)
  case phK113m =>
    intro a' w' hst hHeld
    obtain ⟨gA, gB, gE, Kt, It, Ft, Zt, qt, mt, dt, Kv, Iv, Fv, Zv, qv, mv, dv, rfl, hq, hbd, hsA, hgA, hsB, hgB, hne, ht, hv⟩ := hst
    (try simp only [Act.put, List.setIfInBounds_toArray, List.set_cons_zero, List.set_cons_succ])
    have hcA := hsA.1; have hcB := hsB.1
    refine wpAnyH_ready (rs := [10]) (by kernel_rfl) (by simp) ?_
    refine AllReadyH.cons (o := ?_) ?ho10hK113m ?hst10hK113m AllReadyH.nil
    case ho10hK113m => (simp only [List.getElem?_toArray, List.getElem?_cons_zero, List.getElem?_cons_succ]; rfl)
    intro K hK
    have bb0 := hsA.1.1; have bb1 := hsA.1.2.1; have bb2 := hsA.1.2.2.1; have bb3 := hsA.1.2.2.2.1; have bb4 := hsA.1.2.2.2.2; have bbf := hsA.2; have bbl := cell_lt bb0; go_simp
    have hqA : FB w sb qs ms ds (((((w'.setCell ⟨gA, 0, none⟩ (.int .i64 Kt)).setCell ⟨gA, 1, none⟩ (.int .i64 It)).setCell ⟨gA, 2, none⟩ (.float .f64 Ft)).setCell ⟨gA, 3, none⟩ (.string Zt)).setCell ⟨gA, 4, none⟩ (.slice qt mt dt)) := fb_set hq (by have h := hgA; omega) (by have h := hgA; omega)
    refine hK.out _ _ ?hs10hK113m (fun hHeld => ?_)
    case hs10hK113m => exact (hqA).1
    clear hK K bb0 bb1 bb2 bb3 bb4 bbf bbl
    (try simp only [Act.put, List.setIfInBounds_toArray, List.set_cons_zero, List.set_cons_succ])
    refine wpAnyH_ready (rs := [11]) (by kernel_rfl) (by simp) ?_
    refine AllReadyH.cons (o := ?_) ?ho11hK113m ?hst11hK113m AllReadyH.nil
    case ho11hK113m => (simp only [List.getElem?_toArray, List.getElem?_cons_zero, List.getElem?_cons_succ]; rfl)
    intro K hK
    have bb0 := hsB.1.1; have bb1 := hsB.1.2.1; have bb2 := hsB.1.2.2.1; have bb3 := hsB.1.2.2.2.1; have bb4 := hsB.1.2.2.2.2; have bbf := hsB.2; have bbl := cell_lt bb0; go_simp
    have hqB : FB w sb qs ms ds ((((((((((w'.setCell ⟨gA, 0, none⟩ (.int .i64 Kt)).setCell ⟨gA, 1, none⟩ (.int .i64 It)).setCell ⟨gA, 2, none⟩ (.float .f64 Ft)).setCell ⟨gA, 3, none⟩ (.string Zt)).setCell ⟨gA, 4, none⟩ (.slice qt mt dt)).setCell ⟨gB, 0, none⟩ (.int .i64 Kv)).setCell ⟨gB, 1, none⟩ (.int .i64 Iv)).setCell ⟨gB, 2, none⟩ (.float .f64 Fv)).setCell ⟨gB, 3, none⟩ (.string Zv)).setCell ⟨gB, 4, none⟩ (.slice qv mv dv)) := fb_set hqA (by have h := hgB; omega) (by have h := hgB; omega)
    refine hK.out _ _ ?hs11hK113m (fun hHeld => ?_)
    case hs11hK113m => exact (hqB).1
    clear hK K bb0 bb1 bb2 bb3 bb4 bbf bbl
    (try simp only [Act.put, List.setIfInBounds_toArray, List.set_cons_zero, List.set_cons_succ])
    refine wpAnyH_take (i := 12) (oi := ?_) (v := ?_) ?hihK113m12 (by kernel_rfl) ?hfhK113m12 ?hrhK113m12 ?hQhK113m12 ?hyhK113m12 (by assumption) ?resthK113m12
    case hihK113m12 => (simp only [List.getElem?_toArray, List.getElem?_cons_zero, List.getElem?_cons_succ]; rfl)
    case hfhK113m12 => kernel_rfl
    case hrhK113m12 => kernel_rfl
    case hyhK113m12 => (refine Or.inl ⟨by rfl, ?_⟩; intro wS hSw; (try dsimp only at hSw); go_simp; (try with_reducible rfl))
    case hQhK113m12 => exact fun _ _ _ h => hP _ _ _ _ _ h
    (try simp only [Act.put, List.setIfInBounds_toArray, List.set_cons_zero, List.set_cons_succ])
    refine wpAnyH_done (by kernel_rfl) ?_ _
    have HGF := Lib.hid (show CS ((((((((((w'.setCell ⟨gA, 0, none⟩ (.int .i64 Kt)).setCell ⟨gA, 1, none⟩ (.int .i64 It)).setCell ⟨gA, 2, none⟩ (.float .f64 Ft)).setCell ⟨gA, 3, none⟩ (.string Zt)).setCell ⟨gA, 4, none⟩ (.slice qt mt dt)).setCell ⟨gB, 0, none⟩ (.int .i64 Kv)).setCell ⟨gB, 1, none⟩ (.int .i64 Iv)).setCell ⟨gB, 2, none⟩ (.float .f64 Fv)).setCell ⟨gB, 3, none⟩ (.string Zv)).setCell ⟨gB, 4, none⟩ (.slice qv mv dv)) gA (.int .i64 Kt) (.int .i64 It) (.float .f64 Ft) (.string Zt) (.slice qt mt dt) ∧ CS ((((((((((w'.setCell ⟨gA, 0, none⟩ (.int .i64 Kt)).setCell ⟨gA, 1, none⟩ (.int .i64 It)).setCell ⟨gA, 2, none⟩ (.float .f64 Ft)).setCell ⟨gA, 3, none⟩ (.string Zt)).setCell ⟨gA, 4, none⟩ (.slice qt mt dt)).setCell ⟨gB, 0, none⟩ (.int .i64 Kv)).setCell ⟨gB, 1, none⟩ (.int .i64 Iv)).setCell ⟨gB, 2, none⟩ (.float .f64 Fv)).setCell ⟨gB, 3, none⟩ (.string Zv)).setCell ⟨gB, 4, none⟩ (.slice qv mv dv)) gB (.int .i64 Kv) (.int .i64 Iv) (.float .f64 Fv) (.string Zv) (.slice qv mv dv) ∧ FB w sb qs ms ds ((((((((((w'.setCell ⟨gA, 0, none⟩ (.int .i64 Kt)).setCell ⟨gA, 1, none⟩ (.int .i64 It)).setCell ⟨gA, 2, none⟩ (.float .f64 Ft)).setCell ⟨gA, 3, none⟩ (.string Zt)).setCell ⟨gA, 4, none⟩ (.slice qt mt dt)).setCell ⟨gB, 0, none⟩ (.int .i64 Kv)).setCell ⟨gB, 1, none⟩ (.int .i64 Iv)).setCell ⟨gB, 2, none⟩ (.float .f64 Fv)).setCell ⟨gB, 3, none⟩ (.string Zv)).setCell ⟨gB, 4, none⟩ (.slice qv mv dv)) ∧ Below wr.heap.size wr ((((((((((w'.setCell ⟨gA, 0, none⟩ (.int .i64 Kt)).setCell ⟨gA, 1, none⟩ (.int .i64 It)).setCell ⟨gA, 2, none⟩ (.float .f64 Ft)).setCell ⟨gA, 3, none⟩ (.string Zt)).setCell ⟨gA, 4, none⟩ (.slice qt mt dt)).setCell ⟨gB, 0, none⟩ (.int .i64 Kv)).setCell ⟨gB, 1, none⟩ (.int .i64 Iv)).setCell ⟨gB, 2, none⟩ (.float .f64 Fv)).setCell ⟨gB, 3, none⟩ (.string Zv)).setCell ⟨gB, 4, none⟩ (.slice qv mv dv)) ∧ RepS (fun b => wr.heap.size ≤ b ∧ b ≠ gA ∧ b ≠ gB) ((((((((((w'.setCell ⟨gA, 0, none⟩ (.int .i64 Kt)).setCell ⟨gA, 1, none⟩ (.int .i64 It)).setCell ⟨gA, 2, none⟩ (.float .f64 Ft)).setCell ⟨gA, 3, none⟩ (.string Zt)).setCell ⟨gA, 4, none⟩ (.slice qt mt dt)).setCell ⟨gB, 0, none⟩ (.int .i64 Kv)).setCell ⟨gB, 1, none⟩ (.int .i64 Iv)).setCell ⟨gB, 2, none⟩ (.float .f64 Fv)).setCell ⟨gB, 3, none⟩ (.string Zv)).setCell ⟨gB, 4, none⟩ (.slice qv mv dv)) 2 (.agg #[.int .i64 Kt, .int .i64 It, .float .f64 Ft, .string Zt, .slice qt mt dt]) (TT) ∧ RepS (fun b => wr.heap.size ≤ b ∧ b ≠ gA ∧ b ≠ gB) ((((((((((w'.setCell ⟨gA, 0, none⟩ (.int .i64 Kt)).setCell ⟨gA, 1, none⟩ (.int .i64 It)).setCell ⟨gA, 2, none⟩ (.float .f64 Ft)).setCell ⟨gA, 3, none⟩ (.string Zt)).setCell ⟨gA, 4, none⟩ (.slice qt mt dt)).setCell ⟨gB, 0, none⟩ (.int .i64 Kv)).setCell ⟨gB, 1, none⟩ (.int .i64 Iv)).setCell ⟨gB, 2, none⟩ (.float .f64 Fv)).setCell ⟨gB, 3, none⟩ (.string Zv)).setCell ⟨gB, 4, none⟩ (.slice qv mv dv)) 1 (.agg #[.int .i64 Kv, .int .i64 Iv, .float .f64 Fv, .string Zv, .slice qv mv dv]) (UU) from ⟨cs_other (cs_set5 hsA.1) hne, cs_set5 (cs_other hsB.1 hne.symm), hqB, bel_set5 (bel_set5 hbd hgA) hgB, repS_set (repS_set ht (fun b hb => hb.2.1)) (fun b hb => hb.2.2), repS_set (repS_set hv (fun b hb => hb.2.1)) (fun b hb => hb.2.2)⟩)
    clear hq hqA hqB hbd hsA hsB hcA hcB ht hv hHeld
    revert HGF
    generalize ((((((((((w'.setCell ⟨gA, 0, none⟩ (.int .i64 Kt)).setCell ⟨gA, 1, none⟩ (.int .i64 It)).setCell ⟨gA, 2, none⟩ (.float .f64 Ft)).setCell ⟨gA, 3, none⟩ (.string Zt)).setCell ⟨gA, 4, none⟩ (.slice qt mt dt)).setCell ⟨gB, 0, none⟩ (.int .i64 Kv)).setCell ⟨gB, 1, none⟩ (.int .i64 Iv)).setCell ⟨gB, 2, none⟩ (.float .f64 Fv)).setCell ⟨gB, 3, none⟩ (.string Zv)).setCell ⟨gB, 4, none⟩ (.slice qv mv dv)) = Wg
    intro HGF
    exact hQ gA gB gE Kt It Ft Zt qt mt dt Kv Iv Fv Zv qv mv dv Wg HGF.out
  refine any_have 4 [8, 1, 2, 3, 4, 5, 6, 7] (fun a a' w' => ∃ (gA gE : Nat), ∃ (Kt It : Int) (Ft : Nat) (Zt : ByteArray) (qt : Option Addr) (mt dt : Nat) (Kv Iv : Int) (Fv : Nat) (Zv : ByteArray) (qv : Option Addr) (mv dv : Nat), a' = ((((((((a.put (some 19) (.pointer (some ⟨gA, 0, none⟩))).put (some 151) (.agg #[.int .i64 1, .int .i64 (-1), .float .f64 0, .string ⟨#[]⟩, .slice none 0 0])).put (some 152) (.slice (some ⟨gE, 0, none⟩) 1 1)).put (some 153) (.tuple #[.agg #[.int .i64 Kt, .int .i64 It, .float .f64 Ft, .string Zt, .slice qt mt dt], .agg #[.int .i64 Kv, .int .i64 Iv, .float .f64 Fv, .string Zv, .slice qv mv dv], .int .i64 z])).put (some 149) (.tuple #[.agg #[.int .i64 Kt, .int .i64 It, .float .f64 Ft, .string Zt, .slice qt mt dt], .agg #[.int .i64 Kv, .int .i64 Iv, .float .f64 Fv, .string Zv, .slice qv mv dv], .int .i64 z])).put (some 154) (.agg #[.int .i64 Kt, .int .i64 It, .float .f64 Ft, .string Zt, .slice qt mt dt])).put (some 155) (.agg #[.int .i64 Kv, .int .i64 Iv, .float .f64 Fv, .string Zv, .slice qv mv dv])).put (some 156) (.int .i64 z)) ∧ FB w sb qs ms ds w' ∧ Below wr.heap.size wr w' ∧ SBX w' gA (.int .i64 0) (.int .i64 0) (.float .f64 0) (.string ⟨#[]⟩) (.slice none 0 0) ∧ wr.heap.size ≤ gA ∧ RepS (fun b => wr.heap.size ≤ b ∧ b ≠ gA) w' 2 (.agg #[.int .i64 Kt, .int .i64 It, .float .f64 Ft, .string Zt, .slice qt mt dt]) (TT) ∧ RepS (fun b => wr.heap.size ≤ b ∧ b ≠ gA) w' 1 (.agg #[.int .i64 Kv, .int .i64 Iv, .float .f64 Fv, .string Zv, .slice qv mv dv]) (UU)) ?phK103m (fun hK103 => ?_)
  case phK103m =>
    intro a' w' hst hHeld
    obtain ⟨gA, gE, Kt, It, Ft, Zt, qt, mt, dt, Kv, Iv, Fv, Zv, qv, mv, dv, rfl, hq, hbd, hsA, hgA, ht, hv⟩ := hst
    (try simp only [Act.put, List.setIfInBounds_toArray, List.set_cons_zero, List.set_cons_succ])
    refine wpAnyH_ready (rs := [9]) (by kernel_rfl) (by simp) ?_
    refine AllReadyH.cons (o := ?_) ?hoBhK103m ?hstBhK103m AllReadyH.nil
    case hoBhK103m => (simp only [List.getElem?_toArray, List.getElem?_cons_zero, List.getElem?_cons_succ]; rfl)
    case hstBhK103m =>
      intro K hK
      go_simp
      refine hK.out _ _ ?hsBhK103m (fun hHeld => ?_)
      case hsBhK103m => exact ((fb_step hq (bel_alloc (Below.refl _ _) (.cells #[.int .i64 0, .int .i64 0, .float .f64 0, .string ⟨#[]⟩, .slice none 0 0] 27)))).1
      clear hK K
      (try simp only [Act.put, List.setIfInBounds_toArray, List.set_cons_zero, List.set_cons_succ])
      exact any_eq (by kernel_rfl) (by kernel_rfl) (hK113 _ _ ⟨gA, _, gE, Kt, It, Ft, Zt, qt, mt, dt, Kv, Iv, Fv, Zv, qv, mv, dv, rfl, (fb_step hq (bel_alloc (Below.refl _ _) (.cells #[.int .i64 0, .int .i64 0, .float .f64 0, .string ⟨#[]⟩, .slice none 0 0] 27))), (bel_step hbd (bel_alloc (Below.refl _ _) (.cells #[.int .i64 0, .int .i64 0, .float .f64 0, .string ⟨#[]⟩, .slice none 0 0] 27))), (sbx_step hsA (bel_alloc (Below.refl _ _) (.cells #[.int .i64 0, .int .i64 0, .float .f64 0, .string ⟨#[]⟩, .slice none 0 0] 27))), hgA, ⟨cs_new rfl, fun o => row_frz (row_alloc _ _ _) o⟩, hbd.size, (by have h := cs_lt hsA.1; omega), (repS_step (bel_alloc (Below.refl _ _) (.cells #[.int .i64 0, .int .i64 0, .float .f64 0, .string ⟨#[]⟩, .slice none 0 0] 27)) (repS_mono (fun b hb => ⟨hb.1.1, hb.1.2, Nat.ne_of_lt hb.2⟩) _ _ _ (repS_lt _ _ _ ht))), (repS_step (bel_alloc (Below.refl _ _) (.cells #[.int .i64 0, .int .i64 0, .float .f64 0, .string ⟨#[]⟩, .slice none 0 0] 27)) (repS_mono (fun b hb => ⟨hb.1.1, hb.1.2, Nat.ne_of_lt hb.2⟩) _ _ _ (repS_lt _ _ _ hv)))⟩ hHeld)
  refine any_have 4 [9, 1, 2, 3, 4, 5, 6, 7] (fun a a' w' => ∃ (gB gE : Nat), ∃ (Kt It : Int) (Ft : Nat) (Zt : ByteArray) (qt : Option Addr) (mt dt : Nat) (Kv Iv : Int) (Fv : Nat) (Zv : ByteArray) (qv : Option Addr) (mv dv : Nat), a' = ((((((((a.put (some 20) (.pointer (some ⟨gB, 0, none⟩))).put (some 151) (.agg #[.int .i64 1, .int .i64 (-1), .float .f64 0, .string ⟨#[]⟩, .slice none 0 0])).put (some 152) (.slice (some ⟨gE, 0, none⟩) 1 1)).put (some 153) (.tuple #[.agg #[.int .i64 Kt, .int .i64 It, .float .f64 Ft, .string Zt, .slice qt mt dt], .agg #[.int .i64 Kv, .int .i64 Iv, .float .f64 Fv, .string Zv, .slice qv mv dv], .int .i64 z])).put (some 149) (.tuple #[.agg #[.int .i64 Kt, .int .i64 It, .float .f64 Ft, .string Zt, .slice qt mt dt], .agg #[.int .i64 Kv, .int .i64 Iv, .float .f64 Fv, .string Zv, .slice qv mv dv], .int .i64 z])).put (some 154) (.agg #[.int .i64 Kt, .int .i64 It, .float .f64 Ft, .string Zt, .slice qt mt dt])).put (some 155) (.agg #[.int .i64 Kv, .int .i64 Iv, .float .f64 Fv, .string Zv, .slice qv mv dv])).put (some 156) (.int .i64 z)) ∧ FB w sb qs ms ds w' ∧ Below wr.heap.size wr w' ∧ SBX w' gB (.int .i64 0) (.int .i64 0) (.float .f64 0) (.string ⟨#[]⟩) (.slice none 0 0) ∧ wr.heap.size ≤ gB ∧ RepS (fun b => wr.heap.size ≤ b ∧ b ≠ gB) w' 2 (.agg #[.int .i64 Kt, .int .i64 It, .float .f64 Ft, .string Zt, .slice qt mt dt]) (TT) ∧ RepS (fun b => wr.heap.size ≤ b ∧ b ≠ gB) w' 1 (.agg #[.int .i64 Kv, .int .i64 Iv, .float .f64 Fv, .string Zv, .slice qv mv dv]) (UU)) ?phK013m (fun hK013 => ?_)
  case phK013m =>
    intro a' w' hst hHeld
    obtain ⟨gB, gE, Kt, It, Ft, Zt, qt, mt, dt, Kv, Iv, Fv, Zv, qv, mv, dv, rfl, hq, hbd, hsB, hgB, ht, hv⟩ := hst
    (try simp only [Act.put, List.setIfInBounds_toArray, List.set_cons_zero, List.set_cons_succ])
    refine wpAnyH_ready (rs := [8]) (by kernel_rfl) (by simp) ?_
    refine AllReadyH.cons (o := ?_) ?hoAhK013m ?hstAhK013m AllReadyH.nil
    case hoAhK013m => (simp only [List.getElem?_toArray, List.getElem?_cons_zero, List.getElem?_cons_succ]; rfl)
    case hstAhK013m =>
      intro K hK
      go_simp
      refine hK.out _ _ ?hsAhK013m (fun hHeld => ?_)
      case hsAhK013m => exact ((fb_step hq (bel_alloc (Below.refl _ _) (.cells #[.int .i64 0, .int .i64 0, .float .f64 0, .string ⟨#[]⟩, .slice none 0 0] 27)))).1
      clear hK K
      (try simp only [Act.put, List.setIfInBounds_toArray, List.set_cons_zero, List.set_cons_succ])
      exact any_eq (by kernel_rfl) (by kernel_rfl) (hK113 _ _ ⟨_, gB, gE, Kt, It, Ft, Zt, qt, mt, dt, Kv, Iv, Fv, Zv, qv, mv, dv, rfl, (fb_step hq (bel_alloc (Below.refl _ _) (.cells #[.int .i64 0, .int .i64 0, .float .f64 0, .string ⟨#[]⟩, .slice none 0 0] 27))), (bel_step hbd (bel_alloc (Below.refl _ _) (.cells #[.int .i64 0, .int .i64 0, .float .f64 0, .string ⟨#[]⟩, .slice none 0 0] 27))), ⟨cs_new rfl, fun o => row_frz (row_alloc _ _ _) o⟩, hbd.size, (sbx_step hsB (bel_alloc (Below.refl _ _) (.cells #[.int .i64 0, .int .i64 0, .float .f64 0, .string ⟨#[]⟩, .slice none 0 0] 27))), hgB, (by have h := cs_lt hsB.1; omega), (repS_step (bel_alloc (Below.refl _ _) (.cells #[.int .i64 0, .int .i64 0, .float .f64 0, .string ⟨#[]⟩, .slice none 0 0] 27)) (repS_mono (fun b hb => ⟨hb.1.1, Nat.ne_of_lt hb.2, hb.1.2⟩) _ _ _ (repS_lt _ _ _ ht))), (repS_step (bel_alloc (Below.refl _ _) (.cells #[.int .i64 0, .int .i64 0, .float .f64 0, .string ⟨#[]⟩, .slice none 0 0] 27)) (repS_mono (fun b hb => ⟨hb.1.1, Nat.ne_of_lt hb.2, hb.1.2⟩) _ _ _ (repS_lt _ _ _ hv)))⟩ hHeld)
  refine any_have 5 [1, 2, 3, 4, 5, 6, 7] (fun a a' w' => ∃ (gE : Nat), ∃ (Kt It : Int) (Ft : Nat) (Zt : ByteArray) (qt : Option Addr) (mt dt : Nat) (Kv Iv : Int) (Fv : Nat) (Zv : ByteArray) (qv : Option Addr) (mv dv : Nat), a' = (((((((a.put (some 151) (.agg #[.int .i64 1, .int .i64 (-1), .float .f64 0, .string ⟨#[]⟩, .slice none 0 0])).put (some 152) (.slice (some ⟨gE, 0, none⟩) 1 1)).put (some 153) (.tuple #[.agg #[.int .i64 Kt, .int .i64 It, .float .f64 Ft, .string Zt, .slice qt mt dt], .agg #[.int .i64 Kv, .int .i64 Iv, .float .f64 Fv, .string Zv, .slice qv mv dv], .int .i64 z])).put (some 149) (.tuple #[.agg #[.int .i64 Kt, .int .i64 It, .float .f64 Ft, .string Zt, .slice qt mt dt], .agg #[.int .i64 Kv, .int .i64 Iv, .float .f64 Fv, .string Zv, .slice qv mv dv], .int .i64 z])).put (some 154) (.agg #[.int .i64 Kt, .int .i64 It, .float .f64 Ft, .string Zt, .slice qt mt dt])).put (some 155) (.agg #[.int .i64 Kv, .int .i64 Iv, .float .f64 Fv, .string Zv, .slice qv mv dv])).put (some 156) (.int .i64 z)) ∧ FB w sb qs ms ds w' ∧ Below wr.heap.size wr w' ∧ RepS (fun b => wr.heap.size ≤ b) w' 2 (.agg #[.int .i64 Kt, .int .i64 It, .float .f64 Ft, .string Zt, .slice qt mt dt]) (TT) ∧ RepS (fun b => wr.heap.size ≤ b) w' 1 (.agg #[.int .i64 Kv, .int .i64 Iv, .float .f64 Fv, .string Zv, .slice qv mv dv]) (UU)) ?phK003m (fun hK003 => ?_)
  case phK003m =>
    intro a' w' hst hHeld
    obtain ⟨gE, Kt, It, Ft, Zt, qt, mt, dt, Kv, Iv, Fv, Zv, qv, mv, dv, rfl, hq, hbd, ht, hv⟩ := hst
    (try simp only [Act.put, List.setIfInBounds_toArray, List.set_cons_zero, List.set_cons_succ])
    refine wpAnyH_ready (rs := [8, 9]) (by kernel_rfl) (by simp) ?_
    refine AllReadyH.cons (o := ?_) ?hoAhK003m ?hstAhK003m (AllReadyH.cons (o := ?_) ?hoBhK003m ?hstBhK003m AllReadyH.nil)
    case hoAhK003m => (simp only [List.getElem?_toArray, List.getElem?_cons_zero, List.getElem?_cons_succ]; rfl)
    case hoBhK003m => (simp only [List.getElem?_toArray, List.getElem?_cons_zero, List.getElem?_cons_succ]; rfl)
    case hstAhK003m =>
      intro K hK
      go_simp
      refine hK.out _ _ ?hsAhK003m (fun hHeld => ?_)
      case hsAhK003m => exact ((fb_step hq (bel_alloc (Below.refl _ _) (.cells #[.int .i64 0, .int .i64 0, .float .f64 0, .string ⟨#[]⟩, .slice none 0 0] 27)))).1
      clear hK K
      (try simp only [Act.put, List.setIfInBounds_toArray, List.set_cons_zero, List.set_cons_succ])
      exact any_eq (by kernel_rfl) (by kernel_rfl) (hK103 _ _ ⟨_, gE, Kt, It, Ft, Zt, qt, mt, dt, Kv, Iv, Fv, Zv, qv, mv, dv, rfl, (fb_step hq (bel_alloc (Below.refl _ _) (.cells #[.int .i64 0, .int .i64 0, .float .f64 0, .string ⟨#[]⟩, .slice none 0 0] 27))), (bel_step hbd (bel_alloc (Below.refl _ _) (.cells #[.int .i64 0, .int .i64 0, .float .f64 0, .string ⟨#[]⟩, .slice none 0 0] 27))), ⟨cs_new rfl, fun o => row_frz (row_alloc _ _ _) o⟩, hbd.size, (repS_step (bel_alloc (Below.refl _ _) (.cells #[.int .i64 0, .int .i64 0, .float .f64 0, .string ⟨#[]⟩, .slice none 0 0] 27)) (repS_mono (fun b hb => ⟨hb.1, Nat.ne_of_lt hb.2⟩) _ _ _ (repS_lt _ _ _ ht))), (repS_step (bel_alloc (Below.refl _ _) (.cells #[.int .i64 0, .int .i64 0, .float .f64 0, .string ⟨#[]⟩, .slice none 0 0] 27)) (repS_mono (fun b hb => ⟨hb.1, Nat.ne_of_lt hb.2⟩) _ _ _ (repS_lt _ _ _ hv)))⟩ hHeld)
    case hstBhK003m =>
      intro K hK
      go_simp
      refine hK.out _ _ ?hsBhK003m (fun hHeld => ?_)
      case hsBhK003m => exact ((fb_step hq (bel_alloc (Below.refl _ _) (.cells #[.int .i64 0, .int .i64 0, .float .f64 0, .string ⟨#[]⟩, .slice none 0 0] 27)))).1
      clear hK K
      (try simp only [Act.put, List.setIfInBounds_toArray, List.set_cons_zero, List.set_cons_succ])
      exact any_eq (by kernel_rfl) (by kernel_rfl) (hK013 _ _ ⟨_, gE, Kt, It, Ft, Zt, qt, mt, dt, Kv, Iv, Fv, Zv, qv, mv, dv, rfl, (fb_step hq (bel_alloc (Below.refl _ _) (.cells #[.int .i64 0, .int .i64 0, .float .f64 0, .string ⟨#[]⟩, .slice none 0 0] 27))), (bel_step hbd (bel_alloc (Below.refl _ _) (.cells #[.int .i64 0, .int .i64 0, .float .f64 0, .string ⟨#[]⟩, .slice none 0 0] 27))), ⟨cs_new rfl, fun o => row_frz (row_alloc _ _ _) o⟩, hbd.size, (repS_step (bel_alloc (Below.refl _ _) (.cells #[.int .i64 0, .int .i64 0, .float .f64 0, .string ⟨#[]⟩, .slice none 0 0] 27)) (repS_mono (fun b hb => ⟨hb.1, Nat.ne_of_lt hb.2⟩) _ _ _ (repS_lt _ _ _ ht))), (repS_step (bel_alloc (Below.refl _ _) (.cells #[.int .i64 0, .int .i64 0, .float .f64 0, .string ⟨#[]⟩, .slice none 0 0] 27)) (repS_mono (fun b hb => ⟨hb.1, Nat.ne_of_lt hb.2⟩) _ _ _ (repS_lt _ _ _ hv)))⟩ hHeld)
  refine any_have 8 [8, 9, 1, 2] (fun a a' w' => ∃ (gA gB gE : Nat), a' = ((((a.put (some 19) (.pointer (some ⟨gA, 0, none⟩))).put (some 20) (.pointer (some ⟨gB, 0, none⟩))).put (some 151) (.agg #[.int .i64 1, .int .i64 (-1), .float .f64 0, .string ⟨#[]⟩, .slice none 0 0])).put (some 152) (.slice (some ⟨gE, 0, none⟩) 1 1)) ∧ FB w sb qs ms ds w' ∧ Below wr.heap.size wr w' ∧ SBX w' gA (.int .i64 0) (.int .i64 0) (.float .f64 0) (.string ⟨#[]⟩) (.slice none 0 0) ∧ wr.heap.size ≤ gA ∧ SBX w' gB (.int .i64 0) (.int .i64 0) (.float .f64 0) (.string ⟨#[]⟩) (.slice none 0 0) ∧ wr.heap.size ≤ gB ∧ gA ≠ gB ∧ L1 gE ((-1)) w') ?phK112m (fun hK112 => ?_)
  case phK112m =>
    intro a' w' hst hHeld
    obtain ⟨gA, gB, gE, rfl, hq, hbd, hsA, hgA, hsB, hgB, hne, hlv⟩ := hst
    (try simp only [Act.put, List.setIfInBounds_toArray, List.set_cons_zero, List.set_cons_succ])
    refine wpAnyH_ready (rs := [3]) (by kernel_rfl) (by simp) ?_
    refine AllReadyH.cons (o := ?_) ?hoXhK112m ?hstXhK112m AllReadyH.nil
    case hoXhK112m => (simp only [List.getElem?_toArray, List.getElem?_cons_zero, List.getElem?_cons_succ]; rfl)
    case hstXhK112m =>
      intro K hK
      go_simp
      have hrp := rep_keep hbd _ _ _ HSTr.out; go_at_call 11; refine (HDO.out _ _ hrp hlv).mono ?_; rintro e wD ⟨tt, vv, rfl, hbT, ht, hv⟩; obtain ⟨Kt, It, Ft, Zt, qt, mt, dt, rfl, _⟩ := repS_shape ht; obtain ⟨Kv, Iv, Fv, Zv, qv, mv, dv, rfl, _⟩ := repS_shape hv
      go_wp2_with fail
      refine hK.out _ _ ?hsXhK112m (fun hHeld => ?_)
      case hsXhK112m => exact ((fb_step hq hbT)).1
      clear hK K
      (try simp only [Act.put, List.setIfInBounds_toArray, List.set_cons_zero, List.set_cons_succ])
      refine wpAnyH_take (i := 4) (oi := ?_) (v := ?_) ?hiXhK112m4 (by kernel_rfl) ?hfXhK112m4 ?hrXhK112m4 ?hQXhK112m4 ?hyXhK112m4 (by assumption) ?restXhK112m4
      case hiXhK112m4 => (simp only [List.getElem?_toArray, List.getElem?_cons_zero, List.getElem?_cons_succ]; rfl)
      case hfXhK112m4 => kernel_rfl
      case hrXhK112m4 => kernel_rfl
      case hyXhK112m4 => (refine Or.inl ⟨by rfl, ?_⟩; intro wS hSw; (try dsimp only at hSw); go_simp; (try with_reducible rfl))
      case hQXhK112m4 => exact fun _ _ _ h => hP _ _ _ _ _ h
      (try simp only [Act.put, List.setIfInBounds_toArray, List.set_cons_zero, List.set_cons_succ])
      refine wpAnyH_take (i := 5) (oi := ?_) (v := ?_) ?hiXhK112m5 (by kernel_rfl) ?hfXhK112m5 ?hrXhK112m5 ?hQXhK112m5 ?hyXhK112m5 (by assumption) ?restXhK112m5
      case hiXhK112m5 => (simp only [List.getElem?_toArray, List.getElem?_cons_zero, List.getElem?_cons_succ]; rfl)
      case hfXhK112m5 => kernel_rfl
      case hrXhK112m5 => kernel_rfl
      case hyXhK112m5 => (refine Or.inl ⟨by rfl, ?_⟩; intro wS hSw; (try dsimp only at hSw); go_simp; (try with_reducible rfl))
      case hQXhK112m5 => exact fun _ _ _ h => hP _ _ _ _ _ h
      (try simp only [Act.put, List.setIfInBounds_toArray, List.set_cons_zero, List.set_cons_succ])
      refine wpAnyH_take (i := 6) (oi := ?_) (v := ?_) ?hiXhK112m6 (by kernel_rfl) ?hfXhK112m6 ?hrXhK112m6 ?hQXhK112m6 ?hyXhK112m6 (by assumption) ?restXhK112m6
      case hiXhK112m6 => (simp only [List.getElem?_toArray, List.getElem?_cons_zero, List.getElem?_cons_succ]; rfl)
      case hfXhK112m6 => kernel_rfl
      case hrXhK112m6 => kernel_rfl
      case hyXhK112m6 => (refine Or.inl ⟨by rfl, ?_⟩; intro wS hSw; (try dsimp only at hSw); go_simp; (try with_reducible rfl))
      case hQXhK112m6 => exact fun _ _ _ h => hP _ _ _ _ _ h
      (try simp only [Act.put, List.setIfInBounds_toArray, List.set_cons_zero, List.set_cons_succ])
      refine wpAnyH_take (i := 7) (oi := ?_) (v := ?_) ?hiXhK112m7 (by kernel_rfl) ?hfXhK112m7 ?hrXhK112m7 ?hQXhK112m7 ?hyXhK112m7 (by assumption) ?restXhK112m7
      case hiXhK112m7 => (simp only [List.getElem?_toArray, List.getElem?_cons_zero, List.getElem?_cons_succ]; rfl)
      case hfXhK112m7 => kernel_rfl
      case hrXhK112m7 => kernel_rfl
      case hyXhK112m7 => (refine Or.inl ⟨by rfl, ?_⟩; intro wS hSw; (try dsimp only at hSw); go_simp; (try with_reducible rfl))
      case hQXhK112m7 => exact fun _ _ _ h => hP _ _ _ _ _ h
      (try simp only [Act.put, List.setIfInBounds_toArray, List.set_cons_zero, List.set_cons_succ])
      exact any_eq (by kernel_rfl) (by kernel_rfl) (hK113 _ _ ⟨gA, gB, gE, Kt, It, Ft, Zt, qt, mt, dt, Kv, Iv, Fv, Zv, qv, mv, dv, rfl, (fb_step hq hbT), (bel_step hbd hbT), (sbx_step hsA hbT), hgA, (sbx_step hsB hbT), hgB, hne, (repS_mono (fun b hb => ⟨Nat.le_trans hbd.size hb, (by have h := cs_lt hsA.1; have h2 : _ ≤ b := hb; omega), (by have h := cs_lt hsB.1; have h2 : _ ≤ b := hb; omega)⟩) _ _ _ ht), (repS_mono (fun b hb => ⟨Nat.le_trans hbd.size hb, (by have h := cs_lt hsA.1; have h2 : _ ≤ b := hb; omega), (by have h := cs_lt hsB.1; have h2 : _ ≤ b := hb; omega)⟩) _ _ _ hv)⟩ hHeld)
  refine any_have 9 [8, 1, 2] (fun a a' w' => ∃ (gA gE : Nat), a' = (((a.put (some 19) (.pointer (some ⟨gA, 0, none⟩))).put (some 151) (.agg #[.int .i64 1, .int .i64 (-1), .float .f64 0, .string ⟨#[]⟩, .slice none 0 0])).put (some 152) (.slice (some ⟨gE, 0, none⟩) 1 1)) ∧ FB w sb qs ms ds w' ∧ Below wr.heap.size wr w' ∧ SBX w' gA (.int .i64 0) (.int .i64 0) (.float .f64 0) (.string ⟨#[]⟩) (.slice none 0 0) ∧ wr.heap.size ≤ gA ∧ L1 gE ((-1)) w') ?phK102m (fun hK102 => ?_)
  case phK102m =>
    intro a' w' hst hHeld
    obtain ⟨gA, gE, rfl, hq, hbd, hsA, hgA, hlv⟩ := hst
    (try simp only [Act.put, List.setIfInBounds_toArray, List.set_cons_zero, List.set_cons_succ])
    refine wpAnyH_ready (rs := [3, 9]) (by kernel_rfl) (by simp) ?_
    refine AllReadyH.cons (o := ?_) ?hoXhK102m ?hstXhK102m (AllReadyH.cons (o := ?_) ?hoBhK102m ?hstBhK102m AllReadyH.nil)
    case hoXhK102m => (simp only [List.getElem?_toArray, List.getElem?_cons_zero, List.getElem?_cons_succ]; rfl)
    case hoBhK102m => (simp only [List.getElem?_toArray, List.getElem?_cons_zero, List.getElem?_cons_succ]; rfl)
    case hstXhK102m =>
      intro K hK
      go_simp
      have hrp := rep_keep hbd _ _ _ HSTr.out; go_at_call 11; refine (HDO.out _ _ hrp hlv).mono ?_; rintro e wD ⟨tt, vv, rfl, hbT, ht, hv⟩; obtain ⟨Kt, It, Ft, Zt, qt, mt, dt, rfl, _⟩ := repS_shape ht; obtain ⟨Kv, Iv, Fv, Zv, qv, mv, dv, rfl, _⟩ := repS_shape hv
      go_wp2_with fail
      refine hK.out _ _ ?hsXhK102m (fun hHeld => ?_)
      case hsXhK102m => exact ((fb_step hq hbT)).1
      clear hK K
      (try simp only [Act.put, List.setIfInBounds_toArray, List.set_cons_zero, List.set_cons_succ])
      refine wpAnyH_take (i := 4) (oi := ?_) (v := ?_) ?hiXhK102m4 (by kernel_rfl) ?hfXhK102m4 ?hrXhK102m4 ?hQXhK102m4 ?hyXhK102m4 (by assumption) ?restXhK102m4
      case hiXhK102m4 => (simp only [List.getElem?_toArray, List.getElem?_cons_zero, List.getElem?_cons_succ]; rfl)
      case hfXhK102m4 => kernel_rfl
      case hrXhK102m4 => kernel_rfl
      case hyXhK102m4 => (refine Or.inl ⟨by rfl, ?_⟩; intro wS hSw; (try dsimp only at hSw); go_simp; (try with_reducible rfl))
      case hQXhK102m4 => exact fun _ _ _ h => hP _ _ _ _ _ h
      (try simp only [Act.put, List.setIfInBounds_toArray, List.set_cons_zero, List.set_cons_succ])
      refine wpAnyH_take (i := 5) (oi := ?_) (v := ?_) ?hiXhK102m5 (by kernel_rfl) ?hfXhK102m5 ?hrXhK102m5 ?hQXhK102m5 ?hyXhK102m5 (by assumption) ?restXhK102m5
      case hiXhK102m5 => (simp only [List.getElem?_toArray, List.getElem?_cons_zero, List.getElem?_cons_succ]; rfl)
      case hfXhK102m5 => kernel_rfl
      case hrXhK102m5 => kernel_rfl
      case hyXhK102m5 => (refine Or.inl ⟨by rfl, ?_⟩; intro wS hSw; (try dsimp only at hSw); go_simp; (try with_reducible rfl))
      case hQXhK102m5 => exact fun _ _ _ h => hP _ _ _ _ _ h
      (try simp only [Act.put, List.setIfInBounds_toArray, List.set_cons_zero, List.set_cons_succ])
      refine wpAnyH_take (i := 6) (oi := ?_) (v := ?_) ?hiXhK102m6 (by kernel_rfl) ?hfXhK102m6 ?hrXhK102m6 ?hQXhK102m6 ?hyXhK102m6 (by assumption) ?restXhK102m6
      case hiXhK102m6 => (simp only [List.getElem?_toArray, List.getElem?_cons_zero, List.getElem?_cons_succ]; rfl)
      case hfXhK102m6 => kernel_rfl
      case hrXhK102m6 => kernel_rfl
      case hyXhK102m6 => (refine Or.inl ⟨by rfl, ?_⟩; intro wS hSw; (try dsimp only at hSw); go_simp; (try with_reducible rfl))
      case hQXhK102m6 => exact fun _ _ _ h => hP _ _ _ _ _ h
      (try simp only [Act.put, List.setIfInBounds_toArray, List.set_cons_zero, List.set_cons_succ])
      refine wpAnyH_take (i := 7) (oi := ?_) (v := ?_) ?hiXhK102m7 (by kernel_rfl) ?hfXhK102m7 ?hrXhK102m7 ?hQXhK102m7 ?hyXhK102m7 (by assumption) ?restXhK102m7
      case hiXhK102m7 => (simp only [List.getElem?_toArray, List.getElem?_cons_zero, List.getElem?_cons_succ]; rfl)
      case hfXhK102m7 => kernel_rfl
      case hrXhK102m7 => kernel_rfl
      case hyXhK102m7 => (refine Or.inl ⟨by rfl, ?_⟩; intro wS hSw; (try dsimp only at hSw); go_simp; (try with_reducible rfl))
      case hQXhK102m7 => exact fun _ _ _ h => hP _ _ _ _ _ h
      (try simp only [Act.put, List.setIfInBounds_toArray, List.set_cons_zero, List.set_cons_succ])
      exact any_eq (by kernel_rfl) (by kernel_rfl) (hK103 _ _ ⟨gA, gE, Kt, It, Ft, Zt, qt, mt, dt, Kv, Iv, Fv, Zv, qv, mv, dv, rfl, (fb_step hq hbT), (bel_step hbd hbT), (sbx_step hsA hbT), hgA, (repS_mono (fun b hb => ⟨Nat.le_trans hbd.size hb, (by have h := cs_lt hsA.1; have h2 : _ ≤ b := hb; omega)⟩) _ _ _ ht), (repS_mono (fun b hb => ⟨Nat.le_trans hbd.size hb, (by have h := cs_lt hsA.1; have h2 : _ ≤ b := hb; omega)⟩) _ _ _ hv)⟩ hHeld)
    case hstBhK102m =>
      intro K hK
      go_simp
      refine hK.out _ _ ?hsBhK102m (fun hHeld => ?_)
      case hsBhK102m => exact ((fb_step hq (bel_alloc (Below.refl _ _) (.cells #[.int .i64 0, .int .i64 0, .float .f64 0, .string ⟨#[]⟩, .slice none 0 0] 27)))).1
      clear hK K
      (try simp only [Act.put, List.setIfInBounds_toArray, List.set_cons_zero, List.set_cons_succ])
      exact any_eq (by kernel_rfl) (by kernel_rfl) (hK112 _ _ ⟨gA, _, gE, rfl, (fb_step hq (bel_alloc (Below.refl _ _) (.cells #[.int .i64 0, .int .i64 0, .float .f64 0, .string ⟨#[]⟩, .slice none 0 0] 27))), (bel_step hbd (bel_alloc (Below.refl _ _) (.cells #[.int .i64 0, .int .i64 0, .float .f64 0, .string ⟨#[]⟩, .slice none 0 0] 27))), (sbx_step hsA (bel_alloc (Below.refl _ _) (.cells #[.int .i64 0, .int .i64 0, .float .f64 0, .string ⟨#[]⟩, .slice none 0 0] 27))), hgA, ⟨cs_new rfl, fun o => row_frz (row_alloc _ _ _) o⟩, hbd.size, (by have h := cs_lt hsA.1; omega), (l1_step hlv (bel_alloc (Below.refl _ _) (.cells #[.int .i64 0, .int .i64 0, .float .f64 0, .string ⟨#[]⟩, .slice none 0 0] 27)))⟩ hHeld)
  refine any_have 9 [9, 1, 2] (fun a a' w' => ∃ (gB gE : Nat), a' = (((a.put (some 20) (.pointer (some ⟨gB, 0, none⟩))).put (some 151) (.agg #[.int .i64 1, .int .i64 (-1), .float .f64 0, .string ⟨#[]⟩, .slice none 0 0])).put (some 152) (.slice (some ⟨gE, 0, none⟩) 1 1)) ∧ FB w sb qs ms ds w' ∧ Below wr.heap.size wr w' ∧ SBX w' gB (.int .i64 0) (.int .i64 0) (.float .f64 0) (.string ⟨#[]⟩) (.slice none 0 0) ∧ wr.heap.size ≤ gB ∧ L1 gE ((-1)) w') ?phK012m (fun hK012 => ?_)
  case phK012m =>
    intro a' w' hst hHeld
    obtain ⟨gB, gE, rfl, hq, hbd, hsB, hgB, hlv⟩ := hst
    (try simp only [Act.put, List.setIfInBounds_toArray, List.set_cons_zero, List.set_cons_succ])
    refine wpAnyH_ready (rs := [3, 8]) (by kernel_rfl) (by simp) ?_
    refine AllReadyH.cons (o := ?_) ?hoXhK012m ?hstXhK012m (AllReadyH.cons (o := ?_) ?hoAhK012m ?hstAhK012m AllReadyH.nil)
    case hoXhK012m => (simp only [List.getElem?_toArray, List.getElem?_cons_zero, List.getElem?_cons_succ]; rfl)
    case hoAhK012m => (simp only [List.getElem?_toArray, List.getElem?_cons_zero, List.getElem?_cons_succ]; rfl)
    case hstXhK012m =>
      intro K hK
      go_simp
      have hrp := rep_keep hbd _ _ _ HSTr.out; go_at_call 11; refine (HDO.out _ _ hrp hlv).mono ?_; rintro e wD ⟨tt, vv, rfl, hbT, ht, hv⟩; obtain ⟨Kt, It, Ft, Zt, qt, mt, dt, rfl, _⟩ := repS_shape ht; obtain ⟨Kv, Iv, Fv, Zv, qv, mv, dv, rfl, _⟩ := repS_shape hv
      go_wp2_with fail
      refine hK.out _ _ ?hsXhK012m (fun hHeld => ?_)
      case hsXhK012m => exact ((fb_step hq hbT)).1
      clear hK K
      (try simp only [Act.put, List.setIfInBounds_toArray, List.set_cons_zero, List.set_cons_succ])
      refine wpAnyH_take (i := 4) (oi := ?_) (v := ?_) ?hiXhK012m4 (by kernel_rfl) ?hfXhK012m4 ?hrXhK012m4 ?hQXhK012m4 ?hyXhK012m4 (by assumption) ?restXhK012m4
      case hiXhK012m4 => (simp only [List.getElem?_toArray, List.getElem?_cons_zero, List.getElem?_cons_succ]; rfl)
      case hfXhK012m4 => kernel_rfl
      case hrXhK012m4 => kernel_rfl
      case hyXhK012m4 => (refine Or.inl ⟨by rfl, ?_⟩; intro wS hSw; (try dsimp only at hSw); go_simp; (try with_reducible rfl))
      case hQXhK012m4 => exact fun _ _ _ h => hP _ _ _ _ _ h
      (try simp only [Act.put, List.setIfInBounds_toArray, List.set_cons_zero, List.set_cons_succ])
      refine wpAnyH_take (i := 5) (oi := ?_) (v := ?_) ?hiXhK012m5 (by kernel_rfl) ?hfXhK012m5 ?hrXhK012m5 ?hQXhK012m5 ?hyXhK012m5 (by assumption) ?restXhK012m5
      case hiXhK012m5 => (simp only [List.getElem?_toArray, List.getElem?_cons_zero, List.getElem?_cons_succ]; rfl)
      case hfXhK012m5 => kernel_rfl
      case hrXhK012m5 => kernel_rfl
      case hyXhK012m5 => (refine Or.inl ⟨by rfl, ?_⟩; intro wS hSw; (try dsimp only at hSw); go_simp; (try with_reducible rfl))
      case hQXhK012m5 => exact fun _ _ _ h => hP _ _ _ _ _ h
      (try simp only [Act.put, List.setIfInBounds_toArray, List.set_cons_zero, List.set_cons_succ])
      refine wpAnyH_take (i := 6) (oi := ?_) (v := ?_) ?hiXhK012m6 (by kernel_rfl) ?hfXhK012m6 ?hrXhK012m6 ?hQXhK012m6 ?hyXhK012m6 (by assumption) ?restXhK012m6
      case hiXhK012m6 => (simp only [List.getElem?_toArray, List.getElem?_cons_zero, List.getElem?_cons_succ]; rfl)
      case hfXhK012m6 => kernel_rfl
      case hrXhK012m6 => kernel_rfl
      case hyXhK012m6 => (refine Or.inl ⟨by rfl, ?_⟩; intro wS hSw; (try dsimp only at hSw); go_simp; (try with_reducible rfl))
      case hQXhK012m6 => exact fun _ _ _ h => hP _ _ _ _ _ h
      (try simp only [Act.put, List.setIfInBounds_toArray, List.set_cons_zero, List.set_cons_succ])
      refine wpAnyH_take (i := 7) (oi := ?_) (v := ?_) ?hiXhK012m7 (by kernel_rfl) ?hfXhK012m7 ?hrXhK012m7 ?hQXhK012m7 ?hyXhK012m7 (by assumption) ?restXhK012m7
      case hiXhK012m7 => (simp only [List.getElem?_toArray, List.getElem?_cons_zero, List.getElem?_cons_succ]; rfl)
      case hfXhK012m7 => kernel_rfl
      case hrXhK012m7 => kernel_rfl
      case hyXhK012m7 => (refine Or.inl ⟨by rfl, ?_⟩; intro wS hSw; (try dsimp only at hSw); go_simp; (try with_reducible rfl))
      case hQXhK012m7 => exact fun _ _ _ h => hP _ _ _ _ _ h
      (try simp only [Act.put, List.setIfInBounds_toArray, List.set_cons_zero, List.set_cons_succ])
      exact any_eq (by kernel_rfl) (by kernel_rfl) (hK013 _ _ ⟨gB, gE, Kt, It, Ft, Zt, qt, mt, dt, Kv, Iv, Fv, Zv, qv, mv, dv, rfl, (fb_step hq hbT), (bel_step hbd hbT), (sbx_step hsB hbT), hgB, (repS_mono (fun b hb => ⟨Nat.le_trans hbd.size hb, (by have h := cs_lt hsB.1; have h2 : _ ≤ b := hb; omega)⟩) _ _ _ ht), (repS_mono (fun b hb => ⟨Nat.le_trans hbd.size hb, (by have h := cs_lt hsB.1; have h2 : _ ≤ b := hb; omega)⟩) _ _ _ hv)⟩ hHeld)
    case hstAhK012m =>
      intro K hK
      go_simp
      refine hK.out _ _ ?hsAhK012m (fun hHeld => ?_)
      case hsAhK012m => exact ((fb_step hq (bel_alloc (Below.refl _ _) (.cells #[.int .i64 0, .int .i64 0, .float .f64 0, .string ⟨#[]⟩, .slice none 0 0] 27)))).1
      clear hK K
      (try simp only [Act.put, List.setIfInBounds_toArray, List.set_cons_zero, List.set_cons_succ])
      exact any_eq (by kernel_rfl) (by kernel_rfl) (hK112 _ _ ⟨_, gB, gE, rfl, (fb_step hq (bel_alloc (Below.refl _ _) (.cells #[.int .i64 0, .int .i64 0, .float .f64 0, .string ⟨#[]⟩, .slice none 0 0] 27))), (bel_step hbd (bel_alloc (Below.refl _ _) (.cells #[.int .i64 0, .int .i64 0, .float .f64 0, .string ⟨#[]⟩, .slice none 0 0] 27))), ⟨cs_new rfl, fun o => row_frz (row_alloc _ _ _) o⟩, hbd.size, (sbx_step hsB (bel_alloc (Below.refl _ _) (.cells #[.int .i64 0, .int .i64 0, .float .f64 0, .string ⟨#[]⟩, .slice none 0 0] 27))), hgB, (by have h := cs_lt hsB.1; omega), (l1_step hlv (bel_alloc (Below.refl _ _) (.cells #[.int .i64 0, .int .i64 0, .float .f64 0, .string ⟨#[]⟩, .slice none 0 0] 27)))⟩ hHeld)
  refine any_have 10 [1, 2] (fun a a' w' => ∃ (gE : Nat), a' = ((a.put (some 151) (.agg #[.int .i64 1, .int .i64 (-1), .float .f64 0, .string ⟨#[]⟩, .slice none 0 0])).put (some 152) (.slice (some ⟨gE, 0, none⟩) 1 1)) ∧ FB w sb qs ms ds w' ∧ Below wr.heap.size wr w' ∧ L1 gE ((-1)) w') ?phK002m (fun hK002 => ?_)
  case phK002m =>
    intro a' w' hst hHeld
    obtain ⟨gE, rfl, hq, hbd, hlv⟩ := hst
    (try simp only [Act.put, List.setIfInBounds_toArray, List.set_cons_zero, List.set_cons_succ])
    refine wpAnyH_ready (rs := [3, 8, 9]) (by kernel_rfl) (by simp) ?_
    refine AllReadyH.cons (o := ?_) ?hoXhK002m ?hstXhK002m (AllReadyH.cons (o := ?_) ?hoAhK002m ?hstAhK002m (AllReadyH.cons (o := ?_) ?hoBhK002m ?hstBhK002m AllReadyH.nil))
    case hoXhK002m => (simp only [List.getElem?_toArray, List.getElem?_cons_zero, List.getElem?_cons_succ]; rfl)
    case hoAhK002m => (simp only [List.getElem?_toArray, List.getElem?_cons_zero, List.getElem?_cons_succ]; rfl)
    case hoBhK002m => (simp only [List.getElem?_toArray, List.getElem?_cons_zero, List.getElem?_cons_succ]; rfl)
    case hstXhK002m =>
      intro K hK
      go_simp
      have hrp := rep_keep hbd _ _ _ HSTr.out; go_at_call 11; refine (HDO.out _ _ hrp hlv).mono ?_; rintro e wD ⟨tt, vv, rfl, hbT, ht, hv⟩; obtain ⟨Kt, It, Ft, Zt, qt, mt, dt, rfl, _⟩ := repS_shape ht; obtain ⟨Kv, Iv, Fv, Zv, qv, mv, dv, rfl, _⟩ := repS_shape hv
      go_wp2_with fail
      refine hK.out _ _ ?hsXhK002m (fun hHeld => ?_)
      case hsXhK002m => exact ((fb_step hq hbT)).1
      clear hK K
      (try simp only [Act.put, List.setIfInBounds_toArray, List.set_cons_zero, List.set_cons_succ])
      refine wpAnyH_take (i := 4) (oi := ?_) (v := ?_) ?hiXhK002m4 (by kernel_rfl) ?hfXhK002m4 ?hrXhK002m4 ?hQXhK002m4 ?hyXhK002m4 (by assumption) ?restXhK002m4
      case hiXhK002m4 => (simp only [List.getElem?_toArray, List.getElem?_cons_zero, List.getElem?_cons_succ]; rfl)
      case hfXhK002m4 => kernel_rfl
      case hrXhK002m4 => kernel_rfl
      case hyXhK002m4 => (refine Or.inl ⟨by rfl, ?_⟩; intro wS hSw; (try dsimp only at hSw); go_simp; (try with_reducible rfl))
      case hQXhK002m4 => exact fun _ _ _ h => hP _ _ _ _ _ h
      (try simp only [Act.put, List.setIfInBounds_toArray, List.set_cons_zero, List.set_cons_succ])
      refine wpAnyH_take (i := 5) (oi := ?_) (v := ?_) ?hiXhK002m5 (by kernel_rfl) ?hfXhK002m5 ?hrXhK002m5 ?hQXhK002m5 ?hyXhK002m5 (by assumption) ?restXhK002m5
      case hiXhK002m5 => (simp only [List.getElem?_toArray, List.getElem?_cons_zero, List.getElem?_cons_succ]; rfl)
      case hfXhK002m5 => kernel_rfl
      case hrXhK002m5 => kernel_rfl
      case hyXhK002m5 => (refine Or.inl ⟨by rfl, ?_⟩; intro wS hSw; (try dsimp only at hSw); go_simp; (try with_reducible rfl))
      case hQXhK002m5 => exact fun _ _ _ h => hP _ _ _ _ _ h
      (try simp only [Act.put, List.setIfInBounds_toArray, List.set_cons_zero, List.set_cons_succ])
      refine wpAnyH_take (i := 6) (oi := ?_) (v := ?_) ?hiXhK002m6 (by kernel_rfl) ?hfXhK002m6 ?hrXhK002m6 ?hQXhK002m6 ?hyXhK002m6 (by assumption) ?restXhK002m6
      case hiXhK002m6 => (simp only [List.getElem?_toArray, List.getElem?_cons_zero, List.getElem?_cons_succ]; rfl)
      case hfXhK002m6 => kernel_rfl
      case hrXhK002m6 => kernel_rfl
      case hyXhK002m6 => (refine Or.inl ⟨by rfl, ?_⟩; intro wS hSw; (try dsimp only at hSw); go_simp; (try with_reducible rfl))
      case hQXhK002m6 => exact fun _ _ _ h => hP _ _ _ _ _ h
      (try simp only [Act.put, List.setIfInBounds_toArray, List.set_cons_zero, List.set_cons_succ])
      refine wpAnyH_take (i := 7) (oi := ?_) (v := ?_) ?hiXhK002m7 (by kernel_rfl) ?hfXhK002m7 ?hrXhK002m7 ?hQXhK002m7 ?hyXhK002m7 (by assumption) ?restXhK002m7
      case hiXhK002m7 => (simp only [List.getElem?_toArray, List.getElem?_cons_zero, List.getElem?_cons_succ]; rfl)
      case hfXhK002m7 => kernel_rfl
      case hrXhK002m7 => kernel_rfl
      case hyXhK002m7 => (refine Or.inl ⟨by rfl, ?_⟩; intro wS hSw; (try dsimp only at hSw); go_simp; (try with_reducible rfl))
      case hQXhK002m7 => exact fun _ _ _ h => hP _ _ _ _ _ h
      (try simp only [Act.put, List.setIfInBounds_toArray, List.set_cons_zero, List.set_cons_succ])
      exact any_eq (by kernel_rfl) (by kernel_rfl) (hK003 _ _ ⟨gE, Kt, It, Ft, Zt, qt, mt, dt, Kv, Iv, Fv, Zv, qv, mv, dv, rfl, (fb_step hq hbT), (bel_step hbd hbT), (repS_mono (fun b hb => Nat.le_trans hbd.size hb) _ _ _ ht), (repS_mono (fun b hb => Nat.le_trans hbd.size hb) _ _ _ hv)⟩ hHeld)
    case hstAhK002m =>
      intro K hK
      go_simp
      refine hK.out _ _ ?hsAhK002m (fun hHeld => ?_)
      case hsAhK002m => exact ((fb_step hq (bel_alloc (Below.refl _ _) (.cells #[.int .i64 0, .int .i64 0, .float .f64 0, .string ⟨#[]⟩, .slice none 0 0] 27)))).1
      clear hK K
      (try simp only [Act.put, List.setIfInBounds_toArray, List.set_cons_zero, List.set_cons_succ])
      exact any_eq (by kernel_rfl) (by kernel_rfl) (hK102 _ _ ⟨_, gE, rfl, (fb_step hq (bel_alloc (Below.refl _ _) (.cells #[.int .i64 0, .int .i64 0, .float .f64 0, .string ⟨#[]⟩, .slice none 0 0] 27))), (bel_step hbd (bel_alloc (Below.refl _ _) (.cells #[.int .i64 0, .int .i64 0, .float .f64 0, .string ⟨#[]⟩, .slice none 0 0] 27))), ⟨cs_new rfl, fun o => row_frz (row_alloc _ _ _) o⟩, hbd.size, (l1_step hlv (bel_alloc (Below.refl _ _) (.cells #[.int .i64 0, .int .i64 0, .float .f64 0, .string ⟨#[]⟩, .slice none 0 0] 27)))⟩ hHeld)
    case hstBhK002m =>
      intro K hK
      go_simp
      refine hK.out _ _ ?hsBhK002m (fun hHeld => ?_)
      case hsBhK002m => exact ((fb_step hq (bel_alloc (Below.refl _ _) (.cells #[.int .i64 0, .int .i64 0, .float .f64 0, .string ⟨#[]⟩, .slice none 0 0] 27)))).1
      clear hK K
      (try simp only [Act.put, List.setIfInBounds_toArray, List.set_cons_zero, List.set_cons_succ])
      exact any_eq (by kernel_rfl) (by kernel_rfl) (hK012 _ _ ⟨_, gE, rfl, (fb_step hq (bel_alloc (Below.refl _ _) (.cells #[.int .i64 0, .int .i64 0, .float .f64 0, .string ⟨#[]⟩, .slice none 0 0] 27))), (bel_step hbd (bel_alloc (Below.refl _ _) (.cells #[.int .i64 0, .int .i64 0, .float .f64 0, .string ⟨#[]⟩, .slice none 0 0] 27))), ⟨cs_new rfl, fun o => row_frz (row_alloc _ _ _) o⟩, hbd.size, (l1_step hlv (bel_alloc (Below.refl _ _) (.cells #[.int .i64 0, .int .i64 0, .float .f64 0, .string ⟨#[]⟩, .slice none 0 0] 27)))⟩ hHeld)
  refine any_have 9 [8, 9, 1] (fun a a' w' => ∃ (gA gB : Nat), a' = (((a.put (some 19) (.pointer (some ⟨gA, 0, none⟩))).put (some 20) (.pointer (some ⟨gB, 0, none⟩))).put (some 151) (.agg #[.int .i64 1, .int .i64 (-1), .float .f64 0, .string ⟨#[]⟩, .slice none 0 0])) ∧ FB w sb qs ms ds w' ∧ Below wr.heap.size wr w' ∧ SBX w' gA (.int .i64 0) (.int .i64 0) (.float .f64 0) (.string ⟨#[]⟩) (.slice none 0 0) ∧ wr.heap.size ≤ gA ∧ SBX w' gB (.int .i64 0) (.int .i64 0) (.float .f64 0) (.string ⟨#[]⟩) (.slice none 0 0) ∧ wr.heap.size ≤ gB ∧ gA ≠ gB) ?phK111m (fun hK111 => ?_)
  case phK111m =>
    intro a' w' hst hHeld
    obtain ⟨gA, gB, rfl, hq, hbd, hsA, hgA, hsB, hgB, hne⟩ := hst
    (try simp only [Act.put, List.setIfInBounds_toArray, List.set_cons_zero, List.set_cons_succ])
    refine wpAnyH_ready (rs := [2]) (by kernel_rfl) (by simp) ?_
    refine AllReadyH.cons (o := ?_) ?hoXhK111m ?hstXhK111m AllReadyH.nil
    case hoXhK111m => (simp only [List.getElem?_toArray, List.getElem?_cons_zero, List.getElem?_cons_succ]; rfl)
    case hstXhK111m =>
      intro K hK
      go_simp
      refine hK.out _ _ ?hsXhK111m (fun hHeld => ?_)
      case hsXhK111m => exact ((fb_step hq (bel_alloc (Below.refl _ _) (.cells #[.int .i64 1, .int .i64 (-1), .float .f64 0, .string ⟨#[]⟩, .slice none 0 0] 27)))).1
      clear hK K
      (try simp only [Act.put, List.setIfInBounds_toArray, List.set_cons_zero, List.set_cons_succ])
      exact any_eq (by kernel_rfl) (by kernel_rfl) (hK112 _ _ ⟨gA, gB, _, rfl, (fb_step hq (bel_alloc (Below.refl _ _) (.cells #[.int .i64 1, .int .i64 (-1), .float .f64 0, .string ⟨#[]⟩, .slice none 0 0] 27))), (bel_step hbd (bel_alloc (Below.refl _ _) (.cells #[.int .i64 1, .int .i64 (-1), .float .f64 0, .string ⟨#[]⟩, .slice none 0 0] 27))), (sbx_step hsA (bel_alloc (Below.refl _ _) (.cells #[.int .i64 1, .int .i64 (-1), .float .f64 0, .string ⟨#[]⟩, .slice none 0 0] 27))), hgA, (sbx_step hsB (bel_alloc (Below.refl _ _) (.cells #[.int .i64 1, .int .i64 (-1), .float .f64 0, .string ⟨#[]⟩, .slice none 0 0] 27))), hgB, hne, (l1_new rfl (by decide))⟩ hHeld)
  refine any_have 10 [8, 1] (fun a a' w' => ∃ (gA : Nat), a' = ((a.put (some 19) (.pointer (some ⟨gA, 0, none⟩))).put (some 151) (.agg #[.int .i64 1, .int .i64 (-1), .float .f64 0, .string ⟨#[]⟩, .slice none 0 0])) ∧ FB w sb qs ms ds w' ∧ Below wr.heap.size wr w' ∧ SBX w' gA (.int .i64 0) (.int .i64 0) (.float .f64 0) (.string ⟨#[]⟩) (.slice none 0 0) ∧ wr.heap.size ≤ gA) ?phK101m (fun hK101 => ?_)
  case phK101m =>
    intro a' w' hst hHeld
    obtain ⟨gA, rfl, hq, hbd, hsA, hgA⟩ := hst
    (try simp only [Act.put, List.setIfInBounds_toArray, List.set_cons_zero, List.set_cons_succ])
    refine wpAnyH_ready (rs := [2, 9]) (by kernel_rfl) (by simp) ?_
    refine AllReadyH.cons (o := ?_) ?hoXhK101m ?hstXhK101m (AllReadyH.cons (o := ?_) ?hoBhK101m ?hstBhK101m AllReadyH.nil)
    case hoXhK101m => (simp only [List.getElem?_toArray, List.getElem?_cons_zero, List.getElem?_cons_succ]; rfl)
    case hoBhK101m => (simp only [List.getElem?_toArray, List.getElem?_cons_zero, List.getElem?_cons_succ]; rfl)
    case hstXhK101m =>
      intro K hK
      go_simp
      refine hK.out _ _ ?hsXhK101m (fun hHeld => ?_)
      case hsXhK101m => exact ((fb_step hq (bel_alloc (Below.refl _ _) (.cells #[.int .i64 1, .int .i64 (-1), .float .f64 0, .string ⟨#[]⟩, .slice none 0 0] 27)))).1
      clear hK K
      (try simp only [Act.put, List.setIfInBounds_toArray, List.set_cons_zero, List.set_cons_succ])
      exact any_eq (by kernel_rfl) (by kernel_rfl) (hK102 _ _ ⟨gA, _, rfl, (fb_step hq (bel_alloc (Below.refl _ _) (.cells #[.int .i64 1, .int .i64 (-1), .float .f64 0, .string ⟨#[]⟩, .slice none 0 0] 27))), (bel_step hbd (bel_alloc (Below.refl _ _) (.cells #[.int .i64 1, .int .i64 (-1), .float .f64 0, .string ⟨#[]⟩, .slice none 0 0] 27))), (sbx_step hsA (bel_alloc (Below.refl _ _) (.cells #[.int .i64 1, .int .i64 (-1), .float .f64 0, .string ⟨#[]⟩, .slice none 0 0] 27))), hgA, (l1_new rfl (by decide))⟩ hHeld)
    case hstBhK101m =>
      intro K hK
      go_simp
      refine hK.out _ _ ?hsBhK101m (fun hHeld => ?_)
      case hsBhK101m => exact ((fb_step hq (bel_alloc (Below.refl _ _) (.cells #[.int .i64 0, .int .i64 0, .float .f64 0, .string ⟨#[]⟩, .slice none 0 0] 27)))).1
      clear hK K
      (try simp only [Act.put, List.setIfInBounds_toArray, List.set_cons_zero, List.set_cons_succ])
      exact any_eq (by kernel_rfl) (by kernel_rfl) (hK111 _ _ ⟨gA, _, rfl, (fb_step hq (bel_alloc (Below.refl _ _) (.cells #[.int .i64 0, .int .i64 0, .float .f64 0, .string ⟨#[]⟩, .slice none 0 0] 27))), (bel_step hbd (bel_alloc (Below.refl _ _) (.cells #[.int .i64 0, .int .i64 0, .float .f64 0, .string ⟨#[]⟩, .slice none 0 0] 27))), (sbx_step hsA (bel_alloc (Below.refl _ _) (.cells #[.int .i64 0, .int .i64 0, .float .f64 0, .string ⟨#[]⟩, .slice none 0 0] 27))), hgA, ⟨cs_new rfl, fun o => row_frz (row_alloc _ _ _) o⟩, hbd.size, (by have h := cs_lt hsA.1; omega)⟩ hHeld)
  refine any_have 10 [9, 1] (fun a a' w' => ∃ (gB : Nat), a' = ((a.put (some 20) (.pointer (some ⟨gB, 0, none⟩))).put (some 151) (.agg #[.int .i64 1, .int .i64 (-1), .float .f64 0, .string ⟨#[]⟩, .slice none 0 0])) ∧ FB w sb qs ms ds w' ∧ Below wr.heap.size wr w' ∧ SBX w' gB (.int .i64 0) (.int .i64 0) (.float .f64 0) (.string ⟨#[]⟩) (.slice none 0 0) ∧ wr.heap.size ≤ gB) ?phK011m (fun hK011 => ?_)
  case phK011m =>
    intro a' w' hst hHeld
    obtain ⟨gB, rfl, hq, hbd, hsB, hgB⟩ := hst
    (try simp only [Act.put, List.setIfInBounds_toArray, List.set_cons_zero, List.set_cons_succ])
    refine wpAnyH_ready (rs := [2, 8]) (by kernel_rfl) (by simp) ?_
    refine AllReadyH.cons (o := ?_) ?hoXhK011m ?hstXhK011m (AllReadyH.cons (o := ?_) ?hoAhK011m ?hstAhK011m AllReadyH.nil)
    case hoXhK011m => (simp only [List.getElem?_toArray, List.getElem?_cons_zero, List.getElem?_cons_succ]; rfl)
    case hoAhK011m => (simp only [List.getElem?_toArray, List.getElem?_cons_zero, List.getElem?_cons_succ]; rfl)
    case hstXhK011m =>
      intro K hK
      go_simp
      refine hK.out _ _ ?hsXhK011m (fun hHeld => ?_)
      case hsXhK011m => exact ((fb_step hq (bel_alloc (Below.refl _ _) (.cells #[.int .i64 1, .int .i64 (-1), .float .f64 0, .string ⟨#[]⟩, .slice none 0 0] 27)))).1
      clear hK K
      (try simp only [Act.put, List.setIfInBounds_toArray, List.set_cons_zero, List.set_cons_succ])
      exact any_eq (by kernel_rfl) (by kernel_rfl) (hK012 _ _ ⟨gB, _, rfl, (fb_step hq (bel_alloc (Below.refl _ _) (.cells #[.int .i64 1, .int .i64 (-1), .float .f64 0, .string ⟨#[]⟩, .slice none 0 0] 27))), (bel_step hbd (bel_alloc (Below.refl _ _) (.cells #[.int .i64 1, .int .i64 (-1), .float .f64 0, .string ⟨#[]⟩, .slice none 0 0] 27))), (sbx_step hsB (bel_alloc (Below.refl _ _) (.cells #[.int .i64 1, .int .i64 (-1), .float .f64 0, .string ⟨#[]⟩, .slice none 0 0] 27))), hgB, (l1_new rfl (by decide))⟩ hHeld)
    case hstAhK011m =>
      intro K hK
      go_simp
      refine hK.out _ _ ?hsAhK011m (fun hHeld => ?_)
      case hsAhK011m => exact ((fb_step hq (bel_alloc (Below.refl _ _) (.cells #[.int .i64 0, .int .i64 0, .float .f64 0, .string ⟨#[]⟩, .slice none 0 0] 27)))).1
      clear hK K
      (try simp only [Act.put, List.setIfInBounds_toArray, List.set_cons_zero, List.set_cons_succ])
      exact any_eq (by kernel_rfl) (by kernel_rfl) (hK111 _ _ ⟨_, gB, rfl, (fb_step hq (bel_alloc (Below.refl _ _) (.cells #[.int .i64 0, .int .i64 0, .float .f64 0, .string ⟨#[]⟩, .slice none 0 0] 27))), (bel_step hbd (bel_alloc (Below.refl _ _) (.cells #[.int .i64 0, .int .i64 0, .float .f64 0, .string ⟨#[]⟩, .slice none 0 0] 27))), ⟨cs_new rfl, fun o => row_frz (row_alloc _ _ _) o⟩, hbd.size, (sbx_step hsB (bel_alloc (Below.refl _ _) (.cells #[.int .i64 0, .int .i64 0, .float .f64 0, .string ⟨#[]⟩, .slice none 0 0] 27))), hgB, (by have h := cs_lt hsB.1; omega)⟩ hHeld)
  refine any_have 11 [1] (fun a a' w' => a' = (a.put (some 151) (.agg #[.int .i64 1, .int .i64 (-1), .float .f64 0, .string ⟨#[]⟩, .slice none 0 0])) ∧ FB w sb qs ms ds w' ∧ Below wr.heap.size wr w') ?phK001m (fun hK001 => ?_)
  case phK001m =>
    intro a' w' hst hHeld
    obtain ⟨rfl, hq, hbd⟩ := hst
    (try simp only [Act.put, List.setIfInBounds_toArray, List.set_cons_zero, List.set_cons_succ])
    refine wpAnyH_ready (rs := [2, 8, 9]) (by kernel_rfl) (by simp) ?_
    refine AllReadyH.cons (o := ?_) ?hoXhK001m ?hstXhK001m (AllReadyH.cons (o := ?_) ?hoAhK001m ?hstAhK001m (AllReadyH.cons (o := ?_) ?hoBhK001m ?hstBhK001m AllReadyH.nil))
    case hoXhK001m => (simp only [List.getElem?_toArray, List.getElem?_cons_zero, List.getElem?_cons_succ]; rfl)
    case hoAhK001m => (simp only [List.getElem?_toArray, List.getElem?_cons_zero, List.getElem?_cons_succ]; rfl)
    case hoBhK001m => (simp only [List.getElem?_toArray, List.getElem?_cons_zero, List.getElem?_cons_succ]; rfl)
    case hstXhK001m =>
      intro K hK
      go_simp
      refine hK.out _ _ ?hsXhK001m (fun hHeld => ?_)
      case hsXhK001m => exact ((fb_step hq (bel_alloc (Below.refl _ _) (.cells #[.int .i64 1, .int .i64 (-1), .float .f64 0, .string ⟨#[]⟩, .slice none 0 0] 27)))).1
      clear hK K
      (try simp only [Act.put, List.setIfInBounds_toArray, List.set_cons_zero, List.set_cons_succ])
      exact any_eq (by kernel_rfl) (by kernel_rfl) (hK002 _ _ ⟨_, rfl, (fb_step hq (bel_alloc (Below.refl _ _) (.cells #[.int .i64 1, .int .i64 (-1), .float .f64 0, .string ⟨#[]⟩, .slice none 0 0] 27))), (bel_step hbd (bel_alloc (Below.refl _ _) (.cells #[.int .i64 1, .int .i64 (-1), .float .f64 0, .string ⟨#[]⟩, .slice none 0 0] 27))), (l1_new rfl (by decide))⟩ hHeld)
    case hstAhK001m =>
      intro K hK
      go_simp
      refine hK.out _ _ ?hsAhK001m (fun hHeld => ?_)
      case hsAhK001m => exact ((fb_step hq (bel_alloc (Below.refl _ _) (.cells #[.int .i64 0, .int .i64 0, .float .f64 0, .string ⟨#[]⟩, .slice none 0 0] 27)))).1
      clear hK K
      (try simp only [Act.put, List.setIfInBounds_toArray, List.set_cons_zero, List.set_cons_succ])
      exact any_eq (by kernel_rfl) (by kernel_rfl) (hK101 _ _ ⟨_, rfl, (fb_step hq (bel_alloc (Below.refl _ _) (.cells #[.int .i64 0, .int .i64 0, .float .f64 0, .string ⟨#[]⟩, .slice none 0 0] 27))), (bel_step hbd (bel_alloc (Below.refl _ _) (.cells #[.int .i64 0, .int .i64 0, .float .f64 0, .string ⟨#[]⟩, .slice none 0 0] 27))), ⟨cs_new rfl, fun o => row_frz (row_alloc _ _ _) o⟩, hbd.size⟩ hHeld)
    case hstBhK001m =>
      intro K hK
      go_simp
      refine hK.out _ _ ?hsBhK001m (fun hHeld => ?_)
      case hsBhK001m => exact ((fb_step hq (bel_alloc (Below.refl _ _) (.cells #[.int .i64 0, .int .i64 0, .float .f64 0, .string ⟨#[]⟩, .slice none 0 0] 27)))).1
      clear hK K
      (try simp only [Act.put, List.setIfInBounds_toArray, List.set_cons_zero, List.set_cons_succ])
      exact any_eq (by kernel_rfl) (by kernel_rfl) (hK011 _ _ ⟨_, rfl, (fb_step hq (bel_alloc (Below.refl _ _) (.cells #[.int .i64 0, .int .i64 0, .float .f64 0, .string ⟨#[]⟩, .slice none 0 0] 27))), (bel_step hbd (bel_alloc (Below.refl _ _) (.cells #[.int .i64 0, .int .i64 0, .float .f64 0, .string ⟨#[]⟩, .slice none 0 0] 27))), ⟨cs_new rfl, fun o => row_frz (row_alloc _ _ _) o⟩, hbd.size⟩ hHeld)
  refine any_have 10 [8, 9] (fun a a' w' => ∃ (gA gB : Nat), a' = ((a.put (some 19) (.pointer (some ⟨gA, 0, none⟩))).put (some 20) (.pointer (some ⟨gB, 0, none⟩))) ∧ FB w sb qs ms ds w' ∧ Below wr.heap.size wr w' ∧ SBX w' gA (.int .i64 0) (.int .i64 0) (.float .f64 0) (.string ⟨#[]⟩) (.slice none 0 0) ∧ wr.heap.size ≤ gA ∧ SBX w' gB (.int .i64 0) (.int .i64 0) (.float .f64 0) (.string ⟨#[]⟩) (.slice none 0 0) ∧ wr.heap.size ≤ gB ∧ gA ≠ gB) ?phK110m (fun hK110 => ?_)
  case phK110m =>
    intro a' w' hst hHeld
    obtain ⟨gA, gB, rfl, hq, hbd, hsA, hgA, hsB, hgB, hne⟩ := hst
    (try simp only [Act.put, List.setIfInBounds_toArray, List.set_cons_zero, List.set_cons_succ])
    refine wpAnyH_ready (rs := [1]) (by kernel_rfl) (by simp) ?_
    refine AllReadyH.cons (o := ?_) ?hoXhK110m ?hstXhK110m AllReadyH.nil
    case hoXhK110m => (simp only [List.getElem?_toArray, List.getElem?_cons_zero, List.getElem?_cons_succ]; rfl)
    case hstXhK110m =>
      intro K hK
      go_simp
      go_at_call 18; refine (int_ref_any _ _).mono ?_; rintro e wT ⟨rfl, hbT⟩
      go_wp2_with fail
      refine hK.out _ _ ?hsXhK110m (fun hHeld => ?_)
      case hsXhK110m => exact ((fb_step hq hbT)).1
      clear hK K
      (try simp only [Act.put, List.setIfInBounds_toArray, List.set_cons_zero, List.set_cons_succ])
      exact any_eq (by kernel_rfl) (by kernel_rfl) (hK111 _ _ ⟨gA, gB, rfl, (fb_step hq hbT), (bel_step hbd hbT), (sbx_step hsA hbT), hgA, (sbx_step hsB hbT), hgB, hne⟩ hHeld)
  refine any_have 11 [8] (fun a a' w' => ∃ (gA : Nat), a' = (a.put (some 19) (.pointer (some ⟨gA, 0, none⟩))) ∧ FB w sb qs ms ds w' ∧ Below wr.heap.size wr w' ∧ SBX w' gA (.int .i64 0) (.int .i64 0) (.float .f64 0) (.string ⟨#[]⟩) (.slice none 0 0) ∧ wr.heap.size ≤ gA) ?phK100m (fun hK100 => ?_)
  case phK100m =>
    intro a' w' hst hHeld
    obtain ⟨gA, rfl, hq, hbd, hsA, hgA⟩ := hst
    (try simp only [Act.put, List.setIfInBounds_toArray, List.set_cons_zero, List.set_cons_succ])
    refine wpAnyH_ready (rs := [1, 9]) (by kernel_rfl) (by simp) ?_
    refine AllReadyH.cons (o := ?_) ?hoXhK100m ?hstXhK100m (AllReadyH.cons (o := ?_) ?hoBhK100m ?hstBhK100m AllReadyH.nil)
    case hoXhK100m => (simp only [List.getElem?_toArray, List.getElem?_cons_zero, List.getElem?_cons_succ]; rfl)
    case hoBhK100m => (simp only [List.getElem?_toArray, List.getElem?_cons_zero, List.getElem?_cons_succ]; rfl)
    case hstXhK100m =>
      intro K hK
      go_simp
      go_at_call 18; refine (int_ref_any _ _).mono ?_; rintro e wT ⟨rfl, hbT⟩
      go_wp2_with fail
      refine hK.out _ _ ?hsXhK100m (fun hHeld => ?_)
      case hsXhK100m => exact ((fb_step hq hbT)).1
      clear hK K
      (try simp only [Act.put, List.setIfInBounds_toArray, List.set_cons_zero, List.set_cons_succ])
      exact any_eq (by kernel_rfl) (by kernel_rfl) (hK101 _ _ ⟨gA, rfl, (fb_step hq hbT), (bel_step hbd hbT), (sbx_step hsA hbT), hgA⟩ hHeld)
    case hstBhK100m =>
      intro K hK
      go_simp
      refine hK.out _ _ ?hsBhK100m (fun hHeld => ?_)
      case hsBhK100m => exact ((fb_step hq (bel_alloc (Below.refl _ _) (.cells #[.int .i64 0, .int .i64 0, .float .f64 0, .string ⟨#[]⟩, .slice none 0 0] 27)))).1
      clear hK K
      (try simp only [Act.put, List.setIfInBounds_toArray, List.set_cons_zero, List.set_cons_succ])
      exact any_eq (by kernel_rfl) (by kernel_rfl) (hK110 _ _ ⟨gA, _, rfl, (fb_step hq (bel_alloc (Below.refl _ _) (.cells #[.int .i64 0, .int .i64 0, .float .f64 0, .string ⟨#[]⟩, .slice none 0 0] 27))), (bel_step hbd (bel_alloc (Below.refl _ _) (.cells #[.int .i64 0, .int .i64 0, .float .f64 0, .string ⟨#[]⟩, .slice none 0 0] 27))), (sbx_step hsA (bel_alloc (Below.refl _ _) (.cells #[.int .i64 0, .int .i64 0, .float .f64 0, .string ⟨#[]⟩, .slice none 0 0] 27))), hgA, ⟨cs_new rfl, fun o => row_frz (row_alloc _ _ _) o⟩, hbd.size, (by have h := cs_lt hsA.1; omega)⟩ hHeld)
  refine any_have 11 [9] (fun a a' w' => ∃ (gB : Nat), a' = (a.put (some 20) (.pointer (some ⟨gB, 0, none⟩))) ∧ FB w sb qs ms ds w' ∧ Below wr.heap.size wr w' ∧ SBX w' gB (.int .i64 0) (.int .i64 0) (.float .f64 0) (.string ⟨#[]⟩) (.slice none 0 0) ∧ wr.heap.size ≤ gB) ?phK010m (fun hK010 => ?_)
  case phK010m =>
    intro a' w' hst hHeld
    obtain ⟨gB, rfl, hq, hbd, hsB, hgB⟩ := hst
    (try simp only [Act.put, List.setIfInBounds_toArray, List.set_cons_zero, List.set_cons_succ])
    refine wpAnyH_ready (rs := [1, 8]) (by kernel_rfl) (by simp) ?_
    refine AllReadyH.cons (o := ?_) ?hoXhK010m ?hstXhK010m (AllReadyH.cons (o := ?_) ?hoAhK010m ?hstAhK010m AllReadyH.nil)
    case hoXhK010m => (simp only [List.getElem?_toArray, List.getElem?_cons_zero, List.getElem?_cons_succ]; rfl)
    case hoAhK010m => (simp only [List.getElem?_toArray, List.getElem?_cons_zero, List.getElem?_cons_succ]; rfl)
    case hstXhK010m =>
      intro K hK
      go_simp
      go_at_call 18; refine (int_ref_any _ _).mono ?_; rintro e wT ⟨rfl, hbT⟩
      go_wp2_with fail
      refine hK.out _ _ ?hsXhK010m (fun hHeld => ?_)
      case hsXhK010m => exact ((fb_step hq hbT)).1
      clear hK K
      (try simp only [Act.put, List.setIfInBounds_toArray, List.set_cons_zero, List.set_cons_succ])
      exact any_eq (by kernel_rfl) (by kernel_rfl) (hK011 _ _ ⟨gB, rfl, (fb_step hq hbT), (bel_step hbd hbT), (sbx_step hsB hbT), hgB⟩ hHeld)
    case hstAhK010m =>
      intro K hK
      go_simp
      refine hK.out _ _ ?hsAhK010m (fun hHeld => ?_)
      case hsAhK010m => exact ((fb_step hq (bel_alloc (Below.refl _ _) (.cells #[.int .i64 0, .int .i64 0, .float .f64 0, .string ⟨#[]⟩, .slice none 0 0] 27)))).1
      clear hK K
      (try simp only [Act.put, List.setIfInBounds_toArray, List.set_cons_zero, List.set_cons_succ])
      exact any_eq (by kernel_rfl) (by kernel_rfl) (hK110 _ _ ⟨_, gB, rfl, (fb_step hq (bel_alloc (Below.refl _ _) (.cells #[.int .i64 0, .int .i64 0, .float .f64 0, .string ⟨#[]⟩, .slice none 0 0] 27))), (bel_step hbd (bel_alloc (Below.refl _ _) (.cells #[.int .i64 0, .int .i64 0, .float .f64 0, .string ⟨#[]⟩, .slice none 0 0] 27))), ⟨cs_new rfl, fun o => row_frz (row_alloc _ _ _) o⟩, hbd.size, (sbx_step hsB (bel_alloc (Below.refl _ _) (.cells #[.int .i64 0, .int .i64 0, .float .f64 0, .string ⟨#[]⟩, .slice none 0 0] 27))), hgB, (by have h := cs_lt hsB.1; omega)⟩ hHeld)
  refine wpAnyH_ready (rs := [1, 8, 9]) (by kernel_rfl) (by simp) ?_
  refine AllReadyH.cons (o := ?_) ?hoXzm ?hstXzm (AllReadyH.cons (o := ?_) ?hoAzm ?hstAzm (AllReadyH.cons (o := ?_) ?hoBzm ?hstBzm AllReadyH.nil))
  case hoXzm => (simp only [List.getElem?_toArray, List.getElem?_cons_zero, List.getElem?_cons_succ]; rfl)
  case hoAzm => (simp only [List.getElem?_toArray, List.getElem?_cons_zero, List.getElem?_cons_succ]; rfl)
  case hoBzm => (simp only [List.getElem?_toArray, List.getElem?_cons_zero, List.getElem?_cons_succ]; rfl)
  case hstXzm =>
    intro K hK
    go_simp
    go_at_call 18; refine (int_ref_any _ _).mono ?_; rintro e wT ⟨rfl, hbT⟩
    go_wp2_with fail
    refine hK.out _ _ ?hsXzm (fun hHeld => ?_)
    case hsXzm => exact ((fb_step hq hbT)).1
    clear hK K
    (try simp only [Act.put, List.setIfInBounds_toArray, List.set_cons_zero, List.set_cons_succ])
    exact any_eq (by kernel_rfl) (by kernel_rfl) (hK001 _ _ ⟨rfl, (fb_step hq hbT), (bel_step hbd hbT)⟩ hHeld)
  case hstAzm =>
    intro K hK
    go_simp
    refine hK.out _ _ ?hsAzm (fun hHeld => ?_)
    case hsAzm => exact ((fb_step hq (bel_alloc (Below.refl _ _) (.cells #[.int .i64 0, .int .i64 0, .float .f64 0, .string ⟨#[]⟩, .slice none 0 0] 27)))).1
    clear hK K
    (try simp only [Act.put, List.setIfInBounds_toArray, List.set_cons_zero, List.set_cons_succ])
    exact any_eq (by kernel_rfl) (by kernel_rfl) (hK100 _ _ ⟨_, rfl, (fb_step hq (bel_alloc (Below.refl _ _) (.cells #[.int .i64 0, .int .i64 0, .float .f64 0, .string ⟨#[]⟩, .slice none 0 0] 27))), (bel_step hbd (bel_alloc (Below.refl _ _) (.cells #[.int .i64 0, .int .i64 0, .float .f64 0, .string ⟨#[]⟩, .slice none 0 0] 27))), ⟨cs_new rfl, fun o => row_frz (row_alloc _ _ _) o⟩, hbd.size⟩ hHeld)
  case hstBzm =>
    intro K hK
    go_simp
    refine hK.out _ _ ?hsBzm (fun hHeld => ?_)
    case hsBzm => exact ((fb_step hq (bel_alloc (Below.refl _ _) (.cells #[.int .i64 0, .int .i64 0, .float .f64 0, .string ⟨#[]⟩, .slice none 0 0] 27)))).1
    clear hK K
    (try simp only [Act.put, List.setIfInBounds_toArray, List.set_cons_zero, List.set_cons_succ])
    exact any_eq (by kernel_rfl) (by kernel_rfl) (hK010 _ _ ⟨_, rfl, (fb_step hq (bel_alloc (Below.refl _ _) (.cells #[.int .i64 0, .int .i64 0, .float .f64 0, .string ⟨#[]⟩, .slice none 0 0] 27))), (bel_step hbd (bel_alloc (Below.refl _ _) (.cells #[.int .i64 0, .int .i64 0, .float .f64 0, .string ⟨#[]⟩, .slice none 0 0] 27))), ⟨cs_new rfl, fun o => row_frz (row_alloc _ _ _) o⟩, hbd.size⟩ hHeld)
end Num
end Go.Proofs.Ytodjnhhnjncgdaa
