/-
  The reference: what a transfer reckons (region 49).
-/
import Derived.Test.YtpbfaffheigjcaaGreatVp18LM
import Derived.Test.YtpbfaffheigjcaaGreatVp14LD
namespace Go.Proofs.YtpbfaffheigjcaaGreat
open Go.RowKit
namespace Num
open Ints
set_option linter.unusedSimpArgs false
set_option linter.unusedVariables false
/-- The region of that number in a code. -/
def regionBy (n : Nat) : Code → Option Code
  | .region i ops d => if i = n then some (.region i ops d) else none
  | .seq a b => match regionBy n a with
    | some c => some c
    | none => regionBy n b
  | .cond _ a b => match regionBy n a with
    | some c => some c
    | none => regionBy n b
  | .block _ c => regionBy n c
  | .loop c => regionBy n c
  | .scope c => regionBy n c
  | _ => none
set_option maxRecDepth 1000000 in
set_option maxHeartbeats 8000000 in
theorem led49_any (w : World) (b off l c d FA G FD gd od cgd : Nat) (wr : World) (c0 c1 c2 c4 c5 c6 c7 c8 c10 c11 c12 c13 c14 c15 c17 c18 c20 c21 c22 c23 c24 c25 c26 c27 c28 c29 c30 c31 c32 c33 c34 c35 c36 c37 c38 c39 c40 c41 c42 c43 c44 c45 c46 c47 c48 c49 c50 c51 c52 c53 c54 c55 c56 c57 c58 c59 c60 c61 c62 c63 c64 c65 c66 c67 c68 c69 c70 c71 c72 c73 c74 c75 c76 c77 c78 c79 c80 c81 c82 c83 c84 c85 c86 c87 c88 c89 c90 c91 c92 c93 c94 c95 c96 c97 c98 c99 c100 c101 c102 c103 c104 c105 c106 c107 c108 c109 c110 c111 c112 c113 c114 c115 c116 c117 c118 c119 c120 c121 c122 c123 c124 c125 c126 c127 c128 c129 c130 c131 c132 c133 c134 c135 c136 c137 c138 c139 c140 c141 c142 c143 c144 c145 c146 c147 c148 c149 c150 c151 c152 c153 c154 c155 c156 c157 c158 c159 c160 c161 c162 c163 c164 c165 c166 c167 c168 c169 c170 c171 c172 c173 c174 c175 c176 c177 c178 c179 c180 c181 c182 c183 c184 c185 c186 c187 c188 c189 c190 c191 c192 c193 c194 c195 c196 c197 c198 c199 c200 c201 c202 c203 c204 c205 c206 c207 c208 c209 c210 c211 c212 c213 c214 c215 c216 c217 c218 c219 c220 : Value) (Q : Exit → Act → World → Prop) (hP : ∀ p a (d : Option Tmp) v w, Q (.panic p) (Act.put a d v) w → Q (.panic p) a w)
    (TR0 : Hid (wr.heap[w.heap.size]? = some (.cells #[.int .i64 4, .int .i64 0, .float .f64 0, .string ⟨#[]⟩, .slice (some ⟨b, off, none⟩) l c] 27 (0, 0)) ∧ wr.heap[w.heap.size + 1]? = some (.cells #[.int .i64 0, .int .i64 0, .float .f64 0, .string ⟨#[]⟩, .slice none 0 0] 27 (0, 0)) ∧ wr.heap[w.heap.size + 1 + 1]? = some (.cells #[.int .i64 0, .int .i64 0, .float .f64 0, .string ⟨#[]⟩, .slice none 0 0] 27 (0, 0)) ∧ Below w.heap.size w wr)) (Hd4 : Hid (w.cell? ⟨b, off + d * 5 + 4, none⟩ = some (.slice (some ⟨gd, od, none⟩) 2 cgd))) (Hd6 : Hid (w.cell? ⟨gd, od + 5 + 2, none⟩ = some (.float .f64 FD)))
    (HOP1 : Hid (∀ t W, (binOp .sub t (.float .f64 FA) (.float .f64 G)).run Tryz.prog W = .ok (.float .f64 (Flo.cop .sub FA G)) W)) (HOP2 : Hid (∀ t W, (binOp .add t (.float .f64 FD) (.float .f64 G)).run Tryz.prog W = .ok (.float .f64 (Flo.cop .add FD G)) W)) (HCS : Hid (Flo.canon (Flo.cop .sub FA G) = (Flo.cop .sub FA G))) (HCG : Hid (Flo.canon (Flo.cop .add FD G) = (Flo.cop .add FD G))) (hbd : b < w.heap.size) (hgd : gd < w.heap.size) (hd1 : (0 : Int) ≤ (d : Int)) (hd2 : (d : Int) < (l : Int)) (hQ : ∀ (gA gB : Nat) (wy : World), w.heap.size + 1 + 1 < gA → w.heap.size + 1 + 1 < gB → (wy.heap[w.heap.size]? = some (.cells #[.int .i64 4, .int .i64 0, .float .f64 0, .string ⟨#[]⟩, .slice (some ⟨b, off, none⟩) l c] 27 (0, 0)) ∧ wy.heap[w.heap.size + 1]? = some (.cells #[.int .i64 0, .int .i64 0, .float .f64 0, .string ⟨#[]⟩, .slice none 0 0] 27 (0, 0)) ∧ wy.heap[w.heap.size + 1 + 1]? = some (.cells #[.int .i64 0, .int .i64 0, .float .f64 0, .string ⟨#[]⟩, .slice none 0 0] 27 (0, 0)) ∧ wy.heap[gA]? = some (.cells #[.int .i64 2, .int .i64 0, .float .f64 (Flo.cop .sub FA G), .string ⟨#[]⟩, .slice none 0 0] 27 (0, 0)) ∧ wy.heap[gB]? = some (.cells #[.int .i64 2, .int .i64 0, .float .f64 (Flo.cop .add FD G), .string ⟨#[]⟩, .slice none 0 0] 27 (0, 0)) ∧ Below w.heap.size w wy) → Q .normal { tmps := #[c0, c1, c2, (.pointer (some ⟨w.heap.size, 0, none⟩)), c4, c5, c6, c7, c8, (.float .f64 G), c10, c11, c12, c13, c14, c15, (.float .f64 FA), c17, c18, (.int .i64 (d : Nat)), c20, (.pointer (some ⟨gA, 0, none⟩)), (.pointer (some ⟨gB, 0, none⟩)), c23, c24, c25, c26, c27, c28, c29, c30, c31, c32, c33, c34, c35, c36, c37, c38, c39, c40, c41, c42, c43, c44, c45, c46, c47, c48, c49, c50, c51, c52, c53, c54, c55, c56, c57, c58, c59, c60, c61, c62, c63, c64, c65, c66, c67, c68, c69, c70, c71, c72, c73, c74, c75, c76, c77, c78, c79, c80, c81, c82, c83, c84, c85, c86, c87, c88, c89, c90, c91, c92, c93, c94, c95, c96, c97, c98, c99, c100, c101, c102, c103, c104, c105, c106, c107, c108, c109, c110, c111, c112, c113, c114, c115, c116, c117, c118, c119, c120, c121, c122, c123, c124, c125, c126, c127, c128, c129, c130, c131, c132, c133, c134, c135, c136, c137, c138, c139, c140, c141, c142, c143, c144, c145, c146, c147, c148, c149, c150, c151, c152, c153, c154, c155, c156, c157, c158, c159, c160, c161, c162, c163, c164, c165, c166, c167, c168, c169, c170, c171, c172, c173, c174, c175, c176, c177, c178, c179, c180, c181, c182, c183, c184, c185, c186, c187, (.float .f64 FA), (.float .f64 G), (.float .f64 (Flo.cop .sub FA G)), (.agg #[.int .i64 2, .int .i64 0, .float .f64 (Flo.cop .sub FA G), .string ⟨#[]⟩, .slice none 0 0]), (.pointer (some ⟨w.heap.size, 4, none⟩)), (.slice (some ⟨b, off, none⟩) l c), (.int .i64 (d : Nat)), (.pointer (some ⟨b, off + d * 5, none⟩)), (.pointer (some ⟨b, off + d * 5 + 4, none⟩)), (.slice (some ⟨gd, od, none⟩) 2 cgd), (.pointer (some ⟨gd, od + 5, none⟩)), (.pointer (some ⟨gd, od + 5 + 2, none⟩)), (.float .f64 FD), (.float .f64 G), (.float .f64 (Flo.cop .add FD G)), (.agg #[.int .i64 2, .int .i64 0, .float .f64 (Flo.cop .add FD G), .string ⟨#[]⟩, .slice none 0 0]), c204, c205, c206, c207, c208, c209, c210, c211, c212, c213, c214, c215, c216, c217, c218, c219, c220], defers := [] } wy) :
    Code.wp Tryz.prog ((Tryz.f38.body.bind (regionBy 49)).getD .skip) Q { tmps := #[c0, c1, c2, (.pointer (some ⟨w.heap.size, 0, none⟩)), c4, c5, c6, c7, c8, (.float .f64 G), c10, c11, c12, c13, c14, c15, (.float .f64 FA), c17, c18, (.int .i64 (d : Nat)), c20, c21, c22, c23, c24, c25, c26, c27, c28, c29, c30, c31, c32, c33, c34, c35, c36, c37, c38, c39, c40, c41, c42, c43, c44, c45, c46, c47, c48, c49, c50, c51, c52, c53, c54, c55, c56, c57, c58, c59, c60, c61, c62, c63, c64, c65, c66, c67, c68, c69, c70, c71, c72, c73, c74, c75, c76, c77, c78, c79, c80, c81, c82, c83, c84, c85, c86, c87, c88, c89, c90, c91, c92, c93, c94, c95, c96, c97, c98, c99, c100, c101, c102, c103, c104, c105, c106, c107, c108, c109, c110, c111, c112, c113, c114, c115, c116, c117, c118, c119, c120, c121, c122, c123, c124, c125, c126, c127, c128, c129, c130, c131, c132, c133, c134, c135, c136, c137, c138, c139, c140, c141, c142, c143, c144, c145, c146, c147, c148, c149, c150, c151, c152, c153, c154, c155, c156, c157, c158, c159, c160, c161, c162, c163, c164, c165, c166, c167, c168, c169, c170, c171, c172, c173, c174, c175, c176, c177, c178, c179, c180, c181, c182, c183, c184, c185, c186, c187, c188, c189, c190, c191, c192, c193, c194, c195, c196, c197, c198, c199, c200, c201, c202, c203, c204, c205, c206, c207, c208, c209, c210, c211, c212, c213, c214, c215, c216, c217, c218, c219, c220], defers := [] } wr := by
  conv => arg 2; whnf
  have hop1 := HOP1.out
  have hop2 := HOP2.out
  have hbw := TR0.out.2.2.2.size
  have HDW := Lib.hid (show (wr.drew.heap[w.heap.size]? = some (.cells #[.int .i64 4, .int .i64 0, .float .f64 0, .string ⟨#[]⟩, .slice (some ⟨b, off, none⟩) l c] 27 (0, 0))) ∧ (wr.drew.heap[w.heap.size + 1]? = some (.cells #[.int .i64 0, .int .i64 0, .float .f64 0, .string ⟨#[]⟩, .slice none 0 0] 27 (0, 0))) ∧ (wr.drew.heap[w.heap.size + 1 + 1]? = some (.cells #[.int .i64 0, .int .i64 0, .float .f64 0, .string ⟨#[]⟩, .slice none 0 0] 27 (0, 0))) ∧ Below w.heap.size w wr.drew from ⟨row_step TR0.out.1 (Below.drew (Below.refl _ _)), row_step TR0.out.2.1 (Below.drew (Below.refl _ _)), row_step TR0.out.2.2.1 (Below.drew (Below.refl _ _)), bel_step TR0.out.2.2.2 (Below.drew (Below.refl _ _))⟩)
  clear TR0
  refine wp_region_held_drew (S := (fun z => z.cell? ⟨w.heap.size, 0, none⟩ = some (.int .i64 4) ∧ z.cell? ⟨w.heap.size, 1, none⟩ = some (.int .i64 0) ∧ z.cell? ⟨w.heap.size, 2, none⟩ = some (.float .f64 0) ∧ z.cell? ⟨w.heap.size, 3, none⟩ = some (.string ⟨#[]⟩) ∧ z.cell? ⟨w.heap.size, 4, none⟩ = some (.slice (some ⟨b, off, none⟩) l c) ∧ z.cell? ⟨b, off + d * 5 + 4, none⟩ = some (.slice (some ⟨gd, od, none⟩) 2 cgd) ∧ z.cell? ⟨gd, od + 5 + 2, none⟩ = some (.float .f64 FD))) (by kernel_rfl) ?_ (fun hHeld => ?_)
  · exact ⟨row_cell HDW.out.1 0, row_cell HDW.out.1 1, row_cell HDW.out.1 2, row_cell HDW.out.1 3, row_cell HDW.out.1 4, cell_keep HDW.out.2.2.2 Hd4.out, cell_keep HDW.out.2.2.2 Hd6.out⟩
  revert HDW hHeld
  generalize wr.drew = Wd
  intro HDW hHeld
  have hR := HDW.out.1
  have hZ1 := HDW.out.2.1
  have hZ2 := HDW.out.2.2.1
  have hbd := HDW.out.2.2.2
  refine wpAnyH_take (i := 0) (oi := ?_) (v := ?_) ?hiq0 (by kernel_rfl) ?hfq0 ?hrq0 ?hQq0 ?hyq0 (by assumption) ?restq0
  case hiq0 => (simp only [List.getElem?_toArray, List.getElem?_cons_zero, List.getElem?_cons_succ]; rfl)
  case hfq0 => kernel_rfl
  case hrq0 => kernel_rfl
  case hyq0 => (refine Or.inl ⟨by rfl, ?_⟩; intro wS hSw; (try dsimp only at hSw); go_simp; (try with_reducible rfl))
  case hQq0 => exact fun _ _ _ h => hP _ _ _ _ _ h
  (try simp only [Act.put, List.setIfInBounds_toArray, List.set_cons_zero, List.set_cons_succ])
  refine wpAnyH_take (i := 1) (oi := ?_) (v := ?_) ?hiq1 (by kernel_rfl) ?hfq1 ?hrq1 ?hQq1 ?hyq1 (by assumption) ?restq1
  case hiq1 => (simp only [List.getElem?_toArray, List.getElem?_cons_zero, List.getElem?_cons_succ]; rfl)
  case hfq1 => kernel_rfl
  case hrq1 => kernel_rfl
  case hyq1 => (refine Or.inl ⟨by rfl, ?_⟩; intro wS hSw; (try dsimp only at hSw); go_simp; (try with_reducible rfl))
  case hQq1 => exact fun _ _ _ h => hP _ _ _ _ _ h
  (try simp only [Act.put, List.setIfInBounds_toArray, List.set_cons_zero, List.set_cons_succ])
  refine wpAnyH_take (i := 2) (oi := ?_) (v := ?_) ?hiq2 (by kernel_rfl) ?hfq2 ?hrq2 ?hQq2 ?hyq2 (by assumption) ?restq2
  case hiq2 => (simp only [List.getElem?_toArray, List.getElem?_cons_zero, List.getElem?_cons_succ]; rfl)
  case hfq2 => kernel_rfl
  case hrq2 => kernel_rfl
  case hyq2 => (refine Or.inl ⟨by rfl, ?_⟩; intro wS hSw; (try dsimp only at hSw); go_simp; (try with_reducible rfl))
  case hQq2 => exact fun _ _ _ h => hP _ _ _ _ _ h
  (try simp only [Act.put, List.setIfInBounds_toArray, List.set_cons_zero, List.set_cons_succ])
  refine wpAnyH_take (i := 4) (oi := ?_) (v := ?_) ?hiq4 (by kernel_rfl) ?hfq4 ?hrq4 ?hQq4 ?hyq4 (by assumption) ?restq4
  case hiq4 => (simp only [List.getElem?_toArray, List.getElem?_cons_zero, List.getElem?_cons_succ]; rfl)
  case hfq4 => kernel_rfl
  case hrq4 => kernel_rfl
  case hyq4 => (refine Or.inl ⟨by rfl, ?_⟩; intro wS hSw; (try dsimp only at hSw); go_simp; (try with_reducible rfl))
  case hQq4 => exact fun _ _ _ h => hP _ _ _ _ _ h
  (try simp only [Act.put, List.setIfInBounds_toArray, List.set_cons_zero, List.set_cons_succ])
  refine wpAnyH_take (i := 5) (oi := ?_) (v := ?_) ?hiq5 (by kernel_rfl) ?hfq5 ?hrq5 ?hQq5 ?hyq5 (by assumption) ?restq5
  case hiq5 => (simp only [List.getElem?_toArray, List.getElem?_cons_zero, List.getElem?_cons_succ]; rfl)
  case hfq5 => kernel_rfl
  case hrq5 => kernel_rfl
  case hyq5 => (refine Or.inl ⟨by rfl, ?_⟩; intro wS hSw; (try dsimp only at hSw); go_simp; (try with_reducible rfl))
  case hQq5 => exact fun _ _ _ h => hP _ _ _ _ _ h
  (try simp only [Act.put, List.setIfInBounds_toArray, List.set_cons_zero, List.set_cons_succ])
  refine wpAnyH_take (i := 6) (oi := ?_) (v := ?_) ?hiq6 (by kernel_rfl) ?hfq6 ?hrq6 ?hQq6 ?hyq6 (by assumption) ?restq6
  case hiq6 => (simp only [List.getElem?_toArray, List.getElem?_cons_zero, List.getElem?_cons_succ]; rfl)
  case hfq6 => kernel_rfl
  case hrq6 => kernel_rfl
  case hyq6 => (refine Or.inl ⟨by rfl, ?_⟩; intro wS hSw; (try dsimp only at hSw); go_simp; (try with_reducible rfl))
  case hQq6 => exact fun _ _ _ h => hP _ _ _ _ _ h
  (try simp only [Act.put, List.setIfInBounds_toArray, List.set_cons_zero, List.set_cons_succ])
  refine wpAnyH_take (i := 7) (oi := ?_) (v := ?_) ?hiq7 (by kernel_rfl) ?hfq7 ?hrq7 ?hQq7 ?hyq7 (by assumption) ?restq7
  case hiq7 => (simp only [List.getElem?_toArray, List.getElem?_cons_zero, List.getElem?_cons_succ]; rfl)
  case hfq7 => kernel_rfl
  case hrq7 => kernel_rfl
  case hyq7 => (refine Or.inl ⟨by rfl, ?_⟩; intro wS hSw; (try dsimp only at hSw); go_simp; (try with_reducible rfl))
  case hQq7 => exact fun _ _ _ h => hP _ _ _ _ _ h
  (try simp only [Act.put, List.setIfInBounds_toArray, List.set_cons_zero, List.set_cons_succ])
  refine wpAnyH_take (i := 8) (oi := ?_) (v := ?_) ?hiq8 (by kernel_rfl) ?hfq8 ?hrq8 ?hQq8 ?hyq8 (by assumption) ?restq8
  case hiq8 => (simp only [List.getElem?_toArray, List.getElem?_cons_zero, List.getElem?_cons_succ]; rfl)
  case hfq8 => kernel_rfl
  case hrq8 => kernel_rfl
  case hyq8 => (refine Or.inl ⟨by rfl, ?_⟩; intro wS hSw; (try dsimp only at hSw); go_simp; (try with_reducible rfl))
  case hQq8 => exact fun _ _ _ h => hP _ _ _ _ _ h
  (try simp only [Act.put, List.setIfInBounds_toArray, List.set_cons_zero, List.set_cons_succ])
  refine wpAnyH_take (i := 9) (oi := ?_) (v := ?_) ?hiq9 (by kernel_rfl) ?hfq9 ?hrq9 ?hQq9 ?hyq9 (by assumption) ?restq9
  case hiq9 => (simp only [List.getElem?_toArray, List.getElem?_cons_zero, List.getElem?_cons_succ]; rfl)
  case hfq9 => kernel_rfl
  case hrq9 => kernel_rfl
  case hyq9 => (refine Or.inl ⟨by rfl, ?_⟩; intro wS hSw; (try dsimp only at hSw); go_simp; (try with_reducible rfl))
  case hQq9 => exact fun _ _ _ h => hP _ _ _ _ _ h
  (try simp only [Act.put, List.setIfInBounds_toArray, List.set_cons_zero, List.set_cons_succ])
  refine wpAnyH_take (i := 10) (oi := ?_) (v := ?_) ?hiq10 (by kernel_rfl) ?hfq10 ?hrq10 ?hQq10 ?hyq10 (by assumption) ?restq10
  case hiq10 => (simp only [List.getElem?_toArray, List.getElem?_cons_zero, List.getElem?_cons_succ]; rfl)
  case hfq10 => kernel_rfl
  case hrq10 => kernel_rfl
  case hyq10 => (refine Or.inl ⟨by rfl, ?_⟩; intro wS hSw; (try dsimp only at hSw); go_simp; (try with_reducible rfl))
  case hQq10 => exact fun _ _ _ h => hP _ _ _ _ _ h
  (try simp only [Act.put, List.setIfInBounds_toArray, List.set_cons_zero, List.set_cons_succ])
  refine wpAnyH_take (i := 11) (oi := ?_) (v := ?_) ?hiq11 (by kernel_rfl) ?hfq11 ?hrq11 ?hQq11 ?hyq11 (by assumption) ?restq11
  case hiq11 => (simp only [List.getElem?_toArray, List.getElem?_cons_zero, List.getElem?_cons_succ]; rfl)
  case hfq11 => kernel_rfl
  case hrq11 => kernel_rfl
  case hyq11 => (refine Or.inl ⟨by rfl, ?_⟩; intro wS hSw; (try dsimp only at hSw); go_simp; (try with_reducible rfl))
  case hQq11 => exact fun _ _ _ h => hP _ _ _ _ _ h
  (try simp only [Act.put, List.setIfInBounds_toArray, List.set_cons_zero, List.set_cons_succ])
  refine wpAnyH_take (i := 12) (oi := ?_) (v := ?_) ?hiq12 (by kernel_rfl) ?hfq12 ?hrq12 ?hQq12 ?hyq12 (by assumption) ?restq12
  case hiq12 => (simp only [List.getElem?_toArray, List.getElem?_cons_zero, List.getElem?_cons_succ]; rfl)
  case hfq12 => kernel_rfl
  case hrq12 => kernel_rfl
  case hyq12 => (refine Or.inl ⟨by rfl, ?_⟩; intro wS hSw; (try dsimp only at hSw); go_simp; (try with_reducible rfl))
  case hQq12 => exact fun _ _ _ h => hP _ _ _ _ _ h
  (try simp only [Act.put, List.setIfInBounds_toArray, List.set_cons_zero, List.set_cons_succ])
  refine wpAnyH_take (i := 13) (oi := ?_) (v := ?_) ?hiq13 (by kernel_rfl) ?hfq13 ?hrq13 ?hQq13 ?hyq13 (by assumption) ?restq13
  case hiq13 => (simp only [List.getElem?_toArray, List.getElem?_cons_zero, List.getElem?_cons_succ]; rfl)
  case hfq13 => kernel_rfl
  case hrq13 => kernel_rfl
  case hyq13 => (refine Or.inl ⟨by rfl, ?_⟩; intro wS hSw; (try dsimp only at hSw); go_simp; (try with_reducible rfl))
  case hQq13 => exact fun _ _ _ h => hP _ _ _ _ _ h
  (try simp only [Act.put, List.setIfInBounds_toArray, List.set_cons_zero, List.set_cons_succ])
  refine wpAnyH_take (i := 14) (oi := ?_) (v := ?_) ?hiq14 (by kernel_rfl) ?hfq14 ?hrq14 ?hQq14 ?hyq14 (by assumption) ?restq14
  case hiq14 => (simp only [List.getElem?_toArray, List.getElem?_cons_zero, List.getElem?_cons_succ]; rfl)
  case hfq14 => kernel_rfl
  case hrq14 => kernel_rfl
  case hyq14 => (refine Or.inl ⟨by rfl, ?_⟩; intro wS hSw; (try dsimp only at hSw); go_simp; (try with_reducible rfl))
  case hQq14 => exact fun _ _ _ h => hP _ _ _ _ _ h
  (try simp only [Act.put, List.setIfInBounds_toArray, List.set_cons_zero, List.set_cons_succ])
  refine any_have 2 [3, 15, 16, 17] (fun a a' w' => ∃ (gA gB : Nat), a' = ((((a.put (some 191) (.agg #[.int .i64 2, .int .i64 0, .float .f64 (Flo.cop .sub FA G), .string ⟨#[]⟩, .slice none 0 0])).put (some 203) (.agg #[.int .i64 2, .int .i64 0, .float .f64 (Flo.cop .add FD G), .string ⟨#[]⟩, .slice none 0 0])).put (some 21) (.pointer (some ⟨gA, 0, none⟩))).put (some 22) (.pointer (some ⟨gB, 0, none⟩))) ∧ w'.heap[w.heap.size]? = some (.cells #[.int .i64 4, .int .i64 0, .float .f64 0, .string ⟨#[]⟩, .slice (some ⟨b, off, none⟩) l c] 27 (0, 0)) ∧ w'.heap[w.heap.size + 1]? = some (.cells #[.int .i64 0, .int .i64 0, .float .f64 0, .string ⟨#[]⟩, .slice none 0 0] 27 (0, 0)) ∧ w'.heap[w.heap.size + 1 + 1]? = some (.cells #[.int .i64 0, .int .i64 0, .float .f64 0, .string ⟨#[]⟩, .slice none 0 0] 27 (0, 0)) ∧ Below w.heap.size w w' ∧ w'.heap[gA]? = some (.cells #[.int .i64 0, .int .i64 0, .float .f64 0, .string ⟨#[]⟩, .slice none 0 0] 27 (0, 0)) ∧ w.heap.size + 1 + 1 < gA ∧ w'.heap[gB]? = some (.cells #[.int .i64 0, .int .i64 0, .float .f64 0, .string ⟨#[]⟩, .slice none 0 0] 27 (0, 0)) ∧ w.heap.size + 1 + 1 < gB ∧ gA ≠ gB) ?phK3_15_16_17m (fun hK3_15_16_17 => ?_)
  case phK3_15_16_17m =>
    intro a' w' hst hHeld
    obtain ⟨gA, gB, rfl, hR, hZ1, hZ2, hbd, hA, hgA, hB, hgB, hAB⟩ := hst
    (try simp only [Act.put, List.setIfInBounds_toArray, List.set_cons_zero, List.set_cons_succ])
    have TS0 := Lib.hid (show w'.heap[w.heap.size]? = some (.cells #[.int .i64 4, .int .i64 0, .float .f64 0, .string ⟨#[]⟩, .slice (some ⟨b, off, none⟩) l c] 27 (0, 0)) ∧ w'.heap[w.heap.size + 1]? = some (.cells #[.int .i64 0, .int .i64 0, .float .f64 0, .string ⟨#[]⟩, .slice none 0 0] 27 (0, 0)) ∧ w'.heap[w.heap.size + 1 + 1]? = some (.cells #[.int .i64 0, .int .i64 0, .float .f64 0, .string ⟨#[]⟩, .slice none 0 0] 27 (0, 0)) ∧ w'.heap[gA]? = some (.cells #[.int .i64 0, .int .i64 0, .float .f64 0, .string ⟨#[]⟩, .slice none 0 0] 27 (0, 0)) ∧ w'.heap[gB]? = some (.cells #[.int .i64 0, .int .i64 0, .float .f64 0, .string ⟨#[]⟩, .slice none 0 0] 27 (0, 0)) ∧ Below w.heap.size w w' from ⟨hR, hZ1, hZ2, hA, hB, hbd⟩)
    clear hR hZ1 hZ2 hA hB hbd
    refine wpAnyH_ready (rs := [18]) (by kernel_rfl) (by simp) ?_
    refine AllReadyH.cons (o := ?_) ?hos0hK3_15_16_17m ?hsts0hK3_15_16_17m AllReadyH.nil
    case hos0hK3_15_16_17m => (simp only [List.getElem?_toArray, List.getElem?_cons_zero, List.getElem?_cons_succ]; rfl)
    intro K hK
    have b30 := row_cell TS0.out.2.2.2.1 0; have b31 := row_cell TS0.out.2.2.2.1 1; have b32 := row_cell TS0.out.2.2.2.1 2; have b33 := row_cell TS0.out.2.2.2.1 3; have b34 := row_cell TS0.out.2.2.2.1 4; have b3f := row_frz TS0.out.2.2.2.1; have b3l := row_lt TS0.out.2.2.2.1; go_simp
    have TS1 := Lib.hid (show (((((w'.setCell ⟨gA, 0, none⟩ (.int .i64 2)).setCell ⟨gA, 1, none⟩ (.int .i64 0)).setCell ⟨gA, 2, none⟩ (.float .f64 (Flo.cop .sub FA G))).setCell ⟨gA, 3, none⟩ (.string ⟨#[]⟩)).setCell ⟨gA, 4, none⟩ (.slice none 0 0)).heap[w.heap.size]? = some (.cells #[.int .i64 4, .int .i64 0, .float .f64 0, .string ⟨#[]⟩, .slice (some ⟨b, off, none⟩) l c] 27 (0, 0)) ∧ (((((w'.setCell ⟨gA, 0, none⟩ (.int .i64 2)).setCell ⟨gA, 1, none⟩ (.int .i64 0)).setCell ⟨gA, 2, none⟩ (.float .f64 (Flo.cop .sub FA G))).setCell ⟨gA, 3, none⟩ (.string ⟨#[]⟩)).setCell ⟨gA, 4, none⟩ (.slice none 0 0)).heap[w.heap.size + 1]? = some (.cells #[.int .i64 0, .int .i64 0, .float .f64 0, .string ⟨#[]⟩, .slice none 0 0] 27 (0, 0)) ∧ (((((w'.setCell ⟨gA, 0, none⟩ (.int .i64 2)).setCell ⟨gA, 1, none⟩ (.int .i64 0)).setCell ⟨gA, 2, none⟩ (.float .f64 (Flo.cop .sub FA G))).setCell ⟨gA, 3, none⟩ (.string ⟨#[]⟩)).setCell ⟨gA, 4, none⟩ (.slice none 0 0)).heap[w.heap.size + 1 + 1]? = some (.cells #[.int .i64 0, .int .i64 0, .float .f64 0, .string ⟨#[]⟩, .slice none 0 0] 27 (0, 0)) ∧ (((((w'.setCell ⟨gA, 0, none⟩ (.int .i64 2)).setCell ⟨gA, 1, none⟩ (.int .i64 0)).setCell ⟨gA, 2, none⟩ (.float .f64 (Flo.cop .sub FA G))).setCell ⟨gA, 3, none⟩ (.string ⟨#[]⟩)).setCell ⟨gA, 4, none⟩ (.slice none 0 0)).heap[gA]? = some (.cells #[.int .i64 2, .int .i64 0, .float .f64 (Flo.cop .sub FA G), .string ⟨#[]⟩, .slice none 0 0] 27 (0, 0)) ∧ (((((w'.setCell ⟨gA, 0, none⟩ (.int .i64 2)).setCell ⟨gA, 1, none⟩ (.int .i64 0)).setCell ⟨gA, 2, none⟩ (.float .f64 (Flo.cop .sub FA G))).setCell ⟨gA, 3, none⟩ (.string ⟨#[]⟩)).setCell ⟨gA, 4, none⟩ (.slice none 0 0)).heap[gB]? = some (.cells #[.int .i64 0, .int .i64 0, .float .f64 0, .string ⟨#[]⟩, .slice none 0 0] 27 (0, 0)) ∧ Below w.heap.size w (((((w'.setCell ⟨gA, 0, none⟩ (.int .i64 2)).setCell ⟨gA, 1, none⟩ (.int .i64 0)).setCell ⟨gA, 2, none⟩ (.float .f64 (Flo.cop .sub FA G))).setCell ⟨gA, 3, none⟩ (.string ⟨#[]⟩)).setCell ⟨gA, 4, none⟩ (.slice none 0 0)) from ⟨(set5_other (w := w') (g := gA) (o := 0) (by omega)).trans TS0.out.1, (set5_other (w := w') (g := gA) (o := 0) (by omega)).trans TS0.out.2.1, (set5_other (w := w') (g := gA) (o := 0) (by omega)).trans TS0.out.2.2.1, set5_row TS0.out.2.2.2.1 (.int .i64 2) (.int .i64 0) (.float .f64 (Flo.cop .sub FA G)) (.string ⟨#[]⟩) (.slice none 0 0), (set5_other (w := w') (g := gA) (o := 0) (by omega)).trans TS0.out.2.2.2.2.1, set5_below TS0.out.2.2.2.2.2 (by omega) (.int .i64 2) (.int .i64 0) (.float .f64 (Flo.cop .sub FA G)) (.string ⟨#[]⟩) (.slice none 0 0)⟩)
    clear TS0
    clear b30 b31 b32 b33 b34 b3f b3l
    go_wp2_with fail
    refine hK.out _ _ ?hss0hK3_15_16_17m (fun hHeld => ?_)
    case hss0hK3_15_16_17m => exact ⟨row_cell TS1.out.1 0, row_cell TS1.out.1 1, row_cell TS1.out.1 2, row_cell TS1.out.1 3, row_cell TS1.out.1 4, cell_keep TS1.out.2.2.2.2.2 Hd4.out, cell_keep TS1.out.2.2.2.2.2 Hd6.out⟩
    clear hK K
    (try simp only [Act.put, List.setIfInBounds_toArray, List.set_cons_zero, List.set_cons_succ])
    refine wpAnyH_ready (rs := [19]) (by kernel_rfl) (by simp) ?_
    refine AllReadyH.cons (o := ?_) ?hos1hK3_15_16_17m ?hsts1hK3_15_16_17m AllReadyH.nil
    case hos1hK3_15_16_17m => (simp only [List.getElem?_toArray, List.getElem?_cons_zero, List.getElem?_cons_succ]; rfl)
    intro K hK
    have b30 := row_cell TS1.out.2.2.2.2.1 0; have b31 := row_cell TS1.out.2.2.2.2.1 1; have b32 := row_cell TS1.out.2.2.2.2.1 2; have b33 := row_cell TS1.out.2.2.2.2.1 3; have b34 := row_cell TS1.out.2.2.2.2.1 4; have b3f := row_frz TS1.out.2.2.2.2.1; have b3l := row_lt TS1.out.2.2.2.2.1; go_simp
    have TS2 := Lib.hid (show ((((((((((w'.setCell ⟨gA, 0, none⟩ (.int .i64 2)).setCell ⟨gA, 1, none⟩ (.int .i64 0)).setCell ⟨gA, 2, none⟩ (.float .f64 (Flo.cop .sub FA G))).setCell ⟨gA, 3, none⟩ (.string ⟨#[]⟩)).setCell ⟨gA, 4, none⟩ (.slice none 0 0)).setCell ⟨gB, 0, none⟩ (.int .i64 2)).setCell ⟨gB, 1, none⟩ (.int .i64 0)).setCell ⟨gB, 2, none⟩ (.float .f64 (Flo.cop .add FD G))).setCell ⟨gB, 3, none⟩ (.string ⟨#[]⟩)).setCell ⟨gB, 4, none⟩ (.slice none 0 0)).heap[w.heap.size]? = some (.cells #[.int .i64 4, .int .i64 0, .float .f64 0, .string ⟨#[]⟩, .slice (some ⟨b, off, none⟩) l c] 27 (0, 0)) ∧ ((((((((((w'.setCell ⟨gA, 0, none⟩ (.int .i64 2)).setCell ⟨gA, 1, none⟩ (.int .i64 0)).setCell ⟨gA, 2, none⟩ (.float .f64 (Flo.cop .sub FA G))).setCell ⟨gA, 3, none⟩ (.string ⟨#[]⟩)).setCell ⟨gA, 4, none⟩ (.slice none 0 0)).setCell ⟨gB, 0, none⟩ (.int .i64 2)).setCell ⟨gB, 1, none⟩ (.int .i64 0)).setCell ⟨gB, 2, none⟩ (.float .f64 (Flo.cop .add FD G))).setCell ⟨gB, 3, none⟩ (.string ⟨#[]⟩)).setCell ⟨gB, 4, none⟩ (.slice none 0 0)).heap[w.heap.size + 1]? = some (.cells #[.int .i64 0, .int .i64 0, .float .f64 0, .string ⟨#[]⟩, .slice none 0 0] 27 (0, 0)) ∧ ((((((((((w'.setCell ⟨gA, 0, none⟩ (.int .i64 2)).setCell ⟨gA, 1, none⟩ (.int .i64 0)).setCell ⟨gA, 2, none⟩ (.float .f64 (Flo.cop .sub FA G))).setCell ⟨gA, 3, none⟩ (.string ⟨#[]⟩)).setCell ⟨gA, 4, none⟩ (.slice none 0 0)).setCell ⟨gB, 0, none⟩ (.int .i64 2)).setCell ⟨gB, 1, none⟩ (.int .i64 0)).setCell ⟨gB, 2, none⟩ (.float .f64 (Flo.cop .add FD G))).setCell ⟨gB, 3, none⟩ (.string ⟨#[]⟩)).setCell ⟨gB, 4, none⟩ (.slice none 0 0)).heap[w.heap.size + 1 + 1]? = some (.cells #[.int .i64 0, .int .i64 0, .float .f64 0, .string ⟨#[]⟩, .slice none 0 0] 27 (0, 0)) ∧ ((((((((((w'.setCell ⟨gA, 0, none⟩ (.int .i64 2)).setCell ⟨gA, 1, none⟩ (.int .i64 0)).setCell ⟨gA, 2, none⟩ (.float .f64 (Flo.cop .sub FA G))).setCell ⟨gA, 3, none⟩ (.string ⟨#[]⟩)).setCell ⟨gA, 4, none⟩ (.slice none 0 0)).setCell ⟨gB, 0, none⟩ (.int .i64 2)).setCell ⟨gB, 1, none⟩ (.int .i64 0)).setCell ⟨gB, 2, none⟩ (.float .f64 (Flo.cop .add FD G))).setCell ⟨gB, 3, none⟩ (.string ⟨#[]⟩)).setCell ⟨gB, 4, none⟩ (.slice none 0 0)).heap[gA]? = some (.cells #[.int .i64 2, .int .i64 0, .float .f64 (Flo.cop .sub FA G), .string ⟨#[]⟩, .slice none 0 0] 27 (0, 0)) ∧ ((((((((((w'.setCell ⟨gA, 0, none⟩ (.int .i64 2)).setCell ⟨gA, 1, none⟩ (.int .i64 0)).setCell ⟨gA, 2, none⟩ (.float .f64 (Flo.cop .sub FA G))).setCell ⟨gA, 3, none⟩ (.string ⟨#[]⟩)).setCell ⟨gA, 4, none⟩ (.slice none 0 0)).setCell ⟨gB, 0, none⟩ (.int .i64 2)).setCell ⟨gB, 1, none⟩ (.int .i64 0)).setCell ⟨gB, 2, none⟩ (.float .f64 (Flo.cop .add FD G))).setCell ⟨gB, 3, none⟩ (.string ⟨#[]⟩)).setCell ⟨gB, 4, none⟩ (.slice none 0 0)).heap[gB]? = some (.cells #[.int .i64 2, .int .i64 0, .float .f64 (Flo.cop .add FD G), .string ⟨#[]⟩, .slice none 0 0] 27 (0, 0)) ∧ Below w.heap.size w ((((((((((w'.setCell ⟨gA, 0, none⟩ (.int .i64 2)).setCell ⟨gA, 1, none⟩ (.int .i64 0)).setCell ⟨gA, 2, none⟩ (.float .f64 (Flo.cop .sub FA G))).setCell ⟨gA, 3, none⟩ (.string ⟨#[]⟩)).setCell ⟨gA, 4, none⟩ (.slice none 0 0)).setCell ⟨gB, 0, none⟩ (.int .i64 2)).setCell ⟨gB, 1, none⟩ (.int .i64 0)).setCell ⟨gB, 2, none⟩ (.float .f64 (Flo.cop .add FD G))).setCell ⟨gB, 3, none⟩ (.string ⟨#[]⟩)).setCell ⟨gB, 4, none⟩ (.slice none 0 0)) from ⟨(set5_other (w := (((((w'.setCell ⟨gA, 0, none⟩ (.int .i64 2)).setCell ⟨gA, 1, none⟩ (.int .i64 0)).setCell ⟨gA, 2, none⟩ (.float .f64 (Flo.cop .sub FA G))).setCell ⟨gA, 3, none⟩ (.string ⟨#[]⟩)).setCell ⟨gA, 4, none⟩ (.slice none 0 0))) (g := gB) (o := 0) (by omega)).trans TS1.out.1, (set5_other (w := (((((w'.setCell ⟨gA, 0, none⟩ (.int .i64 2)).setCell ⟨gA, 1, none⟩ (.int .i64 0)).setCell ⟨gA, 2, none⟩ (.float .f64 (Flo.cop .sub FA G))).setCell ⟨gA, 3, none⟩ (.string ⟨#[]⟩)).setCell ⟨gA, 4, none⟩ (.slice none 0 0))) (g := gB) (o := 0) (by omega)).trans TS1.out.2.1, (set5_other (w := (((((w'.setCell ⟨gA, 0, none⟩ (.int .i64 2)).setCell ⟨gA, 1, none⟩ (.int .i64 0)).setCell ⟨gA, 2, none⟩ (.float .f64 (Flo.cop .sub FA G))).setCell ⟨gA, 3, none⟩ (.string ⟨#[]⟩)).setCell ⟨gA, 4, none⟩ (.slice none 0 0))) (g := gB) (o := 0) (by omega)).trans TS1.out.2.2.1, (set5_other (w := (((((w'.setCell ⟨gA, 0, none⟩ (.int .i64 2)).setCell ⟨gA, 1, none⟩ (.int .i64 0)).setCell ⟨gA, 2, none⟩ (.float .f64 (Flo.cop .sub FA G))).setCell ⟨gA, 3, none⟩ (.string ⟨#[]⟩)).setCell ⟨gA, 4, none⟩ (.slice none 0 0))) (g := gB) (o := 0) (by omega)).trans TS1.out.2.2.2.1, set5_row TS1.out.2.2.2.2.1 (.int .i64 2) (.int .i64 0) (.float .f64 (Flo.cop .add FD G)) (.string ⟨#[]⟩) (.slice none 0 0), set5_below TS1.out.2.2.2.2.2 (by omega) (.int .i64 2) (.int .i64 0) (.float .f64 (Flo.cop .add FD G)) (.string ⟨#[]⟩) (.slice none 0 0)⟩)
    clear TS1
    clear b30 b31 b32 b33 b34 b3f b3l
    go_wp2_with fail
    refine hK.out _ _ ?hss1hK3_15_16_17m (fun hHeld => ?_)
    case hss1hK3_15_16_17m => exact ⟨row_cell TS2.out.1 0, row_cell TS2.out.1 1, row_cell TS2.out.1 2, row_cell TS2.out.1 3, row_cell TS2.out.1 4, cell_keep TS2.out.2.2.2.2.2 Hd4.out, cell_keep TS2.out.2.2.2.2.2 Hd6.out⟩
    clear hK K
    (try simp only [Act.put, List.setIfInBounds_toArray, List.set_cons_zero, List.set_cons_succ])
    refine wpAnyH_done (by kernel_rfl) ?_ _
    revert TS2
    generalize ((((((((((w'.setCell ⟨gA, 0, none⟩ (.int .i64 2)).setCell ⟨gA, 1, none⟩ (.int .i64 0)).setCell ⟨gA, 2, none⟩ (.float .f64 (Flo.cop .sub FA G))).setCell ⟨gA, 3, none⟩ (.string ⟨#[]⟩)).setCell ⟨gA, 4, none⟩ (.slice none 0 0)).setCell ⟨gB, 0, none⟩ (.int .i64 2)).setCell ⟨gB, 1, none⟩ (.int .i64 0)).setCell ⟨gB, 2, none⟩ (.float .f64 (Flo.cop .add FD G))).setCell ⟨gB, 3, none⟩ (.string ⟨#[]⟩)).setCell ⟨gB, 4, none⟩ (.slice none 0 0)) = Wg
    intro TS2
    exact hQ _ _ _ (by omega) (by omega) ⟨TS2.out.1, TS2.out.2.1, TS2.out.2.2.1, TS2.out.2.2.2.1, TS2.out.2.2.2.2.1, TS2.out.2.2.2.2.2⟩
  refine any_have 3 [3, 15, 16] (fun a a' w' => ∃ (gA : Nat), a' = (((a.put (some 191) (.agg #[.int .i64 2, .int .i64 0, .float .f64 (Flo.cop .sub FA G), .string ⟨#[]⟩, .slice none 0 0])).put (some 203) (.agg #[.int .i64 2, .int .i64 0, .float .f64 (Flo.cop .add FD G), .string ⟨#[]⟩, .slice none 0 0])).put (some 21) (.pointer (some ⟨gA, 0, none⟩))) ∧ w'.heap[w.heap.size]? = some (.cells #[.int .i64 4, .int .i64 0, .float .f64 0, .string ⟨#[]⟩, .slice (some ⟨b, off, none⟩) l c] 27 (0, 0)) ∧ w'.heap[w.heap.size + 1]? = some (.cells #[.int .i64 0, .int .i64 0, .float .f64 0, .string ⟨#[]⟩, .slice none 0 0] 27 (0, 0)) ∧ w'.heap[w.heap.size + 1 + 1]? = some (.cells #[.int .i64 0, .int .i64 0, .float .f64 0, .string ⟨#[]⟩, .slice none 0 0] 27 (0, 0)) ∧ Below w.heap.size w w' ∧ w'.heap[gA]? = some (.cells #[.int .i64 0, .int .i64 0, .float .f64 0, .string ⟨#[]⟩, .slice none 0 0] 27 (0, 0)) ∧ w.heap.size + 1 + 1 < gA) ?phK3_15_16m (fun hK3_15_16 => ?_)
  case phK3_15_16m =>
    intro a' w' hst hHeld
    obtain ⟨gA, rfl, hR, hZ1, hZ2, hbd, hA, hgA⟩ := hst
    (try simp only [Act.put, List.setIfInBounds_toArray, List.set_cons_zero, List.set_cons_succ])
    refine wpAnyH_ready (rs := [17]) (by kernel_rfl) (by simp) ?_
    refine AllReadyH.cons (o := ?_) ?ho17hK3_15_16m ?hst17hK3_15_16m AllReadyH.nil
    case ho17hK3_15_16m => (simp only [List.getElem?_toArray, List.getElem?_cons_zero, List.getElem?_cons_succ]; rfl)
    case hst17hK3_15_16m =>
      intro K hK
      go_simp
      refine hK.out _ _ ?hs17hK3_15_16m (fun hHeld => ?_)
      case hs17hK3_15_16m => exact ⟨row_cell (row_step hR (bel_alloc (Below.refl _ _) (.cells #[.int .i64 0, .int .i64 0, .float .f64 0, .string ⟨#[]⟩, .slice none 0 0] 27))) 0, row_cell (row_step hR (bel_alloc (Below.refl _ _) (.cells #[.int .i64 0, .int .i64 0, .float .f64 0, .string ⟨#[]⟩, .slice none 0 0] 27))) 1, row_cell (row_step hR (bel_alloc (Below.refl _ _) (.cells #[.int .i64 0, .int .i64 0, .float .f64 0, .string ⟨#[]⟩, .slice none 0 0] 27))) 2, row_cell (row_step hR (bel_alloc (Below.refl _ _) (.cells #[.int .i64 0, .int .i64 0, .float .f64 0, .string ⟨#[]⟩, .slice none 0 0] 27))) 3, row_cell (row_step hR (bel_alloc (Below.refl _ _) (.cells #[.int .i64 0, .int .i64 0, .float .f64 0, .string ⟨#[]⟩, .slice none 0 0] 27))) 4, cell_keep (bel_step hbd (bel_alloc (Below.refl _ _) (.cells #[.int .i64 0, .int .i64 0, .float .f64 0, .string ⟨#[]⟩, .slice none 0 0] 27))) Hd4.out, cell_keep (bel_step hbd (bel_alloc (Below.refl _ _) (.cells #[.int .i64 0, .int .i64 0, .float .f64 0, .string ⟨#[]⟩, .slice none 0 0] 27))) Hd6.out⟩
      clear hK K
      (try simp only [Act.put, List.setIfInBounds_toArray, List.set_cons_zero, List.set_cons_succ])
      exact any_eq (by kernel_rfl) (by kernel_rfl) (hK3_15_16_17 _ _ ⟨gA, _, rfl, (row_step hR (bel_alloc (Below.refl _ _) (.cells #[.int .i64 0, .int .i64 0, .float .f64 0, .string ⟨#[]⟩, .slice none 0 0] 27))), (row_step hZ1 (bel_alloc (Below.refl _ _) (.cells #[.int .i64 0, .int .i64 0, .float .f64 0, .string ⟨#[]⟩, .slice none 0 0] 27))), (row_step hZ2 (bel_alloc (Below.refl _ _) (.cells #[.int .i64 0, .int .i64 0, .float .f64 0, .string ⟨#[]⟩, .slice none 0 0] 27))), (bel_step hbd (bel_alloc (Below.refl _ _) (.cells #[.int .i64 0, .int .i64 0, .float .f64 0, .string ⟨#[]⟩, .slice none 0 0] 27))), (row_step hA (bel_alloc (Below.refl _ _) (.cells #[.int .i64 0, .int .i64 0, .float .f64 0, .string ⟨#[]⟩, .slice none 0 0] 27))), (hgA), row_alloc _ _ _, row_lt hZ2, Nat.ne_of_lt (row_lt hA)⟩ hHeld)
  refine any_have 3 [3, 15, 17] (fun a a' w' => ∃ (gB : Nat), a' = (((a.put (some 191) (.agg #[.int .i64 2, .int .i64 0, .float .f64 (Flo.cop .sub FA G), .string ⟨#[]⟩, .slice none 0 0])).put (some 203) (.agg #[.int .i64 2, .int .i64 0, .float .f64 (Flo.cop .add FD G), .string ⟨#[]⟩, .slice none 0 0])).put (some 22) (.pointer (some ⟨gB, 0, none⟩))) ∧ w'.heap[w.heap.size]? = some (.cells #[.int .i64 4, .int .i64 0, .float .f64 0, .string ⟨#[]⟩, .slice (some ⟨b, off, none⟩) l c] 27 (0, 0)) ∧ w'.heap[w.heap.size + 1]? = some (.cells #[.int .i64 0, .int .i64 0, .float .f64 0, .string ⟨#[]⟩, .slice none 0 0] 27 (0, 0)) ∧ w'.heap[w.heap.size + 1 + 1]? = some (.cells #[.int .i64 0, .int .i64 0, .float .f64 0, .string ⟨#[]⟩, .slice none 0 0] 27 (0, 0)) ∧ Below w.heap.size w w' ∧ w'.heap[gB]? = some (.cells #[.int .i64 0, .int .i64 0, .float .f64 0, .string ⟨#[]⟩, .slice none 0 0] 27 (0, 0)) ∧ w.heap.size + 1 + 1 < gB) ?phK3_15_17m (fun hK3_15_17 => ?_)
  case phK3_15_17m =>
    intro a' w' hst hHeld
    obtain ⟨gB, rfl, hR, hZ1, hZ2, hbd, hB, hgB⟩ := hst
    (try simp only [Act.put, List.setIfInBounds_toArray, List.set_cons_zero, List.set_cons_succ])
    refine wpAnyH_ready (rs := [16]) (by kernel_rfl) (by simp) ?_
    refine AllReadyH.cons (o := ?_) ?ho16hK3_15_17m ?hst16hK3_15_17m AllReadyH.nil
    case ho16hK3_15_17m => (simp only [List.getElem?_toArray, List.getElem?_cons_zero, List.getElem?_cons_succ]; rfl)
    case hst16hK3_15_17m =>
      intro K hK
      go_simp
      refine hK.out _ _ ?hs16hK3_15_17m (fun hHeld => ?_)
      case hs16hK3_15_17m => exact ⟨row_cell (row_step hR (bel_alloc (Below.refl _ _) (.cells #[.int .i64 0, .int .i64 0, .float .f64 0, .string ⟨#[]⟩, .slice none 0 0] 27))) 0, row_cell (row_step hR (bel_alloc (Below.refl _ _) (.cells #[.int .i64 0, .int .i64 0, .float .f64 0, .string ⟨#[]⟩, .slice none 0 0] 27))) 1, row_cell (row_step hR (bel_alloc (Below.refl _ _) (.cells #[.int .i64 0, .int .i64 0, .float .f64 0, .string ⟨#[]⟩, .slice none 0 0] 27))) 2, row_cell (row_step hR (bel_alloc (Below.refl _ _) (.cells #[.int .i64 0, .int .i64 0, .float .f64 0, .string ⟨#[]⟩, .slice none 0 0] 27))) 3, row_cell (row_step hR (bel_alloc (Below.refl _ _) (.cells #[.int .i64 0, .int .i64 0, .float .f64 0, .string ⟨#[]⟩, .slice none 0 0] 27))) 4, cell_keep (bel_step hbd (bel_alloc (Below.refl _ _) (.cells #[.int .i64 0, .int .i64 0, .float .f64 0, .string ⟨#[]⟩, .slice none 0 0] 27))) Hd4.out, cell_keep (bel_step hbd (bel_alloc (Below.refl _ _) (.cells #[.int .i64 0, .int .i64 0, .float .f64 0, .string ⟨#[]⟩, .slice none 0 0] 27))) Hd6.out⟩
      clear hK K
      (try simp only [Act.put, List.setIfInBounds_toArray, List.set_cons_zero, List.set_cons_succ])
      exact any_eq (by kernel_rfl) (by kernel_rfl) (hK3_15_16_17 _ _ ⟨_, gB, rfl, (row_step hR (bel_alloc (Below.refl _ _) (.cells #[.int .i64 0, .int .i64 0, .float .f64 0, .string ⟨#[]⟩, .slice none 0 0] 27))), (row_step hZ1 (bel_alloc (Below.refl _ _) (.cells #[.int .i64 0, .int .i64 0, .float .f64 0, .string ⟨#[]⟩, .slice none 0 0] 27))), (row_step hZ2 (bel_alloc (Below.refl _ _) (.cells #[.int .i64 0, .int .i64 0, .float .f64 0, .string ⟨#[]⟩, .slice none 0 0] 27))), (bel_step hbd (bel_alloc (Below.refl _ _) (.cells #[.int .i64 0, .int .i64 0, .float .f64 0, .string ⟨#[]⟩, .slice none 0 0] 27))), row_alloc _ _ _, row_lt hZ2, (row_step hB (bel_alloc (Below.refl _ _) (.cells #[.int .i64 0, .int .i64 0, .float .f64 0, .string ⟨#[]⟩, .slice none 0 0] 27))), (hgB), Nat.ne_of_gt (row_lt hB)⟩ hHeld)
  refine any_have 3 [3, 16, 17] (fun a a' w' => ∃ (gA gB : Nat), a' = (((a.put (some 191) (.agg #[.int .i64 2, .int .i64 0, .float .f64 (Flo.cop .sub FA G), .string ⟨#[]⟩, .slice none 0 0])).put (some 21) (.pointer (some ⟨gA, 0, none⟩))).put (some 22) (.pointer (some ⟨gB, 0, none⟩))) ∧ w'.heap[w.heap.size]? = some (.cells #[.int .i64 4, .int .i64 0, .float .f64 0, .string ⟨#[]⟩, .slice (some ⟨b, off, none⟩) l c] 27 (0, 0)) ∧ w'.heap[w.heap.size + 1]? = some (.cells #[.int .i64 0, .int .i64 0, .float .f64 0, .string ⟨#[]⟩, .slice none 0 0] 27 (0, 0)) ∧ w'.heap[w.heap.size + 1 + 1]? = some (.cells #[.int .i64 0, .int .i64 0, .float .f64 0, .string ⟨#[]⟩, .slice none 0 0] 27 (0, 0)) ∧ Below w.heap.size w w' ∧ w'.heap[gA]? = some (.cells #[.int .i64 0, .int .i64 0, .float .f64 0, .string ⟨#[]⟩, .slice none 0 0] 27 (0, 0)) ∧ w.heap.size + 1 + 1 < gA ∧ w'.heap[gB]? = some (.cells #[.int .i64 0, .int .i64 0, .float .f64 0, .string ⟨#[]⟩, .slice none 0 0] 27 (0, 0)) ∧ w.heap.size + 1 + 1 < gB ∧ gA ≠ gB) ?phK3_16_17m (fun hK3_16_17 => ?_)
  case phK3_16_17m =>
    intro a' w' hst hHeld
    obtain ⟨gA, gB, rfl, hR, hZ1, hZ2, hbd, hA, hgA, hB, hgB, hAB⟩ := hst
    (try simp only [Act.put, List.setIfInBounds_toArray, List.set_cons_zero, List.set_cons_succ])
    refine wpAnyH_ready (rs := [15]) (by kernel_rfl) (by simp) ?_
    refine AllReadyH.cons (o := ?_) ?ho15hK3_16_17m ?hst15hK3_16_17m AllReadyH.nil
    case ho15hK3_16_17m => (simp only [List.getElem?_toArray, List.getElem?_cons_zero, List.getElem?_cons_succ]; rfl)
    case hst15hK3_16_17m =>
      intro K hK
      go_simp
      go_at_call 20; refine (float_is HCG.out _).mono ?_; rintro e wT ⟨rfl, hbT⟩
      go_wp2_with fail
      refine hK.out _ _ ?hs15hK3_16_17m (fun hHeld => ?_)
      case hs15hK3_16_17m => exact ⟨row_cell (row_step hR hbT) 0, row_cell (row_step hR hbT) 1, row_cell (row_step hR hbT) 2, row_cell (row_step hR hbT) 3, row_cell (row_step hR hbT) 4, cell_keep (bel_step hbd hbT) Hd4.out, cell_keep (bel_step hbd hbT) Hd6.out⟩
      clear hK K
      (try simp only [Act.put, List.setIfInBounds_toArray, List.set_cons_zero, List.set_cons_succ])
      exact any_eq (by kernel_rfl) (by kernel_rfl) (hK3_15_16_17 _ _ ⟨gA, gB, rfl, (row_step hR hbT), (row_step hZ1 hbT), (row_step hZ2 hbT), (bel_step hbd hbT), (row_step hA hbT), (hgA), (row_step hB hbT), (hgB), (hAB)⟩ hHeld)
  refine any_have 4 [3, 15] (fun a a' w' => a' = ((a.put (some 191) (.agg #[.int .i64 2, .int .i64 0, .float .f64 (Flo.cop .sub FA G), .string ⟨#[]⟩, .slice none 0 0])).put (some 203) (.agg #[.int .i64 2, .int .i64 0, .float .f64 (Flo.cop .add FD G), .string ⟨#[]⟩, .slice none 0 0])) ∧ w'.heap[w.heap.size]? = some (.cells #[.int .i64 4, .int .i64 0, .float .f64 0, .string ⟨#[]⟩, .slice (some ⟨b, off, none⟩) l c] 27 (0, 0)) ∧ w'.heap[w.heap.size + 1]? = some (.cells #[.int .i64 0, .int .i64 0, .float .f64 0, .string ⟨#[]⟩, .slice none 0 0] 27 (0, 0)) ∧ w'.heap[w.heap.size + 1 + 1]? = some (.cells #[.int .i64 0, .int .i64 0, .float .f64 0, .string ⟨#[]⟩, .slice none 0 0] 27 (0, 0)) ∧ Below w.heap.size w w') ?phK3_15m (fun hK3_15 => ?_)
  case phK3_15m =>
    intro a' w' hst hHeld
    obtain ⟨rfl, hR, hZ1, hZ2, hbd⟩ := hst
    (try simp only [Act.put, List.setIfInBounds_toArray, List.set_cons_zero, List.set_cons_succ])
    refine wpAnyH_ready (rs := [16, 17]) (by kernel_rfl) (by simp) ?_
    refine AllReadyH.cons (o := ?_) ?ho16hK3_15m ?hst16hK3_15m (AllReadyH.cons (o := ?_) ?ho17hK3_15m ?hst17hK3_15m AllReadyH.nil)
    case ho16hK3_15m => (simp only [List.getElem?_toArray, List.getElem?_cons_zero, List.getElem?_cons_succ]; rfl)
    case ho17hK3_15m => (simp only [List.getElem?_toArray, List.getElem?_cons_zero, List.getElem?_cons_succ]; rfl)
    case hst16hK3_15m =>
      intro K hK
      go_simp
      refine hK.out _ _ ?hs16hK3_15m (fun hHeld => ?_)
      case hs16hK3_15m => exact ⟨row_cell (row_step hR (bel_alloc (Below.refl _ _) (.cells #[.int .i64 0, .int .i64 0, .float .f64 0, .string ⟨#[]⟩, .slice none 0 0] 27))) 0, row_cell (row_step hR (bel_alloc (Below.refl _ _) (.cells #[.int .i64 0, .int .i64 0, .float .f64 0, .string ⟨#[]⟩, .slice none 0 0] 27))) 1, row_cell (row_step hR (bel_alloc (Below.refl _ _) (.cells #[.int .i64 0, .int .i64 0, .float .f64 0, .string ⟨#[]⟩, .slice none 0 0] 27))) 2, row_cell (row_step hR (bel_alloc (Below.refl _ _) (.cells #[.int .i64 0, .int .i64 0, .float .f64 0, .string ⟨#[]⟩, .slice none 0 0] 27))) 3, row_cell (row_step hR (bel_alloc (Below.refl _ _) (.cells #[.int .i64 0, .int .i64 0, .float .f64 0, .string ⟨#[]⟩, .slice none 0 0] 27))) 4, cell_keep (bel_step hbd (bel_alloc (Below.refl _ _) (.cells #[.int .i64 0, .int .i64 0, .float .f64 0, .string ⟨#[]⟩, .slice none 0 0] 27))) Hd4.out, cell_keep (bel_step hbd (bel_alloc (Below.refl _ _) (.cells #[.int .i64 0, .int .i64 0, .float .f64 0, .string ⟨#[]⟩, .slice none 0 0] 27))) Hd6.out⟩
      clear hK K
      (try simp only [Act.put, List.setIfInBounds_toArray, List.set_cons_zero, List.set_cons_succ])
      exact any_eq (by kernel_rfl) (by kernel_rfl) (hK3_15_16 _ _ ⟨_, rfl, (row_step hR (bel_alloc (Below.refl _ _) (.cells #[.int .i64 0, .int .i64 0, .float .f64 0, .string ⟨#[]⟩, .slice none 0 0] 27))), (row_step hZ1 (bel_alloc (Below.refl _ _) (.cells #[.int .i64 0, .int .i64 0, .float .f64 0, .string ⟨#[]⟩, .slice none 0 0] 27))), (row_step hZ2 (bel_alloc (Below.refl _ _) (.cells #[.int .i64 0, .int .i64 0, .float .f64 0, .string ⟨#[]⟩, .slice none 0 0] 27))), (bel_step hbd (bel_alloc (Below.refl _ _) (.cells #[.int .i64 0, .int .i64 0, .float .f64 0, .string ⟨#[]⟩, .slice none 0 0] 27))), row_alloc _ _ _, row_lt hZ2⟩ hHeld)
    case hst17hK3_15m =>
      intro K hK
      go_simp
      refine hK.out _ _ ?hs17hK3_15m (fun hHeld => ?_)
      case hs17hK3_15m => exact ⟨row_cell (row_step hR (bel_alloc (Below.refl _ _) (.cells #[.int .i64 0, .int .i64 0, .float .f64 0, .string ⟨#[]⟩, .slice none 0 0] 27))) 0, row_cell (row_step hR (bel_alloc (Below.refl _ _) (.cells #[.int .i64 0, .int .i64 0, .float .f64 0, .string ⟨#[]⟩, .slice none 0 0] 27))) 1, row_cell (row_step hR (bel_alloc (Below.refl _ _) (.cells #[.int .i64 0, .int .i64 0, .float .f64 0, .string ⟨#[]⟩, .slice none 0 0] 27))) 2, row_cell (row_step hR (bel_alloc (Below.refl _ _) (.cells #[.int .i64 0, .int .i64 0, .float .f64 0, .string ⟨#[]⟩, .slice none 0 0] 27))) 3, row_cell (row_step hR (bel_alloc (Below.refl _ _) (.cells #[.int .i64 0, .int .i64 0, .float .f64 0, .string ⟨#[]⟩, .slice none 0 0] 27))) 4, cell_keep (bel_step hbd (bel_alloc (Below.refl _ _) (.cells #[.int .i64 0, .int .i64 0, .float .f64 0, .string ⟨#[]⟩, .slice none 0 0] 27))) Hd4.out, cell_keep (bel_step hbd (bel_alloc (Below.refl _ _) (.cells #[.int .i64 0, .int .i64 0, .float .f64 0, .string ⟨#[]⟩, .slice none 0 0] 27))) Hd6.out⟩
      clear hK K
      (try simp only [Act.put, List.setIfInBounds_toArray, List.set_cons_zero, List.set_cons_succ])
      exact any_eq (by kernel_rfl) (by kernel_rfl) (hK3_15_17 _ _ ⟨_, rfl, (row_step hR (bel_alloc (Below.refl _ _) (.cells #[.int .i64 0, .int .i64 0, .float .f64 0, .string ⟨#[]⟩, .slice none 0 0] 27))), (row_step hZ1 (bel_alloc (Below.refl _ _) (.cells #[.int .i64 0, .int .i64 0, .float .f64 0, .string ⟨#[]⟩, .slice none 0 0] 27))), (row_step hZ2 (bel_alloc (Below.refl _ _) (.cells #[.int .i64 0, .int .i64 0, .float .f64 0, .string ⟨#[]⟩, .slice none 0 0] 27))), (bel_step hbd (bel_alloc (Below.refl _ _) (.cells #[.int .i64 0, .int .i64 0, .float .f64 0, .string ⟨#[]⟩, .slice none 0 0] 27))), row_alloc _ _ _, row_lt hZ2⟩ hHeld)
  refine any_have 4 [3, 16] (fun a a' w' => ∃ (gA : Nat), a' = ((a.put (some 191) (.agg #[.int .i64 2, .int .i64 0, .float .f64 (Flo.cop .sub FA G), .string ⟨#[]⟩, .slice none 0 0])).put (some 21) (.pointer (some ⟨gA, 0, none⟩))) ∧ w'.heap[w.heap.size]? = some (.cells #[.int .i64 4, .int .i64 0, .float .f64 0, .string ⟨#[]⟩, .slice (some ⟨b, off, none⟩) l c] 27 (0, 0)) ∧ w'.heap[w.heap.size + 1]? = some (.cells #[.int .i64 0, .int .i64 0, .float .f64 0, .string ⟨#[]⟩, .slice none 0 0] 27 (0, 0)) ∧ w'.heap[w.heap.size + 1 + 1]? = some (.cells #[.int .i64 0, .int .i64 0, .float .f64 0, .string ⟨#[]⟩, .slice none 0 0] 27 (0, 0)) ∧ Below w.heap.size w w' ∧ w'.heap[gA]? = some (.cells #[.int .i64 0, .int .i64 0, .float .f64 0, .string ⟨#[]⟩, .slice none 0 0] 27 (0, 0)) ∧ w.heap.size + 1 + 1 < gA) ?phK3_16m (fun hK3_16 => ?_)
  case phK3_16m =>
    intro a' w' hst hHeld
    obtain ⟨gA, rfl, hR, hZ1, hZ2, hbd, hA, hgA⟩ := hst
    (try simp only [Act.put, List.setIfInBounds_toArray, List.set_cons_zero, List.set_cons_succ])
    refine wpAnyH_ready (rs := [15, 17]) (by kernel_rfl) (by simp) ?_
    refine AllReadyH.cons (o := ?_) ?ho15hK3_16m ?hst15hK3_16m (AllReadyH.cons (o := ?_) ?ho17hK3_16m ?hst17hK3_16m AllReadyH.nil)
    case ho15hK3_16m => (simp only [List.getElem?_toArray, List.getElem?_cons_zero, List.getElem?_cons_succ]; rfl)
    case ho17hK3_16m => (simp only [List.getElem?_toArray, List.getElem?_cons_zero, List.getElem?_cons_succ]; rfl)
    case hst15hK3_16m =>
      intro K hK
      go_simp
      go_at_call 20; refine (float_is HCG.out _).mono ?_; rintro e wT ⟨rfl, hbT⟩
      go_wp2_with fail
      refine hK.out _ _ ?hs15hK3_16m (fun hHeld => ?_)
      case hs15hK3_16m => exact ⟨row_cell (row_step hR hbT) 0, row_cell (row_step hR hbT) 1, row_cell (row_step hR hbT) 2, row_cell (row_step hR hbT) 3, row_cell (row_step hR hbT) 4, cell_keep (bel_step hbd hbT) Hd4.out, cell_keep (bel_step hbd hbT) Hd6.out⟩
      clear hK K
      (try simp only [Act.put, List.setIfInBounds_toArray, List.set_cons_zero, List.set_cons_succ])
      exact any_eq (by kernel_rfl) (by kernel_rfl) (hK3_15_16 _ _ ⟨gA, rfl, (row_step hR hbT), (row_step hZ1 hbT), (row_step hZ2 hbT), (bel_step hbd hbT), (row_step hA hbT), (hgA)⟩ hHeld)
    case hst17hK3_16m =>
      intro K hK
      go_simp
      refine hK.out _ _ ?hs17hK3_16m (fun hHeld => ?_)
      case hs17hK3_16m => exact ⟨row_cell (row_step hR (bel_alloc (Below.refl _ _) (.cells #[.int .i64 0, .int .i64 0, .float .f64 0, .string ⟨#[]⟩, .slice none 0 0] 27))) 0, row_cell (row_step hR (bel_alloc (Below.refl _ _) (.cells #[.int .i64 0, .int .i64 0, .float .f64 0, .string ⟨#[]⟩, .slice none 0 0] 27))) 1, row_cell (row_step hR (bel_alloc (Below.refl _ _) (.cells #[.int .i64 0, .int .i64 0, .float .f64 0, .string ⟨#[]⟩, .slice none 0 0] 27))) 2, row_cell (row_step hR (bel_alloc (Below.refl _ _) (.cells #[.int .i64 0, .int .i64 0, .float .f64 0, .string ⟨#[]⟩, .slice none 0 0] 27))) 3, row_cell (row_step hR (bel_alloc (Below.refl _ _) (.cells #[.int .i64 0, .int .i64 0, .float .f64 0, .string ⟨#[]⟩, .slice none 0 0] 27))) 4, cell_keep (bel_step hbd (bel_alloc (Below.refl _ _) (.cells #[.int .i64 0, .int .i64 0, .float .f64 0, .string ⟨#[]⟩, .slice none 0 0] 27))) Hd4.out, cell_keep (bel_step hbd (bel_alloc (Below.refl _ _) (.cells #[.int .i64 0, .int .i64 0, .float .f64 0, .string ⟨#[]⟩, .slice none 0 0] 27))) Hd6.out⟩
      clear hK K
      (try simp only [Act.put, List.setIfInBounds_toArray, List.set_cons_zero, List.set_cons_succ])
      exact any_eq (by kernel_rfl) (by kernel_rfl) (hK3_16_17 _ _ ⟨gA, _, rfl, (row_step hR (bel_alloc (Below.refl _ _) (.cells #[.int .i64 0, .int .i64 0, .float .f64 0, .string ⟨#[]⟩, .slice none 0 0] 27))), (row_step hZ1 (bel_alloc (Below.refl _ _) (.cells #[.int .i64 0, .int .i64 0, .float .f64 0, .string ⟨#[]⟩, .slice none 0 0] 27))), (row_step hZ2 (bel_alloc (Below.refl _ _) (.cells #[.int .i64 0, .int .i64 0, .float .f64 0, .string ⟨#[]⟩, .slice none 0 0] 27))), (bel_step hbd (bel_alloc (Below.refl _ _) (.cells #[.int .i64 0, .int .i64 0, .float .f64 0, .string ⟨#[]⟩, .slice none 0 0] 27))), (row_step hA (bel_alloc (Below.refl _ _) (.cells #[.int .i64 0, .int .i64 0, .float .f64 0, .string ⟨#[]⟩, .slice none 0 0] 27))), (hgA), row_alloc _ _ _, row_lt hZ2, Nat.ne_of_lt (row_lt hA)⟩ hHeld)
  refine any_have 4 [3, 17] (fun a a' w' => ∃ (gB : Nat), a' = ((a.put (some 191) (.agg #[.int .i64 2, .int .i64 0, .float .f64 (Flo.cop .sub FA G), .string ⟨#[]⟩, .slice none 0 0])).put (some 22) (.pointer (some ⟨gB, 0, none⟩))) ∧ w'.heap[w.heap.size]? = some (.cells #[.int .i64 4, .int .i64 0, .float .f64 0, .string ⟨#[]⟩, .slice (some ⟨b, off, none⟩) l c] 27 (0, 0)) ∧ w'.heap[w.heap.size + 1]? = some (.cells #[.int .i64 0, .int .i64 0, .float .f64 0, .string ⟨#[]⟩, .slice none 0 0] 27 (0, 0)) ∧ w'.heap[w.heap.size + 1 + 1]? = some (.cells #[.int .i64 0, .int .i64 0, .float .f64 0, .string ⟨#[]⟩, .slice none 0 0] 27 (0, 0)) ∧ Below w.heap.size w w' ∧ w'.heap[gB]? = some (.cells #[.int .i64 0, .int .i64 0, .float .f64 0, .string ⟨#[]⟩, .slice none 0 0] 27 (0, 0)) ∧ w.heap.size + 1 + 1 < gB) ?phK3_17m (fun hK3_17 => ?_)
  case phK3_17m =>
    intro a' w' hst hHeld
    obtain ⟨gB, rfl, hR, hZ1, hZ2, hbd, hB, hgB⟩ := hst
    (try simp only [Act.put, List.setIfInBounds_toArray, List.set_cons_zero, List.set_cons_succ])
    refine wpAnyH_ready (rs := [15, 16]) (by kernel_rfl) (by simp) ?_
    refine AllReadyH.cons (o := ?_) ?ho15hK3_17m ?hst15hK3_17m (AllReadyH.cons (o := ?_) ?ho16hK3_17m ?hst16hK3_17m AllReadyH.nil)
    case ho15hK3_17m => (simp only [List.getElem?_toArray, List.getElem?_cons_zero, List.getElem?_cons_succ]; rfl)
    case ho16hK3_17m => (simp only [List.getElem?_toArray, List.getElem?_cons_zero, List.getElem?_cons_succ]; rfl)
    case hst15hK3_17m =>
      intro K hK
      go_simp
      go_at_call 20; refine (float_is HCG.out _).mono ?_; rintro e wT ⟨rfl, hbT⟩
      go_wp2_with fail
      refine hK.out _ _ ?hs15hK3_17m (fun hHeld => ?_)
      case hs15hK3_17m => exact ⟨row_cell (row_step hR hbT) 0, row_cell (row_step hR hbT) 1, row_cell (row_step hR hbT) 2, row_cell (row_step hR hbT) 3, row_cell (row_step hR hbT) 4, cell_keep (bel_step hbd hbT) Hd4.out, cell_keep (bel_step hbd hbT) Hd6.out⟩
      clear hK K
      (try simp only [Act.put, List.setIfInBounds_toArray, List.set_cons_zero, List.set_cons_succ])
      exact any_eq (by kernel_rfl) (by kernel_rfl) (hK3_15_17 _ _ ⟨gB, rfl, (row_step hR hbT), (row_step hZ1 hbT), (row_step hZ2 hbT), (bel_step hbd hbT), (row_step hB hbT), (hgB)⟩ hHeld)
    case hst16hK3_17m =>
      intro K hK
      go_simp
      refine hK.out _ _ ?hs16hK3_17m (fun hHeld => ?_)
      case hs16hK3_17m => exact ⟨row_cell (row_step hR (bel_alloc (Below.refl _ _) (.cells #[.int .i64 0, .int .i64 0, .float .f64 0, .string ⟨#[]⟩, .slice none 0 0] 27))) 0, row_cell (row_step hR (bel_alloc (Below.refl _ _) (.cells #[.int .i64 0, .int .i64 0, .float .f64 0, .string ⟨#[]⟩, .slice none 0 0] 27))) 1, row_cell (row_step hR (bel_alloc (Below.refl _ _) (.cells #[.int .i64 0, .int .i64 0, .float .f64 0, .string ⟨#[]⟩, .slice none 0 0] 27))) 2, row_cell (row_step hR (bel_alloc (Below.refl _ _) (.cells #[.int .i64 0, .int .i64 0, .float .f64 0, .string ⟨#[]⟩, .slice none 0 0] 27))) 3, row_cell (row_step hR (bel_alloc (Below.refl _ _) (.cells #[.int .i64 0, .int .i64 0, .float .f64 0, .string ⟨#[]⟩, .slice none 0 0] 27))) 4, cell_keep (bel_step hbd (bel_alloc (Below.refl _ _) (.cells #[.int .i64 0, .int .i64 0, .float .f64 0, .string ⟨#[]⟩, .slice none 0 0] 27))) Hd4.out, cell_keep (bel_step hbd (bel_alloc (Below.refl _ _) (.cells #[.int .i64 0, .int .i64 0, .float .f64 0, .string ⟨#[]⟩, .slice none 0 0] 27))) Hd6.out⟩
      clear hK K
      (try simp only [Act.put, List.setIfInBounds_toArray, List.set_cons_zero, List.set_cons_succ])
      exact any_eq (by kernel_rfl) (by kernel_rfl) (hK3_16_17 _ _ ⟨_, gB, rfl, (row_step hR (bel_alloc (Below.refl _ _) (.cells #[.int .i64 0, .int .i64 0, .float .f64 0, .string ⟨#[]⟩, .slice none 0 0] 27))), (row_step hZ1 (bel_alloc (Below.refl _ _) (.cells #[.int .i64 0, .int .i64 0, .float .f64 0, .string ⟨#[]⟩, .slice none 0 0] 27))), (row_step hZ2 (bel_alloc (Below.refl _ _) (.cells #[.int .i64 0, .int .i64 0, .float .f64 0, .string ⟨#[]⟩, .slice none 0 0] 27))), (bel_step hbd (bel_alloc (Below.refl _ _) (.cells #[.int .i64 0, .int .i64 0, .float .f64 0, .string ⟨#[]⟩, .slice none 0 0] 27))), row_alloc _ _ _, row_lt hZ2, (row_step hB (bel_alloc (Below.refl _ _) (.cells #[.int .i64 0, .int .i64 0, .float .f64 0, .string ⟨#[]⟩, .slice none 0 0] 27))), (hgB), Nat.ne_of_gt (row_lt hB)⟩ hHeld)
  refine any_have 4 [16, 17] (fun a a' w' => ∃ (gA gB : Nat), a' = ((a.put (some 21) (.pointer (some ⟨gA, 0, none⟩))).put (some 22) (.pointer (some ⟨gB, 0, none⟩))) ∧ w'.heap[w.heap.size]? = some (.cells #[.int .i64 4, .int .i64 0, .float .f64 0, .string ⟨#[]⟩, .slice (some ⟨b, off, none⟩) l c] 27 (0, 0)) ∧ w'.heap[w.heap.size + 1]? = some (.cells #[.int .i64 0, .int .i64 0, .float .f64 0, .string ⟨#[]⟩, .slice none 0 0] 27 (0, 0)) ∧ w'.heap[w.heap.size + 1 + 1]? = some (.cells #[.int .i64 0, .int .i64 0, .float .f64 0, .string ⟨#[]⟩, .slice none 0 0] 27 (0, 0)) ∧ Below w.heap.size w w' ∧ w'.heap[gA]? = some (.cells #[.int .i64 0, .int .i64 0, .float .f64 0, .string ⟨#[]⟩, .slice none 0 0] 27 (0, 0)) ∧ w.heap.size + 1 + 1 < gA ∧ w'.heap[gB]? = some (.cells #[.int .i64 0, .int .i64 0, .float .f64 0, .string ⟨#[]⟩, .slice none 0 0] 27 (0, 0)) ∧ w.heap.size + 1 + 1 < gB ∧ gA ≠ gB) ?phK16_17m (fun hK16_17 => ?_)
  case phK16_17m =>
    intro a' w' hst hHeld
    obtain ⟨gA, gB, rfl, hR, hZ1, hZ2, hbd, hA, hgA, hB, hgB, hAB⟩ := hst
    (try simp only [Act.put, List.setIfInBounds_toArray, List.set_cons_zero, List.set_cons_succ])
    refine wpAnyH_ready (rs := [3]) (by kernel_rfl) (by simp) ?_
    refine AllReadyH.cons (o := ?_) ?ho3hK16_17m ?hst3hK16_17m AllReadyH.nil
    case ho3hK16_17m => (simp only [List.getElem?_toArray, List.getElem?_cons_zero, List.getElem?_cons_succ]; rfl)
    case hst3hK16_17m =>
      intro K hK
      go_simp
      go_at_call 20; refine (float_is HCS.out _).mono ?_; rintro e wT ⟨rfl, hbT⟩
      go_wp2_with fail
      refine hK.out _ _ ?hs3hK16_17m (fun hHeld => ?_)
      case hs3hK16_17m => exact ⟨row_cell (row_step hR hbT) 0, row_cell (row_step hR hbT) 1, row_cell (row_step hR hbT) 2, row_cell (row_step hR hbT) 3, row_cell (row_step hR hbT) 4, cell_keep (bel_step hbd hbT) Hd4.out, cell_keep (bel_step hbd hbT) Hd6.out⟩
      clear hK K
      (try simp only [Act.put, List.setIfInBounds_toArray, List.set_cons_zero, List.set_cons_succ])
      exact any_eq (by kernel_rfl) (by kernel_rfl) (hK3_16_17 _ _ ⟨gA, gB, rfl, (row_step hR hbT), (row_step hZ1 hbT), (row_step hZ2 hbT), (bel_step hbd hbT), (row_step hA hbT), (hgA), (row_step hB hbT), (hgB), (hAB)⟩ hHeld)
  refine any_have 5 [3] (fun a a' w' => a' = (a.put (some 191) (.agg #[.int .i64 2, .int .i64 0, .float .f64 (Flo.cop .sub FA G), .string ⟨#[]⟩, .slice none 0 0])) ∧ w'.heap[w.heap.size]? = some (.cells #[.int .i64 4, .int .i64 0, .float .f64 0, .string ⟨#[]⟩, .slice (some ⟨b, off, none⟩) l c] 27 (0, 0)) ∧ w'.heap[w.heap.size + 1]? = some (.cells #[.int .i64 0, .int .i64 0, .float .f64 0, .string ⟨#[]⟩, .slice none 0 0] 27 (0, 0)) ∧ w'.heap[w.heap.size + 1 + 1]? = some (.cells #[.int .i64 0, .int .i64 0, .float .f64 0, .string ⟨#[]⟩, .slice none 0 0] 27 (0, 0)) ∧ Below w.heap.size w w') ?phK3m (fun hK3 => ?_)
  case phK3m =>
    intro a' w' hst hHeld
    obtain ⟨rfl, hR, hZ1, hZ2, hbd⟩ := hst
    (try simp only [Act.put, List.setIfInBounds_toArray, List.set_cons_zero, List.set_cons_succ])
    refine wpAnyH_ready (rs := [15, 16, 17]) (by kernel_rfl) (by simp) ?_
    refine AllReadyH.cons (o := ?_) ?ho15hK3m ?hst15hK3m (AllReadyH.cons (o := ?_) ?ho16hK3m ?hst16hK3m (AllReadyH.cons (o := ?_) ?ho17hK3m ?hst17hK3m AllReadyH.nil))
    case ho15hK3m => (simp only [List.getElem?_toArray, List.getElem?_cons_zero, List.getElem?_cons_succ]; rfl)
    case ho16hK3m => (simp only [List.getElem?_toArray, List.getElem?_cons_zero, List.getElem?_cons_succ]; rfl)
    case ho17hK3m => (simp only [List.getElem?_toArray, List.getElem?_cons_zero, List.getElem?_cons_succ]; rfl)
    case hst15hK3m =>
      intro K hK
      go_simp
      go_at_call 20; refine (float_is HCG.out _).mono ?_; rintro e wT ⟨rfl, hbT⟩
      go_wp2_with fail
      refine hK.out _ _ ?hs15hK3m (fun hHeld => ?_)
      case hs15hK3m => exact ⟨row_cell (row_step hR hbT) 0, row_cell (row_step hR hbT) 1, row_cell (row_step hR hbT) 2, row_cell (row_step hR hbT) 3, row_cell (row_step hR hbT) 4, cell_keep (bel_step hbd hbT) Hd4.out, cell_keep (bel_step hbd hbT) Hd6.out⟩
      clear hK K
      (try simp only [Act.put, List.setIfInBounds_toArray, List.set_cons_zero, List.set_cons_succ])
      exact any_eq (by kernel_rfl) (by kernel_rfl) (hK3_15 _ _ ⟨rfl, (row_step hR hbT), (row_step hZ1 hbT), (row_step hZ2 hbT), (bel_step hbd hbT)⟩ hHeld)
    case hst16hK3m =>
      intro K hK
      go_simp
      refine hK.out _ _ ?hs16hK3m (fun hHeld => ?_)
      case hs16hK3m => exact ⟨row_cell (row_step hR (bel_alloc (Below.refl _ _) (.cells #[.int .i64 0, .int .i64 0, .float .f64 0, .string ⟨#[]⟩, .slice none 0 0] 27))) 0, row_cell (row_step hR (bel_alloc (Below.refl _ _) (.cells #[.int .i64 0, .int .i64 0, .float .f64 0, .string ⟨#[]⟩, .slice none 0 0] 27))) 1, row_cell (row_step hR (bel_alloc (Below.refl _ _) (.cells #[.int .i64 0, .int .i64 0, .float .f64 0, .string ⟨#[]⟩, .slice none 0 0] 27))) 2, row_cell (row_step hR (bel_alloc (Below.refl _ _) (.cells #[.int .i64 0, .int .i64 0, .float .f64 0, .string ⟨#[]⟩, .slice none 0 0] 27))) 3, row_cell (row_step hR (bel_alloc (Below.refl _ _) (.cells #[.int .i64 0, .int .i64 0, .float .f64 0, .string ⟨#[]⟩, .slice none 0 0] 27))) 4, cell_keep (bel_step hbd (bel_alloc (Below.refl _ _) (.cells #[.int .i64 0, .int .i64 0, .float .f64 0, .string ⟨#[]⟩, .slice none 0 0] 27))) Hd4.out, cell_keep (bel_step hbd (bel_alloc (Below.refl _ _) (.cells #[.int .i64 0, .int .i64 0, .float .f64 0, .string ⟨#[]⟩, .slice none 0 0] 27))) Hd6.out⟩
      clear hK K
      (try simp only [Act.put, List.setIfInBounds_toArray, List.set_cons_zero, List.set_cons_succ])
      exact any_eq (by kernel_rfl) (by kernel_rfl) (hK3_16 _ _ ⟨_, rfl, (row_step hR (bel_alloc (Below.refl _ _) (.cells #[.int .i64 0, .int .i64 0, .float .f64 0, .string ⟨#[]⟩, .slice none 0 0] 27))), (row_step hZ1 (bel_alloc (Below.refl _ _) (.cells #[.int .i64 0, .int .i64 0, .float .f64 0, .string ⟨#[]⟩, .slice none 0 0] 27))), (row_step hZ2 (bel_alloc (Below.refl _ _) (.cells #[.int .i64 0, .int .i64 0, .float .f64 0, .string ⟨#[]⟩, .slice none 0 0] 27))), (bel_step hbd (bel_alloc (Below.refl _ _) (.cells #[.int .i64 0, .int .i64 0, .float .f64 0, .string ⟨#[]⟩, .slice none 0 0] 27))), row_alloc _ _ _, row_lt hZ2⟩ hHeld)
    case hst17hK3m =>
      intro K hK
      go_simp
      refine hK.out _ _ ?hs17hK3m (fun hHeld => ?_)
      case hs17hK3m => exact ⟨row_cell (row_step hR (bel_alloc (Below.refl _ _) (.cells #[.int .i64 0, .int .i64 0, .float .f64 0, .string ⟨#[]⟩, .slice none 0 0] 27))) 0, row_cell (row_step hR (bel_alloc (Below.refl _ _) (.cells #[.int .i64 0, .int .i64 0, .float .f64 0, .string ⟨#[]⟩, .slice none 0 0] 27))) 1, row_cell (row_step hR (bel_alloc (Below.refl _ _) (.cells #[.int .i64 0, .int .i64 0, .float .f64 0, .string ⟨#[]⟩, .slice none 0 0] 27))) 2, row_cell (row_step hR (bel_alloc (Below.refl _ _) (.cells #[.int .i64 0, .int .i64 0, .float .f64 0, .string ⟨#[]⟩, .slice none 0 0] 27))) 3, row_cell (row_step hR (bel_alloc (Below.refl _ _) (.cells #[.int .i64 0, .int .i64 0, .float .f64 0, .string ⟨#[]⟩, .slice none 0 0] 27))) 4, cell_keep (bel_step hbd (bel_alloc (Below.refl _ _) (.cells #[.int .i64 0, .int .i64 0, .float .f64 0, .string ⟨#[]⟩, .slice none 0 0] 27))) Hd4.out, cell_keep (bel_step hbd (bel_alloc (Below.refl _ _) (.cells #[.int .i64 0, .int .i64 0, .float .f64 0, .string ⟨#[]⟩, .slice none 0 0] 27))) Hd6.out⟩
      clear hK K
      (try simp only [Act.put, List.setIfInBounds_toArray, List.set_cons_zero, List.set_cons_succ])
      exact any_eq (by kernel_rfl) (by kernel_rfl) (hK3_17 _ _ ⟨_, rfl, (row_step hR (bel_alloc (Below.refl _ _) (.cells #[.int .i64 0, .int .i64 0, .float .f64 0, .string ⟨#[]⟩, .slice none 0 0] 27))), (row_step hZ1 (bel_alloc (Below.refl _ _) (.cells #[.int .i64 0, .int .i64 0, .float .f64 0, .string ⟨#[]⟩, .slice none 0 0] 27))), (row_step hZ2 (bel_alloc (Below.refl _ _) (.cells #[.int .i64 0, .int .i64 0, .float .f64 0, .string ⟨#[]⟩, .slice none 0 0] 27))), (bel_step hbd (bel_alloc (Below.refl _ _) (.cells #[.int .i64 0, .int .i64 0, .float .f64 0, .string ⟨#[]⟩, .slice none 0 0] 27))), row_alloc _ _ _, row_lt hZ2⟩ hHeld)
  refine any_have 5 [16] (fun a a' w' => ∃ (gA : Nat), a' = (a.put (some 21) (.pointer (some ⟨gA, 0, none⟩))) ∧ w'.heap[w.heap.size]? = some (.cells #[.int .i64 4, .int .i64 0, .float .f64 0, .string ⟨#[]⟩, .slice (some ⟨b, off, none⟩) l c] 27 (0, 0)) ∧ w'.heap[w.heap.size + 1]? = some (.cells #[.int .i64 0, .int .i64 0, .float .f64 0, .string ⟨#[]⟩, .slice none 0 0] 27 (0, 0)) ∧ w'.heap[w.heap.size + 1 + 1]? = some (.cells #[.int .i64 0, .int .i64 0, .float .f64 0, .string ⟨#[]⟩, .slice none 0 0] 27 (0, 0)) ∧ Below w.heap.size w w' ∧ w'.heap[gA]? = some (.cells #[.int .i64 0, .int .i64 0, .float .f64 0, .string ⟨#[]⟩, .slice none 0 0] 27 (0, 0)) ∧ w.heap.size + 1 + 1 < gA) ?phK16m (fun hK16 => ?_)
  case phK16m =>
    intro a' w' hst hHeld
    obtain ⟨gA, rfl, hR, hZ1, hZ2, hbd, hA, hgA⟩ := hst
    (try simp only [Act.put, List.setIfInBounds_toArray, List.set_cons_zero, List.set_cons_succ])
    refine wpAnyH_ready (rs := [3, 17]) (by kernel_rfl) (by simp) ?_
    refine AllReadyH.cons (o := ?_) ?ho3hK16m ?hst3hK16m (AllReadyH.cons (o := ?_) ?ho17hK16m ?hst17hK16m AllReadyH.nil)
    case ho3hK16m => (simp only [List.getElem?_toArray, List.getElem?_cons_zero, List.getElem?_cons_succ]; rfl)
    case ho17hK16m => (simp only [List.getElem?_toArray, List.getElem?_cons_zero, List.getElem?_cons_succ]; rfl)
    case hst3hK16m =>
      intro K hK
      go_simp
      go_at_call 20; refine (float_is HCS.out _).mono ?_; rintro e wT ⟨rfl, hbT⟩
      go_wp2_with fail
      refine hK.out _ _ ?hs3hK16m (fun hHeld => ?_)
      case hs3hK16m => exact ⟨row_cell (row_step hR hbT) 0, row_cell (row_step hR hbT) 1, row_cell (row_step hR hbT) 2, row_cell (row_step hR hbT) 3, row_cell (row_step hR hbT) 4, cell_keep (bel_step hbd hbT) Hd4.out, cell_keep (bel_step hbd hbT) Hd6.out⟩
      clear hK K
      (try simp only [Act.put, List.setIfInBounds_toArray, List.set_cons_zero, List.set_cons_succ])
      exact any_eq (by kernel_rfl) (by kernel_rfl) (hK3_16 _ _ ⟨gA, rfl, (row_step hR hbT), (row_step hZ1 hbT), (row_step hZ2 hbT), (bel_step hbd hbT), (row_step hA hbT), (hgA)⟩ hHeld)
    case hst17hK16m =>
      intro K hK
      go_simp
      refine hK.out _ _ ?hs17hK16m (fun hHeld => ?_)
      case hs17hK16m => exact ⟨row_cell (row_step hR (bel_alloc (Below.refl _ _) (.cells #[.int .i64 0, .int .i64 0, .float .f64 0, .string ⟨#[]⟩, .slice none 0 0] 27))) 0, row_cell (row_step hR (bel_alloc (Below.refl _ _) (.cells #[.int .i64 0, .int .i64 0, .float .f64 0, .string ⟨#[]⟩, .slice none 0 0] 27))) 1, row_cell (row_step hR (bel_alloc (Below.refl _ _) (.cells #[.int .i64 0, .int .i64 0, .float .f64 0, .string ⟨#[]⟩, .slice none 0 0] 27))) 2, row_cell (row_step hR (bel_alloc (Below.refl _ _) (.cells #[.int .i64 0, .int .i64 0, .float .f64 0, .string ⟨#[]⟩, .slice none 0 0] 27))) 3, row_cell (row_step hR (bel_alloc (Below.refl _ _) (.cells #[.int .i64 0, .int .i64 0, .float .f64 0, .string ⟨#[]⟩, .slice none 0 0] 27))) 4, cell_keep (bel_step hbd (bel_alloc (Below.refl _ _) (.cells #[.int .i64 0, .int .i64 0, .float .f64 0, .string ⟨#[]⟩, .slice none 0 0] 27))) Hd4.out, cell_keep (bel_step hbd (bel_alloc (Below.refl _ _) (.cells #[.int .i64 0, .int .i64 0, .float .f64 0, .string ⟨#[]⟩, .slice none 0 0] 27))) Hd6.out⟩
      clear hK K
      (try simp only [Act.put, List.setIfInBounds_toArray, List.set_cons_zero, List.set_cons_succ])
      exact any_eq (by kernel_rfl) (by kernel_rfl) (hK16_17 _ _ ⟨gA, _, rfl, (row_step hR (bel_alloc (Below.refl _ _) (.cells #[.int .i64 0, .int .i64 0, .float .f64 0, .string ⟨#[]⟩, .slice none 0 0] 27))), (row_step hZ1 (bel_alloc (Below.refl _ _) (.cells #[.int .i64 0, .int .i64 0, .float .f64 0, .string ⟨#[]⟩, .slice none 0 0] 27))), (row_step hZ2 (bel_alloc (Below.refl _ _) (.cells #[.int .i64 0, .int .i64 0, .float .f64 0, .string ⟨#[]⟩, .slice none 0 0] 27))), (bel_step hbd (bel_alloc (Below.refl _ _) (.cells #[.int .i64 0, .int .i64 0, .float .f64 0, .string ⟨#[]⟩, .slice none 0 0] 27))), (row_step hA (bel_alloc (Below.refl _ _) (.cells #[.int .i64 0, .int .i64 0, .float .f64 0, .string ⟨#[]⟩, .slice none 0 0] 27))), (hgA), row_alloc _ _ _, row_lt hZ2, Nat.ne_of_lt (row_lt hA)⟩ hHeld)
  refine any_have 5 [17] (fun a a' w' => ∃ (gB : Nat), a' = (a.put (some 22) (.pointer (some ⟨gB, 0, none⟩))) ∧ w'.heap[w.heap.size]? = some (.cells #[.int .i64 4, .int .i64 0, .float .f64 0, .string ⟨#[]⟩, .slice (some ⟨b, off, none⟩) l c] 27 (0, 0)) ∧ w'.heap[w.heap.size + 1]? = some (.cells #[.int .i64 0, .int .i64 0, .float .f64 0, .string ⟨#[]⟩, .slice none 0 0] 27 (0, 0)) ∧ w'.heap[w.heap.size + 1 + 1]? = some (.cells #[.int .i64 0, .int .i64 0, .float .f64 0, .string ⟨#[]⟩, .slice none 0 0] 27 (0, 0)) ∧ Below w.heap.size w w' ∧ w'.heap[gB]? = some (.cells #[.int .i64 0, .int .i64 0, .float .f64 0, .string ⟨#[]⟩, .slice none 0 0] 27 (0, 0)) ∧ w.heap.size + 1 + 1 < gB) ?phK17m (fun hK17 => ?_)
  case phK17m =>
    intro a' w' hst hHeld
    obtain ⟨gB, rfl, hR, hZ1, hZ2, hbd, hB, hgB⟩ := hst
    (try simp only [Act.put, List.setIfInBounds_toArray, List.set_cons_zero, List.set_cons_succ])
    refine wpAnyH_ready (rs := [3, 16]) (by kernel_rfl) (by simp) ?_
    refine AllReadyH.cons (o := ?_) ?ho3hK17m ?hst3hK17m (AllReadyH.cons (o := ?_) ?ho16hK17m ?hst16hK17m AllReadyH.nil)
    case ho3hK17m => (simp only [List.getElem?_toArray, List.getElem?_cons_zero, List.getElem?_cons_succ]; rfl)
    case ho16hK17m => (simp only [List.getElem?_toArray, List.getElem?_cons_zero, List.getElem?_cons_succ]; rfl)
    case hst3hK17m =>
      intro K hK
      go_simp
      go_at_call 20; refine (float_is HCS.out _).mono ?_; rintro e wT ⟨rfl, hbT⟩
      go_wp2_with fail
      refine hK.out _ _ ?hs3hK17m (fun hHeld => ?_)
      case hs3hK17m => exact ⟨row_cell (row_step hR hbT) 0, row_cell (row_step hR hbT) 1, row_cell (row_step hR hbT) 2, row_cell (row_step hR hbT) 3, row_cell (row_step hR hbT) 4, cell_keep (bel_step hbd hbT) Hd4.out, cell_keep (bel_step hbd hbT) Hd6.out⟩
      clear hK K
      (try simp only [Act.put, List.setIfInBounds_toArray, List.set_cons_zero, List.set_cons_succ])
      exact any_eq (by kernel_rfl) (by kernel_rfl) (hK3_17 _ _ ⟨gB, rfl, (row_step hR hbT), (row_step hZ1 hbT), (row_step hZ2 hbT), (bel_step hbd hbT), (row_step hB hbT), (hgB)⟩ hHeld)
    case hst16hK17m =>
      intro K hK
      go_simp
      refine hK.out _ _ ?hs16hK17m (fun hHeld => ?_)
      case hs16hK17m => exact ⟨row_cell (row_step hR (bel_alloc (Below.refl _ _) (.cells #[.int .i64 0, .int .i64 0, .float .f64 0, .string ⟨#[]⟩, .slice none 0 0] 27))) 0, row_cell (row_step hR (bel_alloc (Below.refl _ _) (.cells #[.int .i64 0, .int .i64 0, .float .f64 0, .string ⟨#[]⟩, .slice none 0 0] 27))) 1, row_cell (row_step hR (bel_alloc (Below.refl _ _) (.cells #[.int .i64 0, .int .i64 0, .float .f64 0, .string ⟨#[]⟩, .slice none 0 0] 27))) 2, row_cell (row_step hR (bel_alloc (Below.refl _ _) (.cells #[.int .i64 0, .int .i64 0, .float .f64 0, .string ⟨#[]⟩, .slice none 0 0] 27))) 3, row_cell (row_step hR (bel_alloc (Below.refl _ _) (.cells #[.int .i64 0, .int .i64 0, .float .f64 0, .string ⟨#[]⟩, .slice none 0 0] 27))) 4, cell_keep (bel_step hbd (bel_alloc (Below.refl _ _) (.cells #[.int .i64 0, .int .i64 0, .float .f64 0, .string ⟨#[]⟩, .slice none 0 0] 27))) Hd4.out, cell_keep (bel_step hbd (bel_alloc (Below.refl _ _) (.cells #[.int .i64 0, .int .i64 0, .float .f64 0, .string ⟨#[]⟩, .slice none 0 0] 27))) Hd6.out⟩
      clear hK K
      (try simp only [Act.put, List.setIfInBounds_toArray, List.set_cons_zero, List.set_cons_succ])
      exact any_eq (by kernel_rfl) (by kernel_rfl) (hK16_17 _ _ ⟨_, gB, rfl, (row_step hR (bel_alloc (Below.refl _ _) (.cells #[.int .i64 0, .int .i64 0, .float .f64 0, .string ⟨#[]⟩, .slice none 0 0] 27))), (row_step hZ1 (bel_alloc (Below.refl _ _) (.cells #[.int .i64 0, .int .i64 0, .float .f64 0, .string ⟨#[]⟩, .slice none 0 0] 27))), (row_step hZ2 (bel_alloc (Below.refl _ _) (.cells #[.int .i64 0, .int .i64 0, .float .f64 0, .string ⟨#[]⟩, .slice none 0 0] 27))), (bel_step hbd (bel_alloc (Below.refl _ _) (.cells #[.int .i64 0, .int .i64 0, .float .f64 0, .string ⟨#[]⟩, .slice none 0 0] 27))), row_alloc _ _ _, row_lt hZ2, (row_step hB (bel_alloc (Below.refl _ _) (.cells #[.int .i64 0, .int .i64 0, .float .f64 0, .string ⟨#[]⟩, .slice none 0 0] 27))), (hgB), Nat.ne_of_gt (row_lt hB)⟩ hHeld)
  refine wpAnyH_ready (rs := [3, 16, 17]) (by kernel_rfl) (by simp) ?_
  refine AllReadyH.cons (o := ?_) ?ho3zm ?hst3zm (AllReadyH.cons (o := ?_) ?ho16zm ?hst16zm (AllReadyH.cons (o := ?_) ?ho17zm ?hst17zm AllReadyH.nil))
  case ho3zm => (simp only [List.getElem?_toArray, List.getElem?_cons_zero, List.getElem?_cons_succ]; rfl)
  case ho16zm => (simp only [List.getElem?_toArray, List.getElem?_cons_zero, List.getElem?_cons_succ]; rfl)
  case ho17zm => (simp only [List.getElem?_toArray, List.getElem?_cons_zero, List.getElem?_cons_succ]; rfl)
  case hst3zm =>
    intro K hK
    go_simp
    go_at_call 20; refine (float_is HCS.out _).mono ?_; rintro e wT ⟨rfl, hbT⟩
    go_wp2_with fail
    refine hK.out _ _ ?hs3zm (fun hHeld => ?_)
    case hs3zm => exact ⟨row_cell (row_step hR hbT) 0, row_cell (row_step hR hbT) 1, row_cell (row_step hR hbT) 2, row_cell (row_step hR hbT) 3, row_cell (row_step hR hbT) 4, cell_keep (bel_step hbd hbT) Hd4.out, cell_keep (bel_step hbd hbT) Hd6.out⟩
    clear hK K
    (try simp only [Act.put, List.setIfInBounds_toArray, List.set_cons_zero, List.set_cons_succ])
    exact any_eq (by kernel_rfl) (by kernel_rfl) (hK3 _ _ ⟨rfl, (row_step hR hbT), (row_step hZ1 hbT), (row_step hZ2 hbT), (bel_step hbd hbT)⟩ hHeld)
  case hst16zm =>
    intro K hK
    go_simp
    refine hK.out _ _ ?hs16zm (fun hHeld => ?_)
    case hs16zm => exact ⟨row_cell (row_step hR (bel_alloc (Below.refl _ _) (.cells #[.int .i64 0, .int .i64 0, .float .f64 0, .string ⟨#[]⟩, .slice none 0 0] 27))) 0, row_cell (row_step hR (bel_alloc (Below.refl _ _) (.cells #[.int .i64 0, .int .i64 0, .float .f64 0, .string ⟨#[]⟩, .slice none 0 0] 27))) 1, row_cell (row_step hR (bel_alloc (Below.refl _ _) (.cells #[.int .i64 0, .int .i64 0, .float .f64 0, .string ⟨#[]⟩, .slice none 0 0] 27))) 2, row_cell (row_step hR (bel_alloc (Below.refl _ _) (.cells #[.int .i64 0, .int .i64 0, .float .f64 0, .string ⟨#[]⟩, .slice none 0 0] 27))) 3, row_cell (row_step hR (bel_alloc (Below.refl _ _) (.cells #[.int .i64 0, .int .i64 0, .float .f64 0, .string ⟨#[]⟩, .slice none 0 0] 27))) 4, cell_keep (bel_step hbd (bel_alloc (Below.refl _ _) (.cells #[.int .i64 0, .int .i64 0, .float .f64 0, .string ⟨#[]⟩, .slice none 0 0] 27))) Hd4.out, cell_keep (bel_step hbd (bel_alloc (Below.refl _ _) (.cells #[.int .i64 0, .int .i64 0, .float .f64 0, .string ⟨#[]⟩, .slice none 0 0] 27))) Hd6.out⟩
    clear hK K
    (try simp only [Act.put, List.setIfInBounds_toArray, List.set_cons_zero, List.set_cons_succ])
    exact any_eq (by kernel_rfl) (by kernel_rfl) (hK16 _ _ ⟨_, rfl, (row_step hR (bel_alloc (Below.refl _ _) (.cells #[.int .i64 0, .int .i64 0, .float .f64 0, .string ⟨#[]⟩, .slice none 0 0] 27))), (row_step hZ1 (bel_alloc (Below.refl _ _) (.cells #[.int .i64 0, .int .i64 0, .float .f64 0, .string ⟨#[]⟩, .slice none 0 0] 27))), (row_step hZ2 (bel_alloc (Below.refl _ _) (.cells #[.int .i64 0, .int .i64 0, .float .f64 0, .string ⟨#[]⟩, .slice none 0 0] 27))), (bel_step hbd (bel_alloc (Below.refl _ _) (.cells #[.int .i64 0, .int .i64 0, .float .f64 0, .string ⟨#[]⟩, .slice none 0 0] 27))), row_alloc _ _ _, row_lt hZ2⟩ hHeld)
  case hst17zm =>
    intro K hK
    go_simp
    refine hK.out _ _ ?hs17zm (fun hHeld => ?_)
    case hs17zm => exact ⟨row_cell (row_step hR (bel_alloc (Below.refl _ _) (.cells #[.int .i64 0, .int .i64 0, .float .f64 0, .string ⟨#[]⟩, .slice none 0 0] 27))) 0, row_cell (row_step hR (bel_alloc (Below.refl _ _) (.cells #[.int .i64 0, .int .i64 0, .float .f64 0, .string ⟨#[]⟩, .slice none 0 0] 27))) 1, row_cell (row_step hR (bel_alloc (Below.refl _ _) (.cells #[.int .i64 0, .int .i64 0, .float .f64 0, .string ⟨#[]⟩, .slice none 0 0] 27))) 2, row_cell (row_step hR (bel_alloc (Below.refl _ _) (.cells #[.int .i64 0, .int .i64 0, .float .f64 0, .string ⟨#[]⟩, .slice none 0 0] 27))) 3, row_cell (row_step hR (bel_alloc (Below.refl _ _) (.cells #[.int .i64 0, .int .i64 0, .float .f64 0, .string ⟨#[]⟩, .slice none 0 0] 27))) 4, cell_keep (bel_step hbd (bel_alloc (Below.refl _ _) (.cells #[.int .i64 0, .int .i64 0, .float .f64 0, .string ⟨#[]⟩, .slice none 0 0] 27))) Hd4.out, cell_keep (bel_step hbd (bel_alloc (Below.refl _ _) (.cells #[.int .i64 0, .int .i64 0, .float .f64 0, .string ⟨#[]⟩, .slice none 0 0] 27))) Hd6.out⟩
    clear hK K
    (try simp only [Act.put, List.setIfInBounds_toArray, List.set_cons_zero, List.set_cons_succ])
    exact any_eq (by kernel_rfl) (by kernel_rfl) (hK17 _ _ ⟨_, rfl, (row_step hR (bel_alloc (Below.refl _ _) (.cells #[.int .i64 0, .int .i64 0, .float .f64 0, .string ⟨#[]⟩, .slice none 0 0] 27))), (row_step hZ1 (bel_alloc (Below.refl _ _) (.cells #[.int .i64 0, .int .i64 0, .float .f64 0, .string ⟨#[]⟩, .slice none 0 0] 27))), (row_step hZ2 (bel_alloc (Below.refl _ _) (.cells #[.int .i64 0, .int .i64 0, .float .f64 0, .string ⟨#[]⟩, .slice none 0 0] 27))), (bel_step hbd (bel_alloc (Below.refl _ _) (.cells #[.int .i64 0, .int .i64 0, .float .f64 0, .string ⟨#[]⟩, .slice none 0 0] 27))), row_alloc _ _ _, row_lt hZ2⟩ hHeld)
end Num
end Go.Proofs.YtpbfaffheigjcaaGreat
