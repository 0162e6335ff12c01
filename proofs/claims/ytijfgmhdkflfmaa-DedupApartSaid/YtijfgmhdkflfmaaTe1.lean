/-
  DedupApart: a reply out of a number, laid in a box (region 10).
-/
import Derived.Test.YtijfgmhdkflfmaaTd0
import Derived.Test.YtijfgmhdkflfmaaAH
namespace Go.Proofs.Ytijfgmhdkflfmaa
open Go.RowKit
namespace Num
open Ints
set_option linter.unusedSimpArgs false
set_option linter.unusedVariables false
theorem set9_cell (w : World) (g b o : Nat) (v : Value) (hne : b ≠ g) (h : w.cell? ⟨b, o, none⟩ = some v) (a0 a1 a2 a3 a4 a5 a6 a7 a8 : Value) : (set9 w g a0 a1 a2 a3 a4 a5 a6 a7 a8).cell? ⟨b, o, none⟩ = some v := by
  generalize hy : set9 w g a0 a1 a2 a3 a4 a5 a6 a7 a8 = y
  have e : y.heap[b]? = w.heap[b]? := by rw [← hy]; exact set9_other hne a0 a1 a2 a3 a4 a5 a6 a7 a8
  exact (World.cell?_of_block (a := ⟨b, o, none⟩) e).trans h
set_option maxRecDepth 1000000 in
set_option maxHeartbeats 4000000 in
theorem ap10_any (wr : World) (b off i l cc : Nat) (x d1 d2 q : Int) (c1 c2 c3 c4 c5 c6 c7 c9 c10 c11 c12 c13 c14 c15 c16 c17 c18 c19 c20 c21 c22 c23 c24 c25 c26 c27 c28 c29 c30 c31 c32 c33 c34 c35 c36 c37 c38 c39 c40 c41 c42 c43 c44 c45 c46 c47 c48 c49 c50 c51 c52 c53 c54 c55 c56 c57 c58 c59 c60 c61 c62 c63 c64 c65 c66 c67 c68 c69 c70 c71 c72 c73 c74 c75 c76 c77 c78 c79 c80 c81 c82 c83 c84 c85 c86 c87 c88 c89 c90 c91 c92 c93 c94 c95 c96 c97 c98 c99 c100 c101 c102 c103 c104 c105 c106 c107 c108 c109 c110 : Value) (Q : Exit → Act → World → Prop) (hP : ∀ p a (d : Option Tmp) v w, Q (.panic p) (Act.put a d v) w → Q (.panic p) a w) (hcell : wr.cell? ⟨b, off + i, none⟩ = some (.int .u16 x)) (hnb : b < wr.heap.size) (hi0 : (0 : Int) ≤ (i : Int)) (hi1 : (i : Int) < (l : Int)) (hd1 : x.tmod 4 = d1) (hqx : x.tdiv 4 = q) (hd2 : q.tmod 20 = d2) (hw1 : IntKind.u32.wrap d1 = d1) (hw2 : IntKind.u32.wrap d2 = d2) (hqw : IntKind.u16.wrap q = q)
    (hQ : ∀ (g : Nat) (wx : World), wx.heap[g]? = some (.cells #[.int .u32 d1, .int .u32 d2, .int .u16 0, .int .i64 0, .int .i64 1, .int .i64 (i : Int), .float .f64 0, .string ⟨#[]⟩, .slice none 0 0] 43 (0, 0)) ∧ Below wr.heap.size wr wx ∧ wr.heap.size ≤ g → Q .normal { tmps := #[(.slice (some ⟨b, off, none⟩) l cc), c1, c2, c3, c4, c5, c6, c7, (.int .i64 (i : Int)), (.pointer (some ⟨g, 0, none⟩)), c10, c11, c12, c13, c14, c15, c16, c17, c18, c19, c20, c21, c22, c23, c24, c25, c26, c27, c28, c29, c30, c31, c32, c33, c34, (.slice (some ⟨b, off, none⟩) l cc), (.int .i64 (i : Int)), (.pointer (some ⟨b, off + i, none⟩)), (.int .u16 x), (.int .u16 d1), (.int .u32 d1), (.slice (some ⟨b, off, none⟩) l cc), (.int .i64 (i : Int)), (.pointer (some ⟨b, off + i, none⟩)), (.int .u16 x), (.int .u16 q), (.int .u16 d2), (.int .u32 d2), (.agg #[.int .u32 d1, .int .u32 d2, .int .u16 0]), (.int .i64 (i : Int)), (.agg #[.int .i64 1, .int .i64 (i : Int), .float .f64 0, .string ⟨#[]⟩, .slice none 0 0]), (.agg #[.int .u32 d1, .int .u32 d2, .int .u16 0, .int .i64 0, .int .i64 1, .int .i64 (i : Int), .float .f64 0, .string ⟨#[]⟩, .slice none 0 0]), c52, c53, c54, c55, c56, c57, c58, c59, c60, c61, c62, c63, c64, c65, c66, c67, c68, c69, c70, c71, c72, c73, c74, c75, c76, c77, c78, c79, c80, c81, c82, c83, c84, c85, c86, c87, c88, c89, c90, c91, c92, c93, c94, c95, c96, c97, c98, c99, c100, c101, c102, c103, c104, c105, c106, c107, c108, c109, c110], defers := [] } wx) :
    Code.wp Try.prog ((Try.f5.body.bind (regBy 10)).getD .skip) Q { tmps := #[(.slice (some ⟨b, off, none⟩) l cc), c1, c2, c3, c4, c5, c6, c7, (.int .i64 (i : Int)), c9, c10, c11, c12, c13, c14, c15, c16, c17, c18, c19, c20, c21, c22, c23, c24, c25, c26, c27, c28, c29, c30, c31, c32, c33, c34, c35, c36, c37, c38, c39, c40, c41, c42, c43, c44, c45, c46, c47, c48, c49, c50, c51, c52, c53, c54, c55, c56, c57, c58, c59, c60, c61, c62, c63, c64, c65, c66, c67, c68, c69, c70, c71, c72, c73, c74, c75, c76, c77, c78, c79, c80, c81, c82, c83, c84, c85, c86, c87, c88, c89, c90, c91, c92, c93, c94, c95, c96, c97, c98, c99, c100, c101, c102, c103, c104, c105, c106, c107, c108, c109, c110], defers := [] } wr := by
  conv => arg 2; whnf
  refine wp_region_held_drew (S := (fun z => z.cell? ⟨b, off + i, none⟩ = some (.int .u16 x))) (by kernel_rfl) ?_ (fun hHeld => ?_)
  · exact hcell
  have HDW := Lib.hid (show (wr.drew.cell? ⟨b, off + i, none⟩ = some (.int .u16 x)) ∧ Below wr.heap.size wr wr.drew from ⟨hcell, Below.drew (Below.refl _ _)⟩)
  revert HDW hHeld
  generalize wr.drew = Wd
  intro hHeld HDW
  have hq := HDW.out.1
  have hbd := HDW.out.2
  refine wpAnyH_take (i := 0) (oi := ?_) (v := ?_) ?hiq0 (by kernel_rfl) ?hfq0 ?hrq0 ?hQq0 ?hyq0 (by assumption) ?restq0
  case hiq0 => (simp only [List.getElem?_toArray, List.getElem?_cons_zero, List.getElem?_cons_succ]; rfl)
  case hfq0 => kernel_rfl
  case hrq0 => kernel_rfl
  case hyq0 => (refine Or.inl ⟨by rfl, ?_⟩; intro wS hSw; (try dsimp only at hSw); go_simp; (try with_reducible rfl))
  case hQq0 => exact fun _ _ _ h => hP _ _ _ _ _ h
  (try simp only [Act.put, List.setIfInBounds_toArray, List.set_cons_zero, List.set_cons_succ])
  refine wpAnyH_take (i := 1) (oi := ?_) (v := ?_) ?hiq1 (by kernel_rfl) ?hfq1 ?hrq1 ?hQq1 ?hyq1 (by assumption) ?restq1
  case hiq1 => (simp only [List.getElem?_toArray, List.getElem?_cons_zero, List.getElem?_cons_succ]; rfl)
  case hfq1 => kernel_rfl
  case hrq1 => kernel_rfl
  case hyq1 => (refine Or.inl ⟨by rfl, ?_⟩; intro wS hSw; (try dsimp only at hSw); go_simp; (try with_reducible rfl))
  case hQq1 => exact fun _ _ _ h => hP _ _ _ _ _ h
  (try simp only [Act.put, List.setIfInBounds_toArray, List.set_cons_zero, List.set_cons_succ])
  refine wpAnyH_take (i := 2) (oi := ?_) (v := ?_) ?hiq2 (by kernel_rfl) ?hfq2 ?hrq2 ?hQq2 ?hyq2 (by assumption) ?restq2
  case hiq2 => (simp only [List.getElem?_toArray, List.getElem?_cons_zero, List.getElem?_cons_succ]; rfl)
  case hfq2 => kernel_rfl
  case hrq2 => kernel_rfl
  case hyq2 => (refine Or.inl ⟨by rfl, ?_⟩; intro wS hSw; (try dsimp only at hSw); go_simp; (try with_reducible rfl))
  case hQq2 => exact fun _ _ _ h => hP _ _ _ _ _ h
  (try simp only [Act.put, List.setIfInBounds_toArray, List.set_cons_zero, List.set_cons_succ])
  refine wpAnyH_take (i := 3) (oi := ?_) (v := ?_) ?hiq3 (by kernel_rfl) ?hfq3 ?hrq3 ?hQq3 ?hyq3 (by assumption) ?restq3
  case hiq3 => (simp only [List.getElem?_toArray, List.getElem?_cons_zero, List.getElem?_cons_succ]; rfl)
  case hfq3 => kernel_rfl
  case hrq3 => kernel_rfl
  case hyq3 => (refine Or.inl ⟨by rfl, ?_⟩; intro wS hSw; (try dsimp only at hSw); go_simp; (try with_reducible rfl))
  case hQq3 => exact fun _ _ _ h => hP _ _ _ _ _ h
  (try simp only [Act.put, List.setIfInBounds_toArray, List.set_cons_zero, List.set_cons_succ])
  refine wpAnyH_take (i := 4) (oi := ?_) (v := ?_) ?hiq4 (by kernel_rfl) ?hfq4 ?hrq4 ?hQq4 ?hyq4 (by assumption) ?restq4
  case hiq4 => (simp only [List.getElem?_toArray, List.getElem?_cons_zero, List.getElem?_cons_succ]; rfl)
  case hfq4 => kernel_rfl
  case hrq4 => kernel_rfl
  case hyq4 => (refine Or.inl ⟨by rfl, ?_⟩; intro wS hSw; (try dsimp only at hSw); go_simp; (try with_reducible rfl))
  case hQq4 => exact fun _ _ _ h => hP _ _ _ _ _ h
  (try simp only [Act.put, List.setIfInBounds_toArray, List.set_cons_zero, List.set_cons_succ])
  refine wpAnyH_take (i := 5) (oi := ?_) (v := ?_) ?hiq5 (by kernel_rfl) ?hfq5 ?hrq5 ?hQq5 ?hyq5 (by assumption) ?restq5
  case hiq5 => (simp only [List.getElem?_toArray, List.getElem?_cons_zero, List.getElem?_cons_succ]; rfl)
  case hfq5 => kernel_rfl
  case hrq5 => kernel_rfl
  case hyq5 => (refine Or.inl ⟨by rfl, ?_⟩; intro wS hSw; (try dsimp only at hSw); go_simp; (try with_reducible rfl))
  case hQq5 => exact fun _ _ _ h => hP _ _ _ _ _ h
  (try simp only [Act.put, List.setIfInBounds_toArray, List.set_cons_zero, List.set_cons_succ])
  refine wpAnyH_take (i := 6) (oi := ?_) (v := ?_) ?hiq6 (by kernel_rfl) ?hfq6 ?hrq6 ?hQq6 ?hyq6 (by assumption) ?restq6
  case hiq6 => (simp only [List.getElem?_toArray, List.getElem?_cons_zero, List.getElem?_cons_succ]; rfl)
  case hfq6 => kernel_rfl
  case hrq6 => kernel_rfl
  case hyq6 => (refine Or.inl ⟨by rfl, ?_⟩; intro wS hSw; (try dsimp only at hSw); go_simp; (try with_reducible rfl))
  case hQq6 => exact fun _ _ _ h => hP _ _ _ _ _ h
  (try simp only [Act.put, List.setIfInBounds_toArray, List.set_cons_zero, List.set_cons_succ])
  refine wpAnyH_take (i := 7) (oi := ?_) (v := ?_) ?hiq7 (by kernel_rfl) ?hfq7 ?hrq7 ?hQq7 ?hyq7 (by assumption) ?restq7
  case hiq7 => (simp only [List.getElem?_toArray, List.getElem?_cons_zero, List.getElem?_cons_succ]; rfl)
  case hfq7 => kernel_rfl
  case hrq7 => kernel_rfl
  case hyq7 => (refine Or.inl ⟨by rfl, ?_⟩; intro wS hSw; (try dsimp only at hSw); go_simp; (try with_reducible rfl))
  case hQq7 => exact fun _ _ _ h => hP _ _ _ _ _ h
  (try simp only [Act.put, List.setIfInBounds_toArray, List.set_cons_zero, List.set_cons_succ])
  refine wpAnyH_take (i := 8) (oi := ?_) (v := ?_) ?hiq8 (by kernel_rfl) ?hfq8 ?hrq8 ?hQq8 ?hyq8 (by assumption) ?restq8
  case hiq8 => (simp only [List.getElem?_toArray, List.getElem?_cons_zero, List.getElem?_cons_succ]; rfl)
  case hfq8 => kernel_rfl
  case hrq8 => kernel_rfl
  case hyq8 => (refine Or.inl ⟨by rfl, ?_⟩; intro wS hSw; (try dsimp only at hSw); go_simp; (try with_reducible rfl))
  case hQq8 => exact fun _ _ _ h => hP _ _ _ _ _ h
  (try simp only [Act.put, List.setIfInBounds_toArray, List.set_cons_zero, List.set_cons_succ])
  refine wpAnyH_take (i := 9) (oi := ?_) (v := ?_) ?hiq9 (by kernel_rfl) ?hfq9 ?hrq9 ?hQq9 ?hyq9 (by assumption) ?restq9
  case hiq9 => (simp only [List.getElem?_toArray, List.getElem?_cons_zero, List.getElem?_cons_succ]; rfl)
  case hfq9 => kernel_rfl
  case hrq9 => kernel_rfl
  case hyq9 => (refine Or.inl ⟨by rfl, ?_⟩; intro wS hSw; (try dsimp only at hSw); go_simp; (try with_reducible rfl))
  case hQq9 => exact fun _ _ _ h => hP _ _ _ _ _ h
  (try simp only [Act.put, List.setIfInBounds_toArray, List.set_cons_zero, List.set_cons_succ])
  refine wpAnyH_take (i := 10) (oi := ?_) (v := ?_) ?hiq10 (by kernel_rfl) ?hfq10 ?hrq10 ?hQq10 ?hyq10 (by assumption) ?restq10
  case hiq10 => (simp only [List.getElem?_toArray, List.getElem?_cons_zero, List.getElem?_cons_succ]; rfl)
  case hfq10 => kernel_rfl
  case hrq10 => kernel_rfl
  case hyq10 => (refine Or.inl ⟨by rfl, ?_⟩; intro wS hSw; (try dsimp only at hSw); go_simp; (try with_reducible rfl))
  case hQq10 => exact fun _ _ _ h => hP _ _ _ _ _ h
  (try simp only [Act.put, List.setIfInBounds_toArray, List.set_cons_zero, List.set_cons_succ])
  refine wpAnyH_take (i := 11) (oi := ?_) (v := ?_) ?hiq11 (by kernel_rfl) ?hfq11 ?hrq11 ?hQq11 ?hyq11 (by assumption) ?restq11
  case hiq11 => (simp only [List.getElem?_toArray, List.getElem?_cons_zero, List.getElem?_cons_succ]; rfl)
  case hfq11 => kernel_rfl
  case hrq11 => kernel_rfl
  case hyq11 => (refine Or.inl ⟨by rfl, ?_⟩; intro wS hSw; (try dsimp only at hSw); go_simp; (try with_reducible rfl))
  case hQq11 => exact fun _ _ _ h => hP _ _ _ _ _ h
  (try simp only [Act.put, List.setIfInBounds_toArray, List.set_cons_zero, List.set_cons_succ])
  refine wpAnyH_take (i := 12) (oi := ?_) (v := ?_) ?hiq12 (by kernel_rfl) ?hfq12 ?hrq12 ?hQq12 ?hyq12 (by assumption) ?restq12
  case hiq12 => (simp only [List.getElem?_toArray, List.getElem?_cons_zero, List.getElem?_cons_succ]; rfl)
  case hfq12 => kernel_rfl
  case hrq12 => kernel_rfl
  case hyq12 => (refine Or.inl ⟨by rfl, ?_⟩; intro wS hSw; (try dsimp only at hSw); go_simp; (try with_reducible rfl))
  case hQq12 => exact fun _ _ _ h => hP _ _ _ _ _ h
  (try simp only [Act.put, List.setIfInBounds_toArray, List.set_cons_zero, List.set_cons_succ])
  refine wpAnyH_take (i := 13) (oi := ?_) (v := ?_) ?hiq13 (by kernel_rfl) ?hfq13 ?hrq13 ?hQq13 ?hyq13 (by assumption) ?restq13
  case hiq13 => (simp only [List.getElem?_toArray, List.getElem?_cons_zero, List.getElem?_cons_succ]; rfl)
  case hfq13 => kernel_rfl
  case hrq13 => kernel_rfl
  case hyq13 => (refine Or.inl ⟨by rfl, ?_⟩; intro wS hSw; (try dsimp only at hSw); go_simp; (try with_reducible rfl))
  case hQq13 => exact fun _ _ _ h => hP _ _ _ _ _ h
  (try simp only [Act.put, List.setIfInBounds_toArray, List.set_cons_zero, List.set_cons_succ])
  refine wpAnyH_take (i := 14) (oi := ?_) (v := ?_) ?hiq14 (by kernel_rfl) ?hfq14 ?hrq14 ?hQq14 ?hyq14 (by assumption) ?restq14
  case hiq14 => (simp only [List.getElem?_toArray, List.getElem?_cons_zero, List.getElem?_cons_succ]; rfl)
  case hfq14 => kernel_rfl
  case hrq14 => kernel_rfl
  case hyq14 => (refine Or.inl ⟨by rfl, ?_⟩; intro wS hSw; (try dsimp only at hSw); go_simp; (try with_reducible rfl))
  case hQq14 => exact fun _ _ _ h => hP _ _ _ _ _ h
  (try simp only [Act.put, List.setIfInBounds_toArray, List.set_cons_zero, List.set_cons_succ])
  refine any_have 1 [15, 16, 17] (fun a a' w' => ∃ (g : Nat), a' = (((a.put (some 50) (.agg #[.int .i64 1, .int .i64 (i : Int), .float .f64 0, .string ⟨#[]⟩, .slice none 0 0])).put (some 51) (.agg #[.int .u32 d1, .int .u32 d2, .int .u16 0, .int .i64 0, .int .i64 1, .int .i64 (i : Int), .float .f64 0, .string ⟨#[]⟩, .slice none 0 0])).put (some 9) (.pointer (some ⟨g, 0, none⟩))) ∧ w'.cell? ⟨b, off + i, none⟩ = some (.int .u16 x) ∧ Below wr.heap.size wr w' ∧ w'.heap[g]? = some (.cells #[.int .u32 0, .int .u32 0, .int .u16 0, .int .i64 0, .int .i64 0, .int .i64 0, .float .f64 0, .string ⟨#[]⟩, .slice none 0 0] 43 (0, 0)) ∧ wr.heap.size ≤ g) ?phK15_17m (fun hK15_17 => ?_)
  case phK15_17m =>
    intro a' w' hst hHeld
    obtain ⟨g, rfl, hq, hbd, hV, hVg⟩ := hst
    (try simp only [Act.put, List.setIfInBounds_toArray, List.set_cons_zero, List.set_cons_succ])
    refine wpAnyH_ready (rs := [18]) (by kernel_rfl) (by simp) ?_
    refine AllReadyH.cons (o := ?_) ?ho18hK15_17m ?hst18hK15_17m AllReadyH.nil
    case ho18hK15_17m => (simp only [List.getElem?_toArray, List.getElem?_cons_zero, List.getElem?_cons_succ]; rfl)
    intro K hK
    have bb0 := row_cell hV 0; have bb1 := row_cell hV 1; have bb2 := row_cell hV 2; have bb3 := row_cell hV 3; have bb4 := row_cell hV 4; have bb5 := row_cell hV 5; have bb6 := row_cell hV 6; have bb7 := row_cell hV 7; have bb8 := row_cell hV 8; have bbf := row_frz hV; have bbl := row_lt hV
    simp only [List.getElem?_toArray, List.getElem?_cons_zero, List.getElem?_cons_succ] at bb0 bb1 bb2 bb3 bb4 bb5 bb6 bb7 bb8
    go_simp
    have hbg : b ≠ g := by omega
    have hq2 := set9_cell w' g b (off + i) _ hbg hq (.int .u32 d1) (.int .u32 d2) (.int .u16 0) (.int .i64 0) (.int .i64 1) (.int .i64 (i : Int)) (.float .f64 0) (.string ⟨#[]⟩) (.slice none 0 0)
    refine hK.out _ _ ?hs18hK15_17m (fun hHeld => ?_)
    case hs18hK15_17m => exact hq2
    clear hK K bb0 bb1 bb2 bb3 bb4 bb5 bb6 bb7 bb8 bbf bbl
    (try simp only [Act.put, List.setIfInBounds_toArray, List.set_cons_zero, List.set_cons_succ])
    refine wpAnyH_done (by kernel_rfl) ?_ _
    exact hQ g _ ⟨set9_at hV (.int .u32 d1) (.int .u32 d2) (.int .u16 0) (.int .i64 0) (.int .i64 1) (.int .i64 (i : Int)) (.float .f64 0) (.string ⟨#[]⟩) (.slice none 0 0), set9_below hbd hVg (.int .u32 d1) (.int .u32 d2) (.int .u16 0) (.int .i64 0) (.int .i64 1) (.int .i64 (i : Int)) (.float .f64 0) (.string ⟨#[]⟩) (.slice none 0 0), hVg⟩
  refine any_have 2 [15, 16] (fun a a' w' => a' = ((a.put (some 50) (.agg #[.int .i64 1, .int .i64 (i : Int), .float .f64 0, .string ⟨#[]⟩, .slice none 0 0])).put (some 51) (.agg #[.int .u32 d1, .int .u32 d2, .int .u16 0, .int .i64 0, .int .i64 1, .int .i64 (i : Int), .float .f64 0, .string ⟨#[]⟩, .slice none 0 0])) ∧ w'.cell? ⟨b, off + i, none⟩ = some (.int .u16 x) ∧ Below wr.heap.size wr w') ?phK15m (fun hK15 => ?_)
  case phK15m =>
    intro a' w' hst hHeld
    obtain ⟨rfl, hq, hbd⟩ := hst
    (try simp only [Act.put, List.setIfInBounds_toArray, List.set_cons_zero, List.set_cons_succ])
    refine wpAnyH_ready (rs := [17]) (by kernel_rfl) (by simp) ?_
    refine AllReadyH.cons (o := ?_) ?ho17hK15m ?hst17hK15m AllReadyH.nil
    case ho17hK15m => (simp only [List.getElem?_toArray, List.getElem?_cons_zero, List.getElem?_cons_succ]; rfl)
    case hst17hK15m =>
      intro K hK
      go_simp
      refine hK.out _ _ ?hs17hK15m (fun hHeld => ?_)
      case hs17hK15m => exact (cell_keep (bel_alloc (Below.refl _ _) (.cells #[.int .u32 0, .int .u32 0, .int .u16 0, .int .i64 0, .int .i64 0, .int .i64 0, .float .f64 0, .string ⟨#[]⟩, .slice none 0 0] 43)) hq)
      clear hK K
      (try simp only [Act.put, List.setIfInBounds_toArray, List.set_cons_zero, List.set_cons_succ])
      exact any_eq (by kernel_rfl) (by kernel_rfl) (hK15_17 _ _ ⟨_, rfl, (cell_keep (bel_alloc (Below.refl _ _) (.cells #[.int .u32 0, .int .u32 0, .int .u16 0, .int .i64 0, .int .i64 0, .int .i64 0, .float .f64 0, .string ⟨#[]⟩, .slice none 0 0] 43)) hq), (bel_step hbd (bel_alloc (Below.refl _ _) (.cells #[.int .u32 0, .int .u32 0, .int .u16 0, .int .i64 0, .int .i64 0, .int .i64 0, .float .f64 0, .string ⟨#[]⟩, .slice none 0 0] 43))), row_alloc _ _ _, hbd.size⟩ hHeld)
  refine any_have 3 [17] (fun a a' w' => ∃ (g : Nat), a' = (a.put (some 9) (.pointer (some ⟨g, 0, none⟩))) ∧ w'.cell? ⟨b, off + i, none⟩ = some (.int .u16 x) ∧ Below wr.heap.size wr w' ∧ w'.heap[g]? = some (.cells #[.int .u32 0, .int .u32 0, .int .u16 0, .int .i64 0, .int .i64 0, .int .i64 0, .float .f64 0, .string ⟨#[]⟩, .slice none 0 0] 43 (0, 0)) ∧ wr.heap.size ≤ g) ?phK17m (fun hK17 => ?_)
  case phK17m =>
    intro a' w' hst hHeld
    obtain ⟨g, rfl, hq, hbd, hV, hVg⟩ := hst
    (try simp only [Act.put, List.setIfInBounds_toArray, List.set_cons_zero, List.set_cons_succ])
    refine wpAnyH_ready (rs := [15]) (by kernel_rfl) (by simp) ?_
    refine AllReadyH.cons (o := ?_) ?ho15hK17m ?hst15hK17m AllReadyH.nil
    case ho15hK17m => (simp only [List.getElem?_toArray, List.getElem?_cons_zero, List.getElem?_cons_succ]; rfl)
    case hst15hK17m =>
      intro K hK
      go_simp
      go_at_call 18; refine (rint_any _ _).mono ?_; rintro e wT ⟨rfl, hbT⟩
      go_wp2_with fail
      refine hK.out _ _ ?hs15hK17m (fun hHeld => ?_)
      case hs15hK17m => exact (cell_keep hbT hq)
      clear hK K
      (try simp only [Act.put, List.setIfInBounds_toArray, List.set_cons_zero, List.set_cons_succ])
      refine wpAnyH_take (i := 16) (oi := ?_) (v := ?_) ?hin15hK17m16 (by kernel_rfl) ?hfn15hK17m16 ?hrn15hK17m16 ?hQn15hK17m16 ?hyn15hK17m16 (by assumption) ?restn15hK17m16
      case hin15hK17m16 => (simp only [List.getElem?_toArray, List.getElem?_cons_zero, List.getElem?_cons_succ]; rfl)
      case hfn15hK17m16 => kernel_rfl
      case hrn15hK17m16 => kernel_rfl
      case hyn15hK17m16 => (refine Or.inl ⟨by rfl, ?_⟩; intro wS hSw; (try dsimp only at hSw); go_simp; (try with_reducible rfl))
      case hQn15hK17m16 => exact fun _ _ _ h => hP _ _ _ _ _ h
      (try simp only [Act.put, List.setIfInBounds_toArray, List.set_cons_zero, List.set_cons_succ])
      exact any_eq (by kernel_rfl) (by kernel_rfl) (hK15_17 _ _ ⟨g, rfl, (cell_keep hbT hq), (bel_step hbd hbT), (row_step hV hbT), (hVg)⟩ hHeld)
  refine wpAnyH_ready (rs := [15, 17]) (by kernel_rfl) (by simp) ?_
  refine AllReadyH.cons (o := ?_) ?ho15zm ?hst15zm (AllReadyH.cons (o := ?_) ?ho17zm ?hst17zm AllReadyH.nil)
  case ho15zm => (simp only [List.getElem?_toArray, List.getElem?_cons_zero, List.getElem?_cons_succ]; rfl)
  case ho17zm => (simp only [List.getElem?_toArray, List.getElem?_cons_zero, List.getElem?_cons_succ]; rfl)
  case hst15zm =>
    intro K hK
    go_simp
    go_at_call 18; refine (rint_any _ _).mono ?_; rintro e wT ⟨rfl, hbT⟩
    go_wp2_with fail
    refine hK.out _ _ ?hs15zm (fun hHeld => ?_)
    case hs15zm => exact (cell_keep hbT hq)
    clear hK K
    (try simp only [Act.put, List.setIfInBounds_toArray, List.set_cons_zero, List.set_cons_succ])
    refine wpAnyH_take (i := 16) (oi := ?_) (v := ?_) ?hin15zm16 (by kernel_rfl) ?hfn15zm16 ?hrn15zm16 ?hQn15zm16 ?hyn15zm16 (by assumption) ?restn15zm16
    case hin15zm16 => (simp only [List.getElem?_toArray, List.getElem?_cons_zero, List.getElem?_cons_succ]; rfl)
    case hfn15zm16 => kernel_rfl
    case hrn15zm16 => kernel_rfl
    case hyn15zm16 => (refine Or.inl ⟨by rfl, ?_⟩; intro wS hSw; (try dsimp only at hSw); go_simp; (try with_reducible rfl))
    case hQn15zm16 => exact fun _ _ _ h => hP _ _ _ _ _ h
    (try simp only [Act.put, List.setIfInBounds_toArray, List.set_cons_zero, List.set_cons_succ])
    exact any_eq (by kernel_rfl) (by kernel_rfl) (hK15 _ _ ⟨rfl, (cell_keep hbT hq), (bel_step hbd hbT)⟩ hHeld)
  case hst17zm =>
    intro K hK
    go_simp
    refine hK.out _ _ ?hs17zm (fun hHeld => ?_)
    case hs17zm => exact (cell_keep (bel_alloc (Below.refl _ _) (.cells #[.int .u32 0, .int .u32 0, .int .u16 0, .int .i64 0, .int .i64 0, .int .i64 0, .float .f64 0, .string ⟨#[]⟩, .slice none 0 0] 43)) hq)
    clear hK K
    (try simp only [Act.put, List.setIfInBounds_toArray, List.set_cons_zero, List.set_cons_succ])
    exact any_eq (by kernel_rfl) (by kernel_rfl) (hK17 _ _ ⟨_, rfl, (cell_keep (bel_alloc (Below.refl _ _) (.cells #[.int .u32 0, .int .u32 0, .int .u16 0, .int .i64 0, .int .i64 0, .int .i64 0, .float .f64 0, .string ⟨#[]⟩, .slice none 0 0] 43)) hq), (bel_step hbd (bel_alloc (Below.refl _ _) (.cells #[.int .u32 0, .int .u32 0, .int .u16 0, .int .i64 0, .int .i64 0, .int .i64 0, .float .f64 0, .string ⟨#[]⟩, .slice none 0 0] 43))), row_alloc _ _ _, hbd.size⟩ hHeld)
end Num
end Go.Proofs.Ytijfgmhdkflfmaa
