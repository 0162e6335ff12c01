/-
  OrchSteps: a step of two names (region 9).
-/
import Derived.Test.YtpbfaffheigjcaaZD
import Derived.Test.YtpbfaffheigjcaaHM
import Derived.Test.YtpbfaffheigjcaaER
import Derived.Test.YtpbfaffheigjcaaSY
import Derived.Test.YtpbfaffheigjcaaVList
import Derived.Deep.RegionHeld3
import Derived.RegionTactic
import Derived.Deep.DeepCutAuto
namespace Go.Proofs.Ytpbfaffheigjcaa
open Go.RowKit
namespace Num
open Ints
set_option linter.unusedSimpArgs false
set_option linter.unusedVariables false
/-- A step's leaves. -/
def stepL (b : UInt8) (i j : Nat) : List Leaf := (3, 0, ⟨#[103, b]⟩) :: (3, 0, ⟨#[109, b]⟩) :: (List.range j).map fun t : Nat => ((1, (i : Int) + (t : Int), ⟨#[]⟩) : Leaf)
theorem stepL_succ (b : UInt8) (i j : Nat) : stepL b i (j + 1) = stepL b i j ++ [(1, (i : Int) + (j : Int), ⟨#[]⟩)] := by
  unfold stepL
  rw [List.range_succ, List.map_append]
  rfl
theorem stepL_tree (b : UInt8) (i j : Nat) : listT (stepL b i j) = stepV 0 (stepO b i j) := by
  unfold listT stepL stepV stepO intsO
  rw [List.map_cons, List.map_cons, List.map_map]
  rfl
theorem good_stepL (b : UInt8) (i j : Nat) (hi : i ≤ 1000) (hj : j ≤ 1000) : GoodF (stepL b i j) := fun x hx => by
  unfold stepL at hx
  rcases List.mem_cons.1 hx with rfl | hx
  · exact ⟨(show okI 3 by decide), (show okI 0 by decide), (show (2 : Nat) ≤ maxLen by unfold maxLen; decide)⟩
  · rcases List.mem_cons.1 hx with rfl | hx
    · exact ⟨(show okI 3 by decide), (show okI 0 by decide), (show (2 : Nat) ≤ maxLen by unfold maxLen; decide)⟩
    · obtain ⟨t, ht, rfl⟩ := List.mem_map.1 hx
      rw [List.mem_range] at ht
      exact ⟨(show okI 1 by decide), (show okI ((i : Int) + (t : Int)) by unfold okI; constructor <;> omega), (show (⟨#[]⟩ : ByteArray).size ≤ maxLen by unfold maxLen; decide)⟩
theorem conv2O {W : World} {g cap : Nat} {u u' : Int} {b b' : UInt8} (hu : (b.toNat : Int) = u) (hu' : (b'.toNat : Int) = u') (h : W.heap[g]? = some (.cells #[.int .u8 u, .int .u8 u'] 5 (0, 0))) : (convert 48 9 (.slice (some ⟨g, 0, none⟩) 2 cap)).run Try.prog W = .ok (.string ⟨#[b, b']⟩) W :=
  run_convert_bytes_back (P := Try.prog) W 48 9 5 ⟨g, 0, none⟩ cap [b, b'] Try.underlying48 Try.underlying5 Try.underlying9 (fun j hj => by
    have hj' : j = 0 ∨ j = 1 := by simp at hj; omega
    rcases hj' with rfl | rfl
    · rw [Addr.add_lit, Nat.zero_add, row_cell h 0]
      show some (Value.int .u8 u) = some (Value.int .u8 (b.toNat : Int))
      rw [hu]
    · rw [Addr.add_lit, Nat.zero_add, row_cell h 1]
      show some (Value.int .u8 u') = some (Value.int .u8 (b'.toNat : Int))
      rw [hu'])
/-- The region of that number in a code. -/
def regionBy (n : Nat) : Code → Option Code
  | .region i ops d => if i = n then some (.region i ops d) else none
  | .seq a b => match regionBy n a with
    | some c => some c
    | none => regionBy n b
  | .cond _ a b => match regionBy n a with
    | some c => some c
    | none => regionBy n b
  | .block _ c => regionBy n c
  | .loop c => regionBy n c
  | .scope c => regionBy n c
  | _ => none
set_option maxRecDepth 1000000 in
set_option maxHeartbeats 4000000 in
theorem os9_any (wr : World) (nb no i l c : Nat) (u : Int) (bx : UInt8) (c1 c2 c3 c4 c5 c7 c8 c9 c10 c11 c12 c13 c14 c15 c16 c17 c18 c19 c20 c21 c22 c23 c24 c25 c26 c27 c28 c29 c30 c31 c32 c33 c34 c35 c36 c37 c38 c39 c40 c41 c42 c43 c44 c45 c46 c47 c48 c49 c50 c51 c52 c53 c54 c55 c56 c57 c58 c59 c60 c61 c62 c63 c64 c65 c66 c67 c68 c69 c70 c71 c72 c73 c74 c75 c76 c77 c78 c79 c80 c81 c82 c83 c84 c85 c86 c87 c88 c89 c90 c91 c92 c93 c94 c95 c96 c97 c98 c99 c100 c101 c102 c103 c104 c105 c106 c107 c108 c109 c110 c111 c112 c113 c114 c115 c116 c117 c118 c119 c120 c121 c122 c123 c124 c125 c126 c127 c128 c129 c130 c131 c132 c133 c134 c135 c136 c137 c138 c139 c140 c141 c142 c143 c144 c145 : Value) (Q : Exit → Act → World → Prop) (hP : ∀ p a (d : Option Tmp) v w, Q (.panic p) (Act.put a d v) w → Q (.panic p) a w) (hcell : wr.cell? ⟨nb, no + i, none⟩ = some (.int .u8 u)) (hnb : nb < wr.heap.size) (HBX : Hid ((bx.toNat : Int) = u)) (hi0 : (0 : Int) ≤ (i : Int)) (hi1 : (i : Int) < (l : Int))
    (hQ : ∀ (gA gB gE gV : Nat) (wx : World), wx.heap[gV]? = some (.cells #[.int .i64 4, .int .i64 0, .float .f64 0, .string ⟨#[]⟩, .slice (some ⟨gE, 0, none⟩) 2 2] 27 (0, 0)) ∧ OwF wr wx (some ⟨gE, 0, none⟩) 2 2 (stepL bx i 0) ∧ gV ≠ gE ∧ Below wr.heap.size wr wx ∧ wr.heap.size ≤ gV → Q .normal { tmps := #[(.slice (some ⟨nb, no, none⟩) l c), c1, c2, c3, c4, c5, (.int .i64 i), (.pointer (some ⟨gV, 0, none⟩)), c8, c9, c10, c11, c12, c13, c14, c15, c16, c17, c18, c19, c20, c21, c22, c23, c24, c25, c26, c27, c28, (.slice (some ⟨nb, no, none⟩) l c), (.int .i64 i), (.pointer (some ⟨nb, no + i, none⟩)), (.int .u8 u), (.slice (some ⟨gA, 0, none⟩) 2 2), (.string ⟨#[103, bx]⟩), (.agg #[.int .i64 3, .int .i64 0, .float .f64 0, .string ⟨#[103, bx]⟩, .slice none 0 0]), (.slice (some ⟨nb, no, none⟩) l c), (.int .i64 i), (.pointer (some ⟨nb, no + i, none⟩)), (.int .u8 u), (.slice (some ⟨gB, 0, none⟩) 2 2), (.string ⟨#[109, bx]⟩), (.agg #[.int .i64 3, .int .i64 0, .float .f64 0, .string ⟨#[109, bx]⟩, .slice none 0 0]), (.slice (some ⟨gE, 0, none⟩) 2 2), (.agg #[.int .i64 4, .int .i64 0, .float .f64 0, .string ⟨#[]⟩, .slice (some ⟨gE, 0, none⟩) 2 2]), c45, c46, c47, c48, c49, c50, c51, c52, c53, c54, c55, c56, c57, c58, c59, c60, c61, c62, c63, c64, c65, c66, c67, c68, c69, c70, c71, c72, c73, c74, c75, c76, c77, c78, c79, c80, c81, c82, c83, c84, c85, c86, c87, c88, c89, c90, c91, c92, c93, c94, c95, c96, c97, c98, c99, c100, c101, c102, c103, c104, c105, c106, c107, c108, c109, c110, c111, c112, c113, c114, c115, c116, c117, c118, c119, c120, c121, c122, c123, c124, c125, c126, c127, c128, c129, c130, c131, c132, c133, c134, c135, c136, c137, c138, c139, c140, c141, c142, c143, c144, c145], defers := [] } wx) :
    Code.wp Try.prog ((Try.f5.body.bind (regionBy 9)).getD .skip) Q { tmps := #[(.slice (some ⟨nb, no, none⟩) l c), c1, c2, c3, c4, c5, (.int .i64 i), c7, c8, c9, c10, c11, c12, c13, c14, c15, c16, c17, c18, c19, c20, c21, c22, c23, c24, c25, c26, c27, c28, c29, c30, c31, c32, c33, c34, c35, c36, c37, c38, c39, c40, c41, c42, c43, c44, c45, c46, c47, c48, c49, c50, c51, c52, c53, c54, c55, c56, c57, c58, c59, c60, c61, c62, c63, c64, c65, c66, c67, c68, c69, c70, c71, c72, c73, c74, c75, c76, c77, c78, c79, c80, c81, c82, c83, c84, c85, c86, c87, c88, c89, c90, c91, c92, c93, c94, c95, c96, c97, c98, c99, c100, c101, c102, c103, c104, c105, c106, c107, c108, c109, c110, c111, c112, c113, c114, c115, c116, c117, c118, c119, c120, c121, c122, c123, c124, c125, c126, c127, c128, c129, c130, c131, c132, c133, c134, c135, c136, c137, c138, c139, c140, c141, c142, c143, c144, c145], defers := [] } wr := by
  conv => arg 2; whnf
  refine wp_region_held_drew (S := (fun z => z.cell? ⟨nb, no + i, none⟩ = some (.int .u8 u))) (by kernel_rfl) ?_ (fun hHeld => ?_)
  · exact hcell
  have HDW := Lib.hid (show (wr.drew.cell? ⟨nb, no + i, none⟩ = some (.int .u8 u)) ∧ Below wr.heap.size wr wr.drew from ⟨hcell, Below.drew (Below.refl _ _)⟩)
  revert HDW hHeld
  generalize wr.drew = Wd
  intro hHeld HDW
  have hq := HDW.out.1
  have hbd := HDW.out.2
  refine wpAnyH_take (i := 0) (oi := ?_) (v := ?_) ?hiq0 (by kernel_rfl) ?hfq0 ?hrq0 ?hQq0 ?hyq0 (by assumption) ?restq0
  case hiq0 => (simp only [List.getElem?_toArray, List.getElem?_cons_zero, List.getElem?_cons_succ]; rfl)
  case hfq0 => kernel_rfl
  case hrq0 => kernel_rfl
  case hyq0 => (refine Or.inl ⟨by rfl, ?_⟩; intro wS hSw; (try dsimp only at hSw); go_simp; (try with_reducible rfl))
  case hQq0 => exact fun _ _ _ h => hP _ _ _ _ _ h
  (try simp only [Act.put, List.setIfInBounds_toArray, List.set_cons_zero, List.set_cons_succ])
  refine wpAnyH_take (i := 1) (oi := ?_) (v := ?_) ?hiq1 (by kernel_rfl) ?hfq1 ?hrq1 ?hQq1 ?hyq1 (by assumption) ?restq1
  case hiq1 => (simp only [List.getElem?_toArray, List.getElem?_cons_zero, List.getElem?_cons_succ]; rfl)
  case hfq1 => kernel_rfl
  case hrq1 => kernel_rfl
  case hyq1 => (refine Or.inl ⟨by rfl, ?_⟩; intro wS hSw; (try dsimp only at hSw); go_simp; (try with_reducible rfl))
  case hQq1 => exact fun _ _ _ h => hP _ _ _ _ _ h
  (try simp only [Act.put, List.setIfInBounds_toArray, List.set_cons_zero, List.set_cons_succ])
  refine wpAnyH_take (i := 2) (oi := ?_) (v := ?_) ?hiq2 (by kernel_rfl) ?hfq2 ?hrq2 ?hQq2 ?hyq2 (by assumption) ?restq2
  case hiq2 => (simp only [List.getElem?_toArray, List.getElem?_cons_zero, List.getElem?_cons_succ]; rfl)
  case hfq2 => kernel_rfl
  case hrq2 => kernel_rfl
  case hyq2 => (refine Or.inl ⟨by rfl, ?_⟩; intro wS hSw; (try dsimp only at hSw); go_simp; (try with_reducible rfl))
  case hQq2 => exact fun _ _ _ h => hP _ _ _ _ _ h
  (try simp only [Act.put, List.setIfInBounds_toArray, List.set_cons_zero, List.set_cons_succ])
  refine wpAnyH_take (i := 3) (oi := ?_) (v := ?_) ?hiq3 (by kernel_rfl) ?hfq3 ?hrq3 ?hQq3 ?hyq3 (by assumption) ?restq3
  case hiq3 => (simp only [List.getElem?_toArray, List.getElem?_cons_zero, List.getElem?_cons_succ]; rfl)
  case hfq3 => kernel_rfl
  case hrq3 => kernel_rfl
  case hyq3 => (refine Or.inl ⟨by rfl, ?_⟩; intro wS hSw; (try dsimp only at hSw); go_simp; (try with_reducible rfl))
  case hQq3 => exact fun _ _ _ h => hP _ _ _ _ _ h
  (try simp only [Act.put, List.setIfInBounds_toArray, List.set_cons_zero, List.set_cons_succ])
  refine wpAnyH_take (i := 7) (oi := ?_) (v := ?_) ?hiq7 (by kernel_rfl) ?hfq7 ?hrq7 ?hQq7 ?hyq7 (by assumption) ?restq7
  case hiq7 => (simp only [List.getElem?_toArray, List.getElem?_cons_zero, List.getElem?_cons_succ]; rfl)
  case hfq7 => kernel_rfl
  case hrq7 => kernel_rfl
  case hyq7 => (refine Or.inl ⟨by rfl, ?_⟩; intro wS hSw; (try dsimp only at hSw); go_simp; (try with_reducible rfl))
  case hQq7 => exact fun _ _ _ h => hP _ _ _ _ _ h
  (try simp only [Act.put, List.setIfInBounds_toArray, List.set_cons_zero, List.set_cons_succ])
  refine wpAnyH_take (i := 8) (oi := ?_) (v := ?_) ?hiq8 (by kernel_rfl) ?hfq8 ?hrq8 ?hQq8 ?hyq8 (by assumption) ?restq8
  case hiq8 => (simp only [List.getElem?_toArray, List.getElem?_cons_zero, List.getElem?_cons_succ]; rfl)
  case hfq8 => kernel_rfl
  case hrq8 => kernel_rfl
  case hyq8 => (refine Or.inl ⟨by rfl, ?_⟩; intro wS hSw; (try dsimp only at hSw); go_simp; (try with_reducible rfl))
  case hQq8 => exact fun _ _ _ h => hP _ _ _ _ _ h
  (try simp only [Act.put, List.setIfInBounds_toArray, List.set_cons_zero, List.set_cons_succ])
  refine wpAnyH_take (i := 9) (oi := ?_) (v := ?_) ?hiq9 (by kernel_rfl) ?hfq9 ?hrq9 ?hQq9 ?hyq9 (by assumption) ?restq9
  case hiq9 => (simp only [List.getElem?_toArray, List.getElem?_cons_zero, List.getElem?_cons_succ]; rfl)
  case hfq9 => kernel_rfl
  case hrq9 => kernel_rfl
  case hyq9 => (refine Or.inl ⟨by rfl, ?_⟩; intro wS hSw; (try dsimp only at hSw); go_simp; (try with_reducible rfl))
  case hQq9 => exact fun _ _ _ h => hP _ _ _ _ _ h
  (try simp only [Act.put, List.setIfInBounds_toArray, List.set_cons_zero, List.set_cons_succ])
  refine wpAnyH_take (i := 10) (oi := ?_) (v := ?_) ?hiq10 (by kernel_rfl) ?hfq10 ?hrq10 ?hQq10 ?hyq10 (by assumption) ?restq10
  case hiq10 => (simp only [List.getElem?_toArray, List.getElem?_cons_zero, List.getElem?_cons_succ]; rfl)
  case hfq10 => kernel_rfl
  case hrq10 => kernel_rfl
  case hyq10 => (refine Or.inl ⟨by rfl, ?_⟩; intro wS hSw; (try dsimp only at hSw); go_simp; (try with_reducible rfl))
  case hQq10 => exact fun _ _ _ h => hP _ _ _ _ _ h
  (try simp only [Act.put, List.setIfInBounds_toArray, List.set_cons_zero, List.set_cons_succ])
  refine any_have 1 [4, 5, 6, 11, 12, 13, 14, 15, 16] (fun a a' w' => ∃ (gA gB gE gV : Nat), a' = (((((((((a.put (some 33) (.slice (some ⟨gA, 0, none⟩) 2 2)).put (some 34) (.string ⟨#[103, bx]⟩)).put (some 35) (.agg #[.int .i64 3, .int .i64 0, .float .f64 0, .string ⟨#[103, bx]⟩, .slice none 0 0])).put (some 40) (.slice (some ⟨gB, 0, none⟩) 2 2)).put (some 41) (.string ⟨#[109, bx]⟩)).put (some 42) (.agg #[.int .i64 3, .int .i64 0, .float .f64 0, .string ⟨#[109, bx]⟩, .slice none 0 0])).put (some 43) (.slice (some ⟨gE, 0, none⟩) 2 2)).put (some 44) (.agg #[.int .i64 4, .int .i64 0, .float .f64 0, .string ⟨#[]⟩, .slice (some ⟨gE, 0, none⟩) 2 2])).put (some 7) (.pointer (some ⟨gV, 0, none⟩))) ∧ w'.cell? ⟨nb, no + i, none⟩ = some (.int .u8 u) ∧ Below wr.heap.size wr w' ∧ OwF wr w' (some ⟨gE, 0, none⟩) 2 2 (stepL bx i 0) ∧ gE < w'.heap.size ∧ w'.heap[gV]? = some (.cells #[.int .i64 0, .int .i64 0, .float .f64 0, .string ⟨#[]⟩, .slice none 0 0] 27 (0, 0)) ∧ wr.heap.size ≤ gV ∧ gV ≠ gE) ?phK4_5_6_11_12_13_14_15_16m (fun hK4_5_6_11_12_13_14_15_16 => ?_)
  case phK4_5_6_11_12_13_14_15_16m =>
    intro a' w' hst hHeld
    obtain ⟨gA, gB, gE, gV, rfl, hq, hbd, hF, hEl, hV, hVg, hne⟩ := hst
    (try simp only [Act.put, List.setIfInBounds_toArray, List.set_cons_zero, List.set_cons_succ])
    refine wpAnyH_ready (rs := [17]) (by kernel_rfl) (by simp) ?_
    refine AllReadyH.cons (o := ?_) ?ho17hK4_5_6_11_12_13_14_15_16m ?hst17hK4_5_6_11_12_13_14_15_16m AllReadyH.nil
    case ho17hK4_5_6_11_12_13_14_15_16m => (simp only [List.getElem?_toArray, List.getElem?_cons_zero, List.getElem?_cons_succ]; rfl)
    intro K hK
    have bb0 := row_cell hV 0; have bb1 := row_cell hV 1; have bb2 := row_cell hV 2; have bb3 := row_cell hV 3; have bb4 := row_cell hV 4; have bbf := row_frz hV; have bbl := row_lt hV; go_simp
    have hq2 : (set5 w' gV 0 (.int .i64 4) (.int .i64 0) (.float .f64 0) (.string ⟨#[]⟩) (.slice (some ⟨gE, 0, none⟩) 2 2)).cell? ⟨nb, no + i, none⟩ = some (.int .u8 u) := (World.cell?_of_block (set5_other (g := gV) (o := 0) (show nb ≠ gV by omega))).trans hq
    refine hK.out _ _ ?hs17hK4_5_6_11_12_13_14_15_16m (fun hHeld => ?_)
    case hs17hK4_5_6_11_12_13_14_15_16m => exact hq2
    clear hK K bb0 bb1 bb2 bb3 bb4 bbf bbl
    (try simp only [Act.put, List.setIfInBounds_toArray, List.set_cons_zero, List.set_cons_succ])
    refine wpAnyH_done (by kernel_rfl) ?_ _
    exact hQ gA gB gE gV _ ⟨set5_row hV _ _ _ _ _, (of_store (of_store (of_store (of_store (of_store hF (fun e => by injection e with e; exact hne e.symm) _) (fun e => by injection e with e; exact hne e.symm) _) (fun e => by injection e with e; exact hne e.symm) _) (fun e => by injection e with e; exact hne e.symm) _) (fun e => by injection e with e; exact hne e.symm) _), hne, set5_below hbd hVg _ _ _ _ _, hVg⟩
  refine any_have 2 [4, 5, 6, 11, 12, 13, 14, 15] (fun a a' w' => ∃ (gA gB gE : Nat), a' = ((((((((a.put (some 33) (.slice (some ⟨gA, 0, none⟩) 2 2)).put (some 34) (.string ⟨#[103, bx]⟩)).put (some 35) (.agg #[.int .i64 3, .int .i64 0, .float .f64 0, .string ⟨#[103, bx]⟩, .slice none 0 0])).put (some 40) (.slice (some ⟨gB, 0, none⟩) 2 2)).put (some 41) (.string ⟨#[109, bx]⟩)).put (some 42) (.agg #[.int .i64 3, .int .i64 0, .float .f64 0, .string ⟨#[109, bx]⟩, .slice none 0 0])).put (some 43) (.slice (some ⟨gE, 0, none⟩) 2 2)).put (some 44) (.agg #[.int .i64 4, .int .i64 0, .float .f64 0, .string ⟨#[]⟩, .slice (some ⟨gE, 0, none⟩) 2 2])) ∧ w'.cell? ⟨nb, no + i, none⟩ = some (.int .u8 u) ∧ Below wr.heap.size wr w' ∧ OwF wr w' (some ⟨gE, 0, none⟩) 2 2 (stepL bx i 0) ∧ gE < w'.heap.size) ?phK4_5_6_11_12_13_14_15m (fun hK4_5_6_11_12_13_14_15 => ?_)
  case phK4_5_6_11_12_13_14_15m =>
    intro a' w' hst hHeld
    obtain ⟨gA, gB, gE, rfl, hq, hbd, hF, hEl⟩ := hst
    (try simp only [Act.put, List.setIfInBounds_toArray, List.set_cons_zero, List.set_cons_succ])
    refine wpAnyH_ready (rs := [16]) (by kernel_rfl) (by simp) ?_
    refine AllReadyH.cons (o := ?_) ?ho16hK4_5_6_11_12_13_14_15m ?hst16hK4_5_6_11_12_13_14_15m AllReadyH.nil
    case ho16hK4_5_6_11_12_13_14_15m => (simp only [List.getElem?_toArray, List.getElem?_cons_zero, List.getElem?_cons_succ]; rfl)
    case hst16hK4_5_6_11_12_13_14_15m =>
      intro K hK
      go_simp
      refine hK.out _ _ ?hs16hK4_5_6_11_12_13_14_15m (fun hHeld => ?_)
      case hs16hK4_5_6_11_12_13_14_15m => exact (cell_keep (bel_alloc (Below.refl _ _) (.cells #[.int .i64 0, .int .i64 0, .float .f64 0, .string ⟨#[]⟩, .slice none 0 0] 27)) hq)
      clear hK K
      (try simp only [Act.put, List.setIfInBounds_toArray, List.set_cons_zero, List.set_cons_succ])
      exact any_eq (by kernel_rfl) (by kernel_rfl) (hK4_5_6_11_12_13_14_15_16 _ _ ⟨gA, gB, gE, _, rfl, (cell_keep (bel_alloc (Below.refl _ _) (.cells #[.int .i64 0, .int .i64 0, .float .f64 0, .string ⟨#[]⟩, .slice none 0 0] 27)) hq), (bel_step hbd (bel_alloc (Below.refl _ _) (.cells #[.int .i64 0, .int .i64 0, .float .f64 0, .string ⟨#[]⟩, .slice none 0 0] 27))), (of_keep hF (bel_alloc (Below.refl _ _) (.cells #[.int .i64 0, .int .i64 0, .float .f64 0, .string ⟨#[]⟩, .slice none 0 0] 27))), (Nat.lt_of_lt_of_le hEl (Below.size (bel_alloc (Below.refl _ _) (.cells #[.int .i64 0, .int .i64 0, .float .f64 0, .string ⟨#[]⟩, .slice none 0 0] 27)))), row_alloc _ _ _, hbd.size, (by have h := hEl; omega)⟩ hHeld)
  refine any_have 2 [4, 5, 6, 11, 12, 13, 14, 16] (fun a a' w' => ∃ (gA gB gE gV : Nat), a' = ((((((((a.put (some 33) (.slice (some ⟨gA, 0, none⟩) 2 2)).put (some 34) (.string ⟨#[103, bx]⟩)).put (some 35) (.agg #[.int .i64 3, .int .i64 0, .float .f64 0, .string ⟨#[103, bx]⟩, .slice none 0 0])).put (some 40) (.slice (some ⟨gB, 0, none⟩) 2 2)).put (some 41) (.string ⟨#[109, bx]⟩)).put (some 42) (.agg #[.int .i64 3, .int .i64 0, .float .f64 0, .string ⟨#[109, bx]⟩, .slice none 0 0])).put (some 43) (.slice (some ⟨gE, 0, none⟩) 2 2)).put (some 7) (.pointer (some ⟨gV, 0, none⟩))) ∧ w'.cell? ⟨nb, no + i, none⟩ = some (.int .u8 u) ∧ Below wr.heap.size wr w' ∧ OwF wr w' (some ⟨gE, 0, none⟩) 2 2 (stepL bx i 0) ∧ gE < w'.heap.size ∧ w'.heap[gV]? = some (.cells #[.int .i64 0, .int .i64 0, .float .f64 0, .string ⟨#[]⟩, .slice none 0 0] 27 (0, 0)) ∧ wr.heap.size ≤ gV ∧ gV ≠ gE) ?phK4_5_6_11_12_13_14_16m (fun hK4_5_6_11_12_13_14_16 => ?_)
  case phK4_5_6_11_12_13_14_16m =>
    intro a' w' hst hHeld
    obtain ⟨gA, gB, gE, gV, rfl, hq, hbd, hF, hEl, hV, hVg, hne⟩ := hst
    (try simp only [Act.put, List.setIfInBounds_toArray, List.set_cons_zero, List.set_cons_succ])
    refine wpAnyH_ready (rs := [15]) (by kernel_rfl) (by simp) ?_
    refine AllReadyH.cons (o := ?_) ?ho15hK4_5_6_11_12_13_14_16m ?hst15hK4_5_6_11_12_13_14_16m AllReadyH.nil
    case ho15hK4_5_6_11_12_13_14_16m => (simp only [List.getElem?_toArray, List.getElem?_cons_zero, List.getElem?_cons_succ]; rfl)
    case hst15hK4_5_6_11_12_13_14_16m =>
      intro K hK
      go_simp
      go_at_call 7; refine (list_ref_any _ _ _ _).mono ?_; rintro e wT ⟨rfl, hbT⟩
      go_wp2_with fail
      refine hK.out _ _ ?hs15hK4_5_6_11_12_13_14_16m (fun hHeld => ?_)
      case hs15hK4_5_6_11_12_13_14_16m => exact (cell_keep hbT hq)
      clear hK K
      (try simp only [Act.put, List.setIfInBounds_toArray, List.set_cons_zero, List.set_cons_succ])
      exact any_eq (by kernel_rfl) (by kernel_rfl) (hK4_5_6_11_12_13_14_15_16 _ _ ⟨gA, gB, gE, gV, rfl, (cell_keep hbT hq), (bel_step hbd hbT), (of_keep hF hbT), (Nat.lt_of_lt_of_le hEl (Below.size hbT)), (row_step hV hbT), (hVg), (hne)⟩ hHeld)
  refine any_have 3 [4, 5, 6, 11, 12, 13, 14] (fun a a' w' => ∃ (gA gB gE : Nat), a' = (((((((a.put (some 33) (.slice (some ⟨gA, 0, none⟩) 2 2)).put (some 34) (.string ⟨#[103, bx]⟩)).put (some 35) (.agg #[.int .i64 3, .int .i64 0, .float .f64 0, .string ⟨#[103, bx]⟩, .slice none 0 0])).put (some 40) (.slice (some ⟨gB, 0, none⟩) 2 2)).put (some 41) (.string ⟨#[109, bx]⟩)).put (some 42) (.agg #[.int .i64 3, .int .i64 0, .float .f64 0, .string ⟨#[109, bx]⟩, .slice none 0 0])).put (some 43) (.slice (some ⟨gE, 0, none⟩) 2 2)) ∧ w'.cell? ⟨nb, no + i, none⟩ = some (.int .u8 u) ∧ Below wr.heap.size wr w' ∧ OwF wr w' (some ⟨gE, 0, none⟩) 2 2 (stepL bx i 0) ∧ gE < w'.heap.size) ?phK4_5_6_11_12_13_14m (fun hK4_5_6_11_12_13_14 => ?_)
  case phK4_5_6_11_12_13_14m =>
    intro a' w' hst hHeld
    obtain ⟨gA, gB, gE, rfl, hq, hbd, hF, hEl⟩ := hst
    (try simp only [Act.put, List.setIfInBounds_toArray, List.set_cons_zero, List.set_cons_succ])
    refine wpAnyH_ready (rs := [15, 16]) (by kernel_rfl) (by simp) ?_
    refine AllReadyH.cons (o := ?_) ?ho15hK4_5_6_11_12_13_14m ?hst15hK4_5_6_11_12_13_14m (AllReadyH.cons (o := ?_) ?ho16hK4_5_6_11_12_13_14m ?hst16hK4_5_6_11_12_13_14m AllReadyH.nil)
    case ho15hK4_5_6_11_12_13_14m => (simp only [List.getElem?_toArray, List.getElem?_cons_zero, List.getElem?_cons_succ]; rfl)
    case ho16hK4_5_6_11_12_13_14m => (simp only [List.getElem?_toArray, List.getElem?_cons_zero, List.getElem?_cons_succ]; rfl)
    case hst15hK4_5_6_11_12_13_14m =>
      intro K hK
      go_simp
      go_at_call 7; refine (list_ref_any _ _ _ _).mono ?_; rintro e wT ⟨rfl, hbT⟩
      go_wp2_with fail
      refine hK.out _ _ ?hs15hK4_5_6_11_12_13_14m (fun hHeld => ?_)
      case hs15hK4_5_6_11_12_13_14m => exact (cell_keep hbT hq)
      clear hK K
      (try simp only [Act.put, List.setIfInBounds_toArray, List.set_cons_zero, List.set_cons_succ])
      exact any_eq (by kernel_rfl) (by kernel_rfl) (hK4_5_6_11_12_13_14_15 _ _ ⟨gA, gB, gE, rfl, (cell_keep hbT hq), (bel_step hbd hbT), (of_keep hF hbT), (Nat.lt_of_lt_of_le hEl (Below.size hbT))⟩ hHeld)
    case hst16hK4_5_6_11_12_13_14m =>
      intro K hK
      go_simp
      refine hK.out _ _ ?hs16hK4_5_6_11_12_13_14m (fun hHeld => ?_)
      case hs16hK4_5_6_11_12_13_14m => exact (cell_keep (bel_alloc (Below.refl _ _) (.cells #[.int .i64 0, .int .i64 0, .float .f64 0, .string ⟨#[]⟩, .slice none 0 0] 27)) hq)
      clear hK K
      (try simp only [Act.put, List.setIfInBounds_toArray, List.set_cons_zero, List.set_cons_succ])
      exact any_eq (by kernel_rfl) (by kernel_rfl) (hK4_5_6_11_12_13_14_16 _ _ ⟨gA, gB, gE, _, rfl, (cell_keep (bel_alloc (Below.refl _ _) (.cells #[.int .i64 0, .int .i64 0, .float .f64 0, .string ⟨#[]⟩, .slice none 0 0] 27)) hq), (bel_step hbd (bel_alloc (Below.refl _ _) (.cells #[.int .i64 0, .int .i64 0, .float .f64 0, .string ⟨#[]⟩, .slice none 0 0] 27))), (of_keep hF (bel_alloc (Below.refl _ _) (.cells #[.int .i64 0, .int .i64 0, .float .f64 0, .string ⟨#[]⟩, .slice none 0 0] 27))), (Nat.lt_of_lt_of_le hEl (Below.size (bel_alloc (Below.refl _ _) (.cells #[.int .i64 0, .int .i64 0, .float .f64 0, .string ⟨#[]⟩, .slice none 0 0] 27)))), row_alloc _ _ _, hbd.size, (by have h := hEl; omega)⟩ hHeld)
  refine any_have 3 [4, 5, 6, 11, 12, 13, 16] (fun a a' w' => ∃ (gA gB gV : Nat), a' = (((((((a.put (some 33) (.slice (some ⟨gA, 0, none⟩) 2 2)).put (some 34) (.string ⟨#[103, bx]⟩)).put (some 35) (.agg #[.int .i64 3, .int .i64 0, .float .f64 0, .string ⟨#[103, bx]⟩, .slice none 0 0])).put (some 40) (.slice (some ⟨gB, 0, none⟩) 2 2)).put (some 41) (.string ⟨#[109, bx]⟩)).put (some 42) (.agg #[.int .i64 3, .int .i64 0, .float .f64 0, .string ⟨#[109, bx]⟩, .slice none 0 0])).put (some 7) (.pointer (some ⟨gV, 0, none⟩))) ∧ w'.cell? ⟨nb, no + i, none⟩ = some (.int .u8 u) ∧ Below wr.heap.size wr w' ∧ w'.heap[gV]? = some (.cells #[.int .i64 0, .int .i64 0, .float .f64 0, .string ⟨#[]⟩, .slice none 0 0] 27 (0, 0)) ∧ wr.heap.size ≤ gV) ?phK4_5_6_11_12_13_16m (fun hK4_5_6_11_12_13_16 => ?_)
  case phK4_5_6_11_12_13_16m =>
    intro a' w' hst hHeld
    obtain ⟨gA, gB, gV, rfl, hq, hbd, hV, hVg⟩ := hst
    (try simp only [Act.put, List.setIfInBounds_toArray, List.set_cons_zero, List.set_cons_succ])
    refine wpAnyH_ready (rs := [14]) (by kernel_rfl) (by simp) ?_
    refine AllReadyH.cons (o := ?_) ?ho14hK4_5_6_11_12_13_16m ?hst14hK4_5_6_11_12_13_16m AllReadyH.nil
    case ho14hK4_5_6_11_12_13_16m => (simp only [List.getElem?_toArray, List.getElem?_cons_zero, List.getElem?_cons_succ]; rfl)
    case hst14hK4_5_6_11_12_13_16m =>
      intro K hK
      go_simp
      refine hK.out _ _ ?hs14hK4_5_6_11_12_13_16m (fun hHeld => ?_)
      case hs14hK4_5_6_11_12_13_16m => exact (cell_keep (bel_alloc (Below.refl _ _) (.cells #[.int .i64 3, .int .i64 0, .float .f64 0, .string ⟨#[103, bx]⟩, .slice none 0 0, .int .i64 3, .int .i64 0, .float .f64 0, .string ⟨#[109, bx]⟩, .slice none 0 0] 27)) hq)
      clear hK K
      (try simp only [Act.put, List.setIfInBounds_toArray, List.set_cons_zero, List.set_cons_succ])
      exact any_eq (by kernel_rfl) (by kernel_rfl) (hK4_5_6_11_12_13_14_16 _ _ ⟨gA, gB, _, gV, rfl, (cell_keep (bel_alloc (Below.refl _ _) (.cells #[.int .i64 3, .int .i64 0, .float .f64 0, .string ⟨#[103, bx]⟩, .slice none 0 0, .int .i64 3, .int .i64 0, .float .f64 0, .string ⟨#[109, bx]⟩, .slice none 0 0] 27)) hq), (bel_step hbd (bel_alloc (Below.refl _ _) (.cells #[.int .i64 3, .int .i64 0, .float .f64 0, .string ⟨#[103, bx]⟩, .slice none 0 0, .int .i64 3, .int .i64 0, .float .f64 0, .string ⟨#[109, bx]⟩, .slice none 0 0] 27))), (of_lit wr _ (stepL bx i 0) _ rfl (by show (2 : Nat) ≤ 100; decide) hbd.size), (by rw [World.size_alloc]; exact Nat.lt_succ_self _), (row_step hV (bel_alloc (Below.refl _ _) (.cells #[.int .i64 3, .int .i64 0, .float .f64 0, .string ⟨#[103, bx]⟩, .slice none 0 0, .int .i64 3, .int .i64 0, .float .f64 0, .string ⟨#[109, bx]⟩, .slice none 0 0] 27))), (hVg), (by have h := row_lt hV; omega)⟩ hHeld)
  refine any_have 4 [4, 5, 6, 11, 12, 13] (fun a a' w' => ∃ (gA gB : Nat), a' = ((((((a.put (some 33) (.slice (some ⟨gA, 0, none⟩) 2 2)).put (some 34) (.string ⟨#[103, bx]⟩)).put (some 35) (.agg #[.int .i64 3, .int .i64 0, .float .f64 0, .string ⟨#[103, bx]⟩, .slice none 0 0])).put (some 40) (.slice (some ⟨gB, 0, none⟩) 2 2)).put (some 41) (.string ⟨#[109, bx]⟩)).put (some 42) (.agg #[.int .i64 3, .int .i64 0, .float .f64 0, .string ⟨#[109, bx]⟩, .slice none 0 0])) ∧ w'.cell? ⟨nb, no + i, none⟩ = some (.int .u8 u) ∧ Below wr.heap.size wr w') ?phK4_5_6_11_12_13m (fun hK4_5_6_11_12_13 => ?_)
  case phK4_5_6_11_12_13m =>
    intro a' w' hst hHeld
    obtain ⟨gA, gB, rfl, hq, hbd⟩ := hst
    (try simp only [Act.put, List.setIfInBounds_toArray, List.set_cons_zero, List.set_cons_succ])
    refine wpAnyH_ready (rs := [14, 16]) (by kernel_rfl) (by simp) ?_
    refine AllReadyH.cons (o := ?_) ?ho14hK4_5_6_11_12_13m ?hst14hK4_5_6_11_12_13m (AllReadyH.cons (o := ?_) ?ho16hK4_5_6_11_12_13m ?hst16hK4_5_6_11_12_13m AllReadyH.nil)
    case ho14hK4_5_6_11_12_13m => (simp only [List.getElem?_toArray, List.getElem?_cons_zero, List.getElem?_cons_succ]; rfl)
    case ho16hK4_5_6_11_12_13m => (simp only [List.getElem?_toArray, List.getElem?_cons_zero, List.getElem?_cons_succ]; rfl)
    case hst14hK4_5_6_11_12_13m =>
      intro K hK
      go_simp
      refine hK.out _ _ ?hs14hK4_5_6_11_12_13m (fun hHeld => ?_)
      case hs14hK4_5_6_11_12_13m => exact (cell_keep (bel_alloc (Below.refl _ _) (.cells #[.int .i64 3, .int .i64 0, .float .f64 0, .string ⟨#[103, bx]⟩, .slice none 0 0, .int .i64 3, .int .i64 0, .float .f64 0, .string ⟨#[109, bx]⟩, .slice none 0 0] 27)) hq)
      clear hK K
      (try simp only [Act.put, List.setIfInBounds_toArray, List.set_cons_zero, List.set_cons_succ])
      exact any_eq (by kernel_rfl) (by kernel_rfl) (hK4_5_6_11_12_13_14 _ _ ⟨gA, gB, _, rfl, (cell_keep (bel_alloc (Below.refl _ _) (.cells #[.int .i64 3, .int .i64 0, .float .f64 0, .string ⟨#[103, bx]⟩, .slice none 0 0, .int .i64 3, .int .i64 0, .float .f64 0, .string ⟨#[109, bx]⟩, .slice none 0 0] 27)) hq), (bel_step hbd (bel_alloc (Below.refl _ _) (.cells #[.int .i64 3, .int .i64 0, .float .f64 0, .string ⟨#[103, bx]⟩, .slice none 0 0, .int .i64 3, .int .i64 0, .float .f64 0, .string ⟨#[109, bx]⟩, .slice none 0 0] 27))), (of_lit wr _ (stepL bx i 0) _ rfl (by show (2 : Nat) ≤ 100; decide) hbd.size), (by rw [World.size_alloc]; exact Nat.lt_succ_self _)⟩ hHeld)
    case hst16hK4_5_6_11_12_13m =>
      intro K hK
      go_simp
      refine hK.out _ _ ?hs16hK4_5_6_11_12_13m (fun hHeld => ?_)
      case hs16hK4_5_6_11_12_13m => exact (cell_keep (bel_alloc (Below.refl _ _) (.cells #[.int .i64 0, .int .i64 0, .float .f64 0, .string ⟨#[]⟩, .slice none 0 0] 27)) hq)
      clear hK K
      (try simp only [Act.put, List.setIfInBounds_toArray, List.set_cons_zero, List.set_cons_succ])
      exact any_eq (by kernel_rfl) (by kernel_rfl) (hK4_5_6_11_12_13_16 _ _ ⟨gA, gB, _, rfl, (cell_keep (bel_alloc (Below.refl _ _) (.cells #[.int .i64 0, .int .i64 0, .float .f64 0, .string ⟨#[]⟩, .slice none 0 0] 27)) hq), (bel_step hbd (bel_alloc (Below.refl _ _) (.cells #[.int .i64 0, .int .i64 0, .float .f64 0, .string ⟨#[]⟩, .slice none 0 0] 27))), row_alloc _ _ _, hbd.size⟩ hHeld)
  refine any_have 4 [4, 5, 6, 11, 12, 16] (fun a a' w' => ∃ (gA gB gV : Nat), a' = ((((((a.put (some 33) (.slice (some ⟨gA, 0, none⟩) 2 2)).put (some 34) (.string ⟨#[103, bx]⟩)).put (some 35) (.agg #[.int .i64 3, .int .i64 0, .float .f64 0, .string ⟨#[103, bx]⟩, .slice none 0 0])).put (some 40) (.slice (some ⟨gB, 0, none⟩) 2 2)).put (some 41) (.string ⟨#[109, bx]⟩)).put (some 7) (.pointer (some ⟨gV, 0, none⟩))) ∧ w'.cell? ⟨nb, no + i, none⟩ = some (.int .u8 u) ∧ Below wr.heap.size wr w' ∧ w'.heap[gV]? = some (.cells #[.int .i64 0, .int .i64 0, .float .f64 0, .string ⟨#[]⟩, .slice none 0 0] 27 (0, 0)) ∧ wr.heap.size ≤ gV) ?phK4_5_6_11_12_16m (fun hK4_5_6_11_12_16 => ?_)
  case phK4_5_6_11_12_16m =>
    intro a' w' hst hHeld
    obtain ⟨gA, gB, gV, rfl, hq, hbd, hV, hVg⟩ := hst
    (try simp only [Act.put, List.setIfInBounds_toArray, List.set_cons_zero, List.set_cons_succ])
    refine wpAnyH_ready (rs := [13]) (by kernel_rfl) (by simp) ?_
    refine AllReadyH.cons (o := ?_) ?ho13hK4_5_6_11_12_16m ?hst13hK4_5_6_11_12_16m AllReadyH.nil
    case ho13hK4_5_6_11_12_16m => (simp only [List.getElem?_toArray, List.getElem?_cons_zero, List.getElem?_cons_succ]; rfl)
    case hst13hK4_5_6_11_12_16m =>
      intro K hK
      go_simp
      go_at_call 17; refine (text_ref_any _ _).mono ?_; rintro e wT ⟨rfl, hbT⟩
      go_wp2_with fail
      refine hK.out _ _ ?hs13hK4_5_6_11_12_16m (fun hHeld => ?_)
      case hs13hK4_5_6_11_12_16m => exact (cell_keep hbT hq)
      clear hK K
      (try simp only [Act.put, List.setIfInBounds_toArray, List.set_cons_zero, List.set_cons_succ])
      exact any_eq (by kernel_rfl) (by kernel_rfl) (hK4_5_6_11_12_13_16 _ _ ⟨gA, gB, gV, rfl, (cell_keep hbT hq), (bel_step hbd hbT), (row_step hV hbT), (hVg)⟩ hHeld)
  refine any_have 5 [4, 5, 6, 11, 12] (fun a a' w' => ∃ (gA gB : Nat), a' = (((((a.put (some 33) (.slice (some ⟨gA, 0, none⟩) 2 2)).put (some 34) (.string ⟨#[103, bx]⟩)).put (some 35) (.agg #[.int .i64 3, .int .i64 0, .float .f64 0, .string ⟨#[103, bx]⟩, .slice none 0 0])).put (some 40) (.slice (some ⟨gB, 0, none⟩) 2 2)).put (some 41) (.string ⟨#[109, bx]⟩)) ∧ w'.cell? ⟨nb, no + i, none⟩ = some (.int .u8 u) ∧ Below wr.heap.size wr w') ?phK4_5_6_11_12m (fun hK4_5_6_11_12 => ?_)
  case phK4_5_6_11_12m =>
    intro a' w' hst hHeld
    obtain ⟨gA, gB, rfl, hq, hbd⟩ := hst
    (try simp only [Act.put, List.setIfInBounds_toArray, List.set_cons_zero, List.set_cons_succ])
    refine wpAnyH_ready (rs := [13, 16]) (by kernel_rfl) (by simp) ?_
    refine AllReadyH.cons (o := ?_) ?ho13hK4_5_6_11_12m ?hst13hK4_5_6_11_12m (AllReadyH.cons (o := ?_) ?ho16hK4_5_6_11_12m ?hst16hK4_5_6_11_12m AllReadyH.nil)
    case ho13hK4_5_6_11_12m => (simp only [List.getElem?_toArray, List.getElem?_cons_zero, List.getElem?_cons_succ]; rfl)
    case ho16hK4_5_6_11_12m => (simp only [List.getElem?_toArray, List.getElem?_cons_zero, List.getElem?_cons_succ]; rfl)
    case hst13hK4_5_6_11_12m =>
      intro K hK
      go_simp
      go_at_call 17; refine (text_ref_any _ _).mono ?_; rintro e wT ⟨rfl, hbT⟩
      go_wp2_with fail
      refine hK.out _ _ ?hs13hK4_5_6_11_12m (fun hHeld => ?_)
      case hs13hK4_5_6_11_12m => exact (cell_keep hbT hq)
      clear hK K
      (try simp only [Act.put, List.setIfInBounds_toArray, List.set_cons_zero, List.set_cons_succ])
      exact any_eq (by kernel_rfl) (by kernel_rfl) (hK4_5_6_11_12_13 _ _ ⟨gA, gB, rfl, (cell_keep hbT hq), (bel_step hbd hbT)⟩ hHeld)
    case hst16hK4_5_6_11_12m =>
      intro K hK
      go_simp
      refine hK.out _ _ ?hs16hK4_5_6_11_12m (fun hHeld => ?_)
      case hs16hK4_5_6_11_12m => exact (cell_keep (bel_alloc (Below.refl _ _) (.cells #[.int .i64 0, .int .i64 0, .float .f64 0, .string ⟨#[]⟩, .slice none 0 0] 27)) hq)
      clear hK K
      (try simp only [Act.put, List.setIfInBounds_toArray, List.set_cons_zero, List.set_cons_succ])
      exact any_eq (by kernel_rfl) (by kernel_rfl) (hK4_5_6_11_12_16 _ _ ⟨gA, gB, _, rfl, (cell_keep (bel_alloc (Below.refl _ _) (.cells #[.int .i64 0, .int .i64 0, .float .f64 0, .string ⟨#[]⟩, .slice none 0 0] 27)) hq), (bel_step hbd (bel_alloc (Below.refl _ _) (.cells #[.int .i64 0, .int .i64 0, .float .f64 0, .string ⟨#[]⟩, .slice none 0 0] 27))), row_alloc _ _ _, hbd.size⟩ hHeld)
  refine any_have 5 [4, 5, 6, 11, 16] (fun a a' w' => ∃ (gA gB gV : Nat), a' = (((((a.put (some 33) (.slice (some ⟨gA, 0, none⟩) 2 2)).put (some 34) (.string ⟨#[103, bx]⟩)).put (some 35) (.agg #[.int .i64 3, .int .i64 0, .float .f64 0, .string ⟨#[103, bx]⟩, .slice none 0 0])).put (some 40) (.slice (some ⟨gB, 0, none⟩) 2 2)).put (some 7) (.pointer (some ⟨gV, 0, none⟩))) ∧ w'.cell? ⟨nb, no + i, none⟩ = some (.int .u8 u) ∧ Below wr.heap.size wr w' ∧ w'.heap[gB]? = some (.cells #[.int .u8 109, .int .u8 u] 5 (0, 0)) ∧ w'.heap[gV]? = some (.cells #[.int .i64 0, .int .i64 0, .float .f64 0, .string ⟨#[]⟩, .slice none 0 0] 27 (0, 0)) ∧ wr.heap.size ≤ gV) ?phK4_5_6_11_16m (fun hK4_5_6_11_16 => ?_)
  case phK4_5_6_11_16m =>
    intro a' w' hst hHeld
    obtain ⟨gA, gB, gV, rfl, hq, hbd, hB, hV, hVg⟩ := hst
    (try simp only [Act.put, List.setIfInBounds_toArray, List.set_cons_zero, List.set_cons_succ])
    refine wpAnyH_ready (rs := [12]) (by kernel_rfl) (by simp) ?_
    refine AllReadyH.cons (o := ?_) ?ho12hK4_5_6_11_16m ?hst12hK4_5_6_11_16m AllReadyH.nil
    case ho12hK4_5_6_11_16m => (simp only [List.getElem?_toArray, List.getElem?_cons_zero, List.getElem?_cons_succ]; rfl)
    case hst12hK4_5_6_11_16m =>
      intro K hK
      have hcv := conv2O (cap := 2) (b := 109) (b' := bx) rfl HBX.out hB; go_simp
      clear hcv
      go_wp2_with fail
      refine hK.out _ _ ?hs12hK4_5_6_11_16m (fun hHeld => ?_)
      case hs12hK4_5_6_11_16m => exact hq
      clear hK K
      (try simp only [Act.put, List.setIfInBounds_toArray, List.set_cons_zero, List.set_cons_succ])
      exact any_eq (by kernel_rfl) (by kernel_rfl) (hK4_5_6_11_12_16 _ _ ⟨gA, gB, gV, rfl, hq, hbd, hV, hVg⟩ hHeld)
  refine any_have 5 [4, 5, 11, 12, 16] (fun a a' w' => ∃ (gA gB gV : Nat), a' = (((((a.put (some 33) (.slice (some ⟨gA, 0, none⟩) 2 2)).put (some 34) (.string ⟨#[103, bx]⟩)).put (some 40) (.slice (some ⟨gB, 0, none⟩) 2 2)).put (some 41) (.string ⟨#[109, bx]⟩)).put (some 7) (.pointer (some ⟨gV, 0, none⟩))) ∧ w'.cell? ⟨nb, no + i, none⟩ = some (.int .u8 u) ∧ Below wr.heap.size wr w' ∧ w'.heap[gV]? = some (.cells #[.int .i64 0, .int .i64 0, .float .f64 0, .string ⟨#[]⟩, .slice none 0 0] 27 (0, 0)) ∧ wr.heap.size ≤ gV) ?phK4_5_11_12_16m (fun hK4_5_11_12_16 => ?_)
  case phK4_5_11_12_16m =>
    intro a' w' hst hHeld
    obtain ⟨gA, gB, gV, rfl, hq, hbd, hV, hVg⟩ := hst
    (try simp only [Act.put, List.setIfInBounds_toArray, List.set_cons_zero, List.set_cons_succ])
    refine wpAnyH_ready (rs := [6]) (by kernel_rfl) (by simp) ?_
    refine AllReadyH.cons (o := ?_) ?ho6hK4_5_11_12_16m ?hst6hK4_5_11_12_16m AllReadyH.nil
    case ho6hK4_5_11_12_16m => (simp only [List.getElem?_toArray, List.getElem?_cons_zero, List.getElem?_cons_succ]; rfl)
    case hst6hK4_5_11_12_16m =>
      intro K hK
      go_simp
      go_at_call 17; refine (text_ref_any _ _).mono ?_; rintro e wT ⟨rfl, hbT⟩
      go_wp2_with fail
      refine hK.out _ _ ?hs6hK4_5_11_12_16m (fun hHeld => ?_)
      case hs6hK4_5_11_12_16m => exact (cell_keep hbT hq)
      clear hK K
      (try simp only [Act.put, List.setIfInBounds_toArray, List.set_cons_zero, List.set_cons_succ])
      exact any_eq (by kernel_rfl) (by kernel_rfl) (hK4_5_6_11_12_16 _ _ ⟨gA, gB, gV, rfl, (cell_keep hbT hq), (bel_step hbd hbT), (row_step hV hbT), (hVg)⟩ hHeld)
  refine any_have 6 [4, 5, 6, 11] (fun a a' w' => ∃ (gA gB : Nat), a' = ((((a.put (some 33) (.slice (some ⟨gA, 0, none⟩) 2 2)).put (some 34) (.string ⟨#[103, bx]⟩)).put (some 35) (.agg #[.int .i64 3, .int .i64 0, .float .f64 0, .string ⟨#[103, bx]⟩, .slice none 0 0])).put (some 40) (.slice (some ⟨gB, 0, none⟩) 2 2)) ∧ w'.cell? ⟨nb, no + i, none⟩ = some (.int .u8 u) ∧ Below wr.heap.size wr w' ∧ w'.heap[gB]? = some (.cells #[.int .u8 109, .int .u8 u] 5 (0, 0))) ?phK4_5_6_11m (fun hK4_5_6_11 => ?_)
  case phK4_5_6_11m =>
    intro a' w' hst hHeld
    obtain ⟨gA, gB, rfl, hq, hbd, hB⟩ := hst
    (try simp only [Act.put, List.setIfInBounds_toArray, List.set_cons_zero, List.set_cons_succ])
    refine wpAnyH_ready (rs := [12, 16]) (by kernel_rfl) (by simp) ?_
    refine AllReadyH.cons (o := ?_) ?ho12hK4_5_6_11m ?hst12hK4_5_6_11m (AllReadyH.cons (o := ?_) ?ho16hK4_5_6_11m ?hst16hK4_5_6_11m AllReadyH.nil)
    case ho12hK4_5_6_11m => (simp only [List.getElem?_toArray, List.getElem?_cons_zero, List.getElem?_cons_succ]; rfl)
    case ho16hK4_5_6_11m => (simp only [List.getElem?_toArray, List.getElem?_cons_zero, List.getElem?_cons_succ]; rfl)
    case hst12hK4_5_6_11m =>
      intro K hK
      have hcv := conv2O (cap := 2) (b := 109) (b' := bx) rfl HBX.out hB; go_simp
      clear hcv
      go_wp2_with fail
      refine hK.out _ _ ?hs12hK4_5_6_11m (fun hHeld => ?_)
      case hs12hK4_5_6_11m => exact hq
      clear hK K
      (try simp only [Act.put, List.setIfInBounds_toArray, List.set_cons_zero, List.set_cons_succ])
      exact any_eq (by kernel_rfl) (by kernel_rfl) (hK4_5_6_11_12 _ _ ⟨gA, gB, rfl, hq, hbd⟩ hHeld)
    case hst16hK4_5_6_11m =>
      intro K hK
      go_simp
      refine hK.out _ _ ?hs16hK4_5_6_11m (fun hHeld => ?_)
      case hs16hK4_5_6_11m => exact (cell_keep (bel_alloc (Below.refl _ _) (.cells #[.int .i64 0, .int .i64 0, .float .f64 0, .string ⟨#[]⟩, .slice none 0 0] 27)) hq)
      clear hK K
      (try simp only [Act.put, List.setIfInBounds_toArray, List.set_cons_zero, List.set_cons_succ])
      exact any_eq (by kernel_rfl) (by kernel_rfl) (hK4_5_6_11_16 _ _ ⟨gA, gB, _, rfl, (cell_keep (bel_alloc (Below.refl _ _) (.cells #[.int .i64 0, .int .i64 0, .float .f64 0, .string ⟨#[]⟩, .slice none 0 0] 27)) hq), (bel_step hbd (bel_alloc (Below.refl _ _) (.cells #[.int .i64 0, .int .i64 0, .float .f64 0, .string ⟨#[]⟩, .slice none 0 0] 27))), (row_step hB (bel_alloc (Below.refl _ _) (.cells #[.int .i64 0, .int .i64 0, .float .f64 0, .string ⟨#[]⟩, .slice none 0 0] 27))), row_alloc _ _ _, hbd.size⟩ hHeld)
  refine any_have 6 [4, 5, 6, 16] (fun a a' w' => ∃ (gA gV : Nat), a' = ((((a.put (some 33) (.slice (some ⟨gA, 0, none⟩) 2 2)).put (some 34) (.string ⟨#[103, bx]⟩)).put (some 35) (.agg #[.int .i64 3, .int .i64 0, .float .f64 0, .string ⟨#[103, bx]⟩, .slice none 0 0])).put (some 7) (.pointer (some ⟨gV, 0, none⟩))) ∧ w'.cell? ⟨nb, no + i, none⟩ = some (.int .u8 u) ∧ Below wr.heap.size wr w' ∧ w'.heap[gV]? = some (.cells #[.int .i64 0, .int .i64 0, .float .f64 0, .string ⟨#[]⟩, .slice none 0 0] 27 (0, 0)) ∧ wr.heap.size ≤ gV) ?phK4_5_6_16m (fun hK4_5_6_16 => ?_)
  case phK4_5_6_16m =>
    intro a' w' hst hHeld
    obtain ⟨gA, gV, rfl, hq, hbd, hV, hVg⟩ := hst
    (try simp only [Act.put, List.setIfInBounds_toArray, List.set_cons_zero, List.set_cons_succ])
    refine wpAnyH_ready (rs := [11]) (by kernel_rfl) (by simp) ?_
    refine AllReadyH.cons (o := ?_) ?ho11hK4_5_6_16m ?hst11hK4_5_6_16m AllReadyH.nil
    case ho11hK4_5_6_16m => (simp only [List.getElem?_toArray, List.getElem?_cons_zero, List.getElem?_cons_succ]; rfl)
    case hst11hK4_5_6_16m =>
      intro K hK
      go_simp
      refine hK.out _ _ ?hs11hK4_5_6_16m (fun hHeld => ?_)
      case hs11hK4_5_6_16m => exact (cell_keep (bel_alloc (Below.refl _ _) (.cells #[.int .u8 109, .int .u8 u] 5)) hq)
      clear hK K
      (try simp only [Act.put, List.setIfInBounds_toArray, List.set_cons_zero, List.set_cons_succ])
      exact any_eq (by kernel_rfl) (by kernel_rfl) (hK4_5_6_11_16 _ _ ⟨gA, _, gV, rfl, (cell_keep (bel_alloc (Below.refl _ _) (.cells #[.int .u8 109, .int .u8 u] 5)) hq), (bel_step hbd (bel_alloc (Below.refl _ _) (.cells #[.int .u8 109, .int .u8 u] 5))), row_alloc _ _ _, (row_step hV (bel_alloc (Below.refl _ _) (.cells #[.int .u8 109, .int .u8 u] 5))), (hVg)⟩ hHeld)
  refine any_have 6 [4, 5, 11, 12] (fun a a' w' => ∃ (gA gB : Nat), a' = ((((a.put (some 33) (.slice (some ⟨gA, 0, none⟩) 2 2)).put (some 34) (.string ⟨#[103, bx]⟩)).put (some 40) (.slice (some ⟨gB, 0, none⟩) 2 2)).put (some 41) (.string ⟨#[109, bx]⟩)) ∧ w'.cell? ⟨nb, no + i, none⟩ = some (.int .u8 u) ∧ Below wr.heap.size wr w') ?phK4_5_11_12m (fun hK4_5_11_12 => ?_)
  case phK4_5_11_12m =>
    intro a' w' hst hHeld
    obtain ⟨gA, gB, rfl, hq, hbd⟩ := hst
    (try simp only [Act.put, List.setIfInBounds_toArray, List.set_cons_zero, List.set_cons_succ])
    refine wpAnyH_ready (rs := [6, 16]) (by kernel_rfl) (by simp) ?_
    refine AllReadyH.cons (o := ?_) ?ho6hK4_5_11_12m ?hst6hK4_5_11_12m (AllReadyH.cons (o := ?_) ?ho16hK4_5_11_12m ?hst16hK4_5_11_12m AllReadyH.nil)
    case ho6hK4_5_11_12m => (simp only [List.getElem?_toArray, List.getElem?_cons_zero, List.getElem?_cons_succ]; rfl)
    case ho16hK4_5_11_12m => (simp only [List.getElem?_toArray, List.getElem?_cons_zero, List.getElem?_cons_succ]; rfl)
    case hst6hK4_5_11_12m =>
      intro K hK
      go_simp
      go_at_call 17; refine (text_ref_any _ _).mono ?_; rintro e wT ⟨rfl, hbT⟩
      go_wp2_with fail
      refine hK.out _ _ ?hs6hK4_5_11_12m (fun hHeld => ?_)
      case hs6hK4_5_11_12m => exact (cell_keep hbT hq)
      clear hK K
      (try simp only [Act.put, List.setIfInBounds_toArray, List.set_cons_zero, List.set_cons_succ])
      exact any_eq (by kernel_rfl) (by kernel_rfl) (hK4_5_6_11_12 _ _ ⟨gA, gB, rfl, (cell_keep hbT hq), (bel_step hbd hbT)⟩ hHeld)
    case hst16hK4_5_11_12m =>
      intro K hK
      go_simp
      refine hK.out _ _ ?hs16hK4_5_11_12m (fun hHeld => ?_)
      case hs16hK4_5_11_12m => exact (cell_keep (bel_alloc (Below.refl _ _) (.cells #[.int .i64 0, .int .i64 0, .float .f64 0, .string ⟨#[]⟩, .slice none 0 0] 27)) hq)
      clear hK K
      (try simp only [Act.put, List.setIfInBounds_toArray, List.set_cons_zero, List.set_cons_succ])
      exact any_eq (by kernel_rfl) (by kernel_rfl) (hK4_5_11_12_16 _ _ ⟨gA, gB, _, rfl, (cell_keep (bel_alloc (Below.refl _ _) (.cells #[.int .i64 0, .int .i64 0, .float .f64 0, .string ⟨#[]⟩, .slice none 0 0] 27)) hq), (bel_step hbd (bel_alloc (Below.refl _ _) (.cells #[.int .i64 0, .int .i64 0, .float .f64 0, .string ⟨#[]⟩, .slice none 0 0] 27))), row_alloc _ _ _, hbd.size⟩ hHeld)
  refine any_have 6 [4, 5, 11, 16] (fun a a' w' => ∃ (gA gB gV : Nat), a' = ((((a.put (some 33) (.slice (some ⟨gA, 0, none⟩) 2 2)).put (some 34) (.string ⟨#[103, bx]⟩)).put (some 40) (.slice (some ⟨gB, 0, none⟩) 2 2)).put (some 7) (.pointer (some ⟨gV, 0, none⟩))) ∧ w'.cell? ⟨nb, no + i, none⟩ = some (.int .u8 u) ∧ Below wr.heap.size wr w' ∧ w'.heap[gB]? = some (.cells #[.int .u8 109, .int .u8 u] 5 (0, 0)) ∧ w'.heap[gV]? = some (.cells #[.int .i64 0, .int .i64 0, .float .f64 0, .string ⟨#[]⟩, .slice none 0 0] 27 (0, 0)) ∧ wr.heap.size ≤ gV) ?phK4_5_11_16m (fun hK4_5_11_16 => ?_)
  case phK4_5_11_16m =>
    intro a' w' hst hHeld
    obtain ⟨gA, gB, gV, rfl, hq, hbd, hB, hV, hVg⟩ := hst
    (try simp only [Act.put, List.setIfInBounds_toArray, List.set_cons_zero, List.set_cons_succ])
    refine wpAnyH_ready (rs := [6, 12]) (by kernel_rfl) (by simp) ?_
    refine AllReadyH.cons (o := ?_) ?ho6hK4_5_11_16m ?hst6hK4_5_11_16m (AllReadyH.cons (o := ?_) ?ho12hK4_5_11_16m ?hst12hK4_5_11_16m AllReadyH.nil)
    case ho6hK4_5_11_16m => (simp only [List.getElem?_toArray, List.getElem?_cons_zero, List.getElem?_cons_succ]; rfl)
    case ho12hK4_5_11_16m => (simp only [List.getElem?_toArray, List.getElem?_cons_zero, List.getElem?_cons_succ]; rfl)
    case hst6hK4_5_11_16m =>
      intro K hK
      go_simp
      go_at_call 17; refine (text_ref_any _ _).mono ?_; rintro e wT ⟨rfl, hbT⟩
      go_wp2_with fail
      refine hK.out _ _ ?hs6hK4_5_11_16m (fun hHeld => ?_)
      case hs6hK4_5_11_16m => exact (cell_keep hbT hq)
      clear hK K
      (try simp only [Act.put, List.setIfInBounds_toArray, List.set_cons_zero, List.set_cons_succ])
      exact any_eq (by kernel_rfl) (by kernel_rfl) (hK4_5_6_11_16 _ _ ⟨gA, gB, gV, rfl, (cell_keep hbT hq), (bel_step hbd hbT), (row_step hB hbT), (row_step hV hbT), (hVg)⟩ hHeld)
    case hst12hK4_5_11_16m =>
      intro K hK
      have hcv := conv2O (cap := 2) (b := 109) (b' := bx) rfl HBX.out hB; go_simp
      clear hcv
      go_wp2_with fail
      refine hK.out _ _ ?hs12hK4_5_11_16m (fun hHeld => ?_)
      case hs12hK4_5_11_16m => exact hq
      clear hK K
      (try simp only [Act.put, List.setIfInBounds_toArray, List.set_cons_zero, List.set_cons_succ])
      exact any_eq (by kernel_rfl) (by kernel_rfl) (hK4_5_11_12_16 _ _ ⟨gA, gB, gV, rfl, hq, hbd, hV, hVg⟩ hHeld)
  refine any_have 6 [4, 11, 12, 16] (fun a a' w' => ∃ (gA gB gV : Nat), a' = ((((a.put (some 33) (.slice (some ⟨gA, 0, none⟩) 2 2)).put (some 40) (.slice (some ⟨gB, 0, none⟩) 2 2)).put (some 41) (.string ⟨#[109, bx]⟩)).put (some 7) (.pointer (some ⟨gV, 0, none⟩))) ∧ w'.cell? ⟨nb, no + i, none⟩ = some (.int .u8 u) ∧ Below wr.heap.size wr w' ∧ w'.heap[gA]? = some (.cells #[.int .u8 103, .int .u8 u] 5 (0, 0)) ∧ w'.heap[gV]? = some (.cells #[.int .i64 0, .int .i64 0, .float .f64 0, .string ⟨#[]⟩, .slice none 0 0] 27 (0, 0)) ∧ wr.heap.size ≤ gV) ?phK4_11_12_16m (fun hK4_11_12_16 => ?_)
  case phK4_11_12_16m =>
    intro a' w' hst hHeld
    obtain ⟨gA, gB, gV, rfl, hq, hbd, hA, hV, hVg⟩ := hst
    (try simp only [Act.put, List.setIfInBounds_toArray, List.set_cons_zero, List.set_cons_succ])
    refine wpAnyH_ready (rs := [5]) (by kernel_rfl) (by simp) ?_
    refine AllReadyH.cons (o := ?_) ?ho5hK4_11_12_16m ?hst5hK4_11_12_16m AllReadyH.nil
    case ho5hK4_11_12_16m => (simp only [List.getElem?_toArray, List.getElem?_cons_zero, List.getElem?_cons_succ]; rfl)
    case hst5hK4_11_12_16m =>
      intro K hK
      have hcv := conv2O (cap := 2) (b := 103) (b' := bx) rfl HBX.out hA; go_simp
      clear hcv
      go_wp2_with fail
      refine hK.out _ _ ?hs5hK4_11_12_16m (fun hHeld => ?_)
      case hs5hK4_11_12_16m => exact hq
      clear hK K
      (try simp only [Act.put, List.setIfInBounds_toArray, List.set_cons_zero, List.set_cons_succ])
      exact any_eq (by kernel_rfl) (by kernel_rfl) (hK4_5_11_12_16 _ _ ⟨gA, gB, gV, rfl, hq, hbd, hV, hVg⟩ hHeld)
  refine any_have 7 [4, 5, 6] (fun a a' w' => ∃ (gA : Nat), a' = (((a.put (some 33) (.slice (some ⟨gA, 0, none⟩) 2 2)).put (some 34) (.string ⟨#[103, bx]⟩)).put (some 35) (.agg #[.int .i64 3, .int .i64 0, .float .f64 0, .string ⟨#[103, bx]⟩, .slice none 0 0])) ∧ w'.cell? ⟨nb, no + i, none⟩ = some (.int .u8 u) ∧ Below wr.heap.size wr w') ?phK4_5_6m (fun hK4_5_6 => ?_)
  case phK4_5_6m =>
    intro a' w' hst hHeld
    obtain ⟨gA, rfl, hq, hbd⟩ := hst
    (try simp only [Act.put, List.setIfInBounds_toArray, List.set_cons_zero, List.set_cons_succ])
    refine wpAnyH_ready (rs := [11, 16]) (by kernel_rfl) (by simp) ?_
    refine AllReadyH.cons (o := ?_) ?ho11hK4_5_6m ?hst11hK4_5_6m (AllReadyH.cons (o := ?_) ?ho16hK4_5_6m ?hst16hK4_5_6m AllReadyH.nil)
    case ho11hK4_5_6m => (simp only [List.getElem?_toArray, List.getElem?_cons_zero, List.getElem?_cons_succ]; rfl)
    case ho16hK4_5_6m => (simp only [List.getElem?_toArray, List.getElem?_cons_zero, List.getElem?_cons_succ]; rfl)
    case hst11hK4_5_6m =>
      intro K hK
      go_simp
      refine hK.out _ _ ?hs11hK4_5_6m (fun hHeld => ?_)
      case hs11hK4_5_6m => exact (cell_keep (bel_alloc (Below.refl _ _) (.cells #[.int .u8 109, .int .u8 u] 5)) hq)
      clear hK K
      (try simp only [Act.put, List.setIfInBounds_toArray, List.set_cons_zero, List.set_cons_succ])
      exact any_eq (by kernel_rfl) (by kernel_rfl) (hK4_5_6_11 _ _ ⟨gA, _, rfl, (cell_keep (bel_alloc (Below.refl _ _) (.cells #[.int .u8 109, .int .u8 u] 5)) hq), (bel_step hbd (bel_alloc (Below.refl _ _) (.cells #[.int .u8 109, .int .u8 u] 5))), row_alloc _ _ _⟩ hHeld)
    case hst16hK4_5_6m =>
      intro K hK
      go_simp
      refine hK.out _ _ ?hs16hK4_5_6m (fun hHeld => ?_)
      case hs16hK4_5_6m => exact (cell_keep (bel_alloc (Below.refl _ _) (.cells #[.int .i64 0, .int .i64 0, .float .f64 0, .string ⟨#[]⟩, .slice none 0 0] 27)) hq)
      clear hK K
      (try simp only [Act.put, List.setIfInBounds_toArray, List.set_cons_zero, List.set_cons_succ])
      exact any_eq (by kernel_rfl) (by kernel_rfl) (hK4_5_6_16 _ _ ⟨gA, _, rfl, (cell_keep (bel_alloc (Below.refl _ _) (.cells #[.int .i64 0, .int .i64 0, .float .f64 0, .string ⟨#[]⟩, .slice none 0 0] 27)) hq), (bel_step hbd (bel_alloc (Below.refl _ _) (.cells #[.int .i64 0, .int .i64 0, .float .f64 0, .string ⟨#[]⟩, .slice none 0 0] 27))), row_alloc _ _ _, hbd.size⟩ hHeld)
  refine any_have 7 [4, 5, 11] (fun a a' w' => ∃ (gA gB : Nat), a' = (((a.put (some 33) (.slice (some ⟨gA, 0, none⟩) 2 2)).put (some 34) (.string ⟨#[103, bx]⟩)).put (some 40) (.slice (some ⟨gB, 0, none⟩) 2 2)) ∧ w'.cell? ⟨nb, no + i, none⟩ = some (.int .u8 u) ∧ Below wr.heap.size wr w' ∧ w'.heap[gB]? = some (.cells #[.int .u8 109, .int .u8 u] 5 (0, 0))) ?phK4_5_11m (fun hK4_5_11 => ?_)
  case phK4_5_11m =>
    intro a' w' hst hHeld
    obtain ⟨gA, gB, rfl, hq, hbd, hB⟩ := hst
    (try simp only [Act.put, List.setIfInBounds_toArray, List.set_cons_zero, List.set_cons_succ])
    refine wpAnyH_ready (rs := [6, 12, 16]) (by kernel_rfl) (by simp) ?_
    refine AllReadyH.cons (o := ?_) ?ho6hK4_5_11m ?hst6hK4_5_11m (AllReadyH.cons (o := ?_) ?ho12hK4_5_11m ?hst12hK4_5_11m (AllReadyH.cons (o := ?_) ?ho16hK4_5_11m ?hst16hK4_5_11m AllReadyH.nil))
    case ho6hK4_5_11m => (simp only [List.getElem?_toArray, List.getElem?_cons_zero, List.getElem?_cons_succ]; rfl)
    case ho12hK4_5_11m => (simp only [List.getElem?_toArray, List.getElem?_cons_zero, List.getElem?_cons_succ]; rfl)
    case ho16hK4_5_11m => (simp only [List.getElem?_toArray, List.getElem?_cons_zero, List.getElem?_cons_succ]; rfl)
    case hst6hK4_5_11m =>
      intro K hK
      go_simp
      go_at_call 17; refine (text_ref_any _ _).mono ?_; rintro e wT ⟨rfl, hbT⟩
      go_wp2_with fail
      refine hK.out _ _ ?hs6hK4_5_11m (fun hHeld => ?_)
      case hs6hK4_5_11m => exact (cell_keep hbT hq)
      clear hK K
      (try simp only [Act.put, List.setIfInBounds_toArray, List.set_cons_zero, List.set_cons_succ])
      exact any_eq (by kernel_rfl) (by kernel_rfl) (hK4_5_6_11 _ _ ⟨gA, gB, rfl, (cell_keep hbT hq), (bel_step hbd hbT), (row_step hB hbT)⟩ hHeld)
    case hst12hK4_5_11m =>
      intro K hK
      have hcv := conv2O (cap := 2) (b := 109) (b' := bx) rfl HBX.out hB; go_simp
      clear hcv
      go_wp2_with fail
      refine hK.out _ _ ?hs12hK4_5_11m (fun hHeld => ?_)
      case hs12hK4_5_11m => exact hq
      clear hK K
      (try simp only [Act.put, List.setIfInBounds_toArray, List.set_cons_zero, List.set_cons_succ])
      exact any_eq (by kernel_rfl) (by kernel_rfl) (hK4_5_11_12 _ _ ⟨gA, gB, rfl, hq, hbd⟩ hHeld)
    case hst16hK4_5_11m =>
      intro K hK
      go_simp
      refine hK.out _ _ ?hs16hK4_5_11m (fun hHeld => ?_)
      case hs16hK4_5_11m => exact (cell_keep (bel_alloc (Below.refl _ _) (.cells #[.int .i64 0, .int .i64 0, .float .f64 0, .string ⟨#[]⟩, .slice none 0 0] 27)) hq)
      clear hK K
      (try simp only [Act.put, List.setIfInBounds_toArray, List.set_cons_zero, List.set_cons_succ])
      exact any_eq (by kernel_rfl) (by kernel_rfl) (hK4_5_11_16 _ _ ⟨gA, gB, _, rfl, (cell_keep (bel_alloc (Below.refl _ _) (.cells #[.int .i64 0, .int .i64 0, .float .f64 0, .string ⟨#[]⟩, .slice none 0 0] 27)) hq), (bel_step hbd (bel_alloc (Below.refl _ _) (.cells #[.int .i64 0, .int .i64 0, .float .f64 0, .string ⟨#[]⟩, .slice none 0 0] 27))), (row_step hB (bel_alloc (Below.refl _ _) (.cells #[.int .i64 0, .int .i64 0, .float .f64 0, .string ⟨#[]⟩, .slice none 0 0] 27))), row_alloc _ _ _, hbd.size⟩ hHeld)
  refine any_have 7 [4, 5, 16] (fun a a' w' => ∃ (gA gV : Nat), a' = (((a.put (some 33) (.slice (some ⟨gA, 0, none⟩) 2 2)).put (some 34) (.string ⟨#[103, bx]⟩)).put (some 7) (.pointer (some ⟨gV, 0, none⟩))) ∧ w'.cell? ⟨nb, no + i, none⟩ = some (.int .u8 u) ∧ Below wr.heap.size wr w' ∧ w'.heap[gV]? = some (.cells #[.int .i64 0, .int .i64 0, .float .f64 0, .string ⟨#[]⟩, .slice none 0 0] 27 (0, 0)) ∧ wr.heap.size ≤ gV) ?phK4_5_16m (fun hK4_5_16 => ?_)
  case phK4_5_16m =>
    intro a' w' hst hHeld
    obtain ⟨gA, gV, rfl, hq, hbd, hV, hVg⟩ := hst
    (try simp only [Act.put, List.setIfInBounds_toArray, List.set_cons_zero, List.set_cons_succ])
    refine wpAnyH_ready (rs := [6, 11]) (by kernel_rfl) (by simp) ?_
    refine AllReadyH.cons (o := ?_) ?ho6hK4_5_16m ?hst6hK4_5_16m (AllReadyH.cons (o := ?_) ?ho11hK4_5_16m ?hst11hK4_5_16m AllReadyH.nil)
    case ho6hK4_5_16m => (simp only [List.getElem?_toArray, List.getElem?_cons_zero, List.getElem?_cons_succ]; rfl)
    case ho11hK4_5_16m => (simp only [List.getElem?_toArray, List.getElem?_cons_zero, List.getElem?_cons_succ]; rfl)
    case hst6hK4_5_16m =>
      intro K hK
      go_simp
      go_at_call 17; refine (text_ref_any _ _).mono ?_; rintro e wT ⟨rfl, hbT⟩
      go_wp2_with fail
      refine hK.out _ _ ?hs6hK4_5_16m (fun hHeld => ?_)
      case hs6hK4_5_16m => exact (cell_keep hbT hq)
      clear hK K
      (try simp only [Act.put, List.setIfInBounds_toArray, List.set_cons_zero, List.set_cons_succ])
      exact any_eq (by kernel_rfl) (by kernel_rfl) (hK4_5_6_16 _ _ ⟨gA, gV, rfl, (cell_keep hbT hq), (bel_step hbd hbT), (row_step hV hbT), (hVg)⟩ hHeld)
    case hst11hK4_5_16m =>
      intro K hK
      go_simp
      refine hK.out _ _ ?hs11hK4_5_16m (fun hHeld => ?_)
      case hs11hK4_5_16m => exact (cell_keep (bel_alloc (Below.refl _ _) (.cells #[.int .u8 109, .int .u8 u] 5)) hq)
      clear hK K
      (try simp only [Act.put, List.setIfInBounds_toArray, List.set_cons_zero, List.set_cons_succ])
      exact any_eq (by kernel_rfl) (by kernel_rfl) (hK4_5_11_16 _ _ ⟨gA, _, gV, rfl, (cell_keep (bel_alloc (Below.refl _ _) (.cells #[.int .u8 109, .int .u8 u] 5)) hq), (bel_step hbd (bel_alloc (Below.refl _ _) (.cells #[.int .u8 109, .int .u8 u] 5))), row_alloc _ _ _, (row_step hV (bel_alloc (Below.refl _ _) (.cells #[.int .u8 109, .int .u8 u] 5))), (hVg)⟩ hHeld)
  refine any_have 7 [4, 11, 12] (fun a a' w' => ∃ (gA gB : Nat), a' = (((a.put (some 33) (.slice (some ⟨gA, 0, none⟩) 2 2)).put (some 40) (.slice (some ⟨gB, 0, none⟩) 2 2)).put (some 41) (.string ⟨#[109, bx]⟩)) ∧ w'.cell? ⟨nb, no + i, none⟩ = some (.int .u8 u) ∧ Below wr.heap.size wr w' ∧ w'.heap[gA]? = some (.cells #[.int .u8 103, .int .u8 u] 5 (0, 0))) ?phK4_11_12m (fun hK4_11_12 => ?_)
  case phK4_11_12m =>
    intro a' w' hst hHeld
    obtain ⟨gA, gB, rfl, hq, hbd, hA⟩ := hst
    (try simp only [Act.put, List.setIfInBounds_toArray, List.set_cons_zero, List.set_cons_succ])
    refine wpAnyH_ready (rs := [5, 16]) (by kernel_rfl) (by simp) ?_
    refine AllReadyH.cons (o := ?_) ?ho5hK4_11_12m ?hst5hK4_11_12m (AllReadyH.cons (o := ?_) ?ho16hK4_11_12m ?hst16hK4_11_12m AllReadyH.nil)
    case ho5hK4_11_12m => (simp only [List.getElem?_toArray, List.getElem?_cons_zero, List.getElem?_cons_succ]; rfl)
    case ho16hK4_11_12m => (simp only [List.getElem?_toArray, List.getElem?_cons_zero, List.getElem?_cons_succ]; rfl)
    case hst5hK4_11_12m =>
      intro K hK
      have hcv := conv2O (cap := 2) (b := 103) (b' := bx) rfl HBX.out hA; go_simp
      clear hcv
      go_wp2_with fail
      refine hK.out _ _ ?hs5hK4_11_12m (fun hHeld => ?_)
      case hs5hK4_11_12m => exact hq
      clear hK K
      (try simp only [Act.put, List.setIfInBounds_toArray, List.set_cons_zero, List.set_cons_succ])
      exact any_eq (by kernel_rfl) (by kernel_rfl) (hK4_5_11_12 _ _ ⟨gA, gB, rfl, hq, hbd⟩ hHeld)
    case hst16hK4_11_12m =>
      intro K hK
      go_simp
      refine hK.out _ _ ?hs16hK4_11_12m (fun hHeld => ?_)
      case hs16hK4_11_12m => exact (cell_keep (bel_alloc (Below.refl _ _) (.cells #[.int .i64 0, .int .i64 0, .float .f64 0, .string ⟨#[]⟩, .slice none 0 0] 27)) hq)
      clear hK K
      (try simp only [Act.put, List.setIfInBounds_toArray, List.set_cons_zero, List.set_cons_succ])
      exact any_eq (by kernel_rfl) (by kernel_rfl) (hK4_11_12_16 _ _ ⟨gA, gB, _, rfl, (cell_keep (bel_alloc (Below.refl _ _) (.cells #[.int .i64 0, .int .i64 0, .float .f64 0, .string ⟨#[]⟩, .slice none 0 0] 27)) hq), (bel_step hbd (bel_alloc (Below.refl _ _) (.cells #[.int .i64 0, .int .i64 0, .float .f64 0, .string ⟨#[]⟩, .slice none 0 0] 27))), (row_step hA (bel_alloc (Below.refl _ _) (.cells #[.int .i64 0, .int .i64 0, .float .f64 0, .string ⟨#[]⟩, .slice none 0 0] 27))), row_alloc _ _ _, hbd.size⟩ hHeld)
  refine any_have 7 [4, 11, 16] (fun a a' w' => ∃ (gA gB gV : Nat), a' = (((a.put (some 33) (.slice (some ⟨gA, 0, none⟩) 2 2)).put (some 40) (.slice (some ⟨gB, 0, none⟩) 2 2)).put (some 7) (.pointer (some ⟨gV, 0, none⟩))) ∧ w'.cell? ⟨nb, no + i, none⟩ = some (.int .u8 u) ∧ Below wr.heap.size wr w' ∧ w'.heap[gA]? = some (.cells #[.int .u8 103, .int .u8 u] 5 (0, 0)) ∧ w'.heap[gB]? = some (.cells #[.int .u8 109, .int .u8 u] 5 (0, 0)) ∧ w'.heap[gV]? = some (.cells #[.int .i64 0, .int .i64 0, .float .f64 0, .string ⟨#[]⟩, .slice none 0 0] 27 (0, 0)) ∧ wr.heap.size ≤ gV) ?phK4_11_16m (fun hK4_11_16 => ?_)
  case phK4_11_16m =>
    intro a' w' hst hHeld
    obtain ⟨gA, gB, gV, rfl, hq, hbd, hA, hB, hV, hVg⟩ := hst
    (try simp only [Act.put, List.setIfInBounds_toArray, List.set_cons_zero, List.set_cons_succ])
    refine wpAnyH_ready (rs := [5, 12]) (by kernel_rfl) (by simp) ?_
    refine AllReadyH.cons (o := ?_) ?ho5hK4_11_16m ?hst5hK4_11_16m (AllReadyH.cons (o := ?_) ?ho12hK4_11_16m ?hst12hK4_11_16m AllReadyH.nil)
    case ho5hK4_11_16m => (simp only [List.getElem?_toArray, List.getElem?_cons_zero, List.getElem?_cons_succ]; rfl)
    case ho12hK4_11_16m => (simp only [List.getElem?_toArray, List.getElem?_cons_zero, List.getElem?_cons_succ]; rfl)
    case hst5hK4_11_16m =>
      intro K hK
      have hcv := conv2O (cap := 2) (b := 103) (b' := bx) rfl HBX.out hA; go_simp
      clear hcv
      go_wp2_with fail
      refine hK.out _ _ ?hs5hK4_11_16m (fun hHeld => ?_)
      case hs5hK4_11_16m => exact hq
      clear hK K
      (try simp only [Act.put, List.setIfInBounds_toArray, List.set_cons_zero, List.set_cons_succ])
      exact any_eq (by kernel_rfl) (by kernel_rfl) (hK4_5_11_16 _ _ ⟨gA, gB, gV, rfl, hq, hbd, hB, hV, hVg⟩ hHeld)
    case hst12hK4_11_16m =>
      intro K hK
      have hcv := conv2O (cap := 2) (b := 109) (b' := bx) rfl HBX.out hB; go_simp
      clear hcv
      go_wp2_with fail
      refine hK.out _ _ ?hs12hK4_11_16m (fun hHeld => ?_)
      case hs12hK4_11_16m => exact hq
      clear hK K
      (try simp only [Act.put, List.setIfInBounds_toArray, List.set_cons_zero, List.set_cons_succ])
      exact any_eq (by kernel_rfl) (by kernel_rfl) (hK4_11_12_16 _ _ ⟨gA, gB, gV, rfl, hq, hbd, hA, hV, hVg⟩ hHeld)
  refine any_have 7 [11, 12, 16] (fun a a' w' => ∃ (gB gV : Nat), a' = (((a.put (some 40) (.slice (some ⟨gB, 0, none⟩) 2 2)).put (some 41) (.string ⟨#[109, bx]⟩)).put (some 7) (.pointer (some ⟨gV, 0, none⟩))) ∧ w'.cell? ⟨nb, no + i, none⟩ = some (.int .u8 u) ∧ Below wr.heap.size wr w' ∧ w'.heap[gV]? = some (.cells #[.int .i64 0, .int .i64 0, .float .f64 0, .string ⟨#[]⟩, .slice none 0 0] 27 (0, 0)) ∧ wr.heap.size ≤ gV) ?phK11_12_16m (fun hK11_12_16 => ?_)
  case phK11_12_16m =>
    intro a' w' hst hHeld
    obtain ⟨gB, gV, rfl, hq, hbd, hV, hVg⟩ := hst
    (try simp only [Act.put, List.setIfInBounds_toArray, List.set_cons_zero, List.set_cons_succ])
    refine wpAnyH_ready (rs := [4]) (by kernel_rfl) (by simp) ?_
    refine AllReadyH.cons (o := ?_) ?ho4hK11_12_16m ?hst4hK11_12_16m AllReadyH.nil
    case ho4hK11_12_16m => (simp only [List.getElem?_toArray, List.getElem?_cons_zero, List.getElem?_cons_succ]; rfl)
    case hst4hK11_12_16m =>
      intro K hK
      go_simp
      refine hK.out _ _ ?hs4hK11_12_16m (fun hHeld => ?_)
      case hs4hK11_12_16m => exact (cell_keep (bel_alloc (Below.refl _ _) (.cells #[.int .u8 103, .int .u8 u] 5)) hq)
      clear hK K
      (try simp only [Act.put, List.setIfInBounds_toArray, List.set_cons_zero, List.set_cons_succ])
      exact any_eq (by kernel_rfl) (by kernel_rfl) (hK4_11_12_16 _ _ ⟨_, gB, gV, rfl, (cell_keep (bel_alloc (Below.refl _ _) (.cells #[.int .u8 103, .int .u8 u] 5)) hq), (bel_step hbd (bel_alloc (Below.refl _ _) (.cells #[.int .u8 103, .int .u8 u] 5))), row_alloc _ _ _, (row_step hV (bel_alloc (Below.refl _ _) (.cells #[.int .u8 103, .int .u8 u] 5))), (hVg)⟩ hHeld)
  refine any_have 8 [4, 5] (fun a a' w' => ∃ (gA : Nat), a' = ((a.put (some 33) (.slice (some ⟨gA, 0, none⟩) 2 2)).put (some 34) (.string ⟨#[103, bx]⟩)) ∧ w'.cell? ⟨nb, no + i, none⟩ = some (.int .u8 u) ∧ Below wr.heap.size wr w') ?phK4_5m (fun hK4_5 => ?_)
  case phK4_5m =>
    intro a' w' hst hHeld
    obtain ⟨gA, rfl, hq, hbd⟩ := hst
    (try simp only [Act.put, List.setIfInBounds_toArray, List.set_cons_zero, List.set_cons_succ])
    refine wpAnyH_ready (rs := [6, 11, 16]) (by kernel_rfl) (by simp) ?_
    refine AllReadyH.cons (o := ?_) ?ho6hK4_5m ?hst6hK4_5m (AllReadyH.cons (o := ?_) ?ho11hK4_5m ?hst11hK4_5m (AllReadyH.cons (o := ?_) ?ho16hK4_5m ?hst16hK4_5m AllReadyH.nil))
    case ho6hK4_5m => (simp only [List.getElem?_toArray, List.getElem?_cons_zero, List.getElem?_cons_succ]; rfl)
    case ho11hK4_5m => (simp only [List.getElem?_toArray, List.getElem?_cons_zero, List.getElem?_cons_succ]; rfl)
    case ho16hK4_5m => (simp only [List.getElem?_toArray, List.getElem?_cons_zero, List.getElem?_cons_succ]; rfl)
    case hst6hK4_5m =>
      intro K hK
      go_simp
      go_at_call 17; refine (text_ref_any _ _).mono ?_; rintro e wT ⟨rfl, hbT⟩
      go_wp2_with fail
      refine hK.out _ _ ?hs6hK4_5m (fun hHeld => ?_)
      case hs6hK4_5m => exact (cell_keep hbT hq)
      clear hK K
      (try simp only [Act.put, List.setIfInBounds_toArray, List.set_cons_zero, List.set_cons_succ])
      exact any_eq (by kernel_rfl) (by kernel_rfl) (hK4_5_6 _ _ ⟨gA, rfl, (cell_keep hbT hq), (bel_step hbd hbT)⟩ hHeld)
    case hst11hK4_5m =>
      intro K hK
      go_simp
      refine hK.out _ _ ?hs11hK4_5m (fun hHeld => ?_)
      case hs11hK4_5m => exact (cell_keep (bel_alloc (Below.refl _ _) (.cells #[.int .u8 109, .int .u8 u] 5)) hq)
      clear hK K
      (try simp only [Act.put, List.setIfInBounds_toArray, List.set_cons_zero, List.set_cons_succ])
      exact any_eq (by kernel_rfl) (by kernel_rfl) (hK4_5_11 _ _ ⟨gA, _, rfl, (cell_keep (bel_alloc (Below.refl _ _) (.cells #[.int .u8 109, .int .u8 u] 5)) hq), (bel_step hbd (bel_alloc (Below.refl _ _) (.cells #[.int .u8 109, .int .u8 u] 5))), row_alloc _ _ _⟩ hHeld)
    case hst16hK4_5m =>
      intro K hK
      go_simp
      refine hK.out _ _ ?hs16hK4_5m (fun hHeld => ?_)
      case hs16hK4_5m => exact (cell_keep (bel_alloc (Below.refl _ _) (.cells #[.int .i64 0, .int .i64 0, .float .f64 0, .string ⟨#[]⟩, .slice none 0 0] 27)) hq)
      clear hK K
      (try simp only [Act.put, List.setIfInBounds_toArray, List.set_cons_zero, List.set_cons_succ])
      exact any_eq (by kernel_rfl) (by kernel_rfl) (hK4_5_16 _ _ ⟨gA, _, rfl, (cell_keep (bel_alloc (Below.refl _ _) (.cells #[.int .i64 0, .int .i64 0, .float .f64 0, .string ⟨#[]⟩, .slice none 0 0] 27)) hq), (bel_step hbd (bel_alloc (Below.refl _ _) (.cells #[.int .i64 0, .int .i64 0, .float .f64 0, .string ⟨#[]⟩, .slice none 0 0] 27))), row_alloc _ _ _, hbd.size⟩ hHeld)
  refine any_have 8 [4, 11] (fun a a' w' => ∃ (gA gB : Nat), a' = ((a.put (some 33) (.slice (some ⟨gA, 0, none⟩) 2 2)).put (some 40) (.slice (some ⟨gB, 0, none⟩) 2 2)) ∧ w'.cell? ⟨nb, no + i, none⟩ = some (.int .u8 u) ∧ Below wr.heap.size wr w' ∧ w'.heap[gA]? = some (.cells #[.int .u8 103, .int .u8 u] 5 (0, 0)) ∧ w'.heap[gB]? = some (.cells #[.int .u8 109, .int .u8 u] 5 (0, 0))) ?phK4_11m (fun hK4_11 => ?_)
  case phK4_11m =>
    intro a' w' hst hHeld
    obtain ⟨gA, gB, rfl, hq, hbd, hA, hB⟩ := hst
    (try simp only [Act.put, List.setIfInBounds_toArray, List.set_cons_zero, List.set_cons_succ])
    refine wpAnyH_ready (rs := [5, 12, 16]) (by kernel_rfl) (by simp) ?_
    refine AllReadyH.cons (o := ?_) ?ho5hK4_11m ?hst5hK4_11m (AllReadyH.cons (o := ?_) ?ho12hK4_11m ?hst12hK4_11m (AllReadyH.cons (o := ?_) ?ho16hK4_11m ?hst16hK4_11m AllReadyH.nil))
    case ho5hK4_11m => (simp only [List.getElem?_toArray, List.getElem?_cons_zero, List.getElem?_cons_succ]; rfl)
    case ho12hK4_11m => (simp only [List.getElem?_toArray, List.getElem?_cons_zero, List.getElem?_cons_succ]; rfl)
    case ho16hK4_11m => (simp only [List.getElem?_toArray, List.getElem?_cons_zero, List.getElem?_cons_succ]; rfl)
    case hst5hK4_11m =>
      intro K hK
      have hcv := conv2O (cap := 2) (b := 103) (b' := bx) rfl HBX.out hA; go_simp
      clear hcv
      go_wp2_with fail
      refine hK.out _ _ ?hs5hK4_11m (fun hHeld => ?_)
      case hs5hK4_11m => exact hq
      clear hK K
      (try simp only [Act.put, List.setIfInBounds_toArray, List.set_cons_zero, List.set_cons_succ])
      exact any_eq (by kernel_rfl) (by kernel_rfl) (hK4_5_11 _ _ ⟨gA, gB, rfl, hq, hbd, hB⟩ hHeld)
    case hst12hK4_11m =>
      intro K hK
      have hcv := conv2O (cap := 2) (b := 109) (b' := bx) rfl HBX.out hB; go_simp
      clear hcv
      go_wp2_with fail
      refine hK.out _ _ ?hs12hK4_11m (fun hHeld => ?_)
      case hs12hK4_11m => exact hq
      clear hK K
      (try simp only [Act.put, List.setIfInBounds_toArray, List.set_cons_zero, List.set_cons_succ])
      exact any_eq (by kernel_rfl) (by kernel_rfl) (hK4_11_12 _ _ ⟨gA, gB, rfl, hq, hbd, hA⟩ hHeld)
    case hst16hK4_11m =>
      intro K hK
      go_simp
      refine hK.out _ _ ?hs16hK4_11m (fun hHeld => ?_)
      case hs16hK4_11m => exact (cell_keep (bel_alloc (Below.refl _ _) (.cells #[.int .i64 0, .int .i64 0, .float .f64 0, .string ⟨#[]⟩, .slice none 0 0] 27)) hq)
      clear hK K
      (try simp only [Act.put, List.setIfInBounds_toArray, List.set_cons_zero, List.set_cons_succ])
      exact any_eq (by kernel_rfl) (by kernel_rfl) (hK4_11_16 _ _ ⟨gA, gB, _, rfl, (cell_keep (bel_alloc (Below.refl _ _) (.cells #[.int .i64 0, .int .i64 0, .float .f64 0, .string ⟨#[]⟩, .slice none 0 0] 27)) hq), (bel_step hbd (bel_alloc (Below.refl _ _) (.cells #[.int .i64 0, .int .i64 0, .float .f64 0, .string ⟨#[]⟩, .slice none 0 0] 27))), (row_step hA (bel_alloc (Below.refl _ _) (.cells #[.int .i64 0, .int .i64 0, .float .f64 0, .string ⟨#[]⟩, .slice none 0 0] 27))), (row_step hB (bel_alloc (Below.refl _ _) (.cells #[.int .i64 0, .int .i64 0, .float .f64 0, .string ⟨#[]⟩, .slice none 0 0] 27))), row_alloc _ _ _, hbd.size⟩ hHeld)
  refine any_have 8 [4, 16] (fun a a' w' => ∃ (gA gV : Nat), a' = ((a.put (some 33) (.slice (some ⟨gA, 0, none⟩) 2 2)).put (some 7) (.pointer (some ⟨gV, 0, none⟩))) ∧ w'.cell? ⟨nb, no + i, none⟩ = some (.int .u8 u) ∧ Below wr.heap.size wr w' ∧ w'.heap[gA]? = some (.cells #[.int .u8 103, .int .u8 u] 5 (0, 0)) ∧ w'.heap[gV]? = some (.cells #[.int .i64 0, .int .i64 0, .float .f64 0, .string ⟨#[]⟩, .slice none 0 0] 27 (0, 0)) ∧ wr.heap.size ≤ gV) ?phK4_16m (fun hK4_16 => ?_)
  case phK4_16m =>
    intro a' w' hst hHeld
    obtain ⟨gA, gV, rfl, hq, hbd, hA, hV, hVg⟩ := hst
    (try simp only [Act.put, List.setIfInBounds_toArray, List.set_cons_zero, List.set_cons_succ])
    refine wpAnyH_ready (rs := [5, 11]) (by kernel_rfl) (by simp) ?_
    refine AllReadyH.cons (o := ?_) ?ho5hK4_16m ?hst5hK4_16m (AllReadyH.cons (o := ?_) ?ho11hK4_16m ?hst11hK4_16m AllReadyH.nil)
    case ho5hK4_16m => (simp only [List.getElem?_toArray, List.getElem?_cons_zero, List.getElem?_cons_succ]; rfl)
    case ho11hK4_16m => (simp only [List.getElem?_toArray, List.getElem?_cons_zero, List.getElem?_cons_succ]; rfl)
    case hst5hK4_16m =>
      intro K hK
      have hcv := conv2O (cap := 2) (b := 103) (b' := bx) rfl HBX.out hA; go_simp
      clear hcv
      go_wp2_with fail
      refine hK.out _ _ ?hs5hK4_16m (fun hHeld => ?_)
      case hs5hK4_16m => exact hq
      clear hK K
      (try simp only [Act.put, List.setIfInBounds_toArray, List.set_cons_zero, List.set_cons_succ])
      exact any_eq (by kernel_rfl) (by kernel_rfl) (hK4_5_16 _ _ ⟨gA, gV, rfl, hq, hbd, hV, hVg⟩ hHeld)
    case hst11hK4_16m =>
      intro K hK
      go_simp
      refine hK.out _ _ ?hs11hK4_16m (fun hHeld => ?_)
      case hs11hK4_16m => exact (cell_keep (bel_alloc (Below.refl _ _) (.cells #[.int .u8 109, .int .u8 u] 5)) hq)
      clear hK K
      (try simp only [Act.put, List.setIfInBounds_toArray, List.set_cons_zero, List.set_cons_succ])
      exact any_eq (by kernel_rfl) (by kernel_rfl) (hK4_11_16 _ _ ⟨gA, _, gV, rfl, (cell_keep (bel_alloc (Below.refl _ _) (.cells #[.int .u8 109, .int .u8 u] 5)) hq), (bel_step hbd (bel_alloc (Below.refl _ _) (.cells #[.int .u8 109, .int .u8 u] 5))), (row_step hA (bel_alloc (Below.refl _ _) (.cells #[.int .u8 109, .int .u8 u] 5))), row_alloc _ _ _, (row_step hV (bel_alloc (Below.refl _ _) (.cells #[.int .u8 109, .int .u8 u] 5))), (hVg)⟩ hHeld)
  refine any_have 8 [11, 12] (fun a a' w' => ∃ (gB : Nat), a' = ((a.put (some 40) (.slice (some ⟨gB, 0, none⟩) 2 2)).put (some 41) (.string ⟨#[109, bx]⟩)) ∧ w'.cell? ⟨nb, no + i, none⟩ = some (.int .u8 u) ∧ Below wr.heap.size wr w') ?phK11_12m (fun hK11_12 => ?_)
  case phK11_12m =>
    intro a' w' hst hHeld
    obtain ⟨gB, rfl, hq, hbd⟩ := hst
    (try simp only [Act.put, List.setIfInBounds_toArray, List.set_cons_zero, List.set_cons_succ])
    refine wpAnyH_ready (rs := [4, 16]) (by kernel_rfl) (by simp) ?_
    refine AllReadyH.cons (o := ?_) ?ho4hK11_12m ?hst4hK11_12m (AllReadyH.cons (o := ?_) ?ho16hK11_12m ?hst16hK11_12m AllReadyH.nil)
    case ho4hK11_12m => (simp only [List.getElem?_toArray, List.getElem?_cons_zero, List.getElem?_cons_succ]; rfl)
    case ho16hK11_12m => (simp only [List.getElem?_toArray, List.getElem?_cons_zero, List.getElem?_cons_succ]; rfl)
    case hst4hK11_12m =>
      intro K hK
      go_simp
      refine hK.out _ _ ?hs4hK11_12m (fun hHeld => ?_)
      case hs4hK11_12m => exact (cell_keep (bel_alloc (Below.refl _ _) (.cells #[.int .u8 103, .int .u8 u] 5)) hq)
      clear hK K
      (try simp only [Act.put, List.setIfInBounds_toArray, List.set_cons_zero, List.set_cons_succ])
      exact any_eq (by kernel_rfl) (by kernel_rfl) (hK4_11_12 _ _ ⟨_, gB, rfl, (cell_keep (bel_alloc (Below.refl _ _) (.cells #[.int .u8 103, .int .u8 u] 5)) hq), (bel_step hbd (bel_alloc (Below.refl _ _) (.cells #[.int .u8 103, .int .u8 u] 5))), row_alloc _ _ _⟩ hHeld)
    case hst16hK11_12m =>
      intro K hK
      go_simp
      refine hK.out _ _ ?hs16hK11_12m (fun hHeld => ?_)
      case hs16hK11_12m => exact (cell_keep (bel_alloc (Below.refl _ _) (.cells #[.int .i64 0, .int .i64 0, .float .f64 0, .string ⟨#[]⟩, .slice none 0 0] 27)) hq)
      clear hK K
      (try simp only [Act.put, List.setIfInBounds_toArray, List.set_cons_zero, List.set_cons_succ])
      exact any_eq (by kernel_rfl) (by kernel_rfl) (hK11_12_16 _ _ ⟨gB, _, rfl, (cell_keep (bel_alloc (Below.refl _ _) (.cells #[.int .i64 0, .int .i64 0, .float .f64 0, .string ⟨#[]⟩, .slice none 0 0] 27)) hq), (bel_step hbd (bel_alloc (Below.refl _ _) (.cells #[.int .i64 0, .int .i64 0, .float .f64 0, .string ⟨#[]⟩, .slice none 0 0] 27))), row_alloc _ _ _, hbd.size⟩ hHeld)
  refine any_have 8 [11, 16] (fun a a' w' => ∃ (gB gV : Nat), a' = ((a.put (some 40) (.slice (some ⟨gB, 0, none⟩) 2 2)).put (some 7) (.pointer (some ⟨gV, 0, none⟩))) ∧ w'.cell? ⟨nb, no + i, none⟩ = some (.int .u8 u) ∧ Below wr.heap.size wr w' ∧ w'.heap[gB]? = some (.cells #[.int .u8 109, .int .u8 u] 5 (0, 0)) ∧ w'.heap[gV]? = some (.cells #[.int .i64 0, .int .i64 0, .float .f64 0, .string ⟨#[]⟩, .slice none 0 0] 27 (0, 0)) ∧ wr.heap.size ≤ gV) ?phK11_16m (fun hK11_16 => ?_)
  case phK11_16m =>
    intro a' w' hst hHeld
    obtain ⟨gB, gV, rfl, hq, hbd, hB, hV, hVg⟩ := hst
    (try simp only [Act.put, List.setIfInBounds_toArray, List.set_cons_zero, List.set_cons_succ])
    refine wpAnyH_ready (rs := [4, 12]) (by kernel_rfl) (by simp) ?_
    refine AllReadyH.cons (o := ?_) ?ho4hK11_16m ?hst4hK11_16m (AllReadyH.cons (o := ?_) ?ho12hK11_16m ?hst12hK11_16m AllReadyH.nil)
    case ho4hK11_16m => (simp only [List.getElem?_toArray, List.getElem?_cons_zero, List.getElem?_cons_succ]; rfl)
    case ho12hK11_16m => (simp only [List.getElem?_toArray, List.getElem?_cons_zero, List.getElem?_cons_succ]; rfl)
    case hst4hK11_16m =>
      intro K hK
      go_simp
      refine hK.out _ _ ?hs4hK11_16m (fun hHeld => ?_)
      case hs4hK11_16m => exact (cell_keep (bel_alloc (Below.refl _ _) (.cells #[.int .u8 103, .int .u8 u] 5)) hq)
      clear hK K
      (try simp only [Act.put, List.setIfInBounds_toArray, List.set_cons_zero, List.set_cons_succ])
      exact any_eq (by kernel_rfl) (by kernel_rfl) (hK4_11_16 _ _ ⟨_, gB, gV, rfl, (cell_keep (bel_alloc (Below.refl _ _) (.cells #[.int .u8 103, .int .u8 u] 5)) hq), (bel_step hbd (bel_alloc (Below.refl _ _) (.cells #[.int .u8 103, .int .u8 u] 5))), row_alloc _ _ _, (row_step hB (bel_alloc (Below.refl _ _) (.cells #[.int .u8 103, .int .u8 u] 5))), (row_step hV (bel_alloc (Below.refl _ _) (.cells #[.int .u8 103, .int .u8 u] 5))), (hVg)⟩ hHeld)
    case hst12hK11_16m =>
      intro K hK
      have hcv := conv2O (cap := 2) (b := 109) (b' := bx) rfl HBX.out hB; go_simp
      clear hcv
      go_wp2_with fail
      refine hK.out _ _ ?hs12hK11_16m (fun hHeld => ?_)
      case hs12hK11_16m => exact hq
      clear hK K
      (try simp only [Act.put, List.setIfInBounds_toArray, List.set_cons_zero, List.set_cons_succ])
      exact any_eq (by kernel_rfl) (by kernel_rfl) (hK11_12_16 _ _ ⟨gB, gV, rfl, hq, hbd, hV, hVg⟩ hHeld)
  refine any_have 9 [4] (fun a a' w' => ∃ (gA : Nat), a' = (a.put (some 33) (.slice (some ⟨gA, 0, none⟩) 2 2)) ∧ w'.cell? ⟨nb, no + i, none⟩ = some (.int .u8 u) ∧ Below wr.heap.size wr w' ∧ w'.heap[gA]? = some (.cells #[.int .u8 103, .int .u8 u] 5 (0, 0))) ?phK4m (fun hK4 => ?_)
  case phK4m =>
    intro a' w' hst hHeld
    obtain ⟨gA, rfl, hq, hbd, hA⟩ := hst
    (try simp only [Act.put, List.setIfInBounds_toArray, List.set_cons_zero, List.set_cons_succ])
    refine wpAnyH_ready (rs := [5, 11, 16]) (by kernel_rfl) (by simp) ?_
    refine AllReadyH.cons (o := ?_) ?ho5hK4m ?hst5hK4m (AllReadyH.cons (o := ?_) ?ho11hK4m ?hst11hK4m (AllReadyH.cons (o := ?_) ?ho16hK4m ?hst16hK4m AllReadyH.nil))
    case ho5hK4m => (simp only [List.getElem?_toArray, List.getElem?_cons_zero, List.getElem?_cons_succ]; rfl)
    case ho11hK4m => (simp only [List.getElem?_toArray, List.getElem?_cons_zero, List.getElem?_cons_succ]; rfl)
    case ho16hK4m => (simp only [List.getElem?_toArray, List.getElem?_cons_zero, List.getElem?_cons_succ]; rfl)
    case hst5hK4m =>
      intro K hK
      have hcv := conv2O (cap := 2) (b := 103) (b' := bx) rfl HBX.out hA; go_simp
      clear hcv
      go_wp2_with fail
      refine hK.out _ _ ?hs5hK4m (fun hHeld => ?_)
      case hs5hK4m => exact hq
      clear hK K
      (try simp only [Act.put, List.setIfInBounds_toArray, List.set_cons_zero, List.set_cons_succ])
      exact any_eq (by kernel_rfl) (by kernel_rfl) (hK4_5 _ _ ⟨gA, rfl, hq, hbd⟩ hHeld)
    case hst11hK4m =>
      intro K hK
      go_simp
      refine hK.out _ _ ?hs11hK4m (fun hHeld => ?_)
      case hs11hK4m => exact (cell_keep (bel_alloc (Below.refl _ _) (.cells #[.int .u8 109, .int .u8 u] 5)) hq)
      clear hK K
      (try simp only [Act.put, List.setIfInBounds_toArray, List.set_cons_zero, List.set_cons_succ])
      exact any_eq (by kernel_rfl) (by kernel_rfl) (hK4_11 _ _ ⟨gA, _, rfl, (cell_keep (bel_alloc (Below.refl _ _) (.cells #[.int .u8 109, .int .u8 u] 5)) hq), (bel_step hbd (bel_alloc (Below.refl _ _) (.cells #[.int .u8 109, .int .u8 u] 5))), (row_step hA (bel_alloc (Below.refl _ _) (.cells #[.int .u8 109, .int .u8 u] 5))), row_alloc _ _ _⟩ hHeld)
    case hst16hK4m =>
      intro K hK
      go_simp
      refine hK.out _ _ ?hs16hK4m (fun hHeld => ?_)
      case hs16hK4m => exact (cell_keep (bel_alloc (Below.refl _ _) (.cells #[.int .i64 0, .int .i64 0, .float .f64 0, .string ⟨#[]⟩, .slice none 0 0] 27)) hq)
      clear hK K
      (try simp only [Act.put, List.setIfInBounds_toArray, List.set_cons_zero, List.set_cons_succ])
      exact any_eq (by kernel_rfl) (by kernel_rfl) (hK4_16 _ _ ⟨gA, _, rfl, (cell_keep (bel_alloc (Below.refl _ _) (.cells #[.int .i64 0, .int .i64 0, .float .f64 0, .string ⟨#[]⟩, .slice none 0 0] 27)) hq), (bel_step hbd (bel_alloc (Below.refl _ _) (.cells #[.int .i64 0, .int .i64 0, .float .f64 0, .string ⟨#[]⟩, .slice none 0 0] 27))), (row_step hA (bel_alloc (Below.refl _ _) (.cells #[.int .i64 0, .int .i64 0, .float .f64 0, .string ⟨#[]⟩, .slice none 0 0] 27))), row_alloc _ _ _, hbd.size⟩ hHeld)
  refine any_have 9 [11] (fun a a' w' => ∃ (gB : Nat), a' = (a.put (some 40) (.slice (some ⟨gB, 0, none⟩) 2 2)) ∧ w'.cell? ⟨nb, no + i, none⟩ = some (.int .u8 u) ∧ Below wr.heap.size wr w' ∧ w'.heap[gB]? = some (.cells #[.int .u8 109, .int .u8 u] 5 (0, 0))) ?phK11m (fun hK11 => ?_)
  case phK11m =>
    intro a' w' hst hHeld
    obtain ⟨gB, rfl, hq, hbd, hB⟩ := hst
    (try simp only [Act.put, List.setIfInBounds_toArray, List.set_cons_zero, List.set_cons_succ])
    refine wpAnyH_ready (rs := [4, 12, 16]) (by kernel_rfl) (by simp) ?_
    refine AllReadyH.cons (o := ?_) ?ho4hK11m ?hst4hK11m (AllReadyH.cons (o := ?_) ?ho12hK11m ?hst12hK11m (AllReadyH.cons (o := ?_) ?ho16hK11m ?hst16hK11m AllReadyH.nil))
    case ho4hK11m => (simp only [List.getElem?_toArray, List.getElem?_cons_zero, List.getElem?_cons_succ]; rfl)
    case ho12hK11m => (simp only [List.getElem?_toArray, List.getElem?_cons_zero, List.getElem?_cons_succ]; rfl)
    case ho16hK11m => (simp only [List.getElem?_toArray, List.getElem?_cons_zero, List.getElem?_cons_succ]; rfl)
    case hst4hK11m =>
      intro K hK
      go_simp
      refine hK.out _ _ ?hs4hK11m (fun hHeld => ?_)
      case hs4hK11m => exact (cell_keep (bel_alloc (Below.refl _ _) (.cells #[.int .u8 103, .int .u8 u] 5)) hq)
      clear hK K
      (try simp only [Act.put, List.setIfInBounds_toArray, List.set_cons_zero, List.set_cons_succ])
      exact any_eq (by kernel_rfl) (by kernel_rfl) (hK4_11 _ _ ⟨_, gB, rfl, (cell_keep (bel_alloc (Below.refl _ _) (.cells #[.int .u8 103, .int .u8 u] 5)) hq), (bel_step hbd (bel_alloc (Below.refl _ _) (.cells #[.int .u8 103, .int .u8 u] 5))), row_alloc _ _ _, (row_step hB (bel_alloc (Below.refl _ _) (.cells #[.int .u8 103, .int .u8 u] 5)))⟩ hHeld)
    case hst12hK11m =>
      intro K hK
      have hcv := conv2O (cap := 2) (b := 109) (b' := bx) rfl HBX.out hB; go_simp
      clear hcv
      go_wp2_with fail
      refine hK.out _ _ ?hs12hK11m (fun hHeld => ?_)
      case hs12hK11m => exact hq
      clear hK K
      (try simp only [Act.put, List.setIfInBounds_toArray, List.set_cons_zero, List.set_cons_succ])
      exact any_eq (by kernel_rfl) (by kernel_rfl) (hK11_12 _ _ ⟨gB, rfl, hq, hbd⟩ hHeld)
    case hst16hK11m =>
      intro K hK
      go_simp
      refine hK.out _ _ ?hs16hK11m (fun hHeld => ?_)
      case hs16hK11m => exact (cell_keep (bel_alloc (Below.refl _ _) (.cells #[.int .i64 0, .int .i64 0, .float .f64 0, .string ⟨#[]⟩, .slice none 0 0] 27)) hq)
      clear hK K
      (try simp only [Act.put, List.setIfInBounds_toArray, List.set_cons_zero, List.set_cons_succ])
      exact any_eq (by kernel_rfl) (by kernel_rfl) (hK11_16 _ _ ⟨gB, _, rfl, (cell_keep (bel_alloc (Below.refl _ _) (.cells #[.int .i64 0, .int .i64 0, .float .f64 0, .string ⟨#[]⟩, .slice none 0 0] 27)) hq), (bel_step hbd (bel_alloc (Below.refl _ _) (.cells #[.int .i64 0, .int .i64 0, .float .f64 0, .string ⟨#[]⟩, .slice none 0 0] 27))), (row_step hB (bel_alloc (Below.refl _ _) (.cells #[.int .i64 0, .int .i64 0, .float .f64 0, .string ⟨#[]⟩, .slice none 0 0] 27))), row_alloc _ _ _, hbd.size⟩ hHeld)
  refine any_have 9 [16] (fun a a' w' => ∃ (gV : Nat), a' = (a.put (some 7) (.pointer (some ⟨gV, 0, none⟩))) ∧ w'.cell? ⟨nb, no + i, none⟩ = some (.int .u8 u) ∧ Below wr.heap.size wr w' ∧ w'.heap[gV]? = some (.cells #[.int .i64 0, .int .i64 0, .float .f64 0, .string ⟨#[]⟩, .slice none 0 0] 27 (0, 0)) ∧ wr.heap.size ≤ gV) ?phK16m (fun hK16 => ?_)
  case phK16m =>
    intro a' w' hst hHeld
    obtain ⟨gV, rfl, hq, hbd, hV, hVg⟩ := hst
    (try simp only [Act.put, List.setIfInBounds_toArray, List.set_cons_zero, List.set_cons_succ])
    refine wpAnyH_ready (rs := [4, 11]) (by kernel_rfl) (by simp) ?_
    refine AllReadyH.cons (o := ?_) ?ho4hK16m ?hst4hK16m (AllReadyH.cons (o := ?_) ?ho11hK16m ?hst11hK16m AllReadyH.nil)
    case ho4hK16m => (simp only [List.getElem?_toArray, List.getElem?_cons_zero, List.getElem?_cons_succ]; rfl)
    case ho11hK16m => (simp only [List.getElem?_toArray, List.getElem?_cons_zero, List.getElem?_cons_succ]; rfl)
    case hst4hK16m =>
      intro K hK
      go_simp
      refine hK.out _ _ ?hs4hK16m (fun hHeld => ?_)
      case hs4hK16m => exact (cell_keep (bel_alloc (Below.refl _ _) (.cells #[.int .u8 103, .int .u8 u] 5)) hq)
      clear hK K
      (try simp only [Act.put, List.setIfInBounds_toArray, List.set_cons_zero, List.set_cons_succ])
      exact any_eq (by kernel_rfl) (by kernel_rfl) (hK4_16 _ _ ⟨_, gV, rfl, (cell_keep (bel_alloc (Below.refl _ _) (.cells #[.int .u8 103, .int .u8 u] 5)) hq), (bel_step hbd (bel_alloc (Below.refl _ _) (.cells #[.int .u8 103, .int .u8 u] 5))), row_alloc _ _ _, (row_step hV (bel_alloc (Below.refl _ _) (.cells #[.int .u8 103, .int .u8 u] 5))), (hVg)⟩ hHeld)
    case hst11hK16m =>
      intro K hK
      go_simp
      refine hK.out _ _ ?hs11hK16m (fun hHeld => ?_)
      case hs11hK16m => exact (cell_keep (bel_alloc (Below.refl _ _) (.cells #[.int .u8 109, .int .u8 u] 5)) hq)
      clear hK K
      (try simp only [Act.put, List.setIfInBounds_toArray, List.set_cons_zero, List.set_cons_succ])
      exact any_eq (by kernel_rfl) (by kernel_rfl) (hK11_16 _ _ ⟨_, gV, rfl, (cell_keep (bel_alloc (Below.refl _ _) (.cells #[.int .u8 109, .int .u8 u] 5)) hq), (bel_step hbd (bel_alloc (Below.refl _ _) (.cells #[.int .u8 109, .int .u8 u] 5))), row_alloc _ _ _, (row_step hV (bel_alloc (Below.refl _ _) (.cells #[.int .u8 109, .int .u8 u] 5))), (hVg)⟩ hHeld)
  refine wpAnyH_ready (rs := [4, 11, 16]) (by kernel_rfl) (by simp) ?_
  refine AllReadyH.cons (o := ?_) ?ho4zm ?hst4zm (AllReadyH.cons (o := ?_) ?ho11zm ?hst11zm (AllReadyH.cons (o := ?_) ?ho16zm ?hst16zm AllReadyH.nil))
  case ho4zm => (simp only [List.getElem?_toArray, List.getElem?_cons_zero, List.getElem?_cons_succ]; rfl)
  case ho11zm => (simp only [List.getElem?_toArray, List.getElem?_cons_zero, List.getElem?_cons_succ]; rfl)
  case ho16zm => (simp only [List.getElem?_toArray, List.getElem?_cons_zero, List.getElem?_cons_succ]; rfl)
  case hst4zm =>
    intro K hK
    go_simp
    refine hK.out _ _ ?hs4zm (fun hHeld => ?_)
    case hs4zm => exact (cell_keep (bel_alloc (Below.refl _ _) (.cells #[.int .u8 103, .int .u8 u] 5)) hq)
    clear hK K
    (try simp only [Act.put, List.setIfInBounds_toArray, List.set_cons_zero, List.set_cons_succ])
    exact any_eq (by kernel_rfl) (by kernel_rfl) (hK4 _ _ ⟨_, rfl, (cell_keep (bel_alloc (Below.refl _ _) (.cells #[.int .u8 103, .int .u8 u] 5)) hq), (bel_step hbd (bel_alloc (Below.refl _ _) (.cells #[.int .u8 103, .int .u8 u] 5))), row_alloc _ _ _⟩ hHeld)
  case hst11zm =>
    intro K hK
    go_simp
    refine hK.out _ _ ?hs11zm (fun hHeld => ?_)
    case hs11zm => exact (cell_keep (bel_alloc (Below.refl _ _) (.cells #[.int .u8 109, .int .u8 u] 5)) hq)
    clear hK K
    (try simp only [Act.put, List.setIfInBounds_toArray, List.set_cons_zero, List.set_cons_succ])
    exact any_eq (by kernel_rfl) (by kernel_rfl) (hK11 _ _ ⟨_, rfl, (cell_keep (bel_alloc (Below.refl _ _) (.cells #[.int .u8 109, .int .u8 u] 5)) hq), (bel_step hbd (bel_alloc (Below.refl _ _) (.cells #[.int .u8 109, .int .u8 u] 5))), row_alloc _ _ _⟩ hHeld)
  case hst16zm =>
    intro K hK
    go_simp
    refine hK.out _ _ ?hs16zm (fun hHeld => ?_)
    case hs16zm => exact (cell_keep (bel_alloc (Below.refl _ _) (.cells #[.int .i64 0, .int .i64 0, .float .f64 0, .string ⟨#[]⟩, .slice none 0 0] 27)) hq)
    clear hK K
    (try simp only [Act.put, List.setIfInBounds_toArray, List.set_cons_zero, List.set_cons_succ])
    exact any_eq (by kernel_rfl) (by kernel_rfl) (hK16 _ _ ⟨_, rfl, (cell_keep (bel_alloc (Below.refl _ _) (.cells #[.int .i64 0, .int .i64 0, .float .f64 0, .string ⟨#[]⟩, .slice none 0 0] 27)) hq), (bel_step hbd (bel_alloc (Below.refl _ _) (.cells #[.int .i64 0, .int .i64 0, .float .f64 0, .string ⟨#[]⟩, .slice none 0 0] 27))), row_alloc _ _ _, hbd.size⟩ hHeld)
end Num
end Go.Proofs.Ytpbfaffheigjcaa
