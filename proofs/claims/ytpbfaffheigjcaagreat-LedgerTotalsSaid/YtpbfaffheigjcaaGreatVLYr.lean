/-
  LedgerTotals: a call of the reference's Do, its results laid in boxes (region 11).
-/
import Derived.Test.YtpbfaffheigjcaaGreatVLY
import Derived.Test.YtpbfaffheigjcaaGreatVp19LQd
import Derived.Test.YtpbfaffheigjcaaGreatVp14LD
namespace Go.Proofs.YtpbfaffheigjcaaGreat
open Go.RowKit
namespace Num
open Ints
set_option linter.unusedSimpArgs false
set_option linter.unusedVariables false
/-- The region of that number in a code. -/
def regionByT (n : Nat) : Code → Option Code
  | .region i ops d => if i = n then some (.region i ops d) else none
  | .seq a b => match regionByT n a with
    | some c => some c
    | none => regionByT n b
  | .cond _ a b => match regionByT n a with
    | some c => some c
    | none => regionByT n b
  | .block _ c => regionByT n c
  | .loop c => regionByT n c
  | .scope c => regionByT n c
  | _ => none
set_option maxRecDepth 1000000 in
set_option maxHeartbeats 8000000 in
theorem tot11_any (w : World) (b off l c i k : Nat) (q : Option Addr) (m d : Nat) (sb : Nat) (ps : Option Addr) (ls cs : Nat) (wr : World) (c1 c2 c5 c6 c7 c8 c9 c10 c11 c12 c13 c14 c15 c16 c17 c18 c19 c20 c21 c22 c23 c24 c25 c26 c27 c28 c29 c30 c31 c32 c33 c34 c35 c36 c37 c38 c39 c40 c41 c42 c43 c44 c45 c46 c47 c48 c49 c50 c51 c52 c53 c54 c55 c56 c57 c58 c59 c60 c61 c62 c63 c64 c65 c66 c67 c68 c69 c70 c71 c72 c73 c74 c75 c76 c77 c78 c79 c80 c81 c82 c83 c84 c85 c86 c87 c88 c89 c90 c91 c92 c93 c94 c95 c96 c97 c98 c99 c100 c101 c102 c103 c104 c105 c106 c107 c108 : Value) (Q : Exit → Act → World → Prop) (hP : ∀ p a (d : Option Tmp) v w, Q (.panic p) (Act.put a d v) w → Q (.panic p) a w)
    (TR0 : Hid (wr.heap[sb]? = some (.cells #[.int .i64 4, .int .i64 0, .float .f64 0, .string ⟨#[]⟩, .slice ps ls cs] 27 (0, 0)) ∧ Below w.heap.size w wr)) (hk0 : w.cell? ⟨b, off + i * 2, none⟩ = some (.int .u8 (k : Nat))) (hk1 : w.cell? ⟨b, off + i * 2 + 1, none⟩ = some (.slice q m d)) (hk : k < 256) (hbl : b < w.heap.size) (hsb : w.heap.size ≤ sb) (hi0 : (0 : Int) ≤ (i : Int)) (hil : (i : Int) < (l : Int))
    (HDO : Hid (∀ W, Below wr.heap.size wr W → Calls Tryz.prog 13 #[.string { data := #[108, 101, 100, 103, 101, 114] }, .agg #[.int .i64 4, .int .i64 0, .float .f64 0, .string ⟨#[]⟩, .slice ps ls cs], .string (mthN (k % 8)), .slice q m d] W fun e w' => RDoW W e w'))
    (hQ : ∀ (gA gB : Nat) (Kt It : Int) (Ft : Nat) (St : ByteArray) (qt : Option Addr) (mt dt : Nat) (Ku Iu : Int) (Fu : Nat) (Su : ByteArray) (qu : Option Addr) (mu du : Nat) (z : Int) (wy : World), sb < gA → sb < gB → wr.heap.size ≤ wy.heap.size → (wy.heap[sb]? = some (.cells #[.int .i64 4, .int .i64 0, .float .f64 0, .string ⟨#[]⟩, .slice ps ls cs] 27 (0, 0)) ∧ wy.heap[gA]? = some (.cells #[.int .i64 Kt, .int .i64 It, .float .f64 Ft, .string St, .slice qt mt dt] 27 (0, 0)) ∧ wy.heap[gB]? = some (.cells #[.int .i64 Ku, .int .i64 Iu, .float .f64 Fu, .string Su, .slice qu mu du] 27 (0, 0)) ∧ Below w.heap.size w wy) → Hid ((z = 0 → ∃ AS2, OkA AS2 ∧ ∀ (y : World), (∀ b, b ≠ sb → b < wy.heap.size → y.heap[b]? = wy.heap[b]?) → Rep y 3 (.agg #[.int .i64 Kt, .int .i64 It, .float .f64 Ft, .string St, .slice qt mt dt]) (tableT 0 (ledA AS2)))) → Below (wr.heap.size) wr wy → Q .normal { tmps := #[(.slice (some ⟨b, off, none⟩) l c), c1, c2, (.pointer (some ⟨sb, 0, none⟩)), (.int .i64 (i : Nat)), (.pointer (some ⟨gA, 0, none⟩)), (.pointer (some ⟨gB, 0, none⟩)), (.int .i64 z), c8, c9, c10, c11, c12, c13, c14, c15, c16, c17, c18, c19, c20, c21, c22, c23, c24, c25, c26, c27, c28, c29, c30, c31, c32, c33, c34, (.tuple #[.agg #[.int .i64 Kt, .int .i64 It, .float .f64 Ft, .string St, .slice qt mt dt], .agg #[.int .i64 Ku, .int .i64 Iu, .float .f64 Fu, .string Su, .slice qu mu du], .int .i64 z]), (.agg #[.int .i64 4, .int .i64 0, .float .f64 0, .string ⟨#[]⟩, .slice ps ls cs]), (.slice (some ⟨b, off, none⟩) l c), (.int .i64 (i : Nat)), (.pointer (some ⟨b, off + i * 2, none⟩)), (.pointer (some ⟨b, off + i * 2, none⟩)), (.int .u8 (k : Nat)), (.string (mthN (k % 8))), (.slice (some ⟨b, off, none⟩) l c), (.int .i64 (i : Nat)), (.pointer (some ⟨b, off + i * 2, none⟩)), (.pointer (some ⟨b, off + i * 2 + 1, none⟩)), (.slice q m d), (.tuple #[.agg #[.int .i64 Kt, .int .i64 It, .float .f64 Ft, .string St, .slice qt mt dt], .agg #[.int .i64 Ku, .int .i64 Iu, .float .f64 Fu, .string Su, .slice qu mu du], .int .i64 z]), (.agg #[.int .i64 Kt, .int .i64 It, .float .f64 Ft, .string St, .slice qt mt dt]), (.agg #[.int .i64 Ku, .int .i64 Iu, .float .f64 Fu, .string Su, .slice qu mu du]), (.int .i64 z), c52, c53, c54, c55, c56, c57, c58, c59, c60, c61, c62, c63, c64, c65, c66, c67, c68, c69, c70, c71, c72, c73, c74, c75, c76, c77, c78, c79, c80, c81, c82, c83, c84, c85, c86, c87, c88, c89, c90, c91, c92, c93, c94, c95, c96, c97, c98, c99, c100, c101, c102, c103, c104, c105, c106, c107, c108], defers := [] } wy) :
    Code.wp Tryz.prog ((Tryz.f7.body.bind (regionByT 11)).getD .skip) Q { tmps := #[(.slice (some ⟨b, off, none⟩) l c), c1, c2, (.pointer (some ⟨sb, 0, none⟩)), (.int .i64 (i : Nat)), c5, c6, c7, c8, c9, c10, c11, c12, c13, c14, c15, c16, c17, c18, c19, c20, c21, c22, c23, c24, c25, c26, c27, c28, c29, c30, c31, c32, c33, c34, c35, c36, c37, c38, c39, c40, c41, c42, c43, c44, c45, c46, c47, c48, c49, c50, c51, c52, c53, c54, c55, c56, c57, c58, c59, c60, c61, c62, c63, c64, c65, c66, c67, c68, c69, c70, c71, c72, c73, c74, c75, c76, c77, c78, c79, c80, c81, c82, c83, c84, c85, c86, c87, c88, c89, c90, c91, c92, c93, c94, c95, c96, c97, c98, c99, c100, c101, c102, c103, c104, c105, c106, c107, c108], defers := [] } wr := by
  conv => arg 2; whnf
  have HK := Lib.hid (show ∀ W, Below w.heap.size w W → W.cell? ⟨b, off + i * 2, none⟩ = some (.int .u8 (k : Nat)) ∧ W.cell? ⟨b, off + i * 2 + 1, none⟩ = some (.slice q m d) from fun W hb => ⟨cell_keep hb hk0, cell_keep hb hk1⟩)
  clear hk0 hk1
  have HDW := Lib.hid (show (wr.drew.heap[sb]? = some (.cells #[.int .i64 4, .int .i64 0, .float .f64 0, .string ⟨#[]⟩, .slice ps ls cs] 27 (0, 0))) ∧ Below w.heap.size w wr.drew ∧ Below wr.heap.size wr wr.drew from ⟨row_step TR0.out.1 (Below.drew (Below.refl _ _)), bel_step TR0.out.2 (Below.drew (Below.refl _ _)), Below.drew (Below.refl _ _)⟩)
  clear TR0
  refine wp_region_held_drew (S := (fun z => z.cell? ⟨sb, 0, none⟩ = some (.int .i64 4) ∧ z.cell? ⟨sb, 1, none⟩ = some (.int .i64 0) ∧ z.cell? ⟨sb, 2, none⟩ = some (.float .f64 0) ∧ z.cell? ⟨sb, 3, none⟩ = some (.string ⟨#[]⟩) ∧ z.cell? ⟨sb, 4, none⟩ = some (.slice ps ls cs) ∧ z.cell? ⟨b, off + i * 2, none⟩ = some (.int .u8 (k : Nat)) ∧ z.cell? ⟨b, off + i * 2 + 1, none⟩ = some (.slice q m d))) (by kernel_rfl) ?_ (fun hHeld => ?_)
  · exact ⟨row_cell HDW.out.1 0, row_cell HDW.out.1 1, row_cell HDW.out.1 2, row_cell HDW.out.1 3, row_cell HDW.out.1 4, (HK.out _ HDW.out.2.1).1, (HK.out _ HDW.out.2.1).2⟩
  revert HDW hHeld
  generalize wr.drew = Wd
  intro HDW hHeld
  have hR := HDW.out.1
  have hbd := HDW.out.2.1
  have hbr := HDW.out.2.2
  refine wpAnyH_take (i := 0) (oi := ?_) (v := ?_) ?hiq0 (by kernel_rfl) ?hfq0 ?hrq0 ?hQq0 ?hyq0 (by assumption) ?restq0
  case hiq0 => (simp only [List.getElem?_toArray, List.getElem?_cons_zero, List.getElem?_cons_succ]; rfl)
  case hfq0 => kernel_rfl
  case hrq0 => kernel_rfl
  case hyq0 => (refine Or.inl ⟨by rfl, ?_⟩; intro wS hSw; (try dsimp only at hSw); go_simp; (try with_reducible rfl))
  case hQq0 => exact fun _ _ _ h => hP _ _ _ _ _ h
  (try simp only [Act.put, List.setIfInBounds_toArray, List.set_cons_zero, List.set_cons_succ])
  refine wpAnyH_take (i := 1) (oi := ?_) (v := ?_) ?hiq1 (by kernel_rfl) ?hfq1 ?hrq1 ?hQq1 ?hyq1 (by assumption) ?restq1
  case hiq1 => (simp only [List.getElem?_toArray, List.getElem?_cons_zero, List.getElem?_cons_succ]; rfl)
  case hfq1 => kernel_rfl
  case hrq1 => kernel_rfl
  case hyq1 => (refine Or.inl ⟨by rfl, ?_⟩; intro wS hSw; (try dsimp only at hSw); go_simp; (try with_reducible rfl))
  case hQq1 => exact fun _ _ _ h => hP _ _ _ _ _ h
  (try simp only [Act.put, List.setIfInBounds_toArray, List.set_cons_zero, List.set_cons_succ])
  refine wpAnyH_take (i := 2) (oi := ?_) (v := ?_) ?hiq2 (by kernel_rfl) ?hfq2 ?hrq2 ?hQq2 ?hyq2 (by assumption) ?restq2
  case hiq2 => (simp only [List.getElem?_toArray, List.getElem?_cons_zero, List.getElem?_cons_succ]; rfl)
  case hfq2 => kernel_rfl
  case hrq2 => kernel_rfl
  case hyq2 => (refine Or.inl ⟨by rfl, ?_⟩; intro wS hSw; (try dsimp only at hSw); go_simp; (try with_reducible rfl))
  case hQq2 => exact fun _ _ _ h => hP _ _ _ _ _ h
  (try simp only [Act.put, List.setIfInBounds_toArray, List.set_cons_zero, List.set_cons_succ])
  refine wpAnyH_take (i := 3) (oi := ?_) (v := ?_) ?hiq3 (by kernel_rfl) ?hfq3 ?hrq3 ?hQq3 ?hyq3 (by assumption) ?restq3
  case hiq3 => (simp only [List.getElem?_toArray, List.getElem?_cons_zero, List.getElem?_cons_succ]; rfl)
  case hfq3 => kernel_rfl
  case hrq3 => kernel_rfl
  case hyq3 => (refine Or.inl ⟨by rfl, ?_⟩; intro wS hSw; (try dsimp only at hSw); go_simp; (try with_reducible rfl))
  case hQq3 => exact fun _ _ _ h => hP _ _ _ _ _ h
  (try simp only [Act.put, List.setIfInBounds_toArray, List.set_cons_zero, List.set_cons_succ])
  refine wpAnyH_take (i := 4) (oi := ?_) (v := ?_) ?hiq4 (by kernel_rfl) ?hfq4 ?hrq4 ?hQq4 ?hyq4 (by assumption) ?restq4
  case hiq4 => (simp only [List.getElem?_toArray, List.getElem?_cons_zero, List.getElem?_cons_succ]; rfl)
  case hfq4 => kernel_rfl
  case hrq4 => kernel_rfl
  case hyq4 => (refine Or.inl ⟨by rfl, ?_⟩; intro wS hSw; (try dsimp only at hSw); go_simp; (try with_reducible rfl))
  case hQq4 => exact fun _ _ _ h => hP _ _ _ _ _ h
  (try simp only [Act.put, List.setIfInBounds_toArray, List.set_cons_zero, List.set_cons_succ])
  refine wpAnyH_take (i := 5) (oi := ?_) (v := ?_) ?hiq5 (by kernel_rfl) ?hfq5 ?hrq5 ?hQq5 ?hyq5 (by assumption) ?restq5
  case hiq5 => (simp only [List.getElem?_toArray, List.getElem?_cons_zero, List.getElem?_cons_succ]; rfl)
  case hfq5 => kernel_rfl
  case hrq5 => kernel_rfl
  case hyq5 => (refine Or.inl ⟨by rfl, ?_⟩; intro wS hSw; (try dsimp only at hSw); go_simp; (try with_reducible rfl))
  case hQq5 => exact fun _ _ _ h => hP _ _ _ _ _ h
  (try simp only [Act.put, List.setIfInBounds_toArray, List.set_cons_zero, List.set_cons_succ])
  refine wpAnyH_take (i := 7) (oi := ?_) (v := ?_) ?hiq7 (by kernel_rfl) ?hfq7 ?hrq7 ?hQq7 ?hyq7 (by assumption) ?restq7
  case hiq7 => (simp only [List.getElem?_toArray, List.getElem?_cons_zero, List.getElem?_cons_succ]; rfl)
  case hfq7 => kernel_rfl
  case hrq7 => kernel_rfl
  case hyq7 => (refine Or.inl ⟨by rfl, ?_⟩; intro wS hSw; (try dsimp only at hSw); go_simp; (try with_reducible rfl))
  case hQq7 => exact fun _ _ _ h => hP _ _ _ _ _ h
  (try simp only [Act.put, List.setIfInBounds_toArray, List.set_cons_zero, List.set_cons_succ])
  refine wpAnyH_take (i := 8) (oi := ?_) (v := ?_) ?hiq8 (by kernel_rfl) ?hfq8 ?hrq8 ?hQq8 ?hyq8 (by assumption) ?restq8
  case hiq8 => (simp only [List.getElem?_toArray, List.getElem?_cons_zero, List.getElem?_cons_succ]; rfl)
  case hfq8 => kernel_rfl
  case hrq8 => kernel_rfl
  case hyq8 => (refine Or.inl ⟨by rfl, ?_⟩; intro wS hSw; (try dsimp only at hSw); go_simp; (try with_reducible rfl))
  case hQq8 => exact fun _ _ _ h => hP _ _ _ _ _ h
  (try simp only [Act.put, List.setIfInBounds_toArray, List.set_cons_zero, List.set_cons_succ])
  refine wpAnyH_take (i := 9) (oi := ?_) (v := ?_) ?hiq9 (by kernel_rfl) ?hfq9 ?hrq9 ?hQq9 ?hyq9 (by assumption) ?restq9
  case hiq9 => (simp only [List.getElem?_toArray, List.getElem?_cons_zero, List.getElem?_cons_succ]; rfl)
  case hfq9 => kernel_rfl
  case hrq9 => kernel_rfl
  case hyq9 => (refine Or.inl ⟨by rfl, ?_⟩; intro wS hSw; (try dsimp only at hSw); go_simp; (try with_reducible rfl))
  case hQq9 => exact fun _ _ _ h => hP _ _ _ _ _ h
  (try simp only [Act.put, List.setIfInBounds_toArray, List.set_cons_zero, List.set_cons_succ])
  refine wpAnyH_take (i := 10) (oi := ?_) (v := ?_) ?hiq10 (by kernel_rfl) ?hfq10 ?hrq10 ?hQq10 ?hyq10 (by assumption) ?restq10
  case hiq10 => (simp only [List.getElem?_toArray, List.getElem?_cons_zero, List.getElem?_cons_succ]; rfl)
  case hfq10 => kernel_rfl
  case hrq10 => kernel_rfl
  case hyq10 => (refine Or.inl ⟨by rfl, ?_⟩; intro wS hSw; (try dsimp only at hSw); go_simp; (try with_reducible rfl))
  case hQq10 => exact fun _ _ _ h => hP _ _ _ _ _ h
  (try simp only [Act.put, List.setIfInBounds_toArray, List.set_cons_zero, List.set_cons_succ])
  refine wpAnyH_take (i := 11) (oi := ?_) (v := ?_) ?hiq11 (by kernel_rfl) ?hfq11 ?hrq11 ?hQq11 ?hyq11 (by assumption) ?restq11
  case hiq11 => (simp only [List.getElem?_toArray, List.getElem?_cons_zero, List.getElem?_cons_succ]; rfl)
  case hfq11 => kernel_rfl
  case hrq11 => kernel_rfl
  case hyq11 => (refine Or.inl ⟨by rfl, ?_⟩; intro wS hSw; (try dsimp only at hSw); go_simp; (try with_reducible rfl))
  case hQq11 => exact fun _ _ _ h => hP _ _ _ _ _ h
  (try simp only [Act.put, List.setIfInBounds_toArray, List.set_cons_zero, List.set_cons_succ])
  refine any_have 3 [6, 12, 13, 14, 15, 16, 17, 18] (fun a a' w' => ∃ (Kt : Int) (It : Int) (Ft : Nat) (St : ByteArray) (qt : Option Addr) (mt : Nat) (dt : Nat) (Ku : Int) (Iu : Int) (Fu : Nat) (Su : ByteArray) (qu : Option Addr) (mu : Nat) (du : Nat) (z : Int) (B : Nat) (wD : World) (gA : Nat) (gB : Nat), a' = ((((((((a.put (some 42) (.string (mthN (k % 8)))).put (some 48) (.tuple #[.agg #[.int .i64 Kt, .int .i64 It, .float .f64 Ft, .string St, .slice qt mt dt], .agg #[.int .i64 Ku, .int .i64 Iu, .float .f64 Fu, .string Su, .slice qu mu du], .int .i64 z])).put (some 35) (.tuple #[.agg #[.int .i64 Kt, .int .i64 It, .float .f64 Ft, .string St, .slice qt mt dt], .agg #[.int .i64 Ku, .int .i64 Iu, .float .f64 Fu, .string Su, .slice qu mu du], .int .i64 z])).put (some 49) (.agg #[.int .i64 Kt, .int .i64 It, .float .f64 Ft, .string St, .slice qt mt dt])).put (some 50) (.agg #[.int .i64 Ku, .int .i64 Iu, .float .f64 Fu, .string Su, .slice qu mu du])).put (some 51) (.int .i64 z)).put (some 5) (.pointer (some ⟨gA, 0, none⟩))).put (some 6) (.pointer (some ⟨gB, 0, none⟩))) ∧ w'.heap[sb]? = some (.cells #[.int .i64 4, .int .i64 0, .float .f64 0, .string ⟨#[]⟩, .slice ps ls cs] 27 (0, 0)) ∧ Below w.heap.size w w' ∧ Below wr.heap.size wr w' ∧ (Stay B wD w' ∧ wD.heap.size ≤ w'.heap.size) ∧ sb < B ∧ Hid (z = 0 → ∃ AS2, OkA AS2 ∧ ∀ y, Stay B wD y → Rep y 3 (.agg #[.int .i64 Kt, .int .i64 It, .float .f64 Ft, .string St, .slice qt mt dt]) (tableT 0 (ledA AS2))) ∧ w'.heap[gA]? = some (.cells #[.int .i64 0, .int .i64 0, .float .f64 0, .string ⟨#[]⟩, .slice none 0 0] 27 (0, 0)) ∧ sb < gA ∧ wr.heap.size ≤ gA ∧ w'.heap[gB]? = some (.cells #[.int .i64 0, .int .i64 0, .float .f64 0, .string ⟨#[]⟩, .slice none 0 0] 27 (0, 0)) ∧ sb < gB ∧ wr.heap.size ≤ gB ∧ gA ≠ gB ∧ (gA < B ∨ wD.heap.size ≤ gA) ∧ (gB < B ∨ wD.heap.size ≤ gB)) ?phK6_12_17_18m (fun hK6_12_17_18 => ?_)
  case phK6_12_17_18m =>
    intro a' w' hst hHeld
    obtain ⟨Kt, It, Ft, St, qt, mt, dt, Ku, Iu, Fu, Su, qu, mu, du, z, B, wD, gA, gB, rfl, hR, hbd, hbr, hst, hsB, HZ, hgA, hsgA, hwgA, hgB, hsgB, hwgB, hAB, hDA, hDB⟩ := hst
    (try simp only [Act.put, List.setIfInBounds_toArray, List.set_cons_zero, List.set_cons_succ])
    have TS0 := Lib.hid (show w'.heap[sb]? = some (.cells #[.int .i64 4, .int .i64 0, .float .f64 0, .string ⟨#[]⟩, .slice ps ls cs] 27 (0, 0)) ∧ w'.heap[gA]? = some (.cells #[.int .i64 0, .int .i64 0, .float .f64 0, .string ⟨#[]⟩, .slice none 0 0] 27 (0, 0)) ∧ w'.heap[gB]? = some (.cells #[.int .i64 0, .int .i64 0, .float .f64 0, .string ⟨#[]⟩, .slice none 0 0] 27 (0, 0)) ∧ (Stay B wD w' ∧ wD.heap.size ≤ w'.heap.size) ∧ (Below wr.heap.size wr w') ∧ Below w.heap.size w w' from ⟨hR, hgA, hgB, hst, hbr, hbd⟩)
    clear hR hgA hgB hst hbr hbd
    refine wpAnyH_ready (rs := [19]) (by kernel_rfl) (by simp) ?_
    refine AllReadyH.cons (o := ?_) ?hos0hK6_12_17_18m ?hsts0hK6_12_17_18m AllReadyH.nil
    case hos0hK6_12_17_18m => (simp only [List.getElem?_toArray, List.getElem?_cons_zero, List.getElem?_cons_succ]; rfl)
    intro K hK
    have b30 := row_cell TS0.out.2.1 0; have b31 := row_cell TS0.out.2.1 1; have b32 := row_cell TS0.out.2.1 2; have b33 := row_cell TS0.out.2.1 3; have b34 := row_cell TS0.out.2.1 4; have b3f := row_frz TS0.out.2.1; have b3l := row_lt TS0.out.2.1; go_simp
    have TS1 := Lib.hid (show (((((w'.setCell ⟨gA, 0, none⟩ (.int .i64 Kt)).setCell ⟨gA, 1, none⟩ (.int .i64 It)).setCell ⟨gA, 2, none⟩ (.float .f64 Ft)).setCell ⟨gA, 3, none⟩ (.string St)).setCell ⟨gA, 4, none⟩ (.slice qt mt dt)).heap[sb]? = some (.cells #[.int .i64 4, .int .i64 0, .float .f64 0, .string ⟨#[]⟩, .slice ps ls cs] 27 (0, 0)) ∧ (((((w'.setCell ⟨gA, 0, none⟩ (.int .i64 Kt)).setCell ⟨gA, 1, none⟩ (.int .i64 It)).setCell ⟨gA, 2, none⟩ (.float .f64 Ft)).setCell ⟨gA, 3, none⟩ (.string St)).setCell ⟨gA, 4, none⟩ (.slice qt mt dt)).heap[gA]? = some (.cells #[.int .i64 Kt, .int .i64 It, .float .f64 Ft, .string St, .slice qt mt dt] 27 (0, 0)) ∧ (((((w'.setCell ⟨gA, 0, none⟩ (.int .i64 Kt)).setCell ⟨gA, 1, none⟩ (.int .i64 It)).setCell ⟨gA, 2, none⟩ (.float .f64 Ft)).setCell ⟨gA, 3, none⟩ (.string St)).setCell ⟨gA, 4, none⟩ (.slice qt mt dt)).heap[gB]? = some (.cells #[.int .i64 0, .int .i64 0, .float .f64 0, .string ⟨#[]⟩, .slice none 0 0] 27 (0, 0)) ∧ (Stay B wD (((((w'.setCell ⟨gA, 0, none⟩ (.int .i64 Kt)).setCell ⟨gA, 1, none⟩ (.int .i64 It)).setCell ⟨gA, 2, none⟩ (.float .f64 Ft)).setCell ⟨gA, 3, none⟩ (.string St)).setCell ⟨gA, 4, none⟩ (.slice qt mt dt)) ∧ wD.heap.size ≤ (((((w'.setCell ⟨gA, 0, none⟩ (.int .i64 Kt)).setCell ⟨gA, 1, none⟩ (.int .i64 It)).setCell ⟨gA, 2, none⟩ (.float .f64 Ft)).setCell ⟨gA, 3, none⟩ (.string St)).setCell ⟨gA, 4, none⟩ (.slice qt mt dt)).heap.size) ∧ (Below wr.heap.size wr (((((w'.setCell ⟨gA, 0, none⟩ (.int .i64 Kt)).setCell ⟨gA, 1, none⟩ (.int .i64 It)).setCell ⟨gA, 2, none⟩ (.float .f64 Ft)).setCell ⟨gA, 3, none⟩ (.string St)).setCell ⟨gA, 4, none⟩ (.slice qt mt dt))) ∧ Below w.heap.size w (((((w'.setCell ⟨gA, 0, none⟩ (.int .i64 Kt)).setCell ⟨gA, 1, none⟩ (.int .i64 It)).setCell ⟨gA, 2, none⟩ (.float .f64 Ft)).setCell ⟨gA, 3, none⟩ (.string St)).setCell ⟨gA, 4, none⟩ (.slice qt mt dt)) from ⟨(set5_other (w := w') (g := gA) (o := 0) (by omega)).trans TS0.out.1, set5_row TS0.out.2.1 (.int .i64 Kt) (.int .i64 It) (.float .f64 Ft) (.string St) (.slice qt mt dt), (set5_other (w := w') (g := gA) (o := 0) (by omega)).trans TS0.out.2.2.1, ⟨stay_set2 TS0.out.2.2.2.1.1 (by omega) (.int .i64 Kt) (.int .i64 It) (.float .f64 Ft) (.string St) (.slice qt mt dt), by show _ ≤ (set5 w' (gA) 0 (.int .i64 Kt) (.int .i64 It) (.float .f64 Ft) (.string St) (.slice qt mt dt)).heap.size; rw [set5_size]; exact TS0.out.2.2.2.1.2⟩, set5_below TS0.out.2.2.2.2.1 (by omega) (.int .i64 Kt) (.int .i64 It) (.float .f64 Ft) (.string St) (.slice qt mt dt), set5_below TS0.out.2.2.2.2.2 (by omega) (.int .i64 Kt) (.int .i64 It) (.float .f64 Ft) (.string St) (.slice qt mt dt)⟩)
    clear TS0
    clear b30 b31 b32 b33 b34 b3f b3l
    go_wp2_with fail
    refine hK.out _ _ ?hss0hK6_12_17_18m (fun hHeld => ?_)
    case hss0hK6_12_17_18m => exact ⟨row_cell TS1.out.1 0, row_cell TS1.out.1 1, row_cell TS1.out.1 2, row_cell TS1.out.1 3, row_cell TS1.out.1 4, (HK.out _ TS1.out.2.2.2.2.2).1, (HK.out _ TS1.out.2.2.2.2.2).2⟩
    clear hK K
    (try simp only [Act.put, List.setIfInBounds_toArray, List.set_cons_zero, List.set_cons_succ])
    refine wpAnyH_ready (rs := [20]) (by kernel_rfl) (by simp) ?_
    refine AllReadyH.cons (o := ?_) ?hos1hK6_12_17_18m ?hsts1hK6_12_17_18m AllReadyH.nil
    case hos1hK6_12_17_18m => (simp only [List.getElem?_toArray, List.getElem?_cons_zero, List.getElem?_cons_succ]; rfl)
    intro K hK
    have b30 := row_cell TS1.out.2.2.1 0; have b31 := row_cell TS1.out.2.2.1 1; have b32 := row_cell TS1.out.2.2.1 2; have b33 := row_cell TS1.out.2.2.1 3; have b34 := row_cell TS1.out.2.2.1 4; have b3f := row_frz TS1.out.2.2.1; have b3l := row_lt TS1.out.2.2.1; go_simp
    have TS2 := Lib.hid (show ((((((((((w'.setCell ⟨gA, 0, none⟩ (.int .i64 Kt)).setCell ⟨gA, 1, none⟩ (.int .i64 It)).setCell ⟨gA, 2, none⟩ (.float .f64 Ft)).setCell ⟨gA, 3, none⟩ (.string St)).setCell ⟨gA, 4, none⟩ (.slice qt mt dt)).setCell ⟨gB, 0, none⟩ (.int .i64 Ku)).setCell ⟨gB, 1, none⟩ (.int .i64 Iu)).setCell ⟨gB, 2, none⟩ (.float .f64 Fu)).setCell ⟨gB, 3, none⟩ (.string Su)).setCell ⟨gB, 4, none⟩ (.slice qu mu du)).heap[sb]? = some (.cells #[.int .i64 4, .int .i64 0, .float .f64 0, .string ⟨#[]⟩, .slice ps ls cs] 27 (0, 0)) ∧ ((((((((((w'.setCell ⟨gA, 0, none⟩ (.int .i64 Kt)).setCell ⟨gA, 1, none⟩ (.int .i64 It)).setCell ⟨gA, 2, none⟩ (.float .f64 Ft)).setCell ⟨gA, 3, none⟩ (.string St)).setCell ⟨gA, 4, none⟩ (.slice qt mt dt)).setCell ⟨gB, 0, none⟩ (.int .i64 Ku)).setCell ⟨gB, 1, none⟩ (.int .i64 Iu)).setCell ⟨gB, 2, none⟩ (.float .f64 Fu)).setCell ⟨gB, 3, none⟩ (.string Su)).setCell ⟨gB, 4, none⟩ (.slice qu mu du)).heap[gA]? = some (.cells #[.int .i64 Kt, .int .i64 It, .float .f64 Ft, .string St, .slice qt mt dt] 27 (0, 0)) ∧ ((((((((((w'.setCell ⟨gA, 0, none⟩ (.int .i64 Kt)).setCell ⟨gA, 1, none⟩ (.int .i64 It)).setCell ⟨gA, 2, none⟩ (.float .f64 Ft)).setCell ⟨gA, 3, none⟩ (.string St)).setCell ⟨gA, 4, none⟩ (.slice qt mt dt)).setCell ⟨gB, 0, none⟩ (.int .i64 Ku)).setCell ⟨gB, 1, none⟩ (.int .i64 Iu)).setCell ⟨gB, 2, none⟩ (.float .f64 Fu)).setCell ⟨gB, 3, none⟩ (.string Su)).setCell ⟨gB, 4, none⟩ (.slice qu mu du)).heap[gB]? = some (.cells #[.int .i64 Ku, .int .i64 Iu, .float .f64 Fu, .string Su, .slice qu mu du] 27 (0, 0)) ∧ (Stay B wD ((((((((((w'.setCell ⟨gA, 0, none⟩ (.int .i64 Kt)).setCell ⟨gA, 1, none⟩ (.int .i64 It)).setCell ⟨gA, 2, none⟩ (.float .f64 Ft)).setCell ⟨gA, 3, none⟩ (.string St)).setCell ⟨gA, 4, none⟩ (.slice qt mt dt)).setCell ⟨gB, 0, none⟩ (.int .i64 Ku)).setCell ⟨gB, 1, none⟩ (.int .i64 Iu)).setCell ⟨gB, 2, none⟩ (.float .f64 Fu)).setCell ⟨gB, 3, none⟩ (.string Su)).setCell ⟨gB, 4, none⟩ (.slice qu mu du)) ∧ wD.heap.size ≤ ((((((((((w'.setCell ⟨gA, 0, none⟩ (.int .i64 Kt)).setCell ⟨gA, 1, none⟩ (.int .i64 It)).setCell ⟨gA, 2, none⟩ (.float .f64 Ft)).setCell ⟨gA, 3, none⟩ (.string St)).setCell ⟨gA, 4, none⟩ (.slice qt mt dt)).setCell ⟨gB, 0, none⟩ (.int .i64 Ku)).setCell ⟨gB, 1, none⟩ (.int .i64 Iu)).setCell ⟨gB, 2, none⟩ (.float .f64 Fu)).setCell ⟨gB, 3, none⟩ (.string Su)).setCell ⟨gB, 4, none⟩ (.slice qu mu du)).heap.size) ∧ (Below wr.heap.size wr ((((((((((w'.setCell ⟨gA, 0, none⟩ (.int .i64 Kt)).setCell ⟨gA, 1, none⟩ (.int .i64 It)).setCell ⟨gA, 2, none⟩ (.float .f64 Ft)).setCell ⟨gA, 3, none⟩ (.string St)).setCell ⟨gA, 4, none⟩ (.slice qt mt dt)).setCell ⟨gB, 0, none⟩ (.int .i64 Ku)).setCell ⟨gB, 1, none⟩ (.int .i64 Iu)).setCell ⟨gB, 2, none⟩ (.float .f64 Fu)).setCell ⟨gB, 3, none⟩ (.string Su)).setCell ⟨gB, 4, none⟩ (.slice qu mu du))) ∧ Below w.heap.size w ((((((((((w'.setCell ⟨gA, 0, none⟩ (.int .i64 Kt)).setCell ⟨gA, 1, none⟩ (.int .i64 It)).setCell ⟨gA, 2, none⟩ (.float .f64 Ft)).setCell ⟨gA, 3, none⟩ (.string St)).setCell ⟨gA, 4, none⟩ (.slice qt mt dt)).setCell ⟨gB, 0, none⟩ (.int .i64 Ku)).setCell ⟨gB, 1, none⟩ (.int .i64 Iu)).setCell ⟨gB, 2, none⟩ (.float .f64 Fu)).setCell ⟨gB, 3, none⟩ (.string Su)).setCell ⟨gB, 4, none⟩ (.slice qu mu du)) from ⟨(set5_other (w := (((((w'.setCell ⟨gA, 0, none⟩ (.int .i64 Kt)).setCell ⟨gA, 1, none⟩ (.int .i64 It)).setCell ⟨gA, 2, none⟩ (.float .f64 Ft)).setCell ⟨gA, 3, none⟩ (.string St)).setCell ⟨gA, 4, none⟩ (.slice qt mt dt))) (g := gB) (o := 0) (by omega)).trans TS1.out.1, (set5_other (w := (((((w'.setCell ⟨gA, 0, none⟩ (.int .i64 Kt)).setCell ⟨gA, 1, none⟩ (.int .i64 It)).setCell ⟨gA, 2, none⟩ (.float .f64 Ft)).setCell ⟨gA, 3, none⟩ (.string St)).setCell ⟨gA, 4, none⟩ (.slice qt mt dt))) (g := gB) (o := 0) (by omega)).trans TS1.out.2.1, set5_row TS1.out.2.2.1 (.int .i64 Ku) (.int .i64 Iu) (.float .f64 Fu) (.string Su) (.slice qu mu du), ⟨stay_set2 TS1.out.2.2.2.1.1 (by omega) (.int .i64 Ku) (.int .i64 Iu) (.float .f64 Fu) (.string Su) (.slice qu mu du), by show _ ≤ (set5 (((((w'.setCell ⟨gA, 0, none⟩ (.int .i64 Kt)).setCell ⟨gA, 1, none⟩ (.int .i64 It)).setCell ⟨gA, 2, none⟩ (.float .f64 Ft)).setCell ⟨gA, 3, none⟩ (.string St)).setCell ⟨gA, 4, none⟩ (.slice qt mt dt)) (gB) 0 (.int .i64 Ku) (.int .i64 Iu) (.float .f64 Fu) (.string Su) (.slice qu mu du)).heap.size; rw [set5_size]; exact TS1.out.2.2.2.1.2⟩, set5_below TS1.out.2.2.2.2.1 (by omega) (.int .i64 Ku) (.int .i64 Iu) (.float .f64 Fu) (.string Su) (.slice qu mu du), set5_below TS1.out.2.2.2.2.2 (by omega) (.int .i64 Ku) (.int .i64 Iu) (.float .f64 Fu) (.string Su) (.slice qu mu du)⟩)
    clear TS1
    clear b30 b31 b32 b33 b34 b3f b3l
    go_wp2_with fail
    refine hK.out _ _ ?hss1hK6_12_17_18m (fun hHeld => ?_)
    case hss1hK6_12_17_18m => exact ⟨row_cell TS2.out.1 0, row_cell TS2.out.1 1, row_cell TS2.out.1 2, row_cell TS2.out.1 3, row_cell TS2.out.1 4, (HK.out _ TS2.out.2.2.2.2.2).1, (HK.out _ TS2.out.2.2.2.2.2).2⟩
    clear hK K
    (try simp only [Act.put, List.setIfInBounds_toArray, List.set_cons_zero, List.set_cons_succ])
    refine wpAnyH_take (i := 21) (oi := ?_) (v := ?_) ?hirhK6_12_17_18m21 (by kernel_rfl) ?hfrhK6_12_17_18m21 ?hrrhK6_12_17_18m21 ?hQrhK6_12_17_18m21 ?hyrhK6_12_17_18m21 (by assumption) ?restrhK6_12_17_18m21
    case hirhK6_12_17_18m21 => (simp only [List.getElem?_toArray, List.getElem?_cons_zero, List.getElem?_cons_succ]; rfl)
    case hfrhK6_12_17_18m21 => kernel_rfl
    case hrrhK6_12_17_18m21 => kernel_rfl
    case hyrhK6_12_17_18m21 => (refine Or.inl ⟨by rfl, ?_⟩; intro wS hSw; (try dsimp only at hSw); go_simp; (try with_reducible rfl))
    case hQrhK6_12_17_18m21 => exact fun _ _ _ h => hP _ _ _ _ _ h
    (try simp only [Act.put, List.setIfInBounds_toArray, List.set_cons_zero, List.set_cons_succ])
    refine wpAnyH_done (by kernel_rfl) ?_ _
    revert TS2
    generalize ((((((((((w'.setCell ⟨gA, 0, none⟩ (.int .i64 Kt)).setCell ⟨gA, 1, none⟩ (.int .i64 It)).setCell ⟨gA, 2, none⟩ (.float .f64 Ft)).setCell ⟨gA, 3, none⟩ (.string St)).setCell ⟨gA, 4, none⟩ (.slice qt mt dt)).setCell ⟨gB, 0, none⟩ (.int .i64 Ku)).setCell ⟨gB, 1, none⟩ (.int .i64 Iu)).setCell ⟨gB, 2, none⟩ (.float .f64 Fu)).setCell ⟨gB, 3, none⟩ (.string Su)).setCell ⟨gB, 4, none⟩ (.slice qu mu du)) = Wg
    intro TS2
    refine hQ _ _ _ _ _ _ _ _ _ _ _ _ _ _ _ _ _ _ hsgA hsgB TS2.out.2.2.2.2.1.size ⟨TS2.out.1, TS2.out.2.1, TS2.out.2.2.1, TS2.out.2.2.2.2.2⟩ (Lib.hid (fun h0 => ?_)) TS2.out.2.2.2.2.1
    obtain ⟨AS2, hok2, hT⟩ := HZ.out h0
    exact ⟨AS2, hok2, fun y hy => hT y (fun b h1 h2 => (hy b (by omega) (Nat.lt_of_lt_of_le h2 TS2.out.2.2.2.1.2)).trans (TS2.out.2.2.2.1.1 b h1 h2))⟩
  refine any_have 4 [6, 12, 13, 14, 15, 16, 17] (fun a a' w' => ∃ (Kt : Int) (It : Int) (Ft : Nat) (St : ByteArray) (qt : Option Addr) (mt : Nat) (dt : Nat) (Ku : Int) (Iu : Int) (Fu : Nat) (Su : ByteArray) (qu : Option Addr) (mu : Nat) (du : Nat) (z : Int) (B : Nat) (wD : World) (gA : Nat), a' = (((((((a.put (some 42) (.string (mthN (k % 8)))).put (some 48) (.tuple #[.agg #[.int .i64 Kt, .int .i64 It, .float .f64 Ft, .string St, .slice qt mt dt], .agg #[.int .i64 Ku, .int .i64 Iu, .float .f64 Fu, .string Su, .slice qu mu du], .int .i64 z])).put (some 35) (.tuple #[.agg #[.int .i64 Kt, .int .i64 It, .float .f64 Ft, .string St, .slice qt mt dt], .agg #[.int .i64 Ku, .int .i64 Iu, .float .f64 Fu, .string Su, .slice qu mu du], .int .i64 z])).put (some 49) (.agg #[.int .i64 Kt, .int .i64 It, .float .f64 Ft, .string St, .slice qt mt dt])).put (some 50) (.agg #[.int .i64 Ku, .int .i64 Iu, .float .f64 Fu, .string Su, .slice qu mu du])).put (some 51) (.int .i64 z)).put (some 5) (.pointer (some ⟨gA, 0, none⟩))) ∧ w'.heap[sb]? = some (.cells #[.int .i64 4, .int .i64 0, .float .f64 0, .string ⟨#[]⟩, .slice ps ls cs] 27 (0, 0)) ∧ Below w.heap.size w w' ∧ Below wr.heap.size wr w' ∧ (Stay B wD w' ∧ wD.heap.size ≤ w'.heap.size) ∧ sb < B ∧ Hid (z = 0 → ∃ AS2, OkA AS2 ∧ ∀ y, Stay B wD y → Rep y 3 (.agg #[.int .i64 Kt, .int .i64 It, .float .f64 Ft, .string St, .slice qt mt dt]) (tableT 0 (ledA AS2))) ∧ w'.heap[gA]? = some (.cells #[.int .i64 0, .int .i64 0, .float .f64 0, .string ⟨#[]⟩, .slice none 0 0] 27 (0, 0)) ∧ sb < gA ∧ wr.heap.size ≤ gA ∧ (gA < B ∨ wD.heap.size ≤ gA)) ?phK6_12_17m (fun hK6_12_17 => ?_)
  case phK6_12_17m =>
    intro a' w' hst hHeld
    obtain ⟨Kt, It, Ft, St, qt, mt, dt, Ku, Iu, Fu, Su, qu, mu, du, z, B, wD, gA, rfl, hR, hbd, hbr, hst, hsB, HZ, hgA, hsgA, hwgA, hDA⟩ := hst
    (try simp only [Act.put, List.setIfInBounds_toArray, List.set_cons_zero, List.set_cons_succ])
    refine wpAnyH_ready (rs := [18]) (by kernel_rfl) (by simp) ?_
    refine AllReadyH.cons (o := ?_) ?ho18hK6_12_17m ?hst18hK6_12_17m AllReadyH.nil
    case ho18hK6_12_17m => (simp only [List.getElem?_toArray, List.getElem?_cons_zero, List.getElem?_cons_succ]; rfl)
    case hst18hK6_12_17m =>
      intro K hK
      go_simp
      refine hK.out _ _ ?hs18hK6_12_17m (fun hHeld => ?_)
      case hs18hK6_12_17m => exact ⟨row_cell (row_step hR (bel_alloc (Below.refl _ _) (.cells #[.int .i64 0, .int .i64 0, .float .f64 0, .string ⟨#[]⟩, .slice none 0 0] 27))) 0, row_cell (row_step hR (bel_alloc (Below.refl _ _) (.cells #[.int .i64 0, .int .i64 0, .float .f64 0, .string ⟨#[]⟩, .slice none 0 0] 27))) 1, row_cell (row_step hR (bel_alloc (Below.refl _ _) (.cells #[.int .i64 0, .int .i64 0, .float .f64 0, .string ⟨#[]⟩, .slice none 0 0] 27))) 2, row_cell (row_step hR (bel_alloc (Below.refl _ _) (.cells #[.int .i64 0, .int .i64 0, .float .f64 0, .string ⟨#[]⟩, .slice none 0 0] 27))) 3, row_cell (row_step hR (bel_alloc (Below.refl _ _) (.cells #[.int .i64 0, .int .i64 0, .float .f64 0, .string ⟨#[]⟩, .slice none 0 0] 27))) 4, (HK.out _ (bel_step hbd (bel_alloc (Below.refl _ _) (.cells #[.int .i64 0, .int .i64 0, .float .f64 0, .string ⟨#[]⟩, .slice none 0 0] 27)))).1, (HK.out _ (bel_step hbd (bel_alloc (Below.refl _ _) (.cells #[.int .i64 0, .int .i64 0, .float .f64 0, .string ⟨#[]⟩, .slice none 0 0] 27)))).2⟩
      clear hK K
      (try simp only [Act.put, List.setIfInBounds_toArray, List.set_cons_zero, List.set_cons_succ])
      exact any_eq (by kernel_rfl) (by kernel_rfl) (hK6_12_17_18 _ _ ⟨Kt, It, Ft, St, qt, mt, dt, Ku, Iu, Fu, Su, qu, mu, du, z, B, wD, gA, _, rfl, (row_step hR (bel_alloc (Below.refl _ _) (.cells #[.int .i64 0, .int .i64 0, .float .f64 0, .string ⟨#[]⟩, .slice none 0 0] 27))), (bel_step hbd (bel_alloc (Below.refl _ _) (.cells #[.int .i64 0, .int .i64 0, .float .f64 0, .string ⟨#[]⟩, .slice none 0 0] 27))), (bel_step hbr (bel_alloc (Below.refl _ _) (.cells #[.int .i64 0, .int .i64 0, .float .f64 0, .string ⟨#[]⟩, .slice none 0 0] 27))), (⟨stay_trans hst.1 hst.2 (bel_alloc (Below.refl _ _) (.cells #[.int .i64 0, .int .i64 0, .float .f64 0, .string ⟨#[]⟩, .slice none 0 0] 27)), Nat.le_trans hst.2 (bel_alloc (Below.refl _ _) (.cells #[.int .i64 0, .int .i64 0, .float .f64 0, .string ⟨#[]⟩, .slice none 0 0] 27)).size⟩), (hsB), (HZ), (row_step hgA (bel_alloc (Below.refl _ _) (.cells #[.int .i64 0, .int .i64 0, .float .f64 0, .string ⟨#[]⟩, .slice none 0 0] 27))), (hsgA), (hwgA), row_alloc _ _ _, row_lt hR, hbr.size, Nat.ne_of_lt (row_lt hgA), (hDA), Or.inr hst.2⟩ hHeld)
  refine any_have 4 [6, 12, 13, 14, 15, 16, 18] (fun a a' w' => ∃ (Kt : Int) (It : Int) (Ft : Nat) (St : ByteArray) (qt : Option Addr) (mt : Nat) (dt : Nat) (Ku : Int) (Iu : Int) (Fu : Nat) (Su : ByteArray) (qu : Option Addr) (mu : Nat) (du : Nat) (z : Int) (B : Nat) (wD : World) (gB : Nat), a' = (((((((a.put (some 42) (.string (mthN (k % 8)))).put (some 48) (.tuple #[.agg #[.int .i64 Kt, .int .i64 It, .float .f64 Ft, .string St, .slice qt mt dt], .agg #[.int .i64 Ku, .int .i64 Iu, .float .f64 Fu, .string Su, .slice qu mu du], .int .i64 z])).put (some 35) (.tuple #[.agg #[.int .i64 Kt, .int .i64 It, .float .f64 Ft, .string St, .slice qt mt dt], .agg #[.int .i64 Ku, .int .i64 Iu, .float .f64 Fu, .string Su, .slice qu mu du], .int .i64 z])).put (some 49) (.agg #[.int .i64 Kt, .int .i64 It, .float .f64 Ft, .string St, .slice qt mt dt])).put (some 50) (.agg #[.int .i64 Ku, .int .i64 Iu, .float .f64 Fu, .string Su, .slice qu mu du])).put (some 51) (.int .i64 z)).put (some 6) (.pointer (some ⟨gB, 0, none⟩))) ∧ w'.heap[sb]? = some (.cells #[.int .i64 4, .int .i64 0, .float .f64 0, .string ⟨#[]⟩, .slice ps ls cs] 27 (0, 0)) ∧ Below w.heap.size w w' ∧ Below wr.heap.size wr w' ∧ (Stay B wD w' ∧ wD.heap.size ≤ w'.heap.size) ∧ sb < B ∧ Hid (z = 0 → ∃ AS2, OkA AS2 ∧ ∀ y, Stay B wD y → Rep y 3 (.agg #[.int .i64 Kt, .int .i64 It, .float .f64 Ft, .string St, .slice qt mt dt]) (tableT 0 (ledA AS2))) ∧ w'.heap[gB]? = some (.cells #[.int .i64 0, .int .i64 0, .float .f64 0, .string ⟨#[]⟩, .slice none 0 0] 27 (0, 0)) ∧ sb < gB ∧ wr.heap.size ≤ gB ∧ (gB < B ∨ wD.heap.size ≤ gB)) ?phK6_12_18m (fun hK6_12_18 => ?_)
  case phK6_12_18m =>
    intro a' w' hst hHeld
    obtain ⟨Kt, It, Ft, St, qt, mt, dt, Ku, Iu, Fu, Su, qu, mu, du, z, B, wD, gB, rfl, hR, hbd, hbr, hst, hsB, HZ, hgB, hsgB, hwgB, hDB⟩ := hst
    (try simp only [Act.put, List.setIfInBounds_toArray, List.set_cons_zero, List.set_cons_succ])
    refine wpAnyH_ready (rs := [17]) (by kernel_rfl) (by simp) ?_
    refine AllReadyH.cons (o := ?_) ?ho17hK6_12_18m ?hst17hK6_12_18m AllReadyH.nil
    case ho17hK6_12_18m => (simp only [List.getElem?_toArray, List.getElem?_cons_zero, List.getElem?_cons_succ]; rfl)
    case hst17hK6_12_18m =>
      intro K hK
      go_simp
      refine hK.out _ _ ?hs17hK6_12_18m (fun hHeld => ?_)
      case hs17hK6_12_18m => exact ⟨row_cell (row_step hR (bel_alloc (Below.refl _ _) (.cells #[.int .i64 0, .int .i64 0, .float .f64 0, .string ⟨#[]⟩, .slice none 0 0] 27))) 0, row_cell (row_step hR (bel_alloc (Below.refl _ _) (.cells #[.int .i64 0, .int .i64 0, .float .f64 0, .string ⟨#[]⟩, .slice none 0 0] 27))) 1, row_cell (row_step hR (bel_alloc (Below.refl _ _) (.cells #[.int .i64 0, .int .i64 0, .float .f64 0, .string ⟨#[]⟩, .slice none 0 0] 27))) 2, row_cell (row_step hR (bel_alloc (Below.refl _ _) (.cells #[.int .i64 0, .int .i64 0, .float .f64 0, .string ⟨#[]⟩, .slice none 0 0] 27))) 3, row_cell (row_step hR (bel_alloc (Below.refl _ _) (.cells #[.int .i64 0, .int .i64 0, .float .f64 0, .string ⟨#[]⟩, .slice none 0 0] 27))) 4, (HK.out _ (bel_step hbd (bel_alloc (Below.refl _ _) (.cells #[.int .i64 0, .int .i64 0, .float .f64 0, .string ⟨#[]⟩, .slice none 0 0] 27)))).1, (HK.out _ (bel_step hbd (bel_alloc (Below.refl _ _) (.cells #[.int .i64 0, .int .i64 0, .float .f64 0, .string ⟨#[]⟩, .slice none 0 0] 27)))).2⟩
      clear hK K
      (try simp only [Act.put, List.setIfInBounds_toArray, List.set_cons_zero, List.set_cons_succ])
      exact any_eq (by kernel_rfl) (by kernel_rfl) (hK6_12_17_18 _ _ ⟨Kt, It, Ft, St, qt, mt, dt, Ku, Iu, Fu, Su, qu, mu, du, z, B, wD, _, gB, rfl, (row_step hR (bel_alloc (Below.refl _ _) (.cells #[.int .i64 0, .int .i64 0, .float .f64 0, .string ⟨#[]⟩, .slice none 0 0] 27))), (bel_step hbd (bel_alloc (Below.refl _ _) (.cells #[.int .i64 0, .int .i64 0, .float .f64 0, .string ⟨#[]⟩, .slice none 0 0] 27))), (bel_step hbr (bel_alloc (Below.refl _ _) (.cells #[.int .i64 0, .int .i64 0, .float .f64 0, .string ⟨#[]⟩, .slice none 0 0] 27))), (⟨stay_trans hst.1 hst.2 (bel_alloc (Below.refl _ _) (.cells #[.int .i64 0, .int .i64 0, .float .f64 0, .string ⟨#[]⟩, .slice none 0 0] 27)), Nat.le_trans hst.2 (bel_alloc (Below.refl _ _) (.cells #[.int .i64 0, .int .i64 0, .float .f64 0, .string ⟨#[]⟩, .slice none 0 0] 27)).size⟩), (hsB), (HZ), row_alloc _ _ _, row_lt hR, hbr.size, (row_step hgB (bel_alloc (Below.refl _ _) (.cells #[.int .i64 0, .int .i64 0, .float .f64 0, .string ⟨#[]⟩, .slice none 0 0] 27))), (hsgB), (hwgB), Nat.ne_of_gt (row_lt hgB), Or.inr hst.2, (hDB)⟩ hHeld)
  refine any_have 8 [6, 17, 18] (fun a a' w' => ∃ (gA : Nat) (gB : Nat), a' = (((a.put (some 42) (.string (mthN (k % 8)))).put (some 5) (.pointer (some ⟨gA, 0, none⟩))).put (some 6) (.pointer (some ⟨gB, 0, none⟩))) ∧ w'.heap[sb]? = some (.cells #[.int .i64 4, .int .i64 0, .float .f64 0, .string ⟨#[]⟩, .slice ps ls cs] 27 (0, 0)) ∧ Below w.heap.size w w' ∧ Below wr.heap.size wr w' ∧ w'.heap[gA]? = some (.cells #[.int .i64 0, .int .i64 0, .float .f64 0, .string ⟨#[]⟩, .slice none 0 0] 27 (0, 0)) ∧ sb < gA ∧ wr.heap.size ≤ gA ∧ w'.heap[gB]? = some (.cells #[.int .i64 0, .int .i64 0, .float .f64 0, .string ⟨#[]⟩, .slice none 0 0] 27 (0, 0)) ∧ sb < gB ∧ wr.heap.size ≤ gB ∧ gA ≠ gB) ?phK6_17_18m (fun hK6_17_18 => ?_)
  case phK6_17_18m =>
    intro a' w' hst hHeld
    obtain ⟨gA, gB, rfl, hR, hbd, hbr, hgA, hsgA, hwgA, hgB, hsgB, hwgB, hAB⟩ := hst
    (try simp only [Act.put, List.setIfInBounds_toArray, List.set_cons_zero, List.set_cons_succ])
    refine wpAnyH_ready (rs := [12]) (by kernel_rfl) (by simp) ?_
    refine AllReadyH.cons (o := ?_) ?ho12hK6_17_18m ?hst12hK6_17_18m AllReadyH.nil
    case ho12hK6_17_18m => (simp only [List.getElem?_toArray, List.getElem?_cons_zero, List.getElem?_cons_succ]; rfl)
    case hst12hK6_17_18m =>
      intro K hK
      go_simp
      go_at_call 13; refine (HDO.out _ hbr).mono ?_; rintro e wT ⟨tt, uu, z, rfl, hbT, ⟨Kt, It, Ft, St, qt, mt, dt, rfl⟩, ⟨Ku, Iu, Fu, Su, qu, mu, du, rfl⟩, hz⟩
      go_wp2_with fail
      refine hK.out _ _ ?hs12hK6_17_18m (fun hHeld => ?_)
      case hs12hK6_17_18m => exact ⟨row_cell (row_step hR hbT) 0, row_cell (row_step hR hbT) 1, row_cell (row_step hR hbT) 2, row_cell (row_step hR hbT) 3, row_cell (row_step hR hbT) 4, (HK.out _ (bel_step hbd hbT)).1, (HK.out _ (bel_step hbd hbT)).2⟩
      clear hK K
      (try simp only [Act.put, List.setIfInBounds_toArray, List.set_cons_zero, List.set_cons_succ])
      refine wpAnyH_take (i := 13) (oi := ?_) (v := ?_) ?hin12hK6_17_18m13 (by kernel_rfl) ?hfn12hK6_17_18m13 ?hrn12hK6_17_18m13 ?hQn12hK6_17_18m13 ?hyn12hK6_17_18m13 (by assumption) ?restn12hK6_17_18m13
      case hin12hK6_17_18m13 => (simp only [List.getElem?_toArray, List.getElem?_cons_zero, List.getElem?_cons_succ]; rfl)
      case hfn12hK6_17_18m13 => kernel_rfl
      case hrn12hK6_17_18m13 => kernel_rfl
      case hyn12hK6_17_18m13 => (refine Or.inl ⟨by rfl, ?_⟩; intro wS hSw; (try dsimp only at hSw); go_simp; (try with_reducible rfl))
      case hQn12hK6_17_18m13 => exact fun _ _ _ h => hP _ _ _ _ _ h
      (try simp only [Act.put, List.setIfInBounds_toArray, List.set_cons_zero, List.set_cons_succ])
      refine wpAnyH_take (i := 14) (oi := ?_) (v := ?_) ?hin12hK6_17_18m14 (by kernel_rfl) ?hfn12hK6_17_18m14 ?hrn12hK6_17_18m14 ?hQn12hK6_17_18m14 ?hyn12hK6_17_18m14 (by assumption) ?restn12hK6_17_18m14
      case hin12hK6_17_18m14 => (simp only [List.getElem?_toArray, List.getElem?_cons_zero, List.getElem?_cons_succ]; rfl)
      case hfn12hK6_17_18m14 => kernel_rfl
      case hrn12hK6_17_18m14 => kernel_rfl
      case hyn12hK6_17_18m14 => (refine Or.inl ⟨by rfl, ?_⟩; intro wS hSw; (try dsimp only at hSw); go_simp; (try with_reducible rfl))
      case hQn12hK6_17_18m14 => exact fun _ _ _ h => hP _ _ _ _ _ h
      (try simp only [Act.put, List.setIfInBounds_toArray, List.set_cons_zero, List.set_cons_succ])
      refine wpAnyH_take (i := 15) (oi := ?_) (v := ?_) ?hin12hK6_17_18m15 (by kernel_rfl) ?hfn12hK6_17_18m15 ?hrn12hK6_17_18m15 ?hQn12hK6_17_18m15 ?hyn12hK6_17_18m15 (by assumption) ?restn12hK6_17_18m15
      case hin12hK6_17_18m15 => (simp only [List.getElem?_toArray, List.getElem?_cons_zero, List.getElem?_cons_succ]; rfl)
      case hfn12hK6_17_18m15 => kernel_rfl
      case hrn12hK6_17_18m15 => kernel_rfl
      case hyn12hK6_17_18m15 => (refine Or.inl ⟨by rfl, ?_⟩; intro wS hSw; (try dsimp only at hSw); go_simp; (try with_reducible rfl))
      case hQn12hK6_17_18m15 => exact fun _ _ _ h => hP _ _ _ _ _ h
      (try simp only [Act.put, List.setIfInBounds_toArray, List.set_cons_zero, List.set_cons_succ])
      refine wpAnyH_take (i := 16) (oi := ?_) (v := ?_) ?hin12hK6_17_18m16 (by kernel_rfl) ?hfn12hK6_17_18m16 ?hrn12hK6_17_18m16 ?hQn12hK6_17_18m16 ?hyn12hK6_17_18m16 (by assumption) ?restn12hK6_17_18m16
      case hin12hK6_17_18m16 => (simp only [List.getElem?_toArray, List.getElem?_cons_zero, List.getElem?_cons_succ]; rfl)
      case hfn12hK6_17_18m16 => kernel_rfl
      case hrn12hK6_17_18m16 => kernel_rfl
      case hyn12hK6_17_18m16 => (refine Or.inl ⟨by rfl, ?_⟩; intro wS hSw; (try dsimp only at hSw); go_simp; (try with_reducible rfl))
      case hQn12hK6_17_18m16 => exact fun _ _ _ h => hP _ _ _ _ _ h
      (try simp only [Act.put, List.setIfInBounds_toArray, List.set_cons_zero, List.set_cons_succ])
      exact any_eq (by kernel_rfl) (by kernel_rfl) (hK6_12_17_18 _ _ ⟨Kt, It, Ft, St, qt, mt, dt, Ku, Iu, Fu, Su, qu, mu, du, z, _, wT, gA, gB, rfl, (row_step hR hbT), (bel_step hbd hbT), (bel_step hbr hbT), ⟨stay_refl _ _, Nat.le_refl _⟩, row_lt hR, Lib.hid hz, (row_step hgA hbT), (hsgA), (hwgA), (row_step hgB hbT), (hsgB), (hwgB), (hAB), Or.inl (row_lt hgA), Or.inl (row_lt hgB)⟩ hHeld)
  refine any_have 5 [6, 12, 13, 14, 15, 16] (fun a a' w' => ∃ (Kt : Int) (It : Int) (Ft : Nat) (St : ByteArray) (qt : Option Addr) (mt : Nat) (dt : Nat) (Ku : Int) (Iu : Int) (Fu : Nat) (Su : ByteArray) (qu : Option Addr) (mu : Nat) (du : Nat) (z : Int) (B : Nat) (wD : World), a' = ((((((a.put (some 42) (.string (mthN (k % 8)))).put (some 48) (.tuple #[.agg #[.int .i64 Kt, .int .i64 It, .float .f64 Ft, .string St, .slice qt mt dt], .agg #[.int .i64 Ku, .int .i64 Iu, .float .f64 Fu, .string Su, .slice qu mu du], .int .i64 z])).put (some 35) (.tuple #[.agg #[.int .i64 Kt, .int .i64 It, .float .f64 Ft, .string St, .slice qt mt dt], .agg #[.int .i64 Ku, .int .i64 Iu, .float .f64 Fu, .string Su, .slice qu mu du], .int .i64 z])).put (some 49) (.agg #[.int .i64 Kt, .int .i64 It, .float .f64 Ft, .string St, .slice qt mt dt])).put (some 50) (.agg #[.int .i64 Ku, .int .i64 Iu, .float .f64 Fu, .string Su, .slice qu mu du])).put (some 51) (.int .i64 z)) ∧ w'.heap[sb]? = some (.cells #[.int .i64 4, .int .i64 0, .float .f64 0, .string ⟨#[]⟩, .slice ps ls cs] 27 (0, 0)) ∧ Below w.heap.size w w' ∧ Below wr.heap.size wr w' ∧ (Stay B wD w' ∧ wD.heap.size ≤ w'.heap.size) ∧ sb < B ∧ Hid (z = 0 → ∃ AS2, OkA AS2 ∧ ∀ y, Stay B wD y → Rep y 3 (.agg #[.int .i64 Kt, .int .i64 It, .float .f64 Ft, .string St, .slice qt mt dt]) (tableT 0 (ledA AS2)))) ?phK6_12m (fun hK6_12 => ?_)
  case phK6_12m =>
    intro a' w' hst hHeld
    obtain ⟨Kt, It, Ft, St, qt, mt, dt, Ku, Iu, Fu, Su, qu, mu, du, z, B, wD, rfl, hR, hbd, hbr, hst, hsB, HZ⟩ := hst
    (try simp only [Act.put, List.setIfInBounds_toArray, List.set_cons_zero, List.set_cons_succ])
    refine wpAnyH_ready (rs := [17, 18]) (by kernel_rfl) (by simp) ?_
    refine AllReadyH.cons (o := ?_) ?ho17hK6_12m ?hst17hK6_12m (AllReadyH.cons (o := ?_) ?ho18hK6_12m ?hst18hK6_12m AllReadyH.nil)
    case ho17hK6_12m => (simp only [List.getElem?_toArray, List.getElem?_cons_zero, List.getElem?_cons_succ]; rfl)
    case ho18hK6_12m => (simp only [List.getElem?_toArray, List.getElem?_cons_zero, List.getElem?_cons_succ]; rfl)
    case hst17hK6_12m =>
      intro K hK
      go_simp
      refine hK.out _ _ ?hs17hK6_12m (fun hHeld => ?_)
      case hs17hK6_12m => exact ⟨row_cell (row_step hR (bel_alloc (Below.refl _ _) (.cells #[.int .i64 0, .int .i64 0, .float .f64 0, .string ⟨#[]⟩, .slice none 0 0] 27))) 0, row_cell (row_step hR (bel_alloc (Below.refl _ _) (.cells #[.int .i64 0, .int .i64 0, .float .f64 0, .string ⟨#[]⟩, .slice none 0 0] 27))) 1, row_cell (row_step hR (bel_alloc (Below.refl _ _) (.cells #[.int .i64 0, .int .i64 0, .float .f64 0, .string ⟨#[]⟩, .slice none 0 0] 27))) 2, row_cell (row_step hR (bel_alloc (Below.refl _ _) (.cells #[.int .i64 0, .int .i64 0, .float .f64 0, .string ⟨#[]⟩, .slice none 0 0] 27))) 3, row_cell (row_step hR (bel_alloc (Below.refl _ _) (.cells #[.int .i64 0, .int .i64 0, .float .f64 0, .string ⟨#[]⟩, .slice none 0 0] 27))) 4, (HK.out _ (bel_step hbd (bel_alloc (Below.refl _ _) (.cells #[.int .i64 0, .int .i64 0, .float .f64 0, .string ⟨#[]⟩, .slice none 0 0] 27)))).1, (HK.out _ (bel_step hbd (bel_alloc (Below.refl _ _) (.cells #[.int .i64 0, .int .i64 0, .float .f64 0, .string ⟨#[]⟩, .slice none 0 0] 27)))).2⟩
      clear hK K
      (try simp only [Act.put, List.setIfInBounds_toArray, List.set_cons_zero, List.set_cons_succ])
      exact any_eq (by kernel_rfl) (by kernel_rfl) (hK6_12_17 _ _ ⟨Kt, It, Ft, St, qt, mt, dt, Ku, Iu, Fu, Su, qu, mu, du, z, B, wD, _, rfl, (row_step hR (bel_alloc (Below.refl _ _) (.cells #[.int .i64 0, .int .i64 0, .float .f64 0, .string ⟨#[]⟩, .slice none 0 0] 27))), (bel_step hbd (bel_alloc (Below.refl _ _) (.cells #[.int .i64 0, .int .i64 0, .float .f64 0, .string ⟨#[]⟩, .slice none 0 0] 27))), (bel_step hbr (bel_alloc (Below.refl _ _) (.cells #[.int .i64 0, .int .i64 0, .float .f64 0, .string ⟨#[]⟩, .slice none 0 0] 27))), (⟨stay_trans hst.1 hst.2 (bel_alloc (Below.refl _ _) (.cells #[.int .i64 0, .int .i64 0, .float .f64 0, .string ⟨#[]⟩, .slice none 0 0] 27)), Nat.le_trans hst.2 (bel_alloc (Below.refl _ _) (.cells #[.int .i64 0, .int .i64 0, .float .f64 0, .string ⟨#[]⟩, .slice none 0 0] 27)).size⟩), (hsB), (HZ), row_alloc _ _ _, row_lt hR, hbr.size, Or.inr hst.2⟩ hHeld)
    case hst18hK6_12m =>
      intro K hK
      go_simp
      refine hK.out _ _ ?hs18hK6_12m (fun hHeld => ?_)
      case hs18hK6_12m => exact ⟨row_cell (row_step hR (bel_alloc (Below.refl _ _) (.cells #[.int .i64 0, .int .i64 0, .float .f64 0, .string ⟨#[]⟩, .slice none 0 0] 27))) 0, row_cell (row_step hR (bel_alloc (Below.refl _ _) (.cells #[.int .i64 0, .int .i64 0, .float .f64 0, .string ⟨#[]⟩, .slice none 0 0] 27))) 1, row_cell (row_step hR (bel_alloc (Below.refl _ _) (.cells #[.int .i64 0, .int .i64 0, .float .f64 0, .string ⟨#[]⟩, .slice none 0 0] 27))) 2, row_cell (row_step hR (bel_alloc (Below.refl _ _) (.cells #[.int .i64 0, .int .i64 0, .float .f64 0, .string ⟨#[]⟩, .slice none 0 0] 27))) 3, row_cell (row_step hR (bel_alloc (Below.refl _ _) (.cells #[.int .i64 0, .int .i64 0, .float .f64 0, .string ⟨#[]⟩, .slice none 0 0] 27))) 4, (HK.out _ (bel_step hbd (bel_alloc (Below.refl _ _) (.cells #[.int .i64 0, .int .i64 0, .float .f64 0, .string ⟨#[]⟩, .slice none 0 0] 27)))).1, (HK.out _ (bel_step hbd (bel_alloc (Below.refl _ _) (.cells #[.int .i64 0, .int .i64 0, .float .f64 0, .string ⟨#[]⟩, .slice none 0 0] 27)))).2⟩
      clear hK K
      (try simp only [Act.put, List.setIfInBounds_toArray, List.set_cons_zero, List.set_cons_succ])
      exact any_eq (by kernel_rfl) (by kernel_rfl) (hK6_12_18 _ _ ⟨Kt, It, Ft, St, qt, mt, dt, Ku, Iu, Fu, Su, qu, mu, du, z, B, wD, _, rfl, (row_step hR (bel_alloc (Below.refl _ _) (.cells #[.int .i64 0, .int .i64 0, .float .f64 0, .string ⟨#[]⟩, .slice none 0 0] 27))), (bel_step hbd (bel_alloc (Below.refl _ _) (.cells #[.int .i64 0, .int .i64 0, .float .f64 0, .string ⟨#[]⟩, .slice none 0 0] 27))), (bel_step hbr (bel_alloc (Below.refl _ _) (.cells #[.int .i64 0, .int .i64 0, .float .f64 0, .string ⟨#[]⟩, .slice none 0 0] 27))), (⟨stay_trans hst.1 hst.2 (bel_alloc (Below.refl _ _) (.cells #[.int .i64 0, .int .i64 0, .float .f64 0, .string ⟨#[]⟩, .slice none 0 0] 27)), Nat.le_trans hst.2 (bel_alloc (Below.refl _ _) (.cells #[.int .i64 0, .int .i64 0, .float .f64 0, .string ⟨#[]⟩, .slice none 0 0] 27)).size⟩), (hsB), (HZ), row_alloc _ _ _, row_lt hR, hbr.size, Or.inr hst.2⟩ hHeld)
  refine any_have 9 [6, 17] (fun a a' w' => ∃ (gA : Nat), a' = ((a.put (some 42) (.string (mthN (k % 8)))).put (some 5) (.pointer (some ⟨gA, 0, none⟩))) ∧ w'.heap[sb]? = some (.cells #[.int .i64 4, .int .i64 0, .float .f64 0, .string ⟨#[]⟩, .slice ps ls cs] 27 (0, 0)) ∧ Below w.heap.size w w' ∧ Below wr.heap.size wr w' ∧ w'.heap[gA]? = some (.cells #[.int .i64 0, .int .i64 0, .float .f64 0, .string ⟨#[]⟩, .slice none 0 0] 27 (0, 0)) ∧ sb < gA ∧ wr.heap.size ≤ gA) ?phK6_17m (fun hK6_17 => ?_)
  case phK6_17m =>
    intro a' w' hst hHeld
    obtain ⟨gA, rfl, hR, hbd, hbr, hgA, hsgA, hwgA⟩ := hst
    (try simp only [Act.put, List.setIfInBounds_toArray, List.set_cons_zero, List.set_cons_succ])
    refine wpAnyH_ready (rs := [12, 18]) (by kernel_rfl) (by simp) ?_
    refine AllReadyH.cons (o := ?_) ?ho12hK6_17m ?hst12hK6_17m (AllReadyH.cons (o := ?_) ?ho18hK6_17m ?hst18hK6_17m AllReadyH.nil)
    case ho12hK6_17m => (simp only [List.getElem?_toArray, List.getElem?_cons_zero, List.getElem?_cons_succ]; rfl)
    case ho18hK6_17m => (simp only [List.getElem?_toArray, List.getElem?_cons_zero, List.getElem?_cons_succ]; rfl)
    case hst12hK6_17m =>
      intro K hK
      go_simp
      go_at_call 13; refine (HDO.out _ hbr).mono ?_; rintro e wT ⟨tt, uu, z, rfl, hbT, ⟨Kt, It, Ft, St, qt, mt, dt, rfl⟩, ⟨Ku, Iu, Fu, Su, qu, mu, du, rfl⟩, hz⟩
      go_wp2_with fail
      refine hK.out _ _ ?hs12hK6_17m (fun hHeld => ?_)
      case hs12hK6_17m => exact ⟨row_cell (row_step hR hbT) 0, row_cell (row_step hR hbT) 1, row_cell (row_step hR hbT) 2, row_cell (row_step hR hbT) 3, row_cell (row_step hR hbT) 4, (HK.out _ (bel_step hbd hbT)).1, (HK.out _ (bel_step hbd hbT)).2⟩
      clear hK K
      (try simp only [Act.put, List.setIfInBounds_toArray, List.set_cons_zero, List.set_cons_succ])
      refine wpAnyH_take (i := 13) (oi := ?_) (v := ?_) ?hin12hK6_17m13 (by kernel_rfl) ?hfn12hK6_17m13 ?hrn12hK6_17m13 ?hQn12hK6_17m13 ?hyn12hK6_17m13 (by assumption) ?restn12hK6_17m13
      case hin12hK6_17m13 => (simp only [List.getElem?_toArray, List.getElem?_cons_zero, List.getElem?_cons_succ]; rfl)
      case hfn12hK6_17m13 => kernel_rfl
      case hrn12hK6_17m13 => kernel_rfl
      case hyn12hK6_17m13 => (refine Or.inl ⟨by rfl, ?_⟩; intro wS hSw; (try dsimp only at hSw); go_simp; (try with_reducible rfl))
      case hQn12hK6_17m13 => exact fun _ _ _ h => hP _ _ _ _ _ h
      (try simp only [Act.put, List.setIfInBounds_toArray, List.set_cons_zero, List.set_cons_succ])
      refine wpAnyH_take (i := 14) (oi := ?_) (v := ?_) ?hin12hK6_17m14 (by kernel_rfl) ?hfn12hK6_17m14 ?hrn12hK6_17m14 ?hQn12hK6_17m14 ?hyn12hK6_17m14 (by assumption) ?restn12hK6_17m14
      case hin12hK6_17m14 => (simp only [List.getElem?_toArray, List.getElem?_cons_zero, List.getElem?_cons_succ]; rfl)
      case hfn12hK6_17m14 => kernel_rfl
      case hrn12hK6_17m14 => kernel_rfl
      case hyn12hK6_17m14 => (refine Or.inl ⟨by rfl, ?_⟩; intro wS hSw; (try dsimp only at hSw); go_simp; (try with_reducible rfl))
      case hQn12hK6_17m14 => exact fun _ _ _ h => hP _ _ _ _ _ h
      (try simp only [Act.put, List.setIfInBounds_toArray, List.set_cons_zero, List.set_cons_succ])
      refine wpAnyH_take (i := 15) (oi := ?_) (v := ?_) ?hin12hK6_17m15 (by kernel_rfl) ?hfn12hK6_17m15 ?hrn12hK6_17m15 ?hQn12hK6_17m15 ?hyn12hK6_17m15 (by assumption) ?restn12hK6_17m15
      case hin12hK6_17m15 => (simp only [List.getElem?_toArray, List.getElem?_cons_zero, List.getElem?_cons_succ]; rfl)
      case hfn12hK6_17m15 => kernel_rfl
      case hrn12hK6_17m15 => kernel_rfl
      case hyn12hK6_17m15 => (refine Or.inl ⟨by rfl, ?_⟩; intro wS hSw; (try dsimp only at hSw); go_simp; (try with_reducible rfl))
      case hQn12hK6_17m15 => exact fun _ _ _ h => hP _ _ _ _ _ h
      (try simp only [Act.put, List.setIfInBounds_toArray, List.set_cons_zero, List.set_cons_succ])
      refine wpAnyH_take (i := 16) (oi := ?_) (v := ?_) ?hin12hK6_17m16 (by kernel_rfl) ?hfn12hK6_17m16 ?hrn12hK6_17m16 ?hQn12hK6_17m16 ?hyn12hK6_17m16 (by assumption) ?restn12hK6_17m16
      case hin12hK6_17m16 => (simp only [List.getElem?_toArray, List.getElem?_cons_zero, List.getElem?_cons_succ]; rfl)
      case hfn12hK6_17m16 => kernel_rfl
      case hrn12hK6_17m16 => kernel_rfl
      case hyn12hK6_17m16 => (refine Or.inl ⟨by rfl, ?_⟩; intro wS hSw; (try dsimp only at hSw); go_simp; (try with_reducible rfl))
      case hQn12hK6_17m16 => exact fun _ _ _ h => hP _ _ _ _ _ h
      (try simp only [Act.put, List.setIfInBounds_toArray, List.set_cons_zero, List.set_cons_succ])
      exact any_eq (by kernel_rfl) (by kernel_rfl) (hK6_12_17 _ _ ⟨Kt, It, Ft, St, qt, mt, dt, Ku, Iu, Fu, Su, qu, mu, du, z, _, wT, gA, rfl, (row_step hR hbT), (bel_step hbd hbT), (bel_step hbr hbT), ⟨stay_refl _ _, Nat.le_refl _⟩, row_lt hR, Lib.hid hz, (row_step hgA hbT), (hsgA), (hwgA), Or.inl (row_lt hgA)⟩ hHeld)
    case hst18hK6_17m =>
      intro K hK
      go_simp
      refine hK.out _ _ ?hs18hK6_17m (fun hHeld => ?_)
      case hs18hK6_17m => exact ⟨row_cell (row_step hR (bel_alloc (Below.refl _ _) (.cells #[.int .i64 0, .int .i64 0, .float .f64 0, .string ⟨#[]⟩, .slice none 0 0] 27))) 0, row_cell (row_step hR (bel_alloc (Below.refl _ _) (.cells #[.int .i64 0, .int .i64 0, .float .f64 0, .string ⟨#[]⟩, .slice none 0 0] 27))) 1, row_cell (row_step hR (bel_alloc (Below.refl _ _) (.cells #[.int .i64 0, .int .i64 0, .float .f64 0, .string ⟨#[]⟩, .slice none 0 0] 27))) 2, row_cell (row_step hR (bel_alloc (Below.refl _ _) (.cells #[.int .i64 0, .int .i64 0, .float .f64 0, .string ⟨#[]⟩, .slice none 0 0] 27))) 3, row_cell (row_step hR (bel_alloc (Below.refl _ _) (.cells #[.int .i64 0, .int .i64 0, .float .f64 0, .string ⟨#[]⟩, .slice none 0 0] 27))) 4, (HK.out _ (bel_step hbd (bel_alloc (Below.refl _ _) (.cells #[.int .i64 0, .int .i64 0, .float .f64 0, .string ⟨#[]⟩, .slice none 0 0] 27)))).1, (HK.out _ (bel_step hbd (bel_alloc (Below.refl _ _) (.cells #[.int .i64 0, .int .i64 0, .float .f64 0, .string ⟨#[]⟩, .slice none 0 0] 27)))).2⟩
      clear hK K
      (try simp only [Act.put, List.setIfInBounds_toArray, List.set_cons_zero, List.set_cons_succ])
      exact any_eq (by kernel_rfl) (by kernel_rfl) (hK6_17_18 _ _ ⟨gA, _, rfl, (row_step hR (bel_alloc (Below.refl _ _) (.cells #[.int .i64 0, .int .i64 0, .float .f64 0, .string ⟨#[]⟩, .slice none 0 0] 27))), (bel_step hbd (bel_alloc (Below.refl _ _) (.cells #[.int .i64 0, .int .i64 0, .float .f64 0, .string ⟨#[]⟩, .slice none 0 0] 27))), (bel_step hbr (bel_alloc (Below.refl _ _) (.cells #[.int .i64 0, .int .i64 0, .float .f64 0, .string ⟨#[]⟩, .slice none 0 0] 27))), (row_step hgA (bel_alloc (Below.refl _ _) (.cells #[.int .i64 0, .int .i64 0, .float .f64 0, .string ⟨#[]⟩, .slice none 0 0] 27))), (hsgA), (hwgA), row_alloc _ _ _, row_lt hR, hbr.size, Nat.ne_of_lt (row_lt hgA)⟩ hHeld)
  refine any_have 9 [6, 18] (fun a a' w' => ∃ (gB : Nat), a' = ((a.put (some 42) (.string (mthN (k % 8)))).put (some 6) (.pointer (some ⟨gB, 0, none⟩))) ∧ w'.heap[sb]? = some (.cells #[.int .i64 4, .int .i64 0, .float .f64 0, .string ⟨#[]⟩, .slice ps ls cs] 27 (0, 0)) ∧ Below w.heap.size w w' ∧ Below wr.heap.size wr w' ∧ w'.heap[gB]? = some (.cells #[.int .i64 0, .int .i64 0, .float .f64 0, .string ⟨#[]⟩, .slice none 0 0] 27 (0, 0)) ∧ sb < gB ∧ wr.heap.size ≤ gB) ?phK6_18m (fun hK6_18 => ?_)
  case phK6_18m =>
    intro a' w' hst hHeld
    obtain ⟨gB, rfl, hR, hbd, hbr, hgB, hsgB, hwgB⟩ := hst
    (try simp only [Act.put, List.setIfInBounds_toArray, List.set_cons_zero, List.set_cons_succ])
    refine wpAnyH_ready (rs := [12, 17]) (by kernel_rfl) (by simp) ?_
    refine AllReadyH.cons (o := ?_) ?ho12hK6_18m ?hst12hK6_18m (AllReadyH.cons (o := ?_) ?ho17hK6_18m ?hst17hK6_18m AllReadyH.nil)
    case ho12hK6_18m => (simp only [List.getElem?_toArray, List.getElem?_cons_zero, List.getElem?_cons_succ]; rfl)
    case ho17hK6_18m => (simp only [List.getElem?_toArray, List.getElem?_cons_zero, List.getElem?_cons_succ]; rfl)
    case hst12hK6_18m =>
      intro K hK
      go_simp
      go_at_call 13; refine (HDO.out _ hbr).mono ?_; rintro e wT ⟨tt, uu, z, rfl, hbT, ⟨Kt, It, Ft, St, qt, mt, dt, rfl⟩, ⟨Ku, Iu, Fu, Su, qu, mu, du, rfl⟩, hz⟩
      go_wp2_with fail
      refine hK.out _ _ ?hs12hK6_18m (fun hHeld => ?_)
      case hs12hK6_18m => exact ⟨row_cell (row_step hR hbT) 0, row_cell (row_step hR hbT) 1, row_cell (row_step hR hbT) 2, row_cell (row_step hR hbT) 3, row_cell (row_step hR hbT) 4, (HK.out _ (bel_step hbd hbT)).1, (HK.out _ (bel_step hbd hbT)).2⟩
      clear hK K
      (try simp only [Act.put, List.setIfInBounds_toArray, List.set_cons_zero, List.set_cons_succ])
      refine wpAnyH_take (i := 13) (oi := ?_) (v := ?_) ?hin12hK6_18m13 (by kernel_rfl) ?hfn12hK6_18m13 ?hrn12hK6_18m13 ?hQn12hK6_18m13 ?hyn12hK6_18m13 (by assumption) ?restn12hK6_18m13
      case hin12hK6_18m13 => (simp only [List.getElem?_toArray, List.getElem?_cons_zero, List.getElem?_cons_succ]; rfl)
      case hfn12hK6_18m13 => kernel_rfl
      case hrn12hK6_18m13 => kernel_rfl
      case hyn12hK6_18m13 => (refine Or.inl ⟨by rfl, ?_⟩; intro wS hSw; (try dsimp only at hSw); go_simp; (try with_reducible rfl))
      case hQn12hK6_18m13 => exact fun _ _ _ h => hP _ _ _ _ _ h
      (try simp only [Act.put, List.setIfInBounds_toArray, List.set_cons_zero, List.set_cons_succ])
      refine wpAnyH_take (i := 14) (oi := ?_) (v := ?_) ?hin12hK6_18m14 (by kernel_rfl) ?hfn12hK6_18m14 ?hrn12hK6_18m14 ?hQn12hK6_18m14 ?hyn12hK6_18m14 (by assumption) ?restn12hK6_18m14
      case hin12hK6_18m14 => (simp only [List.getElem?_toArray, List.getElem?_cons_zero, List.getElem?_cons_succ]; rfl)
      case hfn12hK6_18m14 => kernel_rfl
      case hrn12hK6_18m14 => kernel_rfl
      case hyn12hK6_18m14 => (refine Or.inl ⟨by rfl, ?_⟩; intro wS hSw; (try dsimp only at hSw); go_simp; (try with_reducible rfl))
      case hQn12hK6_18m14 => exact fun _ _ _ h => hP _ _ _ _ _ h
      (try simp only [Act.put, List.setIfInBounds_toArray, List.set_cons_zero, List.set_cons_succ])
      refine wpAnyH_take (i := 15) (oi := ?_) (v := ?_) ?hin12hK6_18m15 (by kernel_rfl) ?hfn12hK6_18m15 ?hrn12hK6_18m15 ?hQn12hK6_18m15 ?hyn12hK6_18m15 (by assumption) ?restn12hK6_18m15
      case hin12hK6_18m15 => (simp only [List.getElem?_toArray, List.getElem?_cons_zero, List.getElem?_cons_succ]; rfl)
      case hfn12hK6_18m15 => kernel_rfl
      case hrn12hK6_18m15 => kernel_rfl
      case hyn12hK6_18m15 => (refine Or.inl ⟨by rfl, ?_⟩; intro wS hSw; (try dsimp only at hSw); go_simp; (try with_reducible rfl))
      case hQn12hK6_18m15 => exact fun _ _ _ h => hP _ _ _ _ _ h
      (try simp only [Act.put, List.setIfInBounds_toArray, List.set_cons_zero, List.set_cons_succ])
      refine wpAnyH_take (i := 16) (oi := ?_) (v := ?_) ?hin12hK6_18m16 (by kernel_rfl) ?hfn12hK6_18m16 ?hrn12hK6_18m16 ?hQn12hK6_18m16 ?hyn12hK6_18m16 (by assumption) ?restn12hK6_18m16
      case hin12hK6_18m16 => (simp only [List.getElem?_toArray, List.getElem?_cons_zero, List.getElem?_cons_succ]; rfl)
      case hfn12hK6_18m16 => kernel_rfl
      case hrn12hK6_18m16 => kernel_rfl
      case hyn12hK6_18m16 => (refine Or.inl ⟨by rfl, ?_⟩; intro wS hSw; (try dsimp only at hSw); go_simp; (try with_reducible rfl))
      case hQn12hK6_18m16 => exact fun _ _ _ h => hP _ _ _ _ _ h
      (try simp only [Act.put, List.setIfInBounds_toArray, List.set_cons_zero, List.set_cons_succ])
      exact any_eq (by kernel_rfl) (by kernel_rfl) (hK6_12_18 _ _ ⟨Kt, It, Ft, St, qt, mt, dt, Ku, Iu, Fu, Su, qu, mu, du, z, _, wT, gB, rfl, (row_step hR hbT), (bel_step hbd hbT), (bel_step hbr hbT), ⟨stay_refl _ _, Nat.le_refl _⟩, row_lt hR, Lib.hid hz, (row_step hgB hbT), (hsgB), (hwgB), Or.inl (row_lt hgB)⟩ hHeld)
    case hst17hK6_18m =>
      intro K hK
      go_simp
      refine hK.out _ _ ?hs17hK6_18m (fun hHeld => ?_)
      case hs17hK6_18m => exact ⟨row_cell (row_step hR (bel_alloc (Below.refl _ _) (.cells #[.int .i64 0, .int .i64 0, .float .f64 0, .string ⟨#[]⟩, .slice none 0 0] 27))) 0, row_cell (row_step hR (bel_alloc (Below.refl _ _) (.cells #[.int .i64 0, .int .i64 0, .float .f64 0, .string ⟨#[]⟩, .slice none 0 0] 27))) 1, row_cell (row_step hR (bel_alloc (Below.refl _ _) (.cells #[.int .i64 0, .int .i64 0, .float .f64 0, .string ⟨#[]⟩, .slice none 0 0] 27))) 2, row_cell (row_step hR (bel_alloc (Below.refl _ _) (.cells #[.int .i64 0, .int .i64 0, .float .f64 0, .string ⟨#[]⟩, .slice none 0 0] 27))) 3, row_cell (row_step hR (bel_alloc (Below.refl _ _) (.cells #[.int .i64 0, .int .i64 0, .float .f64 0, .string ⟨#[]⟩, .slice none 0 0] 27))) 4, (HK.out _ (bel_step hbd (bel_alloc (Below.refl _ _) (.cells #[.int .i64 0, .int .i64 0, .float .f64 0, .string ⟨#[]⟩, .slice none 0 0] 27)))).1, (HK.out _ (bel_step hbd (bel_alloc (Below.refl _ _) (.cells #[.int .i64 0, .int .i64 0, .float .f64 0, .string ⟨#[]⟩, .slice none 0 0] 27)))).2⟩
      clear hK K
      (try simp only [Act.put, List.setIfInBounds_toArray, List.set_cons_zero, List.set_cons_succ])
      exact any_eq (by kernel_rfl) (by kernel_rfl) (hK6_17_18 _ _ ⟨_, gB, rfl, (row_step hR (bel_alloc (Below.refl _ _) (.cells #[.int .i64 0, .int .i64 0, .float .f64 0, .string ⟨#[]⟩, .slice none 0 0] 27))), (bel_step hbd (bel_alloc (Below.refl _ _) (.cells #[.int .i64 0, .int .i64 0, .float .f64 0, .string ⟨#[]⟩, .slice none 0 0] 27))), (bel_step hbr (bel_alloc (Below.refl _ _) (.cells #[.int .i64 0, .int .i64 0, .float .f64 0, .string ⟨#[]⟩, .slice none 0 0] 27))), row_alloc _ _ _, row_lt hR, hbr.size, (row_step hgB (bel_alloc (Below.refl _ _) (.cells #[.int .i64 0, .int .i64 0, .float .f64 0, .string ⟨#[]⟩, .slice none 0 0] 27))), (hsgB), (hwgB), Nat.ne_of_gt (row_lt hgB)⟩ hHeld)
  refine any_have 9 [17, 18] (fun a a' w' => ∃ (gA : Nat) (gB : Nat), a' = ((a.put (some 5) (.pointer (some ⟨gA, 0, none⟩))).put (some 6) (.pointer (some ⟨gB, 0, none⟩))) ∧ w'.heap[sb]? = some (.cells #[.int .i64 4, .int .i64 0, .float .f64 0, .string ⟨#[]⟩, .slice ps ls cs] 27 (0, 0)) ∧ Below w.heap.size w w' ∧ Below wr.heap.size wr w' ∧ w'.heap[gA]? = some (.cells #[.int .i64 0, .int .i64 0, .float .f64 0, .string ⟨#[]⟩, .slice none 0 0] 27 (0, 0)) ∧ sb < gA ∧ wr.heap.size ≤ gA ∧ w'.heap[gB]? = some (.cells #[.int .i64 0, .int .i64 0, .float .f64 0, .string ⟨#[]⟩, .slice none 0 0] 27 (0, 0)) ∧ sb < gB ∧ wr.heap.size ≤ gB ∧ gA ≠ gB) ?phK17_18m (fun hK17_18 => ?_)
  case phK17_18m =>
    intro a' w' hst hHeld
    obtain ⟨gA, gB, rfl, hR, hbd, hbr, hgA, hsgA, hwgA, hgB, hsgB, hwgB, hAB⟩ := hst
    (try simp only [Act.put, List.setIfInBounds_toArray, List.set_cons_zero, List.set_cons_succ])
    refine wpAnyH_ready (rs := [6]) (by kernel_rfl) (by simp) ?_
    refine AllReadyH.cons (o := ?_) ?ho6hK17_18m ?hst6hK17_18m AllReadyH.nil
    case ho6hK17_18m => (simp only [List.getElem?_toArray, List.getElem?_cons_zero, List.getElem?_cons_succ]; rfl)
    case hst6hK17_18m =>
      intro K hK
      go_simp
      go_at_call 11; refine (method_any k hk _).mono ?_; rintro e wT ⟨rfl, hbT⟩
      go_wp2_with fail
      refine hK.out _ _ ?hs6hK17_18m (fun hHeld => ?_)
      case hs6hK17_18m => exact ⟨row_cell (row_step hR hbT) 0, row_cell (row_step hR hbT) 1, row_cell (row_step hR hbT) 2, row_cell (row_step hR hbT) 3, row_cell (row_step hR hbT) 4, (HK.out _ (bel_step hbd hbT)).1, (HK.out _ (bel_step hbd hbT)).2⟩
      clear hK K
      (try simp only [Act.put, List.setIfInBounds_toArray, List.set_cons_zero, List.set_cons_succ])
      exact any_eq (by kernel_rfl) (by kernel_rfl) (hK6_17_18 _ _ ⟨gA, gB, rfl, (row_step hR hbT), (bel_step hbd hbT), (bel_step hbr hbT), (row_step hgA hbT), (hsgA), (hwgA), (row_step hgB hbT), (hsgB), (hwgB), (hAB)⟩ hHeld)
  refine any_have 10 [6] (fun a a' w' => a' = (a.put (some 42) (.string (mthN (k % 8)))) ∧ w'.heap[sb]? = some (.cells #[.int .i64 4, .int .i64 0, .float .f64 0, .string ⟨#[]⟩, .slice ps ls cs] 27 (0, 0)) ∧ Below w.heap.size w w' ∧ Below wr.heap.size wr w') ?phK6m (fun hK6 => ?_)
  case phK6m =>
    intro a' w' hst hHeld
    obtain ⟨rfl, hR, hbd, hbr⟩ := hst
    (try simp only [Act.put, List.setIfInBounds_toArray, List.set_cons_zero, List.set_cons_succ])
    refine wpAnyH_ready (rs := [12, 17, 18]) (by kernel_rfl) (by simp) ?_
    refine AllReadyH.cons (o := ?_) ?ho12hK6m ?hst12hK6m (AllReadyH.cons (o := ?_) ?ho17hK6m ?hst17hK6m (AllReadyH.cons (o := ?_) ?ho18hK6m ?hst18hK6m AllReadyH.nil))
    case ho12hK6m => (simp only [List.getElem?_toArray, List.getElem?_cons_zero, List.getElem?_cons_succ]; rfl)
    case ho17hK6m => (simp only [List.getElem?_toArray, List.getElem?_cons_zero, List.getElem?_cons_succ]; rfl)
    case ho18hK6m => (simp only [List.getElem?_toArray, List.getElem?_cons_zero, List.getElem?_cons_succ]; rfl)
    case hst12hK6m =>
      intro K hK
      go_simp
      go_at_call 13; refine (HDO.out _ hbr).mono ?_; rintro e wT ⟨tt, uu, z, rfl, hbT, ⟨Kt, It, Ft, St, qt, mt, dt, rfl⟩, ⟨Ku, Iu, Fu, Su, qu, mu, du, rfl⟩, hz⟩
      go_wp2_with fail
      refine hK.out _ _ ?hs12hK6m (fun hHeld => ?_)
      case hs12hK6m => exact ⟨row_cell (row_step hR hbT) 0, row_cell (row_step hR hbT) 1, row_cell (row_step hR hbT) 2, row_cell (row_step hR hbT) 3, row_cell (row_step hR hbT) 4, (HK.out _ (bel_step hbd hbT)).1, (HK.out _ (bel_step hbd hbT)).2⟩
      clear hK K
      (try simp only [Act.put, List.setIfInBounds_toArray, List.set_cons_zero, List.set_cons_succ])
      refine wpAnyH_take (i := 13) (oi := ?_) (v := ?_) ?hin12hK6m13 (by kernel_rfl) ?hfn12hK6m13 ?hrn12hK6m13 ?hQn12hK6m13 ?hyn12hK6m13 (by assumption) ?restn12hK6m13
      case hin12hK6m13 => (simp only [List.getElem?_toArray, List.getElem?_cons_zero, List.getElem?_cons_succ]; rfl)
      case hfn12hK6m13 => kernel_rfl
      case hrn12hK6m13 => kernel_rfl
      case hyn12hK6m13 => (refine Or.inl ⟨by rfl, ?_⟩; intro wS hSw; (try dsimp only at hSw); go_simp; (try with_reducible rfl))
      case hQn12hK6m13 => exact fun _ _ _ h => hP _ _ _ _ _ h
      (try simp only [Act.put, List.setIfInBounds_toArray, List.set_cons_zero, List.set_cons_succ])
      refine wpAnyH_take (i := 14) (oi := ?_) (v := ?_) ?hin12hK6m14 (by kernel_rfl) ?hfn12hK6m14 ?hrn12hK6m14 ?hQn12hK6m14 ?hyn12hK6m14 (by assumption) ?restn12hK6m14
      case hin12hK6m14 => (simp only [List.getElem?_toArray, List.getElem?_cons_zero, List.getElem?_cons_succ]; rfl)
      case hfn12hK6m14 => kernel_rfl
      case hrn12hK6m14 => kernel_rfl
      case hyn12hK6m14 => (refine Or.inl ⟨by rfl, ?_⟩; intro wS hSw; (try dsimp only at hSw); go_simp; (try with_reducible rfl))
      case hQn12hK6m14 => exact fun _ _ _ h => hP _ _ _ _ _ h
      (try simp only [Act.put, List.setIfInBounds_toArray, List.set_cons_zero, List.set_cons_succ])
      refine wpAnyH_take (i := 15) (oi := ?_) (v := ?_) ?hin12hK6m15 (by kernel_rfl) ?hfn12hK6m15 ?hrn12hK6m15 ?hQn12hK6m15 ?hyn12hK6m15 (by assumption) ?restn12hK6m15
      case hin12hK6m15 => (simp only [List.getElem?_toArray, List.getElem?_cons_zero, List.getElem?_cons_succ]; rfl)
      case hfn12hK6m15 => kernel_rfl
      case hrn12hK6m15 => kernel_rfl
      case hyn12hK6m15 => (refine Or.inl ⟨by rfl, ?_⟩; intro wS hSw; (try dsimp only at hSw); go_simp; (try with_reducible rfl))
      case hQn12hK6m15 => exact fun _ _ _ h => hP _ _ _ _ _ h
      (try simp only [Act.put, List.setIfInBounds_toArray, List.set_cons_zero, List.set_cons_succ])
      refine wpAnyH_take (i := 16) (oi := ?_) (v := ?_) ?hin12hK6m16 (by kernel_rfl) ?hfn12hK6m16 ?hrn12hK6m16 ?hQn12hK6m16 ?hyn12hK6m16 (by assumption) ?restn12hK6m16
      case hin12hK6m16 => (simp only [List.getElem?_toArray, List.getElem?_cons_zero, List.getElem?_cons_succ]; rfl)
      case hfn12hK6m16 => kernel_rfl
      case hrn12hK6m16 => kernel_rfl
      case hyn12hK6m16 => (refine Or.inl ⟨by rfl, ?_⟩; intro wS hSw; (try dsimp only at hSw); go_simp; (try with_reducible rfl))
      case hQn12hK6m16 => exact fun _ _ _ h => hP _ _ _ _ _ h
      (try simp only [Act.put, List.setIfInBounds_toArray, List.set_cons_zero, List.set_cons_succ])
      exact any_eq (by kernel_rfl) (by kernel_rfl) (hK6_12 _ _ ⟨Kt, It, Ft, St, qt, mt, dt, Ku, Iu, Fu, Su, qu, mu, du, z, _, wT, rfl, (row_step hR hbT), (bel_step hbd hbT), (bel_step hbr hbT), ⟨stay_refl _ _, Nat.le_refl _⟩, row_lt hR, Lib.hid hz⟩ hHeld)
    case hst17hK6m =>
      intro K hK
      go_simp
      refine hK.out _ _ ?hs17hK6m (fun hHeld => ?_)
      case hs17hK6m => exact ⟨row_cell (row_step hR (bel_alloc (Below.refl _ _) (.cells #[.int .i64 0, .int .i64 0, .float .f64 0, .string ⟨#[]⟩, .slice none 0 0] 27))) 0, row_cell (row_step hR (bel_alloc (Below.refl _ _) (.cells #[.int .i64 0, .int .i64 0, .float .f64 0, .string ⟨#[]⟩, .slice none 0 0] 27))) 1, row_cell (row_step hR (bel_alloc (Below.refl _ _) (.cells #[.int .i64 0, .int .i64 0, .float .f64 0, .string ⟨#[]⟩, .slice none 0 0] 27))) 2, row_cell (row_step hR (bel_alloc (Below.refl _ _) (.cells #[.int .i64 0, .int .i64 0, .float .f64 0, .string ⟨#[]⟩, .slice none 0 0] 27))) 3, row_cell (row_step hR (bel_alloc (Below.refl _ _) (.cells #[.int .i64 0, .int .i64 0, .float .f64 0, .string ⟨#[]⟩, .slice none 0 0] 27))) 4, (HK.out _ (bel_step hbd (bel_alloc (Below.refl _ _) (.cells #[.int .i64 0, .int .i64 0, .float .f64 0, .string ⟨#[]⟩, .slice none 0 0] 27)))).1, (HK.out _ (bel_step hbd (bel_alloc (Below.refl _ _) (.cells #[.int .i64 0, .int .i64 0, .float .f64 0, .string ⟨#[]⟩, .slice none 0 0] 27)))).2⟩
      clear hK K
      (try simp only [Act.put, List.setIfInBounds_toArray, List.set_cons_zero, List.set_cons_succ])
      exact any_eq (by kernel_rfl) (by kernel_rfl) (hK6_17 _ _ ⟨_, rfl, (row_step hR (bel_alloc (Below.refl _ _) (.cells #[.int .i64 0, .int .i64 0, .float .f64 0, .string ⟨#[]⟩, .slice none 0 0] 27))), (bel_step hbd (bel_alloc (Below.refl _ _) (.cells #[.int .i64 0, .int .i64 0, .float .f64 0, .string ⟨#[]⟩, .slice none 0 0] 27))), (bel_step hbr (bel_alloc (Below.refl _ _) (.cells #[.int .i64 0, .int .i64 0, .float .f64 0, .string ⟨#[]⟩, .slice none 0 0] 27))), row_alloc _ _ _, row_lt hR, hbr.size⟩ hHeld)
    case hst18hK6m =>
      intro K hK
      go_simp
      refine hK.out _ _ ?hs18hK6m (fun hHeld => ?_)
      case hs18hK6m => exact ⟨row_cell (row_step hR (bel_alloc (Below.refl _ _) (.cells #[.int .i64 0, .int .i64 0, .float .f64 0, .string ⟨#[]⟩, .slice none 0 0] 27))) 0, row_cell (row_step hR (bel_alloc (Below.refl _ _) (.cells #[.int .i64 0, .int .i64 0, .float .f64 0, .string ⟨#[]⟩, .slice none 0 0] 27))) 1, row_cell (row_step hR (bel_alloc (Below.refl _ _) (.cells #[.int .i64 0, .int .i64 0, .float .f64 0, .string ⟨#[]⟩, .slice none 0 0] 27))) 2, row_cell (row_step hR (bel_alloc (Below.refl _ _) (.cells #[.int .i64 0, .int .i64 0, .float .f64 0, .string ⟨#[]⟩, .slice none 0 0] 27))) 3, row_cell (row_step hR (bel_alloc (Below.refl _ _) (.cells #[.int .i64 0, .int .i64 0, .float .f64 0, .string ⟨#[]⟩, .slice none 0 0] 27))) 4, (HK.out _ (bel_step hbd (bel_alloc (Below.refl _ _) (.cells #[.int .i64 0, .int .i64 0, .float .f64 0, .string ⟨#[]⟩, .slice none 0 0] 27)))).1, (HK.out _ (bel_step hbd (bel_alloc (Below.refl _ _) (.cells #[.int .i64 0, .int .i64 0, .float .f64 0, .string ⟨#[]⟩, .slice none 0 0] 27)))).2⟩
      clear hK K
      (try simp only [Act.put, List.setIfInBounds_toArray, List.set_cons_zero, List.set_cons_succ])
      exact any_eq (by kernel_rfl) (by kernel_rfl) (hK6_18 _ _ ⟨_, rfl, (row_step hR (bel_alloc (Below.refl _ _) (.cells #[.int .i64 0, .int .i64 0, .float .f64 0, .string ⟨#[]⟩, .slice none 0 0] 27))), (bel_step hbd (bel_alloc (Below.refl _ _) (.cells #[.int .i64 0, .int .i64 0, .float .f64 0, .string ⟨#[]⟩, .slice none 0 0] 27))), (bel_step hbr (bel_alloc (Below.refl _ _) (.cells #[.int .i64 0, .int .i64 0, .float .f64 0, .string ⟨#[]⟩, .slice none 0 0] 27))), row_alloc _ _ _, row_lt hR, hbr.size⟩ hHeld)
  refine any_have 10 [17] (fun a a' w' => ∃ (gA : Nat), a' = (a.put (some 5) (.pointer (some ⟨gA, 0, none⟩))) ∧ w'.heap[sb]? = some (.cells #[.int .i64 4, .int .i64 0, .float .f64 0, .string ⟨#[]⟩, .slice ps ls cs] 27 (0, 0)) ∧ Below w.heap.size w w' ∧ Below wr.heap.size wr w' ∧ w'.heap[gA]? = some (.cells #[.int .i64 0, .int .i64 0, .float .f64 0, .string ⟨#[]⟩, .slice none 0 0] 27 (0, 0)) ∧ sb < gA ∧ wr.heap.size ≤ gA) ?phK17m (fun hK17 => ?_)
  case phK17m =>
    intro a' w' hst hHeld
    obtain ⟨gA, rfl, hR, hbd, hbr, hgA, hsgA, hwgA⟩ := hst
    (try simp only [Act.put, List.setIfInBounds_toArray, List.set_cons_zero, List.set_cons_succ])
    refine wpAnyH_ready (rs := [6, 18]) (by kernel_rfl) (by simp) ?_
    refine AllReadyH.cons (o := ?_) ?ho6hK17m ?hst6hK17m (AllReadyH.cons (o := ?_) ?ho18hK17m ?hst18hK17m AllReadyH.nil)
    case ho6hK17m => (simp only [List.getElem?_toArray, List.getElem?_cons_zero, List.getElem?_cons_succ]; rfl)
    case ho18hK17m => (simp only [List.getElem?_toArray, List.getElem?_cons_zero, List.getElem?_cons_succ]; rfl)
    case hst6hK17m =>
      intro K hK
      go_simp
      go_at_call 11; refine (method_any k hk _).mono ?_; rintro e wT ⟨rfl, hbT⟩
      go_wp2_with fail
      refine hK.out _ _ ?hs6hK17m (fun hHeld => ?_)
      case hs6hK17m => exact ⟨row_cell (row_step hR hbT) 0, row_cell (row_step hR hbT) 1, row_cell (row_step hR hbT) 2, row_cell (row_step hR hbT) 3, row_cell (row_step hR hbT) 4, (HK.out _ (bel_step hbd hbT)).1, (HK.out _ (bel_step hbd hbT)).2⟩
      clear hK K
      (try simp only [Act.put, List.setIfInBounds_toArray, List.set_cons_zero, List.set_cons_succ])
      exact any_eq (by kernel_rfl) (by kernel_rfl) (hK6_17 _ _ ⟨gA, rfl, (row_step hR hbT), (bel_step hbd hbT), (bel_step hbr hbT), (row_step hgA hbT), (hsgA), (hwgA)⟩ hHeld)
    case hst18hK17m =>
      intro K hK
      go_simp
      refine hK.out _ _ ?hs18hK17m (fun hHeld => ?_)
      case hs18hK17m => exact ⟨row_cell (row_step hR (bel_alloc (Below.refl _ _) (.cells #[.int .i64 0, .int .i64 0, .float .f64 0, .string ⟨#[]⟩, .slice none 0 0] 27))) 0, row_cell (row_step hR (bel_alloc (Below.refl _ _) (.cells #[.int .i64 0, .int .i64 0, .float .f64 0, .string ⟨#[]⟩, .slice none 0 0] 27))) 1, row_cell (row_step hR (bel_alloc (Below.refl _ _) (.cells #[.int .i64 0, .int .i64 0, .float .f64 0, .string ⟨#[]⟩, .slice none 0 0] 27))) 2, row_cell (row_step hR (bel_alloc (Below.refl _ _) (.cells #[.int .i64 0, .int .i64 0, .float .f64 0, .string ⟨#[]⟩, .slice none 0 0] 27))) 3, row_cell (row_step hR (bel_alloc (Below.refl _ _) (.cells #[.int .i64 0, .int .i64 0, .float .f64 0, .string ⟨#[]⟩, .slice none 0 0] 27))) 4, (HK.out _ (bel_step hbd (bel_alloc (Below.refl _ _) (.cells #[.int .i64 0, .int .i64 0, .float .f64 0, .string ⟨#[]⟩, .slice none 0 0] 27)))).1, (HK.out _ (bel_step hbd (bel_alloc (Below.refl _ _) (.cells #[.int .i64 0, .int .i64 0, .float .f64 0, .string ⟨#[]⟩, .slice none 0 0] 27)))).2⟩
      clear hK K
      (try simp only [Act.put, List.setIfInBounds_toArray, List.set_cons_zero, List.set_cons_succ])
      exact any_eq (by kernel_rfl) (by kernel_rfl) (hK17_18 _ _ ⟨gA, _, rfl, (row_step hR (bel_alloc (Below.refl _ _) (.cells #[.int .i64 0, .int .i64 0, .float .f64 0, .string ⟨#[]⟩, .slice none 0 0] 27))), (bel_step hbd (bel_alloc (Below.refl _ _) (.cells #[.int .i64 0, .int .i64 0, .float .f64 0, .string ⟨#[]⟩, .slice none 0 0] 27))), (bel_step hbr (bel_alloc (Below.refl _ _) (.cells #[.int .i64 0, .int .i64 0, .float .f64 0, .string ⟨#[]⟩, .slice none 0 0] 27))), (row_step hgA (bel_alloc (Below.refl _ _) (.cells #[.int .i64 0, .int .i64 0, .float .f64 0, .string ⟨#[]⟩, .slice none 0 0] 27))), (hsgA), (hwgA), row_alloc _ _ _, row_lt hR, hbr.size, Nat.ne_of_lt (row_lt hgA)⟩ hHeld)
  refine any_have 10 [18] (fun a a' w' => ∃ (gB : Nat), a' = (a.put (some 6) (.pointer (some ⟨gB, 0, none⟩))) ∧ w'.heap[sb]? = some (.cells #[.int .i64 4, .int .i64 0, .float .f64 0, .string ⟨#[]⟩, .slice ps ls cs] 27 (0, 0)) ∧ Below w.heap.size w w' ∧ Below wr.heap.size wr w' ∧ w'.heap[gB]? = some (.cells #[.int .i64 0, .int .i64 0, .float .f64 0, .string ⟨#[]⟩, .slice none 0 0] 27 (0, 0)) ∧ sb < gB ∧ wr.heap.size ≤ gB) ?phK18m (fun hK18 => ?_)
  case phK18m =>
    intro a' w' hst hHeld
    obtain ⟨gB, rfl, hR, hbd, hbr, hgB, hsgB, hwgB⟩ := hst
    (try simp only [Act.put, List.setIfInBounds_toArray, List.set_cons_zero, List.set_cons_succ])
    refine wpAnyH_ready (rs := [6, 17]) (by kernel_rfl) (by simp) ?_
    refine AllReadyH.cons (o := ?_) ?ho6hK18m ?hst6hK18m (AllReadyH.cons (o := ?_) ?ho17hK18m ?hst17hK18m AllReadyH.nil)
    case ho6hK18m => (simp only [List.getElem?_toArray, List.getElem?_cons_zero, List.getElem?_cons_succ]; rfl)
    case ho17hK18m => (simp only [List.getElem?_toArray, List.getElem?_cons_zero, List.getElem?_cons_succ]; rfl)
    case hst6hK18m =>
      intro K hK
      go_simp
      go_at_call 11; refine (method_any k hk _).mono ?_; rintro e wT ⟨rfl, hbT⟩
      go_wp2_with fail
      refine hK.out _ _ ?hs6hK18m (fun hHeld => ?_)
      case hs6hK18m => exact ⟨row_cell (row_step hR hbT) 0, row_cell (row_step hR hbT) 1, row_cell (row_step hR hbT) 2, row_cell (row_step hR hbT) 3, row_cell (row_step hR hbT) 4, (HK.out _ (bel_step hbd hbT)).1, (HK.out _ (bel_step hbd hbT)).2⟩
      clear hK K
      (try simp only [Act.put, List.setIfInBounds_toArray, List.set_cons_zero, List.set_cons_succ])
      exact any_eq (by kernel_rfl) (by kernel_rfl) (hK6_18 _ _ ⟨gB, rfl, (row_step hR hbT), (bel_step hbd hbT), (bel_step hbr hbT), (row_step hgB hbT), (hsgB), (hwgB)⟩ hHeld)
    case hst17hK18m =>
      intro K hK
      go_simp
      refine hK.out _ _ ?hs17hK18m (fun hHeld => ?_)
      case hs17hK18m => exact ⟨row_cell (row_step hR (bel_alloc (Below.refl _ _) (.cells #[.int .i64 0, .int .i64 0, .float .f64 0, .string ⟨#[]⟩, .slice none 0 0] 27))) 0, row_cell (row_step hR (bel_alloc (Below.refl _ _) (.cells #[.int .i64 0, .int .i64 0, .float .f64 0, .string ⟨#[]⟩, .slice none 0 0] 27))) 1, row_cell (row_step hR (bel_alloc (Below.refl _ _) (.cells #[.int .i64 0, .int .i64 0, .float .f64 0, .string ⟨#[]⟩, .slice none 0 0] 27))) 2, row_cell (row_step hR (bel_alloc (Below.refl _ _) (.cells #[.int .i64 0, .int .i64 0, .float .f64 0, .string ⟨#[]⟩, .slice none 0 0] 27))) 3, row_cell (row_step hR (bel_alloc (Below.refl _ _) (.cells #[.int .i64 0, .int .i64 0, .float .f64 0, .string ⟨#[]⟩, .slice none 0 0] 27))) 4, (HK.out _ (bel_step hbd (bel_alloc (Below.refl _ _) (.cells #[.int .i64 0, .int .i64 0, .float .f64 0, .string ⟨#[]⟩, .slice none 0 0] 27)))).1, (HK.out _ (bel_step hbd (bel_alloc (Below.refl _ _) (.cells #[.int .i64 0, .int .i64 0, .float .f64 0, .string ⟨#[]⟩, .slice none 0 0] 27)))).2⟩
      clear hK K
      (try simp only [Act.put, List.setIfInBounds_toArray, List.set_cons_zero, List.set_cons_succ])
      exact any_eq (by kernel_rfl) (by kernel_rfl) (hK17_18 _ _ ⟨_, gB, rfl, (row_step hR (bel_alloc (Below.refl _ _) (.cells #[.int .i64 0, .int .i64 0, .float .f64 0, .string ⟨#[]⟩, .slice none 0 0] 27))), (bel_step hbd (bel_alloc (Below.refl _ _) (.cells #[.int .i64 0, .int .i64 0, .float .f64 0, .string ⟨#[]⟩, .slice none 0 0] 27))), (bel_step hbr (bel_alloc (Below.refl _ _) (.cells #[.int .i64 0, .int .i64 0, .float .f64 0, .string ⟨#[]⟩, .slice none 0 0] 27))), row_alloc _ _ _, row_lt hR, hbr.size, (row_step hgB (bel_alloc (Below.refl _ _) (.cells #[.int .i64 0, .int .i64 0, .float .f64 0, .string ⟨#[]⟩, .slice none 0 0] 27))), (hsgB), (hwgB), Nat.ne_of_gt (row_lt hgB)⟩ hHeld)
  refine wpAnyH_ready (rs := [6, 17, 18]) (by kernel_rfl) (by simp) ?_
  refine AllReadyH.cons (o := ?_) ?ho6zm ?hst6zm (AllReadyH.cons (o := ?_) ?ho17zm ?hst17zm (AllReadyH.cons (o := ?_) ?ho18zm ?hst18zm AllReadyH.nil))
  case ho6zm => (simp only [List.getElem?_toArray, List.getElem?_cons_zero, List.getElem?_cons_succ]; rfl)
  case ho17zm => (simp only [List.getElem?_toArray, List.getElem?_cons_zero, List.getElem?_cons_succ]; rfl)
  case ho18zm => (simp only [List.getElem?_toArray, List.getElem?_cons_zero, List.getElem?_cons_succ]; rfl)
  case hst6zm =>
    intro K hK
    go_simp
    go_at_call 11; refine (method_any k hk _).mono ?_; rintro e wT ⟨rfl, hbT⟩
    go_wp2_with fail
    refine hK.out _ _ ?hs6zm (fun hHeld => ?_)
    case hs6zm => exact ⟨row_cell (row_step hR hbT) 0, row_cell (row_step hR hbT) 1, row_cell (row_step hR hbT) 2, row_cell (row_step hR hbT) 3, row_cell (row_step hR hbT) 4, (HK.out _ (bel_step hbd hbT)).1, (HK.out _ (bel_step hbd hbT)).2⟩
    clear hK K
    (try simp only [Act.put, List.setIfInBounds_toArray, List.set_cons_zero, List.set_cons_succ])
    exact any_eq (by kernel_rfl) (by kernel_rfl) (hK6 _ _ ⟨rfl, (row_step hR hbT), (bel_step hbd hbT), (bel_step hbr hbT)⟩ hHeld)
  case hst17zm =>
    intro K hK
    go_simp
    refine hK.out _ _ ?hs17zm (fun hHeld => ?_)
    case hs17zm => exact ⟨row_cell (row_step hR (bel_alloc (Below.refl _ _) (.cells #[.int .i64 0, .int .i64 0, .float .f64 0, .string ⟨#[]⟩, .slice none 0 0] 27))) 0, row_cell (row_step hR (bel_alloc (Below.refl _ _) (.cells #[.int .i64 0, .int .i64 0, .float .f64 0, .string ⟨#[]⟩, .slice none 0 0] 27))) 1, row_cell (row_step hR (bel_alloc (Below.refl _ _) (.cells #[.int .i64 0, .int .i64 0, .float .f64 0, .string ⟨#[]⟩, .slice none 0 0] 27))) 2, row_cell (row_step hR (bel_alloc (Below.refl _ _) (.cells #[.int .i64 0, .int .i64 0, .float .f64 0, .string ⟨#[]⟩, .slice none 0 0] 27))) 3, row_cell (row_step hR (bel_alloc (Below.refl _ _) (.cells #[.int .i64 0, .int .i64 0, .float .f64 0, .string ⟨#[]⟩, .slice none 0 0] 27))) 4, (HK.out _ (bel_step hbd (bel_alloc (Below.refl _ _) (.cells #[.int .i64 0, .int .i64 0, .float .f64 0, .string ⟨#[]⟩, .slice none 0 0] 27)))).1, (HK.out _ (bel_step hbd (bel_alloc (Below.refl _ _) (.cells #[.int .i64 0, .int .i64 0, .float .f64 0, .string ⟨#[]⟩, .slice none 0 0] 27)))).2⟩
    clear hK K
    (try simp only [Act.put, List.setIfInBounds_toArray, List.set_cons_zero, List.set_cons_succ])
    exact any_eq (by kernel_rfl) (by kernel_rfl) (hK17 _ _ ⟨_, rfl, (row_step hR (bel_alloc (Below.refl _ _) (.cells #[.int .i64 0, .int .i64 0, .float .f64 0, .string ⟨#[]⟩, .slice none 0 0] 27))), (bel_step hbd (bel_alloc (Below.refl _ _) (.cells #[.int .i64 0, .int .i64 0, .float .f64 0, .string ⟨#[]⟩, .slice none 0 0] 27))), (bel_step hbr (bel_alloc (Below.refl _ _) (.cells #[.int .i64 0, .int .i64 0, .float .f64 0, .string ⟨#[]⟩, .slice none 0 0] 27))), row_alloc _ _ _, row_lt hR, hbr.size⟩ hHeld)
  case hst18zm =>
    intro K hK
    go_simp
    refine hK.out _ _ ?hs18zm (fun hHeld => ?_)
    case hs18zm => exact ⟨row_cell (row_step hR (bel_alloc (Below.refl _ _) (.cells #[.int .i64 0, .int .i64 0, .float .f64 0, .string ⟨#[]⟩, .slice none 0 0] 27))) 0, row_cell (row_step hR (bel_alloc (Below.refl _ _) (.cells #[.int .i64 0, .int .i64 0, .float .f64 0, .string ⟨#[]⟩, .slice none 0 0] 27))) 1, row_cell (row_step hR (bel_alloc (Below.refl _ _) (.cells #[.int .i64 0, .int .i64 0, .float .f64 0, .string ⟨#[]⟩, .slice none 0 0] 27))) 2, row_cell (row_step hR (bel_alloc (Below.refl _ _) (.cells #[.int .i64 0, .int .i64 0, .float .f64 0, .string ⟨#[]⟩, .slice none 0 0] 27))) 3, row_cell (row_step hR (bel_alloc (Below.refl _ _) (.cells #[.int .i64 0, .int .i64 0, .float .f64 0, .string ⟨#[]⟩, .slice none 0 0] 27))) 4, (HK.out _ (bel_step hbd (bel_alloc (Below.refl _ _) (.cells #[.int .i64 0, .int .i64 0, .float .f64 0, .string ⟨#[]⟩, .slice none 0 0] 27)))).1, (HK.out _ (bel_step hbd (bel_alloc (Below.refl _ _) (.cells #[.int .i64 0, .int .i64 0, .float .f64 0, .string ⟨#[]⟩, .slice none 0 0] 27)))).2⟩
    clear hK K
    (try simp only [Act.put, List.setIfInBounds_toArray, List.set_cons_zero, List.set_cons_succ])
    exact any_eq (by kernel_rfl) (by kernel_rfl) (hK18 _ _ ⟨_, rfl, (row_step hR (bel_alloc (Below.refl _ _) (.cells #[.int .i64 0, .int .i64 0, .float .f64 0, .string ⟨#[]⟩, .slice none 0 0] 27))), (bel_step hbd (bel_alloc (Below.refl _ _) (.cells #[.int .i64 0, .int .i64 0, .float .f64 0, .string ⟨#[]⟩, .slice none 0 0] 27))), (bel_step hbr (bel_alloc (Below.refl _ _) (.cells #[.int .i64 0, .int .i64 0, .float .f64 0, .string ⟨#[]⟩, .slice none 0 0] 27))), row_alloc _ _ _, row_lt hR, hbr.size⟩ hHeld)
end Num
end Go.Proofs.YtpbfaffheigjcaaGreat
