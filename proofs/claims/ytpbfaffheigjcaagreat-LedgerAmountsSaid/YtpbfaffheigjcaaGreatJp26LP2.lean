/-
  LedgerAmounts: the reference's Do (region 10).
-/
import Derived.Test.YtpbfaffheigjcaaGreatJMI
import Derived.Test.YtpbfaffheigjcaaGreatJLP1
import Derived.Test.YtpbfaffheigjcaaGreatJp20YY
import Derived.Test.YtpbfaffheigjcaaGreatJp10VSurv
import Derived.Deep.RegionHeld3
import Derived.RegionTactic
import Derived.Deep.DeepCutAuto
namespace Go.Proofs.YtpbfaffheigjcaaGreat
open Go.RowKit
namespace Num
open Ints
set_option linter.unusedSimpArgs false
set_option linter.unusedVariables false
set_option maxRecDepth 1000000 in
set_option maxHeartbeats 4000000 in
theorem amt10_any (w wr : World) (sb : Nat) (qs : Option Addr) (ms ds vb : Nat) (Kz Iz : Int) (Fz : Nat) (AS : List (ByteArray × Nat)) (TT : VT 3) (UU : VT 1) (z : Int) (c0 c1 c2 c3 c4 c5 c6 c8 c10 c11 c12 c13 c14 c15 c16 c17 c18 c19 c20 c21 c22 c23 c24 c25 c26 c27 c28 c29 c30 c31 c32 c33 c34 c35 c36 c37 c38 c39 c40 c41 c42 c43 c44 c45 c46 c47 c48 c49 c50 c51 c52 c53 c54 c55 c56 c57 c58 c59 c60 c61 c62 c63 c64 c65 c66 c67 c68 c69 c70 c71 c72 c73 c74 c75 c76 c77 c78 c79 c80 c81 c82 c83 c84 c85 c86 c87 c88 c89 c90 c91 c92 c93 c94 c95 c96 c97 c98 c99 c100 c101 c102 c103 c104 c105 c106 c107 c108 c109 c110 c111 : Value) (Q : Exit → Act → World → Prop) (hP : ∀ p a (d : Option Tmp) v w, Q (.panic p) (Act.put a d v) w → Q (.panic p) a w) (hsbr : sb < wr.heap.size) (hvbr : vb < wr.heap.size) (hwr : w.heap.size ≤ wr.heap.size) (HOK : Hid (okI Kz ∧ okI Iz ∧ Fz < 2 ^ 64)) (HFB : Hid (FBC w sb qs ms ds vb (.int .i64 Kz) (.int .i64 Iz) (.float .f64 Fz) (.string ⟨#[]⟩) (.slice none 0 0) wr)) (HSTr : Hid (Rep wr 3 (.agg #[.int .i64 4, .int .i64 0, .float .f64 0, .string ⟨#[]⟩, .slice qs ms ds]) (tableT 0 (ledA AS)))) (HDO : Hid (∀ (W : World) (g : Nat), Rep W 3 (.agg #[.int .i64 4, .int .i64 0, .float .f64 0, .string ⟨#[]⟩, .slice qs ms ds]) (tableT 0 (ledA AS)) → LA g [nameV 0 ⟨#[97]⟩, nameV 0 ⟨#[98]⟩, (Kz, Iz, Fz, ⟨#[]⟩, [])] W → Calls Tryz.prog 13 #[.string { data := #[108, 101, 100, 103, 101, 114] }, .agg #[.int .i64 4, .int .i64 0, .float .f64 0, .string ⟨#[]⟩, .slice qs ms ds], .string { data := #[116, 114, 97, 110, 115, 102, 101, 114] }, .slice (some ⟨g, 0, none⟩) 3 3] W fun e w' => RDo W (TT) (UU) z e w'))
    (hQ : ∀ (gA gB gE : Nat) (Kt It : Int) (Ft : Nat) (Zt : ByteArray) (qt : Option Addr) (mt dt : Nat) (Kv Iv : Int) (Fv : Nat) (Zv : ByteArray) (qv : Option Addr) (mv dv : Nat) (wx : World), CS wx gA (.int .i64 Kt) (.int .i64 It) (.float .f64 Ft) (.string Zt) (.slice qt mt dt) ∧ CS wx gB (.int .i64 Kv) (.int .i64 Iv) (.float .f64 Fv) (.string Zv) (.slice qv mv dv) ∧ FBC w sb qs ms ds vb (.int .i64 Kz) (.int .i64 Iz) (.float .f64 Fz) (.string ⟨#[]⟩) (.slice none 0 0) wx ∧ Below wr.heap.size wr wx ∧ RepK (fun b => b = gA ∨ b = gB) wx 3 (.agg #[.int .i64 Kt, .int .i64 It, .float .f64 Ft, .string Zt, .slice qt mt dt]) (TT) ∧ RepK (fun b => b = gA ∨ b = gB) wx 1 (.agg #[.int .i64 Kv, .int .i64 Iv, .float .f64 Fv, .string Zv, .slice qv mv dv]) (UU) ∧ wr.heap.size ≤ gA ∧ wr.heap.size ≤ gB → Q .normal { tmps := #[c0, c1, c2, c3, c4, c5, c6, (.pointer (some ⟨sb, 0, none⟩)), c8, (.pointer (some ⟨vb, 0, none⟩)), c10, c11, c12, (.pointer (some ⟨gA, 0, none⟩)), (.pointer (some ⟨gB, 0, none⟩)), (.int .i64 z), c16, c17, c18, c19, c20, c21, c22, c23, c24, c25, c26, c27, c28, c29, c30, c31, c32, c33, c34, c35, c36, c37, c38, c39, c40, c41, c42, c43, c44, c45, c46, c47, c48, c49, c50, c51, c52, c53, c54, c55, c56, c57, c58, c59, c60, c61, c62, c63, (.tuple #[.agg #[.int .i64 Kt, .int .i64 It, .float .f64 Ft, .string Zt, .slice qt mt dt], .agg #[.int .i64 Kv, .int .i64 Iv, .float .f64 Fv, .string Zv, .slice qv mv dv], .int .i64 z]), (.agg #[.int .i64 4, .int .i64 0, .float .f64 0, .string ⟨#[]⟩, .slice qs ms ds]), (.agg #[.int .i64 3, .int .i64 0, .float .f64 0, .string ⟨#[97]⟩, .slice none 0 0]), (.agg #[.int .i64 3, .int .i64 0, .float .f64 0, .string ⟨#[98]⟩, .slice none 0 0]), (.agg #[.int .i64 Kz, .int .i64 Iz, .float .f64 Fz, .string ⟨#[]⟩, .slice none 0 0]), (.slice (some ⟨gE, 0, none⟩) 3 3), (.tuple #[.agg #[.int .i64 Kt, .int .i64 It, .float .f64 Ft, .string Zt, .slice qt mt dt], .agg #[.int .i64 Kv, .int .i64 Iv, .float .f64 Fv, .string Zv, .slice qv mv dv], .int .i64 z]), (.agg #[.int .i64 Kt, .int .i64 It, .float .f64 Ft, .string Zt, .slice qt mt dt]), (.agg #[.int .i64 Kv, .int .i64 Iv, .float .f64 Fv, .string Zv, .slice qv mv dv]), (.int .i64 z), c74, c75, c76, c77, c78, c79, c80, c81, c82, c83, c84, c85, c86, c87, c88, c89, c90, c91, c92, c93, c94, c95, c96, c97, c98, c99, c100, c101, c102, c103, c104, c105, c106, c107, c108, c109, c110, c111], defers := [] } wx) :
    Code.wp Tryz.prog ((Tryz.f5.body.bind (regionBy 10)).getD .skip) Q { tmps := #[c0, c1, c2, c3, c4, c5, c6, (.pointer (some ⟨sb, 0, none⟩)), c8, (.pointer (some ⟨vb, 0, none⟩)), c10, c11, c12, c13, c14, c15, c16, c17, c18, c19, c20, c21, c22, c23, c24, c25, c26, c27, c28, c29, c30, c31, c32, c33, c34, c35, c36, c37, c38, c39, c40, c41, c42, c43, c44, c45, c46, c47, c48, c49, c50, c51, c52, c53, c54, c55, c56, c57, c58, c59, c60, c61, c62, c63, c64, c65, c66, c67, c68, c69, c70, c71, c72, c73, c74, c75, c76, c77, c78, c79, c80, c81, c82, c83, c84, c85, c86, c87, c88, c89, c90, c91, c92, c93, c94, c95, c96, c97, c98, c99, c100, c101, c102, c103, c104, c105, c106, c107, c108, c109, c110, c111], defers := [] } wr := by
  conv => arg 2; whnf
  refine wp_region_held_drew (S := (fun z => z.cell? ⟨sb, 0, none⟩ = some (.int .i64 4) ∧ z.cell? ⟨sb, 1, none⟩ = some (.int .i64 0) ∧ z.cell? ⟨sb, 2, none⟩ = some (.float .f64 0) ∧ z.cell? ⟨sb, 3, none⟩ = some (.string ⟨#[]⟩) ∧ z.cell? ⟨sb, 4, none⟩ = some (.slice qs ms ds) ∧ z.cell? ⟨vb, 0, none⟩ = some (.int .i64 Kz) ∧ z.cell? ⟨vb, 1, none⟩ = some (.int .i64 Iz) ∧ z.cell? ⟨vb, 2, none⟩ = some (.float .f64 Fz) ∧ z.cell? ⟨vb, 3, none⟩ = some (.string ⟨#[]⟩) ∧ z.cell? ⟨vb, 4, none⟩ = some (.slice none 0 0))) (by kernel_rfl) ?_ (fun hHeld => ?_)
  · exact fbc_cells (fbc_drew HFB.out)
  have HDW := Lib.hid (show FBC w sb qs ms ds vb (.int .i64 Kz) (.int .i64 Iz) (.float .f64 Fz) (.string ⟨#[]⟩) (.slice none 0 0) wr.drew ∧ Below wr.heap.size wr wr.drew from ⟨fbc_drew HFB.out, Below.drew (Below.refl _ _)⟩)
  have hdz : wr.drew.heap.size = wr.heap.size := rfl
  revert HDW hHeld hdz
  generalize wr.drew = Wd
  intro hHeld HDW hdz
  have hq := HDW.out.1
  have hbd := HDW.out.2
  refine zt [0, 3] ?_
  iterate 2 (refine zt1 hP (by simp only [lk0, lk1, lk2]; rfl) (by kernel_rfl) (by assumption) (by rfl) (fun wS hSw => by (try dsimp only at hSw); go_simp; (try with_reducible rfl)) ?_; (try simp only [Act.put, pk0, pk1, pk2]))
  refine zt0 ?_
  refine any_have 3 [10, 11, 1, 2, 4, 5, 6, 7, 8, 9] (fun a a' w' => ∃ (gA gB gE : Nat), ∃ (Kt It : Int) (Ft : Nat) (Zt : ByteArray) (qt : Option Addr) (mt dt : Nat) (Kv Iv : Int) (Fv : Nat) (Zv : ByteArray) (qv : Option Addr) (mv dv : Nat), a' = ((((((((((a.put (some 13) (.pointer (some ⟨gA, 0, none⟩))).put (some 14) (.pointer (some ⟨gB, 0, none⟩))).put (some 66) (.agg #[.int .i64 3, .int .i64 0, .float .f64 0, .string ⟨#[97]⟩, .slice none 0 0])).put (some 67) (.agg #[.int .i64 3, .int .i64 0, .float .f64 0, .string ⟨#[98]⟩, .slice none 0 0])).put (some 69) (.slice (some ⟨gE, 0, none⟩) 3 3)).put (some 70) (.tuple #[.agg #[.int .i64 Kt, .int .i64 It, .float .f64 Ft, .string Zt, .slice qt mt dt], .agg #[.int .i64 Kv, .int .i64 Iv, .float .f64 Fv, .string Zv, .slice qv mv dv], .int .i64 z])).put (some 64) (.tuple #[.agg #[.int .i64 Kt, .int .i64 It, .float .f64 Ft, .string Zt, .slice qt mt dt], .agg #[.int .i64 Kv, .int .i64 Iv, .float .f64 Fv, .string Zv, .slice qv mv dv], .int .i64 z])).put (some 71) (.agg #[.int .i64 Kt, .int .i64 It, .float .f64 Ft, .string Zt, .slice qt mt dt])).put (some 72) (.agg #[.int .i64 Kv, .int .i64 Iv, .float .f64 Fv, .string Zv, .slice qv mv dv])).put (some 73) (.int .i64 z)) ∧ FBC w sb qs ms ds vb (.int .i64 Kz) (.int .i64 Iz) (.float .f64 Fz) (.string ⟨#[]⟩) (.slice none 0 0) w' ∧ Below wr.heap.size wr w' ∧ SBX w' gA (.int .i64 0) (.int .i64 0) (.float .f64 0) (.string ⟨#[]⟩) (.slice none 0 0) ∧ wr.heap.size ≤ gA ∧ SBX w' gB (.int .i64 0) (.int .i64 0) (.float .f64 0) (.string ⟨#[]⟩) (.slice none 0 0) ∧ wr.heap.size ≤ gB ∧ gA ≠ gB ∧ RepK (fun b => b = gA ∨ b = gB) w' 3 (.agg #[.int .i64 Kt, .int .i64 It, .float .f64 Ft, .string Zt, .slice qt mt dt]) (TT) ∧ RepK (fun b => b = gA ∨ b = gB) w' 1 (.agg #[.int .i64 Kv, .int .i64 Iv, .float .f64 Fv, .string Zv, .slice qv mv dv]) (UU)) ?phK114m (fun hK114 => ?_)
  case phK114m =>
    intro a' w' hst hHeld
    obtain ⟨gA, gB, gE, Kt, It, Ft, Zt, qt, mt, dt, Kv, Iv, Fv, Zv, qv, mv, dv, rfl, hq, hbd, hsA, hgA, hsB, hgB, hne, ht, hv⟩ := hst
    (try simp only [Act.put, pk0, pk1, pk2])
    have hcA := hsA.1; have hcB := hsB.1
    refine zr1 12 (by kernel_rfl) (by simp only [lk0, lk1, lk2]; rfl) (fun K hK => ?_)
    have bb0 := hsA.1.1; have bb1 := hsA.1.2.1; have bb2 := hsA.1.2.2.1; have bb3 := hsA.1.2.2.2.1; have bb4 := hsA.1.2.2.2.2; have bbf := hsA.2; have bbl := cell_lt bb0; go_simp
    have hqA : FBC w sb qs ms ds vb (.int .i64 Kz) (.int .i64 Iz) (.float .f64 Fz) (.string ⟨#[]⟩) (.slice none 0 0) (((((w'.setCell ⟨gA, 0, none⟩ (.int .i64 Kt)).setCell ⟨gA, 1, none⟩ (.int .i64 It)).setCell ⟨gA, 2, none⟩ (.float .f64 Ft)).setCell ⟨gA, 3, none⟩ (.string Zt)).setCell ⟨gA, 4, none⟩ (.slice qt mt dt)) := fbc_set hq (by have h := hgA; omega) (by have h := hgA; omega) (by have h := hgA; omega)
    refine hK.out _ _ ?hs12hK114m (fun hHeld => ?_)
    case hs12hK114m => exact fbc_cells hqA
    clear hK K bb0 bb1 bb2 bb3 bb4 bbf bbl
    (try simp only [Act.put, pk0, pk1, pk2])
    refine zr1 13 (by kernel_rfl) (by simp only [lk0, lk1, lk2]; rfl) (fun K hK => ?_)
    have bb0 := hsB.1.1; have bb1 := hsB.1.2.1; have bb2 := hsB.1.2.2.1; have bb3 := hsB.1.2.2.2.1; have bb4 := hsB.1.2.2.2.2; have bbf := hsB.2; have bbl := cell_lt bb0; go_simp
    have hqB : FBC w sb qs ms ds vb (.int .i64 Kz) (.int .i64 Iz) (.float .f64 Fz) (.string ⟨#[]⟩) (.slice none 0 0) ((((((((((w'.setCell ⟨gA, 0, none⟩ (.int .i64 Kt)).setCell ⟨gA, 1, none⟩ (.int .i64 It)).setCell ⟨gA, 2, none⟩ (.float .f64 Ft)).setCell ⟨gA, 3, none⟩ (.string Zt)).setCell ⟨gA, 4, none⟩ (.slice qt mt dt)).setCell ⟨gB, 0, none⟩ (.int .i64 Kv)).setCell ⟨gB, 1, none⟩ (.int .i64 Iv)).setCell ⟨gB, 2, none⟩ (.float .f64 Fv)).setCell ⟨gB, 3, none⟩ (.string Zv)).setCell ⟨gB, 4, none⟩ (.slice qv mv dv)) := fbc_set hqA (by have h := hgB; omega) (by have h := hgB; omega) (by have h := hgB; omega)
    refine hK.out _ _ ?hs13hK114m (fun hHeld => ?_)
    case hs13hK114m => exact fbc_cells hqB
    clear hK K bb0 bb1 bb2 bb3 bb4 bbf bbl
    (try simp only [Act.put, pk0, pk1, pk2])
    refine zt [14] ?_
    refine zt1 hP (by simp only [lk0, lk1, lk2]; rfl) (by kernel_rfl) (by assumption) (by rfl) (fun wS hSw => by (try dsimp only at hSw); go_simp; (try with_reducible rfl)) ?_; (try simp only [Act.put, pk0, pk1, pk2])
    refine zt0 ?_
    refine wpAnyH_done (by kernel_rfl) ?_ _
    have HGF := Lib.hid (show (fun z0 : World => CS z0 gA (.int .i64 Kt) (.int .i64 It) (.float .f64 Ft) (.string Zt) (.slice qt mt dt) ∧ CS z0 gB (.int .i64 Kv) (.int .i64 Iv) (.float .f64 Fv) (.string Zv) (.slice qv mv dv) ∧ FBC w sb qs ms ds vb (.int .i64 Kz) (.int .i64 Iz) (.float .f64 Fz) (.string ⟨#[]⟩) (.slice none 0 0) z0 ∧ Below wr.heap.size wr z0 ∧ RepK (fun b => b = gA ∨ b = gB) z0 3 (.agg #[.int .i64 Kt, .int .i64 It, .float .f64 Ft, .string Zt, .slice qt mt dt]) (TT) ∧ RepK (fun b => b = gA ∨ b = gB) z0 1 (.agg #[.int .i64 Kv, .int .i64 Iv, .float .f64 Fv, .string Zv, .slice qv mv dv]) (UU) ∧ wr.heap.size ≤ gA ∧ wr.heap.size ≤ gB) ((((((((((w'.setCell ⟨gA, 0, none⟩ (.int .i64 Kt)).setCell ⟨gA, 1, none⟩ (.int .i64 It)).setCell ⟨gA, 2, none⟩ (.float .f64 Ft)).setCell ⟨gA, 3, none⟩ (.string Zt)).setCell ⟨gA, 4, none⟩ (.slice qt mt dt)).setCell ⟨gB, 0, none⟩ (.int .i64 Kv)).setCell ⟨gB, 1, none⟩ (.int .i64 Iv)).setCell ⟨gB, 2, none⟩ (.float .f64 Fv)).setCell ⟨gB, 3, none⟩ (.string Zv)).setCell ⟨gB, 4, none⟩ (.slice qv mv dv)) from ⟨cs_other (cs_set5 hsA.1) hne, cs_set5 (cs_other hsB.1 hne.symm), hqB, bel_set5 (bel_set5 hbd hgA) hgB, repK_set (repK_set ht (Or.inl rfl)) (Or.inr rfl), repK_set (repK_set hv (Or.inl rfl)) (Or.inr rfl), hgA, hgB⟩)
    clear hq hqA hqB hbd hsA hsB hcA hcB ht hv hHeld
    revert HGF
    generalize ((((((((((w'.setCell ⟨gA, 0, none⟩ (.int .i64 Kt)).setCell ⟨gA, 1, none⟩ (.int .i64 It)).setCell ⟨gA, 2, none⟩ (.float .f64 Ft)).setCell ⟨gA, 3, none⟩ (.string Zt)).setCell ⟨gA, 4, none⟩ (.slice qt mt dt)).setCell ⟨gB, 0, none⟩ (.int .i64 Kv)).setCell ⟨gB, 1, none⟩ (.int .i64 Iv)).setCell ⟨gB, 2, none⟩ (.float .f64 Fv)).setCell ⟨gB, 3, none⟩ (.string Zv)).setCell ⟨gB, 4, none⟩ (.slice qv mv dv)) = Wg
    intro HGF
    exact hQ gA gB gE Kt It Ft Zt qt mt dt Kv Iv Fv Zv qv mv dv Wg HGF.out
  refine any_have 4 [10, 1, 2, 4, 5, 6, 7, 8, 9] (fun a a' w' => ∃ (gA gE : Nat), ∃ (Kt It : Int) (Ft : Nat) (Zt : ByteArray) (qt : Option Addr) (mt dt : Nat) (Kv Iv : Int) (Fv : Nat) (Zv : ByteArray) (qv : Option Addr) (mv dv : Nat), a' = (((((((((a.put (some 13) (.pointer (some ⟨gA, 0, none⟩))).put (some 66) (.agg #[.int .i64 3, .int .i64 0, .float .f64 0, .string ⟨#[97]⟩, .slice none 0 0])).put (some 67) (.agg #[.int .i64 3, .int .i64 0, .float .f64 0, .string ⟨#[98]⟩, .slice none 0 0])).put (some 69) (.slice (some ⟨gE, 0, none⟩) 3 3)).put (some 70) (.tuple #[.agg #[.int .i64 Kt, .int .i64 It, .float .f64 Ft, .string Zt, .slice qt mt dt], .agg #[.int .i64 Kv, .int .i64 Iv, .float .f64 Fv, .string Zv, .slice qv mv dv], .int .i64 z])).put (some 64) (.tuple #[.agg #[.int .i64 Kt, .int .i64 It, .float .f64 Ft, .string Zt, .slice qt mt dt], .agg #[.int .i64 Kv, .int .i64 Iv, .float .f64 Fv, .string Zv, .slice qv mv dv], .int .i64 z])).put (some 71) (.agg #[.int .i64 Kt, .int .i64 It, .float .f64 Ft, .string Zt, .slice qt mt dt])).put (some 72) (.agg #[.int .i64 Kv, .int .i64 Iv, .float .f64 Fv, .string Zv, .slice qv mv dv])).put (some 73) (.int .i64 z)) ∧ FBC w sb qs ms ds vb (.int .i64 Kz) (.int .i64 Iz) (.float .f64 Fz) (.string ⟨#[]⟩) (.slice none 0 0) w' ∧ Below wr.heap.size wr w' ∧ SBX w' gA (.int .i64 0) (.int .i64 0) (.float .f64 0) (.string ⟨#[]⟩) (.slice none 0 0) ∧ wr.heap.size ≤ gA ∧ RepK (fun b => b = gA) w' 3 (.agg #[.int .i64 Kt, .int .i64 It, .float .f64 Ft, .string Zt, .slice qt mt dt]) (TT) ∧ RepK (fun b => b = gA) w' 1 (.agg #[.int .i64 Kv, .int .i64 Iv, .float .f64 Fv, .string Zv, .slice qv mv dv]) (UU)) ?phK104m (fun hK104 => ?_)
  case phK104m =>
    intro a' w' hst hHeld
    obtain ⟨gA, gE, Kt, It, Ft, Zt, qt, mt, dt, Kv, Iv, Fv, Zv, qv, mv, dv, rfl, hq, hbd, hsA, hgA, ht, hv⟩ := hst
    (try simp only [Act.put, pk0, pk1, pk2])
    refine wpAnyH_ready (rs := [11]) (by kernel_rfl) (by simp) ?_
    refine AllReadyH.cons (o := ?_) ?hoBhK104m ?hstBhK104m AllReadyH.nil
    case hoBhK104m => (simp only [lk0, lk1, lk2]; rfl)
    case hstBhK104m =>
      intro K hK
      go_simp
      refine hK.out _ _ ?hsBhK104m (fun hHeld => ?_)
      case hsBhK104m => exact fbc_cells (fbc_step hq bz)
      clear hK K
      (try simp only [Act.put, pk0, pk1, pk2])
      exact any_eq (by kernel_rfl) (by kernel_rfl) (hK114 _ _ ⟨gA, _, gE, Kt, It, Ft, Zt, qt, mt, dt, Kv, Iv, Fv, Zv, qv, mv, dv, rfl, (fbc_step hq bz), (bel_step hbd bz), (sbx_step hsA bz), hgA, ⟨cs_new rfl, fun o => row_frz (row_alloc _ _ _) o⟩, hbd.size, (by have h := cs_lt hsA.1; omega), (repK_step bz (repK_to ht (fun b hlt hb => by (try dsimp only at hb ⊢); omega))), (repK_step bz (repK_to hv (fun b hlt hb => by (try dsimp only at hb ⊢); omega)))⟩ hHeld)
  refine any_have 4 [11, 1, 2, 4, 5, 6, 7, 8, 9] (fun a a' w' => ∃ (gB gE : Nat), ∃ (Kt It : Int) (Ft : Nat) (Zt : ByteArray) (qt : Option Addr) (mt dt : Nat) (Kv Iv : Int) (Fv : Nat) (Zv : ByteArray) (qv : Option Addr) (mv dv : Nat), a' = (((((((((a.put (some 14) (.pointer (some ⟨gB, 0, none⟩))).put (some 66) (.agg #[.int .i64 3, .int .i64 0, .float .f64 0, .string ⟨#[97]⟩, .slice none 0 0])).put (some 67) (.agg #[.int .i64 3, .int .i64 0, .float .f64 0, .string ⟨#[98]⟩, .slice none 0 0])).put (some 69) (.slice (some ⟨gE, 0, none⟩) 3 3)).put (some 70) (.tuple #[.agg #[.int .i64 Kt, .int .i64 It, .float .f64 Ft, .string Zt, .slice qt mt dt], .agg #[.int .i64 Kv, .int .i64 Iv, .float .f64 Fv, .string Zv, .slice qv mv dv], .int .i64 z])).put (some 64) (.tuple #[.agg #[.int .i64 Kt, .int .i64 It, .float .f64 Ft, .string Zt, .slice qt mt dt], .agg #[.int .i64 Kv, .int .i64 Iv, .float .f64 Fv, .string Zv, .slice qv mv dv], .int .i64 z])).put (some 71) (.agg #[.int .i64 Kt, .int .i64 It, .float .f64 Ft, .string Zt, .slice qt mt dt])).put (some 72) (.agg #[.int .i64 Kv, .int .i64 Iv, .float .f64 Fv, .string Zv, .slice qv mv dv])).put (some 73) (.int .i64 z)) ∧ FBC w sb qs ms ds vb (.int .i64 Kz) (.int .i64 Iz) (.float .f64 Fz) (.string ⟨#[]⟩) (.slice none 0 0) w' ∧ Below wr.heap.size wr w' ∧ SBX w' gB (.int .i64 0) (.int .i64 0) (.float .f64 0) (.string ⟨#[]⟩) (.slice none 0 0) ∧ wr.heap.size ≤ gB ∧ RepK (fun b => b = gB) w' 3 (.agg #[.int .i64 Kt, .int .i64 It, .float .f64 Ft, .string Zt, .slice qt mt dt]) (TT) ∧ RepK (fun b => b = gB) w' 1 (.agg #[.int .i64 Kv, .int .i64 Iv, .float .f64 Fv, .string Zv, .slice qv mv dv]) (UU)) ?phK014m (fun hK014 => ?_)
  case phK014m =>
    intro a' w' hst hHeld
    obtain ⟨gB, gE, Kt, It, Ft, Zt, qt, mt, dt, Kv, Iv, Fv, Zv, qv, mv, dv, rfl, hq, hbd, hsB, hgB, ht, hv⟩ := hst
    (try simp only [Act.put, pk0, pk1, pk2])
    refine wpAnyH_ready (rs := [10]) (by kernel_rfl) (by simp) ?_
    refine AllReadyH.cons (o := ?_) ?hoAhK014m ?hstAhK014m AllReadyH.nil
    case hoAhK014m => (simp only [lk0, lk1, lk2]; rfl)
    case hstAhK014m =>
      intro K hK
      go_simp
      refine hK.out _ _ ?hsAhK014m (fun hHeld => ?_)
      case hsAhK014m => exact fbc_cells (fbc_step hq bz)
      clear hK K
      (try simp only [Act.put, pk0, pk1, pk2])
      exact any_eq (by kernel_rfl) (by kernel_rfl) (hK114 _ _ ⟨_, gB, gE, Kt, It, Ft, Zt, qt, mt, dt, Kv, Iv, Fv, Zv, qv, mv, dv, rfl, (fbc_step hq bz), (bel_step hbd bz), ⟨cs_new rfl, fun o => row_frz (row_alloc _ _ _) o⟩, hbd.size, (sbx_step hsB bz), hgB, (by have h := cs_lt hsB.1; omega), (repK_step bz (repK_to ht (fun b hlt hb => by (try dsimp only at hb ⊢); omega))), (repK_step bz (repK_to hv (fun b hlt hb => by (try dsimp only at hb ⊢); omega)))⟩ hHeld)
  refine any_have 5 [1, 2, 4, 5, 6, 7, 8, 9] (fun a a' w' => ∃ (gE : Nat), ∃ (Kt It : Int) (Ft : Nat) (Zt : ByteArray) (qt : Option Addr) (mt dt : Nat) (Kv Iv : Int) (Fv : Nat) (Zv : ByteArray) (qv : Option Addr) (mv dv : Nat), a' = ((((((((a.put (some 66) (.agg #[.int .i64 3, .int .i64 0, .float .f64 0, .string ⟨#[97]⟩, .slice none 0 0])).put (some 67) (.agg #[.int .i64 3, .int .i64 0, .float .f64 0, .string ⟨#[98]⟩, .slice none 0 0])).put (some 69) (.slice (some ⟨gE, 0, none⟩) 3 3)).put (some 70) (.tuple #[.agg #[.int .i64 Kt, .int .i64 It, .float .f64 Ft, .string Zt, .slice qt mt dt], .agg #[.int .i64 Kv, .int .i64 Iv, .float .f64 Fv, .string Zv, .slice qv mv dv], .int .i64 z])).put (some 64) (.tuple #[.agg #[.int .i64 Kt, .int .i64 It, .float .f64 Ft, .string Zt, .slice qt mt dt], .agg #[.int .i64 Kv, .int .i64 Iv, .float .f64 Fv, .string Zv, .slice qv mv dv], .int .i64 z])).put (some 71) (.agg #[.int .i64 Kt, .int .i64 It, .float .f64 Ft, .string Zt, .slice qt mt dt])).put (some 72) (.agg #[.int .i64 Kv, .int .i64 Iv, .float .f64 Fv, .string Zv, .slice qv mv dv])).put (some 73) (.int .i64 z)) ∧ FBC w sb qs ms ds vb (.int .i64 Kz) (.int .i64 Iz) (.float .f64 Fz) (.string ⟨#[]⟩) (.slice none 0 0) w' ∧ Below wr.heap.size wr w' ∧ RepK (fun b => False) w' 3 (.agg #[.int .i64 Kt, .int .i64 It, .float .f64 Ft, .string Zt, .slice qt mt dt]) (TT) ∧ RepK (fun b => False) w' 1 (.agg #[.int .i64 Kv, .int .i64 Iv, .float .f64 Fv, .string Zv, .slice qv mv dv]) (UU)) ?phK004m (fun hK004 => ?_)
  case phK004m =>
    intro a' w' hst hHeld
    obtain ⟨gE, Kt, It, Ft, Zt, qt, mt, dt, Kv, Iv, Fv, Zv, qv, mv, dv, rfl, hq, hbd, ht, hv⟩ := hst
    (try simp only [Act.put, pk0, pk1, pk2])
    refine wpAnyH_ready (rs := [10, 11]) (by kernel_rfl) (by simp) ?_
    refine AllReadyH.cons (o := ?_) ?hoAhK004m ?hstAhK004m (AllReadyH.cons (o := ?_) ?hoBhK004m ?hstBhK004m AllReadyH.nil)
    case hoAhK004m => (simp only [lk0, lk1, lk2]; rfl)
    case hoBhK004m => (simp only [lk0, lk1, lk2]; rfl)
    case hstAhK004m =>
      intro K hK
      go_simp
      refine hK.out _ _ ?hsAhK004m (fun hHeld => ?_)
      case hsAhK004m => exact fbc_cells (fbc_step hq bz)
      clear hK K
      (try simp only [Act.put, pk0, pk1, pk2])
      exact any_eq (by kernel_rfl) (by kernel_rfl) (hK104 _ _ ⟨_, gE, Kt, It, Ft, Zt, qt, mt, dt, Kv, Iv, Fv, Zv, qv, mv, dv, rfl, (fbc_step hq bz), (bel_step hbd bz), ⟨cs_new rfl, fun o => row_frz (row_alloc _ _ _) o⟩, hbd.size, (repK_step bz (repK_to ht (fun b hlt hb => by (try dsimp only at hb ⊢); omega))), (repK_step bz (repK_to hv (fun b hlt hb => by (try dsimp only at hb ⊢); omega)))⟩ hHeld)
    case hstBhK004m =>
      intro K hK
      go_simp
      refine hK.out _ _ ?hsBhK004m (fun hHeld => ?_)
      case hsBhK004m => exact fbc_cells (fbc_step hq bz)
      clear hK K
      (try simp only [Act.put, pk0, pk1, pk2])
      exact any_eq (by kernel_rfl) (by kernel_rfl) (hK014 _ _ ⟨_, gE, Kt, It, Ft, Zt, qt, mt, dt, Kv, Iv, Fv, Zv, qv, mv, dv, rfl, (fbc_step hq bz), (bel_step hbd bz), ⟨cs_new rfl, fun o => row_frz (row_alloc _ _ _) o⟩, hbd.size, (repK_step bz (repK_to ht (fun b hlt hb => by (try dsimp only at hb ⊢); omega))), (repK_step bz (repK_to hv (fun b hlt hb => by (try dsimp only at hb ⊢); omega)))⟩ hHeld)
  refine any_have 8 [10, 11, 1, 2, 4] (fun a a' w' => ∃ (gA gB gE : Nat), a' = (((((a.put (some 13) (.pointer (some ⟨gA, 0, none⟩))).put (some 14) (.pointer (some ⟨gB, 0, none⟩))).put (some 66) (.agg #[.int .i64 3, .int .i64 0, .float .f64 0, .string ⟨#[97]⟩, .slice none 0 0])).put (some 67) (.agg #[.int .i64 3, .int .i64 0, .float .f64 0, .string ⟨#[98]⟩, .slice none 0 0])).put (some 69) (.slice (some ⟨gE, 0, none⟩) 3 3)) ∧ FBC w sb qs ms ds vb (.int .i64 Kz) (.int .i64 Iz) (.float .f64 Fz) (.string ⟨#[]⟩) (.slice none 0 0) w' ∧ Below wr.heap.size wr w' ∧ SBX w' gA (.int .i64 0) (.int .i64 0) (.float .f64 0) (.string ⟨#[]⟩) (.slice none 0 0) ∧ wr.heap.size ≤ gA ∧ SBX w' gB (.int .i64 0) (.int .i64 0) (.float .f64 0) (.string ⟨#[]⟩) (.slice none 0 0) ∧ wr.heap.size ≤ gB ∧ gA ≠ gB ∧ LA gE [nameV 0 ⟨#[97]⟩, nameV 0 ⟨#[98]⟩, (Kz, Iz, Fz, ⟨#[]⟩, [])] w') ?phK113m (fun hK113 => ?_)
  case phK113m =>
    intro a' w' hst hHeld
    obtain ⟨gA, gB, gE, rfl, hq, hbd, hsA, hgA, hsB, hgB, hne, hlv⟩ := hst
    (try simp only [Act.put, pk0, pk1, pk2])
    refine wpAnyH_ready (rs := [5]) (by kernel_rfl) (by simp) ?_
    refine AllReadyH.cons (o := ?_) ?hoXhK113m ?hstXhK113m AllReadyH.nil
    case hoXhK113m => (simp only [lk0, lk1, lk2]; rfl)
    case hstXhK113m =>
      intro K hK
      go_simp
      have hrp := rep_keep hbd _ _ _ HSTr.out; go_at_call 13; refine (HDO.out _ _ hrp hlv).mono ?_; rintro e wD ⟨tt, vv, rfl, hbT, hkk⟩; obtain ⟨Kt, It, Ft, Zt, qt, mt, dt, rfl, _⟩ := rep_shape (hkk wD (stay_refl _ _)).1; obtain ⟨Kv, Iv, Fv, Zv, qv, mv, dv, rfl, _⟩ := rep_shape (hkk wD (stay_refl _ _)).2
      go_wp2_with fail
      refine hK.out _ _ ?hsXhK113m (fun hHeld => ?_)
      case hsXhK113m => exact fbc_cells (fbc_step hq hbT)
      clear hK K
      (try simp only [Act.put, pk0, pk1, pk2])
      refine zt [6, 7, 8, 9] ?_
      iterate 4 (refine zt1 hP (by simp only [lk0, lk1, lk2]; rfl) (by kernel_rfl) (by assumption) (by rfl) (fun wS hSw => by (try dsimp only at hSw); go_simp; (try with_reducible rfl)) ?_; (try simp only [Act.put, pk0, pk1, pk2]))
      refine zt0 ?_
      exact any_eq (by kernel_rfl) (by kernel_rfl) (hK114 _ _ ⟨gA, gB, gE, Kt, It, Ft, Zt, qt, mt, dt, Kv, Iv, Fv, Zv, qv, mv, dv, rfl, (fbc_step hq hbT), (bel_step hbd hbT), (sbx_step hsA hbT), hgA, (sbx_step hsB hbT), hgB, hne, (repK_of (fun y hy => (hkk y hy).1) (fun b hb => by (try dsimp only at hb) <;> (have hA9 := cs_lt hsA.1; have hB9 := cs_lt hsB.1; omega))), (repK_of (fun y hy => (hkk y hy).2) (fun b hb => by (try dsimp only at hb) <;> (have hA9 := cs_lt hsA.1; have hB9 := cs_lt hsB.1; omega)))⟩ hHeld)
  refine any_have 9 [10, 1, 2, 4] (fun a a' w' => ∃ (gA gE : Nat), a' = ((((a.put (some 13) (.pointer (some ⟨gA, 0, none⟩))).put (some 66) (.agg #[.int .i64 3, .int .i64 0, .float .f64 0, .string ⟨#[97]⟩, .slice none 0 0])).put (some 67) (.agg #[.int .i64 3, .int .i64 0, .float .f64 0, .string ⟨#[98]⟩, .slice none 0 0])).put (some 69) (.slice (some ⟨gE, 0, none⟩) 3 3)) ∧ FBC w sb qs ms ds vb (.int .i64 Kz) (.int .i64 Iz) (.float .f64 Fz) (.string ⟨#[]⟩) (.slice none 0 0) w' ∧ Below wr.heap.size wr w' ∧ SBX w' gA (.int .i64 0) (.int .i64 0) (.float .f64 0) (.string ⟨#[]⟩) (.slice none 0 0) ∧ wr.heap.size ≤ gA ∧ LA gE [nameV 0 ⟨#[97]⟩, nameV 0 ⟨#[98]⟩, (Kz, Iz, Fz, ⟨#[]⟩, [])] w') ?phK103m (fun hK103 => ?_)
  case phK103m =>
    intro a' w' hst hHeld
    obtain ⟨gA, gE, rfl, hq, hbd, hsA, hgA, hlv⟩ := hst
    (try simp only [Act.put, pk0, pk1, pk2])
    refine wpAnyH_ready (rs := [5, 11]) (by kernel_rfl) (by simp) ?_
    refine AllReadyH.cons (o := ?_) ?hoXhK103m ?hstXhK103m (AllReadyH.cons (o := ?_) ?hoBhK103m ?hstBhK103m AllReadyH.nil)
    case hoXhK103m => (simp only [lk0, lk1, lk2]; rfl)
    case hoBhK103m => (simp only [lk0, lk1, lk2]; rfl)
    case hstXhK103m =>
      intro K hK
      go_simp
      have hrp := rep_keep hbd _ _ _ HSTr.out; go_at_call 13; refine (HDO.out _ _ hrp hlv).mono ?_; rintro e wD ⟨tt, vv, rfl, hbT, hkk⟩; obtain ⟨Kt, It, Ft, Zt, qt, mt, dt, rfl, _⟩ := rep_shape (hkk wD (stay_refl _ _)).1; obtain ⟨Kv, Iv, Fv, Zv, qv, mv, dv, rfl, _⟩ := rep_shape (hkk wD (stay_refl _ _)).2
      go_wp2_with fail
      refine hK.out _ _ ?hsXhK103m (fun hHeld => ?_)
      case hsXhK103m => exact fbc_cells (fbc_step hq hbT)
      clear hK K
      (try simp only [Act.put, pk0, pk1, pk2])
      refine zt [6, 7, 8, 9] ?_
      iterate 4 (refine zt1 hP (by simp only [lk0, lk1, lk2]; rfl) (by kernel_rfl) (by assumption) (by rfl) (fun wS hSw => by (try dsimp only at hSw); go_simp; (try with_reducible rfl)) ?_; (try simp only [Act.put, pk0, pk1, pk2]))
      refine zt0 ?_
      exact any_eq (by kernel_rfl) (by kernel_rfl) (hK104 _ _ ⟨gA, gE, Kt, It, Ft, Zt, qt, mt, dt, Kv, Iv, Fv, Zv, qv, mv, dv, rfl, (fbc_step hq hbT), (bel_step hbd hbT), (sbx_step hsA hbT), hgA, (repK_of (fun y hy => (hkk y hy).1) (fun b hb => by (try dsimp only at hb) <;> (have hA9 := cs_lt hsA.1; omega))), (repK_of (fun y hy => (hkk y hy).2) (fun b hb => by (try dsimp only at hb) <;> (have hA9 := cs_lt hsA.1; omega)))⟩ hHeld)
    case hstBhK103m =>
      intro K hK
      go_simp
      refine hK.out _ _ ?hsBhK103m (fun hHeld => ?_)
      case hsBhK103m => exact fbc_cells (fbc_step hq bz)
      clear hK K
      (try simp only [Act.put, pk0, pk1, pk2])
      exact any_eq (by kernel_rfl) (by kernel_rfl) (hK113 _ _ ⟨gA, _, gE, rfl, (fbc_step hq bz), (bel_step hbd bz), (sbx_step hsA bz), hgA, ⟨cs_new rfl, fun o => row_frz (row_alloc _ _ _) o⟩, hbd.size, (by have h := cs_lt hsA.1; omega), (la_step hlv bz)⟩ hHeld)
  refine any_have 9 [11, 1, 2, 4] (fun a a' w' => ∃ (gB gE : Nat), a' = ((((a.put (some 14) (.pointer (some ⟨gB, 0, none⟩))).put (some 66) (.agg #[.int .i64 3, .int .i64 0, .float .f64 0, .string ⟨#[97]⟩, .slice none 0 0])).put (some 67) (.agg #[.int .i64 3, .int .i64 0, .float .f64 0, .string ⟨#[98]⟩, .slice none 0 0])).put (some 69) (.slice (some ⟨gE, 0, none⟩) 3 3)) ∧ FBC w sb qs ms ds vb (.int .i64 Kz) (.int .i64 Iz) (.float .f64 Fz) (.string ⟨#[]⟩) (.slice none 0 0) w' ∧ Below wr.heap.size wr w' ∧ SBX w' gB (.int .i64 0) (.int .i64 0) (.float .f64 0) (.string ⟨#[]⟩) (.slice none 0 0) ∧ wr.heap.size ≤ gB ∧ LA gE [nameV 0 ⟨#[97]⟩, nameV 0 ⟨#[98]⟩, (Kz, Iz, Fz, ⟨#[]⟩, [])] w') ?phK013m (fun hK013 => ?_)
  case phK013m =>
    intro a' w' hst hHeld
    obtain ⟨gB, gE, rfl, hq, hbd, hsB, hgB, hlv⟩ := hst
    (try simp only [Act.put, pk0, pk1, pk2])
    refine wpAnyH_ready (rs := [5, 10]) (by kernel_rfl) (by simp) ?_
    refine AllReadyH.cons (o := ?_) ?hoXhK013m ?hstXhK013m (AllReadyH.cons (o := ?_) ?hoAhK013m ?hstAhK013m AllReadyH.nil)
    case hoXhK013m => (simp only [lk0, lk1, lk2]; rfl)
    case hoAhK013m => (simp only [lk0, lk1, lk2]; rfl)
    case hstXhK013m =>
      intro K hK
      go_simp
      have hrp := rep_keep hbd _ _ _ HSTr.out; go_at_call 13; refine (HDO.out _ _ hrp hlv).mono ?_; rintro e wD ⟨tt, vv, rfl, hbT, hkk⟩; obtain ⟨Kt, It, Ft, Zt, qt, mt, dt, rfl, _⟩ := rep_shape (hkk wD (stay_refl _ _)).1; obtain ⟨Kv, Iv, Fv, Zv, qv, mv, dv, rfl, _⟩ := rep_shape (hkk wD (stay_refl _ _)).2
      go_wp2_with fail
      refine hK.out _ _ ?hsXhK013m (fun hHeld => ?_)
      case hsXhK013m => exact fbc_cells (fbc_step hq hbT)
      clear hK K
      (try simp only [Act.put, pk0, pk1, pk2])
      refine zt [6, 7, 8, 9] ?_
      iterate 4 (refine zt1 hP (by simp only [lk0, lk1, lk2]; rfl) (by kernel_rfl) (by assumption) (by rfl) (fun wS hSw => by (try dsimp only at hSw); go_simp; (try with_reducible rfl)) ?_; (try simp only [Act.put, pk0, pk1, pk2]))
      refine zt0 ?_
      exact any_eq (by kernel_rfl) (by kernel_rfl) (hK014 _ _ ⟨gB, gE, Kt, It, Ft, Zt, qt, mt, dt, Kv, Iv, Fv, Zv, qv, mv, dv, rfl, (fbc_step hq hbT), (bel_step hbd hbT), (sbx_step hsB hbT), hgB, (repK_of (fun y hy => (hkk y hy).1) (fun b hb => by (try dsimp only at hb) <;> (have hB9 := cs_lt hsB.1; omega))), (repK_of (fun y hy => (hkk y hy).2) (fun b hb => by (try dsimp only at hb) <;> (have hB9 := cs_lt hsB.1; omega)))⟩ hHeld)
    case hstAhK013m =>
      intro K hK
      go_simp
      refine hK.out _ _ ?hsAhK013m (fun hHeld => ?_)
      case hsAhK013m => exact fbc_cells (fbc_step hq bz)
      clear hK K
      (try simp only [Act.put, pk0, pk1, pk2])
      exact any_eq (by kernel_rfl) (by kernel_rfl) (hK113 _ _ ⟨_, gB, gE, rfl, (fbc_step hq bz), (bel_step hbd bz), ⟨cs_new rfl, fun o => row_frz (row_alloc _ _ _) o⟩, hbd.size, (sbx_step hsB bz), hgB, (by have h := cs_lt hsB.1; omega), (la_step hlv bz)⟩ hHeld)
  refine any_have 10 [1, 2, 4] (fun a a' w' => ∃ (gE : Nat), a' = (((a.put (some 66) (.agg #[.int .i64 3, .int .i64 0, .float .f64 0, .string ⟨#[97]⟩, .slice none 0 0])).put (some 67) (.agg #[.int .i64 3, .int .i64 0, .float .f64 0, .string ⟨#[98]⟩, .slice none 0 0])).put (some 69) (.slice (some ⟨gE, 0, none⟩) 3 3)) ∧ FBC w sb qs ms ds vb (.int .i64 Kz) (.int .i64 Iz) (.float .f64 Fz) (.string ⟨#[]⟩) (.slice none 0 0) w' ∧ Below wr.heap.size wr w' ∧ LA gE [nameV 0 ⟨#[97]⟩, nameV 0 ⟨#[98]⟩, (Kz, Iz, Fz, ⟨#[]⟩, [])] w') ?phK003m (fun hK003 => ?_)
  case phK003m =>
    intro a' w' hst hHeld
    obtain ⟨gE, rfl, hq, hbd, hlv⟩ := hst
    (try simp only [Act.put, pk0, pk1, pk2])
    refine wpAnyH_ready (rs := [5, 10, 11]) (by kernel_rfl) (by simp) ?_
    refine AllReadyH.cons (o := ?_) ?hoXhK003m ?hstXhK003m (AllReadyH.cons (o := ?_) ?hoAhK003m ?hstAhK003m (AllReadyH.cons (o := ?_) ?hoBhK003m ?hstBhK003m AllReadyH.nil))
    case hoXhK003m => (simp only [lk0, lk1, lk2]; rfl)
    case hoAhK003m => (simp only [lk0, lk1, lk2]; rfl)
    case hoBhK003m => (simp only [lk0, lk1, lk2]; rfl)
    case hstXhK003m =>
      intro K hK
      go_simp
      have hrp := rep_keep hbd _ _ _ HSTr.out; go_at_call 13; refine (HDO.out _ _ hrp hlv).mono ?_; rintro e wD ⟨tt, vv, rfl, hbT, hkk⟩; obtain ⟨Kt, It, Ft, Zt, qt, mt, dt, rfl, _⟩ := rep_shape (hkk wD (stay_refl _ _)).1; obtain ⟨Kv, Iv, Fv, Zv, qv, mv, dv, rfl, _⟩ := rep_shape (hkk wD (stay_refl _ _)).2
      go_wp2_with fail
      refine hK.out _ _ ?hsXhK003m (fun hHeld => ?_)
      case hsXhK003m => exact fbc_cells (fbc_step hq hbT)
      clear hK K
      (try simp only [Act.put, pk0, pk1, pk2])
      refine zt [6, 7, 8, 9] ?_
      iterate 4 (refine zt1 hP (by simp only [lk0, lk1, lk2]; rfl) (by kernel_rfl) (by assumption) (by rfl) (fun wS hSw => by (try dsimp only at hSw); go_simp; (try with_reducible rfl)) ?_; (try simp only [Act.put, pk0, pk1, pk2]))
      refine zt0 ?_
      exact any_eq (by kernel_rfl) (by kernel_rfl) (hK004 _ _ ⟨gE, Kt, It, Ft, Zt, qt, mt, dt, Kv, Iv, Fv, Zv, qv, mv, dv, rfl, (fbc_step hq hbT), (bel_step hbd hbT), (repK_of (fun y hy => (hkk y hy).1) (fun b hb => by (try dsimp only at hb) <;> (omega))), (repK_of (fun y hy => (hkk y hy).2) (fun b hb => by (try dsimp only at hb) <;> (omega)))⟩ hHeld)
    case hstAhK003m =>
      intro K hK
      go_simp
      refine hK.out _ _ ?hsAhK003m (fun hHeld => ?_)
      case hsAhK003m => exact fbc_cells (fbc_step hq bz)
      clear hK K
      (try simp only [Act.put, pk0, pk1, pk2])
      exact any_eq (by kernel_rfl) (by kernel_rfl) (hK103 _ _ ⟨_, gE, rfl, (fbc_step hq bz), (bel_step hbd bz), ⟨cs_new rfl, fun o => row_frz (row_alloc _ _ _) o⟩, hbd.size, (la_step hlv bz)⟩ hHeld)
    case hstBhK003m =>
      intro K hK
      go_simp
      refine hK.out _ _ ?hsBhK003m (fun hHeld => ?_)
      case hsBhK003m => exact fbc_cells (fbc_step hq bz)
      clear hK K
      (try simp only [Act.put, pk0, pk1, pk2])
      exact any_eq (by kernel_rfl) (by kernel_rfl) (hK013 _ _ ⟨_, gE, rfl, (fbc_step hq bz), (bel_step hbd bz), ⟨cs_new rfl, fun o => row_frz (row_alloc _ _ _) o⟩, hbd.size, (la_step hlv bz)⟩ hHeld)
  refine any_have 9 [10, 11, 1, 2] (fun a a' w' => ∃ (gA gB : Nat), a' = ((((a.put (some 13) (.pointer (some ⟨gA, 0, none⟩))).put (some 14) (.pointer (some ⟨gB, 0, none⟩))).put (some 66) (.agg #[.int .i64 3, .int .i64 0, .float .f64 0, .string ⟨#[97]⟩, .slice none 0 0])).put (some 67) (.agg #[.int .i64 3, .int .i64 0, .float .f64 0, .string ⟨#[98]⟩, .slice none 0 0])) ∧ FBC w sb qs ms ds vb (.int .i64 Kz) (.int .i64 Iz) (.float .f64 Fz) (.string ⟨#[]⟩) (.slice none 0 0) w' ∧ Below wr.heap.size wr w' ∧ SBX w' gA (.int .i64 0) (.int .i64 0) (.float .f64 0) (.string ⟨#[]⟩) (.slice none 0 0) ∧ wr.heap.size ≤ gA ∧ SBX w' gB (.int .i64 0) (.int .i64 0) (.float .f64 0) (.string ⟨#[]⟩) (.slice none 0 0) ∧ wr.heap.size ≤ gB ∧ gA ≠ gB) ?phK112m (fun hK112 => ?_)
  case phK112m =>
    intro a' w' hst hHeld
    obtain ⟨gA, gB, rfl, hq, hbd, hsA, hgA, hsB, hgB, hne⟩ := hst
    (try simp only [Act.put, pk0, pk1, pk2])
    refine wpAnyH_ready (rs := [4]) (by kernel_rfl) (by simp) ?_
    refine AllReadyH.cons (o := ?_) ?hoXhK112m ?hstXhK112m AllReadyH.nil
    case hoXhK112m => (simp only [lk0, lk1, lk2]; rfl)
    case hstXhK112m =>
      intro K hK
      go_simp
      refine hK.out _ _ ?hsXhK112m (fun hHeld => ?_)
      case hsXhK112m => exact fbc_cells (fbc_step hq (bel_alloc (Below.refl _ _) (.cells #[.int .i64 3, .int .i64 0, .float .f64 0, .string ⟨#[97]⟩, .slice none 0 0, .int .i64 3, .int .i64 0, .float .f64 0, .string ⟨#[98]⟩, .slice none 0 0, .int .i64 Kz, .int .i64 Iz, .float .f64 Fz, .string ⟨#[]⟩, .slice none 0 0] 27)))
      clear hK K
      (try simp only [Act.put, pk0, pk1, pk2])
      exact any_eq (by kernel_rfl) (by kernel_rfl) (hK113 _ _ ⟨gA, gB, _, rfl, (fbc_step hq (bel_alloc (Below.refl _ _) (.cells #[.int .i64 3, .int .i64 0, .float .f64 0, .string ⟨#[97]⟩, .slice none 0 0, .int .i64 3, .int .i64 0, .float .f64 0, .string ⟨#[98]⟩, .slice none 0 0, .int .i64 Kz, .int .i64 Iz, .float .f64 Fz, .string ⟨#[]⟩, .slice none 0 0] 27))), (bel_step hbd (bel_alloc (Below.refl _ _) (.cells #[.int .i64 3, .int .i64 0, .float .f64 0, .string ⟨#[97]⟩, .slice none 0 0, .int .i64 3, .int .i64 0, .float .f64 0, .string ⟨#[98]⟩, .slice none 0 0, .int .i64 Kz, .int .i64 Iz, .float .f64 Fz, .string ⟨#[]⟩, .slice none 0 0] 27))), (sbx_step hsA (bel_alloc (Below.refl _ _) (.cells #[.int .i64 3, .int .i64 0, .float .f64 0, .string ⟨#[97]⟩, .slice none 0 0, .int .i64 3, .int .i64 0, .float .f64 0, .string ⟨#[98]⟩, .slice none 0 0, .int .i64 Kz, .int .i64 Iz, .float .f64 Fz, .string ⟨#[]⟩, .slice none 0 0] 27))), hgA, (sbx_step hsB (bel_alloc (Below.refl _ _) (.cells #[.int .i64 3, .int .i64 0, .float .f64 0, .string ⟨#[97]⟩, .slice none 0 0, .int .i64 3, .int .i64 0, .float .f64 0, .string ⟨#[98]⟩, .slice none 0 0, .int .i64 Kz, .int .i64 Iz, .float .f64 Fz, .string ⟨#[]⟩, .slice none 0 0] 27))), hgB, hne, (la3_new rfl (by decide) (by decide) HOK.out.1 HOK.out.2.1 HOK.out.2.2)⟩ hHeld)
  refine any_have 10 [10, 1, 2] (fun a a' w' => ∃ (gA : Nat), a' = (((a.put (some 13) (.pointer (some ⟨gA, 0, none⟩))).put (some 66) (.agg #[.int .i64 3, .int .i64 0, .float .f64 0, .string ⟨#[97]⟩, .slice none 0 0])).put (some 67) (.agg #[.int .i64 3, .int .i64 0, .float .f64 0, .string ⟨#[98]⟩, .slice none 0 0])) ∧ FBC w sb qs ms ds vb (.int .i64 Kz) (.int .i64 Iz) (.float .f64 Fz) (.string ⟨#[]⟩) (.slice none 0 0) w' ∧ Below wr.heap.size wr w' ∧ SBX w' gA (.int .i64 0) (.int .i64 0) (.float .f64 0) (.string ⟨#[]⟩) (.slice none 0 0) ∧ wr.heap.size ≤ gA) ?phK102m (fun hK102 => ?_)
  case phK102m =>
    intro a' w' hst hHeld
    obtain ⟨gA, rfl, hq, hbd, hsA, hgA⟩ := hst
    (try simp only [Act.put, pk0, pk1, pk2])
    refine wpAnyH_ready (rs := [4, 11]) (by kernel_rfl) (by simp) ?_
    refine AllReadyH.cons (o := ?_) ?hoXhK102m ?hstXhK102m (AllReadyH.cons (o := ?_) ?hoBhK102m ?hstBhK102m AllReadyH.nil)
    case hoXhK102m => (simp only [lk0, lk1, lk2]; rfl)
    case hoBhK102m => (simp only [lk0, lk1, lk2]; rfl)
    case hstXhK102m =>
      intro K hK
      go_simp
      refine hK.out _ _ ?hsXhK102m (fun hHeld => ?_)
      case hsXhK102m => exact fbc_cells (fbc_step hq (bel_alloc (Below.refl _ _) (.cells #[.int .i64 3, .int .i64 0, .float .f64 0, .string ⟨#[97]⟩, .slice none 0 0, .int .i64 3, .int .i64 0, .float .f64 0, .string ⟨#[98]⟩, .slice none 0 0, .int .i64 Kz, .int .i64 Iz, .float .f64 Fz, .string ⟨#[]⟩, .slice none 0 0] 27)))
      clear hK K
      (try simp only [Act.put, pk0, pk1, pk2])
      exact any_eq (by kernel_rfl) (by kernel_rfl) (hK103 _ _ ⟨gA, _, rfl, (fbc_step hq (bel_alloc (Below.refl _ _) (.cells #[.int .i64 3, .int .i64 0, .float .f64 0, .string ⟨#[97]⟩, .slice none 0 0, .int .i64 3, .int .i64 0, .float .f64 0, .string ⟨#[98]⟩, .slice none 0 0, .int .i64 Kz, .int .i64 Iz, .float .f64 Fz, .string ⟨#[]⟩, .slice none 0 0] 27))), (bel_step hbd (bel_alloc (Below.refl _ _) (.cells #[.int .i64 3, .int .i64 0, .float .f64 0, .string ⟨#[97]⟩, .slice none 0 0, .int .i64 3, .int .i64 0, .float .f64 0, .string ⟨#[98]⟩, .slice none 0 0, .int .i64 Kz, .int .i64 Iz, .float .f64 Fz, .string ⟨#[]⟩, .slice none 0 0] 27))), (sbx_step hsA (bel_alloc (Below.refl _ _) (.cells #[.int .i64 3, .int .i64 0, .float .f64 0, .string ⟨#[97]⟩, .slice none 0 0, .int .i64 3, .int .i64 0, .float .f64 0, .string ⟨#[98]⟩, .slice none 0 0, .int .i64 Kz, .int .i64 Iz, .float .f64 Fz, .string ⟨#[]⟩, .slice none 0 0] 27))), hgA, (la3_new rfl (by decide) (by decide) HOK.out.1 HOK.out.2.1 HOK.out.2.2)⟩ hHeld)
    case hstBhK102m =>
      intro K hK
      go_simp
      refine hK.out _ _ ?hsBhK102m (fun hHeld => ?_)
      case hsBhK102m => exact fbc_cells (fbc_step hq bz)
      clear hK K
      (try simp only [Act.put, pk0, pk1, pk2])
      exact any_eq (by kernel_rfl) (by kernel_rfl) (hK112 _ _ ⟨gA, _, rfl, (fbc_step hq bz), (bel_step hbd bz), (sbx_step hsA bz), hgA, ⟨cs_new rfl, fun o => row_frz (row_alloc _ _ _) o⟩, hbd.size, (by have h := cs_lt hsA.1; omega)⟩ hHeld)
  refine any_have 10 [11, 1, 2] (fun a a' w' => ∃ (gB : Nat), a' = (((a.put (some 14) (.pointer (some ⟨gB, 0, none⟩))).put (some 66) (.agg #[.int .i64 3, .int .i64 0, .float .f64 0, .string ⟨#[97]⟩, .slice none 0 0])).put (some 67) (.agg #[.int .i64 3, .int .i64 0, .float .f64 0, .string ⟨#[98]⟩, .slice none 0 0])) ∧ FBC w sb qs ms ds vb (.int .i64 Kz) (.int .i64 Iz) (.float .f64 Fz) (.string ⟨#[]⟩) (.slice none 0 0) w' ∧ Below wr.heap.size wr w' ∧ SBX w' gB (.int .i64 0) (.int .i64 0) (.float .f64 0) (.string ⟨#[]⟩) (.slice none 0 0) ∧ wr.heap.size ≤ gB) ?phK012m (fun hK012 => ?_)
  case phK012m =>
    intro a' w' hst hHeld
    obtain ⟨gB, rfl, hq, hbd, hsB, hgB⟩ := hst
    (try simp only [Act.put, pk0, pk1, pk2])
    refine wpAnyH_ready (rs := [4, 10]) (by kernel_rfl) (by simp) ?_
    refine AllReadyH.cons (o := ?_) ?hoXhK012m ?hstXhK012m (AllReadyH.cons (o := ?_) ?hoAhK012m ?hstAhK012m AllReadyH.nil)
    case hoXhK012m => (simp only [lk0, lk1, lk2]; rfl)
    case hoAhK012m => (simp only [lk0, lk1, lk2]; rfl)
    case hstXhK012m =>
      intro K hK
      go_simp
      refine hK.out _ _ ?hsXhK012m (fun hHeld => ?_)
      case hsXhK012m => exact fbc_cells (fbc_step hq (bel_alloc (Below.refl _ _) (.cells #[.int .i64 3, .int .i64 0, .float .f64 0, .string ⟨#[97]⟩, .slice none 0 0, .int .i64 3, .int .i64 0, .float .f64 0, .string ⟨#[98]⟩, .slice none 0 0, .int .i64 Kz, .int .i64 Iz, .float .f64 Fz, .string ⟨#[]⟩, .slice none 0 0] 27)))
      clear hK K
      (try simp only [Act.put, pk0, pk1, pk2])
      exact any_eq (by kernel_rfl) (by kernel_rfl) (hK013 _ _ ⟨gB, _, rfl, (fbc_step hq (bel_alloc (Below.refl _ _) (.cells #[.int .i64 3, .int .i64 0, .float .f64 0, .string ⟨#[97]⟩, .slice none 0 0, .int .i64 3, .int .i64 0, .float .f64 0, .string ⟨#[98]⟩, .slice none 0 0, .int .i64 Kz, .int .i64 Iz, .float .f64 Fz, .string ⟨#[]⟩, .slice none 0 0] 27))), (bel_step hbd (bel_alloc (Below.refl _ _) (.cells #[.int .i64 3, .int .i64 0, .float .f64 0, .string ⟨#[97]⟩, .slice none 0 0, .int .i64 3, .int .i64 0, .float .f64 0, .string ⟨#[98]⟩, .slice none 0 0, .int .i64 Kz, .int .i64 Iz, .float .f64 Fz, .string ⟨#[]⟩, .slice none 0 0] 27))), (sbx_step hsB (bel_alloc (Below.refl _ _) (.cells #[.int .i64 3, .int .i64 0, .float .f64 0, .string ⟨#[97]⟩, .slice none 0 0, .int .i64 3, .int .i64 0, .float .f64 0, .string ⟨#[98]⟩, .slice none 0 0, .int .i64 Kz, .int .i64 Iz, .float .f64 Fz, .string ⟨#[]⟩, .slice none 0 0] 27))), hgB, (la3_new rfl (by decide) (by decide) HOK.out.1 HOK.out.2.1 HOK.out.2.2)⟩ hHeld)
    case hstAhK012m =>
      intro K hK
      go_simp
      refine hK.out _ _ ?hsAhK012m (fun hHeld => ?_)
      case hsAhK012m => exact fbc_cells (fbc_step hq bz)
      clear hK K
      (try simp only [Act.put, pk0, pk1, pk2])
      exact any_eq (by kernel_rfl) (by kernel_rfl) (hK112 _ _ ⟨_, gB, rfl, (fbc_step hq bz), (bel_step hbd bz), ⟨cs_new rfl, fun o => row_frz (row_alloc _ _ _) o⟩, hbd.size, (sbx_step hsB bz), hgB, (by have h := cs_lt hsB.1; omega)⟩ hHeld)
  refine any_have 11 [1, 2] (fun a a' w' => a' = ((a.put (some 66) (.agg #[.int .i64 3, .int .i64 0, .float .f64 0, .string ⟨#[97]⟩, .slice none 0 0])).put (some 67) (.agg #[.int .i64 3, .int .i64 0, .float .f64 0, .string ⟨#[98]⟩, .slice none 0 0])) ∧ FBC w sb qs ms ds vb (.int .i64 Kz) (.int .i64 Iz) (.float .f64 Fz) (.string ⟨#[]⟩) (.slice none 0 0) w' ∧ Below wr.heap.size wr w') ?phK002m (fun hK002 => ?_)
  case phK002m =>
    intro a' w' hst hHeld
    obtain ⟨rfl, hq, hbd⟩ := hst
    (try simp only [Act.put, pk0, pk1, pk2])
    refine wpAnyH_ready (rs := [4, 10, 11]) (by kernel_rfl) (by simp) ?_
    refine AllReadyH.cons (o := ?_) ?hoXhK002m ?hstXhK002m (AllReadyH.cons (o := ?_) ?hoAhK002m ?hstAhK002m (AllReadyH.cons (o := ?_) ?hoBhK002m ?hstBhK002m AllReadyH.nil))
    case hoXhK002m => (simp only [lk0, lk1, lk2]; rfl)
    case hoAhK002m => (simp only [lk0, lk1, lk2]; rfl)
    case hoBhK002m => (simp only [lk0, lk1, lk2]; rfl)
    case hstXhK002m =>
      intro K hK
      go_simp
      refine hK.out _ _ ?hsXhK002m (fun hHeld => ?_)
      case hsXhK002m => exact fbc_cells (fbc_step hq (bel_alloc (Below.refl _ _) (.cells #[.int .i64 3, .int .i64 0, .float .f64 0, .string ⟨#[97]⟩, .slice none 0 0, .int .i64 3, .int .i64 0, .float .f64 0, .string ⟨#[98]⟩, .slice none 0 0, .int .i64 Kz, .int .i64 Iz, .float .f64 Fz, .string ⟨#[]⟩, .slice none 0 0] 27)))
      clear hK K
      (try simp only [Act.put, pk0, pk1, pk2])
      exact any_eq (by kernel_rfl) (by kernel_rfl) (hK003 _ _ ⟨_, rfl, (fbc_step hq (bel_alloc (Below.refl _ _) (.cells #[.int .i64 3, .int .i64 0, .float .f64 0, .string ⟨#[97]⟩, .slice none 0 0, .int .i64 3, .int .i64 0, .float .f64 0, .string ⟨#[98]⟩, .slice none 0 0, .int .i64 Kz, .int .i64 Iz, .float .f64 Fz, .string ⟨#[]⟩, .slice none 0 0] 27))), (bel_step hbd (bel_alloc (Below.refl _ _) (.cells #[.int .i64 3, .int .i64 0, .float .f64 0, .string ⟨#[97]⟩, .slice none 0 0, .int .i64 3, .int .i64 0, .float .f64 0, .string ⟨#[98]⟩, .slice none 0 0, .int .i64 Kz, .int .i64 Iz, .float .f64 Fz, .string ⟨#[]⟩, .slice none 0 0] 27))), (la3_new rfl (by decide) (by decide) HOK.out.1 HOK.out.2.1 HOK.out.2.2)⟩ hHeld)
    case hstAhK002m =>
      intro K hK
      go_simp
      refine hK.out _ _ ?hsAhK002m (fun hHeld => ?_)
      case hsAhK002m => exact fbc_cells (fbc_step hq bz)
      clear hK K
      (try simp only [Act.put, pk0, pk1, pk2])
      exact any_eq (by kernel_rfl) (by kernel_rfl) (hK102 _ _ ⟨_, rfl, (fbc_step hq bz), (bel_step hbd bz), ⟨cs_new rfl, fun o => row_frz (row_alloc _ _ _) o⟩, hbd.size⟩ hHeld)
    case hstBhK002m =>
      intro K hK
      go_simp
      refine hK.out _ _ ?hsBhK002m (fun hHeld => ?_)
      case hsBhK002m => exact fbc_cells (fbc_step hq bz)
      clear hK K
      (try simp only [Act.put, pk0, pk1, pk2])
      exact any_eq (by kernel_rfl) (by kernel_rfl) (hK012 _ _ ⟨_, rfl, (fbc_step hq bz), (bel_step hbd bz), ⟨cs_new rfl, fun o => row_frz (row_alloc _ _ _) o⟩, hbd.size⟩ hHeld)
  refine any_have 10 [10, 11, 1] (fun a a' w' => ∃ (gA gB : Nat), a' = (((a.put (some 13) (.pointer (some ⟨gA, 0, none⟩))).put (some 14) (.pointer (some ⟨gB, 0, none⟩))).put (some 66) (.agg #[.int .i64 3, .int .i64 0, .float .f64 0, .string ⟨#[97]⟩, .slice none 0 0])) ∧ FBC w sb qs ms ds vb (.int .i64 Kz) (.int .i64 Iz) (.float .f64 Fz) (.string ⟨#[]⟩) (.slice none 0 0) w' ∧ Below wr.heap.size wr w' ∧ SBX w' gA (.int .i64 0) (.int .i64 0) (.float .f64 0) (.string ⟨#[]⟩) (.slice none 0 0) ∧ wr.heap.size ≤ gA ∧ SBX w' gB (.int .i64 0) (.int .i64 0) (.float .f64 0) (.string ⟨#[]⟩) (.slice none 0 0) ∧ wr.heap.size ≤ gB ∧ gA ≠ gB) ?phK111m (fun hK111 => ?_)
  case phK111m =>
    intro a' w' hst hHeld
    obtain ⟨gA, gB, rfl, hq, hbd, hsA, hgA, hsB, hgB, hne⟩ := hst
    (try simp only [Act.put, pk0, pk1, pk2])
    refine wpAnyH_ready (rs := [2]) (by kernel_rfl) (by simp) ?_
    refine AllReadyH.cons (o := ?_) ?hoXhK111m ?hstXhK111m AllReadyH.nil
    case hoXhK111m => (simp only [lk0, lk1, lk2]; rfl)
    case hstXhK111m =>
      intro K hK
      go_simp
      go_at_call 19; refine (text_ref_any _ _).mono ?_; rintro e wT ⟨rfl, hbT⟩
      go_wp2_with fail
      refine hK.out _ _ ?hsXhK111m (fun hHeld => ?_)
      case hsXhK111m => exact fbc_cells (fbc_step hq hbT)
      clear hK K
      (try simp only [Act.put, pk0, pk1, pk2])
      exact any_eq (by kernel_rfl) (by kernel_rfl) (hK112 _ _ ⟨gA, gB, rfl, (fbc_step hq hbT), (bel_step hbd hbT), (sbx_step hsA hbT), hgA, (sbx_step hsB hbT), hgB, hne⟩ hHeld)
  refine any_have 11 [10, 1] (fun a a' w' => ∃ (gA : Nat), a' = ((a.put (some 13) (.pointer (some ⟨gA, 0, none⟩))).put (some 66) (.agg #[.int .i64 3, .int .i64 0, .float .f64 0, .string ⟨#[97]⟩, .slice none 0 0])) ∧ FBC w sb qs ms ds vb (.int .i64 Kz) (.int .i64 Iz) (.float .f64 Fz) (.string ⟨#[]⟩) (.slice none 0 0) w' ∧ Below wr.heap.size wr w' ∧ SBX w' gA (.int .i64 0) (.int .i64 0) (.float .f64 0) (.string ⟨#[]⟩) (.slice none 0 0) ∧ wr.heap.size ≤ gA) ?phK101m (fun hK101 => ?_)
  case phK101m =>
    intro a' w' hst hHeld
    obtain ⟨gA, rfl, hq, hbd, hsA, hgA⟩ := hst
    (try simp only [Act.put, pk0, pk1, pk2])
    refine wpAnyH_ready (rs := [2, 11]) (by kernel_rfl) (by simp) ?_
    refine AllReadyH.cons (o := ?_) ?hoXhK101m ?hstXhK101m (AllReadyH.cons (o := ?_) ?hoBhK101m ?hstBhK101m AllReadyH.nil)
    case hoXhK101m => (simp only [lk0, lk1, lk2]; rfl)
    case hoBhK101m => (simp only [lk0, lk1, lk2]; rfl)
    case hstXhK101m =>
      intro K hK
      go_simp
      go_at_call 19; refine (text_ref_any _ _).mono ?_; rintro e wT ⟨rfl, hbT⟩
      go_wp2_with fail
      refine hK.out _ _ ?hsXhK101m (fun hHeld => ?_)
      case hsXhK101m => exact fbc_cells (fbc_step hq hbT)
      clear hK K
      (try simp only [Act.put, pk0, pk1, pk2])
      exact any_eq (by kernel_rfl) (by kernel_rfl) (hK102 _ _ ⟨gA, rfl, (fbc_step hq hbT), (bel_step hbd hbT), (sbx_step hsA hbT), hgA⟩ hHeld)
    case hstBhK101m =>
      intro K hK
      go_simp
      refine hK.out _ _ ?hsBhK101m (fun hHeld => ?_)
      case hsBhK101m => exact fbc_cells (fbc_step hq bz)
      clear hK K
      (try simp only [Act.put, pk0, pk1, pk2])
      exact any_eq (by kernel_rfl) (by kernel_rfl) (hK111 _ _ ⟨gA, _, rfl, (fbc_step hq bz), (bel_step hbd bz), (sbx_step hsA bz), hgA, ⟨cs_new rfl, fun o => row_frz (row_alloc _ _ _) o⟩, hbd.size, (by have h := cs_lt hsA.1; omega)⟩ hHeld)
  refine any_have 11 [11, 1] (fun a a' w' => ∃ (gB : Nat), a' = ((a.put (some 14) (.pointer (some ⟨gB, 0, none⟩))).put (some 66) (.agg #[.int .i64 3, .int .i64 0, .float .f64 0, .string ⟨#[97]⟩, .slice none 0 0])) ∧ FBC w sb qs ms ds vb (.int .i64 Kz) (.int .i64 Iz) (.float .f64 Fz) (.string ⟨#[]⟩) (.slice none 0 0) w' ∧ Below wr.heap.size wr w' ∧ SBX w' gB (.int .i64 0) (.int .i64 0) (.float .f64 0) (.string ⟨#[]⟩) (.slice none 0 0) ∧ wr.heap.size ≤ gB) ?phK011m (fun hK011 => ?_)
  case phK011m =>
    intro a' w' hst hHeld
    obtain ⟨gB, rfl, hq, hbd, hsB, hgB⟩ := hst
    (try simp only [Act.put, pk0, pk1, pk2])
    refine wpAnyH_ready (rs := [2, 10]) (by kernel_rfl) (by simp) ?_
    refine AllReadyH.cons (o := ?_) ?hoXhK011m ?hstXhK011m (AllReadyH.cons (o := ?_) ?hoAhK011m ?hstAhK011m AllReadyH.nil)
    case hoXhK011m => (simp only [lk0, lk1, lk2]; rfl)
    case hoAhK011m => (simp only [lk0, lk1, lk2]; rfl)
    case hstXhK011m =>
      intro K hK
      go_simp
      go_at_call 19; refine (text_ref_any _ _).mono ?_; rintro e wT ⟨rfl, hbT⟩
      go_wp2_with fail
      refine hK.out _ _ ?hsXhK011m (fun hHeld => ?_)
      case hsXhK011m => exact fbc_cells (fbc_step hq hbT)
      clear hK K
      (try simp only [Act.put, pk0, pk1, pk2])
      exact any_eq (by kernel_rfl) (by kernel_rfl) (hK012 _ _ ⟨gB, rfl, (fbc_step hq hbT), (bel_step hbd hbT), (sbx_step hsB hbT), hgB⟩ hHeld)
    case hstAhK011m =>
      intro K hK
      go_simp
      refine hK.out _ _ ?hsAhK011m (fun hHeld => ?_)
      case hsAhK011m => exact fbc_cells (fbc_step hq bz)
      clear hK K
      (try simp only [Act.put, pk0, pk1, pk2])
      exact any_eq (by kernel_rfl) (by kernel_rfl) (hK111 _ _ ⟨_, gB, rfl, (fbc_step hq bz), (bel_step hbd bz), ⟨cs_new rfl, fun o => row_frz (row_alloc _ _ _) o⟩, hbd.size, (sbx_step hsB bz), hgB, (by have h := cs_lt hsB.1; omega)⟩ hHeld)
  refine any_have 12 [1] (fun a a' w' => a' = (a.put (some 66) (.agg #[.int .i64 3, .int .i64 0, .float .f64 0, .string ⟨#[97]⟩, .slice none 0 0])) ∧ FBC w sb qs ms ds vb (.int .i64 Kz) (.int .i64 Iz) (.float .f64 Fz) (.string ⟨#[]⟩) (.slice none 0 0) w' ∧ Below wr.heap.size wr w') ?phK001m (fun hK001 => ?_)
  case phK001m =>
    intro a' w' hst hHeld
    obtain ⟨rfl, hq, hbd⟩ := hst
    (try simp only [Act.put, pk0, pk1, pk2])
    refine wpAnyH_ready (rs := [2, 10, 11]) (by kernel_rfl) (by simp) ?_
    refine AllReadyH.cons (o := ?_) ?hoXhK001m ?hstXhK001m (AllReadyH.cons (o := ?_) ?hoAhK001m ?hstAhK001m (AllReadyH.cons (o := ?_) ?hoBhK001m ?hstBhK001m AllReadyH.nil))
    case hoXhK001m => (simp only [lk0, lk1, lk2]; rfl)
    case hoAhK001m => (simp only [lk0, lk1, lk2]; rfl)
    case hoBhK001m => (simp only [lk0, lk1, lk2]; rfl)
    case hstXhK001m =>
      intro K hK
      go_simp
      go_at_call 19; refine (text_ref_any _ _).mono ?_; rintro e wT ⟨rfl, hbT⟩
      go_wp2_with fail
      refine hK.out _ _ ?hsXhK001m (fun hHeld => ?_)
      case hsXhK001m => exact fbc_cells (fbc_step hq hbT)
      clear hK K
      (try simp only [Act.put, pk0, pk1, pk2])
      exact any_eq (by kernel_rfl) (by kernel_rfl) (hK002 _ _ ⟨rfl, (fbc_step hq hbT), (bel_step hbd hbT)⟩ hHeld)
    case hstAhK001m =>
      intro K hK
      go_simp
      refine hK.out _ _ ?hsAhK001m (fun hHeld => ?_)
      case hsAhK001m => exact fbc_cells (fbc_step hq bz)
      clear hK K
      (try simp only [Act.put, pk0, pk1, pk2])
      exact any_eq (by kernel_rfl) (by kernel_rfl) (hK101 _ _ ⟨_, rfl, (fbc_step hq bz), (bel_step hbd bz), ⟨cs_new rfl, fun o => row_frz (row_alloc _ _ _) o⟩, hbd.size⟩ hHeld)
    case hstBhK001m =>
      intro K hK
      go_simp
      refine hK.out _ _ ?hsBhK001m (fun hHeld => ?_)
      case hsBhK001m => exact fbc_cells (fbc_step hq bz)
      clear hK K
      (try simp only [Act.put, pk0, pk1, pk2])
      exact any_eq (by kernel_rfl) (by kernel_rfl) (hK011 _ _ ⟨_, rfl, (fbc_step hq bz), (bel_step hbd bz), ⟨cs_new rfl, fun o => row_frz (row_alloc _ _ _) o⟩, hbd.size⟩ hHeld)
  refine any_have 11 [10, 11] (fun a a' w' => ∃ (gA gB : Nat), a' = ((a.put (some 13) (.pointer (some ⟨gA, 0, none⟩))).put (some 14) (.pointer (some ⟨gB, 0, none⟩))) ∧ FBC w sb qs ms ds vb (.int .i64 Kz) (.int .i64 Iz) (.float .f64 Fz) (.string ⟨#[]⟩) (.slice none 0 0) w' ∧ Below wr.heap.size wr w' ∧ SBX w' gA (.int .i64 0) (.int .i64 0) (.float .f64 0) (.string ⟨#[]⟩) (.slice none 0 0) ∧ wr.heap.size ≤ gA ∧ SBX w' gB (.int .i64 0) (.int .i64 0) (.float .f64 0) (.string ⟨#[]⟩) (.slice none 0 0) ∧ wr.heap.size ≤ gB ∧ gA ≠ gB) ?phK110m (fun hK110 => ?_)
  case phK110m =>
    intro a' w' hst hHeld
    obtain ⟨gA, gB, rfl, hq, hbd, hsA, hgA, hsB, hgB, hne⟩ := hst
    (try simp only [Act.put, pk0, pk1, pk2])
    refine wpAnyH_ready (rs := [1]) (by kernel_rfl) (by simp) ?_
    refine AllReadyH.cons (o := ?_) ?hoXhK110m ?hstXhK110m AllReadyH.nil
    case hoXhK110m => (simp only [lk0, lk1, lk2]; rfl)
    case hstXhK110m =>
      intro K hK
      go_simp
      go_at_call 19; refine (text_ref_any _ _).mono ?_; rintro e wT ⟨rfl, hbT⟩
      go_wp2_with fail
      refine hK.out _ _ ?hsXhK110m (fun hHeld => ?_)
      case hsXhK110m => exact fbc_cells (fbc_step hq hbT)
      clear hK K
      (try simp only [Act.put, pk0, pk1, pk2])
      exact any_eq (by kernel_rfl) (by kernel_rfl) (hK111 _ _ ⟨gA, gB, rfl, (fbc_step hq hbT), (bel_step hbd hbT), (sbx_step hsA hbT), hgA, (sbx_step hsB hbT), hgB, hne⟩ hHeld)
  refine any_have 12 [10] (fun a a' w' => ∃ (gA : Nat), a' = (a.put (some 13) (.pointer (some ⟨gA, 0, none⟩))) ∧ FBC w sb qs ms ds vb (.int .i64 Kz) (.int .i64 Iz) (.float .f64 Fz) (.string ⟨#[]⟩) (.slice none 0 0) w' ∧ Below wr.heap.size wr w' ∧ SBX w' gA (.int .i64 0) (.int .i64 0) (.float .f64 0) (.string ⟨#[]⟩) (.slice none 0 0) ∧ wr.heap.size ≤ gA) ?phK100m (fun hK100 => ?_)
  case phK100m =>
    intro a' w' hst hHeld
    obtain ⟨gA, rfl, hq, hbd, hsA, hgA⟩ := hst
    (try simp only [Act.put, pk0, pk1, pk2])
    refine wpAnyH_ready (rs := [1, 11]) (by kernel_rfl) (by simp) ?_
    refine AllReadyH.cons (o := ?_) ?hoXhK100m ?hstXhK100m (AllReadyH.cons (o := ?_) ?hoBhK100m ?hstBhK100m AllReadyH.nil)
    case hoXhK100m => (simp only [lk0, lk1, lk2]; rfl)
    case hoBhK100m => (simp only [lk0, lk1, lk2]; rfl)
    case hstXhK100m =>
      intro K hK
      go_simp
      go_at_call 19; refine (text_ref_any _ _).mono ?_; rintro e wT ⟨rfl, hbT⟩
      go_wp2_with fail
      refine hK.out _ _ ?hsXhK100m (fun hHeld => ?_)
      case hsXhK100m => exact fbc_cells (fbc_step hq hbT)
      clear hK K
      (try simp only [Act.put, pk0, pk1, pk2])
      exact any_eq (by kernel_rfl) (by kernel_rfl) (hK101 _ _ ⟨gA, rfl, (fbc_step hq hbT), (bel_step hbd hbT), (sbx_step hsA hbT), hgA⟩ hHeld)
    case hstBhK100m =>
      intro K hK
      go_simp
      refine hK.out _ _ ?hsBhK100m (fun hHeld => ?_)
      case hsBhK100m => exact fbc_cells (fbc_step hq bz)
      clear hK K
      (try simp only [Act.put, pk0, pk1, pk2])
      exact any_eq (by kernel_rfl) (by kernel_rfl) (hK110 _ _ ⟨gA, _, rfl, (fbc_step hq bz), (bel_step hbd bz), (sbx_step hsA bz), hgA, ⟨cs_new rfl, fun o => row_frz (row_alloc _ _ _) o⟩, hbd.size, (by have h := cs_lt hsA.1; omega)⟩ hHeld)
  refine any_have 12 [11] (fun a a' w' => ∃ (gB : Nat), a' = (a.put (some 14) (.pointer (some ⟨gB, 0, none⟩))) ∧ FBC w sb qs ms ds vb (.int .i64 Kz) (.int .i64 Iz) (.float .f64 Fz) (.string ⟨#[]⟩) (.slice none 0 0) w' ∧ Below wr.heap.size wr w' ∧ SBX w' gB (.int .i64 0) (.int .i64 0) (.float .f64 0) (.string ⟨#[]⟩) (.slice none 0 0) ∧ wr.heap.size ≤ gB) ?phK010m (fun hK010 => ?_)
  case phK010m =>
    intro a' w' hst hHeld
    obtain ⟨gB, rfl, hq, hbd, hsB, hgB⟩ := hst
    (try simp only [Act.put, pk0, pk1, pk2])
    refine wpAnyH_ready (rs := [1, 10]) (by kernel_rfl) (by simp) ?_
    refine AllReadyH.cons (o := ?_) ?hoXhK010m ?hstXhK010m (AllReadyH.cons (o := ?_) ?hoAhK010m ?hstAhK010m AllReadyH.nil)
    case hoXhK010m => (simp only [lk0, lk1, lk2]; rfl)
    case hoAhK010m => (simp only [lk0, lk1, lk2]; rfl)
    case hstXhK010m =>
      intro K hK
      go_simp
      go_at_call 19; refine (text_ref_any _ _).mono ?_; rintro e wT ⟨rfl, hbT⟩
      go_wp2_with fail
      refine hK.out _ _ ?hsXhK010m (fun hHeld => ?_)
      case hsXhK010m => exact fbc_cells (fbc_step hq hbT)
      clear hK K
      (try simp only [Act.put, pk0, pk1, pk2])
      exact any_eq (by kernel_rfl) (by kernel_rfl) (hK011 _ _ ⟨gB, rfl, (fbc_step hq hbT), (bel_step hbd hbT), (sbx_step hsB hbT), hgB⟩ hHeld)
    case hstAhK010m =>
      intro K hK
      go_simp
      refine hK.out _ _ ?hsAhK010m (fun hHeld => ?_)
      case hsAhK010m => exact fbc_cells (fbc_step hq bz)
      clear hK K
      (try simp only [Act.put, pk0, pk1, pk2])
      exact any_eq (by kernel_rfl) (by kernel_rfl) (hK110 _ _ ⟨_, gB, rfl, (fbc_step hq bz), (bel_step hbd bz), ⟨cs_new rfl, fun o => row_frz (row_alloc _ _ _) o⟩, hbd.size, (sbx_step hsB bz), hgB, (by have h := cs_lt hsB.1; omega)⟩ hHeld)
  refine wpAnyH_ready (rs := [1, 10, 11]) (by kernel_rfl) (by simp) ?_
  refine AllReadyH.cons (o := ?_) ?hoXzm ?hstXzm (AllReadyH.cons (o := ?_) ?hoAzm ?hstAzm (AllReadyH.cons (o := ?_) ?hoBzm ?hstBzm AllReadyH.nil))
  case hoXzm => (simp only [lk0, lk1, lk2]; rfl)
  case hoAzm => (simp only [lk0, lk1, lk2]; rfl)
  case hoBzm => (simp only [lk0, lk1, lk2]; rfl)
  case hstXzm =>
    intro K hK
    go_simp
    go_at_call 19; refine (text_ref_any _ _).mono ?_; rintro e wT ⟨rfl, hbT⟩
    go_wp2_with fail
    refine hK.out _ _ ?hsXzm (fun hHeld => ?_)
    case hsXzm => exact fbc_cells (fbc_step hq hbT)
    clear hK K
    (try simp only [Act.put, pk0, pk1, pk2])
    exact any_eq (by kernel_rfl) (by kernel_rfl) (hK001 _ _ ⟨rfl, (fbc_step hq hbT), (bel_step hbd hbT)⟩ hHeld)
  case hstAzm =>
    intro K hK
    go_simp
    refine hK.out _ _ ?hsAzm (fun hHeld => ?_)
    case hsAzm => exact fbc_cells (fbc_step hq bz)
    clear hK K
    (try simp only [Act.put, pk0, pk1, pk2])
    exact any_eq (by kernel_rfl) (by kernel_rfl) (hK100 _ _ ⟨_, rfl, (fbc_step hq bz), (bel_step hbd bz), ⟨cs_new rfl, fun o => row_frz (row_alloc _ _ _) o⟩, hbd.size⟩ hHeld)
  case hstBzm =>
    intro K hK
    go_simp
    refine hK.out _ _ ?hsBzm (fun hHeld => ?_)
    case hsBzm => exact fbc_cells (fbc_step hq bz)
    clear hK K
    (try simp only [Act.put, pk0, pk1, pk2])
    exact any_eq (by kernel_rfl) (by kernel_rfl) (hK010 _ _ ⟨_, rfl, (fbc_step hq bz), (bel_step hbd bz), ⟨cs_new rfl, fun o => row_frz (row_alloc _ _ _) o⟩, hbd.size⟩ hHeld)
end Num
end Go.Proofs.YtpbfaffheigjcaaGreat
/-
  LedgerAmounts: the walk.
-/
namespace Go.Proofs.YtpbfaffheigjcaaGreat
open Go.RowKit
namespace Num
open Ints
set_option linter.unusedSimpArgs false
set_option linter.unusedVariables false
/-- The ledger that the law has laid: two accounts, the first one's holding X. -/
def Led2 (w : World) (b1 b2 b3 sb X : Nat) (z : World) : Prop := z.heap[b1]? = some (.cells #[.int .i64 3, .int .i64 0, .float .f64 0, .string { data := #[97] }, .slice none 0 0, .int .i64 2, .int .i64 0, .float .f64 X, .string ⟨#[]⟩, .slice none 0 0] 27 (0, 0)) ∧ z.heap[b2]? = some (.cells #[.int .i64 3, .int .i64 0, .float .f64 0, .string { data := #[98] }, .slice none 0 0, .int .i64 2, .int .i64 0, .float .f64 0, .string ⟨#[]⟩, .slice none 0 0] 27 (0, 0)) ∧ z.heap[b3]? = some (.cells #[.int .i64 4, .int .i64 0, .float .f64 0, .string ⟨#[]⟩, .slice (some ⟨b1, 0, none⟩) 2 2, .int .i64 4, .int .i64 0, .float .f64 0, .string ⟨#[]⟩, .slice (some ⟨b2, 0, none⟩) 2 2] 27 (0, 0)) ∧ z.heap[sb]? = some (.cells #[.int .i64 4, .int .i64 0, .float .f64 0, .string ⟨#[]⟩, .slice (some ⟨b3, 0, none⟩) 2 2] 27 (0, 0)) ∧ Below w.heap.size w z ∧ w.heap.size ≤ b1 ∧ b1 < b2 ∧ b2 < b3 ∧ b3 < sb
theorem led2_step {w z z' : World} {b1 b2 b3 sb X : Nat} (h : Led2 w b1 b2 b3 sb X z) (hb : Below z.heap.size z z') : Led2 w b1 b2 b3 sb X z' :=
  ⟨row_step h.1 hb, row_step h.2.1 hb, row_step h.2.2.1 hb, row_step h.2.2.2.1 hb, bel_step h.2.2.2.2.1 hb, h.2.2.2.2.2⟩
theorem led2_drew {w z : World} {b1 b2 b3 sb X : Nat} (h : Led2 w b1 b2 b3 sb X z) : Led2 w b1 b2 b3 sb X z.drew := led2_step h (Below.drew (Below.refl _ _))
theorem led2_rep {w z : World} {b1 b2 b3 sb X : Nat} (hX : X < 2 ^ 64) (h : Led2 w b1 b2 b3 sb X z) : Rep z 3 (.agg #[.int .i64 4, .int .i64 0, .float .f64 0, .string ⟨#[]⟩, .slice (some ⟨b3, 0, none⟩) 2 2]) (tableT 0 (ledA [(⟨#[97]⟩, X), (⟨#[98]⟩, 0)])) :=
  list_rep (row2_rep h.2.2.1 (list_rep (row2_rep h.1 (leaf1 _ (by decide) (by decide) (by decide) (by decide)) (leaf1 _ (by decide) (by decide) hX (by decide)))) (list_rep (row2_rep h.2.1 (leaf1 _ (by decide) (by decide) (by decide) (by decide)) (leaf1 _ (by decide) (by decide) (by decide) (by decide)))))
theorem flo_one (w : World) : Calls Tryz.prog 20 #[.float .f64 4607182418800017408] w fun e w' => e = .returned (.agg #[.int .i64 2, .int .i64 0, .float .f64 4607182418800017408, .string ⟨#[]⟩, .slice none 0 0]) ∧ Below w.heap.size w w' := by
  have h := float_ref_any 4607182418800017408 w
  rw [show Flo.canon 4607182418800017408 = 4607182418800017408 by decide +kernel] at h
  exact h
theorem flo_zero (w : World) : Calls Tryz.prog 20 #[.float .f64 0] w fun e w' => e = .returned (.agg #[.int .i64 2, .int .i64 0, .float .f64 0, .string ⟨#[]⟩, .slice none 0 0]) ∧ Below w.heap.size w w' := by
  have h := float_ref_any 0 w
  rw [show Flo.canon 0 = 0 by decide +kernel] at h
  exact h
theorem flo_fin (X : Nat) (hX : X < 9218868437227405312) (w : World) : Calls Tryz.prog 20 #[.float .f64 X] w fun e w' => e = .returned (.agg #[.int .i64 2, .int .i64 0, .float .f64 X, .string ⟨#[]⟩, .slice none 0 0]) ∧ Below w.heap.size w w' := by
  have h := float_ref_any X w
  rw [Flo.canon_yes (feq_pos (Nat.le_of_lt hX))] at h
  exact h
theorem nm_b : nmV 3 ⟨#[98]⟩ = true := by decide
theorem okA_two {X : Nat} (hX : X < 9218868437227405312) : OkA [(⟨#[97]⟩, X), (⟨#[98]⟩, 0)] := ⟨⟨fun s h => by
    rcases List.mem_cons.1 h with rfl | h
    · exact nm_a
    · rw [List.mem_singleton.1 h]; exact nm_b, fun i j hi hj hij => by
    have h1 : i < 2 := hi
    have h2 : j < 2 := hj
    obtain rfl : i = 0 := by omega
    obtain rfl : j = 1 := by omega
    show ltB ⟨#[97]⟩ ⟨#[98]⟩ = true
    decide +kernel⟩, (by show (2 : Nat) ≤ 32; omega), fun e h => by
    rcases List.mem_cons.1 h with rfl | h
    · exact hX
    · rw [List.mem_singleton.1 h]; decide⟩
theorem sub_self0 {x : Nat} (h : x < 9218868437227405312) : floatBits .sub .f64 x x = some 0 := by
  show (((FloatKind.f64.format.read x).sum (FloatKind.f64.format.read x).opposite).map FloatKind.f64.format.write) = some 0
  obtain ⟨m, i, e⟩ := num_pos h
  rw [e]
  refine congrArg some ?_
  rw [write_num]
  have hs : Ieee.signed false m (i - min i i).toNat + Ieee.signed (!false) m (i - min i i).toNat = 0 := by
    have e1 : Ieee.signed (!false) m (i - min i i).toNat = - Ieee.signed false m (i - min i i).toNat := rfl
    rw [e1]; omega
  have e3 : (if Ieee.signed false m (i - min i i).toNat + Ieee.signed (!false) m (i - min i i).toNat = 0 then (false && !false) else decide (Ieee.signed false m (i - min i i).toNat + Ieee.signed (!false) m (i - min i i).toNat < 0)) = false := sum_sign _ _ (by omega)
  rw [e3, hs]
  show Ieee.double.nearest false 0 _ = 0
  unfold Ieee.Format.nearest
  rw [if_pos rfl, word_pos]
/-- What the law's transfer comes to. -/
theorem tra2 {X : Nat} {K I : Int} {F : Nat} (hX : X < 9218868437227405312) (hK : isNum K = true) (hi : okI I) (hF : F < 2 ^ 64) :
    (¬ (FloatKind.f64.format.order (asF K I F) 0 = some .gt ∧ asF K I F < 9218868437227405312) ∧ (traV [(⟨#[97]⟩, X), (⟨#[98]⟩, 0)] 0 1 ⟨#[97]⟩ ⟨#[98]⟩ X 0 K I F).1 = 35) ∨
    ((FloatKind.f64.format.order (asF K I F) 0 = some .gt ∧ asF K I F < 9218868437227405312) ∧ ((traV [(⟨#[97]⟩, X), (⟨#[98]⟩, 0)] 0 1 ⟨#[97]⟩ ⟨#[98]⟩ X 0 K I F).1 = 36 ∨
      (traV [(⟨#[97]⟩, X), (⟨#[98]⟩, 0)] 0 1 ⟨#[97]⟩ ⟨#[98]⟩ X 0 K I F).1 = 0 ∧ ∃ G, G ≤ 9218868437227405312 ∧ (traV [(⟨#[97]⟩, X), (⟨#[98]⟩, 0)] 0 1 ⟨#[97]⟩ ⟨#[98]⟩ X 0 K I F).2.2 = floT 0 G)) := by
  unfold traV
  by_cases h1 : finV K F = false ∨ signV K I F ≤ 0
  · rw [if_pos h1]
    exact Or.inl ⟨(amt_iff hK hF hi).1 h1, rfl⟩
  · have ha : FloatKind.f64.format.order (asF K I F) 0 = some .gt ∧ asF K I F < 9218868437227405312 := Classical.byContradiction fun h => h1 ((amt_iff hK hF hi).2 h)
    rw [if_neg h1]
    refine Or.inr ⟨ha, ?_⟩
    by_cases h2 : (FloatKind.f64.format.order X (asF K I F) == some .lt) = true
    · rw [if_pos h2]; exact Or.inl rfl
    · rw [if_neg h2, if_neg (by decide), cop_nought ha.2, if_neg (by rw [fin_pos ha.2]; decide)]
      exact Or.inr ⟨rfl, _, (cop_sub hX ha.2 (fun e => h2 (by rw [e]; rfl))).1, rfl⟩
theorem row_set10 {w : World} {b : Nat} {a0 a1 a2 a3 a4 v0 v1 v2 v3 v4 : Value} {t : TypeId} (h : w.heap[b]? = some (.cells #[a0, a1, a2, a3, a4, v0, v1, v2, v3, v4] t (0, 0))) (u0 u1 u2 u3 u4 : Value) :
    (set5 w b 5 u0 u1 u2 u3 u4).heap[b]? = some (.cells #[a0, a1, a2, a3, a4, u0, u1, u2, u3, u4] t (0, 0)) := by
  simp [set5, World.setCell, Array.getElem?_modify, h]
theorem led2_set {w z : World} {b1 b2 b3 sb X Y : Nat} (h : Led2 w b1 b2 b3 sb X z) : Led2 w b1 b2 b3 sb Y (set5 z b1 5 (.int .i64 2) (.int .i64 0) (.float .f64 Y) (.string ⟨#[]⟩) (.slice none 0 0)) := by
  obtain ⟨h1, h2, h3, h4, h5, h6, h7, h8, h9⟩ := h
  exact ⟨row_set10 h1 _ _ _ _ _, (set5_other (by omega)).trans h2, (set5_other (by omega)).trans h3, (set5_other (by omega)).trans h4, set5_below h5 h6 _ _ _ _ _, h6, h7, h8, h9⟩
theorem led2_s {w z : World} {b1 b2 b3 sb X : Nat} (h : Led2 w b1 b2 b3 sb X z) : z.cell? ⟨sb, 4, none⟩ = some (.slice (some ⟨b3, 0, none⟩) 2 2) ∧ z.cell? ⟨b3, 4, none⟩ = some (.slice (some ⟨b1, 0, none⟩) 2 2) := ⟨row_cell h.2.2.2.1 4, row_cell h.2.2.1 4⟩
set_option maxRecDepth 100000 in
set_option maxHeartbeats 4000000 in
theorem amounts_in (f : Nat) (n : Int) (h : Nat) (w : World) (hf : f < 2 ^ 64) (hn : okI n) (hh : h < 2 ^ 64) : Calls Tryz.prog 5 #[.float .f64 f, .int .i64 n, .float .f64 h] w fun e w' => e = .returned (.bool true) ∧ Below w.heap.size w w' := by
  have HH := Lib.hid hh
  have HN := Lib.hid hn
  have HF := Lib.hid hf
  clear hh hn hf
  go_enter Tryz.func5, Tryz.ntmps5
  go_wp2_with fail
  go_at_call 8; refine (known12 _).mono ?_; rintro e w1 ⟨rfl, hb1⟩
  have HB1 := Lib.hid hb1
  clear hb1
  go_wp2_with fail
  go_at_call 19; refine (text_ref_any _ _).mono ?_; rintro e w2 ⟨rfl, hb2⟩
  have HB2 := Lib.hid (bel_step HB1.out hb2)
  clear hb2
  go_wp2_with fail
  go_at_call 20; refine (flo_one _).mono ?_; rintro e w3 ⟨rfl, hb3⟩
  have HB3 := Lib.hid (bel_step HB2.out hb3)
  have HA3 := Lib.hid (bel_alloc HB3.out (.cells #[.int .i64 3, .int .i64 0, .float .f64 0, .string { data := #[97] }, .slice none 0 0, .int .i64 2, .int .i64 0, .float .f64 4607182418800017408, .string ⟨#[]⟩, .slice none 0 0] 27))
  have HR1 := Lib.hid (row_alloc w3 #[.int .i64 3, .int .i64 0, .float .f64 0, .string { data := #[97] }, .slice none 0 0, .int .i64 2, .int .i64 0, .float .f64 4607182418800017408, .string ⟨#[]⟩, .slice none 0 0] 27)
  clear hb3 HB2
  go_wp2_with fail
  go_at_call 18; refine (list_ref_any _ _ _ _).mono ?_; rintro e w4 ⟨rfl, hb4⟩
  have HB4 := Lib.hid (bel_step HA3.out hb4)
  have HS1 := Lib.hid (row_step HR1.out hb4)
  clear hb4 HA3 HR1
  go_wp2_with fail
  go_at_call 19; refine (text_ref_any _ _).mono ?_; rintro e w5 ⟨rfl, hb5⟩
  have HB5 := Lib.hid (bel_step HB4.out hb5)
  have HT1 := Lib.hid (row_step HS1.out hb5)
  clear hb5 HB4 HS1
  go_wp2_with fail
  go_at_call 20; refine (flo_zero _).mono ?_; rintro e w6 ⟨rfl, hb6⟩
  have HB6 := Lib.hid (bel_step HB5.out hb6)
  have HU1 := Lib.hid (row_alloc_step (row_step HT1.out hb6) (.cells #[.int .i64 3, .int .i64 0, .float .f64 0, .string { data := #[98] }, .slice none 0 0, .int .i64 2, .int .i64 0, .float .f64 0, .string ⟨#[]⟩, .slice none 0 0] 27))
  have HA6 := Lib.hid (bel_alloc HB6.out (.cells #[.int .i64 3, .int .i64 0, .float .f64 0, .string { data := #[98] }, .slice none 0 0, .int .i64 2, .int .i64 0, .float .f64 0, .string ⟨#[]⟩, .slice none 0 0] 27))
  have HR2 := Lib.hid (row_alloc w6 #[.int .i64 3, .int .i64 0, .float .f64 0, .string { data := #[98] }, .slice none 0 0, .int .i64 2, .int .i64 0, .float .f64 0, .string ⟨#[]⟩, .slice none 0 0] 27)
  have HL1 := Lib.hid (row_lt (row_step HT1.out hb6))
  clear hb6 HB5 HT1
  go_wp2_with fail
  go_at_call 18; refine (list_ref_any _ _ _ _).mono ?_; rintro e w7 ⟨rfl, hb7⟩
  have HB7 := Lib.hid (bel_step HA6.out hb7)
  have HV1 := Lib.hid (row_alloc_step (row_step HU1.out hb7) (.cells #[.int .i64 4, .int .i64 0, .float .f64 0, .string ⟨#[]⟩, .slice (some ⟨w3.heap.size, 0, none⟩) 2 2, .int .i64 4, .int .i64 0, .float .f64 0, .string ⟨#[]⟩, .slice (some ⟨w6.heap.size, 0, none⟩) 2 2] 27))
  have HV2 := Lib.hid (row_alloc_step (row_step HR2.out hb7) (.cells #[.int .i64 4, .int .i64 0, .float .f64 0, .string ⟨#[]⟩, .slice (some ⟨w3.heap.size, 0, none⟩) 2 2, .int .i64 4, .int .i64 0, .float .f64 0, .string ⟨#[]⟩, .slice (some ⟨w6.heap.size, 0, none⟩) 2 2] 27))
  have HA7 := Lib.hid (bel_alloc HB7.out (.cells #[.int .i64 4, .int .i64 0, .float .f64 0, .string ⟨#[]⟩, .slice (some ⟨w3.heap.size, 0, none⟩) 2 2, .int .i64 4, .int .i64 0, .float .f64 0, .string ⟨#[]⟩, .slice (some ⟨w6.heap.size, 0, none⟩) 2 2] 27))
  have HR3 := Lib.hid (row_alloc w7 #[.int .i64 4, .int .i64 0, .float .f64 0, .string ⟨#[]⟩, .slice (some ⟨w3.heap.size, 0, none⟩) 2 2, .int .i64 4, .int .i64 0, .float .f64 0, .string ⟨#[]⟩, .slice (some ⟨w6.heap.size, 0, none⟩) 2 2] 27)
  have HL2 := Lib.hid (row_lt (row_step HR2.out hb7))
  clear hb7 HA6 HU1 HR2
  go_wp2_with fail
  go_at_call 18; refine (list_ref_any _ _ _ _).mono ?_; rintro e w8 ⟨rfl, hb8⟩
  have HS := Lib.hid (show Led2 w w3.heap.size w6.heap.size w7.heap.size w8.heap.size 4607182418800017408 (w8.alloc (.cells #[.int .i64 4, .int .i64 0, .float .f64 0, .string ⟨#[]⟩, .slice (some ⟨w7.heap.size, 0, none⟩) 2 2] 27)) from
    ⟨row_alloc_step (row_step HV1.out hb8) _, row_alloc_step (row_step HV2.out hb8) _, row_alloc_step (row_step HR3.out hb8) _, row_alloc _ _ _, bel_alloc (bel_step HA7.out hb8) _, HB3.out.size, HL1.out, HL2.out, row_lt (row_step HR3.out hb8)⟩)
  clear hb8 HV1 HV2 HA7 HR3 HL1 HL2 HB1 HB3 HB6 HB7
  go_upto_region 4 with fail
  revert HS
  generalize w8.alloc (.cells #[.int .i64 4, .int .i64 0, .float .f64 0, .string ⟨#[]⟩, .slice (some ⟨w7.heap.size, 0, none⟩) 2 2] 27) = W
  generalize w8.heap.size = sb
  generalize w7.heap.size = b3
  generalize w6.heap.size = b2
  generalize w3.heap.size = b1
  intro HS
  go_cut [34] (fun s wx => wx = W ∧ ∃ b : Bool, s = .bool b ∧ (b = true → (FloatKind.f64.format.order h 0 = some .gt ∨ FloatKind.f64.format.order h 0 = some .eq) ∧ FloatKind.f64.format.order h 9094988921128908188 = some .lt))
  case first =>
    cases h1 : (FloatKind.f64.format.order h 0 == some Ordering.gt || FloatKind.f64.format.order h 0 == some Ordering.eq)
    · go_wp2
      go_meet
      exact ⟨rfl, false, rfl, fun e => by cases e⟩
    cases h2 : (FloatKind.f64.format.order h 9094988921128908188 == some Ordering.lt)
    · go_wp2
      go_meet
      exact ⟨rfl, false, rfl, fun e => by cases e⟩
    · go_wp2
      go_meet
      exact ⟨rfl, true, rfl, fun _ => ⟨by rw [Bool.or_eq_true, beq_iff_eq, beq_iff_eq] at h1; exact h1, by rw [beq_iff_eq] at h2; exact h2⟩⟩
  case rest =>
  obtain ⟨rfl, b, rfl, hb⟩ := hcut
  rename World => W
  go_upto_if 34 with fail
  go_cut [] (fun wx => ∃ X : Nat, X < 9218868437227405312 ∧ Led2 w b1 b2 b3 sb X wx)
  case first =>
    cases b
    · go_wp2
      go_meet
      exact ⟨4607182418800017408, by decide, HS.out⟩
    obtain ⟨h1, h2⟩ := hb rfl
    clear hb
    obtain ⟨hX, hop0⟩ := has_ok HH.out h1 h2
    have hop : ∀ t W, (binOp .add t (.float .f64 h) (.float .f64 0)).run Tryz.prog W = .ok (.float .f64 (Flo.cop .add h 0)) W := fun t W => run_float_arith W .add t .f64 _ _ _ hop0
    generalize Flo.cop .add h 0 = X at hX hop
    clear hop0 h1 h2
    go_upto_region 5 with fail
    have HSD := Lib.hid (led2_drew HS.out)
    refine wp_region_held_drew (S := (fun z => z.cell? ⟨sb, 4, none⟩ = some (.slice (some ⟨b3, 0, none⟩) 2 2) ∧ z.cell? ⟨b3, 4, none⟩ = some (.slice (some ⟨b1, 0, none⟩) 2 2))) (by kernel_rfl) ?_ (fun hHeld => ?_)
    · exact led2_s HSD.out
    revert HSD hHeld
    generalize W.drew = Wd
    intro HSD hHeld
    refine zt [0, 1, 2, 3, 4, 5] ?_
    iterate 6 (refine zt1 (fun _ _ d _ _ h => by cases d <;> exact h) (by simp only [lk0, lk1, lk2]; rfl) (by kernel_rfl) (by assumption) (by rfl) (fun wS hSw => by (try dsimp only at hSw); go_simp; (try with_reducible rfl)) ?_; (try simp only [Act.put, pk0, pk1, pk2]))
    refine zt0 ?_
    refine zr1 6 (by kernel_rfl) (by simp only [lk0, lk1, lk2]; rfl) (fun K hK => ?_)
    go_simp
    skip
    skip
    refine hK.out _ _ ?hsr6 (fun hHeld => ?_)
    case hsr6 => exact led2_s HSD.out
    clear hK K
    (try simp only [Act.put, pk0, pk1, pk2])
    refine zr1 7 (by kernel_rfl) (by simp only [lk0, lk1, lk2]; rfl) (fun K hK => ?_)
    go_simp
    go_at_call 20; refine (flo_fin X hX _).mono ?_; rintro e w2 ⟨rfl, hb2⟩; have HS2 := Lib.hid (led2_step HSD.out hb2); clear hb2
    go_wp2_with fail
    refine hK.out _ _ ?hss7 (fun hHeld => ?_)
    case hss7 => exact led2_s HS2.out
    clear hK K
    (try simp only [Act.put, pk0, pk1, pk2])
    refine zt [8] ?_
    refine zt1 (fun _ _ d _ _ h => by cases d <;> exact h) (by simp only [lk0, lk1, lk2]; rfl) (by kernel_rfl) (by assumption) (by rfl) (fun wS hSw => by (try dsimp only at hSw); go_simp; (try with_reducible rfl)) ?_; (try simp only [Act.put, pk0, pk1, pk2])
    refine zt0 ?_
    have HS3 := Lib.hid (led2_set (Y := X) HS2.out)
    refine zr1 9 (by kernel_rfl) (by simp only [lk0, lk1, lk2]; rfl) (fun K hK => ?_)
    have bb5 := row_cell HS2.out.1 5; have bb6 := row_cell HS2.out.1 6; have bb7 := row_cell HS2.out.1 7; have bb8 := row_cell HS2.out.1 8; have bb9 := row_cell HS2.out.1 9; have bbf := row_frz HS2.out.1; have bbl := row_lt HS2.out.1; go_simp
    clear bb5 bb6 bb7 bb8 bb9 bbf bbl
    skip
    refine hK.out _ _ ?hsu9 (fun hHeld => ?_)
    case hsu9 => exact led2_s HS3.out
    clear hK K
    (try simp only [Act.put, pk0, pk1, pk2])
    refine wpAnyH_done (by kernel_rfl) ?_ _
    go_wp2_with fail
    go_meet
    exact ⟨X, hX, HS3.out⟩
  case rest =>
  obtain ⟨X, hX, hled⟩ := hcut
  rename World => W2
  have HL := Lib.hid hled
  have HXB := Lib.hid hX
  obtain ⟨G, hG⟩ : ∃ G, Flo.canon f = G := ⟨_, rfl⟩
  have hgc : Flo.canon G = G := by rw [← hG]; exact Flo.canon_canon f
  have hgl : G < 2 ^ 64 := by rw [← hG]; exact Flo.canon_lt HF.out
  have HGG := Lib.hid (show Flo.canon G = G ∧ G < 2 ^ 64 from ⟨hgc, hgl⟩)
  have hfr := fun W => float_ref_any f W
  simp only [hG] at hfr
  have HFR := Lib.hid hfr
  clear hled hX hG hgc hgl hfr HF HS HH
  go_wp2_with fail
  go_at_call 20; refine (HFR.out _).mono ?_; rintro e w3 ⟨rfl, hb3⟩
  have HL3 := Lib.hid (led2_step HL.out hb3)
  clear hb3 HL
  go_wp2_with fail
  go_at_call 21; refine (int_ref_any _ _).mono ?_; rintro e w4 ⟨rfl, hb4⟩
  have HS := Lib.hid (show (fun z0 : World => Led2 w b1 b2 b3 sb X z0 ∧ z0.heap[w4.heap.size]? = some (.cells #[.int .i64 2, .int .i64 0, .float .f64 G, .string ⟨#[]⟩, .slice none 0 0, .int .i64 1, .int .i64 n, .float .f64 0, .string ⟨#[]⟩, .slice none 0 0] 27 (0, 0))) (w4.alloc (.cells #[.int .i64 2, .int .i64 0, .float .f64 G, .string ⟨#[]⟩, .slice none 0 0, .int .i64 1, .int .i64 n, .float .f64 0, .string ⟨#[]⟩, .slice none 0 0] 27)) from ⟨led2_step (led2_step HL3.out hb4) (bel_alloc (Below.refl _ _) _), row_alloc _ _ _⟩)
  clear hb4 HL3 HFR
  go_wp2
  revert HS
  generalize w4.alloc (.cells #[.int .i64 2, .int .i64 0, .float .f64 G, .string ⟨#[]⟩, .slice none 0 0, .int .i64 1, .int .i64 n, .float .f64 0, .string ⟨#[]⟩, .slice none 0 0] 27) = W5
  generalize w4.heap.size = vl
  intro HS
  go_loopw [50] (fun iv wr => ∃ i : Nat, i ≤ 2 ∧ iv = .int .i64 i ∧ Led2 w b1 b2 b3 sb X wr ∧ wr.heap[vl]? = some (.cells #[.int .i64 2, .int .i64 0, .float .f64 G, .string ⟨#[]⟩, .slice none 0 0, .int .i64 1, .int .i64 n, .float .f64 0, .string ⟨#[]⟩, .slice none 0 0] 27 (0, 0))) (fun iv _ => 2 - (intOf iv).toNat)
  case atStart => exact ⟨0, by omega, rfl, HS.out⟩
  case round =>
    obtain ⟨i, hi2, rfl, hled, hrow⟩ := hrel
    have HLD := Lib.hid hled
    have HRW := Lib.hid hrow
    clear HS
    by_cases hlt : i < 2
    · obtain ⟨Kz, Iz, Fz, ⟨c0, c1, c2, c3, c4⟩, hnum, hok, hcln⟩ : ∃ (Kz Iz : Int) (Fz : Nat), (wr.cell? ⟨vl, i * 5, none⟩ = some (.int .i64 Kz) ∧ wr.cell? ⟨vl, i * 5 + 1, none⟩ = some (.int .i64 Iz) ∧ wr.cell? ⟨vl, i * 5 + 2, none⟩ = some (.float .f64 Fz) ∧ wr.cell? ⟨vl, i * 5 + 3, none⟩ = some (.string ⟨#[]⟩) ∧ wr.cell? ⟨vl, i * 5 + 4, none⟩ = some (.slice none 0 0)) ∧ isNum Kz = true ∧ (okI Kz ∧ okI Iz ∧ Fz < 2 ^ 64) ∧ cleanT 1 ((Kz, Iz, Fz, ⟨#[]⟩, []) : VT 1) = (Kz, Iz, Fz, ⟨#[]⟩, []) := by
        have h01 : i = 0 ∨ i = 1 := by omega
        rcases h01 with rfl | rfl
        · exact ⟨2, 0, G, ⟨row_cell hrow 0, row_cell hrow 1, row_cell hrow 2, row_cell hrow 3, row_cell hrow 4⟩, rfl, ⟨by decide, by decide, HGG.out.2⟩, by show ((2, 0, Flo.canon G, ⟨#[]⟩, []) : VT 1) = _; rw [HGG.out.1]⟩
        · exact ⟨1, n, 0, ⟨row_cell hrow 5, row_cell hrow 6, row_cell hrow 7, row_cell hrow 8, row_cell hrow 9⟩, rfl, ⟨by decide, HN.out, by decide⟩, rfl⟩
      have HNUM := Lib.hid hnum
      have HOKZ := Lib.hid hok
      have HCLN := Lib.hid hcln
      have hi0 : (0 : Int) ≤ (i : Int) := by omega
      have hi1 : (i : Int) < 2 := by omega
      have hvl := row_lt hrow
      have hvn : wr.heap.size ≠ vl := by omega
      clear hled hrow hnum hok hcln
      go_upto_region 9 with fail
      have HA := Lib.hid (show Led2 w b1 b2 b3 sb X (wr.alloc (.cells #[.int .i64 Kz, .int .i64 Iz, .float .f64 Fz, .string ⟨#[]⟩, .slice none 0 0] 27)) ∧ (wr.alloc (.cells #[.int .i64 Kz, .int .i64 Iz, .float .f64 Fz, .string ⟨#[]⟩, .slice none 0 0] 27)).heap[vl]? = some (.cells #[.int .i64 2, .int .i64 0, .float .f64 G, .string ⟨#[]⟩, .slice none 0 0, .int .i64 1, .int .i64 n, .float .f64 0, .string ⟨#[]⟩, .slice none 0 0] 27 (0, 0)) ∧ FBC w sb (some ⟨b3, 0, none⟩) 2 2 wr.heap.size (.int .i64 Kz) (.int .i64 Iz) (.float .f64 Fz) (.string ⟨#[]⟩) (.slice none 0 0) (wr.alloc (.cells #[.int .i64 Kz, .int .i64 Iz, .float .f64 Fz, .string ⟨#[]⟩, .slice none 0 0] 27)) from
        ⟨led2_step HLD.out (bel_alloc (Below.refl _ _) _), row_alloc_step HRW.out _, ⟨cs_step (cs_row HLD.out.2.2.2.1) (bel_alloc (Below.refl _ _) _), (led2_step HLD.out (bel_alloc (Below.refl _ _) _)).2.2.2.2.1, cs_new rfl⟩⟩)
      clear c0 c1 c2 c3 c4 hvl hvn HLD HRW
      revert HA
      generalize wr.alloc (.cells #[.int .i64 Kz, .int .i64 Iz, .float .f64 Fz, .string ⟨#[]⟩, .slice none 0 0] 27) = wA
      generalize wr.heap.size = vb
      intro HA
      have HFB := Lib.hid HA.out.2.2
      have HST := Lib.hid (led2_rep (by have := HXB.out; omega) HA.out.1)
      obtain ⟨z, TT, UU, htra⟩ : ∃ z TT UU, traV [(⟨#[97]⟩, X), (⟨#[98]⟩, 0)] 0 1 ⟨#[97]⟩ ⟨#[98]⟩ X 0 Kz Iz Fz = (z, TT, UU) := ⟨_, _, _, rfl⟩
      have HTRA := Lib.hid htra
      clear htra
      have HD9 := Lib.hid (show ∀ (W : World) (g : Nat), Rep W 3 (.agg #[.int .i64 4, .int .i64 0, .float .f64 0, .string ⟨#[]⟩, .slice (some ⟨b3, 0, none⟩) 2 2]) (tableT 0 (ledA [(⟨#[97]⟩, X), (⟨#[98]⟩, 0)])) → LA g [nameV 0 ⟨#[97]⟩, nameV 0 ⟨#[98]⟩, (Kz, Iz, Fz, ⟨#[]⟩, [])] W → Calls Tryz.prog 12 #[.agg #[.int .i64 4, .int .i64 0, .float .f64 0, .string ⟨#[]⟩, .slice (some ⟨b3, 0, none⟩) 2 2], .string { data := #[116, 114, 97, 110, 115, 102, 101, 114] }, .slice (some ⟨g, 0, none⟩) 3 3] W fun e w' => DoQ W 3 1 TT UU z e w' from fun W g hs hr => by
        have h := ldo_transfer (okA_two HXB.out) hs hr nm_a nm_b HNUM.out 0 1 (Nat.le_of_ble_eq_true rfl) rfl (Nat.le_of_ble_eq_true rfl) rfl
        rw [HTRA.out] at h
        exact h)
      have HD10 := Lib.hid (show ∀ (W : World) (g : Nat), Rep W 3 (.agg #[.int .i64 4, .int .i64 0, .float .f64 0, .string ⟨#[]⟩, .slice (some ⟨b3, 0, none⟩) 2 2]) (tableT 0 (ledA [(⟨#[97]⟩, X), (⟨#[98]⟩, 0)])) → LA g [nameV 0 ⟨#[97]⟩, nameV 0 ⟨#[98]⟩, (Kz, Iz, Fz, ⟨#[]⟩, [])] W → Calls Tryz.prog 13 #[.string { data := #[108, 101, 100, 103, 101, 114] }, .agg #[.int .i64 4, .int .i64 0, .float .f64 0, .string ⟨#[]⟩, .slice (some ⟨b3, 0, none⟩) 2 2], .string { data := #[116, 114, 97, 110, 115, 102, 101, 114] }, .slice (some ⟨g, 0, none⟩) 3 3] W fun e w' => RDo W TT UU z e w' from fun W g hs hr => by
        have h := rdo_transfer (okA_two HXB.out) hs hr nm_a nm_b HNUM.out HCLN.out 0 1 (Nat.le_of_ble_eq_true rfl) rfl (Nat.le_of_ble_eq_true rfl) rfl
        rw [HTRA.out] at h
        exact h)
      have hsbr : sb < wA.heap.size := cs_lt HFB.out.1
      have hvbr : vb < wA.heap.size := cs_lt HFB.out.2.2
      have hwr : w.heap.size ≤ wA.heap.size := HFB.out.2.1.size
      refine amt9_any w wA sb (some ⟨b3, 0, none⟩) 2 2 vb Kz Iz Fz [(⟨#[97]⟩, X), (⟨#[98]⟩, 0)] TT UU z _ _ _ _ _ _ _ _ _ _ _ _ _ _ _ _ _ _ _ _ _ _ _ _ _ _ _ _ _ _ _ _ _ _ _ _ _ _ _ _ _ _ _ _ _ _ _ _ _ _ _ _ _ _ _ _ _ _ _ _ _ _ _ _ _ _ _ _ _ _ _ _ _ _ _ _ _ _ _ _ _ _ _ _ _ _ _ _ _ _ _ _ _ _ _ _ _ _ _ _ _ _ _ _ _ _ _ _ _ _ _ (fun _ _ d _ _ h => by cases d <;> exact h) hsbr hvbr hwr HOKZ HFB HST HD9 ?_
      intro gA gB gE Kt It Ft Zt qt mt dt Kv Iv Fv Zv qv mv dv w9 hcut
      obtain ⟨hca, hcb, hfb, hbel, hrt, hrv, hgA, hgB⟩ := hcut
      have HCA := Lib.hid hca
      have HCB := Lib.hid hcb
      have HFB9 := Lib.hid hfb
      have HST9 := Lib.hid (rep_keep hbel _ _ _ HST.out)
      have HRT := Lib.hid hrt
      have HRV := Lib.hid hrv
      have HA9 := Lib.hid (show Led2 w b1 b2 b3 sb X w9 ∧ w9.heap[vl]? = some (.cells #[.int .i64 2, .int .i64 0, .float .f64 G, .string ⟨#[]⟩, .slice none 0 0, .int .i64 1, .int .i64 n, .float .f64 0, .string ⟨#[]⟩, .slice none 0 0] 27 (0, 0)) from ⟨led2_step HA.out.1 hbel, row_step HA.out.2.1 hbel⟩)
      have hsbr : sb < w9.heap.size := cs_lt hfb.1
      have hvbr : vb < w9.heap.size := cs_lt hfb.2.2
      have hwr : w.heap.size ≤ w9.heap.size := hfb.2.1.size
      clear hca hcb hfb hbel hrt hrv hgA hgB HD9 HFB HST HA
      go_upto_region 10 with fail
      refine amt10_any w w9 sb (some ⟨b3, 0, none⟩) 2 2 vb Kz Iz Fz [(⟨#[97]⟩, X), (⟨#[98]⟩, 0)] TT UU z _ _ _ _ _ _ _ _ _ _ _ _ _ _ _ _ _ _ _ _ _ _ _ _ _ _ _ _ _ _ _ _ _ _ _ _ _ _ _ _ _ _ _ _ _ _ _ _ _ _ _ _ _ _ _ _ _ _ _ _ _ _ _ _ _ _ _ _ _ _ _ _ _ _ _ _ _ _ _ _ _ _ _ _ _ _ _ _ _ _ _ _ _ _ _ _ _ _ _ _ _ _ _ _ _ _ _ _ _ _ _ (fun _ _ d _ _ h => by cases d <;> exact h) hsbr hvbr hwr HOKZ HFB9 HST9 HD10 ?_
      intro gA2 gB2 gE2 Kt2 It2 Ft2 Zt2 qt2 mt2 dt2 Kv2 Iv2 Fv2 Zv2 qv2 mv2 dv2 w10 hcut
      obtain ⟨hca2, hcb2, hfb2, hbel, hrt2, hrv2, hgA2, hgB2⟩ := hcut
      have hca := cs_step HCA.out hbel
      have hcb := cs_step HCB.out hbel
      have HSA := Lib.hid (same_any 3 _ _ TT w10 (rep_keep hbel _ _ _ (repS_rep _ _ _ HRT.out)) (repK_rep hrt2))
      have HSV := Lib.hid (And.intro (rep_keep hbel _ _ _ (repS_rep _ _ _ HRV.out)) (repK_rep hrv2))
      have HA10 := Lib.hid (show Led2 w b1 b2 b3 sb X w10 ∧ w10.heap[vl]? = some (.cells #[.int .i64 2, .int .i64 0, .float .f64 G, .string ⟨#[]⟩, .slice none 0 0, .int .i64 1, .int .i64 n, .float .f64 0, .string ⟨#[]⟩, .slice none 0 0] 27 (0, 0)) from ⟨led2_step HA9.out.1 hbel, row_step HA9.out.2 hbel⟩)
      have HCB10 := Lib.hid hcb
      have HCV10 := Lib.hid hcb2
      have HVB10 := Lib.hid hfb2.2.2
      obtain ⟨t0, t1, t2, t3, t4⟩ := hca
      obtain ⟨u0, u1, u2, u3, u4⟩ := hca2
      clear hcb hcb2 hfb2 hbel hrt2 hrv2 hgA2 hgB2 HCA HCB HFB9 HST9 HRT HA9 HD10 hsbr hvbr hwr
      go_wp2_with fail
      go_at_call 14; refine (HSA.out).mono ?_; rintro e w11 ⟨rfl, hb11⟩
      have HA11 := Lib.hid (show Led2 w b1 b2 b3 sb X w11 ∧ w11.heap[vl]? = some (.cells #[.int .i64 2, .int .i64 0, .float .f64 G, .string ⟨#[]⟩, .slice none 0 0, .int .i64 1, .int .i64 n, .float .f64 0, .string ⟨#[]⟩, .slice none 0 0] 27 (0, 0)) from ⟨led2_step HA10.out.1 hb11, row_step HA10.out.2 hb11⟩)
      have HSB := Lib.hid (same_any 1 _ _ UU w11 (rep_keep hb11 _ _ _ HSV.out.1) (rep_keep hb11 _ _ _ HSV.out.2))
      have hcb := cs_step HCB10.out hb11
      have hcv := cs_step HCV10.out hb11
      have HCB11 := Lib.hid hcb
      have HVB11 := Lib.hid (cs_step HVB10.out hb11)
      obtain ⟨v0, v1, v2, v3, v4⟩ := hcb
      obtain ⟨x0, x1, x2, x3, x4⟩ := hcv
      clear hb11 t0 t1 t2 t3 t4 u0 u1 u2 u3 u4 HA10 HCB10 HCV10 HVB10 HSA
      go_wp2_with fail
      go_at_call 14; refine (HSB.out).mono ?_; rintro e w12 ⟨rfl, hb12⟩
      have HA12 := Lib.hid (show Led2 w b1 b2 b3 sb X w12 ∧ w12.heap[vl]? = some (.cells #[.int .i64 2, .int .i64 0, .float .f64 G, .string ⟨#[]⟩, .slice none 0 0, .int .i64 1, .int .i64 n, .float .f64 0, .string ⟨#[]⟩, .slice none 0 0] 27 (0, 0)) from ⟨led2_step HA11.out.1 hb12, row_step HA11.out.2 hb12⟩)
      have HCB12 := Lib.hid (cs_step HCB11.out hb12)
      have hvb := cs_step HVB11.out hb12
      obtain ⟨y0, y1, y2, y3, y4⟩ := hvb
      clear hb12 v0 v1 v2 v3 v4 x0 x1 x2 x3 x4 HA11 HCB11 HVB11 HSB
      go_wp2_with fail
      go_at_call 22; refine (asFlo_any _ _ _ _ _ _ _ _).mono ?_; rintro e w13 ⟨rfl, hb13⟩
      have HA13 := Lib.hid (show Led2 w b1 b2 b3 sb X w13 ∧ w13.heap[vl]? = some (.cells #[.int .i64 2, .int .i64 0, .float .f64 G, .string ⟨#[]⟩, .slice none 0 0, .int .i64 1, .int .i64 n, .float .f64 0, .string ⟨#[]⟩, .slice none 0 0] 27 (0, 0)) from ⟨led2_step HA12.out.1 hb13, row_step HA12.out.2 hb13⟩)
      have hcb := cs_step HCB12.out hb13
      obtain ⟨v0, v1, v2, v3, v4⟩ := hcb
      clear hb13 y0 y1 y2 y3 y4 HA12 HCB12
      have htr := tra2 HXB.out HNUM.out HOKZ.out.2.1 HOKZ.out.2.2
      have hxl : asF Kz Iz Fz < 2 ^ 64 := asF_lt Kz Iz Fz HOKZ.out.2.2
      rw [HTRA.out] at htr
      clear HTRA HCLN HNUM HOKZ HSV
      generalize asF Kz Iz Fz = x at htr hxl ⊢
      rcases htr with ⟨hna, hz⟩ | ⟨⟨ha1, ha2⟩, hz⟩
      · obtain rfl : z = 35 := hz
        by_cases ho : FloatKind.f64.format.order x 0 = some .gt
        · have hx : x = 9218868437227405312 := by
            have h1 := (order_zero hxl).1 ho
            have h2 : ¬ x < 9218868437227405312 := fun h => hna ⟨ho, h⟩
            omega
          subst hx
          have hop : ∀ t W, (binOp .sub t (.float .f64 9218868437227405312) (.float .f64 9218868437227405312)).run Tryz.prog W = .ok (.float .f64 (Flo.drawn 9218868437227405312 9218868437227405312 (W.tape W.drawn (.nanBits .f64 9218868437227405312 9218868437227405312)))) W.drew := fun t W => Flo.run_none W .sub t _ _ (by simp) (by decide +kernel)
          have hgt : (FloatKind.f64.format.order 9218868437227405312 0 == some Ordering.gt) = true := by rw [ho]; rfl
          have hq : ∀ t, (FloatKind.f64.format.order (Flo.drawn 9218868437227405312 9218868437227405312 t) 0 == some Ordering.eq) = false := fun t => Flo.feq_nan (Flo.read_drawn _ _ t) 0
          clear hna ho hxl
          go_wp2
          go_roundw
          case rel => exact ⟨i + 1, by omega, by go_num, led2_drew HA13.out.1, HA13.out.2⟩
          case measure => simp [intOf]; omega
        · have hgt : (FloatKind.f64.format.order x 0 == some Ordering.gt) = false := by rw [beq_eq_false_iff_ne]; exact ho
          clear hna ho hxl
          go_wp2
          go_roundw
          case rel => exact ⟨i + 1, by omega, by go_num, HA13.out.1, HA13.out.2⟩
          case measure => simp [intOf]; omega
      · have hgt : (FloatKind.f64.format.order x 0 == some Ordering.gt) = true := by rw [ha1]; rfl
        have hop : ∀ t W, (binOp .sub t (.float .f64 x) (.float .f64 x)).run Tryz.prog W = .ok (.float .f64 0) W := fun t W => run_float_arith W .sub t .f64 _ _ _ (sub_self0 ha2)
        have hze : (FloatKind.f64.format.order 0 0 == some Ordering.eq) = true := by decide +kernel
        rcases hz with hz | ⟨hz, GG, hgg, hUU⟩
        · obtain rfl : z = 36 := hz
          clear ha1 ha2 hxl
          go_wp2
          go_roundw
          case rel => exact ⟨i + 1, by omega, by go_num, HA13.out.1, HA13.out.2⟩
          case measure => simp [intOf]; omega
        · obtain rfl : z = 0 := hz
          have hUU' : UU = floT 0 GG := hUU
          subst hUU'
          obtain ⟨rfl, rfl, rfl, rfl, rfl⟩ := flo_box HRV.out
          have hge : (FloatKind.f64.format.order Fv 0 == some Ordering.gt || FloatKind.f64.format.order Fv 0 == some Ordering.eq) = true := by
            rcases order_pos hgg with h | h <;> rw [h] <;> rfl
          clear ha1 ha2 hxl hgg hUU
          go_wp2
          go_roundw
          case rel => exact ⟨i + 1, by omega, by go_num, HA13.out.1, HA13.out.2⟩
          case measure => simp [intOf]; omega
    · obtain rfl : i = 2 := by omega
      clear hled hrow
      go_wp2
      go_ret
      exact ⟨rfl, HLD.out.2.2.2.2.1⟩
end Num
end Go.Proofs.YtpbfaffheigjcaaGreat
/-
  LedgerAmounts: whatever comes in.
-/
namespace Go.Proofs.YtpbfaffheigjcaaGreat
open Go.RowKit
namespace Num
open Ints
set_option linter.unusedSimpArgs false
set_option linter.unusedVariables false
theorem amounts_law (f : Nat) (hf : f < 18446744073709551616) (n : Int) (wn : (Lit.int .i64 n).wf = true) (h : Nat) (hh : h < 18446744073709551616) (w : World) :
    Calls Tryz.prog 5 #[.float .f64 f, .int .i64 n, .float .f64 h] w fun e w' => e = .returned (.bool true) ∧ Below w.heap.size w w' := by
  have h1 : IntKind.i64.bits = 64 := rfl
  have hn : okI n := by
    simp [Lit.wf, IntKind.min, IntKind.max, IntKind.signed, h1] at wn
    unfold okI
    omega
  exact amounts_in f n h w hf hn hh
end Num
end Go.Proofs.YtpbfaffheigjcaaGreat
