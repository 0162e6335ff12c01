/-
  LedgerAmounts: the program's Do (region 9).
-/
import Derived.Test.YtpbfaffheigjcaaGreatJMI
import Derived.Test.YtpbfaffheigjcaaGreatJYL
import Derived.Test.YtpbfaffheigjcaaGreatJp24LM2
import Derived.Test.YtpbfaffheigjcaaGreatJLMr
import Derived.Deep.RegionHeld3
import Derived.RegionTactic
import Derived.Deep.DeepCutAuto
namespace Go.Proofs.YtpbfaffheigjcaaGreat
open Go.RowKit
namespace Num
open Ints
set_option linter.unusedSimpArgs false
set_option linter.unusedVariables false
/-- Readable wherever the blocks but these are as they were. -/
def RepK (g : Nat → Prop) (z : World) (n : Nat) (v : Value) (T : VT n) : Prop := ∀ y : World, (∀ b, ¬ g b → b < z.heap.size → y.heap[b]? = z.heap[b]?) → Rep y n v T
theorem repK_step {g : Nat → Prop} {z z' : World} {n : Nat} {v : Value} {T : VT n} (hb : Below z.heap.size z z') (h : RepK g z n v T) : RepK g z' n v T := fun y hy => h y (fun b hg hlt => (hy b hg (Nat.lt_of_lt_of_le hlt hb.size)).trans (hb.block b hlt))
theorem repK_set {g : Nat → Prop} {z : World} {n k : Nat} {v : Value} {T : VT n} {u0 u1 u2 u3 u4 : Value} (h : RepK g z n v T) (hk : g k) : RepK g (set5 z k 0 u0 u1 u2 u3 u4) n v T := fun y hy => h y (fun b hb hlt => (hy b hb (by rw [set5_size]; exact hlt)).trans (set5_other (fun e => hb (e ▸ hk))))
theorem repK_to {g g' : Nat → Prop} {z : World} {n : Nat} {v : Value} {T : VT n} (h : RepK g z n v T) (hg : ∀ b, b < z.heap.size → g' b → g b) : RepK g' z n v T := fun y hy => h y (fun b hb hlt => hy b (fun hb' => hb (hg b hlt hb')) hlt)
theorem repK_rep {g : Nat → Prop} {z : World} {n : Nat} {v : Value} {T : VT n} (h : RepK g z n v T) : Rep z n v T := h z (fun _ _ _ => rfl)
theorem repK_of {g : Nat → Prop} {W z : World} {n : Nat} {v : Value} {T : VT n} (h : ∀ y, Stay W.heap.size z y → Rep y n v T) (hg : ∀ b, g b → b < W.heap.size) : RepK g z n v T := fun y hy => h y (fun b h1 h2 => hy b (fun hb => absurd (hg b hb) (by omega)) h2)
theorem fbc_cells {w : World} {sb : Nat} {qs : Option Addr} {ms ds vb : Nat} {v0 v1 v2 v3 v4 : Value} {z : World} (h : FBC w sb qs ms ds vb v0 v1 v2 v3 v4 z) : z.cell? ⟨sb, 0, none⟩ = some (.int .i64 4) ∧ z.cell? ⟨sb, 1, none⟩ = some (.int .i64 0) ∧ z.cell? ⟨sb, 2, none⟩ = some (.float .f64 0) ∧ z.cell? ⟨sb, 3, none⟩ = some (.string ⟨#[]⟩) ∧ z.cell? ⟨sb, 4, none⟩ = some (.slice qs ms ds) ∧ z.cell? ⟨vb, 0, none⟩ = some v0 ∧ z.cell? ⟨vb, 1, none⟩ = some v1 ∧ z.cell? ⟨vb, 2, none⟩ = some v2 ∧ z.cell? ⟨vb, 3, none⟩ = some v3 ∧ z.cell? ⟨vb, 4, none⟩ = some v4 := ⟨h.1.1, h.1.2.1, h.1.2.2.1, h.1.2.2.2.1, h.1.2.2.2.2, h.2.2.1, h.2.2.2.1, h.2.2.2.2.1, h.2.2.2.2.2.1, h.2.2.2.2.2.2⟩
set_option maxRecDepth 1000000 in
set_option maxHeartbeats 4000000 in
theorem amt9_any (w wr : World) (sb : Nat) (qs : Option Addr) (ms ds vb : Nat) (Kz Iz : Int) (Fz : Nat) (AS : List (ByteArray × Nat)) (TT : VT 3) (UU : VT 1) (z : Int) (c0 c1 c2 c3 c4 c5 c6 c8 c10 c11 c12 c13 c14 c15 c16 c17 c18 c19 c20 c21 c22 c23 c24 c25 c26 c27 c28 c29 c30 c31 c32 c33 c34 c35 c36 c37 c38 c39 c40 c41 c42 c43 c44 c45 c46 c47 c48 c49 c50 c51 c52 c53 c54 c55 c56 c57 c58 c59 c60 c61 c62 c63 c64 c65 c66 c67 c68 c69 c70 c71 c72 c73 c74 c75 c76 c77 c78 c79 c80 c81 c82 c83 c84 c85 c86 c87 c88 c89 c90 c91 c92 c93 c94 c95 c96 c97 c98 c99 c100 c101 c102 c103 c104 c105 c106 c107 c108 c109 c110 c111 : Value) (Q : Exit → Act → World → Prop) (hP : ∀ p a (d : Option Tmp) v w, Q (.panic p) (Act.put a d v) w → Q (.panic p) a w) (hsbr : sb < wr.heap.size) (hvbr : vb < wr.heap.size) (hwr : w.heap.size ≤ wr.heap.size) (HOK : Hid (okI Kz ∧ okI Iz ∧ Fz < 2 ^ 64)) (HFB : Hid (FBC w sb qs ms ds vb (.int .i64 Kz) (.int .i64 Iz) (.float .f64 Fz) (.string ⟨#[]⟩) (.slice none 0 0) wr)) (HSTr : Hid (Rep wr 3 (.agg #[.int .i64 4, .int .i64 0, .float .f64 0, .string ⟨#[]⟩, .slice qs ms ds]) (tableT 0 (ledA AS)))) (HDO : Hid (∀ (W : World) (g : Nat), Rep W 3 (.agg #[.int .i64 4, .int .i64 0, .float .f64 0, .string ⟨#[]⟩, .slice qs ms ds]) (tableT 0 (ledA AS)) → LA g [nameV 0 ⟨#[97]⟩, nameV 0 ⟨#[98]⟩, (Kz, Iz, Fz, ⟨#[]⟩, [])] W → Calls Tryz.prog 12 #[.agg #[.int .i64 4, .int .i64 0, .float .f64 0, .string ⟨#[]⟩, .slice qs ms ds], .string { data := #[116, 114, 97, 110, 115, 102, 101, 114] }, .slice (some ⟨g, 0, none⟩) 3 3] W fun e w' => DoQ W 3 1 (TT) (UU) z e w'))
    (hQ : ∀ (gA gB gE : Nat) (Kt It : Int) (Ft : Nat) (Zt : ByteArray) (qt : Option Addr) (mt dt : Nat) (Kv Iv : Int) (Fv : Nat) (Zv : ByteArray) (qv : Option Addr) (mv dv : Nat) (wx : World), CS wx gA (.int .i64 Kt) (.int .i64 It) (.float .f64 Ft) (.string Zt) (.slice qt mt dt) ∧ CS wx gB (.int .i64 Kv) (.int .i64 Iv) (.float .f64 Fv) (.string Zv) (.slice qv mv dv) ∧ FBC w sb qs ms ds vb (.int .i64 Kz) (.int .i64 Iz) (.float .f64 Fz) (.string ⟨#[]⟩) (.slice none 0 0) wx ∧ Below wr.heap.size wr wx ∧ RepS (fun b => wr.heap.size ≤ b ∧ b ≠ gA ∧ b ≠ gB) wx 3 (.agg #[.int .i64 Kt, .int .i64 It, .float .f64 Ft, .string Zt, .slice qt mt dt]) (TT) ∧ RepS (fun b => wr.heap.size ≤ b ∧ b ≠ gA ∧ b ≠ gB) wx 1 (.agg #[.int .i64 Kv, .int .i64 Iv, .float .f64 Fv, .string Zv, .slice qv mv dv]) (UU) ∧ wr.heap.size ≤ gA ∧ wr.heap.size ≤ gB → Q .normal { tmps := #[c0, c1, c2, c3, c4, c5, c6, (.pointer (some ⟨sb, 0, none⟩)), c8, (.pointer (some ⟨vb, 0, none⟩)), (.pointer (some ⟨gA, 0, none⟩)), (.pointer (some ⟨gB, 0, none⟩)), (.int .i64 z), c13, c14, c15, c16, c17, c18, c19, c20, c21, c22, c23, c24, c25, c26, c27, c28, c29, c30, c31, c32, c33, c34, c35, c36, c37, c38, c39, c40, c41, c42, c43, c44, c45, c46, c47, c48, c49, c50, c51, c52, c53, (.tuple #[.agg #[.int .i64 Kt, .int .i64 It, .float .f64 Ft, .string Zt, .slice qt mt dt], .agg #[.int .i64 Kv, .int .i64 Iv, .float .f64 Fv, .string Zv, .slice qv mv dv], .int .i64 z]), (.agg #[.int .i64 4, .int .i64 0, .float .f64 0, .string ⟨#[]⟩, .slice qs ms ds]), (.agg #[.int .i64 3, .int .i64 0, .float .f64 0, .string ⟨#[97]⟩, .slice none 0 0]), (.agg #[.int .i64 3, .int .i64 0, .float .f64 0, .string ⟨#[98]⟩, .slice none 0 0]), (.agg #[.int .i64 Kz, .int .i64 Iz, .float .f64 Fz, .string ⟨#[]⟩, .slice none 0 0]), (.slice (some ⟨gE, 0, none⟩) 3 3), (.tuple #[.agg #[.int .i64 Kt, .int .i64 It, .float .f64 Ft, .string Zt, .slice qt mt dt], .agg #[.int .i64 Kv, .int .i64 Iv, .float .f64 Fv, .string Zv, .slice qv mv dv], .int .i64 z]), (.agg #[.int .i64 Kt, .int .i64 It, .float .f64 Ft, .string Zt, .slice qt mt dt]), (.agg #[.int .i64 Kv, .int .i64 Iv, .float .f64 Fv, .string Zv, .slice qv mv dv]), (.int .i64 z), c64, c65, c66, c67, c68, c69, c70, c71, c72, c73, c74, c75, c76, c77, c78, c79, c80, c81, c82, c83, c84, c85, c86, c87, c88, c89, c90, c91, c92, c93, c94, c95, c96, c97, c98, c99, c100, c101, c102, c103, c104, c105, c106, c107, c108, c109, c110, c111], defers := [] } wx) :
    Code.wp Tryz.prog ((Tryz.f5.body.bind (regionBy 9)).getD .skip) Q { tmps := #[c0, c1, c2, c3, c4, c5, c6, (.pointer (some ⟨sb, 0, none⟩)), c8, (.pointer (some ⟨vb, 0, none⟩)), c10, c11, c12, c13, c14, c15, c16, c17, c18, c19, c20, c21, c22, c23, c24, c25, c26, c27, c28, c29, c30, c31, c32, c33, c34, c35, c36, c37, c38, c39, c40, c41, c42, c43, c44, c45, c46, c47, c48, c49, c50, c51, c52, c53, c54, c55, c56, c57, c58, c59, c60, c61, c62, c63, c64, c65, c66, c67, c68, c69, c70, c71, c72, c73, c74, c75, c76, c77, c78, c79, c80, c81, c82, c83, c84, c85, c86, c87, c88, c89, c90, c91, c92, c93, c94, c95, c96, c97, c98, c99, c100, c101, c102, c103, c104, c105, c106, c107, c108, c109, c110, c111], defers := [] } wr := by
  conv => arg 2; whnf
  refine wp_region_held_drew (S := (fun z => z.cell? ⟨sb, 0, none⟩ = some (.int .i64 4) ∧ z.cell? ⟨sb, 1, none⟩ = some (.int .i64 0) ∧ z.cell? ⟨sb, 2, none⟩ = some (.float .f64 0) ∧ z.cell? ⟨sb, 3, none⟩ = some (.string ⟨#[]⟩) ∧ z.cell? ⟨sb, 4, none⟩ = some (.slice qs ms ds) ∧ z.cell? ⟨vb, 0, none⟩ = some (.int .i64 Kz) ∧ z.cell? ⟨vb, 1, none⟩ = some (.int .i64 Iz) ∧ z.cell? ⟨vb, 2, none⟩ = some (.float .f64 Fz) ∧ z.cell? ⟨vb, 3, none⟩ = some (.string ⟨#[]⟩) ∧ z.cell? ⟨vb, 4, none⟩ = some (.slice none 0 0))) (by kernel_rfl) ?_ (fun hHeld => ?_)
  · exact fbc_cells (fbc_drew HFB.out)
  have HDW := Lib.hid (show FBC w sb qs ms ds vb (.int .i64 Kz) (.int .i64 Iz) (.float .f64 Fz) (.string ⟨#[]⟩) (.slice none 0 0) wr.drew ∧ Below wr.heap.size wr wr.drew from ⟨fbc_drew HFB.out, Below.drew (Below.refl _ _)⟩)
  have hdz : wr.drew.heap.size = wr.heap.size := rfl
  revert HDW hHeld hdz
  generalize wr.drew = Wd
  intro hHeld HDW hdz
  have hq := HDW.out.1
  have hbd := HDW.out.2
  refine zt [0, 3] ?_
  iterate 2 (refine zt1 hP (by simp only [lk0, lk1, lk2]; rfl) (by kernel_rfl) (by assumption) (by rfl) (fun wS hSw => by (try dsimp only at hSw); go_simp; (try with_reducible rfl)) ?_; (try simp only [Act.put, pk0, pk1, pk2]))
  refine zt0 ?_
  refine any_have 3 [10, 11, 1, 2, 4, 5, 6, 7, 8, 9] (fun a a' w' => ∃ (gA gB gE : Nat), ∃ (Kt It : Int) (Ft : Nat) (Zt : ByteArray) (qt : Option Addr) (mt dt : Nat) (Kv Iv : Int) (Fv : Nat) (Zv : ByteArray) (qv : Option Addr) (mv dv : Nat), a' = ((((((((((a.put (some 10) (.pointer (some ⟨gA, 0, none⟩))).put (some 11) (.pointer (some ⟨gB, 0, none⟩))).put (some 56) (.agg #[.int .i64 3, .int .i64 0, .float .f64 0, .string ⟨#[97]⟩, .slice none 0 0])).put (some 57) (.agg #[.int .i64 3, .int .i64 0, .float .f64 0, .string ⟨#[98]⟩, .slice none 0 0])).put (some 59) (.slice (some ⟨gE, 0, none⟩) 3 3)).put (some 60) (.tuple #[.agg #[.int .i64 Kt, .int .i64 It, .float .f64 Ft, .string Zt, .slice qt mt dt], .agg #[.int .i64 Kv, .int .i64 Iv, .float .f64 Fv, .string Zv, .slice qv mv dv], .int .i64 z])).put (some 54) (.tuple #[.agg #[.int .i64 Kt, .int .i64 It, .float .f64 Ft, .string Zt, .slice qt mt dt], .agg #[.int .i64 Kv, .int .i64 Iv, .float .f64 Fv, .string Zv, .slice qv mv dv], .int .i64 z])).put (some 61) (.agg #[.int .i64 Kt, .int .i64 It, .float .f64 Ft, .string Zt, .slice qt mt dt])).put (some 62) (.agg #[.int .i64 Kv, .int .i64 Iv, .float .f64 Fv, .string Zv, .slice qv mv dv])).put (some 63) (.int .i64 z)) ∧ FBC w sb qs ms ds vb (.int .i64 Kz) (.int .i64 Iz) (.float .f64 Fz) (.string ⟨#[]⟩) (.slice none 0 0) w' ∧ Below wr.heap.size wr w' ∧ SBX w' gA (.int .i64 0) (.int .i64 0) (.float .f64 0) (.string ⟨#[]⟩) (.slice none 0 0) ∧ wr.heap.size ≤ gA ∧ SBX w' gB (.int .i64 0) (.int .i64 0) (.float .f64 0) (.string ⟨#[]⟩) (.slice none 0 0) ∧ wr.heap.size ≤ gB ∧ gA ≠ gB ∧ RepS (fun b => wr.heap.size ≤ b ∧ b ≠ gA ∧ b ≠ gB) w' 3 (.agg #[.int .i64 Kt, .int .i64 It, .float .f64 Ft, .string Zt, .slice qt mt dt]) (TT) ∧ RepS (fun b => wr.heap.size ≤ b ∧ b ≠ gA ∧ b ≠ gB) w' 1 (.agg #[.int .i64 Kv, .int .i64 Iv, .float .f64 Fv, .string Zv, .slice qv mv dv]) (UU)) ?phK114m (fun hK114 => ?_)
  case phK114m =>
    intro a' w' hst hHeld
    obtain ⟨gA, gB, gE, Kt, It, Ft, Zt, qt, mt, dt, Kv, Iv, Fv, Zv, qv, mv, dv, rfl, hq, hbd, hsA, hgA, hsB, hgB, hne, ht, hv⟩ := hst
    (try simp only [Act.put, pk0, pk1, pk2])
    have hcA := hsA.1; have hcB := hsB.1
    refine zr1 12 (by kernel_rfl) (by simp only [lk0, lk1, lk2]; rfl) (fun K hK => ?_)
    have bb0 := hsA.1.1; have bb1 := hsA.1.2.1; have bb2 := hsA.1.2.2.1; have bb3 := hsA.1.2.2.2.1; have bb4 := hsA.1.2.2.2.2; have bbf := hsA.2; have bbl := cell_lt bb0; go_simp
    have hqA : FBC w sb qs ms ds vb (.int .i64 Kz) (.int .i64 Iz) (.float .f64 Fz) (.string ⟨#[]⟩) (.slice none 0 0) (((((w'.setCell ⟨gA, 0, none⟩ (.int .i64 Kt)).setCell ⟨gA, 1, none⟩ (.int .i64 It)).setCell ⟨gA, 2, none⟩ (.float .f64 Ft)).setCell ⟨gA, 3, none⟩ (.string Zt)).setCell ⟨gA, 4, none⟩ (.slice qt mt dt)) := fbc_set hq (by have h := hgA; omega) (by have h := hgA; omega) (by have h := hgA; omega)
    refine hK.out _ _ ?hs12hK114m (fun hHeld => ?_)
    case hs12hK114m => exact fbc_cells hqA
    clear hK K bb0 bb1 bb2 bb3 bb4 bbf bbl
    (try simp only [Act.put, pk0, pk1, pk2])
    refine zr1 13 (by kernel_rfl) (by simp only [lk0, lk1, lk2]; rfl) (fun K hK => ?_)
    have bb0 := hsB.1.1; have bb1 := hsB.1.2.1; have bb2 := hsB.1.2.2.1; have bb3 := hsB.1.2.2.2.1; have bb4 := hsB.1.2.2.2.2; have bbf := hsB.2; have bbl := cell_lt bb0; go_simp
    have hqB : FBC w sb qs ms ds vb (.int .i64 Kz) (.int .i64 Iz) (.float .f64 Fz) (.string ⟨#[]⟩) (.slice none 0 0) ((((((((((w'.setCell ⟨gA, 0, none⟩ (.int .i64 Kt)).setCell ⟨gA, 1, none⟩ (.int .i64 It)).setCell ⟨gA, 2, none⟩ (.float .f64 Ft)).setCell ⟨gA, 3, none⟩ (.string Zt)).setCell ⟨gA, 4, none⟩ (.slice qt mt dt)).setCell ⟨gB, 0, none⟩ (.int .i64 Kv)).setCell ⟨gB, 1, none⟩ (.int .i64 Iv)).setCell ⟨gB, 2, none⟩ (.float .f64 Fv)).setCell ⟨gB, 3, none⟩ (.string Zv)).setCell ⟨gB, 4, none⟩ (.slice qv mv dv)) := fbc_set hqA (by have h := hgB; omega) (by have h := hgB; omega) (by have h := hgB; omega)
    refine hK.out _ _ ?hs13hK114m (fun hHeld => ?_)
    case hs13hK114m => exact fbc_cells hqB
    clear hK K bb0 bb1 bb2 bb3 bb4 bbf bbl
    (try simp only [Act.put, pk0, pk1, pk2])
    refine zt [14] ?_
    refine zt1 hP (by simp only [lk0, lk1, lk2]; rfl) (by kernel_rfl) (by assumption) (by rfl) (fun wS hSw => by (try dsimp only at hSw); go_simp; (try with_reducible rfl)) ?_; (try simp only [Act.put, pk0, pk1, pk2])
    refine zt0 ?_
    refine wpAnyH_done (by kernel_rfl) ?_ _
    have HGF := Lib.hid (show (fun z0 : World => CS z0 gA (.int .i64 Kt) (.int .i64 It) (.float .f64 Ft) (.string Zt) (.slice qt mt dt) ∧ CS z0 gB (.int .i64 Kv) (.int .i64 Iv) (.float .f64 Fv) (.string Zv) (.slice qv mv dv) ∧ FBC w sb qs ms ds vb (.int .i64 Kz) (.int .i64 Iz) (.float .f64 Fz) (.string ⟨#[]⟩) (.slice none 0 0) z0 ∧ Below wr.heap.size wr z0 ∧ RepS (fun b => wr.heap.size ≤ b ∧ b ≠ gA ∧ b ≠ gB) z0 3 (.agg #[.int .i64 Kt, .int .i64 It, .float .f64 Ft, .string Zt, .slice qt mt dt]) (TT) ∧ RepS (fun b => wr.heap.size ≤ b ∧ b ≠ gA ∧ b ≠ gB) z0 1 (.agg #[.int .i64 Kv, .int .i64 Iv, .float .f64 Fv, .string Zv, .slice qv mv dv]) (UU) ∧ wr.heap.size ≤ gA ∧ wr.heap.size ≤ gB) ((((((((((w'.setCell ⟨gA, 0, none⟩ (.int .i64 Kt)).setCell ⟨gA, 1, none⟩ (.int .i64 It)).setCell ⟨gA, 2, none⟩ (.float .f64 Ft)).setCell ⟨gA, 3, none⟩ (.string Zt)).setCell ⟨gA, 4, none⟩ (.slice qt mt dt)).setCell ⟨gB, 0, none⟩ (.int .i64 Kv)).setCell ⟨gB, 1, none⟩ (.int .i64 Iv)).setCell ⟨gB, 2, none⟩ (.float .f64 Fv)).setCell ⟨gB, 3, none⟩ (.string Zv)).setCell ⟨gB, 4, none⟩ (.slice qv mv dv)) from ⟨cs_other (cs_set5 hsA.1) hne, cs_set5 (cs_other hsB.1 hne.symm), hqB, bel_set5 (bel_set5 hbd hgA) hgB, repS_set (repS_set ht (fun b hb => hb.2.1)) (fun b hb => hb.2.2), repS_set (repS_set hv (fun b hb => hb.2.1)) (fun b hb => hb.2.2), hgA, hgB⟩)
    clear hq hqA hqB hbd hsA hsB hcA hcB ht hv hHeld
    revert HGF
    generalize ((((((((((w'.setCell ⟨gA, 0, none⟩ (.int .i64 Kt)).setCell ⟨gA, 1, none⟩ (.int .i64 It)).setCell ⟨gA, 2, none⟩ (.float .f64 Ft)).setCell ⟨gA, 3, none⟩ (.string Zt)).setCell ⟨gA, 4, none⟩ (.slice qt mt dt)).setCell ⟨gB, 0, none⟩ (.int .i64 Kv)).setCell ⟨gB, 1, none⟩ (.int .i64 Iv)).setCell ⟨gB, 2, none⟩ (.float .f64 Fv)).setCell ⟨gB, 3, none⟩ (.string Zv)).setCell ⟨gB, 4, none⟩ (.slice qv mv dv)) = Wg
    intro HGF
    exact hQ gA gB gE Kt It Ft Zt qt mt dt Kv Iv Fv Zv qv mv dv Wg HGF.out
  refine any_have 4 [10, 1, 2, 4, 5, 6, 7, 8, 9] (fun a a' w' => ∃ (gA gE : Nat), ∃ (Kt It : Int) (Ft : Nat) (Zt : ByteArray) (qt : Option Addr) (mt dt : Nat) (Kv Iv : Int) (Fv : Nat) (Zv : ByteArray) (qv : Option Addr) (mv dv : Nat), a' = (((((((((a.put (some 10) (.pointer (some ⟨gA, 0, none⟩))).put (some 56) (.agg #[.int .i64 3, .int .i64 0, .float .f64 0, .string ⟨#[97]⟩, .slice none 0 0])).put (some 57) (.agg #[.int .i64 3, .int .i64 0, .float .f64 0, .string ⟨#[98]⟩, .slice none 0 0])).put (some 59) (.slice (some ⟨gE, 0, none⟩) 3 3)).put (some 60) (.tuple #[.agg #[.int .i64 Kt, .int .i64 It, .float .f64 Ft, .string Zt, .slice qt mt dt], .agg #[.int .i64 Kv, .int .i64 Iv, .float .f64 Fv, .string Zv, .slice qv mv dv], .int .i64 z])).put (some 54) (.tuple #[.agg #[.int .i64 Kt, .int .i64 It, .float .f64 Ft, .string Zt, .slice qt mt dt], .agg #[.int .i64 Kv, .int .i64 Iv, .float .f64 Fv, .string Zv, .slice qv mv dv], .int .i64 z])).put (some 61) (.agg #[.int .i64 Kt, .int .i64 It, .float .f64 Ft, .string Zt, .slice qt mt dt])).put (some 62) (.agg #[.int .i64 Kv, .int .i64 Iv, .float .f64 Fv, .string Zv, .slice qv mv dv])).put (some 63) (.int .i64 z)) ∧ FBC w sb qs ms ds vb (.int .i64 Kz) (.int .i64 Iz) (.float .f64 Fz) (.string ⟨#[]⟩) (.slice none 0 0) w' ∧ Below wr.heap.size wr w' ∧ SBX w' gA (.int .i64 0) (.int .i64 0) (.float .f64 0) (.string ⟨#[]⟩) (.slice none 0 0) ∧ wr.heap.size ≤ gA ∧ RepS (fun b => wr.heap.size ≤ b ∧ b ≠ gA) w' 3 (.agg #[.int .i64 Kt, .int .i64 It, .float .f64 Ft, .string Zt, .slice qt mt dt]) (TT) ∧ RepS (fun b => wr.heap.size ≤ b ∧ b ≠ gA) w' 1 (.agg #[.int .i64 Kv, .int .i64 Iv, .float .f64 Fv, .string Zv, .slice qv mv dv]) (UU)) ?phK104m (fun hK104 => ?_)
  case phK104m =>
    intro a' w' hst hHeld
    obtain ⟨gA, gE, Kt, It, Ft, Zt, qt, mt, dt, Kv, Iv, Fv, Zv, qv, mv, dv, rfl, hq, hbd, hsA, hgA, ht, hv⟩ := hst
    (try simp only [Act.put, pk0, pk1, pk2])
    refine wpAnyH_ready (rs := [11]) (by kernel_rfl) (by simp) ?_
    refine AllReadyH.cons (o := ?_) ?hoBhK104m ?hstBhK104m AllReadyH.nil
    case hoBhK104m => (simp only [lk0, lk1, lk2]; rfl)
    case hstBhK104m =>
      intro K hK
      go_simp
      refine hK.out _ _ ?hsBhK104m (fun hHeld => ?_)
      case hsBhK104m => exact fbc_cells (fbc_step hq bz)
      clear hK K
      (try simp only [Act.put, pk0, pk1, pk2])
      exact any_eq (by kernel_rfl) (by kernel_rfl) (hK114 _ _ ⟨gA, _, gE, Kt, It, Ft, Zt, qt, mt, dt, Kv, Iv, Fv, Zv, qv, mv, dv, rfl, (fbc_step hq bz), (bel_step hbd bz), (sbx_step hsA bz), hgA, ⟨cs_new rfl, fun o => row_frz (row_alloc _ _ _) o⟩, hbd.size, (by have h := cs_lt hsA.1; omega), (repS_step bz (repS_mono (fun b hb => ⟨hb.1.1, hb.1.2, Nat.ne_of_lt hb.2⟩) _ _ _ (repS_lt _ _ _ ht))), (repS_step bz (repS_mono (fun b hb => ⟨hb.1.1, hb.1.2, Nat.ne_of_lt hb.2⟩) _ _ _ (repS_lt _ _ _ hv)))⟩ hHeld)
  refine any_have 4 [11, 1, 2, 4, 5, 6, 7, 8, 9] (fun a a' w' => ∃ (gB gE : Nat), ∃ (Kt It : Int) (Ft : Nat) (Zt : ByteArray) (qt : Option Addr) (mt dt : Nat) (Kv Iv : Int) (Fv : Nat) (Zv : ByteArray) (qv : Option Addr) (mv dv : Nat), a' = (((((((((a.put (some 11) (.pointer (some ⟨gB, 0, none⟩))).put (some 56) (.agg #[.int .i64 3, .int .i64 0, .float .f64 0, .string ⟨#[97]⟩, .slice none 0 0])).put (some 57) (.agg #[.int .i64 3, .int .i64 0, .float .f64 0, .string ⟨#[98]⟩, .slice none 0 0])).put (some 59) (.slice (some ⟨gE, 0, none⟩) 3 3)).put (some 60) (.tuple #[.agg #[.int .i64 Kt, .int .i64 It, .float .f64 Ft, .string Zt, .slice qt mt dt], .agg #[.int .i64 Kv, .int .i64 Iv, .float .f64 Fv, .string Zv, .slice qv mv dv], .int .i64 z])).put (some 54) (.tuple #[.agg #[.int .i64 Kt, .int .i64 It, .float .f64 Ft, .string Zt, .slice qt mt dt], .agg #[.int .i64 Kv, .int .i64 Iv, .float .f64 Fv, .string Zv, .slice qv mv dv], .int .i64 z])).put (some 61) (.agg #[.int .i64 Kt, .int .i64 It, .float .f64 Ft, .string Zt, .slice qt mt dt])).put (some 62) (.agg #[.int .i64 Kv, .int .i64 Iv, .float .f64 Fv, .string Zv, .slice qv mv dv])).put (some 63) (.int .i64 z)) ∧ FBC w sb qs ms ds vb (.int .i64 Kz) (.int .i64 Iz) (.float .f64 Fz) (.string ⟨#[]⟩) (.slice none 0 0) w' ∧ Below wr.heap.size wr w' ∧ SBX w' gB (.int .i64 0) (.int .i64 0) (.float .f64 0) (.string ⟨#[]⟩) (.slice none 0 0) ∧ wr.heap.size ≤ gB ∧ RepS (fun b => wr.heap.size ≤ b ∧ b ≠ gB) w' 3 (.agg #[.int .i64 Kt, .int .i64 It, .float .f64 Ft, .string Zt, .slice qt mt dt]) (TT) ∧ RepS (fun b => wr.heap.size ≤ b ∧ b ≠ gB) w' 1 (.agg #[.int .i64 Kv, .int .i64 Iv, .float .f64 Fv, .string Zv, .slice qv mv dv]) (UU)) ?phK014m (fun hK014 => ?_)
  case phK014m =>
    intro a' w' hst hHeld
    obtain ⟨gB, gE, Kt, It, Ft, Zt, qt, mt, dt, Kv, Iv, Fv, Zv, qv, mv, dv, rfl, hq, hbd, hsB, hgB, ht, hv⟩ := hst
    (try simp only [Act.put, pk0, pk1, pk2])
    refine wpAnyH_ready (rs := [10]) (by kernel_rfl) (by simp) ?_
    refine AllReadyH.cons (o := ?_) ?hoAhK014m ?hstAhK014m AllReadyH.nil
    case hoAhK014m => (simp only [lk0, lk1, lk2]; rfl)
    case hstAhK014m =>
      intro K hK
      go_simp
      refine hK.out _ _ ?hsAhK014m (fun hHeld => ?_)
      case hsAhK014m => exact fbc_cells (fbc_step hq bz)
      clear hK K
      (try simp only [Act.put, pk0, pk1, pk2])
      exact any_eq (by kernel_rfl) (by kernel_rfl) (hK114 _ _ ⟨_, gB, gE, Kt, It, Ft, Zt, qt, mt, dt, Kv, Iv, Fv, Zv, qv, mv, dv, rfl, (fbc_step hq bz), (bel_step hbd bz), ⟨cs_new rfl, fun o => row_frz (row_alloc _ _ _) o⟩, hbd.size, (sbx_step hsB bz), hgB, (by have h := cs_lt hsB.1; omega), (repS_step bz (repS_mono (fun b hb => ⟨hb.1.1, Nat.ne_of_lt hb.2, hb.1.2⟩) _ _ _ (repS_lt _ _ _ ht))), (repS_step bz (repS_mono (fun b hb => ⟨hb.1.1, Nat.ne_of_lt hb.2, hb.1.2⟩) _ _ _ (repS_lt _ _ _ hv)))⟩ hHeld)
  refine any_have 5 [1, 2, 4, 5, 6, 7, 8, 9] (fun a a' w' => ∃ (gE : Nat), ∃ (Kt It : Int) (Ft : Nat) (Zt : ByteArray) (qt : Option Addr) (mt dt : Nat) (Kv Iv : Int) (Fv : Nat) (Zv : ByteArray) (qv : Option Addr) (mv dv : Nat), a' = ((((((((a.put (some 56) (.agg #[.int .i64 3, .int .i64 0, .float .f64 0, .string ⟨#[97]⟩, .slice none 0 0])).put (some 57) (.agg #[.int .i64 3, .int .i64 0, .float .f64 0, .string ⟨#[98]⟩, .slice none 0 0])).put (some 59) (.slice (some ⟨gE, 0, none⟩) 3 3)).put (some 60) (.tuple #[.agg #[.int .i64 Kt, .int .i64 It, .float .f64 Ft, .string Zt, .slice qt mt dt], .agg #[.int .i64 Kv, .int .i64 Iv, .float .f64 Fv, .string Zv, .slice qv mv dv], .int .i64 z])).put (some 54) (.tuple #[.agg #[.int .i64 Kt, .int .i64 It, .float .f64 Ft, .string Zt, .slice qt mt dt], .agg #[.int .i64 Kv, .int .i64 Iv, .float .f64 Fv, .string Zv, .slice qv mv dv], .int .i64 z])).put (some 61) (.agg #[.int .i64 Kt, .int .i64 It, .float .f64 Ft, .string Zt, .slice qt mt dt])).put (some 62) (.agg #[.int .i64 Kv, .int .i64 Iv, .float .f64 Fv, .string Zv, .slice qv mv dv])).put (some 63) (.int .i64 z)) ∧ FBC w sb qs ms ds vb (.int .i64 Kz) (.int .i64 Iz) (.float .f64 Fz) (.string ⟨#[]⟩) (.slice none 0 0) w' ∧ Below wr.heap.size wr w' ∧ RepS (fun b => wr.heap.size ≤ b) w' 3 (.agg #[.int .i64 Kt, .int .i64 It, .float .f64 Ft, .string Zt, .slice qt mt dt]) (TT) ∧ RepS (fun b => wr.heap.size ≤ b) w' 1 (.agg #[.int .i64 Kv, .int .i64 Iv, .float .f64 Fv, .string Zv, .slice qv mv dv]) (UU)) ?phK004m (fun hK004 => ?_)
  case phK004m =>
    intro a' w' hst hHeld
    obtain ⟨gE, Kt, It, Ft, Zt, qt, mt, dt, Kv, Iv, Fv, Zv, qv, mv, dv, rfl, hq, hbd, ht, hv⟩ := hst
    (try simp only [Act.put, pk0, pk1, pk2])
    refine wpAnyH_ready (rs := [10, 11]) (by kernel_rfl) (by simp) ?_
    refine AllReadyH.cons (o := ?_) ?hoAhK004m ?hstAhK004m (AllReadyH.cons (o := ?_) ?hoBhK004m ?hstBhK004m AllReadyH.nil)
    case hoAhK004m => (simp only [lk0, lk1, lk2]; rfl)
    case hoBhK004m => (simp only [lk0, lk1, lk2]; rfl)
    case hstAhK004m =>
      intro K hK
      go_simp
      refine hK.out _ _ ?hsAhK004m (fun hHeld => ?_)
      case hsAhK004m => exact fbc_cells (fbc_step hq bz)
      clear hK K
      (try simp only [Act.put, pk0, pk1, pk2])
      exact any_eq (by kernel_rfl) (by kernel_rfl) (hK104 _ _ ⟨_, gE, Kt, It, Ft, Zt, qt, mt, dt, Kv, Iv, Fv, Zv, qv, mv, dv, rfl, (fbc_step hq bz), (bel_step hbd bz), ⟨cs_new rfl, fun o => row_frz (row_alloc _ _ _) o⟩, hbd.size, (repS_step bz (repS_mono (fun b hb => ⟨hb.1, Nat.ne_of_lt hb.2⟩) _ _ _ (repS_lt _ _ _ ht))), (repS_step bz (repS_mono (fun b hb => ⟨hb.1, Nat.ne_of_lt hb.2⟩) _ _ _ (repS_lt _ _ _ hv)))⟩ hHeld)
    case hstBhK004m =>
      intro K hK
      go_simp
      refine hK.out _ _ ?hsBhK004m (fun hHeld => ?_)
      case hsBhK004m => exact fbc_cells (fbc_step hq bz)
      clear hK K
      (try simp only [Act.put, pk0, pk1, pk2])
      exact any_eq (by kernel_rfl) (by kernel_rfl) (hK014 _ _ ⟨_, gE, Kt, It, Ft, Zt, qt, mt, dt, Kv, Iv, Fv, Zv, qv, mv, dv, rfl, (fbc_step hq bz), (bel_step hbd bz), ⟨cs_new rfl, fun o => row_frz (row_alloc _ _ _) o⟩, hbd.size, (repS_step bz (repS_mono (fun b hb => ⟨hb.1, Nat.ne_of_lt hb.2⟩) _ _ _ (repS_lt _ _ _ ht))), (repS_step bz (repS_mono (fun b hb => ⟨hb.1, Nat.ne_of_lt hb.2⟩) _ _ _ (repS_lt _ _ _ hv)))⟩ hHeld)
  refine any_have 8 [10, 11, 1, 2, 4] (fun a a' w' => ∃ (gA gB gE : Nat), a' = (((((a.put (some 10) (.pointer (some ⟨gA, 0, none⟩))).put (some 11) (.pointer (some ⟨gB, 0, none⟩))).put (some 56) (.agg #[.int .i64 3, .int .i64 0, .float .f64 0, .string ⟨#[97]⟩, .slice none 0 0])).put (some 57) (.agg #[.int .i64 3, .int .i64 0, .float .f64 0, .string ⟨#[98]⟩, .slice none 0 0])).put (some 59) (.slice (some ⟨gE, 0, none⟩) 3 3)) ∧ FBC w sb qs ms ds vb (.int .i64 Kz) (.int .i64 Iz) (.float .f64 Fz) (.string ⟨#[]⟩) (.slice none 0 0) w' ∧ Below wr.heap.size wr w' ∧ SBX w' gA (.int .i64 0) (.int .i64 0) (.float .f64 0) (.string ⟨#[]⟩) (.slice none 0 0) ∧ wr.heap.size ≤ gA ∧ SBX w' gB (.int .i64 0) (.int .i64 0) (.float .f64 0) (.string ⟨#[]⟩) (.slice none 0 0) ∧ wr.heap.size ≤ gB ∧ gA ≠ gB ∧ LA gE [nameV 0 ⟨#[97]⟩, nameV 0 ⟨#[98]⟩, (Kz, Iz, Fz, ⟨#[]⟩, [])] w') ?phK113m (fun hK113 => ?_)
  case phK113m =>
    intro a' w' hst hHeld
    obtain ⟨gA, gB, gE, rfl, hq, hbd, hsA, hgA, hsB, hgB, hne, hlv⟩ := hst
    (try simp only [Act.put, pk0, pk1, pk2])
    refine wpAnyH_ready (rs := [5]) (by kernel_rfl) (by simp) ?_
    refine AllReadyH.cons (o := ?_) ?hoXhK113m ?hstXhK113m AllReadyH.nil
    case hoXhK113m => (simp only [lk0, lk1, lk2]; rfl)
    case hstXhK113m =>
      intro K hK
      go_simp
      have hrp := rep_keep hbd _ _ _ HSTr.out; go_at_call 12; refine (HDO.out _ _ hrp hlv).mono ?_; rintro e wD ⟨tt, vv, rfl, hbT, ht, hv⟩; obtain ⟨Kt, It, Ft, Zt, qt, mt, dt, rfl, _⟩ := repS_shape ht; obtain ⟨Kv, Iv, Fv, Zv, qv, mv, dv, rfl, _⟩ := repS_shape hv
      go_wp2_with fail
      refine hK.out _ _ ?hsXhK113m (fun hHeld => ?_)
      case hsXhK113m => exact fbc_cells (fbc_step hq hbT)
      clear hK K
      (try simp only [Act.put, pk0, pk1, pk2])
      refine zt [6, 7, 8, 9] ?_
      iterate 4 (refine zt1 hP (by simp only [lk0, lk1, lk2]; rfl) (by kernel_rfl) (by assumption) (by rfl) (fun wS hSw => by (try dsimp only at hSw); go_simp; (try with_reducible rfl)) ?_; (try simp only [Act.put, pk0, pk1, pk2]))
      refine zt0 ?_
      exact any_eq (by kernel_rfl) (by kernel_rfl) (hK114 _ _ ⟨gA, gB, gE, Kt, It, Ft, Zt, qt, mt, dt, Kv, Iv, Fv, Zv, qv, mv, dv, rfl, (fbc_step hq hbT), (bel_step hbd hbT), (sbx_step hsA hbT), hgA, (sbx_step hsB hbT), hgB, hne, (repS_mono (fun b hb => ⟨Nat.le_trans hbd.size hb, (by have h := cs_lt hsA.1; have h2 : _ ≤ b := hb; omega), (by have h := cs_lt hsB.1; have h2 : _ ≤ b := hb; omega)⟩) _ _ _ ht), (repS_mono (fun b hb => ⟨Nat.le_trans hbd.size hb, (by have h := cs_lt hsA.1; have h2 : _ ≤ b := hb; omega), (by have h := cs_lt hsB.1; have h2 : _ ≤ b := hb; omega)⟩) _ _ _ hv)⟩ hHeld)
  refine any_have 9 [10, 1, 2, 4] (fun a a' w' => ∃ (gA gE : Nat), a' = ((((a.put (some 10) (.pointer (some ⟨gA, 0, none⟩))).put (some 56) (.agg #[.int .i64 3, .int .i64 0, .float .f64 0, .string ⟨#[97]⟩, .slice none 0 0])).put (some 57) (.agg #[.int .i64 3, .int .i64 0, .float .f64 0, .string ⟨#[98]⟩, .slice none 0 0])).put (some 59) (.slice (some ⟨gE, 0, none⟩) 3 3)) ∧ FBC w sb qs ms ds vb (.int .i64 Kz) (.int .i64 Iz) (.float .f64 Fz) (.string ⟨#[]⟩) (.slice none 0 0) w' ∧ Below wr.heap.size wr w' ∧ SBX w' gA (.int .i64 0) (.int .i64 0) (.float .f64 0) (.string ⟨#[]⟩) (.slice none 0 0) ∧ wr.heap.size ≤ gA ∧ LA gE [nameV 0 ⟨#[97]⟩, nameV 0 ⟨#[98]⟩, (Kz, Iz, Fz, ⟨#[]⟩, [])] w') ?phK103m (fun hK103 => ?_)
  case phK103m =>
    intro a' w' hst hHeld
    obtain ⟨gA, gE, rfl, hq, hbd, hsA, hgA, hlv⟩ := hst
    (try simp only [Act.put, pk0, pk1, pk2])
    refine wpAnyH_ready (rs := [5, 11]) (by kernel_rfl) (by simp) ?_
    refine AllReadyH.cons (o := ?_) ?hoXhK103m ?hstXhK103m (AllReadyH.cons (o := ?_) ?hoBhK103m ?hstBhK103m AllReadyH.nil)
    case hoXhK103m => (simp only [lk0, lk1, lk2]; rfl)
    case hoBhK103m => (simp only [lk0, lk1, lk2]; rfl)
    case hstXhK103m =>
      intro K hK
      go_simp
      have hrp := rep_keep hbd _ _ _ HSTr.out; go_at_call 12; refine (HDO.out _ _ hrp hlv).mono ?_; rintro e wD ⟨tt, vv, rfl, hbT, ht, hv⟩; obtain ⟨Kt, It, Ft, Zt, qt, mt, dt, rfl, _⟩ := repS_shape ht; obtain ⟨Kv, Iv, Fv, Zv, qv, mv, dv, rfl, _⟩ := repS_shape hv
      go_wp2_with fail
      refine hK.out _ _ ?hsXhK103m (fun hHeld => ?_)
      case hsXhK103m => exact fbc_cells (fbc_step hq hbT)
      clear hK K
      (try simp only [Act.put, pk0, pk1, pk2])
      refine zt [6, 7, 8, 9] ?_
      iterate 4 (refine zt1 hP (by simp only [lk0, lk1, lk2]; rfl) (by kernel_rfl) (by assumption) (by rfl) (fun wS hSw => by (try dsimp only at hSw); go_simp; (try with_reducible rfl)) ?_; (try simp only [Act.put, pk0, pk1, pk2]))
      refine zt0 ?_
      exact any_eq (by kernel_rfl) (by kernel_rfl) (hK104 _ _ ⟨gA, gE, Kt, It, Ft, Zt, qt, mt, dt, Kv, Iv, Fv, Zv, qv, mv, dv, rfl, (fbc_step hq hbT), (bel_step hbd hbT), (sbx_step hsA hbT), hgA, (repS_mono (fun b hb => ⟨Nat.le_trans hbd.size hb, (by have h := cs_lt hsA.1; have h2 : _ ≤ b := hb; omega)⟩) _ _ _ ht), (repS_mono (fun b hb => ⟨Nat.le_trans hbd.size hb, (by have h := cs_lt hsA.1; have h2 : _ ≤ b := hb; omega)⟩) _ _ _ hv)⟩ hHeld)
    case hstBhK103m =>
      intro K hK
      go_simp
      refine hK.out _ _ ?hsBhK103m (fun hHeld => ?_)
      case hsBhK103m => exact fbc_cells (fbc_step hq bz)
      clear hK K
      (try simp only [Act.put, pk0, pk1, pk2])
      exact any_eq (by kernel_rfl) (by kernel_rfl) (hK113 _ _ ⟨gA, _, gE, rfl, (fbc_step hq bz), (bel_step hbd bz), (sbx_step hsA bz), hgA, ⟨cs_new rfl, fun o => row_frz (row_alloc _ _ _) o⟩, hbd.size, (by have h := cs_lt hsA.1; omega), (la_step hlv bz)⟩ hHeld)
  refine any_have 9 [11, 1, 2, 4] (fun a a' w' => ∃ (gB gE : Nat), a' = ((((a.put (some 11) (.pointer (some ⟨gB, 0, none⟩))).put (some 56) (.agg #[.int .i64 3, .int .i64 0, .float .f64 0, .string ⟨#[97]⟩, .slice none 0 0])).put (some 57) (.agg #[.int .i64 3, .int .i64 0, .float .f64 0, .string ⟨#[98]⟩, .slice none 0 0])).put (some 59) (.slice (some ⟨gE, 0, none⟩) 3 3)) ∧ FBC w sb qs ms ds vb (.int .i64 Kz) (.int .i64 Iz) (.float .f64 Fz) (.string ⟨#[]⟩) (.slice none 0 0) w' ∧ Below wr.heap.size wr w' ∧ SBX w' gB (.int .i64 0) (.int .i64 0) (.float .f64 0) (.string ⟨#[]⟩) (.slice none 0 0) ∧ wr.heap.size ≤ gB ∧ LA gE [nameV 0 ⟨#[97]⟩, nameV 0 ⟨#[98]⟩, (Kz, Iz, Fz, ⟨#[]⟩, [])] w') ?phK013m (fun hK013 => ?_)
  case phK013m =>
    intro a' w' hst hHeld
    obtain ⟨gB, gE, rfl, hq, hbd, hsB, hgB, hlv⟩ := hst
    (try simp only [Act.put, pk0, pk1, pk2])
    refine wpAnyH_ready (rs := [5, 10]) (by kernel_rfl) (by simp) ?_
    refine AllReadyH.cons (o := ?_) ?hoXhK013m ?hstXhK013m (AllReadyH.cons (o := ?_) ?hoAhK013m ?hstAhK013m AllReadyH.nil)
    case hoXhK013m => (simp only [lk0, lk1, lk2]; rfl)
    case hoAhK013m => (simp only [lk0, lk1, lk2]; rfl)
    case hstXhK013m =>
      intro K hK
      go_simp
      have hrp := rep_keep hbd _ _ _ HSTr.out; go_at_call 12; refine (HDO.out _ _ hrp hlv).mono ?_; rintro e wD ⟨tt, vv, rfl, hbT, ht, hv⟩; obtain ⟨Kt, It, Ft, Zt, qt, mt, dt, rfl, _⟩ := repS_shape ht; obtain ⟨Kv, Iv, Fv, Zv, qv, mv, dv, rfl, _⟩ := repS_shape hv
      go_wp2_with fail
      refine hK.out _ _ ?hsXhK013m (fun hHeld => ?_)
      case hsXhK013m => exact fbc_cells (fbc_step hq hbT)
      clear hK K
      (try simp only [Act.put, pk0, pk1, pk2])
      refine zt [6, 7, 8, 9] ?_
      iterate 4 (refine zt1 hP (by simp only [lk0, lk1, lk2]; rfl) (by kernel_rfl) (by assumption) (by rfl) (fun wS hSw => by (try dsimp only at hSw); go_simp; (try with_reducible rfl)) ?_; (try simp only [Act.put, pk0, pk1, pk2]))
      refine zt0 ?_
      exact any_eq (by kernel_rfl) (by kernel_rfl) (hK014 _ _ ⟨gB, gE, Kt, It, Ft, Zt, qt, mt, dt, Kv, Iv, Fv, Zv, qv, mv, dv, rfl, (fbc_step hq hbT), (bel_step hbd hbT), (sbx_step hsB hbT), hgB, (repS_mono (fun b hb => ⟨Nat.le_trans hbd.size hb, (by have h := cs_lt hsB.1; have h2 : _ ≤ b := hb; omega)⟩) _ _ _ ht), (repS_mono (fun b hb => ⟨Nat.le_trans hbd.size hb, (by have h := cs_lt hsB.1; have h2 : _ ≤ b := hb; omega)⟩) _ _ _ hv)⟩ hHeld)
    case hstAhK013m =>
      intro K hK
      go_simp
      refine hK.out _ _ ?hsAhK013m (fun hHeld => ?_)
      case hsAhK013m => exact fbc_cells (fbc_step hq bz)
      clear hK K
      (try simp only [Act.put, pk0, pk1, pk2])
      exact any_eq (by kernel_rfl) (by kernel_rfl) (hK113 _ _ ⟨_, gB, gE, rfl, (fbc_step hq bz), (bel_step hbd bz), ⟨cs_new rfl, fun o => row_frz (row_alloc _ _ _) o⟩, hbd.size, (sbx_step hsB bz), hgB, (by have h := cs_lt hsB.1; omega), (la_step hlv bz)⟩ hHeld)
  refine any_have 10 [1, 2, 4] (fun a a' w' => ∃ (gE : Nat), a' = (((a.put (some 56) (.agg #[.int .i64 3, .int .i64 0, .float .f64 0, .string ⟨#[97]⟩, .slice none 0 0])).put (some 57) (.agg #[.int .i64 3, .int .i64 0, .float .f64 0, .string ⟨#[98]⟩, .slice none 0 0])).put (some 59) (.slice (some ⟨gE, 0, none⟩) 3 3)) ∧ FBC w sb qs ms ds vb (.int .i64 Kz) (.int .i64 Iz) (.float .f64 Fz) (.string ⟨#[]⟩) (.slice none 0 0) w' ∧ Below wr.heap.size wr w' ∧ LA gE [nameV 0 ⟨#[97]⟩, nameV 0 ⟨#[98]⟩, (Kz, Iz, Fz, ⟨#[]⟩, [])] w') ?phK003m (fun hK003 => ?_)
  case phK003m =>
    intro a' w' hst hHeld
    obtain ⟨gE, rfl, hq, hbd, hlv⟩ := hst
    (try simp only [Act.put, pk0, pk1, pk2])
    refine wpAnyH_ready (rs := [5, 10, 11]) (by kernel_rfl) (by simp) ?_
    refine AllReadyH.cons (o := ?_) ?hoXhK003m ?hstXhK003m (AllReadyH.cons (o := ?_) ?hoAhK003m ?hstAhK003m (AllReadyH.cons (o := ?_) ?hoBhK003m ?hstBhK003m AllReadyH.nil))
    case hoXhK003m => (simp only [lk0, lk1, lk2]; rfl)
    case hoAhK003m => (simp only [lk0, lk1, lk2]; rfl)
    case hoBhK003m => (simp only [lk0, lk1, lk2]; rfl)
    case hstXhK003m =>
      intro K hK
      go_simp
      have hrp := rep_keep hbd _ _ _ HSTr.out; go_at_call 12; refine (HDO.out _ _ hrp hlv).mono ?_; rintro e wD ⟨tt, vv, rfl, hbT, ht, hv⟩; obtain ⟨Kt, It, Ft, Zt, qt, mt, dt, rfl, _⟩ := repS_shape ht; obtain ⟨Kv, Iv, Fv, Zv, qv, mv, dv, rfl, _⟩ := repS_shape hv
      go_wp2_with fail
      refine hK.out _ _ ?hsXhK003m (fun hHeld => ?_)
      case hsXhK003m => exact fbc_cells (fbc_step hq hbT)
      clear hK K
      (try simp only [Act.put, pk0, pk1, pk2])
      refine zt [6, 7, 8, 9] ?_
      iterate 4 (refine zt1 hP (by simp only [lk0, lk1, lk2]; rfl) (by kernel_rfl) (by assumption) (by rfl) (fun wS hSw => by (try dsimp only at hSw); go_simp; (try with_reducible rfl)) ?_; (try simp only [Act.put, pk0, pk1, pk2]))
      refine zt0 ?_
      exact any_eq (by kernel_rfl) (by kernel_rfl) (hK004 _ _ ⟨gE, Kt, It, Ft, Zt, qt, mt, dt, Kv, Iv, Fv, Zv, qv, mv, dv, rfl, (fbc_step hq hbT), (bel_step hbd hbT), (repS_mono (fun b hb => Nat.le_trans hbd.size hb) _ _ _ ht), (repS_mono (fun b hb => Nat.le_trans hbd.size hb) _ _ _ hv)⟩ hHeld)
    case hstAhK003m =>
      intro K hK
      go_simp
      refine hK.out _ _ ?hsAhK003m (fun hHeld => ?_)
      case hsAhK003m => exact fbc_cells (fbc_step hq bz)
      clear hK K
      (try simp only [Act.put, pk0, pk1, pk2])
      exact any_eq (by kernel_rfl) (by kernel_rfl) (hK103 _ _ ⟨_, gE, rfl, (fbc_step hq bz), (bel_step hbd bz), ⟨cs_new rfl, fun o => row_frz (row_alloc _ _ _) o⟩, hbd.size, (la_step hlv bz)⟩ hHeld)
    case hstBhK003m =>
      intro K hK
      go_simp
      refine hK.out _ _ ?hsBhK003m (fun hHeld => ?_)
      case hsBhK003m => exact fbc_cells (fbc_step hq bz)
      clear hK K
      (try simp only [Act.put, pk0, pk1, pk2])
      exact any_eq (by kernel_rfl) (by kernel_rfl) (hK013 _ _ ⟨_, gE, rfl, (fbc_step hq bz), (bel_step hbd bz), ⟨cs_new rfl, fun o => row_frz (row_alloc _ _ _) o⟩, hbd.size, (la_step hlv bz)⟩ hHeld)
  refine any_have 9 [10, 11, 1, 2] (fun a a' w' => ∃ (gA gB : Nat), a' = ((((a.put (some 10) (.pointer (some ⟨gA, 0, none⟩))).put (some 11) (.pointer (some ⟨gB, 0, none⟩))).put (some 56) (.agg #[.int .i64 3, .int .i64 0, .float .f64 0, .string ⟨#[97]⟩, .slice none 0 0])).put (some 57) (.agg #[.int .i64 3, .int .i64 0, .float .f64 0, .string ⟨#[98]⟩, .slice none 0 0])) ∧ FBC w sb qs ms ds vb (.int .i64 Kz) (.int .i64 Iz) (.float .f64 Fz) (.string ⟨#[]⟩) (.slice none 0 0) w' ∧ Below wr.heap.size wr w' ∧ SBX w' gA (.int .i64 0) (.int .i64 0) (.float .f64 0) (.string ⟨#[]⟩) (.slice none 0 0) ∧ wr.heap.size ≤ gA ∧ SBX w' gB (.int .i64 0) (.int .i64 0) (.float .f64 0) (.string ⟨#[]⟩) (.slice none 0 0) ∧ wr.heap.size ≤ gB ∧ gA ≠ gB) ?phK112m (fun hK112 => ?_)
  case phK112m =>
    intro a' w' hst hHeld
    obtain ⟨gA, gB, rfl, hq, hbd, hsA, hgA, hsB, hgB, hne⟩ := hst
    (try simp only [Act.put, pk0, pk1, pk2])
    refine wpAnyH_ready (rs := [4]) (by kernel_rfl) (by simp) ?_
    refine AllReadyH.cons (o := ?_) ?hoXhK112m ?hstXhK112m AllReadyH.nil
    case hoXhK112m => (simp only [lk0, lk1, lk2]; rfl)
    case hstXhK112m =>
      intro K hK
      go_simp
      refine hK.out _ _ ?hsXhK112m (fun hHeld => ?_)
      case hsXhK112m => exact fbc_cells (fbc_step hq (bel_alloc (Below.refl _ _) (.cells #[.int .i64 3, .int .i64 0, .float .f64 0, .string ⟨#[97]⟩, .slice none 0 0, .int .i64 3, .int .i64 0, .float .f64 0, .string ⟨#[98]⟩, .slice none 0 0, .int .i64 Kz, .int .i64 Iz, .float .f64 Fz, .string ⟨#[]⟩, .slice none 0 0] 27)))
      clear hK K
      (try simp only [Act.put, pk0, pk1, pk2])
      exact any_eq (by kernel_rfl) (by kernel_rfl) (hK113 _ _ ⟨gA, gB, _, rfl, (fbc_step hq (bel_alloc (Below.refl _ _) (.cells #[.int .i64 3, .int .i64 0, .float .f64 0, .string ⟨#[97]⟩, .slice none 0 0, .int .i64 3, .int .i64 0, .float .f64 0, .string ⟨#[98]⟩, .slice none 0 0, .int .i64 Kz, .int .i64 Iz, .float .f64 Fz, .string ⟨#[]⟩, .slice none 0 0] 27))), (bel_step hbd (bel_alloc (Below.refl _ _) (.cells #[.int .i64 3, .int .i64 0, .float .f64 0, .string ⟨#[97]⟩, .slice none 0 0, .int .i64 3, .int .i64 0, .float .f64 0, .string ⟨#[98]⟩, .slice none 0 0, .int .i64 Kz, .int .i64 Iz, .float .f64 Fz, .string ⟨#[]⟩, .slice none 0 0] 27))), (sbx_step hsA (bel_alloc (Below.refl _ _) (.cells #[.int .i64 3, .int .i64 0, .float .f64 0, .string ⟨#[97]⟩, .slice none 0 0, .int .i64 3, .int .i64 0, .float .f64 0, .string ⟨#[98]⟩, .slice none 0 0, .int .i64 Kz, .int .i64 Iz, .float .f64 Fz, .string ⟨#[]⟩, .slice none 0 0] 27))), hgA, (sbx_step hsB (bel_alloc (Below.refl _ _) (.cells #[.int .i64 3, .int .i64 0, .float .f64 0, .string ⟨#[97]⟩, .slice none 0 0, .int .i64 3, .int .i64 0, .float .f64 0, .string ⟨#[98]⟩, .slice none 0 0, .int .i64 Kz, .int .i64 Iz, .float .f64 Fz, .string ⟨#[]⟩, .slice none 0 0] 27))), hgB, hne, (la3_new rfl (by decide) (by decide) HOK.out.1 HOK.out.2.1 HOK.out.2.2)⟩ hHeld)
  refine any_have 10 [10, 1, 2] (fun a a' w' => ∃ (gA : Nat), a' = (((a.put (some 10) (.pointer (some ⟨gA, 0, none⟩))).put (some 56) (.agg #[.int .i64 3, .int .i64 0, .float .f64 0, .string ⟨#[97]⟩, .slice none 0 0])).put (some 57) (.agg #[.int .i64 3, .int .i64 0, .float .f64 0, .string ⟨#[98]⟩, .slice none 0 0])) ∧ FBC w sb qs ms ds vb (.int .i64 Kz) (.int .i64 Iz) (.float .f64 Fz) (.string ⟨#[]⟩) (.slice none 0 0) w' ∧ Below wr.heap.size wr w' ∧ SBX w' gA (.int .i64 0) (.int .i64 0) (.float .f64 0) (.string ⟨#[]⟩) (.slice none 0 0) ∧ wr.heap.size ≤ gA) ?phK102m (fun hK102 => ?_)
  case phK102m =>
    intro a' w' hst hHeld
    obtain ⟨gA, rfl, hq, hbd, hsA, hgA⟩ := hst
    (try simp only [Act.put, pk0, pk1, pk2])
    refine wpAnyH_ready (rs := [4, 11]) (by kernel_rfl) (by simp) ?_
    refine AllReadyH.cons (o := ?_) ?hoXhK102m ?hstXhK102m (AllReadyH.cons (o := ?_) ?hoBhK102m ?hstBhK102m AllReadyH.nil)
    case hoXhK102m => (simp only [lk0, lk1, lk2]; rfl)
    case hoBhK102m => (simp only [lk0, lk1, lk2]; rfl)
    case hstXhK102m =>
      intro K hK
      go_simp
      refine hK.out _ _ ?hsXhK102m (fun hHeld => ?_)
      case hsXhK102m => exact fbc_cells (fbc_step hq (bel_alloc (Below.refl _ _) (.cells #[.int .i64 3, .int .i64 0, .float .f64 0, .string ⟨#[97]⟩, .slice none 0 0, .int .i64 3, .int .i64 0, .float .f64 0, .string ⟨#[98]⟩, .slice none 0 0, .int .i64 Kz, .int .i64 Iz, .float .f64 Fz, .string ⟨#[]⟩, .slice none 0 0] 27)))
      clear hK K
      (try simp only [Act.put, pk0, pk1, pk2])
      exact any_eq (by kernel_rfl) (by kernel_rfl) (hK103 _ _ ⟨gA, _, rfl, (fbc_step hq (bel_alloc (Below.refl _ _) (.cells #[.int .i64 3, .int .i64 0, .float .f64 0, .string ⟨#[97]⟩, .slice none 0 0, .int .i64 3, .int .i64 0, .float .f64 0, .string ⟨#[98]⟩, .slice none 0 0, .int .i64 Kz, .int .i64 Iz, .float .f64 Fz, .string ⟨#[]⟩, .slice none 0 0] 27))), (bel_step hbd (bel_alloc (Below.refl _ _) (.cells #[.int .i64 3, .int .i64 0, .float .f64 0, .string ⟨#[97]⟩, .slice none 0 0, .int .i64 3, .int .i64 0, .float .f64 0, .string ⟨#[98]⟩, .slice none 0 0, .int .i64 Kz, .int .i64 Iz, .float .f64 Fz, .string ⟨#[]⟩, .slice none 0 0] 27))), (sbx_step hsA (bel_alloc (Below.refl _ _) (.cells #[.int .i64 3, .int .i64 0, .float .f64 0, .string ⟨#[97]⟩, .slice none 0 0, .int .i64 3, .int .i64 0, .float .f64 0, .string ⟨#[98]⟩, .slice none 0 0, .int .i64 Kz, .int .i64 Iz, .float .f64 Fz, .string ⟨#[]⟩, .slice none 0 0] 27))), hgA, (la3_new rfl (by decide) (by decide) HOK.out.1 HOK.out.2.1 HOK.out.2.2)⟩ hHeld)
    case hstBhK102m =>
      intro K hK
      go_simp
      refine hK.out _ _ ?hsBhK102m (fun hHeld => ?_)
      case hsBhK102m => exact fbc_cells (fbc_step hq bz)
      clear hK K
      (try simp only [Act.put, pk0, pk1, pk2])
      exact any_eq (by kernel_rfl) (by kernel_rfl) (hK112 _ _ ⟨gA, _, rfl, (fbc_step hq bz), (bel_step hbd bz), (sbx_step hsA bz), hgA, ⟨cs_new rfl, fun o => row_frz (row_alloc _ _ _) o⟩, hbd.size, (by have h := cs_lt hsA.1; omega)⟩ hHeld)
  refine any_have 10 [11, 1, 2] (fun a a' w' => ∃ (gB : Nat), a' = (((a.put (some 11) (.pointer (some ⟨gB, 0, none⟩))).put (some 56) (.agg #[.int .i64 3, .int .i64 0, .float .f64 0, .string ⟨#[97]⟩, .slice none 0 0])).put (some 57) (.agg #[.int .i64 3, .int .i64 0, .float .f64 0, .string ⟨#[98]⟩, .slice none 0 0])) ∧ FBC w sb qs ms ds vb (.int .i64 Kz) (.int .i64 Iz) (.float .f64 Fz) (.string ⟨#[]⟩) (.slice none 0 0) w' ∧ Below wr.heap.size wr w' ∧ SBX w' gB (.int .i64 0) (.int .i64 0) (.float .f64 0) (.string ⟨#[]⟩) (.slice none 0 0) ∧ wr.heap.size ≤ gB) ?phK012m (fun hK012 => ?_)
  case phK012m =>
    intro a' w' hst hHeld
    obtain ⟨gB, rfl, hq, hbd, hsB, hgB⟩ := hst
    (try simp only [Act.put, pk0, pk1, pk2])
    refine wpAnyH_ready (rs := [4, 10]) (by kernel_rfl) (by simp) ?_
    refine AllReadyH.cons (o := ?_) ?hoXhK012m ?hstXhK012m (AllReadyH.cons (o := ?_) ?hoAhK012m ?hstAhK012m AllReadyH.nil)
    case hoXhK012m => (simp only [lk0, lk1, lk2]; rfl)
    case hoAhK012m => (simp only [lk0, lk1, lk2]; rfl)
    case hstXhK012m =>
      intro K hK
      go_simp
      refine hK.out _ _ ?hsXhK012m (fun hHeld => ?_)
      case hsXhK012m => exact fbc_cells (fbc_step hq (bel_alloc (Below.refl _ _) (.cells #[.int .i64 3, .int .i64 0, .float .f64 0, .string ⟨#[97]⟩, .slice none 0 0, .int .i64 3, .int .i64 0, .float .f64 0, .string ⟨#[98]⟩, .slice none 0 0, .int .i64 Kz, .int .i64 Iz, .float .f64 Fz, .string ⟨#[]⟩, .slice none 0 0] 27)))
      clear hK K
      (try simp only [Act.put, pk0, pk1, pk2])
      exact any_eq (by kernel_rfl) (by kernel_rfl) (hK013 _ _ ⟨gB, _, rfl, (fbc_step hq (bel_alloc (Below.refl _ _) (.cells #[.int .i64 3, .int .i64 0, .float .f64 0, .string ⟨#[97]⟩, .slice none 0 0, .int .i64 3, .int .i64 0, .float .f64 0, .string ⟨#[98]⟩, .slice none 0 0, .int .i64 Kz, .int .i64 Iz, .float .f64 Fz, .string ⟨#[]⟩, .slice none 0 0] 27))), (bel_step hbd (bel_alloc (Below.refl _ _) (.cells #[.int .i64 3, .int .i64 0, .float .f64 0, .string ⟨#[97]⟩, .slice none 0 0, .int .i64 3, .int .i64 0, .float .f64 0, .string ⟨#[98]⟩, .slice none 0 0, .int .i64 Kz, .int .i64 Iz, .float .f64 Fz, .string ⟨#[]⟩, .slice none 0 0] 27))), (sbx_step hsB (bel_alloc (Below.refl _ _) (.cells #[.int .i64 3, .int .i64 0, .float .f64 0, .string ⟨#[97]⟩, .slice none 0 0, .int .i64 3, .int .i64 0, .float .f64 0, .string ⟨#[98]⟩, .slice none 0 0, .int .i64 Kz, .int .i64 Iz, .float .f64 Fz, .string ⟨#[]⟩, .slice none 0 0] 27))), hgB, (la3_new rfl (by decide) (by decide) HOK.out.1 HOK.out.2.1 HOK.out.2.2)⟩ hHeld)
    case hstAhK012m =>
      intro K hK
      go_simp
      refine hK.out _ _ ?hsAhK012m (fun hHeld => ?_)
      case hsAhK012m => exact fbc_cells (fbc_step hq bz)
      clear hK K
      (try simp only [Act.put, pk0, pk1, pk2])
      exact any_eq (by kernel_rfl) (by kernel_rfl) (hK112 _ _ ⟨_, gB, rfl, (fbc_step hq bz), (bel_step hbd bz), ⟨cs_new rfl, fun o => row_frz (row_alloc _ _ _) o⟩, hbd.size, (sbx_step hsB bz), hgB, (by have h := cs_lt hsB.1; omega)⟩ hHeld)
  refine any_have 11 [1, 2] (fun a a' w' => a' = ((a.put (some 56) (.agg #[.int .i64 3, .int .i64 0, .float .f64 0, .string ⟨#[97]⟩, .slice none 0 0])).put (some 57) (.agg #[.int .i64 3, .int .i64 0, .float .f64 0, .string ⟨#[98]⟩, .slice none 0 0])) ∧ FBC w sb qs ms ds vb (.int .i64 Kz) (.int .i64 Iz) (.float .f64 Fz) (.string ⟨#[]⟩) (.slice none 0 0) w' ∧ Below wr.heap.size wr w') ?phK002m (fun hK002 => ?_)
  case phK002m =>
    intro a' w' hst hHeld
    obtain ⟨rfl, hq, hbd⟩ := hst
    (try simp only [Act.put, pk0, pk1, pk2])
    refine wpAnyH_ready (rs := [4, 10, 11]) (by kernel_rfl) (by simp) ?_
    refine AllReadyH.cons (o := ?_) ?hoXhK002m ?hstXhK002m (AllReadyH.cons (o := ?_) ?hoAhK002m ?hstAhK002m (AllReadyH.cons (o := ?_) ?hoBhK002m ?hstBhK002m AllReadyH.nil))
    case hoXhK002m => (simp only [lk0, lk1, lk2]; rfl)
    case hoAhK002m => (simp only [lk0, lk1, lk2]; rfl)
    case hoBhK002m => (simp only [lk0, lk1, lk2]; rfl)
    case hstXhK002m =>
      intro K hK
      go_simp
      refine hK.out _ _ ?hsXhK002m (fun hHeld => ?_)
      case hsXhK002m => exact fbc_cells (fbc_step hq (bel_alloc (Below.refl _ _) (.cells #[.int .i64 3, .int .i64 0, .float .f64 0, .string ⟨#[97]⟩, .slice none 0 0, .int .i64 3, .int .i64 0, .float .f64 0, .string ⟨#[98]⟩, .slice none 0 0, .int .i64 Kz, .int .i64 Iz, .float .f64 Fz, .string ⟨#[]⟩, .slice none 0 0] 27)))
      clear hK K
      (try simp only [Act.put, pk0, pk1, pk2])
      exact any_eq (by kernel_rfl) (by kernel_rfl) (hK003 _ _ ⟨_, rfl, (fbc_step hq (bel_alloc (Below.refl _ _) (.cells #[.int .i64 3, .int .i64 0, .float .f64 0, .string ⟨#[97]⟩, .slice none 0 0, .int .i64 3, .int .i64 0, .float .f64 0, .string ⟨#[98]⟩, .slice none 0 0, .int .i64 Kz, .int .i64 Iz, .float .f64 Fz, .string ⟨#[]⟩, .slice none 0 0] 27))), (bel_step hbd (bel_alloc (Below.refl _ _) (.cells #[.int .i64 3, .int .i64 0, .float .f64 0, .string ⟨#[97]⟩, .slice none 0 0, .int .i64 3, .int .i64 0, .float .f64 0, .string ⟨#[98]⟩, .slice none 0 0, .int .i64 Kz, .int .i64 Iz, .float .f64 Fz, .string ⟨#[]⟩, .slice none 0 0] 27))), (la3_new rfl (by decide) (by decide) HOK.out.1 HOK.out.2.1 HOK.out.2.2)⟩ hHeld)
    case hstAhK002m =>
      intro K hK
      go_simp
      refine hK.out _ _ ?hsAhK002m (fun hHeld => ?_)
      case hsAhK002m => exact fbc_cells (fbc_step hq bz)
      clear hK K
      (try simp only [Act.put, pk0, pk1, pk2])
      exact any_eq (by kernel_rfl) (by kernel_rfl) (hK102 _ _ ⟨_, rfl, (fbc_step hq bz), (bel_step hbd bz), ⟨cs_new rfl, fun o => row_frz (row_alloc _ _ _) o⟩, hbd.size⟩ hHeld)
    case hstBhK002m =>
      intro K hK
      go_simp
      refine hK.out _ _ ?hsBhK002m (fun hHeld => ?_)
      case hsBhK002m => exact fbc_cells (fbc_step hq bz)
      clear hK K
      (try simp only [Act.put, pk0, pk1, pk2])
      exact any_eq (by kernel_rfl) (by kernel_rfl) (hK012 _ _ ⟨_, rfl, (fbc_step hq bz), (bel_step hbd bz), ⟨cs_new rfl, fun o => row_frz (row_alloc _ _ _) o⟩, hbd.size⟩ hHeld)
  refine any_have 10 [10, 11, 1] (fun a a' w' => ∃ (gA gB : Nat), a' = (((a.put (some 10) (.pointer (some ⟨gA, 0, none⟩))).put (some 11) (.pointer (some ⟨gB, 0, none⟩))).put (some 56) (.agg #[.int .i64 3, .int .i64 0, .float .f64 0, .string ⟨#[97]⟩, .slice none 0 0])) ∧ FBC w sb qs ms ds vb (.int .i64 Kz) (.int .i64 Iz) (.float .f64 Fz) (.string ⟨#[]⟩) (.slice none 0 0) w' ∧ Below wr.heap.size wr w' ∧ SBX w' gA (.int .i64 0) (.int .i64 0) (.float .f64 0) (.string ⟨#[]⟩) (.slice none 0 0) ∧ wr.heap.size ≤ gA ∧ SBX w' gB (.int .i64 0) (.int .i64 0) (.float .f64 0) (.string ⟨#[]⟩) (.slice none 0 0) ∧ wr.heap.size ≤ gB ∧ gA ≠ gB) ?phK111m (fun hK111 => ?_)
  case phK111m =>
    intro a' w' hst hHeld
    obtain ⟨gA, gB, rfl, hq, hbd, hsA, hgA, hsB, hgB, hne⟩ := hst
    (try simp only [Act.put, pk0, pk1, pk2])
    refine wpAnyH_ready (rs := [2]) (by kernel_rfl) (by simp) ?_
    refine AllReadyH.cons (o := ?_) ?hoXhK111m ?hstXhK111m AllReadyH.nil
    case hoXhK111m => (simp only [lk0, lk1, lk2]; rfl)
    case hstXhK111m =>
      intro K hK
      go_simp
      go_at_call 19; refine (text_ref_any _ _).mono ?_; rintro e wT ⟨rfl, hbT⟩
      go_wp2_with fail
      refine hK.out _ _ ?hsXhK111m (fun hHeld => ?_)
      case hsXhK111m => exact fbc_cells (fbc_step hq hbT)
      clear hK K
      (try simp only [Act.put, pk0, pk1, pk2])
      exact any_eq (by kernel_rfl) (by kernel_rfl) (hK112 _ _ ⟨gA, gB, rfl, (fbc_step hq hbT), (bel_step hbd hbT), (sbx_step hsA hbT), hgA, (sbx_step hsB hbT), hgB, hne⟩ hHeld)
  refine any_have 11 [10, 1] (fun a a' w' => ∃ (gA : Nat), a' = ((a.put (some 10) (.pointer (some ⟨gA, 0, none⟩))).put (some 56) (.agg #[.int .i64 3, .int .i64 0, .float .f64 0, .string ⟨#[97]⟩, .slice none 0 0])) ∧ FBC w sb qs ms ds vb (.int .i64 Kz) (.int .i64 Iz) (.float .f64 Fz) (.string ⟨#[]⟩) (.slice none 0 0) w' ∧ Below wr.heap.size wr w' ∧ SBX w' gA (.int .i64 0) (.int .i64 0) (.float .f64 0) (.string ⟨#[]⟩) (.slice none 0 0) ∧ wr.heap.size ≤ gA) ?phK101m (fun hK101 => ?_)
  case phK101m =>
    intro a' w' hst hHeld
    obtain ⟨gA, rfl, hq, hbd, hsA, hgA⟩ := hst
    (try simp only [Act.put, pk0, pk1, pk2])
    refine wpAnyH_ready (rs := [2, 11]) (by kernel_rfl) (by simp) ?_
    refine AllReadyH.cons (o := ?_) ?hoXhK101m ?hstXhK101m (AllReadyH.cons (o := ?_) ?hoBhK101m ?hstBhK101m AllReadyH.nil)
    case hoXhK101m => (simp only [lk0, lk1, lk2]; rfl)
    case hoBhK101m => (simp only [lk0, lk1, lk2]; rfl)
    case hstXhK101m =>
      intro K hK
      go_simp
      go_at_call 19; refine (text_ref_any _ _).mono ?_; rintro e wT ⟨rfl, hbT⟩
      go_wp2_with fail
      refine hK.out _ _ ?hsXhK101m (fun hHeld => ?_)
      case hsXhK101m => exact fbc_cells (fbc_step hq hbT)
      clear hK K
      (try simp only [Act.put, pk0, pk1, pk2])
      exact any_eq (by kernel_rfl) (by kernel_rfl) (hK102 _ _ ⟨gA, rfl, (fbc_step hq hbT), (bel_step hbd hbT), (sbx_step hsA hbT), hgA⟩ hHeld)
    case hstBhK101m =>
      intro K hK
      go_simp
      refine hK.out _ _ ?hsBhK101m (fun hHeld => ?_)
      case hsBhK101m => exact fbc_cells (fbc_step hq bz)
      clear hK K
      (try simp only [Act.put, pk0, pk1, pk2])
      exact any_eq (by kernel_rfl) (by kernel_rfl) (hK111 _ _ ⟨gA, _, rfl, (fbc_step hq bz), (bel_step hbd bz), (sbx_step hsA bz), hgA, ⟨cs_new rfl, fun o => row_frz (row_alloc _ _ _) o⟩, hbd.size, (by have h := cs_lt hsA.1; omega)⟩ hHeld)
  refine any_have 11 [11, 1] (fun a a' w' => ∃ (gB : Nat), a' = ((a.put (some 11) (.pointer (some ⟨gB, 0, none⟩))).put (some 56) (.agg #[.int .i64 3, .int .i64 0, .float .f64 0, .string ⟨#[97]⟩, .slice none 0 0])) ∧ FBC w sb qs ms ds vb (.int .i64 Kz) (.int .i64 Iz) (.float .f64 Fz) (.string ⟨#[]⟩) (.slice none 0 0) w' ∧ Below wr.heap.size wr w' ∧ SBX w' gB (.int .i64 0) (.int .i64 0) (.float .f64 0) (.string ⟨#[]⟩) (.slice none 0 0) ∧ wr.heap.size ≤ gB) ?phK011m (fun hK011 => ?_)
  case phK011m =>
    intro a' w' hst hHeld
    obtain ⟨gB, rfl, hq, hbd, hsB, hgB⟩ := hst
    (try simp only [Act.put, pk0, pk1, pk2])
    refine wpAnyH_ready (rs := [2, 10]) (by kernel_rfl) (by simp) ?_
    refine AllReadyH.cons (o := ?_) ?hoXhK011m ?hstXhK011m (AllReadyH.cons (o := ?_) ?hoAhK011m ?hstAhK011m AllReadyH.nil)
    case hoXhK011m => (simp only [lk0, lk1, lk2]; rfl)
    case hoAhK011m => (simp only [lk0, lk1, lk2]; rfl)
    case hstXhK011m =>
      intro K hK
      go_simp
      go_at_call 19; refine (text_ref_any _ _).mono ?_; rintro e wT ⟨rfl, hbT⟩
      go_wp2_with fail
      refine hK.out _ _ ?hsXhK011m (fun hHeld => ?_)
      case hsXhK011m => exact fbc_cells (fbc_step hq hbT)
      clear hK K
      (try simp only [Act.put, pk0, pk1, pk2])
      exact any_eq (by kernel_rfl) (by kernel_rfl) (hK012 _ _ ⟨gB, rfl, (fbc_step hq hbT), (bel_step hbd hbT), (sbx_step hsB hbT), hgB⟩ hHeld)
    case hstAhK011m =>
      intro K hK
      go_simp
      refine hK.out _ _ ?hsAhK011m (fun hHeld => ?_)
      case hsAhK011m => exact fbc_cells (fbc_step hq bz)
      clear hK K
      (try simp only [Act.put, pk0, pk1, pk2])
      exact any_eq (by kernel_rfl) (by kernel_rfl) (hK111 _ _ ⟨_, gB, rfl, (fbc_step hq bz), (bel_step hbd bz), ⟨cs_new rfl, fun o => row_frz (row_alloc _ _ _) o⟩, hbd.size, (sbx_step hsB bz), hgB, (by have h := cs_lt hsB.1; omega)⟩ hHeld)
  refine any_have 12 [1] (fun a a' w' => a' = (a.put (some 56) (.agg #[.int .i64 3, .int .i64 0, .float .f64 0, .string ⟨#[97]⟩, .slice none 0 0])) ∧ FBC w sb qs ms ds vb (.int .i64 Kz) (.int .i64 Iz) (.float .f64 Fz) (.string ⟨#[]⟩) (.slice none 0 0) w' ∧ Below wr.heap.size wr w') ?phK001m (fun hK001 => ?_)
  case phK001m =>
    intro a' w' hst hHeld
    obtain ⟨rfl, hq, hbd⟩ := hst
    (try simp only [Act.put, pk0, pk1, pk2])
    refine wpAnyH_ready (rs := [2, 10, 11]) (by kernel_rfl) (by simp) ?_
    refine AllReadyH.cons (o := ?_) ?hoXhK001m ?hstXhK001m (AllReadyH.cons (o := ?_) ?hoAhK001m ?hstAhK001m (AllReadyH.cons (o := ?_) ?hoBhK001m ?hstBhK001m AllReadyH.nil))
    case hoXhK001m => (simp only [lk0, lk1, lk2]; rfl)
    case hoAhK001m => (simp only [lk0, lk1, lk2]; rfl)
    case hoBhK001m => (simp only [lk0, lk1, lk2]; rfl)
    case hstXhK001m =>
      intro K hK
      go_simp
      go_at_call 19; refine (text_ref_any _ _).mono ?_; rintro e wT ⟨rfl, hbT⟩
      go_wp2_with fail
      refine hK.out _ _ ?hsXhK001m (fun hHeld => ?_)
      case hsXhK001m => exact fbc_cells (fbc_step hq hbT)
      clear hK K
      (try simp only [Act.put, pk0, pk1, pk2])
      exact any_eq (by kernel_rfl) (by kernel_rfl) (hK002 _ _ ⟨rfl, (fbc_step hq hbT), (bel_step hbd hbT)⟩ hHeld)
    case hstAhK001m =>
      intro K hK
      go_simp
      refine hK.out _ _ ?hsAhK001m (fun hHeld => ?_)
      case hsAhK001m => exact fbc_cells (fbc_step hq bz)
      clear hK K
      (try simp only [Act.put, pk0, pk1, pk2])
      exact any_eq (by kernel_rfl) (by kernel_rfl) (hK101 _ _ ⟨_, rfl, (fbc_step hq bz), (bel_step hbd bz), ⟨cs_new rfl, fun o => row_frz (row_alloc _ _ _) o⟩, hbd.size⟩ hHeld)
    case hstBhK001m =>
      intro K hK
      go_simp
      refine hK.out _ _ ?hsBhK001m (fun hHeld => ?_)
      case hsBhK001m => exact fbc_cells (fbc_step hq bz)
      clear hK K
      (try simp only [Act.put, pk0, pk1, pk2])
      exact any_eq (by kernel_rfl) (by kernel_rfl) (hK011 _ _ ⟨_, rfl, (fbc_step hq bz), (bel_step hbd bz), ⟨cs_new rfl, fun o => row_frz (row_alloc _ _ _) o⟩, hbd.size⟩ hHeld)
  refine any_have 11 [10, 11] (fun a a' w' => ∃ (gA gB : Nat), a' = ((a.put (some 10) (.pointer (some ⟨gA, 0, none⟩))).put (some 11) (.pointer (some ⟨gB, 0, none⟩))) ∧ FBC w sb qs ms ds vb (.int .i64 Kz) (.int .i64 Iz) (.float .f64 Fz) (.string ⟨#[]⟩) (.slice none 0 0) w' ∧ Below wr.heap.size wr w' ∧ SBX w' gA (.int .i64 0) (.int .i64 0) (.float .f64 0) (.string ⟨#[]⟩) (.slice none 0 0) ∧ wr.heap.size ≤ gA ∧ SBX w' gB (.int .i64 0) (.int .i64 0) (.float .f64 0) (.string ⟨#[]⟩) (.slice none 0 0) ∧ wr.heap.size ≤ gB ∧ gA ≠ gB) ?phK110m (fun hK110 => ?_)
  case phK110m =>
    intro a' w' hst hHeld
    obtain ⟨gA, gB, rfl, hq, hbd, hsA, hgA, hsB, hgB, hne⟩ := hst
    (try simp only [Act.put, pk0, pk1, pk2])
    refine wpAnyH_ready (rs := [1]) (by kernel_rfl) (by simp) ?_
    refine AllReadyH.cons (o := ?_) ?hoXhK110m ?hstXhK110m AllReadyH.nil
    case hoXhK110m => (simp only [lk0, lk1, lk2]; rfl)
    case hstXhK110m =>
      intro K hK
      go_simp
      go_at_call 19; refine (text_ref_any _ _).mono ?_; rintro e wT ⟨rfl, hbT⟩
      go_wp2_with fail
      refine hK.out _ _ ?hsXhK110m (fun hHeld => ?_)
      case hsXhK110m => exact fbc_cells (fbc_step hq hbT)
      clear hK K
      (try simp only [Act.put, pk0, pk1, pk2])
      exact any_eq (by kernel_rfl) (by kernel_rfl) (hK111 _ _ ⟨gA, gB, rfl, (fbc_step hq hbT), (bel_step hbd hbT), (sbx_step hsA hbT), hgA, (sbx_step hsB hbT), hgB, hne⟩ hHeld)
  refine any_have 12 [10] (fun a a' w' => ∃ (gA : Nat), a' = (a.put (some 10) (.pointer (some ⟨gA, 0, none⟩))) ∧ FBC w sb qs ms ds vb (.int .i64 Kz) (.int .i64 Iz) (.float .f64 Fz) (.string ⟨#[]⟩) (.slice none 0 0) w' ∧ Below wr.heap.size wr w' ∧ SBX w' gA (.int .i64 0) (.int .i64 0) (.float .f64 0) (.string ⟨#[]⟩) (.slice none 0 0) ∧ wr.heap.size ≤ gA) ?phK100m (fun hK100 => ?_)
  case phK100m =>
    intro a' w' hst hHeld
    obtain ⟨gA, rfl, hq, hbd, hsA, hgA⟩ := hst
    (try simp only [Act.put, pk0, pk1, pk2])
    refine wpAnyH_ready (rs := [1, 11]) (by kernel_rfl) (by simp) ?_
    refine AllReadyH.cons (o := ?_) ?hoXhK100m ?hstXhK100m (AllReadyH.cons (o := ?_) ?hoBhK100m ?hstBhK100m AllReadyH.nil)
    case hoXhK100m => (simp only [lk0, lk1, lk2]; rfl)
    case hoBhK100m => (simp only [lk0, lk1, lk2]; rfl)
    case hstXhK100m =>
      intro K hK
      go_simp
      go_at_call 19; refine (text_ref_any _ _).mono ?_; rintro e wT ⟨rfl, hbT⟩
      go_wp2_with fail
      refine hK.out _ _ ?hsXhK100m (fun hHeld => ?_)
      case hsXhK100m => exact fbc_cells (fbc_step hq hbT)
      clear hK K
      (try simp only [Act.put, pk0, pk1, pk2])
      exact any_eq (by kernel_rfl) (by kernel_rfl) (hK101 _ _ ⟨gA, rfl, (fbc_step hq hbT), (bel_step hbd hbT), (sbx_step hsA hbT), hgA⟩ hHeld)
    case hstBhK100m =>
      intro K hK
      go_simp
      refine hK.out _ _ ?hsBhK100m (fun hHeld => ?_)
      case hsBhK100m => exact fbc_cells (fbc_step hq bz)
      clear hK K
      (try simp only [Act.put, pk0, pk1, pk2])
      exact any_eq (by kernel_rfl) (by kernel_rfl) (hK110 _ _ ⟨gA, _, rfl, (fbc_step hq bz), (bel_step hbd bz), (sbx_step hsA bz), hgA, ⟨cs_new rfl, fun o => row_frz (row_alloc _ _ _) o⟩, hbd.size, (by have h := cs_lt hsA.1; omega)⟩ hHeld)
  refine any_have 12 [11] (fun a a' w' => ∃ (gB : Nat), a' = (a.put (some 11) (.pointer (some ⟨gB, 0, none⟩))) ∧ FBC w sb qs ms ds vb (.int .i64 Kz) (.int .i64 Iz) (.float .f64 Fz) (.string ⟨#[]⟩) (.slice none 0 0) w' ∧ Below wr.heap.size wr w' ∧ SBX w' gB (.int .i64 0) (.int .i64 0) (.float .f64 0) (.string ⟨#[]⟩) (.slice none 0 0) ∧ wr.heap.size ≤ gB) ?phK010m (fun hK010 => ?_)
  case phK010m =>
    intro a' w' hst hHeld
    obtain ⟨gB, rfl, hq, hbd, hsB, hgB⟩ := hst
    (try simp only [Act.put, pk0, pk1, pk2])
    refine wpAnyH_ready (rs := [1, 10]) (by kernel_rfl) (by simp) ?_
    refine AllReadyH.cons (o := ?_) ?hoXhK010m ?hstXhK010m (AllReadyH.cons (o := ?_) ?hoAhK010m ?hstAhK010m AllReadyH.nil)
    case hoXhK010m => (simp only [lk0, lk1, lk2]; rfl)
    case hoAhK010m => (simp only [lk0, lk1, lk2]; rfl)
    case hstXhK010m =>
      intro K hK
      go_simp
      go_at_call 19; refine (text_ref_any _ _).mono ?_; rintro e wT ⟨rfl, hbT⟩
      go_wp2_with fail
      refine hK.out _ _ ?hsXhK010m (fun hHeld => ?_)
      case hsXhK010m => exact fbc_cells (fbc_step hq hbT)
      clear hK K
      (try simp only [Act.put, pk0, pk1, pk2])
      exact any_eq (by kernel_rfl) (by kernel_rfl) (hK011 _ _ ⟨gB, rfl, (fbc_step hq hbT), (bel_step hbd hbT), (sbx_step hsB hbT), hgB⟩ hHeld)
    case hstAhK010m =>
      intro K hK
      go_simp
      refine hK.out _ _ ?hsAhK010m (fun hHeld => ?_)
      case hsAhK010m => exact fbc_cells (fbc_step hq bz)
      clear hK K
      (try simp only [Act.put, pk0, pk1, pk2])
      exact any_eq (by kernel_rfl) (by kernel_rfl) (hK110 _ _ ⟨_, gB, rfl, (fbc_step hq bz), (bel_step hbd bz), ⟨cs_new rfl, fun o => row_frz (row_alloc _ _ _) o⟩, hbd.size, (sbx_step hsB bz), hgB, (by have h := cs_lt hsB.1; omega)⟩ hHeld)
  refine wpAnyH_ready (rs := [1, 10, 11]) (by kernel_rfl) (by simp) ?_
  refine AllReadyH.cons (o := ?_) ?hoXzm ?hstXzm (AllReadyH.cons (o := ?_) ?hoAzm ?hstAzm (AllReadyH.cons (o := ?_) ?hoBzm ?hstBzm AllReadyH.nil))
  case hoXzm => (simp only [lk0, lk1, lk2]; rfl)
  case hoAzm => (simp only [lk0, lk1, lk2]; rfl)
  case hoBzm => (simp only [lk0, lk1, lk2]; rfl)
  case hstXzm =>
    intro K hK
    go_simp
    go_at_call 19; refine (text_ref_any _ _).mono ?_; rintro e wT ⟨rfl, hbT⟩
    go_wp2_with fail
    refine hK.out _ _ ?hsXzm (fun hHeld => ?_)
    case hsXzm => exact fbc_cells (fbc_step hq hbT)
    clear hK K
    (try simp only [Act.put, pk0, pk1, pk2])
    exact any_eq (by kernel_rfl) (by kernel_rfl) (hK001 _ _ ⟨rfl, (fbc_step hq hbT), (bel_step hbd hbT)⟩ hHeld)
  case hstAzm =>
    intro K hK
    go_simp
    refine hK.out _ _ ?hsAzm (fun hHeld => ?_)
    case hsAzm => exact fbc_cells (fbc_step hq bz)
    clear hK K
    (try simp only [Act.put, pk0, pk1, pk2])
    exact any_eq (by kernel_rfl) (by kernel_rfl) (hK100 _ _ ⟨_, rfl, (fbc_step hq bz), (bel_step hbd bz), ⟨cs_new rfl, fun o => row_frz (row_alloc _ _ _) o⟩, hbd.size⟩ hHeld)
  case hstBzm =>
    intro K hK
    go_simp
    refine hK.out _ _ ?hsBzm (fun hHeld => ?_)
    case hsBzm => exact fbc_cells (fbc_step hq bz)
    clear hK K
    (try simp only [Act.put, pk0, pk1, pk2])
    exact any_eq (by kernel_rfl) (by kernel_rfl) (hK010 _ _ ⟨_, rfl, (fbc_step hq bz), (bel_step hbd bz), ⟨cs_new rfl, fun o => row_frz (row_alloc _ _ _) o⟩, hbd.size⟩ hHeld)
end Num
end Go.Proofs.YtpbfaffheigjcaaGreat
