/-
  LedgerNever: a call of ledger.Do, its results laid in boxes (region 11).
-/
import Derived.Test.YteodljkcbddehaaJMI
import Derived.Test.YteodljkcbddehaaJXl
import Derived.Test.YteodljkcbddehaaJYLf
import Derived.Test.YteodljkcbddehaaJp15YE
namespace Go.Proofs.Yteodljkcbddehaa
open Go.RowKit
namespace Num
open Ints
set_option linter.unusedSimpArgs false
set_option linter.unusedVariables false
theorem rep_ofS {w' : World} {B : Nat} {v : Value} {T : VT 3} (h : RepS (fun b => B ≤ b) w' 3 v T) : ∀ y : World, (∀ b, B ≤ b → b < w'.heap.size → y.heap[b]? = w'.heap[b]?) → Rep y 3 v T := fun y hy => repS_rep _ _ _ (repS_keep (fun b hb => hy b hb.1 hb.2) _ _ _ (repS_lt _ _ _ h))
theorem stay_set2 {B : Nat} {x y : World} (h : Stay B x y) {g : Nat} (hg : g < B ∨ x.heap.size ≤ g) (u0 u1 u2 u3 u4 : Value) : Stay B x (set5 y g 0 u0 u1 u2 u3 u4) := fun b h1 h2 => (set5_other (by omega)).trans (h b h1 h2)
def regionByN (n : Nat) : Code → Option Code
  | .region i ops d => if i = n then some (.region i ops d) else none
  | .seq a b => match regionByN n a with
    | some c => some c
    | none => regionByN n b
  | .cond _ a b => match regionByN n a with
    | some c => some c
    | none => regionByN n b
  | .block _ c => regionByN n c
  | .loop c => regionByN n c
  | .scope c => regionByN n c
  | _ => none
set_option maxRecDepth 1000000 in
set_option maxHeartbeats 8000000 in
theorem nev11_any (w : World) (b off l c i k : Nat) (q : Option Addr) (m d : Nat) (sb : Nat) (ps : Option Addr) (ls cs : Nat) (wr : World) (c1 c2 c5 c6 c7 c8 c9 c10 c11 c12 c13 c14 c15 c16 c17 c18 c19 c20 c21 c22 c23 c24 c25 c26 c27 c28 c29 c30 c31 c32 c33 c34 c35 c36 c37 c38 c39 c40 c41 c42 c43 c44 c45 c46 c47 c48 c49 c50 c51 c52 c53 c54 c55 c56 c57 c58 c59 c60 c61 c62 c63 c64 c65 c66 c67 c68 c69 c70 c71 c72 c73 c74 c75 c76 c77 c78 c79 c80 c81 c82 c83 c84 c85 c86 c87 c88 c89 c90 c91 c92 c93 c94 c95 c96 c97 c98 c99 c100 c101 c102 : Value) (Q : Exit → Act → World → Prop) (hP : ∀ p a (d : Option Tmp) v w, Q (.panic p) (Act.put a d v) w → Q (.panic p) a w)
    (TR0 : Hid (wr.heap[sb]? = some (.cells #[.int .i64 4, .int .i64 0, .float .f64 0, .string ⟨#[]⟩, .slice ps ls cs] 27 (0, 0)) ∧ Below w.heap.size w wr)) (hk0 : w.cell? ⟨b, off + i * 2, none⟩ = some (.int .u8 (k : Nat))) (hk1 : w.cell? ⟨b, off + i * 2 + 1, none⟩ = some (.slice q m d)) (hk : k < 256) (hbl : b < w.heap.size) (hsb : w.heap.size ≤ sb) (hi0 : (0 : Int) ≤ (i : Int)) (hil : (i : Int) < (l : Int))
    (HDO : Hid (∀ W, Below wr.heap.size wr W → Calls Try.prog 7 #[.agg #[.int .i64 4, .int .i64 0, .float .f64 0, .string ⟨#[]⟩, .slice ps ls cs], .string (mthN (k % 8)), .slice q m d] W fun e w' => LdoW W e w'))
    (hQ : ∀ (gA gB : Nat) (Kt It : Int) (Ft : Nat) (St : ByteArray) (qt : Option Addr) (mt dt : Nat) (Ku Iu : Int) (Fu : Nat) (Su : ByteArray) (qu : Option Addr) (mu du : Nat) (z : Int) (wy : World), sb < gA → sb < gB → wr.heap.size ≤ wy.heap.size → (wy.heap[sb]? = some (.cells #[.int .i64 4, .int .i64 0, .float .f64 0, .string ⟨#[]⟩, .slice ps ls cs] 27 (0, 0)) ∧ wy.heap[gA]? = some (.cells #[.int .i64 Kt, .int .i64 It, .float .f64 Ft, .string St, .slice qt mt dt] 27 (0, 0)) ∧ wy.heap[gB]? = some (.cells #[.int .i64 Ku, .int .i64 Iu, .float .f64 Fu, .string Su, .slice qu mu du] 27 (0, 0)) ∧ Below w.heap.size w wy) → Hid ((z = 0 → ∃ AS2, OkA AS2 ∧ ∀ (y : World), (∀ b, b ≠ sb → b < wy.heap.size → y.heap[b]? = wy.heap[b]?) → Rep y 3 (.agg #[.int .i64 Kt, .int .i64 It, .float .f64 Ft, .string St, .slice qt mt dt]) (tableT 0 (ledA AS2)))) → Below (wr.heap.size) wr wy → Q .normal { tmps := #[(.slice (some ⟨b, off, none⟩) l c), c1, c2, (.pointer (some ⟨sb, 0, none⟩)), (.int .i64 (i : Nat)), (.pointer (some ⟨gA, 0, none⟩)), (.pointer (some ⟨gB, 0, none⟩)), (.int .i64 z), c8, c9, c10, c11, c12, c13, c14, c15, c16, c17, c18, c19, c20, c21, c22, c23, c24, c25, c26, c27, (.tuple #[.agg #[.int .i64 Kt, .int .i64 It, .float .f64 Ft, .string St, .slice qt mt dt], .agg #[.int .i64 Ku, .int .i64 Iu, .float .f64 Fu, .string Su, .slice qu mu du], .int .i64 z]), (.agg #[.int .i64 4, .int .i64 0, .float .f64 0, .string ⟨#[]⟩, .slice ps ls cs]), (.slice (some ⟨b, off, none⟩) l c), (.int .i64 (i : Nat)), (.pointer (some ⟨b, off + i * 2, none⟩)), (.pointer (some ⟨b, off + i * 2, none⟩)), (.int .u8 (k : Nat)), (.string (mthN (k % 8))), (.slice (some ⟨b, off, none⟩) l c), (.int .i64 (i : Nat)), (.pointer (some ⟨b, off + i * 2, none⟩)), (.pointer (some ⟨b, off + i * 2 + 1, none⟩)), (.slice q m d), (.tuple #[.agg #[.int .i64 Kt, .int .i64 It, .float .f64 Ft, .string St, .slice qt mt dt], .agg #[.int .i64 Ku, .int .i64 Iu, .float .f64 Fu, .string Su, .slice qu mu du], .int .i64 z]), (.agg #[.int .i64 Kt, .int .i64 It, .float .f64 Ft, .string St, .slice qt mt dt]), (.agg #[.int .i64 Ku, .int .i64 Iu, .float .f64 Fu, .string Su, .slice qu mu du]), (.int .i64 z), c45, c46, c47, c48, c49, c50, c51, c52, c53, c54, c55, c56, c57, c58, c59, c60, c61, c62, c63, c64, c65, c66, c67, c68, c69, c70, c71, c72, c73, c74, c75, c76, c77, c78, c79, c80, c81, c82, c83, c84, c85, c86, c87, c88, c89, c90, c91, c92, c93, c94, c95, c96, c97, c98, c99, c100, c101, c102], defers := [] } wy) :
    Code.wp Try.prog ((Try.f3.body.bind (regionByN 11)).getD .skip) Q { tmps := #[(.slice (some ⟨b, off, none⟩) l c), c1, c2, (.pointer (some ⟨sb, 0, none⟩)), (.int .i64 (i : Nat)), c5, c6, c7, c8, c9, c10, c11, c12, c13, c14, c15, c16, c17, c18, c19, c20, c21, c22, c23, c24, c25, c26, c27, c28, c29, c30, c31, c32, c33, c34, c35, c36, c37, c38, c39, c40, c41, c42, c43, c44, c45, c46, c47, c48, c49, c50, c51, c52, c53, c54, c55, c56, c57, c58, c59, c60, c61, c62, c63, c64, c65, c66, c67, c68, c69, c70, c71, c72, c73, c74, c75, c76, c77, c78, c79, c80, c81, c82, c83, c84, c85, c86, c87, c88, c89, c90, c91, c92, c93, c94, c95, c96, c97, c98, c99, c100, c101, c102], defers := [] } wr := by
  conv => arg 2; whnf
  have HK := Lib.hid (show ∀ W, Below w.heap.size w W → W.cell? ⟨b, off + i * 2, none⟩ = some (.int .u8 (k : Nat)) ∧ W.cell? ⟨b, off + i * 2 + 1, none⟩ = some (.slice q m d) from fun W hb => ⟨ck hb hk0, ck hb hk1⟩)
  clear hk0 hk1
  have HDW := Lib.hid (show (ZL wr.drew sb ps ls cs) ∧ Below w.heap.size w wr.drew ∧ Below wr.heap.size wr wr.drew from ⟨row_step TR0.out.1 (Below.drew br), bel_step TR0.out.2 (Below.drew br), Below.drew br⟩)
  clear TR0
  refine wp_region_held_drew (S := (fun z => z.cell? ⟨sb, 0, none⟩ = some (.int .i64 4) ∧ z.cell? ⟨sb, 1, none⟩ = some (.int .i64 0) ∧ z.cell? ⟨sb, 2, none⟩ = some (.float .f64 0) ∧ z.cell? ⟨sb, 3, none⟩ = some (.string ⟨#[]⟩) ∧ z.cell? ⟨sb, 4, none⟩ = some (.slice ps ls cs) ∧ z.cell? ⟨b, off + i * 2, none⟩ = some (.int .u8 (k : Nat)) ∧ z.cell? ⟨b, off + i * 2 + 1, none⟩ = some (.slice q m d))) (by kernel_rfl) ?_ (fun hH => ?_)
  · exact ⟨rc HDW.out.1 0, rc HDW.out.1 1, rc HDW.out.1 2, rc HDW.out.1 3, rc HDW.out.1 4, (HK.out _ HDW.out.2.1).1, (HK.out _ HDW.out.2.1).2⟩
  revert HDW hH
  generalize wr.drew = Wd
  intro HDW hH
  have hR := HDW.out.1
  have hbd := HDW.out.2.1
  have hbr := HDW.out.2.2
  refine zt [0, 1, 2, 3, 4, 5, 7, 8, 9, 10, 11] ?_
  iterate 11 (refine zt1 hP (by simp only [lk0, lk1, lk2]; rfl) (by kernel_rfl) (by assumption) (by rfl) (fun w h => by (try dsimp only at h); go_simp; (try with_reducible rfl)) ?_; (try simp only [Act.put, pk0, pk1, pk2]))
  refine zt0 ?_
  refine any_have 3 [6, 12, 13, 14, 15, 16, 17, 18] (fun a a' w' => ∃ (Kt : Int) (It : Int) (Ft : Nat) (St : ByteArray) (qt : Option Addr) (mt : Nat) (dt : Nat) (Ku : Int) (Iu : Int) (Fu : Nat) (Su : ByteArray) (qu : Option Addr) (mu : Nat) (du : Nat) (z : Int) (B : Nat) (wD : World) (gA : Nat) (gB : Nat), a' = ((((((((a.put (some 35) (.string (mthN (k % 8)))).put (some 41) (.tuple #[.agg #[.int .i64 Kt, .int .i64 It, .float .f64 Ft, .string St, .slice qt mt dt], .agg #[.int .i64 Ku, .int .i64 Iu, .float .f64 Fu, .string Su, .slice qu mu du], .int .i64 z])).put (some 28) (.tuple #[.agg #[.int .i64 Kt, .int .i64 It, .float .f64 Ft, .string St, .slice qt mt dt], .agg #[.int .i64 Ku, .int .i64 Iu, .float .f64 Fu, .string Su, .slice qu mu du], .int .i64 z])).put (some 42) (.agg #[.int .i64 Kt, .int .i64 It, .float .f64 Ft, .string St, .slice qt mt dt])).put (some 43) (.agg #[.int .i64 Ku, .int .i64 Iu, .float .f64 Fu, .string Su, .slice qu mu du])).put (some 44) (.int .i64 z)).put (some 5) (.pointer (some ⟨gA, 0, none⟩))).put (some 6) (.pointer (some ⟨gB, 0, none⟩))) ∧ w'.heap[sb]? = some (.cells #[.int .i64 4, .int .i64 0, .float .f64 0, .string ⟨#[]⟩, .slice ps ls cs] 27 (0, 0)) ∧ Below w.heap.size w w' ∧ Below wr.heap.size wr w' ∧ (Stay B wD w' ∧ wD.heap.size ≤ w'.heap.size) ∧ sb < B ∧ Hid (z = 0 → ∃ AS2, OkA AS2 ∧ ∀ y, Stay B wD y → Rep y 3 (.agg #[.int .i64 Kt, .int .i64 It, .float .f64 Ft, .string St, .slice qt mt dt]) (tableT 0 (ledA AS2))) ∧ w'.heap[gA]? = some (.cells #[.int .i64 0, .int .i64 0, .float .f64 0, .string ⟨#[]⟩, .slice none 0 0] 27 (0, 0)) ∧ sb < gA ∧ wr.heap.size ≤ gA ∧ w'.heap[gB]? = some (.cells #[.int .i64 0, .int .i64 0, .float .f64 0, .string ⟨#[]⟩, .slice none 0 0] 27 (0, 0)) ∧ sb < gB ∧ wr.heap.size ≤ gB ∧ gA ≠ gB ∧ (gA < B ∨ wD.heap.size ≤ gA) ∧ (gB < B ∨ wD.heap.size ≤ gB)) ?phK6_12_17_18m (fun hK6_12_17_18 => ?_)
  case phK6_12_17_18m =>
    intro a' w' hst hH
    obtain ⟨Kt, It, Ft, St, qt, mt, dt, Ku, Iu, Fu, Su, qu, mu, du, z, B, wD, gA, gB, rfl, hR, hbd, hbr, hst, hsB, HZ, hgA, hsgA, hwgA, hgB, hsgB, hwgB, hAB, hDA, hDB⟩ := hst
    (try simp only [Act.put, pk0, pk1, pk2])
    have TS0 := Lib.hid (show ZL w' sb ps ls cs ∧ Zz w' gA ∧ Zz w' gB ∧ (Stay B wD w' ∧ wD.heap.size ≤ w'.heap.size) ∧ (Below wr.heap.size wr w') ∧ Below w.heap.size w w' from ⟨hR, hgA, hgB, hst, hbr, hbd⟩)
    clear hR hgA hgB hst hbr hbd
    refine zr1 19 (by kernel_rfl) (by simp only [lk0, lk1, lk2]; rfl) (fun K hK => ?_)
    obtain ⟨b30, b31, b32, b33, b34, b3f, b3l⟩ := r7 TS0.out.2.1; go_simp
    have TS1 := Lib.hid (show (fun z0 : World => ZL z0 sb ps ls cs ∧ Zw z0 gA (.int .i64 Kt) (.int .i64 It) (.float .f64 Ft) (.string St) (.slice qt mt dt) ∧ Zz z0 gB ∧ (Stay B wD z0 ∧ wD.heap.size ≤ z0.heap.size) ∧ (Below wr.heap.size wr z0) ∧ Below w.heap.size w z0) (((((w'.setCell ⟨gA, 0, none⟩ (.int .i64 Kt)).setCell ⟨gA, 1, none⟩ (.int .i64 It)).setCell ⟨gA, 2, none⟩ (.float .f64 Ft)).setCell ⟨gA, 3, none⟩ (.string St)).setCell ⟨gA, 4, none⟩ (.slice qt mt dt)) from ⟨s5o TS0.out.1 (by omega), s5r TS0.out.2.1, s5o TS0.out.2.2.1 (by omega), ⟨stay_set2 TS0.out.2.2.2.1.1 (by omega) (.int .i64 Kt) (.int .i64 It) (.float .f64 Ft) (.string St) (.slice qt mt dt), by show _ ≤ (set5 w' (gA) 0 (.int .i64 Kt) (.int .i64 It) (.float .f64 Ft) (.string St) (.slice qt mt dt)).heap.size; rw [set5_size]; exact TS0.out.2.2.2.1.2⟩, s5b TS0.out.2.2.2.2.1 (by omega), s5b TS0.out.2.2.2.2.2 (by omega)⟩)
    clear TS0
    clear b30 b31 b32 b33 b34 b3f b3l
    go_wp2_with fail
    refine hK.out _ _ ?hss0hK6_12_17_18m (fun hH => ?_)
    case hss0hK6_12_17_18m => exact ⟨rc TS1.out.1 0, rc TS1.out.1 1, rc TS1.out.1 2, rc TS1.out.1 3, rc TS1.out.1 4, (HK.out _ TS1.out.2.2.2.2.2).1, (HK.out _ TS1.out.2.2.2.2.2).2⟩
    clear hK K
    (try simp only [Act.put, pk0, pk1, pk2])
    refine zr1 20 (by kernel_rfl) (by simp only [lk0, lk1, lk2]; rfl) (fun K hK => ?_)
    obtain ⟨b30, b31, b32, b33, b34, b3f, b3l⟩ := r7 TS1.out.2.2.1; go_simp
    have TS2 := Lib.hid (show (fun z0 : World => ZL z0 sb ps ls cs ∧ Zw z0 gA (.int .i64 Kt) (.int .i64 It) (.float .f64 Ft) (.string St) (.slice qt mt dt) ∧ Zw z0 gB (.int .i64 Ku) (.int .i64 Iu) (.float .f64 Fu) (.string Su) (.slice qu mu du) ∧ (Stay B wD z0 ∧ wD.heap.size ≤ z0.heap.size) ∧ (Below wr.heap.size wr z0) ∧ Below w.heap.size w z0) ((((((((((w'.setCell ⟨gA, 0, none⟩ (.int .i64 Kt)).setCell ⟨gA, 1, none⟩ (.int .i64 It)).setCell ⟨gA, 2, none⟩ (.float .f64 Ft)).setCell ⟨gA, 3, none⟩ (.string St)).setCell ⟨gA, 4, none⟩ (.slice qt mt dt)).setCell ⟨gB, 0, none⟩ (.int .i64 Ku)).setCell ⟨gB, 1, none⟩ (.int .i64 Iu)).setCell ⟨gB, 2, none⟩ (.float .f64 Fu)).setCell ⟨gB, 3, none⟩ (.string Su)).setCell ⟨gB, 4, none⟩ (.slice qu mu du)) from ⟨s5o TS1.out.1 (by omega), s5o TS1.out.2.1 (by omega), s5r TS1.out.2.2.1, ⟨stay_set2 TS1.out.2.2.2.1.1 (by omega) (.int .i64 Ku) (.int .i64 Iu) (.float .f64 Fu) (.string Su) (.slice qu mu du), by show _ ≤ (set5 (((((w'.setCell ⟨gA, 0, none⟩ (.int .i64 Kt)).setCell ⟨gA, 1, none⟩ (.int .i64 It)).setCell ⟨gA, 2, none⟩ (.float .f64 Ft)).setCell ⟨gA, 3, none⟩ (.string St)).setCell ⟨gA, 4, none⟩ (.slice qt mt dt)) (gB) 0 (.int .i64 Ku) (.int .i64 Iu) (.float .f64 Fu) (.string Su) (.slice qu mu du)).heap.size; rw [set5_size]; exact TS1.out.2.2.2.1.2⟩, s5b TS1.out.2.2.2.2.1 (by omega), s5b TS1.out.2.2.2.2.2 (by omega)⟩)
    clear TS1
    clear b30 b31 b32 b33 b34 b3f b3l
    go_wp2_with fail
    refine hK.out _ _ ?hss1hK6_12_17_18m (fun hH => ?_)
    case hss1hK6_12_17_18m => exact ⟨rc TS2.out.1 0, rc TS2.out.1 1, rc TS2.out.1 2, rc TS2.out.1 3, rc TS2.out.1 4, (HK.out _ TS2.out.2.2.2.2.2).1, (HK.out _ TS2.out.2.2.2.2.2).2⟩
    clear hK K
    (try simp only [Act.put, pk0, pk1, pk2])
    refine zt [21] ?_
    refine zt1 hP (by simp only [lk0, lk1, lk2]; rfl) (by kernel_rfl) (by assumption) (by rfl) (fun w h => by (try dsimp only at h); go_simp; (try with_reducible rfl)) ?_; (try simp only [Act.put, pk0, pk1, pk2])
    refine zt0 ?_
    refine wpAnyH_done (by kernel_rfl) ?_ _
    revert TS2
    generalize ((((((((((w'.setCell ⟨gA, 0, none⟩ (.int .i64 Kt)).setCell ⟨gA, 1, none⟩ (.int .i64 It)).setCell ⟨gA, 2, none⟩ (.float .f64 Ft)).setCell ⟨gA, 3, none⟩ (.string St)).setCell ⟨gA, 4, none⟩ (.slice qt mt dt)).setCell ⟨gB, 0, none⟩ (.int .i64 Ku)).setCell ⟨gB, 1, none⟩ (.int .i64 Iu)).setCell ⟨gB, 2, none⟩ (.float .f64 Fu)).setCell ⟨gB, 3, none⟩ (.string Su)).setCell ⟨gB, 4, none⟩ (.slice qu mu du)) = Wg
    intro TS2
    refine hQ _ _ _ _ _ _ _ _ _ _ _ _ _ _ _ _ _ _ hsgA hsgB TS2.out.2.2.2.2.1.size ⟨TS2.out.1, TS2.out.2.1, TS2.out.2.2.1, TS2.out.2.2.2.2.2⟩ (Lib.hid (fun h0 => ?_)) TS2.out.2.2.2.2.1
    obtain ⟨AS2, hok2, hT⟩ := HZ.out h0
    exact ⟨AS2, hok2, fun y hy => hT y (fun b h1 h2 => (hy b (by omega) (Nat.lt_of_lt_of_le h2 TS2.out.2.2.2.1.2)).trans (TS2.out.2.2.2.1.1 b h1 h2))⟩
  refine any_have 4 [6, 12, 13, 14, 15, 16, 17] (fun a a' w' => ∃ (Kt : Int) (It : Int) (Ft : Nat) (St : ByteArray) (qt : Option Addr) (mt : Nat) (dt : Nat) (Ku : Int) (Iu : Int) (Fu : Nat) (Su : ByteArray) (qu : Option Addr) (mu : Nat) (du : Nat) (z : Int) (B : Nat) (wD : World) (gA : Nat), a' = (((((((a.put (some 35) (.string (mthN (k % 8)))).put (some 41) (.tuple #[.agg #[.int .i64 Kt, .int .i64 It, .float .f64 Ft, .string St, .slice qt mt dt], .agg #[.int .i64 Ku, .int .i64 Iu, .float .f64 Fu, .string Su, .slice qu mu du], .int .i64 z])).put (some 28) (.tuple #[.agg #[.int .i64 Kt, .int .i64 It, .float .f64 Ft, .string St, .slice qt mt dt], .agg #[.int .i64 Ku, .int .i64 Iu, .float .f64 Fu, .string Su, .slice qu mu du], .int .i64 z])).put (some 42) (.agg #[.int .i64 Kt, .int .i64 It, .float .f64 Ft, .string St, .slice qt mt dt])).put (some 43) (.agg #[.int .i64 Ku, .int .i64 Iu, .float .f64 Fu, .string Su, .slice qu mu du])).put (some 44) (.int .i64 z)).put (some 5) (.pointer (some ⟨gA, 0, none⟩))) ∧ w'.heap[sb]? = some (.cells #[.int .i64 4, .int .i64 0, .float .f64 0, .string ⟨#[]⟩, .slice ps ls cs] 27 (0, 0)) ∧ Below w.heap.size w w' ∧ Below wr.heap.size wr w' ∧ (Stay B wD w' ∧ wD.heap.size ≤ w'.heap.size) ∧ sb < B ∧ Hid (z = 0 → ∃ AS2, OkA AS2 ∧ ∀ y, Stay B wD y → Rep y 3 (.agg #[.int .i64 Kt, .int .i64 It, .float .f64 Ft, .string St, .slice qt mt dt]) (tableT 0 (ledA AS2))) ∧ w'.heap[gA]? = some (.cells #[.int .i64 0, .int .i64 0, .float .f64 0, .string ⟨#[]⟩, .slice none 0 0] 27 (0, 0)) ∧ sb < gA ∧ wr.heap.size ≤ gA ∧ (gA < B ∨ wD.heap.size ≤ gA)) ?phK6_12_17m (fun hK6_12_17 => ?_)
  case phK6_12_17m =>
    intro a' w' hst hH
    obtain ⟨Kt, It, Ft, St, qt, mt, dt, Ku, Iu, Fu, Su, qu, mu, du, z, B, wD, gA, rfl, hR, hbd, hbr, hst, hsB, HZ, hgA, hsgA, hwgA, hDA⟩ := hst
    (try simp only [Act.put, pk0, pk1, pk2])
    refine wpAnyH_ready (rs := [18]) (by kernel_rfl) (by simp) ?_
    refine AllReadyH.cons (o := ?_) ?ho18hK6_12_17m ?hst18hK6_12_17m AllReadyH.nil
    case ho18hK6_12_17m => (simp only [lk0, lk1, lk2]; rfl)
    case hst18hK6_12_17m =>
      intro K hK
      go_simp
      refine hK.out _ _ ?hs18hK6_12_17m (fun hH => ?_)
      case hs18hK6_12_17m => exact ⟨rc (row_step hR bz) 0, rc (row_step hR bz) 1, rc (row_step hR bz) 2, rc (row_step hR bz) 3, rc (row_step hR bz) 4, (HK.out _ (bel_step hbd bz)).1, (HK.out _ (bel_step hbd bz)).2⟩
      clear hK K
      (try simp only [Act.put, pk0, pk1, pk2])
      exact any_eq (by kernel_rfl) (by kernel_rfl) (hK6_12_17_18 _ _ ⟨Kt, It, Ft, St, qt, mt, dt, Ku, Iu, Fu, Su, qu, mu, du, z, B, wD, gA, _, rfl, (row_step hR bz), (bel_step hbd bz), (bel_step hbr bz), (⟨stay_trans hst.1 hst.2 bz, Nat.le_trans hst.2 bz.size⟩), (hsB), (HZ), (row_step hgA bz), (hsgA), (hwgA), row_alloc _ _ _, row_lt hR, hbr.size, Nat.ne_of_lt (row_lt hgA), (hDA), Or.inr hst.2⟩ hH)
  refine any_have 4 [6, 12, 13, 14, 15, 16, 18] (fun a a' w' => ∃ (Kt : Int) (It : Int) (Ft : Nat) (St : ByteArray) (qt : Option Addr) (mt : Nat) (dt : Nat) (Ku : Int) (Iu : Int) (Fu : Nat) (Su : ByteArray) (qu : Option Addr) (mu : Nat) (du : Nat) (z : Int) (B : Nat) (wD : World) (gB : Nat), a' = (((((((a.put (some 35) (.string (mthN (k % 8)))).put (some 41) (.tuple #[.agg #[.int .i64 Kt, .int .i64 It, .float .f64 Ft, .string St, .slice qt mt dt], .agg #[.int .i64 Ku, .int .i64 Iu, .float .f64 Fu, .string Su, .slice qu mu du], .int .i64 z])).put (some 28) (.tuple #[.agg #[.int .i64 Kt, .int .i64 It, .float .f64 Ft, .string St, .slice qt mt dt], .agg #[.int .i64 Ku, .int .i64 Iu, .float .f64 Fu, .string Su, .slice qu mu du], .int .i64 z])).put (some 42) (.agg #[.int .i64 Kt, .int .i64 It, .float .f64 Ft, .string St, .slice qt mt dt])).put (some 43) (.agg #[.int .i64 Ku, .int .i64 Iu, .float .f64 Fu, .string Su, .slice qu mu du])).put (some 44) (.int .i64 z)).put (some 6) (.pointer (some ⟨gB, 0, none⟩))) ∧ w'.heap[sb]? = some (.cells #[.int .i64 4, .int .i64 0, .float .f64 0, .string ⟨#[]⟩, .slice ps ls cs] 27 (0, 0)) ∧ Below w.heap.size w w' ∧ Below wr.heap.size wr w' ∧ (Stay B wD w' ∧ wD.heap.size ≤ w'.heap.size) ∧ sb < B ∧ Hid (z = 0 → ∃ AS2, OkA AS2 ∧ ∀ y, Stay B wD y → Rep y 3 (.agg #[.int .i64 Kt, .int .i64 It, .float .f64 Ft, .string St, .slice qt mt dt]) (tableT 0 (ledA AS2))) ∧ w'.heap[gB]? = some (.cells #[.int .i64 0, .int .i64 0, .float .f64 0, .string ⟨#[]⟩, .slice none 0 0] 27 (0, 0)) ∧ sb < gB ∧ wr.heap.size ≤ gB ∧ (gB < B ∨ wD.heap.size ≤ gB)) ?phK6_12_18m (fun hK6_12_18 => ?_)
  case phK6_12_18m =>
    intro a' w' hst hH
    obtain ⟨Kt, It, Ft, St, qt, mt, dt, Ku, Iu, Fu, Su, qu, mu, du, z, B, wD, gB, rfl, hR, hbd, hbr, hst, hsB, HZ, hgB, hsgB, hwgB, hDB⟩ := hst
    (try simp only [Act.put, pk0, pk1, pk2])
    refine wpAnyH_ready (rs := [17]) (by kernel_rfl) (by simp) ?_
    refine AllReadyH.cons (o := ?_) ?ho17hK6_12_18m ?hst17hK6_12_18m AllReadyH.nil
    case ho17hK6_12_18m => (simp only [lk0, lk1, lk2]; rfl)
    case hst17hK6_12_18m =>
      intro K hK
      go_simp
      refine hK.out _ _ ?hs17hK6_12_18m (fun hH => ?_)
      case hs17hK6_12_18m => exact ⟨rc (row_step hR bz) 0, rc (row_step hR bz) 1, rc (row_step hR bz) 2, rc (row_step hR bz) 3, rc (row_step hR bz) 4, (HK.out _ (bel_step hbd bz)).1, (HK.out _ (bel_step hbd bz)).2⟩
      clear hK K
      (try simp only [Act.put, pk0, pk1, pk2])
      exact any_eq (by kernel_rfl) (by kernel_rfl) (hK6_12_17_18 _ _ ⟨Kt, It, Ft, St, qt, mt, dt, Ku, Iu, Fu, Su, qu, mu, du, z, B, wD, _, gB, rfl, (row_step hR bz), (bel_step hbd bz), (bel_step hbr bz), (⟨stay_trans hst.1 hst.2 bz, Nat.le_trans hst.2 bz.size⟩), (hsB), (HZ), row_alloc _ _ _, row_lt hR, hbr.size, (row_step hgB bz), (hsgB), (hwgB), Nat.ne_of_gt (row_lt hgB), Or.inr hst.2, (hDB)⟩ hH)
  refine any_have 8 [6, 17, 18] (fun a a' w' => ∃ (gA : Nat) (gB : Nat), a' = (((a.put (some 35) (.string (mthN (k % 8)))).put (some 5) (.pointer (some ⟨gA, 0, none⟩))).put (some 6) (.pointer (some ⟨gB, 0, none⟩))) ∧ w'.heap[sb]? = some (.cells #[.int .i64 4, .int .i64 0, .float .f64 0, .string ⟨#[]⟩, .slice ps ls cs] 27 (0, 0)) ∧ Below w.heap.size w w' ∧ Below wr.heap.size wr w' ∧ w'.heap[gA]? = some (.cells #[.int .i64 0, .int .i64 0, .float .f64 0, .string ⟨#[]⟩, .slice none 0 0] 27 (0, 0)) ∧ sb < gA ∧ wr.heap.size ≤ gA ∧ w'.heap[gB]? = some (.cells #[.int .i64 0, .int .i64 0, .float .f64 0, .string ⟨#[]⟩, .slice none 0 0] 27 (0, 0)) ∧ sb < gB ∧ wr.heap.size ≤ gB ∧ gA ≠ gB) ?phK6_17_18m (fun hK6_17_18 => ?_)
  case phK6_17_18m =>
    intro a' w' hst hH
    obtain ⟨gA, gB, rfl, hR, hbd, hbr, hgA, hsgA, hwgA, hgB, hsgB, hwgB, hAB⟩ := hst
    (try simp only [Act.put, pk0, pk1, pk2])
    refine wpAnyH_ready (rs := [12]) (by kernel_rfl) (by simp) ?_
    refine AllReadyH.cons (o := ?_) ?ho12hK6_17_18m ?hst12hK6_17_18m AllReadyH.nil
    case ho12hK6_17_18m => (simp only [lk0, lk1, lk2]; rfl)
    case hst12hK6_17_18m =>
      intro K hK
      go_simp
      go_at_call 7; refine (HDO.out _ hbr).mono ?_; rintro e wT ⟨Kt, It, Ft, St, qt, mt, dt, Ku, Iu, Fu, Su, qu, mu, du, z, rfl, hbT, hz⟩
      go_wp2_with fail
      refine hK.out _ _ ?hs12hK6_17_18m (fun hH => ?_)
      case hs12hK6_17_18m => exact ⟨rc (row_step hR hbT) 0, rc (row_step hR hbT) 1, rc (row_step hR hbT) 2, rc (row_step hR hbT) 3, rc (row_step hR hbT) 4, (HK.out _ (bel_step hbd hbT)).1, (HK.out _ (bel_step hbd hbT)).2⟩
      clear hK K
      (try simp only [Act.put, pk0, pk1, pk2])
      refine zt [13, 14, 15, 16] ?_
      iterate 4 (refine zt1 hP (by simp only [lk0, lk1, lk2]; rfl) (by kernel_rfl) (by assumption) (by rfl) (fun w h => by (try dsimp only at h); go_simp; (try with_reducible rfl)) ?_; (try simp only [Act.put, pk0, pk1, pk2]))
      refine zt0 ?_
      exact any_eq (by kernel_rfl) (by kernel_rfl) (hK6_12_17_18 _ _ ⟨Kt, It, Ft, St, qt, mt, dt, Ku, Iu, Fu, Su, qu, mu, du, z, _, wT, gA, gB, rfl, (row_step hR hbT), (bel_step hbd hbT), (bel_step hbr hbT), ⟨stay_refl _ _, Nat.le_refl _⟩, row_lt hR, Lib.hid (fun h0 => by obtain ⟨AS2, hok2, hT⟩ := hz h0; exact ⟨AS2, hok2, fun y hy => rep_ofS hT y hy⟩), (row_step hgA hbT), (hsgA), (hwgA), (row_step hgB hbT), (hsgB), (hwgB), (hAB), Or.inl (row_lt hgA), Or.inl (row_lt hgB)⟩ hH)
  refine any_have 5 [6, 12, 13, 14, 15, 16] (fun a a' w' => ∃ (Kt : Int) (It : Int) (Ft : Nat) (St : ByteArray) (qt : Option Addr) (mt : Nat) (dt : Nat) (Ku : Int) (Iu : Int) (Fu : Nat) (Su : ByteArray) (qu : Option Addr) (mu : Nat) (du : Nat) (z : Int) (B : Nat) (wD : World), a' = ((((((a.put (some 35) (.string (mthN (k % 8)))).put (some 41) (.tuple #[.agg #[.int .i64 Kt, .int .i64 It, .float .f64 Ft, .string St, .slice qt mt dt], .agg #[.int .i64 Ku, .int .i64 Iu, .float .f64 Fu, .string Su, .slice qu mu du], .int .i64 z])).put (some 28) (.tuple #[.agg #[.int .i64 Kt, .int .i64 It, .float .f64 Ft, .string St, .slice qt mt dt], .agg #[.int .i64 Ku, .int .i64 Iu, .float .f64 Fu, .string Su, .slice qu mu du], .int .i64 z])).put (some 42) (.agg #[.int .i64 Kt, .int .i64 It, .float .f64 Ft, .string St, .slice qt mt dt])).put (some 43) (.agg #[.int .i64 Ku, .int .i64 Iu, .float .f64 Fu, .string Su, .slice qu mu du])).put (some 44) (.int .i64 z)) ∧ w'.heap[sb]? = some (.cells #[.int .i64 4, .int .i64 0, .float .f64 0, .string ⟨#[]⟩, .slice ps ls cs] 27 (0, 0)) ∧ Below w.heap.size w w' ∧ Below wr.heap.size wr w' ∧ (Stay B wD w' ∧ wD.heap.size ≤ w'.heap.size) ∧ sb < B ∧ Hid (z = 0 → ∃ AS2, OkA AS2 ∧ ∀ y, Stay B wD y → Rep y 3 (.agg #[.int .i64 Kt, .int .i64 It, .float .f64 Ft, .string St, .slice qt mt dt]) (tableT 0 (ledA AS2)))) ?phK6_12m (fun hK6_12 => ?_)
  case phK6_12m =>
    intro a' w' hst hH
    obtain ⟨Kt, It, Ft, St, qt, mt, dt, Ku, Iu, Fu, Su, qu, mu, du, z, B, wD, rfl, hR, hbd, hbr, hst, hsB, HZ⟩ := hst
    (try simp only [Act.put, pk0, pk1, pk2])
    refine wpAnyH_ready (rs := [17, 18]) (by kernel_rfl) (by simp) ?_
    refine AllReadyH.cons (o := ?_) ?ho17hK6_12m ?hst17hK6_12m (AllReadyH.cons (o := ?_) ?ho18hK6_12m ?hst18hK6_12m AllReadyH.nil)
    case ho17hK6_12m => (simp only [lk0, lk1, lk2]; rfl)
    case ho18hK6_12m => (simp only [lk0, lk1, lk2]; rfl)
    case hst17hK6_12m =>
      intro K hK
      go_simp
      refine hK.out _ _ ?hs17hK6_12m (fun hH => ?_)
      case hs17hK6_12m => exact ⟨rc (row_step hR bz) 0, rc (row_step hR bz) 1, rc (row_step hR bz) 2, rc (row_step hR bz) 3, rc (row_step hR bz) 4, (HK.out _ (bel_step hbd bz)).1, (HK.out _ (bel_step hbd bz)).2⟩
      clear hK K
      (try simp only [Act.put, pk0, pk1, pk2])
      exact any_eq (by kernel_rfl) (by kernel_rfl) (hK6_12_17 _ _ ⟨Kt, It, Ft, St, qt, mt, dt, Ku, Iu, Fu, Su, qu, mu, du, z, B, wD, _, rfl, (row_step hR bz), (bel_step hbd bz), (bel_step hbr bz), (⟨stay_trans hst.1 hst.2 bz, Nat.le_trans hst.2 bz.size⟩), (hsB), (HZ), row_alloc _ _ _, row_lt hR, hbr.size, Or.inr hst.2⟩ hH)
    case hst18hK6_12m =>
      intro K hK
      go_simp
      refine hK.out _ _ ?hs18hK6_12m (fun hH => ?_)
      case hs18hK6_12m => exact ⟨rc (row_step hR bz) 0, rc (row_step hR bz) 1, rc (row_step hR bz) 2, rc (row_step hR bz) 3, rc (row_step hR bz) 4, (HK.out _ (bel_step hbd bz)).1, (HK.out _ (bel_step hbd bz)).2⟩
      clear hK K
      (try simp only [Act.put, pk0, pk1, pk2])
      exact any_eq (by kernel_rfl) (by kernel_rfl) (hK6_12_18 _ _ ⟨Kt, It, Ft, St, qt, mt, dt, Ku, Iu, Fu, Su, qu, mu, du, z, B, wD, _, rfl, (row_step hR bz), (bel_step hbd bz), (bel_step hbr bz), (⟨stay_trans hst.1 hst.2 bz, Nat.le_trans hst.2 bz.size⟩), (hsB), (HZ), row_alloc _ _ _, row_lt hR, hbr.size, Or.inr hst.2⟩ hH)
  refine any_have 9 [6, 17] (fun a a' w' => ∃ (gA : Nat), a' = ((a.put (some 35) (.string (mthN (k % 8)))).put (some 5) (.pointer (some ⟨gA, 0, none⟩))) ∧ w'.heap[sb]? = some (.cells #[.int .i64 4, .int .i64 0, .float .f64 0, .string ⟨#[]⟩, .slice ps ls cs] 27 (0, 0)) ∧ Below w.heap.size w w' ∧ Below wr.heap.size wr w' ∧ w'.heap[gA]? = some (.cells #[.int .i64 0, .int .i64 0, .float .f64 0, .string ⟨#[]⟩, .slice none 0 0] 27 (0, 0)) ∧ sb < gA ∧ wr.heap.size ≤ gA) ?phK6_17m (fun hK6_17 => ?_)
  case phK6_17m =>
    intro a' w' hst hH
    obtain ⟨gA, rfl, hR, hbd, hbr, hgA, hsgA, hwgA⟩ := hst
    (try simp only [Act.put, pk0, pk1, pk2])
    refine wpAnyH_ready (rs := [12, 18]) (by kernel_rfl) (by simp) ?_
    refine AllReadyH.cons (o := ?_) ?ho12hK6_17m ?hst12hK6_17m (AllReadyH.cons (o := ?_) ?ho18hK6_17m ?hst18hK6_17m AllReadyH.nil)
    case ho12hK6_17m => (simp only [lk0, lk1, lk2]; rfl)
    case ho18hK6_17m => (simp only [lk0, lk1, lk2]; rfl)
    case hst12hK6_17m =>
      intro K hK
      go_simp
      go_at_call 7; refine (HDO.out _ hbr).mono ?_; rintro e wT ⟨Kt, It, Ft, St, qt, mt, dt, Ku, Iu, Fu, Su, qu, mu, du, z, rfl, hbT, hz⟩
      go_wp2_with fail
      refine hK.out _ _ ?hs12hK6_17m (fun hH => ?_)
      case hs12hK6_17m => exact ⟨rc (row_step hR hbT) 0, rc (row_step hR hbT) 1, rc (row_step hR hbT) 2, rc (row_step hR hbT) 3, rc (row_step hR hbT) 4, (HK.out _ (bel_step hbd hbT)).1, (HK.out _ (bel_step hbd hbT)).2⟩
      clear hK K
      (try simp only [Act.put, pk0, pk1, pk2])
      refine zt [13, 14, 15, 16] ?_
      iterate 4 (refine zt1 hP (by simp only [lk0, lk1, lk2]; rfl) (by kernel_rfl) (by assumption) (by rfl) (fun w h => by (try dsimp only at h); go_simp; (try with_reducible rfl)) ?_; (try simp only [Act.put, pk0, pk1, pk2]))
      refine zt0 ?_
      exact any_eq (by kernel_rfl) (by kernel_rfl) (hK6_12_17 _ _ ⟨Kt, It, Ft, St, qt, mt, dt, Ku, Iu, Fu, Su, qu, mu, du, z, _, wT, gA, rfl, (row_step hR hbT), (bel_step hbd hbT), (bel_step hbr hbT), ⟨stay_refl _ _, Nat.le_refl _⟩, row_lt hR, Lib.hid (fun h0 => by obtain ⟨AS2, hok2, hT⟩ := hz h0; exact ⟨AS2, hok2, fun y hy => rep_ofS hT y hy⟩), (row_step hgA hbT), (hsgA), (hwgA), Or.inl (row_lt hgA)⟩ hH)
    case hst18hK6_17m =>
      intro K hK
      go_simp
      refine hK.out _ _ ?hs18hK6_17m (fun hH => ?_)
      case hs18hK6_17m => exact ⟨rc (row_step hR bz) 0, rc (row_step hR bz) 1, rc (row_step hR bz) 2, rc (row_step hR bz) 3, rc (row_step hR bz) 4, (HK.out _ (bel_step hbd bz)).1, (HK.out _ (bel_step hbd bz)).2⟩
      clear hK K
      (try simp only [Act.put, pk0, pk1, pk2])
      exact any_eq (by kernel_rfl) (by kernel_rfl) (hK6_17_18 _ _ ⟨gA, _, rfl, (row_step hR bz), (bel_step hbd bz), (bel_step hbr bz), (row_step hgA bz), (hsgA), (hwgA), row_alloc _ _ _, row_lt hR, hbr.size, Nat.ne_of_lt (row_lt hgA)⟩ hH)
  refine any_have 9 [6, 18] (fun a a' w' => ∃ (gB : Nat), a' = ((a.put (some 35) (.string (mthN (k % 8)))).put (some 6) (.pointer (some ⟨gB, 0, none⟩))) ∧ w'.heap[sb]? = some (.cells #[.int .i64 4, .int .i64 0, .float .f64 0, .string ⟨#[]⟩, .slice ps ls cs] 27 (0, 0)) ∧ Below w.heap.size w w' ∧ Below wr.heap.size wr w' ∧ w'.heap[gB]? = some (.cells #[.int .i64 0, .int .i64 0, .float .f64 0, .string ⟨#[]⟩, .slice none 0 0] 27 (0, 0)) ∧ sb < gB ∧ wr.heap.size ≤ gB) ?phK6_18m (fun hK6_18 => ?_)
  case phK6_18m =>
    intro a' w' hst hH
    obtain ⟨gB, rfl, hR, hbd, hbr, hgB, hsgB, hwgB⟩ := hst
    (try simp only [Act.put, pk0, pk1, pk2])
    refine wpAnyH_ready (rs := [12, 17]) (by kernel_rfl) (by simp) ?_
    refine AllReadyH.cons (o := ?_) ?ho12hK6_18m ?hst12hK6_18m (AllReadyH.cons (o := ?_) ?ho17hK6_18m ?hst17hK6_18m AllReadyH.nil)
    case ho12hK6_18m => (simp only [lk0, lk1, lk2]; rfl)
    case ho17hK6_18m => (simp only [lk0, lk1, lk2]; rfl)
    case hst12hK6_18m =>
      intro K hK
      go_simp
      go_at_call 7; refine (HDO.out _ hbr).mono ?_; rintro e wT ⟨Kt, It, Ft, St, qt, mt, dt, Ku, Iu, Fu, Su, qu, mu, du, z, rfl, hbT, hz⟩
      go_wp2_with fail
      refine hK.out _ _ ?hs12hK6_18m (fun hH => ?_)
      case hs12hK6_18m => exact ⟨rc (row_step hR hbT) 0, rc (row_step hR hbT) 1, rc (row_step hR hbT) 2, rc (row_step hR hbT) 3, rc (row_step hR hbT) 4, (HK.out _ (bel_step hbd hbT)).1, (HK.out _ (bel_step hbd hbT)).2⟩
      clear hK K
      (try simp only [Act.put, pk0, pk1, pk2])
      refine zt [13, 14, 15, 16] ?_
      iterate 4 (refine zt1 hP (by simp only [lk0, lk1, lk2]; rfl) (by kernel_rfl) (by assumption) (by rfl) (fun w h => by (try dsimp only at h); go_simp; (try with_reducible rfl)) ?_; (try simp only [Act.put, pk0, pk1, pk2]))
      refine zt0 ?_
      exact any_eq (by kernel_rfl) (by kernel_rfl) (hK6_12_18 _ _ ⟨Kt, It, Ft, St, qt, mt, dt, Ku, Iu, Fu, Su, qu, mu, du, z, _, wT, gB, rfl, (row_step hR hbT), (bel_step hbd hbT), (bel_step hbr hbT), ⟨stay_refl _ _, Nat.le_refl _⟩, row_lt hR, Lib.hid (fun h0 => by obtain ⟨AS2, hok2, hT⟩ := hz h0; exact ⟨AS2, hok2, fun y hy => rep_ofS hT y hy⟩), (row_step hgB hbT), (hsgB), (hwgB), Or.inl (row_lt hgB)⟩ hH)
    case hst17hK6_18m =>
      intro K hK
      go_simp
      refine hK.out _ _ ?hs17hK6_18m (fun hH => ?_)
      case hs17hK6_18m => exact ⟨rc (row_step hR bz) 0, rc (row_step hR bz) 1, rc (row_step hR bz) 2, rc (row_step hR bz) 3, rc (row_step hR bz) 4, (HK.out _ (bel_step hbd bz)).1, (HK.out _ (bel_step hbd bz)).2⟩
      clear hK K
      (try simp only [Act.put, pk0, pk1, pk2])
      exact any_eq (by kernel_rfl) (by kernel_rfl) (hK6_17_18 _ _ ⟨_, gB, rfl, (row_step hR bz), (bel_step hbd bz), (bel_step hbr bz), row_alloc _ _ _, row_lt hR, hbr.size, (row_step hgB bz), (hsgB), (hwgB), Nat.ne_of_gt (row_lt hgB)⟩ hH)
  refine any_have 9 [17, 18] (fun a a' w' => ∃ (gA : Nat) (gB : Nat), a' = ((a.put (some 5) (.pointer (some ⟨gA, 0, none⟩))).put (some 6) (.pointer (some ⟨gB, 0, none⟩))) ∧ w'.heap[sb]? = some (.cells #[.int .i64 4, .int .i64 0, .float .f64 0, .string ⟨#[]⟩, .slice ps ls cs] 27 (0, 0)) ∧ Below w.heap.size w w' ∧ Below wr.heap.size wr w' ∧ w'.heap[gA]? = some (.cells #[.int .i64 0, .int .i64 0, .float .f64 0, .string ⟨#[]⟩, .slice none 0 0] 27 (0, 0)) ∧ sb < gA ∧ wr.heap.size ≤ gA ∧ w'.heap[gB]? = some (.cells #[.int .i64 0, .int .i64 0, .float .f64 0, .string ⟨#[]⟩, .slice none 0 0] 27 (0, 0)) ∧ sb < gB ∧ wr.heap.size ≤ gB ∧ gA ≠ gB) ?phK17_18m (fun hK17_18 => ?_)
  case phK17_18m =>
    intro a' w' hst hH
    obtain ⟨gA, gB, rfl, hR, hbd, hbr, hgA, hsgA, hwgA, hgB, hsgB, hwgB, hAB⟩ := hst
    (try simp only [Act.put, pk0, pk1, pk2])
    refine wpAnyH_ready (rs := [6]) (by kernel_rfl) (by simp) ?_
    refine AllReadyH.cons (o := ?_) ?ho6hK17_18m ?hst6hK17_18m AllReadyH.nil
    case ho6hK17_18m => (simp only [lk0, lk1, lk2]; rfl)
    case hst6hK17_18m =>
      intro K hK
      go_simp
      go_at_call 8; refine (method_any k hk _).mono ?_; rintro e wT ⟨rfl, hbT⟩
      go_wp2_with fail
      refine hK.out _ _ ?hs6hK17_18m (fun hH => ?_)
      case hs6hK17_18m => exact ⟨rc (row_step hR hbT) 0, rc (row_step hR hbT) 1, rc (row_step hR hbT) 2, rc (row_step hR hbT) 3, rc (row_step hR hbT) 4, (HK.out _ (bel_step hbd hbT)).1, (HK.out _ (bel_step hbd hbT)).2⟩
      clear hK K
      (try simp only [Act.put, pk0, pk1, pk2])
      exact any_eq (by kernel_rfl) (by kernel_rfl) (hK6_17_18 _ _ ⟨gA, gB, rfl, (row_step hR hbT), (bel_step hbd hbT), (bel_step hbr hbT), (row_step hgA hbT), (hsgA), (hwgA), (row_step hgB hbT), (hsgB), (hwgB), (hAB)⟩ hH)
  refine any_have 10 [6] (fun a a' w' => a' = (a.put (some 35) (.string (mthN (k % 8)))) ∧ w'.heap[sb]? = some (.cells #[.int .i64 4, .int .i64 0, .float .f64 0, .string ⟨#[]⟩, .slice ps ls cs] 27 (0, 0)) ∧ Below w.heap.size w w' ∧ Below wr.heap.size wr w') ?phK6m (fun hK6 => ?_)
  case phK6m =>
    intro a' w' hst hH
    obtain ⟨rfl, hR, hbd, hbr⟩ := hst
    (try simp only [Act.put, pk0, pk1, pk2])
    refine wpAnyH_ready (rs := [12, 17, 18]) (by kernel_rfl) (by simp) ?_
    refine AllReadyH.cons (o := ?_) ?ho12hK6m ?hst12hK6m (AllReadyH.cons (o := ?_) ?ho17hK6m ?hst17hK6m (AllReadyH.cons (o := ?_) ?ho18hK6m ?hst18hK6m AllReadyH.nil))
    case ho12hK6m => (simp only [lk0, lk1, lk2]; rfl)
    case ho17hK6m => (simp only [lk0, lk1, lk2]; rfl)
    case ho18hK6m => (simp only [lk0, lk1, lk2]; rfl)
    case hst12hK6m =>
      intro K hK
      go_simp
      go_at_call 7; refine (HDO.out _ hbr).mono ?_; rintro e wT ⟨Kt, It, Ft, St, qt, mt, dt, Ku, Iu, Fu, Su, qu, mu, du, z, rfl, hbT, hz⟩
      go_wp2_with fail
      refine hK.out _ _ ?hs12hK6m (fun hH => ?_)
      case hs12hK6m => exact ⟨rc (row_step hR hbT) 0, rc (row_step hR hbT) 1, rc (row_step hR hbT) 2, rc (row_step hR hbT) 3, rc (row_step hR hbT) 4, (HK.out _ (bel_step hbd hbT)).1, (HK.out _ (bel_step hbd hbT)).2⟩
      clear hK K
      (try simp only [Act.put, pk0, pk1, pk2])
      refine zt [13, 14, 15, 16] ?_
      iterate 4 (refine zt1 hP (by simp only [lk0, lk1, lk2]; rfl) (by kernel_rfl) (by assumption) (by rfl) (fun w h => by (try dsimp only at h); go_simp; (try with_reducible rfl)) ?_; (try simp only [Act.put, pk0, pk1, pk2]))
      refine zt0 ?_
      exact any_eq (by kernel_rfl) (by kernel_rfl) (hK6_12 _ _ ⟨Kt, It, Ft, St, qt, mt, dt, Ku, Iu, Fu, Su, qu, mu, du, z, _, wT, rfl, (row_step hR hbT), (bel_step hbd hbT), (bel_step hbr hbT), ⟨stay_refl _ _, Nat.le_refl _⟩, row_lt hR, Lib.hid (fun h0 => by obtain ⟨AS2, hok2, hT⟩ := hz h0; exact ⟨AS2, hok2, fun y hy => rep_ofS hT y hy⟩)⟩ hH)
    case hst17hK6m =>
      intro K hK
      go_simp
      refine hK.out _ _ ?hs17hK6m (fun hH => ?_)
      case hs17hK6m => exact ⟨rc (row_step hR bz) 0, rc (row_step hR bz) 1, rc (row_step hR bz) 2, rc (row_step hR bz) 3, rc (row_step hR bz) 4, (HK.out _ (bel_step hbd bz)).1, (HK.out _ (bel_step hbd bz)).2⟩
      clear hK K
      (try simp only [Act.put, pk0, pk1, pk2])
      exact any_eq (by kernel_rfl) (by kernel_rfl) (hK6_17 _ _ ⟨_, rfl, (row_step hR bz), (bel_step hbd bz), (bel_step hbr bz), row_alloc _ _ _, row_lt hR, hbr.size⟩ hH)
    case hst18hK6m =>
      intro K hK
      go_simp
      refine hK.out _ _ ?hs18hK6m (fun hH => ?_)
      case hs18hK6m => exact ⟨rc (row_step hR bz) 0, rc (row_step hR bz) 1, rc (row_step hR bz) 2, rc (row_step hR bz) 3, rc (row_step hR bz) 4, (HK.out _ (bel_step hbd bz)).1, (HK.out _ (bel_step hbd bz)).2⟩
      clear hK K
      (try simp only [Act.put, pk0, pk1, pk2])
      exact any_eq (by kernel_rfl) (by kernel_rfl) (hK6_18 _ _ ⟨_, rfl, (row_step hR bz), (bel_step hbd bz), (bel_step hbr bz), row_alloc _ _ _, row_lt hR, hbr.size⟩ hH)
  refine any_have 10 [17] (fun a a' w' => ∃ (gA : Nat), a' = (a.put (some 5) (.pointer (some ⟨gA, 0, none⟩))) ∧ w'.heap[sb]? = some (.cells #[.int .i64 4, .int .i64 0, .float .f64 0, .string ⟨#[]⟩, .slice ps ls cs] 27 (0, 0)) ∧ Below w.heap.size w w' ∧ Below wr.heap.size wr w' ∧ w'.heap[gA]? = some (.cells #[.int .i64 0, .int .i64 0, .float .f64 0, .string ⟨#[]⟩, .slice none 0 0] 27 (0, 0)) ∧ sb < gA ∧ wr.heap.size ≤ gA) ?phK17m (fun hK17 => ?_)
  case phK17m =>
    intro a' w' hst hH
    obtain ⟨gA, rfl, hR, hbd, hbr, hgA, hsgA, hwgA⟩ := hst
    (try simp only [Act.put, pk0, pk1, pk2])
    refine wpAnyH_ready (rs := [6, 18]) (by kernel_rfl) (by simp) ?_
    refine AllReadyH.cons (o := ?_) ?ho6hK17m ?hst6hK17m (AllReadyH.cons (o := ?_) ?ho18hK17m ?hst18hK17m AllReadyH.nil)
    case ho6hK17m => (simp only [lk0, lk1, lk2]; rfl)
    case ho18hK17m => (simp only [lk0, lk1, lk2]; rfl)
    case hst6hK17m =>
      intro K hK
      go_simp
      go_at_call 8; refine (method_any k hk _).mono ?_; rintro e wT ⟨rfl, hbT⟩
      go_wp2_with fail
      refine hK.out _ _ ?hs6hK17m (fun hH => ?_)
      case hs6hK17m => exact ⟨rc (row_step hR hbT) 0, rc (row_step hR hbT) 1, rc (row_step hR hbT) 2, rc (row_step hR hbT) 3, rc (row_step hR hbT) 4, (HK.out _ (bel_step hbd hbT)).1, (HK.out _ (bel_step hbd hbT)).2⟩
      clear hK K
      (try simp only [Act.put, pk0, pk1, pk2])
      exact any_eq (by kernel_rfl) (by kernel_rfl) (hK6_17 _ _ ⟨gA, rfl, (row_step hR hbT), (bel_step hbd hbT), (bel_step hbr hbT), (row_step hgA hbT), (hsgA), (hwgA)⟩ hH)
    case hst18hK17m =>
      intro K hK
      go_simp
      refine hK.out _ _ ?hs18hK17m (fun hH => ?_)
      case hs18hK17m => exact ⟨rc (row_step hR bz) 0, rc (row_step hR bz) 1, rc (row_step hR bz) 2, rc (row_step hR bz) 3, rc (row_step hR bz) 4, (HK.out _ (bel_step hbd bz)).1, (HK.out _ (bel_step hbd bz)).2⟩
      clear hK K
      (try simp only [Act.put, pk0, pk1, pk2])
      exact any_eq (by kernel_rfl) (by kernel_rfl) (hK17_18 _ _ ⟨gA, _, rfl, (row_step hR bz), (bel_step hbd bz), (bel_step hbr bz), (row_step hgA bz), (hsgA), (hwgA), row_alloc _ _ _, row_lt hR, hbr.size, Nat.ne_of_lt (row_lt hgA)⟩ hH)
  refine any_have 10 [18] (fun a a' w' => ∃ (gB : Nat), a' = (a.put (some 6) (.pointer (some ⟨gB, 0, none⟩))) ∧ w'.heap[sb]? = some (.cells #[.int .i64 4, .int .i64 0, .float .f64 0, .string ⟨#[]⟩, .slice ps ls cs] 27 (0, 0)) ∧ Below w.heap.size w w' ∧ Below wr.heap.size wr w' ∧ w'.heap[gB]? = some (.cells #[.int .i64 0, .int .i64 0, .float .f64 0, .string ⟨#[]⟩, .slice none 0 0] 27 (0, 0)) ∧ sb < gB ∧ wr.heap.size ≤ gB) ?phK18m (fun hK18 => ?_)
  case phK18m =>
    intro a' w' hst hH
    obtain ⟨gB, rfl, hR, hbd, hbr, hgB, hsgB, hwgB⟩ := hst
    (try simp only [Act.put, pk0, pk1, pk2])
    refine wpAnyH_ready (rs := [6, 17]) (by kernel_rfl) (by simp) ?_
    refine AllReadyH.cons (o := ?_) ?ho6hK18m ?hst6hK18m (AllReadyH.cons (o := ?_) ?ho17hK18m ?hst17hK18m AllReadyH.nil)
    case ho6hK18m => (simp only [lk0, lk1, lk2]; rfl)
    case ho17hK18m => (simp only [lk0, lk1, lk2]; rfl)
    case hst6hK18m =>
      intro K hK
      go_simp
      go_at_call 8; refine (method_any k hk _).mono ?_; rintro e wT ⟨rfl, hbT⟩
      go_wp2_with fail
      refine hK.out _ _ ?hs6hK18m (fun hH => ?_)
      case hs6hK18m => exact ⟨rc (row_step hR hbT) 0, rc (row_step hR hbT) 1, rc (row_step hR hbT) 2, rc (row_step hR hbT) 3, rc (row_step hR hbT) 4, (HK.out _ (bel_step hbd hbT)).1, (HK.out _ (bel_step hbd hbT)).2⟩
      clear hK K
      (try simp only [Act.put, pk0, pk1, pk2])
      exact any_eq (by kernel_rfl) (by kernel_rfl) (hK6_18 _ _ ⟨gB, rfl, (row_step hR hbT), (bel_step hbd hbT), (bel_step hbr hbT), (row_step hgB hbT), (hsgB), (hwgB)⟩ hH)
    case hst17hK18m =>
      intro K hK
      go_simp
      refine hK.out _ _ ?hs17hK18m (fun hH => ?_)
      case hs17hK18m => exact ⟨rc (row_step hR bz) 0, rc (row_step hR bz) 1, rc (row_step hR bz) 2, rc (row_step hR bz) 3, rc (row_step hR bz) 4, (HK.out _ (bel_step hbd bz)).1, (HK.out _ (bel_step hbd bz)).2⟩
      clear hK K
      (try simp only [Act.put, pk0, pk1, pk2])
      exact any_eq (by kernel_rfl) (by kernel_rfl) (hK17_18 _ _ ⟨_, gB, rfl, (row_step hR bz), (bel_step hbd bz), (bel_step hbr bz), row_alloc _ _ _, row_lt hR, hbr.size, (row_step hgB bz), (hsgB), (hwgB), Nat.ne_of_gt (row_lt hgB)⟩ hH)
  refine wpAnyH_ready (rs := [6, 17, 18]) (by kernel_rfl) (by simp) ?_
  refine AllReadyH.cons (o := ?_) ?ho6zm ?hst6zm (AllReadyH.cons (o := ?_) ?ho17zm ?hst17zm (AllReadyH.cons (o := ?_) ?ho18zm ?hst18zm AllReadyH.nil))
  case ho6zm => (simp only [lk0, lk1, lk2]; rfl)
  case ho17zm => (simp only [lk0, lk1, lk2]; rfl)
  case ho18zm => (simp only [lk0, lk1, lk2]; rfl)
  case hst6zm =>
    intro K hK
    go_simp
    go_at_call 8; refine (method_any k hk _).mono ?_; rintro e wT ⟨rfl, hbT⟩
    go_wp2_with fail
    refine hK.out _ _ ?hs6zm (fun hH => ?_)
    case hs6zm => exact ⟨rc (row_step hR hbT) 0, rc (row_step hR hbT) 1, rc (row_step hR hbT) 2, rc (row_step hR hbT) 3, rc (row_step hR hbT) 4, (HK.out _ (bel_step hbd hbT)).1, (HK.out _ (bel_step hbd hbT)).2⟩
    clear hK K
    (try simp only [Act.put, pk0, pk1, pk2])
    exact any_eq (by kernel_rfl) (by kernel_rfl) (hK6 _ _ ⟨rfl, (row_step hR hbT), (bel_step hbd hbT), (bel_step hbr hbT)⟩ hH)
  case hst17zm =>
    intro K hK
    go_simp
    refine hK.out _ _ ?hs17zm (fun hH => ?_)
    case hs17zm => exact ⟨rc (row_step hR bz) 0, rc (row_step hR bz) 1, rc (row_step hR bz) 2, rc (row_step hR bz) 3, rc (row_step hR bz) 4, (HK.out _ (bel_step hbd bz)).1, (HK.out _ (bel_step hbd bz)).2⟩
    clear hK K
    (try simp only [Act.put, pk0, pk1, pk2])
    exact any_eq (by kernel_rfl) (by kernel_rfl) (hK17 _ _ ⟨_, rfl, (row_step hR bz), (bel_step hbd bz), (bel_step hbr bz), row_alloc _ _ _, row_lt hR, hbr.size⟩ hH)
  case hst18zm =>
    intro K hK
    go_simp
    refine hK.out _ _ ?hs18zm (fun hH => ?_)
    case hs18zm => exact ⟨rc (row_step hR bz) 0, rc (row_step hR bz) 1, rc (row_step hR bz) 2, rc (row_step hR bz) 3, rc (row_step hR bz) 4, (HK.out _ (bel_step hbd bz)).1, (HK.out _ (bel_step hbd bz)).2⟩
    clear hK K
    (try simp only [Act.put, pk0, pk1, pk2])
    exact any_eq (by kernel_rfl) (by kernel_rfl) (hK18 _ _ ⟨_, rfl, (row_step hR bz), (bel_step hbd bz), (bel_step hbr bz), row_alloc _ _ _, row_lt hR, hbr.size⟩ hH)
end Num
end Go.Proofs.Yteodljkcbddehaa
