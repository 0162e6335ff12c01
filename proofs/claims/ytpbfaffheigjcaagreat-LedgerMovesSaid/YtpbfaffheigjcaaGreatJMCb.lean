/-
  LedgerMoves: the program's Do (region 15).
-/
import Derived.Test.YtpbfaffheigjcaaGreatJMI
import Derived.Test.YtpbfaffheigjcaaGreatJYL
import Derived.Test.YtpbfaffheigjcaaGreatJp23LM2
import Derived.Test.YtpbfaffheigjcaaGreatJLMr
import Derived.Deep.RegionHeld3
import Derived.RegionTactic
import Derived.Deep.DeepCutAuto
namespace Go.Proofs.YtpbfaffheigjcaaGreat
open Go.RowKit
namespace Num
open Ints
set_option linter.unusedSimpArgs false
set_option linter.unusedVariables false
def RepK (g : Nat → Prop) (z : World) (n : Nat) (v : Value) (T : VT n) : Prop := ∀ y : World, (∀ b, ¬ g b → b < z.heap.size → y.heap[b]? = z.heap[b]?) → Rep y n v T
theorem repK_step {g : Nat → Prop} {z z' : World} {n : Nat} {v : Value} {T : VT n} (hb : Below z.heap.size z z') (h : RepK g z n v T) : RepK g z' n v T := fun y hy => h y (fun b hg hlt => (hy b hg (Nat.lt_of_lt_of_le hlt hb.size)).trans (hb.block b hlt))
theorem repK_set {g : Nat → Prop} {z : World} {n k : Nat} {v : Value} {T : VT n} {u0 u1 u2 u3 u4 : Value} (h : RepK g z n v T) (hk : g k) : RepK g (set5 z k 0 u0 u1 u2 u3 u4) n v T := fun y hy => h y (fun b hb hlt => (hy b hb (by rw [set5_size]; exact hlt)).trans (set5_other (fun e => hb (e ▸ hk))))
theorem repK_to {g g' : Nat → Prop} {z : World} {n : Nat} {v : Value} {T : VT n} (h : RepK g z n v T) (hg : ∀ b, b < z.heap.size → g' b → g b) : RepK g' z n v T := fun y hy => h y (fun b hb hlt => hy b (fun hb' => hb (hg b hlt hb')) hlt)
theorem repK_rep {g : Nat → Prop} {z : World} {n : Nat} {v : Value} {T : VT n} (h : RepK g z n v T) : Rep z n v T := h z (fun _ _ _ => rfl)
theorem repK_of {g : Nat → Prop} {W z : World} {n : Nat} {v : Value} {T : VT n} (h : ∀ y, Stay W.heap.size z y → Rep y n v T) (hg : ∀ b, g b → b < W.heap.size) : RepK g z n v T := fun y hy => h y (fun b h1 h2 => hy b (fun hb => absurd (hg b hb) (by omega)) h2)
def MvB (w : World) (sb b off l cc i k gi gk : Nat) (ka kd : ByteArray) (z : World) : Prop := (z.cell? ⟨sb, 0, none⟩ = some (.int .i64 4) ∧ z.cell? ⟨sb, 1, none⟩ = some (.int .i64 0) ∧ z.cell? ⟨sb, 2, none⟩ = some (.float .f64 0) ∧ z.cell? ⟨sb, 3, none⟩ = some (.string ⟨#[]⟩) ∧ z.cell? ⟨sb, 4, none⟩ = some (.slice (some ⟨b, off, none⟩) l cc) ∧ z.cell? ⟨b, off + i * 5 + 4, none⟩ = some (.slice (some ⟨gi, 0, none⟩) 2 2) ∧ z.cell? ⟨b, off + k * 5 + 4, none⟩ = some (.slice (some ⟨gk, 0, none⟩) 2 2) ∧ z.cell? ⟨gi, 0, none⟩ = some (.int .i64 3) ∧ z.cell? ⟨gi, 1, none⟩ = some (.int .i64 0) ∧ z.cell? ⟨gi, 2, none⟩ = some (.float .f64 0) ∧ z.cell? ⟨gi, 3, none⟩ = some (.string ka) ∧ z.cell? ⟨gi, 4, none⟩ = some (.slice none 0 0) ∧ z.cell? ⟨gk, 0, none⟩ = some (.int .i64 3) ∧ z.cell? ⟨gk, 1, none⟩ = some (.int .i64 0) ∧ z.cell? ⟨gk, 2, none⟩ = some (.float .f64 0) ∧ z.cell? ⟨gk, 3, none⟩ = some (.string kd) ∧ z.cell? ⟨gk, 4, none⟩ = some (.slice none 0 0)) ∧ Below w.heap.size w z
set_option maxHeartbeats 4000000 in
theorem mvb_step {w x y : World} {sb b off l cc i k gi gk : Nat} {ka kd : ByteArray} (h : MvB w sb b off l cc i k gi gk ka kd x) (hb : Below x.heap.size x y) : MvB w sb b off l cc i k gi gk ka kd y :=
  ⟨⟨ck hb h.1.1, ck hb h.1.2.1, ck hb h.1.2.2.1, ck hb h.1.2.2.2.1, ck hb h.1.2.2.2.2.1, ck hb h.1.2.2.2.2.2.1, ck hb h.1.2.2.2.2.2.2.1, ck hb h.1.2.2.2.2.2.2.2.1, ck hb h.1.2.2.2.2.2.2.2.2.1, ck hb h.1.2.2.2.2.2.2.2.2.2.1, ck hb h.1.2.2.2.2.2.2.2.2.2.2.1, ck hb h.1.2.2.2.2.2.2.2.2.2.2.2.1, ck hb h.1.2.2.2.2.2.2.2.2.2.2.2.2.1, ck hb h.1.2.2.2.2.2.2.2.2.2.2.2.2.2.1, ck hb h.1.2.2.2.2.2.2.2.2.2.2.2.2.2.2.1, ck hb h.1.2.2.2.2.2.2.2.2.2.2.2.2.2.2.2.1, ck hb h.1.2.2.2.2.2.2.2.2.2.2.2.2.2.2.2.2⟩, bel_step h.2 hb⟩
theorem mvb_drew {w x : World} {sb b off l cc i k gi gk : Nat} {ka kd : ByteArray} (h : MvB w sb b off l cc i k gi gk ka kd x) : MvB w sb b off l cc i k gi gk ka kd x.drew := mvb_step h (Below.drew br)
set_option maxHeartbeats 4000000 in
theorem mvb_set {w x : World} {sb b off l cc i k gi gk g : Nat} {ka kd : ByteArray} {u0 u1 u2 u3 u4 : Value} (h : MvB w sb b off l cc i k gi gk ka kd x) (h1 : sb ≠ g) (h2 : b ≠ g) (h3 : gi ≠ g) (h4 : gk ≠ g) (h5 : w.heap.size ≤ g) : MvB w sb b off l cc i k gi gk ka kd (set5 x g 0 u0 u1 u2 u3 u4) := by
  have hs : ∀ (c o : Nat) (v : Value), c ≠ g → x.cell? ⟨c, o, none⟩ = some v → (set5 x g 0 u0 u1 u2 u3 u4).cell? ⟨c, o, none⟩ = some v := fun c o v hc hv => (World.cell?_of_block (set5_other (w := x) (g := g) (o := 0) (b := c) hc)).trans hv
  exact ⟨⟨hs _ _ _ h1 h.1.1, hs _ _ _ h1 h.1.2.1, hs _ _ _ h1 h.1.2.2.1, hs _ _ _ h1 h.1.2.2.2.1, hs _ _ _ h1 h.1.2.2.2.2.1, hs _ _ _ h2 h.1.2.2.2.2.2.1, hs _ _ _ h2 h.1.2.2.2.2.2.2.1, hs _ _ _ h3 h.1.2.2.2.2.2.2.2.1, hs _ _ _ h3 h.1.2.2.2.2.2.2.2.2.1, hs _ _ _ h3 h.1.2.2.2.2.2.2.2.2.2.1, hs _ _ _ h3 h.1.2.2.2.2.2.2.2.2.2.2.1, hs _ _ _ h3 h.1.2.2.2.2.2.2.2.2.2.2.2.1, hs _ _ _ h4 h.1.2.2.2.2.2.2.2.2.2.2.2.2.1, hs _ _ _ h4 h.1.2.2.2.2.2.2.2.2.2.2.2.2.2.1, hs _ _ _ h4 h.1.2.2.2.2.2.2.2.2.2.2.2.2.2.2.1, hs _ _ _ h4 h.1.2.2.2.2.2.2.2.2.2.2.2.2.2.2.2.1, hs _ _ _ h4 h.1.2.2.2.2.2.2.2.2.2.2.2.2.2.2.2.2⟩, set5_below h.2 h5 _ _ _ _ _⟩
theorem flo_refM (f H : Nat) (hc : Flo.canon f = H) (w : World) : Calls Tryz.prog 20 #[.float .f64 f] w fun e w' => e = .returned (.agg #[.int .i64 2, .int .i64 0, .float .f64 H, .string ⟨#[]⟩, .slice none 0 0]) ∧ Below w.heap.size w w' := by
  have h := float_ref_any f w
  rw [hc] at h
  exact h
set_option maxRecDepth 1000000 in
set_option maxHeartbeats 4000000 in
theorem mv15_any (w wr : World) (sb b off l cc i k gi gk : Nat) (ka kd : ByteArray) (nf H : Nat) (AS : List (ByteArray × Nat)) (TT : VT 3) (UU : VT 1) (z : Int) (c0 c1 c2 c4 c5 c6 c7 c8 c10 c11 c14 c15 c16 c17 c18 c19 c20 c21 c22 c23 c24 c25 c26 c27 c28 c29 c30 c31 c32 c33 c34 c35 c36 c37 c38 c39 c40 c41 c42 c43 c44 c45 c46 c47 c48 c49 c50 c51 c52 c53 c54 c55 c56 c57 c58 c59 c60 c61 c62 c63 c64 c65 c66 c67 c68 c69 c70 c71 c72 c73 c74 c75 c76 c77 c78 c79 c80 c81 c82 c83 c84 c85 c86 c87 c88 c89 c90 c91 c92 c93 c94 c95 c96 c97 c98 c99 c100 c101 c102 c103 c104 c105 c106 c107 c108 c109 c110 c111 c112 c113 c114 c115 c116 c117 c118 c119 c120 c121 c122 c123 c124 c125 c126 c127 c128 c129 c130 c131 c132 c133 c134 c135 c136 c137 c138 c139 c140 c141 c142 c143 c144 c145 c146 c147 c148 c149 c150 c151 c152 c153 c154 c155 c156 c157 c158 c159 c160 c161 c162 c163 c164 c165 c166 c167 c168 c169 c170 c171 c172 c173 c174 c175 c176 c177 c178 c179 c180 c181 c182 c183 c184 c185 c186 c187 c188 c189 c190 c191 c192 c193 c194 c195 c196 c197 c198 c199 c200 c201 c202 c203 c204 c205 c206 c207 c208 c209 c210 c211 c212 c213 c214 c215 c216 c217 c218 c219 c220 c221 c222 c223 c224 c225 c226 c227 c228 c229 c230 c231 c232 c233 c234 c235 c236 c237 c238 c239 c240 c241 c242 c243 c244 c245 c246 c247 c248 c249 c250 c251 c252 c253 c254 c255 : Value) (Q : Exit → Act → World → Prop) (hP : ∀ p a (d : Option Tmp) v w, Q (.panic p) (Act.put a d v) w → Q (.panic p) a w) (hlts : sb < wr.heap.size ∧ b < wr.heap.size ∧ gi < wr.heap.size ∧ gk < wr.heap.size ∧ w.heap.size ≤ wr.heap.size) (hix : (0 : Int) ≤ (i : Int) ∧ (i : Int) < (l : Int) ∧ (0 : Int) ≤ (k : Int) ∧ (k : Int) < (l : Int)) (hcan : Flo.canon nf = H) (hH : H < 2 ^ 64) (hka : ka.size ≤ maxLen) (hkd : kd.size ≤ maxLen) (HFB : Hid (MvB w sb b off l cc i k gi gk ka kd wr)) (HSTr : Hid (Rep wr 3 (.agg #[.int .i64 4, .int .i64 0, .float .f64 0, .string ⟨#[]⟩, .slice (some ⟨b, off, none⟩) l cc]) (tableT 0 (ledA AS)))) (HDO : Hid (∀ (W : World) (g : Nat), Rep W 3 (.agg #[.int .i64 4, .int .i64 0, .float .f64 0, .string ⟨#[]⟩, .slice (some ⟨b, off, none⟩) l cc]) (tableT 0 (ledA AS)) → LA g [nameV 0 ka, nameV 0 kd, (2, 0, H, ⟨#[]⟩, [])] W → Calls Tryz.prog 12 #[.agg #[.int .i64 4, .int .i64 0, .float .f64 0, .string ⟨#[]⟩, .slice (some ⟨b, off, none⟩) l cc], .string { data := #[116, 114, 97, 110, 115, 102, 101, 114] }, .slice (some ⟨g, 0, none⟩) 3 3] W fun e w' => DoQ W 3 1 (TT) (UU) z e w'))
    (hQ : ∀ (gA gB gE : Nat) (Kt It : Int) (Ft : Nat) (Zt : ByteArray) (qt : Option Addr) (mt dt : Nat) (Kv Iv : Int) (Fv : Nat) (Zv : ByteArray) (qv : Option Addr) (mv dv : Nat) (wx : World), CS wx gA (.int .i64 Kt) (.int .i64 It) (.float .f64 Ft) (.string Zt) (.slice qt mt dt) ∧ CS wx gB (.int .i64 Kv) (.int .i64 Iv) (.float .f64 Fv) (.string Zv) (.slice qv mv dv) ∧ MvB w sb b off l cc i k gi gk ka kd wx ∧ Below wr.heap.size wr wx ∧ RepS (fun b => wr.heap.size ≤ b ∧ b ≠ gA ∧ b ≠ gB) wx 3 (.agg #[.int .i64 Kt, .int .i64 It, .float .f64 Ft, .string Zt, .slice qt mt dt]) (TT) ∧ RepS (fun b => wr.heap.size ≤ b ∧ b ≠ gA ∧ b ≠ gB) wx 1 (.agg #[.int .i64 Kv, .int .i64 Iv, .float .f64 Fv, .string Zv, .slice qv mv dv]) (UU) ∧ wr.heap.size ≤ gA ∧ wr.heap.size ≤ gB → Q .normal { tmps := #[c0, c1, c2, (.float .f64 nf), c4, c5, c6, c7, c8, (.pointer (some ⟨sb, 0, none⟩)), c10, c11, (.int .i64 i), (.int .i64 k), c14, c15, (.pointer (some ⟨gA, 0, none⟩)), (.pointer (some ⟨gB, 0, none⟩)), (.int .i64 z), c19, c20, c21, c22, c23, c24, c25, c26, c27, c28, c29, c30, c31, c32, c33, c34, c35, c36, c37, c38, c39, c40, c41, c42, c43, c44, c45, c46, c47, c48, c49, c50, c51, c52, c53, c54, c55, c56, c57, c58, c59, c60, c61, c62, c63, c64, c65, c66, c67, c68, c69, c70, c71, c72, c73, c74, c75, c76, c77, c78, c79, c80, c81, c82, c83, c84, c85, c86, c87, c88, c89, c90, c91, c92, c93, c94, c95, c96, c97, (.tuple #[.agg #[.int .i64 Kt, .int .i64 It, .float .f64 Ft, .string Zt, .slice qt mt dt], .agg #[.int .i64 Kv, .int .i64 Iv, .float .f64 Fv, .string Zv, .slice qv mv dv], .int .i64 z]), (.agg #[.int .i64 4, .int .i64 0, .float .f64 0, .string ⟨#[]⟩, .slice (some ⟨b, off, none⟩) l cc]), (.pointer (some ⟨sb, 4, none⟩)), (.slice (some ⟨b, off, none⟩) l cc), (.int .i64 i), (.pointer (some ⟨b, off + i * 5, none⟩)), (.pointer (some ⟨b, off + i * 5 + 4, none⟩)), (.slice (some ⟨gi, 0, none⟩) 2 2), (.pointer (some ⟨gi, 0, none⟩)), (.agg #[.int .i64 3, .int .i64 0, .float .f64 0, .string ka, .slice none 0 0]), (.pointer (some ⟨sb, 4, none⟩)), (.slice (some ⟨b, off, none⟩) l cc), (.int .i64 k), (.pointer (some ⟨b, off + k * 5, none⟩)), (.pointer (some ⟨b, off + k * 5 + 4, none⟩)), (.slice (some ⟨gk, 0, none⟩) 2 2), (.pointer (some ⟨gk, 0, none⟩)), (.agg #[.int .i64 3, .int .i64 0, .float .f64 0, .string kd, .slice none 0 0]), (.float .f64 nf), (.agg #[.int .i64 2, .int .i64 0, .float .f64 H, .string ⟨#[]⟩, .slice none 0 0]), (.slice (some ⟨gE, 0, none⟩) 3 3), (.tuple #[.agg #[.int .i64 Kt, .int .i64 It, .float .f64 Ft, .string Zt, .slice qt mt dt], .agg #[.int .i64 Kv, .int .i64 Iv, .float .f64 Fv, .string Zv, .slice qv mv dv], .int .i64 z]), (.agg #[.int .i64 Kt, .int .i64 It, .float .f64 Ft, .string Zt, .slice qt mt dt]), (.agg #[.int .i64 Kv, .int .i64 Iv, .float .f64 Fv, .string Zv, .slice qv mv dv]), (.int .i64 z), c123, c124, c125, c126, c127, c128, c129, c130, c131, c132, c133, c134, c135, c136, c137, c138, c139, c140, c141, c142, c143, c144, c145, c146, c147, c148, c149, c150, c151, c152, c153, c154, c155, c156, c157, c158, c159, c160, c161, c162, c163, c164, c165, c166, c167, c168, c169, c170, c171, c172, c173, c174, c175, c176, c177, c178, c179, c180, c181, c182, c183, c184, c185, c186, c187, c188, c189, c190, c191, c192, c193, c194, c195, c196, c197, c198, c199, c200, c201, c202, c203, c204, c205, c206, c207, c208, c209, c210, c211, c212, c213, c214, c215, c216, c217, c218, c219, c220, c221, c222, c223, c224, c225, c226, c227, c228, c229, c230, c231, c232, c233, c234, c235, c236, c237, c238, c239, c240, c241, c242, c243, c244, c245, c246, c247, c248, c249, c250, c251, c252, c253, c254, c255], defers := [] } wx) :
    Code.wp Tryz.prog ((Tryz.f6.body.bind (regionBy 15)).getD .skip) Q { tmps := #[c0, c1, c2, (.float .f64 nf), c4, c5, c6, c7, c8, (.pointer (some ⟨sb, 0, none⟩)), c10, c11, (.int .i64 i), (.int .i64 k), c14, c15, c16, c17, c18, c19, c20, c21, c22, c23, c24, c25, c26, c27, c28, c29, c30, c31, c32, c33, c34, c35, c36, c37, c38, c39, c40, c41, c42, c43, c44, c45, c46, c47, c48, c49, c50, c51, c52, c53, c54, c55, c56, c57, c58, c59, c60, c61, c62, c63, c64, c65, c66, c67, c68, c69, c70, c71, c72, c73, c74, c75, c76, c77, c78, c79, c80, c81, c82, c83, c84, c85, c86, c87, c88, c89, c90, c91, c92, c93, c94, c95, c96, c97, c98, c99, c100, c101, c102, c103, c104, c105, c106, c107, c108, c109, c110, c111, c112, c113, c114, c115, c116, c117, c118, c119, c120, c121, c122, c123, c124, c125, c126, c127, c128, c129, c130, c131, c132, c133, c134, c135, c136, c137, c138, c139, c140, c141, c142, c143, c144, c145, c146, c147, c148, c149, c150, c151, c152, c153, c154, c155, c156, c157, c158, c159, c160, c161, c162, c163, c164, c165, c166, c167, c168, c169, c170, c171, c172, c173, c174, c175, c176, c177, c178, c179, c180, c181, c182, c183, c184, c185, c186, c187, c188, c189, c190, c191, c192, c193, c194, c195, c196, c197, c198, c199, c200, c201, c202, c203, c204, c205, c206, c207, c208, c209, c210, c211, c212, c213, c214, c215, c216, c217, c218, c219, c220, c221, c222, c223, c224, c225, c226, c227, c228, c229, c230, c231, c232, c233, c234, c235, c236, c237, c238, c239, c240, c241, c242, c243, c244, c245, c246, c247, c248, c249, c250, c251, c252, c253, c254, c255], defers := [] } wr := by
  conv => arg 2; whnf
  obtain ⟨hsb, hbb, hgi, hgk, hwr⟩ := hlts
  obtain ⟨hi0, hi1, hk0, hk1⟩ := hix
  refine wp_region_held_drew (S := (fun z => z.cell? ⟨sb, 0, none⟩ = some (.int .i64 4) ∧ z.cell? ⟨sb, 1, none⟩ = some (.int .i64 0) ∧ z.cell? ⟨sb, 2, none⟩ = some (.float .f64 0) ∧ z.cell? ⟨sb, 3, none⟩ = some (.string ⟨#[]⟩) ∧ z.cell? ⟨sb, 4, none⟩ = some (.slice (some ⟨b, off, none⟩) l cc) ∧ z.cell? ⟨b, off + i * 5 + 4, none⟩ = some (.slice (some ⟨gi, 0, none⟩) 2 2) ∧ z.cell? ⟨b, off + k * 5 + 4, none⟩ = some (.slice (some ⟨gk, 0, none⟩) 2 2) ∧ z.cell? ⟨gi, 0, none⟩ = some (.int .i64 3) ∧ z.cell? ⟨gi, 1, none⟩ = some (.int .i64 0) ∧ z.cell? ⟨gi, 2, none⟩ = some (.float .f64 0) ∧ z.cell? ⟨gi, 3, none⟩ = some (.string ka) ∧ z.cell? ⟨gi, 4, none⟩ = some (.slice none 0 0) ∧ z.cell? ⟨gk, 0, none⟩ = some (.int .i64 3) ∧ z.cell? ⟨gk, 1, none⟩ = some (.int .i64 0) ∧ z.cell? ⟨gk, 2, none⟩ = some (.float .f64 0) ∧ z.cell? ⟨gk, 3, none⟩ = some (.string kd) ∧ z.cell? ⟨gk, 4, none⟩ = some (.slice none 0 0))) (by kernel_rfl) ?_ (fun hHd => ?_)
  · exact (mvb_drew HFB.out).1
  have HDW := Lib.hid (show MvB w sb b off l cc i k gi gk ka kd wr.drew ∧ Below wr.heap.size wr wr.drew from ⟨mvb_drew HFB.out, Below.drew br⟩)
  have hdz : wr.drew.heap.size = wr.heap.size := rfl
  revert HDW hHd hdz
  generalize wr.drew = Wd
  intro hHd HDW hdz
  have hq := HDW.out.1
  have hbd := HDW.out.2
  refine zt [0, 1, 2, 3, 4, 5, 6, 7, 8, 9, 10, 11, 12, 13, 14, 15, 16, 17] ?_
  iterate 18 (refine zt1 hP (by simp only [lk0, lk1, lk2]; rfl) (by kernel_rfl) (by assumption) (by rfl) (fun w h => by (try dsimp only at h); go_simp; (try with_reducible rfl)) ?_; (try simp only [Act.put, pk0, pk1, pk2]))
  refine zt0 ?_
  refine any_have 3 [25, 26, 18, 19, 20, 21, 22, 23, 24] (fun a a' w' => ∃ (gA gB gE : Nat), ∃ (Kt It : Int) (Ft : Nat) (Zt : ByteArray) (qt : Option Addr) (mt dt : Nat) (Kv Iv : Int) (Fv : Nat) (Zv : ByteArray) (qv : Option Addr) (mv dv : Nat), a' = (((((((((a.put (some 16) (.pointer (some ⟨gA, 0, none⟩))).put (some 17) (.pointer (some ⟨gB, 0, none⟩))).put (some 117) (.agg #[.int .i64 2, .int .i64 0, .float .f64 H, .string ⟨#[]⟩, .slice none 0 0])).put (some 118) (.slice (some ⟨gE, 0, none⟩) 3 3)).put (some 119) (.tuple #[.agg #[.int .i64 Kt, .int .i64 It, .float .f64 Ft, .string Zt, .slice qt mt dt], .agg #[.int .i64 Kv, .int .i64 Iv, .float .f64 Fv, .string Zv, .slice qv mv dv], .int .i64 z])).put (some 98) (.tuple #[.agg #[.int .i64 Kt, .int .i64 It, .float .f64 Ft, .string Zt, .slice qt mt dt], .agg #[.int .i64 Kv, .int .i64 Iv, .float .f64 Fv, .string Zv, .slice qv mv dv], .int .i64 z])).put (some 120) (.agg #[.int .i64 Kt, .int .i64 It, .float .f64 Ft, .string Zt, .slice qt mt dt])).put (some 121) (.agg #[.int .i64 Kv, .int .i64 Iv, .float .f64 Fv, .string Zv, .slice qv mv dv])).put (some 122) (.int .i64 z)) ∧ MvB w sb b off l cc i k gi gk ka kd w' ∧ Below wr.heap.size wr w' ∧ SBX w' gA (.int .i64 0) (.int .i64 0) (.float .f64 0) (.string ⟨#[]⟩) (.slice none 0 0) ∧ wr.heap.size ≤ gA ∧ SBX w' gB (.int .i64 0) (.int .i64 0) (.float .f64 0) (.string ⟨#[]⟩) (.slice none 0 0) ∧ wr.heap.size ≤ gB ∧ gA ≠ gB ∧ RepS (fun b => wr.heap.size ≤ b ∧ b ≠ gA ∧ b ≠ gB) w' 3 (.agg #[.int .i64 Kt, .int .i64 It, .float .f64 Ft, .string Zt, .slice qt mt dt]) (TT) ∧ RepS (fun b => wr.heap.size ≤ b ∧ b ≠ gA ∧ b ≠ gB) w' 1 (.agg #[.int .i64 Kv, .int .i64 Iv, .float .f64 Fv, .string Zv, .slice qv mv dv]) (UU)) ?phK113m (fun hK113 => ?_)
  case phK113m =>
    intro a' w' hst hHd
    obtain ⟨gA, gB, gE, Kt, It, Ft, Zt, qt, mt, dt, Kv, Iv, Fv, Zv, qv, mv, dv, rfl, hq, hbd, hsA, hgA, hsB, hgB, hne, ht, hv⟩ := hst
    (try simp only [Act.put, pk0, pk1, pk2])
    have hcA := hsA.1; have hcB := hsB.1
    refine zr1 27 (by kernel_rfl) (by simp only [lk0, lk1, lk2]; rfl) (fun K hK => ?_)
    have bb0 := hsA.1.1; have bb1 := hsA.1.2.1; have bb2 := hsA.1.2.2.1; have bb3 := hsA.1.2.2.2.1; have bb4 := hsA.1.2.2.2.2; have bbf := hsA.2; have bbl := cell_lt bb0; go_simp
    have hqA : MvB w sb b off l cc i k gi gk ka kd (((((w'.setCell ⟨gA, 0, none⟩ (.int .i64 Kt)).setCell ⟨gA, 1, none⟩ (.int .i64 It)).setCell ⟨gA, 2, none⟩ (.float .f64 Ft)).setCell ⟨gA, 3, none⟩ (.string Zt)).setCell ⟨gA, 4, none⟩ (.slice qt mt dt)) := mvb_set hq (by have h := hgA; omega) (by have h := hgA; omega) (by have h := hgA; omega) (by have h := hgA; omega) (by have h := hgA; omega)
    refine hK.out _ _ ?hs27hK113m (fun hHd => ?_)
    case hs27hK113m => exact (hqA).1
    clear hK K bb0 bb1 bb2 bb3 bb4 bbf bbl
    (try simp only [Act.put, pk0, pk1, pk2])
    refine zr1 28 (by kernel_rfl) (by simp only [lk0, lk1, lk2]; rfl) (fun K hK => ?_)
    have bb0 := hsB.1.1; have bb1 := hsB.1.2.1; have bb2 := hsB.1.2.2.1; have bb3 := hsB.1.2.2.2.1; have bb4 := hsB.1.2.2.2.2; have bbf := hsB.2; have bbl := cell_lt bb0; go_simp
    have hqB : MvB w sb b off l cc i k gi gk ka kd ((((((((((w'.setCell ⟨gA, 0, none⟩ (.int .i64 Kt)).setCell ⟨gA, 1, none⟩ (.int .i64 It)).setCell ⟨gA, 2, none⟩ (.float .f64 Ft)).setCell ⟨gA, 3, none⟩ (.string Zt)).setCell ⟨gA, 4, none⟩ (.slice qt mt dt)).setCell ⟨gB, 0, none⟩ (.int .i64 Kv)).setCell ⟨gB, 1, none⟩ (.int .i64 Iv)).setCell ⟨gB, 2, none⟩ (.float .f64 Fv)).setCell ⟨gB, 3, none⟩ (.string Zv)).setCell ⟨gB, 4, none⟩ (.slice qv mv dv)) := mvb_set hqA (by have h := hgB; omega) (by have h := hgB; omega) (by have h := hgB; omega) (by have h := hgB; omega) (by have h := hgB; omega)
    refine hK.out _ _ ?hs28hK113m (fun hHd => ?_)
    case hs28hK113m => exact (hqB).1
    clear hK K bb0 bb1 bb2 bb3 bb4 bbf bbl
    (try simp only [Act.put, pk0, pk1, pk2])
    refine zt [29] ?_
    refine zt1 hP (by simp only [lk0, lk1, lk2]; rfl) (by kernel_rfl) (by assumption) (by rfl) (fun w h => by (try dsimp only at h); go_simp; (try with_reducible rfl)) ?_; (try simp only [Act.put, pk0, pk1, pk2])
    refine zt0 ?_
    refine wpAnyH_done (by kernel_rfl) ?_ _
    have HGF := Lib.hid (show (fun z0 : World => CS z0 gA (.int .i64 Kt) (.int .i64 It) (.float .f64 Ft) (.string Zt) (.slice qt mt dt) ∧ CS z0 gB (.int .i64 Kv) (.int .i64 Iv) (.float .f64 Fv) (.string Zv) (.slice qv mv dv) ∧ MvB w sb b off l cc i k gi gk ka kd z0 ∧ Below wr.heap.size wr z0 ∧ RepS (fun b => wr.heap.size ≤ b ∧ b ≠ gA ∧ b ≠ gB) z0 3 (.agg #[.int .i64 Kt, .int .i64 It, .float .f64 Ft, .string Zt, .slice qt mt dt]) (TT) ∧ RepS (fun b => wr.heap.size ≤ b ∧ b ≠ gA ∧ b ≠ gB) z0 1 (.agg #[.int .i64 Kv, .int .i64 Iv, .float .f64 Fv, .string Zv, .slice qv mv dv]) (UU) ∧ wr.heap.size ≤ gA ∧ wr.heap.size ≤ gB) ((((((((((w'.setCell ⟨gA, 0, none⟩ (.int .i64 Kt)).setCell ⟨gA, 1, none⟩ (.int .i64 It)).setCell ⟨gA, 2, none⟩ (.float .f64 Ft)).setCell ⟨gA, 3, none⟩ (.string Zt)).setCell ⟨gA, 4, none⟩ (.slice qt mt dt)).setCell ⟨gB, 0, none⟩ (.int .i64 Kv)).setCell ⟨gB, 1, none⟩ (.int .i64 Iv)).setCell ⟨gB, 2, none⟩ (.float .f64 Fv)).setCell ⟨gB, 3, none⟩ (.string Zv)).setCell ⟨gB, 4, none⟩ (.slice qv mv dv)) from ⟨cs_other (cs_set5 hsA.1) hne, cs_set5 (cs_other hsB.1 hne.symm), hqB, bel_set5 (bel_set5 hbd hgA) hgB, repS_set (repS_set ht (fun b hb => hb.2.1)) (fun b hb => hb.2.2), repS_set (repS_set hv (fun b hb => hb.2.1)) (fun b hb => hb.2.2), hgA, hgB⟩)
    clear hq hqA hqB hbd hsA hsB hcA hcB ht hv hHd
    revert HGF
    generalize ((((((((((w'.setCell ⟨gA, 0, none⟩ (.int .i64 Kt)).setCell ⟨gA, 1, none⟩ (.int .i64 It)).setCell ⟨gA, 2, none⟩ (.float .f64 Ft)).setCell ⟨gA, 3, none⟩ (.string Zt)).setCell ⟨gA, 4, none⟩ (.slice qt mt dt)).setCell ⟨gB, 0, none⟩ (.int .i64 Kv)).setCell ⟨gB, 1, none⟩ (.int .i64 Iv)).setCell ⟨gB, 2, none⟩ (.float .f64 Fv)).setCell ⟨gB, 3, none⟩ (.string Zv)).setCell ⟨gB, 4, none⟩ (.slice qv mv dv)) = Wg
    intro HGF
    exact hQ gA gB gE Kt It Ft Zt qt mt dt Kv Iv Fv Zv qv mv dv Wg HGF.out
  refine any_have 4 [25, 18, 19, 20, 21, 22, 23, 24] (fun a a' w' => ∃ (gA gE : Nat), ∃ (Kt It : Int) (Ft : Nat) (Zt : ByteArray) (qt : Option Addr) (mt dt : Nat) (Kv Iv : Int) (Fv : Nat) (Zv : ByteArray) (qv : Option Addr) (mv dv : Nat), a' = ((((((((a.put (some 16) (.pointer (some ⟨gA, 0, none⟩))).put (some 117) (.agg #[.int .i64 2, .int .i64 0, .float .f64 H, .string ⟨#[]⟩, .slice none 0 0])).put (some 118) (.slice (some ⟨gE, 0, none⟩) 3 3)).put (some 119) (.tuple #[.agg #[.int .i64 Kt, .int .i64 It, .float .f64 Ft, .string Zt, .slice qt mt dt], .agg #[.int .i64 Kv, .int .i64 Iv, .float .f64 Fv, .string Zv, .slice qv mv dv], .int .i64 z])).put (some 98) (.tuple #[.agg #[.int .i64 Kt, .int .i64 It, .float .f64 Ft, .string Zt, .slice qt mt dt], .agg #[.int .i64 Kv, .int .i64 Iv, .float .f64 Fv, .string Zv, .slice qv mv dv], .int .i64 z])).put (some 120) (.agg #[.int .i64 Kt, .int .i64 It, .float .f64 Ft, .string Zt, .slice qt mt dt])).put (some 121) (.agg #[.int .i64 Kv, .int .i64 Iv, .float .f64 Fv, .string Zv, .slice qv mv dv])).put (some 122) (.int .i64 z)) ∧ MvB w sb b off l cc i k gi gk ka kd w' ∧ Below wr.heap.size wr w' ∧ SBX w' gA (.int .i64 0) (.int .i64 0) (.float .f64 0) (.string ⟨#[]⟩) (.slice none 0 0) ∧ wr.heap.size ≤ gA ∧ RepS (fun b => wr.heap.size ≤ b ∧ b ≠ gA) w' 3 (.agg #[.int .i64 Kt, .int .i64 It, .float .f64 Ft, .string Zt, .slice qt mt dt]) (TT) ∧ RepS (fun b => wr.heap.size ≤ b ∧ b ≠ gA) w' 1 (.agg #[.int .i64 Kv, .int .i64 Iv, .float .f64 Fv, .string Zv, .slice qv mv dv]) (UU)) ?phK103m (fun hK103 => ?_)
  case phK103m =>
    intro a' w' hst hHd
    obtain ⟨gA, gE, Kt, It, Ft, Zt, qt, mt, dt, Kv, Iv, Fv, Zv, qv, mv, dv, rfl, hq, hbd, hsA, hgA, ht, hv⟩ := hst
    (try simp only [Act.put, pk0, pk1, pk2])
    refine wpAnyH_ready (rs := [26]) (by kernel_rfl) (by simp) ?_
    refine AllReadyH.cons (o := ?_) ?hoBhK103m ?hstBhK103m AllReadyH.nil
    case hoBhK103m => (simp only [lk0, lk1, lk2]; rfl)
    case hstBhK103m =>
      intro K hK
      go_simp
      refine hK.out _ _ ?hsBhK103m (fun hHd => ?_)
      case hsBhK103m => exact ((mvb_step hq bz)).1
      clear hK K
      (try simp only [Act.put, pk0, pk1, pk2])
      exact any_eq (by kernel_rfl) (by kernel_rfl) (hK113 _ _ ⟨gA, _, gE, Kt, It, Ft, Zt, qt, mt, dt, Kv, Iv, Fv, Zv, qv, mv, dv, rfl, (mvb_step hq bz), (bel_step hbd bz), (sbx_step hsA bz), hgA, ⟨cs_new rfl, fun o => row_frz (row_alloc _ _ _) o⟩, hbd.size, (by have h := cs_lt hsA.1; omega), (repS_step bz (repS_mono (fun b hb => ⟨hb.1.1, hb.1.2, Nat.ne_of_lt hb.2⟩) _ _ _ (repS_lt _ _ _ ht))), (repS_step bz (repS_mono (fun b hb => ⟨hb.1.1, hb.1.2, Nat.ne_of_lt hb.2⟩) _ _ _ (repS_lt _ _ _ hv)))⟩ hHd)
  refine any_have 4 [26, 18, 19, 20, 21, 22, 23, 24] (fun a a' w' => ∃ (gB gE : Nat), ∃ (Kt It : Int) (Ft : Nat) (Zt : ByteArray) (qt : Option Addr) (mt dt : Nat) (Kv Iv : Int) (Fv : Nat) (Zv : ByteArray) (qv : Option Addr) (mv dv : Nat), a' = ((((((((a.put (some 17) (.pointer (some ⟨gB, 0, none⟩))).put (some 117) (.agg #[.int .i64 2, .int .i64 0, .float .f64 H, .string ⟨#[]⟩, .slice none 0 0])).put (some 118) (.slice (some ⟨gE, 0, none⟩) 3 3)).put (some 119) (.tuple #[.agg #[.int .i64 Kt, .int .i64 It, .float .f64 Ft, .string Zt, .slice qt mt dt], .agg #[.int .i64 Kv, .int .i64 Iv, .float .f64 Fv, .string Zv, .slice qv mv dv], .int .i64 z])).put (some 98) (.tuple #[.agg #[.int .i64 Kt, .int .i64 It, .float .f64 Ft, .string Zt, .slice qt mt dt], .agg #[.int .i64 Kv, .int .i64 Iv, .float .f64 Fv, .string Zv, .slice qv mv dv], .int .i64 z])).put (some 120) (.agg #[.int .i64 Kt, .int .i64 It, .float .f64 Ft, .string Zt, .slice qt mt dt])).put (some 121) (.agg #[.int .i64 Kv, .int .i64 Iv, .float .f64 Fv, .string Zv, .slice qv mv dv])).put (some 122) (.int .i64 z)) ∧ MvB w sb b off l cc i k gi gk ka kd w' ∧ Below wr.heap.size wr w' ∧ SBX w' gB (.int .i64 0) (.int .i64 0) (.float .f64 0) (.string ⟨#[]⟩) (.slice none 0 0) ∧ wr.heap.size ≤ gB ∧ RepS (fun b => wr.heap.size ≤ b ∧ b ≠ gB) w' 3 (.agg #[.int .i64 Kt, .int .i64 It, .float .f64 Ft, .string Zt, .slice qt mt dt]) (TT) ∧ RepS (fun b => wr.heap.size ≤ b ∧ b ≠ gB) w' 1 (.agg #[.int .i64 Kv, .int .i64 Iv, .float .f64 Fv, .string Zv, .slice qv mv dv]) (UU)) ?phK013m (fun hK013 => ?_)
  case phK013m =>
    intro a' w' hst hHd
    obtain ⟨gB, gE, Kt, It, Ft, Zt, qt, mt, dt, Kv, Iv, Fv, Zv, qv, mv, dv, rfl, hq, hbd, hsB, hgB, ht, hv⟩ := hst
    (try simp only [Act.put, pk0, pk1, pk2])
    refine wpAnyH_ready (rs := [25]) (by kernel_rfl) (by simp) ?_
    refine AllReadyH.cons (o := ?_) ?hoAhK013m ?hstAhK013m AllReadyH.nil
    case hoAhK013m => (simp only [lk0, lk1, lk2]; rfl)
    case hstAhK013m =>
      intro K hK
      go_simp
      refine hK.out _ _ ?hsAhK013m (fun hHd => ?_)
      case hsAhK013m => exact ((mvb_step hq bz)).1
      clear hK K
      (try simp only [Act.put, pk0, pk1, pk2])
      exact any_eq (by kernel_rfl) (by kernel_rfl) (hK113 _ _ ⟨_, gB, gE, Kt, It, Ft, Zt, qt, mt, dt, Kv, Iv, Fv, Zv, qv, mv, dv, rfl, (mvb_step hq bz), (bel_step hbd bz), ⟨cs_new rfl, fun o => row_frz (row_alloc _ _ _) o⟩, hbd.size, (sbx_step hsB bz), hgB, (by have h := cs_lt hsB.1; omega), (repS_step bz (repS_mono (fun b hb => ⟨hb.1.1, Nat.ne_of_lt hb.2, hb.1.2⟩) _ _ _ (repS_lt _ _ _ ht))), (repS_step bz (repS_mono (fun b hb => ⟨hb.1.1, Nat.ne_of_lt hb.2, hb.1.2⟩) _ _ _ (repS_lt _ _ _ hv)))⟩ hHd)
  refine any_have 5 [18, 19, 20, 21, 22, 23, 24] (fun a a' w' => ∃ (gE : Nat), ∃ (Kt It : Int) (Ft : Nat) (Zt : ByteArray) (qt : Option Addr) (mt dt : Nat) (Kv Iv : Int) (Fv : Nat) (Zv : ByteArray) (qv : Option Addr) (mv dv : Nat), a' = (((((((a.put (some 117) (.agg #[.int .i64 2, .int .i64 0, .float .f64 H, .string ⟨#[]⟩, .slice none 0 0])).put (some 118) (.slice (some ⟨gE, 0, none⟩) 3 3)).put (some 119) (.tuple #[.agg #[.int .i64 Kt, .int .i64 It, .float .f64 Ft, .string Zt, .slice qt mt dt], .agg #[.int .i64 Kv, .int .i64 Iv, .float .f64 Fv, .string Zv, .slice qv mv dv], .int .i64 z])).put (some 98) (.tuple #[.agg #[.int .i64 Kt, .int .i64 It, .float .f64 Ft, .string Zt, .slice qt mt dt], .agg #[.int .i64 Kv, .int .i64 Iv, .float .f64 Fv, .string Zv, .slice qv mv dv], .int .i64 z])).put (some 120) (.agg #[.int .i64 Kt, .int .i64 It, .float .f64 Ft, .string Zt, .slice qt mt dt])).put (some 121) (.agg #[.int .i64 Kv, .int .i64 Iv, .float .f64 Fv, .string Zv, .slice qv mv dv])).put (some 122) (.int .i64 z)) ∧ MvB w sb b off l cc i k gi gk ka kd w' ∧ Below wr.heap.size wr w' ∧ RepS (fun b => wr.heap.size ≤ b) w' 3 (.agg #[.int .i64 Kt, .int .i64 It, .float .f64 Ft, .string Zt, .slice qt mt dt]) (TT) ∧ RepS (fun b => wr.heap.size ≤ b) w' 1 (.agg #[.int .i64 Kv, .int .i64 Iv, .float .f64 Fv, .string Zv, .slice qv mv dv]) (UU)) ?phK003m (fun hK003 => ?_)
  case phK003m =>
    intro a' w' hst hHd
    obtain ⟨gE, Kt, It, Ft, Zt, qt, mt, dt, Kv, Iv, Fv, Zv, qv, mv, dv, rfl, hq, hbd, ht, hv⟩ := hst
    (try simp only [Act.put, pk0, pk1, pk2])
    refine wpAnyH_ready (rs := [25, 26]) (by kernel_rfl) (by simp) ?_
    refine AllReadyH.cons (o := ?_) ?hoAhK003m ?hstAhK003m (AllReadyH.cons (o := ?_) ?hoBhK003m ?hstBhK003m AllReadyH.nil)
    case hoAhK003m => (simp only [lk0, lk1, lk2]; rfl)
    case hoBhK003m => (simp only [lk0, lk1, lk2]; rfl)
    case hstAhK003m =>
      intro K hK
      go_simp
      refine hK.out _ _ ?hsAhK003m (fun hHd => ?_)
      case hsAhK003m => exact ((mvb_step hq bz)).1
      clear hK K
      (try simp only [Act.put, pk0, pk1, pk2])
      exact any_eq (by kernel_rfl) (by kernel_rfl) (hK103 _ _ ⟨_, gE, Kt, It, Ft, Zt, qt, mt, dt, Kv, Iv, Fv, Zv, qv, mv, dv, rfl, (mvb_step hq bz), (bel_step hbd bz), ⟨cs_new rfl, fun o => row_frz (row_alloc _ _ _) o⟩, hbd.size, (repS_step bz (repS_mono (fun b hb => ⟨hb.1, Nat.ne_of_lt hb.2⟩) _ _ _ (repS_lt _ _ _ ht))), (repS_step bz (repS_mono (fun b hb => ⟨hb.1, Nat.ne_of_lt hb.2⟩) _ _ _ (repS_lt _ _ _ hv)))⟩ hHd)
    case hstBhK003m =>
      intro K hK
      go_simp
      refine hK.out _ _ ?hsBhK003m (fun hHd => ?_)
      case hsBhK003m => exact ((mvb_step hq bz)).1
      clear hK K
      (try simp only [Act.put, pk0, pk1, pk2])
      exact any_eq (by kernel_rfl) (by kernel_rfl) (hK013 _ _ ⟨_, gE, Kt, It, Ft, Zt, qt, mt, dt, Kv, Iv, Fv, Zv, qv, mv, dv, rfl, (mvb_step hq bz), (bel_step hbd bz), ⟨cs_new rfl, fun o => row_frz (row_alloc _ _ _) o⟩, hbd.size, (repS_step bz (repS_mono (fun b hb => ⟨hb.1, Nat.ne_of_lt hb.2⟩) _ _ _ (repS_lt _ _ _ ht))), (repS_step bz (repS_mono (fun b hb => ⟨hb.1, Nat.ne_of_lt hb.2⟩) _ _ _ (repS_lt _ _ _ hv)))⟩ hHd)
  refine any_have 8 [25, 26, 18, 19] (fun a a' w' => ∃ (gA gB gE : Nat), a' = ((((a.put (some 16) (.pointer (some ⟨gA, 0, none⟩))).put (some 17) (.pointer (some ⟨gB, 0, none⟩))).put (some 117) (.agg #[.int .i64 2, .int .i64 0, .float .f64 H, .string ⟨#[]⟩, .slice none 0 0])).put (some 118) (.slice (some ⟨gE, 0, none⟩) 3 3)) ∧ MvB w sb b off l cc i k gi gk ka kd w' ∧ Below wr.heap.size wr w' ∧ SBX w' gA (.int .i64 0) (.int .i64 0) (.float .f64 0) (.string ⟨#[]⟩) (.slice none 0 0) ∧ wr.heap.size ≤ gA ∧ SBX w' gB (.int .i64 0) (.int .i64 0) (.float .f64 0) (.string ⟨#[]⟩) (.slice none 0 0) ∧ wr.heap.size ≤ gB ∧ gA ≠ gB ∧ LA gE [nameV 0 ka, nameV 0 kd, (2, 0, H, ⟨#[]⟩, [])] w') ?phK112m (fun hK112 => ?_)
  case phK112m =>
    intro a' w' hst hHd
    obtain ⟨gA, gB, gE, rfl, hq, hbd, hsA, hgA, hsB, hgB, hne, hlv⟩ := hst
    (try simp only [Act.put, pk0, pk1, pk2])
    refine wpAnyH_ready (rs := [20]) (by kernel_rfl) (by simp) ?_
    refine AllReadyH.cons (o := ?_) ?hoXhK112m ?hstXhK112m AllReadyH.nil
    case hoXhK112m => (simp only [lk0, lk1, lk2]; rfl)
    case hstXhK112m =>
      intro K hK
      go_simp
      have hrp := rep_keep hbd _ _ _ HSTr.out; go_at_call 12; refine (HDO.out _ _ hrp hlv).mono ?_; rintro e wD ⟨tt, vv, rfl, hbT, ht, hv⟩; obtain ⟨Kt, It, Ft, Zt, qt, mt, dt, rfl, _⟩ := repS_shape ht; obtain ⟨Kv, Iv, Fv, Zv, qv, mv, dv, rfl, _⟩ := repS_shape hv
      go_wp2_with fail
      refine hK.out _ _ ?hsXhK112m (fun hHd => ?_)
      case hsXhK112m => exact ((mvb_step hq hbT)).1
      clear hK K
      (try simp only [Act.put, pk0, pk1, pk2])
      refine zt [21, 22, 23, 24] ?_
      iterate 4 (refine zt1 hP (by simp only [lk0, lk1, lk2]; rfl) (by kernel_rfl) (by assumption) (by rfl) (fun w h => by (try dsimp only at h); go_simp; (try with_reducible rfl)) ?_; (try simp only [Act.put, pk0, pk1, pk2]))
      refine zt0 ?_
      exact any_eq (by kernel_rfl) (by kernel_rfl) (hK113 _ _ ⟨gA, gB, gE, Kt, It, Ft, Zt, qt, mt, dt, Kv, Iv, Fv, Zv, qv, mv, dv, rfl, (mvb_step hq hbT), (bel_step hbd hbT), (sbx_step hsA hbT), hgA, (sbx_step hsB hbT), hgB, hne, (repS_mono (fun b hb => ⟨Nat.le_trans hbd.size hb, (by have h := cs_lt hsA.1; have h2 : _ ≤ b := hb; omega), (by have h := cs_lt hsB.1; have h2 : _ ≤ b := hb; omega)⟩) _ _ _ ht), (repS_mono (fun b hb => ⟨Nat.le_trans hbd.size hb, (by have h := cs_lt hsA.1; have h2 : _ ≤ b := hb; omega), (by have h := cs_lt hsB.1; have h2 : _ ≤ b := hb; omega)⟩) _ _ _ hv)⟩ hHd)
  refine any_have 9 [25, 18, 19] (fun a a' w' => ∃ (gA gE : Nat), a' = (((a.put (some 16) (.pointer (some ⟨gA, 0, none⟩))).put (some 117) (.agg #[.int .i64 2, .int .i64 0, .float .f64 H, .string ⟨#[]⟩, .slice none 0 0])).put (some 118) (.slice (some ⟨gE, 0, none⟩) 3 3)) ∧ MvB w sb b off l cc i k gi gk ka kd w' ∧ Below wr.heap.size wr w' ∧ SBX w' gA (.int .i64 0) (.int .i64 0) (.float .f64 0) (.string ⟨#[]⟩) (.slice none 0 0) ∧ wr.heap.size ≤ gA ∧ LA gE [nameV 0 ka, nameV 0 kd, (2, 0, H, ⟨#[]⟩, [])] w') ?phK102m (fun hK102 => ?_)
  case phK102m =>
    intro a' w' hst hHd
    obtain ⟨gA, gE, rfl, hq, hbd, hsA, hgA, hlv⟩ := hst
    (try simp only [Act.put, pk0, pk1, pk2])
    refine wpAnyH_ready (rs := [20, 26]) (by kernel_rfl) (by simp) ?_
    refine AllReadyH.cons (o := ?_) ?hoXhK102m ?hstXhK102m (AllReadyH.cons (o := ?_) ?hoBhK102m ?hstBhK102m AllReadyH.nil)
    case hoXhK102m => (simp only [lk0, lk1, lk2]; rfl)
    case hoBhK102m => (simp only [lk0, lk1, lk2]; rfl)
    case hstXhK102m =>
      intro K hK
      go_simp
      have hrp := rep_keep hbd _ _ _ HSTr.out; go_at_call 12; refine (HDO.out _ _ hrp hlv).mono ?_; rintro e wD ⟨tt, vv, rfl, hbT, ht, hv⟩; obtain ⟨Kt, It, Ft, Zt, qt, mt, dt, rfl, _⟩ := repS_shape ht; obtain ⟨Kv, Iv, Fv, Zv, qv, mv, dv, rfl, _⟩ := repS_shape hv
      go_wp2_with fail
      refine hK.out _ _ ?hsXhK102m (fun hHd => ?_)
      case hsXhK102m => exact ((mvb_step hq hbT)).1
      clear hK K
      (try simp only [Act.put, pk0, pk1, pk2])
      refine zt [21, 22, 23, 24] ?_
      iterate 4 (refine zt1 hP (by simp only [lk0, lk1, lk2]; rfl) (by kernel_rfl) (by assumption) (by rfl) (fun w h => by (try dsimp only at h); go_simp; (try with_reducible rfl)) ?_; (try simp only [Act.put, pk0, pk1, pk2]))
      refine zt0 ?_
      exact any_eq (by kernel_rfl) (by kernel_rfl) (hK103 _ _ ⟨gA, gE, Kt, It, Ft, Zt, qt, mt, dt, Kv, Iv, Fv, Zv, qv, mv, dv, rfl, (mvb_step hq hbT), (bel_step hbd hbT), (sbx_step hsA hbT), hgA, (repS_mono (fun b hb => ⟨Nat.le_trans hbd.size hb, (by have h := cs_lt hsA.1; have h2 : _ ≤ b := hb; omega)⟩) _ _ _ ht), (repS_mono (fun b hb => ⟨Nat.le_trans hbd.size hb, (by have h := cs_lt hsA.1; have h2 : _ ≤ b := hb; omega)⟩) _ _ _ hv)⟩ hHd)
    case hstBhK102m =>
      intro K hK
      go_simp
      refine hK.out _ _ ?hsBhK102m (fun hHd => ?_)
      case hsBhK102m => exact ((mvb_step hq bz)).1
      clear hK K
      (try simp only [Act.put, pk0, pk1, pk2])
      exact any_eq (by kernel_rfl) (by kernel_rfl) (hK112 _ _ ⟨gA, _, gE, rfl, (mvb_step hq bz), (bel_step hbd bz), (sbx_step hsA bz), hgA, ⟨cs_new rfl, fun o => row_frz (row_alloc _ _ _) o⟩, hbd.size, (by have h := cs_lt hsA.1; omega), (la_step hlv bz)⟩ hHd)
  refine any_have 9 [26, 18, 19] (fun a a' w' => ∃ (gB gE : Nat), a' = (((a.put (some 17) (.pointer (some ⟨gB, 0, none⟩))).put (some 117) (.agg #[.int .i64 2, .int .i64 0, .float .f64 H, .string ⟨#[]⟩, .slice none 0 0])).put (some 118) (.slice (some ⟨gE, 0, none⟩) 3 3)) ∧ MvB w sb b off l cc i k gi gk ka kd w' ∧ Below wr.heap.size wr w' ∧ SBX w' gB (.int .i64 0) (.int .i64 0) (.float .f64 0) (.string ⟨#[]⟩) (.slice none 0 0) ∧ wr.heap.size ≤ gB ∧ LA gE [nameV 0 ka, nameV 0 kd, (2, 0, H, ⟨#[]⟩, [])] w') ?phK012m (fun hK012 => ?_)
  case phK012m =>
    intro a' w' hst hHd
    obtain ⟨gB, gE, rfl, hq, hbd, hsB, hgB, hlv⟩ := hst
    (try simp only [Act.put, pk0, pk1, pk2])
    refine wpAnyH_ready (rs := [20, 25]) (by kernel_rfl) (by simp) ?_
    refine AllReadyH.cons (o := ?_) ?hoXhK012m ?hstXhK012m (AllReadyH.cons (o := ?_) ?hoAhK012m ?hstAhK012m AllReadyH.nil)
    case hoXhK012m => (simp only [lk0, lk1, lk2]; rfl)
    case hoAhK012m => (simp only [lk0, lk1, lk2]; rfl)
    case hstXhK012m =>
      intro K hK
      go_simp
      have hrp := rep_keep hbd _ _ _ HSTr.out; go_at_call 12; refine (HDO.out _ _ hrp hlv).mono ?_; rintro e wD ⟨tt, vv, rfl, hbT, ht, hv⟩; obtain ⟨Kt, It, Ft, Zt, qt, mt, dt, rfl, _⟩ := repS_shape ht; obtain ⟨Kv, Iv, Fv, Zv, qv, mv, dv, rfl, _⟩ := repS_shape hv
      go_wp2_with fail
      refine hK.out _ _ ?hsXhK012m (fun hHd => ?_)
      case hsXhK012m => exact ((mvb_step hq hbT)).1
      clear hK K
      (try simp only [Act.put, pk0, pk1, pk2])
      refine zt [21, 22, 23, 24] ?_
      iterate 4 (refine zt1 hP (by simp only [lk0, lk1, lk2]; rfl) (by kernel_rfl) (by assumption) (by rfl) (fun w h => by (try dsimp only at h); go_simp; (try with_reducible rfl)) ?_; (try simp only [Act.put, pk0, pk1, pk2]))
      refine zt0 ?_
      exact any_eq (by kernel_rfl) (by kernel_rfl) (hK013 _ _ ⟨gB, gE, Kt, It, Ft, Zt, qt, mt, dt, Kv, Iv, Fv, Zv, qv, mv, dv, rfl, (mvb_step hq hbT), (bel_step hbd hbT), (sbx_step hsB hbT), hgB, (repS_mono (fun b hb => ⟨Nat.le_trans hbd.size hb, (by have h := cs_lt hsB.1; have h2 : _ ≤ b := hb; omega)⟩) _ _ _ ht), (repS_mono (fun b hb => ⟨Nat.le_trans hbd.size hb, (by have h := cs_lt hsB.1; have h2 : _ ≤ b := hb; omega)⟩) _ _ _ hv)⟩ hHd)
    case hstAhK012m =>
      intro K hK
      go_simp
      refine hK.out _ _ ?hsAhK012m (fun hHd => ?_)
      case hsAhK012m => exact ((mvb_step hq bz)).1
      clear hK K
      (try simp only [Act.put, pk0, pk1, pk2])
      exact any_eq (by kernel_rfl) (by kernel_rfl) (hK112 _ _ ⟨_, gB, gE, rfl, (mvb_step hq bz), (bel_step hbd bz), ⟨cs_new rfl, fun o => row_frz (row_alloc _ _ _) o⟩, hbd.size, (sbx_step hsB bz), hgB, (by have h := cs_lt hsB.1; omega), (la_step hlv bz)⟩ hHd)
  refine any_have 10 [18, 19] (fun a a' w' => ∃ (gE : Nat), a' = ((a.put (some 117) (.agg #[.int .i64 2, .int .i64 0, .float .f64 H, .string ⟨#[]⟩, .slice none 0 0])).put (some 118) (.slice (some ⟨gE, 0, none⟩) 3 3)) ∧ MvB w sb b off l cc i k gi gk ka kd w' ∧ Below wr.heap.size wr w' ∧ LA gE [nameV 0 ka, nameV 0 kd, (2, 0, H, ⟨#[]⟩, [])] w') ?phK002m (fun hK002 => ?_)
  case phK002m =>
    intro a' w' hst hHd
    obtain ⟨gE, rfl, hq, hbd, hlv⟩ := hst
    (try simp only [Act.put, pk0, pk1, pk2])
    refine wpAnyH_ready (rs := [20, 25, 26]) (by kernel_rfl) (by simp) ?_
    refine AllReadyH.cons (o := ?_) ?hoXhK002m ?hstXhK002m (AllReadyH.cons (o := ?_) ?hoAhK002m ?hstAhK002m (AllReadyH.cons (o := ?_) ?hoBhK002m ?hstBhK002m AllReadyH.nil))
    case hoXhK002m => (simp only [lk0, lk1, lk2]; rfl)
    case hoAhK002m => (simp only [lk0, lk1, lk2]; rfl)
    case hoBhK002m => (simp only [lk0, lk1, lk2]; rfl)
    case hstXhK002m =>
      intro K hK
      go_simp
      have hrp := rep_keep hbd _ _ _ HSTr.out; go_at_call 12; refine (HDO.out _ _ hrp hlv).mono ?_; rintro e wD ⟨tt, vv, rfl, hbT, ht, hv⟩; obtain ⟨Kt, It, Ft, Zt, qt, mt, dt, rfl, _⟩ := repS_shape ht; obtain ⟨Kv, Iv, Fv, Zv, qv, mv, dv, rfl, _⟩ := repS_shape hv
      go_wp2_with fail
      refine hK.out _ _ ?hsXhK002m (fun hHd => ?_)
      case hsXhK002m => exact ((mvb_step hq hbT)).1
      clear hK K
      (try simp only [Act.put, pk0, pk1, pk2])
      refine zt [21, 22, 23, 24] ?_
      iterate 4 (refine zt1 hP (by simp only [lk0, lk1, lk2]; rfl) (by kernel_rfl) (by assumption) (by rfl) (fun w h => by (try dsimp only at h); go_simp; (try with_reducible rfl)) ?_; (try simp only [Act.put, pk0, pk1, pk2]))
      refine zt0 ?_
      exact any_eq (by kernel_rfl) (by kernel_rfl) (hK003 _ _ ⟨gE, Kt, It, Ft, Zt, qt, mt, dt, Kv, Iv, Fv, Zv, qv, mv, dv, rfl, (mvb_step hq hbT), (bel_step hbd hbT), (repS_mono (fun b hb => Nat.le_trans hbd.size hb) _ _ _ ht), (repS_mono (fun b hb => Nat.le_trans hbd.size hb) _ _ _ hv)⟩ hHd)
    case hstAhK002m =>
      intro K hK
      go_simp
      refine hK.out _ _ ?hsAhK002m (fun hHd => ?_)
      case hsAhK002m => exact ((mvb_step hq bz)).1
      clear hK K
      (try simp only [Act.put, pk0, pk1, pk2])
      exact any_eq (by kernel_rfl) (by kernel_rfl) (hK102 _ _ ⟨_, gE, rfl, (mvb_step hq bz), (bel_step hbd bz), ⟨cs_new rfl, fun o => row_frz (row_alloc _ _ _) o⟩, hbd.size, (la_step hlv bz)⟩ hHd)
    case hstBhK002m =>
      intro K hK
      go_simp
      refine hK.out _ _ ?hsBhK002m (fun hHd => ?_)
      case hsBhK002m => exact ((mvb_step hq bz)).1
      clear hK K
      (try simp only [Act.put, pk0, pk1, pk2])
      exact any_eq (by kernel_rfl) (by kernel_rfl) (hK012 _ _ ⟨_, gE, rfl, (mvb_step hq bz), (bel_step hbd bz), ⟨cs_new rfl, fun o => row_frz (row_alloc _ _ _) o⟩, hbd.size, (la_step hlv bz)⟩ hHd)
  refine any_have 9 [25, 26, 18] (fun a a' w' => ∃ (gA gB : Nat), a' = (((a.put (some 16) (.pointer (some ⟨gA, 0, none⟩))).put (some 17) (.pointer (some ⟨gB, 0, none⟩))).put (some 117) (.agg #[.int .i64 2, .int .i64 0, .float .f64 H, .string ⟨#[]⟩, .slice none 0 0])) ∧ MvB w sb b off l cc i k gi gk ka kd w' ∧ Below wr.heap.size wr w' ∧ SBX w' gA (.int .i64 0) (.int .i64 0) (.float .f64 0) (.string ⟨#[]⟩) (.slice none 0 0) ∧ wr.heap.size ≤ gA ∧ SBX w' gB (.int .i64 0) (.int .i64 0) (.float .f64 0) (.string ⟨#[]⟩) (.slice none 0 0) ∧ wr.heap.size ≤ gB ∧ gA ≠ gB) ?phK111m (fun hK111 => ?_)
  case phK111m =>
    intro a' w' hst hHd
    obtain ⟨gA, gB, rfl, hq, hbd, hsA, hgA, hsB, hgB, hne⟩ := hst
    (try simp only [Act.put, pk0, pk1, pk2])
    refine wpAnyH_ready (rs := [19]) (by kernel_rfl) (by simp) ?_
    refine AllReadyH.cons (o := ?_) ?hoXhK111m ?hstXhK111m AllReadyH.nil
    case hoXhK111m => (simp only [lk0, lk1, lk2]; rfl)
    case hstXhK111m =>
      intro K hK
      go_simp
      refine hK.out _ _ ?hsXhK111m (fun hHd => ?_)
      case hsXhK111m => exact ((mvb_step hq (bel_alloc br (.cells #[.int .i64 3, .int .i64 0, .float .f64 0, .string ka, .slice none 0 0, .int .i64 3, .int .i64 0, .float .f64 0, .string kd, .slice none 0 0, .int .i64 2, .int .i64 0, .float .f64 H, .string ⟨#[]⟩, .slice none 0 0] 27)))).1
      clear hK K
      (try simp only [Act.put, pk0, pk1, pk2])
      exact any_eq (by kernel_rfl) (by kernel_rfl) (hK112 _ _ ⟨gA, gB, _, rfl, (mvb_step hq (bel_alloc br (.cells #[.int .i64 3, .int .i64 0, .float .f64 0, .string ka, .slice none 0 0, .int .i64 3, .int .i64 0, .float .f64 0, .string kd, .slice none 0 0, .int .i64 2, .int .i64 0, .float .f64 H, .string ⟨#[]⟩, .slice none 0 0] 27))), (bel_step hbd (bel_alloc br (.cells #[.int .i64 3, .int .i64 0, .float .f64 0, .string ka, .slice none 0 0, .int .i64 3, .int .i64 0, .float .f64 0, .string kd, .slice none 0 0, .int .i64 2, .int .i64 0, .float .f64 H, .string ⟨#[]⟩, .slice none 0 0] 27))), (sbx_step hsA (bel_alloc br (.cells #[.int .i64 3, .int .i64 0, .float .f64 0, .string ka, .slice none 0 0, .int .i64 3, .int .i64 0, .float .f64 0, .string kd, .slice none 0 0, .int .i64 2, .int .i64 0, .float .f64 H, .string ⟨#[]⟩, .slice none 0 0] 27))), hgA, (sbx_step hsB (bel_alloc br (.cells #[.int .i64 3, .int .i64 0, .float .f64 0, .string ka, .slice none 0 0, .int .i64 3, .int .i64 0, .float .f64 0, .string kd, .slice none 0 0, .int .i64 2, .int .i64 0, .float .f64 H, .string ⟨#[]⟩, .slice none 0 0] 27))), hgB, hne, (la3_new rfl hka hkd (by decide) (by decide) hH)⟩ hHd)
  refine any_have 10 [25, 18] (fun a a' w' => ∃ (gA : Nat), a' = ((a.put (some 16) (.pointer (some ⟨gA, 0, none⟩))).put (some 117) (.agg #[.int .i64 2, .int .i64 0, .float .f64 H, .string ⟨#[]⟩, .slice none 0 0])) ∧ MvB w sb b off l cc i k gi gk ka kd w' ∧ Below wr.heap.size wr w' ∧ SBX w' gA (.int .i64 0) (.int .i64 0) (.float .f64 0) (.string ⟨#[]⟩) (.slice none 0 0) ∧ wr.heap.size ≤ gA) ?phK101m (fun hK101 => ?_)
  case phK101m =>
    intro a' w' hst hHd
    obtain ⟨gA, rfl, hq, hbd, hsA, hgA⟩ := hst
    (try simp only [Act.put, pk0, pk1, pk2])
    refine wpAnyH_ready (rs := [19, 26]) (by kernel_rfl) (by simp) ?_
    refine AllReadyH.cons (o := ?_) ?hoXhK101m ?hstXhK101m (AllReadyH.cons (o := ?_) ?hoBhK101m ?hstBhK101m AllReadyH.nil)
    case hoXhK101m => (simp only [lk0, lk1, lk2]; rfl)
    case hoBhK101m => (simp only [lk0, lk1, lk2]; rfl)
    case hstXhK101m =>
      intro K hK
      go_simp
      refine hK.out _ _ ?hsXhK101m (fun hHd => ?_)
      case hsXhK101m => exact ((mvb_step hq (bel_alloc br (.cells #[.int .i64 3, .int .i64 0, .float .f64 0, .string ka, .slice none 0 0, .int .i64 3, .int .i64 0, .float .f64 0, .string kd, .slice none 0 0, .int .i64 2, .int .i64 0, .float .f64 H, .string ⟨#[]⟩, .slice none 0 0] 27)))).1
      clear hK K
      (try simp only [Act.put, pk0, pk1, pk2])
      exact any_eq (by kernel_rfl) (by kernel_rfl) (hK102 _ _ ⟨gA, _, rfl, (mvb_step hq (bel_alloc br (.cells #[.int .i64 3, .int .i64 0, .float .f64 0, .string ka, .slice none 0 0, .int .i64 3, .int .i64 0, .float .f64 0, .string kd, .slice none 0 0, .int .i64 2, .int .i64 0, .float .f64 H, .string ⟨#[]⟩, .slice none 0 0] 27))), (bel_step hbd (bel_alloc br (.cells #[.int .i64 3, .int .i64 0, .float .f64 0, .string ka, .slice none 0 0, .int .i64 3, .int .i64 0, .float .f64 0, .string kd, .slice none 0 0, .int .i64 2, .int .i64 0, .float .f64 H, .string ⟨#[]⟩, .slice none 0 0] 27))), (sbx_step hsA (bel_alloc br (.cells #[.int .i64 3, .int .i64 0, .float .f64 0, .string ka, .slice none 0 0, .int .i64 3, .int .i64 0, .float .f64 0, .string kd, .slice none 0 0, .int .i64 2, .int .i64 0, .float .f64 H, .string ⟨#[]⟩, .slice none 0 0] 27))), hgA, (la3_new rfl hka hkd (by decide) (by decide) hH)⟩ hHd)
    case hstBhK101m =>
      intro K hK
      go_simp
      refine hK.out _ _ ?hsBhK101m (fun hHd => ?_)
      case hsBhK101m => exact ((mvb_step hq bz)).1
      clear hK K
      (try simp only [Act.put, pk0, pk1, pk2])
      exact any_eq (by kernel_rfl) (by kernel_rfl) (hK111 _ _ ⟨gA, _, rfl, (mvb_step hq bz), (bel_step hbd bz), (sbx_step hsA bz), hgA, ⟨cs_new rfl, fun o => row_frz (row_alloc _ _ _) o⟩, hbd.size, (by have h := cs_lt hsA.1; omega)⟩ hHd)
  refine any_have 10 [26, 18] (fun a a' w' => ∃ (gB : Nat), a' = ((a.put (some 17) (.pointer (some ⟨gB, 0, none⟩))).put (some 117) (.agg #[.int .i64 2, .int .i64 0, .float .f64 H, .string ⟨#[]⟩, .slice none 0 0])) ∧ MvB w sb b off l cc i k gi gk ka kd w' ∧ Below wr.heap.size wr w' ∧ SBX w' gB (.int .i64 0) (.int .i64 0) (.float .f64 0) (.string ⟨#[]⟩) (.slice none 0 0) ∧ wr.heap.size ≤ gB) ?phK011m (fun hK011 => ?_)
  case phK011m =>
    intro a' w' hst hHd
    obtain ⟨gB, rfl, hq, hbd, hsB, hgB⟩ := hst
    (try simp only [Act.put, pk0, pk1, pk2])
    refine wpAnyH_ready (rs := [19, 25]) (by kernel_rfl) (by simp) ?_
    refine AllReadyH.cons (o := ?_) ?hoXhK011m ?hstXhK011m (AllReadyH.cons (o := ?_) ?hoAhK011m ?hstAhK011m AllReadyH.nil)
    case hoXhK011m => (simp only [lk0, lk1, lk2]; rfl)
    case hoAhK011m => (simp only [lk0, lk1, lk2]; rfl)
    case hstXhK011m =>
      intro K hK
      go_simp
      refine hK.out _ _ ?hsXhK011m (fun hHd => ?_)
      case hsXhK011m => exact ((mvb_step hq (bel_alloc br (.cells #[.int .i64 3, .int .i64 0, .float .f64 0, .string ka, .slice none 0 0, .int .i64 3, .int .i64 0, .float .f64 0, .string kd, .slice none 0 0, .int .i64 2, .int .i64 0, .float .f64 H, .string ⟨#[]⟩, .slice none 0 0] 27)))).1
      clear hK K
      (try simp only [Act.put, pk0, pk1, pk2])
      exact any_eq (by kernel_rfl) (by kernel_rfl) (hK012 _ _ ⟨gB, _, rfl, (mvb_step hq (bel_alloc br (.cells #[.int .i64 3, .int .i64 0, .float .f64 0, .string ka, .slice none 0 0, .int .i64 3, .int .i64 0, .float .f64 0, .string kd, .slice none 0 0, .int .i64 2, .int .i64 0, .float .f64 H, .string ⟨#[]⟩, .slice none 0 0] 27))), (bel_step hbd (bel_alloc br (.cells #[.int .i64 3, .int .i64 0, .float .f64 0, .string ka, .slice none 0 0, .int .i64 3, .int .i64 0, .float .f64 0, .string kd, .slice none 0 0, .int .i64 2, .int .i64 0, .float .f64 H, .string ⟨#[]⟩, .slice none 0 0] 27))), (sbx_step hsB (bel_alloc br (.cells #[.int .i64 3, .int .i64 0, .float .f64 0, .string ka, .slice none 0 0, .int .i64 3, .int .i64 0, .float .f64 0, .string kd, .slice none 0 0, .int .i64 2, .int .i64 0, .float .f64 H, .string ⟨#[]⟩, .slice none 0 0] 27))), hgB, (la3_new rfl hka hkd (by decide) (by decide) hH)⟩ hHd)
    case hstAhK011m =>
      intro K hK
      go_simp
      refine hK.out _ _ ?hsAhK011m (fun hHd => ?_)
      case hsAhK011m => exact ((mvb_step hq bz)).1
      clear hK K
      (try simp only [Act.put, pk0, pk1, pk2])
      exact any_eq (by kernel_rfl) (by kernel_rfl) (hK111 _ _ ⟨_, gB, rfl, (mvb_step hq bz), (bel_step hbd bz), ⟨cs_new rfl, fun o => row_frz (row_alloc _ _ _) o⟩, hbd.size, (sbx_step hsB bz), hgB, (by have h := cs_lt hsB.1; omega)⟩ hHd)
  refine any_have 11 [18] (fun a a' w' => a' = (a.put (some 117) (.agg #[.int .i64 2, .int .i64 0, .float .f64 H, .string ⟨#[]⟩, .slice none 0 0])) ∧ MvB w sb b off l cc i k gi gk ka kd w' ∧ Below wr.heap.size wr w') ?phK001m (fun hK001 => ?_)
  case phK001m =>
    intro a' w' hst hHd
    obtain ⟨rfl, hq, hbd⟩ := hst
    (try simp only [Act.put, pk0, pk1, pk2])
    refine wpAnyH_ready (rs := [19, 25, 26]) (by kernel_rfl) (by simp) ?_
    refine AllReadyH.cons (o := ?_) ?hoXhK001m ?hstXhK001m (AllReadyH.cons (o := ?_) ?hoAhK001m ?hstAhK001m (AllReadyH.cons (o := ?_) ?hoBhK001m ?hstBhK001m AllReadyH.nil))
    case hoXhK001m => (simp only [lk0, lk1, lk2]; rfl)
    case hoAhK001m => (simp only [lk0, lk1, lk2]; rfl)
    case hoBhK001m => (simp only [lk0, lk1, lk2]; rfl)
    case hstXhK001m =>
      intro K hK
      go_simp
      refine hK.out _ _ ?hsXhK001m (fun hHd => ?_)
      case hsXhK001m => exact ((mvb_step hq (bel_alloc br (.cells #[.int .i64 3, .int .i64 0, .float .f64 0, .string ka, .slice none 0 0, .int .i64 3, .int .i64 0, .float .f64 0, .string kd, .slice none 0 0, .int .i64 2, .int .i64 0, .float .f64 H, .string ⟨#[]⟩, .slice none 0 0] 27)))).1
      clear hK K
      (try simp only [Act.put, pk0, pk1, pk2])
      exact any_eq (by kernel_rfl) (by kernel_rfl) (hK002 _ _ ⟨_, rfl, (mvb_step hq (bel_alloc br (.cells #[.int .i64 3, .int .i64 0, .float .f64 0, .string ka, .slice none 0 0, .int .i64 3, .int .i64 0, .float .f64 0, .string kd, .slice none 0 0, .int .i64 2, .int .i64 0, .float .f64 H, .string ⟨#[]⟩, .slice none 0 0] 27))), (bel_step hbd (bel_alloc br (.cells #[.int .i64 3, .int .i64 0, .float .f64 0, .string ka, .slice none 0 0, .int .i64 3, .int .i64 0, .float .f64 0, .string kd, .slice none 0 0, .int .i64 2, .int .i64 0, .float .f64 H, .string ⟨#[]⟩, .slice none 0 0] 27))), (la3_new rfl hka hkd (by decide) (by decide) hH)⟩ hHd)
    case hstAhK001m =>
      intro K hK
      go_simp
      refine hK.out _ _ ?hsAhK001m (fun hHd => ?_)
      case hsAhK001m => exact ((mvb_step hq bz)).1
      clear hK K
      (try simp only [Act.put, pk0, pk1, pk2])
      exact any_eq (by kernel_rfl) (by kernel_rfl) (hK101 _ _ ⟨_, rfl, (mvb_step hq bz), (bel_step hbd bz), ⟨cs_new rfl, fun o => row_frz (row_alloc _ _ _) o⟩, hbd.size⟩ hHd)
    case hstBhK001m =>
      intro K hK
      go_simp
      refine hK.out _ _ ?hsBhK001m (fun hHd => ?_)
      case hsBhK001m => exact ((mvb_step hq bz)).1
      clear hK K
      (try simp only [Act.put, pk0, pk1, pk2])
      exact any_eq (by kernel_rfl) (by kernel_rfl) (hK011 _ _ ⟨_, rfl, (mvb_step hq bz), (bel_step hbd bz), ⟨cs_new rfl, fun o => row_frz (row_alloc _ _ _) o⟩, hbd.size⟩ hHd)
  refine any_have 10 [25, 26] (fun a a' w' => ∃ (gA gB : Nat), a' = ((a.put (some 16) (.pointer (some ⟨gA, 0, none⟩))).put (some 17) (.pointer (some ⟨gB, 0, none⟩))) ∧ MvB w sb b off l cc i k gi gk ka kd w' ∧ Below wr.heap.size wr w' ∧ SBX w' gA (.int .i64 0) (.int .i64 0) (.float .f64 0) (.string ⟨#[]⟩) (.slice none 0 0) ∧ wr.heap.size ≤ gA ∧ SBX w' gB (.int .i64 0) (.int .i64 0) (.float .f64 0) (.string ⟨#[]⟩) (.slice none 0 0) ∧ wr.heap.size ≤ gB ∧ gA ≠ gB) ?phK110m (fun hK110 => ?_)
  case phK110m =>
    intro a' w' hst hHd
    obtain ⟨gA, gB, rfl, hq, hbd, hsA, hgA, hsB, hgB, hne⟩ := hst
    (try simp only [Act.put, pk0, pk1, pk2])
    refine wpAnyH_ready (rs := [18]) (by kernel_rfl) (by simp) ?_
    refine AllReadyH.cons (o := ?_) ?hoXhK110m ?hstXhK110m AllReadyH.nil
    case hoXhK110m => (simp only [lk0, lk1, lk2]; rfl)
    case hstXhK110m =>
      intro K hK
      go_simp
      go_at_call 20; refine (flo_refM nf H hcan _).mono ?_; rintro e wT ⟨rfl, hbT⟩
      go_wp2_with fail
      refine hK.out _ _ ?hsXhK110m (fun hHd => ?_)
      case hsXhK110m => exact ((mvb_step hq hbT)).1
      clear hK K
      (try simp only [Act.put, pk0, pk1, pk2])
      exact any_eq (by kernel_rfl) (by kernel_rfl) (hK111 _ _ ⟨gA, gB, rfl, (mvb_step hq hbT), (bel_step hbd hbT), (sbx_step hsA hbT), hgA, (sbx_step hsB hbT), hgB, hne⟩ hHd)
  refine any_have 11 [25] (fun a a' w' => ∃ (gA : Nat), a' = (a.put (some 16) (.pointer (some ⟨gA, 0, none⟩))) ∧ MvB w sb b off l cc i k gi gk ka kd w' ∧ Below wr.heap.size wr w' ∧ SBX w' gA (.int .i64 0) (.int .i64 0) (.float .f64 0) (.string ⟨#[]⟩) (.slice none 0 0) ∧ wr.heap.size ≤ gA) ?phK100m (fun hK100 => ?_)
  case phK100m =>
    intro a' w' hst hHd
    obtain ⟨gA, rfl, hq, hbd, hsA, hgA⟩ := hst
    (try simp only [Act.put, pk0, pk1, pk2])
    refine wpAnyH_ready (rs := [18, 26]) (by kernel_rfl) (by simp) ?_
    refine AllReadyH.cons (o := ?_) ?hoXhK100m ?hstXhK100m (AllReadyH.cons (o := ?_) ?hoBhK100m ?hstBhK100m AllReadyH.nil)
    case hoXhK100m => (simp only [lk0, lk1, lk2]; rfl)
    case hoBhK100m => (simp only [lk0, lk1, lk2]; rfl)
    case hstXhK100m =>
      intro K hK
      go_simp
      go_at_call 20; refine (flo_refM nf H hcan _).mono ?_; rintro e wT ⟨rfl, hbT⟩
      go_wp2_with fail
      refine hK.out _ _ ?hsXhK100m (fun hHd => ?_)
      case hsXhK100m => exact ((mvb_step hq hbT)).1
      clear hK K
      (try simp only [Act.put, pk0, pk1, pk2])
      exact any_eq (by kernel_rfl) (by kernel_rfl) (hK101 _ _ ⟨gA, rfl, (mvb_step hq hbT), (bel_step hbd hbT), (sbx_step hsA hbT), hgA⟩ hHd)
    case hstBhK100m =>
      intro K hK
      go_simp
      refine hK.out _ _ ?hsBhK100m (fun hHd => ?_)
      case hsBhK100m => exact ((mvb_step hq bz)).1
      clear hK K
      (try simp only [Act.put, pk0, pk1, pk2])
      exact any_eq (by kernel_rfl) (by kernel_rfl) (hK110 _ _ ⟨gA, _, rfl, (mvb_step hq bz), (bel_step hbd bz), (sbx_step hsA bz), hgA, ⟨cs_new rfl, fun o => row_frz (row_alloc _ _ _) o⟩, hbd.size, (by have h := cs_lt hsA.1; omega)⟩ hHd)
  refine any_have 11 [26] (fun a a' w' => ∃ (gB : Nat), a' = (a.put (some 17) (.pointer (some ⟨gB, 0, none⟩))) ∧ MvB w sb b off l cc i k gi gk ka kd w' ∧ Below wr.heap.size wr w' ∧ SBX w' gB (.int .i64 0) (.int .i64 0) (.float .f64 0) (.string ⟨#[]⟩) (.slice none 0 0) ∧ wr.heap.size ≤ gB) ?phK010m (fun hK010 => ?_)
  case phK010m =>
    intro a' w' hst hHd
    obtain ⟨gB, rfl, hq, hbd, hsB, hgB⟩ := hst
    (try simp only [Act.put, pk0, pk1, pk2])
    refine wpAnyH_ready (rs := [18, 25]) (by kernel_rfl) (by simp) ?_
    refine AllReadyH.cons (o := ?_) ?hoXhK010m ?hstXhK010m (AllReadyH.cons (o := ?_) ?hoAhK010m ?hstAhK010m AllReadyH.nil)
    case hoXhK010m => (simp only [lk0, lk1, lk2]; rfl)
    case hoAhK010m => (simp only [lk0, lk1, lk2]; rfl)
    case hstXhK010m =>
      intro K hK
      go_simp
      go_at_call 20; refine (flo_refM nf H hcan _).mono ?_; rintro e wT ⟨rfl, hbT⟩
      go_wp2_with fail
      refine hK.out _ _ ?hsXhK010m (fun hHd => ?_)
      case hsXhK010m => exact ((mvb_step hq hbT)).1
      clear hK K
      (try simp only [Act.put, pk0, pk1, pk2])
      exact any_eq (by kernel_rfl) (by kernel_rfl) (hK011 _ _ ⟨gB, rfl, (mvb_step hq hbT), (bel_step hbd hbT), (sbx_step hsB hbT), hgB⟩ hHd)
    case hstAhK010m =>
      intro K hK
      go_simp
      refine hK.out _ _ ?hsAhK010m (fun hHd => ?_)
      case hsAhK010m => exact ((mvb_step hq bz)).1
      clear hK K
      (try simp only [Act.put, pk0, pk1, pk2])
      exact any_eq (by kernel_rfl) (by kernel_rfl) (hK110 _ _ ⟨_, gB, rfl, (mvb_step hq bz), (bel_step hbd bz), ⟨cs_new rfl, fun o => row_frz (row_alloc _ _ _) o⟩, hbd.size, (sbx_step hsB bz), hgB, (by have h := cs_lt hsB.1; omega)⟩ hHd)
  refine wpAnyH_ready (rs := [18, 25, 26]) (by kernel_rfl) (by simp) ?_
  refine AllReadyH.cons (o := ?_) ?hoXzm ?hstXzm (AllReadyH.cons (o := ?_) ?hoAzm ?hstAzm (AllReadyH.cons (o := ?_) ?hoBzm ?hstBzm AllReadyH.nil))
  case hoXzm => (simp only [lk0, lk1, lk2]; rfl)
  case hoAzm => (simp only [lk0, lk1, lk2]; rfl)
  case hoBzm => (simp only [lk0, lk1, lk2]; rfl)
  case hstXzm =>
    intro K hK
    go_simp
    go_at_call 20; refine (flo_refM nf H hcan _).mono ?_; rintro e wT ⟨rfl, hbT⟩
    go_wp2_with fail
    refine hK.out _ _ ?hsXzm (fun hHd => ?_)
    case hsXzm => exact ((mvb_step hq hbT)).1
    clear hK K
    (try simp only [Act.put, pk0, pk1, pk2])
    exact any_eq (by kernel_rfl) (by kernel_rfl) (hK001 _ _ ⟨rfl, (mvb_step hq hbT), (bel_step hbd hbT)⟩ hHd)
  case hstAzm =>
    intro K hK
    go_simp
    refine hK.out _ _ ?hsAzm (fun hHd => ?_)
    case hsAzm => exact ((mvb_step hq bz)).1
    clear hK K
    (try simp only [Act.put, pk0, pk1, pk2])
    exact any_eq (by kernel_rfl) (by kernel_rfl) (hK100 _ _ ⟨_, rfl, (mvb_step hq bz), (bel_step hbd bz), ⟨cs_new rfl, fun o => row_frz (row_alloc _ _ _) o⟩, hbd.size⟩ hHd)
  case hstBzm =>
    intro K hK
    go_simp
    refine hK.out _ _ ?hsBzm (fun hHd => ?_)
    case hsBzm => exact ((mvb_step hq bz)).1
    clear hK K
    (try simp only [Act.put, pk0, pk1, pk2])
    exact any_eq (by kernel_rfl) (by kernel_rfl) (hK010 _ _ ⟨_, rfl, (mvb_step hq bz), (bel_step hbd bz), ⟨cs_new rfl, fun o => row_frz (row_alloc _ _ _) o⟩, hbd.size⟩ hHd)
end Num
end Go.Proofs.YtpbfaffheigjcaaGreat
