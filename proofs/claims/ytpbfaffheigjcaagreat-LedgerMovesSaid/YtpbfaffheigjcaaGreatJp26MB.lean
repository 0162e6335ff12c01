/-
  A ledger that a law lays, account by account: a list of lists, the blocks of its accounts beside it.
-/
import Derived.Test.YtpbfaffheigjcaaGreatJMI
import Derived.Test.YtpbfaffheigjcaaGreatJp6WLo
import Derived.Test.YtpbfaffheigjcaaGreatJp13RDa
import Derived.Test.YtpbfaffheigjcaaGreatJp18YU
import Derived.Test.YtpbfaffheigjcaaGreatJYL
import Derived.Laws.OwnMore
import Derived.Deep.RegionLaw
import Derived.Test.YtpbfaffheigjcaaGreatJLMr
import Derived.Deep.RegionHeld3
import Derived.RegionTactic
import Derived.Deep.DeepCutAuto
import Derived.Test.YtpbfaffheigjcaaGreatJp21LM
namespace Go.Proofs.YtpbfaffheigjcaaGreat
open Go.RowKit
namespace Num
open Ints
set_option linter.unusedSimpArgs false
set_option linter.unusedVariables false
def isL (v : Value) (g : Nat) : Prop := v = .agg #[.int .i64 4, .int .i64 0, .float .f64 0, .string ⟨#[]⟩, .slice (some ⟨g, 0, none⟩) 2 2]
abbrev accRow (z : World) (g : Nat) (k : ByteArray) (F : Nat) : Prop := z.heap[g]? = some (.cells #[.int .i64 3, .int .i64 0, .float .f64 0, .string k, .slice none 0 0, .int .i64 2, .int .i64 0, .float .f64 F, .string ⟨#[]⟩, .slice none 0 0] 27 (0, 0))
def OwG (W0 z : World) (sb : Nat) (p : Option Addr) (l c : Nat) (G : List Nat) (AS : List (ByteArray × Nat)) : Prop := OwV W0 z isL p l c G ∧ AS.length = G.length ∧ (Value.slice p l c).ownBlock ≠ some sb ∧
  ∀ j (h : j < G.length) (h2 : j < AS.length), accRow z G[j] AS[j].1 AS[j].2 ∧ (Value.slice p l c).ownBlock ≠ some G[j]
theorem og_nil (W0 z : World) (sb : Nat) (hb : Below W0.heap.size W0 z) (hs : W0.heap.size ≤ z.heap.size) : OwG W0 z sb none 0 0 [] [] := ⟨ow_none W0 z isL hb hs, rfl, by simp [Value.ownBlock], fun j h => absurd h (Nat.not_lt_zero _)⟩
theorem og_step {W0 z z' : World} {sb : Nat} {p : Option Addr} {l c : Nat} {G : List Nat} {AS : List (ByteArray × Nat)} (h : OwG W0 z sb p l c G AS) (hb : Below z.heap.size z z') : OwG W0 z' sb p l c G AS :=
  ⟨ow_step h.1 hb, h.2.1, h.2.2.1, fun j h1 h2 => ⟨row_step (h.2.2.2 j h1 h2).1 hb, (h.2.2.2 j h1 h2).2⟩⟩
theorem og_bel {W0 z : World} {sb : Nat} {p : Option Addr} {l c : Nat} {G : List Nat} {AS : List (ByteArray × Nat)} (h : OwG W0 z sb p l c G AS) : Below W0.heap.size W0 z := (ow_rep h.1).2
theorem og_set {W0 z : World} {sb : Nat} {p : Option Addr} {l c : Nat} {G : List Nat} {AS : List (ByteArray × Nat)} (h : OwG W0 z sb p l c G AS) (hsb : W0.heap.size ≤ sb) {t : TypeId} {x0 x1 x2 x3 x4 : Value} (hrow : z.heap[sb]? = some (.cells #[x0, x1, x2, x3, x4] t (0, 0))) (k : Nat) (v : Value) : OwG W0 (z.setCell ⟨sb, k, none⟩ v) sb p l c G AS := by
  obtain ⟨⟨XS, h1, h2, h3, h4, h5⟩, hl, hne, hr⟩ := h
  have hg : z.grownBy (z.setCell ⟨sb, k, none⟩ v) (some sb) := ⟨rfl, rfl, rfl, by simp [World.setCell], fun b hb hne => Below.heap_setCell _ _ _ _ (fun e => hne (by rw [e]))⟩
  refine ⟨⟨XS, h1.kept hg (Or.inr hne), h2, h3.setCell (p := ⟨sb, k, none⟩) hsb v, by simp [World.setCell]; exact h4, h5⟩, hl, hne, fun j hj h2 => ⟨?_, (hr j hj h2).2⟩⟩
  have hj := (hr j hj h2).1
  refine (Below.heap_setCell _ _ _ _ (fun e => ?_)).trans hj
  have e' : G[j] = sb := e
  unfold accRow at hj
  rw [e', hrow] at hj
  injection hj with hj
  injection hj with hj
  have := congrArg Array.size hj
  simp at this
section
variable {ops : Array Oper} {o : Oper} {a : Act} {K : Act → World → Prop} {Q : Exit → Act → World → Prop} {E : Prop}
theorem step_og (hgd : o.guard = none) (s x : Operand) (ho : o.op = .call { callee := .builtin .append, args := #[s, x], argTypes := #[25, 25] })
    (W0 w : World) (sb : Nat) (p : Option Addr) (l c : Nat) (G : List Nat) (AS : List (ByteArray × Nat)) (gx gp : Nat) (k : ByteArray) (F : Nat) (hs : a.eval s = .slice p l c) (hx : a.eval x = .slice (some ⟨gx, 0, none⟩) 1 1) (hrow : w.heap[gx]? = some (.cells #[.int .i64 4, .int .i64 0, .float .f64 0, .string ⟨#[]⟩, .slice (some ⟨gp, 0, none⟩) 2 2] 27 (0, 0))) (hb : OwG W0 w sb p l c G AS) (hl : l ≤ 1000)
    (hp : accRow w gp k F) (hpo : (Value.slice p l c).ownBlock ≠ some gp) (hsw : sb < w.heap.size)
    (h : ∀ p' c' w', OwG W0 w' sb p' (l + 1) c' (G ++ [gp]) (AS ++ [(k, F)]) → w.grownBy w' (Value.slice p l c).ownBlock → K (a.put o.dst (.slice p' (l + 1) c')) w') :
    if Region.wanted o (yielded ops a.tmps) = true then Oper.wp Tryz.prog o a w K Q else E := by
  have hw : Region.wanted o (yielded ops a.tmps) = true := by simp [Region.wanted, hgd]
  rw [if_pos hw]
  obtain ⟨i0, hi, hz0, hz1, hz2⟩ := info_parts info_v5
  obtain ⟨⟨XS, h1, h2, h3, h4, h5⟩, hlen2, hnsb, hr⟩ := hb
  have hnews : ∀ j u, [Value.int .i64 4, .int .i64 0, .float .f64 0, .string ⟨#[]⟩, .slice (some ⟨gp, 0, none⟩) 2 2][j]? = some u → w.cell? ((⟨gx, 0, none⟩ : Addr).add j) = some u := by
    intro j u hj
    rw [Addr.add_lit, Nat.zero_add, rc hrow j, List.getElem?_toArray]
    exact hj
  have hone : ∀ u ∈ [Value.int .i64 4, .int .i64 0, .float .f64 0, .string ⟨#[]⟩, .slice (some ⟨gp, 0, none⟩) 2 2], u.oneCell' = true := by
    intro u hu
    simp only [List.mem_cons, List.not_mem_nil, or_false] at hu
    rcases hu with rfl | rfl | rfl | rfl | rfl <;> rfl
  obtain ⟨v', w', hrun, hown, hg, hsz, hown'⟩ := run_append_own_at (P := Tryz.prog) w W0.heap.size 25 o.type 27 i0 _ 5 64 Tryz.underlying25 hi hz0 hz1 hz2 rfl (by decide) (.slice p l c) l XS h1 ⟨gx, 0, none⟩ 1 1 _ rfl hnews hone (by unfold maxLen; omega) (by omega) (by omega)
  have hgs := hg.size
  have hpc : ∃ p' c', v' = .slice p' (l + 1) c' := by
    rcases hown.2 with ⟨rfl, hn⟩ | ⟨g, cap, cur, rfl, _⟩
    · exact absurd hn (by omega)
    · exact ⟨_, _, rfl⟩
  obtain ⟨p', c', rfl⟩ := hpc
  unfold Oper.wp execOp
  simp only [ho, resolve, invoke, builtin, Sem.run_bind, Sem.run_pure, Result.andThen_ok, List.map_toArray, List.map_cons, List.map_nil, hs, hx, hrun]
  have hlen := h1.1
  have hno : ∀ b, b < w.heap.size → (Value.slice p l c).ownBlock ≠ some b → (Value.slice p' (l + 1) c').ownBlock ≠ some b := fun b hb hne => by
    rcases hown' with e | e
    · rw [e]; exact hne
    · rw [e]; intro e2; injection e2 with e2; omega
  refine h p' c' w' ⟨⟨XS ++ [.int .i64 4, .int .i64 0, .float .f64 0, .string ⟨#[]⟩, .slice (some ⟨gp, 0, none⟩) 2 2], hown, by rw [List.length_append, h2]; rfl, Below.grown h3 hg h4 (fun k hk => (h1.lt k hk).1), Nat.le_trans h4 hg.size, fun i hi => ?_⟩, by rw [List.length_append, List.length_append, hlen2]; rfl, hno sb hsw hnsb, fun j hj h2j => ?_⟩ hg
  · by_cases hlt : i < G.length
    · obtain ⟨v0, v1, v2, v3, v4, c0, c1, c2, c3, c4, hr⟩ := h5 i hlt
      have hlt5 : i * 5 + 5 ≤ XS.length := by omega
      refine ⟨v0, v1, v2, v3, v4, by rw [List.getElem?_append_left (by omega)]; exact c0, by rw [List.getElem?_append_left (by omega)]; exact c1, by rw [List.getElem?_append_left (by omega)]; exact c2, by rw [List.getElem?_append_left (by omega)]; exact c3, by rw [List.getElem?_append_left (by omega)]; exact c4, ?_⟩
      rw [List.getElem_append_left hlt]
      exact hr
    · have hie : i = l := by rw [List.length_append, h2] at hi; simp at hi; omega
      subst hie
      have e := five_at hlen (.int .i64 4) (.int .i64 0) (.float .f64 0) (.string ⟨#[]⟩) (.slice (some ⟨gp, 0, none⟩) 2 2)
      refine ⟨_, _, _, _, _, by have := e 0; simpa using this, by rw [e 1]; rfl, by rw [e 2]; rfl, by rw [e 3]; rfl, by rw [e 4]; rfl, ?_⟩
      rw [List.getElem_append_right (by omega)]
      simp only [h2, Nat.sub_self, List.getElem_cons_zero]
      rfl
  · by_cases hlt : j < G.length
    · have hlt2 : j < AS.length := by omega
      rw [List.getElem_append_left hlt, List.getElem_append_left hlt2]
      obtain ⟨k1, k2⟩ := hr j hlt hlt2
      exact ⟨(hg.block _ (row_lt k1) (fun e => k2 e.symm)).trans k1, hno _ (row_lt k1) k2⟩
    · have hjl : j = G.length := by rw [List.length_append] at hj; simp at hj; omega
      subst hjl
      rw [List.getElem_append_right (by omega), List.getElem_append_right (by omega)]
      simp only [hlen2, Nat.sub_self, List.getElem_cons_zero]
      exact ⟨(hg.block _ (row_lt hp) (fun e => hpo e.symm)).trans hp, hno _ (row_lt hp) hpo⟩
end
theorem og_rep {W0 z : World} {sb : Nat} {p : Option Addr} {l c : Nat} {G : List Nat} {AS : List (ByteArray × Nat)} (h : OwG W0 z sb p l c G AS) (hk : ∀ e ∈ AS, e.1.size ≤ maxLen ∧ e.2 < 2 ^ 64) : RepL z (Rep z 2) p l c ((ledA AS).map (pairE 0)) := by
  obtain ⟨hv, hl, _, hr⟩ := h
  obtain ⟨h1, h2, h3, h4⟩ := ow_at hv
  have hlen : ((ledA AS).map (pairE 0)).length = AS.length := by rw [List.length_map, ledA_len]
  refine ⟨by omega, h2, h3, fun h0 => ?_⟩
  obtain ⟨b, off, hp, hi⟩ := h4 h0
  refine ⟨b, off, hp, fun i hi' => ?_⟩
  have hiA : i < AS.length := by omega
  have hiG : i < G.length := by omega
  obtain ⟨v0, v1, v2, v3, v4, c0, c1, c2, c3, c4, e⟩ := hi i hiG
  refine ⟨v0, v1, v2, v3, v4, c0, c1, c2, c3, c4, ?_⟩
  have e' : (Value.agg #[v0, v1, v2, v3, v4]) = .agg #[.int .i64 4, .int .i64 0, .float .f64 0, .string ⟨#[]⟩, .slice (some ⟨G[i], 0, none⟩) 2 2] := e
  rw [e', List.getElem_map]
  have hrow := (hr i hiG hiA).1
  obtain ⟨k1, k2⟩ := hk _ (List.getElem_mem hiA)
  have he : (ledA AS)[i]'(by rw [ledA_len]; exact hiA) = (AS[i].1, floT 0 AS[i].2) := by unfold ledA; rw [List.getElem_map]
  rw [he]
  exact list_rep (row2_rep hrow (leaf1 _ (by decide) (by decide) (by decide) k1) (leaf1 _ (by decide) (by decide) k2 (by decide)))
end Num
end Go.Proofs.YtpbfaffheigjcaaGreat
/-
  LedgerMoves: one account more (region 12).
-/
namespace Go.Proofs.YtpbfaffheigjcaaGreat
open Go.RowKit
namespace Num
open Ints
set_option linter.unusedSimpArgs false
set_option linter.unusedVariables false
theorem og_lt {W0 z : World} {sb : Nat} {p : Option Addr} {l c : Nat} {G : List Nat} {AS : List (ByteArray × Nat)} (h : OwG W0 z sb p l c G AS) : ∀ k, (Value.slice p l c).ownBlock = some k → k < z.heap.size := by
  obtain ⟨⟨XS, h1, _⟩, _⟩ := h
  exact fun k hk => (h1.lt k hk).2
theorem row_set4M {w : World} {b : Nat} {x0 x1 x2 x3 x4 : Value} {t : TypeId} (h : w.heap[b]? = some (.cells #[x0, x1, x2, x3, x4] t (0, 0))) (v : Value) : (w.setCell ⟨b, 4, none⟩ v).heap[b]? = some (.cells #[x0, x1, x2, x3, v] t (0, 0)) := by
  simp [World.setCell, Array.getElem?_modify, h]
theorem flo_finM (X : Nat) (hX : X < 9218868437227405312) (w : World) : Calls Tryz.prog 20 #[.float .f64 X] w fun e w' => e = .returned (.agg #[.int .i64 2, .int .i64 0, .float .f64 X, .string ⟨#[]⟩, .slice none 0 0]) ∧ Below w.heap.size w w' := by
  have h := float_ref_any X w
  rw [Flo.canon_yes (feq_pos (Nat.le_of_lt hX))] at h
  exact h
theorem conv1M {W : World} {g cap : Nat} {u : Int} {b : UInt8} (hu : (b.toNat : Int) = u) (h : W.heap[g]? = some (.cells #[.int .u8 u] 5 (0, 0))) : (convert 51 9 (.slice (some ⟨g, 0, none⟩) 1 cap)).run Tryz.prog W = .ok (.string ⟨#[b]⟩) W :=
  run_convert_bytes_back (P := Tryz.prog) W 51 9 5 ⟨g, 0, none⟩ cap [b] Tryz.underlying51 Tryz.underlying5 Tryz.underlying9 (fun j hj => by
    have hj' : j = 0 := by simp at hj; omega
    subst hj'
    rw [Addr.add_lit, Nat.zero_add, rc h 0]
    show some (Value.int .u8 u) = some (Value.int .u8 (b.toNat : Int))
    rw [hu])
set_option maxRecDepth 1000000 in
set_option maxHeartbeats 4000000 in
theorem mv12_any (W0 wr : World) (sb i c : Nat) (p : Option Addr) (F : Nat) (ub : UInt8) (G : List Nat) (AS : List (ByteArray × Nat)) (c0 c1 c2 c3 c4 c5 c6 c7 c8 c12 c13 c14 c15 c16 c17 c18 c19 c20 c21 c22 c23 c24 c25 c26 c27 c28 c29 c30 c31 c32 c33 c34 c35 c36 c37 c38 c39 c40 c41 c42 c43 c44 c45 c46 c47 c48 c49 c50 c51 c52 c53 c54 c55 c56 c57 c58 c59 c60 c61 c62 c63 c64 c65 c66 c67 c68 c69 c70 c71 c72 c73 c74 c75 c76 c77 c78 c79 c80 c81 c82 c83 c84 c85 c86 c87 c88 c89 c90 c91 c92 c93 c94 c95 c96 c97 c98 c99 c100 c101 c102 c103 c104 c105 c106 c107 c108 c109 c110 c111 c112 c113 c114 c115 c116 c117 c118 c119 c120 c121 c122 c123 c124 c125 c126 c127 c128 c129 c130 c131 c132 c133 c134 c135 c136 c137 c138 c139 c140 c141 c142 c143 c144 c145 c146 c147 c148 c149 c150 c151 c152 c153 c154 c155 c156 c157 c158 c159 c160 c161 c162 c163 c164 c165 c166 c167 c168 c169 c170 c171 c172 c173 c174 c175 c176 c177 c178 c179 c180 c181 c182 c183 c184 c185 c186 c187 c188 c189 c190 c191 c192 c193 c194 c195 c196 c197 c198 c199 c200 c201 c202 c203 c204 c205 c206 c207 c208 c209 c210 c211 c212 c213 c214 c215 c216 c217 c218 c219 c220 c221 c222 c223 c224 c225 c226 c227 c228 c229 c230 c231 c232 c233 c234 c235 c236 c237 c238 c239 c240 c241 c242 c243 c244 c245 c246 c247 c248 c249 c250 c251 c252 c253 c254 c255 : Value) (Q : Exit → Act → World → Prop) (hP : ∀ p a (d : Option Tmp) v w, Q (.panic p) (Act.put a d v) w → Q (.panic p) a w) (HROW : Hid (wr.heap[sb]? = some (.cells #[.int .i64 4, .int .i64 0, .float .f64 0, .string ⟨#[]⟩, .slice p i c] 27 (0, 0)))) (HOG : Hid (OwG W0 wr sb p i c G AS)) (hsb : W0.heap.size ≤ sb) (hF : F < 9218868437227405312) (HUB : Hid ((ub.toNat : Int) = 97 + (i : Int))) (hi : i ≤ 11)
    (hQ : ∀ (gA gP gQ : Nat) (p5 : Option Addr) (e5 : Nat) (wx : World), wx.heap[sb]? = some (.cells #[.int .i64 4, .int .i64 0, .float .f64 0, .string ⟨#[]⟩, .slice p5 (i + 1) e5] 27 (0, 0)) ∧ OwG W0 wx sb p5 (i + 1) e5 (G ++ [gP]) (AS ++ [(⟨#[ub]⟩, F)]) → Q .normal { tmps := #[c0, c1, c2, c3, c4, c5, c6, c7, c8, (.pointer (some ⟨sb, 0, none⟩)), (.int .i64 i), (.float .f64 F), c12, c13, c14, c15, c16, c17, c18, c19, c20, c21, c22, c23, c24, c25, c26, c27, c28, c29, c30, c31, c32, c33, c34, c35, c36, c37, c38, c39, c40, c41, c42, c43, c44, c45, c46, c47, c48, c49, c50, c51, c52, c53, c54, (.pointer (some ⟨sb, 4, none⟩)), (.slice p i c), (.int .i64 i), (.int .u8 i), (.int .u8 (97 + (i : Int))), (.slice (some ⟨gA, 0, none⟩) 1 1), (.string ⟨#[ub]⟩), (.agg #[.int .i64 3, .int .i64 0, .float .f64 0, .string ⟨#[ub]⟩, .slice none 0 0]), (.float .f64 F), (.agg #[.int .i64 2, .int .i64 0, .float .f64 F, .string ⟨#[]⟩, .slice none 0 0]), (.slice (some ⟨gP, 0, none⟩) 2 2), (.agg #[.int .i64 4, .int .i64 0, .float .f64 0, .string ⟨#[]⟩, .slice (some ⟨gP, 0, none⟩) 2 2]), (.slice (some ⟨gQ, 0, none⟩) 1 1), (.slice p5 (i + 1) e5), (.pointer (some ⟨sb, 4, none⟩)), c70, c71, c72, c73, c74, c75, c76, c77, c78, c79, c80, c81, c82, c83, c84, c85, c86, c87, c88, c89, c90, c91, c92, c93, c94, c95, c96, c97, c98, c99, c100, c101, c102, c103, c104, c105, c106, c107, c108, c109, c110, c111, c112, c113, c114, c115, c116, c117, c118, c119, c120, c121, c122, c123, c124, c125, c126, c127, c128, c129, c130, c131, c132, c133, c134, c135, c136, c137, c138, c139, c140, c141, c142, c143, c144, c145, c146, c147, c148, c149, c150, c151, c152, c153, c154, c155, c156, c157, c158, c159, c160, c161, c162, c163, c164, c165, c166, c167, c168, c169, c170, c171, c172, c173, c174, c175, c176, c177, c178, c179, c180, c181, c182, c183, c184, c185, c186, c187, c188, c189, c190, c191, c192, c193, c194, c195, c196, c197, c198, c199, c200, c201, c202, c203, c204, c205, c206, c207, c208, c209, c210, c211, c212, c213, c214, c215, c216, c217, c218, c219, c220, c221, c222, c223, c224, c225, c226, c227, c228, c229, c230, c231, c232, c233, c234, c235, c236, c237, c238, c239, c240, c241, c242, c243, c244, c245, c246, c247, c248, c249, c250, c251, c252, c253, c254, c255], defers := [] } wx) :
    Code.wp Tryz.prog ((Tryz.f6.body.bind (regionBy 12)).getD .skip) Q { tmps := #[c0, c1, c2, c3, c4, c5, c6, c7, c8, (.pointer (some ⟨sb, 0, none⟩)), (.int .i64 i), (.float .f64 F), c12, c13, c14, c15, c16, c17, c18, c19, c20, c21, c22, c23, c24, c25, c26, c27, c28, c29, c30, c31, c32, c33, c34, c35, c36, c37, c38, c39, c40, c41, c42, c43, c44, c45, c46, c47, c48, c49, c50, c51, c52, c53, c54, c55, c56, c57, c58, c59, c60, c61, c62, c63, c64, c65, c66, c67, c68, c69, c70, c71, c72, c73, c74, c75, c76, c77, c78, c79, c80, c81, c82, c83, c84, c85, c86, c87, c88, c89, c90, c91, c92, c93, c94, c95, c96, c97, c98, c99, c100, c101, c102, c103, c104, c105, c106, c107, c108, c109, c110, c111, c112, c113, c114, c115, c116, c117, c118, c119, c120, c121, c122, c123, c124, c125, c126, c127, c128, c129, c130, c131, c132, c133, c134, c135, c136, c137, c138, c139, c140, c141, c142, c143, c144, c145, c146, c147, c148, c149, c150, c151, c152, c153, c154, c155, c156, c157, c158, c159, c160, c161, c162, c163, c164, c165, c166, c167, c168, c169, c170, c171, c172, c173, c174, c175, c176, c177, c178, c179, c180, c181, c182, c183, c184, c185, c186, c187, c188, c189, c190, c191, c192, c193, c194, c195, c196, c197, c198, c199, c200, c201, c202, c203, c204, c205, c206, c207, c208, c209, c210, c211, c212, c213, c214, c215, c216, c217, c218, c219, c220, c221, c222, c223, c224, c225, c226, c227, c228, c229, c230, c231, c232, c233, c234, c235, c236, c237, c238, c239, c240, c241, c242, c243, c244, c245, c246, c247, c248, c249, c250, c251, c252, c253, c254, c255], defers := [] } wr := by
  have hw8 : IntKind.u8.wrap (i : Int) = (i : Int) := by show IntKind.wrap .u8 (i : Int) = _; unfold IntKind.wrap; simp [IntKind.signed, IntKind.bits]; omega
  have hw9 : IntKind.u8.wrap (97 + (i : Int)) = 97 + (i : Int) := by show IntKind.wrap .u8 (97 + (i : Int)) = _; unfold IntKind.wrap; simp [IntKind.signed, IntKind.bits]; omega
  conv => arg 2; whnf
  refine wp_region_held_drew (S := (fun _ : World => True)) (by kernel_rfl) ?_ (fun hH => ?_)
  · trivial
  have HDW := Lib.hid (show (ZL wr.drew sb p i c) ∧ OwG W0 wr.drew sb p i c G AS ∧ Below wr.heap.size wr wr.drew from ⟨row_step HROW.out (Below.drew br), og_step HOG.out (Below.drew br), Below.drew br⟩)
  revert HDW hH
  generalize wr.drew = Wd
  intro hH HDW
  have hR := HDW.out.1
  have hO := HDW.out.2.1
  have hbd := HDW.out.2.2
  refine zt [0, 2, 3, 4, 8] ?_
  iterate 5 (refine zt1 hP (by simp only [lk0, lk1, lk2]; rfl) (by kernel_rfl) (by assumption) (by rfl) (fun w h => by (try dsimp only at h); go_simp; (try with_reducible rfl)) ?_; (try simp only [Act.put, pk0, pk1, pk2]))
  refine zt0 ?_
  refine any_have 3 [1, 5, 6, 7, 9, 10, 11, 12] (fun a a' w' => ∃ (gA gP gQ : Nat), a' = ((((((((a.put (some 56) (.slice p i c)).put (some 60) (.slice (some ⟨gA, 0, none⟩) 1 1)).put (some 61) (.string ⟨#[ub]⟩)).put (some 62) (.agg #[.int .i64 3, .int .i64 0, .float .f64 0, .string ⟨#[ub]⟩, .slice none 0 0])).put (some 64) (.agg #[.int .i64 2, .int .i64 0, .float .f64 F, .string ⟨#[]⟩, .slice none 0 0])).put (some 65) (.slice (some ⟨gP, 0, none⟩) 2 2)).put (some 66) (.agg #[.int .i64 4, .int .i64 0, .float .f64 0, .string ⟨#[]⟩, .slice (some ⟨gP, 0, none⟩) 2 2])).put (some 67) (.slice (some ⟨gQ, 0, none⟩) 1 1)) ∧ w'.heap[sb]? = some (.cells #[.int .i64 4, .int .i64 0, .float .f64 0, .string ⟨#[]⟩, .slice p i c] 27 (0, 0)) ∧ OwG W0 w' sb p i c G AS ∧ Below wr.heap.size wr w' ∧ w'.heap[gP]? = some (.cells #[.int .i64 3, .int .i64 0, .float .f64 0, .string ⟨#[ub]⟩, .slice none 0 0, .int .i64 2, .int .i64 0, .float .f64 F, .string ⟨#[]⟩, .slice none 0 0] 27 (0, 0)) ∧ wr.heap.size ≤ gP ∧ w'.heap[gQ]? = some (.cells #[.int .i64 4, .int .i64 0, .float .f64 0, .string ⟨#[]⟩, .slice (some ⟨gP, 0, none⟩) 2 2] 27 (0, 0))) ?phK1_5_6_7_9_10_11_12m (fun hK1_5_6_7_9_10_11_12 => ?_)
  case phK1_5_6_7_9_10_11_12m =>
    intro a' w' hst hH
    obtain ⟨gA, gP, gQ, rfl, hR, hO, hbd, hP0, hPg, hQr⟩ := hst
    (try simp only [Act.put, pk0, pk1, pk2])
    refine zr1 13 (by kernel_rfl) (by simp only [lk0, lk1, lk2]; rfl) (fun K hK => ?_)
    refine step_og (by rfl) _ _ (by rfl) W0 w' sb p i c G AS gQ gP ⟨#[ub]⟩ F (by rfl) (by rfl) hQr hO (by omega) hP0 (fun e => by have h := og_lt HOG.out _ e; omega) (row_lt hR) ?_
    intro p5 e5 w7 ho7 hg7
    have hR7 := (hg7.block _ (row_lt hR) (fun e => hO.2.2.1 e.symm)).trans hR
    refine hK.out _ _ ?hs13hK1_5_6_7_9_10_11_12m (fun hH => ?_)
    case hs13hK1_5_6_7_9_10_11_12m => trivial
    clear hK K
    (try simp only [Act.put, pk0, pk1, pk2])
    refine zt [14] ?_
    refine zt1 hP (by simp only [lk0, lk1, lk2]; rfl) (by kernel_rfl) (by assumption) (by rfl) (fun w h => by (try dsimp only at h); go_simp; (try with_reducible rfl)) ?_; (try simp only [Act.put, pk0, pk1, pk2])
    refine zt0 ?_
    refine zr1 15 (by kernel_rfl) (by simp only [lk0, lk1, lk2]; rfl) (fun K hK => ?_)
    have bb4 := rc hR7 4; have bbf := row_frz hR7 4; have bbl := row_lt hR7; go_simp
    clear bb4 bbf bbl
    skip
    refine hK.out _ _ ?hsxhK1_5_6_7_9_10_11_12m15 (fun hH => ?_)
    case hsxhK1_5_6_7_9_10_11_12m15 => trivial
    clear hK K
    (try simp only [Act.put, pk0, pk1, pk2])
    refine wpAnyH_done (by kernel_rfl) ?_ _
    exact hQ gA gP gQ p5 e5 _ ⟨row_set4M hR7 _, og_set ho7 hsb hR7 4 _⟩
  refine any_have 4 [1, 5, 6, 7, 9, 10, 11] (fun a a' w' => ∃ (gA gP : Nat), a' = (((((((a.put (some 56) (.slice p i c)).put (some 60) (.slice (some ⟨gA, 0, none⟩) 1 1)).put (some 61) (.string ⟨#[ub]⟩)).put (some 62) (.agg #[.int .i64 3, .int .i64 0, .float .f64 0, .string ⟨#[ub]⟩, .slice none 0 0])).put (some 64) (.agg #[.int .i64 2, .int .i64 0, .float .f64 F, .string ⟨#[]⟩, .slice none 0 0])).put (some 65) (.slice (some ⟨gP, 0, none⟩) 2 2)).put (some 66) (.agg #[.int .i64 4, .int .i64 0, .float .f64 0, .string ⟨#[]⟩, .slice (some ⟨gP, 0, none⟩) 2 2])) ∧ w'.heap[sb]? = some (.cells #[.int .i64 4, .int .i64 0, .float .f64 0, .string ⟨#[]⟩, .slice p i c] 27 (0, 0)) ∧ OwG W0 w' sb p i c G AS ∧ Below wr.heap.size wr w' ∧ w'.heap[gP]? = some (.cells #[.int .i64 3, .int .i64 0, .float .f64 0, .string ⟨#[ub]⟩, .slice none 0 0, .int .i64 2, .int .i64 0, .float .f64 F, .string ⟨#[]⟩, .slice none 0 0] 27 (0, 0)) ∧ wr.heap.size ≤ gP) ?phK1_5_6_7_9_10_11m (fun hK1_5_6_7_9_10_11 => ?_)
  case phK1_5_6_7_9_10_11m =>
    intro a' w' hst hH
    obtain ⟨gA, gP, rfl, hR, hO, hbd, hP0, hPg⟩ := hst
    (try simp only [Act.put, pk0, pk1, pk2])
    refine wpAnyH_ready (rs := [12]) (by kernel_rfl) (by simp) ?_
    refine AllReadyH.cons (o := ?_) ?ho12hK1_5_6_7_9_10_11m ?hst12hK1_5_6_7_9_10_11m AllReadyH.nil
    case ho12hK1_5_6_7_9_10_11m => (simp only [lk0, lk1, lk2]; rfl)
    case hst12hK1_5_6_7_9_10_11m =>
      intro K hK
      go_simp
      refine hK.out _ _ ?hs12hK1_5_6_7_9_10_11m (fun hH => ?_)
      case hs12hK1_5_6_7_9_10_11m => exact trivial
      clear hK K
      (try simp only [Act.put, pk0, pk1, pk2])
      exact any_eq (by kernel_rfl) (by kernel_rfl) (hK1_5_6_7_9_10_11_12 _ _ ⟨gA, gP, _, rfl, (row_step hR (bel_alloc br (.cells #[.int .i64 4, .int .i64 0, .float .f64 0, .string ⟨#[]⟩, .slice (some ⟨gP, 0, none⟩) 2 2] 27))), (og_step hO (bel_alloc br (.cells #[.int .i64 4, .int .i64 0, .float .f64 0, .string ⟨#[]⟩, .slice (some ⟨gP, 0, none⟩) 2 2] 27))), (bel_step hbd (bel_alloc br (.cells #[.int .i64 4, .int .i64 0, .float .f64 0, .string ⟨#[]⟩, .slice (some ⟨gP, 0, none⟩) 2 2] 27))), (row_step hP0 (bel_alloc br (.cells #[.int .i64 4, .int .i64 0, .float .f64 0, .string ⟨#[]⟩, .slice (some ⟨gP, 0, none⟩) 2 2] 27))), (hPg), row_alloc _ _ _⟩ hH)
  refine any_have 4 [5, 6, 7, 9, 10, 11, 12] (fun a a' w' => ∃ (gA gP gQ : Nat), a' = (((((((a.put (some 60) (.slice (some ⟨gA, 0, none⟩) 1 1)).put (some 61) (.string ⟨#[ub]⟩)).put (some 62) (.agg #[.int .i64 3, .int .i64 0, .float .f64 0, .string ⟨#[ub]⟩, .slice none 0 0])).put (some 64) (.agg #[.int .i64 2, .int .i64 0, .float .f64 F, .string ⟨#[]⟩, .slice none 0 0])).put (some 65) (.slice (some ⟨gP, 0, none⟩) 2 2)).put (some 66) (.agg #[.int .i64 4, .int .i64 0, .float .f64 0, .string ⟨#[]⟩, .slice (some ⟨gP, 0, none⟩) 2 2])).put (some 67) (.slice (some ⟨gQ, 0, none⟩) 1 1)) ∧ w'.heap[sb]? = some (.cells #[.int .i64 4, .int .i64 0, .float .f64 0, .string ⟨#[]⟩, .slice p i c] 27 (0, 0)) ∧ OwG W0 w' sb p i c G AS ∧ Below wr.heap.size wr w' ∧ w'.heap[gP]? = some (.cells #[.int .i64 3, .int .i64 0, .float .f64 0, .string ⟨#[ub]⟩, .slice none 0 0, .int .i64 2, .int .i64 0, .float .f64 F, .string ⟨#[]⟩, .slice none 0 0] 27 (0, 0)) ∧ wr.heap.size ≤ gP ∧ w'.heap[gQ]? = some (.cells #[.int .i64 4, .int .i64 0, .float .f64 0, .string ⟨#[]⟩, .slice (some ⟨gP, 0, none⟩) 2 2] 27 (0, 0))) ?phK5_6_7_9_10_11_12m (fun hK5_6_7_9_10_11_12 => ?_)
  case phK5_6_7_9_10_11_12m =>
    intro a' w' hst hH
    obtain ⟨gA, gP, gQ, rfl, hR, hO, hbd, hP0, hPg, hQr⟩ := hst
    (try simp only [Act.put, pk0, pk1, pk2])
    refine wpAnyH_ready (rs := [1]) (by kernel_rfl) (by simp) ?_
    refine AllReadyH.cons (o := ?_) ?ho1hK5_6_7_9_10_11_12m ?hst1hK5_6_7_9_10_11_12m AllReadyH.nil
    case ho1hK5_6_7_9_10_11_12m => (simp only [lk0, lk1, lk2]; rfl)
    case hst1hK5_6_7_9_10_11_12m =>
      intro K hK
      have bb4 := rc hR 4; have bbl := row_lt hR; go_simp
      refine hK.out _ _ ?hs1hK5_6_7_9_10_11_12m (fun hH => ?_)
      case hs1hK5_6_7_9_10_11_12m => trivial
      clear hK K bb4 bbl
      (try simp only [Act.put, pk0, pk1, pk2])
      exact any_eq (by kernel_rfl) (by kernel_rfl) (hK1_5_6_7_9_10_11_12 _ _ ⟨gA, gP, gQ, rfl, hR, hO, hbd, hP0, hPg, hQr⟩ hH)
  refine any_have 5 [1, 5, 6, 7, 9, 10] (fun a a' w' => ∃ (gA gP : Nat), a' = ((((((a.put (some 56) (.slice p i c)).put (some 60) (.slice (some ⟨gA, 0, none⟩) 1 1)).put (some 61) (.string ⟨#[ub]⟩)).put (some 62) (.agg #[.int .i64 3, .int .i64 0, .float .f64 0, .string ⟨#[ub]⟩, .slice none 0 0])).put (some 64) (.agg #[.int .i64 2, .int .i64 0, .float .f64 F, .string ⟨#[]⟩, .slice none 0 0])).put (some 65) (.slice (some ⟨gP, 0, none⟩) 2 2)) ∧ w'.heap[sb]? = some (.cells #[.int .i64 4, .int .i64 0, .float .f64 0, .string ⟨#[]⟩, .slice p i c] 27 (0, 0)) ∧ OwG W0 w' sb p i c G AS ∧ Below wr.heap.size wr w' ∧ w'.heap[gP]? = some (.cells #[.int .i64 3, .int .i64 0, .float .f64 0, .string ⟨#[ub]⟩, .slice none 0 0, .int .i64 2, .int .i64 0, .float .f64 F, .string ⟨#[]⟩, .slice none 0 0] 27 (0, 0)) ∧ wr.heap.size ≤ gP) ?phK1_5_6_7_9_10m (fun hK1_5_6_7_9_10 => ?_)
  case phK1_5_6_7_9_10m =>
    intro a' w' hst hH
    obtain ⟨gA, gP, rfl, hR, hO, hbd, hP0, hPg⟩ := hst
    (try simp only [Act.put, pk0, pk1, pk2])
    refine wpAnyH_ready (rs := [11]) (by kernel_rfl) (by simp) ?_
    refine AllReadyH.cons (o := ?_) ?ho11hK1_5_6_7_9_10m ?hst11hK1_5_6_7_9_10m AllReadyH.nil
    case ho11hK1_5_6_7_9_10m => (simp only [lk0, lk1, lk2]; rfl)
    case hst11hK1_5_6_7_9_10m =>
      intro K hK
      go_simp
      go_at_call 18; refine (list_ref_any _ _ _ _).mono ?_; rintro e wT ⟨rfl, hbT⟩
      go_wp2_with fail
      refine hK.out _ _ ?hs11hK1_5_6_7_9_10m (fun hH => ?_)
      case hs11hK1_5_6_7_9_10m => exact trivial
      clear hK K
      (try simp only [Act.put, pk0, pk1, pk2])
      exact any_eq (by kernel_rfl) (by kernel_rfl) (hK1_5_6_7_9_10_11 _ _ ⟨gA, gP, rfl, (row_step hR hbT), (og_step hO hbT), (bel_step hbd hbT), (row_step hP0 hbT), (hPg)⟩ hH)
  refine any_have 5 [5, 6, 7, 9, 10, 11] (fun a a' w' => ∃ (gA gP : Nat), a' = ((((((a.put (some 60) (.slice (some ⟨gA, 0, none⟩) 1 1)).put (some 61) (.string ⟨#[ub]⟩)).put (some 62) (.agg #[.int .i64 3, .int .i64 0, .float .f64 0, .string ⟨#[ub]⟩, .slice none 0 0])).put (some 64) (.agg #[.int .i64 2, .int .i64 0, .float .f64 F, .string ⟨#[]⟩, .slice none 0 0])).put (some 65) (.slice (some ⟨gP, 0, none⟩) 2 2)).put (some 66) (.agg #[.int .i64 4, .int .i64 0, .float .f64 0, .string ⟨#[]⟩, .slice (some ⟨gP, 0, none⟩) 2 2])) ∧ w'.heap[sb]? = some (.cells #[.int .i64 4, .int .i64 0, .float .f64 0, .string ⟨#[]⟩, .slice p i c] 27 (0, 0)) ∧ OwG W0 w' sb p i c G AS ∧ Below wr.heap.size wr w' ∧ w'.heap[gP]? = some (.cells #[.int .i64 3, .int .i64 0, .float .f64 0, .string ⟨#[ub]⟩, .slice none 0 0, .int .i64 2, .int .i64 0, .float .f64 F, .string ⟨#[]⟩, .slice none 0 0] 27 (0, 0)) ∧ wr.heap.size ≤ gP) ?phK5_6_7_9_10_11m (fun hK5_6_7_9_10_11 => ?_)
  case phK5_6_7_9_10_11m =>
    intro a' w' hst hH
    obtain ⟨gA, gP, rfl, hR, hO, hbd, hP0, hPg⟩ := hst
    (try simp only [Act.put, pk0, pk1, pk2])
    refine wpAnyH_ready (rs := [1, 12]) (by kernel_rfl) (by simp) ?_
    refine AllReadyH.cons (o := ?_) ?ho1hK5_6_7_9_10_11m ?hst1hK5_6_7_9_10_11m (AllReadyH.cons (o := ?_) ?ho12hK5_6_7_9_10_11m ?hst12hK5_6_7_9_10_11m AllReadyH.nil)
    case ho1hK5_6_7_9_10_11m => (simp only [lk0, lk1, lk2]; rfl)
    case ho12hK5_6_7_9_10_11m => (simp only [lk0, lk1, lk2]; rfl)
    case hst1hK5_6_7_9_10_11m =>
      intro K hK
      have bb4 := rc hR 4; have bbl := row_lt hR; go_simp
      refine hK.out _ _ ?hs1hK5_6_7_9_10_11m (fun hH => ?_)
      case hs1hK5_6_7_9_10_11m => trivial
      clear hK K bb4 bbl
      (try simp only [Act.put, pk0, pk1, pk2])
      exact any_eq (by kernel_rfl) (by kernel_rfl) (hK1_5_6_7_9_10_11 _ _ ⟨gA, gP, rfl, hR, hO, hbd, hP0, hPg⟩ hH)
    case hst12hK5_6_7_9_10_11m =>
      intro K hK
      go_simp
      refine hK.out _ _ ?hs12hK5_6_7_9_10_11m (fun hH => ?_)
      case hs12hK5_6_7_9_10_11m => exact trivial
      clear hK K
      (try simp only [Act.put, pk0, pk1, pk2])
      exact any_eq (by kernel_rfl) (by kernel_rfl) (hK5_6_7_9_10_11_12 _ _ ⟨gA, gP, _, rfl, (row_step hR (bel_alloc br (.cells #[.int .i64 4, .int .i64 0, .float .f64 0, .string ⟨#[]⟩, .slice (some ⟨gP, 0, none⟩) 2 2] 27))), (og_step hO (bel_alloc br (.cells #[.int .i64 4, .int .i64 0, .float .f64 0, .string ⟨#[]⟩, .slice (some ⟨gP, 0, none⟩) 2 2] 27))), (bel_step hbd (bel_alloc br (.cells #[.int .i64 4, .int .i64 0, .float .f64 0, .string ⟨#[]⟩, .slice (some ⟨gP, 0, none⟩) 2 2] 27))), (row_step hP0 (bel_alloc br (.cells #[.int .i64 4, .int .i64 0, .float .f64 0, .string ⟨#[]⟩, .slice (some ⟨gP, 0, none⟩) 2 2] 27))), (hPg), row_alloc _ _ _⟩ hH)
  refine any_have 6 [1, 5, 6, 7, 9] (fun a a' w' => ∃ (gA : Nat), a' = (((((a.put (some 56) (.slice p i c)).put (some 60) (.slice (some ⟨gA, 0, none⟩) 1 1)).put (some 61) (.string ⟨#[ub]⟩)).put (some 62) (.agg #[.int .i64 3, .int .i64 0, .float .f64 0, .string ⟨#[ub]⟩, .slice none 0 0])).put (some 64) (.agg #[.int .i64 2, .int .i64 0, .float .f64 F, .string ⟨#[]⟩, .slice none 0 0])) ∧ w'.heap[sb]? = some (.cells #[.int .i64 4, .int .i64 0, .float .f64 0, .string ⟨#[]⟩, .slice p i c] 27 (0, 0)) ∧ OwG W0 w' sb p i c G AS ∧ Below wr.heap.size wr w') ?phK1_5_6_7_9m (fun hK1_5_6_7_9 => ?_)
  case phK1_5_6_7_9m =>
    intro a' w' hst hH
    obtain ⟨gA, rfl, hR, hO, hbd⟩ := hst
    (try simp only [Act.put, pk0, pk1, pk2])
    refine wpAnyH_ready (rs := [10]) (by kernel_rfl) (by simp) ?_
    refine AllReadyH.cons (o := ?_) ?ho10hK1_5_6_7_9m ?hst10hK1_5_6_7_9m AllReadyH.nil
    case ho10hK1_5_6_7_9m => (simp only [lk0, lk1, lk2]; rfl)
    case hst10hK1_5_6_7_9m =>
      intro K hK
      go_simp
      refine hK.out _ _ ?hs10hK1_5_6_7_9m (fun hH => ?_)
      case hs10hK1_5_6_7_9m => exact trivial
      clear hK K
      (try simp only [Act.put, pk0, pk1, pk2])
      exact any_eq (by kernel_rfl) (by kernel_rfl) (hK1_5_6_7_9_10 _ _ ⟨gA, _, rfl, (row_step hR (bel_alloc br (.cells #[.int .i64 3, .int .i64 0, .float .f64 0, .string ⟨#[ub]⟩, .slice none 0 0, .int .i64 2, .int .i64 0, .float .f64 F, .string ⟨#[]⟩, .slice none 0 0] 27))), (og_step hO (bel_alloc br (.cells #[.int .i64 3, .int .i64 0, .float .f64 0, .string ⟨#[ub]⟩, .slice none 0 0, .int .i64 2, .int .i64 0, .float .f64 F, .string ⟨#[]⟩, .slice none 0 0] 27))), (bel_step hbd (bel_alloc br (.cells #[.int .i64 3, .int .i64 0, .float .f64 0, .string ⟨#[ub]⟩, .slice none 0 0, .int .i64 2, .int .i64 0, .float .f64 F, .string ⟨#[]⟩, .slice none 0 0] 27))), row_alloc _ _ _, hbd.size⟩ hH)
  refine any_have 6 [5, 6, 7, 9, 10] (fun a a' w' => ∃ (gA gP : Nat), a' = (((((a.put (some 60) (.slice (some ⟨gA, 0, none⟩) 1 1)).put (some 61) (.string ⟨#[ub]⟩)).put (some 62) (.agg #[.int .i64 3, .int .i64 0, .float .f64 0, .string ⟨#[ub]⟩, .slice none 0 0])).put (some 64) (.agg #[.int .i64 2, .int .i64 0, .float .f64 F, .string ⟨#[]⟩, .slice none 0 0])).put (some 65) (.slice (some ⟨gP, 0, none⟩) 2 2)) ∧ w'.heap[sb]? = some (.cells #[.int .i64 4, .int .i64 0, .float .f64 0, .string ⟨#[]⟩, .slice p i c] 27 (0, 0)) ∧ OwG W0 w' sb p i c G AS ∧ Below wr.heap.size wr w' ∧ w'.heap[gP]? = some (.cells #[.int .i64 3, .int .i64 0, .float .f64 0, .string ⟨#[ub]⟩, .slice none 0 0, .int .i64 2, .int .i64 0, .float .f64 F, .string ⟨#[]⟩, .slice none 0 0] 27 (0, 0)) ∧ wr.heap.size ≤ gP) ?phK5_6_7_9_10m (fun hK5_6_7_9_10 => ?_)
  case phK5_6_7_9_10m =>
    intro a' w' hst hH
    obtain ⟨gA, gP, rfl, hR, hO, hbd, hP0, hPg⟩ := hst
    (try simp only [Act.put, pk0, pk1, pk2])
    refine wpAnyH_ready (rs := [1, 11]) (by kernel_rfl) (by simp) ?_
    refine AllReadyH.cons (o := ?_) ?ho1hK5_6_7_9_10m ?hst1hK5_6_7_9_10m (AllReadyH.cons (o := ?_) ?ho11hK5_6_7_9_10m ?hst11hK5_6_7_9_10m AllReadyH.nil)
    case ho1hK5_6_7_9_10m => (simp only [lk0, lk1, lk2]; rfl)
    case ho11hK5_6_7_9_10m => (simp only [lk0, lk1, lk2]; rfl)
    case hst1hK5_6_7_9_10m =>
      intro K hK
      have bb4 := rc hR 4; have bbl := row_lt hR; go_simp
      refine hK.out _ _ ?hs1hK5_6_7_9_10m (fun hH => ?_)
      case hs1hK5_6_7_9_10m => trivial
      clear hK K bb4 bbl
      (try simp only [Act.put, pk0, pk1, pk2])
      exact any_eq (by kernel_rfl) (by kernel_rfl) (hK1_5_6_7_9_10 _ _ ⟨gA, gP, rfl, hR, hO, hbd, hP0, hPg⟩ hH)
    case hst11hK5_6_7_9_10m =>
      intro K hK
      go_simp
      go_at_call 18; refine (list_ref_any _ _ _ _).mono ?_; rintro e wT ⟨rfl, hbT⟩
      go_wp2_with fail
      refine hK.out _ _ ?hs11hK5_6_7_9_10m (fun hH => ?_)
      case hs11hK5_6_7_9_10m => exact trivial
      clear hK K
      (try simp only [Act.put, pk0, pk1, pk2])
      exact any_eq (by kernel_rfl) (by kernel_rfl) (hK5_6_7_9_10_11 _ _ ⟨gA, gP, rfl, (row_step hR hbT), (og_step hO hbT), (bel_step hbd hbT), (row_step hP0 hbT), (hPg)⟩ hH)
  refine any_have 7 [1, 5, 6, 7] (fun a a' w' => ∃ (gA : Nat), a' = ((((a.put (some 56) (.slice p i c)).put (some 60) (.slice (some ⟨gA, 0, none⟩) 1 1)).put (some 61) (.string ⟨#[ub]⟩)).put (some 62) (.agg #[.int .i64 3, .int .i64 0, .float .f64 0, .string ⟨#[ub]⟩, .slice none 0 0])) ∧ w'.heap[sb]? = some (.cells #[.int .i64 4, .int .i64 0, .float .f64 0, .string ⟨#[]⟩, .slice p i c] 27 (0, 0)) ∧ OwG W0 w' sb p i c G AS ∧ Below wr.heap.size wr w') ?phK1_5_6_7m (fun hK1_5_6_7 => ?_)
  case phK1_5_6_7m =>
    intro a' w' hst hH
    obtain ⟨gA, rfl, hR, hO, hbd⟩ := hst
    (try simp only [Act.put, pk0, pk1, pk2])
    refine wpAnyH_ready (rs := [9]) (by kernel_rfl) (by simp) ?_
    refine AllReadyH.cons (o := ?_) ?ho9hK1_5_6_7m ?hst9hK1_5_6_7m AllReadyH.nil
    case ho9hK1_5_6_7m => (simp only [lk0, lk1, lk2]; rfl)
    case hst9hK1_5_6_7m =>
      intro K hK
      go_simp
      go_at_call 20; refine (flo_finM F hF _).mono ?_; rintro e wT ⟨rfl, hbT⟩
      go_wp2_with fail
      refine hK.out _ _ ?hs9hK1_5_6_7m (fun hH => ?_)
      case hs9hK1_5_6_7m => exact trivial
      clear hK K
      (try simp only [Act.put, pk0, pk1, pk2])
      exact any_eq (by kernel_rfl) (by kernel_rfl) (hK1_5_6_7_9 _ _ ⟨gA, rfl, (row_step hR hbT), (og_step hO hbT), (bel_step hbd hbT)⟩ hH)
  refine any_have 7 [5, 6, 7, 9] (fun a a' w' => ∃ (gA : Nat), a' = ((((a.put (some 60) (.slice (some ⟨gA, 0, none⟩) 1 1)).put (some 61) (.string ⟨#[ub]⟩)).put (some 62) (.agg #[.int .i64 3, .int .i64 0, .float .f64 0, .string ⟨#[ub]⟩, .slice none 0 0])).put (some 64) (.agg #[.int .i64 2, .int .i64 0, .float .f64 F, .string ⟨#[]⟩, .slice none 0 0])) ∧ w'.heap[sb]? = some (.cells #[.int .i64 4, .int .i64 0, .float .f64 0, .string ⟨#[]⟩, .slice p i c] 27 (0, 0)) ∧ OwG W0 w' sb p i c G AS ∧ Below wr.heap.size wr w') ?phK5_6_7_9m (fun hK5_6_7_9 => ?_)
  case phK5_6_7_9m =>
    intro a' w' hst hH
    obtain ⟨gA, rfl, hR, hO, hbd⟩ := hst
    (try simp only [Act.put, pk0, pk1, pk2])
    refine wpAnyH_ready (rs := [1, 10]) (by kernel_rfl) (by simp) ?_
    refine AllReadyH.cons (o := ?_) ?ho1hK5_6_7_9m ?hst1hK5_6_7_9m (AllReadyH.cons (o := ?_) ?ho10hK5_6_7_9m ?hst10hK5_6_7_9m AllReadyH.nil)
    case ho1hK5_6_7_9m => (simp only [lk0, lk1, lk2]; rfl)
    case ho10hK5_6_7_9m => (simp only [lk0, lk1, lk2]; rfl)
    case hst1hK5_6_7_9m =>
      intro K hK
      have bb4 := rc hR 4; have bbl := row_lt hR; go_simp
      refine hK.out _ _ ?hs1hK5_6_7_9m (fun hH => ?_)
      case hs1hK5_6_7_9m => trivial
      clear hK K bb4 bbl
      (try simp only [Act.put, pk0, pk1, pk2])
      exact any_eq (by kernel_rfl) (by kernel_rfl) (hK1_5_6_7_9 _ _ ⟨gA, rfl, hR, hO, hbd⟩ hH)
    case hst10hK5_6_7_9m =>
      intro K hK
      go_simp
      refine hK.out _ _ ?hs10hK5_6_7_9m (fun hH => ?_)
      case hs10hK5_6_7_9m => exact trivial
      clear hK K
      (try simp only [Act.put, pk0, pk1, pk2])
      exact any_eq (by kernel_rfl) (by kernel_rfl) (hK5_6_7_9_10 _ _ ⟨gA, _, rfl, (row_step hR (bel_alloc br (.cells #[.int .i64 3, .int .i64 0, .float .f64 0, .string ⟨#[ub]⟩, .slice none 0 0, .int .i64 2, .int .i64 0, .float .f64 F, .string ⟨#[]⟩, .slice none 0 0] 27))), (og_step hO (bel_alloc br (.cells #[.int .i64 3, .int .i64 0, .float .f64 0, .string ⟨#[ub]⟩, .slice none 0 0, .int .i64 2, .int .i64 0, .float .f64 F, .string ⟨#[]⟩, .slice none 0 0] 27))), (bel_step hbd (bel_alloc br (.cells #[.int .i64 3, .int .i64 0, .float .f64 0, .string ⟨#[ub]⟩, .slice none 0 0, .int .i64 2, .int .i64 0, .float .f64 F, .string ⟨#[]⟩, .slice none 0 0] 27))), row_alloc _ _ _, hbd.size⟩ hH)
  refine any_have 8 [1, 5, 6] (fun a a' w' => ∃ (gA : Nat), a' = (((a.put (some 56) (.slice p i c)).put (some 60) (.slice (some ⟨gA, 0, none⟩) 1 1)).put (some 61) (.string ⟨#[ub]⟩)) ∧ w'.heap[sb]? = some (.cells #[.int .i64 4, .int .i64 0, .float .f64 0, .string ⟨#[]⟩, .slice p i c] 27 (0, 0)) ∧ OwG W0 w' sb p i c G AS ∧ Below wr.heap.size wr w') ?phK1_5_6m (fun hK1_5_6 => ?_)
  case phK1_5_6m =>
    intro a' w' hst hH
    obtain ⟨gA, rfl, hR, hO, hbd⟩ := hst
    (try simp only [Act.put, pk0, pk1, pk2])
    refine wpAnyH_ready (rs := [7]) (by kernel_rfl) (by simp) ?_
    refine AllReadyH.cons (o := ?_) ?ho7hK1_5_6m ?hst7hK1_5_6m AllReadyH.nil
    case ho7hK1_5_6m => (simp only [lk0, lk1, lk2]; rfl)
    case hst7hK1_5_6m =>
      intro K hK
      go_simp
      go_at_call 19; refine (text_ref_any _ _).mono ?_; rintro e wT ⟨rfl, hbT⟩
      go_wp2_with fail
      refine hK.out _ _ ?hs7hK1_5_6m (fun hH => ?_)
      case hs7hK1_5_6m => exact trivial
      clear hK K
      (try simp only [Act.put, pk0, pk1, pk2])
      exact any_eq (by kernel_rfl) (by kernel_rfl) (hK1_5_6_7 _ _ ⟨gA, rfl, (row_step hR hbT), (og_step hO hbT), (bel_step hbd hbT)⟩ hH)
  refine any_have 8 [5, 6, 7] (fun a a' w' => ∃ (gA : Nat), a' = (((a.put (some 60) (.slice (some ⟨gA, 0, none⟩) 1 1)).put (some 61) (.string ⟨#[ub]⟩)).put (some 62) (.agg #[.int .i64 3, .int .i64 0, .float .f64 0, .string ⟨#[ub]⟩, .slice none 0 0])) ∧ w'.heap[sb]? = some (.cells #[.int .i64 4, .int .i64 0, .float .f64 0, .string ⟨#[]⟩, .slice p i c] 27 (0, 0)) ∧ OwG W0 w' sb p i c G AS ∧ Below wr.heap.size wr w') ?phK5_6_7m (fun hK5_6_7 => ?_)
  case phK5_6_7m =>
    intro a' w' hst hH
    obtain ⟨gA, rfl, hR, hO, hbd⟩ := hst
    (try simp only [Act.put, pk0, pk1, pk2])
    refine wpAnyH_ready (rs := [1, 9]) (by kernel_rfl) (by simp) ?_
    refine AllReadyH.cons (o := ?_) ?ho1hK5_6_7m ?hst1hK5_6_7m (AllReadyH.cons (o := ?_) ?ho9hK5_6_7m ?hst9hK5_6_7m AllReadyH.nil)
    case ho1hK5_6_7m => (simp only [lk0, lk1, lk2]; rfl)
    case ho9hK5_6_7m => (simp only [lk0, lk1, lk2]; rfl)
    case hst1hK5_6_7m =>
      intro K hK
      have bb4 := rc hR 4; have bbl := row_lt hR; go_simp
      refine hK.out _ _ ?hs1hK5_6_7m (fun hH => ?_)
      case hs1hK5_6_7m => trivial
      clear hK K bb4 bbl
      (try simp only [Act.put, pk0, pk1, pk2])
      exact any_eq (by kernel_rfl) (by kernel_rfl) (hK1_5_6_7 _ _ ⟨gA, rfl, hR, hO, hbd⟩ hH)
    case hst9hK5_6_7m =>
      intro K hK
      go_simp
      go_at_call 20; refine (flo_finM F hF _).mono ?_; rintro e wT ⟨rfl, hbT⟩
      go_wp2_with fail
      refine hK.out _ _ ?hs9hK5_6_7m (fun hH => ?_)
      case hs9hK5_6_7m => exact trivial
      clear hK K
      (try simp only [Act.put, pk0, pk1, pk2])
      exact any_eq (by kernel_rfl) (by kernel_rfl) (hK5_6_7_9 _ _ ⟨gA, rfl, (row_step hR hbT), (og_step hO hbT), (bel_step hbd hbT)⟩ hH)
  refine any_have 9 [1, 5] (fun a a' w' => ∃ (gA : Nat), a' = ((a.put (some 56) (.slice p i c)).put (some 60) (.slice (some ⟨gA, 0, none⟩) 1 1)) ∧ w'.heap[sb]? = some (.cells #[.int .i64 4, .int .i64 0, .float .f64 0, .string ⟨#[]⟩, .slice p i c] 27 (0, 0)) ∧ OwG W0 w' sb p i c G AS ∧ Below wr.heap.size wr w' ∧ w'.heap[gA]? = some (.cells #[.int .u8 (97 + (i : Int))] 5 (0, 0))) ?phK1_5m (fun hK1_5 => ?_)
  case phK1_5m =>
    intro a' w' hst hH
    obtain ⟨gA, rfl, hR, hO, hbd, hA⟩ := hst
    (try simp only [Act.put, pk0, pk1, pk2])
    refine wpAnyH_ready (rs := [6]) (by kernel_rfl) (by simp) ?_
    refine AllReadyH.cons (o := ?_) ?ho6hK1_5m ?hst6hK1_5m AllReadyH.nil
    case ho6hK1_5m => (simp only [lk0, lk1, lk2]; rfl)
    case hst6hK1_5m =>
      intro K hK
      have hcv := conv1M (cap := 1) (b := ub) HUB.out hA; go_simp
      clear hcv
      go_wp2_with fail
      refine hK.out _ _ ?hs6hK1_5m (fun hH => ?_)
      case hs6hK1_5m => exact trivial
      clear hK K
      (try simp only [Act.put, pk0, pk1, pk2])
      exact any_eq (by kernel_rfl) (by kernel_rfl) (hK1_5_6 _ _ ⟨gA, rfl, hR, hO, hbd⟩ hH)
  refine any_have 9 [5, 6] (fun a a' w' => ∃ (gA : Nat), a' = ((a.put (some 60) (.slice (some ⟨gA, 0, none⟩) 1 1)).put (some 61) (.string ⟨#[ub]⟩)) ∧ w'.heap[sb]? = some (.cells #[.int .i64 4, .int .i64 0, .float .f64 0, .string ⟨#[]⟩, .slice p i c] 27 (0, 0)) ∧ OwG W0 w' sb p i c G AS ∧ Below wr.heap.size wr w') ?phK5_6m (fun hK5_6 => ?_)
  case phK5_6m =>
    intro a' w' hst hH
    obtain ⟨gA, rfl, hR, hO, hbd⟩ := hst
    (try simp only [Act.put, pk0, pk1, pk2])
    refine wpAnyH_ready (rs := [1, 7]) (by kernel_rfl) (by simp) ?_
    refine AllReadyH.cons (o := ?_) ?ho1hK5_6m ?hst1hK5_6m (AllReadyH.cons (o := ?_) ?ho7hK5_6m ?hst7hK5_6m AllReadyH.nil)
    case ho1hK5_6m => (simp only [lk0, lk1, lk2]; rfl)
    case ho7hK5_6m => (simp only [lk0, lk1, lk2]; rfl)
    case hst1hK5_6m =>
      intro K hK
      have bb4 := rc hR 4; have bbl := row_lt hR; go_simp
      refine hK.out _ _ ?hs1hK5_6m (fun hH => ?_)
      case hs1hK5_6m => trivial
      clear hK K bb4 bbl
      (try simp only [Act.put, pk0, pk1, pk2])
      exact any_eq (by kernel_rfl) (by kernel_rfl) (hK1_5_6 _ _ ⟨gA, rfl, hR, hO, hbd⟩ hH)
    case hst7hK5_6m =>
      intro K hK
      go_simp
      go_at_call 19; refine (text_ref_any _ _).mono ?_; rintro e wT ⟨rfl, hbT⟩
      go_wp2_with fail
      refine hK.out _ _ ?hs7hK5_6m (fun hH => ?_)
      case hs7hK5_6m => exact trivial
      clear hK K
      (try simp only [Act.put, pk0, pk1, pk2])
      exact any_eq (by kernel_rfl) (by kernel_rfl) (hK5_6_7 _ _ ⟨gA, rfl, (row_step hR hbT), (og_step hO hbT), (bel_step hbd hbT)⟩ hH)
  refine any_have 10 [1] (fun a a' w' => a' = (a.put (some 56) (.slice p i c)) ∧ w'.heap[sb]? = some (.cells #[.int .i64 4, .int .i64 0, .float .f64 0, .string ⟨#[]⟩, .slice p i c] 27 (0, 0)) ∧ OwG W0 w' sb p i c G AS ∧ Below wr.heap.size wr w') ?phK1m (fun hK1 => ?_)
  case phK1m =>
    intro a' w' hst hH
    obtain ⟨rfl, hR, hO, hbd⟩ := hst
    (try simp only [Act.put, pk0, pk1, pk2])
    refine wpAnyH_ready (rs := [5]) (by kernel_rfl) (by simp) ?_
    refine AllReadyH.cons (o := ?_) ?ho5hK1m ?hst5hK1m AllReadyH.nil
    case ho5hK1m => (simp only [lk0, lk1, lk2]; rfl)
    case hst5hK1m =>
      intro K hK
      go_simp
      refine hK.out _ _ ?hs5hK1m (fun hH => ?_)
      case hs5hK1m => exact trivial
      clear hK K
      (try simp only [Act.put, pk0, pk1, pk2])
      exact any_eq (by kernel_rfl) (by kernel_rfl) (hK1_5 _ _ ⟨_, rfl, (row_step hR (bel_alloc br (.cells #[.int .u8 (97 + (i : Int))] 5))), (og_step hO (bel_alloc br (.cells #[.int .u8 (97 + (i : Int))] 5))), (bel_step hbd (bel_alloc br (.cells #[.int .u8 (97 + (i : Int))] 5))), row_alloc _ _ _⟩ hH)
  refine any_have 10 [5] (fun a a' w' => ∃ (gA : Nat), a' = (a.put (some 60) (.slice (some ⟨gA, 0, none⟩) 1 1)) ∧ w'.heap[sb]? = some (.cells #[.int .i64 4, .int .i64 0, .float .f64 0, .string ⟨#[]⟩, .slice p i c] 27 (0, 0)) ∧ OwG W0 w' sb p i c G AS ∧ Below wr.heap.size wr w' ∧ w'.heap[gA]? = some (.cells #[.int .u8 (97 + (i : Int))] 5 (0, 0))) ?phK5m (fun hK5 => ?_)
  case phK5m =>
    intro a' w' hst hH
    obtain ⟨gA, rfl, hR, hO, hbd, hA⟩ := hst
    (try simp only [Act.put, pk0, pk1, pk2])
    refine wpAnyH_ready (rs := [1, 6]) (by kernel_rfl) (by simp) ?_
    refine AllReadyH.cons (o := ?_) ?ho1hK5m ?hst1hK5m (AllReadyH.cons (o := ?_) ?ho6hK5m ?hst6hK5m AllReadyH.nil)
    case ho1hK5m => (simp only [lk0, lk1, lk2]; rfl)
    case ho6hK5m => (simp only [lk0, lk1, lk2]; rfl)
    case hst1hK5m =>
      intro K hK
      have bb4 := rc hR 4; have bbl := row_lt hR; go_simp
      refine hK.out _ _ ?hs1hK5m (fun hH => ?_)
      case hs1hK5m => trivial
      clear hK K bb4 bbl
      (try simp only [Act.put, pk0, pk1, pk2])
      exact any_eq (by kernel_rfl) (by kernel_rfl) (hK1_5 _ _ ⟨gA, rfl, hR, hO, hbd, hA⟩ hH)
    case hst6hK5m =>
      intro K hK
      have hcv := conv1M (cap := 1) (b := ub) HUB.out hA; go_simp
      clear hcv
      go_wp2_with fail
      refine hK.out _ _ ?hs6hK5m (fun hH => ?_)
      case hs6hK5m => exact trivial
      clear hK K
      (try simp only [Act.put, pk0, pk1, pk2])
      exact any_eq (by kernel_rfl) (by kernel_rfl) (hK5_6 _ _ ⟨gA, rfl, hR, hO, hbd⟩ hH)
  refine wpAnyH_ready (rs := [1, 5]) (by kernel_rfl) (by simp) ?_
  refine AllReadyH.cons (o := ?_) ?ho1zm ?hst1zm (AllReadyH.cons (o := ?_) ?ho5zm ?hst5zm AllReadyH.nil)
  case ho1zm => (simp only [lk0, lk1, lk2]; rfl)
  case ho5zm => (simp only [lk0, lk1, lk2]; rfl)
  case hst1zm =>
    intro K hK
    have bb4 := rc hR 4; have bbl := row_lt hR; go_simp
    refine hK.out _ _ ?hs1zm (fun hH => ?_)
    case hs1zm => trivial
    clear hK K bb4 bbl
    (try simp only [Act.put, pk0, pk1, pk2])
    exact any_eq (by kernel_rfl) (by kernel_rfl) (hK1 _ _ ⟨rfl, hR, hO, hbd⟩ hH)
  case hst5zm =>
    intro K hK
    go_simp
    refine hK.out _ _ ?hs5zm (fun hH => ?_)
    case hs5zm => exact trivial
    clear hK K
    (try simp only [Act.put, pk0, pk1, pk2])
    exact any_eq (by kernel_rfl) (by kernel_rfl) (hK5 _ _ ⟨_, rfl, (row_step hR (bel_alloc br (.cells #[.int .u8 (97 + (i : Int))] 5))), (og_step hO (bel_alloc br (.cells #[.int .u8 (97 + (i : Int))] 5))), (bel_step hbd (bel_alloc br (.cells #[.int .u8 (97 + (i : Int))] 5))), row_alloc _ _ _⟩ hH)
end Num
end Go.Proofs.YtpbfaffheigjcaaGreat
/-
  LedgerMoves: which accounts are laid, what a transfer comes to: plain.
-/
namespace Go.Proofs.YtpbfaffheigjcaaGreat
open Go.RowKit
namespace Num
open Ints
set_option linter.unusedSimpArgs false
set_option linter.unusedVariables false
def fillM (f i : Nat) : Nat := if FloatKind.f64.format.order f 0 = some .gt ∧ f < 9218868437227405312 then f else floatOfInt .f64 (i : Int)
theorem small_floM : ∀ i : Nat, i < 12 → floatOfInt .f64 (i : Int) < 9218868437227405312 := by
  intro i hi
  match i, hi with
  | 0, _ => decide +kernel
  | 1, _ => decide +kernel
  | 2, _ => decide +kernel
  | 3, _ => decide +kernel
  | 4, _ => decide +kernel
  | 5, _ => decide +kernel
  | 6, _ => decide +kernel
  | 7, _ => decide +kernel
  | 8, _ => decide +kernel
  | 9, _ => decide +kernel
  | 10, _ => decide +kernel
  | 11, _ => decide +kernel
theorem fillM_lt {f i : Nat} (hi : i < 12) : fillM f i < 9218868437227405312 := by
  unfold fillM
  split
  · rename_i h; exact h.2
  · exact small_floM i hi
def letM (i : Nat) : UInt8 := UInt8.ofNat (97 + i)
theorem letM_nat {i : Nat} (hi : i < 12) : ((letM i).toNat : Int) = 97 + (i : Int) := by
  unfold letM
  rw [UInt8.toNat_ofNat']
  omega
def nmM (i : Nat) : ByteArray := ⟨#[letM i]⟩
theorem nmM_lt : ∀ j, j < 12 → ∀ i, i < j → ltB (nmM i) (nmM j) = true := by decide +kernel
theorem nmM_nm : ∀ j, j < 12 → nmV 3 (nmM j) = true := by decide +kernel
def ASM (Fs : List Nat) (i : Nat) : List (ByteArray × Nat) := (List.range i).map fun j => (nmM j, fillM (Fs[j]?.getD 0) j)
theorem asm_len (Fs : List Nat) (i : Nat) : (ASM Fs i).length = i := by unfold ASM; rw [List.length_map, List.length_range]
theorem asm_at (Fs : List Nat) (i j : Nat) (h : j < (ASM Fs i).length) : (ASM Fs i)[j] = (nmM j, fillM (Fs[j]?.getD 0) j) := by simp only [ASM, List.getElem_map, List.getElem_range]
theorem asm_succ (Fs : List Nat) (i : Nat) : ASM Fs (i + 1) = ASM Fs i ++ [(nmM i, fillM (Fs[i]?.getD 0) i)] := by unfold ASM; rw [List.range_succ, List.map_append]; rfl
theorem asm_ok (Fs : List Nat) (i : Nat) (hi : i ≤ 12) : OkA (ASM Fs i) := by
  have hm : (ASM Fs i).map (·.1) = (List.range i).map nmM := by unfold ASM; rw [List.map_map]; rfl
  refine ⟨?_, by rw [asm_len]; omega, fun e he => ?_⟩
  · rw [hm]
    refine ⟨fun s hs => ?_, fun a b ha hb hab => ?_⟩
    · obtain ⟨j, hj, rfl⟩ := List.mem_map.1 hs
      rw [List.mem_range] at hj
      exact nmM_nm j (by omega)
    · have hb' : b < i := by rw [List.length_map, List.length_range] at hb; exact hb
      rw [List.getElem_map, List.getElem_map, List.getElem_range, List.getElem_range]
      exact nmM_lt b (by omega) a hab
  · obtain ⟨j, hj, rfl⟩ := List.mem_map.1 he
    rw [List.mem_range] at hj
    exact fillM_lt (by omega)
theorem sub_self0M {x : Nat} (h : x < 9218868437227405312) : floatBits .sub .f64 x x = some 0 := by
  show (((FloatKind.f64.format.read x).sum (FloatKind.f64.format.read x).opposite).map FloatKind.f64.format.write) = some 0
  obtain ⟨m, i, e⟩ := num_pos h
  rw [e]
  refine congrArg some ?_
  rw [write_num]
  have hs : Ieee.signed false m (i - min i i).toNat + Ieee.signed (!false) m (i - min i i).toNat = 0 := by
    have e1 : Ieee.signed (!false) m (i - min i i).toNat = - Ieee.signed false m (i - min i i).toNat := rfl
    rw [e1]; omega
  have e3 : (if Ieee.signed false m (i - min i i).toNat + Ieee.signed (!false) m (i - min i i).toNat = 0 then (false && !false) else decide (Ieee.signed false m (i - min i i).toNat + Ieee.signed (!false) m (i - min i i).toNat < 0)) = false := sum_sign _ _ (by omega)
  rw [e3, hs]
  show Ieee.double.nearest false 0 _ = 0
  unfold Ieee.Format.nearest
  rw [if_pos rfl, word_pos]
theorem num_cases {f H : Nat} (hf : f < 2 ^ 64) (hc : Flo.canon f = H) :
    (FloatKind.f64.format.order f 0 ≠ some .gt ∧ ¬ (FloatKind.f64.format.order H 0 = some .gt ∧ H < 9218868437227405312)) ∨
    (f = 9218868437227405312 ∧ ¬ (FloatKind.f64.format.order H 0 = some .gt ∧ H < 9218868437227405312)) ∨
    (f = H ∧ FloatKind.f64.format.order f 0 = some .gt ∧ f < 9218868437227405312) := by
  cases hq : Flo.feq f f
  · rw [Flo.canon_no hq] at hc
    subst hc
    refine Or.inl ⟨fun h => ?_, fun h => absurd h.1 (by decide +kernel)⟩
    rw [feq_pos ((order_zero hf).1 h)] at hq
    cases hq
  · rw [Flo.canon_yes hq] at hc
    subst hc
    by_cases ho : FloatKind.f64.format.order f 0 = some .gt
    · rcases Nat.lt_or_eq_of_le ((order_zero hf).1 ho) with h | h
      · exact Or.inr (Or.inr ⟨rfl, ho, h⟩)
      · exact Or.inr (Or.inl ⟨h, fun h2 => by omega⟩)
    · exact Or.inl ⟨ho, fun h => ho h.1⟩
theorem traM {AS : List (ByteArray × Nat)} {a d : Nat} {ka kd : ByteArray} {FA FD H : Nat} (hH : H < 2 ^ 64) :
    (¬ (FloatKind.f64.format.order H 0 = some .gt ∧ H < 9218868437227405312) → traV AS a d ka kd FA FD 2 0 H = (35, nilT 2, nilT 0)) ∧
    ((FloatKind.f64.format.order H 0 = some .gt ∧ H < 9218868437227405312) →
      (FloatKind.f64.format.order FA H = some .lt ∧ traV AS a d ka kd FA FD 2 0 H = (36, nilT 2, nilT 0)) ∨
      (FloatKind.f64.format.order FA H ≠ some .lt ∧ a = d ∧ traV AS a d ka kd FA FD 2 0 H = (0, tableT 0 (ledA AS), floT 0 FA)) ∨
      (FloatKind.f64.format.order FA H ≠ some .lt ∧ a ≠ d ∧ finV 2 (Flo.cop .add FD H) = false ∧ traV AS a d ka kd FA FD 2 0 H = (35, nilT 2, nilT 0)) ∨
      (FloatKind.f64.format.order FA H ≠ some .lt ∧ a ≠ d ∧ traV AS a d ka kd FA FD 2 0 H = (0, tableT 0 (ledA ((AS.set a (ka, Flo.cop .sub FA H)).set d (kd, Flo.cop .add FD H))), floT 0 (Flo.cop .sub FA H)))) := by
  have hi := amt_iff (K := 2) (I := 0) (F := H) rfl hH (by decide)
  have e : asF 2 0 H = H := rfl
  rw [e] at hi
  unfold traV
  rw [e]
  refine ⟨fun h => by rw [if_pos (hi.2 h)], fun h => ?_⟩
  rw [if_neg (fun h2 => hi.1 h2 h)]
  by_cases h2 : FloatKind.f64.format.order FA H = some .lt
  · rw [if_pos (by rw [h2]; rfl)]
    exact Or.inl ⟨h2, rfl⟩
  · rw [if_neg (by rw [beq_iff_eq]; exact h2)]
    by_cases h3 : a = d
    · rw [if_pos h3]; exact Or.inr (Or.inl ⟨h2, h3, rfl⟩)
    · rw [if_neg h3]
      cases h4 : finV 2 (Flo.cop .add FD H)
      · rw [if_pos rfl]; exact Or.inr (Or.inr (Or.inl ⟨h2, h3, rfl, rfl⟩))
      · rw [if_neg (by decide)]; exact Or.inr (Or.inr (Or.inr ⟨h2, h3, rfl⟩))
theorem fin_infM {x : Nat} (h : x ≤ 9218868437227405312) (hf : finV 2 x = false) : x = 9218868437227405312 := by
  rcases Nat.lt_or_eq_of_le h with h1 | h1
  · rw [fin_pos h1] at hf; cases hf
  · exact h1
theorem og_cells {W0 z : World} {sb : Nat} {p : Option Addr} {l c : Nat} {G : List Nat} {AS : List (ByteArray × Nat)} (h : OwG W0 z sb p l c G AS) (h0 : 0 < l) : ∃ b off, p = some ⟨b, off, none⟩ ∧ b < z.heap.size ∧ ∀ j (hj : j < AS.length), ∃ g, z.cell? ⟨b, off + j * 5 + 4, none⟩ = some (.slice (some ⟨g, 0, none⟩) 2 2) ∧ accRow z g AS[j].1 AS[j].2 := by
  obtain ⟨hv, hl, _, hr⟩ := h
  obtain ⟨h1, h2, h3, h4⟩ := ow_at hv
  obtain ⟨b, off, hp, hi⟩ := h4 h0
  refine ⟨b, off, hp, ?_, fun j hj => ?_⟩
  · obtain ⟨v0, v1, v2, v3, v4, c0, _⟩ := hi 0 (by omega)
    exact cell_lt c0
  · have hjG : j < G.length := by omega
    obtain ⟨v0, v1, v2, v3, v4, c0, c1, c2, c3, c4, e⟩ := hi j hjG
    have e' : (Value.agg #[v0, v1, v2, v3, v4]) = .agg #[.int .i64 4, .int .i64 0, .float .f64 0, .string ⟨#[]⟩, .slice (some ⟨G[j], 0, none⟩) 2 2] := e
    injection e' with e'
    simp only [Array.mk.injEq, List.cons.injEq, and_true] at e'
    obtain ⟨_, _, _, _, rfl⟩ := e'
    exact ⟨G[j], c4, (hr j hjG hj).1⟩
theorem set2_at {α : Type} {L : List α} {a d j : Nat} {x y : α} (ha : j ≠ a) (hd : j ≠ d) (hj : j < ((L.set a x).set d y).length) (hj' : j < L.length) : ((L.set a x).set d y)[j] = L[j] := by
  rw [List.getElem_set_ne (fun e => hd e.symm), List.getElem_set_ne (fun e => ha e.symm)]
end Num
end Go.Proofs.YtpbfaffheigjcaaGreat
/-
  LedgerMoves: what is read of a ledger of floats; what a good transfer leaves.
-/
namespace Go.Proofs.YtpbfaffheigjcaaGreat
open Go.RowKit
namespace Num
open Ints
set_option linter.unusedSimpArgs false
set_option linter.unusedVariables false
theorem acc_F {w : World} {b off l c : Nat} {AS : List (ByteArray × Nat)} (h : RepL w (Rep w 2) (some ⟨b, off, none⟩) l c ((ledA AS).map (pairE 0))) (j : Nat) (hj : j < AS.length) : ∃ g o c', w.cell? ⟨b, off + j * 5 + 4, none⟩ = some (.slice (some ⟨g, o, none⟩) 2 c') ∧ w.cell? ⟨g, o + 5 + 2, none⟩ = some (.float .f64 AS[j].2) ∧ 2 ≤ c' := by
  obtain ⟨h1, h2, h3, h4⟩ := h
  have hlen : ((ledA AS).map (pairE 0)).length = AS.length := by rw [List.length_map, ledA_len]
  obtain ⟨b', off', e, hi⟩ := h4 (by omega)
  cases e
  obtain ⟨v0, v1, v2, v3, v4, c0, c1, c2, c3, c4, hr⟩ := hi j (by omega)
  have he : ((ledA AS).map (pairE 0))[j]'(by omega) = pairT 0 AS[j].1 (floT 0 AS[j].2) := by
    rw [List.getElem_map]
    have : (ledA AS)[j]'(by rw [ledA_len]; exact hj) = (AS[j].1, floT 0 AS[j].2) := by unfold ledA; rw [List.getElem_map]
    rw [this]; rfl
  have hr' : Rep w 2 (.agg #[v0, v1, v2, v3, v4]) (((ledA AS).map (pairE 0))[j]'(by omega)) := hr
  rw [he] at hr'
  have hr2 := hr'
  obtain ⟨g, o, c', hv, _, _, K, I, F, Z, q, m, d, ⟨k0, k1, k2, k3, k4⟩, hl⟩ := pair_mem hr'
  injection hv with hv
  simp only [Array.mk.injEq, List.cons.injEq, and_true] at hv
  obtain ⟨_, _, _, _, rfl⟩ := hv
  obtain ⟨_, _, rfl, _, _, _⟩ := leaf_is (show Rep w 1 _ ((2, 0, AS[j].2, ⟨#[]⟩, []) : VT 1) from hl)
  refine ⟨g, o, c', c4, k2, ?_⟩
  obtain ⟨p, l', c2', hv2, _, _, _, _, hh⟩ := hr2
  injection hv2 with hv2
  simp only [Array.mk.injEq, List.cons.injEq, and_true] at hv2
  obtain ⟨_, _, _, _, hv2⟩ := hv2
  injection hv2 with _ e2 e3
  rw [e2, e3]
  exact hh.2.1
theorem acc_V {w : World} {b off l c : Nat} {AS : List (ByteArray × Nat)} (h : RepL w (Rep w 2) (some ⟨b, off, none⟩) l c ((ledA AS).map (pairE 0))) (j : Nat) (hj : j < AS.length) : ∃ v0 v1 v2 v3 v4, w.cell? ⟨b, off + j * 5, none⟩ = some v0 ∧ w.cell? ⟨b, off + j * 5 + 1, none⟩ = some v1 ∧ w.cell? ⟨b, off + j * 5 + 2, none⟩ = some v2 ∧ w.cell? ⟨b, off + j * 5 + 3, none⟩ = some v3 ∧ w.cell? ⟨b, off + j * 5 + 4, none⟩ = some v4 ∧ Rep w 2 (.agg #[v0, v1, v2, v3, v4]) (pairT 0 AS[j].1 (floT 0 AS[j].2)) := by
  obtain ⟨h1, h2, h3, h4⟩ := h
  have hlen : ((ledA AS).map (pairE 0)).length = AS.length := by rw [List.length_map, ledA_len]
  obtain ⟨b', off', e, hi⟩ := h4 (by omega)
  cases e
  obtain ⟨v0, v1, v2, v3, v4, c0, c1, c2, c3, c4, hr⟩ := hi j (by omega)
  have he : ((ledA AS).map (pairE 0))[j]'(by omega) = pairT 0 AS[j].1 (floT 0 AS[j].2) := by
    rw [List.getElem_map]
    have : (ledA AS)[j]'(by rw [ledA_len]; exact hj) = (AS[j].1, floT 0 AS[j].2) := by unfold ledA; rw [List.getElem_map]
    rw [this]; rfl
  have hr' : Rep w 2 (.agg #[v0, v1, v2, v3, v4]) (((ledA AS).map (pairE 0))[j]'(by omega)) := hr
  rw [he] at hr'
  exact ⟨v0, v1, v2, v3, v4, c0, c1, c2, c3, c4, hr'⟩
theorem good_tra {AS : List (ByteArray × Nat)} {a d : Nat} {ka kd : ByteArray} {FA FD H : Nat} (ha : a < AS.length) (hd : d < AS.length) {z : Int} {TT : VT 3} {UU : VT 1}
    (h : (a = d ∧ (z, TT, UU) = (0, tableT 0 (ledA AS), floT 0 FA)) ∨ (a ≠ d ∧ (z, TT, UU) = (0, tableT 0 (ledA ((AS.set a (ka, Flo.cop .sub FA H)).set d (kd, Flo.cop .add FD H))), floT 0 (Flo.cop .sub FA H)))) :
    z = 0 ∧ ∃ AS2 : List (ByteArray × Nat), TT = tableT 0 (ledA AS2) ∧ AS2.length = AS.length ∧ (∀ j (h1 : j < AS2.length) (h2 : j < AS.length), j ≠ a → j ≠ d → AS2[j] = AS[j]) ∧
      ((a = d ∧ AS2 = AS) ∨ (a ≠ d ∧ (∀ h1 : a < AS2.length, AS2[a].2 = Flo.cop .sub FA H) ∧ (∀ h1 : d < AS2.length, AS2[d].2 = Flo.cop .add FD H))) := by
  rcases h with ⟨h1, h2⟩ | ⟨h1, h2⟩
  · injection h2 with e1 e2
    injection e2 with e2 e3
    subst e1 e2 e3
    exact ⟨rfl, AS, rfl, rfl, fun j h1 h2 _ _ => rfl, Or.inl ⟨h1, rfl⟩⟩
  · injection h2 with e1 e2
    injection e2 with e2 e3
    subst e1 e2 e3
    refine ⟨rfl, _, rfl, by rw [List.length_set, List.length_set], fun j hj hj2 ja jd => set2_at ja jd hj hj2, Or.inr ⟨h1, fun hh => ?_, fun hh => ?_⟩⟩
    · rw [List.getElem_set_ne (fun e => h1 e.symm), List.getElem_set_self]
    · rw [List.getElem_set_self]
end Num
end Go.Proofs.YtpbfaffheigjcaaGreat
