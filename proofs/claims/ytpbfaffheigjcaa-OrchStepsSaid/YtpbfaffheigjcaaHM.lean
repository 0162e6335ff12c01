/-
  A list of leaves (Ints, texts) that the call makes and appends to; a value that holds it; what is stored into an owned list.
-/
import Derived.Test.YtpbfaffheigjcaaWLo
import Derived.Laws.OwnMore
import Derived.Laws.MakeOwn
import Derived.Deep.RegionLaw
namespace Go.Proofs.Ytpbfaffheigjcaa
open Go.RowKit
namespace Num
open Ints
set_option linter.unusedSimpArgs false
set_option linter.unusedVariables false
abbrev Leaf := Int × Int × ByteArray
def leafT (n : Nat) (x : Leaf) : VT (n + 1) := (x.1, x.2.1, 0, x.2.2, [])
def leafVs (L : List Leaf) : List Value := L.flatMap fun x => [.int .i64 x.1, .int .i64 x.2.1, .float .f64 0, .string x.2.2, .slice none 0 0]
/-- A list of leaves that the call has made and appends to. -/
def OwF (W0 w : World) (p : Option Addr) (l c : Nat) (L : List Leaf) : Prop := ∃ XS : List Value, w.ownsRow W0.heap.size 27 5 (.slice p l c) l XS ∧ L.length = l ∧
  ∀ i (h : i < L.length), XS[i * 5]? = some (.int .i64 L[i].1) ∧ XS[i * 5 + 1]? = some (.int .i64 L[i].2.1) ∧ XS[i * 5 + 2]? = some (.float .f64 0) ∧ XS[i * 5 + 3]? = some (.string L[i].2.2) ∧ XS[i * 5 + 4]? = some (.slice none 0 0)
theorem leafVs_len : ∀ L : List Leaf, (leafVs L).length = L.length * 5
  | [] => rfl
  | x :: r => by
    have e : leafVs (x :: r) = [.int .i64 x.1, .int .i64 x.2.1, .float .f64 0, .string x.2.2, .slice none 0 0] ++ leafVs r := rfl
    rw [e, List.length_append, leafVs_len r, List.length_cons]
    simp
    omega
theorem leafVs_at : ∀ (L : List Leaf) (i : Nat) (h : i < L.length), (leafVs L)[i * 5]? = some (.int .i64 L[i].1) ∧ (leafVs L)[i * 5 + 1]? = some (.int .i64 L[i].2.1) ∧ (leafVs L)[i * 5 + 2]? = some (.float .f64 0) ∧ (leafVs L)[i * 5 + 3]? = some (.string L[i].2.2) ∧ (leafVs L)[i * 5 + 4]? = some (.slice none 0 0)
  | x :: r, 0, _ => ⟨rfl, rfl, rfl, rfl, rfl⟩
  | x :: r, i + 1, h => by
    obtain ⟨h0, h1, h2, h3, h4⟩ := leafVs_at r i (by simpa using h)
    have e : leafVs (x :: r) = [.int .i64 x.1, .int .i64 x.2.1, .float .f64 0, .string x.2.2, .slice none 0 0] ++ leafVs r := rfl
    have sh : ∀ j, (leafVs (x :: r))[(i + 1) * 5 + j]? = (leafVs r)[i * 5 + j]? := fun j => by
      rw [e, List.getElem?_append_right (by simp; omega)]
      congr 1
      simp
      omega
    have s0 := sh 0; have s1 := sh 1; have s2 := sh 2; have s3 := sh 3; have s4 := sh 4
    simp only [Nat.add_zero] at s0
    rw [s0, s1, s2, s3, s4]
    simp only [List.getElem_cons_succ]
    exact ⟨h0, h1, h2, h3, h4⟩
theorem of_lit (W0 w : World) (L : List Leaf) (cs : Array Value) (hcs : cs = (leafVs L).toArray) (hL : L.length ≤ 100) (hs : W0.heap.size ≤ w.heap.size) : OwF W0 (w.alloc (.cells cs 27)) (some ⟨w.heap.size, 0, none⟩) L.length L.length L := by
  subst hcs
  refine ⟨leafVs L, ?_, rfl, leafVs_at L⟩
  have h := World.ownsRow_lit (base := W0.heap.size) (e := 27) (size := 5) w (leafVs L).toArray L.length hs (by unfold maxLen; omega) (by rw [List.size_toArray, leafVs_len])
  exact h
theorem of_grown {W0 w w' : World} {p : Option Addr} {l c : Nat} {L : List Leaf} {row : Option Nat} (h : OwF W0 w p l c L) (hg : w.grownBy w' row) (hne : (Value.slice p l c).ownBlock = none ∨ (Value.slice p l c).ownBlock ≠ row) : OwF W0 w' p l c L := by
  obtain ⟨XS, h1, h2, h3⟩ := h
  exact ⟨XS, h1.kept hg hne, h2, h3⟩
theorem of_keep {W0 w w' : World} {p : Option Addr} {l c : Nat} {L : List Leaf} (h : OwF W0 w p l c L) (hb : Below w.heap.size w w') : OwF W0 w' p l c L := by
  refine of_grown h (bel_own hb none) ?_
  cases Value.ownBlock (.slice p l c) with
  | none => exact Or.inl rfl
  | some k => exact Or.inr (by simp)
theorem of_store {W0 w : World} {p : Option Addr} {l c : Nat} {L : List Leaf} (h : OwF W0 w p l c L) {B o : Nat} (hB : (Value.slice p l c).ownBlock ≠ some B) (v : Value) : OwF W0 (w.setCell ⟨B, o, none⟩ v) p l c L := by
  refine of_grown (row := some B) h ⟨rfl, rfl, rfl, ?_, fun k hk hne => ?_⟩ (Or.inr hB)
  · simp [World.setCell]
  · exact Below.heap_setCell _ _ _ _ (fun e => hne (by rw [e]))
theorem of_ge {W0 w : World} {p : Option Addr} {l c : Nat} {L : List Leaf} (h : OwF W0 w p l c L) : ∀ k, (Value.slice p l c).ownBlock = some k → W0.heap.size ≤ k := by
  obtain ⟨XS, h1, _⟩ := h
  exact fun k hk => (h1.lt k hk).1
theorem own_no {w : World} {v v' : Value} {B : Nat} (h : v.ownBlock ≠ some B) (hlt : B < w.heap.size) (hw : v'.ownBlock = v.ownBlock ∨ ∃ g, v'.ownBlock = some g ∧ w.heap.size ≤ g) : v'.ownBlock ≠ some B := by
  rcases hw with e | ⟨g, e, hg⟩
  · rw [e]; exact h
  · rw [e]; intro e'; injection e' with e'; omega
section
variable {ops : Array Oper} {o : Oper} {a : Act} {K : Act → World → Prop} {Q : Exit → Act → World → Prop} {E : Prop}
/-- An Int behind an owned list, at a step of a region. -/
theorem step_of (hgd : o.guard = none) (s x : Operand) (ho : o.op = .call { callee := .builtin .append, args := #[s, x], argTypes := #[25, 25] })
    (W0 w : World) (p : Option Addr) (l c : Nat) (L : List Leaf) (st : Int) (hs : a.eval s = .slice p l c) (hx : a.eval x = .slice (some ⟨w.heap.size, 0, none⟩) 1 1) (hb : OwF W0 w p l c L) (hsz : W0.heap.size ≤ w.heap.size) (hl : l ≤ 1000)
    (h : ∀ p' c' w', OwF W0 w' p' (l + 1) c' (L ++ [(1, st, ⟨#[]⟩)]) → w.grownBy w' (Value.slice p l c).ownBlock → ((Value.slice p' (l + 1) c').ownBlock = (Value.slice p l c).ownBlock ∨ ∃ g, (Value.slice p' (l + 1) c').ownBlock = some g ∧ w.heap.size ≤ g) → K (a.put o.dst (.slice p' (l + 1) c')) w') :
    if Region.wanted o (yielded ops a.tmps) = true then Oper.wp Try.prog o a (w.alloc (.cells #[.int .i64 1, .int .i64 st, .float .f64 0, .string ⟨#[]⟩, .slice none 0 0] 27)) K Q else E := by
  have hw : Region.wanted o (yielded ops a.tmps) = true := by simp [Region.wanted, hgd]
  rw [if_pos hw]
  obtain ⟨i0, hi, hz0, hz1, hz2⟩ := info_parts info_v5
  have hsz1 : (w.alloc (.cells #[.int .i64 1, .int .i64 st, .float .f64 0, .string ⟨#[]⟩, .slice none 0 0] 27)).heap.size = w.heap.size + 1 := World.size_alloc _ _
  obtain ⟨XS, h1, h2, h3⟩ := hb
  have h1' := h1.alloc (.cells #[.int .i64 1, .int .i64 st, .float .f64 0, .string ⟨#[]⟩, .slice none 0 0] 27)
  have hnews : ∀ j u, [Value.int .i64 1, .int .i64 st, .float .f64 0, .string ⟨#[]⟩, .slice none 0 0][j]? = some u → (w.alloc (.cells #[.int .i64 1, .int .i64 st, .float .f64 0, .string ⟨#[]⟩, .slice none 0 0] 27)).cell? ((⟨w.heap.size, 0, none⟩ : Addr).add j) = some u := by
    intro j u hj
    rw [Addr.add_lit, Nat.zero_add, row_cell (row_alloc w _ 27) j, List.getElem?_toArray]
    exact hj
  have hone : ∀ u ∈ [Value.int .i64 1, .int .i64 st, .float .f64 0, .string ⟨#[]⟩, .slice none 0 0], u.oneCell' = true := by
    intro u hu
    simp only [List.mem_cons, List.not_mem_nil, or_false] at hu
    rcases hu with rfl | rfl | rfl | rfl | rfl <;> rfl
  obtain ⟨v', w', hr, r2, r3, r4, r5⟩ := run_append_own_at (P := Try.prog) _ W0.heap.size 25 o.type 27 i0 _ 5 64 Try.underlying25 hi hz0 hz1 hz2 rfl (by decide) (.slice p l c) l XS h1' ⟨w.heap.size, 0, none⟩ 1 1 _ rfl hnews hone (by unfold maxLen; omega) (by omega) (by omega)
  have hpc : ∃ p' c', v' = .slice p' (l + 1) c' := by
    rcases r2.2 with ⟨rfl, hn⟩ | ⟨g, cap, cur, rfl, _⟩
    · exact absurd hn (by omega)
    · exact ⟨_, _, rfl⟩
  obtain ⟨p', c', rfl⟩ := hpc
  unfold Oper.wp execOp
  simp only [ho, resolve, invoke, builtin, Sem.run_bind, Sem.run_pure, Result.andThen_ok, List.map_toArray, List.map_cons, List.map_nil, hs, hx, hr]
  refine h p' c' w' ⟨XS ++ [.int .i64 1, .int .i64 st, .float .f64 0, .string ⟨#[]⟩, .slice none 0 0], r2, by rw [List.length_append, h2]; rfl, fun i hi => ?_⟩ ⟨r3.os, r3.tape, r3.output, by have := r3.size; omega, fun k hk hne => ?_⟩ ?_
  · have hlen := h1.1
    by_cases hlt : i < L.length
    · obtain ⟨c0, c1, c2, c3, c4⟩ := h3 i hlt
      have hlt5 : i * 5 + 5 ≤ XS.length := by omega
      rw [List.getElem_append_left hlt]
      exact ⟨by rw [List.getElem?_append_left (by omega)]; exact c0, by rw [List.getElem?_append_left (by omega)]; exact c1, by rw [List.getElem?_append_left (by omega)]; exact c2, by rw [List.getElem?_append_left (by omega)]; exact c3, by rw [List.getElem?_append_left (by omega)]; exact c4⟩
    · have hie : i = l := by rw [List.length_append, h2] at hi; simp at hi; omega
      subst hie
      have e := five_at hlen (.int .i64 1) (.int .i64 st) (.float .f64 0) (.string ⟨#[]⟩) (.slice none 0 0)
      rw [List.getElem_append_right (by omega)]
      simp only [h2, Nat.sub_self, List.getElem_cons_zero]
      exact ⟨by have := e 0; simpa using this, by rw [e 1]; rfl, by rw [e 2]; rfl, by rw [e 3]; rfl, by rw [e 4]; rfl⟩
  · rw [r3.block k (by omega) hne]
    exact Below.heap_alloc _ _ _ hk
  · rcases r5 with e | e
    · exact Or.inl e
    · exact Or.inr ⟨_, e, by omega⟩
end
def listT (L : List Leaf) : VT 2 := (4, 0, 0, ⟨#[]⟩, L.map (leafT 0))
def GoodF (L : List Leaf) : Prop := ∀ x ∈ L, okI x.1 ∧ okI x.2.1 ∧ x.2.2.size ≤ maxLen
theorem k0 : okI 0 := by unfold okI; constructor <;> decide
theorem k4 : okI 4 := by unfold okI; constructor <;> decide
/-- A list value over an owned list of leaves. -/
theorem of_repC {W0 w : World} {p : Option Addr} {l c : Nat} {L : List Leaf} (h : OwF W0 w p l c L) (hg : GoodF L) (S : Nat → Prop) (hS : ∀ b, (Value.slice p l c).ownBlock = some b → S b) :
    RepC w 2 S (.agg #[.int .i64 4, .int .i64 0, .float .f64 0, .string ⟨#[]⟩, .slice p l c]) (listT L) := by
  obtain ⟨XS, h1, h2, h3⟩ := h
  have hcells := fun g (hg : (Value.slice p l c).ownBlock = some g) => h1.cells hg
  refine ⟨p, l, c, rfl, k4, k0, (show (0 : Nat) < 2 ^ 64 by decide), (show (⟨#[]⟩ : ByteArray).size ≤ maxLen by unfold maxLen; decide), ?_⟩
  rcases h1.2 with ⟨hv, h0⟩ | ⟨g, cap, cur, hv, _, hcur, hle, hm, _⟩
  · injection hv with e1 e2 e3
    subst e1 e2 e3
    exact ⟨by show (L.map _).length = 0; rw [List.length_map]; exact h2, Nat.le_refl _, Nat.zero_le _, fun h => absurd h (Nat.lt_irrefl _)⟩
  · injection hv with e1 e2 e3
    subst e1 e3
    refine ⟨by show (L.map _).length = l; rw [List.length_map]; exact h2, hle, hm, fun _ => ⟨g, 0, rfl, hS g rfl, ⟨cur, hcur⟩, fun _ => 0, fun i hi => ?_⟩⟩
    have hi' : i < L.length := by have : i < (L.map (leafT 0)).length := hi; rwa [List.length_map] at this
    obtain ⟨c0, c1, c2, c3, c4⟩ := h3 i hi'
    have hc := hcells g rfl
    have q0 := hc _ _ c0; have q1 := hc _ _ c1; have q2 := hc _ _ c2; have q3 := hc _ _ c3; have q4 := hc _ _ c4
    simp only [Addr.add_lit, Nat.zero_add] at q0 q1 q2 q3 q4
    obtain ⟨g1, g2, g3⟩ := hg _ (List.getElem_mem hi')
    refine ⟨_, _, _, _, _, by rw [Nat.zero_add]; exact q0, by rw [Nat.zero_add]; exact q1, by rw [Nat.zero_add]; exact q2, by rw [Nat.zero_add]; exact q3, by rw [Nat.zero_add]; exact q4, ?_⟩
    show RepC w 1 _ _ ((L.map (leafT 0))[i]'(by rw [List.length_map]; exact hi'))
    rw [List.getElem_map]
    exact ⟨none, 0, 0, rfl, g1, g2, (show (0 : Nat) < 2 ^ 64 by decide), g3, rfl, Nat.le_refl _, Nat.zero_le _, fun h => absurd h (Nat.lt_irrefl _)⟩
/-- What an owned list leads to, once an item has been stored over. -/
theorem ol_store {W0 w w' : World} {n : Nat} {g l c : Nat} {L : List (VT n)} (h : OwL W0 w n (some ⟨g, 0, none⟩) l c L) (i : Nat) (hi : i < l) (u0 u1 u2 u3 u4 : Value) (T : VT n) (hT : Rep w' n (.agg #[u0, u1, u2, u3, u4]) T)
    (hb : ∀ b, b < w.heap.size → b ≠ g → w'.heap[b]? = w.heap[b]?) (h0 : w'.cell? ⟨g, i * 5, none⟩ = some u0) (h1 : w'.cell? ⟨g, i * 5 + 1, none⟩ = some u1) (h2 : w'.cell? ⟨g, i * 5 + 2, none⟩ = some u2) (h3 : w'.cell? ⟨g, i * 5 + 3, none⟩ = some u3) (h4 : w'.cell? ⟨g, i * 5 + 4, none⟩ = some u4)
    (ho : ∀ o, o < i * 5 ∨ i * 5 + 5 ≤ o → w'.cell? ⟨g, o, none⟩ = w.cell? ⟨g, o, none⟩) : RepL w' (Rep w' n) (some ⟨g, 0, none⟩) l c (L.set i T) := by
  obtain ⟨hl, hlc, hcm, hel⟩ := ol_rep h
  refine ⟨by rw [List.length_set]; exact hl, hlc, hcm, fun hl0 => ?_⟩
  obtain ⟨b, off, hp, _, _, gf, hi'⟩ := hel hl0
  cases hp
  refine ⟨g, 0, rfl, fun j hj => ?_⟩
  rw [List.length_set] at hj
  by_cases hij : j = i
  · subst hij
    refine ⟨u0, u1, u2, u3, u4, by rw [Nat.zero_add]; exact h0, by rw [Nat.zero_add]; exact h1, by rw [Nat.zero_add]; exact h2, by rw [Nat.zero_add]; exact h3, by rw [Nat.zero_add]; exact h4, ?_⟩
    rw [List.getElem_set_self]
    exact hT
  · obtain ⟨v0, v1, v2, v3, v4, c0, c1, c2, c3, c4, hr⟩ := hi' j hj
    have hne : ∀ t, t < 5 → j * 5 + t < i * 5 ∨ i * 5 + 5 ≤ j * 5 + t := fun t ht => by omega
    rw [Nat.zero_add] at c0 c1 c2 c3 c4
    refine ⟨v0, v1, v2, v3, v4, by rw [Nat.zero_add]; exact (ho _ (hne 0 (by omega))).trans c0, by rw [Nat.zero_add]; exact (ho _ (hne 1 (by omega))).trans c1, by rw [Nat.zero_add]; exact (ho _ (hne 2 (by omega))).trans c2, by rw [Nat.zero_add]; exact (ho _ (hne 3 (by omega))).trans c3, by rw [Nat.zero_add]; exact (ho _ (hne 4 (by omega))).trans c4, ?_⟩
    rw [List.getElem_set_ne (fun e => hij e.symm)]
    exact repC_rep n _ _ _ (repC_keep n _ _ _ (fun b hb' => hb b hb'.2 hb'.1.2.1) (repC_lt n _ _ _ hr))
end Num
end Go.Proofs.Ytpbfaffheigjcaa
