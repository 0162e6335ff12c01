/-
  Values that a call makes: where they lie: each list in a block of its own, which bears no mark; a list of them that the call appends to.
-/
import Derived.Test.YtbfnghbfilahnaaVTree
import Derived.Test.YtbfnghbfilahnaaOB
namespace Go.Proofs.Ytbfnghbfilahnaa
open Go.RowKit
namespace Num
open Ints
set_option linter.unusedSimpArgs false
set_option linter.unusedVariables false
/-- A block of cells that bears no mark. -/
def Pln (w : World) (b : Nat) : Prop := ∃ cur, w.heap[b]? = some (.cells cur 39 (0, 0))
/-- A slice of values leads to these; its block is in S, what the items lead to lies elsewhere in S, no two in one block. -/
def RepLS {α : Type} (S : Nat → Prop) (w : World) (R : (Nat → Prop) → Value → α → Prop) (p : Option Addr) (l c : Nat) (L : List α) : Prop :=
  L.length = l ∧ l ≤ c ∧ c ≤ maxLen ∧ (0 < l → ∃ b off, p = some ⟨b, off, none⟩ ∧ S b ∧ Pln w b ∧ ∃ g : Nat → Nat, ∀ i (h : i < L.length), ∃ v0 v1 v2 v3 v4,
    w.cell? ⟨b, off + i * 5, none⟩ = some v0 ∧ w.cell? ⟨b, off + i * 5 + 1, none⟩ = some v1 ∧ w.cell? ⟨b, off + i * 5 + 2, none⟩ = some v2 ∧
    w.cell? ⟨b, off + i * 5 + 3, none⟩ = some v3 ∧ w.cell? ⟨b, off + i * 5 + 4, none⟩ = some v4 ∧ R (fun x => S x ∧ x ≠ b ∧ g x = i) (.agg #[v0, v1, v2, v3, v4]) L[i])
def RepC (w : World) : (n : Nat) → (Nat → Prop) → Value → VT n → Prop
  | 0, _, _, _ => False
  | n + 1, S, v, T => ∃ (p : Option Addr) (l c : Nat), v = .agg #[.int .i64 T.1, .int .i64 T.2.1, .float .f64 T.2.2.1, .string T.2.2.2.1, .slice p l c] ∧
      okI T.1 ∧ okI T.2.1 ∧ T.2.2.1 < 2 ^ 64 ∧ T.2.2.2.1.size ≤ maxLen ∧ RepLS S w (RepC w n) p l c T.2.2.2.2
/-- As Rep, all its blocks in S, no two lists in one. -/
@[reducible] def RepS (S : Nat → Prop) (w : World) (n : Nat) (v : Value) (T : VT n) : Prop := RepC w n S v T
theorem repLS_monoR {α : Type} {S S' : Nat → Prop} {w : World} {R R' : (Nat → Prop) → Value → α → Prop} (hS : ∀ b, S b → S' b) (hR : ∀ (s s' : Nat → Prop) v x, (∀ b, s b → s' b) → R s v x → R' s' v x) {p : Option Addr} {l c : Nat} {L : List α} (h : RepLS S w R p l c L) : RepLS S' w R' p l c L := by
  obtain ⟨h1, h2, h3, h4⟩ := h
  refine ⟨h1, h2, h3, fun hl => ?_⟩
  obtain ⟨b, off, hp, hSb, hpl, g, hi⟩ := h4 hl
  refine ⟨b, off, hp, hS b hSb, hpl, g, fun i hi' => ?_⟩
  obtain ⟨v0, v1, v2, v3, v4, c0, c1, c2, c3, c4, hr⟩ := hi i hi'
  exact ⟨v0, v1, v2, v3, v4, c0, c1, c2, c3, c4, hR _ _ _ _ (fun x ⟨k1, k2, k3⟩ => ⟨hS x k1, k2, k3⟩) hr⟩
theorem repC_mono {w : World} : ∀ (n : Nat) (S S' : Nat → Prop) (v : Value) (T : VT n), (∀ b, S b → S' b) → RepC w n S v T → RepC w n S' v T := by
  intro n
  induction n with
  | zero => intro S S' v T hS h; exact h.elim
  | succ n ih =>
    intro S S' v T hS h
    obtain ⟨p, l, c, hv, h1, h2, h3, h4, h5⟩ := h
    exact ⟨p, l, c, hv, h1, h2, h3, h4, repLS_monoR hS (fun s s' v x hs hr => ih s s' v x hs hr) h5⟩
theorem repS_mono {S S' : Nat → Prop} (hS : ∀ b, S b → S' b) {w : World} (n : Nat) (v : Value) (T : VT n) (h : RepS S w n v T) : RepS S' w n v T := repC_mono n S S' v T hS h
theorem repL_mono {α : Type} {w : World} {R R' : Value → α → Prop} (hR : ∀ v x, R v x → R' v x) {p : Option Addr} {l c : Nat} {L : List α} (h : RepL w R p l c L) : RepL w R' p l c L := by
  obtain ⟨h1, h2, h3, h4⟩ := h
  refine ⟨h1, h2, h3, fun hl => ?_⟩
  obtain ⟨b, off, hp, hi⟩ := h4 hl
  refine ⟨b, off, hp, fun i hi' => ?_⟩
  obtain ⟨v0, v1, v2, v3, v4, c0, c1, c2, c3, c4, hr⟩ := hi i hi'
  exact ⟨v0, v1, v2, v3, v4, c0, c1, c2, c3, c4, hR _ _ hr⟩
theorem repLS_repR {α : Type} {S : Nat → Prop} {w : World} {R : (Nat → Prop) → Value → α → Prop} {R' : Value → α → Prop} (hR : ∀ s v x, R s v x → R' v x) {p : Option Addr} {l c : Nat} {L : List α} (h : RepLS S w R p l c L) : RepL w R' p l c L := by
  obtain ⟨h1, h2, h3, h4⟩ := h
  refine ⟨h1, h2, h3, fun hl => ?_⟩
  obtain ⟨b, off, hp, _, _, g, hi⟩ := h4 hl
  refine ⟨b, off, hp, fun i hi' => ?_⟩
  obtain ⟨v0, v1, v2, v3, v4, c0, c1, c2, c3, c4, hr⟩ := hi i hi'
  exact ⟨v0, v1, v2, v3, v4, c0, c1, c2, c3, c4, hR _ _ _ hr⟩
theorem repC_rep {w : World} : ∀ (n : Nat) (S : Nat → Prop) (v : Value) (T : VT n), RepC w n S v T → Rep w n v T := by
  intro n
  induction n with
  | zero => intro S v T h; exact h.elim
  | succ n ih =>
    intro S v T h
    obtain ⟨p, l, c, hv, h1, h2, h3, h4, h5⟩ := h
    exact ⟨p, l, c, hv, h1, h2, h3, h4, repLS_repR ih h5⟩
theorem repS_rep {S : Nat → Prop} {w : World} (n : Nat) (v : Value) (T : VT n) (h : RepS S w n v T) : Rep w n v T := repC_rep n S v T h
theorem repLS_rep {S : Nat → Prop} {w : World} {n : Nat} {p : Option Addr} {l c : Nat} {L : List (VT n)} (h : RepLS S w (RepC w n) p l c L) : RepL w (Rep w n) p l c L := repLS_repR (repC_rep n) h
theorem cell_block {w w' : World} {b o : Nat} {v : Value} (he : w'.heap[b]? = w.heap[b]?) (h : w.cell? ⟨b, o, none⟩ = some v) : w'.cell? ⟨b, o, none⟩ = some v := by
  rw [World.cell?_of_block he]; exact h
theorem repLS_keepR {α : Type} {S : Nat → Prop} {w w' : World} (hk : ∀ b, S b → w'.heap[b]? = w.heap[b]?) {R R' : (Nat → Prop) → Value → α → Prop} (hR : ∀ (s : Nat → Prop) v x, (∀ b, s b → S b) → R s v x → R' s v x) {p : Option Addr} {l c : Nat} {L : List α} (h : RepLS S w R p l c L) : RepLS S w' R' p l c L := by
  obtain ⟨h1, h2, h3, h4⟩ := h
  refine ⟨h1, h2, h3, fun hl => ?_⟩
  obtain ⟨b, off, hp, hSb, ⟨cur, hpl⟩, g, hi⟩ := h4 hl
  have he := hk b hSb
  refine ⟨b, off, hp, hSb, ⟨cur, he.trans hpl⟩, g, fun i hi' => ?_⟩
  obtain ⟨v0, v1, v2, v3, v4, c0, c1, c2, c3, c4, hr⟩ := hi i hi'
  exact ⟨v0, v1, v2, v3, v4, cell_block he c0, cell_block he c1, cell_block he c2, cell_block he c3, cell_block he c4, hR _ _ _ (fun x h => h.1) hr⟩
theorem repC_keep {w w' : World} : ∀ (n : Nat) (S : Nat → Prop) (v : Value) (T : VT n), (∀ b, S b → w'.heap[b]? = w.heap[b]?) → RepC w n S v T → RepC w' n S v T := by
  intro n
  induction n with
  | zero => intro S v T hk h; exact h.elim
  | succ n ih =>
    intro S v T hk h
    obtain ⟨p, l, c, hv, h1, h2, h3, h4, h5⟩ := h
    exact ⟨p, l, c, hv, h1, h2, h3, h4, repLS_keepR hk (fun s v x hs hr => ih s v x (fun b hb => hk b (hs b hb)) hr) h5⟩
theorem repS_keep {S : Nat → Prop} {w w' : World} (hk : ∀ b, S b → w'.heap[b]? = w.heap[b]?) (n : Nat) (v : Value) (T : VT n) (h : RepS S w n v T) : RepS S w' n v T := repC_keep n S v T hk h
theorem repLS_keep {S : Nat → Prop} {w w' : World} {n : Nat} (hk : ∀ b, S b → w'.heap[b]? = w.heap[b]?) {p : Option Addr} {l c : Nat} {L : List (VT n)} (h : RepLS S w (RepC w n) p l c L) : RepLS S w' (RepC w' n) p l c L :=
  repLS_keepR hk (fun s v x hs hr => repC_keep n s v x (fun b hb => hk b (hs b hb)) hr) h
theorem repLS_mono {S S' : Nat → Prop} {w : World} {n : Nat} (hS : ∀ b, S b → S' b) {p : Option Addr} {l c : Nat} {L : List (VT n)} (h : RepLS S w (RepC w n) p l c L) : RepLS S' w (RepC w n) p l c L :=
  repLS_monoR hS (fun s s' v x hs hr => repC_mono n s s' v x hs hr) h
theorem repC_lt {w : World} : ∀ (n : Nat) (S : Nat → Prop) (v : Value) (T : VT n), RepC w n S v T → RepC w n (fun b => S b ∧ b < w.heap.size) v T := by
  intro n
  induction n with
  | zero => intro S v T h; exact h.elim
  | succ n ih =>
    intro S v T h
    obtain ⟨p, l, c, hv, h1, h2, h3, h4, k1, k2, k3, k4⟩ := h
    refine ⟨p, l, c, hv, h1, h2, h3, h4, k1, k2, k3, fun hl => ?_⟩
    obtain ⟨b, off, hp, hSb, ⟨cur, hpl⟩, g, hi⟩ := k4 hl
    refine ⟨b, off, hp, ⟨hSb, row_lt hpl⟩, ⟨cur, hpl⟩, g, fun i hi' => ?_⟩
    obtain ⟨v0, v1, v2, v3, v4, c0, c1, c2, c3, c4, hr⟩ := hi i hi'
    exact ⟨v0, v1, v2, v3, v4, c0, c1, c2, c3, c4, repC_mono n _ _ _ _ (fun x ⟨⟨m1, m2, m3⟩, m4⟩ => ⟨⟨m1, m4⟩, m2, m3⟩) (ih _ _ _ hr)⟩
theorem repS_lt {S : Nat → Prop} {w : World} (n : Nat) (v : Value) (T : VT n) (h : RepS S w n v T) : RepS (fun b => S b ∧ b < w.heap.size) w n v T := repC_lt n S v T h
theorem repS_shape {S : Nat → Prop} {w : World} {n : Nat} {v : Value} {T : VT n} (h : RepS S w n v T) : ∃ (K I : Int) (F : Nat) (Z : ByteArray) (p : Option Addr) (l c : Nat), v = .agg #[.int .i64 K, .int .i64 I, .float .f64 F, .string Z, .slice p l c] ∧ okI I := by
  cases n with
  | zero => exact h.elim
  | succ n => obtain ⟨p, l, c, rfl, _, h2, _⟩ := h; exact ⟨_, _, _, _, _, _, _, rfl, h2⟩
/-- The blocks that a call has made since W0, but for the own one. -/
def Fr (W0 w : World) (v : Value) : Nat → Prop := fun b => W0.heap.size ≤ b ∧ b < w.heap.size ∧ v.ownBlock ≠ some b
/-- A list of values that the call has made and appends to; what they lead to was made ahead of block M. -/
def OwM (M : Nat) (W0 w : World) (n : Nat) (p : Option Addr) (l c : Nat) (L : List (VT n)) : Prop := ∃ XS : List Value, w.ownsRow W0.heap.size 39 5 (.slice p l c) l XS ∧ L.length = l ∧ Below W0.heap.size W0 w ∧ W0.heap.size ≤ w.heap.size ∧ M ≤ w.heap.size ∧
  ∃ g : Nat → Nat, ∀ i (h : i < L.length), ∃ v0 v1 v2 v3 v4, XS[i * 5]? = some v0 ∧ XS[i * 5 + 1]? = some v1 ∧ XS[i * 5 + 2]? = some v2 ∧ XS[i * 5 + 3]? = some v3 ∧ XS[i * 5 + 4]? = some v4 ∧ RepC w n (fun b => Fr W0 w (.slice p l c) b ∧ b < M ∧ g b = i) (.agg #[v0, v1, v2, v3, v4]) L[i]
def OwL (W0 w : World) (n : Nat) (p : Option Addr) (l c : Nat) (L : List (VT n)) : Prop := OwM w.heap.size W0 w n p l c L
theorem ol_nil (W0 w : World) (n : Nat) (hb : Below W0.heap.size W0 w) (hs : W0.heap.size ≤ w.heap.size) : OwL W0 w n none 0 0 [] := ⟨[], World.ownsRow_nil _ _ _ _, rfl, hb, hs, Nat.le_refl _, fun _ => 0, fun i h => absurd h (Nat.not_lt_zero _)⟩
theorem om_keep {M : Nat} {W0 w w' : World} {n : Nat} {p : Option Addr} {l c : Nat} {L : List (VT n)} (h : OwM M W0 w n p l c L) (hb : Below w.heap.size w w') : OwM M W0 w' n p l c L := by
  obtain ⟨XS, h1, h2, h3, h4, hM, g, h5⟩ := h
  refine ⟨XS, h1.kept (bel_own hb none) ?_, h2, h3.trans (hb.mono h4), Nat.le_trans h4 hb.size, Nat.le_trans hM hb.size, g, fun i hi => ?_⟩
  · cases Value.ownBlock (.slice p l c) with
    | none => exact Or.inl rfl
    | some k => exact Or.inr (by simp)
  · obtain ⟨v0, v1, v2, v3, v4, c0, c1, c2, c3, c4, hr⟩ := h5 i hi
    refine ⟨v0, v1, v2, v3, v4, c0, c1, c2, c3, c4, repC_mono n _ _ _ _ (fun b hb' => ⟨⟨hb'.1.1, Nat.lt_of_lt_of_le hb'.1.2.1 hb.size, hb'.1.2.2⟩, hb'.2⟩) (repC_keep n _ _ _ (fun b hb' => hb.block b hb'.1.2.1) hr)⟩
theorem ol_lt {W0 w : World} {n : Nat} {p : Option Addr} {l c : Nat} {L : List (VT n)} (h : OwL W0 w n p l c L) : ∀ k, (Value.slice p l c).ownBlock = some k → W0.heap.size ≤ k ∧ k < w.heap.size := by
  obtain ⟨XS, h1, _⟩ := h
  exact fun k hk => h1.lt k hk
/-- What the list reads as, behind the call. -/
theorem ol_rep {W0 w : World} {n : Nat} {p : Option Addr} {l c : Nat} {L : List (VT n)} (h : OwL W0 w n p l c L) : RepLS (fun b => W0.heap.size ≤ b) w (RepC w n) p l c L := by
  obtain ⟨XS, h1, h2, h3, h4, hM, gf, h5⟩ := h
  have hlt := h1.lt
  have hcells := fun g (hg : (Value.slice p l c).ownBlock = some g) => h1.cells hg
  rcases h1.2 with ⟨hv, h0⟩ | ⟨g, cap, cur, hv, _, hcur, hle, hm, _⟩
  · injection hv with e1 e2 e3
    subst e1 e2 e3
    exact ⟨h2, Nat.le_refl _, Nat.zero_le _, fun h => absurd h (Nat.lt_irrefl _)⟩
  · injection hv with e1 e2 e3
    subst e1 e3
    refine ⟨h2, hle, hm, fun _ => ⟨g, 0, rfl, (hlt g rfl).1, ⟨cur, hcur⟩, gf, fun i hi => ?_⟩⟩
    obtain ⟨v0, v1, v2, v3, v4, c0, c1, c2, c3, c4, hr⟩ := h5 i hi
    have hc := hcells g rfl
    have k0 := hc _ _ c0; have k1 := hc _ _ c1; have k2 := hc _ _ c2; have k3 := hc _ _ c3; have k4 := hc _ _ c4
    rw [Addr.add_lit] at k0 k1 k2 k3 k4
    exact ⟨v0, v1, v2, v3, v4, k0, k1, k2, k3, k4, repC_mono n _ _ _ _ (fun b hb => ⟨hb.1.1, fun e => hb.1.2.2 (by rw [e]; rfl), hb.2.2⟩) hr⟩
theorem info_v5 : (Try.prog.info? 39).map (fun i => (i.zero, i.size, i.bytes)) = some (some (.agg #[.int .i64 0, .int .i64 0, .float .f64 0, .string ⟨#[]⟩, .slice none 0 0]), 5, 64) := by kernel_rfl
theorem five_at {XS : List Value} {l : Nat} (hl : XS.length = l * 5) (u0 u1 u2 u3 u4 : Value) (j : Nat) : (XS ++ [u0, u1, u2, u3, u4])[l * 5 + j]? = [u0, u1, u2, u3, u4][j]? := by
  rw [List.getElem?_append_right (by omega), hl, Nat.add_sub_cancel_left]
section
variable {ops : Array Oper} {rest : List Oper} {o : Oper} {a : Act} {Q : Exit → Act → World → Prop}
/-- A value behind an owned list. -/
theorem wp_ov1 (hgd : o.guard = none) (s x : Operand) (ho : o.op = .call { callee := .builtin .append, args := #[s, x], argTypes := #[31, 31] })
    (M : Nat) (W0 w : World) (n : Nat) (p : Option Addr) (l c : Nat) (L : List (VT n)) (u0 u1 u2 u3 u4 : Value) (T : VT n) (hs : a.eval s = .slice p l c) (hx : a.eval x = .slice (some ⟨w.heap.size, 0, none⟩) 1 1) (hb : OwM M W0 w n p l c L) (hl : l ≤ 1000000)
    (hT : RepC w n (fun b => Fr W0 w (.slice p l c) b ∧ M ≤ b) (.agg #[u0, u1, u2, u3, u4]) T)
    (h : ∀ p' c' w', OwL W0 w' n p' (l + 1) c' (L ++ [T]) → wpList Try.prog ops Q rest (a.put o.dst (.slice p' (l + 1) c')) w') : wpList Try.prog ops Q (o :: rest) a (w.alloc (.cells #[u0, u1, u2, u3, u4] 39)) := by
  obtain ⟨i0, hi, hz0, hz1, hz2⟩ := info_parts info_v5
  have hb' := om_keep hb ((Below.refl w.heap.size w).alloc (Nat.le_refl _) (.cells #[u0, u1, u2, u3, u4] 39))
  obtain ⟨XS, h1, h2, h3, h4, hM, g, h5⟩ := hb'
  have hone : ∀ u ∈ [u0, u1, u2, u3, u4], u.oneCell' = true := by
    cases n with
    | zero => exact hT.elim
    | succ n =>
      obtain ⟨q, m, d, e, _⟩ := hT
      injection e with e
      have e' := congrArg Array.toList e
      simp only [List.cons.injEq] at e'
      obtain ⟨rfl, rfl, rfl, rfl, rfl, _⟩ := e'
      intro u hu
      simp only [List.mem_cons, List.not_mem_nil, or_false] at hu
      rcases hu with rfl | rfl | rfl | rfl | rfl <;> rfl
  refine wpList_append_own_at _ hgd s x 31 ho W0.heap.size 39 i0 _ 5 64 Try.underlying31 hi hz0 hz1 hz2 rfl (by decide) (.slice p l c) l XS hs h1 ⟨w.heap.size, 0, none⟩ 1 1 [u0, u1, u2, u3, u4] hx rfl ?_ hone (by unfold maxLen; omega) (by omega) h4 ?_
  · intro j u hj
    rw [Addr.add_lit, Nat.zero_add, row_cell (row_alloc w #[u0, u1, u2, u3, u4] 39) j, List.getElem?_toArray]
    exact hj
  · intro v' w' hown hg _ hown'
    have hsz : (w.alloc (.cells #[u0, u1, u2, u3, u4] 39)).heap.size = w.heap.size + 1 := World.size_alloc _ _
    have hgs := hg.size
    have hpc : ∃ p' c', v' = .slice p' (l + 1) c' := by
      rcases hown.2 with ⟨rfl, hn⟩ | ⟨g, cap, cur, rfl, _⟩
      · exact absurd hn (by omega)
      · exact ⟨_, _, rfl⟩
    obtain ⟨p', c', rfl⟩ := hpc
    have hlen := h1.1
    have hfr' : ∀ b, Fr W0 (w.alloc (.cells #[u0, u1, u2, u3, u4] 39)) (.slice p l c) b → Fr W0 w' (.slice p' (l + 1) c') b ∧ w'.heap[b]? = (w.alloc (.cells #[u0, u1, u2, u3, u4] 39)).heap[b]? := by
      intro b ⟨k1, k2, k3⟩
      refine ⟨⟨k1, by omega, ?_⟩, hg.block b k2 (fun e => k3 e.symm)⟩
      rcases hown' with e | e
      · rw [e]; exact k3
      · rw [e]; intro e'; injection e' with e'; omega
    have hT' := repC_mono n _ (fun b => Fr W0 (w.alloc (.cells #[u0, u1, u2, u3, u4] 39)) (.slice p l c) b ∧ M ≤ b) _ _ (fun b hb' => ⟨⟨hb'.1.1, by have := hb'.1.2.1; omega, hb'.1.2.2⟩, hb'.2⟩) (repC_keep n _ _ _ (fun b hb' => Below.heap_alloc w (.cells #[u0, u1, u2, u3, u4] 39) _ hb'.1.2.1) hT)
    refine h p' c' w' ⟨XS ++ [u0, u1, u2, u3, u4], hown, by rw [List.length_append, h2]; rfl, Below.grown h3 hg h4 (fun k hk => (h1.lt k hk).1), Nat.le_trans h4 hg.size, Nat.le_refl _, fun b => if b < M then g b else l, fun i hi => ?_⟩
    by_cases hlt : i < L.length
    · obtain ⟨v0, v1, v2, v3, v4, c0, c1, c2, c3, c4, hr⟩ := h5 i hlt
      have hlt5 : i * 5 + 5 ≤ XS.length := by omega
      refine ⟨v0, v1, v2, v3, v4, by rw [List.getElem?_append_left (by omega)]; exact c0, by rw [List.getElem?_append_left (by omega)]; exact c1, by rw [List.getElem?_append_left (by omega)]; exact c2, by rw [List.getElem?_append_left (by omega)]; exact c3, by rw [List.getElem?_append_left (by omega)]; exact c4, ?_⟩
      rw [List.getElem_append_left hlt]
      exact repC_mono n _ _ _ _ (fun b hb' => ⟨(hfr' b hb'.1).1, (hfr' b hb'.1).1.2.1, (show (if b < M then g b else l) = i from (if_pos hb'.2.1).trans hb'.2.2)⟩) (repC_keep n _ _ _ (fun b hb' => (hfr' b hb'.1).2) hr)
    · have hie : i = l := by rw [List.length_append, h2] at hi; simp at hi; omega
      subst hie
      have e := five_at hlen u0 u1 u2 u3 u4
      refine ⟨u0, u1, u2, u3, u4, by have := e 0; simpa using this, by rw [e 1]; rfl, by rw [e 2]; rfl, by rw [e 3]; rfl, by rw [e 4]; rfl, ?_⟩
      rw [List.getElem_append_right (by omega)]
      simp only [h2, Nat.sub_self, List.getElem_cons_zero]
      exact repC_mono n _ _ _ _ (fun b hb' => ⟨(hfr' b hb'.1).1, (hfr' b hb'.1).1.2.1, (if_neg (Nat.not_lt.2 hb'.2) : (if b < M then g b else _) = _)⟩) (repC_keep n _ _ _ (fun b hb' => (hfr' b hb'.1).2) hT')
end
end Num
end Go.Proofs.Ytbfnghbfilahnaa
