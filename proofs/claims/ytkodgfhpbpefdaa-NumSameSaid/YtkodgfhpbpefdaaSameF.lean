/-
  NumSame: what is added in one order, the same way, is the same to the last bit, however often: plain facts and slices of the call's own.
-/
import Derived.Test.YtkodgfhpbpefdaaSum
import Derived.Test.YtkodgfhpbpefdaaTreeL
import Derived.Deep.Slices
namespace Go.Proofs.Ytkodgfhpbpefdaa
open Go.RowKit Go.ChangeShapes Go.WideShapes
namespace Num
open Ints
set_option linter.unusedSimpArgs false
set_option linter.unusedVariables false
/-- A slice of floats leads to these words. -/
def RepF (w : World) (p : Option Addr) (l c : Nat) (L : List Nat) : Prop :=
  L.length = l ∧ l ≤ c ∧ c ≤ maxLen ∧ (0 < l → ∃ b off, p = some ⟨b, off, none⟩ ∧ ∀ i (h : i < L.length), w.cell? ⟨b, off + i, none⟩ = some (.float .f64 L[i]))
def treeF (y : Nat) : VT 1 := (2, 0, Flo.canon y, ⟨#[]⟩, [])
def cellsF (y : Nat) : List Value := [Value.int .i64 2, .int .i64 0, .float .f64 (Flo.canon y), .string ⟨#[]⟩, .slice none 0 0]
theorem cellsF_len (L : List Nat) : (L.flatMap cellsF).length = L.length * 5 := by
  induction L with
  | nil => rfl
  | cons x xs ih => rw [List.flatMap_cons, List.length_append, ih, List.length_cons]; show 5 + _ = _; omega
theorem cellsF_at (L : List Nat) : ∀ (i : Nat) (h : i < L.length) (j : Nat), j < 5 → (L.flatMap cellsF)[i * 5 + j]? = (cellsF L[i])[j]? := by
  induction L with
  | nil => intro i h; exact absurd h (Nat.not_lt_zero _)
  | cons x xs ih =>
    intro i h j hj
    rw [List.flatMap_cons]
    cases i with
    | zero =>
      rw [List.getElem?_append_left (by show 0 * 5 + j < 5; omega)]
      simp
    | succ i =>
      rw [List.getElem?_append_right (by show 5 ≤ (i + 1) * 5 + j; omega)]
      have e : (i + 1) * 5 + j - (cellsF x).length = i * 5 + j := by show (i + 1) * 5 + j - 5 = _; omega
      rw [e, ih i (by simpa using h) j hj]
      simp
theorem owns_keep {w w' : World} (hb : Below w.heap.size w w') {base size : Nat} {e : TypeId} {v : Value} {n : Nat} {xs : List Value} (h : w.ownsRow base e size v n xs) : w'.ownsRow base e size v n xs := by
  obtain ⟨h1, h2⟩ := h
  refine ⟨h1, ?_⟩
  rcases h2 with h2 | ⟨g, cap, cur, hv, hg, hh, r⟩
  · exact .inl h2
  · exact .inr ⟨g, cap, cur, hv, hg, row_step hh hb, r⟩
theorem owns_block {w : World} {base size : Nat} {e : TypeId} {v : Value} {n : Nat} {xs : List Value} (h : w.ownsRow base e size v n xs) : ∀ g, v.ownBlock = some g → base ≤ g := by
  intro g hg
  rcases h.2 with ⟨rfl, _⟩ | ⟨g', cap, cur, rfl, hb, _⟩
  · cases hg
  · simp [Value.ownBlock] at hg; omega
theorem repL_of_owns {w : World} {base : Nat} {v : Value} {n : Nat} {Fs : List Nat} (hn : Fs.length = n) (hF : ∀ y ∈ Fs, Flo.canon y < 2 ^ 64) (h : w.ownsRow base 25 5 v n (Fs.flatMap cellsF)) :
    ∃ p c, v = .slice p n c ∧ RepL w (Rep w 1) p n c (Fs.map treeF) ∧ (n = 0 → p = none ∧ c = 0 ∨ True) := by
  obtain ⟨h1, h2⟩ := h
  rcases h2 with ⟨rfl, rfl⟩ | ⟨g, cap, cur, rfl, hg, hh, hle, hm, hcs, ht⟩
  · exact ⟨none, 0, rfl, ⟨by simpa using hn, Nat.le_refl _, Nat.zero_le _, fun h => absurd h (Nat.lt_irrefl _)⟩, fun _ => .inl ⟨rfl, rfl⟩⟩
  · refine ⟨some ⟨g, 0, none⟩, cap, rfl, ⟨by simpa using hn, hle, hm, fun _ => ⟨g, 0, rfl, fun i hi => ?_⟩⟩, fun _ => .inr trivial⟩
    have hi' : i < Fs.length := by simpa using hi
    have cell : ∀ j, j < 5 → w.cell? ⟨g, 0 + i * 5 + j, none⟩ = (cellsF Fs[i])[j]? := by
      intro j hj
      have e1 : w.cell? ⟨g, 0 + i * 5 + j, none⟩ = cur[0 + i * 5 + j]? := row_cell hh _
      rw [e1, ← cellsF_at Fs i hi' j hj, ← ht, List.getElem?_take, if_pos (by omega)]
      simp
    refine ⟨.int .i64 2, .int .i64 0, .float .f64 (Flo.canon Fs[i]), .string ⟨#[]⟩, .slice none 0 0, cell 0 (by omega), cell 1 (by omega), cell 2 (by omega), cell 3 (by omega), cell 4 (by omega), ?_⟩
    rw [List.getElem_map]
    exact ⟨none, 0, 0, rfl, (show okI (2 : Int) from by decide), (show okI (0 : Int) from by decide), hF _ (List.getElem_mem hi'), Nat.zero_le _, ⟨rfl, Nat.le_refl _, Nat.zero_le _, fun h => absurd h (Nat.lt_irrefl _)⟩⟩
theorem repL_take {α : Type} {w : World} {R : Value → α → Prop} {p : Option Addr} {l c k : Nat} {L : List α} (h : RepL w R p l c L) (hk : k ≤ l) : RepL w R p k c (L.take k) := by
  obtain ⟨h1, h2, h3, h4⟩ := h
  refine ⟨by rw [List.length_take]; omega, by omega, h3, fun hk0 => ?_⟩
  obtain ⟨b, off, hp, hi⟩ := h4 (by omega)
  refine ⟨b, off, hp, fun i hi' => ?_⟩
  have hlt : i < L.length := by rw [List.length_take] at hi'; omega
  obtain ⟨v0, v1, v2, v3, v4, c0, c1, c2, c3, c4, hr⟩ := hi i hlt
  exact ⟨v0, v1, v2, v3, v4, c0, c1, c2, c3, c4, by rw [List.getElem_take]; exact hr⟩
theorem opV_flo1 {K I : Int} {F y : Nat} (h : isNum K = true) : ∃ D, opV 0 K I F 2 0 y = (2, 0, D, 0) := ⟨_, opV_flo (by rw [h]; rfl) (by simp)⟩
theorem sumV_floats (L : List Nat) : ∀ (K I : Int) (F : Nat), isNum K = true → okI I → ∃ A N D, sumV (n := 0) (K, I, F) (L.map treeF) = (A, N, D, 0) ∧ isNum A = true ∧ okI N := by
  induction L with
  | nil => intro K I F h hI; exact ⟨K, I, F, rfl, h, hI⟩
  | cons x xs ih =>
    intro K I F h hI
    obtain ⟨D, hD⟩ := opV_flo1 (I := I) (F := F) (y := Flo.canon x) h
    rw [List.map_cons, sumV_ok (A := 2) (N := 0) (D := D) (E := 0) hD rfl]
    exact ih 2 0 D rfl (by decide)
theorem sumV_snoc (xs : List (VT 1)) (x : VT 1) : ∀ (K0 I0 : Int) (F0 : Nat) {K I : Int} {F : Nat} {A N : Int} {D : Nat} {E : Int}, sumV (K0, I0, F0) xs = (K, I, F, 0) → opV 0 K I F x.1 x.2.1 x.2.2.1 = (A, N, D, E) → (E == 0) = true → sumV (K0, I0, F0) (xs ++ [x]) = (A, N, D, 0) := by
  induction xs with
  | nil =>
    intro K0 I0 F0 K I F A N D E h hq hE
    rw [sumV_nil] at h
    cases h
    rw [List.nil_append, sumV_ok hq hE]
    rfl
  | cons y ys ih =>
    intro K0 I0 F0 K I F A N D E h hq hE
    obtain ⟨⟨A', N', D', E'⟩, g⟩ : ∃ q, q = opV 0 K0 I0 F0 y.1 y.2.1 y.2.2.1 := ⟨_, rfl⟩
    cases hE' : (E' == 0)
    · rw [sumV_err g.symm hE'] at h
      cases h
      cases hE'
    · rw [sumV_ok g.symm hE'] at h
      rw [List.cons_append, sumV_ok g.symm hE']
      exact ih _ _ _ h hq hE
theorem trod_float {H : Type} {enc : TypeId × Value → H} {P : Program} {w : World} {base : Nat} {spare : Nat → Bool} {held : Bool} {t : TypeId} {fuel : Nat} {cs : List Value} {x : DataW H × List MemPlace} (ht : P.underlying t = some (.float .f64)) (h : DataW.trod enc P w base spare held fuel t cs = some x) :
    ∃ y, cs = [.float .f64 y] ∧ y < 2 ^ 64 := by
  cases fuel with
  | zero => simp [DataW.trod] at h
  | succ n =>
    unfold DataW.trod at h
    rw [ht] at h
    split at h <;> simp_all
    rename_i k' b h0
    subst h0
    obtain ⟨⟨h1, h2⟩, _⟩ := h
    subst h1
    simpa [Lit.wf] using h2
theorem repF_of_Trod {H : Type} {enc : TypeId × Value → H} {w : World} {base : Nat} {spare : Nat → Bool} {held : Bool} {v : Value} {d : DataW H} {ps : List MemPlace} {b0 : Nat} (h : DataW.Trod enc Try.prog w base spare held 45 v d ps) (ho : Value.okWide Try.prog w .any b0 45 v) :
    ∃ (p : Option Addr) (l c : Nat) (L : List Nat), v = .slice p l c ∧ RepF w p l c L ∧ ∀ y ∈ L, y < 2 ^ 64 := by
  obtain ⟨p, l, c, rfl⟩ := okWide_slice Try.underlying45 ho
  obtain ⟨fuel, hf⟩ := h
  rcases Go.Deep.open_slice1 Try.underlying45 (by kernel_rfl) (by simpa [Value.cells] using hf) with ⟨hc, _⟩ | ⟨a, len, cap, m, n, V, D, Pl, hc, _, hl, hm, hmm, _, hx⟩
  · simp only [List.cons.injEq, Value.slice.injEq, and_true] at hc
    obtain ⟨rfl, rfl, rfl⟩ := hc
    exact ⟨none, 0, 0, [], rfl, ⟨rfl, Nat.le_refl _, Nat.zero_le _, fun h => absurd h (Nat.lt_irrefl _)⟩, fun y hy => by cases hy⟩
  · simp only [List.cons.injEq, Value.slice.injEq, and_true] at hc
    obtain ⟨rfl, rfl, rfl⟩ := hc
    have hml : l ≤ m := by rw [hmm]; split <;> omega
    have fl : ∀ i, i < l → ∃ y, w.cell? (a.add i) = some (.float .f64 y) ∧ y < 2 ^ 64 := by
      intro i hi
      obtain ⟨h1, h2⟩ := hx i (by omega)
      obtain ⟨y, hy1, hy2⟩ := trod_float Try.underlying22 h2
      simp only [List.cons.injEq, and_true] at hy1
      rw [hy1] at h1
      exact ⟨y, h1, hy2⟩
    obtain ⟨L, hL, hE⟩ := list_of l fl
    refine ⟨some a, l, c, L, rfl, ⟨hL, hl, hm, fun hl0 => ?_⟩, fun y hy => ?_⟩
    · obtain ⟨b, off, spot⟩ := a
      have h0 := (hE 0 (by omega)).1
      have hspot : spot = none := by
        simp only [Addr.add, if_true] at h0
        cases hs : spot with
        | none => rfl
        | some z =>
          rw [hs] at h0
          simp [World.cell?] at h0
          split at h0 <;> simp_all
      subst hspot
      refine ⟨b, off, rfl, fun i hi => ?_⟩
      have := (hE i hi).1
      have e : (Addr.add ⟨b, off, none⟩ i) = ⟨b, off + i, none⟩ := by unfold Addr.add; split <;> simp_all
      rwa [e] at this
    · obtain ⟨i, hi, rfl⟩ := List.getElem_of_mem hy
      exact (hE i hi).2
end Num
end Go.Proofs.Ytkodgfhpbpefdaa
