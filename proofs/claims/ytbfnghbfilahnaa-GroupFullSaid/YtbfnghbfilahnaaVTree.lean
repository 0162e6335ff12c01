/-
  Values as trees: what a value in memory reads as, at most so many lists in one another; a reading gives a tree; calls that change nothing below keep it.
-/
import Derived.Test.YtbfnghbfilahnaaVBase
import Derived.ProofKit
namespace Go.Proofs.Ytbfnghbfilahnaa
open Go.RowKit Go.ChangeShapes Go.WideShapes
namespace Num
open Ints
set_option linter.unusedSimpArgs false
set_option linter.unusedVariables false

/-- A value at most n lists deep: kind, Int, Float's word, text, items. -/
@[reducible] def VT : Nat → Type
  | 0 => Unit
  | n + 1 => Int × Int × Nat × ByteArray × List (VT n)

/-- A slice of values leads to these. -/
def RepL {α : Type} (w : World) (R : Value → α → Prop) (p : Option Addr) (l c : Nat) (L : List α) : Prop :=
  L.length = l ∧ l ≤ c ∧ c ≤ maxLen ∧ (0 < l → ∃ b off, p = some ⟨b, off, none⟩ ∧ ∀ i (h : i < L.length), ∃ v0 v1 v2 v3 v4,
    w.cell? ⟨b, off + i * 5, none⟩ = some v0 ∧ w.cell? ⟨b, off + i * 5 + 1, none⟩ = some v1 ∧ w.cell? ⟨b, off + i * 5 + 2, none⟩ = some v2 ∧
    w.cell? ⟨b, off + i * 5 + 3, none⟩ = some v3 ∧ w.cell? ⟨b, off + i * 5 + 4, none⟩ = some v4 ∧ R (.agg #[v0, v1, v2, v3, v4]) L[i])

def Rep (w : World) : (n : Nat) → Value → VT n → Prop
  | 0, _, _ => False
  | n + 1, v, T => ∃ (p : Option Addr) (l c : Nat), v = .agg #[.int .i64 T.1, .int .i64 T.2.1, .float .f64 T.2.2.1, .string T.2.2.2.1, .slice p l c] ∧
      okI T.1 ∧ okI T.2.1 ∧ T.2.2.1 < 2 ^ 64 ∧ T.2.2.2.1.size ≤ maxLen ∧ RepL w (Rep w n) p l c T.2.2.2.2

theorem repL_keep {α : Type} {w w' : World} {R R' : Value → α → Prop} (hb : Below w.heap.size w w') (hR : ∀ v x, R v x → R' v x) {p : Option Addr} {l c : Nat} {L : List α} (h : RepL w R p l c L) : RepL w' R' p l c L := by
  obtain ⟨h1, h2, h3, h4⟩ := h
  refine ⟨h1, h2, h3, fun hl => ?_⟩
  obtain ⟨b, off, hp, hi⟩ := h4 hl
  refine ⟨b, off, hp, fun i hi' => ?_⟩
  obtain ⟨v0, v1, v2, v3, v4, c0, c1, c2, c3, c4, hr⟩ := hi i hi'
  exact ⟨v0, v1, v2, v3, v4, cell_keep hb c0, cell_keep hb c1, cell_keep hb c2, cell_keep hb c3, cell_keep hb c4, hR _ _ hr⟩
theorem rep_keep {w w' : World} (hb : Below w.heap.size w w') : ∀ (n : Nat) (v : Value) (T : VT n), Rep w n v T → Rep w' n v T := by
  intro n
  induction n with
  | zero => intro v T h; exact h.elim
  | succ n ih =>
    intro v T h
    obtain ⟨p, l, c, hv, h1, h2, h3, h4, h5⟩ := h
    exact ⟨p, l, c, hv, h1, h2, h3, h4, repL_keep hb ih h5⟩

theorem list_of {α : Type} {P : Nat → α → Prop} : ∀ l, (∀ i, i < l → ∃ x, P i x) → ∃ L : List α, L.length = l ∧ ∀ i (h : i < L.length), P i L[i] := by
  intro l
  induction l with
  | zero => intro _; exact ⟨[], rfl, fun i h => absurd h (Nat.not_lt_zero _)⟩
  | succ l ih =>
    intro h
    obtain ⟨L, hl, hL⟩ := ih (fun i hi => h i (by omega))
    obtain ⟨x, hx⟩ := h l (by omega)
    refine ⟨L ++ [x], by simp [hl], fun i hi => ?_⟩
    by_cases hlt : i < L.length
    · rw [List.getElem_append_left hlt]; exact hL i hlt
    · have : i = L.length := by simp at hi; omega
      subst this
      rw [List.getElem_append_right (by omega)]
      simpa [hl] using hx

theorem ok_of_wf {n : Int} (h : (Lit.int .i64 n).wf = true) : okI n := by
  simp only [Lit.wf, decide_eq_true_eq, IntKind.min, IntKind.max] at h
  unfold okI
  have h1 : IntKind.i64.bits = 64 := rfl
  simp [IntKind.signed, h1] at h
  omega
theorem cells5 : Try.prog.cellsOf 39 = 5 := by kernel_rfl
theorem cells1 : Try.prog.cellsOf 31 = 1 := by kernel_rfl
theorem struct5 : Try.prog.underlying 39 = some (.struct (Try.prog.fieldsOf 39)) := by kernel_rfl
theorem fields5 : (Try.prog.fieldsOf 39).toList.map (fun f => (f.type, f.offset, Try.prog.cellsOf f.type)) = [(3, 0, 1), (2, 1, 1), (37, 2, 1), (9, 3, 1), (31, 4, 1)] := by kernel_rfl

section
variable {H : Type} {enc : TypeId × Value → H} {w : World} {base : Nat} {spare : Nat → Bool} {held : Bool}
set_option maxRecDepth 100000 in
theorem trod5 {fuel : Nat} {cs : List Value} {x : DataW H × List MemPlace} (h : DataW.trod enc Try.prog w base spare held fuel 39 cs = some x) :
    ∃ (n : Nat) (K I : Int) (F : Nat) (S : ByteArray) (v4 : Value) (y4 : DataW H × List MemPlace), fuel = n + 1 ∧ cs = [.int .i64 K, .int .i64 I, .float .f64 F, .string S, v4] ∧
      okI K ∧ okI I ∧ F < 2 ^ 64 ∧ S.size ≤ maxLen ∧ DataW.trod enc Try.prog w base spare held n 31 [v4] = some y4 := by
  obtain ⟨xs, n, rfl, _, hl, hlen, hf⟩ := DataW.trod_struct struct5 h
  rw [cells5] at hl
  match cs, hl with
  | [c0, c1, c2, c3, c4], _ =>
    have hs : (Try.prog.fieldsOf 39).size = 5 := by
      have := congrArg List.length fields5
      simpa using this
    rw [hs] at hlen
    have each : ∀ i (hi : i < 5), ∃ f, (Try.prog.fieldsOf 39)[i]? = some f ∧ (f.type, f.offset, Try.prog.cellsOf f.type) = [(3, 0, 1), (2, 1, 1), (37, 2, 1), (9, 3, 1), (31, 4, 1)][i] := by
      intro i hi
      have h1 : i < (Try.prog.fieldsOf 39).size := by omega
      refine ⟨(Try.prog.fieldsOf 39)[i], by simp [h1], ?_⟩
      have := congrArg (fun l => l[i]?) fields5
      simp only [List.getElem?_map, Array.getElem?_toList] at this
      rw [Array.getElem?_eq_getElem h1] at this
      rw [List.getElem?_eq_getElem (by simpa using hi)] at this
      exact Option.some.inj this
    match xs, hlen with
    | [y0, y1, y2, y3, y4], _ =>
      obtain ⟨f0, g0, e0⟩ := each 0 (by omega)
      obtain ⟨f1, g1, e1⟩ := each 1 (by omega)
      obtain ⟨f2, g2, e2⟩ := each 2 (by omega)
      obtain ⟨f3, g3, e3⟩ := each 3 (by omega)
      obtain ⟨f4, g4, e4⟩ := each 4 (by omega)
      have r0 := hf 0 f0 g0
      have r1 := hf 1 f1 g1
      have r2 := hf 2 f2 g2
      have r3 := hf 3 f3 g3
      have r4 := hf 4 f4 g4
      simp only [List.getElem_cons_zero, List.getElem_cons_succ, Prod.mk.injEq] at e0 e1 e2 e3 e4
      rw [e0.1, e0.2.1, show Try.prog.cellsOf 3 = 1 by kernel_rfl] at r0
      rw [e1.1, e1.2.1, show Try.prog.cellsOf 2 = 1 by kernel_rfl] at r1
      rw [e2.1, e2.2.1, show Try.prog.cellsOf 37 = 1 by kernel_rfl] at r2
      rw [e3.1, e3.2.1, show Try.prog.cellsOf 9 = 1 by kernel_rfl] at r3
      rw [e4.1, e4.2.1, cells1] at r4
      simp at r0 r1 r2 r3 r4
      obtain ⟨K, hK, _, wK⟩ := DataW.trod_int Try.underlying3 r0
      obtain ⟨I, hI, _, wI⟩ := DataW.trod_int Try.underlying2 r1
      obtain ⟨S, hS, _, wS⟩ := DataW.trod_string Try.underlying9 r3
      have hfl : ∃ F, c2 = .float .f64 F ∧ (Lit.float .f64 F).wf = true := by
        cases n with
        | zero => simp [DataW.trod] at r2
        | succ m =>
          unfold DataW.trod at r2
          rw [Try.underlying37] at r2
          split at r2 <;> simp_all
      obtain ⟨F, hF, wF⟩ := hfl
      refine ⟨n, K, I, F, S, c4, y4, rfl, ?_, ok_of_wf wK, ok_of_wf wI, by simpa [Lit.wf] using wF, wS, r4⟩
      simp only [List.cons.injEq, and_true] at hK hI hS
      rw [hK, hI, hF, hS]

set_option maxRecDepth 100000 in
theorem rep_of_trod : ∀ (n fuel : Nat), fuel ≤ 2 * n → ∀ (cs : List Value) (x : DataW H × List MemPlace), DataW.trod enc Try.prog w base spare held fuel 39 cs = some x → ∃ T : VT n, Rep w n (.agg cs.toArray) T := by
  intro n
  induction n with
  | zero =>
    intro fuel hf cs x h
    obtain rfl : fuel = 0 := by omega
    simp [DataW.trod] at h
  | succ n ih =>
    intro fuel hf cs x h
    obtain ⟨m, K, I, F, S, v4, y4, rfl, rfl, oK, oI, oF, oS, h4⟩ := trod5 h
    rcases DataW.trod_slice Try.underlying31 h4 with ⟨hc, _⟩ | ⟨a, len, cap, elems, rest, g, rfl, hc, _, hb, hl, hm, hlen, hel, _, _⟩
    · simp only [List.cons.injEq, and_true] at hc
      subst hc
      exact ⟨(K, I, F, S, []), none, 0, 0, rfl, oK, oI, oF, oS, rfl, Nat.le_refl _, Nat.zero_le _, fun h => absurd h (Nat.lt_irrefl _)⟩
    · simp only [List.cons.injEq, and_true] at hc
      subst hc
      rw [cells5] at hel
      have one : ∀ i, i < len → ∃ cs', w.cells? base (a.add (i * 5)) 5 = some cs' ∧ ∃ T : VT n, Rep w n (.agg cs'.toArray) T := by
        intro i hi
        have := hel i hi
        rw [List.getElem?_eq_getElem (by omega)] at this
        obtain ⟨cs', h1, h2⟩ := Option.bind_eq_some_iff.1 this
        exact ⟨cs', h1, ih g (by omega) cs' _ h2⟩
      obtain ⟨b, off, spot⟩ := a
      by_cases hl0 : 0 < len
      · have hspot : spot = none := by
          obtain ⟨cs', h1, _⟩ := one 0 hl0
          obtain ⟨_, _, h3⟩ := World.cells?_some h1
          have h30 := h3 0 (by omega)
          simp only [Nat.zero_mul, Addr.add, if_true] at h30
          cases hs : spot with
          | none => rfl
          | some z =>
            rw [hs] at h30
            simp [World.cell?] at h30
            split at h30 <;> simp_all
        subst hspot
        obtain ⟨L, hL, hE⟩ := list_of (P := fun i (T : VT n) => ∃ v0 v1 v2 v3 v4,
          w.cell? ⟨b, off + i * 5, none⟩ = some v0 ∧ w.cell? ⟨b, off + i * 5 + 1, none⟩ = some v1 ∧ w.cell? ⟨b, off + i * 5 + 2, none⟩ = some v2 ∧
          w.cell? ⟨b, off + i * 5 + 3, none⟩ = some v3 ∧ w.cell? ⟨b, off + i * 5 + 4, none⟩ = some v4 ∧ Rep w n (.agg #[v0, v1, v2, v3, v4]) T) len (fun i hi => by
            obtain ⟨cs', h1, T, hT⟩ := one i hi
            obtain ⟨_, h2, h3⟩ := World.cells?_some h1
            match cs', h2 with
            | [v0, v1, v2, v3, v4], _ =>
              have a0 := h3 0 (by omega)
              have a1 := h3 1 (by omega)
              have a2 := h3 2 (by omega)
              have a3 := h3 3 (by omega)
              have a4 := h3 4 (by omega)
              have e : (Addr.add ⟨b, off, none⟩ (i * 5)) = ⟨b, off + i * 5, none⟩ := by
                unfold Addr.add; split <;> simp_all
              rw [e] at a0 a1 a2 a3 a4
              simp [Addr.add] at a0 a1 a2 a3 a4
              exact ⟨T, v0, v1, v2, v3, v4, a0, a1, a2, a3, a4, hT⟩)
        exact ⟨(K, I, F, S, L), some ⟨b, off, none⟩, len, cap, rfl, oK, oI, oF, oS, hL, hl, hm, fun _ => ⟨b, off, rfl, hE⟩⟩
      · obtain rfl : len = 0 := by omega
        exact ⟨(K, I, F, S, []), some ⟨b, off, spot⟩, 0, cap, rfl, oK, oI, oF, oS, rfl, hl, hm, fun h => absurd h hl0⟩
end
end Num
end Go.Proofs.Ytbfnghbfilahnaa
