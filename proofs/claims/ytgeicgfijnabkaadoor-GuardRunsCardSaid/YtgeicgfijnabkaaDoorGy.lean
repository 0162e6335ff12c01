/-
  A reading's tree; none of its lists is longer than what one may be handed.
-/
import Derived.Test.YtgeicgfijnabkaaDoorGf
import Derived.Test.YtgeicgfijnabkaaDoorVTree
import Derived.ProofKit
namespace Go.Proofs.YtgeicgfijnabkaaDoor
open Go.RowKit Go.ChangeShapes Go.WideShapes
namespace Num
open Ints
set_option linter.unusedSimpArgs false
set_option linter.unusedVariables false
section
variable {H : Type} {enc : TypeId × Value → H} {w : World} {base : Nat} {spare : Nat → Bool} {held : Bool}
set_option maxRecDepth 100000 in
theorem trod5w {fuel : Nat} {cs : List Value} {x : DataW H × List MemPlace} (h : DataW.trod enc Tryd.prog w base spare held fuel 25 cs = some x) :
    ∃ (n : Nat) (K I : Int) (F : Nat) (S : ByteArray) (v4 : Value) (y4 : DataW H × List MemPlace), fuel = n + 1 ∧ cs = [.int .i64 K, .int .i64 I, .float .f64 F, .string S, v4] ∧
      okI K ∧ okI I ∧ F < 2 ^ 64 ∧ S.size ≤ maxLen ∧ DataW.trod enc Tryd.prog w base spare held n 23 [v4] = some y4 ∧ ∃ d0 d1 d2 d3, x.1 = .agg [d0, d1, d2, d3, y4.1] := by
  obtain ⟨xs, n, rfl, hx, hl, hlen, hf⟩ := DataW.trod_struct struct5 h
  rw [cells5] at hl
  match cs, hl with
  | [c0, c1, c2, c3, c4], _ =>
    have hs : (Tryd.prog.fieldsOf 25).size = 5 := by
      have := congrArg List.length fields5
      simpa using this
    rw [hs] at hlen
    have each : ∀ i (hi : i < 5), ∃ f, (Tryd.prog.fieldsOf 25)[i]? = some f ∧ (f.type, f.offset, Tryd.prog.cellsOf f.type) = [(3, 0, 1), (2, 1, 1), (22, 2, 1), (9, 3, 1), (23, 4, 1)][i] := by
      intro i hi
      have h1 : i < (Tryd.prog.fieldsOf 25).size := by omega
      refine ⟨(Tryd.prog.fieldsOf 25)[i], by simp [h1], ?_⟩
      have := congrArg (fun l => l[i]?) fields5
      simp only [List.getElem?_map, Array.getElem?_toList] at this
      rw [Array.getElem?_eq_getElem h1] at this
      rw [List.getElem?_eq_getElem (by simpa using hi)] at this
      exact Option.some.inj this
    match xs, hlen with
    | [y0, y1, y2, y3, y4], _ =>
      obtain ⟨f0, g0, e0⟩ := each 0 (by omega)
      obtain ⟨f1, g1, e1⟩ := each 1 (by omega)
      obtain ⟨f2, g2, e2⟩ := each 2 (by omega)
      obtain ⟨f3, g3, e3⟩ := each 3 (by omega)
      obtain ⟨f4, g4, e4⟩ := each 4 (by omega)
      have r0 := hf 0 f0 g0
      have r1 := hf 1 f1 g1
      have r2 := hf 2 f2 g2
      have r3 := hf 3 f3 g3
      have r4 := hf 4 f4 g4
      simp only [List.getElem_cons_zero, List.getElem_cons_succ, Prod.mk.injEq] at e0 e1 e2 e3 e4
      rw [e0.1, e0.2.1, show Tryd.prog.cellsOf 3 = 1 by kernel_rfl] at r0
      rw [e1.1, e1.2.1, show Tryd.prog.cellsOf 2 = 1 by kernel_rfl] at r1
      rw [e2.1, e2.2.1, show Tryd.prog.cellsOf 22 = 1 by kernel_rfl] at r2
      rw [e3.1, e3.2.1, show Tryd.prog.cellsOf 9 = 1 by kernel_rfl] at r3
      rw [e4.1, e4.2.1, cells1] at r4
      simp at r0 r1 r2 r3 r4
      obtain ⟨K, hK, _, wK⟩ := DataW.trod_int Tryd.underlying3 r0
      obtain ⟨I, hI, _, wI⟩ := DataW.trod_int Tryd.underlying2 r1
      obtain ⟨S, hS, _, wS⟩ := DataW.trod_string Tryd.underlying9 r3
      have hfl : ∃ F, c2 = .float .f64 F ∧ (Lit.float .f64 F).wf = true := by
        cases n with
        | zero => simp [DataW.trod] at r2
        | succ m =>
          unfold DataW.trod at r2
          rw [Tryd.underlying22] at r2
          split at r2 <;> simp_all
      obtain ⟨F, hF, wF⟩ := hfl
      refine ⟨n, K, I, F, S, c4, y4, rfl, ?_, ok_of_wf wK, ok_of_wf wI, by simpa [Lit.wf] using wF, wS, r4, y0.1, y1.1, y2.1, y3.1, by rw [hx]; rfl⟩
      simp only [List.cons.injEq, and_true] at hK hI hS
      rw [hK, hI, hF, hS]

theorem wts (d0 d1 d2 d3 d4 : DataW H) : (DataW.weights Tryd.prog 25 (.agg [d0, d1, d2, d3, d4])).all (· ≤ reachBytes) = true → (DataW.weights Tryd.prog 23 d4).all (· ≤ reachBytes) = true := by
  have hm : (Tryd.prog.fieldsOf 25).toList.map (·.type) = [3, 2, 22, 9, 23] := by
    have h := congrArg (List.map (fun z : TypeId × Nat × Nat => z.1)) fields5
    rw [List.map_map] at h
    exact h
  intro h
  rw [DataW.weights, struct5] at h
  simp only [hm, DataW.weightsEach, List.all_append, Bool.and_eq_true] at h
  exact h.2.2.2.2.1
theorem bytes5 : Tryd.prog.bytesOf 25 = 64 := by kernel_rfl
theorem wts_slice (el sp : List (DataW H)) (h : (DataW.weights Tryd.prog 23 (.slice el sp)).all (· ≤ reachBytes) = true) : el.length ≤ 2199023255488 ∧ (DataW.weightsAll Tryd.prog 25 el).all (· ≤ reachBytes) = true := by
  rw [DataW.weights, Tryd.underlying23] at h
  simp only [bytes5, List.all_cons, List.all_append, Bool.and_eq_true, decide_eq_true_eq] at h
  have h1 := h.1
  unfold reachBytes at h1
  exact ⟨by omega, h.2.1⟩
theorem wts_all : ∀ (el : List (DataW H)), (DataW.weightsAll Tryd.prog 25 el).all (· ≤ reachBytes) = true → ∀ d ∈ el, (DataW.weights Tryd.prog 25 d).all (· ≤ reachBytes) = true
  | [], _, d, hd => absurd hd List.not_mem_nil
  | e :: r, h, d, hd => by
    rw [DataW.weightsAll, List.all_append, Bool.and_eq_true] at h
    rcases List.mem_cons.1 hd with rfl | hd
    · exact h.1
    · exact wts_all r h.2 d hd
set_option maxRecDepth 100000 in
theorem wide_of_trod : ∀ (n fuel : Nat), fuel ≤ 2 * n → ∀ (cs : List Value) (x : DataW H × List MemPlace), DataW.trod enc Tryd.prog w base spare held fuel 25 cs = some x → (DataW.weights Tryd.prog 25 x.1).all (· ≤ reachBytes) = true → ∃ T : VT n, Rep w n (.agg cs.toArray) T ∧ wideT n T := by
  intro n
  induction n with
  | zero =>
    intro fuel hf cs x h _
    obtain rfl : fuel = 0 := by omega
    simp [DataW.trod] at h
  | succ n ih =>
    intro fuel hf cs x h hw
    obtain ⟨m, K, I, F, S, v4, y4, rfl, rfl, oK, oI, oF, oS, h4, d0, d1, d2, d3, hx⟩ := trod5w h
    rw [hx] at hw
    have hw4 := wts _ _ _ _ _ hw
    rcases DataW.trod_slice Tryd.underlying23 h4 with ⟨hc, _⟩ | ⟨a, len, cap, elems, rest, g, rfl, hc, hy, hb, hl, hm, hlen, hel, _, _⟩
    · simp only [List.cons.injEq, and_true] at hc
      subst hc
      exact ⟨(K, I, F, S, []), ⟨none, 0, 0, rfl, oK, oI, oF, oS, rfl, Nat.le_refl _, Nat.zero_le _, fun h => absurd h (Nat.lt_irrefl _)⟩, wide_nil⟩
    · simp only [List.cons.injEq, and_true] at hc
      subst hc
      rw [cells5] at hel
      have hy1 := congrArg Prod.fst hy
      simp only at hy1
      rw [hy1] at hw4
      obtain ⟨hwl, hwe⟩ := wts_slice _ _ hw4
      rw [List.length_map, hlen] at hwl
      have one : ∀ i, i < len → ∃ cs', w.cells? base (a.add (i * 5)) 5 = some cs' ∧ ∃ T : VT n, Rep w n (.agg cs'.toArray) T ∧ wideT n T := by
        intro i hi
        have := hel i hi
        rw [List.getElem?_eq_getElem (by omega)] at this
        obtain ⟨cs', h1, h2⟩ := Option.bind_eq_some_iff.1 this
        exact ⟨cs', h1, ih g (by omega) cs' _ h2 (wts_all _ hwe _ (List.mem_map.2 ⟨_, List.getElem_mem (by omega), rfl⟩))⟩
      obtain ⟨b, off, spot⟩ := a
      by_cases hl0 : 0 < len
      · have hspot : spot = none := by
          obtain ⟨cs', h1, _⟩ := one 0 hl0
          obtain ⟨_, _, h3⟩ := World.cells?_some h1
          have h30 := h3 0 (by omega)
          simp only [Nat.zero_mul, Addr.add, if_true] at h30
          cases hs : spot with
          | none => rfl
          | some z =>
            rw [hs] at h30
            simp [World.cell?] at h30
            split at h30 <;> simp_all
        subst hspot
        obtain ⟨L, hL, hE⟩ := list_of (P := fun i (T : VT n) => ∃ v0 v1 v2 v3 v4,
          w.cell? ⟨b, off + i * 5, none⟩ = some v0 ∧ w.cell? ⟨b, off + i * 5 + 1, none⟩ = some v1 ∧ w.cell? ⟨b, off + i * 5 + 2, none⟩ = some v2 ∧
          w.cell? ⟨b, off + i * 5 + 3, none⟩ = some v3 ∧ w.cell? ⟨b, off + i * 5 + 4, none⟩ = some v4 ∧ Rep w n (.agg #[v0, v1, v2, v3, v4]) T ∧ wideT n T) len (fun i hi => by
            obtain ⟨cs', h1, T, hT⟩ := one i hi
            obtain ⟨_, h2, h3⟩ := World.cells?_some h1
            match cs', h2 with
            | [v0, v1, v2, v3, v4], _ =>
              have a0 := h3 0 (by omega)
              have a1 := h3 1 (by omega)
              have a2 := h3 2 (by omega)
              have a3 := h3 3 (by omega)
              have a4 := h3 4 (by omega)
              have e : (Addr.add ⟨b, off, none⟩ (i * 5)) = ⟨b, off + i * 5, none⟩ := by
                unfold Addr.add; split <;> simp_all
              rw [e] at a0 a1 a2 a3 a4
              simp [Addr.add] at a0 a1 a2 a3 a4
              exact ⟨T, v0, v1, v2, v3, v4, a0, a1, a2, a3, a4, hT⟩)
        exact ⟨(K, I, F, S, L), ⟨some ⟨b, off, none⟩, len, cap, rfl, oK, oI, oF, oS, hL, hl, hm, fun _ => ⟨b, off, rfl, fun i hi => by obtain ⟨v0, v1, v2, v3, v4, a0, a1, a2, a3, a4, hr, _⟩ := hE i hi; exact ⟨v0, v1, v2, v3, v4, a0, a1, a2, a3, a4, hr⟩⟩⟩, show L.length ≤ 2199023255488 by omega, fun x hx => by obtain ⟨i, hi, rfl⟩ := List.getElem_of_mem hx; obtain ⟨v0, v1, v2, v3, v4, a0, a1, a2, a3, a4, hr, hw⟩ := hE i hi; exact hw⟩
      · obtain rfl : len = 0 := by omega
        exact ⟨(K, I, F, S, []), ⟨some ⟨b, off, spot⟩, 0, cap, rfl, oK, oI, oF, oS, rfl, hl, hm, fun h => absurd h hl0⟩, wide_nil⟩
end
end Num
end Go.Proofs.YtgeicgfijnabkaaDoor
