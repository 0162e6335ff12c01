/-
  Values, acts that came in: nothing of theirs is frozen.
-/
import Derived.Test.YteodljkcbddehaaJp4VTree
import Derived.Test.YteodljkcbddehaaJXa
import Derived.ChangeReads
namespace Go.Proofs.Yteodljkcbddehaa
open Go.RowKit Go.ChangeShapes Go.WideShapes
namespace Num
open Ints
set_option linter.unusedSimpArgs false
set_option linter.unusedVariables false
theorem pw_of {w : World} {b off : Nat} {v : Value} (h : w.cell? ⟨b, off, none⟩ = some v) (hf : w.frozen? ⟨b, off, none⟩ = false) : Pw w ⟨b, off, none⟩ := by
  refine ⟨?_, hf⟩
  unfold World.cell? at h
  cases hh : w.heap[b]? with
  | none => simp [hh] at h
  | some o => cases o with
    | cells cs t fr => exact ⟨cs, t, fr, rfl⟩
    | _ => simp [hh] at h
section
variable {H : Type} {enc : TypeId × Value → H} {w : World} {base : Nat} {spare : Nat → Bool} {held : Bool}
set_option maxRecDepth 100000 in
theorem trod5P {fuel : Nat} {cs : List Value} {x : DataW H × List MemPlace} (h : DataW.trod enc Try.prog w base spare held fuel 27 cs = some x) :
    ∃ (n : Nat) (K I : Int) (F : Nat) (S : ByteArray) (v4 : Value) (y4 : DataW H × List MemPlace), fuel = n + 1 ∧ cs = [.int .i64 K, .int .i64 I, .float .f64 F, .string S, v4] ∧
      okI K ∧ okI I ∧ F < 2 ^ 64 ∧ S.size ≤ maxLen ∧ DataW.trod enc Try.prog w base spare held n 25 [v4] = some y4 ∧ ∀ q ∈ y4.2, q ∈ x.2 := by
  obtain ⟨xs, n, rfl, hxx, hl, hlen, hf⟩ := DataW.trod_struct struct5 h
  rw [cells5] at hl
  match cs, hl with
  | [c0, c1, c2, c3, c4], _ =>
    have hs : (Try.prog.fieldsOf 27).size = 5 := by
      have := congrArg List.length fields5
      simpa using this
    rw [hs] at hlen
    have each : ∀ i (hi : i < 5), ∃ f, (Try.prog.fieldsOf 27)[i]? = some f ∧ (f.type, f.offset, Try.prog.cellsOf f.type) = [(3, 0, 1), (2, 1, 1), (24, 2, 1), (9, 3, 1), (25, 4, 1)][i] := by
      intro i hi
      have h1 : i < (Try.prog.fieldsOf 27).size := by omega
      refine ⟨(Try.prog.fieldsOf 27)[i], by simp [h1], ?_⟩
      have := congrArg (fun l => l[i]?) fields5
      simp only [List.getElem?_map, Array.getElem?_toList] at this
      rw [Array.getElem?_eq_getElem h1] at this
      rw [List.getElem?_eq_getElem (by simpa using hi)] at this
      exact Option.some.inj this
    match xs, hlen with
    | [y0, y1, y2, y3, y4], _ =>
      obtain ⟨f0, g0, e0⟩ := each 0 (by omega)
      obtain ⟨f1, g1, e1⟩ := each 1 (by omega)
      obtain ⟨f2, g2, e2⟩ := each 2 (by omega)
      obtain ⟨f3, g3, e3⟩ := each 3 (by omega)
      obtain ⟨f4, g4, e4⟩ := each 4 (by omega)
      have r0 := hf 0 f0 g0
      have r1 := hf 1 f1 g1
      have r2 := hf 2 f2 g2
      have r3 := hf 3 f3 g3
      have r4 := hf 4 f4 g4
      simp only [List.getElem_cons_zero, List.getElem_cons_succ, Prod.mk.injEq] at e0 e1 e2 e3 e4
      rw [e0.1, e0.2.1, show Try.prog.cellsOf 3 = 1 by kernel_rfl] at r0
      rw [e1.1, e1.2.1, show Try.prog.cellsOf 2 = 1 by kernel_rfl] at r1
      rw [e2.1, e2.2.1, show Try.prog.cellsOf 24 = 1 by kernel_rfl] at r2
      rw [e3.1, e3.2.1, show Try.prog.cellsOf 9 = 1 by kernel_rfl] at r3
      rw [e4.1, e4.2.1, cells1] at r4
      simp at r0 r1 r2 r3 r4
      obtain ⟨K, hK, _, wK⟩ := DataW.trod_int Try.underlying3 r0
      obtain ⟨I, hI, _, wI⟩ := DataW.trod_int Try.underlying2 r1
      obtain ⟨S, hS, _, wS⟩ := DataW.trod_string Try.underlying9 r3
      have hfl : ∃ F, c2 = .float .f64 F ∧ (Lit.float .f64 F).wf = true := by
        cases n with
        | zero => simp [DataW.trod] at r2
        | succ m =>
          unfold DataW.trod at r2
          rw [Try.underlying24] at r2
          split at r2 <;> simp_all
      obtain ⟨F, hF, wF⟩ := hfl
      refine ⟨n, K, I, F, S, c4, y4, rfl, ?_, ok_of_wf wK, ok_of_wf wI, by simpa [Lit.wf] using wF, wS, r4, fun q hq => by rw [hxx]; exact List.mem_flatMap.2 ⟨y4, by simp, hq⟩⟩
      simp only [List.cons.injEq, and_true] at hK hI hS
      rw [hK, hI, hF, hS]

set_option maxRecDepth 100000 in
theorem repP_of_trod : ∀ (n fuel : Nat), fuel ≤ 2 * n → ∀ (cs : List Value) (x : DataW H × List MemPlace), DataW.trod enc Try.prog w base spare held fuel 27 cs = some x → (∀ b off, MemPlace.cell b off ∈ x.2 → w.frozen? ⟨b, off, none⟩ = false) → ∃ T : VT n, RepP w n (.agg cs.toArray) T := by
  intro n
  induction n with
  | zero =>
    intro fuel hf cs x h hfz
    obtain rfl : fuel = 0 := by omega
    simp [DataW.trod] at h
  | succ n ih =>
    intro fuel hf cs x h hfz
    obtain ⟨m, K, I, F, S, v4, y4, rfl, rfl, oK, oI, oF, oS, h4, hin⟩ := trod5P h
    rcases DataW.trod_slice Try.underlying25 h4 with ⟨hc, _⟩ | ⟨a, len, cap, elems, rest, g, rfl, hc, hy, hb, hl, hm, hlen, hel, _, _⟩
    · simp only [List.cons.injEq, and_true] at hc
      subst hc
      exact ⟨(K, I, F, S, []), none, 0, 0, rfl, oK, oI, oF, oS, rfl, Nat.le_refl _, Nat.zero_le _, fun h => absurd h (Nat.lt_irrefl _)⟩
    · simp only [List.cons.injEq, and_true] at hc
      subst hc
      rw [cells5] at hel hy
      have one : ∀ i, i < len → ∃ cs', w.cells? base (a.add (i * 5)) 5 = some cs' ∧ ∃ T : VT n, RepP w n (.agg cs'.toArray) T := by
        intro i hi
        have := hel i hi
        rw [List.getElem?_eq_getElem (by omega)] at this
        obtain ⟨cs', h1, h2⟩ := Option.bind_eq_some_iff.1 this
        exact ⟨cs', h1, ih g (by omega) cs' _ h2 (fun b off hq => hfz b off (hin _ (by rw [hy]; exact List.mem_append_right _ (List.mem_flatMap.2 ⟨_, List.mem_append_left _ (List.getElem_mem (by omega : i < elems.length)), hq⟩))))⟩
      obtain ⟨b, off, spot⟩ := a
      by_cases hl0 : 0 < len
      · have hspot : spot = none := by
          obtain ⟨cs', h1, _⟩ := one 0 hl0
          obtain ⟨_, _, h3⟩ := World.cells?_some h1
          have h30 := h3 0 (by omega)
          simp only [Nat.zero_mul, Addr.add, if_true] at h30
          cases hs : spot with
          | none => rfl
          | some z =>
            rw [hs] at h30
            simp [World.cell?] at h30
            split at h30 <;> simp_all
        subst hspot
        obtain ⟨L, hL, hE⟩ := list_of (P := fun i (T : VT n) => ∃ v0 v1 v2 v3 v4,
          w.cell? ⟨b, off + i * 5, none⟩ = some v0 ∧ w.cell? ⟨b, off + i * 5 + 1, none⟩ = some v1 ∧ w.cell? ⟨b, off + i * 5 + 2, none⟩ = some v2 ∧
          w.cell? ⟨b, off + i * 5 + 3, none⟩ = some v3 ∧ w.cell? ⟨b, off + i * 5 + 4, none⟩ = some v4 ∧ RepP w n (.agg #[v0, v1, v2, v3, v4]) T) len (fun i hi => by
            obtain ⟨cs', h1, T, hT⟩ := one i hi
            obtain ⟨_, h2, h3⟩ := World.cells?_some h1
            match cs', h2 with
            | [v0, v1, v2, v3, v4], _ =>
              have a0 := h3 0 (by omega)
              have a1 := h3 1 (by omega)
              have a2 := h3 2 (by omega)
              have a3 := h3 3 (by omega)
              have a4 := h3 4 (by omega)
              have e : (Addr.add ⟨b, off, none⟩ (i * 5)) = ⟨b, off + i * 5, none⟩ := by
                unfold Addr.add; split <;> simp_all
              rw [e] at a0 a1 a2 a3 a4
              simp [Addr.add] at a0 a1 a2 a3 a4
              exact ⟨T, v0, v1, v2, v3, v4, a0, a1, a2, a3, a4, hT⟩)
        have hpw : Pw w ⟨b, off, none⟩ := by
          obtain ⟨v0, v1, v2, v3, v4, c0, _⟩ := hE 0 (by omega)
          have c0' : w.cell? ⟨b, off, none⟩ = some v0 := by simpa using c0
          exact pw_of c0' (hfz b off (hin _ (by rw [hy]; exact List.mem_append_left _ (MemPlace.mem_row.2 ⟨0, by omega, rfl⟩))))
        exact ⟨(K, I, F, S, L), some ⟨b, off, none⟩, len, cap, rfl, oK, oI, oF, oS, hL, hl, hm, fun _ => ⟨b, off, rfl, hpw, hE⟩⟩
      · obtain rfl : len = 0 := by omega
        exact ⟨(K, I, F, S, []), some ⟨b, off, spot⟩, 0, cap, rfl, oK, oI, oF, oS, rfl, hl, hm, fun h => absurd h hl0⟩
theorem repLP_of_trod (n fuel : Nat) (hf : fuel ≤ 2 * n + 1) (p : Option Addr) (l c : Nat) (x : DataW H × List MemPlace) (h : DataW.trod enc Try.prog w base spare held fuel 25 [.slice p l c] = some x) (hfz : ∀ b off, MemPlace.cell b off ∈ x.2 → w.frozen? ⟨b, off, none⟩ = false) : ∃ L : List (VT n), RepLP w (RepP w n) p l c L := by
  rcases DataW.trod_slice Try.underlying25 h with ⟨hc, _⟩ | ⟨a, len, cap, elems, rest, g, rfl, hc, hy, hb, hl, hm, hlen, hel, _, _⟩
  · simp only [List.cons.injEq, Value.slice.injEq, and_true] at hc
    obtain ⟨rfl, rfl, rfl⟩ := hc
    exact ⟨[], rfl, Nat.le_refl _, Nat.zero_le _, fun h => absurd h (Nat.lt_irrefl _)⟩
  · simp only [List.cons.injEq, Value.slice.injEq, and_true] at hc
    obtain ⟨rfl, rfl, rfl⟩ := hc
    rw [cells5] at hel hy
    have one : ∀ i, i < l → ∃ cs', w.cells? base (a.add (i * 5)) 5 = some cs' ∧ ∃ T : VT n, RepP w n (.agg cs'.toArray) T := by
      intro i hi
      have := hel i hi
      rw [List.getElem?_eq_getElem (by omega)] at this
      obtain ⟨cs', h1, h2⟩ := Option.bind_eq_some_iff.1 this
      exact ⟨cs', h1, repP_of_trod n g (by omega) cs' _ h2 (fun b off hq => hfz b off (by rw [hy]; exact List.mem_append_right _ (List.mem_flatMap.2 ⟨_, List.mem_append_left _ (List.getElem_mem (by omega : i < elems.length)), hq⟩)))⟩
    obtain ⟨b, off, spot⟩ := a
    by_cases hl0 : 0 < l
    · have hspot : spot = none := by
        obtain ⟨cs', h1, _⟩ := one 0 hl0
        obtain ⟨_, _, h3⟩ := World.cells?_some h1
        have h30 := h3 0 (by omega)
        simp only [Nat.zero_mul, Addr.add, if_true] at h30
        cases hs : spot with
        | none => rfl
        | some z =>
          rw [hs] at h30
          simp [World.cell?] at h30
          split at h30 <;> simp_all
      subst hspot
      obtain ⟨L, hL, hE⟩ := list_of (P := fun i (T : VT n) => ∃ v0 v1 v2 v3 v4,
        w.cell? ⟨b, off + i * 5, none⟩ = some v0 ∧ w.cell? ⟨b, off + i * 5 + 1, none⟩ = some v1 ∧ w.cell? ⟨b, off + i * 5 + 2, none⟩ = some v2 ∧
        w.cell? ⟨b, off + i * 5 + 3, none⟩ = some v3 ∧ w.cell? ⟨b, off + i * 5 + 4, none⟩ = some v4 ∧ RepP w n (.agg #[v0, v1, v2, v3, v4]) T) l (fun i hi => by
          obtain ⟨cs', h1, T, hT⟩ := one i hi
          obtain ⟨_, h2, h3⟩ := World.cells?_some h1
          match cs', h2 with
          | [v0, v1, v2, v3, v4], _ =>
            have a0 := h3 0 (by omega)
            have a1 := h3 1 (by omega)
            have a2 := h3 2 (by omega)
            have a3 := h3 3 (by omega)
            have a4 := h3 4 (by omega)
            have e : (Addr.add ⟨b, off, none⟩ (i * 5)) = ⟨b, off + i * 5, none⟩ := by
              unfold Addr.add; split <;> simp_all
            rw [e] at a0 a1 a2 a3 a4
            simp [Addr.add] at a0 a1 a2 a3 a4
            exact ⟨T, v0, v1, v2, v3, v4, a0, a1, a2, a3, a4, hT⟩)
      have hpw : Pw w ⟨b, off, none⟩ := by
        obtain ⟨v0, v1, v2, v3, v4, c0, _⟩ := hE 0 (by omega)
        have c0' : w.cell? ⟨b, off, none⟩ = some v0 := by simpa using c0
        exact pw_of c0' (hfz b off (by rw [hy]; exact List.mem_append_left _ (MemPlace.mem_row.2 ⟨0, by omega, rfl⟩)))
      exact ⟨L, hL, hl, hm, fun _ => ⟨b, off, rfl, hpw, hE⟩⟩
    · obtain rfl : l = 0 := by omega
      exact ⟨[], rfl, hl, hm, fun h => absurd h hl0⟩
set_option maxRecDepth 100000 in
end
def ActLP (w : World) (n : Nat) (p : Option Addr) (l c : Nat) (L : List (Nat × List (VT (n + 1)))) : Prop :=
  L.length = l ∧ l ≤ c ∧ c ≤ maxLen ∧ (0 < l → ∃ b off, p = some ⟨b, off, none⟩ ∧ ∀ i (h : i < L.length), ∃ q m d, L[i].1 < 256 ∧ w.cell? ⟨b, off + i * 2, none⟩ = some (.int .u8 (L[i].1 : Nat)) ∧ w.cell? ⟨b, off + i * 2 + 1, none⟩ = some (.slice q m d) ∧ RepLP w (RepP w (n + 1)) q m d L[i].2)
section
variable {H : Type} {enc : TypeId × Value → H} {w : World} {base : Nat} {spare : Nat → Bool} {held : Bool}
set_option maxRecDepth 100000 in
theorem trodActP {fuel n : Nat} (hn : fuel ≤ n) {cs : List Value} {x : DataW H × List MemPlace} (h : DataW.trod enc Try.prog w base spare held fuel 31 cs = some x) (hfz : ∀ b off, MemPlace.cell b off ∈ x.2 → w.frozen? ⟨b, off, none⟩ = false) : ∃ (k : Nat) (q : Option Addr) (m d : Nat) (L : List (VT (n + 1))), cs = [.int .u8 (k : Nat), .slice q m d] ∧ k < 256 ∧ RepLP w (RepP w (n + 1)) q m d L := by
  obtain ⟨xs, g, rfl, hxx, hl, hlen, hf⟩ := DataW.trod_struct structAct h
  rw [cellsAct] at hl
  obtain ⟨hs, each⟩ := fields_at fieldsAct
  match cs, hl with
  | [c0, c1], _ =>
    rw [hs] at hlen
    match xs, hlen with
    | [y0, y1], _ =>
      obtain ⟨f0, g0, e0⟩ := each 0 (by decide)
      obtain ⟨f1, g1, e1⟩ := each 1 (by decide)
      have r0 := hf 0 f0 g0
      have r1 := hf 1 f1 g1
      simp only [List.getElem_cons_zero, List.getElem_cons_succ, Prod.mk.injEq] at e0 e1
      rw [e0.2.2, e0.1, e0.2.1] at r0
      rw [e1.2.2, e1.1, e1.2.1] at r1
      simp at r0 r1
      obtain ⟨i1, h1, _, w1⟩ := DataW.trod_int Try.underlying5 r0
      simp only [List.cons.injEq, and_true] at h1
      subst h1
      have hw := wf_u8a w1
      have hsl : ∃ p l c, c1 = .slice p l c := by
        rcases DataW.trod_slice Try.underlying25 r1 with ⟨hc, _⟩ | ⟨a, len, cap, elems, rest, g, _, hc, _⟩
        · simp only [List.cons.injEq, and_true] at hc
          exact ⟨_, _, _, hc⟩
        · simp only [List.cons.injEq, and_true] at hc
          exact ⟨_, _, _, hc⟩
      obtain ⟨q, m, d, rfl⟩ := hsl
      obtain ⟨L, hL⟩ := repLP_of_trod (n + 1) g (by omega) q m d _ r1 (fun b off hq => hfz b off (by rw [hxx]; exact List.mem_flatMap.2 ⟨y1, by simp, hq⟩))
      refine ⟨i1.toNat, q, m, d, L, ?_, by omega, hL⟩
      rw [Int.toNat_of_nonneg hw.1]
set_option maxRecDepth 100000 in
theorem actsP_of_Trod {v : Value} {d : DataW H} {ps : List MemPlace} {b0 : Nat} (h : DataW.Trod enc Try.prog w base spare held 22 v d ps) (hfz : w.noneFrozen ps) (ho : Value.okWide Try.prog w .any b0 22 v) :
    ∃ (n : Nat) (p : Option Addr) (l c : Nat) (L : List (Nat × List (VT (n + 1)))), v = .slice p l c ∧ ActLP w n p l c L := by
  obtain ⟨p, l, c, rfl⟩ := okWide_slice Try.underlying22 ho
  obtain ⟨fuel, hf0⟩ := h
  have h : DataW.trod enc Try.prog w base spare held fuel 22 [.slice p l c] = some (d, ps) := by simpa [Value.cells] using hf0
  rcases DataW.trod_slice Try.underlying22 h with ⟨hc, _⟩ | ⟨a, len, cap, elems, rest, g, rfl, hc, hy, hb, hl, hm, hlen, hel, _, _⟩
  · simp only [List.cons.injEq, Value.slice.injEq, and_true] at hc
    obtain ⟨rfl, rfl, rfl⟩ := hc
    exact ⟨0, _, _, _, [], rfl, rfl, Nat.le_refl _, Nat.zero_le _, fun h => absurd h (Nat.lt_irrefl _)⟩
  · simp only [List.cons.injEq, Value.slice.injEq, and_true] at hc
    obtain ⟨rfl, rfl, rfl⟩ := hc
    rw [cellsAct] at hel
    have one : ∀ i, i < l → ∃ cs', w.cells? base (a.add (i * 2)) 2 = some cs' ∧ ∃ (k : Nat) (q : Option Addr) (m d : Nat) (L : List (VT (g + 1))), cs' = [.int .u8 (k : Nat), .slice q m d] ∧ k < 256 ∧ RepLP w (RepP w (g + 1)) q m d L := by
      intro i hi
      have := hel i hi
      rw [List.getElem?_eq_getElem (by omega)] at this
      obtain ⟨cs', h1, h2⟩ := Option.bind_eq_some_iff.1 this
      exact ⟨cs', h1, trodActP (Nat.le_refl g) h2 (fun b off hq => hfz b off (by rw [show ps = _ from congrArg Prod.snd hy]; exact List.mem_append_right _ (List.mem_flatMap.2 ⟨_, List.mem_append_left _ (List.getElem_mem (by omega : i < elems.length)), hq⟩)))⟩
    obtain ⟨b, off, spot⟩ := a
    by_cases hl0 : 0 < l
    · have hspot : spot = none := by
        obtain ⟨cs', h1, _⟩ := one 0 hl0
        obtain ⟨_, _, h3⟩ := World.cells?_some h1
        have h30 := h3 0 (by omega)
        simp only [Nat.zero_mul, Addr.add, if_true] at h30
        cases hs : spot with
        | none => rfl
        | some z =>
          rw [hs] at h30
          simp [World.cell?] at h30
          split at h30 <;> simp_all
      subst hspot
      obtain ⟨L, hL, hE⟩ := list_of (P := fun i (X : Nat × List (VT (g + 1))) => ∃ q m d, X.1 < 256 ∧ w.cell? ⟨b, off + i * 2, none⟩ = some (.int .u8 (X.1 : Nat)) ∧ w.cell? ⟨b, off + i * 2 + 1, none⟩ = some (.slice q m d) ∧ RepLP w (RepP w (g + 1)) q m d X.2) l (fun i hi => by
          obtain ⟨cs', h1, k, q, m, d, L, rfl, hk, hr⟩ := one i hi
          obtain ⟨_, h2, h3⟩ := World.cells?_some h1
          have a0 := h3 0 (by omega)
          have a1 := h3 1 (by omega)
          have e : (Addr.add ⟨b, off, none⟩ (i * 2)) = ⟨b, off + i * 2, none⟩ := by
            unfold Addr.add; split <;> simp_all
          rw [e] at a0 a1
          simp [Addr.add] at a0 a1
          exact ⟨(k, L), q, m, d, hk, a0, a1, hr⟩)
      exact ⟨g, _, _, _, L, rfl, hL, hl, hm, fun _ => ⟨b, off, rfl, hE⟩⟩
    · obtain rfl : l = 0 := by omega
      exact ⟨0, _, _, _, [], rfl, rfl, hl, hm, fun h => absurd h hl0⟩
end
end Num
end Go.Proofs.Yteodljkcbddehaa
