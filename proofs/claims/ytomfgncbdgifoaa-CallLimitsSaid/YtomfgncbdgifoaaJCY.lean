/-
  A call that came in: what it reads as.
-/
import Derived.Test.YtomfgncbdgifoaaJp3VTree
import Derived.Test.YtomfgncbdgifoaaJRT
namespace Go.Proofs.Ytomfgncbdgifoaa
open Go.RowKit Go.ChangeShapes Go.WideShapes
namespace Num
open Ints
set_option linter.unusedSimpArgs false
set_option linter.unusedVariables false
theorem cellsOp : Try.prog.cellsOf 29 = 6 := by kernel_rfl
theorem cellsOpId : Try.prog.cellsOf 26 = 3 := by kernel_rfl
theorem structOp : Try.prog.underlying 29 = some (.struct (Try.prog.fieldsOf 29)) := by kernel_rfl
theorem structOpId : Try.prog.underlying 26 = some (.struct (Try.prog.fieldsOf 26)) := by kernel_rfl
theorem fieldsOp : (Try.prog.fieldsOf 29).toList.map (fun f => (f.type, f.offset, Try.prog.cellsOf f.type)) = [(26, 0, 3), (9, 3, 1), (9, 4, 1), (27, 5, 1)] := by kernel_rfl
theorem fieldsOpId : (Try.prog.fieldsOf 26).toList.map (fun f => (f.type, f.offset, Try.prog.cellsOf f.type)) = [(23, 0, 1), (23, 1, 1), (24, 2, 1)] := by kernel_rfl
theorem fields_at {t : TypeId} {l : List (TypeId × Nat × Nat)} (h : (Try.prog.fieldsOf t).toList.map (fun f => (f.type, f.offset, Try.prog.cellsOf f.type)) = l) : (Try.prog.fieldsOf t).size = l.length ∧ ∀ i (hi : i < l.length), ∃ f, (Try.prog.fieldsOf t)[i]? = some f ∧ (f.type, f.offset, Try.prog.cellsOf f.type) = l[i] := by
  have hs : (Try.prog.fieldsOf t).size = l.length := by
    have := congrArg List.length h
    simpa using this
  refine ⟨hs, fun i hi => ?_⟩
  have h1 : i < (Try.prog.fieldsOf t).size := by omega
  refine ⟨(Try.prog.fieldsOf t)[i], by simp [h1], ?_⟩
  have := congrArg (fun l => l[i]?) h
  simp only [List.getElem?_map, Array.getElem?_toList] at this
  rw [Array.getElem?_eq_getElem h1, List.getElem?_eq_getElem hi] at this
  exact Option.some.inj this
set_option maxRecDepth 100000 in
theorem wf_u32 {a : Int} (ha : (Lit.int .u32 a).wf = true) : 0 ≤ a ∧ a < 4294967296 := by
  simp only [Lit.wf, decide_eq_true_eq, IntKind.min, IntKind.max] at ha
  have h1 : IntKind.u32.bits = 32 := rfl
  simp [IntKind.signed, h1] at ha
  omega
set_option maxRecDepth 100000 in
theorem wf_u16 {a : Int} (ha : (Lit.int .u16 a).wf = true) : 0 ≤ a ∧ a < 65536 := by
  simp only [Lit.wf, decide_eq_true_eq, IntKind.min, IntKind.max] at ha
  have h1 : IntKind.u16.bits = 16 := rfl
  simp [IntKind.signed, h1] at ha
  omega
section
variable {H : Type} {enc : TypeId × Value → H} {w : World} {base : Nat} {spare : Nat → Bool} {held : Bool}
set_option maxRecDepth 100000 in
theorem trodId {fuel : Nat} {cs : List Value} {x : DataW H × List MemPlace} (h : DataW.trod enc Try.prog w base spare held fuel 26 cs = some x) : ∃ i1 i2 i3 : Int, cs = [.int .u32 i1, .int .u32 i2, .int .u16 i3] ∧ (0 ≤ i1 ∧ i1 < 4294967296) ∧ (0 ≤ i2 ∧ i2 < 4294967296) ∧ (0 ≤ i3 ∧ i3 < 65536) := by
  obtain ⟨xs, n, rfl, _, hl, hlen, hf⟩ := DataW.trod_struct structOpId h
  rw [cellsOpId] at hl
  obtain ⟨hs, each⟩ := fields_at fieldsOpId
  match cs, hl with
  | [c0, c1, c2], _ =>
    rw [hs] at hlen
    match xs, hlen with
    | [y0, y1, y2], _ =>
      obtain ⟨f0, g0, e0⟩ := each 0 (by decide)
      obtain ⟨f1, g1, e1⟩ := each 1 (by decide)
      obtain ⟨f2, g2, e2⟩ := each 2 (by decide)
      have r0 := hf 0 f0 g0
      have r1 := hf 1 f1 g1
      have r2 := hf 2 f2 g2
      simp only [List.getElem_cons_zero, List.getElem_cons_succ, Prod.mk.injEq] at e0 e1 e2
      rw [e0.2.2, e0.1, e0.2.1] at r0
      rw [e1.2.2, e1.1, e1.2.1] at r1
      rw [e2.2.2, e2.1, e2.2.1] at r2
      simp at r0 r1 r2
      obtain ⟨i1, h1, _, w1⟩ := DataW.trod_int Try.underlying23 r0
      obtain ⟨i2, h2, _, w2⟩ := DataW.trod_int Try.underlying23 r1
      obtain ⟨i3, h3, _, w3⟩ := DataW.trod_int Try.underlying24 r2
      simp only [List.cons.injEq, and_true] at h1 h2 h3
      subst h1 h2 h3
      exact ⟨i1, i2, i3, rfl, wf_u32 w1, wf_u32 w2, wf_u16 w3⟩
set_option maxRecDepth 100000 in
theorem trodOp {fuel : Nat} {cs : List Value} {x : DataW H × List MemPlace} (h : DataW.trod enc Try.prog w base spare held fuel 29 cs = some x) : ∃ (i1 i2 i3 : Int) (S1 S2 : ByteArray) (q : Option Addr) (m d n : Nat) (L : List (VT (n + 1))), cs = [.int .u32 i1, .int .u32 i2, .int .u16 i3, .string S1, .string S2, .slice q m d] ∧ (0 ≤ i1 ∧ i1 < 4294967296) ∧ (0 ≤ i2 ∧ i2 < 4294967296) ∧ (0 ≤ i3 ∧ i3 < 65536) ∧ S1.size ≤ maxLen ∧ S2.size ≤ maxLen ∧ RepL w (Rep w (n + 1)) q m d L := by
  obtain ⟨xs, n, rfl, _, hl, hlen, hf⟩ := DataW.trod_struct structOp h
  rw [cellsOp] at hl
  obtain ⟨hs, each⟩ := fields_at fieldsOp
  match cs, hl with
  | [c0, c1, c2, c3, c4, c5], _ =>
    rw [hs] at hlen
    match xs, hlen with
    | [y0, y1, y2, y3], _ =>
      obtain ⟨f0, g0, e0⟩ := each 0 (by decide)
      obtain ⟨f1, g1, e1⟩ := each 1 (by decide)
      obtain ⟨f2, g2, e2⟩ := each 2 (by decide)
      obtain ⟨f3, g3, e3⟩ := each 3 (by decide)
      have r0 := hf 0 f0 g0
      have r1 := hf 1 f1 g1
      have r2 := hf 2 f2 g2
      have r3 := hf 3 f3 g3
      simp only [List.getElem_cons_zero, List.getElem_cons_succ, Prod.mk.injEq] at e0 e1 e2 e3
      rw [e0.2.2, e0.1, e0.2.1] at r0
      rw [e1.2.2, e1.1, e1.2.1] at r1
      rw [e2.2.2, e2.1, e2.2.1] at r2
      rw [e3.2.2, e3.1, e3.2.1] at r3
      simp at r0 r1 r2 r3
      obtain ⟨i1, i2, i3, hi, b1, b2, b3⟩ := trodId r0
      simp only [List.cons.injEq, and_true] at hi
      obtain ⟨rfl, rfl, rfl⟩ := hi
      obtain ⟨S1, hS1, _, wS1⟩ := DataW.trod_string Try.underlying9 r1
      obtain ⟨S2, hS2, _, wS2⟩ := DataW.trod_string Try.underlying9 r2
      simp only [List.cons.injEq, and_true] at hS1 hS2
      subst hS1 hS2
      have hsl : ∃ p l c, c5 = .slice p l c := by
        rcases DataW.trod_slice Try.underlying27 r3 with ⟨hc, _⟩ | ⟨a, len, cap, elems, rest, g, _, hc, _⟩
        · simp only [List.cons.injEq, and_true] at hc
          exact ⟨_, _, _, hc⟩
        · simp only [List.cons.injEq, and_true] at hc
          exact ⟨_, _, _, hc⟩
      obtain ⟨q, m, d, rfl⟩ := hsl
      obtain ⟨L, hL⟩ := repL_of_trod (n + 1) n (by omega) q m d _ r3
      exact ⟨i1, i2, i3, S1, S2, q, m, d, n, L, rfl, b1, b2, b3, wS1, wS2, hL⟩
set_option maxRecDepth 100000 in
theorem op_of_Trod {v : Value} {d : DataW H} {ps : List MemPlace} {b0 : Nat} (h : DataW.Trod enc Try.prog w base spare held 29 v d ps) (ho : Value.okWide Try.prog w .any b0 29 v) : ∃ (i1 i2 i3 : Int) (S1 S2 : ByteArray) (q : Option Addr) (m d n : Nat) (L : List (VT (n + 1))), v = .agg #[.int .u32 i1, .int .u32 i2, .int .u16 i3, .string S1, .string S2, .slice q m d] ∧ (0 ≤ i1 ∧ i1 < 4294967296) ∧ (0 ≤ i2 ∧ i2 < 4294967296) ∧ (0 ≤ i3 ∧ i3 < 65536) ∧ S1.size ≤ maxLen ∧ S2.size ≤ maxLen ∧ RepL w (Rep w (n + 1)) q m d L := by
  obtain ⟨cs, rfl, _⟩ := okWide_struct structOp ho
  obtain ⟨fuel, hf⟩ := h
  obtain ⟨i1, i2, i3, S1, S2, q, m, d, n, L, hc, rest⟩ := trodOp hf
  refine ⟨i1, i2, i3, S1, S2, q, m, d, n, L, ?_, rest⟩
  have e : (Value.agg cs).cells = cs := rfl
  rw [e] at hc
  have := congrArg List.toArray hc
  simpa using this
end
end Num
end Go.Proofs.Ytomfgncbdgifoaa
