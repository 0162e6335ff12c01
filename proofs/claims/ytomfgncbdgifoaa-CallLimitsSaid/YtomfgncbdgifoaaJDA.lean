/-
  A list of Ints that the call makes and appends to; texts of noughts.
-/
import Derived.Test.YtomfgncbdgifoaaJp19CW
import Derived.Laws.OwnMore
import Derived.Laws.MakeOwn
import Derived.Deep.RegionLaw
namespace Go.Proofs.Ytomfgncbdgifoaa
open Go.RowKit
namespace Num
open Ints
set_option linter.unusedSimpArgs false
set_option linter.unusedVariables false
/-- A list of Ints that the call has made and appends to. -/
def OwI (W0 w : World) (p : Option Addr) (l c : Nat) (L : List Int) : Prop := ∃ XS : List Value, w.ownsRow W0.heap.size 47 5 (.slice p l c) l XS ∧ L.length = l ∧
  ∀ i (h : i < L.length), XS[i * 5]? = some (.int .i64 1) ∧ XS[i * 5 + 1]? = some (.int .i64 L[i]) ∧ XS[i * 5 + 2]? = some (.float .f64 0) ∧ XS[i * 5 + 3]? = some (.string ⟨#[]⟩) ∧ XS[i * 5 + 4]? = some (.slice none 0 0)
theorem oi_nil (W0 w : World) : OwI W0 w none 0 0 [] := ⟨[], World.ownsRow_nil _ _ _ _, rfl, fun i h => absurd h (Nat.not_lt_zero _)⟩
theorem oi_grown {W0 w w' : World} {p : Option Addr} {l c : Nat} {L : List Int} {row : Option Nat} (h : OwI W0 w p l c L) (hg : w.grownBy w' row) (hne : (Value.slice p l c).ownBlock = none ∨ (Value.slice p l c).ownBlock ≠ row) : OwI W0 w' p l c L := by
  obtain ⟨XS, h1, h2, h3⟩ := h
  exact ⟨XS, h1.kept hg hne, h2, h3⟩
theorem oi_keep {W0 w w' : World} {p : Option Addr} {l c : Nat} {L : List Int} (h : OwI W0 w p l c L) (hb : Below w.heap.size w w') : OwI W0 w' p l c L := by
  refine oi_grown h (bel_grown hb none) ?_
  cases Value.ownBlock (.slice p l c) with
  | none => exact Or.inl rfl
  | some k => exact Or.inr (by simp)
theorem oi_store {W0 w : World} {p : Option Addr} {l c : Nat} {L : List Int} (h : OwI W0 w p l c L) {B o : Nat} (hB : (Value.slice p l c).ownBlock ≠ some B) (v : Value) : OwI W0 (w.setCell ⟨B, o, none⟩ v) p l c L := by
  refine oi_grown (row := some B) h ⟨rfl, rfl, rfl, ?_, fun k hk hne => ?_⟩ (Or.inr hB)
  · simp [World.setCell]
  · exact Below.heap_setCell _ _ _ _ (fun e => hne (by rw [e]))
section
variable {ops : Array Oper} {o : Oper} {a : Act} {K : Act → World → Prop} {Q : Exit → Act → World → Prop} {E : Prop}
/-- A text behind an owned list, at a step of a region. -/
theorem step_oi (hgd : o.guard = none) (s x : Operand) (ho : o.op = .call { callee := .builtin .append, args := #[s, x], argTypes := #[27, 27] })
    (W0 w : World) (p : Option Addr) (l c : Nat) (L : List Int) (st : Int) (hs : a.eval s = .slice p l c) (hx : a.eval x = .slice (some ⟨w.heap.size, 0, none⟩) 1 1) (hb : OwI W0 w p l c L) (hsz : W0.heap.size ≤ w.heap.size) (hl : l ≤ 1000)
    (h : ∀ p' c' w', OwI W0 w' p' (l + 1) c' (L ++ [st]) → w.grownBy w' (Value.slice p l c).ownBlock → ((Value.slice p' (l + 1) c').ownBlock = (Value.slice p l c).ownBlock ∨ ∃ g, (Value.slice p' (l + 1) c').ownBlock = some g ∧ w.heap.size ≤ g) → K (a.put o.dst (.slice p' (l + 1) c')) w') :
    if Region.wanted o (yielded ops a.tmps) = true then Oper.wp Try.prog o a (w.alloc (.cells #[.int .i64 1, .int .i64 st, .float .f64 0, .string ⟨#[]⟩, .slice none 0 0] 47)) K Q else E := by
  have hw : Region.wanted o (yielded ops a.tmps) = true := by simp [Region.wanted, hgd]
  rw [if_pos hw]
  obtain ⟨i0, hi, hz0, hz1, hz2⟩ := info_parts info_v5
  have hsz1 : (w.alloc (.cells #[.int .i64 1, .int .i64 st, .float .f64 0, .string ⟨#[]⟩, .slice none 0 0] 47)).heap.size = w.heap.size + 1 := World.size_alloc _ _
  obtain ⟨XS, h1, h2, h3⟩ := hb
  have h1' := h1.alloc (.cells #[.int .i64 1, .int .i64 st, .float .f64 0, .string ⟨#[]⟩, .slice none 0 0] 47)
  have hnews : ∀ j u, [Value.int .i64 1, .int .i64 st, .float .f64 0, .string ⟨#[]⟩, .slice none 0 0][j]? = some u → (w.alloc (.cells #[.int .i64 1, .int .i64 st, .float .f64 0, .string ⟨#[]⟩, .slice none 0 0] 47)).cell? ((⟨w.heap.size, 0, none⟩ : Addr).add j) = some u := by
    intro j u hj
    rw [Addr.add_lit, Nat.zero_add, row_cell (row_alloc w _ 47) j, List.getElem?_toArray]
    exact hj
  have hone : ∀ u ∈ [Value.int .i64 1, .int .i64 st, .float .f64 0, .string ⟨#[]⟩, .slice none 0 0], u.oneCell' = true := by
    intro u hu
    simp only [List.mem_cons, List.not_mem_nil, or_false] at hu
    rcases hu with rfl | rfl | rfl | rfl | rfl <;> rfl
  obtain ⟨v', w', hr, r2, r3, r4, r5⟩ := run_append_own_at (P := Try.prog) _ W0.heap.size 27 o.type 47 i0 _ 5 64 Try.underlying27 hi hz0 hz1 hz2 rfl (by decide) (.slice p l c) l XS h1' ⟨w.heap.size, 0, none⟩ 1 1 _ rfl hnews hone (by unfold maxLen; omega) (by omega) (by omega)
  have hpc : ∃ p' c', v' = .slice p' (l + 1) c' := by
    rcases r2.2 with ⟨rfl, hn⟩ | ⟨g, cap, cur, rfl, _⟩
    · exact absurd hn (by omega)
    · exact ⟨_, _, rfl⟩
  obtain ⟨p', c', rfl⟩ := hpc
  unfold Oper.wp execOp
  simp only [ho, resolve, invoke, builtin, Sem.run_bind, Sem.run_pure, Result.andThen_ok, List.map_toArray, List.map_cons, List.map_nil, hs, hx, hr]
  refine h p' c' w' ⟨XS ++ [.int .i64 1, .int .i64 st, .float .f64 0, .string ⟨#[]⟩, .slice none 0 0], r2, by rw [List.length_append, h2]; rfl, fun i hi => ?_⟩ ⟨r3.os, r3.tape, r3.output, by have := r3.size; omega, fun k hk hne => ?_⟩ ?_
  · have hlen := h1.1
    by_cases hlt : i < L.length
    · obtain ⟨c0, c1, c2, c3, c4⟩ := h3 i hlt
      have hlt5 : i * 5 + 5 ≤ XS.length := by omega
      rw [List.getElem_append_left hlt]
      exact ⟨by rw [List.getElem?_append_left (by omega)]; exact c0, by rw [List.getElem?_append_left (by omega)]; exact c1, by rw [List.getElem?_append_left (by omega)]; exact c2, by rw [List.getElem?_append_left (by omega)]; exact c3, by rw [List.getElem?_append_left (by omega)]; exact c4⟩
    · have hie : i = l := by rw [List.length_append, h2] at hi; simp at hi; omega
      subst hie
      have e := five_at hlen (.int .i64 1) (.int .i64 st) (.float .f64 0) (.string ⟨#[]⟩) (.slice none 0 0)
      rw [List.getElem_append_right (by omega)]
      simp only [h2, Nat.sub_self, List.getElem_cons_zero]
      exact ⟨by have := e 0; simpa using this, by rw [e 1]; rfl, by rw [e 2]; rfl, by rw [e 3]; rfl, by rw [e 4]; rfl⟩
  · rw [r3.block k (by omega) hne]
    exact Below.heap_alloc _ _ _ hk
  · rcases r5 with e | e
    · exact Or.inl e
    · exact Or.inr ⟨_, e, by omega⟩
end
theorem own_ge {W0 w : World} {p : Option Addr} {l c : Nat} {L : List Int} (h : OwI W0 w p l c L) : ∀ k, (Value.slice p l c).ownBlock = some k → W0.heap.size ≤ k := by
  obtain ⟨XS, h1, _⟩ := h
  exact fun k hk => (h1.lt k hk).1
theorem own_ne {w : World} {v v' : Value} {B : Nat} (h : v.ownBlock ≠ some B) (hlt : B < w.heap.size) (hw : v'.ownBlock = v.ownBlock ∨ ∃ g, v'.ownBlock = some g ∧ w.heap.size ≤ g) : v'.ownBlock ≠ some B := by
  rcases hw with e | ⟨g, e, hg⟩
  · rw [e]; exact h
  · rw [e]; intro e'; injection e' with e'; omega
theorem oi_puts {W0 w : World} {p : Option Addr} {l c : Nat} {L : List Int} (M : Nat) (h : OwI W0 w p l c L) (hL : ∀ I ∈ L, okI I) : Puts w p l c (L.map fun I => encV (M + 1) (intT M I)) := by
  obtain ⟨XS, h1, h2, h3⟩ := h
  have hcells := fun g (hg : (Value.slice p l c).ownBlock = some g) => h1.cells hg
  rcases h1.2 with ⟨hv, h0⟩ | ⟨g, cap, cur, hv, _, hcur, hle, hm, _⟩
  · injection hv with e1 e2 e3
    subst e1 e2 e3
    exact ⟨by rw [List.length_map]; exact h2, Nat.le_refl _, Nat.zero_le _, fun h => absurd h (Nat.lt_irrefl _)⟩
  · injection hv with e1 e2 e3
    subst e1 e3
    refine ⟨by rw [List.length_map]; exact h2, hle, hm, fun _ => ⟨g, cur, rfl, hcur, fun i hi => ?_⟩⟩
    rw [List.length_map] at hi
    obtain ⟨c0, c1, c2, c3, c4⟩ := h3 i hi
    have hc := hcells g rfl
    have k0 := hc _ _ c0; have k1 := hc _ _ c1; have k2 := hc _ _ c2; have k3 := hc _ _ c3; have k4 := hc _ _ c4
    rw [Addr.add_lit, row_cell hcur, Nat.zero_add] at k0 k1 k2 k3 k4
    refine ⟨1, L[i], 0, ⟨#[]⟩, none, 0, 0, k0, k1, k2, k3, k4, ?_, ?_⟩
    · rw [List.getElem_map, intT_enc]
      exact puts_int L[i] 0 none 0 (hL _ (List.getElem_mem hi)) (by decide) (by decide)
    · rw [List.getElem_map, intT_len]; omega
/-- A text of so many noughts. -/
def nulS (N : Nat) : ByteArray := strB (List.replicate N 0)
theorem nulS_size (N : Nat) : (nulS N).size = N := by
  show (List.toArray (List.map _ _)).size = _
  simp
theorem mk_bytes (N : Nat) (hN : N ≤ 1000) (W : World) : (Instr.makeSlice 22 (.int .i64 (N : Int)) (.int .i64 (N : Int))).run Try.prog W = .ok (.slice (some ⟨W.heap.size, 0, none⟩) N N) (W.alloc (.cells (zb N) 5)) := by
  obtain ⟨i0, hi, hz0, hz1, hz2⟩ := info_parts info_b8
  have h := run_makeSlice W 22 5 i0 (.int .u8 0) Try.underlying22 hi hz0 .i64 .i64 (N : Int) (N : Int) (by omega) (by omega) (by rw [hz1]; omega) (by rw [hz2]; omega) (by omega)
  rw [h, hz1, Int.toNat_natCast]
  rfl
theorem zb_at (N i : Nat) (h : i < N) : (zb N)[i]? = some (.int .u8 0) := by
  have e : (zb N).toList = List.replicate N (Value.int .u8 0) := by
    unfold zb
    rw [Nat.mul_one]
    exact toList_madeCells_one _ _
  rw [← Array.getElem?_toList, e, List.getElem?_replicate, if_pos h]
theorem zb_rd {W : World} {b N : Nat} (h : W.heap[b]? = some (.cells (zb N) 5 (0, 0))) (hN : N ≤ 1000) : RdB W (some ⟨b, 0, none⟩) N N (List.replicate N 0) :=
  ⟨List.length_replicate, Nat.le_refl _, by unfold maxLen; omega, fun _ => ⟨b, 0, rfl, fun i hi => by
    rw [List.length_replicate] at hi
    rw [row_cell h, Nat.zero_add, zb_at N i hi]
    simp⟩, fun e => by cases e⟩
theorem cv_nul {W : World} {b N : Nat} (h : W.heap[b]? = some (.cells (zb N) 5 (0, 0))) (hN : N ≤ 1000) : (convert 22 9 (.slice (some ⟨b, 0, none⟩) N N)).run Try.prog W = .ok (.string (nulS N)) W := rd_string (zb_rd h hN)
end Num
end Go.Proofs.Ytomfgncbdgifoaa
