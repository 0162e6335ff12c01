/-
  A directory's map, told by its names.
-/
import Derived.Test.YtbfnghbfilahnaaMpd
namespace Go.Proofs.Ytbfnghbfilahnaa
open Go.RowKit
namespace Num
open Ints
set_option linter.unusedSimpArgs false
set_option linter.unusedVariables false
/-- A group: its name, its class, its style, its version. -/
structure Gp where
  n : ByteArray
  c : ByteArray
  s : Int
  v : Int
abbrev Gp.a (g : Gp) : Value := .agg #[.string g.n, .string g.c, .int .i64 g.s, .int .u32 g.v]
abbrev Gp.c4 (g : Gp) : List Value := [.string g.n, .string g.c, .int .i64 g.s, .int .u32 g.v]
abbrev Gp.kv (g : Gp) : Value × Value := (.string g.n, g.a)
abbrev gpZ : Value := .agg #[.string ⟨#[]⟩, .string ⟨#[]⟩, .int .i64 0, .int .u32 0]
theorem zero_gp (w : World) : (zeroValue 49).run Try.prog w = .ok gpZ w := by kernel_rfl
theorem gm_under : Try.prog.underlying 56 = some (.map 9 49) := by kernel_rfl
theorem gs_under : Try.prog.underlying 9 = some .string := by kernel_rfl
/-- The map's entries are these groups, one behind another; their stamps are in order. -/
def KvG (es : Array MapEntry) (ck : Nat) (L : List Gp) : Prop := es.toList.map Num.kv = L.map Gp.kv ∧ MapKept.Stamped es ck
/-- Whether two texts are one. -/
def bq (a b : ByteArray) : Bool := a.data == b.data
theorem ba_bq (a b : ByteArray) : (a == b) = bq a b := by cases a; cases b; rfl
theorem bq_iff (a b : ByteArray) : bq a b = true ↔ a = b := by
  cases a; cases b
  unfold bq
  simp
theorem bq_self (a : ByteArray) : bq a a = true := (bq_iff a a).2 rfl
def getG (L : List Gp) (x : ByteArray) : Option Gp := L.find? (fun g => bq x g.n)
theorem check_strK (em : Bool) (w : World) (x : ByteArray) : (Instr.checkKey em 10000 9 (.string x)).run Try.prog w = .ok () w := by
  have h : ∀ k, (Instr.checkKey em (k + 1) 9 (.string x)).run Try.prog w = .ok () w := fun k => by
    unfold Instr.checkKey
    simp [run_underlying gs_under]
  exact h 9999
theorem now_str (x : ByteArray) : ∀ (es : List MapEntry) (L : List Gp) (i : Nat), es.map Num.kv = L.map Gp.kv → Instr.findNow .string (.string x) es i = some ((L.findIdx? (fun g => bq x g.n)).bind fun j => L[j]?.map fun g => (i + j, g.a))
  | [], [], i, _ => by simp [Instr.findNow]
  | [], r :: R, i, h => by simp at h
  | e :: es, [], i, h => by simp at h
  | e :: es, r :: R, i, h => by
    simp only [List.map_cons, List.cons.injEq, Prod.mk.injEq] at h
    obtain ⟨⟨hk, hv⟩, ht⟩ := h
    have ih := now_str x es R (i + 1) ht
    cases hx : bq x r.n with
    | true => simp [Instr.findNow, hk, ba_bq, hx, hv, Instr.sameNow, List.findIdx?_cons]
    | false =>
      simp only [Instr.findNow, hk, Instr.sameNow, ba_bq, hx, ih, List.findIdx?_cons, Bool.false_eq_true, if_false]
      congr 1
      cases hf : R.findIdx? (fun g => bq x g.n) with
      | none => simp
      | some j => simp [Nat.add_assoc, Nat.add_comm 1 j]
theorem find_str (x : ByteArray) (es : List MapEntry) (L : List Gp) (w : World) (h : es.map Num.kv = L.map Gp.kv) : (Instr.findKey 9 (.string x) es).run Try.prog w = .ok ((L.findIdx? (fun g => bq x g.n)).bind fun j => L[j]?.map fun g => (j, g.a)) w := by
  have hn := now_str x es L 0 h
  simp only [Nat.zero_add] at hn
  simp [Instr.findKey, run_underlying gs_under, hn]
theorem look_g (w : World) (mb : Nat) (es : Array MapEntry) (ck : Nat) (L : List Gp) (x : ByteArray) (hm : w.heap[mb]? = some (.map es ck)) (hK : KvG es ck L) :
    (Instr.lookup 56 (.map (some mb)) (.string x) true).run Try.prog w = .ok (match getG L x with | some g => .tuple #[g.a, .bool true] | none => .tuple #[gpZ, .bool false]) w := by
  have hf := find_str x es.toList L w hK.1
  have hg := idx_get (fun g : Gp => bq x g.n) L
  unfold getG
  rw [← hg]
  cases hi : L.findIdx? (fun g => bq x g.n) with
  | none =>
    rw [hi] at hf
    simp [Instr.lookup, run_underlying gm_under, MapKept.run_getObj_map hm, check_strK, hf, zero_gp]
  | some j =>
    rw [hi] at hf
    have hj := (List.findIdx?_eq_some_iff_findIdx_eq.1 hi).1
    simp only [Option.bind_some, List.getElem?_eq_getElem hj, Option.map_some] at hf ⊢
    simp [Instr.lookup, run_underlying gm_under, MapKept.run_getObj_map hm, check_strK, hf]
theorem getG_none {L : List Gp} {x : ByteArray} : getG L x = none ↔ ∀ g ∈ L, g.n ≠ x := by
  unfold getG
  rw [List.find?_eq_none]
  constructor
  · exact fun h g hg e => h g hg ((bq_iff _ _).2 e.symm)
  · exact fun h g hg e => h g hg ((bq_iff _ _).1 e).symm
/-- A group that wasn't there is put behind. -/
theorem put_g (w : World) (mb : Nat) (es : Array MapEntry) (ck : Nat) (L : List Gp) (g : Gp) (hm : w.heap[mb]? = some (.map es ck)) (hK : KvG es ck L) (hn : getG L g.n = none) :
    (Instr.mapUpdate 56 (.map (some mb)) (.string g.n) g.a).run Try.prog w = .ok () (mpD w mb (es.push { key := .string g.n, val := g.a, born := ck }) (ck + 1)) ∧ KvG (es.push { key := .string g.n, val := g.a, born := ck }) (ck + 1) (L ++ [g]) := by
  have h := hK.1
  have hf := find_str g.n es.toList L w h
  have hi : L.findIdx? (fun r => bq g.n r.n) = none := by
    rw [List.findIdx?_eq_none_iff]
    intro r hr
    have := getG_none.1 hn r hr
    cases hb : bq g.n r.n with
    | false => rfl
    | true => exact absurd ((bq_iff _ _).1 hb).symm this
  rw [hi] at hf
  refine ⟨?_, by rw [Array.toList_push, List.map_append, List.map_append, h]; rfl, MapKept.stamped_push hK.2 (fun e he hke => ?_)⟩
  rotate_left
  · have hm2 : Num.kv e ∈ L.map Gp.kv := by rw [← h]; exact List.mem_map.2 ⟨e, he, rfl⟩
    obtain ⟨r', hr', hkr⟩ := List.mem_map.1 hm2
    have hx : (Value.string r'.n) = .string g.n := (congrArg Prod.fst hkr).trans hke
    injection hx with hx
    exact getG_none.1 hn r' hr' hx
  simp [Instr.mapUpdate, run_underlying gm_under, MapKept.run_getObj_map hm, check_strK, hf, MapKept.run_setObj_map _ hm, mpD]
/-- A group goes, if there is one. -/
theorem del_g (w : World) (mb : Nat) (es : Array MapEntry) (ck : Nat) (ty : TypeId) (L : List Gp) (x : ByteArray) (hm : w.heap[mb]? = some (.map es ck)) (hK : KvG es ck L) :
    ∃ es', (Builtin.delete_ #[56, 9] ty #[.map (some mb), .string x]).run Try.prog w = .ok (.tuple #[]) (mpD w mb es' ck) ∧ KvG es' ck (L.eraseP (fun g => bq x g.n)) := by
  have h := hK.1
  have hf := find_str x es.toList L w h
  cases hi : L.findIdx? (fun g => bq x g.n) with
  | none =>
    rw [hi] at hf
    have hne : L.eraseP (fun g => bq x g.n) = L := List.eraseP_of_forall_not (by simpa [List.findIdx?_eq_none_iff] using hi)
    exact ⟨es, by simp [Builtin.delete_, run_underlying gm_under, MapKept.run_getObj_map hm, check_strK, hf, MapKept.run_setObj_map _ hm, mpD], by rw [hne]; exact h, hK.2⟩
  | some j =>
    rw [hi] at hf
    have hj := (List.findIdx?_eq_some_iff_findIdx_eq.1 hi).1
    have hjs : j < es.size := by
      have := congrArg List.length h
      rw [List.length_map, List.length_map, Array.length_toList] at this
      omega
    simp only [Option.bind_some, List.getElem?_eq_getElem hj, Option.map_some] at hf
    refine ⟨es.eraseIdxIfInBounds j, by simp [Builtin.delete_, run_underlying gm_under, MapKept.run_getObj_map hm, check_strK, hf, MapKept.run_setObj_map _ hm, mpD], ?_, MapKept.stamped_erase hK.2 j⟩
    rw [Array.eraseIdxIfInBounds_eq, dif_pos hjs, Array.toList_eraseIdx, map_erase, h, ← map_erase]
    rw [List.eraseP_eq_eraseIdx, hi]
/-- A group anew. -/
def setG (L : List Gp) (g : Gp) : List Gp := match L.findIdx? (fun r => bq g.n r.n) with | some j => L.set j g | none => L ++ [g]
theorem set_g (w : World) (mb : Nat) (es : Array MapEntry) (ck : Nat) (L : List Gp) (g g0 : Gp) (hm : w.heap[mb]? = some (.map es ck)) (hK : KvG es ck L) (hg : getG L g.n = some g0) :
    ∃ es', (Instr.mapUpdate 56 (.map (some mb)) (.string g.n) g.a).run Try.prog w = .ok () (mpD w mb es' ck) ∧ KvG es' ck (setG L g) := by
  have h := hK.1
  have hf := find_str g.n es.toList L w h
  unfold setG
  have hgi := idx_get (fun r : Gp => bq g.n r.n) L
  cases hi : L.findIdx? (fun r => bq g.n r.n) with
  | none => unfold getG at hg; rw [hi, hg] at hgi; cases hgi
  | some j =>
    rw [hi] at hf
    have hj := (List.findIdx?_eq_some_iff_findIdx_eq.1 hi).1
    have hlen : es.toList.length = L.length := by have := congrArg List.length h; rwa [List.length_map, List.length_map] at this
    have hjs : j < es.size := by rw [Array.length_toList] at hlen; omega
    have hcj : g.n = L[j].n := by
      have := List.findIdx?_eq_some_iff_getElem.1 hi
      obtain ⟨_, h1, _⟩ := this
      exact (bq_iff _ _).1 h1
    have hkj : es[j].key = .string g.n := by
      have h1 : (es.toList.map Num.kv)[j]? = (L.map Gp.kv)[j]? := by rw [h]
      rw [List.getElem?_map, List.getElem?_map, List.getElem?_eq_getElem hj, Array.getElem?_toList, Array.getElem?_eq_getElem hjs] at h1
      simp only [Option.map_some, Option.some.injEq, Prod.mk.injEq] at h1
      rw [h1.1, hcj]
    simp only [Option.bind_some, List.getElem?_eq_getElem hj, Option.map_some] at hf
    have hks : (Instr.keyThatStays (.string g.n) (.string g.n)).run Try.prog w = .ok (.string g.n) w := by simp [Instr.keyThatStays, Instr.sameBits, ba_bq, bq_self]
    refine ⟨es.modify j fun e => { e with key := .string g.n, val := g.a }, by simp [Instr.mapUpdate, run_underlying gm_under, MapKept.run_getObj_map hm, check_strK, hf, hjs, hkj, hks, MapKept.run_setObj_map _ hm, mpD], ?_, ?_⟩
    · apply List.ext_getElem?
      intro i
      have h1 : (es.toList.map Num.kv)[i]? = (L.map Gp.kv)[i]? := by rw [h]
      rw [List.getElem?_map, List.getElem?_map] at h1
      rw [List.getElem?_map, List.getElem?_map, Array.getElem?_toList, Array.getElem?_modify, List.getElem?_set]
      by_cases hij : j = i
      · subst hij
        simp [hjs, hj]
      · rw [if_neg hij, if_neg hij, ← Array.getElem?_toList]
        exact h1
    · exact MapKept.stamped_modify hK.2 j _ (fun e _ => rfl) (fun e _ hej => by
        rw [Array.getElem?_eq_getElem hjs] at hej
        have hej2 := Option.some.inj hej
        rw [← hej2]
        exact hkj.symm)
/-- A directory as it lies. -/
def DirG (w : World) (tb mb : Nat) (L : List Gp) : Prop := w.heap[tb]? = some (.cells #[.map (some mb)] 58 (0, 0)) ∧ ∃ es ck, w.heap[mb]? = some (.map es ck) ∧ KvG es ck L
theorem dir_ne {w : World} {tb mb : Nat} {L : List Gp} (h : DirG w tb mb L) : tb ≠ mb := by
  obtain ⟨h1, es, ck, h2, _⟩ := h
  rintro rfl
  rw [h1] at h2
  cases h2
theorem dir_to {w w' : World} {tb mb : Nat} {L : List Gp} (h : DirG w tb mb L) (h1 : w'.heap[tb]? = w.heap[tb]?) (h2 : w'.heap[mb]? = w.heap[mb]?) : DirG w' tb mb L := by
  obtain ⟨k1, es, ck, k2, k3⟩ := h
  exact ⟨h1.trans k1, es, ck, h2.trans k2, k3⟩
theorem dir_step {w w' : World} {tb mb : Nat} {L : List Gp} (h : DirG w tb mb L) (hb : Below w.heap.size w w') : DirG w' tb mb L := by
  have h0 := h
  have h1 := row_lt h.1
  obtain ⟨_, es, ck, h2, _⟩ := h
  exact dir_to h0 (hb.block tb h1) (hb.block mb (row_lt h2))
/-- Four cells anew. -/
def setG4 (w : World) (g : Nat) (a0 a1 a2 a3 : Value) : World := (((w.setCell ⟨g, 0, none⟩ a0).setCell ⟨g, 1, none⟩ a1).setCell ⟨g, 2, none⟩ a2).setCell ⟨g, 3, none⟩ a3
theorem setG4_below {B : Nat} {a w : World} (h : Below B a w) {g : Nat} (hg : B ≤ g) (a0 a1 a2 a3 : Value) : Below B a (setG4 w g a0 a1 a2 a3) :=
  (((h.setCell (p := ⟨g, 0, none⟩) hg _).setCell (p := ⟨g, 1, none⟩) hg _).setCell (p := ⟨g, 2, none⟩) hg _).setCell (p := ⟨g, 3, none⟩) hg _
theorem setG4_other {w : World} {g k : Nat} (hne : k ≠ g) (a0 a1 a2 a3 : Value) : (setG4 w g a0 a1 a2 a3).heap[k]? = w.heap[k]? := by
  unfold setG4
  rw [Below.heap_setCell _ _ _ k hne, Below.heap_setCell _ _ _ k hne, Below.heap_setCell _ _ _ k hne, Below.heap_setCell _ _ _ k hne]
theorem setG4_at {w : World} {g : Nat} {b0 b1 b2 b3 : Value} {t : TypeId} (h : w.heap[g]? = some (.cells #[b0, b1, b2, b3] t (0, 0))) (a0 a1 a2 a3 : Value) : (setG4 w g a0 a1 a2 a3).heap[g]? = some (.cells #[a0, a1, a2, a3] t (0, 0)) := by
  simp [setG4, World.setCell, Array.getElem?_modify, h]
theorem setG4_size (w : World) (g : Nat) (a0 a1 a2 a3 : Value) : (setG4 w g a0 a1 a2 a3).heap.size = w.heap.size := by
  unfold setG4
  simp
/-- All but one block are as they were. -/
def But (mb : Nat) (w w' : World) : Prop := w'.os = w.os ∧ w'.tape = w.tape ∧ w'.output = w.output ∧ w.heap.size ≤ w'.heap.size ∧ ∀ k, k < w.heap.size → k ≠ mb → w'.heap[k]? = w.heap[k]?
theorem but_bel {mb : Nat} {w w' : World} (h : Below w.heap.size w w') : But mb w w' := ⟨h.os, h.tape, h.output, h.size, fun k hk _ => h.block k hk⟩
theorem but_trans {mb : Nat} {x y z : World} (h : But mb x y) (k : But mb y z) : But mb x z := by
  obtain ⟨h1, h2, h3, h4, h5⟩ := h
  obtain ⟨k1, k2, k3, k4, k5⟩ := k
  exact ⟨k1.trans h1, k2.trans h2, k3.trans h3, Nat.le_trans h4 k4, fun b hb hne => (k5 b (Nat.lt_of_lt_of_le hb h4) hne).trans (h5 b hb hne)⟩
theorem but_mp {mb : Nat} {x y : World} (h : But mb x y) (es : Array MapEntry) (ck : Nat) : But mb x (mpD y mb es ck) := by
  obtain ⟨h1, h2, h3, h4, h5⟩ := h
  exact ⟨h1, h2, h3, by show _ ≤ (y.heap.setIfInBounds mb _).size; rw [Array.size_setIfInBounds]; exact h4, fun k hk hne => (mpD_other hne es ck).trans (h5 k hk hne)⟩
theorem but_below {mb B : Nat} {w w' : World} (h : But mb w w') (hb : B ≤ mb) (hs : B ≤ w.heap.size) : Below B w w' :=
  ⟨h.1, h.2.1, h.2.2.1, h.2.2.2.1, fun k hk => h.2.2.2.2 k (Nat.lt_of_lt_of_le hk hs) (by omega)⟩
end Num
end Go.Proofs.Ytbfnghbfilahnaa
