/-
  A map from letters to true: looked up, added to, taken from, counted.
-/
import Derived.Test.YtamogpbbaihaaaaQV
import Derived.Maps.Own
namespace Go.Proofs.Ytamogpbbaihaaaa
open Go.RowKit
namespace Num
open Ints
set_option linter.unusedSimpArgs false
set_option linter.unusedVariables false
theorem map_erase {α β : Type} (f : α → β) : ∀ (l : List α) (i : Nat), (l.eraseIdx i).map f = (l.map f).eraseIdx i
  | [], i => by simp
  | x :: r, 0 => rfl
  | x :: r, i + 1 => by rw [List.eraseIdx_cons_succ, List.map_cons, List.map_cons, List.eraseIdx_cons_succ, map_erase f r i]
theorem let_under : Try.prog.underlying 50 = some (.map 5 4) := by kernel_rfl
theorem zero_bool (w : World) : (zeroValue 4).run Try.prog w = .ok (.bool false) w := by kernel_rfl
/-- The entries are these letters', each true. -/
def MpE (KL : List Nat) (es : List MapEntry) : Prop := es.map (fun e => (e.key, e.val)) = KL.map fun (c : Nat) => ((.int .u8 (97 + (c : Int)) : Value), Value.bool true)
theorem mp_find (c : Nat) : ∀ (KL : List Nat) (es : List MapEntry) (i : Nat), MpE KL es → Instr.findNow (.int .u8) (.int .u8 (97 + (c : Int))) es i = some ((KL.findIdx? (· == c)).map fun j => (i + j, Value.bool true))
  | [], [], i, _ => rfl
  | [], e :: es, i, h => by cases h
  | k :: KL, [], i, h => by cases h
  | k :: KL, e :: es, i, h => by
    have h' : (e.key, e.val) = ((.int .u8 (97 + (k : Int)) : Value), Value.bool true) ∧ MpE KL es := List.cons.inj h
    obtain ⟨h1, h2⟩ := h'
    obtain ⟨hk, hv⟩ := Prod.mk.inj h1
    unfold Instr.findNow
    rw [hk, hv, List.findIdx?_cons]
    simp only [Instr.sameNow]
    by_cases hc : k = c
    · subst hc
      simp
    · have e1 : ((97 + (c : Int) : Int) == 97 + (k : Int)) = false := by rw [beq_eq_false_iff_ne]; omega
      have e2 : (k == c) = false := by rw [beq_eq_false_iff_ne]; exact hc
      simp only [e1, e2, if_true]
      rw [mp_find c KL es (i + 1) h2]
      cases KL.findIdx? (· == c) with
      | none => simp
      | some j => simp; omega
theorem mp_check (em : Bool) (w : World) (k : Int) : (Instr.checkKey em 10000 5 (.int .u8 k)).run Try.prog w = .ok () w := by
  unfold Instr.checkKey
  simp [run_underlying Try.underlying5]
theorem mp_key (w : World) (c : Nat) (KL : List Nat) (es : List MapEntry) (h : MpE KL es) : (Instr.findKey 5 (.int .u8 (97 + (c : Int))) es).run Try.prog w = .ok ((KL.findIdx? (· == c)).map fun j => (j, Value.bool true)) w := by
  have e := mp_find c KL es 0 h
  simp only [Nat.zero_add] at e
  simp [Instr.findKey, run_underlying Try.underlying5, e]
theorem mp_idx (c : Nat) (KL : List Nat) : (KL.findIdx? (· == c)).isSome = KL.contains c := by
  rw [List.findIdx?_isSome]
  induction KL with
  | nil => rfl
  | cons k r ih => rw [List.any_cons, List.contains_cons, ih]; simp [Bool.beq_comm, BEq.comm]
theorem mp_look (w : World) (mb : Nat) (KL : List Nat) (es : Array MapEntry) (ck c : Nat) (hm : w.heap[mb]? = some (.map es ck)) (h : MpE KL es.toList) :
    (Instr.lookup 50 (.map (some mb)) (.int .u8 (97 + (c : Int))) false).run Try.prog w = .ok (.bool (KL.contains c)) w := by
  rw [← mp_idx]
  cases hf : KL.findIdx? (· == c) <;> simp [Instr.lookup, run_underlying let_under, MapKept.run_getObj_map hm, mp_check, mp_key w c KL es.toList h, hf, zero_bool]
theorem mp_len (w : World) (mb : Nat) (KL : List Nat) (es : Array MapEntry) (ck : Nat) (ty : TypeId) (hm : w.heap[mb]? = some (.map es ck)) (h : MpE KL es.toList) :
    (Builtin.len_ #[50] ty #[.map (some mb)]).run Try.prog w = .ok (.int .i64 KL.length) w := by
  have e : es.size = KL.length := by
    have := congrArg List.length h
    rw [List.length_map, List.length_map] at this
    exact this
  simp [Builtin.len_, run_underlying let_under, MapKept.run_getObj_map hm, e]
  rfl
def mpW (w : World) (mb : Nat) (es : Array MapEntry) (ck : Nat) : World := { w with heap := w.heap.setIfInBounds mb (.map es ck) }
theorem mpW_other {w : World} {mb b : Nat} {es : Array MapEntry} {ck : Nat} (h : b ≠ mb) : (mpW w mb es ck).heap[b]? = w.heap[b]? := by
  show (w.heap.setIfInBounds mb _)[b]? = _
  rw [Array.getElem?_setIfInBounds, if_neg (Ne.symm h)]
theorem mpW_same {w : World} {mb : Nat} {o : Obj} {es : Array MapEntry} {ck : Nat} (h : w.heap[mb]? = some o) : (mpW w mb es ck).heap[mb]? = some (.map es ck) := by
  show (w.heap.setIfInBounds mb _)[mb]? = _
  rw [Array.getElem?_setIfInBounds, if_pos rfl, if_pos (row_lt h)]
theorem mpW_size (w : World) (mb : Nat) (es : Array MapEntry) (ck : Nat) : (mpW w mb es ck).heap.size = w.heap.size := Array.size_setIfInBounds
theorem mpW_below {W w : World} {B mb : Nat} {es : Array MapEntry} {ck : Nat} (h : Below B W w) (hb : B ≤ mb) : Below B W (mpW w mb es ck) :=
  ⟨h.os, h.tape, h.output, by rw [mpW_size]; exact h.size, fun i hi => (mpW_other (by omega)).trans (h.block i hi)⟩
/-- What is kept of a map: its entries are these letters'. -/
def Mp (w : World) (mb : Nat) (KL : List Nat) : Prop := ∃ es ck, w.heap[mb]? = some (.map es ck) ∧ MpE KL es.toList
theorem mp_step {w w' : World} {mb : Nat} {KL : List Nat} (h : Mp w mb KL) (hb : Below w.heap.size w w') : Mp w' mb KL := by
  obtain ⟨es, ck, h1, h2⟩ := h
  exact ⟨es, ck, row_step h1 hb, h2⟩
def addK (KL : List Nat) (c : Nat) : List Nat := if KL.contains c = true then KL else KL ++ [c]
theorem mp_upd (w : World) (mb : Nat) (KL : List Nat) (c : Nat) (h : Mp w mb KL) : ∃ es ck, (Instr.mapUpdate 50 (.map (some mb)) (.int .u8 (97 + (c : Int))) (.bool true)).run Try.prog w = .ok () (mpW w mb es ck) ∧ Mp (mpW w mb es ck) mb (addK KL c) := by
  obtain ⟨es, ck, hm, he⟩ := h
  have hid := mp_idx c KL
  unfold addK
  rw [← hid]
  cases hf : KL.findIdx? (· == c) with
  | none =>
    refine ⟨es.push { key := .int .u8 (97 + (c : Int)), val := .bool true, born := ck }, ck + 1, ?_, ?_⟩
    · simp [Instr.mapUpdate, run_underlying let_under, MapKept.run_getObj_map hm, mp_check, mp_key w c KL es.toList he, hf, MapKept.run_setObj_map _ hm]
      rfl
    · refine ⟨_, _, mpW_same hm, ?_⟩
      rw [if_neg (by simp)]
      unfold MpE at he ⊢
      rw [Array.toList_push, List.map_append, List.map_append, he]
      rfl
  | some j =>
    obtain ⟨hj, hp, _⟩ := List.findIdx?_eq_some_iff_getElem.1 hf
    have hc : KL[j] = c := eq_of_beq hp
    have hej : j < es.size := by
      have := congrArg List.length he
      rw [List.length_map, List.length_map, Array.length_toList] at this
      omega
    have hen : (es[j].key, es[j].val) = ((.int .u8 (97 + (c : Int)) : Value), Value.bool true) := by
      have h1 := congrArg (fun l => l[j]?) he
      simp only [List.getElem?_map, List.getElem?_eq_getElem hj, Array.getElem?_toList, Array.getElem?_eq_getElem hej, Option.map_some, hc] at h1
      exact Option.some.inj h1
    have hk : es[j].key = .int .u8 (97 + (c : Int)) := congrArg Prod.fst hen
    refine ⟨es.modify j fun e => { e with key := .int .u8 (97 + (c : Int)), val := .bool true }, ck, ?_, ?_⟩
    · have hst : (Instr.keyThatStays (.int .u8 (97 + (c : Int))) (.int .u8 (97 + (c : Int)))).run Try.prog w = .ok (.int .u8 (97 + (c : Int))) w := by
        unfold Instr.keyThatStays
        simp [Instr.sameBits]
      simp [Instr.mapUpdate, run_underlying let_under, MapKept.run_getObj_map hm, mp_check, mp_key w c KL es.toList he, hf, hej, hk, hst, MapKept.run_setObj_map _ hm]
      rfl
    · refine ⟨_, _, mpW_same hm, ?_⟩
      rw [if_pos (by simp)]
      unfold MpE at he ⊢
      rw [← he, Array.toList_modify]
      apply List.ext_getElem?
      intro i
      rw [List.getElem?_map, List.getElem?_map, List.getElem?_modify]
      by_cases hi : j = i
      · subst hi
        simp [hej, hen]
      · simp [hi]
theorem mp_del (w : World) (mb : Nat) (KL : List Nat) (c : Nat) (ty : TypeId) (h : Mp w mb KL) : ∃ es ck, (Builtin.delete_ #[50, 5] ty #[.map (some mb), .int .u8 (97 + (c : Int))]).run Try.prog w = .ok (.tuple #[]) (mpW w mb es ck) ∧ Mp (mpW w mb es ck) mb (KL.erase c) := by
  obtain ⟨es, ck, hm, he⟩ := h
  rw [List.erase_eq_eraseIdx]
  have hix : KL.idxOf? c = KL.findIdx? (· == c) := rfl
  rw [hix]
  cases hf : KL.findIdx? (· == c) with
  | none =>
    refine ⟨es, ck, ?_, ⟨_, _, mpW_same hm, he⟩⟩
    simp [Builtin.delete_, run_underlying let_under, MapKept.run_getObj_map hm, mp_check, mp_key w c KL es.toList he, hf, MapKept.run_setObj_map _ hm]
    rfl
  | some j =>
    refine ⟨es.eraseIdxIfInBounds j, ck, ?_, ⟨_, _, mpW_same hm, ?_⟩⟩
    · simp [Builtin.delete_, run_underlying let_under, MapKept.run_getObj_map hm, mp_check, mp_key w c KL es.toList he, hf, MapKept.run_setObj_map _ hm]
      rfl
    · unfold MpE at he ⊢
      obtain ⟨hj, _, _⟩ := List.findIdx?_eq_some_iff_getElem.1 hf
      have hej : j < es.size := by
        have := congrArg List.length he
        rw [List.length_map, List.length_map, Array.length_toList] at this
        omega
      rw [show es.eraseIdxIfInBounds j = es.eraseIdx j hej by unfold Array.eraseIdxIfInBounds; rw [dif_pos hej], Array.toList_eraseIdx, map_erase, map_erase, he]
end Num
end Go.Proofs.Ytamogpbbaihaaaa
