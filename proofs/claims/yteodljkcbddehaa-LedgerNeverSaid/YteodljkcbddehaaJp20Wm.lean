/-
  The survey's memo, whatever its keys are held for.
-/
import Derived.Test.YteodljkcbddehaaJMI
import Derived.Test.YteodljkcbddehaaJp6WLo
import Derived.Test.YteodljkcbddehaaJp9VSurv
import Derived.LaidEql
import Derived.Laws.StructEq
import Derived.MapKept
import Derived.Laws.Cover3
import Derived.RegionTactic
import Derived.Deep.RegionWith
import Derived.Test.YteodljkcbddehaaJHI
namespace Go.Proofs.Yteodljkcbddehaa
open Go.RowKit
namespace Num
open Ints
set_option linter.unusedSimpArgs false
set_option linter.unusedVariables false
theorem row_fields : (Try.prog.fieldsOf 110).toList.map (fun f => (f.name == "_", f.type, f.offset, Try.prog.cellsOf f.type)) = [(false, 108, 0, 1), (false, 3, 1, 1)] := by kernel_rfl
theorem row_stood : Try.prog.stoodInHeld 110 = false := by kernel_rfl
theorem row_struct : Try.prog.underlying 110 = some (.struct (Try.prog.fieldsOf 110)) := by kernel_rfl
theorem row_two : ∃ f0 f1, (Try.prog.fieldsOf 110) = #[f0, f1] ∧ (f0.name == "_") = false ∧ f0.type = 108 ∧ f0.offset = 0 ∧ (f1.name == "_") = false ∧ f1.type = 3 ∧ f1.offset = 1 := by
  have h := row_fields
  have hl := congrArg List.length h
  rw [List.length_map] at hl
  match e : (Try.prog.fieldsOf 110).toList, hl with
  | [f0, f1], _ =>
    rw [e] at h
    simp only [List.map_cons, List.map_nil, List.cons.injEq, Prod.mk.injEq, and_true] at h
    refine ⟨f0, f1, ?_, h.1.1, h.1.2.1, h.1.2.2.1, h.2.1, h.2.2.1, h.2.2.2.1⟩
    rw [← Array.toArray_toList (xs := Try.prog.fieldsOf 110), e]
def kRow (a : Addr) (n : Int) : Value := .agg #[.pointer (some a), .int .i64 n]
theorem check_ptr (em : Bool) (k : Nat) (w : World) (v : Option Addr) : (Instr.checkKey em (k + 1) 108 (.pointer v)).run Try.prog w = .ok () w := by
  unfold Instr.checkKey
  simp [run_underlying Try.underlying108]
theorem check_int (em : Bool) (k : Nat) (w : World) (n : Int) : (Instr.checkKey em (k + 1) 3 (.int .i64 n)).run Try.prog w = .ok () w := by
  unfold Instr.checkKey
  simp [run_underlying Try.underlying3]
theorem check_row_at (em : Bool) (k : Nat) (w : World) (a : Addr) (n : Int) : (Instr.checkKey em (k + 1 + 1) 110 (kRow a n)).run Try.prog w = .ok () w := by
  obtain ⟨f0, f1, hf, n0, t0, o0, n1, t1, o1⟩ := row_two
  have n0' : ¬ (f0.name = "_") := by simpa using n0
  have n1' : ¬ (f1.name = "_") := by simpa using n1
  have hs : Try.prog.underlying 110 = some (.struct #[f0, f1]) := by rw [← hf]; exact row_struct
  unfold kRow Instr.checkKey
  simp [run_underlying hs, n0', n1', t0, t1, o0, o1, part, check_ptr, check_int]
theorem check_row (em : Bool) (w : World) (a : Addr) (n : Int) : (Instr.checkKey em 10000 110 (kRow a n)).run Try.prog w = .ok () w := check_row_at em 9998 w a n
theorem map_under : Try.prog.underlying 89 = some (.map 110 77) := by kernel_rfl
theorem zero_me (w : World) : (zeroValue 77).run Try.prog w = .ok (.agg #[.bool false, .bool false, .int .i64 0, .int .i64 0]) w := by kernel_rfl
structure Kp (w w' : World) (sb : Nat) (mv : Value) : Prop where
  os : w'.os = w.os
  tape : w'.tape = w.tape
  output : w'.output = w.output
  size : w.heap.size ≤ w'.heap.size
  block : ∀ k, k < w.heap.size → k ≠ sb → mv ≠ .map (some k) → w'.heap[k]? = w.heap[k]?
def MvTo (w : World) (mv mv' : Value) : Prop := mv' = mv ∨ (mv = .map none ∧ ∃ mb, mv' = .map (some mb) ∧ w.heap.size ≤ mb)
theorem kp_refl (w : World) (sb : Nat) (mv : Value) : Kp w w sb mv := ⟨rfl, rfl, rfl, Nat.le_refl _, fun _ _ _ _ => rfl⟩
theorem kp_trans {w w1 w2 : World} {sb : Nat} {mv mv1 : Value} (h : Kp w w1 sb mv) (hm : MvTo w mv mv1) (k : Kp w1 w2 sb mv1) : Kp w w2 sb mv :=
  ⟨k.os.trans h.os, k.tape.trans h.tape, k.output.trans h.output, Nat.le_trans h.size k.size, fun i hi hs hv => (k.block i (Nat.lt_of_lt_of_le hi h.size) hs (by
    rcases hm with e | ⟨e, mb, e', hle⟩
    · rw [e]; exact hv
    · rw [e']; intro h2; injection h2 with h2; injection h2 with h2; omega)).trans (h.block i hi hs hv)⟩
theorem mvto_trans {w w1 : World} {mv mv1 mv2 : Value} (h : MvTo w mv mv1) (hs : w.heap.size ≤ w1.heap.size) (k : MvTo w1 mv1 mv2) : MvTo w mv mv2 := by
  rcases k with e | ⟨e, mb, e', hle⟩
  · rw [e]; exact h
  · rcases h with e1 | ⟨_, mb1, e1, _⟩
    · exact Or.inr ⟨e1 ▸ e, mb, e', by omega⟩
    · rw [e] at e1; cases e1
theorem kp_alloc {w w1 : World} {sb : Nat} {mv : Value} (h : Kp w w1 sb mv) (o : Obj) : Kp w (w1.alloc o) sb mv :=
  ⟨h.os, h.tape, h.output, Nat.le_trans h.size (by rw [World.size_alloc]; omega), fun k hk hs hv => (Below.heap_alloc _ _ _ (Nat.lt_of_lt_of_le hk h.size)).trans (h.block k hk hs hv)⟩
theorem kp_bel {w w1 w2 : World} {sb : Nat} {mv : Value} (h : Kp w w1 sb mv) (hb : Below w1.heap.size w1 w2) : Kp w w2 sb mv :=
  ⟨hb.os.trans h.os, hb.tape.trans h.tape, hb.output.trans h.output, Nat.le_trans h.size hb.size, fun k hk hs hv => (hb.block k (Nat.lt_of_lt_of_le hk h.size)).trans (h.block k hk hs hv)⟩
theorem kp_set {w w1 : World} {sb : Nat} {mv : Value} (h : Kp w w1 sb mv) {b : Nat} (hb : b = sb ∨ w.heap.size ≤ b) (o : Nat) (v : Value) : Kp w (w1.setCell ⟨b, o, none⟩ v) sb mv :=
  ⟨h.os, h.tape, h.output, by simpa using h.size, fun k hk hs hv => (Below.heap_setCell _ _ _ _ (by show k ≠ b; rcases hb with e | e <;> omega)).trans (h.block k hk hs hv)⟩
theorem eql_map_nil (W : World) (m : Option Nat) : (binOp .eql 89 (.map m) (.map none)).run Try.prog W = .ok (.bool m.isNone) W := by
  simp [binOp, run_equal_map_nil W 89 110 77 m map_under]
theorem make_map (W : World) : (Instr.makeMap 89 none).run Try.prog W = .ok (.map (some W.heap.size)) (W.alloc (.map #[] 0)) := by
  simp [Instr.makeMap]
def mpW (w : World) (mb : Nat) (es : Array MapEntry) (ck : Nat) : World := { w with heap := w.heap.setIfInBounds mb (.map es ck) }
theorem mpW_at {w : World} {mb : Nat} {o : Obj} (h : w.heap[mb]? = some o) (es : Array MapEntry) (ck : Nat) : (mpW w mb es ck).heap[mb]? = some (.map es ck) := (MapKept.heap_set h).1
theorem mpW_other {w : World} {mb k : Nat} (hne : k ≠ mb) (es : Array MapEntry) (ck : Nat) : (mpW w mb es ck).heap[k]? = w.heap[k]? := by
  show (w.heap.setIfInBounds mb _)[k]? = _
  simp [Ne.symm hne]
def Pw (w : World) (a : Addr) : Prop := (∃ cs t fr, w.heap[a.block]? = some (.cells cs t fr)) ∧ w.frozen? a = false
def DrS (w w' : World) : Prop := w'.heap = w.heap ∧ w'.os = w.os ∧ w'.tape = w.tape ∧ w'.output = w.output
theorem drs_refl (w : World) : DrS w w := ⟨rfl, rfl, rfl, rfl⟩
theorem drs_trans {a b c : World} (h : DrS a b) (k : DrS b c) : DrS a c := ⟨k.1.trans h.1, k.2.1.trans h.2.1, k.2.2.1.trans h.2.2.1, k.2.2.2.trans h.2.2.2⟩
theorem drs_below {w w' : World} (h : DrS w w') : Below w.heap.size w w' := ⟨h.2.1, h.2.2.1, h.2.2.2, by rw [h.1]; exact Nat.le_refl _, fun k _ => by rw [h.1]⟩
theorem pw_drs {w w' : World} {a : Addr} (h : Pw w a) (hd : DrS w w') : Pw w' a := ⟨by rw [hd.1]; exact h.1, (World.frozen?_of_block (w := w) (by rw [hd.1])).trans h.2⟩
theorem pw_now {w0 w : World} {a : Addr} (h : Pw w0 a) (hb : Below w0.heap.size w0 w) : Pw w a := by
  obtain ⟨⟨cs, t, fr, h1⟩, h2⟩ := h
  exact ⟨⟨cs, t, fr, row_keep hb h1 (row_lt h1)⟩, (hb.frozen (p := a) (row_lt h1)).trans h2⟩
theorem same_either {P : Program} {w : World} {a b : Addr} (ha : Pw w a) (hb : Pw w b) : ∃ r w', (sameAddr a b).run P w = .ok r w' ∧ DrS w w' := by
  obtain ⟨⟨ca, ta, fa, ha⟩, nf⟩ := ha
  obtain ⟨⟨cb, tb, fb, hb⟩, _⟩ := hb
  by_cases hbl : a.block = b.block
  · exact ⟨a == b, w, by simp [sameAddr, hbl], drs_refl w⟩
  · obtain ⟨r, hr⟩ : ∃ r, (mayBeOne a b).run P w = .ok r w := by
      simp [mayBeOne, stringish, nf, World.shape?, ha, hb, World.frozen?]
      have key : ∀ B : Bool, (Result.ok B w : Result Bool) = .ok false w ∨ (Result.ok B w : Result Bool) = .ok true w := fun B => by cases B; exact Or.inl rfl; exact Or.inr rfl
      split
      · split
        · exact Or.inr rfl
        · exact key _
      · split
        · exact key _
        · exact key _
    have sa : (w.shape? a.block).isSome = true := by simp [World.shape?, ha]
    have sb : (w.shape? b.block).isSome = true := by simp [World.shape?, hb]
    have hf : (Question.extern "sameAddr.stringBytes" 2).forced = false := by decide
    cases r with
    | false => exact ⟨false, w, by simp [sameAddr, hbl, nf, noView, viewAt, sa, sb, hr], drs_refl w⟩
    | true => exact ⟨(Question.extern "sameAddr.stringBytes" 2).cut (w.tape w.drawn (Question.extern "sameAddr.stringBytes" 2)) == 1, w.drew, by simp [sameAddr, hbl, nf, noView, viewAt, sa, sb, hr, hf], ⟨rfl, rfl, rfl, rfl⟩⟩
theorem eq_ptr_either (d : Nat) (w : World) {a b : Addr} (ha : Pw w a) (hb : Pw w b) : ∃ r w', (Op.equalIn (d + 1) 108 (.pointer (some a)) (.pointer (some b))).run Try.prog w = .ok r w' ∧ DrS w w' := by
  obtain ⟨i0, hi, hz0, hz1, hz2⟩ := info_parts info_v5
  obtain ⟨r, w', h, hd⟩ := same_either (P := Try.prog) ha hb
  exact ⟨r, w', by simp [Op.equalIn, run_underlying Try.underlying108, sizeOf, typeInfo, hi, hz1, h], hd⟩
theorem eq_int_now (d : Nat) (w : World) (n m : Int) : (Op.equalIn (d + 1) 3 (.int .i64 n) (.int .i64 m)).run Try.prog w = .ok (n == m) w := by
  simp [Op.equalIn, run_underlying Try.underlying3]
theorem eq_row_either (w : World) {a b : Addr} (n m : Int) (ha : Pw w a) (hb : Pw w b) : ∃ r w', (Op.equal 110 (kRow a n) (kRow b m)).run Try.prog w = .ok r w' ∧ DrS w w' := by
  obtain ⟨f0, f1, hf, n0, t0, o0, n1, t1, o1⟩ := row_two
  have n0' : ¬ (f0.name = "_") := by simpa using n0
  have n1' : ¬ (f1.name = "_") := by simpa using n1
  obtain ⟨r, w', hp, hd⟩ := eq_ptr_either 9998 w ha hb
  have hc1 : Try.prog.cellsOf 108 = 1 := by kernel_rfl
  have hc2 : Try.prog.cellsOf 3 = 1 := by kernel_rfl
  have h2 := eq_int_now 9998 w' n m
  unfold Op.equal Op.maxDepth kRow
  rw [run_equalIn_struct w 9999 110 _ _ row_struct row_stood, hf]
  cases r with
  | false => exact ⟨false, w', by simp [Op.eqFields, n0', t0, o0, part, hp], hd⟩
  | true => exact ⟨n == m, w', by simp [Op.eqFields, n0', n1', t0, t1, o0, o1, part, hp, h2]; by_cases e : n = m <;> simp [e], hd⟩
def MemoW (w : World) (es : List MapEntry) : Prop := ∀ e ∈ es, ∃ (a : Addr) (n : Int) (q : Me), e.key = kRow a n ∧ Pw w a ∧ e.val = meV q
theorem memow_drs {w w' : World} {es : List MapEntry} (h : MemoW w es) (hd : DrS w w') : MemoW w' es := fun e he => by
  obtain ⟨a, n, q, h1, h2, h3⟩ := h e he
  exact ⟨a, n, q, h1, pw_drs h2 hd, h3⟩
theorem memow_now {w0 w : World} {es : List MapEntry} (h : MemoW w0 es) (hb : Below w0.heap.size w0 w) : MemoW w es := fun e he => by
  obtain ⟨a, n, q, h1, h2, h3⟩ := h e he
  exact ⟨a, n, q, h1, pw_now h2 hb, h3⟩
theorem ask_either (a : Addr) (n : Int) : ∀ (es : List MapEntry) (i : Nat) (w : World), Pw w a → MemoW w es → ∃ r w', (Instr.findAsking 110 (kRow a n) es i).run Try.prog w = .ok r w' ∧ DrS w w' ∧ ∀ j v, r = some (j, v) → ∃ q, v = meV q
  | [], i, w, _, _ => ⟨none, w, by simp [Instr.findAsking], drs_refl w, fun _ _ h => by cases h⟩
  | e :: es, i, w, ha, h => by
    obtain ⟨b, m, q, hk, hb, hq⟩ := h e (List.mem_cons_self ..)
    obtain ⟨r, w1, h1, hd1⟩ := eq_row_either w n m ha hb
    cases r with
    | true => exact ⟨some (i, e.val), w1, by simp [Instr.findAsking, hk, h1], hd1, fun j v hv => ⟨q, by cases hv; exact hq⟩⟩
    | false =>
      obtain ⟨r2, w2, h2, hd2, hv2⟩ := ask_either a n es (i + 1) w1 (pw_drs ha hd1) (memow_drs (fun x hx => h x (List.mem_cons_of_mem _ hx)) hd1)
      exact ⟨r2, w2, by simp [Instr.findAsking, hk, h1, h2], drs_trans hd1 hd2, hv2⟩
theorem find_either (w : World) (a : Addr) (n : Int) (ha : Pw w a) (es : List MapEntry) (h : MemoW w es) : ∃ r w', (Instr.findKey 110 (kRow a n) es).run Try.prog w = .ok r w' ∧ DrS w w' ∧ ∀ j v, r = some (j, v) → ∃ q, v = meV q := by
  obtain ⟨r, w', h1, hd, hv⟩ := ask_either a n es 0 w ha h
  cases es with
  | nil => exact ⟨none, w, by simp [Instr.findKey, run_underlying row_struct, Instr.findNow], drs_refl w, fun _ _ h => by cases h⟩
  | cons e es => exact ⟨r, w', by simp [Instr.findKey, run_underlying row_struct, Instr.findNow, Instr.sameNow, h1], hd, hv⟩
theorem look_either (w : World) (mb : Nat) (es : Array MapEntry) (ck : Nat) (a : Addr) (n : Int) (hm : w.heap[mb]? = some (.map es ck)) (ha : Pw w a) (h : MemoW w es.toList) :
    ∃ (q : Me) (ok : Bool) (w' : World), (Instr.lookup 89 (.map (some mb)) (kRow a n) true).run Try.prog w = .ok (.tuple #[meV q, .bool ok]) w' ∧ DrS w w' := by
  obtain ⟨r, w', h1, hd, hv⟩ := find_either w a n ha _ h
  cases r with
  | none => exact ⟨(false, false, 0, 0), false, w', by simp [Instr.lookup, run_underlying map_under, MapKept.run_getObj_map hm, check_row, h1, zero_me, meV], hd⟩
  | some r =>
    obtain ⟨j, v⟩ := r
    obtain ⟨q, rfl⟩ := hv j v rfl
    exact ⟨q, true, w', by simp [Instr.lookup, run_underlying map_under, MapKept.run_getObj_map hm, check_row, h1], hd⟩
theorem key_either (w : World) (a b : Addr) (n m : Int) : ∃ c k w', (Instr.keyThatStays (kRow b m) (kRow a n)).run Try.prog w = .ok (kRow c k) w' ∧ DrS w w' ∧ (c = a ∨ c = b) := by
  unfold Instr.keyThatStays
  by_cases hs : Instr.sameBits 10000 (kRow b m) (kRow a n) = true
  · exact ⟨a, n, w, by simp [hs], drs_refl w, Or.inl rfl⟩
  · by_cases hc : Question.cut (.extern "map.whichKeyStays" 2) (w.tape w.drawn (.extern "map.whichKeyStays" 2)) = 0
    · refine ⟨a, n, w.drew, ?_, ⟨rfl, rfl, rfl, rfl⟩, Or.inl rfl⟩
      have hf : (Question.extern "map.whichKeyStays" 2).forced = false := by decide
      simp [hs, hf, hc]
    · refine ⟨b, m, w.drew, ?_, ⟨rfl, rfl, rfl, rfl⟩, Or.inr rfl⟩
      have hf : (Question.extern "map.whichKeyStays" 2).forced = false := by decide
      simp [hs, hf, hc]
theorem update_either (w0 w : World) (mb : Nat) (es : Array MapEntry) (ck : Nat) (a : Addr) (n : Int) (q : Me) (hm : w.heap[mb]? = some (.map es ck)) (hP : ∀ x, Pw w0 x → Pw w x) (ha : Pw w0 a) (h : MemoW w0 es.toList) :
    ∃ es' ck' w', (Instr.mapUpdate 89 (.map (some mb)) (kRow a n) (meV q)).run Try.prog w = .ok () (mpW w' mb es' ck') ∧ DrS w w' ∧ MemoW w0 es'.toList := by
  obtain ⟨r, w1, h1, hd, hv⟩ := find_either w a n (hP _ ha) _ (fun e he => by obtain ⟨b, m, q', k1, k2, k3⟩ := h e he; exact ⟨b, m, q', k1, hP _ k2, k3⟩)
  have hm1 : w1.heap[mb]? = some (.map es ck) := by rw [hd.1]; exact hm
  cases r with
  | none =>
    refine ⟨es.push { key := kRow a n, val := meV q, born := ck }, ck + 1, w1, by simp [Instr.mapUpdate, run_underlying map_under, MapKept.run_getObj_map hm, check_row, h1, MapKept.run_setObj_map _ hm1, mpW], hd, fun e he => ?_⟩
    rw [Array.toList_push, List.mem_append] at he
    rcases he with he | he
    · exact h e he
    · obtain rfl := List.mem_singleton.1 he
      exact ⟨a, n, q, rfl, ha, rfl⟩
  | some r =>
    obtain ⟨j, v⟩ := r
    obtain ⟨b, m, hb, hk⟩ : ∃ b m, Pw w0 b ∧ ((es[j]?).map (·.key)).getD (kRow a n) = kRow b m := by
      cases he : es[j]? with
      | none => exact ⟨a, n, ha, rfl⟩
      | some e =>
        obtain ⟨b, m, q', h1, h2, _⟩ := h e (by rw [← Array.getElem?_toList] at he; exact List.mem_of_getElem? he)
        exact ⟨b, m, h2, h1⟩
    obtain ⟨c, k, w2, h2, hd2, hc⟩ := key_either w1 a b n m
    have hm2 : w2.heap[mb]? = some (.map es ck) := by rw [hd2.1]; exact hm1
    refine ⟨es.modify j fun e => { e with key := kRow c k, val := meV q }, ck, w2, by simp [Instr.mapUpdate, run_underlying map_under, MapKept.run_getObj_map hm, check_row, h1, hk, h2, MapKept.run_setObj_map _ hm2, mpW], drs_trans hd hd2, fun e he => ?_⟩
    obtain ⟨i, hi⟩ := List.getElem?_of_mem he
    rw [Array.getElem?_toList, Array.getElem?_modify] at hi
    split at hi
    · obtain ⟨x, _, rfl⟩ := Option.map_eq_some_iff.1 hi
      exact ⟨c, k, q, rfl, by rcases hc with rfl | rfl; exact ha; exact hb, rfl⟩
    · exact h e (by rw [← Array.getElem?_toList] at hi; exact List.mem_of_getElem? hi)
end Num
end Go.Proofs.Yteodljkcbddehaa
/-
  The survey's walk, whatever its memo says: value.
-/
namespace Go.Proofs.Yteodljkcbddehaa
open Go.RowKit
namespace Num
open Ints
set_option linter.unusedSimpArgs false
set_option linter.unusedVariables false
def RepLP {α : Type} (w : World) (R : Value → α → Prop) (p : Option Addr) (l c : Nat) (L : List α) : Prop :=
  L.length = l ∧ l ≤ c ∧ c ≤ maxLen ∧ (0 < l → ∃ b off, p = some ⟨b, off, none⟩ ∧ Pw w ⟨b, off, none⟩ ∧ ∀ i (h : i < L.length), ∃ v0 v1 v2 v3 v4,
    w.cell? ⟨b, off + i * 5, none⟩ = some v0 ∧ w.cell? ⟨b, off + i * 5 + 1, none⟩ = some v1 ∧ w.cell? ⟨b, off + i * 5 + 2, none⟩ = some v2 ∧
    w.cell? ⟨b, off + i * 5 + 3, none⟩ = some v3 ∧ w.cell? ⟨b, off + i * 5 + 4, none⟩ = some v4 ∧ R (.agg #[v0, v1, v2, v3, v4]) L[i])
def RepP (w : World) : (n : Nat) → Value → VT n → Prop
  | 0, _, _ => False
  | n + 1, v, T => ∃ (p : Option Addr) (l c : Nat), v = .agg #[.int .i64 T.1, .int .i64 T.2.1, .float .f64 T.2.2.1, .string T.2.2.2.1, .slice p l c] ∧
      okI T.1 ∧ okI T.2.1 ∧ T.2.2.1 < 2 ^ 64 ∧ T.2.2.2.1.size ≤ maxLen ∧ RepLP w (RepP w n) p l c T.2.2.2.2
theorem repP_rep {w : World} : ∀ (n : Nat) (v : Value) (T : VT n), RepP w n v T → Rep w n v T
  | 0, _, _, h => h.elim
  | n + 1, v, T, ⟨p, l, c, hv, h1, h2, h3, h4, k1, k2, k3, k4⟩ => ⟨p, l, c, hv, h1, h2, h3, h4, k1, k2, k3, fun h0 => by
    obtain ⟨b, off, hp, _, hi⟩ := k4 h0
    exact ⟨b, off, hp, fun i hi' => by obtain ⟨v0, v1, v2, v3, v4, c0, c1, c2, c3, c4, hr⟩ := hi i hi'; exact ⟨v0, v1, v2, v3, v4, c0, c1, c2, c3, c4, repP_rep n _ _ hr⟩⟩⟩
theorem repP_shape {w : World} {n : Nat} {v : Value} {T : VT n} (h : RepP w n v T) : ∃ (K I : Int) (F : Nat) (S : ByteArray) (q : Option Addr) (m d : Nat), v = .agg #[.int .i64 K, .int .i64 I, .float .f64 F, .string S, .slice q m d] := by
  cases n with
  | zero => exact h.elim
  | succ n => obtain ⟨q, m, d, hv, _⟩ := h; exact ⟨_, _, _, _, q, m, d, hv⟩
def MvW (w0 w : World) (sb : Nat) (vis : Int) (mv : Value) : Prop := w.heap[sb]? = some (.cells #[.int .i64 vis, mv] 91 (0, 0)) ∧
  (mv = .map none ∨ ∃ mb es ck, mv = .map (some mb) ∧ w0.heap.size ≤ mb ∧ mb ≠ sb ∧ w.heap[mb]? = some (.map es ck) ∧ MemoW w0 es.toList)
theorem mvw_keep {w0 w w' : World} {sb : Nat} {vis : Int} {mv : Value} (h : MvW w0 w sb vis mv) (hs : w'.heap[sb]? = w.heap[sb]?) (hk : ∀ k, mv = .map (some k) → w'.heap[k]? = w.heap[k]?) : MvW w0 w' sb vis mv := by
  refine ⟨hs.trans h.1, ?_⟩
  rcases h.2 with e | ⟨mb, es, ck, e, h1, h2, h3, h4⟩
  · exact Or.inl e
  · exact Or.inr ⟨mb, es, ck, e, h1, h2, (hk mb e).trans h3, h4⟩
theorem mvw_own {w0 w : World} {sb : Nat} {vis : Int} {mv : Value} (h : MvW w0 w sb vis mv) : ∀ k, mv = .map (some k) → w0.heap.size ≤ k ∧ k < w.heap.size := by
  intro k e
  rcases h.2 with e' | ⟨mb, es, ck, e', h1, _, h3, _⟩
  · rw [e] at e'; cases e'
  · rw [e] at e'; cases e'; exact ⟨h1, row_lt h3⟩
theorem mvw_cells {w0 w : World} {sb : Nat} {vis : Int} {mv : Value} (h : MvW w0 w sb vis mv) {b : Nat} {cs : Array Value} {t : TypeId} {fr : Nat × Nat} (hr : w.heap[b]? = some (.cells cs t fr)) : mv ≠ .map (some b) := by
  intro e
  rcases h.2 with e' | ⟨mb, es, ck, e', _, _, h3, _⟩
  · rw [e] at e'; cases e'
  · rw [e] at e'; cases e'; rw [hr] at h3; cases h3
theorem mvw_bel {w0 w w' : World} {sb : Nat} {vis : Int} {mv : Value} (h : MvW w0 w sb vis mv) (hb : Below w.heap.size w w') : MvW w0 w' sb vis mv :=
  mvw_keep h (hb.block sb (row_lt h.1)) (fun k e => hb.block k (mvw_own h k e).2)
theorem mvw_set {w0 w : World} {sb : Nat} {vis : Int} {mv : Value} (h : MvW w0 w sb vis mv) {b : Nat} (hs : sb ≠ b) (hm : mv ≠ .map (some b)) (o : Nat) (v : Value) : MvW w0 (w.setCell ⟨b, o, none⟩ v) sb vis mv :=
  mvw_keep h (Below.heap_setCell _ _ _ _ hs) (fun k e => Below.heap_setCell _ _ _ _ (fun e' => hm (by rw [e, show k = b from e'])))
theorem mvw_start {w0 w : World} {sb : Nat} {vis : Int} {mv : Value} (h : MvW w0 w sb vis mv) (vis' : Int) : MvW w0 (w.setCell ⟨sb, 0, none⟩ (.int .i64 vis')) sb vis' mv := by
  refine ⟨setCell_row h.1 _, ?_⟩
  rcases h.2 with e | ⟨mb, es, ck, e, h1, h2, h3, h4⟩
  · exact Or.inl e
  · exact Or.inr ⟨mb, es, ck, e, h1, h2, (Below.heap_setCell _ _ _ _ h2).trans h3, h4⟩
theorem kpw_below {w0 w w' : World} {sb : Nat} {vis : Int} {mv : Value} (hB : Below w0.heap.size w0 w) (hs : w0.heap.size ≤ sb) (h : MvW w0 w sb vis mv) (k : Kp w w' sb mv) : Below w0.heap.size w0 w' :=
  ⟨k.os.trans hB.os, k.tape.trans hB.tape, k.output.trans hB.output, Nat.le_trans hB.size k.size, fun i hi => (k.block i (Nat.lt_of_lt_of_le hi hB.size) (by omega) (fun e => by have := (mvw_own h i e).1; omega)).trans (hB.block i hi)⟩
def SvW (w0 w w' : World) (sb : Nat) (mv : Value) : Prop := Kp w w' sb mv ∧ ∃ vis' mv', MvTo w mv mv' ∧ MvW w0 w' sb vis' mv'
def KW (w0 w x : World) (sb : Nat) (vis : Int) (mv : Value) : Prop := Kp w x sb mv ∧ MvW w0 x sb vis mv
theorem kw_sv {w0 w x : World} {sb : Nat} {vis : Int} {mv : Value} (h : KW w0 w x sb vis mv) : SvW w0 w x sb mv := ⟨h.1, vis, mv, Or.inl rfl, h.2⟩
theorem kw_bel {w0 w x y : World} {sb : Nat} {vis : Int} {mv : Value} (h : KW w0 w x sb vis mv) (hb : Below x.heap.size x y) : KW w0 w y sb vis mv := ⟨kp_bel h.1 hb, mvw_bel h.2 hb⟩
theorem kw_alloc {w0 w x : World} {sb : Nat} {vis : Int} {mv : Value} (h : KW w0 w x sb vis mv) (o : Obj) : KW w0 w (x.alloc o) sb vis mv := kw_bel h (bel_alloc br o)
def MeOk (e : Ending) : Prop := ∃ q : Me, e = .returned (meV q)
theorem me_ok (q : Me) : MeOk (.returned (meV q)) := ⟨q, rfl⟩
def SwValue (n : Nat) : Prop := ∀ (T : VT n) (v : Value) (lev vis : Int) (w0 w : World) (sb : Nat) (mv : Value), RepP w0 n v T → Below w0.heap.size w0 w → w0.heap.size ≤ sb → MvW w0 w sb vis mv →
  Calls Try.prog 67 #[.pointer (some ⟨sb, 0, none⟩), v, .int .i64 lev] w fun e w' => MeOk e ∧ SvW w0 w w' sb mv
def SwList (n : Nat) : Prop := ∀ (L : List (VT n)) (p : Option Addr) (l c : Nat) (lev vis : Int) (w0 w : World) (sb : Nat) (mv : Value), RepLP w0 (RepP w0 n) p l c L → Below w0.heap.size w0 w → w0.heap.size ≤ sb → MvW w0 w sb vis mv →
  Calls Try.prog 79 #[.pointer (some ⟨sb, 0, none⟩), .slice p l c, .int .i64 lev] w fun e w' => MeOk e ∧ SvW w0 w w' sb mv
set_option maxRecDepth 100000 in
set_option maxHeartbeats 4000000 in
theorem sw_value (n : Nat) (hl : SwList n) : SwValue (n + 1) := by
  intro T v lev vis w0 w sb mv hr hB hs hat
  obtain ⟨K, I, F, S, L⟩ := T
  obtain ⟨p, l, c, rfl, _, _, _, hS, hL⟩ := hr
  unfold maxLen at hS
  have c0 : w.cell? ⟨sb, 0, none⟩ = some (.int .i64 vis) := rc hat.1 0
  have f0 : w.frozen? ⟨sb, 0, none⟩ = false := row_frz hat.1 0
  have hlt := row_lt hat.1
  have hne : sb ≠ w.heap.size := by omega
  have HAT := Lib.hid hat
  have HB := Lib.hid hB
  have HL := Lib.hid hL
  have HLI := Lib.hid hl
  have START := Lib.hid (show ∀ (o1 o2 : Obj), KW w0 w (((w.setCell ⟨sb, 0, none⟩ (.int .i64 (wrap64 (vis + 1)))).alloc o1).alloc o2) sb (wrap64 (vis + 1)) mv from fun o1 o2 =>
    ⟨kp_alloc (kp_alloc (kp_set (kp_refl w sb mv) (Or.inl rfl) _ _) _) _, mvw_bel (mvw_start hat _) (bel_alloc (bel_alloc br _) _)⟩)
  clear hat hB hL hl
  cases h0 : (K == 0)
  case true =>
    go_enter Try.func67, Try.ntmps67
    go_wp2
    exact bodyPost_ret (v := .agg #[.bool false, .bool false, .int .i64 0, .int .i64 1]) (by simp [results, Try.results67, go_sem]) rfl ⟨me_ok (false, false, 0, 1), kw_sv (START.out _ _)⟩

  cases h1 : (K == 1)
  case true =>
    go_enter Try.func67, Try.ntmps67
    go_wp2
    exact bodyPost_ret (v := .agg #[.bool false, .bool false, .int .i64 0, .int .i64 9]) (by simp [results, Try.results67, go_sem]) rfl ⟨me_ok (false, false, 0, 9), kw_sv (START.out _ _)⟩

  cases h2 : (K == 2)
  case true =>
    go_enter Try.func67, Try.ntmps67
    go_wp2
    exact bodyPost_ret (v := .agg #[.bool false, .bool false, .int .i64 0, .int .i64 9]) (by simp [results, Try.results67, go_sem]) rfl ⟨me_ok (false, false, 0, 9), kw_sv (START.out _ _)⟩

  cases h3 : (K == 3)
  case true =>
    by_cases h256 : 256 < (S.size : Int)
    · go_enter Try.func67, Try.ntmps67
      go_wp2
      exact bodyPost_ret (v := .agg #[.bool false, .bool true, .int .i64 0, .int .i64 (wrap64 (3 + (S.size : Int)))]) (by simp [results, Try.results67, go_sem]) rfl ⟨me_ok (false, true, 0, (wrap64 (3 + (S.size : Int)))), kw_sv (START.out _ _)⟩

    · go_enter Try.func67, Try.ntmps67
      go_wp2
      exact bodyPost_ret (v := .agg #[.bool false, .bool false, .int .i64 0, .int .i64 (3 + (S.size : Int))]) (by simp [results, Try.results67, go_sem]) rfl ⟨me_ok (false, false, 0, (3 + (S.size : Int))), kw_sv (START.out _ _)⟩

  cases h4 : (K == 4)
  case false =>
    go_enter Try.func67, Try.ntmps67
    go_wp2
    exact bodyPost_ret (v := .agg #[.bool true, .bool false, .int .i64 0, .int .i64 1]) (by simp [results, Try.results67, go_sem]) rfl ⟨me_ok (true, false, 0, 1), kw_sv (START.out _ _)⟩

  have RR := Lib.hid (row_alloc ((w.setCell ⟨sb, 0, none⟩ (.int .i64 (wrap64 (vis + 1)))).alloc (.cells #[.int .i64 K, .int .i64 I, .float .f64 F, .string S, .slice p l c] 27)) #[.bool false, .bool false, .int .i64 0, .int .i64 0] 77)
  have HST := Lib.hid (START.out (.cells #[.int .i64 K, .int .i64 I, .float .f64 F, .string S, .slice p l c] 27) (.cells #[.bool false, .bool false, .int .i64 0, .int .i64 0] 77))
  have HB1 := Lib.hid (kpw_below HB.out hs HAT.out HST.out.1)
  simp only [World.size_alloc, World.size_setCell] at RR
  go_enter Try.func67, Try.ntmps67
  go_wp2_with fail
  go_at_call 79; refine (HLI.out L p l c _ _ w0 _ sb mv HL.out HB1.out hs HST.out.2).mono ?_; rintro e w1 ⟨⟨q, rfl⟩, hk1, vis1, mv1, hto, hat1⟩
  have hmo := fun e => (mvw_own HAT.out (w.heap.size + 1) e).2
  have hrr := (hk1.block (w.heap.size + 1) (by simp) (by omega) (fun e => by have := hmo e; omega)).trans RR.out
  have HRR := Lib.hid hrr
  have HK1 := Lib.hid (kp_trans HST.out.1 (Or.inl rfl) hk1)
  have HTO := Lib.hid hto
  have HAT1 := Lib.hid hat1
  obtain ⟨q1, q2, q3, q4⟩ := q
  rw [show meV (q1, q2, q3, q4) = Value.agg #[.bool q1, .bool q2, .int .i64 q3, .int .i64 q4] from rfl]
  have d0 := rc hrr 0; have d1 := rc hrr 1; have d2 := rc hrr 2; have d3 := rc hrr 3
  simp only [lk0, lk1, lk2] at d0 d1 d2 d3
  have df := fun o => row_frz hrr o
  clear hrr hk1 hto hat1 c0 f0 RR hmo
  go_wp2
  refine bodyPost_ret (v := .agg #[.bool q1, .bool q2, .int .i64 q3, .int .i64 q4]) (by simp [results, Try.results67, go_sem, World.cell?_setCell_same, World.cell?_setCell_other, d0, d1, d2, d3]) rfl ⟨me_ok (q1, q2, q3, q4), ?_⟩
  have hn1 := mvw_cells HAT1.out HRR.out
  have hs1 : sb ≠ w.heap.size + 1 := by omega
  exact ⟨kp_set (kp_set (kp_set (kp_set HK1.out (Or.inr (Nat.le_succ _)) _ _) (Or.inr (Nat.le_succ _)) _ _) (Or.inr (Nat.le_succ _)) _ _) (Or.inr (Nat.le_succ _)) _ _, vis1, mv1, mvto_trans (Or.inl rfl) HST.out.1.size HTO.out, mvw_set (mvw_set (mvw_set (mvw_set HAT1.out hs1 hn1 _ _) hs1 hn1 _ _) hs1 hn1 _ _) hs1 hn1 _ _⟩
end Num
end Go.Proofs.Yteodljkcbddehaa
/-
  The survey's memo: keep.
-/
namespace Go.Proofs.Yteodljkcbddehaa
open Go.RowKit
namespace Num
open Ints
set_option linter.unusedSimpArgs false
set_option linter.unusedVariables false
set_option maxRecDepth 100000 in
set_option maxHeartbeats 4000000 in
theorem sw_keep_few (a : Addr) (n : Int) (q1 q2 : Bool) (q3 q4 : Int) (w0 w : World) (sb : Nat) (vis : Int) (mv : Value) (hat : MvW w0 w sb vis mv) (hv : vis ≤ 1000) : Calls Try.prog 88 #[.pointer (some ⟨sb, 0, none⟩), .agg #[.pointer (some a), .int .i64 n], .agg #[.bool q1, .bool q2, .int .i64 q3, .int .i64 q4]] w fun e w' => e = .returned (.tuple #[]) ∧ SvW w0 w w' sb mv := by
  have c0 : w.cell? ⟨sb, 0, none⟩ = some (.int .i64 vis) := rc hat.1 0
  have hlt := row_lt hat.1
  have hne : sb ≠ w.heap.size := by omega
  have HAT := Lib.hid hat
  clear hat
  go_enter Try.func88, Try.ntmps88
  go_wp2
  refine bodyPost_ret (results_none rfl _ _ _) rfl ?_
  exact ⟨rfl, kw_sv (kw_alloc (kw_alloc ⟨kp_refl w sb mv, HAT.out⟩ _) _)⟩
theorem keepw_fin {w0 w W : World} {sb mb : Nat} {vis : Int} {es : Array MapEntry} {ck : Nat} {mv : Value} {o : Obj} (hk : Kp w W sb mv) (hmv : mv = .map (some mb) ∨ (mv = .map none ∧ w.heap.size ≤ mb)) (hrow : W.heap[sb]? = some (.cells #[.int .i64 vis, .map (some mb)] 91 (0, 0))) (h1 : w0.heap.size ≤ mb) (h2 : mb ≠ sb) (h3 : W.heap[mb]? = some o) (h4 : MemoW w0 es.toList) :
    SvW w0 w (mpW W mb es ck) sb mv := by
  refine ⟨⟨hk.os, hk.tape, hk.output, by show w.heap.size ≤ (W.heap.setIfInBounds mb _).size; rw [Array.size_setIfInBounds]; exact hk.size, fun k hlt hs hv => (mpW_other (by rintro rfl; rcases hmv with e | e; exact hv e; omega) _ _).trans (hk.block k hlt hs hv)⟩, vis, .map (some mb), ?_, (mpW_other (Ne.symm h2) _ _).trans hrow, Or.inr ⟨mb, es, ck, rfl, h1, h2, mpW_at h3 _ _, h4⟩⟩
  rcases hmv with e | ⟨e, hle⟩
  · exact Or.inl e.symm
  · exact Or.inr ⟨e, mb, rfl, hle⟩
set_option maxRecDepth 100000 in
set_option maxHeartbeats 4000000 in
theorem sw_keep_some (a : Addr) (n : Int) (q1 q2 : Bool) (q3 q4 : Int) (w0 w : World) (sb : Nat) (vis : Int) (mb : Nat) (hB : Below w0.heap.size w0 w) (hat : MvW w0 w sb vis (.map (some mb))) (hv : ¬ vis ≤ 1000) (ha : Pw w0 a) : Calls Try.prog 88 #[.pointer (some ⟨sb, 0, none⟩), .agg #[.pointer (some a), .int .i64 n], .agg #[.bool q1, .bool q2, .int .i64 q3, .int .i64 q4]] w fun e w' => e = .returned (.tuple #[]) ∧ SvW w0 w w' sb (.map (some mb)) := by
  have c0 : w.cell? ⟨sb, 0, none⟩ = some (.int .i64 vis) := rc hat.1 0
  have c1 : w.cell? ⟨sb, 1, none⟩ = some (.map (some mb)) := rc hat.1 1
  have hlt := row_lt hat.1
  have hne : sb ≠ w.heap.size := by omega
  have hne2 : sb ≠ w.heap.size + 1 := by omega
  have lt1 : sb < w.heap.size + 1 := by omega
  obtain ⟨hrow, hm⟩ := hat
  rcases hm with e | ⟨mb', es, ck, e, h1, h2, h3, h4⟩
  · cases e
  · cases e
    obtain ⟨W, hW⟩ : ∃ W, (w.alloc (.cells #[.pointer (some a), .int .i64 n] 110)).alloc (.cells #[.bool q1, .bool q2, .int .i64 q3, .int .i64 q4] 77) = W := ⟨_, rfl⟩
    have hWB : Below w.heap.size w W := by rw [← hW]; exact bel_alloc (bel_alloc br _) _
    have hmW : W.heap[mb]? = some (.map es ck) := row_step h3 hWB
    have hB' := hB.trans (hWB.mono hB.size)
    obtain ⟨es', ck', W', up, hd, hme⟩ := update_either w0 W.drew mb es ck a n (q1, q2, q3, q4) hmW (fun x hx => pw_now hx (Below.drew hB')) ha h4
    have hWW : Below w.heap.size w W' := (Below.drew hWB).trans ((drs_below hd).mono hWB.size)
    have HFIN := Lib.hid (keepw_fin (es := es') (ck := ck') (kp_bel (kp_refl w sb (.map (some mb))) hWW) (Or.inl rfl) (row_step hrow hWW) h1 h2 (row_step h3 hWW) hme)
    rw [← hW] at up
    unfold kRow at up
    rw [show meV (q1, q2, q3, q4) = Value.agg #[.bool q1, .bool q2, .int .i64 q3, .int .i64 q4] from rfl] at up
    have qm := fun W => eql_map_nil W (some mb)
    simp only [Option.isNone_some] at qm
    have hms : mb < w.heap.size := row_lt h3
    clear hW hWB hmW hB' hB h3 h4 hrow hme hWW hd
    go_enter Try.func88, Try.ntmps88
    go_wp2
    go_region
    refine bodyPost_end (results_none rfl _ _ _) rfl ?_
    exact ⟨rfl, HFIN.out⟩
set_option maxRecDepth 100000 in
set_option maxHeartbeats 4000000 in
theorem sw_keep_none (a : Addr) (n : Int) (q1 q2 : Bool) (q3 q4 : Int) (w0 w : World) (sb : Nat) (vis : Int) (hB : Below w0.heap.size w0 w) (hs0 : w0.heap.size ≤ sb) (hat : MvW w0 w sb vis (.map none)) (hv : ¬ vis ≤ 1000) (ha : Pw w0 a) : Calls Try.prog 88 #[.pointer (some ⟨sb, 0, none⟩), .agg #[.pointer (some a), .int .i64 n], .agg #[.bool q1, .bool q2, .int .i64 q3, .int .i64 q4]] w fun e w' => e = .returned (.tuple #[]) ∧ SvW w0 w w' sb (.map none) := by
  have c0 : w.cell? ⟨sb, 0, none⟩ = some (.int .i64 vis) := rc hat.1 0
  have c1 : w.cell? ⟨sb, 1, none⟩ = some (.map none) := rc hat.1 1
  have f1 := row_frz hat.1 1
  have hlt := row_lt hat.1
  have hne : sb ≠ w.heap.size := by omega
  have hne2 : sb ≠ w.heap.size + 1 := by omega
  have hne3 : sb ≠ w.heap.size + 1 + 1 := by omega
  have lt1 : sb < w.heap.size + 1 := by omega
  have lt2 : sb < w.heap.size + 1 + 1 := by omega
  have qm := fun W => eql_map_nil W none
  simp only [Option.isNone_none] at qm
  have mk := make_map
  obtain ⟨W, hW⟩ : ∃ W, ((((w.setCell ⟨sb, 1, none⟩ (.map (some (w.heap.size + 1 + 1)))).alloc (.cells #[.pointer (some a), .int .i64 n] 110)).alloc (.cells #[.bool q1, .bool q2, .int .i64 q3, .int .i64 q4] 77)).alloc (.map #[] 0)) = W := ⟨_, rfl⟩
  have hk : Kp w W sb (.map none) := by
    rw [← hW]
    exact kp_alloc (kp_alloc (kp_alloc (kp_set (kp_refl w sb _) (Or.inl rfl) _ _) _) _) _
  have hrowW : W.heap[sb]? = some (.cells #[.int .i64 vis, .map (some (w.heap.size + 1 + 1))] 91 (0, 0)) := by
    rw [← hW]
    refine row_alloc_step (row_alloc_step (row_alloc_step ?_ _) _) _
    simp [World.setCell, Array.getElem?_modify, hat.1]
  have hmW : W.heap[w.heap.size + 1 + 1]? = some (.map #[] 0) := by
    rw [← hW]
    have h := (MapKept.heap_alloc (((w.setCell ⟨sb, 1, none⟩ (.map (some (w.heap.size + 1 + 1)))).alloc (.cells #[.pointer (some a), .int .i64 n] 110)).alloc (.cells #[.bool q1, .bool q2, .int .i64 q3, .int .i64 q4] 77)) (.map #[] 0)).1
    simpa using h
  have hB' := kpw_below hB hs0 hat hk
  obtain ⟨es', ck', W', up, hd, hme⟩ := update_either w0 W.drew (w.heap.size + 1 + 1) #[] 0 a n (q1, q2, q3, q4) hmW (fun x hx => pw_now hx (Below.drew hB')) ha (fun e he => by cases he)
  have hd2 : W'.heap = W.heap := hd.1
  have HFIN := Lib.hid (keepw_fin (w0 := w0) (mb := w.heap.size + 1 + 1) (es := es') (ck := ck') (mv := .map none) (kp_bel hk ((Below.drew (Below.refl W.heap.size W)).trans (drs_below hd))) (Or.inr ⟨rfl, by omega⟩) (by rw [hd2]; exact hrowW) (by have := hB.size; omega) (by omega) (by rw [hd2]; exact hmW) hme)
  rw [← hW] at up
  unfold kRow at up
  rw [show meV (q1, q2, q3, q4) = Value.agg #[.bool q1, .bool q2, .int .i64 q3, .int .i64 q4] from rfl] at up
  clear hat hW hk hrowW hmW hB' hB hme hd hd2
  go_enter Try.func88, Try.ntmps88
  go_wp2
  go_region
  refine bodyPost_end (results_none rfl _ _ _) rfl ?_
  exact ⟨rfl, HFIN.out⟩
theorem sw_keep (a : Addr) (n : Int) (q1 q2 : Bool) (q3 q4 : Int) (w0 w : World) (sb : Nat) (vis : Int) (mv : Value) (hB : Below w0.heap.size w0 w) (hs0 : w0.heap.size ≤ sb) (hat : MvW w0 w sb vis mv) (ha : Pw w0 a) : Calls Try.prog 88 #[.pointer (some ⟨sb, 0, none⟩), .agg #[.pointer (some a), .int .i64 n], .agg #[.bool q1, .bool q2, .int .i64 q3, .int .i64 q4]] w fun e w' => e = .returned (.tuple #[]) ∧ SvW w0 w w' sb mv := by
  by_cases hv : vis ≤ 1000
  · exact sw_keep_few a n q1 q2 q3 q4 w0 w sb vis mv hat hv
  · rcases hat.2 with e | ⟨mb, es, ck, e, _⟩
    · subst e
      exact sw_keep_none a n q1 q2 q3 q4 w0 w sb vis hB hs0 hat hv ha
    · subst e
      exact sw_keep_some a n q1 q2 q3 q4 w0 w sb vis mb hB hat hv ha
end Num
end Go.Proofs.Yteodljkcbddehaa
/-
  The survey's walk through a list, whatever its memo says.
-/
namespace Go.Proofs.Yteodljkcbddehaa
open Go.RowKit
namespace Num
open Ints
set_option linter.unusedSimpArgs false
set_option linter.unusedVariables false
def LsW (w0 w wr : World) (sb : Nat) (mv mv' : Value) (vis' : Int) (q : Me) (a : Addr) (l : Nat) : Prop :=
  Kp w wr sb mv ∧ MvTo w mv mv' ∧ MvW w0 wr sb vis' mv' ∧ wr.heap[w.heap.size]? = some (.cells #[.bool false, .bool false, .int .i64 0, .int .i64 0] 77 (0, 0)) ∧
  wr.heap[w.heap.size + 1]? = some (.cells #[.bool q.1, .bool q.2.1, .int .i64 q.2.2.1, .int .i64 q.2.2.2] 77 (0, 0)) ∧
  wr.heap[w.heap.size + 1 + 1]? = some (.cells #[.pointer (some a), .int .i64 l] 110 (0, 0))
section
variable {w0 w wr w1 : World} {sb : Nat} {mv mv' : Value} {vis' : Int} {q : Me} {a : Addr} {l : Nat}
theorem lsw_bel (h : LsW w0 w wr sb mv mv' vis' q a l) (hb : Below wr.heap.size wr w1) : LsW w0 w w1 sb mv mv' vis' q a l := by
  obtain ⟨h1, h2, h3, h6, h7, h8⟩ := h
  exact ⟨kp_bel h1 hb, h2, mvw_bel h3 hb, row_step h6 hb, row_step h7 hb, row_step h8 hb⟩
theorem row_kpw (hk : Kp wr w1 sb mv') (h : MvW w0 wr sb vis' mv') {b : Nat} {cs : Array Value} {t : TypeId} {fr : Nat × Nat} (hr : wr.heap[b]? = some (.cells cs t fr)) (hs : b ≠ sb) : w1.heap[b]? = some (.cells cs t fr) :=
  (hk.block b (row_lt hr) hs (mvw_cells h hr)).trans hr
theorem lsw_sv (h : LsW w0 w wr sb mv mv' vis' q a l) (hs : sb < w.heap.size) (hb : SvW w0 wr w1 sb mv') : ∃ mv2 vis2, LsW w0 w w1 sb mv mv2 vis2 q a l := by
  obtain ⟨h1, h2, h3, h6, h7, h8⟩ := h
  obtain ⟨g, vis2, mv2, a3, a4⟩ := hb
  exact ⟨mv2, vis2, kp_trans h1 h2 g, mvto_trans h2 h1.size a3, a4, row_kpw g h3 h6 (by omega), row_kpw g h3 h7 (by omega), row_kpw g h3 h8 (by omega)⟩
theorem lsw_set (h : LsW w0 w wr sb mv mv' vis' q a l) (hs : sb < w.heap.size) (q' : Me) :
    LsW w0 w ((((wr.setCell ⟨w.heap.size + 1, 0, none⟩ (.bool q'.1)).setCell ⟨w.heap.size + 1, 1, none⟩ (.bool q'.2.1)).setCell ⟨w.heap.size + 1, 2, none⟩ (.int .i64 q'.2.2.1)).setCell ⟨w.heap.size + 1, 3, none⟩ (.int .i64 q'.2.2.2)) sb mv mv' vis' q' a l := by
  obtain ⟨h1, h2, h3, h6, h7, h8⟩ := h
  have hn := mvw_cells h3 h7
  have hne : sb ≠ w.heap.size + 1 := by omega
  exact ⟨kp_set (kp_set (kp_set (kp_set h1 (Or.inr (by omega)) _ _) (Or.inr (by omega)) _ _) (Or.inr (by omega)) _ _) (Or.inr (by omega)) _ _, h2, mvw_set (mvw_set (mvw_set (mvw_set h3 hne hn _ _) hne hn _ _) hne hn _ _) hne hn _ _, set4_other h6 (by omega) _ _ _ _, set4_row h7 _ _ _ _, set4_other h8 (by omega) _ _ _ _⟩
end
theorem svw_alloc {w0 w x : World} {sb : Nat} {mv : Value} (h : SvW w0 w x sb mv) (o : Obj) : SvW w0 w (x.alloc o) sb mv := by
  obtain ⟨hk, vis2, mv2, h2, h3⟩ := h
  exact ⟨kp_alloc hk _, vis2, mv2, h2, mvw_bel h3 (bel_alloc br _)⟩
theorem lsw_set3 {w0 w wr : World} {sb : Nat} {mv : Value} {vis : Int} {q : Me} {a : Addr} {l : Nat} (h : LsW w0 w wr sb mv mv vis q a l) (hs : sb < w.heap.size) {cs : Array Value} {t : TypeId} {fr : Nat × Nat} (hz : wr.heap[w.heap.size + 1 + 1 + 1]? = some (.cells cs t fr)) (v0 v1 v2 v3 : Value) :
    LsW w0 w ((((wr.setCell ⟨w.heap.size + 1 + 1 + 1, 0, none⟩ v0).setCell ⟨w.heap.size + 1 + 1 + 1, 1, none⟩ v1).setCell ⟨w.heap.size + 1 + 1 + 1, 2, none⟩ v2).setCell ⟨w.heap.size + 1 + 1 + 1, 3, none⟩ v3) sb mv mv vis q a l := by
  obtain ⟨h1, h2, h3, h6, h7, h8⟩ := h
  have hn := mvw_cells h3 hz
  have hne : sb ≠ w.heap.size + 1 + 1 + 1 := by omega
  exact ⟨kp_set (kp_set (kp_set (kp_set h1 (Or.inr (by omega)) _ _) (Or.inr (by omega)) _ _) (Or.inr (by omega)) _ _) (Or.inr (by omega)) _ _, h2, mvw_set (mvw_set (mvw_set (mvw_set h3 hne hn _ _) hne hn _ _) hne hn _ _) hne hn _ _, set4_other h6 (by omega) _ _ _ _, set4_other h7 (by omega) _ _ _ _, set4_other h8 (by omega) _ _ _ _⟩
theorem svw_set4 {w0 w w1 : World} {sb : Nat} {mv : Value} (h : SvW w0 w w1 sb mv) (hs : sb < w.heap.size) {cs : Array Value} {t : TypeId} {fr : Nat × Nat} (hr : w1.heap[w.heap.size]? = some (.cells cs t fr)) (v0 v1 v2 v3 : Value) :
    SvW w0 w ((((w1.setCell ⟨w.heap.size, 0, none⟩ v0).setCell ⟨w.heap.size, 1, none⟩ v1).setCell ⟨w.heap.size, 2, none⟩ v2).setCell ⟨w.heap.size, 3, none⟩ v3) sb mv := by
  obtain ⟨hk, vis2, mv2, h2, h3⟩ := h
  have hn := mvw_cells h3 hr
  have hne : sb ≠ w.heap.size := by omega
  exact ⟨kp_set (kp_set (kp_set (kp_set hk (Or.inr (Nat.le_refl _)) _ _) (Or.inr (Nat.le_refl _)) _ _) (Or.inr (Nat.le_refl _)) _ _) (Or.inr (Nat.le_refl _)) _ _, vis2, mv2, h2, mvw_set (mvw_set (mvw_set (mvw_set h3 hne hn _ _) hne hn _ _) hne hn _ _) hne hn _ _⟩
set_option maxRecDepth 100000 in
set_option maxHeartbeats 4000000 in
theorem sw_list (n : Nat) (hv : SwValue n) : SwList n := by
  intro L p l c lev vis w0 w sb mv hr hB hs hat
  obtain ⟨hl, hlc, hcm, hel⟩ := hr
  unfold maxLen at hcm
  have c0 : w.cell? ⟨sb, 0, none⟩ = some (.int .i64 vis) := rc hat.1 0
  have c1 : w.cell? ⟨sb, 1, none⟩ = some mv := rc hat.1 1
  have hlt := row_lt hat.1
  have hne : sb ≠ w.heap.size := by omega
  have hne' : w.heap.size ≠ sb := by omega
  have lt1 : sb < w.heap.size + 1 := by omega
  have lt2 : sb < w.heap.size + 1 + 1 := by omega
  have lt3 : sb < w.heap.size + 1 + 1 + 1 := by omega
  have ne1 : sb ≠ w.heap.size + 1 := by omega
  have ne2 : sb ≠ w.heap.size + 1 + 1 := by omega
  have ne3 : sb ≠ w.heap.size + 1 + 1 + 1 := by omega
  obtain ⟨big, hbig⟩ : ∃ big, big = decide (64 < (l : Int)) := ⟨_, rfl⟩
  have hbig' : decide (64 < (l : Int)) = big := hbig.symm
  clear hbig
  have START := Lib.hid (show KW w0 w w sb vis mv from ⟨kp_refl w sb mv, hat⟩)
  by_cases hl0 : l = 0
  · subst hl0
    obtain rfl : big = false := by rw [← hbig']; decide
    clear hv hl hel hat hB
    go_enter Try.func79, Try.ntmps79
    go_wp2
    exact bodyPost_ret (v := .agg #[.bool false, .bool false, .int .i64 1, .int .i64 2]) (by simp [results, Try.results79, go_sem, World.cell?_setCell_same, World.cell?_setCell_other]) rfl ⟨me_ok (false, false, 1, 2), kw_sv (kw_alloc (kw_alloc START.out _) _)⟩
  have hl0' : ((l : Int) == 0) = false := by rw [beq_eq_false_iff_ne]; omega
  have hl0'' : (l == 0) = false := by rw [beq_eq_false_iff_ne]; omega
  by_cases hlev : 64 < lev
  · clear hv hl hel hat hB
    go_enter Try.func79, Try.ntmps79
    go_wp2
    exact bodyPost_ret (v := .agg #[.bool false, .bool big, .int .i64 1, .int .i64 2]) (by simp [results, Try.results79, go_sem, World.cell?_setCell_same, World.cell?_setCell_other]) rfl ⟨me_ok (false, big, 1, 2), kw_sv (kw_alloc (kw_alloc START.out _) _)⟩
  obtain ⟨b, off, hp, hPb, hi⟩ := hel (by omega)
  subst hp
  have HI := Lib.hid hi
  have HPb := Lib.hid hPb
  have HAT := Lib.hid hat
  have HB := Lib.hid hB
  have HLV := Lib.hid hv
  have HL := Lib.hid hl
  have lk : ∀ W : World, Below w.heap.size w W → ∃ (q : Me) (ok : Bool) (W' : World),
      (Instr.lookup 89 mv (.agg #[.pointer (some ⟨b, off, none⟩), .int .i64 l]) true).run Try.prog W = .ok (.tuple #[.agg #[.bool q.1, .bool q.2.1, .int .i64 q.2.2.1, .int .i64 q.2.2.2], .bool ok]) W' ∧ DrS W W' := by
    intro W hWB
    rcases hat.2 with e | ⟨mb', es, ck, e, h1, h2, h3, h4⟩
    · subst e
      exact ⟨(false, false, 0, 0), false, W, look_row _ _ W, drs_refl W⟩
    · subst e
      exact look_either _ mb' es ck ⟨b, off, none⟩ l (row_step h3 hWB) (pw_now hPb (hB.trans (hWB.mono hB.size))) (memow_now h4 (hB.trans (hWB.mono hB.size)))
  have hbA := below3 w (.cells #[.bool false, .bool false, .int .i64 0, .int .i64 0] 77) (.cells #[.bool false, .bool big, .int .i64 1, .int .i64 2] 77) (.cells #[.pointer (some ⟨b, off, none⟩), .int .i64 l] 110)
  obtain ⟨⟨a1, a2, a3, a4⟩, oka, WA, lkA, hdA⟩ := lk (((w.alloc (.cells #[.bool false, .bool false, .int .i64 0, .int .i64 0] 77)).alloc (.cells #[.bool false, .bool big, .int .i64 1, .int .i64 2] 77)).alloc (.cells #[.pointer (some ⟨b, off, none⟩), .int .i64 l] 110)).drew (Below.drew hbA)
  obtain ⟨⟨z1, z2, z3, z4⟩, okb, WB, lkB, hdB⟩ := lk ((((w.alloc (.cells #[.bool false, .bool false, .int .i64 0, .int .i64 0] 77)).alloc (.cells #[.bool false, .bool big, .int .i64 1, .int .i64 2] 77)).alloc (.cells #[.pointer (some ⟨b, off, none⟩), .int .i64 l] 110)).alloc (.cells #[.bool false, .bool false, .int .i64 0, .int .i64 0] 77)).drew (Below.drew (bel_alloc hbA _))
  have RS := row_alloc_step (row_alloc_step (row_alloc w #[.bool false, .bool false, .int .i64 0, .int .i64 0] 77) (.cells #[.bool false, .bool big, .int .i64 1, .int .i64 2] 77)) (.cells #[.pointer (some ⟨b, off, none⟩), .int .i64 l] 110)
  have RM := row_alloc_step (row_alloc (w.alloc (.cells #[.bool false, .bool false, .int .i64 0, .int .i64 0] 77)) #[.bool false, .bool big, .int .i64 1, .int .i64 2] 77) (.cells #[.pointer (some ⟨b, off, none⟩), .int .i64 l] 110)
  have RK := row_alloc ((w.alloc (.cells #[.bool false, .bool false, .int .i64 0, .int .i64 0] 77)).alloc (.cells #[.bool false, .bool big, .int .i64 1, .int .i64 2] 77)) #[.pointer (some ⟨b, off, none⟩), .int .i64 l] 110
  have RZ := row_alloc (((w.alloc (.cells #[.bool false, .bool false, .int .i64 0, .int .i64 0] 77)).alloc (.cells #[.bool false, .bool big, .int .i64 1, .int .i64 2] 77)).alloc (.cells #[.pointer (some ⟨b, off, none⟩), .int .i64 l] 110)) #[.bool false, .bool false, .int .i64 0, .int .i64 0] 77
  simp only [World.size_alloc] at RM RK RZ
  have HA : WA.heap = (((w.alloc (.cells #[.bool false, .bool false, .int .i64 0, .int .i64 0] 77)).alloc (.cells #[.bool false, .bool big, .int .i64 1, .int .i64 2] 77)).alloc (.cells #[.pointer (some ⟨b, off, none⟩), .int .i64 l] 110)).heap := hdA.1
  have HBq : WB.heap = ((((w.alloc (.cells #[.bool false, .bool false, .int .i64 0, .int .i64 0] 77)).alloc (.cells #[.bool false, .bool big, .int .i64 1, .int .i64 2] 77)).alloc (.cells #[.pointer (some ⟨b, off, none⟩), .int .i64 l] 110)).alloc (.cells #[.bool false, .bool false, .int .i64 0, .int .i64 0] 77)).heap := hdB.1
  have LA := Lib.hid (show LsW w0 w WA sb mv mv vis (false, big, 1, 2) ⟨b, off, none⟩ l from ⟨kp_bel (kp_refl w sb mv) ((Below.drew hbA).trans ((drs_below hdA).mono hbA.size)), Or.inl rfl, mvw_bel hat ((Below.drew hbA).trans ((drs_below hdA).mono hbA.size)), by rw [HA]; exact RS, by rw [HA]; exact RM, by rw [HA]; exact RK⟩)
  have LB := Lib.hid (show LsW w0 w WB sb mv mv vis (false, big, 1, 2) ⟨b, off, none⟩ l ∧ WB.heap[w.heap.size + 1 + 1 + 1]? = some (.cells #[.bool false, .bool false, .int .i64 0, .int .i64 0] 77 (0, 0)) from ⟨⟨kp_bel (kp_refl w sb mv) ((Below.drew (bel_alloc hbA _)).trans ((drs_below hdB).mono (bel_alloc hbA _).size)), Or.inl rfl, mvw_bel hat ((Below.drew (bel_alloc hbA _)).trans ((drs_below hdB).mono (bel_alloc hbA _).size)), by rw [HBq]; exact row_alloc_step RS _, by rw [HBq]; exact row_alloc_step RM _, by rw [HBq]; exact row_alloc_step RK _⟩, by rw [HBq]; exact RZ⟩)
  have ra := LA.out.2.2.2.1
  have rb := LB.out.1.2.2.2.1
  have rz := LB.out.2
  have x0 := rc ra 0; have x1 := rc ra 1; have x2 := rc ra 2; have x3 := rc ra 3
  have y0 := rc rb 0; have y1 := rc rb 1; have y2 := rc rb 2; have y3 := rc rb 3
  have t0 := rc rz 0; have t1 := rc rz 1; have t2 := rc rz 2; have t3 := rc rz 3
  simp only [lk0, lk1, lk2] at x0 x1 x2 x3 y0 y1 y2 y3 t0 t1 t2 t3
  have xf := fun o => row_frz ra o
  have yf := fun o => row_frz rb o
  have tf := fun o => row_frz rz o
  have xl := row_lt ra; have yl := row_lt rb; have tl := row_lt rz
  have xne : w.heap.size ≠ WA.heap.size := by omega
  clear lk hat hB hv hl hel hi hPb hdA hdB hbA RS RM RK RZ HA HBq ra rb rz
  go_enter Try.func79, Try.ntmps79
  go_wp2
  go_region
  · cases oka
    case true =>
      go_wp2
      exact bodyPost_ret (v := .agg #[.bool a1, .bool a2, .int .i64 a3, .int .i64 a4]) (by simp [results, Try.results79, go_sem, World.cell?_setCell_same, World.cell?_setCell_other, World.size_setCell, x0, x1, x2, x3, xl, xne]) rfl ⟨me_ok (a1, a2, a3, a4), svw_alloc (svw_set4 ⟨LA.out.1, vis, mv, Or.inl rfl, LA.out.2.2.1⟩ hlt LA.out.2.2.2.1 _ _ _ _) _⟩
    case false =>
      go_wp2
      go_loopw [43] (fun i wr => ∃ (k : Nat) (vis' : Int) (mv' : Value) (q : Me), k ≤ l ∧ i = .int .i64 k ∧ Hid (LsW w0 w wr sb mv mv' vis' q ⟨b, off, none⟩ l)) (fun i _ => l - (intOf i).toNat)
      case atStart => exact ⟨0, vis, mv, (false, big, 1, 2), by omega, rfl, Lib.hid (lsw_bel LA.out (bel_alloc br _))⟩
      case round =>
        obtain ⟨k, vis', mv', q, hk, rfl, HLST⟩ := hrel
        have hwr : w.heap.size + 1 + 1 < wr.heap.size := row_lt HLST.out.2.2.2.2.2
        have hrm := HLST.out.2.2.2.2.1
        have m0 := rc hrm 0; have m1 := rc hrm 1; have m2 := rc hrm 2; have m3 := rc hrm 3
        simp only [lk0, lk1, lk2] at m0 m1 m2 m3
        have hmf := fun o => row_frz hrm o
        obtain ⟨q1, q2, q3, q4⟩ := q
        have hmne : w.heap.size + 1 ≠ wr.heap.size := by omega
        have hmne' : wr.heap.size ≠ w.heap.size + 1 := by omega
        have hmlt : w.heap.size + 1 < wr.heap.size := by omega
        by_cases hlt2 : k < l
        · have hkl : k < L.length := by have := HL.out; omega
          obtain ⟨v0, v1, v2, v3, v4, d0, d1, d2, d3, d4, hr⟩ := HI.out k hkl
          obtain ⟨K5, I5, F5, S5, p5, l5, c5, he5⟩ := repP_shape hr
          simp only [Value.agg.injEq, Array.mk.injEq, List.cons.injEq, and_true] at he5
          obtain ⟨rfl, rfl, rfl, rfl, rfl⟩ := he5
          have HBW := Lib.hid (kpw_below HB.out hs HAT.out HLST.out.1)
          have e0 := ck HBW.out d0
          have e1 := ck HBW.out d1
          have e2 := ck HBW.out d2
          have e3 := ck HBW.out d3
          have e4 := ck HBW.out d4
          have HR := Lib.hid hr
          have HLD := Lib.hid (lsw_bel HLST.out (Below.drew (bel_alloc (Below.refl wr.heap.size wr) (.cells #[.int .i64 K5, .int .i64 I5, .float .f64 F5, .string S5, .slice p5 l5 c5] 27))))
          have HBD := Lib.hid (kpw_below HB.out hs HAT.out HLD.out.1)
          clear d0 d1 d2 d3 d4 hr hrm
          go_wp2
          go_region_with (first
            | (go_at_call 67; refine (HLV.out L[k] _ lev vis' w0 _ sb mv' HR.out HBD.out hs HLD.out.2.2.1).mono ?_; rintro e w1 ⟨⟨qx, rfl⟩, hsv⟩; obtain ⟨mv2, vis2, hl2⟩ := lsw_sv HLD.out hlt hsv; have HL2 := Lib.hid hl2; have hm2 := HL2.out.2.2.2.2.1; have n0 := rc hm2 0; have n1 := rc hm2 1; have n2 := rc hm2 2; have n3 := rc hm2 3; simp only [lk0, lk1, lk2] at n0 n1 n2 n3; have nz := row_lt hm2; clear hsv hl2 hm2)
            | (go_at_call 87; refine (with_me _ _ _ _ _ _).mono ?_; rintro e w2 ⟨rfl, hb2⟩; have HL3 := Lib.hid (lsw_bel HL2.out hb2); have hm3 := HL3.out.2.2.2.2.1; have o0 := rc hm3 0; have o1 := rc hm3 1; have o2 := rc hm3 2; have o3 := rc hm3 3; simp only [lk0, lk1, lk2] at o0 o1 o2 o3; have of := fun o => row_frz hm3 o; clear hb2 hm3 n0 n1 n2 n3))
          all_goals
            have HEND := Lib.hid (lsw_set HL3.out hlt (withM (q1, q2, q3, q4) qx))
            clear m0 m1 m2 m3 hmf e0 e1 e2 e3 e4 o0 o1 o2 o3 of
            go_wp2
            go_roundw
            case rel => exact ⟨k + 1, vis2, mv2, withM (q1, q2, q3, q4) qx, by omega, by go_num, HEND⟩
            case measure => simp [intOf]; omega
        · have hk0 := rc HLST.out.2.2.2.2.2 0
          have hk1 := rc HLST.out.2.2.2.2.2 1
          simp only [lk0, lk1, lk2] at hk0 hk1
          have HBW := Lib.hid (kpw_below HB.out hs HAT.out HLST.out.1)
          clear hrm
          go_wp2_with fail
          go_at_call 88; refine (sw_keep ⟨b, off, none⟩ _ _ _ _ _ w0 _ sb vis' mv' HBW.out hs HLST.out.2.2.1 HPb.out).mono ?_; rintro e w1 ⟨rfl, hk2⟩
          obtain ⟨mv2, vis2, hl2⟩ := lsw_sv HLST.out hlt hk2
          have HL2 := Lib.hid hl2
          have hrm1 := HL2.out.2.2.2.2.1
          have hrs1 := HL2.out.2.2.2.1
          have n0 := rc hrm1 0; have n1 := rc hrm1 1; have n2 := rc hrm1 2; have n3 := rc hrm1 3
          have s0 := rc hrs1 0; have s1 := rc hrs1 1; have s2 := rc hrs1 2; have s3 := rc hrs1 3
          simp only [lk0, lk1, lk2] at n0 n1 n2 n3 s0 s1 s2 s3
          have sf := fun o => row_frz hrs1 o
          have sl := row_lt hrm1
          clear hk2 hl2 hrm1 hrs1 m0 m1 m2 m3 hmf hk0 hk1
          go_wp2
          exact bodyPost_ret (v := .agg #[.bool q1, .bool q2, .int .i64 q3, .int .i64 q4]) (by simp [results, Try.results79, go_sem, World.cell?_setCell_same, World.cell?_setCell_other, s0, s1, s2, s3]) rfl ⟨me_ok (q1, q2, q3, q4), svw_set4 ⟨HL2.out.1, vis2, mv2, HL2.out.2.1, HL2.out.2.2.1⟩ hlt HL2.out.2.2.2.1 _ _ _ _⟩
  · have LB3 := Lib.hid (lsw_set3 LB.out.1 hlt LB.out.2 (.bool z1) (.bool z2) (.int .i64 z3) (.int .i64 z4))
    cases okb
    case true =>
      go_wp2
      exact bodyPost_ret (v := .agg #[.bool z1, .bool z2, .int .i64 z3, .int .i64 z4]) (by simp [results, Try.results79, go_sem, World.cell?_setCell_same, World.cell?_setCell_other, y0, y1, y2, y3, t0, t1, t2, t3]) rfl ⟨me_ok (z1, z2, z3, z4), svw_set4 ⟨LB3.out.1, vis, mv, Or.inl rfl, LB3.out.2.2.1⟩ hlt LB3.out.2.2.2.1 _ _ _ _⟩
    case false =>
      go_wp2
      go_loopw [43] (fun i wr => ∃ (k : Nat) (vis' : Int) (mv' : Value) (q : Me), k ≤ l ∧ i = .int .i64 k ∧ Hid (LsW w0 w wr sb mv mv' vis' q ⟨b, off, none⟩ l)) (fun i _ => l - (intOf i).toNat)
      case atStart => exact ⟨0, vis, mv, (false, big, 1, 2), by omega, rfl, Lib.hid LB3.out⟩
      case round =>
        obtain ⟨k, vis', mv', q, hk, rfl, HLST⟩ := hrel
        have hwr : w.heap.size + 1 + 1 < wr.heap.size := row_lt HLST.out.2.2.2.2.2
        have hrm := HLST.out.2.2.2.2.1
        have m0 := rc hrm 0; have m1 := rc hrm 1; have m2 := rc hrm 2; have m3 := rc hrm 3
        simp only [lk0, lk1, lk2] at m0 m1 m2 m3
        have hmf := fun o => row_frz hrm o
        obtain ⟨q1, q2, q3, q4⟩ := q
        have hmne : w.heap.size + 1 ≠ wr.heap.size := by omega
        have hmne' : wr.heap.size ≠ w.heap.size + 1 := by omega
        have hmlt : w.heap.size + 1 < wr.heap.size := by omega
        by_cases hlt2 : k < l
        · have hkl : k < L.length := by have := HL.out; omega
          obtain ⟨v0, v1, v2, v3, v4, d0, d1, d2, d3, d4, hr⟩ := HI.out k hkl
          obtain ⟨K5, I5, F5, S5, p5, l5, c5, he5⟩ := repP_shape hr
          simp only [Value.agg.injEq, Array.mk.injEq, List.cons.injEq, and_true] at he5
          obtain ⟨rfl, rfl, rfl, rfl, rfl⟩ := he5
          have HBW := Lib.hid (kpw_below HB.out hs HAT.out HLST.out.1)
          have e0 := ck HBW.out d0
          have e1 := ck HBW.out d1
          have e2 := ck HBW.out d2
          have e3 := ck HBW.out d3
          have e4 := ck HBW.out d4
          have HR := Lib.hid hr
          have HLD := Lib.hid (lsw_bel HLST.out (Below.drew (bel_alloc (Below.refl wr.heap.size wr) (.cells #[.int .i64 K5, .int .i64 I5, .float .f64 F5, .string S5, .slice p5 l5 c5] 27))))
          have HBD := Lib.hid (kpw_below HB.out hs HAT.out HLD.out.1)
          clear d0 d1 d2 d3 d4 hr hrm
          go_wp2
          go_region_with (first
            | (go_at_call 67; refine (HLV.out L[k] _ lev vis' w0 _ sb mv' HR.out HBD.out hs HLD.out.2.2.1).mono ?_; rintro e w1 ⟨⟨qx, rfl⟩, hsv⟩; obtain ⟨mv2, vis2, hl2⟩ := lsw_sv HLD.out hlt hsv; have HL2 := Lib.hid hl2; have hm2 := HL2.out.2.2.2.2.1; have n0 := rc hm2 0; have n1 := rc hm2 1; have n2 := rc hm2 2; have n3 := rc hm2 3; simp only [lk0, lk1, lk2] at n0 n1 n2 n3; have nz := row_lt hm2; clear hsv hl2 hm2)
            | (go_at_call 87; refine (with_me _ _ _ _ _ _).mono ?_; rintro e w2 ⟨rfl, hb2⟩; have HL3 := Lib.hid (lsw_bel HL2.out hb2); have hm3 := HL3.out.2.2.2.2.1; have o0 := rc hm3 0; have o1 := rc hm3 1; have o2 := rc hm3 2; have o3 := rc hm3 3; simp only [lk0, lk1, lk2] at o0 o1 o2 o3; have of := fun o => row_frz hm3 o; clear hb2 hm3 n0 n1 n2 n3))
          all_goals
            have HEND := Lib.hid (lsw_set HL3.out hlt (withM (q1, q2, q3, q4) qx))
            clear m0 m1 m2 m3 hmf e0 e1 e2 e3 e4 o0 o1 o2 o3 of
            go_wp2
            go_roundw
            case rel => exact ⟨k + 1, vis2, mv2, withM (q1, q2, q3, q4) qx, by omega, by go_num, HEND⟩
            case measure => simp [intOf]; omega
        · have hk0 := rc HLST.out.2.2.2.2.2 0
          have hk1 := rc HLST.out.2.2.2.2.2 1
          simp only [lk0, lk1, lk2] at hk0 hk1
          have HBW := Lib.hid (kpw_below HB.out hs HAT.out HLST.out.1)
          clear hrm
          go_wp2_with fail
          go_at_call 88; refine (sw_keep ⟨b, off, none⟩ _ _ _ _ _ w0 _ sb vis' mv' HBW.out hs HLST.out.2.2.1 HPb.out).mono ?_; rintro e w1 ⟨rfl, hk2⟩
          obtain ⟨mv2, vis2, hl2⟩ := lsw_sv HLST.out hlt hk2
          have HL2 := Lib.hid hl2
          have hrm1 := HL2.out.2.2.2.2.1
          have hrs1 := HL2.out.2.2.2.1
          have n0 := rc hrm1 0; have n1 := rc hrm1 1; have n2 := rc hrm1 2; have n3 := rc hrm1 3
          have s0 := rc hrs1 0; have s1 := rc hrs1 1; have s2 := rc hrs1 2; have s3 := rc hrs1 3
          simp only [lk0, lk1, lk2] at n0 n1 n2 n3 s0 s1 s2 s3
          have sf := fun o => row_frz hrs1 o
          have sl := row_lt hrm1
          clear hk2 hl2 hrm1 hrs1 m0 m1 m2 m3 hmf hk0 hk1
          go_wp2
          exact bodyPost_ret (v := .agg #[.bool q1, .bool q2, .int .i64 q3, .int .i64 q4]) (by simp [results, Try.results79, go_sem, World.cell?_setCell_same, World.cell?_setCell_other, s0, s1, s2, s3]) rfl ⟨me_ok (q1, q2, q3, q4), svw_set4 ⟨HL2.out.1, vis2, mv2, HL2.out.2.1, HL2.out.2.2.1⟩ hlt HL2.out.2.2.2.1 _ _ _ _⟩
end Num
end Go.Proofs.Yteodljkcbddehaa
/-
  value.Check of whatever value tells something.
-/
namespace Go.Proofs.Yteodljkcbddehaa
open Go.RowKit
namespace Num
open Ints
set_option linter.unusedSimpArgs false
set_option linter.unusedVariables false
theorem sw_all : ∀ n, SwValue n
  | 0 => fun T v lev vis w0 w sb mv h => h.elim
  | n + 1 => sw_value n (sw_list n (sw_all n))
theorem repP_keep {w w' : World} (hb : Below w.heap.size w w') : ∀ (n : Nat) (v : Value) (T : VT n), RepP w n v T → RepP w' n v T
  | 0, _, _, h => h.elim
  | n + 1, v, T, ⟨p, l, c, hv, h1, h2, h3, h4, k1, k2, k3, k4⟩ => ⟨p, l, c, hv, h1, h2, h3, h4, k1, k2, k3, fun h0 => by
    obtain ⟨b, off, hp, hpw, hi⟩ := k4 h0
    exact ⟨b, off, hp, pw_now hpw hb, fun i hi' => by obtain ⟨v0, v1, v2, v3, v4, c0, c1, c2, c3, c4, hr⟩ := hi i hi'; exact ⟨v0, v1, v2, v3, v4, ck hb c0, ck hb c1, ck hb c2, ck hb c3, ck hb c4, repP_keep hb n _ _ hr⟩⟩⟩
set_option maxRecDepth 100000 in
set_option maxHeartbeats 4000000 in
theorem measured_weak (n : Nat) (v : Value) (T : VT n) (w : World) (hr : RepP w n v T) : Calls Try.prog 50 #[v] w fun e w' => MeOk e ∧ Below w.heap.size w w' := by
  have HR := Lib.hid hr
  obtain ⟨K, I, F, S, p, l, c, rfl⟩ := repP_shape hr
  clear hr
  have HB := Lib.hid (bel_alloc (bel_alloc (bel_alloc (Below.refl w.heap.size w) (.cells #[.int .i64 K, .int .i64 I, .float .f64 F, .string S, .slice p l c] 27)) (.cells #[.bool false, .bool false, .int .i64 0, .int .i64 0] 77)) (.cells #[.int .i64 0, .map none] 91))
  have HA := Lib.hid (row_alloc ((w.alloc (.cells #[.int .i64 K, .int .i64 I, .float .f64 F, .string S, .slice p l c] 27)).alloc (.cells #[.bool false, .bool false, .int .i64 0, .int .i64 0] 77)) #[.int .i64 0, .map none] 91)
  have HM := Lib.hid (row_alloc_step (row_alloc (w.alloc (.cells #[.int .i64 K, .int .i64 I, .float .f64 F, .string S, .slice p l c] 27)) #[.bool false, .bool false, .int .i64 0, .int .i64 0] 77) (.cells #[.int .i64 0, .map none] 91))
  simp only [World.size_alloc] at HA HM
  go_enter Try.func50, Try.ntmps50
  go_wp2_with fail
  go_at_call 67; refine (sw_all n T _ _ 0 w _ (w.heap.size + 1 + 1) (.map none) HR.out HB.out (by omega) ⟨HA.out, Or.inl rfl⟩).mono ?_; rintro e w1 ⟨⟨q, rfl⟩, hk, _⟩
  have HF := Lib.hid (kpw_below (vis := 0) HB.out (by omega) ⟨HA.out, Or.inl rfl⟩ hk)
  have hm := (hk.block (w.heap.size + 1) (row_lt HM.out) (by omega) (by simp)).trans HM.out
  have d0 := rc hm 0; have d1 := rc hm 1; have d2 := rc hm 2; have d3 := rc hm 3
  simp only [lk0, lk1, lk2] at d0 d1 d2 d3
  have df := fun o => row_frz hm o
  obtain ⟨q1, q2, q3, q4⟩ := q
  rw [show meV (q1, q2, q3, q4) = Value.agg #[.bool q1, .bool q2, .int .i64 q3, .int .i64 q4] from rfl]
  clear hm hk
  go_wp2
  refine bodyPost_ret (v := .agg #[.bool q1, .bool q2, .int .i64 q3, .int .i64 q4]) (by simp [results, Try.results50, go_sem, World.cell?_setCell_same, World.cell?_setCell_other, d0, d1, d2, d3]) rfl ⟨me_ok (q1, q2, q3, q4), ?_⟩
  exact ((((HF.out.setCell (p := ⟨w.heap.size + 1, 0, none⟩) (by show w.heap.size ≤ w.heap.size + 1; omega) _).setCell (p := ⟨w.heap.size + 1, 1, none⟩) (by show w.heap.size ≤ w.heap.size + 1; omega) _).setCell (p := ⟨w.heap.size + 1, 2, none⟩) (by show w.heap.size ≤ w.heap.size + 1; omega) _).setCell (p := ⟨w.heap.size + 1, 3, none⟩) (by show w.heap.size ≤ w.heap.size + 1; omega) _)
def ErrAny (w : World) (e : Ending) (w' : World) : Prop := ∃ z : Int, e = .returned (.int .i64 z) ∧ Below w.heap.size w w'
set_option maxRecDepth 100000 in
set_option maxHeartbeats 4000000 in
theorem check_of (K I : Int) (F : Nat) (S : ByteArray) (p : Option Addr) (l c : Nat) (w : World) (q1 q2 : Bool) (q3 q4 : Int)
    (hm : ∀ W, Below w.heap.size w W → ∀ R : Ending → World → Prop, (∀ q1 q2 q3 q4 W', Below W.heap.size W W' → R (.returned (.agg #[.bool q1, .bool q2, .int .i64 q3, .int .i64 q4])) W') → Calls Try.prog 50 #[.agg #[.int .i64 K, .int .i64 I, .float .f64 F, .string S, .slice p l c]] W R) :
    Calls Try.prog 28 #[.agg #[.int .i64 K, .int .i64 I, .float .f64 F, .string S, .slice p l c]] w (ErrAny w) := by
  have HB := Lib.hid (bel_alloc (Below.refl w.heap.size w) (.cells #[.int .i64 K, .int .i64 I, .float .f64 F, .string S, .slice p l c] 27))
  have HM := Lib.hid hm
  clear hm
  go_enter Try.func28, Try.ntmps28
  go_wp2_with fail
  go_at_call 50; refine HM.out _ HB.out _ ?_; intro q1 q2 q3 q4 w1 hb
  have HB1 := Lib.hid (bel_alloc (bel_step HB.out hb) (.cells #[.bool q1, .bool q2, .int .i64 q3, .int .i64 q4] 77))
  clear hb
  cases q1
  · cases q2
    · cases h3 : decide (8 < q3)
      · cases h4 : decide (4096 < q4)
        · go_wp2
          go_ret
          exact ⟨_, rfl, HB1.out⟩
        · go_wp2
          go_ret
          exact ⟨_, rfl, HB1.out⟩
      · go_wp2
        go_ret
        exact ⟨_, rfl, HB1.out⟩
    · go_wp2
      go_ret
      exact ⟨_, rfl, HB1.out⟩
  · go_wp2
    go_ret
    exact ⟨_, rfl, HB1.out⟩
theorem vcheck_weak (n : Nat) (v : Value) (T : VT n) (w : World) (hr : RepP w n v T) : Calls Try.prog 28 #[v] w (ErrAny w) := by
  obtain ⟨K, I, F, S, p, l, c, rfl⟩ := repP_shape hr
  exact check_of K I F S p l c w true true 0 0 (fun W hb R hR => (measured_weak n _ T W (repP_keep hb _ _ _ hr)).mono fun e w' ⟨⟨⟨q1, q2, q3, q4⟩, he⟩, hb'⟩ => by subst he; exact hR q1 q2 q3 q4 w' hb')
end Num
end Go.Proofs.Yteodljkcbddehaa
/-
  args.Check of whatever values: what it lets through its signature holds.
-/
namespace Go.Proofs.Yteodljkcbddehaa
open Go.RowKit
namespace Num
open Ints
set_option linter.unusedSimpArgs false
set_option linter.unusedVariables false
def CkW (t : ByteArray) (n : Nat) (L : List (VT (n + 1))) (w : World) (e : Ending) (w' : World) : Prop := ∃ z : Int, e = .returned (.int .i64 z) ∧ Below w.heap.size w w' ∧ (z = 0 → hldL t n 0 L = true)
set_option maxRecDepth 100000 in
set_option maxHeartbeats 16000000 in
theorem check_yes_weak (c m : ByteArray) (n : Nat) (p : Option Addr) (l k : Nat) (L : List (VT (n + 1))) (w : World) (x : ByteArray × Bool × ByteArray) (hr : RepLP w (RepP w (n + 1)) p l k L) (hx : findM m (metas c) = some x) (hn : (decide (x.2.2.size ≤ l) && decide ((l : Int) ≤ x.2.2.size + moreOf x.2.2)) = true) :
    Calls Try.prog 15 #[.string c, .string m, .slice p l k] w (CkW x.2.2 n L w) := by
  have hs3 := letters_good c x (find_mem m _ _ hx)
  obtain ⟨hl, hlc, hcm, hel⟩ := hr
  unfold maxLen at hcm
  have HE := Lib.hid hel
  have HX := Lib.hid hx
  have HLEN := Lib.hid hl
  clear hl
  clear hel hx
  go_enter Try.func15, Try.ntmps15
  go_wp2_with fail
  go_at_call 26; refine (mof_any c w).mono ?_; rintro e w1 ⟨mm, rfl, hm, hb1⟩
  have HB1 := Lib.hid hb1
  clear hb1
  have hm2 : ∃ b, mm = .map (some b) := by
    rcases hm with ⟨h, rfl⟩ | ⟨b, L, rfl, _⟩
    · have h1 := HX.out; rw [h] at h1; cases h1
    · exact ⟨b, rfl⟩
  obtain ⟨b, rfl⟩ := hm2
  have hlk : ∃ v, SigAt w1 v x ∧ ∀ c : Bool, (Instr.lookup 58 (.map (some b)) (.string m) c).run Try.prog w1 = .ok (if c then .tuple #[v, .bool true] else v) w1 := by
    rcases look_find hm m with ⟨h1, h2⟩ | ⟨x', v, h1, h3, h2⟩
    · rw [HX.out] at h1; cases h1
    · rw [HX.out] at h1; injection h1 with h1; subst h1; exact ⟨v, h3, h2⟩
  obtain ⟨v, ⟨p2, rfl, htk⟩, h2⟩ := hlk
  have h4 := h2 true
  simp only [sigV, if_true] at h4
  obtain ⟨z, hz3⟩ : ∃ z, x.2.2.size = z := ⟨_, rfl⟩
  obtain ⟨mo, hmo⟩ : ∃ mo, moreOf x.2.2 = mo := ⟨_, rfl⟩
  obtain ⟨wx, hwx⟩ : ∃ wx, x.2.1 = wx := ⟨_, rfl⟩
  have hmo2 : 0 ≤ mo ∧ mo ≤ 100 := by rw [← hmo]; unfold moreOf; split <;> decide
  rw [hz3, hmo, hwx] at h4
  rw [hz3, hmo] at hn
  rw [hz3] at hs3
  have hzl : z ≤ l := by rw [Bool.and_eq_true] at hn; exact of_decide_eq_true hn.1
  have HT := Lib.hid (fun W => takes_many p2 z mo wx l W (by omega) hmo2 (by omega))
  rw [hn] at HT
  have HTK := Lib.hid htk
  have HZ3 := Lib.hid hz3
  have HLM := Lib.hid (show 0 < l → 0 < z from fun h => by
    rw [Bool.and_eq_true] at hn
    have h5 := of_decide_eq_true hn.2
    rcases Nat.eq_zero_or_pos z with h0 | h0
    · exfalso
      have hmz : mo = 0 := by
        rw [← hmo]
        unfold moreOf
        rw [if_neg]
        intro e
        rw [e] at hz3
        have : (1 : Nat) = z := hz3
        omega
      omega
    · exact h0)
  clear hm h2 hn hmo hz3 hwx hmo2 htk
  have HA := Lib.hid (row_alloc w1 #[.slice p2 z z, .int .i64 mo, .bool wx] 56)
  go_wp2_with fail
  go_at_call 27; refine (HT.out _).mono ?_; rintro e w2 ⟨rfl, hb2⟩
  have HB2 := Lib.hid (bel_step (bel_alloc HB1.out _) hb2)
  have HA2 := Lib.hid (row_step HA.out hb2)
  have HT2 := Lib.hid (show 0 < z → ∃ b, p2 = some ⟨b, 0, none⟩ ∧ ∀ j (h : j < x.2.2.data.toList.length), w2.cell? ⟨b, j, none⟩ = some (.int .i64 (kindC (x.2.2.data.toList[j]))) from fun h => by
    obtain ⟨b, hp, hj⟩ := HTK.out (by rw [HZ3.out]; exact h)
    exact ⟨b, hp, fun j h => ck hb2 (ck (bel_alloc br _) (hj j h))⟩)
  clear hb2 HA HTK h4 HT
  go_wp2
  go_loopw [32] (fun iv wr => ∃ i : Nat, i ≤ l ∧ iv = .int .i64 i ∧ Below w2.heap.size w2 wr ) (fun iv _ => l - (intOf iv).toNat)
  case atStart => exact ⟨0, by omega, rfl, Below.refl _ _⟩
  case round =>
    obtain ⟨i, hi0, rfl, hB⟩ := hrel
    have HB := Lib.hid hB
    by_cases hlt : i < l
    · obtain ⟨b, off, hpb, _, hi⟩ := HE.out (by omega)
      subst hpb
      have hkl : i < L.length := by have := HLEN.out; omega
      obtain ⟨v0, v1, v2, v3, v4, c0, c1, c2, c3, c4, hr⟩ := hi i hkl
      have hBw := bel_step HB2.out hB
      have HR := Lib.hid (repP_keep hBw _ _ _ hr)
      obtain ⟨T, hT⟩ : ∃ T, L[i] = T := ⟨_, rfl⟩
      rw [hT] at HR
      obtain ⟨K, I, F, S, q, m2, d, rfl, rfl, rfl, rfl, rfl, _, _⟩ := rep_name (repP_rep _ _ _ HR.out)
      have e0 := ck hBw c0
      have e1 := ck hBw c1
      have e2 := ck hBw c2
      have e3 := ck hBw c3
      have e4 := ck hBw c4
      have elt := cell_lt e0
      have hk0 : (0 : Int) ≤ (i : Int) := by omega
      have hkl2 : (i : Int) < (l : Int) := by omega
      have HCK := Lib.hid (fun W (hb : Below wr.heap.size wr W) => vcheck_weak (n + 1) _ T W (repP_keep hb _ _ _ HR.out))
      clear c0 c1 c2 c3 c4 hr hi hB hBw hT hkl
      have HBA := Lib.hid (bel_alloc (Below.refl wr.heap.size wr) (.cells #[.int .i64 K, .int .i64 I, .float .f64 F, .string S, .slice q m2 d] 27))
      go_wp2_with fail
      go_at_call 28; refine (HCK.out _ HBA.out).mono ?_; rintro e w3 ⟨zc, rfl, hb3⟩
      have HB3 := Lib.hid (bel_step HB.out (bel_step HBA.out hb3))
      clear hb3 e0 e1 e2 e3 e4 elt
      cases hc : (zc == 0)
      · have hc' : (zc != 0) = true := by rw [bne, hc]; rfl
        have HNZ := Lib.hid (show zc ≠ 0 from fun e => by rw [e] at hc; cases hc)
        go_wp2
        go_ret
        exact ⟨_, rfl, bel_step HB2.out HB3.out, fun h => absurd h HNZ.out⟩
      · have hc' : (zc != 0) = false := by rw [bne, hc]; rfl
        go_wp2
        go_roundw
        case rel => exact ⟨i + 1, by omega, by go_num, HB3.out⟩
        case measure => simp [intOf]; omega
    · clear hB
      obtain ⟨wa, rfl⟩ : ∃ wa, wa = wr := ⟨_, rfl⟩
      have HA3 := Lib.hid (row_step HA2.out HB.out)
      have HB3 := Lib.hid (bel_step HB2.out HB.out)
      have HT3 := Lib.hid (show 0 < z → ∃ b, p2 = some ⟨b, 0, none⟩ ∧ ∀ j (h : j < x.2.2.data.toList.length), wa.cell? ⟨b, j, none⟩ = some (.int .i64 (kindC (x.2.2.data.toList[j]))) from fun h => by
        obtain ⟨b, hp, hj⟩ := HT2.out h
        exact ⟨b, hp, fun j h => ck HB.out (hj j h)⟩)
      obtain ⟨hres, hhres⟩ : ∃ r, hldL x.2.2 n 0 L = r := ⟨_, rfl⟩
      have HHR := Lib.hid hhres
      clear hhres HA2 HB2 HT2 HB
      go_wp2
      go_loopw [44] (fun iv wb => ∃ i : Nat, i ≤ l ∧ iv = .int .i64 i ∧ Below wa.heap.size wa wb ∧ Hid (hldL x.2.2 n i (L.drop i) = hres)) (fun iv _ => l - (intOf iv).toNat)
      case atStart => exact ⟨0, by omega, rfl, Below.refl _ _, HHR⟩
      case round =>
        obtain ⟨i, hi0, rfl, hB, HK⟩ := hrel
        rename World => wb
        have HB := Lib.hid hB
        by_cases hlt : i < l
        · obtain ⟨b, off, hpb, _, hi⟩ := HE.out (by omega)
          obtain ⟨b2, hpb2, hj2⟩ := HT3.out (HLM.out (by omega))
          subst hpb
          subst hpb2
          have hkl : i < L.length := by have := HLEN.out; omega
          obtain ⟨v0, v1, v2, v3, v4, c0, c1, c2, c3, c4, hr⟩ := hi i hkl
          have hBw := bel_step HB3.out hB
          have HR := Lib.hid (rep_keep hBw _ _ _ (repP_rep _ _ _ hr))
          have HD := Lib.hid (hld_drop (t := x.2.2) (n := n) hkl)
          obtain ⟨T, hT⟩ : ∃ T, L[i] = T := ⟨_, rfl⟩
          rw [hT] at HR HD
          obtain ⟨K, I, F, S, q, m2, d, rfl, rfl, rfl, rfl, rfl, _, _⟩ := rep_name HR.out
          have e0 := ck hBw c0
          have e1 := ck hBw c1
          have e2 := ck hBw c2
          have e3 := ck hBw c3
          have e4 := ck hBw c4
          have elt := cell_lt e0
          have hk0 : (0 : Int) ≤ (i : Int) := by omega
          have hkl2 : (i : Int) < (l : Int) := by omega
          obtain ⟨kz, hkz⟩ : ∃ kz, kAt x.2.2 i = kz := ⟨_, rfl⟩
          have hkv := kind_vals (x.2.2.data.toList.getD (min i (x.2.2.size - 1)) 0)
          rw [show kindC (x.2.2.data.toList.getD (min i (x.2.2.size - 1)) 0) = kz from hkz] at hkv
          rw [hkz] at HD
          have hzp : 0 < z := HLM.out (by omega)
          have hzl2 : x.2.2.data.toList.length = z := by rw [Array.length_toList]; exact HZ3.out
          have hcz : wa.cell? ⟨b2, min i (z - 1), none⟩ = some (.int .i64 kz) := by
            have hlt2 : min i (z - 1) < x.2.2.data.toList.length := by rw [hzl2]; omega
            rw [hj2 _ hlt2, ← hkz]
            unfold kAt
            rw [show x.2.2.size = z from HZ3.out, List.getD_eq_getElem?_getD, List.getElem?_eq_getElem hlt2]
            rfl
          obtain ⟨W0, hW0⟩ : ∃ W0, wb.alloc (.cells #[.int .i64 K, .int .i64 I, .float .f64 F, .string S, .slice q m2 d] 27) = W0 := ⟨_, rfl⟩
          have hB0 : Below wb.heap.size wb W0 := hW0 ▸ bel_alloc br _
          have HAT := Lib.hid (fun W (hb : Below W0.heap.size W0 W) => sig_at b2 z mo wx i kz W (by omega) hzp (by omega) (ck hb (ck hB0 (ck HB.out hcz))))
          have HHD := Lib.hid (fun W (hb : Below W0.heap.size W0 W) => holds_all kz n (.agg #[.int .i64 K, .int .i64 I, .float .f64 F, .string S, .slice q m2 d]) T W hkv (rep_keep hb _ _ _ (rep_keep hB0 _ _ _ HR.out)))
          obtain ⟨y, hy⟩ : ∃ y, holdsT kz n T = y := ⟨_, rfl⟩
          rw [hy] at HHD HD
          have HRA := row_keep (B := wb.heap.size) hB0 (row_step HA3.out HB.out) (row_lt (row_step HA3.out HB.out))
          have HRB : W0.heap[wb.heap.size]? = some (.cells #[.int .i64 K, .int .i64 I, .float .f64 F, .string S, .slice q m2 d] 27 (0, 0)) := hW0 ▸ row_alloc wb _ _
          have H8 : C8 W0 w1.heap.size wb.heap.size (.slice (some ⟨b2, 0, none⟩) z z) (.int .i64 mo) (.bool wx) (.int .i64 K) (.int .i64 I) (.float .f64 F) (.string S) (.slice q m2 d) W0 :=
            ⟨rc HRA 0, rc HRA 1, rc HRA 2, rc HRB 0, rc HRB 1, rc HRB 2, rc HRB 3, rc HRB 4, Below.refl _ _⟩
          have HH8 := Lib.hid H8
          have HW0 := Lib.hid hW0
          have HB4 := Lib.hid (bel_step HB.out hB0)
          clear c0 c1 c2 c3 c4 hr hi hB hBw hT hkl hj2 hkz hkv hzp hzl2 hcz hB0 HRA HRB hy H8 hW0
          go_wp2_with fail
          rw [HW0.out]
          have H8 := HH8.out
          clear HH8 HW0 e0 e1 e2 e3 e4 elt
          go_region_held3 (fun w' => w'.cell? ⟨w1.heap.size, 0, none⟩ = some (.slice (some ⟨b2, 0, none⟩) z z) ∧ w'.cell? ⟨w1.heap.size, 1, none⟩ = some (.int .i64 mo) ∧ w'.cell? ⟨w1.heap.size, 2, none⟩ = some (.bool wx) ∧ w'.cell? ⟨wb.heap.size, 0, none⟩ = some (.int .i64 K) ∧ w'.cell? ⟨wb.heap.size, 1, none⟩ = some (.int .i64 I) ∧ w'.cell? ⟨wb.heap.size, 2, none⟩ = some (.float .f64 F) ∧ w'.cell? ⟨wb.heap.size, 3, none⟩ = some (.string S) ∧ w'.cell? ⟨wb.heap.size, 4, none⟩ = some (.slice q m2 d) ∧ Below W0.heap.size W0 w') (first | exact (by assumption : C8 _ _ _ _ _ _ _ _ _ _ _ _) | exact c8_drew (by assumption)) (first
            | (go_at_call 29; refine (HAT.out _ ?hs).mono ?_; (case hs => exact (by assumption : C8 _ _ _ _ _ _ _ _ _ _ _ _).2.2.2.2.2.2.2.2); rintro e w' ⟨rfl, hb⟩; have hk := c8_step (by assumption) hb; clear hb)
            | (go_at_call 30; refine (HHD.out _ ?hs).mono ?_; (case hs => exact (by assumption : C8 _ _ _ _ _ _ _ _ _ _ _ _).2.2.2.2.2.2.2.2); rintro e w' ⟨rfl, hb⟩; have hk := c8_step (by assumption) hb; clear hb))
          all_goals
            have H9 := Lib.hid (bel_step HB4.out (by assumption : C8 W0 w1.heap.size wb.heap.size (.slice (some ⟨b2, 0, none⟩) z z) (.int .i64 mo) (.bool wx) (.int .i64 K) (.int .i64 I) (.float .f64 F) (.string S) (.slice q m2 d) _).2.2.2.2.2.2.2.2)
            cases y
            · clear HD HK
              go_wp2
              go_ret
              exact ⟨31, rfl, bel_step HB3.out H9.out, fun h => absurd h (by decide)⟩
            · have HN := Lib.hid (show hldL x.2.2 n (i + 1) (L.drop (i + 1)) = hres by rw [← HK.out, HD.out]; rfl)
              clear HD HK
              go_wp2
              go_roundw
              case rel => exact ⟨i + 1, by omega, by go_num, H9.out, HN⟩
              case measure => simp [intOf]; omega
        · have HR0 := Lib.hid (show hres = true by rw [← HK.out, List.drop_of_length_le (by have := HLEN.out; omega)]; rfl)
          clear hB HK
          go_wp2
          go_ret
          exact ⟨0, rfl, bel_step HB3.out HB.out, fun _ => HHR.out.trans HR0.out⟩
theorem acheck_weak (c m : ByteArray) (n : Nat) (p : Option Addr) (l k : Nat) (L : List (VT (n + 1))) (w : World) (hr : RepLP w (RepP w (n + 1)) p l k L) :
    Calls Try.prog 15 #[.string c, .string m, .slice p l k] w fun e w' => ∃ z : Int, e = .returned (.int .i64 z) ∧ Below w.heap.size w w' ∧ (z = 0 → ∃ x, findM m (metas c) = some x ∧ (decide (x.2.2.size ≤ L.length) && decide ((L.length : Int) ≤ x.2.2.size + moreOf x.2.2)) = true ∧ hldL x.2.2 n 0 L = true) := by
  have hl : L.length = l := hr.1
  have hm : l ≤ 9223372036854775807 := by have h2 := hr.2.1; have h3 := hr.2.2.1; unfold maxLen at h3; omega
  cases hx : findM m (metas c) with
  | none => exact (check_no c m p l k w hm (Or.inl hx)).mono fun e w' h => ⟨31, h.1, h.2, fun h0 => absurd h0 (by decide)⟩
  | some x =>
    cases hn : (decide (x.2.2.size ≤ l) && decide ((l : Int) ≤ x.2.2.size + moreOf x.2.2))
    · exact (check_no c m p l k w hm (Or.inr ⟨x, hx, hn, letters_good c x (find_mem m _ _ hx)⟩)).mono fun e w' h => ⟨31, h.1, h.2, fun h0 => absurd h0 (by decide)⟩
    · exact (check_yes_weak c m n p l k L w x hr hx hn).mono fun e w' ⟨z, he, hb, hz⟩ => ⟨z, he, hb, fun h0 => ⟨x, rfl, by rw [hl]; exact hn, hz h0⟩⟩
end Num
end Go.Proofs.Yteodljkcbddehaa
