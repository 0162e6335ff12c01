/-
  The survey's memo: a map keyed by where lists stand: at a list that it does not hold it finds nothing, and draws nothing; what is laid into it.
-/
import Derived.Test.YtomfgncbdgifoaaJp9WE
import Derived.LaidEql
import Derived.Laws.StructEq
import Derived.MapKept
namespace Go.Proofs.Ytomfgncbdgifoaa
open Go.RowKit
namespace Num
open Ints
set_option linter.unusedSimpArgs false
set_option linter.unusedVariables false
theorem row_fields : (Try.prog.fieldsOf 152).toList.map (fun f => (f.name == "_", f.type, f.offset, Try.prog.cellsOf f.type)) = [(false, 148, 0, 1), (false, 3, 1, 1)] := by kernel_rfl
theorem row_stood : Try.prog.stoodInHeld 152 = false := by kernel_rfl
theorem row_struct : Try.prog.underlying 152 = some (.struct (Try.prog.fieldsOf 152)) := by kernel_rfl
theorem row_two : ∃ f0 f1, (Try.prog.fieldsOf 152) = #[f0, f1] ∧ (f0.name == "_") = false ∧ f0.type = 148 ∧ f0.offset = 0 ∧ (f1.name == "_") = false ∧ f1.type = 3 ∧ f1.offset = 1 := by
  have h := row_fields
  have hl := congrArg List.length h
  rw [List.length_map] at hl
  match e : (Try.prog.fieldsOf 152).toList, hl with
  | [f0, f1], _ =>
    rw [e] at h
    simp only [List.map_cons, List.map_nil, List.cons.injEq, Prod.mk.injEq, and_true] at h
    refine ⟨f0, f1, ?_, h.1.1, h.1.2.1, h.1.2.2.1, h.2.1, h.2.2.1, h.2.2.2.1⟩
    rw [← Array.toArray_toList (xs := Try.prog.fieldsOf 152), e]
def kRow (a : Addr) (n : Int) : Value := .agg #[.pointer (some a), .int .i64 n]
theorem eq_ptr (d : Nat) (w : World) {a b : Addr} (hne : a.block ≠ b.block) (ha : Pln w a.block) (hb : Pln w b.block) : (Op.equalIn (d + 1) 148 (.pointer (some a)) (.pointer (some b))).run Try.prog w = .ok false w := by
  obtain ⟨ca, ha⟩ := ha
  obtain ⟨cb, hb⟩ := hb
  obtain ⟨i0, hi, hz0, hz1, hz2⟩ := info_parts info_v5
  have h := run_sameAddr_other (P := Try.prog) w (a := a) (b := b) (fun e => hne (by rw [e])) ha hb
  simp [Op.equalIn, run_underlying Try.underlying148, sizeOf, typeInfo, hi, hz1, h]
theorem eq_row (w : World) {a b : Addr} (n m : Int) (hne : a.block ≠ b.block) (ha : Pln w a.block) (hb : Pln w b.block) : (Op.equal 152 (kRow a n) (kRow b m)).run Try.prog w = .ok false w := by
  obtain ⟨f0, f1, hf, n0, t0, o0, n1, t1, o1⟩ := row_two
  have n0' : ¬ (f0.name = "_") := by simpa using n0
  unfold Op.equal Op.maxDepth kRow
  rw [run_equalIn_struct w 9999 152 _ _ row_struct row_stood, hf]
  have hp := eq_ptr 9998 w hne ha hb
  have hc1 : Try.prog.cellsOf 148 = 1 := by kernel_rfl
  simp [Op.eqFields, n0', t0, o0, part, hp]
theorem check_ptr (em : Bool) (k : Nat) (w : World) (v : Option Addr) : (Instr.checkKey em (k + 1) 148 (.pointer v)).run Try.prog w = .ok () w := by
  unfold Instr.checkKey
  simp [run_underlying Try.underlying148]
theorem check_int (em : Bool) (k : Nat) (w : World) (n : Int) : (Instr.checkKey em (k + 1) 3 (.int .i64 n)).run Try.prog w = .ok () w := by
  unfold Instr.checkKey
  simp [run_underlying Try.underlying3]
theorem check_row_at (em : Bool) (k : Nat) (w : World) (a : Addr) (n : Int) : (Instr.checkKey em (k + 1 + 1) 152 (kRow a n)).run Try.prog w = .ok () w := by
  obtain ⟨f0, f1, hf, n0, t0, o0, n1, t1, o1⟩ := row_two
  have n0' : ¬ (f0.name = "_") := by simpa using n0
  have n1' : ¬ (f1.name = "_") := by simpa using n1
  have hs : Try.prog.underlying 152 = some (.struct #[f0, f1]) := by rw [← hf]; exact row_struct
  unfold kRow Instr.checkKey
  simp [run_underlying hs, n0', n1', t0, t1, o0, o1, part, check_ptr, check_int]
theorem check_row (em : Bool) (w : World) (a : Addr) (n : Int) : (Instr.checkKey em 10000 152 (kRow a n)).run Try.prog w = .ok () w := check_row_at em 9998 w a n
/-- What the memo holds: lists that lie in other blocks than b, all plain. -/
def MemoO (w : World) (es : List MapEntry) (D : Nat → Prop) : Prop := ∀ e ∈ es, ∃ a n, e.key = kRow a n ∧ D a.block ∧ Pln w a.block
theorem ask_miss (w : World) (a : Addr) (n : Int) (ha : Pln w a.block) : ∀ (es : List MapEntry) (i : Nat), MemoO w es (fun b => b ≠ a.block) → (Instr.findAsking 152 (kRow a n) es i).run Try.prog w = .ok none w
  | [], i, _ => by simp [Instr.findAsking]
  | e :: es, i, h => by
    obtain ⟨b, m, hk, hne, hb⟩ := h e (List.mem_cons_self ..)
    have h1 := eq_row w n m (fun e => hne e.symm) ha hb
    have h2 := ask_miss w a n ha es (i + 1) (fun x hx => h x (List.mem_cons_of_mem _ hx))
    simp [Instr.findAsking, hk, h1, h2]
theorem find_miss (w : World) (a : Addr) (n : Int) (ha : Pln w a.block) (es : List MapEntry) (h : MemoO w es (fun b => b ≠ a.block)) : (Instr.findKey 152 (kRow a n) es).run Try.prog w = .ok none w := by
  have h1 := ask_miss w a n ha es 0 h
  cases es with
  | nil => simp [Instr.findKey, run_underlying row_struct, Instr.findNow]
  | cons e es => simp [Instr.findKey, run_underlying row_struct, Instr.findNow, Instr.sameNow, h1]
theorem map_under : Try.prog.underlying 128 = some (.map 152 119) := by kernel_rfl
theorem zero_me (w : World) : (zeroValue 119).run Try.prog w = .ok (.agg #[.bool false, .bool false, .int .i64 0, .int .i64 0]) w := by kernel_rfl
theorem look_miss (w : World) (mb : Nat) (es : Array MapEntry) (ck : Nat) (a : Addr) (n : Int) (hm : w.heap[mb]? = some (.map es ck)) (ha : Pln w a.block) (h : MemoO w es.toList (fun b => b ≠ a.block)) :
    (Instr.lookup 128 (.map (some mb)) (kRow a n) true).run Try.prog w = .ok (.tuple #[.agg #[.bool false, .bool false, .int .i64 0, .int .i64 0], .bool false]) w := by
  simp [Instr.lookup, run_underlying map_under, MapKept.run_getObj_map hm, check_row, find_miss w a n ha _ h, zero_me]
theorem update_miss (w : World) (mb : Nat) (es : Array MapEntry) (ck : Nat) (a : Addr) (n : Int) (v : Value) (hm : w.heap[mb]? = some (.map es ck)) (ha : Pln w a.block) (h : MemoO w es.toList (fun b => b ≠ a.block)) :
    (Instr.mapUpdate 128 (.map (some mb)) (kRow a n) v).run Try.prog w = .ok () { w with heap := w.heap.setIfInBounds mb (.map (es.push { key := kRow a n, val := v, born := ck }) (ck + 1)) } := by
  simp [Instr.mapUpdate, run_underlying map_under, MapKept.run_getObj_map hm, check_row, find_miss w a n ha _ h, MapKept.run_setObj_map _ hm]
end Num
end Go.Proofs.Ytomfgncbdgifoaa
