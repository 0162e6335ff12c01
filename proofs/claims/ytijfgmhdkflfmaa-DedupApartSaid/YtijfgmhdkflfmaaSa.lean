/-
  A table of replies: its two maps, told by their keys.
-/
import Derived.Test.YtijfgmhdkflfmaaVTree
import Derived.Test.YtijfgmhdkflfmaaWLo
import Derived.LaidEql
import Derived.Laws.StructEq
import Derived.MapKept
import Derived.Laws.Cover3
import Derived.Maps.AppendAt
namespace Go.Proofs.Ytijfgmhdkflfmaa
open Go.RowKit
namespace Num
open Ints
set_option linter.unusedSimpArgs false
set_option linter.unusedVariables false
/-- An id: its client, its Seq, its Nest. -/
abbrev DId := Int × Int × Int
abbrev didC (x : DId) : List Value := [.int .u32 x.1, .int .u32 x.2.1, .int .u16 x.2.2]
abbrev didA (x : DId) : Value := .agg #[.int .u32 x.1, .int .u32 x.2.1, .int .u16 x.2.2]
theorem did_fields : (Try.prog.fieldsOf 40).toList.map (fun f => (f.name == "_", f.type, f.offset, Try.prog.cellsOf f.type)) = [(false, 37, 0, 1), (false, 37, 1, 1), (false, 38, 2, 1)] := by kernel_rfl
theorem did_stood : Try.prog.stoodInHeld 40 = false := by kernel_rfl
theorem did_struct : Try.prog.underlying 40 = some (.struct (Try.prog.fieldsOf 40)) := by kernel_rfl
theorem did_three : ∃ f0 f1 f2, (Try.prog.fieldsOf 40) = #[f0, f1, f2] ∧ (f0.name == "_") = false ∧ f0.type = 37 ∧ f0.offset = 0 ∧ (f1.name == "_") = false ∧ f1.type = 37 ∧ f1.offset = 1 ∧ (f2.name == "_") = false ∧ f2.type = 38 ∧ f2.offset = 2 := by
  have h := did_fields
  have hl := congrArg List.length h
  rw [List.length_map] at hl
  match e : (Try.prog.fieldsOf 40).toList, hl with
  | [f0, f1, f2], _ =>
    rw [e] at h
    simp only [List.map_cons, List.map_nil, List.cons.injEq, Prod.mk.injEq, and_true] at h
    refine ⟨f0, f1, f2, ?_, h.1.1, h.1.2.1, h.1.2.2.1, h.2.1.1, h.2.1.2.1, h.2.1.2.2.1, h.2.2.1, h.2.2.2.1, h.2.2.2.2.1⟩
    rw [← Array.toArray_toList (xs := Try.prog.fieldsOf 40), e]
theorem check_u32 (em : Bool) (k : Nat) (w : World) (n : Int) : (Instr.checkKey em (k + 1) 37 (.int .u32 n)).run Try.prog w = .ok () w := by
  unfold Instr.checkKey
  simp [run_underlying Try.underlying37]
theorem check_u16 (em : Bool) (k : Nat) (w : World) (n : Int) : (Instr.checkKey em (k + 1) 38 (.int .u16 n)).run Try.prog w = .ok () w := by
  unfold Instr.checkKey
  simp [run_underlying Try.underlying38]
theorem check_did_at (em : Bool) (k : Nat) (w : World) (x : DId) : (Instr.checkKey em (k + 1 + 1) 40 (didA x)).run Try.prog w = .ok () w := by
  obtain ⟨f0, f1, f2, hf, n0, t0, o0, n1, t1, o1, n2, t2, o2⟩ := did_three
  have n0' : ¬ (f0.name = "_") := by simpa using n0
  have n1' : ¬ (f1.name = "_") := by simpa using n1
  have n2' : ¬ (f2.name = "_") := by simpa using n2
  have hs : Try.prog.underlying 40 = some (.struct #[f0, f1, f2]) := by rw [← hf]; exact did_struct
  unfold didA Instr.checkKey
  simp [run_underlying hs, n0', n1', n2', t0, t1, t2, o0, o1, o2, part, check_u32, check_u16]
theorem check_did (em : Bool) (w : World) (x : DId) : (Instr.checkKey em 10000 40 (didA x)).run Try.prog w = .ok () w := check_did_at em 9998 w x
theorem eq_u32_at (d : Nat) (w : World) (n m : Int) : (Op.equalIn (d + 1) 37 (.int .u32 n) (.int .u32 m)).run Try.prog w = .ok (n == m) w := by
  simp [Op.equalIn, run_underlying Try.underlying37]
theorem eq_u16_at (d : Nat) (w : World) (n m : Int) : (Op.equalIn (d + 1) 38 (.int .u16 n) (.int .u16 m)).run Try.prog w = .ok (n == m) w := by
  simp [Op.equalIn, run_underlying Try.underlying38]
theorem eq_did (w : World) (x y : DId) : (Op.equal 40 (didA x) (didA y)).run Try.prog w = .ok (decide (x = y)) w := by
  obtain ⟨f0, f1, f2, hf, n0, t0, o0, n1, t1, o1, n2, t2, o2⟩ := did_three
  have n0' : ¬ (f0.name = "_") := by simpa using n0
  have n1' : ¬ (f1.name = "_") := by simpa using n1
  have n2' : ¬ (f2.name = "_") := by simpa using n2
  have hc1 : Try.prog.cellsOf 37 = 1 := by kernel_rfl
  have hc2 : Try.prog.cellsOf 38 = 1 := by kernel_rfl
  obtain ⟨x0, x1, x2⟩ := x
  obtain ⟨y0, y1, y2⟩ := y
  unfold Op.equal Op.maxDepth didA
  rw [run_equalIn_struct w 9999 40 _ _ did_struct did_stood, hf]
  have e0 := fun n m => eq_u32_at 9998 w n m
  have e2 := fun n m => eq_u16_at 9998 w n m
  by_cases h0 : x0 = y0
  · by_cases h1 : x1 = y1
    · by_cases h2 : x2 = y2 <;> simp [Op.eqFields, n0', n1', n2', t0, t1, t2, o0, o1, o2, part, e0, e2, h0, h1, h2]
    · simp [Op.eqFields, n0', n1', n2', t0, t1, t2, o0, o1, o2, part, e0, e2, h0, h1]
  · simp [Op.eqFields, n0', n1', n2', t0, t1, t2, o0, o1, o2, part, e0, e2, h0]
theorem rep_under : Try.prog.underlying 59 = some (.map 40 43) := by kernel_rfl
theorem cal_under : Try.prog.underlying 60 = some (.map 37 76) := by kernel_rfl
/-- A reply that is kept: its id, its error, its value's cells, and what that leads to. -/
structure RE (n : Nat) where
  x : DId
  e : Int
  K : Int
  I : Int
  F : Nat
  S : ByteArray
  q : Option Addr
  m : Nat
  d : Nat
  T : VT n
abbrev RE.v {n : Nat} (r : RE n) : Value := .agg #[.int .i64 r.K, .int .i64 r.I, .float .f64 r.F, .string r.S, .slice r.q r.m r.d]
abbrev RE.a {n : Nat} (r : RE n) : Value := .agg #[.int .u32 r.x.1, .int .u32 r.x.2.1, .int .u16 r.x.2.2, .int .i64 r.e, .int .i64 r.K, .int .i64 r.I, .float .f64 r.F, .string r.S, .slice r.q r.m r.d]
abbrev repZ : Value := .agg #[.int .u32 0, .int .u32 0, .int .u16 0, .int .i64 0, .int .i64 0, .int .i64 0, .float .f64 0, .string ⟨#[]⟩, .slice none 0 0]
theorem zero_re (w : World) : (zeroValue 43).run Try.prog w = .ok repZ w := by kernel_rfl
theorem zero_ca (w : World) : (zeroValue 76).run Try.prog w = .ok (.slice none 0 0) w := by kernel_rfl
/-- A call that is kept: its Seq, its ids, and where these lie. -/
structure CE where
  s : Int
  ib : Nat
  ic : Nat
  ids : List DId
abbrev CE.v (y : CE) : Value := .slice (some ⟨y.ib, 0, none⟩) y.ids.length y.ic
abbrev CE.cells (y : CE) : List Value := [.int .u32 y.s, y.v]
/-- A client's calls, and where they lie. -/
structure KE where
  c : Int
  b : Nat
  k : Nat
  L : List CE
abbrev KE.v (x : KE) : Value := .slice (some ⟨x.b, 0, none⟩) x.L.length x.k
abbrev kv (e : MapEntry) : Value × Value := (e.key, e.val)
abbrev RE.kv {n : Nat} (r : RE n) : Value × Value := (didA r.x, r.a)
abbrev KE.kv (x : KE) : Value × Value := (.int .u32 x.c, x.v)
theorem did_inj {x y : DId} (h : didA x = didA y) : x = y := by
  obtain ⟨a, b, c⟩ := x
  obtain ⟨a', b', c'⟩ := y
  injection h with h
  have := congrArg Array.toList h
  simp only [List.cons.injEq, Value.int.injEq, true_and, and_true] at this
  obtain ⟨rfl, rfl, rfl⟩ := this
  rfl
/-- The map's entries are these replies, one behind another; their stamps are in order. -/
def KvR {n : Nat} (es : Array MapEntry) (ck : Nat) (R : List (RE n)) : Prop := es.toList.map kv = R.map RE.kv ∧ MapKept.Stamped es ck
/-- Where an id is asked for. -/
theorem ask_did {n : Nat} (x : DId) : ∀ (es : List MapEntry) (R : List (RE n)) (i : Nat) (w : World), es.map kv = R.map RE.kv → (Instr.findAsking 40 (didA x) es i).run Try.prog w = .ok ((R.findIdx? (fun r => decide (x = r.x))).bind fun j => R[j]?.map fun r => (i + j, r.a)) w
  | [], [], i, w, _ => by simp [Instr.findAsking]
  | [], r :: R, i, w, h => by simp at h
  | e :: es, [], i, w, h => by simp at h
  | e :: es, r :: R, i, w, h => by
    simp only [List.map_cons, List.cons.injEq, Prod.mk.injEq] at h
    obtain ⟨⟨hk, hv⟩, ht⟩ := h
    have he := eq_did w x r.x
    have ih := ask_did x es R (i + 1) w ht
    have hs : (Instr.findAsking 40 (didA x) (e :: es) i).run Try.prog w = if decide (x = r.x) = true then .ok (some (i, e.val)) w else (Instr.findAsking 40 (didA x) es (i + 1)).run Try.prog w := by
      rw [show Instr.findAsking 40 (didA x) (e :: es) i = (do if ← Op.equal 40 (didA x) e.key then pure (some (i, e.val)) else Instr.findAsking 40 (didA x) es (i + 1)) from rfl, Sem.run_bind, hk, he, Result.andThen_ok]
      cases decide (x = r.x) <;> rfl
    rw [hs, List.findIdx?_cons]
    by_cases hx : x = r.x
    · rw [if_pos (decide_eq_true hx), decide_eq_true hx, if_pos rfl, hv, Option.bind_some, List.getElem?_cons_zero, Option.map_some, Nat.add_zero]
    · rw [if_neg (by simpa using hx), decide_eq_false hx, ih, if_neg (by decide)]
      refine congrArg (fun z => Result.ok z w) ?_
      cases hf : R.findIdx? (fun r => decide (x = r.x)) with
      | none => rfl
      | some j =>
        show R[j]?.map _ = (R[j]?).map _
        rw [show i + 1 + j = i + (j + 1) by omega]
theorem find_did {n : Nat} (x : DId) (es : List MapEntry) (R : List (RE n)) (w : World) (h : es.map kv = R.map RE.kv) : (Instr.findKey 40 (didA x) es).run Try.prog w = .ok ((R.findIdx? (fun r => decide (x = r.x))).bind fun j => R[j]?.map fun r => (j, r.a)) w := by
  have ha := ask_did x es R 0 w h
  simp only [Nat.zero_add] at ha
  cases es with
  | nil =>
    obtain rfl : R = [] := by cases R with | nil => rfl | cons r R => simp at h
    simp [Instr.findKey, run_underlying did_struct, Instr.findNow]
  | cons e es =>
    cases R with
    | nil => simp at h
    | cons r R =>
      have hk : e.key = didA r.x := by simp only [List.map_cons, List.cons.injEq, Prod.mk.injEq] at h; exact h.1.1
      simp only [Instr.findKey, Sem.run_bind, run_underlying did_struct, Result.andThen_ok, Instr.findNow, hk, Instr.sameNow, ha]
/-- The reply to an id. -/
def getR {n : Nat} (R : List (RE n)) (x : DId) : Option (RE n) := R.find? (fun r => decide (x = r.x))
theorem idx_get {α : Type} (p : α → Bool) : ∀ (L : List α), ((L.findIdx? p).bind fun j => L[j]?) = L.find? p
  | [] => rfl
  | a :: L => by
    rw [List.findIdx?_cons, List.find?_cons]
    cases p a with
    | true => simp
    | false =>
      have := idx_get p L
      cases h : L.findIdx? p with
      | none => rw [h] at this; simpa using this
      | some j => rw [h] at this; simpa using this
theorem look_did {n : Nat} (w : World) (mr : Nat) (es : Array MapEntry) (ck : Nat) (R : List (RE n)) (x : DId) (hm : w.heap[mr]? = some (.map es ck)) (hK : KvR es ck R) :
    (Instr.lookup 59 (.map (some mr)) (didA x) true).run Try.prog w = .ok (match getR R x with | some r => .tuple #[r.a, .bool true] | none => .tuple #[repZ, .bool false]) w := by
  have h := hK.1
  have hf := find_did x es.toList R w h
  have hg := idx_get (fun r : RE n => decide (x = r.x)) R
  unfold getR
  rw [← hg]
  cases hi : R.findIdx? (fun r => decide (x = r.x)) with
  | none =>
    rw [hi] at hf
    simp [Instr.lookup, run_underlying rep_under, MapKept.run_getObj_map hm, check_did, hf, zero_re]
  | some j =>
    rw [hi] at hf
    have hj := (List.findIdx?_eq_some_iff_findIdx_eq.1 hi).1
    simp only [Option.bind_some, List.getElem?_eq_getElem hj, Option.map_some] at hf ⊢
    simp [Instr.lookup, run_underlying rep_under, MapKept.run_getObj_map hm, check_did, hf]
/-- A map's block anew. -/
def mpD (w : World) (mb : Nat) (es : Array MapEntry) (ck : Nat) : World := { w with heap := w.heap.setIfInBounds mb (.map es ck) }
theorem mpD_at {w : World} {mb : Nat} {o : Obj} (h : w.heap[mb]? = some o) (es : Array MapEntry) (ck : Nat) : (mpD w mb es ck).heap[mb]? = some (.map es ck) := (MapKept.heap_set h).1
theorem mpD_other {w : World} {mb k : Nat} (hne : k ≠ mb) (es : Array MapEntry) (ck : Nat) : (mpD w mb es ck).heap[k]? = w.heap[k]? := by
  show (w.heap.setIfInBounds mb _)[k]? = _
  simp [Ne.symm hne]
/-- A reply that wasn't there is put behind. -/
theorem put_did {n : Nat} (w : World) (mr : Nat) (es : Array MapEntry) (ck : Nat) (R : List (RE n)) (r : RE n) (hm : w.heap[mr]? = some (.map es ck)) (hK : KvR es ck R) (hn : getR R r.x = none) :
    (Instr.mapUpdate 59 (.map (some mr)) (didA r.x) r.a).run Try.prog w = .ok () (mpD w mr (es.push { key := didA r.x, val := r.a, born := ck }) (ck + 1)) ∧ KvR (es.push { key := didA r.x, val := r.a, born := ck }) (ck + 1) (R ++ [r]) := by
  have h := hK.1
  have hf := find_did r.x es.toList R w h
  have hg := idx_get (fun r' : RE n => decide (r.x = r'.x)) R
  unfold getR at hn
  rw [hn] at hg
  have hi : R.findIdx? (fun r' => decide (r.x = r'.x)) = none := by
    cases hi : R.findIdx? (fun r' => decide (r.x = r'.x)) with
    | none => rfl
    | some j =>
      have hj := (List.findIdx?_eq_some_iff_findIdx_eq.1 hi).1
      rw [hi] at hg
      simp [hj] at hg
  rw [hi] at hf
  refine ⟨?_, by rw [Array.toList_push, List.map_append, List.map_append, h]; rfl, MapKept.stamped_push hK.2 (fun e he hke => ?_)⟩
  rotate_left
  · have hm2 : kv e ∈ R.map RE.kv := by rw [← h]; exact List.mem_map.2 ⟨e, he, rfl⟩
    obtain ⟨r', hr', hkr⟩ := List.mem_map.1 hm2
    have hx : didA r'.x = didA r.x := (congrArg Prod.fst hkr).trans hke
    have := List.find?_eq_none.1 hn r' hr'
    exact this (decide_eq_true (did_inj hx).symm)
  simp [Instr.mapUpdate, run_underlying rep_under, MapKept.run_getObj_map hm, check_did, hf, MapKept.run_setObj_map _ hm, mpD]
theorem map_erase {α β : Type} (f : α → β) (L : List α) (j : Nat) : (L.eraseIdx j).map f = (L.map f).eraseIdx j := by
  rw [List.eraseIdx_eq_take_drop_succ, List.eraseIdx_eq_take_drop_succ, List.map_append, List.map_take, List.map_drop]
/-- A reply goes, if there is one. -/
theorem del_did {n : Nat} (w : World) (mr : Nat) (es : Array MapEntry) (ck : Nat) (ty : TypeId) (R : List (RE n)) (x : DId) (hm : w.heap[mr]? = some (.map es ck)) (hK : KvR es ck R) :
    ∃ es', (Builtin.delete_ #[59, 40] ty #[.map (some mr), didA x]).run Try.prog w = .ok (.tuple #[]) (mpD w mr es' ck) ∧ KvR es' ck (R.eraseP (fun r => decide (x = r.x))) := by
  have h := hK.1
  have hf := find_did x es.toList R w h
  cases hi : R.findIdx? (fun r => decide (x = r.x)) with
  | none =>
    rw [hi] at hf
    have hne : R.eraseP (fun r => decide (x = r.x)) = R := List.eraseP_of_forall_not (by simpa [List.findIdx?_eq_none_iff] using hi)
    exact ⟨es, by simp [Builtin.delete_, run_underlying rep_under, MapKept.run_getObj_map hm, check_did, hf, MapKept.run_setObj_map _ hm, mpD], by rw [hne]; exact h, hK.2⟩
  | some j =>
    rw [hi] at hf
    have hj := (List.findIdx?_eq_some_iff_findIdx_eq.1 hi).1
    have hj2 := (List.findIdx?_eq_some_iff_findIdx_eq.1 hi).2
    have hjs : j < es.size := by
      have := congrArg List.length h
      rw [List.length_map, List.length_map, Array.length_toList] at this
      omega
    simp only [Option.bind_some, List.getElem?_eq_getElem hj, Option.map_some] at hf
    refine ⟨es.eraseIdxIfInBounds j, by simp [Builtin.delete_, run_underlying rep_under, MapKept.run_getObj_map hm, check_did, hf, MapKept.run_setObj_map _ hm, mpD], ?_, MapKept.stamped_erase hK.2 j⟩
    rw [Array.eraseIdxIfInBounds_eq, dif_pos hjs, Array.toList_eraseIdx, map_erase, h, ← map_erase]
    rw [List.eraseP_eq_eraseIdx, hi]
/-- The calls of a client. -/
def getC (C : List KE) (c : Int) : Option KE := C.find? (fun x => c == x.c)
theorem now_u32 (c : Int) : ∀ (fs : List MapEntry) (C : List KE) (i : Nat), fs.map kv = C.map KE.kv → Instr.findNow (.int .u32) (.int .u32 c) fs i = some ((C.findIdx? (fun x => c == x.c)).bind fun j => C[j]?.map fun x => (i + j, x.v))
  | [], [], i, _ => by simp [Instr.findNow]
  | [], r :: R, i, h => by simp at h
  | e :: es, [], i, h => by simp at h
  | e :: es, r :: R, i, h => by
    simp only [List.map_cons, List.cons.injEq, Prod.mk.injEq] at h
    obtain ⟨⟨hk, hv⟩, ht⟩ := h
    have ih := now_u32 c es R (i + 1) ht
    by_cases hx : c = r.c
    · simp [Instr.findNow, hk, hx, hv, Instr.sameNow, List.findIdx?_cons]
    · have hx' : (c == r.c) = false := by simpa using hx
      simp only [Instr.findNow, hk, Instr.sameNow, if_true, hx', ih, List.findIdx?_cons, Bool.false_eq_true, if_false]
      congr 1
      cases hf : R.findIdx? (fun x => c == x.c) with
      | none => simp
      | some j => simp [Nat.add_assoc, Nat.add_comm 1 j]
theorem find_u32 (c : Int) (fs : List MapEntry) (C : List KE) (w : World) (h : fs.map kv = C.map KE.kv) : (Instr.findKey 37 (.int .u32 c) fs).run Try.prog w = .ok ((C.findIdx? (fun x => c == x.c)).bind fun j => C[j]?.map fun x => (j, x.v)) w := by
  have hn := now_u32 c fs C 0 h
  simp only [Nat.zero_add] at hn
  simp [Instr.findKey, run_underlying Try.underlying37, hn]
theorem look_u32 (w : World) (mc : Nat) (fs : Array MapEntry) (ck : Nat) (C : List KE) (c : Int) (hm : w.heap[mc]? = some (.map fs ck)) (h : fs.toList.map kv = C.map KE.kv) :
    (Instr.lookup 60 (.map (some mc)) (.int .u32 c) false).run Try.prog w = .ok (match getC C c with | some x => x.v | none => .slice none 0 0) w := by
  have hf := find_u32 c fs.toList C w h
  have hg := idx_get (fun x : KE => c == x.c) C
  unfold getC
  rw [← hg]
  cases hi : C.findIdx? (fun x => c == x.c) with
  | none =>
    rw [hi] at hf
    simp [Instr.lookup, run_underlying cal_under, MapKept.run_getObj_map hm, check_u32, hf, zero_ca]
  | some j =>
    rw [hi] at hf
    have hj := (List.findIdx?_eq_some_iff_findIdx_eq.1 hi).1
    simp only [Option.bind_some, List.getElem?_eq_getElem hj, Option.map_some] at hf ⊢
    simp [Instr.lookup, run_underlying cal_under, MapKept.run_getObj_map hm, check_u32, hf]
/-- A client's calls anew. -/
def setC (C : List KE) (x : KE) : List KE := match C.findIdx? (fun y => x.c == y.c) with | some j => C.set j x | none => C ++ [x]
theorem put_u32 (w : World) (mc : Nat) (fs : Array MapEntry) (ck : Nat) (C : List KE) (x : KE) (hm : w.heap[mc]? = some (.map fs ck)) (h : fs.toList.map kv = C.map KE.kv) :
    ∃ fs' ck', (Instr.mapUpdate 60 (.map (some mc)) (.int .u32 x.c) x.v).run Try.prog w = .ok () (mpD w mc fs' ck') ∧ fs'.toList.map kv = (setC C x).map KE.kv := by
  have hf := find_u32 x.c fs.toList C w h
  unfold setC
  cases hi : C.findIdx? (fun y => x.c == y.c) with
  | none =>
    rw [hi] at hf
    exact ⟨fs.push { key := .int .u32 x.c, val := x.v, born := ck }, ck + 1, by simp [Instr.mapUpdate, run_underlying cal_under, MapKept.run_getObj_map hm, check_u32, hf, MapKept.run_setObj_map _ hm, mpD], by rw [Array.toList_push, List.map_append, List.map_append, h]; rfl⟩
  | some j =>
    rw [hi] at hf
    have hj := (List.findIdx?_eq_some_iff_findIdx_eq.1 hi).1
    have hlen : fs.toList.length = C.length := by have := congrArg List.length h; rwa [List.length_map, List.length_map] at this
    have hjs : j < fs.size := by rw [Array.length_toList] at hlen; omega
    have hcj : x.c = C[j].c := by
      have := List.findIdx?_eq_some_iff_getElem.1 hi
      obtain ⟨_, h1, _⟩ := this
      simpa using h1
    have hkj : fs[j].key = .int .u32 x.c := by
      have h1 : (fs.toList.map kv)[j]? = (C.map KE.kv)[j]? := by rw [h]
      rw [List.getElem?_map, List.getElem?_map, List.getElem?_eq_getElem hj, Array.getElem?_toList, Array.getElem?_eq_getElem hjs] at h1
      simp only [Option.map_some, Option.some.injEq, Prod.mk.injEq] at h1
      rw [h1.1, hcj]
    simp only [Option.bind_some, List.getElem?_eq_getElem hj, Option.map_some] at hf
    have hks : (Instr.keyThatStays (.int .u32 x.c) (.int .u32 x.c)).run Try.prog w = .ok (.int .u32 x.c) w := by simp [Instr.keyThatStays, Instr.sameBits]
    refine ⟨fs.modify j fun e => { e with key := .int .u32 x.c, val := x.v }, ck, by simp [Instr.mapUpdate, run_underlying cal_under, MapKept.run_getObj_map hm, check_u32, hf, hjs, hkj, hks, MapKept.run_setObj_map _ hm, mpD], ?_⟩
    apply List.ext_getElem?
    intro i
    have h1 : (fs.toList.map kv)[i]? = (C.map KE.kv)[i]? := by rw [h]
    rw [List.getElem?_map, List.getElem?_map] at h1
    rw [List.getElem?_map, List.getElem?_map, Array.getElem?_toList, Array.getElem?_modify, List.getElem?_set]
    by_cases hij : j = i
    · subst hij
      simp [hjs, hj]
    · rw [if_neg hij, if_neg hij, ← Array.getElem?_toList]
      exact h1
end Num
end Go.Proofs.Ytijfgmhdkflfmaa
