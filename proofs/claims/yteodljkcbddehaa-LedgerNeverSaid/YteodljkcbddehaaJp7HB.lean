/-
  Package args: the six maps of methods, each made anew; what a class's map is.
-/
import Derived.Test.YteodljkcbddehaaJMI
import Derived.Test.YteodljkcbddehaaJp0Row
import Derived.Test.YteodljkcbddehaaJp2Flo
import Derived.MapKept
import Derived.LaidEql
namespace Go.Proofs.Yteodljkcbddehaa
open Go.RowKit
namespace Num
open Ints
set_option linter.unusedSimpArgs false
set_option linter.unusedVariables false
theorem sig_under : Try.prog.underlying 58 = some (.map 9 56) := by kernel_rfl
def noSig : Value := .agg #[.slice none 0 0, .int .i64 0, .bool false]
theorem zero_sig (w : World) : (zeroValue 56).run Try.prog w = .ok noSig w := by kernel_rfl
def ents : List (ByteArray × Value) → Nat → List MapEntry
  | [], _ => []
  | x :: r, i => { key := .string x.1, val := x.2, born := i } :: ents r (i + 1)
def findS (k : ByteArray) : List (ByteArray × Value) → Nat → Option (Nat × Value)
  | [], _ => none
  | x :: r, i => if (k == x.1) = true then some (i, x.2) else findS k r (i + 1)
theorem find_now (k : ByteArray) : ∀ (L : List (ByteArray × Value)) (j i : Nat), Instr.findNow .string (.string k) (ents L j) i = some (findS k L i)
  | [], _, _ => rfl
  | x :: r, j, i => by
    unfold ents Instr.findNow findS
    simp only [Instr.sameNow]
    cases h : (k == x.1) <;> simp [find_now k r]
theorem ents_snoc (k : ByteArray) (v : Value) : ∀ (L : List (ByteArray × Value)) (j : Nat), ents (L ++ [(k, v)]) j = ents L j ++ [{ key := .string k, val := v, born := j + L.length }]
  | [], j => rfl
  | x :: r, j => by
    have := ents_snoc k v r (j + 1)
    simp only [List.cons_append, ents, this, List.length_cons]
    rw [show j + 1 + r.length = j + (r.length + 1) by omega]
theorem check_str (em : Bool) (w : World) (k : ByteArray) : (Instr.checkKey em 10000 9 (.string k)).run Try.prog w = .ok () w := by
  unfold Instr.checkKey
  simp [run_underlying Try.underlying9]
theorem find_str (w : World) (k : ByteArray) (L : List (ByteArray × Value)) (j : Nat) : (Instr.findKey 9 (.string k) (ents L j)).run Try.prog w = .ok (findS k L 0) w := by
  simp [Instr.findKey, run_underlying Try.underlying9, find_now]
def sigOf (k : ByteArray) (L : List (ByteArray × Value)) : Value := ((findS k L 0).map (·.2)).getD noSig
theorem look_sig (w : World) (mb : Nat) (L : List (ByteArray × Value)) (ck : Nat) (k : ByteArray) (hm : w.heap[mb]? = some (.map (ents L 0).toArray ck)) :
    (Instr.lookup 58 (.map (some mb)) (.string k) false).run Try.prog w = .ok (sigOf k L) w := by
  unfold sigOf
  cases h : findS k L 0 <;> simp [Instr.lookup, run_underlying sig_under, MapKept.run_getObj_map hm, check_str, find_str w k L 0, h, zero_sig, noSig]
theorem look_ok (w : World) (mb : Nat) (L : List (ByteArray × Value)) (ck : Nat) (k : ByteArray) (hm : w.heap[mb]? = some (.map (ents L 0).toArray ck)) :
    (Instr.lookup 58 (.map (some mb)) (.string k) true).run Try.prog w = .ok (.tuple #[sigOf k L, .bool (findS k L 0).isSome]) w := by
  unfold sigOf
  cases h : findS k L 0 <;> simp [Instr.lookup, run_underlying sig_under, MapKept.run_getObj_map hm, check_str, find_str w k L 0, h, zero_sig, noSig]
theorem push_set {α : Type} (a : Array α) (x o : α) {b : Nat} (h : b < a.size) : (a.push x).setIfInBounds b o = (a.setIfInBounds b o).push x := by
  apply Array.ext_getElem?
  intro i
  simp only [Array.getElem?_setIfInBounds, Array.getElem?_push, Array.size_push, Array.size_setIfInBounds]
  by_cases hi : b = i
  · subst hi
    have hne : ¬ b = a.size := by omega
    have hlt : b < a.size + 1 := by omega
    simp [hne, hlt, h]
  · simp [hi]
theorem push_set_last {α : Type} (a : Array α) (x o : α) : (a.push x).setIfInBounds a.size o = a.push o := by
  apply Array.ext_getElem?
  intro i
  simp only [Array.getElem?_setIfInBounds, Array.getElem?_push, Array.size_push]
  by_cases hi : a.size = i
  · subst hi; simp
  · simp [hi, Ne.symm hi]
def allocs (w : World) : List Obj → World
  | [] => w
  | o :: r => allocs (w.alloc o) r
theorem allocs_at (b : Nat) (o o' : Obj) : ∀ (os : List Obj) (w : World), w.heap[b]? = some o → (allocs w os).heap[b]? = some o ∧ ({ allocs w os with heap := (allocs w os).heap.setIfInBounds b o' } : World) = allocs { w with heap := w.heap.setIfInBounds b o' } os
  | [], w, h => ⟨h, rfl⟩
  | x :: r, w, h => by
    obtain ⟨h1, h2⟩ := allocs_at b o o' r (w.alloc x) (row_alloc_step h x)
    refine ⟨h1, ?_⟩
    show ({ allocs (w.alloc x) r with heap := _ } : World) = allocs (World.alloc _ x) r
    refine h2.trans (congrArg (fun W => allocs W r) ?_)
    have hlt := row_lt h
    exact congrArg (fun h => ({ w with heap := h } : World)) (push_set _ _ _ hlt)
theorem mpW_fresh (w : World) (o o' : Obj) : ({ w.alloc o with heap := (w.alloc o).heap.setIfInBounds w.heap.size o' } : World) = w.alloc o' := by
  exact congrArg (fun h => ({ w with heap := h } : World)) (push_set_last _ _ _)
theorem upd_at (w : World) (L : List (ByteArray × Value)) (os : List Obj) (k : ByteArray) (v : Value) (hk : findS k L 0 = none) :
    (Instr.mapUpdate 58 (.map (some w.heap.size)) (.string k) v).run Try.prog (allocs (w.alloc (.map (ents L 0).toArray L.length)) os) = .ok () (allocs (w.alloc (.map (ents (L ++ [(k, v)]) 0).toArray (L.length + 1))) os) := by
  have h0 : (w.alloc (.map (ents L 0).toArray L.length)).heap[w.heap.size]? = some (.map (ents L 0).toArray L.length) := by
    show (w.heap.push _)[w.heap.size]? = _
    rw [Array.getElem?_push_size]
  obtain ⟨h1, h2⟩ := allocs_at w.heap.size _ (.map ((ents L 0).toArray.push { key := .string k, val := v, born := L.length }) (L.length + 1)) os _ h0
  rw [mpW_fresh] at h2
  rw [ents_snoc, show (ents L 0 ++ [({ key := .string k, val := v, born := 0 + L.length } : MapEntry)]).toArray = (ents L 0).toArray.push { key := .string k, val := v, born := L.length } by simp, ← h2]
  simp [Instr.mapUpdate, run_underlying sig_under, MapKept.run_getObj_map h1, check_str, find_str, hk, MapKept.run_setObj_map _ h1]
def sigV (p : Option Addr) (n : Nat) (more : Int) (wr : Bool) : Value := .agg #[.slice p n n, .int .i64 more, .bool wr]
def entC (s : Nat) : List (ByteArray × Value) := [({ data := #[97, 100, 100] }, (.agg #[.slice (some ⟨s + 1, 0, none⟩) 1 1, .int .i64 0, .bool true])), ({ data := #[99, 111, 117, 110, 116] }, (.agg #[.slice none 0 0, .int .i64 0, .bool false])), ({ data := #[114, 101, 115, 101, 116] }, (.agg #[.slice none 0 0, .int .i64 0, .bool true])), ({ data := #[116, 111, 116, 97, 108] }, (.agg #[.slice none 0 0, .int .i64 0, .bool false]))]
def blkC : List Obj := [.cells #[.int .i64 2] 62]
set_option maxRecDepth 100000 in
set_option maxHeartbeats 2000000 in
theorem mapC_any (w : World) : Calls Try.prog 44 #[] w fun e w' => e = .returned (.map (some w.heap.size)) ∧ w' = allocs (w.alloc (.map (ents (entC w.heap.size) 0).toArray 4)) blkC := by
  have hmm := fun W => @run_makeMap Try.prog 58 W
  have u0 := upd_at w [] [.cells #[.int .i64 2] 62] { data := #[97, 100, 100] } (.agg #[.slice (some ⟨w.heap.size + 1, 0, none⟩) 1 1, .int .i64 0, .bool true]) (by rfl)
  have u1 := upd_at w [({ data := #[97, 100, 100] }, (.agg #[.slice (some ⟨w.heap.size + 1, 0, none⟩) 1 1, .int .i64 0, .bool true]))] [.cells #[.int .i64 2] 62] { data := #[99, 111, 117, 110, 116] } (.agg #[.slice none 0 0, .int .i64 0, .bool false]) (by rfl)
  have u2 := upd_at w [({ data := #[97, 100, 100] }, (.agg #[.slice (some ⟨w.heap.size + 1, 0, none⟩) 1 1, .int .i64 0, .bool true])), ({ data := #[99, 111, 117, 110, 116] }, (.agg #[.slice none 0 0, .int .i64 0, .bool false]))] [.cells #[.int .i64 2] 62] { data := #[114, 101, 115, 101, 116] } (.agg #[.slice none 0 0, .int .i64 0, .bool true]) (by rfl)
  have u3 := upd_at w [({ data := #[97, 100, 100] }, (.agg #[.slice (some ⟨w.heap.size + 1, 0, none⟩) 1 1, .int .i64 0, .bool true])), ({ data := #[99, 111, 117, 110, 116] }, (.agg #[.slice none 0 0, .int .i64 0, .bool false])), ({ data := #[114, 101, 115, 101, 116] }, (.agg #[.slice none 0 0, .int .i64 0, .bool true]))] [.cells #[.int .i64 2] 62] { data := #[116, 111, 116, 97, 108] } (.agg #[.slice none 0 0, .int .i64 0, .bool false]) (by rfl)
  simp only [ents, allocs, List.nil_append, List.cons_append, List.length_nil, List.length_cons, Nat.reduceAdd, Nat.zero_add] at u0 u1 u2 u3
  go_enter Try.func44, Try.ntmps44
  go_wp2
  go_ret
  exact ⟨rfl, rfl⟩
def entL (s : Nat) : List (ByteArray × Value) := [({ data := #[98, 97, 108, 97, 110, 99, 101] }, (.agg #[.slice (some ⟨s + 1, 0, none⟩) 1 1, .int .i64 0, .bool false])), ({ data := #[99, 108, 111, 115, 101] }, (.agg #[.slice (some ⟨s + 1 + 1, 0, none⟩) 1 1, .int .i64 0, .bool true])), ({ data := #[100, 101, 112, 111, 115, 105, 116] }, (.agg #[.slice (some ⟨s + 1 + 1 + 1, 0, none⟩) 2 2, .int .i64 0, .bool true])), ({ data := #[110, 97, 109, 101, 115] }, (.agg #[.slice none 0 0, .int .i64 0, .bool false])), ({ data := #[111, 112, 101, 110] }, (.agg #[.slice (some ⟨s + 1 + 1 + 1 + 1, 0, none⟩) 1 1, .int .i64 0, .bool true])), ({ data := #[116, 111, 116, 97, 108] }, (.agg #[.slice none 0 0, .int .i64 0, .bool false])), ({ data := #[116, 114, 97, 110, 115, 102, 101, 114] }, (.agg #[.slice (some ⟨s + 1 + 1 + 1 + 1 + 1, 0, none⟩) 3 3, .int .i64 0, .bool true]))]
def blkL : List Obj := [.cells #[.int .i64 3] 62, .cells #[.int .i64 3] 62, .cells #[.int .i64 3, .int .i64 2] 62, .cells #[.int .i64 3] 62, .cells #[.int .i64 3, .int .i64 3, .int .i64 2] 62]
set_option maxRecDepth 100000 in
set_option maxHeartbeats 2000000 in
theorem mapL_any (w : World) : Calls Try.prog 45 #[] w fun e w' => e = .returned (.map (some w.heap.size)) ∧ w' = allocs (w.alloc (.map (ents (entL w.heap.size) 0).toArray 7)) blkL := by
  have hmm := fun W => @run_makeMap Try.prog 58 W
  have u0 := upd_at w [] [.cells #[.int .i64 3] 62] { data := #[98, 97, 108, 97, 110, 99, 101] } (.agg #[.slice (some ⟨w.heap.size + 1, 0, none⟩) 1 1, .int .i64 0, .bool false]) (by rfl)
  have u1 := upd_at w [({ data := #[98, 97, 108, 97, 110, 99, 101] }, (.agg #[.slice (some ⟨w.heap.size + 1, 0, none⟩) 1 1, .int .i64 0, .bool false]))] [.cells #[.int .i64 3] 62, .cells #[.int .i64 3] 62] { data := #[99, 108, 111, 115, 101] } (.agg #[.slice (some ⟨w.heap.size + 1 + 1, 0, none⟩) 1 1, .int .i64 0, .bool true]) (by rfl)
  have u2 := upd_at w [({ data := #[98, 97, 108, 97, 110, 99, 101] }, (.agg #[.slice (some ⟨w.heap.size + 1, 0, none⟩) 1 1, .int .i64 0, .bool false])), ({ data := #[99, 108, 111, 115, 101] }, (.agg #[.slice (some ⟨w.heap.size + 1 + 1, 0, none⟩) 1 1, .int .i64 0, .bool true]))] [.cells #[.int .i64 3] 62, .cells #[.int .i64 3] 62, .cells #[.int .i64 3, .int .i64 2] 62] { data := #[100, 101, 112, 111, 115, 105, 116] } (.agg #[.slice (some ⟨w.heap.size + 1 + 1 + 1, 0, none⟩) 2 2, .int .i64 0, .bool true]) (by rfl)
  have u3 := upd_at w [({ data := #[98, 97, 108, 97, 110, 99, 101] }, (.agg #[.slice (some ⟨w.heap.size + 1, 0, none⟩) 1 1, .int .i64 0, .bool false])), ({ data := #[99, 108, 111, 115, 101] }, (.agg #[.slice (some ⟨w.heap.size + 1 + 1, 0, none⟩) 1 1, .int .i64 0, .bool true])), ({ data := #[100, 101, 112, 111, 115, 105, 116] }, (.agg #[.slice (some ⟨w.heap.size + 1 + 1 + 1, 0, none⟩) 2 2, .int .i64 0, .bool true]))] [.cells #[.int .i64 3] 62, .cells #[.int .i64 3] 62, .cells #[.int .i64 3, .int .i64 2] 62] { data := #[110, 97, 109, 101, 115] } (.agg #[.slice none 0 0, .int .i64 0, .bool false]) (by rfl)
  have u4 := upd_at w [({ data := #[98, 97, 108, 97, 110, 99, 101] }, (.agg #[.slice (some ⟨w.heap.size + 1, 0, none⟩) 1 1, .int .i64 0, .bool false])), ({ data := #[99, 108, 111, 115, 101] }, (.agg #[.slice (some ⟨w.heap.size + 1 + 1, 0, none⟩) 1 1, .int .i64 0, .bool true])), ({ data := #[100, 101, 112, 111, 115, 105, 116] }, (.agg #[.slice (some ⟨w.heap.size + 1 + 1 + 1, 0, none⟩) 2 2, .int .i64 0, .bool true])), ({ data := #[110, 97, 109, 101, 115] }, (.agg #[.slice none 0 0, .int .i64 0, .bool false]))] [.cells #[.int .i64 3] 62, .cells #[.int .i64 3] 62, .cells #[.int .i64 3, .int .i64 2] 62, .cells #[.int .i64 3] 62] { data := #[111, 112, 101, 110] } (.agg #[.slice (some ⟨w.heap.size + 1 + 1 + 1 + 1, 0, none⟩) 1 1, .int .i64 0, .bool true]) (by rfl)
  have u5 := upd_at w [({ data := #[98, 97, 108, 97, 110, 99, 101] }, (.agg #[.slice (some ⟨w.heap.size + 1, 0, none⟩) 1 1, .int .i64 0, .bool false])), ({ data := #[99, 108, 111, 115, 101] }, (.agg #[.slice (some ⟨w.heap.size + 1 + 1, 0, none⟩) 1 1, .int .i64 0, .bool true])), ({ data := #[100, 101, 112, 111, 115, 105, 116] }, (.agg #[.slice (some ⟨w.heap.size + 1 + 1 + 1, 0, none⟩) 2 2, .int .i64 0, .bool true])), ({ data := #[110, 97, 109, 101, 115] }, (.agg #[.slice none 0 0, .int .i64 0, .bool false])), ({ data := #[111, 112, 101, 110] }, (.agg #[.slice (some ⟨w.heap.size + 1 + 1 + 1 + 1, 0, none⟩) 1 1, .int .i64 0, .bool true]))] [.cells #[.int .i64 3] 62, .cells #[.int .i64 3] 62, .cells #[.int .i64 3, .int .i64 2] 62, .cells #[.int .i64 3] 62] { data := #[116, 111, 116, 97, 108] } (.agg #[.slice none 0 0, .int .i64 0, .bool false]) (by rfl)
  have u6 := upd_at w [({ data := #[98, 97, 108, 97, 110, 99, 101] }, (.agg #[.slice (some ⟨w.heap.size + 1, 0, none⟩) 1 1, .int .i64 0, .bool false])), ({ data := #[99, 108, 111, 115, 101] }, (.agg #[.slice (some ⟨w.heap.size + 1 + 1, 0, none⟩) 1 1, .int .i64 0, .bool true])), ({ data := #[100, 101, 112, 111, 115, 105, 116] }, (.agg #[.slice (some ⟨w.heap.size + 1 + 1 + 1, 0, none⟩) 2 2, .int .i64 0, .bool true])), ({ data := #[110, 97, 109, 101, 115] }, (.agg #[.slice none 0 0, .int .i64 0, .bool false])), ({ data := #[111, 112, 101, 110] }, (.agg #[.slice (some ⟨w.heap.size + 1 + 1 + 1 + 1, 0, none⟩) 1 1, .int .i64 0, .bool true])), ({ data := #[116, 111, 116, 97, 108] }, (.agg #[.slice none 0 0, .int .i64 0, .bool false]))] [.cells #[.int .i64 3] 62, .cells #[.int .i64 3] 62, .cells #[.int .i64 3, .int .i64 2] 62, .cells #[.int .i64 3] 62, .cells #[.int .i64 3, .int .i64 3, .int .i64 2] 62] { data := #[116, 114, 97, 110, 115, 102, 101, 114] } (.agg #[.slice (some ⟨w.heap.size + 1 + 1 + 1 + 1 + 1, 0, none⟩) 3 3, .int .i64 0, .bool true]) (by rfl)
  simp only [ents, allocs, List.nil_append, List.cons_append, List.length_nil, List.length_cons, Nat.reduceAdd, Nat.zero_add] at u0 u1 u2 u3 u4 u5 u6
  go_enter Try.func45, Try.ntmps45
  go_wp2
  go_ret
  exact ⟨rfl, rfl⟩
def entO (s : Nat) : List (ByteArray × Value) := [({ data := #[102, 97, 105, 108] }, (.agg #[.slice none 0 0, .int .i64 0, .bool true])), ({ data := #[114, 117, 110] }, (.agg #[.slice (some ⟨s + 1, 0, none⟩) 1 1, .int .i64 7, .bool true])), ({ data := #[114, 117, 110, 115] }, (.agg #[.slice none 0 0, .int .i64 0, .bool false]))]
def blkO : List Obj := [.cells #[.int .i64 4] 62]
set_option maxRecDepth 100000 in
set_option maxHeartbeats 2000000 in
theorem mapO_any (w : World) : Calls Try.prog 46 #[] w fun e w' => e = .returned (.map (some w.heap.size)) ∧ w' = allocs (w.alloc (.map (ents (entO w.heap.size) 0).toArray 3)) blkO := by
  have hmm := fun W => @run_makeMap Try.prog 58 W
  have u0 := upd_at w [] [] { data := #[102, 97, 105, 108] } (.agg #[.slice none 0 0, .int .i64 0, .bool true]) (by rfl)
  have u1 := upd_at w [({ data := #[102, 97, 105, 108] }, (.agg #[.slice none 0 0, .int .i64 0, .bool true]))] [.cells #[.int .i64 4] 62] { data := #[114, 117, 110] } (.agg #[.slice (some ⟨w.heap.size + 1, 0, none⟩) 1 1, .int .i64 7, .bool true]) (by rfl)
  have u2 := upd_at w [({ data := #[102, 97, 105, 108] }, (.agg #[.slice none 0 0, .int .i64 0, .bool true])), ({ data := #[114, 117, 110] }, (.agg #[.slice (some ⟨w.heap.size + 1, 0, none⟩) 1 1, .int .i64 7, .bool true]))] [.cells #[.int .i64 4] 62] { data := #[114, 117, 110, 115] } (.agg #[.slice none 0 0, .int .i64 0, .bool false]) (by rfl)
  simp only [ents, allocs, List.nil_append, List.cons_append, List.length_nil, List.length_cons, Nat.reduceAdd, Nat.zero_add] at u0 u1 u2
  go_enter Try.func46, Try.ntmps46
  go_wp2
  go_ret
  exact ⟨rfl, rfl⟩
def entQ (s : Nat) : List (ByteArray × Value) := [({ data := #[108, 101, 110] }, (.agg #[.slice none 0 0, .int .i64 0, .bool false])), ({ data := #[110, 116, 104] }, (.agg #[.slice (some ⟨s + 1, 0, none⟩) 1 1, .int .i64 0, .bool false])), ({ data := #[112, 101, 101, 107] }, (.agg #[.slice none 0 0, .int .i64 0, .bool false])), ({ data := #[112, 111, 112] }, (.agg #[.slice none 0 0, .int .i64 0, .bool true])), ({ data := #[112, 117, 115, 104] }, (.agg #[.slice (some ⟨s + 1 + 1, 0, none⟩) 1 1, .int .i64 0, .bool true]))]
def blkQ : List Obj := [.cells #[.int .i64 1] 62, .cells #[.int .i64 0] 62]
set_option maxRecDepth 100000 in
set_option maxHeartbeats 2000000 in
theorem mapQ_any (w : World) : Calls Try.prog 47 #[] w fun e w' => e = .returned (.map (some w.heap.size)) ∧ w' = allocs (w.alloc (.map (ents (entQ w.heap.size) 0).toArray 5)) blkQ := by
  have hmm := fun W => @run_makeMap Try.prog 58 W
  have u0 := upd_at w [] [] { data := #[108, 101, 110] } (.agg #[.slice none 0 0, .int .i64 0, .bool false]) (by rfl)
  have u1 := upd_at w [({ data := #[108, 101, 110] }, (.agg #[.slice none 0 0, .int .i64 0, .bool false]))] [.cells #[.int .i64 1] 62] { data := #[110, 116, 104] } (.agg #[.slice (some ⟨w.heap.size + 1, 0, none⟩) 1 1, .int .i64 0, .bool false]) (by rfl)
  have u2 := upd_at w [({ data := #[108, 101, 110] }, (.agg #[.slice none 0 0, .int .i64 0, .bool false])), ({ data := #[110, 116, 104] }, (.agg #[.slice (some ⟨w.heap.size + 1, 0, none⟩) 1 1, .int .i64 0, .bool false]))] [.cells #[.int .i64 1] 62] { data := #[112, 101, 101, 107] } (.agg #[.slice none 0 0, .int .i64 0, .bool false]) (by rfl)
  have u3 := upd_at w [({ data := #[108, 101, 110] }, (.agg #[.slice none 0 0, .int .i64 0, .bool false])), ({ data := #[110, 116, 104] }, (.agg #[.slice (some ⟨w.heap.size + 1, 0, none⟩) 1 1, .int .i64 0, .bool false])), ({ data := #[112, 101, 101, 107] }, (.agg #[.slice none 0 0, .int .i64 0, .bool false]))] [.cells #[.int .i64 1] 62] { data := #[112, 111, 112] } (.agg #[.slice none 0 0, .int .i64 0, .bool true]) (by rfl)
  have u4 := upd_at w [({ data := #[108, 101, 110] }, (.agg #[.slice none 0 0, .int .i64 0, .bool false])), ({ data := #[110, 116, 104] }, (.agg #[.slice (some ⟨w.heap.size + 1, 0, none⟩) 1 1, .int .i64 0, .bool false])), ({ data := #[112, 101, 101, 107] }, (.agg #[.slice none 0 0, .int .i64 0, .bool false])), ({ data := #[112, 111, 112] }, (.agg #[.slice none 0 0, .int .i64 0, .bool true]))] [.cells #[.int .i64 1] 62, .cells #[.int .i64 0] 62] { data := #[112, 117, 115, 104] } (.agg #[.slice (some ⟨w.heap.size + 1 + 1, 0, none⟩) 1 1, .int .i64 0, .bool true]) (by rfl)
  simp only [ents, allocs, List.nil_append, List.cons_append, List.length_nil, List.length_cons, Nat.reduceAdd, Nat.zero_add] at u0 u1 u2 u3 u4
  go_enter Try.func47, Try.ntmps47
  go_wp2
  go_ret
  exact ⟨rfl, rfl⟩
def entR (s : Nat) : List (ByteArray × Value) := [({ data := #[99, 97, 115] }, (.agg #[.slice (some ⟨s + 1, 0, none⟩) 2 2, .int .i64 0, .bool true])), ({ data := #[103, 101, 116] }, (.agg #[.slice none 0 0, .int .i64 0, .bool false])), ({ data := #[115, 101, 116] }, (.agg #[.slice (some ⟨s + 1 + 1, 0, none⟩) 1 1, .int .i64 0, .bool true]))]
def blkR : List Obj := [.cells #[.int .i64 0, .int .i64 0] 62, .cells #[.int .i64 0] 62]
set_option maxRecDepth 100000 in
set_option maxHeartbeats 2000000 in
theorem mapR_any (w : World) : Calls Try.prog 48 #[] w fun e w' => e = .returned (.map (some w.heap.size)) ∧ w' = allocs (w.alloc (.map (ents (entR w.heap.size) 0).toArray 3)) blkR := by
  have hmm := fun W => @run_makeMap Try.prog 58 W
  have u0 := upd_at w [] [.cells #[.int .i64 0, .int .i64 0] 62] { data := #[99, 97, 115] } (.agg #[.slice (some ⟨w.heap.size + 1, 0, none⟩) 2 2, .int .i64 0, .bool true]) (by rfl)
  have u1 := upd_at w [({ data := #[99, 97, 115] }, (.agg #[.slice (some ⟨w.heap.size + 1, 0, none⟩) 2 2, .int .i64 0, .bool true]))] [.cells #[.int .i64 0, .int .i64 0] 62] { data := #[103, 101, 116] } (.agg #[.slice none 0 0, .int .i64 0, .bool false]) (by rfl)
  have u2 := upd_at w [({ data := #[99, 97, 115] }, (.agg #[.slice (some ⟨w.heap.size + 1, 0, none⟩) 2 2, .int .i64 0, .bool true])), ({ data := #[103, 101, 116] }, (.agg #[.slice none 0 0, .int .i64 0, .bool false]))] [.cells #[.int .i64 0, .int .i64 0] 62, .cells #[.int .i64 0] 62] { data := #[115, 101, 116] } (.agg #[.slice (some ⟨w.heap.size + 1 + 1, 0, none⟩) 1 1, .int .i64 0, .bool true]) (by rfl)
  simp only [ents, allocs, List.nil_append, List.cons_append, List.length_nil, List.length_cons, Nat.reduceAdd, Nat.zero_add] at u0 u1 u2
  go_enter Try.func48, Try.ntmps48
  go_wp2
  go_ret
  exact ⟨rfl, rfl⟩
def entT (s : Nat) : List (ByteArray × Value) := [({ data := #[100, 101, 108] }, (.agg #[.slice (some ⟨s + 1, 0, none⟩) 1 1, .int .i64 0, .bool true])), ({ data := #[103, 101, 116] }, (.agg #[.slice (some ⟨s + 1 + 1, 0, none⟩) 1 1, .int .i64 0, .bool false])), ({ data := #[107, 101, 121, 115] }, (.agg #[.slice none 0 0, .int .i64 0, .bool false])), ({ data := #[112, 117, 116] }, (.agg #[.slice (some ⟨s + 1 + 1 + 1, 0, none⟩) 2 2, .int .i64 0, .bool true])), ({ data := #[115, 105, 122, 101] }, (.agg #[.slice none 0 0, .int .i64 0, .bool false]))]
def blkT : List Obj := [.cells #[.int .i64 3] 62, .cells #[.int .i64 3] 62, .cells #[.int .i64 3, .int .i64 0] 62]
set_option maxRecDepth 100000 in
set_option maxHeartbeats 2000000 in
theorem mapT_any (w : World) : Calls Try.prog 49 #[] w fun e w' => e = .returned (.map (some w.heap.size)) ∧ w' = allocs (w.alloc (.map (ents (entT w.heap.size) 0).toArray 5)) blkT := by
  have hmm := fun W => @run_makeMap Try.prog 58 W
  have u0 := upd_at w [] [.cells #[.int .i64 3] 62] { data := #[100, 101, 108] } (.agg #[.slice (some ⟨w.heap.size + 1, 0, none⟩) 1 1, .int .i64 0, .bool true]) (by rfl)
  have u1 := upd_at w [({ data := #[100, 101, 108] }, (.agg #[.slice (some ⟨w.heap.size + 1, 0, none⟩) 1 1, .int .i64 0, .bool true]))] [.cells #[.int .i64 3] 62, .cells #[.int .i64 3] 62] { data := #[103, 101, 116] } (.agg #[.slice (some ⟨w.heap.size + 1 + 1, 0, none⟩) 1 1, .int .i64 0, .bool false]) (by rfl)
  have u2 := upd_at w [({ data := #[100, 101, 108] }, (.agg #[.slice (some ⟨w.heap.size + 1, 0, none⟩) 1 1, .int .i64 0, .bool true])), ({ data := #[103, 101, 116] }, (.agg #[.slice (some ⟨w.heap.size + 1 + 1, 0, none⟩) 1 1, .int .i64 0, .bool false]))] [.cells #[.int .i64 3] 62, .cells #[.int .i64 3] 62] { data := #[107, 101, 121, 115] } (.agg #[.slice none 0 0, .int .i64 0, .bool false]) (by rfl)
  have u3 := upd_at w [({ data := #[100, 101, 108] }, (.agg #[.slice (some ⟨w.heap.size + 1, 0, none⟩) 1 1, .int .i64 0, .bool true])), ({ data := #[103, 101, 116] }, (.agg #[.slice (some ⟨w.heap.size + 1 + 1, 0, none⟩) 1 1, .int .i64 0, .bool false])), ({ data := #[107, 101, 121, 115] }, (.agg #[.slice none 0 0, .int .i64 0, .bool false]))] [.cells #[.int .i64 3] 62, .cells #[.int .i64 3] 62, .cells #[.int .i64 3, .int .i64 0] 62] { data := #[112, 117, 116] } (.agg #[.slice (some ⟨w.heap.size + 1 + 1 + 1, 0, none⟩) 2 2, .int .i64 0, .bool true]) (by rfl)
  have u4 := upd_at w [({ data := #[100, 101, 108] }, (.agg #[.slice (some ⟨w.heap.size + 1, 0, none⟩) 1 1, .int .i64 0, .bool true])), ({ data := #[103, 101, 116] }, (.agg #[.slice (some ⟨w.heap.size + 1 + 1, 0, none⟩) 1 1, .int .i64 0, .bool false])), ({ data := #[107, 101, 121, 115] }, (.agg #[.slice none 0 0, .int .i64 0, .bool false])), ({ data := #[112, 117, 116] }, (.agg #[.slice (some ⟨w.heap.size + 1 + 1 + 1, 0, none⟩) 2 2, .int .i64 0, .bool true]))] [.cells #[.int .i64 3] 62, .cells #[.int .i64 3] 62, .cells #[.int .i64 3, .int .i64 0] 62] { data := #[115, 105, 122, 101] } (.agg #[.slice none 0 0, .int .i64 0, .bool false]) (by rfl)
  simp only [ents, allocs, List.nil_append, List.cons_append, List.length_nil, List.length_cons, Nat.reduceAdd, Nat.zero_add] at u0 u1 u2 u3 u4
  go_enter Try.func49, Try.ntmps49
  go_wp2
  go_ret
  exact ⟨rfl, rfl⟩
def msC : List (ByteArray × Bool × ByteArray) := [({ data := #[97, 100, 100] }, true, { data := #[35] }), ({ data := #[99, 111, 117, 110, 116] }, false, { data := #[] }), ({ data := #[114, 101, 115, 101, 116] }, true, { data := #[] }), ({ data := #[116, 111, 116, 97, 108] }, false, { data := #[] })]
def msL : List (ByteArray × Bool × ByteArray) := [({ data := #[98, 97, 108, 97, 110, 99, 101] }, false, { data := #[110] }), ({ data := #[99, 108, 111, 115, 101] }, true, { data := #[110] }), ({ data := #[100, 101, 112, 111, 115, 105, 116] }, true, { data := #[110, 35] }), ({ data := #[110, 97, 109, 101, 115] }, false, { data := #[] }), ({ data := #[111, 112, 101, 110] }, true, { data := #[110] }), ({ data := #[116, 111, 116, 97, 108] }, false, { data := #[] }), ({ data := #[116, 114, 97, 110, 115, 102, 101, 114] }, true, { data := #[110, 110, 35] })]
def msO : List (ByteArray × Bool × ByteArray) := [({ data := #[102, 97, 105, 108] }, true, { data := #[] }), ({ data := #[114, 117, 110] }, true, { data := #[115] }), ({ data := #[114, 117, 110, 115] }, false, { data := #[] })]
def msQ : List (ByteArray × Bool × ByteArray) := [({ data := #[108, 101, 110] }, false, { data := #[] }), ({ data := #[110, 116, 104] }, false, { data := #[105] }), ({ data := #[112, 101, 101, 107] }, false, { data := #[] }), ({ data := #[112, 111, 112] }, true, { data := #[] }), ({ data := #[112, 117, 115, 104] }, true, { data := #[118] })]
def msR : List (ByteArray × Bool × ByteArray) := [({ data := #[99, 97, 115] }, true, { data := #[118, 118] }), ({ data := #[103, 101, 116] }, false, { data := #[] }), ({ data := #[115, 101, 116] }, true, { data := #[118] })]
def msT : List (ByteArray × Bool × ByteArray) := [({ data := #[100, 101, 108] }, true, { data := #[110] }), ({ data := #[103, 101, 116] }, false, { data := #[110] }), ({ data := #[107, 101, 121, 115] }, false, { data := #[] }), ({ data := #[112, 117, 116] }, true, { data := #[110, 118] }), ({ data := #[115, 105, 122, 101] }, false, { data := #[] })]
def metas (c : ByteArray) : List (ByteArray × Bool × ByteArray) :=
  if c = { data := #[99, 111, 117, 110, 116, 101, 114] } then msC else if c = { data := #[108, 101, 100, 103, 101, 114] } then msL else if c = { data := #[111, 114, 99, 104] } then msO else if c = { data := #[113, 117, 101, 117, 101] } then msQ else if c = { data := #[114, 101, 103, 105, 115, 116, 101, 114] } then msR else if c = { data := #[116, 97, 98, 108, 101] } then msT else []
theorem str_ne {c : ByteArray} {l : List UInt8} (h : c ≠ ⟨l.toArray⟩) : (c.toList == l) = false := by
  cases e : (c.toList == l)
  · rfl
  · rw [beq_iff_eq, ByteArray.toList_eq] at e
    exact absurd (by rw [← e]) h
def kindC (c : UInt8) : Int := if c = 110 then 3 else if c = 35 then 2 else if c = 105 then 1 else if c = 115 then 4 else 0
def moreOf (t : ByteArray) : Int := if t = { data := #[115] } then 7 else 0
def SigAt (w : World) (v : Value) (x : ByteArray × Bool × ByteArray) : Prop := ∃ p, v = sigV p x.2.2.size (moreOf x.2.2) x.2.1 ∧ (0 < x.2.2.size → ∃ b, p = some ⟨b, 0, none⟩ ∧ ∀ j (h : j < x.2.2.data.toList.length), w.cell? ⟨b, j, none⟩ = some (.int .i64 (kindC (x.2.2.data.toList[j]))))
theorem sigAt_none (w : World) (n : ByteArray) (b : Bool) : SigAt w (sigV none 0 0 b) (n, b, { data := #[] }) := ⟨none, rfl, fun h => absurd h (Nat.lt_irrefl _)⟩
def MapOf (w : World) (m : Value) (M : List (ByteArray × Bool × ByteArray)) : Prop :=
  (M = [] ∧ m = .map none) ∨ ∃ b L, m = .map (some b) ∧ w.heap[b]? = some (.map (ents L 0).toArray L.length) ∧ L.map (fun x => x.1) = M.map (fun x => x.1) ∧
    ∀ i (h : i < L.length) (h' : i < M.length), SigAt w L[i].2 M[i]
theorem below_allocs {B : Nat} {w0 : World} : ∀ (os : List Obj) (w : World), Below B w0 w → B ≤ w.heap.size → Below B w0 (allocs w os)
  | [], _, h, _ => h
  | o :: r, w, h, hB => below_allocs r (w.alloc o) (h.alloc hB o) (by rw [World.size_alloc]; omega)
theorem allocs_row (b : Nat) (o : Obj) : ∀ (os : List Obj) (w : World), w.heap[b]? = some o → (allocs w os).heap[b]? = some o := fun os w h => (allocs_at b o o os w h).1
theorem allocs_get : ∀ (os : List Obj) (w : World) (j : Nat) (h : j < os.length), (allocs w os).heap[w.heap.size + j]? = some os[j]
  | o :: r, w, 0, _ => by
    refine allocs_row _ _ r (w.alloc o) ?_
    show (w.heap.push _)[w.heap.size]? = _
    rw [Array.getElem?_push_size]
    rfl
  | o :: r, w, j + 1, h => by
    have := allocs_get r (w.alloc o) j (by simpa using h)
    rw [World.size_alloc] at this
    rw [show w.heap.size + (j + 1) = w.heap.size + 1 + j by omega]
    exact this
theorem mapOf_made (w : World) (L : List (ByteArray × Value)) (M : List (ByteArray × Bool × ByteArray)) (ck : Nat) (os : List Obj) (hck : ck = L.length) (h1 : L.map (fun x => x.1) = M.map (fun x => x.1))
    (h2 : ∀ i (h : i < L.length) (h' : i < M.length), SigAt (allocs (w.alloc (.map (ents L 0).toArray ck)) os) L[i].2 M[i]) :
    MapOf (allocs (w.alloc (.map (ents L 0).toArray ck)) os) (.map (some w.heap.size)) M ∧ Below w.heap.size w (allocs (w.alloc (.map (ents L 0).toArray ck)) os) := by
  subst hck
  refine ⟨Or.inr ⟨_, L, rfl, allocs_row _ _ os _ ?_, h1, h2⟩, below_allocs os _ ((Below.refl _ w).alloc (Nat.le_refl _) _) (by rw [World.size_alloc]; omega)⟩
  show (w.heap.push _)[w.heap.size]? = _
  rw [Array.getElem?_push_size]
theorem sigAt_blk {w : World} {b : Nat} {x : ByteArray × Bool × ByteArray} {cs : Array Value} {t : TypeId} (h : w.heap[b]? = some (.cells cs t (0, 0))) (hc : ∀ j (h : j < x.2.2.data.toList.length), cs[j]? = some (.int .i64 (kindC (x.2.2.data.toList[j])))) :
    SigAt w (sigV (some ⟨b, 0, none⟩) x.2.2.size (moreOf x.2.2) x.2.1) x := ⟨_, rfl, fun _ => ⟨b, rfl, fun j hj => (rc h j).trans (hc j hj)⟩⟩
theorem madeC (w : World) : MapOf (allocs (w.alloc (.map (ents (entC w.heap.size) 0).toArray 4)) blkC) (.map (some w.heap.size)) msC ∧ Below w.heap.size w (allocs (w.alloc (.map (ents (entC w.heap.size) 0).toArray 4)) blkC) := by
  refine mapOf_made w _ _ _ _ rfl rfl fun i h h' => ?_
  match i, h with
  | 0, _ =>
    have hg := allocs_get blkC (w.alloc (.map (ents (entC w.heap.size) 0).toArray 4)) 0 (by decide)
    rw [World.size_alloc] at hg
    refine sigAt_blk (x := ({ data := #[97, 100, 100] }, true, { data := #[35] })) hg fun j hj => ?_
    match j, hj with
    | 0, _ => rfl
  | 1, _ => exact sigAt_none _ _ _
  | 2, _ => exact sigAt_none _ _ _
  | 3, _ => exact sigAt_none _ _ _
set_option maxRecDepth 100000 in
set_option maxHeartbeats 2000000 in
theorem mofC (w : World) : Calls Try.prog 26 #[.string { data := #[99, 111, 117, 110, 116, 101, 114] }] w fun e w' => e = .returned (.map (some w.heap.size)) ∧ w' = allocs (w.alloc (.map (ents (entC w.heap.size) 0).toArray 4)) blkC := by
  go_enter Try.func26, Try.ntmps26
  go_wp2_with fail
  go_at_call 44; refine (mapC_any _).mono ?_; rintro e w1 ⟨rfl, rfl⟩
  go_wp2
  go_ret
  exact ⟨rfl, rfl⟩
theorem madeL (w : World) : MapOf (allocs (w.alloc (.map (ents (entL w.heap.size) 0).toArray 7)) blkL) (.map (some w.heap.size)) msL ∧ Below w.heap.size w (allocs (w.alloc (.map (ents (entL w.heap.size) 0).toArray 7)) blkL) := by
  refine mapOf_made w _ _ _ _ rfl rfl fun i h h' => ?_
  match i, h with
  | 0, _ =>
    have hg := allocs_get blkL (w.alloc (.map (ents (entL w.heap.size) 0).toArray 7)) 0 (by decide)
    rw [World.size_alloc] at hg
    refine sigAt_blk (x := ({ data := #[98, 97, 108, 97, 110, 99, 101] }, false, { data := #[110] })) hg fun j hj => ?_
    match j, hj with
    | 0, _ => rfl
  | 1, _ =>
    have hg := allocs_get blkL (w.alloc (.map (ents (entL w.heap.size) 0).toArray 7)) 1 (by decide)
    rw [World.size_alloc] at hg
    refine sigAt_blk (x := ({ data := #[99, 108, 111, 115, 101] }, true, { data := #[110] })) hg fun j hj => ?_
    match j, hj with
    | 0, _ => rfl
  | 2, _ =>
    have hg := allocs_get blkL (w.alloc (.map (ents (entL w.heap.size) 0).toArray 7)) 2 (by decide)
    rw [World.size_alloc] at hg
    refine sigAt_blk (x := ({ data := #[100, 101, 112, 111, 115, 105, 116] }, true, { data := #[110, 35] })) hg fun j hj => ?_
    match j, hj with
    | 0, _ => rfl
    | 1, _ => rfl
  | 3, _ => exact sigAt_none _ _ _
  | 4, _ =>
    have hg := allocs_get blkL (w.alloc (.map (ents (entL w.heap.size) 0).toArray 7)) 3 (by decide)
    rw [World.size_alloc] at hg
    refine sigAt_blk (x := ({ data := #[111, 112, 101, 110] }, true, { data := #[110] })) hg fun j hj => ?_
    match j, hj with
    | 0, _ => rfl
  | 5, _ => exact sigAt_none _ _ _
  | 6, _ =>
    have hg := allocs_get blkL (w.alloc (.map (ents (entL w.heap.size) 0).toArray 7)) 4 (by decide)
    rw [World.size_alloc] at hg
    refine sigAt_blk (x := ({ data := #[116, 114, 97, 110, 115, 102, 101, 114] }, true, { data := #[110, 110, 35] })) hg fun j hj => ?_
    match j, hj with
    | 0, _ => rfl
    | 1, _ => rfl
    | 2, _ => rfl
set_option maxRecDepth 100000 in
set_option maxHeartbeats 2000000 in
theorem mofL (w : World) : Calls Try.prog 26 #[.string { data := #[108, 101, 100, 103, 101, 114] }] w fun e w' => e = .returned (.map (some w.heap.size)) ∧ w' = allocs (w.alloc (.map (ents (entL w.heap.size) 0).toArray 7)) blkL := by
  go_enter Try.func26, Try.ntmps26
  go_wp2_with fail
  go_at_call 45; refine (mapL_any _).mono ?_; rintro e w1 ⟨rfl, rfl⟩
  go_wp2
  go_ret
  exact ⟨rfl, rfl⟩
theorem madeO (w : World) : MapOf (allocs (w.alloc (.map (ents (entO w.heap.size) 0).toArray 3)) blkO) (.map (some w.heap.size)) msO ∧ Below w.heap.size w (allocs (w.alloc (.map (ents (entO w.heap.size) 0).toArray 3)) blkO) := by
  refine mapOf_made w _ _ _ _ rfl rfl fun i h h' => ?_
  match i, h with
  | 0, _ => exact sigAt_none _ _ _
  | 1, _ =>
    have hg := allocs_get blkO (w.alloc (.map (ents (entO w.heap.size) 0).toArray 3)) 0 (by decide)
    rw [World.size_alloc] at hg
    refine sigAt_blk (x := ({ data := #[114, 117, 110] }, true, { data := #[115] })) hg fun j hj => ?_
    match j, hj with
    | 0, _ => rfl
  | 2, _ => exact sigAt_none _ _ _
set_option maxRecDepth 100000 in
set_option maxHeartbeats 2000000 in
theorem mofO (w : World) : Calls Try.prog 26 #[.string { data := #[111, 114, 99, 104] }] w fun e w' => e = .returned (.map (some w.heap.size)) ∧ w' = allocs (w.alloc (.map (ents (entO w.heap.size) 0).toArray 3)) blkO := by
  go_enter Try.func26, Try.ntmps26
  go_wp2_with fail
  go_at_call 46; refine (mapO_any _).mono ?_; rintro e w1 ⟨rfl, rfl⟩
  go_wp2
  go_ret
  exact ⟨rfl, rfl⟩
theorem madeQ (w : World) : MapOf (allocs (w.alloc (.map (ents (entQ w.heap.size) 0).toArray 5)) blkQ) (.map (some w.heap.size)) msQ ∧ Below w.heap.size w (allocs (w.alloc (.map (ents (entQ w.heap.size) 0).toArray 5)) blkQ) := by
  refine mapOf_made w _ _ _ _ rfl rfl fun i h h' => ?_
  match i, h with
  | 0, _ => exact sigAt_none _ _ _
  | 1, _ =>
    have hg := allocs_get blkQ (w.alloc (.map (ents (entQ w.heap.size) 0).toArray 5)) 0 (by decide)
    rw [World.size_alloc] at hg
    refine sigAt_blk (x := ({ data := #[110, 116, 104] }, false, { data := #[105] })) hg fun j hj => ?_
    match j, hj with
    | 0, _ => rfl
  | 2, _ => exact sigAt_none _ _ _
  | 3, _ => exact sigAt_none _ _ _
  | 4, _ =>
    have hg := allocs_get blkQ (w.alloc (.map (ents (entQ w.heap.size) 0).toArray 5)) 1 (by decide)
    rw [World.size_alloc] at hg
    refine sigAt_blk (x := ({ data := #[112, 117, 115, 104] }, true, { data := #[118] })) hg fun j hj => ?_
    match j, hj with
    | 0, _ => rfl
set_option maxRecDepth 100000 in
set_option maxHeartbeats 2000000 in
theorem mofQ (w : World) : Calls Try.prog 26 #[.string { data := #[113, 117, 101, 117, 101] }] w fun e w' => e = .returned (.map (some w.heap.size)) ∧ w' = allocs (w.alloc (.map (ents (entQ w.heap.size) 0).toArray 5)) blkQ := by
  go_enter Try.func26, Try.ntmps26
  go_wp2_with fail
  go_at_call 47; refine (mapQ_any _).mono ?_; rintro e w1 ⟨rfl, rfl⟩
  go_wp2
  go_ret
  exact ⟨rfl, rfl⟩
theorem madeR (w : World) : MapOf (allocs (w.alloc (.map (ents (entR w.heap.size) 0).toArray 3)) blkR) (.map (some w.heap.size)) msR ∧ Below w.heap.size w (allocs (w.alloc (.map (ents (entR w.heap.size) 0).toArray 3)) blkR) := by
  refine mapOf_made w _ _ _ _ rfl rfl fun i h h' => ?_
  match i, h with
  | 0, _ =>
    have hg := allocs_get blkR (w.alloc (.map (ents (entR w.heap.size) 0).toArray 3)) 0 (by decide)
    rw [World.size_alloc] at hg
    refine sigAt_blk (x := ({ data := #[99, 97, 115] }, true, { data := #[118, 118] })) hg fun j hj => ?_
    match j, hj with
    | 0, _ => rfl
    | 1, _ => rfl
  | 1, _ => exact sigAt_none _ _ _
  | 2, _ =>
    have hg := allocs_get blkR (w.alloc (.map (ents (entR w.heap.size) 0).toArray 3)) 1 (by decide)
    rw [World.size_alloc] at hg
    refine sigAt_blk (x := ({ data := #[115, 101, 116] }, true, { data := #[118] })) hg fun j hj => ?_
    match j, hj with
    | 0, _ => rfl
set_option maxRecDepth 100000 in
set_option maxHeartbeats 2000000 in
theorem mofR (w : World) : Calls Try.prog 26 #[.string { data := #[114, 101, 103, 105, 115, 116, 101, 114] }] w fun e w' => e = .returned (.map (some w.heap.size)) ∧ w' = allocs (w.alloc (.map (ents (entR w.heap.size) 0).toArray 3)) blkR := by
  go_enter Try.func26, Try.ntmps26
  go_wp2_with fail
  go_at_call 48; refine (mapR_any _).mono ?_; rintro e w1 ⟨rfl, rfl⟩
  go_wp2
  go_ret
  exact ⟨rfl, rfl⟩
theorem madeT (w : World) : MapOf (allocs (w.alloc (.map (ents (entT w.heap.size) 0).toArray 5)) blkT) (.map (some w.heap.size)) msT ∧ Below w.heap.size w (allocs (w.alloc (.map (ents (entT w.heap.size) 0).toArray 5)) blkT) := by
  refine mapOf_made w _ _ _ _ rfl rfl fun i h h' => ?_
  match i, h with
  | 0, _ =>
    have hg := allocs_get blkT (w.alloc (.map (ents (entT w.heap.size) 0).toArray 5)) 0 (by decide)
    rw [World.size_alloc] at hg
    refine sigAt_blk (x := ({ data := #[100, 101, 108] }, true, { data := #[110] })) hg fun j hj => ?_
    match j, hj with
    | 0, _ => rfl
  | 1, _ =>
    have hg := allocs_get blkT (w.alloc (.map (ents (entT w.heap.size) 0).toArray 5)) 1 (by decide)
    rw [World.size_alloc] at hg
    refine sigAt_blk (x := ({ data := #[103, 101, 116] }, false, { data := #[110] })) hg fun j hj => ?_
    match j, hj with
    | 0, _ => rfl
  | 2, _ => exact sigAt_none _ _ _
  | 3, _ =>
    have hg := allocs_get blkT (w.alloc (.map (ents (entT w.heap.size) 0).toArray 5)) 2 (by decide)
    rw [World.size_alloc] at hg
    refine sigAt_blk (x := ({ data := #[112, 117, 116] }, true, { data := #[110, 118] })) hg fun j hj => ?_
    match j, hj with
    | 0, _ => rfl
    | 1, _ => rfl
  | 4, _ => exact sigAt_none _ _ _
set_option maxRecDepth 100000 in
set_option maxHeartbeats 2000000 in
theorem mofT (w : World) : Calls Try.prog 26 #[.string { data := #[116, 97, 98, 108, 101] }] w fun e w' => e = .returned (.map (some w.heap.size)) ∧ w' = allocs (w.alloc (.map (ents (entT w.heap.size) 0).toArray 5)) blkT := by
  go_enter Try.func26, Try.ntmps26
  go_wp2_with fail
  go_at_call 49; refine (mapT_any _).mono ?_; rintro e w1 ⟨rfl, rfl⟩
  go_wp2
  go_ret
  exact ⟨rfl, rfl⟩
set_option maxRecDepth 100000 in
set_option maxHeartbeats 2000000 in
theorem mofNone (c : ByteArray) (h0 : c ≠ { data := #[99, 111, 117, 110, 116, 101, 114] }) (h1 : c ≠ { data := #[108, 101, 100, 103, 101, 114] }) (h2 : c ≠ { data := #[111, 114, 99, 104] }) (h3 : c ≠ { data := #[113, 117, 101, 117, 101] }) (h4 : c ≠ { data := #[114, 101, 103, 105, 115, 116, 101, 114] }) (h5 : c ≠ { data := #[116, 97, 98, 108, 101] }) (w : World) : Calls Try.prog 26 #[.string c] w fun e w' => e = .returned (.map none) ∧ w' = w := by
  go_enter Try.func26, Try.ntmps26
  have t0 := str_ne h0
  have t1 := str_ne h1
  have t2 := str_ne h2
  have t3 := str_ne h3
  have t4 := str_ne h4
  have t5 := str_ne h5
  clear h0 h1 h2 h3 h4 h5
  go_wp2
  go_ret
  exact ⟨rfl, rfl⟩
theorem mof_any (c : ByteArray) (w : World) : Calls Try.prog 26 #[.string c] w fun e w' => ∃ m, e = .returned m ∧ MapOf w' m (metas c) ∧ Below w.heap.size w w' := by
  by_cases h0 : c = { data := #[99, 111, 117, 110, 116, 101, 114] }
  · subst h0
    refine (mofC w).mono ?_
    rintro e w' ⟨rfl, rfl⟩
    exact ⟨_, rfl, by have := madeC w; rw [show metas { data := #[99, 111, 117, 110, 116, 101, 114] } = msC by rfl]; exact this⟩
  by_cases h1 : c = { data := #[108, 101, 100, 103, 101, 114] }
  · subst h1
    refine (mofL w).mono ?_
    rintro e w' ⟨rfl, rfl⟩
    exact ⟨_, rfl, by have := madeL w; rw [show metas { data := #[108, 101, 100, 103, 101, 114] } = msL by rfl]; exact this⟩
  by_cases h2 : c = { data := #[111, 114, 99, 104] }
  · subst h2
    refine (mofO w).mono ?_
    rintro e w' ⟨rfl, rfl⟩
    exact ⟨_, rfl, by have := madeO w; rw [show metas { data := #[111, 114, 99, 104] } = msO by rfl]; exact this⟩
  by_cases h3 : c = { data := #[113, 117, 101, 117, 101] }
  · subst h3
    refine (mofQ w).mono ?_
    rintro e w' ⟨rfl, rfl⟩
    exact ⟨_, rfl, by have := madeQ w; rw [show metas { data := #[113, 117, 101, 117, 101] } = msQ by rfl]; exact this⟩
  by_cases h4 : c = { data := #[114, 101, 103, 105, 115, 116, 101, 114] }
  · subst h4
    refine (mofR w).mono ?_
    rintro e w' ⟨rfl, rfl⟩
    exact ⟨_, rfl, by have := madeR w; rw [show metas { data := #[114, 101, 103, 105, 115, 116, 101, 114] } = msR by rfl]; exact this⟩
  by_cases h5 : c = { data := #[116, 97, 98, 108, 101] }
  · subst h5
    refine (mofT w).mono ?_
    rintro e w' ⟨rfl, rfl⟩
    exact ⟨_, rfl, by have := madeT w; rw [show metas { data := #[116, 97, 98, 108, 101] } = msT by rfl]; exact this⟩
  refine (mofNone c h0 h1 h2 h3 h4 h5 w).mono ?_
  rintro e w' ⟨rfl, rfl⟩
  exact ⟨_, rfl, Or.inl ⟨by unfold metas; simp only [h0, h1, h2, h3, h4, h5, if_false], rfl⟩, Below.refl _ _⟩
end Num
end Go.Proofs.Yteodljkcbddehaa
/-
  Looking a method up in a class's map.
-/
namespace Go.Proofs.Yteodljkcbddehaa
open Go.RowKit
namespace Num
open Ints
set_option linter.unusedSimpArgs false
set_option linter.unusedVariables false
def findM (k : ByteArray) : List (ByteArray × Bool × ByteArray) → Option (ByteArray × Bool × ByteArray)
  | [] => none
  | x :: r => if (k == x.1) = true then some x else findM k r
theorem sig_find {w : World} (k : ByteArray) : ∀ (L : List (ByteArray × Value)) (M : List (ByteArray × Bool × ByteArray)) (j : Nat), L.map (fun x => x.1) = M.map (fun x => x.1) → (∀ i (h : i < L.length) (h' : i < M.length), SigAt w L[i].2 M[i]) →
    (findM k M = none ∧ findS k L j = none) ∨ ∃ x i v, findM k M = some x ∧ findS k L j = some (i, v) ∧ SigAt w v x
  | [], M, j, h, _ => by
    cases M with
    | nil => exact Or.inl ⟨rfl, rfl⟩
    | cons x r => cases h
  | x :: r, M, j, h, hs => by
    cases M with
    | nil => cases h
    | cons y s =>
      rw [List.map_cons, List.map_cons, List.cons.injEq] at h
      unfold findS findM
      rw [← h.1]
      cases e : (k == x.1)
      · exact sig_find k r s (j + 1) h.2 (fun i h1 h2 => by have := hs (i + 1) (by simpa using h1) (by simpa using h2); simpa using this)
      · have h0 := hs 0 (by simp) (by simp)
        simp only [List.getElem_cons_zero] at h0
        exact Or.inr ⟨y, j, x.2, rfl, rfl, h0⟩
theorem look_find {w : World} {b : Nat} {M : List (ByteArray × Bool × ByteArray)} (h : MapOf w (.map (some b)) M) (k : ByteArray) :
    (findM k M = none ∧ ∀ c : Bool, (Instr.lookup 58 (.map (some b)) (.string k) c).run Try.prog w = .ok (if c then .tuple #[noSig, .bool false] else noSig) w) ∨
    ∃ x v, findM k M = some x ∧ SigAt w v x ∧ ∀ c : Bool, (Instr.lookup 58 (.map (some b)) (.string k) c).run Try.prog w = .ok (if c then .tuple #[v, .bool true] else v) w := by
  rcases h with ⟨_, h⟩ | ⟨b', L, h, hh, hk, hs⟩
  · cases h
  · cases h
    rcases sig_find k L M 0 hk hs with ⟨h1, h2⟩ | ⟨x, i, v, h1, h2, h3⟩
    · refine Or.inl ⟨h1, fun c => ?_⟩
      cases c
      · exact (look_sig w b L L.length k hh).trans (by unfold sigOf; rw [h2]; rfl)
      · exact (look_ok w b L L.length k hh).trans (by unfold sigOf; rw [h2]; rfl)
    · refine Or.inr ⟨x, v, h1, h3, fun c => ?_⟩
      cases c
      · exact (look_sig w b L L.length k hh).trans (by unfold sigOf; rw [h2]; rfl)
      · exact (look_ok w b L L.length k hh).trans (by unfold sigOf; rw [h2]; rfl)
theorem look_none_ok (w : World) (k : ByteArray) : (Instr.lookup 58 (.map none) (.string k) true).run Try.prog w = .ok (.tuple #[noSig, .bool false]) w := by
  simp [Instr.lookup, run_underlying sig_under, check_str, Instr.findKey, Instr.findNow, run_underlying Try.underlying9, zero_sig, noSig]
theorem metas_cases (c : ByteArray) : metas c = msC ∨ metas c = msL ∨ metas c = msO ∨ metas c = msQ ∨ metas c = msR ∨ metas c = msT ∨ metas c = [] := by
  unfold metas
  split
  · exact Or.inl rfl
  split
  · exact Or.inr (Or.inl rfl)
  split
  · exact Or.inr (Or.inr (Or.inl rfl))
  split
  · exact Or.inr (Or.inr (Or.inr (Or.inl rfl)))
  split
  · exact Or.inr (Or.inr (Or.inr (Or.inr (Or.inl rfl))))
  split
  · exact Or.inr (Or.inr (Or.inr (Or.inr (Or.inr (Or.inl rfl)))))
  exact Or.inr (Or.inr (Or.inr (Or.inr (Or.inr (Or.inr (rfl))))))
end Num
end Go.Proofs.Yteodljkcbddehaa
/-
  The reference's methods.
-/
namespace Go.Proofs.Yteodljkcbddehaa
open Go.RowKit
namespace Num
open Ints
set_option linter.unusedSimpArgs false
set_option linter.unusedVariables false
def RefM (w : World) (v : Value) (M : List (ByteArray × Bool × ByteArray)) : Prop := ∃ p, v = .slice p M.length M.length ∧ (0 < M.length → ∃ b, p = some ⟨b, 0, none⟩ ∧ ∀ i (h : i < M.length),
  w.cell? ⟨b, i * 3, none⟩ = some (.string M[i].1) ∧ w.cell? ⟨b, i * 3 + 1, none⟩ = some (.string M[i].2.2) ∧ w.cell? ⟨b, i * 3 + 2, none⟩ = some (.bool M[i].2.1))
def rowVs (M : List (ByteArray × Bool × ByteArray)) : List Value := M.flatMap fun x => [.string x.1, .string x.2.2, .bool x.2.1]
theorem rowVs_at : ∀ (M : List (ByteArray × Bool × ByteArray)) (i : Nat) (h : i < M.length), (rowVs M)[i * 3]? = some (.string M[i].1) ∧ (rowVs M)[i * 3 + 1]? = some (.string M[i].2.2) ∧ (rowVs M)[i * 3 + 2]? = some (.bool M[i].2.1)
  | x :: r, 0, _ => ⟨rfl, rfl, rfl⟩
  | x :: r, i + 1, h => by
    obtain ⟨h1, h2, h3⟩ := rowVs_at r i (by simpa using h)
    have e : rowVs (x :: r) = .string x.1 :: .string x.2.2 :: .bool x.2.1 :: rowVs r := rfl
    rw [e, show (i + 1) * 3 = i * 3 + 1 + 1 + 1 by omega, show i * 3 + 1 + 1 + 1 + 2 = i * 3 + 2 + 1 + 1 + 1 by omega]
    simp only [List.getElem?_cons_succ, List.getElem_cons_succ]
    exact ⟨h1, h2, h3⟩
theorem refM_lit (w : World) (M : List (ByteArray × Bool × ByteArray)) (t : TypeId) : RefM (w.alloc (.cells (rowVs M).toArray t)) (.slice (some ⟨w.heap.size, 0, none⟩) M.length M.length) M := by
  refine ⟨_, rfl, fun _ => ⟨_, rfl, fun i hi => ?_⟩⟩
  obtain ⟨h1, h2, h3⟩ := rowVs_at M i hi
  refine ⟨?_, ?_, ?_⟩ <;> rw [rc (row_alloc w _ t), List.getElem?_toArray] <;> assumption
set_option maxRecDepth 100000 in
set_option maxHeartbeats 2000000 in
theorem rmethC (w : World) : Calls Try.prog 40 #[.string { data := #[99, 111, 117, 110, 116, 101, 114] }] w fun e w' => ∃ v, e = .returned v ∧ RefM w' v msC ∧ Below w.heap.size w w' := by
  go_enter Try.func40, Try.ntmps40
  go_wp2
  go_ret
  exact ⟨_, rfl, refM_lit w msC _, (Below.refl _ w).alloc (Nat.le_refl _) _⟩
set_option maxRecDepth 100000 in
set_option maxHeartbeats 2000000 in
theorem rmethL (w : World) : Calls Try.prog 40 #[.string { data := #[108, 101, 100, 103, 101, 114] }] w fun e w' => ∃ v, e = .returned v ∧ RefM w' v msL ∧ Below w.heap.size w w' := by
  go_enter Try.func40, Try.ntmps40
  go_wp2
  go_ret
  exact ⟨_, rfl, refM_lit w msL _, (Below.refl _ w).alloc (Nat.le_refl _) _⟩
set_option maxRecDepth 100000 in
set_option maxHeartbeats 2000000 in
theorem rmethO (w : World) : Calls Try.prog 40 #[.string { data := #[111, 114, 99, 104] }] w fun e w' => ∃ v, e = .returned v ∧ RefM w' v msO ∧ Below w.heap.size w w' := by
  go_enter Try.func40, Try.ntmps40
  go_wp2
  go_ret
  exact ⟨_, rfl, refM_lit w msO _, (Below.refl _ w).alloc (Nat.le_refl _) _⟩
set_option maxRecDepth 100000 in
set_option maxHeartbeats 2000000 in
theorem rmethQ (w : World) : Calls Try.prog 40 #[.string { data := #[113, 117, 101, 117, 101] }] w fun e w' => ∃ v, e = .returned v ∧ RefM w' v msQ ∧ Below w.heap.size w w' := by
  go_enter Try.func40, Try.ntmps40
  go_wp2
  go_ret
  exact ⟨_, rfl, refM_lit w msQ _, (Below.refl _ w).alloc (Nat.le_refl _) _⟩
set_option maxRecDepth 100000 in
set_option maxHeartbeats 2000000 in
theorem rmethR (w : World) : Calls Try.prog 40 #[.string { data := #[114, 101, 103, 105, 115, 116, 101, 114] }] w fun e w' => ∃ v, e = .returned v ∧ RefM w' v msR ∧ Below w.heap.size w w' := by
  go_enter Try.func40, Try.ntmps40
  go_wp2
  go_ret
  exact ⟨_, rfl, refM_lit w msR _, (Below.refl _ w).alloc (Nat.le_refl _) _⟩
set_option maxRecDepth 100000 in
set_option maxHeartbeats 2000000 in
theorem rmethT (w : World) : Calls Try.prog 40 #[.string { data := #[116, 97, 98, 108, 101] }] w fun e w' => ∃ v, e = .returned v ∧ RefM w' v msT ∧ Below w.heap.size w w' := by
  go_enter Try.func40, Try.ntmps40
  go_wp2
  go_ret
  exact ⟨_, rfl, refM_lit w msT _, (Below.refl _ w).alloc (Nat.le_refl _) _⟩
set_option maxRecDepth 100000 in
set_option maxHeartbeats 2000000 in
theorem rmethNone (c : ByteArray) (h0 : c ≠ { data := #[99, 111, 117, 110, 116, 101, 114] }) (h1 : c ≠ { data := #[108, 101, 100, 103, 101, 114] }) (h2 : c ≠ { data := #[111, 114, 99, 104] }) (h3 : c ≠ { data := #[113, 117, 101, 117, 101] }) (h4 : c ≠ { data := #[114, 101, 103, 105, 115, 116, 101, 114] }) (h5 : c ≠ { data := #[116, 97, 98, 108, 101] }) (w : World) : Calls Try.prog 40 #[.string c] w fun e w' => e = .returned (.slice none 0 0) ∧ w' = w := by
  have t0 := str_ne h0
  have t1 := str_ne h1
  have t2 := str_ne h2
  have t3 := str_ne h3
  have t4 := str_ne h4
  have t5 := str_ne h5
  clear h0 h1 h2 h3 h4 h5
  go_enter Try.func40, Try.ntmps40
  go_wp2
  go_ret
  exact ⟨rfl, rfl⟩
theorem metas_none (c : ByteArray) (h0 : c ≠ { data := #[99, 111, 117, 110, 116, 101, 114] }) (h1 : c ≠ { data := #[108, 101, 100, 103, 101, 114] }) (h2 : c ≠ { data := #[111, 114, 99, 104] }) (h3 : c ≠ { data := #[113, 117, 101, 117, 101] }) (h4 : c ≠ { data := #[114, 101, 103, 105, 115, 116, 101, 114] }) (h5 : c ≠ { data := #[116, 97, 98, 108, 101] }) : metas c = [] := by unfold metas; simp only [h0, h1, h2, h3, h4, h5, if_false]
theorem rmeth_any (c : ByteArray) (w : World) : Calls Try.prog 40 #[.string c] w fun e w' => ∃ v, e = .returned v ∧ RefM w' v (metas c) ∧ Below w.heap.size w w' := by
  by_cases h0 : c = { data := #[99, 111, 117, 110, 116, 101, 114] }
  · subst h0
    exact rmethC w
  by_cases h1 : c = { data := #[108, 101, 100, 103, 101, 114] }
  · subst h1
    exact rmethL w
  by_cases h2 : c = { data := #[111, 114, 99, 104] }
  · subst h2
    exact rmethO w
  by_cases h3 : c = { data := #[113, 117, 101, 117, 101] }
  · subst h3
    exact rmethQ w
  by_cases h4 : c = { data := #[114, 101, 103, 105, 115, 116, 101, 114] }
  · subst h4
    exact rmethR w
  by_cases h5 : c = { data := #[116, 97, 98, 108, 101] }
  · subst h5
    exact rmethT w
  refine (rmethNone c h0 h1 h2 h3 h4 h5 w).mono ?_
  rintro e w' ⟨rfl, rfl⟩
  rw [metas_none c h0 h1 h2 h3 h4 h5]
  exact ⟨_, rfl, ⟨none, rfl, fun h => absurd h (Nat.lt_irrefl _)⟩, Below.refl _ _⟩
end Num
end Go.Proofs.Yteodljkcbddehaa
