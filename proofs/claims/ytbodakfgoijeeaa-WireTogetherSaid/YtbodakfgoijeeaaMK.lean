/-
  The survey's memo: what keep lays.
-/
import Derived.Test.YtbodakfgoijeeaaMV
import Derived.Laws.Cover3
namespace Go.Proofs.Ytbodakfgoijeeaa
open Go.RowKit
namespace Num
open Ints
set_option linter.unusedSimpArgs false
set_option linter.unusedVariables false
theorem memo_now {w0 w : World} {es : List MapEntry} {F : Nat → Prop} (h : MemoO w0 es F) (hb : Below w0.heap.size w0 w) : MemoO w es F := fun e he => by
  obtain ⟨a, n, h1, h2, ⟨cur, h3⟩⟩ := h e he
  exact ⟨a, n, h1, h2, cur, row_keep hb h3 (row_lt h3)⟩
theorem memo_mono {w : World} {es : List MapEntry} {F F' : Nat → Prop} (hF : ∀ b, F b → F' b) (h : MemoO w es F) : MemoO w es F' := fun e he => by
  obtain ⟨a, n, h1, h2, h3⟩ := h e he
  exact ⟨a, n, h1, hF _ h2, h3⟩
theorem pln_now {w0 w : World} {b : Nat} (h : Pln w0 b) (hb : Below w0.heap.size w0 w) : Pln w b := by
  obtain ⟨cur, h⟩ := h
  exact ⟨cur, row_keep hb h (row_lt h)⟩
theorem eql_map_nil (W : World) (m : Option Nat) : (binOp .eql 78 (.map m) (.map none)).run Try.prog W = .ok (.bool m.isNone) W := by
  simp [binOp, run_equal_map_nil W 78 86 71 m map_under]
theorem make_map (W : World) : (Instr.makeMap 78 none).run Try.prog W = .ok (.map (some W.heap.size)) (W.alloc (.map #[] 0)) := by
  simp [Instr.makeMap]
/-- A map's block anew. -/
def mpW (w : World) (mb : Nat) (es : Array MapEntry) (ck : Nat) : World := { w with heap := w.heap.setIfInBounds mb (.map es ck) }
theorem mpW_at {w : World} {mb : Nat} {o : Obj} (h : w.heap[mb]? = some o) (es : Array MapEntry) (ck : Nat) : (mpW w mb es ck).heap[mb]? = some (.map es ck) := (MapKept.heap_set h).1
theorem mpW_other {w : World} {mb k : Nat} (hne : k ≠ mb) (es : Array MapEntry) (ck : Nat) : (mpW w mb es ck).heap[k]? = w.heap[k]? := by
  show (w.heap.setIfInBounds mb _)[k]? = _
  simp [Ne.symm hne]
set_option maxRecDepth 100000 in
set_option maxHeartbeats 2000000 in
theorem sm_keep_few (a : Addr) (n : Int) (q1 q2 : Bool) (q3 q4 : Int) (w : World) (sb : Nat) (vis : Int) (mv : Value) (w0 : World) (F : Nat → Prop) (hat : MvAt w0 w sb vis mv F) (hv : vis ≤ 1000) : Calls Try.prog 51 #[.pointer (some ⟨sb, 0, none⟩), .agg #[.pointer (some a), .int .i64 n], .agg #[.bool q1, .bool q2, .int .i64 q3, .int .i64 q4]] w fun e w' => e = .returned (.tuple #[]) ∧ Kp w w' sb mv ∧ ∃ mv', MvTo w mv mv' ∧ MvAt w0 w' sb vis mv' (fun b => F b ∨ b = a.block) := by
  have c0 : w.cell? ⟨sb, 0, none⟩ = some (.int .i64 vis) := row_cell hat.1 0
  have hlt := row_lt hat.1
  have hne : sb ≠ w.heap.size := by omega
  have HAT := Lib.hid hat
  clear hat
  go_enter Try.func51, Try.ntmps51
  go_wp2
  refine bodyPost_ret (results_none rfl _ _ _) rfl ?_
  exact ⟨rfl, kp_alloc (kp_alloc (kp_refl w sb mv) _) _, mv, Or.inl rfl, mvat_mono (fun b hb => Or.inl hb) (mvat_alloc (mvat_alloc HAT.out _) _)⟩
/-- What keep leaves. -/
theorem keep_fin {w0 w W : World} {sb mb : Nat} {vis : Int} {F : Nat → Prop} {es : Array MapEntry} {ck : Nat} {a : Addr} {n : Int} {v : Value} {mv : Value} (hk : Kp w W sb mv) (hmv : mv = .map (some mb) ∨ w.heap.size ≤ mb) (hrow : W.heap[sb]? = some (.cells #[.int .i64 vis, .map (some mb)] 80 (0, 0))) (h1 : w0.heap.size ≤ mb) (h2 : mb ≠ sb) (h3 : W.heap[mb]? = some (.map es ck)) (h4 : MemoO w0 es.toList F) (ha : Pln w0 a.block) :
    Kp w (mpW W mb (es.push ⟨kRow a n, v, ck⟩) (ck + 1)) sb mv ∧ MvAt w0 (mpW W mb (es.push ⟨kRow a n, v, ck⟩) (ck + 1)) sb vis (.map (some mb)) (fun b => F b ∨ b = a.block) := by
  refine ⟨⟨hk.os, hk.tape, hk.output, by show w.heap.size ≤ (W.heap.setIfInBounds mb _).size; rw [Array.size_setIfInBounds]; exact hk.size, fun k hlt hs hv => (mpW_other (by rintro rfl; rcases hmv with e | e; exact hv e; omega) _ _).trans (hk.block k hlt hs hv)⟩, (mpW_other (Ne.symm h2) _ _).trans hrow, Or.inr ⟨mb, _, _, rfl, h1, h2, mpW_at h3 _ _, fun e he => ?_⟩⟩
  rw [Array.toList_push, List.mem_append] at he
  rcases he with he | he
  · obtain ⟨b, m, k1, k2, k3⟩ := h4 e he
    exact ⟨b, m, k1, Or.inl k2, k3⟩
  · obtain rfl := List.mem_singleton.1 he
    exact ⟨a, n, rfl, Or.inr rfl, ha⟩
set_option maxRecDepth 100000 in
set_option maxHeartbeats 2000000 in
theorem sm_keep_some (a : Addr) (n : Int) (q1 q2 : Bool) (q3 q4 : Int) (w : World) (sb : Nat) (vis : Int) (mb : Nat) (w0 : World) (F : Nat → Prop) (hB : Below w0.heap.size w0 w) (hat : MvAt w0 w sb vis (.map (some mb)) F) (hv : ¬ vis ≤ 1000) (ha : Pln w0 a.block) (hF : ∀ b, F b → b ≠ a.block) : Calls Try.prog 51 #[.pointer (some ⟨sb, 0, none⟩), .agg #[.pointer (some a), .int .i64 n], .agg #[.bool q1, .bool q2, .int .i64 q3, .int .i64 q4]] w fun e w' => e = .returned (.tuple #[]) ∧ Kp w w' sb (.map (some mb)) ∧ ∃ mv', MvTo w (.map (some mb)) mv' ∧ MvAt w0 w' sb vis mv' (fun b => F b ∨ b = a.block) := by
  have c0 : w.cell? ⟨sb, 0, none⟩ = some (.int .i64 vis) := row_cell hat.1 0
  have c1 : w.cell? ⟨sb, 1, none⟩ = some (.map (some mb)) := row_cell hat.1 1
  have hlt := row_lt hat.1
  have hne : sb ≠ w.heap.size := by omega
  have hne2 : sb ≠ w.heap.size + 1 := by omega
  have lt1 : sb < w.heap.size + 1 := by omega
  obtain ⟨hrow, hm⟩ := hat
  rcases hm with e | ⟨mb', es, ck, e, h1, h2, h3, h4⟩
  · cases e
  · cases e
    obtain ⟨W, hW⟩ : ∃ W, (w.alloc (.cells #[.pointer (some a), .int .i64 n] 86)).alloc (.cells #[.bool q1, .bool q2, .int .i64 q3, .int .i64 q4] 71) = W := ⟨_, rfl⟩
    have hWB : Below w.heap.size w W := by rw [← hW]; exact ((Below.refl _ _).alloc (Nat.le_refl _) _).alloc (by simp) _
    have hmW : W.heap[mb]? = some (.map es ck) := row_step h3 hWB
    have hB' := hB.trans (hWB.mono hB.size)
    have up := fun (v : Value) => update_miss W.drew mb es ck a n v hmW (pln_now ha (Below.drew hB')) (memo_mono hF (memo_now h4 (Below.drew hB')))
    rw [← hW] at up
    unfold kRow at up
    have qm := fun W => eql_map_nil W (some mb)
    simp only [Option.isNone_some] at qm
    have hms : mb < w.heap.size := row_lt h3
    have HFIN := Lib.hid (fun (v : Value) => keep_fin (n := n) (v := v) (kp_drew (kp_bel (kp_refl w sb (.map (some mb))) hWB)) (Or.inl rfl) (show W.drew.heap[sb]? = _ from row_step hrow (Below.drew hWB)) h1 h2 hmW h4 ha)
    rw [← hW] at HFIN
    clear hW hWB hmW hB' hB h3 h4 hrow
    go_enter Try.func51, Try.ntmps51
    go_wp2
    go_region
    refine bodyPost_end (results_none rfl _ _ _) rfl ?_
    exact ⟨rfl, (HFIN.out _).1, _, Or.inl rfl, (HFIN.out _).2⟩
set_option maxRecDepth 100000 in
set_option maxHeartbeats 2000000 in
theorem sm_keep_none (a : Addr) (n : Int) (q1 q2 : Bool) (q3 q4 : Int) (w : World) (sb : Nat) (vis : Int) (w0 : World) (F : Nat → Prop) (hB : Below w0.heap.size w0 w) (hat : MvAt w0 w sb vis (.map none) F) (hs0 : w0.heap.size ≤ sb) (hv : ¬ vis ≤ 1000) (ha : Pln w0 a.block) : Calls Try.prog 51 #[.pointer (some ⟨sb, 0, none⟩), .agg #[.pointer (some a), .int .i64 n], .agg #[.bool q1, .bool q2, .int .i64 q3, .int .i64 q4]] w fun e w' => e = .returned (.tuple #[]) ∧ Kp w w' sb (.map none) ∧ ∃ mv', MvTo w (.map none) mv' ∧ MvAt w0 w' sb vis mv' (fun b => F b ∨ b = a.block) := by
  have c0 : w.cell? ⟨sb, 0, none⟩ = some (.int .i64 vis) := row_cell hat.1 0
  have c1 : w.cell? ⟨sb, 1, none⟩ = some (.map none) := row_cell hat.1 1
  have f1 := row_frz hat.1 1
  have hlt := row_lt hat.1
  have hne : sb ≠ w.heap.size := by omega
  have hne2 : sb ≠ w.heap.size + 1 := by omega
  have hne3 : sb ≠ w.heap.size + 1 + 1 := by omega
  have lt1 : sb < w.heap.size + 1 := by omega
  have lt2 : sb < w.heap.size + 1 + 1 := by omega
  have qm := fun W => eql_map_nil W none
  simp only [Option.isNone_none] at qm
  have mk := make_map
  obtain ⟨W, hW⟩ : ∃ W, ((((w.setCell ⟨sb, 1, none⟩ (.map (some (w.heap.size + 1 + 1)))).alloc (.cells #[.pointer (some a), .int .i64 n] 86)).alloc (.cells #[.bool q1, .bool q2, .int .i64 q3, .int .i64 q4] 71)).alloc (.map #[] 0)) = W := ⟨_, rfl⟩
  have hk : Kp w W sb (.map none) := by
    rw [← hW]
    exact kp_alloc (kp_alloc (kp_alloc (kp_set (kp_refl w sb _) (Or.inl rfl) _ _) _) _) _
  have hrowW : W.heap[sb]? = some (.cells #[.int .i64 vis, .map (some (w.heap.size + 1 + 1))] 80 (0, 0)) := by
    rw [← hW]
    refine row_alloc_step (row_alloc_step (row_alloc_step ?_ _) _) _
    simp [World.setCell, Array.getElem?_modify, hat.1]
  have hmW : W.heap[w.heap.size + 1 + 1]? = some (.map #[] 0) := by
    rw [← hW]
    have h := (MapKept.heap_alloc (((w.setCell ⟨sb, 1, none⟩ (.map (some (w.heap.size + 1 + 1)))).alloc (.cells #[.pointer (some a), .int .i64 n] 86)).alloc (.cells #[.bool q1, .bool q2, .int .i64 q3, .int .i64 q4] 71)) (.map #[] 0)).1
    simpa using h
  have hB' := kp_below hB hs0 hat hk
  have hnil : MemoO W.drew (#[] : Array MapEntry).toList (fun b => b ≠ a.block) := fun e he => by cases he
  have up := fun (v : Value) => update_miss W.drew (w.heap.size + 1 + 1) #[] 0 a n v hmW (pln_now ha (Below.drew hB')) hnil
  have HFIN := Lib.hid (fun (v : Value) => keep_fin (w0 := w0) (F := F) (es := #[]) (ck := 0) (a := a) (n := n) (v := v) (kp_drew hk) (Or.inr (by omega)) (show W.drew.heap[sb]? = _ from hrowW) (by have := hB.size; omega) (by omega) hmW (fun e he => by cases he) ha)
  rw [← hW] at up HFIN
  unfold kRow at up
  clear hat hW hk hrowW hmW hB' hB hnil
  go_enter Try.func51, Try.ntmps51
  go_wp2
  go_region
  refine bodyPost_end (results_none rfl _ _ _) rfl ?_
  exact ⟨rfl, (HFIN.out _).1, _, Or.inr ⟨rfl, _, rfl, by omega⟩, (HFIN.out _).2⟩
theorem sm_keep (a : Addr) (n : Int) (q1 q2 : Bool) (q3 q4 : Int) (w : World) (sb : Nat) (vis : Int) (mv : Value) (w0 : World) (F : Nat → Prop) (hB : Below w0.heap.size w0 w) (hat : MvAt w0 w sb vis mv F) (hs0 : w0.heap.size ≤ sb) (ha : Pln w0 a.block) (hF : ∀ b, F b → b ≠ a.block) : Calls Try.prog 51 #[.pointer (some ⟨sb, 0, none⟩), .agg #[.pointer (some a), .int .i64 n], .agg #[.bool q1, .bool q2, .int .i64 q3, .int .i64 q4]] w fun e w' => e = .returned (.tuple #[]) ∧ Kp w w' sb mv ∧ ∃ mv', MvTo w mv mv' ∧ MvAt w0 w' sb vis mv' (fun b => F b ∨ b = a.block) := by
  by_cases hv : vis ≤ 1000
  · exact sm_keep_few a n q1 q2 q3 q4 w sb vis mv w0 F hat hv
  · rcases hat.2 with e | ⟨mb, es, ck, e, h1, h2, h3, h4⟩
    · subst e; exact sm_keep_none a n q1 q2 q3 q4 w sb vis w0 F hB hat hs0 hv ha
    · subst e; exact sm_keep_some a n q1 q2 q3 q4 w sb vis mb w0 F hB hat hv ha hF
end Num
end Go.Proofs.Ytbodakfgoijeeaa
