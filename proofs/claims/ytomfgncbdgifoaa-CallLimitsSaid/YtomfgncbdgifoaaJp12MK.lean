/-
  The survey's memo: what keep lays.
-/
import Derived.Test.YtomfgncbdgifoaaJp11MS
import Derived.Laws.Cover3
import Derived.Test.YtomfgncbdgifoaaJp9WE
import Derived.Test.YtomfgncbdgifoaaJp4VSurv
namespace Go.Proofs.Ytomfgncbdgifoaa
open Go.RowKit
namespace Num
open Ints
set_option linter.unusedSimpArgs false
set_option linter.unusedVariables false
theorem memo_now {w0 w : World} {es : List MapEntry} {F : Nat → Prop} (h : MemoO w0 es F) (hb : Below w0.heap.size w0 w) : MemoO w es F := fun e he => by
  obtain ⟨a, n, h1, h2, ⟨cur, h3⟩⟩ := h e he
  exact ⟨a, n, h1, h2, cur, row_keep hb h3 (row_lt h3)⟩
theorem memo_mono {w : World} {es : List MapEntry} {F F' : Nat → Prop} (hF : ∀ b, F b → F' b) (h : MemoO w es F) : MemoO w es F' := fun e he => by
  obtain ⟨a, n, h1, h2, h3⟩ := h e he
  exact ⟨a, n, h1, hF _ h2, h3⟩
theorem pln_now {w0 w : World} {b : Nat} (h : Pln w0 b) (hb : Below w0.heap.size w0 w) : Pln w b := by
  obtain ⟨cur, h⟩ := h
  exact ⟨cur, row_keep hb h (row_lt h)⟩
theorem eql_map_nil (W : World) (m : Option Nat) : (binOp .eql 128 (.map m) (.map none)).run Try.prog W = .ok (.bool m.isNone) W := by
  simp [binOp, run_equal_map_nil W 128 152 119 m map_under]
theorem make_map (W : World) : (Instr.makeMap 128 none).run Try.prog W = .ok (.map (some W.heap.size)) (W.alloc (.map #[] 0)) := by
  simp [Instr.makeMap]
/-- A map's block anew. -/
def mpW (w : World) (mb : Nat) (es : Array MapEntry) (ck : Nat) : World := { w with heap := w.heap.setIfInBounds mb (.map es ck) }
theorem mpW_at {w : World} {mb : Nat} {o : Obj} (h : w.heap[mb]? = some o) (es : Array MapEntry) (ck : Nat) : (mpW w mb es ck).heap[mb]? = some (.map es ck) := (MapKept.heap_set h).1
theorem mpW_other {w : World} {mb k : Nat} (hne : k ≠ mb) (es : Array MapEntry) (ck : Nat) : (mpW w mb es ck).heap[k]? = w.heap[k]? := by
  show (w.heap.setIfInBounds mb _)[k]? = _
  simp [Ne.symm hne]
set_option maxRecDepth 100000 in
set_option maxHeartbeats 2000000 in
theorem sm_keep_few (a : Addr) (n : Int) (q1 q2 : Bool) (q3 q4 : Int) (w : World) (sb : Nat) (vis : Int) (mv : Value) (w0 : World) (F : Nat → Prop) (hat : MvAt w0 w sb vis mv F) (hv : vis ≤ 1000) : Calls Try.prog 111 #[.pointer (some ⟨sb, 0, none⟩), .agg #[.pointer (some a), .int .i64 n], .agg #[.bool q1, .bool q2, .int .i64 q3, .int .i64 q4]] w fun e w' => e = .returned (.tuple #[]) ∧ Kp w w' sb mv ∧ ∃ mv', MvTo w mv mv' ∧ MvAt w0 w' sb vis mv' (fun b => F b ∨ b = a.block) := by
  have c0 : w.cell? ⟨sb, 0, none⟩ = some (.int .i64 vis) := row_cell hat.1 0
  have hlt := row_lt hat.1
  have hne : sb ≠ w.heap.size := by omega
  have HAT := Lib.hid hat
  clear hat
  go_enter Try.func111, Try.ntmps111
  go_wp2
  refine bodyPost_ret (results_none rfl _ _ _) rfl ?_
  exact ⟨rfl, kp_alloc (kp_alloc (kp_refl w sb mv) _) _, mv, Or.inl rfl, mvat_mono (fun b hb => Or.inl hb) (mvat_alloc (mvat_alloc HAT.out _) _)⟩
/-- What keep leaves. -/
theorem keep_fin {w0 w W : World} {sb mb : Nat} {vis : Int} {F : Nat → Prop} {es : Array MapEntry} {ck : Nat} {a : Addr} {n : Int} {v : Value} {mv : Value} (hk : Kp w W sb mv) (hmv : mv = .map (some mb) ∨ w.heap.size ≤ mb) (hrow : W.heap[sb]? = some (.cells #[.int .i64 vis, .map (some mb)] 130 (0, 0))) (h1 : w0.heap.size ≤ mb) (h2 : mb ≠ sb) (h3 : W.heap[mb]? = some (.map es ck)) (h4 : MemoO w0 es.toList F) (ha : Pln w0 a.block) :
    Kp w (mpW W mb (es.push ⟨kRow a n, v, ck⟩) (ck + 1)) sb mv ∧ MvAt w0 (mpW W mb (es.push ⟨kRow a n, v, ck⟩) (ck + 1)) sb vis (.map (some mb)) (fun b => F b ∨ b = a.block) := by
  refine ⟨⟨hk.os, hk.tape, hk.output, by show w.heap.size ≤ (W.heap.setIfInBounds mb _).size; rw [Array.size_setIfInBounds]; exact hk.size, fun k hlt hs hv => (mpW_other (by rintro rfl; rcases hmv with e | e; exact hv e; omega) _ _).trans (hk.block k hlt hs hv)⟩, (mpW_other (Ne.symm h2) _ _).trans hrow, Or.inr ⟨mb, _, _, rfl, h1, h2, mpW_at h3 _ _, fun e he => ?_⟩⟩
  rw [Array.toList_push, List.mem_append] at he
  rcases he with he | he
  · obtain ⟨b, m, k1, k2, k3⟩ := h4 e he
    exact ⟨b, m, k1, Or.inl k2, k3⟩
  · obtain rfl := List.mem_singleton.1 he
    exact ⟨a, n, rfl, Or.inr rfl, ha⟩
set_option maxRecDepth 100000 in
set_option maxHeartbeats 2000000 in
theorem sm_keep_some (a : Addr) (n : Int) (q1 q2 : Bool) (q3 q4 : Int) (w : World) (sb : Nat) (vis : Int) (mb : Nat) (w0 : World) (F : Nat → Prop) (hB : Below w0.heap.size w0 w) (hat : MvAt w0 w sb vis (.map (some mb)) F) (hv : ¬ vis ≤ 1000) (ha : Pln w0 a.block) (hF : ∀ b, F b → b ≠ a.block) : Calls Try.prog 111 #[.pointer (some ⟨sb, 0, none⟩), .agg #[.pointer (some a), .int .i64 n], .agg #[.bool q1, .bool q2, .int .i64 q3, .int .i64 q4]] w fun e w' => e = .returned (.tuple #[]) ∧ Kp w w' sb (.map (some mb)) ∧ ∃ mv', MvTo w (.map (some mb)) mv' ∧ MvAt w0 w' sb vis mv' (fun b => F b ∨ b = a.block) := by
  have c0 : w.cell? ⟨sb, 0, none⟩ = some (.int .i64 vis) := row_cell hat.1 0
  have c1 : w.cell? ⟨sb, 1, none⟩ = some (.map (some mb)) := row_cell hat.1 1
  have hlt := row_lt hat.1
  have hne : sb ≠ w.heap.size := by omega
  have hne2 : sb ≠ w.heap.size + 1 := by omega
  have lt1 : sb < w.heap.size + 1 := by omega
  obtain ⟨hrow, hm⟩ := hat
  rcases hm with e | ⟨mb', es, ck, e, h1, h2, h3, h4⟩
  · cases e
  · cases e
    obtain ⟨W, hW⟩ : ∃ W, (w.alloc (.cells #[.pointer (some a), .int .i64 n] 152)).alloc (.cells #[.bool q1, .bool q2, .int .i64 q3, .int .i64 q4] 119) = W := ⟨_, rfl⟩
    have hWB : Below w.heap.size w W := by rw [← hW]; exact ((Below.refl _ _).alloc (Nat.le_refl _) _).alloc (by simp) _
    have hmW : W.heap[mb]? = some (.map es ck) := row_step h3 hWB
    have hB' := hB.trans (hWB.mono hB.size)
    have up := fun (v : Value) => update_miss W.drew mb es ck a n v hmW (pln_now ha (Below.drew hB')) (memo_mono hF (memo_now h4 (Below.drew hB')))
    rw [← hW] at up
    unfold kRow at up
    have qm := fun W => eql_map_nil W (some mb)
    simp only [Option.isNone_some] at qm
    have hms : mb < w.heap.size := row_lt h3
    have HFIN := Lib.hid (fun (v : Value) => keep_fin (n := n) (v := v) (kp_drew (kp_bel (kp_refl w sb (.map (some mb))) hWB)) (Or.inl rfl) (show W.drew.heap[sb]? = _ from row_step hrow (Below.drew hWB)) h1 h2 hmW h4 ha)
    rw [← hW] at HFIN
    clear hW hWB hmW hB' hB h3 h4 hrow
    go_enter Try.func111, Try.ntmps111
    go_wp2
    go_region
    refine bodyPost_end (results_none rfl _ _ _) rfl ?_
    exact ⟨rfl, (HFIN.out _).1, _, Or.inl rfl, (HFIN.out _).2⟩
set_option maxRecDepth 100000 in
set_option maxHeartbeats 2000000 in
theorem sm_keep_none (a : Addr) (n : Int) (q1 q2 : Bool) (q3 q4 : Int) (w : World) (sb : Nat) (vis : Int) (w0 : World) (F : Nat → Prop) (hB : Below w0.heap.size w0 w) (hat : MvAt w0 w sb vis (.map none) F) (hs0 : w0.heap.size ≤ sb) (hv : ¬ vis ≤ 1000) (ha : Pln w0 a.block) : Calls Try.prog 111 #[.pointer (some ⟨sb, 0, none⟩), .agg #[.pointer (some a), .int .i64 n], .agg #[.bool q1, .bool q2, .int .i64 q3, .int .i64 q4]] w fun e w' => e = .returned (.tuple #[]) ∧ Kp w w' sb (.map none) ∧ ∃ mv', MvTo w (.map none) mv' ∧ MvAt w0 w' sb vis mv' (fun b => F b ∨ b = a.block) := by
  have c0 : w.cell? ⟨sb, 0, none⟩ = some (.int .i64 vis) := row_cell hat.1 0
  have c1 : w.cell? ⟨sb, 1, none⟩ = some (.map none) := row_cell hat.1 1
  have f1 := row_frz hat.1 1
  have hlt := row_lt hat.1
  have hne : sb ≠ w.heap.size := by omega
  have hne2 : sb ≠ w.heap.size + 1 := by omega
  have hne3 : sb ≠ w.heap.size + 1 + 1 := by omega
  have lt1 : sb < w.heap.size + 1 := by omega
  have lt2 : sb < w.heap.size + 1 + 1 := by omega
  have qm := fun W => eql_map_nil W none
  simp only [Option.isNone_none] at qm
  have mk := make_map
  obtain ⟨W, hW⟩ : ∃ W, ((((w.setCell ⟨sb, 1, none⟩ (.map (some (w.heap.size + 1 + 1)))).alloc (.cells #[.pointer (some a), .int .i64 n] 152)).alloc (.cells #[.bool q1, .bool q2, .int .i64 q3, .int .i64 q4] 119)).alloc (.map #[] 0)) = W := ⟨_, rfl⟩
  have hk : Kp w W sb (.map none) := by
    rw [← hW]
    exact kp_alloc (kp_alloc (kp_alloc (kp_set (kp_refl w sb _) (Or.inl rfl) _ _) _) _) _
  have hrowW : W.heap[sb]? = some (.cells #[.int .i64 vis, .map (some (w.heap.size + 1 + 1))] 130 (0, 0)) := by
    rw [← hW]
    refine row_alloc_step (row_alloc_step (row_alloc_step ?_ _) _) _
    simp [World.setCell, Array.getElem?_modify, hat.1]
  have hmW : W.heap[w.heap.size + 1 + 1]? = some (.map #[] 0) := by
    rw [← hW]
    have h := (MapKept.heap_alloc (((w.setCell ⟨sb, 1, none⟩ (.map (some (w.heap.size + 1 + 1)))).alloc (.cells #[.pointer (some a), .int .i64 n] 152)).alloc (.cells #[.bool q1, .bool q2, .int .i64 q3, .int .i64 q4] 119)) (.map #[] 0)).1
    simpa using h
  have hB' := kp_below hB hs0 hat hk
  have hnil : MemoO W.drew (#[] : Array MapEntry).toList (fun b => b ≠ a.block) := fun e he => by cases he
  have up := fun (v : Value) => update_miss W.drew (w.heap.size + 1 + 1) #[] 0 a n v hmW (pln_now ha (Below.drew hB')) hnil
  have HFIN := Lib.hid (fun (v : Value) => keep_fin (w0 := w0) (F := F) (es := #[]) (ck := 0) (a := a) (n := n) (v := v) (kp_drew hk) (Or.inr (by omega)) (show W.drew.heap[sb]? = _ from hrowW) (by have := hB.size; omega) (by omega) hmW (fun e he => by cases he) ha)
  rw [← hW] at up HFIN
  unfold kRow at up
  clear hat hW hk hrowW hmW hB' hB hnil
  go_enter Try.func111, Try.ntmps111
  go_wp2
  go_region
  refine bodyPost_end (results_none rfl _ _ _) rfl ?_
  exact ⟨rfl, (HFIN.out _).1, _, Or.inr ⟨rfl, _, rfl, by omega⟩, (HFIN.out _).2⟩
theorem sm_keep (a : Addr) (n : Int) (q1 q2 : Bool) (q3 q4 : Int) (w : World) (sb : Nat) (vis : Int) (mv : Value) (w0 : World) (F : Nat → Prop) (hB : Below w0.heap.size w0 w) (hat : MvAt w0 w sb vis mv F) (hs0 : w0.heap.size ≤ sb) (ha : Pln w0 a.block) (hF : ∀ b, F b → b ≠ a.block) : Calls Try.prog 111 #[.pointer (some ⟨sb, 0, none⟩), .agg #[.pointer (some a), .int .i64 n], .agg #[.bool q1, .bool q2, .int .i64 q3, .int .i64 q4]] w fun e w' => e = .returned (.tuple #[]) ∧ Kp w w' sb mv ∧ ∃ mv', MvTo w mv mv' ∧ MvAt w0 w' sb vis mv' (fun b => F b ∨ b = a.block) := by
  by_cases hv : vis ≤ 1000
  · exact sm_keep_few a n q1 q2 q3 q4 w sb vis mv w0 F hat hv
  · rcases hat.2 with e | ⟨mb, es, ck, e, h1, h2, h3, h4⟩
    · subst e; exact sm_keep_none a n q1 q2 q3 q4 w sb vis w0 F hB hat hs0 hv ha
    · subst e; exact sm_keep_some a n q1 q2 q3 q4 w sb vis mb w0 F hB hat hv ha hF
end Num
end Go.Proofs.Ytomfgncbdgifoaa
/-
  The survey's walk through a list, its memo kept.
-/
namespace Go.Proofs.Ytomfgncbdgifoaa
open Go.RowKit
namespace Num
open Ints
set_option linter.unusedSimpArgs false
set_option linter.unusedVariables false
/-- What the walk through a list keeps: the survey, its memo, the result's box, the measure so far, the list's place. -/
def LsM (w0 w wr : World) (sb : Nat) (mv mv' : Value) (vis vis' : Int) (k : Nat) (F : Nat → Prop) (q : Me) (a : Addr) (l : Nat) : Prop :=
  Kp w wr sb mv ∧ MvTo w mv mv' ∧ MvAt w0 wr sb vis' mv' F ∧ vis ≤ vis' ∧ vis' ≤ vis + k ∧
  wr.heap[w.heap.size]? = some (.cells #[.bool false, .bool false, .int .i64 0, .int .i64 0] 119 (0, 0)) ∧
  wr.heap[w.heap.size + 1]? = some (.cells #[.bool q.1, .bool q.2.1, .int .i64 q.2.2.1, .int .i64 q.2.2.2] 119 (0, 0)) ∧
  wr.heap[w.heap.size + 1 + 1]? = some (.cells #[.pointer (some a), .int .i64 l] 152 (0, 0))
section
variable {w0 w wr w1 : World} {sb : Nat} {mv mv' : Value} {vis vis' : Int} {k j : Nat} {F : Nat → Prop} {q : Me} {a : Addr} {l : Nat}
theorem lsm_bel (h : LsM w0 w wr sb mv mv' vis vis' k F q a l) (hb : Below wr.heap.size wr w1) : LsM w0 w w1 sb mv mv' vis vis' k F q a l := by
  obtain ⟨h1, h2, h3, h4, h5, h6, h7, h8⟩ := h
  exact ⟨kp_bel h1 hb, h2, mvat_bel h3 hb, h4, h5, row_step h6 hb, row_step h7 hb, row_step h8 hb⟩
theorem lsm_drew (h : LsM w0 w wr sb mv mv' vis vis' k F q a l) : LsM w0 w wr.drew sb mv mv' vis vis' k F q a l := ⟨kp_drew h.1, h.2⟩
theorem mv_not_row (h : MvAt w0 wr sb vis' mv' F) {b : Nat} {cs : Array Value} {t : TypeId} {fr : Nat × Nat} (hr : wr.heap[b]? = some (.cells cs t fr)) : mv' ≠ .map (some b) := by
  intro e
  rcases h.2 with e' | ⟨mb, es, ck, e', _, _, h3, _⟩
  · rw [e] at e'; cases e'
  · rw [e] at e'; cases e'; rw [hr] at h3; cases h3
theorem row_kp (hk : Kp wr w1 sb mv') (h : MvAt w0 wr sb vis' mv' F) {b : Nat} {cs : Array Value} {t : TypeId} {fr : Nat × Nat} (hr : wr.heap[b]? = some (.cells cs t fr)) (hs : b ≠ sb) : w1.heap[b]? = some (.cells cs t fr) :=
  (hk.block b (row_lt hr) hs (mv_not_row h hr)).trans hr
theorem lsm_sv {F' : Nat → Prop} (h : LsM w0 w wr sb mv mv' vis vis' k F q a l) (hs : sb < w.heap.size) (hb : SvR w0 wr w1 sb mv' vis' j F') : ∃ mv2 vis2, LsM w0 w w1 sb mv mv2 vis vis2 (k + j) F' q a l := by
  obtain ⟨h1, h2, h3, h4, h5, h6, h7, h8⟩ := h
  obtain ⟨g, vis2, mv2, a1, a2, a3, a4⟩ := hb
  exact ⟨mv2, vis2, kp_trans h1 h2 g, mvto_trans h2 h1.size a3, a4, by omega, by omega, row_kp g h3 h6 (by omega), row_kp g h3 h7 (by omega), row_kp g h3 h8 (by omega)⟩
theorem lsm_set (h : LsM w0 w wr sb mv mv' vis vis' k F q a l) (hs : sb < w.heap.size) (q' : Me) :
    LsM w0 w ((((wr.setCell ⟨w.heap.size + 1, 0, none⟩ (.bool q'.1)).setCell ⟨w.heap.size + 1, 1, none⟩ (.bool q'.2.1)).setCell ⟨w.heap.size + 1, 2, none⟩ (.int .i64 q'.2.2.1)).setCell ⟨w.heap.size + 1, 3, none⟩ (.int .i64 q'.2.2.2)) sb mv mv' vis vis' k F q' a l := by
  obtain ⟨h1, h2, h3, h4, h5, h6, h7, h8⟩ := h
  have hn := mv_not_row h3 h7
  have hne : sb ≠ w.heap.size + 1 := by omega
  exact ⟨kp_set (kp_set (kp_set (kp_set h1 (Or.inr (by omega)) _ _) (Or.inr (by omega)) _ _) (Or.inr (by omega)) _ _) (Or.inr (by omega)) _ _, h2, mvat_set (mvat_set (mvat_set (mvat_set h3 hne hn _ _) hne hn _ _) hne hn _ _) hne hn _ _, h4, h5, set4_other h6 (by omega) _ _ _ _, set4_row h7 _ _ _ _, set4_other h8 (by omega) _ _ _ _⟩
theorem lsm_mono {F' : Nat → Prop} (hF : ∀ b, F b → F' b) (h : LsM w0 w wr sb mv mv' vis vis' k F q a l) : LsM w0 w wr sb mv mv' vis vis' k F' q a l := by
  obtain ⟨h1, h2, h3, h4⟩ := h
  exact ⟨h1, h2, mvat_mono hF h3, h4⟩
end
theorem measDL_in {n lev : Nat} {L : List (VT n)} (h : ¬ 64 < lev) : measDL n lev L = L.foldl (fun a x => withM a (measD n lev x)) (false, decide (64 < (L.length : Int)), 1, 2) := by unfold measDL; rw [if_neg h]
theorem measDL_deep {n lev : Nat} {L : List (VT n)} (h : 64 < lev) : measDL n lev L = (false, decide (64 < (L.length : Int)), 1, 2) := by unfold measDL; rw [if_pos h]
theorem measDL_nil (n lev : Nat) : measDL n lev ([] : List (VT n)) = (false, false, 1, 2) := by unfold measDL; split <;> rfl
set_option maxHeartbeats 4000000 in
theorem sm_list_none (n : Nat) (hv : SmValue n) : ∀ (L : List (VT n)) (b off l c : Nat) (lev : Nat) (vis : Int) (w0 w : World) (sb : Nat) (A FF : Nat → Prop), RepLS A w0 (RepC w0 n) (some ⟨b, off, none⟩) l c L → Below w0.heap.size w0 w → w0.heap.size ≤ sb → (∀ b, FF b → ¬ A b) → MvAt w0 w sb vis (.map none) FF → lev ≤ 64 → 0 ≤ vis → vis + (L.foldl (fun a x => a + partsT n x) 0 : Nat) ≤ 1000000 → 0 < l →
    Calls Try.prog 104 #[.pointer (some ⟨sb, 0, none⟩), .slice (some ⟨b, off, none⟩) l c, .int .i64 lev] w fun e w' => e = .returned (meV (measDL n lev L)) ∧ SvR w0 w w' sb (.map none) vis (L.foldl (fun a x => a + partsT n x) 0) (fun b => FF b ∨ A b) := by
  intro L b off l c lev vis w0 w sb A FF hr hB hs hFS hat hlev hv0 hvp hl0
  obtain ⟨hl, hlc, hcm, hel⟩ := hr
  unfold maxLen at hcm
  have c0 : w.cell? ⟨sb, 0, none⟩ = some (.int .i64 vis) := row_cell hat.1 0
  have hlt := row_lt hat.1
  have hne : sb ≠ w.heap.size := by omega
  have hne' : w.heap.size ≠ sb := by omega
  have lt1 : sb < w.heap.size + 1 := by omega
  have lt2 : sb < w.heap.size + 1 + 1 := by omega
  have lt3 : sb < w.heap.size + 1 + 1 + 1 := by omega
  have ne1 : sb ≠ w.heap.size + 1 := by omega
  have ne2 : sb ≠ w.heap.size + 1 + 1 := by omega
  have ne3 : sb ≠ w.heap.size + 1 + 1 + 1 := by omega
  have c1 : w.cell? ⟨sb, 1, none⟩ = some (.map none) := row_cell hat.1 1
  obtain ⟨b', off', hp', hAb, hPb, g, hi⟩ := hel hl0
  cases hp'
  have HI := Lib.hid hi
  have HAb := Lib.hid hAb
  have HPb := Lib.hid hPb
  have hFb : ∀ x, FF x → x ≠ b := fun x hx e => hFS x hx (e ▸ hAb)
  obtain ⟨big, hbig⟩ : ∃ big, big = decide (64 < (l : Int)) := ⟨_, rfl⟩
  have hbig' : decide (64 < (l : Int)) = big := hbig.symm
  have HBIG := Lib.hid hbig
  clear hbig
  have lk := look_row
  have HAT := Lib.hid hat
  have HB := Lib.hid hB
  have HP := Lib.hid hvp
  have HLV := Lib.hid hv
  have HL := Lib.hid hl
  have HFS := Lib.hid hFS
  have HFB := Lib.hid hFb
  clear hat hB hvp hv hl hel hi hFS hPb hAb hFb
  have hl0' : ((l : Int) == 0) = false := by rw [beq_eq_false_iff_ne]; omega
  have hl0'' : (l == 0) = false := by rw [beq_eq_false_iff_ne]; omega
  have hlev' : ¬ (64 < (lev : Int)) := by omega
  go_enter Try.func104, Try.ntmps104
  go_wp2
  go_region
  go_wp2
  have RS := Lib.hid (row_alloc w #[.bool false, .bool false, .int .i64 0, .int .i64 0] 119)
  have RM := Lib.hid (row_alloc (w.alloc (.cells #[.bool false, .bool false, .int .i64 0, .int .i64 0] 119)) #[.bool false, .bool big, .int .i64 1, .int .i64 2] 119)
  have RK := Lib.hid (row_alloc ((w.alloc (.cells #[.bool false, .bool false, .int .i64 0, .int .i64 0] 119)).alloc (.cells #[.bool false, .bool big, .int .i64 1, .int .i64 2] 119)) #[.pointer (some ⟨b, off, none⟩), .int .i64 l] 152)
  simp only [World.size_alloc] at RM RK
  go_loopw [43] (fun i wr => ∃ (k : Nat) (vis' : Int) (mv' : Value) (q : Me), k ≤ l ∧ i = .int .i64 k ∧ Hid (q = (L.take k).foldl (fun a x => withM a (measD n lev x)) (false, big, 1, 2)) ∧ Hid (LsM w0 w wr sb (.map none) mv' vis vis' ((L.take k).foldl (fun a x => a + partsT n x) 0) (fun x => FF x ∨ (A x ∧ x ≠ b ∧ g x < k)) q ⟨b, off, none⟩ l)) (fun i _ => l - (intOf i).toNat)
  case atStart =>
    refine ⟨0, vis, .map none, (false, big, 1, 2), by omega, rfl, Lib.hid rfl, Lib.hid ⟨?_, Or.inl rfl, ?_, by omega, by omega, ?_, ?_, ?_⟩⟩
    · exact kp_drew (kp_alloc (kp_alloc (kp_alloc (kp_alloc (kp_refl _ _ _) _) _) _) _)
    · exact mvat_mono (fun x hx => Or.inl hx) (mvat_alloc (mvat_alloc (mvat_alloc (mvat_alloc HAT.out _) _) _) _)
    · exact row_alloc_step (row_alloc_step (row_alloc_step RS.out _) _) _
    · exact row_alloc_step (row_alloc_step RM.out _) _
    · exact row_alloc_step RK.out _
  case round =>
    obtain ⟨k, vis', mv', q, hk, rfl, HQ, HLST⟩ := hrel
    clear RS RM RK c0 c1 lk
    have hwr : w.heap.size + 1 + 1 < wr.heap.size := row_lt HLST.out.2.2.2.2.2.2.2
    have hrm := HLST.out.2.2.2.2.2.2.1
    have m0 := row_cell hrm 0
    have m1 := row_cell hrm 1
    have m2 := row_cell hrm 2
    have m3 := row_cell hrm 3
    simp only [List.getElem?_toArray, List.getElem?_cons_zero, List.getElem?_cons_succ] at m0 m1 m2 m3
    have hmf := fun o => row_frz hrm o
    obtain ⟨q1, q2, q3, q4⟩ := q
    have hmne : w.heap.size + 1 ≠ wr.heap.size := by omega
    have hmne' : wr.heap.size ≠ w.heap.size + 1 := by omega
    have hmlt : w.heap.size + 1 < wr.heap.size := by omega
    by_cases hlt2 : k < l
    · have hkl : k < L.length := by have := HL.out; omega
      obtain ⟨v0, v1, v2, v3, v4, d0, d1, d2, d3, d4, hr⟩ := HI.out k hkl
      obtain ⟨K5, I5, F5, S5, p5, l5, c5, he5, _⟩ := repS_shape hr
      simp only [Value.agg.injEq, Array.mk.injEq, List.cons.injEq, and_true] at he5
      obtain ⟨rfl, rfl, rfl, rfl, rfl⟩ := he5
      have HBW := Lib.hid (kp_below HB.out hs HAT.out HLST.out.1)
      have e0 := cell_keep HBW.out d0
      have e1 := cell_keep HBW.out d1
      have e2 := cell_keep HBW.out d2
      have e3 := cell_keep HBW.out d3
      have e4 := cell_keep HBW.out d4
      have HR := Lib.hid hr
      have hvv : 0 ≤ vis' := by have := HLST.out.2.2.2.1; omega
      have HPK := Lib.hid (show vis' + partsT n L[k] ≤ 1000000 by
        have h1 := HLST.out.2.2.2.2.1
        have h2 := parts_prefix L k hkl 0
        have h3 := HP.out
        omega)
      have HLD := Lib.hid (lsm_drew (lsm_bel HLST.out ((Below.refl wr.heap.size wr).alloc (Nat.le_refl _) (.cells #[.int .i64 K5, .int .i64 I5, .float .f64 F5, .string S5, .slice p5 l5 c5] 47))))
      have HBD := Lib.hid (kp_below HB.out hs HAT.out HLD.out.1)
      have HDJ := Lib.hid (show ∀ x, (FF x ∨ (A x ∧ x ≠ b ∧ g x < k)) → ¬ (A x ∧ x ≠ b ∧ g x = k) from fun x hx hy => by
        rcases hx with hx | hx
        · exact HFS.out x hx hy.1
        · have := hx.2.2; have := hy.2.2; omega)
      have HTK := Lib.hid (show withM ((L.take k).foldl (fun a x => withM a (measD n lev x)) (false, big, 1, 2)) (measD n lev L[k]) = (L.take (k + 1)).foldl (fun a x => withM a (measD n lev x)) (false, big, 1, 2) by rw [List.take_succ_eq_append_getElem hkl, List.foldl_append]; rfl)
      have HPT := Lib.hid (show (L.take k).foldl (fun a x => a + partsT n x) 0 + partsT n L[k] = (L.take (k + 1)).foldl (fun a x => a + partsT n x) 0 by rw [List.take_succ_eq_append_getElem hkl, List.foldl_append]; rfl)
      clear d0 d1 d2 d3 d4 hr hrm
      go_wp2
      go_region_with (first
        | (go_at_call 94; refine (HLV.out L[k] _ lev vis' w0 _ sb mv' _ _ HR.out HBD.out hs HDJ.out HLD.out.2.2.1 (by omega) hvv HPK.out).mono ?_; rintro e w1 ⟨rfl, hsv⟩; obtain ⟨mv2, vis2, hl2⟩ := lsm_sv HLD.out hlt hsv; have HL2 := Lib.hid hl2; have hm2 := HL2.out.2.2.2.2.2.2.1; have n0 := row_cell hm2 0; have n1 := row_cell hm2 1; have n2 := row_cell hm2 2; have n3 := row_cell hm2 3; simp only [List.getElem?_toArray, List.getElem?_cons_zero, List.getElem?_cons_succ] at n0 n1 n2 n3; have nz := row_lt hm2; clear hsv hl2 hm2)
        | (go_at_call 110; refine (with_me _ _ _ _ _ _).mono ?_; rintro e w2 ⟨rfl, hb2⟩; have HL3 := Lib.hid (lsm_bel HL2.out hb2); have hm3 := HL3.out.2.2.2.2.2.2.1; have o0 := row_cell hm3 0; have o1 := row_cell hm3 1; have o2 := row_cell hm3 2; have o3 := row_cell hm3 3; simp only [List.getElem?_toArray, List.getElem?_cons_zero, List.getElem?_cons_succ] at o0 o1 o2 o3; have of := fun o => row_frz hm3 o; clear hb2 hm3 n0 n1 n2 n3))
      all_goals
        have HEND := Lib.hid (lsm_mono (F' := fun x => FF x ∨ (A x ∧ x ≠ b ∧ g x < k + 1)) (fun x hx => by
          rcases hx with (hx | ⟨x1, x2, x3⟩) | ⟨x1, x2, x3⟩
          · exact Or.inl hx
          · exact Or.inr ⟨x1, x2, by omega⟩
          · exact Or.inr ⟨x1, x2, by omega⟩) (lsm_set HL3.out hlt (withM (q1, q2, q3, q4) (measD n lev L[k]))))
        clear m0 m1 m2 m3 hmf e0 e1 e2 e3 e4 o0 o1 o2 o3 of
        go_wp2
        go_roundw
        case rel => exact ⟨k + 1, vis2, mv2, withM (q1, q2, q3, q4) (measD n lev L[k]), by omega, by go_num, Lib.hid (by rw [← HTK.out, ← HQ.out]), Lib.hid (by rw [← HPT.out]; exact HEND.out)⟩
        case measure => simp [intOf]; omega
    · have hkl : L.take k = L := List.take_of_length_le (by have := HL.out; omega)
      have HQ2 := Lib.hid (show Ending.returned (meV (q1, q2, q3, q4)) = .returned (meV (measDL n lev L)) by
        have h1 := HQ.out
        rw [hkl] at h1
        rw [measDL_in (by omega), h1, HL.out, hbig'])
      have HLE := Lib.hid (show LsM w0 w wr sb (.map none) mv' vis vis' (L.foldl (fun a x => a + partsT n x) 0) (fun x => FF x ∨ (A x ∧ x ≠ b ∧ g x < k)) (q1, q2, q3, q4) ⟨b, off, none⟩ l by have := HLST.out; rw [hkl] at this; exact this)
      have hk0 := row_cell HLST.out.2.2.2.2.2.2.2 0
      have hk1 := row_cell HLST.out.2.2.2.2.2.2.2 1
      simp only [List.getElem?_toArray, List.getElem?_cons_zero, List.getElem?_cons_succ] at hk0 hk1
      have HBW := Lib.hid (kp_below HB.out hs HAT.out HLST.out.1)
      clear hrm hkl HLST
      go_wp2_with fail
      go_at_call 111; refine (sm_keep ⟨b, off, none⟩ _ _ _ _ _ _ _ vis' mv' w0 _ HBW.out HLE.out.2.2.1 hs HPb.out (fun x hx => by
        rcases hx with hx | hx
        · exact HFB.out x hx
        · exact hx.2.1)).mono ?_; rintro e w1 ⟨rfl, hk2, mv2, hto, hat2⟩
      have HK2 := Lib.hid hk2
      have HTO := Lib.hid hto
      have HAT2 := Lib.hid hat2
      have HRM := Lib.hid (row_kp HK2.out HLE.out.2.2.1 HLE.out.2.2.2.2.2.2.1 (by omega))
      have HRS := Lib.hid (row_kp HK2.out HLE.out.2.2.1 HLE.out.2.2.2.2.2.1 (by omega))
      have hrm1 := HRM.out
      have hrs1 := HRS.out
      have n0 := row_cell hrm1 0
      have n1 := row_cell hrm1 1
      have n2 := row_cell hrm1 2
      have n3 := row_cell hrm1 3
      have s0 := row_cell hrs1 0
      have s1 := row_cell hrs1 1
      have s2 := row_cell hrs1 2
      have s3 := row_cell hrs1 3
      simp only [List.getElem?_toArray, List.getElem?_cons_zero, List.getElem?_cons_succ] at n0 n1 n2 n3 s0 s1 s2 s3
      have sf := fun o => row_frz hrs1 o
      clear hk2 hto hat2 hrm1 hrs1 m0 m1 m2 m3 hmf hk0 hk1
      go_wp2
      refine bodyPost_ret (v := .agg #[.bool q1, .bool q2, .int .i64 q3, .int .i64 q4]) (by simp [results, Try.results104, go_sem, World.cell?_setCell_same, World.cell?_setCell_other, s0, s1, s2, s3]) rfl ⟨HQ2.out, ?_⟩
      exact svr_set4 ⟨kp_trans HLE.out.1 HLE.out.2.1 HK2.out, vis', mv2, HLE.out.2.2.2.1, HLE.out.2.2.2.2.1, mvto_trans HLE.out.2.1 HLE.out.1.size HTO.out, mvat_mono (fun x hx => by
        rcases hx with (hx | hx) | hx
        · exact Or.inl hx
        · exact Or.inr hx.1
        · exact Or.inr (by rw [hx]; exact HAb.out)) HAT2.out⟩ (Nat.le_refl _) (by omega) (fun cs t e => by rw [HRS.out] at e; cases e) _ _ _ _
set_option maxHeartbeats 4000000 in
theorem sm_list_some (n : Nat) (hv : SmValue n) : ∀ (L : List (VT n)) (b off l c : Nat) (lev : Nat) (vis : Int) (w0 w : World) (sb : Nat) (mb : Nat) (A FF : Nat → Prop), RepLS A w0 (RepC w0 n) (some ⟨b, off, none⟩) l c L → Below w0.heap.size w0 w → w0.heap.size ≤ sb → (∀ b, FF b → ¬ A b) → MvAt w0 w sb vis (.map (some mb)) FF → lev ≤ 64 → 0 ≤ vis → vis + (L.foldl (fun a x => a + partsT n x) 0 : Nat) ≤ 1000000 → 0 < l →
    Calls Try.prog 104 #[.pointer (some ⟨sb, 0, none⟩), .slice (some ⟨b, off, none⟩) l c, .int .i64 lev] w fun e w' => e = .returned (meV (measDL n lev L)) ∧ SvR w0 w w' sb (.map (some mb)) vis (L.foldl (fun a x => a + partsT n x) 0) (fun b => FF b ∨ A b) := by
  intro L b off l c lev vis w0 w sb mb A FF hr hB hs hFS hat hlev hv0 hvp hl0
  obtain ⟨hl, hlc, hcm, hel⟩ := hr
  unfold maxLen at hcm
  have c0 : w.cell? ⟨sb, 0, none⟩ = some (.int .i64 vis) := row_cell hat.1 0
  have hlt := row_lt hat.1
  have hne : sb ≠ w.heap.size := by omega
  have hne' : w.heap.size ≠ sb := by omega
  have lt1 : sb < w.heap.size + 1 := by omega
  have lt2 : sb < w.heap.size + 1 + 1 := by omega
  have lt3 : sb < w.heap.size + 1 + 1 + 1 := by omega
  have ne1 : sb ≠ w.heap.size + 1 := by omega
  have ne2 : sb ≠ w.heap.size + 1 + 1 := by omega
  have ne3 : sb ≠ w.heap.size + 1 + 1 + 1 := by omega
  have c1 : w.cell? ⟨sb, 1, none⟩ = some (.map (some mb)) := row_cell hat.1 1
  obtain ⟨b', off', hp', hAb, hPb, g, hi⟩ := hel hl0
  cases hp'
  have HI := Lib.hid hi
  have HAb := Lib.hid hAb
  have HPb := Lib.hid hPb
  have hFb : ∀ x, FF x → x ≠ b := fun x hx e => hFS x hx (e ▸ hAb)
  obtain ⟨big, hbig⟩ : ∃ big, big = decide (64 < (l : Int)) := ⟨_, rfl⟩
  have hbig' : decide (64 < (l : Int)) = big := hbig.symm
  have HBIG := Lib.hid hbig
  clear hbig
  have lk : ∀ W : World, Below w.heap.size w W →
      (Instr.lookup 128 (.map (some mb)) (.agg #[.pointer (some ⟨b, off, none⟩), .int .i64 l]) true).run Try.prog W = .ok (.tuple #[.agg #[.bool false, .bool false, .int .i64 0, .int .i64 0], .bool false]) W := by
    intro W hWB
    rcases hat.2 with e | ⟨mb', es, ck, e, h1, h2, h3, h4⟩
    · cases e
    · cases e
      exact look_miss _ mb es ck ⟨b, off, none⟩ l (row_step h3 hWB) (pln_now hPb (hB.trans (hWB.mono hB.size))) (memo_mono hFb (memo_now h4 (hB.trans (hWB.mono hB.size))))
  have lk1 := lk (((w.alloc (.cells #[.bool false, .bool false, .int .i64 0, .int .i64 0] 119)).alloc (.cells #[.bool false, .bool big, .int .i64 1, .int .i64 2] 119)).alloc (.cells #[.pointer (some ⟨b, off, none⟩), .int .i64 l] 152)).drew (Below.drew (below3 _ _ _ _))
  have lk2 := lk ((((w.alloc (.cells #[.bool false, .bool false, .int .i64 0, .int .i64 0] 119)).alloc (.cells #[.bool false, .bool big, .int .i64 1, .int .i64 2] 119)).alloc (.cells #[.pointer (some ⟨b, off, none⟩), .int .i64 l] 152)).alloc (.cells #[.bool false, .bool false, .int .i64 0, .int .i64 0] 119)).drew (Below.drew ((below3 _ _ _ _).alloc (by simp; omega) _))
  clear lk
  have HAT := Lib.hid hat
  have HB := Lib.hid hB
  have HP := Lib.hid hvp
  have HLV := Lib.hid hv
  have HL := Lib.hid hl
  have HFS := Lib.hid hFS
  have HFB := Lib.hid hFb
  clear hat hB hvp hv hl hel hi hFS hPb hAb hFb
  have hl0' : ((l : Int) == 0) = false := by rw [beq_eq_false_iff_ne]; omega
  have hl0'' : (l == 0) = false := by rw [beq_eq_false_iff_ne]; omega
  have hlev' : ¬ (64 < (lev : Int)) := by omega
  go_enter Try.func104, Try.ntmps104
  go_wp2
  go_region
  all_goals
    go_wp2
    have RS := Lib.hid (row_alloc w #[.bool false, .bool false, .int .i64 0, .int .i64 0] 119)
    have RM := Lib.hid (row_alloc (w.alloc (.cells #[.bool false, .bool false, .int .i64 0, .int .i64 0] 119)) #[.bool false, .bool big, .int .i64 1, .int .i64 2] 119)
    have RK := Lib.hid (row_alloc ((w.alloc (.cells #[.bool false, .bool false, .int .i64 0, .int .i64 0] 119)).alloc (.cells #[.bool false, .bool big, .int .i64 1, .int .i64 2] 119)) #[.pointer (some ⟨b, off, none⟩), .int .i64 l] 152)
    simp only [World.size_alloc] at RM RK
    go_loopw [43] (fun i wr => ∃ (k : Nat) (vis' : Int) (mv' : Value) (q : Me), k ≤ l ∧ i = .int .i64 k ∧ Hid (q = (L.take k).foldl (fun a x => withM a (measD n lev x)) (false, big, 1, 2)) ∧ Hid (LsM w0 w wr sb (.map (some mb)) mv' vis vis' ((L.take k).foldl (fun a x => a + partsT n x) 0) (fun x => FF x ∨ (A x ∧ x ≠ b ∧ g x < k)) q ⟨b, off, none⟩ l)) (fun i _ => l - (intOf i).toNat)
    case atStart =>
      refine ⟨0, vis, .map (some mb), (false, big, 1, 2), by omega, rfl, Lib.hid rfl, Lib.hid ⟨?_, Or.inl rfl, ?_, by omega, by omega, ?_, ?_, ?_⟩⟩
      · exact kp_drew (kp_alloc (kp_alloc (kp_alloc (kp_alloc (kp_refl _ _ _) _) _) _) _)
      · exact mvat_mono (fun x hx => Or.inl hx) (mvat_alloc (mvat_alloc (mvat_alloc (mvat_alloc HAT.out _) _) _) _)
      · exact row_alloc_step (row_alloc_step (row_alloc_step RS.out _) _) _
      · exact row_alloc_step (row_alloc_step RM.out _) _
      · exact row_alloc_step RK.out _
    case round =>
      obtain ⟨k, vis', mv', q, hk, rfl, HQ, HLST⟩ := hrel
      clear RS RM RK c0 c1 lk1 lk2
      have hwr : w.heap.size + 1 + 1 < wr.heap.size := row_lt HLST.out.2.2.2.2.2.2.2
      have hrm := HLST.out.2.2.2.2.2.2.1
      have m0 := row_cell hrm 0
      have m1 := row_cell hrm 1
      have m2 := row_cell hrm 2
      have m3 := row_cell hrm 3
      simp only [List.getElem?_toArray, List.getElem?_cons_zero, List.getElem?_cons_succ] at m0 m1 m2 m3
      have hmf := fun o => row_frz hrm o
      obtain ⟨q1, q2, q3, q4⟩ := q
      have hmne : w.heap.size + 1 ≠ wr.heap.size := by omega
      have hmne' : wr.heap.size ≠ w.heap.size + 1 := by omega
      have hmlt : w.heap.size + 1 < wr.heap.size := by omega
      by_cases hlt2 : k < l
      · have hkl : k < L.length := by have := HL.out; omega
        obtain ⟨v0, v1, v2, v3, v4, d0, d1, d2, d3, d4, hr⟩ := HI.out k hkl
        obtain ⟨K5, I5, F5, S5, p5, l5, c5, he5, _⟩ := repS_shape hr
        simp only [Value.agg.injEq, Array.mk.injEq, List.cons.injEq, and_true] at he5
        obtain ⟨rfl, rfl, rfl, rfl, rfl⟩ := he5
        have HBW := Lib.hid (kp_below HB.out hs HAT.out HLST.out.1)
        have e0 := cell_keep HBW.out d0
        have e1 := cell_keep HBW.out d1
        have e2 := cell_keep HBW.out d2
        have e3 := cell_keep HBW.out d3
        have e4 := cell_keep HBW.out d4
        have HR := Lib.hid hr
        have hvv : 0 ≤ vis' := by have := HLST.out.2.2.2.1; omega
        have HPK := Lib.hid (show vis' + partsT n L[k] ≤ 1000000 by
          have h1 := HLST.out.2.2.2.2.1
          have h2 := parts_prefix L k hkl 0
          have h3 := HP.out
          omega)
        have HLD := Lib.hid (lsm_drew (lsm_bel HLST.out ((Below.refl wr.heap.size wr).alloc (Nat.le_refl _) (.cells #[.int .i64 K5, .int .i64 I5, .float .f64 F5, .string S5, .slice p5 l5 c5] 47))))
        have HBD := Lib.hid (kp_below HB.out hs HAT.out HLD.out.1)
        have HDJ := Lib.hid (show ∀ x, (FF x ∨ (A x ∧ x ≠ b ∧ g x < k)) → ¬ (A x ∧ x ≠ b ∧ g x = k) from fun x hx hy => by
          rcases hx with hx | hx
          · exact HFS.out x hx hy.1
          · have := hx.2.2; have := hy.2.2; omega)
        have HTK := Lib.hid (show withM ((L.take k).foldl (fun a x => withM a (measD n lev x)) (false, big, 1, 2)) (measD n lev L[k]) = (L.take (k + 1)).foldl (fun a x => withM a (measD n lev x)) (false, big, 1, 2) by rw [List.take_succ_eq_append_getElem hkl, List.foldl_append]; rfl)
        have HPT := Lib.hid (show (L.take k).foldl (fun a x => a + partsT n x) 0 + partsT n L[k] = (L.take (k + 1)).foldl (fun a x => a + partsT n x) 0 by rw [List.take_succ_eq_append_getElem hkl, List.foldl_append]; rfl)
        clear d0 d1 d2 d3 d4 hr hrm
        go_wp2
        go_region_with (first
          | (go_at_call 94; refine (HLV.out L[k] _ lev vis' w0 _ sb mv' _ _ HR.out HBD.out hs HDJ.out HLD.out.2.2.1 (by omega) hvv HPK.out).mono ?_; rintro e w1 ⟨rfl, hsv⟩; obtain ⟨mv2, vis2, hl2⟩ := lsm_sv HLD.out hlt hsv; have HL2 := Lib.hid hl2; have hm2 := HL2.out.2.2.2.2.2.2.1; have n0 := row_cell hm2 0; have n1 := row_cell hm2 1; have n2 := row_cell hm2 2; have n3 := row_cell hm2 3; simp only [List.getElem?_toArray, List.getElem?_cons_zero, List.getElem?_cons_succ] at n0 n1 n2 n3; have nz := row_lt hm2; clear hsv hl2 hm2)
          | (go_at_call 110; refine (with_me _ _ _ _ _ _).mono ?_; rintro e w2 ⟨rfl, hb2⟩; have HL3 := Lib.hid (lsm_bel HL2.out hb2); have hm3 := HL3.out.2.2.2.2.2.2.1; have o0 := row_cell hm3 0; have o1 := row_cell hm3 1; have o2 := row_cell hm3 2; have o3 := row_cell hm3 3; simp only [List.getElem?_toArray, List.getElem?_cons_zero, List.getElem?_cons_succ] at o0 o1 o2 o3; have of := fun o => row_frz hm3 o; clear hb2 hm3 n0 n1 n2 n3))
        all_goals
          have HEND := Lib.hid (lsm_mono (F' := fun x => FF x ∨ (A x ∧ x ≠ b ∧ g x < k + 1)) (fun x hx => by
            rcases hx with (hx | ⟨x1, x2, x3⟩) | ⟨x1, x2, x3⟩
            · exact Or.inl hx
            · exact Or.inr ⟨x1, x2, by omega⟩
            · exact Or.inr ⟨x1, x2, by omega⟩) (lsm_set HL3.out hlt (withM (q1, q2, q3, q4) (measD n lev L[k]))))
          clear m0 m1 m2 m3 hmf e0 e1 e2 e3 e4 o0 o1 o2 o3 of
          go_wp2
          go_roundw
          case rel => exact ⟨k + 1, vis2, mv2, withM (q1, q2, q3, q4) (measD n lev L[k]), by omega, by go_num, Lib.hid (by rw [← HTK.out, ← HQ.out]), Lib.hid (by rw [← HPT.out]; exact HEND.out)⟩
          case measure => simp [intOf]; omega
      · have hkl : L.take k = L := List.take_of_length_le (by have := HL.out; omega)
        have HQ2 := Lib.hid (show Ending.returned (meV (q1, q2, q3, q4)) = .returned (meV (measDL n lev L)) by
          have h1 := HQ.out
          rw [hkl] at h1
          rw [measDL_in (by omega), h1, HL.out, hbig'])
        have HLE := Lib.hid (show LsM w0 w wr sb (.map (some mb)) mv' vis vis' (L.foldl (fun a x => a + partsT n x) 0) (fun x => FF x ∨ (A x ∧ x ≠ b ∧ g x < k)) (q1, q2, q3, q4) ⟨b, off, none⟩ l by have := HLST.out; rw [hkl] at this; exact this)
        have hk0 := row_cell HLST.out.2.2.2.2.2.2.2 0
        have hk1 := row_cell HLST.out.2.2.2.2.2.2.2 1
        simp only [List.getElem?_toArray, List.getElem?_cons_zero, List.getElem?_cons_succ] at hk0 hk1
        have HBW := Lib.hid (kp_below HB.out hs HAT.out HLST.out.1)
        clear hrm hkl HLST
        go_wp2_with fail
        go_at_call 111; refine (sm_keep ⟨b, off, none⟩ _ _ _ _ _ _ _ vis' mv' w0 _ HBW.out HLE.out.2.2.1 hs HPb.out (fun x hx => by
          rcases hx with hx | hx
          · exact HFB.out x hx
          · exact hx.2.1)).mono ?_; rintro e w1 ⟨rfl, hk2, mv2, hto, hat2⟩
        have HK2 := Lib.hid hk2
        have HTO := Lib.hid hto
        have HAT2 := Lib.hid hat2
        have HRM := Lib.hid (row_kp HK2.out HLE.out.2.2.1 HLE.out.2.2.2.2.2.2.1 (by omega))
        have HRS := Lib.hid (row_kp HK2.out HLE.out.2.2.1 HLE.out.2.2.2.2.2.1 (by omega))
        have hrm1 := HRM.out
        have hrs1 := HRS.out
        have n0 := row_cell hrm1 0
        have n1 := row_cell hrm1 1
        have n2 := row_cell hrm1 2
        have n3 := row_cell hrm1 3
        have s0 := row_cell hrs1 0
        have s1 := row_cell hrs1 1
        have s2 := row_cell hrs1 2
        have s3 := row_cell hrs1 3
        simp only [List.getElem?_toArray, List.getElem?_cons_zero, List.getElem?_cons_succ] at n0 n1 n2 n3 s0 s1 s2 s3
        have sf := fun o => row_frz hrs1 o
        clear hk2 hto hat2 hrm1 hrs1 m0 m1 m2 m3 hmf hk0 hk1
        go_wp2
        refine bodyPost_ret (v := .agg #[.bool q1, .bool q2, .int .i64 q3, .int .i64 q4]) (by simp [results, Try.results104, go_sem, World.cell?_setCell_same, World.cell?_setCell_other, s0, s1, s2, s3]) rfl ⟨HQ2.out, ?_⟩
        exact svr_set4 ⟨kp_trans HLE.out.1 HLE.out.2.1 HK2.out, vis', mv2, HLE.out.2.2.2.1, HLE.out.2.2.2.2.1, mvto_trans HLE.out.2.1 HLE.out.1.size HTO.out, mvat_mono (fun x hx => by
          rcases hx with (hx | hx) | hx
          · exact Or.inl hx
          · exact Or.inr hx.1
          · exact Or.inr (by rw [hx]; exact HAb.out)) HAT2.out⟩ (Nat.le_refl _) (by omega) (fun cs t e => by rw [HRS.out] at e; cases e) _ _ _ _
set_option maxHeartbeats 4000000 in
theorem sm_list_of (n : Nat) (hv : SmValue n) : SmList n := by
  intro L p l c lev vis w0 w sb mv A FF hr hB hs hFS hat hlev hv0 hvp
  obtain ⟨hl, hlc, hcm, hel⟩ := hr
  unfold maxLen at hcm
  have c0 : w.cell? ⟨sb, 0, none⟩ = some (.int .i64 vis) := row_cell hat.1 0
  have hlt := row_lt hat.1
  have hne : sb ≠ w.heap.size := by omega
  have hne' : w.heap.size ≠ sb := by omega
  have lt1 : sb < w.heap.size + 1 := by omega
  have lt2 : sb < w.heap.size + 1 + 1 := by omega
  have lt3 : sb < w.heap.size + 1 + 1 + 1 := by omega
  have ne1 : sb ≠ w.heap.size + 1 := by omega
  have ne2 : sb ≠ w.heap.size + 1 + 1 := by omega
  have ne3 : sb ≠ w.heap.size + 1 + 1 + 1 := by omega
  have HAT := Lib.hid hat
  have HB := Lib.hid hB
  have HP := Lib.hid hvp
  have HLV := Lib.hid hv
  have HL := Lib.hid hl
  have HFS := Lib.hid hFS
  by_cases hl0 : 0 < l
  · obtain ⟨b, off, hp, _⟩ := hel hl0
    subst hp
    by_cases hdeep : 64 < lev
    · have hl0' : ((l : Int) == 0) = false := by rw [beq_eq_false_iff_ne]; omega
      have hlev' : 64 < (lev : Int) := by omega
      obtain ⟨big, hbig⟩ : ∃ big, big = decide (64 < (l : Int)) := ⟨_, rfl⟩
      have hbig' : decide (64 < (l : Int)) = big := hbig.symm
      have HF := Lib.hid (show Ending.returned (meV (false, big, 1, 2)) = .returned (meV (measDL n lev L)) by rw [measDL_deep hdeep, hl, hbig])
      have HS := Lib.hid (show SvR w0 w (((w.alloc (.cells #[.bool false, .bool big, .int .i64 1, .int .i64 2] 119)).alloc (.cells #[.bool false, .bool big, .int .i64 1, .int .i64 2] 119))) sb mv vis (L.foldl (fun a x => a + partsT n x) 0) (fun b => FF b ∨ A b) from ⟨kp_alloc (kp_alloc (kp_refl _ _ _) _) _, vis, mv, by omega, by omega, Or.inl rfl, mvat_mono (fun b hb => Or.inl hb) (mvat_alloc (mvat_alloc HAT.out _) _)⟩)
      clear c0 hat hB hvp hv hl hel hFS hbig
      go_enter Try.func104, Try.ntmps104
      go_wp2
      exact bodyPost_ret (v := .agg #[.bool false, .bool big, .int .i64 1, .int .i64 2]) (by simp [results, Try.results104, go_sem]) rfl ⟨HF.out, HS.out⟩
    · rcases hat.2 with e | ⟨mb, es, ck, e, _⟩
      · subst e; exact sm_list_none n hv L b off l c lev vis w0 w sb A FF ⟨hl, hlc, by unfold maxLen; omega, hel⟩ hB hs hFS hat (by omega) hv0 hvp hl0
      · subst e; exact sm_list_some n hv L b off l c lev vis w0 w sb mb A FF ⟨hl, hlc, by unfold maxLen; omega, hel⟩ hB hs hFS hat (by omega) hv0 hvp hl0
  · obtain rfl : l = 0 := by omega
    obtain rfl : L = [] := List.length_eq_zero_iff.1 HL.out
    have h0 : ¬ (64 < ((0 : Nat) : Int)) := by omega
    have HF := Lib.hid (show Ending.returned (meV (false, false, 1, 2)) = .returned (meV (measDL n lev ([] : List (VT n)))) by rw [measDL_nil])
    have HS := Lib.hid (show SvR w0 w (((w.alloc (.cells #[.bool false, .bool false, .int .i64 1, .int .i64 2] 119)).alloc (.cells #[.bool false, .bool false, .int .i64 1, .int .i64 2] 119))) sb mv vis (([] : List (VT n)).foldl (fun a x => a + partsT n x) 0) (fun b => FF b ∨ A b) from ⟨kp_alloc (kp_alloc (kp_refl _ _ _) _) _, vis, mv, by omega, by omega, Or.inl rfl, mvat_mono (fun b hb => Or.inl hb) (mvat_alloc (mvat_alloc HAT.out _) _)⟩)
    clear c0 hat hB hvp hv hl hel hFS
    go_enter Try.func104, Try.ntmps104
    go_wp2
    exact bodyPost_ret (v := .agg #[.bool false, .bool false, .int .i64 1, .int .i64 2]) (by simp [results, Try.results104, go_sem]) rfl ⟨HF.out, HS.out⟩
theorem sm_all : ∀ n, SmValue n ∧ SmList n := by
  intro n
  induction n with
  | zero => exact ⟨sm_value_zero, sm_list_of 0 sm_value_zero⟩
  | succ n ih => exact ⟨sm_value_succ n ih.2, sm_list_of (n + 1) (sm_value_succ n ih.2)⟩
end Num
end Go.Proofs.Ytomfgncbdgifoaa
/-
  What is read of bytes: the program's way and the reference's come to the same: plain facts.
-/
namespace Go.Proofs.Ytomfgncbdgifoaa
open Go.RowKit
namespace Num
open Ints
set_option linter.unusedSimpArgs false
set_option linter.unusedVariables false
/-- Are all kinds right? -/
def kindsT : (n : Nat) → VT n → Bool
  | 0, _ => true
  | n + 1, T => if (decide (T.1 < 0) || decide (4 < T.1)) = true then false else if (T.1 == 4) = true then T.2.2.2.2.all (kindsT n) else true
/-- Is a part too great, in d lists? -/
def greatT : (n : Nat) → Nat → VT n → Bool
  | 0, _, _ => false
  | n + 1, d, T => if (T.1 == 3) = true then decide (256 < (T.2.2.2.1.size : Int)) else if (T.1 == 4) = true then (decide (8 ≤ d) || decide (64 < (T.2.2.2.2.length : Int)) || T.2.2.2.2.any (greatT n (d + 1))) else false
/-- What the reference reads of a list, its count ahead. -/
def refR {α : Type} (dec : List Int → Option (α × Nat)) : List Int → Option (List α × Nat)
  | [] => none
  | m :: R => if 64 < m.toNat then none else match decL dec m.toNat R with
    | none => none
    | some (L, j) => some (L, 1 + j)
/-- What the reference reads. -/
def refV : (n : Nat) → Nat → List Int → Option (VT n × Nat)
  | 0, _, _ => none
  | n + 1, _, [] => none
  | n + 1, d, k :: R =>
    if 8 < d then none
    else if (k == 0) = true then some ((0, 0, 0, ⟨#[]⟩, []), 1)
    else if (k == 1) = true then (if 8 ≤ R.length then some ((1, wrap64 (rdU (R.take 8)), 0, ⟨#[]⟩, []), 9) else none)
    else if (k == 2) = true then (if 8 ≤ R.length ∧ Flo.canon (rdU (R.take 8)).toNat = (rdU (R.take 8)).toNat then some ((2, 0, (rdU (R.take 8)).toNat, ⟨#[]⟩, []), 9) else none)
    else if (k == 3) = true then (if 2 ≤ R.length ∧ (rdU (R.take 2)).toNat ≤ 256 ∧ 2 + (rdU (R.take 2)).toNat ≤ R.length then some ((3, 0, 0, strB ((R.drop 2).take (rdU (R.take 2)).toNat), []), 3 + (rdU (R.take 2)).toNat) else none)
    else if (k == 4) = true then (match refR (refV n (d + 1)) R with | none => none | some (L, j) => some ((4, 0, 0, ⟨#[]⟩, L), 1 + j))
    else none
/-- What both ask of how deep lists stand, and how long they are, as they read. -/
def limT : (n : Nat) → Nat → VT n → Prop
  | 0, _, _ => True
  | n + 1, d, T => d ≤ 8 ∧ ((T.1 == 4) = true → T.2.2.2.2.length ≤ 64 ∧ ∀ x ∈ T.2.2.2.2, limT n (d + 1) x)
theorem decL_map {α : Type} {f g : List Int → Option (α × Nat)} {Pr : α → Prop} (h : ∀ X T j, f X = some (T, j) → g X = some (T, j) ∧ Pr T) : ∀ m X L k, decL f m X = some (L, k) → decL g m X = some (L, k) ∧ ∀ x ∈ L, Pr x := by
  intro m
  induction m with
  | zero => intro X L k e; cases e; exact ⟨rfl, fun x hx => by cases hx⟩
  | succ m ih =>
    intro X L k e
    rw [decL] at e ⊢
    cases h1 : decL f m X with
    | none => rw [h1] at e; cases e
    | some q =>
      obtain ⟨L1, k1⟩ := q
      rw [h1] at e
      obtain ⟨a, b⟩ := ih X L1 k1 h1
      rw [a]
      cases h2 : f (X.drop k1) with
      | none => simp only [h2] at e; cases e
      | some q =>
        obtain ⟨T, j⟩ := q
        simp only [h2] at e
        obtain ⟨d1, d2⟩ := h _ _ _ h2
        cases e
        refine ⟨by simp only [d1], fun x hx => ?_⟩
        rcases List.mem_append.1 hx with hx | hx
        · exact b x hx
        · rw [List.mem_singleton.1 hx]; exact d2
theorem decL_map' {α : Type} {f g : List Int → Option (α × Nat)} {Pr : α → Prop} (h : ∀ X T j, f X = some (T, j) → Pr T → g X = some (T, j)) : ∀ m X L k, decL f m X = some (L, k) → (∀ x ∈ L, Pr x) → decL g m X = some (L, k) := by
  intro m
  induction m with
  | zero => intro X L k e _; cases e; rfl
  | succ m ih =>
    intro X L k e hP
    rw [decL] at e ⊢
    cases h1 : decL f m X with
    | none => rw [h1] at e; cases e
    | some q =>
      obtain ⟨L1, k1⟩ := q
      rw [h1] at e
      cases h2 : f (X.drop k1) with
      | none => simp only [h2] at e; cases e
      | some q =>
        obtain ⟨T, j⟩ := q
        simp only [h2] at e
        cases e
        rw [ih X L1 k1 h1 (fun x hx => hP x (List.mem_append_left _ hx))]
        have d1 := h _ _ _ h2 (hP T (List.mem_append_right _ (List.mem_singleton.2 rfl)))
        simp only [d1]
/-- What the reference reads, the program reads. -/
theorem ref_dec : ∀ n d X (T : VT n) j, refV n d X = some (T, j) → decV n X = some (T, j) ∧ limT n d T := by
  intro n
  induction n with
  | zero => intro d X T j e; cases e
  | succ n ih =>
    intro d X T j e
    cases X with
    | nil => cases e
    | cons k R =>
      rw [refV] at e
      by_cases h8 : 8 < d
      · rw [if_pos h8] at e; cases e
      rw [if_neg h8] at e
      rw [decV]
      by_cases h0 : (k == 0) = true
      · rw [if_pos h0] at e ⊢; cases e; exact ⟨rfl, by omega, fun h => absurd (show ((0 : Int) == 4) = true from h) (by decide)⟩
      rw [if_neg h0] at e ⊢
      by_cases h1 : (k == 1) = true
      · rw [if_pos h1] at e ⊢
        refine ⟨e, ?_⟩
        split at e
        · cases e; exact ⟨by omega, fun h => absurd (show ((1 : Int) == 4) = true from h) (by decide)⟩
        · cases e
      rw [if_neg h1] at e ⊢
      by_cases h2 : (k == 2) = true
      · rw [if_pos h2] at e ⊢
        refine ⟨e, ?_⟩
        split at e
        · cases e; exact ⟨by omega, fun h => absurd (show ((2 : Int) == 4) = true from h) (by decide)⟩
        · cases e
      rw [if_neg h2] at e ⊢
      by_cases h3 : (k == 3) = true
      · rw [if_pos h3] at e ⊢
        refine ⟨e, ?_⟩
        split at e
        · cases e; exact ⟨by omega, fun h => absurd (show ((3 : Int) == 4) = true from h) (by decide)⟩
        · cases e
      rw [if_neg h3] at e ⊢
      by_cases h4 : (k == 4) = true
      · rw [if_pos h4] at e ⊢
        cases R with
        | nil => cases e
        | cons m R =>
          rw [refR] at e
          by_cases h64 : 64 < m.toNat
          · rw [if_pos h64] at e; cases e
          rw [if_neg h64] at e
          rw [decR]
          cases h6 : decL (refV n (d + 1)) m.toNat R with
          | none => simp only [h6] at e; cases e
          | some q =>
            obtain ⟨L1, k1⟩ := q
            simp only [h6] at e
            cases e
            obtain ⟨a, b⟩ := decL_map (Pr := limT n (d + 1)) (ih (d + 1)) _ _ _ _ h6
            have hlen := (decL_le (decV_le n) _ _ _ _ a).2.2
            rw [a]
            exact ⟨rfl, by omega, fun _ => ⟨by show L1.length ≤ 64; omega, b⟩⟩
      · rw [if_neg h4] at e; cases e
theorem dec_ref : ∀ n d X (T : VT n) j, decV n X = some (T, j) → limT n d T → refV n d X = some (T, j) := by
  intro n
  induction n with
  | zero => intro d X T j e; cases e
  | succ n ih =>
    intro d X T j e hl
    cases X with
    | nil => cases e
    | cons k R =>
      rw [decV] at e
      rw [refV]
      obtain ⟨hd, hl⟩ := hl
      rw [if_neg (by omega)]
      by_cases h0 : (k == 0) = true
      · rw [if_pos h0] at e ⊢; exact e
      rw [if_neg h0] at e ⊢
      by_cases h1 : (k == 1) = true
      · rw [if_pos h1] at e ⊢; exact e
      rw [if_neg h1] at e ⊢
      by_cases h2 : (k == 2) = true
      · rw [if_pos h2] at e ⊢; exact e
      rw [if_neg h2] at e ⊢
      by_cases h3 : (k == 3) = true
      · rw [if_pos h3] at e ⊢; exact e
      rw [if_neg h3] at e ⊢
      by_cases h4 : (k == 4) = true
      · rw [if_pos h4] at e ⊢
        cases R with
        | nil => cases e
        | cons m R =>
          rw [decR] at e
          rw [refR]
          cases h6 : decL (decV n) m.toNat R with
          | none => simp only [h6] at e; cases e
          | some q =>
            obtain ⟨L1, k1⟩ := q
            simp only [h6] at e
            cases e
            have hlen := (decL_le (decV_le n) _ _ _ _ h6).2.2
            obtain ⟨b1, b2⟩ := hl (show ((4 : Int) == 4) = true by decide)
            have b1' : L1.length ≤ 64 := b1
            rw [if_neg (by omega), decL_map' (Pr := limT n (d + 1)) (ih (d + 1)) _ _ _ _ h6 b2]
      · rw [if_neg h4] at e; cases e
/-! ### measures -/
section
variable {α : Type} {f : α → Me}
theorem wm_stray (L : List α) : ∀ a : Me, (L.foldl (fun a x => withM a (f x)) a).1 = (a.1 || L.any fun x => (f x).1) := by
  induction L with
  | nil => intro a; simp
  | cons x L ih => intro a; rw [List.foldl_cons, ih, List.any_cons]; show ((a.1 || (f x).1) || _) = _; rw [Bool.or_assoc]
theorem wm_long (L : List α) : ∀ a : Me, (L.foldl (fun a x => withM a (f x)) a).2.1 = (a.2.1 || L.any fun x => (f x).2.1) := by
  induction L with
  | nil => intro a; simp
  | cons x L ih => intro a; rw [List.foldl_cons, ih, List.any_cons]; show ((a.2.1 || (f x).2.1) || _) = _; rw [Bool.or_assoc]
theorem wm_deep (B : Int) (hB : B ≤ 1000000) (L : List α) : (∀ x ∈ L, 0 ≤ (f x).2.2.1 ∧ (f x).2.2.1 ≤ B) → ∀ a : Me, 0 ≤ a.2.2.1 → a.2.2.1 ≤ B + 1 →
    0 ≤ (L.foldl (fun a x => withM a (f x)) a).2.2.1 ∧ (L.foldl (fun a x => withM a (f x)) a).2.2.1 ≤ B + 1 ∧ ∀ k, (L.foldl (fun a x => withM a (f x)) a).2.2.1 ≤ k ↔ a.2.2.1 ≤ k ∧ ∀ x ∈ L, (f x).2.2.1 + 1 ≤ k := by
  induction L with
  | nil => intro _ a h0 h1; exact ⟨h0, h1, fun k => ⟨fun h => ⟨h, fun x hx => by cases hx⟩, fun h => h.1⟩⟩
  | cons x L ih =>
    intro hf a h0 h1
    obtain ⟨x0, x1⟩ := hf x (List.mem_cons_self ..)
    have hw : wrap64 ((f x).2.2.1 + 1) = (f x).2.2.1 + 1 := by unfold wrap64; omega
    have hd : (withM a (f x)).2.2.1 = if a.2.2.1 < (f x).2.2.1 + 1 then (f x).2.2.1 + 1 else a.2.2.1 := by
      show (if a.2.2.1 < wrap64 ((f x).2.2.1 + 1) then wrap64 ((f x).2.2.1 + 1) else a.2.2.1) = _
      rw [hw]
    have hd0 : 0 ≤ (withM a (f x)).2.2.1 := by rw [hd]; split <;> omega
    have hd1 : (withM a (f x)).2.2.1 ≤ B + 1 := by rw [hd]; split <;> omega
    obtain ⟨k1, k2, k3⟩ := ih (fun y hy => hf y (List.mem_cons_of_mem _ hy)) (withM a (f x)) hd0 hd1
    rw [List.foldl_cons]
    refine ⟨k1, k2, fun k => ?_⟩
    rw [k3 k, hd]
    constructor
    · rintro ⟨h, h'⟩
      refine ⟨by split at h <;> omega, fun y hy => ?_⟩
      rcases List.mem_cons.1 hy with rfl | hy
      · split at h <;> omega
      · exact h' y hy
    · rintro ⟨h, h'⟩
      have hx := h' x (List.mem_cons_self ..)
      exact ⟨by split <;> omega, fun y hy => h' y (List.mem_cons_of_mem _ hy)⟩
end
theorem measD_deep : ∀ (n lev : Nat) (T : VT n), n ≤ 100000 → 0 ≤ (measD n lev T).2.2.1 ∧ (measD n lev T).2.2.1 ≤ n := by
  intro n
  induction n with
  | zero => intro lev T _; exact ⟨Int.le_refl _, Int.le_refl _⟩
  | succ n ih =>
    intro lev T hn
    obtain ⟨K, I, F, S, L⟩ := T
    cases h0 : (K == 0)
    · cases h12 : (K == 1 || K == 2)
      · cases h3 : (K == 3)
        · cases h4 : (K == 4)
          · rw [measD_else h0 h12 h3 h4]; exact ⟨by decide, by show (0 : Int) ≤ _; omega⟩
          · rw [measD_list h0 h12 h3 h4]
            unfold measDL
            split
            · exact ⟨by show (0 : Int) ≤ 1; decide, by show (1 : Int) ≤ _; omega⟩
            · obtain ⟨k1, k2, k3⟩ := wm_deep (f := measD n (lev + 1)) (n : Int) (by omega) L (fun x _ => ih (lev + 1) x (by omega)) (false, decide (64 < (L.length : Int)), 1, 2) (by show (0 : Int) ≤ 1; decide) (by show (1 : Int) ≤ _; omega)
              exact ⟨k1, by omega⟩
        · rw [measD_text h0 h12 h3]; exact ⟨by show (0 : Int) ≤ 0; decide, by show (0 : Int) ≤ _; omega⟩
      · rw [measD_num h0 h12]; exact ⟨by decide, by show (0 : Int) ≤ _; omega⟩
    · rw [measD_nil h0]; exact ⟨by decide, by show (0 : Int) ≤ _; omega⟩
/-- Too great: as the program measures it, and as the reference looks at it. -/
theorem great_meas : ∀ (n d : Nat) (T : VT n), n ≤ 100000 → d ≤ 8 → (((measD n d T).2.1 = false ∧ (measD n d T).2.2.1 + d ≤ 8) ↔ greatT n d T = false) := by
  intro n
  induction n with
  | zero => intro d T _ hd; exact ⟨fun _ => rfl, fun _ => ⟨rfl, by show (0 : Int) + d ≤ 8; omega⟩⟩
  | succ n ih =>
    intro d T hn hd
    obtain ⟨K, I, F, S, L⟩ := T
    have hg : greatT (n + 1) d (K, I, F, S, L) = if (K == 3) = true then decide (256 < (S.size : Int)) else if (K == 4) = true then (decide (8 ≤ d) || decide (64 < (L.length : Int)) || L.any (greatT n (d + 1))) else false := rfl
    rw [hg]
    cases h0 : (K == 0)
    · cases h12 : (K == 1 || K == 2)
      · cases h3 : (K == 3)
        · cases h4 : (K == 4)
          · rw [measD_else h0 h12 h3 h4]; simp; omega
          · rw [measD_list h0 h12 h3 h4, measDL_in (by omega)]
            obtain ⟨k1, k2, k3⟩ := wm_deep (f := measD n (d + 1)) (n : Int) (by omega) L (fun x _ => measD_deep n (d + 1) x (by omega)) (false, decide (64 < (L.length : Int)), 1, 2) (by show (0 : Int) ≤ 1; decide) (by show (1 : Int) ≤ _; omega)
            rw [wm_long]
            have hk : (L.foldl (fun a x => withM a (measD n (d + 1) x)) (false, decide (64 < (L.length : Int)), 1, 2)).2.2.1 + (d : Int) ≤ 8 ↔ (L.foldl (fun a x => withM a (measD n (d + 1) x)) (false, decide (64 < (L.length : Int)), 1, 2)).2.2.1 ≤ 8 - (d : Int) := by omega
            rw [hk, k3]
            simp only [Bool.false_eq_true, if_false, if_true, Bool.or_eq_false_iff, List.any_eq_false, decide_eq_false_iff_not]
            constructor
            · rintro ⟨⟨a1, a2⟩, b1, b2⟩
              have b1' : (1 : Int) ≤ 8 - d := b1
              refine ⟨⟨by omega, a1⟩, fun x hx => ?_⟩
              have := (ih (d + 1) x (by omega) (by omega)).1 ⟨by simpa using a2 x hx, by have := b2 x hx; omega⟩
              rw [this]; simp
            · rintro ⟨⟨a1, a2⟩, b⟩
              have hx : ∀ x ∈ L, (measD n (d + 1) x).2.1 = false ∧ (measD n (d + 1) x).2.2.1 + ((d + 1 : Nat) : Int) ≤ 8 := fun x hxm => (ih (d + 1) x (by omega) (by omega)).2 (by simpa using b x hxm)
              exact ⟨⟨a2, fun x hx' => by rw [(hx x hx').1]; simp⟩, by show (1 : Int) ≤ _; omega, fun x hx' => by have := (hx x hx').2; omega⟩
        · rw [measD_text h0 h12 h3]
          simp
          omega
      · have h3 : (K == 3) = false := by
          rcases Bool.or_eq_true_iff.1 h12 with h | h <;> rw [beq_iff_eq] at h <;> subst h <;> rfl
        have h4 : (K == 4) = false := by
          rcases Bool.or_eq_true_iff.1 h12 with h | h <;> rw [beq_iff_eq] at h <;> subst h <;> rfl
        rw [measD_num h0 h12, h3, h4]; simp; omega
    · obtain rfl : K = 0 := by simpa using h0
      rw [measD_nil h0]; simp; omega
theorem great_lim : ∀ (n d : Nat) (T : VT n), d ≤ 8 → greatT n d T = false → limT n d T := by
  intro n
  induction n with
  | zero => intro d T _ _; trivial
  | succ n ih =>
    intro d T hd hg
    refine ⟨hd, fun h4 => ?_⟩
    have h3 : (T.1 == 3) = false := by
      have : T.1 = 4 := by simpa using h4
      rw [this]; rfl
    have hg' : (if (T.1 == 3) = true then decide (256 < (T.2.2.2.1.size : Int)) else if (T.1 == 4) = true then (decide (8 ≤ d) || decide (64 < (T.2.2.2.2.length : Int)) || T.2.2.2.2.any (greatT n (d + 1))) else false) = false := hg
    rw [h3, h4] at hg'
    simp only [Bool.false_eq_true, if_false, if_true, Bool.or_eq_false_iff, List.any_eq_false, decide_eq_false_iff_not] at hg'
    obtain ⟨⟨a, b⟩, c⟩ := hg'
    exact ⟨by omega, fun x hx => ih (d + 1) x (by omega) (by simpa using c x hx)⟩
theorem decL_snoc {α : Type} {dec : List Int → Option (α × Nat)} {m : Nat} {X : List Int} {L : List α} {k : Nat} (e : decL dec (m + 1) X = some (L, k)) : ∃ L1 k1 T j, decL dec m X = some (L1, k1) ∧ dec (X.drop k1) = some (T, j) ∧ L = L1 ++ [T] ∧ k = k1 + j := by
  rw [decL] at e
  cases h1 : decL dec m X with
  | none => rw [h1] at e; cases e
  | some q =>
    obtain ⟨L1, k1⟩ := q
    rw [h1] at e
    cases h2 : dec (X.drop k1) with
    | none => simp only [h2] at e; cases e
    | some q =>
      obtain ⟨T, j⟩ := q
      simp only [h2] at e
      cases e
      exact ⟨L1, k1, T, j, rfl, h2, rfl, rfl⟩
theorem decL_all {α : Type} {dec : List Int → Option (α × Nat)} {Pr : α → Nat → Prop} (h : ∀ X T j, dec X = some (T, j) → Pr T j) : ∀ m X L k, decL dec m X = some (L, k) → ∀ x ∈ L, ∃ j, Pr x j := by
  intro m
  induction m with
  | zero => intro X L k e; cases e; intro x hx; cases hx
  | succ m ih =>
    intro X L k e x hx
    obtain ⟨L1, k1, T, j, h1, h2, rfl, rfl⟩ := decL_snoc e
    rcases List.mem_append.1 hx with hx | hx
    · exact ih _ _ _ h1 x hx
    · rw [List.mem_singleton.1 hx]; exact ⟨j, h _ _ _ h2⟩
/-- The cases of what is read. -/
theorem decV_cases {n : Nat} {X : List Int} {T : VT (n + 1)} {j : Nat} (e : decV (n + 1) X = some (T, j)) :
    (T.1 = 0 ∧ T.2.2.2.2 = [] ∧ 1 ≤ j) ∨ (T.1 = 1 ∧ T.2.2.2.2 = [] ∧ 9 ≤ j) ∨ (T.1 = 2 ∧ T.2.2.2.2 = [] ∧ 9 ≤ j) ∨ (T.1 = 3 ∧ T.2.2.2.2 = [] ∧ T.2.2.2.1.size ≤ 256 ∧ 3 + T.2.2.2.1.size ≤ j) ∨ (T.1 = 4 ∧ ∃ m R k, decL (decV n) m R = some (T.2.2.2.2, k) ∧ j = 2 + k) := by
  cases X with
  | nil => cases e
  | cons k R =>
    rw [decV] at e
    by_cases h0 : (k == 0) = true
    · rw [if_pos h0] at e; cases e; exact Or.inl ⟨rfl, rfl, Nat.le_refl _⟩
    rw [if_neg h0] at e
    by_cases h1 : (k == 1) = true
    · rw [if_pos h1] at e
      split at e
      · cases e; exact Or.inr (Or.inl ⟨rfl, rfl, Nat.le_refl _⟩)
      · cases e
    rw [if_neg h1] at e
    by_cases h2 : (k == 2) = true
    · rw [if_pos h2] at e
      split at e
      · cases e; exact Or.inr (Or.inr (Or.inl ⟨rfl, rfl, Nat.le_refl _⟩))
      · cases e
    rw [if_neg h2] at e
    by_cases h3 : (k == 3) = true
    · rw [if_pos h3] at e
      split at e
      · rename_i hs
        cases e
        have hlen : (strB ((R.drop 2).take (rdU (R.take 2)).toNat)).size = (rdU (R.take 2)).toNat := by
          have h5 : (strB ((R.drop 2).take (rdU (R.take 2)).toNat)).size = ((R.drop 2).take (rdU (R.take 2)).toNat).length := by
            show (List.toArray (List.map _ _)).size = _
            simp
          rw [h5, List.length_take, List.length_drop]
          omega
        refine Or.inr (Or.inr (Or.inr (Or.inl ⟨rfl, rfl, ?_, ?_⟩)))
        · show (strB _).size ≤ 256; rw [hlen]; omega
        · show 3 + (strB _).size ≤ _; rw [hlen]; omega
      · cases e
    rw [if_neg h3] at e
    by_cases h4 : (k == 4) = true
    · rw [if_pos h4] at e
      cases h5 : decR (decV n) R with
      | none => rw [h5] at e; cases e
      | some q =>
        obtain ⟨L, j2⟩ := q
        rw [h5] at e
        cases e
        cases R with
        | nil => cases h5
        | cons m R =>
          rw [decR] at h5
          cases h6 : decL (decV n) m.toNat R with
          | none => simp only [h6] at h5; cases h5
          | some q =>
            obtain ⟨L1, k1⟩ := q
            simp only [h6] at h5
            cases h5
            exact Or.inr (Or.inr (Or.inr (Or.inr ⟨rfl, m.toNat, R, k1, h6, by omega⟩)))
    · rw [if_neg h4] at e; cases e
theorem decV_kinds : ∀ n X (T : VT n) j, decV n X = some (T, j) → kindsT n T = true ∧ ∀ lev, (measD n lev T).1 = false := by
  intro n
  induction n with
  | zero => intro X T j e; cases e
  | succ n ih =>
    intro X T j e
    obtain ⟨K, I, F, S, L⟩ := T
    rcases decV_cases e with ⟨h, _⟩ | ⟨h, _⟩ | ⟨h, _⟩ | ⟨h, _⟩ | ⟨h, m, R, k, hL, _⟩
    · obtain rfl : K = 0 := h
      exact ⟨rfl, fun lev => by rw [measD_nil (by decide)]⟩
    · obtain rfl : K = 1 := h
      exact ⟨rfl, fun lev => by rw [measD_num (by decide) (by decide)]⟩
    · obtain rfl : K = 2 := h
      exact ⟨rfl, fun lev => by rw [measD_num (by decide) (by decide)]⟩
    · obtain rfl : K = 3 := h
      exact ⟨rfl, fun lev => by rw [measD_text (by decide) (by decide) (by decide)]⟩
    · obtain rfl : K = 4 := h
      have hx := decL_all (Pr := fun T _ => kindsT n T = true ∧ ∀ lev, (measD n lev T).1 = false) (fun X T j e => ih X T j e) _ _ _ _ hL
      refine ⟨?_, fun lev => ?_⟩
      · show (if (decide ((4 : Int) < 0) || decide (4 < (4 : Int))) = true then false else if ((4 : Int) == 4) = true then L.all (kindsT n) else true) = true
        rw [if_neg (by decide), if_pos (by decide), List.all_eq_true]
        exact fun x hx' => by obtain ⟨_, h1, _⟩ := hx x hx'; exact h1
      · rw [measD_list (by decide) (by decide) (by decide) (by decide)]
        unfold measDL
        split
        · rfl
        · rw [wm_stray]
          simp only [Bool.false_or, List.any_eq_false]
          intro x hx'
          obtain ⟨_, _, h2⟩ := hx x hx'
          rw [h2 (lev + 1)]
          simp
theorem decL_size {n : Nat} {f : VT n → Me} (h : ∀ X T j, decV n X = some (T, j) → j ≤ 100000 → 0 ≤ (f T).2.2.2 ∧ (f T).2.2.2 ≤ j) : ∀ m X L k, decL (decV n) m X = some (L, k) → k ≤ 100000 → ∀ a : Me, 0 ≤ a.2.2.2 → a.2.2.2 ≤ 100000 →
    0 ≤ (L.foldl (fun a x => withM a (f x)) a).2.2.2 ∧ (L.foldl (fun a x => withM a (f x)) a).2.2.2 ≤ a.2.2.2 + k := by
  intro m
  induction m with
  | zero => intro X L k e _ a h0 h1; cases e; exact ⟨h0, by show a.2.2.2 ≤ _; omega⟩
  | succ m ih =>
    intro X L k e hk a h0 h1
    obtain ⟨L1, k1, T, j, e1, e2, rfl, rfl⟩ := decL_snoc e
    obtain ⟨c1, c2⟩ := ih _ _ _ e1 (by omega) a h0 h1
    obtain ⟨d1, d2⟩ := h _ _ _ e2 (by omega)
    rw [List.foldl_append, List.foldl_cons, List.foldl_nil]
    obtain ⟨q, hq⟩ : ∃ q, L1.foldl (fun a x => withM a (f x)) a = q := ⟨_, rfl⟩
    rw [hq] at c1 c2 ⊢
    have hs : (withM q (f T)).2.2.2 = q.2.2.2 + (f T).2.2.2 := by
      show (if wrap64 (9223372036854775807 - (f T).2.2.2) < q.2.2.2 then 9223372036854775807 else wrap64 (q.2.2.2 + (f T).2.2.2)) = _
      have e1 : wrap64 (9223372036854775807 - (f T).2.2.2) = 9223372036854775807 - (f T).2.2.2 := by unfold wrap64; omega
      have e2 : wrap64 (q.2.2.2 + (f T).2.2.2) = q.2.2.2 + (f T).2.2.2 := by unfold wrap64; omega
      rw [e1, e2, if_neg (by omega)]
    rw [hs]
    omega
theorem decV_size : ∀ n X (T : VT n) j, decV n X = some (T, j) → j ≤ 100000 → ∀ lev, 0 ≤ (measD n lev T).2.2.2 ∧ (measD n lev T).2.2.2 ≤ j := by
  intro n
  induction n with
  | zero => intro X T j e; cases e
  | succ n ih =>
    intro X T j e hj lev
    obtain ⟨K, I, F, S, L⟩ := T
    rcases decV_cases e with ⟨h, _, h9⟩ | ⟨h, _, h9⟩ | ⟨h, _, h9⟩ | ⟨h, _, hs, h9⟩ | ⟨h, m, R, k, hL, rfl⟩
    · obtain rfl : K = 0 := h
      rw [measD_nil (by decide)]; exact ⟨by show (0 : Int) ≤ 1; decide, by show (1 : Int) ≤ _; omega⟩
    · obtain rfl : K = 1 := h
      rw [measD_num (by decide) (by decide)]; exact ⟨by show (0 : Int) ≤ 9; decide, by show (9 : Int) ≤ _; omega⟩
    · obtain rfl : K = 2 := h
      rw [measD_num (by decide) (by decide)]; exact ⟨by show (0 : Int) ≤ 9; decide, by show (9 : Int) ≤ _; omega⟩
    · obtain rfl : K = 3 := h
      have hs' : S.size ≤ 256 := hs
      have h9' : 3 + S.size ≤ j := h9
      rw [measD_text (by decide) (by decide) (by decide)]
      have e1 : wrap64 (3 + (S.size : Int)) = 3 + (S.size : Int) := by unfold wrap64; omega
      exact ⟨by show 0 ≤ wrap64 _; rw [e1]; omega, by show wrap64 _ ≤ _; rw [e1]; omega⟩
    · obtain rfl : K = 4 := h
      rw [measD_list (by decide) (by decide) (by decide) (by decide)]
      unfold measDL
      split
      · exact ⟨by show (0 : Int) ≤ 2; decide, by show (2 : Int) ≤ _; omega⟩
      · obtain ⟨c1, c2⟩ := decL_size (f := measD n (lev + 1)) (fun X T j e hj => ih X T j e hj (lev + 1)) _ _ _ _ hL (by omega) (false, decide (64 < (L.length : Int)), 1, 2) (by show (0 : Int) ≤ 2; decide) (by show (2 : Int) ≤ 100000; decide)
        exact ⟨c1, Int.le_trans c2 (by show (2 : Int) + k ≤ ((2 + k : Nat) : Int); omega)⟩
theorem decL_sizeT {n : Nat} (h : ∀ X T j, decV n X = some (T, j) → j ≤ 100000 → 0 ≤ sizeT n T ∧ sizeT n T ≤ j) : ∀ m X L k, decL (decV n) m X = some (L, k) → k ≤ 100000 → ∀ a : Int, 0 ≤ a → a ≤ 100000 →
    0 ≤ L.foldl (fun a x => wrap64 (a + sizeT n x)) a ∧ L.foldl (fun a x => wrap64 (a + sizeT n x)) a ≤ a + k := by
  intro m
  induction m with
  | zero => intro X L k e _ a h0 h1; cases e; exact ⟨h0, by show a ≤ _; omega⟩
  | succ m ih =>
    intro X L k e hk a h0 h1
    obtain ⟨L1, k1, T, j, e1, e2, rfl, rfl⟩ := decL_snoc e
    obtain ⟨c1, c2⟩ := ih _ _ _ e1 (by omega) a h0 h1
    obtain ⟨d1, d2⟩ := h _ _ _ e2 (by omega)
    rw [List.foldl_append, List.foldl_cons, List.foldl_nil]
    obtain ⟨q, hq⟩ : ∃ q, L1.foldl (fun a x => wrap64 (a + sizeT n x)) a = q := ⟨_, rfl⟩
    rw [hq] at c1 c2 ⊢
    have e2 : wrap64 (q + sizeT n T) = q + sizeT n T := by unfold wrap64; omega
    rw [e2]
    omega
theorem decV_sizeT : ∀ n X (T : VT n) j, decV n X = some (T, j) → j ≤ 100000 → 0 ≤ sizeT n T ∧ sizeT n T ≤ j := by
  intro n
  induction n with
  | zero => intro X T j e; cases e
  | succ n ih =>
    intro X T j e hj
    obtain ⟨K, I, F, S, L⟩ := T
    rcases decV_cases e with ⟨h, _, h9⟩ | ⟨h, _, h9⟩ | ⟨h, _, h9⟩ | ⟨h, _, hs, h9⟩ | ⟨h, m, R, k, hL, rfl⟩
    · obtain rfl : K = 0 := h
      rw [sizeT_else (by decide) (by decide) (by decide)]; exact ⟨by decide, by omega⟩
    · obtain rfl : K = 1 := h
      rw [sizeT_num (by decide)]; exact ⟨by decide, by omega⟩
    · obtain rfl : K = 2 := h
      rw [sizeT_num (by decide)]; exact ⟨by decide, by omega⟩
    · obtain rfl : K = 3 := h
      have hs' : S.size ≤ 256 := hs
      have h9' : 3 + S.size ≤ j := h9
      rw [sizeT_text (by decide) (by decide)]
      have e1 : wrap64 (3 + (S.size : Int)) = 3 + (S.size : Int) := by unfold wrap64; omega
      rw [e1]
      omega
    · obtain rfl : K = 4 := h
      rw [sizeT_list (by decide) (by decide) (by decide)]
      obtain ⟨c1, c2⟩ := decL_sizeT ih _ _ _ _ hL (by omega) 2 (by decide) (by decide)
      exact ⟨c1, Int.le_trans c2 (by omega)⟩
/-! ### both ways -/
def progR (N : Nat) (X : List Int) : Option (VT N × Nat) := match decV N X with | none => none | some (T, j) => if checkM (measD N 0 T) = 0 then some (T, j) else none
/-- What the reference says of a value. -/
def rcheckT (n : Nat) (T : VT n) : Int := if kindsT n T = false then 31 else if (greatT n 0 T || decide (4096 < sizeT n T)) = true then 22 else 0
def refRd (N : Nat) (X : List Int) : Option (VT N × Nat) := match refV N 0 X with | none => none | some (T, j) => if rcheckT N T = 0 then some (T, j) else none
theorem same_read (N : Nat) (X : List Int) (hN : N ≤ 100000) (hX : X.length ≤ 4096) : progR N X = refRd N X := by
  unfold progR refRd
  cases hd : decV N X with
  | none =>
    cases hr : refV N 0 X with
    | none => rfl
    | some q => obtain ⟨T, j⟩ := q; rw [(ref_dec _ _ _ _ _ hr).1] at hd; cases hd
  | some q =>
    obtain ⟨T, j⟩ := q
    have hj := (decV_le _ _ _ _ hd).2
    obtain ⟨hk, hst⟩ := decV_kinds _ _ _ _ hd
    obtain ⟨hs0, hs1⟩ := decV_size _ _ _ _ hd (by omega) 0
    obtain ⟨ht0, ht1⟩ := decV_sizeT _ _ _ _ hd (by omega)
    have hg := great_meas N 0 T hN (by omega)
    have hrc : rcheckT N T = if greatT N 0 T = true then 22 else 0 := by
      unfold rcheckT
      rw [hk, if_neg (by decide)]
      have : decide (4096 < sizeT N T) = false := by simp; omega
      rw [this, Bool.or_false]
    have hpc : checkM (measD N 0 T) = if greatT N 0 T = true then 22 else 0 := by
      unfold checkM
      rw [hst 0, if_neg (by decide)]
      have h4 : decide (4096 < (measD N 0 T).2.2.2) = false := by simp; omega
      rw [h4, Bool.or_false]
      cases hG : greatT N 0 T
      · obtain ⟨g1, g2⟩ := hg.2 hG
        have : decide (8 < (measD N 0 T).2.2.1) = false := by simp; omega
        rw [g1, this]
        rfl
      · have hn : ¬ ((measD N 0 T).2.1 = false ∧ (measD N 0 T).2.2.1 + ((0 : Nat) : Int) ≤ 8) := fun h => by rw [hg.1 h] at hG; cases hG
        by_cases hlong : (measD N 0 T).2.1 = true
        · rw [hlong]; rfl
        · have hf : (measD N 0 T).2.1 = false := by simpa using hlong
          have hd8 : 8 < (measD N 0 T).2.2.1 := by
            exact Decidable.byContradiction fun hle => hn ⟨hf, by omega⟩
          have : decide (8 < (measD N 0 T).2.2.1) = true := by simp; omega
          rw [hf, this]; rfl
    simp only [hpc]
    cases hG : greatT N 0 T
    · rw [hG] at hrc
      have hr := dec_ref N 0 X T j hd (great_lim N 0 T (by omega) hG)
      rw [hr]
      simp only [hrc]
    · rw [hG] at hrc
      cases hr : refV N 0 X with
      | none => rfl
      | some q =>
        obtain ⟨T', j'⟩ := q
        have h1 := (ref_dec _ _ _ _ _ hr).1
        rw [hd] at h1
        cases h1
        simp only [hrc]
end Num
end Go.Proofs.Ytomfgncbdgifoaa
/-
  The reference's Check of a value.
-/
namespace Go.Proofs.Ytomfgncbdgifoaa
open Go.RowKit
namespace Num
open Ints
set_option linter.unusedSimpArgs false
set_option linter.unusedVariables false
theorem kindsT_eq {n : Nat} {K I : Int} {F : Nat} {S : ByteArray} {L : List (VT n)} : kindsT (n + 1) (K, I, F, S, L) = if (decide (K < 0) || decide (4 < K)) = true then false else if (K == 4) = true then L.all (kindsT n) else true := rfl
theorem greatT_eq {n d : Nat} {K I : Int} {F : Nat} {S : ByteArray} {L : List (VT n)} : greatT (n + 1) d (K, I, F, S, L) = if (K == 3) = true then decide (256 < (S.size : Int)) else if (K == 4) = true then (decide (8 ≤ d) || decide (64 < (L.length : Int)) || L.any (greatT n (d + 1))) else false := rfl
set_option maxHeartbeats 2000000 in
theorem kinds_any : ∀ (n : Nat) (v : Value) (T : VT n) (w : World) (hr : Rep w n v T), Calls Try.prog 82 #[v] w fun e w' => e = .returned (.bool (kindsT n T)) ∧ Below w.heap.size w w' := by
  intro n
  induction n with
  | zero => intro v T w h; exact h.elim
  | succ n ih =>
    intro v T w hr
    have IH := Lib.hid ih
    clear ih
    obtain ⟨K, I, F, S, L⟩ := T
    obtain ⟨p, l, c, rfl, _, _, _, hS, hl, hlc, hcm, hel⟩ := hr
    unfold maxLen at hcm hS
    by_cases hbad : K < 0 ∨ 4 < K
    · have H := Lib.hid (show Ending.returned (.bool false) = .returned (.bool (kindsT (n + 1) (K, I, F, S, L))) by rw [kindsT_eq, if_pos (by simp; omega)])
      clear hel hl
      by_cases h0 : K < 0
      · go_enter Try.func82, Try.ntmps82
        go_wp2
        go_ret
        exact ⟨H.out, (Below.refl _ _).alloc (Nat.le_refl _) _⟩
      · have h4 : 4 < K := by omega
        go_enter Try.func82, Try.ntmps82
        go_wp2
        go_ret
        exact ⟨H.out, (Below.refl _ _).alloc (Nat.le_refl _) _⟩
    · have hk0 : ¬ K < 0 := by omega
      have hk4 : ¬ 4 < K := by omega
      have hdec : (decide (K < 0) || decide (4 < K)) = false := by simp; omega
      cases h4 : (K == 4)
      · have H := Lib.hid (show Ending.returned (.bool true) = .returned (.bool (kindsT (n + 1) (K, I, F, S, L))) by rw [kindsT_eq, hdec, h4]; rfl)
        clear hel hl hdec hbad
        by_cases hl0 : (0 : Int) < (l : Int)
        all_goals
          go_enter Try.func82, Try.ntmps82
          go_wp2
          refine wp_loop_rounds 1 ?_
          rw [rounds_succ]
          go_wp2
          go_ret
          exact ⟨H.out, (Below.refl _ _).alloc (Nat.le_refl _) _⟩
      · have HK := Lib.hid (show kindsT (n + 1) (K, I, F, S, L) = L.all (kindsT n) by rw [kindsT_eq, hdec, h4]; rfl)
        have HL := Lib.hid hl
        have HE := Lib.hid hel
        clear hl hel hdec hbad
        go_enter Try.func82, Try.ntmps82
        go_wp2
        have RS0 := row_alloc w #[.int .i64 K, .int .i64 I, .float .f64 F, .string S, .slice p l c] 47
        go_loopw [3] (fun i wr => ∃ k : Nat, k ≤ l ∧ i = .int .i64 k ∧ (∀ x ∈ L.take k, kindsT n x = true) ∧ Below w.heap.size w wr ∧ wr.heap[w.heap.size]? = some (.cells #[.int .i64 K, .int .i64 I, .float .f64 F, .string S, .slice p l c] 47 (0, 0))) (fun i _ => l - (intOf i).toNat)
        case atStart => exact ⟨0, by omega, rfl, fun x hx => (by cases hx), (Below.refl _ _).alloc (Nat.le_refl _) _, RS0⟩
        case round =>
          obtain ⟨k, hk, rfl, hall, hB, RS⟩ := hrel
          clear RS0
          have s0 := row_cell RS 0
          have s4 := row_cell RS 4
          simp only [List.getElem?_toArray, List.getElem?_cons_zero, List.getElem?_cons_succ] at s0 s4
          have HB := Lib.hid hB
          have HRS := Lib.hid RS
          have HA := Lib.hid hall
          by_cases hlt : k < l
          · obtain ⟨b, off, hp, hi⟩ := HE.out (by omega)
            subst hp
            have hkl : k < L.length := by have := HL.out; omega
            obtain ⟨v0, v1, v2, v3, v4, c0, c1, c2, c3, c4, hr⟩ := hi k hkl
            have hr' := rep_keep hB n _ _ hr
            have e0 := cell_keep hB c0
            have e1 := cell_keep hB c1
            have e2 := cell_keep hB c2
            have e3 := cell_keep hB c3
            have e4 := cell_keep hB c4
            clear c0 c1 c2 c3 c4 hr hi hB RS hall
            have HR := Lib.hid hr'
            clear hr'
            cases hx : kindsT n L[k]
            · have HF := Lib.hid (show Ending.returned (.bool false) = .returned (.bool (kindsT (n + 1) (K, I, F, S, L))) by
                rw [HK.out]
                have : L.all (kindsT n) = false := by rw [List.all_eq_false]; exact ⟨L[k], List.getElem_mem hkl, by rw [hx]; simp⟩
                rw [this])
              have HX := Lib.hid hx
              clear hx
              go_wp2_with fail
              go_at_call 82; refine (IH.out _ _ _ HR.out).mono ?_; rintro e w1 ⟨rfl, hb1⟩
              rw [HX.out]
              have HB1 := Lib.hid (bel_step HB.out hb1)
              clear hb1 e0 e1 e2 e3 e4 s0 s4
              go_wp2
              go_ret
              exact ⟨HF.out, HB1.out⟩
            · have HX := Lib.hid hx
              have HA2 := Lib.hid (show ∀ x ∈ L.take (k + 1), kindsT n x = true from fun x hm => by
                rw [List.take_succ_eq_append_getElem hkl, List.mem_append] at hm
                rcases hm with hm | hm
                · exact HA.out x hm
                · rw [List.mem_singleton.1 hm]; exact HX.out)
              clear hx
              go_wp2_with fail
              go_at_call 82; refine (IH.out _ _ _ HR.out).mono ?_; rintro e w1 ⟨rfl, hb1⟩
              rw [HX.out]
              have HB1 := Lib.hid (bel_step HB.out hb1)
              have HR1 := Lib.hid (row_step HRS.out hb1)
              clear hb1 e0 e1 e2 e3 e4 HB HRS s0 s4 HR
              go_wp2
              go_roundw
              case rel => exact ⟨k + 1, by omega, by go_num, HA2.out, HB1.out, HR1.out⟩
              case measure => simp [intOf]; omega
          · have HT := Lib.hid (show Ending.returned (.bool true) = .returned (.bool (kindsT (n + 1) (K, I, F, S, L))) by
              have e : L.take k = L := List.take_of_length_le (by have : L.length = l := HL.out; omega)
              have : L.all (kindsT n) = true := by rw [List.all_eq_true]; intro x hm; exact HA.out x (by rw [e]; exact hm)
              rw [HK.out, this])
            clear hB RS hall
            go_wp2
            go_ret
            exact ⟨HT.out, HB.out⟩
set_option maxHeartbeats 2000000 in
theorem great_any : ∀ (n d : Nat) (v : Value) (T : VT n) (w : World) (hr : Rep w n v T) (hd : d ≤ 1000000), Calls Try.prog 83 #[v, .int .i64 d] w fun e w' => e = .returned (.bool (greatT n d T)) ∧ Below w.heap.size w w' := by
  intro n
  induction n with
  | zero => intro d v T w h; exact h.elim
  | succ n ih =>
    intro d v T w hr hd
    have IH := Lib.hid ih
    clear ih
    obtain ⟨K, I, F, S, L⟩ := T
    obtain ⟨p, l, c, rfl, _, _, _, hS, hl, hlc, hcm, hel⟩ := hr
    unfold maxLen at hcm hS
    cases h3 : (K == 3)
    · cases h4 : (K == 4)
      · have H := Lib.hid (show Ending.returned (.bool false) = .returned (.bool (greatT (n + 1) d (K, I, F, S, L))) by rw [greatT_eq, h3, h4]; rfl)
        have hn4 : (K != 4) = true := by simp only [bne, h4]; rfl
        clear hel hl
        go_enter Try.func83, Try.ntmps83
        go_wp2
        go_ret
        exact ⟨H.out, (Below.refl _ _).alloc (Nat.le_refl _) _⟩
      · have hn4 : (K != 4) = false := by simp only [bne, h4]; rfl
        have HG := Lib.hid (show greatT (n + 1) d (K, I, F, S, L) = (decide (8 ≤ d) || decide (64 < (L.length : Int)) || L.any (greatT n (d + 1))) by rw [greatT_eq, h3, h4]; rfl)
        by_cases h8 : 8 ≤ d
        · have h8' : (8 : Int) ≤ (d : Int) := by omega
          have H := Lib.hid (show Ending.returned (.bool true) = .returned (.bool (greatT (n + 1) d (K, I, F, S, L))) by rw [HG.out]; simp [h8])
          clear hel hl
          go_enter Try.func83, Try.ntmps83
          go_wp2
          go_ret
          exact ⟨H.out, (Below.refl _ _).alloc (Nat.le_refl _) _⟩
        · have h8' : ¬ (8 : Int) ≤ (d : Int) := by omega
          by_cases h64 : (64 : Int) < (l : Int)
          · have H := Lib.hid (show Ending.returned (.bool true) = .returned (.bool (greatT (n + 1) d (K, I, F, S, L))) by rw [HG.out]; have : (64 : Int) < (L.length : Int) := (by have : L.length = l := hl; omega); simp [this])
            clear hel hl
            go_enter Try.func83, Try.ntmps83
            go_wp2
            go_ret
            exact ⟨H.out, (Below.refl _ _).alloc (Nat.le_refl _) _⟩
          · have HG2 := Lib.hid (show greatT (n + 1) d (K, I, F, S, L) = L.any (greatT n (d + 1)) by
              rw [HG.out]
              have a1 : decide (8 ≤ d) = false := by simp; omega
              have a2 : decide (64 < (L.length : Int)) = false := by have : L.length = l := hl; simp; omega
              rw [a1, a2]; simp)
            have HL := Lib.hid hl
            have HE := Lib.hid hel
            clear hl hel
            go_enter Try.func83, Try.ntmps83
            go_wp2
            have RS0 := row_alloc w #[.int .i64 K, .int .i64 I, .float .f64 F, .string S, .slice p l c] 47
            go_loopw [5] (fun i wr => ∃ k : Nat, k ≤ l ∧ i = .int .i64 k ∧ (∀ x ∈ L.take k, greatT n (d + 1) x = false) ∧ Below w.heap.size w wr ∧ wr.heap[w.heap.size]? = some (.cells #[.int .i64 K, .int .i64 I, .float .f64 F, .string S, .slice p l c] 47 (0, 0))) (fun i _ => l - (intOf i).toNat)
            case atStart => exact ⟨0, by omega, rfl, fun x hx => (by cases hx), (Below.refl _ _).alloc (Nat.le_refl _) _, RS0⟩
            case round =>
              obtain ⟨k, hk, rfl, hall, hB, RS⟩ := hrel
              clear RS0
              have s0 := row_cell RS 0
              have s4 := row_cell RS 4
              simp only [List.getElem?_toArray, List.getElem?_cons_zero, List.getElem?_cons_succ] at s0 s4
              have HB := Lib.hid hB
              have HRS := Lib.hid RS
              have HA := Lib.hid hall
              by_cases hlt : k < l
              · obtain ⟨b, off, hp, hi⟩ := HE.out (by omega)
                subst hp
                have hkl : k < L.length := by have := HL.out; omega
                obtain ⟨v0, v1, v2, v3, v4, c0, c1, c2, c3, c4, hr⟩ := hi k hkl
                have hr' := rep_keep hB n _ _ hr
                have e0 := cell_keep hB c0
                have e1 := cell_keep hB c1
                have e2 := cell_keep hB c2
                have e3 := cell_keep hB c3
                have e4 := cell_keep hB c4
                clear c0 c1 c2 c3 c4 hr hi hB RS hall
                have HR := Lib.hid hr'
                clear hr'
                cases hx : greatT n (d + 1) L[k]
                · have HX := Lib.hid hx
                  have HA2 := Lib.hid (show ∀ x ∈ L.take (k + 1), greatT n (d + 1) x = false from fun x hm => by
                    rw [List.take_succ_eq_append_getElem hkl, List.mem_append] at hm
                    rcases hm with hm | hm
                    · exact HA.out x hm
                    · rw [List.mem_singleton.1 hm]; exact HX.out)
                  clear hx
                  go_wp2_with fail
                  go_at_call 83; rw [show ((d : Int) + 1) = ((d + 1 : Nat) : Int) by omega]; refine (IH.out (d + 1) _ _ _ HR.out (by omega)).mono ?_; rintro e w1 ⟨rfl, hb1⟩
                  rw [HX.out]
                  have HB1 := Lib.hid (bel_step HB.out hb1)
                  have HR1 := Lib.hid (row_step HRS.out hb1)
                  clear hb1 e0 e1 e2 e3 e4 HB HRS s0 s4 HR
                  go_wp2
                  go_roundw
                  case rel => exact ⟨k + 1, by omega, by go_num, HA2.out, HB1.out, HR1.out⟩
                  case measure => simp [intOf]; omega
                · have HF := Lib.hid (show Ending.returned (.bool true) = .returned (.bool (greatT (n + 1) d (K, I, F, S, L))) by
                    rw [HG2.out]
                    have : L.any (greatT n (d + 1)) = true := by rw [List.any_eq_true]; exact ⟨L[k], List.getElem_mem hkl, hx⟩
                    rw [this])
                  have HX := Lib.hid hx
                  clear hx
                  go_wp2_with fail
                  go_at_call 83; rw [show ((d : Int) + 1) = ((d + 1 : Nat) : Int) by omega]; refine (IH.out (d + 1) _ _ _ HR.out (by omega)).mono ?_; rintro e w1 ⟨rfl, hb1⟩
                  rw [HX.out]
                  have HB1 := Lib.hid (bel_step HB.out hb1)
                  clear hb1 e0 e1 e2 e3 e4 s0 s4
                  go_wp2
                  go_ret
                  exact ⟨HF.out, HB1.out⟩
              · have HT := Lib.hid (show Ending.returned (.bool false) = .returned (.bool (greatT (n + 1) d (K, I, F, S, L))) by
                  have e : L.take k = L := List.take_of_length_le (by have : L.length = l := HL.out; omega)
                  have : L.any (greatT n (d + 1)) = false := by rw [List.any_eq_false]; intro x hm; rw [HA.out x (by rw [e]; exact hm)]; simp
                  rw [HG2.out, this])
                clear hB RS hall
                go_wp2
                go_ret
                exact ⟨HT.out, HB.out⟩
    · have H := Lib.hid (show Ending.returned (.bool (decide (256 < (S.size : Int)))) = .returned (.bool (greatT (n + 1) d (K, I, F, S, L))) by rw [greatT_eq, h3]; rfl)
      clear hel hl
      go_enter Try.func83, Try.ntmps83
      go_wp2
      go_ret
      exact ⟨H.out, (Below.refl _ _).alloc (Nat.le_refl _) _⟩
set_option maxHeartbeats 2000000 in
theorem rcheck_any (n : Nat) (v : Value) (T : VT n) (w : World) (hr : Rep w n v T) : Calls Try.prog 61 #[v] w fun e w' => e = .returned (.int .i64 (rcheckT n T)) ∧ Below w.heap.size w w' := by
  obtain ⟨K, I, F, S, p, l, c, rfl, _⟩ := rep_shape hr
  have HR := Lib.hid (rep_keep ((Below.refl w.heap.size w).alloc (Nat.le_refl _) (.cells #[.int .i64 K, .int .i64 I, .float .f64 F, .string S, .slice p l c] 47)) _ _ _ hr)
  have HB := Lib.hid ((Below.refl w.heap.size w).alloc (Nat.le_refl _) (.cells #[.int .i64 K, .int .i64 I, .float .f64 F, .string S, .slice p l c] 47))
  have RS := Lib.hid (row_alloc w #[.int .i64 K, .int .i64 I, .float .f64 F, .string S, .slice p l c] 47)
  clear hr
  have HC := Lib.hid (show rcheckT n T = if kindsT n T = false then 31 else if (greatT n 0 T || decide (4096 < sizeT n T)) = true then 22 else 0 from rfl)
  cases hk : kindsT n T
  · have HE := Lib.hid (show Ending.returned (.int .i64 31) = .returned (.int .i64 (rcheckT n T)) by rw [HC.out, if_pos hk])
    have HX := Lib.hid hk
    clear hk
    go_enter Try.func61, Try.ntmps61
    go_wp2_with fail
    go_at_call 82; refine (kinds_any n _ T _ HR.out).mono ?_; rintro e w1 ⟨rfl, hb1⟩
    rw [HX.out]
    have HB1 := Lib.hid (bel_step HB.out hb1)
    clear hb1
    go_wp2
    go_ret
    exact ⟨HE.out, HB1.out⟩
  · have HX := Lib.hid hk
    cases hg : greatT n 0 T
    · obtain ⟨z, hz⟩ : ∃ z, sizeT n T = z := ⟨_, rfl⟩
      have HZ := Lib.hid hz
      by_cases hbig : 4096 < z
      all_goals
        have HE := Lib.hid (show rcheckT n T = if 4096 < z then 22 else 0 by rw [HC.out, hk, hg, hz]; simp)
        have HY := Lib.hid hg
        go_enter Try.func61, Try.ntmps61
        go_wp2_with fail
        go_at_call 82; refine (kinds_any n _ T _ HR.out).mono ?_; rintro e w1 ⟨rfl, hb1⟩
        rw [HX.out]
        have HB1 := Lib.hid (bel_step HB.out hb1)
        have HR1 := Lib.hid (rep_keep hb1 _ _ _ HR.out)
        have HS1 := Lib.hid (row_step RS.out hb1)
        have d0 := row_cell HS1.out 0; have d1 := row_cell HS1.out 1; have d2 := row_cell HS1.out 2; have d3 := row_cell HS1.out 3; have d4 := row_cell HS1.out 4
        simp only [List.getElem?_toArray, List.getElem?_cons_zero, List.getElem?_cons_succ] at d0 d1 d2 d3 d4
        clear hb1
        go_wp2_with fail
        go_at_call 83; refine (great_any n 0 _ T _ HR1.out (by omega)).mono ?_; rintro e w2 ⟨rfl, hb2⟩
        rw [HY.out]
        have HB2 := Lib.hid (bel_step HB1.out hb2)
        have HR2 := Lib.hid (rep_keep hb2 _ _ _ HR1.out)
        have HS2 := Lib.hid (row_step HS1.out hb2)
        have e0 := row_cell HS2.out 0; have e1 := row_cell HS2.out 1; have e2 := row_cell HS2.out 2; have e3 := row_cell HS2.out 3; have e4 := row_cell HS2.out 4
        simp only [List.getElem?_toArray, List.getElem?_cons_zero, List.getElem?_cons_succ] at e0 e1 e2 e3 e4
        clear hb2 d0 d1 d2 d3 d4
        go_wp2_with fail
        go_at_call 51; refine (size_any n _ T _ HR2.out).mono ?_; rintro e w3 ⟨rfl, hb3⟩
        rw [HZ.out]
        have HB3 := Lib.hid (bel_step HB2.out hb3)
        clear hb3 e0 e1 e2 e3 e4
        go_wp2
        go_ret
        exact ⟨by rw [HE.out]; simp [hbig], HB3.out⟩
    · have HE := Lib.hid (show Ending.returned (.int .i64 22) = .returned (.int .i64 (rcheckT n T)) by rw [HC.out, hk, hg]; rfl)
      have HY := Lib.hid hg
      clear hk hg
      go_enter Try.func61, Try.ntmps61
      go_wp2_with fail
      go_at_call 82; refine (kinds_any n _ T _ HR.out).mono ?_; rintro e w1 ⟨rfl, hb1⟩
      rw [HX.out]
      have HB1 := Lib.hid (bel_step HB.out hb1)
      have HR1 := Lib.hid (rep_keep hb1 _ _ _ HR.out)
      have HS1 := Lib.hid (row_step RS.out hb1)
      have d0 := row_cell HS1.out 0; have d1 := row_cell HS1.out 1; have d2 := row_cell HS1.out 2; have d3 := row_cell HS1.out 3; have d4 := row_cell HS1.out 4
      simp only [List.getElem?_toArray, List.getElem?_cons_zero, List.getElem?_cons_succ] at d0 d1 d2 d3 d4
      clear hb1
      go_wp2_with fail
      go_at_call 83; refine (great_any n 0 _ T _ HR1.out (by omega)).mono ?_; rintro e w2 ⟨rfl, hb2⟩
      rw [HY.out]
      have HB2 := Lib.hid (bel_step HB1.out hb2)
      clear hb2 d0 d1 d2 d3 d4
      go_wp2
      go_ret
      exact ⟨HE.out, HB2.out⟩
end Num
end Go.Proofs.Ytomfgncbdgifoaa
/-
  Package value's measured, Check, of values that a call made: any number of parts.
-/
namespace Go.Proofs.Ytomfgncbdgifoaa
open Go.RowKit
namespace Num
open Ints
set_option linter.unusedSimpArgs false
set_option linter.unusedVariables false
set_option maxHeartbeats 2000000 in
theorem measuredM_any (n : Nat) (A : Nat → Prop) (v : Value) (T : VT n) (w : World) (hr : RepC w n A v T) (hp : partsT n T ≤ 1000000) : Calls Try.prog 84 #[v] w fun e w' => e = .returned (meV (measD n 0 T)) ∧ Below w.heap.size w w' := by
  have HR := Lib.hid hr
  have HP := Lib.hid hp
  obtain ⟨K, I, F, S, p, l, c, rfl, _⟩ := repS_shape hr
  clear hr hp
  have HB := Lib.hid ((((Below.refl w.heap.size w).alloc (Nat.le_refl _) (.cells #[.int .i64 K, .int .i64 I, .float .f64 F, .string S, .slice p l c] 47)).alloc (by simp) (.cells #[.bool false, .bool false, .int .i64 0, .int .i64 0] 119)).alloc (by simp; omega) (.cells #[.int .i64 0, .map none] 130))
  have HA := Lib.hid (row_alloc ((w.alloc (.cells #[.int .i64 K, .int .i64 I, .float .f64 F, .string S, .slice p l c] 47)).alloc (.cells #[.bool false, .bool false, .int .i64 0, .int .i64 0] 119)) #[.int .i64 0, .map none] 130)
  have HM := Lib.hid (row_alloc_step (row_alloc (w.alloc (.cells #[.int .i64 K, .int .i64 I, .float .f64 F, .string S, .slice p l c] 47)) #[.bool false, .bool false, .int .i64 0, .int .i64 0] 119) (.cells #[.int .i64 0, .map none] 130))
  simp only [World.size_alloc] at HA HM
  go_enter Try.func84, Try.ntmps84
  go_wp2_with fail
  go_at_call 94; refine ((sm_all n).1 T _ 0 0 w _ (w.heap.size + 1 + 1) (.map none) A (fun _ => False) HR.out HB.out (by omega) (fun _ h => h.elim) ⟨HA.out, Or.inl rfl⟩ (by omega) (by omega) (by have := HP.out; omega)).mono ?_; rintro e w1 ⟨rfl, hsv⟩
  have HF := Lib.hid (kp_below (vis := 0) (F := fun _ => False) HB.out (by omega) ⟨HA.out, Or.inl rfl⟩ hsv.1)
  have hm := row_kp (w0 := w) (vis' := 0) (F := fun _ => False) hsv.1 ⟨HA.out, Or.inl rfl⟩ HM.out (by omega)
  have d0 := row_cell hm 0
  have d1 := row_cell hm 1
  have d2 := row_cell hm 2
  have d3 := row_cell hm 3
  simp only [List.getElem?_toArray, List.getElem?_cons_zero, List.getElem?_cons_succ] at d0 d1 d2 d3
  have df := fun o => row_frz hm o
  obtain ⟨q, hq⟩ : ∃ q, q = measD n 0 T := ⟨_, rfl⟩
  rw [← hq]
  have HQ := Lib.hid hq
  clear hq hm hsv
  obtain ⟨q1, q2, q3, q4⟩ := q
  have HE := Lib.hid (show Ending.returned (.agg #[.bool q1, .bool q2, .int .i64 q3, .int .i64 q4]) = .returned (meV (measD n 0 T)) by rw [← HQ.out]; rfl)
  rw [show meV (q1, q2, q3, q4) = Value.agg #[.bool q1, .bool q2, .int .i64 q3, .int .i64 q4] from rfl]
  go_wp2
  refine bodyPost_ret (v := .agg #[.bool q1, .bool q2, .int .i64 q3, .int .i64 q4]) (by simp [results, Try.results84, go_sem, World.cell?_setCell_same, World.cell?_setCell_other, d0, d1, d2, d3]) rfl ⟨HE.out, ?_⟩
  exact ((((HF.out.setCell (p := ⟨w.heap.size + 1, 0, none⟩) (by show w.heap.size ≤ w.heap.size + 1; omega) _).setCell (p := ⟨w.heap.size + 1, 1, none⟩) (by show w.heap.size ≤ w.heap.size + 1; omega) _).setCell (p := ⟨w.heap.size + 1, 2, none⟩) (by show w.heap.size ≤ w.heap.size + 1; omega) _).setCell (p := ⟨w.heap.size + 1, 3, none⟩) (by show w.heap.size ≤ w.heap.size + 1; omega) _)
set_option maxHeartbeats 2000000 in
theorem checkM_any (n : Nat) (A : Nat → Prop) (K I : Int) (F : Nat) (S : ByteArray) (p : Option Addr) (l c : Nat) (T : VT n) (w : World) (hr : RepC w n A (.agg #[.int .i64 K, .int .i64 I, .float .f64 F, .string S, .slice p l c]) T) (hp : partsT n T ≤ 1000000) : Calls Try.prog 79 #[.agg #[.int .i64 K, .int .i64 I, .float .f64 F, .string S, .slice p l c]] w fun e w' => e = .returned (.int .i64 (checkM (measD n 0 T))) ∧ Below w.heap.size w w' := by
  have HR := Lib.hid (repC_keep n _ _ _ (fun b (hb : A b ∧ b < w.heap.size) => Below.heap_alloc w (.cells #[.int .i64 K, .int .i64 I, .float .f64 F, .string S, .slice p l c] 47) _ hb.2) (repC_lt n _ _ _ hr))
  have HB := Lib.hid ((Below.refl w.heap.size w).alloc (Nat.le_refl _) (.cells #[.int .i64 K, .int .i64 I, .float .f64 F, .string S, .slice p l c] 47))
  have HP := Lib.hid hp
  clear hr hp
  obtain ⟨⟨q1, q2, q3, q4⟩, hq⟩ : ∃ q, q = measD n 0 T := ⟨_, rfl⟩
  have HQ := Lib.hid hq.symm
  rw [← hq]
  clear hq
  cases h1 : q1
  · cases h2 : q2
    · by_cases h3 : 8 < q3
      · subst_vars
        have HX := Lib.hid (show Ending.returned (.int .i64 22) = .returned (.int .i64 (checkM (false, false, q3, q4))) by simp [checkM, h3])
        go_enter Try.func79, Try.ntmps79
        go_wp2_with fail
        go_at_call 84; refine (measuredM_any n _ _ T _ HR.out HP.out).mono ?_; rintro e w1 ⟨rfl, hb⟩
        have HB1 := Lib.hid (bel_step HB.out hb)
        rw [HQ.out]
        rw [show meV (false, false, q3, q4) = Value.agg #[.bool false, .bool false, .int .i64 q3, .int .i64 q4] from rfl]
        clear hb
        go_wp2
        go_ret
        exact ⟨HX.out, bel_alloc HB1.out _⟩
      · by_cases h4 : 4096 < q4
        · subst_vars
          have HX := Lib.hid (show Ending.returned (.int .i64 22) = .returned (.int .i64 (checkM (false, false, q3, q4))) by simp [checkM, h3, h4])
          go_enter Try.func79, Try.ntmps79
          go_wp2_with fail
          go_at_call 84; refine (measuredM_any n _ _ T _ HR.out HP.out).mono ?_; rintro e w1 ⟨rfl, hb⟩
          have HB1 := Lib.hid (bel_step HB.out hb)
          rw [HQ.out]
          rw [show meV (false, false, q3, q4) = Value.agg #[.bool false, .bool false, .int .i64 q3, .int .i64 q4] from rfl]
          clear hb
          go_wp2
          go_ret
          exact ⟨HX.out, bel_alloc HB1.out _⟩
        · subst_vars
          have HX := Lib.hid (show Ending.returned (.int .i64 0) = .returned (.int .i64 (checkM (false, false, q3, q4))) by simp [checkM, h3, h4])
          go_enter Try.func79, Try.ntmps79
          go_wp2_with fail
          go_at_call 84; refine (measuredM_any n _ _ T _ HR.out HP.out).mono ?_; rintro e w1 ⟨rfl, hb⟩
          have HB1 := Lib.hid (bel_step HB.out hb)
          rw [HQ.out]
          rw [show meV (false, false, q3, q4) = Value.agg #[.bool false, .bool false, .int .i64 q3, .int .i64 q4] from rfl]
          clear hb
          go_wp2
          go_ret
          exact ⟨HX.out, bel_alloc HB1.out _⟩
    · subst_vars
      have HX := Lib.hid (show Ending.returned (.int .i64 22) = .returned (.int .i64 (checkM (false, true, q3, q4))) by simp [checkM])
      go_enter Try.func79, Try.ntmps79
      go_wp2_with fail
      go_at_call 84; refine (measuredM_any n _ _ T _ HR.out HP.out).mono ?_; rintro e w1 ⟨rfl, hb⟩
      have HB1 := Lib.hid (bel_step HB.out hb)
      rw [HQ.out]
      rw [show meV (false, true, q3, q4) = Value.agg #[.bool false, .bool true, .int .i64 q3, .int .i64 q4] from rfl]
      clear hb
      go_wp2
      go_ret
      exact ⟨HX.out, bel_alloc HB1.out _⟩
  · subst_vars
    have HX := Lib.hid (show Ending.returned (.int .i64 31) = .returned (.int .i64 (checkM (true, q2, q3, q4))) by simp [checkM])
    go_enter Try.func79, Try.ntmps79
    go_wp2_with fail
    go_at_call 84; refine (measuredM_any n _ _ T _ HR.out HP.out).mono ?_; rintro e w1 ⟨rfl, hb⟩
    have HB1 := Lib.hid (bel_step HB.out hb)
    rw [HQ.out]
    rw [show meV (true, q2, q3, q4) = Value.agg #[.bool true, .bool q2, .int .i64 q3, .int .i64 q4] from rfl]
    clear hb
    go_wp2
    go_ret
    exact ⟨HX.out, bel_alloc HB1.out _⟩
end Num
end Go.Proofs.Ytomfgncbdgifoaa
/-
  What package wire reads: Read, of any bytes: no more than 4096 of them are looked at.
-/
namespace Go.Proofs.Ytomfgncbdgifoaa
open Go.RowKit
namespace Num
open Ints
set_option linter.unusedSimpArgs false
set_option linter.unusedVariables false
theorem rd_cutB {w : World} {p : Option Addr} {l c : Nat} {X : List Int} (h : RdB w p l c X) {k : Nat} (hk : k ≤ l) : RdB w p k c (X.take k) := by
  obtain ⟨h1, h2, h3, h4, h5⟩ := h
  refine ⟨by rw [List.length_take]; omega, by omega, h3, fun hm => ?_, h5⟩
  obtain ⟨b, off, e, hc⟩ := h4 (by omega)
  refine ⟨b, off, e, fun i hi => ?_⟩
  rw [List.getElem_take]
  exact hc i (by rw [List.length_take] at hi; omega)
theorem parts_list {n : Nat} (L : List (VT n)) (a : Nat) : L.foldl (fun a x => a + partsT n x) a = a + L.foldl (fun a x => a + partsT n x) 0 := by
  induction L generalizing a with
  | nil => rfl
  | cons x L ih => rw [List.foldl_cons, List.foldl_cons, ih, ih (0 + partsT n x)]; omega
theorem decL_parts {n : Nat} (h : ∀ X T j, decV n X = some (T, j) → partsT n T ≤ j) : ∀ m X L k, decL (decV n) m X = some (L, k) → L.foldl (fun a x => a + partsT n x) 0 ≤ k := by
  intro m
  induction m with
  | zero => intro X L k e; cases e; exact Nat.le_refl _
  | succ m ih =>
    intro X L k e
    rw [decL] at e
    cases h1 : decL (decV n) m X with
    | none => rw [h1] at e; cases e
    | some q =>
      obtain ⟨L1, k1⟩ := q
      rw [h1] at e
      have a := ih X L1 k1 h1
      cases h2 : decV n (X.drop k1) with
      | none => simp only [h2] at e; cases e
      | some q =>
        obtain ⟨T, j⟩ := q
        simp only [h2] at e
        have d := h _ _ _ h2
        cases e
        rw [List.foldl_append, List.foldl_cons, List.foldl_nil]
        omega
/-- A value has no more parts than bytes. -/
theorem decV_parts : ∀ n X (T : VT n) j, decV n X = some (T, j) → partsT n T ≤ j := by
  intro n
  induction n with
  | zero => intro X T j e; cases e
  | succ n ih =>
    intro X T j e
    cases X with
    | nil => cases e
    | cons k R =>
      rw [decV] at e
      by_cases h0 : (k == 0) = true
      · rw [if_pos h0] at e; cases e; exact Nat.le_refl _
      rw [if_neg h0] at e
      by_cases h1 : (k == 1) = true
      · rw [if_pos h1] at e; split at e
        · cases e; show (if ((1 : Int) == 4) = true then _ else 1) ≤ 9; rw [if_neg (by decide)]; omega
        · cases e
      rw [if_neg h1] at e
      by_cases h2 : (k == 2) = true
      · rw [if_pos h2] at e; split at e
        · cases e; show (if ((2 : Int) == 4) = true then _ else 1) ≤ 9; rw [if_neg (by decide)]; omega
        · cases e
      rw [if_neg h2] at e
      by_cases h3 : (k == 3) = true
      · rw [if_pos h3] at e; split at e
        · cases e; show (if ((3 : Int) == 4) = true then _ else 1) ≤ _; rw [if_neg (by decide)]; omega
        · cases e
      rw [if_neg h3] at e
      by_cases h4 : (k == 4) = true
      · rw [if_pos h4] at e
        cases h5 : decR (decV n) R with
        | none => rw [h5] at e; cases e
        | some q =>
          obtain ⟨L, j2⟩ := q
          rw [h5] at e
          cases e
          show (if ((4 : Int) == 4) = true then L.foldl (fun a x => a + partsT n x) 1 else 1) ≤ _
          rw [if_pos (by decide), parts_list L 1]
          cases R with
          | nil => cases h5
          | cons m R =>
            rw [decR] at h5
            cases h6 : decL (decV n) m.toNat R with
            | none => simp only [h6] at h5; cases h5
            | some q =>
              obtain ⟨L1, k1⟩ := q
              simp only [h6] at h5
              cases h5
              have := decL_parts ih _ _ _ _ h6
              omega
      · rw [if_neg h4] at e; cases e
set_option maxRecDepth 100000 in
set_option maxHeartbeats 4000000 in
theorem mread_bad (N : Nat) (w : World) (p : Option Addr) (l c : Nat) (X : List Int) (hb : RdB w p l c X) (hX : By X) (hN : l ≤ N) (hl : l ≤ 4096) (T : VT N) (j : Nat) (hd : decV N X = some (T, j)) (E : Int) (hc : checkM (measD N 0 T) = E) (hE : (E != 0) = true) :
    Calls Try.prog 69 #[.slice p l c] w fun e w' => e = .returned (.tuple #[.agg #[.int .i64 0, .int .i64 0, .float .f64 0, .string ⟨#[]⟩, .slice none 0 0], .int .i64 0, .int .i64 20]) ∧ Below w.heap.size w w' := by
  have hlc := hb.2.1
  have hcm := hb.2.2.1
  unfold maxLen at hcm
  have HB := Lib.hid (rd_keep ((Below.refl w.heap.size w).alloc (Nat.le_refl _) (.cells #[.int .i64 0, .int .i64 0, .float .f64 0, .string ⟨#[]⟩, .slice none 0 0] 47)) hb)
  have HX := Lib.hid hX
  have HD := Lib.hid hd
  have RB := Lib.hid (row_alloc w #[.int .i64 0, .int .i64 0, .float .f64 0, .string ⟨#[]⟩, .slice none 0 0] 47)
  clear hd
  have HC := Lib.hid hc
  have HPT := Lib.hid (show partsT N T ≤ 1000000 by have h1 := decV_parts _ _ _ _ HD.out; have h2 := (decV_le _ _ _ _ HD.out).2; have h3 := hb.1; (try rw [List.length_take] at h2); omega)
  clear hc
  rcases rd_p hb with ⟨rfl, rfl, rfl⟩ | ⟨ad, rfl⟩
  all_goals
    clear hb hX
    go_enter Try.func69, Try.ntmps69
    go_wp2_with fail
    go_at_call 87; refine (rv_all N _ _ _ _ X HB.out HX.out hN (by omega)).mono ?_; rintro e w1 ⟨hb1, hno, hyes⟩
    obtain ⟨v, rfl, hrep⟩ := hyes T j HD.out
    obtain ⟨K, I, F, S, q, a, d, rfl, _⟩ := repS_shape hrep
    have HB1 := Lib.hid (bel_box _ hb1)
    have hlw : w.heap.size < w1.heap.size := by have h3 := hb1.size; rw [World.size_alloc] at h3; omega
    have HR := Lib.hid (repS_keep (fun b (hb' : (w.alloc (.cells #[.int .i64 0, .int .i64 0, .float .f64 0, .string ⟨#[]⟩, .slice none 0 0] 47)).heap.size ≤ b ∧ b < w1.heap.size) => Below.heap_alloc w1 (.cells #[.int .i64 K, .int .i64 I, .float .f64 F, .string S, .slice q a d] 47) b hb'.2) _ _ _ (repS_lt _ _ _ hrep))
    have HS := Lib.hid hrep
    have RB1 := Lib.hid (row_alloc_step (row_step RB.out hb1) (.cells #[.int .i64 K, .int .i64 I, .float .f64 F, .string S, .slice q a d] 47))
    have RV1 := Lib.hid (row_alloc w1 #[.int .i64 K, .int .i64 I, .float .f64 F, .string S, .slice q a d] 47)
    clear hb1 hno hyes hrep
    go_wp2_with fail
    go_at_call 79; refine (checkM_any N _ K I F S q a d T _ HR.out HPT.out).mono ?_; rintro e w2 ⟨rfl, hb2⟩
    rw [HC.out]
    have HB2 := Lib.hid (bel_step (bel_alloc HB1.out _) hb2)
    have hr1 := row_step RB1.out hb2
    have hv1 := row_step RV1.out hb2
    have d0 := row_cell hr1 0; have d1 := row_cell hr1 1; have d2 := row_cell hr1 2; have d3 := row_cell hr1 3; have d4 := row_cell hr1 4
    have k0 := row_cell hv1 0; have k1 := row_cell hv1 1; have k2 := row_cell hv1 2; have k3 := row_cell hv1 3; have k4 := row_cell hv1 4
    simp only [List.getElem?_toArray, List.getElem?_cons_zero, List.getElem?_cons_succ] at d0 d1 d2 d3 d4 k0 k1 k2 k3 k4
    have df := fun o => row_frz hr1 o
    have hlt := row_lt hr1
    have hne : w.heap.size ≠ w1.heap.size := by omega
    have ha := fun (o : Obj) (v0 v1 v2 v3 v4 : Value) (i : Nat) => cell_alloc5 hlt o v0 v1 v2 v3 v4 i
    clear hr1 hv1 hb2
    go_wp2
    skip
    refine bodyPost_ret (v := .tuple #[.agg #[.int .i64 0, .int .i64 0, .float .f64 0, .string ⟨#[]⟩, .slice none 0 0], .int .i64 0, .int .i64 20]) (by simp [results, Try.results69, go_sem, ha, World.cell?_setCell_same, World.cell?_setCell_other, d0, d1, d2, d3, d4]) rfl ?_
    exact ⟨rfl, bel_set5 HB2.out (Nat.le_refl _) _ _ _ _ _⟩
set_option maxRecDepth 100000 in
set_option maxHeartbeats 4000000 in
theorem mread_ok (N : Nat) (w : World) (p : Option Addr) (l c : Nat) (X : List Int) (hb : RdB w p l c X) (hX : By X) (hN : l ≤ N) (hl : l ≤ 4096) (T : VT N) (j : Nat) (hd : decV N X = some (T, j)) (hj : j ≤ 100000) (hc : checkM (measD N 0 T) = 0) :
    Calls Try.prog 69 #[.slice p l c] w fun e w' => ∃ v, e = .returned (.tuple #[v, .int .i64 (j : Int), .int .i64 0]) ∧ Below w.heap.size w w' ∧ RepS (fun b => w.heap.size < b) w' N v T := by
  have hlc := hb.2.1
  have hcm := hb.2.2.1
  unfold maxLen at hcm
  have HB := Lib.hid (rd_keep ((Below.refl w.heap.size w).alloc (Nat.le_refl _) (.cells #[.int .i64 0, .int .i64 0, .float .f64 0, .string ⟨#[]⟩, .slice none 0 0] 47)) hb)
  have HX := Lib.hid hX
  have HD := Lib.hid hd
  have RB := Lib.hid (row_alloc w #[.int .i64 0, .int .i64 0, .float .f64 0, .string ⟨#[]⟩, .slice none 0 0] 47)
  clear hd
  have HC := Lib.hid hc
  have HPT := Lib.hid (show partsT N T ≤ 1000000 by have h1 := decV_parts _ _ _ _ HD.out; have h2 := (decV_le _ _ _ _ HD.out).2; have h3 := hb.1; (try rw [List.length_take] at h2); omega)
  clear hc
  rcases rd_p hb with ⟨rfl, rfl, rfl⟩ | ⟨ad, rfl⟩
  all_goals
    clear hb hX
    go_enter Try.func69, Try.ntmps69
    go_wp2_with fail
    go_at_call 87; refine (rv_all N _ _ _ _ X HB.out HX.out hN (by omega)).mono ?_; rintro e w1 ⟨hb1, hno, hyes⟩
    obtain ⟨v, rfl, hrep⟩ := hyes T j HD.out
    obtain ⟨K, I, F, S, q, a, d, rfl, _⟩ := repS_shape hrep
    have HB1 := Lib.hid (bel_box _ hb1)
    have hlw : w.heap.size < w1.heap.size := by have h3 := hb1.size; rw [World.size_alloc] at h3; omega
    have HR := Lib.hid (repS_keep (fun b (hb' : (w.alloc (.cells #[.int .i64 0, .int .i64 0, .float .f64 0, .string ⟨#[]⟩, .slice none 0 0] 47)).heap.size ≤ b ∧ b < w1.heap.size) => Below.heap_alloc w1 (.cells #[.int .i64 K, .int .i64 I, .float .f64 F, .string S, .slice q a d] 47) b hb'.2) _ _ _ (repS_lt _ _ _ hrep))
    have HS := Lib.hid hrep
    have RB1 := Lib.hid (row_alloc_step (row_step RB.out hb1) (.cells #[.int .i64 K, .int .i64 I, .float .f64 F, .string S, .slice q a d] 47))
    have RV1 := Lib.hid (row_alloc w1 #[.int .i64 K, .int .i64 I, .float .f64 F, .string S, .slice q a d] 47)
    clear hb1 hno hyes hrep
    go_wp2_with fail
    go_at_call 79; refine (checkM_any N _ K I F S q a d T _ HR.out HPT.out).mono ?_; rintro e w2 ⟨rfl, hb2⟩
    rw [HC.out]
    have HB2 := Lib.hid (bel_step (bel_alloc HB1.out _) hb2)
    have hr1 := row_step RB1.out hb2
    have hv1 := row_step RV1.out hb2
    have d0 := row_cell hr1 0; have d1 := row_cell hr1 1; have d2 := row_cell hr1 2; have d3 := row_cell hr1 3; have d4 := row_cell hr1 4
    have k0 := row_cell hv1 0; have k1 := row_cell hv1 1; have k2 := row_cell hv1 2; have k3 := row_cell hv1 3; have k4 := row_cell hv1 4
    simp only [List.getElem?_toArray, List.getElem?_cons_zero, List.getElem?_cons_succ] at d0 d1 d2 d3 d4 k0 k1 k2 k3 k4
    have df := fun o => row_frz hr1 o
    have hlt := row_lt hr1
    have hne : w.heap.size ≠ w1.heap.size := by omega
    have hrep2 := repS_keep (fun b (hb' : w.heap.size < b ∧ b < w1.heap.size) => ((hb2.block b (by rw [World.size_alloc]; omega)).trans (Below.heap_alloc w1 (.cells #[.int .i64 K, .int .i64 I, .float .f64 F, .string S, .slice q a d] 47) b hb'.2)).symm.symm) _ _ _ (repS_mono (fun b (h : (w.alloc (.cells #[.int .i64 0, .int .i64 0, .float .f64 0, .string ⟨#[]⟩, .slice none 0 0] 47)).heap.size ≤ b ∧ b < w1.heap.size) => (⟨by have h3 := h.1; rw [World.size_alloc] at h3; omega, h.2⟩ : w.heap.size < b ∧ b < w1.heap.size)) _ _ _ (repS_lt _ _ _ HS.out))
    have HS2 := Lib.hid (repS_mono (fun b h => h.1) _ _ _ hrep2)
    clear hrep2
    have ha := fun (o : Obj) (v0 v1 v2 v3 v4 : Value) (i : Nat) => cell_alloc5 hlt o v0 v1 v2 v3 v4 i
    clear hr1 hv1 hb2
    go_wp2
    refine bodyPost_ret (v := .tuple #[.agg #[.int .i64 K, .int .i64 I, .float .f64 F, .string S, .slice q a d], .int .i64 (j : Int), .int .i64 0]) (by simp [results, Try.results69, go_sem, ha, World.cell?_setCell_same, World.cell?_setCell_other, d0, d1, d2, d3, d4]) rfl ?_
    exact ⟨_, rfl, bel_set5 HB2.out (Nat.le_refl _) _ _ _ _ _, repS_keep (fun b h => set5_heap (by omega) _ _ _ _ _) _ _ _ HS2.out⟩
set_option maxRecDepth 100000 in
set_option maxHeartbeats 4000000 in
theorem gread_no (N : Nat) (w : World) (p : Option Addr) (l c : Nat) (X : List Int) (hb : RdB w p l c X) (hX : By X) (hN : 4096 ≤ N) (hl : 4096 < l) (hl2 : l ≤ 1000000) (hd : decV N (X.take 4096) = none) :
    Calls Try.prog 69 #[.slice p l c] w fun e w' => e = .returned (.tuple #[.agg #[.int .i64 0, .int .i64 0, .float .f64 0, .string ⟨#[]⟩, .slice none 0 0], .int .i64 0, .int .i64 20]) ∧ Below w.heap.size w w' := by
  have hlc := hb.2.1
  have hcm := hb.2.2.1
  unfold maxLen at hcm
  have HB := Lib.hid (rd_keep ((Below.refl w.heap.size w).alloc (Nat.le_refl _) (.cells #[.int .i64 0, .int .i64 0, .float .f64 0, .string ⟨#[]⟩, .slice none 0 0] 47)) (rd_cutB hb (k := 4096) (by omega)))
  have HX := Lib.hid (by_take hX 4096)
  have hl4 : ¬ ((l : Int) < 4096) := by omega
  have hl5 : (4096 : Int) < (l : Int) := by omega
  have HD := Lib.hid hd
  have RB := Lib.hid (row_alloc w #[.int .i64 0, .int .i64 0, .float .f64 0, .string ⟨#[]⟩, .slice none 0 0] 47)
  clear hd
  rcases rd_p hb with ⟨rfl, h0, rfl⟩ | ⟨ad, rfl⟩
  · exact absurd h0 (by omega)
  all_goals
    clear hb hX
    go_enter Try.func69, Try.ntmps69
    go_wp2_with fail
    go_at_call 87; refine (rv_all N _ _ _ _ (X.take 4096) HB.out HX.out hN (by omega)).mono ?_; rintro e w1 ⟨hb1, hno, hyes⟩
    obtain ⟨K, I, F, S, q, a, d, m, rfl⟩ := hno HD.out
    have HB1 := Lib.hid (bel_box _ hb1)
    have hr1 := row_step RB.out hb1
    have d0 := row_cell hr1 0
    have d1 := row_cell hr1 1
    have d2 := row_cell hr1 2
    have d3 := row_cell hr1 3
    have d4 := row_cell hr1 4
    simp only [List.getElem?_toArray, List.getElem?_cons_zero, List.getElem?_cons_succ] at d0 d1 d2 d3 d4
    have df := fun o => row_frz hr1 o
    have hlt := row_lt hr1
    have hne : w.heap.size ≠ w1.heap.size := by omega
    have ha := fun (o : Obj) (v0 v1 v2 v3 v4 : Value) (i : Nat) => cell_alloc5 hlt o v0 v1 v2 v3 v4 i
    clear hb1 hno hyes hr1
    go_wp2
    refine bodyPost_ret (v := .tuple #[.agg #[.int .i64 0, .int .i64 0, .float .f64 0, .string ⟨#[]⟩, .slice none 0 0], .int .i64 0, .int .i64 20]) (by simp [results, Try.results69, go_sem, ha, World.cell?_setCell_same, World.cell?_setCell_other, d0, d1, d2, d3, d4]) rfl ?_
    exact ⟨rfl, bel_alloc (bel_set5 HB1.out (Nat.le_refl _) _ _ _ _ _) _⟩
set_option maxRecDepth 100000 in
set_option maxHeartbeats 4000000 in
theorem gread_bad (N : Nat) (w : World) (p : Option Addr) (l c : Nat) (X : List Int) (hb : RdB w p l c X) (hX : By X) (hN : 4096 ≤ N) (hl : 4096 < l) (hl2 : l ≤ 1000000) (T : VT N) (j : Nat) (hd : decV N (X.take 4096) = some (T, j)) (E : Int) (hc : checkM (measD N 0 T) = E) (hE : (E != 0) = true) :
    Calls Try.prog 69 #[.slice p l c] w fun e w' => e = .returned (.tuple #[.agg #[.int .i64 0, .int .i64 0, .float .f64 0, .string ⟨#[]⟩, .slice none 0 0], .int .i64 0, .int .i64 20]) ∧ Below w.heap.size w w' := by
  have hlc := hb.2.1
  have hcm := hb.2.2.1
  unfold maxLen at hcm
  have HB := Lib.hid (rd_keep ((Below.refl w.heap.size w).alloc (Nat.le_refl _) (.cells #[.int .i64 0, .int .i64 0, .float .f64 0, .string ⟨#[]⟩, .slice none 0 0] 47)) (rd_cutB hb (k := 4096) (by omega)))
  have HX := Lib.hid (by_take hX 4096)
  have hl4 : ¬ ((l : Int) < 4096) := by omega
  have hl5 : (4096 : Int) < (l : Int) := by omega
  have HD := Lib.hid hd
  have RB := Lib.hid (row_alloc w #[.int .i64 0, .int .i64 0, .float .f64 0, .string ⟨#[]⟩, .slice none 0 0] 47)
  clear hd
  have HC := Lib.hid hc
  have HPT := Lib.hid (show partsT N T ≤ 1000000 by have h1 := decV_parts _ _ _ _ HD.out; have h2 := (decV_le _ _ _ _ HD.out).2; have h3 := hb.1; (try rw [List.length_take] at h2); omega)
  clear hc
  rcases rd_p hb with ⟨rfl, h0, rfl⟩ | ⟨ad, rfl⟩
  · exact absurd h0 (by omega)
  all_goals
    clear hb hX
    go_enter Try.func69, Try.ntmps69
    go_wp2_with fail
    go_at_call 87; refine (rv_all N _ _ _ _ (X.take 4096) HB.out HX.out hN (by omega)).mono ?_; rintro e w1 ⟨hb1, hno, hyes⟩
    obtain ⟨v, rfl, hrep⟩ := hyes T j HD.out
    obtain ⟨K, I, F, S, q, a, d, rfl, _⟩ := repS_shape hrep
    have HB1 := Lib.hid (bel_box _ hb1)
    have hlw : w.heap.size < w1.heap.size := by have h3 := hb1.size; rw [World.size_alloc] at h3; omega
    have HR := Lib.hid (repS_keep (fun b (hb' : (w.alloc (.cells #[.int .i64 0, .int .i64 0, .float .f64 0, .string ⟨#[]⟩, .slice none 0 0] 47)).heap.size ≤ b ∧ b < w1.heap.size) => Below.heap_alloc w1 (.cells #[.int .i64 K, .int .i64 I, .float .f64 F, .string S, .slice q a d] 47) b hb'.2) _ _ _ (repS_lt _ _ _ hrep))
    have HS := Lib.hid hrep
    have RB1 := Lib.hid (row_alloc_step (row_step RB.out hb1) (.cells #[.int .i64 K, .int .i64 I, .float .f64 F, .string S, .slice q a d] 47))
    have RV1 := Lib.hid (row_alloc w1 #[.int .i64 K, .int .i64 I, .float .f64 F, .string S, .slice q a d] 47)
    clear hb1 hno hyes hrep
    go_wp2_with fail
    go_at_call 79; refine (checkM_any N _ K I F S q a d T _ HR.out HPT.out).mono ?_; rintro e w2 ⟨rfl, hb2⟩
    rw [HC.out]
    have HB2 := Lib.hid (bel_step (bel_alloc HB1.out _) hb2)
    have hr1 := row_step RB1.out hb2
    have hv1 := row_step RV1.out hb2
    have d0 := row_cell hr1 0; have d1 := row_cell hr1 1; have d2 := row_cell hr1 2; have d3 := row_cell hr1 3; have d4 := row_cell hr1 4
    have k0 := row_cell hv1 0; have k1 := row_cell hv1 1; have k2 := row_cell hv1 2; have k3 := row_cell hv1 3; have k4 := row_cell hv1 4
    simp only [List.getElem?_toArray, List.getElem?_cons_zero, List.getElem?_cons_succ] at d0 d1 d2 d3 d4 k0 k1 k2 k3 k4
    have df := fun o => row_frz hr1 o
    have hlt := row_lt hr1
    have hne : w.heap.size ≠ w1.heap.size := by omega
    have ha := fun (o : Obj) (v0 v1 v2 v3 v4 : Value) (i : Nat) => cell_alloc5 hlt o v0 v1 v2 v3 v4 i
    clear hr1 hv1 hb2
    go_wp2
    skip
    refine bodyPost_ret (v := .tuple #[.agg #[.int .i64 0, .int .i64 0, .float .f64 0, .string ⟨#[]⟩, .slice none 0 0], .int .i64 0, .int .i64 20]) (by simp [results, Try.results69, go_sem, ha, World.cell?_setCell_same, World.cell?_setCell_other, d0, d1, d2, d3, d4]) rfl ?_
    exact ⟨rfl, bel_set5 HB2.out (Nat.le_refl _) _ _ _ _ _⟩
set_option maxRecDepth 100000 in
set_option maxHeartbeats 4000000 in
theorem gread_ok (N : Nat) (w : World) (p : Option Addr) (l c : Nat) (X : List Int) (hb : RdB w p l c X) (hX : By X) (hN : 4096 ≤ N) (hl : 4096 < l) (hl2 : l ≤ 1000000) (T : VT N) (j : Nat) (hd : decV N (X.take 4096) = some (T, j)) (hj : j ≤ 100000) (hc : checkM (measD N 0 T) = 0) :
    Calls Try.prog 69 #[.slice p l c] w fun e w' => ∃ v, e = .returned (.tuple #[v, .int .i64 (j : Int), .int .i64 0]) ∧ Below w.heap.size w w' ∧ RepS (fun b => w.heap.size < b) w' N v T := by
  have hlc := hb.2.1
  have hcm := hb.2.2.1
  unfold maxLen at hcm
  have HB := Lib.hid (rd_keep ((Below.refl w.heap.size w).alloc (Nat.le_refl _) (.cells #[.int .i64 0, .int .i64 0, .float .f64 0, .string ⟨#[]⟩, .slice none 0 0] 47)) (rd_cutB hb (k := 4096) (by omega)))
  have HX := Lib.hid (by_take hX 4096)
  have hl4 : ¬ ((l : Int) < 4096) := by omega
  have hl5 : (4096 : Int) < (l : Int) := by omega
  have HD := Lib.hid hd
  have RB := Lib.hid (row_alloc w #[.int .i64 0, .int .i64 0, .float .f64 0, .string ⟨#[]⟩, .slice none 0 0] 47)
  clear hd
  have HC := Lib.hid hc
  have HPT := Lib.hid (show partsT N T ≤ 1000000 by have h1 := decV_parts _ _ _ _ HD.out; have h2 := (decV_le _ _ _ _ HD.out).2; have h3 := hb.1; (try rw [List.length_take] at h2); omega)
  clear hc
  rcases rd_p hb with ⟨rfl, h0, rfl⟩ | ⟨ad, rfl⟩
  · exact absurd h0 (by omega)
  all_goals
    clear hb hX
    go_enter Try.func69, Try.ntmps69
    go_wp2_with fail
    go_at_call 87; refine (rv_all N _ _ _ _ (X.take 4096) HB.out HX.out hN (by omega)).mono ?_; rintro e w1 ⟨hb1, hno, hyes⟩
    obtain ⟨v, rfl, hrep⟩ := hyes T j HD.out
    obtain ⟨K, I, F, S, q, a, d, rfl, _⟩ := repS_shape hrep
    have HB1 := Lib.hid (bel_box _ hb1)
    have hlw : w.heap.size < w1.heap.size := by have h3 := hb1.size; rw [World.size_alloc] at h3; omega
    have HR := Lib.hid (repS_keep (fun b (hb' : (w.alloc (.cells #[.int .i64 0, .int .i64 0, .float .f64 0, .string ⟨#[]⟩, .slice none 0 0] 47)).heap.size ≤ b ∧ b < w1.heap.size) => Below.heap_alloc w1 (.cells #[.int .i64 K, .int .i64 I, .float .f64 F, .string S, .slice q a d] 47) b hb'.2) _ _ _ (repS_lt _ _ _ hrep))
    have HS := Lib.hid hrep
    have RB1 := Lib.hid (row_alloc_step (row_step RB.out hb1) (.cells #[.int .i64 K, .int .i64 I, .float .f64 F, .string S, .slice q a d] 47))
    have RV1 := Lib.hid (row_alloc w1 #[.int .i64 K, .int .i64 I, .float .f64 F, .string S, .slice q a d] 47)
    clear hb1 hno hyes hrep
    go_wp2_with fail
    go_at_call 79; refine (checkM_any N _ K I F S q a d T _ HR.out HPT.out).mono ?_; rintro e w2 ⟨rfl, hb2⟩
    rw [HC.out]
    have HB2 := Lib.hid (bel_step (bel_alloc HB1.out _) hb2)
    have hr1 := row_step RB1.out hb2
    have hv1 := row_step RV1.out hb2
    have d0 := row_cell hr1 0; have d1 := row_cell hr1 1; have d2 := row_cell hr1 2; have d3 := row_cell hr1 3; have d4 := row_cell hr1 4
    have k0 := row_cell hv1 0; have k1 := row_cell hv1 1; have k2 := row_cell hv1 2; have k3 := row_cell hv1 3; have k4 := row_cell hv1 4
    simp only [List.getElem?_toArray, List.getElem?_cons_zero, List.getElem?_cons_succ] at d0 d1 d2 d3 d4 k0 k1 k2 k3 k4
    have df := fun o => row_frz hr1 o
    have hlt := row_lt hr1
    have hne : w.heap.size ≠ w1.heap.size := by omega
    have hrep2 := repS_keep (fun b (hb' : w.heap.size < b ∧ b < w1.heap.size) => ((hb2.block b (by rw [World.size_alloc]; omega)).trans (Below.heap_alloc w1 (.cells #[.int .i64 K, .int .i64 I, .float .f64 F, .string S, .slice q a d] 47) b hb'.2)).symm.symm) _ _ _ (repS_mono (fun b (h : (w.alloc (.cells #[.int .i64 0, .int .i64 0, .float .f64 0, .string ⟨#[]⟩, .slice none 0 0] 47)).heap.size ≤ b ∧ b < w1.heap.size) => (⟨by have h3 := h.1; rw [World.size_alloc] at h3; omega, h.2⟩ : w.heap.size < b ∧ b < w1.heap.size)) _ _ _ (repS_lt _ _ _ HS.out))
    have HS2 := Lib.hid (repS_mono (fun b h => h.1) _ _ _ hrep2)
    clear hrep2
    have ha := fun (o : Obj) (v0 v1 v2 v3 v4 : Value) (i : Nat) => cell_alloc5 hlt o v0 v1 v2 v3 v4 i
    clear hr1 hv1 hb2
    go_wp2
    refine bodyPost_ret (v := .tuple #[.agg #[.int .i64 K, .int .i64 I, .float .f64 F, .string S, .slice q a d], .int .i64 (j : Int), .int .i64 0]) (by simp [results, Try.results69, go_sem, ha, World.cell?_setCell_same, World.cell?_setCell_other, d0, d1, d2, d3, d4]) rfl ?_
    exact ⟨_, rfl, bel_set5 HB2.out (Nat.le_refl _) _ _ _ _ _, repS_keep (fun b h => set5_heap (by omega) _ _ _ _ _) _ _ _ HS2.out⟩
end Num
end Go.Proofs.Ytomfgncbdgifoaa
