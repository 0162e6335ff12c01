/-
  The survey of package value: what it measures of a value of at most a thousand parts, in which no memo is kept.
-/
import Derived.Test.YteodljkcbddehaaJMI
import Derived.Test.YteodljkcbddehaaJp4VTree
import Derived.Deep.RegionWith
import Derived.RegionTactic
import Derived.Test.YteodljkcbddehaaJp3VBase
import Derived.Test.YteodljkcbddehaaJp2Flo
import Derived.Deep.QuietTactic
import Derived.BigQuiet
namespace Go.Proofs.Yteodljkcbddehaa
open Go.RowKit
namespace Num
open Ints
set_option linter.unusedSimpArgs false
set_option linter.unusedVariables false
def SvAt (w : World) (sb : Nat) (vis : Int) : Prop := w.heap[sb]? = some (.cells #[.int .i64 vis, .map none] 91 (0, 0))
def Sv (w w' : World) (sb : Nat) (vis : Int) (k : Nat) : Prop := w.grownBy w' (some sb) ∧ ∃ vis', vis ≤ vis' ∧ vis' ≤ vis + k ∧ SvAt w' sb vis'
def SvValue (n : Nat) : Prop := ∀ (T : VT n) (v : Value) (m : Nat) (lev vis : Int) (w0 w : World) (sb : Nat), Rep w0 n v T → Below w0.heap.size w0 w → w0.heap.size ≤ sb → SvAt w sb vis → deepT n T m = false → 0 ≤ lev → lev + m ≤ 64 → 0 ≤ vis → vis + partsT n T ≤ 1000 →
  Calls Try.prog 67 #[.pointer (some ⟨sb, 0, none⟩), v, .int .i64 lev] w fun e w' => e = .returned (meV (measT n T)) ∧ Sv w w' sb vis (partsT n T)
def SvList (n : Nat) : Prop := ∀ (L : List (VT n)) (p : Option Addr) (l c m : Nat) (lev vis : Int) (w0 w : World) (sb : Nat), RepL w0 (Rep w0 n) p l c L → Below w0.heap.size w0 w → w0.heap.size ≤ sb → SvAt w sb vis → (∀ x ∈ L, deepT n x m = false) → 0 ≤ lev → lev + m ≤ 64 → 0 ≤ vis → vis + (L.foldl (fun a x => a + partsT n x) 0 : Nat) ≤ 1000 →
  Calls Try.prog 79 #[.pointer (some ⟨sb, 0, none⟩), .slice p l c, .int .i64 lev] w fun e w' => e = .returned (meV (L.foldl (fun a x => withM a (measT n x)) (false, decide (64 < (L.length : Int)), 1, 2))) ∧ Sv w w' sb vis (L.foldl (fun a x => a + partsT n x) 0)
theorem setCell_row {w : World} {b : Nat} {x0 x1 : Value} {t : TypeId} (h : w.heap[b]? = some (.cells #[x0, x1] t (0, 0))) (v : Value) : (w.setCell ⟨b, 0, none⟩ v).heap[b]? = some (.cells #[v, x1] t (0, 0)) := by
  simp [World.setCell, Array.getElem?_modify, h]
theorem grown_setCell (w : World) (b : Nat) (o : Nat) (v : Value) : w.grownBy (w.setCell ⟨b, o, none⟩ v) (some b) := by
  refine ⟨rfl, rfl, rfl, by simp, fun i hi hne => ?_⟩
  exact Below.heap_setCell _ _ _ _ (fun e => hne (by rw [e]))
theorem sv_start {w : World} {sb : Nat} {vis : Int} (h : SvAt w sb vis) (o1 o2 : Obj) : w.grownBy (((w.setCell ⟨sb, 0, none⟩ (.int .i64 (vis + 1))).alloc o1).alloc o2) (some sb) ∧ SvAt (((w.setCell ⟨sb, 0, none⟩ (.int .i64 (vis + 1))).alloc o1).alloc o2) sb (vis + 1) :=
  ⟨((grown_setCell w sb 0 _).trans (World.grownBy_alloc _ _ _)).trans (World.grownBy_alloc _ _ _), row_alloc_step (row_alloc_step (setCell_row h _) _) _⟩
theorem parts_shift {n : Nat} (L : List (VT n)) : ∀ a : Nat, L.foldl (fun a x => a + partsT n x) (a + 1) = L.foldl (fun a x => a + partsT n x) a + 1 := by
  induction L with
  | nil => intro a; rfl
  | cons x xs ih => intro a; rw [List.foldl_cons, List.foldl_cons, Nat.add_right_comm, ih]
theorem grown_new {w w1 : World} {row : Option Nat} (h : w.grownBy w1 row) {nb : Nat} (hn : w.heap.size ≤ nb) (o : Nat) (v : Value) : w.grownBy (w1.setCell ⟨nb, o, none⟩ v) row :=
  ⟨h.os, h.tape, h.output, by simpa using h.size, fun i hi hne => (Below.heap_setCell _ _ _ _ (by show i ≠ nb; omega)).trans (h.block i hi hne)⟩
theorem sv_at_new {w : World} {sb : Nat} {vis : Int} (h : SvAt w sb vis) {nb : Nat} (hn : sb ≠ nb) (o : Nat) (v : Value) : SvAt (w.setCell ⟨nb, o, none⟩ v) sb vis :=
  (Below.heap_setCell _ _ _ _ hn).trans h
theorem sv_set4 {w w1 : World} {sb : Nat} {vis : Int} {k : Nat} (h : Sv w w1 sb vis k) {nb : Nat} (hn : w.heap.size ≤ nb) (hs : sb ≠ nb) (v0 v1 v2 v3 : Value) : Sv w ((((w1.setCell ⟨nb, 0, none⟩ v0).setCell ⟨nb, 1, none⟩ v1).setCell ⟨nb, 2, none⟩ v2).setCell ⟨nb, 3, none⟩ v3) sb vis k := by
  obtain ⟨hg, vis', a, b, c⟩ := h
  exact ⟨grown_new (grown_new (grown_new (grown_new hg hn _ _) hn _ _) hn _ _) hn _ _, vis', a, b, sv_at_new (sv_at_new (sv_at_new (sv_at_new c hs _ _) hs _ _) hs _ _) hs _ _⟩
theorem sv_trans {w W w1 : World} {sb : Nat} {vis : Int} {k j : Nat} (hg : w.grownBy W (some sb)) (h : Sv W w1 sb (vis + j) k) : Sv w w1 sb vis (k + j) := by
  obtain ⟨hg2, vis', a, b, c⟩ := h
  exact ⟨hg.trans hg2, vis', by omega, by omega, c⟩
theorem sv_value_zero : SvValue 0 := fun T v m lev vis w0 w sb h => h.elim
set_option maxHeartbeats 2000000 in
theorem sv_value_succ (n : Nat) (hl : SvList n) : SvValue (n + 1) := by
  intro T v m lev vis w0 w sb hr hB hs hat hd hlev hlm hv0 hvp
  obtain ⟨K, I, F, S, L⟩ := T
  obtain ⟨p, l, c, rfl, _, _, _, hS, hL⟩ := hr
  unfold maxLen at hS
  have c0 : w.cell? ⟨sb, 0, none⟩ = some (.int .i64 vis) := rc hat 0
  have f0 : w.frozen? ⟨sb, 0, none⟩ = false := row_frz hat 0
  have hlt := row_lt hat
  have hne : sb ≠ w.heap.size := by omega
  have hv1 : vis ≤ 999 := by
    have : 1 ≤ partsT (n + 1) (K, I, F, S, L) := by
      cases h4 : (K == 4)
      · rw [partsT_else h4]; omega
      · rw [partsT_list h4]; exact foldl_parts _ _
    omega
  have HAT := Lib.hid hat
  have HB := Lib.hid hB
  have HL := Lib.hid hL
  have HP := Lib.hid hvp
  have HD := Lib.hid hd
  have HLI := Lib.hid hl
  clear hat hB hL hvp hd hl
  have fin : ∀ (m : Me) (o1 o2 : Obj), measT (n + 1) (K, I, F, S, L) = m → Ending.returned (meV m) = .returned (meV (measT (n + 1) (K, I, F, S, L))) ∧ Sv w (((w.setCell ⟨sb, 0, none⟩ (.int .i64 (vis + 1))).alloc o1).alloc o2) sb vis (partsT (n + 1) (K, I, F, S, L)) := by
    intro m o1 o2 e
    have hp : 1 ≤ partsT (n + 1) (K, I, F, S, L) := by
      cases h4 : (K == 4)
      · rw [partsT_else h4]; omega
      · rw [partsT_list h4]; exact foldl_parts _ _
    exact ⟨by rw [e], (sv_start HAT.out o1 o2).1, vis + 1, by omega, by omega, (sv_start HAT.out o1 o2).2⟩
  have FIN := Lib.hid fin
  clear fin
  cases h0 : (K == 0)
  · cases h1 : (K == 1)
    · cases h2 : (K == 2)
      · cases h3 : (K == 3)
        · cases h4 : (K == 4)
          · go_enter Try.func67, Try.ntmps67
            go_wp2
            exact bodyPost_ret (v := .agg #[.bool true, .bool false, .int .i64 0, .int .i64 1]) (by simp [results, Try.results67, go_sem]) rfl (FIN.out (true, false, 0, 1) _ _ (measT_else h0 (by rw [h1, h2]; rfl) h3 h4))
          · cases m with
            | zero => exact absurd HD.out (by rw [deepT_zero h4]; simp)
            | succ m =>
            have hdl : ∀ x ∈ L, deepT n x m = false := by
              have := HD.out
              rw [deepT_succ h4] at this
              exact fun x hx => by simpa using (List.any_eq_false.1 this) x hx
            have HDL := Lib.hid hdl
            have hpl : vis + 1 + (L.foldl (fun a x => a + partsT n x) 0 : Nat) ≤ 1000 ∧ partsT (n + 1) (K, I, F, S, L) = L.foldl (fun a x => a + partsT n x) 0 + 1 := by
              have e : partsT (n + 1) (K, I, F, S, L) = L.foldl (fun a x => a + partsT n x) 0 + 1 := by
                rw [partsT_list h4, ← parts_shift]
              have := HP.out
              rw [e] at this
              exact ⟨by omega, e⟩
            have HPL := Lib.hid hpl
            obtain ⟨hg1, ha1⟩ := sv_start HAT.out (.cells #[.int .i64 K, .int .i64 I, .float .f64 F, .string S, .slice p l c] 27) (.cells #[.bool false, .bool false, .int .i64 0, .int .i64 0] 77)
            have HG1 := Lib.hid hg1
            have HA1 := Lib.hid ha1
            have HB1 := Lib.hid (Below.grown HB.out hg1 HB.out.size (fun k hk => by cases hk; exact hs))
            have RR := Lib.hid (row_alloc ((w.setCell ⟨sb, 0, none⟩ (.int .i64 (vis + 1))).alloc (.cells #[.int .i64 K, .int .i64 I, .float .f64 F, .string S, .slice p l c] 27)) #[.bool false, .bool false, .int .i64 0, .int .i64 0] 77)
            have H := Lib.hid (show Ending.returned (meV (L.foldl (fun a x => withM a (measT n x)) (false, decide (64 < (L.length : Int)), 1, 2))) = .returned (meV (measT (n + 1) (K, I, F, S, L))) by rw [measT_list h0 (by rw [h1, h2]; rfl) h3 h4])
            clear hdl hpl hg1 ha1
            simp only [World.size_alloc, World.size_setCell] at RR
            go_enter Try.func67, Try.ntmps67
            go_wp2_with fail
            go_at_call 79; refine (HLI.out L p l c m (lev + 1) (vis + 1) w0 _ sb HL.out HB1.out hs HA1.out HDL.out (by omega) (by omega) (by omega) HPL.out.1).mono ?_; rintro e w1 ⟨rfl, hsv⟩
            have HSV := Lib.hid hsv
            clear hsv
            have hrr := row_grown RR.out HSV.out.1 (by simp; omega)
            obtain ⟨q, hq⟩ : ∃ q, q = L.foldl (fun a x => withM a (measT n x)) (false, decide (64 < (L.length : Int)), 1, 2) := ⟨_, rfl⟩
            rw [← hq]
            rw [← hq] at H
            clear hq
            obtain ⟨q1, q2, q3, q4⟩ := q
            rw [show meV (q1, q2, q3, q4) = Value.agg #[.bool q1, .bool q2, .int .i64 q3, .int .i64 q4] from rfl]
            have d0 := rc hrr 0
            have d1 := rc hrr 1
            have d2 := rc hrr 2
            have d3 := rc hrr 3
            simp only [lk0, lk1, lk2] at d0 d1 d2 d3
            have e0 := row_frz hrr 0
            have e1 := row_frz hrr 1
            have e2 := row_frz hrr 2
            have e3 := row_frz hrr 3
            have HRR := Lib.hid hrr
            clear hrr c0 f0
            go_wp2
            refine bodyPost_ret (v := .agg #[.bool q1, .bool q2, .int .i64 q3, .int .i64 q4]) (by simp [results, Try.results67, go_sem, World.cell?_setCell_same, World.cell?_setCell_other, d0, d1, d2, d3]) rfl ⟨H.out, ?_⟩
            rw [HPL.out.2]
            exact sv_set4 (sv_trans (j := 1) HG1.out HSV.out) (by omega) (by omega) _ _ _ _
        · by_cases h256 : 256 < (S.size : Int)
          · go_enter Try.func67, Try.ntmps67
            go_wp2
            exact bodyPost_ret (v := .agg #[.bool false, .bool true, .int .i64 0, .int .i64 (wrap64 (3 + (S.size : Int)))]) (by simp [results, Try.results67, go_sem]) rfl (FIN.out (false, true, 0, wrap64 (3 + (S.size : Int))) _ _ ((measT_text h0 (by rw [h1, h2]; rfl) h3).trans (by simp [h256])))
          · go_enter Try.func67, Try.ntmps67
            go_wp2
            exact bodyPost_ret (v := .agg #[.bool false, .bool false, .int .i64 0, .int .i64 (3 + (S.size : Int))]) (by simp [results, Try.results67, go_sem]) rfl (FIN.out (false, false, 0, 3 + (S.size : Int)) _ _ ((measT_text h0 (by rw [h1, h2]; rfl) h3).trans (by rw [show wrap64 (3 + (S.size : Int)) = 3 + (S.size : Int) by unfold wrap64; omega]; simp [h256])))
      · go_enter Try.func67, Try.ntmps67
        go_wp2
        exact bodyPost_ret (v := .agg #[.bool false, .bool false, .int .i64 0, .int .i64 9]) (by simp [results, Try.results67, go_sem]) rfl (FIN.out (false, false, 0, 9) _ _ (measT_num h0 (by rw [h1, h2]; rfl)))
    · go_enter Try.func67, Try.ntmps67
      go_wp2
      exact bodyPost_ret (v := .agg #[.bool false, .bool false, .int .i64 0, .int .i64 9]) (by simp [results, Try.results67, go_sem]) rfl (FIN.out (false, false, 0, 9) _ _ (measT_num h0 (by rw [h1]; rfl)))
  · go_enter Try.func67, Try.ntmps67
    go_wp2
    exact bodyPost_ret (v := .agg #[.bool false, .bool false, .int .i64 0, .int .i64 1]) (by simp [results, Try.results67, go_sem]) rfl (FIN.out (false, false, 0, 1) _ _ (measT_nil h0))
end Num
end Go.Proofs.Yteodljkcbddehaa
/-
  The survey's walk through a list.
-/
namespace Go.Proofs.Yteodljkcbddehaa
open Go.RowKit
namespace Num
open Ints
set_option linter.unusedSimpArgs false
set_option linter.unusedVariables false
theorem look_row (a : Addr) (n : Int) (w : World) : (Instr.lookup 89 (.map none) (.agg #[.pointer (some a), .int .i64 n]) true).run Try.prog w = .ok (.tuple #[.agg #[.bool false, .bool false, .int .i64 0, .int .i64 0], .bool false]) w := by kernel_rfl
theorem surv_keep (a : Addr) (n : Int) (q1 q2 : Bool) (q3 q4 : Int) (w : World) (sb : Nat) (vis : Int) (hat : SvAt w sb vis) (hv : vis ≤ 1000) : Calls Try.prog 88 #[.pointer (some ⟨sb, 0, none⟩), .agg #[.pointer (some a), .int .i64 n], .agg #[.bool q1, .bool q2, .int .i64 q3, .int .i64 q4]] w fun e w' => e = .returned (.tuple #[]) ∧ Below w.heap.size w w' := by
  have c0 : w.cell? ⟨sb, 0, none⟩ = some (.int .i64 vis) := rc hat 0
  have hlt := row_lt hat
  have hne : sb ≠ w.heap.size := by omega
  clear hat
  go_enter Try.func88, Try.ntmps88
  go_wp2
  refine bodyPost_ret (results_none rfl _ _ _) rfl ?_
  exact ⟨rfl, (br.alloc (Nat.le_refl _) _).alloc (by simp) _⟩
theorem with_me (s1 l1 : Bool) (d1 z1 : Int) (q : Me) (w : World) : Calls Try.prog 87 #[.agg #[.bool s1, .bool l1, .int .i64 d1, .int .i64 z1], meV q] w fun e w' => e = .returned (.agg #[.bool (withM (s1, l1, d1, z1) q).1, .bool (withM (s1, l1, d1, z1) q).2.1, .int .i64 (withM (s1, l1, d1, z1) q).2.2.1, .int .i64 (withM (s1, l1, d1, z1) q).2.2.2]) ∧ Below w.heap.size w w' := by
  obtain ⟨a, b, c, d⟩ := q
  exact with_any s1 l1 d1 z1 a b c d w
def Lst (w wr : World) (sb : Nat) (vis vis' : Int) (k : Nat) (q : Me) (a : Addr) (l : Nat) : Prop :=
  w.grownBy wr (some sb) ∧ SvAt wr sb vis' ∧ vis ≤ vis' ∧ vis' ≤ vis + k ∧
  wr.heap[w.heap.size]? = some (.cells #[.bool false, .bool false, .int .i64 0, .int .i64 0] 77 (0, 0)) ∧
  wr.heap[w.heap.size + 1]? = some (.cells #[.bool q.1, .bool q.2.1, .int .i64 q.2.2.1, .int .i64 q.2.2.2] 77 (0, 0)) ∧
  wr.heap[w.heap.size + 1 + 1]? = some (.cells #[.pointer (some a), .int .i64 l] 110 (0, 0))
theorem grown_drew {w w' : World} {row : Option Nat} (h : w.grownBy w' row) : w.grownBy w'.drew row := ⟨h.os, h.tape, h.output, h.size, h.block⟩
theorem rep_shape {w : World} {n : Nat} {v : Value} {T : VT n} (h : Rep w n v T) : ∃ (K I : Int) (F : Nat) (S : ByteArray) (p : Option Addr) (l c : Nat), v = .agg #[.int .i64 K, .int .i64 I, .float .f64 F, .string S, .slice p l c] ∧ okI I := by
  cases n with
  | zero => exact h.elim
  | succ n => obtain ⟨p, l, c, rfl, _, h2, _⟩ := h; exact ⟨_, _, _, _, _, _, _, rfl, h2⟩
theorem lst_bel {w wr w1 : World} {sb : Nat} {vis vis' : Int} {k : Nat} {q : Me} {a : Addr} {l : Nat} (h : Lst w wr sb vis vis' k q a l) (hb : Below wr.heap.size wr w1) : Lst w w1 sb vis vis' k q a l := by
  obtain ⟨h1, h2, h3, h4, h5, h6, h7⟩ := h
  exact ⟨h1.trans ⟨hb.os, hb.tape, hb.output, hb.size, fun i hi _ => hb.block i hi⟩ , row_step h2 hb, h3, h4, row_step h5 hb, row_step h6 hb, row_step h7 hb⟩
theorem lst_drew {w wr : World} {sb : Nat} {vis vis' : Int} {k : Nat} {q : Me} {a : Addr} {l : Nat} (h : Lst w wr sb vis vis' k q a l) : Lst w wr.drew sb vis vis' k q a l :=
  ⟨grown_drew h.1, h.2.1, h.2.2.1, h.2.2.2.1, h.2.2.2.2.1, h.2.2.2.2.2.1, h.2.2.2.2.2.2⟩
theorem lst_sv {w wr w1 : World} {sb : Nat} {vis vis' : Int} {k j : Nat} {q : Me} {a : Addr} {l : Nat} (h : Lst w wr sb vis vis' k q a l) (hs : sb < w.heap.size) (hb : Sv wr w1 sb vis' j) : ∃ vis2, Lst w w1 sb vis vis2 (k + j) q a l := by
  obtain ⟨h1, h2, h3, h4, h5, h6, h7⟩ := h
  obtain ⟨g, vis2, a1, a2, a3⟩ := hb
  exact ⟨vis2, h1.trans g, a3, by omega, by omega, row_grown h5 g (by simp; omega), row_grown h6 g (by simp; omega), row_grown h7 g (by simp; omega)⟩
theorem set4_row {w : World} {b : Nat} {a0 a1 a2 a3 : Value} {t : TypeId} (h : w.heap[b]? = some (.cells #[a0, a1, a2, a3] t (0, 0))) (v0 v1 v2 v3 : Value) :
    ((((w.setCell ⟨b, 0, none⟩ v0).setCell ⟨b, 1, none⟩ v1).setCell ⟨b, 2, none⟩ v2).setCell ⟨b, 3, none⟩ v3).heap[b]? = some (.cells #[v0, v1, v2, v3] t (0, 0)) := by
  simp [World.setCell, Array.getElem?_modify, h]
theorem set4_other {w : World} {b b' : Nat} {o : Option Obj} (h : w.heap[b']? = o) (hne : b' ≠ b) (v0 v1 v2 v3 : Value) : ((((w.setCell ⟨b, 0, none⟩ v0).setCell ⟨b, 1, none⟩ v1).setCell ⟨b, 2, none⟩ v2).setCell ⟨b, 3, none⟩ v3).heap[b']? = o := by
  rw [Below.heap_setCell _ _ _ _ hne, Below.heap_setCell _ _ _ _ hne, Below.heap_setCell _ _ _ _ hne, Below.heap_setCell _ _ _ _ hne]
  exact h
theorem lst_set {w wr : World} {sb : Nat} {vis vis' : Int} {k : Nat} {q : Me} {a : Addr} {l : Nat} (h : Lst w wr sb vis vis' k q a l) (hs : sb < w.heap.size) (q' : Me) :
    Lst w ((((wr.setCell ⟨w.heap.size + 1, 0, none⟩ (.bool q'.1)).setCell ⟨w.heap.size + 1, 1, none⟩ (.bool q'.2.1)).setCell ⟨w.heap.size + 1, 2, none⟩ (.int .i64 q'.2.2.1)).setCell ⟨w.heap.size + 1, 3, none⟩ (.int .i64 q'.2.2.2)) sb vis vis' k q' a l := by
  obtain ⟨h1, h2, h3, h4, h5, h6, h7⟩ := h
  exact ⟨grown_new (grown_new (grown_new (grown_new h1 (by omega) _ _) (by omega) _ _) (by omega) _ _) (by omega) _ _, set4_other h2 (by omega) _ _ _ _, h3, h4, set4_other h5 (by omega) _ _ _ _, set4_row h6 _ _ _ _, set4_other h7 (by omega) _ _ _ _⟩
set_option maxHeartbeats 4000000 in
theorem sv_list_of (n : Nat) (hv : SvValue n) : SvList n := by
  intro L p l c m lev vis w0 w sb hr hB hs hat hd hlev hlm hv0 hvp
  obtain ⟨hl, hlc, hcm, hel⟩ := hr
  unfold maxLen at hcm
  have c0 : w.cell? ⟨sb, 0, none⟩ = some (.int .i64 vis) := rc hat 0
  have c1 : w.cell? ⟨sb, 1, none⟩ = some (.map none) := rc hat 1
  have hlt := row_lt hat
  have hne : sb ≠ w.heap.size := by omega
  have hne' : w.heap.size ≠ sb := by omega
  have lt1 : sb < w.heap.size + 1 := by omega
  have lt2 : sb < w.heap.size + 1 + 1 := by omega
  have lt3 : sb < w.heap.size + 1 + 1 + 1 := by omega
  have ne1 : sb ≠ w.heap.size + 1 := by omega
  have ne2 : sb ≠ w.heap.size + 1 + 1 := by omega
  have ne3 : sb ≠ w.heap.size + 1 + 1 + 1 := by omega
  have HAT := Lib.hid hat
  have HB := Lib.hid hB
  have HP := Lib.hid hvp
  have HD := Lib.hid hd
  have HLV := Lib.hid hv
  have HL := Lib.hid hl
  have HE := Lib.hid hel
  clear hat hB hvp hd hv hl hel
  by_cases hl0 : 0 < l
  · obtain ⟨b, off, hp, _⟩ := HE.out hl0
    subst hp
    have hl0' : ((l : Int) == 0) = false := by rw [beq_eq_false_iff_ne]; omega
    have hl0'' : (l == 0) = false := by rw [beq_eq_false_iff_ne]; omega
    have hlev' : ¬ (64 < lev) := by omega
    have lk := look_row
    obtain ⟨big, hbig⟩ : ∃ big, big = decide (64 < (l : Int)) := ⟨_, rfl⟩
    have hbig' : decide (64 < (l : Int)) = big := hbig.symm
    have HBIG := Lib.hid hbig
    clear hbig
    go_enter Try.func79, Try.ntmps79
    go_wp2
    go_region
    go_wp2
    have RS := Lib.hid (row_alloc w #[.bool false, .bool false, .int .i64 0, .int .i64 0] 77)
    have RM := Lib.hid (row_alloc (w.alloc (.cells #[.bool false, .bool false, .int .i64 0, .int .i64 0] 77)) #[.bool false, .bool big, .int .i64 1, .int .i64 2] 77)
    have RK := Lib.hid (row_alloc ((w.alloc (.cells #[.bool false, .bool false, .int .i64 0, .int .i64 0] 77)).alloc (.cells #[.bool false, .bool big, .int .i64 1, .int .i64 2] 77)) #[.pointer (some ⟨b, off, none⟩), .int .i64 l] 110)
    simp only [World.size_alloc] at RM RK
    go_loopw [43] (fun i wr => ∃ (k : Nat) (vis' : Int) (q : Me), k ≤ l ∧ i = .int .i64 k ∧ Hid (q = (L.take k).foldl (fun a x => withM a (measT n x)) (false, big, 1, 2)) ∧ Hid (Lst w wr sb vis vis' ((L.take k).foldl (fun a x => a + partsT n x) 0) q ⟨b, off, none⟩ l)) (fun i _ => l - (intOf i).toNat)
    case atStart =>
      refine ⟨0, vis, (false, big, 1, 2), by omega, rfl, Lib.hid rfl, Lib.hid ⟨?_, ?_, by omega, by omega, ?_, ?_, ?_⟩⟩
      · exact grown_drew ((((World.grownBy_alloc _ _ _).trans (World.grownBy_alloc _ _ _)).trans (World.grownBy_alloc _ _ _)).trans (World.grownBy_alloc _ _ _))
      · exact row_alloc_step (row_alloc_step (row_alloc_step (row_alloc_step HAT.out _) _) _) _
      · exact row_alloc_step (row_alloc_step (row_alloc_step RS.out _) _) _
      · exact row_alloc_step (row_alloc_step RM.out _) _
      · exact row_alloc_step RK.out _
    case round =>
      obtain ⟨k, vis', q, hk, rfl, HQ, HLST⟩ := hrel
      clear RS RM RK c0 c1
      have hwr : w.heap.size + 1 + 1 < wr.heap.size := row_lt HLST.out.2.2.2.2.2.2
      have hrm := HLST.out.2.2.2.2.2.1
      have m0 := rc hrm 0
      have m1 := rc hrm 1
      have m2 := rc hrm 2
      have m3 := rc hrm 3
      simp only [lk0, lk1, lk2] at m0 m1 m2 m3
      have hmf := fun o => row_frz hrm o
      obtain ⟨q1, q2, q3, q4⟩ := q
      have hmne : w.heap.size + 1 ≠ wr.heap.size := by omega
      have hmne' : wr.heap.size ≠ w.heap.size + 1 := by omega
      have hmlt : w.heap.size + 1 < wr.heap.size := by omega
      by_cases hlt2 : k < l
      · obtain ⟨b', off', hp, hi⟩ := HE.out hl0
        cases hp
        have hkl : k < L.length := by have := HL.out; omega
        obtain ⟨v0, v1, v2, v3, v4, d0, d1, d2, d3, d4, hr⟩ := hi k hkl
        obtain ⟨K5, I5, F5, S5, p5, l5, c5, he5, _⟩ := rep_shape hr
        simp only [Value.agg.injEq, Array.mk.injEq, List.cons.injEq, and_true] at he5
        obtain ⟨rfl, rfl, rfl, rfl, rfl⟩ := he5
        have HBW := Lib.hid (Below.grown HB.out HLST.out.1 HB.out.size (fun k hk => by cases hk; exact hs))
        have e0 := ck HBW.out d0
        have e1 := ck HBW.out d1
        have e2 := ck HBW.out d2
        have e3 := ck HBW.out d3
        have e4 := ck HBW.out d4
        have HR := Lib.hid hr
        have hlm' : lev + (m : Int) ≤ 64 := hlm
        have HDK := Lib.hid (HD.out L[k] (List.getElem_mem hkl))
        have hvv : 0 ≤ vis' := by have := HLST.out.2.2.1; omega
        have HPK := Lib.hid (show vis' + partsT n L[k] ≤ 1000 by
          have h1 := HLST.out.2.2.2.1
          have h2 := parts_prefix L k hkl 0
          have h3 := HP.out
          omega)
        have HLD := Lib.hid (lst_drew (lst_bel HLST.out ((Below.refl wr.heap.size wr).alloc (Nat.le_refl _) (.cells #[.int .i64 K5, .int .i64 I5, .float .f64 F5, .string S5, .slice p5 l5 c5] 27))))
        have HBD := Lib.hid (Below.grown HB.out HLD.out.1 HB.out.size (fun k hk => by cases hk; exact hs))
        have HTK := Lib.hid (show withM ((L.take k).foldl (fun a x => withM a (measT n x)) (false, big, 1, 2)) (measT n L[k]) = (L.take (k + 1)).foldl (fun a x => withM a (measT n x)) (false, big, 1, 2) by rw [List.take_succ_eq_append_getElem hkl, List.foldl_append]; rfl)
        have HPT := Lib.hid (show (L.take k).foldl (fun a x => a + partsT n x) 0 + partsT n L[k] = (L.take (k + 1)).foldl (fun a x => a + partsT n x) 0 by rw [List.take_succ_eq_append_getElem hkl, List.foldl_append]; rfl)
        clear d0 d1 d2 d3 d4 hr hi hrm
        go_wp2
        go_region_with (first
          | (go_at_call 67; refine (HLV.out L[k] _ m lev vis' w0 _ sb HR.out HBD.out hs HLD.out.2.1 HDK.out hlev hlm hvv HPK.out).mono ?_; rintro e w1 ⟨rfl, hsv⟩; obtain ⟨vis2, hl2⟩ := lst_sv HLD.out hlt hsv; have HL2 := Lib.hid hl2; have hm2 := HL2.out.2.2.2.2.2.1; have n0 := rc hm2 0; have n1 := rc hm2 1; have n2 := rc hm2 2; have n3 := rc hm2 3; simp only [lk0, lk1, lk2] at n0 n1 n2 n3; have nz := row_lt hm2; clear hsv hl2 hm2)
          | (go_at_call 87; refine (with_me _ _ _ _ _ _).mono ?_; rintro e w2 ⟨rfl, hb2⟩; have HL3 := Lib.hid (lst_bel HL2.out hb2); have hm3 := HL3.out.2.2.2.2.2.1; have o0 := rc hm3 0; have o1 := rc hm3 1; have o2 := rc hm3 2; have o3 := rc hm3 3; simp only [lk0, lk1, lk2] at o0 o1 o2 o3; have of := fun o => row_frz hm3 o; clear hb2 hm3 n0 n1 n2 n3))
        all_goals
          have HEND := Lib.hid (lst_set HL3.out hlt (withM (q1, q2, q3, q4) (measT n L[k])))
          clear m0 m1 m2 m3 hmf e0 e1 e2 e3 e4 o0 o1 o2 o3 of
          go_wp2
          go_roundw
          case rel => exact ⟨k + 1, vis2, withM (q1, q2, q3, q4) (measT n L[k]), by omega, by go_num, Lib.hid (by rw [← HTK.out, ← HQ.out]), Lib.hid (by rw [← HPT.out]; exact HEND.out)⟩
          case measure => simp [intOf]; omega
      · have hkl : L.take k = L := List.take_of_length_le (by have := HL.out; omega)
        have HQ2 := Lib.hid (show Ending.returned (meV (q1, q2, q3, q4)) = .returned (meV (L.foldl (fun a x => withM a (measT n x)) (false, decide (64 < (L.length : Int)), 1, 2))) by
          have h1 := HQ.out
          rw [hkl] at h1
          rw [h1, HL.out, hbig'])
        have HLE := Lib.hid (show Lst w wr sb vis vis' (L.foldl (fun a x => a + partsT n x) 0) (q1, q2, q3, q4) ⟨b, off, none⟩ l by have := HLST.out; rw [hkl] at this; exact this)
        have hk0 := rc HLST.out.2.2.2.2.2.2 0
        have hk1 := rc HLST.out.2.2.2.2.2.2 1
        simp only [lk0, lk1, lk2] at hk0 hk1
        have hv1000 : vis' ≤ 1000 := by
          have h1 := HLE.out.2.2.2.1
          have h2 := HP.out
          omega
        clear hrm hkl HLST
        go_wp2_with fail
        go_at_call 88; refine (surv_keep _ _ _ _ _ _ _ _ _ HLE.out.2.1 hv1000).mono ?_; rintro e w1 ⟨rfl, hb⟩
        have HL1 := Lib.hid (lst_bel HLE.out hb)
        have hrm1 := HL1.out.2.2.2.2.2.1
        have hrs1 := HL1.out.2.2.2.2.1
        have n0 := rc hrm1 0
        have n1 := rc hrm1 1
        have n2 := rc hrm1 2
        have n3 := rc hrm1 3
        have s0 := rc hrs1 0
        have s1 := rc hrs1 1
        have s2 := rc hrs1 2
        have s3 := rc hrs1 3
        simp only [lk0, lk1, lk2] at n0 n1 n2 n3 s0 s1 s2 s3
        have sf := fun o => row_frz hrs1 o
        clear hb hrm1 hrs1 m0 m1 m2 m3 hmf hk0 hk1
        go_wp2
        refine bodyPost_ret (v := .agg #[.bool q1, .bool q2, .int .i64 q3, .int .i64 q4]) (by simp [results, Try.results79, go_sem, World.cell?_setCell_same, World.cell?_setCell_other, s0, s1, s2, s3]) rfl ⟨HQ2.out, ?_⟩
        exact sv_set4 ⟨HL1.out.1, vis', HL1.out.2.2.1, HL1.out.2.2.2.1, HL1.out.2.1⟩ (Nat.le_refl _) (by omega) _ _ _ _
  · obtain rfl : l = 0 := by omega
    obtain rfl : L = [] := List.length_eq_zero_iff.1 HL.out
    have h0 : ¬ (64 < ((0 : Nat) : Int)) := by omega
    have HF := Lib.hid (show Ending.returned (meV (false, false, 1, 2)) = .returned (meV (([] : List (VT n)).foldl (fun a x => withM a (measT n x)) (false, decide (64 < (([] : List (VT n)).length : Int)), 1, 2))) by rfl)
    have HS := Lib.hid (show Sv w (((w.alloc (.cells #[.bool false, .bool false, .int .i64 1, .int .i64 2] 77)).alloc (.cells #[.bool false, .bool false, .int .i64 1, .int .i64 2] 77))) sb vis (([] : List (VT n)).foldl (fun a x => a + partsT n x) 0) from ⟨(World.grownBy_alloc _ _ _).trans (World.grownBy_alloc _ _ _), vis, by omega, by omega, row_alloc_step (row_alloc_step HAT.out _) _⟩)
    clear c0 c1
    go_enter Try.func79, Try.ntmps79
    go_wp2
    exact bodyPost_ret (v := .agg #[.bool false, .bool false, .int .i64 1, .int .i64 2]) (by simp [results, Try.results79, go_sem]) rfl ⟨HF.out, HS.out⟩
theorem sv_all : ∀ n, SvValue n ∧ SvList n := by
  intro n
  induction n with
  | zero => exact ⟨sv_value_zero, sv_list_of 0 sv_value_zero⟩
  | succ n ih => exact ⟨sv_value_succ n ih.2, sv_list_of (n + 1) (sv_value_succ n ih.2)⟩
end Num
end Go.Proofs.Yteodljkcbddehaa
/-
  Package value's measured, Check, Size, walkable, of values of at most a thousand parts.
-/
namespace Go.Proofs.Yteodljkcbddehaa
open Go.RowKit
namespace Num
open Ints
set_option linter.unusedSimpArgs false
set_option linter.unusedVariables false
theorem bel_sv {w w1 : World} {sb : Nat} {vis : Int} {k : Nat} {W : World} (h : Below w.heap.size w W) (hs : w.heap.size ≤ sb) (hv : Sv W w1 sb vis k) : Below w.heap.size w w1 :=
  Below.grown h hv.1 h.size (fun k hk => by cases hk; exact hs)
set_option maxHeartbeats 2000000 in
theorem measured_any (n : Nat) (v : Value) (T : VT n) (w : World) (hr : Rep w n v T) (hd : deepT n T 64 = false) (hp : partsT n T ≤ 1000) : Calls Try.prog 50 #[v] w fun e w' => e = .returned (meV (measT n T)) ∧ Below w.heap.size w w' := by
  have HR := Lib.hid hr
  have HD := Lib.hid hd
  have HP := Lib.hid hp
  obtain ⟨K, I, F, S, p, l, c, rfl, _⟩ := rep_shape hr
  clear hr hd hp
  have HB := Lib.hid ((((Below.refl w.heap.size w).alloc (Nat.le_refl _) (.cells #[.int .i64 K, .int .i64 I, .float .f64 F, .string S, .slice p l c] 27)).alloc (by simp) (.cells #[.bool false, .bool false, .int .i64 0, .int .i64 0] 77)).alloc (by simp; omega) (.cells #[.int .i64 0, .map none] 91))
  have HA := Lib.hid (row_alloc ((w.alloc (.cells #[.int .i64 K, .int .i64 I, .float .f64 F, .string S, .slice p l c] 27)).alloc (.cells #[.bool false, .bool false, .int .i64 0, .int .i64 0] 77)) #[.int .i64 0, .map none] 91)
  have HM := Lib.hid (row_alloc_step (row_alloc (w.alloc (.cells #[.int .i64 K, .int .i64 I, .float .f64 F, .string S, .slice p l c] 27)) #[.bool false, .bool false, .int .i64 0, .int .i64 0] 77) (.cells #[.int .i64 0, .map none] 91))
  simp only [World.size_alloc] at HA HM
  go_enter Try.func50, Try.ntmps50
  go_wp2_with fail
  go_at_call 67; refine ((sv_all n).1 T _ 64 0 0 w _ (w.heap.size + 1 + 1) HR.out HB.out (by omega) HA.out HD.out (by omega) (by omega) (by omega) (by have := HP.out; omega)).mono ?_; rintro e w1 ⟨rfl, hsv⟩
  have HF := Lib.hid (bel_sv HB.out (by omega) hsv)
  have hm := row_grown HM.out hsv.1 (by simp)
  have d0 := rc hm 0
  have d1 := rc hm 1
  have d2 := rc hm 2
  have d3 := rc hm 3
  simp only [lk0, lk1, lk2] at d0 d1 d2 d3
  have df := fun o => row_frz hm o
  obtain ⟨q, hq⟩ : ∃ q, q = measT n T := ⟨_, rfl⟩
  rw [← hq]
  have HQ := Lib.hid hq
  clear hq hm hsv
  obtain ⟨q1, q2, q3, q4⟩ := q
  have HE := Lib.hid (show Ending.returned (.agg #[.bool q1, .bool q2, .int .i64 q3, .int .i64 q4]) = .returned (meV (measT n T)) by rw [← HQ.out]; rfl)
  rw [show meV (q1, q2, q3, q4) = Value.agg #[.bool q1, .bool q2, .int .i64 q3, .int .i64 q4] from rfl]
  go_wp2
  refine bodyPost_ret (v := .agg #[.bool q1, .bool q2, .int .i64 q3, .int .i64 q4]) (by simp [results, Try.results50, go_sem, World.cell?_setCell_same, World.cell?_setCell_other, d0, d1, d2, d3]) rfl ⟨HE.out, ?_⟩
  exact ((((HF.out.setCell (p := ⟨w.heap.size + 1, 0, none⟩) (by show w.heap.size ≤ w.heap.size + 1; omega) _).setCell (p := ⟨w.heap.size + 1, 1, none⟩) (by show w.heap.size ≤ w.heap.size + 1; omega) _).setCell (p := ⟨w.heap.size + 1, 2, none⟩) (by show w.heap.size ≤ w.heap.size + 1; omega) _).setCell (p := ⟨w.heap.size + 1, 3, none⟩) (by show w.heap.size ≤ w.heap.size + 1; omega) _)
def checkM (q : Me) : Int := if q.1 = true then 31 else if (q.2.1 || decide (8 < q.2.2.1) || decide (4096 < q.2.2.2)) = true then 22 else 0
set_option maxHeartbeats 2000000 in
theorem check_any (n : Nat) (K I : Int) (F : Nat) (S : ByteArray) (p : Option Addr) (l c : Nat) (T : VT n) (w : World) (hr : Rep w n (.agg #[.int .i64 K, .int .i64 I, .float .f64 F, .string S, .slice p l c]) T) (hd : deepT n T 64 = false) (hp : partsT n T ≤ 1000) : Calls Try.prog 28 #[.agg #[.int .i64 K, .int .i64 I, .float .f64 F, .string S, .slice p l c]] w fun e w' => e = .returned (.int .i64 (checkM (measT n T))) ∧ Below w.heap.size w w' := by
  have HR := Lib.hid (rep_keep ((Below.refl w.heap.size w).alloc (Nat.le_refl _) (.cells #[.int .i64 K, .int .i64 I, .float .f64 F, .string S, .slice p l c] 27)) _ _ _ hr)
  have HB := Lib.hid ((Below.refl w.heap.size w).alloc (Nat.le_refl _) (.cells #[.int .i64 K, .int .i64 I, .float .f64 F, .string S, .slice p l c] 27))
  have HD := Lib.hid hd
  have HP := Lib.hid hp
  clear hr hd hp
  obtain ⟨⟨q1, q2, q3, q4⟩, hq⟩ : ∃ q, q = measT n T := ⟨_, rfl⟩
  have HQ := Lib.hid hq.symm
  rw [← hq]
  clear hq
  cases h1 : q1
  · cases h2 : q2
    · by_cases h3 : 8 < q3
      · subst_vars
        have HX := Lib.hid (show Ending.returned (.int .i64 22) = .returned (.int .i64 (checkM (false, false, q3, q4))) by simp [checkM, h3])
        go_enter Try.func28, Try.ntmps28
        go_wp2_with fail
        go_at_call 50; refine (measured_any n _ T _ HR.out HD.out HP.out).mono ?_; rintro e w1 ⟨rfl, hb⟩
        have HB1 := Lib.hid (bel_step HB.out hb)
        rw [HQ.out]
        rw [show meV (false, false, q3, q4) = Value.agg #[.bool false, .bool false, .int .i64 q3, .int .i64 q4] from rfl]
        clear hb
        go_wp2
        go_ret
        exact ⟨HX.out, bel_alloc HB1.out _⟩
      · by_cases h4 : 4096 < q4
        · subst_vars
          have HX := Lib.hid (show Ending.returned (.int .i64 22) = .returned (.int .i64 (checkM (false, false, q3, q4))) by simp [checkM, h3, h4])
          go_enter Try.func28, Try.ntmps28
          go_wp2_with fail
          go_at_call 50; refine (measured_any n _ T _ HR.out HD.out HP.out).mono ?_; rintro e w1 ⟨rfl, hb⟩
          have HB1 := Lib.hid (bel_step HB.out hb)
          rw [HQ.out]
          rw [show meV (false, false, q3, q4) = Value.agg #[.bool false, .bool false, .int .i64 q3, .int .i64 q4] from rfl]
          clear hb
          go_wp2
          go_ret
          exact ⟨HX.out, bel_alloc HB1.out _⟩
        · subst_vars
          have HX := Lib.hid (show Ending.returned (.int .i64 0) = .returned (.int .i64 (checkM (false, false, q3, q4))) by simp [checkM, h3, h4])
          go_enter Try.func28, Try.ntmps28
          go_wp2_with fail
          go_at_call 50; refine (measured_any n _ T _ HR.out HD.out HP.out).mono ?_; rintro e w1 ⟨rfl, hb⟩
          have HB1 := Lib.hid (bel_step HB.out hb)
          rw [HQ.out]
          rw [show meV (false, false, q3, q4) = Value.agg #[.bool false, .bool false, .int .i64 q3, .int .i64 q4] from rfl]
          clear hb
          go_wp2
          go_ret
          exact ⟨HX.out, bel_alloc HB1.out _⟩
    · subst_vars
      have HX := Lib.hid (show Ending.returned (.int .i64 22) = .returned (.int .i64 (checkM (false, true, q3, q4))) by simp [checkM])
      go_enter Try.func28, Try.ntmps28
      go_wp2_with fail
      go_at_call 50; refine (measured_any n _ T _ HR.out HD.out HP.out).mono ?_; rintro e w1 ⟨rfl, hb⟩
      have HB1 := Lib.hid (bel_step HB.out hb)
      rw [HQ.out]
      rw [show meV (false, true, q3, q4) = Value.agg #[.bool false, .bool true, .int .i64 q3, .int .i64 q4] from rfl]
      clear hb
      go_wp2
      go_ret
      exact ⟨HX.out, bel_alloc HB1.out _⟩
  · subst_vars
    have HX := Lib.hid (show Ending.returned (.int .i64 31) = .returned (.int .i64 (checkM (true, q2, q3, q4))) by simp [checkM])
    go_enter Try.func28, Try.ntmps28
    go_wp2_with fail
    go_at_call 50; refine (measured_any n _ T _ HR.out HD.out HP.out).mono ?_; rintro e w1 ⟨rfl, hb⟩
    have HB1 := Lib.hid (bel_step HB.out hb)
    rw [HQ.out]
    rw [show meV (true, q2, q3, q4) = Value.agg #[.bool true, .bool q2, .int .i64 q3, .int .i64 q4] from rfl]
    clear hb
    go_wp2
    go_ret
    exact ⟨HX.out, bel_alloc HB1.out _⟩
end Num
end Go.Proofs.Yteodljkcbddehaa
/-
  Package value's walkable.
-/
namespace Go.Proofs.Yteodljkcbddehaa
open Go.RowKit
namespace Num
open Ints
set_option linter.unusedSimpArgs false
set_option linter.unusedVariables false
def walkM (q : Me) : Bool := decide (q.2.2.1 ≤ 64) && decide (q.2.2.2 ≤ 2147483647)
set_option maxHeartbeats 2000000 in
theorem walkable_any (n : Nat) (K I : Int) (F : Nat) (S : ByteArray) (p : Option Addr) (l c : Nat) (T : VT n) (w : World) (hr : Rep w n (.agg #[.int .i64 K, .int .i64 I, .float .f64 F, .string S, .slice p l c]) T) (hd : deepT n T 64 = false) (hp : partsT n T ≤ 1000) : Calls Try.prog 38 #[.agg #[.int .i64 K, .int .i64 I, .float .f64 F, .string S, .slice p l c]] w fun e w' => e = .returned (.bool (walkM (measT n T))) ∧ Below w.heap.size w w' := by
  have HR := Lib.hid (rep_keep ((Below.refl w.heap.size w).alloc (Nat.le_refl _) (.cells #[.int .i64 K, .int .i64 I, .float .f64 F, .string S, .slice p l c] 27)) _ _ _ hr)
  have HB := Lib.hid ((Below.refl w.heap.size w).alloc (Nat.le_refl _) (.cells #[.int .i64 K, .int .i64 I, .float .f64 F, .string S, .slice p l c] 27))
  have HD := Lib.hid hd
  have HP := Lib.hid hp
  clear hr hd hp
  obtain ⟨⟨q1, q2, q3, q4⟩, hq⟩ : ∃ q, q = measT n T := ⟨_, rfl⟩
  have HQ := Lib.hid hq.symm
  rw [← hq]
  clear hq
  by_cases h3 : q3 ≤ 64
  · have HX := Lib.hid (show Ending.returned (.bool (decide (q4 ≤ 2147483647))) = .returned (.bool (walkM (q1, q2, q3, q4))) by simp [walkM, h3])
    go_enter Try.func38, Try.ntmps38
    go_wp2_with fail
    go_at_call 50; refine (measured_any n _ T _ HR.out HD.out HP.out).mono ?_; rintro e w1 ⟨rfl, hb⟩
    have HB1 := Lib.hid (bel_step HB.out hb)
    rw [HQ.out]
    rw [show meV (q1, q2, q3, q4) = Value.agg #[.bool q1, .bool q2, .int .i64 q3, .int .i64 q4] from rfl]
    clear hb
    go_wp2
    go_ret
    exact ⟨HX.out, bel_alloc HB1.out _⟩
  · have HX := Lib.hid (show Ending.returned (.bool false) = .returned (.bool (walkM (q1, q2, q3, q4))) by simp [walkM, h3])
    go_enter Try.func38, Try.ntmps38
    go_wp2_with fail
    go_at_call 50; refine (measured_any n _ T _ HR.out HD.out HP.out).mono ?_; rintro e w1 ⟨rfl, hb⟩
    have HB1 := Lib.hid (bel_step HB.out hb)
    rw [HQ.out]
    rw [show meV (q1, q2, q3, q4) = Value.agg #[.bool q1, .bool q2, .int .i64 q3, .int .i64 q4] from rfl]
    clear hb
    go_wp2
    go_ret
    exact ⟨HX.out, bel_alloc HB1.out _⟩
end Num
end Go.Proofs.Yteodljkcbddehaa
/-
  Package num's leaves that Add reaches.
-/
namespace Go.Proofs.Yteodljkcbddehaa
open Go.RowKit
namespace Num
open Ints
set_option linter.unusedSimpArgs false
set_option linter.unusedVariables false
theorem addInts_any (x y : Int) (hx : okI x) (hy : okI y) (w : World) : Calls Try.prog 76 #[.int .i64 x, .int .i64 y] w fun e w' => Tells e (intR 0 x y) ∧ w = w' := by
  have hf : Tells (.returned (.tuple #[.int .i64 (wrap64 (x + y)), .bool (decide (x < wrap64 (x + y)) == decide (0 < y))])) (intR 0 x y) := tells_mk (add_ok x y hx hy) wrap_ok
  have H := Lib.hid hf
  clear hf hx hy
  go_enter Try.func76, Try.ntmps76
  go_wp2
  go_ret2
  exact ⟨H.out, rfl⟩
theorem addFloats_any (x y : Nat) (w : World) : Calls Try.prog 77 #[.float .f64 x, .float .f64 y] w fun e w' => ∃ r n, e = .returned (.float .f64 r) ∧ Flo.canon r = Flo.cop .add x y ∧ r < 2 ^ 64 ∧ w' = w.drewN n := by
  cases h : floatBits .add .f64 x y with
  | some r =>
    have hop : ∀ t w, (binOp .add t (.float .f64 x) (.float .f64 y)).run Try.prog w = .ok (.float .f64 r) w := fun t w => run_float_arith w .add t .f64 x y r h
    have H : Hid _ := Lib.hid (show Flo.canon r = Flo.cop .add x y ∧ r < 2 ^ 64 from ⟨(Flo.cop_some h).symm, Flo.floatBits_lt h⟩)
    clear h
    go_enter Try.func77, Try.ntmps77
    go_wp2
    go_ret
    exact ⟨r, 0, rfl, H.out.1, H.out.2, rfl⟩
  | none =>
    have hop : ∀ t w, (binOp .add t (.float .f64 x) (.float .f64 y)).run Try.prog w = .ok (.float .f64 (Flo.drawn x y (w.tape w.drawn (.nanBits .f64 x y)))) w.drew := fun t w => Flo.run_none w .add t x y (by simp) h
    have H : Hid _ := Lib.hid (Flo.cop_none h)
    clear h
    go_enter Try.func77, Try.ntmps77
    go_wp2
    go_ret
    exact ⟨_, 1, rfl, by rw [Flo.canon_drawn, H.out], Flo.drawn_lt _ _ _, rfl⟩
theorem ofInt_any (n : Int) (w : World) : Calls Try.prog 85 #[.int .i64 n] w fun e w' => e = .returned (.agg #[.int .i64 1, .int .i64 n, .float .f64 0, .string ⟨#[]⟩, .slice none 0 0]) ∧ Below w.heap.size w w' := by
  go_enter Try.func85, Try.ntmps85
  go_wp2
  exact bodyPost_ret (v := .agg #[.int .i64 1, .int .i64 n, .float .f64 0, .string ⟨#[]⟩, .slice none 0 0]) (by simp [results, Try.results85, go_sem]) rfl ⟨rfl, (br.alloc (Nat.le_refl _) _)⟩
theorem ofFloat_any (x : Nat) (w : World) : Calls Try.prog 83 #[.float .f64 x] w fun e w' => e = .returned (.agg #[.int .i64 2, .int .i64 0, .float .f64 (Flo.canon x), .string ⟨#[]⟩, .slice none 0 0]) ∧ Below w.heap.size w w' := by
  go_enter Try.func83, Try.ntmps83
  go_wp2_with (first | (go_at_call 63; refine (canon_any _ _).mono ?_; rintro e w' ⟨rfl, rfl⟩))
  exact bodyPost_ret (v := .agg #[.int .i64 2, .int .i64 0, .float .f64 (Flo.canon x), .string ⟨#[]⟩, .slice none 0 0]) (by simp [results, Try.results83, go_sem]) rfl ⟨rfl, (br.alloc (Nat.le_refl _) _)⟩
theorem isNumber_any (K I : Int) (F : Nat) (S : ByteArray) (p : Option Addr) (l c : Nat) (w : World) : Calls Try.prog 71 #[.agg #[.int .i64 K, .int .i64 I, .float .f64 F, .string S, .slice p l c]] w fun e w' => e = .returned (.bool (isNum K)) ∧ Below w.heap.size w w' := by
  cases h1 : (K == 1)
  · cases h2 : (K == 2)
    · have H : Hid _ := Lib.hid (show Ending.returned (.bool false) = .returned (.bool (isNum K)) by simp [isNum, h1, h2])
      go_enter Try.func71, Try.ntmps71
      go_wp2
      go_ret
      exact ⟨H.out, (br.alloc (Nat.le_refl _) _)⟩
    · have H : Hid _ := Lib.hid (show Ending.returned (.bool true) = .returned (.bool (isNum K)) by simp [isNum, h1, h2])
      go_enter Try.func71, Try.ntmps71
      go_wp2
      go_ret
      exact ⟨H.out, (br.alloc (Nat.le_refl _) _)⟩
  · have H : Hid _ := Lib.hid (show Ending.returned (.bool true) = .returned (.bool (isNum K)) by simp [isNum, h1])
    go_enter Try.func71, Try.ntmps71
    go_wp2
    go_ret
    exact ⟨H.out, (br.alloc (Nat.le_refl _) _)⟩
theorem toFloat_any (K I : Int) (F : Nat) (S : ByteArray) (p : Option Addr) (l c : Nat) (w : World) : Calls Try.prog 84 #[.agg #[.int .i64 K, .int .i64 I, .float .f64 F, .string S, .slice p l c]] w fun e w' => e = .returned (.float .f64 (asF K I F)) ∧ Below w.heap.size w w' := by
  cases h1 : (K == 1)
  · have H : Hid _ := Lib.hid (show Ending.returned (.float .f64 F) = .returned (.float .f64 (asF K I F)) by simp [asF, h1])
    go_enter Try.func84, Try.ntmps84
    go_wp2
    go_ret
    exact ⟨H.out, (br.alloc (Nat.le_refl _) _)⟩
  · have H : Hid _ := Lib.hid (show Ending.returned (.float .f64 (floatOfInt .f64 I)) = .returned (.float .f64 (asF K I F)) by simp [asF, h1])
    go_enter Try.func84, Try.ntmps84
    go_wp2
    go_ret
    exact ⟨H.out, (br.alloc (Nat.le_refl _) _)⟩
def bop (o : Nat) : BinOp := if o = 0 then .add else if o = 1 then .sub else if o = 2 then .mul else .quo
def opV (o : Nat) (K1 I1 : Int) (F1 : Nat) (K2 I2 : Int) (F2 : Nat) : Int × Int × Nat × Int :=
  if (isNum K1 && isNum K2) = false then (0, 0, 0, 31)
  else if (K1 == 2 || K2 == 2) = true then (2, 0, Flo.cop (bop o) (asF K1 I1 F1) (asF K2 I2 F2), 0)
  else match intR o I1 I2 with | some n => (1, n, 0, 0) | none => (0, 0, 0, 35)
theorem three (t : TypeId) (a0 a1 a2 a3 a4 b0 b1 b2 b3 b4 r0 r1 r2 r3 r4 : Value) {w w1 w2 : World}
    (h1 : Below (((w.alloc (.cells #[a0, a1, a2, a3, a4] t)).alloc (.cells #[b0, b1, b2, b3, b4] t)).alloc (.cells #[r0, r1, r2, r3, r4] t)).heap.size (((w.alloc (.cells #[a0, a1, a2, a3, a4] t)).alloc (.cells #[b0, b1, b2, b3, b4] t)).alloc (.cells #[r0, r1, r2, r3, r4] t)) w1)
    (h2 : Below w1.heap.size w1 w2) :
    Below w.heap.size w w2 ∧ w.heap.size + 1 + 1 < w2.heap.size ∧ w.heap.size + 1 < w2.heap.size ∧ w.heap.size < w2.heap.size ∧
    w2.cell? ⟨w.heap.size, 0, none⟩ = some a0 ∧
    w2.cell? ⟨w.heap.size, 1, none⟩ = some a1 ∧
    w2.cell? ⟨w.heap.size, 2, none⟩ = some a2 ∧
    w2.cell? ⟨w.heap.size, 3, none⟩ = some a3 ∧
    w2.cell? ⟨w.heap.size, 4, none⟩ = some a4 ∧
    w2.cell? ⟨w.heap.size + 1, 0, none⟩ = some b0 ∧
    w2.cell? ⟨w.heap.size + 1, 1, none⟩ = some b1 ∧
    w2.cell? ⟨w.heap.size + 1, 2, none⟩ = some b2 ∧
    w2.cell? ⟨w.heap.size + 1, 3, none⟩ = some b3 ∧
    w2.cell? ⟨w.heap.size + 1, 4, none⟩ = some b4 ∧
    w2.cell? ⟨w.heap.size + 1 + 1, 0, none⟩ = some r0 ∧
    w2.cell? ⟨w.heap.size + 1 + 1, 1, none⟩ = some r1 ∧
    w2.cell? ⟨w.heap.size + 1 + 1, 2, none⟩ = some r2 ∧
    w2.cell? ⟨w.heap.size + 1 + 1, 3, none⟩ = some r3 ∧
    w2.cell? ⟨w.heap.size + 1 + 1, 4, none⟩ = some r4 ∧
    (∀ o, w2.frozen? ⟨w.heap.size, o, none⟩ = false) ∧
    (∀ o, w2.frozen? ⟨w.heap.size + 1, o, none⟩ = false) ∧
    (∀ o, w2.frozen? ⟨w.heap.size + 1 + 1, o, none⟩ = false) := by
  obtain ⟨c1, f1⟩ := bcell h1
  obtain ⟨c2, f2⟩ := bcell h2
  have zs : (((w.alloc (.cells #[a0, a1, a2, a3, a4] t)).alloc (.cells #[b0, b1, b2, b3, b4] t)).alloc (.cells #[r0, r1, r2, r3, r4] t)).heap.size = w.heap.size + 3 := by simp
  have z1 : w.heap.size + 1 + 1 < w1.heap.size := by have := h1.size; simp at this; omega
  have z2 : w.heap.size + 1 + 1 < w2.heap.size := by have := h2.size; omega
  refine ⟨((below3 _ _ _ _).trans (h1.mono (by simp; omega))).trans (h2.mono (by omega)), z2, by omega, by omega, ?_, ?_, ?_, ?_, ?_, ?_, ?_, ?_, ?_, ?_, ?_, ?_, ?_, ?_, ?_, ?_, ?_, ?_⟩
  all_goals first
    | (rw [c2 _ _ (by omega), c1 _ _ (by omega)]; simp [go_sem]; done)
    | (intro o; rw [f2 _ _ (by omega), f1 _ _ (by omega)]; simp [go_sem]; done)
theorem opV_not {o : Nat} {K1 I1 : Int} {F1 : Nat} {K2 I2 : Int} {F2 : Nat} (h : (isNum K1 && isNum K2) = false) : opV o K1 I1 F1 K2 I2 F2 = (0, 0, 0, 31) := by unfold opV; rw [if_pos h]
theorem opV_flo {o : Nat} {K1 I1 : Int} {F1 : Nat} {K2 I2 : Int} {F2 : Nat} (h : (isNum K1 && isNum K2) = true) (hk : (K1 == 2 || K2 == 2) = true) : opV o K1 I1 F1 K2 I2 F2 = (2, 0, Flo.cop (bop o) (asF K1 I1 F1) (asF K2 I2 F2), 0) := by
  unfold opV; rw [if_neg (by rw [h]; simp), if_pos hk]
theorem opV_int {o : Nat} {K1 I1 : Int} {F1 : Nat} {K2 I2 : Int} {F2 : Nat} (h : (isNum K1 && isNum K2) = true) (hk : (K1 == 2 || K2 == 2) = false) {n : Int} (hn : intR o I1 I2 = some n) : opV o K1 I1 F1 K2 I2 F2 = (1, n, 0, 0) := by
  unfold opV; rw [if_neg (by rw [h]; simp), if_neg (by rw [hk]; simp), hn]
theorem opV_none {o : Nat} {K1 I1 : Int} {F1 : Nat} {K2 I2 : Int} {F2 : Nat} (h : (isNum K1 && isNum K2) = true) (hk : (K1 == 2 || K2 == 2) = false) (hn : intR o I1 I2 = none) : opV o K1 I1 F1 K2 I2 F2 = (0, 0, 0, 35) := by
  unfold opV; rw [if_neg (by rw [h]; simp), if_neg (by rw [hk]; simp), hn]
end Num
end Go.Proofs.Yteodljkcbddehaa
/-
  Package num's Add at whatever values.
-/
namespace Go.Proofs.Yteodljkcbddehaa
open Go.RowKit
namespace Num
open Ints
set_option linter.unusedSimpArgs false
set_option linter.unusedVariables false
theorem operate0_not (K1 I1 : Int) (F1 : Nat) (S1 : ByteArray) (p1 : Option Addr) (l1 c1 : Nat) (K2 I2 : Int) (F2 : Nat) (S2 : ByteArray) (p2 : Option Addr) (l2 c2 : Nat) (w : World) (h : (isNum K1 && isNum K2) = false) :
    Calls Try.prog 75 #[.agg #[.int .i64 K1, .int .i64 I1, .float .f64 F1, .string S1, .slice p1 l1 c1], .agg #[.int .i64 K2, .int .i64 I2, .float .f64 F2, .string S2, .slice p2 l2 c2], .func (Fn.func 76) #[] #[], .func (Fn.func 77) #[] #[]] w fun e w' => e = .returned (.tuple #[.agg #[.int .i64 0, .int .i64 0, .float .f64 0, .string ⟨#[]⟩, .slice none 0 0], .int .i64 31]) ∧ Below w.heap.size w w' := by
  cases h1 : isNum K1
  · clear h
    go_enter Try.func75, Try.ntmps75
    go_wp2_with (go_at_call 71; refine (isNumber_any _ _ _ _ _ _ _ _).mono ?_; rintro e w1 ⟨rfl, hb1⟩; obtain ⟨hc1, hf1⟩ := bcell hb1; (try simp only [World.size_drew, World.cell?_drew, World.frozen?_drew, World.heap_drewN, World.cell?_drewN, World.frozen?_drewN] at hc1 hf1); have hz1 : w.heap.size + 1 + 1 < w1.heap.size := (by (have := hb1.size; (try simp at this); omega)); have hy1 := Nat.lt_of_succ_lt hz1; have hx1 := Nat.lt_of_succ_lt hy1)
    exact bodyPost_ret (v := .tuple #[.agg #[.int .i64 0, .int .i64 0, .float .f64 0, .string ⟨#[]⟩, .slice none 0 0], .int .i64 31]) (by simp [results, Try.results75, go_sem, hc1]) rfl ⟨rfl, below5 (by (repeat (first | exact below3 _ _ _ _ | (refine bel_tr (by assumption) (by (first | omega | (simp; omega))) ?_) | refine bel_drewN _ ?_ | refine Below.drew ?_))) (by omega) _ _ _ _ _⟩
  · have h2 : isNum K2 = false := by simpa [h1] using h
    clear h
    go_enter Try.func75, Try.ntmps75
    go_wp2_with fail
    go_at_call 71; refine (isNumber_any _ _ _ _ _ _ _ _).mono ?_; rintro e w1 ⟨rfl, hb1⟩; obtain ⟨hc1, hf1⟩ := bcell hb1; (try simp only [World.size_drew, World.cell?_drew, World.frozen?_drew, World.heap_drewN, World.cell?_drewN, World.frozen?_drewN] at hc1 hf1); have hz1 : w.heap.size + 1 + 1 < w1.heap.size := (by (have := hb1.size; (try simp at this); omega)); have hy1 := Nat.lt_of_succ_lt hz1; have hx1 := Nat.lt_of_succ_lt hy1
    go_wp2_with fail
    go_at_call 71; refine (isNumber_any _ _ _ _ _ _ _ _).mono ?_; rintro e w2 ⟨rfl, hb2⟩; obtain ⟨hc2, hf2⟩ := bcell hb2; (try simp only [World.size_drew, World.cell?_drew, World.frozen?_drew, World.heap_drewN, World.cell?_drewN, World.frozen?_drewN] at hc2 hf2); have hz2 : w.heap.size + 1 + 1 < w2.heap.size := (by (have := hb2.size; (try simp at this); omega)); have hy2 := Nat.lt_of_succ_lt hz2; have hx2 := Nat.lt_of_succ_lt hy2
    go_wp2
    exact bodyPost_ret (v := .tuple #[.agg #[.int .i64 0, .int .i64 0, .float .f64 0, .string ⟨#[]⟩, .slice none 0 0], .int .i64 31]) (by simp [results, Try.results75, go_sem, hc1, hz1, hc2]) rfl ⟨rfl, below5 (by (repeat (first | exact below3 _ _ _ _ | (refine bel_tr (by assumption) (by (first | omega | (simp; omega))) ?_) | refine bel_drewN _ ?_ | refine Below.drew ?_))) (by omega) _ _ _ _ _⟩
set_option maxHeartbeats 1000000 in
theorem operate0_flo_a (K1 I1 : Int) (F1 : Nat) (S1 : ByteArray) (p1 : Option Addr) (l1 c1 : Nat) (K2 I2 : Int) (F2 : Nat) (S2 : ByteArray) (p2 : Option Addr) (l2 c2 : Nat) (w : World) (h1 : isNum K1 = true) (h2 : isNum K2 = true) (hk : (K1 == 2) = true) :
    Calls Try.prog 75 #[.agg #[.int .i64 K1, .int .i64 I1, .float .f64 F1, .string S1, .slice p1 l1 c1], .agg #[.int .i64 K2, .int .i64 I2, .float .f64 F2, .string S2, .slice p2 l2 c2], .func (Fn.func 76) #[] #[], .func (Fn.func 77) #[] #[]] w fun e w' => e = .returned (.tuple #[.agg #[.int .i64 2, .int .i64 0, .float .f64 (Flo.cop .add (asF K1 I1 F1) (asF K2 I2 F2)), .string ⟨#[]⟩, .slice none 0 0], .int .i64 0]) ∧ Below w.heap.size w w' := by
  go_enter Try.func75, Try.ntmps75
  go_wp2_with fail
  go_at_call 71; refine (isNumber_any _ _ _ _ _ _ _ _).mono ?_; rintro e w1 ⟨rfl, hb1⟩; obtain ⟨hc1, hf1⟩ := bcell hb1; (try simp only [World.size_drew, World.cell?_drew, World.frozen?_drew, World.heap_drewN, World.cell?_drewN, World.frozen?_drewN] at hc1 hf1); have hz1 : w.heap.size + 1 + 1 < w1.heap.size := (by (have := hb1.size; (try simp at this); omega)); have hy1 := Nat.lt_of_succ_lt hz1; have hx1 := Nat.lt_of_succ_lt hy1
  go_wp2_with fail
  go_at_call 71; refine (isNumber_any _ _ _ _ _ _ _ _).mono ?_; rintro e w2 ⟨rfl, hb2⟩
  obtain ⟨hB, hz2, hy2, hx2, m0, m1, m2, m3, m4, m5, m6, m7, m8, m9, m10, m11, m12, m13, m14, fr0, fr1, fr2⟩ := three _ _ _ _ _ _ _ _ _ _ _ _ _ _ _ _ hb1 hb2
  clear hc1 hf1 hz1 hy1 hx1 hb1 hb2
  go_wp2_with fail
  go_region_with (first
    | (go_at_call_of 84 (Value.int .i64 K1); refine (toFloat_any _ _ _ _ _ _ _ _).mono ?_; rintro e w3 ⟨rfl, hb3⟩; obtain ⟨hc3, hf3⟩ := bcell hb3; (try simp only [World.size_drew, World.cell?_drew, World.frozen?_drew, World.heap_drewN, World.cell?_drewN, World.frozen?_drewN] at hc3 hf3); have hz3 : w.heap.size + 1 + 1 < w3.heap.size := (by (have := hb3.size; (try simp at this); omega)); have hy3 := Nat.lt_of_succ_lt hz3; have hx3 := Nat.lt_of_succ_lt hy3)
    | (go_at_call_of 84 (Value.int .i64 K2); refine (toFloat_any _ _ _ _ _ _ _ _).mono ?_; rintro e w4 ⟨rfl, hb4⟩; obtain ⟨hc4, hf4⟩ := bcell hb4; (try simp only [World.size_drew, World.cell?_drew, World.frozen?_drew, World.heap_drewN, World.cell?_drewN, World.frozen?_drewN] at hc4 hf4); have hz4 : w.heap.size + 1 + 1 < w4.heap.size := (by (have := hb4.size; (try simp at this); omega)); have hy4 := Nat.lt_of_succ_lt hz4; have hx4 := Nat.lt_of_succ_lt hy4)
    | (go_at_call 83; refine (ofFloat_any _ _).mono ?_; rintro e w6 ⟨rfl, hb6⟩; (try rw [Hr.out]); obtain ⟨hc6, hf6⟩ := bcell hb6; (try simp only [World.size_drew, World.cell?_drew, World.frozen?_drew, World.heap_drewN, World.cell?_drewN, World.frozen?_drewN] at hc6 hf6); have hz6 : w.heap.size + 1 + 1 < w6.heap.size := (by (have := hb6.size; (try simp at this); omega)); have hy6 := Nat.lt_of_succ_lt hz6; have hx6 := Nat.lt_of_succ_lt hy6)
    | (go_at_call 77; refine (addFloats_any _ _ _).mono ?_; rintro e w5 ⟨r, n, rfl, hr, hlt, rfl⟩; have Hr := Lib.hid hr; clear hr hlt))
  all_goals go_wp2
  all_goals exact bodyPost_ret (v := .tuple #[.agg #[.int .i64 2, .int .i64 0, .float .f64 (Flo.cop .add (asF K1 I1 F1) (asF K2 I2 F2)), .string ⟨#[]⟩, .slice none 0 0], .int .i64 0]) (by simp [results, Try.results75, go_sem, hc6, hc4, hc3, hz4, hz3, hz2, m10, m11, m12, m13, m14]) rfl ⟨rfl, below5 (by (repeat (first | exact hB | exact below3 _ _ _ _ | (refine bel_tr (by assumption) (by (first | omega | (simp; omega))) ?_) | refine bel_drewN _ ?_ | refine Below.drew ?_))) (by omega) _ _ _ _ _⟩
set_option maxHeartbeats 1000000 in
theorem operate0_flo_b (K1 I1 : Int) (F1 : Nat) (S1 : ByteArray) (p1 : Option Addr) (l1 c1 : Nat) (K2 I2 : Int) (F2 : Nat) (S2 : ByteArray) (p2 : Option Addr) (l2 c2 : Nat) (w : World) (h1 : isNum K1 = true) (h2 : isNum K2 = true) (hk0 : (K1 == 2) = false) (hk : (K2 == 2) = true) :
    Calls Try.prog 75 #[.agg #[.int .i64 K1, .int .i64 I1, .float .f64 F1, .string S1, .slice p1 l1 c1], .agg #[.int .i64 K2, .int .i64 I2, .float .f64 F2, .string S2, .slice p2 l2 c2], .func (Fn.func 76) #[] #[], .func (Fn.func 77) #[] #[]] w fun e w' => e = .returned (.tuple #[.agg #[.int .i64 2, .int .i64 0, .float .f64 (Flo.cop .add (asF K1 I1 F1) (asF K2 I2 F2)), .string ⟨#[]⟩, .slice none 0 0], .int .i64 0]) ∧ Below w.heap.size w w' := by
  go_enter Try.func75, Try.ntmps75
  go_wp2_with fail
  go_at_call 71; refine (isNumber_any _ _ _ _ _ _ _ _).mono ?_; rintro e w1 ⟨rfl, hb1⟩; obtain ⟨hc1, hf1⟩ := bcell hb1; (try simp only [World.size_drew, World.cell?_drew, World.frozen?_drew, World.heap_drewN, World.cell?_drewN, World.frozen?_drewN] at hc1 hf1); have hz1 : w.heap.size + 1 + 1 < w1.heap.size := (by (have := hb1.size; (try simp at this); omega)); have hy1 := Nat.lt_of_succ_lt hz1; have hx1 := Nat.lt_of_succ_lt hy1
  go_wp2_with fail
  go_at_call 71; refine (isNumber_any _ _ _ _ _ _ _ _).mono ?_; rintro e w2 ⟨rfl, hb2⟩
  obtain ⟨hB, hz2, hy2, hx2, m0, m1, m2, m3, m4, m5, m6, m7, m8, m9, m10, m11, m12, m13, m14, fr0, fr1, fr2⟩ := three _ _ _ _ _ _ _ _ _ _ _ _ _ _ _ _ hb1 hb2
  clear hc1 hf1 hz1 hy1 hx1 hb1 hb2
  go_wp2_with fail
  go_region_with (first
    | (go_at_call_of 84 (Value.int .i64 K1); refine (toFloat_any _ _ _ _ _ _ _ _).mono ?_; rintro e w3 ⟨rfl, hb3⟩; obtain ⟨hc3, hf3⟩ := bcell hb3; (try simp only [World.size_drew, World.cell?_drew, World.frozen?_drew, World.heap_drewN, World.cell?_drewN, World.frozen?_drewN] at hc3 hf3); have hz3 : w.heap.size + 1 + 1 < w3.heap.size := (by (have := hb3.size; (try simp at this); omega)); have hy3 := Nat.lt_of_succ_lt hz3; have hx3 := Nat.lt_of_succ_lt hy3)
    | (go_at_call_of 84 (Value.int .i64 K2); refine (toFloat_any _ _ _ _ _ _ _ _).mono ?_; rintro e w4 ⟨rfl, hb4⟩; obtain ⟨hc4, hf4⟩ := bcell hb4; (try simp only [World.size_drew, World.cell?_drew, World.frozen?_drew, World.heap_drewN, World.cell?_drewN, World.frozen?_drewN] at hc4 hf4); have hz4 : w.heap.size + 1 + 1 < w4.heap.size := (by (have := hb4.size; (try simp at this); omega)); have hy4 := Nat.lt_of_succ_lt hz4; have hx4 := Nat.lt_of_succ_lt hy4)
    | (go_at_call 83; refine (ofFloat_any _ _).mono ?_; rintro e w6 ⟨rfl, hb6⟩; (try rw [Hr.out]); obtain ⟨hc6, hf6⟩ := bcell hb6; (try simp only [World.size_drew, World.cell?_drew, World.frozen?_drew, World.heap_drewN, World.cell?_drewN, World.frozen?_drewN] at hc6 hf6); have hz6 : w.heap.size + 1 + 1 < w6.heap.size := (by (have := hb6.size; (try simp at this); omega)); have hy6 := Nat.lt_of_succ_lt hz6; have hx6 := Nat.lt_of_succ_lt hy6)
    | (go_at_call 77; refine (addFloats_any _ _ _).mono ?_; rintro e w5 ⟨r, n, rfl, hr, hlt, rfl⟩; have Hr := Lib.hid hr; clear hr hlt))
  all_goals go_wp2
  all_goals exact bodyPost_ret (v := .tuple #[.agg #[.int .i64 2, .int .i64 0, .float .f64 (Flo.cop .add (asF K1 I1 F1) (asF K2 I2 F2)), .string ⟨#[]⟩, .slice none 0 0], .int .i64 0]) (by simp [results, Try.results75, go_sem, hc6, hc4, hc3, hz4, hz3, hz2, m10, m11, m12, m13, m14]) rfl ⟨rfl, below5 (by (repeat (first | exact hB | exact below3 _ _ _ _ | (refine bel_tr (by assumption) (by (first | omega | (simp; omega))) ?_) | refine bel_drewN _ ?_ | refine Below.drew ?_))) (by omega) _ _ _ _ _⟩
set_option maxHeartbeats 1000000 in
theorem operate0_int (K1 I1 : Int) (F1 : Nat) (S1 : ByteArray) (p1 : Option Addr) (l1 c1 : Nat) (K2 I2 : Int) (F2 : Nat) (S2 : ByteArray) (p2 : Option Addr) (l2 c2 : Nat) (w : World) (h1 : isNum K1 = true) (h2 : isNum K2 = true) (hk1 : (K1 == 2) = false) (hk2 : (K2 == 2) = false) (hi1 : okI I1) (hi2 : okI I2) (n : Int) (hn : intR 0 I1 I2 = some n) :
    Calls Try.prog 75 #[.agg #[.int .i64 K1, .int .i64 I1, .float .f64 F1, .string S1, .slice p1 l1 c1], .agg #[.int .i64 K2, .int .i64 I2, .float .f64 F2, .string S2, .slice p2 l2 c2], .func (Fn.func 76) #[] #[], .func (Fn.func 77) #[] #[]] w fun e w' => e = .returned (.tuple #[.agg #[.int .i64 1, .int .i64 n, .float .f64 0, .string ⟨#[]⟩, .slice none 0 0], .int .i64 0]) ∧ Below w.heap.size w w' := by
  have Hn := Lib.hid hn
  have H1 := Lib.hid hi1
  have H2 := Lib.hid hi2
  clear hn hi1 hi2
  go_enter Try.func75, Try.ntmps75
  go_wp2_with fail
  go_at_call 71; refine (isNumber_any _ _ _ _ _ _ _ _).mono ?_; rintro e w1 ⟨rfl, hb1⟩; obtain ⟨hc1, hf1⟩ := bcell hb1; (try simp only [World.size_drew, World.cell?_drew, World.frozen?_drew, World.heap_drewN, World.cell?_drewN, World.frozen?_drewN] at hc1 hf1); have hz1 : w.heap.size + 1 + 1 < w1.heap.size := (by (have := hb1.size; (try simp at this); omega)); have hy1 := Nat.lt_of_succ_lt hz1; have hx1 := Nat.lt_of_succ_lt hy1
  go_wp2_with fail
  go_at_call 71; refine (isNumber_any _ _ _ _ _ _ _ _).mono ?_; rintro e w2 ⟨rfl, hb2⟩
  obtain ⟨hB, hz2, hy2, hx2, m0, m1, m2, m3, m4, m5, m6, m7, m8, m9, m10, m11, m12, m13, m14, fr0, fr1, fr2⟩ := three _ _ _ _ _ _ _ _ _ _ _ _ _ _ _ _ hb1 hb2
  clear hc1 hf1 hz1 hy1 hx1 hb1 hb2
  go_wp2_with fail
  go_at_call 76; refine (addInts_any _ _ H1.out H2.out _).mono ?_; rintro e w3 ⟨ht, rfl⟩; obtain rfl := ht.1 _ Hn.out; clear ht
  go_wp2_with (go_at_call 85; refine (ofInt_any _ _).mono ?_; rintro e w4 ⟨rfl, hb4⟩; obtain ⟨hc4, hf4⟩ := bcell hb4; (try simp only [World.size_drew, World.cell?_drew, World.frozen?_drew, World.heap_drewN, World.cell?_drewN, World.frozen?_drewN] at hc4 hf4); have hz4 : w.heap.size + 1 + 1 < w4.heap.size := (by (have := hb4.size; (try simp at this); omega)); have hy4 := Nat.lt_of_succ_lt hz4; have hx4 := Nat.lt_of_succ_lt hy4)
  exact bodyPost_ret (v := .tuple #[.agg #[.int .i64 1, .int .i64 n, .float .f64 0, .string ⟨#[]⟩, .slice none 0 0], .int .i64 0]) (by simp [results, Try.results75, go_sem, hc4, hz2, m10, m11, m12, m13, m14]) rfl ⟨rfl, below5 (by (repeat (first | exact hB | exact below3 _ _ _ _ | (refine bel_tr (by assumption) (by (first | omega | (simp; omega))) ?_) | refine bel_drewN _ ?_ | refine Below.drew ?_))) (by omega) _ _ _ _ _⟩
set_option maxHeartbeats 1000000 in
theorem operate0_none (K1 I1 : Int) (F1 : Nat) (S1 : ByteArray) (p1 : Option Addr) (l1 c1 : Nat) (K2 I2 : Int) (F2 : Nat) (S2 : ByteArray) (p2 : Option Addr) (l2 c2 : Nat) (w : World) (h1 : isNum K1 = true) (h2 : isNum K2 = true) (hk1 : (K1 == 2) = false) (hk2 : (K2 == 2) = false) (hi1 : okI I1) (hi2 : okI I2) (hn : intR 0 I1 I2 = none) :
    Calls Try.prog 75 #[.agg #[.int .i64 K1, .int .i64 I1, .float .f64 F1, .string S1, .slice p1 l1 c1], .agg #[.int .i64 K2, .int .i64 I2, .float .f64 F2, .string S2, .slice p2 l2 c2], .func (Fn.func 76) #[] #[], .func (Fn.func 77) #[] #[]] w fun e w' => e = .returned (.tuple #[.agg #[.int .i64 0, .int .i64 0, .float .f64 0, .string ⟨#[]⟩, .slice none 0 0], .int .i64 35]) ∧ Below w.heap.size w w' := by
  have Hn := Lib.hid hn
  have H1 := Lib.hid hi1
  have H2 := Lib.hid hi2
  clear hn hi1 hi2
  go_enter Try.func75, Try.ntmps75
  go_wp2_with fail
  go_at_call 71; refine (isNumber_any _ _ _ _ _ _ _ _).mono ?_; rintro e w1 ⟨rfl, hb1⟩; obtain ⟨hc1, hf1⟩ := bcell hb1; (try simp only [World.size_drew, World.cell?_drew, World.frozen?_drew, World.heap_drewN, World.cell?_drewN, World.frozen?_drewN] at hc1 hf1); have hz1 : w.heap.size + 1 + 1 < w1.heap.size := (by (have := hb1.size; (try simp at this); omega)); have hy1 := Nat.lt_of_succ_lt hz1; have hx1 := Nat.lt_of_succ_lt hy1
  go_wp2_with fail
  go_at_call 71; refine (isNumber_any _ _ _ _ _ _ _ _).mono ?_; rintro e w2 ⟨rfl, hb2⟩
  obtain ⟨hB, hz2, hy2, hx2, m0, m1, m2, m3, m4, m5, m6, m7, m8, m9, m10, m11, m12, m13, m14, fr0, fr1, fr2⟩ := three _ _ _ _ _ _ _ _ _ _ _ _ _ _ _ _ hb1 hb2
  clear hc1 hf1 hz1 hy1 hx1 hb1 hb2
  go_wp2_with fail
  go_at_call 76; refine (addInts_any _ _ H1.out H2.out _).mono ?_; rintro e w3 ⟨ht, rfl⟩; obtain ⟨_, rfl⟩ := ht.2 Hn.out; clear ht
  go_wp2
  exact bodyPost_ret (v := .tuple #[.agg #[.int .i64 0, .int .i64 0, .float .f64 0, .string ⟨#[]⟩, .slice none 0 0], .int .i64 35]) (by simp [results, Try.results75, go_sem, m10, m11, m12, m13, m14]) rfl ⟨rfl, below5 (by (repeat (first | exact hB | exact below3 _ _ _ _ | (refine bel_tr (by assumption) (by (first | omega | (simp; omega))) ?_) | refine bel_drewN _ ?_ | refine Below.drew ?_))) (by omega) _ _ _ _ _⟩
theorem operate0_any (K1 I1 : Int) (F1 : Nat) (S1 : ByteArray) (p1 : Option Addr) (l1 c1 : Nat) (K2 I2 : Int) (F2 : Nat) (S2 : ByteArray) (p2 : Option Addr) (l2 c2 : Nat) (w : World) (hi1 : okI I1) (hi2 : okI I2) {K I : Int} {F : Nat} {E : Int} (hq : opV 0 K1 I1 F1 K2 I2 F2 = (K, I, F, E)) :
    Calls Try.prog 75 #[.agg #[.int .i64 K1, .int .i64 I1, .float .f64 F1, .string S1, .slice p1 l1 c1], .agg #[.int .i64 K2, .int .i64 I2, .float .f64 F2, .string S2, .slice p2 l2 c2], .func (Fn.func 76) #[] #[], .func (Fn.func 77) #[] #[]] w fun e w' => e = .returned (.tuple #[.agg #[.int .i64 K, .int .i64 I, .float .f64 F, .string ⟨#[]⟩, .slice none 0 0], .int .i64 E]) ∧ Below w.heap.size w w' := by
  cases h : (isNum K1 && isNum K2)
  · rw [opV_not h] at hq; cases hq; exact operate0_not K1 I1 F1 S1 p1 l1 c1 K2 I2 F2 S2 p2 l2 c2 w h
  · obtain ⟨h1, h2⟩ : isNum K1 = true ∧ isNum K2 = true := by simpa using h
    cases ha : (K1 == 2)
    · cases hb : (K2 == 2)
      · have hk : (K1 == 2 || K2 == 2) = false := by rw [ha, hb]; rfl
        cases hn : intR 0 I1 I2 with
        | some n => rw [opV_int h hk hn] at hq; cases hq; exact operate0_int K1 I1 F1 S1 p1 l1 c1 K2 I2 F2 S2 p2 l2 c2 w h1 h2 ha hb hi1 hi2 _ hn
        | none => rw [opV_none h hk hn] at hq; cases hq; exact operate0_none K1 I1 F1 S1 p1 l1 c1 K2 I2 F2 S2 p2 l2 c2 w h1 h2 ha hb hi1 hi2 hn
      · rw [opV_flo h (by rw [ha, hb]; rfl)] at hq; cases hq; exact operate0_flo_b K1 I1 F1 S1 p1 l1 c1 K2 I2 F2 S2 p2 l2 c2 w h1 h2 ha hb
    · rw [opV_flo h (by rw [ha]; rfl)] at hq; cases hq; exact operate0_flo_a K1 I1 F1 S1 p1 l1 c1 K2 I2 F2 S2 p2 l2 c2 w h1 h2 ha
theorem add_any (K1 I1 : Int) (F1 : Nat) (S1 : ByteArray) (p1 : Option Addr) (l1 c1 : Nat) (K2 I2 : Int) (F2 : Nat) (S2 : ByteArray) (p2 : Option Addr) (l2 c2 : Nat) (w : World) (hi1 : okI I1) (hi2 : okI I2) {K I : Int} {F : Nat} {E : Int} (hq : opV 0 K1 I1 F1 K2 I2 F2 = (K, I, F, E)) :
    Calls Try.prog 62 #[.agg #[.int .i64 K1, .int .i64 I1, .float .f64 F1, .string S1, .slice p1 l1 c1], .agg #[.int .i64 K2, .int .i64 I2, .float .f64 F2, .string S2, .slice p2 l2 c2]] w fun e w' => e = .returned (.tuple #[.agg #[.int .i64 K, .int .i64 I, .float .f64 F, .string ⟨#[]⟩, .slice none 0 0], .int .i64 E]) ∧ Below w.heap.size w w' := by
  have H : Hid _ := Lib.hid (fun W => operate0_any K1 I1 F1 S1 p1 l1 c1 K2 I2 F2 S2 p2 l2 c2 W hi1 hi2 hq)
  clear hi1 hi2 hq
  go_enter Try.func62, Try.ntmps62
  go_wp2_with (go_at_call 75; refine (H.out _).mono ?_; rintro e w1 ⟨rfl, hb1⟩; obtain ⟨hc1, hf1⟩ := bcell hb1; have hz1 : w.heap.size + 1 + 1 < w1.heap.size := (by (have := hb1.size; (try simp at this); omega)))
  exact bodyPost_ret (v := .tuple #[.agg #[.int .i64 K, .int .i64 I, .float .f64 F, .string ⟨#[]⟩, .slice none 0 0], .int .i64 E]) (by simp [results, Try.results62, go_sem, hc1]) rfl ⟨rfl, below5 ((below3 _ _ _ _).trans (hb1.mono (by simp; omega))) (by omega) _ _ _ _ _⟩
end Num
end Go.Proofs.Yteodljkcbddehaa
/-
  Sign, Finite of package num; Sub of two floats.
-/
namespace Go.Proofs.Yteodljkcbddehaa
open Go.RowKit
namespace Num
set_option linter.unusedSimpArgs false
set_option linter.unusedVariables false
open Ints
theorem signInt_any (n : Int) (w : World) : Calls Try.prog 72 #[.int .i64 n] w fun e w' => e = .returned (.int .i64 (signI n)) ∧ w = w' := by
  by_cases h1 : n < 0
  · have H := Lib.hid (show Ending.returned (.int .i64 (-1)) = .returned (.int .i64 (signI n)) by unfold signI; rw [if_pos h1])
    go_enter Try.func72, Try.ntmps72
    go_wp2
    go_ret
    exact ⟨H.out, rfl⟩
  by_cases h2 : 0 < n
  · have H := Lib.hid (show Ending.returned (.int .i64 1) = .returned (.int .i64 (signI n)) by unfold signI; rw [if_neg h1, if_pos h2])
    go_enter Try.func72, Try.ntmps72
    go_wp2
    go_ret
    exact ⟨H.out, rfl⟩
  · have H := Lib.hid (show Ending.returned (.int .i64 0) = .returned (.int .i64 (signI n)) by unfold signI; rw [if_neg h1, if_neg h2])
    go_enter Try.func72, Try.ntmps72
    go_wp2
    go_ret
    exact ⟨H.out, rfl⟩
theorem signFlo_any (x : Nat) (w : World) : Calls Try.prog 73 #[.float .f64 x] w fun e w' => e = .returned (.int .i64 (signF x)) ∧ w = w' := by
  cases h1 : (FloatKind.f64.format.order x 0 == some .lt)
  · cases h2 : (FloatKind.f64.format.order x 0 == some .gt)
    · have H := Lib.hid (show Ending.returned (.int .i64 0) = .returned (.int .i64 (signF x)) by unfold signF; rw [h1, h2]; rfl)
      go_enter Try.func73, Try.ntmps73
      go_wp2
      go_ret
      exact ⟨H.out, rfl⟩
    · have H := Lib.hid (show Ending.returned (.int .i64 1) = .returned (.int .i64 (signF x)) by unfold signF; rw [h1, h2]; rfl)
      go_enter Try.func73, Try.ntmps73
      go_wp2
      go_ret
      exact ⟨H.out, rfl⟩
  · have H := Lib.hid (show Ending.returned (.int .i64 (-1)) = .returned (.int .i64 (signF x)) by unfold signF; rw [h1]; rfl)
    go_enter Try.func73, Try.ntmps73
    go_wp2
    go_ret
    exact ⟨H.out, rfl⟩
theorem sign_any (K I : Int) (F : Nat) (S : ByteArray) (p : Option Addr) (l c : Nat) (w : World) : Calls Try.prog 56 #[.agg #[.int .i64 K, .int .i64 I, .float .f64 F, .string S, .slice p l c]] w fun e w' => e = .returned (.int .i64 (signV K I F)) ∧ Below w.heap.size w w' := by
  cases h1 : isNum K
  · have H := Lib.hid (show Ending.returned (.int .i64 0) = .returned (.int .i64 (signV K I F)) by unfold signV; rw [if_pos h1])
    go_enter Try.func56, Try.ntmps56
    go_wp2_with (go_at_call 71; refine (isNumber_any _ _ _ _ _ _ _ _).mono ?_; rintro e w1 ⟨rfl, hb1⟩; obtain ⟨hc1, hf1⟩ := bcell hb1)
    go_ret
    exact ⟨H.out, (br.alloc (Nat.le_refl _) _).trans (hb1.mono (by simp))⟩
  have h1' : ¬ isNum K = false := by rw [h1]; simp
  cases h2 : (K == 1)
  · have H := Lib.hid (show Ending.returned (.int .i64 (signF F)) = .returned (.int .i64 (signV K I F)) by unfold signV; rw [if_neg h1', h2]; rfl)
    clear h1'
    go_enter Try.func56, Try.ntmps56
    go_wp2_with (first
      | (go_at_call 71; refine (isNumber_any _ _ _ _ _ _ _ _).mono ?_; rintro e w1 ⟨rfl, hb1⟩; obtain ⟨hc1, hf1⟩ := bcell hb1)
      | (go_at_call 73; refine (signFlo_any _ _).mono ?_; rintro e w2 ⟨rfl, rfl⟩))
    go_ret
    exact ⟨H.out, (br.alloc (Nat.le_refl _) _).trans (hb1.mono (by simp))⟩
  · have H := Lib.hid (show Ending.returned (.int .i64 (signI I)) = .returned (.int .i64 (signV K I F)) by unfold signV; rw [if_neg h1', h2]; rfl)
    clear h1'
    go_enter Try.func56, Try.ntmps56
    go_wp2_with (first
      | (go_at_call 71; refine (isNumber_any _ _ _ _ _ _ _ _).mono ?_; rintro e w1 ⟨rfl, hb1⟩; obtain ⟨hc1, hf1⟩ := bcell hb1)
      | (go_at_call 72; refine (signInt_any _ _).mono ?_; rintro e w2 ⟨rfl, rfl⟩))
    go_ret
    exact ⟨H.out, (br.alloc (Nat.le_refl _) _).trans (hb1.mono (by simp))⟩
theorem abs_bits (x : Nat) (hx : x < 2 ^ 64) : (bits BinOp.andNot IntKind.u64 (x : Int) 9223372036854775808).toNat = x % 9223372036854775808 := by
  have e := u64_andNot_nat x 9223372036854775808 hx (by decide)
  have e2 : ((9223372036854775808 : Nat) : Int) = 9223372036854775808 := rfl
  rw [e2] at e
  rw [e, Int.toNat_natCast]
  exact Nat.and_two_pow_sub_one_eq_mod x 63
theorem abs_any (x : Nat) (hx : x < 2 ^ 64) (w : World) : Calls Try.prog 86 #[.float .f64 x] w fun e w' => e = .returned (.float .f64 (x % 9223372036854775808)) ∧ w = w' := by
  have H := Lib.hid (show Ending.returned (.float .f64 (bits BinOp.andNot IntKind.u64 (x : Int) 9223372036854775808).toNat) = .returned (.float .f64 (x % 9223372036854775808)) by rw [abs_bits x hx])
  clear hx
  go_enter Try.func86, Try.ntmps86
  go_wp2
  go_ret
  exact ⟨H.out, rfl⟩
theorem isInf_any (x : Nat) (hx : x < 2 ^ 64) (w : World) : Calls Try.prog 78 #[.float .f64 x, .int .i64 0] w fun e w' => e = .returned (.bool (isInfB x)) ∧ w = w' := by
  have H := Lib.hid (show Ending.returned (.bool (FloatKind.f64.format.order (x % 9223372036854775808) 9218868437227405311 == some .gt)) = .returned (.bool (isInfB x)) from rfl)
  have Hx := Lib.hid hx
  clear hx
  go_enter Try.func78, Try.ntmps78
  go_wp2_with (go_at_call 86; refine (abs_any _ Hx.out _).mono ?_; rintro e w1 ⟨rfl, rfl⟩)
  go_ret
  exact ⟨H.out, rfl⟩
theorem finite_any (K I : Int) (F : Nat) (S : ByteArray) (p : Option Addr) (l c : Nat) (hF : F < 2 ^ 64) (w : World) : Calls Try.prog 65 #[.agg #[.int .i64 K, .int .i64 I, .float .f64 F, .string S, .slice p l c]] w fun e w' => e = .returned (.bool (finV K F)) ∧ Below w.heap.size w w' := by
  cases h1 : (K == 2)
  · have H := Lib.hid (show Ending.returned (.bool (K == 1)) = .returned (.bool (finV K F)) by unfold finV; rw [h1]; rfl)
    go_enter Try.func65, Try.ntmps65
    go_wp2
    go_ret
    exact ⟨H.out, (br.alloc (Nat.le_refl _) _)⟩
  · have Hx := Lib.hid hF
    clear hF
    cases h2 : (FloatKind.f64.format.order F F == some .eq)
    · have H := Lib.hid (show Ending.returned (.bool false) = .returned (.bool (finV K F)) by unfold finV Flo.feq; rw [h1, h2]; rfl)
      go_enter Try.func65, Try.ntmps65
      go_wp2
      go_ret
      exact ⟨H.out, (br.alloc (Nat.le_refl _) _)⟩
    · have H := Lib.hid (show Ending.returned (.bool (!isInfB F)) = .returned (.bool (finV K F)) by unfold finV Flo.feq; rw [h1, h2]; rfl)
      go_enter Try.func65, Try.ntmps65
      go_wp2_with (go_at_call 78; refine (isInf_any _ Hx.out _).mono ?_; rintro e w1 ⟨rfl, rfl⟩)
      go_ret
      exact ⟨H.out, (br.alloc (Nat.le_refl _) _)⟩
theorem subFloats_any (x y : Nat) (w : World) : Calls Try.prog 82 #[.float .f64 x, .float .f64 y] w fun e w' => ∃ r n, e = .returned (.float .f64 r) ∧ Flo.canon r = Flo.cop .sub x y ∧ r < 2 ^ 64 ∧ w' = w.drewN n := by
  cases h : floatBits .sub .f64 x y with
  | some r =>
    have hop : ∀ t w, (binOp .sub t (.float .f64 x) (.float .f64 y)).run Try.prog w = .ok (.float .f64 r) w := fun t w => run_float_arith w .sub t .f64 x y r h
    have H : Hid _ := Lib.hid (show Flo.canon r = Flo.cop .sub x y ∧ r < 2 ^ 64 from ⟨(Flo.cop_some h).symm, Flo.floatBits_lt h⟩)
    clear h
    go_enter Try.func82, Try.ntmps82
    go_wp2
    go_ret
    exact ⟨r, 0, rfl, H.out.1, H.out.2, rfl⟩
  | none =>
    have hop : ∀ t w, (binOp .sub t (.float .f64 x) (.float .f64 y)).run Try.prog w = .ok (.float .f64 (Flo.drawn x y (w.tape w.drawn (.nanBits .f64 x y)))) w.drew := fun t w => Flo.run_none w .sub t x y (by simp) h
    have H : Hid _ := Lib.hid (Flo.cop_none h)
    clear h
    go_enter Try.func82, Try.ntmps82
    go_wp2
    go_ret
    exact ⟨_, 1, rfl, by rw [Flo.canon_drawn, H.out], Flo.drawn_lt _ _ _, rfl⟩
set_option maxHeartbeats 1000000 in
theorem operate1_flo_a (K1 I1 : Int) (F1 : Nat) (S1 : ByteArray) (p1 : Option Addr) (l1 c1 : Nat) (K2 I2 : Int) (F2 : Nat) (S2 : ByteArray) (p2 : Option Addr) (l2 c2 : Nat) (w : World) (h1 : isNum K1 = true) (h2 : isNum K2 = true) (hk : (K1 == 2) = true) :
    Calls Try.prog 75 #[.agg #[.int .i64 K1, .int .i64 I1, .float .f64 F1, .string S1, .slice p1 l1 c1], .agg #[.int .i64 K2, .int .i64 I2, .float .f64 F2, .string S2, .slice p2 l2 c2], .func (Fn.func 81) #[] #[], .func (Fn.func 82) #[] #[]] w fun e w' => e = .returned (.tuple #[.agg #[.int .i64 2, .int .i64 0, .float .f64 (Flo.cop .sub (asF K1 I1 F1) (asF K2 I2 F2)), .string ⟨#[]⟩, .slice none 0 0], .int .i64 0]) ∧ Below w.heap.size w w' := by
  go_enter Try.func75, Try.ntmps75
  go_wp2_with fail
  go_at_call 71; refine (isNumber_any _ _ _ _ _ _ _ _).mono ?_; rintro e w1 ⟨rfl, hb1⟩; obtain ⟨hc1, hf1⟩ := bcell hb1; (try simp only [World.size_drew, World.cell?_drew, World.frozen?_drew, World.heap_drewN, World.cell?_drewN, World.frozen?_drewN] at hc1 hf1); have hz1 : w.heap.size + 1 + 1 < w1.heap.size := (by (have := hb1.size; (try simp at this); omega)); have hy1 := Nat.lt_of_succ_lt hz1; have hx1 := Nat.lt_of_succ_lt hy1
  go_wp2_with fail
  go_at_call 71; refine (isNumber_any _ _ _ _ _ _ _ _).mono ?_; rintro e w2 ⟨rfl, hb2⟩
  obtain ⟨hB, hz2, hy2, hx2, m0, m1, m2, m3, m4, m5, m6, m7, m8, m9, m10, m11, m12, m13, m14, fr0, fr1, fr2⟩ := three _ _ _ _ _ _ _ _ _ _ _ _ _ _ _ _ hb1 hb2
  clear hc1 hf1 hz1 hy1 hx1 hb1 hb2
  go_wp2_with fail
  go_region_with (first
    | (go_at_call_of 84 (Value.int .i64 K1); refine (toFloat_any _ _ _ _ _ _ _ _).mono ?_; rintro e w3 ⟨rfl, hb3⟩; obtain ⟨hc3, hf3⟩ := bcell hb3; (try simp only [World.size_drew, World.cell?_drew, World.frozen?_drew, World.heap_drewN, World.cell?_drewN, World.frozen?_drewN] at hc3 hf3); have hz3 : w.heap.size + 1 + 1 < w3.heap.size := (by (have := hb3.size; (try simp at this); omega)); have hy3 := Nat.lt_of_succ_lt hz3; have hx3 := Nat.lt_of_succ_lt hy3)
    | (go_at_call_of 84 (Value.int .i64 K2); refine (toFloat_any _ _ _ _ _ _ _ _).mono ?_; rintro e w4 ⟨rfl, hb4⟩; obtain ⟨hc4, hf4⟩ := bcell hb4; (try simp only [World.size_drew, World.cell?_drew, World.frozen?_drew, World.heap_drewN, World.cell?_drewN, World.frozen?_drewN] at hc4 hf4); have hz4 : w.heap.size + 1 + 1 < w4.heap.size := (by (have := hb4.size; (try simp at this); omega)); have hy4 := Nat.lt_of_succ_lt hz4; have hx4 := Nat.lt_of_succ_lt hy4)
    | (go_at_call 83; refine (ofFloat_any _ _).mono ?_; rintro e w6 ⟨rfl, hb6⟩; (try rw [Hr.out]); obtain ⟨hc6, hf6⟩ := bcell hb6; (try simp only [World.size_drew, World.cell?_drew, World.frozen?_drew, World.heap_drewN, World.cell?_drewN, World.frozen?_drewN] at hc6 hf6); have hz6 : w.heap.size + 1 + 1 < w6.heap.size := (by (have := hb6.size; (try simp at this); omega)); have hy6 := Nat.lt_of_succ_lt hz6; have hx6 := Nat.lt_of_succ_lt hy6)
    | (go_at_call 82; refine (subFloats_any _ _ _).mono ?_; rintro e w5 ⟨r, n, rfl, hr, hlt, rfl⟩; have Hr := Lib.hid hr; clear hr hlt))
  all_goals go_wp2
  all_goals exact bodyPost_ret (v := .tuple #[.agg #[.int .i64 2, .int .i64 0, .float .f64 (Flo.cop .sub (asF K1 I1 F1) (asF K2 I2 F2)), .string ⟨#[]⟩, .slice none 0 0], .int .i64 0]) (by simp [results, Try.results75, go_sem, hc6, hc4, hc3, hz4, hz3, hz2, m10, m11, m12, m13, m14]) rfl ⟨rfl, below5 (by (repeat (first | exact hB | exact below3 _ _ _ _ | (refine bel_tr (by assumption) (by (first | omega | (simp; omega))) ?_) | refine bel_drewN _ ?_ | refine Below.drew ?_))) (by omega) _ _ _ _ _⟩
theorem sub_flo (I1 : Int) (F1 : Nat) (S1 : ByteArray) (p1 : Option Addr) (l1 c1 : Nat) (I2 : Int) (F2 : Nat) (S2 : ByteArray) (p2 : Option Addr) (l2 c2 : Nat) (w : World) :
    Calls Try.prog 74 #[.agg #[.int .i64 2, .int .i64 I1, .float .f64 F1, .string S1, .slice p1 l1 c1], .agg #[.int .i64 2, .int .i64 I2, .float .f64 F2, .string S2, .slice p2 l2 c2]] w fun e w' => e = .returned (.tuple #[.agg #[.int .i64 2, .int .i64 0, .float .f64 (Flo.cop .sub F1 F2), .string ⟨#[]⟩, .slice none 0 0], .int .i64 0]) ∧ Below w.heap.size w w' := by
  have H : Hid _ := Lib.hid (fun W => operate1_flo_a 2 I1 F1 S1 p1 l1 c1 2 I2 F2 S2 p2 l2 c2 W rfl rfl rfl)
  go_enter Try.func74, Try.ntmps74
  go_wp2_with (go_at_call 75; refine (H.out _).mono ?_; rintro e w1 ⟨rfl, hb1⟩; obtain ⟨hc1, hf1⟩ := bcell hb1; have hz1 : w.heap.size + 1 + 1 < w1.heap.size := (by (have := hb1.size; (try simp at this); omega)))
  exact bodyPost_ret (v := .tuple #[.agg #[.int .i64 2, .int .i64 0, .float .f64 (Flo.cop .sub F1 F2), .string ⟨#[]⟩, .slice none 0 0], .int .i64 0]) (by simp [results, Try.results74, go_sem, hc1, asF]) rfl ⟨rfl, below5 ((below3 _ _ _ _).trans (hb1.mono (by simp; omega))) (by omega) _ _ _ _ _⟩
end Num
end Go.Proofs.Yteodljkcbddehaa
