/-
  The survey of package value, its memo kept: what it measures of a value that a call made (each list in a block of its own): any number of parts.
-/
import Derived.Test.YtomfgncbdgifoaaJMP
import Derived.Test.YtomfgncbdgifoaaJp4VSurv
import Derived.Test.YtomfgncbdgifoaaJp9WE
namespace Go.Proofs.Ytomfgncbdgifoaa
open Go.RowKit
namespace Num
open Ints
set_option linter.unusedSimpArgs false
set_option linter.unusedVariables false
/-- A value's measure, as a walk takes it that stops at 64 lists in one another. -/
def measD : (n : Nat) → Nat → VT n → Me
  | 0, _, _ => (false, false, 0, 0)
  | n + 1, lev, T => if (T.1 == 0) = true then (false, false, 0, 1) else if (T.1 == 1 || T.1 == 2) = true then (false, false, 0, 9)
      else if (T.1 == 3) = true then (false, decide (256 < (T.2.2.2.1.size : Int)), 0, wrap64 (3 + (T.2.2.2.1.size : Int)))
      else if (T.1 == 4) = true then (if 64 < lev + 1 then (false, decide (64 < (T.2.2.2.2.length : Int)), 1, 2) else T.2.2.2.2.foldl (fun a x => withM a (measD n (lev + 1) x)) (false, decide (64 < (T.2.2.2.2.length : Int)), 1, 2)) else (true, false, 0, 1)
/-- A list's. -/
def measDL (n lev : Nat) (L : List (VT n)) : Me := if 64 < lev then (false, decide (64 < (L.length : Int)), 1, 2) else L.foldl (fun a x => withM a (measD n lev x)) (false, decide (64 < (L.length : Int)), 1, 2)
section
variable {n lev : Nat} {K I : Int} {F : Nat} {S : ByteArray} {L : List (VT n)}
theorem measD_nil (h : (K == 0) = true) : measD (n + 1) lev (K, I, F, S, L) = (false, false, 0, 1) := by
  show (if (K == 0) = true then _ else _) = _
  rw [if_pos h]
theorem measD_num (h0 : (K == 0) = false) (h : (K == 1 || K == 2) = true) : measD (n + 1) lev (K, I, F, S, L) = (false, false, 0, 9) := by
  show (if (K == 0) = true then _ else if (K == 1 || K == 2) = true then _ else _) = _
  rw [if_neg (by rw [h0]; simp), if_pos h]
theorem measD_text (h0 : (K == 0) = false) (h : (K == 1 || K == 2) = false) (h3 : (K == 3) = true) : measD (n + 1) lev (K, I, F, S, L) = (false, decide (256 < (S.size : Int)), 0, wrap64 (3 + (S.size : Int))) := by
  show (if (K == 0) = true then _ else if (K == 1 || K == 2) = true then _ else if (K == 3) = true then _ else _) = _
  rw [if_neg (by rw [h0]; simp), if_neg (by rw [h]; simp), if_pos h3]
theorem measD_list (h0 : (K == 0) = false) (h : (K == 1 || K == 2) = false) (h3 : (K == 3) = false) (h4 : (K == 4) = true) : measD (n + 1) lev (K, I, F, S, L) = measDL n (lev + 1) L := by
  show (if (K == 0) = true then _ else if (K == 1 || K == 2) = true then _ else if (K == 3) = true then _ else if (K == 4) = true then _ else _) = _
  rw [if_neg (by rw [h0]; simp), if_neg (by rw [h]; simp), if_neg (by rw [h3]; simp), if_pos h4]
  rfl
theorem measD_else (h0 : (K == 0) = false) (h : (K == 1 || K == 2) = false) (h3 : (K == 3) = false) (h4 : (K == 4) = false) : measD (n + 1) lev (K, I, F, S, L) = (true, false, 0, 1) := by
  show (if (K == 0) = true then _ else if (K == 1 || K == 2) = true then _ else if (K == 3) = true then _ else if (K == 4) = true then _ else _) = _
  rw [if_neg (by rw [h0]; simp), if_neg (by rw [h]; simp), if_neg (by rw [h3]; simp), if_neg (by rw [h4]; simp)]
end
/-- What a walk leaves: new blocks, the survey, the memo. -/
structure Kp (w w' : World) (sb : Nat) (mv : Value) : Prop where
  os : w'.os = w.os
  tape : w'.tape = w.tape
  output : w'.output = w.output
  size : w.heap.size ≤ w'.heap.size
  block : ∀ k, k < w.heap.size → k ≠ sb → mv ≠ .map (some k) → w'.heap[k]? = w.heap[k]?
/-- The memo stays, or is laid. -/
def MvTo (w : World) (mv mv' : Value) : Prop := mv' = mv ∨ (mv = .map none ∧ ∃ mb, mv' = .map (some mb) ∧ w.heap.size ≤ mb)
/-- The survey's memo holds lists in blocks of F, as w0 had them. -/
def MvIs (w0 w : World) (sb : Nat) (mv : Value) (F : Nat → Prop) : Prop := mv = .map none ∨ ∃ mb es ck, mv = .map (some mb) ∧ w0.heap.size ≤ mb ∧ mb ≠ sb ∧ w.heap[mb]? = some (.map es ck) ∧ MemoO w0 es.toList F
def MvAt (w0 w : World) (sb : Nat) (vis : Int) (mv : Value) (F : Nat → Prop) : Prop := w.heap[sb]? = some (.cells #[.int .i64 vis, mv] 130 (0, 0)) ∧ MvIs w0 w sb mv F
def SvR (w0 w w' : World) (sb : Nat) (mv : Value) (vis : Int) (k : Nat) (F : Nat → Prop) : Prop := Kp w w' sb mv ∧ ∃ vis' mv', vis ≤ vis' ∧ vis' ≤ vis + k ∧ MvTo w mv mv' ∧ MvAt w0 w' sb vis' mv' F
theorem kp_refl (w : World) (sb : Nat) (mv : Value) : Kp w w sb mv := ⟨rfl, rfl, rfl, Nat.le_refl _, fun _ _ _ _ => rfl⟩
theorem kp_trans {w w1 w2 : World} {sb : Nat} {mv mv1 : Value} (h : Kp w w1 sb mv) (hm : MvTo w mv mv1) (k : Kp w1 w2 sb mv1) : Kp w w2 sb mv :=
  ⟨k.os.trans h.os, k.tape.trans h.tape, k.output.trans h.output, Nat.le_trans h.size k.size, fun i hi hs hv => (k.block i (Nat.lt_of_lt_of_le hi h.size) hs (by
    rcases hm with e | ⟨e, mb, e', hle⟩
    · rw [e]; exact hv
    · rw [e']; intro h2; injection h2 with h2; injection h2 with h2; omega)).trans (h.block i hi hs hv)⟩
theorem mvto_trans {w w1 : World} {mv mv1 mv2 : Value} (h : MvTo w mv mv1) (hs : w.heap.size ≤ w1.heap.size) (k : MvTo w1 mv1 mv2) : MvTo w mv mv2 := by
  rcases k with e | ⟨e, mb, e', hle⟩
  · rw [e]; exact h
  · rcases h with e1 | ⟨_, mb1, e1, _⟩
    · exact Or.inr ⟨e1 ▸ e, mb, e', by omega⟩
    · rw [e] at e1; cases e1
theorem kp_alloc {w w1 : World} {sb : Nat} {mv : Value} (h : Kp w w1 sb mv) (o : Obj) : Kp w (w1.alloc o) sb mv :=
  ⟨h.os, h.tape, h.output, Nat.le_trans h.size (by rw [World.size_alloc]; omega), fun k hk hs hv => (Below.heap_alloc _ _ _ (Nat.lt_of_lt_of_le hk h.size)).trans (h.block k hk hs hv)⟩
theorem kp_drew {w w1 : World} {sb : Nat} {mv : Value} (h : Kp w w1 sb mv) : Kp w w1.drew sb mv := ⟨h.os, h.tape, h.output, h.size, h.block⟩
theorem kp_bel {w w1 w2 : World} {sb : Nat} {mv : Value} (h : Kp w w1 sb mv) (hb : Below w1.heap.size w1 w2) : Kp w w2 sb mv :=
  ⟨hb.os.trans h.os, hb.tape.trans h.tape, hb.output.trans h.output, Nat.le_trans h.size hb.size, fun k hk hs hv => (hb.block k (Nat.lt_of_lt_of_le hk h.size)).trans (h.block k hk hs hv)⟩
theorem kp_set {w w1 : World} {sb : Nat} {mv : Value} (h : Kp w w1 sb mv) {b : Nat} (hb : b = sb ∨ w.heap.size ≤ b) (o : Nat) (v : Value) : Kp w (w1.setCell ⟨b, o, none⟩ v) sb mv :=
  ⟨h.os, h.tape, h.output, by simpa using h.size, fun k hk hs hv => (Below.heap_setCell _ _ _ _ (by show k ≠ b; rcases hb with e | e <;> omega)).trans (h.block k hk hs hv)⟩
theorem mvis_keep {w0 w w' : World} {sb : Nat} {mv : Value} {F : Nat → Prop} (h : MvIs w0 w sb mv F) (hk : ∀ k, k < w.heap.size → k ≠ sb → w'.heap[k]? = w.heap[k]?) : MvIs w0 w' sb mv F := by
  rcases h with e | ⟨mb, es, ck, e, h1, h2, h3, h4⟩
  · exact Or.inl e
  · exact Or.inr ⟨mb, es, ck, e, h1, h2, (hk mb (row_lt h3) h2).trans h3, h4⟩
theorem mvat_bel {w0 w w' : World} {sb : Nat} {vis : Int} {mv : Value} {F : Nat → Prop} (h : MvAt w0 w sb vis mv F) (hb : Below w.heap.size w w') : MvAt w0 w' sb vis mv F :=
  ⟨row_step h.1 hb, mvis_keep h.2 (fun k hk _ => hb.block k hk)⟩
theorem mvat_alloc {w0 w : World} {sb : Nat} {vis : Int} {mv : Value} {F : Nat → Prop} (h : MvAt w0 w sb vis mv F) (o : Obj) : MvAt w0 (w.alloc o) sb vis mv F := mvat_bel h ((Below.refl _ _).alloc (Nat.le_refl _) o)
theorem mvat_drew {w0 w : World} {sb : Nat} {vis : Int} {mv : Value} {F : Nat → Prop} (h : MvAt w0 w sb vis mv F) : MvAt w0 w.drew sb vis mv F := h
theorem mvat_mono {w0 w : World} {sb : Nat} {vis : Int} {mv : Value} {F F' : Nat → Prop} (hF : ∀ b, F b → F' b) (h : MvAt w0 w sb vis mv F) : MvAt w0 w sb vis mv F' := by
  obtain ⟨h1, h2⟩ := h
  refine ⟨h1, ?_⟩
  rcases h2 with e | ⟨mb, es, ck, e, k1, k2, k3, k4⟩
  · exact Or.inl e
  · exact Or.inr ⟨mb, es, ck, e, k1, k2, k3, fun x hx => by obtain ⟨a, m, m1, m2, m3⟩ := k4 x hx; exact ⟨a, m, m1, hF _ m2, m3⟩⟩
theorem mvat_set {w0 w : World} {sb : Nat} {vis : Int} {mv : Value} {F : Nat → Prop} (h : MvAt w0 w sb vis mv F) {b : Nat} (hs : sb ≠ b) (hm : mv ≠ .map (some b)) (o : Nat) (v : Value) : MvAt w0 (w.setCell ⟨b, o, none⟩ v) sb vis mv F := by
  obtain ⟨h1, h2⟩ := h
  refine ⟨(Below.heap_setCell _ _ _ _ hs).trans h1, ?_⟩
  rcases h2 with e | ⟨mb, es, ck, e, k1, k2, k3, k4⟩
  · exact Or.inl e
  · exact Or.inr ⟨mb, es, ck, e, k1, k2, (Below.heap_setCell _ _ _ _ (by show mb ≠ b; intro h; exact hm (by rw [e, h]))).trans k3, k4⟩
theorem mvat_start {w0 w : World} {sb : Nat} {vis : Int} {mv : Value} {F : Nat → Prop} (h : MvAt w0 w sb vis mv F) (vis' : Int) : MvAt w0 (w.setCell ⟨sb, 0, none⟩ (.int .i64 vis')) sb vis' mv F := by
  obtain ⟨h1, h2⟩ := h
  exact ⟨setCell_row h1 _, mvis_keep h2 (fun k hk hs => Below.heap_setCell _ _ _ _ hs)⟩
/-- The memo's block is of the calls' own. -/
theorem mv_own {w0 w : World} {sb : Nat} {vis : Int} {mv : Value} {F : Nat → Prop} (h : MvAt w0 w sb vis mv F) : (∀ k, mv = .map (some k) → w0.heap.size ≤ k ∧ k < w.heap.size) := by
  intro k e
  rcases h.2 with e' | ⟨mb, es, ck, e', h1, h2, h3, h4⟩
  · rw [e] at e'; cases e'
  · rw [e] at e'; cases e'; exact ⟨h1, row_lt h3⟩
theorem kp_below {w0 w w' : World} {sb : Nat} {vis : Int} {mv : Value} {F : Nat → Prop} (hB : Below w0.heap.size w0 w) (hs : w0.heap.size ≤ sb) (h : MvAt w0 w sb vis mv F) (k : Kp w w' sb mv) : Below w0.heap.size w0 w' :=
  ⟨k.os.trans hB.os, k.tape.trans hB.tape, k.output.trans hB.output, Nat.le_trans hB.size k.size, fun i hi => (k.block i (Nat.lt_of_lt_of_le hi hB.size) (by omega) (fun e => by have := (mv_own h i e).1; omega)).trans (hB.block i hi)⟩
theorem svr_set4 {w0 w w1 : World} {sb : Nat} {mv : Value} {vis : Int} {k : Nat} {F : Nat → Prop} (h : SvR w0 w w1 sb mv vis k F) {nb : Nat} (hn : w.heap.size ≤ nb) (hs : sb ≠ nb) (hmv : ∀ cs t, w1.heap[nb]? ≠ some (.map cs t)) (v0 v1 v2 v3 : Value) :
    SvR w0 w ((((w1.setCell ⟨nb, 0, none⟩ v0).setCell ⟨nb, 1, none⟩ v1).setCell ⟨nb, 2, none⟩ v2).setCell ⟨nb, 3, none⟩ v3) sb mv vis k F := by
  obtain ⟨hk, vis', mv', a, b, c, d⟩ := h
  have hne : mv' ≠ .map (some nb) := by
    intro e
    rcases d.2 with e' | ⟨mb, es, ck, e', h1, h2, h3, h4⟩
    · rw [e] at e'; cases e'
    · rw [e] at e'; cases e'; exact hmv _ _ h3
  exact ⟨kp_set (kp_set (kp_set (kp_set hk (Or.inr hn) _ _) (Or.inr hn) _ _) (Or.inr hn) _ _) (Or.inr hn) _ _, vis', mv', a, b, c, mvat_set (mvat_set (mvat_set (mvat_set d hs hne _ _) hs hne _ _) hs hne _ _) hs hne _ _⟩
theorem svr_trans {w0 w W w1 : World} {sb : Nat} {mv : Value} {vis : Int} {k j : Nat} {F : Nat → Prop} (hg : Kp w W sb mv) (h : SvR w0 W w1 sb mv (vis + j) k F) : SvR w0 w w1 sb mv vis (k + j) F := by
  obtain ⟨hk, vis', mv', a, b, c, d⟩ := h
  exact ⟨kp_trans hg (Or.inl rfl) hk, vis', mv', by omega, by omega, mvto_trans (Or.inl rfl) hg.size c, d⟩
end Num
end Go.Proofs.Ytomfgncbdgifoaa
/-
  The survey's walk at a value, its memo kept.
-/
namespace Go.Proofs.Ytomfgncbdgifoaa
open Go.RowKit
namespace Num
open Ints
set_option linter.unusedSimpArgs false
set_option linter.unusedVariables false
def SmValue (n : Nat) : Prop := ∀ (T : VT n) (v : Value) (lev : Nat) (vis : Int) (w0 w : World) (sb : Nat) (mv : Value) (S F : Nat → Prop), RepC w0 n S v T → Below w0.heap.size w0 w → w0.heap.size ≤ sb → (∀ b, F b → ¬ S b) → MvAt w0 w sb vis mv F → lev ≤ 1000000 → 0 ≤ vis → vis + partsT n T ≤ 1000000 →
  Calls Try.prog 94 #[.pointer (some ⟨sb, 0, none⟩), v, .int .i64 lev] w fun e w' => e = .returned (meV (measD n lev T)) ∧ SvR w0 w w' sb mv vis (partsT n T) (fun b => F b ∨ S b)
def SmList (n : Nat) : Prop := ∀ (L : List (VT n)) (p : Option Addr) (l c : Nat) (lev : Nat) (vis : Int) (w0 w : World) (sb : Nat) (mv : Value) (S F : Nat → Prop), RepLS S w0 (RepC w0 n) p l c L → Below w0.heap.size w0 w → w0.heap.size ≤ sb → (∀ b, F b → ¬ S b) → MvAt w0 w sb vis mv F → lev ≤ 1000001 → 0 ≤ vis → vis + (L.foldl (fun a x => a + partsT n x) 0 : Nat) ≤ 1000000 →
  Calls Try.prog 104 #[.pointer (some ⟨sb, 0, none⟩), .slice p l c, .int .i64 lev] w fun e w' => e = .returned (meV (measDL n lev L)) ∧ SvR w0 w w' sb mv vis (L.foldl (fun a x => a + partsT n x) 0) (fun b => F b ∨ S b)
theorem sm_value_zero : SmValue 0 := fun T v lev vis w0 w sb mv S F h => h.elim
set_option maxHeartbeats 2000000 in
theorem sm_value_succ (n : Nat) (hl : SmList n) : SmValue (n + 1) := by
  intro T v lev vis w0 w sb mv A FF hr hB hs hFS hat hlev hv0 hvp
  obtain ⟨K, I, F, S, L⟩ := T
  obtain ⟨p, l, c, rfl, _, _, _, hS, hL⟩ := hr
  unfold maxLen at hS
  have c0 : w.cell? ⟨sb, 0, none⟩ = some (.int .i64 vis) := row_cell hat.1 0
  have f0 : w.frozen? ⟨sb, 0, none⟩ = false := row_frz hat.1 0
  have hlt := row_lt hat.1
  have hne : sb ≠ w.heap.size := by omega
  have hp1 : 1 ≤ partsT (n + 1) (K, I, F, S, L) := by
    cases h4 : (K == 4)
    · rw [partsT_else h4]; omega
    · rw [partsT_list h4]; exact foldl_parts _ _
  have hv1 : vis ≤ 999999 := by omega
  have HAT := Lib.hid hat
  have HB := Lib.hid hB
  have HL := Lib.hid hL
  have HP := Lib.hid hvp
  have HLI := Lib.hid hl
  have HFS := Lib.hid hFS
  have start : ∀ (o1 o2 : Obj), Kp w (((w.setCell ⟨sb, 0, none⟩ (.int .i64 (vis + 1))).alloc o1).alloc o2) sb mv ∧ MvAt w0 (((w.setCell ⟨sb, 0, none⟩ (.int .i64 (vis + 1))).alloc o1).alloc o2) sb (vis + 1) mv FF := fun o1 o2 =>
    ⟨kp_alloc (kp_alloc (kp_set (kp_refl w sb mv) (Or.inl rfl) _ _) _) _, mvat_alloc (mvat_alloc (mvat_start hat _) _) _⟩
  have START := Lib.hid start
  have fin : ∀ (m : Me) (o1 o2 : Obj), measD (n + 1) lev (K, I, F, S, L) = m → Ending.returned (meV m) = .returned (meV (measD (n + 1) lev (K, I, F, S, L))) ∧ SvR w0 w (((w.setCell ⟨sb, 0, none⟩ (.int .i64 (vis + 1))).alloc o1).alloc o2) sb mv vis (partsT (n + 1) (K, I, F, S, L)) (fun b => FF b ∨ A b) := by
    intro m o1 o2 e
    exact ⟨by rw [e], (start o1 o2).1, vis + 1, mv, by omega, by omega, Or.inl rfl, mvat_mono (fun b hb => Or.inl hb) (start o1 o2).2⟩
  have FIN := Lib.hid fin
  clear hat hB hL hvp hl fin start hp1 hFS
  cases h0 : (K == 0)
  · cases h1 : (K == 1)
    · cases h2 : (K == 2)
      · cases h3 : (K == 3)
        · cases h4 : (K == 4)
          · go_enter Try.func94, Try.ntmps94
            go_wp2
            exact bodyPost_ret (v := .agg #[.bool true, .bool false, .int .i64 0, .int .i64 1]) (by simp [results, Try.results94, go_sem]) rfl (FIN.out (true, false, 0, 1) _ _ (measD_else h0 (by rw [h1, h2]; rfl) h3 h4))
          · have hpl : vis + 1 + (L.foldl (fun a x => a + partsT n x) 0 : Nat) ≤ 1000000 ∧ partsT (n + 1) (K, I, F, S, L) = L.foldl (fun a x => a + partsT n x) 0 + 1 := by
              have e : partsT (n + 1) (K, I, F, S, L) = L.foldl (fun a x => a + partsT n x) 0 + 1 := by
                rw [partsT_list h4, ← parts_shift]
              have := HP.out
              rw [e] at this
              exact ⟨by omega, e⟩
            have HPL := Lib.hid hpl
            have HST := Lib.hid (START.out (.cells #[.int .i64 K, .int .i64 I, .float .f64 F, .string S, .slice p l c] 47) (.cells #[.bool false, .bool false, .int .i64 0, .int .i64 0] 119))
            have HB1 := Lib.hid (kp_below HB.out hs HAT.out HST.out.1)
            have RR := Lib.hid (row_alloc ((w.setCell ⟨sb, 0, none⟩ (.int .i64 (vis + 1))).alloc (.cells #[.int .i64 K, .int .i64 I, .float .f64 F, .string S, .slice p l c] 47)) #[.bool false, .bool false, .int .i64 0, .int .i64 0] 119)
            have H := Lib.hid (show Ending.returned (meV (measDL n (lev + 1) L)) = .returned (meV (measD (n + 1) lev (K, I, F, S, L))) by rw [measD_list h0 (by rw [h1, h2]; rfl) h3 h4])
            have hmo := Lib.hid (fun k (e : mv = .map (some k)) => (mv_own HAT.out k e).2)
            clear hpl
            simp only [World.size_alloc, World.size_setCell] at RR
            go_enter Try.func94, Try.ntmps94
            go_wp2_with fail
            go_at_call 104; rw [show ((lev : Int) + 1) = ((lev + 1 : Nat) : Int) by omega]; refine (HLI.out L p l c (lev + 1) (vis + 1) w0 _ sb mv A FF HL.out HB1.out hs HFS.out HST.out.2 (by omega) (by omega) HPL.out.1).mono ?_; rintro e w1 ⟨rfl, hsv⟩
            have HSV := Lib.hid hsv
            clear hsv
            have hrr : w1.heap[w.heap.size + 1]? = some (.cells #[.bool false, .bool false, .int .i64 0, .int .i64 0] 119 (0, 0)) := (HSV.out.1.block (w.heap.size + 1) (by simp) (by omega) (fun e => by have := hmo.out _ e; omega)).trans RR.out
            obtain ⟨q, hq⟩ : ∃ q, q = measDL n (lev + 1) L := ⟨_, rfl⟩
            rw [← hq]
            rw [← hq] at H
            clear hq
            obtain ⟨q1, q2, q3, q4⟩ := q
            rw [show meV (q1, q2, q3, q4) = Value.agg #[.bool q1, .bool q2, .int .i64 q3, .int .i64 q4] from rfl]
            have d0 := row_cell hrr 0
            have d1 := row_cell hrr 1
            have d2 := row_cell hrr 2
            have d3 := row_cell hrr 3
            simp only [List.getElem?_toArray, List.getElem?_cons_zero, List.getElem?_cons_succ] at d0 d1 d2 d3
            have e0 := row_frz hrr 0
            have e1 := row_frz hrr 1
            have e2 := row_frz hrr 2
            have e3 := row_frz hrr 3
            have HRR := Lib.hid hrr
            clear hrr c0 f0
            go_wp2
            refine bodyPost_ret (v := .agg #[.bool q1, .bool q2, .int .i64 q3, .int .i64 q4]) (by simp [results, Try.results94, go_sem, World.cell?_setCell_same, World.cell?_setCell_other, d0, d1, d2, d3]) rfl ⟨H.out, ?_⟩
            rw [HPL.out.2]
            exact svr_set4 (svr_trans (j := 1) HST.out.1 HSV.out) (by omega) (by omega) (fun cs t e => by rw [HRR.out] at e; cases e) _ _ _ _
        · by_cases h256 : 256 < (S.size : Int)
          · go_enter Try.func94, Try.ntmps94
            go_wp2
            exact bodyPost_ret (v := .agg #[.bool false, .bool true, .int .i64 0, .int .i64 (wrap64 (3 + (S.size : Int)))]) (by simp [results, Try.results94, go_sem]) rfl (FIN.out (false, true, 0, wrap64 (3 + (S.size : Int))) _ _ ((measD_text h0 (by rw [h1, h2]; rfl) h3).trans (by simp [h256])))
          · go_enter Try.func94, Try.ntmps94
            go_wp2
            exact bodyPost_ret (v := .agg #[.bool false, .bool false, .int .i64 0, .int .i64 (3 + (S.size : Int))]) (by simp [results, Try.results94, go_sem]) rfl (FIN.out (false, false, 0, 3 + (S.size : Int)) _ _ ((measD_text h0 (by rw [h1, h2]; rfl) h3).trans (by rw [show wrap64 (3 + (S.size : Int)) = 3 + (S.size : Int) by unfold wrap64; omega]; simp [h256])))
      · go_enter Try.func94, Try.ntmps94
        go_wp2
        exact bodyPost_ret (v := .agg #[.bool false, .bool false, .int .i64 0, .int .i64 9]) (by simp [results, Try.results94, go_sem]) rfl (FIN.out (false, false, 0, 9) _ _ (measD_num h0 (by rw [h1, h2]; rfl)))
    · go_enter Try.func94, Try.ntmps94
      go_wp2
      exact bodyPost_ret (v := .agg #[.bool false, .bool false, .int .i64 0, .int .i64 9]) (by simp [results, Try.results94, go_sem]) rfl (FIN.out (false, false, 0, 9) _ _ (measD_num h0 (by rw [h1]; rfl)))
  · go_enter Try.func94, Try.ntmps94
    go_wp2
    exact bodyPost_ret (v := .agg #[.bool false, .bool false, .int .i64 0, .int .i64 1]) (by simp [results, Try.results94, go_sem]) rfl (FIN.out (false, false, 0, 1) _ _ (measD_nil h0))
end Num
end Go.Proofs.Ytomfgncbdgifoaa
/-
  What package wire reads: Read, of at most as many bytes as a value may have.
-/
namespace Go.Proofs.Ytomfgncbdgifoaa
open Go.RowKit
namespace Num
open Ints
set_option linter.unusedSimpArgs false
set_option linter.unusedVariables false
theorem cell_alloc5 {w : World} {b : Nat} (hb : b < w.heap.size) (o : Obj) (v0 v1 v2 v3 v4 : Value) (i : Nat) : ((((((w.setCell ⟨b, 0, none⟩ v0).setCell ⟨b, 1, none⟩ v1).setCell ⟨b, 2, none⟩ v2).setCell ⟨b, 3, none⟩ v3).setCell ⟨b, 4, none⟩ v4).alloc o).cell? ⟨b, i, none⟩ = (((((w.setCell ⟨b, 0, none⟩ v0).setCell ⟨b, 1, none⟩ v1).setCell ⟨b, 2, none⟩ v2).setCell ⟨b, 3, none⟩ v3).setCell ⟨b, 4, none⟩ v4).cell? ⟨b, i, none⟩ :=
  World.cell?_alloc_lt _ _ _ (by simp only [World.size_setCell]; exact hb)
theorem rd_p {w : World} {p : Option Addr} {l c : Nat} {X : List Int} (h : RdB w p l c X) : p = none ∧ l = 0 ∧ c = 0 ∨ ∃ ad, p = some ad := by
  cases p with
  | none => exact Or.inl ⟨rfl, by have h1 := h.2.2.2.2 rfl; have h2 := h.2.1; omega, h.2.2.2.2 rfl⟩
  | some ad => exact Or.inr ⟨ad, rfl⟩
set_option maxRecDepth 100000 in
set_option maxHeartbeats 4000000 in
theorem read_no (N : Nat) (w : World) (p : Option Addr) (l c : Nat) (X : List Int) (hb : RdB w p l c X) (hX : By X) (hN : l ≤ N) (hl : l ≤ 4096) (hd : decV N X = none) :
    Calls Try.prog 69 #[.slice p l c] w fun e w' => e = .returned (.tuple #[.agg #[.int .i64 0, .int .i64 0, .float .f64 0, .string ⟨#[]⟩, .slice none 0 0], .int .i64 0, .int .i64 20]) ∧ Below w.heap.size w w' := by
  have hlc := hb.2.1
  have hcm := hb.2.2.1
  unfold maxLen at hcm
  have HB := Lib.hid (rd_keep ((Below.refl w.heap.size w).alloc (Nat.le_refl _) (.cells #[.int .i64 0, .int .i64 0, .float .f64 0, .string ⟨#[]⟩, .slice none 0 0] 47)) hb)
  have HX := Lib.hid hX
  have HD := Lib.hid hd
  have RB := Lib.hid (row_alloc w #[.int .i64 0, .int .i64 0, .float .f64 0, .string ⟨#[]⟩, .slice none 0 0] 47)
  clear hd
  rcases rd_p hb with ⟨rfl, rfl, rfl⟩ | ⟨ad, rfl⟩
  all_goals
    clear hb hX
    go_enter Try.func69, Try.ntmps69
    go_wp2_with fail
    go_at_call 87; refine (rv_all N _ _ _ _ X HB.out HX.out hN (by omega)).mono ?_; rintro e w1 ⟨hb1, hno, hyes⟩
    obtain ⟨K, I, F, S, q, a, d, m, rfl⟩ := hno HD.out
    have HB1 := Lib.hid (bel_box _ hb1)
    have hr1 := row_step RB.out hb1
    have d0 := row_cell hr1 0
    have d1 := row_cell hr1 1
    have d2 := row_cell hr1 2
    have d3 := row_cell hr1 3
    have d4 := row_cell hr1 4
    simp only [List.getElem?_toArray, List.getElem?_cons_zero, List.getElem?_cons_succ] at d0 d1 d2 d3 d4
    have df := fun o => row_frz hr1 o
    have hlt := row_lt hr1
    have hne : w.heap.size ≠ w1.heap.size := by omega
    have ha := fun (o : Obj) (v0 v1 v2 v3 v4 : Value) (i : Nat) => cell_alloc5 hlt o v0 v1 v2 v3 v4 i
    clear hb1 hno hyes hr1
    go_wp2
    refine bodyPost_ret (v := .tuple #[.agg #[.int .i64 0, .int .i64 0, .float .f64 0, .string ⟨#[]⟩, .slice none 0 0], .int .i64 0, .int .i64 20]) (by simp [results, Try.results69, go_sem, ha, World.cell?_setCell_same, World.cell?_setCell_other, d0, d1, d2, d3, d4]) rfl ?_
    exact ⟨rfl, bel_alloc (bel_set5 HB1.out (Nat.le_refl _) _ _ _ _ _) _⟩
set_option maxRecDepth 100000 in
set_option maxHeartbeats 4000000 in
theorem read_bad (N : Nat) (w : World) (p : Option Addr) (l c : Nat) (X : List Int) (hb : RdB w p l c X) (hX : By X) (hN : l ≤ N) (hl : l ≤ 4096) (T : VT N) (j : Nat) (hd : decV N X = some (T, j)) (hdp : deepT N T 64 = false) (hpt : partsT N T ≤ 1000) (E : Int) (hc : checkM (measT N T) = E) (hE : (E != 0) = true) :
    Calls Try.prog 69 #[.slice p l c] w fun e w' => e = .returned (.tuple #[.agg #[.int .i64 0, .int .i64 0, .float .f64 0, .string ⟨#[]⟩, .slice none 0 0], .int .i64 0, .int .i64 20]) ∧ Below w.heap.size w w' := by
  have hlc := hb.2.1
  have hcm := hb.2.2.1
  unfold maxLen at hcm
  have HB := Lib.hid (rd_keep ((Below.refl w.heap.size w).alloc (Nat.le_refl _) (.cells #[.int .i64 0, .int .i64 0, .float .f64 0, .string ⟨#[]⟩, .slice none 0 0] 47)) hb)
  have HX := Lib.hid hX
  have HD := Lib.hid hd
  have RB := Lib.hid (row_alloc w #[.int .i64 0, .int .i64 0, .float .f64 0, .string ⟨#[]⟩, .slice none 0 0] 47)
  clear hd
  have HC := Lib.hid hc
  clear hc
  rcases rd_p hb with ⟨rfl, rfl, rfl⟩ | ⟨ad, rfl⟩
  all_goals
    clear hb hX
    go_enter Try.func69, Try.ntmps69
    go_wp2_with fail
    go_at_call 87; refine (rv_all N _ _ _ _ X HB.out HX.out hN (by omega)).mono ?_; rintro e w1 ⟨hb1, hno, hyes⟩
    obtain ⟨v, rfl, hrep⟩ := hyes T j HD.out
    obtain ⟨K, I, F, S, q, a, d, rfl, _⟩ := repS_shape hrep
    have HB1 := Lib.hid (bel_box _ hb1)
    have hlw : w.heap.size < w1.heap.size := by have h3 := hb1.size; rw [World.size_alloc] at h3; omega
    have HR := Lib.hid (repS_rep _ _ _ (repS_keep (fun b (hb' : (w.alloc (.cells #[.int .i64 0, .int .i64 0, .float .f64 0, .string ⟨#[]⟩, .slice none 0 0] 47)).heap.size ≤ b ∧ b < w1.heap.size) => Below.heap_alloc w1 (.cells #[.int .i64 K, .int .i64 I, .float .f64 F, .string S, .slice q a d] 47) b hb'.2) _ _ _ (repS_lt _ _ _ hrep)))
    have HS := Lib.hid hrep
    have RB1 := Lib.hid (row_alloc_step (row_step RB.out hb1) (.cells #[.int .i64 K, .int .i64 I, .float .f64 F, .string S, .slice q a d] 47))
    have RV1 := Lib.hid (row_alloc w1 #[.int .i64 K, .int .i64 I, .float .f64 F, .string S, .slice q a d] 47)
    clear hb1 hno hyes hrep
    go_wp2_with fail
    go_at_call 79; refine (check_any N K I F S q a d T _ HR.out hdp hpt).mono ?_; rintro e w2 ⟨rfl, hb2⟩
    rw [HC.out]
    have HB2 := Lib.hid (bel_step (bel_alloc HB1.out _) hb2)
    have hr1 := row_step RB1.out hb2
    have hv1 := row_step RV1.out hb2
    have d0 := row_cell hr1 0; have d1 := row_cell hr1 1; have d2 := row_cell hr1 2; have d3 := row_cell hr1 3; have d4 := row_cell hr1 4
    have k0 := row_cell hv1 0; have k1 := row_cell hv1 1; have k2 := row_cell hv1 2; have k3 := row_cell hv1 3; have k4 := row_cell hv1 4
    simp only [List.getElem?_toArray, List.getElem?_cons_zero, List.getElem?_cons_succ] at d0 d1 d2 d3 d4 k0 k1 k2 k3 k4
    have df := fun o => row_frz hr1 o
    have hlt := row_lt hr1
    have hne : w.heap.size ≠ w1.heap.size := by omega
    have ha := fun (o : Obj) (v0 v1 v2 v3 v4 : Value) (i : Nat) => cell_alloc5 hlt o v0 v1 v2 v3 v4 i
    clear hr1 hv1 hb2
    go_wp2
    skip
    refine bodyPost_ret (v := .tuple #[.agg #[.int .i64 0, .int .i64 0, .float .f64 0, .string ⟨#[]⟩, .slice none 0 0], .int .i64 0, .int .i64 20]) (by simp [results, Try.results69, go_sem, ha, World.cell?_setCell_same, World.cell?_setCell_other, d0, d1, d2, d3, d4]) rfl ?_
    exact ⟨rfl, bel_set5 HB2.out (Nat.le_refl _) _ _ _ _ _⟩
set_option maxRecDepth 100000 in
set_option maxHeartbeats 4000000 in
theorem read_ok (N : Nat) (w : World) (p : Option Addr) (l c : Nat) (X : List Int) (hb : RdB w p l c X) (hX : By X) (hN : l ≤ N) (hl : l ≤ 4096) (T : VT N) (j : Nat) (hd : decV N X = some (T, j)) (hj : j ≤ 100000) (hdp : deepT N T 64 = false) (hpt : partsT N T ≤ 1000) (hc : checkM (measT N T) = 0) :
    Calls Try.prog 69 #[.slice p l c] w fun e w' => ∃ v, e = .returned (.tuple #[v, .int .i64 (j : Int), .int .i64 0]) ∧ Below w.heap.size w w' ∧ RepS (fun b => w.heap.size < b) w' N v T := by
  have hlc := hb.2.1
  have hcm := hb.2.2.1
  unfold maxLen at hcm
  have HB := Lib.hid (rd_keep ((Below.refl w.heap.size w).alloc (Nat.le_refl _) (.cells #[.int .i64 0, .int .i64 0, .float .f64 0, .string ⟨#[]⟩, .slice none 0 0] 47)) hb)
  have HX := Lib.hid hX
  have HD := Lib.hid hd
  have RB := Lib.hid (row_alloc w #[.int .i64 0, .int .i64 0, .float .f64 0, .string ⟨#[]⟩, .slice none 0 0] 47)
  clear hd
  have HC := Lib.hid hc
  clear hc
  rcases rd_p hb with ⟨rfl, rfl, rfl⟩ | ⟨ad, rfl⟩
  all_goals
    clear hb hX
    go_enter Try.func69, Try.ntmps69
    go_wp2_with fail
    go_at_call 87; refine (rv_all N _ _ _ _ X HB.out HX.out hN (by omega)).mono ?_; rintro e w1 ⟨hb1, hno, hyes⟩
    obtain ⟨v, rfl, hrep⟩ := hyes T j HD.out
    obtain ⟨K, I, F, S, q, a, d, rfl, _⟩ := repS_shape hrep
    have HB1 := Lib.hid (bel_box _ hb1)
    have hlw : w.heap.size < w1.heap.size := by have h3 := hb1.size; rw [World.size_alloc] at h3; omega
    have HR := Lib.hid (repS_rep _ _ _ (repS_keep (fun b (hb' : (w.alloc (.cells #[.int .i64 0, .int .i64 0, .float .f64 0, .string ⟨#[]⟩, .slice none 0 0] 47)).heap.size ≤ b ∧ b < w1.heap.size) => Below.heap_alloc w1 (.cells #[.int .i64 K, .int .i64 I, .float .f64 F, .string S, .slice q a d] 47) b hb'.2) _ _ _ (repS_lt _ _ _ hrep)))
    have HS := Lib.hid hrep
    have RB1 := Lib.hid (row_alloc_step (row_step RB.out hb1) (.cells #[.int .i64 K, .int .i64 I, .float .f64 F, .string S, .slice q a d] 47))
    have RV1 := Lib.hid (row_alloc w1 #[.int .i64 K, .int .i64 I, .float .f64 F, .string S, .slice q a d] 47)
    clear hb1 hno hyes hrep
    go_wp2_with fail
    go_at_call 79; refine (check_any N K I F S q a d T _ HR.out hdp hpt).mono ?_; rintro e w2 ⟨rfl, hb2⟩
    rw [HC.out]
    have HB2 := Lib.hid (bel_step (bel_alloc HB1.out _) hb2)
    have hr1 := row_step RB1.out hb2
    have hv1 := row_step RV1.out hb2
    have d0 := row_cell hr1 0; have d1 := row_cell hr1 1; have d2 := row_cell hr1 2; have d3 := row_cell hr1 3; have d4 := row_cell hr1 4
    have k0 := row_cell hv1 0; have k1 := row_cell hv1 1; have k2 := row_cell hv1 2; have k3 := row_cell hv1 3; have k4 := row_cell hv1 4
    simp only [List.getElem?_toArray, List.getElem?_cons_zero, List.getElem?_cons_succ] at d0 d1 d2 d3 d4 k0 k1 k2 k3 k4
    have df := fun o => row_frz hr1 o
    have hlt := row_lt hr1
    have hne : w.heap.size ≠ w1.heap.size := by omega
    have hrep2 := repS_keep (fun b (hb' : w.heap.size < b ∧ b < w1.heap.size) => ((hb2.block b (by rw [World.size_alloc]; omega)).trans (Below.heap_alloc w1 (.cells #[.int .i64 K, .int .i64 I, .float .f64 F, .string S, .slice q a d] 47) b hb'.2)).symm.symm) _ _ _ (repS_mono (fun b (h : (w.alloc (.cells #[.int .i64 0, .int .i64 0, .float .f64 0, .string ⟨#[]⟩, .slice none 0 0] 47)).heap.size ≤ b ∧ b < w1.heap.size) => (⟨by have h3 := h.1; rw [World.size_alloc] at h3; omega, h.2⟩ : w.heap.size < b ∧ b < w1.heap.size)) _ _ _ (repS_lt _ _ _ HS.out))
    have HS2 := Lib.hid (repS_mono (fun b h => h.1) _ _ _ hrep2)
    clear hrep2
    have ha := fun (o : Obj) (v0 v1 v2 v3 v4 : Value) (i : Nat) => cell_alloc5 hlt o v0 v1 v2 v3 v4 i
    clear hr1 hv1 hb2
    go_wp2
    refine bodyPost_ret (v := .tuple #[.agg #[.int .i64 K, .int .i64 I, .float .f64 F, .string S, .slice q a d], .int .i64 (j : Int), .int .i64 0]) (by simp [results, Try.results69, go_sem, ha, World.cell?_setCell_same, World.cell?_setCell_other, d0, d1, d2, d3, d4]) rfl ?_
    exact ⟨_, rfl, bel_set5 HB2.out (Nat.le_refl _) _ _ _ _ _, repS_keep (fun b h => set5_heap (by omega) _ _ _ _ _) _ _ _ HS2.out⟩
end Num
end Go.Proofs.Ytomfgncbdgifoaa
