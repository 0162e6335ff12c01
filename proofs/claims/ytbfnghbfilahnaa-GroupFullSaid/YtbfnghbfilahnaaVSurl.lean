/-
  The survey's walk through a list.
-/
import Derived.Test.YtbfnghbfilahnaaVSurv
namespace Go.Proofs.Ytbfnghbfilahnaa
open Go.RowKit
namespace Num
open Ints
set_option linter.unusedSimpArgs false
set_option linter.unusedVariables false
theorem look_row (a : Addr) (n : Int) (w : World) : (Instr.lookup 101 (.map none) (.agg #[.pointer (some a), .int .i64 n]) true).run Try.prog w = .ok (.tuple #[.agg #[.bool false, .bool false, .int .i64 0, .int .i64 0], .bool false]) w := by kernel_rfl
theorem surv_keep (a : Addr) (n : Int) (q1 q2 : Bool) (q3 q4 : Int) (w : World) (sb : Nat) (vis : Int) (hat : SvAt w sb vis) (hv : vis ≤ 1000) : Calls Try.prog 85 #[.pointer (some ⟨sb, 0, none⟩), .agg #[.pointer (some a), .int .i64 n], .agg #[.bool q1, .bool q2, .int .i64 q3, .int .i64 q4]] w fun e w' => e = .returned (.tuple #[]) ∧ Below w.heap.size w w' := by
  have c0 : w.cell? ⟨sb, 0, none⟩ = some (.int .i64 vis) := row_cell hat 0
  have hlt := row_lt hat
  have hne : sb ≠ w.heap.size := by omega
  clear hat
  go_enter Try.func85, Try.ntmps85
  go_wp2
  refine bodyPost_ret (results_none rfl _ _ _) rfl ?_
  exact ⟨rfl, ((Below.refl _ _).alloc (Nat.le_refl _) _).alloc (by simp) _⟩
theorem with_me (s1 l1 : Bool) (d1 z1 : Int) (q : Me) (w : World) : Calls Try.prog 84 #[.agg #[.bool s1, .bool l1, .int .i64 d1, .int .i64 z1], meV q] w fun e w' => e = .returned (.agg #[.bool (withM (s1, l1, d1, z1) q).1, .bool (withM (s1, l1, d1, z1) q).2.1, .int .i64 (withM (s1, l1, d1, z1) q).2.2.1, .int .i64 (withM (s1, l1, d1, z1) q).2.2.2]) ∧ Below w.heap.size w w' := by
  obtain ⟨a, b, c, d⟩ := q
  exact with_any s1 l1 d1 z1 a b c d w
/-- What the walk through a list keeps: the result's box, the measure so far, the list's place. -/
def Lst (w wr : World) (sb : Nat) (vis vis' : Int) (k : Nat) (q : Me) (a : Addr) (l : Nat) : Prop :=
  w.grownBy wr (some sb) ∧ SvAt wr sb vis' ∧ vis ≤ vis' ∧ vis' ≤ vis + k ∧
  wr.heap[w.heap.size]? = some (.cells #[.bool false, .bool false, .int .i64 0, .int .i64 0] 90 (0, 0)) ∧
  wr.heap[w.heap.size + 1]? = some (.cells #[.bool q.1, .bool q.2.1, .int .i64 q.2.2.1, .int .i64 q.2.2.2] 90 (0, 0)) ∧
  wr.heap[w.heap.size + 1 + 1]? = some (.cells #[.pointer (some a), .int .i64 l] 127 (0, 0))
theorem grown_drew {w w' : World} {row : Option Nat} (h : w.grownBy w' row) : w.grownBy w'.drew row := ⟨h.os, h.tape, h.output, h.size, h.block⟩
theorem rep_shape {w : World} {n : Nat} {v : Value} {T : VT n} (h : Rep w n v T) : ∃ (K I : Int) (F : Nat) (S : ByteArray) (p : Option Addr) (l c : Nat), v = .agg #[.int .i64 K, .int .i64 I, .float .f64 F, .string S, .slice p l c] ∧ okI I := by
  cases n with
  | zero => exact h.elim
  | succ n => obtain ⟨p, l, c, rfl, _, h2, _⟩ := h; exact ⟨_, _, _, _, _, _, _, rfl, h2⟩
theorem bel_grown {w w' : World} (h : Below w.heap.size w w') (row : Option Nat) : w.grownBy w' row := ⟨h.os, h.tape, h.output, h.size, fun i hi _ => h.block i hi⟩
theorem lst_bel {w wr w1 : World} {sb : Nat} {vis vis' : Int} {k : Nat} {q : Me} {a : Addr} {l : Nat} (h : Lst w wr sb vis vis' k q a l) (hb : Below wr.heap.size wr w1) : Lst w w1 sb vis vis' k q a l := by
  obtain ⟨h1, h2, h3, h4, h5, h6, h7⟩ := h
  exact ⟨h1.trans ⟨hb.os, hb.tape, hb.output, hb.size, fun i hi _ => hb.block i hi⟩ , row_step h2 hb, h3, h4, row_step h5 hb, row_step h6 hb, row_step h7 hb⟩
theorem lst_drew {w wr : World} {sb : Nat} {vis vis' : Int} {k : Nat} {q : Me} {a : Addr} {l : Nat} (h : Lst w wr sb vis vis' k q a l) : Lst w wr.drew sb vis vis' k q a l :=
  ⟨grown_drew h.1, h.2.1, h.2.2.1, h.2.2.2.1, h.2.2.2.2.1, h.2.2.2.2.2.1, h.2.2.2.2.2.2⟩
theorem lst_sv {w wr w1 : World} {sb : Nat} {vis vis' : Int} {k j : Nat} {q : Me} {a : Addr} {l : Nat} (h : Lst w wr sb vis vis' k q a l) (hs : sb < w.heap.size) (hb : Sv wr w1 sb vis' j) : ∃ vis2, Lst w w1 sb vis vis2 (k + j) q a l := by
  obtain ⟨h1, h2, h3, h4, h5, h6, h7⟩ := h
  obtain ⟨g, vis2, a1, a2, a3⟩ := hb
  exact ⟨vis2, h1.trans g, a3, by omega, by omega, row_grown h5 g (by simp; omega), row_grown h6 g (by simp; omega), row_grown h7 g (by simp; omega)⟩
theorem set4_row {w : World} {b : Nat} {a0 a1 a2 a3 : Value} {t : TypeId} (h : w.heap[b]? = some (.cells #[a0, a1, a2, a3] t (0, 0))) (v0 v1 v2 v3 : Value) :
    ((((w.setCell ⟨b, 0, none⟩ v0).setCell ⟨b, 1, none⟩ v1).setCell ⟨b, 2, none⟩ v2).setCell ⟨b, 3, none⟩ v3).heap[b]? = some (.cells #[v0, v1, v2, v3] t (0, 0)) := by
  simp [World.setCell, Array.getElem?_modify, h]
theorem set4_other {w : World} {b b' : Nat} {o : Option Obj} (h : w.heap[b']? = o) (hne : b' ≠ b) (v0 v1 v2 v3 : Value) : ((((w.setCell ⟨b, 0, none⟩ v0).setCell ⟨b, 1, none⟩ v1).setCell ⟨b, 2, none⟩ v2).setCell ⟨b, 3, none⟩ v3).heap[b']? = o := by
  rw [Below.heap_setCell _ _ _ _ hne, Below.heap_setCell _ _ _ _ hne, Below.heap_setCell _ _ _ _ hne, Below.heap_setCell _ _ _ _ hne]
  exact h
theorem lst_set {w wr : World} {sb : Nat} {vis vis' : Int} {k : Nat} {q : Me} {a : Addr} {l : Nat} (h : Lst w wr sb vis vis' k q a l) (hs : sb < w.heap.size) (q' : Me) :
    Lst w ((((wr.setCell ⟨w.heap.size + 1, 0, none⟩ (.bool q'.1)).setCell ⟨w.heap.size + 1, 1, none⟩ (.bool q'.2.1)).setCell ⟨w.heap.size + 1, 2, none⟩ (.int .i64 q'.2.2.1)).setCell ⟨w.heap.size + 1, 3, none⟩ (.int .i64 q'.2.2.2)) sb vis vis' k q' a l := by
  obtain ⟨h1, h2, h3, h4, h5, h6, h7⟩ := h
  exact ⟨grown_new (grown_new (grown_new (grown_new h1 (by omega) _ _) (by omega) _ _) (by omega) _ _) (by omega) _ _, set4_other h2 (by omega) _ _ _ _, h3, h4, set4_other h5 (by omega) _ _ _ _, set4_row h6 _ _ _ _, set4_other h7 (by omega) _ _ _ _⟩
set_option maxHeartbeats 4000000 in
theorem sv_list_of (n : Nat) (hv : SvValue n) : SvList n := by
  intro L p l c m lev vis w0 w sb hr hB hs hat hd hlev hlm hv0 hvp
  obtain ⟨hl, hlc, hcm, hel⟩ := hr
  unfold maxLen at hcm
  have c0 : w.cell? ⟨sb, 0, none⟩ = some (.int .i64 vis) := row_cell hat 0
  have c1 : w.cell? ⟨sb, 1, none⟩ = some (.map none) := row_cell hat 1
  have hlt := row_lt hat
  have hne : sb ≠ w.heap.size := by omega
  have hne' : w.heap.size ≠ sb := by omega
  have lt1 : sb < w.heap.size + 1 := by omega
  have lt2 : sb < w.heap.size + 1 + 1 := by omega
  have lt3 : sb < w.heap.size + 1 + 1 + 1 := by omega
  have ne1 : sb ≠ w.heap.size + 1 := by omega
  have ne2 : sb ≠ w.heap.size + 1 + 1 := by omega
  have ne3 : sb ≠ w.heap.size + 1 + 1 + 1 := by omega
  have HAT := Lib.hid hat
  have HB := Lib.hid hB
  have HP := Lib.hid hvp
  have HD := Lib.hid hd
  have HLV := Lib.hid hv
  have HL := Lib.hid hl
  have HE := Lib.hid hel
  clear hat hB hvp hd hv hl hel
  by_cases hl0 : 0 < l
  · obtain ⟨b, off, hp, _⟩ := HE.out hl0
    subst hp
    have hl0' : ((l : Int) == 0) = false := by rw [beq_eq_false_iff_ne]; omega
    have hl0'' : (l == 0) = false := by rw [beq_eq_false_iff_ne]; omega
    have hlev' : ¬ (64 < lev) := by omega
    have lk := look_row
    obtain ⟨big, hbig⟩ : ∃ big, big = decide (64 < (l : Int)) := ⟨_, rfl⟩
    have hbig' : decide (64 < (l : Int)) = big := hbig.symm
    have HBIG := Lib.hid hbig
    clear hbig
    go_enter Try.func78, Try.ntmps78
    go_wp2
    go_region
    go_wp2
    have RS := Lib.hid (row_alloc w #[.bool false, .bool false, .int .i64 0, .int .i64 0] 90)
    have RM := Lib.hid (row_alloc (w.alloc (.cells #[.bool false, .bool false, .int .i64 0, .int .i64 0] 90)) #[.bool false, .bool big, .int .i64 1, .int .i64 2] 90)
    have RK := Lib.hid (row_alloc ((w.alloc (.cells #[.bool false, .bool false, .int .i64 0, .int .i64 0] 90)).alloc (.cells #[.bool false, .bool big, .int .i64 1, .int .i64 2] 90)) #[.pointer (some ⟨b, off, none⟩), .int .i64 l] 127)
    simp only [World.size_alloc] at RM RK
    go_loopw [43] (fun i wr => ∃ (k : Nat) (vis' : Int) (q : Me), k ≤ l ∧ i = .int .i64 k ∧ Hid (q = (L.take k).foldl (fun a x => withM a (measT n x)) (false, big, 1, 2)) ∧ Hid (Lst w wr sb vis vis' ((L.take k).foldl (fun a x => a + partsT n x) 0) q ⟨b, off, none⟩ l)) (fun i _ => l - (intOf i).toNat)
    case atStart =>
      refine ⟨0, vis, (false, big, 1, 2), by omega, rfl, Lib.hid rfl, Lib.hid ⟨?_, ?_, by omega, by omega, ?_, ?_, ?_⟩⟩
      · exact grown_drew ((((World.grownBy_alloc _ _ _).trans (World.grownBy_alloc _ _ _)).trans (World.grownBy_alloc _ _ _)).trans (World.grownBy_alloc _ _ _))
      · exact row_alloc_step (row_alloc_step (row_alloc_step (row_alloc_step HAT.out _) _) _) _
      · exact row_alloc_step (row_alloc_step (row_alloc_step RS.out _) _) _
      · exact row_alloc_step (row_alloc_step RM.out _) _
      · exact row_alloc_step RK.out _
    case round =>
      obtain ⟨k, vis', q, hk, rfl, HQ, HLST⟩ := hrel
      clear RS RM RK c0 c1
      have hwr : w.heap.size + 1 + 1 < wr.heap.size := row_lt HLST.out.2.2.2.2.2.2
      have hrm := HLST.out.2.2.2.2.2.1
      have m0 := row_cell hrm 0
      have m1 := row_cell hrm 1
      have m2 := row_cell hrm 2
      have m3 := row_cell hrm 3
      simp only [List.getElem?_toArray, List.getElem?_cons_zero, List.getElem?_cons_succ] at m0 m1 m2 m3
      have hmf := fun o => row_frz hrm o
      obtain ⟨q1, q2, q3, q4⟩ := q
      have hmne : w.heap.size + 1 ≠ wr.heap.size := by omega
      have hmne' : wr.heap.size ≠ w.heap.size + 1 := by omega
      have hmlt : w.heap.size + 1 < wr.heap.size := by omega
      by_cases hlt2 : k < l
      · obtain ⟨b', off', hp, hi⟩ := HE.out hl0
        cases hp
        have hkl : k < L.length := by have := HL.out; omega
        obtain ⟨v0, v1, v2, v3, v4, d0, d1, d2, d3, d4, hr⟩ := hi k hkl
        obtain ⟨K5, I5, F5, S5, p5, l5, c5, he5, _⟩ := rep_shape hr
        simp only [Value.agg.injEq, Array.mk.injEq, List.cons.injEq, and_true] at he5
        obtain ⟨rfl, rfl, rfl, rfl, rfl⟩ := he5
        have HBW := Lib.hid (Below.grown HB.out HLST.out.1 HB.out.size (fun k hk => by cases hk; exact hs))
        have e0 := cell_keep HBW.out d0
        have e1 := cell_keep HBW.out d1
        have e2 := cell_keep HBW.out d2
        have e3 := cell_keep HBW.out d3
        have e4 := cell_keep HBW.out d4
        have HR := Lib.hid hr
        have hlm' : lev + (m : Int) ≤ 64 := hlm
        have HDK := Lib.hid (HD.out L[k] (List.getElem_mem hkl))
        have hvv : 0 ≤ vis' := by have := HLST.out.2.2.1; omega
        have HPK := Lib.hid (show vis' + partsT n L[k] ≤ 1000 by
          have h1 := HLST.out.2.2.2.1
          have h2 := parts_prefix L k hkl 0
          have h3 := HP.out
          omega)
        have HLD := Lib.hid (lst_drew (lst_bel HLST.out ((Below.refl wr.heap.size wr).alloc (Nat.le_refl _) (.cells #[.int .i64 K5, .int .i64 I5, .float .f64 F5, .string S5, .slice p5 l5 c5] 39))))
        have HBD := Lib.hid (Below.grown HB.out HLD.out.1 HB.out.size (fun k hk => by cases hk; exact hs))
        have HTK := Lib.hid (show withM ((L.take k).foldl (fun a x => withM a (measT n x)) (false, big, 1, 2)) (measT n L[k]) = (L.take (k + 1)).foldl (fun a x => withM a (measT n x)) (false, big, 1, 2) by rw [List.take_succ_eq_append_getElem hkl, List.foldl_append]; rfl)
        have HPT := Lib.hid (show (L.take k).foldl (fun a x => a + partsT n x) 0 + partsT n L[k] = (L.take (k + 1)).foldl (fun a x => a + partsT n x) 0 by rw [List.take_succ_eq_append_getElem hkl, List.foldl_append]; rfl)
        clear d0 d1 d2 d3 d4 hr hi hrm
        go_wp2
        go_region_with (first
          | (go_at_call 62; refine (HLV.out L[k] _ m lev vis' w0 _ sb HR.out HBD.out hs HLD.out.2.1 HDK.out hlev hlm hvv HPK.out).mono ?_; rintro e w1 ⟨rfl, hsv⟩; obtain ⟨vis2, hl2⟩ := lst_sv HLD.out hlt hsv; have HL2 := Lib.hid hl2; have hm2 := HL2.out.2.2.2.2.2.1; have n0 := row_cell hm2 0; have n1 := row_cell hm2 1; have n2 := row_cell hm2 2; have n3 := row_cell hm2 3; simp only [List.getElem?_toArray, List.getElem?_cons_zero, List.getElem?_cons_succ] at n0 n1 n2 n3; have nz := row_lt hm2; clear hsv hl2 hm2)
          | (go_at_call 84; refine (with_me _ _ _ _ _ _).mono ?_; rintro e w2 ⟨rfl, hb2⟩; have HL3 := Lib.hid (lst_bel HL2.out hb2); have hm3 := HL3.out.2.2.2.2.2.1; have o0 := row_cell hm3 0; have o1 := row_cell hm3 1; have o2 := row_cell hm3 2; have o3 := row_cell hm3 3; simp only [List.getElem?_toArray, List.getElem?_cons_zero, List.getElem?_cons_succ] at o0 o1 o2 o3; have of := fun o => row_frz hm3 o; clear hb2 hm3 n0 n1 n2 n3))
        all_goals
          have HEND := Lib.hid (lst_set HL3.out hlt (withM (q1, q2, q3, q4) (measT n L[k])))
          clear m0 m1 m2 m3 hmf e0 e1 e2 e3 e4 o0 o1 o2 o3 of
          go_wp2
          go_roundw
          case rel => exact ⟨k + 1, vis2, withM (q1, q2, q3, q4) (measT n L[k]), by omega, by go_num, Lib.hid (by rw [← HTK.out, ← HQ.out]), Lib.hid (by rw [← HPT.out]; exact HEND.out)⟩
          case measure => simp [intOf]; omega
      · have hkl : L.take k = L := List.take_of_length_le (by have := HL.out; omega)
        have HQ2 := Lib.hid (show Ending.returned (meV (q1, q2, q3, q4)) = .returned (meV (L.foldl (fun a x => withM a (measT n x)) (false, decide (64 < (L.length : Int)), 1, 2))) by
          have h1 := HQ.out
          rw [hkl] at h1
          rw [h1, HL.out, hbig'])
        have HLE := Lib.hid (show Lst w wr sb vis vis' (L.foldl (fun a x => a + partsT n x) 0) (q1, q2, q3, q4) ⟨b, off, none⟩ l by have := HLST.out; rw [hkl] at this; exact this)
        have hk0 := row_cell HLST.out.2.2.2.2.2.2 0
        have hk1 := row_cell HLST.out.2.2.2.2.2.2 1
        simp only [List.getElem?_toArray, List.getElem?_cons_zero, List.getElem?_cons_succ] at hk0 hk1
        have hv1000 : vis' ≤ 1000 := by
          have h1 := HLE.out.2.2.2.1
          have h2 := HP.out
          omega
        clear hrm hkl HLST
        go_wp2_with fail
        go_at_call 85; refine (surv_keep _ _ _ _ _ _ _ _ _ HLE.out.2.1 hv1000).mono ?_; rintro e w1 ⟨rfl, hb⟩
        have HL1 := Lib.hid (lst_bel HLE.out hb)
        have hrm1 := HL1.out.2.2.2.2.2.1
        have hrs1 := HL1.out.2.2.2.2.1
        have n0 := row_cell hrm1 0
        have n1 := row_cell hrm1 1
        have n2 := row_cell hrm1 2
        have n3 := row_cell hrm1 3
        have s0 := row_cell hrs1 0
        have s1 := row_cell hrs1 1
        have s2 := row_cell hrs1 2
        have s3 := row_cell hrs1 3
        simp only [List.getElem?_toArray, List.getElem?_cons_zero, List.getElem?_cons_succ] at n0 n1 n2 n3 s0 s1 s2 s3
        have sf := fun o => row_frz hrs1 o
        clear hb hrm1 hrs1 m0 m1 m2 m3 hmf hk0 hk1
        go_wp2
        refine bodyPost_ret (v := .agg #[.bool q1, .bool q2, .int .i64 q3, .int .i64 q4]) (by simp [results, Try.results78, go_sem, World.cell?_setCell_same, World.cell?_setCell_other, s0, s1, s2, s3]) rfl ⟨HQ2.out, ?_⟩
        exact sv_set4 ⟨HL1.out.1, vis', HL1.out.2.2.1, HL1.out.2.2.2.1, HL1.out.2.1⟩ (Nat.le_refl _) (by omega) _ _ _ _
  · obtain rfl : l = 0 := by omega
    obtain rfl : L = [] := List.length_eq_zero_iff.1 HL.out
    have h0 : ¬ (64 < ((0 : Nat) : Int)) := by omega
    have HF := Lib.hid (show Ending.returned (meV (false, false, 1, 2)) = .returned (meV (([] : List (VT n)).foldl (fun a x => withM a (measT n x)) (false, decide (64 < (([] : List (VT n)).length : Int)), 1, 2))) by rfl)
    have HS := Lib.hid (show Sv w (((w.alloc (.cells #[.bool false, .bool false, .int .i64 1, .int .i64 2] 90)).alloc (.cells #[.bool false, .bool false, .int .i64 1, .int .i64 2] 90))) sb vis (([] : List (VT n)).foldl (fun a x => a + partsT n x) 0) from ⟨(World.grownBy_alloc _ _ _).trans (World.grownBy_alloc _ _ _), vis, by omega, by omega, row_alloc_step (row_alloc_step HAT.out _) _⟩)
    clear c0 c1
    go_enter Try.func78, Try.ntmps78
    go_wp2
    exact bodyPost_ret (v := .agg #[.bool false, .bool false, .int .i64 1, .int .i64 2]) (by simp [results, Try.results78, go_sem]) rfl ⟨HF.out, HS.out⟩
theorem sv_all : ∀ n, SvValue n ∧ SvList n := by
  intro n
  induction n with
  | zero => exact ⟨sv_value_zero, sv_list_of 0 sv_value_zero⟩
  | succ n ih => exact ⟨sv_value_succ n ih.2, sv_list_of (n + 1) (sv_value_succ n ih.2)⟩
end Num
end Go.Proofs.Ytbfnghbfilahnaa
