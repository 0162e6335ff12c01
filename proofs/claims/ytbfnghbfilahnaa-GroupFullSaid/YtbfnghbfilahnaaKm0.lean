/-
  Package group: Do of list.
-/
import Derived.Test.YtbfnghbfilahnaaKl0
import Derived.Laws.StructEq
namespace Go.Proofs.Ytbfnghbfilahnaa
open Go.RowKit
namespace Num
open Ints
set_option linter.unusedSimpArgs false
set_option linter.unusedVariables false
set_option maxRecDepth 100000 in
set_option maxHeartbeats 4000000 in
theorem do_list (w : World) (tb mb : Nat) (L : List Gp) (hd : DirG w tb mb L) (hL0 : L ≠ []) (hL : L.length ≤ 100) (hs : ∀ g ∈ L, 0 ≤ g.s ∧ g.s < 3) :
    Calls Try.prog 11 #[.pointer (some ⟨tb, 0, none⟩), .string ⟨#[108, 105, 115, 116]⟩, .slice none 0 0] w fun e w' => (∃ p c', e = .returned (.tuple #[.agg #[.int .i64 4, .int .i64 0, .float .f64 0, .string ⟨#[]⟩, .slice p L.length c'], .int .i64 0])) ∧ Below w.heap.size w w' := by
  obtain ⟨g0, hg0⟩ : ∃ g, w.heap.size = g := ⟨_, rfl⟩
  obtain ⟨w1, hw1⟩ : ∃ W, w.alloc (.cells #[.int .i64 0, .int .i64 0, .float .f64 0, .string ⟨#[]⟩, .slice none 0 0] 39) = W := ⟨_, rfl⟩
  have hR1 : w1.heap[g0]? = some (.cells #[.int .i64 0, .int .i64 0, .float .f64 0, .string ⟨#[]⟩, .slice none 0 0] 39 (0, 0)) := by rw [← hw1, ← hg0]; exact row_alloc w _ _
  have hb1 : Below w.heap.size w w1 := by rw [← hw1]; exact bel_alloc (Below.refl _ _) _
  have HA := Lib.hid (all_gp w1 tb mb L (dir_step hd hb1) hL0 (by omega))
  obtain ⟨n, hn⟩ : ∃ n, L.length = n := ⟨_, rfl⟩
  rw [hn] at HA
  have HS := Lib.hid hs
  have HN := Lib.hid (And.intro hn hL)
  have HR1 := Lib.hid hR1
  have HB1 := Lib.hid hb1
  rw [hn]
  clear hR1 hb1 hd hL0 hs hL hn
  go_enter Try.func11, Try.ntmps11
  go_wp2_with fail
  clear hw1
  refine wp_loop_rounds 1 ?_
  rw [rounds_succ]
  go_wp2_with fail
  go_at_call 24; refine (iscall_list _).mono ?_; rintro e x3 ⟨rfl, rfl⟩
  go_wp2_with fail
  go_at_call 10; refine HA.out.mono ?_; rintro e x4 ⟨b, c, d, rfl, h1, h2, h3, hb4⟩
  have HLS := Lib.hid (list_gp x4 b c d h3 (fun g hg => HS.out g (h2 g hg)) (by have e1 := HN.out.1; have e2 := HN.out.2; omega))
  rw [h1] at HLS
  have HB4 := Lib.hid hb4
  clear h1 h2 h3 hb4 HA
  go_wp2_with fail
  go_at_call 29; refine HLS.out.mono ?_; rintro e x5 ⟨p, c', rfl, hb5⟩
  have hb6 := bel_step HB4.out hb5
  have hr := row_step HR1.out hb6
  have r0 := row_cell hr 0; have r1 := row_cell hr 1; have r2 := row_cell hr 2; have r3 := row_cell hr 3; have r4 := row_cell hr 4
  simp only [List.getElem?_toArray, List.getElem?_cons_zero, List.getElem?_cons_succ] at r0 r1 r2 r3 r4
  have rf := fun o => row_frz hr o
  have hlr := row_lt hr
  have HB6 := Lib.hid (Below.trans HB1.out (hb6.mono HB1.out.size))
  rw [hg0] at HB6
  clear hr hb5 hb6 HLS
  go_wp2
  refine bodyPost_ret (v := .tuple #[.agg #[.int .i64 4, .int .i64 0, .float .f64 0, .string ⟨#[]⟩, .slice p n c'], .int .i64 0]) (by simp [results, Try.results11, go_sem, World.cell?_setCell_same, World.cell?_setCell_other, r0, r1, r2, r3, r4]) rfl ⟨⟨p, c', rfl⟩, ?_⟩
  rw [hg0]
  exact setV_below (B := g0) HB6.out (Nat.le_refl _) (.int .i64 4) (.int .i64 0) (.float .f64 0) (.string ⟨#[]⟩) (.slice p n c')
theorem gp_fields : (Try.prog.fieldsOf 49).toList.map (fun f => (f.name == "_", f.type, f.offset, Try.prog.cellsOf f.type)) = [(false, 9, 0, 1), (false, 9, 1, 1), (false, 3, 2, 1), (false, 47, 3, 1)] := by kernel_rfl
theorem gp_stood : Try.prog.stoodInHeld 49 = false := by kernel_rfl
theorem gp_struct : Try.prog.underlying 49 = some (.struct (Try.prog.fieldsOf 49)) := by kernel_rfl
theorem gp_four : ∃ f0 f1 f2 f3, (Try.prog.fieldsOf 49) = #[f0, f1, f2, f3] ∧ ((f0.name == "_") = false ∧ f0.type = 9 ∧ f0.offset = 0) ∧ ((f1.name == "_") = false ∧ f1.type = 9 ∧ f1.offset = 1) ∧ ((f2.name == "_") = false ∧ f2.type = 3 ∧ f2.offset = 2) ∧ (f3.name == "_") = false ∧ f3.type = 47 ∧ f3.offset = 3 := by
  have h := gp_fields
  have hl := congrArg List.length h
  rw [List.length_map] at hl
  match e : (Try.prog.fieldsOf 49).toList, hl with
  | [f0, f1, f2, f3], _ =>
    rw [e] at h
    simp only [List.map_cons, List.map_nil, List.cons.injEq, Prod.mk.injEq, and_true] at h
    refine ⟨f0, f1, f2, f3, ?_, ⟨h.1.1, h.1.2.1, h.1.2.2.1⟩, ⟨h.2.1.1, h.2.1.2.1, h.2.1.2.2.1⟩, ⟨h.2.2.1.1, h.2.2.1.2.1, h.2.2.1.2.2.1⟩, h.2.2.2.1, h.2.2.2.2.1, h.2.2.2.2.2.1⟩
    rw [← Array.toArray_toList (xs := Try.prog.fieldsOf 49), e]
theorem eq_strG (d : Nat) (w : World) (a : ByteArray) : (Op.equalIn (d + 1) 9 (.string a) (.string a)).run Try.prog w = .ok true w := by
  simp [Op.equalIn, run_underlying gs_under, ba_bq, bq_self]
theorem eq_intG (d : Nat) (w : World) (a : Int) : (Op.equalIn (d + 1) 3 (.int .i64 a) (.int .i64 a)).run Try.prog w = .ok true w := by
  simp [Op.equalIn, run_underlying Try.underlying3]
theorem eq_u32G (d : Nat) (w : World) (a : Int) : (Op.equalIn (d + 1) 47 (.int .u32 a) (.int .u32 a)).run Try.prog w = .ok true w := by
  simp [Op.equalIn, run_underlying Try.underlying47]
theorem eq_gp (w : World) (n c : ByteArray) (s v : Int) : (Op.equalIn 10000 49 (.agg #[.string n, .string c, .int .i64 s, .int .u32 v]) (.agg #[.string n, .string c, .int .i64 s, .int .u32 v])).run Try.prog w = .ok true w := by
  obtain ⟨f0, f1, f2, f3, hf, ⟨n0, t0, o0⟩, ⟨n1, t1, o1⟩, ⟨n2, t2, o2⟩, n3, t3, o3⟩ := gp_four
  have n0' : ¬ (f0.name = "_") := by simpa using n0
  have n1' : ¬ (f1.name = "_") := by simpa using n1
  have n2' : ¬ (f2.name = "_") := by simpa using n2
  have n3' : ¬ (f3.name = "_") := by simpa using n3
  rw [run_equalIn_struct w 9999 49 _ _ gp_struct gp_stood, hf]
  have e0 := fun a : ByteArray => eq_strG 9998 w a
  have e2 := fun a : Int => eq_intG 9998 w a
  have e3 := fun a : Int => eq_u32G 9998 w a
  simp [Op.eqFields, n0', n1', n2', n3', t0, t1, t2, t3, o0, o1, o2, o3, part, e0, e2, e3]
end Num
end Go.Proofs.Ytbfnghbfilahnaa
