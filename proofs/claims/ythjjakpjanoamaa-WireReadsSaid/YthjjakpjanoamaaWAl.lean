/-
  WireReads, at every reading of its arguments.
-/
import Derived.Test.YthjjakpjanoamaaWA
import Derived.Test.YthjjakpjanoamaaRT
namespace Go.Proofs.Ythjjakpjanoamaa
open Go.RowKit Go.ChangeShapes Go.WideShapes
namespace Num
open Ints
set_option linter.unusedSimpArgs false
set_option linter.unusedVariables false
theorem rep_of_Trod {H : Type} {enc : TypeId × Value → H} {w : World} {base : Nat} {spare : Nat → Bool} {held : Bool} {v : Value} {d : DataW H} {ps : List MemPlace} (h : DataW.Trod enc Try.prog w base spare held 26 v d ps) : ∃ (n : Nat) (T : VT n), Rep w n v T := by
  obtain ⟨fuel, hf⟩ := h
  obtain ⟨T, hT⟩ := rep_of_trod fuel fuel (by omega) _ _ hf
  refine ⟨fuel, T, ?_⟩
  obtain ⟨_, _, _, _, _, _, _, _, hcs, _⟩ := trod5 hf
  have e : Value.agg v.cells.toList.toArray = v := by
    cases v <;> first | rfl | (simp [Value.cells] at hcs)
  rwa [e] at hT
set_option maxRecDepth 100000 in
set_option maxHeartbeats 1000000 in
theorem wreads_far (w : World) (r : Option Addr) (k f : Nat) (n : Nat) (K I : Int) (F : Nat) (S : ByteArray) (q : Option Addr) (m d : Nat) (T : VT n) (at' xx : Int) (cut : Bool) (hkf : k ≤ f) (hf : f ≤ 9223372036854775807) (g2 : (300 : Int) < (k : Int)) :
    Calls Try.prog 3 #[.slice r k f, .agg #[.int .i64 K, .int .i64 I, .float .f64 F, .string S, .slice q m d], .int .u16 at', .int .u8 xx, .bool cut] w fun e w' => e = .returned (.bool true) ∧ Below w.heap.size w w' := by
  have HA := Lib.hid (bel_alloc (Below.refl w.heap.size w) (.cells #[.int .i64 K, .int .i64 I, .float .f64 F, .string S, .slice q m d] 26))
  have RB := Lib.hid (row_alloc w #[.int .i64 K, .int .i64 I, .float .f64 F, .string S, .slice q m d] 26)
  go_enter Try.func3, Try.ntmps3
  go_wp2_with fail
  go_at_call 11; refine (known_any _).mono ?_; rintro e w1 ⟨rfl, hb1⟩
  have HB1 := Lib.hid (bel_step HA.out hb1)
  have RB1 := row_step RB.out hb1
  have d0 := row_cell RB1 0; have d1 := row_cell RB1 1; have d2 := row_cell RB1 2; have d3 := row_cell RB1 3; have d4 := row_cell RB1 4
  simp only [List.getElem?_toArray, List.getElem?_cons_zero, List.getElem?_cons_succ] at d0 d1 d2 d3 d4
  clear hb1 RB1
  go_wp2
  go_ret
  exact ⟨rfl, HB1.out⟩
set_option maxRecDepth 100000 in
set_option maxHeartbeats 1000000 in
theorem wreads_great (w : World) (r : Option Addr) (k f : Nat) (n : Nat) (K I : Int) (F : Nat) (S : ByteArray) (q : Option Addr) (m d : Nat) (T : VT n) (at' xx : Int) (cut : Bool) (hkf : k ≤ f) (hf : f ≤ 9223372036854775807) (g2 : ¬ ((300 : Int) < (k : Int))) (hv : Rep w n (.agg #[.int .i64 K, .int .i64 I, .float .f64 F, .string S, .slice q m d]) T) (hlt : lightT n T = false) :
    Calls Try.prog 3 #[.slice r k f, .agg #[.int .i64 K, .int .i64 I, .float .f64 F, .string S, .slice q m d], .int .u16 at', .int .u8 xx, .bool cut] w fun e w' => e = .returned (.bool true) ∧ Below w.heap.size w w' := by
  have HA := Lib.hid (bel_alloc (Below.refl w.heap.size w) (.cells #[.int .i64 K, .int .i64 I, .float .f64 F, .string S, .slice q m d] 26))
  have RB := Lib.hid (row_alloc w #[.int .i64 K, .int .i64 I, .float .f64 F, .string S, .slice q m d] 26)
  have HV := Lib.hid (rep_keep ((Below.refl w.heap.size w).alloc (Nat.le_refl _) (.cells #[.int .i64 K, .int .i64 I, .float .f64 F, .string S, .slice q m d] 26)) _ _ _ hv)
  have HLt := Lib.hid hlt
  clear hv hlt
  go_enter Try.func3, Try.ntmps3
  go_wp2_with fail
  go_at_call 11; refine (known_any _).mono ?_; rintro e w1 ⟨rfl, hb1⟩
  have HB1 := Lib.hid (bel_step HA.out hb1)
  have RB1 := row_step RB.out hb1
  have d0 := row_cell RB1 0; have d1 := row_cell RB1 1; have d2 := row_cell RB1 2; have d3 := row_cell RB1 3; have d4 := row_cell RB1 4
  simp only [List.getElem?_toArray, List.getElem?_cons_zero, List.getElem?_cons_succ] at d0 d1 d2 d3 d4
  have HV1 := Lib.hid (rep_keep hb1 _ _ _ HV.out)
  clear hb1
  go_wp2_with fail
  go_at_call 12; refine (light_any n _ T _ HV1.out).mono ?_; rintro e w2 ⟨rfl, hb2⟩
  rw [HLt.out]
  have HB2 := Lib.hid (bel_step HB1.out hb2)
  clear hb2 RB1 d0 d1 d2 d3 d4
  go_wp2
  go_ret
  exact ⟨rfl, HB2.out⟩
set_option maxRecDepth 100000 in
theorem nat_u16 {a : Int} (ha : (Lit.int .u16 a).wf = true) : ∃ n : Nat, a = (n : Int) ∧ n < 65536 := by
  simp only [Lit.wf, decide_eq_true_eq, IntKind.min, IntKind.max] at ha
  have h1 : IntKind.u16.bits = 16 := rfl
  simp [IntKind.signed, h1] at ha
  exact ⟨a.toNat, by omega, by omega⟩
set_option maxRecDepth 100000 in
theorem nat_u8 {a : Int} (ha : (Lit.int .u8 a).wf = true) : ∃ n : Nat, a = (n : Int) ∧ n < 256 := by
  simp only [Lit.wf, decide_eq_true_eq, IntKind.min, IntKind.max] at ha
  have h1 : IntKind.u8.bits = 8 := rfl
  simp [IntKind.signed, h1] at ha
  exact ⟨a.toNat, by omega, by omega⟩
set_option maxRecDepth 100000 in
theorem wreads_law {H : Type} {enc : TypeId × Value → H} {W : World} {v : Value} {d : DataW H} {ps : List MemPlace} {b0 : Nat} (h : DataW.Trod enc Try.prog W 0 (fun _ => true) true 22 v d ps) (ho : Value.okWide Try.prog W .any b0 22 v) (_ : ∀ x ∈ ps, x.block < W.heap.size)
    {v1 : Value} {d1 : DataW H} {ps1 : List MemPlace} {b1 : Nat} (h1 : DataW.Trod enc Try.prog W 0 (fun _ => true) true 26 v1 d1 ps1) (ho1 : Value.okWide Try.prog W .any b1 26 v1) (_ : ∀ x ∈ ps1, x.block < W.heap.size)
    (a : Int) (ha : (Lit.int .u16 a).wf = true) (b : Int) (hb : (Lit.int .u8 b).wf = true) (cut : Bool) :
    Calls Try.prog 3 #[v, v1, .int .u16 a, .int .u8 b, .bool cut] W fun e w' => e = .returned (.bool true) ∧ Below W.heap.size W w' := by
  obtain ⟨r, k, f, R, rfl, hr, hR⟩ := rd_of_Trod h ho
  obtain ⟨n, T, hv⟩ := rep_of_Trod h1
  have hshape : ∃ (K I : Int) (F : Nat) (S : ByteArray) (q : Option Addr) (m d : Nat), v1 = .agg #[.int .i64 K, .int .i64 I, .float .f64 F, .string S, .slice q m d] := by
    cases n with
    | zero => exact hv.elim
    | succ n => obtain ⟨q, m, d, rfl, _⟩ := hv; exact ⟨_, _, _, _, q, m, d, rfl⟩
  obtain ⟨K, I, F, S, q, m, d', rfl⟩ := hshape
  have hkf : k ≤ f := hr.2.1
  have hf : f ≤ 9223372036854775807 := hr.2.2.1
  by_cases g : (300 : Int) < (k : Int)
  · exact wreads_far W r k f n K I F S q m d' T a b cut hkf hf g
  cases hl : lightT n T
  · exact wreads_great W r k f n K I F S q m d' T a b cut hkf hf g hv hl
  · obtain ⟨x, rfl, hx⟩ := nat_u16 ha
    obtain ⟨y, rfl, hy⟩ := nat_u8 hb
    exact wreads_in W r k f R n K I F S q m d' T x y cut hr hR (by omega) hv hl hx hy
end Num
end Go.Proofs.Ythjjakpjanoamaa
