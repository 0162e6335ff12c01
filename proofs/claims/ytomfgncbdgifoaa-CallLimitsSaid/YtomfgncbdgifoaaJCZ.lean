/-
  CallReads, at every reading of its arguments.
-/
import Derived.Test.YtomfgncbdgifoaaJp19CW
import Derived.Test.YtomfgncbdgifoaaJCY
namespace Go.Proofs.Ytomfgncbdgifoaa
open Go.RowKit Go.ChangeShapes Go.WideShapes
namespace Num
open Ints
set_option linter.unusedSimpArgs false
set_option linter.unusedVariables false
set_option maxRecDepth 100000 in
set_option maxHeartbeats 1000000 in
theorem creads_far (M : Nat) (h4 : 66000 ≤ M) (hM : M < 100000) (w : World) (r : Option Addr) (k f : Nat) (i1 i2 i3 : Int) (S1 S2 : ByteArray) (q : Option Addr) (m d : Nat) (at' xx : Int) (cut : Bool) (hkf : k ≤ f) (hf : f ≤ 9223372036854775807) (g2 : (300 : Int) < (k : Int)) :
    Calls Try.prog 4 #[.slice r k f, .agg #[.int .u32 i1, .int .u32 i2, .int .u16 i3, .string S1, .string S2, .slice q m d], .int .u16 at', .int .u8 xx, .bool cut] w fun e w' => e = .returned (.bool true) ∧ Below w.heap.size w w' := by
  have HA := Lib.hid (bel_alloc (Below.refl w.heap.size w) (.cells #[.int .u32 i1, .int .u32 i2, .int .u16 i3, .string S1, .string S2, .slice q m d] 29))
  have RB := Lib.hid (row_alloc w #[.int .u32 i1, .int .u32 i2, .int .u16 i3, .string S1, .string S2, .slice q m d] 29)
  go_enter Try.func4, Try.ntmps4
  go_wp2_with fail
  go_at_call 8; refine (known6 M (by omega) hM _).mono ?_; rintro e w1 ⟨rfl, hb1⟩
  have HB1 := Lib.hid (bel_step HA.out hb1)
  have RB1 := row_step RB.out hb1
  have d0 := row_cell RB1 0; have d1 := row_cell RB1 1; have d2 := row_cell RB1 2; have d3 := row_cell RB1 3; have d4 := row_cell RB1 4; have d5 := row_cell RB1 5
  simp only [List.getElem?_toArray, List.getElem?_cons_zero, List.getElem?_cons_succ] at d0 d1 d2 d3 d4 d5
  clear hb1 RB1
  go_wp2
  go_ret
  exact ⟨rfl, HB1.out⟩
set_option maxRecDepth 100000 in
set_option maxHeartbeats 1000000 in
theorem creads_great (M : Nat) (h4 : 66000 ≤ M) (hM : M < 100000) (w : World) (r : Option Addr) (k f : Nat) (i1 i2 i3 : Int) (S1 S2 : ByteArray) (q : Option Addr) (m d : Nat) (at' xx : Int) (cut : Bool) (hkf : k ≤ f) (hf : f ≤ 9223372036854775807) (g2 : ¬ ((300 : Int) < (k : Int))) (n : Nat) (L : List (VT (n + 1))) (hv : RepL w (Rep w (n + 1)) q m d L) (hlt : (decide ((S1.size : Int) ≤ 100) && (decide ((S2.size : Int) ≤ 100) && (decide (m ≤ 40) && L.all (lightT (n + 1))))) = false) :
    Calls Try.prog 4 #[.slice r k f, .agg #[.int .u32 i1, .int .u32 i2, .int .u16 i3, .string S1, .string S2, .slice q m d], .int .u16 at', .int .u8 xx, .bool cut] w fun e w' => e = .returned (.bool true) ∧ Below w.heap.size w w' := by
  have HA := Lib.hid (bel_alloc (Below.refl w.heap.size w) (.cells #[.int .u32 i1, .int .u32 i2, .int .u16 i3, .string S1, .string S2, .slice q m d] 29))
  have RB := Lib.hid (row_alloc w #[.int .u32 i1, .int .u32 i2, .int .u16 i3, .string S1, .string S2, .slice q m d] 29)
  have HV := Lib.hid (repL_bel ((Below.refl w.heap.size w).alloc (Nat.le_refl _) (.cells #[.int .u32 i1, .int .u32 i2, .int .u16 i3, .string S1, .string S2, .slice q m d] 29)) hv)
  have HLt := Lib.hid hlt
  clear hv hlt
  go_enter Try.func4, Try.ntmps4
  go_wp2_with fail
  go_at_call 8; refine (known6 M (by omega) hM _).mono ?_; rintro e w1 ⟨rfl, hb1⟩
  have HB1 := Lib.hid (bel_step HA.out hb1)
  have RB1 := row_step RB.out hb1
  have d0 := row_cell RB1 0; have d1 := row_cell RB1 1; have d2 := row_cell RB1 2; have d3 := row_cell RB1 3; have d4 := row_cell RB1 4; have d5 := row_cell RB1 5
  simp only [List.getElem?_toArray, List.getElem?_cons_zero, List.getElem?_cons_succ] at d0 d1 d2 d3 d4 d5
  have HV1 := Lib.hid (repL_bel hb1 HV.out)
  clear hb1
  go_wp2_with fail
  go_at_call 9; refine (lightop_any n L _ i1 i2 i3 S1 S2 q m d HV1.out).mono ?_; rintro e w2 ⟨rfl, hb2⟩
  rw [HLt.out]
  have HB2 := Lib.hid (bel_step HB1.out hb2)
  clear hb2 RB1 d0 d1 d2 d3 d4 d5
  go_wp2
  go_ret
  exact ⟨rfl, HB2.out⟩
set_option maxRecDepth 100000 in
theorem nat_u16 {a : Int} (ha : (Lit.int .u16 a).wf = true) : ∃ n : Nat, a = (n : Int) ∧ n < 65536 := by
  obtain ⟨h1, h2⟩ := wf_u16 ha
  exact ⟨a.toNat, by omega, by omega⟩
set_option maxRecDepth 100000 in
theorem nat_u8 {a : Int} (ha : (Lit.int .u8 a).wf = true) : ∃ n : Nat, a = (n : Int) ∧ n < 256 := by
  simp only [Lit.wf, decide_eq_true_eq, IntKind.min, IntKind.max] at ha
  have h1 : IntKind.u8.bits = 8 := rfl
  simp [IntKind.signed, h1] at ha
  exact ⟨a.toNat, by omega, by omega⟩
set_option maxRecDepth 100000 in
theorem creads_lawM (M : Nat) (h4 : 66000 ≤ M) (hM : M < 100000) {H : Type} {enc : TypeId × Value → H} {W : World} {v : Value} {d : DataW H} {ps : List MemPlace} {b0 : Nat} (h : DataW.Trod enc Try.prog W 0 (fun _ => true) true 22 v d ps) (ho : Value.okWide Try.prog W .any b0 22 v)
    {v1 : Value} {d1 : DataW H} {ps1 : List MemPlace} {b1 : Nat} (h1 : DataW.Trod enc Try.prog W 0 (fun _ => true) true 29 v1 d1 ps1) (ho1 : Value.okWide Try.prog W .any b1 29 v1)
    (a : Int) (ha : (Lit.int .u16 a).wf = true) (b : Int) (hb : (Lit.int .u8 b).wf = true) (cut : Bool) :
    Calls Try.prog 4 #[v, v1, .int .u16 a, .int .u8 b, .bool cut] W fun e w' => e = .returned (.bool true) ∧ Below W.heap.size W w' := by
  obtain ⟨r, k, f, R, rfl, hr, hR⟩ := rd_of_Trod h ho
  obtain ⟨i1, i2, i3, S1, S2, q, m, d', n, L, rfl, g1, g2, g3, hs1, hs2, hv⟩ := op_of_Trod h1 ho1
  have hkf : k ≤ f := hr.2.1
  have hf : f ≤ 9223372036854775807 := hr.2.2.1
  by_cases g : (300 : Int) < (k : Int)
  · exact creads_far M h4 hM W r k f i1 i2 i3 S1 S2 q m d' a b cut hkf hf g
  cases hl : (decide ((S1.size : Int) ≤ 100) && (decide ((S2.size : Int) ≤ 100) && (decide (m ≤ 40) && L.all (lightT (n + 1)))))
  · exact creads_great M h4 hM W r k f i1 i2 i3 S1 S2 q m d' a b cut hkf hf g n L hv hl
  · obtain ⟨x, rfl, hx⟩ := nat_u16 ha
    obtain ⟨y, rfl, hy⟩ := nat_u8 hb
    rw [Bool.and_eq_true, Bool.and_eq_true, decide_eq_true_eq, decide_eq_true_eq] at hl
    exact creads_in M h4 hM W r k f R n L i1 i2 i3 S1 S2 q m d' x y cut hr hR (by omega) hv g1 g2 g3 (by omega) (by omega) hl.2.2 hx hy
set_option maxRecDepth 100000 in
theorem creads_law {H : Type} {enc : TypeId × Value → H} {W : World} {v : Value} {d : DataW H} {ps : List MemPlace} {b0 : Nat} (h : DataW.Trod enc Try.prog W 0 (fun _ => true) true 22 v d ps) (ho : Value.okWide Try.prog W .any b0 22 v) (_ : ∀ x ∈ ps, x.block < W.heap.size)
    {v1 : Value} {d1 : DataW H} {ps1 : List MemPlace} {b1 : Nat} (h1 : DataW.Trod enc Try.prog W 0 (fun _ => true) true 29 v1 d1 ps1) (ho1 : Value.okWide Try.prog W .any b1 29 v1) (_ : ∀ x ∈ ps1, x.block < W.heap.size)
    (a : Int) (ha : (Lit.int .u16 a).wf = true) (b : Int) (hb : (Lit.int .u8 b).wf = true) (cut : Bool) :
    Calls Try.prog 4 #[v, v1, .int .u16 a, .int .u8 b, .bool cut] W fun e w' => e = .returned (.bool true) ∧ Below W.heap.size W w' :=
  creads_lawM 66000 (Nat.le_refl _) (by decide) h ho h1 ho1 a ha b hb cut
end Num
end Go.Proofs.Ytomfgncbdgifoaa
