/-
  CounterEdges, at any count and two floats.
-/
import Derived.Test.YtmhogdigkdcnfaaCSc
namespace Go.Proofs.Ytmhogdigkdcnfaa
open Go.RowKit
namespace Num
open Ints
set_option linter.unusedSimpArgs false
set_option linter.unusedVariables false
/-- A box, and a row of memory. -/
def CSR (x : World) (b : Nat) (v0 v1 v2 v3 v4 : Value) (g : Nat) (o : Obj) : Prop := x.cell? ⟨b, 0, none⟩ = some v0 ∧ x.cell? ⟨b, 1, none⟩ = some v1 ∧ x.cell? ⟨b, 2, none⟩ = some v2 ∧ x.cell? ⟨b, 3, none⟩ = some v3 ∧ x.cell? ⟨b, 4, none⟩ = some v4 ∧ x.heap[g]? = some o
theorem csr_step {x y : World} {b : Nat} {v0 v1 v2 v3 v4 : Value} {g : Nat} {o : Obj} (h : CSR x b v0 v1 v2 v3 v4 g o) (hb : Below x.heap.size x y) : CSR y b v0 v1 v2 v3 v4 g o :=
  ⟨cell_keep hb h.1, cell_keep hb h.2.1, cell_keep hb h.2.2.1, cell_keep hb h.2.2.2.1, cell_keep hb h.2.2.2.2.1, (hb.block _ (Array.getElem?_eq_some_iff.1 h.2.2.2.2.2).1).trans h.2.2.2.2.2⟩
theorem csr_alloc {x : World} {b : Nat} {v0 v1 v2 v3 v4 : Value} {g : Nat} {r : Obj} (h : CSR x b v0 v1 v2 v3 v4 g r) (o : Obj) : CSR (x.alloc o) b v0 v1 v2 v3 v4 g r := csr_step h (bel_alloc (Below.refl _ _) o)
theorem csr_drew {x : World} {b : Nat} {v0 v1 v2 v3 v4 : Value} {g : Nat} {r : Obj} (h : CSR x b v0 v1 v2 v3 v4 g r) : CSR x.drew b v0 v1 v2 v3 v4 g r := csr_step h (Below.drew (Below.refl _ _))
theorem csr_set {x : World} {b a o : Nat} {v v0 v1 v2 v3 v4 : Value} {g : Nat} {r : Obj} (h : CSR x b v0 v1 v2 v3 v4 g r) (hne : b ≠ a) (hng : g ≠ a) : CSR (x.setCell ⟨a, o, none⟩ v) b v0 v1 v2 v3 v4 g r :=
  have hc := cs_set (v := v) (o := o) (⟨h.1, h.2.1, h.2.2.1, h.2.2.2.1, h.2.2.2.2.1⟩ : CS x b v0 v1 v2 v3 v4) hne
  ⟨hc.1, hc.2.1, hc.2.2.1, hc.2.2.2.1, hc.2.2.2.2, (hk_set (x := x) rfl hng).trans h.2.2.2.2.2⟩
theorem csr_set5 {x : World} {b a : Nat} {u0 u1 u2 u3 u4 v0 v1 v2 v3 v4 : Value} {g : Nat} {r : Obj} (h : CSR x b v0 v1 v2 v3 v4 g r) (hne : b ≠ a) (hng : g ≠ a) : CSR (((((x.setCell ⟨a, 0, none⟩ u0).setCell ⟨a, 1, none⟩ u1).setCell ⟨a, 2, none⟩ u2).setCell ⟨a, 3, none⟩ u3).setCell ⟨a, 4, none⟩ u4) b v0 v1 v2 v3 v4 g r :=
  csr_set (csr_set (csr_set (csr_set (csr_set h hne hng) hne hng) hne hng) hne hng) hne hng
/-- What is kept behind an add that was taken. -/
def EE (w x : World) (sb tb vb lb lo dt : Nat) (qv : Option Addr) (dv : Nat) (i : Int) (sm g : Nat) (o : Obj) : Prop :=
  x.cell? ⟨tb, 4, none⟩ = some (.slice (some ⟨lb, lo, none⟩) 2 dt) ∧ x.cell? ⟨lb, lo + 1, none⟩ = some (.int .i64 i) ∧
  x.cell? ⟨vb, 0, none⟩ = some (.int .i64 2) ∧ x.cell? ⟨vb, 1, none⟩ = some (.int .i64 0) ∧ x.cell? ⟨vb, 2, none⟩ = some (.float .f64 sm) ∧ x.cell? ⟨vb, 3, none⟩ = some (.string ⟨#[]⟩) ∧ x.cell? ⟨vb, 4, none⟩ = some (.slice qv 0 dv) ∧
  CSR x sb (.int .i64 4) (.int .i64 0) (.float .f64 0) (.string ⟨#[]⟩) (.slice (some ⟨g, 0, none⟩) 2 2) g o ∧ Below w.heap.size w x ∧ Rep x 2 (.agg #[.int .i64 2, .int .i64 0, .float .f64 sm, .string ⟨#[]⟩, .slice qv 0 dv]) (floV 1 sm)
theorem ee_step {w x y : World} {sb tb vb lb lo dt : Nat} {qv : Option Addr} {dv : Nat} {i : Int} {sm g : Nat} {o : Obj} (h : EE w x sb tb vb lb lo dt qv dv i sm g o) (hb : Below x.heap.size x y) : EE w y sb tb vb lb lo dt qv dv i sm g o :=
  ⟨cell_keep hb h.1, cell_keep hb h.2.1, cell_keep hb h.2.2.1, cell_keep hb h.2.2.2.1, cell_keep hb h.2.2.2.2.1, cell_keep hb h.2.2.2.2.2.1, cell_keep hb h.2.2.2.2.2.2.1, csr_step h.2.2.2.2.2.2.2.1 hb, bel_step h.2.2.2.2.2.2.2.2.1 hb, rep_keep hb _ _ _ h.2.2.2.2.2.2.2.2.2⟩
theorem ee_drew {w x : World} {sb tb vb lb lo dt : Nat} {qv : Option Addr} {dv : Nat} {i : Int} {sm g : Nat} {o : Obj} (h : EE w x sb tb vb lb lo dt qv dv i sm g o) : EE w x.drew sb tb vb lb lo dt qv dv i sm g o := ee_step h (Below.drew (Below.refl _ _))
/-- What is kept behind reset. -/
def AF (w x : World) (ub vb : Nat) (qu : Option Addr) (mu du : Nat) (qv : Option Addr) (dv f : Nat) : Prop :=
  x.cell? ⟨ub, 0, none⟩ = some (.int .i64 4) ∧ x.cell? ⟨ub, 1, none⟩ = some (.int .i64 0) ∧ x.cell? ⟨ub, 2, none⟩ = some (.float .f64 0) ∧ x.cell? ⟨ub, 3, none⟩ = some (.string ⟨#[]⟩) ∧ x.cell? ⟨ub, 4, none⟩ = some (.slice qu mu du) ∧
  x.cell? ⟨vb, 0, none⟩ = some (.int .i64 2) ∧ x.cell? ⟨vb, 1, none⟩ = some (.int .i64 0) ∧ x.cell? ⟨vb, 2, none⟩ = some (.float .f64 f) ∧ x.cell? ⟨vb, 3, none⟩ = some (.string ⟨#[]⟩) ∧ x.cell? ⟨vb, 4, none⟩ = some (.slice qv 0 dv) ∧
  Below w.heap.size w x ∧ Rep x 2 (.agg #[.int .i64 4, .int .i64 0, .float .f64 0, .string ⟨#[]⟩, .slice qu mu du]) (cntS 0 0 0) ∧ Rep x 2 (.agg #[.int .i64 2, .int .i64 0, .float .f64 f, .string ⟨#[]⟩, .slice qv 0 dv]) (floV 1 f)
theorem af_step {w x y : World} {ub vb : Nat} {qu : Option Addr} {mu du : Nat} {qv : Option Addr} {dv f : Nat} (h : AF w x ub vb qu mu du qv dv f) (hb : Below x.heap.size x y) : AF w y ub vb qu mu du qv dv f :=
  ⟨cell_keep hb h.1, cell_keep hb h.2.1, cell_keep hb h.2.2.1, cell_keep hb h.2.2.2.1, cell_keep hb h.2.2.2.2.1, cell_keep hb h.2.2.2.2.2.1, cell_keep hb h.2.2.2.2.2.2.1, cell_keep hb h.2.2.2.2.2.2.2.1, cell_keep hb h.2.2.2.2.2.2.2.2.1, cell_keep hb h.2.2.2.2.2.2.2.2.2.1, bel_step h.2.2.2.2.2.2.2.2.2.2.1 hb, rep_keep hb _ _ _ h.2.2.2.2.2.2.2.2.2.2.2.1, rep_keep hb _ _ _ h.2.2.2.2.2.2.2.2.2.2.2.2⟩
theorem af_drew {w x : World} {ub vb : Nat} {qu : Option Addr} {mu du : Nat} {qv : Option Addr} {dv f : Nat} (h : AF w x ub vb qu mu du qv dv f) : AF w x.drew ub vb qu mu du qv dv f := af_step h (Below.drew (Below.refl _ _))
/-- A counter's state, read. -/
theorem rep_cnt_mem {x : World} {q : Option Addr} {m d : Nat} {i : Int} {f : Nat} (h : Rep x 2 (.agg #[.int .i64 4, .int .i64 0, .float .f64 0, .string ⟨#[]⟩, .slice q m d]) (cntS 0 i f)) : ∃ b off, q = some ⟨b, off, none⟩ ∧ m = 2 ∧ x.cell? ⟨b, off + 1, none⟩ = some (.int .i64 i) := by
  obtain ⟨p, l, c, hv, _, _, _, _, hl, _, _, hel⟩ := h
  injection hv with hv
  simp only [Array.mk.injEq, List.cons.injEq, and_true] at hv
  obtain ⟨_, _, _, _, hq⟩ := hv
  injection hq with hq hm hd
  subst hq hm hd
  obtain rfl : 2 = m := hl
  obtain ⟨b, off, hp, hi⟩ := hel (by omega)
  subst hp
  obtain ⟨v0, v1, v2, v3, v4, c0, c1, c2, c3, c4, hra⟩ := hi 0 (show 0 < 2 by omega)
  obtain ⟨q4, m4, d4, hv4, _⟩ := hra
  injection hv4 with hv4
  simp only [Array.mk.injEq, List.cons.injEq, and_true] at hv4
  obtain ⟨rfl, rfl, rfl, rfl, rfl⟩ := hv4
  exact ⟨b, off, rfl, rfl, by have h := c1; simp only [Nat.zero_mul, Nat.add_zero, Nat.zero_add] at h; exact h⟩
set_option maxRecDepth 100000 in
set_option maxHeartbeats 4000000 in
theorem edges_any (n : Int) (f g : Nat) (hn : okI n) (hf : f < 2 ^ 64) (hg : g < 2 ^ 64) (w : World) :
    Calls Try.prog 6 #[.int .i64 n, .float .f64 f, .float .f64 g] w fun e w' => e = .returned (.bool true) ∧ Below w.heap.size w w' := by
  go_enter Try.func6, Try.ntmps6
  go_wp2_with fail
  go_at_call 7; refine (known9 _).mono ?_; rintro e w0 ⟨rfl, hb0⟩
  have HB0 := Lib.hid hb0
  have HN := Lib.hid hn
  clear hb0 hn
  go_upto_if 17 with fail
  go_cut [0] (fun s0 wx => wx = w0 ∧ ∃ m : Int, s0 = .int .i64 m ∧ 0 ≤ m ∧ m ≤ 9223372036854775807)
  case first =>
    have hn := HN.out
    unfold okI at hn
    by_cases h0 : n < 0
    · go_wp2
      all_goals go_meet
      all_goals exact ⟨rfl, -(n + 1), rfl, by omega, by omega⟩
    · go_wp2
      all_goals go_meet
      all_goals exact ⟨rfl, n, rfl, by omega, by omega⟩
  case rest =>
  obtain ⟨rfl, m, rfl, h0, h1⟩ := hcut
  have HM := Lib.hid (And.intro h0 h1)
  clear h0 h1
  go_wp2_with fail
  go_at_call 19; refine (int_ref_any _ _).mono ?_; rintro e w1 ⟨rfl, hb1⟩
  have HB1 := Lib.hid (bel_step HB0.out hb1)
  clear hb1 HB0
  go_wp2_with fail
  go_at_call 17; refine (float_ref_any _ _).mono ?_; rintro e w2 ⟨rfl, hb2⟩
  have HB2 := Lib.hid (bel_step HB1.out hb2)
  clear hb2 HB1
  go_wp2_with fail
  have HRW := row_alloc w2 #[.int .i64 1, .int .i64 m, .float .f64 0, .string ⟨#[]⟩, .slice none 0 0, .int .i64 2, .int .i64 0, .float .f64 (Flo.canon f), .string ⟨#[]⟩, .slice none 0 0] 27
  have HROW := Lib.hid HRW
  have HR2 := Lib.hid (And.intro (bel_alloc HB2.out (.cells #[.int .i64 1, .int .i64 m, .float .f64 0, .string ⟨#[]⟩, .slice none 0 0, .int .i64 2, .int .i64 0, .float .f64 (Flo.canon f), .string ⟨#[]⟩, .slice none 0 0] 27)) (show Rep _ 2 _ (cntS 0 m (Flo.canon f)) from repS_rep _ _ _ (two_new (fun _ => True) _ 0 w2.heap.size 1 m 0 ⟨#[]⟩ (by decide) (by unfold okI; have := HM.out; omega) (by decide) (by decide) 2 0 (Flo.canon f) ⟨#[]⟩ (by decide) (by decide) (Flo.canon_lt hf) (by decide) trivial HRW)))
  clear HRW HB2
  go_at_call 18; refine (list_ref_any _ _ _ _).mono ?_; rintro e w3 ⟨rfl, hb3⟩
  have hal := bel_alloc (Below.refl w3.heap.size w3) (.cells #[.int .i64 4, .int .i64 0, .float .f64 0, .string ⟨#[]⟩, .slice (some ⟨w2.heap.size, 0, none⟩) 2 2] 27)
  have hcn : CS (w3.alloc (.cells #[.int .i64 4, .int .i64 0, .float .f64 0, .string ⟨#[]⟩, .slice (some ⟨w2.heap.size, 0, none⟩) 2 2] 27)) w3.heap.size _ _ _ _ _ := cs_new rfl
  have HS := Lib.hid (And.intro (show CSR (w3.alloc (.cells #[.int .i64 4, .int .i64 0, .float .f64 0, .string ⟨#[]⟩, .slice (some ⟨w2.heap.size, 0, none⟩) 2 2] 27)) w3.heap.size _ _ _ _ _ w2.heap.size _ from ⟨hcn.1, hcn.2.1, hcn.2.2.1, hcn.2.2.2.1, hcn.2.2.2.2, row_alloc_step (row_step HROW.out hb3) _⟩) (show RC1 w (.agg #[.int .i64 4, .int .i64 0, .float .f64 0, .string ⟨#[]⟩, .slice (some ⟨w2.heap.size, 0, none⟩) 2 2]) 2 (cntS 0 m (Flo.canon f)) _ from ⟨bel_step HR2.out.1 (bel_step hb3 hal), rep_keep (bel_step hb3 hal) _ _ _ HR2.out.2⟩))
  clear hb3 hal HR2 hcn HROW
  go_upto_region 6 with fail
  revert HS
  generalize w3.alloc (.cells #[.int .i64 4, .int .i64 0, .float .f64 0, .string ⟨#[]⟩, .slice (some ⟨w2.heap.size, 0, none⟩) 2 2] 27) = W
  generalize w3.heap.size = sb
  generalize w2.heap.size = b
  intro HS
  obtain ⟨hs0, hr0⟩ := HS.out
  obtain ⟨T, V, z, hR⟩ : ∃ T V z, cntD 0 addC (cntS 0 m (Flo.canon f)) [floV 1 (Flo.canon g)] = (T, V, z) := ⟨_, _, _, rfl⟩
  have HH := Lib.hid (And.intro (Flo.canon_lt hg) hR)
  have HG := Lib.hid (And.intro hf hg)
  clear hR hf hg
  go_cut [8, 9, 10] (fun s3 s4 s5 wx => ∃ tb vb Kt It Ft Zt qt mt dt Kv Iv Fv Zv qv mv dv, s3 = .pointer (some ⟨tb, 0, none⟩) ∧ s4 = .pointer (some ⟨vb, 0, none⟩) ∧ s5 = .int .i64 z ∧ CS wx tb (.int .i64 Kt) (.int .i64 It) (.float .f64 Ft) (.string Zt) (.slice qt mt dt) ∧ CS wx vb (.int .i64 Kv) (.int .i64 Iv) (.float .f64 Fv) (.string Zv) (.slice qv mv dv) ∧ RC1 w (.agg #[.int .i64 Kt, .int .i64 It, .float .f64 Ft, .string Zt, .slice qt mt dt]) 2 (T) wx ∧ Rep wx 2 (.agg #[.int .i64 Kv, .int .i64 Iv, .float .f64 Fv, .string Zv, .slice qv mv dv]) (V) ∧ CSR wx sb (.int .i64 4) (.int .i64 0) (.float .f64 0) (.string ⟨#[]⟩) (.slice (some ⟨b, 0, none⟩) 2 2) b (.cells #[.int .i64 1, .int .i64 m, .float .f64 0, .string ⟨#[]⟩, .slice none 0 0, .int .i64 2, .int .i64 0, .float .f64 (Flo.canon f), .string ⟨#[]⟩, .slice none 0 0] 27 (0, 0)))
  case first =>
    have hlt := cell_lt hs0.1
    have hbl := (Array.getElem?_eq_some_iff.1 hs0.2.2.2.2.2).1
    have hws := hr0.1.size
    go_region_held3 (fun x => x.cell? ⟨sb, 0, none⟩ = some (.int .i64 4) ∧ x.cell? ⟨sb, 1, none⟩ = some (.int .i64 0) ∧ x.cell? ⟨sb, 2, none⟩ = some (.float .f64 0) ∧ x.cell? ⟨sb, 3, none⟩ = some (.string ⟨#[]⟩) ∧ x.cell? ⟨sb, 4, none⟩ = some (.slice (some ⟨b, 0, none⟩) 2 2) ∧ x.heap[b]? = some (.cells #[.int .i64 1, .int .i64 m, .float .f64 0, .string ⟨#[]⟩, .slice none 0 0, .int .i64 2, .int .i64 0, .float .f64 (Flo.canon f), .string ⟨#[]⟩, .slice none 0 0] 27 (0, 0))) ((show CSR _ sb (.int .i64 4) (.int .i64 0) (.float .f64 0) (.string ⟨#[]⟩) (.slice (some ⟨b, 0, none⟩) 2 2) b (.cells #[.int .i64 1, .int .i64 m, .float .f64 0, .string ⟨#[]⟩, .slice none 0 0, .int .i64 2, .int .i64 0, .float .f64 (Flo.canon f), .string ⟨#[]⟩, .slice none 0 0] 27 (0, 0)); (repeat (with_reducible first | assumption | refine csr_alloc ?_ _ | refine csr_drew ?_ | (refine csr_set ?_ ?_ ?_; rotate_left; omega; omega))))) (first
      | (go_at_call 17; refine (float_ref_any _ _).mono ?_; rintro e wF ⟨rfl, hb⟩; have hkF : CSR wF sb (.int .i64 4) (.int .i64 0) (.float .f64 0) (.string ⟨#[]⟩) (.slice (some ⟨b, 0, none⟩) 2 2) b (.cells #[.int .i64 1, .int .i64 m, .float .f64 0, .string ⟨#[]⟩, .slice none 0 0, .int .i64 2, .int .i64 0, .float .f64 (Flo.canon f), .string ⟨#[]⟩, .slice none 0 0] 27 (0, 0)) := csr_step (by (repeat (with_reducible first | assumption | refine csr_alloc ?_ _ | refine csr_drew ?_))) hb; have hrF : RC1 w (.agg #[.int .i64 4, .int .i64 0, .float .f64 0, .string ⟨#[]⟩, .slice (some ⟨b, 0, none⟩) 2 2]) 2 (cntS 0 m (Flo.canon f)) wF := rc_step (by (repeat (with_reducible first | assumption | refine rc_alloc ?_ _ | refine rc_drew ?_))) hb; obtain ⟨hcF, hfF⟩ := bcell hb; (try simp only [World.size_alloc, World.size_drew] at hcF hfF); have zF := hb.size; (try simp only [World.size_alloc, World.size_drew] at zF); (try have ylFW0 : W.heap.size < wF.heap.size := by omega); (try have ynFW0 : wF.heap.size ≠ W.heap.size := by omega); (try have ymFW0 : wF.heap.size + 1 ≠ W.heap.size := by omega); (try have ykFW0 : W.heap.size < wF.heap.size + 1 := by omega); (try have ylFW1 : W.heap.size + 1 < wF.heap.size := by omega); (try have ynFW1 : wF.heap.size ≠ W.heap.size + 1 := by omega); (try have ymFW1 : wF.heap.size + 1 ≠ W.heap.size + 1 := by omega); (try have ykFW1 : W.heap.size + 1 < wF.heap.size + 1 := by omega); clear hb)
      | (go_at_call 11; refine (cdo_rc (w := w) (by (repeat (with_reducible first | assumption | refine rc_alloc ?_ _ | refine rc_drew ?_))) (by first | exact lf_new (by simp only [World.size_alloc]) HH.out.1 | (refine lf_alloc ?_ _; first | exact lf_new (by simp only [World.size_alloc]) HH.out.1 | (refine lf_alloc ?_ _; exact lf_new (by simp only [World.size_alloc]) HH.out.1))) _ HH.out.2).mono ?_; rintro e wD ⟨t, v, rfl, hb, ht, hv⟩; obtain ⟨Kt, It, Ft, Zt, qt, mt, dt, rfl, _⟩ := repS_shape ht; obtain ⟨Kv, Iv, Fv, Zv, qv, mv, dv, rfl, _⟩ := repS_shape hv; have hkD : CSR wD sb (.int .i64 4) (.int .i64 0) (.float .f64 0) (.string ⟨#[]⟩) (.slice (some ⟨b, 0, none⟩) 2 2) b (.cells #[.int .i64 1, .int .i64 m, .float .f64 0, .string ⟨#[]⟩, .slice none 0 0, .int .i64 2, .int .i64 0, .float .f64 (Flo.canon f), .string ⟨#[]⟩, .slice none 0 0] 27 (0, 0)) := csr_step (by (repeat (with_reducible first | assumption | refine csr_alloc ?_ _ | refine csr_drew ?_))) hb; have hrD : RC1 w (.agg #[.int .i64 4, .int .i64 0, .float .f64 0, .string ⟨#[]⟩, .slice (some ⟨b, 0, none⟩) 2 2]) 2 (cntS 0 m (Flo.canon f)) wD := rc_step (by (repeat (with_reducible first | assumption | refine rc_alloc ?_ _ | refine rc_drew ?_))) hb; have hBD := hrD.1; (try simp only [World.size_alloc, World.size_drew] at ht hv); have HTV := Lib.hid (And.intro ht hv); clear ht hv; obtain ⟨hcD, hfD⟩ := bcell hb; (try simp only [World.size_alloc, World.size_drew] at hcD hfD); have zD := hb.size; (try simp only [World.size_alloc, World.size_drew] at zD); (try have ylDW0 : W.heap.size < wD.heap.size := by omega); (try have ynDW0 : wD.heap.size ≠ W.heap.size := by omega); (try have ymDW0 : wD.heap.size + 1 ≠ W.heap.size := by omega); (try have ykDW0 : W.heap.size < wD.heap.size + 1 := by omega); (try have ylDW1 : W.heap.size + 1 < wD.heap.size := by omega); (try have ynDW1 : wD.heap.size ≠ W.heap.size + 1 := by omega); (try have ymDW1 : wD.heap.size + 1 ≠ W.heap.size + 1 := by omega); (try have ykDW1 : W.heap.size + 1 < wD.heap.size + 1 := by omega); (try have ylDwF0 : wF.heap.size < wD.heap.size := by omega); (try have ynDwF0 : wD.heap.size ≠ wF.heap.size := by omega); (try have ymDwF0 : wD.heap.size + 1 ≠ wF.heap.size := by omega); (try have ykDwF0 : wF.heap.size < wD.heap.size + 1 := by omega); (try have ylDwF1 : wF.heap.size + 1 < wD.heap.size := by omega); (try have ynDwF1 : wD.heap.size ≠ wF.heap.size + 1 := by omega); (try have ymDwF1 : wD.heap.size + 1 ≠ wF.heap.size + 1 := by omega); (try have ykDwF1 : wF.heap.size + 1 < wD.heap.size + 1 := by omega); (try have ylDwF2 : wF.heap.size + 1 + 1 < wD.heap.size := by omega); (try have ynDwF2 : wD.heap.size ≠ wF.heap.size + 1 + 1 := by omega); (try have ymDwF2 : wD.heap.size + 1 ≠ wF.heap.size + 1 + 1 := by omega); (try have ykDwF2 : wF.heap.size + 1 + 1 < wD.heap.size + 1 := by omega); clear hb))
    all_goals (go_wp2_with fail)
    all_goals go_meet
    all_goals
      clear hkF hrF hrD hs0 hr0 HH
      refine ⟨_, _, Kt, It, Ft, Zt, qt, mt, dt, Kv, Iv, Fv, Zv, qv, mv, dv, rfl, rfl, rfl, ?_, ?_, ⟨?_, ?_⟩, ?_, ?_⟩
      · (repeat (with_reducible first | exact cs_new (by simp only [World.size_alloc, World.size_setCell]) | refine cs_alloc ?_ _ | refine cs_set5 (u0 := .int .i64 0) (u1 := .int .i64 0) (u2 := .float .f64 0) (u3 := .string ⟨#[]⟩) (u4 := .slice none 0 0) ?_ | (refine cs_other ?_ ?_; rotate_left; omega)))
        all_goals (unfold CS; simp [go_sem, *]; done)
      · (repeat (with_reducible first | exact cs_new (by simp only [World.size_alloc, World.size_setCell]) | refine cs_alloc ?_ _ | refine cs_set5 (u0 := .int .i64 0) (u1 := .int .i64 0) (u2 := .float .f64 0) (u3 := .string ⟨#[]⟩) (u4 := .slice none 0 0) ?_ | (refine cs_other ?_ ?_; rotate_left; omega)))
        all_goals (unfold CS; simp [go_sem, *]; done)
      · (repeat (with_reducible first | exact hBD | refine bel_alloc ?_ _ | (refine bel_set5 ?_ ?_; rotate_left; omega)))
      · refine rep_out HTV.out.1 (fun b hb1 hb2 => ?_)
        (repeat (with_reducible first | exact rfl | (refine hk_alloc ?_ ?_; rotate_left; ((try simp only [World.size_alloc, World.size_setCell]); omega)) | (refine hk_set5 ?_ ?_; rotate_left; omega)))
      · refine rep_out HTV.out.2 (fun b hb1 hb2 => ?_)
        (repeat (with_reducible first | exact rfl | (refine hk_alloc ?_ ?_; rotate_left; ((try simp only [World.size_alloc, World.size_setCell]); omega)) | (refine hk_set5 ?_ ?_; rotate_left; omega)))
      · (repeat (with_reducible first | exact hkD | refine csr_alloc ?_ _ | (refine csr_set5 ?_ ?_ ?_; rotate_left; omega; omega)))
  case rest =>
  obtain ⟨tb, vb, Kt, It, Ft, Zt, qt, mt, dt, Kv, Iv, Fv, Zv, qv, mv, dv, rfl, rfl, rfl, hct, hcv, hrt, hrv, hks⟩ := hcut
  clear hs0 hr0 HS
  have HKS := Lib.hid (And.intro hks (And.intro hrt (And.intro hrv (And.intro hct hcv))))
  clear hct hcv hrt hrv hks
  go_upto_if 37 with fail
  go_cut [] (fun wx => CSR wx sb (.int .i64 4) (.int .i64 0) (.float .f64 0) (.string ⟨#[]⟩) (.slice (some ⟨b, 0, none⟩) 2 2) b (.cells #[.int .i64 1, .int .i64 m, .float .f64 0, .string ⟨#[]⟩, .slice none 0 0, .int .i64 2, .int .i64 0, .float .f64 (Flo.canon f), .string ⟨#[]⟩, .slice none 0 0] 27 (0, 0)) ∧ Below w.heap.size w wx)
  case first =>
    by_cases hm : m = 9223372036854775807
    · subst hm
      have hq := HH.out.2.symm.trans (cnt_max _ _)
      simp only [Prod.mk.injEq] at hq
      obtain ⟨rfl, rfl, rfl⟩ := hq
      obtain ⟨hks, hrt, hrv, hct, hcv⟩ := HKS.out
      obtain ⟨rfl, rfl, rfl, rfl, rfl⟩ := rep_leaf (K := 0) (I := 0) (F := 0) (Z := ⟨#[]⟩) hrt.2
      obtain ⟨rfl, rfl, rfl, rfl, rfl⟩ := rep_leaf (K := 0) (I := 0) (F := 0) (Z := ⟨#[]⟩) hrv
      have HT := Lib.hid (And.intro hrt (And.intro hks hrv))
      have HCV := Lib.hid hcv
      obtain ⟨c0, c1, c2, c3, c4⟩ := hct
      have hlt := cell_lt c0
      clear hks hrt hrv hcv HKS HH
      go_wp2_with fail
      go_at_call 13; refine (same_any 2 _ _ (nilT 1) _ HT.out.1.2 (leafR _ 1 0 0 0 ⟨#[]⟩ (by decide) (by decide) (by decide) (by decide))).mono ?_; rintro e w4 ⟨rfl, hb4⟩
      have HT4 := Lib.hid (And.intro (rc_step HT.out.1 hb4) (And.intro (csr_step HT.out.2.1 hb4) (rep_keep hb4 _ _ _ HT.out.2.2)))
      have hcv := cs_step HCV.out hb4
      clear c0 c1 c2 c3 c4 hlt hb4 HT
      obtain ⟨c0, c1, c2, c3, c4⟩ := hcv
      go_wp2_with fail
      go_at_call 13; refine (same_any 2 _ _ (nilT 1) _ HT4.out.2.2 (leafR _ 1 0 0 0 ⟨#[]⟩ (by decide) (by decide) (by decide) (by decide))).mono ?_; rintro e w5 ⟨rfl, hb5⟩
      have HT5 := Lib.hid (And.intro (csr_step HT4.out.2.1 hb5) (bel_step HT4.out.1.1 hb5))
      clear c0 c1 c2 c3 c4 hb5 HT4
      go_wp2
      all_goals go_meet
      all_goals exact HT5.out
    · have hq := HH.out.2.symm.trans (cnt_add m (Flo.canon f) (Flo.canon g) HM.out.1 hm)
      obtain ⟨sm, hsm⟩ : ∃ sm, Flo.cop .add (Flo.canon f) (Flo.canon g) = sm := ⟨_, rfl⟩
      rw [Flo.canon_canon, hsm] at hq
      simp only [Prod.mk.injEq] at hq
      obtain ⟨rfl, rfl, rfl⟩ := hq
      obtain ⟨hks, hrt, hrv, hct, hcv⟩ := HKS.out
      obtain ⟨rfl, rfl, rfl, rfl⟩ := rep_cnt5 hrt.2
      obtain ⟨rfl, rfl, rfl, rfl, rfl⟩ := rep_leaf hrv
      obtain ⟨lb, lo, rfl, rfl, hlc⟩ := rep_cnt_mem hrt.2
      have HE := Lib.hid (show EE w wc sb tb vb lb lo dt qv dv (m + 1) Fv b (.cells #[.int .i64 1, .int .i64 m, .float .f64 0, .string ⟨#[]⟩, .slice none 0 0, .int .i64 2, .int .i64 0, .float .f64 (Flo.canon f), .string ⟨#[]⟩, .slice none 0 0] 27 (0, 0)) from ⟨hct.2.2.2.2, hlc, hcv.1, hcv.2.1, hcv.2.2.1, hcv.2.2.2.1, hcv.2.2.2.2, hks, hrt.1, hrv⟩)
      have HSM := Lib.hid hsm
      have hw : wrap64 (m + 1) = m + 1 := by have := HM.out; unfold wrap64; omega
      have hw2 : IntKind.i64.wrap (m + 1) = m + 1 := by have := HM.out; rw [IntKind.wrap_i64]; omega
      have hne : (m == 9223372036854775807) = false := by rw [beq_eq_false_iff_ne]; exact hm
      clear hks hrt hrv hct hcv hlc HKS HH hsm hm
      go_upto_region 10 with fail
      have he := HE.out
      have hl1 := cell_lt he.1
      have hl2 := cell_lt he.2.1
      have hl3 := cell_lt he.2.2.1
      refine wp_region_held_drew (S := (fun z => z.cell? ⟨tb, 4, none⟩ = some (.slice (some ⟨lb, lo, none⟩) 2 dt) ∧ z.cell? ⟨lb, lo + 1, none⟩ = some (.int .i64 (m + 1)) ∧ z.cell? ⟨vb, 0, none⟩ = some (.int .i64 2) ∧ z.cell? ⟨vb, 1, none⟩ = some (.int .i64 0) ∧ z.cell? ⟨vb, 2, none⟩ = some (.float .f64 Fv) ∧ z.cell? ⟨vb, 3, none⟩ = some (.string ⟨#[]⟩) ∧ z.cell? ⟨vb, 4, none⟩ = some (.slice qv 0 dv) ∧ CSR z sb (.int .i64 4) (.int .i64 0) (.float .f64 0) (.string ⟨#[]⟩) (.slice (some ⟨b, 0, none⟩) 2 2) b (.cells #[.int .i64 1, .int .i64 m, .float .f64 0, .string ⟨#[]⟩, .slice none 0 0, .int .i64 2, .int .i64 0, .float .f64 (Flo.canon f), .string ⟨#[]⟩, .slice none 0 0] 27 (0, 0)) ∧ Below w.heap.size w z ∧ Rep z 2 (.agg #[.int .i64 2, .int .i64 0, .float .f64 Fv, .string ⟨#[]⟩, .slice qv 0 dv]) (floV 1 Fv))) (by kernel_rfl) ?_ (fun hHeld => ?_)
      · exact ee_drew he
      refine wpAnyH_take (i := 0) (oi := ?_) (v := ?_) ?hia0 (by kernel_rfl) ?hfa0 ?hra0 ?hQa0 ?hya0 (by assumption) ?resta0
      case hia0 => (simp only [List.getElem?_toArray, List.getElem?_cons_zero, List.getElem?_cons_succ]; rfl)
      case hfa0 => kernel_rfl
      case hra0 => kernel_rfl
      case hya0 => (refine Or.inl ⟨by rfl, ?_⟩; intro wS hSw; (try dsimp only at hSw); go_simp; (try with_reducible rfl))
      case hQa0 => exact fun _ _ _ h => h
      (try simp only [Act.put, List.setIfInBounds_toArray, List.set_cons_zero, List.set_cons_succ])
      refine wpAnyH_take (i := 1) (oi := ?_) (v := ?_) ?hia1 (by kernel_rfl) ?hfa1 ?hra1 ?hQa1 ?hya1 (by assumption) ?resta1
      case hia1 => (simp only [List.getElem?_toArray, List.getElem?_cons_zero, List.getElem?_cons_succ]; rfl)
      case hfa1 => kernel_rfl
      case hra1 => kernel_rfl
      case hya1 => (refine Or.inl ⟨by rfl, ?_⟩; intro wS hSw; (try dsimp only at hSw); go_simp; (try with_reducible rfl))
      case hQa1 => exact fun _ _ _ h => h
      (try simp only [Act.put, List.setIfInBounds_toArray, List.set_cons_zero, List.set_cons_succ])
      refine wpAnyH_take (i := 2) (oi := ?_) (v := ?_) ?hia2 (by kernel_rfl) ?hfa2 ?hra2 ?hQa2 ?hya2 (by assumption) ?resta2
      case hia2 => (simp only [List.getElem?_toArray, List.getElem?_cons_zero, List.getElem?_cons_succ]; rfl)
      case hfa2 => kernel_rfl
      case hra2 => kernel_rfl
      case hya2 => (refine Or.inl ⟨by rfl, ?_⟩; intro wS hSw; (try dsimp only at hSw); go_simp; (try with_reducible rfl))
      case hQa2 => exact fun _ _ _ h => h
      (try simp only [Act.put, List.setIfInBounds_toArray, List.set_cons_zero, List.set_cons_succ])
      refine wpAnyH_take (i := 3) (oi := ?_) (v := ?_) ?hia3 (by kernel_rfl) ?hfa3 ?hra3 ?hQa3 ?hya3 (by assumption) ?resta3
      case hia3 => (simp only [List.getElem?_toArray, List.getElem?_cons_zero, List.getElem?_cons_succ]; rfl)
      case hfa3 => kernel_rfl
      case hra3 => kernel_rfl
      case hya3 => (refine Or.inl ⟨by rfl, ?_⟩; intro wS hSw; (try dsimp only at hSw); go_simp; (try with_reducible rfl))
      case hQa3 => exact fun _ _ _ h => h
      (try simp only [Act.put, List.setIfInBounds_toArray, List.set_cons_zero, List.set_cons_succ])
      refine wpAnyH_take (i := 4) (oi := ?_) (v := ?_) ?hia4 (by kernel_rfl) ?hfa4 ?hra4 ?hQa4 ?hya4 (by assumption) ?resta4
      case hia4 => (simp only [List.getElem?_toArray, List.getElem?_cons_zero, List.getElem?_cons_succ]; rfl)
      case hfa4 => kernel_rfl
      case hra4 => kernel_rfl
      case hya4 => (refine Or.inl ⟨by rfl, ?_⟩; intro wS hSw; (try dsimp only at hSw); go_simp; (try with_reducible rfl))
      case hQa4 => exact fun _ _ _ h => h
      (try simp only [Act.put, List.setIfInBounds_toArray, List.set_cons_zero, List.set_cons_succ])
      refine wpAnyH_take (i := 5) (oi := ?_) (v := ?_) ?hia5 (by kernel_rfl) ?hfa5 ?hra5 ?hQa5 ?hya5 (by assumption) ?resta5
      case hia5 => (simp only [List.getElem?_toArray, List.getElem?_cons_zero, List.getElem?_cons_succ]; rfl)
      case hfa5 => kernel_rfl
      case hra5 => kernel_rfl
      case hya5 => (refine Or.inl ⟨by rfl, ?_⟩; intro wS hSw; (try dsimp only at hSw); go_simp; (try with_reducible rfl))
      case hQa5 => exact fun _ _ _ h => h
      (try simp only [Act.put, List.setIfInBounds_toArray, List.set_cons_zero, List.set_cons_succ])
      refine wpAnyH_take (i := 6) (oi := ?_) (v := ?_) ?hia6 (by kernel_rfl) ?hfa6 ?hra6 ?hQa6 ?hya6 (by assumption) ?resta6
      case hia6 => (simp only [List.getElem?_toArray, List.getElem?_cons_zero, List.getElem?_cons_succ]; rfl)
      case hfa6 => kernel_rfl
      case hra6 => kernel_rfl
      case hya6 => (refine Or.inl ⟨by rfl, ?_⟩; intro wS hSw; (try dsimp only at hSw); go_simp; (try with_reducible rfl))
      case hQa6 => exact fun _ _ _ h => h
      (try simp only [Act.put, List.setIfInBounds_toArray, List.set_cons_zero, List.set_cons_succ])
      refine wpAnyH_take (i := 7) (oi := ?_) (v := ?_) ?hia7 (by kernel_rfl) ?hfa7 ?hra7 ?hQa7 ?hya7 (by assumption) ?resta7
      case hia7 => (simp only [List.getElem?_toArray, List.getElem?_cons_zero, List.getElem?_cons_succ]; rfl)
      case hfa7 => kernel_rfl
      case hra7 => kernel_rfl
      case hya7 => (refine Or.inl ⟨by rfl, ?_⟩; intro wS hSw; (try dsimp only at hSw); go_simp; (try with_reducible rfl))
      case hQa7 => exact fun _ _ _ h => h
      (try simp only [Act.put, List.setIfInBounds_toArray, List.set_cons_zero, List.set_cons_succ])
      refine wpAnyH_take (i := 8) (oi := ?_) (v := ?_) ?hia8 (by kernel_rfl) ?hfa8 ?hra8 ?hQa8 ?hya8 (by assumption) ?resta8
      case hia8 => (simp only [List.getElem?_toArray, List.getElem?_cons_zero, List.getElem?_cons_succ]; rfl)
      case hfa8 => kernel_rfl
      case hra8 => kernel_rfl
      case hya8 => (refine Or.inl ⟨by rfl, ?_⟩; intro wS hSw; (try dsimp only at hSw); go_simp; (try with_reducible rfl))
      case hQa8 => exact fun _ _ _ h => h
      (try simp only [Act.put, List.setIfInBounds_toArray, List.set_cons_zero, List.set_cons_succ])
      refine wpAnyH_take (i := 9) (oi := ?_) (v := ?_) ?hia9 (by kernel_rfl) ?hfa9 ?hra9 ?hQa9 ?hya9 (by assumption) ?resta9
      case hia9 => (simp only [List.getElem?_toArray, List.getElem?_cons_zero, List.getElem?_cons_succ]; rfl)
      case hfa9 => kernel_rfl
      case hra9 => kernel_rfl
      case hya9 => (refine Or.inl ⟨by rfl, ?_⟩; intro wS hSw; (try dsimp only at hSw); go_simp; (try with_reducible rfl))
      case hQa9 => exact fun _ _ _ h => h
      (try simp only [Act.put, List.setIfInBounds_toArray, List.set_cons_zero, List.set_cons_succ])
      refine wpAnyH_take (i := 10) (oi := ?_) (v := ?_) ?hia10 (by kernel_rfl) ?hfa10 ?hra10 ?hQa10 ?hya10 (by assumption) ?resta10
      case hia10 => (simp only [List.getElem?_toArray, List.getElem?_cons_zero, List.getElem?_cons_succ]; rfl)
      case hfa10 => kernel_rfl
      case hra10 => kernel_rfl
      case hya10 => (refine Or.inl ⟨by rfl, ?_⟩; intro wS hSw; (try dsimp only at hSw); go_simp; (try with_reducible rfl))
      case hQa10 => exact fun _ _ _ h => h
      (try simp only [Act.put, List.setIfInBounds_toArray, List.set_cons_zero, List.set_cons_succ])
      refine wpAnyH_take (i := 11) (oi := ?_) (v := ?_) ?hia11 (by kernel_rfl) ?hfa11 ?hra11 ?hQa11 ?hya11 (by assumption) ?resta11
      case hia11 => (simp only [List.getElem?_toArray, List.getElem?_cons_zero, List.getElem?_cons_succ]; rfl)
      case hfa11 => kernel_rfl
      case hra11 => kernel_rfl
      case hya11 => (refine Or.inl ⟨by rfl, ?_⟩; intro wS hSw; (try dsimp only at hSw); go_simp; (try with_reducible rfl))
      case hQa11 => exact fun _ _ _ h => h
      (try simp only [Act.put, List.setIfInBounds_toArray, List.set_cons_zero, List.set_cons_succ])
      refine wpAnyH_take (i := 12) (oi := ?_) (v := ?_) ?hia12 (by kernel_rfl) ?hfa12 ?hra12 ?hQa12 ?hya12 (by assumption) ?resta12
      case hia12 => (simp only [List.getElem?_toArray, List.getElem?_cons_zero, List.getElem?_cons_succ]; rfl)
      case hfa12 => kernel_rfl
      case hra12 => kernel_rfl
      case hya12 => (refine Or.inl ⟨by rfl, ?_⟩; intro wS hSw; (try dsimp only at hSw); go_simp; (try with_reducible rfl))
      case hQa12 => exact fun _ _ _ h => h
      (try simp only [Act.put, List.setIfInBounds_toArray, List.set_cons_zero, List.set_cons_succ])
      refine wpAnyH_take (i := 13) (oi := ?_) (v := ?_) ?hia13 (by kernel_rfl) ?hfa13 ?hra13 ?hQa13 ?hya13 (by assumption) ?resta13
      case hia13 => (simp only [List.getElem?_toArray, List.getElem?_cons_zero, List.getElem?_cons_succ]; rfl)
      case hfa13 => kernel_rfl
      case hra13 => kernel_rfl
      case hya13 => (refine Or.inl ⟨by rfl, ?_⟩; intro wS hSw; (try dsimp only at hSw); go_simp; (try with_reducible rfl))
      case hQa13 => exact fun _ _ _ h => h
      (try simp only [Act.put, List.setIfInBounds_toArray, List.set_cons_zero, List.set_cons_succ])
      refine wpAnyH_take (i := 14) (oi := ?_) (v := ?_) ?hia14 (by kernel_rfl) ?hfa14 ?hra14 ?hQa14 ?hya14 (by assumption) ?resta14
      case hia14 => (simp only [List.getElem?_toArray, List.getElem?_cons_zero, List.getElem?_cons_succ]; rfl)
      case hfa14 => kernel_rfl
      case hra14 => kernel_rfl
      case hya14 => (refine Or.inl ⟨by rfl, ?_⟩; intro wS hSw; (try dsimp only at hSw); go_simp; (try with_reducible rfl))
      case hQa14 => exact fun _ _ _ h => h
      (try simp only [Act.put, List.setIfInBounds_toArray, List.set_cons_zero, List.set_cons_succ])
      refine wpAnyH_take (i := 15) (oi := ?_) (v := ?_) ?hia15 (by kernel_rfl) ?hfa15 ?hra15 ?hQa15 ?hya15 (by assumption) ?resta15
      case hia15 => (simp only [List.getElem?_toArray, List.getElem?_cons_zero, List.getElem?_cons_succ]; rfl)
      case hfa15 => kernel_rfl
      case hra15 => kernel_rfl
      case hya15 => (refine Or.inl ⟨by rfl, ?_⟩; intro wS hSw; (try dsimp only at hSw); go_simp; (try with_reducible rfl))
      case hQa15 => exact fun _ _ _ h => h
      (try simp only [Act.put, List.setIfInBounds_toArray, List.set_cons_zero, List.set_cons_succ])
      refine wpAnyH_take (i := 16) (oi := ?_) (v := ?_) ?hia16 (by kernel_rfl) ?hfa16 ?hra16 ?hQa16 ?hya16 (by assumption) ?resta16
      case hia16 => (simp only [List.getElem?_toArray, List.getElem?_cons_zero, List.getElem?_cons_succ]; rfl)
      case hfa16 => kernel_rfl
      case hra16 => kernel_rfl
      case hya16 => (refine Or.inl ⟨by rfl, ?_⟩; intro wS hSw; (try dsimp only at hSw); go_simp; (try with_reducible rfl))
      case hQa16 => exact fun _ _ _ h => h
      (try simp only [Act.put, List.setIfInBounds_toArray, List.set_cons_zero, List.set_cons_succ])
      refine wpAnyH_take (i := 17) (oi := ?_) (v := ?_) ?hia17 (by kernel_rfl) ?hfa17 ?hra17 ?hQa17 ?hya17 (by assumption) ?resta17
      case hia17 => (simp only [List.getElem?_toArray, List.getElem?_cons_zero, List.getElem?_cons_succ]; rfl)
      case hfa17 => kernel_rfl
      case hra17 => kernel_rfl
      case hya17 => (refine Or.inl ⟨by rfl, ?_⟩; intro wS hSw; (try dsimp only at hSw); go_simp; (try with_reducible rfl))
      case hQa17 => exact fun _ _ _ h => h
      (try simp only [Act.put, List.setIfInBounds_toArray, List.set_cons_zero, List.set_cons_succ])
      refine wpAnyH_take (i := 18) (oi := ?_) (v := ?_) ?hia18 (by kernel_rfl) ?hfa18 ?hra18 ?hQa18 ?hya18 (by assumption) ?resta18
      case hia18 => (simp only [List.getElem?_toArray, List.getElem?_cons_zero, List.getElem?_cons_succ]; rfl)
      case hfa18 => kernel_rfl
      case hra18 => kernel_rfl
      case hya18 => (refine Or.inl ⟨by rfl, ?_⟩; intro wS hSw; (try dsimp only at hSw); go_simp; (try with_reducible rfl))
      case hQa18 => exact fun _ _ _ h => h
      (try simp only [Act.put, List.setIfInBounds_toArray, List.set_cons_zero, List.set_cons_succ])
      refine wpAnyH_take (i := 19) (oi := ?_) (v := ?_) ?hia19 (by kernel_rfl) ?hfa19 ?hra19 ?hQa19 ?hya19 (by assumption) ?resta19
      case hia19 => (simp only [List.getElem?_toArray, List.getElem?_cons_zero, List.getElem?_cons_succ]; rfl)
      case hfa19 => kernel_rfl
      case hra19 => kernel_rfl
      case hya19 => (refine Or.inl ⟨by rfl, ?_⟩; intro wS hSw; (try dsimp only at hSw); go_simp; (try with_reducible rfl))
      case hQa19 => exact fun _ _ _ h => h
      (try simp only [Act.put, List.setIfInBounds_toArray, List.set_cons_zero, List.set_cons_succ])
      refine wpAnyH_take (i := 20) (oi := ?_) (v := ?_) ?hia20 (by kernel_rfl) ?hfa20 ?hra20 ?hQa20 ?hya20 (by assumption) ?resta20
      case hia20 => (simp only [List.getElem?_toArray, List.getElem?_cons_zero, List.getElem?_cons_succ]; rfl)
      case hfa20 => kernel_rfl
      case hra20 => kernel_rfl
      case hya20 => (refine Or.inl ⟨by rfl, ?_⟩; intro wS hSw; (try dsimp only at hSw); go_simp; (try with_reducible rfl))
      case hQa20 => exact fun _ _ _ h => h
      (try simp only [Act.put, List.setIfInBounds_toArray, List.set_cons_zero, List.set_cons_succ])
      refine wpAnyH_take (i := 22) (oi := ?_) (v := ?_) ?hia22 (by kernel_rfl) ?hfa22 ?hra22 ?hQa22 ?hya22 (by assumption) ?resta22
      case hia22 => (simp only [List.getElem?_toArray, List.getElem?_cons_zero, List.getElem?_cons_succ]; rfl)
      case hfa22 => kernel_rfl
      case hra22 => kernel_rfl
      case hya22 => (refine Or.inl ⟨by rfl, ?_⟩; intro wS hSw; (try dsimp only at hSw); go_simp; (try with_reducible rfl))
      case hQa22 => exact fun _ _ _ h => h
      (try simp only [Act.put, List.setIfInBounds_toArray, List.set_cons_zero, List.set_cons_succ])
      refine wpAnyH_ready (rs := [21]) (by kernel_rfl) (by simp) ?_
      refine AllReadyH.cons (o := ?_) ?hoa21 ?hsta21 AllReadyH.nil
      case hoa21 => (simp only [List.getElem?_toArray, List.getElem?_cons_zero, List.getElem?_cons_succ]; rfl)
      intro K hK
      go_simp
      go_at_call 20; refine (canon_ref_any _ _).mono ?_; rintro e w4 ⟨rfl, rfl⟩
      go_wp2_with fail
      refine hK.out _ _ ?hsa21 (fun hHeld => ?_)
      case hsa21 => exact hHeld
      clear hK K
      (try simp only [Act.put, List.setIfInBounds_toArray, List.set_cons_zero, List.set_cons_succ])
      refine wpAnyH_ready (rs := [23]) (by kernel_rfl) (by simp) ?_
      refine AllReadyH.cons (o := ?_) ?hoa23 ?hsta23 AllReadyH.nil
      case hoa23 => (simp only [List.getElem?_toArray, List.getElem?_cons_zero, List.getElem?_cons_succ]; rfl)
      intro K hK
      go_simp
      go_at_call 20; refine (canon_ref_any _ _).mono ?_; rintro e w4 ⟨rfl, rfl⟩
      go_wp2_with fail
      refine hK.out _ _ ?hsa23 (fun hHeld => ?_)
      case hsa23 => exact hHeld
      clear hK K
      (try simp only [Act.put, List.setIfInBounds_toArray, List.set_cons_zero, List.set_cons_succ])
      refine wpAnyH_ready (rs := [24]) (by kernel_rfl) (by simp) ?_
      refine AllReadyH.cons (o := ?_) ?hoa24 ?hsta24 AllReadyH.nil
      case hoa24 => (simp only [List.getElem?_toArray, List.getElem?_cons_zero, List.getElem?_cons_succ]; rfl)
      intro K hK
      go_simp
      obtain ⟨sn, W2, hsn, hcn, hW2, hrun⟩ := add_runs wc.drew (Flo.canon f) (Flo.canon g) _ HSM.out; rw [hrun]; clear hrun; have HCN := Lib.hid hcn; have he2 : EE w W2 sb tb vb lb lo dt qv dv (m + 1) Fv b (.cells #[.int .i64 1, .int .i64 m, .float .f64 0, .string ⟨#[]⟩, .slice none 0 0, .int .i64 2, .int .i64 0, .float .f64 (Flo.canon f), .string ⟨#[]⟩, .slice none 0 0] 27 (0, 0)) := (by rcases hW2 with rfl | rfl; exact (by assumption : EE w wc.drew sb tb vb lb lo dt qv dv (m + 1) Fv b (.cells #[.int .i64 1, .int .i64 m, .float .f64 0, .string ⟨#[]⟩, .slice none 0 0, .int .i64 2, .int .i64 0, .float .f64 (Flo.canon f), .string ⟨#[]⟩, .slice none 0 0] 27 (0, 0))); exact ee_drew (by assumption : EE w wc.drew sb tb vb lb lo dt qv dv (m + 1) Fv b (.cells #[.int .i64 1, .int .i64 m, .float .f64 0, .string ⟨#[]⟩, .slice none 0 0, .int .i64 2, .int .i64 0, .float .f64 (Flo.canon f), .string ⟨#[]⟩, .slice none 0 0] 27 (0, 0)))); clear hW2 hsn hcn; go_simp
      go_wp2_with fail
      refine hK.out _ _ ?hsa24 (fun hHeld => ?_)
      case hsa24 => exact he2
      clear hK K
      (try simp only [Act.put, List.setIfInBounds_toArray, List.set_cons_zero, List.set_cons_succ])
      refine wpAnyH_ready (rs := [25]) (by kernel_rfl) (by simp) ?_
      refine AllReadyH.cons (o := ?_) ?hoa25 ?hsta25 AllReadyH.nil
      case hoa25 => (simp only [List.getElem?_toArray, List.getElem?_cons_zero, List.getElem?_cons_succ]; rfl)
      intro K hK
      go_simp
      go_at_call 17; refine (float_ref_any _ _).mono ?_; rintro e w5 ⟨rfl, hb5⟩; have he5 := ee_step he2 hb5; clear hb5
      go_wp2_with fail
      refine hK.out _ _ ?hsa25 (fun hHeld => ?_)
      case hsa25 => exact he5
      clear hK K
      (try simp only [Act.put, List.setIfInBounds_toArray, List.set_cons_zero, List.set_cons_succ])
      refine wpAnyH_ready (rs := [26]) (by kernel_rfl) (by simp) ?_
      refine AllReadyH.cons (o := ?_) ?hoa26 ?hsta26 AllReadyH.nil
      case hoa26 => (simp only [List.getElem?_toArray, List.getElem?_cons_zero, List.getElem?_cons_succ]; rfl)
      intro K hK
      go_simp
      go_at_call 13; refine (same_any 2 _ _ (floV 1 Fv) _ he5.2.2.2.2.2.2.2.2.2 (by rw [HCN.out]; exact leafR _ 1 2 0 Fv ⟨#[]⟩ (by decide) (by decide) (by have h := HSM.out; rw [← h]; exact Flo.cop_lt _ _ _) (by decide))).mono ?_; rintro e w6 ⟨rfl, hb6⟩; have he6 := ee_step he5 hb6; clear hb6
      go_wp2_with fail
      refine hK.out _ _ ?hsa26 (fun hHeld => ?_)
      case hsa26 => exact he6
      clear hK K
      (try simp only [Act.put, List.setIfInBounds_toArray, List.set_cons_zero, List.set_cons_succ])
      refine wpAnyH_take (i := 27) (oi := ?_) (v := ?_) ?hia27 (by kernel_rfl) ?hfa27 ?hra27 ?hQa27 ?hya27 (by assumption) ?resta27
      case hia27 => (simp only [List.getElem?_toArray, List.getElem?_cons_zero, List.getElem?_cons_succ]; rfl)
      case hfa27 => kernel_rfl
      case hra27 => kernel_rfl
      case hya27 => (refine Or.inl ⟨by rfl, ?_⟩; intro wS hSw; (try dsimp only at hSw); go_simp; (try with_reducible rfl))
      case hQa27 => exact fun _ _ _ h => h
      (try simp only [Act.put, List.setIfInBounds_toArray, List.set_cons_zero, List.set_cons_succ])
      refine wpAnyH_take (i := 28) (oi := ?_) (v := ?_) ?hia28 (by kernel_rfl) ?hfa28 ?hra28 ?hQa28 ?hya28 (by assumption) ?resta28
      case hia28 => (simp only [List.getElem?_toArray, List.getElem?_cons_zero, List.getElem?_cons_succ]; rfl)
      case hfa28 => kernel_rfl
      case hra28 => kernel_rfl
      case hya28 => (refine Or.inl ⟨by rfl, ?_⟩; intro wS hSw; (try dsimp only at hSw); go_simp; (try with_reducible rfl))
      case hQa28 => exact fun _ _ _ h => h
      (try simp only [Act.put, List.setIfInBounds_toArray, List.set_cons_zero, List.set_cons_succ])
      refine wpAnyH_done (by kernel_rfl) ?_ _
      have HF := Lib.hid he6
      go_wp2
      all_goals go_meet
      all_goals exact ⟨HF.out.2.2.2.2.2.2.2.1, HF.out.2.2.2.2.2.2.2.2.1⟩
  case rest =>
  obtain ⟨hk, hbw⟩ := hcut
  have hrs : Rep wc 2 (.agg #[.int .i64 4, .int .i64 0, .float .f64 0, .string ⟨#[]⟩, .slice (some ⟨b, 0, none⟩) 2 2]) (cntS 0 m (Flo.canon f)) := repS_rep _ _ _ (two_new (fun _ => True) _ 0 b 1 m 0 ⟨#[]⟩ (by decide) (by unfold okI; have := HM.out; omega) (by decide) (by decide) 2 0 (Flo.canon f) ⟨#[]⟩ (by decide) (by decide) (Flo.canon_lt HG.out.1) (by decide) trivial hk.2.2.2.2.2)
  have HDO := Lib.hid (cdo_nil wc _ m (Flo.canon f) HM.out.1 hrs resetC (Or.inr (Or.inl rfl)) (cntS 0 0 0, floV 1 (Flo.canon f), 0) (by unfold cntR; rw [if_neg (by decide), if_neg (by decide), if_pos rfl, Flo.canon_canon]))
  unfold DoP at HDO
  have HBW := Lib.hid hbw
  obtain ⟨c0, c1, c2, c3, c4, _⟩ := hk
  have hsl := cell_lt c0
  clear hrs hbw HKS
  go_wp2_with fail
  go_at_call 11; refine HDO.out.mono ?_; rintro e w5 ⟨t, v, rfl, hb5, ht, hv⟩
  obtain ⟨K5, I5, F5, S5, q5, m5, d5, rfl, _⟩ := repS_shape ht
  obtain ⟨q6, d6, rfl⟩ := num_shape hv
  obtain ⟨rfl, rfl, rfl, rfl⟩ := rep_cnt5 (repS_rep _ _ _ ht)
  have hal0 := bel_alloc (bel_alloc (Below.refl w5.heap.size w5) (.cells #[.int .i64 4, .int .i64 0, .float .f64 0, .string ⟨#[]⟩, .slice q5 m5 d5] 27)) (.cells #[.int .i64 2, .int .i64 0, .float .f64 (Flo.canon f), .string ⟨#[]⟩, .slice q6 0 d6] 27)
  have hc1 : CS ((w5.alloc (.cells #[.int .i64 4, .int .i64 0, .float .f64 0, .string ⟨#[]⟩, .slice q5 m5 d5] 27)).alloc (.cells #[.int .i64 2, .int .i64 0, .float .f64 (Flo.canon f), .string ⟨#[]⟩, .slice q6 0 d6] 27)) (w5.heap.size + 1) _ _ _ _ _ := cs_new (World.size_alloc _ _).symm
  have hc2 : CS ((w5.alloc (.cells #[.int .i64 4, .int .i64 0, .float .f64 0, .string ⟨#[]⟩, .slice q5 m5 d5] 27)).alloc (.cells #[.int .i64 2, .int .i64 0, .float .f64 (Flo.canon f), .string ⟨#[]⟩, .slice q6 0 d6] 27)) w5.heap.size _ _ _ _ _ := cs_alloc (cs_new rfl) _
  have HA := Lib.hid (show AF w ((w5.alloc (.cells #[.int .i64 4, .int .i64 0, .float .f64 0, .string ⟨#[]⟩, .slice q5 m5 d5] 27)).alloc (.cells #[.int .i64 2, .int .i64 0, .float .f64 (Flo.canon f), .string ⟨#[]⟩, .slice q6 0 d6] 27)) w5.heap.size (w5.heap.size + 1) q5 m5 d5 q6 d6 (Flo.canon f) from ⟨hc2.1, hc2.2.1, hc2.2.2.1, hc2.2.2.2.1, hc2.2.2.2.2, hc1.1, hc1.2.1, hc1.2.2.1, hc1.2.2.2.1, hc1.2.2.2.2, bel_step HBW.out (bel_step hb5 hal0), rep_keep hal0 _ _ _ (repS_rep _ _ _ ht), rep_keep hal0 _ _ _ (repS_rep _ _ _ hv)⟩)
  clear c0 c1 c2 c3 c4 hsl hb5 ht hv hal0 hc1 hc2 HDO HBW
  go_upto_region 13 with fail
  revert HA
  generalize (w5.alloc (.cells #[.int .i64 4, .int .i64 0, .float .f64 0, .string ⟨#[]⟩, .slice q5 m5 d5] 27)).alloc (.cells #[.int .i64 2, .int .i64 0, .float .f64 (Flo.canon f), .string ⟨#[]⟩, .slice q6 0 d6] 27) = W6
  generalize w5.heap.size + 1 = vb
  generalize w5.heap.size = ub
  intro HA
  have ha := HA.out
  have hl1 := cell_lt ha.1
  have hl2 := cell_lt ha.2.2.2.2.2.1
  refine wp_region_held_drew (S := (fun z => z.cell? ⟨ub, 0, none⟩ = some (.int .i64 4) ∧ z.cell? ⟨ub, 1, none⟩ = some (.int .i64 0) ∧ z.cell? ⟨ub, 2, none⟩ = some (.float .f64 0) ∧ z.cell? ⟨ub, 3, none⟩ = some (.string ⟨#[]⟩) ∧ z.cell? ⟨ub, 4, none⟩ = some (.slice q5 m5 d5) ∧ z.cell? ⟨vb, 0, none⟩ = some (.int .i64 2) ∧ z.cell? ⟨vb, 1, none⟩ = some (.int .i64 0) ∧ z.cell? ⟨vb, 2, none⟩ = some (.float .f64 (Flo.canon f)) ∧ z.cell? ⟨vb, 3, none⟩ = some (.string ⟨#[]⟩) ∧ z.cell? ⟨vb, 4, none⟩ = some (.slice q6 0 d6) ∧ Below w.heap.size w z ∧ Rep z 2 (.agg #[.int .i64 4, .int .i64 0, .float .f64 0, .string ⟨#[]⟩, .slice q5 m5 d5]) (cntS 0 0 0) ∧ Rep z 2 (.agg #[.int .i64 2, .int .i64 0, .float .f64 (Flo.canon f), .string ⟨#[]⟩, .slice q6 0 d6]) (floV 1 (Flo.canon f)))) (by kernel_rfl) ?_ (fun hHeld => ?_)
  · exact af_drew ha
  refine wpAnyH_take (i := 0) (oi := ?_) (v := ?_) ?hib0 (by kernel_rfl) ?hfb0 ?hrb0 ?hQb0 ?hyb0 (by assumption) ?restb0
  case hib0 => (simp only [List.getElem?_toArray, List.getElem?_cons_zero, List.getElem?_cons_succ]; rfl)
  case hfb0 => kernel_rfl
  case hrb0 => kernel_rfl
  case hyb0 => (refine Or.inl ⟨by rfl, ?_⟩; intro wS hSw; (try dsimp only at hSw); go_simp; (try with_reducible rfl))
  case hQb0 => exact fun _ _ _ h => h
  (try simp only [Act.put, List.setIfInBounds_toArray, List.set_cons_zero, List.set_cons_succ])
  refine wpAnyH_take (i := 1) (oi := ?_) (v := ?_) ?hib1 (by kernel_rfl) ?hfb1 ?hrb1 ?hQb1 ?hyb1 (by assumption) ?restb1
  case hib1 => (simp only [List.getElem?_toArray, List.getElem?_cons_zero, List.getElem?_cons_succ]; rfl)
  case hfb1 => kernel_rfl
  case hrb1 => kernel_rfl
  case hyb1 => (refine Or.inl ⟨by rfl, ?_⟩; intro wS hSw; (try dsimp only at hSw); go_simp; (try with_reducible rfl))
  case hQb1 => exact fun _ _ _ h => h
  (try simp only [Act.put, List.setIfInBounds_toArray, List.set_cons_zero, List.set_cons_succ])
  refine wpAnyH_take (i := 2) (oi := ?_) (v := ?_) ?hib2 (by kernel_rfl) ?hfb2 ?hrb2 ?hQb2 ?hyb2 (by assumption) ?restb2
  case hib2 => (simp only [List.getElem?_toArray, List.getElem?_cons_zero, List.getElem?_cons_succ]; rfl)
  case hfb2 => kernel_rfl
  case hrb2 => kernel_rfl
  case hyb2 => (refine Or.inl ⟨by rfl, ?_⟩; intro wS hSw; (try dsimp only at hSw); go_simp; (try with_reducible rfl))
  case hQb2 => exact fun _ _ _ h => h
  (try simp only [Act.put, List.setIfInBounds_toArray, List.set_cons_zero, List.set_cons_succ])
  refine wpAnyH_take (i := 3) (oi := ?_) (v := ?_) ?hib3 (by kernel_rfl) ?hfb3 ?hrb3 ?hQb3 ?hyb3 (by assumption) ?restb3
  case hib3 => (simp only [List.getElem?_toArray, List.getElem?_cons_zero, List.getElem?_cons_succ]; rfl)
  case hfb3 => kernel_rfl
  case hrb3 => kernel_rfl
  case hyb3 => (refine Or.inl ⟨by rfl, ?_⟩; intro wS hSw; (try dsimp only at hSw); go_simp; (try with_reducible rfl))
  case hQb3 => exact fun _ _ _ h => h
  (try simp only [Act.put, List.setIfInBounds_toArray, List.set_cons_zero, List.set_cons_succ])
  refine wpAnyH_take (i := 4) (oi := ?_) (v := ?_) ?hib4 (by kernel_rfl) ?hfb4 ?hrb4 ?hQb4 ?hyb4 (by assumption) ?restb4
  case hib4 => (simp only [List.getElem?_toArray, List.getElem?_cons_zero, List.getElem?_cons_succ]; rfl)
  case hfb4 => kernel_rfl
  case hrb4 => kernel_rfl
  case hyb4 => (refine Or.inl ⟨by rfl, ?_⟩; intro wS hSw; (try dsimp only at hSw); go_simp; (try with_reducible rfl))
  case hQb4 => exact fun _ _ _ h => h
  (try simp only [Act.put, List.setIfInBounds_toArray, List.set_cons_zero, List.set_cons_succ])
  refine wpAnyH_ready (rs := [5]) (by kernel_rfl) (by simp) ?_
  refine AllReadyH.cons (o := ?_) ?hob5 ?hstb5 AllReadyH.nil
  case hob5 => (simp only [List.getElem?_toArray, List.getElem?_cons_zero, List.getElem?_cons_succ]; rfl)
  intro K hK
  go_simp
  go_at_call 17; refine (float_ref_any _ _).mono ?_; rintro e w7 ⟨rfl, hb⟩; have ha7 := af_step (show AF w W6.drew ub vb q5 m5 d5 q6 d6 (Flo.canon f) from hHeld) hb; clear hb
  go_wp2_with fail
  refine hK.out _ _ ?hsb5 (fun hHeld => ?_)
  case hsb5 => exact ha7
  clear hK K
  (try simp only [Act.put, List.setIfInBounds_toArray, List.set_cons_zero, List.set_cons_succ])
  refine wpAnyH_ready (rs := [6]) (by kernel_rfl) (by simp) ?_
  refine AllReadyH.cons (o := ?_) ?hob6 ?hstb6 AllReadyH.nil
  case hob6 => (simp only [List.getElem?_toArray, List.getElem?_cons_zero, List.getElem?_cons_succ]; rfl)
  intro K hK
  go_simp
  go_at_call 13; refine (same_any 2 _ _ (floV 1 (Flo.canon f)) _ ha7.2.2.2.2.2.2.2.2.2.2.2.2 (leafR _ 1 2 0 (Flo.canon f) ⟨#[]⟩ (by decide) (by decide) (Flo.canon_lt HG.out.1) (by decide))).mono ?_; rintro e w8 ⟨rfl, hb⟩; have ha8 := af_step ha7 hb; clear hb
  go_wp2_with fail
  refine hK.out _ _ ?hsb6 (fun hHeld => ?_)
  case hsb6 => exact ha8
  clear hK K
  (try simp only [Act.put, List.setIfInBounds_toArray, List.set_cons_zero, List.set_cons_succ])
  refine wpAnyH_take (i := 7) (oi := ?_) (v := ?_) ?hib7 (by kernel_rfl) ?hfb7 ?hrb7 ?hQb7 ?hyb7 (by assumption) ?restb7
  case hib7 => (simp only [List.getElem?_toArray, List.getElem?_cons_zero, List.getElem?_cons_succ]; rfl)
  case hfb7 => kernel_rfl
  case hrb7 => kernel_rfl
  case hyb7 => (refine Or.inl ⟨by rfl, ?_⟩; intro wS hSw; (try dsimp only at hSw); go_simp; (try with_reducible rfl))
  case hQb7 => exact fun _ _ _ h => h
  (try simp only [Act.put, List.setIfInBounds_toArray, List.set_cons_zero, List.set_cons_succ])
  refine wpAnyH_take (i := 8) (oi := ?_) (v := ?_) ?hib8 (by kernel_rfl) ?hfb8 ?hrb8 ?hQb8 ?hyb8 (by assumption) ?restb8
  case hib8 => (simp only [List.getElem?_toArray, List.getElem?_cons_zero, List.getElem?_cons_succ]; rfl)
  case hfb8 => kernel_rfl
  case hrb8 => kernel_rfl
  case hyb8 => (refine Or.inl ⟨by rfl, ?_⟩; intro wS hSw; (try dsimp only at hSw); go_simp; (try with_reducible rfl))
  case hQb8 => exact fun _ _ _ h => h
  (try simp only [Act.put, List.setIfInBounds_toArray, List.set_cons_zero, List.set_cons_succ])
  refine wpAnyH_take (i := 9) (oi := ?_) (v := ?_) ?hib9 (by kernel_rfl) ?hfb9 ?hrb9 ?hQb9 ?hyb9 (by assumption) ?restb9
  case hib9 => (simp only [List.getElem?_toArray, List.getElem?_cons_zero, List.getElem?_cons_succ]; rfl)
  case hfb9 => kernel_rfl
  case hrb9 => kernel_rfl
  case hyb9 => (refine Or.inl ⟨by rfl, ?_⟩; intro wS hSw; (try dsimp only at hSw); go_simp; (try with_reducible rfl))
  case hQb9 => exact fun _ _ _ h => h
  (try simp only [Act.put, List.setIfInBounds_toArray, List.set_cons_zero, List.set_cons_succ])
  refine wpAnyH_ready (rs := [10]) (by kernel_rfl) (by simp) ?_
  refine AllReadyH.cons (o := ?_) ?hob10 ?hstb10 AllReadyH.nil
  case hob10 => (simp only [List.getElem?_toArray, List.getElem?_cons_zero, List.getElem?_cons_succ]; rfl)
  intro K hK
  go_simp
  go_at_call 19; refine (int_ref_any _ _).mono ?_; rintro e w9 ⟨rfl, hb⟩; have ha9 := af_step ha8 hb; clear hb
  go_wp2_with fail
  refine hK.out _ _ ?hsb10 (fun hHeld => ?_)
  case hsb10 => exact ha9
  clear hK K
  (try simp only [Act.put, List.setIfInBounds_toArray, List.set_cons_zero, List.set_cons_succ])
  refine wpAnyH_ready (rs := [11]) (by kernel_rfl) (by simp) ?_
  refine AllReadyH.cons (o := ?_) ?hob11 ?hstb11 AllReadyH.nil
  case hob11 => (simp only [List.getElem?_toArray, List.getElem?_cons_zero, List.getElem?_cons_succ]; rfl)
  intro K hK
  go_simp
  go_at_call 17; refine (float_ref_any _ _).mono ?_; rintro e w10 ⟨rfl, hb⟩; have ha10 := af_step ha9 hb; clear hb
  go_wp2_with fail
  refine hK.out _ _ ?hsb11 (fun hHeld => ?_)
  case hsb11 => exact ha10
  clear hK K
  (try simp only [Act.put, List.setIfInBounds_toArray, List.set_cons_zero, List.set_cons_succ])
  refine wpAnyH_ready (rs := [12]) (by kernel_rfl) (by simp) ?_
  refine AllReadyH.cons (o := ?_) ?hob12 ?hstb12 AllReadyH.nil
  case hob12 => (simp only [List.getElem?_toArray, List.getElem?_cons_zero, List.getElem?_cons_succ]; rfl)
  intro K hK
  go_simp
  have ha11 := af_step ha10 (bel_alloc (Below.refl w10.heap.size w10) (.cells #[.int .i64 1, .int .i64 0, .float .f64 0, .string ⟨#[]⟩, .slice none 0 0, .int .i64 2, .int .i64 0, .float .f64 (Flo.canon 0), .string ⟨#[]⟩, .slice none 0 0] 27)); have hrow := row_alloc w10 #[.int .i64 1, .int .i64 0, .float .f64 0, .string ⟨#[]⟩, .slice none 0 0, .int .i64 2, .int .i64 0, .float .f64 (Flo.canon 0), .string ⟨#[]⟩, .slice none 0 0] 27
  go_wp2_with fail
  refine hK.out _ _ ?hsb12 (fun hHeld => ?_)
  case hsb12 => exact ha11
  clear hK K
  (try simp only [Act.put, List.setIfInBounds_toArray, List.set_cons_zero, List.set_cons_succ])
  refine wpAnyH_ready (rs := [13]) (by kernel_rfl) (by simp) ?_
  refine AllReadyH.cons (o := ?_) ?hob13 ?hstb13 AllReadyH.nil
  case hob13 => (simp only [List.getElem?_toArray, List.getElem?_cons_zero, List.getElem?_cons_succ]; rfl)
  intro K hK
  go_simp
  go_at_call 18; refine (list_ref_any _ _ _ _).mono ?_; rintro e w11 ⟨rfl, hb⟩; have ha12 := af_step ha11 hb; have hrow2 := row_step hrow hb; clear hb hrow
  go_wp2_with fail
  refine hK.out _ _ ?hsb13 (fun hHeld => ?_)
  case hsb13 => exact ha12
  clear hK K
  (try simp only [Act.put, List.setIfInBounds_toArray, List.set_cons_zero, List.set_cons_succ])
  refine wpAnyH_ready (rs := [14]) (by kernel_rfl) (by simp) ?_
  refine AllReadyH.cons (o := ?_) ?hob14 ?hstb14 AllReadyH.nil
  case hob14 => (simp only [List.getElem?_toArray, List.getElem?_cons_zero, List.getElem?_cons_succ]; rfl)
  intro K hK
  go_simp
  go_at_call 13; refine (same_any 2 _ _ (cntS 0 0 0) _ ha12.2.2.2.2.2.2.2.2.2.2.2.1 (repS_rep _ _ _ (two_new (fun _ => True) _ 0 w10.heap.size 1 0 0 ⟨#[]⟩ (by decide) (by decide) (by decide) (by decide) 2 0 0 ⟨#[]⟩ (by decide) (by decide) (by decide) (by decide) trivial (by rw [show Flo.canon 0 = 0 by decide +kernel] at hrow2; exact hrow2)))).mono ?_; rintro e w12 ⟨rfl, hb⟩; have ha13 := af_step ha12 hb; clear hb
  go_wp2_with fail
  refine hK.out _ _ ?hsb14 (fun hHeld => ?_)
  case hsb14 => exact ha13
  clear hK K
  (try simp only [Act.put, List.setIfInBounds_toArray, List.set_cons_zero, List.set_cons_succ])
  refine wpAnyH_take (i := 15) (oi := ?_) (v := ?_) ?hib15 (by kernel_rfl) ?hfb15 ?hrb15 ?hQb15 ?hyb15 (by assumption) ?restb15
  case hib15 => (simp only [List.getElem?_toArray, List.getElem?_cons_zero, List.getElem?_cons_succ]; rfl)
  case hfb15 => kernel_rfl
  case hrb15 => kernel_rfl
  case hyb15 => (refine Or.inl ⟨by rfl, ?_⟩; intro wS hSw; (try dsimp only at hSw); go_simp; (try with_reducible rfl))
  case hQb15 => exact fun _ _ _ h => h
  (try simp only [Act.put, List.setIfInBounds_toArray, List.set_cons_zero, List.set_cons_succ])
  refine wpAnyH_take (i := 16) (oi := ?_) (v := ?_) ?hib16 (by kernel_rfl) ?hfb16 ?hrb16 ?hQb16 ?hyb16 (by assumption) ?restb16
  case hib16 => (simp only [List.getElem?_toArray, List.getElem?_cons_zero, List.getElem?_cons_succ]; rfl)
  case hfb16 => kernel_rfl
  case hrb16 => kernel_rfl
  case hyb16 => (refine Or.inl ⟨by rfl, ?_⟩; intro wS hSw; (try dsimp only at hSw); go_simp; (try with_reducible rfl))
  case hQb16 => exact fun _ _ _ h => h
  (try simp only [Act.put, List.setIfInBounds_toArray, List.set_cons_zero, List.set_cons_succ])
  refine wpAnyH_done (by kernel_rfl) ?_ _
  have HF := Lib.hid ha13
  go_wp2
  go_ret
  exact ⟨rfl, HF.out.2.2.2.2.2.2.2.2.2.2.1⟩
end Num
end Go.Proofs.Ytmhogdigkdcnfaa
