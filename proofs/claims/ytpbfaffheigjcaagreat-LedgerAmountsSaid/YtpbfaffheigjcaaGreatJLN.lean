/-
  The reference: Do of a ledger, its roads.
-/
import Derived.Test.YtpbfaffheigjcaaGreatJMI
import Derived.Test.YtpbfaffheigjcaaGreatJp20YY
import Derived.Test.YtpbfaffheigjcaaGreatJp13KV
import Derived.Test.YtpbfaffheigjcaaGreatJYL
import Derived.Test.YtpbfaffheigjcaaGreatJp17YI
namespace Go.Proofs.YtpbfaffheigjcaaGreat
open Go.RowKit
namespace Num
open Ints
set_option linter.unusedSimpArgs false
set_option linter.unusedVariables false
/-- What the reference's Do tells. -/
def RDo (w : World) (T : VT 3) (U : VT 1) (z : Int) (e : Ending) (w' : World) : Prop := ∃ t u, e = .returned (.tuple #[t, u, .int .i64 z]) ∧ Below w.heap.size w w' ∧ ∀ y, Stay w.heap.size w' y → Rep y 3 t T ∧ Rep y 1 u U
theorem stay_set2 {B : Nat} {x y : World} (h : Stay B x y) {g : Nat} (hg : g < B ∨ x.heap.size ≤ g) (u0 u1 u2 u3 u4 : Value) : Stay B x (set5 y g 0 u0 u1 u2 u3 u4) := fun b h1 h2 => (set5_other (by omega)).trans (h b h1 h2)
theorem repS_one (S : Nat → Prop) (w : World) (n : Nat) : One5 (fun v (X : VT n) => RepS S w n v X) := fun u0 u1 u2 u3 u4 X h => rep_one w n _ _ _ _ _ _ (repS_rep _ _ _ h)
theorem repL_acc1 {w w' : World} {n : Nat} {p : Option Addr} {l c : Nat} {L : List (VT n)} (hb : Below w.heap.size w w') (h : RepL w (Rep w n) p l c L) : RepL w' (Rep w' n) p l c L := repL_keep hb (fun v T hv => rep_keep hb _ _ _ hv) h
theorem repS_listW {B E : Nat} {w z : World} {n : Nat} {K I : Int} {F : Nat} {Z : ByteArray} {q : Option Addr} {m d : Nat} {T : VT (n + 1)} (h : RepS (fun b => B ≤ b ∧ b < E) w (n + 1) (.agg #[.int .i64 K, .int .i64 I, .float .f64 F, .string Z, .slice q m d]) T) (hst : ∀ b, B ≤ b → b < E → z.heap[b]? = w.heap[b]?) : RepL z (fun v X => RepS (fun b => B ≤ b ∧ b < E) w n v X) q m d T.2.2.2.2 := by
  obtain ⟨p, l, c, hv, _, _, _, _, h1, h2, h3, h4⟩ := h
  injection hv with hv
  simp only [Array.mk.injEq, List.cons.injEq, and_true] at hv
  obtain ⟨_, _, _, _, e5⟩ := hv
  injection e5 with e6 e7 e8
  subst e6 e7 e8
  refine ⟨h1, h2, h3, fun h0 => ?_⟩
  obtain ⟨b, off, hp, hS, _, g, hi⟩ := h4 h0
  have he := hst b hS.1 hS.2
  refine ⟨b, off, hp, fun i hi' => ?_⟩
  obtain ⟨v0, v1, v2, v3, v4, c0, c1, c2, c3, c4, hr⟩ := hi i hi'
  exact ⟨v0, v1, v2, v3, v4, cell_block he c0, cell_block he c1, cell_block he c2, cell_block he c3, cell_block he c4, repS_mono (fun b hb => hb.1) _ _ _ hr⟩
set_option maxRecDepth 100000 in
set_option maxHeartbeats 8000000 in
theorem rdo_run (p : Option Addr) (l c : Nat) (ms : ByteArray) (pl : Option Addr) (ll cl : Nat) (w : World) (HR : Hid (∀ W, Below w.heap.size w W → Calls Tryz.prog 17 #[.string { data := #[108, 101, 100, 103, 101, 114] }, .agg #[.int .i64 4, .int .i64 0, .float .f64 0, .string ⟨#[]⟩, .slice p l c]] W fun e w' => e = .returned (.bool true) ∧ Below W.heap.size W w'))
    (HK : Hid (∀ W, Below w.heap.size w W → Calls Tryz.prog 31 #[.string { data := #[108, 101, 100, 103, 101, 114] }, .string ms, .slice pl ll cl] W fun e w' => e = .returned (.int .i64 0) ∧ Below W.heap.size W w'))
    (ES : List (ByteArray × VT 1)) (HSR : Hid (Rep w 3 (.agg #[.int .i64 4, .int .i64 0, .float .f64 0, .string ⟨#[]⟩, .slice p l c]) (tableT 0 ES))) (hcl : cleanT 3 (tableT 0 ES) = tableT 0 ES) (hgr : greatP 3 0 (tableT 0 ES) = false) (NL : List (VT 1)) (HNL : Hid (RepL w (Rep w 1) pl ll cl NL)) (hgn : ∀ x ∈ NL, greatP 1 0 x = false) (hcn : NL.map (cleanT 1) = NL) (hll : ll ≤ 1000)
    (TT : VT 3) (UU : VT 1) (HLG : Hid (∀ (W : World) (R : Value → VT 2 → Prop) (q : Option Addr) (m d : Nat) (pa : Option Addr) (la ca : Nat), One5 R → RepL W R q m d (ES.map (pairE 0)) → (∀ W', Below W.heap.size W W' → ∀ v X, R v X → Rep W' 2 v X) → RepL W (Rep W 1) pa la ca NL → Calls Tryz.prog 38 #[.agg #[.int .i64 4, .int .i64 0, .float .f64 0, .string ⟨#[]⟩, .slice q m d], .string ms, .slice pa la ca] W fun e w' => RLQ W R q m d (ES.map (pairE 0)) TT UU 0 e w')) :
    Calls Tryz.prog 13 #[.string { data := #[108, 101, 100, 103, 101, 114] }, .agg #[.int .i64 4, .int .i64 0, .float .f64 0, .string ⟨#[]⟩, .slice p l c], .string ms, .slice pl ll cl] w fun e w' => RDo w TT UU 0 e w' := by
  have TR1 := Lib.hid (show (fun z0 : World => ZL z0 w.heap.size p l c ∧ Zz z0 (w.heap.size + 1) ∧ Zz z0 (w.heap.size + 1 + 1) ∧ Below w.heap.size w z0) (((w.alloc (.cells #[.int .i64 4, .int .i64 0, .float .f64 0, .string ⟨#[]⟩, .slice p l c] 27)).alloc (.cells #[.int .i64 0, .int .i64 0, .float .f64 0, .string ⟨#[]⟩, .slice none 0 0] 27)).alloc (.cells #[.int .i64 0, .int .i64 0, .float .f64 0, .string ⟨#[]⟩, .slice none 0 0] 27)) from ⟨row_alloc_step (row_alloc_step (row_alloc w #[.int .i64 4, .int .i64 0, .float .f64 0, .string ⟨#[]⟩, .slice p l c] 27) _) _, (by have h := row_alloc_step (row_alloc (w.alloc (.cells #[.int .i64 4, .int .i64 0, .float .f64 0, .string ⟨#[]⟩, .slice p l c] 27)) #[.int .i64 0, .int .i64 0, .float .f64 0, .string ⟨#[]⟩, .slice none 0 0] 27) (.cells #[.int .i64 0, .int .i64 0, .float .f64 0, .string ⟨#[]⟩, .slice none 0 0] 27); simp only [World.size_alloc] at h; exact h), (by have h := row_alloc ((w.alloc (.cells #[.int .i64 4, .int .i64 0, .float .f64 0, .string ⟨#[]⟩, .slice p l c] 27)).alloc (.cells #[.int .i64 0, .int .i64 0, .float .f64 0, .string ⟨#[]⟩, .slice none 0 0] 27)) #[.int .i64 0, .int .i64 0, .float .f64 0, .string ⟨#[]⟩, .slice none 0 0] 27; simp only [World.size_alloc] at h; exact h), bel_alloc (bel_alloc (bel_alloc (Below.refl w.heap.size w) _) _) _⟩)
  have HCL := Lib.hid hcl
  have HGR := Lib.hid hgr
  have HGN := Lib.hid hgn
  have HCN := Lib.hid hcn
  clear hcl hgr hgn hcn
  go_enter Tryz.func13, Tryz.ntmps13
  go_wp2_with fail
  go_at_call 17; refine (HR.out _ TR1.out.2.2.2).mono ?_; rintro e w1 ⟨rfl, hbw1⟩
  have TR2 := Lib.hid (And.intro (row_step TR1.out.1 hbw1) (And.intro (row_step TR1.out.2.1 hbw1) (And.intro (row_step TR1.out.2.2.1 hbw1) (bel_step TR1.out.2.2.2 hbw1))))
  clear TR1
  clear hbw1
  go_wp2_with fail
  go_at_call 31; refine (HK.out _ TR2.out.2.2.2).mono ?_; rintro e w2 ⟨rfl, hbw2⟩
  have TR3 := Lib.hid (And.intro (row_step TR2.out.1 hbw2) (And.intro (row_step TR2.out.2.1 hbw2) (And.intro (row_step TR2.out.2.2.1 hbw2) (bel_step TR2.out.2.2.2 hbw2))))
  clear TR2
  clear hbw2
  have c0_0 := row_cell TR3.out.1 0
  have c0_1 := row_cell TR3.out.1 1
  have c0_2 := row_cell TR3.out.1 2
  have c0_3 := row_cell TR3.out.1 3
  have c0_4 := row_cell TR3.out.1 4
  have c0f := row_frz TR3.out.1
  have c0l := row_lt TR3.out.1
  have hcB : w.heap.size ≤ w2.heap.size := TR3.out.2.2.2.size
  have hcB0 : w.heap.size < w2.heap.size := row_lt TR3.out.1
  have hcB1 : w.heap.size + 1 < w2.heap.size := row_lt TR3.out.2.1
  have hcB2 : w.heap.size + 1 + 1 < w2.heap.size := row_lt TR3.out.2.2.1
  go_wp2_with fail
  go_at_call 32; refine (clean_anyP 3 0 _ (tableT 0 ES) _ HGR.out (rep_keep TR3.out.2.2.2 _ _ _ HSR.out)).mono ?_; rintro e wC ⟨vc, rfl, hbwC, hrep⟩
  have TR4 := Lib.hid (And.intro (row_step TR3.out.1 hbwC) (And.intro (row_step TR3.out.2.1 hbwC) (And.intro (row_step TR3.out.2.2.1 hbwC) (bel_step TR3.out.2.2.2 hbwC))))
  clear TR3
  obtain ⟨Kc, Ic, Fc, Sc, qc, mc, dc, rfl, _⟩ := repS_shape hrep
  rw [HCL.out] at hrep
  obtain ⟨rfl, rfl, rfl, rfl⟩ := led_box hrep
  have TR5 := Lib.hid (show ZL wC w.heap.size p l c ∧ Zz wC (w.heap.size + 1) ∧ Zz wC (w.heap.size + 1 + 1) ∧ (Stay w2.heap.size wC wC ∧ wC.heap.size ≤ wC.heap.size) ∧ Below w.heap.size w wC from ⟨TR4.out.1, TR4.out.2.1, TR4.out.2.2.1, ⟨stay_refl _ _, Nat.le_refl _⟩, TR4.out.2.2.2⟩)
  clear TR4
  have HCC := Lib.hid (repS_lt _ _ _ hrep)
  clear hrep
  clear hbwC
  clear c0_0 c0_1 c0_2 c0_3 c0_4 c0f c0l
  have c0_0 := row_cell TR5.out.1 0
  have c0_1 := row_cell TR5.out.1 1
  have c0_2 := row_cell TR5.out.1 2
  have c0_3 := row_cell TR5.out.1 3
  have c0_4 := row_cell TR5.out.1 4
  have c0f := row_frz TR5.out.1
  have c0l := row_lt TR5.out.1
  go_wp2_with fail
  have TR6 := Lib.hid (show (fun z0 : World => ZL z0 w.heap.size qc mc dc ∧ Zz z0 (w.heap.size + 1) ∧ Zz z0 (w.heap.size + 1 + 1) ∧ (Stay w2.heap.size wC z0 ∧ wC.heap.size ≤ z0.heap.size) ∧ Below w.heap.size w z0) (((((wC.setCell ⟨w.heap.size, 0, none⟩ (.int .i64 4)).setCell ⟨w.heap.size, 1, none⟩ (.int .i64 0)).setCell ⟨w.heap.size, 2, none⟩ (.float .f64 0)).setCell ⟨w.heap.size, 3, none⟩ (.string ⟨#[]⟩)).setCell ⟨w.heap.size, 4, none⟩ (.slice qc mc dc)) from ⟨s5r TR5.out.1, s5o TR5.out.2.1 (by omega), s5o TR5.out.2.2.1 (by omega), ⟨stay_set2 TR5.out.2.2.2.1.1 (by omega) (.int .i64 4) (.int .i64 0) (.float .f64 0) (.string ⟨#[]⟩) (.slice qc mc dc), by show _ ≤ (set5 wC (w.heap.size) 0 (.int .i64 4) (.int .i64 0) (.float .f64 0) (.string ⟨#[]⟩) (.slice qc mc dc)).heap.size; rw [set5_size]; exact TR5.out.2.2.2.1.2⟩, s5b TR5.out.2.2.2.2 (by omega)⟩)
  clear TR5
  clear c0_0 c0_1 c0_2 c0_3 c0_4 c0f c0l
  go_at_call 33; refine (cleans_anyP 1 0 (clean_anyP 1) _ pl ll cl NL HGN.out (repL_acc1 TR6.out.2.2.2.2 HNL.out) (by omega)).mono ?_; rintro e wL ⟨pa, la, ca, rfl, hbwL, hrep⟩
  have TR7 := Lib.hid (show ZL wL w.heap.size qc mc dc ∧ Zz wL (w.heap.size + 1) ∧ Zz wL (w.heap.size + 1 + 1) ∧ (Stay w2.heap.size wC wL ∧ wC.heap.size ≤ wL.heap.size) ∧ Below w.heap.size w wL from ⟨row_step TR6.out.1 hbwL, row_step TR6.out.2.1 hbwL, row_step TR6.out.2.2.1 hbwL, ⟨stay_trans TR6.out.2.2.2.1.1 TR6.out.2.2.2.1.2 hbwL, Nat.le_trans TR6.out.2.2.2.1.2 hbwL.size⟩, bel_step TR6.out.2.2.2.2 hbwL⟩)
  clear TR6
  rw [HCN.out] at hrep
  have HNA := Lib.hid (repLS_rep hrep)
  clear hrep
  clear hbwL
  have c0_0 := row_cell TR7.out.1 0
  have c0_1 := row_cell TR7.out.1 1
  have c0_2 := row_cell TR7.out.1 2
  have c0_3 := row_cell TR7.out.1 3
  have c0_4 := row_cell TR7.out.1 4
  have c0f := row_frz TR7.out.1
  have c0l := row_lt TR7.out.1
  go_wp2_with fail
  clear c0_0 c0_1 c0_2 c0_3 c0_4 c0f c0l
  have hLb : wC.heap.size ≤ wL.heap.size := TR7.out.2.2.2.1.2
  have hLb0 : w.heap.size < wL.heap.size := row_lt TR7.out.1
  have hLb1 : w.heap.size + 1 < wL.heap.size := row_lt TR7.out.2.1
  have hLb2 : w.heap.size + 1 + 1 < wL.heap.size := row_lt TR7.out.2.2.1
  have TR8 := Lib.hid (show (fun z0 : World => ZL z0 w.heap.size qc mc dc ∧ Zz z0 (w.heap.size + 1) ∧ Zz z0 (w.heap.size + 1 + 1) ∧ Zz z0 wL.heap.size ∧ (Stay w2.heap.size wC z0 ∧ wC.heap.size ≤ z0.heap.size) ∧ Below w.heap.size w z0) (wL.alloc (.cells #[.int .i64 0, .int .i64 0, .float .f64 0, .string ⟨#[]⟩, .slice none 0 0] 27)) from ⟨(row_alloc_step (TR7.out.1) _), (row_alloc_step (TR7.out.2.1) _), (row_alloc_step (TR7.out.2.2.1) _), (by have h := row_alloc wL #[.int .i64 0, .int .i64 0, .float .f64 0, .string ⟨#[]⟩, .slice none 0 0] 27; (try simp only [World.size_alloc, World.size_drew, World.size_setCell] at h); exact h), ⟨stay_trans TR7.out.2.2.2.1.1 TR7.out.2.2.2.1.2 (bel_alloc (Below.refl _ _) _), Nat.le_trans TR7.out.2.2.2.1.2 (bel_alloc (Below.refl _ _) _).size⟩, bel_step TR7.out.2.2.2.2 (bel_alloc (Below.refl _ _) _)⟩)
  have TR9 := Lib.hid (show (fun z0 : World => ZL z0 w.heap.size qc mc dc ∧ Zz z0 (w.heap.size + 1) ∧ Zz z0 (w.heap.size + 1 + 1) ∧ Zz z0 wL.heap.size ∧ Zz z0 (wL.heap.size + 1) ∧ (Stay w2.heap.size wC z0 ∧ wC.heap.size ≤ z0.heap.size) ∧ Below w.heap.size w z0) ((wL.alloc (.cells #[.int .i64 0, .int .i64 0, .float .f64 0, .string ⟨#[]⟩, .slice none 0 0] 27)).alloc (.cells #[.int .i64 0, .int .i64 0, .float .f64 0, .string ⟨#[]⟩, .slice none 0 0] 27)) from ⟨(row_alloc_step (row_alloc_step (TR7.out.1) _) _), (row_alloc_step (row_alloc_step (TR7.out.2.1) _) _), (row_alloc_step (row_alloc_step (TR7.out.2.2.1) _) _), (by have h := row_alloc_step (row_alloc wL #[.int .i64 0, .int .i64 0, .float .f64 0, .string ⟨#[]⟩, .slice none 0 0] 27) (.cells #[.int .i64 0, .int .i64 0, .float .f64 0, .string ⟨#[]⟩, .slice none 0 0] 27); (try simp only [World.size_alloc, World.size_drew, World.size_setCell] at h); exact h), (by have h := row_alloc (wL.alloc (.cells #[.int .i64 0, .int .i64 0, .float .f64 0, .string ⟨#[]⟩, .slice none 0 0] 27)) #[.int .i64 0, .int .i64 0, .float .f64 0, .string ⟨#[]⟩, .slice none 0 0] 27; (try simp only [World.size_alloc, World.size_drew, World.size_setCell] at h); exact h), ⟨stay_trans TR7.out.2.2.2.1.1 TR7.out.2.2.2.1.2 (bel_alloc (bel_alloc (Below.refl _ _) _) _), Nat.le_trans TR7.out.2.2.2.1.2 (bel_alloc (bel_alloc (Below.refl _ _) _) _).size⟩, bel_step TR7.out.2.2.2.2 (bel_alloc (bel_alloc (Below.refl _ _) _) _)⟩)
  have hzl : ((wL.alloc (.cells #[.int .i64 0, .int .i64 0, .float .f64 0, .string ⟨#[]⟩, .slice none 0 0] 27)).alloc (.cells #[.int .i64 0, .int .i64 0, .float .f64 0, .string ⟨#[]⟩, .slice none 0 0] 27)).heap.size = wL.heap.size + 1 + 1 := by simp only [World.size_alloc]
  have hst0 := TR9.out.2.2.2.2.2.1.1
  have hRW : ∀ W, (∀ b, w2.heap.size ≤ b → b < wC.heap.size → W.heap[b]? = wC.heap[b]?) → ∀ v X, (fun v (X : VT 2) => RepS (fun b => w2.heap.size ≤ b ∧ b < wC.heap.size) wC 2 v X) v X → Rep W 2 v X := fun W hW v X hv => repS_rep _ _ _ (repS_keep (fun b hb => hW b hb.1 hb.2) _ _ _ hv)
  have HRW := Lib.hid hRW
  clear hRW
  have HLL := Lib.hid (show RepL ((wL.alloc (.cells #[.int .i64 0, .int .i64 0, .float .f64 0, .string ⟨#[]⟩, .slice none 0 0] 27)).alloc (.cells #[.int .i64 0, .int .i64 0, .float .f64 0, .string ⟨#[]⟩, .slice none 0 0] 27)) (fun v (X : VT 2) => RepS (fun b => w2.heap.size ≤ b ∧ b < wC.heap.size) wC 2 v X) qc mc dc (ES.map (pairE 0)) from repS_listW HCC.out hst0)
  clear hst0
  go_at_call 38; refine (HLG.out ((wL.alloc (.cells #[.int .i64 0, .int .i64 0, .float .f64 0, .string ⟨#[]⟩, .slice none 0 0] 27)).alloc (.cells #[.int .i64 0, .int .i64 0, .float .f64 0, .string ⟨#[]⟩, .slice none 0 0] 27)) (fun v (X : VT 2) => RepS (fun b => w2.heap.size ≤ b ∧ b < wC.heap.size) wC 2 v X) qc mc dc pa la ca (repS_one _ _ _) HLL.out (fun W' hb v X hv => HRW.out W' (fun b h1 h2 => (hb.block b (Nat.lt_of_lt_of_le h2 (by rw [hzl]; omega))).trans (TR9.out.2.2.2.2.2.1.1 b h1 h2)) v X hv) (repL_acc1 (bel_alloc (bel_alloc (Below.refl _ _) _) _) HNA.out)).mono ?_; rintro e wD ⟨tt, uu, rfl, hbwD, ht, hu⟩
  have TR10 := Lib.hid (show ZL wD w.heap.size qc mc dc ∧ Zz wD (w.heap.size + 1) ∧ Zz wD (w.heap.size + 1 + 1) ∧ Zz wD wL.heap.size ∧ Zz wD (wL.heap.size + 1) ∧ (Stay w2.heap.size wC wD ∧ wC.heap.size ≤ wD.heap.size) ∧ Below w.heap.size w wD from ⟨row_step TR9.out.1 hbwD, row_step TR9.out.2.1 hbwD, row_step TR9.out.2.2.1 hbwD, row_step TR9.out.2.2.2.1 hbwD, row_step TR9.out.2.2.2.2.1 hbwD, ⟨stay_trans TR9.out.2.2.2.2.2.1.1 TR9.out.2.2.2.2.2.1.2 hbwD, Nat.le_trans TR9.out.2.2.2.2.2.1.2 hbwD.size⟩, bel_step TR9.out.2.2.2.2.2.2 hbwD⟩)
  clear TR9
  obtain ⟨Kt, It, Ft, St, qt, mt, dt, rfl, _⟩ := rep_shape (ht wD (repS_listW HCC.out TR10.out.2.2.2.2.2.1.1) (HRW.out _ TR10.out.2.2.2.2.2.1.1) (stay_refl _ _))
  obtain ⟨Ku, Iu, Fu, Su, qu, mu, du, rfl, _⟩ := rep_shape (hu wD)
  have TR11 := Lib.hid (show ZL wD w.heap.size qc mc dc ∧ Zz wD (w.heap.size + 1) ∧ Zz wD (w.heap.size + 1 + 1) ∧ Zz wD wL.heap.size ∧ Zz wD (wL.heap.size + 1) ∧ (Stay w2.heap.size wC wD ∧ wC.heap.size ≤ wD.heap.size) ∧ (Stay ((wL.alloc (.cells #[.int .i64 0, .int .i64 0, .float .f64 0, .string ⟨#[]⟩, .slice none 0 0] 27)).alloc (.cells #[.int .i64 0, .int .i64 0, .float .f64 0, .string ⟨#[]⟩, .slice none 0 0] 27)).heap.size wD wD ∧ wD.heap.size ≤ wD.heap.size) ∧ Below w.heap.size w wD from ⟨TR10.out.1, TR10.out.2.1, TR10.out.2.2.1, TR10.out.2.2.2.1, TR10.out.2.2.2.2.1, TR10.out.2.2.2.2.2.1, ⟨stay_refl _ _, Nat.le_refl _⟩, TR10.out.2.2.2.2.2.2⟩)
  clear TR10
  have HT := Lib.hid ht
  have HU := Lib.hid hu
  clear ht hu
  clear hbwD
  have c3_0 := row_cell TR11.out.2.2.2.1 0
  have c3_1 := row_cell TR11.out.2.2.2.1 1
  have c3_2 := row_cell TR11.out.2.2.2.1 2
  have c3_3 := row_cell TR11.out.2.2.2.1 3
  have c3_4 := row_cell TR11.out.2.2.2.1 4
  have c3f := row_frz TR11.out.2.2.2.1
  have c3l := row_lt TR11.out.2.2.2.1
  have c4_0 := row_cell TR11.out.2.2.2.2.1 0
  have c4_1 := row_cell TR11.out.2.2.2.2.1 1
  have c4_2 := row_cell TR11.out.2.2.2.2.1 2
  have c4_3 := row_cell TR11.out.2.2.2.2.1 3
  have c4_4 := row_cell TR11.out.2.2.2.2.1 4
  have c4f := row_frz TR11.out.2.2.2.2.1
  have c4l := row_lt TR11.out.2.2.2.2.1
  go_upto_region 25 with fail
  have TR12 := Lib.hid (show (fun z0 : World => ZL z0 w.heap.size qc mc dc ∧ Zz z0 (w.heap.size + 1) ∧ Zz z0 (w.heap.size + 1 + 1) ∧ Zw z0 wL.heap.size (.int .i64 Kt) (.int .i64 It) (.float .f64 Ft) (.string St) (.slice qt mt dt) ∧ Zz z0 (wL.heap.size + 1) ∧ (Stay w2.heap.size wC z0 ∧ wC.heap.size ≤ z0.heap.size) ∧ (Stay ((wL.alloc (.cells #[.int .i64 0, .int .i64 0, .float .f64 0, .string ⟨#[]⟩, .slice none 0 0] 27)).alloc (.cells #[.int .i64 0, .int .i64 0, .float .f64 0, .string ⟨#[]⟩, .slice none 0 0] 27)).heap.size wD z0 ∧ wD.heap.size ≤ z0.heap.size) ∧ Below w.heap.size w z0) (((((wD.setCell ⟨wL.heap.size, 0, none⟩ (.int .i64 Kt)).setCell ⟨wL.heap.size, 1, none⟩ (.int .i64 It)).setCell ⟨wL.heap.size, 2, none⟩ (.float .f64 Ft)).setCell ⟨wL.heap.size, 3, none⟩ (.string St)).setCell ⟨wL.heap.size, 4, none⟩ (.slice qt mt dt)) from ⟨s5o TR11.out.1 (by omega), s5o TR11.out.2.1 (by omega), s5o TR11.out.2.2.1 (by omega), s5r TR11.out.2.2.2.1, s5o TR11.out.2.2.2.2.1 (by omega), ⟨stay_set2 TR11.out.2.2.2.2.2.1.1 (by omega) (.int .i64 Kt) (.int .i64 It) (.float .f64 Ft) (.string St) (.slice qt mt dt), by show _ ≤ (set5 wD (wL.heap.size) 0 (.int .i64 Kt) (.int .i64 It) (.float .f64 Ft) (.string St) (.slice qt mt dt)).heap.size; rw [set5_size]; exact TR11.out.2.2.2.2.2.1.2⟩, ⟨stay_set2 TR11.out.2.2.2.2.2.2.1.1 (by omega) (.int .i64 Kt) (.int .i64 It) (.float .f64 Ft) (.string St) (.slice qt mt dt), by show _ ≤ (set5 wD (wL.heap.size) 0 (.int .i64 Kt) (.int .i64 It) (.float .f64 Ft) (.string St) (.slice qt mt dt)).heap.size; rw [set5_size]; exact TR11.out.2.2.2.2.2.2.1.2⟩, s5b TR11.out.2.2.2.2.2.2.2 (by omega)⟩)
  clear TR11
  have TR13 := Lib.hid (show (fun z0 : World => ZL z0 w.heap.size qc mc dc ∧ Zz z0 (w.heap.size + 1) ∧ Zz z0 (w.heap.size + 1 + 1) ∧ Zw z0 wL.heap.size (.int .i64 Kt) (.int .i64 It) (.float .f64 Ft) (.string St) (.slice qt mt dt) ∧ Zw z0 (wL.heap.size + 1) (.int .i64 Ku) (.int .i64 Iu) (.float .f64 Fu) (.string Su) (.slice qu mu du) ∧ (Stay w2.heap.size wC z0 ∧ wC.heap.size ≤ z0.heap.size) ∧ (Stay ((wL.alloc (.cells #[.int .i64 0, .int .i64 0, .float .f64 0, .string ⟨#[]⟩, .slice none 0 0] 27)).alloc (.cells #[.int .i64 0, .int .i64 0, .float .f64 0, .string ⟨#[]⟩, .slice none 0 0] 27)).heap.size wD z0 ∧ wD.heap.size ≤ z0.heap.size) ∧ Below w.heap.size w z0) ((((((((((wD.setCell ⟨wL.heap.size, 0, none⟩ (.int .i64 Kt)).setCell ⟨wL.heap.size, 1, none⟩ (.int .i64 It)).setCell ⟨wL.heap.size, 2, none⟩ (.float .f64 Ft)).setCell ⟨wL.heap.size, 3, none⟩ (.string St)).setCell ⟨wL.heap.size, 4, none⟩ (.slice qt mt dt)).setCell ⟨wL.heap.size + 1, 0, none⟩ (.int .i64 Ku)).setCell ⟨wL.heap.size + 1, 1, none⟩ (.int .i64 Iu)).setCell ⟨wL.heap.size + 1, 2, none⟩ (.float .f64 Fu)).setCell ⟨wL.heap.size + 1, 3, none⟩ (.string Su)).setCell ⟨wL.heap.size + 1, 4, none⟩ (.slice qu mu du)) from ⟨s5o TR12.out.1 (by omega), s5o TR12.out.2.1 (by omega), s5o TR12.out.2.2.1 (by omega), s5o TR12.out.2.2.2.1 (by omega), s5r TR12.out.2.2.2.2.1, ⟨stay_set2 TR12.out.2.2.2.2.2.1.1 (by omega) (.int .i64 Ku) (.int .i64 Iu) (.float .f64 Fu) (.string Su) (.slice qu mu du), by show _ ≤ (set5 (((((wD.setCell ⟨wL.heap.size, 0, none⟩ (.int .i64 Kt)).setCell ⟨wL.heap.size, 1, none⟩ (.int .i64 It)).setCell ⟨wL.heap.size, 2, none⟩ (.float .f64 Ft)).setCell ⟨wL.heap.size, 3, none⟩ (.string St)).setCell ⟨wL.heap.size, 4, none⟩ (.slice qt mt dt)) (wL.heap.size + 1) 0 (.int .i64 Ku) (.int .i64 Iu) (.float .f64 Fu) (.string Su) (.slice qu mu du)).heap.size; rw [set5_size]; exact TR12.out.2.2.2.2.2.1.2⟩, ⟨stay_set2 TR12.out.2.2.2.2.2.2.1.1 (by omega) (.int .i64 Ku) (.int .i64 Iu) (.float .f64 Fu) (.string Su) (.slice qu mu du), by show _ ≤ (set5 (((((wD.setCell ⟨wL.heap.size, 0, none⟩ (.int .i64 Kt)).setCell ⟨wL.heap.size, 1, none⟩ (.int .i64 It)).setCell ⟨wL.heap.size, 2, none⟩ (.float .f64 Ft)).setCell ⟨wL.heap.size, 3, none⟩ (.string St)).setCell ⟨wL.heap.size, 4, none⟩ (.slice qt mt dt)) (wL.heap.size + 1) 0 (.int .i64 Ku) (.int .i64 Iu) (.float .f64 Fu) (.string Su) (.slice qu mu du)).heap.size; rw [set5_size]; exact TR12.out.2.2.2.2.2.2.1.2⟩, s5b TR12.out.2.2.2.2.2.2.2 (by omega)⟩)
  clear TR12
  clear c3_0 c3_1 c3_2 c3_3 c3_4 c4_0 c4_1 c4_2 c4_3 c4_4 c3f c3l c4f c4l
  revert TR13
  generalize ((((((((((wD.setCell ⟨wL.heap.size, 0, none⟩ (.int .i64 Kt)).setCell ⟨wL.heap.size, 1, none⟩ (.int .i64 It)).setCell ⟨wL.heap.size, 2, none⟩ (.float .f64 Ft)).setCell ⟨wL.heap.size, 3, none⟩ (.string St)).setCell ⟨wL.heap.size, 4, none⟩ (.slice qt mt dt)).setCell ⟨wL.heap.size + 1, 0, none⟩ (.int .i64 Ku)).setCell ⟨wL.heap.size + 1, 1, none⟩ (.int .i64 Iu)).setCell ⟨wL.heap.size + 1, 2, none⟩ (.float .f64 Fu)).setCell ⟨wL.heap.size + 1, 3, none⟩ (.string Su)).setCell ⟨wL.heap.size + 1, 4, none⟩ (.slice qu mu du)) = Wx
  intro TR13
  have TR14 := Lib.hid (show ZL Wx.drew w.heap.size qc mc dc ∧ Zz Wx.drew (w.heap.size + 1) ∧ Zz Wx.drew (w.heap.size + 1 + 1) ∧ Zw Wx.drew wL.heap.size (.int .i64 Kt) (.int .i64 It) (.float .f64 Ft) (.string St) (.slice qt mt dt) ∧ Zw Wx.drew (wL.heap.size + 1) (.int .i64 Ku) (.int .i64 Iu) (.float .f64 Fu) (.string Su) (.slice qu mu du) ∧ (Stay w2.heap.size wC Wx.drew ∧ wC.heap.size ≤ Wx.drew.heap.size) ∧ (Stay ((wL.alloc (.cells #[.int .i64 0, .int .i64 0, .float .f64 0, .string ⟨#[]⟩, .slice none 0 0] 27)).alloc (.cells #[.int .i64 0, .int .i64 0, .float .f64 0, .string ⟨#[]⟩, .slice none 0 0] 27)).heap.size wD Wx.drew ∧ wD.heap.size ≤ Wx.drew.heap.size) ∧ Below w.heap.size w Wx.drew from ⟨row_step TR13.out.1 (show Below Wx.heap.size Wx Wx.drew from Below.drew (Below.refl _ _)), row_step TR13.out.2.1 (show Below Wx.heap.size Wx Wx.drew from Below.drew (Below.refl _ _)), row_step TR13.out.2.2.1 (show Below Wx.heap.size Wx Wx.drew from Below.drew (Below.refl _ _)), row_step TR13.out.2.2.2.1 (show Below Wx.heap.size Wx Wx.drew from Below.drew (Below.refl _ _)), row_step TR13.out.2.2.2.2.1 (show Below Wx.heap.size Wx Wx.drew from Below.drew (Below.refl _ _)), ⟨stay_trans TR13.out.2.2.2.2.2.1.1 TR13.out.2.2.2.2.2.1.2 (show Below Wx.heap.size Wx Wx.drew from Below.drew (Below.refl _ _)), Nat.le_trans TR13.out.2.2.2.2.2.1.2 (show Below Wx.heap.size Wx Wx.drew from Below.drew (Below.refl _ _)).size⟩, ⟨stay_trans TR13.out.2.2.2.2.2.2.1.1 TR13.out.2.2.2.2.2.2.1.2 (show Below Wx.heap.size Wx Wx.drew from Below.drew (Below.refl _ _)), Nat.le_trans TR13.out.2.2.2.2.2.2.1.2 (show Below Wx.heap.size Wx Wx.drew from Below.drew (Below.refl _ _)).size⟩, bel_step TR13.out.2.2.2.2.2.2.2 (show Below Wx.heap.size Wx Wx.drew from Below.drew (Below.refl _ _))⟩)
  clear TR13
  refine wp_region_held_drew (S := (fun z => z.cell? ⟨wL.heap.size, 0, none⟩ = some (.int .i64 Kt) ∧ z.cell? ⟨wL.heap.size, 1, none⟩ = some (.int .i64 It) ∧ z.cell? ⟨wL.heap.size, 2, none⟩ = some (.float .f64 Ft) ∧ z.cell? ⟨wL.heap.size, 3, none⟩ = some (.string St) ∧ z.cell? ⟨wL.heap.size, 4, none⟩ = some (.slice qt mt dt) ∧ z.cell? ⟨wL.heap.size + 1, 0, none⟩ = some (.int .i64 Ku) ∧ z.cell? ⟨wL.heap.size + 1, 1, none⟩ = some (.int .i64 Iu) ∧ z.cell? ⟨wL.heap.size + 1, 2, none⟩ = some (.float .f64 Fu) ∧ z.cell? ⟨wL.heap.size + 1, 3, none⟩ = some (.string Su) ∧ z.cell? ⟨wL.heap.size + 1, 4, none⟩ = some (.slice qu mu du))) (by kernel_rfl) ?_ (fun hHeld => ?_)
  · exact ⟨row_cell TR14.out.2.2.2.1 0, row_cell TR14.out.2.2.2.1 1, row_cell TR14.out.2.2.2.1 2, row_cell TR14.out.2.2.2.1 3, row_cell TR14.out.2.2.2.1 4, row_cell TR14.out.2.2.2.2.1 0, row_cell TR14.out.2.2.2.2.1 1, row_cell TR14.out.2.2.2.2.1 2, row_cell TR14.out.2.2.2.2.1 3, row_cell TR14.out.2.2.2.2.1 4⟩
  revert TR14 hHeld
  generalize Wx.drew = Wd
  intro TR14 hHeld
  refine zt [0, 1] ?_
  iterate 2 (refine zt1 (fun _ _ d _ _ h => by cases d <;> exact h) (by simp only [lk0, lk1, lk2]; rfl) (by kernel_rfl) (by assumption) (by rfl) (fun wS hSw => by (try dsimp only at hSw); go_simp; (try with_reducible rfl)) ?_; (try simp only [Act.put, pk0, pk1, pk2]))
  refine zt0 ?_
  refine zr1 2 (by kernel_rfl) (by simp only [lk0, lk1, lk2]; rfl) (fun K hK => ?_)
  have b30 := row_cell TR14.out.2.1 0; have b31 := row_cell TR14.out.2.1 1; have b32 := row_cell TR14.out.2.1 2; have b33 := row_cell TR14.out.2.1 3; have b34 := row_cell TR14.out.2.1 4; have b3f := row_frz TR14.out.2.1; have b3l := row_lt TR14.out.2.1; go_simp
  have TR15 := Lib.hid (show (fun z0 : World => ZL z0 w.heap.size qc mc dc ∧ Zw z0 (w.heap.size + 1) (.int .i64 Kt) (.int .i64 It) (.float .f64 Ft) (.string St) (.slice qt mt dt) ∧ Zz z0 (w.heap.size + 1 + 1) ∧ Zw z0 wL.heap.size (.int .i64 Kt) (.int .i64 It) (.float .f64 Ft) (.string St) (.slice qt mt dt) ∧ Zw z0 (wL.heap.size + 1) (.int .i64 Ku) (.int .i64 Iu) (.float .f64 Fu) (.string Su) (.slice qu mu du) ∧ (Stay w2.heap.size wC z0 ∧ wC.heap.size ≤ z0.heap.size) ∧ (Stay ((wL.alloc (.cells #[.int .i64 0, .int .i64 0, .float .f64 0, .string ⟨#[]⟩, .slice none 0 0] 27)).alloc (.cells #[.int .i64 0, .int .i64 0, .float .f64 0, .string ⟨#[]⟩, .slice none 0 0] 27)).heap.size wD z0 ∧ wD.heap.size ≤ z0.heap.size) ∧ Below w.heap.size w z0) (((((Wd.setCell ⟨w.heap.size + 1, 0, none⟩ (.int .i64 Kt)).setCell ⟨w.heap.size + 1, 1, none⟩ (.int .i64 It)).setCell ⟨w.heap.size + 1, 2, none⟩ (.float .f64 Ft)).setCell ⟨w.heap.size + 1, 3, none⟩ (.string St)).setCell ⟨w.heap.size + 1, 4, none⟩ (.slice qt mt dt)) from ⟨s5o TR14.out.1 (by omega), s5r TR14.out.2.1, s5o TR14.out.2.2.1 (by omega), s5o TR14.out.2.2.2.1 (by omega), s5o TR14.out.2.2.2.2.1 (by omega), ⟨stay_set2 TR14.out.2.2.2.2.2.1.1 (by omega) (.int .i64 Kt) (.int .i64 It) (.float .f64 Ft) (.string St) (.slice qt mt dt), by show _ ≤ (set5 Wd (w.heap.size + 1) 0 (.int .i64 Kt) (.int .i64 It) (.float .f64 Ft) (.string St) (.slice qt mt dt)).heap.size; rw [set5_size]; exact TR14.out.2.2.2.2.2.1.2⟩, ⟨stay_set2 TR14.out.2.2.2.2.2.2.1.1 (by omega) (.int .i64 Kt) (.int .i64 It) (.float .f64 Ft) (.string St) (.slice qt mt dt), by show _ ≤ (set5 Wd (w.heap.size + 1) 0 (.int .i64 Kt) (.int .i64 It) (.float .f64 Ft) (.string St) (.slice qt mt dt)).heap.size; rw [set5_size]; exact TR14.out.2.2.2.2.2.2.1.2⟩, s5b TR14.out.2.2.2.2.2.2.2 (by omega)⟩)
  clear TR14
  clear b30 b31 b32 b33 b34 b3f b3l
  go_wp2_with fail
  refine hK.out _ _ ?hsv5_ (fun hHeld => ?_)
  case hsv5_ => exact ⟨row_cell TR15.out.2.2.2.1 0, row_cell TR15.out.2.2.2.1 1, row_cell TR15.out.2.2.2.1 2, row_cell TR15.out.2.2.2.1 3, row_cell TR15.out.2.2.2.1 4, row_cell TR15.out.2.2.2.2.1 0, row_cell TR15.out.2.2.2.2.1 1, row_cell TR15.out.2.2.2.2.1 2, row_cell TR15.out.2.2.2.2.1 3, row_cell TR15.out.2.2.2.2.1 4⟩
  clear hK K
  (try simp only [Act.put, pk0, pk1, pk2])
  refine zr1 3 (by kernel_rfl) (by simp only [lk0, lk1, lk2]; rfl) (fun K hK => ?_)
  have b30 := row_cell TR15.out.2.2.1 0; have b31 := row_cell TR15.out.2.2.1 1; have b32 := row_cell TR15.out.2.2.1 2; have b33 := row_cell TR15.out.2.2.1 3; have b34 := row_cell TR15.out.2.2.1 4; have b3f := row_frz TR15.out.2.2.1; have b3l := row_lt TR15.out.2.2.1; go_simp
  have TR16 := Lib.hid (show (fun z0 : World => ZL z0 w.heap.size qc mc dc ∧ Zw z0 (w.heap.size + 1) (.int .i64 Kt) (.int .i64 It) (.float .f64 Ft) (.string St) (.slice qt mt dt) ∧ Zw z0 (w.heap.size + 1 + 1) (.int .i64 Ku) (.int .i64 Iu) (.float .f64 Fu) (.string Su) (.slice qu mu du) ∧ Zw z0 wL.heap.size (.int .i64 Kt) (.int .i64 It) (.float .f64 Ft) (.string St) (.slice qt mt dt) ∧ Zw z0 (wL.heap.size + 1) (.int .i64 Ku) (.int .i64 Iu) (.float .f64 Fu) (.string Su) (.slice qu mu du) ∧ (Stay w2.heap.size wC z0 ∧ wC.heap.size ≤ z0.heap.size) ∧ (Stay ((wL.alloc (.cells #[.int .i64 0, .int .i64 0, .float .f64 0, .string ⟨#[]⟩, .slice none 0 0] 27)).alloc (.cells #[.int .i64 0, .int .i64 0, .float .f64 0, .string ⟨#[]⟩, .slice none 0 0] 27)).heap.size wD z0 ∧ wD.heap.size ≤ z0.heap.size) ∧ Below w.heap.size w z0) ((((((((((Wd.setCell ⟨w.heap.size + 1, 0, none⟩ (.int .i64 Kt)).setCell ⟨w.heap.size + 1, 1, none⟩ (.int .i64 It)).setCell ⟨w.heap.size + 1, 2, none⟩ (.float .f64 Ft)).setCell ⟨w.heap.size + 1, 3, none⟩ (.string St)).setCell ⟨w.heap.size + 1, 4, none⟩ (.slice qt mt dt)).setCell ⟨w.heap.size + 1 + 1, 0, none⟩ (.int .i64 Ku)).setCell ⟨w.heap.size + 1 + 1, 1, none⟩ (.int .i64 Iu)).setCell ⟨w.heap.size + 1 + 1, 2, none⟩ (.float .f64 Fu)).setCell ⟨w.heap.size + 1 + 1, 3, none⟩ (.string Su)).setCell ⟨w.heap.size + 1 + 1, 4, none⟩ (.slice qu mu du)) from ⟨s5o TR15.out.1 (by omega), s5o TR15.out.2.1 (by omega), s5r TR15.out.2.2.1, s5o TR15.out.2.2.2.1 (by omega), s5o TR15.out.2.2.2.2.1 (by omega), ⟨stay_set2 TR15.out.2.2.2.2.2.1.1 (by omega) (.int .i64 Ku) (.int .i64 Iu) (.float .f64 Fu) (.string Su) (.slice qu mu du), by show _ ≤ (set5 (((((Wd.setCell ⟨w.heap.size + 1, 0, none⟩ (.int .i64 Kt)).setCell ⟨w.heap.size + 1, 1, none⟩ (.int .i64 It)).setCell ⟨w.heap.size + 1, 2, none⟩ (.float .f64 Ft)).setCell ⟨w.heap.size + 1, 3, none⟩ (.string St)).setCell ⟨w.heap.size + 1, 4, none⟩ (.slice qt mt dt)) (w.heap.size + 1 + 1) 0 (.int .i64 Ku) (.int .i64 Iu) (.float .f64 Fu) (.string Su) (.slice qu mu du)).heap.size; rw [set5_size]; exact TR15.out.2.2.2.2.2.1.2⟩, ⟨stay_set2 TR15.out.2.2.2.2.2.2.1.1 (by omega) (.int .i64 Ku) (.int .i64 Iu) (.float .f64 Fu) (.string Su) (.slice qu mu du), by show _ ≤ (set5 (((((Wd.setCell ⟨w.heap.size + 1, 0, none⟩ (.int .i64 Kt)).setCell ⟨w.heap.size + 1, 1, none⟩ (.int .i64 It)).setCell ⟨w.heap.size + 1, 2, none⟩ (.float .f64 Ft)).setCell ⟨w.heap.size + 1, 3, none⟩ (.string St)).setCell ⟨w.heap.size + 1, 4, none⟩ (.slice qt mt dt)) (w.heap.size + 1 + 1) 0 (.int .i64 Ku) (.int .i64 Iu) (.float .f64 Fu) (.string Su) (.slice qu mu du)).heap.size; rw [set5_size]; exact TR15.out.2.2.2.2.2.2.1.2⟩, s5b TR15.out.2.2.2.2.2.2.2 (by omega)⟩)
  clear TR15
  clear b30 b31 b32 b33 b34 b3f b3l
  go_wp2_with fail
  refine hK.out _ _ ?hsv6_ (fun hHeld => ?_)
  case hsv6_ => exact ⟨row_cell TR16.out.2.2.2.1 0, row_cell TR16.out.2.2.2.1 1, row_cell TR16.out.2.2.2.1 2, row_cell TR16.out.2.2.2.1 3, row_cell TR16.out.2.2.2.1 4, row_cell TR16.out.2.2.2.2.1 0, row_cell TR16.out.2.2.2.2.1 1, row_cell TR16.out.2.2.2.2.1 2, row_cell TR16.out.2.2.2.2.1 3, row_cell TR16.out.2.2.2.2.1 4⟩
  clear hK K
  (try simp only [Act.put, pk0, pk1, pk2])
  refine zt [4] ?_
  refine zt1 (fun _ _ d _ _ h => by cases d <;> exact h) (by simp only [lk0, lk1, lk2]; rfl) (by kernel_rfl) (by assumption) (by rfl) (fun wS hSw => by (try dsimp only at hSw); go_simp; (try with_reducible rfl)) ?_; (try simp only [Act.put, pk0, pk1, pk2])
  refine zt0 ?_
  refine wpAnyH_done (by kernel_rfl) ?_ _
  revert TR16
  generalize ((((((((((Wd.setCell ⟨w.heap.size + 1, 0, none⟩ (.int .i64 Kt)).setCell ⟨w.heap.size + 1, 1, none⟩ (.int .i64 It)).setCell ⟨w.heap.size + 1, 2, none⟩ (.float .f64 Ft)).setCell ⟨w.heap.size + 1, 3, none⟩ (.string St)).setCell ⟨w.heap.size + 1, 4, none⟩ (.slice qt mt dt)).setCell ⟨w.heap.size + 1 + 1, 0, none⟩ (.int .i64 Ku)).setCell ⟨w.heap.size + 1 + 1, 1, none⟩ (.int .i64 Iu)).setCell ⟨w.heap.size + 1 + 1, 2, none⟩ (.float .f64 Fu)).setCell ⟨w.heap.size + 1 + 1, 3, none⟩ (.string Su)).setCell ⟨w.heap.size + 1 + 1, 4, none⟩ (.slice qu mu du)) = Wf
  intro TR16
  have c1_0 := row_cell TR16.out.2.1 0
  have c1_1 := row_cell TR16.out.2.1 1
  have c1_2 := row_cell TR16.out.2.1 2
  have c1_3 := row_cell TR16.out.2.1 3
  have c1_4 := row_cell TR16.out.2.1 4
  have c1f := row_frz TR16.out.2.1
  have c1l := row_lt TR16.out.2.1
  have c2_0 := row_cell TR16.out.2.2.1 0
  have c2_1 := row_cell TR16.out.2.2.1 1
  have c2_2 := row_cell TR16.out.2.2.1 2
  have c2_3 := row_cell TR16.out.2.2.1 3
  have c2_4 := row_cell TR16.out.2.2.1 4
  have c2f := row_frz TR16.out.2.2.1
  have c2l := row_lt TR16.out.2.2.1
  go_wp2
  refine bodyPost_ret (v := .tuple #[.agg #[.int .i64 Kt, .int .i64 It, .float .f64 Ft, .string St, .slice qt mt dt], .agg #[.int .i64 Ku, .int .i64 Iu, .float .f64 Fu, .string Su, .slice qu mu du], .int .i64 0]) (by simp [results, Tryz.results13, go_sem, c1_0, c1_1, c1_2, c1_3, c1_4, c2_0, c2_1, c2_2, c2_3, c2_4]) rfl ⟨_, _, rfl, TR16.out.2.2.2.2.2.2.2, fun y hy => ?_⟩
  have hy0 : Stay w2.heap.size wC y := fun b h1 h2 => (hy b (by omega) (Nat.lt_of_lt_of_le h2 TR16.out.2.2.2.2.2.1.2)).trans (TR16.out.2.2.2.2.2.1.1 b h1 h2)
  have hy1 : Stay ((wL.alloc (.cells #[.int .i64 0, .int .i64 0, .float .f64 0, .string ⟨#[]⟩, .slice none 0 0] 27)).alloc (.cells #[.int .i64 0, .int .i64 0, .float .f64 0, .string ⟨#[]⟩, .slice none 0 0] 27)).heap.size wD y := fun b h1 h2 => (hy b (by rw [hzl] at h1; omega) (Nat.lt_of_lt_of_le h2 TR16.out.2.2.2.2.2.2.1.2)).trans (TR16.out.2.2.2.2.2.2.1.1 b h1 h2)
  exact ⟨HT.out y (repS_listW HCC.out hy0) (HRW.out y hy0) hy1, HU.out y⟩
set_option maxRecDepth 100000 in
set_option maxHeartbeats 8000000 in
theorem rdo_bad (p : Option Addr) (l c : Nat) (ms : ByteArray) (pl : Option Addr) (ll cl : Nat) (w : World) (HR : Hid (∀ W, Below w.heap.size w W → Calls Tryz.prog 17 #[.string { data := #[108, 101, 100, 103, 101, 114] }, .agg #[.int .i64 4, .int .i64 0, .float .f64 0, .string ⟨#[]⟩, .slice p l c]] W fun e w' => e = .returned (.bool true) ∧ Below W.heap.size W w'))
    (HK : Hid (∀ W, Below w.heap.size w W → Calls Tryz.prog 31 #[.string { data := #[108, 101, 100, 103, 101, 114] }, .string ms, .slice pl ll cl] W fun e w' => e = .returned (.int .i64 0) ∧ Below W.heap.size W w'))
    (ES : List (ByteArray × VT 1)) (HSR : Hid (Rep w 3 (.agg #[.int .i64 4, .int .i64 0, .float .f64 0, .string ⟨#[]⟩, .slice p l c]) (tableT 0 ES))) (hcl : cleanT 3 (tableT 0 ES) = tableT 0 ES) (hgr : greatP 3 0 (tableT 0 ES) = false) (NL : List (VT 1)) (HNL : Hid (RepL w (Rep w 1) pl ll cl NL)) (hgn : ∀ x ∈ NL, greatP 1 0 x = false) (hcn : NL.map (cleanT 1) = NL) (hll : ll ≤ 1000)
    (TT : VT 3) (UU : VT 1) (z : Int) (HLG : Hid (∀ (W : World) (R : Value → VT 2 → Prop) (q : Option Addr) (m d : Nat) (pa : Option Addr) (la ca : Nat), One5 R → RepL W R q m d (ES.map (pairE 0)) → (∀ W', Below W.heap.size W W' → ∀ v X, R v X → Rep W' 2 v X) → RepL W (Rep W 1) pa la ca NL → Calls Tryz.prog 38 #[.agg #[.int .i64 4, .int .i64 0, .float .f64 0, .string ⟨#[]⟩, .slice q m d], .string ms, .slice pa la ca] W fun e w' => RLQ W R q m d (ES.map (pairE 0)) TT UU z e w')) (hz : (z != 0) = true) :
    Calls Tryz.prog 13 #[.string { data := #[108, 101, 100, 103, 101, 114] }, .agg #[.int .i64 4, .int .i64 0, .float .f64 0, .string ⟨#[]⟩, .slice p l c], .string ms, .slice pl ll cl] w fun e w' => RDo w (nilT 2) (nilT 0) z e w' := by
  have TR1 := Lib.hid (show (fun z0 : World => ZL z0 w.heap.size p l c ∧ Zz z0 (w.heap.size + 1) ∧ Zz z0 (w.heap.size + 1 + 1) ∧ Below w.heap.size w z0) (((w.alloc (.cells #[.int .i64 4, .int .i64 0, .float .f64 0, .string ⟨#[]⟩, .slice p l c] 27)).alloc (.cells #[.int .i64 0, .int .i64 0, .float .f64 0, .string ⟨#[]⟩, .slice none 0 0] 27)).alloc (.cells #[.int .i64 0, .int .i64 0, .float .f64 0, .string ⟨#[]⟩, .slice none 0 0] 27)) from ⟨row_alloc_step (row_alloc_step (row_alloc w #[.int .i64 4, .int .i64 0, .float .f64 0, .string ⟨#[]⟩, .slice p l c] 27) _) _, (by have h := row_alloc_step (row_alloc (w.alloc (.cells #[.int .i64 4, .int .i64 0, .float .f64 0, .string ⟨#[]⟩, .slice p l c] 27)) #[.int .i64 0, .int .i64 0, .float .f64 0, .string ⟨#[]⟩, .slice none 0 0] 27) (.cells #[.int .i64 0, .int .i64 0, .float .f64 0, .string ⟨#[]⟩, .slice none 0 0] 27); simp only [World.size_alloc] at h; exact h), (by have h := row_alloc ((w.alloc (.cells #[.int .i64 4, .int .i64 0, .float .f64 0, .string ⟨#[]⟩, .slice p l c] 27)).alloc (.cells #[.int .i64 0, .int .i64 0, .float .f64 0, .string ⟨#[]⟩, .slice none 0 0] 27)) #[.int .i64 0, .int .i64 0, .float .f64 0, .string ⟨#[]⟩, .slice none 0 0] 27; simp only [World.size_alloc] at h; exact h), bel_alloc (bel_alloc (bel_alloc (Below.refl w.heap.size w) _) _) _⟩)
  have HCL := Lib.hid hcl
  have HGR := Lib.hid hgr
  have HGN := Lib.hid hgn
  have HCN := Lib.hid hcn
  clear hcl hgr hgn hcn
  go_enter Tryz.func13, Tryz.ntmps13
  go_wp2_with fail
  go_at_call 17; refine (HR.out _ TR1.out.2.2.2).mono ?_; rintro e w8 ⟨rfl, hbw8⟩
  have TR2 := Lib.hid (And.intro (row_step TR1.out.1 hbw8) (And.intro (row_step TR1.out.2.1 hbw8) (And.intro (row_step TR1.out.2.2.1 hbw8) (bel_step TR1.out.2.2.2 hbw8))))
  clear TR1
  clear hbw8
  go_wp2_with fail
  go_at_call 31; refine (HK.out _ TR2.out.2.2.2).mono ?_; rintro e w9 ⟨rfl, hbw9⟩
  have TR3 := Lib.hid (And.intro (row_step TR2.out.1 hbw9) (And.intro (row_step TR2.out.2.1 hbw9) (And.intro (row_step TR2.out.2.2.1 hbw9) (bel_step TR2.out.2.2.2 hbw9))))
  clear TR2
  clear hbw9
  have c0_0 := row_cell TR3.out.1 0
  have c0_1 := row_cell TR3.out.1 1
  have c0_2 := row_cell TR3.out.1 2
  have c0_3 := row_cell TR3.out.1 3
  have c0_4 := row_cell TR3.out.1 4
  have c0f := row_frz TR3.out.1
  have c0l := row_lt TR3.out.1
  have hcB : w.heap.size ≤ w9.heap.size := TR3.out.2.2.2.size
  have hcB0 : w.heap.size < w9.heap.size := row_lt TR3.out.1
  have hcB1 : w.heap.size + 1 < w9.heap.size := row_lt TR3.out.2.1
  have hcB2 : w.heap.size + 1 + 1 < w9.heap.size := row_lt TR3.out.2.2.1
  go_wp2_with fail
  go_at_call 32; refine (clean_anyP 3 0 _ (tableT 0 ES) _ HGR.out (rep_keep TR3.out.2.2.2 _ _ _ HSR.out)).mono ?_; rintro e wC ⟨vc, rfl, hbwC, hrep⟩
  have TR4 := Lib.hid (And.intro (row_step TR3.out.1 hbwC) (And.intro (row_step TR3.out.2.1 hbwC) (And.intro (row_step TR3.out.2.2.1 hbwC) (bel_step TR3.out.2.2.2 hbwC))))
  clear TR3
  obtain ⟨Kc, Ic, Fc, Sc, qc, mc, dc, rfl, _⟩ := repS_shape hrep
  rw [HCL.out] at hrep
  obtain ⟨rfl, rfl, rfl, rfl⟩ := led_box hrep
  have TR5 := Lib.hid (show ZL wC w.heap.size p l c ∧ Zz wC (w.heap.size + 1) ∧ Zz wC (w.heap.size + 1 + 1) ∧ (Stay w9.heap.size wC wC ∧ wC.heap.size ≤ wC.heap.size) ∧ Below w.heap.size w wC from ⟨TR4.out.1, TR4.out.2.1, TR4.out.2.2.1, ⟨stay_refl _ _, Nat.le_refl _⟩, TR4.out.2.2.2⟩)
  clear TR4
  have HCC := Lib.hid (repS_lt _ _ _ hrep)
  clear hrep
  clear hbwC
  clear c0_0 c0_1 c0_2 c0_3 c0_4 c0f c0l
  have c0_0 := row_cell TR5.out.1 0
  have c0_1 := row_cell TR5.out.1 1
  have c0_2 := row_cell TR5.out.1 2
  have c0_3 := row_cell TR5.out.1 3
  have c0_4 := row_cell TR5.out.1 4
  have c0f := row_frz TR5.out.1
  have c0l := row_lt TR5.out.1
  go_wp2_with fail
  have TR6 := Lib.hid (show (fun z0 : World => ZL z0 w.heap.size qc mc dc ∧ Zz z0 (w.heap.size + 1) ∧ Zz z0 (w.heap.size + 1 + 1) ∧ (Stay w9.heap.size wC z0 ∧ wC.heap.size ≤ z0.heap.size) ∧ Below w.heap.size w z0) (((((wC.setCell ⟨w.heap.size, 0, none⟩ (.int .i64 4)).setCell ⟨w.heap.size, 1, none⟩ (.int .i64 0)).setCell ⟨w.heap.size, 2, none⟩ (.float .f64 0)).setCell ⟨w.heap.size, 3, none⟩ (.string ⟨#[]⟩)).setCell ⟨w.heap.size, 4, none⟩ (.slice qc mc dc)) from ⟨s5r TR5.out.1, s5o TR5.out.2.1 (by omega), s5o TR5.out.2.2.1 (by omega), ⟨stay_set2 TR5.out.2.2.2.1.1 (by omega) (.int .i64 4) (.int .i64 0) (.float .f64 0) (.string ⟨#[]⟩) (.slice qc mc dc), by show _ ≤ (set5 wC (w.heap.size) 0 (.int .i64 4) (.int .i64 0) (.float .f64 0) (.string ⟨#[]⟩) (.slice qc mc dc)).heap.size; rw [set5_size]; exact TR5.out.2.2.2.1.2⟩, s5b TR5.out.2.2.2.2 (by omega)⟩)
  clear TR5
  clear c0_0 c0_1 c0_2 c0_3 c0_4 c0f c0l
  go_at_call 33; refine (cleans_anyP 1 0 (clean_anyP 1) _ pl ll cl NL HGN.out (repL_acc1 TR6.out.2.2.2.2 HNL.out) (by omega)).mono ?_; rintro e wL ⟨pa, la, ca, rfl, hbwL, hrep⟩
  have TR7 := Lib.hid (show ZL wL w.heap.size qc mc dc ∧ Zz wL (w.heap.size + 1) ∧ Zz wL (w.heap.size + 1 + 1) ∧ (Stay w9.heap.size wC wL ∧ wC.heap.size ≤ wL.heap.size) ∧ Below w.heap.size w wL from ⟨row_step TR6.out.1 hbwL, row_step TR6.out.2.1 hbwL, row_step TR6.out.2.2.1 hbwL, ⟨stay_trans TR6.out.2.2.2.1.1 TR6.out.2.2.2.1.2 hbwL, Nat.le_trans TR6.out.2.2.2.1.2 hbwL.size⟩, bel_step TR6.out.2.2.2.2 hbwL⟩)
  clear TR6
  rw [HCN.out] at hrep
  have HNA := Lib.hid (repLS_rep hrep)
  clear hrep
  clear hbwL
  have c0_0 := row_cell TR7.out.1 0
  have c0_1 := row_cell TR7.out.1 1
  have c0_2 := row_cell TR7.out.1 2
  have c0_3 := row_cell TR7.out.1 3
  have c0_4 := row_cell TR7.out.1 4
  have c0f := row_frz TR7.out.1
  have c0l := row_lt TR7.out.1
  go_wp2_with fail
  clear c0_0 c0_1 c0_2 c0_3 c0_4 c0f c0l
  have hLb : wC.heap.size ≤ wL.heap.size := TR7.out.2.2.2.1.2
  have hLb0 : w.heap.size < wL.heap.size := row_lt TR7.out.1
  have hLb1 : w.heap.size + 1 < wL.heap.size := row_lt TR7.out.2.1
  have hLb2 : w.heap.size + 1 + 1 < wL.heap.size := row_lt TR7.out.2.2.1
  have TR8 := Lib.hid (show (fun z0 : World => ZL z0 w.heap.size qc mc dc ∧ Zz z0 (w.heap.size + 1) ∧ Zz z0 (w.heap.size + 1 + 1) ∧ Zz z0 wL.heap.size ∧ (Stay w9.heap.size wC z0 ∧ wC.heap.size ≤ z0.heap.size) ∧ Below w.heap.size w z0) (wL.alloc (.cells #[.int .i64 0, .int .i64 0, .float .f64 0, .string ⟨#[]⟩, .slice none 0 0] 27)) from ⟨(row_alloc_step (TR7.out.1) _), (row_alloc_step (TR7.out.2.1) _), (row_alloc_step (TR7.out.2.2.1) _), (by have h := row_alloc wL #[.int .i64 0, .int .i64 0, .float .f64 0, .string ⟨#[]⟩, .slice none 0 0] 27; (try simp only [World.size_alloc, World.size_drew, World.size_setCell] at h); exact h), ⟨stay_trans TR7.out.2.2.2.1.1 TR7.out.2.2.2.1.2 (bel_alloc (Below.refl _ _) _), Nat.le_trans TR7.out.2.2.2.1.2 (bel_alloc (Below.refl _ _) _).size⟩, bel_step TR7.out.2.2.2.2 (bel_alloc (Below.refl _ _) _)⟩)
  have TR9 := Lib.hid (show (fun z0 : World => ZL z0 w.heap.size qc mc dc ∧ Zz z0 (w.heap.size + 1) ∧ Zz z0 (w.heap.size + 1 + 1) ∧ Zz z0 wL.heap.size ∧ Zz z0 (wL.heap.size + 1) ∧ (Stay w9.heap.size wC z0 ∧ wC.heap.size ≤ z0.heap.size) ∧ Below w.heap.size w z0) ((wL.alloc (.cells #[.int .i64 0, .int .i64 0, .float .f64 0, .string ⟨#[]⟩, .slice none 0 0] 27)).alloc (.cells #[.int .i64 0, .int .i64 0, .float .f64 0, .string ⟨#[]⟩, .slice none 0 0] 27)) from ⟨(row_alloc_step (row_alloc_step (TR7.out.1) _) _), (row_alloc_step (row_alloc_step (TR7.out.2.1) _) _), (row_alloc_step (row_alloc_step (TR7.out.2.2.1) _) _), (by have h := row_alloc_step (row_alloc wL #[.int .i64 0, .int .i64 0, .float .f64 0, .string ⟨#[]⟩, .slice none 0 0] 27) (.cells #[.int .i64 0, .int .i64 0, .float .f64 0, .string ⟨#[]⟩, .slice none 0 0] 27); (try simp only [World.size_alloc, World.size_drew, World.size_setCell] at h); exact h), (by have h := row_alloc (wL.alloc (.cells #[.int .i64 0, .int .i64 0, .float .f64 0, .string ⟨#[]⟩, .slice none 0 0] 27)) #[.int .i64 0, .int .i64 0, .float .f64 0, .string ⟨#[]⟩, .slice none 0 0] 27; (try simp only [World.size_alloc, World.size_drew, World.size_setCell] at h); exact h), ⟨stay_trans TR7.out.2.2.2.1.1 TR7.out.2.2.2.1.2 (bel_alloc (bel_alloc (Below.refl _ _) _) _), Nat.le_trans TR7.out.2.2.2.1.2 (bel_alloc (bel_alloc (Below.refl _ _) _) _).size⟩, bel_step TR7.out.2.2.2.2 (bel_alloc (bel_alloc (Below.refl _ _) _) _)⟩)
  have hzl : ((wL.alloc (.cells #[.int .i64 0, .int .i64 0, .float .f64 0, .string ⟨#[]⟩, .slice none 0 0] 27)).alloc (.cells #[.int .i64 0, .int .i64 0, .float .f64 0, .string ⟨#[]⟩, .slice none 0 0] 27)).heap.size = wL.heap.size + 1 + 1 := by simp only [World.size_alloc]
  have hst0 := TR9.out.2.2.2.2.2.1.1
  have hRW : ∀ W, (∀ b, w9.heap.size ≤ b → b < wC.heap.size → W.heap[b]? = wC.heap[b]?) → ∀ v X, (fun v (X : VT 2) => RepS (fun b => w9.heap.size ≤ b ∧ b < wC.heap.size) wC 2 v X) v X → Rep W 2 v X := fun W hW v X hv => repS_rep _ _ _ (repS_keep (fun b hb => hW b hb.1 hb.2) _ _ _ hv)
  have HRW := Lib.hid hRW
  clear hRW
  have HLL := Lib.hid (show RepL ((wL.alloc (.cells #[.int .i64 0, .int .i64 0, .float .f64 0, .string ⟨#[]⟩, .slice none 0 0] 27)).alloc (.cells #[.int .i64 0, .int .i64 0, .float .f64 0, .string ⟨#[]⟩, .slice none 0 0] 27)) (fun v (X : VT 2) => RepS (fun b => w9.heap.size ≤ b ∧ b < wC.heap.size) wC 2 v X) qc mc dc (ES.map (pairE 0)) from repS_listW HCC.out hst0)
  clear hst0
  go_at_call 38; refine (HLG.out ((wL.alloc (.cells #[.int .i64 0, .int .i64 0, .float .f64 0, .string ⟨#[]⟩, .slice none 0 0] 27)).alloc (.cells #[.int .i64 0, .int .i64 0, .float .f64 0, .string ⟨#[]⟩, .slice none 0 0] 27)) (fun v (X : VT 2) => RepS (fun b => w9.heap.size ≤ b ∧ b < wC.heap.size) wC 2 v X) qc mc dc pa la ca (repS_one _ _ _) HLL.out (fun W' hb v X hv => HRW.out W' (fun b h1 h2 => (hb.block b (Nat.lt_of_lt_of_le h2 (by rw [hzl]; omega))).trans (TR9.out.2.2.2.2.2.1.1 b h1 h2)) v X hv) (repL_acc1 (bel_alloc (bel_alloc (Below.refl _ _) _) _) HNA.out)).mono ?_; rintro e wD ⟨tt, uu, rfl, hbwD, ht, hu⟩
  have TR10 := Lib.hid (show ZL wD w.heap.size qc mc dc ∧ Zz wD (w.heap.size + 1) ∧ Zz wD (w.heap.size + 1 + 1) ∧ Zz wD wL.heap.size ∧ Zz wD (wL.heap.size + 1) ∧ (Stay w9.heap.size wC wD ∧ wC.heap.size ≤ wD.heap.size) ∧ Below w.heap.size w wD from ⟨row_step TR9.out.1 hbwD, row_step TR9.out.2.1 hbwD, row_step TR9.out.2.2.1 hbwD, row_step TR9.out.2.2.2.1 hbwD, row_step TR9.out.2.2.2.2.1 hbwD, ⟨stay_trans TR9.out.2.2.2.2.2.1.1 TR9.out.2.2.2.2.2.1.2 hbwD, Nat.le_trans TR9.out.2.2.2.2.2.1.2 hbwD.size⟩, bel_step TR9.out.2.2.2.2.2.2 hbwD⟩)
  clear TR9
  obtain ⟨Kt, It, Ft, St, qt, mt, dt, rfl, _⟩ := rep_shape (ht wD (repS_listW HCC.out TR10.out.2.2.2.2.2.1.1) (HRW.out _ TR10.out.2.2.2.2.2.1.1) (stay_refl _ _))
  obtain ⟨Ku, Iu, Fu, Su, qu, mu, du, rfl, _⟩ := rep_shape (hu wD)
  have TR11 := Lib.hid (show ZL wD w.heap.size qc mc dc ∧ Zz wD (w.heap.size + 1) ∧ Zz wD (w.heap.size + 1 + 1) ∧ Zz wD wL.heap.size ∧ Zz wD (wL.heap.size + 1) ∧ (Stay w9.heap.size wC wD ∧ wC.heap.size ≤ wD.heap.size) ∧ (Stay ((wL.alloc (.cells #[.int .i64 0, .int .i64 0, .float .f64 0, .string ⟨#[]⟩, .slice none 0 0] 27)).alloc (.cells #[.int .i64 0, .int .i64 0, .float .f64 0, .string ⟨#[]⟩, .slice none 0 0] 27)).heap.size wD wD ∧ wD.heap.size ≤ wD.heap.size) ∧ Below w.heap.size w wD from ⟨TR10.out.1, TR10.out.2.1, TR10.out.2.2.1, TR10.out.2.2.2.1, TR10.out.2.2.2.2.1, TR10.out.2.2.2.2.2.1, ⟨stay_refl _ _, Nat.le_refl _⟩, TR10.out.2.2.2.2.2.2⟩)
  clear TR10
  have HT := Lib.hid ht
  have HU := Lib.hid hu
  clear ht hu
  clear hbwD
  have c3_0 := row_cell TR11.out.2.2.2.1 0
  have c3_1 := row_cell TR11.out.2.2.2.1 1
  have c3_2 := row_cell TR11.out.2.2.2.1 2
  have c3_3 := row_cell TR11.out.2.2.2.1 3
  have c3_4 := row_cell TR11.out.2.2.2.1 4
  have c3f := row_frz TR11.out.2.2.2.1
  have c3l := row_lt TR11.out.2.2.2.1
  have c4_0 := row_cell TR11.out.2.2.2.2.1 0
  have c4_1 := row_cell TR11.out.2.2.2.2.1 1
  have c4_2 := row_cell TR11.out.2.2.2.2.1 2
  have c4_3 := row_cell TR11.out.2.2.2.2.1 3
  have c4_4 := row_cell TR11.out.2.2.2.2.1 4
  have c4f := row_frz TR11.out.2.2.2.2.1
  have c4l := row_lt TR11.out.2.2.2.2.1
  go_wp2_with fail
  have TR12 := Lib.hid (show (fun z0 : World => ZL z0 w.heap.size qc mc dc ∧ Zz z0 (w.heap.size + 1) ∧ Zz z0 (w.heap.size + 1 + 1) ∧ Zw z0 wL.heap.size (.int .i64 Kt) (.int .i64 It) (.float .f64 Ft) (.string St) (.slice qt mt dt) ∧ Zz z0 (wL.heap.size + 1) ∧ (Stay w9.heap.size wC z0 ∧ wC.heap.size ≤ z0.heap.size) ∧ (Stay ((wL.alloc (.cells #[.int .i64 0, .int .i64 0, .float .f64 0, .string ⟨#[]⟩, .slice none 0 0] 27)).alloc (.cells #[.int .i64 0, .int .i64 0, .float .f64 0, .string ⟨#[]⟩, .slice none 0 0] 27)).heap.size wD z0 ∧ wD.heap.size ≤ z0.heap.size) ∧ Below w.heap.size w z0) (((((wD.setCell ⟨wL.heap.size, 0, none⟩ (.int .i64 Kt)).setCell ⟨wL.heap.size, 1, none⟩ (.int .i64 It)).setCell ⟨wL.heap.size, 2, none⟩ (.float .f64 Ft)).setCell ⟨wL.heap.size, 3, none⟩ (.string St)).setCell ⟨wL.heap.size, 4, none⟩ (.slice qt mt dt)) from ⟨s5o TR11.out.1 (by omega), s5o TR11.out.2.1 (by omega), s5o TR11.out.2.2.1 (by omega), s5r TR11.out.2.2.2.1, s5o TR11.out.2.2.2.2.1 (by omega), ⟨stay_set2 TR11.out.2.2.2.2.2.1.1 (by omega) (.int .i64 Kt) (.int .i64 It) (.float .f64 Ft) (.string St) (.slice qt mt dt), by show _ ≤ (set5 wD (wL.heap.size) 0 (.int .i64 Kt) (.int .i64 It) (.float .f64 Ft) (.string St) (.slice qt mt dt)).heap.size; rw [set5_size]; exact TR11.out.2.2.2.2.2.1.2⟩, ⟨stay_set2 TR11.out.2.2.2.2.2.2.1.1 (by omega) (.int .i64 Kt) (.int .i64 It) (.float .f64 Ft) (.string St) (.slice qt mt dt), by show _ ≤ (set5 wD (wL.heap.size) 0 (.int .i64 Kt) (.int .i64 It) (.float .f64 Ft) (.string St) (.slice qt mt dt)).heap.size; rw [set5_size]; exact TR11.out.2.2.2.2.2.2.1.2⟩, s5b TR11.out.2.2.2.2.2.2.2 (by omega)⟩)
  clear TR11
  have TR13 := Lib.hid (show (fun z0 : World => ZL z0 w.heap.size qc mc dc ∧ Zz z0 (w.heap.size + 1) ∧ Zz z0 (w.heap.size + 1 + 1) ∧ Zw z0 wL.heap.size (.int .i64 Kt) (.int .i64 It) (.float .f64 Ft) (.string St) (.slice qt mt dt) ∧ Zw z0 (wL.heap.size + 1) (.int .i64 Ku) (.int .i64 Iu) (.float .f64 Fu) (.string Su) (.slice qu mu du) ∧ (Stay w9.heap.size wC z0 ∧ wC.heap.size ≤ z0.heap.size) ∧ (Stay ((wL.alloc (.cells #[.int .i64 0, .int .i64 0, .float .f64 0, .string ⟨#[]⟩, .slice none 0 0] 27)).alloc (.cells #[.int .i64 0, .int .i64 0, .float .f64 0, .string ⟨#[]⟩, .slice none 0 0] 27)).heap.size wD z0 ∧ wD.heap.size ≤ z0.heap.size) ∧ Below w.heap.size w z0) ((((((((((wD.setCell ⟨wL.heap.size, 0, none⟩ (.int .i64 Kt)).setCell ⟨wL.heap.size, 1, none⟩ (.int .i64 It)).setCell ⟨wL.heap.size, 2, none⟩ (.float .f64 Ft)).setCell ⟨wL.heap.size, 3, none⟩ (.string St)).setCell ⟨wL.heap.size, 4, none⟩ (.slice qt mt dt)).setCell ⟨wL.heap.size + 1, 0, none⟩ (.int .i64 Ku)).setCell ⟨wL.heap.size + 1, 1, none⟩ (.int .i64 Iu)).setCell ⟨wL.heap.size + 1, 2, none⟩ (.float .f64 Fu)).setCell ⟨wL.heap.size + 1, 3, none⟩ (.string Su)).setCell ⟨wL.heap.size + 1, 4, none⟩ (.slice qu mu du)) from ⟨s5o TR12.out.1 (by omega), s5o TR12.out.2.1 (by omega), s5o TR12.out.2.2.1 (by omega), s5o TR12.out.2.2.2.1 (by omega), s5r TR12.out.2.2.2.2.1, ⟨stay_set2 TR12.out.2.2.2.2.2.1.1 (by omega) (.int .i64 Ku) (.int .i64 Iu) (.float .f64 Fu) (.string Su) (.slice qu mu du), by show _ ≤ (set5 (((((wD.setCell ⟨wL.heap.size, 0, none⟩ (.int .i64 Kt)).setCell ⟨wL.heap.size, 1, none⟩ (.int .i64 It)).setCell ⟨wL.heap.size, 2, none⟩ (.float .f64 Ft)).setCell ⟨wL.heap.size, 3, none⟩ (.string St)).setCell ⟨wL.heap.size, 4, none⟩ (.slice qt mt dt)) (wL.heap.size + 1) 0 (.int .i64 Ku) (.int .i64 Iu) (.float .f64 Fu) (.string Su) (.slice qu mu du)).heap.size; rw [set5_size]; exact TR12.out.2.2.2.2.2.1.2⟩, ⟨stay_set2 TR12.out.2.2.2.2.2.2.1.1 (by omega) (.int .i64 Ku) (.int .i64 Iu) (.float .f64 Fu) (.string Su) (.slice qu mu du), by show _ ≤ (set5 (((((wD.setCell ⟨wL.heap.size, 0, none⟩ (.int .i64 Kt)).setCell ⟨wL.heap.size, 1, none⟩ (.int .i64 It)).setCell ⟨wL.heap.size, 2, none⟩ (.float .f64 Ft)).setCell ⟨wL.heap.size, 3, none⟩ (.string St)).setCell ⟨wL.heap.size, 4, none⟩ (.slice qt mt dt)) (wL.heap.size + 1) 0 (.int .i64 Ku) (.int .i64 Iu) (.float .f64 Fu) (.string Su) (.slice qu mu du)).heap.size; rw [set5_size]; exact TR12.out.2.2.2.2.2.2.1.2⟩, s5b TR12.out.2.2.2.2.2.2.2 (by omega)⟩)
  clear TR12
  clear c3_0 c3_1 c3_2 c3_3 c3_4 c4_0 c4_1 c4_2 c4_3 c4_4 c3f c3l c4f c4l
  go_at_call 30; refine (no_any _ _).mono ?_; rintro e w10 ⟨rfl, hbw10⟩
  have TR14 := Lib.hid (show ZL w10 w.heap.size qc mc dc ∧ Zz w10 (w.heap.size + 1) ∧ Zz w10 (w.heap.size + 1 + 1) ∧ Zw w10 wL.heap.size (.int .i64 Kt) (.int .i64 It) (.float .f64 Ft) (.string St) (.slice qt mt dt) ∧ Zw w10 (wL.heap.size + 1) (.int .i64 Ku) (.int .i64 Iu) (.float .f64 Fu) (.string Su) (.slice qu mu du) ∧ (Stay w9.heap.size wC w10 ∧ wC.heap.size ≤ w10.heap.size) ∧ (Stay ((wL.alloc (.cells #[.int .i64 0, .int .i64 0, .float .f64 0, .string ⟨#[]⟩, .slice none 0 0] 27)).alloc (.cells #[.int .i64 0, .int .i64 0, .float .f64 0, .string ⟨#[]⟩, .slice none 0 0] 27)).heap.size wD w10 ∧ wD.heap.size ≤ w10.heap.size) ∧ Below w.heap.size w w10 from ⟨row_step TR13.out.1 hbw10, row_step TR13.out.2.1 hbw10, row_step TR13.out.2.2.1 hbw10, row_step TR13.out.2.2.2.1 hbw10, row_step TR13.out.2.2.2.2.1 hbw10, ⟨stay_trans TR13.out.2.2.2.2.2.1.1 TR13.out.2.2.2.2.2.1.2 hbw10, Nat.le_trans TR13.out.2.2.2.2.2.1.2 hbw10.size⟩, ⟨stay_trans TR13.out.2.2.2.2.2.2.1.1 TR13.out.2.2.2.2.2.2.1.2 hbw10, Nat.le_trans TR13.out.2.2.2.2.2.2.1.2 hbw10.size⟩, bel_step TR13.out.2.2.2.2.2.2.2 hbw10⟩)
  clear TR13
  clear hbw10
  have c1_0 := row_cell TR14.out.2.1 0
  have c1_1 := row_cell TR14.out.2.1 1
  have c1_2 := row_cell TR14.out.2.1 2
  have c1_3 := row_cell TR14.out.2.1 3
  have c1_4 := row_cell TR14.out.2.1 4
  have c1f := row_frz TR14.out.2.1
  have c1l := row_lt TR14.out.2.1
  have c2_0 := row_cell TR14.out.2.2.1 0
  have c2_1 := row_cell TR14.out.2.2.1 1
  have c2_2 := row_cell TR14.out.2.2.1 2
  have c2_3 := row_cell TR14.out.2.2.1 3
  have c2_4 := row_cell TR14.out.2.2.1 4
  have c2f := row_frz TR14.out.2.2.1
  have c2l := row_lt TR14.out.2.2.1
  go_wp2
  refine bodyPost_ret (v := .tuple #[.agg #[.int .i64 0, .int .i64 0, .float .f64 0, .string ⟨#[]⟩, .slice none 0 0], .agg #[.int .i64 0, .int .i64 0, .float .f64 0, .string ⟨#[]⟩, .slice none 0 0], .int .i64 z]) (by simp [results, Tryz.results13, go_sem, World.cell?_setCell_same, World.cell?_setCell_other, c1_0, c1_1, c1_2, c1_3, c1_4, c2_0, c2_1, c2_2, c2_3, c2_4]) rfl ⟨_, _, rfl, ?_, fun y _ => ⟨repS_rep _ _ _ (nil_rep 2 (fun _ => True) y), repS_rep _ _ _ (nil_rep 0 (fun _ => True) y)⟩⟩
  exact set5_below (g := w.heap.size + 1 + 1) (o := 0) (set5_below (g := w.heap.size + 1) (o := 0) TR14.out.2.2.2.2.2.2.2 (by omega) _ _ _ _ _) (by omega) _ _ _ _ _
end Num
end Go.Proofs.YtpbfaffheigjcaaGreat
