/-
  The reference: Do of a ledger, its roads.
-/
import Derived.Test.YtpbfaffheigjcaaGreatVp18LM
import Derived.Test.YtpbfaffheigjcaaGreatVp12KV
import Derived.Test.YtpbfaffheigjcaaGreatVp19LQd
import Derived.Test.YtpbfaffheigjcaaGreatVp14LD
import Derived.Test.YtpbfaffheigjcaaGreatVp20LK
import Derived.Test.YtpbfaffheigjcaaGreatVMI
import Derived.Test.YtpbfaffheigjcaaGreatVp16YE
import Derived.Test.YtpbfaffheigjcaaGreatVp13RDa
import Derived.Test.YtpbfaffheigjcaaGreatVp17YU
namespace Go.Proofs.YtpbfaffheigjcaaGreat
open Go.RowKit
namespace Num
open Ints
set_option linter.unusedSimpArgs false
set_option linter.unusedVariables false
theorem stay_set2 {B : Nat} {x y : World} (h : Stay B x y) {g : Nat} (hg : g < B ∨ x.heap.size ≤ g) (u0 u1 u2 u3 u4 : Value) : Stay B x (set5 y g 0 u0 u1 u2 u3 u4) := fun b h1 h2 => (set5_other (by omega)).trans (h b h1 h2)
theorem repS_one (S : Nat → Prop) (w : World) (n : Nat) : One5 (fun v (X : VT n) => RepS S w n v X) := fun u0 u1 u2 u3 u4 X h => rep_one w n _ _ _ _ _ _ (repS_rep _ _ _ h)
theorem repS_listW {B E : Nat} {w z : World} {n : Nat} {K I : Int} {F : Nat} {Z : ByteArray} {q : Option Addr} {m d : Nat} {T : VT (n + 1)} (h : RepS (fun b => B ≤ b ∧ b < E) w (n + 1) (.agg #[.int .i64 K, .int .i64 I, .float .f64 F, .string Z, .slice q m d]) T) (hst : ∀ b, B ≤ b → b < E → z.heap[b]? = w.heap[b]?) : RepL z (fun v X => RepS (fun b => B ≤ b ∧ b < E) w n v X) q m d T.2.2.2.2 := by
  obtain ⟨p, l, c, hv, _, _, _, _, h1, h2, h3, h4⟩ := h
  injection hv with hv
  simp only [Array.mk.injEq, List.cons.injEq, and_true] at hv
  obtain ⟨_, _, _, _, e5⟩ := hv
  injection e5 with e6 e7 e8
  subst e6 e7 e8
  refine ⟨h1, h2, h3, fun h0 => ?_⟩
  obtain ⟨b, off, hp, hS, _, g, hi⟩ := h4 h0
  have he := hst b hS.1 hS.2
  refine ⟨b, off, hp, fun i hi' => ?_⟩
  obtain ⟨v0, v1, v2, v3, v4, c0, c1, c2, c3, c4, hr⟩ := hi i hi'
  exact ⟨v0, v1, v2, v3, v4, cell_block he c0, cell_block he c1, cell_block he c2, cell_block he c3, cell_block he c4, repS_mono (fun b hb => hb.1) _ _ _ hr⟩
end Num
end Go.Proofs.YtpbfaffheigjcaaGreat
/-
  Package ledger: total.
-/
namespace Go.Proofs.YtpbfaffheigjcaaGreat
open Go.RowKit
namespace Num
open Ints
set_option linter.unusedSimpArgs false
set_option linter.unusedVariables false
def sumL {n : Nat} (ES : List (ByteArray × VT (n + 1))) : Nat := ES.foldl (fun s e => Flo.cop .add s e.2.2.2.1) 0
theorem sum_take {n : Nat} {ES : List (ByteArray × VT (n + 1))} {i : Nat} (h : i < ES.length) : sumL (ES.take (i + 1)) = Flo.cop .add (sumL (ES.take i)) ES[i].2.2.2.1 := by
  unfold sumL
  rw [List.take_add_one, List.getElem?_eq_getElem h, List.foldl_append]
  rfl
set_option maxRecDepth 100000 in
set_option maxHeartbeats 4000000 in
theorem total_any (n : Nat) (p : Option Addr) (l c : Nat) (ES : List (ByteArray × VT (n + 1))) (w0 w : World) (HBW : Hid (Below w0.heap.size w0 w)) (HL : Hid (RepL w0 (Rep w0 (n + 2)) p l c (ES.map (pairE n)))) (hl : l ≤ 32) (hac : ∀ e ∈ ES, AccV e.2) :
    Calls Tryz.prog 59 #[.slice p l c] w fun e w' => e = .returned (.agg #[.int .i64 2, .int .i64 0, .float .f64 (sumL ES), .string ⟨#[]⟩, .slice none 0 0]) ∧ Below w.heap.size w w' := by
  have TR1 := Lib.hid (show (fun z0 : World => Zz z0 w.heap.size ∧ Below w.heap.size w z0) (w.alloc (.cells #[.int .i64 0, .int .i64 0, .float .f64 0, .string ⟨#[]⟩, .slice none 0 0] 27)) from ⟨row_alloc w #[.int .i64 0, .int .i64 0, .float .f64 0, .string ⟨#[]⟩, .slice none 0 0] 27, bel_alloc (Below.refl w.heap.size w) _⟩)
  have HAC := Lib.hid hac
  have HLEN := Lib.hid (show ES.length = l by have := HL.out.1; rw [List.length_map] at this; exact this)
  have hl0 : (0 : Int) ≤ (l : Int) := by omega
  clear hac
  go_enter Tryz.func59, Tryz.ntmps59
  go_wp2_with fail
  go_at_call 91; refine (nothing_any _).mono ?_; rintro e w5 ⟨rfl, hbw5⟩
  have TR2 := Lib.hid (And.intro (row_step TR1.out.1 hbw5) (bel_step TR1.out.2 hbw5))
  clear TR1
  clear hbw5
  go_wp2
  have hlt1 : w.heap.size < w5.heap.size := row_lt TR2.out.1
  have hlt2 : w.heap.size ≤ w5.heap.size := TR2.out.2.size
  have TR3 := Lib.hid (show (fun z0 : World => Zz z0 w.heap.size ∧ ZF z0 w5.heap.size 0 ∧ Below w.heap.size w z0) (w5.alloc (.cells #[.int .i64 2, .int .i64 0, .float .f64 0, .string ⟨#[]⟩, .slice none 0 0] 27)) from ⟨row_alloc_step TR2.out.1 _, (ra (by simp only [World.size_alloc, World.size_drew])), bel_step TR2.out.2 (bel_alloc br _)⟩)
  go_loopw [9] (fun iv wr => ∃ i : Nat, i ≤ l ∧ iv = .int .i64 i ∧ wr.heap[w.heap.size]? = some (.cells #[.int .i64 0, .int .i64 0, .float .f64 0, .string ⟨#[]⟩, .slice none 0 0] 27 (0, 0)) ∧ wr.heap[w5.heap.size]? = some (.cells #[.int .i64 2, .int .i64 0, .float .f64 (sumL (ES.take i)), .string ⟨#[]⟩, .slice none 0 0] 27 (0, 0)) ∧ Below w.heap.size w wr) (fun iv _ => l - (intOf iv).toNat)
  case atStart => exact ⟨0, by omega, rfl, TR3.out.1, TR3.out.2.1, TR3.out.2.2⟩
  case round =>
    obtain ⟨i, hil, rfl, hrel⟩ := hrel
    obtain ⟨SM, hSM⟩ : ∃ s, sumL (ES.take i) = s := ⟨_, rfl⟩
    rw [hSM] at hrel
    have HSM := Lib.hid hSM
    clear hSM
    have TU0 := Lib.hid hrel
    clear hrel
    by_cases hlt : i < l
    · obtain ⟨b, off, rfl, _⟩ := HL.out.2.2.2 (by omega)
      obtain ⟨gx, ox, cgx, hc0, hc1, hc2, hc3, hc4, hp⟩ := acc_at (repL_acc HBW.out HL.out) (show i < ES.length from by have := HLEN.out; omega)
      obtain ⟨⟨sx, Vx⟩, hsv⟩ : ∃ e, e = ES[i]'(show i < ES.length by have := HLEN.out; omega) := ⟨_, rfl⟩
      rw [← hsv] at hp
      have HSV := Lib.hid hsv
      have HCx0 := Lib.hid hc0
      have HCx1 := Lib.hid hc1
      have HCx2 := Lib.hid hc2
      have HCx3 := Lib.hid hc3
      have HCx4 := Lib.hid hc4
      have HPx := Lib.hid hp
      have hbx := cell_lt hc0
      have hx1 : (0 : Int) ≤ (i : Int) := by omega
      have hx2 : (i : Int) < (l : Int) := by omega
      clear hsv hc0 hc1 hc2 hc3 hc4 hp
      obtain ⟨FV, hfv⟩ : ∃ f, Vx.2.2.1 = f := ⟨_, rfl⟩
      have HVV := Lib.hid (show Vx.1 = 2 ∧ Vx.2.2.1 = FV from ⟨by have h := HAC.out _ (List.getElem_mem (show i < ES.length by have := HLEN.out; omega)); rw [← HSV.out] at h; exact h.1, hfv⟩)
      clear hfv
      have e0 := ck TU0.out.2.2 HCx0.out
      have e1 := ck TU0.out.2.2 HCx1.out
      have e2 := ck TU0.out.2.2 HCx2.out
      have e3 := ck TU0.out.2.2 HCx3.out
      have e4 := ck TU0.out.2.2 HCx4.out
      have elt := cell_lt e0
      go_upto_region 5 with fail
      clear e0 e1 e2 e3 e4 elt
      have hlt3 : w.heap.size < wr.heap.size := row_lt TU0.out.1
      have hlt4 : w5.heap.size < wr.heap.size := row_lt TU0.out.2.1
      have hlt5 : w.heap.size ≤ wr.heap.size := TU0.out.2.2.size
      have TU1 := Lib.hid (show (fun z0 : World => Zz z0 w.heap.size ∧ ZF z0 w5.heap.size SM ∧ ZL z0 wr.heap.size (some ⟨gx, ox, none⟩) 2 cgx ∧ Below w.heap.size w z0) (wr.alloc (.cells #[.int .i64 4, .int .i64 0, .float .f64 0, .string ⟨#[]⟩, .slice (some ⟨gx, ox, none⟩) 2 cgx] 27)) from ⟨row_alloc_step TU0.out.1 _, row_alloc_step TU0.out.2.1 _, (ra (by simp only [World.size_alloc, World.size_drew])), bel_step TU0.out.2.2 (bel_alloc br _)⟩)
      have TU2 := Lib.hid (And.intro (row_step TU1.out.1 (Below.drew br)) (And.intro (row_step TU1.out.2.1 (Below.drew br)) (And.intro (row_step TU1.out.2.2.1 (Below.drew br)) (bel_step TU1.out.2.2.2 (Below.drew br)))))
      clear TU1
      refine wp_region_held_drew (S := (fun z => z.cell? ⟨w5.heap.size, 0, none⟩ = some (.int .i64 2) ∧ z.cell? ⟨w5.heap.size, 1, none⟩ = some (.int .i64 0) ∧ z.cell? ⟨w5.heap.size, 3, none⟩ = some (.string ⟨#[]⟩) ∧ z.cell? ⟨w5.heap.size, 4, none⟩ = some (.slice none 0 0) ∧ z.cell? ⟨wr.heap.size, 0, none⟩ = some (.int .i64 4) ∧ z.cell? ⟨wr.heap.size, 1, none⟩ = some (.int .i64 0) ∧ z.cell? ⟨wr.heap.size, 2, none⟩ = some (.float .f64 0) ∧ z.cell? ⟨wr.heap.size, 3, none⟩ = some (.string ⟨#[]⟩) ∧ z.cell? ⟨wr.heap.size, 4, none⟩ = some (.slice (some ⟨gx, ox, none⟩) 2 cgx))) (by kernel_rfl) ?_ (fun hH => ?_)
      · exact ⟨rc TU2.out.2.1 0, rc TU2.out.2.1 1, rc TU2.out.2.1 3, rc TU2.out.2.1 4, rc TU2.out.2.2.1 0, rc TU2.out.2.2.1 1, rc TU2.out.2.2.1 2, rc TU2.out.2.2.1 3, rc TU2.out.2.2.1 4⟩
      refine zt [1] ?_
      refine zt1 (fun _ _ d _ _ h => by cases d <;> exact h) (by simp only [lk0, lk1, lk2]; rfl) (by kernel_rfl) (by assumption) (by rfl) (fun w h => by (try dsimp only at h); go_simp; (try with_reducible rfl)) ?_; (try simp only [Act.put, pk0, pk1, pk2])
      refine zt0 ?_
      refine wpAnyH_ready (rs := [0, 2]) (by kernel_rfl) (by simp) ?_
      refine AllReadyH.cons (o := ?_) ?hov7_ ?hstv7_ ?mov7_
      case hov7_ => (simp only [lk0, lk1, lk2]; rfl)
      case hstv7_ =>
        intro K hK
        have b30 := rc TU2.out.2.1 0; have b31 := rc TU2.out.2.1 1; have b32 := rc TU2.out.2.1 2; have b33 := rc TU2.out.2.1 3; have b34 := rc TU2.out.2.1 4; have b3l := row_lt TU2.out.2.1
        go_simp
        clear b30 b31 b32 b33 b34 b3l
        refine hK.out _ _ ?hsv7_ (fun hH => ?_)
        case hsv7_ => exact ⟨rc TU2.out.2.1 0, rc TU2.out.2.1 1, rc TU2.out.2.1 3, rc TU2.out.2.1 4, rc TU2.out.2.2.1 0, rc TU2.out.2.2.1 1, rc TU2.out.2.2.1 2, rc TU2.out.2.2.1 3, rc TU2.out.2.2.1 4⟩
        clear hK K
        (try simp only [Act.put, pk0, pk1, pk2])
        refine zr1 2 (by kernel_rfl) (by simp only [lk0, lk1, lk2]; rfl) (fun K hK => ?_)
        go_simp
        go_at_call 93; refine (hasOf_any n _ sx Vx _ (rep_keep TU2.out.2.2.2 _ _ _ HPx.out)).mono ?_; rintro e w9 ⟨Ky, Iy, Fy, Sy, qy, my, dy, rfl, hbw9, hry⟩
        have TU3 := Lib.hid (And.intro (row_step TU2.out.1 hbw9) (And.intro (row_step TU2.out.2.1 hbw9) (And.intro (row_step TU2.out.2.2.1 hbw9) (bel_step TU2.out.2.2.2 hbw9))))
        clear TU2
        obtain ⟨rfl, rfl, hiy⟩ := hold_shape HVV.out hry
        clear hry
        clear hbw9
        go_wp2_with fail
        refine hK.out _ _ ?hsv8_ (fun hH => ?_)
        case hsv8_ => exact ⟨rc TU3.out.2.1 0, rc TU3.out.2.1 1, rc TU3.out.2.1 3, rc TU3.out.2.1 4, rc TU3.out.2.2.1 0, rc TU3.out.2.2.1 1, rc TU3.out.2.2.1 2, rc TU3.out.2.2.1 3, rc TU3.out.2.2.1 4⟩
        clear hK K
        (try simp only [Act.put, pk0, pk1, pk2])
        refine zr1 3 (by kernel_rfl) (by simp only [lk0, lk1, lk2]; rfl) (fun K hK => ?_)
        go_simp
        go_at_call 98; refine (add_any 2 0 SM _ _ _ _ 2 Iy FV Sy qy my dy _ (by decide) hiy (show opV 0 2 0 SM 2 Iy FV = (2, 0, Flo.cop .add SM FV, 0) from opV_flo rfl rfl)).mono ?_; rintro e w11 ⟨rfl, hbw11⟩
        have TU4 := Lib.hid (And.intro (row_step TU3.out.1 hbw11) (And.intro (row_step TU3.out.2.1 hbw11) (And.intro (row_step TU3.out.2.2.1 hbw11) (bel_step TU3.out.2.2.2 hbw11))))
        clear TU3
        clear hbw11
        go_wp2_with fail
        refine hK.out _ _ ?hsv10_ (fun hH => ?_)
        case hsv10_ => exact ⟨rc TU4.out.2.1 0, rc TU4.out.2.1 1, rc TU4.out.2.1 3, rc TU4.out.2.1 4, rc TU4.out.2.2.1 0, rc TU4.out.2.2.1 1, rc TU4.out.2.2.1 2, rc TU4.out.2.2.1 3, rc TU4.out.2.2.1 4⟩
        clear hK K
        (try simp only [Act.put, pk0, pk1, pk2])
        refine zt [4, 5, 6] ?_
        iterate 3 (refine zt1 (fun _ _ d _ _ h => by cases d <;> exact h) (by simp only [lk0, lk1, lk2]; rfl) (by kernel_rfl) (by assumption) (by rfl) (fun w h => by (try dsimp only at h); go_simp; (try with_reducible rfl)) ?_; (try simp only [Act.put, pk0, pk1, pk2]))
        refine zt0 ?_
        refine zr1 7 (by kernel_rfl) (by simp only [lk0, lk1, lk2]; rfl) (fun K hK => ?_)
        obtain ⟨b30, b31, b32, b33, b34, b3f, b3l⟩ := r7 TU4.out.2.1; go_simp
        have TU5 := Lib.hid (show (fun z0 : World => Zz z0 w.heap.size ∧ ZF z0 w5.heap.size (Flo.cop .add SM FV) ∧ ZL z0 wr.heap.size (some ⟨gx, ox, none⟩) 2 cgx ∧ Below w.heap.size w z0) (((((w11.setCell ⟨w5.heap.size, 0, none⟩ (.int .i64 2)).setCell ⟨w5.heap.size, 1, none⟩ (.int .i64 0)).setCell ⟨w5.heap.size, 2, none⟩ (.float .f64 (Flo.cop .add SM FV))).setCell ⟨w5.heap.size, 3, none⟩ (.string ⟨#[]⟩)).setCell ⟨w5.heap.size, 4, none⟩ (.slice none 0 0)) from ⟨s5o TU4.out.1 (by omega), s5r TU4.out.2.1, s5o TU4.out.2.2.1 (by omega), s5b TU4.out.2.2.2 (by omega)⟩)
        clear TU4
        clear b30 b31 b32 b33 b34 b3f b3l
        go_wp2_with fail
        refine hK.out _ _ ?hsv15_ (fun hH => ?_)
        case hsv15_ => exact ⟨rc TU5.out.2.1 0, rc TU5.out.2.1 1, rc TU5.out.2.1 3, rc TU5.out.2.1 4, rc TU5.out.2.2.1 0, rc TU5.out.2.2.1 1, rc TU5.out.2.2.1 2, rc TU5.out.2.2.1 3, rc TU5.out.2.2.1 4⟩
        clear hK K
        (try simp only [Act.put, pk0, pk1, pk2])
        refine wpAnyH_done (by kernel_rfl) ?_ _
        revert TU5
        generalize (((((w11.setCell ⟨w5.heap.size, 0, none⟩ (.int .i64 2)).setCell ⟨w5.heap.size, 1, none⟩ (.int .i64 0)).setCell ⟨w5.heap.size, 2, none⟩ (.float .f64 (Flo.cop .add SM FV))).setCell ⟨w5.heap.size, 3, none⟩ (.string ⟨#[]⟩)).setCell ⟨w5.heap.size, 4, none⟩ (.slice none 0 0)) = Wf
        intro TU5
        have HSN := Lib.hid (show sumL (ES.take (i + 1)) = Flo.cop .add SM FV by rw [sum_take (show i < ES.length by have := HLEN.out; omega), HSM.out, ← HSV.out, HVV.out.2])
        go_wp2
        go_roundw
        case rel => exact ⟨i + 1, by omega, by go_num, TU5.out.1, by rw [HSN.out]; exact TU5.out.2.1, TU5.out.2.2.2⟩
        case measure => simp [intOf]; omega
      case mov7_ =>
        refine AllReadyH.cons (o := ?_) ?hov16_ ?hstv16_ AllReadyH.nil
        case hov16_ => (simp only [lk0, lk1, lk2]; rfl)
        intro K hK
        go_simp
        go_at_call 93; refine (hasOf_any n _ sx Vx _ (rep_keep TU2.out.2.2.2 _ _ _ HPx.out)).mono ?_; rintro e w17 ⟨Ky, Iy, Fy, Sy, qy, my, dy, rfl, hbw17, hry⟩
        have TU3 := Lib.hid (And.intro (row_step TU2.out.1 hbw17) (And.intro (row_step TU2.out.2.1 hbw17) (And.intro (row_step TU2.out.2.2.1 hbw17) (bel_step TU2.out.2.2.2 hbw17))))
        clear TU2
        obtain ⟨rfl, rfl, hiy⟩ := hold_shape HVV.out hry
        clear hry
        clear hbw17
        go_wp2_with fail
        refine hK.out _ _ ?hsv16_ (fun hH => ?_)
        case hsv16_ => exact ⟨rc TU3.out.2.1 0, rc TU3.out.2.1 1, rc TU3.out.2.1 3, rc TU3.out.2.1 4, rc TU3.out.2.2.1 0, rc TU3.out.2.2.1 1, rc TU3.out.2.2.1 2, rc TU3.out.2.2.1 3, rc TU3.out.2.2.1 4⟩
        clear hK K
        (try simp only [Act.put, pk0, pk1, pk2])
        refine zr1 0 (by kernel_rfl) (by simp only [lk0, lk1, lk2]; rfl) (fun K hK => ?_)
        have b30 := rc TU3.out.2.1 0; have b31 := rc TU3.out.2.1 1; have b32 := rc TU3.out.2.1 2; have b33 := rc TU3.out.2.1 3; have b34 := rc TU3.out.2.1 4; have b3l := row_lt TU3.out.2.1
        go_simp
        clear b30 b31 b32 b33 b34 b3l
        refine hK.out _ _ ?hsv18_ (fun hH => ?_)
        case hsv18_ => exact ⟨rc TU3.out.2.1 0, rc TU3.out.2.1 1, rc TU3.out.2.1 3, rc TU3.out.2.1 4, rc TU3.out.2.2.1 0, rc TU3.out.2.2.1 1, rc TU3.out.2.2.1 2, rc TU3.out.2.2.1 3, rc TU3.out.2.2.1 4⟩
        clear hK K
        (try simp only [Act.put, pk0, pk1, pk2])
        refine zr1 3 (by kernel_rfl) (by simp only [lk0, lk1, lk2]; rfl) (fun K hK => ?_)
        go_simp
        go_at_call 98; refine (add_any 2 0 SM _ _ _ _ 2 Iy FV Sy qy my dy _ (by decide) hiy (show opV 0 2 0 SM 2 Iy FV = (2, 0, Flo.cop .add SM FV, 0) from opV_flo rfl rfl)).mono ?_; rintro e w20 ⟨rfl, hbw20⟩
        have TU4 := Lib.hid (And.intro (row_step TU3.out.1 hbw20) (And.intro (row_step TU3.out.2.1 hbw20) (And.intro (row_step TU3.out.2.2.1 hbw20) (bel_step TU3.out.2.2.2 hbw20))))
        clear TU3
        clear hbw20
        go_wp2_with fail
        refine hK.out _ _ ?hsv19_ (fun hH => ?_)
        case hsv19_ => exact ⟨rc TU4.out.2.1 0, rc TU4.out.2.1 1, rc TU4.out.2.1 3, rc TU4.out.2.1 4, rc TU4.out.2.2.1 0, rc TU4.out.2.2.1 1, rc TU4.out.2.2.1 2, rc TU4.out.2.2.1 3, rc TU4.out.2.2.1 4⟩
        clear hK K
        (try simp only [Act.put, pk0, pk1, pk2])
        refine zt [4, 5, 6] ?_
        iterate 3 (refine zt1 (fun _ _ d _ _ h => by cases d <;> exact h) (by simp only [lk0, lk1, lk2]; rfl) (by kernel_rfl) (by assumption) (by rfl) (fun w h => by (try dsimp only at h); go_simp; (try with_reducible rfl)) ?_; (try simp only [Act.put, pk0, pk1, pk2]))
        refine zt0 ?_
        refine zr1 7 (by kernel_rfl) (by simp only [lk0, lk1, lk2]; rfl) (fun K hK => ?_)
        obtain ⟨b30, b31, b32, b33, b34, b3f, b3l⟩ := r7 TU4.out.2.1; go_simp
        have TU5 := Lib.hid (show (fun z0 : World => Zz z0 w.heap.size ∧ ZF z0 w5.heap.size (Flo.cop .add SM FV) ∧ ZL z0 wr.heap.size (some ⟨gx, ox, none⟩) 2 cgx ∧ Below w.heap.size w z0) (((((w20.setCell ⟨w5.heap.size, 0, none⟩ (.int .i64 2)).setCell ⟨w5.heap.size, 1, none⟩ (.int .i64 0)).setCell ⟨w5.heap.size, 2, none⟩ (.float .f64 (Flo.cop .add SM FV))).setCell ⟨w5.heap.size, 3, none⟩ (.string ⟨#[]⟩)).setCell ⟨w5.heap.size, 4, none⟩ (.slice none 0 0)) from ⟨s5o TU4.out.1 (by omega), s5r TU4.out.2.1, s5o TU4.out.2.2.1 (by omega), s5b TU4.out.2.2.2 (by omega)⟩)
        clear TU4
        clear b30 b31 b32 b33 b34 b3f b3l
        go_wp2_with fail
        refine hK.out _ _ ?hsv24_ (fun hH => ?_)
        case hsv24_ => exact ⟨rc TU5.out.2.1 0, rc TU5.out.2.1 1, rc TU5.out.2.1 3, rc TU5.out.2.1 4, rc TU5.out.2.2.1 0, rc TU5.out.2.2.1 1, rc TU5.out.2.2.1 2, rc TU5.out.2.2.1 3, rc TU5.out.2.2.1 4⟩
        clear hK K
        (try simp only [Act.put, pk0, pk1, pk2])
        refine wpAnyH_done (by kernel_rfl) ?_ _
        revert TU5
        generalize (((((w20.setCell ⟨w5.heap.size, 0, none⟩ (.int .i64 2)).setCell ⟨w5.heap.size, 1, none⟩ (.int .i64 0)).setCell ⟨w5.heap.size, 2, none⟩ (.float .f64 (Flo.cop .add SM FV))).setCell ⟨w5.heap.size, 3, none⟩ (.string ⟨#[]⟩)).setCell ⟨w5.heap.size, 4, none⟩ (.slice none 0 0)) = Wf
        intro TU5
        have HSN := Lib.hid (show sumL (ES.take (i + 1)) = Flo.cop .add SM FV by rw [sum_take (show i < ES.length by have := HLEN.out; omega), HSM.out, ← HSV.out, HVV.out.2])
        go_wp2
        go_roundw
        case rel => exact ⟨i + 1, by omega, by go_num, TU5.out.1, by rw [HSN.out]; exact TU5.out.2.1, TU5.out.2.2.2⟩
        case measure => simp [intOf]; omega
    · obtain rfl : i = l := by omega
      have HSN := Lib.hid (show sumL ES = SM by rw [← HSM.out, List.take_of_length_le (by have := HLEN.out; omega)])
      obtain ⟨c0_0, c0_1, c0_2, c0_3, c0_4, c0f, c0l⟩ := r7 TU0.out.1
      obtain ⟨c1_0, c1_1, c1_2, c1_3, c1_4, c1f, c1l⟩ := r7 TU0.out.2.1
      go_wp2
      refine bodyPost_ret (v := .agg #[.int .i64 2, .int .i64 0, .float .f64 SM, .string ⟨#[]⟩, .slice none 0 0]) (by simp [results, Tryz.results59, go_sem, World.cell?_setCell_same, World.cell?_setCell_other, c0_0, c0_1, c0_2, c0_3, c0_4]) rfl ⟨by rw [HSN.out], ?_⟩
      exact set5_below (g := w.heap.size) (o := 0) TU0.out.2.2 (Nat.le_refl _) _ _ _ _ _
end Num
end Go.Proofs.YtpbfaffheigjcaaGreat
/-
  Package ledger: names.
-/
namespace Go.Proofs.YtpbfaffheigjcaaGreat
open Go.RowKit
namespace Num
open Ints
set_option linter.unusedSimpArgs false
set_option linter.unusedVariables false
set_option maxRecDepth 100000 in
set_option maxHeartbeats 4000000 in
theorem lnames_any (n : Nat) (p : Option Addr) (l c : Nat) (ES : List (ByteArray × VT (n + 1))) (w0 w : World) (hbw : Below w0.heap.size w0 w) (h : RepL w (Rep w0 (n + 2)) p l c (ES.map (pairE n))) (hl : l ≤ 1000) :
    Calls Tryz.prog 58 #[.slice p l c] w fun e w' => ∃ p' c', e = .returned (.agg #[.int .i64 4, .int .i64 0, .float .f64 0, .string ⟨#[]⟩, .slice p' l c']) ∧ Below w.heap.size w w' ∧ ∀ y, Stay w.heap.size w' y → RepL y (Rep w0 (n + 1)) p' l c' (ES.map fun e => nameV n e.1) := by
  have HB0 := Lib.hid hbw
  have HL := Lib.hid h
  have HLEN := Lib.hid (show ES.length = l by have := h.1; rw [List.length_map] at this; exact this)
  have hl0 : (0 : Int) ≤ (l : Int) := by omega
  have HO := Lib.hid (ow_none (w.alloc (.cells #[.int .i64 0, .int .i64 0, .float .f64 0, .string ⟨#[]⟩, .slice none 0 0] 27)) (w.alloc (.cells #[.int .i64 0, .int .i64 0, .float .f64 0, .string ⟨#[]⟩, .slice none 0 0] 27)) (Rep w0 (n + 1)) br (Nat.le_refl _))
  have hcc : c ≤ 9223372036854775807 := by have := h.2.2.1; unfold maxLen at this; omega
  have HB := Lib.hid (bel_alloc (Below.refl w.heap.size w) (.cells #[.int .i64 0, .int .i64 0, .float .f64 0, .string ⟨#[]⟩, .slice none 0 0] 27))
  have HZA := Lib.hid (World.size_alloc w (.cells #[.int .i64 0, .int .i64 0, .float .f64 0, .string ⟨#[]⟩, .slice none 0 0] 27))
  have HRW := Lib.hid (row_alloc w #[.int .i64 0, .int .i64 0, .float .f64 0, .string ⟨#[]⟩, .slice none 0 0] 27)
  clear h hbw
  go_enter Tryz.func58, Tryz.ntmps58
  go_wp2
  generalize w.alloc (.cells #[.int .i64 0, .int .i64 0, .float .f64 0, .string ⟨#[]⟩, .slice none 0 0] 27) = wa at HO HB HRW HZA ⊢
  go_loopw [3, 8] (fun s3 s8 wr => ∃ (i : Nat) (q : Option Addr) (d : Nat), i ≤ l ∧ s3 = .slice q i d ∧ s8 = .int .i64 i ∧ OwV wa wr (Rep w0 (n + 1)) q i d ((ES.map fun e => nameV n e.1).take i)) (fun _ s8 _ => l - (intOf s8).toNat)
  case atStart => exact ⟨0, none, 0, by omega, rfl, rfl, HO.out⟩
  case round =>
    obtain ⟨i, q, d, hil, rfl, rfl, ho⟩ := hrel
    have HOW := Lib.hid ho
    have HBW := Lib.hid (bel_step HB.out (ow_rep ho).2)
    have HRO := Lib.hid (row_step HRW.out (ow_rep ho).2)
    clear ho
    by_cases hlt : i < l
    · obtain ⟨b, off, hpb, hit⟩ := HL.out.2.2.2 (by omega)
      subst hpb
      have hei : i < ES.length := by have := HLEN.out; omega
      obtain ⟨v0, v1, v2, v3, v4, c0, c1, c2, c3, c4, hre⟩ := hit i (by rw [List.length_map]; exact hei)
      rw [List.getElem_map] at hre
      have hre' : Rep w0 (n + 2) (.agg #[v0, v1, v2, v3, v4]) (pairT n ES[i].1 ES[i].2) := hre
      obtain ⟨g, o, dd, hv, ⟨n0, n1, n2, n3, qn, dn, n4, hdn⟩, hsz, _⟩ := pair_mem hre'
      injection hv with hv
      simp only [Array.mk.injEq, List.cons.injEq, and_true] at hv
      obtain ⟨rfl, rfl, rfl, rfl, rfl⟩ := hv
      have hB := HBW.out
      have e0 := ck hB c0; have e1 := ck hB c1; have e2 := ck hB c2; have e3 := ck hB c3; have e4 := ck hB c4
      have hB' := bel_step HB0.out hB
      have m0 := ck hB' n0; have m1 := ck hB' n1; have m2 := ck hB' n2; have m3 := ck hB' n3; have m4 := ck hB' n4
      have elt := cell_lt e0
      have mlt := cell_lt m0
      have elt' : b < wr.heap.size := elt
      have mlt' : g < wr.heap.size := mlt
      have ene : wr.heap.size ≠ b := by omega
      have mne : wr.heap.size ≠ g := by omega
      have ene1 : wr.heap.size + 1 ≠ b := by omega
      have mne1 : wr.heap.size + 1 ≠ g := by omega
      have hi0 : (0 : Int) ≤ (i : Int) := by omega
      have hil2 : (i : Int) < (l : Int) := by omega
      obtain ⟨oe, hoe⟩ : ∃ o', Obj.cells #[.int .i64 4, .int .i64 0, .float .f64 0, .string ⟨#[]⟩, .slice (some ⟨g, o, none⟩) 2 dd] 27 = o' := ⟨_, rfl⟩
      have hn := row_alloc (wr.alloc oe) #[.int .i64 3, .int .i64 0, .float .f64 0, .string ES[i].1, .slice qn 0 dn] 27
      rw [World.size_alloc] at hn
      have hal := bel_alloc (bel_alloc (Below.refl wr.heap.size wr) oe) (.cells #[.int .i64 3, .int .i64 0, .float .f64 0, .string ES[i].1, .slice qn 0 dn] 27)
      have HO2 := Lib.hid (ow_step HOW.out hal)
      have HN := Lib.hid (row1_rep (R := Rep w0 (n + 1)) (A := nameV n ES[i].1) hn ⟨qn, 0, dn, rfl, (by decide : okI 3), (by decide : okI 0), (by decide : (0 : Nat) < 2 ^ 64), hsz, rfl, Nat.zero_le _, hdn, fun h => absurd h (Nat.lt_irrefl _)⟩)
      subst hoe
      have HTK := Lib.hid (show (ES.map fun e => nameV n e.1).take (i + 1) = (ES.map fun e => nameV n e.1).take i ++ [nameV n ES[i].1] by rw [List.take_add_one, List.getElem?_map, List.getElem?_eq_getElem hei]; rfl)
      obtain ⟨NM, hnm⟩ : ∃ z, ES[i].1 = z := ⟨_, rfl⟩
      rw [hnm] at HN HO2 HTK m3
      clear hn hal hre hre' hit c0 c1 c2 c3 c4 n0 n1 n2 n3 n4 hB hB' hsz hnm
      go_wp2_with (at_builtin; refine wp_ovs rfl (.tmp 12) (.tmp 17) rfl (rep_one w0 (n + 1)) wa _ q i d _ (some ⟨wr.heap.size + 1, 0, none⟩) 1 1 [nameV n NM] rfl rfl HO2.out HN.out (by omega) ?_; intro p2 c2 w2 ho2; rw [← HTK.out] at ho2; have HO3 := Lib.hid ho2; clear ho2)
      go_roundw
      case rel => exact ⟨i + 1, p2, c2, by omega, rfl, by go_num, HO3.out⟩
      case measure => simp [intOf]; omega
    · obtain rfl : i = l := by omega
      go_wp2_with fail
      go_at_call 28; refine (llist_any _ _ _ _).mono ?_; rintro e w3 ⟨rfl, hb3⟩
      have HB3 := Lib.hid (bel_step HBW.out hb3)
      have x := row_step HRO.out hb3
      have p0 := rc x 0; have p1 := rc x 1; have p2 := rc x 2; have p3 := rc x 3; have p4 := rc x 4
      simp only [lk0, lk1, lk2] at p0 p1 p2 p3 p4
      have f := fun o => row_frz x o
      have lx : w.heap.size < w3.heap.size := row_lt x
      have HST := Lib.hid (show ∀ y, Stay w.heap.size (set5 w3 w.heap.size 0 (.int .i64 4) (.int .i64 0) (.float .f64 0) (.string ⟨#[]⟩) (.slice q i d)) y → RepL y (Rep w0 (n + 1)) q i d (ES.map fun e => nameV n e.1) from fun y hy => by
        have h1 := (ow_rep HOW.out).1 y (fun b hb1 hb2 => by
          have h2 := HZA.out
          have h3 := hb3.size
          refine (hy b (by omega) (by rw [set5_size]; omega)).trans ?_
          exact (set5_other (by omega)).trans (hb3.block b hb2))
        rw [List.take_of_length_le (by rw [List.length_map, HLEN.out]; exact Nat.le_refl _)] at h1
        exact h1)
      clear hb3 x HOW HBW HRO
      go_wp2
      refine bodyPost_ret (v := .agg #[.int .i64 4, .int .i64 0, .float .f64 0, .string ⟨#[]⟩, .slice q i d]) (by simp [results, Tryz.results58, go_sem, World.cell?_setCell_same, World.cell?_setCell_other, p0, p1, p2, p3, p4]) rfl ⟨q, d, rfl, ?_, HST.out⟩
      exact set5_below (g := w.heap.size) (o := 0) HB3.out (Nat.le_refl _) _ _ _ _ _
end Num
end Go.Proofs.YtpbfaffheigjcaaGreat
/-
  Package ledger: names, total on ledgers of floats.
-/
namespace Go.Proofs.YtpbfaffheigjcaaGreat
open Go.RowKit
namespace Num
open Ints
set_option linter.unusedSimpArgs false
set_option linter.unusedVariables false
theorem sum_le {AS : List (ByteArray × Nat)} (h : ∀ e ∈ AS, e.2 < 9218868437227405312) : sumL (ledA AS) ≤ 9218868437227405312 := by
  unfold sumL ledA
  rw [List.foldl_map]
  have go : ∀ (L : List (ByteArray × Nat)) (s : Nat), s ≤ 9218868437227405312 → (∀ e ∈ L, e.2 < 9218868437227405312) → L.foldl (fun s e => Flo.cop .add s (e.1, floT 0 e.2).2.2.2.1) s ≤ 9218868437227405312 := by
    intro L
    induction L with
    | nil => intro s hs _; exact hs
    | cons x r ih =>
      intro s hs hL
      exact ih _ (cop_add hs (Nat.le_of_lt (hL x List.mem_cons_self))).1 (fun e he => hL e (List.mem_cons_of_mem _ he))
  exact go AS 0 (Nat.zero_le _) h
theorem small_le {F : Nat} (h : F ≤ 9218868437227405312) : SmallV (floT 0 F) := ⟨⟨9, measT_num rfl rfl, by decide, by decide⟩, partsT_else rfl, by
  show ((2, 0, Flo.canon F, ⟨#[]⟩, []) : VT 1) = _
  rw [Flo.canon_yes (feq_pos h)]; rfl⟩
theorem ldo_total {AS : List (ByteArray × Nat)} (hok : OkA AS) {s : Value} {pl : Option Addr} {cl : Nat} {w : World} (hs : Rep w 3 s (tableT 0 (ledA AS))) (hr : RepL w (Rep w 1) pl 0 cl []) :
    Calls Tryz.prog 12 #[s, .string { data := #[116, 111, 116, 97, 108] }, .slice pl 0 cl] w fun e w' => DoQ w 3 1 (tableT 0 (ledA AS)) (floT 0 (sumL (ledA AS))) 0 e w' := by
  obtain ⟨p, l, c, rfl, hrl⟩ := led_mem hs
  have hll := len_A hrl
  rw [ledA_len] at hll
  have hl32 := hok.2.1
  have hsm := small_le (sum_le hok.2.2)
  have h := ldo_run 0 0 l p l c _ pl 0 cl w (right_A hok hs) (check_A (chk_lnil _ (Or.inr rfl)) (fun T hT => absurd hT List.not_mem_nil) hr) ((ledA AS).map (pairE 0)) (floT 0 (sumL (ledA AS))) (Lib.hid (fun W hb => ?_)) (Lib.hid (okA_cln hok)) (Lib.hid (small_cln hsm).2)
  · rw [hsm.2.2] at h
    have e := okA_clean hok
    unfold tableT at e ⊢
    rw [e] at h
    exact h
  · refine run_total 0 0 p l c pl cl W _ (Lib.hid (repL_acc hb hrl)) _ (Lib.hid (fun W2 hb2 => ?_))
    refine (total_any 0 p l c (ledA AS) W W2 (Lib.hid hb2) (Lib.hid (repL_acc hb hrl)) (by omega) (okA_L hok).2.2).mono ?_
    rintro e w' ⟨rfl, hb'⟩
    exact ⟨_, rfl, hb', fun y _ _ => flo_repn 0 y (by have := sum_le hok.2.2; omega)⟩
theorem nm_small {k : ByteArray} (hk : nmV 3 k = true) : measT 1 (nameV 0 k) = (false, false, 0, 3 + (k.size : Int)) ∧ 0 ≤ 3 + (k.size : Int) ∧ 3 + (k.size : Int) ≤ 40 := by
  unfold nmV at hk
  rw [Bool.and_eq_true, Bool.and_eq_true, decide_eq_true_iff, decide_eq_true_iff, decide_eq_true_iff] at hk
  obtain ⟨_, h1, h2⟩ := hk
  unfold nameV
  rw [measT_text rfl rfl rfl]
  have e1 : decide (256 < (k.size : Int)) = false := by rw [decide_eq_false_iff_not]; omega
  have e2 : wrap64 (3 + (k.size : Int)) = 3 + (k.size : Int) := by unfold wrap64; omega
  rw [e1, e2]
  exact ⟨rfl, by omega, by omega⟩
theorem fold_names : ∀ (L : List (VT 1)), (∀ x ∈ L, ∃ z, measT 1 x = (false, false, 0, z) ∧ 0 ≤ z ∧ z ≤ 40) → ∀ (z : Int), 0 ≤ z → z + 40 * L.length ≤ 4096 → ∃ z', L.foldl (fun a x => withM a (measT 1 x)) (false, false, 1, z) = (false, false, 1, z') ∧ 0 ≤ z' ∧ z' ≤ 4096
  | [], _, z, h0, h1 => ⟨z, rfl, h0, by simp at h1; omega⟩
  | x :: r, h, z, h0, h1 => by
    obtain ⟨zx, hx, x0, x1⟩ := h x List.mem_cons_self
    rw [List.length_cons] at h1
    rw [List.foldl_cons, hx, with_small h0 (by omega) x0 (by omega) (by omega) (by omega)]
    exact fold_names r (fun y hy => h y (List.mem_cons_of_mem _ hy)) _ (by omega) (by omega)
def namesT (NS : List ByteArray) : VT 2 := (4, 0, 0, ⟨#[]⟩, NS.map (nameV 0))
theorem names_cln {NS : List ByteArray} (h : ∀ k ∈ NS, nmV 3 k = true) (hl : NS.length ≤ 32) : Cln 2 (namesT NS) ∧ cleanT 2 (namesT NS) = namesT NS := by
  have hm : ∀ x ∈ NS.map (nameV 0), ∃ k, k ∈ NS ∧ x = nameV 0 k := by
    intro x hx
    obtain ⟨k, hk, rfl⟩ := List.mem_map.1 hx
    exact ⟨k, hk, rfl⟩
  refine ⟨⟨?_, ?_, ?_⟩, ?_⟩
  · unfold namesT
    rw [deepT_succ rfl, List.any_eq_false]
    intro x hx
    obtain ⟨k, hk, rfl⟩ := hm x hx
    rw [deep1]; simp
  · unfold namesT
    rw [partsT_list rfl]
    have : ∀ (L : List (VT 1)) (a : Nat), (∀ x ∈ L, partsT 1 x = 1) → L.foldl (fun a x => a + partsT 1 x) a = a + L.length := by
      intro L
      induction L with
      | nil => intro a _; rfl
      | cons x r ih => intro a h; rw [List.foldl_cons, ih _ (fun y hy => h y (List.mem_cons_of_mem _ hy)), h x List.mem_cons_self, List.length_cons]; omega
    rw [this _ _ (fun x hx => by obtain ⟨k, hk, rfl⟩ := hm x hx; rfl), List.length_map]
    omega
  · obtain ⟨z', hf, h0, h1⟩ := fold_names (NS.map (nameV 0)) (fun x hx => by
      obtain ⟨k, hk, rfl⟩ := hm x hx
      exact ⟨_, nm_small (h k hk)⟩) 2 (by decide) (by rw [List.length_map]; omega)
    unfold namesT
    rw [measT_list rfl rfl rfl rfl, List.length_map, show decide (64 < (NS.length : Int)) = false by rw [decide_eq_false_iff_not]; omega, hf]
    refine walk_check ?_
    have e2 : decide (4096 < z') = false := by rw [decide_eq_false_iff_not]; omega
    show (if false = true then (31 : Int) else if (false || decide (8 < (1 : Int)) || decide (4096 < z')) = true then 22 else 0) = 0
    rw [e2]; rfl
  · unfold namesT
    show ((4, 0, 0, ⟨#[]⟩, (NS.map (nameV 0)).map (cleanT 1)) : VT 2) = _
    congr 4
    rw [List.map_map]
    refine List.map_congr_left (fun k hk => rfl)
theorem ldo_names {AS : List (ByteArray × Nat)} (hok : OkA AS) {s : Value} {pl : Option Addr} {cl : Nat} {w : World} (hs : Rep w 3 s (tableT 0 (ledA AS))) (hr : RepL w (Rep w 1) pl 0 cl []) :
    Calls Tryz.prog 12 #[s, .string { data := #[110, 97, 109, 101, 115] }, .slice pl 0 cl] w fun e w' => DoQ w 3 2 (tableT 0 (ledA AS)) (namesT (AS.map (·.1))) 0 e w' := by
  obtain ⟨p, l, c, rfl, hrl⟩ := led_mem hs
  have hll := len_A hrl
  rw [ledA_len] at hll
  have hl32 := hok.2.1
  have hnc := names_cln hok.1.1 (by rw [List.length_map]; exact hl32)
  have h := ldo_run 0 1 l p l c _ pl 0 cl w (right_A hok hs) (check_A (chk_lnil _ (Or.inl rfl)) (fun T hT => absurd hT List.not_mem_nil) hr) ((ledA AS).map (pairE 0)) (namesT (AS.map (·.1))) (Lib.hid (fun W hb => ?_)) (Lib.hid (okA_cln hok)) (Lib.hid hnc.1)
  · rw [hnc.2] at h
    have e := okA_clean hok
    unfold tableT at e ⊢
    rw [e] at h
    exact h
  · refine run_names 0 1 p l c pl cl W _ (Lib.hid (repL_acc hb hrl)) _ (Lib.hid (fun W2 hb2 => ?_))
    refine (lnames_any 0 p l c (ledA AS) W W2 hb2 (repL_at hb2 (repL_acc hb hrl)) (by omega)).mono ?_
    rintro e w' ⟨p', c', rfl, hb', hn⟩
    refine ⟨_, rfl, hb', fun y hy hst => ?_⟩
    have h1 := list_rep (repL_mono (fun v X hv => rep_keep hy _ _ _ hv) (hn y hst))
    have e : (ledA AS).map (fun e => nameV 0 e.1) = (AS.map (·.1)).map (nameV 0) := by unfold ledA; rw [List.map_map, List.map_map]; rfl
    rw [e] at h1
    have hl2 : l = (AS.map (·.1)).length := by rw [List.length_map]; omega
    exact h1
end Num
end Go.Proofs.YtpbfaffheigjcaaGreat
