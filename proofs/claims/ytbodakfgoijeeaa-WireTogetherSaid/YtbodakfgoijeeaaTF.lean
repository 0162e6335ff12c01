/-
  WireTogether's walk.
-/
import Derived.Test.YtbodakfgoijeeaaTB
import Derived.Test.YtbodakfgoijeeaaTC
import Derived.Test.YtbodakfgoijeeaaTD
import Derived.Test.YtbodakfgoijeeaaTE
import Derived.Test.YtbodakfgoijeeaaTG
import Derived.Deep.RegionHeld3
import Derived.Test.YtbodakfgoijeeaaMJ
import Derived.Test.YtbodakfgoijeeaaWN
namespace Go.Proofs.Ytbodakfgoijeeaa
open Go.RowKit
namespace Num
open Ints
set_option linter.unusedSimpArgs false
set_option linter.unusedVariables false
theorem rd_own {w : World} {p : Option Addr} {l c : Nat} {X : List Int} (h : RdB w p l c X) : RdB w p l l X := ⟨h.1, Nat.le_refl _, Nat.le_trans h.2.1 h.2.2.1, h.2.2.2.1, fun e => by have h0 := h.2.2.2.2 e; have := h.2.1; omega⟩
theorem in_own {w : World} {p : Option Addr} {l c : Nat} {X : List Int} (h : RdB w p l c X) : InB w w p l l X := Or.inr ⟨rfl, rd_own h, Below.refl _ _, Nat.le_refl _⟩
theorem om_up {M M' : Nat} {W0 w : World} {n : Nat} {p : Option Addr} {l c : Nat} {L : List (VT n)} (h : OwM M W0 w n p l c L) (h1 : M ≤ M') (h2 : M' ≤ w.heap.size) : OwM M' W0 w n p l c L := by
  obtain ⟨XS, k1, k2, k3, k4, hM, g, k5⟩ := h
  refine ⟨XS, k1, k2, k3, k4, h2, g, fun i hi => ?_⟩
  obtain ⟨v0, v1, v2, v3, v4, c0, c1, c2, c3, c4, hr⟩ := k5 i hi
  exact ⟨v0, v1, v2, v3, v4, c0, c1, c2, c3, c4, repC_mono n _ _ _ _ (fun b hb' => ⟨hb'.1, Nat.lt_of_lt_of_le hb'.2.1 h1, hb'.2.2⟩) hr⟩
/-- Bytes in a block that an append leaves as it was. -/
theorem rd_block {w w' : World} {p : Option Addr} {l c : Nat} {X : List Int} (h : RdB w p l c X) (hk : ∀ b off, p = some ⟨b, off, none⟩ → b < w.heap.size → w'.heap[b]? = w.heap[b]?) : RdB w' p l c X := by
  obtain ⟨h1, h2, h3, h4, h5⟩ := h
  refine ⟨h1, h2, h3, fun hl => ?_, h5⟩
  obtain ⟨b, off, hp, hi⟩ := h4 hl
  refine ⟨b, off, hp, fun i hi' => ?_⟩
  have hc := hi i hi'
  have hlt : b < w.heap.size := World.block_lt_of_cell? w _ hc
  exact cell_block (hk b off hp hlt) hc
def GoodT (n : Nat) (x : VT n) : Prop := okT n x ∧ greatT n 0 x = false ∧ (encV n x).length ≤ 4096 ∧ By (encV n x)
theorem good_len {n : Nat} : ∀ (G : List (VT n)), (∀ x ∈ G, GoodT n x) → (G.flatMap (encV n)).length ≤ 4096 * G.length ∧ By (G.flatMap (encV n)) := by
  intro G
  induction G with
  | nil => intro _; exact ⟨by simp, fun x hx => by simp at hx⟩
  | cons a G ih =>
    intro h
    obtain ⟨i1, i2⟩ := ih (fun x hx => h x (by simp [hx]))
    have ha := h a (by simp)
    rw [List.flatMap_cons]
    refine ⟨by rw [List.length_append, List.length_cons]; have := ha.2.2.1; omega, fun x hx => ?_⟩
    rcases List.mem_append.1 hx with hx | hx
    · exact ha.2.2.2 x hx
    · exact i2 x hx
/-- What the first loop holds on to. -/
def Tg (w : World) (n : Nat) (wr : World) (pb : Option Addr) (lb cb : Nat) (q : Option Addr) (kk dd : Nat) (G : List (VT n)) : Prop :=
  RdB wr pb lb cb (G.flatMap (encV n)) ∧ OwL w wr n q kk dd (G.map (cleanT n)) ∧ (∀ x ∈ G, GoodT n x)
def Th (wr : World) (pb : Option Addr) (lb cb : Nat) (X : List Int) (W : World) : Prop := RdB W pb lb cb X ∧ Below wr.heap.size wr W
def S5 (wr : World) (pb : Option Addr) (lb cb : Nat) (X : List Int) (b o : Nat) (v0 v1 v2 v3 v4 : Value) (W : World) : Prop := W.cell? ⟨b, o, none⟩ = some v0 ∧ W.cell? ⟨b, o + 1, none⟩ = some v1 ∧ W.cell? ⟨b, o + 2, none⟩ = some v2 ∧ W.cell? ⟨b, o + 3, none⟩ = some v3 ∧ W.cell? ⟨b, o + 4, none⟩ = some v4 ∧ Th wr pb lb cb X W
theorem s5_step {wr W W' : World} {pb : Option Addr} {lb cb : Nat} {X : List Int} {b o : Nat} {v0 v1 v2 v3 v4 : Value} (h : S5 wr pb lb cb X b o v0 v1 v2 v3 v4 W) (hb : Below W.heap.size W W') : S5 wr pb lb cb X b o v0 v1 v2 v3 v4 W' := by
  obtain ⟨h0, h1, h2, h3, h4, h5, h6⟩ := h
  exact ⟨cell_keep hb h0, cell_keep hb h1, cell_keep hb h2, cell_keep hb h3, cell_keep hb h4, rd_keep hb h5, bel_step h6 hb⟩
theorem s5_drew {wr W : World} {pb : Option Addr} {lb cb : Nat} {X : List Int} {b o : Nat} {v0 v1 v2 v3 v4 : Value} (h : S5 wr pb lb cb X b o v0 v1 v2 v3 v4 W) : S5 wr pb lb cb X b o v0 v1 v2 v3 v4 W.drew := s5_step h (Below.drew (Below.refl _ _))
theorem size_u8 (V : World) : (sizeOf (Try.prog.elem 22)).run Try.prog V = .ok 1 V := by
  have h : Try.prog.elem 22 = 5 := by simp [Program.elem, Try.underlying22]
  rw [h]
  exact show _ = _ from by kernel_rfl
theorem elem_u8 : Try.prog.underlying 22 = some (.slice (Try.prog.elem 22)) := by
  have h : Try.prog.elem 22 = 5 := by simp [Program.elem, Try.underlying22]
  rw [h]
  exact Try.underlying22
theorem slice_own {W : World} {pb : Option Addr} {lb cb : Nat} {X : List Int} (h : RdB W pb lb cb X) (V : World) : (Instr.slice 22 (.slice pb lb cb) none (some (.int .i64 lb)) (some (.int .i64 lb))).run Try.prog V = .ok (.slice pb lb lb) V := by
  have hlc := h.2.1
  rw [run_slice_hm V 22 pb lb cb elem_u8 .i64 .i64 lb lb (by omega) (by omega) (by omega), size_u8]
  show Result.ok (sliced pb 0 ((lb : Int)).toNat ((lb : Int)).toNat 1) V = _
  rw [show ((lb : Int)).toNat = lb by omega]
  unfold sliced
  by_cases h0 : lb = 0
  · rw [if_pos h0, Nat.sub_zero]
  · rw [if_neg h0, Nat.sub_zero]
    obtain ⟨b, off, hp, _⟩ := h.2.2.2.1 (by omega)
    subst hp
    simp [Addr.add]
theorem slice_from {W : World} {pb : Option Addr} {lb cb : Nat} {X : List Int} (h : RdB W pb lb cb X) (nn : Nat) (h0 : 0 < nn) (hn : nn ≤ lb) :
    ∃ p', (∀ V, (Instr.slice 22 (.slice pb lb cb) (some (.int .i64 nn)) none none).run Try.prog V = .ok (.slice p' (lb - nn) (cb - nn)) V) ∧ ∀ W', RdB W' pb lb cb X → RdB W' p' (lb - nn) (cb - nn) (X.drop nn) := by
  have hlc := h.2.1
  have hX := h.1
  obtain ⟨b, off, hp, _⟩ := h.2.2.2.1 (by omega)
  subst hp
  have hrun : ∀ V, (Instr.slice 22 (.slice (some ⟨b, off, none⟩) lb cb) (some (.int .i64 nn)) none none).run Try.prog V = .ok (.slice (if cb = nn then some ⟨b, off, none⟩ else some ⟨b, off + nn, none⟩) (lb - nn) (cb - nn)) V := fun V => by
    rw [run_slice_l V 22 (some ⟨b, off, none⟩) lb cb elem_u8 .i64 nn (by omega) (by omega), size_u8]
    show Result.ok (sliced (some ⟨b, off, none⟩) ((nn : Int)).toNat lb cb 1) V = _
    rw [show ((nn : Int)).toNat = nn by omega]
    unfold sliced
    simp [Addr.add, Nat.ne_of_gt h0]
  refine ⟨_, hrun, fun W' hW => ?_⟩
  by_cases hc : cb = nn
  · rw [if_pos hc]
    have e : X.drop nn = [] := List.drop_eq_nil_of_le (by omega)
    rw [e, show lb - nn = 0 by omega, show cb - nn = 0 by omega]
    exact ⟨rfl, Nat.le_refl _, Nat.zero_le _, fun h => absurd h (Nat.lt_irrefl _), fun h => by cases h⟩
  · rw [if_neg hc]
    exact rd_from hW hn hc
theorem enc_pos (m : Nat) (T : VT (m + 1)) : 0 < (encV (m + 1) T).length := by
  unfold encV
  split
  · simp
  · split
    · simp
    · split
      · simp
      · split <;> simp
/-- Ten cells, and that all stands that was there. -/
def S10 (w4 : World) (a : Nat) (x0 x1 x2 x3 x4 : Value) (b o : Nat) (v0 v1 v2 v3 v4 : Value) (W : World) : Prop := W.cell? ⟨a, 0, none⟩ = some x0 ∧ W.cell? ⟨a, 1, none⟩ = some x1 ∧ W.cell? ⟨a, 2, none⟩ = some x2 ∧ W.cell? ⟨a, 3, none⟩ = some x3 ∧ W.cell? ⟨a, 4, none⟩ = some x4 ∧ W.cell? ⟨b, o, none⟩ = some v0 ∧ W.cell? ⟨b, o + 1, none⟩ = some v1 ∧ W.cell? ⟨b, o + 2, none⟩ = some v2 ∧ W.cell? ⟨b, o + 3, none⟩ = some v3 ∧ W.cell? ⟨b, o + 4, none⟩ = some v4 ∧ Below w4.heap.size w4 W
theorem s10_step {w4 W W' : World} {a : Nat} {x0 x1 x2 x3 x4 : Value} {b o : Nat} {v0 v1 v2 v3 v4 : Value} (h : S10 w4 a x0 x1 x2 x3 x4 b o v0 v1 v2 v3 v4 W) (hb : Below W.heap.size W W') : S10 w4 a x0 x1 x2 x3 x4 b o v0 v1 v2 v3 v4 W' := by
  obtain ⟨g0, g1, g2, g3, g4, h0, h1, h2, h3, h4, h6⟩ := h
  exact ⟨cell_keep hb g0, cell_keep hb g1, cell_keep hb g2, cell_keep hb g3, cell_keep hb g4, cell_keep hb h0, cell_keep hb h1, cell_keep hb h2, cell_keep hb h3, cell_keep hb h4, bel_step h6 hb⟩
theorem s10_drew {w4 W : World} {a : Nat} {x0 x1 x2 x3 x4 : Value} {b o : Nat} {v0 v1 v2 v3 v4 : Value} (h : S10 w4 a x0 x1 x2 x3 x4 b o v0 v1 v2 v3 v4 W) : S10 w4 a x0 x1 x2 x3 x4 b o v0 v1 v2 v3 v4 W.drew := s10_step h (Below.drew (Below.refl _ _))
set_option maxRecDepth 100000 in
set_option maxHeartbeats 8000000 in
theorem together_in (m : Nat) (hn : 4096 ≤ m + 1) (w : World) (p : Option Addr) (l c : Nat) (L : List (VT (m + 1))) (h : RepL w (Rep w (m + 1)) p l c L) :
    Calls Try.prog 4 #[.slice p l c] w fun e w' => e = .returned (.bool true) ∧ Below w.heap.size w w' := by
  have HR := Lib.hid h
  clear h
  go_enter Try.func4, Try.ntmps4
  go_wp2_with fail
  go_at_call 5; refine (known_any _).mono ?_; rintro e w1 ⟨rfl, hb1⟩
  have HB1 := Lib.hid hb1
  have HR1 := Lib.hid (repL_keep hb1 (fun v x hx => rep_keep hb1 (m + 1) v x hx) HR.out)
  clear hb1
  go_wp2_with fail
  go_at_call 11; refine (lights_any m p l c L _ HR1.out).mono ?_; rintro e w2 ⟨rfl, hb2⟩
  have HB2 := Lib.hid (bel_step HB1.out hb2)
  have HR2 := Lib.hid (repL_keep hb2 (fun v x hx => rep_keep hb2 (m + 1) v x hx) HR1.out)
  clear hb2
  cases hlg : (decide (l ≤ 40) && L.all (lightT (m + 1))) with
  | false =>
    go_wp2
    go_ret
    exact ⟨rfl, HB2.out⟩
  | true =>
    have hl40 : l ≤ 40 := by
      rw [Bool.and_eq_true, decide_eq_true_eq] at hlg
      exact hlg.1
    clear hlg
    go_wp2
    go_loopw [3, 4, 5] (fun bv wv i wr => ∃ (k : Nat) (G : List (VT (m + 1))) (pb : Option Addr) (lb cb : Nat) (q : Option Addr) (kk dd : Nat), k ≤ l ∧ G.length ≤ k ∧ i = .int .i64 k ∧ bv = .slice pb lb cb ∧ wv = .slice q kk dd ∧ Tg w (m + 1) wr pb lb cb q kk dd G) (fun _ _ i _ => l - (RowKit.intOf i).toNat)
    case atStart => exact ⟨0, [], none, 0, 0, none, 0, 0, Nat.zero_le _, Nat.zero_le _, rfl, rfl, rfl, rd_nil _, ol_nil _ _ _ HB2.out HB2.out.size, fun x hx => by simp at hx⟩
    case round =>
      obtain ⟨k, G, pb, lb, cb, q, kk, dd, hk, hGk, rfl, rfl, rfl, htg⟩ := hrel
      have HTG := Lib.hid htg
      have HB := Lib.hid (ow_bel_l htg.2.1)
      have hlb1 : lb ≤ 163840 := by
        have h1 := htg.1.1
        have h2 := (good_len G htg.2.2).1
        omega
      have hcb := htg.1.2.1
      have hcm := htg.1.2.2.1
      unfold maxLen at hcm
      clear htg
      by_cases hlt : k < l
      · obtain ⟨b, off, hp, hi⟩ := HR.out.2.2.2 (by omega)
        subst hp
        have hkl : k < L.length := by have := HR.out.1; omega
        obtain ⟨v0, v1, v2, v3, v4, c0, c1, c2, c3, c4, hr⟩ := hi k hkl
        have HREP := Lib.hid (rep_keep HB.out (m + 1) _ _ hr)
        have hs5 : S5 wr pb lb cb (G.flatMap (encV (m + 1))) b (off + k * 5) v0 v1 v2 v3 v4 wr := ⟨cell_keep HB.out c0, cell_keep HB.out c1, cell_keep HB.out c2, cell_keep HB.out c3, cell_keep HB.out c4, HTG.out.1, Below.refl _ _⟩
        have hsl := fun V => slice_own HTG.out.1 V
        have hkl2 : (k : Int) < (l : Int) := by omega
        have hlc := HR.out.2.1
        have hcc := HR.out.2.2.1
        unfold maxLen at hcc
        clear c0 c1 c2 c3 c4 hr hi
        obtain ⟨T, hT⟩ : ∃ T, T = L[k] := ⟨_, rfl⟩
        rw [← hT] at HREP
        by_cases hc : rcheckT (m + 1) T = 0
        · obtain ⟨l3, hl3⟩ : ∃ l3, l3 = lb + (encV (m + 1) T).length := ⟨_, rfl⟩
          have HPUT := Lib.hid (show ∀ W : World, Th wr pb lb cb (G.flatMap (encV (m + 1))) W → Calls Try.prog 7 #[.slice pb lb lb, .agg #[v0, v1, v2, v3, v4]] W fun e w' => ∃ p' c', e = .returned (.tuple #[.slice p' l3 c', .int .i64 0]) ∧ OwB W w' p' l3 c' (G.flatMap (encV (m + 1)) ++ encV (m + 1) T) from fun W hW => by
            rw [hl3]
            refine (rput_good (m + 1) W W pb lb lb _ _ T (rep_keep hW.2 (m + 1) _ _ HREP.out) (in_own hW.1) (by omega) hc).mono ?_
            rintro e w' ⟨p', c', rfl, ho, _⟩
            exact ⟨p', c', rfl, ho⟩)
          have HL3 := Lib.hid hl3
          have HGT := Lib.hid (show GoodT (m + 1) T from ⟨ok_of_rep (m + 1) _ _ HREP.out, (good_parts hc).2.1, (good_parts hc).2.2, enc_by (m + 1) T⟩)
          clear hl3 hT hc
          go_wp2_with fail
          go_region_held3 (fun w' => w'.cell? ⟨b, off + k * 5, none⟩ = some v0 ∧ w'.cell? ⟨b, off + k * 5 + 1, none⟩ = some v1 ∧ w'.cell? ⟨b, off + k * 5 + 2, none⟩ = some v2 ∧ w'.cell? ⟨b, off + k * 5 + 3, none⟩ = some v3 ∧ w'.cell? ⟨b, off + k * 5 + 4, none⟩ = some v4 ∧ Th wr pb lb cb (G.flatMap (encV (m + 1))) w') (first | exact (by assumption : S5 _ _ _ _ _ _ _ _ _ _ _ _ _) | exact s5_drew (by assumption)) (first
            | (go_at_call 7; refine (HPUT.out _ ?hs).mono ?_; (case hs => exact (by assumption : S5 _ _ _ _ _ _ _ _ _ _ _ _ _).2.2.2.2.2); rintro e w3 ⟨p3, c3, rfl, ho3⟩; have hk3 := s5_step (by assumption) (ow_bel ho3); have HO3 := Lib.hid ho3; clear ho3))
          have H3 := Lib.hid (by assumption : S5 wr pb lb cb (G.flatMap (encV (m + 1))) b (off + k * 5) v0 v1 v2 v3 v4 w3)
          have z0 := H3.out.1
          have z1 := H3.out.2.1
          have z2 := H3.out.2.2.1
          have z3 := H3.out.2.2.2.1
          have z4 := H3.out.2.2.2.2.1
          have HREP3 := Lib.hid (rep_keep H3.out.2.2.2.2.2.2 (m + 1) _ _ HREP.out)
          go_wp2_with fail
          go_at_call 12; refine (clean_any (m + 1) 0 _ T _ HGT.out.2.1 HREP3.out).mono ?_; rintro e w4 ⟨v, rfl, hb4, hrep4⟩
          obtain ⟨K, I, F, S, q', l', c', rfl, _⟩ := repS_shape hrep4
          have HB34 := Lib.hid hb4
          have HBr4 := Lib.hid (bel_step H3.out.2.2.2.2.2.2 hb4)
          have HO4 := Lib.hid (om_keep (om_keep HTG.out.2.1 H3.out.2.2.2.2.2.2) hb4)
          have HRC := Lib.hid (rep_fresh0 HTG.out.2.1 HBr4.out (repS_mono (fun b hb => Nat.le_trans H3.out.2.2.2.2.2.2.size hb) (m + 1) _ _ hrep4))
          have hkk : kk ≤ 1000000 := by have h := HTG.out.2.1; obtain ⟨_, _, h2, _⟩ := h; rw [List.length_map] at h2; omega
          clear hb4 hrep4 z0 z1 z2 z3 z4
          go_wp2_with (at_builtin; refine wp_ov2 rfl _ _ rfl wr.heap.size w w4 (m + 1) q kk dd _ _ _ _ _ _ _ rfl rfl HO4.out (by omega) HRC.out ?_; intro p5 c5 w5 ho5 hfr5; have HO5 := Lib.hid ho5; have HF5 := Lib.hid hfr5; clear ho5 hfr5)
          have HT5 := Lib.hid (show Tg w (m + 1) w5 p3 l3 c3 p5 (kk + 1) c5 (G ++ [T]) from by
            refine ⟨?_, ?_, ?_⟩
            · have e : (G ++ [T]).flatMap (encV (m + 1)) = G.flatMap (encV (m + 1)) ++ encV (m + 1) T := by rw [List.flatMap_append]; simp
              rw [e]
              refine rd_block (rd_keep HB34.out (rd_of_ow HO3.out)) (fun b' off' hp' hlt' => HF5.out b' hlt' (fun e' => ?_))
              have h1 := (ol_lt HTG.out.2.1 b' e').2
              subst hp'
              have h2 : wr.heap.size ≤ b' := (HO3.out.2.1.lt b' rfl).1
              omega
            · rw [List.map_append]
              exact HO5.out
            · intro x hx
              rcases List.mem_append.1 hx with hx | hx
              · exact HTG.out.2.2 x hx
              · rw [List.mem_singleton] at hx
                subst hx
                exact HGT.out)
          go_roundw
          case rel => exact ⟨k + 1, G ++ [T], p3, l3, c3, p5, kk + 1, c5, by omega, by rw [List.length_append]; simp; omega, by go_num, rfl, rfl, HT5.out⟩
          case measure => simp [RowKit.intOf]; omega
        · obtain ⟨E, hE⟩ : ∃ E, E = rcheckT (m + 1) T := ⟨_, rfl⟩
          have HPUT := Lib.hid (show ∀ W : World, Th wr pb lb cb (G.flatMap (encV (m + 1))) W → Calls Try.prog 7 #[.slice pb lb lb, .agg #[v0, v1, v2, v3, v4]] W fun e w' => e = .returned (.tuple #[.slice none 0 0, .int .i64 E]) ∧ Below W.heap.size W w' from fun W hW => by
            rw [hE]
            exact rput_bad (m + 1) W pb lb lb _ T (rep_keep hW.2 (m + 1) _ _ HREP.out) hc)
          have hE0 : ¬ E = 0 := by rw [hE]; exact hc
          have bE : (E == 0) = false := by rw [beq_eq_false_iff_ne]; exact hE0
          clear hE hT hc
          go_wp2_with fail
          go_region_held3 (fun w' => w'.cell? ⟨b, off + k * 5, none⟩ = some v0 ∧ w'.cell? ⟨b, off + k * 5 + 1, none⟩ = some v1 ∧ w'.cell? ⟨b, off + k * 5 + 2, none⟩ = some v2 ∧ w'.cell? ⟨b, off + k * 5 + 3, none⟩ = some v3 ∧ w'.cell? ⟨b, off + k * 5 + 4, none⟩ = some v4 ∧ Th wr pb lb cb (G.flatMap (encV (m + 1))) w') (first | exact (by assumption : S5 _ _ _ _ _ _ _ _ _ _ _ _ _) | exact s5_drew (by assumption)) (first
            | (go_at_call 7; refine (HPUT.out _ ?hs).mono ?_; (case hs => exact (by assumption : S5 _ _ _ _ _ _ _ _ _ _ _ _ _).2.2.2.2.2); rintro e w3 ⟨rfl, hb3⟩; have hk3 := s5_step (by assumption) hb3; clear hb3))
          have H3 := Lib.hid (by assumption : S5 wr pb lb cb (G.flatMap (encV (m + 1))) b (off + k * 5) v0 v1 v2 v3 v4 w3)
          go_wp2
          have HT5 := Lib.hid (show Tg w (m + 1) w3 pb lb cb q kk dd G from ⟨H3.out.2.2.2.2.2.1, om_up (om_keep HTG.out.2.1 H3.out.2.2.2.2.2.2) H3.out.2.2.2.2.2.2.size (Nat.le_refl _), HTG.out.2.2⟩)
          go_roundw
          case rel => exact ⟨k + 1, G, pb, lb, cb, q, kk, dd, by omega, by omega, by go_num, rfl, rfl, HT5.out⟩
          case measure => simp [RowKit.intOf]; omega
      · have hkl : k = l := by omega
        have hkl2 : ¬ (k : Int) < (l : Int) := by omega
        have HKK := Lib.hid (show G.length = kk from by have h := HTG.out.2.1; obtain ⟨_, _, h2, _⟩ := h; rw [List.length_map] at h2; exact h2)
        have HW := Lib.hid (show RepL wr (Rep wr (m + 1)) q kk dd (G.map (cleanT (m + 1))) from repLS_rep (ol_rep HTG.out.2.1))
        have HG0 := Lib.hid (show ((G.drop 0).flatMap (encV (m + 1))) = G.flatMap (encV (m + 1)) by rw [List.drop_zero])
        have hdk : kk ≤ dd := HW.out.2.1
        have hdd := HW.out.2.2.1
        unfold maxLen at hdd
        go_wp2
        go_loopw [3, 8] (fun bv i wz => ∃ (j : Nat) (pb : Option Addr) (lb cb : Nat), j ≤ kk ∧ i = .int .i64 j ∧ bv = .slice pb lb cb ∧ lb ≤ 163840 ∧ RdB wz pb lb cb ((G.drop j).flatMap (encV (m + 1))) ∧ Below wr.heap.size wr wz) (fun _ i _ => kk - (RowKit.intOf i).toNat)
        case atStart => exact ⟨0, pb, lb, cb, Nat.zero_le _, rfl, rfl, hlb1, by rw [HG0.out]; exact HTG.out.1, Below.refl _ _⟩
        case round =>
          obtain ⟨j, pb, lb, cb, hj, rfl, rfl, hlb2, hrd, hbz⟩ := hrel
          have HRD := Lib.hid hrd
          have HBZ := Lib.hid hbz
          clear hrd hbz
          by_cases hjl : j < kk
          · have hjG : j < G.length := by have := HKK.out; omega
            have hjl2 : (j : Int) < (kk : Int) := by omega
            obtain ⟨T, hT⟩ : ∃ T, T = G[j] := ⟨_, rfl⟩
            have HGT := Lib.hid (show GoodT (m + 1) T from by rw [hT]; exact HTG.out.2.2 _ (List.getElem_mem hjG))
            have hXe : (G.drop j).flatMap (encV (m + 1)) = encV (m + 1) T ++ (G.drop (j + 1)).flatMap (encV (m + 1)) := by rw [List.drop_eq_getElem_cons hjG, List.flatMap_cons, ← hT]
            have HXE := Lib.hid hXe
            obtain ⟨b2, o2, hq, hi⟩ := HW.out.2.2.2 (by omega)
            subst hq
            obtain ⟨u0, u1, u2, u3, u4, c0, c1, c2, c3, c4, hr⟩ := hi j (by rw [List.length_map]; exact hjG)
            rw [List.getElem_map, ← hT] at hr
            have HRZ := Lib.hid (rep_keep HBZ.out (m + 1) _ _ hr)
            have HC := Lib.hid (show wr.cell? ⟨b2, o2 + j * 5, none⟩ = some u0 ∧ wr.cell? ⟨b2, o2 + j * 5 + 1, none⟩ = some u1 ∧ wr.cell? ⟨b2, o2 + j * 5 + 2, none⟩ = some u2 ∧ wr.cell? ⟨b2, o2 + j * 5 + 3, none⟩ = some u3 ∧ wr.cell? ⟨b2, o2 + j * 5 + 4, none⟩ = some u4 from ⟨cell_keep HBZ.out c0, cell_keep HBZ.out c1, cell_keep HBZ.out c2, cell_keep HBZ.out c3, cell_keep HBZ.out c4⟩)
            obtain ⟨nn, hnn⟩ : ∃ nn, nn = (encV (m + 1) T).length := ⟨_, rfl⟩
            have hnl : nn ≤ lb := by
              have h1 := HRD.out.1
              rw [hXe, List.length_append] at h1
              omega
            obtain ⟨p', hsl2, hrd2⟩ := slice_from HRD.out nn (by rw [hnn]; exact enc_pos m T) hnl
            have HRD2 := Lib.hid hrd2
            have HDR := Lib.hid (show ((G.drop j).flatMap (encV (m + 1))).drop nn = (G.drop (j + 1)).flatMap (encV (m + 1)) by rw [hXe, hnn]; exact List.drop_left)
            have HREAD := Lib.hid (show Calls Try.prog 8 #[.slice pb lb cb] wr fun e w' => ∃ v, e = .returned (.tuple #[v, .int .i64 (nn : Int), .int .i64 0]) ∧ Below wr.heap.size wr w' ∧ RepS (fun b => wr.heap.size < b) w' (m + 1) v (cleanT (m + 1) T) from by
              rw [hnn]
              exact read_front (m + 1) hn wr pb lb cb _ _ T HRD.out (by rw [hXe]; exact by_app HGT.out.2.2.2 (good_len (G.drop (j + 1)) (fun x hx => HTG.out.2.2 x (List.mem_of_mem_drop hx))).2) hXe (by omega) HGT.out.1 HGT.out.2.1 HGT.out.2.2.1)
            clear c0 c1 c2 c3 c4 hr hi hXe hT hnn hrd2
            go_wp2_with fail
            go_at_call 8; refine HREAD.out.mono ?_; rintro e w3 ⟨v, rfl, hb3, hrep3⟩
            obtain ⟨K, I, F, S, q', l', c', rfl, _⟩ := repS_shape hrep3
            have HB3 := Lib.hid hb3
            have HV3 := Lib.hid (repS_rep (m + 1) _ _ hrep3)
            have RB4 := row_alloc w3 #[.int .i64 K, .int .i64 I, .float .f64 F, .string S, .slice q' l' c'] 26
            have hb34 : Below w3.heap.size w3 (w3.alloc (.cells #[.int .i64 K, .int .i64 I, .float .f64 F, .string S, .slice q' l' c'] 26)) := (Below.refl _ _).alloc (Nat.le_refl _) _
            have hbr4 := bel_step hb3 hb34
            have h10 : S10 (w3.alloc (.cells #[.int .i64 K, .int .i64 I, .float .f64 F, .string S, .slice q' l' c'] 26)) w3.heap.size (.int .i64 K) (.int .i64 I) (.float .f64 F) (.string S) (.slice q' l' c') b2 (o2 + j * 5) u0 u1 u2 u3 u4 (w3.alloc (.cells #[.int .i64 K, .int .i64 I, .float .f64 F, .string S, .slice q' l' c'] 26)) := ⟨row_cell RB4 0, row_cell RB4 1, row_cell RB4 2, row_cell RB4 3, row_cell RB4 4, cell_keep hbr4 HC.out.1, cell_keep hbr4 HC.out.2.1, cell_keep hbr4 HC.out.2.2.1, cell_keep hbr4 HC.out.2.2.2.1, cell_keep hbr4 HC.out.2.2.2.2, Below.refl _ _⟩
            have HBR4 := Lib.hid hbr4
            have HV4 := Lib.hid (rep_keep hb34 (m + 1) _ _ HV3.out)
            have HW4 := Lib.hid (rep_keep hbr4 (m + 1) _ _ HRZ.out)
            clear hb3 hrep3 RB4 hb34 hbr4
            go_wp2_with fail
            generalize w3.alloc (.cells #[.int .i64 K, .int .i64 I, .float .f64 F, .string S, .slice q' l' c'] 26) = w4 at h10 HBR4 HV4 HW4 ⊢
            have HSAME := Lib.hid (show ∀ W : World, Below w4.heap.size w4 W → Calls Try.prog 10 #[.agg #[.int .i64 K, .int .i64 I, .float .f64 F, .string S, .slice q' l' c'], .agg #[u0, u1, u2, u3, u4]] W fun e w' => e = .returned (.bool true) ∧ Below W.heap.size W w' from fun W hW => same_any (m + 1) _ _ _ W (rep_keep hW (m + 1) _ _ HV4.out) (rep_keep hW (m + 1) _ _ HW4.out))
            go_region_held3 (fun w' => w'.cell? ⟨w3.heap.size, 0, none⟩ = some (.int .i64 K) ∧ w'.cell? ⟨w3.heap.size, 1, none⟩ = some (.int .i64 I) ∧ w'.cell? ⟨w3.heap.size, 2, none⟩ = some (.float .f64 F) ∧ w'.cell? ⟨w3.heap.size, 3, none⟩ = some (.string S) ∧ w'.cell? ⟨w3.heap.size, 4, none⟩ = some (.slice q' l' c') ∧ w'.cell? ⟨b2, o2 + j * 5, none⟩ = some u0 ∧ w'.cell? ⟨b2, o2 + j * 5 + 1, none⟩ = some u1 ∧ w'.cell? ⟨b2, o2 + j * 5 + 2, none⟩ = some u2 ∧ w'.cell? ⟨b2, o2 + j * 5 + 3, none⟩ = some u3 ∧ w'.cell? ⟨b2, o2 + j * 5 + 4, none⟩ = some u4 ∧ Below w4.heap.size w4 w') (first | exact (by assumption : S10 _ _ _ _ _ _ _ _ _ _ _ _ _ _ _) | exact s10_drew (by assumption)) (first
              | (go_at_call 10; refine (HSAME.out _ ?hs).mono ?_; (case hs => exact (by assumption : S10 _ _ _ _ _ _ _ _ _ _ _ _ _ _ _).2.2.2.2.2.2.2.2.2.2); rintro e w5 ⟨rfl, hb5⟩; have hk5 := s10_step (by assumption) hb5; clear hb5))
            have H5 := Lib.hid (bel_step HBR4.out (by assumption : S10 w4 w3.heap.size (.int .i64 K) (.int .i64 I) (.float .f64 F) (.string S) (.slice q' l' c') b2 (o2 + j * 5) u0 u1 u2 u3 u4 w5).2.2.2.2.2.2.2.2.2.2)
            go_wp2
            have HN5 := Lib.hid (show RdB w5 p' (lb - nn) (cb - nn) ((G.drop (j + 1)).flatMap (encV (m + 1))) from by rw [← HDR.out]; exact HRD2.out w5 (rd_keep H5.out HRD.out))
            have HB5 := Lib.hid (bel_step HBZ.out H5.out)
            go_roundw
            case rel => exact ⟨j + 1, p', lb - nn, cb - nn, by omega, by go_num, rfl, by omega, HN5.out, HB5.out⟩
            case measure => simp [RowKit.intOf]; omega
          · have hjk : j = kk := by omega
            have hjl2 : ¬ (j : Int) < (kk : Int) := by omega
            have hz : lb = 0 := by
              have h1 := HRD.out.1
              have h2 := HKK.out
              rw [List.drop_eq_nil_of_le (by omega)] at h1
              simpa using h1.symm
            subst hz
            have HF := Lib.hid (bel_step HB.out HBZ.out)
            go_wp2
            go_ret
            exact ⟨rfl, HF.out⟩
end Num
end Go.Proofs.Ytbodakfgoijeeaa
