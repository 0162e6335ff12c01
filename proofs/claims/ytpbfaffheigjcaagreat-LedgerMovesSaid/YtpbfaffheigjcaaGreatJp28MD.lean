/-
  LedgerMoves: the walk.
-/
import Derived.Test.YtpbfaffheigjcaaGreatJMI
import Derived.Test.YtpbfaffheigjcaaGreatJMCc
import Derived.Test.YtpbfaffheigjcaaGreatJp26MB
import Derived.Test.YtpbfaffheigjcaaGreatJRFl
import Derived.Test.YtpbfaffheigjcaaGreatJp9VSurv
import Derived.Test.YtpbfaffheigjcaaGreatJp3VBase
namespace Go.Proofs.YtpbfaffheigjcaaGreat
open Go.RowKit
namespace Num
open Ints
set_option linter.unusedSimpArgs false
set_option linter.unusedVariables false
set_option maxRecDepth 100000 in
set_option maxHeartbeats 16000000 in
theorem moves_in (p : Option Addr) (l c : Nat) (Fs : List Nat) (hF : ∀ y ∈ Fs, y < 2 ^ 64) (av bv : Nat) (hav : av < 256) (hbv : bv < 256) (nf : Nat) (hnf : nf < 2 ^ 64) (w : World) (h : RepF w p l c Fs) :
    Calls Tryz.prog 6 #[.slice p l c, .int .u8 av, .int .u8 bv, .float .f64 nf] w fun e w' => e = .returned (.bool true) ∧ Below w.heap.size w w' := by
  obtain ⟨hl, hlc, hcm, hel⟩ := h
  unfold maxLen at hcm
  have HL := Lib.hid hl
  have HE := Lib.hid hel
  have HFF := Lib.hid hF
  have HNF := Lib.hid hnf
  clear hl hel hF hnf
  by_cases h2 : l < 2
  · have g2 : (l : Int) < 2 := by omega
    go_enter Tryz.func6, Tryz.ntmps6
    go_wp2_with (go_at_call 8; refine (known12 _).mono ?_; rintro e w1 ⟨rfl, hb1⟩)
    go_ret
    exact ⟨rfl, hb1⟩
  by_cases h12 : 12 < l
  · have g2 : ¬ (l : Int) < 2 := by omega
    have g12 : (12 : Int) < (l : Int) := by omega
    go_enter Tryz.func6, Tryz.ntmps6
    go_wp2_with (go_at_call 8; refine (known12 _).mono ?_; rintro e w1 ⟨rfl, hb1⟩)
    go_ret
    exact ⟨rfl, hb1⟩
  have g2 : ¬ (l : Int) < 2 := by omega
  have g12 : ¬ (12 : Int) < (l : Int) := by omega
  have HL12 := Lib.hid (show 2 ≤ l ∧ l ≤ 12 by omega)
  clear h2 h12
  go_enter Tryz.func6, Tryz.ntmps6
  go_wp2_with fail
  go_at_call 8; refine (known12 _).mono ?_; rintro e w1 ⟨rfl, hb1⟩
  have HB1 := Lib.hid hb1
  clear hb1
  go_wp2_with fail
  go_at_call 18; refine (list_ref_any _ _ _ _).mono ?_; rintro e W0 ⟨rfl, hb2⟩
  have HS := Lib.hid (show (fun z0 : World => Below w.heap.size w W0 ∧ W0.heap.size ≤ W0.heap.size ∧ ZL z0 W0.heap.size none 0 0 ∧ OwG W0 z0 W0.heap.size none 0 0 [] (ASM Fs 0)) (W0.alloc (.cells #[.int .i64 4, .int .i64 0, .float .f64 0, .string ⟨#[]⟩, .slice none 0 0] 27)) from ⟨bel_step HB1.out hb2, Nat.le_refl _, row_alloc _ _ _, og_nil W0 _ _ (bel_alloc br _) (by rw [World.size_alloc]; omega)⟩)
  clear hb2 HB1
  go_wp2
  clear g2 g12
  revert HS
  generalize W0.alloc (.cells #[.int .i64 4, .int .i64 0, .float .f64 0, .string ⟨#[]⟩, .slice none 0 0] 27) = W1
  obtain ⟨sb, hsbe⟩ : ∃ sb, W0.heap.size = sb := ⟨_, rfl⟩
  have hsb : W0.heap.size ≤ sb := by omega
  rw [show (Below w.heap.size w W0 ∧ W0.heap.size ≤ W0.heap.size ∧ W1.heap[W0.heap.size]? = some (.cells #[.int .i64 4, .int .i64 0, .float .f64 0, .string ⟨#[]⟩, .slice none 0 0] 27 (0, 0)) ∧ OwG W0 W1 W0.heap.size none 0 0 [] (ASM Fs 0)) = (Below w.heap.size w W0 ∧ W0.heap.size ≤ sb ∧ W1.heap[sb]? = some (.cells #[.int .i64 4, .int .i64 0, .float .f64 0, .string ⟨#[]⟩, .slice none 0 0] 27 (0, 0)) ∧ OwG W0 W1 sb none 0 0 [] (ASM Fs 0)) by rw [hsbe]]
  rw [hsbe]
  intro HS
  clear hsbe
  have HBW := Lib.hid HS.out.1
  go_loopw [10] (fun iv wr => ∃ (i : Nat) (q : Option Addr) (d : Nat) (G : List Nat), i ≤ l ∧ iv = .int .i64 i ∧ wr.heap[sb]? = some (.cells #[.int .i64 4, .int .i64 0, .float .f64 0, .string ⟨#[]⟩, .slice q i d] 27 (0, 0)) ∧ OwG W0 wr sb q i d G (ASM Fs i)) (fun iv _ => l - (intOf iv).toNat)
  case atStart => exact ⟨0, none, 0, [], by omega, rfl, HS.out.2.2.1, HS.out.2.2.2⟩
  case round =>
    obtain ⟨i, q, d, G, hil, rfl, hrow, hog⟩ := hrel
    have HR := Lib.hid hrow
    have HO := Lib.hid hog
    clear hrow hog HS
    by_cases hlt : i < l
    · have hix : i < Fs.length := by have := HL.out; omega
      obtain ⟨hb, ho, hpb, hit⟩ := HE.out (by omega)
      subst hpb
      have hcell := ck (bel_step HBW.out (og_bel HO.out)) (hit i hix)
      obtain ⟨f, hf⟩ : ∃ f, Fs[i] = f := ⟨_, rfl⟩
      have hfl : f < 2 ^ 64 := by rw [← hf]; exact HFF.out _ (List.getElem_mem hix)
      have HAS := Lib.hid (show ASM Fs (i + 1) = ASM Fs i ++ [(nmM i, fillM f i)] by rw [asm_succ, List.getElem?_eq_getElem hix, Option.getD_some, hf])
      rw [hf] at hcell
      have HUB := Lib.hid (letM_nat (i := i) (by have := HL12.out; omega))
      have hi11 : i ≤ 11 := by have := HL12.out; omega
      have hi1 : (0 : Int) ≤ (i : Int) := by omega
      have hi2 : (i : Int) < (l : Int) := by omega
      clear hf hit hix
      go_upto_region 10 with fail
      go_cut [52] (fun s wx => ∃ bb : Bool, s = .bool bb ∧ (bb = true ↔ ¬ (FloatKind.f64.format.order f 0 = some .gt ∧ f < 9218868437227405312)) ∧ (wx = wr ∨ wx = wr.drew))
      case first =>
        by_cases ho1 : FloatKind.f64.format.order f 0 = some .gt
        · have hgt : (FloatKind.f64.format.order f 0 == some Ordering.gt) = true := by rw [ho1]; rfl
          by_cases ho2 : f < 9218868437227405312
          · have hop : ∀ t W, (binOp .sub t (.float .f64 f) (.float .f64 f)).run Tryz.prog W = .ok (.float .f64 0) W := fun t W => run_float_arith W .sub t .f64 _ _ _ (sub_self0M ho2)
            have hze : (FloatKind.f64.format.order 0 0 == some Ordering.eq) = true := by decide +kernel
            go_wp2
            go_meet
            exact ⟨false, rfl, ⟨fun e => by (cases e), fun e => absurd ⟨ho1, ho2⟩ e⟩, Or.inl rfl⟩
          · have hx : f = 9218868437227405312 := by have h1 := (order_zero hfl).1 ho1; omega
            subst hx
            have hop : ∀ t W, (binOp .sub t (.float .f64 9218868437227405312) (.float .f64 9218868437227405312)).run Tryz.prog W = .ok (.float .f64 (Flo.drawn 9218868437227405312 9218868437227405312 (W.tape W.drawn (.nanBits .f64 9218868437227405312 9218868437227405312)))) W.drew := fun t W => Flo.run_none W .sub t _ _ (by simp) (by decide +kernel)
            have hq : ∀ t, (FloatKind.f64.format.order (Flo.drawn 9218868437227405312 9218868437227405312 t) 0 != some Ordering.eq) = true := fun t => by have h := Flo.feq_nan (Flo.read_drawn 9218868437227405312 9218868437227405312 t) 0; unfold Flo.feq at h; rw [bne, h]; rfl
            go_wp2
            go_meet
            exact ⟨true, rfl, ⟨fun _ e => ho2 e.2, fun _ => rfl⟩, Or.inr rfl⟩
        · have hgt : (FloatKind.f64.format.order f 0 == some Ordering.gt) = false := by rw [beq_eq_false_iff_ne]; exact ho1
          go_wp2
          go_meet
          exact ⟨true, rfl, ⟨fun _ e => ho1 e.1, fun _ => rfl⟩, Or.inl rfl⟩
      case rest =>
      obtain ⟨bb, rfl, hbb, hwx⟩ := hcut
      rename World => wx
      have HI := Lib.hid (show ZL wx sb q i d ∧ OwG W0 wx sb q i d G (ASM Fs i) by rcases hwx with rfl | rfl; exact ⟨HR.out, HO.out⟩; exact ⟨row_step HR.out (Below.drew br), og_step HO.out (Below.drew br)⟩)
      clear hwx hcell HR HO
      go_upto_if 52 with fail
      go_cut [11] (fun s wy => s = .float .f64 (fillM f i) ∧ wy = wx)
      case first =>
        cases bb
        · have hg : FloatKind.f64.format.order f 0 = some .gt ∧ f < 9218868437227405312 := Classical.byContradiction fun h => by have h2 := hbb.2 h; cases h2
          have hfm : fillM f i = f := by unfold fillM; rw [if_pos hg]
          clear hbb
          go_wp2
          go_meet
          exact ⟨by rw [hfm], rfl⟩
        · have hfm : fillM f i = floatOfInt .f64 (i : Int) := by unfold fillM; rw [if_neg (hbb.1 rfl)]
          clear hbb
          go_wp2
          go_meet
          exact ⟨by rw [hfm], rfl⟩
      case rest =>
      obtain ⟨rfl, rfl⟩ := hcut
      rename World => wx
      have hfm := fillM_lt (f := f) (i := i) (by omega)
      generalize fillM f i = F at hfm HAS ⊢
      clear hbb hfl
      have HR := Lib.hid HI.out.1
      have HO := Lib.hid HI.out.2
      clear HI
      go_upto_region 12 with fail
      refine mv12_any W0 wx sb i d q F (letM i) G (ASM Fs i) _ _ _ _ _ _ _ _ _ _ _ _ _ _ _ _ _ _ _ _ _ _ _ _ _ _ _ _ _ _ _ _ _ _ _ _ _ _ _ _ _ _ _ _ _ _ _ _ _ _ _ _ _ _ _ _ _ _ _ _ _ _ _ _ _ _ _ _ _ _ _ _ _ _ _ _ _ _ _ _ _ _ _ _ _ _ _ _ _ _ _ _ _ _ _ _ _ _ _ _ _ _ _ _ _ _ _ _ _ _ _ _ _ _ _ _ _ _ _ _ _ _ _ _ _ _ _ _ _ _ _ _ _ _ _ _ _ _ _ _ _ _ _ _ _ _ _ _ _ _ _ _ _ _ _ _ _ _ _ _ _ _ _ _ _ _ _ _ _ _ _ _ _ _ _ _ _ _ _ _ _ _ _ _ _ _ _ _ _ _ _ _ _ _ _ _ _ _ _ _ _ _ _ _ _ _ _ _ _ _ _ _ _ _ _ _ _ _ _ _ _ _ _ _ _ _ _ _ _ _ _ _ _ _ _ _ _ _ _ _ _ _ _ _ _ _ _ _ _ _ _ _ _ _ (fun _ _ d _ _ h => by cases d <;> exact h) HR HO hsb hfm HUB hi11 ?_
      intro gA gP gQ p5 e5 wz hcut
      have HZ := Lib.hid hcut
      clear hcut HR HO HUB
      go_wp2
      go_roundw
      case rel => exact ⟨i + 1, p5, e5, G ++ [gP], by omega, by go_num, HZ.out.1, by rw [HAS.out]; exact HZ.out.2⟩
      case measure => simp [intOf]; omega
    · obtain rfl : l = i := by omega
      obtain ⟨b, off, hq, hbl, hcells⟩ := og_cells HO.out (by have := HL12.out; omega)
      subst hq
      have hl0 : 0 < l := by have := HL12.out; omega
      have hl12 : l ≤ 12 := HL12.out.2
      obtain ⟨i, hi⟩ : ∃ i, av % l = i := ⟨_, rfl⟩
      obtain ⟨k, hk⟩ : ∃ k, bv % l = k := ⟨_, rfl⟩
      have hil : i < l := by rw [← hi]; exact Nat.mod_lt _ hl0
      have hkl : k < l := by rw [← hk]; exact Nat.mod_lt _ hl0
      have i1 : ((av : Int) % (l : Int)) = (i : Int) := by rw [← hi]; exact (Int.natCast_emod av l).symm
      have i2 : (av : Int).tmod (l : Int) = (i : Int) := by rw [Int.tmod_eq_emod_of_nonneg (by omega)]; exact i1
      have k1 : ((bv : Int) % (l : Int)) = (k : Int) := by rw [← hk]; exact (Int.natCast_emod bv l).symm
      have k2 : (bv : Int).tmod (l : Int) = (k : Int) := by rw [Int.tmod_eq_emod_of_nonneg (by omega)]; exact k1
      have j3 : ¬ (l : Int) = 0 := by omega
      have j4 : ¬ l = 0 := by omega
      have hwa : IntKind.i64.wrap (av : Int) = (av : Int) := by rw [IntKind.wrap_i64]; omega
      have hwb : IntKind.i64.wrap (bv : Int) = (bv : Int) := by rw [IntKind.wrap_i64]; omega
      obtain ⟨gi, ci, ri⟩ := hcells i (by rw [asm_len]; exact hil)
      obtain ⟨gk, ck, rk⟩ := hcells k (by rw [asm_len]; exact hkl)
      rw [asm_at] at ri rk
      obtain ⟨FA, hFA⟩ : ∃ FA, fillM (Fs[i]?.getD 0) i = FA := ⟨_, rfl⟩
      obtain ⟨FD, hFD⟩ : ∃ FD, fillM (Fs[k]?.getD 0) k = FD := ⟨_, rfl⟩
      have hFAl : FA < 9218868437227405312 := by rw [← hFA]; exact fillM_lt (by omega)
      have hFDl : FD < 9218868437227405312 := by rw [← hFD]; exact fillM_lt (by omega)
      have HAI := Lib.hid (show ∀ h : i < (ASM Fs l).length, (ASM Fs l)[i] = (nmM i, FA) from fun h => by rw [asm_at, hFA])
      have HAK := Lib.hid (show ∀ h : k < (ASM Fs l).length, (ASM Fs l)[k] = (nmM k, FD) from fun h => by rw [asm_at, hFD])
      have HLI := Lib.hid (show i < (ASM Fs l).length ∧ k < (ASM Fs l).length by rw [asm_len]; exact ⟨hil, hkl⟩)
      have HOK := Lib.hid (asm_ok Fs l hl12)
      have HSZ := Lib.hid (show (nmM i).size ≤ maxLen ∧ (nmM k).size ≤ maxLen from ⟨(show (1 : Nat) ≤ maxLen by unfold maxLen; decide), (show (1 : Nat) ≤ maxLen by unfold maxLen; decide)⟩)
      obtain ⟨H, hH⟩ : ∃ H, Flo.canon nf = H := ⟨_, rfl⟩
      have HCAN := Lib.hid hH
      have HHL := Lib.hid (show H < 2 ^ 64 by rw [← hH]; exact Flo.canon_lt HNF.out)
      have HCL := Lib.hid (show cleanT 1 ((2, 0, H, ⟨#[]⟩, []) : VT 1) = (2, 0, H, ⟨#[]⟩, []) by show ((2, 0, Flo.canon H, ⟨#[]⟩, []) : VT 1) = _; rw [← hH, Flo.canon_canon])
      have hrep := list_rep (og_rep HO.out (fun e he => by
        obtain ⟨j, hj, rfl⟩ := List.mem_map.1 he
        rw [List.mem_range] at hj
        have := fillM_lt (f := Fs[j]?.getD 0) (i := j) (by omega)
        exact ⟨(show (1 : Nat) ≤ maxLen by unfold maxLen; decide), (show fillM (Fs[j]?.getD 0) j < 2 ^ 64 by omega)⟩))
      have hmv : MvB w sb b off l d i k gi gk (nmM i) (nmM k) wr := by
        have hs := HR.out
        exact ⟨⟨rc hs 0, rc hs 1, rc hs 2, rc hs 3, rc hs 4, ci, ck, rc ri 0, rc ri 1, rc ri 2, rc ri 3, rc ri 4, rc rk 0, rc rk 1, rc rk 2, rc rk 3, rc rk 4⟩, bel_step HBW.out (og_bel HO.out)⟩
      rw [hFA] at ri
      rw [hFD] at rk
      have HALL := Lib.hid (show MvB w sb b off l d i k gi gk (nmM i) (nmM k) wr.drew.drew ∧ Rep wr.drew.drew 3 (.agg #[.int .i64 4, .int .i64 0, .float .f64 0, .string ⟨#[]⟩, .slice (some ⟨b, off, none⟩) l d]) (tableT 0 (ledA (ASM Fs l))) ∧ (sb < wr.drew.drew.heap.size ∧ b < wr.drew.drew.heap.size ∧ gi < wr.drew.drew.heap.size ∧ gk < wr.drew.drew.heap.size ∧ w.heap.size ≤ wr.drew.drew.heap.size) from
        ⟨mvb_drew (mvb_drew hmv), rep_keep (Below.drew (Below.drew br)) _ _ _ hrep, ⟨row_lt HR.out, hbl, row_lt ri, row_lt rk, hmv.2.size⟩⟩)
      have HC14 := Lib.hid (show wr.drew.drew.cell? ⟨sb, 4, none⟩ = some (.slice (some ⟨b, off, none⟩) l d) ∧ wr.drew.drew.cell? ⟨b, off + i * 5 + 4, none⟩ = some (.slice (some ⟨gi, 0, none⟩) 2 2) ∧ wr.drew.drew.cell? ⟨b, off + k * 5 + 4, none⟩ = some (.slice (some ⟨gk, 0, none⟩) 2 2) ∧ wr.drew.drew.cell? ⟨gi, 7, none⟩ = some (.float .f64 FA) ∧ wr.drew.drew.cell? ⟨gk, 7, none⟩ = some (.float .f64 FD) from ⟨rc HR.out 4, ci, ck, rc ri 7, rc rk 7⟩)
      have hi0 : (0 : Int) ≤ (i : Int) := by omega
      have hi1 : (i : Int) < (l : Int) := by omega
      have hk0 : (0 : Int) ≤ (k : Int) := by omega
      have hk1 : (k : Int) < (l : Int) := by omega
      clear hi hk hFA hFD hH hrep hmv ri rk ci ck hcells hbl HR HO
      go_upto_region 13 with fail
      refine wp_region_held_drew (S := (fun _ : World => True)) (by kernel_rfl) ?_ (fun hH => ?_)
      · trivial
      refine zt [0, 1, 2, 3, 4, 5, 6, 7, 8, 9, 10, 11] ?_
      iterate 12 (refine zt1 (fun _ _ d _ _ h => by cases d <;> exact h) (by simp only [lk0, lk1, lk2]; rfl) (by kernel_rfl) (by assumption) (by rfl) (fun w h => by (try dsimp only at h); go_simp; (try with_reducible rfl)) ?_; (try simp only [Act.put, pk0, pk1, pk2]))
      refine zt0 ?_
      refine wpAnyH_done (by kernel_rfl) ?_ _
      go_upto_region 14 with fail
      refine wp_region_held_drew (S := (fun z => z.cell? ⟨sb, 4, none⟩ = some (.slice (some ⟨b, off, none⟩) l d) ∧ z.cell? ⟨b, off + i * 5 + 4, none⟩ = some (.slice (some ⟨gi, 0, none⟩) 2 2) ∧ z.cell? ⟨b, off + k * 5 + 4, none⟩ = some (.slice (some ⟨gk, 0, none⟩) 2 2) ∧ z.cell? ⟨gi, 7, none⟩ = some (.float .f64 FA) ∧ z.cell? ⟨gk, 7, none⟩ = some (.float .f64 FD))) (by kernel_rfl) ?_ (fun hH => ?_)
      · exact HC14.out
      refine zt [0, 1, 2, 3, 4, 5, 6, 7, 8, 9, 10, 11, 12, 13, 14, 15, 16, 17, 18, 19] ?_
      iterate 20 (refine zt1 (fun _ _ d _ _ h => by cases d <;> exact h) (by simp only [lk0, lk1, lk2]; rfl) (by kernel_rfl) (by assumption) (by rfl) (fun w h => by (try dsimp only at h); go_simp; (try with_reducible rfl)) ?_; (try simp only [Act.put, pk0, pk1, pk2]))
      refine zt0 ?_
      refine wpAnyH_done (by kernel_rfl) ?_ _
      clear hH HC14 i1 i2 k1 k2 j3 j4 hwa hwb HFF HE
      revert HALL
      generalize wr.drew.drew = wA
      intro HALL
      go_upto_region 15 with fail
      obtain ⟨z, TT, UU, htra⟩ : ∃ z TT UU, traV (ASM Fs l) i k (nmM i) (nmM k) FA FD 2 0 H = (z, TT, UU) := ⟨_, _, _, rfl⟩
      have HTRA := Lib.hid htra
      clear htra
      have HFB := Lib.hid HALL.out.1
      have HST := Lib.hid HALL.out.2.1
      have hlts := HALL.out.2.2
      have hix : (0 : Int) ≤ (i : Int) ∧ (i : Int) < (l : Int) ∧ (0 : Int) ≤ (k : Int) ∧ (k : Int) < (l : Int) := ⟨hi0, hi1, hk0, hk1⟩
      have HD9 := Lib.hid (show ∀ (W : World) (g : Nat), Rep W 3 (.agg #[.int .i64 4, .int .i64 0, .float .f64 0, .string ⟨#[]⟩, .slice (some ⟨b, off, none⟩) l d]) (tableT 0 (ledA (ASM Fs l))) → LA g [nameV 0 (nmM i), nameV 0 (nmM k), (2, 0, H, ⟨#[]⟩, [])] W → Calls Tryz.prog 12 #[.agg #[.int .i64 4, .int .i64 0, .float .f64 0, .string ⟨#[]⟩, .slice (some ⟨b, off, none⟩) l d], .string { data := #[116, 114, 97, 110, 115, 102, 101, 114] }, .slice (some ⟨g, 0, none⟩) 3 3] W fun e w' => DoQ W 3 1 TT UU z e w' from fun W g hs hr => by
      have h := ldo_transfer HOK.out hs hr (nmM_nm i (by omega)) (nmM_nm k (by omega)) rfl i k HLI.out.1 (HAI.out _) HLI.out.2 (HAK.out _)
      rw [HTRA.out] at h
      exact h)
      have HD10 := Lib.hid (show ∀ (W : World) (g : Nat), Rep W 3 (.agg #[.int .i64 4, .int .i64 0, .float .f64 0, .string ⟨#[]⟩, .slice (some ⟨b, off, none⟩) l d]) (tableT 0 (ledA (ASM Fs l))) → LA g [nameV 0 (nmM i), nameV 0 (nmM k), (2, 0, H, ⟨#[]⟩, [])] W → Calls Tryz.prog 13 #[.string { data := #[108, 101, 100, 103, 101, 114] }, .agg #[.int .i64 4, .int .i64 0, .float .f64 0, .string ⟨#[]⟩, .slice (some ⟨b, off, none⟩) l d], .string { data := #[116, 114, 97, 110, 115, 102, 101, 114] }, .slice (some ⟨g, 0, none⟩) 3 3] W fun e w' => RDo W TT UU z e w' from fun W g hs hr => by
      have h := rdo_transfer HOK.out hs hr (nmM_nm i (by omega)) (nmM_nm k (by omega)) rfl HCL.out i k HLI.out.1 (HAI.out _) HLI.out.2 (HAK.out _)
      rw [HTRA.out] at h
      exact h)
      clear HALL
      refine mv15_any w wA sb b off l d i k gi gk (nmM i) (nmM k) nf H (ASM Fs l) TT UU z _ _ _ _ _ _ _ _ _ _ _ _ _ _ _ _ _ _ _ _ _ _ _ _ _ _ _ _ _ _ _ _ _ _ _ _ _ _ _ _ _ _ _ _ _ _ _ _ _ _ _ _ _ _ _ _ _ _ _ _ _ _ _ _ _ _ _ _ _ _ _ _ _ _ _ _ _ _ _ _ _ _ _ _ _ _ _ _ _ _ _ _ _ _ _ _ _ _ _ _ _ _ _ _ _ _ _ _ _ _ _ _ _ _ _ _ _ _ _ _ _ _ _ _ _ _ _ _ _ _ _ _ _ _ _ _ _ _ _ _ _ _ _ _ _ _ _ _ _ _ _ _ _ _ _ _ _ _ _ _ _ _ _ _ _ _ _ _ _ _ _ _ _ _ _ _ _ _ _ _ _ _ _ _ _ _ _ _ _ _ _ _ _ _ _ _ _ _ _ _ _ _ _ _ _ _ _ _ _ _ _ _ _ _ _ _ _ _ _ _ _ _ _ _ _ _ _ _ _ _ _ _ _ _ _ _ _ _ _ _ _ _ _ _ _ _ _ _ _ _ _ _ _ (fun _ _ d _ _ h => by cases d <;> exact h) hlts hix HCAN.out HHL.out HSZ.out.1 HSZ.out.2 HFB HST HD9 ?_
      intro gA gB gE Kt It Ft Zt qt mt dt Kv Iv Fv Zv qv mv dv w9 hcut
      obtain ⟨hca, hcb, hfb, hbel, hrt, hrv, hgA, hgB⟩ := hcut
      have HCA := Lib.hid hca
      have HCB := Lib.hid hcb
      have HFB9 := Lib.hid hfb
      have HST9 := Lib.hid (rep_keep hbel _ _ _ HST.out)
      have HRT := Lib.hid hrt
      have HRV := Lib.hid hrv
      have hz9 := hbel.size
      have hlts : sb < w9.heap.size ∧ b < w9.heap.size ∧ gi < w9.heap.size ∧ gk < w9.heap.size ∧ w.heap.size ≤ w9.heap.size := by omega
      clear hca hcb hfb hbel hrt hrv hgA hgB hz9 HD9 HFB HST
      go_upto_region 16 with fail
      refine mv16_any w w9 sb b off l d i k gi gk (nmM i) (nmM k) nf H (ASM Fs l) TT UU z _ _ _ _ _ _ _ _ _ _ _ _ _ _ _ _ _ _ _ _ _ _ _ _ _ _ _ _ _ _ _ _ _ _ _ _ _ _ _ _ _ _ _ _ _ _ _ _ _ _ _ _ _ _ _ _ _ _ _ _ _ _ _ _ _ _ _ _ _ _ _ _ _ _ _ _ _ _ _ _ _ _ _ _ _ _ _ _ _ _ _ _ _ _ _ _ _ _ _ _ _ _ _ _ _ _ _ _ _ _ _ _ _ _ _ _ _ _ _ _ _ _ _ _ _ _ _ _ _ _ _ _ _ _ _ _ _ _ _ _ _ _ _ _ _ _ _ _ _ _ _ _ _ _ _ _ _ _ _ _ _ _ _ _ _ _ _ _ _ _ _ _ _ _ _ _ _ _ _ _ _ _ _ _ _ _ _ _ _ _ _ _ _ _ _ _ _ _ _ _ _ _ _ _ _ _ _ _ _ _ _ _ _ _ _ _ _ _ _ _ _ _ _ _ _ _ _ _ _ _ _ _ _ _ _ _ _ _ _ _ _ _ _ _ _ _ _ _ _ _ _ _ _ (fun _ _ d _ _ h => by cases d <;> exact h) hlts hix HCAN.out HHL.out HSZ.out.1 HSZ.out.2 HFB9 HST9 HD10 ?_
      intro gA2 gB2 gE2 Kt2 It2 Ft2 Zt2 qt2 mt2 dt2 Kv2 Iv2 Fv2 Zv2 qv2 mv2 dv2 w10 hcut
      obtain ⟨hca2, hcb2, hfb2, hbel, hrt2, hrv2, hgA2, hgB2⟩ := hcut
      have hca := cs_step HCA.out hbel
      have hcb := cs_step HCB.out hbel
      have hrt10 := rep_keep hbel _ _ _ (repS_rep _ _ _ HRT.out)
      have HSA := Lib.hid (same_any 3 _ _ TT w10 hrt10 (repK_rep hrt2))
      have HSV := Lib.hid (And.intro (rep_keep hbel _ _ _ (repS_rep _ _ _ HRV.out)) (repK_rep hrv2))
      have HA10 := Lib.hid (show MvB w sb b off l d i k gi gk (nmM i) (nmM k) w10 ∧ Rep w10 3 (.agg #[.int .i64 4, .int .i64 0, .float .f64 0, .string ⟨#[]⟩, .slice (some ⟨b, off, none⟩) l d]) (tableT 0 (ledA (ASM Fs l))) ∧ CS w10 gA (.int .i64 Kt) (.int .i64 It) (.float .f64 Ft) (.string Zt) (.slice qt mt dt) ∧ Rep w10 3 (.agg #[.int .i64 Kt, .int .i64 It, .float .f64 Ft, .string Zt, .slice qt mt dt]) TT from ⟨hfb2, rep_keep hbel _ _ _ HST9.out, hca, hrt10⟩)
      have HCB10 := Lib.hid hcb
      have HCV10 := Lib.hid hcb2
      obtain ⟨t0, t1, t2, t3, t4⟩ := hca
      obtain ⟨u0, u1, u2, u3, u4⟩ := hca2
      clear hcb hcb2 hfb2 hbel hrt2 hrv2 hgA2 hgB2 hrt10 HCA HCB HFB9 HST9 HRT HD10 hlts hix
      go_wp2_with fail
      go_at_call 14; refine (HSA.out).mono ?_; rintro e w11 ⟨rfl, hb11⟩
      have HA11 := Lib.hid (show MvB w sb b off l d i k gi gk (nmM i) (nmM k) w11 ∧ Rep w11 3 (.agg #[.int .i64 4, .int .i64 0, .float .f64 0, .string ⟨#[]⟩, .slice (some ⟨b, off, none⟩) l d]) (tableT 0 (ledA (ASM Fs l))) ∧ CS w11 gA (.int .i64 Kt) (.int .i64 It) (.float .f64 Ft) (.string Zt) (.slice qt mt dt) ∧ Rep w11 3 (.agg #[.int .i64 Kt, .int .i64 It, .float .f64 Ft, .string Zt, .slice qt mt dt]) TT from ⟨mvb_step HA10.out.1 hb11, rep_keep hb11 _ _ _ HA10.out.2.1, cs_step HA10.out.2.2.1 hb11, rep_keep hb11 _ _ _ HA10.out.2.2.2⟩)
      have HSB := Lib.hid (same_any 1 _ _ UU w11 (rep_keep hb11 _ _ _ HSV.out.1) (rep_keep hb11 _ _ _ HSV.out.2))
      have hcb := cs_step HCB10.out hb11
      have hcv := cs_step HCV10.out hb11
      obtain ⟨v0, v1, v2, v3, v4⟩ := hcb
      obtain ⟨x0, x1, x2, x3, x4⟩ := hcv
      clear hb11 t0 t1 t2 t3 t4 u0 u1 u2 u3 u4 HA10 HCB10 HCV10 HSA HSV
      go_wp2_with fail
      go_at_call 14; refine (HSB.out).mono ?_; rintro e w12 ⟨rfl, hb12⟩
      have HA12 := Lib.hid (show MvB w sb b off l d i k gi gk (nmM i) (nmM k) w12 ∧ Rep w12 3 (.agg #[.int .i64 4, .int .i64 0, .float .f64 0, .string ⟨#[]⟩, .slice (some ⟨b, off, none⟩) l d]) (tableT 0 (ledA (ASM Fs l))) ∧ CS w12 gA (.int .i64 Kt) (.int .i64 It) (.float .f64 Ft) (.string Zt) (.slice qt mt dt) ∧ Rep w12 3 (.agg #[.int .i64 Kt, .int .i64 It, .float .f64 Ft, .string Zt, .slice qt mt dt]) TT from ⟨mvb_step HA11.out.1 hb12, rep_keep hb12 _ _ _ HA11.out.2.1, cs_step HA11.out.2.2.1 hb12, rep_keep hb12 _ _ _ HA11.out.2.2.2⟩)
      have HBW12 := Lib.hid HA12.out.1.2
      clear hb12 v0 v1 v2 v3 v4 x0 x1 x2 x3 x4 HA11 HSB HCL
      have htm := traM (AS := ASM Fs l) (a := i) (d := k) (ka := nmM i) (kd := nmM k) (FA := FA) (FD := FD) HHL.out
      rw [HTRA.out] at htm
      clear HTRA
      rcases num_cases HNF.out HCAN.out with ⟨ho, hna⟩ | ⟨hx, hna⟩ | ⟨hHn, ha1, ha2⟩
      · obtain ⟨rfl, _⟩ := Prod.mk.inj (htm.1 hna)
        have hgt : (FloatKind.f64.format.order nf 0 == some Ordering.gt) = false := by rw [beq_eq_false_iff_ne]; exact ho
        clear htm hna ho
        go_wp2
        go_ret
        exact ⟨rfl, HBW12.out⟩
      · obtain ⟨rfl, _⟩ := Prod.mk.inj (htm.1 hna)
        clear htm hna HNF HCAN
        subst hx
        have hgt : (FloatKind.f64.format.order 9218868437227405312 0 == some Ordering.gt) = true := by decide +kernel
        have hop : ∀ t W, (binOp .sub t (.float .f64 9218868437227405312) (.float .f64 9218868437227405312)).run Tryz.prog W = .ok (.float .f64 (Flo.drawn 9218868437227405312 9218868437227405312 (W.tape W.drawn (.nanBits .f64 9218868437227405312 9218868437227405312)))) W.drew := fun t W => Flo.run_none W .sub t _ _ (by simp) (by decide +kernel)
        have hq : ∀ t, (FloatKind.f64.format.order (Flo.drawn 9218868437227405312 9218868437227405312 t) 0 != some Ordering.eq) = true := fun t => by have h := Flo.feq_nan (Flo.read_drawn 9218868437227405312 9218868437227405312 t) 0; unfold Flo.feq at h; rw [bne, h]; rfl
        go_wp2
        go_ret
        exact ⟨rfl, Below.drew HBW12.out⟩
      · subst hHn
        have hgt : (FloatKind.f64.format.order nf 0 == some Ordering.gt) = true := by rw [ha1]; rfl
        have hop : ∀ t W, (binOp .sub t (.float .f64 nf) (.float .f64 nf)).run Tryz.prog W = .ok (.float .f64 0) W := fun t W => run_float_arith W .sub t .f64 _ _ _ (sub_self0M ha2)
        have hze : (FloatKind.f64.format.order 0 0 == some Ordering.eq) = true := by decide +kernel
        have hcase : (FloatKind.f64.format.order FA nf = some .lt ∧ (z, TT, UU) = (36, nilT 2, nilT 0)) ∨ (FloatKind.f64.format.order FA nf ≠ some .lt ∧ finV 2 (Flo.cop .add FD nf) = false ∧ (z, TT, UU) = (35, nilT 2, nilT 0)) ∨ (FloatKind.f64.format.order FA nf ≠ some .lt ∧ ((i = k ∧ (z, TT, UU) = (0, tableT 0 (ledA (ASM Fs l)), floT 0 FA)) ∨ (i ≠ k ∧ (z, TT, UU) = (0, tableT 0 (ledA (((ASM Fs l).set i (nmM i, Flo.cop .sub FA nf)).set k (nmM k, Flo.cop .add FD nf))), floT 0 (Flo.cop .sub FA nf))))) := by
          rcases htm.2 ⟨ha1, ha2⟩ with ⟨h1, h2⟩ | ⟨h1, h2, h3⟩ | ⟨h1, h2, h3, h4⟩ | ⟨h1, h2, h3⟩
          · exact Or.inl ⟨h1, h2⟩
          · exact Or.inr (Or.inr ⟨h1, Or.inl ⟨h2, h3⟩⟩)
          · exact Or.inr (Or.inl ⟨h1, h3, h4⟩)
          · exact Or.inr (Or.inr ⟨h1, Or.inr ⟨h2, h3⟩⟩)
        clear htm
        rcases hcase with ⟨hlt1, htr⟩ | ⟨hlt1, hfin, htr⟩ | ⟨hlt1, hok⟩
        · obtain ⟨rfl, _⟩ := Prod.mk.inj htr
          have hls : (FloatKind.f64.format.order FA nf == some Ordering.lt) = true := by rw [hlt1]; rfl
          clear htr
          go_wp2
          go_ret
          exact ⟨rfl, HBW12.out⟩
        · obtain ⟨rfl, _⟩ := Prod.mk.inj htr
          have hls : (FloatKind.f64.format.order FA nf == some Ordering.lt) = false := by rw [beq_eq_false_iff_ne]; exact hlt1
          have hca := cop_add (Nat.le_of_lt hFDl) (Nat.le_of_lt ha2)
          have hop2 : ∀ t W, (binOp .add t (.float .f64 FD) (.float .f64 nf)).run Tryz.prog W = .ok (.float .f64 9218868437227405312) W := fun t W => run_float_arith W .add t .f64 _ _ _ (by rw [hca.2, fin_infM hca.1 hfin])
          have hopn : ∀ t W, (binOp .sub t (.float .f64 9218868437227405312) (.float .f64 9218868437227405312)).run Tryz.prog W = .ok (.float .f64 (Flo.drawn 9218868437227405312 9218868437227405312 (W.tape W.drawn (.nanBits .f64 9218868437227405312 9218868437227405312)))) W.drew := fun t W => Flo.run_none W .sub t _ _ (by simp) (by decide +kernel)
          have hq : ∀ t, (FloatKind.f64.format.order (Flo.drawn 9218868437227405312 9218868437227405312 t) 0 != some Ordering.eq) = true := fun t => by have h := Flo.feq_nan (Flo.read_drawn 9218868437227405312 9218868437227405312 t) 0; unfold Flo.feq at h; rw [bne, h]; rfl
          clear htr hca
          go_wp2
          go_ret
          exact ⟨rfl, Below.drew HBW12.out⟩
        · obtain ⟨rfl, AS2, rfl, hlen2, hoth, hend⟩ := good_tra HLI.out.1 HLI.out.2 hok
          have hls : (FloatKind.f64.format.order FA nf == some Ordering.lt) = false := by rw [beq_eq_false_iff_ne]; exact hlt1
          have hsb2 := cop_sub hFAl ha2 hlt1
          have had2 := cop_add (Nat.le_of_lt hFDl) (Nat.le_of_lt ha2)
          have hln : AS2.length = l := by rw [hlen2, asm_len]
          obtain ⟨p2, l2, c2, hv2, hrl2⟩ := led_mem HA12.out.2.2.2
          injection hv2 with hv2
          simp only [Array.mk.injEq, List.cons.injEq, and_true] at hv2
          obtain ⟨e1, e2, e3, e4, e5⟩ := hv2
          injection e1 with _ e1
          injection e2 with _ e2
          injection e3 with _ e3
          injection e4 with e4
          injection e5 with e5 e6 e7
          subst e1 e2 e3 e4 e5 e6 e7
          have hll2 : mt = l := by have h := len_A hrl2; rw [ledA_len] at h; omega
          subst hll2
          obtain ⟨bt, ot, hqt, _⟩ := hrl2.2.2.2 (by omega)
          subst hqt
          obtain ⟨p3, l3, c3, hv3, hrl3⟩ := led_mem HA12.out.2.1
          injection hv3 with hv3
          simp only [Array.mk.injEq, List.cons.injEq, and_true] at hv3
          obtain ⟨_, _, _, _, e5⟩ := hv3
          injection e5 with e5 e6 e7
          subst e5 e6 e7
          have HT := Lib.hid hrl2
          have HSL := Lib.hid hrl3
          have HOTH := Lib.hid hoth
          have HEND := Lib.hid hend
          have HLN := Lib.hid hln
          have HFZ := Lib.hid (show FA < 9218868437227405312 ∧ FD < 9218868437227405312 ∧ nf < 9218868437227405312 from ⟨hFAl, hFDl, ha2⟩)
          have HSB2 := Lib.hid hsb2
          have HAD2 := Lib.hid had2
          have c16 := HA12.out.2.2.1.2.2.2.2
          clear hok hlt1 hrl2 hrl3 hoth hend hln hlen2 hsb2 had2 ha1
          go_wp2
          clear hls hop hze hgt c16
          go_loopw [22] (fun jv wz => ∃ j : Nat, j ≤ mt ∧ jv = .int .i64 j ∧ Below w12.heap.size w12 wz) (fun jv _ => mt - (intOf jv).toNat)
          case atStart => exact ⟨0, by omega, rfl, Below.refl _ _⟩
          case round =>
            obtain ⟨j, hj0, rfl, hB⟩ := hrel
            rename World => wz
            have HB := Lib.hid hB
            have cA4 := ck hB HA12.out.2.2.1.2.2.2.2
            have cS4 := ck hB HA12.out.1.1.2.2.2.2.1
            have HBWZ := Lib.hid (bel_step HBW12.out hB)
            by_cases hjl : j < mt
            · have hj1 : (0 : Int) ≤ (j : Int) := by omega
              have hj2 : (j : Int) < (mt : Int) := by omega
              by_cases hji : j = i
              · subst hji
                clear cS4 hB
                go_upto_region 24 with fail
                refine wp_region_held_drew (S := (fun _ : World => True)) (by kernel_rfl) ?_ (fun hH => ?_)
                · trivial
                refine zt [0, 1, 2, 3] ?_
                iterate 4 (refine zt1 (fun _ _ d _ _ h => by cases d <;> exact h) (by simp only [lk0, lk1, lk2]; rfl) (by kernel_rfl) (by assumption) (by rfl) (fun w h => by (try dsimp only at h); go_simp; (try with_reducible rfl)) ?_; (try simp only [Act.put, pk0, pk1, pk2]))
                refine zt0 ?_
                refine wpAnyH_take (i := 4) (oi := ?_) (v := undef) ?igi4 (by kernel_rfl) ?fgi4 ?rgi4 ?Qgi4 ?ygi4 (by assumption) ?tgi4
                case igi4 => (simp only [lk0, lk1, lk2]; rfl)
                case fgi4 | rgi4 => kernel_rfl
                case ygi4 => exact Or.inr ⟨by rfl, rfl⟩
                case Qgi4 => exact fun _ _ _ h => h
                (try simp only [Act.put, pk0, pk1, pk2])
                refine wpAnyH_take (i := 5) (oi := ?_) (v := undef) ?igi5 (by kernel_rfl) ?fgi5 ?rgi5 ?Qgi5 ?ygi5 (by assumption) ?tgi5
                case igi5 => (simp only [lk0, lk1, lk2]; rfl)
                case fgi5 | rgi5 => kernel_rfl
                case ygi5 => exact Or.inr ⟨by rfl, rfl⟩
                case Qgi5 => exact fun _ _ _ h => h
                (try simp only [Act.put, pk0, pk1, pk2])
                refine wpAnyH_take (i := 6) (oi := ?_) (v := undef) ?igi6 (by kernel_rfl) ?fgi6 ?rgi6 ?Qgi6 ?ygi6 (by assumption) ?tgi6
                case igi6 => (simp only [lk0, lk1, lk2]; rfl)
                case fgi6 | rgi6 => kernel_rfl
                case ygi6 => exact Or.inr ⟨by rfl, rfl⟩
                case Qgi6 => exact fun _ _ _ h => h
                (try simp only [Act.put, pk0, pk1, pk2])
                refine zt [7, 8] ?_
                iterate 2 (refine zt1 (fun _ _ d _ _ h => by cases d <;> exact h) (by simp only [lk0, lk1, lk2]; rfl) (by kernel_rfl) (by assumption) (by rfl) (fun w h => by (try dsimp only at h); go_simp; (try with_reducible rfl)) ?_; (try simp only [Act.put, pk0, pk1, pk2]))
                refine zt0 ?_
                refine wpAnyH_take (i := 9) (oi := ?_) (v := undef) ?igi9 (by kernel_rfl) ?fgi9 ?rgi9 ?Qgi9 ?ygi9 (by assumption) ?tgi9
                case igi9 => (simp only [lk0, lk1, lk2]; rfl)
                case fgi9 | rgi9 => kernel_rfl
                case ygi9 => exact Or.inr ⟨by rfl, rfl⟩
                case Qgi9 => exact fun _ _ _ h => h
                (try simp only [Act.put, pk0, pk1, pk2])
                refine wpAnyH_take (i := 10) (oi := ?_) (v := undef) ?igi10 (by kernel_rfl) ?fgi10 ?rgi10 ?Qgi10 ?ygi10 (by assumption) ?tgi10
                case igi10 => (simp only [lk0, lk1, lk2]; rfl)
                case fgi10 | rgi10 => kernel_rfl
                case ygi10 => exact Or.inr ⟨by rfl, rfl⟩
                case Qgi10 => exact fun _ _ _ h => h
                (try simp only [Act.put, pk0, pk1, pk2])
                refine wpAnyH_take (i := 11) (oi := ?_) (v := undef) ?igi11 (by kernel_rfl) ?fgi11 ?rgi11 ?Qgi11 ?ygi11 (by assumption) ?tgi11
                case igi11 => (simp only [lk0, lk1, lk2]; rfl)
                case fgi11 | rgi11 => kernel_rfl
                case ygi11 => exact Or.inr ⟨by rfl, rfl⟩
                case Qgi11 => exact fun _ _ _ h => h
                (try simp only [Act.put, pk0, pk1, pk2])
                refine wpAnyH_take (i := 12) (oi := ?_) (v := undef) ?igi12 (by kernel_rfl) ?fgi12 ?rgi12 ?Qgi12 ?ygi12 (by assumption) ?tgi12
                case igi12 => (simp only [lk0, lk1, lk2]; rfl)
                case fgi12 | rgi12 => kernel_rfl
                case ygi12 => exact Or.inr ⟨by rfl, rfl⟩
                case Qgi12 => exact fun _ _ _ h => h
                (try simp only [Act.put, pk0, pk1, pk2])
                refine wpAnyH_take (i := 13) (oi := ?_) (v := undef) ?igi13 (by kernel_rfl) ?fgi13 ?rgi13 ?Qgi13 ?ygi13 (by assumption) ?tgi13
                case igi13 => (simp only [lk0, lk1, lk2]; rfl)
                case fgi13 | rgi13 => kernel_rfl
                case ygi13 => exact Or.inr ⟨by rfl, rfl⟩
                case Qgi13 => exact fun _ _ _ h => h
                (try simp only [Act.put, pk0, pk1, pk2])
                refine wpAnyH_take (i := 14) (oi := ?_) (v := undef) ?igi14 (by kernel_rfl) ?fgi14 ?rgi14 ?Qgi14 ?ygi14 (by assumption) ?tgi14
                case igi14 => (simp only [lk0, lk1, lk2]; rfl)
                case fgi14 | rgi14 => kernel_rfl
                case ygi14 => exact Or.inr ⟨by rfl, rfl⟩
                case Qgi14 => exact fun _ _ _ h => h
                (try simp only [Act.put, pk0, pk1, pk2])
                refine wpAnyH_take (i := 15) (oi := ?_) (v := undef) ?igi15 (by kernel_rfl) ?fgi15 ?rgi15 ?Qgi15 ?ygi15 (by assumption) ?tgi15
                case igi15 => (simp only [lk0, lk1, lk2]; rfl)
                case fgi15 | rgi15 => kernel_rfl
                case ygi15 => exact Or.inr ⟨by rfl, rfl⟩
                case Qgi15 => exact fun _ _ _ h => h
                (try simp only [Act.put, pk0, pk1, pk2])
                refine wpAnyH_take (i := 16) (oi := ?_) (v := undef) ?igi16 (by kernel_rfl) ?fgi16 ?rgi16 ?Qgi16 ?ygi16 (by assumption) ?tgi16
                case igi16 => (simp only [lk0, lk1, lk2]; rfl)
                case fgi16 | rgi16 => kernel_rfl
                case ygi16 => exact Or.inr ⟨by rfl, rfl⟩
                case Qgi16 => exact fun _ _ _ h => h
                (try simp only [Act.put, pk0, pk1, pk2])
                refine wpAnyH_take (i := 17) (oi := ?_) (v := undef) ?igi17 (by kernel_rfl) ?fgi17 ?rgi17 ?Qgi17 ?ygi17 (by assumption) ?tgi17
                case igi17 => (simp only [lk0, lk1, lk2]; rfl)
                case fgi17 | rgi17 => kernel_rfl
                case ygi17 => exact Or.inr ⟨by rfl, rfl⟩
                case Qgi17 => exact fun _ _ _ h => h
                (try simp only [Act.put, pk0, pk1, pk2])
                refine wpAnyH_take (i := 18) (oi := ?_) (v := undef) ?igi18 (by kernel_rfl) ?fgi18 ?rgi18 ?Qgi18 ?ygi18 (by assumption) ?tgi18
                case igi18 => (simp only [lk0, lk1, lk2]; rfl)
                case fgi18 | rgi18 => kernel_rfl
                case ygi18 => exact Or.inr ⟨by rfl, rfl⟩
                case Qgi18 => exact fun _ _ _ h => h
                (try simp only [Act.put, pk0, pk1, pk2])
                refine wpAnyH_take (i := 19) (oi := ?_) (v := undef) ?igi19 (by kernel_rfl) ?fgi19 ?rgi19 ?Qgi19 ?ygi19 (by assumption) ?tgi19
                case igi19 => (simp only [lk0, lk1, lk2]; rfl)
                case fgi19 | rgi19 => kernel_rfl
                case ygi19 => exact Or.inr ⟨by rfl, rfl⟩
                case Qgi19 => exact fun _ _ _ h => h
                (try simp only [Act.put, pk0, pk1, pk2])
                refine wpAnyH_take (i := 20) (oi := ?_) (v := undef) ?igi20 (by kernel_rfl) ?fgi20 ?rgi20 ?Qgi20 ?ygi20 (by assumption) ?tgi20
                case igi20 => (simp only [lk0, lk1, lk2]; rfl)
                case fgi20 | rgi20 => kernel_rfl
                case ygi20 => exact Or.inr ⟨by rfl, rfl⟩
                case Qgi20 => exact fun _ _ _ h => h
                (try simp only [Act.put, pk0, pk1, pk2])
                refine zt [21] ?_
                refine zt1 (fun _ _ d _ _ h => by cases d <;> exact h) (by simp only [lk0, lk1, lk2]; rfl) (by kernel_rfl) (by assumption) (by rfl) (fun w h => by (try dsimp only at h); go_simp; (try with_reducible rfl)) ?_; (try simp only [Act.put, pk0, pk1, pk2])
                refine zt0 ?_
                refine wpAnyH_done (by kernel_rfl) ?_ _
                clear hH
                go_wp2
                go_roundw
                case rel => exact ⟨j + 1, by omega, by go_num, Below.drew HB.out⟩
                case measure => simp [intOf]; omega
              have hni : ((j : Int) != (i : Int)) = true := by rw [bne_iff_ne]; omega
              have hni2 : ¬ (j : Int) = (i : Int) := by omega
              by_cases hjk : j = k
              · subst hjk
                clear cS4 hB
                go_upto_region 24 with fail
                refine wp_region_held_drew (S := (fun _ : World => True)) (by kernel_rfl) ?_ (fun hH => ?_)
                · trivial
                refine zt [0, 1, 2, 3, 4, 5, 6, 7, 8] ?_
                iterate 9 (refine zt1 (fun _ _ d _ _ h => by cases d <;> exact h) (by simp only [lk0, lk1, lk2]; rfl) (by kernel_rfl) (by assumption) (by rfl) (fun w h => by (try dsimp only at h); go_simp; (try with_reducible rfl)) ?_; (try simp only [Act.put, pk0, pk1, pk2]))
                refine zt0 ?_
                refine wpAnyH_take (i := 9) (oi := ?_) (v := undef) ?igk9 (by kernel_rfl) ?fgk9 ?rgk9 ?Qgk9 ?ygk9 (by assumption) ?tgk9
                case igk9 => (simp only [lk0, lk1, lk2]; rfl)
                case fgk9 | rgk9 => kernel_rfl
                case ygk9 => exact Or.inr ⟨by rfl, rfl⟩
                case Qgk9 => exact fun _ _ _ h => h
                (try simp only [Act.put, pk0, pk1, pk2])
                refine wpAnyH_take (i := 10) (oi := ?_) (v := undef) ?igk10 (by kernel_rfl) ?fgk10 ?rgk10 ?Qgk10 ?ygk10 (by assumption) ?tgk10
                case igk10 => (simp only [lk0, lk1, lk2]; rfl)
                case fgk10 | rgk10 => kernel_rfl
                case ygk10 => exact Or.inr ⟨by rfl, rfl⟩
                case Qgk10 => exact fun _ _ _ h => h
                (try simp only [Act.put, pk0, pk1, pk2])
                refine wpAnyH_take (i := 11) (oi := ?_) (v := undef) ?igk11 (by kernel_rfl) ?fgk11 ?rgk11 ?Qgk11 ?ygk11 (by assumption) ?tgk11
                case igk11 => (simp only [lk0, lk1, lk2]; rfl)
                case fgk11 | rgk11 => kernel_rfl
                case ygk11 => exact Or.inr ⟨by rfl, rfl⟩
                case Qgk11 => exact fun _ _ _ h => h
                (try simp only [Act.put, pk0, pk1, pk2])
                refine wpAnyH_take (i := 12) (oi := ?_) (v := undef) ?igk12 (by kernel_rfl) ?fgk12 ?rgk12 ?Qgk12 ?ygk12 (by assumption) ?tgk12
                case igk12 => (simp only [lk0, lk1, lk2]; rfl)
                case fgk12 | rgk12 => kernel_rfl
                case ygk12 => exact Or.inr ⟨by rfl, rfl⟩
                case Qgk12 => exact fun _ _ _ h => h
                (try simp only [Act.put, pk0, pk1, pk2])
                refine wpAnyH_take (i := 13) (oi := ?_) (v := undef) ?igk13 (by kernel_rfl) ?fgk13 ?rgk13 ?Qgk13 ?ygk13 (by assumption) ?tgk13
                case igk13 => (simp only [lk0, lk1, lk2]; rfl)
                case fgk13 | rgk13 => kernel_rfl
                case ygk13 => exact Or.inr ⟨by rfl, rfl⟩
                case Qgk13 => exact fun _ _ _ h => h
                (try simp only [Act.put, pk0, pk1, pk2])
                refine wpAnyH_take (i := 14) (oi := ?_) (v := undef) ?igk14 (by kernel_rfl) ?fgk14 ?rgk14 ?Qgk14 ?ygk14 (by assumption) ?tgk14
                case igk14 => (simp only [lk0, lk1, lk2]; rfl)
                case fgk14 | rgk14 => kernel_rfl
                case ygk14 => exact Or.inr ⟨by rfl, rfl⟩
                case Qgk14 => exact fun _ _ _ h => h
                (try simp only [Act.put, pk0, pk1, pk2])
                refine wpAnyH_take (i := 15) (oi := ?_) (v := undef) ?igk15 (by kernel_rfl) ?fgk15 ?rgk15 ?Qgk15 ?ygk15 (by assumption) ?tgk15
                case igk15 => (simp only [lk0, lk1, lk2]; rfl)
                case fgk15 | rgk15 => kernel_rfl
                case ygk15 => exact Or.inr ⟨by rfl, rfl⟩
                case Qgk15 => exact fun _ _ _ h => h
                (try simp only [Act.put, pk0, pk1, pk2])
                refine wpAnyH_take (i := 16) (oi := ?_) (v := undef) ?igk16 (by kernel_rfl) ?fgk16 ?rgk16 ?Qgk16 ?ygk16 (by assumption) ?tgk16
                case igk16 => (simp only [lk0, lk1, lk2]; rfl)
                case fgk16 | rgk16 => kernel_rfl
                case ygk16 => exact Or.inr ⟨by rfl, rfl⟩
                case Qgk16 => exact fun _ _ _ h => h
                (try simp only [Act.put, pk0, pk1, pk2])
                refine wpAnyH_take (i := 17) (oi := ?_) (v := undef) ?igk17 (by kernel_rfl) ?fgk17 ?rgk17 ?Qgk17 ?ygk17 (by assumption) ?tgk17
                case igk17 => (simp only [lk0, lk1, lk2]; rfl)
                case fgk17 | rgk17 => kernel_rfl
                case ygk17 => exact Or.inr ⟨by rfl, rfl⟩
                case Qgk17 => exact fun _ _ _ h => h
                (try simp only [Act.put, pk0, pk1, pk2])
                refine wpAnyH_take (i := 18) (oi := ?_) (v := undef) ?igk18 (by kernel_rfl) ?fgk18 ?rgk18 ?Qgk18 ?ygk18 (by assumption) ?tgk18
                case igk18 => (simp only [lk0, lk1, lk2]; rfl)
                case fgk18 | rgk18 => kernel_rfl
                case ygk18 => exact Or.inr ⟨by rfl, rfl⟩
                case Qgk18 => exact fun _ _ _ h => h
                (try simp only [Act.put, pk0, pk1, pk2])
                refine wpAnyH_take (i := 19) (oi := ?_) (v := undef) ?igk19 (by kernel_rfl) ?fgk19 ?rgk19 ?Qgk19 ?ygk19 (by assumption) ?tgk19
                case igk19 => (simp only [lk0, lk1, lk2]; rfl)
                case fgk19 | rgk19 => kernel_rfl
                case ygk19 => exact Or.inr ⟨by rfl, rfl⟩
                case Qgk19 => exact fun _ _ _ h => h
                (try simp only [Act.put, pk0, pk1, pk2])
                refine wpAnyH_take (i := 20) (oi := ?_) (v := undef) ?igk20 (by kernel_rfl) ?fgk20 ?rgk20 ?Qgk20 ?ygk20 (by assumption) ?tgk20
                case igk20 => (simp only [lk0, lk1, lk2]; rfl)
                case fgk20 | rgk20 => kernel_rfl
                case ygk20 => exact Or.inr ⟨by rfl, rfl⟩
                case Qgk20 => exact fun _ _ _ h => h
                (try simp only [Act.put, pk0, pk1, pk2])
                refine zt [21] ?_
                refine zt1 (fun _ _ d _ _ h => by cases d <;> exact h) (by simp only [lk0, lk1, lk2]; rfl) (by kernel_rfl) (by assumption) (by rfl) (fun w h => by (try dsimp only at h); go_simp; (try with_reducible rfl)) ?_; (try simp only [Act.put, pk0, pk1, pk2])
                refine zt0 ?_
                refine wpAnyH_done (by kernel_rfl) ?_ _
                clear hH
                go_wp2
                go_roundw
                case rel => exact ⟨j + 1, by omega, by go_num, Below.drew HB.out⟩
                case measure => simp [intOf]; omega
              have hnk : ((j : Int) != (k : Int)) = true := by rw [bne_iff_ne]; omega
              have hnk2 : ¬ (j : Int) = (k : Int) := by omega
              have hjA : j < AS2.length := by have := HLN.out; omega
              have hjM : j < (ASM Fs mt).length := by rw [asm_len]; exact hjl
              obtain ⟨tv0, tv1, tv2, tv3, tv4, ct0, ct1, ct2, ct3, ct4, htj⟩ := acc_V (repL_acc1 hB HT.out) j hjA
              obtain ⟨sv0, sv1, sv2, sv3, sv4, cs0, cs1, cs2, cs3, cs4, hsj⟩ := acc_V (repL_acc1 hB HSL.out) j hjM
              rw [HOTH.out j hjA hjM hji hjk] at htj
              have HSM := Lib.hid (same_any 2 _ _ _ wz.drew (rep_keep (Below.drew br) _ _ _ htj) (rep_keep (Below.drew br) _ _ _ hsj))
              clear htj hsj hB
              go_upto_region 24 with fail
              refine wp_region_held_drew (S := (fun z => z.cell? ⟨gA, 4, none⟩ = some (.slice (some ⟨bt, ot, none⟩) mt dt) ∧ z.cell? ⟨sb, 4, none⟩ = some (.slice (some ⟨b, off, none⟩) mt d) ∧ z.cell? ⟨bt, ot + j * 5, none⟩ = some (tv0) ∧ z.cell? ⟨bt, ot + j * 5 + 1, none⟩ = some (tv1) ∧ z.cell? ⟨bt, ot + j * 5 + 2, none⟩ = some (tv2) ∧ z.cell? ⟨bt, ot + j * 5 + 3, none⟩ = some (tv3) ∧ z.cell? ⟨bt, ot + j * 5 + 4, none⟩ = some (tv4) ∧ z.cell? ⟨b, off + j * 5, none⟩ = some (sv0) ∧ z.cell? ⟨b, off + j * 5 + 1, none⟩ = some (sv1) ∧ z.cell? ⟨b, off + j * 5 + 2, none⟩ = some (sv2) ∧ z.cell? ⟨b, off + j * 5 + 3, none⟩ = some (sv3) ∧ z.cell? ⟨b, off + j * 5 + 4, none⟩ = some (sv4))) (by kernel_rfl) ?_ (fun hH => ?_)
              · exact ⟨cA4, cS4, ct0, ct1, ct2, ct3, ct4, cs0, cs1, cs2, cs3, cs4⟩
              refine zt [0, 1, 2, 3, 4, 5, 6, 7, 8, 9, 10, 11, 12, 13, 14, 15, 16, 17, 18] ?_
              iterate 19 (refine zt1 (fun _ _ d _ _ h => by cases d <;> exact h) (by simp only [lk0, lk1, lk2]; rfl) (by kernel_rfl) (by assumption) (by rfl) (fun w h => by (try dsimp only at h); go_simp; (try with_reducible rfl)) ?_; (try simp only [Act.put, pk0, pk1, pk2]))
              refine zt0 ?_
              refine zr1 19 (by kernel_rfl) (by simp only [lk0, lk1, lk2]; rfl) (fun K hK => ?_)
              go_simp
              go_at_call 14; refine (HSM.out).mono ?_; rintro e w15 ⟨rfl, hb15⟩; have HB15 := Lib.hid hb15; clear hb15
              go_wp2_with fail
              refine hK.out _ _ ?hsh19 (fun hH => ?_)
              case hsh19 => exact ⟨ck HB15.out cA4, ck HB15.out cS4, ck HB15.out ct0, ck HB15.out ct1, ck HB15.out ct2, ck HB15.out ct3, ck HB15.out ct4, ck HB15.out cs0, ck HB15.out cs1, ck HB15.out cs2, ck HB15.out cs3, ck HB15.out cs4⟩
              clear hK K
              (try simp only [Act.put, pk0, pk1, pk2])
              refine zt [20, 21] ?_
              iterate 2 (refine zt1 (fun _ _ d _ _ h => by cases d <;> exact h) (by simp only [lk0, lk1, lk2]; rfl) (by kernel_rfl) (by assumption) (by rfl) (fun w h => by (try dsimp only at h); go_simp; (try with_reducible rfl)) ?_; (try simp only [Act.put, pk0, pk1, pk2]))
              refine zt0 ?_
              refine wpAnyH_done (by kernel_rfl) ?_ _
              clear hH
              go_wp2
              go_roundw
              case rel => exact ⟨j + 1, by omega, by go_num, bel_step HB.out (bel_step (Below.drew br) HB15.out)⟩
              case measure => simp [intOf]; omega
            · have hnj : ¬ (j : Int) < (mt : Int) := by omega
              rcases HEND.out with ⟨hik, hAS⟩ | ⟨hik, hEi, hEk⟩
              · have hii : (i : Int) = (k : Int) := by omega
                subst hAS
                have HSM := Lib.hid (same_any 3 _ _ _ wz (rep_keep hB _ _ _ HA12.out.2.2.2) (rep_keep hB _ _ _ HA12.out.2.1))
                obtain ⟨a0, a1, a2, a3, a4⟩ := cs_step HA12.out.2.2.1 hB
                have s0 := ck hB HA12.out.1.1.1
                have s1 := ck hB HA12.out.1.1.2.1
                have s2 := ck hB HA12.out.1.1.2.2.1
                have s3 := ck hB HA12.out.1.1.2.2.2.1
                clear hB hik
                go_wp2_with fail
                go_at_call 14; refine (HSM.out).mono ?_; rintro e w15 ⟨rfl, hb15⟩
                have HB15 := Lib.hid (bel_step HBWZ.out hb15)
                clear hb15 a0 a1 a2 a3 a4 s0 s1 s2 s3 cA4 cS4
                go_wp2
                go_ret
                exact ⟨rfl, HB15.out⟩
              · have hii : ¬ (i : Int) = (k : Int) := by omega
                obtain ⟨g1, o1, c1, ci4, cf1, hc1⟩ := acc_F (repL_acc1 hB HT.out) i (by have := HLN.out; omega)
                obtain ⟨g2, o2, c2, ck4, cf2, hc2⟩ := acc_F (repL_acc1 hB HT.out) k (by have := HLN.out; omega)
                rw [hEi] at cf1
                rw [hEk] at cf2
                have hops : ∀ t W, (binOp .sub t (.float .f64 FA) (.float .f64 nf)).run Tryz.prog W = .ok (.float .f64 (Flo.cop .sub FA nf)) W := fun t W => run_float_arith W .sub t .f64 _ _ _ HSB2.out.2
                have hopa : ∀ t W, (binOp .add t (.float .f64 FD) (.float .f64 nf)).run Tryz.prog W = .ok (.float .f64 (Flo.cop .add FD nf)) W := fun t W => run_float_arith W .add t .f64 _ _ _ HAD2.out.2
                generalize Flo.cop .sub FA nf = R1 at cf1 hops
                generalize Flo.cop .add FD nf = R2 at cf2 hopa
                clear hB hik hEi hEk
                go_wp2_with (go_at_call 23; refine (bits_ref_q _ _).mono ?_; rintro e w15 ⟨rfl, rfl⟩)
                go_ret
                exact ⟨rfl, HBWZ.out⟩
end Num
end Go.Proofs.YtpbfaffheigjcaaGreat
/-
  LedgerMoves: whatever comes in.
-/
namespace Go.Proofs.YtpbfaffheigjcaaGreat
open Go.RowKit
namespace Num
open Ints
set_option linter.unusedSimpArgs false
set_option linter.unusedVariables false
theorem u8_nat {t : Int} (w1 : (Lit.int IntKind.u8 t).wf = true) : ∃ n : Nat, t = (n : Int) ∧ n < 256 := by
  simp only [Lit.wf, decide_eq_true_eq, IntKind.min, IntKind.max] at w1
  have h3 : IntKind.u8.bits = 8 := rfl
  simp [IntKind.signed, h3] at w1
  exact ⟨t.toNat, by omega, by omega⟩
set_option maxRecDepth 100000 in
theorem moves_law {H : Type} {enc : TypeId × Value → H} {W : World} {v0 : Value} {d0 : DataW H} {p0 : List MemPlace} {b0 : Nat} (k0 : DataW.Trod enc Tryz.prog W 0 (fun _ => true) true 50 v0 d0 p0) (o0 : Value.okWide Tryz.prog W .any b0 50 v0) (s : Int) (w1 : (Lit.int IntKind.u8 s).wf = true) (t : Int) (w2 : (Lit.int IntKind.u8 t).wf = true) (f : Nat) (hf : f < 18446744073709551616) :
    Calls Tryz.prog 6 #[v0, .int .u8 s, .int .u8 t, .float .f64 f] W fun e w' => e = .returned (.bool true) ∧ Below W.heap.size W w' := by
  obtain ⟨p, l, c, L, rfl, h, hF⟩ := repF_of_Trod k0 o0
  obtain ⟨a, rfl, ha⟩ := u8_nat w1
  obtain ⟨b, rfl, hb⟩ := u8_nat w2
  exact moves_in p l c L hF a b ha hb f hf W h
end Num
end Go.Proofs.YtpbfaffheigjcaaGreat
