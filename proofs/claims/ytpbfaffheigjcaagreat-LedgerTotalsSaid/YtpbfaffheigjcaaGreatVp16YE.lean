/-
  Package ledger: amount.
-/
import Derived.Test.YtpbfaffheigjcaaGreatVMI
import Derived.Test.YtpbfaffheigjcaaGreatVp15YC
import Derived.Test.YtpbfaffheigjcaaGreatVp2Flo
import Derived.Deep.RegionHeld3
import Derived.RegionTactic
import Derived.Deep.DeepCutAuto
import Derived.Test.YtpbfaffheigjcaaGreatVp14LD
namespace Go.Proofs.YtpbfaffheigjcaaGreat
open Go.RowKit
namespace Num
open Ints
set_option linter.unusedSimpArgs false
set_option linter.unusedVariables false
theorem finite_is {K : Int} {F : Nat} {b : Bool} (h : finV K F = b) (hF : F < 2 ^ 64) (I : Int) (S : ByteArray) (p : Option Addr) (l c : Nat) (w : World) : Calls Tryz.prog 106 #[.agg #[.int .i64 K, .int .i64 I, .float .f64 F, .string S, .slice p l c]] w fun e w' => e = .returned (.bool b) ∧ Below w.heap.size w w' := by
  have h1 := finite_any K I F S p l c hF w
  rw [h] at h1
  exact h1
set_option maxRecDepth 100000 in
set_option maxHeartbeats 4000000 in
theorem amount_ok (K3 I3 : Int) (F3 : Nat) (S3 : ByteArray) (q3 : Option Addr) (m3 d3 : Nat) (w : World) (hF : F3 < 2 ^ 64) (hi : okI I3) (hf : finV K3 F3 = true) (hs : 0 < signV K3 I3 F3) (hq : opV 0 2 0 0 K3 I3 F3 = (2, 0, asF K3 I3 F3, 0)) : Calls Tryz.prog 94 #[.agg #[.int .i64 K3, .int .i64 I3, .float .f64 F3, .string S3, .slice q3 m3 d3]] w fun e w' => e = .returned (.tuple #[.agg #[.int .i64 2, .int .i64 0, .float .f64 (asF K3 I3 F3), .string ⟨#[]⟩, .slice none 0 0], .int .i64 0]) ∧ Below w.heap.size w w' := by
  have TR1 := Lib.hid (show (fun z0 : World => Zw z0 w.heap.size (.int .i64 K3) (.int .i64 I3) (.float .f64 F3) (.string S3) (.slice q3 m3 d3) ∧ Zz z0 (w.heap.size + 1) ∧ Below w.heap.size w z0) ((w.alloc (.cells #[.int .i64 K3, .int .i64 I3, .float .f64 F3, .string S3, .slice q3 m3 d3] 27)).alloc (.cells #[.int .i64 0, .int .i64 0, .float .f64 0, .string ⟨#[]⟩, .slice none 0 0] 27)) from ⟨row_alloc_step (row_alloc w #[.int .i64 K3, .int .i64 I3, .float .f64 F3, .string S3, .slice q3 m3 d3] 27) _, (ra (by simp only [World.size_alloc, World.size_drew])), bel_alloc (bel_alloc (Below.refl w.heap.size w) _) _⟩)
  have HF := Lib.hid hF
  have HN := Lib.hid hf
  have HQ := Lib.hid hq
  have HI := Lib.hid hi
  clear hF hf hq hi
  go_enter Tryz.func94, Tryz.ntmps94
  go_wp2_with fail
  go_at_call 106; refine (finite_is HN.out HF.out I3 S3 q3 m3 d3 _).mono ?_; rintro e w4 ⟨rfl, hbw4⟩
  have TR2 := Lib.hid (And.intro (row_step TR1.out.1 hbw4) (And.intro (row_step TR1.out.2.1 hbw4) (bel_step TR1.out.2.2 hbw4)))
  clear TR1
  clear hbw4
  obtain ⟨c0_0, c0_1, c0_2, c0_3, c0_4, c0f, c0l⟩ := r7 TR2.out.1
  go_wp2_with fail
  go_at_call 92; refine (sign_any K3 I3 F3 S3 q3 m3 d3 _).mono ?_; rintro e w5 ⟨rfl, hbw5⟩
  have TR3 := Lib.hid (And.intro (row_step TR2.out.1 hbw5) (And.intro (row_step TR2.out.2.1 hbw5) (bel_step TR2.out.2.2 hbw5)))
  clear TR2
  clear hbw5
  clear c0_0 c0_1 c0_2 c0_3 c0_4 c0f c0l
  go_upto_region 3 with fail
  have TR4 := Lib.hid (And.intro (row_step TR3.out.1 (Below.drew br)) (And.intro (row_step TR3.out.2.1 (Below.drew br)) (bel_step TR3.out.2.2 (Below.drew br))))
  clear TR3
  refine wp_region_held_drew (S := (fun z => z.cell? ⟨w.heap.size, 0, none⟩ = some (.int .i64 K3) ∧ z.cell? ⟨w.heap.size, 1, none⟩ = some (.int .i64 I3) ∧ z.cell? ⟨w.heap.size, 2, none⟩ = some (.float .f64 F3) ∧ z.cell? ⟨w.heap.size, 3, none⟩ = some (.string S3) ∧ z.cell? ⟨w.heap.size, 4, none⟩ = some (.slice q3 m3 d3))) (by kernel_rfl) ?_ (fun hH => ?_)
  · exact ⟨rc TR4.out.1 0, rc TR4.out.1 1, rc TR4.out.1 2, rc TR4.out.1 3, rc TR4.out.1 4⟩
  refine zt [1] ?_
  refine zt1 (fun _ _ d _ _ h => by cases d <;> exact h) (by simp only [lk0, lk1, lk2]; rfl) (by kernel_rfl) (by assumption) (by rfl) (fun w h => by (try dsimp only at h); go_simp; (try with_reducible rfl)) ?_; (try simp only [Act.put, pk0, pk1, pk2])
  refine zt0 ?_
  refine zr1 0 (by kernel_rfl) (by simp only [lk0, lk1, lk2]; rfl) (fun K hK => ?_)
  go_simp
  go_at_call 91; refine (nothing_any _).mono ?_; rintro e w8 ⟨rfl, hbw8⟩
  have TR5 := Lib.hid (And.intro (row_step TR4.out.1 hbw8) (And.intro (row_step TR4.out.2.1 hbw8) (bel_step TR4.out.2.2 hbw8)))
  clear TR4
  clear hbw8
  go_wp2_with fail
  refine hK.out _ _ ?hsv7_ (fun hH => ?_)
  case hsv7_ => exact ⟨rc TR5.out.1 0, rc TR5.out.1 1, rc TR5.out.1 2, rc TR5.out.1 3, rc TR5.out.1 4⟩
  clear hK K
  (try simp only [Act.put, pk0, pk1, pk2])
  refine zr1 2 (by kernel_rfl) (by simp only [lk0, lk1, lk2]; rfl) (fun K hK => ?_)
  go_simp
  go_at_call 98; refine (add_any 2 0 0 _ _ _ _ K3 I3 F3 S3 q3 m3 d3 _ (by decide) HI.out HQ.out).mono ?_; rintro e w10 ⟨rfl, hbw10⟩
  have TR6 := Lib.hid (And.intro (row_step TR5.out.1 hbw10) (And.intro (row_step TR5.out.2.1 hbw10) (bel_step TR5.out.2.2 hbw10)))
  clear TR5
  clear hbw10
  go_wp2_with fail
  refine hK.out _ _ ?hsv9_ (fun hH => ?_)
  case hsv9_ => exact ⟨rc TR6.out.1 0, rc TR6.out.1 1, rc TR6.out.1 2, rc TR6.out.1 3, rc TR6.out.1 4⟩
  clear hK K
  (try simp only [Act.put, pk0, pk1, pk2])
  refine zt [3, 4] ?_
  iterate 2 (refine zt1 (fun _ _ d _ _ h => by cases d <;> exact h) (by simp only [lk0, lk1, lk2]; rfl) (by kernel_rfl) (by assumption) (by rfl) (fun w h => by (try dsimp only at h); go_simp; (try with_reducible rfl)) ?_; (try simp only [Act.put, pk0, pk1, pk2]))
  refine zt0 ?_
  refine zr1 5 (by kernel_rfl) (by simp only [lk0, lk1, lk2]; rfl) (fun K hK => ?_)
  obtain ⟨b30, b31, b32, b33, b34, b3f, b3l⟩ := r7 TR6.out.2.1; go_simp
  have TR7 := Lib.hid (show (fun z0 : World => Zw z0 w.heap.size (.int .i64 K3) (.int .i64 I3) (.float .f64 F3) (.string S3) (.slice q3 m3 d3) ∧ ZF z0 (w.heap.size + 1) (asF K3 I3 F3) ∧ Below w.heap.size w z0) (((((w10.setCell ⟨w.heap.size + 1, 0, none⟩ (.int .i64 2)).setCell ⟨w.heap.size + 1, 1, none⟩ (.int .i64 0)).setCell ⟨w.heap.size + 1, 2, none⟩ (.float .f64 (asF K3 I3 F3))).setCell ⟨w.heap.size + 1, 3, none⟩ (.string ⟨#[]⟩)).setCell ⟨w.heap.size + 1, 4, none⟩ (.slice none 0 0)) from ⟨s5o TR6.out.1 (by omega), s5r TR6.out.2.1, s5b TR6.out.2.2 (by omega)⟩)
  clear TR6
  clear b30 b31 b32 b33 b34 b3f b3l
  go_wp2_with fail
  refine hK.out _ _ ?hsv13_ (fun hH => ?_)
  case hsv13_ => exact ⟨rc TR7.out.1 0, rc TR7.out.1 1, rc TR7.out.1 2, rc TR7.out.1 3, rc TR7.out.1 4⟩
  clear hK K
  (try simp only [Act.put, pk0, pk1, pk2])
  refine zt [6] ?_
  refine zt1 (fun _ _ d _ _ h => by cases d <;> exact h) (by simp only [lk0, lk1, lk2]; rfl) (by kernel_rfl) (by assumption) (by rfl) (fun w h => by (try dsimp only at h); go_simp; (try with_reducible rfl)) ?_; (try simp only [Act.put, pk0, pk1, pk2])
  refine zt0 ?_
  refine wpAnyH_done (by kernel_rfl) ?_ _
  revert TR7
  generalize (((((w10.setCell ⟨w.heap.size + 1, 0, none⟩ (.int .i64 2)).setCell ⟨w.heap.size + 1, 1, none⟩ (.int .i64 0)).setCell ⟨w.heap.size + 1, 2, none⟩ (.float .f64 (asF K3 I3 F3))).setCell ⟨w.heap.size + 1, 3, none⟩ (.string ⟨#[]⟩)).setCell ⟨w.heap.size + 1, 4, none⟩ (.slice none 0 0)) = Wf
  intro TR7
  obtain ⟨c1_0, c1_1, c1_2, c1_3, c1_4, c1f, c1l⟩ := r7 TR7.out.2.1
  go_wp2
  exact bodyPost_ret (v := .tuple #[.agg #[.int .i64 2, .int .i64 0, .float .f64 (asF K3 I3 F3), .string ⟨#[]⟩, .slice none 0 0], .int .i64 0]) (by simp [results, Tryz.results94, go_sem, c1_0, c1_1, c1_2, c1_3, c1_4]) rfl ⟨rfl, TR7.out.2.2⟩
end Num
end Go.Proofs.YtpbfaffheigjcaaGreat
/-
  Package ledger: more, less.
-/
namespace Go.Proofs.YtpbfaffheigjcaaGreat
open Go.RowKit
namespace Num
open Ints
set_option linter.unusedSimpArgs false
set_option linter.unusedVariables false
theorem hold_shape {n : Nat} {w : World} {K I : Int} {F FV : Nat} {S : ByteArray} {q : Option Addr} {m d : Nat} {V : VT (n + 1)} (hv : V.1 = 2 ∧ V.2.2.1 = FV) (h : Rep w (n + 1) (.agg #[.int .i64 K, .int .i64 I, .float .f64 F, .string S, .slice q m d]) V) : K = 2 ∧ FV = F ∧ okI I := by
  obtain ⟨p, l, c, hv', h1, h2, _⟩ := h
  injection hv' with hv'
  simp only [Array.mk.injEq, List.cons.injEq, and_true] at hv'
  obtain ⟨e1, e2, e3, e4, e5⟩ := hv'
  injection e1 with _ e1
  injection e2 with _ e2
  injection e3 with _ e3
  exact ⟨e1.trans hv.1, hv.2.symm.trans e3.symm, e2 ▸ h2⟩
set_option maxRecDepth 100000 in
set_option maxHeartbeats 4000000 in
theorem more_ok (n : Nat) (g o c : Nat) (s : ByteArray) (V : VT (n + 1)) (G : Nat) (w : World) (h : Rep w (n + 2) (.agg #[.int .i64 4, .int .i64 0, .float .f64 0, .string ⟨#[]⟩, .slice (some ⟨g, o, none⟩) 2 c]) (pairT n s V)) (FV : Nat) (hv : V.1 = 2 ∧ V.2.2.1 = FV) (hs : finV 2 (Flo.cop .add FV G) = true) :
    Calls Tryz.prog 95 #[.agg #[.int .i64 4, .int .i64 0, .float .f64 0, .string ⟨#[]⟩, .slice (some ⟨g, o, none⟩) 2 c], .agg #[.int .i64 2, .int .i64 0, .float .f64 G, .string ⟨#[]⟩, .slice none 0 0]] w fun e w' => e = .returned (.tuple #[.agg #[.int .i64 2, .int .i64 0, .float .f64 (Flo.cop .add FV G), .string ⟨#[]⟩, .slice none 0 0], .int .i64 0]) ∧ Below w.heap.size w w' := by
  have TR1 := Lib.hid (show (fun z0 : World => ZL z0 w.heap.size (some ⟨g, o, none⟩) 2 c ∧ ZF z0 (w.heap.size + 1) G ∧ Zz z0 (w.heap.size + 1 + 1) ∧ Below w.heap.size w z0) (((w.alloc (.cells #[.int .i64 4, .int .i64 0, .float .f64 0, .string ⟨#[]⟩, .slice (some ⟨g, o, none⟩) 2 c] 27)).alloc (.cells #[.int .i64 2, .int .i64 0, .float .f64 G, .string ⟨#[]⟩, .slice none 0 0] 27)).alloc (.cells #[.int .i64 0, .int .i64 0, .float .f64 0, .string ⟨#[]⟩, .slice none 0 0] 27)) from ⟨row_alloc_step (row_alloc_step (row_alloc w #[.int .i64 4, .int .i64 0, .float .f64 0, .string ⟨#[]⟩, .slice (some ⟨g, o, none⟩) 2 c] 27) _) _, (row_alloc_step (ra (by simp only [World.size_alloc, World.size_drew])) _), (ra (by simp only [World.size_alloc, World.size_drew])), bel_alloc (bel_alloc (bel_alloc (Below.refl w.heap.size w) _) _) _⟩)
  have HP := Lib.hid h
  have HS := Lib.hid hs
  have HV := Lib.hid hv
  clear h hs hv
  go_enter Tryz.func95, Tryz.ntmps95
  go_upto_region 1 with fail
  have TR2 := Lib.hid (And.intro (row_step TR1.out.1 (Below.drew br)) (And.intro (row_step TR1.out.2.1 (Below.drew br)) (And.intro (row_step TR1.out.2.2.1 (Below.drew br)) (bel_step TR1.out.2.2.2 (Below.drew br)))))
  clear TR1
  refine wp_region_held_drew (S := (fun z => z.cell? ⟨w.heap.size, 0, none⟩ = some (.int .i64 4) ∧ z.cell? ⟨w.heap.size, 1, none⟩ = some (.int .i64 0) ∧ z.cell? ⟨w.heap.size, 2, none⟩ = some (.float .f64 0) ∧ z.cell? ⟨w.heap.size, 3, none⟩ = some (.string ⟨#[]⟩) ∧ z.cell? ⟨w.heap.size, 4, none⟩ = some (.slice (some ⟨g, o, none⟩) 2 c) ∧ z.cell? ⟨w.heap.size + 1, 0, none⟩ = some (.int .i64 2) ∧ z.cell? ⟨w.heap.size + 1, 1, none⟩ = some (.int .i64 0) ∧ z.cell? ⟨w.heap.size + 1, 2, none⟩ = some (.float .f64 G) ∧ z.cell? ⟨w.heap.size + 1, 3, none⟩ = some (.string ⟨#[]⟩) ∧ z.cell? ⟨w.heap.size + 1, 4, none⟩ = some (.slice none 0 0))) (by kernel_rfl) ?_ (fun hH => ?_)
  · exact ⟨rc TR2.out.1 0, rc TR2.out.1 1, rc TR2.out.1 2, rc TR2.out.1 3, rc TR2.out.1 4, rc TR2.out.2.1 0, rc TR2.out.2.1 1, rc TR2.out.2.1 2, rc TR2.out.2.1 3, rc TR2.out.2.1 4⟩
  refine zt [0, 2] ?_
  iterate 2 (refine zt1 (fun _ _ d _ _ h => by cases d <;> exact h) (by simp only [lk0, lk1, lk2]; rfl) (by kernel_rfl) (by assumption) (by rfl) (fun w h => by (try dsimp only at h); go_simp; (try with_reducible rfl)) ?_; (try simp only [Act.put, pk0, pk1, pk2]))
  refine zt0 ?_
  refine wpAnyH_ready (rs := [1, 7]) (by kernel_rfl) (by simp) ?_
  refine AllReadyH.cons (o := ?_) ?hov3_ ?hstv3_ ?mov3_
  case hov3_ => (simp only [lk0, lk1, lk2]; rfl)
  case hstv3_ =>
    intro K hK
    go_simp
    go_at_call 93; refine (hasOf_any n _ s V _ (rep_keep TR2.out.2.2.2 _ _ _ HP.out)).mono ?_; rintro e w4 ⟨Kx, Ix, Fx, Sx, qx, mx, dx, rfl, hbw4, hrx⟩
    have TR3 := Lib.hid (And.intro (row_step TR2.out.1 hbw4) (And.intro (row_step TR2.out.2.1 hbw4) (And.intro (row_step TR2.out.2.2.1 hbw4) (bel_step TR2.out.2.2.2 hbw4))))
    clear TR2
    obtain ⟨rfl, rfl, hix⟩ := hold_shape HV.out hrx
    clear hrx
    clear hbw4
    go_wp2_with fail
    refine hK.out _ _ ?hsv3_ (fun hH => ?_)
    case hsv3_ => exact ⟨rc TR3.out.1 0, rc TR3.out.1 1, rc TR3.out.1 2, rc TR3.out.1 3, rc TR3.out.1 4, rc TR3.out.2.1 0, rc TR3.out.2.1 1, rc TR3.out.2.1 2, rc TR3.out.2.1 3, rc TR3.out.2.1 4⟩
    clear hK K
    (try simp only [Act.put, pk0, pk1, pk2])
    refine wpAnyH_ready (rs := [3, 7]) (by kernel_rfl) (by simp) ?_
    refine AllReadyH.cons (o := ?_) ?hov5_ ?hstv5_ ?mov5_
    case hov5_ => (simp only [lk0, lk1, lk2]; rfl)
    case hstv5_ =>
      intro K hK
      go_simp
      go_at_call 98; refine (add_any 2 Ix FV Sx qx mx dx 2 0 G _ _ _ _ _ hix (by decide) (show opV 0 2 Ix FV 2 0 G = (2, 0, Flo.cop .add FV G, 0) from opV_flo rfl rfl)).mono ?_; rintro e w6 ⟨rfl, hbw6⟩
      have TR4 := Lib.hid (And.intro (row_step TR3.out.1 hbw6) (And.intro (row_step TR3.out.2.1 hbw6) (And.intro (row_step TR3.out.2.2.1 hbw6) (bel_step TR3.out.2.2.2 hbw6))))
      clear TR3
      clear hbw6
      go_wp2_with fail
      refine hK.out _ _ ?hsv5_ (fun hH => ?_)
      case hsv5_ => exact ⟨rc TR4.out.1 0, rc TR4.out.1 1, rc TR4.out.1 2, rc TR4.out.1 3, rc TR4.out.1 4, rc TR4.out.2.1 0, rc TR4.out.2.1 1, rc TR4.out.2.1 2, rc TR4.out.2.1 3, rc TR4.out.2.1 4⟩
      clear hK K
      (try simp only [Act.put, pk0, pk1, pk2])
      refine zt [4, 5, 6] ?_
      iterate 3 (refine zt1 (fun _ _ d _ _ h => by cases d <;> exact h) (by simp only [lk0, lk1, lk2]; rfl) (by kernel_rfl) (by assumption) (by rfl) (fun w h => by (try dsimp only at h); go_simp; (try with_reducible rfl)) ?_; (try simp only [Act.put, pk0, pk1, pk2]))
      refine zt0 ?_
      refine zr1 7 (by kernel_rfl) (by simp only [lk0, lk1, lk2]; rfl) (fun K hK => ?_)
      go_simp
      have hlt11 : w.heap.size < w6.heap.size := row_lt TR4.out.1
      have hlt12 : w.heap.size + 1 < w6.heap.size := row_lt TR4.out.2.1
      have hlt13 : w.heap.size + 1 + 1 < w6.heap.size := row_lt TR4.out.2.2.1
      have hlt14 : w.heap.size ≤ w6.heap.size := TR4.out.2.2.2.size
      have TR5 := Lib.hid (show (fun z0 : World => ZL z0 w.heap.size (some ⟨g, o, none⟩) 2 c ∧ ZF z0 (w.heap.size + 1) G ∧ Zz z0 (w.heap.size + 1 + 1) ∧ Zz z0 w6.heap.size ∧ Below w.heap.size w z0) (w6.alloc (.cells #[.int .i64 0, .int .i64 0, .float .f64 0, .string ⟨#[]⟩, .slice none 0 0] 27)) from ⟨row_alloc_step TR4.out.1 _, row_alloc_step TR4.out.2.1 _, row_alloc_step TR4.out.2.2.1 _, (ra (by simp only [World.size_alloc, World.size_drew])), bel_step TR4.out.2.2.2 (bel_alloc br _)⟩)
      go_wp2_with fail
      refine hK.out _ _ ?hsv10_ (fun hH => ?_)
      case hsv10_ => exact ⟨rc TR5.out.1 0, rc TR5.out.1 1, rc TR5.out.1 2, rc TR5.out.1 3, rc TR5.out.1 4, rc TR5.out.2.1 0, rc TR5.out.2.1 1, rc TR5.out.2.1 2, rc TR5.out.2.1 3, rc TR5.out.2.1 4⟩
      clear hK K
      (try simp only [Act.put, pk0, pk1, pk2])
      refine zr1 8 (by kernel_rfl) (by simp only [lk0, lk1, lk2]; rfl) (fun K hK => ?_)
      obtain ⟨b30, b31, b32, b33, b34, b3f, b3l⟩ := r7 TR5.out.2.2.2.1; go_simp
      have TR6 := Lib.hid (show (fun z0 : World => ZL z0 w.heap.size (some ⟨g, o, none⟩) 2 c ∧ ZF z0 (w.heap.size + 1) G ∧ Zz z0 (w.heap.size + 1 + 1) ∧ ZF z0 w6.heap.size (Flo.cop .add FV G) ∧ Below w.heap.size w z0) (w6.alloc (.cells #[.int .i64 2, .int .i64 0, .float .f64 (Flo.cop .add FV G), .string ⟨#[]⟩, .slice none 0 0] 27)) from ⟨row_alloc_step TR4.out.1 _, row_alloc_step TR4.out.2.1 _, row_alloc_step TR4.out.2.2.1 _, (ra (by simp only [World.size_alloc, World.size_drew])), bel_step TR4.out.2.2.2 (bel_alloc br _)⟩)
      clear b30 b31 b32 b33 b34 b3f b3l
      go_wp2_with fail
      refine hK.out _ _ ?hsv15_ (fun hH => ?_)
      case hsv15_ => exact ⟨rc TR6.out.1 0, rc TR6.out.1 1, rc TR6.out.1 2, rc TR6.out.1 3, rc TR6.out.1 4, rc TR6.out.2.1 0, rc TR6.out.2.1 1, rc TR6.out.2.1 2, rc TR6.out.2.1 3, rc TR6.out.2.1 4⟩
      clear hK K
      (try simp only [Act.put, pk0, pk1, pk2])
      refine zt [9] ?_
      refine zt1 (fun _ _ d _ _ h => by cases d <;> exact h) (by simp only [lk0, lk1, lk2]; rfl) (by kernel_rfl) (by assumption) (by rfl) (fun w h => by (try dsimp only at h); go_simp; (try with_reducible rfl)) ?_; (try simp only [Act.put, pk0, pk1, pk2])
      refine zt0 ?_
      refine wpAnyH_done (by kernel_rfl) ?_ _
      revert TR6
      generalize (w6.alloc (.cells #[.int .i64 2, .int .i64 0, .float .f64 (Flo.cop .add FV G), .string ⟨#[]⟩, .slice none 0 0] 27)) = Wf
      intro TR6
      obtain ⟨c3_0, c3_1, c3_2, c3_3, c3_4, c3f, c3l⟩ := r7 TR6.out.2.2.2.1
      go_wp2_with fail
      go_at_call 106; refine (finite_is HS.out (Flo.cop_lt _ _ _) 0 _ _ _ _ _).mono ?_; rintro e w17 ⟨rfl, hbw17⟩
      have TR7 := Lib.hid (And.intro (row_step TR6.out.1 hbw17) (And.intro (row_step TR6.out.2.1 hbw17) (And.intro (row_step TR6.out.2.2.1 hbw17) (And.intro (row_step TR6.out.2.2.2.1 hbw17) (bel_step TR6.out.2.2.2.2 hbw17)))))
      clear TR6
      clear hbw17
      clear c3_0 c3_1 c3_2 c3_3 c3_4 c3f c3l
      obtain ⟨c3_0, c3_1, c3_2, c3_3, c3_4, c3f, c3l⟩ := r7 TR7.out.2.2.2.1
      obtain ⟨e2_0, e2_1, e2_2, e2_3, e2_4, e2f, e2l⟩ := r7 TR7.out.2.2.1
      go_wp2
      refine bodyPost_ret (v := .tuple #[.agg #[.int .i64 2, .int .i64 0, .float .f64 (Flo.cop .add FV G), .string ⟨#[]⟩, .slice none 0 0], .int .i64 0]) (by simp [results, Tryz.results95, go_sem, World.cell?_setCell_same, World.cell?_setCell_other, e2_0, e2_1, e2_2, e2_3, e2_4]) rfl ⟨rfl, ?_⟩
      exact set5_below (g := w.heap.size + 1 + 1) (o := 0) TR7.out.2.2.2.2 (by omega) _ _ _ _ _
    case mov5_ =>
      refine AllReadyH.cons (o := ?_) ?hov18_ ?hstv18_ AllReadyH.nil
      case hov18_ => (simp only [lk0, lk1, lk2]; rfl)
      intro K hK
      go_simp
      have hlt19 : w.heap.size < w4.heap.size := row_lt TR3.out.1
      have hlt20 : w.heap.size + 1 < w4.heap.size := row_lt TR3.out.2.1
      have hlt21 : w.heap.size + 1 + 1 < w4.heap.size := row_lt TR3.out.2.2.1
      have hlt22 : w.heap.size ≤ w4.heap.size := TR3.out.2.2.2.size
      have TR4 := Lib.hid (show (fun z0 : World => ZL z0 w.heap.size (some ⟨g, o, none⟩) 2 c ∧ ZF z0 (w.heap.size + 1) G ∧ Zz z0 (w.heap.size + 1 + 1) ∧ Zz z0 w4.heap.size ∧ Below w.heap.size w z0) (w4.alloc (.cells #[.int .i64 0, .int .i64 0, .float .f64 0, .string ⟨#[]⟩, .slice none 0 0] 27)) from ⟨row_alloc_step TR3.out.1 _, row_alloc_step TR3.out.2.1 _, row_alloc_step TR3.out.2.2.1 _, (ra (by simp only [World.size_alloc, World.size_drew])), bel_step TR3.out.2.2.2 (bel_alloc br _)⟩)
      go_wp2_with fail
      refine hK.out _ _ ?hsv18_ (fun hH => ?_)
      case hsv18_ => exact ⟨rc TR4.out.1 0, rc TR4.out.1 1, rc TR4.out.1 2, rc TR4.out.1 3, rc TR4.out.1 4, rc TR4.out.2.1 0, rc TR4.out.2.1 1, rc TR4.out.2.1 2, rc TR4.out.2.1 3, rc TR4.out.2.1 4⟩
      clear hK K
      (try simp only [Act.put, pk0, pk1, pk2])
      refine zr1 3 (by kernel_rfl) (by simp only [lk0, lk1, lk2]; rfl) (fun K hK => ?_)
      go_simp
      go_at_call 98; refine (add_any 2 Ix FV Sx qx mx dx 2 0 G _ _ _ _ _ hix (by decide) (show opV 0 2 Ix FV 2 0 G = (2, 0, Flo.cop .add FV G, 0) from opV_flo rfl rfl)).mono ?_; rintro e w24 ⟨rfl, hbw24⟩
      have TR5 := Lib.hid (And.intro (row_step TR4.out.1 hbw24) (And.intro (row_step TR4.out.2.1 hbw24) (And.intro (row_step TR4.out.2.2.1 hbw24) (And.intro (row_step TR4.out.2.2.2.1 hbw24) (bel_step TR4.out.2.2.2.2 hbw24)))))
      clear TR4
      clear hbw24
      go_wp2_with fail
      refine hK.out _ _ ?hsv23_ (fun hH => ?_)
      case hsv23_ => exact ⟨rc TR5.out.1 0, rc TR5.out.1 1, rc TR5.out.1 2, rc TR5.out.1 3, rc TR5.out.1 4, rc TR5.out.2.1 0, rc TR5.out.2.1 1, rc TR5.out.2.1 2, rc TR5.out.2.1 3, rc TR5.out.2.1 4⟩
      clear hK K
      (try simp only [Act.put, pk0, pk1, pk2])
      refine zt [4, 5, 6] ?_
      iterate 3 (refine zt1 (fun _ _ d _ _ h => by cases d <;> exact h) (by simp only [lk0, lk1, lk2]; rfl) (by kernel_rfl) (by assumption) (by rfl) (fun w h => by (try dsimp only at h); go_simp; (try with_reducible rfl)) ?_; (try simp only [Act.put, pk0, pk1, pk2]))
      refine zt0 ?_
      refine zr1 8 (by kernel_rfl) (by simp only [lk0, lk1, lk2]; rfl) (fun K hK => ?_)
      obtain ⟨b30, b31, b32, b33, b34, b3f, b3l⟩ := r7 TR5.out.2.2.2.1; go_simp
      have TR6 := Lib.hid (show (fun z0 : World => ZL z0 w.heap.size (some ⟨g, o, none⟩) 2 c ∧ ZF z0 (w.heap.size + 1) G ∧ Zz z0 (w.heap.size + 1 + 1) ∧ ZF z0 w4.heap.size (Flo.cop .add FV G) ∧ Below w.heap.size w z0) (((((w24.setCell ⟨w4.heap.size, 0, none⟩ (.int .i64 2)).setCell ⟨w4.heap.size, 1, none⟩ (.int .i64 0)).setCell ⟨w4.heap.size, 2, none⟩ (.float .f64 (Flo.cop .add FV G))).setCell ⟨w4.heap.size, 3, none⟩ (.string ⟨#[]⟩)).setCell ⟨w4.heap.size, 4, none⟩ (.slice none 0 0)) from ⟨s5o TR5.out.1 (by omega), s5o TR5.out.2.1 (by omega), s5o TR5.out.2.2.1 (by omega), s5r TR5.out.2.2.2.1, s5b TR5.out.2.2.2.2 (by omega)⟩)
      clear TR5
      clear b30 b31 b32 b33 b34 b3f b3l
      go_wp2_with fail
      refine hK.out _ _ ?hsv28_ (fun hH => ?_)
      case hsv28_ => exact ⟨rc TR6.out.1 0, rc TR6.out.1 1, rc TR6.out.1 2, rc TR6.out.1 3, rc TR6.out.1 4, rc TR6.out.2.1 0, rc TR6.out.2.1 1, rc TR6.out.2.1 2, rc TR6.out.2.1 3, rc TR6.out.2.1 4⟩
      clear hK K
      (try simp only [Act.put, pk0, pk1, pk2])
      refine zt [9] ?_
      refine zt1 (fun _ _ d _ _ h => by cases d <;> exact h) (by simp only [lk0, lk1, lk2]; rfl) (by kernel_rfl) (by assumption) (by rfl) (fun w h => by (try dsimp only at h); go_simp; (try with_reducible rfl)) ?_; (try simp only [Act.put, pk0, pk1, pk2])
      refine zt0 ?_
      refine wpAnyH_done (by kernel_rfl) ?_ _
      revert TR6
      generalize (((((w24.setCell ⟨w4.heap.size, 0, none⟩ (.int .i64 2)).setCell ⟨w4.heap.size, 1, none⟩ (.int .i64 0)).setCell ⟨w4.heap.size, 2, none⟩ (.float .f64 (Flo.cop .add FV G))).setCell ⟨w4.heap.size, 3, none⟩ (.string ⟨#[]⟩)).setCell ⟨w4.heap.size, 4, none⟩ (.slice none 0 0)) = Wf
      intro TR6
      obtain ⟨c3_0, c3_1, c3_2, c3_3, c3_4, c3f, c3l⟩ := r7 TR6.out.2.2.2.1
      go_wp2_with fail
      go_at_call 106; refine (finite_is HS.out (Flo.cop_lt _ _ _) 0 _ _ _ _ _).mono ?_; rintro e w30 ⟨rfl, hbw30⟩
      have TR7 := Lib.hid (And.intro (row_step TR6.out.1 hbw30) (And.intro (row_step TR6.out.2.1 hbw30) (And.intro (row_step TR6.out.2.2.1 hbw30) (And.intro (row_step TR6.out.2.2.2.1 hbw30) (bel_step TR6.out.2.2.2.2 hbw30)))))
      clear TR6
      clear hbw30
      clear c3_0 c3_1 c3_2 c3_3 c3_4 c3f c3l
      obtain ⟨c3_0, c3_1, c3_2, c3_3, c3_4, c3f, c3l⟩ := r7 TR7.out.2.2.2.1
      obtain ⟨e2_0, e2_1, e2_2, e2_3, e2_4, e2f, e2l⟩ := r7 TR7.out.2.2.1
      go_wp2
      refine bodyPost_ret (v := .tuple #[.agg #[.int .i64 2, .int .i64 0, .float .f64 (Flo.cop .add FV G), .string ⟨#[]⟩, .slice none 0 0], .int .i64 0]) (by simp [results, Tryz.results95, go_sem, World.cell?_setCell_same, World.cell?_setCell_other, e2_0, e2_1, e2_2, e2_3, e2_4]) rfl ⟨rfl, ?_⟩
      exact set5_below (g := w.heap.size + 1 + 1) (o := 0) TR7.out.2.2.2.2 (by omega) _ _ _ _ _
  case mov3_ =>
    refine AllReadyH.cons (o := ?_) ?hov31_ ?hstv31_ AllReadyH.nil
    case hov31_ => (simp only [lk0, lk1, lk2]; rfl)
    intro K hK
    go_simp
    have TR3 := Lib.hid (show (fun z0 : World => ZL z0 w.heap.size (some ⟨g, o, none⟩) 2 c ∧ ZF z0 (w.heap.size + 1) G ∧ Zz z0 (w.heap.size + 1 + 1) ∧ Zz z0 (w.heap.size + 1 + 1 + 1) ∧ Below w.heap.size w z0) ((((w.alloc (.cells #[.int .i64 4, .int .i64 0, .float .f64 0, .string ⟨#[]⟩, .slice (some ⟨g, o, none⟩) 2 c] 27)).alloc (.cells #[.int .i64 2, .int .i64 0, .float .f64 G, .string ⟨#[]⟩, .slice none 0 0] 27)).alloc (.cells #[.int .i64 0, .int .i64 0, .float .f64 0, .string ⟨#[]⟩, .slice none 0 0] 27)).drew.alloc (.cells #[.int .i64 0, .int .i64 0, .float .f64 0, .string ⟨#[]⟩, .slice none 0 0] 27)) from ⟨row_alloc_step TR2.out.1 _, row_alloc_step TR2.out.2.1 _, row_alloc_step TR2.out.2.2.1 _, (ra (by simp only [World.size_alloc, World.size_drew])), bel_step TR2.out.2.2.2 (bel_alloc br _)⟩)
    go_wp2_with fail
    refine hK.out _ _ ?hsv31_ (fun hH => ?_)
    case hsv31_ => exact ⟨rc TR3.out.1 0, rc TR3.out.1 1, rc TR3.out.1 2, rc TR3.out.1 3, rc TR3.out.1 4, rc TR3.out.2.1 0, rc TR3.out.2.1 1, rc TR3.out.2.1 2, rc TR3.out.2.1 3, rc TR3.out.2.1 4⟩
    clear hK K
    (try simp only [Act.put, pk0, pk1, pk2])
    refine zr1 1 (by kernel_rfl) (by simp only [lk0, lk1, lk2]; rfl) (fun K hK => ?_)
    go_simp
    go_at_call 93; refine (hasOf_any n _ s V _ (rep_keep TR3.out.2.2.2.2 _ _ _ HP.out)).mono ?_; rintro e w33 ⟨Kx, Ix, Fx, Sx, qx, mx, dx, rfl, hbw33, hrx⟩
    have TR4 := Lib.hid (And.intro (row_step TR3.out.1 hbw33) (And.intro (row_step TR3.out.2.1 hbw33) (And.intro (row_step TR3.out.2.2.1 hbw33) (And.intro (row_step TR3.out.2.2.2.1 hbw33) (bel_step TR3.out.2.2.2.2 hbw33)))))
    clear TR3
    obtain ⟨rfl, rfl, hix⟩ := hold_shape HV.out hrx
    clear hrx
    clear hbw33
    go_wp2_with fail
    refine hK.out _ _ ?hsv32_ (fun hH => ?_)
    case hsv32_ => exact ⟨rc TR4.out.1 0, rc TR4.out.1 1, rc TR4.out.1 2, rc TR4.out.1 3, rc TR4.out.1 4, rc TR4.out.2.1 0, rc TR4.out.2.1 1, rc TR4.out.2.1 2, rc TR4.out.2.1 3, rc TR4.out.2.1 4⟩
    clear hK K
    (try simp only [Act.put, pk0, pk1, pk2])
    refine zr1 3 (by kernel_rfl) (by simp only [lk0, lk1, lk2]; rfl) (fun K hK => ?_)
    go_simp
    go_at_call 98; refine (add_any 2 Ix FV Sx qx mx dx 2 0 G _ _ _ _ _ hix (by decide) (show opV 0 2 Ix FV 2 0 G = (2, 0, Flo.cop .add FV G, 0) from opV_flo rfl rfl)).mono ?_; rintro e w35 ⟨rfl, hbw35⟩
    have TR5 := Lib.hid (And.intro (row_step TR4.out.1 hbw35) (And.intro (row_step TR4.out.2.1 hbw35) (And.intro (row_step TR4.out.2.2.1 hbw35) (And.intro (row_step TR4.out.2.2.2.1 hbw35) (bel_step TR4.out.2.2.2.2 hbw35)))))
    clear TR4
    clear hbw35
    go_wp2_with fail
    refine hK.out _ _ ?hsv34_ (fun hH => ?_)
    case hsv34_ => exact ⟨rc TR5.out.1 0, rc TR5.out.1 1, rc TR5.out.1 2, rc TR5.out.1 3, rc TR5.out.1 4, rc TR5.out.2.1 0, rc TR5.out.2.1 1, rc TR5.out.2.1 2, rc TR5.out.2.1 3, rc TR5.out.2.1 4⟩
    clear hK K
    (try simp only [Act.put, pk0, pk1, pk2])
    refine zt [4, 5, 6] ?_
    iterate 3 (refine zt1 (fun _ _ d _ _ h => by cases d <;> exact h) (by simp only [lk0, lk1, lk2]; rfl) (by kernel_rfl) (by assumption) (by rfl) (fun w h => by (try dsimp only at h); go_simp; (try with_reducible rfl)) ?_; (try simp only [Act.put, pk0, pk1, pk2]))
    refine zt0 ?_
    refine zr1 8 (by kernel_rfl) (by simp only [lk0, lk1, lk2]; rfl) (fun K hK => ?_)
    obtain ⟨b30, b31, b32, b33, b34, b3f, b3l⟩ := r7 TR5.out.2.2.2.1; go_simp
    have TR6 := Lib.hid (show (fun z0 : World => ZL z0 w.heap.size (some ⟨g, o, none⟩) 2 c ∧ ZF z0 (w.heap.size + 1) G ∧ Zz z0 (w.heap.size + 1 + 1) ∧ ZF z0 (w.heap.size + 1 + 1 + 1) (Flo.cop .add FV G) ∧ Below w.heap.size w z0) (((((w35.setCell ⟨w.heap.size + 1 + 1 + 1, 0, none⟩ (.int .i64 2)).setCell ⟨w.heap.size + 1 + 1 + 1, 1, none⟩ (.int .i64 0)).setCell ⟨w.heap.size + 1 + 1 + 1, 2, none⟩ (.float .f64 (Flo.cop .add FV G))).setCell ⟨w.heap.size + 1 + 1 + 1, 3, none⟩ (.string ⟨#[]⟩)).setCell ⟨w.heap.size + 1 + 1 + 1, 4, none⟩ (.slice none 0 0)) from ⟨s5o TR5.out.1 (by omega), s5o TR5.out.2.1 (by omega), s5o TR5.out.2.2.1 (by omega), s5r TR5.out.2.2.2.1, s5b TR5.out.2.2.2.2 (by omega)⟩)
    clear TR5
    clear b30 b31 b32 b33 b34 b3f b3l
    go_wp2_with fail
    refine hK.out _ _ ?hsv39_ (fun hH => ?_)
    case hsv39_ => exact ⟨rc TR6.out.1 0, rc TR6.out.1 1, rc TR6.out.1 2, rc TR6.out.1 3, rc TR6.out.1 4, rc TR6.out.2.1 0, rc TR6.out.2.1 1, rc TR6.out.2.1 2, rc TR6.out.2.1 3, rc TR6.out.2.1 4⟩
    clear hK K
    (try simp only [Act.put, pk0, pk1, pk2])
    refine zt [9] ?_
    refine zt1 (fun _ _ d _ _ h => by cases d <;> exact h) (by simp only [lk0, lk1, lk2]; rfl) (by kernel_rfl) (by assumption) (by rfl) (fun w h => by (try dsimp only at h); go_simp; (try with_reducible rfl)) ?_; (try simp only [Act.put, pk0, pk1, pk2])
    refine zt0 ?_
    refine wpAnyH_done (by kernel_rfl) ?_ _
    revert TR6
    generalize (((((w35.setCell ⟨w.heap.size + 1 + 1 + 1, 0, none⟩ (.int .i64 2)).setCell ⟨w.heap.size + 1 + 1 + 1, 1, none⟩ (.int .i64 0)).setCell ⟨w.heap.size + 1 + 1 + 1, 2, none⟩ (.float .f64 (Flo.cop .add FV G))).setCell ⟨w.heap.size + 1 + 1 + 1, 3, none⟩ (.string ⟨#[]⟩)).setCell ⟨w.heap.size + 1 + 1 + 1, 4, none⟩ (.slice none 0 0)) = Wf
    intro TR6
    obtain ⟨c3_0, c3_1, c3_2, c3_3, c3_4, c3f, c3l⟩ := r7 TR6.out.2.2.2.1
    go_wp2_with fail
    go_at_call 106; refine (finite_is HS.out (Flo.cop_lt _ _ _) 0 _ _ _ _ _).mono ?_; rintro e w41 ⟨rfl, hbw41⟩
    have TR7 := Lib.hid (And.intro (row_step TR6.out.1 hbw41) (And.intro (row_step TR6.out.2.1 hbw41) (And.intro (row_step TR6.out.2.2.1 hbw41) (And.intro (row_step TR6.out.2.2.2.1 hbw41) (bel_step TR6.out.2.2.2.2 hbw41)))))
    clear TR6
    clear hbw41
    clear c3_0 c3_1 c3_2 c3_3 c3_4 c3f c3l
    obtain ⟨c3_0, c3_1, c3_2, c3_3, c3_4, c3f, c3l⟩ := r7 TR7.out.2.2.2.1
    obtain ⟨e2_0, e2_1, e2_2, e2_3, e2_4, e2f, e2l⟩ := r7 TR7.out.2.2.1
    go_wp2
    refine bodyPost_ret (v := .tuple #[.agg #[.int .i64 2, .int .i64 0, .float .f64 (Flo.cop .add FV G), .string ⟨#[]⟩, .slice none 0 0], .int .i64 0]) (by simp [results, Tryz.results95, go_sem, World.cell?_setCell_same, World.cell?_setCell_other, e2_0, e2_1, e2_2, e2_3, e2_4]) rfl ⟨rfl, ?_⟩
    exact set5_below (g := w.heap.size + 1 + 1) (o := 0) TR7.out.2.2.2.2 (by omega) _ _ _ _ _
set_option maxRecDepth 100000 in
set_option maxHeartbeats 4000000 in
theorem less_no (n : Nat) (g o c : Nat) (s : ByteArray) (V : VT (n + 1)) (G : Nat) (w : World) (h : Rep w (n + 2) (.agg #[.int .i64 4, .int .i64 0, .float .f64 0, .string ⟨#[]⟩, .slice (some ⟨g, o, none⟩) 2 c]) (pairT n s V)) (FV : Nat) (hv : V.1 = 2 ∧ V.2.2.1 = FV) (hs : (FloatKind.f64.format.order FV G == some .lt) = true) :
    Calls Tryz.prog 97 #[.agg #[.int .i64 4, .int .i64 0, .float .f64 0, .string ⟨#[]⟩, .slice (some ⟨g, o, none⟩) 2 c], .agg #[.int .i64 2, .int .i64 0, .float .f64 G, .string ⟨#[]⟩, .slice none 0 0]] w fun e w' => e = .returned (.tuple #[.agg #[.int .i64 0, .int .i64 0, .float .f64 0, .string ⟨#[]⟩, .slice none 0 0], .int .i64 36]) ∧ Below w.heap.size w w' := by
  have TR1 := Lib.hid (show (fun z0 : World => ZL z0 w.heap.size (some ⟨g, o, none⟩) 2 c ∧ ZF z0 (w.heap.size + 1) G ∧ Zz z0 (w.heap.size + 1 + 1) ∧ Below w.heap.size w z0) (((w.alloc (.cells #[.int .i64 4, .int .i64 0, .float .f64 0, .string ⟨#[]⟩, .slice (some ⟨g, o, none⟩) 2 c] 27)).alloc (.cells #[.int .i64 2, .int .i64 0, .float .f64 G, .string ⟨#[]⟩, .slice none 0 0] 27)).alloc (.cells #[.int .i64 0, .int .i64 0, .float .f64 0, .string ⟨#[]⟩, .slice none 0 0] 27)) from ⟨row_alloc_step (row_alloc_step (row_alloc w #[.int .i64 4, .int .i64 0, .float .f64 0, .string ⟨#[]⟩, .slice (some ⟨g, o, none⟩) 2 c] 27) _) _, (row_alloc_step (ra (by simp only [World.size_alloc, World.size_drew])) _), (ra (by simp only [World.size_alloc, World.size_drew])), bel_alloc (bel_alloc (bel_alloc (Below.refl w.heap.size w) _) _) _⟩)
  have HP := Lib.hid h
  have HV := Lib.hid hv
  clear h hv
  have hfld : ∀ (a b : Value) (x : Nat) (c d : Value) (w : World), (Instr.field 27 (.agg #[a, b, .float .f64 x, c, d]) 2).run Tryz.prog w = .ok (.float .f64 x) w := fun _ _ _ _ _ _ => by kernel_rfl
  go_enter Tryz.func97, Tryz.ntmps97
  go_upto_region 1 with fail
  have TR2 := Lib.hid (And.intro (row_step TR1.out.1 (Below.drew br)) (And.intro (row_step TR1.out.2.1 (Below.drew br)) (And.intro (row_step TR1.out.2.2.1 (Below.drew br)) (bel_step TR1.out.2.2.2 (Below.drew br)))))
  clear TR1
  refine wp_region_held_drew (S := (fun z => z.cell? ⟨w.heap.size, 0, none⟩ = some (.int .i64 4) ∧ z.cell? ⟨w.heap.size, 1, none⟩ = some (.int .i64 0) ∧ z.cell? ⟨w.heap.size, 2, none⟩ = some (.float .f64 0) ∧ z.cell? ⟨w.heap.size, 3, none⟩ = some (.string ⟨#[]⟩) ∧ z.cell? ⟨w.heap.size, 4, none⟩ = some (.slice (some ⟨g, o, none⟩) 2 c) ∧ z.cell? ⟨w.heap.size + 1, 0, none⟩ = some (.int .i64 2) ∧ z.cell? ⟨w.heap.size + 1, 1, none⟩ = some (.int .i64 0) ∧ z.cell? ⟨w.heap.size + 1, 2, none⟩ = some (.float .f64 G) ∧ z.cell? ⟨w.heap.size + 1, 3, none⟩ = some (.string ⟨#[]⟩) ∧ z.cell? ⟨w.heap.size + 1, 4, none⟩ = some (.slice none 0 0))) (by kernel_rfl) ?_ (fun hH => ?_)
  · exact ⟨rc TR2.out.1 0, rc TR2.out.1 1, rc TR2.out.1 2, rc TR2.out.1 3, rc TR2.out.1 4, rc TR2.out.2.1 0, rc TR2.out.2.1 1, rc TR2.out.2.1 2, rc TR2.out.2.1 3, rc TR2.out.2.1 4⟩
  refine zt [0, 3, 4] ?_
  iterate 3 (refine zt1 (fun _ _ d _ _ h => by cases d <;> exact h) (by simp only [lk0, lk1, lk2]; rfl) (by kernel_rfl) (by assumption) (by rfl) (fun w h => by (try dsimp only at h); go_simp; (try with_reducible rfl)) ?_; (try simp only [Act.put, pk0, pk1, pk2]))
  refine zt0 ?_
  refine zr1 1 (by kernel_rfl) (by simp only [lk0, lk1, lk2]; rfl) (fun K hK => ?_)
  go_simp
  go_at_call 93; refine (hasOf_any n _ s V _ (rep_keep TR2.out.2.2.2 _ _ _ HP.out)).mono ?_; rintro e w104 ⟨Kx, Ix, Fx, Sx, qx, mx, dx, rfl, hbw104, hrx⟩
  have TR3 := Lib.hid (And.intro (row_step TR2.out.1 hbw104) (And.intro (row_step TR2.out.2.1 hbw104) (And.intro (row_step TR2.out.2.2.1 hbw104) (bel_step TR2.out.2.2.2 hbw104))))
  clear TR2
  obtain ⟨rfl, rfl, hix⟩ := hold_shape HV.out hrx
  clear hrx
  clear hbw104
  go_wp2_with fail
  refine hK.out _ _ ?hsv103_ (fun hH => ?_)
  case hsv103_ => exact ⟨rc TR3.out.1 0, rc TR3.out.1 1, rc TR3.out.1 2, rc TR3.out.1 3, rc TR3.out.1 4, rc TR3.out.2.1 0, rc TR3.out.2.1 1, rc TR3.out.2.1 2, rc TR3.out.2.1 3, rc TR3.out.2.1 4⟩
  clear hK K
  (try simp only [Act.put, pk0, pk1, pk2])
  refine zt [2, 5] ?_
  iterate 2 (refine zt1 (fun _ _ d _ _ h => by cases d <;> exact h) (by simp only [lk0, lk1, lk2]; rfl) (by kernel_rfl) (by assumption) (by rfl) (fun w h => by (try dsimp only at h); go_simp; (try with_reducible rfl)) ?_; (try simp only [Act.put, pk0, pk1, pk2]))
  refine zt0 ?_
  refine wpAnyH_done (by kernel_rfl) ?_ _
  obtain ⟨c2_0, c2_1, c2_2, c2_3, c2_4, c2f, c2l⟩ := r7 TR3.out.2.2.1
  go_wp2
  refine bodyPost_ret (v := .tuple #[.agg #[.int .i64 0, .int .i64 0, .float .f64 0, .string ⟨#[]⟩, .slice none 0 0], .int .i64 36]) (by simp [results, Tryz.results97, go_sem, World.cell?_setCell_same, World.cell?_setCell_other, c2_0, c2_1, c2_2, c2_3, c2_4]) rfl ⟨rfl, ?_⟩
  exact set5_below (g := w.heap.size + 1 + 1) (o := 0) TR3.out.2.2.2 (by omega) _ _ _ _ _
end Num
end Go.Proofs.YtpbfaffheigjcaaGreat
/-
  Package ledger: having.
-/
namespace Go.Proofs.YtpbfaffheigjcaaGreat
open Go.RowKit
namespace Num
open Ints
set_option linter.unusedSimpArgs false
set_option linter.unusedVariables false
theorem txt_repn (n : Nat) (w : World) {s : ByteArray} (hs : s.size ≤ maxLen) : Rep w (n + 1) (.agg #[.int .i64 3, .int .i64 0, .float .f64 0, .string s, .slice none 0 0]) (3, 0, 0, s, []) :=
  ⟨none, 0, 0, rfl, (by decide : okI 3), (by decide : okI 0), (by decide : (0 : Nat) < 2 ^ 64), hs, rfl, Nat.le_refl _, by unfold maxLen; omega, fun h => absurd h (Nat.lt_irrefl _)⟩
theorem flo_repn (n : Nat) (w : World) {F : Nat} (hF : F < 2 ^ 64) : Rep w (n + 1) (.agg #[.int .i64 2, .int .i64 0, .float .f64 F, .string ⟨#[]⟩, .slice none 0 0]) (floT n F) :=
  ⟨none, 0, 0, rfl, (by decide : okI 2), (by decide : okI 0), hF, (by decide : (⟨#[]⟩ : ByteArray).size ≤ maxLen), rfl, Nat.le_refl _, by unfold maxLen; omega, fun h => absurd h (Nat.lt_irrefl _)⟩
def NewL (n : Nat) (w0 W w' : World) (p : Option Addr) (l c : Nat) (L : List (VT (n + 2))) : Prop := ∀ y, Below w0.heap.size w0 y → Stay W.heap.size w' y → RepL y (Rep y (n + 2)) p l c L
theorem lspliced_is {α : Type} {R : Value → α → Prop} (hR : One5 R) (p : Option Addr) (l c a z : Nat) (L : List α) (q : Option Addr) (m d : Nat) (M : List α) (w : World) (zi : Int) (hzi : zi = (z : Int)) (hL : RepL w R p l c L) (hM : RepL w R q m d M) (haz : a ≤ z) (hz : z ≤ l) (hl : l ≤ 100000) (hm : m ≤ 100000) :
    Calls Tryz.prog 89 #[.slice p l c, .int .i64 a, .int .i64 zi, .slice q m d] w fun e w' => ∃ p' c', e = .returned (.slice p' (a + m + (l - z)) c') ∧ Below w.heap.size w w' ∧ ∀ y, Stay w.heap.size w' y → RepL y R p' (a + m + (l - z)) c' (L.take a ++ (M ++ L.drop z)) := by
  subst hzi
  exact lspliced_any hR p l c a z L q m d M w hL hM haz hz hl hm
theorem acc_at {w : World} {n b off l c i : Nat} {ES : List (ByteArray × VT (n + 1))} (h : RepL w (Rep w (n + 2)) (some ⟨b, off, none⟩) l c (ES.map (pairE n))) (hi : i < ES.length) : ∃ g o cg, w.cell? ⟨b, off + i * 5, none⟩ = some (.int .i64 4) ∧ w.cell? ⟨b, off + i * 5 + 1, none⟩ = some (.int .i64 0) ∧ w.cell? ⟨b, off + i * 5 + 2, none⟩ = some (.float .f64 0) ∧ w.cell? ⟨b, off + i * 5 + 3, none⟩ = some (.string ⟨#[]⟩) ∧ w.cell? ⟨b, off + i * 5 + 4, none⟩ = some (.slice (some ⟨g, o, none⟩) 2 cg) ∧
    Rep w (n + 2) (.agg #[.int .i64 4, .int .i64 0, .float .f64 0, .string ⟨#[]⟩, .slice (some ⟨g, o, none⟩) 2 cg]) (pairT n (ES[i]'hi).1 (ES[i]'hi).2) := by
  obtain ⟨h1, h2, h3, h4⟩ := h
  obtain ⟨b', off', he, h5⟩ := h4 (by rw [List.length_map] at h1; omega)
  injection he with he
  injection he with e1 e2
  subst e1 e2
  obtain ⟨v0, v1, v2, v3, v4, c0, c1, c2, c3, c4, hr⟩ := h5 i (by rw [List.length_map]; exact hi)
  rw [List.getElem_map] at hr
  have hr' : Rep w (n + 2) (.agg #[v0, v1, v2, v3, v4]) (pairT n (ES[i]'hi).1 (ES[i]'hi).2) := hr
  obtain ⟨g, o, cg, rfl, rfl, rfl, rfl, rfl⟩ := pair_shape hr'
  exact ⟨g, o, cg, c0, c1, c2, c3, c4, hr'⟩
set_option maxRecDepth 100000 in
set_option maxHeartbeats 4000000 in
theorem having_any (n : Nat) (b off l c i : Nat) (k : ByteArray) (K3 I3 : Int) (F3 : Nat) (S3 : ByteArray) (q3 : Option Addr) (m3 d3 : Nat) (L : List (VT (n + 2))) (V : VT (n + 1)) (g o cg : Nat) (V0 : VT (n + 1)) (w0 w : World) (HBW : Hid (Below w0.heap.size w0 w)) (HL : Hid (RepL w0 (Rep w0 (n + 2)) (some ⟨b, off, none⟩) l c L)) (hi : i < l) (hl : l ≤ 32)
    (HC : Hid (w.cell? ⟨b, off + i * 5, none⟩ = some (.int .i64 4) ∧ w.cell? ⟨b, off + i * 5 + 1, none⟩ = some (.int .i64 0) ∧ w.cell? ⟨b, off + i * 5 + 2, none⟩ = some (.float .f64 0) ∧ w.cell? ⟨b, off + i * 5 + 3, none⟩ = some (.string ⟨#[]⟩) ∧ w.cell? ⟨b, off + i * 5 + 4, none⟩ = some (.slice (some ⟨g, o, none⟩) 2 cg)))
    (HP : Hid (Rep w (n + 2) (.agg #[.int .i64 4, .int .i64 0, .float .f64 0, .string ⟨#[]⟩, .slice (some ⟨g, o, none⟩) 2 cg]) (pairT n k V0))) (HK : Hid (Rep w0 (n + 1) (.agg #[.int .i64 3, .int .i64 0, .float .f64 0, .string k, .slice none 0 0]) (3, 0, 0, k, []))) (HV : Hid (Rep w0 (n + 1) (.agg #[.int .i64 K3, .int .i64 I3, .float .f64 F3, .string S3, .slice q3 m3 d3]) V)) :
    Calls Tryz.prog 96 #[.slice (some ⟨b, off, none⟩) l c, .int .i64 i, .agg #[.int .i64 K3, .int .i64 I3, .float .f64 F3, .string S3, .slice q3 m3 d3]] w fun e w' => ∃ p' c', e = .returned (.slice p' (i + 1 + (l - (i + 1))) c') ∧ Below w.heap.size w w' ∧ NewL n w0 w w' p' (i + 1 + (l - (i + 1))) c' (L.take i ++ ([pairT n k V] ++ L.drop (i + 1))) := by
  have TR1 := Lib.hid (show (fun z0 : World => Zw z0 w.heap.size (.int .i64 K3) (.int .i64 I3) (.float .f64 F3) (.string S3) (.slice q3 m3 d3) ∧ Below w.heap.size w z0) (w.alloc (.cells #[.int .i64 K3, .int .i64 I3, .float .f64 F3, .string S3, .slice q3 m3 d3] 27)) from ⟨row_alloc w #[.int .i64 K3, .int .i64 I3, .float .f64 F3, .string S3, .slice q3 m3 d3] 27, bel_alloc (Below.refl w.heap.size w) _⟩)
  have HNM := Lib.hid (pair_name HP.out).2.2.2.2.2
  have hb := cell_lt HC.out.1
  obtain ⟨hc0, hc1, hc2, hc3, hc4⟩ := HC.out
  have HC0 := Lib.hid hc0
  have HC1 := Lib.hid hc1
  have HC2 := Lib.hid hc2
  have HC3 := Lib.hid hc3
  have HC4 := Lib.hid hc4
  have hlc : l ≤ c := HL.out.2.1
  have hi1 : (0 : Int) ≤ (i : Int) := by omega
  have hi2 : (i : Int) < (l : Int) := by omega
  have hwi : IntKind.i64.wrap ((i : Int) + 1) = (i : Int) + 1 := by rw [IntKind.wrap_i64]; omega
  clear hc0 hc1 hc2 hc3 hc4 HC
  go_enter Tryz.func96, Tryz.ntmps96
  go_upto_region 1 with fail
  have TR2 := Lib.hid (And.intro (row_step TR1.out.1 (Below.drew br)) (bel_step TR1.out.2 (Below.drew br)))
  clear TR1
  refine wp_region_held_drew (S := (fun z => z.cell? ⟨w.heap.size, 0, none⟩ = some (.int .i64 K3) ∧ z.cell? ⟨w.heap.size, 1, none⟩ = some (.int .i64 I3) ∧ z.cell? ⟨w.heap.size, 2, none⟩ = some (.float .f64 F3) ∧ z.cell? ⟨w.heap.size, 3, none⟩ = some (.string S3) ∧ z.cell? ⟨w.heap.size, 4, none⟩ = some (.slice q3 m3 d3) ∧ z.cell? ⟨b, off + i * 5, none⟩ = some (.int .i64 4) ∧ z.cell? ⟨b, off + i * 5 + 1, none⟩ = some (.int .i64 0) ∧ z.cell? ⟨b, off + i * 5 + 2, none⟩ = some (.float .f64 0) ∧ z.cell? ⟨b, off + i * 5 + 3, none⟩ = some (.string ⟨#[]⟩) ∧ z.cell? ⟨b, off + i * 5 + 4, none⟩ = some (.slice (some ⟨g, o, none⟩) 2 cg))) (by kernel_rfl) ?_ (fun hH => ?_)
  · exact ⟨rc TR2.out.1 0, rc TR2.out.1 1, rc TR2.out.1 2, rc TR2.out.1 3, rc TR2.out.1 4, ck TR2.out.2 HC0.out, ck TR2.out.2 HC1.out, ck TR2.out.2 HC2.out, ck TR2.out.2 HC3.out, ck TR2.out.2 HC4.out⟩
  refine zt [0, 1, 2, 3, 4, 5, 6, 7, 9] ?_
  iterate 9 (refine zt1 (fun _ _ d _ _ h => by cases d <;> exact h) (by simp only [lk0, lk1, lk2]; rfl) (by kernel_rfl) (by assumption) (by rfl) (fun w h => by (try dsimp only at h); go_simp; (try with_reducible rfl)) ?_; (try simp only [Act.put, pk0, pk1, pk2]))
  refine zt0 ?_
  refine zr1 8 (by kernel_rfl) (by simp only [lk0, lk1, lk2]; rfl) (fun K hK => ?_)
  go_simp
  go_at_call 40; refine (nameOf_any _ _ _ _ _ _ _ k _ (by omega) (name_step HNM.out TR2.out.2)).mono ?_; rintro e w11 ⟨rfl, hbw11⟩
  have TR3 := Lib.hid (And.intro (row_step TR2.out.1 hbw11) (bel_step TR2.out.2 hbw11))
  clear TR2
  clear hbw11
  go_wp2_with fail
  refine hK.out _ _ ?hsv10_ (fun hH => ?_)
  case hsv10_ => exact ⟨rc TR3.out.1 0, rc TR3.out.1 1, rc TR3.out.1 2, rc TR3.out.1 3, rc TR3.out.1 4, ck TR3.out.2 HC0.out, ck TR3.out.2 HC1.out, ck TR3.out.2 HC2.out, ck TR3.out.2 HC3.out, ck TR3.out.2 HC4.out⟩
  clear hK K
  (try simp only [Act.put, pk0, pk1, pk2])
  refine zr1 10 (by kernel_rfl) (by simp only [lk0, lk1, lk2]; rfl) (fun K hK => ?_)
  go_simp
  have hle14 : w.heap.size ≤ w11.heap.size := TR3.out.2.size
  go_at_call 90; refine (account_any k K3 I3 F3 S3 q3 m3 d3 _).mono ?_; rintro e w13 ⟨ge, rfl, hbw13, hge, hrow⟩
  have TR4 := Lib.hid (And.intro (row_step TR3.out.1 hbw13) (bel_step TR3.out.2 hbw13))
  clear TR3
  have TR5 := Lib.hid (show Zw w13 w.heap.size (.int .i64 K3) (.int .i64 I3) (.float .f64 F3) (.string S3) (.slice q3 m3 d3) ∧ w13.heap[ge]? = some (.cells #[.int .i64 3, .int .i64 0, .float .f64 0, .string k, .slice none 0 0, .int .i64 K3, .int .i64 I3, .float .f64 F3, .string S3, .slice q3 m3 d3] 27 (0, 0)) ∧ Below w.heap.size w w13 from ⟨TR4.out.1, hrow, TR4.out.2⟩)
  clear TR4
  clear hrow
  clear hbw13
  go_wp2_with fail
  refine hK.out _ _ ?hsv12_ (fun hH => ?_)
  case hsv12_ => exact ⟨rc TR5.out.1 0, rc TR5.out.1 1, rc TR5.out.1 2, rc TR5.out.1 3, rc TR5.out.1 4, ck TR5.out.2.2 HC0.out, ck TR5.out.2.2 HC1.out, ck TR5.out.2.2 HC2.out, ck TR5.out.2.2 HC3.out, ck TR5.out.2.2 HC4.out⟩
  clear hK K
  (try simp only [Act.put, pk0, pk1, pk2])
  refine zr1 11 (by kernel_rfl) (by simp only [lk0, lk1, lk2]; rfl) (fun K hK => ?_)
  go_simp
  have hlt16 : w.heap.size < w13.heap.size := row_lt TR5.out.1
  have hlt17 : ge < w13.heap.size := row_lt TR5.out.2.1
  have hlt18 : w.heap.size ≤ w13.heap.size := TR5.out.2.2.size
  have TR6 := Lib.hid (show (fun z0 : World => Zw z0 w.heap.size (.int .i64 K3) (.int .i64 I3) (.float .f64 F3) (.string S3) (.slice q3 m3 d3) ∧ z0.heap[ge]? = some (.cells #[.int .i64 3, .int .i64 0, .float .f64 0, .string k, .slice none 0 0, .int .i64 K3, .int .i64 I3, .float .f64 F3, .string S3, .slice q3 m3 d3] 27 (0, 0)) ∧ ZL z0 w13.heap.size (some ⟨ge, 0, none⟩) 2 2 ∧ Below w.heap.size w z0) (w13.alloc (.cells #[.int .i64 4, .int .i64 0, .float .f64 0, .string ⟨#[]⟩, .slice (some ⟨ge, 0, none⟩) 2 2] 27)) from ⟨row_alloc_step TR5.out.1 _, row_alloc_step TR5.out.2.1 _, (ra (by simp only [World.size_alloc, World.size_drew])), bel_step TR5.out.2.2 (bel_alloc br _)⟩)
  go_wp2_with fail
  refine hK.out _ _ ?hsv15_ (fun hH => ?_)
  case hsv15_ => exact ⟨rc TR6.out.1 0, rc TR6.out.1 1, rc TR6.out.1 2, rc TR6.out.1 3, rc TR6.out.1 4, ck TR6.out.2.2.2 HC0.out, ck TR6.out.2.2.2 HC1.out, ck TR6.out.2.2.2 HC2.out, ck TR6.out.2.2.2 HC3.out, ck TR6.out.2.2.2 HC4.out⟩
  clear hK K
  (try simp only [Act.put, pk0, pk1, pk2])
  refine zr1 12 (by kernel_rfl) (by simp only [lk0, lk1, lk2]; rfl) (fun K hK => ?_)
  go_simp
  go_at_call 89; refine (lspliced_is (rq_one n ge k V w0) (some ⟨b, off, none⟩) l c i (i + 1) L (some ⟨w13.heap.size, 0, none⟩) 1 1 [pairT n k V] _ _ (by omega) (rq_old (bel_step HBW.out TR6.out.2.2.2) HL.out) (rq_new TR6.out.2.2.1) (by omega) (by omega) (by omega) (by omega)).mono ?_; rintro e w20 ⟨p6, c6, rfl, hbw20, hy6⟩
  have TR7 := Lib.hid (And.intro (row_step TR6.out.1 hbw20) (And.intro (row_step TR6.out.2.1 hbw20) (And.intro (row_step TR6.out.2.2.1 hbw20) (bel_step TR6.out.2.2.2 hbw20))))
  clear TR6
  have HY := Lib.hid hy6
  clear hy6
  clear hbw20
  go_wp2_with fail
  refine hK.out _ _ ?hsv19_ (fun hH => ?_)
  case hsv19_ => exact ⟨rc TR7.out.1 0, rc TR7.out.1 1, rc TR7.out.1 2, rc TR7.out.1 3, rc TR7.out.1 4, ck TR7.out.2.2.2 HC0.out, ck TR7.out.2.2.2 HC1.out, ck TR7.out.2.2.2 HC2.out, ck TR7.out.2.2.2 HC3.out, ck TR7.out.2.2.2 HC4.out⟩
  clear hK K
  (try simp only [Act.put, pk0, pk1, pk2])
  refine zt [13] ?_
  refine zt1 (fun _ _ d _ _ h => by cases d <;> exact h) (by simp only [lk0, lk1, lk2]; rfl) (by kernel_rfl) (by assumption) (by rfl) (fun w h => by (try dsimp only at h); go_simp; (try with_reducible rfl)) ?_; (try simp only [Act.put, pk0, pk1, pk2])
  refine zt0 ?_
  refine wpAnyH_done (by kernel_rfl) ?_ _
  go_wp2
  go_ret
  refine ⟨p6, c6, rfl, TR7.out.2.2.2, fun y hby hst => ?_⟩
  have hrow := TR7.out.2.1
  exact repL_mono (rq_rep hby ((hst ge (by omega) (row_lt hrow)).trans hrow) HK.out HV.out) (HY.out y (fun b h1 h2 => hst b (by simp only [World.size_alloc] at h1; omega) h2))
end Num
end Go.Proofs.YtpbfaffheigjcaaGreat
/-
  Package ledger: opened, deposit (good roads).
-/
namespace Go.Proofs.YtpbfaffheigjcaaGreat
open Go.RowKit
namespace Num
open Ints
set_option linter.unusedSimpArgs false
set_option linter.unusedVariables false
def AmtOk (K I : Int) (F G : Nat) : Prop := F < 2 ^ 64 ∧ okI I ∧ finV K F = true ∧ 0 < signV K I F ∧ asF K I F = G ∧ opV 0 2 0 0 K I F = (2, 0, G, 0)
theorem amount_is {K3 I3 : Int} {F3 G : Nat} (h : AmtOk K3 I3 F3 G) (S3 : ByteArray) (q3 : Option Addr) (m3 d3 : Nat) (w : World) : Calls Tryz.prog 94 #[.agg #[.int .i64 K3, .int .i64 I3, .float .f64 F3, .string S3, .slice q3 m3 d3]] w fun e w' => e = .returned (.tuple #[.agg #[.int .i64 2, .int .i64 0, .float .f64 G, .string ⟨#[]⟩, .slice none 0 0], .int .i64 0]) ∧ Below w.heap.size w w' := by
  obtain ⟨h1, h2, h3, h4, rfl, h6⟩ := h
  exact amount_ok K3 I3 F3 S3 q3 m3 d3 w h1 h2 h3 h4 h6
theorem repL_acc {w w' : World} {n : Nat} {p : Option Addr} {l c : Nat} {L : List (VT (n + 2))} (hb : Below w.heap.size w w') (h : RepL w (Rep w (n + 2)) p l c L) : RepL w' (Rep w' (n + 2)) p l c L := repL_keep hb (fun v T hv => rep_keep hb _ _ _ hv) h
set_option maxRecDepth 100000 in
set_option maxHeartbeats 4000000 in
theorem opened_new (n : Nat) (p : Option Addr) (l c a : Nat) (k : ByteArray) (ES : List (ByteArray × VT (n + 1))) (w0 w : World) (HBW : Hid (Below w0.heap.size w0 w)) (HL : Hid (RepL w0 (Rep w0 (n + 2)) p l c (ES.map (pairE n)))) (hl : l ≤ 32) (hl2 : l < 32) (hal : a ≤ l) (hs : Spot (ES.map (·.1)) k a false) (HK : Hid (Rep w0 (n + 1) (.agg #[.int .i64 3, .int .i64 0, .float .f64 0, .string k, .slice none 0 0]) (3, 0, 0, k, []))) :
    Calls Tryz.prog 53 #[.slice p l c, .string k] w fun e w' => ∃ p' c', e = .returned (.tuple #[.slice p' (a + 1 + (l - a)) c', .int .i64 0]) ∧ Below w.heap.size w w' ∧ NewL n w0 w w' p' (a + 1 + (l - a)) c' ((ES.map (pairE n)).take a ++ ([pairT n k (floT n 0)] ++ (ES.map (pairE n)).drop a)) := by
  have TR0 := Lib.hid (Below.refl w.heap.size w)
  have HE := Lib.hid (entsL_step (ents_of HL.out (by omega)) HBW.out)
  have HS := Lib.hid hs
  have hll : ((l : Int) == 32) = false := by rw [beq_eq_false_iff_ne]; omega
  clear hs
  go_enter Tryz.func53, Tryz.ntmps53
  go_wp2_with fail
  go_at_call 88; refine (lfind_any _ _ c a (ES.map (·.1)) k false _ (entsL_step HE.out TR0.out) HS.out).mono ?_; rintro e w1 ⟨rfl, hbw1⟩
  have TR1 := Lib.hid (show Below w.heap.size w w1 from bel_step TR0.out hbw1)
  clear TR0
  clear hbw1
  go_wp2_with fail
  go_at_call 91; refine (nothing_any _).mono ?_; rintro e w2 ⟨rfl, hbw2⟩
  have TR2 := Lib.hid (show Below w.heap.size w w2 from bel_step TR1.out hbw2)
  clear TR1
  clear hbw2
  go_wp2_with fail
  have hle4 : w.heap.size ≤ w2.heap.size := TR2.out.size
  go_at_call 90; refine (account_any k 2 0 0 _ none 0 0 _).mono ?_; rintro e w3 ⟨ge, rfl, hbw3, hge, hrow⟩
  have TR3 := Lib.hid (show Below w.heap.size w w3 from bel_step TR2.out hbw3)
  clear TR2
  have TR4 := Lib.hid (show w3.heap[ge]? = some (.cells #[.int .i64 3, .int .i64 0, .float .f64 0, .string k, .slice none 0 0, .int .i64 2, .int .i64 0, .float .f64 0, .string ⟨#[]⟩, .slice none 0 0] 27 (0, 0)) ∧ Below w.heap.size w w3 from ⟨hrow, TR3.out⟩)
  clear TR3
  clear hrow
  clear hbw3
  go_wp2_with fail
  have hlt5 : ge < w3.heap.size := row_lt TR4.out.1
  have hlt6 : w.heap.size ≤ w3.heap.size := TR4.out.2.size
  have TR5 := Lib.hid (show (fun z0 : World => z0.heap[ge]? = some (.cells #[.int .i64 3, .int .i64 0, .float .f64 0, .string k, .slice none 0 0, .int .i64 2, .int .i64 0, .float .f64 0, .string ⟨#[]⟩, .slice none 0 0] 27 (0, 0)) ∧ ZL z0 w3.heap.size (some ⟨ge, 0, none⟩) 2 2 ∧ Below w.heap.size w z0) (w3.alloc (.cells #[.int .i64 4, .int .i64 0, .float .f64 0, .string ⟨#[]⟩, .slice (some ⟨ge, 0, none⟩) 2 2] 27)) from ⟨row_alloc_step TR4.out.1 _, (ra (by simp only [World.size_alloc, World.size_drew])), bel_step TR4.out.2 (bel_alloc br _)⟩)
  go_at_call 89; refine (lspliced_is (rq_one n ge k (floT n 0) w0) p l c a a (ES.map (pairE n)) (some ⟨w3.heap.size, 0, none⟩) 1 1 [pairT n k (floT n 0)] _ _ rfl (rq_old (bel_step HBW.out TR5.out.2.2) HL.out) (rq_new TR5.out.2.1) (Nat.le_refl _) hal (by omega) (by omega)).mono ?_; rintro e w7 ⟨p6, c6, rfl, hbw7, hy6⟩
  have TR6 := Lib.hid (And.intro (row_step TR5.out.1 hbw7) (And.intro (row_step TR5.out.2.1 hbw7) (bel_step TR5.out.2.2 hbw7)))
  clear TR5
  have HY := Lib.hid hy6
  clear hy6
  clear hbw7
  go_wp2
  go_ret2
  refine ⟨p6, c6, rfl, TR6.out.2.2, fun y hby hst => ?_⟩
  have hrow := TR6.out.1
  exact repL_mono (rq_rep hby ((hst ge (by omega) (row_lt hrow)).trans hrow) HK.out (flo_repn n w0 (by decide))) (HY.out y (fun b h1 h2 => hst b (by simp only [World.size_alloc] at h1; omega) h2))
set_option maxRecDepth 100000 in
set_option maxHeartbeats 4000000 in
theorem deposit_ok (n : Nat) (b off l c a : Nat) (k : ByteArray) (K3 I3 : Int) (F3 : Nat) (S3 : ByteArray) (q3 : Option Addr) (m3 d3 : Nat) (G FV : Nat) (ES : List (ByteArray × VT (n + 1))) (Va : VT (n + 1)) (w0 w : World) (HBW : Hid (Below w0.heap.size w0 w)) (HL : Hid (RepL w0 (Rep w0 (n + 2)) (some ⟨b, off, none⟩) l c (ES.map (pairE n)))) (hl : l ≤ 32) (hal : a < ES.length) (hll : ES.length = l) (hka : ES[a]'hal = (k, Va)) (hs : Spot (ES.map (·.1)) k a true) (HA : Hid (AmtOk K3 I3 F3 G))
    (hv : Va.1 = 2 ∧ Va.2.2.1 = FV) (hsu : finV 2 (Flo.cop .add FV G) = true) (HKa : Hid (Rep w0 (n + 1) (.agg #[.int .i64 3, .int .i64 0, .float .f64 0, .string k, .slice none 0 0]) (3, 0, 0, k, []))) (HVa : Hid (Rep w0 (n + 1) (.agg #[.int .i64 2, .int .i64 0, .float .f64 (Flo.cop .add FV G), .string ⟨#[]⟩, .slice none 0 0]) (floT n (Flo.cop .add FV G)))) :
    Calls Tryz.prog 55 #[.slice (some ⟨b, off, none⟩) l c, .string k, .agg #[.int .i64 K3, .int .i64 I3, .float .f64 F3, .string S3, .slice q3 m3 d3]] w fun e w' => ∃ p' c', e = .returned (.tuple #[.slice p' (a + 1 + (l - (a + 1))) c', .agg #[.int .i64 2, .int .i64 0, .float .f64 (Flo.cop .add FV G), .string ⟨#[]⟩, .slice none 0 0], .int .i64 0]) ∧ Below w.heap.size w w' ∧ NewL n w0 w w' p' (a + 1 + (l - (a + 1))) c' ((ES.map (pairE n)).take a ++ ([pairT n k (floT n (Flo.cop .add FV G))] ++ (ES.map (pairE n)).drop (a + 1))) := by
  have TR1 := Lib.hid (show (fun z0 : World => Zw z0 w.heap.size (.int .i64 K3) (.int .i64 I3) (.float .f64 F3) (.string S3) (.slice q3 m3 d3) ∧ Zz z0 (w.heap.size + 1) ∧ Below w.heap.size w z0) ((w.alloc (.cells #[.int .i64 K3, .int .i64 I3, .float .f64 F3, .string S3, .slice q3 m3 d3] 27)).alloc (.cells #[.int .i64 0, .int .i64 0, .float .f64 0, .string ⟨#[]⟩, .slice none 0 0] 27)) from ⟨row_alloc_step (row_alloc w #[.int .i64 K3, .int .i64 I3, .float .f64 F3, .string S3, .slice q3 m3 d3] 27) _, (ra (by simp only [World.size_alloc, World.size_drew])), bel_alloc (bel_alloc (Below.refl w.heap.size w) _) _⟩)
  have HE := Lib.hid (entsL_step (ents_of HL.out (by omega)) HBW.out)
  obtain ⟨ga, oa, cga, hc0, hc1, hc2, hc3, hc4, hp⟩ := acc_at (repL_acc HBW.out HL.out) (show a < ES.length from by omega)
  rw [hka] at hp
  have HCa0 := Lib.hid hc0
  have HCa1 := Lib.hid hc1
  have HCa2 := Lib.hid hc2
  have HCa3 := Lib.hid hc3
  have HCa4 := Lib.hid hc4
  have HPa := Lib.hid hp
  have hba := cell_lt hc0
  have ha1 : (0 : Int) ≤ (a : Int) := by omega
  have ha2 : (a : Int) < (l : Int) := by omega
  clear hc0 hc1 hc2 hc3 hc4 hp
  have HS := Lib.hid hs
  have HVV := Lib.hid hv
  have HSU := Lib.hid hsu
  clear hs hv hsu hka
  go_enter Tryz.func55, Tryz.ntmps55
  go_wp2_with fail
  go_at_call 94; refine (amount_is HA.out S3 q3 m3 d3 _).mono ?_; rintro e w8 ⟨rfl, hbw8⟩
  have TR2 := Lib.hid (And.intro (row_step TR1.out.1 hbw8) (And.intro (row_step TR1.out.2.1 hbw8) (bel_step TR1.out.2.2 hbw8)))
  clear TR1
  clear hbw8
  obtain ⟨c0_0, c0_1, c0_2, c0_3, c0_4, c0f, c0l⟩ := r7 TR2.out.1
  go_wp2_with fail
  have TR3 := Lib.hid (show (fun z0 : World => ZF z0 w.heap.size G ∧ Zz z0 (w.heap.size + 1) ∧ Below w.heap.size w z0) (((((w8.setCell ⟨w.heap.size, 0, none⟩ (.int .i64 2)).setCell ⟨w.heap.size, 1, none⟩ (.int .i64 0)).setCell ⟨w.heap.size, 2, none⟩ (.float .f64 G)).setCell ⟨w.heap.size, 3, none⟩ (.string ⟨#[]⟩)).setCell ⟨w.heap.size, 4, none⟩ (.slice none 0 0)) from ⟨s5r TR2.out.1, s5o TR2.out.2.1 (by omega), s5b TR2.out.2.2 (by omega)⟩)
  clear TR2
  clear c0_0 c0_1 c0_2 c0_3 c0_4 c0f c0l
  go_at_call 88; refine (lfind_any _ _ c a (ES.map (·.1)) k true _ (entsL_step HE.out TR3.out.2.2) HS.out).mono ?_; rintro e w9 ⟨rfl, hbw9⟩
  have TR4 := Lib.hid (And.intro (row_step TR3.out.1 hbw9) (And.intro (row_step TR3.out.2.1 hbw9) (bel_step TR3.out.2.2 hbw9)))
  clear TR3
  clear hbw9
  go_upto_region 7 with fail
  have TR5 := Lib.hid (And.intro (row_step TR4.out.1 (Below.drew br)) (And.intro (row_step TR4.out.2.1 (Below.drew br)) (bel_step TR4.out.2.2 (Below.drew br))))
  clear TR4
  refine wp_region_held_drew (S := (fun z => z.cell? ⟨w.heap.size, 0, none⟩ = some (.int .i64 2) ∧ z.cell? ⟨w.heap.size, 1, none⟩ = some (.int .i64 0) ∧ z.cell? ⟨w.heap.size, 2, none⟩ = some (.float .f64 G) ∧ z.cell? ⟨w.heap.size, 3, none⟩ = some (.string ⟨#[]⟩) ∧ z.cell? ⟨w.heap.size, 4, none⟩ = some (.slice none 0 0) ∧ z.cell? ⟨b, off + a * 5, none⟩ = some (.int .i64 4) ∧ z.cell? ⟨b, off + a * 5 + 1, none⟩ = some (.int .i64 0) ∧ z.cell? ⟨b, off + a * 5 + 2, none⟩ = some (.float .f64 0) ∧ z.cell? ⟨b, off + a * 5 + 3, none⟩ = some (.string ⟨#[]⟩) ∧ z.cell? ⟨b, off + a * 5 + 4, none⟩ = some (.slice (some ⟨ga, oa, none⟩) 2 cga))) (by kernel_rfl) ?_ (fun hH => ?_)
  · exact ⟨rc TR5.out.1 0, rc TR5.out.1 1, rc TR5.out.1 2, rc TR5.out.1 3, rc TR5.out.1 4, ck TR5.out.2.2 HCa0.out, ck TR5.out.2.2 HCa1.out, ck TR5.out.2.2 HCa2.out, ck TR5.out.2.2 HCa3.out, ck TR5.out.2.2 HCa4.out⟩
  refine zt [0, 1, 2, 3, 4] ?_
  iterate 5 (refine zt1 (fun _ _ d _ _ h => by cases d <;> exact h) (by simp only [lk0, lk1, lk2]; rfl) (by kernel_rfl) (by assumption) (by rfl) (fun w h => by (try dsimp only at h); go_simp; (try with_reducible rfl)) ?_; (try simp only [Act.put, pk0, pk1, pk2]))
  refine zt0 ?_
  refine zr1 5 (by kernel_rfl) (by simp only [lk0, lk1, lk2]; rfl) (fun K hK => ?_)
  go_simp
  go_at_call 95; refine (more_ok n ga oa cga k Va G _ (rep_keep TR5.out.2.2 _ _ _ HPa.out) FV HVV.out HSU.out).mono ?_; rintro e w16 ⟨rfl, hbw16⟩
  have TR6 := Lib.hid (And.intro (row_step TR5.out.1 hbw16) (And.intro (row_step TR5.out.2.1 hbw16) (bel_step TR5.out.2.2 hbw16)))
  clear TR5
  clear hbw16
  go_wp2_with fail
  refine hK.out _ _ ?hsv15_ (fun hH => ?_)
  case hsv15_ => exact ⟨rc TR6.out.1 0, rc TR6.out.1 1, rc TR6.out.1 2, rc TR6.out.1 3, rc TR6.out.1 4, ck TR6.out.2.2 HCa0.out, ck TR6.out.2.2 HCa1.out, ck TR6.out.2.2 HCa2.out, ck TR6.out.2.2 HCa3.out, ck TR6.out.2.2 HCa4.out⟩
  clear hK K
  (try simp only [Act.put, pk0, pk1, pk2])
  refine zt [6, 7, 8] ?_
  iterate 3 (refine zt1 (fun _ _ d _ _ h => by cases d <;> exact h) (by simp only [lk0, lk1, lk2]; rfl) (by kernel_rfl) (by assumption) (by rfl) (fun w h => by (try dsimp only at h); go_simp; (try with_reducible rfl)) ?_; (try simp only [Act.put, pk0, pk1, pk2]))
  refine zt0 ?_
  refine zr1 9 (by kernel_rfl) (by simp only [lk0, lk1, lk2]; rfl) (fun K hK => ?_)
  obtain ⟨b30, b31, b32, b33, b34, b3f, b3l⟩ := r7 TR6.out.2.1; go_simp
  have TR7 := Lib.hid (show (fun z0 : World => ZF z0 w.heap.size G ∧ ZF z0 (w.heap.size + 1) (Flo.cop .add FV G) ∧ Below w.heap.size w z0) (((((w16.setCell ⟨w.heap.size + 1, 0, none⟩ (.int .i64 2)).setCell ⟨w.heap.size + 1, 1, none⟩ (.int .i64 0)).setCell ⟨w.heap.size + 1, 2, none⟩ (.float .f64 (Flo.cop .add FV G))).setCell ⟨w.heap.size + 1, 3, none⟩ (.string ⟨#[]⟩)).setCell ⟨w.heap.size + 1, 4, none⟩ (.slice none 0 0)) from ⟨s5o TR6.out.1 (by omega), s5r TR6.out.2.1, s5b TR6.out.2.2 (by omega)⟩)
  clear TR6
  clear b30 b31 b32 b33 b34 b3f b3l
  go_wp2_with fail
  refine hK.out _ _ ?hsv20_ (fun hH => ?_)
  case hsv20_ => exact ⟨rc TR7.out.1 0, rc TR7.out.1 1, rc TR7.out.1 2, rc TR7.out.1 3, rc TR7.out.1 4, ck TR7.out.2.2 HCa0.out, ck TR7.out.2.2 HCa1.out, ck TR7.out.2.2 HCa2.out, ck TR7.out.2.2 HCa3.out, ck TR7.out.2.2 HCa4.out⟩
  clear hK K
  (try simp only [Act.put, pk0, pk1, pk2])
  refine zt [10] ?_
  refine zt1 (fun _ _ d _ _ h => by cases d <;> exact h) (by simp only [lk0, lk1, lk2]; rfl) (by kernel_rfl) (by assumption) (by rfl) (fun w h => by (try dsimp only at h); go_simp; (try with_reducible rfl)) ?_; (try simp only [Act.put, pk0, pk1, pk2])
  refine zt0 ?_
  refine wpAnyH_done (by kernel_rfl) ?_ _
  revert TR7
  generalize (((((w16.setCell ⟨w.heap.size + 1, 0, none⟩ (.int .i64 2)).setCell ⟨w.heap.size + 1, 1, none⟩ (.int .i64 0)).setCell ⟨w.heap.size + 1, 2, none⟩ (.float .f64 (Flo.cop .add FV G))).setCell ⟨w.heap.size + 1, 3, none⟩ (.string ⟨#[]⟩)).setCell ⟨w.heap.size + 1, 4, none⟩ (.slice none 0 0)) = Wm
  intro TR7
  go_upto_region 10 with fail
  have hltW : w.heap.size + 1 < Wm.drew.heap.size := row_lt TR7.out.2.1
  have TR8 := Lib.hid (And.intro (row_step TR7.out.1 (Below.drew br)) (And.intro (row_step TR7.out.2.1 (Below.drew br)) (bel_step TR7.out.2.2 (Below.drew br))))
  clear TR7
  refine wp_region_held_drew (S := (fun z => z.cell? ⟨w.heap.size + 1, 0, none⟩ = some (.int .i64 2) ∧ z.cell? ⟨w.heap.size + 1, 1, none⟩ = some (.int .i64 0) ∧ z.cell? ⟨w.heap.size + 1, 2, none⟩ = some (.float .f64 (Flo.cop .add FV G)) ∧ z.cell? ⟨w.heap.size + 1, 3, none⟩ = some (.string ⟨#[]⟩) ∧ z.cell? ⟨w.heap.size + 1, 4, none⟩ = some (.slice none 0 0))) (by kernel_rfl) ?_ (fun hH => ?_)
  · exact ⟨rc TR8.out.2.1 0, rc TR8.out.2.1 1, rc TR8.out.2.1 2, rc TR8.out.2.1 3, rc TR8.out.2.1 4⟩
  refine zt [0, 1, 2, 4] ?_
  iterate 4 (refine zt1 (fun _ _ d _ _ h => by cases d <;> exact h) (by simp only [lk0, lk1, lk2]; rfl) (by kernel_rfl) (by assumption) (by rfl) (fun w h => by (try dsimp only at h); go_simp; (try with_reducible rfl)) ?_; (try simp only [Act.put, pk0, pk1, pk2]))
  refine zt0 ?_
  refine zr1 3 (by kernel_rfl) (by simp only [lk0, lk1, lk2]; rfl) (fun K hK => ?_)
  go_simp
  go_at_call 96; refine (having_any n b off l c a k 2 0 (Flo.cop .add FV G) _ none 0 0 (ES.map (pairE n)) (floT n (Flo.cop .add FV G)) ga oa cga Va w0 _ (Lib.hid (bel_step HBW.out TR8.out.2.2)) HL (by omega) hl (Lib.hid ⟨ck TR8.out.2.2 HCa0.out, ck TR8.out.2.2 HCa1.out, ck TR8.out.2.2 HCa2.out, ck TR8.out.2.2 HCa3.out, ck TR8.out.2.2 HCa4.out⟩) (Lib.hid (rep_keep TR8.out.2.2 _ _ _ HPa.out)) HKa HVa).mono ?_; rintro e w28 ⟨p6, c6, rfl, hbw28, hy6⟩
  have TR9 := Lib.hid (And.intro (row_step TR8.out.1 hbw28) (And.intro (row_step TR8.out.2.1 hbw28) (bel_step TR8.out.2.2 hbw28)))
  clear TR8
  have TR10 := Lib.hid (show ZF w28 w.heap.size G ∧ ZF w28 (w.heap.size + 1) (Flo.cop .add FV G) ∧ (Stay Wm.drew.heap.size w28 w28 ∧ w28.heap.size ≤ w28.heap.size) ∧ Below w.heap.size w w28 from ⟨TR9.out.1, TR9.out.2.1, ⟨stay_refl _ _, Nat.le_refl _⟩, TR9.out.2.2⟩)
  clear TR9
  have HY := Lib.hid hy6
  clear hy6
  clear hbw28
  go_wp2_with fail
  refine hK.out _ _ ?hsv26_ (fun hH => ?_)
  case hsv26_ => exact ⟨rc TR10.out.2.1 0, rc TR10.out.2.1 1, rc TR10.out.2.1 2, rc TR10.out.2.1 3, rc TR10.out.2.1 4⟩
  clear hK K
  (try simp only [Act.put, pk0, pk1, pk2])
  refine zt [5] ?_
  refine zt1 (fun _ _ d _ _ h => by cases d <;> exact h) (by simp only [lk0, lk1, lk2]; rfl) (by kernel_rfl) (by assumption) (by rfl) (fun w h => by (try dsimp only at h); go_simp; (try with_reducible rfl)) ?_; (try simp only [Act.put, pk0, pk1, pk2])
  refine zt0 ?_
  refine zr1 6 (by kernel_rfl) (by simp only [lk0, lk1, lk2]; rfl) (fun K hK => ?_)
  obtain ⟨b30, b31, b32, b33, b34, b3f, b3l⟩ := r7 TR10.out.2.1; go_simp
  have TR11 := Lib.hid (show (fun z0 : World => ZF z0 w.heap.size G ∧ ZF z0 (w.heap.size + 1) (Flo.cop .add FV G) ∧ (Stay Wm.drew.heap.size w28 z0 ∧ w28.heap.size ≤ z0.heap.size) ∧ Below w.heap.size w z0) (((((w28.setCell ⟨w.heap.size + 1, 0, none⟩ (.int .i64 2)).setCell ⟨w.heap.size + 1, 1, none⟩ (.int .i64 0)).setCell ⟨w.heap.size + 1, 2, none⟩ (.float .f64 (Flo.cop .add FV G))).setCell ⟨w.heap.size + 1, 3, none⟩ (.string ⟨#[]⟩)).setCell ⟨w.heap.size + 1, 4, none⟩ (.slice none 0 0)) from ⟨s5o TR10.out.1 (by omega), s5r TR10.out.2.1, ⟨stay_set TR10.out.2.2.1.1 (by omega) (.int .i64 2) (.int .i64 0) (.float .f64 (Flo.cop .add FV G)) (.string ⟨#[]⟩) (.slice none 0 0), by show _ ≤ (set5 w28 (w.heap.size + 1) 0 (.int .i64 2) (.int .i64 0) (.float .f64 (Flo.cop .add FV G)) (.string ⟨#[]⟩) (.slice none 0 0)).heap.size; rw [set5_size]; exact TR10.out.2.2.1.2⟩, s5b TR10.out.2.2.2 (by omega)⟩)
  clear TR10
  clear b30 b31 b32 b33 b34 b3f b3l
  go_wp2_with fail
  refine hK.out _ _ ?hsv30_ (fun hH => ?_)
  case hsv30_ => exact ⟨rc TR11.out.2.1 0, rc TR11.out.2.1 1, rc TR11.out.2.1 2, rc TR11.out.2.1 3, rc TR11.out.2.1 4⟩
  clear hK K
  (try simp only [Act.put, pk0, pk1, pk2])
  refine zt [7] ?_
  refine zt1 (fun _ _ d _ _ h => by cases d <;> exact h) (by simp only [lk0, lk1, lk2]; rfl) (by kernel_rfl) (by assumption) (by rfl) (fun w h => by (try dsimp only at h); go_simp; (try with_reducible rfl)) ?_; (try simp only [Act.put, pk0, pk1, pk2])
  refine zt0 ?_
  refine wpAnyH_done (by kernel_rfl) ?_ _
  revert TR11
  generalize (((((w28.setCell ⟨w.heap.size + 1, 0, none⟩ (.int .i64 2)).setCell ⟨w.heap.size + 1, 1, none⟩ (.int .i64 0)).setCell ⟨w.heap.size + 1, 2, none⟩ (.float .f64 (Flo.cop .add FV G))).setCell ⟨w.heap.size + 1, 3, none⟩ (.string ⟨#[]⟩)).setCell ⟨w.heap.size + 1, 4, none⟩ (.slice none 0 0)) = Wf
  intro TR11
  obtain ⟨c1_0, c1_1, c1_2, c1_3, c1_4, c1f, c1l⟩ := r7 TR11.out.2.1
  go_wp2
  refine bodyPost_ret (v := .tuple #[.slice p6 (a + 1 + (l - (a + 1))) c6, .agg #[.int .i64 2, .int .i64 0, .float .f64 (Flo.cop .add FV G), .string ⟨#[]⟩, .slice none 0 0], .int .i64 0]) (by simp [results, Tryz.results55, go_sem, c1_0, c1_1, c1_2, c1_3, c1_4]) rfl ⟨p6, c6, rfl, TR11.out.2.2.2, fun y hby hst => ?_⟩
  exact HY.out y hby (fun b h1 h2 => (hst b (by omega) (Nat.lt_of_lt_of_le h2 TR11.out.2.2.1.2)).trans (TR11.out.2.2.1.1 b h1 h2))
end Num
end Go.Proofs.YtpbfaffheigjcaaGreat
/-
  Package ledger: having over any relation.
-/
namespace Go.Proofs.YtpbfaffheigjcaaGreat
open Go.RowKit
namespace Num
open Ints
set_option linter.unusedSimpArgs false
set_option linter.unusedVariables false
def RO (n ge : Nat) (R : Value → VT (n + 2) → Prop) (k : ByteArray) (V : VT (n + 1)) : Value → VT (n + 2) → Prop := fun v T => R v T ∨ (v = .agg #[.int .i64 4, .int .i64 0, .float .f64 0, .string ⟨#[]⟩, .slice (some ⟨ge, 0, none⟩) 2 2] ∧ T = pairT n k V)
theorem ro_one {n ge : Nat} {R : Value → VT (n + 2) → Prop} (hR : One5 R) (k : ByteArray) (V : VT (n + 1)) : One5 (RO n ge R k V) := by
  intro u0 u1 u2 u3 u4 T h
  rcases h with h | ⟨h, _⟩
  · exact hR _ _ _ _ _ _ h
  · injection h with h
    simp only [Array.mk.injEq, List.cons.injEq, and_true] at h
    obtain ⟨rfl, rfl, rfl, rfl, rfl⟩ := h
    exact ⟨rfl, rfl, rfl, rfl, rfl⟩
theorem ro_new {n ge g : Nat} {R : Value → VT (n + 2) → Prop} {k : ByteArray} {V : VT (n + 1)} {x : World} (h : x.heap[g]? = some (.cells #[.int .i64 4, .int .i64 0, .float .f64 0, .string ⟨#[]⟩, .slice (some ⟨ge, 0, none⟩) 2 2] 27 (0, 0))) : RepL x (RO n ge R k V) (some ⟨g, 0, none⟩) 1 1 [pairT n k V] := row1_rep h (Or.inr ⟨rfl, rfl⟩)
theorem set_at {α : Type} (L : List α) (i : Nat) (x : α) (h : i < L.length) : L.take i ++ ([x] ++ L.drop (i + 1)) = L.set i x := by
  rw [List.set_eq_take_append_cons_drop, if_pos h]; rfl
end Num
end Go.Proofs.YtpbfaffheigjcaaGreat
/-
  The reference: a list with an entry in place of an old one, over any relation.
-/
namespace Go.Proofs.YtpbfaffheigjcaaGreat
open Go.RowKit
namespace Num
open Ints
set_option linter.unusedSimpArgs false
set_option linter.unusedVariables false
set_option maxRecDepth 100000 in
set_option maxHeartbeats 4000000 in
theorem with_R (n : Nat) (b off l c i : Nat) (k : ByteArray) (K3 I3 : Int) (F3 : Nat) (S3 : ByteArray) (q3 : Option Addr) (m3 d3 : Nat) (L : List (VT (n + 2))) (V : VT (n + 1)) (R : Value → VT (n + 2) → Prop) (hR : One5 R) (w : World) (HL : Hid (RepL w R (some ⟨b, off, none⟩) l c L)) (hk : k.size ≤ maxLen) (hi : i + 1 ≤ l) (hl : l ≤ 1000) :
    Calls Tryz.prog 69 #[.agg #[.int .i64 4, .int .i64 0, .float .f64 0, .string ⟨#[]⟩, .slice (some ⟨b, off, none⟩) l c], .int .i64 i, .bool true, .string k, .agg #[.int .i64 K3, .int .i64 I3, .float .f64 F3, .string S3, .slice q3 m3 d3]] w fun e w' => ∃ p3 c3 ge, e = .returned (.agg #[.int .i64 4, .int .i64 0, .float .f64 0, .string ⟨#[]⟩, .slice p3 l c3]) ∧ Below w.heap.size w w' ∧ w.heap.size ≤ ge ∧ w'.heap[ge]? = some (.cells #[.int .i64 3, .int .i64 0, .float .f64 0, .string k, .slice none 0 0, .int .i64 K3, .int .i64 I3, .float .f64 F3, .string S3, .slice q3 m3 d3] 27 (0, 0)) ∧ ∀ y, Stay w.heap.size w' y → RepL y (RO n ge R k V) p3 l c3 (L.set i (pairT n k V)) := by
  have hlc : l ≤ c := HL.out.2.1
  have hcc : c ≤ 9223372036854775807 := by have := HL.out.2.2.1; unfold maxLen at this; omega
  obtain ⟨q9, hq9⟩ : ∃ q, (if c = i + 1 then some (⟨b, off, none⟩ : Addr) else some ⟨b, off + (i + 1) * 5, none⟩) = q := ⟨_, rfl⟩
  have hrl := HL.out
  have hdr : RepL w R q9 (l - (i + 1)) (c - (i + 1)) (L.drop (i + 1)) := by
    have h := repL_sub hrl (i + 1) l (by omega) (Nat.le_refl _)
    rw [List.take_of_length_le (by rw [List.length_drop, HL.out.1]; exact Nat.le_refl _)] at h
    have e : Option.map (fun x => x.add ((i + 1) * 5)) (some (⟨b, off, none⟩ : Addr)) = some ⟨b, off + (i + 1) * 5, none⟩ := by show some (Addr.add _ _) = _; rw [Addr.add_lit]
    rw [e] at h
    rw [← hq9]
    exact h
  have hB := bel_alloc (bel_alloc (bel_alloc (Below.refl w.heap.size w) (.cells #[.int .i64 4, .int .i64 0, .float .f64 0, .string ⟨#[]⟩, .slice (some ⟨b, off, none⟩) l c] 27)) (.cells #[.int .i64 K3, .int .i64 I3, .float .f64 F3, .string S3, .slice q3 m3 d3] 27)) (.cells #[.int .i64 0, .int .i64 0, .float .f64 0, .string ⟨#[]⟩, .slice none 0 0] 27)
  have hc2 : ((w.alloc (.cells #[.int .i64 4, .int .i64 0, .float .f64 0, .string ⟨#[]⟩, .slice (some ⟨b, off, none⟩) l c] 27)).alloc (.cells #[.int .i64 K3, .int .i64 I3, .float .f64 F3, .string S3, .slice q3 m3 d3] 27)).heap.size = w.heap.size + 1 + 1 := by simp only [World.size_alloc]
  have HP0 := Lib.hid (show PY (some ⟨b, off, none⟩) l c K3 I3 F3 S3 q3 m3 d3 w (((w.alloc (.cells #[.int .i64 4, .int .i64 0, .float .f64 0, .string ⟨#[]⟩, .slice (some ⟨b, off, none⟩) l c] 27)).alloc (.cells #[.int .i64 K3, .int .i64 I3, .float .f64 F3, .string S3, .slice q3 m3 d3] 27)).alloc (.cells #[.int .i64 0, .int .i64 0, .float .f64 0, .string ⟨#[]⟩, .slice none 0 0] 27)) from ⟨rc (row_alloc_step (row_alloc_step (row_alloc w #[.int .i64 4, .int .i64 0, .float .f64 0, .string ⟨#[]⟩, .slice (some ⟨b, off, none⟩) l c] 27) _) _) 4, hB, cs_new hc2.symm, fun o => by have h := row_alloc ((w.alloc (.cells #[.int .i64 4, .int .i64 0, .float .f64 0, .string ⟨#[]⟩, .slice (some ⟨b, off, none⟩) l c] 27)).alloc (.cells #[.int .i64 K3, .int .i64 I3, .float .f64 F3, .string S3, .slice q3 m3 d3] 27)) #[.int .i64 0, .int .i64 0, .float .f64 0, .string ⟨#[]⟩, .slice none 0 0] 27; rw [hc2] at h; exact row_frz h o, cs_alloc (cs_new (by rw [World.size_alloc])) _⟩)
  have HDR := Lib.hid (repL_at hB hdr)
  have HT := Lib.hid (repL_take (repL_at hB hrl) i (by omega))
  have HO := Lib.hid (ow_none (((w.alloc (.cells #[.int .i64 4, .int .i64 0, .float .f64 0, .string ⟨#[]⟩, .slice (some ⟨b, off, none⟩) l c] 27)).alloc (.cells #[.int .i64 K3, .int .i64 I3, .float .f64 F3, .string S3, .slice q3 m3 d3] 27)).alloc (.cells #[.int .i64 0, .int .i64 0, .float .f64 0, .string ⟨#[]⟩, .slice none 0 0] 27)) (((w.alloc (.cells #[.int .i64 4, .int .i64 0, .float .f64 0, .string ⟨#[]⟩, .slice (some ⟨b, off, none⟩) l c] 27)).alloc (.cells #[.int .i64 K3, .int .i64 I3, .float .f64 F3, .string S3, .slice q3 m3 d3] 27)).alloc (.cells #[.int .i64 0, .int .i64 0, .float .f64 0, .string ⟨#[]⟩, .slice none 0 0] 27)) R br (Nat.le_refl _))
  have hi0 : (0 : Int) ≤ (i : Int) := by omega
  have hic : (i : Int) ≤ (c : Int) := by omega
  have hi1 : (i : Int) + 1 ≤ (c : Int) + 1 := by omega
  have hiz : ((i + 1 : Nat) : Int) ≤ (l : Int) := by omega
  have hwi : wrap64 ((i : Int) + 1) = (i : Int) + 1 := by unfold wrap64; omega
  have htn : ((i : Int) + 1).toNat = i + 1 := by omega
  have hip : (0 : Int) ≤ (i : Int) + 1 := by omega
  (try simp only [Int.natCast_add, Int.cast_ofNat_Int] at hiz)
  clear hrl hdr hB hc2
  go_enter Tryz.func69, Tryz.ntmps69
  go_upto_region 2 with (at_builtin; refine wp_ovs rfl (.const (.slice none 0 0)) (.tmp 15) rfl hR (((w.alloc (.cells #[.int .i64 4, .int .i64 0, .float .f64 0, .string ⟨#[]⟩, .slice (some ⟨b, off, none⟩) l c] 27)).alloc (.cells #[.int .i64 K3, .int .i64 I3, .float .f64 F3, .string S3, .slice q3 m3 d3] 27)).alloc (.cells #[.int .i64 0, .int .i64 0, .float .f64 0, .string ⟨#[]⟩, .slice none 0 0] 27)) (((w.alloc (.cells #[.int .i64 4, .int .i64 0, .float .f64 0, .string ⟨#[]⟩, .slice (some ⟨b, off, none⟩) l c] 27)).alloc (.cells #[.int .i64 K3, .int .i64 I3, .float .f64 F3, .string S3, .slice q3 m3 d3] 27)).alloc (.cells #[.int .i64 0, .int .i64 0, .float .f64 0, .string ⟨#[]⟩, .slice none 0 0] 27)) none 0 0 [] _ i _ (L.take i) rfl rfl HO.out HT.out (by omega) ?_; intro p1 c1 w1 ho1; rw [Nat.zero_add, List.nil_append] at ho1; have HP1 := Lib.hid (py_step HP0.out (ow_rep ho1).2); have HDR1 := Lib.hid (repL_at (ow_rep ho1).2 HDR.out); have HZ1 := Lib.hid (ow_rep ho1).2.size; have HO1 := Lib.hid ho1; clear ho1)
  have l1 : w.heap.size + 1 < w1.heap.size := cs_lt HP1.out.2.2.2.2
  refine wp_region_held_drew (S := (fun z => z.cell? ⟨w.heap.size + 1, 0, none⟩ = some (.int .i64 K3) ∧ z.cell? ⟨w.heap.size + 1, 1, none⟩ = some (.int .i64 I3) ∧ z.cell? ⟨w.heap.size + 1, 2, none⟩ = some (.float .f64 F3) ∧ z.cell? ⟨w.heap.size + 1, 3, none⟩ = some (.string S3) ∧ z.cell? ⟨w.heap.size + 1, 4, none⟩ = some (.slice q3 m3 d3))) (by kernel_rfl) ?_ (fun hH => ?_)
  · have hh := py_step HP1.out (Below.drew br); exact ⟨hh.2.2.2.2.1, hh.2.2.2.2.2.1, hh.2.2.2.2.2.2.1, hh.2.2.2.2.2.2.2.1, hh.2.2.2.2.2.2.2.2⟩
  have HWD := Lib.hid (py_step HP1.out (Below.drew br))
  have HOD := Lib.hid (ow_step HO1.out (Below.drew br))
  have hdz : w1.drew.heap.size = w1.heap.size := rfl
  revert HWD HOD hH hdz
  generalize w1.drew = Wd
  intro hH HWD HOD hdz
  refine zt [0, 1, 3] ?_
  iterate 3 (refine zt1 (fun _ _ d _ _ h => by cases d <;> exact h) (by simp only [lk0, lk1, lk2]; rfl) (by kernel_rfl) (by assumption) (by rfl) (fun w h => by (try dsimp only at h); go_simp; (try with_reducible rfl)) ?_; (try simp only [Act.put, pk0, pk1, pk2]))
  refine zt0 ?_
  refine zr1 2 (by kernel_rfl) (by simp only [lk0, lk1, lk2]; rfl) (fun K hK => ?_)
  go_simp
  go_at_call 19; refine (text_ref_any _ _).mono ?_; rintro e w3 ⟨rfl, hb3⟩; have hq3 := py_step HWD.out hb3; have ho3 := ow_step HOD.out hb3; have hz3 := hb3.size; clear hb3
  go_wp2_with fail
  refine hK.out _ _ ?hst2 (fun hH => ?_)
  case hst2 => exact ⟨hq3.2.2.2.2.1, hq3.2.2.2.2.2.1, hq3.2.2.2.2.2.2.1, hq3.2.2.2.2.2.2.2.1, hq3.2.2.2.2.2.2.2.2⟩
  clear hK K
  (try simp only [Act.put, pk0, pk1, pk2])
  refine zr1 4 (by kernel_rfl) (by simp only [lk0, lk1, lk2]; rfl) (fun K hK => ?_)
  go_simp
  have hal4 := bel_alloc (Below.refl w3.heap.size w3) (.cells #[.int .i64 3, .int .i64 0, .float .f64 0, .string k, .slice none 0 0, .int .i64 K3, .int .i64 I3, .float .f64 F3, .string S3, .slice q3 m3 d3] 27); have hq4 := py_step hq3 hal4; have ho4 := ow_step ho3 hal4; have hr4 := row_alloc w3 #[.int .i64 3, .int .i64 0, .float .f64 0, .string k, .slice none 0 0, .int .i64 K3, .int .i64 I3, .float .f64 F3, .string S3, .slice q3 m3 d3] 27; have hov := ov_lt ho3; clear hal4 hq3
  go_wp2_with fail
  refine hK.out _ _ ?hst4 (fun hH => ?_)
  case hst4 => exact ⟨hq4.2.2.2.2.1, hq4.2.2.2.2.2.1, hq4.2.2.2.2.2.2.1, hq4.2.2.2.2.2.2.2.1, hq4.2.2.2.2.2.2.2.2⟩
  clear hK K
  (try simp only [Act.put, pk0, pk1, pk2])
  refine zr1 5 (by kernel_rfl) (by simp only [lk0, lk1, lk2]; rfl) (fun K hK => ?_)
  go_simp
  go_at_call 18; refine (list_ref_any _ _ _ _).mono ?_; rintro e w5 ⟨rfl, hb5⟩; have hq5 := py_step hq4 hb5; have ho5 := ow_step ho4 hb5; have hr5 := row_step hr4 hb5; have hz5 : w3.heap.size + 1 ≤ w5.heap.size := (by have := hb5.size; rw [World.size_alloc] at this; exact this); clear hb5 hq4 ho4 hr4
  go_wp2_with fail
  refine hK.out _ _ ?hst5 (fun hH => ?_)
  case hst5 => exact ⟨hq5.2.2.2.2.1, hq5.2.2.2.2.2.1, hq5.2.2.2.2.2.2.1, hq5.2.2.2.2.2.2.2.1, hq5.2.2.2.2.2.2.2.2⟩
  clear hK K
  (try simp only [Act.put, pk0, pk1, pk2])
  refine zr1 6 (by kernel_rfl) (by simp only [lk0, lk1, lk2]; rfl) (fun K hK => ?_)
  go_simp
  have hal6 := bel_alloc (Below.refl w5.heap.size w5) (.cells #[.int .i64 4, .int .i64 0, .float .f64 0, .string ⟨#[]⟩, .slice (some ⟨w3.heap.size, 0, none⟩) 2 2] 27); have hq6 := py_step hq5 hal6; have ho6 := ov_mono (R' := RO n w3.heap.size R k V) (fun _ _ h => Or.inl h) (ow_step ho5 hal6); have hr6 := row_step hr5 hal6; have hn6 := row_alloc w5 #[.int .i64 4, .int .i64 0, .float .f64 0, .string ⟨#[]⟩, .slice (some ⟨w3.heap.size, 0, none⟩) 2 2] 27; clear hal6 hq5 ho5 hr5
  go_wp2_with fail
  refine hK.out _ _ ?hst6 (fun hH => ?_)
  case hst6 => exact ⟨hq6.2.2.2.2.1, hq6.2.2.2.2.2.1, hq6.2.2.2.2.2.2.1, hq6.2.2.2.2.2.2.2.1, hq6.2.2.2.2.2.2.2.2⟩
  clear hK K
  (try simp only [Act.put, pk0, pk1, pk2])
  refine zr1 7 (by kernel_rfl) (by simp only [lk0, lk1, lk2]; rfl) (fun K hK => ?_)
  skip
  have hne7 : some w3.heap.size ≠ (Value.slice p1 i c1).ownBlock := (fun e => (by have := hov _ e.symm; omega)); refine step_ovg rfl (.tmp 17) (.tmp 23) rfl (ro_one (ge := w3.heap.size) hR k V) (((w.alloc (.cells #[.int .i64 4, .int .i64 0, .float .f64 0, .string ⟨#[]⟩, .slice (some ⟨b, off, none⟩) l c] 27)).alloc (.cells #[.int .i64 K3, .int .i64 I3, .float .f64 F3, .string S3, .slice q3 m3 d3] 27)).alloc (.cells #[.int .i64 0, .int .i64 0, .float .f64 0, .string ⟨#[]⟩, .slice none 0 0] 27)) _ p1 i c1 (L.take i) _ 1 1 [pairT n k V] rfl rfl ho6 (ro_new hn6) (by omega) ?_; intro p2 c2 w7 ho7 hg7 hob7; have HNE7 := Lib.hid (show some w3.heap.size ≠ (Value.slice p2 (i + 1) c2).ownBlock from fun e => by rcases hob7 with h | h; exact hne7 (e.trans h); rw [h] at e; injection e with e; simp only [World.size_alloc] at e; omega); have hq7 := py_grown hq6 hg7 (fun k hk => by have := (ov_lt ho6 k hk).1; simp only [World.size_alloc] at this; omega); have hr7 := row_grown hr6 hg7 hne7; have HO7 := Lib.hid ho7; have hge7 : w.heap.size + 1 + 1 + 1 ≤ w3.heap.size := (by have := cs_lt HWD.out.2.2.1; omega); clear hg7 hr6 ho6 hn6 ho7 hne7 hob7
  go_wp2_with fail
  refine hK.out _ _ ?hst7 (fun hH => ?_)
  case hst7 => exact ⟨hq7.2.2.2.2.1, hq7.2.2.2.2.2.1, hq7.2.2.2.2.2.2.1, hq7.2.2.2.2.2.2.2.1, hq7.2.2.2.2.2.2.2.2⟩
  clear hK K
  (try simp only [Act.put, pk0, pk1, pk2])
  refine zt [8] ?_
  refine zt1 (fun _ _ d _ _ h => by cases d <;> exact h) (by simp only [lk0, lk1, lk2]; rfl) (by kernel_rfl) (by assumption) (by rfl) (fun w h => by (try dsimp only at h); go_simp; (try with_reducible rfl)) ?_; (try simp only [Act.put, pk0, pk1, pk2])
  refine zt0 ?_
  refine wpAnyH_done (by kernel_rfl) ?_ _
  have hd7 := repL_mono (R' := RO n w3.heap.size R k V) (fun _ _ h => Or.inl h) (repL_at (ow_rep HO7.out).2 HDR.out)
  have HD7 := Lib.hid hd7
  have HR7 := Lib.hid hr7
  have HQ7 := Lib.hid hq7
  have x4 := hq7.1
  have xl : w.heap.size < w7.heap.size := cell_lt x4
  clear hd7 hr7 hq7 hH HWD HOD
  go_wp2_with (at_builtin; refine wp_ovg rfl (.tmp 28) (.tmp 32) rfl (ro_one (ge := w3.heap.size) hR k V) (((w.alloc (.cells #[.int .i64 4, .int .i64 0, .float .f64 0, .string ⟨#[]⟩, .slice (some ⟨b, off, none⟩) l c] 27)).alloc (.cells #[.int .i64 K3, .int .i64 I3, .float .f64 F3, .string S3, .slice q3 m3 d3] 27)).alloc (.cells #[.int .i64 0, .int .i64 0, .float .f64 0, .string ⟨#[]⟩, .slice none 0 0] 27)) _ p2 (i + 1) c2 _ q9 (l - (i + 1)) (c - (i + 1)) _ rfl rfl HO7.out HD7.out (by omega) ?_; intro p3 c3 w8 ho8 hg8 _; (try rw [show i + 1 + (l - (i + 1)) = l by omega] at ho8); have hq8 := py_grown HQ7.out hg8 (fun k hk => by have := (ov_lt HO7.out k hk).1; simp only [World.size_alloc] at this; omega); have hr8 := row_grown HR7.out hg8 HNE7.out; have HY := Lib.hid (ow_rep ho8).1; have s0 := hq8.2.2.1.1; have s1 := hq8.2.2.1.2.1; have s2 := hq8.2.2.1.2.2.1; have s3 := hq8.2.2.1.2.2.2.1; have s4 := hq8.2.2.1.2.2.2.2; have sf := hq8.2.2.2.1; have sl := cell_lt s0; have HQ8 := Lib.hid hq8; have HR8 := Lib.hid hr8; clear hq8 hr8 hg8 ho8 x4 xl)
  have hoth : ∀ g, g ≠ w.heap.size + 1 + 1 → (set5 w8 (w.heap.size + 1 + 1) 0 (.int .i64 4) (.int .i64 0) (.float .f64 0) (.string ⟨#[]⟩) (.slice p3 l c3)).heap[g]? = w8.heap[g]? := fun g hg => set5_other (g := w.heap.size + 1 + 1) (o := 0) hg
  have hsz5 : (set5 w8 (w.heap.size + 1 + 1) 0 (.int .i64 4) (.int .i64 0) (.float .f64 0) (.string ⟨#[]⟩) (.slice p3 l c3)).heap.size = w8.heap.size := set5_size _ _ _ _ _ _ _ _
  refine bodyPost_ret (v := .agg #[.int .i64 4, .int .i64 0, .float .f64 0, .string ⟨#[]⟩, .slice p3 l c3]) (by simp [results, Tryz.results69, go_sem, World.cell?_setCell_same, World.cell?_setCell_other, s0, s1, s2, s3, s4]) rfl ⟨p3, c3, rfl, set5_below (g := w.heap.size + 1 + 1) (o := 0) HQ8.out.2.1 (by omega) _ _ _ _ _, w3.heap.size, by omega, (hoth _ (by omega)).trans HR8.out, fun y hst => ?_⟩
  have hst' : ∀ b, w.heap.size ≤ b → b < w8.heap.size → b ≠ w.heap.size + 1 + 1 → y.heap[b]? = w8.heap[b]? := fun b h1 h2 h3 => (hst b h1 (show b < (set5 w8 (w.heap.size + 1 + 1) 0 (.int .i64 4) (.int .i64 0) (.float .f64 0) (.string ⟨#[]⟩) (.slice p3 l c3)).heap.size by rw [hsz5]; exact h2)).trans (hoth b h3)
  have hy := HY.out y (fun b h1 h2 => by simp only [World.size_alloc] at h1; exact hst' b (by omega) h2 (by omega))
  rw [List.append_assoc, set_at L i _ (by have := HL.out.1; omega)] at hy
  exact hy
end Num
end Go.Proofs.YtpbfaffheigjcaaGreat
/-
  Package ledger: transfer, its roads.
-/
namespace Go.Proofs.YtpbfaffheigjcaaGreat
open Go.RowKit
namespace Num
open Ints
set_option linter.unusedSimpArgs false
set_option linter.unusedVariables false
set_option maxRecDepth 100000 in
set_option maxHeartbeats 4000000 in
theorem transfer_funds (n : Nat) (b off l c a d : Nat) (ka kd : ByteArray) (K3 I3 : Int) (F3 : Nat) (S3 : ByteArray) (q3 : Option Addr) (m3 d3 : Nat) (G FV FB : Nat) (ES : List (ByteArray × VT (n + 1))) (Va Vd : VT (n + 1)) (w0 w : World) (HBW : Hid (Below w0.heap.size w0 w)) (HL : Hid (RepL w0 (Rep w0 (n + 2)) (some ⟨b, off, none⟩) l c (ES.map (pairE n)))) (hl : l ≤ 32) (HA : Hid (AmtOk K3 I3 F3 G)) (hal : a < ES.length) (hll : ES.length = l) (hka : ES[a]'hal = (ka, Va)) (hs : Spot (ES.map (·.1)) ka a true) (hv : Va.1 = 2 ∧ Va.2.2.1 = FV) (hls : (FloatKind.f64.format.order FV G == some .lt) = true) (hdl : d < ES.length) (hkd : ES[d]'hdl = (kd, Vd)) (hsd : Spot (ES.map (·.1)) kd d true) (hvd : Vd.1 = 2 ∧ Vd.2.2.1 = FB)  :
    Calls Tryz.prog 56 #[.slice (some ⟨b, off, none⟩) l c, .string ka, .string kd, .agg #[.int .i64 K3, .int .i64 I3, .float .f64 F3, .string S3, .slice q3 m3 d3]] w fun e w' => e = .returned (.tuple #[.slice none 0 0, .agg #[.int .i64 0, .int .i64 0, .float .f64 0, .string ⟨#[]⟩, .slice none 0 0], .int .i64 36]) ∧ Below w.heap.size w w' := by
  have TR1 := Lib.hid (show (fun z0 : World => Zw z0 w.heap.size (.int .i64 K3) (.int .i64 I3) (.float .f64 F3) (.string S3) (.slice q3 m3 d3) ∧ Zz z0 (w.heap.size + 1) ∧ Below w.heap.size w z0) ((w.alloc (.cells #[.int .i64 K3, .int .i64 I3, .float .f64 F3, .string S3, .slice q3 m3 d3] 27)).alloc (.cells #[.int .i64 0, .int .i64 0, .float .f64 0, .string ⟨#[]⟩, .slice none 0 0] 27)) from ⟨row_alloc_step (row_alloc w #[.int .i64 K3, .int .i64 I3, .float .f64 F3, .string S3, .slice q3 m3 d3] 27) _, (ra (by simp only [World.size_alloc, World.size_drew])), bel_alloc (bel_alloc (Below.refl w.heap.size w) _) _⟩)
  have TH := Lib.hid trivial
  have HE := Lib.hid (entsL_step (ents_of HL.out (by omega)) HBW.out)
  obtain ⟨ga, oa, cga, hc0, hc1, hc2, hc3, hc4, hp⟩ := acc_at (repL_acc HBW.out HL.out) (show a < ES.length from by omega)
  rw [hka] at hp
  have HCa0 := Lib.hid hc0
  have HCa1 := Lib.hid hc1
  have HCa2 := Lib.hid hc2
  have HCa3 := Lib.hid hc3
  have HCa4 := Lib.hid hc4
  have HPa := Lib.hid hp
  have hba := cell_lt hc0
  have ha1 : (0 : Int) ≤ (a : Int) := by omega
  have ha2 : (a : Int) < (l : Int) := by omega
  clear hc0 hc1 hc2 hc3 hc4 hp
  obtain ⟨gd, od, cgd, hc0, hc1, hc2, hc3, hc4, hp⟩ := acc_at (repL_acc HBW.out HL.out) (show d < ES.length from by omega)
  rw [hkd] at hp
  have HCd0 := Lib.hid hc0
  have HCd1 := Lib.hid hc1
  have HCd2 := Lib.hid hc2
  have HCd3 := Lib.hid hc3
  have HCd4 := Lib.hid hc4
  have HPd := Lib.hid hp
  have hbd := cell_lt hc0
  have hd1 : (0 : Int) ≤ (d : Int) := by omega
  have hd2 : (d : Int) < (l : Int) := by omega
  clear hc0 hc1 hc2 hc3 hc4 hp
  have HS := Lib.hid hs
  have HVV := Lib.hid hv
  have HLS := Lib.hid hls
  clear hs hv hls
  have HSD := Lib.hid hsd
  have HVD := Lib.hid hvd
  clear hsd hvd
  have HKAA := Lib.hid hka
  clear hka
  have HKDD := Lib.hid hkd
  clear hkd
  go_enter Tryz.func56, Tryz.ntmps56
  go_wp2_with fail
  go_at_call 94; refine (amount_is HA.out S3 q3 m3 d3 _).mono ?_; rintro e w23 ⟨rfl, hbw23⟩
  have TR2 := Lib.hid (And.intro (row_step TR1.out.1 hbw23) (And.intro (row_step TR1.out.2.1 hbw23) (bel_step TR1.out.2.2 hbw23)))
  clear TR1
  clear hbw23
  obtain ⟨c0_0, c0_1, c0_2, c0_3, c0_4, c0f, c0l⟩ := r7 TR2.out.1
  go_wp2_with fail
  have TR3 := Lib.hid (show (fun z0 : World => ZF z0 w.heap.size G ∧ Zz z0 (w.heap.size + 1) ∧ Below w.heap.size w z0) (((((w23.setCell ⟨w.heap.size, 0, none⟩ (.int .i64 2)).setCell ⟨w.heap.size, 1, none⟩ (.int .i64 0)).setCell ⟨w.heap.size, 2, none⟩ (.float .f64 G)).setCell ⟨w.heap.size, 3, none⟩ (.string ⟨#[]⟩)).setCell ⟨w.heap.size, 4, none⟩ (.slice none 0 0)) from ⟨s5r TR2.out.1, s5o TR2.out.2.1 (by omega), s5b TR2.out.2.2 (by omega)⟩)
  clear TR2
  clear c0_0 c0_1 c0_2 c0_3 c0_4 c0f c0l
  go_at_call 88; refine (lfind_any _ _ c a (ES.map (·.1)) ka true _ (entsL_step HE.out TR3.out.2.2) HS.out).mono ?_; rintro e w24 ⟨rfl, hbw24⟩
  have TR4 := Lib.hid (And.intro (row_step TR3.out.1 hbw24) (And.intro (row_step TR3.out.2.1 hbw24) (bel_step TR3.out.2.2 hbw24)))
  clear TR3
  clear hbw24
  go_wp2_with fail
  go_at_call 88; refine (lfind_any _ _ c d (ES.map (·.1)) kd true _ (entsL_step HE.out TR4.out.2.2) HSD.out).mono ?_; rintro e w25 ⟨rfl, hbw25⟩
  have TR5 := Lib.hid (And.intro (row_step TR4.out.1 hbw25) (And.intro (row_step TR4.out.2.1 hbw25) (bel_step TR4.out.2.2 hbw25)))
  clear TR4
  clear hbw25
  go_upto_region 8 with fail
  have TR6 := Lib.hid (And.intro (row_step TR5.out.1 (Below.drew br)) (And.intro (row_step TR5.out.2.1 (Below.drew br)) (bel_step TR5.out.2.2 (Below.drew br))))
  clear TR5
  refine wp_region_held_drew (S := (fun z => z.cell? ⟨w.heap.size, 0, none⟩ = some (.int .i64 2) ∧ z.cell? ⟨w.heap.size, 1, none⟩ = some (.int .i64 0) ∧ z.cell? ⟨w.heap.size, 2, none⟩ = some (.float .f64 G) ∧ z.cell? ⟨w.heap.size, 3, none⟩ = some (.string ⟨#[]⟩) ∧ z.cell? ⟨w.heap.size, 4, none⟩ = some (.slice none 0 0) ∧ z.cell? ⟨b, off + a * 5, none⟩ = some (.int .i64 4) ∧ z.cell? ⟨b, off + a * 5 + 1, none⟩ = some (.int .i64 0) ∧ z.cell? ⟨b, off + a * 5 + 2, none⟩ = some (.float .f64 0) ∧ z.cell? ⟨b, off + a * 5 + 3, none⟩ = some (.string ⟨#[]⟩) ∧ z.cell? ⟨b, off + a * 5 + 4, none⟩ = some (.slice (some ⟨ga, oa, none⟩) 2 cga))) (by kernel_rfl) ?_ (fun hH => ?_)
  · exact ⟨rc TR6.out.1 0, rc TR6.out.1 1, rc TR6.out.1 2, rc TR6.out.1 3, rc TR6.out.1 4, ck TR6.out.2.2 HCa0.out, ck TR6.out.2.2 HCa1.out, ck TR6.out.2.2 HCa2.out, ck TR6.out.2.2 HCa3.out, ck TR6.out.2.2 HCa4.out⟩
  refine zt [0, 1, 2, 3, 4] ?_
  iterate 5 (refine zt1 (fun _ _ d _ _ h => by cases d <;> exact h) (by simp only [lk0, lk1, lk2]; rfl) (by kernel_rfl) (by assumption) (by rfl) (fun w h => by (try dsimp only at h); go_simp; (try with_reducible rfl)) ?_; (try simp only [Act.put, pk0, pk1, pk2]))
  refine zt0 ?_
  refine wpAnyH_ready (rs := [5, 9]) (by kernel_rfl) (by simp) ?_
  refine AllReadyH.cons (o := ?_) ?hov31_ ?hstv31_ ?mov31_
  case hov31_ => (simp only [lk0, lk1, lk2]; rfl)
  case hstv31_ =>
    intro K hK
    go_simp
    go_at_call 97; refine (less_no n ga oa cga ka Va G _ (rep_keep TR6.out.2.2 _ _ _ HPa.out) FV HVV.out HLS.out).mono ?_; rintro e w32 ⟨rfl, hbw32⟩
    have TR7 := Lib.hid (And.intro (row_step TR6.out.1 hbw32) (And.intro (row_step TR6.out.2.1 hbw32) (bel_step TR6.out.2.2 hbw32)))
    clear TR6
    clear hbw32
    go_wp2_with fail
    refine hK.out _ _ ?hsv31_ (fun hH => ?_)
    case hsv31_ => exact ⟨rc TR7.out.1 0, rc TR7.out.1 1, rc TR7.out.1 2, rc TR7.out.1 3, rc TR7.out.1 4, ck TR7.out.2.2 HCa0.out, ck TR7.out.2.2 HCa1.out, ck TR7.out.2.2 HCa2.out, ck TR7.out.2.2 HCa3.out, ck TR7.out.2.2 HCa4.out⟩
    clear hK K
    (try simp only [Act.put, pk0, pk1, pk2])
    refine zt [6, 7, 8] ?_
    iterate 3 (refine zt1 (fun _ _ d _ _ h => by cases d <;> exact h) (by simp only [lk0, lk1, lk2]; rfl) (by kernel_rfl) (by assumption) (by rfl) (fun w h => by (try dsimp only at h); go_simp; (try with_reducible rfl)) ?_; (try simp only [Act.put, pk0, pk1, pk2]))
    refine zt0 ?_
    refine zr1 9 (by kernel_rfl) (by simp only [lk0, lk1, lk2]; rfl) (fun K hK => ?_)
    go_simp
    have hlt37 : w.heap.size < w32.heap.size := row_lt TR7.out.1
    have hlt38 : w.heap.size + 1 < w32.heap.size := row_lt TR7.out.2.1
    have hlt39 : w.heap.size ≤ w32.heap.size := TR7.out.2.2.size
    have TR8 := Lib.hid (show (fun z0 : World => ZF z0 w.heap.size G ∧ Zz z0 (w.heap.size + 1) ∧ Zz z0 w32.heap.size ∧ Below w.heap.size w z0) (w32.alloc (.cells #[.int .i64 0, .int .i64 0, .float .f64 0, .string ⟨#[]⟩, .slice none 0 0] 27)) from ⟨row_alloc_step TR7.out.1 _, row_alloc_step TR7.out.2.1 _, (ra (by simp only [World.size_alloc, World.size_drew])), bel_step TR7.out.2.2 (bel_alloc br _)⟩)
    go_wp2_with fail
    refine hK.out _ _ ?hsv36_ (fun hH => ?_)
    case hsv36_ => exact ⟨rc TR8.out.1 0, rc TR8.out.1 1, rc TR8.out.1 2, rc TR8.out.1 3, rc TR8.out.1 4, ck TR8.out.2.2.2 HCa0.out, ck TR8.out.2.2.2 HCa1.out, ck TR8.out.2.2.2 HCa2.out, ck TR8.out.2.2.2 HCa3.out, ck TR8.out.2.2.2 HCa4.out⟩
    clear hK K
    (try simp only [Act.put, pk0, pk1, pk2])
    refine zr1 10 (by kernel_rfl) (by simp only [lk0, lk1, lk2]; rfl) (fun K hK => ?_)
    obtain ⟨b30, b31, b32, b33, b34, b3f, b3l⟩ := r7 TR8.out.2.2.1; go_simp
    have TR9 := Lib.hid (show (fun z0 : World => ZF z0 w.heap.size G ∧ Zz z0 (w.heap.size + 1) ∧ Zz z0 w32.heap.size ∧ Below w.heap.size w z0) (w32.alloc (.cells #[.int .i64 0, .int .i64 0, .float .f64 0, .string ⟨#[]⟩, .slice none 0 0] 27)) from ⟨row_alloc_step TR7.out.1 _, row_alloc_step TR7.out.2.1 _, (ra (by simp only [World.size_alloc, World.size_drew])), bel_step TR7.out.2.2 (bel_alloc br _)⟩)
    clear b30 b31 b32 b33 b34 b3f b3l
    go_wp2_with fail
    refine hK.out _ _ ?hsv40_ (fun hH => ?_)
    case hsv40_ => exact ⟨rc TR9.out.1 0, rc TR9.out.1 1, rc TR9.out.1 2, rc TR9.out.1 3, rc TR9.out.1 4, ck TR9.out.2.2.2 HCa0.out, ck TR9.out.2.2.2 HCa1.out, ck TR9.out.2.2.2 HCa2.out, ck TR9.out.2.2.2 HCa3.out, ck TR9.out.2.2.2 HCa4.out⟩
    clear hK K
    (try simp only [Act.put, pk0, pk1, pk2])
    refine zt [11] ?_
    refine zt1 (fun _ _ d _ _ h => by cases d <;> exact h) (by simp only [lk0, lk1, lk2]; rfl) (by kernel_rfl) (by assumption) (by rfl) (fun w h => by (try dsimp only at h); go_simp; (try with_reducible rfl)) ?_; (try simp only [Act.put, pk0, pk1, pk2])
    refine zt0 ?_
    refine wpAnyH_done (by kernel_rfl) ?_ _
    revert TR9
    generalize (w32.alloc (.cells #[.int .i64 0, .int .i64 0, .float .f64 0, .string ⟨#[]⟩, .slice none 0 0] 27)) = Wl42
    intro TR9
    obtain ⟨c1_0, c1_1, c1_2, c1_3, c1_4, c1f, c1l⟩ := r7 TR9.out.2.1
    go_wp2
    refine bodyPost_ret (v := .tuple #[.slice none 0 0, .agg #[.int .i64 0, .int .i64 0, .float .f64 0, .string ⟨#[]⟩, .slice none 0 0], .int .i64 36]) (by simp [results, Tryz.results56, go_sem, World.cell?_setCell_same, World.cell?_setCell_other, c1_0, c1_1, c1_2, c1_3, c1_4]) rfl ⟨rfl, ?_⟩
    exact set5_below (g := w.heap.size + 1) (o := 0) (TR9.out.2.2.2) (by omega) _ _ _ _ _
  case mov31_ =>
    refine AllReadyH.cons (o := ?_) ?hov43_ ?hstv43_ AllReadyH.nil
    case hov43_ => (simp only [lk0, lk1, lk2]; rfl)
    intro K hK
    go_simp
    have hlt44 : w.heap.size < w25.heap.size := row_lt TR6.out.1
    have hlt45 : w.heap.size + 1 < w25.heap.size := row_lt TR6.out.2.1
    have hlt46 : w.heap.size ≤ w25.heap.size := TR6.out.2.2.size
    have TR7 := Lib.hid (show (fun z0 : World => ZF z0 w.heap.size G ∧ Zz z0 (w.heap.size + 1) ∧ Zz z0 w25.heap.size ∧ Below w.heap.size w z0) (w25.drew.alloc (.cells #[.int .i64 0, .int .i64 0, .float .f64 0, .string ⟨#[]⟩, .slice none 0 0] 27)) from ⟨row_alloc_step TR6.out.1 _, row_alloc_step TR6.out.2.1 _, (ra (by simp only [World.size_alloc, World.size_drew])), bel_step TR6.out.2.2 (bel_alloc br _)⟩)
    go_wp2_with fail
    refine hK.out _ _ ?hsv43_ (fun hH => ?_)
    case hsv43_ => exact ⟨rc TR7.out.1 0, rc TR7.out.1 1, rc TR7.out.1 2, rc TR7.out.1 3, rc TR7.out.1 4, ck TR7.out.2.2.2 HCa0.out, ck TR7.out.2.2.2 HCa1.out, ck TR7.out.2.2.2 HCa2.out, ck TR7.out.2.2.2 HCa3.out, ck TR7.out.2.2.2 HCa4.out⟩
    clear hK K
    (try simp only [Act.put, pk0, pk1, pk2])
    refine zr1 5 (by kernel_rfl) (by simp only [lk0, lk1, lk2]; rfl) (fun K hK => ?_)
    go_simp
    go_at_call 97; refine (less_no n ga oa cga ka Va G _ (rep_keep TR7.out.2.2.2 _ _ _ HPa.out) FV HVV.out HLS.out).mono ?_; rintro e w48 ⟨rfl, hbw48⟩
    have TR8 := Lib.hid (And.intro (row_step TR7.out.1 hbw48) (And.intro (row_step TR7.out.2.1 hbw48) (And.intro (row_step TR7.out.2.2.1 hbw48) (bel_step TR7.out.2.2.2 hbw48))))
    clear TR7
    clear hbw48
    go_wp2_with fail
    refine hK.out _ _ ?hsv47_ (fun hH => ?_)
    case hsv47_ => exact ⟨rc TR8.out.1 0, rc TR8.out.1 1, rc TR8.out.1 2, rc TR8.out.1 3, rc TR8.out.1 4, ck TR8.out.2.2.2 HCa0.out, ck TR8.out.2.2.2 HCa1.out, ck TR8.out.2.2.2 HCa2.out, ck TR8.out.2.2.2 HCa3.out, ck TR8.out.2.2.2 HCa4.out⟩
    clear hK K
    (try simp only [Act.put, pk0, pk1, pk2])
    refine zt [6, 7, 8] ?_
    iterate 3 (refine zt1 (fun _ _ d _ _ h => by cases d <;> exact h) (by simp only [lk0, lk1, lk2]; rfl) (by kernel_rfl) (by assumption) (by rfl) (fun w h => by (try dsimp only at h); go_simp; (try with_reducible rfl)) ?_; (try simp only [Act.put, pk0, pk1, pk2]))
    refine zt0 ?_
    refine zr1 10 (by kernel_rfl) (by simp only [lk0, lk1, lk2]; rfl) (fun K hK => ?_)
    obtain ⟨b30, b31, b32, b33, b34, b3f, b3l⟩ := r7 TR8.out.2.2.1; go_simp
    have TR9 := Lib.hid (show (fun z0 : World => ZF z0 w.heap.size G ∧ Zz z0 (w.heap.size + 1) ∧ Zz z0 w25.heap.size ∧ Below w.heap.size w z0) (((((w48.setCell ⟨w25.heap.size, 0, none⟩ (.int .i64 0)).setCell ⟨w25.heap.size, 1, none⟩ (.int .i64 0)).setCell ⟨w25.heap.size, 2, none⟩ (.float .f64 0)).setCell ⟨w25.heap.size, 3, none⟩ (.string ⟨#[]⟩)).setCell ⟨w25.heap.size, 4, none⟩ (.slice none 0 0)) from ⟨s5o TR8.out.1 (by omega), s5o TR8.out.2.1 (by omega), s5r TR8.out.2.2.1, s5b TR8.out.2.2.2 (by omega)⟩)
    clear TR8
    clear b30 b31 b32 b33 b34 b3f b3l
    go_wp2_with fail
    refine hK.out _ _ ?hsv52_ (fun hH => ?_)
    case hsv52_ => exact ⟨rc TR9.out.1 0, rc TR9.out.1 1, rc TR9.out.1 2, rc TR9.out.1 3, rc TR9.out.1 4, ck TR9.out.2.2.2 HCa0.out, ck TR9.out.2.2.2 HCa1.out, ck TR9.out.2.2.2 HCa2.out, ck TR9.out.2.2.2 HCa3.out, ck TR9.out.2.2.2 HCa4.out⟩
    clear hK K
    (try simp only [Act.put, pk0, pk1, pk2])
    refine zt [11] ?_
    refine zt1 (fun _ _ d _ _ h => by cases d <;> exact h) (by simp only [lk0, lk1, lk2]; rfl) (by kernel_rfl) (by assumption) (by rfl) (fun w h => by (try dsimp only at h); go_simp; (try with_reducible rfl)) ?_; (try simp only [Act.put, pk0, pk1, pk2])
    refine zt0 ?_
    refine wpAnyH_done (by kernel_rfl) ?_ _
    revert TR9
    generalize (((((w48.setCell ⟨w25.heap.size, 0, none⟩ (.int .i64 0)).setCell ⟨w25.heap.size, 1, none⟩ (.int .i64 0)).setCell ⟨w25.heap.size, 2, none⟩ (.float .f64 0)).setCell ⟨w25.heap.size, 3, none⟩ (.string ⟨#[]⟩)).setCell ⟨w25.heap.size, 4, none⟩ (.slice none 0 0)) = Wl54
    intro TR9
    obtain ⟨c1_0, c1_1, c1_2, c1_3, c1_4, c1f, c1l⟩ := r7 TR9.out.2.1
    go_wp2
    refine bodyPost_ret (v := .tuple #[.slice none 0 0, .agg #[.int .i64 0, .int .i64 0, .float .f64 0, .string ⟨#[]⟩, .slice none 0 0], .int .i64 36]) (by simp [results, Tryz.results56, go_sem, World.cell?_setCell_same, World.cell?_setCell_other, c1_0, c1_1, c1_2, c1_3, c1_4]) rfl ⟨rfl, ?_⟩
    exact set5_below (g := w.heap.size + 1) (o := 0) (TR9.out.2.2.2) (by omega) _ _ _ _ _
end Num
end Go.Proofs.YtpbfaffheigjcaaGreat
