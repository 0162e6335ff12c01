/-
  Package ledger: amount.
-/
import Derived.Test.YteodljkcbddehaaJMI
import Derived.Test.YteodljkcbddehaaJp14YC
import Derived.Test.YteodljkcbddehaaJp2Flo
import Derived.Deep.RegionHeld3
import Derived.RegionTactic
import Derived.Deep.DeepCutAuto
import Derived.Test.YteodljkcbddehaaJp3VBase
import Derived.Test.YteodljkcbddehaaJHH
import Derived.Test.YteodljkcbddehaaJp4VTree
import Derived.Test.YteodljkcbddehaaJp9VSurv
import Derived.Test.YteodljkcbddehaaJp13RDa
namespace Go.Proofs.Yteodljkcbddehaa
open Go.RowKit
namespace Num
open Ints
set_option linter.unusedSimpArgs false
set_option linter.unusedVariables false
theorem finite_is {K : Int} {F : Nat} {b : Bool} (h : finV K F = b) (hF : F < 2 ^ 64) (I : Int) (S : ByteArray) (p : Option Addr) (l c : Nat) (w : World) : Calls Try.prog 65 #[.agg #[.int .i64 K, .int .i64 I, .float .f64 F, .string S, .slice p l c]] w fun e w' => e = .returned (.bool b) ∧ Below w.heap.size w w' := by
  have h1 := finite_any K I F S p l c hF w
  rw [h] at h1
  exact h1
set_option maxRecDepth 100000 in
set_option maxHeartbeats 4000000 in
theorem amount_nofin (K3 I3 : Int) (F3 : Nat) (S3 : ByteArray) (q3 : Option Addr) (m3 d3 : Nat) (w : World) (hF : F3 < 2 ^ 64) (hf : finV K3 F3 = false) : Calls Try.prog 58 #[.agg #[.int .i64 K3, .int .i64 I3, .float .f64 F3, .string S3, .slice q3 m3 d3]] w fun e w' => e = .returned (.tuple #[.agg #[.int .i64 0, .int .i64 0, .float .f64 0, .string ⟨#[]⟩, .slice none 0 0], .int .i64 35]) ∧ Below w.heap.size w w' := by
  have TR1 := Lib.hid (show (fun z0 : World => Zw z0 w.heap.size (.int .i64 K3) (.int .i64 I3) (.float .f64 F3) (.string S3) (.slice q3 m3 d3) ∧ Zz z0 (w.heap.size + 1) ∧ Below w.heap.size w z0) ((w.alloc (.cells #[.int .i64 K3, .int .i64 I3, .float .f64 F3, .string S3, .slice q3 m3 d3] 27)).alloc (.cells #[.int .i64 0, .int .i64 0, .float .f64 0, .string ⟨#[]⟩, .slice none 0 0] 27)) from ⟨row_alloc_step (row_alloc w #[.int .i64 K3, .int .i64 I3, .float .f64 F3, .string S3, .slice q3 m3 d3] 27) _, (ra (by simp only [World.size_alloc, World.size_drew])), bel_alloc (bel_alloc (Below.refl w.heap.size w) _) _⟩)
  have HF := Lib.hid hF
  have HN := Lib.hid hf
  clear hF hf
  go_enter Try.func58, Try.ntmps58
  go_wp2_with fail
  go_at_call 65; refine (finite_is HN.out HF.out I3 S3 q3 m3 d3 _).mono ?_; rintro e w1 ⟨rfl, hbw1⟩
  have TR2 := Lib.hid (And.intro (row_step TR1.out.1 hbw1) (And.intro (row_step TR1.out.2.1 hbw1) (bel_step TR1.out.2.2 hbw1)))
  clear TR1
  clear hbw1
  obtain ⟨c1_0, c1_1, c1_2, c1_3, c1_4, c1f, c1l⟩ := r7 TR2.out.2.1
  go_wp2
  refine bodyPost_ret (v := .tuple #[.agg #[.int .i64 0, .int .i64 0, .float .f64 0, .string ⟨#[]⟩, .slice none 0 0], .int .i64 35]) (by simp [results, Try.results58, go_sem, World.cell?_setCell_same, World.cell?_setCell_other, c1_0, c1_1, c1_2, c1_3, c1_4]) rfl ⟨rfl, ?_⟩
  exact set5_below (g := w.heap.size + 1) (o := 0) TR2.out.2.2 (by omega) _ _ _ _ _
set_option maxRecDepth 100000 in
set_option maxHeartbeats 4000000 in
theorem amount_nosign (K3 I3 : Int) (F3 : Nat) (S3 : ByteArray) (q3 : Option Addr) (m3 d3 : Nat) (w : World) (hF : F3 < 2 ^ 64) (hf : finV K3 F3 = true) (hs : signV K3 I3 F3 ≤ 0) : Calls Try.prog 58 #[.agg #[.int .i64 K3, .int .i64 I3, .float .f64 F3, .string S3, .slice q3 m3 d3]] w fun e w' => e = .returned (.tuple #[.agg #[.int .i64 0, .int .i64 0, .float .f64 0, .string ⟨#[]⟩, .slice none 0 0], .int .i64 35]) ∧ Below w.heap.size w w' := by
  have TR1 := Lib.hid (show (fun z0 : World => Zw z0 w.heap.size (.int .i64 K3) (.int .i64 I3) (.float .f64 F3) (.string S3) (.slice q3 m3 d3) ∧ Zz z0 (w.heap.size + 1) ∧ Below w.heap.size w z0) ((w.alloc (.cells #[.int .i64 K3, .int .i64 I3, .float .f64 F3, .string S3, .slice q3 m3 d3] 27)).alloc (.cells #[.int .i64 0, .int .i64 0, .float .f64 0, .string ⟨#[]⟩, .slice none 0 0] 27)) from ⟨row_alloc_step (row_alloc w #[.int .i64 K3, .int .i64 I3, .float .f64 F3, .string S3, .slice q3 m3 d3] 27) _, (ra (by simp only [World.size_alloc, World.size_drew])), bel_alloc (bel_alloc (Below.refl w.heap.size w) _) _⟩)
  have HF := Lib.hid hF
  have HN := Lib.hid hf
  clear hF hf
  go_enter Try.func58, Try.ntmps58
  go_wp2_with fail
  go_at_call 65; refine (finite_is HN.out HF.out I3 S3 q3 m3 d3 _).mono ?_; rintro e w2 ⟨rfl, hbw2⟩
  have TR2 := Lib.hid (And.intro (row_step TR1.out.1 hbw2) (And.intro (row_step TR1.out.2.1 hbw2) (bel_step TR1.out.2.2 hbw2)))
  clear TR1
  clear hbw2
  obtain ⟨c0_0, c0_1, c0_2, c0_3, c0_4, c0f, c0l⟩ := r7 TR2.out.1
  go_wp2_with fail
  go_at_call 56; refine (sign_any K3 I3 F3 S3 q3 m3 d3 _).mono ?_; rintro e w3 ⟨rfl, hbw3⟩
  have TR3 := Lib.hid (And.intro (row_step TR2.out.1 hbw3) (And.intro (row_step TR2.out.2.1 hbw3) (bel_step TR2.out.2.2 hbw3)))
  clear TR2
  clear hbw3
  clear c0_0 c0_1 c0_2 c0_3 c0_4 c0f c0l
  obtain ⟨c1_0, c1_1, c1_2, c1_3, c1_4, c1f, c1l⟩ := r7 TR3.out.2.1
  go_wp2
  refine bodyPost_ret (v := .tuple #[.agg #[.int .i64 0, .int .i64 0, .float .f64 0, .string ⟨#[]⟩, .slice none 0 0], .int .i64 35]) (by simp [results, Try.results58, go_sem, World.cell?_setCell_same, World.cell?_setCell_other, c1_0, c1_1, c1_2, c1_3, c1_4]) rfl ⟨rfl, ?_⟩
  exact set5_below (g := w.heap.size + 1) (o := 0) TR3.out.2.2 (by omega) _ _ _ _ _
set_option maxRecDepth 100000 in
set_option maxHeartbeats 4000000 in
theorem amount_ok (K3 I3 : Int) (F3 : Nat) (S3 : ByteArray) (q3 : Option Addr) (m3 d3 : Nat) (w : World) (hF : F3 < 2 ^ 64) (hi : okI I3) (hf : finV K3 F3 = true) (hs : 0 < signV K3 I3 F3) (hq : opV 0 2 0 0 K3 I3 F3 = (2, 0, asF K3 I3 F3, 0)) : Calls Try.prog 58 #[.agg #[.int .i64 K3, .int .i64 I3, .float .f64 F3, .string S3, .slice q3 m3 d3]] w fun e w' => e = .returned (.tuple #[.agg #[.int .i64 2, .int .i64 0, .float .f64 (asF K3 I3 F3), .string ⟨#[]⟩, .slice none 0 0], .int .i64 0]) ∧ Below w.heap.size w w' := by
  have TR1 := Lib.hid (show (fun z0 : World => Zw z0 w.heap.size (.int .i64 K3) (.int .i64 I3) (.float .f64 F3) (.string S3) (.slice q3 m3 d3) ∧ Zz z0 (w.heap.size + 1) ∧ Below w.heap.size w z0) ((w.alloc (.cells #[.int .i64 K3, .int .i64 I3, .float .f64 F3, .string S3, .slice q3 m3 d3] 27)).alloc (.cells #[.int .i64 0, .int .i64 0, .float .f64 0, .string ⟨#[]⟩, .slice none 0 0] 27)) from ⟨row_alloc_step (row_alloc w #[.int .i64 K3, .int .i64 I3, .float .f64 F3, .string S3, .slice q3 m3 d3] 27) _, (ra (by simp only [World.size_alloc, World.size_drew])), bel_alloc (bel_alloc (Below.refl w.heap.size w) _) _⟩)
  have HF := Lib.hid hF
  have HN := Lib.hid hf
  have HQ := Lib.hid hq
  have HI := Lib.hid hi
  clear hF hf hq hi
  go_enter Try.func58, Try.ntmps58
  go_wp2_with fail
  go_at_call 65; refine (finite_is HN.out HF.out I3 S3 q3 m3 d3 _).mono ?_; rintro e w4 ⟨rfl, hbw4⟩
  have TR2 := Lib.hid (And.intro (row_step TR1.out.1 hbw4) (And.intro (row_step TR1.out.2.1 hbw4) (bel_step TR1.out.2.2 hbw4)))
  clear TR1
  clear hbw4
  obtain ⟨c0_0, c0_1, c0_2, c0_3, c0_4, c0f, c0l⟩ := r7 TR2.out.1
  go_wp2_with fail
  go_at_call 56; refine (sign_any K3 I3 F3 S3 q3 m3 d3 _).mono ?_; rintro e w5 ⟨rfl, hbw5⟩
  have TR3 := Lib.hid (And.intro (row_step TR2.out.1 hbw5) (And.intro (row_step TR2.out.2.1 hbw5) (bel_step TR2.out.2.2 hbw5)))
  clear TR2
  clear hbw5
  clear c0_0 c0_1 c0_2 c0_3 c0_4 c0f c0l
  go_upto_region 3 with fail
  have TR4 := Lib.hid (And.intro (row_step TR3.out.1 (Below.drew br)) (And.intro (row_step TR3.out.2.1 (Below.drew br)) (bel_step TR3.out.2.2 (Below.drew br))))
  clear TR3
  refine wp_region_held_drew (S := (fun z => z.cell? ⟨w.heap.size, 0, none⟩ = some (.int .i64 K3) ∧ z.cell? ⟨w.heap.size, 1, none⟩ = some (.int .i64 I3) ∧ z.cell? ⟨w.heap.size, 2, none⟩ = some (.float .f64 F3) ∧ z.cell? ⟨w.heap.size, 3, none⟩ = some (.string S3) ∧ z.cell? ⟨w.heap.size, 4, none⟩ = some (.slice q3 m3 d3))) (by kernel_rfl) ?_ (fun hH => ?_)
  · exact ⟨rc TR4.out.1 0, rc TR4.out.1 1, rc TR4.out.1 2, rc TR4.out.1 3, rc TR4.out.1 4⟩
  refine zt [1] ?_
  refine zt1 (fun _ _ d _ _ h => by cases d <;> exact h) (by simp only [lk0, lk1, lk2]; rfl) (by kernel_rfl) (by assumption) (by rfl) (fun w h => by (try dsimp only at h); go_simp; (try with_reducible rfl)) ?_; (try simp only [Act.put, pk0, pk1, pk2])
  refine zt0 ?_
  refine zr1 0 (by kernel_rfl) (by simp only [lk0, lk1, lk2]; rfl) (fun K hK => ?_)
  go_simp
  go_at_call 55; refine (nothing_any _).mono ?_; rintro e w8 ⟨rfl, hbw8⟩
  have TR5 := Lib.hid (And.intro (row_step TR4.out.1 hbw8) (And.intro (row_step TR4.out.2.1 hbw8) (bel_step TR4.out.2.2 hbw8)))
  clear TR4
  clear hbw8
  go_wp2_with fail
  refine hK.out _ _ ?hsv7_ (fun hH => ?_)
  case hsv7_ => exact ⟨rc TR5.out.1 0, rc TR5.out.1 1, rc TR5.out.1 2, rc TR5.out.1 3, rc TR5.out.1 4⟩
  clear hK K
  (try simp only [Act.put, pk0, pk1, pk2])
  refine zr1 2 (by kernel_rfl) (by simp only [lk0, lk1, lk2]; rfl) (fun K hK => ?_)
  go_simp
  go_at_call 62; refine (add_any 2 0 0 _ _ _ _ K3 I3 F3 S3 q3 m3 d3 _ (by decide) HI.out HQ.out).mono ?_; rintro e w10 ⟨rfl, hbw10⟩
  have TR6 := Lib.hid (And.intro (row_step TR5.out.1 hbw10) (And.intro (row_step TR5.out.2.1 hbw10) (bel_step TR5.out.2.2 hbw10)))
  clear TR5
  clear hbw10
  go_wp2_with fail
  refine hK.out _ _ ?hsv9_ (fun hH => ?_)
  case hsv9_ => exact ⟨rc TR6.out.1 0, rc TR6.out.1 1, rc TR6.out.1 2, rc TR6.out.1 3, rc TR6.out.1 4⟩
  clear hK K
  (try simp only [Act.put, pk0, pk1, pk2])
  refine zt [3, 4] ?_
  iterate 2 (refine zt1 (fun _ _ d _ _ h => by cases d <;> exact h) (by simp only [lk0, lk1, lk2]; rfl) (by kernel_rfl) (by assumption) (by rfl) (fun w h => by (try dsimp only at h); go_simp; (try with_reducible rfl)) ?_; (try simp only [Act.put, pk0, pk1, pk2]))
  refine zt0 ?_
  refine zr1 5 (by kernel_rfl) (by simp only [lk0, lk1, lk2]; rfl) (fun K hK => ?_)
  obtain ⟨b30, b31, b32, b33, b34, b3f, b3l⟩ := r7 TR6.out.2.1; go_simp
  have TR7 := Lib.hid (show (fun z0 : World => Zw z0 w.heap.size (.int .i64 K3) (.int .i64 I3) (.float .f64 F3) (.string S3) (.slice q3 m3 d3) ∧ ZF z0 (w.heap.size + 1) (asF K3 I3 F3) ∧ Below w.heap.size w z0) (((((w10.setCell ⟨w.heap.size + 1, 0, none⟩ (.int .i64 2)).setCell ⟨w.heap.size + 1, 1, none⟩ (.int .i64 0)).setCell ⟨w.heap.size + 1, 2, none⟩ (.float .f64 (asF K3 I3 F3))).setCell ⟨w.heap.size + 1, 3, none⟩ (.string ⟨#[]⟩)).setCell ⟨w.heap.size + 1, 4, none⟩ (.slice none 0 0)) from ⟨s5o TR6.out.1 (by omega), s5r TR6.out.2.1, s5b TR6.out.2.2 (by omega)⟩)
  clear TR6
  clear b30 b31 b32 b33 b34 b3f b3l
  go_wp2_with fail
  refine hK.out _ _ ?hsv13_ (fun hH => ?_)
  case hsv13_ => exact ⟨rc TR7.out.1 0, rc TR7.out.1 1, rc TR7.out.1 2, rc TR7.out.1 3, rc TR7.out.1 4⟩
  clear hK K
  (try simp only [Act.put, pk0, pk1, pk2])
  refine zt [6] ?_
  refine zt1 (fun _ _ d _ _ h => by cases d <;> exact h) (by simp only [lk0, lk1, lk2]; rfl) (by kernel_rfl) (by assumption) (by rfl) (fun w h => by (try dsimp only at h); go_simp; (try with_reducible rfl)) ?_; (try simp only [Act.put, pk0, pk1, pk2])
  refine zt0 ?_
  refine wpAnyH_done (by kernel_rfl) ?_ _
  revert TR7
  generalize (((((w10.setCell ⟨w.heap.size + 1, 0, none⟩ (.int .i64 2)).setCell ⟨w.heap.size + 1, 1, none⟩ (.int .i64 0)).setCell ⟨w.heap.size + 1, 2, none⟩ (.float .f64 (asF K3 I3 F3))).setCell ⟨w.heap.size + 1, 3, none⟩ (.string ⟨#[]⟩)).setCell ⟨w.heap.size + 1, 4, none⟩ (.slice none 0 0)) = Wf
  intro TR7
  obtain ⟨c1_0, c1_1, c1_2, c1_3, c1_4, c1f, c1l⟩ := r7 TR7.out.2.1
  go_wp2
  exact bodyPost_ret (v := .tuple #[.agg #[.int .i64 2, .int .i64 0, .float .f64 (asF K3 I3 F3), .string ⟨#[]⟩, .slice none 0 0], .int .i64 0]) (by simp [results, Try.results58, go_sem, c1_0, c1_1, c1_2, c1_3, c1_4]) rfl ⟨rfl, TR7.out.2.2⟩
end Num
end Go.Proofs.Yteodljkcbddehaa
/-
  Package ledger: more, less.
-/
namespace Go.Proofs.Yteodljkcbddehaa
open Go.RowKit
namespace Num
open Ints
set_option linter.unusedSimpArgs false
set_option linter.unusedVariables false
theorem hold_shape {n : Nat} {w : World} {K I : Int} {F FV : Nat} {S : ByteArray} {q : Option Addr} {m d : Nat} {V : VT (n + 1)} (hv : V.1 = 2 ∧ V.2.2.1 = FV) (h : Rep w (n + 1) (.agg #[.int .i64 K, .int .i64 I, .float .f64 F, .string S, .slice q m d]) V) : K = 2 ∧ FV = F ∧ okI I := by
  obtain ⟨p, l, c, hv', h1, h2, _⟩ := h
  injection hv' with hv'
  simp only [Array.mk.injEq, List.cons.injEq, and_true] at hv'
  obtain ⟨e1, e2, e3, e4, e5⟩ := hv'
  injection e1 with _ e1
  injection e2 with _ e2
  injection e3 with _ e3
  exact ⟨e1.trans hv.1, hv.2.symm.trans e3.symm, e2 ▸ h2⟩
set_option maxRecDepth 100000 in
set_option maxHeartbeats 4000000 in
theorem more_ok (n : Nat) (g o c : Nat) (s : ByteArray) (V : VT (n + 1)) (G : Nat) (w : World) (h : Rep w (n + 2) (.agg #[.int .i64 4, .int .i64 0, .float .f64 0, .string ⟨#[]⟩, .slice (some ⟨g, o, none⟩) 2 c]) (pairT n s V)) (FV : Nat) (hv : V.1 = 2 ∧ V.2.2.1 = FV) (hs : finV 2 (Flo.cop .add FV G) = true) :
    Calls Try.prog 59 #[.agg #[.int .i64 4, .int .i64 0, .float .f64 0, .string ⟨#[]⟩, .slice (some ⟨g, o, none⟩) 2 c], .agg #[.int .i64 2, .int .i64 0, .float .f64 G, .string ⟨#[]⟩, .slice none 0 0]] w fun e w' => e = .returned (.tuple #[.agg #[.int .i64 2, .int .i64 0, .float .f64 (Flo.cop .add FV G), .string ⟨#[]⟩, .slice none 0 0], .int .i64 0]) ∧ Below w.heap.size w w' := by
  have TR1 := Lib.hid (show (fun z0 : World => ZL z0 w.heap.size (some ⟨g, o, none⟩) 2 c ∧ ZF z0 (w.heap.size + 1) G ∧ Zz z0 (w.heap.size + 1 + 1) ∧ Below w.heap.size w z0) (((w.alloc (.cells #[.int .i64 4, .int .i64 0, .float .f64 0, .string ⟨#[]⟩, .slice (some ⟨g, o, none⟩) 2 c] 27)).alloc (.cells #[.int .i64 2, .int .i64 0, .float .f64 G, .string ⟨#[]⟩, .slice none 0 0] 27)).alloc (.cells #[.int .i64 0, .int .i64 0, .float .f64 0, .string ⟨#[]⟩, .slice none 0 0] 27)) from ⟨row_alloc_step (row_alloc_step (row_alloc w #[.int .i64 4, .int .i64 0, .float .f64 0, .string ⟨#[]⟩, .slice (some ⟨g, o, none⟩) 2 c] 27) _) _, (row_alloc_step (ra (by simp only [World.size_alloc, World.size_drew])) _), (ra (by simp only [World.size_alloc, World.size_drew])), bel_alloc (bel_alloc (bel_alloc (Below.refl w.heap.size w) _) _) _⟩)
  have HP := Lib.hid h
  have HS := Lib.hid hs
  have HV := Lib.hid hv
  clear h hs hv
  go_enter Try.func59, Try.ntmps59
  go_upto_region 1 with fail
  have TR2 := Lib.hid (And.intro (row_step TR1.out.1 (Below.drew br)) (And.intro (row_step TR1.out.2.1 (Below.drew br)) (And.intro (row_step TR1.out.2.2.1 (Below.drew br)) (bel_step TR1.out.2.2.2 (Below.drew br)))))
  clear TR1
  refine wp_region_held_drew (S := (fun z => z.cell? ⟨w.heap.size, 0, none⟩ = some (.int .i64 4) ∧ z.cell? ⟨w.heap.size, 1, none⟩ = some (.int .i64 0) ∧ z.cell? ⟨w.heap.size, 2, none⟩ = some (.float .f64 0) ∧ z.cell? ⟨w.heap.size, 3, none⟩ = some (.string ⟨#[]⟩) ∧ z.cell? ⟨w.heap.size, 4, none⟩ = some (.slice (some ⟨g, o, none⟩) 2 c) ∧ z.cell? ⟨w.heap.size + 1, 0, none⟩ = some (.int .i64 2) ∧ z.cell? ⟨w.heap.size + 1, 1, none⟩ = some (.int .i64 0) ∧ z.cell? ⟨w.heap.size + 1, 2, none⟩ = some (.float .f64 G) ∧ z.cell? ⟨w.heap.size + 1, 3, none⟩ = some (.string ⟨#[]⟩) ∧ z.cell? ⟨w.heap.size + 1, 4, none⟩ = some (.slice none 0 0))) (by kernel_rfl) ?_ (fun hH => ?_)
  · exact ⟨rc TR2.out.1 0, rc TR2.out.1 1, rc TR2.out.1 2, rc TR2.out.1 3, rc TR2.out.1 4, rc TR2.out.2.1 0, rc TR2.out.2.1 1, rc TR2.out.2.1 2, rc TR2.out.2.1 3, rc TR2.out.2.1 4⟩
  refine zt [0, 2] ?_
  iterate 2 (refine zt1 (fun _ _ d _ _ h => by cases d <;> exact h) (by simp only [lk0, lk1, lk2]; rfl) (by kernel_rfl) (by assumption) (by rfl) (fun w h => by (try dsimp only at h); go_simp; (try with_reducible rfl)) ?_; (try simp only [Act.put, pk0, pk1, pk2]))
  refine zt0 ?_
  refine wpAnyH_ready (rs := [1, 7]) (by kernel_rfl) (by simp) ?_
  refine AllReadyH.cons (o := ?_) ?hov3_ ?hstv3_ ?mov3_
  case hov3_ => (simp only [lk0, lk1, lk2]; rfl)
  case hstv3_ =>
    intro K hK
    go_simp
    go_at_call 57; refine (hasOf_any n _ s V _ (rep_keep TR2.out.2.2.2 _ _ _ HP.out)).mono ?_; rintro e w4 ⟨Kx, Ix, Fx, Sx, qx, mx, dx, rfl, hbw4, hrx⟩
    have TR3 := Lib.hid (And.intro (row_step TR2.out.1 hbw4) (And.intro (row_step TR2.out.2.1 hbw4) (And.intro (row_step TR2.out.2.2.1 hbw4) (bel_step TR2.out.2.2.2 hbw4))))
    clear TR2
    obtain ⟨rfl, rfl, hix⟩ := hold_shape HV.out hrx
    clear hrx
    clear hbw4
    go_wp2_with fail
    refine hK.out _ _ ?hsv3_ (fun hH => ?_)
    case hsv3_ => exact ⟨rc TR3.out.1 0, rc TR3.out.1 1, rc TR3.out.1 2, rc TR3.out.1 3, rc TR3.out.1 4, rc TR3.out.2.1 0, rc TR3.out.2.1 1, rc TR3.out.2.1 2, rc TR3.out.2.1 3, rc TR3.out.2.1 4⟩
    clear hK K
    (try simp only [Act.put, pk0, pk1, pk2])
    refine wpAnyH_ready (rs := [3, 7]) (by kernel_rfl) (by simp) ?_
    refine AllReadyH.cons (o := ?_) ?hov5_ ?hstv5_ ?mov5_
    case hov5_ => (simp only [lk0, lk1, lk2]; rfl)
    case hstv5_ =>
      intro K hK
      go_simp
      go_at_call 62; refine (add_any 2 Ix FV Sx qx mx dx 2 0 G _ _ _ _ _ hix (by decide) (show opV 0 2 Ix FV 2 0 G = (2, 0, Flo.cop .add FV G, 0) from opV_flo rfl rfl)).mono ?_; rintro e w6 ⟨rfl, hbw6⟩
      have TR4 := Lib.hid (And.intro (row_step TR3.out.1 hbw6) (And.intro (row_step TR3.out.2.1 hbw6) (And.intro (row_step TR3.out.2.2.1 hbw6) (bel_step TR3.out.2.2.2 hbw6))))
      clear TR3
      clear hbw6
      go_wp2_with fail
      refine hK.out _ _ ?hsv5_ (fun hH => ?_)
      case hsv5_ => exact ⟨rc TR4.out.1 0, rc TR4.out.1 1, rc TR4.out.1 2, rc TR4.out.1 3, rc TR4.out.1 4, rc TR4.out.2.1 0, rc TR4.out.2.1 1, rc TR4.out.2.1 2, rc TR4.out.2.1 3, rc TR4.out.2.1 4⟩
      clear hK K
      (try simp only [Act.put, pk0, pk1, pk2])
      refine zt [4, 5, 6] ?_
      iterate 3 (refine zt1 (fun _ _ d _ _ h => by cases d <;> exact h) (by simp only [lk0, lk1, lk2]; rfl) (by kernel_rfl) (by assumption) (by rfl) (fun w h => by (try dsimp only at h); go_simp; (try with_reducible rfl)) ?_; (try simp only [Act.put, pk0, pk1, pk2]))
      refine zt0 ?_
      refine zr1 7 (by kernel_rfl) (by simp only [lk0, lk1, lk2]; rfl) (fun K hK => ?_)
      go_simp
      have hlt11 : w.heap.size < w6.heap.size := row_lt TR4.out.1
      have hlt12 : w.heap.size + 1 < w6.heap.size := row_lt TR4.out.2.1
      have hlt13 : w.heap.size + 1 + 1 < w6.heap.size := row_lt TR4.out.2.2.1
      have hlt14 : w.heap.size ≤ w6.heap.size := TR4.out.2.2.2.size
      have TR5 := Lib.hid (show (fun z0 : World => ZL z0 w.heap.size (some ⟨g, o, none⟩) 2 c ∧ ZF z0 (w.heap.size + 1) G ∧ Zz z0 (w.heap.size + 1 + 1) ∧ Zz z0 w6.heap.size ∧ Below w.heap.size w z0) (w6.alloc (.cells #[.int .i64 0, .int .i64 0, .float .f64 0, .string ⟨#[]⟩, .slice none 0 0] 27)) from ⟨row_alloc_step TR4.out.1 _, row_alloc_step TR4.out.2.1 _, row_alloc_step TR4.out.2.2.1 _, (ra (by simp only [World.size_alloc, World.size_drew])), bel_step TR4.out.2.2.2 (bel_alloc br _)⟩)
      go_wp2_with fail
      refine hK.out _ _ ?hsv10_ (fun hH => ?_)
      case hsv10_ => exact ⟨rc TR5.out.1 0, rc TR5.out.1 1, rc TR5.out.1 2, rc TR5.out.1 3, rc TR5.out.1 4, rc TR5.out.2.1 0, rc TR5.out.2.1 1, rc TR5.out.2.1 2, rc TR5.out.2.1 3, rc TR5.out.2.1 4⟩
      clear hK K
      (try simp only [Act.put, pk0, pk1, pk2])
      refine zr1 8 (by kernel_rfl) (by simp only [lk0, lk1, lk2]; rfl) (fun K hK => ?_)
      obtain ⟨b30, b31, b32, b33, b34, b3f, b3l⟩ := r7 TR5.out.2.2.2.1; go_simp
      have TR6 := Lib.hid (show (fun z0 : World => ZL z0 w.heap.size (some ⟨g, o, none⟩) 2 c ∧ ZF z0 (w.heap.size + 1) G ∧ Zz z0 (w.heap.size + 1 + 1) ∧ ZF z0 w6.heap.size (Flo.cop .add FV G) ∧ Below w.heap.size w z0) (w6.alloc (.cells #[.int .i64 2, .int .i64 0, .float .f64 (Flo.cop .add FV G), .string ⟨#[]⟩, .slice none 0 0] 27)) from ⟨row_alloc_step TR4.out.1 _, row_alloc_step TR4.out.2.1 _, row_alloc_step TR4.out.2.2.1 _, (ra (by simp only [World.size_alloc, World.size_drew])), bel_step TR4.out.2.2.2 (bel_alloc br _)⟩)
      clear b30 b31 b32 b33 b34 b3f b3l
      go_wp2_with fail
      refine hK.out _ _ ?hsv15_ (fun hH => ?_)
      case hsv15_ => exact ⟨rc TR6.out.1 0, rc TR6.out.1 1, rc TR6.out.1 2, rc TR6.out.1 3, rc TR6.out.1 4, rc TR6.out.2.1 0, rc TR6.out.2.1 1, rc TR6.out.2.1 2, rc TR6.out.2.1 3, rc TR6.out.2.1 4⟩
      clear hK K
      (try simp only [Act.put, pk0, pk1, pk2])
      refine zt [9] ?_
      refine zt1 (fun _ _ d _ _ h => by cases d <;> exact h) (by simp only [lk0, lk1, lk2]; rfl) (by kernel_rfl) (by assumption) (by rfl) (fun w h => by (try dsimp only at h); go_simp; (try with_reducible rfl)) ?_; (try simp only [Act.put, pk0, pk1, pk2])
      refine zt0 ?_
      refine wpAnyH_done (by kernel_rfl) ?_ _
      revert TR6
      generalize (w6.alloc (.cells #[.int .i64 2, .int .i64 0, .float .f64 (Flo.cop .add FV G), .string ⟨#[]⟩, .slice none 0 0] 27)) = Wf
      intro TR6
      obtain ⟨c3_0, c3_1, c3_2, c3_3, c3_4, c3f, c3l⟩ := r7 TR6.out.2.2.2.1
      go_wp2_with fail
      go_at_call 65; refine (finite_is HS.out (Flo.cop_lt _ _ _) 0 _ _ _ _ _).mono ?_; rintro e w17 ⟨rfl, hbw17⟩
      have TR7 := Lib.hid (And.intro (row_step TR6.out.1 hbw17) (And.intro (row_step TR6.out.2.1 hbw17) (And.intro (row_step TR6.out.2.2.1 hbw17) (And.intro (row_step TR6.out.2.2.2.1 hbw17) (bel_step TR6.out.2.2.2.2 hbw17)))))
      clear TR6
      clear hbw17
      clear c3_0 c3_1 c3_2 c3_3 c3_4 c3f c3l
      obtain ⟨c3_0, c3_1, c3_2, c3_3, c3_4, c3f, c3l⟩ := r7 TR7.out.2.2.2.1
      obtain ⟨e2_0, e2_1, e2_2, e2_3, e2_4, e2f, e2l⟩ := r7 TR7.out.2.2.1
      go_wp2
      refine bodyPost_ret (v := .tuple #[.agg #[.int .i64 2, .int .i64 0, .float .f64 (Flo.cop .add FV G), .string ⟨#[]⟩, .slice none 0 0], .int .i64 0]) (by simp [results, Try.results59, go_sem, World.cell?_setCell_same, World.cell?_setCell_other, e2_0, e2_1, e2_2, e2_3, e2_4]) rfl ⟨rfl, ?_⟩
      exact set5_below (g := w.heap.size + 1 + 1) (o := 0) TR7.out.2.2.2.2 (by omega) _ _ _ _ _
    case mov5_ =>
      refine AllReadyH.cons (o := ?_) ?hov18_ ?hstv18_ AllReadyH.nil
      case hov18_ => (simp only [lk0, lk1, lk2]; rfl)
      intro K hK
      go_simp
      have hlt19 : w.heap.size < w4.heap.size := row_lt TR3.out.1
      have hlt20 : w.heap.size + 1 < w4.heap.size := row_lt TR3.out.2.1
      have hlt21 : w.heap.size + 1 + 1 < w4.heap.size := row_lt TR3.out.2.2.1
      have hlt22 : w.heap.size ≤ w4.heap.size := TR3.out.2.2.2.size
      have TR4 := Lib.hid (show (fun z0 : World => ZL z0 w.heap.size (some ⟨g, o, none⟩) 2 c ∧ ZF z0 (w.heap.size + 1) G ∧ Zz z0 (w.heap.size + 1 + 1) ∧ Zz z0 w4.heap.size ∧ Below w.heap.size w z0) (w4.alloc (.cells #[.int .i64 0, .int .i64 0, .float .f64 0, .string ⟨#[]⟩, .slice none 0 0] 27)) from ⟨row_alloc_step TR3.out.1 _, row_alloc_step TR3.out.2.1 _, row_alloc_step TR3.out.2.2.1 _, (ra (by simp only [World.size_alloc, World.size_drew])), bel_step TR3.out.2.2.2 (bel_alloc br _)⟩)
      go_wp2_with fail
      refine hK.out _ _ ?hsv18_ (fun hH => ?_)
      case hsv18_ => exact ⟨rc TR4.out.1 0, rc TR4.out.1 1, rc TR4.out.1 2, rc TR4.out.1 3, rc TR4.out.1 4, rc TR4.out.2.1 0, rc TR4.out.2.1 1, rc TR4.out.2.1 2, rc TR4.out.2.1 3, rc TR4.out.2.1 4⟩
      clear hK K
      (try simp only [Act.put, pk0, pk1, pk2])
      refine zr1 3 (by kernel_rfl) (by simp only [lk0, lk1, lk2]; rfl) (fun K hK => ?_)
      go_simp
      go_at_call 62; refine (add_any 2 Ix FV Sx qx mx dx 2 0 G _ _ _ _ _ hix (by decide) (show opV 0 2 Ix FV 2 0 G = (2, 0, Flo.cop .add FV G, 0) from opV_flo rfl rfl)).mono ?_; rintro e w24 ⟨rfl, hbw24⟩
      have TR5 := Lib.hid (And.intro (row_step TR4.out.1 hbw24) (And.intro (row_step TR4.out.2.1 hbw24) (And.intro (row_step TR4.out.2.2.1 hbw24) (And.intro (row_step TR4.out.2.2.2.1 hbw24) (bel_step TR4.out.2.2.2.2 hbw24)))))
      clear TR4
      clear hbw24
      go_wp2_with fail
      refine hK.out _ _ ?hsv23_ (fun hH => ?_)
      case hsv23_ => exact ⟨rc TR5.out.1 0, rc TR5.out.1 1, rc TR5.out.1 2, rc TR5.out.1 3, rc TR5.out.1 4, rc TR5.out.2.1 0, rc TR5.out.2.1 1, rc TR5.out.2.1 2, rc TR5.out.2.1 3, rc TR5.out.2.1 4⟩
      clear hK K
      (try simp only [Act.put, pk0, pk1, pk2])
      refine zt [4, 5, 6] ?_
      iterate 3 (refine zt1 (fun _ _ d _ _ h => by cases d <;> exact h) (by simp only [lk0, lk1, lk2]; rfl) (by kernel_rfl) (by assumption) (by rfl) (fun w h => by (try dsimp only at h); go_simp; (try with_reducible rfl)) ?_; (try simp only [Act.put, pk0, pk1, pk2]))
      refine zt0 ?_
      refine zr1 8 (by kernel_rfl) (by simp only [lk0, lk1, lk2]; rfl) (fun K hK => ?_)
      obtain ⟨b30, b31, b32, b33, b34, b3f, b3l⟩ := r7 TR5.out.2.2.2.1; go_simp
      have TR6 := Lib.hid (show (fun z0 : World => ZL z0 w.heap.size (some ⟨g, o, none⟩) 2 c ∧ ZF z0 (w.heap.size + 1) G ∧ Zz z0 (w.heap.size + 1 + 1) ∧ ZF z0 w4.heap.size (Flo.cop .add FV G) ∧ Below w.heap.size w z0) (((((w24.setCell ⟨w4.heap.size, 0, none⟩ (.int .i64 2)).setCell ⟨w4.heap.size, 1, none⟩ (.int .i64 0)).setCell ⟨w4.heap.size, 2, none⟩ (.float .f64 (Flo.cop .add FV G))).setCell ⟨w4.heap.size, 3, none⟩ (.string ⟨#[]⟩)).setCell ⟨w4.heap.size, 4, none⟩ (.slice none 0 0)) from ⟨s5o TR5.out.1 (by omega), s5o TR5.out.2.1 (by omega), s5o TR5.out.2.2.1 (by omega), s5r TR5.out.2.2.2.1, s5b TR5.out.2.2.2.2 (by omega)⟩)
      clear TR5
      clear b30 b31 b32 b33 b34 b3f b3l
      go_wp2_with fail
      refine hK.out _ _ ?hsv28_ (fun hH => ?_)
      case hsv28_ => exact ⟨rc TR6.out.1 0, rc TR6.out.1 1, rc TR6.out.1 2, rc TR6.out.1 3, rc TR6.out.1 4, rc TR6.out.2.1 0, rc TR6.out.2.1 1, rc TR6.out.2.1 2, rc TR6.out.2.1 3, rc TR6.out.2.1 4⟩
      clear hK K
      (try simp only [Act.put, pk0, pk1, pk2])
      refine zt [9] ?_
      refine zt1 (fun _ _ d _ _ h => by cases d <;> exact h) (by simp only [lk0, lk1, lk2]; rfl) (by kernel_rfl) (by assumption) (by rfl) (fun w h => by (try dsimp only at h); go_simp; (try with_reducible rfl)) ?_; (try simp only [Act.put, pk0, pk1, pk2])
      refine zt0 ?_
      refine wpAnyH_done (by kernel_rfl) ?_ _
      revert TR6
      generalize (((((w24.setCell ⟨w4.heap.size, 0, none⟩ (.int .i64 2)).setCell ⟨w4.heap.size, 1, none⟩ (.int .i64 0)).setCell ⟨w4.heap.size, 2, none⟩ (.float .f64 (Flo.cop .add FV G))).setCell ⟨w4.heap.size, 3, none⟩ (.string ⟨#[]⟩)).setCell ⟨w4.heap.size, 4, none⟩ (.slice none 0 0)) = Wf
      intro TR6
      obtain ⟨c3_0, c3_1, c3_2, c3_3, c3_4, c3f, c3l⟩ := r7 TR6.out.2.2.2.1
      go_wp2_with fail
      go_at_call 65; refine (finite_is HS.out (Flo.cop_lt _ _ _) 0 _ _ _ _ _).mono ?_; rintro e w30 ⟨rfl, hbw30⟩
      have TR7 := Lib.hid (And.intro (row_step TR6.out.1 hbw30) (And.intro (row_step TR6.out.2.1 hbw30) (And.intro (row_step TR6.out.2.2.1 hbw30) (And.intro (row_step TR6.out.2.2.2.1 hbw30) (bel_step TR6.out.2.2.2.2 hbw30)))))
      clear TR6
      clear hbw30
      clear c3_0 c3_1 c3_2 c3_3 c3_4 c3f c3l
      obtain ⟨c3_0, c3_1, c3_2, c3_3, c3_4, c3f, c3l⟩ := r7 TR7.out.2.2.2.1
      obtain ⟨e2_0, e2_1, e2_2, e2_3, e2_4, e2f, e2l⟩ := r7 TR7.out.2.2.1
      go_wp2
      refine bodyPost_ret (v := .tuple #[.agg #[.int .i64 2, .int .i64 0, .float .f64 (Flo.cop .add FV G), .string ⟨#[]⟩, .slice none 0 0], .int .i64 0]) (by simp [results, Try.results59, go_sem, World.cell?_setCell_same, World.cell?_setCell_other, e2_0, e2_1, e2_2, e2_3, e2_4]) rfl ⟨rfl, ?_⟩
      exact set5_below (g := w.heap.size + 1 + 1) (o := 0) TR7.out.2.2.2.2 (by omega) _ _ _ _ _
  case mov3_ =>
    refine AllReadyH.cons (o := ?_) ?hov31_ ?hstv31_ AllReadyH.nil
    case hov31_ => (simp only [lk0, lk1, lk2]; rfl)
    intro K hK
    go_simp
    have TR3 := Lib.hid (show (fun z0 : World => ZL z0 w.heap.size (some ⟨g, o, none⟩) 2 c ∧ ZF z0 (w.heap.size + 1) G ∧ Zz z0 (w.heap.size + 1 + 1) ∧ Zz z0 (w.heap.size + 1 + 1 + 1) ∧ Below w.heap.size w z0) ((((w.alloc (.cells #[.int .i64 4, .int .i64 0, .float .f64 0, .string ⟨#[]⟩, .slice (some ⟨g, o, none⟩) 2 c] 27)).alloc (.cells #[.int .i64 2, .int .i64 0, .float .f64 G, .string ⟨#[]⟩, .slice none 0 0] 27)).alloc (.cells #[.int .i64 0, .int .i64 0, .float .f64 0, .string ⟨#[]⟩, .slice none 0 0] 27)).drew.alloc (.cells #[.int .i64 0, .int .i64 0, .float .f64 0, .string ⟨#[]⟩, .slice none 0 0] 27)) from ⟨row_alloc_step TR2.out.1 _, row_alloc_step TR2.out.2.1 _, row_alloc_step TR2.out.2.2.1 _, (ra (by simp only [World.size_alloc, World.size_drew])), bel_step TR2.out.2.2.2 (bel_alloc br _)⟩)
    go_wp2_with fail
    refine hK.out _ _ ?hsv31_ (fun hH => ?_)
    case hsv31_ => exact ⟨rc TR3.out.1 0, rc TR3.out.1 1, rc TR3.out.1 2, rc TR3.out.1 3, rc TR3.out.1 4, rc TR3.out.2.1 0, rc TR3.out.2.1 1, rc TR3.out.2.1 2, rc TR3.out.2.1 3, rc TR3.out.2.1 4⟩
    clear hK K
    (try simp only [Act.put, pk0, pk1, pk2])
    refine zr1 1 (by kernel_rfl) (by simp only [lk0, lk1, lk2]; rfl) (fun K hK => ?_)
    go_simp
    go_at_call 57; refine (hasOf_any n _ s V _ (rep_keep TR3.out.2.2.2.2 _ _ _ HP.out)).mono ?_; rintro e w33 ⟨Kx, Ix, Fx, Sx, qx, mx, dx, rfl, hbw33, hrx⟩
    have TR4 := Lib.hid (And.intro (row_step TR3.out.1 hbw33) (And.intro (row_step TR3.out.2.1 hbw33) (And.intro (row_step TR3.out.2.2.1 hbw33) (And.intro (row_step TR3.out.2.2.2.1 hbw33) (bel_step TR3.out.2.2.2.2 hbw33)))))
    clear TR3
    obtain ⟨rfl, rfl, hix⟩ := hold_shape HV.out hrx
    clear hrx
    clear hbw33
    go_wp2_with fail
    refine hK.out _ _ ?hsv32_ (fun hH => ?_)
    case hsv32_ => exact ⟨rc TR4.out.1 0, rc TR4.out.1 1, rc TR4.out.1 2, rc TR4.out.1 3, rc TR4.out.1 4, rc TR4.out.2.1 0, rc TR4.out.2.1 1, rc TR4.out.2.1 2, rc TR4.out.2.1 3, rc TR4.out.2.1 4⟩
    clear hK K
    (try simp only [Act.put, pk0, pk1, pk2])
    refine zr1 3 (by kernel_rfl) (by simp only [lk0, lk1, lk2]; rfl) (fun K hK => ?_)
    go_simp
    go_at_call 62; refine (add_any 2 Ix FV Sx qx mx dx 2 0 G _ _ _ _ _ hix (by decide) (show opV 0 2 Ix FV 2 0 G = (2, 0, Flo.cop .add FV G, 0) from opV_flo rfl rfl)).mono ?_; rintro e w35 ⟨rfl, hbw35⟩
    have TR5 := Lib.hid (And.intro (row_step TR4.out.1 hbw35) (And.intro (row_step TR4.out.2.1 hbw35) (And.intro (row_step TR4.out.2.2.1 hbw35) (And.intro (row_step TR4.out.2.2.2.1 hbw35) (bel_step TR4.out.2.2.2.2 hbw35)))))
    clear TR4
    clear hbw35
    go_wp2_with fail
    refine hK.out _ _ ?hsv34_ (fun hH => ?_)
    case hsv34_ => exact ⟨rc TR5.out.1 0, rc TR5.out.1 1, rc TR5.out.1 2, rc TR5.out.1 3, rc TR5.out.1 4, rc TR5.out.2.1 0, rc TR5.out.2.1 1, rc TR5.out.2.1 2, rc TR5.out.2.1 3, rc TR5.out.2.1 4⟩
    clear hK K
    (try simp only [Act.put, pk0, pk1, pk2])
    refine zt [4, 5, 6] ?_
    iterate 3 (refine zt1 (fun _ _ d _ _ h => by cases d <;> exact h) (by simp only [lk0, lk1, lk2]; rfl) (by kernel_rfl) (by assumption) (by rfl) (fun w h => by (try dsimp only at h); go_simp; (try with_reducible rfl)) ?_; (try simp only [Act.put, pk0, pk1, pk2]))
    refine zt0 ?_
    refine zr1 8 (by kernel_rfl) (by simp only [lk0, lk1, lk2]; rfl) (fun K hK => ?_)
    obtain ⟨b30, b31, b32, b33, b34, b3f, b3l⟩ := r7 TR5.out.2.2.2.1; go_simp
    have TR6 := Lib.hid (show (fun z0 : World => ZL z0 w.heap.size (some ⟨g, o, none⟩) 2 c ∧ ZF z0 (w.heap.size + 1) G ∧ Zz z0 (w.heap.size + 1 + 1) ∧ ZF z0 (w.heap.size + 1 + 1 + 1) (Flo.cop .add FV G) ∧ Below w.heap.size w z0) (((((w35.setCell ⟨w.heap.size + 1 + 1 + 1, 0, none⟩ (.int .i64 2)).setCell ⟨w.heap.size + 1 + 1 + 1, 1, none⟩ (.int .i64 0)).setCell ⟨w.heap.size + 1 + 1 + 1, 2, none⟩ (.float .f64 (Flo.cop .add FV G))).setCell ⟨w.heap.size + 1 + 1 + 1, 3, none⟩ (.string ⟨#[]⟩)).setCell ⟨w.heap.size + 1 + 1 + 1, 4, none⟩ (.slice none 0 0)) from ⟨s5o TR5.out.1 (by omega), s5o TR5.out.2.1 (by omega), s5o TR5.out.2.2.1 (by omega), s5r TR5.out.2.2.2.1, s5b TR5.out.2.2.2.2 (by omega)⟩)
    clear TR5
    clear b30 b31 b32 b33 b34 b3f b3l
    go_wp2_with fail
    refine hK.out _ _ ?hsv39_ (fun hH => ?_)
    case hsv39_ => exact ⟨rc TR6.out.1 0, rc TR6.out.1 1, rc TR6.out.1 2, rc TR6.out.1 3, rc TR6.out.1 4, rc TR6.out.2.1 0, rc TR6.out.2.1 1, rc TR6.out.2.1 2, rc TR6.out.2.1 3, rc TR6.out.2.1 4⟩
    clear hK K
    (try simp only [Act.put, pk0, pk1, pk2])
    refine zt [9] ?_
    refine zt1 (fun _ _ d _ _ h => by cases d <;> exact h) (by simp only [lk0, lk1, lk2]; rfl) (by kernel_rfl) (by assumption) (by rfl) (fun w h => by (try dsimp only at h); go_simp; (try with_reducible rfl)) ?_; (try simp only [Act.put, pk0, pk1, pk2])
    refine zt0 ?_
    refine wpAnyH_done (by kernel_rfl) ?_ _
    revert TR6
    generalize (((((w35.setCell ⟨w.heap.size + 1 + 1 + 1, 0, none⟩ (.int .i64 2)).setCell ⟨w.heap.size + 1 + 1 + 1, 1, none⟩ (.int .i64 0)).setCell ⟨w.heap.size + 1 + 1 + 1, 2, none⟩ (.float .f64 (Flo.cop .add FV G))).setCell ⟨w.heap.size + 1 + 1 + 1, 3, none⟩ (.string ⟨#[]⟩)).setCell ⟨w.heap.size + 1 + 1 + 1, 4, none⟩ (.slice none 0 0)) = Wf
    intro TR6
    obtain ⟨c3_0, c3_1, c3_2, c3_3, c3_4, c3f, c3l⟩ := r7 TR6.out.2.2.2.1
    go_wp2_with fail
    go_at_call 65; refine (finite_is HS.out (Flo.cop_lt _ _ _) 0 _ _ _ _ _).mono ?_; rintro e w41 ⟨rfl, hbw41⟩
    have TR7 := Lib.hid (And.intro (row_step TR6.out.1 hbw41) (And.intro (row_step TR6.out.2.1 hbw41) (And.intro (row_step TR6.out.2.2.1 hbw41) (And.intro (row_step TR6.out.2.2.2.1 hbw41) (bel_step TR6.out.2.2.2.2 hbw41)))))
    clear TR6
    clear hbw41
    clear c3_0 c3_1 c3_2 c3_3 c3_4 c3f c3l
    obtain ⟨c3_0, c3_1, c3_2, c3_3, c3_4, c3f, c3l⟩ := r7 TR7.out.2.2.2.1
    obtain ⟨e2_0, e2_1, e2_2, e2_3, e2_4, e2f, e2l⟩ := r7 TR7.out.2.2.1
    go_wp2
    refine bodyPost_ret (v := .tuple #[.agg #[.int .i64 2, .int .i64 0, .float .f64 (Flo.cop .add FV G), .string ⟨#[]⟩, .slice none 0 0], .int .i64 0]) (by simp [results, Try.results59, go_sem, World.cell?_setCell_same, World.cell?_setCell_other, e2_0, e2_1, e2_2, e2_3, e2_4]) rfl ⟨rfl, ?_⟩
    exact set5_below (g := w.heap.size + 1 + 1) (o := 0) TR7.out.2.2.2.2 (by omega) _ _ _ _ _
set_option maxRecDepth 100000 in
set_option maxHeartbeats 4000000 in
theorem more_no (n : Nat) (g o c : Nat) (s : ByteArray) (V : VT (n + 1)) (G : Nat) (w : World) (h : Rep w (n + 2) (.agg #[.int .i64 4, .int .i64 0, .float .f64 0, .string ⟨#[]⟩, .slice (some ⟨g, o, none⟩) 2 c]) (pairT n s V)) (FV : Nat) (hv : V.1 = 2 ∧ V.2.2.1 = FV) (hs : finV 2 (Flo.cop .add FV G) = false) :
    Calls Try.prog 59 #[.agg #[.int .i64 4, .int .i64 0, .float .f64 0, .string ⟨#[]⟩, .slice (some ⟨g, o, none⟩) 2 c], .agg #[.int .i64 2, .int .i64 0, .float .f64 G, .string ⟨#[]⟩, .slice none 0 0]] w fun e w' => e = .returned (.tuple #[.agg #[.int .i64 0, .int .i64 0, .float .f64 0, .string ⟨#[]⟩, .slice none 0 0], .int .i64 35]) ∧ Below w.heap.size w w' := by
  have TR1 := Lib.hid (show (fun z0 : World => ZL z0 w.heap.size (some ⟨g, o, none⟩) 2 c ∧ ZF z0 (w.heap.size + 1) G ∧ Zz z0 (w.heap.size + 1 + 1) ∧ Below w.heap.size w z0) (((w.alloc (.cells #[.int .i64 4, .int .i64 0, .float .f64 0, .string ⟨#[]⟩, .slice (some ⟨g, o, none⟩) 2 c] 27)).alloc (.cells #[.int .i64 2, .int .i64 0, .float .f64 G, .string ⟨#[]⟩, .slice none 0 0] 27)).alloc (.cells #[.int .i64 0, .int .i64 0, .float .f64 0, .string ⟨#[]⟩, .slice none 0 0] 27)) from ⟨row_alloc_step (row_alloc_step (row_alloc w #[.int .i64 4, .int .i64 0, .float .f64 0, .string ⟨#[]⟩, .slice (some ⟨g, o, none⟩) 2 c] 27) _) _, (row_alloc_step (ra (by simp only [World.size_alloc, World.size_drew])) _), (ra (by simp only [World.size_alloc, World.size_drew])), bel_alloc (bel_alloc (bel_alloc (Below.refl w.heap.size w) _) _) _⟩)
  have HP := Lib.hid h
  have HS := Lib.hid hs
  have HV := Lib.hid hv
  clear h hs hv
  go_enter Try.func59, Try.ntmps59
  go_upto_region 1 with fail
  have TR2 := Lib.hid (And.intro (row_step TR1.out.1 (Below.drew br)) (And.intro (row_step TR1.out.2.1 (Below.drew br)) (And.intro (row_step TR1.out.2.2.1 (Below.drew br)) (bel_step TR1.out.2.2.2 (Below.drew br)))))
  clear TR1
  refine wp_region_held_drew (S := (fun z => z.cell? ⟨w.heap.size, 0, none⟩ = some (.int .i64 4) ∧ z.cell? ⟨w.heap.size, 1, none⟩ = some (.int .i64 0) ∧ z.cell? ⟨w.heap.size, 2, none⟩ = some (.float .f64 0) ∧ z.cell? ⟨w.heap.size, 3, none⟩ = some (.string ⟨#[]⟩) ∧ z.cell? ⟨w.heap.size, 4, none⟩ = some (.slice (some ⟨g, o, none⟩) 2 c) ∧ z.cell? ⟨w.heap.size + 1, 0, none⟩ = some (.int .i64 2) ∧ z.cell? ⟨w.heap.size + 1, 1, none⟩ = some (.int .i64 0) ∧ z.cell? ⟨w.heap.size + 1, 2, none⟩ = some (.float .f64 G) ∧ z.cell? ⟨w.heap.size + 1, 3, none⟩ = some (.string ⟨#[]⟩) ∧ z.cell? ⟨w.heap.size + 1, 4, none⟩ = some (.slice none 0 0))) (by kernel_rfl) ?_ (fun hH => ?_)
  · exact ⟨rc TR2.out.1 0, rc TR2.out.1 1, rc TR2.out.1 2, rc TR2.out.1 3, rc TR2.out.1 4, rc TR2.out.2.1 0, rc TR2.out.2.1 1, rc TR2.out.2.1 2, rc TR2.out.2.1 3, rc TR2.out.2.1 4⟩
  refine zt [0, 2] ?_
  iterate 2 (refine zt1 (fun _ _ d _ _ h => by cases d <;> exact h) (by simp only [lk0, lk1, lk2]; rfl) (by kernel_rfl) (by assumption) (by rfl) (fun w h => by (try dsimp only at h); go_simp; (try with_reducible rfl)) ?_; (try simp only [Act.put, pk0, pk1, pk2]))
  refine zt0 ?_
  refine wpAnyH_ready (rs := [1, 7]) (by kernel_rfl) (by simp) ?_
  refine AllReadyH.cons (o := ?_) ?hov44_ ?hstv44_ ?mov44_
  case hov44_ => (simp only [lk0, lk1, lk2]; rfl)
  case hstv44_ =>
    intro K hK
    go_simp
    go_at_call 57; refine (hasOf_any n _ s V _ (rep_keep TR2.out.2.2.2 _ _ _ HP.out)).mono ?_; rintro e w45 ⟨Kx, Ix, Fx, Sx, qx, mx, dx, rfl, hbw45, hrx⟩
    have TR3 := Lib.hid (And.intro (row_step TR2.out.1 hbw45) (And.intro (row_step TR2.out.2.1 hbw45) (And.intro (row_step TR2.out.2.2.1 hbw45) (bel_step TR2.out.2.2.2 hbw45))))
    clear TR2
    obtain ⟨rfl, rfl, hix⟩ := hold_shape HV.out hrx
    clear hrx
    clear hbw45
    go_wp2_with fail
    refine hK.out _ _ ?hsv44_ (fun hH => ?_)
    case hsv44_ => exact ⟨rc TR3.out.1 0, rc TR3.out.1 1, rc TR3.out.1 2, rc TR3.out.1 3, rc TR3.out.1 4, rc TR3.out.2.1 0, rc TR3.out.2.1 1, rc TR3.out.2.1 2, rc TR3.out.2.1 3, rc TR3.out.2.1 4⟩
    clear hK K
    (try simp only [Act.put, pk0, pk1, pk2])
    refine wpAnyH_ready (rs := [3, 7]) (by kernel_rfl) (by simp) ?_
    refine AllReadyH.cons (o := ?_) ?hov46_ ?hstv46_ ?mov46_
    case hov46_ => (simp only [lk0, lk1, lk2]; rfl)
    case hstv46_ =>
      intro K hK
      go_simp
      go_at_call 62; refine (add_any 2 Ix FV Sx qx mx dx 2 0 G _ _ _ _ _ hix (by decide) (show opV 0 2 Ix FV 2 0 G = (2, 0, Flo.cop .add FV G, 0) from opV_flo rfl rfl)).mono ?_; rintro e w47 ⟨rfl, hbw47⟩
      have TR4 := Lib.hid (And.intro (row_step TR3.out.1 hbw47) (And.intro (row_step TR3.out.2.1 hbw47) (And.intro (row_step TR3.out.2.2.1 hbw47) (bel_step TR3.out.2.2.2 hbw47))))
      clear TR3
      clear hbw47
      go_wp2_with fail
      refine hK.out _ _ ?hsv46_ (fun hH => ?_)
      case hsv46_ => exact ⟨rc TR4.out.1 0, rc TR4.out.1 1, rc TR4.out.1 2, rc TR4.out.1 3, rc TR4.out.1 4, rc TR4.out.2.1 0, rc TR4.out.2.1 1, rc TR4.out.2.1 2, rc TR4.out.2.1 3, rc TR4.out.2.1 4⟩
      clear hK K
      (try simp only [Act.put, pk0, pk1, pk2])
      refine zt [4, 5, 6] ?_
      iterate 3 (refine zt1 (fun _ _ d _ _ h => by cases d <;> exact h) (by simp only [lk0, lk1, lk2]; rfl) (by kernel_rfl) (by assumption) (by rfl) (fun w h => by (try dsimp only at h); go_simp; (try with_reducible rfl)) ?_; (try simp only [Act.put, pk0, pk1, pk2]))
      refine zt0 ?_
      refine zr1 7 (by kernel_rfl) (by simp only [lk0, lk1, lk2]; rfl) (fun K hK => ?_)
      go_simp
      have hlt52 : w.heap.size < w47.heap.size := row_lt TR4.out.1
      have hlt53 : w.heap.size + 1 < w47.heap.size := row_lt TR4.out.2.1
      have hlt54 : w.heap.size + 1 + 1 < w47.heap.size := row_lt TR4.out.2.2.1
      have hlt55 : w.heap.size ≤ w47.heap.size := TR4.out.2.2.2.size
      have TR5 := Lib.hid (show (fun z0 : World => ZL z0 w.heap.size (some ⟨g, o, none⟩) 2 c ∧ ZF z0 (w.heap.size + 1) G ∧ Zz z0 (w.heap.size + 1 + 1) ∧ Zz z0 w47.heap.size ∧ Below w.heap.size w z0) (w47.alloc (.cells #[.int .i64 0, .int .i64 0, .float .f64 0, .string ⟨#[]⟩, .slice none 0 0] 27)) from ⟨row_alloc_step TR4.out.1 _, row_alloc_step TR4.out.2.1 _, row_alloc_step TR4.out.2.2.1 _, (ra (by simp only [World.size_alloc, World.size_drew])), bel_step TR4.out.2.2.2 (bel_alloc br _)⟩)
      go_wp2_with fail
      refine hK.out _ _ ?hsv51_ (fun hH => ?_)
      case hsv51_ => exact ⟨rc TR5.out.1 0, rc TR5.out.1 1, rc TR5.out.1 2, rc TR5.out.1 3, rc TR5.out.1 4, rc TR5.out.2.1 0, rc TR5.out.2.1 1, rc TR5.out.2.1 2, rc TR5.out.2.1 3, rc TR5.out.2.1 4⟩
      clear hK K
      (try simp only [Act.put, pk0, pk1, pk2])
      refine zr1 8 (by kernel_rfl) (by simp only [lk0, lk1, lk2]; rfl) (fun K hK => ?_)
      obtain ⟨b30, b31, b32, b33, b34, b3f, b3l⟩ := r7 TR5.out.2.2.2.1; go_simp
      have TR6 := Lib.hid (show (fun z0 : World => ZL z0 w.heap.size (some ⟨g, o, none⟩) 2 c ∧ ZF z0 (w.heap.size + 1) G ∧ Zz z0 (w.heap.size + 1 + 1) ∧ ZF z0 w47.heap.size (Flo.cop .add FV G) ∧ Below w.heap.size w z0) (w47.alloc (.cells #[.int .i64 2, .int .i64 0, .float .f64 (Flo.cop .add FV G), .string ⟨#[]⟩, .slice none 0 0] 27)) from ⟨row_alloc_step TR4.out.1 _, row_alloc_step TR4.out.2.1 _, row_alloc_step TR4.out.2.2.1 _, (ra (by simp only [World.size_alloc, World.size_drew])), bel_step TR4.out.2.2.2 (bel_alloc br _)⟩)
      clear b30 b31 b32 b33 b34 b3f b3l
      go_wp2_with fail
      refine hK.out _ _ ?hsv56_ (fun hH => ?_)
      case hsv56_ => exact ⟨rc TR6.out.1 0, rc TR6.out.1 1, rc TR6.out.1 2, rc TR6.out.1 3, rc TR6.out.1 4, rc TR6.out.2.1 0, rc TR6.out.2.1 1, rc TR6.out.2.1 2, rc TR6.out.2.1 3, rc TR6.out.2.1 4⟩
      clear hK K
      (try simp only [Act.put, pk0, pk1, pk2])
      refine zt [9] ?_
      refine zt1 (fun _ _ d _ _ h => by cases d <;> exact h) (by simp only [lk0, lk1, lk2]; rfl) (by kernel_rfl) (by assumption) (by rfl) (fun w h => by (try dsimp only at h); go_simp; (try with_reducible rfl)) ?_; (try simp only [Act.put, pk0, pk1, pk2])
      refine zt0 ?_
      refine wpAnyH_done (by kernel_rfl) ?_ _
      revert TR6
      generalize (w47.alloc (.cells #[.int .i64 2, .int .i64 0, .float .f64 (Flo.cop .add FV G), .string ⟨#[]⟩, .slice none 0 0] 27)) = Wf
      intro TR6
      obtain ⟨c3_0, c3_1, c3_2, c3_3, c3_4, c3f, c3l⟩ := r7 TR6.out.2.2.2.1
      go_wp2_with fail
      go_at_call 65; refine (finite_is HS.out (Flo.cop_lt _ _ _) 0 _ _ _ _ _).mono ?_; rintro e w58 ⟨rfl, hbw58⟩
      have TR7 := Lib.hid (And.intro (row_step TR6.out.1 hbw58) (And.intro (row_step TR6.out.2.1 hbw58) (And.intro (row_step TR6.out.2.2.1 hbw58) (And.intro (row_step TR6.out.2.2.2.1 hbw58) (bel_step TR6.out.2.2.2.2 hbw58)))))
      clear TR6
      clear hbw58
      clear c3_0 c3_1 c3_2 c3_3 c3_4 c3f c3l
      obtain ⟨e2_0, e2_1, e2_2, e2_3, e2_4, e2f, e2l⟩ := r7 TR7.out.2.2.1
      go_wp2
      refine bodyPost_ret (v := .tuple #[.agg #[.int .i64 0, .int .i64 0, .float .f64 0, .string ⟨#[]⟩, .slice none 0 0], .int .i64 35]) (by simp [results, Try.results59, go_sem, World.cell?_setCell_same, World.cell?_setCell_other, e2_0, e2_1, e2_2, e2_3, e2_4]) rfl ⟨rfl, ?_⟩
      exact set5_below (g := w.heap.size + 1 + 1) (o := 0) TR7.out.2.2.2.2 (by omega) _ _ _ _ _
    case mov46_ =>
      refine AllReadyH.cons (o := ?_) ?hov59_ ?hstv59_ AllReadyH.nil
      case hov59_ => (simp only [lk0, lk1, lk2]; rfl)
      intro K hK
      go_simp
      have hlt60 : w.heap.size < w45.heap.size := row_lt TR3.out.1
      have hlt61 : w.heap.size + 1 < w45.heap.size := row_lt TR3.out.2.1
      have hlt62 : w.heap.size + 1 + 1 < w45.heap.size := row_lt TR3.out.2.2.1
      have hlt63 : w.heap.size ≤ w45.heap.size := TR3.out.2.2.2.size
      have TR4 := Lib.hid (show (fun z0 : World => ZL z0 w.heap.size (some ⟨g, o, none⟩) 2 c ∧ ZF z0 (w.heap.size + 1) G ∧ Zz z0 (w.heap.size + 1 + 1) ∧ Zz z0 w45.heap.size ∧ Below w.heap.size w z0) (w45.alloc (.cells #[.int .i64 0, .int .i64 0, .float .f64 0, .string ⟨#[]⟩, .slice none 0 0] 27)) from ⟨row_alloc_step TR3.out.1 _, row_alloc_step TR3.out.2.1 _, row_alloc_step TR3.out.2.2.1 _, (ra (by simp only [World.size_alloc, World.size_drew])), bel_step TR3.out.2.2.2 (bel_alloc br _)⟩)
      go_wp2_with fail
      refine hK.out _ _ ?hsv59_ (fun hH => ?_)
      case hsv59_ => exact ⟨rc TR4.out.1 0, rc TR4.out.1 1, rc TR4.out.1 2, rc TR4.out.1 3, rc TR4.out.1 4, rc TR4.out.2.1 0, rc TR4.out.2.1 1, rc TR4.out.2.1 2, rc TR4.out.2.1 3, rc TR4.out.2.1 4⟩
      clear hK K
      (try simp only [Act.put, pk0, pk1, pk2])
      refine zr1 3 (by kernel_rfl) (by simp only [lk0, lk1, lk2]; rfl) (fun K hK => ?_)
      go_simp
      go_at_call 62; refine (add_any 2 Ix FV Sx qx mx dx 2 0 G _ _ _ _ _ hix (by decide) (show opV 0 2 Ix FV 2 0 G = (2, 0, Flo.cop .add FV G, 0) from opV_flo rfl rfl)).mono ?_; rintro e w65 ⟨rfl, hbw65⟩
      have TR5 := Lib.hid (And.intro (row_step TR4.out.1 hbw65) (And.intro (row_step TR4.out.2.1 hbw65) (And.intro (row_step TR4.out.2.2.1 hbw65) (And.intro (row_step TR4.out.2.2.2.1 hbw65) (bel_step TR4.out.2.2.2.2 hbw65)))))
      clear TR4
      clear hbw65
      go_wp2_with fail
      refine hK.out _ _ ?hsv64_ (fun hH => ?_)
      case hsv64_ => exact ⟨rc TR5.out.1 0, rc TR5.out.1 1, rc TR5.out.1 2, rc TR5.out.1 3, rc TR5.out.1 4, rc TR5.out.2.1 0, rc TR5.out.2.1 1, rc TR5.out.2.1 2, rc TR5.out.2.1 3, rc TR5.out.2.1 4⟩
      clear hK K
      (try simp only [Act.put, pk0, pk1, pk2])
      refine zt [4, 5, 6] ?_
      iterate 3 (refine zt1 (fun _ _ d _ _ h => by cases d <;> exact h) (by simp only [lk0, lk1, lk2]; rfl) (by kernel_rfl) (by assumption) (by rfl) (fun w h => by (try dsimp only at h); go_simp; (try with_reducible rfl)) ?_; (try simp only [Act.put, pk0, pk1, pk2]))
      refine zt0 ?_
      refine zr1 8 (by kernel_rfl) (by simp only [lk0, lk1, lk2]; rfl) (fun K hK => ?_)
      obtain ⟨b30, b31, b32, b33, b34, b3f, b3l⟩ := r7 TR5.out.2.2.2.1; go_simp
      have TR6 := Lib.hid (show (fun z0 : World => ZL z0 w.heap.size (some ⟨g, o, none⟩) 2 c ∧ ZF z0 (w.heap.size + 1) G ∧ Zz z0 (w.heap.size + 1 + 1) ∧ ZF z0 w45.heap.size (Flo.cop .add FV G) ∧ Below w.heap.size w z0) (((((w65.setCell ⟨w45.heap.size, 0, none⟩ (.int .i64 2)).setCell ⟨w45.heap.size, 1, none⟩ (.int .i64 0)).setCell ⟨w45.heap.size, 2, none⟩ (.float .f64 (Flo.cop .add FV G))).setCell ⟨w45.heap.size, 3, none⟩ (.string ⟨#[]⟩)).setCell ⟨w45.heap.size, 4, none⟩ (.slice none 0 0)) from ⟨s5o TR5.out.1 (by omega), s5o TR5.out.2.1 (by omega), s5o TR5.out.2.2.1 (by omega), s5r TR5.out.2.2.2.1, s5b TR5.out.2.2.2.2 (by omega)⟩)
      clear TR5
      clear b30 b31 b32 b33 b34 b3f b3l
      go_wp2_with fail
      refine hK.out _ _ ?hsv69_ (fun hH => ?_)
      case hsv69_ => exact ⟨rc TR6.out.1 0, rc TR6.out.1 1, rc TR6.out.1 2, rc TR6.out.1 3, rc TR6.out.1 4, rc TR6.out.2.1 0, rc TR6.out.2.1 1, rc TR6.out.2.1 2, rc TR6.out.2.1 3, rc TR6.out.2.1 4⟩
      clear hK K
      (try simp only [Act.put, pk0, pk1, pk2])
      refine zt [9] ?_
      refine zt1 (fun _ _ d _ _ h => by cases d <;> exact h) (by simp only [lk0, lk1, lk2]; rfl) (by kernel_rfl) (by assumption) (by rfl) (fun w h => by (try dsimp only at h); go_simp; (try with_reducible rfl)) ?_; (try simp only [Act.put, pk0, pk1, pk2])
      refine zt0 ?_
      refine wpAnyH_done (by kernel_rfl) ?_ _
      revert TR6
      generalize (((((w65.setCell ⟨w45.heap.size, 0, none⟩ (.int .i64 2)).setCell ⟨w45.heap.size, 1, none⟩ (.int .i64 0)).setCell ⟨w45.heap.size, 2, none⟩ (.float .f64 (Flo.cop .add FV G))).setCell ⟨w45.heap.size, 3, none⟩ (.string ⟨#[]⟩)).setCell ⟨w45.heap.size, 4, none⟩ (.slice none 0 0)) = Wf
      intro TR6
      obtain ⟨c3_0, c3_1, c3_2, c3_3, c3_4, c3f, c3l⟩ := r7 TR6.out.2.2.2.1
      go_wp2_with fail
      go_at_call 65; refine (finite_is HS.out (Flo.cop_lt _ _ _) 0 _ _ _ _ _).mono ?_; rintro e w71 ⟨rfl, hbw71⟩
      have TR7 := Lib.hid (And.intro (row_step TR6.out.1 hbw71) (And.intro (row_step TR6.out.2.1 hbw71) (And.intro (row_step TR6.out.2.2.1 hbw71) (And.intro (row_step TR6.out.2.2.2.1 hbw71) (bel_step TR6.out.2.2.2.2 hbw71)))))
      clear TR6
      clear hbw71
      clear c3_0 c3_1 c3_2 c3_3 c3_4 c3f c3l
      obtain ⟨e2_0, e2_1, e2_2, e2_3, e2_4, e2f, e2l⟩ := r7 TR7.out.2.2.1
      go_wp2
      refine bodyPost_ret (v := .tuple #[.agg #[.int .i64 0, .int .i64 0, .float .f64 0, .string ⟨#[]⟩, .slice none 0 0], .int .i64 35]) (by simp [results, Try.results59, go_sem, World.cell?_setCell_same, World.cell?_setCell_other, e2_0, e2_1, e2_2, e2_3, e2_4]) rfl ⟨rfl, ?_⟩
      exact set5_below (g := w.heap.size + 1 + 1) (o := 0) TR7.out.2.2.2.2 (by omega) _ _ _ _ _
  case mov44_ =>
    refine AllReadyH.cons (o := ?_) ?hov72_ ?hstv72_ AllReadyH.nil
    case hov72_ => (simp only [lk0, lk1, lk2]; rfl)
    intro K hK
    go_simp
    have TR3 := Lib.hid (show (fun z0 : World => ZL z0 w.heap.size (some ⟨g, o, none⟩) 2 c ∧ ZF z0 (w.heap.size + 1) G ∧ Zz z0 (w.heap.size + 1 + 1) ∧ Zz z0 (w.heap.size + 1 + 1 + 1) ∧ Below w.heap.size w z0) ((((w.alloc (.cells #[.int .i64 4, .int .i64 0, .float .f64 0, .string ⟨#[]⟩, .slice (some ⟨g, o, none⟩) 2 c] 27)).alloc (.cells #[.int .i64 2, .int .i64 0, .float .f64 G, .string ⟨#[]⟩, .slice none 0 0] 27)).alloc (.cells #[.int .i64 0, .int .i64 0, .float .f64 0, .string ⟨#[]⟩, .slice none 0 0] 27)).drew.alloc (.cells #[.int .i64 0, .int .i64 0, .float .f64 0, .string ⟨#[]⟩, .slice none 0 0] 27)) from ⟨row_alloc_step TR2.out.1 _, row_alloc_step TR2.out.2.1 _, row_alloc_step TR2.out.2.2.1 _, (ra (by simp only [World.size_alloc, World.size_drew])), bel_step TR2.out.2.2.2 (bel_alloc br _)⟩)
    go_wp2_with fail
    refine hK.out _ _ ?hsv72_ (fun hH => ?_)
    case hsv72_ => exact ⟨rc TR3.out.1 0, rc TR3.out.1 1, rc TR3.out.1 2, rc TR3.out.1 3, rc TR3.out.1 4, rc TR3.out.2.1 0, rc TR3.out.2.1 1, rc TR3.out.2.1 2, rc TR3.out.2.1 3, rc TR3.out.2.1 4⟩
    clear hK K
    (try simp only [Act.put, pk0, pk1, pk2])
    refine zr1 1 (by kernel_rfl) (by simp only [lk0, lk1, lk2]; rfl) (fun K hK => ?_)
    go_simp
    go_at_call 57; refine (hasOf_any n _ s V _ (rep_keep TR3.out.2.2.2.2 _ _ _ HP.out)).mono ?_; rintro e w74 ⟨Kx, Ix, Fx, Sx, qx, mx, dx, rfl, hbw74, hrx⟩
    have TR4 := Lib.hid (And.intro (row_step TR3.out.1 hbw74) (And.intro (row_step TR3.out.2.1 hbw74) (And.intro (row_step TR3.out.2.2.1 hbw74) (And.intro (row_step TR3.out.2.2.2.1 hbw74) (bel_step TR3.out.2.2.2.2 hbw74)))))
    clear TR3
    obtain ⟨rfl, rfl, hix⟩ := hold_shape HV.out hrx
    clear hrx
    clear hbw74
    go_wp2_with fail
    refine hK.out _ _ ?hsv73_ (fun hH => ?_)
    case hsv73_ => exact ⟨rc TR4.out.1 0, rc TR4.out.1 1, rc TR4.out.1 2, rc TR4.out.1 3, rc TR4.out.1 4, rc TR4.out.2.1 0, rc TR4.out.2.1 1, rc TR4.out.2.1 2, rc TR4.out.2.1 3, rc TR4.out.2.1 4⟩
    clear hK K
    (try simp only [Act.put, pk0, pk1, pk2])
    refine zr1 3 (by kernel_rfl) (by simp only [lk0, lk1, lk2]; rfl) (fun K hK => ?_)
    go_simp
    go_at_call 62; refine (add_any 2 Ix FV Sx qx mx dx 2 0 G _ _ _ _ _ hix (by decide) (show opV 0 2 Ix FV 2 0 G = (2, 0, Flo.cop .add FV G, 0) from opV_flo rfl rfl)).mono ?_; rintro e w76 ⟨rfl, hbw76⟩
    have TR5 := Lib.hid (And.intro (row_step TR4.out.1 hbw76) (And.intro (row_step TR4.out.2.1 hbw76) (And.intro (row_step TR4.out.2.2.1 hbw76) (And.intro (row_step TR4.out.2.2.2.1 hbw76) (bel_step TR4.out.2.2.2.2 hbw76)))))
    clear TR4
    clear hbw76
    go_wp2_with fail
    refine hK.out _ _ ?hsv75_ (fun hH => ?_)
    case hsv75_ => exact ⟨rc TR5.out.1 0, rc TR5.out.1 1, rc TR5.out.1 2, rc TR5.out.1 3, rc TR5.out.1 4, rc TR5.out.2.1 0, rc TR5.out.2.1 1, rc TR5.out.2.1 2, rc TR5.out.2.1 3, rc TR5.out.2.1 4⟩
    clear hK K
    (try simp only [Act.put, pk0, pk1, pk2])
    refine zt [4, 5, 6] ?_
    iterate 3 (refine zt1 (fun _ _ d _ _ h => by cases d <;> exact h) (by simp only [lk0, lk1, lk2]; rfl) (by kernel_rfl) (by assumption) (by rfl) (fun w h => by (try dsimp only at h); go_simp; (try with_reducible rfl)) ?_; (try simp only [Act.put, pk0, pk1, pk2]))
    refine zt0 ?_
    refine zr1 8 (by kernel_rfl) (by simp only [lk0, lk1, lk2]; rfl) (fun K hK => ?_)
    obtain ⟨b30, b31, b32, b33, b34, b3f, b3l⟩ := r7 TR5.out.2.2.2.1; go_simp
    have TR6 := Lib.hid (show (fun z0 : World => ZL z0 w.heap.size (some ⟨g, o, none⟩) 2 c ∧ ZF z0 (w.heap.size + 1) G ∧ Zz z0 (w.heap.size + 1 + 1) ∧ ZF z0 (w.heap.size + 1 + 1 + 1) (Flo.cop .add FV G) ∧ Below w.heap.size w z0) (((((w76.setCell ⟨w.heap.size + 1 + 1 + 1, 0, none⟩ (.int .i64 2)).setCell ⟨w.heap.size + 1 + 1 + 1, 1, none⟩ (.int .i64 0)).setCell ⟨w.heap.size + 1 + 1 + 1, 2, none⟩ (.float .f64 (Flo.cop .add FV G))).setCell ⟨w.heap.size + 1 + 1 + 1, 3, none⟩ (.string ⟨#[]⟩)).setCell ⟨w.heap.size + 1 + 1 + 1, 4, none⟩ (.slice none 0 0)) from ⟨s5o TR5.out.1 (by omega), s5o TR5.out.2.1 (by omega), s5o TR5.out.2.2.1 (by omega), s5r TR5.out.2.2.2.1, s5b TR5.out.2.2.2.2 (by omega)⟩)
    clear TR5
    clear b30 b31 b32 b33 b34 b3f b3l
    go_wp2_with fail
    refine hK.out _ _ ?hsv80_ (fun hH => ?_)
    case hsv80_ => exact ⟨rc TR6.out.1 0, rc TR6.out.1 1, rc TR6.out.1 2, rc TR6.out.1 3, rc TR6.out.1 4, rc TR6.out.2.1 0, rc TR6.out.2.1 1, rc TR6.out.2.1 2, rc TR6.out.2.1 3, rc TR6.out.2.1 4⟩
    clear hK K
    (try simp only [Act.put, pk0, pk1, pk2])
    refine zt [9] ?_
    refine zt1 (fun _ _ d _ _ h => by cases d <;> exact h) (by simp only [lk0, lk1, lk2]; rfl) (by kernel_rfl) (by assumption) (by rfl) (fun w h => by (try dsimp only at h); go_simp; (try with_reducible rfl)) ?_; (try simp only [Act.put, pk0, pk1, pk2])
    refine zt0 ?_
    refine wpAnyH_done (by kernel_rfl) ?_ _
    revert TR6
    generalize (((((w76.setCell ⟨w.heap.size + 1 + 1 + 1, 0, none⟩ (.int .i64 2)).setCell ⟨w.heap.size + 1 + 1 + 1, 1, none⟩ (.int .i64 0)).setCell ⟨w.heap.size + 1 + 1 + 1, 2, none⟩ (.float .f64 (Flo.cop .add FV G))).setCell ⟨w.heap.size + 1 + 1 + 1, 3, none⟩ (.string ⟨#[]⟩)).setCell ⟨w.heap.size + 1 + 1 + 1, 4, none⟩ (.slice none 0 0)) = Wf
    intro TR6
    obtain ⟨c3_0, c3_1, c3_2, c3_3, c3_4, c3f, c3l⟩ := r7 TR6.out.2.2.2.1
    go_wp2_with fail
    go_at_call 65; refine (finite_is HS.out (Flo.cop_lt _ _ _) 0 _ _ _ _ _).mono ?_; rintro e w82 ⟨rfl, hbw82⟩
    have TR7 := Lib.hid (And.intro (row_step TR6.out.1 hbw82) (And.intro (row_step TR6.out.2.1 hbw82) (And.intro (row_step TR6.out.2.2.1 hbw82) (And.intro (row_step TR6.out.2.2.2.1 hbw82) (bel_step TR6.out.2.2.2.2 hbw82)))))
    clear TR6
    clear hbw82
    clear c3_0 c3_1 c3_2 c3_3 c3_4 c3f c3l
    obtain ⟨e2_0, e2_1, e2_2, e2_3, e2_4, e2f, e2l⟩ := r7 TR7.out.2.2.1
    go_wp2
    refine bodyPost_ret (v := .tuple #[.agg #[.int .i64 0, .int .i64 0, .float .f64 0, .string ⟨#[]⟩, .slice none 0 0], .int .i64 35]) (by simp [results, Try.results59, go_sem, World.cell?_setCell_same, World.cell?_setCell_other, e2_0, e2_1, e2_2, e2_3, e2_4]) rfl ⟨rfl, ?_⟩
    exact set5_below (g := w.heap.size + 1 + 1) (o := 0) TR7.out.2.2.2.2 (by omega) _ _ _ _ _
set_option maxRecDepth 100000 in
set_option maxHeartbeats 4000000 in
theorem less_ok (n : Nat) (g o c : Nat) (s : ByteArray) (V : VT (n + 1)) (G : Nat) (w : World) (h : Rep w (n + 2) (.agg #[.int .i64 4, .int .i64 0, .float .f64 0, .string ⟨#[]⟩, .slice (some ⟨g, o, none⟩) 2 c]) (pairT n s V)) (FV : Nat) (hv : V.1 = 2 ∧ V.2.2.1 = FV) (hs : (FloatKind.f64.format.order FV G == some .lt) = false) :
    Calls Try.prog 61 #[.agg #[.int .i64 4, .int .i64 0, .float .f64 0, .string ⟨#[]⟩, .slice (some ⟨g, o, none⟩) 2 c], .agg #[.int .i64 2, .int .i64 0, .float .f64 G, .string ⟨#[]⟩, .slice none 0 0]] w fun e w' => e = .returned (.tuple #[.agg #[.int .i64 2, .int .i64 0, .float .f64 (Flo.cop .sub FV G), .string ⟨#[]⟩, .slice none 0 0], .int .i64 0]) ∧ Below w.heap.size w w' := by
  have TR1 := Lib.hid (show (fun z0 : World => ZL z0 w.heap.size (some ⟨g, o, none⟩) 2 c ∧ ZF z0 (w.heap.size + 1) G ∧ Zz z0 (w.heap.size + 1 + 1) ∧ Below w.heap.size w z0) (((w.alloc (.cells #[.int .i64 4, .int .i64 0, .float .f64 0, .string ⟨#[]⟩, .slice (some ⟨g, o, none⟩) 2 c] 27)).alloc (.cells #[.int .i64 2, .int .i64 0, .float .f64 G, .string ⟨#[]⟩, .slice none 0 0] 27)).alloc (.cells #[.int .i64 0, .int .i64 0, .float .f64 0, .string ⟨#[]⟩, .slice none 0 0] 27)) from ⟨row_alloc_step (row_alloc_step (row_alloc w #[.int .i64 4, .int .i64 0, .float .f64 0, .string ⟨#[]⟩, .slice (some ⟨g, o, none⟩) 2 c] 27) _) _, (row_alloc_step (ra (by simp only [World.size_alloc, World.size_drew])) _), (ra (by simp only [World.size_alloc, World.size_drew])), bel_alloc (bel_alloc (bel_alloc (Below.refl w.heap.size w) _) _) _⟩)
  have HP := Lib.hid h
  have HV := Lib.hid hv
  clear h hv
  have hfld : ∀ (a b : Value) (x : Nat) (c d : Value) (w : World), (Instr.field 27 (.agg #[a, b, .float .f64 x, c, d]) 2).run Try.prog w = .ok (.float .f64 x) w := fun _ _ _ _ _ _ => by kernel_rfl
  go_enter Try.func61, Try.ntmps61
  go_upto_region 1 with fail
  have TR2 := Lib.hid (And.intro (row_step TR1.out.1 (Below.drew br)) (And.intro (row_step TR1.out.2.1 (Below.drew br)) (And.intro (row_step TR1.out.2.2.1 (Below.drew br)) (bel_step TR1.out.2.2.2 (Below.drew br)))))
  clear TR1
  refine wp_region_held_drew (S := (fun z => z.cell? ⟨w.heap.size, 0, none⟩ = some (.int .i64 4) ∧ z.cell? ⟨w.heap.size, 1, none⟩ = some (.int .i64 0) ∧ z.cell? ⟨w.heap.size, 2, none⟩ = some (.float .f64 0) ∧ z.cell? ⟨w.heap.size, 3, none⟩ = some (.string ⟨#[]⟩) ∧ z.cell? ⟨w.heap.size, 4, none⟩ = some (.slice (some ⟨g, o, none⟩) 2 c) ∧ z.cell? ⟨w.heap.size + 1, 0, none⟩ = some (.int .i64 2) ∧ z.cell? ⟨w.heap.size + 1, 1, none⟩ = some (.int .i64 0) ∧ z.cell? ⟨w.heap.size + 1, 2, none⟩ = some (.float .f64 G) ∧ z.cell? ⟨w.heap.size + 1, 3, none⟩ = some (.string ⟨#[]⟩) ∧ z.cell? ⟨w.heap.size + 1, 4, none⟩ = some (.slice none 0 0))) (by kernel_rfl) ?_ (fun hH => ?_)
  · exact ⟨rc TR2.out.1 0, rc TR2.out.1 1, rc TR2.out.1 2, rc TR2.out.1 3, rc TR2.out.1 4, rc TR2.out.2.1 0, rc TR2.out.2.1 1, rc TR2.out.2.1 2, rc TR2.out.2.1 3, rc TR2.out.2.1 4⟩
  refine zt [0, 3, 4] ?_
  iterate 3 (refine zt1 (fun _ _ d _ _ h => by cases d <;> exact h) (by simp only [lk0, lk1, lk2]; rfl) (by kernel_rfl) (by assumption) (by rfl) (fun w h => by (try dsimp only at h); go_simp; (try with_reducible rfl)) ?_; (try simp only [Act.put, pk0, pk1, pk2]))
  refine zt0 ?_
  refine zr1 1 (by kernel_rfl) (by simp only [lk0, lk1, lk2]; rfl) (fun K hK => ?_)
  go_simp
  go_at_call 57; refine (hasOf_any n _ s V _ (rep_keep TR2.out.2.2.2 _ _ _ HP.out)).mono ?_; rintro e w87 ⟨Kx, Ix, Fx, Sx, qx, mx, dx, rfl, hbw87, hrx⟩
  have TR3 := Lib.hid (And.intro (row_step TR2.out.1 hbw87) (And.intro (row_step TR2.out.2.1 hbw87) (And.intro (row_step TR2.out.2.2.1 hbw87) (bel_step TR2.out.2.2.2 hbw87))))
  clear TR2
  obtain ⟨rfl, rfl, hix⟩ := hold_shape HV.out hrx
  clear hrx
  clear hbw87
  go_wp2_with fail
  refine hK.out _ _ ?hsv86_ (fun hH => ?_)
  case hsv86_ => exact ⟨rc TR3.out.1 0, rc TR3.out.1 1, rc TR3.out.1 2, rc TR3.out.1 3, rc TR3.out.1 4, rc TR3.out.2.1 0, rc TR3.out.2.1 1, rc TR3.out.2.1 2, rc TR3.out.2.1 3, rc TR3.out.2.1 4⟩
  clear hK K
  (try simp only [Act.put, pk0, pk1, pk2])
  refine zt [2, 5] ?_
  iterate 2 (refine zt1 (fun _ _ d _ _ h => by cases d <;> exact h) (by simp only [lk0, lk1, lk2]; rfl) (by kernel_rfl) (by assumption) (by rfl) (fun w h => by (try dsimp only at h); go_simp; (try with_reducible rfl)) ?_; (try simp only [Act.put, pk0, pk1, pk2]))
  refine zt0 ?_
  refine wpAnyH_done (by kernel_rfl) ?_ _
  go_upto_region 3 with fail
  have TR4 := Lib.hid (And.intro (row_step TR3.out.1 (Below.drew br)) (And.intro (row_step TR3.out.2.1 (Below.drew br)) (And.intro (row_step TR3.out.2.2.1 (Below.drew br)) (bel_step TR3.out.2.2.2 (Below.drew br)))))
  clear TR3
  refine wp_region_held_drew (S := (fun z => z.cell? ⟨w.heap.size, 0, none⟩ = some (.int .i64 4) ∧ z.cell? ⟨w.heap.size, 1, none⟩ = some (.int .i64 0) ∧ z.cell? ⟨w.heap.size, 2, none⟩ = some (.float .f64 0) ∧ z.cell? ⟨w.heap.size, 3, none⟩ = some (.string ⟨#[]⟩) ∧ z.cell? ⟨w.heap.size, 4, none⟩ = some (.slice (some ⟨g, o, none⟩) 2 c) ∧ z.cell? ⟨w.heap.size + 1, 0, none⟩ = some (.int .i64 2) ∧ z.cell? ⟨w.heap.size + 1, 1, none⟩ = some (.int .i64 0) ∧ z.cell? ⟨w.heap.size + 1, 2, none⟩ = some (.float .f64 G) ∧ z.cell? ⟨w.heap.size + 1, 3, none⟩ = some (.string ⟨#[]⟩) ∧ z.cell? ⟨w.heap.size + 1, 4, none⟩ = some (.slice none 0 0))) (by kernel_rfl) ?_ (fun hH => ?_)
  · exact ⟨rc TR4.out.1 0, rc TR4.out.1 1, rc TR4.out.1 2, rc TR4.out.1 3, rc TR4.out.1 4, rc TR4.out.2.1 0, rc TR4.out.2.1 1, rc TR4.out.2.1 2, rc TR4.out.2.1 3, rc TR4.out.2.1 4⟩
  refine zt [0, 2] ?_
  iterate 2 (refine zt1 (fun _ _ d _ _ h => by cases d <;> exact h) (by simp only [lk0, lk1, lk2]; rfl) (by kernel_rfl) (by assumption) (by rfl) (fun w h => by (try dsimp only at h); go_simp; (try with_reducible rfl)) ?_; (try simp only [Act.put, pk0, pk1, pk2]))
  refine zt0 ?_
  refine zr1 1 (by kernel_rfl) (by simp only [lk0, lk1, lk2]; rfl) (fun K hK => ?_)
  go_simp
  go_at_call 57; refine (hasOf_any n _ s V _ (rep_keep TR4.out.2.2.2 _ _ _ HP.out)).mono ?_; rintro e w93 ⟨Ky, Iy, Fy, Sy, qy, my, dy, rfl, hbw93, hry⟩
  have TR5 := Lib.hid (And.intro (row_step TR4.out.1 hbw93) (And.intro (row_step TR4.out.2.1 hbw93) (And.intro (row_step TR4.out.2.2.1 hbw93) (bel_step TR4.out.2.2.2 hbw93))))
  clear TR4
  obtain ⟨rfl, rfl, hiy⟩ := hold_shape HV.out hry
  clear hry
  clear hbw93
  go_wp2_with fail
  refine hK.out _ _ ?hsv92_ (fun hH => ?_)
  case hsv92_ => exact ⟨rc TR5.out.1 0, rc TR5.out.1 1, rc TR5.out.1 2, rc TR5.out.1 3, rc TR5.out.1 4, rc TR5.out.2.1 0, rc TR5.out.2.1 1, rc TR5.out.2.1 2, rc TR5.out.2.1 3, rc TR5.out.2.1 4⟩
  clear hK K
  (try simp only [Act.put, pk0, pk1, pk2])
  refine zr1 3 (by kernel_rfl) (by simp only [lk0, lk1, lk2]; rfl) (fun K hK => ?_)
  go_simp
  go_at_call 74; refine (sub_flo Iy FV Sy qy my dy 0 G _ _ _ _ _).mono ?_; rintro e w95 ⟨rfl, hbw95⟩
  have TR6 := Lib.hid (And.intro (row_step TR5.out.1 hbw95) (And.intro (row_step TR5.out.2.1 hbw95) (And.intro (row_step TR5.out.2.2.1 hbw95) (bel_step TR5.out.2.2.2 hbw95))))
  clear TR5
  clear hbw95
  go_wp2_with fail
  refine hK.out _ _ ?hsv94_ (fun hH => ?_)
  case hsv94_ => exact ⟨rc TR6.out.1 0, rc TR6.out.1 1, rc TR6.out.1 2, rc TR6.out.1 3, rc TR6.out.1 4, rc TR6.out.2.1 0, rc TR6.out.2.1 1, rc TR6.out.2.1 2, rc TR6.out.2.1 3, rc TR6.out.2.1 4⟩
  clear hK K
  (try simp only [Act.put, pk0, pk1, pk2])
  refine zt [4, 5] ?_
  iterate 2 (refine zt1 (fun _ _ d _ _ h => by cases d <;> exact h) (by simp only [lk0, lk1, lk2]; rfl) (by kernel_rfl) (by assumption) (by rfl) (fun w h => by (try dsimp only at h); go_simp; (try with_reducible rfl)) ?_; (try simp only [Act.put, pk0, pk1, pk2]))
  refine zt0 ?_
  refine zr1 6 (by kernel_rfl) (by simp only [lk0, lk1, lk2]; rfl) (fun K hK => ?_)
  obtain ⟨b30, b31, b32, b33, b34, b3f, b3l⟩ := r7 TR6.out.2.2.1; go_simp
  have TR7 := Lib.hid (show (fun z0 : World => ZL z0 w.heap.size (some ⟨g, o, none⟩) 2 c ∧ ZF z0 (w.heap.size + 1) G ∧ ZF z0 (w.heap.size + 1 + 1) (Flo.cop .sub FV G) ∧ Below w.heap.size w z0) (((((w95.setCell ⟨w.heap.size + 1 + 1, 0, none⟩ (.int .i64 2)).setCell ⟨w.heap.size + 1 + 1, 1, none⟩ (.int .i64 0)).setCell ⟨w.heap.size + 1 + 1, 2, none⟩ (.float .f64 (Flo.cop .sub FV G))).setCell ⟨w.heap.size + 1 + 1, 3, none⟩ (.string ⟨#[]⟩)).setCell ⟨w.heap.size + 1 + 1, 4, none⟩ (.slice none 0 0)) from ⟨s5o TR6.out.1 (by omega), s5o TR6.out.2.1 (by omega), s5r TR6.out.2.2.1, s5b TR6.out.2.2.2 (by omega)⟩)
  clear TR6
  clear b30 b31 b32 b33 b34 b3f b3l
  go_wp2_with fail
  refine hK.out _ _ ?hsv98_ (fun hH => ?_)
  case hsv98_ => exact ⟨rc TR7.out.1 0, rc TR7.out.1 1, rc TR7.out.1 2, rc TR7.out.1 3, rc TR7.out.1 4, rc TR7.out.2.1 0, rc TR7.out.2.1 1, rc TR7.out.2.1 2, rc TR7.out.2.1 3, rc TR7.out.2.1 4⟩
  clear hK K
  (try simp only [Act.put, pk0, pk1, pk2])
  refine zt [7] ?_
  refine zt1 (fun _ _ d _ _ h => by cases d <;> exact h) (by simp only [lk0, lk1, lk2]; rfl) (by kernel_rfl) (by assumption) (by rfl) (fun w h => by (try dsimp only at h); go_simp; (try with_reducible rfl)) ?_; (try simp only [Act.put, pk0, pk1, pk2])
  refine zt0 ?_
  refine wpAnyH_done (by kernel_rfl) ?_ _
  revert TR7
  generalize (((((w95.setCell ⟨w.heap.size + 1 + 1, 0, none⟩ (.int .i64 2)).setCell ⟨w.heap.size + 1 + 1, 1, none⟩ (.int .i64 0)).setCell ⟨w.heap.size + 1 + 1, 2, none⟩ (.float .f64 (Flo.cop .sub FV G))).setCell ⟨w.heap.size + 1 + 1, 3, none⟩ (.string ⟨#[]⟩)).setCell ⟨w.heap.size + 1 + 1, 4, none⟩ (.slice none 0 0)) = Wf
  intro TR7
  obtain ⟨c2_0, c2_1, c2_2, c2_3, c2_4, c2f, c2l⟩ := r7 TR7.out.2.2.1
  go_wp2
  exact bodyPost_ret (v := .tuple #[.agg #[.int .i64 2, .int .i64 0, .float .f64 (Flo.cop .sub FV G), .string ⟨#[]⟩, .slice none 0 0], .int .i64 0]) (by simp [results, Try.results61, go_sem, c2_0, c2_1, c2_2, c2_3, c2_4]) rfl ⟨rfl, TR7.out.2.2.2⟩
set_option maxRecDepth 100000 in
set_option maxHeartbeats 4000000 in
theorem less_no (n : Nat) (g o c : Nat) (s : ByteArray) (V : VT (n + 1)) (G : Nat) (w : World) (h : Rep w (n + 2) (.agg #[.int .i64 4, .int .i64 0, .float .f64 0, .string ⟨#[]⟩, .slice (some ⟨g, o, none⟩) 2 c]) (pairT n s V)) (FV : Nat) (hv : V.1 = 2 ∧ V.2.2.1 = FV) (hs : (FloatKind.f64.format.order FV G == some .lt) = true) :
    Calls Try.prog 61 #[.agg #[.int .i64 4, .int .i64 0, .float .f64 0, .string ⟨#[]⟩, .slice (some ⟨g, o, none⟩) 2 c], .agg #[.int .i64 2, .int .i64 0, .float .f64 G, .string ⟨#[]⟩, .slice none 0 0]] w fun e w' => e = .returned (.tuple #[.agg #[.int .i64 0, .int .i64 0, .float .f64 0, .string ⟨#[]⟩, .slice none 0 0], .int .i64 36]) ∧ Below w.heap.size w w' := by
  have TR1 := Lib.hid (show (fun z0 : World => ZL z0 w.heap.size (some ⟨g, o, none⟩) 2 c ∧ ZF z0 (w.heap.size + 1) G ∧ Zz z0 (w.heap.size + 1 + 1) ∧ Below w.heap.size w z0) (((w.alloc (.cells #[.int .i64 4, .int .i64 0, .float .f64 0, .string ⟨#[]⟩, .slice (some ⟨g, o, none⟩) 2 c] 27)).alloc (.cells #[.int .i64 2, .int .i64 0, .float .f64 G, .string ⟨#[]⟩, .slice none 0 0] 27)).alloc (.cells #[.int .i64 0, .int .i64 0, .float .f64 0, .string ⟨#[]⟩, .slice none 0 0] 27)) from ⟨row_alloc_step (row_alloc_step (row_alloc w #[.int .i64 4, .int .i64 0, .float .f64 0, .string ⟨#[]⟩, .slice (some ⟨g, o, none⟩) 2 c] 27) _) _, (row_alloc_step (ra (by simp only [World.size_alloc, World.size_drew])) _), (ra (by simp only [World.size_alloc, World.size_drew])), bel_alloc (bel_alloc (bel_alloc (Below.refl w.heap.size w) _) _) _⟩)
  have HP := Lib.hid h
  have HV := Lib.hid hv
  clear h hv
  have hfld : ∀ (a b : Value) (x : Nat) (c d : Value) (w : World), (Instr.field 27 (.agg #[a, b, .float .f64 x, c, d]) 2).run Try.prog w = .ok (.float .f64 x) w := fun _ _ _ _ _ _ => by kernel_rfl
  go_enter Try.func61, Try.ntmps61
  go_upto_region 1 with fail
  have TR2 := Lib.hid (And.intro (row_step TR1.out.1 (Below.drew br)) (And.intro (row_step TR1.out.2.1 (Below.drew br)) (And.intro (row_step TR1.out.2.2.1 (Below.drew br)) (bel_step TR1.out.2.2.2 (Below.drew br)))))
  clear TR1
  refine wp_region_held_drew (S := (fun z => z.cell? ⟨w.heap.size, 0, none⟩ = some (.int .i64 4) ∧ z.cell? ⟨w.heap.size, 1, none⟩ = some (.int .i64 0) ∧ z.cell? ⟨w.heap.size, 2, none⟩ = some (.float .f64 0) ∧ z.cell? ⟨w.heap.size, 3, none⟩ = some (.string ⟨#[]⟩) ∧ z.cell? ⟨w.heap.size, 4, none⟩ = some (.slice (some ⟨g, o, none⟩) 2 c) ∧ z.cell? ⟨w.heap.size + 1, 0, none⟩ = some (.int .i64 2) ∧ z.cell? ⟨w.heap.size + 1, 1, none⟩ = some (.int .i64 0) ∧ z.cell? ⟨w.heap.size + 1, 2, none⟩ = some (.float .f64 G) ∧ z.cell? ⟨w.heap.size + 1, 3, none⟩ = some (.string ⟨#[]⟩) ∧ z.cell? ⟨w.heap.size + 1, 4, none⟩ = some (.slice none 0 0))) (by kernel_rfl) ?_ (fun hH => ?_)
  · exact ⟨rc TR2.out.1 0, rc TR2.out.1 1, rc TR2.out.1 2, rc TR2.out.1 3, rc TR2.out.1 4, rc TR2.out.2.1 0, rc TR2.out.2.1 1, rc TR2.out.2.1 2, rc TR2.out.2.1 3, rc TR2.out.2.1 4⟩
  refine zt [0, 3, 4] ?_
  iterate 3 (refine zt1 (fun _ _ d _ _ h => by cases d <;> exact h) (by simp only [lk0, lk1, lk2]; rfl) (by kernel_rfl) (by assumption) (by rfl) (fun w h => by (try dsimp only at h); go_simp; (try with_reducible rfl)) ?_; (try simp only [Act.put, pk0, pk1, pk2]))
  refine zt0 ?_
  refine zr1 1 (by kernel_rfl) (by simp only [lk0, lk1, lk2]; rfl) (fun K hK => ?_)
  go_simp
  go_at_call 57; refine (hasOf_any n _ s V _ (rep_keep TR2.out.2.2.2 _ _ _ HP.out)).mono ?_; rintro e w104 ⟨Kx, Ix, Fx, Sx, qx, mx, dx, rfl, hbw104, hrx⟩
  have TR3 := Lib.hid (And.intro (row_step TR2.out.1 hbw104) (And.intro (row_step TR2.out.2.1 hbw104) (And.intro (row_step TR2.out.2.2.1 hbw104) (bel_step TR2.out.2.2.2 hbw104))))
  clear TR2
  obtain ⟨rfl, rfl, hix⟩ := hold_shape HV.out hrx
  clear hrx
  clear hbw104
  go_wp2_with fail
  refine hK.out _ _ ?hsv103_ (fun hH => ?_)
  case hsv103_ => exact ⟨rc TR3.out.1 0, rc TR3.out.1 1, rc TR3.out.1 2, rc TR3.out.1 3, rc TR3.out.1 4, rc TR3.out.2.1 0, rc TR3.out.2.1 1, rc TR3.out.2.1 2, rc TR3.out.2.1 3, rc TR3.out.2.1 4⟩
  clear hK K
  (try simp only [Act.put, pk0, pk1, pk2])
  refine zt [2, 5] ?_
  iterate 2 (refine zt1 (fun _ _ d _ _ h => by cases d <;> exact h) (by simp only [lk0, lk1, lk2]; rfl) (by kernel_rfl) (by assumption) (by rfl) (fun w h => by (try dsimp only at h); go_simp; (try with_reducible rfl)) ?_; (try simp only [Act.put, pk0, pk1, pk2]))
  refine zt0 ?_
  refine wpAnyH_done (by kernel_rfl) ?_ _
  obtain ⟨c2_0, c2_1, c2_2, c2_3, c2_4, c2f, c2l⟩ := r7 TR3.out.2.2.1
  go_wp2
  refine bodyPost_ret (v := .tuple #[.agg #[.int .i64 0, .int .i64 0, .float .f64 0, .string ⟨#[]⟩, .slice none 0 0], .int .i64 36]) (by simp [results, Try.results61, go_sem, World.cell?_setCell_same, World.cell?_setCell_other, c2_0, c2_1, c2_2, c2_3, c2_4]) rfl ⟨rfl, ?_⟩
  exact set5_below (g := w.heap.size + 1 + 1) (o := 0) TR3.out.2.2.2 (by omega) _ _ _ _ _
end Num
end Go.Proofs.Yteodljkcbddehaa
/-
  Package ledger: having.
-/
namespace Go.Proofs.Yteodljkcbddehaa
open Go.RowKit
namespace Num
open Ints
set_option linter.unusedSimpArgs false
set_option linter.unusedVariables false
theorem txt_repn (n : Nat) (w : World) {s : ByteArray} (hs : s.size ≤ maxLen) : Rep w (n + 1) (.agg #[.int .i64 3, .int .i64 0, .float .f64 0, .string s, .slice none 0 0]) (3, 0, 0, s, []) :=
  ⟨none, 0, 0, rfl, (by decide : okI 3), (by decide : okI 0), (by decide : (0 : Nat) < 2 ^ 64), hs, rfl, Nat.le_refl _, by unfold maxLen; omega, fun h => absurd h (Nat.lt_irrefl _)⟩
theorem flo_repn (n : Nat) (w : World) {F : Nat} (hF : F < 2 ^ 64) : Rep w (n + 1) (.agg #[.int .i64 2, .int .i64 0, .float .f64 F, .string ⟨#[]⟩, .slice none 0 0]) (floT n F) :=
  ⟨none, 0, 0, rfl, (by decide : okI 2), (by decide : okI 0), hF, (by decide : (⟨#[]⟩ : ByteArray).size ≤ maxLen), rfl, Nat.le_refl _, by unfold maxLen; omega, fun h => absurd h (Nat.lt_irrefl _)⟩
def NewL (n : Nat) (w0 W w' : World) (p : Option Addr) (l c : Nat) (L : List (VT (n + 2))) : Prop := ∀ y, Below w0.heap.size w0 y → Stay W.heap.size w' y → RepL y (Rep y (n + 2)) p l c L
theorem lspliced_is {α : Type} {R : Value → α → Prop} (hR : One5 R) (p : Option Addr) (l c a z : Nat) (L : List α) (q : Option Addr) (m d : Nat) (M : List α) (w : World) (zi : Int) (hzi : zi = (z : Int)) (hL : RepL w R p l c L) (hM : RepL w R q m d M) (haz : a ≤ z) (hz : z ≤ l) (hl : l ≤ 100000) (hm : m ≤ 100000) :
    Calls Try.prog 53 #[.slice p l c, .int .i64 a, .int .i64 zi, .slice q m d] w fun e w' => ∃ p' c', e = .returned (.slice p' (a + m + (l - z)) c') ∧ Below w.heap.size w w' ∧ ∀ y, Stay w.heap.size w' y → RepL y R p' (a + m + (l - z)) c' (L.take a ++ (M ++ L.drop z)) := by
  subst hzi
  exact lspliced_any hR p l c a z L q m d M w hL hM haz hz hl hm
theorem acc_at {w : World} {n b off l c i : Nat} {ES : List (ByteArray × VT (n + 1))} (h : RepL w (Rep w (n + 2)) (some ⟨b, off, none⟩) l c (ES.map (pairE n))) (hi : i < ES.length) : ∃ g o cg, w.cell? ⟨b, off + i * 5, none⟩ = some (.int .i64 4) ∧ w.cell? ⟨b, off + i * 5 + 1, none⟩ = some (.int .i64 0) ∧ w.cell? ⟨b, off + i * 5 + 2, none⟩ = some (.float .f64 0) ∧ w.cell? ⟨b, off + i * 5 + 3, none⟩ = some (.string ⟨#[]⟩) ∧ w.cell? ⟨b, off + i * 5 + 4, none⟩ = some (.slice (some ⟨g, o, none⟩) 2 cg) ∧
    Rep w (n + 2) (.agg #[.int .i64 4, .int .i64 0, .float .f64 0, .string ⟨#[]⟩, .slice (some ⟨g, o, none⟩) 2 cg]) (pairT n (ES[i]'hi).1 (ES[i]'hi).2) := by
  obtain ⟨h1, h2, h3, h4⟩ := h
  obtain ⟨b', off', he, h5⟩ := h4 (by rw [List.length_map] at h1; omega)
  injection he with he
  injection he with e1 e2
  subst e1 e2
  obtain ⟨v0, v1, v2, v3, v4, c0, c1, c2, c3, c4, hr⟩ := h5 i (by rw [List.length_map]; exact hi)
  rw [List.getElem_map] at hr
  have hr' : Rep w (n + 2) (.agg #[v0, v1, v2, v3, v4]) (pairT n (ES[i]'hi).1 (ES[i]'hi).2) := hr
  obtain ⟨g, o, cg, rfl, rfl, rfl, rfl, rfl⟩ := pair_shape hr'
  exact ⟨g, o, cg, c0, c1, c2, c3, c4, hr'⟩
set_option maxRecDepth 100000 in
set_option maxHeartbeats 4000000 in
theorem having_any (n : Nat) (b off l c i : Nat) (k : ByteArray) (K3 I3 : Int) (F3 : Nat) (S3 : ByteArray) (q3 : Option Addr) (m3 d3 : Nat) (L : List (VT (n + 2))) (V : VT (n + 1)) (g o cg : Nat) (V0 : VT (n + 1)) (w0 w : World) (HBW : Hid (Below w0.heap.size w0 w)) (HL : Hid (RepL w0 (Rep w0 (n + 2)) (some ⟨b, off, none⟩) l c L)) (hi : i < l) (hl : l ≤ 32)
    (HC : Hid (w.cell? ⟨b, off + i * 5, none⟩ = some (.int .i64 4) ∧ w.cell? ⟨b, off + i * 5 + 1, none⟩ = some (.int .i64 0) ∧ w.cell? ⟨b, off + i * 5 + 2, none⟩ = some (.float .f64 0) ∧ w.cell? ⟨b, off + i * 5 + 3, none⟩ = some (.string ⟨#[]⟩) ∧ w.cell? ⟨b, off + i * 5 + 4, none⟩ = some (.slice (some ⟨g, o, none⟩) 2 cg)))
    (HP : Hid (Rep w (n + 2) (.agg #[.int .i64 4, .int .i64 0, .float .f64 0, .string ⟨#[]⟩, .slice (some ⟨g, o, none⟩) 2 cg]) (pairT n k V0))) (HK : Hid (Rep w0 (n + 1) (.agg #[.int .i64 3, .int .i64 0, .float .f64 0, .string k, .slice none 0 0]) (3, 0, 0, k, []))) (HV : Hid (Rep w0 (n + 1) (.agg #[.int .i64 K3, .int .i64 I3, .float .f64 F3, .string S3, .slice q3 m3 d3]) V)) :
    Calls Try.prog 60 #[.slice (some ⟨b, off, none⟩) l c, .int .i64 i, .agg #[.int .i64 K3, .int .i64 I3, .float .f64 F3, .string S3, .slice q3 m3 d3]] w fun e w' => ∃ p' c', e = .returned (.slice p' (i + 1 + (l - (i + 1))) c') ∧ Below w.heap.size w w' ∧ NewL n w0 w w' p' (i + 1 + (l - (i + 1))) c' (L.take i ++ ([pairT n k V] ++ L.drop (i + 1))) := by
  have TR1 := Lib.hid (show (fun z0 : World => Zw z0 w.heap.size (.int .i64 K3) (.int .i64 I3) (.float .f64 F3) (.string S3) (.slice q3 m3 d3) ∧ Below w.heap.size w z0) (w.alloc (.cells #[.int .i64 K3, .int .i64 I3, .float .f64 F3, .string S3, .slice q3 m3 d3] 27)) from ⟨row_alloc w #[.int .i64 K3, .int .i64 I3, .float .f64 F3, .string S3, .slice q3 m3 d3] 27, bel_alloc (Below.refl w.heap.size w) _⟩)
  have HNM := Lib.hid (pair_name HP.out).2.2.2.2.2
  have hb := cell_lt HC.out.1
  obtain ⟨hc0, hc1, hc2, hc3, hc4⟩ := HC.out
  have HC0 := Lib.hid hc0
  have HC1 := Lib.hid hc1
  have HC2 := Lib.hid hc2
  have HC3 := Lib.hid hc3
  have HC4 := Lib.hid hc4
  have hlc : l ≤ c := HL.out.2.1
  have hi1 : (0 : Int) ≤ (i : Int) := by omega
  have hi2 : (i : Int) < (l : Int) := by omega
  have hwi : IntKind.i64.wrap ((i : Int) + 1) = (i : Int) + 1 := by rw [IntKind.wrap_i64]; omega
  clear hc0 hc1 hc2 hc3 hc4 HC
  go_enter Try.func60, Try.ntmps60
  go_upto_region 1 with fail
  have TR2 := Lib.hid (And.intro (row_step TR1.out.1 (Below.drew br)) (bel_step TR1.out.2 (Below.drew br)))
  clear TR1
  refine wp_region_held_drew (S := (fun z => z.cell? ⟨w.heap.size, 0, none⟩ = some (.int .i64 K3) ∧ z.cell? ⟨w.heap.size, 1, none⟩ = some (.int .i64 I3) ∧ z.cell? ⟨w.heap.size, 2, none⟩ = some (.float .f64 F3) ∧ z.cell? ⟨w.heap.size, 3, none⟩ = some (.string S3) ∧ z.cell? ⟨w.heap.size, 4, none⟩ = some (.slice q3 m3 d3) ∧ z.cell? ⟨b, off + i * 5, none⟩ = some (.int .i64 4) ∧ z.cell? ⟨b, off + i * 5 + 1, none⟩ = some (.int .i64 0) ∧ z.cell? ⟨b, off + i * 5 + 2, none⟩ = some (.float .f64 0) ∧ z.cell? ⟨b, off + i * 5 + 3, none⟩ = some (.string ⟨#[]⟩) ∧ z.cell? ⟨b, off + i * 5 + 4, none⟩ = some (.slice (some ⟨g, o, none⟩) 2 cg))) (by kernel_rfl) ?_ (fun hH => ?_)
  · exact ⟨rc TR2.out.1 0, rc TR2.out.1 1, rc TR2.out.1 2, rc TR2.out.1 3, rc TR2.out.1 4, ck TR2.out.2 HC0.out, ck TR2.out.2 HC1.out, ck TR2.out.2 HC2.out, ck TR2.out.2 HC3.out, ck TR2.out.2 HC4.out⟩
  refine zt [0, 1, 2, 3, 4, 5, 6, 7, 9] ?_
  iterate 9 (refine zt1 (fun _ _ d _ _ h => by cases d <;> exact h) (by simp only [lk0, lk1, lk2]; rfl) (by kernel_rfl) (by assumption) (by rfl) (fun w h => by (try dsimp only at h); go_simp; (try with_reducible rfl)) ?_; (try simp only [Act.put, pk0, pk1, pk2]))
  refine zt0 ?_
  refine zr1 8 (by kernel_rfl) (by simp only [lk0, lk1, lk2]; rfl) (fun K hK => ?_)
  go_simp
  go_at_call 23; refine (nameOf_any _ _ _ _ _ _ _ k _ (by omega) (name_step HNM.out TR2.out.2)).mono ?_; rintro e w11 ⟨rfl, hbw11⟩
  have TR3 := Lib.hid (And.intro (row_step TR2.out.1 hbw11) (bel_step TR2.out.2 hbw11))
  clear TR2
  clear hbw11
  go_wp2_with fail
  refine hK.out _ _ ?hsv10_ (fun hH => ?_)
  case hsv10_ => exact ⟨rc TR3.out.1 0, rc TR3.out.1 1, rc TR3.out.1 2, rc TR3.out.1 3, rc TR3.out.1 4, ck TR3.out.2 HC0.out, ck TR3.out.2 HC1.out, ck TR3.out.2 HC2.out, ck TR3.out.2 HC3.out, ck TR3.out.2 HC4.out⟩
  clear hK K
  (try simp only [Act.put, pk0, pk1, pk2])
  refine zr1 10 (by kernel_rfl) (by simp only [lk0, lk1, lk2]; rfl) (fun K hK => ?_)
  go_simp
  have hle14 : w.heap.size ≤ w11.heap.size := TR3.out.2.size
  go_at_call 54; refine (account_any k K3 I3 F3 S3 q3 m3 d3 _).mono ?_; rintro e w13 ⟨ge, rfl, hbw13, hge, hrow⟩
  have TR4 := Lib.hid (And.intro (row_step TR3.out.1 hbw13) (bel_step TR3.out.2 hbw13))
  clear TR3
  have TR5 := Lib.hid (show Zw w13 w.heap.size (.int .i64 K3) (.int .i64 I3) (.float .f64 F3) (.string S3) (.slice q3 m3 d3) ∧ w13.heap[ge]? = some (.cells #[.int .i64 3, .int .i64 0, .float .f64 0, .string k, .slice none 0 0, .int .i64 K3, .int .i64 I3, .float .f64 F3, .string S3, .slice q3 m3 d3] 27 (0, 0)) ∧ Below w.heap.size w w13 from ⟨TR4.out.1, hrow, TR4.out.2⟩)
  clear TR4
  clear hrow
  clear hbw13
  go_wp2_with fail
  refine hK.out _ _ ?hsv12_ (fun hH => ?_)
  case hsv12_ => exact ⟨rc TR5.out.1 0, rc TR5.out.1 1, rc TR5.out.1 2, rc TR5.out.1 3, rc TR5.out.1 4, ck TR5.out.2.2 HC0.out, ck TR5.out.2.2 HC1.out, ck TR5.out.2.2 HC2.out, ck TR5.out.2.2 HC3.out, ck TR5.out.2.2 HC4.out⟩
  clear hK K
  (try simp only [Act.put, pk0, pk1, pk2])
  refine zr1 11 (by kernel_rfl) (by simp only [lk0, lk1, lk2]; rfl) (fun K hK => ?_)
  go_simp
  have hlt16 : w.heap.size < w13.heap.size := row_lt TR5.out.1
  have hlt17 : ge < w13.heap.size := row_lt TR5.out.2.1
  have hlt18 : w.heap.size ≤ w13.heap.size := TR5.out.2.2.size
  have TR6 := Lib.hid (show (fun z0 : World => Zw z0 w.heap.size (.int .i64 K3) (.int .i64 I3) (.float .f64 F3) (.string S3) (.slice q3 m3 d3) ∧ z0.heap[ge]? = some (.cells #[.int .i64 3, .int .i64 0, .float .f64 0, .string k, .slice none 0 0, .int .i64 K3, .int .i64 I3, .float .f64 F3, .string S3, .slice q3 m3 d3] 27 (0, 0)) ∧ ZL z0 w13.heap.size (some ⟨ge, 0, none⟩) 2 2 ∧ Below w.heap.size w z0) (w13.alloc (.cells #[.int .i64 4, .int .i64 0, .float .f64 0, .string ⟨#[]⟩, .slice (some ⟨ge, 0, none⟩) 2 2] 27)) from ⟨row_alloc_step TR5.out.1 _, row_alloc_step TR5.out.2.1 _, (ra (by simp only [World.size_alloc, World.size_drew])), bel_step TR5.out.2.2 (bel_alloc br _)⟩)
  go_wp2_with fail
  refine hK.out _ _ ?hsv15_ (fun hH => ?_)
  case hsv15_ => exact ⟨rc TR6.out.1 0, rc TR6.out.1 1, rc TR6.out.1 2, rc TR6.out.1 3, rc TR6.out.1 4, ck TR6.out.2.2.2 HC0.out, ck TR6.out.2.2.2 HC1.out, ck TR6.out.2.2.2 HC2.out, ck TR6.out.2.2.2 HC3.out, ck TR6.out.2.2.2 HC4.out⟩
  clear hK K
  (try simp only [Act.put, pk0, pk1, pk2])
  refine zr1 12 (by kernel_rfl) (by simp only [lk0, lk1, lk2]; rfl) (fun K hK => ?_)
  go_simp
  go_at_call 53; refine (lspliced_is (rq_one n ge k V w0) (some ⟨b, off, none⟩) l c i (i + 1) L (some ⟨w13.heap.size, 0, none⟩) 1 1 [pairT n k V] _ _ (by omega) (rq_old (bel_step HBW.out TR6.out.2.2.2) HL.out) (rq_new TR6.out.2.2.1) (by omega) (by omega) (by omega) (by omega)).mono ?_; rintro e w20 ⟨p6, c6, rfl, hbw20, hy6⟩
  have TR7 := Lib.hid (And.intro (row_step TR6.out.1 hbw20) (And.intro (row_step TR6.out.2.1 hbw20) (And.intro (row_step TR6.out.2.2.1 hbw20) (bel_step TR6.out.2.2.2 hbw20))))
  clear TR6
  have HY := Lib.hid hy6
  clear hy6
  clear hbw20
  go_wp2_with fail
  refine hK.out _ _ ?hsv19_ (fun hH => ?_)
  case hsv19_ => exact ⟨rc TR7.out.1 0, rc TR7.out.1 1, rc TR7.out.1 2, rc TR7.out.1 3, rc TR7.out.1 4, ck TR7.out.2.2.2 HC0.out, ck TR7.out.2.2.2 HC1.out, ck TR7.out.2.2.2 HC2.out, ck TR7.out.2.2.2 HC3.out, ck TR7.out.2.2.2 HC4.out⟩
  clear hK K
  (try simp only [Act.put, pk0, pk1, pk2])
  refine zt [13] ?_
  refine zt1 (fun _ _ d _ _ h => by cases d <;> exact h) (by simp only [lk0, lk1, lk2]; rfl) (by kernel_rfl) (by assumption) (by rfl) (fun w h => by (try dsimp only at h); go_simp; (try with_reducible rfl)) ?_; (try simp only [Act.put, pk0, pk1, pk2])
  refine zt0 ?_
  refine wpAnyH_done (by kernel_rfl) ?_ _
  go_wp2
  go_ret
  refine ⟨p6, c6, rfl, TR7.out.2.2.2, fun y hby hst => ?_⟩
  have hrow := TR7.out.2.1
  exact repL_mono (rq_rep hby ((hst ge (by omega) (row_lt hrow)).trans hrow) HK.out HV.out) (HY.out y (fun b h1 h2 => hst b (by simp only [World.size_alloc] at h1; omega) h2))
end Num
end Go.Proofs.Yteodljkcbddehaa
/-
  The reference: names, signs, amounts.
-/
namespace Go.Proofs.Yteodljkcbddehaa
open Go.RowKit
namespace Num
open Ints
set_option linter.unusedSimpArgs false
set_option linter.unusedVariables false
def negW (x : Nat) : Bool := decide (9223372036854775808 ≤ x)
theorem signbit_any (x : Nat) (hx : x < 2 ^ 64) (w : World) : Calls Try.prog 66 #[.float .f64 x] w fun e w' => e = .returned (.bool (negW x)) ∧ w = w' := by
  have hd : decide (wrap64 (x : Int) < 0) = negW x := by unfold negW; exact decide_eq_decide.2 (by unfold wrap64; omega)
  have H := Lib.hid (show Ending.returned (.bool (decide (wrap64 (x : Int) < 0))) = .returned (.bool (negW x)) by rw [hd])
  clear hd hx
  go_enter Try.func66, Try.ntmps66
  go_wp2
  go_ret
  exact ⟨H.out, rfl⟩
end Num
end Go.Proofs.Yteodljkcbddehaa
/-
  The reference's Check of a value.
-/
namespace Go.Proofs.Yteodljkcbddehaa
open Go.RowKit
namespace Num
open Ints
set_option linter.unusedSimpArgs false
set_option linter.unusedVariables false
end Num
end Go.Proofs.Yteodljkcbddehaa
/-
  The reference: pairs, on a ledger that is right.
-/
namespace Go.Proofs.Yteodljkcbddehaa
open Go.RowKit
namespace Num
open Ints
set_option linter.unusedSimpArgs false
set_option linter.unusedVariables false
def AccV {n : Nat} (V : VT (n + 1)) : Prop := V.1 = 2 ∧ finV 2 V.2.2.1 = true ∧ negW V.2.2.1 = false
theorem led_mem {w : World} {n : Nat} {v : Value} {ES : List (ByteArray × VT (n + 1))} (h : Rep w (n + 3) v (tableT n ES)) : ∃ p l c, v = .agg #[.int .i64 4, .int .i64 0, .float .f64 0, .string ⟨#[]⟩, .slice p l c] ∧ RepL w (Rep w (n + 2)) p l c (ES.map (pairE n)) := by
  obtain ⟨p, l, c, rfl, _, _, _, _, h⟩ := h
  exact ⟨p, l, c, rfl, h⟩
end Num
end Go.Proofs.Yteodljkcbddehaa
/-
  Ledgers of few accounts are right for the reference.
-/
namespace Go.Proofs.Yteodljkcbddehaa
open Go.RowKit
namespace Num
open Ints
set_option linter.unusedSimpArgs false
set_option linter.unusedVariables false
end Num
end Go.Proofs.Yteodljkcbddehaa
/-
  Regions walked by their states; a list's box that a law goes on with.
-/
namespace Go.Proofs.Yteodljkcbddehaa
open Go.RowKit
namespace Num
open Ints
set_option linter.unusedSimpArgs false
set_option linter.unusedVariables false
theorem repS_step {S : Nat → Prop} {W W' : World} {n : Nat} {v : Value} {T : VT n} (hb : Below W.heap.size W W') (h : RepS S W n v T) : RepS S W' n v T := repS_mono (S := fun b => S b ∧ b < W.heap.size) (fun b h => h.1) _ _ _ (repS_keep (fun b hb' => hb.block b hb'.2) _ _ _ (repS_lt _ _ _ h))
theorem repS_set {S : Nat → Prop} {W : World} {n g : Nat} {v : Value} {T : VT n} {u0 u1 u2 u3 u4 : Value} (h : RepS S W n v T) (hg : ∀ b, S b → b ≠ g) : RepS S (set5 W g 0 u0 u1 u2 u3 u4) n v T := repS_keep (fun b hb => set5_other (hg b hb)) _ _ _ h
def setL : Array Bool → List Nat → Array Bool
  | l, [] => l
  | l, i :: r => setL (l.setIfInBounds i true) r
theorem any_have {P : Program} {md : Region.Mode} {ops : Array Oper} {Q : Exit → Act → World → Prop} {S : World → Prop} {fuel : Nat} {listed : Array Bool} {a : Act} {w : World} (fuel' : Nat) (is : List Nat) (K : Act → Act → World → Prop)
    (h1 : ∀ a' w', K a a' w' → S w' → wpAnyH P md ops Q S fuel' (setL listed is) a' w') (h2 : (∀ a' w', K a a' w' → S w' → wpAnyH P md ops Q S fuel' (setL listed is) a' w') → wpAnyH P md ops Q S fuel listed a w) : wpAnyH P md ops Q S fuel listed a w := h2 h1
theorem any_eq {P : Program} {md : Region.Mode} {ops : Array Oper} {Q : Exit → Act → World → Prop} {S : World → Prop} {fuel : Nat} {listed listed' : Array Bool} {a a' : Act} {w : World} (hl : listed' = listed) (ha : a' = a) (h : wpAnyH P md ops Q S fuel listed' a' w) : wpAnyH P md ops Q S fuel listed a w := by
  subst hl ha
  exact h
def FB (w : World) (sb : Nat) (qs : Option Addr) (ms ds : Nat) (z : World) : Prop := CS z sb (.int .i64 4) (.int .i64 0) (.float .f64 0) (.string ⟨#[]⟩) (.slice qs ms ds) ∧ Below w.heap.size w z ∧ ∀ o, z.frozen? ⟨sb, o, none⟩ = false
theorem fb_step {w x y : World} {sb : Nat} {qs : Option Addr} {ms ds : Nat} (h : FB w sb qs ms ds x) (hb : Below x.heap.size x y) : FB w sb qs ms ds y := ⟨cs_step h.1 hb, bel_step h.2.1 hb, fun o => (hb.frozen (p := ⟨sb, o, none⟩) (show sb < _ from cs_lt h.1)).trans (h.2.2 o)⟩
theorem fb_drew {w x : World} {sb : Nat} {qs : Option Addr} {ms ds : Nat} (h : FB w sb qs ms ds x) : FB w sb qs ms ds x.drew := fb_step h (Below.drew br)
theorem fb_set {w x : World} {sb g : Nat} {qs : Option Addr} {ms ds : Nat} {u0 u1 u2 u3 u4 : Value} (h : FB w sb qs ms ds x) (h1 : sb ≠ g) (h2 : w.heap.size ≤ g) : FB w sb qs ms ds (set5 x g 0 u0 u1 u2 u3 u4) := ⟨cs_other h.1 h1, set5_below h.2.1 h2 _ _ _ _ _, fun o => by unfold set5; simp only [World.frozen?_setCell]; exact h.2.2 o⟩
end Num
end Go.Proofs.Yteodljkcbddehaa
