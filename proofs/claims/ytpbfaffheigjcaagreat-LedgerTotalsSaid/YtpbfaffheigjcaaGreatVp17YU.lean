/-
  Package ledger: run.
-/
import Derived.Test.YtpbfaffheigjcaaGreatVMI
import Derived.Test.YtpbfaffheigjcaaGreatVp16YE
import Derived.Test.YtpbfaffheigjcaaGreatVp13RDa
import Derived.Deep.RegionHeld3
import Derived.RegionTactic
import Derived.Deep.DeepCutAuto
import Derived.Test.YtpbfaffheigjcaaGreatVp12KV
import Derived.Test.YtpbfaffheigjcaaGreatVHI
import Derived.Test.YtpbfaffheigjcaaGreatVp9VSurv
import Derived.Test.YtpbfaffheigjcaaGreatVHH
import Derived.Test.YtpbfaffheigjcaaGreatVp14LD
import Derived.Test.YtpbfaffheigjcaaGreatVp2Flo
namespace Go.Proofs.YtpbfaffheigjcaaGreat
open Go.RowKit
namespace Num
open Ints
set_option linter.unusedSimpArgs false
set_option linter.unusedVariables false
def LQ (w W : World) (n m l : Nat) (L : List (VT (n + 2))) (U : VT (m + 1)) (z : Int) (e : Ending) (w' : World) : Prop := ∃ p c u, e = .returned (.tuple #[.slice p l c, u, .int .i64 z]) ∧ Below W.heap.size W w' ∧ (∀ y, Below w.heap.size w y → Stay W.heap.size w' y → RepL y (Rep y (n + 2)) p l c L) ∧ ∀ y, Below w.heap.size w y → Rep y (m + 1) u U
def LQ1 (w W : World) (n l : Nat) (L : List (VT (n + 2))) (z : Int) (e : Ending) (w' : World) : Prop := ∃ p c, e = .returned (.tuple #[.slice p l c, .int .i64 z]) ∧ Below W.heap.size W w' ∧ ∀ y, Below w.heap.size w y → Stay W.heap.size w' y → RepL y (Rep y (n + 2)) p l c L
def LRun (w : World) (n m l : Nat) (L : List (VT (n + 2))) (U : VT (m + 1)) (z : Int) (e : Ending) (w' : World) : Prop := ∃ p c u, e = .returned (.tuple #[.slice p l c, u, .int .i64 z]) ∧ Below w.heap.size w w' ∧ RepL w' (Rep w' (n + 2)) p l c L ∧ Rep w' (m + 1) u U
set_option maxRecDepth 100000 in
set_option maxHeartbeats 4000000 in
theorem run_open (n m lt : Nat) (p : Option Addr) (l c : Nat) (bl ol cl : Nat) (k : ByteArray) (w : World) (n0 : w.cell? ⟨bl, ol + 3, none⟩ = some (.string k)) (L : List (VT (n + 2))) (z : Int)
    (HT : Hid (∀ W, Below w.heap.size w W → Calls Tryz.prog 53 #[.slice p l c, .string k] W fun e w' => LQ1 w W n lt L z e w')) :
    Calls Tryz.prog 26 #[.slice p l c, .string { data := #[111, 112, 101, 110] }, .slice (some ⟨bl, ol, none⟩) 1 cl] w fun e w' => LRun w n m lt L (nilT m) z e w' := by
  have hbl := cell_lt n0
  have TR1 := Lib.hid (show (fun z0 : World => Zz z0 w.heap.size ∧ Below w.heap.size w z0) (w.alloc (.cells #[.int .i64 0, .int .i64 0, .float .f64 0, .string ⟨#[]⟩, .slice none 0 0] 27)) from ⟨row_alloc w #[.int .i64 0, .int .i64 0, .float .f64 0, .string ⟨#[]⟩, .slice none 0 0] 27, bel_alloc (Below.refl w.heap.size w) _⟩)
  go_enter Tryz.func26, Tryz.ntmps26
  have hltW : w.heap.size < (w.alloc (.cells #[.int .i64 0, .int .i64 0, .float .f64 0, .string ⟨#[]⟩, .slice none 0 0] 27)).heap.size := by rw [World.size_alloc]; omega
  go_wp2_with fail
  go_at_call 53; refine (HT.out _ TR1.out.2).mono ?_; rintro e w1 ⟨pt, ct, rfl, hbw1, hy⟩
  have TR2 := Lib.hid (And.intro (row_step TR1.out.1 hbw1) (bel_step TR1.out.2 hbw1))
  clear TR1
  have TR3 := Lib.hid (show Zz w1 w.heap.size ∧ (Stay (w.alloc (.cells #[.int .i64 0, .int .i64 0, .float .f64 0, .string ⟨#[]⟩, .slice none 0 0] 27)).heap.size w1 w1 ∧ w1.heap.size ≤ w1.heap.size) ∧ Below w.heap.size w w1 from ⟨TR2.out.1, ⟨stay_refl _ _, Nat.le_refl _⟩, TR2.out.2⟩)
  clear TR2
  have HY := Lib.hid hy
  clear hy
  clear hbw1
  obtain ⟨c0_0, c0_1, c0_2, c0_3, c0_4, c0f, c0l⟩ := r7 TR3.out.1
  go_wp2
  refine bodyPost_ret (v := .tuple #[.slice pt lt ct, .agg #[.int .i64 0, .int .i64 0, .float .f64 0, .string ⟨#[]⟩, .slice none 0 0], .int .i64 z]) (by simp [results, Tryz.results26, go_sem, World.cell?_setCell_same, World.cell?_setCell_other, c0_0, c0_1, c0_2, c0_3, c0_4]) rfl ⟨pt, ct, _, rfl, ?_, ?_, repS_rep _ _ _ (nil_rep m (fun _ => True) _)⟩
  · exact set5_below (g := w.heap.size) (o := 0) TR3.out.2.2 (Nat.le_refl _) _ _ _ _ _
  · exact HY.out _ (set5_below (g := w.heap.size) (o := 0) TR3.out.2.2 (Nat.le_refl _) _ _ _ _ _) (stay_set TR3.out.2.1.1 (by omega) _ _ _ _ _)
set_option maxRecDepth 100000 in
set_option maxHeartbeats 4000000 in
theorem run_deposit (n m lt : Nat) (p : Option Addr) (l c : Nat) (bl ol cl : Nat) (k : ByteArray) (K3 I3 : Int) (F3 : Nat) (S3 : ByteArray) (q3 : Option Addr) (m3 d3 : Nat) (w : World) (n0 : w.cell? ⟨bl, ol + 3, none⟩ = some (.string k)) (v0 : w.cell? ⟨bl, ol + 5, none⟩ = some (.int .i64 K3)) (v1 : w.cell? ⟨bl, ol + 5 + 1, none⟩ = some (.int .i64 I3)) (v2 : w.cell? ⟨bl, ol + 5 + 2, none⟩ = some (.float .f64 F3)) (v3 : w.cell? ⟨bl, ol + 5 + 3, none⟩ = some (.string S3)) (v4 : w.cell? ⟨bl, ol + 5 + 4, none⟩ = some (.slice q3 m3 d3)) (L : List (VT (n + 2))) (U : VT (m + 1)) (z : Int)
    (HT : Hid (∀ W, Below w.heap.size w W → Calls Tryz.prog 55 #[.slice p l c, .string k, .agg #[.int .i64 K3, .int .i64 I3, .float .f64 F3, .string S3, .slice q3 m3 d3]] W fun e w' => LQ w W n m lt L U z e w')) :
    Calls Tryz.prog 26 #[.slice p l c, .string { data := #[100, 101, 112, 111, 115, 105, 116] }, .slice (some ⟨bl, ol, none⟩) 2 cl] w fun e w' => LRun w n m lt L U z e w' := by
  have hbl := cell_lt v0
  have TR1 := Lib.hid (show (fun z0 : World => Zz z0 w.heap.size ∧ Below w.heap.size w z0) (w.alloc (.cells #[.int .i64 0, .int .i64 0, .float .f64 0, .string ⟨#[]⟩, .slice none 0 0] 27)) from ⟨row_alloc w #[.int .i64 0, .int .i64 0, .float .f64 0, .string ⟨#[]⟩, .slice none 0 0] 27, bel_alloc (Below.refl w.heap.size w) _⟩)
  go_enter Tryz.func26, Tryz.ntmps26
  go_upto_region 10 with fail
  have hltW : w.heap.size < (w.alloc (.cells #[.int .i64 0, .int .i64 0, .float .f64 0, .string ⟨#[]⟩, .slice none 0 0] 27)).drew.heap.size := by rw [World.size_drew, World.size_alloc]; omega
  have TR2 := Lib.hid (And.intro (row_step TR1.out.1 (Below.drew br)) (bel_step TR1.out.2 (Below.drew br)))
  clear TR1
  refine wp_region_held_drew (S := (fun z => z.cell? ⟨bl, ol + 3, none⟩ = some (.string k) ∧ z.cell? ⟨bl, ol + 5, none⟩ = some (.int .i64 K3) ∧ z.cell? ⟨bl, ol + 5 + 1, none⟩ = some (.int .i64 I3) ∧ z.cell? ⟨bl, ol + 5 + 2, none⟩ = some (.float .f64 F3) ∧ z.cell? ⟨bl, ol + 5 + 3, none⟩ = some (.string S3) ∧ z.cell? ⟨bl, ol + 5 + 4, none⟩ = some (.slice q3 m3 d3))) (by kernel_rfl) ?_ (fun hH => ?_)
  · exact ⟨ck TR2.out.2 n0, ck TR2.out.2 v0, ck TR2.out.2 v1, ck TR2.out.2 v2, ck TR2.out.2 v3, ck TR2.out.2 v4⟩
  refine zt [0, 1, 2, 3, 4, 5, 6, 7] ?_
  iterate 8 (refine zt1 (fun _ _ d _ _ h => by cases d <;> exact h) (by simp only [lk0, lk1, lk2]; rfl) (by kernel_rfl) (by assumption) (by rfl) (fun w h => by (try dsimp only at h); go_simp; (try with_reducible rfl)) ?_; (try simp only [Act.put, pk0, pk1, pk2]))
  refine zt0 ?_
  refine zr1 8 (by kernel_rfl) (by simp only [lk0, lk1, lk2]; rfl) (fun K hK => ?_)
  go_simp
  go_at_call 55; refine (HT.out _ TR2.out.2).mono ?_; rintro e w11 ⟨pt, ct, uu, rfl, hbw11, hy, hu⟩
  have TR3 := Lib.hid (And.intro (row_step TR2.out.1 hbw11) (bel_step TR2.out.2 hbw11))
  clear TR2
  have TR4 := Lib.hid (show Zz w11 w.heap.size ∧ (Stay (w.alloc (.cells #[.int .i64 0, .int .i64 0, .float .f64 0, .string ⟨#[]⟩, .slice none 0 0] 27)).drew.heap.size w11 w11 ∧ w11.heap.size ≤ w11.heap.size) ∧ Below w.heap.size w w11 from ⟨TR3.out.1, ⟨stay_refl _ _, Nat.le_refl _⟩, TR3.out.2⟩)
  clear TR3
  obtain ⟨Ku, Iu, Fu, Su, qu, mu, du, rfl, _⟩ := rep_shape (hu w br)
  have HY := Lib.hid hy
  have HU := Lib.hid hu
  clear hy hu
  clear hbw11
  go_wp2_with fail
  refine hK.out _ _ ?hsv10_ (fun hH => ?_)
  case hsv10_ => exact ⟨ck TR4.out.2.2 n0, ck TR4.out.2.2 v0, ck TR4.out.2.2 v1, ck TR4.out.2.2 v2, ck TR4.out.2.2 v3, ck TR4.out.2.2 v4⟩
  clear hK K
  (try simp only [Act.put, pk0, pk1, pk2])
  refine zt [9, 10, 11, 12] ?_
  iterate 4 (refine zt1 (fun _ _ d _ _ h => by cases d <;> exact h) (by simp only [lk0, lk1, lk2]; rfl) (by kernel_rfl) (by assumption) (by rfl) (fun w h => by (try dsimp only at h); go_simp; (try with_reducible rfl)) ?_; (try simp only [Act.put, pk0, pk1, pk2]))
  refine zt0 ?_
  refine zr1 13 (by kernel_rfl) (by simp only [lk0, lk1, lk2]; rfl) (fun K hK => ?_)
  obtain ⟨b30, b31, b32, b33, b34, b3f, b3l⟩ := r7 TR4.out.1; go_simp
  have TR5 := Lib.hid (show (fun z0 : World => Zw z0 w.heap.size (.int .i64 Ku) (.int .i64 Iu) (.float .f64 Fu) (.string Su) (.slice qu mu du) ∧ (Stay (w.alloc (.cells #[.int .i64 0, .int .i64 0, .float .f64 0, .string ⟨#[]⟩, .slice none 0 0] 27)).drew.heap.size w11 z0 ∧ w11.heap.size ≤ z0.heap.size) ∧ Below w.heap.size w z0) (((((w11.setCell ⟨w.heap.size, 0, none⟩ (.int .i64 Ku)).setCell ⟨w.heap.size, 1, none⟩ (.int .i64 Iu)).setCell ⟨w.heap.size, 2, none⟩ (.float .f64 Fu)).setCell ⟨w.heap.size, 3, none⟩ (.string Su)).setCell ⟨w.heap.size, 4, none⟩ (.slice qu mu du)) from ⟨s5r TR4.out.1, ⟨stay_set TR4.out.2.1.1 (by omega) (.int .i64 Ku) (.int .i64 Iu) (.float .f64 Fu) (.string Su) (.slice qu mu du), by show _ ≤ (set5 w11 (w.heap.size) 0 (.int .i64 Ku) (.int .i64 Iu) (.float .f64 Fu) (.string Su) (.slice qu mu du)).heap.size; rw [set5_size]; exact TR4.out.2.1.2⟩, s5b TR4.out.2.2 (by omega)⟩)
  clear TR4
  clear b30 b31 b32 b33 b34 b3f b3l
  go_wp2_with fail
  refine hK.out _ _ ?hsv16_ (fun hH => ?_)
  case hsv16_ => exact ⟨ck TR5.out.2.2 n0, ck TR5.out.2.2 v0, ck TR5.out.2.2 v1, ck TR5.out.2.2 v2, ck TR5.out.2.2 v3, ck TR5.out.2.2 v4⟩
  clear hK K
  (try simp only [Act.put, pk0, pk1, pk2])
  refine zt [14] ?_
  refine zt1 (fun _ _ d _ _ h => by cases d <;> exact h) (by simp only [lk0, lk1, lk2]; rfl) (by kernel_rfl) (by assumption) (by rfl) (fun w h => by (try dsimp only at h); go_simp; (try with_reducible rfl)) ?_; (try simp only [Act.put, pk0, pk1, pk2])
  refine zt0 ?_
  refine wpAnyH_done (by kernel_rfl) ?_ _
  revert TR5
  generalize (((((w11.setCell ⟨w.heap.size, 0, none⟩ (.int .i64 Ku)).setCell ⟨w.heap.size, 1, none⟩ (.int .i64 Iu)).setCell ⟨w.heap.size, 2, none⟩ (.float .f64 Fu)).setCell ⟨w.heap.size, 3, none⟩ (.string Su)).setCell ⟨w.heap.size, 4, none⟩ (.slice qu mu du)) = Wf
  intro TR5
  obtain ⟨c0_0, c0_1, c0_2, c0_3, c0_4, c0f, c0l⟩ := r7 TR5.out.1
  go_wp2
  refine bodyPost_ret (v := .tuple #[.slice pt lt ct, .agg #[.int .i64 Ku, .int .i64 Iu, .float .f64 Fu, .string Su, .slice qu mu du], .int .i64 z]) (by simp [results, Tryz.results26, go_sem, c0_0, c0_1, c0_2, c0_3, c0_4]) rfl ⟨pt, ct, _, rfl, TR5.out.2.2, HY.out _ TR5.out.2.2 TR5.out.2.1.1, HU.out _ TR5.out.2.2⟩
set_option maxRecDepth 100000 in
set_option maxHeartbeats 4000000 in
theorem run_transfer (n m lt : Nat) (p : Option Addr) (l c : Nat) (bl ol cl : Nat) (ka kb : ByteArray) (K3 I3 : Int) (F3 : Nat) (S3 : ByteArray) (q3 : Option Addr) (m3 d3 : Nat) (w : World) (n0 : w.cell? ⟨bl, ol + 3, none⟩ = some (.string ka)) (n1 : w.cell? ⟨bl, ol + 5 + 3, none⟩ = some (.string kb)) (v0 : w.cell? ⟨bl, ol + 10, none⟩ = some (.int .i64 K3)) (v1 : w.cell? ⟨bl, ol + 10 + 1, none⟩ = some (.int .i64 I3)) (v2 : w.cell? ⟨bl, ol + 10 + 2, none⟩ = some (.float .f64 F3)) (v3 : w.cell? ⟨bl, ol + 10 + 3, none⟩ = some (.string S3)) (v4 : w.cell? ⟨bl, ol + 10 + 4, none⟩ = some (.slice q3 m3 d3)) (L : List (VT (n + 2))) (U : VT (m + 1)) (z : Int)
    (HT : Hid (∀ W, Below w.heap.size w W → Calls Tryz.prog 56 #[.slice p l c, .string ka, .string kb, .agg #[.int .i64 K3, .int .i64 I3, .float .f64 F3, .string S3, .slice q3 m3 d3]] W fun e w' => LQ w W n m lt L U z e w')) :
    Calls Tryz.prog 26 #[.slice p l c, .string { data := #[116, 114, 97, 110, 115, 102, 101, 114] }, .slice (some ⟨bl, ol, none⟩) 3 cl] w fun e w' => LRun w n m lt L U z e w' := by
  have hbl := cell_lt v0
  have TR1 := Lib.hid (show (fun z0 : World => Zz z0 w.heap.size ∧ Below w.heap.size w z0) (w.alloc (.cells #[.int .i64 0, .int .i64 0, .float .f64 0, .string ⟨#[]⟩, .slice none 0 0] 27)) from ⟨row_alloc w #[.int .i64 0, .int .i64 0, .float .f64 0, .string ⟨#[]⟩, .slice none 0 0] 27, bel_alloc (Below.refl w.heap.size w) _⟩)
  go_enter Tryz.func26, Tryz.ntmps26
  go_upto_region 12 with fail
  have hltW : w.heap.size < (w.alloc (.cells #[.int .i64 0, .int .i64 0, .float .f64 0, .string ⟨#[]⟩, .slice none 0 0] 27)).drew.heap.size := by rw [World.size_drew, World.size_alloc]; omega
  have TR2 := Lib.hid (And.intro (row_step TR1.out.1 (Below.drew br)) (bel_step TR1.out.2 (Below.drew br)))
  clear TR1
  refine wp_region_held_drew (S := (fun z => z.cell? ⟨bl, ol + 3, none⟩ = some (.string ka) ∧ z.cell? ⟨bl, ol + 5 + 3, none⟩ = some (.string kb) ∧ z.cell? ⟨bl, ol + 10, none⟩ = some (.int .i64 K3) ∧ z.cell? ⟨bl, ol + 10 + 1, none⟩ = some (.int .i64 I3) ∧ z.cell? ⟨bl, ol + 10 + 2, none⟩ = some (.float .f64 F3) ∧ z.cell? ⟨bl, ol + 10 + 3, none⟩ = some (.string S3) ∧ z.cell? ⟨bl, ol + 10 + 4, none⟩ = some (.slice q3 m3 d3))) (by kernel_rfl) ?_ (fun hH => ?_)
  · exact ⟨ck TR2.out.2 n0, ck TR2.out.2 n1, ck TR2.out.2 v0, ck TR2.out.2 v1, ck TR2.out.2 v2, ck TR2.out.2 v3, ck TR2.out.2 v4⟩
  refine zt [0, 1, 2, 3, 4, 5, 6, 7, 8, 9, 10, 11] ?_
  iterate 12 (refine zt1 (fun _ _ d _ _ h => by cases d <;> exact h) (by simp only [lk0, lk1, lk2]; rfl) (by kernel_rfl) (by assumption) (by rfl) (fun w h => by (try dsimp only at h); go_simp; (try with_reducible rfl)) ?_; (try simp only [Act.put, pk0, pk1, pk2]))
  refine zt0 ?_
  refine zr1 12 (by kernel_rfl) (by simp only [lk0, lk1, lk2]; rfl) (fun K hK => ?_)
  go_simp
  go_at_call 56; refine (HT.out _ TR2.out.2).mono ?_; rintro e w31 ⟨pt, ct, uu, rfl, hbw31, hy, hu⟩
  have TR3 := Lib.hid (And.intro (row_step TR2.out.1 hbw31) (bel_step TR2.out.2 hbw31))
  clear TR2
  have TR4 := Lib.hid (show Zz w31 w.heap.size ∧ (Stay (w.alloc (.cells #[.int .i64 0, .int .i64 0, .float .f64 0, .string ⟨#[]⟩, .slice none 0 0] 27)).drew.heap.size w31 w31 ∧ w31.heap.size ≤ w31.heap.size) ∧ Below w.heap.size w w31 from ⟨TR3.out.1, ⟨stay_refl _ _, Nat.le_refl _⟩, TR3.out.2⟩)
  clear TR3
  obtain ⟨Ku, Iu, Fu, Su, qu, mu, du, rfl, _⟩ := rep_shape (hu w br)
  have HY := Lib.hid hy
  have HU := Lib.hid hu
  clear hy hu
  clear hbw31
  go_wp2_with fail
  refine hK.out _ _ ?hsv30_ (fun hH => ?_)
  case hsv30_ => exact ⟨ck TR4.out.2.2 n0, ck TR4.out.2.2 n1, ck TR4.out.2.2 v0, ck TR4.out.2.2 v1, ck TR4.out.2.2 v2, ck TR4.out.2.2 v3, ck TR4.out.2.2 v4⟩
  clear hK K
  (try simp only [Act.put, pk0, pk1, pk2])
  refine zt [13, 14, 15, 16] ?_
  iterate 4 (refine zt1 (fun _ _ d _ _ h => by cases d <;> exact h) (by simp only [lk0, lk1, lk2]; rfl) (by kernel_rfl) (by assumption) (by rfl) (fun w h => by (try dsimp only at h); go_simp; (try with_reducible rfl)) ?_; (try simp only [Act.put, pk0, pk1, pk2]))
  refine zt0 ?_
  refine zr1 17 (by kernel_rfl) (by simp only [lk0, lk1, lk2]; rfl) (fun K hK => ?_)
  obtain ⟨b30, b31, b32, b33, b34, b3f, b3l⟩ := r7 TR4.out.1; go_simp
  have TR5 := Lib.hid (show (fun z0 : World => Zw z0 w.heap.size (.int .i64 Ku) (.int .i64 Iu) (.float .f64 Fu) (.string Su) (.slice qu mu du) ∧ (Stay (w.alloc (.cells #[.int .i64 0, .int .i64 0, .float .f64 0, .string ⟨#[]⟩, .slice none 0 0] 27)).drew.heap.size w31 z0 ∧ w31.heap.size ≤ z0.heap.size) ∧ Below w.heap.size w z0) (((((w31.setCell ⟨w.heap.size, 0, none⟩ (.int .i64 Ku)).setCell ⟨w.heap.size, 1, none⟩ (.int .i64 Iu)).setCell ⟨w.heap.size, 2, none⟩ (.float .f64 Fu)).setCell ⟨w.heap.size, 3, none⟩ (.string Su)).setCell ⟨w.heap.size, 4, none⟩ (.slice qu mu du)) from ⟨s5r TR4.out.1, ⟨stay_set TR4.out.2.1.1 (by omega) (.int .i64 Ku) (.int .i64 Iu) (.float .f64 Fu) (.string Su) (.slice qu mu du), by show _ ≤ (set5 w31 (w.heap.size) 0 (.int .i64 Ku) (.int .i64 Iu) (.float .f64 Fu) (.string Su) (.slice qu mu du)).heap.size; rw [set5_size]; exact TR4.out.2.1.2⟩, s5b TR4.out.2.2 (by omega)⟩)
  clear TR4
  clear b30 b31 b32 b33 b34 b3f b3l
  go_wp2_with fail
  refine hK.out _ _ ?hsv36_ (fun hH => ?_)
  case hsv36_ => exact ⟨ck TR5.out.2.2 n0, ck TR5.out.2.2 n1, ck TR5.out.2.2 v0, ck TR5.out.2.2 v1, ck TR5.out.2.2 v2, ck TR5.out.2.2 v3, ck TR5.out.2.2 v4⟩
  clear hK K
  (try simp only [Act.put, pk0, pk1, pk2])
  refine zt [18] ?_
  refine zt1 (fun _ _ d _ _ h => by cases d <;> exact h) (by simp only [lk0, lk1, lk2]; rfl) (by kernel_rfl) (by assumption) (by rfl) (fun w h => by (try dsimp only at h); go_simp; (try with_reducible rfl)) ?_; (try simp only [Act.put, pk0, pk1, pk2])
  refine zt0 ?_
  refine wpAnyH_done (by kernel_rfl) ?_ _
  revert TR5
  generalize (((((w31.setCell ⟨w.heap.size, 0, none⟩ (.int .i64 Ku)).setCell ⟨w.heap.size, 1, none⟩ (.int .i64 Iu)).setCell ⟨w.heap.size, 2, none⟩ (.float .f64 Fu)).setCell ⟨w.heap.size, 3, none⟩ (.string Su)).setCell ⟨w.heap.size, 4, none⟩ (.slice qu mu du)) = Wf
  intro TR5
  obtain ⟨c0_0, c0_1, c0_2, c0_3, c0_4, c0f, c0l⟩ := r7 TR5.out.1
  go_wp2
  refine bodyPost_ret (v := .tuple #[.slice pt lt ct, .agg #[.int .i64 Ku, .int .i64 Iu, .float .f64 Fu, .string Su, .slice qu mu du], .int .i64 z]) (by simp [results, Tryz.results26, go_sem, c0_0, c0_1, c0_2, c0_3, c0_4]) rfl ⟨pt, ct, _, rfl, TR5.out.2.2, HY.out _ TR5.out.2.2 TR5.out.2.1.1, HU.out _ TR5.out.2.2⟩
set_option maxRecDepth 100000 in
set_option maxHeartbeats 4000000 in
theorem run_names (n m : Nat) (p : Option Addr) (l c : Nat) (pl : Option Addr) (cl : Nat) (w : World) (L : List (VT (n + 2))) (HL : Hid (RepL w (Rep w (n + 2)) p l c L)) (U : VT (m + 1))
    (HT : Hid (∀ W, Below w.heap.size w W → Calls Tryz.prog 58 #[.slice p l c] W fun e w' => ∃ u, e = .returned u ∧ Below W.heap.size W w' ∧ ∀ y, Below w.heap.size w y → Stay W.heap.size w' y → Rep y (m + 1) u U)) :
    Calls Tryz.prog 26 #[.slice p l c, .string { data := #[110, 97, 109, 101, 115] }, .slice pl 0 cl] w fun e w' => LRun w n m l L U 0 e w' := by
  have TR1 := Lib.hid (show (fun z0 : World => Zz z0 w.heap.size ∧ Below w.heap.size w z0) (w.alloc (.cells #[.int .i64 0, .int .i64 0, .float .f64 0, .string ⟨#[]⟩, .slice none 0 0] 27)) from ⟨row_alloc w #[.int .i64 0, .int .i64 0, .float .f64 0, .string ⟨#[]⟩, .slice none 0 0] 27, bel_alloc (Below.refl w.heap.size w) _⟩)
  go_enter Tryz.func26, Tryz.ntmps26
  have hltW : w.heap.size < (w.alloc (.cells #[.int .i64 0, .int .i64 0, .float .f64 0, .string ⟨#[]⟩, .slice none 0 0] 27)).heap.size := by rw [World.size_alloc]; omega
  go_wp2_with fail
  go_at_call 58; refine (HT.out _ TR1.out.2).mono ?_; rintro e w38 ⟨uu, rfl, hbw38, hu⟩
  have TR2 := Lib.hid (And.intro (row_step TR1.out.1 hbw38) (bel_step TR1.out.2 hbw38))
  clear TR1
  have TR3 := Lib.hid (show Zz w38 w.heap.size ∧ (Stay (w.alloc (.cells #[.int .i64 0, .int .i64 0, .float .f64 0, .string ⟨#[]⟩, .slice none 0 0] 27)).heap.size w38 w38 ∧ w38.heap.size ≤ w38.heap.size) ∧ Below w.heap.size w w38 from ⟨TR2.out.1, ⟨stay_refl _ _, Nat.le_refl _⟩, TR2.out.2⟩)
  clear TR2
  obtain ⟨Ku, Iu, Fu, Su, qu, mu, du, rfl, _⟩ := rep_shape (hu w38 (bel_step TR3.out.2.2 br) (stay_refl _ _))
  have HU := Lib.hid hu
  clear hu
  clear hbw38
  obtain ⟨c0_0, c0_1, c0_2, c0_3, c0_4, c0f, c0l⟩ := r7 TR3.out.1
  go_wp2
  refine bodyPost_ret (v := .tuple #[.slice p l c, .agg #[.int .i64 Ku, .int .i64 Iu, .float .f64 Fu, .string Su, .slice qu mu du], .int .i64 0]) (by simp [results, Tryz.results26, go_sem, World.cell?_setCell_same, World.cell?_setCell_other, c0_0, c0_1, c0_2, c0_3, c0_4]) rfl ⟨p, c, _, rfl, ?_, ?_, ?_⟩
  · exact set5_below (g := w.heap.size) (o := 0) TR3.out.2.2 (Nat.le_refl _) _ _ _ _ _
  · exact repL_acc (set5_below (g := w.heap.size) (o := 0) TR3.out.2.2 (Nat.le_refl _) _ _ _ _ _) HL.out
  · exact HU.out _ (set5_below (g := w.heap.size) (o := 0) TR3.out.2.2 (Nat.le_refl _) _ _ _ _ _) (stay_set TR3.out.2.1.1 (by omega) _ _ _ _ _)
set_option maxRecDepth 100000 in
set_option maxHeartbeats 4000000 in
theorem run_total (n m : Nat) (p : Option Addr) (l c : Nat) (pl : Option Addr) (cl : Nat) (w : World) (L : List (VT (n + 2))) (HL : Hid (RepL w (Rep w (n + 2)) p l c L)) (U : VT (m + 1))
    (HT : Hid (∀ W, Below w.heap.size w W → Calls Tryz.prog 59 #[.slice p l c] W fun e w' => ∃ u, e = .returned u ∧ Below W.heap.size W w' ∧ ∀ y, Below w.heap.size w y → Stay W.heap.size w' y → Rep y (m + 1) u U)) :
    Calls Tryz.prog 26 #[.slice p l c, .string { data := #[116, 111, 116, 97, 108] }, .slice pl 0 cl] w fun e w' => LRun w n m l L U 0 e w' := by
  have TR1 := Lib.hid (show (fun z0 : World => Zz z0 w.heap.size ∧ Below w.heap.size w z0) (w.alloc (.cells #[.int .i64 0, .int .i64 0, .float .f64 0, .string ⟨#[]⟩, .slice none 0 0] 27)) from ⟨row_alloc w #[.int .i64 0, .int .i64 0, .float .f64 0, .string ⟨#[]⟩, .slice none 0 0] 27, bel_alloc (Below.refl w.heap.size w) _⟩)
  go_enter Tryz.func26, Tryz.ntmps26
  have hltW : w.heap.size < (w.alloc (.cells #[.int .i64 0, .int .i64 0, .float .f64 0, .string ⟨#[]⟩, .slice none 0 0] 27)).heap.size := by rw [World.size_alloc]; omega
  go_wp2_with fail
  go_at_call 59; refine (HT.out _ TR1.out.2).mono ?_; rintro e w39 ⟨uu, rfl, hbw39, hu⟩
  have TR2 := Lib.hid (And.intro (row_step TR1.out.1 hbw39) (bel_step TR1.out.2 hbw39))
  clear TR1
  have TR3 := Lib.hid (show Zz w39 w.heap.size ∧ (Stay (w.alloc (.cells #[.int .i64 0, .int .i64 0, .float .f64 0, .string ⟨#[]⟩, .slice none 0 0] 27)).heap.size w39 w39 ∧ w39.heap.size ≤ w39.heap.size) ∧ Below w.heap.size w w39 from ⟨TR2.out.1, ⟨stay_refl _ _, Nat.le_refl _⟩, TR2.out.2⟩)
  clear TR2
  obtain ⟨Ku, Iu, Fu, Su, qu, mu, du, rfl, _⟩ := rep_shape (hu w39 (bel_step TR3.out.2.2 br) (stay_refl _ _))
  have HU := Lib.hid hu
  clear hu
  clear hbw39
  obtain ⟨c0_0, c0_1, c0_2, c0_3, c0_4, c0f, c0l⟩ := r7 TR3.out.1
  go_wp2
  refine bodyPost_ret (v := .tuple #[.slice p l c, .agg #[.int .i64 Ku, .int .i64 Iu, .float .f64 Fu, .string Su, .slice qu mu du], .int .i64 0]) (by simp [results, Tryz.results26, go_sem, World.cell?_setCell_same, World.cell?_setCell_other, c0_0, c0_1, c0_2, c0_3, c0_4]) rfl ⟨p, c, _, rfl, ?_, ?_, ?_⟩
  · exact set5_below (g := w.heap.size) (o := 0) TR3.out.2.2 (Nat.le_refl _) _ _ _ _ _
  · exact repL_acc (set5_below (g := w.heap.size) (o := 0) TR3.out.2.2 (Nat.le_refl _) _ _ _ _ _) HL.out
  · exact HU.out _ (set5_below (g := w.heap.size) (o := 0) TR3.out.2.2 (Nat.le_refl _) _ _ _ _ _) (stay_set TR3.out.2.1.1 (by omega) _ _ _ _ _)
end Num
end Go.Proofs.YtpbfaffheigjcaaGreat
/-
  Package ledger: Do, its roads.
-/
namespace Go.Proofs.YtpbfaffheigjcaaGreat
open Go.RowKit
namespace Num
open Ints
set_option linter.unusedSimpArgs false
set_option linter.unusedVariables false
set_option maxRecDepth 100000 in
set_option maxHeartbeats 4000000 in
theorem ldo_run (n m lt : Nat) (p : Option Addr) (l c : Nat) (ms : ByteArray) (pl : Option Addr) (ll cl : Nat) (w : World) (HR : Hid (∀ W, Below w.heap.size w W → Calls Tryz.prog 15 #[.agg #[.int .i64 4, .int .i64 0, .float .f64 0, .string ⟨#[]⟩, .slice p l c]] W fun e w' => e = .returned (.bool true) ∧ Below W.heap.size W w'))
    (HA : Hid (∀ W, Below w.heap.size w W → Calls Tryz.prog 25 #[.string { data := #[108, 101, 100, 103, 101, 114] }, .string ms, .slice pl ll cl] W fun e w' => e = .returned (.int .i64 0) ∧ Below W.heap.size W w'))
    (L : List (VT (n + 2))) (U : VT (m + 1)) (HU : Hid (∀ W, Below w.heap.size w W → Calls Tryz.prog 26 #[.slice p l c, .string ms, .slice pl ll cl] W fun e w' => LRun W n m lt L U 0 e w')) (GT : Hid (Cln (n + 3) (4, 0, 0, ⟨#[]⟩, L))) (GU : Hid (Cln (m + 1) U)) :
    Calls Tryz.prog 12 #[.agg #[.int .i64 4, .int .i64 0, .float .f64 0, .string ⟨#[]⟩, .slice p l c], .string ms, .slice pl ll cl] w fun e w' => DoQ w (n + 3) (m + 1) (cleanT (n + 3) (4, 0, 0, ⟨#[]⟩, L)) (cleanT (m + 1) U) 0 e w' := by
  have TR1 := Lib.hid (show (fun z0 : World => ZL z0 w.heap.size p l c ∧ Zz z0 (w.heap.size + 1) ∧ Zz z0 (w.heap.size + 1 + 1) ∧ Below w.heap.size w z0) (((w.alloc (.cells #[.int .i64 4, .int .i64 0, .float .f64 0, .string ⟨#[]⟩, .slice p l c] 27)).alloc (.cells #[.int .i64 0, .int .i64 0, .float .f64 0, .string ⟨#[]⟩, .slice none 0 0] 27)).alloc (.cells #[.int .i64 0, .int .i64 0, .float .f64 0, .string ⟨#[]⟩, .slice none 0 0] 27)) from ⟨row_alloc_step (row_alloc_step (row_alloc w #[.int .i64 4, .int .i64 0, .float .f64 0, .string ⟨#[]⟩, .slice p l c] 27) _) _, (row_alloc_step (ra (by simp only [World.size_alloc, World.size_drew])) _), (ra (by simp only [World.size_alloc, World.size_drew])), bel_alloc (bel_alloc (bel_alloc (Below.refl w.heap.size w) _) _) _⟩)
  go_enter Tryz.func12, Tryz.ntmps12
  go_wp2_with fail
  go_at_call 15; refine (HR.out _ TR1.out.2.2.2).mono ?_; rintro e w1 ⟨rfl, hbw1⟩
  have TR2 := Lib.hid (And.intro (row_step TR1.out.1 hbw1) (And.intro (row_step TR1.out.2.1 hbw1) (And.intro (row_step TR1.out.2.2.1 hbw1) (bel_step TR1.out.2.2.2 hbw1))))
  clear TR1
  clear hbw1
  go_wp2_with fail
  go_at_call 25; refine (HA.out _ TR2.out.2.2.2).mono ?_; rintro e w2 ⟨rfl, hbw2⟩
  have TR3 := Lib.hid (And.intro (row_step TR2.out.1 hbw2) (And.intro (row_step TR2.out.2.1 hbw2) (And.intro (row_step TR2.out.2.2.1 hbw2) (bel_step TR2.out.2.2.2 hbw2))))
  clear TR2
  clear hbw2
  obtain ⟨c0_0, c0_1, c0_2, c0_3, c0_4, c0f, c0l⟩ := r7 TR3.out.1
  go_wp2_with fail
  go_at_call 26; refine (HU.out _ TR3.out.2.2.2).mono ?_; rintro e w3 ⟨pt, ct, uu, rfl, hbw3, hrt, hru⟩
  have TR4 := Lib.hid (And.intro (row_step TR3.out.1 hbw3) (And.intro (row_step TR3.out.2.1 hbw3) (And.intro (row_step TR3.out.2.2.1 hbw3) (bel_step TR3.out.2.2.2 hbw3))))
  clear TR3
  obtain ⟨Ku, Iu, Fu, Su, qu, mu, du, rfl, _⟩ := rep_shape hru
  have HT := Lib.hid hrt
  have HUU := Lib.hid hru
  clear hrt hru
  clear hbw3
  clear c0_0 c0_1 c0_2 c0_3 c0_4 c0f c0l
  go_upto_region 9 with fail
  have hlt3 : w.heap.size < w3.heap.size := row_lt TR4.out.1
  have hlt4 : w.heap.size + 1 < w3.heap.size := row_lt TR4.out.2.1
  have hlt5 : w.heap.size + 1 + 1 < w3.heap.size := row_lt TR4.out.2.2.1
  have hlt6 : w.heap.size ≤ w3.heap.size := TR4.out.2.2.2.size
  have TR5 := Lib.hid (show (fun z0 : World => ZL z0 w.heap.size p l c ∧ Zz z0 (w.heap.size + 1) ∧ Zz z0 (w.heap.size + 1 + 1) ∧ Zw z0 w3.heap.size (.int .i64 Ku) (.int .i64 Iu) (.float .f64 Fu) (.string Su) (.slice qu mu du) ∧ Below w.heap.size w z0) (w3.alloc (.cells #[.int .i64 Ku, .int .i64 Iu, .float .f64 Fu, .string Su, .slice qu mu du] 27)) from ⟨row_alloc_step TR4.out.1 _, row_alloc_step TR4.out.2.1 _, row_alloc_step TR4.out.2.2.1 _, (ra (by simp only [World.size_alloc, World.size_drew])), bel_step TR4.out.2.2.2 (bel_alloc br _)⟩)
  have hb3x := bel_alloc (Below.refl w3.heap.size w3) (.cells #[.int .i64 Ku, .int .i64 Iu, .float .f64 Fu, .string Su, .slice qu mu du] 27)
  have hzx : (w3.alloc (.cells #[.int .i64 Ku, .int .i64 Iu, .float .f64 Fu, .string Su, .slice qu mu du] 27)).heap.size = w3.heap.size + 1 := World.size_alloc _ _
  have HTX := Lib.hid (show (fun z0 : World => ∀ W, Below z0.heap.size z0 W → RepL W (Rep W (n + 2)) pt lt ct L) (w3.alloc (.cells #[.int .i64 Ku, .int .i64 Iu, .float .f64 Fu, .string Su, .slice qu mu du] 27)) from fun W hb => repL_acc (bel_step hb3x hb) HT.out)
  have HUX := Lib.hid (show (fun z0 : World => ∀ W, Below z0.heap.size z0 W → Rep W (m + 1) (.agg #[.int .i64 Ku, .int .i64 Iu, .float .f64 Fu, .string Su, .slice qu mu du]) U) (w3.alloc (.cells #[.int .i64 Ku, .int .i64 Iu, .float .f64 Fu, .string Su, .slice qu mu du] 27)) from fun W hb => rep_keep (bel_step hb3x hb) _ _ _ HUU.out)
  clear hb3x HT HUU
  revert TR5 hzx HTX HUX
  generalize (w3.alloc (.cells #[.int .i64 Ku, .int .i64 Iu, .float .f64 Fu, .string Su, .slice qu mu du] 27)) = Wx
  intro TR5 hzx HTX HUX
  have TR6 := Lib.hid (show ZL Wx w.heap.size p l c ∧ Zz Wx (w.heap.size + 1) ∧ Zz Wx (w.heap.size + 1 + 1) ∧ Zw Wx w3.heap.size (.int .i64 Ku) (.int .i64 Iu) (.float .f64 Fu) (.string Su) (.slice qu mu du) ∧ (Below Wx.heap.size Wx Wx) ∧ Below w.heap.size w Wx from ⟨TR5.out.1, TR5.out.2.1, TR5.out.2.2.1, TR5.out.2.2.2.1, Below.refl _ _, TR5.out.2.2.2.2⟩)
  clear TR5
  have hw3 : w.heap.size ≤ w3.heap.size := by omega
  have TR7 := Lib.hid (And.intro (row_step TR6.out.1 (Below.drew br)) (And.intro (row_step TR6.out.2.1 (Below.drew br)) (And.intro (row_step TR6.out.2.2.1 (Below.drew br)) (And.intro (row_step TR6.out.2.2.2.1 (Below.drew br)) (And.intro (bel_step TR6.out.2.2.2.2.1 (Below.drew br)) (bel_step TR6.out.2.2.2.2.2 (Below.drew br)))))))
  clear TR6
  refine wp_region_held_drew (S := (fun z => z.cell? ⟨w3.heap.size, 0, none⟩ = some (.int .i64 Ku) ∧ z.cell? ⟨w3.heap.size, 1, none⟩ = some (.int .i64 Iu) ∧ z.cell? ⟨w3.heap.size, 2, none⟩ = some (.float .f64 Fu) ∧ z.cell? ⟨w3.heap.size, 3, none⟩ = some (.string Su) ∧ z.cell? ⟨w3.heap.size, 4, none⟩ = some (.slice qu mu du))) (by kernel_rfl) ?_ (fun hH => ?_)
  · exact ⟨rc TR7.out.2.2.2.1 0, rc TR7.out.2.2.2.1 1, rc TR7.out.2.2.2.1 2, rc TR7.out.2.2.2.1 3, rc TR7.out.2.2.2.1 4⟩
  refine zt [0, 3] ?_
  iterate 2 (refine zt1 (fun _ _ d _ _ h => by cases d <;> exact h) (by simp only [lk0, lk1, lk2]; rfl) (by kernel_rfl) (by assumption) (by rfl) (fun w h => by (try dsimp only at h); go_simp; (try with_reducible rfl)) ?_; (try simp only [Act.put, pk0, pk1, pk2]))
  refine zt0 ?_
  refine zr1 1 (by kernel_rfl) (by simp only [lk0, lk1, lk2]; rfl) (fun K hK => ?_)
  go_simp
  go_at_call 28; refine (llist_any _ _ _ _).mono ?_; rintro e w10 ⟨rfl, hbw10⟩
  have TR8 := Lib.hid (And.intro (row_step TR7.out.1 hbw10) (And.intro (row_step TR7.out.2.1 hbw10) (And.intro (row_step TR7.out.2.2.1 hbw10) (And.intro (row_step TR7.out.2.2.2.1 hbw10) (And.intro (bel_step TR7.out.2.2.2.2.1 hbw10) (bel_step TR7.out.2.2.2.2.2 hbw10))))))
  clear TR7
  clear hbw10
  go_wp2_with fail
  refine hK.out _ _ ?hsv9_ (fun hH => ?_)
  case hsv9_ => exact ⟨rc TR8.out.2.2.2.1 0, rc TR8.out.2.2.2.1 1, rc TR8.out.2.2.2.1 2, rc TR8.out.2.2.2.1 3, rc TR8.out.2.2.2.1 4⟩
  clear hK K
  (try simp only [Act.put, pk0, pk1, pk2])
  refine zr1 2 (by kernel_rfl) (by simp only [lk0, lk1, lk2]; rfl) (fun K hK => ?_)
  go_simp
  have hcw0 : w3.heap.size < w10.heap.size := by have h := TR8.out.2.2.2.2.1.size; omega
  go_at_call 27; refine (vclean_any (n + 3) _ (4, 0, 0, ⟨#[]⟩, L) _ (list_rep (HTX.out _ TR8.out.2.2.2.2.1)) GT.out.1 GT.out.2.1 GT.out.2.2).mono ?_; rintro e w12 ⟨v4, rfl, hbw12, hr4⟩
  have TR9 := Lib.hid (And.intro (row_step TR8.out.1 hbw12) (And.intro (row_step TR8.out.2.1 hbw12) (And.intro (row_step TR8.out.2.2.1 hbw12) (And.intro (row_step TR8.out.2.2.2.1 hbw12) (And.intro (bel_step TR8.out.2.2.2.2.1 hbw12) (bel_step TR8.out.2.2.2.2.2 hbw12))))))
  clear TR8
  obtain ⟨Ka, Ia, Fa, Sa, qa, ma, da, rfl, _⟩ := repS_shape hr4
  have HC0 := Lib.hid (repS_lt _ _ _ hr4)
  clear hr4
  have TR10 := Lib.hid (show ZL w12 w.heap.size p l c ∧ Zz w12 (w.heap.size + 1) ∧ Zz w12 (w.heap.size + 1 + 1) ∧ Zw w12 w3.heap.size (.int .i64 Ku) (.int .i64 Iu) (.float .f64 Fu) (.string Su) (.slice qu mu du) ∧ (Below Wx.heap.size Wx w12) ∧ (Stay w10.heap.size w12 w12 ∧ w12.heap.size ≤ w12.heap.size) ∧ Below w.heap.size w w12 from ⟨TR9.out.1, TR9.out.2.1, TR9.out.2.2.1, TR9.out.2.2.2.1, TR9.out.2.2.2.2.1, ⟨stay_refl _ _, Nat.le_refl _⟩, TR9.out.2.2.2.2.2⟩)
  clear TR9
  clear hbw12
  go_wp2_with fail
  refine hK.out _ _ ?hsv11_ (fun hH => ?_)
  case hsv11_ => exact ⟨rc TR10.out.2.2.2.1 0, rc TR10.out.2.2.2.1 1, rc TR10.out.2.2.2.1 2, rc TR10.out.2.2.2.1 3, rc TR10.out.2.2.2.1 4⟩
  clear hK K
  (try simp only [Act.put, pk0, pk1, pk2])
  refine zr1 4 (by kernel_rfl) (by simp only [lk0, lk1, lk2]; rfl) (fun K hK => ?_)
  go_simp
  have hcw1 : w3.heap.size < w12.heap.size := by have h := TR10.out.2.2.2.2.1.size; omega
  go_at_call 27; refine (vclean_any (m + 1) _ U _ (HUX.out _ TR10.out.2.2.2.2.1) GU.out.1 GU.out.2.1 GU.out.2.2).mono ?_; rintro e w14 ⟨v4, rfl, hbw14, hr4⟩
  have TR11 := Lib.hid (show ZL w14 w.heap.size p l c ∧ Zz w14 (w.heap.size + 1) ∧ Zz w14 (w.heap.size + 1 + 1) ∧ Zw w14 w3.heap.size (.int .i64 Ku) (.int .i64 Iu) (.float .f64 Fu) (.string Su) (.slice qu mu du) ∧ (Below Wx.heap.size Wx w14) ∧ (Stay w10.heap.size w12 w14 ∧ w12.heap.size ≤ w14.heap.size) ∧ Below w.heap.size w w14 from ⟨row_step TR10.out.1 hbw14, row_step TR10.out.2.1 hbw14, row_step TR10.out.2.2.1 hbw14, row_step TR10.out.2.2.2.1 hbw14, bel_step TR10.out.2.2.2.2.1 hbw14, ⟨stay_trans TR10.out.2.2.2.2.2.1.1 TR10.out.2.2.2.2.2.1.2 hbw14, Nat.le_trans TR10.out.2.2.2.2.2.1.2 hbw14.size⟩, bel_step TR10.out.2.2.2.2.2.2 hbw14⟩)
  clear TR10
  obtain ⟨Kb, Ib, Fb, Sb, qb, mb, db, rfl, _⟩ := repS_shape hr4
  have HC1 := Lib.hid (repS_lt _ _ _ hr4)
  clear hr4
  have TR12 := Lib.hid (show ZL w14 w.heap.size p l c ∧ Zz w14 (w.heap.size + 1) ∧ Zz w14 (w.heap.size + 1 + 1) ∧ Zw w14 w3.heap.size (.int .i64 Ku) (.int .i64 Iu) (.float .f64 Fu) (.string Su) (.slice qu mu du) ∧ (Below Wx.heap.size Wx w14) ∧ (Stay w10.heap.size w12 w14 ∧ w12.heap.size ≤ w14.heap.size) ∧ (Stay w12.heap.size w14 w14 ∧ w14.heap.size ≤ w14.heap.size) ∧ Below w.heap.size w w14 from ⟨TR11.out.1, TR11.out.2.1, TR11.out.2.2.1, TR11.out.2.2.2.1, TR11.out.2.2.2.2.1, TR11.out.2.2.2.2.2.1, ⟨stay_refl _ _, Nat.le_refl _⟩, TR11.out.2.2.2.2.2.2⟩)
  clear TR11
  clear hbw14
  go_wp2_with fail
  refine hK.out _ _ ?hsv13_ (fun hH => ?_)
  case hsv13_ => exact ⟨rc TR12.out.2.2.2.1 0, rc TR12.out.2.2.2.1 1, rc TR12.out.2.2.2.1 2, rc TR12.out.2.2.2.1 3, rc TR12.out.2.2.2.1 4⟩
  clear hK K
  (try simp only [Act.put, pk0, pk1, pk2])
  refine zr1 5 (by kernel_rfl) (by simp only [lk0, lk1, lk2]; rfl) (fun K hK => ?_)
  have TR13 := Lib.hid (show w14.heap[w.heap.size]? = some (.cells #[.int .i64 4, .int .i64 0, .float .f64 0, .string ⟨#[]⟩, .slice p l c] 27 (0, 0)) ∧ w14.heap[w.heap.size + 1]? = some (.cells #[.int .i64 0, .int .i64 0, .float .f64 0, .string ⟨#[]⟩, .slice none 0 0] 27 (0, 0)) ∧ w14.heap[w.heap.size + 1 + 1]? = some (.cells #[.int .i64 0, .int .i64 0, .float .f64 0, .string ⟨#[]⟩, .slice none 0 0] 27 (0, 0)) ∧ w14.heap[w3.heap.size]? = some (.cells #[.int .i64 Ku, .int .i64 Iu, .float .f64 Fu, .string Su, .slice qu mu du] 27 (0, 0)) ∧ (Stay w10.heap.size w12 w14 ∧ w12.heap.size ≤ w14.heap.size) ∧ (Stay w12.heap.size w14 w14 ∧ w14.heap.size ≤ w14.heap.size) ∧ Below w.heap.size w w14 from ⟨TR12.out.1, TR12.out.2.1, TR12.out.2.2.1, TR12.out.2.2.2.1, TR12.out.2.2.2.2.2.1, TR12.out.2.2.2.2.2.2.1, TR12.out.2.2.2.2.2.2.2⟩);   clear TR12; obtain ⟨b30, b31, b32, b33, b34, b3f, b3l⟩ := r7 TR13.out.2.1; go_simp
  have TR14 := Lib.hid (show (fun z0 : World => ZL z0 w.heap.size p l c ∧ Zw z0 (w.heap.size + 1) (.int .i64 Ka) (.int .i64 Ia) (.float .f64 Fa) (.string Sa) (.slice qa ma da) ∧ Zz z0 (w.heap.size + 1 + 1) ∧ Zw z0 w3.heap.size (.int .i64 Ku) (.int .i64 Iu) (.float .f64 Fu) (.string Su) (.slice qu mu du) ∧ (Stay w10.heap.size w12 z0 ∧ w12.heap.size ≤ z0.heap.size) ∧ (Stay w12.heap.size w14 z0 ∧ w14.heap.size ≤ z0.heap.size) ∧ Below w.heap.size w z0) (((((w14.setCell ⟨w.heap.size + 1, 0, none⟩ (.int .i64 Ka)).setCell ⟨w.heap.size + 1, 1, none⟩ (.int .i64 Ia)).setCell ⟨w.heap.size + 1, 2, none⟩ (.float .f64 Fa)).setCell ⟨w.heap.size + 1, 3, none⟩ (.string Sa)).setCell ⟨w.heap.size + 1, 4, none⟩ (.slice qa ma da)) from ⟨s5o TR13.out.1 (by omega), s5r TR13.out.2.1, s5o TR13.out.2.2.1 (by omega), s5o TR13.out.2.2.2.1 (by omega), ⟨stay_set TR13.out.2.2.2.2.1.1 (by omega) (.int .i64 Ka) (.int .i64 Ia) (.float .f64 Fa) (.string Sa) (.slice qa ma da), by show _ ≤ (set5 w14 (w.heap.size + 1) 0 (.int .i64 Ka) (.int .i64 Ia) (.float .f64 Fa) (.string Sa) (.slice qa ma da)).heap.size; rw [set5_size]; exact TR13.out.2.2.2.2.1.2⟩, ⟨stay_set TR13.out.2.2.2.2.2.1.1 (by omega) (.int .i64 Ka) (.int .i64 Ia) (.float .f64 Fa) (.string Sa) (.slice qa ma da), by show _ ≤ (set5 w14 (w.heap.size + 1) 0 (.int .i64 Ka) (.int .i64 Ia) (.float .f64 Fa) (.string Sa) (.slice qa ma da)).heap.size; rw [set5_size]; exact TR13.out.2.2.2.2.2.1.2⟩, s5b TR13.out.2.2.2.2.2.2 (by omega)⟩)
  clear TR13
  clear b30 b31 b32 b33 b34 b3f b3l
  go_wp2_with fail
  refine hK.out _ _ ?hsv15_ (fun hH => ?_)
  case hsv15_ => exact ⟨rc TR14.out.2.2.2.1 0, rc TR14.out.2.2.2.1 1, rc TR14.out.2.2.2.1 2, rc TR14.out.2.2.2.1 3, rc TR14.out.2.2.2.1 4⟩
  clear hK K
  (try simp only [Act.put, pk0, pk1, pk2])
  refine zr1 6 (by kernel_rfl) (by simp only [lk0, lk1, lk2]; rfl) (fun K hK => ?_)
  obtain ⟨b30, b31, b32, b33, b34, b3f, b3l⟩ := r7 TR14.out.2.2.1; go_simp
  have TR15 := Lib.hid (show (fun z0 : World => ZL z0 w.heap.size p l c ∧ Zw z0 (w.heap.size + 1) (.int .i64 Ka) (.int .i64 Ia) (.float .f64 Fa) (.string Sa) (.slice qa ma da) ∧ Zw z0 (w.heap.size + 1 + 1) (.int .i64 Kb) (.int .i64 Ib) (.float .f64 Fb) (.string Sb) (.slice qb mb db) ∧ Zw z0 w3.heap.size (.int .i64 Ku) (.int .i64 Iu) (.float .f64 Fu) (.string Su) (.slice qu mu du) ∧ (Stay w10.heap.size w12 z0 ∧ w12.heap.size ≤ z0.heap.size) ∧ (Stay w12.heap.size w14 z0 ∧ w14.heap.size ≤ z0.heap.size) ∧ Below w.heap.size w z0) ((((((((((w14.setCell ⟨w.heap.size + 1, 0, none⟩ (.int .i64 Ka)).setCell ⟨w.heap.size + 1, 1, none⟩ (.int .i64 Ia)).setCell ⟨w.heap.size + 1, 2, none⟩ (.float .f64 Fa)).setCell ⟨w.heap.size + 1, 3, none⟩ (.string Sa)).setCell ⟨w.heap.size + 1, 4, none⟩ (.slice qa ma da)).setCell ⟨w.heap.size + 1 + 1, 0, none⟩ (.int .i64 Kb)).setCell ⟨w.heap.size + 1 + 1, 1, none⟩ (.int .i64 Ib)).setCell ⟨w.heap.size + 1 + 1, 2, none⟩ (.float .f64 Fb)).setCell ⟨w.heap.size + 1 + 1, 3, none⟩ (.string Sb)).setCell ⟨w.heap.size + 1 + 1, 4, none⟩ (.slice qb mb db)) from ⟨s5o TR14.out.1 (by omega), s5o TR14.out.2.1 (by omega), s5r TR14.out.2.2.1, s5o TR14.out.2.2.2.1 (by omega), ⟨stay_set TR14.out.2.2.2.2.1.1 (by omega) (.int .i64 Kb) (.int .i64 Ib) (.float .f64 Fb) (.string Sb) (.slice qb mb db), by show _ ≤ (set5 (((((w14.setCell ⟨w.heap.size + 1, 0, none⟩ (.int .i64 Ka)).setCell ⟨w.heap.size + 1, 1, none⟩ (.int .i64 Ia)).setCell ⟨w.heap.size + 1, 2, none⟩ (.float .f64 Fa)).setCell ⟨w.heap.size + 1, 3, none⟩ (.string Sa)).setCell ⟨w.heap.size + 1, 4, none⟩ (.slice qa ma da)) (w.heap.size + 1 + 1) 0 (.int .i64 Kb) (.int .i64 Ib) (.float .f64 Fb) (.string Sb) (.slice qb mb db)).heap.size; rw [set5_size]; exact TR14.out.2.2.2.2.1.2⟩, ⟨stay_set TR14.out.2.2.2.2.2.1.1 (by omega) (.int .i64 Kb) (.int .i64 Ib) (.float .f64 Fb) (.string Sb) (.slice qb mb db), by show _ ≤ (set5 (((((w14.setCell ⟨w.heap.size + 1, 0, none⟩ (.int .i64 Ka)).setCell ⟨w.heap.size + 1, 1, none⟩ (.int .i64 Ia)).setCell ⟨w.heap.size + 1, 2, none⟩ (.float .f64 Fa)).setCell ⟨w.heap.size + 1, 3, none⟩ (.string Sa)).setCell ⟨w.heap.size + 1, 4, none⟩ (.slice qa ma da)) (w.heap.size + 1 + 1) 0 (.int .i64 Kb) (.int .i64 Ib) (.float .f64 Fb) (.string Sb) (.slice qb mb db)).heap.size; rw [set5_size]; exact TR14.out.2.2.2.2.2.1.2⟩, s5b TR14.out.2.2.2.2.2.2 (by omega)⟩)
  clear TR14
  clear b30 b31 b32 b33 b34 b3f b3l
  go_wp2_with fail
  refine hK.out _ _ ?hsv16_ (fun hH => ?_)
  case hsv16_ => exact ⟨rc TR15.out.2.2.2.1 0, rc TR15.out.2.2.2.1 1, rc TR15.out.2.2.2.1 2, rc TR15.out.2.2.2.1 3, rc TR15.out.2.2.2.1 4⟩
  clear hK K
  (try simp only [Act.put, pk0, pk1, pk2])
  refine zt [7] ?_
  refine zt1 (fun _ _ d _ _ h => by cases d <;> exact h) (by simp only [lk0, lk1, lk2]; rfl) (by kernel_rfl) (by assumption) (by rfl) (fun w h => by (try dsimp only at h); go_simp; (try with_reducible rfl)) ?_; (try simp only [Act.put, pk0, pk1, pk2])
  refine zt0 ?_
  refine wpAnyH_done (by kernel_rfl) ?_ _
  revert TR15
  generalize ((((((((((w14.setCell ⟨w.heap.size + 1, 0, none⟩ (.int .i64 Ka)).setCell ⟨w.heap.size + 1, 1, none⟩ (.int .i64 Ia)).setCell ⟨w.heap.size + 1, 2, none⟩ (.float .f64 Fa)).setCell ⟨w.heap.size + 1, 3, none⟩ (.string Sa)).setCell ⟨w.heap.size + 1, 4, none⟩ (.slice qa ma da)).setCell ⟨w.heap.size + 1 + 1, 0, none⟩ (.int .i64 Kb)).setCell ⟨w.heap.size + 1 + 1, 1, none⟩ (.int .i64 Ib)).setCell ⟨w.heap.size + 1 + 1, 2, none⟩ (.float .f64 Fb)).setCell ⟨w.heap.size + 1 + 1, 3, none⟩ (.string Sb)).setCell ⟨w.heap.size + 1 + 1, 4, none⟩ (.slice qb mb db)) = Wf
  intro TR15
  obtain ⟨c1_0, c1_1, c1_2, c1_3, c1_4, c1f, c1l⟩ := r7 TR15.out.2.1
  obtain ⟨c2_0, c2_1, c2_2, c2_3, c2_4, c2f, c2l⟩ := r7 TR15.out.2.2.1
  go_wp2
  refine bodyPost_ret (v := .tuple #[.agg #[.int .i64 Ka, .int .i64 Ia, .float .f64 Fa, .string Sa, .slice qa ma da], .agg #[.int .i64 Kb, .int .i64 Ib, .float .f64 Fb, .string Sb, .slice qb mb db], .int .i64 0]) (by simp [results, Tryz.results12, go_sem, c1_0, c1_1, c1_2, c1_3, c1_4, c2_0, c2_1, c2_2, c2_3, c2_4]) rfl ⟨_, _, rfl, TR15.out.2.2.2.2.2.2, ?_, ?_⟩
  · exact repS_mono (fun b hb => Nat.le_trans hw3 (Nat.le_trans (Nat.le_of_lt hcw0) hb.1)) _ _ _ (repS_keep (fun b hb => TR15.out.2.2.2.2.1.1 b hb.1 hb.2) _ _ _ HC0.out)
  · exact repS_mono (fun b hb => Nat.le_trans hw3 (Nat.le_trans (Nat.le_of_lt hcw1) hb.1)) _ _ _ (repS_keep (fun b hb => TR15.out.2.2.2.2.2.1.1 b hb.1 hb.2) _ _ _ HC1.out)
set_option maxRecDepth 100000 in
set_option maxHeartbeats 4000000 in
theorem ldo_bad (z : Int) (hz : (z != 0) = true) (N M n m lt : Nat) (p : Option Addr) (l c : Nat) (ms : ByteArray) (pl : Option Addr) (ll cl : Nat) (w : World) (HR : Hid (∀ W, Below w.heap.size w W → Calls Tryz.prog 15 #[.agg #[.int .i64 4, .int .i64 0, .float .f64 0, .string ⟨#[]⟩, .slice p l c]] W fun e w' => e = .returned (.bool true) ∧ Below W.heap.size W w'))
    (HA : Hid (∀ W, Below w.heap.size w W → Calls Tryz.prog 25 #[.string { data := #[108, 101, 100, 103, 101, 114] }, .string ms, .slice pl ll cl] W fun e w' => e = .returned (.int .i64 0) ∧ Below W.heap.size W w'))
    (L : List (VT (n + 2))) (U : VT (m + 1)) (HU : Hid (∀ W, Below w.heap.size w W → Calls Tryz.prog 26 #[.slice p l c, .string ms, .slice pl ll cl] W fun e w' => LRun W n m lt L U z e w')) :
    Calls Tryz.prog 12 #[.agg #[.int .i64 4, .int .i64 0, .float .f64 0, .string ⟨#[]⟩, .slice p l c], .string ms, .slice pl ll cl] w fun e w' => DoQ w (N + 1) (M + 1) (nilT N) (nilT M) z e w' := by
  have TR1 := Lib.hid (show (fun z0 : World => ZL z0 w.heap.size p l c ∧ Zz z0 (w.heap.size + 1) ∧ Zz z0 (w.heap.size + 1 + 1) ∧ Below w.heap.size w z0) (((w.alloc (.cells #[.int .i64 4, .int .i64 0, .float .f64 0, .string ⟨#[]⟩, .slice p l c] 27)).alloc (.cells #[.int .i64 0, .int .i64 0, .float .f64 0, .string ⟨#[]⟩, .slice none 0 0] 27)).alloc (.cells #[.int .i64 0, .int .i64 0, .float .f64 0, .string ⟨#[]⟩, .slice none 0 0] 27)) from ⟨row_alloc_step (row_alloc_step (row_alloc w #[.int .i64 4, .int .i64 0, .float .f64 0, .string ⟨#[]⟩, .slice p l c] 27) _) _, (row_alloc_step (ra (by simp only [World.size_alloc, World.size_drew])) _), (ra (by simp only [World.size_alloc, World.size_drew])), bel_alloc (bel_alloc (bel_alloc (Below.refl w.heap.size w) _) _) _⟩)
  go_enter Tryz.func12, Tryz.ntmps12
  go_wp2_with fail
  go_at_call 15; refine (HR.out _ TR1.out.2.2.2).mono ?_; rintro e w18 ⟨rfl, hbw18⟩
  have TR2 := Lib.hid (And.intro (row_step TR1.out.1 hbw18) (And.intro (row_step TR1.out.2.1 hbw18) (And.intro (row_step TR1.out.2.2.1 hbw18) (bel_step TR1.out.2.2.2 hbw18))))
  clear TR1
  clear hbw18
  go_wp2_with fail
  go_at_call 25; refine (HA.out _ TR2.out.2.2.2).mono ?_; rintro e w19 ⟨rfl, hbw19⟩
  have TR3 := Lib.hid (And.intro (row_step TR2.out.1 hbw19) (And.intro (row_step TR2.out.2.1 hbw19) (And.intro (row_step TR2.out.2.2.1 hbw19) (bel_step TR2.out.2.2.2 hbw19))))
  clear TR2
  clear hbw19
  obtain ⟨c0_0, c0_1, c0_2, c0_3, c0_4, c0f, c0l⟩ := r7 TR3.out.1
  go_wp2_with fail
  go_at_call 26; refine (HU.out _ TR3.out.2.2.2).mono ?_; rintro e w3 ⟨pt, ct, uu, rfl, hbw3, hrt, hru⟩
  have TR4 := Lib.hid (And.intro (row_step TR3.out.1 hbw3) (And.intro (row_step TR3.out.2.1 hbw3) (And.intro (row_step TR3.out.2.2.1 hbw3) (bel_step TR3.out.2.2.2 hbw3))))
  clear TR3
  obtain ⟨Ku, Iu, Fu, Su, qu, mu, du, rfl, _⟩ := rep_shape hru
  clear hrt hru
  clear hbw3
  clear c0_0 c0_1 c0_2 c0_3 c0_4 c0f c0l
  go_upto_region 8 with fail
  have hlt20 : w.heap.size < w3.heap.size := row_lt TR4.out.1
  have hlt21 : w.heap.size + 1 < w3.heap.size := row_lt TR4.out.2.1
  have hlt22 : w.heap.size + 1 + 1 < w3.heap.size := row_lt TR4.out.2.2.1
  have hlt23 : w.heap.size ≤ w3.heap.size := TR4.out.2.2.2.size
  have TR5 := Lib.hid (show (fun z0 : World => ZL z0 w.heap.size p l c ∧ Zz z0 (w.heap.size + 1) ∧ Zz z0 (w.heap.size + 1 + 1) ∧ Zw z0 w3.heap.size (.int .i64 Ku) (.int .i64 Iu) (.float .f64 Fu) (.string Su) (.slice qu mu du) ∧ Below w.heap.size w z0) (w3.alloc (.cells #[.int .i64 Ku, .int .i64 Iu, .float .f64 Fu, .string Su, .slice qu mu du] 27)) from ⟨row_alloc_step TR4.out.1 _, row_alloc_step TR4.out.2.1 _, row_alloc_step TR4.out.2.2.1 _, (ra (by simp only [World.size_alloc, World.size_drew])), bel_step TR4.out.2.2.2 (bel_alloc br _)⟩)
  revert TR5
  generalize (w3.alloc (.cells #[.int .i64 Ku, .int .i64 Iu, .float .f64 Fu, .string Su, .slice qu mu du] 27)) = Wx
  intro TR5
  obtain ⟨c1_0, c1_1, c1_2, c1_3, c1_4, c1f, c1l⟩ := r7 TR5.out.2.1
  obtain ⟨c2_0, c2_1, c2_2, c2_3, c2_4, c2f, c2l⟩ := r7 TR5.out.2.2.1
  go_wp2
  refine bodyPost_ret (v := .tuple #[.agg #[.int .i64 0, .int .i64 0, .float .f64 0, .string ⟨#[]⟩, .slice none 0 0], .agg #[.int .i64 0, .int .i64 0, .float .f64 0, .string ⟨#[]⟩, .slice none 0 0], .int .i64 z]) (by simp [results, Tryz.results12, go_sem, World.cell?_setCell_same, World.cell?_setCell_other, c1_0, c1_1, c1_2, c1_3, c1_4, c2_0, c2_1, c2_2, c2_3, c2_4]) rfl ⟨_, _, rfl, ?_, nil_rep _ _ _, nil_rep _ _ _⟩
  exact set5_below (g := w.heap.size + 1 + 1) (o := 0) (set5_below (g := w.heap.size + 1) (o := 0) TR5.out.2.2.2.2 (by omega) _ _ _ _ _) (by omega) _ _ _ _ _
end Num
end Go.Proofs.YtpbfaffheigjcaaGreat
/-
  Package ledger: Right, on a ledger that is right.
-/
namespace Go.Proofs.YtpbfaffheigjcaaGreat
open Go.RowKit
namespace Num
open Ints
set_option linter.unusedSimpArgs false
set_option linter.unusedVariables false
def OkL (n : Nat) (ES : List (ByteArray × VT (n + 1))) : Prop := Names (ES.map (·.1)) ∧ ES.length ≤ 32 ∧ ∀ e ∈ ES, AccV e.2
theorem lisName_any (s : ByteArray) (q : Option Addr) (d : Nat) (w : World) (hn : nmV 3 s = true) (hs : s.size ≤ maxLen) : Calls Tryz.prog 73 #[.agg #[.int .i64 3, .int .i64 0, .float .f64 0, .string s, .slice q 0 d]] w fun e w' => e = .returned (.bool true) ∧ Below w.heap.size w w' := by
  unfold nmV at hn
  rw [Bool.and_eq_true, Bool.and_eq_true, decide_eq_true_iff, decide_eq_true_iff, decide_eq_true_iff] at hn
  obtain ⟨_, h1, h2⟩ := hn
  have g1 : (0 : Int) < (s.size : Int) := by omega
  have g2 : (s.size : Int) ≤ 32 := by omega
  unfold maxLen at hs
  go_enter Tryz.func73, Tryz.ntmps73
  go_wp2
  go_ret
  exact ⟨rfl, bel_alloc (Below.refl w.heap.size w) _⟩
theorem isHolding_any (I : Int) (F : Nat) (Z : ByteArray) (q : Option Addr) (m d : Nat) (w : World) (hF : F < 2 ^ 64) (hf : finV 2 F = true) (hs : negW F = false) : Calls Tryz.prog 74 #[.agg #[.int .i64 2, .int .i64 I, .float .f64 F, .string Z, .slice q m d]] w fun e w' => e = .returned (.bool true) ∧ Below w.heap.size w w' := by
  have HF := Lib.hid hF
  have HN := Lib.hid hf
  have HS := Lib.hid (show Calls Tryz.prog 76 #[.float .f64 F] w (fun e w' => e = .returned (.bool false) ∧ w = w') ∧ ∀ W, Calls Tryz.prog 76 #[.float .f64 F] W (fun e w' => e = .returned (.bool false) ∧ W = w') from ⟨by have h := signbit_any F hF w; rw [hs] at h; exact h, fun W => by have h := signbit_any F hF W; rw [hs] at h; exact h⟩)
  have HB := Lib.hid (bel_alloc (Below.refl w.heap.size w) (.cells #[.int .i64 2, .int .i64 I, .float .f64 F, .string Z, .slice q m d] 27))
  have HR := Lib.hid (row_alloc w #[.int .i64 2, .int .i64 I, .float .f64 F, .string Z, .slice q m d] 27)
  clear hF hf hs
  go_enter Tryz.func74, Tryz.ntmps74
  go_wp2_with fail
  go_at_call 106; refine (finite_is HN.out HF.out I Z q m d _).mono ?_; rintro e w1 ⟨rfl, hb1⟩
  have x := row_step HR.out hb1
  have HB1 := Lib.hid (bel_step HB.out hb1)
  have a2 := rc x 2
  have al := row_lt x
  clear hb1 x
  go_wp2_with fail
  go_at_call 76; refine (HS.out.2 _).mono ?_; rintro e w2 ⟨rfl, rfl⟩
  go_wp2
  go_ret
  exact ⟨rfl, HB1.out⟩
set_option maxRecDepth 100000 in
set_option maxHeartbeats 4000000 in
theorem isAccount_any (n : Nat) (v : Value) (s : ByteArray) (V : VT (n + 1)) (w : World) (h : Rep w (n + 2) v (pairT n s V)) (hn : nmV 3 s = true) (ha : AccV V) : Calls Tryz.prog 39 #[v] w fun e w' => e = .returned (.bool true) ∧ Below w.heap.size w w' := by
  obtain ⟨g, o, c, rfl, ⟨c0, c1, c2, c3, q, d, c4, _⟩, hs, K, I, F, Z, q2, m2, d2, ⟨x0, x1, x2, x3, x4⟩, hr⟩ := pair_mem h
  obtain ⟨rfl, hFe, hi⟩ := hold_shape ⟨ha.1, rfl⟩ hr
  have hF : F < 2 ^ 64 := by
    obtain ⟨p', l', c', hv, _, _, h3, _⟩ := hr
    rw [hFe] at h3; exact h3
  have hf : finV 2 F = true := by have := ha.2.1; rw [hFe] at this; exact this
  have hg : negW F = false := by have := ha.2.2; rw [hFe] at this; exact this
  have HH := Lib.hid (fun W => isHolding_any I F Z q2 m2 d2 W hF hf hg)
  have HI := Lib.hid (fun W => lisName_any s q d W hn hs)
  have hlt : g < w.heap.size := cell_lt c0
  have hne : w.heap.size ≠ g := by omega
  have HB := Lib.hid (bel_alloc (Below.refl w.heap.size w) (.cells #[.int .i64 4, .int .i64 0, .float .f64 0, .string ⟨#[]⟩, .slice (some ⟨g, o, none⟩) 2 c] 27))
  have HRW := Lib.hid (row_alloc w #[.int .i64 4, .int .i64 0, .float .f64 0, .string ⟨#[]⟩, .slice (some ⟨g, o, none⟩) 2 c] 27)
  have HX := Lib.hid (show ∀ W, Below w.heap.size w W → W.cell? ⟨g, o + 5, none⟩ = some (.int .i64 2) ∧ W.cell? ⟨g, o + 5 + 1, none⟩ = some (.int .i64 I) ∧ W.cell? ⟨g, o + 5 + 2, none⟩ = some (.float .f64 F) ∧ W.cell? ⟨g, o + 5 + 3, none⟩ = some (.string Z) ∧ W.cell? ⟨g, o + 5 + 4, none⟩ = some (.slice q2 m2 d2) from fun W hb => ⟨ck hb x0, ck hb x1, ck hb x2, ck hb x3, ck hb x4⟩)
  clear h hr x0 x1 x2 x3 x4 hF hf hg hFe hn hs ha hi
  go_enter Tryz.func39, Tryz.ntmps39
  go_wp2_with fail
  go_at_call 73; refine (HI.out _).mono ?_; rintro e w1 ⟨rfl, hb1⟩
  have HB1 := Lib.hid (bel_step HB.out hb1)
  have y := row_step HRW.out hb1
  have y4 := rc y 4
  have yl := row_lt y
  obtain ⟨x0, x1, x2, x3, x4⟩ := HX.out _ HB1.out
  have xl := cell_lt x0
  clear hb1 y HI HB HRW c0 c1 c2 c3 c4
  go_wp2_with fail
  go_at_call 74; refine (HH.out _).mono ?_; rintro e w2 ⟨rfl, hb2⟩
  have HB2 := Lib.hid (bel_step HB1.out hb2)
  clear hb2 x0 x1 x2 x3 x4 y4
  go_wp2
  go_ret
  exact ⟨rfl, HB2.out⟩
def LR0 (n : Nat) (w : World) (sb b off l c eb g o d : Nat) (s : ByteArray) (V : VT (n + 1)) (z : World) : Prop := z.cell? ⟨eb, 0, none⟩ = some (.int .i64 4) ∧ z.cell? ⟨eb, 1, none⟩ = some (.int .i64 0) ∧ z.cell? ⟨eb, 2, none⟩ = some (.float .f64 0) ∧ z.cell? ⟨eb, 3, none⟩ = some (.string ⟨#[]⟩) ∧ z.cell? ⟨eb, 4, none⟩ = some (.slice (some ⟨g, o, none⟩) 2 d) ∧ Below w.heap.size w z ∧ Rep z (n + 2) (.agg #[.int .i64 4, .int .i64 0, .float .f64 0, .string ⟨#[]⟩, .slice (some ⟨g, o, none⟩) 2 d]) (pairT n s V) ∧ z.cell? ⟨sb, 4, none⟩ = some (.slice (some ⟨b, off, none⟩) l c)
theorem lr0_step {n : Nat} {w x y : World} {sb b off l c eb g o d : Nat} {s : ByteArray} {V : VT (n + 1)} (h : LR0 n w sb b off l c eb g o d s V x) (hb : Below x.heap.size x y) : LR0 n w sb b off l c eb g o d s V y :=
  ⟨ck hb h.1, ck hb h.2.1, ck hb h.2.2.1, ck hb h.2.2.2.1, ck hb h.2.2.2.2.1, bel_step h.2.2.2.2.2.1 hb, rep_keep hb _ _ _ h.2.2.2.2.2.2.1, ck hb h.2.2.2.2.2.2.2⟩
theorem lr0_drew {n : Nat} {w x : World} {sb b off l c eb g o d : Nat} {s : ByteArray} {V : VT (n + 1)} (h : LR0 n w sb b off l c eb g o d s V x) : LR0 n w sb b off l c eb g o d s V x.drew := lr0_step h (Below.drew br)
def LR1 (n : Nat) (w : World) (sb b off l c k g' o' d' : Nat) (s' : ByteArray) (V' : VT (n + 1)) (eb g o d : Nat) (s : ByteArray) (V : VT (n + 1)) (z : World) : Prop := z.cell? ⟨b, off + k * 5, none⟩ = some (.int .i64 4) ∧ z.cell? ⟨b, off + k * 5 + 1, none⟩ = some (.int .i64 0) ∧ z.cell? ⟨b, off + k * 5 + 2, none⟩ = some (.float .f64 0) ∧ z.cell? ⟨b, off + k * 5 + 3, none⟩ = some (.string ⟨#[]⟩) ∧ z.cell? ⟨b, off + k * 5 + 4, none⟩ = some (.slice (some ⟨g', o', none⟩) 2 d') ∧ Rep z (n + 2) (.agg #[.int .i64 4, .int .i64 0, .float .f64 0, .string ⟨#[]⟩, .slice (some ⟨g', o', none⟩) 2 d']) (pairT n s' V') ∧ LR0 n w sb b off l c eb g o d s V z
theorem lr1_step {n : Nat} {w x y : World} {sb b off l c k g' o' d' : Nat} {s' : ByteArray} {V' : VT (n + 1)} {eb g o d : Nat} {s : ByteArray} {V : VT (n + 1)} (h : LR1 n w sb b off l c k g' o' d' s' V' eb g o d s V x) (hb : Below x.heap.size x y) : LR1 n w sb b off l c k g' o' d' s' V' eb g o d s V y :=
  ⟨ck hb h.1, ck hb h.2.1, ck hb h.2.2.1, ck hb h.2.2.2.1, ck hb h.2.2.2.2.1, rep_keep hb _ _ _ h.2.2.2.2.2.1, lr0_step h.2.2.2.2.2.2 hb⟩
theorem lr1_drew {n : Nat} {w x : World} {sb b off l c k g' o' d' : Nat} {s' : ByteArray} {V' : VT (n + 1)} {eb g o d : Nat} {s : ByteArray} {V : VT (n + 1)} (h : LR1 n w sb b off l c k g' o' d' s' V' eb g o d s V x) : LR1 n w sb b off l c k g' o' d' s' V' eb g o d s V x.drew := lr1_step h (Below.drew br)
set_option maxRecDepth 100000 in
set_option maxHeartbeats 4000000 in
theorem lright_any (n : Nat) (v : Value) (ES : List (ByteArray × VT (n + 1))) (w : World) (hr : Rep w (n + 3) v (tableT n ES)) (hok : OkL n ES) : Calls Tryz.prog 15 #[v] w fun e w' => e = .returned (.bool true) ∧ Below w.heap.size w w' := by
  obtain ⟨hnm, hl32, hac⟩ := hok
  have HAC := Lib.hid hac
  obtain ⟨p, l, c, rfl, hrl⟩ := led_mem hr
  have HRL := Lib.hid hrl
  have HLEN := Lib.hid (show ES.length = l by have := hrl.1; rw [List.length_map] at this; exact this)
  have HNMS := Lib.hid hnm
  have hl : (l : Int) ≤ 32 := by have := HLEN.out; omega
  have hl0 : (0 : Int) ≤ (l : Int) := by omega
  obtain ⟨oa, hoa⟩ : ∃ o, Obj.cells #[.int .i64 4, .int .i64 0, .float .f64 0, .string ⟨#[]⟩, .slice p l c] 27 = o := ⟨_, rfl⟩
  have HB := Lib.hid (bel_alloc (Below.refl w.heap.size w) oa)
  have ra := row_alloc w #[.int .i64 4, .int .i64 0, .float .f64 0, .string ⟨#[]⟩, .slice p l c] 27
  rw [hoa] at ra
  have HRA := Lib.hid ra
  subst hoa
  clear ra hrl hnm hl32 hr hac
  go_enter Tryz.func15, Tryz.ntmps15
  go_wp2
  have HB1 := HB
  have HRA1 := HRA
  go_loopw [17] (fun iv wr => ∃ i : Nat, i ≤ l ∧ iv = .int .i64 i ∧ Below w.heap.size w wr ∧ wr.cell? ⟨w.heap.size, 4, none⟩ = some (.slice p l c)) (fun iv _ => l - (intOf iv).toNat)
  case atStart => exact ⟨0, by omega, rfl, HB1.out, rc HRA1.out 4⟩
  case round =>
    obtain ⟨i, hil, rfl, hB, hS⟩ := hrel
    by_cases hlt : i < l
    · obtain ⟨b, off, hpb, hit⟩ := HRL.out.2.2.2 (by omega)
      subst hpb
      have hei : i < ES.length := by have := HLEN.out; omega
      obtain ⟨v0, v1, v2, v3, v4, c0, c1, c2, c3, c4, hre⟩ := hit i (by rw [List.length_map]; exact hei)
      rw [List.getElem_map] at hre
      obtain ⟨⟨SS, VV⟩, hsv⟩ : ∃ e, e = ES[i] := ⟨_, rfl⟩
      rw [← hsv] at hre
      have hre' : Rep w (n + 2) (.agg #[v0, v1, v2, v3, v4]) (pairT n SS VV) := hre
      have hmem : i < (ES.map (·.1)).length := by rw [List.length_map]; exact hei
      have hs1 : (ES.map (·.1))[i] = SS := by rw [List.getElem_map, ← hsv]
      have HACC := Lib.hid (show AccV VV from by have := HAC.out (ES[i]) (List.getElem_mem hei); rw [← hsv] at this; exact this)
      have HNM := Lib.hid (show nmV 3 SS = true from HNMS.out.1 SS (by rw [← hs1]; exact List.getElem_mem hmem))
      obtain ⟨g, o, d, rfl, rfl, rfl, rfl, rfl⟩ := pair_shape hre'
      have e0 := ck hB c0; have e1 := ck hB c1; have e2 := ck hB c2; have e3 := ck hB c3; have e4 := ck hB c4
      have elt := cell_lt e0
      have hslt := cell_lt hS
      have hi0 : (0 : Int) ≤ (i : Int) := by omega
      have hil2 : (i : Int) < (l : Int) := by omega
      have hAL := bel_alloc (Below.refl wr.heap.size wr) (.cells #[.int .i64 4, .int .i64 0, .float .f64 0, .string ⟨#[]⟩, .slice (some ⟨g, o, none⟩) 2 d] 27)
      have HB2 := Lib.hid (bel_step hB hAL)
      have hR0 : LR0 n w w.heap.size b off l c wr.heap.size g o d SS VV (wr.alloc (.cells #[.int .i64 4, .int .i64 0, .float .f64 0, .string ⟨#[]⟩, .slice (some ⟨g, o, none⟩) 2 d] 27)) := by
        have hcs := cs_row (row_alloc wr #[.int .i64 4, .int .i64 0, .float .f64 0, .string ⟨#[]⟩, .slice (some ⟨g, o, none⟩) 2 d] 27)
        exact ⟨hcs.1, hcs.2.1, hcs.2.2.1, hcs.2.2.2.1, hcs.2.2.2.2, HB2.out, rep_keep HB2.out _ _ _ hre', ck hAL hS⟩
      rcases Nat.eq_zero_or_pos i with h0 | h0
      · subst h0
        have HE := Lib.hid hR0
        simp only [Nat.zero_mul, Nat.add_zero] at e0 e1 e2 e3 e4
        clear c0 c1 c2 c3 c4 hit hre hre' hR0 hAL
        go_upto_region 6 with fail
        clear e0 e1 e2 e3 e4
        refine wp_region_held_drew (S := (fun z => z.cell? ⟨wr.heap.size, 0, none⟩ = some (.int .i64 4) ∧ z.cell? ⟨wr.heap.size, 1, none⟩ = some (.int .i64 0) ∧ z.cell? ⟨wr.heap.size, 2, none⟩ = some (.float .f64 0) ∧ z.cell? ⟨wr.heap.size, 3, none⟩ = some (.string ⟨#[]⟩) ∧ z.cell? ⟨wr.heap.size, 4, none⟩ = some (.slice (some ⟨g, o, none⟩) 2 d) ∧ Below w.heap.size w z ∧ Rep z (n + 2) (.agg #[.int .i64 4, .int .i64 0, .float .f64 0, .string ⟨#[]⟩, .slice (some ⟨g, o, none⟩) 2 d]) (pairT n SS VV) ∧ z.cell? ⟨w.heap.size, 4, none⟩ = some (.slice (some ⟨b, off, none⟩) l c))) (by kernel_rfl) ?_ (fun hH => ?_)
        · exact lr0_drew HE.out
        refine zt [0] ?_
        refine zt1 (fun _ _ d _ _ h => by cases d <;> exact h) (by simp only [lk0, lk1, lk2]; rfl) (by kernel_rfl) (by assumption) (by rfl) (fun w h => by (try dsimp only at h); go_simp; (try with_reducible rfl)) ?_; (try simp only [Act.put, pk0, pk1, pk2])
        refine zt0 ?_
        refine zr1 1 (by kernel_rfl) (by simp only [lk0, lk1, lk2]; rfl) (fun K hK => ?_)
        go_simp
        go_at_call 39; refine (isAccount_any n _ SS VV _ (show LR0 n w w.heap.size b off l c wr.heap.size g o d SS VV _ from hH).2.2.2.2.2.2.1 HNM.out HACC.out).mono ?_; rintro e w4 ⟨rfl, hb4⟩; have he4 := lr0_step (show LR0 n w w.heap.size b off l c wr.heap.size g o d SS VV _ from hH) hb4; clear hb4
        go_wp2_with fail
        refine hK.out _ _ ?hsa1 (fun hH => ?_)
        case hsa1 => exact he4
        clear hK K
        (try simp only [Act.put, pk0, pk1, pk2])
        refine zt [2, 3, 4, 5, 6] ?_
        iterate 5 (refine zt1 (fun _ _ d _ _ h => by cases d <;> exact h) (by simp only [lk0, lk1, lk2]; rfl) (by kernel_rfl) (by assumption) (by rfl) (fun w h => by (try dsimp only at h); go_simp; (try with_reducible rfl)) ?_; (try simp only [Act.put, pk0, pk1, pk2]))
        refine zt0 ?_
        refine wpAnyH_take (i := 7) (oi := ?_) (v := undef) ?ia7 (by kernel_rfl) ?fa7 ?ra7 ?Qa7 ?ya7 (by assumption) ?ta7
        case ia7 => (simp only [lk0, lk1, lk2]; rfl)
        case fa7 | ra7 => kernel_rfl
        case ya7 => exact Or.inr ⟨by rfl, rfl⟩
        case Qa7 => exact fun _ _ _ h => h
        (try simp only [Act.put, pk0, pk1, pk2])
        refine wpAnyH_take (i := 8) (oi := ?_) (v := undef) ?ia8 (by kernel_rfl) ?fa8 ?ra8 ?Qa8 ?ya8 (by assumption) ?ta8
        case ia8 => (simp only [lk0, lk1, lk2]; rfl)
        case fa8 | ra8 => kernel_rfl
        case ya8 => exact Or.inr ⟨by rfl, rfl⟩
        case Qa8 => exact fun _ _ _ h => h
        (try simp only [Act.put, pk0, pk1, pk2])
        refine wpAnyH_take (i := 9) (oi := ?_) (v := undef) ?ia9 (by kernel_rfl) ?fa9 ?ra9 ?Qa9 ?ya9 (by assumption) ?ta9
        case ia9 => (simp only [lk0, lk1, lk2]; rfl)
        case fa9 | ra9 => kernel_rfl
        case ya9 => exact Or.inr ⟨by rfl, rfl⟩
        case Qa9 => exact fun _ _ _ h => h
        (try simp only [Act.put, pk0, pk1, pk2])
        refine wpAnyH_take (i := 10) (oi := ?_) (v := undef) ?ia10 (by kernel_rfl) ?fa10 ?ra10 ?Qa10 ?ya10 (by assumption) ?ta10
        case ia10 => (simp only [lk0, lk1, lk2]; rfl)
        case fa10 | ra10 => kernel_rfl
        case ya10 => exact Or.inr ⟨by rfl, rfl⟩
        case Qa10 => exact fun _ _ _ h => h
        (try simp only [Act.put, pk0, pk1, pk2])
        refine wpAnyH_take (i := 11) (oi := ?_) (v := undef) ?ia11 (by kernel_rfl) ?fa11 ?ra11 ?Qa11 ?ya11 (by assumption) ?ta11
        case ia11 => (simp only [lk0, lk1, lk2]; rfl)
        case fa11 | ra11 => kernel_rfl
        case ya11 => exact Or.inr ⟨by rfl, rfl⟩
        case Qa11 => exact fun _ _ _ h => h
        (try simp only [Act.put, pk0, pk1, pk2])
        refine wpAnyH_take (i := 12) (oi := ?_) (v := undef) ?ia12 (by kernel_rfl) ?fa12 ?ra12 ?Qa12 ?ya12 (by assumption) ?ta12
        case ia12 => (simp only [lk0, lk1, lk2]; rfl)
        case fa12 | ra12 => kernel_rfl
        case ya12 => exact Or.inr ⟨by rfl, rfl⟩
        case Qa12 => exact fun _ _ _ h => h
        (try simp only [Act.put, pk0, pk1, pk2])
        refine wpAnyH_take (i := 13) (oi := ?_) (v := undef) ?ia13 (by kernel_rfl) ?fa13 ?ra13 ?Qa13 ?ya13 (by assumption) ?ta13
        case ia13 => (simp only [lk0, lk1, lk2]; rfl)
        case fa13 | ra13 => kernel_rfl
        case ya13 => exact Or.inr ⟨by rfl, rfl⟩
        case Qa13 => exact fun _ _ _ h => h
        (try simp only [Act.put, pk0, pk1, pk2])
        refine wpAnyH_take (i := 14) (oi := ?_) (v := undef) ?ia14 (by kernel_rfl) ?fa14 ?ra14 ?Qa14 ?ya14 (by assumption) ?ta14
        case ia14 => (simp only [lk0, lk1, lk2]; rfl)
        case fa14 | ra14 => kernel_rfl
        case ya14 => exact Or.inr ⟨by rfl, rfl⟩
        case Qa14 => exact fun _ _ _ h => h
        (try simp only [Act.put, pk0, pk1, pk2])
        refine wpAnyH_take (i := 15) (oi := ?_) (v := undef) ?ia15 (by kernel_rfl) ?fa15 ?ra15 ?Qa15 ?ya15 (by assumption) ?ta15
        case ia15 => (simp only [lk0, lk1, lk2]; rfl)
        case fa15 | ra15 => kernel_rfl
        case ya15 => exact Or.inr ⟨by rfl, rfl⟩
        case Qa15 => exact fun _ _ _ h => h
        (try simp only [Act.put, pk0, pk1, pk2])
        refine wpAnyH_take (i := 16) (oi := ?_) (v := undef) ?ia16 (by kernel_rfl) ?fa16 ?ra16 ?Qa16 ?ya16 (by assumption) ?ta16
        case ia16 => (simp only [lk0, lk1, lk2]; rfl)
        case fa16 | ra16 => kernel_rfl
        case ya16 => exact Or.inr ⟨by rfl, rfl⟩
        case Qa16 => exact fun _ _ _ h => h
        (try simp only [Act.put, pk0, pk1, pk2])
        refine zt [17, 18] ?_
        iterate 2 (refine zt1 (fun _ _ d _ _ h => by cases d <;> exact h) (by simp only [lk0, lk1, lk2]; rfl) (by kernel_rfl) (by assumption) (by rfl) (fun w h => by (try dsimp only at h); go_simp; (try with_reducible rfl)) ?_; (try simp only [Act.put, pk0, pk1, pk2]))
        refine zt0 ?_
        refine wpAnyH_done (by kernel_rfl) ?_ _
        have HF := Lib.hid (show LR0 n w w.heap.size b off l c wr.heap.size g o d SS VV w4 from he4)
        go_wp2
        go_roundw
        case rel => exact ⟨0 + 1, by omega, by go_num, HF.out.2.2.2.2.2.1, HF.out.2.2.2.2.2.2.2⟩
        case measure => simp [intOf]; omega
      · obtain ⟨k, rfl⟩ : ∃ k, i = k + 1 := ⟨i - 1, by omega⟩
        obtain ⟨u0, u1, u2, u3, u4, d0, d1, d2, d3, d4, hrp⟩ := hit k (by rw [List.length_map]; omega)
        rw [List.getElem_map] at hrp
        obtain ⟨⟨S2, V2⟩, hsv2⟩ : ∃ e, e = ES[k]'(by omega) := ⟨_, rfl⟩
        rw [← hsv2] at hrp
        have hrp' : Rep w (n + 2) (.agg #[u0, u1, u2, u3, u4]) (pairT n S2 V2) := hrp
        have hs2 : (ES.map (·.1))[k]'(by rw [List.length_map]; omega) = S2 := by rw [List.getElem_map, ← hsv2]
        have HLT := Lib.hid (show ltB S2 SS = true by rw [← hs1, ← hs2]; exact HNMS.out.2 k (k + 1) _ _ (by omega))
        obtain ⟨g', o', d', rfl, rfl, rfl, rfl, rfl⟩ := pair_shape hrp'
        have hcc := fun {a : Addr} {v : Value} (h : w.cell? a = some v) => ck HB2.out h
        have HE := Lib.hid (show LR1 n w w.heap.size b off l c k g' o' d' S2 V2 wr.heap.size g o d SS VV (wr.alloc (.cells #[.int .i64 4, .int .i64 0, .float .f64 0, .string ⟨#[]⟩, .slice (some ⟨g, o, none⟩) 2 d] 27)) from ⟨hcc d0, hcc d1, hcc d2, hcc d3, hcc d4, rep_keep HB2.out _ _ _ hrp', hR0⟩)
        have hx0 : Op.bytesLess S2.toList SS.toList = true := HLT.out
        have hw1 : IntKind.i64.wrap (k : Int) = (k : Int) := by rw [IntKind.wrap_i64]; omega
        have hw2 : wrap64 (k : Int) = (k : Int) := by unfold wrap64; omega
        have hk0 : (0 : Int) < ((k + 1 : Nat) : Int) := by omega
        have hk1 : (k : Int) < (l : Int) := by omega
        have hk2 : (0 : Int) ≤ (k : Int) := by omega
        have dlt := cell_lt (hcc d0)
        clear c0 c1 c2 c3 c4 hit hre hre' hR0 hAL d0 d1 d2 d3 d4 hrp hrp' hcc
        go_upto_region 6 with fail
        clear e0 e1 e2 e3 e4
        refine wp_region_held_drew (S := (fun z => z.cell? ⟨b, off + k * 5, none⟩ = some (.int .i64 4) ∧ z.cell? ⟨b, off + k * 5 + 1, none⟩ = some (.int .i64 0) ∧ z.cell? ⟨b, off + k * 5 + 2, none⟩ = some (.float .f64 0) ∧ z.cell? ⟨b, off + k * 5 + 3, none⟩ = some (.string ⟨#[]⟩) ∧ z.cell? ⟨b, off + k * 5 + 4, none⟩ = some (.slice (some ⟨g', o', none⟩) 2 d') ∧ Rep z (n + 2) (.agg #[.int .i64 4, .int .i64 0, .float .f64 0, .string ⟨#[]⟩, .slice (some ⟨g', o', none⟩) 2 d']) (pairT n S2 V2) ∧ z.cell? ⟨wr.heap.size, 0, none⟩ = some (.int .i64 4) ∧ z.cell? ⟨wr.heap.size, 1, none⟩ = some (.int .i64 0) ∧ z.cell? ⟨wr.heap.size, 2, none⟩ = some (.float .f64 0) ∧ z.cell? ⟨wr.heap.size, 3, none⟩ = some (.string ⟨#[]⟩) ∧ z.cell? ⟨wr.heap.size, 4, none⟩ = some (.slice (some ⟨g, o, none⟩) 2 d) ∧ Below w.heap.size w z ∧ Rep z (n + 2) (.agg #[.int .i64 4, .int .i64 0, .float .f64 0, .string ⟨#[]⟩, .slice (some ⟨g, o, none⟩) 2 d]) (pairT n SS VV) ∧ z.cell? ⟨w.heap.size, 4, none⟩ = some (.slice (some ⟨b, off, none⟩) l c))) (by kernel_rfl) ?_ (fun hH => ?_)
        · exact lr1_drew HE.out
        refine zt [0] ?_
        refine zt1 (fun _ _ d _ _ h => by cases d <;> exact h) (by simp only [lk0, lk1, lk2]; rfl) (by kernel_rfl) (by assumption) (by rfl) (fun w h => by (try dsimp only at h); go_simp; (try with_reducible rfl)) ?_; (try simp only [Act.put, pk0, pk1, pk2])
        refine zt0 ?_
        refine zr1 1 (by kernel_rfl) (by simp only [lk0, lk1, lk2]; rfl) (fun K hK => ?_)
        go_simp
        go_at_call 39; refine (isAccount_any n _ SS VV _ (show LR1 n w w.heap.size b off l c k g' o' d' S2 V2 wr.heap.size g o d SS VV _ from hH).2.2.2.2.2.2.2.2.2.2.2.2.1 HNM.out HACC.out).mono ?_; rintro e w4 ⟨rfl, hb4⟩; have he4 := lr1_step (show LR1 n w w.heap.size b off l c k g' o' d' S2 V2 wr.heap.size g o d SS VV _ from hH) hb4; clear hb4
        go_wp2_with fail
        refine hK.out _ _ ?hsb1 (fun hH => ?_)
        case hsb1 => exact he4
        clear hK K
        (try simp only [Act.put, pk0, pk1, pk2])
        refine zt [2, 3, 4, 5, 6, 7, 8, 9, 10, 11, 12, 14] ?_
        iterate 12 (refine zt1 (fun _ _ d _ _ h => by cases d <;> exact h) (by simp only [lk0, lk1, lk2]; rfl) (by kernel_rfl) (by assumption) (by rfl) (fun w h => by (try dsimp only at h); go_simp; (try with_reducible rfl)) ?_; (try simp only [Act.put, pk0, pk1, pk2]))
        refine zt0 ?_
        refine zr1 13 (by kernel_rfl) (by simp only [lk0, lk1, lk2]; rfl) (fun K hK => ?_)
        go_simp
        go_at_call 40; refine (nameOf_any _ _ _ _ _ _ _ S2 _ (by decide) (pair_name he4.2.2.2.2.2.1).2.2.2.2.2).mono ?_; rintro e w5 ⟨rfl, hb5⟩; have he5 := lr1_step he4 hb5; clear hb5
        go_wp2_with fail
        refine hK.out _ _ ?hsb13 (fun hH => ?_)
        case hsb13 => exact he5
        clear hK K
        (try simp only [Act.put, pk0, pk1, pk2])
        refine zr1 15 (by kernel_rfl) (by simp only [lk0, lk1, lk2]; rfl) (fun K hK => ?_)
        go_simp
        go_at_call 40; refine (nameOf_any _ _ _ _ _ _ _ SS _ (by decide) (pair_name he5.2.2.2.2.2.2.2.2.2.2.2.2.1).2.2.2.2.2).mono ?_; rintro e w6 ⟨rfl, hb5⟩; have he6 := lr1_step he5 hb5; clear hb5
        go_wp2_with fail
        refine hK.out _ _ ?hsb15 (fun hH => ?_)
        case hsb15 => exact he6
        clear hK K
        (try simp only [Act.put, pk0, pk1, pk2])
        refine zt [16, 17, 18] ?_
        iterate 3 (refine zt1 (fun _ _ d _ _ h => by cases d <;> exact h) (by simp only [lk0, lk1, lk2]; rfl) (by kernel_rfl) (by assumption) (by rfl) (fun w h => by (try dsimp only at h); go_simp; (try with_reducible rfl)) ?_; (try simp only [Act.put, pk0, pk1, pk2]))
        refine zt0 ?_
        refine wpAnyH_done (by kernel_rfl) ?_ _
        have HF := Lib.hid (show LR1 n w w.heap.size b off l c k g' o' d' S2 V2 wr.heap.size g o d SS VV w6 from he6)
        go_wp2
        go_roundw
        case rel => exact ⟨k + 1 + 1, by omega, by go_num, HF.out.2.2.2.2.2.2.2.2.2.2.2.1, HF.out.2.2.2.2.2.2.2.2.2.2.2.2.2⟩
        case measure => simp [intOf]; omega
    · obtain rfl : i = l := by omega
      go_wp2
      go_ret
      exact ⟨rfl, hB⟩
end Num
end Go.Proofs.YtpbfaffheigjcaaGreat
/-
  Ledgers of few accounts; amounts: plain.
-/
namespace Go.Proofs.YtpbfaffheigjcaaGreat
open Go.RowKit
namespace Num
open Ints
set_option linter.unusedSimpArgs false
set_option linter.unusedVariables false
theorem top_read : FloatKind.f64.format.read 9218868437227405311 = .number false 9007199254740991 971 := by decide +kernel
theorem num_le {m n : Nat} {e : Nat} (h : m ≤ n) : Ieee.Datum.order (.number false m (-1074 + (e : Int))) (.number false n 971) ≠ some .gt ∨ 2045 < e := by
  by_cases he : 2045 < e
  · exact Or.inr he
  · refine Or.inl ?_
    show some (compare (Ieee.signed false m ((-1074 + (e : Int)) - min (-1074 + (e : Int)) 971).toNat) (Ieee.signed false n ((971 : Int) - min (-1074 + (e : Int)) 971).toNat)) ≠ some .gt
    have hm : min (-1074 + (e : Int)) 971 = -1074 + (e : Int) := by omega
    rw [hm]
    have h0 : ((-1074 + (e : Int)) - (-1074 + (e : Int))).toNat = 0 := by omega
    rw [h0, signed_pos, signed_pos, Nat.shiftLeft_zero]
    have hle : m ≤ n <<< ((971 : Int) - (-1074 + (e : Int))).toNat := by
      rw [Nat.shiftLeft_eq]
      exact Nat.le_trans h (Nat.le_mul_of_pos_right _ (Nat.two_pow_pos _))
    intro hh
    have hh' : compare (m : Int) ((n <<< ((971 : Int) - (-1074 + (e : Int))).toNat : Nat) : Int) = .gt := Option.some.inj hh
    rcases Int.lt_or_le (m : Int) ((n <<< ((971 : Int) - (-1074 + (e : Int))).toNat : Nat) : Int) with h1 | h1
    · rw [cmp_lt h1] at hh'; cases hh'
    · have h2 : (m : Int) = ((n <<< ((971 : Int) - (-1074 + (e : Int))).toNat : Nat) : Int) := by omega
      rw [cmp_eq h2] at hh'; cases hh'
theorem inf_no {F : Nat} (h : F < 9218868437227405312) : isInfB F = false := by
  unfold isInfB
  rw [Nat.mod_eq_of_lt (by omega : F < 9223372036854775808)]
  rw [beq_eq_false_iff_ne]
  show (FloatKind.f64.format.read F).order (FloatKind.f64.format.read 9218868437227405311) ≠ some .gt
  rw [top_read]
  rcases read_pos (Nat.le_of_lt h) with ⟨e, hx⟩ | ⟨k, m, e, hx, hk, hm1, hm2⟩ | ⟨e, g⟩
  · rw [e]
    rcases num_le (m := F) (n := 9007199254740991) (e := 0) (by omega) with h1 | h1
    · exact h1
    · omega
  · rw [e]
    rcases num_le (m := m) (n := 9007199254740991) (e := k) (by omega) with h1 | h1
    · exact h1
    · omega
  · omega
theorem fin_pos {F : Nat} (h : F < 9218868437227405312) : finV 2 F = true := by
  show (Flo.feq F F && !isInfB F) = true
  rw [feq_pos (Nat.le_of_lt h), inf_no h]; rfl
theorem fin_inf : finV 2 9218868437227405312 = false := by decide +kernel
theorem fin_le {F : Nat} (h : F ≤ 9218868437227405312) (hf : finV 2 F = true) : F < 9218868437227405312 := by
  rcases Nat.lt_or_eq_of_le h with h1 | h1
  · exact h1
  · rw [h1, fin_inf] at hf; cases hf
theorem neg_pos {F : Nat} (h : F ≤ 9218868437227405312) : negW F = false := by
  unfold negW; rw [decide_eq_false_iff_not]; omega
theorem sign_pos {F : Nat} (hF : F < 2 ^ 64) (hf : finV 2 F = true) (hs : 0 < signF F) : F < 9218868437227405312 := by
  obtain ⟨h1, h2, h3, h4, h5⟩ := dbl_facts
  have hord : FloatKind.f64.format.order F 0 = some .gt := by
    unfold signF at hs
    by_cases c1 : (FloatKind.f64.format.order F 0 == some .lt) = true
    · rw [if_pos c1] at hs; omega
    · rw [if_neg c1] at hs
      by_cases c2 : (FloatKind.f64.format.order F 0 == some .gt) = true
      · simpa using c2
      · rw [if_neg c2] at hs; omega
  have hfe : Flo.feq F F = true ∧ isInfB F = false := by
    have h : (Flo.feq F F && !isInfB F) = true := hf
    rw [Bool.and_eq_true] at h
    exact ⟨h.1, by simpa using h.2⟩
  by_cases hlt : F < 9223372036854775808
  · by_cases hle : F ≤ 9218868437227405312
    · exact fin_le hle hf
    · exfalso
      have hn : (FloatKind.f64.format.read F).isNaN = true := by
        rw [f64_fmt]
        unfold Ieee.Format.read
        simp only [h1, h2, h3, h4]
        rw [Nat.mod_eq_of_lt hlt, if_neg (by omega), if_neg (by omega), if_neg (by omega)]
        rfl
      rw [Flo.feq_nan hn] at hfe
      cases hfe.1
  · exfalso
    have hneg : (F / 9223372036854775808 % 2 == 1) = true := by
      have : F / 9223372036854775808 = 1 := by omega
      rw [this]; rfl
    have hord' : (FloatKind.f64.format.read F).order (.number false 0 (-1074)) = some .gt := by rw [← read_zero]; exact hord
    rw [f64_fmt] at hord'
    unfold Ieee.Format.read at hord'
    simp only [h1, h2, h3, h4] at hord'
    rw [hneg] at hord'
    have num : ∀ (m : Nat) (p : Int), (Ieee.Datum.number true m p).order (.number false 0 (-1074)) ≠ some .gt := by
      intro m p hh
      have hh' : compare (Ieee.signed true m (p - min p (-1074)).toNat) (Ieee.signed false 0 (-1074 - min p (-1074)).toNat) = .gt := Option.some.inj hh
      have e0 : Ieee.signed false 0 (-1074 - min p (-1074)).toNat = 0 := by rw [signed_pos, Nat.zero_shiftLeft]; rfl
      rw [e0, signed_neg] at hh'
      generalize m <<< (p - min p (-1074)).toNat = t at hh'
      rcases Nat.eq_zero_or_pos t with ht | ht
      · rw [cmp_eq (by omega)] at hh'; cases hh'
      · rw [cmp_lt (by omega)] at hh'; cases hh'
    split at hord'
    · exact num _ _ hord'
    · split at hord'
      · exact num _ _ hord'
      · split at hord'
        · cases hord'
        · cases hord'
theorem int_pos {I : Int} (h0 : 0 < I) (h1 : I < 9223372036854775808) : floatOfInt .f64 I < 9218868437227405312 := by
  obtain ⟨d1, d2, d3, d4, d5⟩ := dbl_facts
  have hd : decide (I < 0) = false := by rw [decide_eq_false_iff_not]; omega
  show Ieee.double.nearest (decide (I < 0)) I.natAbs 0 < _
  rw [hd]
  generalize hm : I.natAbs = m
  have hm0 : m ≠ 0 := by omega
  have hm1 : m < 2 ^ 63 := by omega
  unfold Ieee.Format.nearest
  rw [if_neg hm0]
  simp only [d2, d3, d4, d5, word_pos]
  have hl : m.log2 < 63 := (Nat.log2_lt hm0).2 hm1
  have hlast : max (0 + (m.log2 : Int) - ((52 : Nat) : Int)) (-1074) = (m.log2 : Int) - 52 := by omega
  rw [hlast]
  have hk : ∀ x g : Nat, (Ieee.Toward.even.cut false x g) ≤ x / (1 <<< min g (x.log2 + 2)) + 1 := by
    intro x g
    unfold Ieee.Toward.cut
    have : ∀ b : Bool, b.toNat ≤ 1 := by intro b; cases b <;> decide
    exact Nat.add_le_add_left (this _) _
  have hkept : Ieee.Toward.even.cut false (m <<< ((0 : Int) - ((m.log2 : Int) - 52)).toNat) (((m.log2 : Int) - 52) - 0).toNat ≤ 9007199254740992 := by
    have hpow : m < 2 ^ (m.log2 + 1) := Nat.lt_log2_self
    by_cases hc : m.log2 ≤ 52
    · have e1 : ((0 : Int) - ((m.log2 : Int) - 52)).toNat = 52 - m.log2 := by omega
      have e2 : (((m.log2 : Int) - 52) - 0).toNat = 0 := by omega
      rw [e1, e2, cut_zero, Nat.shiftLeft_eq]
      have : m * 2 ^ (52 - m.log2) ≤ 2 ^ (m.log2 + 1) * 2 ^ (52 - m.log2) := Nat.mul_le_mul_right _ (Nat.le_of_lt hpow)
      rw [← Nat.pow_add, show m.log2 + 1 + (52 - m.log2) = 53 by omega] at this
      exact this
    · have e1 : ((0 : Int) - ((m.log2 : Int) - 52)).toNat = 0 := by omega
      have e2 : (((m.log2 : Int) - 52) - 0).toNat = m.log2 - 52 := by omega
      rw [e1, e2, Nat.shiftLeft_zero]
      refine Nat.le_trans (hk _ _) ?_
      have hmin : min (m.log2 - 52) (m.log2 + 2) = m.log2 - 52 := by omega
      rw [hmin, Nat.shiftLeft_eq, Nat.one_mul]
      have : m / 2 ^ (m.log2 - 52) < 9007199254740992 := by
        rw [Nat.div_lt_iff_lt_mul (Nat.two_pow_pos _)]
        have e3 : (9007199254740992 : Nat) * 2 ^ (m.log2 - 52) = 2 ^ (m.log2 + 1) := by
          rw [show (9007199254740992 : Nat) = 2 ^ 53 by decide, ← Nat.pow_add]
          congr 1; omega
        rw [e3]; exact hpow
      omega
  have hz : (((m.log2 : Int) - 52) - (-1074)).toNat ≤ 1084 := by omega
  have hz2 : (((m.log2 : Int) - 52) - (-1074)).toNat * 4503599627370496 ≤ 1084 * 4503599627370496 := Nat.mul_le_mul_right _ hz
  refine Nat.lt_of_le_of_lt (Nat.min_le_left _ _) ?_
  omega
theorem amt_of {K I : Int} {F : Nat} (hF : F < 2 ^ 64) (hi : okI I) (hf : finV K F = true) (hs : 0 < signV K I F) : AmtOk K I F (asF K I F) ∧ asF K I F < 9218868437227405312 := by
  have hb : asF K I F < 9218868437227405312 ∧ (isNum K = true) := by
    by_cases h2 : (K == 2) = true
    · have hK : K = 2 := by simpa using h2
      subst hK
      have hs' : 0 < signF F := hs
      exact ⟨sign_pos hF hf hs', rfl⟩
    · have h1 : (K == 1) = true := by
        unfold finV at hf; rw [if_neg h2] at hf; exact hf
      have hK : K = 1 := by simpa using h1
      subst hK
      have hs' : 0 < signI I := hs
      have h0 : 0 < I := by
        unfold signI at hs'
        by_cases c : I < 0
        · rw [if_pos c] at hs'; omega
        · rw [if_neg c] at hs'
          by_cases c2 : 0 < I
          · exact c2
          · rw [if_neg c2] at hs'; omega
      unfold okI at hi
      exact ⟨int_pos h0 (by omega), rfl⟩
  refine ⟨⟨hF, hi, hf, hs, rfl, ?_⟩, hb.1⟩
  have h1 : (isNum 2 && isNum K) = true := by rw [hb.2]; rfl
  rw [opV_flo h1 rfl]
  show ((2 : Int), (0 : Int), Flo.cop .add 0 (asF K I F), (0 : Int)) = _
  rw [cop_nought hb.1]
def ledA (AS : List (ByteArray × Nat)) : List (ByteArray × VT 1) := AS.map (fun e => (e.1, floT 0 e.2))
def OkA (AS : List (ByteArray × Nat)) : Prop := Names (AS.map (·.1)) ∧ AS.length ≤ 32 ∧ ∀ e ∈ AS, e.2 < 9218868437227405312
theorem ledA_len (AS : List (ByteArray × Nat)) : (ledA AS).length = AS.length := List.length_map _
theorem ledA_names (AS : List (ByteArray × Nat)) : (ledA AS).map (·.1) = AS.map (·.1) := by unfold ledA; rw [List.map_map]; rfl
theorem ledA_mem {AS : List (ByteArray × Nat)} (h : OkA AS) : ∀ e ∈ ledA AS, ∃ F, F < 9218868437227405312 ∧ e.2 = floT 0 F := by
  intro e he
  obtain ⟨x, hx, rfl⟩ := List.mem_map.1 he
  exact ⟨x.2, h.2.2 x hx, rfl⟩
theorem small_flo {F : Nat} (h : F < 9218868437227405312) : SmallV (floT 0 F) := ⟨⟨9, measT_num rfl rfl, by decide, by decide⟩, partsT_else rfl, by
  show ((2, 0, Flo.canon F, ⟨#[]⟩, []) : VT 1) = _
  rw [Flo.canon_yes (feq_pos (Nat.le_of_lt h))]; rfl⟩
theorem acc_flo {F : Nat} (h : F < 9218868437227405312) : AccV (floT 0 F) := ⟨rfl, fin_pos h, neg_pos (Nat.le_of_lt h)⟩
theorem okA_L {AS : List (ByteArray × Nat)} (h : OkA AS) : OkL 0 (ledA AS) := ⟨by rw [ledA_names]; exact h.1, by rw [ledA_len]; exact h.2.1, fun e he => by obtain ⟨F, hF, e2⟩ := ledA_mem h e he; rw [e2]; exact acc_flo hF⟩
theorem okA_R {AS : List (ByteArray × Nat)} (h : OkA AS) : RokLed 0 (ledA AS) := led_small (okA_L h).1 (okA_L h).2.1 (okA_L h).2.2
theorem okA_small {AS : List (ByteArray × Nat)} (h : OkA AS) : ∀ e ∈ ledA AS, SmallV e.2 := fun e he => by obtain ⟨F, hF, e2⟩ := ledA_mem h e he; rw [e2]; exact small_flo hF
theorem okA_cln {AS : List (ByteArray × Nat)} (h : OkA AS) : Cln 3 (tableT 0 (ledA AS)) := by
  have h3 := tab_small (okA_L h).1 (okA_L h).2.1 (okA_small h)
  exact ⟨h3.2.1, h3.2.2, walk_check h3.1⟩
theorem okA_clean {AS : List (ByteArray × Nat)} (h : OkA AS) : cleanT 3 (tableT 0 (ledA AS)) = tableT 0 (ledA AS) := clean_table (fun e he => (okA_small h e he).2.2)
theorem set_ledA (AS : List (ByteArray × Nat)) (i : Nat) (k : ByteArray) (F : Nat) : (ledA AS).set i (k, floT 0 F) = ledA (AS.set i (k, F)) := by unfold ledA; rw [List.map_set]
theorem okA_set {AS : List (ByteArray × Nat)} (h : OkA AS) {i : Nat} (hi : i < AS.length) {k : ByteArray} (hk : (AS[i]).1 = k) {F : Nat} (hF : F < 9218868437227405312) : OkA (AS.set i (k, F)) := by
  have hn : (AS.set i (k, F)).map (·.1) = AS.map (·.1) := by
    rw [List.map_set]
    have : (AS.map (·.1)).set i k = AS.map (·.1) := by
      have hi' : i < (AS.map (·.1)).length := by rw [List.length_map]; exact hi
      have e : (AS.map (·.1))[i]'hi' = k := by rw [List.getElem_map]; exact hk
      rw [← e, List.set_getElem_self]
    exact this
  refine ⟨by rw [hn]; exact h.1, by rw [List.length_set]; exact h.2.1, fun e he => ?_⟩
  rcases List.mem_or_eq_of_mem_set he with h1 | h1
  · exact h.2.2 e h1
  · rw [h1]; exact hF
end Num
end Go.Proofs.YtpbfaffheigjcaaGreat
/-
  Package ledger: Do, method by method, on ledgers of floats.
-/
namespace Go.Proofs.YtpbfaffheigjcaaGreat
open Go.RowKit
namespace Num
open Ints
set_option linter.unusedSimpArgs false
set_option linter.unusedVariables false
def ledC : ByteArray := { data := #[108, 101, 100, 103, 101, 114] }
theorem led_metas : metas ledC = msL := by rfl
theorem name_cell {n : Nat} {k : ByteArray} (hk : nmV 3 k = true) : checkM (measT (n + 1) (nameV n k)) = 0 := (name_light n hk).1
theorem num_light {n : Nat} {K I : Int} {F : Nat} (hK : isNum K = true) : checkM (measT (n + 1) ((K, I, F, ⟨#[]⟩, []) : VT (n + 1))) = 0 ∧ deepT (n + 1) ((K, I, F, ⟨#[]⟩, []) : VT (n + 1)) 64 = false ∧ partsT (n + 1) ((K, I, F, ⟨#[]⟩, []) : VT (n + 1)) ≤ 1000 := by
  have h : K = 1 ∨ K = 2 := by
    unfold isNum at hK
    rw [Bool.or_eq_true] at hK
    rcases hK with h | h
    · exact Or.inl (by simpa using h)
    · exact Or.inr (by simpa using h)
  rcases h with rfl | rfl
  · exact ⟨by rw [measT_num rfl rfl]; rfl, rfl, by show (1 : Nat) ≤ 1000; decide⟩
  · exact ⟨by rw [measT_num rfl rfl]; rfl, rfl, by show (1 : Nat) ≤ 1000; decide⟩
theorem chk_lopen {k : ByteArray} (hk : nmV 3 k = true) : chkA ledC { data := #[111, 112, 101, 110] } 0 [nameV 0 k] = 0 := by
  have h1 : chkL 0 [nameV 0 k] = 0 := by unfold chkL; rw [if_pos (name_cell hk)]; rfl
  unfold chkA
  rw [led_metas]
  show (if (chkL 0 [nameV 0 k] = 0) then (if (nmV 3 k && true) = true then (0 : Int) else 31) else chkL 0 [nameV 0 k]) = 0
  rw [h1, hk]; rfl
theorem chk_ldep {k : ByteArray} {K I : Int} {F : Nat} (hk : nmV 3 k = true) (hK : isNum K = true) : chkA ledC { data := #[100, 101, 112, 111, 115, 105, 116] } 0 [nameV 0 k, (K, I, F, ⟨#[]⟩, [])] = 0 := by
  have h1 : chkL 0 [nameV 0 k, (K, I, F, ⟨#[]⟩, [])] = 0 := by unfold chkL; rw [if_pos (name_cell hk)]; unfold chkL; rw [if_pos (num_light hK).1]; rfl
  unfold chkA
  rw [led_metas]
  show (if (chkL 0 [nameV 0 k, (K, I, F, ⟨#[]⟩, [])] = 0) then (if (nmV 3 k && (isNum K && true)) = true then (0 : Int) else 31) else chkL 0 [nameV 0 k, (K, I, F, ⟨#[]⟩, [])]) = 0
  rw [h1, hk, hK]; rfl
theorem chk_ltra {ka kd : ByteArray} {K I : Int} {F : Nat} (hka : nmV 3 ka = true) (hkd : nmV 3 kd = true) (hK : isNum K = true) : chkA ledC { data := #[116, 114, 97, 110, 115, 102, 101, 114] } 0 [nameV 0 ka, nameV 0 kd, (K, I, F, ⟨#[]⟩, [])] = 0 := by
  have h1 : chkL 0 [nameV 0 ka, nameV 0 kd, (K, I, F, ⟨#[]⟩, [])] = 0 := by unfold chkL; rw [if_pos (name_cell hka)]; unfold chkL; rw [if_pos (name_cell hkd)]; unfold chkL; rw [if_pos (num_light hK).1]; rfl
  unfold chkA
  rw [led_metas]
  show (if (chkL 0 [nameV 0 ka, nameV 0 kd, (K, I, F, ⟨#[]⟩, [])] = 0) then (if (nmV 3 ka && (nmV 3 kd && (isNum K && true))) = true then (0 : Int) else 31) else chkL 0 [nameV 0 ka, nameV 0 kd, (K, I, F, ⟨#[]⟩, [])]) = 0
  rw [h1, hka, hkd, hK]; rfl
theorem chk_lnil (m : ByteArray) (hm : m = { data := #[110, 97, 109, 101, 115] } ∨ m = { data := #[116, 111, 116, 97, 108] }) : chkA ledC m 0 [] = 0 := by
  unfold chkA
  rw [led_metas]
  rcases hm with rfl | rfl <;> rfl
theorem spot_at {NS : List ByteArray} (hn : Names NS) {a : Nat} (ha : a < NS.length) {k : ByteArray} (hk : NS[a] = k) : Spot NS k a true := by
  subst hk
  refine ⟨Nat.le_of_lt ha, fun t ht => ?_, fun _ => beq_self_eq_true _, fun h => absurd ha h⟩
  rcases Nat.lt_trichotomy t a with h | h | h
  · rw [hn.2 t a ht ha h, decide_eq_true h]
  · subst h; rw [ltB_irrefl, decide_eq_false (Nat.lt_irrefl _)]
  · rw [ltB_asymm (hn.2 a t ha ht h), decide_eq_false (by omega)]
theorem nm_size {k : ByteArray} (h : nmV 3 k = true) : k.size ≤ maxLen := by
  unfold nmV at h
  rw [Bool.and_eq_true, Bool.and_eq_true, decide_eq_true_iff, decide_eq_true_iff, decide_eq_true_iff] at h
  unfold maxLen; omega
theorem arg_nth {w : World} {n i : Nat} {bl ol l c : Nat} {L : List (VT (n + 1))} (h : RepL w (Rep w (n + 1)) (some ⟨bl, ol, none⟩) l c L) (hi : i < L.length) : ∃ (K3 I3 : Int) (F3 : Nat) (S3 : ByteArray) (q3 : Option Addr) (m3 d3 : Nat), (w.cell? ⟨bl, ol + i * 5, none⟩ = some (.int .i64 K3) ∧ w.cell? ⟨bl, ol + i * 5 + 1, none⟩ = some (.int .i64 I3) ∧ w.cell? ⟨bl, ol + i * 5 + 2, none⟩ = some (.float .f64 F3) ∧ w.cell? ⟨bl, ol + i * 5 + 3, none⟩ = some (.string S3) ∧ w.cell? ⟨bl, ol + i * 5 + 4, none⟩ = some (.slice q3 m3 d3)) ∧ Rep w (n + 1) (.agg #[.int .i64 K3, .int .i64 I3, .float .f64 F3, .string S3, .slice q3 m3 d3]) L[i] := by
  obtain ⟨h1, h2, h3, h4⟩ := h
  obtain ⟨b, o, hp, hj⟩ := h4 (by omega)
  injection hp with hp
  injection hp with e1 e2
  subst e1 e2
  obtain ⟨v0, v1, v2, v3, v4, c0, c1, c2, c3, c4, hr⟩ := hj i hi
  obtain ⟨K3, I3, F3, S3, q3, m3, d3, hv, _⟩ := rep_shape hr
  injection hv with hv
  simp only [Array.mk.injEq, List.cons.injEq, and_true] at hv
  obtain ⟨rfl, rfl, rfl, rfl, rfl⟩ := hv
  exact ⟨K3, I3, F3, S3, q3, m3, d3, ⟨c0, c1, c2, c3, c4⟩, hr⟩
theorem leaf_is {w : World} {n : Nat} {K3 I3 : Int} {F3 : Nat} {S3 : ByteArray} {q3 : Option Addr} {m3 d3 : Nat} {K I : Int} {F : Nat} {Z : ByteArray} {L : List (VT n)} (h : Rep w (n + 1) (.agg #[.int .i64 K3, .int .i64 I3, .float .f64 F3, .string S3, .slice q3 m3 d3]) (K, I, F, Z, L)) : K3 = K ∧ I3 = I ∧ F3 = F ∧ S3 = Z ∧ okI I ∧ F < 2 ^ 64 := by
  obtain ⟨p, l, c, hv, h1, h2, h3, _⟩ := h
  injection hv with hv
  simp only [Array.mk.injEq, List.cons.injEq, and_true] at hv
  obtain ⟨e1, e2, e3, e4, e5⟩ := hv
  injection e1 with _ e1
  injection e2 with _ e2
  injection e3 with _ e3
  injection e4 with e4
  exact ⟨e1, e2, e3, e4, h2, h3⟩
theorem arg_nm {w : World} {n i : Nat} {bl ol l c : Nat} {L : List (VT (n + 1))} {k : ByteArray} (h : RepL w (Rep w (n + 1)) (some ⟨bl, ol, none⟩) l c L) (hi : i < L.length) (hk : L[i] = nameV n k) : w.cell? ⟨bl, ol + i * 5 + 3, none⟩ = some (.string k) ∧ ∃ b, w.cell? ⟨bl, ol + i * 5, none⟩ = some b := by
  obtain ⟨K3, I3, F3, S3, q3, m3, d3, ⟨c0, c1, c2, c3, c4⟩, hr⟩ := arg_nth h hi
  rw [hk] at hr
  obtain ⟨_, _, _, rfl, _⟩ := leaf_is hr
  exact ⟨c3, _, c0⟩
theorem right_A {AS : List (ByteArray × Nat)} (h : OkA AS) {s : Value} {w : World} (hs : Rep w 3 s (tableT 0 (ledA AS))) : Hid (∀ W, Below w.heap.size w W → Calls Tryz.prog 15 #[s] W fun e w' => e = .returned (.bool true) ∧ Below W.heap.size W w') :=
  Lib.hid (fun W hb => lright_any 0 _ _ W (rep_keep hb _ _ _ hs) (okA_L h))
theorem check_A {m : ByteArray} {L : List (VT 1)} (hc : chkA ledC m 0 L = 0) (hg : GoodL 0 L) {pl : Option Addr} {ll cl : Nat} {w : World} (hr : RepL w (Rep w 1) pl ll cl L) : Hid (∀ W, Below w.heap.size w W → Calls Tryz.prog 25 #[.string { data := #[108, 101, 100, 103, 101, 114] }, .string m, .slice pl ll cl] W fun e w' => e = .returned (.int .i64 0) ∧ Below W.heap.size W w') :=
  Lib.hid (fun W hb => by
    have h := check_args ledC m 0 pl ll cl L W (repL_keep hb (rep_keep hb _) hr) hg
    rw [hc] at h
    exact h)
theorem nil_cln : Cln 1 (nilT 0) := ⟨rfl, by show (1 : Nat) ≤ 1000; decide, rfl⟩
theorem ledA_at {AS : List (ByteArray × Nat)} {a : Nat} (h : a < AS.length) {k : ByteArray} {F : Nat} (hk : AS[a] = (k, F)) (h' : a < (ledA AS).length) : (ledA AS)[a]'h' = (k, floT 0 F) := by
  have e : (ledA AS)[a]'h' = ((AS[a]).1, floT 0 (AS[a]).2) := List.getElem_map _
  rw [e, hk]
theorem len_A {w : World} {p : Option Addr} {l c : Nat} {AS : List (ByteArray × Nat)} (h : RepL w (Rep w 2) p l c ((ledA AS).map (pairE 0))) : (ledA AS).length = l := by have := h.1; rw [List.length_map] at this; exact this
theorem ldo_open {AS : List (ByteArray × Nat)} (hok : OkA AS) {s : Value} {pl : Option Addr} {cl : Nat} {k : ByteArray} {w : World} (hs : Rep w 3 s (tableT 0 (ledA AS))) (hr : RepL w (Rep w 1) pl 1 cl [nameV 0 k]) (hk : nmV 3 k = true) (a : Nat) (hal : a ≤ AS.length) (hsp : Spot (AS.map (·.1)) k a false) (hl : AS.length < 32) (hok2 : OkA (AS.take a ++ ((k, 0) :: AS.drop a))) :
    Calls Tryz.prog 12 #[s, .string { data := #[111, 112, 101, 110] }, .slice pl 1 cl] w fun e w' => DoQ w 3 1 (tableT 0 (ledA (AS.take a ++ ((k, 0) :: AS.drop a)))) (nilT 0) 0 e w' := by
  obtain ⟨p, l, c, rfl, hrl⟩ := led_mem hs
  have hll := len_A hrl
  rw [ledA_len] at hll
  obtain ⟨bl, ol, rfl, _⟩ := hr.2.2.2 (by omega)
  obtain ⟨n0, _⟩ := arg_nm hr (i := 0) (by simp) rfl
  simp only [Nat.zero_mul, Nat.add_zero] at n0
  have hT : (4, 0, 0, ⟨#[]⟩, (((ledA AS).map (pairE 0)).take a ++ ([pairT 0 k (floT 0 0)] ++ ((ledA AS).map (pairE 0)).drop a))) = tableT 0 (ledA (AS.take a ++ ((k, 0) :: AS.drop a))) := by
    unfold tableT ledA
    rw [List.map_append, List.map_append, List.map_cons, List.map_cons, ← List.map_take, ← List.map_drop, ← List.map_take, ← List.map_drop]
    rfl
  have h := ldo_run 0 0 (a + 1 + (l - a)) p l c _ _ 1 cl w (right_A hok hs) (check_A (chk_lopen hk) (by intro T hT; rw [List.mem_singleton.1 hT]; exact (name_light 0 hk).2) hr) (((ledA AS).map (pairE 0)).take a ++ ([pairT 0 k (floT 0 0)] ++ ((ledA AS).map (pairE 0)).drop a)) (nilT 0) (Lib.hid (fun W hb => ?_)) (Lib.hid (by rw [hT]; exact okA_cln hok2)) (Lib.hid nil_cln)
  · rw [hT, okA_clean hok2] at h
    exact h
  · refine run_open 0 0 _ p l c bl ol cl k W (ck hb n0) _ 0 (Lib.hid (fun W2 hb2 => ?_))
    refine (opened_new 0 p l c a k (ledA AS) W W2 (Lib.hid hb2) (Lib.hid (repL_acc hb hrl)) (by omega) (by omega) (by omega) (by rw [ledA_names]; exact hsp) (Lib.hid (txt_repn 0 W (nm_size hk)))).mono ?_
    rintro e w' ⟨p', c', rfl, hb', hn⟩
    exact ⟨p', c', rfl, hb', hn⟩
theorem ldo_deposit {AS : List (ByteArray × Nat)} (hok : OkA AS) {s : Value} {pl : Option Addr} {cl : Nat} {k : ByteArray} {K I : Int} {F FV : Nat} {w : World} (hs : Rep w 3 s (tableT 0 (ledA AS))) (hr : RepL w (Rep w 1) pl 2 cl [nameV 0 k, (K, I, F, ⟨#[]⟩, [])]) (hk : nmV 3 k = true) (hK : isNum K = true) (a : Nat) (hal : a < AS.length) (hka : AS[a] = (k, FV)) (hf : finV K F = true) (hsg : 0 < signV K I F) (hsu : finV 2 (Flo.cop .add FV (asF K I F)) = true) :
    Calls Tryz.prog 12 #[s, .string { data := #[100, 101, 112, 111, 115, 105, 116] }, .slice pl 2 cl] w fun e w' => DoQ w 3 1 (tableT 0 (ledA (AS.set a (k, Flo.cop .add FV (asF K I F))))) (floT 0 (Flo.cop .add FV (asF K I F))) 0 e w' := by
  obtain ⟨p, l, c, rfl, hrl⟩ := led_mem hs
  have hll := len_A hrl
  have hll' := hll
  rw [ledA_len] at hll
  obtain ⟨bl, ol, rfl, _⟩ := hr.2.2.2 (by omega)
  obtain ⟨n0, _⟩ := arg_nm hr (i := 0) (by simp) rfl
  obtain ⟨K3, I3, F3, S3, q3, m3, d3, ⟨v0, v1, v2, v3, v4⟩, hv⟩ := arg_nth hr (i := 1) (by simp)
  obtain ⟨rfl, rfl, rfl, rfl, hi, hF⟩ := leaf_is (show Rep w 1 _ (K, I, F, ⟨#[]⟩, []) from hv)
  simp only [Nat.zero_mul, Nat.one_mul, Nat.add_zero] at n0 v0 v1 v2 v3 v4
  obtain ⟨hA, hG⟩ := amt_of hF hi hf hsg
  have hFV : FV < 9218868437227405312 := by have h := hok.2.2 _ (List.getElem_mem hal); rw [hka] at h; exact h
  have hS := cop_add (Nat.le_of_lt hFV) (Nat.le_of_lt hG)
  have hok2 := okA_set hok hal (k := k) (by rw [hka]) (fin_le hS.1 hsu)
  have hal' : a < (ledA AS).length := by rw [ledA_len]; exact hal
  have hT : (4, 0, 0, ⟨#[]⟩, (((ledA AS).map (pairE 0)).take a ++ ([pairT 0 k (floT 0 (Flo.cop .add FV (asF K3 I3 F3)))] ++ ((ledA AS).map (pairE 0)).drop (a + 1)))) = tableT 0 (ledA (AS.set a (k, Flo.cop .add FV (asF K3 I3 F3)))) := by
    rw [set_at _ a _ (by rw [List.length_map]; exact hal'), ← set_ledA]
    unfold tableT
    rw [List.map_set]; rfl
  have h := ldo_run 0 0 (a + 1 + (l - (a + 1))) p l c _ _ 2 cl w (right_A hok hs) (check_A (chk_ldep hk hK) (by intro T hT; rcases List.mem_cons.1 hT with rfl | hT; exact (name_light 0 hk).2; rw [List.mem_singleton.1 hT]; exact (num_light hK).2) hr) (((ledA AS).map (pairE 0)).take a ++ ([pairT 0 k (floT 0 (Flo.cop .add FV (asF K3 I3 F3)))] ++ ((ledA AS).map (pairE 0)).drop (a + 1))) (floT 0 (Flo.cop .add FV (asF K3 I3 F3))) (Lib.hid (fun W hb => ?_)) (Lib.hid (by rw [hT]; exact okA_cln hok2)) (Lib.hid (small_cln (small_flo (fin_le hS.1 hsu))).2)
  · rw [hT, okA_clean hok2, (small_flo (fin_le hS.1 hsu)).2.2] at h
    exact h
  · refine run_deposit 0 0 _ p l c bl ol cl k K3 I3 F3 ⟨#[]⟩ q3 m3 d3 W (ck hb n0) (ck hb v0) (ck hb v1) (ck hb v2) (ck hb v3) (ck hb v4) _ _ 0 (Lib.hid (fun W2 hb2 => ?_))
    have hrW := repL_acc hb hrl
    obtain ⟨b, off, rfl, _⟩ := hrW.2.2.2 (by omega)
    have hsp : Spot ((ledA AS).map (·.1)) k a true := by rw [ledA_names]; exact spot_at hok.1 (by rw [List.length_map]; exact hal) (by rw [List.getElem_map, hka])
    refine (deposit_ok 0 b off l c a k K3 I3 F3 ⟨#[]⟩ q3 m3 d3 (asF K3 I3 F3) FV (ledA AS) (floT 0 FV) W W2 (Lib.hid hb2) (Lib.hid hrW) (by have := hok.2.1; omega) hal' hll' (ledA_at hal hka _) hsp (Lib.hid hA) ⟨rfl, rfl⟩ hsu (Lib.hid (txt_repn 0 W (nm_size hk))) (Lib.hid (flo_repn 0 W (Flo.cop_lt _ _ _)))).mono ?_
    rintro e w' ⟨p', c', rfl, hb', hn⟩
    exact ⟨p', c', _, rfl, hb', hn, fun y _ => flo_repn 0 y (Flo.cop_lt _ _ _)⟩
end Num
end Go.Proofs.YtpbfaffheigjcaaGreat
