/-
  Package ledger: run.
-/
import Derived.Test.YteodljkcbddehaaJMI
import Derived.Test.YteodljkcbddehaaJYK
import Derived.Test.YteodljkcbddehaaJp13RDa
import Derived.Deep.RegionHeld3
import Derived.RegionTactic
import Derived.Deep.DeepCutAuto
import Derived.Test.YteodljkcbddehaaJp16YI
import Derived.Test.YteodljkcbddehaaJKV
import Derived.Test.YteodljkcbddehaaJHI
import Derived.Test.YteodljkcbddehaaJp9VSurv
import Derived.Test.YteodljkcbddehaaJp2Flo
namespace Go.Proofs.Yteodljkcbddehaa
open Go.RowKit
namespace Num
open Ints
set_option linter.unusedSimpArgs false
set_option linter.unusedVariables false
def LQ (w W : World) (n m l : Nat) (L : List (VT (n + 2))) (U : VT (m + 1)) (z : Int) (e : Ending) (w' : World) : Prop := ∃ p c u, e = .returned (.tuple #[.slice p l c, u, .int .i64 z]) ∧ Below W.heap.size W w' ∧ (∀ y, Below w.heap.size w y → Stay W.heap.size w' y → RepL y (Rep y (n + 2)) p l c L) ∧ ∀ y, Below w.heap.size w y → Rep y (m + 1) u U
def LQ1 (w W : World) (n l : Nat) (L : List (VT (n + 2))) (z : Int) (e : Ending) (w' : World) : Prop := ∃ p c, e = .returned (.tuple #[.slice p l c, .int .i64 z]) ∧ Below W.heap.size W w' ∧ ∀ y, Below w.heap.size w y → Stay W.heap.size w' y → RepL y (Rep y (n + 2)) p l c L
def LRun (w : World) (n m l : Nat) (L : List (VT (n + 2))) (U : VT (m + 1)) (z : Int) (e : Ending) (w' : World) : Prop := ∃ p c u, e = .returned (.tuple #[.slice p l c, u, .int .i64 z]) ∧ Below w.heap.size w w' ∧ RepL w' (Rep w' (n + 2)) p l c L ∧ Rep w' (m + 1) u U
set_option maxRecDepth 100000 in
set_option maxHeartbeats 4000000 in
theorem run_open (n m lt : Nat) (p : Option Addr) (l c : Nat) (bl ol cl : Nat) (k : ByteArray) (w : World) (n0 : w.cell? ⟨bl, ol + 3, none⟩ = some (.string k)) (L : List (VT (n + 2))) (z : Int)
    (HT : Hid (∀ W, Below w.heap.size w W → Calls Try.prog 31 #[.slice p l c, .string k] W fun e w' => LQ1 w W n lt L z e w')) :
    Calls Try.prog 16 #[.slice p l c, .string { data := #[111, 112, 101, 110] }, .slice (some ⟨bl, ol, none⟩) 1 cl] w fun e w' => LRun w n m lt L (nilT m) z e w' := by
  have hbl := cell_lt n0
  have TR1 := Lib.hid (show (fun z0 : World => Zz z0 w.heap.size ∧ Below w.heap.size w z0) (w.alloc (.cells #[.int .i64 0, .int .i64 0, .float .f64 0, .string ⟨#[]⟩, .slice none 0 0] 27)) from ⟨row_alloc w #[.int .i64 0, .int .i64 0, .float .f64 0, .string ⟨#[]⟩, .slice none 0 0] 27, bel_alloc (Below.refl w.heap.size w) _⟩)
  go_enter Try.func16, Try.ntmps16
  have hltW : w.heap.size < (w.alloc (.cells #[.int .i64 0, .int .i64 0, .float .f64 0, .string ⟨#[]⟩, .slice none 0 0] 27)).heap.size := by rw [World.size_alloc]; omega
  go_wp2_with fail
  go_at_call 31; refine (HT.out _ TR1.out.2).mono ?_; rintro e w1 ⟨pt, ct, rfl, hbw1, hy⟩
  have TR2 := Lib.hid (And.intro (row_step TR1.out.1 hbw1) (bel_step TR1.out.2 hbw1))
  clear TR1
  have TR3 := Lib.hid (show Zz w1 w.heap.size ∧ (Stay (w.alloc (.cells #[.int .i64 0, .int .i64 0, .float .f64 0, .string ⟨#[]⟩, .slice none 0 0] 27)).heap.size w1 w1 ∧ w1.heap.size ≤ w1.heap.size) ∧ Below w.heap.size w w1 from ⟨TR2.out.1, ⟨stay_refl _ _, Nat.le_refl _⟩, TR2.out.2⟩)
  clear TR2
  have HY := Lib.hid hy
  clear hy
  clear hbw1
  obtain ⟨c0_0, c0_1, c0_2, c0_3, c0_4, c0f, c0l⟩ := r7 TR3.out.1
  go_wp2
  refine bodyPost_ret (v := .tuple #[.slice pt lt ct, .agg #[.int .i64 0, .int .i64 0, .float .f64 0, .string ⟨#[]⟩, .slice none 0 0], .int .i64 z]) (by simp [results, Try.results16, go_sem, World.cell?_setCell_same, World.cell?_setCell_other, c0_0, c0_1, c0_2, c0_3, c0_4]) rfl ⟨pt, ct, _, rfl, ?_, ?_, repS_rep _ _ _ (nil_rep m (fun _ => True) _)⟩
  · exact set5_below (g := w.heap.size) (o := 0) TR3.out.2.2 (Nat.le_refl _) _ _ _ _ _
  · exact HY.out _ (set5_below (g := w.heap.size) (o := 0) TR3.out.2.2 (Nat.le_refl _) _ _ _ _ _) (stay_set TR3.out.2.1.1 (by omega) _ _ _ _ _)
set_option maxRecDepth 100000 in
set_option maxHeartbeats 4000000 in
theorem run_deposit (n m lt : Nat) (p : Option Addr) (l c : Nat) (bl ol cl : Nat) (k : ByteArray) (K3 I3 : Int) (F3 : Nat) (S3 : ByteArray) (q3 : Option Addr) (m3 d3 : Nat) (w : World) (n0 : w.cell? ⟨bl, ol + 3, none⟩ = some (.string k)) (v0 : w.cell? ⟨bl, ol + 5, none⟩ = some (.int .i64 K3)) (v1 : w.cell? ⟨bl, ol + 5 + 1, none⟩ = some (.int .i64 I3)) (v2 : w.cell? ⟨bl, ol + 5 + 2, none⟩ = some (.float .f64 F3)) (v3 : w.cell? ⟨bl, ol + 5 + 3, none⟩ = some (.string S3)) (v4 : w.cell? ⟨bl, ol + 5 + 4, none⟩ = some (.slice q3 m3 d3)) (L : List (VT (n + 2))) (U : VT (m + 1)) (z : Int)
    (HT : Hid (∀ W, Below w.heap.size w W → Calls Try.prog 33 #[.slice p l c, .string k, .agg #[.int .i64 K3, .int .i64 I3, .float .f64 F3, .string S3, .slice q3 m3 d3]] W fun e w' => LQ w W n m lt L U z e w')) :
    Calls Try.prog 16 #[.slice p l c, .string { data := #[100, 101, 112, 111, 115, 105, 116] }, .slice (some ⟨bl, ol, none⟩) 2 cl] w fun e w' => LRun w n m lt L U z e w' := by
  have hbl := cell_lt v0
  have TR1 := Lib.hid (show (fun z0 : World => Zz z0 w.heap.size ∧ Below w.heap.size w z0) (w.alloc (.cells #[.int .i64 0, .int .i64 0, .float .f64 0, .string ⟨#[]⟩, .slice none 0 0] 27)) from ⟨row_alloc w #[.int .i64 0, .int .i64 0, .float .f64 0, .string ⟨#[]⟩, .slice none 0 0] 27, bel_alloc (Below.refl w.heap.size w) _⟩)
  go_enter Try.func16, Try.ntmps16
  go_upto_region 10 with fail
  have hltW : w.heap.size < (w.alloc (.cells #[.int .i64 0, .int .i64 0, .float .f64 0, .string ⟨#[]⟩, .slice none 0 0] 27)).drew.heap.size := by rw [World.size_drew, World.size_alloc]; omega
  have TR2 := Lib.hid (And.intro (row_step TR1.out.1 (Below.drew br)) (bel_step TR1.out.2 (Below.drew br)))
  clear TR1
  refine wp_region_held_drew (S := (fun z => z.cell? ⟨bl, ol + 3, none⟩ = some (.string k) ∧ z.cell? ⟨bl, ol + 5, none⟩ = some (.int .i64 K3) ∧ z.cell? ⟨bl, ol + 5 + 1, none⟩ = some (.int .i64 I3) ∧ z.cell? ⟨bl, ol + 5 + 2, none⟩ = some (.float .f64 F3) ∧ z.cell? ⟨bl, ol + 5 + 3, none⟩ = some (.string S3) ∧ z.cell? ⟨bl, ol + 5 + 4, none⟩ = some (.slice q3 m3 d3))) (by kernel_rfl) ?_ (fun hH => ?_)
  · exact ⟨ck TR2.out.2 n0, ck TR2.out.2 v0, ck TR2.out.2 v1, ck TR2.out.2 v2, ck TR2.out.2 v3, ck TR2.out.2 v4⟩
  refine zt [0, 1, 2, 3, 4, 5, 6, 7] ?_
  iterate 8 (refine zt1 (fun _ _ d _ _ h => by cases d <;> exact h) (by simp only [lk0, lk1, lk2]; rfl) (by kernel_rfl) (by assumption) (by rfl) (fun w h => by (try dsimp only at h); go_simp; (try with_reducible rfl)) ?_; (try simp only [Act.put, pk0, pk1, pk2]))
  refine zt0 ?_
  refine zr1 8 (by kernel_rfl) (by simp only [lk0, lk1, lk2]; rfl) (fun K hK => ?_)
  go_simp
  go_at_call 33; refine (HT.out _ TR2.out.2).mono ?_; rintro e w11 ⟨pt, ct, uu, rfl, hbw11, hy, hu⟩
  have TR3 := Lib.hid (And.intro (row_step TR2.out.1 hbw11) (bel_step TR2.out.2 hbw11))
  clear TR2
  have TR4 := Lib.hid (show Zz w11 w.heap.size ∧ (Stay (w.alloc (.cells #[.int .i64 0, .int .i64 0, .float .f64 0, .string ⟨#[]⟩, .slice none 0 0] 27)).drew.heap.size w11 w11 ∧ w11.heap.size ≤ w11.heap.size) ∧ Below w.heap.size w w11 from ⟨TR3.out.1, ⟨stay_refl _ _, Nat.le_refl _⟩, TR3.out.2⟩)
  clear TR3
  obtain ⟨Ku, Iu, Fu, Su, qu, mu, du, rfl, _⟩ := rep_shape (hu w br)
  have HY := Lib.hid hy
  have HU := Lib.hid hu
  clear hy hu
  clear hbw11
  go_wp2_with fail
  refine hK.out _ _ ?hsv10_ (fun hH => ?_)
  case hsv10_ => exact ⟨ck TR4.out.2.2 n0, ck TR4.out.2.2 v0, ck TR4.out.2.2 v1, ck TR4.out.2.2 v2, ck TR4.out.2.2 v3, ck TR4.out.2.2 v4⟩
  clear hK K
  (try simp only [Act.put, pk0, pk1, pk2])
  refine zt [9, 10, 11, 12] ?_
  iterate 4 (refine zt1 (fun _ _ d _ _ h => by cases d <;> exact h) (by simp only [lk0, lk1, lk2]; rfl) (by kernel_rfl) (by assumption) (by rfl) (fun w h => by (try dsimp only at h); go_simp; (try with_reducible rfl)) ?_; (try simp only [Act.put, pk0, pk1, pk2]))
  refine zt0 ?_
  refine zr1 13 (by kernel_rfl) (by simp only [lk0, lk1, lk2]; rfl) (fun K hK => ?_)
  obtain ⟨b30, b31, b32, b33, b34, b3f, b3l⟩ := r7 TR4.out.1; go_simp
  have TR5 := Lib.hid (show (fun z0 : World => Zw z0 w.heap.size (.int .i64 Ku) (.int .i64 Iu) (.float .f64 Fu) (.string Su) (.slice qu mu du) ∧ (Stay (w.alloc (.cells #[.int .i64 0, .int .i64 0, .float .f64 0, .string ⟨#[]⟩, .slice none 0 0] 27)).drew.heap.size w11 z0 ∧ w11.heap.size ≤ z0.heap.size) ∧ Below w.heap.size w z0) (((((w11.setCell ⟨w.heap.size, 0, none⟩ (.int .i64 Ku)).setCell ⟨w.heap.size, 1, none⟩ (.int .i64 Iu)).setCell ⟨w.heap.size, 2, none⟩ (.float .f64 Fu)).setCell ⟨w.heap.size, 3, none⟩ (.string Su)).setCell ⟨w.heap.size, 4, none⟩ (.slice qu mu du)) from ⟨s5r TR4.out.1, ⟨stay_set TR4.out.2.1.1 (by omega) (.int .i64 Ku) (.int .i64 Iu) (.float .f64 Fu) (.string Su) (.slice qu mu du), by show _ ≤ (set5 w11 (w.heap.size) 0 (.int .i64 Ku) (.int .i64 Iu) (.float .f64 Fu) (.string Su) (.slice qu mu du)).heap.size; rw [set5_size]; exact TR4.out.2.1.2⟩, s5b TR4.out.2.2 (by omega)⟩)
  clear TR4
  clear b30 b31 b32 b33 b34 b3f b3l
  go_wp2_with fail
  refine hK.out _ _ ?hsv16_ (fun hH => ?_)
  case hsv16_ => exact ⟨ck TR5.out.2.2 n0, ck TR5.out.2.2 v0, ck TR5.out.2.2 v1, ck TR5.out.2.2 v2, ck TR5.out.2.2 v3, ck TR5.out.2.2 v4⟩
  clear hK K
  (try simp only [Act.put, pk0, pk1, pk2])
  refine zt [14] ?_
  refine zt1 (fun _ _ d _ _ h => by cases d <;> exact h) (by simp only [lk0, lk1, lk2]; rfl) (by kernel_rfl) (by assumption) (by rfl) (fun w h => by (try dsimp only at h); go_simp; (try with_reducible rfl)) ?_; (try simp only [Act.put, pk0, pk1, pk2])
  refine zt0 ?_
  refine wpAnyH_done (by kernel_rfl) ?_ _
  revert TR5
  generalize (((((w11.setCell ⟨w.heap.size, 0, none⟩ (.int .i64 Ku)).setCell ⟨w.heap.size, 1, none⟩ (.int .i64 Iu)).setCell ⟨w.heap.size, 2, none⟩ (.float .f64 Fu)).setCell ⟨w.heap.size, 3, none⟩ (.string Su)).setCell ⟨w.heap.size, 4, none⟩ (.slice qu mu du)) = Wf
  intro TR5
  obtain ⟨c0_0, c0_1, c0_2, c0_3, c0_4, c0f, c0l⟩ := r7 TR5.out.1
  go_wp2
  refine bodyPost_ret (v := .tuple #[.slice pt lt ct, .agg #[.int .i64 Ku, .int .i64 Iu, .float .f64 Fu, .string Su, .slice qu mu du], .int .i64 z]) (by simp [results, Try.results16, go_sem, c0_0, c0_1, c0_2, c0_3, c0_4]) rfl ⟨pt, ct, _, rfl, TR5.out.2.2, HY.out _ TR5.out.2.2 TR5.out.2.1.1, HU.out _ TR5.out.2.2⟩
set_option maxRecDepth 100000 in
set_option maxHeartbeats 4000000 in
theorem run_transfer (n m lt : Nat) (p : Option Addr) (l c : Nat) (bl ol cl : Nat) (ka kb : ByteArray) (K3 I3 : Int) (F3 : Nat) (S3 : ByteArray) (q3 : Option Addr) (m3 d3 : Nat) (w : World) (n0 : w.cell? ⟨bl, ol + 3, none⟩ = some (.string ka)) (n1 : w.cell? ⟨bl, ol + 5 + 3, none⟩ = some (.string kb)) (v0 : w.cell? ⟨bl, ol + 10, none⟩ = some (.int .i64 K3)) (v1 : w.cell? ⟨bl, ol + 10 + 1, none⟩ = some (.int .i64 I3)) (v2 : w.cell? ⟨bl, ol + 10 + 2, none⟩ = some (.float .f64 F3)) (v3 : w.cell? ⟨bl, ol + 10 + 3, none⟩ = some (.string S3)) (v4 : w.cell? ⟨bl, ol + 10 + 4, none⟩ = some (.slice q3 m3 d3)) (L : List (VT (n + 2))) (U : VT (m + 1)) (z : Int)
    (HT : Hid (∀ W, Below w.heap.size w W → Calls Try.prog 34 #[.slice p l c, .string ka, .string kb, .agg #[.int .i64 K3, .int .i64 I3, .float .f64 F3, .string S3, .slice q3 m3 d3]] W fun e w' => LQ w W n m lt L U z e w')) :
    Calls Try.prog 16 #[.slice p l c, .string { data := #[116, 114, 97, 110, 115, 102, 101, 114] }, .slice (some ⟨bl, ol, none⟩) 3 cl] w fun e w' => LRun w n m lt L U z e w' := by
  have hbl := cell_lt v0
  have TR1 := Lib.hid (show (fun z0 : World => Zz z0 w.heap.size ∧ Below w.heap.size w z0) (w.alloc (.cells #[.int .i64 0, .int .i64 0, .float .f64 0, .string ⟨#[]⟩, .slice none 0 0] 27)) from ⟨row_alloc w #[.int .i64 0, .int .i64 0, .float .f64 0, .string ⟨#[]⟩, .slice none 0 0] 27, bel_alloc (Below.refl w.heap.size w) _⟩)
  go_enter Try.func16, Try.ntmps16
  go_upto_region 12 with fail
  have hltW : w.heap.size < (w.alloc (.cells #[.int .i64 0, .int .i64 0, .float .f64 0, .string ⟨#[]⟩, .slice none 0 0] 27)).drew.heap.size := by rw [World.size_drew, World.size_alloc]; omega
  have TR2 := Lib.hid (And.intro (row_step TR1.out.1 (Below.drew br)) (bel_step TR1.out.2 (Below.drew br)))
  clear TR1
  refine wp_region_held_drew (S := (fun z => z.cell? ⟨bl, ol + 3, none⟩ = some (.string ka) ∧ z.cell? ⟨bl, ol + 5 + 3, none⟩ = some (.string kb) ∧ z.cell? ⟨bl, ol + 10, none⟩ = some (.int .i64 K3) ∧ z.cell? ⟨bl, ol + 10 + 1, none⟩ = some (.int .i64 I3) ∧ z.cell? ⟨bl, ol + 10 + 2, none⟩ = some (.float .f64 F3) ∧ z.cell? ⟨bl, ol + 10 + 3, none⟩ = some (.string S3) ∧ z.cell? ⟨bl, ol + 10 + 4, none⟩ = some (.slice q3 m3 d3))) (by kernel_rfl) ?_ (fun hH => ?_)
  · exact ⟨ck TR2.out.2 n0, ck TR2.out.2 n1, ck TR2.out.2 v0, ck TR2.out.2 v1, ck TR2.out.2 v2, ck TR2.out.2 v3, ck TR2.out.2 v4⟩
  refine zt [0, 1, 2, 3, 4, 5, 6, 7, 8, 9, 10, 11] ?_
  iterate 12 (refine zt1 (fun _ _ d _ _ h => by cases d <;> exact h) (by simp only [lk0, lk1, lk2]; rfl) (by kernel_rfl) (by assumption) (by rfl) (fun w h => by (try dsimp only at h); go_simp; (try with_reducible rfl)) ?_; (try simp only [Act.put, pk0, pk1, pk2]))
  refine zt0 ?_
  refine zr1 12 (by kernel_rfl) (by simp only [lk0, lk1, lk2]; rfl) (fun K hK => ?_)
  go_simp
  go_at_call 34; refine (HT.out _ TR2.out.2).mono ?_; rintro e w31 ⟨pt, ct, uu, rfl, hbw31, hy, hu⟩
  have TR3 := Lib.hid (And.intro (row_step TR2.out.1 hbw31) (bel_step TR2.out.2 hbw31))
  clear TR2
  have TR4 := Lib.hid (show Zz w31 w.heap.size ∧ (Stay (w.alloc (.cells #[.int .i64 0, .int .i64 0, .float .f64 0, .string ⟨#[]⟩, .slice none 0 0] 27)).drew.heap.size w31 w31 ∧ w31.heap.size ≤ w31.heap.size) ∧ Below w.heap.size w w31 from ⟨TR3.out.1, ⟨stay_refl _ _, Nat.le_refl _⟩, TR3.out.2⟩)
  clear TR3
  obtain ⟨Ku, Iu, Fu, Su, qu, mu, du, rfl, _⟩ := rep_shape (hu w br)
  have HY := Lib.hid hy
  have HU := Lib.hid hu
  clear hy hu
  clear hbw31
  go_wp2_with fail
  refine hK.out _ _ ?hsv30_ (fun hH => ?_)
  case hsv30_ => exact ⟨ck TR4.out.2.2 n0, ck TR4.out.2.2 n1, ck TR4.out.2.2 v0, ck TR4.out.2.2 v1, ck TR4.out.2.2 v2, ck TR4.out.2.2 v3, ck TR4.out.2.2 v4⟩
  clear hK K
  (try simp only [Act.put, pk0, pk1, pk2])
  refine zt [13, 14, 15, 16] ?_
  iterate 4 (refine zt1 (fun _ _ d _ _ h => by cases d <;> exact h) (by simp only [lk0, lk1, lk2]; rfl) (by kernel_rfl) (by assumption) (by rfl) (fun w h => by (try dsimp only at h); go_simp; (try with_reducible rfl)) ?_; (try simp only [Act.put, pk0, pk1, pk2]))
  refine zt0 ?_
  refine zr1 17 (by kernel_rfl) (by simp only [lk0, lk1, lk2]; rfl) (fun K hK => ?_)
  obtain ⟨b30, b31, b32, b33, b34, b3f, b3l⟩ := r7 TR4.out.1; go_simp
  have TR5 := Lib.hid (show (fun z0 : World => Zw z0 w.heap.size (.int .i64 Ku) (.int .i64 Iu) (.float .f64 Fu) (.string Su) (.slice qu mu du) ∧ (Stay (w.alloc (.cells #[.int .i64 0, .int .i64 0, .float .f64 0, .string ⟨#[]⟩, .slice none 0 0] 27)).drew.heap.size w31 z0 ∧ w31.heap.size ≤ z0.heap.size) ∧ Below w.heap.size w z0) (((((w31.setCell ⟨w.heap.size, 0, none⟩ (.int .i64 Ku)).setCell ⟨w.heap.size, 1, none⟩ (.int .i64 Iu)).setCell ⟨w.heap.size, 2, none⟩ (.float .f64 Fu)).setCell ⟨w.heap.size, 3, none⟩ (.string Su)).setCell ⟨w.heap.size, 4, none⟩ (.slice qu mu du)) from ⟨s5r TR4.out.1, ⟨stay_set TR4.out.2.1.1 (by omega) (.int .i64 Ku) (.int .i64 Iu) (.float .f64 Fu) (.string Su) (.slice qu mu du), by show _ ≤ (set5 w31 (w.heap.size) 0 (.int .i64 Ku) (.int .i64 Iu) (.float .f64 Fu) (.string Su) (.slice qu mu du)).heap.size; rw [set5_size]; exact TR4.out.2.1.2⟩, s5b TR4.out.2.2 (by omega)⟩)
  clear TR4
  clear b30 b31 b32 b33 b34 b3f b3l
  go_wp2_with fail
  refine hK.out _ _ ?hsv36_ (fun hH => ?_)
  case hsv36_ => exact ⟨ck TR5.out.2.2 n0, ck TR5.out.2.2 n1, ck TR5.out.2.2 v0, ck TR5.out.2.2 v1, ck TR5.out.2.2 v2, ck TR5.out.2.2 v3, ck TR5.out.2.2 v4⟩
  clear hK K
  (try simp only [Act.put, pk0, pk1, pk2])
  refine zt [18] ?_
  refine zt1 (fun _ _ d _ _ h => by cases d <;> exact h) (by simp only [lk0, lk1, lk2]; rfl) (by kernel_rfl) (by assumption) (by rfl) (fun w h => by (try dsimp only at h); go_simp; (try with_reducible rfl)) ?_; (try simp only [Act.put, pk0, pk1, pk2])
  refine zt0 ?_
  refine wpAnyH_done (by kernel_rfl) ?_ _
  revert TR5
  generalize (((((w31.setCell ⟨w.heap.size, 0, none⟩ (.int .i64 Ku)).setCell ⟨w.heap.size, 1, none⟩ (.int .i64 Iu)).setCell ⟨w.heap.size, 2, none⟩ (.float .f64 Fu)).setCell ⟨w.heap.size, 3, none⟩ (.string Su)).setCell ⟨w.heap.size, 4, none⟩ (.slice qu mu du)) = Wf
  intro TR5
  obtain ⟨c0_0, c0_1, c0_2, c0_3, c0_4, c0f, c0l⟩ := r7 TR5.out.1
  go_wp2
  refine bodyPost_ret (v := .tuple #[.slice pt lt ct, .agg #[.int .i64 Ku, .int .i64 Iu, .float .f64 Fu, .string Su, .slice qu mu du], .int .i64 z]) (by simp [results, Try.results16, go_sem, c0_0, c0_1, c0_2, c0_3, c0_4]) rfl ⟨pt, ct, _, rfl, TR5.out.2.2, HY.out _ TR5.out.2.2 TR5.out.2.1.1, HU.out _ TR5.out.2.2⟩
set_option maxRecDepth 100000 in
set_option maxHeartbeats 4000000 in
theorem run_names (n m : Nat) (p : Option Addr) (l c : Nat) (pl : Option Addr) (cl : Nat) (w : World) (L : List (VT (n + 2))) (HL : Hid (RepL w (Rep w (n + 2)) p l c L)) (U : VT (m + 1))
    (HT : Hid (∀ W, Below w.heap.size w W → Calls Try.prog 36 #[.slice p l c] W fun e w' => ∃ u, e = .returned u ∧ Below W.heap.size W w' ∧ ∀ y, Below w.heap.size w y → Stay W.heap.size w' y → Rep y (m + 1) u U)) :
    Calls Try.prog 16 #[.slice p l c, .string { data := #[110, 97, 109, 101, 115] }, .slice pl 0 cl] w fun e w' => LRun w n m l L U 0 e w' := by
  have TR1 := Lib.hid (show (fun z0 : World => Zz z0 w.heap.size ∧ Below w.heap.size w z0) (w.alloc (.cells #[.int .i64 0, .int .i64 0, .float .f64 0, .string ⟨#[]⟩, .slice none 0 0] 27)) from ⟨row_alloc w #[.int .i64 0, .int .i64 0, .float .f64 0, .string ⟨#[]⟩, .slice none 0 0] 27, bel_alloc (Below.refl w.heap.size w) _⟩)
  go_enter Try.func16, Try.ntmps16
  have hltW : w.heap.size < (w.alloc (.cells #[.int .i64 0, .int .i64 0, .float .f64 0, .string ⟨#[]⟩, .slice none 0 0] 27)).heap.size := by rw [World.size_alloc]; omega
  go_wp2_with fail
  go_at_call 36; refine (HT.out _ TR1.out.2).mono ?_; rintro e w38 ⟨uu, rfl, hbw38, hu⟩
  have TR2 := Lib.hid (And.intro (row_step TR1.out.1 hbw38) (bel_step TR1.out.2 hbw38))
  clear TR1
  have TR3 := Lib.hid (show Zz w38 w.heap.size ∧ (Stay (w.alloc (.cells #[.int .i64 0, .int .i64 0, .float .f64 0, .string ⟨#[]⟩, .slice none 0 0] 27)).heap.size w38 w38 ∧ w38.heap.size ≤ w38.heap.size) ∧ Below w.heap.size w w38 from ⟨TR2.out.1, ⟨stay_refl _ _, Nat.le_refl _⟩, TR2.out.2⟩)
  clear TR2
  obtain ⟨Ku, Iu, Fu, Su, qu, mu, du, rfl, _⟩ := rep_shape (hu w38 (bel_step TR3.out.2.2 br) (stay_refl _ _))
  have HU := Lib.hid hu
  clear hu
  clear hbw38
  obtain ⟨c0_0, c0_1, c0_2, c0_3, c0_4, c0f, c0l⟩ := r7 TR3.out.1
  go_wp2
  refine bodyPost_ret (v := .tuple #[.slice p l c, .agg #[.int .i64 Ku, .int .i64 Iu, .float .f64 Fu, .string Su, .slice qu mu du], .int .i64 0]) (by simp [results, Try.results16, go_sem, World.cell?_setCell_same, World.cell?_setCell_other, c0_0, c0_1, c0_2, c0_3, c0_4]) rfl ⟨p, c, _, rfl, ?_, ?_, ?_⟩
  · exact set5_below (g := w.heap.size) (o := 0) TR3.out.2.2 (Nat.le_refl _) _ _ _ _ _
  · exact repL_acc (set5_below (g := w.heap.size) (o := 0) TR3.out.2.2 (Nat.le_refl _) _ _ _ _ _) HL.out
  · exact HU.out _ (set5_below (g := w.heap.size) (o := 0) TR3.out.2.2 (Nat.le_refl _) _ _ _ _ _) (stay_set TR3.out.2.1.1 (by omega) _ _ _ _ _)
set_option maxRecDepth 100000 in
set_option maxHeartbeats 4000000 in
theorem run_total (n m : Nat) (p : Option Addr) (l c : Nat) (pl : Option Addr) (cl : Nat) (w : World) (L : List (VT (n + 2))) (HL : Hid (RepL w (Rep w (n + 2)) p l c L)) (U : VT (m + 1))
    (HT : Hid (∀ W, Below w.heap.size w W → Calls Try.prog 37 #[.slice p l c] W fun e w' => ∃ u, e = .returned u ∧ Below W.heap.size W w' ∧ ∀ y, Below w.heap.size w y → Stay W.heap.size w' y → Rep y (m + 1) u U)) :
    Calls Try.prog 16 #[.slice p l c, .string { data := #[116, 111, 116, 97, 108] }, .slice pl 0 cl] w fun e w' => LRun w n m l L U 0 e w' := by
  have TR1 := Lib.hid (show (fun z0 : World => Zz z0 w.heap.size ∧ Below w.heap.size w z0) (w.alloc (.cells #[.int .i64 0, .int .i64 0, .float .f64 0, .string ⟨#[]⟩, .slice none 0 0] 27)) from ⟨row_alloc w #[.int .i64 0, .int .i64 0, .float .f64 0, .string ⟨#[]⟩, .slice none 0 0] 27, bel_alloc (Below.refl w.heap.size w) _⟩)
  go_enter Try.func16, Try.ntmps16
  have hltW : w.heap.size < (w.alloc (.cells #[.int .i64 0, .int .i64 0, .float .f64 0, .string ⟨#[]⟩, .slice none 0 0] 27)).heap.size := by rw [World.size_alloc]; omega
  go_wp2_with fail
  go_at_call 37; refine (HT.out _ TR1.out.2).mono ?_; rintro e w39 ⟨uu, rfl, hbw39, hu⟩
  have TR2 := Lib.hid (And.intro (row_step TR1.out.1 hbw39) (bel_step TR1.out.2 hbw39))
  clear TR1
  have TR3 := Lib.hid (show Zz w39 w.heap.size ∧ (Stay (w.alloc (.cells #[.int .i64 0, .int .i64 0, .float .f64 0, .string ⟨#[]⟩, .slice none 0 0] 27)).heap.size w39 w39 ∧ w39.heap.size ≤ w39.heap.size) ∧ Below w.heap.size w w39 from ⟨TR2.out.1, ⟨stay_refl _ _, Nat.le_refl _⟩, TR2.out.2⟩)
  clear TR2
  obtain ⟨Ku, Iu, Fu, Su, qu, mu, du, rfl, _⟩ := rep_shape (hu w39 (bel_step TR3.out.2.2 br) (stay_refl _ _))
  have HU := Lib.hid hu
  clear hu
  clear hbw39
  obtain ⟨c0_0, c0_1, c0_2, c0_3, c0_4, c0f, c0l⟩ := r7 TR3.out.1
  go_wp2
  refine bodyPost_ret (v := .tuple #[.slice p l c, .agg #[.int .i64 Ku, .int .i64 Iu, .float .f64 Fu, .string Su, .slice qu mu du], .int .i64 0]) (by simp [results, Try.results16, go_sem, World.cell?_setCell_same, World.cell?_setCell_other, c0_0, c0_1, c0_2, c0_3, c0_4]) rfl ⟨p, c, _, rfl, ?_, ?_, ?_⟩
  · exact set5_below (g := w.heap.size) (o := 0) TR3.out.2.2 (Nat.le_refl _) _ _ _ _ _
  · exact repL_acc (set5_below (g := w.heap.size) (o := 0) TR3.out.2.2 (Nat.le_refl _) _ _ _ _ _) HL.out
  · exact HU.out _ (set5_below (g := w.heap.size) (o := 0) TR3.out.2.2 (Nat.le_refl _) _ _ _ _ _) (stay_set TR3.out.2.1.1 (by omega) _ _ _ _ _)
end Num
end Go.Proofs.Yteodljkcbddehaa
/-
  Package ledger: refusals; close; balance.
-/
namespace Go.Proofs.Yteodljkcbddehaa
open Go.RowKit
namespace Num
open Ints
set_option linter.unusedSimpArgs false
set_option linter.unusedVariables false
set_option maxRecDepth 100000 in
set_option maxHeartbeats 4000000 in
theorem opened_there (n : Nat) (p : Option Addr) (l c a : Nat) (k : ByteArray) (ES : List (ByteArray × VT (n + 1))) (w0 w : World) (HBW : Hid (Below w0.heap.size w0 w)) (HL : Hid (RepL w0 (Rep w0 (n + 2)) p l c (ES.map (pairE n)))) (hl : l ≤ 32) (hs : Spot (ES.map (·.1)) k a true) : Calls Try.prog 31 #[.slice p l c, .string k] w fun e w' => e = .returned (.tuple #[.slice none 0 0, .int .i64 32]) ∧ Below w.heap.size w w' := by
  have HE := Lib.hid (entsL_step (ents_of HL.out (by omega)) HBW.out)
  have HS := Lib.hid hs
  clear hs
  go_enter Try.func31, Try.ntmps31
  go_wp2_with fail
  go_at_call 52; refine (lfind_any _ _ c a (ES.map (·.1)) k true _ HE.out HS.out).mono ?_; rintro e w1 ⟨rfl, hbw1⟩
  have HB1 := Lib.hid hbw1
  clear hbw1
  go_wp2
  go_ret2
  exact ⟨rfl, HB1.out⟩
set_option maxRecDepth 100000 in
set_option maxHeartbeats 4000000 in
theorem opened_full (n : Nat) (p : Option Addr) (l c a : Nat) (k : ByteArray) (ES : List (ByteArray × VT (n + 1))) (w0 w : World) (HBW : Hid (Below w0.heap.size w0 w)) (HL : Hid (RepL w0 (Rep w0 (n + 2)) p l c (ES.map (pairE n)))) (hl : l ≤ 32) (h32 : l = 32) (hs : Spot (ES.map (·.1)) k a false) : Calls Try.prog 31 #[.slice p l c, .string k] w fun e w' => e = .returned (.tuple #[.slice none 0 0, .int .i64 33]) ∧ Below w.heap.size w w' := by
  subst h32
  have hll : (((32 : Nat) : Int) == 32) = true := rfl
  have HE := Lib.hid (entsL_step (ents_of HL.out (by omega)) HBW.out)
  have HS := Lib.hid hs
  clear hs
  go_enter Try.func31, Try.ntmps31
  go_wp2_with fail
  go_at_call 52; refine (lfind_any _ _ c a (ES.map (·.1)) k false _ HE.out HS.out).mono ?_; rintro e w1 ⟨rfl, hbw1⟩
  have HB1 := Lib.hid hbw1
  clear hbw1
  go_wp2
  go_ret2
  exact ⟨rfl, HB1.out⟩
set_option maxRecDepth 100000 in
set_option maxHeartbeats 4000000 in
theorem closed_none (n : Nat) (p : Option Addr) (l c a : Nat) (k : ByteArray) (ES : List (ByteArray × VT (n + 1))) (w0 w : World) (HBW : Hid (Below w0.heap.size w0 w)) (HL : Hid (RepL w0 (Rep w0 (n + 2)) p l c (ES.map (pairE n)))) (hl : l ≤ 32) (hs : Spot (ES.map (·.1)) k a false) : Calls Try.prog 32 #[.slice p l c, .string k] w fun e w' => e = .returned (.tuple #[.slice none 0 0, .int .i64 30]) ∧ Below w.heap.size w w' := by
  have HE := Lib.hid (entsL_step (ents_of HL.out (by omega)) HBW.out)
  have HS := Lib.hid hs
  clear hs
  go_enter Try.func32, Try.ntmps32
  go_wp2_with fail
  go_at_call 52; refine (lfind_any _ _ c a (ES.map (·.1)) k false _ HE.out HS.out).mono ?_; rintro e w1 ⟨rfl, hbw1⟩
  have HB1 := Lib.hid hbw1
  clear hbw1
  go_wp2
  go_ret2
  exact ⟨rfl, HB1.out⟩
set_option maxRecDepth 100000 in
set_option maxHeartbeats 4000000 in
theorem closed_funds (n : Nat) (p : Option Addr) (l c a : Nat) (k : ByteArray) (ES : List (ByteArray × VT (n + 1))) (w0 w : World) (HBW : Hid (Below w0.heap.size w0 w)) (HL : Hid (RepL w0 (Rep w0 (n + 2)) p l c (ES.map (pairE n)))) (hl : l ≤ 32) (V : VT (n + 1)) (hal : a < ES.length) (hka : ES[a] = (k, V)) (hs : Spot (ES.map (·.1)) k a true) (hsg : decide (0 < signV V.1 V.2.1 V.2.2.1) = true) : Calls Try.prog 32 #[.slice p l c, .string k] w fun e w' => e = .returned (.tuple #[.slice none 0 0, .int .i64 36]) ∧ Below w.heap.size w w' := by
  have hll : ES.length = l := by have := HL.out.1; rw [List.length_map] at this; exact this
  obtain ⟨b, off, hp, hi⟩ := HL.out.2.2.2 (by omega)
  subst hp
  obtain ⟨v0, v1, v2, v3, v4, c0, c1, c2, c3, c4, hr⟩ := hi a (by rw [List.length_map]; exact hal)
  have hr' : Rep w0 (n + 2) (.agg #[v0, v1, v2, v3, v4]) (pairT n k V) := by
    rw [List.getElem_map, hka] at hr
    exact hr
  obtain ⟨K, I, F, S, q, m, d, hv⟩ : ∃ (K I : Int) (F : Nat) (S : ByteArray) (q : Option Addr) (m d : Nat), (Value.agg #[v0, v1, v2, v3, v4]) = .agg #[.int .i64 K, .int .i64 I, .float .f64 F, .string S, .slice q m d] := by
    obtain ⟨q, m, d, hv, _⟩ := hr'; exact ⟨_, _, _, _, q, m, d, hv⟩
  injection hv with hv
  simp only [Array.mk.injEq, List.cons.injEq, and_true] at hv
  obtain ⟨rfl, rfl, rfl, rfl, rfl⟩ := hv
  have HR := Lib.hid hr'
  have hcm : l ≤ 1000 := by omega
  have HC := Lib.hid (show ∀ W, Below w0.heap.size w0 W → W.cell? ⟨b, off + a * 5, none⟩ = some (.int .i64 K) ∧ W.cell? ⟨b, off + a * 5 + 1, none⟩ = some (.int .i64 I) ∧ W.cell? ⟨b, off + a * 5 + 2, none⟩ = some (.float .f64 F) ∧ W.cell? ⟨b, off + a * 5 + 3, none⟩ = some (.string S) ∧ W.cell? ⟨b, off + a * 5 + 4, none⟩ = some (.slice q m d) from fun W hb => ⟨ck hb c0, ck hb c1, ck hb c2, ck hb c3, ck hb c4⟩)
  have ha0 : (0 : Int) ≤ (a : Int) := by omega
  have ha1 : (a : Int) < (l : Int) := by omega
  clear hi c0 c1 c2 c3 c4 hr hr'
  have HE := Lib.hid (entsL_step (ents_of HL.out (by omega)) HBW.out)
  have HS := Lib.hid hs
  clear hs
  go_enter Try.func32, Try.ntmps32
  go_wp2_with fail
  go_at_call 52; refine (lfind_any _ _ c a (ES.map (·.1)) k true _ HE.out HS.out).mono ?_; rintro e w1 ⟨rfl, hbw1⟩
  have HB1 := Lib.hid hbw1
  clear hbw1
  have HB0 := Lib.hid (bel_tr HB1.out (HBW.out.size) HBW.out)
  obtain ⟨e0, e1, e2, e3, e4⟩ := HC.out _ HB0.out
  go_wp2_with fail
  go_at_call 57; refine (hasOf_at n _ k V w0 _ HB0.out HR.out).mono ?_; rintro e w2 ⟨K2, I2, F2, S2, q2, m2, d2, rfl, hbw2, hr2⟩
  have HB2 := Lib.hid (bel_step HB1.out hbw2)
  have HS2 := Lib.hid (show signV K2 I2 F2 = signV V.1 V.2.1 V.2.2.1 by obtain ⟨_, _, _, hv, _⟩ := hr2; simp only [Value.agg.injEq, Array.mk.injEq, List.cons.injEq, Value.int.injEq, Value.float.injEq, true_and] at hv; obtain ⟨h1, h2, h3, _⟩ := hv; rw [h1, h2, h3])
  clear hbw2 hr2 e0 e1 e2 e3 e4
  go_wp2_with fail
  go_at_call 56; refine (sign_any _ _ _ _ _ _ _ _).mono ?_; rintro e w3 ⟨rfl, hbw3⟩
  rw [HS2.out]
  have HB3 := Lib.hid (bel_step HB2.out hbw3)
  clear hbw3
  go_wp2
  go_ret2
  exact ⟨rfl, HB3.out⟩
set_option maxRecDepth 100000 in
set_option maxHeartbeats 4000000 in
theorem closed_ok (n : Nat) (p : Option Addr) (l c a : Nat) (k : ByteArray) (ES : List (ByteArray × VT (n + 1))) (w0 w : World) (HBW : Hid (Below w0.heap.size w0 w)) (HL : Hid (RepL w0 (Rep w0 (n + 2)) p l c (ES.map (pairE n)))) (hl : l ≤ 32) (V : VT (n + 1)) (hal : a < ES.length) (hka : ES[a] = (k, V)) (hs : Spot (ES.map (·.1)) k a true) (hsg : decide (0 < signV V.1 V.2.1 V.2.2.1) = false) : Calls Try.prog 32 #[.slice p l c, .string k] w fun e w' => LQ1 w0 w n (a + (l - (a + 1))) ((ES.map (pairE n)).take a ++ (ES.map (pairE n)).drop (a + 1)) 0 e w' := by
  have hll : ES.length = l := by have := HL.out.1; rw [List.length_map] at this; exact this
  obtain ⟨b, off, hp, hi⟩ := HL.out.2.2.2 (by omega)
  subst hp
  obtain ⟨v0, v1, v2, v3, v4, c0, c1, c2, c3, c4, hr⟩ := hi a (by rw [List.length_map]; exact hal)
  have hr' : Rep w0 (n + 2) (.agg #[v0, v1, v2, v3, v4]) (pairT n k V) := by
    rw [List.getElem_map, hka] at hr
    exact hr
  obtain ⟨K, I, F, S, q, m, d, hv⟩ : ∃ (K I : Int) (F : Nat) (S : ByteArray) (q : Option Addr) (m d : Nat), (Value.agg #[v0, v1, v2, v3, v4]) = .agg #[.int .i64 K, .int .i64 I, .float .f64 F, .string S, .slice q m d] := by
    obtain ⟨q, m, d, hv, _⟩ := hr'; exact ⟨_, _, _, _, q, m, d, hv⟩
  injection hv with hv
  simp only [Array.mk.injEq, List.cons.injEq, and_true] at hv
  obtain ⟨rfl, rfl, rfl, rfl, rfl⟩ := hv
  have HR := Lib.hid hr'
  have hcm : l ≤ 1000 := by omega
  have HC := Lib.hid (show ∀ W, Below w0.heap.size w0 W → W.cell? ⟨b, off + a * 5, none⟩ = some (.int .i64 K) ∧ W.cell? ⟨b, off + a * 5 + 1, none⟩ = some (.int .i64 I) ∧ W.cell? ⟨b, off + a * 5 + 2, none⟩ = some (.float .f64 F) ∧ W.cell? ⟨b, off + a * 5 + 3, none⟩ = some (.string S) ∧ W.cell? ⟨b, off + a * 5 + 4, none⟩ = some (.slice q m d) from fun W hb => ⟨ck hb c0, ck hb c1, ck hb c2, ck hb c3, ck hb c4⟩)
  have ha0 : (0 : Int) ≤ (a : Int) := by omega
  have ha1 : (a : Int) < (l : Int) := by omega
  clear hi c0 c1 c2 c3 c4 hr hr'
  have HE := Lib.hid (entsL_step (ents_of HL.out (by omega)) HBW.out)
  have HS := Lib.hid hs
  clear hs
  go_enter Try.func32, Try.ntmps32
  go_wp2_with fail
  go_at_call 52; refine (lfind_any _ _ c a (ES.map (·.1)) k true _ HE.out HS.out).mono ?_; rintro e w1 ⟨rfl, hbw1⟩
  have HB1 := Lib.hid hbw1
  clear hbw1
  have HB0 := Lib.hid (bel_tr HB1.out (HBW.out.size) HBW.out)
  obtain ⟨e0, e1, e2, e3, e4⟩ := HC.out _ HB0.out
  go_wp2_with fail
  go_at_call 57; refine (hasOf_at n _ k V w0 _ HB0.out HR.out).mono ?_; rintro e w2 ⟨K2, I2, F2, S2, q2, m2, d2, rfl, hbw2, hr2⟩
  have HB2 := Lib.hid (bel_step HB1.out hbw2)
  have HS2 := Lib.hid (show signV K2 I2 F2 = signV V.1 V.2.1 V.2.2.1 by obtain ⟨_, _, _, hv, _⟩ := hr2; simp only [Value.agg.injEq, Array.mk.injEq, List.cons.injEq, Value.int.injEq, Value.float.injEq, true_and] at hv; obtain ⟨h1, h2, h3, _⟩ := hv; rw [h1, h2, h3])
  clear hbw2 hr2 e0 e1 e2 e3 e4
  go_wp2_with fail
  go_at_call 56; refine (sign_any _ _ _ _ _ _ _ _).mono ?_; rintro e w3 ⟨rfl, hbw3⟩
  rw [HS2.out]
  have HB3 := Lib.hid (bel_step HB2.out hbw3)
  clear hbw3
  go_wp2_with fail
  have HB30 := Lib.hid (bel_tr HB3.out (HBW.out.size) HBW.out)
  go_at_call 53; refine (lspliced_any (rep_one w0 (n + 2)) _ l c a (a + 1) (ES.map (pairE n)) none 0 0 [] _ (repL_keep HB30.out (fun _ _ h => h) HL.out) ⟨rfl, Nat.le_refl _, Nat.zero_le _, fun h => absurd h (Nat.lt_irrefl _)⟩ (Nat.le_succ _) (by omega) (by omega) (by omega)).mono ?_; rintro e w4 ⟨p6, c6, rfl, hbw4, hy6⟩
  have HB4 := Lib.hid (bel_step HB3.out hbw4)
  have HY := Lib.hid hy6
  clear hy6 hbw4
  go_wp2
  go_ret2
  exact ⟨p6, c6, rfl, HB4.out, fun y hby hst => by
    have h := repL_mono (fun v x hv => rep_keep hby _ _ _ hv) (HY.out y (fun b h1 h2 => hst b (Nat.le_trans HB3.out.size h1) h2))
    simpa using h⟩
set_option maxRecDepth 100000 in
set_option maxHeartbeats 4000000 in
theorem deposit_bad (p : Option Addr) (l c : Nat) (k : ByteArray) (K3 I3 : Int) (F3 : Nat) (S3 : ByteArray) (q3 : Option Addr) (m3 d3 : Nat) (w : World) (hF : F3 < 2 ^ 64) (ha : finV K3 F3 = false ∨ signV K3 I3 F3 ≤ 0) : Calls Try.prog 33 #[.slice p l c, .string k, .agg #[.int .i64 K3, .int .i64 I3, .float .f64 F3, .string S3, .slice q3 m3 d3]] w fun e w' => e = .returned (.tuple #[.slice none 0 0, .agg #[.int .i64 0, .int .i64 0, .float .f64 0, .string ⟨#[]⟩, .slice none 0 0], .int .i64 35]) ∧ Below w.heap.size w w' := by
  have HA0 := Lib.hid (row_alloc_step (row_alloc w #[.int .i64 K3, .int .i64 I3, .float .f64 F3, .string S3, .slice q3 m3 d3] 27) (.cells #[.int .i64 0, .int .i64 0, .float .f64 0, .string ⟨#[]⟩, .slice none 0 0] 27))
  have hz := row_alloc (w.alloc (.cells #[.int .i64 K3, .int .i64 I3, .float .f64 F3, .string S3, .slice q3 m3 d3] 27)) #[.int .i64 0, .int .i64 0, .float .f64 0, .string ⟨#[]⟩, .slice none 0 0] 27
  rw [World.size_alloc] at hz
  have HZ0 := Lib.hid hz
  have HB0 := Lib.hid (bel_alloc (bel_alloc (Below.refl w.heap.size w) (.cells #[.int .i64 K3, .int .i64 I3, .float .f64 F3, .string S3, .slice q3 m3 d3] 27)) (.cells #[.int .i64 0, .int .i64 0, .float .f64 0, .string ⟨#[]⟩, .slice none 0 0] 27))
  clear hz
  go_enter Try.func33, Try.ntmps33
  go_wp2_with fail
  go_at_call 58; refine (amount_bad hF ha _ _ _ _ _).mono ?_; rintro e w1 ⟨rfl, hbw1⟩
  have HB1 := Lib.hid (bel_step HB0.out hbw1)
  have ra := row_step HA0.out hbw1
  have rz := row_step HZ0.out hbw1
  have x0 := rc ra 0; have x1 := rc ra 1; have x2 := rc ra 2; have x3 := rc ra 3; have x4 := rc ra 4
  simp only [lk0, lk1, lk2] at x0 x1 x2 x3 x4
  have xf := fun o => row_frz ra o
  have xl := row_lt ra
  have y0 := rc rz 0; have y1 := rc rz 1; have y2 := rc rz 2; have y3 := rc rz 3; have y4 := rc rz 4
  simp only [lk0, lk1, lk2] at y0 y1 y2 y3 y4
  have yf := fun o => row_frz rz o
  have yl := row_lt rz
  clear hbw1 ra rz HB0 HA0 HZ0
  go_wp2
  exact bodyPost_ret (v := .tuple #[.slice none 0 0, .agg #[.int .i64 0, .int .i64 0, .float .f64 0, .string ⟨#[]⟩, .slice none 0 0], .int .i64 35]) (by simp [results, Try.results33, go_sem, World.cell?_setCell_same, World.cell?_setCell_other, x0, x1, x2, x3, x4, y0, y1, y2, y3, y4]) rfl ⟨rfl, set5_below (g := w.heap.size + 1) (o := 0) (set5_below (g := w.heap.size) (o := 0) HB1.out (Nat.le_refl _) _ _ _ _ _) (Nat.le_succ _) _ _ _ _ _⟩
set_option maxRecDepth 100000 in
set_option maxHeartbeats 4000000 in
theorem deposit_none (n : Nat) (p : Option Addr) (l c a : Nat) (k : ByteArray) (ES : List (ByteArray × VT (n + 1))) (w0 w : World) (HBW : Hid (Below w0.heap.size w0 w)) (HL : Hid (RepL w0 (Rep w0 (n + 2)) p l c (ES.map (pairE n)))) (hl : l ≤ 32) (K3 I3 : Int) (F3 : Nat) (S3 : ByteArray) (q3 : Option Addr) (m3 d3 : Nat) (G : Nat) (HA : Hid (AmtOk K3 I3 F3 G)) (hs : Spot (ES.map (·.1)) k a false) : Calls Try.prog 33 #[.slice p l c, .string k, .agg #[.int .i64 K3, .int .i64 I3, .float .f64 F3, .string S3, .slice q3 m3 d3]] w fun e w' => e = .returned (.tuple #[.slice none 0 0, .agg #[.int .i64 0, .int .i64 0, .float .f64 0, .string ⟨#[]⟩, .slice none 0 0], .int .i64 30]) ∧ Below w.heap.size w w' := by
  have HE := Lib.hid (entsL_step (ents_of HL.out (by omega)) HBW.out)
  have HS := Lib.hid hs
  clear hs
  have HA0 := Lib.hid (row_alloc_step (row_alloc w #[.int .i64 K3, .int .i64 I3, .float .f64 F3, .string S3, .slice q3 m3 d3] 27) (.cells #[.int .i64 0, .int .i64 0, .float .f64 0, .string ⟨#[]⟩, .slice none 0 0] 27))
  have hz := row_alloc (w.alloc (.cells #[.int .i64 K3, .int .i64 I3, .float .f64 F3, .string S3, .slice q3 m3 d3] 27)) #[.int .i64 0, .int .i64 0, .float .f64 0, .string ⟨#[]⟩, .slice none 0 0] 27
  rw [World.size_alloc] at hz
  have HZ0 := Lib.hid hz
  have HB0 := Lib.hid (bel_alloc (bel_alloc (Below.refl w.heap.size w) (.cells #[.int .i64 K3, .int .i64 I3, .float .f64 F3, .string S3, .slice q3 m3 d3] 27)) (.cells #[.int .i64 0, .int .i64 0, .float .f64 0, .string ⟨#[]⟩, .slice none 0 0] 27))
  clear hz
  go_enter Try.func33, Try.ntmps33
  go_wp2_with fail
  go_at_call 58; refine (amount_is HA.out _ _ _ _ _).mono ?_; rintro e w1 ⟨rfl, hbw1⟩
  have HB1 := Lib.hid (bel_step HB0.out hbw1)
  have ra := row_step HA0.out hbw1
  have rz := row_step HZ0.out hbw1
  have HZ1 := Lib.hid rz
  have x0 := rc ra 0; have x1 := rc ra 1; have x2 := rc ra 2; have x3 := rc ra 3; have x4 := rc ra 4
  simp only [lk0, lk1, lk2] at x0 x1 x2 x3 x4
  have xf := fun o => row_frz ra o
  have xl := row_lt ra
  have HBX := Lib.hid (set5_below (g := w.heap.size) (o := 0) HB1.out (Nat.le_refl _) (.int .i64 2) (.int .i64 0) (.float .f64 G) (.string ⟨#[]⟩) (.slice none 0 0))
  have hzx := (set5_other (w := w1) (g := w.heap.size) (o := 0) (b := w.heap.size + 1) (u0 := .int .i64 2) (u1 := .int .i64 0) (u2 := .float .f64 G) (u3 := .string ⟨#[]⟩) (u4 := .slice none 0 0) (by omega)).trans rz
  have HZX := Lib.hid hzx
  clear hbw1 ra rz HB0 HA0 HZ0 hzx
  go_wp2_with fail
  go_at_call 52; refine (lfind_any _ _ c a (ES.map (·.1)) k false _ (entsL_step HE.out HBX.out) HS.out).mono ?_; rintro e w2 ⟨rfl, hbw2⟩
  have HB2 := Lib.hid (bel_step HBX.out hbw2)
  have rz2 := row_step HZX.out hbw2
  have y0 := rc rz2 0; have y1 := rc rz2 1; have y2 := rc rz2 2; have y3 := rc rz2 3; have y4 := rc rz2 4
  simp only [lk0, lk1, lk2] at y0 y1 y2 y3 y4
  have yf := fun o => row_frz rz2 o
  have yl := row_lt rz2
  clear hbw2 rz2 x0 x1 x2 x3 x4 xf xl
  go_wp2
  exact bodyPost_ret (v := .tuple #[.slice none 0 0, .agg #[.int .i64 0, .int .i64 0, .float .f64 0, .string ⟨#[]⟩, .slice none 0 0], .int .i64 30]) (by simp [results, Try.results33, go_sem, World.cell?_setCell_same, World.cell?_setCell_other, y0, y1, y2, y3, y4]) rfl ⟨rfl, set5_below (g := w.heap.size + 1) (o := 0) HB2.out (Nat.le_succ _) _ _ _ _ _⟩
end Num
end Go.Proofs.Yteodljkcbddehaa
/-
  Package ledger: deposit's last refusal; transfer and balance, their roads.
-/
namespace Go.Proofs.Yteodljkcbddehaa
open Go.RowKit
namespace Num
open Ints
set_option linter.unusedSimpArgs false
set_option linter.unusedVariables false
set_option maxRecDepth 100000 in
set_option maxHeartbeats 4000000 in
theorem deposit_sum (n : Nat) (b off l c a : Nat) (k : ByteArray) (K3 I3 : Int) (F3 : Nat) (S3 : ByteArray) (q3 : Option Addr) (m3 d3 : Nat) (G FV : Nat) (ES : List (ByteArray × VT (n + 1))) (Va : VT (n + 1)) (w0 w : World) (HBW : Hid (Below w0.heap.size w0 w)) (HL : Hid (RepL w0 (Rep w0 (n + 2)) (some ⟨b, off, none⟩) l c (ES.map (pairE n)))) (hl : l ≤ 32) (hal : a < ES.length) (hll : ES.length = l) (hka : ES[a]'hal = (k, Va)) (hs : Spot (ES.map (·.1)) k a true) (HA : Hid (AmtOk K3 I3 F3 G))
    (hv : Va.1 = 2 ∧ Va.2.2.1 = FV) (hsu : finV 2 (Flo.cop .add FV G) = false) :
    Calls Try.prog 33 #[.slice (some ⟨b, off, none⟩) l c, .string k, .agg #[.int .i64 K3, .int .i64 I3, .float .f64 F3, .string S3, .slice q3 m3 d3]] w fun e w' => e = .returned (.tuple #[.slice none 0 0, .agg #[.int .i64 0, .int .i64 0, .float .f64 0, .string ⟨#[]⟩, .slice none 0 0], .int .i64 35]) ∧ Below w.heap.size w w' := by
  have TR1 := Lib.hid (show (fun z0 : World => Zw z0 w.heap.size (.int .i64 K3) (.int .i64 I3) (.float .f64 F3) (.string S3) (.slice q3 m3 d3) ∧ Zz z0 (w.heap.size + 1) ∧ Below w.heap.size w z0) ((w.alloc (.cells #[.int .i64 K3, .int .i64 I3, .float .f64 F3, .string S3, .slice q3 m3 d3] 27)).alloc (.cells #[.int .i64 0, .int .i64 0, .float .f64 0, .string ⟨#[]⟩, .slice none 0 0] 27)) from ⟨row_alloc_step (row_alloc w #[.int .i64 K3, .int .i64 I3, .float .f64 F3, .string S3, .slice q3 m3 d3] 27) _, (ra (by simp only [World.size_alloc, World.size_drew])), bel_alloc (bel_alloc (Below.refl w.heap.size w) _) _⟩)
  have HE := Lib.hid (entsL_step (ents_of HL.out (by omega)) HBW.out)
  obtain ⟨ga, oa, cga, hc0, hc1, hc2, hc3, hc4, hp⟩ := acc_at (repL_acc HBW.out HL.out) (show a < ES.length from by omega)
  rw [hka] at hp
  have HCa0 := Lib.hid hc0
  have HCa1 := Lib.hid hc1
  have HCa2 := Lib.hid hc2
  have HCa3 := Lib.hid hc3
  have HCa4 := Lib.hid hc4
  have HPa := Lib.hid hp
  have hba := cell_lt hc0
  have ha1 : (0 : Int) ≤ (a : Int) := by omega
  have ha2 : (a : Int) < (l : Int) := by omega
  clear hc0 hc1 hc2 hc3 hc4 hp
  have HS := Lib.hid hs
  have HVV := Lib.hid hv
  have HSU := Lib.hid hsu
  clear hs hv hsu hka
  go_enter Try.func33, Try.ntmps33
  go_wp2_with fail
  go_at_call 58; refine (amount_is HA.out S3 q3 m3 d3 _).mono ?_; rintro e w1 ⟨rfl, hbw1⟩
  have TR2 := Lib.hid (And.intro (row_step TR1.out.1 hbw1) (And.intro (row_step TR1.out.2.1 hbw1) (bel_step TR1.out.2.2 hbw1)))
  clear TR1
  clear hbw1
  obtain ⟨c0_0, c0_1, c0_2, c0_3, c0_4, c0f, c0l⟩ := r7 TR2.out.1
  go_wp2_with fail
  have TR3 := Lib.hid (show (fun z0 : World => ZF z0 w.heap.size G ∧ Zz z0 (w.heap.size + 1) ∧ Below w.heap.size w z0) (((((w1.setCell ⟨w.heap.size, 0, none⟩ (.int .i64 2)).setCell ⟨w.heap.size, 1, none⟩ (.int .i64 0)).setCell ⟨w.heap.size, 2, none⟩ (.float .f64 G)).setCell ⟨w.heap.size, 3, none⟩ (.string ⟨#[]⟩)).setCell ⟨w.heap.size, 4, none⟩ (.slice none 0 0)) from ⟨s5r TR2.out.1, s5o TR2.out.2.1 (by omega), s5b TR2.out.2.2 (by omega)⟩)
  clear TR2
  clear c0_0 c0_1 c0_2 c0_3 c0_4 c0f c0l
  go_at_call 52; refine (lfind_any _ _ c a (ES.map (·.1)) k true _ (entsL_step HE.out TR3.out.2.2) HS.out).mono ?_; rintro e w2 ⟨rfl, hbw2⟩
  have TR4 := Lib.hid (And.intro (row_step TR3.out.1 hbw2) (And.intro (row_step TR3.out.2.1 hbw2) (bel_step TR3.out.2.2 hbw2)))
  clear TR3
  clear hbw2
  go_upto_region 7 with fail
  have TR5 := Lib.hid (And.intro (row_step TR4.out.1 (show Below w2.heap.size w2 w2.drew from Below.drew br)) (And.intro (row_step TR4.out.2.1 (show Below w2.heap.size w2 w2.drew from Below.drew br)) (bel_step TR4.out.2.2 (show Below w2.heap.size w2 w2.drew from Below.drew br))))
  clear TR4
  refine wp_region_held_drew (S := (fun z => z.cell? ⟨w.heap.size, 0, none⟩ = some (.int .i64 2) ∧ z.cell? ⟨w.heap.size, 1, none⟩ = some (.int .i64 0) ∧ z.cell? ⟨w.heap.size, 2, none⟩ = some (.float .f64 G) ∧ z.cell? ⟨w.heap.size, 3, none⟩ = some (.string ⟨#[]⟩) ∧ z.cell? ⟨w.heap.size, 4, none⟩ = some (.slice none 0 0) ∧ z.cell? ⟨b, off + a * 5, none⟩ = some (.int .i64 4) ∧ z.cell? ⟨b, off + a * 5 + 1, none⟩ = some (.int .i64 0) ∧ z.cell? ⟨b, off + a * 5 + 2, none⟩ = some (.float .f64 0) ∧ z.cell? ⟨b, off + a * 5 + 3, none⟩ = some (.string ⟨#[]⟩) ∧ z.cell? ⟨b, off + a * 5 + 4, none⟩ = some (.slice (some ⟨ga, oa, none⟩) 2 cga))) (by kernel_rfl) ?_ (fun hH => ?_)
  · exact ⟨rc TR5.out.1 0, rc TR5.out.1 1, rc TR5.out.1 2, rc TR5.out.1 3, rc TR5.out.1 4, ck TR5.out.2.2 HCa0.out, ck TR5.out.2.2 HCa1.out, ck TR5.out.2.2 HCa2.out, ck TR5.out.2.2 HCa3.out, ck TR5.out.2.2 HCa4.out⟩
  refine zt [0, 1, 2, 3, 4] ?_
  iterate 5 (refine zt1 (fun _ _ d _ _ h => by cases d <;> exact h) (by simp only [lk0, lk1, lk2]; rfl) (by kernel_rfl) (by assumption) (by rfl) (fun w h => by (try dsimp only at h); go_simp; (try with_reducible rfl)) ?_; (try simp only [Act.put, pk0, pk1, pk2]))
  refine zt0 ?_
  refine zr1 5 (by kernel_rfl) (by simp only [lk0, lk1, lk2]; rfl) (fun K hK => ?_)
  go_simp
  go_at_call 59; refine (more_no n ga oa cga k Va G _ (rep_keep TR5.out.2.2 _ _ _ HPa.out) FV HVV.out HSU.out).mono ?_; rintro e w9 ⟨rfl, hbw9⟩
  have TR6 := Lib.hid (And.intro (row_step TR5.out.1 hbw9) (And.intro (row_step TR5.out.2.1 hbw9) (bel_step TR5.out.2.2 hbw9)))
  clear TR5
  clear hbw9
  go_wp2_with fail
  refine hK.out _ _ ?hsv8_ (fun hH => ?_)
  case hsv8_ => exact ⟨rc TR6.out.1 0, rc TR6.out.1 1, rc TR6.out.1 2, rc TR6.out.1 3, rc TR6.out.1 4, ck TR6.out.2.2 HCa0.out, ck TR6.out.2.2 HCa1.out, ck TR6.out.2.2 HCa2.out, ck TR6.out.2.2 HCa3.out, ck TR6.out.2.2 HCa4.out⟩
  clear hK K
  (try simp only [Act.put, pk0, pk1, pk2])
  refine zt [6, 7, 8] ?_
  iterate 3 (refine zt1 (fun _ _ d _ _ h => by cases d <;> exact h) (by simp only [lk0, lk1, lk2]; rfl) (by kernel_rfl) (by assumption) (by rfl) (fun w h => by (try dsimp only at h); go_simp; (try with_reducible rfl)) ?_; (try simp only [Act.put, pk0, pk1, pk2]))
  refine zt0 ?_
  refine zr1 9 (by kernel_rfl) (by simp only [lk0, lk1, lk2]; rfl) (fun K hK => ?_)
  obtain ⟨b30, b31, b32, b33, b34, b3f, b3l⟩ := r7 TR6.out.2.1; go_simp
  have TR7 := Lib.hid (show (fun z0 : World => ZF z0 w.heap.size G ∧ Zz z0 (w.heap.size + 1) ∧ Below w.heap.size w z0) (((((w9.setCell ⟨w.heap.size + 1, 0, none⟩ (.int .i64 0)).setCell ⟨w.heap.size + 1, 1, none⟩ (.int .i64 0)).setCell ⟨w.heap.size + 1, 2, none⟩ (.float .f64 0)).setCell ⟨w.heap.size + 1, 3, none⟩ (.string ⟨#[]⟩)).setCell ⟨w.heap.size + 1, 4, none⟩ (.slice none 0 0)) from ⟨s5o TR6.out.1 (by omega), s5r TR6.out.2.1, s5b TR6.out.2.2 (by omega)⟩)
  clear TR6
  clear b30 b31 b32 b33 b34 b3f b3l
  go_wp2_with fail
  refine hK.out _ _ ?hsv13_ (fun hH => ?_)
  case hsv13_ => exact ⟨rc TR7.out.1 0, rc TR7.out.1 1, rc TR7.out.1 2, rc TR7.out.1 3, rc TR7.out.1 4, ck TR7.out.2.2 HCa0.out, ck TR7.out.2.2 HCa1.out, ck TR7.out.2.2 HCa2.out, ck TR7.out.2.2 HCa3.out, ck TR7.out.2.2 HCa4.out⟩
  clear hK K
  (try simp only [Act.put, pk0, pk1, pk2])
  refine zt [10] ?_
  refine zt1 (fun _ _ d _ _ h => by cases d <;> exact h) (by simp only [lk0, lk1, lk2]; rfl) (by kernel_rfl) (by assumption) (by rfl) (fun w h => by (try dsimp only at h); go_simp; (try with_reducible rfl)) ?_; (try simp only [Act.put, pk0, pk1, pk2])
  refine zt0 ?_
  refine wpAnyH_done (by kernel_rfl) ?_ _
  revert TR7
  generalize (((((w9.setCell ⟨w.heap.size + 1, 0, none⟩ (.int .i64 0)).setCell ⟨w.heap.size + 1, 1, none⟩ (.int .i64 0)).setCell ⟨w.heap.size + 1, 2, none⟩ (.float .f64 0)).setCell ⟨w.heap.size + 1, 3, none⟩ (.string ⟨#[]⟩)).setCell ⟨w.heap.size + 1, 4, none⟩ (.slice none 0 0)) = Wm15
  intro TR7
  obtain ⟨c1_0, c1_1, c1_2, c1_3, c1_4, c1f, c1l⟩ := r7 TR7.out.2.1
  go_wp2
  refine bodyPost_ret (v := .tuple #[.slice none 0 0, .agg #[.int .i64 0, .int .i64 0, .float .f64 0, .string ⟨#[]⟩, .slice none 0 0], .int .i64 35]) (by simp [results, Try.results33, go_sem, World.cell?_setCell_same, World.cell?_setCell_other, c1_0, c1_1, c1_2, c1_3, c1_4]) rfl ⟨rfl, ?_⟩
  exact set5_below (g := w.heap.size + 1) (o := 0) (TR7.out.2.2) (by omega) _ _ _ _ _
set_option maxRecDepth 100000 in
set_option maxHeartbeats 4000000 in
theorem transfer_none (n : Nat) (p : Option Addr) (l c a d : Nat) (ka kd : ByteArray) (fa fd : Bool) (K3 I3 : Int) (F3 : Nat) (S3 : ByteArray) (q3 : Option Addr) (m3 d3 : Nat) (G : Nat) (ES : List (ByteArray × VT (n + 1))) (w0 w : World) (HBW : Hid (Below w0.heap.size w0 w)) (HL : Hid (RepL w0 (Rep w0 (n + 2)) p l c (ES.map (pairE n)))) (hl : l ≤ 32) (HA : Hid (AmtOk K3 I3 F3 G)) (hs : Spot (ES.map (·.1)) ka a fa) (hsd : Spot (ES.map (·.1)) kd d fd) (hn : fa = false ∨ fd = false) :
    Calls Try.prog 34 #[.slice p l c, .string ka, .string kd, .agg #[.int .i64 K3, .int .i64 I3, .float .f64 F3, .string S3, .slice q3 m3 d3]] w fun e w' => e = .returned (.tuple #[.slice none 0 0, .agg #[.int .i64 0, .int .i64 0, .float .f64 0, .string ⟨#[]⟩, .slice none 0 0], .int .i64 30]) ∧ Below w.heap.size w w' := by
  have TR1 := Lib.hid (show (fun z0 : World => Zw z0 w.heap.size (.int .i64 K3) (.int .i64 I3) (.float .f64 F3) (.string S3) (.slice q3 m3 d3) ∧ Zz z0 (w.heap.size + 1) ∧ Below w.heap.size w z0) ((w.alloc (.cells #[.int .i64 K3, .int .i64 I3, .float .f64 F3, .string S3, .slice q3 m3 d3] 27)).alloc (.cells #[.int .i64 0, .int .i64 0, .float .f64 0, .string ⟨#[]⟩, .slice none 0 0] 27)) from ⟨row_alloc_step (row_alloc w #[.int .i64 K3, .int .i64 I3, .float .f64 F3, .string S3, .slice q3 m3 d3] 27) _, (ra (by simp only [World.size_alloc, World.size_drew])), bel_alloc (bel_alloc (Below.refl w.heap.size w) _) _⟩)
  have HE := Lib.hid (entsL_step (ents_of HL.out (by omega)) HBW.out)
  have HS := Lib.hid hs
  have HSD := Lib.hid hsd
  clear hs hsd
  go_enter Try.func34, Try.ntmps34
  go_wp2_with fail
  go_at_call 58; refine (amount_is HA.out S3 q3 m3 d3 _).mono ?_; rintro e w16 ⟨rfl, hbw16⟩
  have TR2 := Lib.hid (And.intro (row_step TR1.out.1 hbw16) (And.intro (row_step TR1.out.2.1 hbw16) (bel_step TR1.out.2.2 hbw16)))
  clear TR1
  clear hbw16
  obtain ⟨c0_0, c0_1, c0_2, c0_3, c0_4, c0f, c0l⟩ := r7 TR2.out.1
  go_wp2_with fail
  have TR3 := Lib.hid (show (fun z0 : World => ZF z0 w.heap.size G ∧ Zz z0 (w.heap.size + 1) ∧ Below w.heap.size w z0) (((((w16.setCell ⟨w.heap.size, 0, none⟩ (.int .i64 2)).setCell ⟨w.heap.size, 1, none⟩ (.int .i64 0)).setCell ⟨w.heap.size, 2, none⟩ (.float .f64 G)).setCell ⟨w.heap.size, 3, none⟩ (.string ⟨#[]⟩)).setCell ⟨w.heap.size, 4, none⟩ (.slice none 0 0)) from ⟨s5r TR2.out.1, s5o TR2.out.2.1 (by omega), s5b TR2.out.2.2 (by omega)⟩)
  clear TR2
  clear c0_0 c0_1 c0_2 c0_3 c0_4 c0f c0l
  go_at_call 52; refine (lfind_any _ _ c a (ES.map (·.1)) ka fa _ (entsL_step HE.out TR3.out.2.2) HS.out).mono ?_; rintro e w17 ⟨rfl, hbw17⟩
  have TR4 := Lib.hid (And.intro (row_step TR3.out.1 hbw17) (And.intro (row_step TR3.out.2.1 hbw17) (bel_step TR3.out.2.2 hbw17)))
  clear TR3
  clear hbw17
  go_wp2_with fail
  go_at_call 52; refine (lfind_any _ _ c d (ES.map (·.1)) kd fd _ (entsL_step HE.out TR4.out.2.2) HSD.out).mono ?_; rintro e w18 ⟨rfl, hbw18⟩
  have TR5 := Lib.hid (And.intro (row_step TR4.out.1 hbw18) (And.intro (row_step TR4.out.2.1 hbw18) (bel_step TR4.out.2.2 hbw18)))
  clear TR4
  clear hbw18
  have hfad : (fa = false ∨ (fa = true ∧ fd = false)) := by cases fa <;> cases fd <;> simp_all
  rcases hfad with rfl | ⟨rfl, rfl⟩
  · have c1_0 := rc TR5.out.2.1 0
    have c1_1 := rc TR5.out.2.1 1
    have c1_2 := rc TR5.out.2.1 2
    have c1_3 := rc TR5.out.2.1 3
    have c1_4 := rc TR5.out.2.1 4
    have c1f := row_frz TR5.out.2.1
    have c1l := row_lt TR5.out.2.1
    go_wp2
    refine bodyPost_ret (v := .tuple #[.slice none 0 0, .agg #[.int .i64 0, .int .i64 0, .float .f64 0, .string ⟨#[]⟩, .slice none 0 0], .int .i64 30]) (by simp [results, Try.results34, go_sem, World.cell?_setCell_same, World.cell?_setCell_other, c1_0, c1_1, c1_2, c1_3, c1_4]) rfl ⟨rfl, ?_⟩
    exact set5_below (g := w.heap.size + 1) (o := 0) (TR5.out.2.2) (by omega) _ _ _ _ _
  · have c1_0 := rc TR5.out.2.1 0
    have c1_1 := rc TR5.out.2.1 1
    have c1_2 := rc TR5.out.2.1 2
    have c1_3 := rc TR5.out.2.1 3
    have c1_4 := rc TR5.out.2.1 4
    have c1f := row_frz TR5.out.2.1
    have c1l := row_lt TR5.out.2.1
    go_wp2
    refine bodyPost_ret (v := .tuple #[.slice none 0 0, .agg #[.int .i64 0, .int .i64 0, .float .f64 0, .string ⟨#[]⟩, .slice none 0 0], .int .i64 30]) (by simp [results, Try.results34, go_sem, World.cell?_setCell_same, World.cell?_setCell_other, c1_0, c1_1, c1_2, c1_3, c1_4]) rfl ⟨rfl, ?_⟩
    exact set5_below (g := w.heap.size + 1) (o := 0) (TR5.out.2.2) (by omega) _ _ _ _ _
set_option maxRecDepth 100000 in
set_option maxHeartbeats 4000000 in
theorem balance_none (n : Nat) (p : Option Addr) (l c a : Nat) (k : ByteArray) (ES : List (ByteArray × VT (n + 1))) (w0 w : World) (HBW : Hid (Below w0.heap.size w0 w)) (HL : Hid (RepL w0 (Rep w0 (n + 2)) p l c (ES.map (pairE n)))) (hl : l ≤ 32) (hs : Spot (ES.map (·.1)) k a false) :
    Calls Try.prog 35 #[.slice p l c, .string k] w fun e w' => e = .returned (.tuple #[.agg #[.int .i64 0, .int .i64 0, .float .f64 0, .string ⟨#[]⟩, .slice none 0 0], .int .i64 30]) ∧ Below w.heap.size w w' := by
  have TR1 := Lib.hid (show (fun z0 : World => Zz z0 w.heap.size ∧ Below w.heap.size w z0) (w.alloc (.cells #[.int .i64 0, .int .i64 0, .float .f64 0, .string ⟨#[]⟩, .slice none 0 0] 27)) from ⟨row_alloc w #[.int .i64 0, .int .i64 0, .float .f64 0, .string ⟨#[]⟩, .slice none 0 0] 27, bel_alloc (Below.refl w.heap.size w) _⟩)
  have HE := Lib.hid (entsL_step (ents_of HL.out (by omega)) HBW.out)
  have HS := Lib.hid hs
  clear hs
  go_enter Try.func35, Try.ntmps35
  go_wp2_with fail
  go_at_call 52; refine (lfind_any _ _ c a (ES.map (·.1)) k false _ (entsL_step HE.out TR1.out.2) HS.out).mono ?_; rintro e w19 ⟨rfl, hbw19⟩
  have TR2 := Lib.hid (And.intro (row_step TR1.out.1 hbw19) (bel_step TR1.out.2 hbw19))
  clear TR1
  clear hbw19
  obtain ⟨c0_0, c0_1, c0_2, c0_3, c0_4, c0f, c0l⟩ := r7 TR2.out.1
  go_wp2
  exact bodyPost_ret (v := .tuple #[.agg #[.int .i64 0, .int .i64 0, .float .f64 0, .string ⟨#[]⟩, .slice none 0 0], .int .i64 30]) (by simp [results, Try.results35, go_sem, World.cell?_setCell_same, World.cell?_setCell_other, c0_0, c0_1, c0_2, c0_3, c0_4]) rfl ⟨rfl, set5_below (g := w.heap.size) (o := 0) TR2.out.2 (by omega) _ _ _ _ _⟩
set_option maxRecDepth 100000 in
set_option maxHeartbeats 4000000 in
theorem balance_ok (n : Nat) (b off l c a : Nat) (k : ByteArray) (ES : List (ByteArray × VT (n + 1))) (Va : VT (n + 1)) (w0 w : World) (HBW : Hid (Below w0.heap.size w0 w)) (HL : Hid (RepL w0 (Rep w0 (n + 2)) (some ⟨b, off, none⟩) l c (ES.map (pairE n)))) (hl : l ≤ 32) (hal : a < ES.length) (hll : ES.length = l) (hka : ES[a]'hal = (k, Va)) (hs : Spot (ES.map (·.1)) k a true) :
    Calls Try.prog 35 #[.slice (some ⟨b, off, none⟩) l c, .string k] w fun e w' => ∃ u, e = .returned (.tuple #[u, .int .i64 0]) ∧ Below w.heap.size w w' ∧ Rep w (n + 1) u Va := by
  have TR1 := Lib.hid (show (fun z0 : World => Zz z0 w.heap.size ∧ Below w.heap.size w z0) (w.alloc (.cells #[.int .i64 0, .int .i64 0, .float .f64 0, .string ⟨#[]⟩, .slice none 0 0] 27)) from ⟨row_alloc w #[.int .i64 0, .int .i64 0, .float .f64 0, .string ⟨#[]⟩, .slice none 0 0] 27, bel_alloc (Below.refl w.heap.size w) _⟩)
  have HE := Lib.hid (entsL_step (ents_of HL.out (by omega)) HBW.out)
  obtain ⟨ga, oa, cga, hc0, hc1, hc2, hc3, hc4, hp⟩ := acc_at (repL_acc HBW.out HL.out) (show a < ES.length from by omega)
  rw [hka] at hp
  have HCa0 := Lib.hid hc0
  have HCa1 := Lib.hid hc1
  have HCa2 := Lib.hid hc2
  have HCa3 := Lib.hid hc3
  have HCa4 := Lib.hid hc4
  have HPa := Lib.hid hp
  have hba := cell_lt hc0
  have ha1 : (0 : Int) ≤ (a : Int) := by omega
  have ha2 : (a : Int) < (l : Int) := by omega
  clear hc0 hc1 hc2 hc3 hc4 hp
  have HS := Lib.hid hs
  clear hs
  have HCX := Lib.hid (show ∀ W, Below w.heap.size w W → W.cell? ⟨b, off + a * 5, none⟩ = some (.int .i64 4) ∧ W.cell? ⟨b, off + a * 5 + 1, none⟩ = some (.int .i64 0) ∧ W.cell? ⟨b, off + a * 5 + 2, none⟩ = some (.float .f64 0) ∧ W.cell? ⟨b, off + a * 5 + 3, none⟩ = some (.string ⟨#[]⟩) ∧ W.cell? ⟨b, off + a * 5 + 4, none⟩ = some (.slice (some ⟨ga, oa, none⟩) 2 cga) from fun W hb => ⟨ck hb HCa0.out, ck hb HCa1.out, ck hb HCa2.out, ck hb HCa3.out, ck hb HCa4.out⟩)
  go_enter Try.func35, Try.ntmps35
  go_wp2_with fail
  go_at_call 52; refine (lfind_any _ _ c a (ES.map (·.1)) k true _ (entsL_step HE.out TR1.out.2) HS.out).mono ?_; rintro e w20 ⟨rfl, hbw20⟩
  have TR2 := Lib.hid (And.intro (row_step TR1.out.1 hbw20) (bel_step TR1.out.2 hbw20))
  clear TR1
  clear hbw20
  obtain ⟨ca0, ca1, ca2, ca3, ca4⟩ := HCX.out _ TR2.out.2
  go_wp2_with fail
  go_at_call 57; refine (hasOf_at n _ k Va w _ TR2.out.2 HPa.out).mono ?_; rintro e w21 ⟨Kx, Ix, Fx, Sx, qx, mx, dx, rfl, hbw21, hrx⟩
  have TR3 := Lib.hid (And.intro (row_step TR2.out.1 hbw21) (bel_step TR2.out.2 hbw21))
  clear TR2
  clear hbw21
  have HX := Lib.hid hrx
  clear hrx ca0 ca1 ca2 ca3 ca4
  obtain ⟨c0_0, c0_1, c0_2, c0_3, c0_4, c0f, c0l⟩ := r7 TR3.out.1
  go_wp2
  exact bodyPost_ret (v := .tuple #[.agg #[.int .i64 Kx, .int .i64 Ix, .float .f64 Fx, .string Sx, .slice qx mx dx], .int .i64 0]) (by simp [results, Try.results35, go_sem, World.cell?_setCell_same, World.cell?_setCell_other, c0_0, c0_1, c0_2, c0_3, c0_4]) rfl ⟨_, rfl, set5_below (g := w.heap.size) (o := 0) TR3.out.2 (by omega) _ _ _ _ _, HX.out⟩
end Num
end Go.Proofs.Yteodljkcbddehaa
/-
  Package ledger: Do, its roads.
-/
namespace Go.Proofs.Yteodljkcbddehaa
open Go.RowKit
namespace Num
open Ints
set_option linter.unusedSimpArgs false
set_option linter.unusedVariables false
set_option maxRecDepth 100000 in
set_option maxHeartbeats 4000000 in
theorem ldo_run (n m lt : Nat) (p : Option Addr) (l c : Nat) (ms : ByteArray) (pl : Option Addr) (ll cl : Nat) (w : World) (HR : Hid (∀ W, Below w.heap.size w W → Calls Try.prog 10 #[.agg #[.int .i64 4, .int .i64 0, .float .f64 0, .string ⟨#[]⟩, .slice p l c]] W fun e w' => e = .returned (.bool true) ∧ Below W.heap.size W w'))
    (HA : Hid (∀ W, Below w.heap.size w W → Calls Try.prog 15 #[.string { data := #[108, 101, 100, 103, 101, 114] }, .string ms, .slice pl ll cl] W fun e w' => e = .returned (.int .i64 0) ∧ Below W.heap.size W w'))
    (L : List (VT (n + 2))) (U : VT (m + 1)) (HU : Hid (∀ W, Below w.heap.size w W → Calls Try.prog 16 #[.slice p l c, .string ms, .slice pl ll cl] W fun e w' => LRun W n m lt L U 0 e w')) (GT : Hid (Cln (n + 3) (4, 0, 0, ⟨#[]⟩, L))) (GU : Hid (Cln (m + 1) U)) :
    Calls Try.prog 7 #[.agg #[.int .i64 4, .int .i64 0, .float .f64 0, .string ⟨#[]⟩, .slice p l c], .string ms, .slice pl ll cl] w fun e w' => DoQ w (n + 3) (m + 1) (cleanT (n + 3) (4, 0, 0, ⟨#[]⟩, L)) (cleanT (m + 1) U) 0 e w' := by
  have TR1 := Lib.hid (show (fun z0 : World => ZL z0 w.heap.size p l c ∧ Zz z0 (w.heap.size + 1) ∧ Zz z0 (w.heap.size + 1 + 1) ∧ Below w.heap.size w z0) (((w.alloc (.cells #[.int .i64 4, .int .i64 0, .float .f64 0, .string ⟨#[]⟩, .slice p l c] 27)).alloc (.cells #[.int .i64 0, .int .i64 0, .float .f64 0, .string ⟨#[]⟩, .slice none 0 0] 27)).alloc (.cells #[.int .i64 0, .int .i64 0, .float .f64 0, .string ⟨#[]⟩, .slice none 0 0] 27)) from ⟨row_alloc_step (row_alloc_step (row_alloc w #[.int .i64 4, .int .i64 0, .float .f64 0, .string ⟨#[]⟩, .slice p l c] 27) _) _, (row_alloc_step (ra (by simp only [World.size_alloc, World.size_drew])) _), (ra (by simp only [World.size_alloc, World.size_drew])), bel_alloc (bel_alloc (bel_alloc (Below.refl w.heap.size w) _) _) _⟩)
  go_enter Try.func7, Try.ntmps7
  go_wp2_with fail
  go_at_call 10; refine (HR.out _ TR1.out.2.2.2).mono ?_; rintro e w1 ⟨rfl, hbw1⟩
  have TR2 := Lib.hid (And.intro (row_step TR1.out.1 hbw1) (And.intro (row_step TR1.out.2.1 hbw1) (And.intro (row_step TR1.out.2.2.1 hbw1) (bel_step TR1.out.2.2.2 hbw1))))
  clear TR1
  clear hbw1
  go_wp2_with fail
  go_at_call 15; refine (HA.out _ TR2.out.2.2.2).mono ?_; rintro e w2 ⟨rfl, hbw2⟩
  have TR3 := Lib.hid (And.intro (row_step TR2.out.1 hbw2) (And.intro (row_step TR2.out.2.1 hbw2) (And.intro (row_step TR2.out.2.2.1 hbw2) (bel_step TR2.out.2.2.2 hbw2))))
  clear TR2
  clear hbw2
  obtain ⟨c0_0, c0_1, c0_2, c0_3, c0_4, c0f, c0l⟩ := r7 TR3.out.1
  go_wp2_with fail
  go_at_call 16; refine (HU.out _ TR3.out.2.2.2).mono ?_; rintro e w3 ⟨pt, ct, uu, rfl, hbw3, hrt, hru⟩
  have TR4 := Lib.hid (And.intro (row_step TR3.out.1 hbw3) (And.intro (row_step TR3.out.2.1 hbw3) (And.intro (row_step TR3.out.2.2.1 hbw3) (bel_step TR3.out.2.2.2 hbw3))))
  clear TR3
  obtain ⟨Ku, Iu, Fu, Su, qu, mu, du, rfl, _⟩ := rep_shape hru
  have HT := Lib.hid hrt
  have HUU := Lib.hid hru
  clear hrt hru
  clear hbw3
  clear c0_0 c0_1 c0_2 c0_3 c0_4 c0f c0l
  go_upto_region 9 with fail
  have hlt3 : w.heap.size < w3.heap.size := row_lt TR4.out.1
  have hlt4 : w.heap.size + 1 < w3.heap.size := row_lt TR4.out.2.1
  have hlt5 : w.heap.size + 1 + 1 < w3.heap.size := row_lt TR4.out.2.2.1
  have hlt6 : w.heap.size ≤ w3.heap.size := TR4.out.2.2.2.size
  have TR5 := Lib.hid (show (fun z0 : World => ZL z0 w.heap.size p l c ∧ Zz z0 (w.heap.size + 1) ∧ Zz z0 (w.heap.size + 1 + 1) ∧ Zw z0 w3.heap.size (.int .i64 Ku) (.int .i64 Iu) (.float .f64 Fu) (.string Su) (.slice qu mu du) ∧ Below w.heap.size w z0) (w3.alloc (.cells #[.int .i64 Ku, .int .i64 Iu, .float .f64 Fu, .string Su, .slice qu mu du] 27)) from ⟨row_alloc_step TR4.out.1 _, row_alloc_step TR4.out.2.1 _, row_alloc_step TR4.out.2.2.1 _, (ra (by simp only [World.size_alloc, World.size_drew])), bel_step TR4.out.2.2.2 (bel_alloc br _)⟩)
  have hb3x := bel_alloc (Below.refl w3.heap.size w3) (.cells #[.int .i64 Ku, .int .i64 Iu, .float .f64 Fu, .string Su, .slice qu mu du] 27)
  have hzx : (w3.alloc (.cells #[.int .i64 Ku, .int .i64 Iu, .float .f64 Fu, .string Su, .slice qu mu du] 27)).heap.size = w3.heap.size + 1 := World.size_alloc _ _
  have HTX := Lib.hid (show (fun z0 : World => ∀ W, Below z0.heap.size z0 W → RepL W (Rep W (n + 2)) pt lt ct L) (w3.alloc (.cells #[.int .i64 Ku, .int .i64 Iu, .float .f64 Fu, .string Su, .slice qu mu du] 27)) from fun W hb => repL_acc (bel_step hb3x hb) HT.out)
  have HUX := Lib.hid (show (fun z0 : World => ∀ W, Below z0.heap.size z0 W → Rep W (m + 1) (.agg #[.int .i64 Ku, .int .i64 Iu, .float .f64 Fu, .string Su, .slice qu mu du]) U) (w3.alloc (.cells #[.int .i64 Ku, .int .i64 Iu, .float .f64 Fu, .string Su, .slice qu mu du] 27)) from fun W hb => rep_keep (bel_step hb3x hb) _ _ _ HUU.out)
  clear hb3x HT HUU
  revert TR5 hzx HTX HUX
  generalize (w3.alloc (.cells #[.int .i64 Ku, .int .i64 Iu, .float .f64 Fu, .string Su, .slice qu mu du] 27)) = Wx
  intro TR5 hzx HTX HUX
  have TR6 := Lib.hid (show ZL Wx w.heap.size p l c ∧ Zz Wx (w.heap.size + 1) ∧ Zz Wx (w.heap.size + 1 + 1) ∧ Zw Wx w3.heap.size (.int .i64 Ku) (.int .i64 Iu) (.float .f64 Fu) (.string Su) (.slice qu mu du) ∧ (Below Wx.heap.size Wx Wx) ∧ Below w.heap.size w Wx from ⟨TR5.out.1, TR5.out.2.1, TR5.out.2.2.1, TR5.out.2.2.2.1, Below.refl _ _, TR5.out.2.2.2.2⟩)
  clear TR5
  have hw3 : w.heap.size ≤ w3.heap.size := by omega
  have TR7 := Lib.hid (And.intro (row_step TR6.out.1 (Below.drew br)) (And.intro (row_step TR6.out.2.1 (Below.drew br)) (And.intro (row_step TR6.out.2.2.1 (Below.drew br)) (And.intro (row_step TR6.out.2.2.2.1 (Below.drew br)) (And.intro (bel_step TR6.out.2.2.2.2.1 (Below.drew br)) (bel_step TR6.out.2.2.2.2.2 (Below.drew br)))))))
  clear TR6
  refine wp_region_held_drew (S := (fun z => z.cell? ⟨w3.heap.size, 0, none⟩ = some (.int .i64 Ku) ∧ z.cell? ⟨w3.heap.size, 1, none⟩ = some (.int .i64 Iu) ∧ z.cell? ⟨w3.heap.size, 2, none⟩ = some (.float .f64 Fu) ∧ z.cell? ⟨w3.heap.size, 3, none⟩ = some (.string Su) ∧ z.cell? ⟨w3.heap.size, 4, none⟩ = some (.slice qu mu du))) (by kernel_rfl) ?_ (fun hH => ?_)
  · exact ⟨rc TR7.out.2.2.2.1 0, rc TR7.out.2.2.2.1 1, rc TR7.out.2.2.2.1 2, rc TR7.out.2.2.2.1 3, rc TR7.out.2.2.2.1 4⟩
  refine zt [0, 3] ?_
  iterate 2 (refine zt1 (fun _ _ d _ _ h => by cases d <;> exact h) (by simp only [lk0, lk1, lk2]; rfl) (by kernel_rfl) (by assumption) (by rfl) (fun w h => by (try dsimp only at h); go_simp; (try with_reducible rfl)) ?_; (try simp only [Act.put, pk0, pk1, pk2]))
  refine zt0 ?_
  refine zr1 1 (by kernel_rfl) (by simp only [lk0, lk1, lk2]; rfl) (fun K hK => ?_)
  go_simp
  go_at_call 18; refine (llist_any _ _ _ _).mono ?_; rintro e w10 ⟨rfl, hbw10⟩
  have TR8 := Lib.hid (And.intro (row_step TR7.out.1 hbw10) (And.intro (row_step TR7.out.2.1 hbw10) (And.intro (row_step TR7.out.2.2.1 hbw10) (And.intro (row_step TR7.out.2.2.2.1 hbw10) (And.intro (bel_step TR7.out.2.2.2.2.1 hbw10) (bel_step TR7.out.2.2.2.2.2 hbw10))))))
  clear TR7
  clear hbw10
  go_wp2_with fail
  refine hK.out _ _ ?hsv9_ (fun hH => ?_)
  case hsv9_ => exact ⟨rc TR8.out.2.2.2.1 0, rc TR8.out.2.2.2.1 1, rc TR8.out.2.2.2.1 2, rc TR8.out.2.2.2.1 3, rc TR8.out.2.2.2.1 4⟩
  clear hK K
  (try simp only [Act.put, pk0, pk1, pk2])
  refine zr1 2 (by kernel_rfl) (by simp only [lk0, lk1, lk2]; rfl) (fun K hK => ?_)
  go_simp
  have hcw0 : w3.heap.size < w10.heap.size := by have h := TR8.out.2.2.2.2.1.size; omega
  go_at_call 17; refine (vclean_any (n + 3) _ (4, 0, 0, ⟨#[]⟩, L) _ (list_rep (HTX.out _ TR8.out.2.2.2.2.1)) GT.out.1 GT.out.2.1 GT.out.2.2).mono ?_; rintro e w12 ⟨v4, rfl, hbw12, hr4⟩
  have TR9 := Lib.hid (And.intro (row_step TR8.out.1 hbw12) (And.intro (row_step TR8.out.2.1 hbw12) (And.intro (row_step TR8.out.2.2.1 hbw12) (And.intro (row_step TR8.out.2.2.2.1 hbw12) (And.intro (bel_step TR8.out.2.2.2.2.1 hbw12) (bel_step TR8.out.2.2.2.2.2 hbw12))))))
  clear TR8
  obtain ⟨Ka, Ia, Fa, Sa, qa, ma, da, rfl, _⟩ := repS_shape hr4
  have HC0 := Lib.hid (repS_lt _ _ _ hr4)
  clear hr4
  have TR10 := Lib.hid (show ZL w12 w.heap.size p l c ∧ Zz w12 (w.heap.size + 1) ∧ Zz w12 (w.heap.size + 1 + 1) ∧ Zw w12 w3.heap.size (.int .i64 Ku) (.int .i64 Iu) (.float .f64 Fu) (.string Su) (.slice qu mu du) ∧ (Below Wx.heap.size Wx w12) ∧ (Stay w10.heap.size w12 w12 ∧ w12.heap.size ≤ w12.heap.size) ∧ Below w.heap.size w w12 from ⟨TR9.out.1, TR9.out.2.1, TR9.out.2.2.1, TR9.out.2.2.2.1, TR9.out.2.2.2.2.1, ⟨stay_refl _ _, Nat.le_refl _⟩, TR9.out.2.2.2.2.2⟩)
  clear TR9
  clear hbw12
  go_wp2_with fail
  refine hK.out _ _ ?hsv11_ (fun hH => ?_)
  case hsv11_ => exact ⟨rc TR10.out.2.2.2.1 0, rc TR10.out.2.2.2.1 1, rc TR10.out.2.2.2.1 2, rc TR10.out.2.2.2.1 3, rc TR10.out.2.2.2.1 4⟩
  clear hK K
  (try simp only [Act.put, pk0, pk1, pk2])
  refine zr1 4 (by kernel_rfl) (by simp only [lk0, lk1, lk2]; rfl) (fun K hK => ?_)
  go_simp
  have hcw1 : w3.heap.size < w12.heap.size := by have h := TR10.out.2.2.2.2.1.size; omega
  go_at_call 17; refine (vclean_any (m + 1) _ U _ (HUX.out _ TR10.out.2.2.2.2.1) GU.out.1 GU.out.2.1 GU.out.2.2).mono ?_; rintro e w14 ⟨v4, rfl, hbw14, hr4⟩
  have TR11 := Lib.hid (show ZL w14 w.heap.size p l c ∧ Zz w14 (w.heap.size + 1) ∧ Zz w14 (w.heap.size + 1 + 1) ∧ Zw w14 w3.heap.size (.int .i64 Ku) (.int .i64 Iu) (.float .f64 Fu) (.string Su) (.slice qu mu du) ∧ (Below Wx.heap.size Wx w14) ∧ (Stay w10.heap.size w12 w14 ∧ w12.heap.size ≤ w14.heap.size) ∧ Below w.heap.size w w14 from ⟨row_step TR10.out.1 hbw14, row_step TR10.out.2.1 hbw14, row_step TR10.out.2.2.1 hbw14, row_step TR10.out.2.2.2.1 hbw14, bel_step TR10.out.2.2.2.2.1 hbw14, ⟨stay_trans TR10.out.2.2.2.2.2.1.1 TR10.out.2.2.2.2.2.1.2 hbw14, Nat.le_trans TR10.out.2.2.2.2.2.1.2 hbw14.size⟩, bel_step TR10.out.2.2.2.2.2.2 hbw14⟩)
  clear TR10
  obtain ⟨Kb, Ib, Fb, Sb, qb, mb, db, rfl, _⟩ := repS_shape hr4
  have HC1 := Lib.hid (repS_lt _ _ _ hr4)
  clear hr4
  have TR12 := Lib.hid (show ZL w14 w.heap.size p l c ∧ Zz w14 (w.heap.size + 1) ∧ Zz w14 (w.heap.size + 1 + 1) ∧ Zw w14 w3.heap.size (.int .i64 Ku) (.int .i64 Iu) (.float .f64 Fu) (.string Su) (.slice qu mu du) ∧ (Below Wx.heap.size Wx w14) ∧ (Stay w10.heap.size w12 w14 ∧ w12.heap.size ≤ w14.heap.size) ∧ (Stay w12.heap.size w14 w14 ∧ w14.heap.size ≤ w14.heap.size) ∧ Below w.heap.size w w14 from ⟨TR11.out.1, TR11.out.2.1, TR11.out.2.2.1, TR11.out.2.2.2.1, TR11.out.2.2.2.2.1, TR11.out.2.2.2.2.2.1, ⟨stay_refl _ _, Nat.le_refl _⟩, TR11.out.2.2.2.2.2.2⟩)
  clear TR11
  clear hbw14
  go_wp2_with fail
  refine hK.out _ _ ?hsv13_ (fun hH => ?_)
  case hsv13_ => exact ⟨rc TR12.out.2.2.2.1 0, rc TR12.out.2.2.2.1 1, rc TR12.out.2.2.2.1 2, rc TR12.out.2.2.2.1 3, rc TR12.out.2.2.2.1 4⟩
  clear hK K
  (try simp only [Act.put, pk0, pk1, pk2])
  refine zr1 5 (by kernel_rfl) (by simp only [lk0, lk1, lk2]; rfl) (fun K hK => ?_)
  have TR13 := Lib.hid (show w14.heap[w.heap.size]? = some (.cells #[.int .i64 4, .int .i64 0, .float .f64 0, .string ⟨#[]⟩, .slice p l c] 27 (0, 0)) ∧ w14.heap[w.heap.size + 1]? = some (.cells #[.int .i64 0, .int .i64 0, .float .f64 0, .string ⟨#[]⟩, .slice none 0 0] 27 (0, 0)) ∧ w14.heap[w.heap.size + 1 + 1]? = some (.cells #[.int .i64 0, .int .i64 0, .float .f64 0, .string ⟨#[]⟩, .slice none 0 0] 27 (0, 0)) ∧ w14.heap[w3.heap.size]? = some (.cells #[.int .i64 Ku, .int .i64 Iu, .float .f64 Fu, .string Su, .slice qu mu du] 27 (0, 0)) ∧ (Stay w10.heap.size w12 w14 ∧ w12.heap.size ≤ w14.heap.size) ∧ (Stay w12.heap.size w14 w14 ∧ w14.heap.size ≤ w14.heap.size) ∧ Below w.heap.size w w14 from ⟨TR12.out.1, TR12.out.2.1, TR12.out.2.2.1, TR12.out.2.2.2.1, TR12.out.2.2.2.2.2.1, TR12.out.2.2.2.2.2.2.1, TR12.out.2.2.2.2.2.2.2⟩);   clear TR12; obtain ⟨b30, b31, b32, b33, b34, b3f, b3l⟩ := r7 TR13.out.2.1; go_simp
  have TR14 := Lib.hid (show (fun z0 : World => ZL z0 w.heap.size p l c ∧ Zw z0 (w.heap.size + 1) (.int .i64 Ka) (.int .i64 Ia) (.float .f64 Fa) (.string Sa) (.slice qa ma da) ∧ Zz z0 (w.heap.size + 1 + 1) ∧ Zw z0 w3.heap.size (.int .i64 Ku) (.int .i64 Iu) (.float .f64 Fu) (.string Su) (.slice qu mu du) ∧ (Stay w10.heap.size w12 z0 ∧ w12.heap.size ≤ z0.heap.size) ∧ (Stay w12.heap.size w14 z0 ∧ w14.heap.size ≤ z0.heap.size) ∧ Below w.heap.size w z0) (((((w14.setCell ⟨w.heap.size + 1, 0, none⟩ (.int .i64 Ka)).setCell ⟨w.heap.size + 1, 1, none⟩ (.int .i64 Ia)).setCell ⟨w.heap.size + 1, 2, none⟩ (.float .f64 Fa)).setCell ⟨w.heap.size + 1, 3, none⟩ (.string Sa)).setCell ⟨w.heap.size + 1, 4, none⟩ (.slice qa ma da)) from ⟨s5o TR13.out.1 (by omega), s5r TR13.out.2.1, s5o TR13.out.2.2.1 (by omega), s5o TR13.out.2.2.2.1 (by omega), ⟨stay_set TR13.out.2.2.2.2.1.1 (by omega) (.int .i64 Ka) (.int .i64 Ia) (.float .f64 Fa) (.string Sa) (.slice qa ma da), by show _ ≤ (set5 w14 (w.heap.size + 1) 0 (.int .i64 Ka) (.int .i64 Ia) (.float .f64 Fa) (.string Sa) (.slice qa ma da)).heap.size; rw [set5_size]; exact TR13.out.2.2.2.2.1.2⟩, ⟨stay_set TR13.out.2.2.2.2.2.1.1 (by omega) (.int .i64 Ka) (.int .i64 Ia) (.float .f64 Fa) (.string Sa) (.slice qa ma da), by show _ ≤ (set5 w14 (w.heap.size + 1) 0 (.int .i64 Ka) (.int .i64 Ia) (.float .f64 Fa) (.string Sa) (.slice qa ma da)).heap.size; rw [set5_size]; exact TR13.out.2.2.2.2.2.1.2⟩, s5b TR13.out.2.2.2.2.2.2 (by omega)⟩)
  clear TR13
  clear b30 b31 b32 b33 b34 b3f b3l
  go_wp2_with fail
  refine hK.out _ _ ?hsv15_ (fun hH => ?_)
  case hsv15_ => exact ⟨rc TR14.out.2.2.2.1 0, rc TR14.out.2.2.2.1 1, rc TR14.out.2.2.2.1 2, rc TR14.out.2.2.2.1 3, rc TR14.out.2.2.2.1 4⟩
  clear hK K
  (try simp only [Act.put, pk0, pk1, pk2])
  refine zr1 6 (by kernel_rfl) (by simp only [lk0, lk1, lk2]; rfl) (fun K hK => ?_)
  obtain ⟨b30, b31, b32, b33, b34, b3f, b3l⟩ := r7 TR14.out.2.2.1; go_simp
  have TR15 := Lib.hid (show (fun z0 : World => ZL z0 w.heap.size p l c ∧ Zw z0 (w.heap.size + 1) (.int .i64 Ka) (.int .i64 Ia) (.float .f64 Fa) (.string Sa) (.slice qa ma da) ∧ Zw z0 (w.heap.size + 1 + 1) (.int .i64 Kb) (.int .i64 Ib) (.float .f64 Fb) (.string Sb) (.slice qb mb db) ∧ Zw z0 w3.heap.size (.int .i64 Ku) (.int .i64 Iu) (.float .f64 Fu) (.string Su) (.slice qu mu du) ∧ (Stay w10.heap.size w12 z0 ∧ w12.heap.size ≤ z0.heap.size) ∧ (Stay w12.heap.size w14 z0 ∧ w14.heap.size ≤ z0.heap.size) ∧ Below w.heap.size w z0) ((((((((((w14.setCell ⟨w.heap.size + 1, 0, none⟩ (.int .i64 Ka)).setCell ⟨w.heap.size + 1, 1, none⟩ (.int .i64 Ia)).setCell ⟨w.heap.size + 1, 2, none⟩ (.float .f64 Fa)).setCell ⟨w.heap.size + 1, 3, none⟩ (.string Sa)).setCell ⟨w.heap.size + 1, 4, none⟩ (.slice qa ma da)).setCell ⟨w.heap.size + 1 + 1, 0, none⟩ (.int .i64 Kb)).setCell ⟨w.heap.size + 1 + 1, 1, none⟩ (.int .i64 Ib)).setCell ⟨w.heap.size + 1 + 1, 2, none⟩ (.float .f64 Fb)).setCell ⟨w.heap.size + 1 + 1, 3, none⟩ (.string Sb)).setCell ⟨w.heap.size + 1 + 1, 4, none⟩ (.slice qb mb db)) from ⟨s5o TR14.out.1 (by omega), s5o TR14.out.2.1 (by omega), s5r TR14.out.2.2.1, s5o TR14.out.2.2.2.1 (by omega), ⟨stay_set TR14.out.2.2.2.2.1.1 (by omega) (.int .i64 Kb) (.int .i64 Ib) (.float .f64 Fb) (.string Sb) (.slice qb mb db), by show _ ≤ (set5 (((((w14.setCell ⟨w.heap.size + 1, 0, none⟩ (.int .i64 Ka)).setCell ⟨w.heap.size + 1, 1, none⟩ (.int .i64 Ia)).setCell ⟨w.heap.size + 1, 2, none⟩ (.float .f64 Fa)).setCell ⟨w.heap.size + 1, 3, none⟩ (.string Sa)).setCell ⟨w.heap.size + 1, 4, none⟩ (.slice qa ma da)) (w.heap.size + 1 + 1) 0 (.int .i64 Kb) (.int .i64 Ib) (.float .f64 Fb) (.string Sb) (.slice qb mb db)).heap.size; rw [set5_size]; exact TR14.out.2.2.2.2.1.2⟩, ⟨stay_set TR14.out.2.2.2.2.2.1.1 (by omega) (.int .i64 Kb) (.int .i64 Ib) (.float .f64 Fb) (.string Sb) (.slice qb mb db), by show _ ≤ (set5 (((((w14.setCell ⟨w.heap.size + 1, 0, none⟩ (.int .i64 Ka)).setCell ⟨w.heap.size + 1, 1, none⟩ (.int .i64 Ia)).setCell ⟨w.heap.size + 1, 2, none⟩ (.float .f64 Fa)).setCell ⟨w.heap.size + 1, 3, none⟩ (.string Sa)).setCell ⟨w.heap.size + 1, 4, none⟩ (.slice qa ma da)) (w.heap.size + 1 + 1) 0 (.int .i64 Kb) (.int .i64 Ib) (.float .f64 Fb) (.string Sb) (.slice qb mb db)).heap.size; rw [set5_size]; exact TR14.out.2.2.2.2.2.1.2⟩, s5b TR14.out.2.2.2.2.2.2 (by omega)⟩)
  clear TR14
  clear b30 b31 b32 b33 b34 b3f b3l
  go_wp2_with fail
  refine hK.out _ _ ?hsv16_ (fun hH => ?_)
  case hsv16_ => exact ⟨rc TR15.out.2.2.2.1 0, rc TR15.out.2.2.2.1 1, rc TR15.out.2.2.2.1 2, rc TR15.out.2.2.2.1 3, rc TR15.out.2.2.2.1 4⟩
  clear hK K
  (try simp only [Act.put, pk0, pk1, pk2])
  refine zt [7] ?_
  refine zt1 (fun _ _ d _ _ h => by cases d <;> exact h) (by simp only [lk0, lk1, lk2]; rfl) (by kernel_rfl) (by assumption) (by rfl) (fun w h => by (try dsimp only at h); go_simp; (try with_reducible rfl)) ?_; (try simp only [Act.put, pk0, pk1, pk2])
  refine zt0 ?_
  refine wpAnyH_done (by kernel_rfl) ?_ _
  revert TR15
  generalize ((((((((((w14.setCell ⟨w.heap.size + 1, 0, none⟩ (.int .i64 Ka)).setCell ⟨w.heap.size + 1, 1, none⟩ (.int .i64 Ia)).setCell ⟨w.heap.size + 1, 2, none⟩ (.float .f64 Fa)).setCell ⟨w.heap.size + 1, 3, none⟩ (.string Sa)).setCell ⟨w.heap.size + 1, 4, none⟩ (.slice qa ma da)).setCell ⟨w.heap.size + 1 + 1, 0, none⟩ (.int .i64 Kb)).setCell ⟨w.heap.size + 1 + 1, 1, none⟩ (.int .i64 Ib)).setCell ⟨w.heap.size + 1 + 1, 2, none⟩ (.float .f64 Fb)).setCell ⟨w.heap.size + 1 + 1, 3, none⟩ (.string Sb)).setCell ⟨w.heap.size + 1 + 1, 4, none⟩ (.slice qb mb db)) = Wf
  intro TR15
  obtain ⟨c1_0, c1_1, c1_2, c1_3, c1_4, c1f, c1l⟩ := r7 TR15.out.2.1
  obtain ⟨c2_0, c2_1, c2_2, c2_3, c2_4, c2f, c2l⟩ := r7 TR15.out.2.2.1
  go_wp2
  refine bodyPost_ret (v := .tuple #[.agg #[.int .i64 Ka, .int .i64 Ia, .float .f64 Fa, .string Sa, .slice qa ma da], .agg #[.int .i64 Kb, .int .i64 Ib, .float .f64 Fb, .string Sb, .slice qb mb db], .int .i64 0]) (by simp [results, Try.results7, go_sem, c1_0, c1_1, c1_2, c1_3, c1_4, c2_0, c2_1, c2_2, c2_3, c2_4]) rfl ⟨_, _, rfl, TR15.out.2.2.2.2.2.2, ?_, ?_⟩
  · exact repS_mono (fun b hb => Nat.le_trans hw3 (Nat.le_trans (Nat.le_of_lt hcw0) hb.1)) _ _ _ (repS_keep (fun b hb => TR15.out.2.2.2.2.1.1 b hb.1 hb.2) _ _ _ HC0.out)
  · exact repS_mono (fun b hb => Nat.le_trans hw3 (Nat.le_trans (Nat.le_of_lt hcw1) hb.1)) _ _ _ (repS_keep (fun b hb => TR15.out.2.2.2.2.2.1.1 b hb.1 hb.2) _ _ _ HC1.out)
set_option maxRecDepth 100000 in
set_option maxHeartbeats 4000000 in
theorem ldo_bad (z : Int) (hz : (z != 0) = true) (N M n m lt : Nat) (p : Option Addr) (l c : Nat) (ms : ByteArray) (pl : Option Addr) (ll cl : Nat) (w : World) (HR : Hid (∀ W, Below w.heap.size w W → Calls Try.prog 10 #[.agg #[.int .i64 4, .int .i64 0, .float .f64 0, .string ⟨#[]⟩, .slice p l c]] W fun e w' => e = .returned (.bool true) ∧ Below W.heap.size W w'))
    (HA : Hid (∀ W, Below w.heap.size w W → Calls Try.prog 15 #[.string { data := #[108, 101, 100, 103, 101, 114] }, .string ms, .slice pl ll cl] W fun e w' => e = .returned (.int .i64 0) ∧ Below W.heap.size W w'))
    (L : List (VT (n + 2))) (U : VT (m + 1)) (HU : Hid (∀ W, Below w.heap.size w W → Calls Try.prog 16 #[.slice p l c, .string ms, .slice pl ll cl] W fun e w' => LRun W n m lt L U z e w')) :
    Calls Try.prog 7 #[.agg #[.int .i64 4, .int .i64 0, .float .f64 0, .string ⟨#[]⟩, .slice p l c], .string ms, .slice pl ll cl] w fun e w' => DoQ w (N + 1) (M + 1) (nilT N) (nilT M) z e w' := by
  have TR1 := Lib.hid (show (fun z0 : World => ZL z0 w.heap.size p l c ∧ Zz z0 (w.heap.size + 1) ∧ Zz z0 (w.heap.size + 1 + 1) ∧ Below w.heap.size w z0) (((w.alloc (.cells #[.int .i64 4, .int .i64 0, .float .f64 0, .string ⟨#[]⟩, .slice p l c] 27)).alloc (.cells #[.int .i64 0, .int .i64 0, .float .f64 0, .string ⟨#[]⟩, .slice none 0 0] 27)).alloc (.cells #[.int .i64 0, .int .i64 0, .float .f64 0, .string ⟨#[]⟩, .slice none 0 0] 27)) from ⟨row_alloc_step (row_alloc_step (row_alloc w #[.int .i64 4, .int .i64 0, .float .f64 0, .string ⟨#[]⟩, .slice p l c] 27) _) _, (row_alloc_step (ra (by simp only [World.size_alloc, World.size_drew])) _), (ra (by simp only [World.size_alloc, World.size_drew])), bel_alloc (bel_alloc (bel_alloc (Below.refl w.heap.size w) _) _) _⟩)
  go_enter Try.func7, Try.ntmps7
  go_wp2_with fail
  go_at_call 10; refine (HR.out _ TR1.out.2.2.2).mono ?_; rintro e w18 ⟨rfl, hbw18⟩
  have TR2 := Lib.hid (And.intro (row_step TR1.out.1 hbw18) (And.intro (row_step TR1.out.2.1 hbw18) (And.intro (row_step TR1.out.2.2.1 hbw18) (bel_step TR1.out.2.2.2 hbw18))))
  clear TR1
  clear hbw18
  go_wp2_with fail
  go_at_call 15; refine (HA.out _ TR2.out.2.2.2).mono ?_; rintro e w19 ⟨rfl, hbw19⟩
  have TR3 := Lib.hid (And.intro (row_step TR2.out.1 hbw19) (And.intro (row_step TR2.out.2.1 hbw19) (And.intro (row_step TR2.out.2.2.1 hbw19) (bel_step TR2.out.2.2.2 hbw19))))
  clear TR2
  clear hbw19
  obtain ⟨c0_0, c0_1, c0_2, c0_3, c0_4, c0f, c0l⟩ := r7 TR3.out.1
  go_wp2_with fail
  go_at_call 16; refine (HU.out _ TR3.out.2.2.2).mono ?_; rintro e w3 ⟨pt, ct, uu, rfl, hbw3, hrt, hru⟩
  have TR4 := Lib.hid (And.intro (row_step TR3.out.1 hbw3) (And.intro (row_step TR3.out.2.1 hbw3) (And.intro (row_step TR3.out.2.2.1 hbw3) (bel_step TR3.out.2.2.2 hbw3))))
  clear TR3
  obtain ⟨Ku, Iu, Fu, Su, qu, mu, du, rfl, _⟩ := rep_shape hru
  clear hrt hru
  clear hbw3
  clear c0_0 c0_1 c0_2 c0_3 c0_4 c0f c0l
  go_upto_region 8 with fail
  have hlt20 : w.heap.size < w3.heap.size := row_lt TR4.out.1
  have hlt21 : w.heap.size + 1 < w3.heap.size := row_lt TR4.out.2.1
  have hlt22 : w.heap.size + 1 + 1 < w3.heap.size := row_lt TR4.out.2.2.1
  have hlt23 : w.heap.size ≤ w3.heap.size := TR4.out.2.2.2.size
  have TR5 := Lib.hid (show (fun z0 : World => ZL z0 w.heap.size p l c ∧ Zz z0 (w.heap.size + 1) ∧ Zz z0 (w.heap.size + 1 + 1) ∧ Zw z0 w3.heap.size (.int .i64 Ku) (.int .i64 Iu) (.float .f64 Fu) (.string Su) (.slice qu mu du) ∧ Below w.heap.size w z0) (w3.alloc (.cells #[.int .i64 Ku, .int .i64 Iu, .float .f64 Fu, .string Su, .slice qu mu du] 27)) from ⟨row_alloc_step TR4.out.1 _, row_alloc_step TR4.out.2.1 _, row_alloc_step TR4.out.2.2.1 _, (ra (by simp only [World.size_alloc, World.size_drew])), bel_step TR4.out.2.2.2 (bel_alloc br _)⟩)
  revert TR5
  generalize (w3.alloc (.cells #[.int .i64 Ku, .int .i64 Iu, .float .f64 Fu, .string Su, .slice qu mu du] 27)) = Wx
  intro TR5
  obtain ⟨c1_0, c1_1, c1_2, c1_3, c1_4, c1f, c1l⟩ := r7 TR5.out.2.1
  obtain ⟨c2_0, c2_1, c2_2, c2_3, c2_4, c2f, c2l⟩ := r7 TR5.out.2.2.1
  go_wp2
  refine bodyPost_ret (v := .tuple #[.agg #[.int .i64 0, .int .i64 0, .float .f64 0, .string ⟨#[]⟩, .slice none 0 0], .agg #[.int .i64 0, .int .i64 0, .float .f64 0, .string ⟨#[]⟩, .slice none 0 0], .int .i64 z]) (by simp [results, Try.results7, go_sem, World.cell?_setCell_same, World.cell?_setCell_other, c1_0, c1_1, c1_2, c1_3, c1_4, c2_0, c2_1, c2_2, c2_3, c2_4]) rfl ⟨_, _, rfl, ?_, nil_rep _ _ _, nil_rep _ _ _⟩
  exact set5_below (g := w.heap.size + 1 + 1) (o := 0) (set5_below (g := w.heap.size + 1) (o := 0) TR5.out.2.2.2.2 (by omega) _ _ _ _ _) (by omega) _ _ _ _ _
end Num
end Go.Proofs.Yteodljkcbddehaa
/-
  Package ledger: Do, method by method, on ledgers of floats.
-/
namespace Go.Proofs.Yteodljkcbddehaa
open Go.RowKit
namespace Num
open Ints
set_option linter.unusedSimpArgs false
set_option linter.unusedVariables false
def ledC : ByteArray := { data := #[108, 101, 100, 103, 101, 114] }
theorem led_metas : metas ledC = msL := by rfl
theorem name_cell {n : Nat} {k : ByteArray} (hk : nmV 3 k = true) : checkM (measT (n + 1) (nameV n k)) = 0 := (name_light n hk).1
theorem num_light {n : Nat} {K I : Int} {F : Nat} (hK : isNum K = true) : checkM (measT (n + 1) ((K, I, F, ⟨#[]⟩, []) : VT (n + 1))) = 0 ∧ deepT (n + 1) ((K, I, F, ⟨#[]⟩, []) : VT (n + 1)) 64 = false ∧ partsT (n + 1) ((K, I, F, ⟨#[]⟩, []) : VT (n + 1)) ≤ 1000 := by
  have h : K = 1 ∨ K = 2 := by
    unfold isNum at hK
    rw [Bool.or_eq_true] at hK
    rcases hK with h | h
    · exact Or.inl (by simpa using h)
    · exact Or.inr (by simpa using h)
  rcases h with rfl | rfl
  · exact ⟨by rw [measT_num rfl rfl]; rfl, rfl, by show (1 : Nat) ≤ 1000; decide⟩
  · exact ⟨by rw [measT_num rfl rfl]; rfl, rfl, by show (1 : Nat) ≤ 1000; decide⟩
theorem chk_lopen {k : ByteArray} (hk : nmV 3 k = true) : chkA ledC { data := #[111, 112, 101, 110] } 0 [nameV 0 k] = 0 := by
  have h1 : chkL 0 [nameV 0 k] = 0 := by unfold chkL; rw [if_pos (name_cell hk)]; rfl
  unfold chkA
  rw [led_metas]
  show (if (chkL 0 [nameV 0 k] = 0) then (if (nmV 3 k && true) = true then (0 : Int) else 31) else chkL 0 [nameV 0 k]) = 0
  rw [h1, hk]; rfl
theorem chk_ldep {k : ByteArray} {K I : Int} {F : Nat} (hk : nmV 3 k = true) (hK : isNum K = true) : chkA ledC { data := #[100, 101, 112, 111, 115, 105, 116] } 0 [nameV 0 k, (K, I, F, ⟨#[]⟩, [])] = 0 := by
  have h1 : chkL 0 [nameV 0 k, (K, I, F, ⟨#[]⟩, [])] = 0 := by unfold chkL; rw [if_pos (name_cell hk)]; unfold chkL; rw [if_pos (num_light hK).1]; rfl
  unfold chkA
  rw [led_metas]
  show (if (chkL 0 [nameV 0 k, (K, I, F, ⟨#[]⟩, [])] = 0) then (if (nmV 3 k && (isNum K && true)) = true then (0 : Int) else 31) else chkL 0 [nameV 0 k, (K, I, F, ⟨#[]⟩, [])]) = 0
  rw [h1, hk, hK]; rfl
theorem chk_ltra {ka kd : ByteArray} {K I : Int} {F : Nat} (hka : nmV 3 ka = true) (hkd : nmV 3 kd = true) (hK : isNum K = true) : chkA ledC { data := #[116, 114, 97, 110, 115, 102, 101, 114] } 0 [nameV 0 ka, nameV 0 kd, (K, I, F, ⟨#[]⟩, [])] = 0 := by
  have h1 : chkL 0 [nameV 0 ka, nameV 0 kd, (K, I, F, ⟨#[]⟩, [])] = 0 := by unfold chkL; rw [if_pos (name_cell hka)]; unfold chkL; rw [if_pos (name_cell hkd)]; unfold chkL; rw [if_pos (num_light hK).1]; rfl
  unfold chkA
  rw [led_metas]
  show (if (chkL 0 [nameV 0 ka, nameV 0 kd, (K, I, F, ⟨#[]⟩, [])] = 0) then (if (nmV 3 ka && (nmV 3 kd && (isNum K && true))) = true then (0 : Int) else 31) else chkL 0 [nameV 0 ka, nameV 0 kd, (K, I, F, ⟨#[]⟩, [])]) = 0
  rw [h1, hka, hkd, hK]; rfl
theorem spot_at {NS : List ByteArray} (hn : Names NS) {a : Nat} (ha : a < NS.length) {k : ByteArray} (hk : NS[a] = k) : Spot NS k a true := by
  subst hk
  refine ⟨Nat.le_of_lt ha, fun t ht => ?_, fun _ => beq_self_eq_true _, fun h => absurd ha h⟩
  rcases Nat.lt_trichotomy t a with h | h | h
  · rw [hn.2 t a ht ha h, decide_eq_true h]
  · subst h; rw [ltB_irrefl, decide_eq_false (Nat.lt_irrefl _)]
  · rw [ltB_asymm (hn.2 a t ha ht h), decide_eq_false (by omega)]
theorem nm_size {k : ByteArray} (h : nmV 3 k = true) : k.size ≤ maxLen := by
  unfold nmV at h
  rw [Bool.and_eq_true, Bool.and_eq_true, decide_eq_true_iff, decide_eq_true_iff, decide_eq_true_iff] at h
  unfold maxLen; omega
theorem arg_nth {w : World} {n i : Nat} {bl ol l c : Nat} {L : List (VT (n + 1))} (h : RepL w (Rep w (n + 1)) (some ⟨bl, ol, none⟩) l c L) (hi : i < L.length) : ∃ (K3 I3 : Int) (F3 : Nat) (S3 : ByteArray) (q3 : Option Addr) (m3 d3 : Nat), (w.cell? ⟨bl, ol + i * 5, none⟩ = some (.int .i64 K3) ∧ w.cell? ⟨bl, ol + i * 5 + 1, none⟩ = some (.int .i64 I3) ∧ w.cell? ⟨bl, ol + i * 5 + 2, none⟩ = some (.float .f64 F3) ∧ w.cell? ⟨bl, ol + i * 5 + 3, none⟩ = some (.string S3) ∧ w.cell? ⟨bl, ol + i * 5 + 4, none⟩ = some (.slice q3 m3 d3)) ∧ Rep w (n + 1) (.agg #[.int .i64 K3, .int .i64 I3, .float .f64 F3, .string S3, .slice q3 m3 d3]) L[i] := by
  obtain ⟨h1, h2, h3, h4⟩ := h
  obtain ⟨b, o, hp, hj⟩ := h4 (by omega)
  injection hp with hp
  injection hp with e1 e2
  subst e1 e2
  obtain ⟨v0, v1, v2, v3, v4, c0, c1, c2, c3, c4, hr⟩ := hj i hi
  obtain ⟨K3, I3, F3, S3, q3, m3, d3, hv, _⟩ := rep_shape hr
  injection hv with hv
  simp only [Array.mk.injEq, List.cons.injEq, and_true] at hv
  obtain ⟨rfl, rfl, rfl, rfl, rfl⟩ := hv
  exact ⟨K3, I3, F3, S3, q3, m3, d3, ⟨c0, c1, c2, c3, c4⟩, hr⟩
theorem leaf_is {w : World} {n : Nat} {K3 I3 : Int} {F3 : Nat} {S3 : ByteArray} {q3 : Option Addr} {m3 d3 : Nat} {K I : Int} {F : Nat} {Z : ByteArray} {L : List (VT n)} (h : Rep w (n + 1) (.agg #[.int .i64 K3, .int .i64 I3, .float .f64 F3, .string S3, .slice q3 m3 d3]) (K, I, F, Z, L)) : K3 = K ∧ I3 = I ∧ F3 = F ∧ S3 = Z ∧ okI I ∧ F < 2 ^ 64 := by
  obtain ⟨p, l, c, hv, h1, h2, h3, _⟩ := h
  injection hv with hv
  simp only [Array.mk.injEq, List.cons.injEq, and_true] at hv
  obtain ⟨e1, e2, e3, e4, e5⟩ := hv
  injection e1 with _ e1
  injection e2 with _ e2
  injection e3 with _ e3
  injection e4 with e4
  exact ⟨e1, e2, e3, e4, h2, h3⟩
theorem arg_nm {w : World} {n i : Nat} {bl ol l c : Nat} {L : List (VT (n + 1))} {k : ByteArray} (h : RepL w (Rep w (n + 1)) (some ⟨bl, ol, none⟩) l c L) (hi : i < L.length) (hk : L[i] = nameV n k) : w.cell? ⟨bl, ol + i * 5 + 3, none⟩ = some (.string k) ∧ ∃ b, w.cell? ⟨bl, ol + i * 5, none⟩ = some b := by
  obtain ⟨K3, I3, F3, S3, q3, m3, d3, ⟨c0, c1, c2, c3, c4⟩, hr⟩ := arg_nth h hi
  rw [hk] at hr
  obtain ⟨_, _, _, rfl, _⟩ := leaf_is hr
  exact ⟨c3, _, c0⟩
theorem right_A {AS : List (ByteArray × Nat)} (h : OkA AS) {s : Value} {w : World} (hs : Rep w 3 s (tableT 0 (ledA AS))) : Hid (∀ W, Below w.heap.size w W → Calls Try.prog 10 #[s] W fun e w' => e = .returned (.bool true) ∧ Below W.heap.size W w') :=
  Lib.hid (fun W hb => lright_any 0 _ _ W (rep_keep hb _ _ _ hs) (okA_L h))
theorem check_A {m : ByteArray} {L : List (VT 1)} (hc : chkA ledC m 0 L = 0) (hg : GoodL 0 L) {pl : Option Addr} {ll cl : Nat} {w : World} (hr : RepL w (Rep w 1) pl ll cl L) : Hid (∀ W, Below w.heap.size w W → Calls Try.prog 15 #[.string { data := #[108, 101, 100, 103, 101, 114] }, .string m, .slice pl ll cl] W fun e w' => e = .returned (.int .i64 0) ∧ Below W.heap.size W w') :=
  Lib.hid (fun W hb => by
    have h := check_args ledC m 0 pl ll cl L W (repL_keep hb (rep_keep hb _) hr) hg
    rw [hc] at h
    exact h)
theorem nil_cln : Cln 1 (nilT 0) := ⟨rfl, by show (1 : Nat) ≤ 1000; decide, rfl⟩
theorem ledA_at {AS : List (ByteArray × Nat)} {a : Nat} (h : a < AS.length) {k : ByteArray} {F : Nat} (hk : AS[a] = (k, F)) (h' : a < (ledA AS).length) : (ledA AS)[a]'h' = (k, floT 0 F) := by
  have e : (ledA AS)[a]'h' = ((AS[a]).1, floT 0 (AS[a]).2) := List.getElem_map _
  rw [e, hk]
theorem len_A {w : World} {p : Option Addr} {l c : Nat} {AS : List (ByteArray × Nat)} (h : RepL w (Rep w 2) p l c ((ledA AS).map (pairE 0))) : (ledA AS).length = l := by have := h.1; rw [List.length_map] at this; exact this
theorem ldo_open {AS : List (ByteArray × Nat)} (hok : OkA AS) {s : Value} {pl : Option Addr} {cl : Nat} {k : ByteArray} {w : World} (hs : Rep w 3 s (tableT 0 (ledA AS))) (hr : RepL w (Rep w 1) pl 1 cl [nameV 0 k]) (hk : nmV 3 k = true) (a : Nat) (hal : a ≤ AS.length) (hsp : Spot (AS.map (·.1)) k a false) (hl : AS.length < 32) (hok2 : OkA (AS.take a ++ ((k, 0) :: AS.drop a))) :
    Calls Try.prog 7 #[s, .string { data := #[111, 112, 101, 110] }, .slice pl 1 cl] w fun e w' => DoQ w 3 1 (tableT 0 (ledA (AS.take a ++ ((k, 0) :: AS.drop a)))) (nilT 0) 0 e w' := by
  obtain ⟨p, l, c, rfl, hrl⟩ := led_mem hs
  have hll := len_A hrl
  rw [ledA_len] at hll
  obtain ⟨bl, ol, rfl, _⟩ := hr.2.2.2 (by omega)
  obtain ⟨n0, _⟩ := arg_nm hr (i := 0) (by simp) rfl
  simp only [Nat.zero_mul, Nat.add_zero] at n0
  have hT : (4, 0, 0, ⟨#[]⟩, (((ledA AS).map (pairE 0)).take a ++ ([pairT 0 k (floT 0 0)] ++ ((ledA AS).map (pairE 0)).drop a))) = tableT 0 (ledA (AS.take a ++ ((k, 0) :: AS.drop a))) := by
    unfold tableT ledA
    rw [List.map_append, List.map_append, List.map_cons, List.map_cons, ← List.map_take, ← List.map_drop, ← List.map_take, ← List.map_drop]
    rfl
  have h := ldo_run 0 0 (a + 1 + (l - a)) p l c _ _ 1 cl w (right_A hok hs) (check_A (chk_lopen hk) (by intro T hT; rw [List.mem_singleton.1 hT]; exact (name_light 0 hk).2) hr) (((ledA AS).map (pairE 0)).take a ++ ([pairT 0 k (floT 0 0)] ++ ((ledA AS).map (pairE 0)).drop a)) (nilT 0) (Lib.hid (fun W hb => ?_)) (Lib.hid (by rw [hT]; exact okA_cln hok2)) (Lib.hid nil_cln)
  · rw [hT, okA_clean hok2] at h
    exact h
  · refine run_open 0 0 _ p l c bl ol cl k W (ck hb n0) _ 0 (Lib.hid (fun W2 hb2 => ?_))
    refine (opened_new 0 p l c a k (ledA AS) W W2 (Lib.hid hb2) (Lib.hid (repL_acc hb hrl)) (by omega) (by omega) (by omega) (by rw [ledA_names]; exact hsp) (Lib.hid (txt_repn 0 W (nm_size hk)))).mono ?_
    rintro e w' ⟨p', c', rfl, hb', hn⟩
    exact ⟨p', c', rfl, hb', hn⟩
theorem ldo_deposit {AS : List (ByteArray × Nat)} (hok : OkA AS) {s : Value} {pl : Option Addr} {cl : Nat} {k : ByteArray} {K I : Int} {F FV : Nat} {w : World} (hs : Rep w 3 s (tableT 0 (ledA AS))) (hr : RepL w (Rep w 1) pl 2 cl [nameV 0 k, (K, I, F, ⟨#[]⟩, [])]) (hk : nmV 3 k = true) (hK : isNum K = true) (a : Nat) (hal : a < AS.length) (hka : AS[a] = (k, FV)) (hf : finV K F = true) (hsg : 0 < signV K I F) (hsu : finV 2 (Flo.cop .add FV (asF K I F)) = true) :
    Calls Try.prog 7 #[s, .string { data := #[100, 101, 112, 111, 115, 105, 116] }, .slice pl 2 cl] w fun e w' => DoQ w 3 1 (tableT 0 (ledA (AS.set a (k, Flo.cop .add FV (asF K I F))))) (floT 0 (Flo.cop .add FV (asF K I F))) 0 e w' := by
  obtain ⟨p, l, c, rfl, hrl⟩ := led_mem hs
  have hll := len_A hrl
  have hll' := hll
  rw [ledA_len] at hll
  obtain ⟨bl, ol, rfl, _⟩ := hr.2.2.2 (by omega)
  obtain ⟨n0, _⟩ := arg_nm hr (i := 0) (by simp) rfl
  obtain ⟨K3, I3, F3, S3, q3, m3, d3, ⟨v0, v1, v2, v3, v4⟩, hv⟩ := arg_nth hr (i := 1) (by simp)
  obtain ⟨rfl, rfl, rfl, rfl, hi, hF⟩ := leaf_is (show Rep w 1 _ (K, I, F, ⟨#[]⟩, []) from hv)
  simp only [Nat.zero_mul, Nat.one_mul, Nat.add_zero] at n0 v0 v1 v2 v3 v4
  obtain ⟨hA, hG⟩ := amt_of hF hi hf hsg
  have hFV : FV < 9218868437227405312 := by have h := hok.2.2 _ (List.getElem_mem hal); rw [hka] at h; exact h
  have hS := cop_add (Nat.le_of_lt hFV) (Nat.le_of_lt hG)
  have hok2 := okA_set hok hal (k := k) (by rw [hka]) (fin_le hS.1 hsu)
  have hal' : a < (ledA AS).length := by rw [ledA_len]; exact hal
  have hT : (4, 0, 0, ⟨#[]⟩, (((ledA AS).map (pairE 0)).take a ++ ([pairT 0 k (floT 0 (Flo.cop .add FV (asF K3 I3 F3)))] ++ ((ledA AS).map (pairE 0)).drop (a + 1)))) = tableT 0 (ledA (AS.set a (k, Flo.cop .add FV (asF K3 I3 F3)))) := by
    rw [set_at _ a _ (by rw [List.length_map]; exact hal'), ← set_ledA]
    unfold tableT
    rw [List.map_set]; rfl
  have h := ldo_run 0 0 (a + 1 + (l - (a + 1))) p l c _ _ 2 cl w (right_A hok hs) (check_A (chk_ldep hk hK) (by intro T hT; rcases List.mem_cons.1 hT with rfl | hT; exact (name_light 0 hk).2; rw [List.mem_singleton.1 hT]; exact (num_light hK).2) hr) (((ledA AS).map (pairE 0)).take a ++ ([pairT 0 k (floT 0 (Flo.cop .add FV (asF K3 I3 F3)))] ++ ((ledA AS).map (pairE 0)).drop (a + 1))) (floT 0 (Flo.cop .add FV (asF K3 I3 F3))) (Lib.hid (fun W hb => ?_)) (Lib.hid (by rw [hT]; exact okA_cln hok2)) (Lib.hid (small_cln (small_flo (fin_le hS.1 hsu))).2)
  · rw [hT, okA_clean hok2, (small_flo (fin_le hS.1 hsu)).2.2] at h
    exact h
  · refine run_deposit 0 0 _ p l c bl ol cl k K3 I3 F3 ⟨#[]⟩ q3 m3 d3 W (ck hb n0) (ck hb v0) (ck hb v1) (ck hb v2) (ck hb v3) (ck hb v4) _ _ 0 (Lib.hid (fun W2 hb2 => ?_))
    have hrW := repL_acc hb hrl
    obtain ⟨b, off, rfl, _⟩ := hrW.2.2.2 (by omega)
    have hsp : Spot ((ledA AS).map (·.1)) k a true := by rw [ledA_names]; exact spot_at hok.1 (by rw [List.length_map]; exact hal) (by rw [List.getElem_map, hka])
    refine (deposit_ok 0 b off l c a k K3 I3 F3 ⟨#[]⟩ q3 m3 d3 (asF K3 I3 F3) FV (ledA AS) (floT 0 FV) W W2 (Lib.hid hb2) (Lib.hid hrW) (by have := hok.2.1; omega) hal' hll' (ledA_at hal hka _) hsp (Lib.hid hA) ⟨rfl, rfl⟩ hsu (Lib.hid (txt_repn 0 W (nm_size hk))) (Lib.hid (flo_repn 0 W (Flo.cop_lt _ _ _)))).mono ?_
    rintro e w' ⟨p', c', rfl, hb', hn⟩
    exact ⟨p', c', _, rfl, hb', hn, fun y _ => flo_repn 0 y (Flo.cop_lt _ _ _)⟩
end Num
end Go.Proofs.Yteodljkcbddehaa
/-
  Package ledger: names, total on ledgers of floats.
-/
namespace Go.Proofs.Yteodljkcbddehaa
open Go.RowKit
namespace Num
open Ints
set_option linter.unusedSimpArgs false
set_option linter.unusedVariables false
theorem sum_le {AS : List (ByteArray × Nat)} (h : ∀ e ∈ AS, e.2 < 9218868437227405312) : sumL (ledA AS) ≤ 9218868437227405312 := by
  unfold sumL ledA
  rw [List.foldl_map]
  have go : ∀ (L : List (ByteArray × Nat)) (s : Nat), s ≤ 9218868437227405312 → (∀ e ∈ L, e.2 < 9218868437227405312) → L.foldl (fun s e => Flo.cop .add s (e.1, floT 0 e.2).2.2.2.1) s ≤ 9218868437227405312 := by
    intro L
    induction L with
    | nil => intro s hs _; exact hs
    | cons x r ih =>
      intro s hs hL
      exact ih _ (cop_add hs (Nat.le_of_lt (hL x List.mem_cons_self))).1 (fun e he => hL e (List.mem_cons_of_mem _ he))
  exact go AS 0 (Nat.zero_le _) h
theorem small_le {F : Nat} (h : F ≤ 9218868437227405312) : SmallV (floT 0 F) := ⟨⟨9, measT_num rfl rfl, by decide, by decide⟩, partsT_else rfl, by
  show ((2, 0, Flo.canon F, ⟨#[]⟩, []) : VT 1) = _
  rw [Flo.canon_yes (feq_pos h)]; rfl⟩
theorem nm_small {k : ByteArray} (hk : nmV 3 k = true) : measT 1 (nameV 0 k) = (false, false, 0, 3 + (k.size : Int)) ∧ 0 ≤ 3 + (k.size : Int) ∧ 3 + (k.size : Int) ≤ 40 := by
  unfold nmV at hk
  rw [Bool.and_eq_true, Bool.and_eq_true, decide_eq_true_iff, decide_eq_true_iff, decide_eq_true_iff] at hk
  obtain ⟨_, h1, h2⟩ := hk
  unfold nameV
  rw [measT_text rfl rfl rfl]
  have e1 : decide (256 < (k.size : Int)) = false := by rw [decide_eq_false_iff_not]; omega
  have e2 : wrap64 (3 + (k.size : Int)) = 3 + (k.size : Int) := by unfold wrap64; omega
  rw [e1, e2]
  exact ⟨rfl, by omega, by omega⟩
theorem fold_names : ∀ (L : List (VT 1)), (∀ x ∈ L, ∃ z, measT 1 x = (false, false, 0, z) ∧ 0 ≤ z ∧ z ≤ 40) → ∀ (z : Int), 0 ≤ z → z + 40 * L.length ≤ 4096 → ∃ z', L.foldl (fun a x => withM a (measT 1 x)) (false, false, 1, z) = (false, false, 1, z') ∧ 0 ≤ z' ∧ z' ≤ 4096
  | [], _, z, h0, h1 => ⟨z, rfl, h0, by simp at h1; omega⟩
  | x :: r, h, z, h0, h1 => by
    obtain ⟨zx, hx, x0, x1⟩ := h x List.mem_cons_self
    rw [List.length_cons] at h1
    rw [List.foldl_cons, hx, with_small h0 (by omega) x0 (by omega) (by omega) (by omega)]
    exact fold_names r (fun y hy => h y (List.mem_cons_of_mem _ hy)) _ (by omega) (by omega)
def namesT (NS : List ByteArray) : VT 2 := (4, 0, 0, ⟨#[]⟩, NS.map (nameV 0))
theorem names_cln {NS : List ByteArray} (h : ∀ k ∈ NS, nmV 3 k = true) (hl : NS.length ≤ 32) : Cln 2 (namesT NS) ∧ cleanT 2 (namesT NS) = namesT NS := by
  have hm : ∀ x ∈ NS.map (nameV 0), ∃ k, k ∈ NS ∧ x = nameV 0 k := by
    intro x hx
    obtain ⟨k, hk, rfl⟩ := List.mem_map.1 hx
    exact ⟨k, hk, rfl⟩
  refine ⟨⟨?_, ?_, ?_⟩, ?_⟩
  · unfold namesT
    rw [deepT_succ rfl, List.any_eq_false]
    intro x hx
    obtain ⟨k, hk, rfl⟩ := hm x hx
    rw [deep1]; simp
  · unfold namesT
    rw [partsT_list rfl]
    have : ∀ (L : List (VT 1)) (a : Nat), (∀ x ∈ L, partsT 1 x = 1) → L.foldl (fun a x => a + partsT 1 x) a = a + L.length := by
      intro L
      induction L with
      | nil => intro a _; rfl
      | cons x r ih => intro a h; rw [List.foldl_cons, ih _ (fun y hy => h y (List.mem_cons_of_mem _ hy)), h x List.mem_cons_self, List.length_cons]; omega
    rw [this _ _ (fun x hx => by obtain ⟨k, hk, rfl⟩ := hm x hx; rfl), List.length_map]
    omega
  · obtain ⟨z', hf, h0, h1⟩ := fold_names (NS.map (nameV 0)) (fun x hx => by
      obtain ⟨k, hk, rfl⟩ := hm x hx
      exact ⟨_, nm_small (h k hk)⟩) 2 (by decide) (by rw [List.length_map]; omega)
    unfold namesT
    rw [measT_list rfl rfl rfl rfl, List.length_map, show decide (64 < (NS.length : Int)) = false by rw [decide_eq_false_iff_not]; omega, hf]
    refine walk_check ?_
    have e2 : decide (4096 < z') = false := by rw [decide_eq_false_iff_not]; omega
    show (if false = true then (31 : Int) else if (false || decide (8 < (1 : Int)) || decide (4096 < z')) = true then 22 else 0) = 0
    rw [e2]; rfl
  · unfold namesT
    show ((4, 0, 0, ⟨#[]⟩, (NS.map (nameV 0)).map (cleanT 1)) : VT 2) = _
    congr 4
    rw [List.map_map]
    refine List.map_congr_left (fun k hk => rfl)
end Num
end Go.Proofs.Yteodljkcbddehaa
