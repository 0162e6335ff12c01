/-
  Package ledger: run of close, of balance; Do, weakly.
-/
import Derived.Test.YteodljkcbddehaaJMI
import Derived.Test.YteodljkcbddehaaJp18YU
import Derived.Test.YteodljkcbddehaaJp16YI
import Derived.Test.YteodljkcbddehaaJp15YE
import Derived.Test.YteodljkcbddehaaJp3VBase
import Derived.Deep.RegionHeld3
import Derived.RegionTactic
import Derived.Deep.DeepCutAuto
namespace Go.Proofs.Yteodljkcbddehaa
open Go.RowKit
namespace Num
open Ints
set_option linter.unusedSimpArgs false
set_option linter.unusedVariables false
set_option maxRecDepth 100000 in
set_option maxHeartbeats 4000000 in
theorem run_close (n m lt : Nat) (p : Option Addr) (l c : Nat) (bl ol cl : Nat) (k : ByteArray) (w : World) (n0 : w.cell? ⟨bl, ol + 3, none⟩ = some (.string k)) (L : List (VT (n + 2))) (z : Int)
    (HT : Hid (∀ W, Below w.heap.size w W → Calls Try.prog 32 #[.slice p l c, .string k] W fun e w' => LQ1 w W n lt L z e w')) :
    Calls Try.prog 16 #[.slice p l c, .string { data := #[99, 108, 111, 115, 101] }, .slice (some ⟨bl, ol, none⟩) 1 cl] w fun e w' => LRun w n m lt L (nilT m) z e w' := by
  have hbl := cell_lt n0
  have TR1 := Lib.hid (show (fun z0 : World => Zz z0 w.heap.size ∧ Below w.heap.size w z0) (w.alloc (.cells #[.int .i64 0, .int .i64 0, .float .f64 0, .string ⟨#[]⟩, .slice none 0 0] 27)) from ⟨row_alloc w #[.int .i64 0, .int .i64 0, .float .f64 0, .string ⟨#[]⟩, .slice none 0 0] 27, bel_alloc (Below.refl w.heap.size w) _⟩)
  go_enter Try.func16, Try.ntmps16
  have hltW : w.heap.size < (w.alloc (.cells #[.int .i64 0, .int .i64 0, .float .f64 0, .string ⟨#[]⟩, .slice none 0 0] 27)).heap.size := by rw [World.size_alloc]; omega
  go_wp2_with fail
  go_at_call 32; refine (HT.out _ TR1.out.2).mono ?_; rintro e w1 ⟨pt, ct, rfl, hbw1, hy⟩
  have TR2 := Lib.hid (And.intro (row_step TR1.out.1 hbw1) (bel_step TR1.out.2 hbw1))
  clear TR1
  have TR3 := Lib.hid (show Zz w1 w.heap.size ∧ (Stay (w.alloc (.cells #[.int .i64 0, .int .i64 0, .float .f64 0, .string ⟨#[]⟩, .slice none 0 0] 27)).heap.size w1 w1 ∧ w1.heap.size ≤ w1.heap.size) ∧ Below w.heap.size w w1 from ⟨TR2.out.1, ⟨stay_refl _ _, Nat.le_refl _⟩, TR2.out.2⟩)
  clear TR2
  have HY := Lib.hid hy
  clear hy
  clear hbw1
  obtain ⟨c0_0, c0_1, c0_2, c0_3, c0_4, c0f, c0l⟩ := r7 TR3.out.1
  go_wp2
  refine bodyPost_ret (v := .tuple #[.slice pt lt ct, .agg #[.int .i64 0, .int .i64 0, .float .f64 0, .string ⟨#[]⟩, .slice none 0 0], .int .i64 z]) (by simp [results, Try.results16, go_sem, World.cell?_setCell_same, World.cell?_setCell_other, c0_0, c0_1, c0_2, c0_3, c0_4]) rfl ⟨pt, ct, _, rfl, ?_, ?_, repS_rep _ _ _ (nil_rep m (fun _ => True) _)⟩
  · exact set5_below (g := w.heap.size) (o := 0) TR3.out.2.2 (Nat.le_refl _) _ _ _ _ _
  · exact HY.out _ (set5_below (g := w.heap.size) (o := 0) TR3.out.2.2 (Nat.le_refl _) _ _ _ _ _) (stay_set TR3.out.2.1.1 (by omega) _ _ _ _ _)
set_option maxRecDepth 100000 in
set_option maxHeartbeats 4000000 in
theorem run_balance (n m : Nat) (p : Option Addr) (l c : Nat) (bl ol cl : Nat) (k : ByteArray) (w : World) (n0 : w.cell? ⟨bl, ol + 3, none⟩ = some (.string k)) (L : List (VT (n + 2))) (HL : Hid (RepL w (Rep w (n + 2)) p l c L)) (U : VT (m + 1)) (z : Int)
    (HT : Hid (∀ W, Below w.heap.size w W → Calls Try.prog 35 #[.slice p l c, .string k] W fun e w' => ∃ u, e = .returned (.tuple #[u, .int .i64 z]) ∧ Below W.heap.size W w' ∧ ∀ y, Below w.heap.size w y → Rep y (m + 1) u U)) :
    Calls Try.prog 16 #[.slice p l c, .string { data := #[98, 97, 108, 97, 110, 99, 101] }, .slice (some ⟨bl, ol, none⟩) 1 cl] w fun e w' => LRun w n m l L U z e w' := by
  have hbl := cell_lt n0
  have TR1 := Lib.hid (show (fun z0 : World => Zz z0 w.heap.size ∧ Below w.heap.size w z0) (w.alloc (.cells #[.int .i64 0, .int .i64 0, .float .f64 0, .string ⟨#[]⟩, .slice none 0 0] 27)) from ⟨row_alloc w #[.int .i64 0, .int .i64 0, .float .f64 0, .string ⟨#[]⟩, .slice none 0 0] 27, bel_alloc (Below.refl w.heap.size w) _⟩)
  go_enter Try.func16, Try.ntmps16
  go_wp2_with fail
  go_at_call 35; refine (HT.out _ TR1.out.2).mono ?_; rintro e w2 ⟨uu, rfl, hbw2, hu⟩
  have TR2 := Lib.hid (And.intro (row_step TR1.out.1 hbw2) (bel_step TR1.out.2 hbw2))
  clear TR1
  obtain ⟨Ku, Iu, Fu, Su, qu, mu, du, rfl, _⟩ := rep_shape (hu w br)
  have HU := Lib.hid hu
  clear hu
  clear hbw2
  obtain ⟨c0_0, c0_1, c0_2, c0_3, c0_4, c0f, c0l⟩ := r7 TR2.out.1
  go_upto_region 15 with fail
  have TR3 := Lib.hid (show (fun z0 : World => Zw z0 w.heap.size (.int .i64 Ku) (.int .i64 Iu) (.float .f64 Fu) (.string Su) (.slice qu mu du) ∧ Below w.heap.size w z0) (((((w2.setCell ⟨w.heap.size, 0, none⟩ (.int .i64 Ku)).setCell ⟨w.heap.size, 1, none⟩ (.int .i64 Iu)).setCell ⟨w.heap.size, 2, none⟩ (.float .f64 Fu)).setCell ⟨w.heap.size, 3, none⟩ (.string Su)).setCell ⟨w.heap.size, 4, none⟩ (.slice qu mu du)) from ⟨s5r TR2.out.1, s5b TR2.out.2 (by omega)⟩)
  clear TR2
  clear c0_0 c0_1 c0_2 c0_3 c0_4 c0f c0l
  revert TR3
  generalize (((((w2.setCell ⟨w.heap.size, 0, none⟩ (.int .i64 Ku)).setCell ⟨w.heap.size, 1, none⟩ (.int .i64 Iu)).setCell ⟨w.heap.size, 2, none⟩ (.float .f64 Fu)).setCell ⟨w.heap.size, 3, none⟩ (.string Su)).setCell ⟨w.heap.size, 4, none⟩ (.slice qu mu du)) = Wb
  intro TR3
  have TR4 := Lib.hid (And.intro (row_step TR3.out.1 (show Below Wb.heap.size Wb Wb.drew from Below.drew br)) (bel_step TR3.out.2 (show Below Wb.heap.size Wb Wb.drew from Below.drew br)))
  clear TR3
  refine wp_region_held_drew (S := (fun z => z.cell? ⟨w.heap.size, 0, none⟩ = some (.int .i64 Ku) ∧ z.cell? ⟨w.heap.size, 1, none⟩ = some (.int .i64 Iu) ∧ z.cell? ⟨w.heap.size, 2, none⟩ = some (.float .f64 Fu) ∧ z.cell? ⟨w.heap.size, 3, none⟩ = some (.string Su) ∧ z.cell? ⟨w.heap.size, 4, none⟩ = some (.slice qu mu du))) (by kernel_rfl) ?_ (fun hH => ?_)
  · exact ⟨rc TR4.out.1 0, rc TR4.out.1 1, rc TR4.out.1 2, rc TR4.out.1 3, rc TR4.out.1 4⟩
  revert TR4 hH
  generalize Wb.drew = Wd
  intro TR4 hH
  refine zt [0, 1, 2, 3] ?_
  iterate 4 (refine zt1 (fun _ _ d _ _ h => by cases d <;> exact h) (by simp only [lk0, lk1, lk2]; rfl) (by kernel_rfl) (by assumption) (by rfl) (fun w h => by (try dsimp only at h); go_simp; (try with_reducible rfl)) ?_; (try simp only [Act.put, pk0, pk1, pk2]))
  refine zt0 ?_
  refine zr1 4 (by kernel_rfl) (by simp only [lk0, lk1, lk2]; rfl) (fun K hK => ?_)
  obtain ⟨b30, b31, b32, b33, b34, b3f, b3l⟩ := r7 TR4.out.1; go_simp
  have TR5 := Lib.hid (show (fun z0 : World => Zw z0 w.heap.size (.int .i64 Ku) (.int .i64 Iu) (.float .f64 Fu) (.string Su) (.slice qu mu du) ∧ Below w.heap.size w z0) (((((Wd.setCell ⟨w.heap.size, 0, none⟩ (.int .i64 Ku)).setCell ⟨w.heap.size, 1, none⟩ (.int .i64 Iu)).setCell ⟨w.heap.size, 2, none⟩ (.float .f64 Fu)).setCell ⟨w.heap.size, 3, none⟩ (.string Su)).setCell ⟨w.heap.size, 4, none⟩ (.slice qu mu du)) from ⟨s5r TR4.out.1, s5b TR4.out.2 (by omega)⟩)
  clear TR4
  clear b30 b31 b32 b33 b34 b3f b3l
  go_wp2_with fail
  refine hK.out _ _ ?hsv7_ (fun hH => ?_)
  case hsv7_ => exact ⟨rc TR5.out.1 0, rc TR5.out.1 1, rc TR5.out.1 2, rc TR5.out.1 3, rc TR5.out.1 4⟩
  clear hK K
  (try simp only [Act.put, pk0, pk1, pk2])
  refine zt [5] ?_
  refine zt1 (fun _ _ d _ _ h => by cases d <;> exact h) (by simp only [lk0, lk1, lk2]; rfl) (by kernel_rfl) (by assumption) (by rfl) (fun w h => by (try dsimp only at h); go_simp; (try with_reducible rfl)) ?_; (try simp only [Act.put, pk0, pk1, pk2])
  refine zt0 ?_
  refine wpAnyH_done (by kernel_rfl) ?_ _
  revert TR5
  generalize (((((Wd.setCell ⟨w.heap.size, 0, none⟩ (.int .i64 Ku)).setCell ⟨w.heap.size, 1, none⟩ (.int .i64 Iu)).setCell ⟨w.heap.size, 2, none⟩ (.float .f64 Fu)).setCell ⟨w.heap.size, 3, none⟩ (.string Su)).setCell ⟨w.heap.size, 4, none⟩ (.slice qu mu du)) = Wf
  intro TR5
  obtain ⟨c0_0, c0_1, c0_2, c0_3, c0_4, c0f, c0l⟩ := r7 TR5.out.1
  go_wp2
  refine bodyPost_ret (v := .tuple #[.slice p l c, .agg #[.int .i64 Ku, .int .i64 Iu, .float .f64 Fu, .string Su, .slice qu mu du], .int .i64 z]) (by simp [results, Try.results16, go_sem, c0_0, c0_1, c0_2, c0_3, c0_4]) rfl ⟨p, c, _, rfl, TR5.out.2, repL_acc TR5.out.2 HL.out, HU.out _ TR5.out.2⟩
def LW (w : World) (e : Ending) (w' : World) : Prop := ∃ (p : Option Addr) (l c : Nat) (u : Value) (z : Int) (m : Nat) (U : VT (m + 1)), e = .returned (.tuple #[.slice p l c, u, .int .i64 z]) ∧ Below w.heap.size w w' ∧ Rep w' (m + 1) u U ∧ (z = 0 → Cln (m + 1) U ∧ ∃ AS, OkA AS ∧ RepL w' (Rep w' 2) p l c ((ledA AS).map (pairE 0)))
theorem lw_of {w w' : World} {m lt : Nat} {L : List (VT 2)} {U : VT (m + 1)} {z : Int} {e : Ending} (h : LRun w 0 m lt L U z e w') (hz : z = 0 → Cln (m + 1) U ∧ ∃ AS, OkA AS ∧ L = (ledA AS).map (pairE 0)) : LW w e w' := by
  obtain ⟨p, c, u, he, hb, h1, h2⟩ := h
  refine ⟨p, lt, c, u, z, m, U, he, hb, h2, fun h0 => ?_⟩
  obtain ⟨h3, AS, h4, rfl⟩ := hz h0
  exact ⟨h3, AS, h4, h1⟩
def LdoW (w : World) (e : Ending) (w' : World) : Prop := ∃ (Ka Ia : Int) (Fa : Nat) (Sa : ByteArray) (qa : Option Addr) (ma da : Nat) (Kb Ib : Int) (Fb : Nat) (Sb : ByteArray) (qb : Option Addr) (mb db : Nat) (z : Int), e = .returned (.tuple #[.agg #[.int .i64 Ka, .int .i64 Ia, .float .f64 Fa, .string Sa, .slice qa ma da], .agg #[.int .i64 Kb, .int .i64 Ib, .float .f64 Fb, .string Sb, .slice qb mb db], .int .i64 z]) ∧ Below w.heap.size w w' ∧ (z = 0 → ∃ AS, OkA AS ∧ RepS (fun b => w.heap.size ≤ b) w' 3 (.agg #[.int .i64 Ka, .int .i64 Ia, .float .f64 Fa, .string Sa, .slice qa ma da]) (tableT 0 (ledA AS)))
set_option maxRecDepth 100000 in
set_option maxHeartbeats 4000000 in
theorem ldo_weak (P : Prop) (p : Option Addr) (l c : Nat) (ms : ByteArray) (pl : Option Addr) (ll cl : Nat) (w : World) (HR : Hid (∀ W, Below w.heap.size w W → Calls Try.prog 10 #[.agg #[.int .i64 4, .int .i64 0, .float .f64 0, .string ⟨#[]⟩, .slice p l c]] W fun e w' => e = .returned (.bool true) ∧ Below W.heap.size W w'))
    (HA : Hid (∀ W, Below w.heap.size w W → Calls Try.prog 15 #[.string { data := #[108, 101, 100, 103, 101, 114] }, .string ms, .slice pl ll cl] W fun e w' => ∃ z : Int, e = .returned (.int .i64 z) ∧ Below W.heap.size W w' ∧ (z = 0 → P)))
    (HU : Hid (P → ∀ W, Below w.heap.size w W → Calls Try.prog 16 #[.slice p l c, .string ms, .slice pl ll cl] W fun e w' => LW W e w')) :
    Calls Try.prog 7 #[.agg #[.int .i64 4, .int .i64 0, .float .f64 0, .string ⟨#[]⟩, .slice p l c], .string ms, .slice pl ll cl] w fun e w' => LdoW w e w' := by
  have TR1 := Lib.hid (show (fun z0 : World => ZL z0 w.heap.size p l c ∧ Zz z0 (w.heap.size + 1) ∧ Zz z0 (w.heap.size + 1 + 1) ∧ Below w.heap.size w z0) (((w.alloc (.cells #[.int .i64 4, .int .i64 0, .float .f64 0, .string ⟨#[]⟩, .slice p l c] 27)).alloc (.cells #[.int .i64 0, .int .i64 0, .float .f64 0, .string ⟨#[]⟩, .slice none 0 0] 27)).alloc (.cells #[.int .i64 0, .int .i64 0, .float .f64 0, .string ⟨#[]⟩, .slice none 0 0] 27)) from ⟨row_alloc_step (row_alloc_step (row_alloc w #[.int .i64 4, .int .i64 0, .float .f64 0, .string ⟨#[]⟩, .slice p l c] 27) _) _, (row_alloc_step (ra (by simp only [World.size_alloc, World.size_drew])) _), (ra (by simp only [World.size_alloc, World.size_drew])), bel_alloc (bel_alloc (bel_alloc (Below.refl w.heap.size w) _) _) _⟩)
  go_enter Try.func7, Try.ntmps7
  go_wp2_with fail
  go_at_call 10; refine (HR.out _ TR1.out.2.2.2).mono ?_; rintro e w9 ⟨rfl, hbw9⟩
  have TR2 := Lib.hid (And.intro (row_step TR1.out.1 hbw9) (And.intro (row_step TR1.out.2.1 hbw9) (And.intro (row_step TR1.out.2.2.1 hbw9) (bel_step TR1.out.2.2.2 hbw9))))
  clear TR1
  clear hbw9
  go_wp2_with fail
  go_at_call 15; refine (HA.out _ TR2.out.2.2.2).mono ?_; rintro e w10 ⟨zc, rfl, hbw10, hzc⟩
  have TR3 := Lib.hid (And.intro (row_step TR2.out.1 hbw10) (And.intro (row_step TR2.out.2.1 hbw10) (And.intro (row_step TR2.out.2.2.1 hbw10) (bel_step TR2.out.2.2.2 hbw10))))
  clear TR2
  have HZC := Lib.hid hzc
  clear hzc
  clear hbw10
  rcases Bool.eq_false_or_eq_true (zc != 0) with hz | hz
  · have c1_0 := rc TR3.out.2.1 0
    have c1_1 := rc TR3.out.2.1 1
    have c1_2 := rc TR3.out.2.1 2
    have c1_3 := rc TR3.out.2.1 3
    have c1_4 := rc TR3.out.2.1 4
    have c1f := row_frz TR3.out.2.1
    have c1l := row_lt TR3.out.2.1
    obtain ⟨c2_0, c2_1, c2_2, c2_3, c2_4, c2f, c2l⟩ := r7 TR3.out.2.2.1
    go_wp2
    refine bodyPost_ret (v := .tuple #[.agg #[.int .i64 0, .int .i64 0, .float .f64 0, .string ⟨#[]⟩, .slice none 0 0], .agg #[.int .i64 0, .int .i64 0, .float .f64 0, .string ⟨#[]⟩, .slice none 0 0], .int .i64 zc]) (by simp [results, Try.results7, go_sem, World.cell?_setCell_same, World.cell?_setCell_other, c1_0, c1_1, c1_2, c1_3, c1_4, c2_0, c2_1, c2_2, c2_3, c2_4]) rfl ⟨_, _, _, _, _, _, _, _, _, _, _, _, _, _, _, rfl, ?_, fun h0 => absurd h0 (by simpa using hz)⟩
    exact set5_below (g := w.heap.size + 1 + 1) (o := 0) (set5_below (g := w.heap.size + 1) (o := 0) TR3.out.2.2.2 (by omega) _ _ _ _ _) (by omega) _ _ _ _ _
  · obtain rfl : zc = 0 := by simpa using hz
    have HP := Lib.hid (HZC.out rfl)
    clear HZC hz
    obtain ⟨c0_0, c0_1, c0_2, c0_3, c0_4, c0f, c0l⟩ := r7 TR3.out.1
    go_wp2_with fail
    go_at_call 16; refine (HU.out HP.out _ TR3.out.2.2.2).mono ?_; rintro e w3 ⟨pt, lt, ct, uu, zr, m, U, rfl, hbw3, hru, hok⟩
    have TR4 := Lib.hid (And.intro (row_step TR3.out.1 hbw3) (And.intro (row_step TR3.out.2.1 hbw3) (And.intro (row_step TR3.out.2.2.1 hbw3) (bel_step TR3.out.2.2.2 hbw3))))
    clear TR3
    obtain ⟨Ku, Iu, Fu, Su, qu, mu, du, rfl, _⟩ := rep_shape hru
    have HUU := Lib.hid hru
    have HOK := Lib.hid hok
    clear hru hok
    clear hbw3
    clear c0_0 c0_1 c0_2 c0_3 c0_4 c0f c0l
    rcases Bool.eq_false_or_eq_true (zr != 0) with hz | hz
    · go_upto_region 8 with fail
      have hlt11 : w.heap.size < w3.heap.size := (by have h := row_lt TR4.out.1; (try simp only [World.size_alloc, World.size_drew] at h); exact h)
      have hlt12 : w.heap.size + 1 < w3.heap.size := (by have h := row_lt TR4.out.2.1; (try simp only [World.size_alloc, World.size_drew] at h); exact h)
      have hlt13 : w.heap.size + 1 + 1 < w3.heap.size := (by have h := row_lt TR4.out.2.2.1; (try simp only [World.size_alloc, World.size_drew] at h); exact h)
      have hlt14 : w.heap.size ≤ w3.heap.size := (by have h := TR4.out.2.2.2.size; (try simp only [World.size_alloc, World.size_drew] at h); exact h)
      have TR5 := Lib.hid (show (fun z0 : World => ZL z0 w.heap.size p l c ∧ Zz z0 (w.heap.size + 1) ∧ Zz z0 (w.heap.size + 1 + 1) ∧ Zw z0 w3.heap.size (.int .i64 Ku) (.int .i64 Iu) (.float .f64 Fu) (.string Su) (.slice qu mu du) ∧ Below w.heap.size w z0) (w3.alloc (.cells #[.int .i64 Ku, .int .i64 Iu, .float .f64 Fu, .string Su, .slice qu mu du] 27)) from ⟨(row_alloc_step (TR4.out.1) _), (row_alloc_step (TR4.out.2.1) _), (row_alloc_step (TR4.out.2.2.1) _), (ra (by simp only [World.size_alloc, World.size_drew, World.size_setCell])), bel_step TR4.out.2.2.2 (bel_alloc br _)⟩)
      revert TR5
      generalize (w3.alloc (.cells #[.int .i64 Ku, .int .i64 Iu, .float .f64 Fu, .string Su, .slice qu mu du] 27)) = Wx
      intro TR5
      obtain ⟨c1_0, c1_1, c1_2, c1_3, c1_4, c1f, c1l⟩ := r7 TR5.out.2.1
      obtain ⟨c2_0, c2_1, c2_2, c2_3, c2_4, c2f, c2l⟩ := r7 TR5.out.2.2.1
      go_wp2
      refine bodyPost_ret (v := .tuple #[.agg #[.int .i64 0, .int .i64 0, .float .f64 0, .string ⟨#[]⟩, .slice none 0 0], .agg #[.int .i64 0, .int .i64 0, .float .f64 0, .string ⟨#[]⟩, .slice none 0 0], .int .i64 zr]) (by simp [results, Try.results7, go_sem, World.cell?_setCell_same, World.cell?_setCell_other, c1_0, c1_1, c1_2, c1_3, c1_4, c2_0, c2_1, c2_2, c2_3, c2_4]) rfl ⟨_, _, _, _, _, _, _, _, _, _, _, _, _, _, _, rfl, ?_, fun h0 => absurd h0 (by simpa using hz)⟩
      exact set5_below (g := w.heap.size + 1 + 1) (o := 0) (set5_below (g := w.heap.size + 1) (o := 0) TR5.out.2.2.2.2 (by omega) _ _ _ _ _) (by omega) _ _ _ _ _
    · obtain rfl : zr = 0 := by simpa using hz
      obtain ⟨gu, AS, hA, hrt⟩ := HOK.out rfl
      have HT := Lib.hid hrt
      have GU := Lib.hid gu
      have HAS := Lib.hid hA
      have GT := Lib.hid (okA_cln hA)
      clear HOK hz hrt gu hA
      go_upto_region 9 with fail
      have hlt15 : w.heap.size < w3.heap.size := (by have h := row_lt TR4.out.1; (try simp only [World.size_alloc, World.size_drew] at h); exact h)
      have hlt16 : w.heap.size + 1 < w3.heap.size := (by have h := row_lt TR4.out.2.1; (try simp only [World.size_alloc, World.size_drew] at h); exact h)
      have hlt17 : w.heap.size + 1 + 1 < w3.heap.size := (by have h := row_lt TR4.out.2.2.1; (try simp only [World.size_alloc, World.size_drew] at h); exact h)
      have hlt18 : w.heap.size ≤ w3.heap.size := (by have h := TR4.out.2.2.2.size; (try simp only [World.size_alloc, World.size_drew] at h); exact h)
      have TR5 := Lib.hid (show (fun z0 : World => ZL z0 w.heap.size p l c ∧ Zz z0 (w.heap.size + 1) ∧ Zz z0 (w.heap.size + 1 + 1) ∧ Zw z0 w3.heap.size (.int .i64 Ku) (.int .i64 Iu) (.float .f64 Fu) (.string Su) (.slice qu mu du) ∧ Below w.heap.size w z0) (w3.alloc (.cells #[.int .i64 Ku, .int .i64 Iu, .float .f64 Fu, .string Su, .slice qu mu du] 27)) from ⟨(row_alloc_step (TR4.out.1) _), (row_alloc_step (TR4.out.2.1) _), (row_alloc_step (TR4.out.2.2.1) _), (ra (by simp only [World.size_alloc, World.size_drew, World.size_setCell])), bel_step TR4.out.2.2.2 (bel_alloc br _)⟩)
      have hb3x := bel_alloc (Below.refl w3.heap.size w3) (.cells #[.int .i64 Ku, .int .i64 Iu, .float .f64 Fu, .string Su, .slice qu mu du] 27)
      have hzx : (w3.alloc (.cells #[.int .i64 Ku, .int .i64 Iu, .float .f64 Fu, .string Su, .slice qu mu du] 27)).heap.size = w3.heap.size + 1 := World.size_alloc _ _
      have HTX := Lib.hid (show (fun z0 : World => ∀ W, Below z0.heap.size z0 W → RepL W (Rep W 2) pt lt ct ((ledA AS).map (pairE 0))) (w3.alloc (.cells #[.int .i64 Ku, .int .i64 Iu, .float .f64 Fu, .string Su, .slice qu mu du] 27)) from fun W hb => repL_acc (bel_step hb3x hb) HT.out)
      have HUX := Lib.hid (show (fun z0 : World => ∀ W, Below z0.heap.size z0 W → Rep W (m + 1) (.agg #[.int .i64 Ku, .int .i64 Iu, .float .f64 Fu, .string Su, .slice qu mu du]) U) (w3.alloc (.cells #[.int .i64 Ku, .int .i64 Iu, .float .f64 Fu, .string Su, .slice qu mu du] 27)) from fun W hb => rep_keep (bel_step hb3x hb) _ _ _ HUU.out)
      clear hb3x HT HUU
      revert TR5 hzx HTX HUX
      generalize (w3.alloc (.cells #[.int .i64 Ku, .int .i64 Iu, .float .f64 Fu, .string Su, .slice qu mu du] 27)) = Wx
      intro TR5 hzx HTX HUX
      have TR6 := Lib.hid (show ZL Wx w.heap.size p l c ∧ Zz Wx (w.heap.size + 1) ∧ Zz Wx (w.heap.size + 1 + 1) ∧ Zw Wx w3.heap.size (.int .i64 Ku) (.int .i64 Iu) (.float .f64 Fu) (.string Su) (.slice qu mu du) ∧ (Below Wx.heap.size Wx Wx) ∧ Below w.heap.size w Wx from ⟨TR5.out.1, TR5.out.2.1, TR5.out.2.2.1, TR5.out.2.2.2.1, Below.refl _ _, TR5.out.2.2.2.2⟩)
      clear TR5
      have hw3 : w.heap.size ≤ w3.heap.size := by omega
      have TR7 := Lib.hid (And.intro (row_step TR6.out.1 (show Below Wx.heap.size Wx Wx.drew from Below.drew br)) (And.intro (row_step TR6.out.2.1 (show Below Wx.heap.size Wx Wx.drew from Below.drew br)) (And.intro (row_step TR6.out.2.2.1 (show Below Wx.heap.size Wx Wx.drew from Below.drew br)) (And.intro (row_step TR6.out.2.2.2.1 (show Below Wx.heap.size Wx Wx.drew from Below.drew br)) (And.intro (bel_step TR6.out.2.2.2.2.1 (show Below Wx.heap.size Wx Wx.drew from Below.drew br)) (bel_step TR6.out.2.2.2.2.2 (show Below Wx.heap.size Wx Wx.drew from Below.drew br)))))))
      clear TR6
      refine wp_region_held_drew (S := (fun z => z.cell? ⟨w3.heap.size, 0, none⟩ = some (.int .i64 Ku) ∧ z.cell? ⟨w3.heap.size, 1, none⟩ = some (.int .i64 Iu) ∧ z.cell? ⟨w3.heap.size, 2, none⟩ = some (.float .f64 Fu) ∧ z.cell? ⟨w3.heap.size, 3, none⟩ = some (.string Su) ∧ z.cell? ⟨w3.heap.size, 4, none⟩ = some (.slice qu mu du))) (by kernel_rfl) ?_ (fun hH => ?_)
      · exact ⟨rc TR7.out.2.2.2.1 0, rc TR7.out.2.2.2.1 1, rc TR7.out.2.2.2.1 2, rc TR7.out.2.2.2.1 3, rc TR7.out.2.2.2.1 4⟩
      refine zt [0, 3] ?_
      iterate 2 (refine zt1 (fun _ _ d _ _ h => by cases d <;> exact h) (by simp only [lk0, lk1, lk2]; rfl) (by kernel_rfl) (by assumption) (by rfl) (fun w h => by (try dsimp only at h); go_simp; (try with_reducible rfl)) ?_; (try simp only [Act.put, pk0, pk1, pk2]))
      refine zt0 ?_
      refine zr1 1 (by kernel_rfl) (by simp only [lk0, lk1, lk2]; rfl) (fun K hK => ?_)
      go_simp
      go_at_call 18; refine (llist_any _ _ _ _).mono ?_; rintro e w22 ⟨rfl, hbw22⟩
      have TR8 := Lib.hid (And.intro (row_step TR7.out.1 hbw22) (And.intro (row_step TR7.out.2.1 hbw22) (And.intro (row_step TR7.out.2.2.1 hbw22) (And.intro (row_step TR7.out.2.2.2.1 hbw22) (And.intro (bel_step TR7.out.2.2.2.2.1 hbw22) (bel_step TR7.out.2.2.2.2.2 hbw22))))))
      clear TR7
      clear hbw22
      go_wp2_with fail
      refine hK.out _ _ ?hsv21_ (fun hH => ?_)
      case hsv21_ => exact ⟨rc TR8.out.2.2.2.1 0, rc TR8.out.2.2.2.1 1, rc TR8.out.2.2.2.1 2, rc TR8.out.2.2.2.1 3, rc TR8.out.2.2.2.1 4⟩
      clear hK K
      (try simp only [Act.put, pk0, pk1, pk2])
      refine zr1 2 (by kernel_rfl) (by simp only [lk0, lk1, lk2]; rfl) (fun K hK => ?_)
      go_simp
      have hcw0 : w3.heap.size < w22.heap.size := by have h := TR8.out.2.2.2.2.1.size; omega
      go_at_call 17; refine (vclean_any 3 _ (4, 0, 0, ⟨#[]⟩, (ledA AS).map (pairE 0)) _ (list_rep (HTX.out _ TR8.out.2.2.2.2.1)) GT.out.1 GT.out.2.1 GT.out.2.2).mono ?_; rintro e w24 ⟨v4, rfl, hbw24, hr4⟩
      have TR9 := Lib.hid (And.intro (row_step TR8.out.1 hbw24) (And.intro (row_step TR8.out.2.1 hbw24) (And.intro (row_step TR8.out.2.2.1 hbw24) (And.intro (row_step TR8.out.2.2.2.1 hbw24) (And.intro (bel_step TR8.out.2.2.2.2.1 hbw24) (bel_step TR8.out.2.2.2.2.2 hbw24))))))
      clear TR8
      obtain ⟨Ka, Ia, Fa, Sa, qa, ma, da, rfl, _⟩ := repS_shape hr4
      have HC0 := Lib.hid (repS_lt _ _ _ hr4)
      clear hr4
      have TR10 := Lib.hid (show ZL w24 w.heap.size p l c ∧ Zz w24 (w.heap.size + 1) ∧ Zz w24 (w.heap.size + 1 + 1) ∧ Zw w24 w3.heap.size (.int .i64 Ku) (.int .i64 Iu) (.float .f64 Fu) (.string Su) (.slice qu mu du) ∧ (Below Wx.heap.size Wx w24) ∧ (Stay w22.heap.size w24 w24 ∧ w24.heap.size ≤ w24.heap.size) ∧ Below w.heap.size w w24 from ⟨TR9.out.1, TR9.out.2.1, TR9.out.2.2.1, TR9.out.2.2.2.1, TR9.out.2.2.2.2.1, ⟨stay_refl _ _, Nat.le_refl _⟩, TR9.out.2.2.2.2.2⟩)
      clear TR9
      clear hbw24
      go_wp2_with fail
      refine hK.out _ _ ?hsv23_ (fun hH => ?_)
      case hsv23_ => exact ⟨rc TR10.out.2.2.2.1 0, rc TR10.out.2.2.2.1 1, rc TR10.out.2.2.2.1 2, rc TR10.out.2.2.2.1 3, rc TR10.out.2.2.2.1 4⟩
      clear hK K
      (try simp only [Act.put, pk0, pk1, pk2])
      refine zr1 4 (by kernel_rfl) (by simp only [lk0, lk1, lk2]; rfl) (fun K hK => ?_)
      go_simp
      have hcw1 : w3.heap.size < w24.heap.size := by have h := TR10.out.2.2.2.2.1.size; omega
      go_at_call 17; refine (vclean_any (m + 1) _ U _ (HUX.out _ TR10.out.2.2.2.2.1) GU.out.1 GU.out.2.1 GU.out.2.2).mono ?_; rintro e w26 ⟨v4, rfl, hbw26, hr4⟩
      have TR11 := Lib.hid (show ZL w26 w.heap.size p l c ∧ Zz w26 (w.heap.size + 1) ∧ Zz w26 (w.heap.size + 1 + 1) ∧ Zw w26 w3.heap.size (.int .i64 Ku) (.int .i64 Iu) (.float .f64 Fu) (.string Su) (.slice qu mu du) ∧ (Below Wx.heap.size Wx w26) ∧ (Stay w22.heap.size w24 w26 ∧ w24.heap.size ≤ w26.heap.size) ∧ Below w.heap.size w w26 from ⟨row_step TR10.out.1 hbw26, row_step TR10.out.2.1 hbw26, row_step TR10.out.2.2.1 hbw26, row_step TR10.out.2.2.2.1 hbw26, bel_step TR10.out.2.2.2.2.1 hbw26, ⟨stay_trans TR10.out.2.2.2.2.2.1.1 TR10.out.2.2.2.2.2.1.2 hbw26, Nat.le_trans TR10.out.2.2.2.2.2.1.2 hbw26.size⟩, bel_step TR10.out.2.2.2.2.2.2 hbw26⟩)
      clear TR10
      obtain ⟨Kb, Ib, Fb, Sb, qb, mb, db, rfl, _⟩ := repS_shape hr4
      have HC1 := Lib.hid (repS_lt _ _ _ hr4)
      clear hr4
      have TR12 := Lib.hid (show ZL w26 w.heap.size p l c ∧ Zz w26 (w.heap.size + 1) ∧ Zz w26 (w.heap.size + 1 + 1) ∧ Zw w26 w3.heap.size (.int .i64 Ku) (.int .i64 Iu) (.float .f64 Fu) (.string Su) (.slice qu mu du) ∧ (Below Wx.heap.size Wx w26) ∧ (Stay w22.heap.size w24 w26 ∧ w24.heap.size ≤ w26.heap.size) ∧ (Stay w24.heap.size w26 w26 ∧ w26.heap.size ≤ w26.heap.size) ∧ Below w.heap.size w w26 from ⟨TR11.out.1, TR11.out.2.1, TR11.out.2.2.1, TR11.out.2.2.2.1, TR11.out.2.2.2.2.1, TR11.out.2.2.2.2.2.1, ⟨stay_refl _ _, Nat.le_refl _⟩, TR11.out.2.2.2.2.2.2⟩)
      clear TR11
      clear hbw26
      go_wp2_with fail
      refine hK.out _ _ ?hsv25_ (fun hH => ?_)
      case hsv25_ => exact ⟨rc TR12.out.2.2.2.1 0, rc TR12.out.2.2.2.1 1, rc TR12.out.2.2.2.1 2, rc TR12.out.2.2.2.1 3, rc TR12.out.2.2.2.1 4⟩
      clear hK K
      (try simp only [Act.put, pk0, pk1, pk2])
      refine zr1 5 (by kernel_rfl) (by simp only [lk0, lk1, lk2]; rfl) (fun K hK => ?_)
      have TR13 := Lib.hid (show w26.heap[w.heap.size]? = some (.cells #[.int .i64 4, .int .i64 0, .float .f64 0, .string ⟨#[]⟩, .slice p l c] 27 (0, 0)) ∧ w26.heap[w.heap.size + 1]? = some (.cells #[.int .i64 0, .int .i64 0, .float .f64 0, .string ⟨#[]⟩, .slice none 0 0] 27 (0, 0)) ∧ w26.heap[w.heap.size + 1 + 1]? = some (.cells #[.int .i64 0, .int .i64 0, .float .f64 0, .string ⟨#[]⟩, .slice none 0 0] 27 (0, 0)) ∧ w26.heap[w3.heap.size]? = some (.cells #[.int .i64 Ku, .int .i64 Iu, .float .f64 Fu, .string Su, .slice qu mu du] 27 (0, 0)) ∧ (Stay w22.heap.size w24 w26 ∧ w24.heap.size ≤ w26.heap.size) ∧ (Stay w24.heap.size w26 w26 ∧ w26.heap.size ≤ w26.heap.size) ∧ Below w.heap.size w w26 from ⟨TR12.out.1, TR12.out.2.1, TR12.out.2.2.1, TR12.out.2.2.2.1, TR12.out.2.2.2.2.2.1, TR12.out.2.2.2.2.2.2.1, TR12.out.2.2.2.2.2.2.2⟩);   clear TR12; obtain ⟨b30, b31, b32, b33, b34, b3f, b3l⟩ := r7 TR13.out.2.1; go_simp
      have TR14 := Lib.hid (show (fun z0 : World => ZL z0 w.heap.size p l c ∧ Zw z0 (w.heap.size + 1) (.int .i64 Ka) (.int .i64 Ia) (.float .f64 Fa) (.string Sa) (.slice qa ma da) ∧ Zz z0 (w.heap.size + 1 + 1) ∧ Zw z0 w3.heap.size (.int .i64 Ku) (.int .i64 Iu) (.float .f64 Fu) (.string Su) (.slice qu mu du) ∧ (Stay w22.heap.size w24 z0 ∧ w24.heap.size ≤ z0.heap.size) ∧ (Stay w24.heap.size w26 z0 ∧ w26.heap.size ≤ z0.heap.size) ∧ Below w.heap.size w z0) (((((w26.setCell ⟨w.heap.size + 1, 0, none⟩ (.int .i64 Ka)).setCell ⟨w.heap.size + 1, 1, none⟩ (.int .i64 Ia)).setCell ⟨w.heap.size + 1, 2, none⟩ (.float .f64 Fa)).setCell ⟨w.heap.size + 1, 3, none⟩ (.string Sa)).setCell ⟨w.heap.size + 1, 4, none⟩ (.slice qa ma da)) from ⟨s5o TR13.out.1 (by omega), s5r TR13.out.2.1, s5o TR13.out.2.2.1 (by omega), s5o TR13.out.2.2.2.1 (by omega), ⟨stay_set TR13.out.2.2.2.2.1.1 (by omega) (.int .i64 Ka) (.int .i64 Ia) (.float .f64 Fa) (.string Sa) (.slice qa ma da), by show _ ≤ (set5 w26 (w.heap.size + 1) 0 (.int .i64 Ka) (.int .i64 Ia) (.float .f64 Fa) (.string Sa) (.slice qa ma da)).heap.size; rw [set5_size]; exact TR13.out.2.2.2.2.1.2⟩, ⟨stay_set TR13.out.2.2.2.2.2.1.1 (by omega) (.int .i64 Ka) (.int .i64 Ia) (.float .f64 Fa) (.string Sa) (.slice qa ma da), by show _ ≤ (set5 w26 (w.heap.size + 1) 0 (.int .i64 Ka) (.int .i64 Ia) (.float .f64 Fa) (.string Sa) (.slice qa ma da)).heap.size; rw [set5_size]; exact TR13.out.2.2.2.2.2.1.2⟩, s5b TR13.out.2.2.2.2.2.2 (by omega)⟩)
      clear TR13
      clear b30 b31 b32 b33 b34 b3f b3l
      go_wp2_with fail
      refine hK.out _ _ ?hsv27_ (fun hH => ?_)
      case hsv27_ => exact ⟨rc TR14.out.2.2.2.1 0, rc TR14.out.2.2.2.1 1, rc TR14.out.2.2.2.1 2, rc TR14.out.2.2.2.1 3, rc TR14.out.2.2.2.1 4⟩
      clear hK K
      (try simp only [Act.put, pk0, pk1, pk2])
      refine zr1 6 (by kernel_rfl) (by simp only [lk0, lk1, lk2]; rfl) (fun K hK => ?_)
      obtain ⟨b30, b31, b32, b33, b34, b3f, b3l⟩ := r7 TR14.out.2.2.1; go_simp
      have TR15 := Lib.hid (show (fun z0 : World => ZL z0 w.heap.size p l c ∧ Zw z0 (w.heap.size + 1) (.int .i64 Ka) (.int .i64 Ia) (.float .f64 Fa) (.string Sa) (.slice qa ma da) ∧ Zw z0 (w.heap.size + 1 + 1) (.int .i64 Kb) (.int .i64 Ib) (.float .f64 Fb) (.string Sb) (.slice qb mb db) ∧ Zw z0 w3.heap.size (.int .i64 Ku) (.int .i64 Iu) (.float .f64 Fu) (.string Su) (.slice qu mu du) ∧ (Stay w22.heap.size w24 z0 ∧ w24.heap.size ≤ z0.heap.size) ∧ (Stay w24.heap.size w26 z0 ∧ w26.heap.size ≤ z0.heap.size) ∧ Below w.heap.size w z0) ((((((((((w26.setCell ⟨w.heap.size + 1, 0, none⟩ (.int .i64 Ka)).setCell ⟨w.heap.size + 1, 1, none⟩ (.int .i64 Ia)).setCell ⟨w.heap.size + 1, 2, none⟩ (.float .f64 Fa)).setCell ⟨w.heap.size + 1, 3, none⟩ (.string Sa)).setCell ⟨w.heap.size + 1, 4, none⟩ (.slice qa ma da)).setCell ⟨w.heap.size + 1 + 1, 0, none⟩ (.int .i64 Kb)).setCell ⟨w.heap.size + 1 + 1, 1, none⟩ (.int .i64 Ib)).setCell ⟨w.heap.size + 1 + 1, 2, none⟩ (.float .f64 Fb)).setCell ⟨w.heap.size + 1 + 1, 3, none⟩ (.string Sb)).setCell ⟨w.heap.size + 1 + 1, 4, none⟩ (.slice qb mb db)) from ⟨s5o TR14.out.1 (by omega), s5o TR14.out.2.1 (by omega), s5r TR14.out.2.2.1, s5o TR14.out.2.2.2.1 (by omega), ⟨stay_set TR14.out.2.2.2.2.1.1 (by omega) (.int .i64 Kb) (.int .i64 Ib) (.float .f64 Fb) (.string Sb) (.slice qb mb db), by show _ ≤ (set5 (((((w26.setCell ⟨w.heap.size + 1, 0, none⟩ (.int .i64 Ka)).setCell ⟨w.heap.size + 1, 1, none⟩ (.int .i64 Ia)).setCell ⟨w.heap.size + 1, 2, none⟩ (.float .f64 Fa)).setCell ⟨w.heap.size + 1, 3, none⟩ (.string Sa)).setCell ⟨w.heap.size + 1, 4, none⟩ (.slice qa ma da)) (w.heap.size + 1 + 1) 0 (.int .i64 Kb) (.int .i64 Ib) (.float .f64 Fb) (.string Sb) (.slice qb mb db)).heap.size; rw [set5_size]; exact TR14.out.2.2.2.2.1.2⟩, ⟨stay_set TR14.out.2.2.2.2.2.1.1 (by omega) (.int .i64 Kb) (.int .i64 Ib) (.float .f64 Fb) (.string Sb) (.slice qb mb db), by show _ ≤ (set5 (((((w26.setCell ⟨w.heap.size + 1, 0, none⟩ (.int .i64 Ka)).setCell ⟨w.heap.size + 1, 1, none⟩ (.int .i64 Ia)).setCell ⟨w.heap.size + 1, 2, none⟩ (.float .f64 Fa)).setCell ⟨w.heap.size + 1, 3, none⟩ (.string Sa)).setCell ⟨w.heap.size + 1, 4, none⟩ (.slice qa ma da)) (w.heap.size + 1 + 1) 0 (.int .i64 Kb) (.int .i64 Ib) (.float .f64 Fb) (.string Sb) (.slice qb mb db)).heap.size; rw [set5_size]; exact TR14.out.2.2.2.2.2.1.2⟩, s5b TR14.out.2.2.2.2.2.2 (by omega)⟩)
      clear TR14
      clear b30 b31 b32 b33 b34 b3f b3l
      go_wp2_with fail
      refine hK.out _ _ ?hsv28_ (fun hH => ?_)
      case hsv28_ => exact ⟨rc TR15.out.2.2.2.1 0, rc TR15.out.2.2.2.1 1, rc TR15.out.2.2.2.1 2, rc TR15.out.2.2.2.1 3, rc TR15.out.2.2.2.1 4⟩
      clear hK K
      (try simp only [Act.put, pk0, pk1, pk2])
      refine zt [7] ?_
      refine zt1 (fun _ _ d _ _ h => by cases d <;> exact h) (by simp only [lk0, lk1, lk2]; rfl) (by kernel_rfl) (by assumption) (by rfl) (fun w h => by (try dsimp only at h); go_simp; (try with_reducible rfl)) ?_; (try simp only [Act.put, pk0, pk1, pk2])
      refine zt0 ?_
      refine wpAnyH_done (by kernel_rfl) ?_ _
      revert TR15
      generalize ((((((((((w26.setCell ⟨w.heap.size + 1, 0, none⟩ (.int .i64 Ka)).setCell ⟨w.heap.size + 1, 1, none⟩ (.int .i64 Ia)).setCell ⟨w.heap.size + 1, 2, none⟩ (.float .f64 Fa)).setCell ⟨w.heap.size + 1, 3, none⟩ (.string Sa)).setCell ⟨w.heap.size + 1, 4, none⟩ (.slice qa ma da)).setCell ⟨w.heap.size + 1 + 1, 0, none⟩ (.int .i64 Kb)).setCell ⟨w.heap.size + 1 + 1, 1, none⟩ (.int .i64 Ib)).setCell ⟨w.heap.size + 1 + 1, 2, none⟩ (.float .f64 Fb)).setCell ⟨w.heap.size + 1 + 1, 3, none⟩ (.string Sb)).setCell ⟨w.heap.size + 1 + 1, 4, none⟩ (.slice qb mb db)) = Wf
      intro TR15
      obtain ⟨c1_0, c1_1, c1_2, c1_3, c1_4, c1f, c1l⟩ := r7 TR15.out.2.1
      obtain ⟨c2_0, c2_1, c2_2, c2_3, c2_4, c2f, c2l⟩ := r7 TR15.out.2.2.1
      go_wp2
      refine bodyPost_ret (v := .tuple #[.agg #[.int .i64 Ka, .int .i64 Ia, .float .f64 Fa, .string Sa, .slice qa ma da], .agg #[.int .i64 Kb, .int .i64 Ib, .float .f64 Fb, .string Sb, .slice qb mb db], .int .i64 0]) (by simp [results, Try.results7, go_sem, c1_0, c1_1, c1_2, c1_3, c1_4, c2_0, c2_1, c2_2, c2_3, c2_4]) rfl ⟨_, _, _, _, _, _, _, _, _, _, _, _, _, _, _, rfl, TR15.out.2.2.2.2.2.2, fun _ => ⟨AS, HAS.out, ?_⟩⟩
      have hcc := HC0.out
      rw [show ((4, 0, 0, ⟨#[]⟩, (ledA AS).map (pairE 0)) : VT 3) = tableT 0 (ledA AS) from rfl, okA_clean HAS.out] at hcc
      exact repS_mono (fun b hb => Nat.le_trans hw3 (Nat.le_trans (Nat.le_of_lt hcw0) hb.1)) _ _ _ (repS_keep (fun b hb => TR15.out.2.2.2.2.1.1 b hb.1 hb.2) _ _ _ hcc)
end Num
end Go.Proofs.Yteodljkcbddehaa
/-
  Names in their order: where one stands, one put in, one taken out (plain).
-/
namespace Go.Proofs.Yteodljkcbddehaa
open Go.RowKit
namespace Num
open Ints
theorem bl_trans : ∀ x y z : List UInt8, Op.bytesLess x y = true → Op.bytesLess y z = true → Op.bytesLess x z = true
  | _, [], _, h, _ => by simp [Op.bytesLess] at h
  | _, _ :: _, [], _, h => by simp [Op.bytesLess] at h
  | [], _ :: _, _ :: _, _, _ => by simp [Op.bytesLess]
  | a :: x, b :: y, c :: z, h, g => by
    have ih := bl_trans x y z
    rw [Op.bytesLess] at h g ⊢
    simp only [Bool.or_eq_true, Bool.and_eq_true, decide_eq_true_iff, beq_iff_eq] at h g ⊢
    rcases h with h | ⟨rfl, h⟩
    · rcases g with g | ⟨rfl, g⟩
      · exact Or.inl (by rw [UInt8.lt_iff_toNat_lt] at h g ⊢; omega)
      · exact Or.inl h
    · rcases g with g | ⟨rfl, g⟩
      · exact Or.inl g
      · exact Or.inr ⟨rfl, ih h g⟩
theorem bl_tri : ∀ x y : List UInt8, Op.bytesLess x y = false → x ≠ y → Op.bytesLess y x = true
  | [], [], _, h => absurd rfl h
  | [], _ :: _, h, _ => by simp [Op.bytesLess] at h
  | _ :: _, [], _, _ => by simp [Op.bytesLess]
  | a :: x, b :: y, h, g => by
    have ih := bl_tri x y
    rw [Op.bytesLess] at h ⊢
    rw [Bool.or_eq_false_iff, decide_eq_false_iff_not] at h
    simp only [Bool.or_eq_true, Bool.and_eq_true, decide_eq_true_iff, beq_iff_eq]
    by_cases hab : b = a
    · subst hab
      refine Or.inr ⟨rfl, ih ?_ (fun e => g (by rw [e]))⟩
      have := h.2
      simpa using this
    · refine Or.inl ?_
      have h1 := h.1
      rw [UInt8.lt_iff_toNat_lt] at h1 ⊢
      have h2 : b.toNat ≠ a.toNat := fun e => hab (UInt8.toNat_inj.1 e)
      omega
theorem ltB_trans {a b c : ByteArray} (h : ltB a b = true) (g : ltB b c = true) : ltB a c = true := bl_trans _ _ _ h g
theorem ltB_tri {a b : ByteArray} (h : ltB a b = false) (g : (a.toList == b.toList) = false) : ltB b a = true := bl_tri _ _ h (by rw [beq_eq_false_iff_ne] at g; exact g)
theorem names_pw (NS : List ByteArray) : Names NS ↔ (∀ s ∈ NS, nmV 3 s = true) ∧ NS.Pairwise (fun a b => ltB a b = true) := by
  unfold Names
  rw [List.pairwise_iff_getElem]
theorem spot_ex {NS : List ByteArray} (hp : NS.Pairwise (fun a b => ltB a b = true)) (k : ByteArray) : ∃ a f, Spot NS k a f := by
  induction NS with
  | nil => exact ⟨0, false, Nat.le_refl _, fun t h => absurd h (Nat.not_lt_zero _), fun h => absurd h (Nat.not_lt_zero _), fun _ => rfl⟩
  | cons x r ih =>
    obtain ⟨hx, hr⟩ := List.pairwise_cons.1 hp
    cases hk : ltB x k with
    | true =>
      obtain ⟨a, f, h1, h2, h3, h4⟩ := ih hr
      refine ⟨a + 1, f, by rw [List.length_cons]; omega, fun t h => ?_, fun h => ?_, fun h => h4 (fun e => h (by rw [List.length_cons]; omega))⟩
      · cases t with
        | zero => rw [List.getElem_cons_zero, hk, decide_eq_true (by omega)]
        | succ t =>
          rw [List.getElem_cons_succ, h2 t (by rw [List.length_cons] at h; omega)]
          by_cases ht : t < a
          · rw [decide_eq_true ht, decide_eq_true (by omega)]
          · rw [decide_eq_false ht, decide_eq_false (by omega)]
      · rw [List.getElem_cons_succ]; exact h3 (by rw [List.length_cons] at h; omega)
    | false =>
      refine ⟨0, x.toList == k.toList, Nat.zero_le _, fun t h => ?_, fun _ => rfl, fun h => absurd (by rw [List.length_cons]; omega) h⟩
      rw [decide_eq_false (Nat.not_lt_zero _)]
      cases t with
      | zero => exact hk
      | succ t =>
        rw [List.getElem_cons_succ]
        have ht : t < r.length := by rw [List.length_cons] at h; omega
        cases hc : ltB r[t] k with
        | false => rfl
        | true =>
          have := ltB_trans (hx _ (List.getElem_mem ht)) hc
          rw [hk] at this; cases this
theorem spot_of {NS : List ByteArray} (hn : Names NS) (k : ByteArray) : ∃ a f, Spot NS k a f := spot_ex ((names_pw NS).1 hn).2 k
theorem spot_eq {NS : List ByteArray} {k : ByteArray} {a : Nat} (h : Spot NS k a true) : ∃ h : a < NS.length, NS[a].toList = k.toList := by
  by_cases ha : a < NS.length
  · exact ⟨ha, by have := h.2.2.1 ha; rw [beq_iff_eq] at this; exact this⟩
  · have := h.2.2.2 ha; cases this
theorem names_ins {NS : List ByteArray} (hn : Names NS) {k : ByteArray} {a : Nat} (hs : Spot NS k a false) (hk : nmV 3 k = true) : Names (NS.take a ++ [k] ++ NS.drop a) := by
  rw [names_pw] at hn ⊢
  obtain ⟨h1, h2⟩ := hn
  obtain ⟨s1, s2, s3, s4⟩ := hs
  refine ⟨fun s h => ?_, ?_⟩
  · rcases List.mem_append.1 h with h | h
    · rcases List.mem_append.1 h with h | h
      · exact h1 s (List.mem_of_mem_take h)
      · rw [List.mem_singleton.1 h]; exact hk
    · exact h1 s (List.mem_of_mem_drop h)
  have hlo : ∀ x ∈ NS.take a, ltB x k = true := by
    intro x hx
    obtain ⟨t, ht, rfl⟩ := List.getElem_of_mem hx
    rw [List.length_take] at ht
    rw [List.getElem_take, s2 t (by omega), decide_eq_true (by omega)]
  have hhi : ∀ x ∈ NS.drop a, ltB k x = true := by
    intro x hx
    obtain ⟨t, ht, rfl⟩ := List.getElem_of_mem hx
    rw [List.length_drop] at ht
    have ha : a < NS.length := by omega
    have hka : ltB k NS[a] = true := ltB_tri (by rw [s2 a ha, decide_eq_false (Nat.lt_irrefl _)]) (s3 ha)
    rw [List.getElem_drop]
    cases t with
    | zero => exact hka
    | succ t => exact ltB_trans hka ((List.pairwise_iff_getElem.1 h2) a (a + (t + 1)) ha (by omega) (by omega))
  rw [List.append_assoc, List.pairwise_append]
  refine ⟨h2.sublist (List.take_sublist _ _), ?_, fun x hx y hy => ?_⟩
  · rw [List.singleton_append, List.pairwise_cons]
    exact ⟨hhi, h2.sublist (List.drop_sublist _ _)⟩
  · rw [List.singleton_append, List.mem_cons] at hy
    rcases hy with rfl | hy
    · exact hlo x hx
    · exact ltB_trans (hlo x hx) (hhi y hy)
theorem okA_ins {AS : List (ByteArray × Nat)} (h : OkA AS) {k : ByteArray} {a F : Nat} (hs : Spot (AS.map (·.1)) k a false) (hk : nmV 3 k = true) (hl : AS.length < 32) (hF : F < 9218868437227405312) : OkA (AS.take a ++ [(k, F)] ++ AS.drop a) := by
  have ha := hs.1
  rw [List.length_map] at ha
  refine ⟨?_, ?_, fun e he => ?_⟩
  · have e := names_ins h.1 hs hk
    rw [← List.map_take, ← List.map_drop] at e
    rw [List.map_append, List.map_append]
    exact e
  · rw [List.length_append, List.length_append, List.length_take, List.length_drop, List.length_singleton]; omega
  · rcases List.mem_append.1 he with he | he
    · rcases List.mem_append.1 he with he | he
      · exact h.2.2 e (List.mem_of_mem_take he)
      · rw [List.mem_singleton.1 he]; exact hF
    · exact h.2.2 e (List.mem_of_mem_drop he)
theorem okA_del {AS : List (ByteArray × Nat)} (h : OkA AS) (i : Nat) : OkA (AS.take i ++ AS.drop (i + 1)) := by
  have hsub : (AS.take i ++ AS.drop (i + 1)).Sublist AS := by
    rw [← List.eraseIdx_eq_take_drop_succ]
    exact List.eraseIdx_sublist _ _
  have hn := (names_pw _).1 h.1
  refine ⟨(names_pw _).2 ⟨fun s hs => hn.1 s ((hsub.map _).subset hs), hn.2.sublist (hsub.map _)⟩, ?_, fun e he => h.2.2 e (hsub.subset he)⟩
  exact Nat.le_trans hsub.length_le h.2.1
theorem ledA_ins (AS : List (ByteArray × Nat)) (k : ByteArray) (a F : Nat) : ledA (AS.take a ++ [(k, F)] ++ AS.drop a) = (ledA AS).take a ++ [(k, floT 0 F)] ++ (ledA AS).drop a := by
  unfold ledA
  rw [List.map_append, List.map_append, List.map_take, List.map_drop]; rfl
theorem ledA_del (AS : List (ByteArray × Nat)) (i : Nat) : ledA (AS.take i ++ AS.drop (i + 1)) = (ledA AS).take i ++ (ledA AS).drop (i + 1) := by
  unfold ledA
  rw [List.map_append, List.map_take, List.map_drop]
end Num
end Go.Proofs.Yteodljkcbddehaa
/-
  Package ledger's run, method by method, whatever the arguments hold, weakly.
-/
namespace Go.Proofs.Yteodljkcbddehaa
open Go.RowKit
namespace Num
open Ints
set_option linter.unusedSimpArgs false
set_option linter.unusedVariables false
theorem at_found {AS : List (ByteArray × Nat)} {k : ByteArray} {a : Nat} (hs : Spot (AS.map (·.1)) k a true) : ∃ (h : a < AS.length) (F : Nat), AS[a] = (k, F) := by
  obtain ⟨h, he⟩ := spot_eq hs
  have h' : a < AS.length := by simpa using h
  refine ⟨h', (AS[a]).2, ?_⟩
  rw [List.getElem_map, ByteArray.toList_eq, ByteArray.toList_eq] at he
  have h1 : (AS[a]).1 = k := ByteArray.ext (Array.toList_inj.1 he)
  rw [← h1]
theorem nilL2 (y : World) : RepL y (Rep y 2) none 0 0 ([] : List (VT 2)) := ⟨rfl, Nat.le_refl _, Nat.zero_le _, fun h => absurd h (Nat.lt_irrefl _)⟩
theorem nilU1 (y : World) : Rep y 1 (.agg #[.int .i64 0, .int .i64 0, .float .f64 0, .string ⟨#[]⟩, .slice none 0 0]) (nilT 0) := repS_rep _ _ _ (nil_rep 0 (fun _ => True) y)
theorem lq1_nil {w W w' : World} {z : Int} {e : Ending} (h : e = .returned (.tuple #[.slice none 0 0, .int .i64 z]) ∧ Below W.heap.size W w') : LQ1 w W 0 0 [] z e w' := ⟨none, 0, h.1, h.2, fun y _ _ => nilL2 y⟩
theorem lq_nil {w W w' : World} {z : Int} {e : Ending} (h : e = .returned (.tuple #[.slice none 0 0, .agg #[.int .i64 0, .int .i64 0, .float .f64 0, .string ⟨#[]⟩, .slice none 0 0], .int .i64 z]) ∧ Below W.heap.size W w') : LQ w W 0 0 0 [] (nilT 0) z e w' := ⟨none, 0, _, h.1, h.2, fun y _ _ => nilL2 y, fun y _ => nilU1 y⟩
theorem ins_T (AS : List (ByteArray × Nat)) (k : ByteArray) (a : Nat) : ((ledA AS).map (pairE 0)).take a ++ ([pairT 0 k (floT 0 0)] ++ ((ledA AS).map (pairE 0)).drop a) = (ledA (AS.take a ++ [(k, 0)] ++ AS.drop a)).map (pairE 0) := by
  rw [ledA_ins, List.map_append, List.map_append, List.map_take, List.map_drop, List.append_assoc]
  rfl
theorem del_T (AS : List (ByteArray × Nat)) (a : Nat) : ((ledA AS).map (pairE 0)).take a ++ ((ledA AS).map (pairE 0)).drop (a + 1) = (ledA (AS.take a ++ AS.drop (a + 1))).map (pairE 0) := by
  rw [ledA_del, List.map_append, List.map_take, List.map_drop]
theorem set_T (AS : List (ByteArray × Nat)) (k : ByteArray) (a F : Nat) (h : a < AS.length) : ((ledA AS).map (pairE 0)).take a ++ ([pairT 0 k (floT 0 F)] ++ ((ledA AS).map (pairE 0)).drop (a + 1)) = (ledA (AS.set a (k, F))).map (pairE 0) := by
  rw [set_at _ a _ (by rw [List.length_map, ledA_len]; exact h), ← set_ledA, List.map_set]; rfl
set_option maxRecDepth 100000 in
set_option maxHeartbeats 4000000 in
theorem lrun_open {AS : List (ByteArray × Nat)} (hok : OkA AS) {p : Option Addr} {l c : Nat} {w : World} (hrl : RepL w (Rep w 2) p l c ((ledA AS).map (pairE 0))) {bl ol cl : Nat} {k : ByteArray} (n0 : w.cell? ⟨bl, ol + 3, none⟩ = some (.string k)) (hk : nmV 3 k = true) : Calls Try.prog 16 #[.slice p l c, .string { data := #[111, 112, 101, 110] }, .slice (some ⟨bl, ol, none⟩) 1 cl] w fun e w' => LW w e w' := by
  have hll := len_A hrl
  have hll' := hll
  rw [ledA_len] at hll
  have hl32 := hok.2.1
  obtain ⟨a, f, hs⟩ := spot_of hok.1 k
  have hs' : Spot ((ledA AS).map (·.1)) k a f := by rw [ledA_names]; exact hs
  have hal : a ≤ AS.length := by have h := hs.1; rw [List.length_map] at h; exact h
  cases f
  · by_cases h32 : AS.length < 32
    · have h2 := okA_ins hok hs hk h32 (F := 0) (by decide)
      refine (run_open 0 0 (a + 1 + (l - a)) p l c bl ol cl k w n0 (((ledA AS).map (pairE 0)).take a ++ ([pairT 0 k (floT 0 0)] ++ ((ledA AS).map (pairE 0)).drop a)) 0 (Lib.hid (fun W hb => ?_))).mono fun e w' h => lw_of h (fun _ => ⟨nil_cln, _, h2, ins_T AS k a⟩)
      refine (opened_new 0 p l c a k (ledA AS) w W (Lib.hid hb) (Lib.hid hrl) (by omega) (by omega) (by omega) hs' (Lib.hid (txt_repn 0 w (nm_size hk)))).mono ?_
      rintro e w' ⟨p', c', rfl, hb', hn⟩
      exact ⟨p', c', rfl, hb', hn⟩
    · exact (run_open 0 0 0 p l c bl ol cl k w n0 [] 33 (Lib.hid (fun W hb => (opened_full 0 p l c a k (ledA AS) w W (Lib.hid hb) (Lib.hid hrl) (by omega) (by omega) hs').mono fun e w' h => lq1_nil h))).mono fun e w' h => lw_of h (fun h0 => absurd h0 (by decide))
  · exact (run_open 0 0 0 p l c bl ol cl k w n0 [] 32 (Lib.hid (fun W hb => (opened_there 0 p l c a k (ledA AS) w W (Lib.hid hb) (Lib.hid hrl) (by omega) hs').mono fun e w' h => lq1_nil h))).mono fun e w' h => lw_of h (fun h0 => absurd h0 (by decide))
set_option maxRecDepth 100000 in
set_option maxHeartbeats 4000000 in
theorem lrun_close {AS : List (ByteArray × Nat)} (hok : OkA AS) {p : Option Addr} {l c : Nat} {w : World} (hrl : RepL w (Rep w 2) p l c ((ledA AS).map (pairE 0))) {bl ol cl : Nat} {k : ByteArray} (n0 : w.cell? ⟨bl, ol + 3, none⟩ = some (.string k)) : Calls Try.prog 16 #[.slice p l c, .string { data := #[99, 108, 111, 115, 101] }, .slice (some ⟨bl, ol, none⟩) 1 cl] w fun e w' => LW w e w' := by
  have hll := len_A hrl
  have hll' := hll
  rw [ledA_len] at hll
  have hl32 := hok.2.1
  obtain ⟨a, f, hs⟩ := spot_of hok.1 k
  have hs' : Spot ((ledA AS).map (·.1)) k a f := by rw [ledA_names]; exact hs
  cases f
  · exact (run_close 0 0 0 p l c bl ol cl k w n0 [] 30 (Lib.hid (fun W hb => (closed_none 0 p l c a k (ledA AS) w W (Lib.hid hb) (Lib.hid hrl) (by omega) hs').mono fun e w' h => lq1_nil h))).mono fun e w' h => lw_of h (fun h0 => absurd h0 (by decide))
  · obtain ⟨hal, F, hka⟩ := at_found hs
    have hal' : a < (ledA AS).length := by rw [ledA_len]; exact hal
    cases hsg : decide (0 < signV (floT 0 F).1 (floT 0 F).2.1 (floT 0 F).2.2.1)
    · refine (run_close 0 0 (a + (l - (a + 1))) p l c bl ol cl k w n0 (((ledA AS).map (pairE 0)).take a ++ ((ledA AS).map (pairE 0)).drop (a + 1)) 0 (Lib.hid (fun W hb => closed_ok 0 p l c a k (ledA AS) w W (Lib.hid hb) (Lib.hid hrl) (by omega) (floT 0 F) hal' (ledA_at hal hka _) hs' hsg))).mono fun e w' h => lw_of h (fun _ => ⟨nil_cln, _, okA_del hok a, del_T AS a⟩)
    · exact (run_close 0 0 0 p l c bl ol cl k w n0 [] 36 (Lib.hid (fun W hb => (closed_funds 0 p l c a k (ledA AS) w W (Lib.hid hb) (Lib.hid hrl) (by omega) (floT 0 F) hal' (ledA_at hal hka _) hs' hsg).mono fun e w' h => lq1_nil h))).mono fun e w' h => lw_of h (fun h0 => absurd h0 (by decide))
set_option maxRecDepth 100000 in
set_option maxHeartbeats 4000000 in
theorem lrun_balance {AS : List (ByteArray × Nat)} (hok : OkA AS) {p : Option Addr} {l c : Nat} {w : World} (hrl : RepL w (Rep w 2) p l c ((ledA AS).map (pairE 0))) {bl ol cl : Nat} {k : ByteArray} (n0 : w.cell? ⟨bl, ol + 3, none⟩ = some (.string k)) : Calls Try.prog 16 #[.slice p l c, .string { data := #[98, 97, 108, 97, 110, 99, 101] }, .slice (some ⟨bl, ol, none⟩) 1 cl] w fun e w' => LW w e w' := by
  have hll := len_A hrl
  have hll' := hll
  rw [ledA_len] at hll
  have hl32 := hok.2.1
  obtain ⟨a, f, hs⟩ := spot_of hok.1 k
  have hs' : Spot ((ledA AS).map (·.1)) k a f := by rw [ledA_names]; exact hs
  cases f
  · exact (run_balance 0 0 p l c bl ol cl k w n0 ((ledA AS).map (pairE 0)) (Lib.hid hrl) (nilT 0) 30 (Lib.hid (fun W hb => (balance_none 0 p l c a k (ledA AS) w W (Lib.hid hb) (Lib.hid hrl) (by omega) hs').mono fun e w' h => ⟨_, h.1, h.2, fun y _ => nilU1 y⟩))).mono fun e w' h => lw_of h (fun h0 => absurd h0 (by decide))
  · obtain ⟨hal, F, hka⟩ := at_found hs
    have hal' : a < (ledA AS).length := by rw [ledA_len]; exact hal
    have hF : F < 9218868437227405312 := by have h := hok.2.2 _ (List.getElem_mem hal); rw [hka] at h; exact h
    obtain ⟨b, off, rfl, _⟩ := hrl.2.2.2 (by omega)
    refine (run_balance 0 0 _ l c bl ol cl k w n0 ((ledA AS).map (pairE 0)) (Lib.hid hrl) (floT 0 F) 0 (Lib.hid (fun W hb => ?_))).mono fun e w' h => lw_of h (fun _ => ⟨(small_cln (small_flo hF)).2, AS, hok, rfl⟩)
    refine (balance_ok 0 b off l c a k (ledA AS) (floT 0 F) W W (Lib.hid br) (Lib.hid (repL_acc hb hrl)) (by omega) hal' hll' (ledA_at hal hka _) hs').mono ?_
    rintro e w' ⟨u, rfl, hb', hu⟩
    obtain ⟨K', I', F', S', q', m', d', rfl, _⟩ := rep_shape hu
    obtain ⟨rfl, rfl, rfl, rfl, hi', hF'⟩ := leaf_is hu
    obtain ⟨p', l', c', hv', _, _, _, _, hl', hlc', hcm', _⟩ := hu
    injection hv' with hv'
    simp only [Array.mk.injEq, List.cons.injEq, and_true] at hv'
    obtain ⟨_, _, _, _, e5⟩ := hv'
    injection e5 with e6 e7 e8
    subst e6 e7 e8
    exact ⟨_, rfl, hb', fun y hy => ⟨q', m', d', rfl, (by decide : okI 2), (by decide : okI 0), hF', (by decide : (⟨#[]⟩ : ByteArray).size ≤ maxLen), hl', hlc', hcm', fun h0 => absurd h0 (by rw [← hl']; exact Nat.lt_irrefl _)⟩⟩
set_option maxRecDepth 100000 in
set_option maxHeartbeats 4000000 in
theorem lrun_deposit {AS : List (ByteArray × Nat)} (hok : OkA AS) {p : Option Addr} {l c : Nat} {w : World} (hrl : RepL w (Rep w 2) p l c ((ledA AS).map (pairE 0))) {bl ol cl : Nat} {k : ByteArray} (n0 : w.cell? ⟨bl, ol + 3, none⟩ = some (.string k)) {K3 I3 : Int} {F3 : Nat} {S3 : ByteArray} {q3 : Option Addr} {m3 d3 : Nat} (v0 : w.cell? ⟨bl, ol + 5, none⟩ = some (.int .i64 K3)) (v1 : w.cell? ⟨bl, ol + 5 + 1, none⟩ = some (.int .i64 I3)) (v2 : w.cell? ⟨bl, ol + 5 + 2, none⟩ = some (.float .f64 F3)) (v3 : w.cell? ⟨bl, ol + 5 + 3, none⟩ = some (.string S3)) (v4 : w.cell? ⟨bl, ol + 5 + 4, none⟩ = some (.slice q3 m3 d3)) (hk : nmV 3 k = true) (hF : F3 < 2 ^ 64) (hi : okI I3) : Calls Try.prog 16 #[.slice p l c, .string { data := #[100, 101, 112, 111, 115, 105, 116] }, .slice (some ⟨bl, ol, none⟩) 2 cl] w fun e w' => LW w e w' := by
  have hll := len_A hrl
  have hll' := hll
  rw [ledA_len] at hll
  have hl32 := hok.2.1
  by_cases h1 : finV K3 F3 = false ∨ signV K3 I3 F3 ≤ 0
  · exact (run_deposit 0 0 0 p l c bl ol cl k K3 I3 F3 S3 q3 m3 d3 w n0 v0 v1 v2 v3 v4 [] (nilT 0) 35 (Lib.hid (fun W hb => (deposit_bad p l c k K3 I3 F3 S3 q3 m3 d3 W hF h1).mono fun e w' h => lq_nil h))).mono fun e w' h => lw_of h (fun h0 => absurd h0 (by decide))
  have hf : finV K3 F3 = true := by cases h : finV K3 F3; exact absurd (Or.inl h) h1; rfl
  have hsg : 0 < signV K3 I3 F3 := by have : ¬ signV K3 I3 F3 ≤ 0 := fun h => h1 (Or.inr h); omega
  obtain ⟨hA, hG⟩ := amt_of hF hi hf hsg
  obtain ⟨a, f, hs⟩ := spot_of hok.1 k
  have hs' : Spot ((ledA AS).map (·.1)) k a f := by rw [ledA_names]; exact hs
  cases f
  · exact (run_deposit 0 0 0 p l c bl ol cl k K3 I3 F3 S3 q3 m3 d3 w n0 v0 v1 v2 v3 v4 [] (nilT 0) 30 (Lib.hid (fun W hb => (deposit_none 0 p l c a k (ledA AS) w W (Lib.hid hb) (Lib.hid hrl) (by omega) K3 I3 F3 S3 q3 m3 d3 (asF K3 I3 F3) (Lib.hid hA) hs').mono fun e w' h => lq_nil h))).mono fun e w' h => lw_of h (fun h0 => absurd h0 (by decide))
  · obtain ⟨hal, FV, hka⟩ := at_found hs
    have hal' : a < (ledA AS).length := by rw [ledA_len]; exact hal
    have hFV : FV < 9218868437227405312 := by have h := hok.2.2 _ (List.getElem_mem hal); rw [hka] at h; exact h
    obtain ⟨b, off, rfl, _⟩ := hrl.2.2.2 (by omega)
    cases hsu : finV 2 (Flo.cop .add FV (asF K3 I3 F3))
    · exact (run_deposit 0 0 0 _ l c bl ol cl k K3 I3 F3 S3 q3 m3 d3 w n0 v0 v1 v2 v3 v4 [] (nilT 0) 35 (Lib.hid (fun W hb => (deposit_sum 0 b off l c a k K3 I3 F3 S3 q3 m3 d3 (asF K3 I3 F3) FV (ledA AS) (floT 0 FV) w W (Lib.hid hb) (Lib.hid hrl) (by omega) hal' hll' (ledA_at hal hka _) hs' (Lib.hid hA) ⟨rfl, rfl⟩ hsu).mono fun e w' h => lq_nil h))).mono fun e w' h => lw_of h (fun h0 => absurd h0 (by decide))
    · have hS := cop_add (Nat.le_of_lt hFV) (Nat.le_of_lt hG)
      have hok2 := okA_set hok hal (k := k) (by rw [hka]) (fin_le hS.1 hsu)
      refine (run_deposit 0 0 (a + 1 + (l - (a + 1))) _ l c bl ol cl k K3 I3 F3 S3 q3 m3 d3 w n0 v0 v1 v2 v3 v4 (((ledA AS).map (pairE 0)).take a ++ ([pairT 0 k (floT 0 (Flo.cop .add FV (asF K3 I3 F3)))] ++ ((ledA AS).map (pairE 0)).drop (a + 1))) (floT 0 (Flo.cop .add FV (asF K3 I3 F3))) 0 (Lib.hid (fun W hb => ?_))).mono fun e w' h => lw_of h (fun _ => ⟨(small_cln (small_flo (fin_le hS.1 hsu))).2, _, hok2, set_T AS k a _ hal⟩)
      refine (deposit_ok 0 b off l c a k K3 I3 F3 S3 q3 m3 d3 (asF K3 I3 F3) FV (ledA AS) (floT 0 FV) w W (Lib.hid hb) (Lib.hid hrl) (by omega) hal' hll' (ledA_at hal hka _) hs' (Lib.hid hA) ⟨rfl, rfl⟩ hsu (Lib.hid (txt_repn 0 w (nm_size hk))) (Lib.hid (flo_repn 0 w (Flo.cop_lt _ _ _)))).mono ?_
      rintro e w' ⟨p', c', rfl, hb', hn⟩
      exact ⟨p', c', _, rfl, hb', hn, fun y _ => flo_repn 0 y (Flo.cop_lt _ _ _)⟩
set_option maxRecDepth 100000 in
set_option maxHeartbeats 4000000 in
theorem lrun_transfer {AS : List (ByteArray × Nat)} (hok : OkA AS) {p : Option Addr} {l c : Nat} {w : World} (hrl : RepL w (Rep w 2) p l c ((ledA AS).map (pairE 0))) {bl ol cl : Nat} {ka kd : ByteArray} (n0 : w.cell? ⟨bl, ol + 3, none⟩ = some (.string ka)) (n1 : w.cell? ⟨bl, ol + 5 + 3, none⟩ = some (.string kd)) {K3 I3 : Int} {F3 : Nat} {S3 : ByteArray} {q3 : Option Addr} {m3 d3 : Nat} (v0 : w.cell? ⟨bl, ol + 10, none⟩ = some (.int .i64 K3)) (v1 : w.cell? ⟨bl, ol + 10 + 1, none⟩ = some (.int .i64 I3)) (v2 : w.cell? ⟨bl, ol + 10 + 2, none⟩ = some (.float .f64 F3)) (v3 : w.cell? ⟨bl, ol + 10 + 3, none⟩ = some (.string S3)) (v4 : w.cell? ⟨bl, ol + 10 + 4, none⟩ = some (.slice q3 m3 d3)) (hna : nmV 3 ka = true) (hnd : nmV 3 kd = true) (hF : F3 < 2 ^ 64) (hi : okI I3) : Calls Try.prog 16 #[.slice p l c, .string { data := #[116, 114, 97, 110, 115, 102, 101, 114] }, .slice (some ⟨bl, ol, none⟩) 3 cl] w fun e w' => LW w e w' := by
  have hll := len_A hrl
  have hll' := hll
  rw [ledA_len] at hll
  have hl32 := hok.2.1
  by_cases h1 : finV K3 F3 = false ∨ signV K3 I3 F3 ≤ 0
  · exact (run_transfer 0 0 0 p l c bl ol cl ka kd K3 I3 F3 S3 q3 m3 d3 w n0 n1 v0 v1 v2 v3 v4 [] (nilT 0) 35 (Lib.hid (fun W hb => (transfer_amount 0 p l c ka kd K3 I3 F3 S3 q3 m3 d3 W hF h1).mono fun e w' h => lq_nil h))).mono fun e w' h => lw_of h (fun h0 => absurd h0 (by decide))
  have hf : finV K3 F3 = true := by cases h : finV K3 F3; exact absurd (Or.inl h) h1; rfl
  have hsg : 0 < signV K3 I3 F3 := by have : ¬ signV K3 I3 F3 ≤ 0 := fun h => h1 (Or.inr h); omega
  obtain ⟨hA, hG⟩ := amt_of hF hi hf hsg
  obtain ⟨a, fa, hsa⟩ := spot_of hok.1 ka
  have hsa' : Spot ((ledA AS).map (·.1)) ka a fa := by rw [ledA_names]; exact hsa
  obtain ⟨d, fd, hsd⟩ := spot_of hok.1 kd
  have hsd' : Spot ((ledA AS).map (·.1)) kd d fd := by rw [ledA_names]; exact hsd
  by_cases hn : fa = false ∨ fd = false
  · exact (run_transfer 0 0 0 p l c bl ol cl ka kd K3 I3 F3 S3 q3 m3 d3 w n0 n1 v0 v1 v2 v3 v4 [] (nilT 0) 30 (Lib.hid (fun W hb => (transfer_none 0 p l c a d ka kd fa fd K3 I3 F3 S3 q3 m3 d3 (asF K3 I3 F3) (ledA AS) w W (Lib.hid hb) (Lib.hid hrl) (by omega) (Lib.hid hA) hsa' hsd' hn).mono fun e w' h => lq_nil h))).mono fun e w' h => lw_of h (fun h0 => absurd h0 (by decide))
  obtain rfl : fa = true := by cases fa; exact absurd (Or.inl rfl) hn; rfl
  obtain rfl : fd = true := by cases fd; exact absurd (Or.inr rfl) hn; rfl
  obtain ⟨hal, FA, hka⟩ := at_found hsa
  obtain ⟨hdl, FD, hkd⟩ := at_found hsd
  have hal' : a < (ledA AS).length := by rw [ledA_len]; exact hal
  have hdl' : d < (ledA AS).length := by rw [ledA_len]; exact hdl
  have hFA : FA < 9218868437227405312 := by have h := hok.2.2 _ (List.getElem_mem hal); rw [hka] at h; exact h
  have hFD : FD < 9218868437227405312 := by have h := hok.2.2 _ (List.getElem_mem hdl); rw [hkd] at h; exact h
  have hea : (ledA AS)[a]'hal' = (ka, floT 0 FA) := ledA_at hal hka _
  have hed : (ledA AS)[d]'hdl' = (kd, floT 0 FD) := ledA_at hdl hkd _
  obtain ⟨b, off, rfl, _⟩ := hrl.2.2.2 (by omega)
  cases h2 : (FloatKind.f64.format.order FA (asF K3 I3 F3) == some .lt)
  · have hsub := sub_lt hFA hG (by rw [beq_eq_false_iff_ne] at h2; exact h2)
    by_cases h3 : a = d
    · subst h3
      obtain rfl : kd = ka := by rw [hka] at hkd; exact (Prod.mk.inj hkd).1.symm
      refine (run_transfer 0 0 l _ l c bl ol cl kd kd K3 I3 F3 S3 q3 m3 d3 w n0 n1 v0 v1 v2 v3 v4 ((ledA AS).map (pairE 0)) (floT 0 FA) 0 (Lib.hid (fun W hb => ?_))).mono fun e w' h => lw_of h (fun _ => ⟨(small_cln (small_flo hFA)).2, AS, hok, rfl⟩)
      refine (transfer_same 0 b off l c a kd K3 I3 F3 S3 q3 m3 d3 (asF K3 I3 F3) FA (ledA AS) (floT 0 FA) W W (Lib.hid br) (Lib.hid (repL_acc hb hrl)) (by omega) (Lib.hid hA) hal' hll' hea hsa' ⟨rfl, rfl⟩ h2).mono ?_
      rintro e w' ⟨u, rfl, hb', hu⟩
      obtain ⟨K', I', F', S', q', m', d', rfl, _⟩ := rep_shape hu
      obtain ⟨rfl, rfl, rfl, rfl, hi', hF'⟩ := leaf_is hu
      obtain ⟨p', l', c', hv', _, _, _, _, hl', hlc', hcm', _⟩ := hu
      injection hv' with hv'
      simp only [Array.mk.injEq, List.cons.injEq, and_true] at hv'
      obtain ⟨_, _, _, _, e5⟩ := hv'
      injection e5 with e6 e7 e8
      subst e6 e7 e8
      exact ⟨_, _, _, rfl, hb', fun y hy _ => repL_acc hy hrl, fun y hy => ⟨q', m', d', rfl, (by decide : okI 2), (by decide : okI 0), hF', (by decide : (⟨#[]⟩ : ByteArray).size ≤ maxLen), hl', hlc', hcm', fun h0 => absurd h0 (by rw [← hl']; exact Nat.lt_irrefl _)⟩⟩
    · cases h4 : finV 2 (Flo.cop .add FD (asF K3 I3 F3))
      · exact (run_transfer 0 0 0 _ l c bl ol cl ka kd K3 I3 F3 S3 q3 m3 d3 w n0 n1 v0 v1 v2 v3 v4 [] (nilT 0) 35 (Lib.hid (fun W hb => (transfer_sum 0 b off l c a d ka kd K3 I3 F3 S3 q3 m3 d3 (asF K3 I3 F3) FA FD (ledA AS) (floT 0 FA) (floT 0 FD) w W (Lib.hid hb) (Lib.hid hrl) (by omega) (Lib.hid hA) hal' hll' hea hsa' ⟨rfl, rfl⟩ h2 hdl' hed hsd' ⟨rfl, rfl⟩ h3 h4).mono fun e w' h => lq_nil h))).mono fun e w' h => lw_of h (fun h0 => absurd h0 (by decide))
      · have hadd : Flo.cop .add FD (asF K3 I3 F3) < 9218868437227405312 := fin_le (cop_add (Nat.le_of_lt hFD) (Nat.le_of_lt hG)).1 h4
        have hok1 := okA_set hok hal (k := ka) (by rw [hka]) hsub
        have hok2 := okA_set hok1 (i := d) (k := kd) (by rw [List.length_set]; exact hdl) (by rw [List.getElem_set_ne h3, hkd]) hadd
        have hT : (((ledA AS).set a (ka, floT 0 (Flo.cop .sub FA (asF K3 I3 F3)))).set d (kd, floT 0 (Flo.cop .add FD (asF K3 I3 F3)))).map (pairE 0) = (ledA ((AS.set a (ka, Flo.cop .sub FA (asF K3 I3 F3))).set d (kd, Flo.cop .add FD (asF K3 I3 F3)))).map (pairE 0) := by
          rw [set_ledA, set_ledA]
        refine (run_transfer 0 0 l _ l c bl ol cl ka kd K3 I3 F3 S3 q3 m3 d3 w n0 n1 v0 v1 v2 v3 v4 ((((ledA AS).set a (ka, floT 0 (Flo.cop .sub FA (asF K3 I3 F3)))).set d (kd, floT 0 (Flo.cop .add FD (asF K3 I3 F3)))).map (pairE 0)) (floT 0 (Flo.cop .sub FA (asF K3 I3 F3))) 0 (Lib.hid (fun W hb => ?_))).mono fun e w' h => lw_of h (fun _ => ⟨(small_cln (small_flo hsub)).2, _, hok2, hT⟩)
        refine (transfer_ok 0 b off l c a d ka kd K3 I3 F3 S3 q3 m3 d3 (asF K3 I3 F3) FA FD (ledA AS) (floT 0 FA) (floT 0 FD) w W (Lib.hid hb) (Lib.hid hrl) (by omega) (Lib.hid hA) hal' hll' hea hsa' ⟨rfl, rfl⟩ h2 hdl' hed hsd' ⟨rfl, rfl⟩ h3 h4 (Lib.hid ⟨nm_size hna, nm_size hnd⟩)).mono ?_
        rintro e w' ⟨p', c', rfl, hb', hn⟩
        exact ⟨p', c', _, rfl, hb', hn, fun y _ => flo_repn 0 y (Flo.cop_lt _ _ _)⟩
  · exact (run_transfer 0 0 0 _ l c bl ol cl ka kd K3 I3 F3 S3 q3 m3 d3 w n0 n1 v0 v1 v2 v3 v4 [] (nilT 0) 36 (Lib.hid (fun W hb => (transfer_funds 0 b off l c a d ka kd K3 I3 F3 S3 q3 m3 d3 (asF K3 I3 F3) FA FD (ledA AS) (floT 0 FA) (floT 0 FD) w W (Lib.hid hb) (Lib.hid hrl) (by omega) (Lib.hid hA) hal' hll' hea hsa' ⟨rfl, rfl⟩ h2 hdl' hed hsd' ⟨rfl, rfl⟩).mono fun e w' h => lq_nil h))).mono fun e w' h => lw_of h (fun h0 => absurd h0 (by decide))
set_option maxRecDepth 100000 in
set_option maxHeartbeats 4000000 in
theorem lrun_total {AS : List (ByteArray × Nat)} (hok : OkA AS) {p : Option Addr} {l c : Nat} {w : World} (hrl : RepL w (Rep w 2) p l c ((ledA AS).map (pairE 0))) {pl : Option Addr} {cl : Nat} : Calls Try.prog 16 #[.slice p l c, .string { data := #[116, 111, 116, 97, 108] }, .slice pl 0 cl] w fun e w' => LW w e w' := by
  have hll := len_A hrl
  have hll' := hll
  rw [ledA_len] at hll
  have hl32 := hok.2.1
  have hsm := small_le (sum_le hok.2.2)
  refine (run_total 0 0 p l c pl cl w _ (Lib.hid hrl) (floT 0 (sumL (ledA AS))) (Lib.hid (fun W hb => ?_))).mono fun e w' h => lw_of h (fun _ => ⟨(small_cln hsm).2, AS, hok, rfl⟩)
  refine (total_any 0 p l c (ledA AS) w W (Lib.hid hb) (Lib.hid hrl) (by omega) (okA_L hok).2.2).mono ?_
  rintro e w' ⟨rfl, hb'⟩
  exact ⟨_, rfl, hb', fun y _ _ => flo_repn 0 y (by have := sum_le hok.2.2; omega)⟩
set_option maxRecDepth 100000 in
set_option maxHeartbeats 4000000 in
theorem lrun_names {AS : List (ByteArray × Nat)} (hok : OkA AS) {p : Option Addr} {l c : Nat} {w : World} (hrl : RepL w (Rep w 2) p l c ((ledA AS).map (pairE 0))) {pl : Option Addr} {cl : Nat} : Calls Try.prog 16 #[.slice p l c, .string { data := #[110, 97, 109, 101, 115] }, .slice pl 0 cl] w fun e w' => LW w e w' := by
  have hll := len_A hrl
  have hll' := hll
  rw [ledA_len] at hll
  have hl32 := hok.2.1
  have hnc := names_cln hok.1.1 (by rw [List.length_map]; exact hl32)
  refine (run_names 0 1 p l c pl cl w _ (Lib.hid hrl) (namesT (AS.map (·.1))) (Lib.hid (fun W hb => ?_))).mono fun e w' h => lw_of h (fun _ => ⟨hnc.1, AS, hok, rfl⟩)
  refine (lnames_any 0 p l c (ledA AS) w W hb (repL_at hb hrl) (by omega)).mono ?_
  rintro e w' ⟨p', c', rfl, hb', hn⟩
  refine ⟨_, rfl, hb', fun y hy hst => ?_⟩
  have h1 := list_rep (repL_mono (fun v X hv => rep_keep hy _ _ _ hv) (hn y hst))
  have e : (ledA AS).map (fun e => nameV 0 e.1) = (AS.map (·.1)).map (nameV 0) := by unfold ledA; rw [List.map_map, List.map_map]; rfl
  rw [e] at h1
  have hl2 : l = (AS.map (·.1)).length := by rw [List.length_map]; omega
  exact h1
end Num
end Go.Proofs.Yteodljkcbddehaa
/-
  Lists of arguments; the example of chapter 12.
-/
namespace Go.Proofs.Yteodljkcbddehaa
open Go.RowKit
namespace Num
open Ints
set_option linter.unusedSimpArgs false
set_option linter.unusedVariables false
def LA (g : Nat) (NL : List (VT 1)) (x : World) : Prop := RepL x (Rep x 1) (some ⟨g, 0, none⟩) NL.length NL.length NL
theorem la_step {g : Nat} {NL : List (VT 1)} {x y : World} (h : LA g NL x) (hb : Below x.heap.size x y) : LA g NL y := repL_keep hb (rep_keep hb _) h
theorem leaf1 (x : World) {K I : Int} {F : Nat} {Z : ByteArray} (hK : okI K) (hI : okI I) (hF : F < 2 ^ 64) (hZ : Z.size ≤ maxLen) : Rep x 1 (.agg #[.int .i64 K, .int .i64 I, .float .f64 F, .string Z, .slice none 0 0]) (K, I, F, Z, []) :=
  ⟨none, 0, 0, rfl, hK, hI, hF, hZ, rfl, Nat.le_refl _, by unfold maxLen; omega, fun h => absurd h (Nat.lt_irrefl _)⟩
theorem row3_rep {x : World} {g : Nat} {u0 u1 u2 u3 u4 v0 v1 v2 v3 v4 z0 z1 z2 z3 z4 : Value} {A B C : VT 1} (h : x.heap[g]? = some (.cells #[u0, u1, u2, u3, u4, v0, v1, v2, v3, v4, z0, z1, z2, z3, z4] 27 (0, 0))) (ha : Rep x 1 (.agg #[u0, u1, u2, u3, u4]) A) (hb : Rep x 1 (.agg #[v0, v1, v2, v3, v4]) B) (hc : Rep x 1 (.agg #[z0, z1, z2, z3, z4]) C) :
    RepL x (Rep x 1) (some ⟨g, 0, none⟩) 3 3 [A, B, C] := by
  refine ⟨rfl, Nat.le_refl _, by unfold maxLen; omega, fun _ => ⟨g, 0, rfl, fun i hi => ?_⟩⟩
  have hi' : i = 0 ∨ i = 1 ∨ i = 2 := by simp at hi; omega
  rcases hi' with rfl | rfl | rfl
  · exact ⟨_, _, _, _, _, rc h 0, rc h 1, rc h 2, rc h 3, rc h 4, ha⟩
  · exact ⟨_, _, _, _, _, rc h 5, rc h 6, rc h 7, rc h 8, rc h 9, hb⟩
  · exact ⟨_, _, _, _, _, rc h 10, rc h 11, rc h 12, rc h 13, rc h 14, hc⟩
theorem la1_new {g : Nat} {x : World} {k : ByteArray} (hg : g = x.heap.size) (hk : k.size ≤ maxLen) : LA g [nameV 0 k] (x.alloc (.cells #[.int .i64 3, .int .i64 0, .float .f64 0, .string k, .slice none 0 0] 27)) := by
  subst hg
  exact row1_rep (row_alloc _ _ _) (leaf1 _ (by decide) (by decide) (by decide) hk)
theorem la2_new {g : Nat} {x : World} {k : ByteArray} {K I : Int} {F : Nat} (hg : g = x.heap.size) (hk : k.size ≤ maxLen) (hK : okI K) (hI : okI I) (hF : F < 2 ^ 64) : LA g [nameV 0 k, (K, I, F, ⟨#[]⟩, [])] (x.alloc (.cells #[.int .i64 3, .int .i64 0, .float .f64 0, .string k, .slice none 0 0, .int .i64 K, .int .i64 I, .float .f64 F, .string ⟨#[]⟩, .slice none 0 0] 27)) := by
  subst hg
  exact row2_rep (row_alloc _ _ _) (leaf1 _ (by decide) (by decide) (by decide) hk) (leaf1 _ hK hI hF (by decide))
theorem la3_new {g : Nat} {x : World} {k k2 : ByteArray} {K I : Int} {F : Nat} (hg : g = x.heap.size) (hk : k.size ≤ maxLen) (hk2 : k2.size ≤ maxLen) (hK : okI K) (hI : okI I) (hF : F < 2 ^ 64) : LA g [nameV 0 k, nameV 0 k2, (K, I, F, ⟨#[]⟩, [])] (x.alloc (.cells #[.int .i64 3, .int .i64 0, .float .f64 0, .string k, .slice none 0 0, .int .i64 3, .int .i64 0, .float .f64 0, .string k2, .slice none 0 0, .int .i64 K, .int .i64 I, .float .f64 F, .string ⟨#[]⟩, .slice none 0 0] 27)) := by
  subst hg
  exact row3_rep (row_alloc _ _ _) (leaf1 _ (by decide) (by decide) (by decide) hk) (leaf1 _ (by decide) (by decide) (by decide) hk2) (leaf1 _ hK hI hF (by decide))
theorem nil_led (x : World) : Rep x 3 (.agg #[.int .i64 4, .int .i64 0, .float .f64 0, .string ⟨#[]⟩, .slice none 0 0]) (tableT 0 (ledA [])) := list_rep ⟨rfl, Nat.le_refl _, Nat.zero_le _, fun h => absurd h (Nat.lt_irrefl _)⟩
def FBC (w : World) (sb : Nat) (qs : Option Addr) (ms ds : Nat) (vb : Nat) (v0 v1 v2 v3 v4 : Value) (z : World) : Prop := CS z sb (.int .i64 4) (.int .i64 0) (.float .f64 0) (.string ⟨#[]⟩) (.slice qs ms ds) ∧ Below w.heap.size w z ∧ CS z vb v0 v1 v2 v3 v4
section
variable {w x y : World} {sb : Nat} {qs : Option Addr} {ms ds : Nat} {vb : Nat} {v0 v1 v2 v3 v4 : Value}
theorem fbc_step (h : FBC w sb qs ms ds vb v0 v1 v2 v3 v4 x) (hb : Below x.heap.size x y) : FBC w sb qs ms ds vb v0 v1 v2 v3 v4 y := ⟨cs_step h.1 hb, bel_step h.2.1 hb, cs_step h.2.2 hb⟩
theorem fbc_drew (h : FBC w sb qs ms ds vb v0 v1 v2 v3 v4 x) : FBC w sb qs ms ds vb v0 v1 v2 v3 v4 x.drew := fbc_step h (Below.drew br)
theorem fbc_set {g : Nat} {u0 u1 u2 u3 u4 : Value} (h : FBC w sb qs ms ds vb v0 v1 v2 v3 v4 x) (h1 : sb ≠ g) (h3 : vb ≠ g) (h2 : w.heap.size ≤ g) : FBC w sb qs ms ds vb v0 v1 v2 v3 v4 (set5 x g 0 u0 u1 u2 u3 u4) := ⟨cs_other h.1 h1, set5_below h.2.1 h2 _ _ _ _ _, cs_other h.2.2 h3⟩
end
theorem led_box {w : World} {S : Nat → Prop} {K I : Int} {F : Nat} {Z : ByteArray} {q : Option Addr} {m d : Nat} {ES : List (ByteArray × VT 1)} (h : RepS S w 3 (.agg #[.int .i64 K, .int .i64 I, .float .f64 F, .string Z, .slice q m d]) (tableT 0 ES)) : K = 4 ∧ I = 0 ∧ F = 0 ∧ Z = ⟨#[]⟩ := by
  have h' := repS_rep _ _ _ h
  obtain ⟨p, l, c, hv, _⟩ := h'
  injection hv with hv
  simp only [Array.mk.injEq, List.cons.injEq, and_true] at hv
  obtain ⟨e1, e2, e3, e4, _⟩ := hv
  injection e1 with _ e1
  injection e2 with _ e2
  injection e3 with _ e3
  injection e4 with e4
  exact ⟨e1, e2, e3, e4⟩
theorem flo_box {w : World} {S : Nat → Prop} {K I : Int} {F : Nat} {Z : ByteArray} {q : Option Addr} {m d : Nat} {G : Nat} (h : RepS S w 1 (.agg #[.int .i64 K, .int .i64 I, .float .f64 F, .string Z, .slice q m d]) (floT 0 G)) : K = 2 ∧ I = 0 ∧ F = G ∧ Z = ⟨#[]⟩ ∧ m = 0 := by
  have h' := repS_rep _ _ _ h
  obtain ⟨p, l, c, hv, _, _, _, _, hl, _⟩ := h'
  injection hv with hv
  simp only [Array.mk.injEq, List.cons.injEq, and_true] at hv
  obtain ⟨e1, e2, e3, e4, e5⟩ := hv
  injection e1 with _ e1
  injection e2 with _ e2
  injection e3 with _ e3
  injection e4 with e4
  injection e5 with _ e6 _
  exact ⟨e1, e2, e3, e4, e6.trans hl.symm⟩
theorem nm_a : nmV 3 ⟨#[97]⟩ = true := by decide
theorem okA_nil : OkA [] := ⟨⟨fun s h => absurd h List.not_mem_nil, fun i j hi => absurd hi (Nat.not_lt_zero _)⟩, by decide, fun e h => absurd h List.not_mem_nil⟩
theorem okA_one {k : ByteArray} {F : Nat} (hk : nmV 3 k = true) (hF : F < 9218868437227405312) : OkA [(k, F)] := ⟨⟨fun s h => by rw [List.mem_singleton.1 h]; exact hk, fun i j hi hj hij => by have h1 : i < 1 := hi; have h2 : j < 1 := hj; omega⟩, (by show (1 : Nat) ≤ 32; omega), fun e h => by rw [List.mem_singleton.1 h]; exact hF⟩
def PutL2 (w wr : World) (sb : Nat) (qs : Option Addr) (ms ds : Nat) (TT : VT 3) (UU : VT 1) (z : Int) (sA sB sE : Value) (wx : World) : Prop := ∃ (gA gB : Nat) (Kt It : Int) (Ft : Nat) (Zt : ByteArray) (qt : Option Addr) (mt dt : Nat) (Kv Iv : Int) (Fv : Nat) (Zv : ByteArray) (qv : Option Addr) (mv dv : Nat), sA = .pointer (some ⟨gA, 0, none⟩) ∧ sB = .pointer (some ⟨gB, 0, none⟩) ∧ sE = .int .i64 z ∧ CS wx gA (.int .i64 Kt) (.int .i64 It) (.float .f64 Ft) (.string Zt) (.slice qt mt dt) ∧ CS wx gB (.int .i64 Kv) (.int .i64 Iv) (.float .f64 Fv) (.string Zv) (.slice qv mv dv) ∧ FB w sb qs ms ds wx ∧ Below wr.heap.size wr wx ∧ RepS (fun b => wr.heap.size ≤ b ∧ b ≠ gA ∧ b ≠ gB) wx 3 (.agg #[.int .i64 Kt, .int .i64 It, .float .f64 Ft, .string Zt, .slice qt mt dt]) (TT) ∧ RepS (fun b => wr.heap.size ≤ b ∧ b ≠ gA ∧ b ≠ gB) wx 1 (.agg #[.int .i64 Kv, .int .i64 Iv, .float .f64 Fv, .string Zv, .slice qv mv dv]) (UU) ∧ wr.heap.size ≤ gA ∧ wr.heap.size ≤ gB
def PutL3 (w wr : World) (sb : Nat) (qs : Option Addr) (ms ds : Nat) (vb : Nat) (qx : Option Addr) (dx : Nat) (TT : VT 3) (UU : VT 1) (z : Int) (sA sB sE : Value) (wx : World) : Prop := ∃ (gA gB : Nat) (Kt It : Int) (Ft : Nat) (Zt : ByteArray) (qt : Option Addr) (mt dt : Nat) (Kv Iv : Int) (Fv : Nat) (Zv : ByteArray) (qv : Option Addr) (mv dv : Nat), sA = .pointer (some ⟨gA, 0, none⟩) ∧ sB = .pointer (some ⟨gB, 0, none⟩) ∧ sE = .int .i64 z ∧ CS wx gA (.int .i64 Kt) (.int .i64 It) (.float .f64 Ft) (.string Zt) (.slice qt mt dt) ∧ CS wx gB (.int .i64 Kv) (.int .i64 Iv) (.float .f64 Fv) (.string Zv) (.slice qv mv dv) ∧ FBC w sb qs ms ds vb (.int .i64 2) (.int .i64 0) (.float .f64 4611686018427387904) (.string ⟨#[]⟩) (.slice qx 0 dx) wx ∧ Below wr.heap.size wr wx ∧ RepS (fun b => wr.heap.size ≤ b ∧ b ≠ gA ∧ b ≠ gB) wx 3 (.agg #[.int .i64 Kt, .int .i64 It, .float .f64 Ft, .string Zt, .slice qt mt dt]) (TT) ∧ RepS (fun b => wr.heap.size ≤ b ∧ b ≠ gA ∧ b ≠ gB) wx 1 (.agg #[.int .i64 Kv, .int .i64 Iv, .float .f64 Fv, .string Zv, .slice qv mv dv]) (UU) ∧ wr.heap.size ≤ gA ∧ wr.heap.size ≤ gB
theorem flo_ref3 (w : World) : Calls Try.prog 13 #[.float .f64 4613937818241073152] w fun e w' => e = .returned (.agg #[.int .i64 2, .int .i64 0, .float .f64 4613937818241073152, .string ⟨#[]⟩, .slice none 0 0]) ∧ Below w.heap.size w w' := by
  have h := float_ref_any 4613937818241073152 w
  rw [show Flo.canon 4613937818241073152 = 4613937818241073152 by decide +kernel] at h
  exact h
end Num
end Go.Proofs.Yteodljkcbddehaa
