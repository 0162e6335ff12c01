/-
  Package queue: Do, its roads.
-/
import Derived.Test.YtodjnhhnjncgdaaEQ
import Derived.Test.YtodjnhhnjncgdaaKV
import Derived.Test.YtodjnhhnjncgdaaHI
import Derived.Test.YtodjnhhnjncgdaaVCheck
import Derived.Deep.RegionHeld3
import Derived.RegionTactic
import Derived.Deep.DeepCutAuto
namespace Go.Proofs.Ytodjnhhnjncgdaa
open Go.RowKit
namespace Num
open Ints
set_option linter.unusedSimpArgs false
set_option linter.unusedVariables false
set_option maxRecDepth 100000 in
set_option maxHeartbeats 4000000 in
theorem qdo_run (N m : Nat) (p : Option Addr) (l c : Nat) (ms : ByteArray) (pl : Option Addr) (ll cl : Nat) (w : World) (HR : Hid (∀ W, Below w.heap.size w W → Calls Try.prog 14 #[.agg #[.int .i64 4, .int .i64 0, .float .f64 0, .string ⟨#[]⟩, .slice p l c]] W fun e w' => e = .returned (.bool true) ∧ Below W.heap.size W w'))
    (HA : Hid (∀ W, Below w.heap.size w W → Calls Try.prog 23 #[.string { data := #[113, 117, 101, 117, 101] }, .string ms, .slice pl ll cl] W fun e w' => e = .returned (.int .i64 0) ∧ Below W.heap.size W w'))
    (T : VT N) (U : VT m) (HU : Hid (∀ W, Below w.heap.size w W → Calls Try.prog 24 #[.agg #[.int .i64 4, .int .i64 0, .float .f64 0, .string ⟨#[]⟩, .slice p l c], .string ms, .slice pl ll cl] W fun e w' => RunQ W N m T U 0 e w')) (GT : Cln N T) (GU : Cln m U) :
    Calls Try.prog 11 #[.agg #[.int .i64 4, .int .i64 0, .float .f64 0, .string ⟨#[]⟩, .slice p l c], .string ms, .slice pl ll cl] w fun e w' => DoQ w N m (cleanT N T) (cleanT m U) 0 e w' := by
  obtain ⟨oa, hoa⟩ : ∃ o, Obj.cells #[.int .i64 4, .int .i64 0, .float .f64 0, .string ⟨#[]⟩, .slice p l c] 27 = o := ⟨_, rfl⟩
  obtain ⟨oz, hoz⟩ : ∃ o, Obj.cells #[.int .i64 0, .int .i64 0, .float .f64 0, .string ⟨#[]⟩, .slice none 0 0] 27 = o := ⟨_, rfl⟩
  have hB : Below w.heap.size w (((w.alloc oa).alloc oz).alloc oz) := bel_alloc (bel_alloc (bel_alloc (Below.refl w.heap.size w) oa) oz) oz
  have r0 := row_alloc_step (row_alloc_step (row_alloc w #[.int .i64 4, .int .i64 0, .float .f64 0, .string ⟨#[]⟩, .slice p l c] 27) oz) oz
  rw [hoa] at r0
  have r1 := row_alloc_step (row_alloc (w.alloc oa) #[.int .i64 0, .int .i64 0, .float .f64 0, .string ⟨#[]⟩, .slice none 0 0] 27) oz
  rw [hoz] at r1
  have r2 := row_alloc ((w.alloc oa).alloc oz) #[.int .i64 0, .int .i64 0, .float .f64 0, .string ⟨#[]⟩, .slice none 0 0] 27
  rw [hoz] at r2
  simp only [World.size_alloc] at r0 r1 r2
  have HB := Lib.hid hB
  subst hoa hoz
  have HRA := Lib.hid r0
  have HR6 := Lib.hid r1
  have HR7 := Lib.hid r2
  clear r0 r1 r2 hB
  go_enter Try.func11, Try.ntmps11
  go_wp2_with fail
  go_at_call 14; refine (HR.out _ HB.out).mono ?_; rintro e w1 ⟨rfl, hb1⟩
  have HB1 := Lib.hid (bel_step HB.out hb1)
  have HRA1 := Lib.hid (row_step HRA.out hb1)
  have HR61 := Lib.hid (row_step HR6.out hb1)
  have HR71 := Lib.hid (row_step HR7.out hb1)
  clear hb1 HB HRA HR6 HR7 HR
  go_wp2_with fail
  go_at_call 23; refine (HA.out _ HB1.out).mono ?_; rintro e w2 ⟨rfl, hb2⟩
  have HB2 := Lib.hid (bel_step HB1.out hb2)
  have xa := row_step HRA1.out hb2
  have HR62 := Lib.hid (row_step HR61.out hb2)
  have HR72 := Lib.hid (row_step HR71.out hb2)
  have a0 := row_cell xa 0; have a1 := row_cell xa 1; have a2 := row_cell xa 2; have a3 := row_cell xa 3; have a4 := row_cell xa 4
  simp only [List.getElem?_toArray, List.getElem?_cons_zero, List.getElem?_cons_succ] at a0 a1 a2 a3 a4
  clear hb2 HB1 HRA1 HR61 HR71 HA xa
  go_wp2_with fail
  go_at_call 24; refine (HU.out _ HB2.out).mono ?_; rintro e w3 ⟨tt, uu, rfl, hb3, ht3, hu3⟩
  obtain ⟨Kt, It, Ft, St, qt, mt, dt, rfl, _⟩ := rep_shape ht3
  obtain ⟨Ku, Iu, Fu, Su, qu, mu, du, rfl, _⟩ := rep_shape hu3
  have hz3 : w.heap.size + 1 + 1 < w3.heap.size := row_lt (row_step HR72.out hb3)
  have HP9 := Lib.hid (show DQ Kt It Ft St qt mt dt Ku Iu Fu Su qu mu du w3.heap.size (w3.heap.size + 1) (.int .i64 0) (.int .i64 0) (.float .f64 0) (.string ⟨#[]⟩) (.slice none 0 0) (.int .i64 0) (.int .i64 0) (.float .f64 0) (.string ⟨#[]⟩) (.slice none 0 0) w ((w3.alloc (.cells #[.int .i64 Kt, .int .i64 It, .float .f64 Ft, .string St, .slice qt mt dt] 27)).alloc (.cells #[.int .i64 Ku, .int .i64 Iu, .float .f64 Fu, .string Su, .slice qu mu du] 27)) from ⟨row_cell (row_alloc_step (row_alloc w3 #[.int .i64 Kt, .int .i64 It, .float .f64 Ft, .string St, .slice qt mt dt] 27) (.cells #[.int .i64 Ku, .int .i64 Iu, .float .f64 Fu, .string Su, .slice qu mu du] 27)) 0, row_cell (row_alloc_step (row_alloc w3 #[.int .i64 Kt, .int .i64 It, .float .f64 Ft, .string St, .slice qt mt dt] 27) (.cells #[.int .i64 Ku, .int .i64 Iu, .float .f64 Fu, .string Su, .slice qu mu du] 27)) 1, row_cell (row_alloc_step (row_alloc w3 #[.int .i64 Kt, .int .i64 It, .float .f64 Ft, .string St, .slice qt mt dt] 27) (.cells #[.int .i64 Ku, .int .i64 Iu, .float .f64 Fu, .string Su, .slice qu mu du] 27)) 2, row_cell (row_alloc_step (row_alloc w3 #[.int .i64 Kt, .int .i64 It, .float .f64 Ft, .string St, .slice qt mt dt] 27) (.cells #[.int .i64 Ku, .int .i64 Iu, .float .f64 Fu, .string Su, .slice qu mu du] 27)) 3, row_cell (row_alloc_step (row_alloc w3 #[.int .i64 Kt, .int .i64 It, .float .f64 Ft, .string St, .slice qt mt dt] 27) (.cells #[.int .i64 Ku, .int .i64 Iu, .float .f64 Fu, .string Su, .slice qu mu du] 27)) 4, (show _ from (by have h := row_alloc (w3.alloc (.cells #[.int .i64 Kt, .int .i64 It, .float .f64 Ft, .string St, .slice qt mt dt] 27)) #[.int .i64 Ku, .int .i64 Iu, .float .f64 Fu, .string Su, .slice qu mu du] 27; rw [World.size_alloc] at h; exact row_cell h 0)), (show _ from (by have h := row_alloc (w3.alloc (.cells #[.int .i64 Kt, .int .i64 It, .float .f64 Ft, .string St, .slice qt mt dt] 27)) #[.int .i64 Ku, .int .i64 Iu, .float .f64 Fu, .string Su, .slice qu mu du] 27; rw [World.size_alloc] at h; exact row_cell h 1)), (show _ from (by have h := row_alloc (w3.alloc (.cells #[.int .i64 Kt, .int .i64 It, .float .f64 Ft, .string St, .slice qt mt dt] 27)) #[.int .i64 Ku, .int .i64 Iu, .float .f64 Fu, .string Su, .slice qu mu du] 27; rw [World.size_alloc] at h; exact row_cell h 2)), (show _ from (by have h := row_alloc (w3.alloc (.cells #[.int .i64 Kt, .int .i64 It, .float .f64 Ft, .string St, .slice qt mt dt] 27)) #[.int .i64 Ku, .int .i64 Iu, .float .f64 Fu, .string Su, .slice qu mu du] 27; rw [World.size_alloc] at h; exact row_cell h 3)), (show _ from (by have h := row_alloc (w3.alloc (.cells #[.int .i64 Kt, .int .i64 It, .float .f64 Ft, .string St, .slice qt mt dt] 27)) #[.int .i64 Ku, .int .i64 Iu, .float .f64 Fu, .string Su, .slice qu mu du] 27; rw [World.size_alloc] at h; exact row_cell h 4)), row_cell (row_step (row_step HR62.out hb3) (bel_alloc (bel_alloc (Below.refl w3.heap.size w3) (.cells #[.int .i64 Kt, .int .i64 It, .float .f64 Ft, .string St, .slice qt mt dt] 27)) (.cells #[.int .i64 Ku, .int .i64 Iu, .float .f64 Fu, .string Su, .slice qu mu du] 27))) 0, row_cell (row_step (row_step HR62.out hb3) (bel_alloc (bel_alloc (Below.refl w3.heap.size w3) (.cells #[.int .i64 Kt, .int .i64 It, .float .f64 Ft, .string St, .slice qt mt dt] 27)) (.cells #[.int .i64 Ku, .int .i64 Iu, .float .f64 Fu, .string Su, .slice qu mu du] 27))) 1, row_cell (row_step (row_step HR62.out hb3) (bel_alloc (bel_alloc (Below.refl w3.heap.size w3) (.cells #[.int .i64 Kt, .int .i64 It, .float .f64 Ft, .string St, .slice qt mt dt] 27)) (.cells #[.int .i64 Ku, .int .i64 Iu, .float .f64 Fu, .string Su, .slice qu mu du] 27))) 2, row_cell (row_step (row_step HR62.out hb3) (bel_alloc (bel_alloc (Below.refl w3.heap.size w3) (.cells #[.int .i64 Kt, .int .i64 It, .float .f64 Ft, .string St, .slice qt mt dt] 27)) (.cells #[.int .i64 Ku, .int .i64 Iu, .float .f64 Fu, .string Su, .slice qu mu du] 27))) 3, row_cell (row_step (row_step HR62.out hb3) (bel_alloc (bel_alloc (Below.refl w3.heap.size w3) (.cells #[.int .i64 Kt, .int .i64 It, .float .f64 Ft, .string St, .slice qt mt dt] 27)) (.cells #[.int .i64 Ku, .int .i64 Iu, .float .f64 Fu, .string Su, .slice qu mu du] 27))) 4, row_cell (row_step (row_step HR72.out hb3) (bel_alloc (bel_alloc (Below.refl w3.heap.size w3) (.cells #[.int .i64 Kt, .int .i64 It, .float .f64 Ft, .string St, .slice qt mt dt] 27)) (.cells #[.int .i64 Ku, .int .i64 Iu, .float .f64 Fu, .string Su, .slice qu mu du] 27))) 0, row_cell (row_step (row_step HR72.out hb3) (bel_alloc (bel_alloc (Below.refl w3.heap.size w3) (.cells #[.int .i64 Kt, .int .i64 It, .float .f64 Ft, .string St, .slice qt mt dt] 27)) (.cells #[.int .i64 Ku, .int .i64 Iu, .float .f64 Fu, .string Su, .slice qu mu du] 27))) 1, row_cell (row_step (row_step HR72.out hb3) (bel_alloc (bel_alloc (Below.refl w3.heap.size w3) (.cells #[.int .i64 Kt, .int .i64 It, .float .f64 Ft, .string St, .slice qt mt dt] 27)) (.cells #[.int .i64 Ku, .int .i64 Iu, .float .f64 Fu, .string Su, .slice qu mu du] 27))) 2, row_cell (row_step (row_step HR72.out hb3) (bel_alloc (bel_alloc (Below.refl w3.heap.size w3) (.cells #[.int .i64 Kt, .int .i64 It, .float .f64 Ft, .string St, .slice qt mt dt] 27)) (.cells #[.int .i64 Ku, .int .i64 Iu, .float .f64 Fu, .string Su, .slice qu mu du] 27))) 3, row_cell (row_step (row_step HR72.out hb3) (bel_alloc (bel_alloc (Below.refl w3.heap.size w3) (.cells #[.int .i64 Kt, .int .i64 It, .float .f64 Ft, .string St, .slice qt mt dt] 27)) (.cells #[.int .i64 Ku, .int .i64 Iu, .float .f64 Fu, .string Su, .slice qu mu du] 27))) 4, bel_step (bel_step HB2.out hb3) (bel_alloc (bel_alloc (Below.refl w3.heap.size w3) (.cells #[.int .i64 Kt, .int .i64 It, .float .f64 Ft, .string St, .slice qt mt dt] 27)) (.cells #[.int .i64 Ku, .int .i64 Iu, .float .f64 Fu, .string Su, .slice qu mu du] 27)), fun o => row_frz (row_step (row_step HR62.out hb3) (bel_alloc (bel_alloc (Below.refl w3.heap.size w3) (.cells #[.int .i64 Kt, .int .i64 It, .float .f64 Ft, .string St, .slice qt mt dt] 27)) (.cells #[.int .i64 Ku, .int .i64 Iu, .float .f64 Fu, .string Su, .slice qu mu du] 27))) o, fun o => row_frz (row_step (row_step HR72.out hb3) (bel_alloc (bel_alloc (Below.refl w3.heap.size w3) (.cells #[.int .i64 Kt, .int .i64 It, .float .f64 Ft, .string St, .slice qt mt dt] 27)) (.cells #[.int .i64 Ku, .int .i64 Iu, .float .f64 Fu, .string Su, .slice qu mu du] 27))) o⟩)
  have HT9 := Lib.hid (rep_keep (bel_alloc (bel_alloc (Below.refl w3.heap.size w3) (.cells #[.int .i64 Kt, .int .i64 It, .float .f64 Ft, .string St, .slice qt mt dt] 27)) (.cells #[.int .i64 Ku, .int .i64 Iu, .float .f64 Fu, .string Su, .slice qu mu du] 27)) _ _ _ ht3)
  have HU9 := Lib.hid (rep_keep (bel_alloc (bel_alloc (Below.refl w3.heap.size w3) (.cells #[.int .i64 Kt, .int .i64 It, .float .f64 Ft, .string St, .slice qt mt dt] 27)) (.cells #[.int .i64 Ku, .int .i64 Iu, .float .f64 Fu, .string Su, .slice qu mu du] 27)) _ _ _ hu3)
  have hzx : (((w3.alloc (.cells #[.int .i64 Kt, .int .i64 It, .float .f64 Ft, .string St, .slice qt mt dt] 27)).alloc (.cells #[.int .i64 Ku, .int .i64 Iu, .float .f64 Fu, .string Su, .slice qu mu du] 27))).heap.size = w3.heap.size + 1 + 1 := by simp only [World.size_alloc]
  have hlt1 : w.heap.size + 1 + 1 < w3.heap.size := hz3
  have hlt2 : w.heap.size + 1 + 1 < w3.heap.size + 1 := by omega
  clear hb3 ht3 hu3 HB2 HR62 HR72 HU a0 a1 a2 a3 a4
  go_upto_region 9 with fail
  revert HP9 HT9 HU9 hzx
  generalize ((w3.alloc (.cells #[.int .i64 Kt, .int .i64 It, .float .f64 Ft, .string St, .slice qt mt dt] 27)).alloc (.cells #[.int .i64 Ku, .int .i64 Iu, .float .f64 Fu, .string Su, .slice qu mu du] 27)) = w3x
  intro HP9 HT9 HU9 hzx
  refine wp_region_held_drew (S := (fun z => z.cell? ⟨w3.heap.size, 0, none⟩ = some (.int .i64 Kt) ∧ z.cell? ⟨w3.heap.size, 1, none⟩ = some (.int .i64 It) ∧ z.cell? ⟨w3.heap.size, 2, none⟩ = some (.float .f64 Ft) ∧ z.cell? ⟨w3.heap.size, 3, none⟩ = some (.string St) ∧ z.cell? ⟨w3.heap.size, 4, none⟩ = some (.slice qt mt dt) ∧ z.cell? ⟨w3.heap.size + 1, 0, none⟩ = some (.int .i64 Ku) ∧ z.cell? ⟨w3.heap.size + 1, 1, none⟩ = some (.int .i64 Iu) ∧ z.cell? ⟨w3.heap.size + 1, 2, none⟩ = some (.float .f64 Fu) ∧ z.cell? ⟨w3.heap.size + 1, 3, none⟩ = some (.string Su) ∧ z.cell? ⟨w3.heap.size + 1, 4, none⟩ = some (.slice qu mu du))) (by kernel_rfl) ?_ (fun hHeld => ?_)
  · exact dq_ro (dq_drew HP9.out)
  refine wpAnyH_take (i := 0) (oi := ?_) (v := ?_) ?hio0 (by kernel_rfl) ?hfo0 ?hro0 ?hQo0 ?hyo0 (by assumption) ?resto0
  case hio0 => (simp only [List.getElem?_toArray, List.getElem?_cons_zero, List.getElem?_cons_succ]; rfl)
  case hfo0 => kernel_rfl
  case hro0 => kernel_rfl
  case hyo0 => (refine Or.inl ⟨by rfl, ?_⟩; intro wS hSw; (try dsimp only at hSw); go_simp; (try with_reducible rfl))
  case hQo0 => exact fun _ _ _ h => h
  (try simp only [Act.put, List.setIfInBounds_toArray, List.set_cons_zero, List.set_cons_succ])
  refine wpAnyH_take (i := 2) (oi := ?_) (v := ?_) ?hio2 (by kernel_rfl) ?hfo2 ?hro2 ?hQo2 ?hyo2 (by assumption) ?resto2
  case hio2 => (simp only [List.getElem?_toArray, List.getElem?_cons_zero, List.getElem?_cons_succ]; rfl)
  case hfo2 => kernel_rfl
  case hro2 => kernel_rfl
  case hyo2 => (refine Or.inl ⟨by rfl, ?_⟩; intro wS hSw; (try dsimp only at hSw); go_simp; (try with_reducible rfl))
  case hQo2 => exact fun _ _ _ h => h
  (try simp only [Act.put, List.setIfInBounds_toArray, List.set_cons_zero, List.set_cons_succ])
  refine wpAnyH_ready (rs := [1]) (by kernel_rfl) (by simp) ?_
  refine AllReadyH.cons (o := ?_) ?hoo1 ?hsto1 AllReadyH.nil
  case hoo1 => (simp only [List.getElem?_toArray, List.getElem?_cons_zero, List.getElem?_cons_succ]; rfl)
  intro K hK
  go_simp
  go_at_call 25; refine (vclean_any N _ T w3x.drew (rep_keep (Below.drew (Below.refl _ _)) _ _ _ HT9.out) GT.1 GT.2.1 GT.2.2).mono ?_; rintro e w4 ⟨v4, rfl, hb4, hr4⟩; have hq4 := dq_step (dq_drew HP9.out) hb4; obtain ⟨Ka, Ia, Fa, Sa, qa, ma, da, rfl, _⟩ := repS_shape hr4; have HU4 := Lib.hid (rep_keep hb4 _ _ _ (rep_keep (Below.drew (Below.refl _ _)) _ _ _ HU9.out)); have HC4 := Lib.hid (repS_lt _ _ _ hr4); have hz4 := hb4.size; clear hb4 hr4
  go_wp2_with fail
  refine hK.out _ _ ?hso1 (fun hHeld => ?_)
  case hso1 => exact dq_ro hq4
  clear hK K
  (try simp only [Act.put, List.setIfInBounds_toArray, List.set_cons_zero, List.set_cons_succ])
  refine wpAnyH_ready (rs := [3]) (by kernel_rfl) (by simp) ?_
  refine AllReadyH.cons (o := ?_) ?hoo3 ?hsto3 AllReadyH.nil
  case hoo3 => (simp only [List.getElem?_toArray, List.getElem?_cons_zero, List.getElem?_cons_succ]; rfl)
  intro K hK
  go_simp
  go_at_call 25; refine (vclean_any m _ U w4 HU4.out GU.1 GU.2.1 GU.2.2).mono ?_; rintro e w5 ⟨v5, rfl, hb5, hr5⟩; have hq5 := dq_step hq4 hb5; obtain ⟨Kb, Ib, Fb, Sb, qb, mb, db, rfl, _⟩ := repS_shape hr5; have HC5 := Lib.hid (repS_mono (S' := fun b => w3x.heap.size ≤ b) (fun b hb => by have h := hb.1; rw [World.size_drew] at h; exact h) _ _ _ (repS_keep (fun b hb => hb5.block b hb.2) _ _ _ HC4.out)); have HD5 := Lib.hid (repS_mono (S' := fun b => w3x.heap.size ≤ b) (fun b hb => by rw [World.size_drew] at hz4; omega) _ _ _ hr5); clear hb5 hr5 hq4
  go_wp2_with fail
  refine hK.out _ _ ?hso3 (fun hHeld => ?_)
  case hso3 => exact dq_ro hq5
  clear hK K
  (try simp only [Act.put, List.setIfInBounds_toArray, List.set_cons_zero, List.set_cons_succ])
  refine wpAnyH_ready (rs := [4]) (by kernel_rfl) (by simp) ?_
  refine AllReadyH.cons (o := ?_) ?hoo4 ?hsto4 AllReadyH.nil
  case hoo4 => (simp only [List.getElem?_toArray, List.getElem?_cons_zero, List.getElem?_cons_succ]; rfl)
  intro K hK
  have b30 := hq5.2.2.2.2.2.2.2.2.2.2.1; have b31 := hq5.2.2.2.2.2.2.2.2.2.2.2.1; have b32 := hq5.2.2.2.2.2.2.2.2.2.2.2.2.1; have b33 := hq5.2.2.2.2.2.2.2.2.2.2.2.2.2.1; have b34 := hq5.2.2.2.2.2.2.2.2.2.2.2.2.2.2.1; have b3f := hq5.2.2.2.2.2.2.2.2.2.2.2.2.2.2.2.2.2.2.2.2.2.1; have b3l := cell_lt b30; go_simp
  have hq11 := dq_set1 hlt1 hlt2 hq5 (.int .i64 Ka) (.int .i64 Ia) (.float .f64 Fa) (.string Sa) (.slice qa ma da); clear b30 b31 b32 b33 b34 b3f b3l
  go_wp2_with fail
  refine hK.out _ _ ?hso4 (fun hHeld => ?_)
  case hso4 => exact dq_ro hq11
  clear hK K
  (try simp only [Act.put, List.setIfInBounds_toArray, List.set_cons_zero, List.set_cons_succ])
  refine wpAnyH_ready (rs := [5]) (by kernel_rfl) (by simp) ?_
  refine AllReadyH.cons (o := ?_) ?hoo5 ?hsto5 AllReadyH.nil
  case hoo5 => (simp only [List.getElem?_toArray, List.getElem?_cons_zero, List.getElem?_cons_succ]; rfl)
  intro K hK
  have b40 := hq5.2.2.2.2.2.2.2.2.2.2.2.2.2.2.2.1; have b41 := hq5.2.2.2.2.2.2.2.2.2.2.2.2.2.2.2.2.1; have b42 := hq5.2.2.2.2.2.2.2.2.2.2.2.2.2.2.2.2.2.1; have b43 := hq5.2.2.2.2.2.2.2.2.2.2.2.2.2.2.2.2.2.2.1; have b44 := hq5.2.2.2.2.2.2.2.2.2.2.2.2.2.2.2.2.2.2.2.1; have b4f := hq5.2.2.2.2.2.2.2.2.2.2.2.2.2.2.2.2.2.2.2.2.2.2; have b4l := cell_lt b40; go_simp
  have hq12 := dq_set2 hlt1 hlt2 hq11 (.int .i64 Kb) (.int .i64 Ib) (.float .f64 Fb) (.string Sb) (.slice qb mb db); clear b40 b41 b42 b43 b44 b4f b4l
  go_wp2_with fail
  refine hK.out _ _ ?hso5 (fun hHeld => ?_)
  case hso5 => exact dq_ro hq12
  clear hK K
  (try simp only [Act.put, List.setIfInBounds_toArray, List.set_cons_zero, List.set_cons_succ])
  refine wpAnyH_take (i := 6) (oi := ?_) (v := ?_) ?hio6 (by kernel_rfl) ?hfo6 ?hro6 ?hQo6 ?hyo6 (by assumption) ?resto6
  case hio6 => (simp only [List.getElem?_toArray, List.getElem?_cons_zero, List.getElem?_cons_succ]; rfl)
  case hfo6 => kernel_rfl
  case hro6 => kernel_rfl
  case hyo6 => (refine Or.inl ⟨by rfl, ?_⟩; intro wS hSw; (try dsimp only at hSw); go_simp; (try with_reducible rfl))
  case hQo6 => exact fun _ _ _ h => h
  (try simp only [Act.put, List.setIfInBounds_toArray, List.set_cons_zero, List.set_cons_succ])
  refine wpAnyH_done (by kernel_rfl) ?_ _
  have HGF := Lib.hid (show DQ Kt It Ft St qt mt dt Ku Iu Fu Su qu mu du w3.heap.size (w3.heap.size + 1) (.int .i64 Ka) (.int .i64 Ia) (.float .f64 Fa) (.string Sa) (.slice qa ma da) (.int .i64 Kb) (.int .i64 Ib) (.float .f64 Fb) (.string Sb) (.slice qb mb db) w ((((((((((w5.setCell ⟨w.heap.size + 1, 0, none⟩ (.int .i64 Ka)).setCell ⟨w.heap.size + 1, 1, none⟩ (.int .i64 Ia)).setCell ⟨w.heap.size + 1, 2, none⟩ (.float .f64 Fa)).setCell ⟨w.heap.size + 1, 3, none⟩ (.string Sa)).setCell ⟨w.heap.size + 1, 4, none⟩ (.slice qa ma da)).setCell ⟨w.heap.size + 1 + 1, 0, none⟩ (.int .i64 Kb)).setCell ⟨w.heap.size + 1 + 1, 1, none⟩ (.int .i64 Ib)).setCell ⟨w.heap.size + 1 + 1, 2, none⟩ (.float .f64 Fb)).setCell ⟨w.heap.size + 1 + 1, 3, none⟩ (.string Sb)).setCell ⟨w.heap.size + 1 + 1, 4, none⟩ (.slice qb mb db)) ∧ ∀ b : Nat, b ≠ w.heap.size + 1 → b ≠ w.heap.size + 1 + 1 → (((((((((((w5.setCell ⟨w.heap.size + 1, 0, none⟩ (.int .i64 Ka)).setCell ⟨w.heap.size + 1, 1, none⟩ (.int .i64 Ia)).setCell ⟨w.heap.size + 1, 2, none⟩ (.float .f64 Fa)).setCell ⟨w.heap.size + 1, 3, none⟩ (.string Sa)).setCell ⟨w.heap.size + 1, 4, none⟩ (.slice qa ma da)).setCell ⟨w.heap.size + 1 + 1, 0, none⟩ (.int .i64 Kb)).setCell ⟨w.heap.size + 1 + 1, 1, none⟩ (.int .i64 Ib)).setCell ⟨w.heap.size + 1 + 1, 2, none⟩ (.float .f64 Fb)).setCell ⟨w.heap.size + 1 + 1, 3, none⟩ (.string Sb)).setCell ⟨w.heap.size + 1 + 1, 4, none⟩ (.slice qb mb db))).heap[b]? = w5.heap[b]? from ⟨hq12, fun b h1 h2 => (set5_other (w := set5 w5 (w.heap.size + 1) 0 (.int .i64 Ka) (.int .i64 Ia) (.float .f64 Fa) (.string Sa) (.slice qa ma da)) (g := w.heap.size + 1 + 1) (o := 0) h2).trans (set5_other (g := w.heap.size + 1) (o := 0) h1)⟩)
  clear hq12 hq11 hq5 hHeld
  revert HGF
  generalize ((((((((((w5.setCell ⟨w.heap.size + 1, 0, none⟩ (.int .i64 Ka)).setCell ⟨w.heap.size + 1, 1, none⟩ (.int .i64 Ia)).setCell ⟨w.heap.size + 1, 2, none⟩ (.float .f64 Fa)).setCell ⟨w.heap.size + 1, 3, none⟩ (.string Sa)).setCell ⟨w.heap.size + 1, 4, none⟩ (.slice qa ma da)).setCell ⟨w.heap.size + 1 + 1, 0, none⟩ (.int .i64 Kb)).setCell ⟨w.heap.size + 1 + 1, 1, none⟩ (.int .i64 Ib)).setCell ⟨w.heap.size + 1 + 1, 2, none⟩ (.float .f64 Fb)).setCell ⟨w.heap.size + 1 + 1, 3, none⟩ (.string Sb)).setCell ⟨w.heap.size + 1 + 1, 4, none⟩ (.slice qb mb db)) = Wf
  intro HGF
  have hqf := HGF.out.1
  have b30 := hqf.2.2.2.2.2.2.2.2.2.2.1
  have b31 := hqf.2.2.2.2.2.2.2.2.2.2.2.1
  have b32 := hqf.2.2.2.2.2.2.2.2.2.2.2.2.1
  have b33 := hqf.2.2.2.2.2.2.2.2.2.2.2.2.2.1
  have b34 := hqf.2.2.2.2.2.2.2.2.2.2.2.2.2.2.1
  have b40 := hqf.2.2.2.2.2.2.2.2.2.2.2.2.2.2.2.1
  have b41 := hqf.2.2.2.2.2.2.2.2.2.2.2.2.2.2.2.2.1
  have b42 := hqf.2.2.2.2.2.2.2.2.2.2.2.2.2.2.2.2.2.1
  have b43 := hqf.2.2.2.2.2.2.2.2.2.2.2.2.2.2.2.2.2.2.1
  have b44 := hqf.2.2.2.2.2.2.2.2.2.2.2.2.2.2.2.2.2.2.2.1
  clear hqf
  go_wp2
  refine bodyPost_ret (v := .tuple #[.agg #[.int .i64 Ka, .int .i64 Ia, .float .f64 Fa, .string Sa, .slice qa ma da], .agg #[.int .i64 Kb, .int .i64 Ib, .float .f64 Fb, .string Sb, .slice qb mb db], .int .i64 0]) (by simp [results, Try.results11, go_sem, b30, b31, b32, b33, b34, b40, b41, b42, b43, b44]) rfl ⟨_, _, rfl, HGF.out.1.2.2.2.2.2.2.2.2.2.2.2.2.2.2.2.2.2.2.2.2.1, ?_, ?_⟩
  · exact repS_mono (S := fun b => w3x.heap.size ≤ b) (fun b hb => by omega) _ _ _ (repS_keep (w := w5) (fun b hb => HGF.out.2 b (by omega) (by omega)) _ _ _ HC5.out)
  · exact repS_mono (S := fun b => w3x.heap.size ≤ b) (fun b hb => by omega) _ _ _ (repS_keep (w := w5) (fun b hb => HGF.out.2 b (by omega) (by omega)) _ _ _ HD5.out)
set_option maxRecDepth 100000 in
set_option maxHeartbeats 4000000 in
theorem qdo_bad (z : Int) (hz : (z != 0) = true) (N m N0 m0 : Nat) (T0 : VT N0) (U0 : VT m0) (p : Option Addr) (l c : Nat) (ms : ByteArray) (pl : Option Addr) (ll cl : Nat) (w : World) (HR : Hid (∀ W, Below w.heap.size w W → Calls Try.prog 14 #[.agg #[.int .i64 4, .int .i64 0, .float .f64 0, .string ⟨#[]⟩, .slice p l c]] W fun e w' => e = .returned (.bool true) ∧ Below W.heap.size W w'))
    (HA : Hid (∀ W, Below w.heap.size w W → Calls Try.prog 23 #[.string { data := #[113, 117, 101, 117, 101] }, .string ms, .slice pl ll cl] W fun e w' => e = .returned (.int .i64 0) ∧ Below W.heap.size W w'))
    (HU : Hid (∀ W, Below w.heap.size w W → Calls Try.prog 24 #[.agg #[.int .i64 4, .int .i64 0, .float .f64 0, .string ⟨#[]⟩, .slice p l c], .string ms, .slice pl ll cl] W fun e w' => RunQ W N0 m0 T0 U0 z e w')) :
    Calls Try.prog 11 #[.agg #[.int .i64 4, .int .i64 0, .float .f64 0, .string ⟨#[]⟩, .slice p l c], .string ms, .slice pl ll cl] w fun e w' => DoQ w (N + 1) (m + 1) (nilT N) (nilT m) z e w' := by
  obtain ⟨oa, hoa⟩ : ∃ o, Obj.cells #[.int .i64 4, .int .i64 0, .float .f64 0, .string ⟨#[]⟩, .slice p l c] 27 = o := ⟨_, rfl⟩
  obtain ⟨oz, hoz⟩ : ∃ o, Obj.cells #[.int .i64 0, .int .i64 0, .float .f64 0, .string ⟨#[]⟩, .slice none 0 0] 27 = o := ⟨_, rfl⟩
  have hB : Below w.heap.size w (((w.alloc oa).alloc oz).alloc oz) := bel_alloc (bel_alloc (bel_alloc (Below.refl w.heap.size w) oa) oz) oz
  have r0 := row_alloc_step (row_alloc_step (row_alloc w #[.int .i64 4, .int .i64 0, .float .f64 0, .string ⟨#[]⟩, .slice p l c] 27) oz) oz
  rw [hoa] at r0
  have r1 := row_alloc_step (row_alloc (w.alloc oa) #[.int .i64 0, .int .i64 0, .float .f64 0, .string ⟨#[]⟩, .slice none 0 0] 27) oz
  rw [hoz] at r1
  have r2 := row_alloc ((w.alloc oa).alloc oz) #[.int .i64 0, .int .i64 0, .float .f64 0, .string ⟨#[]⟩, .slice none 0 0] 27
  rw [hoz] at r2
  simp only [World.size_alloc] at r0 r1 r2
  have HB := Lib.hid hB
  subst hoa hoz
  have HRA := Lib.hid r0
  have HR6 := Lib.hid r1
  have HR7 := Lib.hid r2
  clear r0 r1 r2 hB
  go_enter Try.func11, Try.ntmps11
  go_wp2_with fail
  go_at_call 14; refine (HR.out _ HB.out).mono ?_; rintro e w1 ⟨rfl, hb1⟩
  have HB1 := Lib.hid (bel_step HB.out hb1)
  have HRA1 := Lib.hid (row_step HRA.out hb1)
  have HR61 := Lib.hid (row_step HR6.out hb1)
  have HR71 := Lib.hid (row_step HR7.out hb1)
  clear hb1 HB HRA HR6 HR7 HR
  go_wp2_with fail
  go_at_call 23; refine (HA.out _ HB1.out).mono ?_; rintro e w2 ⟨rfl, hb2⟩
  have HB2 := Lib.hid (bel_step HB1.out hb2)
  have xa := row_step HRA1.out hb2
  have HR62 := Lib.hid (row_step HR61.out hb2)
  have HR72 := Lib.hid (row_step HR71.out hb2)
  have a0 := row_cell xa 0; have a1 := row_cell xa 1; have a2 := row_cell xa 2; have a3 := row_cell xa 3; have a4 := row_cell xa 4
  simp only [List.getElem?_toArray, List.getElem?_cons_zero, List.getElem?_cons_succ] at a0 a1 a2 a3 a4
  clear hb2 HB1 HRA1 HR61 HR71 HA xa
  go_wp2_with fail
  go_at_call 24; refine (HU.out _ HB2.out).mono ?_; rintro e w3 ⟨tt, uu, rfl, hb3, ht3, hu3⟩
  obtain ⟨Kt, It, Ft, St, qt, mt, dt, rfl, _⟩ := rep_shape ht3
  obtain ⟨Ku, Iu, Fu, Su, qu, mu, du, rfl, _⟩ := rep_shape hu3
  have hz3 : w.heap.size + 1 + 1 < w3.heap.size := row_lt (row_step HR72.out hb3)
  have HP9 := Lib.hid (show DQ Kt It Ft St qt mt dt Ku Iu Fu Su qu mu du w3.heap.size (w3.heap.size + 1) (.int .i64 0) (.int .i64 0) (.float .f64 0) (.string ⟨#[]⟩) (.slice none 0 0) (.int .i64 0) (.int .i64 0) (.float .f64 0) (.string ⟨#[]⟩) (.slice none 0 0) w ((w3.alloc (.cells #[.int .i64 Kt, .int .i64 It, .float .f64 Ft, .string St, .slice qt mt dt] 27)).alloc (.cells #[.int .i64 Ku, .int .i64 Iu, .float .f64 Fu, .string Su, .slice qu mu du] 27)) from ⟨row_cell (row_alloc_step (row_alloc w3 #[.int .i64 Kt, .int .i64 It, .float .f64 Ft, .string St, .slice qt mt dt] 27) (.cells #[.int .i64 Ku, .int .i64 Iu, .float .f64 Fu, .string Su, .slice qu mu du] 27)) 0, row_cell (row_alloc_step (row_alloc w3 #[.int .i64 Kt, .int .i64 It, .float .f64 Ft, .string St, .slice qt mt dt] 27) (.cells #[.int .i64 Ku, .int .i64 Iu, .float .f64 Fu, .string Su, .slice qu mu du] 27)) 1, row_cell (row_alloc_step (row_alloc w3 #[.int .i64 Kt, .int .i64 It, .float .f64 Ft, .string St, .slice qt mt dt] 27) (.cells #[.int .i64 Ku, .int .i64 Iu, .float .f64 Fu, .string Su, .slice qu mu du] 27)) 2, row_cell (row_alloc_step (row_alloc w3 #[.int .i64 Kt, .int .i64 It, .float .f64 Ft, .string St, .slice qt mt dt] 27) (.cells #[.int .i64 Ku, .int .i64 Iu, .float .f64 Fu, .string Su, .slice qu mu du] 27)) 3, row_cell (row_alloc_step (row_alloc w3 #[.int .i64 Kt, .int .i64 It, .float .f64 Ft, .string St, .slice qt mt dt] 27) (.cells #[.int .i64 Ku, .int .i64 Iu, .float .f64 Fu, .string Su, .slice qu mu du] 27)) 4, (show _ from (by have h := row_alloc (w3.alloc (.cells #[.int .i64 Kt, .int .i64 It, .float .f64 Ft, .string St, .slice qt mt dt] 27)) #[.int .i64 Ku, .int .i64 Iu, .float .f64 Fu, .string Su, .slice qu mu du] 27; rw [World.size_alloc] at h; exact row_cell h 0)), (show _ from (by have h := row_alloc (w3.alloc (.cells #[.int .i64 Kt, .int .i64 It, .float .f64 Ft, .string St, .slice qt mt dt] 27)) #[.int .i64 Ku, .int .i64 Iu, .float .f64 Fu, .string Su, .slice qu mu du] 27; rw [World.size_alloc] at h; exact row_cell h 1)), (show _ from (by have h := row_alloc (w3.alloc (.cells #[.int .i64 Kt, .int .i64 It, .float .f64 Ft, .string St, .slice qt mt dt] 27)) #[.int .i64 Ku, .int .i64 Iu, .float .f64 Fu, .string Su, .slice qu mu du] 27; rw [World.size_alloc] at h; exact row_cell h 2)), (show _ from (by have h := row_alloc (w3.alloc (.cells #[.int .i64 Kt, .int .i64 It, .float .f64 Ft, .string St, .slice qt mt dt] 27)) #[.int .i64 Ku, .int .i64 Iu, .float .f64 Fu, .string Su, .slice qu mu du] 27; rw [World.size_alloc] at h; exact row_cell h 3)), (show _ from (by have h := row_alloc (w3.alloc (.cells #[.int .i64 Kt, .int .i64 It, .float .f64 Ft, .string St, .slice qt mt dt] 27)) #[.int .i64 Ku, .int .i64 Iu, .float .f64 Fu, .string Su, .slice qu mu du] 27; rw [World.size_alloc] at h; exact row_cell h 4)), row_cell (row_step (row_step HR62.out hb3) (bel_alloc (bel_alloc (Below.refl w3.heap.size w3) (.cells #[.int .i64 Kt, .int .i64 It, .float .f64 Ft, .string St, .slice qt mt dt] 27)) (.cells #[.int .i64 Ku, .int .i64 Iu, .float .f64 Fu, .string Su, .slice qu mu du] 27))) 0, row_cell (row_step (row_step HR62.out hb3) (bel_alloc (bel_alloc (Below.refl w3.heap.size w3) (.cells #[.int .i64 Kt, .int .i64 It, .float .f64 Ft, .string St, .slice qt mt dt] 27)) (.cells #[.int .i64 Ku, .int .i64 Iu, .float .f64 Fu, .string Su, .slice qu mu du] 27))) 1, row_cell (row_step (row_step HR62.out hb3) (bel_alloc (bel_alloc (Below.refl w3.heap.size w3) (.cells #[.int .i64 Kt, .int .i64 It, .float .f64 Ft, .string St, .slice qt mt dt] 27)) (.cells #[.int .i64 Ku, .int .i64 Iu, .float .f64 Fu, .string Su, .slice qu mu du] 27))) 2, row_cell (row_step (row_step HR62.out hb3) (bel_alloc (bel_alloc (Below.refl w3.heap.size w3) (.cells #[.int .i64 Kt, .int .i64 It, .float .f64 Ft, .string St, .slice qt mt dt] 27)) (.cells #[.int .i64 Ku, .int .i64 Iu, .float .f64 Fu, .string Su, .slice qu mu du] 27))) 3, row_cell (row_step (row_step HR62.out hb3) (bel_alloc (bel_alloc (Below.refl w3.heap.size w3) (.cells #[.int .i64 Kt, .int .i64 It, .float .f64 Ft, .string St, .slice qt mt dt] 27)) (.cells #[.int .i64 Ku, .int .i64 Iu, .float .f64 Fu, .string Su, .slice qu mu du] 27))) 4, row_cell (row_step (row_step HR72.out hb3) (bel_alloc (bel_alloc (Below.refl w3.heap.size w3) (.cells #[.int .i64 Kt, .int .i64 It, .float .f64 Ft, .string St, .slice qt mt dt] 27)) (.cells #[.int .i64 Ku, .int .i64 Iu, .float .f64 Fu, .string Su, .slice qu mu du] 27))) 0, row_cell (row_step (row_step HR72.out hb3) (bel_alloc (bel_alloc (Below.refl w3.heap.size w3) (.cells #[.int .i64 Kt, .int .i64 It, .float .f64 Ft, .string St, .slice qt mt dt] 27)) (.cells #[.int .i64 Ku, .int .i64 Iu, .float .f64 Fu, .string Su, .slice qu mu du] 27))) 1, row_cell (row_step (row_step HR72.out hb3) (bel_alloc (bel_alloc (Below.refl w3.heap.size w3) (.cells #[.int .i64 Kt, .int .i64 It, .float .f64 Ft, .string St, .slice qt mt dt] 27)) (.cells #[.int .i64 Ku, .int .i64 Iu, .float .f64 Fu, .string Su, .slice qu mu du] 27))) 2, row_cell (row_step (row_step HR72.out hb3) (bel_alloc (bel_alloc (Below.refl w3.heap.size w3) (.cells #[.int .i64 Kt, .int .i64 It, .float .f64 Ft, .string St, .slice qt mt dt] 27)) (.cells #[.int .i64 Ku, .int .i64 Iu, .float .f64 Fu, .string Su, .slice qu mu du] 27))) 3, row_cell (row_step (row_step HR72.out hb3) (bel_alloc (bel_alloc (Below.refl w3.heap.size w3) (.cells #[.int .i64 Kt, .int .i64 It, .float .f64 Ft, .string St, .slice qt mt dt] 27)) (.cells #[.int .i64 Ku, .int .i64 Iu, .float .f64 Fu, .string Su, .slice qu mu du] 27))) 4, bel_step (bel_step HB2.out hb3) (bel_alloc (bel_alloc (Below.refl w3.heap.size w3) (.cells #[.int .i64 Kt, .int .i64 It, .float .f64 Ft, .string St, .slice qt mt dt] 27)) (.cells #[.int .i64 Ku, .int .i64 Iu, .float .f64 Fu, .string Su, .slice qu mu du] 27)), fun o => row_frz (row_step (row_step HR62.out hb3) (bel_alloc (bel_alloc (Below.refl w3.heap.size w3) (.cells #[.int .i64 Kt, .int .i64 It, .float .f64 Ft, .string St, .slice qt mt dt] 27)) (.cells #[.int .i64 Ku, .int .i64 Iu, .float .f64 Fu, .string Su, .slice qu mu du] 27))) o, fun o => row_frz (row_step (row_step HR72.out hb3) (bel_alloc (bel_alloc (Below.refl w3.heap.size w3) (.cells #[.int .i64 Kt, .int .i64 It, .float .f64 Ft, .string St, .slice qt mt dt] 27)) (.cells #[.int .i64 Ku, .int .i64 Iu, .float .f64 Fu, .string Su, .slice qu mu du] 27))) o⟩)
  have hzx : (((w3.alloc (.cells #[.int .i64 Kt, .int .i64 It, .float .f64 Ft, .string St, .slice qt mt dt] 27)).alloc (.cells #[.int .i64 Ku, .int .i64 Iu, .float .f64 Fu, .string Su, .slice qu mu du] 27))).heap.size = w3.heap.size + 1 + 1 := by simp only [World.size_alloc]
  clear hb3 ht3 hu3 HB2 HR62 HR72 HU a0 a1 a2 a3 a4
  go_upto_region 8 with fail
  revert HP9 hzx
  generalize ((w3.alloc (.cells #[.int .i64 Kt, .int .i64 It, .float .f64 Ft, .string St, .slice qt mt dt] 27)).alloc (.cells #[.int .i64 Ku, .int .i64 Iu, .float .f64 Fu, .string Su, .slice qu mu du] 27)) = w3x
  intro HP9 hzx
  have hp := HP9.out
  have p0 := hp.2.2.2.2.2.2.2.2.2.2.1
  have p1 := hp.2.2.2.2.2.2.2.2.2.2.2.1
  have p2 := hp.2.2.2.2.2.2.2.2.2.2.2.2.1
  have p3 := hp.2.2.2.2.2.2.2.2.2.2.2.2.2.1
  have p4 := hp.2.2.2.2.2.2.2.2.2.2.2.2.2.2.1
  have s0 := hp.2.2.2.2.2.2.2.2.2.2.2.2.2.2.2.1
  have s1 := hp.2.2.2.2.2.2.2.2.2.2.2.2.2.2.2.2.1
  have s2 := hp.2.2.2.2.2.2.2.2.2.2.2.2.2.2.2.2.2.1
  have s3 := hp.2.2.2.2.2.2.2.2.2.2.2.2.2.2.2.2.2.2.1
  have s4 := hp.2.2.2.2.2.2.2.2.2.2.2.2.2.2.2.2.2.2.2.1
  have f3 := hp.2.2.2.2.2.2.2.2.2.2.2.2.2.2.2.2.2.2.2.2.2.1
  have f4 := hp.2.2.2.2.2.2.2.2.2.2.2.2.2.2.2.2.2.2.2.2.2.2
  have HBX := Lib.hid hp.2.2.2.2.2.2.2.2.2.2.2.2.2.2.2.2.2.2.2.2.1
  have l4 : w.heap.size + 1 + 1 < w3x.heap.size := by omega
  clear hp
  go_wp2
  refine bodyPost_ret (v := .tuple #[.agg #[.int .i64 0, .int .i64 0, .float .f64 0, .string ⟨#[]⟩, .slice none 0 0], .agg #[.int .i64 0, .int .i64 0, .float .f64 0, .string ⟨#[]⟩, .slice none 0 0], .int .i64 z]) (by simp [results, Try.results11, go_sem, World.cell?_setCell_same, World.cell?_setCell_other, p0, p1, p2, p3, p4, s0, s1, s2, s3, s4]) rfl ⟨_, _, rfl, ?_, nil_rep _ _ _, nil_rep _ _ _⟩
  exact set5_below (g := w.heap.size + 1 + 1) (o := 0) (set5_below (g := w.heap.size + 1) (o := 0) HBX.out (by omega) _ _ _ _ _) (by omega) _ _ _ _ _
end Num
end Go.Proofs.Ytodjnhhnjncgdaa
