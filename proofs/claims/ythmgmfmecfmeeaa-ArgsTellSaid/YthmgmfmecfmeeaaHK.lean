/-
  ArgsTell: the walk.
-/
import Derived.Test.YthmgmfmecfmeeaaHJ
import Derived.Test.YthmgmfmecfmeeaaMJ
import Derived.Deep.RegionHeld3
namespace Go.Proofs.Ythmgmfmecfmeeaa
open Go.RowKit
namespace Num
open Ints
set_option linter.unusedSimpArgs false
set_option linter.unusedVariables false
theorem wrap_small {j : Int} (h0 : 0 ≤ j) (h1 : j ≤ 9223372036854775807) : IntKind.i64.wrap j = j := by
  unfold IntKind.wrap
  simp [IntKind.signed, IntKind.bits]
  omega
/-- What a round's region reads: the name, the one ahead of it. -/
def C2 (W0 : World) (b i j : Nat) (s r : ByteArray) (W : World) : Prop := W.cell? ⟨b, i, none⟩ = some (.string s) ∧ W.cell? ⟨b, j, none⟩ = some (.string r) ∧ b < W.heap.size ∧ Below W0.heap.size W0 W
theorem c2_step {W0 : World} {b i j : Nat} {s r : ByteArray} {W w' : World} (h : C2 W0 b i j s r W) (hb : Below W.heap.size W w') : C2 W0 b i j s r w' := by
  obtain ⟨h0, h1, h2, h3⟩ := h
  exact ⟨cell_keep hb h0, cell_keep hb h1, Nat.lt_of_lt_of_le h2 hb.size, bel_step h3 hb⟩
theorem c2_drew {W0 : World} {b i j : Nat} {s r : ByteArray} {W : World} (h : C2 W0 b i j s r W) : C2 W0 b i j s r W.drew := c2_step h (Below.drew (Below.refl _ _))
set_option maxRecDepth 100000 in
set_option maxHeartbeats 8000000 in
theorem tell_in (k : Nat) (s nm : ByteArray) (w : World) (hk : k < 256) (hs : s.size ≤ 40) (hn : nm.size ≤ 40) : Calls Try.prog 3 #[.int .u8 k, .string s, .string nm] w fun e w' => e = .returned (.bool true) ∧ Below w.heap.size w w' := by
  have g1 : ¬ (40 : Int) < (s.size : Int) := by omega
  have g2 : ¬ (40 : Int) < (nm.size : Int) := by omega
  have HCL := Lib.hid (fun W => class_any k s W hk)
  clear hk hs hn
  go_enter Try.func3, Try.ntmps3
  go_wp2_with fail
  go_at_call 7; refine (known7 _).mono ?_; rintro e w1 ⟨rfl, hb1⟩
  have HB1 := Lib.hid hb1
  clear hb1
  go_wp2_with fail
  go_at_call 8; refine (HCL.out _).mono ?_; rintro e w2 ⟨c, rfl, hb2⟩
  have HB2 := Lib.hid (bel_step HB1.out hb2)
  have HNS := Lib.hid (names_good c).2.2
  have HM := Lib.hid (fun W => methods_any c W)
  have HRM := Lib.hid (fun W => rmethods_any c W)
  have HP := Lib.hid (fun W => (pstart_any c W).mono fun _ _ h => start_q h)
  have HR := Lib.hid (fun W => (rstart_any c W).mono fun _ _ h => start_q h)
  have HW := Lib.hid (fun W n => writes_any c n W)
  have HRW := Lib.hid (fun W n => rwrites_any c n W)
  obtain ⟨T, hT⟩ : ∃ T, startT c = T := ⟨_, rfl⟩
  obtain ⟨sb, hsb⟩ : ∃ sb, startB c = sb := ⟨_, rfl⟩
  obtain ⟨M, hM⟩ : ∃ M, metas c = M := ⟨_, rfl⟩
  rw [hT, hsb] at HP HR
  rw [hM] at HM HRM HW HRW HNS
  clear hb2 hT hsb hM HB1 HCL
  go_wp2_with fail
  go_at_call 9; refine (HM.out _).mono ?_; rintro e w3 ⟨p, l, d, rfl, hs3, hb3⟩
  have HB3 := Lib.hid (bel_step HB2.out hb3)
  have HS3 := Lib.hid hs3
  clear hb3 hs3 HM
  go_wp2_with fail
  go_at_call 10; refine (HP.out _).mono ?_; rintro e w4 ⟨K, I, F, S, q, c1, rfl, hr4, hb4⟩
  obtain ⟨m, hm⟩ : ∃ m, T.2.2.2.2.length = m := ⟨_, rfl⟩
  rw [hm] at hr4 HR ⊢
  have HB4 := Lib.hid (bel_alloc (bel_step HB3.out hb4) (.cells #[.int .i64 K, .int .i64 I, .float .f64 F, .string S, .slice q m c1] 29))
  have HS4 := Lib.hid (strL_keep (strL_keep HS3.out hb4) (bel_alloc (Below.refl _ _) (.cells #[.int .i64 K, .int .i64 I, .float .f64 F, .string S, .slice q m c1] 29)))
  have HT4 := Lib.hid (rep_keep (bel_alloc (Below.refl _ _) (.cells #[.int .i64 K, .int .i64 I, .float .f64 F, .string S, .slice q m c1] 29)) _ _ _ hr4)
  have HA4 := Lib.hid (row_alloc w4 #[.int .i64 K, .int .i64 I, .float .f64 F, .string S, .slice q m c1] 29)
  clear hb4 hr4 hm HP HB3 HS3
  go_wp2_with fail
  go_at_call 11; refine (HR.out _).mono ?_; rintro e w5 ⟨K2, I2, F2, S2, q2, c2, rfl, hr5, hb5⟩
  have HB5 := Lib.hid (bel_alloc (bel_step HB4.out hb5) (.cells #[.int .i64 K2, .int .i64 I2, .float .f64 F2, .string S2, .slice q2 m c2] 29))
  have hk5 := bel_alloc hb5 (.cells #[.int .i64 K2, .int .i64 I2, .float .f64 F2, .string S2, .slice q2 m c2] 29)
  have HS5 := Lib.hid (strL_keep HS4.out hk5)
  have HT5 := Lib.hid (rep_keep hk5 _ _ _ HT4.out)
  have HU5 := Lib.hid (rep_keep (bel_alloc (Below.refl _ _) (.cells #[.int .i64 K2, .int .i64 I2, .float .f64 F2, .string S2, .slice q2 m c2] 29)) _ _ _ hr5)
  have HA5 := Lib.hid (row_step HA4.out hk5)
  have HC5 := Lib.hid (row_alloc w5 #[.int .i64 K2, .int .i64 I2, .float .f64 F2, .string S2, .slice q2 m c2] 29)
  clear hb5 hr5 hk5 HR HB4 HS4 HT4 HA4
  go_wp2_with fail
  go_at_call 13; refine (pcls_any _).mono ?_; rintro e w6 ⟨rfl, hs6, hb6⟩
  rw [World.size_alloc] at hs6
  have HB6 := Lib.hid (bel_step HB5.out hb6)
  have HS6 := Lib.hid (strL_keep HS5.out hb6)
  have HT6 := Lib.hid (rep_keep hb6 _ _ _ HT5.out)
  have HU6 := Lib.hid (rep_keep hb6 _ _ _ HU5.out)
  have HA6 := Lib.hid (row_step HA5.out hb6)
  have HC6 := Lib.hid (row_step HC5.out hb6)
  have HX6 := Lib.hid hs6
  clear hb6 hs6 HB5 HS5 HT5 HU5 HA5 HC5
  go_wp2_with fail
  go_at_call 14; refine (rcls_any _).mono ?_; rintro e w7 ⟨rfl, hs7, hb7⟩
  have HB7 := Lib.hid (bel_step HB6.out hb7)
  have HS7 := Lib.hid (strL_keep HS6.out hb7)
  have HT7 := Lib.hid (rep_keep hb7 _ _ _ HT6.out)
  have HU7 := Lib.hid (rep_keep hb7 _ _ _ HU6.out)
  have HA7 := Lib.hid (row_step HA6.out hb7)
  have HC7 := Lib.hid (row_step HC6.out hb7)
  have HX7 := Lib.hid (strL_keep HX6.out hb7)
  have HY7 := Lib.hid hs7
  clear hb7 hs7 HB6 HS6 HT6 HU6 HA6 HC6 HX6
  go_wp2_with fail
  go_at_call 12; refine (strings_yes _ _ _ 6 _ 6 clsL HX7.out HY7.out).mono ?_; rintro e w8 ⟨rfl, hb8⟩
  have HB8 := Lib.hid (bel_step HB7.out hb8)
  have HS8 := Lib.hid (strL_keep HS7.out hb8)
  have HT8 := Lib.hid (rep_keep hb8 _ _ _ HT7.out)
  have HU8 := Lib.hid (rep_keep hb8 _ _ _ HU7.out)
  have HA8 := Lib.hid (row_step HA7.out hb8)
  have HC8 := Lib.hid (row_step HC7.out hb8)
  clear hb8 HB7 HS7 HT7 HU7 HA7 HC7 HX7 HY7
  go_wp2_with fail
  go_at_call 15; refine (HRM.out _).mono ?_; rintro e w9 ⟨p9, l9, d9, rfl, hs9, hb9⟩
  obtain rfl : l9 = l := hs9.1.symm.trans HS8.out.1
  have HB9 := Lib.hid (bel_step HB8.out hb9)
  have HS9 := Lib.hid (strL_keep HS8.out hb9)
  have HT9 := Lib.hid (rep_keep hb9 _ _ _ HT8.out)
  have HU9 := Lib.hid (rep_keep hb9 _ _ _ HU8.out)
  have HA9 := Lib.hid (row_step HA8.out hb9)
  have HC9 := Lib.hid (row_step HC8.out hb9)
  have HX9 := Lib.hid hs9
  clear hb9 hs9 HB8 HS8 HT8 HU8 HA8 HC8
  go_wp2_with fail
  go_at_call 12; refine (strings_yes _ _ _ l9 _ _ _ HS9.out HX9.out).mono ?_; rintro e w10 ⟨rfl, hb10⟩
  have HB10 := Lib.hid (bel_step HB9.out hb10)
  have HS10 := Lib.hid (strL_keep HS9.out hb10)
  have HT10 := Lib.hid (rep_keep hb10 _ _ _ HT9.out)
  have HU10 := Lib.hid (rep_keep hb10 _ _ _ HU9.out)
  have ha := row_step HA9.out hb10
  have hc := row_step HC9.out hb10
  have a0 := row_cell ha 0; have a1 := row_cell ha 1; have a2 := row_cell ha 2; have a3 := row_cell ha 3; have a4 := row_cell ha 4
  have b0 := row_cell hc 0; have b1 := row_cell hc 1; have b2 := row_cell hc 2; have b3 := row_cell hc 3; have b4 := row_cell hc 4
  simp only [List.getElem?_toArray, List.getElem?_cons_zero, List.getElem?_cons_succ] at a0 a1 a2 a3 a4 b0 b1 b2 b3 b4
  clear hb10 ha hc HB9 HS9 HT9 HU9 HA9 HC9 HX9
  go_wp2_with fail
  go_at_call 16; refine (same_any 2 _ _ T _ HT10.out HU10.out).mono ?_; rintro e w11 ⟨rfl, hb11⟩
  have HB11 := Lib.hid (bel_step HB10.out hb11)
  have HS11 := Lib.hid (strL_keep HS10.out hb11)
  clear hb11 a0 a1 a2 a3 a4 b0 b1 b2 b3 b4 HB10 HS10 HT10 HU10
  go_wp2_with fail
  go_at_call 17; refine (HW.out _ nm).mono ?_; rintro e w12 ⟨rfl, hb12⟩
  have HB12 := Lib.hid (bel_step HB11.out hb12)
  have HS12 := Lib.hid (strL_keep HS11.out hb12)
  clear hb12 HB11 HS11
  obtain ⟨wr0, hwr0⟩ : ∃ b, wrS nm M = b := ⟨_, rfl⟩
  have HRW0 := Lib.hid (fun W => HRW.out W nm)
  rw [hwr0] at HRW0 ⊢
  clear hwr0
  go_wp2_with fail
  go_at_call 18; refine (HRW0.out _).mono ?_; rintro e w13 ⟨rfl, hb13⟩
  have HB13 := Lib.hid (bel_step HB12.out hb13)
  have HS13 := Lib.hid (strL_keep HS12.out hb13)
  clear hb13 HB12 HS12 HRW0
  go_wp2
  go_loopw [13] (fun iv wr => ∃ i : Nat, i ≤ l9 ∧ iv = .int .i64 i ∧ Below w13.heap.size w13 wr) (fun iv _ => l9 - (intOf iv).toNat)
  case atStart => exact ⟨0, by omega, rfl, Below.refl _ _⟩
  case round =>
    obtain ⟨i, hi0, rfl, hB⟩ := hrel
    have HB := Lib.hid hB
    by_cases hlt : i < l9
    · obtain ⟨hl, hlc, hcm, hp⟩ := strL_keep HS13.out hB
      unfold maxLen at hcm
      obtain ⟨b, off, hpb, hi⟩ := hp (by omega)
      subst hpb
      have hML : M.length = l9 := by rw [← hl, List.length_map]
      have c0 := hi i (by omega)
      rw [List.getElem_map] at c0
      have hk0 : (0 : Int) ≤ (i : Int) := by omega
      have hkl : (i : Int) < (l9 : Int) := by omega
      obtain ⟨x, hx⟩ : ∃ x, (M[i]'(by omega)).1 = x := ⟨_, rfl⟩
      rw [hx] at c0
      obtain ⟨wb, hwb⟩ : ∃ b, wrS x M = b := ⟨_, rfl⟩
      have HWx := Lib.hid (fun W => HW.out W x)
      have HRWx := Lib.hid (fun W => HRW.out W x)
      rw [hwb] at HWx HRWx
      have clt : b < wr.heap.size := cell_lt c0
      by_cases hi1 : i = 0
      · subst hi1
        rw [Nat.add_zero] at c0
        have h8 : C2 wr b off off x x wr := ⟨c0, c0, clt, Below.refl _ _⟩
        clear hi hp hl hML c0 clt hx hwb hB HW HRW HNS
        go_wp2_with fail
        refine wp_region_held_drew (S := (fun w' => w'.cell? ⟨b, off, none⟩ = some (.string x) ∧ w'.cell? ⟨b, off, none⟩ = some (.string x) ∧ b < w'.heap.size ∧ Below wr.heap.size wr w')) (by kernel_rfl) ?_ (fun hHeld => ?_)
        · exact c2_drew h8
        refine wpAnyH_take (i := 0) (oi := ?_) (v := ?_) ?hia0 (by kernel_rfl) ?hfa0 ?hra0 ?hQa0 ?hya0 (by assumption) ?resta0
        case hia0 => (simp only [List.getElem?_toArray, List.getElem?_cons_zero, List.getElem?_cons_succ]; rfl)
        case hfa0 => kernel_rfl
        case hra0 => kernel_rfl
        case hya0 => (refine Or.inl ⟨by rfl, ?_⟩; intro wS hSw; (try dsimp only at hSw); go_simp; (try with_reducible rfl))
        case hQa0 => exact fun _ _ _ h => h
        (try simp only [Act.put, List.setIfInBounds_toArray, List.set_cons_zero, List.set_cons_succ])
        refine wpAnyH_take (i := 1) (oi := ?_) (v := ?_) ?hia1 (by kernel_rfl) ?hfa1 ?hra1 ?hQa1 ?hya1 (by assumption) ?resta1
        case hia1 => (simp only [List.getElem?_toArray, List.getElem?_cons_zero, List.getElem?_cons_succ]; rfl)
        case hfa1 => kernel_rfl
        case hra1 => kernel_rfl
        case hya1 => (refine Or.inl ⟨by rfl, ?_⟩; intro wS hSw; (try dsimp only at hSw); go_simp; (try with_reducible rfl))
        case hQa1 => exact fun _ _ _ h => h
        (try simp only [Act.put, List.setIfInBounds_toArray, List.set_cons_zero, List.set_cons_succ])
        refine wpAnyH_take (i := 2) (oi := ?_) (v := ?_) ?hia2 (by kernel_rfl) ?hfa2 ?hra2 ?hQa2 ?hya2 (by assumption) ?resta2
        case hia2 => (simp only [List.getElem?_toArray, List.getElem?_cons_zero, List.getElem?_cons_succ]; rfl)
        case hfa2 => kernel_rfl
        case hra2 => kernel_rfl
        case hya2 => (refine Or.inl ⟨by rfl, ?_⟩; intro wS hSw; (try dsimp only at hSw); go_simp; (try with_reducible rfl))
        case hQa2 => exact fun _ _ _ h => h
        (try simp only [Act.put, List.setIfInBounds_toArray, List.set_cons_zero, List.set_cons_succ])
        refine wpAnyH_take (i := 3) (oi := ?_) (v := ?_) ?hia3 (by kernel_rfl) ?hfa3 ?hra3 ?hQa3 ?hya3 (by assumption) ?resta3
        case hia3 => (simp only [List.getElem?_toArray, List.getElem?_cons_zero, List.getElem?_cons_succ]; rfl)
        case hfa3 => kernel_rfl
        case hra3 => kernel_rfl
        case hya3 => (refine Or.inl ⟨by rfl, ?_⟩; intro wS hSw; (try dsimp only at hSw); go_simp; (try with_reducible rfl))
        case hQa3 => exact fun _ _ _ h => h
        (try simp only [Act.put, List.setIfInBounds_toArray, List.set_cons_zero, List.set_cons_succ])
        refine wpAnyH_take (i := 4) (oi := ?_) (v := ?_) ?hia4 (by kernel_rfl) ?hfa4 ?hra4 ?hQa4 ?hya4 (by assumption) ?resta4
        case hia4 => (simp only [List.getElem?_toArray, List.getElem?_cons_zero, List.getElem?_cons_succ]; rfl)
        case hfa4 => kernel_rfl
        case hra4 => kernel_rfl
        case hya4 => (refine Or.inl ⟨by rfl, ?_⟩; intro wS hSw; (try dsimp only at hSw); go_simp; (try with_reducible rfl))
        case hQa4 => exact fun _ _ _ h => h
        (try simp only [Act.put, List.setIfInBounds_toArray, List.set_cons_zero, List.set_cons_succ])
        refine wpAnyH_take (i := 6) (oi := ?_) (v := ?_) ?hia6 (by kernel_rfl) ?hfa6 ?hra6 ?hQa6 ?hya6 (by assumption) ?resta6
        case hia6 => (simp only [List.getElem?_toArray, List.getElem?_cons_zero, List.getElem?_cons_succ]; rfl)
        case hfa6 => kernel_rfl
        case hra6 => kernel_rfl
        case hya6 => (refine Or.inl ⟨by rfl, ?_⟩; intro wS hSw; (try dsimp only at hSw); go_simp; (try with_reducible rfl))
        case hQa6 => exact fun _ _ _ h => h
        (try simp only [Act.put, List.setIfInBounds_toArray, List.set_cons_zero, List.set_cons_succ])
        refine wpAnyH_take (i := 7) (oi := ?_) (v := ?_) ?hia7 (by kernel_rfl) ?hfa7 ?hra7 ?hQa7 ?hya7 (by assumption) ?resta7
        case hia7 => (simp only [List.getElem?_toArray, List.getElem?_cons_zero, List.getElem?_cons_succ]; rfl)
        case hfa7 => kernel_rfl
        case hra7 => kernel_rfl
        case hya7 => (refine Or.inl ⟨by rfl, ?_⟩; intro wS hSw; (try dsimp only at hSw); go_simp; (try with_reducible rfl))
        case hQa7 => exact fun _ _ _ h => h
        (try simp only [Act.put, List.setIfInBounds_toArray, List.set_cons_zero, List.set_cons_succ])
        refine wpAnyH_take (i := 8) (oi := ?_) (v := ?_) ?hia8 (by kernel_rfl) ?hfa8 ?hra8 ?hQa8 ?hya8 (by assumption) ?resta8
        case hia8 => (simp only [List.getElem?_toArray, List.getElem?_cons_zero, List.getElem?_cons_succ]; rfl)
        case hfa8 => kernel_rfl
        case hra8 => kernel_rfl
        case hya8 => (refine Or.inl ⟨by rfl, ?_⟩; intro wS hSw; (try dsimp only at hSw); go_simp; (try with_reducible rfl))
        case hQa8 => exact fun _ _ _ h => h
        (try simp only [Act.put, List.setIfInBounds_toArray, List.set_cons_zero, List.set_cons_succ])
        refine wpAnyH_take (i := 9) (oi := ?_) (v := ?_) ?hia9 (by kernel_rfl) ?hfa9 ?hra9 ?hQa9 ?hya9 (by assumption) ?resta9
        case hia9 => (simp only [List.getElem?_toArray, List.getElem?_cons_zero, List.getElem?_cons_succ]; rfl)
        case hfa9 => kernel_rfl
        case hra9 => kernel_rfl
        case hya9 => (refine Or.inl ⟨by rfl, ?_⟩; intro wS hSw; (try dsimp only at hSw); go_simp; (try with_reducible rfl))
        case hQa9 => exact fun _ _ _ h => h
        (try simp only [Act.put, List.setIfInBounds_toArray, List.set_cons_zero, List.set_cons_succ])
        refine wpAnyH_take (i := 10) (oi := ?_) (v := ?_) ?hia10 (by kernel_rfl) ?hfa10 ?hra10 ?hQa10 ?hya10 (by assumption) ?resta10
        case hia10 => (simp only [List.getElem?_toArray, List.getElem?_cons_zero, List.getElem?_cons_succ]; rfl)
        case hfa10 => kernel_rfl
        case hra10 => kernel_rfl
        case hya10 => (refine Or.inl ⟨by rfl, ?_⟩; intro wS hSw; (try dsimp only at hSw); go_simp; (try with_reducible rfl))
        case hQa10 => exact fun _ _ _ h => h
        (try simp only [Act.put, List.setIfInBounds_toArray, List.set_cons_zero, List.set_cons_succ])
        refine wpAnyH_ready (rs := [5]) (by kernel_rfl) (by simp) ?_
        refine AllReadyH.cons (o := ?_) ?hoa5 ?hsta5 AllReadyH.nil
        case hoa5 => (simp only [List.getElem?_toArray, List.getElem?_cons_zero, List.getElem?_cons_succ]; rfl)
        intro K hK
        go_simp
        go_at_call 17; refine (HWx.out _).mono ?_; rintro e w4 ⟨rfl, hb4⟩; have hk8 := c2_step hHeld hb4; clear hb4
        go_wp2_with fail
        refine hK.out _ _ ?hsa5 (fun hHeld => ?_)
        case hsa5 => exact hk8
        clear hK K
        (try simp only [Act.put, List.setIfInBounds_toArray, List.set_cons_zero, List.set_cons_succ])
        refine wpAnyH_ready (rs := [11]) (by kernel_rfl) (by simp) ?_
        refine AllReadyH.cons (o := ?_) ?hoa11 ?hsta11 AllReadyH.nil
        case hoa11 => (simp only [List.getElem?_toArray, List.getElem?_cons_zero, List.getElem?_cons_succ]; rfl)
        intro K hK
        go_simp
        go_at_call 18; refine (HRWx.out _).mono ?_; rintro e w4 ⟨rfl, hb4⟩; have hk8 := c2_step hHeld hb4; clear hb4
        go_wp2_with fail
        refine hK.out _ _ ?hsa11 (fun hHeld => ?_)
        case hsa11 => exact hk8
        clear hK K
        (try simp only [Act.put, List.setIfInBounds_toArray, List.set_cons_zero, List.set_cons_succ])
        refine wpAnyH_take (i := 12) (oi := ?_) (v := ?_) ?hia12 (by kernel_rfl) ?hfa12 ?hra12 ?hQa12 ?hya12 (by assumption) ?resta12
        case hia12 => (simp only [List.getElem?_toArray, List.getElem?_cons_zero, List.getElem?_cons_succ]; rfl)
        case hfa12 => kernel_rfl
        case hra12 => kernel_rfl
        case hya12 => (refine Or.inl ⟨by rfl, ?_⟩; intro wS hSw; (try dsimp only at hSw); go_simp; (try with_reducible rfl))
        case hQa12 => exact fun _ _ _ h => h
        (try simp only [Act.put, List.setIfInBounds_toArray, List.set_cons_zero, List.set_cons_succ])
        refine wpAnyH_take (i := 13) (oi := ?_) (v := ?_) ?hia13 (by kernel_rfl) ?hfa13 ?hra13 ?hQa13 ?hya13 (by assumption) ?resta13
        case hia13 => (simp only [List.getElem?_toArray, List.getElem?_cons_zero, List.getElem?_cons_succ]; rfl)
        case hfa13 => kernel_rfl
        case hra13 => kernel_rfl
        case hya13 => (refine Or.inl ⟨by rfl, ?_⟩; intro wS hSw; (try dsimp only at hSw); go_simp; (try with_reducible rfl))
        case hQa13 => exact fun _ _ _ h => h
        (try simp only [Act.put, List.setIfInBounds_toArray, List.set_cons_zero, List.set_cons_succ])
        refine wpAnyH_take (i := 14) (oi := ?_) (v := ?_) ?hia14 (by kernel_rfl) ?hfa14 ?hra14 ?hQa14 ?hya14 (by assumption) ?resta14
        case hia14 => (simp only [List.getElem?_toArray, List.getElem?_cons_zero, List.getElem?_cons_succ]; rfl)
        case hfa14 => kernel_rfl
        case hra14 => kernel_rfl
        case hya14 => (refine Or.inl ⟨by rfl, ?_⟩; intro wS hSw; (try dsimp only at hSw); go_simp; (try with_reducible rfl))
        case hQa14 => exact fun _ _ _ h => h
        (try simp only [Act.put, List.setIfInBounds_toArray, List.set_cons_zero, List.set_cons_succ])
        refine wpAnyH_take (i := 15) (oi := ?_) (v := ?_) ?hia15 (by kernel_rfl) ?hfa15 ?hra15 ?hQa15 ?hya15 (by assumption) ?resta15
        case hia15 => (simp only [List.getElem?_toArray, List.getElem?_cons_zero, List.getElem?_cons_succ]; rfl)
        case hfa15 => kernel_rfl
        case hra15 => kernel_rfl
        case hya15 => (refine Or.inl ⟨by rfl, ?_⟩; intro wS hSw; (try dsimp only at hSw); go_simp; (try with_reducible rfl))
        case hQa15 => exact fun _ _ _ h => h
        (try simp only [Act.put, List.setIfInBounds_toArray, List.set_cons_zero, List.set_cons_succ])
        refine wpAnyH_take (i := 16) (oi := ?_) (v := ?_) ?hia16 (by kernel_rfl) ?hfa16 ?hra16 ?hQa16 ?hya16 (by assumption) ?resta16
        case hia16 => (simp only [List.getElem?_toArray, List.getElem?_cons_zero, List.getElem?_cons_succ]; rfl)
        case hfa16 => kernel_rfl
        case hra16 => kernel_rfl
        case hya16 => (refine Or.inl ⟨by rfl, ?_⟩; intro wS hSw; (try dsimp only at hSw); go_simp; (try with_reducible rfl))
        case hQa16 => exact fun _ _ _ h => h
        (try simp only [Act.put, List.setIfInBounds_toArray, List.set_cons_zero, List.set_cons_succ])
        refine wpAnyH_take (i := 17) (oi := ?_) (v := undef) ?hia17 (by kernel_rfl) ?hfa17 ?hra17 ?hQa17 ?hya17 (by assumption) ?resta17
        case hia17 => (simp only [List.getElem?_toArray, List.getElem?_cons_zero, List.getElem?_cons_succ]; rfl)
        case hfa17 => kernel_rfl
        case hra17 => kernel_rfl
        case hya17 => exact Or.inr ⟨by rfl, rfl⟩
        case hQa17 => exact fun _ _ _ h => h
        (try simp only [Act.put, List.setIfInBounds_toArray, List.set_cons_zero, List.set_cons_succ])
        refine wpAnyH_take (i := 18) (oi := ?_) (v := undef) ?hia18 (by kernel_rfl) ?hfa18 ?hra18 ?hQa18 ?hya18 (by assumption) ?resta18
        case hia18 => (simp only [List.getElem?_toArray, List.getElem?_cons_zero, List.getElem?_cons_succ]; rfl)
        case hfa18 => kernel_rfl
        case hra18 => kernel_rfl
        case hya18 => exact Or.inr ⟨by rfl, rfl⟩
        case hQa18 => exact fun _ _ _ h => h
        (try simp only [Act.put, List.setIfInBounds_toArray, List.set_cons_zero, List.set_cons_succ])
        refine wpAnyH_take (i := 19) (oi := ?_) (v := undef) ?hia19 (by kernel_rfl) ?hfa19 ?hra19 ?hQa19 ?hya19 (by assumption) ?resta19
        case hia19 => (simp only [List.getElem?_toArray, List.getElem?_cons_zero, List.getElem?_cons_succ]; rfl)
        case hfa19 => kernel_rfl
        case hra19 => kernel_rfl
        case hya19 => exact Or.inr ⟨by rfl, rfl⟩
        case hQa19 => exact fun _ _ _ h => h
        (try simp only [Act.put, List.setIfInBounds_toArray, List.set_cons_zero, List.set_cons_succ])
        refine wpAnyH_take (i := 20) (oi := ?_) (v := undef) ?hia20 (by kernel_rfl) ?hfa20 ?hra20 ?hQa20 ?hya20 (by assumption) ?resta20
        case hia20 => (simp only [List.getElem?_toArray, List.getElem?_cons_zero, List.getElem?_cons_succ]; rfl)
        case hfa20 => kernel_rfl
        case hra20 => kernel_rfl
        case hya20 => exact Or.inr ⟨by rfl, rfl⟩
        case hQa20 => exact fun _ _ _ h => h
        (try simp only [Act.put, List.setIfInBounds_toArray, List.set_cons_zero, List.set_cons_succ])
        refine wpAnyH_take (i := 21) (oi := ?_) (v := undef) ?hia21 (by kernel_rfl) ?hfa21 ?hra21 ?hQa21 ?hya21 (by assumption) ?resta21
        case hia21 => (simp only [List.getElem?_toArray, List.getElem?_cons_zero, List.getElem?_cons_succ]; rfl)
        case hfa21 => kernel_rfl
        case hra21 => kernel_rfl
        case hya21 => exact Or.inr ⟨by rfl, rfl⟩
        case hQa21 => exact fun _ _ _ h => h
        (try simp only [Act.put, List.setIfInBounds_toArray, List.set_cons_zero, List.set_cons_succ])
        refine wpAnyH_take (i := 22) (oi := ?_) (v := undef) ?hia22 (by kernel_rfl) ?hfa22 ?hra22 ?hQa22 ?hya22 (by assumption) ?resta22
        case hia22 => (simp only [List.getElem?_toArray, List.getElem?_cons_zero, List.getElem?_cons_succ]; rfl)
        case hfa22 => kernel_rfl
        case hra22 => kernel_rfl
        case hya22 => exact Or.inr ⟨by rfl, rfl⟩
        case hQa22 => exact fun _ _ _ h => h
        (try simp only [Act.put, List.setIfInBounds_toArray, List.set_cons_zero, List.set_cons_succ])
        refine wpAnyH_take (i := 23) (oi := ?_) (v := undef) ?hia23 (by kernel_rfl) ?hfa23 ?hra23 ?hQa23 ?hya23 (by assumption) ?resta23
        case hia23 => (simp only [List.getElem?_toArray, List.getElem?_cons_zero, List.getElem?_cons_succ]; rfl)
        case hfa23 => kernel_rfl
        case hra23 => kernel_rfl
        case hya23 => exact Or.inr ⟨by rfl, rfl⟩
        case hQa23 => exact fun _ _ _ h => h
        (try simp only [Act.put, List.setIfInBounds_toArray, List.set_cons_zero, List.set_cons_succ])
        refine wpAnyH_take (i := 24) (oi := ?_) (v := undef) ?hia24 (by kernel_rfl) ?hfa24 ?hra24 ?hQa24 ?hya24 (by assumption) ?resta24
        case hia24 => (simp only [List.getElem?_toArray, List.getElem?_cons_zero, List.getElem?_cons_succ]; rfl)
        case hfa24 => kernel_rfl
        case hra24 => kernel_rfl
        case hya24 => exact Or.inr ⟨by rfl, rfl⟩
        case hQa24 => exact fun _ _ _ h => h
        (try simp only [Act.put, List.setIfInBounds_toArray, List.set_cons_zero, List.set_cons_succ])
        refine wpAnyH_take (i := 25) (oi := ?_) (v := undef) ?hia25 (by kernel_rfl) ?hfa25 ?hra25 ?hQa25 ?hya25 (by assumption) ?resta25
        case hia25 => (simp only [List.getElem?_toArray, List.getElem?_cons_zero, List.getElem?_cons_succ]; rfl)
        case hfa25 => kernel_rfl
        case hra25 => kernel_rfl
        case hya25 => exact Or.inr ⟨by rfl, rfl⟩
        case hQa25 => exact fun _ _ _ h => h
        (try simp only [Act.put, List.setIfInBounds_toArray, List.set_cons_zero, List.set_cons_succ])
        refine wpAnyH_take (i := 26) (oi := ?_) (v := undef) ?hia26 (by kernel_rfl) ?hfa26 ?hra26 ?hQa26 ?hya26 (by assumption) ?resta26
        case hia26 => (simp only [List.getElem?_toArray, List.getElem?_cons_zero, List.getElem?_cons_succ]; rfl)
        case hfa26 => kernel_rfl
        case hra26 => kernel_rfl
        case hya26 => exact Or.inr ⟨by rfl, rfl⟩
        case hQa26 => exact fun _ _ _ h => h
        (try simp only [Act.put, List.setIfInBounds_toArray, List.set_cons_zero, List.set_cons_succ])
        refine wpAnyH_take (i := 27) (oi := ?_) (v := ?_) ?hia27 (by kernel_rfl) ?hfa27 ?hra27 ?hQa27 ?hya27 (by assumption) ?resta27
        case hia27 => (simp only [List.getElem?_toArray, List.getElem?_cons_zero, List.getElem?_cons_succ]; rfl)
        case hfa27 => kernel_rfl
        case hra27 => kernel_rfl
        case hya27 => (refine Or.inl ⟨by rfl, ?_⟩; intro wS hSw; (try dsimp only at hSw); go_simp; (try with_reducible rfl))
        case hQa27 => exact fun _ _ _ h => h
        (try simp only [Act.put, List.setIfInBounds_toArray, List.set_cons_zero, List.set_cons_succ])
        refine wpAnyH_take (i := 28) (oi := ?_) (v := ?_) ?hia28 (by kernel_rfl) ?hfa28 ?hra28 ?hQa28 ?hya28 (by assumption) ?resta28
        case hia28 => (simp only [List.getElem?_toArray, List.getElem?_cons_zero, List.getElem?_cons_succ]; rfl)
        case hfa28 => kernel_rfl
        case hra28 => kernel_rfl
        case hya28 => (refine Or.inl ⟨by rfl, ?_⟩; intro wS hSw; (try dsimp only at hSw); go_simp; (try with_reducible rfl))
        case hQa28 => exact fun _ _ _ h => h
        (try simp only [Act.put, List.setIfInBounds_toArray, List.set_cons_zero, List.set_cons_succ])
        refine wpAnyH_done (by kernel_rfl) ?_ _
        have H9 := Lib.hid (bel_step HB.out (by assumption : _ ∧ _ ∧ _ ∧ Below wr.heap.size wr _).2.2.2)
        go_wp2
        go_roundw
        case rel => exact ⟨1, by omega, by first | rfl | go_num, H9.out⟩
        case measure => simp [intOf]; omega
      · obtain ⟨y, hy⟩ : ∃ y, (M[i - 1]'(by omega)).1 = y := ⟨_, rfl⟩
        have d0 := hi (i - 1) (by omega)
        rw [List.getElem_map, hy] at d0
        have hk1 : (0 : Int) < (i : Int) := by omega
        obtain ⟨j, hj⟩ : ∃ j, i - 1 = j := ⟨_, rfl⟩
        have hk2 : (0 : Int) ≤ (j : Int) := by omega
        have hk3 : (j : Int) < (l9 : Int) := by omega
        have hwi : IntKind.i64.wrap ((i : Int) - 1) = (j : Int) := by rw [show (i : Int) - 1 = (j : Int) by omega]; exact wrap_small (by omega) (by omega)
        have hyx : y.data.toList < x.data.toList := by
          have h := List.pairwise_iff_getElem.1 HNS.out (i - 1) i (by unfold nmsL; rw [List.length_map]; omega) (by unfold nmsL; rw [List.length_map]; omega) (by omega)
          unfold nmsL at h
          rw [List.getElem_map, List.getElem_map, hx, hy] at h
          exact h
        rw [hj] at d0
        have h8 : C2 wr b (off + i) (off + j) x y wr := ⟨c0, d0, clt, Below.refl _ _⟩
        clear hj
        clear hi hp hl hML c0 d0 clt hx hy hwb hB HW HRW HNS
        have hless : Op.bytesLess y.toList x.toList = true := by rw [bytesLess_eq, ByteArray.toList_eq, ByteArray.toList_eq]; simpa using hyx
        clear hyx
        have HGE := Lib.hid (show decide (0 < i) = true by rw [decide_eq_true_eq]; omega)
        clear hk1
        go_wp2_with fail
        have hge := HGE.out
        refine wp_region_held_drew (S := (fun w' => w'.cell? ⟨b, off + i, none⟩ = some (.string x) ∧ w'.cell? ⟨b, off + j, none⟩ = some (.string y) ∧ b < w'.heap.size ∧ Below wr.heap.size wr w')) (by kernel_rfl) ?_ (fun hHeld => ?_)
        · exact c2_drew h8
        refine wpAnyH_take (i := 0) (oi := ?_) (v := ?_) ?hib0 (by kernel_rfl) ?hfb0 ?hrb0 ?hQb0 ?hyb0 (by assumption) ?restb0
        case hib0 => (simp only [List.getElem?_toArray, List.getElem?_cons_zero, List.getElem?_cons_succ]; rfl)
        case hfb0 => kernel_rfl
        case hrb0 => kernel_rfl
        case hyb0 => (refine Or.inl ⟨by rfl, ?_⟩; intro wS hSw; (try dsimp only at hSw); go_simp; (try with_reducible rfl))
        case hQb0 => exact fun _ _ _ h => h
        (try simp only [Act.put, List.setIfInBounds_toArray, List.set_cons_zero, List.set_cons_succ])
        refine wpAnyH_take (i := 1) (oi := ?_) (v := ?_) ?hib1 (by kernel_rfl) ?hfb1 ?hrb1 ?hQb1 ?hyb1 (by assumption) ?restb1
        case hib1 => (simp only [List.getElem?_toArray, List.getElem?_cons_zero, List.getElem?_cons_succ]; rfl)
        case hfb1 => kernel_rfl
        case hrb1 => kernel_rfl
        case hyb1 => (refine Or.inl ⟨by rfl, ?_⟩; intro wS hSw; (try dsimp only at hSw); go_simp; (try with_reducible rfl))
        case hQb1 => exact fun _ _ _ h => h
        (try simp only [Act.put, List.setIfInBounds_toArray, List.set_cons_zero, List.set_cons_succ])
        refine wpAnyH_take (i := 2) (oi := ?_) (v := ?_) ?hib2 (by kernel_rfl) ?hfb2 ?hrb2 ?hQb2 ?hyb2 (by assumption) ?restb2
        case hib2 => (simp only [List.getElem?_toArray, List.getElem?_cons_zero, List.getElem?_cons_succ]; rfl)
        case hfb2 => kernel_rfl
        case hrb2 => kernel_rfl
        case hyb2 => (refine Or.inl ⟨by rfl, ?_⟩; intro wS hSw; (try dsimp only at hSw); go_simp; (try with_reducible rfl))
        case hQb2 => exact fun _ _ _ h => h
        (try simp only [Act.put, List.setIfInBounds_toArray, List.set_cons_zero, List.set_cons_succ])
        refine wpAnyH_take (i := 3) (oi := ?_) (v := ?_) ?hib3 (by kernel_rfl) ?hfb3 ?hrb3 ?hQb3 ?hyb3 (by assumption) ?restb3
        case hib3 => (simp only [List.getElem?_toArray, List.getElem?_cons_zero, List.getElem?_cons_succ]; rfl)
        case hfb3 => kernel_rfl
        case hrb3 => kernel_rfl
        case hyb3 => (refine Or.inl ⟨by rfl, ?_⟩; intro wS hSw; (try dsimp only at hSw); go_simp; (try with_reducible rfl))
        case hQb3 => exact fun _ _ _ h => h
        (try simp only [Act.put, List.setIfInBounds_toArray, List.set_cons_zero, List.set_cons_succ])
        refine wpAnyH_take (i := 4) (oi := ?_) (v := ?_) ?hib4 (by kernel_rfl) ?hfb4 ?hrb4 ?hQb4 ?hyb4 (by assumption) ?restb4
        case hib4 => (simp only [List.getElem?_toArray, List.getElem?_cons_zero, List.getElem?_cons_succ]; rfl)
        case hfb4 => kernel_rfl
        case hrb4 => kernel_rfl
        case hyb4 => (refine Or.inl ⟨by rfl, ?_⟩; intro wS hSw; (try dsimp only at hSw); go_simp; (try with_reducible rfl))
        case hQb4 => exact fun _ _ _ h => h
        (try simp only [Act.put, List.setIfInBounds_toArray, List.set_cons_zero, List.set_cons_succ])
        refine wpAnyH_take (i := 6) (oi := ?_) (v := ?_) ?hib6 (by kernel_rfl) ?hfb6 ?hrb6 ?hQb6 ?hyb6 (by assumption) ?restb6
        case hib6 => (simp only [List.getElem?_toArray, List.getElem?_cons_zero, List.getElem?_cons_succ]; rfl)
        case hfb6 => kernel_rfl
        case hrb6 => kernel_rfl
        case hyb6 => (refine Or.inl ⟨by rfl, ?_⟩; intro wS hSw; (try dsimp only at hSw); go_simp; (try with_reducible rfl))
        case hQb6 => exact fun _ _ _ h => h
        (try simp only [Act.put, List.setIfInBounds_toArray, List.set_cons_zero, List.set_cons_succ])
        refine wpAnyH_take (i := 7) (oi := ?_) (v := ?_) ?hib7 (by kernel_rfl) ?hfb7 ?hrb7 ?hQb7 ?hyb7 (by assumption) ?restb7
        case hib7 => (simp only [List.getElem?_toArray, List.getElem?_cons_zero, List.getElem?_cons_succ]; rfl)
        case hfb7 => kernel_rfl
        case hrb7 => kernel_rfl
        case hyb7 => (refine Or.inl ⟨by rfl, ?_⟩; intro wS hSw; (try dsimp only at hSw); go_simp; (try with_reducible rfl))
        case hQb7 => exact fun _ _ _ h => h
        (try simp only [Act.put, List.setIfInBounds_toArray, List.set_cons_zero, List.set_cons_succ])
        refine wpAnyH_take (i := 8) (oi := ?_) (v := ?_) ?hib8 (by kernel_rfl) ?hfb8 ?hrb8 ?hQb8 ?hyb8 (by assumption) ?restb8
        case hib8 => (simp only [List.getElem?_toArray, List.getElem?_cons_zero, List.getElem?_cons_succ]; rfl)
        case hfb8 => kernel_rfl
        case hrb8 => kernel_rfl
        case hyb8 => (refine Or.inl ⟨by rfl, ?_⟩; intro wS hSw; (try dsimp only at hSw); go_simp; (try with_reducible rfl))
        case hQb8 => exact fun _ _ _ h => h
        (try simp only [Act.put, List.setIfInBounds_toArray, List.set_cons_zero, List.set_cons_succ])
        refine wpAnyH_take (i := 9) (oi := ?_) (v := ?_) ?hib9 (by kernel_rfl) ?hfb9 ?hrb9 ?hQb9 ?hyb9 (by assumption) ?restb9
        case hib9 => (simp only [List.getElem?_toArray, List.getElem?_cons_zero, List.getElem?_cons_succ]; rfl)
        case hfb9 => kernel_rfl
        case hrb9 => kernel_rfl
        case hyb9 => (refine Or.inl ⟨by rfl, ?_⟩; intro wS hSw; (try dsimp only at hSw); go_simp; (try with_reducible rfl))
        case hQb9 => exact fun _ _ _ h => h
        (try simp only [Act.put, List.setIfInBounds_toArray, List.set_cons_zero, List.set_cons_succ])
        refine wpAnyH_take (i := 10) (oi := ?_) (v := ?_) ?hib10 (by kernel_rfl) ?hfb10 ?hrb10 ?hQb10 ?hyb10 (by assumption) ?restb10
        case hib10 => (simp only [List.getElem?_toArray, List.getElem?_cons_zero, List.getElem?_cons_succ]; rfl)
        case hfb10 => kernel_rfl
        case hrb10 => kernel_rfl
        case hyb10 => (refine Or.inl ⟨by rfl, ?_⟩; intro wS hSw; (try dsimp only at hSw); go_simp; (try with_reducible rfl))
        case hQb10 => exact fun _ _ _ h => h
        (try simp only [Act.put, List.setIfInBounds_toArray, List.set_cons_zero, List.set_cons_succ])
        refine wpAnyH_ready (rs := [5]) (by kernel_rfl) (by simp) ?_
        refine AllReadyH.cons (o := ?_) ?hob5 ?hstb5 AllReadyH.nil
        case hob5 => (simp only [List.getElem?_toArray, List.getElem?_cons_zero, List.getElem?_cons_succ]; rfl)
        intro K hK
        go_simp
        go_at_call 17; refine (HWx.out _).mono ?_; rintro e w4 ⟨rfl, hb4⟩; have hk8 := c2_step hHeld hb4; clear hb4
        go_wp2_with fail
        refine hK.out _ _ ?hsb5 (fun hHeld => ?_)
        case hsb5 => exact hk8
        clear hK K
        (try simp only [Act.put, List.setIfInBounds_toArray, List.set_cons_zero, List.set_cons_succ])
        refine wpAnyH_ready (rs := [11]) (by kernel_rfl) (by simp) ?_
        refine AllReadyH.cons (o := ?_) ?hob11 ?hstb11 AllReadyH.nil
        case hob11 => (simp only [List.getElem?_toArray, List.getElem?_cons_zero, List.getElem?_cons_succ]; rfl)
        intro K hK
        go_simp
        go_at_call 18; refine (HRWx.out _).mono ?_; rintro e w4 ⟨rfl, hb4⟩; have hk8 := c2_step hHeld hb4; clear hb4
        go_wp2_with fail
        refine hK.out _ _ ?hsb11 (fun hHeld => ?_)
        case hsb11 => exact hk8
        clear hK K
        (try simp only [Act.put, List.setIfInBounds_toArray, List.set_cons_zero, List.set_cons_succ])
        refine wpAnyH_take (i := 12) (oi := ?_) (v := ?_) ?hib12 (by kernel_rfl) ?hfb12 ?hrb12 ?hQb12 ?hyb12 (by assumption) ?restb12
        case hib12 => (simp only [List.getElem?_toArray, List.getElem?_cons_zero, List.getElem?_cons_succ]; rfl)
        case hfb12 => kernel_rfl
        case hrb12 => kernel_rfl
        case hyb12 => (refine Or.inl ⟨by rfl, ?_⟩; intro wS hSw; (try dsimp only at hSw); go_simp; (try with_reducible rfl))
        case hQb12 => exact fun _ _ _ h => h
        (try simp only [Act.put, List.setIfInBounds_toArray, List.set_cons_zero, List.set_cons_succ])
        refine wpAnyH_take (i := 13) (oi := ?_) (v := ?_) ?hib13 (by kernel_rfl) ?hfb13 ?hrb13 ?hQb13 ?hyb13 (by assumption) ?restb13
        case hib13 => (simp only [List.getElem?_toArray, List.getElem?_cons_zero, List.getElem?_cons_succ]; rfl)
        case hfb13 => kernel_rfl
        case hrb13 => kernel_rfl
        case hyb13 => (refine Or.inl ⟨by rfl, ?_⟩; intro wS hSw; (try dsimp only at hSw); go_simp; (try with_reducible rfl))
        case hQb13 => exact fun _ _ _ h => h
        (try simp only [Act.put, List.setIfInBounds_toArray, List.set_cons_zero, List.set_cons_succ])
        refine wpAnyH_take (i := 14) (oi := ?_) (v := ?_) ?hib14 (by kernel_rfl) ?hfb14 ?hrb14 ?hQb14 ?hyb14 (by assumption) ?restb14
        case hib14 => (simp only [List.getElem?_toArray, List.getElem?_cons_zero, List.getElem?_cons_succ]; rfl)
        case hfb14 => kernel_rfl
        case hrb14 => kernel_rfl
        case hyb14 => (refine Or.inl ⟨by rfl, ?_⟩; intro wS hSw; (try dsimp only at hSw); go_simp; (try with_reducible rfl))
        case hQb14 => exact fun _ _ _ h => h
        (try simp only [Act.put, List.setIfInBounds_toArray, List.set_cons_zero, List.set_cons_succ])
        refine wpAnyH_take (i := 15) (oi := ?_) (v := ?_) ?hib15 (by kernel_rfl) ?hfb15 ?hrb15 ?hQb15 ?hyb15 (by assumption) ?restb15
        case hib15 => (simp only [List.getElem?_toArray, List.getElem?_cons_zero, List.getElem?_cons_succ]; rfl)
        case hfb15 => kernel_rfl
        case hrb15 => kernel_rfl
        case hyb15 => (refine Or.inl ⟨by rfl, ?_⟩; intro wS hSw; (try dsimp only at hSw); go_simp; (try with_reducible rfl))
        case hQb15 => exact fun _ _ _ h => h
        (try simp only [Act.put, List.setIfInBounds_toArray, List.set_cons_zero, List.set_cons_succ])
        refine wpAnyH_take (i := 16) (oi := ?_) (v := ?_) ?hib16 (by kernel_rfl) ?hfb16 ?hrb16 ?hQb16 ?hyb16 (by assumption) ?restb16
        case hib16 => (simp only [List.getElem?_toArray, List.getElem?_cons_zero, List.getElem?_cons_succ]; rfl)
        case hfb16 => kernel_rfl
        case hrb16 => kernel_rfl
        case hyb16 => (refine Or.inl ⟨by rfl, ?_⟩; intro wS hSw; (try dsimp only at hSw); go_simp; (try with_reducible rfl))
        case hQb16 => exact fun _ _ _ h => h
        (try simp only [Act.put, List.setIfInBounds_toArray, List.set_cons_zero, List.set_cons_succ])
        refine wpAnyH_take (i := 17) (oi := ?_) (v := ?_) ?hib17 (by kernel_rfl) ?hfb17 ?hrb17 ?hQb17 ?hyb17 (by assumption) ?restb17
        case hib17 => (simp only [List.getElem?_toArray, List.getElem?_cons_zero, List.getElem?_cons_succ]; rfl)
        case hfb17 => kernel_rfl
        case hrb17 => kernel_rfl
        case hyb17 => (refine Or.inl ⟨by rfl, ?_⟩; intro wS hSw; (try dsimp only at hSw); go_simp; (try with_reducible rfl))
        case hQb17 => exact fun _ _ _ h => h
        (try simp only [Act.put, List.setIfInBounds_toArray, List.set_cons_zero, List.set_cons_succ])
        refine wpAnyH_take (i := 18) (oi := ?_) (v := ?_) ?hib18 (by kernel_rfl) ?hfb18 ?hrb18 ?hQb18 ?hyb18 (by assumption) ?restb18
        case hib18 => (simp only [List.getElem?_toArray, List.getElem?_cons_zero, List.getElem?_cons_succ]; rfl)
        case hfb18 => kernel_rfl
        case hrb18 => kernel_rfl
        case hyb18 => (refine Or.inl ⟨by rfl, ?_⟩; intro wS hSw; (try dsimp only at hSw); go_simp; (try with_reducible rfl))
        case hQb18 => exact fun _ _ _ h => h
        (try simp only [Act.put, List.setIfInBounds_toArray, List.set_cons_zero, List.set_cons_succ])
        refine wpAnyH_take (i := 19) (oi := ?_) (v := ?_) ?hib19 (by kernel_rfl) ?hfb19 ?hrb19 ?hQb19 ?hyb19 (by assumption) ?restb19
        case hib19 => (simp only [List.getElem?_toArray, List.getElem?_cons_zero, List.getElem?_cons_succ]; rfl)
        case hfb19 => kernel_rfl
        case hrb19 => kernel_rfl
        case hyb19 => (refine Or.inl ⟨by rfl, ?_⟩; intro wS hSw; (try dsimp only at hSw); go_simp; (try with_reducible rfl))
        case hQb19 => exact fun _ _ _ h => h
        (try simp only [Act.put, List.setIfInBounds_toArray, List.set_cons_zero, List.set_cons_succ])
        refine wpAnyH_take (i := 20) (oi := ?_) (v := ?_) ?hib20 (by kernel_rfl) ?hfb20 ?hrb20 ?hQb20 ?hyb20 (by assumption) ?restb20
        case hib20 => (simp only [List.getElem?_toArray, List.getElem?_cons_zero, List.getElem?_cons_succ]; rfl)
        case hfb20 => kernel_rfl
        case hrb20 => kernel_rfl
        case hyb20 => (refine Or.inl ⟨by rfl, ?_⟩; intro wS hSw; (try dsimp only at hSw); go_simp; (try with_reducible rfl))
        case hQb20 => exact fun _ _ _ h => h
        (try simp only [Act.put, List.setIfInBounds_toArray, List.set_cons_zero, List.set_cons_succ])
        refine wpAnyH_take (i := 21) (oi := ?_) (v := ?_) ?hib21 (by kernel_rfl) ?hfb21 ?hrb21 ?hQb21 ?hyb21 (by assumption) ?restb21
        case hib21 => (simp only [List.getElem?_toArray, List.getElem?_cons_zero, List.getElem?_cons_succ]; rfl)
        case hfb21 => kernel_rfl
        case hrb21 => kernel_rfl
        case hyb21 => (refine Or.inl ⟨by rfl, ?_⟩; intro wS hSw; (try dsimp only at hSw); go_simp; (try with_reducible rfl))
        case hQb21 => exact fun _ _ _ h => h
        (try simp only [Act.put, List.setIfInBounds_toArray, List.set_cons_zero, List.set_cons_succ])
        refine wpAnyH_take (i := 22) (oi := ?_) (v := ?_) ?hib22 (by kernel_rfl) ?hfb22 ?hrb22 ?hQb22 ?hyb22 (by assumption) ?restb22
        case hib22 => (simp only [List.getElem?_toArray, List.getElem?_cons_zero, List.getElem?_cons_succ]; rfl)
        case hfb22 => kernel_rfl
        case hrb22 => kernel_rfl
        case hyb22 => (refine Or.inl ⟨by rfl, ?_⟩; intro wS hSw; (try dsimp only at hSw); go_simp; (try with_reducible rfl))
        case hQb22 => exact fun _ _ _ h => h
        (try simp only [Act.put, List.setIfInBounds_toArray, List.set_cons_zero, List.set_cons_succ])
        refine wpAnyH_take (i := 23) (oi := ?_) (v := ?_) ?hib23 (by kernel_rfl) ?hfb23 ?hrb23 ?hQb23 ?hyb23 (by assumption) ?restb23
        case hib23 => (simp only [List.getElem?_toArray, List.getElem?_cons_zero, List.getElem?_cons_succ]; rfl)
        case hfb23 => kernel_rfl
        case hrb23 => kernel_rfl
        case hyb23 => (refine Or.inl ⟨by rfl, ?_⟩; intro wS hSw; (try dsimp only at hSw); go_simp; (try with_reducible rfl))
        case hQb23 => exact fun _ _ _ h => h
        (try simp only [Act.put, List.setIfInBounds_toArray, List.set_cons_zero, List.set_cons_succ])
        refine wpAnyH_take (i := 24) (oi := ?_) (v := ?_) ?hib24 (by kernel_rfl) ?hfb24 ?hrb24 ?hQb24 ?hyb24 (by assumption) ?restb24
        case hib24 => (simp only [List.getElem?_toArray, List.getElem?_cons_zero, List.getElem?_cons_succ]; rfl)
        case hfb24 => kernel_rfl
        case hrb24 => kernel_rfl
        case hyb24 => (refine Or.inl ⟨by rfl, ?_⟩; intro wS hSw; (try dsimp only at hSw); go_simp; (try with_reducible rfl))
        case hQb24 => exact fun _ _ _ h => h
        (try simp only [Act.put, List.setIfInBounds_toArray, List.set_cons_zero, List.set_cons_succ])
        refine wpAnyH_take (i := 25) (oi := ?_) (v := ?_) ?hib25 (by kernel_rfl) ?hfb25 ?hrb25 ?hQb25 ?hyb25 (by assumption) ?restb25
        case hib25 => (simp only [List.getElem?_toArray, List.getElem?_cons_zero, List.getElem?_cons_succ]; rfl)
        case hfb25 => kernel_rfl
        case hrb25 => kernel_rfl
        case hyb25 => (refine Or.inl ⟨by rfl, ?_⟩; intro wS hSw; (try dsimp only at hSw); go_simp; (try with_reducible rfl))
        case hQb25 => exact fun _ _ _ h => h
        (try simp only [Act.put, List.setIfInBounds_toArray, List.set_cons_zero, List.set_cons_succ])
        refine wpAnyH_take (i := 26) (oi := ?_) (v := ?_) ?hib26 (by kernel_rfl) ?hfb26 ?hrb26 ?hQb26 ?hyb26 (by assumption) ?restb26
        case hib26 => (simp only [List.getElem?_toArray, List.getElem?_cons_zero, List.getElem?_cons_succ]; rfl)
        case hfb26 => kernel_rfl
        case hrb26 => kernel_rfl
        case hyb26 => (refine Or.inl ⟨by rfl, ?_⟩; intro wS hSw; (try dsimp only at hSw); go_simp; (try with_reducible rfl))
        case hQb26 => exact fun _ _ _ h => h
        (try simp only [Act.put, List.setIfInBounds_toArray, List.set_cons_zero, List.set_cons_succ])
        refine wpAnyH_take (i := 27) (oi := ?_) (v := ?_) ?hib27 (by kernel_rfl) ?hfb27 ?hrb27 ?hQb27 ?hyb27 (by assumption) ?restb27
        case hib27 => (simp only [List.getElem?_toArray, List.getElem?_cons_zero, List.getElem?_cons_succ]; rfl)
        case hfb27 => kernel_rfl
        case hrb27 => kernel_rfl
        case hyb27 => (refine Or.inl ⟨by rfl, ?_⟩; intro wS hSw; (try dsimp only at hSw); go_simp; (try with_reducible rfl))
        case hQb27 => exact fun _ _ _ h => h
        (try simp only [Act.put, List.setIfInBounds_toArray, List.set_cons_zero, List.set_cons_succ])
        refine wpAnyH_take (i := 28) (oi := ?_) (v := ?_) ?hib28 (by kernel_rfl) ?hfb28 ?hrb28 ?hQb28 ?hyb28 (by assumption) ?restb28
        case hib28 => (simp only [List.getElem?_toArray, List.getElem?_cons_zero, List.getElem?_cons_succ]; rfl)
        case hfb28 => kernel_rfl
        case hrb28 => kernel_rfl
        case hyb28 => (refine Or.inl ⟨by rfl, ?_⟩; intro wS hSw; (try dsimp only at hSw); go_simp; (try with_reducible rfl))
        case hQb28 => exact fun _ _ _ h => h
        (try simp only [Act.put, List.setIfInBounds_toArray, List.set_cons_zero, List.set_cons_succ])
        refine wpAnyH_done (by kernel_rfl) ?_ _
        have H9 := Lib.hid (bel_step HB.out (by assumption : _ ∧ _ ∧ _ ∧ Below wr.heap.size wr _).2.2.2)
        go_wp2
        go_roundw
        case rel => exact ⟨i + 1, by omega, by first | rfl | go_num, H9.out⟩
        case measure => simp [intOf]; omega
    · clear hB
      go_wp2
      go_ret
      exact ⟨rfl, bel_step HB13.out HB.out⟩
end Num
end Go.Proofs.Ythmgmfmecfmeeaa
