/-
  The reference: find, Check of a ledger's arguments.
-/
import Derived.Test.YtpbfaffheigjcaaGreatVMI
import Derived.Test.YtpbfaffheigjcaaGreatVp7HB
import Derived.Test.YtpbfaffheigjcaaGreatVp14LD
import Derived.Deep.RegionHeld3
import Derived.RegionTactic
import Derived.Deep.DeepCutAuto
namespace Go.Proofs.YtpbfaffheigjcaaGreat
open Go.RowKit
namespace Num
open Ints
set_option linter.unusedSimpArgs false
set_option linter.unusedVariables false
theorem ba_beq8 (a b : ByteArray) : (a == b) = (a.data == b.data) := by
  cases a
  cases b
  rfl
theorem ba_eq8 (x k : ByteArray) : (x.toList == k.toList) = (k == x) := by
  rw [ByteArray.toList_eq, ByteArray.toList_eq, ba_beq8]
  by_cases h : k = x
  · subst h; simp
  · have e1 : (x.data.toList == k.data.toList) = false := by rw [beq_eq_false_iff_ne]; exact fun e => h (WideShapes.bytes_inj e.symm)
    have e2 : (k.data == x.data) = false := by rw [beq_eq_false_iff_ne]; exact fun e => h (WideShapes.bytes_inj (by rw [e]))
    rw [e1, e2]
theorem fd_drop {k : ByteArray} {M : List (ByteArray × Bool × ByteArray)} {i : Nat} (h : i < M.length) : findM k (M.drop i) = if (M[i].1.toList == k.toList) = true then some M[i] else findM k (M.drop (i + 1)) := by
  rw [List.drop_eq_getElem_cons h, ba_eq8]
  rfl
def findV (o : Option (ByteArray × Bool × ByteArray)) : Value := match o with
  | some x => .tuple #[.agg #[.string x.1, .string x.2.2, .bool x.2.1], .bool true]
  | none => .tuple #[.agg #[.string ⟨#[]⟩, .string ⟨#[]⟩, .bool false], .bool false]
set_option maxRecDepth 100000 in
set_option maxHeartbeats 4000000 in
theorem rfind_any (c k : ByteArray) (w : World) (hM7 : (metas c).length ≤ 7) : Calls Tryz.prog 63 #[.string c, .string k] w fun e w' => e = .returned (findV (findM k (metas c))) ∧ Below w.heap.size w w' := by
  obtain ⟨M, hM⟩ : ∃ M, metas c = M := ⟨_, rfl⟩
  have HRM := Lib.hid (fun w => rmeth_any c w)
  rw [hM] at HRM hM7 ⊢
  clear hM
  have HA := Lib.hid ((Below.refl w.heap.size w).alloc (Nat.le_refl _) (.cells #[.string ⟨#[]⟩, .string ⟨#[]⟩, .bool false] 74))
  have HR := Lib.hid (row_alloc w #[.string ⟨#[]⟩, .string ⟨#[]⟩, .bool false] 74)
  go_enter Tryz.func63, Tryz.ntmps63
  go_wp2_with fail
  go_at_call 47; refine (HRM.out _).mono ?_; rintro e w1 ⟨v, rfl, hm, hb1⟩
  have HB1 := Lib.hid (bel_step HA.out hb1)
  have HR1 := Lib.hid (row_step HR.out hb1)
  clear hb1
  clear HA HR HRM
  obtain ⟨p, rfl, hp⟩ := hm
  have HP := Lib.hid hp
  clear hp
  go_wp2
  go_loopw [7] (fun i wr => ∃ j : Nat, j ≤ M.length ∧ i = .int .i64 j ∧ wr = w1 ∧ Hid (findM k (M.drop j) = findM k M)) (fun i _ => M.length - (intOf i).toNat)
  case atStart => exact ⟨0, by omega, rfl, rfl, Lib.hid rfl⟩
  case round =>
    obtain ⟨j, hj, rfl, rfl, HK⟩ := hrel
    by_cases hlt : j < M.length
    · obtain ⟨b, hpb, hi⟩ := HP.out (by omega)
      subst hpb
      obtain ⟨c0, c1, c2⟩ := hi j hlt
      have HD := Lib.hid (fd_drop (k := k) hlt)
      obtain ⟨x, hx⟩ : ∃ x, M[j] = x := ⟨_, rfl⟩
      rw [hx] at c0 c1 c2 HD
      obtain ⟨s, wr, t⟩ := x
      have hj0 : (0 : Int) ≤ (j : Int) := by omega
      have hjl : (j : Int) < (M.length : Int) := by omega
      clear hi hx
      have r0 := HR1.out
      have hlt1 := row_lt r0
      have d0 := rc r0 0
      have d1 := rc r0 1
      have d2 := rc r0 2
      simp only [lk0, lk1, lk2] at d0 d1 d2
      have df := fun o => row_frz r0 o
      clear r0
      cases he : (s.toList == k.toList)
      · have HN := Lib.hid (show findM k (M.drop (j + 1)) = findM k M by rw [← HK.out, HD.out, he]; rfl)
        clear HD HK
        go_wp2
        go_roundw
        case rel => exact ⟨j + 1, by omega, by go_num, by first | rfl | trivial, HN⟩
        case measure => simp [intOf]; omega
      · have HN := Lib.hid (show findM k M = some (s, wr, t) by rw [← HK.out, HD.out, he]; rfl)
        clear HD HK
        go_wp2
        refine bodyPost_ret (v := .tuple #[.agg #[.string s, .string t, .bool wr], .bool true]) (by simp [results, Tryz.results63, go_sem, World.cell?_setCell_same, World.cell?_setCell_other, d0, d1, d2]) rfl ⟨by rw [HN.out]; rfl, ?_⟩
        exact ((HB1.out.setCell (p := ⟨w.heap.size, 0, none⟩) (Nat.le_refl _) _).setCell (p := ⟨w.heap.size, 1, none⟩) (Nat.le_refl _) _).setCell (p := ⟨w.heap.size, 2, none⟩) (Nat.le_refl _) _
    · have HN := Lib.hid (show findM k M = none by rw [← HK.out, List.drop_of_length_le (by omega)]; rfl)
      clear HK
      have r0 := HR1.out
      have hlt1 := row_lt r0
      have d0 := rc r0 0
      have d1 := rc r0 1
      have d2 := rc r0 2
      simp only [lk0, lk1, lk2] at d0 d1 d2
      have df := fun o => row_frz r0 o
      clear r0
      go_wp2
      refine bodyPost_ret (v := .tuple #[.agg #[.string ⟨#[]⟩, .string ⟨#[]⟩, .bool false], .bool false]) (by simp [results, Tryz.results63, go_sem, World.cell?_setCell_same, World.cell?_setCell_other, d0, d1, d2]) rfl ⟨by rw [HN.out]; rfl, ?_⟩
      exact ((HB1.out.setCell (p := ⟨w.heap.size, 0, none⟩) (Nat.le_refl _) _).setCell (p := ⟨w.heap.size, 1, none⟩) (Nat.le_refl _) _).setCell (p := ⟨w.heap.size, 2, none⟩) (Nat.le_refl _) _
def rchkL (n : Nat) : List (VT (n + 1)) → Int
  | [] => 0
  | X :: r => if rcheckT (n + 1) X = 0 then rchkL n r else rcheckT (n + 1) X
theorem rchk_drop {n : Nat} {L : List (VT (n + 1))} {i : Nat} (h : i < L.length) : rchkL n (L.drop i) = if rcheckT (n + 1) L[i] = 0 then rchkL n (L.drop (i + 1)) else rcheckT (n + 1) L[i] := by
  rw [List.drop_eq_getElem_cons h]
  rfl
def tkB (c : UInt8) (n : Nat) (X : VT (n + 1)) : Bool := if c = 110 then nmV X.1 X.2.2.2.1 else isNum X.1
def rtkL (n : Nat) : List UInt8 → List (VT (n + 1)) → Bool
  | c :: t, X :: r => tkB c n X && rtkL n t r
  | _, _ => true
def rchk8 (n : Nat) (t : List UInt8) (L : List (VT (n + 1))) : Int := if rchkL n L = 0 then (if rtkL n t L = true then 0 else 31) else rchkL n L
set_option maxRecDepth 100000 in
set_option maxHeartbeats 4000000 in
theorem rcheck_nnh (n : Nat) (m : ByteArray) (nm : ByteArray) (ws : Bool) (hx : findM m msL = some (nm, ws, { data := #[110, 110, 35] })) (p : Option Addr) (c : Nat) (L : List (VT (n + 1))) (hl : L.length = 3) (w : World) (hr : RepL w (Rep w (n + 1)) p 3 c L) :
    Calls Tryz.prog 31 #[.string { data := #[108, 101, 100, 103, 101, 114] }, .string m, .slice p 3 c] w fun e w' => e = .returned (.int .i64 (rchk8 n [110, 110, 35] L)) ∧ Below w.heap.size w w' := by
  have HFD := Lib.hid (show ∀ W, Calls Tryz.prog 63 #[.string { data := #[108, 101, 100, 103, 101, 114] }, .string m] W fun e w' => e = .returned (.tuple #[.agg #[.string nm, .string { data := #[110, 110, 35] }, .bool ws], .bool true]) ∧ Below W.heap.size W w' from fun W => by
    have h := rfind_any { data := #[108, 101, 100, 103, 101, 114] } m W (by decide)
    rw [show metas { data := #[108, 101, 100, 103, 101, 114] } = msL by rfl, hx] at h
    exact h)
  have HR := Lib.hid hr
  have HLN := Lib.hid hl
  clear hx hr hl
  go_enter Tryz.func31, Tryz.ntmps31
  go_wp2_with fail
  go_at_call 63; refine (HFD.out _).mono ?_; rintro e w1 ⟨rfl, hb1⟩
  have hal := bel_alloc (Below.refl w1.heap.size w1) (.cells #[.string nm, .string { data := #[110, 110, 35] }, .bool ws] 74)
  have HB1 := Lib.hid (bel_step hb1 hal)
  clear hb1 hal HFD
  go_wp2
  generalize w1.alloc (.cells #[.string nm, .string { data := #[110, 110, 35] }, .bool ws] 74) = wa at HB1 ⊢
  go_loopw [10] (fun iv wr => ∃ i : Nat, i ≤ 3 ∧ iv = .int .i64 i ∧ Below w.heap.size w wr ∧ Hid (rchkL n (L.drop i) = rchkL n L)) (fun iv _ => 3 - (intOf iv).toNat)
  case atStart => exact ⟨0, by omega, rfl, HB1.out, Lib.hid rfl⟩
  case round =>
    obtain ⟨i, hi, rfl, hB, HK⟩ := hrel
    have HB := Lib.hid hB
    by_cases hlt : i < 3
    · obtain ⟨b, off, hpb, hit⟩ := HR.out.2.2.2 (by omega)
      subst hpb
      have hil : i < L.length := by have := HLN.out; omega
      obtain ⟨v0, v1, v2, v3, v4, c0, c1, c2, c3, c4, hre⟩ := hit i hil
      have e0 := ck hB c0; have e1 := ck hB c1; have e2 := ck hB c2; have e3 := ck hB c3; have e4 := ck hB c4
      have HRE := Lib.hid (rcheck_any (n + 1) _ _ wr (rep_keep hB _ _ _ hre))
      have HD := Lib.hid (rchk_drop (n := n) hil)
      obtain ⟨X, hX⟩ : ∃ X, rcheckT (n + 1) L[i] = X := ⟨_, rfl⟩
      rw [hX] at HRE HD
      have hi0 : (0 : Int) ≤ (i : Int) := by omega
      have hil2 : (i : Int) < 3 := by omega
      clear c0 c1 c2 c3 c4 hit hre hX hB
      go_wp2_with fail
      go_at_call 44; refine HRE.out.mono ?_; rintro e w2 ⟨rfl, hb2⟩
      have HB2 := Lib.hid (bel_step HB.out hb2)
      clear hb2 e0 e1 e2 e3 e4 HRE
      by_cases hX0 : X = 0
      · have hx1 : (X != 0) = false := by rw [hX0]; rfl
        have HN := Lib.hid (show rchkL n (L.drop (i + 1)) = rchkL n L by rw [← HK.out, HD.out, if_pos hX0])
        clear hX0 HD HK
        go_wp2
        go_roundw
        case rel => exact ⟨i + 1, by omega, by go_num, HB2.out, HN⟩
        case measure => simp [intOf]; omega
      · have hx1 : (X != 0) = true := bne_iff_ne.2 hX0
        have hXL : rchkL n L = X := by rw [← HK.out, HD.out, if_neg hX0]
        have HN := Lib.hid (show X = rchk8 n [110, 110, 35] L by unfold rchk8; rw [hXL, if_neg hX0])
        clear hX0 HD HK hXL
        go_wp2
        go_ret
        exact ⟨by rw [← HN.out]; rfl, HB2.out⟩
    · have HIN := Lib.hid (show i = 3 by omega)
      have hnl : ¬ ((i : Int) < 3) := by omega
      have HC0 := Lib.hid (show rchkL n L = 0 by rw [← HK.out, List.drop_of_length_le (by have := HLN.out; have := HIN.out; omega)]; rfl)
      clear HK hB
      go_wp2
      go_loopw [12] (fun iv wr => ∃ i : Nat, i ≤ 3 ∧ iv = .int .i64 i ∧ Below w.heap.size w wr ∧ Hid (rtkL n ([110, 110, 35].drop i) (L.drop i) = rtkL n [110, 110, 35] L)) (fun iv _ => 3 - (intOf iv).toNat)
      case atStart => exact ⟨0, by omega, rfl, HB.out, Lib.hid rfl⟩
      case round =>
        obtain ⟨i, hi, rfl, hB, HK⟩ := hrel
        by_cases hlt : i < 3
        · obtain ⟨b, off, hpb, hit⟩ := HR.out.2.2.2 (by omega)
          subst hpb
          have hil : i < L.length := by have := HLN.out; omega
          obtain ⟨v0, v1, v2, v3, v4, c0, c1, c2, c3, c4, hre⟩ := hit i hil
          obtain ⟨K3, I3, F3, S3, q3, m3, d3, hv, _⟩ := rep_shape hre
          injection hv with hv
          simp only [Array.mk.injEq, List.cons.injEq, and_true] at hv
          obtain ⟨rfl, rfl, rfl, rfl, rfl⟩ := hv
          have hkk : L[i].1 = K3 ∧ L[i].2.2.2.1 = S3 := by
            obtain ⟨p', l', c', hv', _⟩ := hre
            injection hv' with hv'
            simp only [Array.mk.injEq, List.cons.injEq, and_true] at hv'
            obtain ⟨e1, _, _, e4, _⟩ := hv'
            injection e1 with _ e1
            injection e4 with e4
            exact ⟨e1.symm, e4.symm⟩
          have HC0' := Lib.hid c0; have HC1 := Lib.hid c1; have HC2 := Lib.hid c2; have HC3 := Lib.hid c3; have HC4 := Lib.hid c4
          have hbw := cell_lt c0
          have TRb := Lib.hid hB
          have hdr : L.drop i = L[i] :: L.drop (i + 1) := List.drop_eq_getElem_cons hil
          have HDR := Lib.hid hdr
          have HKK := Lib.hid hkk
          clear hit hre hdr hkk c0 c1 c2 c3 c4 hB
          have hic : i = 0 ∨ i = 1 ∨ i = 2 := by omega
          rcases hic with rfl | rfl | rfl
          · have HKX := Lib.hid (show ((nmV K3 S3) && rtkL n ([110, 110, 35].drop 1) (L.drop (0 + 1))) = rtkL n [110, 110, 35] L by rw [← HK.out, HDR.out]; show _ = (tkB 110 n _ && _); unfold tkB; rw [if_pos rfl]; rw [HKK.out.1, HKK.out.2]; rfl)
            have y0 := HC0'.out
            have y1 := HC1.out
            have y2 := HC2.out
            have y3 := HC3.out
            have y4 := HC4.out
            simp only [Nat.zero_mul, Nat.one_mul, Nat.add_zero] at y0 y1 y2 y3 y4
            clear HK HDR HKK
            obtain ⟨R, hR⟩ : ∃ R, (nmV K3 S3) = R := ⟨_, rfl⟩
            rw [hR] at HKX
            have HTK := Lib.hid (show ∀ W, Calls Tryz.prog 64 #[.int .u8 110, .agg #[.int .i64 K3, .int .i64 I3, .float .f64 F3, .string S3, .slice q3 m3 d3]] W fun e w' => e = .returned (.bool R) ∧ Below W.heap.size W w' from fun W => by rw [← hR]; exact rtakes_n K3 I3 F3 S3 q3 m3 d3 W)
            clear hR
            have HDc := Lib.hid (And.intro y0 (And.intro y1 (And.intro y2 (And.intro y3 y4))))
            clear y0 y1 y2 y3 y4
            go_upto_region 21 with fail
            have TV01 := Lib.hid (show Below w.heap.size w wr.drew from bel_step TRb.out (show Below wr.heap.size wr wr.drew from Below.drew br))
            clear TRb
            refine wp_region_held_drew (S := (fun z => z.cell? ⟨b, off, none⟩ = some (.int .i64 K3) ∧ z.cell? ⟨b, off + 1, none⟩ = some (.int .i64 I3) ∧ z.cell? ⟨b, off + 2, none⟩ = some (.float .f64 F3) ∧ z.cell? ⟨b, off + 3, none⟩ = some (.string S3) ∧ z.cell? ⟨b, off + 4, none⟩ = some (.slice q3 m3 d3))) (by kernel_rfl) ?_ (fun hH => ?_)
            · exact ⟨ck TV01.out HDc.out.1, ck TV01.out HDc.out.2.1, ck TV01.out HDc.out.2.2.1, ck TV01.out HDc.out.2.2.2.1, ck TV01.out HDc.out.2.2.2.2⟩
            refine zt [0, 1, 2, 3, 4, 5, 6] ?_
            iterate 7 (refine zt1 (fun _ _ d _ _ h => by cases d <;> exact h) (by simp only [lk0, lk1, lk2]; rfl) (by kernel_rfl) (by assumption) (by rfl) (fun w h => by (try dsimp only at h); go_simp; (try with_reducible rfl)) ?_; (try simp only [Act.put, pk0, pk1, pk2]))
            refine zt0 ?_
            refine zr1 7 (by kernel_rfl) (by simp only [lk0, lk1, lk2]; rfl) (fun K hK => ?_)
            go_simp
            go_at_call 64; refine (HTK.out _).mono ?_; rintro e w9 ⟨rfl, hbw9⟩
            have TV02 := Lib.hid (show Below w.heap.size w w9 from bel_step TV01.out hbw9)
            clear TV01
            clear hbw9
            go_wp2_with fail
            refine hK.out _ _ ?hsv8_ (fun hH => ?_)
            case hsv8_ => exact ⟨ck TV02.out HDc.out.1, ck TV02.out HDc.out.2.1, ck TV02.out HDc.out.2.2.1, ck TV02.out HDc.out.2.2.2.1, ck TV02.out HDc.out.2.2.2.2⟩
            clear hK K
            (try simp only [Act.put, pk0, pk1, pk2])
            refine zt [8] ?_
            refine zt1 (fun _ _ d _ _ h => by cases d <;> exact h) (by simp only [lk0, lk1, lk2]; rfl) (by kernel_rfl) (by assumption) (by rfl) (fun w h => by (try dsimp only at h); go_simp; (try with_reducible rfl)) ?_; (try simp only [Act.put, pk0, pk1, pk2])
            refine zt0 ?_
            refine wpAnyH_done (by kernel_rfl) ?_ _
            cases R
            · have HN := Lib.hid (show rchk8 n [110, 110, 35] L = 31 by unfold rchk8; rw [HC0.out, if_pos rfl, ← HKX.out]; rfl)
              go_wp2
              go_ret
              exact ⟨by rw [HN.out]; rfl, TV02.out⟩
            · have HN := Lib.hid (show rtkL n ([110, 110, 35].drop (0 + 1)) (L.drop (0 + 1)) = rtkL n [110, 110, 35] L by rw [← HKX.out, Bool.true_and])
              go_wp2
              go_roundw
              case rel => exact ⟨0 + 1, by omega, by go_num, TV02.out, HN⟩
              case measure => simp [intOf]
          · have HKX := Lib.hid (show ((nmV K3 S3) && rtkL n ([110, 110, 35].drop 2) (L.drop (1 + 1))) = rtkL n [110, 110, 35] L by rw [← HK.out, HDR.out]; show _ = (tkB 110 n _ && _); unfold tkB; rw [if_pos rfl]; rw [HKK.out.1, HKK.out.2]; rfl)
            have y0 := HC0'.out
            have y1 := HC1.out
            have y2 := HC2.out
            have y3 := HC3.out
            have y4 := HC4.out
            simp only [Nat.zero_mul, Nat.one_mul, Nat.add_zero] at y0 y1 y2 y3 y4
            clear HK HDR HKK
            obtain ⟨R, hR⟩ : ∃ R, (nmV K3 S3) = R := ⟨_, rfl⟩
            rw [hR] at HKX
            have HTK := Lib.hid (show ∀ W, Calls Tryz.prog 64 #[.int .u8 110, .agg #[.int .i64 K3, .int .i64 I3, .float .f64 F3, .string S3, .slice q3 m3 d3]] W fun e w' => e = .returned (.bool R) ∧ Below W.heap.size W w' from fun W => by rw [← hR]; exact rtakes_n K3 I3 F3 S3 q3 m3 d3 W)
            clear hR
            have HDc := Lib.hid (And.intro y0 (And.intro y1 (And.intro y2 (And.intro y3 y4))))
            clear y0 y1 y2 y3 y4
            go_upto_region 21 with fail
            have TV11 := Lib.hid (show Below w.heap.size w wr.drew from bel_step TRb.out (show Below wr.heap.size wr wr.drew from Below.drew br))
            clear TRb
            refine wp_region_held_drew (S := (fun z => z.cell? ⟨b, off + 5, none⟩ = some (.int .i64 K3) ∧ z.cell? ⟨b, off + 5 + 1, none⟩ = some (.int .i64 I3) ∧ z.cell? ⟨b, off + 5 + 2, none⟩ = some (.float .f64 F3) ∧ z.cell? ⟨b, off + 5 + 3, none⟩ = some (.string S3) ∧ z.cell? ⟨b, off + 5 + 4, none⟩ = some (.slice q3 m3 d3))) (by kernel_rfl) ?_ (fun hH => ?_)
            · exact ⟨ck TV11.out HDc.out.1, ck TV11.out HDc.out.2.1, ck TV11.out HDc.out.2.2.1, ck TV11.out HDc.out.2.2.2.1, ck TV11.out HDc.out.2.2.2.2⟩
            refine zt [0, 1, 2, 3, 4, 5, 6] ?_
            iterate 7 (refine zt1 (fun _ _ d _ _ h => by cases d <;> exact h) (by simp only [lk0, lk1, lk2]; rfl) (by kernel_rfl) (by assumption) (by rfl) (fun w h => by (try dsimp only at h); go_simp; (try with_reducible rfl)) ?_; (try simp only [Act.put, pk0, pk1, pk2]))
            refine zt0 ?_
            refine zr1 7 (by kernel_rfl) (by simp only [lk0, lk1, lk2]; rfl) (fun K hK => ?_)
            go_simp
            go_at_call 64; refine (HTK.out _).mono ?_; rintro e w19 ⟨rfl, hbw19⟩
            have TV12 := Lib.hid (show Below w.heap.size w w19 from bel_step TV11.out hbw19)
            clear TV11
            clear hbw19
            go_wp2_with fail
            refine hK.out _ _ ?hsv18_ (fun hH => ?_)
            case hsv18_ => exact ⟨ck TV12.out HDc.out.1, ck TV12.out HDc.out.2.1, ck TV12.out HDc.out.2.2.1, ck TV12.out HDc.out.2.2.2.1, ck TV12.out HDc.out.2.2.2.2⟩
            clear hK K
            (try simp only [Act.put, pk0, pk1, pk2])
            refine zt [8] ?_
            refine zt1 (fun _ _ d _ _ h => by cases d <;> exact h) (by simp only [lk0, lk1, lk2]; rfl) (by kernel_rfl) (by assumption) (by rfl) (fun w h => by (try dsimp only at h); go_simp; (try with_reducible rfl)) ?_; (try simp only [Act.put, pk0, pk1, pk2])
            refine zt0 ?_
            refine wpAnyH_done (by kernel_rfl) ?_ _
            cases R
            · have HN := Lib.hid (show rchk8 n [110, 110, 35] L = 31 by unfold rchk8; rw [HC0.out, if_pos rfl, ← HKX.out]; rfl)
              go_wp2
              go_ret
              exact ⟨by rw [HN.out]; rfl, TV12.out⟩
            · have HN := Lib.hid (show rtkL n ([110, 110, 35].drop (1 + 1)) (L.drop (1 + 1)) = rtkL n [110, 110, 35] L by rw [← HKX.out, Bool.true_and])
              go_wp2
              go_roundw
              case rel => exact ⟨1 + 1, by omega, by go_num, TV12.out, HN⟩
              case measure => simp [intOf]
          · have HKX := Lib.hid (show ((isNum K3) && rtkL n ([110, 110, 35].drop 3) (L.drop (2 + 1))) = rtkL n [110, 110, 35] L by rw [← HK.out, HDR.out]; show _ = (tkB 35 n _ && _); unfold tkB; rw [if_neg (by decide)]; rw [HKK.out.1]; rfl)
            have y0 := HC0'.out
            have y1 := HC1.out
            have y2 := HC2.out
            have y3 := HC3.out
            have y4 := HC4.out
            simp only [show 2 * 5 = 10 from rfl, Nat.zero_mul, Nat.one_mul, Nat.add_zero] at y0 y1 y2 y3 y4
            clear HK HDR HKK
            obtain ⟨R, hR⟩ : ∃ R, (isNum K3) = R := ⟨_, rfl⟩
            rw [hR] at HKX
            have HTK := Lib.hid (show ∀ W, Calls Tryz.prog 64 #[.int .u8 35, .agg #[.int .i64 K3, .int .i64 I3, .float .f64 F3, .string S3, .slice q3 m3 d3]] W fun e w' => e = .returned (.bool R) ∧ Below W.heap.size W w' from fun W => by rw [← hR]; exact rtakes_num K3 I3 F3 S3 q3 m3 d3 W)
            clear hR
            have HDc := Lib.hid (And.intro y0 (And.intro y1 (And.intro y2 (And.intro y3 y4))))
            clear y0 y1 y2 y3 y4
            go_upto_region 21 with fail
            have TV21 := Lib.hid (show Below w.heap.size w wr.drew from bel_step TRb.out (show Below wr.heap.size wr wr.drew from Below.drew br))
            clear TRb
            refine wp_region_held_drew (S := (fun z => z.cell? ⟨b, off + 10, none⟩ = some (.int .i64 K3) ∧ z.cell? ⟨b, off + 10 + 1, none⟩ = some (.int .i64 I3) ∧ z.cell? ⟨b, off + 10 + 2, none⟩ = some (.float .f64 F3) ∧ z.cell? ⟨b, off + 10 + 3, none⟩ = some (.string S3) ∧ z.cell? ⟨b, off + 10 + 4, none⟩ = some (.slice q3 m3 d3))) (by kernel_rfl) ?_ (fun hH => ?_)
            · exact ⟨ck TV21.out HDc.out.1, ck TV21.out HDc.out.2.1, ck TV21.out HDc.out.2.2.1, ck TV21.out HDc.out.2.2.2.1, ck TV21.out HDc.out.2.2.2.2⟩
            refine zt [0, 1, 2, 3, 4, 5, 6] ?_
            iterate 7 (refine zt1 (fun _ _ d _ _ h => by cases d <;> exact h) (by simp only [lk0, lk1, lk2]; rfl) (by kernel_rfl) (by assumption) (by rfl) (fun w h => by (try dsimp only at h); go_simp; (try with_reducible rfl)) ?_; (try simp only [Act.put, pk0, pk1, pk2]))
            refine zt0 ?_
            refine zr1 7 (by kernel_rfl) (by simp only [lk0, lk1, lk2]; rfl) (fun K hK => ?_)
            go_simp
            go_at_call 64; refine (HTK.out _).mono ?_; rintro e w29 ⟨rfl, hbw29⟩
            have TV22 := Lib.hid (show Below w.heap.size w w29 from bel_step TV21.out hbw29)
            clear TV21
            clear hbw29
            go_wp2_with fail
            refine hK.out _ _ ?hsv28_ (fun hH => ?_)
            case hsv28_ => exact ⟨ck TV22.out HDc.out.1, ck TV22.out HDc.out.2.1, ck TV22.out HDc.out.2.2.1, ck TV22.out HDc.out.2.2.2.1, ck TV22.out HDc.out.2.2.2.2⟩
            clear hK K
            (try simp only [Act.put, pk0, pk1, pk2])
            refine zt [8] ?_
            refine zt1 (fun _ _ d _ _ h => by cases d <;> exact h) (by simp only [lk0, lk1, lk2]; rfl) (by kernel_rfl) (by assumption) (by rfl) (fun w h => by (try dsimp only at h); go_simp; (try with_reducible rfl)) ?_; (try simp only [Act.put, pk0, pk1, pk2])
            refine zt0 ?_
            refine wpAnyH_done (by kernel_rfl) ?_ _
            cases R
            · have HN := Lib.hid (show rchk8 n [110, 110, 35] L = 31 by unfold rchk8; rw [HC0.out, if_pos rfl, ← HKX.out]; rfl)
              go_wp2
              go_ret
              exact ⟨by rw [HN.out]; rfl, TV22.out⟩
            · have HN := Lib.hid (show rtkL n ([110, 110, 35].drop (2 + 1)) (L.drop (2 + 1)) = rtkL n [110, 110, 35] L by rw [← HKX.out, Bool.true_and])
              go_wp2
              go_roundw
              case rel => exact ⟨2 + 1, by omega, by go_num, TV22.out, HN⟩
              case measure => simp [intOf]
        · obtain rfl : i = 3 := by omega
          have HN := Lib.hid (show rchk8 n [110, 110, 35] L = 0 by unfold rchk8; rw [HC0.out, if_pos rfl, ← HK.out, List.drop_of_length_le (by have := HLN.out; omega : L.length ≤ 3)]; rfl)
          go_wp2
          go_ret
          exact ⟨by rw [HN.out]; rfl, hB⟩
end Num
end Go.Proofs.YtpbfaffheigjcaaGreat
/-
  The reference: Check of a ledger's arguments, the other methods.
-/
namespace Go.Proofs.YtpbfaffheigjcaaGreat
open Go.RowKit
namespace Num
open Ints
set_option linter.unusedSimpArgs false
set_option linter.unusedVariables false
set_option maxRecDepth 100000 in
set_option maxHeartbeats 4000000 in
theorem rcheck_z (n : Nat) (m : ByteArray) (nm : ByteArray) (ws : Bool) (hx : findM m msL = some (nm, ws, { data := #[] })) (p : Option Addr) (c : Nat) (L : List (VT (n + 1))) (hl : L.length = 0) (w : World) (hr : RepL w (Rep w (n + 1)) p 0 c L) :
    Calls Tryz.prog 31 #[.string { data := #[108, 101, 100, 103, 101, 114] }, .string m, .slice p 0 c] w fun e w' => e = .returned (.int .i64 (rchk8 n [] L)) ∧ Below w.heap.size w w' := by
  have HFD := Lib.hid (show ∀ W, Calls Tryz.prog 63 #[.string { data := #[108, 101, 100, 103, 101, 114] }, .string m] W fun e w' => e = .returned (.tuple #[.agg #[.string nm, .string { data := #[] }, .bool ws], .bool true]) ∧ Below W.heap.size W w' from fun W => by
    have h := rfind_any { data := #[108, 101, 100, 103, 101, 114] } m W (by decide)
    rw [show metas { data := #[108, 101, 100, 103, 101, 114] } = msL by rfl, hx] at h
    exact h)
  have HR := Lib.hid hr
  have HLN := Lib.hid hl
  clear hx hr hl
  go_enter Tryz.func31, Tryz.ntmps31
  go_wp2_with fail
  go_at_call 63; refine (HFD.out _).mono ?_; rintro e w1 ⟨rfl, hb1⟩
  have hal := bel_alloc (Below.refl w1.heap.size w1) (.cells #[.string nm, .string { data := #[] }, .bool ws] 74)
  have HB1 := Lib.hid (bel_step hb1 hal)
  clear hb1 hal HFD
  go_wp2
  generalize w1.alloc (.cells #[.string nm, .string { data := #[] }, .bool ws] 74) = wa at HB1 ⊢
  obtain rfl := List.eq_nil_of_length_eq_zero HLN.out
  go_loopw [10] (fun iv wr => iv = .int .i64 0 ∧ Below w.heap.size w wr) (fun _ _ => 0)
  case atStart => exact ⟨rfl, HB1.out⟩
  case round =>
    obtain ⟨rfl, hB⟩ := hrel
    have HB := Lib.hid hB
    clear hB
    go_wp2
    go_loopw [12] (fun iv wr => iv = .int .i64 0 ∧ Below w.heap.size w wr) (fun _ _ => 0)
    case atStart => exact ⟨rfl, HB.out⟩
    case round =>
      obtain ⟨rfl, hB⟩ := hrel
      go_wp2
      go_ret
      exact ⟨rfl, hB⟩
set_option maxRecDepth 100000 in
set_option maxHeartbeats 4000000 in
theorem rcheck_n (n : Nat) (m : ByteArray) (nm : ByteArray) (ws : Bool) (hx : findM m msL = some (nm, ws, { data := #[110] })) (p : Option Addr) (c : Nat) (L : List (VT (n + 1))) (hl : L.length = 1) (w : World) (hr : RepL w (Rep w (n + 1)) p 1 c L) :
    Calls Tryz.prog 31 #[.string { data := #[108, 101, 100, 103, 101, 114] }, .string m, .slice p 1 c] w fun e w' => e = .returned (.int .i64 (rchk8 n [110] L)) ∧ Below w.heap.size w w' := by
  have HFD := Lib.hid (show ∀ W, Calls Tryz.prog 63 #[.string { data := #[108, 101, 100, 103, 101, 114] }, .string m] W fun e w' => e = .returned (.tuple #[.agg #[.string nm, .string { data := #[110] }, .bool ws], .bool true]) ∧ Below W.heap.size W w' from fun W => by
    have h := rfind_any { data := #[108, 101, 100, 103, 101, 114] } m W (by decide)
    rw [show metas { data := #[108, 101, 100, 103, 101, 114] } = msL by rfl, hx] at h
    exact h)
  have HR := Lib.hid hr
  have HLN := Lib.hid hl
  clear hx hr hl
  go_enter Tryz.func31, Tryz.ntmps31
  go_wp2_with fail
  go_at_call 63; refine (HFD.out _).mono ?_; rintro e w1 ⟨rfl, hb1⟩
  have hal := bel_alloc (Below.refl w1.heap.size w1) (.cells #[.string nm, .string { data := #[110] }, .bool ws] 74)
  have HB1 := Lib.hid (bel_step hb1 hal)
  clear hb1 hal HFD
  go_wp2
  generalize w1.alloc (.cells #[.string nm, .string { data := #[110] }, .bool ws] 74) = wa at HB1 ⊢
  go_loopw [10] (fun iv wr => ∃ i : Nat, i ≤ 1 ∧ iv = .int .i64 i ∧ Below w.heap.size w wr ∧ Hid (rchkL n (L.drop i) = rchkL n L)) (fun iv _ => 1 - (intOf iv).toNat)
  case atStart => exact ⟨0, by omega, rfl, HB1.out, Lib.hid rfl⟩
  case round =>
    obtain ⟨i, hi, rfl, hB, HK⟩ := hrel
    have HB := Lib.hid hB
    by_cases hlt : i < 1
    · obtain ⟨b, off, hpb, hit⟩ := HR.out.2.2.2 (by omega)
      subst hpb
      have hil : i < L.length := by have := HLN.out; omega
      obtain ⟨v0, v1, v2, v3, v4, c0, c1, c2, c3, c4, hre⟩ := hit i hil
      have e0 := ck hB c0; have e1 := ck hB c1; have e2 := ck hB c2; have e3 := ck hB c3; have e4 := ck hB c4
      have HRE := Lib.hid (rcheck_any (n + 1) _ _ wr (rep_keep hB _ _ _ hre))
      have HD := Lib.hid (rchk_drop (n := n) hil)
      obtain ⟨X, hX⟩ : ∃ X, rcheckT (n + 1) L[i] = X := ⟨_, rfl⟩
      rw [hX] at HRE HD
      have hi0 : (0 : Int) ≤ (i : Int) := by omega
      have hil2 : (i : Int) < 1 := by omega
      clear c0 c1 c2 c3 c4 hit hre hX hB
      go_wp2_with fail
      go_at_call 44; refine HRE.out.mono ?_; rintro e w2 ⟨rfl, hb2⟩
      have HB2 := Lib.hid (bel_step HB.out hb2)
      clear hb2 e0 e1 e2 e3 e4 HRE
      by_cases hX0 : X = 0
      · have hx1 : (X != 0) = false := by rw [hX0]; rfl
        have HN := Lib.hid (show rchkL n (L.drop (i + 1)) = rchkL n L by rw [← HK.out, HD.out, if_pos hX0])
        clear hX0 HD HK
        go_wp2
        go_roundw
        case rel => exact ⟨i + 1, by omega, by go_num, HB2.out, HN⟩
        case measure => simp [intOf]; omega
      · have hx1 : (X != 0) = true := bne_iff_ne.2 hX0
        have hXL : rchkL n L = X := by rw [← HK.out, HD.out, if_neg hX0]
        have HN := Lib.hid (show X = rchk8 n [110] L by unfold rchk8; rw [hXL, if_neg hX0])
        clear hX0 HD HK hXL
        go_wp2
        go_ret
        exact ⟨by rw [← HN.out]; rfl, HB2.out⟩
    · have HIN := Lib.hid (show i = 1 by omega)
      have hnl : ¬ ((i : Int) < 1) := by omega
      have HC0 := Lib.hid (show rchkL n L = 0 by rw [← HK.out, List.drop_of_length_le (by have := HLN.out; have := HIN.out; omega)]; rfl)
      clear HK hB
      go_wp2
      go_loopw [12] (fun iv wr => ∃ i : Nat, i ≤ 1 ∧ iv = .int .i64 i ∧ Below w.heap.size w wr ∧ Hid (rtkL n ([110].drop i) (L.drop i) = rtkL n [110] L)) (fun iv _ => 1 - (intOf iv).toNat)
      case atStart => exact ⟨0, by omega, rfl, HB.out, Lib.hid rfl⟩
      case round =>
        obtain ⟨i, hi, rfl, hB, HK⟩ := hrel
        by_cases hlt : i < 1
        · obtain ⟨b, off, hpb, hit⟩ := HR.out.2.2.2 (by omega)
          subst hpb
          have hil : i < L.length := by have := HLN.out; omega
          obtain ⟨v0, v1, v2, v3, v4, c0, c1, c2, c3, c4, hre⟩ := hit i hil
          obtain ⟨K3, I3, F3, S3, q3, m3, d3, hv, _⟩ := rep_shape hre
          injection hv with hv
          simp only [Array.mk.injEq, List.cons.injEq, and_true] at hv
          obtain ⟨rfl, rfl, rfl, rfl, rfl⟩ := hv
          have hkk : L[i].1 = K3 ∧ L[i].2.2.2.1 = S3 := by
            obtain ⟨p', l', c', hv', _⟩ := hre
            injection hv' with hv'
            simp only [Array.mk.injEq, List.cons.injEq, and_true] at hv'
            obtain ⟨e1, _, _, e4, _⟩ := hv'
            injection e1 with _ e1
            injection e4 with e4
            exact ⟨e1.symm, e4.symm⟩
          have HC0' := Lib.hid c0; have HC1 := Lib.hid c1; have HC2 := Lib.hid c2; have HC3 := Lib.hid c3; have HC4 := Lib.hid c4
          have hbw := cell_lt c0
          have TRb := Lib.hid hB
          have hdr : L.drop i = L[i] :: L.drop (i + 1) := List.drop_eq_getElem_cons hil
          have HDR := Lib.hid hdr
          have HKK := Lib.hid hkk
          clear hit hre hdr hkk c0 c1 c2 c3 c4 hB
          have hic : i = 0 := by omega
          rcases hic with rfl
          · have HKX := Lib.hid (show ((nmV K3 S3) && rtkL n ([110].drop 1) (L.drop (0 + 1))) = rtkL n [110] L by rw [← HK.out, HDR.out]; show _ = (tkB 110 n _ && _); unfold tkB; rw [if_pos rfl]; rw [HKK.out.1, HKK.out.2]; rfl)
            have y0 := HC0'.out
            have y1 := HC1.out
            have y2 := HC2.out
            have y3 := HC3.out
            have y4 := HC4.out
            simp only [Nat.zero_mul, Nat.one_mul, Nat.add_zero] at y0 y1 y2 y3 y4
            clear HK HDR HKK
            obtain ⟨R, hR⟩ : ∃ R, (nmV K3 S3) = R := ⟨_, rfl⟩
            rw [hR] at HKX
            have HTK := Lib.hid (show ∀ W, Calls Tryz.prog 64 #[.int .u8 110, .agg #[.int .i64 K3, .int .i64 I3, .float .f64 F3, .string S3, .slice q3 m3 d3]] W fun e w' => e = .returned (.bool R) ∧ Below W.heap.size W w' from fun W => by rw [← hR]; exact rtakes_n K3 I3 F3 S3 q3 m3 d3 W)
            clear hR
            have HDc := Lib.hid (And.intro y0 (And.intro y1 (And.intro y2 (And.intro y3 y4))))
            clear y0 y1 y2 y3 y4
            go_upto_region 21 with fail
            have TV01 := Lib.hid (show Below w.heap.size w wr.drew from bel_step TRb.out (show Below wr.heap.size wr wr.drew from Below.drew br))
            clear TRb
            refine wp_region_held_drew (S := (fun z => z.cell? ⟨b, off, none⟩ = some (.int .i64 K3) ∧ z.cell? ⟨b, off + 1, none⟩ = some (.int .i64 I3) ∧ z.cell? ⟨b, off + 2, none⟩ = some (.float .f64 F3) ∧ z.cell? ⟨b, off + 3, none⟩ = some (.string S3) ∧ z.cell? ⟨b, off + 4, none⟩ = some (.slice q3 m3 d3))) (by kernel_rfl) ?_ (fun hH => ?_)
            · exact ⟨ck TV01.out HDc.out.1, ck TV01.out HDc.out.2.1, ck TV01.out HDc.out.2.2.1, ck TV01.out HDc.out.2.2.2.1, ck TV01.out HDc.out.2.2.2.2⟩
            refine zt [0, 1, 2, 3, 4, 5, 6] ?_
            iterate 7 (refine zt1 (fun _ _ d _ _ h => by cases d <;> exact h) (by simp only [lk0, lk1, lk2]; rfl) (by kernel_rfl) (by assumption) (by rfl) (fun w h => by (try dsimp only at h); go_simp; (try with_reducible rfl)) ?_; (try simp only [Act.put, pk0, pk1, pk2]))
            refine zt0 ?_
            refine zr1 7 (by kernel_rfl) (by simp only [lk0, lk1, lk2]; rfl) (fun K hK => ?_)
            go_simp
            go_at_call 64; refine (HTK.out _).mono ?_; rintro e w39 ⟨rfl, hbw39⟩
            have TV02 := Lib.hid (show Below w.heap.size w w39 from bel_step TV01.out hbw39)
            clear TV01
            clear hbw39
            go_wp2_with fail
            refine hK.out _ _ ?hsv38_ (fun hH => ?_)
            case hsv38_ => exact ⟨ck TV02.out HDc.out.1, ck TV02.out HDc.out.2.1, ck TV02.out HDc.out.2.2.1, ck TV02.out HDc.out.2.2.2.1, ck TV02.out HDc.out.2.2.2.2⟩
            clear hK K
            (try simp only [Act.put, pk0, pk1, pk2])
            refine zt [8] ?_
            refine zt1 (fun _ _ d _ _ h => by cases d <;> exact h) (by simp only [lk0, lk1, lk2]; rfl) (by kernel_rfl) (by assumption) (by rfl) (fun w h => by (try dsimp only at h); go_simp; (try with_reducible rfl)) ?_; (try simp only [Act.put, pk0, pk1, pk2])
            refine zt0 ?_
            refine wpAnyH_done (by kernel_rfl) ?_ _
            cases R
            · have HN := Lib.hid (show rchk8 n [110] L = 31 by unfold rchk8; rw [HC0.out, if_pos rfl, ← HKX.out]; rfl)
              go_wp2
              go_ret
              exact ⟨by rw [HN.out]; rfl, TV02.out⟩
            · have HN := Lib.hid (show rtkL n ([110].drop (0 + 1)) (L.drop (0 + 1)) = rtkL n [110] L by rw [← HKX.out, Bool.true_and])
              go_wp2
              go_roundw
              case rel => exact ⟨0 + 1, by omega, by go_num, TV02.out, HN⟩
              case measure => simp [intOf]
        · obtain rfl : i = 1 := by omega
          have HN := Lib.hid (show rchk8 n [110] L = 0 by unfold rchk8; rw [HC0.out, if_pos rfl, ← HK.out, List.drop_of_length_le (by have := HLN.out; omega : L.length ≤ 1)]; rfl)
          go_wp2
          go_ret
          exact ⟨by rw [HN.out]; rfl, hB⟩
set_option maxRecDepth 100000 in
set_option maxHeartbeats 4000000 in
theorem rcheck_nh (n : Nat) (m : ByteArray) (nm : ByteArray) (ws : Bool) (hx : findM m msL = some (nm, ws, { data := #[110, 35] })) (p : Option Addr) (c : Nat) (L : List (VT (n + 1))) (hl : L.length = 2) (w : World) (hr : RepL w (Rep w (n + 1)) p 2 c L) :
    Calls Tryz.prog 31 #[.string { data := #[108, 101, 100, 103, 101, 114] }, .string m, .slice p 2 c] w fun e w' => e = .returned (.int .i64 (rchk8 n [110, 35] L)) ∧ Below w.heap.size w w' := by
  have HFD := Lib.hid (show ∀ W, Calls Tryz.prog 63 #[.string { data := #[108, 101, 100, 103, 101, 114] }, .string m] W fun e w' => e = .returned (.tuple #[.agg #[.string nm, .string { data := #[110, 35] }, .bool ws], .bool true]) ∧ Below W.heap.size W w' from fun W => by
    have h := rfind_any { data := #[108, 101, 100, 103, 101, 114] } m W (by decide)
    rw [show metas { data := #[108, 101, 100, 103, 101, 114] } = msL by rfl, hx] at h
    exact h)
  have HR := Lib.hid hr
  have HLN := Lib.hid hl
  clear hx hr hl
  go_enter Tryz.func31, Tryz.ntmps31
  go_wp2_with fail
  go_at_call 63; refine (HFD.out _).mono ?_; rintro e w1 ⟨rfl, hb1⟩
  have hal := bel_alloc (Below.refl w1.heap.size w1) (.cells #[.string nm, .string { data := #[110, 35] }, .bool ws] 74)
  have HB1 := Lib.hid (bel_step hb1 hal)
  clear hb1 hal HFD
  go_wp2
  generalize w1.alloc (.cells #[.string nm, .string { data := #[110, 35] }, .bool ws] 74) = wa at HB1 ⊢
  go_loopw [10] (fun iv wr => ∃ i : Nat, i ≤ 2 ∧ iv = .int .i64 i ∧ Below w.heap.size w wr ∧ Hid (rchkL n (L.drop i) = rchkL n L)) (fun iv _ => 2 - (intOf iv).toNat)
  case atStart => exact ⟨0, by omega, rfl, HB1.out, Lib.hid rfl⟩
  case round =>
    obtain ⟨i, hi, rfl, hB, HK⟩ := hrel
    have HB := Lib.hid hB
    by_cases hlt : i < 2
    · obtain ⟨b, off, hpb, hit⟩ := HR.out.2.2.2 (by omega)
      subst hpb
      have hil : i < L.length := by have := HLN.out; omega
      obtain ⟨v0, v1, v2, v3, v4, c0, c1, c2, c3, c4, hre⟩ := hit i hil
      have e0 := ck hB c0; have e1 := ck hB c1; have e2 := ck hB c2; have e3 := ck hB c3; have e4 := ck hB c4
      have HRE := Lib.hid (rcheck_any (n + 1) _ _ wr (rep_keep hB _ _ _ hre))
      have HD := Lib.hid (rchk_drop (n := n) hil)
      obtain ⟨X, hX⟩ : ∃ X, rcheckT (n + 1) L[i] = X := ⟨_, rfl⟩
      rw [hX] at HRE HD
      have hi0 : (0 : Int) ≤ (i : Int) := by omega
      have hil2 : (i : Int) < 2 := by omega
      clear c0 c1 c2 c3 c4 hit hre hX hB
      go_wp2_with fail
      go_at_call 44; refine HRE.out.mono ?_; rintro e w2 ⟨rfl, hb2⟩
      have HB2 := Lib.hid (bel_step HB.out hb2)
      clear hb2 e0 e1 e2 e3 e4 HRE
      by_cases hX0 : X = 0
      · have hx1 : (X != 0) = false := by rw [hX0]; rfl
        have HN := Lib.hid (show rchkL n (L.drop (i + 1)) = rchkL n L by rw [← HK.out, HD.out, if_pos hX0])
        clear hX0 HD HK
        go_wp2
        go_roundw
        case rel => exact ⟨i + 1, by omega, by go_num, HB2.out, HN⟩
        case measure => simp [intOf]; omega
      · have hx1 : (X != 0) = true := bne_iff_ne.2 hX0
        have hXL : rchkL n L = X := by rw [← HK.out, HD.out, if_neg hX0]
        have HN := Lib.hid (show X = rchk8 n [110, 35] L by unfold rchk8; rw [hXL, if_neg hX0])
        clear hX0 HD HK hXL
        go_wp2
        go_ret
        exact ⟨by rw [← HN.out]; rfl, HB2.out⟩
    · have HIN := Lib.hid (show i = 2 by omega)
      have hnl : ¬ ((i : Int) < 2) := by omega
      have HC0 := Lib.hid (show rchkL n L = 0 by rw [← HK.out, List.drop_of_length_le (by have := HLN.out; have := HIN.out; omega)]; rfl)
      clear HK hB
      go_wp2
      go_loopw [12] (fun iv wr => ∃ i : Nat, i ≤ 2 ∧ iv = .int .i64 i ∧ Below w.heap.size w wr ∧ Hid (rtkL n ([110, 35].drop i) (L.drop i) = rtkL n [110, 35] L)) (fun iv _ => 2 - (intOf iv).toNat)
      case atStart => exact ⟨0, by omega, rfl, HB.out, Lib.hid rfl⟩
      case round =>
        obtain ⟨i, hi, rfl, hB, HK⟩ := hrel
        by_cases hlt : i < 2
        · obtain ⟨b, off, hpb, hit⟩ := HR.out.2.2.2 (by omega)
          subst hpb
          have hil : i < L.length := by have := HLN.out; omega
          obtain ⟨v0, v1, v2, v3, v4, c0, c1, c2, c3, c4, hre⟩ := hit i hil
          obtain ⟨K3, I3, F3, S3, q3, m3, d3, hv, _⟩ := rep_shape hre
          injection hv with hv
          simp only [Array.mk.injEq, List.cons.injEq, and_true] at hv
          obtain ⟨rfl, rfl, rfl, rfl, rfl⟩ := hv
          have hkk : L[i].1 = K3 ∧ L[i].2.2.2.1 = S3 := by
            obtain ⟨p', l', c', hv', _⟩ := hre
            injection hv' with hv'
            simp only [Array.mk.injEq, List.cons.injEq, and_true] at hv'
            obtain ⟨e1, _, _, e4, _⟩ := hv'
            injection e1 with _ e1
            injection e4 with e4
            exact ⟨e1.symm, e4.symm⟩
          have HC0' := Lib.hid c0; have HC1 := Lib.hid c1; have HC2 := Lib.hid c2; have HC3 := Lib.hid c3; have HC4 := Lib.hid c4
          have hbw := cell_lt c0
          have TRb := Lib.hid hB
          have hdr : L.drop i = L[i] :: L.drop (i + 1) := List.drop_eq_getElem_cons hil
          have HDR := Lib.hid hdr
          have HKK := Lib.hid hkk
          clear hit hre hdr hkk c0 c1 c2 c3 c4 hB
          have hic : i = 0 ∨ i = 1 := by omega
          rcases hic with rfl | rfl
          · have HKX := Lib.hid (show ((nmV K3 S3) && rtkL n ([110, 35].drop 1) (L.drop (0 + 1))) = rtkL n [110, 35] L by rw [← HK.out, HDR.out]; show _ = (tkB 110 n _ && _); unfold tkB; rw [if_pos rfl]; rw [HKK.out.1, HKK.out.2]; rfl)
            have y0 := HC0'.out
            have y1 := HC1.out
            have y2 := HC2.out
            have y3 := HC3.out
            have y4 := HC4.out
            simp only [Nat.zero_mul, Nat.one_mul, Nat.add_zero] at y0 y1 y2 y3 y4
            clear HK HDR HKK
            obtain ⟨R, hR⟩ : ∃ R, (nmV K3 S3) = R := ⟨_, rfl⟩
            rw [hR] at HKX
            have HTK := Lib.hid (show ∀ W, Calls Tryz.prog 64 #[.int .u8 110, .agg #[.int .i64 K3, .int .i64 I3, .float .f64 F3, .string S3, .slice q3 m3 d3]] W fun e w' => e = .returned (.bool R) ∧ Below W.heap.size W w' from fun W => by rw [← hR]; exact rtakes_n K3 I3 F3 S3 q3 m3 d3 W)
            clear hR
            have HDc := Lib.hid (And.intro y0 (And.intro y1 (And.intro y2 (And.intro y3 y4))))
            clear y0 y1 y2 y3 y4
            go_upto_region 21 with fail
            have TV01 := Lib.hid (show Below w.heap.size w wr.drew from bel_step TRb.out (show Below wr.heap.size wr wr.drew from Below.drew br))
            clear TRb
            refine wp_region_held_drew (S := (fun z => z.cell? ⟨b, off, none⟩ = some (.int .i64 K3) ∧ z.cell? ⟨b, off + 1, none⟩ = some (.int .i64 I3) ∧ z.cell? ⟨b, off + 2, none⟩ = some (.float .f64 F3) ∧ z.cell? ⟨b, off + 3, none⟩ = some (.string S3) ∧ z.cell? ⟨b, off + 4, none⟩ = some (.slice q3 m3 d3))) (by kernel_rfl) ?_ (fun hH => ?_)
            · exact ⟨ck TV01.out HDc.out.1, ck TV01.out HDc.out.2.1, ck TV01.out HDc.out.2.2.1, ck TV01.out HDc.out.2.2.2.1, ck TV01.out HDc.out.2.2.2.2⟩
            refine zt [0, 1, 2, 3, 4, 5, 6] ?_
            iterate 7 (refine zt1 (fun _ _ d _ _ h => by cases d <;> exact h) (by simp only [lk0, lk1, lk2]; rfl) (by kernel_rfl) (by assumption) (by rfl) (fun w h => by (try dsimp only at h); go_simp; (try with_reducible rfl)) ?_; (try simp only [Act.put, pk0, pk1, pk2]))
            refine zt0 ?_
            refine zr1 7 (by kernel_rfl) (by simp only [lk0, lk1, lk2]; rfl) (fun K hK => ?_)
            go_simp
            go_at_call 64; refine (HTK.out _).mono ?_; rintro e w49 ⟨rfl, hbw49⟩
            have TV02 := Lib.hid (show Below w.heap.size w w49 from bel_step TV01.out hbw49)
            clear TV01
            clear hbw49
            go_wp2_with fail
            refine hK.out _ _ ?hsv48_ (fun hH => ?_)
            case hsv48_ => exact ⟨ck TV02.out HDc.out.1, ck TV02.out HDc.out.2.1, ck TV02.out HDc.out.2.2.1, ck TV02.out HDc.out.2.2.2.1, ck TV02.out HDc.out.2.2.2.2⟩
            clear hK K
            (try simp only [Act.put, pk0, pk1, pk2])
            refine zt [8] ?_
            refine zt1 (fun _ _ d _ _ h => by cases d <;> exact h) (by simp only [lk0, lk1, lk2]; rfl) (by kernel_rfl) (by assumption) (by rfl) (fun w h => by (try dsimp only at h); go_simp; (try with_reducible rfl)) ?_; (try simp only [Act.put, pk0, pk1, pk2])
            refine zt0 ?_
            refine wpAnyH_done (by kernel_rfl) ?_ _
            cases R
            · have HN := Lib.hid (show rchk8 n [110, 35] L = 31 by unfold rchk8; rw [HC0.out, if_pos rfl, ← HKX.out]; rfl)
              go_wp2
              go_ret
              exact ⟨by rw [HN.out]; rfl, TV02.out⟩
            · have HN := Lib.hid (show rtkL n ([110, 35].drop (0 + 1)) (L.drop (0 + 1)) = rtkL n [110, 35] L by rw [← HKX.out, Bool.true_and])
              go_wp2
              go_roundw
              case rel => exact ⟨0 + 1, by omega, by go_num, TV02.out, HN⟩
              case measure => simp [intOf]
          · have HKX := Lib.hid (show ((isNum K3) && rtkL n ([110, 35].drop 2) (L.drop (1 + 1))) = rtkL n [110, 35] L by rw [← HK.out, HDR.out]; show _ = (tkB 35 n _ && _); unfold tkB; rw [if_neg (by decide)]; rw [HKK.out.1]; rfl)
            have y0 := HC0'.out
            have y1 := HC1.out
            have y2 := HC2.out
            have y3 := HC3.out
            have y4 := HC4.out
            simp only [Nat.zero_mul, Nat.one_mul, Nat.add_zero] at y0 y1 y2 y3 y4
            clear HK HDR HKK
            obtain ⟨R, hR⟩ : ∃ R, (isNum K3) = R := ⟨_, rfl⟩
            rw [hR] at HKX
            have HTK := Lib.hid (show ∀ W, Calls Tryz.prog 64 #[.int .u8 35, .agg #[.int .i64 K3, .int .i64 I3, .float .f64 F3, .string S3, .slice q3 m3 d3]] W fun e w' => e = .returned (.bool R) ∧ Below W.heap.size W w' from fun W => by rw [← hR]; exact rtakes_num K3 I3 F3 S3 q3 m3 d3 W)
            clear hR
            have HDc := Lib.hid (And.intro y0 (And.intro y1 (And.intro y2 (And.intro y3 y4))))
            clear y0 y1 y2 y3 y4
            go_upto_region 21 with fail
            have TV11 := Lib.hid (show Below w.heap.size w wr.drew from bel_step TRb.out (show Below wr.heap.size wr wr.drew from Below.drew br))
            clear TRb
            refine wp_region_held_drew (S := (fun z => z.cell? ⟨b, off + 5, none⟩ = some (.int .i64 K3) ∧ z.cell? ⟨b, off + 5 + 1, none⟩ = some (.int .i64 I3) ∧ z.cell? ⟨b, off + 5 + 2, none⟩ = some (.float .f64 F3) ∧ z.cell? ⟨b, off + 5 + 3, none⟩ = some (.string S3) ∧ z.cell? ⟨b, off + 5 + 4, none⟩ = some (.slice q3 m3 d3))) (by kernel_rfl) ?_ (fun hH => ?_)
            · exact ⟨ck TV11.out HDc.out.1, ck TV11.out HDc.out.2.1, ck TV11.out HDc.out.2.2.1, ck TV11.out HDc.out.2.2.2.1, ck TV11.out HDc.out.2.2.2.2⟩
            refine zt [0, 1, 2, 3, 4, 5, 6] ?_
            iterate 7 (refine zt1 (fun _ _ d _ _ h => by cases d <;> exact h) (by simp only [lk0, lk1, lk2]; rfl) (by kernel_rfl) (by assumption) (by rfl) (fun w h => by (try dsimp only at h); go_simp; (try with_reducible rfl)) ?_; (try simp only [Act.put, pk0, pk1, pk2]))
            refine zt0 ?_
            refine zr1 7 (by kernel_rfl) (by simp only [lk0, lk1, lk2]; rfl) (fun K hK => ?_)
            go_simp
            go_at_call 64; refine (HTK.out _).mono ?_; rintro e w59 ⟨rfl, hbw59⟩
            have TV12 := Lib.hid (show Below w.heap.size w w59 from bel_step TV11.out hbw59)
            clear TV11
            clear hbw59
            go_wp2_with fail
            refine hK.out _ _ ?hsv58_ (fun hH => ?_)
            case hsv58_ => exact ⟨ck TV12.out HDc.out.1, ck TV12.out HDc.out.2.1, ck TV12.out HDc.out.2.2.1, ck TV12.out HDc.out.2.2.2.1, ck TV12.out HDc.out.2.2.2.2⟩
            clear hK K
            (try simp only [Act.put, pk0, pk1, pk2])
            refine zt [8] ?_
            refine zt1 (fun _ _ d _ _ h => by cases d <;> exact h) (by simp only [lk0, lk1, lk2]; rfl) (by kernel_rfl) (by assumption) (by rfl) (fun w h => by (try dsimp only at h); go_simp; (try with_reducible rfl)) ?_; (try simp only [Act.put, pk0, pk1, pk2])
            refine zt0 ?_
            refine wpAnyH_done (by kernel_rfl) ?_ _
            cases R
            · have HN := Lib.hid (show rchk8 n [110, 35] L = 31 by unfold rchk8; rw [HC0.out, if_pos rfl, ← HKX.out]; rfl)
              go_wp2
              go_ret
              exact ⟨by rw [HN.out]; rfl, TV12.out⟩
            · have HN := Lib.hid (show rtkL n ([110, 35].drop (1 + 1)) (L.drop (1 + 1)) = rtkL n [110, 35] L by rw [← HKX.out, Bool.true_and])
              go_wp2
              go_roundw
              case rel => exact ⟨1 + 1, by omega, by go_num, TV12.out, HN⟩
              case measure => simp [intOf]
        · obtain rfl : i = 2 := by omega
          have HN := Lib.hid (show rchk8 n [110, 35] L = 0 by unfold rchk8; rw [HC0.out, if_pos rfl, ← HK.out, List.drop_of_length_le (by have := HLN.out; omega : L.length ≤ 2)]; rfl)
          go_wp2
          go_ret
          exact ⟨by rw [HN.out]; rfl, hB⟩
end Num
end Go.Proofs.YtpbfaffheigjcaaGreat
/-
  The reference's Check: unknown methods, wrong numbers of arguments.
-/
namespace Go.Proofs.YtpbfaffheigjcaaGreat
open Go.RowKit
namespace Num
open Ints
set_option linter.unusedSimpArgs false
set_option linter.unusedVariables false
set_option maxRecDepth 100000 in
set_option maxHeartbeats 4000000 in
theorem rcheck_none (m : ByteArray) (hx : findM m msL = none) (p : Option Addr) (l c : Nat) (w : World) : Calls Tryz.prog 31 #[.string { data := #[108, 101, 100, 103, 101, 114] }, .string m, .slice p l c] w fun e w' => e = .returned (.int .i64 31) ∧ Below w.heap.size w w' := by
  have HFD := Lib.hid (show ∀ W, Calls Tryz.prog 63 #[.string { data := #[108, 101, 100, 103, 101, 114] }, .string m] W fun e w' => e = .returned (.tuple #[.agg #[.string ⟨#[]⟩, .string ⟨#[]⟩, .bool false], .bool false]) ∧ Below W.heap.size W w' from fun W => by
    have h := rfind_any { data := #[108, 101, 100, 103, 101, 114] } m W (by decide)
    rw [show metas { data := #[108, 101, 100, 103, 101, 114] } = msL by rfl, hx] at h
    exact h)
  clear hx
  go_enter Tryz.func31, Tryz.ntmps31
  go_wp2_with fail
  go_at_call 63; refine (HFD.out _).mono ?_; rintro e w1 ⟨rfl, hb1⟩
  have hal := bel_alloc (Below.refl w1.heap.size w1) (.cells #[.string ⟨#[]⟩, .string ⟨#[]⟩, .bool false] 74)
  have HB1 := Lib.hid (bel_step hb1 hal)
  clear hb1 hal HFD
  go_wp2
  go_ret
  exact ⟨rfl, HB1.out⟩
set_option maxRecDepth 100000 in
set_option maxHeartbeats 4000000 in
theorem rcheck_zl (m : ByteArray) (nm : ByteArray) (ws : Bool) (hx : findM m msL = some (nm, ws, { data := #[] })) (p : Option Addr) (l c : Nat) (hl : l ≠ 0) (w : World) : Calls Tryz.prog 31 #[.string { data := #[108, 101, 100, 103, 101, 114] }, .string m, .slice p l c] w fun e w' => e = .returned (.int .i64 31) ∧ Below w.heap.size w w' := by
  have HFD := Lib.hid (show ∀ W, Calls Tryz.prog 63 #[.string { data := #[108, 101, 100, 103, 101, 114] }, .string m] W fun e w' => e = .returned (.tuple #[.agg #[.string nm, .string { data := #[] }, .bool ws], .bool true]) ∧ Below W.heap.size W w' from fun W => by
    have h := rfind_any { data := #[108, 101, 100, 103, 101, 114] } m W (by decide)
    rw [show metas { data := #[108, 101, 100, 103, 101, 114] } = msL by rfl, hx] at h
    exact h)
  clear hx
  have hne : ((0 : Int) != (l : Int)) = true := by rw [bne_iff_ne]; omega
  have hne2 : ¬ ((0 : Int) = (l : Int)) := by omega
  go_enter Tryz.func31, Tryz.ntmps31
  go_wp2_with fail
  go_at_call 63; refine (HFD.out _).mono ?_; rintro e w1 ⟨rfl, hb1⟩
  have hal := bel_alloc (Below.refl w1.heap.size w1) (.cells #[.string nm, .string { data := #[] }, .bool ws] 74)
  have HB1 := Lib.hid (bel_step hb1 hal)
  clear hb1 hal HFD
  go_wp2
  go_ret
  exact ⟨rfl, HB1.out⟩
set_option maxRecDepth 100000 in
set_option maxHeartbeats 4000000 in
theorem rcheck_nl (m : ByteArray) (nm : ByteArray) (ws : Bool) (hx : findM m msL = some (nm, ws, { data := #[110] })) (p : Option Addr) (l c : Nat) (hl : l ≠ 1) (w : World) : Calls Tryz.prog 31 #[.string { data := #[108, 101, 100, 103, 101, 114] }, .string m, .slice p l c] w fun e w' => e = .returned (.int .i64 31) ∧ Below w.heap.size w w' := by
  have HFD := Lib.hid (show ∀ W, Calls Tryz.prog 63 #[.string { data := #[108, 101, 100, 103, 101, 114] }, .string m] W fun e w' => e = .returned (.tuple #[.agg #[.string nm, .string { data := #[110] }, .bool ws], .bool true]) ∧ Below W.heap.size W w' from fun W => by
    have h := rfind_any { data := #[108, 101, 100, 103, 101, 114] } m W (by decide)
    rw [show metas { data := #[108, 101, 100, 103, 101, 114] } = msL by rfl, hx] at h
    exact h)
  clear hx
  have hne : ((1 : Int) != (l : Int)) = true := by rw [bne_iff_ne]; omega
  have hne2 : ¬ ((1 : Int) = (l : Int)) := by omega
  go_enter Tryz.func31, Tryz.ntmps31
  go_wp2_with fail
  go_at_call 63; refine (HFD.out _).mono ?_; rintro e w1 ⟨rfl, hb1⟩
  have hal := bel_alloc (Below.refl w1.heap.size w1) (.cells #[.string nm, .string { data := #[110] }, .bool ws] 74)
  have HB1 := Lib.hid (bel_step hb1 hal)
  clear hb1 hal HFD
  go_wp2
  go_ret
  exact ⟨rfl, HB1.out⟩
set_option maxRecDepth 100000 in
set_option maxHeartbeats 4000000 in
theorem rcheck_nhl (m : ByteArray) (nm : ByteArray) (ws : Bool) (hx : findM m msL = some (nm, ws, { data := #[110, 35] })) (p : Option Addr) (l c : Nat) (hl : l ≠ 2) (w : World) : Calls Tryz.prog 31 #[.string { data := #[108, 101, 100, 103, 101, 114] }, .string m, .slice p l c] w fun e w' => e = .returned (.int .i64 31) ∧ Below w.heap.size w w' := by
  have HFD := Lib.hid (show ∀ W, Calls Tryz.prog 63 #[.string { data := #[108, 101, 100, 103, 101, 114] }, .string m] W fun e w' => e = .returned (.tuple #[.agg #[.string nm, .string { data := #[110, 35] }, .bool ws], .bool true]) ∧ Below W.heap.size W w' from fun W => by
    have h := rfind_any { data := #[108, 101, 100, 103, 101, 114] } m W (by decide)
    rw [show metas { data := #[108, 101, 100, 103, 101, 114] } = msL by rfl, hx] at h
    exact h)
  clear hx
  have hne : ((2 : Int) != (l : Int)) = true := by rw [bne_iff_ne]; omega
  have hne2 : ¬ ((2 : Int) = (l : Int)) := by omega
  go_enter Tryz.func31, Tryz.ntmps31
  go_wp2_with fail
  go_at_call 63; refine (HFD.out _).mono ?_; rintro e w1 ⟨rfl, hb1⟩
  have hal := bel_alloc (Below.refl w1.heap.size w1) (.cells #[.string nm, .string { data := #[110, 35] }, .bool ws] 74)
  have HB1 := Lib.hid (bel_step hb1 hal)
  clear hb1 hal HFD
  go_wp2
  go_ret
  exact ⟨rfl, HB1.out⟩
set_option maxRecDepth 100000 in
set_option maxHeartbeats 4000000 in
theorem rcheck_nnhl (m : ByteArray) (nm : ByteArray) (ws : Bool) (hx : findM m msL = some (nm, ws, { data := #[110, 110, 35] })) (p : Option Addr) (l c : Nat) (hl : l ≠ 3) (w : World) : Calls Tryz.prog 31 #[.string { data := #[108, 101, 100, 103, 101, 114] }, .string m, .slice p l c] w fun e w' => e = .returned (.int .i64 31) ∧ Below w.heap.size w w' := by
  have HFD := Lib.hid (show ∀ W, Calls Tryz.prog 63 #[.string { data := #[108, 101, 100, 103, 101, 114] }, .string m] W fun e w' => e = .returned (.tuple #[.agg #[.string nm, .string { data := #[110, 110, 35] }, .bool ws], .bool true]) ∧ Below W.heap.size W w' from fun W => by
    have h := rfind_any { data := #[108, 101, 100, 103, 101, 114] } m W (by decide)
    rw [show metas { data := #[108, 101, 100, 103, 101, 114] } = msL by rfl, hx] at h
    exact h)
  clear hx
  have hne : ((3 : Int) != (l : Int)) = true := by rw [bne_iff_ne]; omega
  have hne2 : ¬ ((3 : Int) = (l : Int)) := by omega
  go_enter Tryz.func31, Tryz.ntmps31
  go_wp2_with fail
  go_at_call 63; refine (HFD.out _).mono ?_; rintro e w1 ⟨rfl, hb1⟩
  have hal := bel_alloc (Below.refl w1.heap.size w1) (.cells #[.string nm, .string { data := #[110, 110, 35] }, .bool ws] 74)
  have HB1 := Lib.hid (bel_step hb1 hal)
  clear hb1 hal HFD
  go_wp2
  go_ret
  exact ⟨rfl, HB1.out⟩
end Num
end Go.Proofs.YtpbfaffheigjcaaGreat
