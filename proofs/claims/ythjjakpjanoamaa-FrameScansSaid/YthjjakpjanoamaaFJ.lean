/-
  Frames: what the reference opens.
-/
import Derived.Test.YthjjakpjanoamaaFI
namespace Go.Proofs.Ythjjakpjanoamaa
open Go.RowKit
namespace Num
open Ints
set_option linter.unusedSimpArgs false
set_option linter.unusedVariables false
set_option maxRecDepth 100000 in
set_option maxHeartbeats 1000000 in
theorem ropen_short (w : World) (p : Option Addr) (l c : Nat) (hl : l ≤ c) (hc : c ≤ maxLen) (h8 : l < 8) :
    Calls Try.prog 25 #[.slice p l c] w fun e w' => e = .returned (.tuple #[.slice none 0 0, .int .i64 0, .int .i64 23]) ∧ w = w' := by
  unfold maxLen at hc
  go_enter Try.func25, Try.ntmps25
  go_wp2
  go_ret3
  exact ⟨rfl, rfl⟩
set_option maxRecDepth 100000 in
set_option maxHeartbeats 1000000 in
theorem ropen_great (w : World) (b off l c : Nat) (X : List Int) (hx : RdB w (some ⟨b, off, none⟩) l c X) (hX : By X) (h8 : 8 ≤ l) (hL : 65536 < opL X) :
    Calls Try.prog 25 #[.slice (some ⟨b, off, none⟩) l c] w fun e w' => e = .returned (.tuple #[.slice none 0 0, .int .i64 0, .int .i64 22]) ∧ w = w' := by
  obtain ⟨e8, e4, hl4, hs0, hs4⟩ := head8 hX (by rw [hx.1]; exact h8)
  have HU := Lib.hid (rreadU_yes w (some ⟨b, off, none⟩) l c X 4 hx hX (by omega) (by omega))
  rw [e4] at HU
  have hcl := hx.2.1
  have hcm := hx.2.2.1
  unfold maxLen at hcm
  obtain ⟨L, hLe⟩ : ∃ L, opL X = L := ⟨_, rfl⟩
  rw [hLe] at HU hL hl4
  clear e8 e4 hx hX hLe hs0 hs4
  go_enter Try.func25, Try.ntmps25
  go_wp2_with fail
  go_at_call 49; refine HU.out.mono ?_; rintro e w1 ⟨rfl, rfl⟩
  clear hl4
  go_wp2
  go_ret3
  exact ⟨rfl, rfl⟩
set_option maxRecDepth 100000 in
set_option maxHeartbeats 1000000 in
theorem ropen_cut (w : World) (b off l c : Nat) (X : List Int) (hx : RdB w (some ⟨b, off, none⟩) l c X) (hX : By X) (h8 : 8 ≤ l) (hL : opL X ≤ 65536) (hc : l < 8 + opL X) :
    Calls Try.prog 25 #[.slice (some ⟨b, off, none⟩) l c] w fun e w' => e = .returned (.tuple #[.slice none 0 0, .int .i64 0, .int .i64 23]) ∧ w = w' := by
  obtain ⟨e8, e4, hl4, hs0, hs4⟩ := head8 hX (by rw [hx.1]; exact h8)
  have HU := Lib.hid (rreadU_yes w (some ⟨b, off, none⟩) l c X 4 hx hX (by omega) (by omega))
  rw [e4] at HU
  have hcl := hx.2.1
  have hcm := hx.2.2.1
  unfold maxLen at hcm
  obtain ⟨L, hLe⟩ : ∃ L, opL X = L := ⟨_, rfl⟩
  rw [hLe] at HU hL hl4 hc
  clear e8 e4 hx hX hLe hs0 hs4 hl4
  go_enter Try.func25, Try.ntmps25
  go_wp2_with fail
  go_at_call 49; refine HU.out.mono ?_; rintro e w1 ⟨rfl, rfl⟩
  go_wp2
  go_ret3
  exact ⟨rfl, rfl⟩
set_option maxRecDepth 100000 in
set_option maxHeartbeats 1000000 in
theorem ropen_bad8 (w : World) (b off l c : Nat) (X : List Int) (hx : RdB w (some ⟨b, off, none⟩) l c X) (hX : By X) (h8 : 8 ≤ l) (hL : opL X ≤ 65536) (hc : 8 + opL X ≤ l) (hS : crcI (X.take 4 ++ opP X) ≠ opS X) (h8c : c = 8) :
    Calls Try.prog 25 #[.slice (some ⟨b, off, none⟩) l c] w fun e w' => e = .returned (.tuple #[.slice none 0 0, .int .i64 0, .int .i64 21]) ∧ Below w.heap.size w w' := by
  obtain ⟨e8, e4, hl4, hs0, hs4⟩ := head8 hX (by rw [hx.1]; exact h8)
  have HU := Lib.hid (rreadU_yes w (some ⟨b, off, none⟩) l c X 4 hx hX (by omega) (by omega))
  rw [e4] at HU
  have hcl := hx.2.1
  have hcm := hx.2.2.1
  unfold maxLen at hcm
  have hK := crcI_rng (by_app (by_take hX 4) (show By (opP X) from by_take (by_drop hX 8) _))
  have HBP := Lib.hid (by_app (by_take hX 4) (show By (opP X) from by_take (by_drop hX 8) _))
  have h4 := rd_drop (p := none) (k := 4) hx (by omega) (by omega)
  have HV := Lib.hid (show Calls Try.prog 49 #[.slice (some ⟨b, off + 4, none⟩) (l - 4) (c - 4), .int .i64 4] w fun e w' => e = .returned (.tuple #[.int .u64 (opS X), .bool true]) ∧ w = w' from rreadU_yes w _ (l - 4) (c - 4) (X.drop 4) 4 h4 (by_drop hX 4) (by omega) (by omega))
  have HT := Lib.hid (rd_take (k := 4) hx (by omega))
  have hL0 : opL X = 0 := by omega
  have hl8 : l = 8 := by omega
  have hP0 : opP X = [] := by unfold opP; rw [hL0]; rfl
  have HP := Lib.hid (show RdB w (some ⟨b, off, none⟩) 0 0 [] from ⟨rfl, Nat.le_refl _, Nat.zero_le _, fun h => absurd h (Nat.lt_irrefl _), fun e => by cases e⟩)
  subst hl8
  subst h8c
  rw [hP0] at hK hS HBP
  obtain ⟨T, hTe⟩ : ∃ T, X.take 4 = T := ⟨_, rfl⟩
  rw [hTe] at hK hS HBP HT
  obtain ⟨k, hke⟩ : ∃ k, crcI (T ++ []) = k := ⟨_, rfl⟩
  rw [hke] at hK hS
  have HK := Lib.hid hke
  have hK0 := hK.1
  have hK1 := hK.2
  obtain ⟨L, hLe⟩ : ∃ L, opL X = L := ⟨_, rfl⟩
  obtain ⟨s, hse⟩ : ∃ s, opS X = s := ⟨_, rfl⟩
  rw [hse] at HV hs0 hs4 hS
  rw [hL0] at hLe
  subst hLe
  rw [hL0] at HU
  have hne : (k == s) = false := by rw [beq_eq_false_iff_ne]; exact hS
  clear e8 e4 hx hX hse hl4 hs0 hs4 hK hke h4 hTe hP0 hL0 hL hc hS
  go_enter Try.func25, Try.ntmps25
  go_wp2_with fail
  go_at_call 49; refine HU.out.mono ?_; rintro e w1 ⟨rfl, rfl⟩
  go_wp2_with fail
  go_at_call 49; refine HV.out.mono ?_; rintro e w1 ⟨rfl, rfl⟩
  go_wp2_with (at_builtin; (try rw [Nat.add_sub_cancel_left]); first
    | (refine wp_obR rfl _ _ rfl w w none 0 0 [] (some ⟨b, off, none⟩) 0 0 [] rfl rfl (ow_nil w) HP.out (by omega) (by omega) ?_
       intro p2 c2 w2 ho2 _
       have HO2 := Lib.hid (show OwB w w2 p2 0 c2 [] by have h := ho2; rw [Nat.zero_add, List.nil_append] at h; exact h)
       clear ho2)
    | (refine wp_obR rfl _ _ rfl w2 w2 none 0 0 [] (some ⟨b, off, none⟩) 4 8 T rfl rfl (ow_nil w2) (rd_keep (ow_bel HO2.out) HT.out) (by omega) (by omega) ?_
       intro p3 c3 w3 ho3 _
       have HO3 := Lib.hid (show OwB w2 w3 p3 4 c3 T by have h := ho3; rw [Nat.zero_add, List.nil_append] at h; exact h)
       clear ho3)
    | (refine wp_obR rfl _ _ rfl w2 w3 p3 4 c3 T p2 0 c2 [] rfl rfl HO3.out (rd_of_ow (ow_keep HO2.out (ow_bel HO3.out))) (by omega) (by omega) ?_
       intro p4 c4 w4 ho4 _
       have HO4 := Lib.hid ho4
       clear ho4))
  go_at_call 24; refine (rsum_any w4 p4 4 c4 (T ++ []) (rd_of_ow HO4.out) HBP.out (by omega)).mono ?_; rintro e w5 ⟨rfl, rfl⟩
  rw [HK.out]
  go_wp2
  go_ret3
  exact ⟨rfl, (ow_bel HO2.out).trans ((ow_bel HO4.out).mono (ow_bel HO2.out).size)⟩
set_option maxRecDepth 100000 in
set_option maxHeartbeats 1000000 in
theorem ropen_bad (w : World) (b off l c : Nat) (X : List Int) (hx : RdB w (some ⟨b, off, none⟩) l c X) (hX : By X) (h8 : 8 ≤ l) (hL : opL X ≤ 65536) (hc : 8 + opL X ≤ l) (hS : crcI (X.take 4 ++ opP X) ≠ opS X) (h8c : c ≠ 8) :
    Calls Try.prog 25 #[.slice (some ⟨b, off, none⟩) l c] w fun e w' => e = .returned (.tuple #[.slice none 0 0, .int .i64 0, .int .i64 21]) ∧ Below w.heap.size w w' := by
  obtain ⟨e8, e4, hl4, hs0, hs4⟩ := head8 hX (by rw [hx.1]; exact h8)
  have HU := Lib.hid (rreadU_yes w (some ⟨b, off, none⟩) l c X 4 hx hX (by omega) (by omega))
  rw [e4] at HU
  have hcl := hx.2.1
  have hcm := hx.2.2.1
  unfold maxLen at hcm
  have hK := crcI_rng (by_app (by_take hX 4) (show By (opP X) from by_take (by_drop hX 8) _))
  have HBP := Lib.hid (by_app (by_take hX 4) (show By (opP X) from by_take (by_drop hX 8) _))
  have h4 := rd_drop (p := none) (k := 4) hx (by omega) (by omega)
  have HV := Lib.hid (show Calls Try.prog 49 #[.slice (some ⟨b, off + 4, none⟩) (l - 4) (c - 4), .int .i64 4] w fun e w' => e = .returned (.tuple #[.int .u64 (opS X), .bool true]) ∧ w = w' from rreadU_yes w _ (l - 4) (c - 4) (X.drop 4) 4 h4 (by_drop hX 4) (by omega) (by omega))
  have HT := Lib.hid (rd_take (k := 4) hx (by omega))
  have HP := Lib.hid (show RdB w (some ⟨b, off + 8, none⟩) (opL X) (c - 8) (opP X) from rd_cut (k := 8) (m := opL X) hx hc)
  obtain ⟨T, hTe⟩ : ∃ T, X.take 4 = T := ⟨_, rfl⟩
  rw [hTe] at hK hS HBP HT
  obtain ⟨k, hke⟩ : ∃ k, crcI (T ++ opP X) = k := ⟨_, rfl⟩
  rw [hke] at hK hS
  have HK := Lib.hid hke
  have hK0 := hK.1
  have hK1 := hK.2
  obtain ⟨L, hLe⟩ : ∃ L, opL X = L := ⟨_, rfl⟩
  obtain ⟨s, hse⟩ : ∃ s, opS X = s := ⟨_, rfl⟩
  rw [hse] at HV hs0 hs4 hS
  obtain ⟨P, hPe⟩ : ∃ P, opP X = P := ⟨_, rfl⟩
  rw [hPe] at HBP HP HK
  rw [hLe] at HU HP hL hc hl4
  have hne : (k == s) = false := by rw [beq_eq_false_iff_ne]; exact hS
  clear e8 e4 hx hX hse hl4 hs0 hs4 hK hke h4 hTe hPe hLe hS
  go_enter Try.func25, Try.ntmps25
  go_wp2_with fail
  go_at_call 49; refine HU.out.mono ?_; rintro e w1 ⟨rfl, rfl⟩
  go_wp2_with fail
  go_at_call 49; refine HV.out.mono ?_; rintro e w1 ⟨rfl, rfl⟩
  go_wp2_with (at_builtin; (try rw [Nat.add_sub_cancel_left]); first
    | (refine wp_obR rfl _ _ rfl w w none 0 0 [] (some ⟨b, off + 8, none⟩) L (c - 8) P rfl rfl (ow_nil w) HP.out (by omega) (by omega) ?_
       intro p2 c2 w2 ho2 _
       have HO2 := Lib.hid (show OwB w w2 p2 L c2 P by have h := ho2; rw [Nat.zero_add, List.nil_append] at h; exact h)
       clear ho2)
    | (refine wp_obR rfl _ _ rfl w2 w2 none 0 0 [] (some ⟨b, off, none⟩) 4 c T rfl rfl (ow_nil w2) (rd_keep (ow_bel HO2.out) HT.out) (by omega) (by omega) ?_
       intro p3 c3 w3 ho3 _
       have HO3 := Lib.hid (show OwB w2 w3 p3 4 c3 T by have h := ho3; rw [Nat.zero_add, List.nil_append] at h; exact h)
       clear ho3)
    | (refine wp_obR rfl _ _ rfl w2 w3 p3 4 c3 T p2 L c2 P rfl rfl HO3.out (rd_of_ow (ow_keep HO2.out (ow_bel HO3.out))) (by omega) (by omega) ?_
       intro p4 c4 w4 ho4 _
       have HO4 := Lib.hid ho4
       clear ho4))
  go_at_call 24; refine (rsum_any w4 p4 (4 + L) c4 (T ++ P) (rd_of_ow HO4.out) HBP.out (by omega)).mono ?_; rintro e w5 ⟨rfl, rfl⟩
  rw [HK.out]
  go_wp2
  go_ret3
  exact ⟨rfl, (ow_bel HO2.out).trans ((ow_bel HO4.out).mono (ow_bel HO2.out).size)⟩
set_option maxRecDepth 100000 in
set_option maxHeartbeats 1000000 in
theorem ropen_yes8 (w : World) (b off l c : Nat) (X : List Int) (hx : RdB w (some ⟨b, off, none⟩) l c X) (hX : By X) (h8 : 8 ≤ l) (hL : opL X ≤ 65536) (hc : 8 + opL X ≤ l) (hS : crcI (X.take 4 ++ opP X) = opS X) (h8c : c = 8) :
    Calls Try.prog 25 #[.slice (some ⟨b, off, none⟩) l c] w fun e w' => ∃ p' c', e = .returned (.tuple #[.slice p' 0 c', .int .i64 8, .int .i64 0]) ∧ OwB w w' p' 0 c' [] := by
  obtain ⟨e8, e4, hl4, hs0, hs4⟩ := head8 hX (by rw [hx.1]; exact h8)
  have HU := Lib.hid (rreadU_yes w (some ⟨b, off, none⟩) l c X 4 hx hX (by omega) (by omega))
  rw [e4] at HU
  have hcl := hx.2.1
  have hcm := hx.2.2.1
  unfold maxLen at hcm
  have hK := crcI_rng (by_app (by_take hX 4) (show By (opP X) from by_take (by_drop hX 8) _))
  have HBP := Lib.hid (by_app (by_take hX 4) (show By (opP X) from by_take (by_drop hX 8) _))
  have h4 := rd_drop (p := none) (k := 4) hx (by omega) (by omega)
  have HV := Lib.hid (show Calls Try.prog 49 #[.slice (some ⟨b, off + 4, none⟩) (l - 4) (c - 4), .int .i64 4] w fun e w' => e = .returned (.tuple #[.int .u64 (opS X), .bool true]) ∧ w = w' from rreadU_yes w _ (l - 4) (c - 4) (X.drop 4) 4 h4 (by_drop hX 4) (by omega) (by omega))
  have HT := Lib.hid (rd_take (k := 4) hx (by omega))
  have hL0 : opL X = 0 := by omega
  have hl8 : l = 8 := by omega
  have hP0 : opP X = [] := by unfold opP; rw [hL0]; rfl
  have HP := Lib.hid (show RdB w (some ⟨b, off, none⟩) 0 0 [] from ⟨rfl, Nat.le_refl _, Nat.zero_le _, fun h => absurd h (Nat.lt_irrefl _), fun e => by cases e⟩)
  subst hl8
  subst h8c
  rw [hP0] at hK hS HBP
  obtain ⟨T, hTe⟩ : ∃ T, X.take 4 = T := ⟨_, rfl⟩
  rw [hTe] at hK hS HBP HT
  obtain ⟨k, hke⟩ : ∃ k, crcI (T ++ []) = k := ⟨_, rfl⟩
  rw [hke] at hK hS
  have HK := Lib.hid hke
  have hK0 := hK.1
  have hK1 := hK.2
  obtain ⟨L, hLe⟩ : ∃ L, opL X = L := ⟨_, rfl⟩
  obtain ⟨s, hse⟩ : ∃ s, opS X = s := ⟨_, rfl⟩
  rw [hse] at HV hs0 hs4 hS
  rw [hL0] at hLe
  subst hLe
  rw [hL0] at HU
  subst hS
  clear e8 e4 hx hX hse hl4 hs0 hs4 hK hke h4 hTe hP0 hL0 hL hc
  go_enter Try.func25, Try.ntmps25
  go_wp2_with fail
  go_at_call 49; refine HU.out.mono ?_; rintro e w1 ⟨rfl, rfl⟩
  go_wp2_with fail
  go_at_call 49; refine HV.out.mono ?_; rintro e w1 ⟨rfl, rfl⟩
  go_wp2_with (at_builtin; (try rw [Nat.add_sub_cancel_left]); first
    | (refine wp_obR rfl _ _ rfl w w none 0 0 [] (some ⟨b, off, none⟩) 0 0 [] rfl rfl (ow_nil w) HP.out (by omega) (by omega) ?_
       intro p2 c2 w2 ho2 _
       have HO2 := Lib.hid (show OwB w w2 p2 0 c2 [] by have h := ho2; rw [Nat.zero_add, List.nil_append] at h; exact h)
       clear ho2)
    | (refine wp_obR rfl _ _ rfl w2 w2 none 0 0 [] (some ⟨b, off, none⟩) 4 8 T rfl rfl (ow_nil w2) (rd_keep (ow_bel HO2.out) HT.out) (by omega) (by omega) ?_
       intro p3 c3 w3 ho3 _
       have HO3 := Lib.hid (show OwB w2 w3 p3 4 c3 T by have h := ho3; rw [Nat.zero_add, List.nil_append] at h; exact h)
       clear ho3)
    | (refine wp_obR rfl _ _ rfl w2 w3 p3 4 c3 T p2 0 c2 [] rfl rfl HO3.out (rd_of_ow (ow_keep HO2.out (ow_bel HO3.out))) (by omega) (by omega) ?_
       intro p4 c4 w4 ho4 _
       have HO4 := Lib.hid ho4
       clear ho4))
  go_at_call 24; refine (rsum_any w4 p4 4 c4 (T ++ []) (rd_of_ow HO4.out) HBP.out (by omega)).mono ?_; rintro e w5 ⟨rfl, rfl⟩
  rw [HK.out]
  go_wp2
  go_ret3
  exact ⟨p2, c2, rfl, ow_keep HO2.out (ow_bel HO4.out)⟩
set_option maxRecDepth 100000 in
set_option maxHeartbeats 1000000 in
theorem ropen_yes (w : World) (b off l c : Nat) (X : List Int) (hx : RdB w (some ⟨b, off, none⟩) l c X) (hX : By X) (h8 : 8 ≤ l) (hL : opL X ≤ 65536) (hc : 8 + opL X ≤ l) (hS : crcI (X.take 4 ++ opP X) = opS X) (h8c : c ≠ 8) :
    Calls Try.prog 25 #[.slice (some ⟨b, off, none⟩) l c] w fun e w' => ∃ p' c', e = .returned (.tuple #[.slice p' (opL X) c', .int .i64 (8 + (opL X : Int)), .int .i64 0]) ∧ OwB w w' p' (opL X) c' (opP X) := by
  obtain ⟨e8, e4, hl4, hs0, hs4⟩ := head8 hX (by rw [hx.1]; exact h8)
  have HU := Lib.hid (rreadU_yes w (some ⟨b, off, none⟩) l c X 4 hx hX (by omega) (by omega))
  rw [e4] at HU
  have hcl := hx.2.1
  have hcm := hx.2.2.1
  unfold maxLen at hcm
  have hK := crcI_rng (by_app (by_take hX 4) (show By (opP X) from by_take (by_drop hX 8) _))
  have HBP := Lib.hid (by_app (by_take hX 4) (show By (opP X) from by_take (by_drop hX 8) _))
  have h4 := rd_drop (p := none) (k := 4) hx (by omega) (by omega)
  have HV := Lib.hid (show Calls Try.prog 49 #[.slice (some ⟨b, off + 4, none⟩) (l - 4) (c - 4), .int .i64 4] w fun e w' => e = .returned (.tuple #[.int .u64 (opS X), .bool true]) ∧ w = w' from rreadU_yes w _ (l - 4) (c - 4) (X.drop 4) 4 h4 (by_drop hX 4) (by omega) (by omega))
  have HT := Lib.hid (rd_take (k := 4) hx (by omega))
  have HP := Lib.hid (show RdB w (some ⟨b, off + 8, none⟩) (opL X) (c - 8) (opP X) from rd_cut (k := 8) (m := opL X) hx hc)
  obtain ⟨T, hTe⟩ : ∃ T, X.take 4 = T := ⟨_, rfl⟩
  rw [hTe] at hK hS HBP HT
  obtain ⟨k, hke⟩ : ∃ k, crcI (T ++ opP X) = k := ⟨_, rfl⟩
  rw [hke] at hK hS
  have HK := Lib.hid hke
  have hK0 := hK.1
  have hK1 := hK.2
  obtain ⟨L, hLe⟩ : ∃ L, opL X = L := ⟨_, rfl⟩
  obtain ⟨s, hse⟩ : ∃ s, opS X = s := ⟨_, rfl⟩
  rw [hse] at HV hs0 hs4 hS
  obtain ⟨P, hPe⟩ : ∃ P, opP X = P := ⟨_, rfl⟩
  rw [hPe] at HBP HP HK ⊢
  rw [hLe] at HU HP hL hc hl4 ⊢
  subst hS
  clear e8 e4 hx hX hse hl4 hs0 hs4 hK hke h4 hTe hPe hLe
  go_enter Try.func25, Try.ntmps25
  go_wp2_with fail
  go_at_call 49; refine HU.out.mono ?_; rintro e w1 ⟨rfl, rfl⟩
  go_wp2_with fail
  go_at_call 49; refine HV.out.mono ?_; rintro e w1 ⟨rfl, rfl⟩
  go_wp2_with (at_builtin; (try rw [Nat.add_sub_cancel_left]); first
    | (refine wp_obR rfl _ _ rfl w w none 0 0 [] (some ⟨b, off + 8, none⟩) L (c - 8) P rfl rfl (ow_nil w) HP.out (by omega) (by omega) ?_
       intro p2 c2 w2 ho2 _
       have HO2 := Lib.hid (show OwB w w2 p2 L c2 P by have h := ho2; rw [Nat.zero_add, List.nil_append] at h; exact h)
       clear ho2)
    | (refine wp_obR rfl _ _ rfl w2 w2 none 0 0 [] (some ⟨b, off, none⟩) 4 c T rfl rfl (ow_nil w2) (rd_keep (ow_bel HO2.out) HT.out) (by omega) (by omega) ?_
       intro p3 c3 w3 ho3 _
       have HO3 := Lib.hid (show OwB w2 w3 p3 4 c3 T by have h := ho3; rw [Nat.zero_add, List.nil_append] at h; exact h)
       clear ho3)
    | (refine wp_obR rfl _ _ rfl w2 w3 p3 4 c3 T p2 L c2 P rfl rfl HO3.out (rd_of_ow (ow_keep HO2.out (ow_bel HO3.out))) (by omega) (by omega) ?_
       intro p4 c4 w4 ho4 _
       have HO4 := Lib.hid ho4
       clear ho4))
  go_at_call 24; refine (rsum_any w4 p4 (4 + L) c4 (T ++ P) (rd_of_ow HO4.out) HBP.out (by omega)).mono ?_; rintro e w5 ⟨rfl, rfl⟩
  rw [HK.out]
  go_wp2
  go_ret3
  exact ⟨p2, c2, rfl, ow_keep HO2.out (ow_bel HO4.out)⟩
end Num
end Go.Proofs.Ythjjakpjanoamaa
