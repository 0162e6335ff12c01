/-
  What package wire reads: a value, a list, at any depth.
-/
import Derived.Test.YtbodakfgoijeeaaWL
namespace Go.Proofs.Ytbodakfgoijeeaa
open Go.RowKit
namespace Num
open Ints
set_option linter.unusedSimpArgs false
set_option linter.unusedVariables false
def Fail3 (e : Ending) : Prop := ∃ (K I : Int) (F : Nat) (S : ByteArray) (p : Option Addr) (l c : Nat) (m : Int), e = .returned (.tuple #[.agg #[.int .i64 K, .int .i64 I, .float .f64 F, .string S, .slice p l c], .int .i64 m, .bool false])
def RvPost (n : Nat) (X : List Int) (w : World) (e : Ending) (w' : World) : Prop := Below w.heap.size w w' ∧ (decV n X = none → Fail3 e) ∧ ∀ T j, decV n X = some (T, j) → ∃ v, e = .returned (.tuple #[v, .int .i64 (j : Int), .bool true]) ∧ RepS (fun b => w.heap.size ≤ b) w' n v T
def RlPost (n : Nat) (X : List Int) (w : World) (e : Ending) (w' : World) : Prop := Below w.heap.size w w' ∧ (decR (decV n) X = none → e = .returned (.tuple #[.slice none 0 0, .int .i64 0, .bool false])) ∧
  ∀ L j, decR (decV n) X = some (L, j) → ∃ p l c, e = .returned (.tuple #[.slice p l c, .int .i64 (j : Int), .bool true]) ∧ RepLS (fun b => w.heap.size ≤ b) w' (RepC w' n) p l c L
def RvAll (n : Nat) : Prop := ∀ (w : World) (p : Option Addr) (l c : Nat) (X : List Int), RdB w p l c X → By X → l ≤ n → l ≤ 100000 → Calls Try.prog 21 #[.slice p l c] w (RvPost n X w)
theorem ow_bel_l {W0 w : World} {n : Nat} {p : Option Addr} {l c : Nat} {L : List (VT n)} (h : OwL W0 w n p l c L) : Below W0.heap.size W0 w := by
  obtain ⟨_, _, _, h3, _⟩ := h
  exact h3
theorem rep_fresh {W0 wr w1 : World} {n : Nat} {p : Option Addr} {l c : Nat} {L : List (VT n)} (h : OwL W0 wr n p l c L) (hb : Below wr.heap.size wr w1) {v : Value} {T : VT n} (hr : RepS (fun b => wr.heap.size ≤ b) w1 n v T) (o : Obj) : RepC (w1.alloc o) n (fun b => Fr W0 (w1.alloc o) (.slice p l c) b ∧ wr.heap.size ≤ b) v T := by
  have hlt := ol_lt h
  obtain ⟨_, _, _, _, hle, _⟩ := h
  refine repC_mono n _ _ _ _ (fun b ⟨h1, h2⟩ => ⟨⟨by omega, by rw [World.size_alloc]; omega, fun e => ?_⟩, h1⟩) (repS_keep (fun b ⟨_, h2⟩ => Below.heap_alloc _ _ _ h2) n _ _ (repS_lt n _ _ hr))
  have := hlt b e
  omega
theorem ending_list {q : Option Addr} {s d : Nat} {x y : Int} (h : x = y) : Ending.returned (.tuple #[.slice q s d, .int .i64 x, .bool true]) = .returned (.tuple #[.slice q s d, .int .i64 y, .bool true]) := by rw [h]
def RlAll (n : Nat) : Prop := ∀ (w : World) (p : Option Addr) (l c : Nat) (X : List Int), RdB w p l c X → By X → l ≤ n + 1 → l ≤ 100000 → Calls Try.prog 37 #[.slice p l c] w (RlPost n X w)
set_option maxRecDepth 100000 in
set_option maxHeartbeats 2000000 in
theorem readList_empty (n : Nat) (w : World) (p : Option Addr) (c : Nat) (hc : c ≤ maxLen) : Calls Try.prog 37 #[.slice p 0 c] w (RlPost n [] w) := by
  have HU := Lib.hid (readU_no w p 0 c 1 (Nat.zero_le _) hc (by omega))
  clear hc
  go_enter Try.func37, Try.ntmps37
  go_wp2_with fail
  go_at_call 15; refine HU.out.mono ?_; rintro e w1 ⟨rfl, rfl⟩
  go_wp2
  go_ret3
  exact ⟨Below.refl _ _, fun _ => rfl, fun L j h => by cases h⟩
/-- How far a list is read. -/
def LAt (w wr : World) (n : Nat) (R : List Int) (k : Nat) (p : Option Addr) (l c : Nat) (j : Nat) : Prop := ∃ L : List (VT n), decL (decV n) k R = some (L, j) ∧ l = k ∧ OwL w wr n p l c L
set_option maxRecDepth 100000 in
set_option maxHeartbeats 400000 in
theorem readList_of (n : Nat) (IH : RvAll n) : RlAll n := by
  intro w p l c X hb hX hln hl
  cases X with
  | nil =>
    obtain rfl : l = 0 := hb.1.symm
    exact readList_empty n w p c hb.2.2.1
  | cons m R =>
    have hl1 : l = R.length + 1 := hb.1.symm
    obtain ⟨b, off, rfl⟩ := rd_full hb (by omega)
    have hm := hX m (List.mem_cons_self ..)
    have HU := Lib.hid (readU_all w _ l c (m :: R) 1 hb hX (by omega) (by omega))
    have HM := Lib.hid (show rdU ((m :: R).take 1) = m from rdU_one m hm.1 hm.2)
    have HB := Lib.hid hb
    have HX := Lib.hid (show By R from fun x hx => hX x (List.mem_cons_of_mem _ hx))
    have HIH := Lib.hid IH
    obtain ⟨M, rfl⟩ : ∃ M : Nat, m = (M : Int) := ⟨m.toNat, by omega⟩
    have hM : M < 256 := by omega
    have hlc := hb.2.1
    have hcm := hb.2.2.1
    unfold maxLen at hcm
    have HDn := Lib.hid (show decL (decV n) M R = none → decR (decV n) ((M : Int) :: R) = none from fun h => by rw [decR, Int.toNat_natCast, h])
    have HDs := Lib.hid (show ∀ L j, decL (decV n) M R = some (L, j) → decR (decV n) ((M : Int) :: R) = some (L, 1 + j) from fun L j h => by rw [decR, Int.toNat_natCast, h])
    have HL1 := Lib.hid hl1
    have hl1' : 1 ≤ l := by omega
    clear hb hX IH hm hl1
    go_enter Try.func37, Try.ntmps37
    go_wp2_with fail
    go_at_call 15; refine HU.out.mono ?_; rintro e w1 ⟨rfl, rfl⟩
    rw [HM.out]
    go_wp2
    go_loopw [7, 8, 20] (fun lv pos i wr => ∃ (k : Nat) (q : Option Addr) (s d j : Nat), k ≤ M ∧ i = .int .u64 (k : Int) ∧ pos = .int .i64 (1 + (j : Int)) ∧ lv = .slice q s d ∧ LAt w wr n R k q s d j) (fun _ _ i _ => M - (intOf i).toNat)
    case atStart => exact ⟨0, none, 0, 0, 0, Nat.zero_le _, rfl, rfl, rfl, [], rfl, rfl, ol_nil _ _ _ (Below.refl _ _) (Nat.le_refl _)⟩
    case round =>
      obtain ⟨k, q, s, d, j, hk, rfl, rfl, rfl, L, hdec, hsk, hol⟩ := hrel
      have hlen := HL1.out
      have hj := decL_le (decV_le n) _ _ _ _ hdec
      have hj1 : 1 + j ≤ l := by omega
      by_cases hlt : k < M
      · have hdrop : ((M : Int) :: R).drop (1 + j) = R.drop j := by rw [Nat.add_comm, List.drop_succ_cons]
        by_cases hce : c = 1 + j
        · obtain rfl : l = 1 + j := by omega
          have HRD := Lib.hid (show RdB wr (some ⟨b, off, none⟩) 0 0 (R.drop j) by rw [← hdrop]; exact rd_end (rd_keep (ow_bel_l hol) (by rw [← hce]; rw [hce]; have h := HB.out; rw [hce] at h; exact h)))
          subst hce
          clear hdrop
          cases hd : decV n (R.drop j) with
          | none =>
            have HN := Lib.hid (HDn.out (decL_none M (k + 1) (by rw [decL, hdec]; simp only [hd]) (by omega)))
            have HOL := Lib.hid hol
            have HDD := Lib.hid hd
            clear hdec hol hd hlen hj hsk
            go_wp2_with fail
            go_at_call 21; refine (HIH.out wr _ _ _ (R.drop j) HRD.out (by_drop HX.out j) (by omega) (by omega)).mono ?_; rintro e w1 ⟨hb1, hno, _⟩
            obtain ⟨K, I, F, S, q', l', c', m', rfl⟩ := hno HDD.out
            have HB1 := Lib.hid (bel_step (ow_bel_l HOL.out) hb1)
            clear hb1 hno
            go_wp2
            go_ret3
            exact ⟨bel_alloc HB1.out _, fun _ => rfl, fun L' j' h' => by rw [HN.out] at h'; cases h'⟩
          | some TJ =>
            obtain ⟨T, j1⟩ := TJ
            have hj2 := decV_le n _ _ _ hd
            rw [List.length_drop] at hj2
            omega
        · have HRD := Lib.hid (show RdB wr (some ⟨b, off + (1 + j), none⟩) (l - (1 + j)) (c - (1 + j)) (R.drop j) by rw [← hdrop]; exact rd_from (rd_keep (ow_bel_l hol) HB.out) hj1 hce)
          clear hdrop
          cases hd : decV n (R.drop j) with
          | none =>
            have HN := Lib.hid (HDn.out (decL_none M (k + 1) (by rw [decL, hdec]; simp only [hd]) (by omega)))
            have HOL := Lib.hid hol
            have HDD := Lib.hid hd
            clear hdec hol hd hlen hj hsk
            go_wp2_with fail
            go_at_call 21; refine (HIH.out wr _ _ _ (R.drop j) HRD.out (by_drop HX.out j) (by omega) (by omega)).mono ?_; rintro e w1 ⟨hb1, hno, _⟩
            obtain ⟨K, I, F, S, q', l', c', m', rfl⟩ := hno HDD.out
            have HB1 := Lib.hid (bel_step (ow_bel_l HOL.out) hb1)
            clear hb1 hno
            go_wp2
            go_ret3
            exact ⟨bel_alloc HB1.out _, fun _ => rfl, fun L' j' h' => by rw [HN.out] at h'; cases h'⟩
          | some TJ =>
            obtain ⟨T, j1⟩ := TJ
            have hj2 := decV_le n _ _ _ hd
            rw [List.length_drop] at hj2
            have hj3 : j + j1 ≤ 100000 := by omega
            have hj4 : 1 + (j + j1) ≤ l := by omega
            have hs6 : s ≤ 1000 := by omega
            have HDC := Lib.hid (show decL (decV n) (k + 1) R = some (L ++ [T], j + j1) by rw [decL, hdec]; simp only [hd])
            have HOL := Lib.hid hol
            have HDD := Lib.hid hd
            have HSK := Lib.hid hsk
            clear hdec hol hd hlen hj hj2 hsk
            go_wp2_with fail
            go_at_call 21; refine (HIH.out wr _ _ _ (R.drop j) HRD.out (by_drop HX.out j) (by omega) (by omega)).mono ?_; rintro e w1 ⟨hb1, _, hyes⟩
            obtain ⟨v, rfl, hrep⟩ := hyes T j1 HDD.out
            obtain ⟨K, I, F, S, q', l', c', rfl, _⟩ := repS_shape hrep
            have HOL1 := Lib.hid (om_keep (om_keep HOL.out hb1) ((Below.refl w1.heap.size w1).alloc (Nat.le_refl _) (.cells #[.int .i64 K, .int .i64 I, .float .f64 F, .string S, .slice q' l' c'] 26)))
            have HREP := Lib.hid (rep_fresh HOL.out hb1 hrep (.cells #[.int .i64 K, .int .i64 I, .float .f64 F, .string S, .slice q' l' c'] 26))
            clear hb1 hyes hrep
            go_wp2_with (at_builtin; refine wp_ov1 rfl (.tmp 32) (.tmp 34) rfl wr.heap.size w _ n q s d L _ _ _ _ _ T rfl (congrArg (fun z => Value.slice (some ⟨z, 0, none⟩) 1 1) (World.size_alloc w1 (.cells #[.int .i64 K, .int .i64 I, .float .f64 F, .string S, .slice q' l' c'] 26)).symm) HOL1.out (by omega) HREP.out ?_; intro p2 c2 w2 ho2)
            have HO2 := Lib.hid ho2
            clear ho2
            go_roundw
            case rel => exact ⟨k + 1, p2, s + 1, c2, j + j1, by omega, by go_num, by go_num, rfl, L ++ [T], HDC.out, by rw [HSK.out], HO2.out⟩
            case measure => simp [intOf]; omega
      · obtain rfl : k = M := by omega
        have HOL := Lib.hid (ol_rep hol)
        have HBW := Lib.hid (ow_bel_l hol)
        have HDC := Lib.hid (HDs.out L j hdec)
        have hs6 : s ≤ 1000 := by omega
        clear hdec hol hlen hj hsk
        go_wp2
        go_ret3
        refine ⟨HBW.out, fun h' => ?_, fun L' j' h' => ?_⟩
        · rw [HDC.out] at h'; cases h'
        · rw [HDC.out] at h'; cases h'
          exact ⟨q, s, d, ending_list (by omega), HOL.out⟩
end Num
end Go.Proofs.Ytbodakfgoijeeaa
