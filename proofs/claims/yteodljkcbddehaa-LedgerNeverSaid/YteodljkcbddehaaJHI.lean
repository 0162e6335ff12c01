/-
  Package args' Check, of values of at most a thousand parts each.
-/
import Derived.Test.YteodljkcbddehaaJMI
import Derived.Test.YteodljkcbddehaaJp7HB
import Derived.Test.YteodljkcbddehaaJHH
import Derived.Test.YteodljkcbddehaaJp9VSurv
import Derived.Deep.RegionHeld3
namespace Go.Proofs.Yteodljkcbddehaa
open Go.RowKit
namespace Num
open Ints
set_option linter.unusedSimpArgs false
set_option linter.unusedVariables false
def holdsT (z : Int) (n : Nat) (T : VT (n + 1)) : Bool :=
  if z = 4 then stT n T else if z = 3 then nmV T.1 T.2.2.2.1 else if z = 2 then T.1 == 1 || T.1 == 2 else if z = 1 then T.1 == 1 else true
theorem holds_all (z : Int) (n : Nat) (v : Value) (T : VT (n + 1)) (w : World) (hz : z = 0 ∨ z = 1 ∨ z = 2 ∨ z = 3 ∨ z = 4) (hr : Rep w (n + 1) v T) : Calls Try.prog 30 #[.int .i64 z, v] w fun e w' => e = .returned (.bool (holdsT z n T)) ∧ Below w.heap.size w w' := by
  have hr' := hr
  obtain ⟨p, l, c, rfl, _, _, _, hS, _⟩ := hr'
  rcases hz with rfl | rfl | rfl | rfl | rfl
  · exact holds_any _ _ _ _ _ _ _ _
  · exact holds_int _ _ _ _ _ _ _ _
  · exact holds_num _ _ _ _ _ _ _ _
  · exact holds_name _ _ _ _ _ _ _ _ hS
  · exact holds_step n _ T w hr
theorem kind_vals (c : UInt8) : kindC c = 0 ∨ kindC c = 1 ∨ kindC c = 2 ∨ kindC c = 3 ∨ kindC c = 4 := by
  unfold kindC
  split
  · simp
  · split
    · simp
    · split
      · simp
      · split <;> simp
theorem checkM_vals (q : Me) : checkM q = 0 ∨ checkM q = 22 ∨ checkM q = 31 := by
  unfold checkM
  split
  · simp
  · split <;> simp
def chkL (n : Nat) : List (VT (n + 1)) → Int
  | [] => 0
  | T :: r => if checkM (measT (n + 1) T) = 0 then chkL n r else checkM (measT (n + 1) T)
def kAt (t : ByteArray) (i : Nat) : Int := kindC (t.data.toList.getD (min i (t.size - 1)) 0)
def hldL (t : ByteArray) (n : Nat) : Nat → List (VT (n + 1)) → Bool
  | _, [] => true
  | i, T :: r => holdsT (kAt t i) n T && hldL t n (i + 1) r
def chkA (c m : ByteArray) (n : Nat) (L : List (VT (n + 1))) : Int :=
  match findM m (metas c) with
  | none => 31
  | some x => if (decide (x.2.2.size ≤ L.length) && decide ((L.length : Int) ≤ x.2.2.size + moreOf x.2.2)) = true then (if chkL n L = 0 then (if hldL x.2.2 n 0 L = true then 0 else 31) else chkL n L) else 31
theorem chk_drop {n : Nat} {L : List (VT (n + 1))} {i : Nat} (h : i < L.length) : chkL n (L.drop i) = if checkM (measT (n + 1) L[i]) = 0 then chkL n (L.drop (i + 1)) else checkM (measT (n + 1) L[i]) := by
  rw [List.drop_eq_getElem_cons h]
  rfl
theorem hld_drop {t : ByteArray} {n : Nat} {L : List (VT (n + 1))} {i : Nat} (h : i < L.length) : hldL t n i (L.drop i) = (holdsT (kAt t i) n L[i] && hldL t n (i + 1) (L.drop (i + 1))) := by
  rw [List.drop_eq_getElem_cons h]
  rfl
def C8 (W0 : World) (B V : Nat) (s0 s1 s2 v0 v1 v2 v3 v4 : Value) (W : World) : Prop :=
  W.cell? ⟨B, 0, none⟩ = some s0 ∧ W.cell? ⟨B, 1, none⟩ = some s1 ∧ W.cell? ⟨B, 2, none⟩ = some s2 ∧ W.cell? ⟨V, 0, none⟩ = some v0 ∧ W.cell? ⟨V, 1, none⟩ = some v1 ∧ W.cell? ⟨V, 2, none⟩ = some v2 ∧ W.cell? ⟨V, 3, none⟩ = some v3 ∧ W.cell? ⟨V, 4, none⟩ = some v4 ∧ Below W0.heap.size W0 W
theorem c8_step {W0 : World} {B V : Nat} {s0 s1 s2 v0 v1 v2 v3 v4 : Value} {W w' : World} (h : C8 W0 B V s0 s1 s2 v0 v1 v2 v3 v4 W) (hb : Below W.heap.size W w') : C8 W0 B V s0 s1 s2 v0 v1 v2 v3 v4 w' := by
  obtain ⟨h0, h1, h2, h3, h4, h5, h6, h7, h8⟩ := h
  exact ⟨ck hb h0, ck hb h1, ck hb h2, ck hb h3, ck hb h4, ck hb h5, ck hb h6, ck hb h7, bel_step h8 hb⟩
theorem c8_drew {W0 : World} {B V : Nat} {s0 s1 s2 v0 v1 v2 v3 v4 : Value} {W : World} (h : C8 W0 B V s0 s1 s2 v0 v1 v2 v3 v4 W) : C8 W0 B V s0 s1 s2 v0 v1 v2 v3 v4 W.drew := c8_step h (Below.drew br)
set_option maxRecDepth 100000 in
set_option maxHeartbeats 8000000 in
theorem check_no (c m : ByteArray) (p : Option Addr) (l k : Nat) (w : World) (hl : l ≤ 9223372036854775807) (hno : findM m (metas c) = none ∨ ∃ x, findM m (metas c) = some x ∧ (decide (x.2.2.size ≤ l) && decide ((l : Int) ≤ x.2.2.size + moreOf x.2.2)) = false ∧ x.2.2.size ≤ 3) :
    Calls Try.prog 15 #[.string c, .string m, .slice p l k] w fun e w' => e = .returned (.int .i64 31) ∧ Below w.heap.size w w' := by
  have hz := look_none_ok
  have HNO := Lib.hid hno
  clear hno
  go_enter Try.func15, Try.ntmps15
  go_wp2_with fail
  go_at_call 26; refine (mof_any c w).mono ?_; rintro e w1 ⟨mm, rfl, hm, hb1⟩
  have HB1 := Lib.hid hb1
  clear hb1
  have hm2 : (mm = .map none ∧ metas c = []) ∨ ∃ b, mm = .map (some b) := by
    rcases hm with ⟨h, rfl⟩ | ⟨b, L, rfl, _⟩
    · exact Or.inl ⟨rfl, h⟩
    · exact Or.inr ⟨b, rfl⟩
  rcases hm2 with ⟨rfl, hnil0⟩ | ⟨b, rfl⟩
  · clear hm
    have hz1 := hz w1 m
    unfold noSig at hz1
    clear hz
    go_wp2
    go_ret
    exact ⟨rfl, bel_alloc HB1.out _⟩
  · rcases look_find hm m with ⟨h1, h2⟩ | ⟨x, v, h1, ⟨p2, rfl, h3⟩, h2⟩
    · have h4 := h2 true
      simp only [noSig, if_true] at h4
      clear hm hz h2
      go_wp2
      go_ret
      exact ⟨rfl, bel_alloc HB1.out _⟩
    · have h4 := h2 true
      simp only [sigV, if_true] at h4
      rcases HNO.out with h | ⟨x', h, hn, hs⟩
      · rw [h1] at h; cases h
      · rw [h1] at h
        injection h with h
        subst h
        obtain ⟨z, hz3⟩ : ∃ z, x.2.2.size = z := ⟨_, rfl⟩
        obtain ⟨mo, hmo⟩ : ∃ mo, moreOf x.2.2 = mo := ⟨_, rfl⟩
        obtain ⟨wx, hwx⟩ : ∃ wx, x.2.1 = wx := ⟨_, rfl⟩
        have hmo2 : 0 ≤ mo ∧ mo ≤ 100 := by rw [← hmo]; unfold moreOf; split <;> decide
        rw [hz3, hmo, hwx] at h4
        rw [hz3, hmo] at hn
        rw [hz3] at hs
        have HN := Lib.hid hn
        have HT := Lib.hid (fun W => takes_many p2 z mo wx l W (by omega) hmo2 hl)
        rw [hn] at HT
        clear hm hz h2 h3 hn hmo hz3 hwx hmo2 h1
        go_wp2_with fail
        go_at_call 27; refine (HT.out _).mono ?_; rintro e w2 ⟨rfl, hb2⟩
        have HB2 := Lib.hid (bel_step (bel_alloc HB1.out _) hb2)
        clear hb2
        go_wp2
        go_ret
        exact ⟨rfl, HB2.out⟩
set_option maxRecDepth 100000 in
theorem letters_good (c : ByteArray) : ∀ x ∈ metas c, x.2.2.size ≤ 3 := by
  rcases metas_cases c with h | h | h | h | h | h | h <;> rw [h]
  all_goals first | decide | exact fun x hx => absurd hx List.not_mem_nil
theorem find_mem (k : ByteArray) : ∀ (M : List (ByteArray × Bool × ByteArray)) (x : ByteArray × Bool × ByteArray), findM k M = some x → x ∈ M
  | [], x, h => by cases h
  | y :: r, x, h => by
    unfold findM at h
    split at h
    · injection h with h; subst h; exact List.mem_cons_self ..
    · exact List.mem_cons_of_mem _ (find_mem k r x h)
def GoodL (n : Nat) (L : List (VT (n + 1))) : Prop := ∀ T ∈ L, deepT (n + 1) T 64 = false ∧ partsT (n + 1) T ≤ 1000
def finC (t : ByteArray) (n : Nat) (L : List (VT (n + 1))) : Int := if chkL n L = 0 then (if hldL t n 0 L = true then 0 else 31) else chkL n L
set_option maxRecDepth 100000 in
set_option maxHeartbeats 16000000 in
theorem check_yes (c m : ByteArray) (n : Nat) (p : Option Addr) (l k : Nat) (L : List (VT (n + 1))) (w : World) (x : ByteArray × Bool × ByteArray) (hr : RepL w (Rep w (n + 1)) p l k L) (hg : GoodL n L) (hx : findM m (metas c) = some x) (hn : (decide (x.2.2.size ≤ l) && decide ((l : Int) ≤ x.2.2.size + moreOf x.2.2)) = true) :
    Calls Try.prog 15 #[.string c, .string m, .slice p l k] w fun e w' => e = .returned (.int .i64 (finC x.2.2 n L)) ∧ Below w.heap.size w w' := by
  have hs3 := letters_good c x (find_mem m _ _ hx)
  obtain ⟨hl, hlc, hcm, hel⟩ := hr
  unfold maxLen at hcm
  have HE := Lib.hid hel
  have HG := Lib.hid hg
  have HX := Lib.hid hx
  have HLEN := Lib.hid hl
  clear hl
  obtain ⟨fin, hfin⟩ : ∃ f, finC x.2.2 n L = f := ⟨_, rfl⟩
  have HFIN := Lib.hid hfin
  rw [hfin]
  clear hel hg hx hfin
  go_enter Try.func15, Try.ntmps15
  go_wp2_with fail
  go_at_call 26; refine (mof_any c w).mono ?_; rintro e w1 ⟨mm, rfl, hm, hb1⟩
  have HB1 := Lib.hid hb1
  clear hb1
  have hm2 : ∃ b, mm = .map (some b) := by
    rcases hm with ⟨h, rfl⟩ | ⟨b, L, rfl, _⟩
    · have h1 := HX.out; rw [h] at h1; cases h1
    · exact ⟨b, rfl⟩
  obtain ⟨b, rfl⟩ := hm2
  have hlk : ∃ v, SigAt w1 v x ∧ ∀ c : Bool, (Instr.lookup 58 (.map (some b)) (.string m) c).run Try.prog w1 = .ok (if c then .tuple #[v, .bool true] else v) w1 := by
    rcases look_find hm m with ⟨h1, h2⟩ | ⟨x', v, h1, h3, h2⟩
    · rw [HX.out] at h1; cases h1
    · rw [HX.out] at h1; injection h1 with h1; subst h1; exact ⟨v, h3, h2⟩
  obtain ⟨v, ⟨p2, rfl, htk⟩, h2⟩ := hlk
  have h4 := h2 true
  simp only [sigV, if_true] at h4
  obtain ⟨z, hz3⟩ : ∃ z, x.2.2.size = z := ⟨_, rfl⟩
  obtain ⟨mo, hmo⟩ : ∃ mo, moreOf x.2.2 = mo := ⟨_, rfl⟩
  obtain ⟨wx, hwx⟩ : ∃ wx, x.2.1 = wx := ⟨_, rfl⟩
  have hmo2 : 0 ≤ mo ∧ mo ≤ 100 := by rw [← hmo]; unfold moreOf; split <;> decide
  rw [hz3, hmo, hwx] at h4
  rw [hz3, hmo] at hn
  rw [hz3] at hs3
  have hzl : z ≤ l := by rw [Bool.and_eq_true] at hn; exact of_decide_eq_true hn.1
  have HT := Lib.hid (fun W => takes_many p2 z mo wx l W (by omega) hmo2 (by omega))
  rw [hn] at HT
  have HTK := Lib.hid htk
  have HZ3 := Lib.hid hz3
  have HLM := Lib.hid (show 0 < l → 0 < z from fun h => by
    rw [Bool.and_eq_true] at hn
    have h5 := of_decide_eq_true hn.2
    rcases Nat.eq_zero_or_pos z with h0 | h0
    · exfalso
      have hmz : mo = 0 := by
        rw [← hmo]
        unfold moreOf
        rw [if_neg]
        intro e
        rw [e] at hz3
        have : (1 : Nat) = z := hz3
        omega
      omega
    · exact h0)
  clear hm h2 hn hmo hz3 hwx hmo2 htk
  have HA := Lib.hid (row_alloc w1 #[.slice p2 z z, .int .i64 mo, .bool wx] 56)
  go_wp2_with fail
  go_at_call 27; refine (HT.out _).mono ?_; rintro e w2 ⟨rfl, hb2⟩
  have HB2 := Lib.hid (bel_step (bel_alloc HB1.out _) hb2)
  have HA2 := Lib.hid (row_step HA.out hb2)
  have HT2 := Lib.hid (show 0 < z → ∃ b, p2 = some ⟨b, 0, none⟩ ∧ ∀ j (h : j < x.2.2.data.toList.length), w2.cell? ⟨b, j, none⟩ = some (.int .i64 (kindC (x.2.2.data.toList[j]))) from fun h => by
    obtain ⟨b, hp, hj⟩ := HTK.out (by rw [HZ3.out]; exact h)
    exact ⟨b, hp, fun j h => ck hb2 (ck (bel_alloc br _) (hj j h))⟩)
  clear hb2 HA HTK h4 HT
  go_wp2
  go_loopw [32] (fun iv wr => ∃ i : Nat, i ≤ l ∧ iv = .int .i64 i ∧ Below w2.heap.size w2 wr ∧ Hid (chkL n (L.drop i) = chkL n L)) (fun iv _ => l - (intOf iv).toNat)
  case atStart => exact ⟨0, by omega, rfl, Below.refl _ _, Lib.hid rfl⟩
  case round =>
    obtain ⟨i, hi0, rfl, hB, HK⟩ := hrel
    have HB := Lib.hid hB
    by_cases hlt : i < l
    · obtain ⟨b, off, hpb, hi⟩ := HE.out (by omega)
      subst hpb
      have hkl : i < L.length := by have := HLEN.out; omega
      obtain ⟨v0, v1, v2, v3, v4, c0, c1, c2, c3, c4, hr⟩ := hi i hkl
      have hBw := bel_step HB2.out hB
      have HR := Lib.hid (rep_keep hBw _ _ _ hr)
      obtain ⟨hg1, hg2⟩ := HG.out _ (List.getElem_mem hkl)
      have HD := Lib.hid (chk_drop (n := n) hkl)
      obtain ⟨T, hT⟩ : ∃ T, L[i] = T := ⟨_, rfl⟩
      rw [hT] at HR HD hg1 hg2
      obtain ⟨K, I, F, S, q, m2, d, rfl, rfl, rfl, rfl, rfl, _, _⟩ := rep_name HR.out
      have e0 := ck hBw c0
      have e1 := ck hBw c1
      have e2 := ck hBw c2
      have e3 := ck hBw c3
      have e4 := ck hBw c4
      have elt := cell_lt e0
      have hk0 : (0 : Int) ≤ (i : Int) := by omega
      have hkl2 : (i : Int) < (l : Int) := by omega
      have HCK := Lib.hid (fun W (hb : Below wr.heap.size wr W) => check_any (n + 1) K I F S q m2 d T W (rep_keep hb _ _ _ HR.out) hg1 hg2)
      clear c0 c1 c2 c3 c4 hr hi hB hBw hT hkl hg1 hg2
      have HBA := Lib.hid (bel_alloc (Below.refl wr.heap.size wr) (.cells #[.int .i64 K, .int .i64 I, .float .f64 F, .string S, .slice q m2 d] 27))
      rcases checkM_vals (measT (n + 1) T) with hc | hc | hc
      · rw [hc] at HCK
        have HN := Lib.hid (show chkL n (L.drop (i + 1)) = chkL n L by rw [← HK.out, HD.out, hc]; rfl)
        clear hc HD HK
        go_wp2_with fail
        go_at_call 28; refine (HCK.out _ HBA.out).mono ?_; rintro e w3 ⟨rfl, hb3⟩
        have HB3 := Lib.hid (bel_step HB.out (bel_step HBA.out hb3))
        clear hb3 e0 e1 e2 e3 e4 elt
        go_wp2
        go_roundw
        case rel => exact ⟨i + 1, by omega, by go_num, HB3.out, HN⟩
        case measure => simp [intOf]; omega
      · rw [hc] at HCK
        have HN := Lib.hid (show fin = 22 by rw [← HFIN.out]; unfold finC; rw [← HK.out, HD.out, hc]; rfl)
        clear hc HD HK
        go_wp2_with fail
        go_at_call 28; refine (HCK.out _ HBA.out).mono ?_; rintro e w3 ⟨rfl, hb3⟩
        have HB3 := Lib.hid (bel_step HB.out (bel_step HBA.out hb3))
        clear hb3 e0 e1 e2 e3 e4 elt
        go_wp2
        go_ret
        exact ⟨by rw [HN.out]; rfl, bel_step HB2.out HB3.out⟩
      · rw [hc] at HCK
        have HN := Lib.hid (show fin = 31 by rw [← HFIN.out]; unfold finC; rw [← HK.out, HD.out, hc]; rfl)
        clear hc HD HK
        go_wp2_with fail
        go_at_call 28; refine (HCK.out _ HBA.out).mono ?_; rintro e w3 ⟨rfl, hb3⟩
        have HB3 := Lib.hid (bel_step HB.out (bel_step HBA.out hb3))
        clear hb3 e0 e1 e2 e3 e4 elt
        go_wp2
        go_ret
        exact ⟨by rw [HN.out]; rfl, bel_step HB2.out HB3.out⟩
    · have HC0 := Lib.hid (show chkL n L = 0 by rw [← HK.out, List.drop_of_length_le (by have := HLEN.out; omega)]; rfl)
      have HF2 := Lib.hid (show fin = if hldL x.2.2 n 0 L = true then 0 else 31 by rw [← HFIN.out]; unfold finC; rw [HC0.out]; rfl)
      clear hB HK
      obtain ⟨wa, rfl⟩ : ∃ wa, wa = wr := ⟨_, rfl⟩
      have HA3 := Lib.hid (row_step HA2.out HB.out)
      have HB3 := Lib.hid (bel_step HB2.out HB.out)
      have HT3 := Lib.hid (show 0 < z → ∃ b, p2 = some ⟨b, 0, none⟩ ∧ ∀ j (h : j < x.2.2.data.toList.length), wa.cell? ⟨b, j, none⟩ = some (.int .i64 (kindC (x.2.2.data.toList[j]))) from fun h => by
        obtain ⟨b, hp, hj⟩ := HT2.out h
        exact ⟨b, hp, fun j h => ck HB.out (hj j h)⟩)
      obtain ⟨hres, hhres⟩ : ∃ r, hldL x.2.2 n 0 L = r := ⟨_, rfl⟩
      have HHR := Lib.hid hhres
      rw [hhres] at HF2
      clear hhres HA2 HB2 HT2 HB HC0 HFIN
      go_wp2
      go_loopw [44] (fun iv wb => ∃ i : Nat, i ≤ l ∧ iv = .int .i64 i ∧ Below wa.heap.size wa wb ∧ Hid (hldL x.2.2 n i (L.drop i) = hres)) (fun iv _ => l - (intOf iv).toNat)
      case atStart => exact ⟨0, by omega, rfl, Below.refl _ _, HHR⟩
      case round =>
        obtain ⟨i, hi0, rfl, hB, HK⟩ := hrel
        rename World => wb
        have HB := Lib.hid hB
        by_cases hlt : i < l
        · obtain ⟨b, off, hpb, hi⟩ := HE.out (by omega)
          obtain ⟨b2, hpb2, hj2⟩ := HT3.out (HLM.out (by omega))
          subst hpb
          subst hpb2
          have hkl : i < L.length := by have := HLEN.out; omega
          obtain ⟨v0, v1, v2, v3, v4, c0, c1, c2, c3, c4, hr⟩ := hi i hkl
          have hBw := bel_step HB3.out hB
          have HR := Lib.hid (rep_keep hBw _ _ _ hr)
          have HD := Lib.hid (hld_drop (t := x.2.2) (n := n) hkl)
          obtain ⟨T, hT⟩ : ∃ T, L[i] = T := ⟨_, rfl⟩
          rw [hT] at HR HD
          obtain ⟨K, I, F, S, q, m2, d, rfl, rfl, rfl, rfl, rfl, _, _⟩ := rep_name HR.out
          have e0 := ck hBw c0
          have e1 := ck hBw c1
          have e2 := ck hBw c2
          have e3 := ck hBw c3
          have e4 := ck hBw c4
          have elt := cell_lt e0
          have hk0 : (0 : Int) ≤ (i : Int) := by omega
          have hkl2 : (i : Int) < (l : Int) := by omega
          obtain ⟨kz, hkz⟩ : ∃ kz, kAt x.2.2 i = kz := ⟨_, rfl⟩
          have hkv := kind_vals (x.2.2.data.toList.getD (min i (x.2.2.size - 1)) 0)
          rw [show kindC (x.2.2.data.toList.getD (min i (x.2.2.size - 1)) 0) = kz from hkz] at hkv
          rw [hkz] at HD
          have hzp : 0 < z := HLM.out (by omega)
          have hzl2 : x.2.2.data.toList.length = z := by rw [Array.length_toList]; exact HZ3.out
          have hcz : wa.cell? ⟨b2, min i (z - 1), none⟩ = some (.int .i64 kz) := by
            have hlt2 : min i (z - 1) < x.2.2.data.toList.length := by rw [hzl2]; omega
            rw [hj2 _ hlt2, ← hkz]
            unfold kAt
            rw [show x.2.2.size = z from HZ3.out, List.getD_eq_getElem?_getD, List.getElem?_eq_getElem hlt2]
            rfl
          obtain ⟨W0, hW0⟩ : ∃ W0, wb.alloc (.cells #[.int .i64 K, .int .i64 I, .float .f64 F, .string S, .slice q m2 d] 27) = W0 := ⟨_, rfl⟩
          have hB0 : Below wb.heap.size wb W0 := hW0 ▸ bel_alloc br _
          have HAT := Lib.hid (fun W (hb : Below W0.heap.size W0 W) => sig_at b2 z mo wx i kz W (by omega) hzp (by omega) (ck hb (ck hB0 (ck HB.out hcz))))
          have HHD := Lib.hid (fun W (hb : Below W0.heap.size W0 W) => holds_all kz n (.agg #[.int .i64 K, .int .i64 I, .float .f64 F, .string S, .slice q m2 d]) T W hkv (rep_keep hb _ _ _ (rep_keep hB0 _ _ _ HR.out)))
          obtain ⟨y, hy⟩ : ∃ y, holdsT kz n T = y := ⟨_, rfl⟩
          rw [hy] at HHD HD
          have HRA := row_keep (B := wb.heap.size) hB0 (row_step HA3.out HB.out) (row_lt (row_step HA3.out HB.out))
          have HRB : W0.heap[wb.heap.size]? = some (.cells #[.int .i64 K, .int .i64 I, .float .f64 F, .string S, .slice q m2 d] 27 (0, 0)) := hW0 ▸ row_alloc wb _ _
          have H8 : C8 W0 w1.heap.size wb.heap.size (.slice (some ⟨b2, 0, none⟩) z z) (.int .i64 mo) (.bool wx) (.int .i64 K) (.int .i64 I) (.float .f64 F) (.string S) (.slice q m2 d) W0 :=
            ⟨rc HRA 0, rc HRA 1, rc HRA 2, rc HRB 0, rc HRB 1, rc HRB 2, rc HRB 3, rc HRB 4, Below.refl _ _⟩
          have HH8 := Lib.hid H8
          have HW0 := Lib.hid hW0
          have HB4 := Lib.hid (bel_step HB.out hB0)
          clear c0 c1 c2 c3 c4 hr hi hB hBw hT hkl hj2 hkz hkv hzp hzl2 hcz hB0 HRA HRB hy H8 hW0
          go_wp2_with fail
          rw [HW0.out]
          have H8 := HH8.out
          clear HH8 HW0 e0 e1 e2 e3 e4 elt
          go_region_held3 (fun w' => w'.cell? ⟨w1.heap.size, 0, none⟩ = some (.slice (some ⟨b2, 0, none⟩) z z) ∧ w'.cell? ⟨w1.heap.size, 1, none⟩ = some (.int .i64 mo) ∧ w'.cell? ⟨w1.heap.size, 2, none⟩ = some (.bool wx) ∧ w'.cell? ⟨wb.heap.size, 0, none⟩ = some (.int .i64 K) ∧ w'.cell? ⟨wb.heap.size, 1, none⟩ = some (.int .i64 I) ∧ w'.cell? ⟨wb.heap.size, 2, none⟩ = some (.float .f64 F) ∧ w'.cell? ⟨wb.heap.size, 3, none⟩ = some (.string S) ∧ w'.cell? ⟨wb.heap.size, 4, none⟩ = some (.slice q m2 d) ∧ Below W0.heap.size W0 w') (first | exact (by assumption : C8 _ _ _ _ _ _ _ _ _ _ _ _) | exact c8_drew (by assumption)) (first
            | (go_at_call 29; refine (HAT.out _ ?hs).mono ?_; (case hs => exact (by assumption : C8 _ _ _ _ _ _ _ _ _ _ _ _).2.2.2.2.2.2.2.2); rintro e w' ⟨rfl, hb⟩; have hk := c8_step (by assumption) hb; clear hb)
            | (go_at_call 30; refine (HHD.out _ ?hs).mono ?_; (case hs => exact (by assumption : C8 _ _ _ _ _ _ _ _ _ _ _ _).2.2.2.2.2.2.2.2); rintro e w' ⟨rfl, hb⟩; have hk := c8_step (by assumption) hb; clear hb))
          all_goals
            have H9 := Lib.hid (bel_step HB4.out (by assumption : C8 W0 w1.heap.size wb.heap.size (.slice (some ⟨b2, 0, none⟩) z z) (.int .i64 mo) (.bool wx) (.int .i64 K) (.int .i64 I) (.float .f64 F) (.string S) (.slice q m2 d) _).2.2.2.2.2.2.2.2)
            cases y
            · have HN := Lib.hid (show fin = 31 by rw [HF2.out, ← HK.out, HD.out]; rfl)
              clear HD HK HF2
              go_wp2
              go_ret
              exact ⟨by rw [HN.out]; rfl, bel_step HB3.out H9.out⟩
            · have HN := Lib.hid (show hldL x.2.2 n (i + 1) (L.drop (i + 1)) = hres by rw [← HK.out, HD.out]; rfl)
              clear HD HK
              go_wp2
              go_roundw
              case rel => exact ⟨i + 1, by omega, by go_num, H9.out, HN⟩
              case measure => simp [intOf]; omega
        · have HR0 := Lib.hid (show hres = true by rw [← HK.out, List.drop_of_length_le (by have := HLEN.out; omega)]; rfl)
          clear hB HK
          go_wp2
          go_ret
          exact ⟨by rw [HF2.out, HR0.out]; rfl, bel_step HB3.out HB.out⟩
theorem check_args (c m : ByteArray) (n : Nat) (p : Option Addr) (l k : Nat) (L : List (VT (n + 1))) (w : World) (hr : RepL w (Rep w (n + 1)) p l k L) (hg : GoodL n L) :
    Calls Try.prog 15 #[.string c, .string m, .slice p l k] w fun e w' => e = .returned (.int .i64 (chkA c m n L)) ∧ Below w.heap.size w w' := by
  have hl : L.length = l := hr.1
  have hm : l ≤ 9223372036854775807 := by have h2 := hr.2.1; have h3 := hr.2.2.1; unfold maxLen at h3; omega
  unfold chkA
  cases hx : findM m (metas c) with
  | none => exact check_no c m p l k w hm (Or.inl hx)
  | some x =>
    show Calls _ _ _ _ fun e w' => e = .returned (.int .i64 (if (decide (x.2.2.size ≤ L.length) && decide ((L.length : Int) ≤ x.2.2.size + moreOf x.2.2)) = true then finC x.2.2 n L else 31)) ∧ _
    rw [hl]
    cases hn : (decide (x.2.2.size ≤ l) && decide ((l : Int) ≤ x.2.2.size + moreOf x.2.2))
    · exact check_no c m p l k w hm (Or.inr ⟨x, hx, hn, letters_good c x (find_mem m _ _ hx)⟩)
    · exact check_yes c m n p l k L w x hr hg hx hn
end Num
end Go.Proofs.Yteodljkcbddehaa
