/-
  slices.BinarySearchFunc over entries by their names; package table's find.
-/
import Derived.Test.YteodljkcbddehaaJMI
import Derived.Test.YteodljkcbddehaaJp13RDa
import Derived.Deep.LoopGhost
import Derived.Test.YteodljkcbddehaaJp6WLo
import Derived.Test.YteodljkcbddehaaJp9VSurv
namespace Go.Proofs.Yteodljkcbddehaa
open Go.RowKit
namespace Num
open Ints
set_option linter.unusedSimpArgs false
set_option linter.unusedVariables false
set_option maxRecDepth 100000 in
set_option maxHeartbeats 4000000 in
theorem bs_none (p : Option Addr) (c : Nat) (k : ByteArray) (w : World) :
    Calls Try.prog 68 #[.slice p 0 c, .string k, .func (.func 69) #[] #[]] w fun e w' => e = .returned (.tuple #[.int .i64 0, .bool false]) ∧ Below w.heap.size w w' := by
  go_enter Try.func68, Try.ntmps68
  go_wp2
  refine wp_loop_rounds 1 ?_; rw [rounds_succ]; go_wp2
  go_ret2
  exact ⟨rfl, Below.refl _ _⟩
set_option maxRecDepth 100000 in
set_option maxHeartbeats 4000000 in
theorem bs_any (b off c a : Nat) (NS : List ByteArray) (k : ByteArray) (fnd : Bool) (w : World) (hE : EntsAt w b off NS) (hl : NS.length ≤ 1000000) (ha : a ≤ NS.length) (h1 : ∀ t (h : t < NS.length), ltB NS[t] k = decide (t < a))
    (hf : ∀ h : a < NS.length, (NS[a].toList == k.toList) = fnd) (hg : ¬ a < NS.length → fnd = false) :
    Calls Try.prog 68 #[.slice (some ⟨b, off, none⟩) NS.length c, .string k, .func (.func 69) #[] #[]] w fun e w' => e = .returned (.tuple #[.int .i64 a, .bool fnd]) ∧ Below w.heap.size w w' := by
  have HE := Lib.hid hE
  have H1 := Lib.hid h1
  have HF := Lib.hid hf
  have HG := Lib.hid hg
  obtain ⟨n, hn⟩ : ∃ n, n = NS.length := ⟨_, rfl⟩
  have HN := Lib.hid hn
  rw [← hn] at hl ha
  rw [← hn]
  clear hE h1 hf hg hn
  go_enter Try.func68, Try.ntmps68
  go_wp2
  go_loopg [9, 10] n (fun kx s9 s10 wr => ∃ lo hi : Nat, s9 = .int .i64 lo ∧ s10 = .int .i64 hi ∧ lo ≤ a ∧ a ≤ hi ∧ hi ≤ n ∧ hi - lo ≤ kx ∧ Below w.heap.size w wr)
  case atStart => exact ⟨0, n, rfl, rfl, by omega, by omega, by omega, by omega, Below.refl _ _⟩
  case round =>
    obtain ⟨lo, hi, rfl, rfl, hla, hah, hin, hkx, hB⟩ := hrel
    by_cases hlt : lo < hi
    · have hm := HN.out
      have hmid : (lo + hi) / 2 < NS.length := by omega
      obtain ⟨K, I, F, S, q, m, d, c0, c1, c2, c3, c4, hm0, hnm⟩ := HE.out ((lo + hi) / 2) hmid
      have e0 := ck hB c0; have e1 := ck hB c1; have e2 := ck hB c2; have e3 := ck hB c3; have e4 := ck hB c4
      have HNM := Lib.hid (name_step hnm hB)
      have hc := H1.out _ hmid
      have HB := Lib.hid hB
      clear c0 c1 c2 c3 c4 hnm hB hm
      by_cases hx : (lo + hi) / 2 < a
      · have hcm : cmpB NS[(lo + hi) / 2] k = -1 := by unfold cmpB; rw [hc, decide_eq_true hx]; rfl
        have HC := Lib.hid hcm
        clear hcm hc
        go_wp2_with (go_at_call 69; refine (find_cmp _ _ _ _ _ _ _ _ k _ hm0 HNM.out).mono ?_; rintro e w2 ⟨rfl, hb2⟩; rw [HC.out])
        go_roundg (hi - ((lo + hi) / 2 + 1))
        case measure => omega
        case rel => exact ⟨(lo + hi) / 2 + 1, hi, by rw [show ((lo : Int) + (hi : Int)) / 2 + 1 = (((lo + hi) / 2 + 1 : Nat) : Int) by omega], rfl, by omega, hah, hin, Nat.le_refl _, bel_step HB.out hb2⟩
      · have hcm : ¬ cmpB NS[(lo + hi) / 2] k < 0 := by unfold cmpB; rw [hc, decide_eq_false hx]; split <;> (try split) <;> simp_all
        have HC := Lib.hid hcm
        clear hcm hc
        obtain ⟨z, hz⟩ : ∃ z, cmpB NS[(lo + hi) / 2] k = z := ⟨_, rfl⟩
        have hz0 : ¬ z < 0 := by rw [← hz]; exact HC.out
        have HZ := Lib.hid hz
        clear hz
        go_wp2_with (go_at_call 69; refine (find_cmp _ _ _ _ _ _ _ _ k _ hm0 HNM.out).mono ?_; rintro e w2 ⟨rfl, hb2⟩; rw [HZ.out])
        go_roundg ((lo + hi) / 2 - lo)
        case measure => omega
        case rel => exact ⟨lo, (lo + hi) / 2, rfl, by rw [show ((lo : Int) + (hi : Int)) / 2 = (((lo + hi) / 2 : Nat) : Int) by omega], hla, by omega, by omega, Nat.le_refl _, bel_step HB.out hb2⟩
    · obtain rfl : hi = lo := by omega
      obtain rfl : a = hi := by omega
      by_cases hlt' : a < n
      · have hm := HN.out
        have hmid : a < NS.length := by omega
        obtain ⟨K, I, F, S, q, m, d, c0, c1, c2, c3, c4, hm0, hnm⟩ := HE.out a hmid
        have e0 := ck hB c0; have e1 := ck hB c1; have e2 := ck hB c2; have e3 := ck hB c3; have e4 := ck hB c4
        have HNM := Lib.hid (name_step hnm hB)
        have HB := Lib.hid hB
        have hc := H1.out _ hmid
        have hff := HF.out hmid
        have HC := Lib.hid (show cmpB NS[a] k = if fnd = true then 0 else 1 by unfold cmpB; rw [hc, hff, decide_eq_false (Nat.lt_irrefl _)]; rfl)
        clear c0 c1 c2 c3 c4 hnm hB hm hc hff
        cases fnd
        · go_wp2_with (go_at_call 69; refine (find_cmp _ _ _ _ _ _ _ _ k _ hm0 HNM.out).mono ?_; rintro e w2 ⟨rfl, hb2⟩; rw [HC.out])
          go_ret2
          exact ⟨rfl, bel_step HB.out hb2⟩
        · go_wp2_with (go_at_call 69; refine (find_cmp _ _ _ _ _ _ _ _ k _ hm0 HNM.out).mono ?_; rintro e w2 ⟨rfl, hb2⟩; rw [HC.out])
          go_ret2
          exact ⟨rfl, bel_step HB.out hb2⟩
      · have hff := HG.out (by rw [← HN.out]; exact hlt')
        subst hff
        go_wp2
        go_ret2
        exact ⟨rfl, hB⟩
end Num
end Go.Proofs.Yteodljkcbddehaa
/-
  Package ledger's leaves: find, spliced, nothing, hasOf, account.
-/
namespace Go.Proofs.Yteodljkcbddehaa
open Go.RowKit
namespace Num
open Ints
set_option linter.unusedSimpArgs false
set_option linter.unusedVariables false
theorem lbs_all (p : Option Addr) (l c a : Nat) (NS : List ByteArray) (k : ByteArray) (fnd : Bool) (w : World) (hE : EntsL w p l NS) (hs : Spot NS k a fnd) :
    Calls Try.prog 68 #[.slice p l c, .string k, .func (.func 69) #[] #[]] w fun e w' => e = .returned (.tuple #[.int .i64 a, .bool fnd]) ∧ Below w.heap.size w w' := by
  obtain ⟨hl, hm, he⟩ := hE
  obtain ⟨ha, h1, h2, h3⟩ := hs
  rcases Nat.eq_zero_or_pos l with h0 | h0
  · subst h0
    obtain rfl : a = 0 := by omega
    have hf := h3 (by omega)
    subst hf
    exact bs_none p c k w
  · obtain ⟨b, off, rfl, hx⟩ := he h0
    subst hl
    exact bs_any b off c a NS k fnd w hx hm ha h1 h2 h3
set_option maxRecDepth 100000 in
set_option maxHeartbeats 4000000 in
theorem lfind_any (p : Option Addr) (l c a : Nat) (NS : List ByteArray) (k : ByteArray) (fnd : Bool) (w : World) (hE : EntsL w p l NS) (hs : Spot NS k a fnd) :
    Calls Try.prog 52 #[.slice p l c, .string k] w fun e w' => e = .returned (.tuple #[.int .i64 a, .bool fnd]) ∧ Below w.heap.size w w' := by
  have HE := Lib.hid hE
  have HS := Lib.hid hs
  clear hE hs
  go_enter Try.func52, Try.ntmps52
  go_wp2_with (go_at_call 68; refine (lbs_all _ _ _ a NS _ fnd _ HE.out HS.out).mono ?_; rintro e w2 ⟨rfl, hb2⟩)
  go_ret2
  exact ⟨rfl, hb2⟩
set_option maxRecDepth 100000 in
set_option maxHeartbeats 4000000 in
theorem lspliced_any {α : Type} {R : Value → α → Prop} (hR : One5 R) (p : Option Addr) (l c a z : Nat) (L : List α) (q : Option Addr) (m d : Nat) (M : List α) (w : World) (hL : RepL w R p l c L) (hM : RepL w R q m d M) (haz : a ≤ z) (hz : z ≤ l) (hl : l ≤ 100000) (hm : m ≤ 100000) :
    Calls Try.prog 53 #[.slice p l c, .int .i64 a, .int .i64 z, .slice q m d] w fun e w' => ∃ p' c', e = .returned (.slice p' (a + m + (l - z)) c') ∧ Below w.heap.size w w' ∧ ∀ y, Stay w.heap.size w' y → RepL y R p' (a + m + (l - z)) c' (L.take a ++ (M ++ L.drop z)) := by
  have HL := Lib.hid hL
  have HM := Lib.hid hM
  have hlc : l ≤ c := hL.2.1
  have hcc : c ≤ 9223372036854775807 := by have := hL.2.2.1; unfold maxLen at this; omega
  have HO := Lib.hid (ow_none w w R br (Nat.le_refl _))
  have HT := Lib.hid (repL_take hL a (by omega))
  have HD := Lib.hid (show RepL w R (if c = z then p else p.map (·.add (z * 5))) (l - z) (c - z) (L.drop z) by
    have h := repL_sub hL z l hz (Nat.le_refl _)
    rw [List.take_of_length_le (by rw [List.length_drop, hL.1]; exact Nat.le_refl _)] at h
    exact h)
  have ha0 : (0 : Int) ≤ (a : Int) := by omega
  have ha1 : (a : Int) ≤ (c : Int) := by omega
  have hz0 : (0 : Int) ≤ (z : Int) := by omega
  have hz1 : (z : Int) ≤ (l : Int) := by omega
  have hal : a ≤ l := by omega
  clear hL hM
  go_enter Try.func53, Try.ntmps53
  go_wp2_with (first
    | (at_builtin; refine wp_ovs rfl (.const (.slice none 0 0)) (.tmp 12) rfl hR w w none 0 0 [] p a c (L.take a) rfl rfl HO.out HT.out (by omega) ?_; intro p1 c1 w1 ho1; have HO1 := Lib.hid ho1; have HM1 := Lib.hid (repL_at (ow_rep ho1).2 HM.out); clear ho1; rw [Nat.zero_add, List.nil_append] at HO1)
    | (at_builtin; refine wp_ovs rfl (.tmp 14) (.tmp 15) rfl hR w w1 p1 a c1 (L.take a) q m d M rfl rfl HO1.out HM1.out (by omega) ?_; intro p2 c2 w2 ho2; have HO2 := Lib.hid ho2; have HD2 := Lib.hid (repL_at (ow_rep ho2).2 HD.out); clear ho2)
    | (at_builtin; refine wp_ovs rfl (.tmp 17) (.tmp 20) rfl hR w w2 p2 (a + m) c2 (L.take a ++ M) (if c = z then p else p.map (·.add (z * 5))) (l - z) (c - z) (L.drop z) rfl rfl HO2.out HD2.out (by omega) ?_; intro p3 c3 w3 ho3; have HO3 := Lib.hid ho3; clear ho3))
  all_goals go_ret
  all_goals exact ⟨p3, c3, rfl, (ow_rep HO3.out).2, fun y hy => by rw [← List.append_assoc]; exact (ow_rep HO3.out).1 y hy⟩
theorem nothing_any (w : World) : Calls Try.prog 55 #[] w fun e w' => e = .returned (.agg #[.int .i64 2, .int .i64 0, .float .f64 0, .string ⟨#[]⟩, .slice none 0 0]) ∧ Below w.heap.size w w' := by
  go_enter Try.func55, Try.ntmps55
  go_wp2
  exact bodyPost_ret (v := .agg #[.int .i64 2, .int .i64 0, .float .f64 0, .string ⟨#[]⟩, .slice none 0 0]) (by simp [results, Try.results55, go_sem]) rfl ⟨rfl, (br.alloc (Nat.le_refl _) _)⟩
set_option maxRecDepth 100000 in
set_option maxHeartbeats 4000000 in
theorem hasOf_any (n : Nat) (v : Value) (s : ByteArray) (V : VT (n + 1)) (w : World) (h : Rep w (n + 2) v (pairT n s V)) : Calls Try.prog 57 #[v] w fun e w' => ∃ (K I : Int) (F : Nat) (S : ByteArray) (q : Option Addr) (m d : Nat), e = .returned (.agg #[.int .i64 K, .int .i64 I, .float .f64 F, .string S, .slice q m d]) ∧ Below w.heap.size w w' ∧ Rep w (n + 1) (.agg #[.int .i64 K, .int .i64 I, .float .f64 F, .string S, .slice q m d]) V := by
  obtain ⟨g, o, c, rfl, _, _, K, I, F, Z, q, m, d, ⟨x0, x1, x2, x3, x4⟩, hr⟩ := pair_mem h
  have hlt : g < w.heap.size := cell_lt x0
  have hl1 : g < w.heap.size + 1 := by omega
  have hne : w.heap.size ≠ g := by omega
  have hne1 : w.heap.size + 1 ≠ g := by omega
  have HR := Lib.hid hr
  clear h hr
  go_enter Try.func57, Try.ntmps57
  go_wp2
  refine bodyPost_ret (v := .agg #[.int .i64 K, .int .i64 I, .float .f64 F, .string Z, .slice q m d]) (by simp [results, Try.results57, go_sem]) rfl ⟨K, I, F, Z, q, m, d, rfl, ?_, HR.out⟩
  exact bel_alloc (bel_alloc (Below.refl w.heap.size w) _) _
set_option maxRecDepth 100000 in
set_option maxHeartbeats 4000000 in
theorem account_any (k : ByteArray) (K3 I3 : Int) (F3 : Nat) (S3 : ByteArray) (q3 : Option Addr) (m3 d3 : Nat) (w : World) : Calls Try.prog 54 #[.string k, .agg #[.int .i64 K3, .int .i64 I3, .float .f64 F3, .string S3, .slice q3 m3 d3]] w fun e w' => ∃ ge, e = .returned (.agg #[.int .i64 4, .int .i64 0, .float .f64 0, .string ⟨#[]⟩, .slice (some ⟨ge, 0, none⟩) 2 2]) ∧ Below w.heap.size w w' ∧ w.heap.size ≤ ge ∧ w'.heap[ge]? = some (.cells #[.int .i64 3, .int .i64 0, .float .f64 0, .string k, .slice none 0 0, .int .i64 K3, .int .i64 I3, .float .f64 F3, .string S3, .slice q3 m3 d3] 27 (0, 0)) := by
  have TR1 := Lib.hid (show (fun z0 : World => Zw z0 w.heap.size (.int .i64 K3) (.int .i64 I3) (.float .f64 F3) (.string S3) (.slice q3 m3 d3) ∧ Zz z0 (w.heap.size + 1) ∧ Below w.heap.size w z0) ((w.alloc (.cells #[.int .i64 K3, .int .i64 I3, .float .f64 F3, .string S3, .slice q3 m3 d3] 27)).alloc (.cells #[.int .i64 0, .int .i64 0, .float .f64 0, .string ⟨#[]⟩, .slice none 0 0] 27)) from ⟨row_alloc_step (row_alloc w #[.int .i64 K3, .int .i64 I3, .float .f64 F3, .string S3, .slice q3 m3 d3] 27) _, (ra (by simp only [World.size_alloc, World.size_drew])), bel_alloc (bel_alloc (Below.refl w.heap.size w) _) _⟩)
  have hal := bel_alloc (Below.refl ((w.alloc (.cells #[.int .i64 K3, .int .i64 I3, .float .f64 F3, .string S3, .slice q3 m3 d3] 27)).alloc (.cells #[.int .i64 0, .int .i64 0, .float .f64 0, .string ⟨#[]⟩, .slice none 0 0] 27)).heap.size ((w.alloc (.cells #[.int .i64 K3, .int .i64 I3, .float .f64 F3, .string S3, .slice q3 m3 d3] 27)).alloc (.cells #[.int .i64 0, .int .i64 0, .float .f64 0, .string ⟨#[]⟩, .slice none 0 0] 27))) (.cells #[.int .i64 3, .int .i64 0, .float .f64 0, .string k, .slice none 0 0, .int .i64 K3, .int .i64 I3, .float .f64 F3, .string S3, .slice q3 m3 d3] 27)
  have hr2 := row_step TR1.out.2.1 hal
  have hrow := row_alloc ((w.alloc (.cells #[.int .i64 K3, .int .i64 I3, .float .f64 F3, .string S3, .slice q3 m3 d3] 27)).alloc (.cells #[.int .i64 0, .int .i64 0, .float .f64 0, .string ⟨#[]⟩, .slice none 0 0] 27)) #[.int .i64 3, .int .i64 0, .float .f64 0, .string k, .slice none 0 0, .int .i64 K3, .int .i64 I3, .float .f64 F3, .string S3, .slice q3 m3 d3] 27
  have HBL := Lib.hid (bel_step TR1.out.2.2 hal)
  simp only [World.size_alloc] at hrow
  have HR2 := Lib.hid hr2
  have HROW := Lib.hid hrow
  clear hal hr2 hrow TR1
  go_enter Try.func54, Try.ntmps54
  go_wp2_with (go_at_call 18; refine (llist_any _ _ _ _).mono ?_; rintro e w1 ⟨rfl, hb1⟩; have HR1 := Lib.hid (row_step HR2.out hb1); have HROW1 := Lib.hid (row_step HROW.out hb1); have HB1 := Lib.hid (bel_step HBL.out hb1); have hl1 := row_lt HR1.out; have x0 := rc HR1.out 0; have x1 := rc HR1.out 1; have x2 := rc HR1.out 2; have x3 := rc HR1.out 3; have x4 := rc HR1.out 4; have xf := row_frz HR1.out; clear hb1)
  refine bodyPost_ret (v := .agg #[.int .i64 4, .int .i64 0, .float .f64 0, .string ⟨#[]⟩, .slice (some ⟨w.heap.size + 1 + 1, 0, none⟩) 2 2]) (by simp [results, Try.results54, go_sem, World.cell?_setCell_same, World.cell?_setCell_other, x0, x1, x2, x3, x4]) rfl ⟨_, rfl, ?_, ?_, ?_⟩
  · exact set5_below (g := w.heap.size + 1) (o := 0) HB1.out (by omega) _ _ _ _ _
  · omega
  · exact (set5_other (g := w.heap.size + 1) (o := 0) (by omega)).trans HROW1.out
end Num
end Go.Proofs.Yteodljkcbddehaa
