/-
  Calls by their Seqs: cmp.Compare, bySeq, slices.BinarySearchFunc.
-/
import Derived.Test.YtijfgmhdkflfmaaSb
import Derived.Deep.LoopGhost
namespace Go.Proofs.Ytijfgmhdkflfmaa
open Go.RowKit
namespace Num
open Ints
set_option linter.unusedSimpArgs false
set_option linter.unusedVariables false
theorem isnan_u32 (a : Int) (w : World) : Calls Try.prog 67 #[.int .u32 a] w fun e w' => e = .returned (.bool false) ∧ w' = w := by
  go_enter Try.func67, Try.ntmps67
  go_wp2
  go_ret
  exact ⟨rfl, rfl⟩
def cmpI (a b : Int) : Int := if a < b then -1 else if b < a then 1 else 0
theorem cmp_u32 (a b : Int) (w : World) : Calls Try.prog 48 #[.int .u32 a, .int .u32 b] w fun e w' => e = .returned (.int .i64 (cmpI a b)) ∧ w' = w := by
  unfold cmpI
  by_cases h1 : a < b
  · rw [if_pos h1]
    go_enter Try.func48, Try.ntmps48
    go_wp2_with (go_at_call 67; refine (isnan_u32 _ _).mono ?_; rintro e w2 ⟨rfl, rfl⟩)
    go_ret
    exact ⟨rfl, rfl⟩
  · rw [if_neg h1]
    by_cases h2 : b < a
    · rw [if_pos h2]
      go_enter Try.func48, Try.ntmps48
      go_wp2_with (go_at_call 67; refine (isnan_u32 _ _).mono ?_; rintro e w2 ⟨rfl, rfl⟩)
      go_ret
      exact ⟨rfl, rfl⟩
    · rw [if_neg h2]
      go_enter Try.func48, Try.ntmps48
      go_wp2_with (go_at_call 67; refine (isnan_u32 _ _).mono ?_; rintro e w2 ⟨rfl, rfl⟩)
      go_ret
      exact ⟨rfl, rfl⟩
set_option maxRecDepth 100000 in
theorem byseq_any (s k : Int) (v : Value) (hv : v.oneCell' = true) (p : Option Addr) (l c : Nat) (hvv : v = .slice p l c) (w : World) : Calls Try.prog 34 #[.agg #[.int .u32 s, v], .int .u32 k] w fun e w' => e = .returned (.int .i64 (cmpI s k)) ∧ Below w.heap.size w w' := by
  subst hvv
  have HB := Lib.hid ((Below.refl w.heap.size w).alloc (Nat.le_refl _) (.cells #[.int .u32 s, .slice p l c] 79))
  have hc := row_cell (row_alloc w #[.int .u32 s, .slice p l c] 79) 0
  simp only [List.getElem?_toArray, List.getElem?_cons_zero] at hc
  go_enter Try.func34, Try.ntmps34
  go_wp2_with (go_at_call 48; refine (cmp_u32 _ _ _).mono ?_; rintro e w2 ⟨rfl, rfl⟩)
  go_ret
  exact ⟨rfl, HB.out⟩
set_option maxRecDepth 100000 in
set_option maxHeartbeats 4000000 in
theorem bsc_none (p : Option Addr) (c : Nat) (k : Int) (w : World) :
    Calls Try.prog 33 #[.slice p 0 c, .int .u32 k, .func (.func 34) #[] #[]] w fun e w' => e = .returned (.tuple #[.int .i64 0, .bool false]) ∧ Below w.heap.size w w' := by
  go_enter Try.func33, Try.ntmps33
  go_wp2
  refine wp_loop_rounds 1 ?_; rw [rounds_succ]; go_wp2
  go_ret2
  exact ⟨rfl, Below.refl _ _⟩
set_option maxRecDepth 100000 in
set_option maxHeartbeats 4000000 in
theorem bsc_any (b c a : Nat) (L : List CE) (k : Int) (fnd : Bool) (w : World) (hE : ∀ i (h : i < L.length), w.cell? ⟨b, i * 2, none⟩ = some (.int .u32 L[i].s) ∧ w.cell? ⟨b, i * 2 + 1, none⟩ = some L[i].v) (hl : L.length ≤ 1000000) (ha : a ≤ L.length) (h1 : ∀ t (h : t < L.length), decide (L[t].s < k) = decide (t < a))
    (hf : ∀ h : a < L.length, decide (L[a].s = k) = fnd) (hg : ¬ a < L.length → fnd = false) :
    Calls Try.prog 33 #[.slice (some ⟨b, 0, none⟩) L.length c, .int .u32 k, .func (.func 34) #[] #[]] w fun e w' => e = .returned (.tuple #[.int .i64 a, .bool fnd]) ∧ Below w.heap.size w w' := by
  have HE := Lib.hid hE
  have H1 := Lib.hid h1
  have HF := Lib.hid hf
  have HG := Lib.hid hg
  obtain ⟨n, hn⟩ : ∃ n, n = L.length := ⟨_, rfl⟩
  have HN := Lib.hid hn
  rw [← hn] at hl ha
  rw [← hn]
  clear hE h1 hf hg hn
  go_enter Try.func33, Try.ntmps33
  go_wp2
  go_loopg [9, 10] n (fun kx s9 s10 wr => ∃ lo hi : Nat, s9 = .int .i64 lo ∧ s10 = .int .i64 hi ∧ lo ≤ a ∧ a ≤ hi ∧ hi ≤ n ∧ hi - lo ≤ kx ∧ Below w.heap.size w wr)
  case atStart => exact ⟨0, n, rfl, rfl, by omega, by omega, by omega, by omega, Below.refl _ _⟩
  case round =>
    obtain ⟨lo, hi, rfl, rfl, hla, hah, hin, hkx, hB⟩ := hrel
    by_cases hlt : lo < hi
    · have hm := HN.out
      have hmid : (lo + hi) / 2 < L.length := by omega
      obtain ⟨c0, c1⟩ := HE.out ((lo + hi) / 2) hmid
      have e0 := cell_keep hB c0; have e1 := cell_keep hB c1
      obtain ⟨y, hy⟩ : ∃ y, L[(lo + hi) / 2] = y := ⟨_, rfl⟩
      have hc := H1.out _ hmid
      rw [hy] at e0 e1 hc
      unfold CE.v at e1
      have HB := Lib.hid hB
      clear c0 c1 hB hm hy
      by_cases hx : (lo + hi) / 2 < a
      · have hcm : cmpI y.s k = -1 := by unfold cmpI; rw [if_pos (by simpa [hx] using hc)]
        have HC := Lib.hid hcm
        clear hcm hc
        go_wp2_with (go_at_call 34; refine (byseq_any _ k _ rfl _ _ _ rfl _).mono ?_; rintro e w2 ⟨rfl, hb2⟩; rw [HC.out])
        go_roundg (hi - ((lo + hi) / 2 + 1))
        case measure => omega
        case rel => exact ⟨(lo + hi) / 2 + 1, hi, by rw [show ((lo : Int) + (hi : Int)) / 2 + 1 = (((lo + hi) / 2 + 1 : Nat) : Int) by omega], rfl, by omega, hah, hin, Nat.le_refl _, bel_step HB.out hb2⟩
      · have hcm : ¬ cmpI y.s k < 0 := by unfold cmpI; rw [if_neg (by simpa [hx] using hc)]; split <;> decide
        have HC := Lib.hid hcm
        clear hcm hc
        obtain ⟨z, hz⟩ : ∃ z, cmpI y.s k = z := ⟨_, rfl⟩
        have hz0 : ¬ z < 0 := by rw [← hz]; exact HC.out
        have HZ := Lib.hid hz
        clear hz
        go_wp2_with (go_at_call 34; refine (byseq_any _ k _ rfl _ _ _ rfl _).mono ?_; rintro e w2 ⟨rfl, hb2⟩; rw [HZ.out])
        go_roundg ((lo + hi) / 2 - lo)
        case measure => omega
        case rel => exact ⟨lo, (lo + hi) / 2, rfl, by rw [show ((lo : Int) + (hi : Int)) / 2 = (((lo + hi) / 2 : Nat) : Int) by omega], hla, by omega, by omega, Nat.le_refl _, bel_step HB.out hb2⟩
    · obtain rfl : hi = lo := by omega
      obtain rfl : a = hi := by omega
      by_cases hlt' : a < n
      · have hm := HN.out
        have hmid : a < L.length := by omega
        obtain ⟨c0, c1⟩ := HE.out a hmid
        have e0 := cell_keep hB c0; have e1 := cell_keep hB c1
        have hc := H1.out _ hmid
        have hff := HF.out hmid
        obtain ⟨y, hy⟩ : ∃ y, L[a] = y := ⟨_, rfl⟩
        rw [hy] at e0 e1 hc hff
        unfold CE.v at e1
        have HB := Lib.hid hB
        have hnl : ¬ y.s < k := by simpa using hc
        have HC := Lib.hid (show cmpI y.s k = if fnd = true then 0 else 1 by
          unfold cmpI
          rw [if_neg hnl]
          cases fnd with
          | true => have : y.s = k := by simpa using hff
                    rw [if_neg (by omega)]; rfl
          | false => have : ¬ y.s = k := by simpa using hff
                     rw [if_pos (by omega)]; rfl)
        clear c0 c1 hB hm hc hff hy hnl
        cases fnd
        · go_wp2_with (go_at_call 34; refine (byseq_any _ k _ rfl _ _ _ rfl _).mono ?_; rintro e w2 ⟨rfl, hb2⟩; rw [HC.out])
          go_ret2
          exact ⟨rfl, bel_step HB.out hb2⟩
        · go_wp2_with (go_at_call 34; refine (byseq_any _ k _ rfl _ _ _ rfl _).mono ?_; rintro e w2 ⟨rfl, hb2⟩; rw [HC.out])
          go_ret2
          exact ⟨rfl, bel_step HB.out hb2⟩
      · have hff := HG.out (by rw [← HN.out]; exact hlt')
        subst hff
        go_wp2
        go_ret2
        exact ⟨rfl, hB⟩
end Num
end Go.Proofs.Ytijfgmhdkflfmaa
