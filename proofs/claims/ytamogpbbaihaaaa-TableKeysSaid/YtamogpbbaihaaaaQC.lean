/-
  slices.BinarySearchFunc over entries by their names; package table's find.
-/
import Derived.Test.YtamogpbbaihaaaaQB
import Derived.Deep.LoopGhost
namespace Go.Proofs.Ytamogpbbaihaaaa
open Go.RowKit
namespace Num
open Ints
set_option linter.unusedSimpArgs false
set_option linter.unusedVariables false
/-- Entries in memory, of these names. -/
def EntsAt (w : World) (b off : Nat) (NS : List ByteArray) : Prop := ∀ i (h : i < NS.length), ∃ (K I : Int) (F : Nat) (S : ByteArray) (q : Option Addr) (m d : Nat),
    w.cell? ⟨b, off + i * 5, none⟩ = some (.int .i64 K) ∧ w.cell? ⟨b, off + i * 5 + 1, none⟩ = some (.int .i64 I) ∧ w.cell? ⟨b, off + i * 5 + 2, none⟩ = some (.float .f64 F) ∧ w.cell? ⟨b, off + i * 5 + 3, none⟩ = some (.string S) ∧ w.cell? ⟨b, off + i * 5 + 4, none⟩ = some (.slice q m d) ∧ 0 < m ∧ NameAt w q NS[i]
theorem ents_step {w w' : World} {b off : Nat} {NS : List ByteArray} (h : EntsAt w b off NS) (hb : Below w.heap.size w w') : EntsAt w' b off NS := by
  intro i hi
  obtain ⟨K, I, F, S, q, m, d, c0, c1, c2, c3, c4, hm, hn⟩ := h i hi
  exact ⟨K, I, F, S, q, m, d, cell_keep hb c0, cell_keep hb c1, cell_keep hb c2, cell_keep hb c3, cell_keep hb c4, hm, name_step hn hb⟩
set_option maxRecDepth 100000 in
set_option maxHeartbeats 4000000 in
theorem bs_none (p : Option Addr) (c : Nat) (k : ByteArray) (w : World) :
    Calls Try.prog 85 #[.slice p 0 c, .string k, .func (.func 86) #[] #[]] w fun e w' => e = .returned (.tuple #[.int .i64 0, .bool false]) ∧ Below w.heap.size w w' := by
  go_enter Try.func85, Try.ntmps85
  go_wp2
  refine wp_loop_rounds 1 ?_; rw [rounds_succ]; go_wp2
  go_ret2
  exact ⟨rfl, Below.refl _ _⟩
set_option maxRecDepth 100000 in
set_option maxHeartbeats 4000000 in
theorem bs_any (b off c a : Nat) (NS : List ByteArray) (k : ByteArray) (fnd : Bool) (w : World) (hE : EntsAt w b off NS) (hl : NS.length ≤ 1000000) (ha : a ≤ NS.length) (h1 : ∀ t (h : t < NS.length), ltB NS[t] k = decide (t < a))
    (hf : ∀ h : a < NS.length, (NS[a].toList == k.toList) = fnd) (hg : ¬ a < NS.length → fnd = false) :
    Calls Try.prog 85 #[.slice (some ⟨b, off, none⟩) NS.length c, .string k, .func (.func 86) #[] #[]] w fun e w' => e = .returned (.tuple #[.int .i64 a, .bool fnd]) ∧ Below w.heap.size w w' := by
  have HE := Lib.hid hE
  have H1 := Lib.hid h1
  have HF := Lib.hid hf
  have HG := Lib.hid hg
  obtain ⟨n, hn⟩ : ∃ n, n = NS.length := ⟨_, rfl⟩
  have HN := Lib.hid hn
  rw [← hn] at hl ha
  rw [← hn]
  clear hE h1 hf hg hn
  go_enter Try.func85, Try.ntmps85
  go_wp2
  go_loopg [9, 10] n (fun kx s9 s10 wr => ∃ lo hi : Nat, s9 = .int .i64 lo ∧ s10 = .int .i64 hi ∧ lo ≤ a ∧ a ≤ hi ∧ hi ≤ n ∧ hi - lo ≤ kx ∧ Below w.heap.size w wr)
  case atStart => exact ⟨0, n, rfl, rfl, by omega, by omega, by omega, by omega, Below.refl _ _⟩
  case round =>
    obtain ⟨lo, hi, rfl, rfl, hla, hah, hin, hkx, hB⟩ := hrel
    by_cases hlt : lo < hi
    · have hm := HN.out
      have hmid : (lo + hi) / 2 < NS.length := by omega
      obtain ⟨K, I, F, S, q, m, d, c0, c1, c2, c3, c4, hm0, hnm⟩ := HE.out ((lo + hi) / 2) hmid
      have e0 := cell_keep hB c0; have e1 := cell_keep hB c1; have e2 := cell_keep hB c2; have e3 := cell_keep hB c3; have e4 := cell_keep hB c4
      have HNM := Lib.hid (name_step hnm hB)
      have hc := H1.out _ hmid
      have HB := Lib.hid hB
      clear c0 c1 c2 c3 c4 hnm hB hm
      by_cases hx : (lo + hi) / 2 < a
      · have hcm : cmpB NS[(lo + hi) / 2] k = -1 := by unfold cmpB; rw [hc, decide_eq_true hx]; rfl
        have HC := Lib.hid hcm
        clear hcm hc
        go_wp2_with (go_at_call 86; refine (find_cmp _ _ _ _ _ _ _ _ k _ hm0 HNM.out).mono ?_; rintro e w2 ⟨rfl, hb2⟩; rw [HC.out])
        go_roundg (hi - ((lo + hi) / 2 + 1))
        case measure => omega
        case rel => exact ⟨(lo + hi) / 2 + 1, hi, by rw [show ((lo : Int) + (hi : Int)) / 2 + 1 = (((lo + hi) / 2 + 1 : Nat) : Int) by omega], rfl, by omega, hah, hin, Nat.le_refl _, bel_step HB.out hb2⟩
      · have hcm : ¬ cmpB NS[(lo + hi) / 2] k < 0 := by unfold cmpB; rw [hc, decide_eq_false hx]; split <;> (try split) <;> simp_all
        have HC := Lib.hid hcm
        clear hcm hc
        obtain ⟨z, hz⟩ : ∃ z, cmpB NS[(lo + hi) / 2] k = z := ⟨_, rfl⟩
        have hz0 : ¬ z < 0 := by rw [← hz]; exact HC.out
        have HZ := Lib.hid hz
        clear hz
        go_wp2_with (go_at_call 86; refine (find_cmp _ _ _ _ _ _ _ _ k _ hm0 HNM.out).mono ?_; rintro e w2 ⟨rfl, hb2⟩; rw [HZ.out])
        go_roundg ((lo + hi) / 2 - lo)
        case measure => omega
        case rel => exact ⟨lo, (lo + hi) / 2, rfl, by rw [show ((lo : Int) + (hi : Int)) / 2 = (((lo + hi) / 2 : Nat) : Int) by omega], hla, by omega, by omega, Nat.le_refl _, bel_step HB.out hb2⟩
    · obtain rfl : hi = lo := by omega
      obtain rfl : a = hi := by omega
      by_cases hlt' : a < n
      · have hm := HN.out
        have hmid : a < NS.length := by omega
        obtain ⟨K, I, F, S, q, m, d, c0, c1, c2, c3, c4, hm0, hnm⟩ := HE.out a hmid
        have e0 := cell_keep hB c0; have e1 := cell_keep hB c1; have e2 := cell_keep hB c2; have e3 := cell_keep hB c3; have e4 := cell_keep hB c4
        have HNM := Lib.hid (name_step hnm hB)
        have HB := Lib.hid hB
        have hc := H1.out _ hmid
        have hff := HF.out hmid
        have HC := Lib.hid (show cmpB NS[a] k = if fnd = true then 0 else 1 by unfold cmpB; rw [hc, hff, decide_eq_false (Nat.lt_irrefl _)]; rfl)
        clear c0 c1 c2 c3 c4 hnm hB hm hc hff
        cases fnd
        · go_wp2_with (go_at_call 86; refine (find_cmp _ _ _ _ _ _ _ _ k _ hm0 HNM.out).mono ?_; rintro e w2 ⟨rfl, hb2⟩; rw [HC.out])
          go_ret2
          exact ⟨rfl, bel_step HB.out hb2⟩
        · go_wp2_with (go_at_call 86; refine (find_cmp _ _ _ _ _ _ _ _ k _ hm0 HNM.out).mono ?_; rintro e w2 ⟨rfl, hb2⟩; rw [HC.out])
          go_ret2
          exact ⟨rfl, bel_step HB.out hb2⟩
      · have hff := HG.out (by rw [← HN.out]; exact hlt')
        subst hff
        go_wp2
        go_ret2
        exact ⟨rfl, hB⟩
end Num
end Go.Proofs.Ytamogpbbaihaaaa
