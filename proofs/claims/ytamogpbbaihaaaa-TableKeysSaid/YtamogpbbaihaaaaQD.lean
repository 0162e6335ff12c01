/-
  Package table: find, held, spliced.
-/
import Derived.Test.YtamogpbbaihaaaaQA
import Derived.Test.YtamogpbbaihaaaaQC
import Derived.Test.YtamogpbbaihaaaaRDa
import Derived.Test.YtamogpbbaihaaaaCSj
namespace Go.Proofs.Ytamogpbbaihaaaa
open Go.RowKit
namespace Num
open Ints
set_option linter.unusedSimpArgs false
set_option linter.unusedVariables false
/-- Where a name stands among names, and whether it is there. -/
def Spot (NS : List ByteArray) (k : ByteArray) (a : Nat) (fnd : Bool) : Prop := a ≤ NS.length ∧ (∀ t (h : t < NS.length), ltB NS[t] k = decide (t < a)) ∧ (∀ h : a < NS.length, (NS[a].toList == k.toList) = fnd) ∧ (¬ a < NS.length → fnd = false)
def EntsL (w : World) (p : Option Addr) (l : Nat) (NS : List ByteArray) : Prop := NS.length = l ∧ l ≤ 1000000 ∧ (0 < l → ∃ b off, p = some ⟨b, off, none⟩ ∧ EntsAt w b off NS)
theorem entsL_step {w w' : World} {p : Option Addr} {l : Nat} {NS : List ByteArray} (h : EntsL w p l NS) (hb : Below w.heap.size w w') : EntsL w' p l NS :=
  ⟨h.1, h.2.1, fun hl => by obtain ⟨b, off, rfl, he⟩ := h.2.2 hl; exact ⟨b, off, rfl, ents_step he hb⟩⟩
theorem bs_all (p : Option Addr) (l c a : Nat) (NS : List ByteArray) (k : ByteArray) (fnd : Bool) (w : World) (hE : EntsL w p l NS) (hs : Spot NS k a fnd) :
    Calls Try.prog 85 #[.slice p l c, .string k, .func (.func 86) #[] #[]] w fun e w' => e = .returned (.tuple #[.int .i64 a, .bool fnd]) ∧ Below w.heap.size w w' := by
  obtain ⟨hl, hm, he⟩ := hE
  obtain ⟨ha, h1, h2, h3⟩ := hs
  rcases Nat.eq_zero_or_pos l with h0 | h0
  · subst h0
    obtain rfl : a = 0 := by omega
    have hf := h3 (by omega)
    subst hf
    exact bs_none p c k w
  · obtain ⟨b, off, rfl, hx⟩ := he h0
    subst hl
    exact bs_any b off c a NS k fnd w hx hm ha h1 h2 h3
theorem repL_take {α : Type} {w : World} {R : Value → α → Prop} {p : Option Addr} {l c : Nat} {L : List α} (h : RepL w R p l c L) (j : Nat) (hj : j ≤ l) : RepL w R p j c (L.take j) := by
  obtain ⟨h1, h2, h3, h4⟩ := h
  refine ⟨by rw [List.length_take]; omega, by omega, h3, fun hl => ?_⟩
  obtain ⟨b, off, rfl, hi⟩ := h4 (by omega)
  refine ⟨b, off, rfl, fun k hk => ?_⟩
  obtain ⟨v0, v1, v2, v3, v4, c0, c1, c2, c3, c4, hr⟩ := hi k (by rw [List.length_take] at hk; omega)
  exact ⟨v0, v1, v2, v3, v4, c0, c1, c2, c3, c4, by rw [List.getElem_take]; exact hr⟩
/-- The cells of a list, read later. -/
theorem repL_at {α : Type} {R : Value → α → Prop} {w w' : World} {p : Option Addr} {l c : Nat} {L : List α} (hb : Below w.heap.size w w') (h : RepL w R p l c L) : RepL w' R p l c L := repL_keep hb (fun _ _ h => h) h
def behindN (a : Nat) (fnd : Bool) : Nat := if fnd = true then a + 1 else a
set_option maxRecDepth 100000 in
set_option maxHeartbeats 4000000 in
theorem find_any (p : Option Addr) (l c a : Nat) (NS : List ByteArray) (k : ByteArray) (fnd : Bool) (w : World) (hE : EntsL w p l NS) (hs : Spot NS k a fnd) :
    Calls Try.prog 52 #[.slice p l c, .string k] w fun e w' => e = .returned (.tuple #[.int .i64 a, .int .i64 (behindN a fnd)]) ∧ Below w.heap.size w w' := by
  have HE := Lib.hid hE
  have HS := Lib.hid hs
  have ha : a ≤ 1000000 := by have h1 := hE.1; have h2 := hE.2.1; have h3 := hs.1; omega
  clear hE hs
  cases fnd
  · go_enter Try.func52, Try.ntmps52
    go_wp2_with (go_at_call 85; refine (bs_all _ _ _ a NS _ false _ HE.out HS.out).mono ?_; rintro e w2 ⟨rfl, hb2⟩)
    go_ret2
    exact ⟨rfl, hb2⟩
  · go_enter Try.func52, Try.ntmps52
    go_wp2_with (go_at_call 85; refine (bs_all _ _ _ a NS _ true _ HE.out HS.out).mono ?_; rintro e w2 ⟨rfl, hb2⟩)
    go_ret2
    exact ⟨rfl, hb2⟩
set_option maxRecDepth 100000 in
set_option maxHeartbeats 4000000 in
theorem spliced_any {α : Type} {R : Value → α → Prop} (hR : One5 R) (p : Option Addr) (l c a z : Nat) (L : List α) (q : Option Addr) (m d : Nat) (M : List α) (w : World) (hL : RepL w R p l c L) (hM : RepL w R q m d M) (haz : a ≤ z) (hz : z ≤ l) (hl : l ≤ 100000) (hm : m ≤ 100000) :
    Calls Try.prog 84 #[.slice p l c, .int .i64 a, .int .i64 z, .slice q m d] w fun e w' => ∃ p' c', e = .returned (.slice p' (a + m + (l - z)) c') ∧ Below w.heap.size w w' ∧ ∀ y, Stay w.heap.size w' y → RepL y R p' (a + m + (l - z)) c' (L.take a ++ (M ++ L.drop z)) := by
  have HL := Lib.hid hL
  have HM := Lib.hid hM
  have hlc : l ≤ c := hL.2.1
  have hcc : c ≤ 9223372036854775807 := by have := hL.2.2.1; unfold maxLen at this; omega
  have HO := Lib.hid (ow_none w w R (Below.refl _ _) (Nat.le_refl _))
  have HT := Lib.hid (repL_take hL a (by omega))
  have HD := Lib.hid (show RepL w R (if c = z then p else p.map (·.add (z * 5))) (l - z) (c - z) (L.drop z) by
    have h := repL_sub hL z l hz (Nat.le_refl _)
    rw [List.take_of_length_le (by rw [List.length_drop, hL.1]; exact Nat.le_refl _)] at h
    exact h)
  have ha0 : (0 : Int) ≤ (a : Int) := by omega
  have ha1 : (a : Int) ≤ (c : Int) := by omega
  have hz0 : (0 : Int) ≤ (z : Int) := by omega
  have hz1 : (z : Int) ≤ (l : Int) := by omega
  have hal : a ≤ l := by omega
  clear hL hM
  go_enter Try.func84, Try.ntmps84
  go_wp2_with (first
    | (at_builtin; refine wp_ovs rfl (.const (.slice none 0 0)) (.tmp 12) rfl hR w w none 0 0 [] p a c (L.take a) rfl rfl HO.out HT.out (by omega) ?_; intro p1 c1 w1 ho1; have HO1 := Lib.hid ho1; have HM1 := Lib.hid (repL_at (ow_rep ho1).2 HM.out); clear ho1; rw [Nat.zero_add, List.nil_append] at HO1)
    | (at_builtin; refine wp_ovs rfl (.tmp 14) (.tmp 15) rfl hR w w1 p1 a c1 (L.take a) q m d M rfl rfl HO1.out HM1.out (by omega) ?_; intro p2 c2 w2 ho2; have HO2 := Lib.hid ho2; have HD2 := Lib.hid (repL_at (ow_rep ho2).2 HD.out); clear ho2)
    | (at_builtin; refine wp_ovs rfl (.tmp 17) (.tmp 20) rfl hR w w2 p2 (a + m) c2 (L.take a ++ M) (if c = z then p else p.map (·.add (z * 5))) (l - z) (c - z) (L.drop z) rfl rfl HO2.out HD2.out (by omega) ?_; intro p3 c3 w3 ho3; have HO3 := Lib.hid ho3; clear ho3))
  all_goals go_ret
  all_goals exact ⟨p3, c3, rfl, (ow_rep HO3.out).2, fun y hy => by rw [← List.append_assoc]; exact (ow_rep HO3.out).1 y hy⟩
set_option maxRecDepth 100000 in
set_option maxHeartbeats 4000000 in
theorem held_none (q : Option Addr) (d : Nat) (w : World) : Calls Try.prog 53 #[.slice q 0 d] w fun e w' => e = .returned (.agg #[.int .i64 0, .int .i64 0, .float .f64 0, .string ⟨#[]⟩, .slice none 0 0]) ∧ Below w.heap.size w w' := by
  go_enter Try.func53, Try.ntmps53
  go_wp2
  exact bodyPost_ret (v := .agg #[.int .i64 0, .int .i64 0, .float .f64 0, .string ⟨#[]⟩, .slice none 0 0]) (by simp [results, Try.results53, go_sem]) rfl ⟨rfl, bel_alloc (Below.refl _ _) _⟩
set_option maxRecDepth 100000 in
set_option maxHeartbeats 4000000 in
theorem held_one (n : Nat) (q : Option Addr) (d : Nat) (K I : Int) (F : Nat) (Z : ByteArray) (A B : VT (n + 1)) (w0 w : World) (hbw : Below w0.heap.size w0 w) (h : RepL w0 (Rep w0 (n + 2)) q 1 d [(K, I, F, Z, [A, B])]) :
    Calls Try.prog 53 #[.slice q 1 d] w fun e w' => ∃ v, e = .returned v ∧ Below w.heap.size w w' ∧ Rep w0 (n + 1) v B := by
  obtain ⟨_, _, _, h4⟩ := h
  obtain ⟨b, off, rfl, hi⟩ := h4 (by omega)
  obtain ⟨v0, v1, v2, v3, v4, c0, c1, c2, c3, c4, p, l, c, hv, _, _, _, _, hlen, _, _, h5⟩ := hi 0 (by simp)
  obtain rfl : 2 = l := hlen
  injection hv with hv
  simp only [Array.mk.injEq, List.cons.injEq, and_true] at hv
  obtain ⟨rfl, rfl, rfl, rfl, rfl⟩ := hv
  obtain ⟨g, o, rfl, hj⟩ := h5 (by omega)
  obtain ⟨u0, u1, u2, u3, u4, d0, d1, d2, d3, d4, hr⟩ := hj 1 (by simp)
  obtain ⟨K2, I2, F2, S2, q2, m2, d2', hu, _⟩ := rep_shape hr
  injection hu with hu
  simp only [Array.mk.injEq, List.cons.injEq, and_true] at hu
  obtain ⟨rfl, rfl, rfl, rfl, rfl⟩ := hu
  simp only [Nat.zero_mul, Nat.one_mul, Nat.add_zero] at c0 c1 c2 c3 c4 d0 d1 d2 d3 d4
  replace c0 := cell_keep hbw c0; replace c1 := cell_keep hbw c1; replace c2 := cell_keep hbw c2; replace c3 := cell_keep hbw c3; replace c4 := cell_keep hbw c4
  replace d0 := cell_keep hbw d0; replace d1 := cell_keep hbw d1; replace d2 := cell_keep hbw d2; replace d3 := cell_keep hbw d3; replace d4 := cell_keep hbw d4
  have hb : b < w.heap.size := cell_lt c0
  have hg : g < w.heap.size := cell_lt d0
  have hb1 : w.heap.size ≠ b := by omega
  have hg1 : w.heap.size ≠ g := by omega
  have HR := Lib.hid hr
  clear hr hi hj h4 h5
  go_enter Try.func53, Try.ntmps53
  go_wp2
  exact bodyPost_ret (v := .agg #[.int .i64 K2, .int .i64 I2, .float .f64 F2, .string S2, .slice q2 m2 d2']) (by simp [results, Try.results53, go_sem]) rfl ⟨_, rfl, bel_alloc (Below.refl _ _) _, HR.out⟩
end Num
end Go.Proofs.Ytamogpbbaihaaaa
