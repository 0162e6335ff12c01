/-
  The reference's texts of ids.
-/
import Derived.Test.YtbodakfgoijeeaaDoorIC
import Derived.Test.YtbodakfgoijeeaaDoorRow
namespace Go.Proofs.YtbodakfgoijeeaaDoor
open Go.RowKit Go.Sort Go.Lib
namespace Num
set_option linter.unusedSimpArgs false
set_option linter.unusedVariables false
theorem dec_len20 {n : Nat} (h : n < 18446744073709551616) : (decDigits n).length ≤ 20 := by
  rw [decDigits_length]
  by_cases h1 : 1 ≤ n
  · have := Lib.numDigits_eq n h1 h; split at this <;> omega
  · rw [nDigits_small (by omega)]; omega
theorem dec_two {n : Nat} (h : ¬ n < 10) : decDigits n = decDigits (n / 10) ++ decDigits (n % 10) := by
  rw [dec_big h, dec_small (i := n % 10) (by omega)]
theorem piece10 : ∀ i : Fin 10, (⟨#[48, 49, 50, 51, 52, 53, 54, 55, 56, 57]⟩ : ByteArray).extract i.val (i.val + 1) = SB [UInt8.ofNat (48 + i.val)] := by decide +kernel
set_option maxRecDepth 100000 in
set_option maxHeartbeats 4000000 in
theorem rdec_any (n : Nat) : ∀ (hn : n < 18446744073709551616) (w : World),
    Calls Tryd.prog 18 #[.int .u64 n] w fun e w' => e = .returned (Str (decDigits n)) ∧ Below w.heap.size w w' := by
  induction n using Nat.strongRecOn with
  | _ n ih =>
    intro hn w
    by_cases h : n < 10
    · have hp := piece10 ⟨n, h⟩
      simp only at hp
      rw [← dec_small h] at hp
      have h1 : (n : Int) < 10 := by omega
      have h0 : (0 : Int) ≤ n := by omega
      clear hn ih
      have hw : IntKind.u64.wrap ((n : Int) + 1) = n + 1 := by rw [IntKind.wrap_u64]; omega
      go_enter Tryd.func18, Tryd.ntmps18
      go_wp2_with fail
      go_ret
      exact ⟨rfl, Below.refl _ _⟩
    · have e2 := dec_two h
      have l1 := dec_len20 (n := n / 10) (by omega)
      have l2 := dec_len20 (n := n % 10) (by omega)
      have E1 : ∀ W, (Op.stringOp .add (SB (decDigits (n / 10))) (SB (decDigits (n % 10)))).run Tryd.prog W = .ok (.string (SB (decDigits n))) W := fun W => by
        rw [sb_plus _ _ (by omega) W, e2]
      have hA := ih (n / 10) (by omega) (by omega)
      have hB := ih (n % 10) (by omega) (by omega)
      have q1 : ((n / 10 : Nat) : Int) = (n : Int) / 10 := Int.natCast_ediv n 10
      have q2 : ((n % 10 : Nat) : Int) = (n : Int) % 10 := Int.natCast_emod n 10
      rw [q1] at hA
      rw [q2] at hB
      have HA := Lib.hid hA
      have HB := Lib.hid hB
      clear hA hB q1 q2
      have hw1 : IntKind.u64.wrap ((n : Int) / 10) = (n : Int) / 10 := by rw [IntKind.wrap_u64]; omega
      have hw2 : IntKind.u64.wrap ((n : Int) % 10) = (n : Int) % 10 := by rw [IntKind.wrap_u64]; omega
      have h1 : ¬ (n : Int) < 10 := by omega
      clear e2 l1 l2 hn ih h
      go_enter Tryd.func18, Tryd.ntmps18
      go_wp2_with fail
      go_at_call 18; refine (HA.out _).mono ?_; rintro e w1 ⟨rfl, hb1⟩
      have HB1 := Lib.hid hb1
      clear hb1
      go_wp2_with fail
      go_at_call 18; refine (HB.out _).mono ?_; rintro e w2 ⟨rfl, hb2⟩
      have HB2 := Lib.hid (bel_step HB1.out hb2)
      clear hb2
      go_wp2
      go_ret
      exact ⟨rfl, HB2.out⟩
set_option maxRecDepth 100000 in
set_option maxHeartbeats 4000000 in
theorem rtext_any (c q n : Nat) (hc : c ≤ 4294967295) (hq : q ≤ 4294967295) (hn : n ≤ 65535) (w : World) (hg : Good w) :
    Calls Tryd.prog 9 #[Id c q n] w fun e w' => e = .returned (Str (tx c q n)) ∧ Below w.heap.size w w' := by
  have HX := Lib.hid (fun (x : Nat) (hx : x ≤ 4294967295) (W : World) (hg : Sid w W) => show Calls Tryd.prog 18 #[.int .u64 (IntKind.u64.wrap (x : Int))] W _ from by rw [show IntKind.u64.wrap (x : Int) = x by rw [IntKind.wrap_u64]; omega]; exact rdec_any x (by omega) W)
  have BC := Lib.hid hc
  have BQ := Lib.hid hq
  have BN := Lib.hid (show n ≤ 4294967295 by omega)
  have HS : Sid w (w.alloc (.cells #[.int .u32 c, .int .u32 q, .int .u16 n] 25)) := sid_alloc (sid_start hg) _
  have lc := dec_len10 (n := c) (by omega)
  have lq := dec_len10 (n := q) (by omega)
  have ln := dec_len10 (n := n) (by omega)
  have E1 := fun W => sb_plus (decDigits c) [45] (by simp only [List.length_cons, List.length_nil]; omega) W
  have E2 : ∀ W, (Op.stringOp .add (SB (decDigits c ++ [45])) (SB (decDigits q))).run Tryd.prog W = .ok (.string (SB (decDigits c ++ 45 :: decDigits q))) W := fun W => by
    rw [sb_plus (decDigits c ++ [45]) (decDigits q) (by simp only [List.length_cons, List.length_nil, List.length_append]; omega) W, List.append_assoc]; rfl
  have E3 : ∀ W, (Op.stringOp .add (SB (decDigits c ++ 45 :: decDigits q)) (SB [46])).run Tryd.prog W = .ok (.string (SB (decDigits c ++ 45 :: (decDigits q ++ [46])))) W := fun W => by
    rw [sb_plus (decDigits c ++ 45 :: decDigits q) [46] (by simp only [List.length_cons, List.length_nil, List.length_append]; omega) W, List.append_assoc]; rfl
  have E4 : ∀ W, (Op.stringOp .add (SB (decDigits c ++ 45 :: (decDigits q ++ [46]))) (SB (decDigits n))).run Tryd.prog W = .ok (.string (SB (decDigits c ++ 45 :: (decDigits q ++ 46 :: decDigits n)))) W := fun W => by
    rw [sb_plus (decDigits c ++ 45 :: (decDigits q ++ [46])) (decDigits n) (by simp only [List.length_cons, List.length_nil, List.length_append]; omega) W]; simp
  rw [show SB [45] = ⟨#[45]⟩ from rfl] at E1
  rw [show SB [46] = ⟨#[46]⟩ from rfl] at E3
  clear lc lq ln
  clear hg hc hq hn
  unfold Id
  go_enter Tryd.func9, Tryd.ntmps9
  go_wp2_with fail
  go_region_held3 (fun w' => w'.cell? ⟨w.heap.size, 0, none⟩ = some (.int .u32 c) ∧ w'.cell? ⟨w.heap.size, 1, none⟩ = some (.int .u32 q) ∧ w'.cell? ⟨w.heap.size, 2, none⟩ = some (.int .u16 n) ∧ Sid w w') ((refine ⟨?_, ?_, ?_, ?_⟩ <;> first | assumption | exact sid_drew (by assumption) | go_keep)) (first
    | (go_at_call 18; refine (HX.out _ ?hx _ ?hs).mono ?_; (case hx => (first | exact BC.out | exact BQ.out | exact BN.out)); (case hs => (first | assumption | exact (by assumption : _ ∧ _ ∧ _ ∧ Sid w _).2.2.2)); rintro e w' ⟨rfl, hb⟩; have hk := s3_step (by assumption) hb; clear hb; obtain ⟨k0, k1, k2, k3⟩ := hk))
  have H3 := Lib.hid (by assumption : Sid w _)
  by_cases h0 : n = 0
  · have h0' : (n : Int) = 0 := by omega
    go_wp2
    go_ret
    refine ⟨?_, H3.out.2⟩
    unfold tx
    rw [if_pos h0, List.append_nil]
    rfl
  · have h0' : ¬ (n : Int) = 0 := by omega
    go_wp2_with (go_at_call 18; refine (HX.out _ BN.out _ H3.out).mono ?_; rintro e w2 ⟨rfl, hb⟩)
    have HB := Lib.hid (sid_step H3.out hb)
    clear hb
    go_wp2
    go_ret
    refine ⟨?_, HB.out.2⟩
    unfold tx
    rw [if_neg h0]
    rfl
end Num
end Go.Proofs.YtbodakfgoijeeaaDoor
