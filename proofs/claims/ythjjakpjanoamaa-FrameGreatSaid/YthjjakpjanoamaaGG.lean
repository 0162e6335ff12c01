/-
  FrameGreat: the walk.
-/
import Derived.Test.YthjjakpjanoamaaGSl
namespace Go.Proofs.Ythjjakpjanoamaa
open Go.RowKit
namespace Num
open Ints
set_option linter.unusedSimpArgs false
set_option linter.unusedVariables false
theorem zb_at (n i : Nat) (h : i < n) : (zb n)[i]? = some (.int .u8 0) := by
  unfold zb madeCells
  have hs : (Value.int .u8 0).cells.size = 1 := rfl
  rw [hs, Nat.mul_one, Array.getElem?_map, Array.getElem?_range, if_pos h]
  simp only [Option.map_some, Nat.mod_one]
  rfl
theorem rd_zeros (w : World) (K : Nat) (hK : K ≤ maxLen) : RdB (w.alloc (.cells (zb K) 5)) (some ⟨w.heap.size, 0, none⟩) K K (List.replicate K 0) :=
  ⟨List.length_replicate, Nat.le_refl _, hK, fun _ => ⟨_, _, rfl, fun i hi => by
    have hi' : i < K := by rw [List.length_replicate] at hi; exact hi
    rw [Nat.zero_add, row_cell (row_alloc w (zb K) 5), zb_at K i hi', List.getElem_replicate]⟩, fun e => by cases e⟩
theorem by_zeros (K : Nat) : By (List.replicate K 0) := fun x hx => by
  rw [List.mem_replicate] at hx
  rw [hx.2]; decide
theorem opL_be (u : Nat) (R : List Int) (h : u < 4294967296) : opL (beI (u : Int) 4 ++ R) = u := by
  have hb4 : (beI (u : Int) 4).length = 4 := beI_len _ 4
  unfold opL
  rw [List.take_append_of_le_length (by omega), List.take_of_length_le (by omega), rdU_be4 _ (by omega) (by omega)]
  omega
theorem make_zeros (w : World) (K : Nat) (hK : K ≤ 100000) : (Instr.makeSlice 22 (.int .i64 K) (.int .i64 K)).run Try.prog w = .ok (.slice (some ⟨w.heap.size, 0, none⟩) K K) (w.alloc (.cells (zb K) 5)) := by
  obtain ⟨i0, hi, hz0, hz1, hz2⟩ := info_parts info_b8
  have h := run_makeSlice (P := Try.prog) w 22 5 i0 (.int .u8 0) Try.underlying22 hi hz0 .i64 .i64 (K : Int) (K : Int) (by omega) (by omega) (by rw [hz1]; omega) (by rw [hz2]; omega) (by omega)
  rw [h, hz1, Int.toNat_natCast]
  rfl
set_option maxRecDepth 100000 in
set_option maxHeartbeats 4000000 in
theorem great_any (w : World) (n : Nat) (hn : n < 256) :
    Calls Try.prog 10 #[.int .u8 n] w fun e w' => e = .returned (.bool true) ∧ Below w.heap.size w w' := by
  obtain ⟨r, hr⟩ : ∃ r, n % 5 = r := ⟨_, rfl⟩
  have hr5 : r < 5 := by omega
  have hri : ((n : Int) % 5) = (r : Int) := by omega
  obtain ⟨K, hK⟩ : ∃ K, 65534 + r = K := ⟨_, rfl⟩
  have hKi : (65534 + (r : Int)) = (K : Int) := by omega
  have hK0 : 65534 ≤ K := by omega
  have hK1 : K ≤ 65538 := by omega
  have hmk := fun w => make_zeros w K (by omega)
  have HZ := Lib.hid (fun w => rd_zeros w K (by unfold maxLen; omega))
  have HM := Lib.hid (zb_size K)
  by_cases hbig : 65536 < K
  · have HE := Lib.hid (show opE (beI (K : Int) 4 ++ List.replicate 20 0) = 22 by
      unfold opE
      rw [if_neg (by rw [List.length_append, beI_len]; simp), opL_be K _ (by omega), if_pos hbig])
    have HEZ := Lib.hid (opZ_bad HE.out (by decide))
    clear hr hK hr5
    go_enter Try.func10, Try.ntmps10
    go_wp2_with fail
    go_at_call 19; refine (known4_any _).mono ?_; rintro e w1 ⟨rfl, hb1⟩
    have HB1 := Lib.hid hb1
    clear hb1
    -- the wrapped one
    go_wp2_with fail
    go_at_call 20; refine (wrap_big _ none (some ⟨w1.heap.size, 0, none⟩) 0 0 K K hbig (by unfold maxLen; omega)).mono ?_; rintro e w2 ⟨rfl, rfl⟩
    have HB2 := Lib.hid (bel_alloc HB1.out (.cells (zb K) 5))
    go_wp2_with fail
    go_at_call 28; refine (rputU_nil4 _ (K : Int) (by omega) (by omega)).mono ?_; rintro e w3 ⟨p3, c3, rfl, ho3⟩
    have HO3 := Lib.hid ho3
    have HB3 := Lib.hid (bel_step HB2.out (ow_bel ho3))
    clear ho3
    go_wp2_with (at_builtin; first
      | (refine wp_oz rfl _ _ rfl (w1.alloc (.cells (zb K) 5)) w3 p3 4 c3 (beI (K : Int) 4) 20 rfl rfl HO3.out (by omega) (by omega) (by omega) ?_
         intro p4 c4 w4 ho4 _))
    have HC := Lib.hid (open_any w4 p4 (4 + 20) c4 (beI (K : Int) 4 ++ List.replicate 20 0) (rd_of_ow ho4) (by_app (by_be _ 4) (by_zeros 20)))
    rw [HE.out, HEZ.out.1, HEZ.out.2] at HC
    have HO4 := Lib.hid ho4
    clear ho4
    go_at_call 22; refine HC.out.mono ?_; rintro e w5 ⟨p5, c5, rfl, ho5⟩
    have HO5 := Lib.hid ho5
    clear ho5
    have HB5 := Lib.hid (bel_step HB2.out (((HO4.out).2.2.1).trans ((ow_bel HO5.out).mono (HO4.out).2.2.2)))
    go_wp2
    go_ret
    exact ⟨rfl, HB5.out⟩
  · have HE := Lib.hid (show opE (beI (K : Int) 4 ++ List.replicate 20 0) = 23 by
      unfold opE
      rw [if_neg (by rw [List.length_append, beI_len]; simp), opL_be K _ (by omega), if_neg hbig, if_pos (by rw [List.length_append, beI_len]; simp; omega)])
    have HEZ := Lib.hid (opZ_bad HE.out (by decide))
    have HF := Lib.hid (show opE (frI (List.replicate K 0)) = 0 ∧ opZ (frI (List.replicate K 0)) = List.replicate K 0 ∧ opN (frI (List.replicate K 0)) = 8 + K by
      have h := op_frame (Y := List.replicate K 0) [] (by_zeros K) (by rw [List.length_replicate]; omega)
      rw [List.append_nil, List.length_replicate] at h
      exact h)
    have HW := Lib.hid (fun (w : World) {q : Option Addr} (h : RdB w q K K (List.replicate K 0)) => wrap_ok w none q 0 0 K K [] (List.replicate K 0) (rd_nil w) h (by_zeros K) (by omega) (by omega))
    obtain ⟨L, hL⟩ : ∃ L, 0 + 4 + 4 + K = L := ⟨_, rfl⟩
    rw [hL] at HW
    clear hr hK hr5 hL
    go_enter Try.func10, Try.ntmps10
    go_wp2_with fail
    go_at_call 19; refine (known4_any _).mono ?_; rintro e w1 ⟨rfl, hb1⟩
    have HB1 := Lib.hid hb1
    clear hb1
    go_wp2_with fail
    go_at_call 20; refine (HW.out _ (HZ.out w1)).mono ?_; rintro e w2 ⟨p2, c2, rfl, ho2⟩
    have HO2 := Lib.hid ho2
    have HB2 := Lib.hid (bel_step (bel_alloc HB1.out (.cells (zb K) 5)) (ow_bel ho2))
    clear ho2
    go_wp2_with fail
    go_at_call 28; refine (rputU_nil4 _ (K : Int) (by omega) (by omega)).mono ?_; rintro e w3 ⟨p3, c3, rfl, ho3⟩
    have HO3 := Lib.hid ho3
    have HB3 := Lib.hid (bel_step HB2.out (ow_bel ho3))
    have HO23 := Lib.hid (ow_keep HO2.out (ow_bel ho3))
    clear ho3
    go_wp2_with (at_builtin; first
      | (refine wp_oz rfl _ _ rfl w2 w3 p3 4 c3 (beI (K : Int) 4) 20 rfl rfl HO3.out (by omega) (by omega) (by omega) ?_
         intro p4 c4 w4 ho4 _))
    have HC := Lib.hid (open_any w4 p4 (4 + 20) c4 (beI (K : Int) 4 ++ List.replicate 20 0) (rd_of_ow ho4) (by_app (by_be _ 4) (by_zeros 20)))
    rw [HE.out, HEZ.out.1, HEZ.out.2] at HC
    have HO4 := Lib.hid ho4
    clear ho4
    go_at_call 22; refine HC.out.mono ?_; rintro e w5 ⟨p5, c5, rfl, ho5⟩
    have HO5 := Lib.hid ho5
    clear ho5
    have HB5 := Lib.hid (((HO4.out).2.2.1).trans ((ow_bel HO5.out).mono (HO4.out).2.2.2))
    have HC2 := Lib.hid (open_any w5 p2 L c2 (frI (List.replicate K 0)) (rd_keep HB5.out (rd_of_ow HO2.out)) (by_fr (by_zeros K)))
    rw [HF.out.1, HF.out.2.1, HF.out.2.2, List.length_replicate] at HC2
    go_wp2_with fail
    go_at_call 22; refine HC2.out.mono ?_; rintro e w6 ⟨p6, c6, rfl, ho6⟩
    have HB6 := Lib.hid (bel_step (bel_step HB2.out HB5.out) (ow_bel ho6))
    clear ho6
    go_wp2
    go_ret
    exact ⟨rfl, HB6.out⟩
theorem great_law {W : World} (a : Int) (ha : (Lit.int .u8 a).wf = true) :
    Calls Try.prog 10 #[.int .u8 a] W fun e w' => e = .returned (.bool true) ∧ Below W.heap.size W w' := by
  obtain ⟨n, rfl, hn⟩ := wf_u8 ha
  exact great_any W n hn
end Num
end Go.Proofs.Ythjjakpjanoamaa
