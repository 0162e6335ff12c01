/-
  Frames: what opens, what does not; the laws' example.
-/
import Derived.Test.YthjjakpjanoamaaFL
import Derived.Lib.SlBytesConst
namespace Go.Proofs.Ythjjakpjanoamaa
open Go.RowKit
namespace Num
open Ints
set_option linter.unusedSimpArgs false
set_option linter.unusedVariables false
theorem rdU_be4 (u : Int) (h0 : 0 ≤ u) (h1 : u < 4294967296) : rdU (beI u 4) = u := by
  have h := fold_be u h0 4 0 (by omega) (by decide)
  have e : (256 : Int) ^ 4 = 4294967296 := by decide
  rw [e] at h
  unfold rdU
  rw [h]
  omega
theorem take_hd (Y R : List Int) : (hdI Y ++ R).take 4 = hdI Y := by
  rw [List.take_append_of_le_length (by rw [hdI_len]; omega), List.take_of_length_le (by rw [hdI_len]; omega)]
theorem drop_hd (Y R : List Int) : (hdI Y ++ R).drop 4 = R := by
  rw [List.drop_append_of_le_length (by rw [hdI_len]; omega), List.drop_of_length_le (by rw [hdI_len]; omega), List.nil_append]
theorem opL_hd {Y : List Int} (R : List Int) (h : Y.length ≤ 65536) : opL (hdI Y ++ R) = Y.length := by
  unfold opL
  rw [take_hd]
  unfold hdI
  rw [rdU_be4 _ (by omega) (by omega)]
  omega
/-- Four bytes of a sum, and a payload, behind a head. -/
theorem op_parts {Y : List Int} (s : Int) (P M : List Int) (h0 : 0 ≤ s) (h1 : s < 4294967296) (hP : P.length = Y.length) (hY : Y.length ≤ 65536) :
    opS (hdI Y ++ beI s 4 ++ P ++ M) = s ∧ opP (hdI Y ++ beI s 4 ++ P ++ M) = P ∧ (hdI Y ++ beI s 4 ++ P ++ M).take 4 = hdI Y ∧ opL (hdI Y ++ beI s 4 ++ P ++ M) = Y.length ∧ (hdI Y ++ beI s 4 ++ P ++ M).length = 8 + Y.length + M.length := by
  have e : hdI Y ++ beI s 4 ++ P ++ M = hdI Y ++ (beI s 4 ++ (P ++ M)) := by simp only [List.append_assoc]
  have hb4 : (beI s 4).length = 4 := beI_len s 4
  have hL : opL (hdI Y ++ (beI s 4 ++ (P ++ M))) = Y.length := opL_hd _ hY
  rw [e]
  refine ⟨?_, ?_, take_hd _ _, hL, ?_⟩
  · unfold opS
    rw [drop_hd, List.take_append_of_le_length (by omega), List.take_of_length_le (by omega), rdU_be4 s h0 h1]
  · unfold opP
    rw [hL, show (8 : Nat) = 4 + 4 from rfl, ← List.drop_drop, drop_hd, List.drop_append_of_le_length (by omega), List.drop_of_length_le (by omega), List.nil_append, List.take_append_of_le_length (by omega), List.take_of_length_le (by omega)]
  · simp only [List.length_append, hdI_len, hb4, hP]; omega
theorem op_parts_E {Y : List Int} (s : Int) (P M : List Int) (h0 : 0 ≤ s) (h1 : s < 4294967296) (hP : P.length = Y.length) (hY : Y.length ≤ 65536) :
    opE (hdI Y ++ beI s 4 ++ P ++ M) = if crcI (hdI Y ++ P) = s then 0 else 21 := by
  obtain ⟨e1, e2, e3, e4, e5⟩ := op_parts s P M h0 h1 hP hY
  unfold opE
  rw [if_neg (by omega), if_neg (by omega), if_neg (by omega), e1, e2, e3]
/-- A frame is opened, whatever is behind it. -/
theorem op_frame {Y : List Int} (M : List Int) (hB : By Y) (hY : Y.length ≤ 65536) : opE (frI Y ++ M) = 0 ∧ opZ (frI Y ++ M) = Y ∧ opN (frI Y ++ M) = 8 + Y.length := by
  have hr := crcI_rng (by_app (by_hd Y) hB)
  have hE : opE (frI Y ++ M) = 0 := by unfold frI; rw [op_parts_E _ Y M hr.1 hr.2 rfl hY, if_pos rfl]
  obtain ⟨e1, e2, e3, e4, e5⟩ := op_parts (crcI (hdI Y ++ Y)) Y M hr.1 hr.2 rfl hY
  refine ⟨hE, ?_, ?_⟩
  · unfold opZ; rw [if_pos hE]; exact e2
  · unfold opN; rw [if_pos hE]; unfold frI; rw [e4]
theorem known_crc : crcI [49, 50, 51, 52, 53, 54, 55, 56, 57] = 3421780262 := by decide +kernel
theorem known_cut : opE ((frI [97, 98]).take 9) = 23 := by decide +kernel
theorem known_str : strB [97, 98] = ⟨#[97, 98]⟩ := by rfl
theorem rd_lit (w : World) (X : List Int) : X.length ≤ maxLen → RdB (w.alloc (.cells (X.map (Value.int .u8)).toArray 5 ((X.map (Value.int .u8)).toArray.size, (X.map (Value.int .u8)).toArray.size + 1))) (some ⟨w.heap.size, 0, none⟩) X.length X.length X := fun h =>
  ⟨rfl, Nat.le_refl _, h, fun _ => ⟨_, _, rfl, fun i hi => by
    rw [Nat.zero_add, World.cell?_alloc_mark, List.getElem?_toArray, List.getElem?_map, List.getElem?_eq_getElem hi]; rfl⟩, fun e => by cases e⟩
set_option maxRecDepth 100000 in
set_option maxHeartbeats 2000000 in
theorem known4_any (w : World) :
    Calls Try.prog 19 #[] w fun e w' => e = .returned (.bool true) ∧ Below w.heap.size w w' := by
  have kc := fun (w : World) (C : Array Value) (n c : Nat) => Lib.run_convert_bytes_const (P := Try.prog) w 22 5 C n c Try.underlying22 Try.underlying5
  go_enter Try.func19, Try.ntmps19
  go_wp2_with fail
  go_at_call 20
  have HA0 := Lib.hid ((Below.refl w.heap.size w).alloc (Nat.le_refl _) (.cells #[.int .u8 97, .int .u8 98] 5 (2, 3)))
  have HY := Lib.hid (rd_lit w [97, 98] (by decide))
  have hBy : By [97, 98] := by intro x hx; simp at hx; rcases hx with rfl | rfl <;> decide
  refine (wrap_ok _ none (some ⟨w.heap.size, 0, none⟩) 0 0 2 2 [] [97, 98] (rd_nil _) HY.out hBy (by omega) (by omega)).mono ?_
  rintro e w1 ⟨p1, c1, rfl, ho1⟩
  have HO1 := Lib.hid (show OwB w w1 p1 10 c1 (frI [97, 98]) from ow_base HA0.out ho1)
  obtain ⟨g, f, rfl⟩ := rd_full (rd_of_ow HO1.out) (by omega)
  have hcap := (rd_of_ow HO1.out).2.1
  have hcm := (rd_of_ow HO1.out).2.2.1
  unfold maxLen at hcm
  obtain ⟨k1, k2, k3⟩ := op_frame (Y := [97, 98]) [] hBy (by decide)
  rw [List.append_nil] at k1 k2 k3
  have HC := Lib.hid (open_any w1 (some ⟨g, f, none⟩) 10 c1 (frI [97, 98]) (rd_of_ow HO1.out) (by_fr hBy))
  rw [k1, k2, k3] at HC
  clear k1 k2 k3 ho1
  go_wp2_with fail
  go_at_call 22; refine HC.out.mono ?_; rintro e w2 ⟨p2, c2, rfl, ho2⟩
  have HO2 := Lib.hid (show OwB w1 w2 p2 2 c2 [97, 98] from ho2)
  have HR2 := Lib.hid (rd_take (k := 9) (rd_of_ow (ow_keep HO1.out (ow_bel ho2))) (by omega))
  clear ho2
  have HC2 := Lib.hid (open_any w2 (some ⟨g, f, none⟩) 9 c1 ((frI [97, 98]).take 9) HR2.out (by_take (by_fr hBy) 9))
  rw [known_cut, (opZ_bad known_cut (by decide)).1, (opZ_bad known_cut (by decide)).2] at HC2
  clear hBy
  go_wp2_with fail
  go_at_call 22; refine HC2.out.mono ?_; rintro e w3 ⟨p3, c3, rfl, ho3⟩
  have HO3 := Lib.hid ho3
  clear ho3
  go_wp2_with fail
  go_at_call 23
  have HA3 := Lib.hid ((Below.refl w3.heap.size w3).alloc (Nat.le_refl _) (.cells #[.int .u8 49, .int .u8 50, .int .u8 51, .int .u8 52, .int .u8 53, .int .u8 54, .int .u8 55, .int .u8 56, .int .u8 57] 5 (9, 10)))
  refine (sum_any _ (some ⟨w3.heap.size, 0, none⟩) 9 9 [49, 50, 51, 52, 53, 54, 55, 56, 57] (rd_lit w3 [49, 50, 51, 52, 53, 54, 55, 56, 57] (by decide)) (by intro x hx; simp at hx; omega) (by omega)).mono ?_
  rintro e w4 ⟨rfl, rfl⟩
  rw [known_crc]
  have hcv := rd_string (rd_keep HA3.out (rd_of_ow (ow_keep HO2.out (ow_bel HO3.out))))
  rw [known_str] at hcv
  have HB := Lib.hid ((((ow_bel HO1.out).trans ((ow_bel HO2.out).mono (ow_bel HO1.out).size)).trans ((ow_bel HO3.out).mono (Nat.le_trans (ow_bel HO1.out).size (ow_bel HO2.out).size))).alloc (Nat.le_trans (Nat.le_trans (ow_bel HO1.out).size (ow_bel HO2.out).size) (ow_bel HO3.out).size) (.cells #[.int .u8 49, .int .u8 50, .int .u8 51, .int .u8 52, .int .u8 53, .int .u8 54, .int .u8 55, .int .u8 56, .int .u8 57] 5 (9, 10)))
  go_wp2
  go_ret
  exact ⟨rfl, HB.out⟩
end Num
end Go.Proofs.Ythjjakpjanoamaa
