/-
  known(): what every statement of the layer asks first.
-/
import Derived.Test.YtbodakfgoijeeaaWK
namespace Go.Proofs.Ytbodakfgoijeeaa
open Go.RowKit
namespace Num
open Ints
set_option linter.unusedSimpArgs false
set_option linter.unusedVariables false
theorem rd_lit1 (w : World) (a : Int) : RdB (w.alloc (.cells #[.int .u8 a] 5)) (some ⟨w.heap.size, 0, none⟩) 1 1 [a] :=
  ⟨rfl, Nat.le_refl _, by decide, fun _ => ⟨w.heap.size, 0, rfl, fun i hi => by
    obtain rfl : i = 0 := by simp at hi; omega
    exact row_cell (row_alloc w #[.int .u8 a] 5) 0⟩, fun h => by cases h⟩
theorem rd_lit2 (w : World) (a b : Int) : RdB (w.alloc (.cells #[.int .u8 a, .int .u8 b] 5)) (some ⟨w.heap.size, 0, none⟩) 2 2 [a, b] :=
  ⟨rfl, Nat.le_refl _, by decide, fun _ => ⟨w.heap.size, 0, rfl, fun i hi => by
    have h : i = 0 ∨ i = 1 := by simp at hi; omega
    rcases h with rfl | rfl
    · exact row_cell (row_alloc w #[.int .u8 a, .int .u8 b] 5) 0
    · exact row_cell (row_alloc w #[.int .u8 a, .int .u8 b] 5) 1⟩, fun h => by cases h⟩
theorem str_one : strB (1 :: beI (IntKind.u64.wrap 1) 8) = ⟨#[1, 0, 0, 0, 0, 0, 0, 0, 1]⟩ := by decide +kernel
theorem str_ab : strB ([] ++ beI ((⟨#[97, 98]⟩ : ByteArray).size : Nat) 2 ++ strIs ⟨#[97, 98]⟩) = ⟨#[0, 2, 97, 98]⟩ := by decide +kernel
theorem rd_12 : rdU ([1, 2].take 2) = 258 := rdU_two 1 2 (by omega) (by omega) (by omega) (by omega)
theorem putText_ab (w : World) : Calls Try.prog 16 #[.slice none 0 0, .string ⟨#[97, 98]⟩, .int .i64 5] w fun e w' => ∃ p' c', e = .returned (.tuple #[.slice p' 4 c', .int .i64 0]) ∧ OwB w w' p' 4 c' ([] ++ beI ((⟨#[97, 98]⟩ : ByteArray).size : Nat) 2 ++ strIs ⟨#[97, 98]⟩) :=
  putText_yes w none 0 0 [] ⟨#[97, 98]⟩ 5 (rd_nil _) (by omega) (by decide) (by decide)
set_option maxRecDepth 100000 in
set_option maxHeartbeats 8000000 in
theorem known_any (w : World) : Calls Try.prog 5 #[] w fun e w' => e = .returned (.bool true) ∧ Below w.heap.size w w' := by
  go_enter Try.func5, Try.ntmps5
  go_wp2_with fail
  go_at_call 14; refine (int_ref_any 1 _).mono ?_; rintro e w0 ⟨rfl, hb0⟩
  have HB0 := Lib.hid hb0
  clear hb0
  go_wp2_with fail
  go_at_call 13; refine (put_1 _ 1 0 none 0 (by decide) (by decide) (by decide)).mono ?_; rintro e w1 ⟨p1, c1, rfl, ho1⟩
  have HO1 := Lib.hid ho1
  clear ho1
  go_wp2_with fail
  go_at_call 8; refine (read_int _ _ _ _ (by rw [Go.IntKind.wrap_u64]; omega) (by rw [Go.IntKind.wrap_u64]; omega) (rd_of_ow HO1.out)).mono ?_; rintro e w2 ⟨q2, d2, hd2, rfl, hb2⟩
  have HB2 := Lib.hid hb2
  have RV := Lib.hid (row_alloc w2 #[.int .i64 1, .int .i64 1, .float .f64 0, .string ⟨#[]⟩, .slice q2 0 d2] 26)
  have HL9 := Lib.hid (rd_lit1 (w2.alloc (.cells #[.int .i64 1, .int .i64 1, .float .f64 0, .string ⟨#[]⟩, .slice q2 0 d2] 26)) 9)
  simp only [World.size_alloc] at HL9
  clear hb2
  rw [show wrap64 (IntKind.u64.wrap 1) = 1 by decide +kernel]
  go_wp2_with fail
  go_at_call 8; refine (read_no 1 _ _ _ _ _ HL9.out (by_cons (by omega) (fun x h => by cases h)) (by omega) (by omega) (by simp [decV])).mono ?_; rintro e w3 ⟨rfl, hb3⟩
  have HL12 := Lib.hid (rd_lit2 (w3.alloc (.cells #[.int .i64 0, .int .i64 0, .float .f64 0, .string ⟨#[]⟩, .slice none 0 0] 26)) 1 2)
  simp only [World.size_alloc] at HL12
  have HB3 := Lib.hid hb3
  clear hb3
  go_wp2_with fail
  go_at_call 15; refine (readU_all _ _ _ _ _ 2 HL12.out (by_cons (by omega) (by_cons (by omega) (fun x h => by cases h))) (by omega) (by omega)).mono ?_; rintro e w4 ⟨rfl, rfl⟩
  rw [rd_12]
  go_wp2_with fail
  go_at_call 16; refine (putText_ab _).mono ?_; rintro e w5 ⟨p5, c5, rfl, ho5⟩
  have HBa := Lib.hid (bel_step (bel_alloc (bel_alloc (bel_step (bel_alloc (Below.refl _ (w2.alloc (.cells #[.int .i64 1, .int .i64 1, .float .f64 0, .string ⟨#[]⟩, .slice q2 0 d2] 26))) (.cells #[.int .u8 9] 5)) HB3.out) (.cells #[.int .i64 0, .int .i64 0, .float .f64 0, .string ⟨#[]⟩, .slice none 0 0] 26)) (.cells #[.int .u8 1, .int .u8 2] 5)) (ow_bel ho5))
  have HB1 := Lib.hid (bel_step (bel_alloc HB2.out (.cells #[.int .i64 1, .int .i64 1, .float .f64 0, .string ⟨#[]⟩, .slice q2 0 d2] 26)) HBa.out)
  have HBW := Lib.hid (bel_step (bel_step HB0.out (ow_bel HO1.out)) HB1.out)
  have hcv := rd_string (rd_keep HB1.out (rd_of_ow HO1.out))
  have hcw := rd_string (rd_of_ow ho5)
  rw [str_one] at hcv
  rw [str_ab] at hcw
  have hr := row_step RV.out HBa.out
  have d1 := row_cell hr 1
  simp only [List.getElem?_toArray, List.getElem?_cons_zero, List.getElem?_cons_succ] at d1
  clear hr ho5
  go_wp2
  go_ret
  exact ⟨rfl, HBW.out⟩
end Num
end Go.Proofs.Ytbodakfgoijeeaa
