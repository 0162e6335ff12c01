/-
  Frames: what the program wraps.
-/
import Derived.Test.YthjjakpjanoamaaFD
import Derived.Test.YthjjakpjanoamaaFE
import Derived.Test.YthjjakpjanoamaaWU
namespace Go.Proofs.Ythjjakpjanoamaa
open Go.RowKit
namespace Num
open Ints
set_option linter.unusedSimpArgs false
set_option linter.unusedVariables false
/-- A frame's head: the payload's length, as bytes. -/
def hdI (Y : List Int) : List Int := beI (Y.length : Int) 4
/-- A frame. -/
def frI (Y : List Int) : List Int := hdI Y ++ beI (crcI (hdI Y ++ Y)) 4 ++ Y
theorem hdI_len (Y : List Int) : (hdI Y).length = 4 := beI_len _ 4
theorem by_hd (Y : List Int) : By (hdI Y) := by_be _ 4
theorem frI_len (Y : List Int) : (frI Y).length = 8 + Y.length := by
  unfold frI; rw [List.length_append, List.length_append, hdI_len, beI_len]
theorem by_fr {Y : List Int} (h : By Y) : By (frI Y) := by_app (by_app (by_hd Y) (by_be _ 4)) h
theorem clamp4 : clampN 4 = 4 := by decide
/-- Four bytes of a number alone. -/
theorem putU_nil4 (w : World) (u : Int) (hu0 : 0 ≤ u) (hu1 : u < 18446744073709551616) :
    Calls Try.prog 44 #[.slice none 0 0, .int .u64 u, .int .i64 4] w fun e w' => ∃ p' c', e = .returned (.slice p' 4 c') ∧ OwB w w' p' 4 c' (beI u 4) := by
  have h := putU_any w none 0 0 [] u 4 hu0 hu1 (rd_nil w) (by omega)
  rw [clamp4] at h
  exact h
set_option maxRecDepth 100000 in
set_option maxHeartbeats 1000000 in
theorem wrap_ok (w : World) (p q : Option Addr) (l c m d : Nat) (X Y : List Int) (hx : RdB w p l c X) (hy : RdB w q m d Y) (hY : By Y) (hl : l ≤ 100000) (hm : m ≤ 65536) :
    Calls Try.prog 20 #[.slice p l c, .slice q m d] w fun e w' => ∃ p' c', e = .returned (.tuple #[.slice p' (l + 4 + 4 + m) c', .int .i64 0]) ∧ OwB w w' p' (l + 4 + 4 + m) c' (X ++ frI Y) := by
  have HX := Lib.hid hx
  have HY := Lib.hid hy
  have HBY := Lib.hid hY
  have HLEN := Lib.hid (show (m : Int) = (Y.length : Int) by rw [hy.1])
  clear hx hy hY
  go_enter Try.func20, Try.ntmps20
  go_wp2_with fail
  go_at_call 44; refine (putU_nil4 w (m : Int) (by omega) (by omega)).mono ?_; rintro e w1 ⟨p1, c1, rfl, ho1⟩
  have HO1 := Lib.hid (show OwB w w1 p1 4 c1 (hdI Y) by have h := ho1; rw [HLEN.out] at h; exact h)
  have HY1 := Lib.hid (rd_keep (ow_bel ho1) HY.out)
  clear ho1
  go_wp2_with fail
  go_at_call 45; refine (sumOf_any w1 p1 q 4 c1 m d (hdI Y) Y (rd_of_ow HO1.out) (by_hd Y) (by omega) HY1.out HBY.out (by omega)).mono ?_; rintro e w1' ⟨rfl, rfl⟩
  have hr := crcI_rng (by_app (by_hd Y) HBY.out)
  obtain ⟨s, hs⟩ : ∃ s, crcI (hdI Y ++ Y) = s := ⟨_, rfl⟩
  rw [hs] at hr
  rw [hs]
  have hr0 := hr.1
  have hr1 := hr.2
  have HS := Lib.hid hs
  clear hr hs
  go_wp2_with fail
  go_at_call 44; refine (putU_nil4 w1 s (by omega) (by omega)).mono ?_; rintro e w2 ⟨p2, c2, rfl, ho2⟩
  have HO2 := Lib.hid (show OwB w1 w2 p2 4 c2 (beI s 4) from ho2)
  have hb2 := Below.trans (ow_bel HO1.out) ((ow_bel HO2.out).mono (ow_bel HO1.out).size)
  have HB2 := Lib.hid hb2
  clear ho2 hb2
  go_wp2_with fail
  have HA := Lib.hid ((Below.refl w2.heap.size w2).alloc (Nat.le_refl _) (.cells #[.slice p l c, .slice p1 4 c1, .slice p2 4 c2, .slice q m d] 22))
  have hr2 := row_alloc w2 #[.slice p l c, .slice p1 4 c1, .slice p2 4 c2, .slice q m d] 22
  refine (concat4 _ w2.heap.size p p1 p2 q l c 4 c1 4 c2 m d X (hdI Y) (beI s 4) Y (by rw [row_cell hr2]; rfl) (by rw [row_cell hr2]; rfl) (by rw [row_cell hr2]; rfl) (by rw [row_cell hr2]; rfl)
    (rd_keep HA.out (rd_keep HB2.out HX.out)) (rd_keep HA.out (rd_of_ow (ow_keep HO1.out (ow_bel HO2.out)))) (rd_keep HA.out (rd_of_ow HO2.out)) (rd_keep HA.out (rd_keep HB2.out HY.out)) hl (by omega) (by omega) (by omega) (by omega)).mono ?_
  rintro e w3 ⟨p3, c3, rfl, ho3⟩
  have HO3 := Lib.hid ho3
  clear ho3 hr2
  go_wp2
  go_ret2
  refine ⟨p3, c3, rfl, ?_⟩
  have h := ow_base ((HB2.out).alloc (HB2.out).size _) HO3.out
  rw [← HS.out] at h
  unfold frI
  rw [← List.append_assoc, ← List.append_assoc]
  exact h
set_option maxRecDepth 100000 in
set_option maxHeartbeats 1000000 in
theorem wrap_big (w : World) (p q : Option Addr) (l c m d : Nat) (hm : 65536 < m) (hmm : m ≤ maxLen) :
    Calls Try.prog 20 #[.slice p l c, .slice q m d] w fun e w' => e = .returned (.tuple #[.slice none 0 0, .int .i64 22]) ∧ w = w' := by
  unfold maxLen at hmm
  go_enter Try.func20, Try.ntmps20
  go_wp2
  go_ret2
  exact ⟨rfl, rfl⟩
end Num
end Go.Proofs.Ythjjakpjanoamaa
