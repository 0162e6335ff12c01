/-
  IdBack's walk.
-/
import Derived.Test.YtbodakfgoijeeaaDoorIJ
import Derived.Test.YtbodakfgoijeeaaDoorIG
import Derived.Lib.ConvBytes
namespace Go.Proofs.YtbodakfgoijeeaaDoor
open Go.RowKit Go.Sort Go.Lib
namespace Num
set_option linter.unusedSimpArgs false
set_option linter.unusedVariables false
theorem sid_of' {w W : World} (hg : Good w) (h : Below w.heap.size w W) : Sid w W := ⟨good_keep hg h, h⟩
theorem tx_len {c q n : Nat} (hc : c ≤ 4294967295) (hq : q ≤ 4294967295) (hn : n ≤ 65535) : 1 ≤ (tx c q n).length ∧ (tx c q n).length ≤ 32 := by
  have h1 := dec_len10 (n := c) (by omega)
  have h2 := dec_len10 (n := q) (by omega)
  have h3 := dec_len10 (n := n) (by omega)
  unfold tx
  split
  · simp only [List.length_append, List.length_cons, List.length_nil]; omega
  · simp only [List.length_append, List.length_cons]; omega
/-- []byte of a text of bytes. -/
theorem to_bytes (X : List UInt8) (W : World) : (convert 9 30 (.string (SB X))).run Tryd.prog W = .ok (.slice (some ⟨W.heap.size, 0, none⟩) X.length (grownCap W X.length 0 5)) (bytesWorld W 5 (SB X)) := by
  have h := Lib.run_convert_string_bytes (P := Tryd.prog) W 9 30 5 (SB X) Tryd.underlying9 Tryd.underlying30 Tryd.underlying5
  rw [sb_size] at h
  exact h
theorem bw_cell (W : World) (X : List UInt8) (j : Nat) (hj : j < X.length) : (bytesWorld W 5 (SB X)).cell? ⟨W.heap.size, j, none⟩ = some (.int .u8 (X[j].toNat : Nat)) := by
  rw [bytesWorld_cell W 5 (SB X) j (by rw [sb_size]; exact hj)]
  have : (SB X).data.toList.getD j 0 = X[j] := by rw [sb_list, List.getD, List.getElem?_eq_getElem hj]; rfl
  rw [this]
theorem bw_frz (W : World) (X : List UInt8) (j : Nat) (hj : j < X.length) : (bytesWorld W 5 (SB X)).frozen? ⟨W.heap.size, j, none⟩ = false := by
  have h := bytesWorld_at_new W 5 (SB X)
  have hs : X.length ≤ (bytesCells W 5 (SB X)).size := by
    unfold bytesCells
    have : (SB X).data.size = X.length := by have := sb_size X; exact this
    simp [this]
  simp [World.frozen?, h]
  omega
/-- The bytes behind a store of one of them. -/
theorem set_cells {W : World} {N r : Nat} {X : List UInt8} {ch : UInt8} (hc : ∀ j (hj : j < X.length), W.cell? ⟨N, j, none⟩ = some (.int .u8 (X[j].toNat : Nat))) (hr : r < X.length) :
    ∀ j (hj : j < (X.set r ch).length), (W.setCell ⟨N, r, none⟩ (.int .u8 (ch.toNat : Nat))).cell? ⟨N, j, none⟩ = some (.int .u8 ((X.set r ch)[j].toNat : Nat)) := by
  intro j hj
  rw [List.length_set] at hj
  by_cases e : r = j
  · subst e
    rw [World.cell?_setCell_same _ _ _ (hc r hj)]
    simp
  · rw [World.cell?_setCell_other _ _ _ _ (by first | (simp; done) | (simp; omega)), hc j hj]
    rw [List.getElem_set_ne e]
theorem from_bytes {W : World} {N cap : Nat} {X : List UInt8} (hc : ∀ j (hj : j < X.length), W.cell? ⟨N, j, none⟩ = some (.int .u8 (X[j].toNat : Nat))) :
    (convert 30 9 (.slice (some ⟨N, 0, none⟩) X.length cap)).run Tryd.prog W = .ok (.string (SB X)) W :=
  run_convert_bytes_back (P := Tryd.prog) W 30 9 5 ⟨N, 0, none⟩ cap X Tryd.underlying30 Tryd.underlying5 Tryd.underlying9 (fun j hj => by
    rw [Lib.add_plain, Nat.zero_add]
    exact hc j hj)
set_option maxRecDepth 100000 in
set_option maxHeartbeats 8000000 in
theorem back_law (c q n : Nat) (hc : c ≤ 4294967295) (hq : q ≤ 4294967295) (hn : n ≤ 65535) (S : List UInt8) (hS : S.length ≤ maxLen) (at_ : Nat) (ch : UInt8) (hat : at_ ≤ 255) (w : World) (hg : Good w) : Calls Tryd.prog 3 #[.agg #[.int .u32 c, .int .u32 q, .int .u16 n], .string (SB S), .int .u8 at_, .int .u8 (ch.toNat : Nat)] w fun e w' => e = .returned (.bool true) ∧ Below w.heap.size w w' := by
  obtain ⟨X, hX⟩ : ∃ X, X = tx c q n := ⟨_, rfl⟩
  have lX := tx_len hc hq hn
  rw [← hX] at lX
  have HK := Lib.hid (fun (W : World) (h : Sid w W) => known_any W h.1)
  have HT := Lib.hid (fun (W : World) (h : Sid w W) => show Calls Tryd.prog 7 #[.agg #[.int .u32 c, .int .u32 q, .int .u16 n]] W fun e w' => e = .returned (.string (SB X)) ∧ Below W.heap.size W w' from by rw [hX]; exact text_any c q n hc hq hn W h.1)
  have HI := Lib.hid (fun (W : World) (h : Sid w W) => show Calls Tryd.prog 9 #[.agg #[.int .u32 c, .int .u32 q, .int .u16 n]] W fun e w' => e = .returned (.string (SB X)) ∧ Below W.heap.size W w' from by rw [hX]; exact rtext_any c q n hc hq hn W h.1)
  have HP := Lib.hid (fun (W : World) (h : Sid w W) => show Calls Tryd.prog 8 #[.string (SB X)] W fun e w' => e = .returned (.tuple #[.agg #[.int .u32 c, .int .u32 q, .int .u16 n], .bool true]) ∧ Below W.heap.size W w' from by
    have h := parse_any X (by omega) W h.1
    rw [hX, progId_tx hc hq hn] at h
    simp only at h
    rw [if_pos trivial] at h
    rw [hX]
    exact h)
  have HG := Lib.hid hg
  have H0 := Lib.hid (sid_alloc (sid_start hg) (.cells #[.int .u32 c, .int .u32 q, .int .u16 n] 25))
  have hsz : (SB S).size = S.length := sb_size S
  have HX := Lib.hid lX
  have HAT := Lib.hid hat
  clear hX lX hg hc hq hn hat
  go_enter Tryd.func3, Tryd.ntmps3
  go_wp2_with fail
  go_at_call 6; refine (HK.out _ H0.out).mono ?_; rintro e w1 ⟨rfl, hb1⟩
  have H1 := Lib.hid (sid_step H0.out hb1)
  have R1 := Lib.hid (row_step (row_alloc w #[.int .u32 c, .int .u32 q, .int .u16 n] 25) hb1)
  clear hb1
  by_cases hlen : 60 < S.length
  · have hl : (60 : Int) < S.length := by omega
    go_wp2_with fail
    go_ret
    exact ⟨rfl, H1.out.2⟩
  · have hl : ¬ (60 : Int) < S.length := by omega
    have x0 := row_cell R1.out 0
    have x1 := row_cell R1.out 1
    have x2 := row_cell R1.out 2
    simp only [List.getElem?_toArray, List.getElem?_cons_zero, List.getElem?_cons_succ] at x0 x1 x2
    have xlt := row_lt R1.out
    go_wp2_with fail
    go_at_call 7; refine (HT.out _ H1.out).mono ?_; rintro e w2 ⟨rfl, hb2⟩
    have H2 := Lib.hid (sid_step H1.out hb2)
    have R2 := Lib.hid (row_step R1.out hb2)
    clear hb2 x0 x1 x2 xlt
    go_wp2_with fail
    go_at_call 8; refine (HP.out _ H2.out).mono ?_; rintro e w3 ⟨rfl, hb3⟩
    have H3 := Lib.hid (sid_step H2.out hb3)
    have R3 := Lib.hid (row_step R2.out hb3)
    clear hb3
    have x0 := row_cell R3.out 0
    have x1 := row_cell R3.out 1
    have x2 := row_cell R3.out 2
    simp only [List.getElem?_toArray, List.getElem?_cons_zero, List.getElem?_cons_succ] at x0 x1 x2
    have xlt := row_lt R3.out
    go_wp2_with fail
    go_at_call 9; refine (HI.out _ (sid_alloc H3.out _)).mono ?_; rintro e w4 ⟨rfl, hb4⟩
    have H4 := Lib.hid (sid_step (sid_alloc H3.out _) hb4)
    have R4 := Lib.hid (row_step (row_alloc_step R3.out _) hb4)
    have Q4 := Lib.hid (row_step (row_alloc w3 #[.int .u32 c, .int .u32 q, .int .u16 n] 25) hb4)
    clear hb4 x0 x1 x2 xlt
    have x0 := row_cell R4.out 0
    have x1 := row_cell R4.out 1
    have x2 := row_cell R4.out 2
    have y0 := row_cell Q4.out 0
    have y1 := row_cell Q4.out 1
    have y2 := row_cell Q4.out 2
    simp only [List.getElem?_toArray, List.getElem?_cons_zero, List.getElem?_cons_succ] at x0 x1 x2 y0 y1 y2
    have hcv := fun W => to_bytes X W
    obtain ⟨r, hr⟩ : ∃ r : Nat, r = at_ % X.length := ⟨_, rfl⟩
    have hrl : r < X.length := by rw [hr]; exact Nat.mod_lt _ (by have := HX.out; omega)
    have hrr : (wrap64 (at_ : Int)).tmod (X.length : Int) = (r : Int) := by
      have h1 : wrap64 (at_ : Int) = at_ := by have := HAT.out; unfold wrap64; omega
      rw [h1, Int.tmod_eq_emod_of_nonneg (by omega), hr]
      exact (Int.natCast_emod at_ X.length).symm
    have hr2 : (r : Int) < X.length := by omega
    have hX0 : ((X.length : Int) == 0) = false := by rw [beq_eq_false_iff_ne]; have := HX.out; omega
    have hX1 : ¬ (X.length : Int) = 0 := by have := HX.out; omega
    have bc := bw_cell w4 X r hrl
    have bf := bw_frz w4 X r hrl
    have hb5 : Below w4.heap.size w4 ((bytesWorld w4 5 (SB X)).setCell ⟨w4.heap.size, r, none⟩ (.int .u8 (ch.toNat : Nat))) := (Lib.bytesWorld_below w4 5 (SB X)).setCell (p := ⟨w4.heap.size, r, none⟩) (Nat.le_refl _) _
    have H5 := Lib.hid (sid_step H4.out hb5)
    have hback : ∀ cap, (convert 30 9 (.slice (some ⟨w4.heap.size, 0, none⟩) X.length cap)).run Tryd.prog ((bytesWorld w4 5 (SB X)).setCell ⟨w4.heap.size, r, none⟩ (.int .u8 (ch.toNat : Nat))) = .ok (.string (SB (X.set r ch))) ((bytesWorld w4 5 (SB X)).setCell ⟨w4.heap.size, r, none⟩ (.int .u8 (ch.toNat : Nat))) := fun cap => by
      have h := from_bytes (cap := cap) (set_cells (ch := ch) (fun j hj => bw_cell w4 X j hj) hrl)
      rw [List.length_set] at h
      exact h
    have hXl := HX.out
    have E1 : ∀ W, (Op.stringOp .add (SB [48]) (SB X)).run Tryd.prog W = .ok (.string (SB (48 :: X))) W := fun W => sb_plus [48] X (by simp only [List.length_cons, List.length_nil]; omega) W
    have E2 := fun W => sb_plus X [48] (by simp only [List.length_cons, List.length_nil]; omega) W
    have E3 := fun W => sb_plus X [46, 48] (by simp only [List.length_cons, List.length_nil]; omega) W
    rw [show SB [48] = ⟨#[48]⟩ from rfl] at E1 E2
    rw [show SB [46, 48] = ⟨#[46, 48]⟩ from rfl] at E3
    have HL5 := Lib.hid (show (X.set r ch).length ≤ 1000 ∧ (48 :: X).length ≤ 1000 ∧ (X ++ [48]).length ≤ 1000 ∧ (X ++ [46, 48]).length ≤ 1000 ∧ S.length ≤ 1000 by simp only [List.length_set, List.length_cons, List.length_append, List.length_nil]; omega)
    clear hr hb5 hXl
    have HROW := Lib.hid (row_alloc ((bytesWorld w4 5 (SB X)).setCell ⟨w4.heap.size, r, none⟩ (.int .u8 (ch.toNat : Nat))) #[.string (SB S), .string (SB (X.set r ch)), .string (SB (48 :: X)), .string (SB (X ++ [48])), .string (SB (X ++ [46, 48]))] 9)
    go_wp2_with fail
    go_loopw [65] (fun i wr => ∃ k : Nat, k ≤ 5 ∧ i = .int .i64 k ∧ Sid w wr ∧ wr.heap[(bytesWorld w4 5 (SB X)).heap.size]? = some (.cells #[.string (SB S), .string (SB (X.set r ch)), .string (SB (48 :: X)), .string (SB (X ++ [48])), .string (SB (X ++ [46, 48]))] 9 (0, 0))) (fun i _ => 5 - (RowKit.intOf i).toNat)
    case atStart => exact ⟨0, by omega, rfl, sid_alloc H5.out _, by have h := HROW.out; simp only [World.size_setCell] at h; exact h⟩
    case round =>
      obtain ⟨k, hk, rfl, hsid, hrow⟩ := hrel
      have H6 := Lib.hid hsid
      have R6 := Lib.hid hrow
      clear hsid hrow x0 x1 x2 y0 y1 y2 bc bf hback E1 E2 E3 hcv hrr hr2 hX0 hX1
      by_cases hlt : k < 5
      · obtain ⟨Y, lY, hv⟩ : ∃ Y : List UInt8, Y.length ≤ 1000 ∧ wr.cell? ⟨(bytesWorld w4 5 (SB X)).heap.size, k, none⟩ = some (.string (SB Y)) := by
          obtain ⟨l1, l2, l3, l4, l5⟩ := HL5.out
          rcases (show k = 0 ∨ k = 1 ∨ k = 2 ∨ k = 3 ∨ k = 4 by omega) with rfl | rfl | rfl | rfl | rfl
          · exact ⟨S, l5, row_cell R6.out 0⟩
          · exact ⟨_, l1, row_cell R6.out 1⟩
          · exact ⟨_, l2, row_cell R6.out 2⟩
          · exact ⟨_, l3, row_cell R6.out 3⟩
          · exact ⟨_, l4, row_cell R6.out 4⟩
        have hlt' : (k : Int) < 5 := by omega
        obtain ⟨c', q', n', hp⟩ : ∃ c' q' n', progId Y = (c', q', n') := ⟨_, _, _, rfl⟩
        by_cases h : tx c' q' n' = Y
        · have HPY := Lib.hid (show ∀ W : World, Sid w W → Calls Tryd.prog 8 #[.string (SB Y)] W fun e w' => e = .returned (.tuple #[.agg #[.int .u32 (c' : Nat), .int .u32 (q' : Nat), .int .u16 (n' : Nat)], .bool true]) ∧ Below W.heap.size W w' from fun W hw => by have h0 := parse_any Y (by omega) W hw.1; rw [hp] at h0; simp only at h0; rw [if_pos h] at h0; exact h0)
          have HIY := Lib.hid (show ∀ W : World, Sid w W → Calls Tryd.prog 10 #[.string (SB Y)] W fun e w' => e = .returned (.tuple #[.agg #[.int .u32 (c' : Nat), .int .u32 (q' : Nat), .int .u16 (n' : Nat)], .bool true]) ∧ Below W.heap.size W w' from fun W hw => by have h0 := rparse_any Y (by omega) W hw.1; rw [prog_ref, hp] at h0; simp only at h0; rw [if_pos h] at h0; exact h0)
          clear h hp lY
          go_wp2_with fail
          go_at_call 8; refine (HPY.out _ H6.out).mono ?_; rintro e v1 ⟨rfl, hb1⟩
          have G1 := Lib.hid (sid_step H6.out hb1)
          have K1 := Lib.hid (row_step R6.out hb1)
          clear hb1 hv
          go_wp2_with fail
          go_at_call 10; refine (HIY.out _ (sid_alloc G1.out _)).mono ?_; rintro e v2 ⟨rfl, hb2⟩
          have G2 := Lib.hid (sid_alloc (sid_step (sid_alloc G1.out _) hb2) (.cells #[.int .u32 (c' : Nat), .int .u32 (q' : Nat), .int .u16 (n' : Nat)] 25))
          have K2 := Lib.hid (row_alloc_step (row_step (row_alloc_step K1.out _) hb2) (.cells #[.int .u32 (c' : Nat), .int .u32 (q' : Nat), .int .u16 (n' : Nat)] 25))
          have Q2 := Lib.hid (row_step (row_alloc v1 #[.int .u32 (c' : Nat), .int .u32 (q' : Nat), .int .u16 (n' : Nat)] 25) hb2)
          clear hb2
          have x0 := row_cell Q2.out 0
          have x1 := row_cell Q2.out 1
          have x2 := row_cell Q2.out 2
          simp only [List.getElem?_toArray, List.getElem?_cons_zero, List.getElem?_cons_succ] at x0 x1 x2
          have xlt := row_lt Q2.out
          go_wp2_with fail
          go_round
          case rel => exact ⟨k + 1, by omega, by first | rfl | go_num, G2.out, K2.out⟩
          case measure => simp [RowKit.intOf]; omega
        · have HPY := Lib.hid (show ∀ W : World, Sid w W → Calls Tryd.prog 8 #[.string (SB Y)] W fun e w' => e = .returned (.tuple #[.agg #[.int .u32 0, .int .u32 0, .int .u16 0], .bool false]) ∧ Below W.heap.size W w' from fun W hw => by have h0 := parse_any Y (by omega) W hw.1; rw [hp] at h0; simp only at h0; rw [if_neg h] at h0; exact h0)
          have HIY := Lib.hid (show ∀ W : World, Sid w W → Calls Tryd.prog 10 #[.string (SB Y)] W fun e w' => e = .returned (.tuple #[.agg #[.int .u32 0, .int .u32 0, .int .u16 0], .bool false]) ∧ Below W.heap.size W w' from fun W hw => by have h0 := rparse_any Y (by omega) W hw.1; rw [prog_ref, hp] at h0; simp only at h0; rw [if_neg h] at h0; exact h0)
          clear h hp lY
          go_wp2_with fail
          go_at_call 8; refine (HPY.out _ H6.out).mono ?_; rintro e v1 ⟨rfl, hb1⟩
          have G1 := Lib.hid (sid_step H6.out hb1)
          have K1 := Lib.hid (row_step R6.out hb1)
          clear hb1 hv
          go_wp2_with fail
          go_at_call 10; refine (HIY.out _ (sid_alloc G1.out _)).mono ?_; rintro e v2 ⟨rfl, hb2⟩
          have G2 := Lib.hid (sid_alloc (sid_step (sid_alloc G1.out _) hb2) (.cells #[.int .u32 0, .int .u32 0, .int .u16 0] 25))
          have K2 := Lib.hid (row_alloc_step (row_step (row_alloc_step K1.out _) hb2) (.cells #[.int .u32 0, .int .u32 0, .int .u16 0] 25))
          have Q2 := Lib.hid (row_step (row_alloc v1 #[.int .u32 0, .int .u32 0, .int .u16 0] 25) hb2)
          clear hb2
          have x0 := row_cell Q2.out 0
          have x1 := row_cell Q2.out 1
          have x2 := row_cell Q2.out 2
          simp only [List.getElem?_toArray, List.getElem?_cons_zero, List.getElem?_cons_succ] at x0 x1 x2
          have xlt := row_lt Q2.out
          go_wp2_with fail
          go_round
          case rel => exact ⟨k + 1, by omega, by first | rfl | go_num, G2.out, K2.out⟩
          case measure => simp [RowKit.intOf]; omega
      · have hlt' : ¬ (k : Int) < 5 := by omega
        go_wp2
        go_ret
        exact ⟨rfl, H6.out.2⟩
end Num
end Go.Proofs.YtbodakfgoijeeaaDoor
