/-
  GroupFull: the walk.
-/
import Derived.Test.YtbfnghbfilahnaaKn0
import Derived.Test.YtbfnghbfilahnaaKo0
import Derived.Test.YtbfnghbfilahnaaAH
namespace Go.Proofs.Ytbfnghbfilahnaa
open Go.RowKit
namespace Num
open Ints
set_option linter.unusedSimpArgs false
set_option linter.unusedVariables false
theorem conv1G {W : World} {g cap : Nat} {u : Int} {b : UInt8} (hu : (b.toNat : Int) = u) (h : W.heap[g]? = some (.cells #[.int .u8 u] 5 (0, 0))) : (convert 54 9 (.slice (some ⟨g, 0, none⟩) 1 cap)).run Try.prog W = .ok (.string ⟨#[b]⟩) W :=
  run_convert_bytes_back (P := Try.prog) W 54 9 5 ⟨g, 0, none⟩ cap [b] Try.underlying54 Try.underlying5 Try.underlying9 (fun j hj => by
    have hj' : j = 0 := by simp at hj; omega
    subst hj'
    rw [Addr.add_lit, Nat.zero_add, row_cell h 0]
    show some (Value.int .u8 u) = some (Value.int .u8 (b.toNat : Int))
    rw [hu])
theorem dir_lt {w : World} {tb mb : Nat} {L : List Gp} (h : DirG w tb mb L) : tb < w.heap.size ∧ mb < w.heap.size := by
  obtain ⟨h1, es, ck, h2, _⟩ := h
  exact ⟨row_lt h1, row_lt h2⟩
theorem nm_ok (b : UInt8) : 0 < (nmB b).size ∧ (nmB b).size ≤ 32 ∧ (nmB b).size ≤ 256 ∧ ((nmB b).toList == [103, 114, 111, 117, 112, 115]) = false := ⟨(by show 0 < 2; decide), (by show 2 ≤ 32; decide), (by show 2 ≤ 256; decide), by
  rw [ByteArray.toList_eq]
  show ([103, b] == _) = false
  simp⟩
theorem one_txt {a : ByteArray} (h : a.size ≤ 256) : ∀ S ∈ [a], S.size ≤ 256 := fun S hS => by
  simp only [List.mem_cons, List.not_mem_nil, or_false] at hS
  rcases hS with rfl; assumption
theorem two_txt {a b : ByteArray} (h : a.size ≤ 256) (h2 : b.size ≤ 256) : ∀ S ∈ [a, b], S.size ≤ 256 := fun S hS => by
  simp only [List.mem_cons, List.not_mem_nil, or_false] at hS
  rcases hS with rfl | rfl <;> assumption
/-- What a create beyond the room or within it makes. -/
theorem cre_i {i : Nat} (hi : i < 18) (W : World) (tb mb : Nat) (hW : DirG W tb mb (grpL (min i 16))) : Calls Try.prog 25 #[.pointer (some ⟨tb, 0, none⟩), .string (nmB (bG i)), .string (⟨#[113, 117, 101, 117, 101]⟩ : ByteArray), .int .i64 1] W fun e w' => e = .returned (.int .i64 (if 16 ≤ i then 33 else 0)) ∧ DirG w' tb mb (grpL (min (i + 1) 16)) ∧ But mb W w' := by
  by_cases h : 16 ≤ i
  · rw [if_pos h, show min (i + 1) 16 = 16 by omega]
    rw [show min i 16 = 16 by omega] at hW
    exact (create_full W tb mb (grpL 16) (nmB (bG i)) _ 1 hW (grp_full i hi h) (grp_len 16)).mono (fun e w2 h => ⟨h.1, dir_step hW h.2, but_bel h.2⟩)
  · rw [if_neg h, show min (i + 1) 16 = i + 1 by omega, grp_succ]
    rw [show min i 16 = i by omega] at hW
    exact create_new W tb mb (grpL i) (nmB (bG i)) _ 1 hW (grp_new i (by omega)) (by rw [grp_len]; omega)
set_option maxRecDepth 100000 in
set_option maxHeartbeats 16000000 in
theorem full_in (a b : Nat) (ha : a < 256) (hb : b < 256) (w : World) : Calls Try.prog 4 #[.int .u8 a, .int .u8 b] w fun e w' => e = .returned (.bool true) ∧ Below w.heap.size w w' := by
  obtain ⟨q, hq⟩ : ∃ q, a % 5 = q := ⟨_, rfl⟩
  obtain ⟨c, hc⟩ : ∃ c, b % 14 = c := ⟨_, rfl⟩
  have hqT : (a : Int).tmod 5 = (q : Int) := by rw [Int.tmod_eq_emod_of_nonneg (by omega)]; omega
  have hcT : (b : Int).tmod 14 = (c : Int) := by rw [Int.tmod_eq_emod_of_nonneg (by omega)]; omega
  have hq5 : q < 5 := by omega
  have hc14 : c < 14 := by omega
  clear hq hc ha hb
  go_enter Try.func4, Try.ntmps4
  go_wp2_with fail
  go_at_call 5; refine (known17 _).mono ?_; rintro e w0 ⟨rfl, hb0⟩
  have HB0 := Lib.hid hb0
  clear hb0
  go_wp2_with fail
  go_at_call 6; refine (new_dir _).mono ?_; rintro e w1 ⟨tb, mb, rfl, hmb0, htb0, hd1, hb1⟩
  have hmb : w.heap.size ≤ mb := Nat.le_trans HB0.out.size hmb0
  have HD := Lib.hid (show DirG w1 tb mb (grpL (min 0 16)) from hd1)
  have HB := Lib.hid (show Below w.heap.size w w1 from Below.trans HB0.out (hb1.mono HB0.out.size))
  clear hd1 hb1 HB0 htb0 hmb0
  go_wp2_with fail
  go_loopw [7] (fun iv wr => ∃ i : Nat, i ≤ 14 + q ∧ iv = .int .i64 i ∧ DirG wr tb mb (grpL (min i 16)) ∧ Below w.heap.size w wr) (fun iv _ => 14 + q - (intOf iv).toNat)
  case atStart => exact ⟨0, Nat.zero_le _, rfl, HD.out, HB.out⟩
  case round =>
    clear HD HB
    obtain ⟨i, hi, rfl, hd, hbel⟩ := hrel
    have HD := Lib.hid hd
    have HB := Lib.hid hbel
    clear hd hbel
    by_cases hlt : i < 14 + q
    · have hi18 : i < 18 := by omega
      have hiI : (i : Int) < 14 + (q : Int) := by omega
      have hw8 : IntKind.u8.wrap (i : Int) = (i : Int) := by rw [IntKind.wrap_u8]; omega
      have hw9 : IntKind.u8.wrap (97 + (i : Int)) = 97 + (i : Int) := by rw [IntKind.wrap_u8]; omega
      have HNM := Lib.hid (nm_ok (bG i))
      obtain ⟨bx, hbx⟩ : ∃ bx, bG i = bx := ⟨_, rfl⟩
      have hbn : (bx.toNat : Int) = 97 + (i : Int) := by rw [← hbx]; exact bG_nat (by omega)
      have HCR := Lib.hid (fun W hW => cre_i hi18 W tb mb hW)
      rw [hbx] at HNM HCR
      have HBX := Lib.hid hbx
      clear hbx
      obtain ⟨b1, hbk1⟩ : ∃ g, wr.heap.size = g := ⟨_, rfl⟩
      obtain ⟨y1, hy1⟩ : ∃ W, wr.alloc (.cells #[.int .u8 (97 + (i : Int))] 5) = W := ⟨_, rfl⟩
      have hrw1 : y1.heap[b1]? = some (.cells #[.int .u8 (97 + (i : Int))] 5 (0, 0)) := by rw [← hy1, ← hbk1]; exact row_alloc wr _ _
      have hb1 : Below wr.heap.size wr y1 := by rw [← hy1]; exact bel_alloc (Below.refl _ _) _
      have HRW1 := Lib.hid hrw1
      replace HD := Lib.hid (dir_step HD.out hb1)
      replace HB := Lib.hid (bel_step HB.out hb1)
      clear hb1 hrw1
      have hcv := conv1G (cap := 1) hbn HRW1.out
      go_wp2_with fail
      go_at_call 17; refine (text_ref_any (nmB bx) _).mono ?_; rintro e x2 ⟨rfl, hb2⟩
      replace HD := Lib.hid (dir_step HD.out hb2)
      replace HB := Lib.hid (bel_step HB.out hb2)
      clear hb2
      clear hcv hy1
      go_wp2_with fail
      go_at_call 17; refine (text_ref_any (⟨#[113, 117, 101, 117, 101]⟩ : ByteArray) _).mono ?_; rintro e x3 ⟨rfl, hb3⟩
      replace HD := Lib.hid (dir_step HD.out hb3)
      replace HB := Lib.hid (bel_step HB.out hb3)
      clear hb3
      go_wp2_with fail
      go_at_call 17; refine (text_ref_any (⟨#[119, 97, 114, 109]⟩ : ByteArray) _).mono ?_; rintro e x4 ⟨rfl, hb4⟩
      replace HD := Lib.hid (dir_step HD.out hb4)
      replace HB := Lib.hid (bel_step HB.out hb4)
      clear hb4
      obtain ⟨b5, hbk5⟩ : ∃ g, x4.heap.size = g := ⟨_, rfl⟩
      obtain ⟨y5, hy5⟩ : ∃ W, x4.alloc (.cells #[.int .i64 3, .int .i64 0, .float .f64 0, .string (nmB bx), .slice none 0 0, .int .i64 3, .int .i64 0, .float .f64 0, .string (⟨#[113, 117, 101, 117, 101]⟩ : ByteArray), .slice none 0 0, .int .i64 3, .int .i64 0, .float .f64 0, .string (⟨#[119, 97, 114, 109]⟩ : ByteArray), .slice none 0 0] 39) = W := ⟨_, rfl⟩
      have hrw5 : y5.heap[b5]? = some (.cells #[.int .i64 3, .int .i64 0, .float .f64 0, .string (nmB bx), .slice none 0 0, .int .i64 3, .int .i64 0, .float .f64 0, .string (⟨#[113, 117, 101, 117, 101]⟩ : ByteArray), .slice none 0 0, .int .i64 3, .int .i64 0, .float .f64 0, .string (⟨#[119, 97, 114, 109]⟩ : ByteArray), .slice none 0 0] 39 (0, 0)) := by rw [← hy5, ← hbk5]; exact row_alloc x4 _ _
      have hb5 : Below x4.heap.size x4 y5 := by rw [← hy5]; exact bel_alloc (Below.refl _ _) _
      have HRW5 := Lib.hid hrw5
      replace HD := Lib.hid (dir_step HD.out hb5)
      replace HB := Lib.hid (bel_step HB.out hb5)
      clear hb5 hrw5
      obtain ⟨z, hz⟩ : ∃ z : Int, (if 16 ≤ i then (33 : Int) else 0) = z := ⟨_, rfl⟩
      rw [hz] at HCR
      go_wp2_with fail
      clear hy5
      go_at_call 11; refine (do_create y5 tb mb (grpL (min i 16)) (grpL (min (i + 1) 16)) z b5 (nmB bx) (⟨#[113, 117, 101, 117, 101]⟩ : ByteArray) (⟨#[119, 97, 114, 109]⟩ : ByteArray) HD.out HRW5.out (small_two HNM.out.2.2.1 (by decide) (by decide)) HNM.out.1 HNM.out.2.1 HNM.out.2.2.2 (by decide +kernel) (by decide +kernel) ?hcal).mono ?_
      case hcal =>
        intro W hW
        have h := HCR.out W hW
        exact h
      rintro e x5 ⟨rfl, hd5, hbt5⟩
      replace HD := Lib.hid hd5
      replace HB := Lib.hid (Below.trans HB.out (but_below hbt5 hmb HB.out.size))
      clear hd5 hbt5 HRW5 hbk5
      obtain ⟨g6, hg6⟩ : ∃ g, x5.heap.size = g := ⟨_, rfl⟩
      obtain ⟨z6, hz6⟩ : ∃ W, x5.alloc (.cells #[.int .i64 0, .int .i64 0, .float .f64 0, .string ⟨#[]⟩, .slice none 0 0] 39) = W := ⟨_, rfl⟩
      have hV6 : z6.heap[g6]? = some (.cells #[.int .i64 0, .int .i64 0, .float .f64 0, .string ⟨#[]⟩, .slice none 0 0] 39 (0, 0)) := by rw [← hz6, ← hg6]; exact row_alloc x5 _ _
      obtain ⟨y6, hy6⟩ : ∃ y, setV z6 g6 (.int .i64 0) (.int .i64 0) (.float .f64 0) (.string ⟨#[]⟩) (.slice none 0 0) = y := ⟨_, rfl⟩
      have hbY6 : Below x5.heap.size x5 y6 := by rw [← hy6, hg6]; exact setV_below (by rw [← hz6, ← hg6]; exact bel_alloc (Below.refl _ _) _) (Nat.le_refl _) (.int .i64 0) (.int .i64 0) (.float .f64 0) (.string ⟨#[]⟩) (.slice none 0 0)
      have hyV6 : y6.heap[g6]? = some (.cells #[.int .i64 0, .int .i64 0, .float .f64 0, .string ⟨#[]⟩, .slice none 0 0] 39 (0, 0)) := by rw [← hy6]; exact setV_at hV6 (.int .i64 0) (.int .i64 0) (.float .f64 0) (.string ⟨#[]⟩) (.slice none 0 0)
      have v6_0 := row_cell hV6 0; have v6_1 := row_cell hV6 1; have v6_2 := row_cell hV6 2; have v6_3 := row_cell hV6 3; have v6_4 := row_cell hV6 4
      simp only [List.getElem?_toArray, List.getElem?_cons_zero, List.getElem?_cons_succ] at v6_0 v6_1 v6_2 v6_3 v6_4
      have vf6 := fun o => row_frz hV6 o
      have HY6 := Lib.hid (show (((((z6.setCell ⟨g6, 0, none⟩ (.int .i64 0)).setCell ⟨g6, 1, none⟩ (.int .i64 0)).setCell ⟨g6, 2, none⟩ (.float .f64 0)).setCell ⟨g6, 3, none⟩ (.string ⟨#[]⟩)).setCell ⟨g6, 4, none⟩ (.slice none 0 0)) = y6 from hy6)
      replace HD := Lib.hid (dir_step HD.out hbY6)
      replace HB := Lib.hid (bel_step HB.out hbY6)
      clear hV6 hy6 hbY6 hyV6
      go_upto_region 9 with fail
      clear hz6
      rw [HY6.out]
      clear v6_0 v6_1 v6_2 v6_3 v6_4 vf6 HY6
      by_cases h16 : 16 ≤ i
      · have h16I : (16 : Int) ≤ (i : Int) := by omega
        rw [if_pos h16] at hz
        subst hz
        go_wp2
        go_roundw
        case rel => exact ⟨i + 1, by omega, by go_num, HD.out, HB.out⟩
        case measure => simp [intOf]; omega
      · have h16I : ¬ ((16 : Int) ≤ (i : Int)) := by omega
        rw [if_neg h16] at hz
        subst hz
        go_wp2
        go_roundw
        case rel => exact ⟨i + 1, by omega, by go_num, HD.out, HB.out⟩
        case measure => simp [intOf]; omega
    · obtain rfl : i = 14 + q := by omega
      have hiI : ¬ (((14 + q : Nat) : Int) < 14 + (q : Int)) := by omega
      have hiI2 : ¬ ((14 : Int) + (q : Int) < 14 + (q : Int)) := by omega
      obtain ⟨m, hm⟩ : ∃ m, min (14 + q) 16 = m := ⟨_, rfl⟩
      rw [hm] at HD
      obtain ⟨g1, g2, g3, g4, g5, g6⟩ := grp_all (m := m) (c := c) (by omega) (by omega) hc14
      have hw9 : IntKind.u8.wrap (97 + (c : Int)) = 97 + (c : Int) := by rw [IntKind.wrap_u8]; omega
      have HNM := Lib.hid (nm_ok (bG c))
      have hbn0 : ((bG c).toNat : Int) = 97 + (c : Int) := bG_nat (by omega)
      unfold grpS gr2 at g2
      unfold grpD grpS gr2 at g3 g4
      unfold grpN gr3 grpD grpS gr2 at g5 g6
      unfold gr1 at g1
      obtain ⟨bx, hbx⟩ : ∃ bx, bG c = bx := ⟨_, rfl⟩
      rw [hbx] at HNM hbn0 g1 g2 g3 g4 g5 g6
      have hbn := hbn0
      obtain ⟨LS, hLS⟩ : ∃ L, setG (grpL m) (⟨nmB bx, (⟨#[113, 117, 101, 117, 101]⟩ : ByteArray), 2, 2⟩ : Gp) = L := ⟨_, rfl⟩
      rw [hLS] at g2 g3 g4 g5 g6
      obtain ⟨LD, hLD⟩ : ∃ L, LS.eraseP (fun g => bq (nmB bx) g.n) = L := ⟨_, rfl⟩
      rw [hLD] at g3 g4 g5 g6
      obtain ⟨LN, hLN⟩ : ∃ L, LD ++ [(⟨nmB bx, (⟨#[116, 97, 98, 108, 101]⟩ : ByteArray), 0, 1⟩ : Gp)] = L := ⟨_, rfl⟩
      rw [hLN] at g5 g6
      have HG := Lib.hid (And.intro g1 (And.intro g2 (And.intro g3 (And.intro g4 (And.intro g5 g6)))))
      have HLS := Lib.hid hLS
      have HLD := Lib.hid hLD
      have HLN := Lib.hid hLN
      have hm17 : m < 17 := by omega
      have hm14 : 14 ≤ m := by omega
      have HM := Lib.hid hm
      clear g1 g2 g3 g4 g5 g6 hLS hLD hLN hm hbx hbn0
      obtain ⟨b1, hbk1⟩ : ∃ g, wr.heap.size = g := ⟨_, rfl⟩
      obtain ⟨y1, hy1⟩ : ∃ W, wr.alloc (.cells #[.int .u8 (97 + (c : Int))] 5) = W := ⟨_, rfl⟩
      have hrw1 : y1.heap[b1]? = some (.cells #[.int .u8 (97 + (c : Int))] 5 (0, 0)) := by rw [← hy1, ← hbk1]; exact row_alloc wr _ _
      have hb1 : Below wr.heap.size wr y1 := by rw [← hy1]; exact bel_alloc (Below.refl _ _) _
      have HRW1 := Lib.hid hrw1
      replace HD := Lib.hid (dir_step HD.out hb1)
      replace HB := Lib.hid (bel_step HB.out hb1)
      clear hb1 hrw1
      have hcv := conv1G (cap := 1) hbn HRW1.out
      go_wp2_with fail
      go_at_call 17; refine (text_ref_any (nmB bx) _).mono ?_; rintro e x2 ⟨rfl, hb2⟩
      replace HD := Lib.hid (dir_step HD.out hb2)
      replace HB := Lib.hid (bel_step HB.out hb2)
      clear hb2
      clear hcv hy1
      obtain ⟨g3, hg3⟩ : ∃ g, x2.heap.size = g := ⟨_, rfl⟩
      obtain ⟨z3, hz3⟩ : ∃ W, x2.alloc (.cells #[.int .i64 0, .int .i64 0, .float .f64 0, .string ⟨#[]⟩, .slice none 0 0] 39) = W := ⟨_, rfl⟩
      have hV3 : z3.heap[g3]? = some (.cells #[.int .i64 0, .int .i64 0, .float .f64 0, .string ⟨#[]⟩, .slice none 0 0] 39 (0, 0)) := by rw [← hz3, ← hg3]; exact row_alloc x2 _ _
      obtain ⟨y3, hy3⟩ : ∃ y, setV z3 g3 (.int .i64 3) (.int .i64 0) (.float .f64 0) (.string (nmB bx)) (.slice none 0 0) = y := ⟨_, rfl⟩
      have hbY3 : Below x2.heap.size x2 y3 := by rw [← hy3, hg3]; exact setV_below (by rw [← hz3, ← hg3]; exact bel_alloc (Below.refl _ _) _) (Nat.le_refl _) (.int .i64 3) (.int .i64 0) (.float .f64 0) (.string (nmB bx)) (.slice none 0 0)
      have hyV3 : y3.heap[g3]? = some (.cells #[.int .i64 3, .int .i64 0, .float .f64 0, .string (nmB bx), .slice none 0 0] 39 (0, 0)) := by rw [← hy3]; exact setV_at hV3 (.int .i64 3) (.int .i64 0) (.float .f64 0) (.string (nmB bx)) (.slice none 0 0)
      have v3_0 := row_cell hV3 0; have v3_1 := row_cell hV3 1; have v3_2 := row_cell hV3 2; have v3_3 := row_cell hV3 3; have v3_4 := row_cell hV3 4
      simp only [List.getElem?_toArray, List.getElem?_cons_zero, List.getElem?_cons_succ] at v3_0 v3_1 v3_2 v3_3 v3_4
      have vf3 := fun o => row_frz hV3 o
      have HY3 := Lib.hid (show (((((z3.setCell ⟨g3, 0, none⟩ (.int .i64 3)).setCell ⟨g3, 1, none⟩ (.int .i64 0)).setCell ⟨g3, 2, none⟩ (.float .f64 0)).setCell ⟨g3, 3, none⟩ (.string (nmB bx))).setCell ⟨g3, 4, none⟩ (.slice none 0 0)) = y3 from hy3)
      replace HD := Lib.hid (dir_step HD.out hbY3)
      replace HB := Lib.hid (bel_step HB.out hbY3)
      have HN := Lib.hid hyV3
      clear hV3 hy3 hbY3 hyV3
      go_upto_region 15 with fail
      clear hz3
      rw [HY3.out]
      clear v3_0 v3_1 v3_2 v3_3 v3_4 vf3 HY3
      have hdr : Below y3.heap.size y3 y3.drew := Below.drew (Below.refl _ _)
      replace HD := Lib.hid (dir_step HD.out hdr)
      replace HN := Lib.hid (row_step HN.out hdr)
      replace HB := Lib.hid (bel_step HB.out hdr)
      clear hdr
      have hnr := HN.out
      have a0 := row_cell hnr 0; have a1 := row_cell hnr 1; have a2 := row_cell hnr 2; have a3 := row_cell hnr 3; have a4 := row_cell hnr 4
      simp only [List.getElem?_toArray, List.getElem?_cons_zero, List.getElem?_cons_succ] at a0 a1 a2 a3 a4
      refine wp_region_held_drew (S := (fun z => z.cell? ⟨g3, 0, none⟩ = some (.int .i64 3) ∧ z.cell? ⟨g3, 1, none⟩ = some (.int .i64 0) ∧ z.cell? ⟨g3, 2, none⟩ = some (.float .f64 0) ∧ z.cell? ⟨g3, 3, none⟩ = some (.string (nmB bx)) ∧ z.cell? ⟨g3, 4, none⟩ = some (.slice none 0 0))) (by kernel_rfl) ?_ (fun hHeld => ?_)
      · exact ⟨a0, a1, a2, a3, a4⟩
      revert HD HN HB hHeld hnr a0 a1 a2 a3 a4
      generalize y3.drew = X0
      intro HD HN HB hnr a0 a1 a2 a3 a4 hHeld
      clear hnr
      refine wpAnyH_take (i := 0) (oi := ?_) (v := ?_) ?hiq0 (by kernel_rfl) ?hfq0 ?hrq0 ?hQq0 ?hyq0 (by assumption) ?restq0
      case hiq0 => (simp only [List.getElem?_toArray, List.getElem?_cons_zero, List.getElem?_cons_succ]; rfl)
      case hfq0 => kernel_rfl
      case hrq0 => kernel_rfl
      case hyq0 => (refine Or.inl ⟨by rfl, ?_⟩; intro wS hSw; (try dsimp only at hSw); go_simp; (try with_reducible rfl))
      case hQq0 => exact fun _ _ _ h => h
      (try simp only [Act.put, List.setIfInBounds_toArray, List.set_cons_zero, List.set_cons_succ])
      refine wpAnyH_take (i := 1) (oi := ?_) (v := ?_) ?hiq1 (by kernel_rfl) ?hfq1 ?hrq1 ?hQq1 ?hyq1 (by assumption) ?restq1
      case hiq1 => (simp only [List.getElem?_toArray, List.getElem?_cons_zero, List.getElem?_cons_succ]; rfl)
      case hfq1 => kernel_rfl
      case hrq1 => kernel_rfl
      case hyq1 => (refine Or.inl ⟨by rfl, ?_⟩; intro wS hSw; (try dsimp only at hSw); go_simp; (try with_reducible rfl))
      case hQq1 => exact fun _ _ _ h => h
      (try simp only [Act.put, List.setIfInBounds_toArray, List.set_cons_zero, List.set_cons_succ])
      refine wpAnyH_ready (rs := [2]) (by kernel_rfl) (by simp) ?_
      refine AllReadyH.cons (o := ?_) ?hosc2 ?hstsc2 AllReadyH.nil
      case hosc2 => (simp only [List.getElem?_toArray, List.getElem?_cons_zero, List.getElem?_cons_succ]; rfl)
      intro K hK
      go_simp
      go_at_call 17; refine (text_ref_any (⟨#[99, 111, 108, 100]⟩ : ByteArray) _).mono ?_; rintro e t1 ⟨rfl, hbt1⟩; replace HD := Lib.hid (dir_step HD.out hbt1); replace HN := Lib.hid (row_step HN.out hbt1); replace HB := Lib.hid (bel_step HB.out hbt1); have hnc := HN.out; have c0 := row_cell hnc 0; have c1 := row_cell hnc 1; have c2 := row_cell hnc 2; have c3 := row_cell hnc 3; have c4 := row_cell hnc 4; simp only [List.getElem?_toArray, List.getElem?_cons_zero, List.getElem?_cons_succ] at c0 c1 c2 c3 c4
      go_wp2_with fail
      refine hK.out _ _ ?hssc2 (fun hHeld => ?_)
      case hssc2 => exact ⟨c0, c1, c2, c3, c4⟩
      clear hK K
      (try simp only [Act.put, List.setIfInBounds_toArray, List.set_cons_zero, List.set_cons_succ])
      obtain ⟨b4, hbk4⟩ : ∃ g, t1.heap.size = g := ⟨_, rfl⟩
      obtain ⟨y4, hy4⟩ : ∃ W, t1.alloc (.cells #[.int .i64 3, .int .i64 0, .float .f64 0, .string (nmB bx), .slice none 0 0, .int .i64 3, .int .i64 0, .float .f64 0, .string (⟨#[99, 111, 108, 100]⟩ : ByteArray), .slice none 0 0] 39) = W := ⟨_, rfl⟩
      have hrw4 : y4.heap[b4]? = some (.cells #[.int .i64 3, .int .i64 0, .float .f64 0, .string (nmB bx), .slice none 0 0, .int .i64 3, .int .i64 0, .float .f64 0, .string (⟨#[99, 111, 108, 100]⟩ : ByteArray), .slice none 0 0] 39 (0, 0)) := by rw [← hy4, ← hbk4]; exact row_alloc t1 _ _
      have hb4 : Below t1.heap.size t1 y4 := by rw [← hy4]; exact bel_alloc (Below.refl _ _) _
      have HRW4 := Lib.hid hrw4
      replace HD := Lib.hid (dir_step HD.out hb4)
      replace HN := Lib.hid (row_step HN.out hb4)
      replace HB := Lib.hid (bel_step HB.out hb4)
      clear hb4 hrw4
      have hnd := HN.out
      have d0 := row_cell hnd 0; have d1 := row_cell hnd 1; have d2 := row_cell hnd 2; have d3 := row_cell hnd 3; have d4 := row_cell hnd 4
      simp only [List.getElem?_toArray, List.getElem?_cons_zero, List.getElem?_cons_succ] at d0 d1 d2 d3 d4
      refine wpAnyH_ready (rs := [3]) (by kernel_rfl) (by simp) ?_
      refine AllReadyH.cons (o := ?_) ?hosd3 ?hstsd3 AllReadyH.nil
      case hosd3 => (simp only [List.getElem?_toArray, List.getElem?_cons_zero, List.getElem?_cons_succ]; rfl)
      intro K hK
      go_simp
      skip
      go_wp2_with fail
      refine hK.out _ _ ?hssd3 (fun hHeld => ?_)
      case hssd3 => (first | (rw [hy4]; exact ⟨d0, d1, d2, d3, d4⟩) | exact ⟨d0, d1, d2, d3, d4⟩)
      clear hK K
      (try simp only [Act.put, List.setIfInBounds_toArray, List.set_cons_zero, List.set_cons_succ])
      try rw [hy4]
      refine wpAnyH_ready (rs := [4]) (by kernel_rfl) (by simp) ?_
      refine AllReadyH.cons (o := ?_) ?hose4 ?hstse4 AllReadyH.nil
      case hose4 => (simp only [List.getElem?_toArray, List.getElem?_cons_zero, List.getElem?_cons_succ]; rfl)
      intro K hK
      go_simp
      go_at_call 11; refine (do_style y4 tb mb (grpL m) LS 0 b4 (nmB bx) (⟨#[99, 111, 108, 100]⟩ : ByteArray) HD.out HRW4.out (two_txt HNM.out.2.2.1 (by decide)) HNM.out.1 HNM.out.2.1 (by decide +kernel) (fun W hW => (by have h := style_there W tb mb (grpL m) (nmB bx) 2 (⟨nmB bx, (⟨#[113, 117, 101, 117, 101]⟩ : ByteArray), 1, 1⟩ : Gp) 2 hW HG.out.1 rfl; rw [HLS.out] at h; exact h))).mono ?_; rintro e t2 ⟨rfl, hdt2, hbt2⟩; replace HN := Lib.hid (but_row hbt2 HN.out (dir_row_ne HD.out HN.out)); replace HD := Lib.hid hdt2; replace HB := Lib.hid (Below.trans HB.out (but_below hbt2 hmb HB.out.size)); have hne := HN.out; have e0 := row_cell hne 0; have e1 := row_cell hne 1; have e2 := row_cell hne 2; have e3 := row_cell hne 3; have e4 := row_cell hne 4; simp only [List.getElem?_toArray, List.getElem?_cons_zero, List.getElem?_cons_succ] at e0 e1 e2 e3 e4
      go_wp2_with fail
      refine hK.out _ _ ?hsse4 (fun hHeld => ?_)
      case hsse4 => exact ⟨e0, e1, e2, e3, e4⟩
      clear hK K
      (try simp only [Act.put, List.setIfInBounds_toArray, List.set_cons_zero, List.set_cons_succ])
      refine wpAnyH_done (by kernel_rfl) ?_ _
      clear hdt2 hbt2 HRW4 hbk4 hy4 hHeld hbt1 hnc hnd c0 c1 c2 c3 c4 d0 d1 d2 d3 d4
      go_upto_region 16 with fail
      have hne0 := row_lt hne
      go_wp2_with fail
      go_at_call 15; refine (get_some _ tb mb LS (nmB bx) (⟨nmB bx, (⟨#[113, 117, 101, 117, 101]⟩ : ByteArray), 2, 2⟩ : Gp) HD.out HG.out.2.1).mono ?_; rintro e t3 ⟨rfl, hbt3⟩
      clear e0 e1 e2 e3 e4 hne hne0
      replace HD := Lib.hid (dir_step HD.out hbt3)
      replace HN := Lib.hid (row_step HN.out hbt3)
      replace HB := Lib.hid (bel_step HB.out hbt3)
      clear hbt3
      obtain ⟨g5, hg5⟩ : ∃ g, t3.heap.size = g := ⟨_, rfl⟩
      obtain ⟨z5, hz5⟩ : ∃ W, t3.alloc (.cells #[.string ⟨#[]⟩, .string ⟨#[]⟩, .int .i64 0, .int .u32 0] 49) = W := ⟨_, rfl⟩
      have hV5 : z5.heap[g5]? = some (.cells #[.string ⟨#[]⟩, .string ⟨#[]⟩, .int .i64 0, .int .u32 0] 49 (0, 0)) := by rw [← hz5, ← hg5]; exact row_alloc t3 _ _
      obtain ⟨y5, hy5⟩ : ∃ y, setG4 z5 g5 (.string (nmB bx)) (.string (⟨#[113, 117, 101, 117, 101]⟩ : ByteArray)) (.int .i64 2) (.int .u32 2) = y := ⟨_, rfl⟩
      have hbY5 : Below t3.heap.size t3 y5 := by rw [← hy5, hg5]; exact setG4_below (by rw [← hz5, ← hg5]; exact bel_alloc (Below.refl _ _) _) (Nat.le_refl _) (.string (nmB bx)) (.string (⟨#[113, 117, 101, 117, 101]⟩ : ByteArray)) (.int .i64 2) (.int .u32 2)
      have hyV5 : y5.heap[g5]? = some (.cells #[.string (nmB bx), .string (⟨#[113, 117, 101, 117, 101]⟩ : ByteArray), .int .i64 2, .int .u32 2] 49 (0, 0)) := by rw [← hy5]; exact setG4_at hV5 (.string (nmB bx)) (.string (⟨#[113, 117, 101, 117, 101]⟩ : ByteArray)) (.int .i64 2) (.int .u32 2)
      have v5_0 := row_cell hV5 0; have v5_1 := row_cell hV5 1; have v5_2 := row_cell hV5 2; have v5_3 := row_cell hV5 3
      simp only [List.getElem?_toArray, List.getElem?_cons_zero, List.getElem?_cons_succ] at v5_0 v5_1 v5_2 v5_3
      have vf5 := fun o => row_frz hV5 o
      have HY5 := Lib.hid (show ((((z5.setCell ⟨g5, 0, none⟩ (.string (nmB bx))).setCell ⟨g5, 1, none⟩ (.string (⟨#[113, 117, 101, 117, 101]⟩ : ByteArray))).setCell ⟨g5, 2, none⟩ (.int .i64 2)).setCell ⟨g5, 3, none⟩ (.int .u32 2)) = y5 from hy5)
      replace HD := Lib.hid (dir_step HD.out hbY5)
      replace HN := Lib.hid (row_step HN.out hbY5)
      replace HB := Lib.hid (bel_step HB.out hbY5)
      have H12 := Lib.hid hyV5
      clear hV5 hy5 hbY5 hyV5
      go_upto_region 17 with fail
      clear hz5
      rw [HY5.out]
      clear v5_0 v5_1 v5_2 v5_3 vf5 HY5
      have hnf := HN.out
      have f0 := row_cell hnf 0; have f1 := row_cell hnf 1; have f2 := row_cell hnf 2; have f3 := row_cell hnf 3; have f4 := row_cell hnf 4
      simp only [List.getElem?_toArray, List.getElem?_cons_zero, List.getElem?_cons_succ] at f0 f1 f2 f3 f4
      have hnf0 := row_lt hnf
      obtain ⟨b6, hbk6⟩ : ∃ g, y5.heap.size = g := ⟨_, rfl⟩
      obtain ⟨y6, hy6⟩ : ∃ W, y5.alloc (.cells #[.int .i64 3, .int .i64 0, .float .f64 0, .string (nmB bx), .slice none 0 0] 39) = W := ⟨_, rfl⟩
      have hrw6 : y6.heap[b6]? = some (.cells #[.int .i64 3, .int .i64 0, .float .f64 0, .string (nmB bx), .slice none 0 0] 39 (0, 0)) := by rw [← hy6, ← hbk6]; exact row_alloc y5 _ _
      have hb6 : Below y5.heap.size y5 y6 := by rw [← hy6]; exact bel_alloc (Below.refl _ _) _
      have HRW6 := Lib.hid hrw6
      replace HD := Lib.hid (dir_step HD.out hb6)
      replace HN := Lib.hid (row_step HN.out hb6)
      replace H12 := Lib.hid (row_step H12.out hb6)
      replace HB := Lib.hid (bel_step HB.out hb6)
      clear hb6 hrw6
      go_wp2_with fail
      clear hy6 f0 f1 f2 f3 f4 hnf hnf0
      go_at_call 11; refine (do_destroy y6 tb mb LS LD 0 b6 (nmB bx) HD.out HRW6.out (one_txt HNM.out.2.2.1) HNM.out.1 HNM.out.2.1 (fun W hW => (by have h := destroy_there W tb mb LS (nmB bx) (⟨nmB bx, (⟨#[113, 117, 101, 117, 101]⟩ : ByteArray), 2, 2⟩ : Gp) hW HG.out.2.1; rw [HLD.out] at h; exact h))).mono ?_; rintro e t4 ⟨rfl, hdt4, hbt4⟩
      replace HN := Lib.hid (but_row hbt4 HN.out (dir_row_ne HD.out HN.out))
      replace H12 := Lib.hid (but_row hbt4 H12.out (dir_row_ne HD.out H12.out))
      replace HD := Lib.hid hdt4
      replace HB := Lib.hid (Below.trans HB.out (but_below hbt4 hmb HB.out.size))
      clear hdt4 hbt4 HRW6 hbk6
      obtain ⟨g7, hg7⟩ : ∃ g, t4.heap.size = g := ⟨_, rfl⟩
      obtain ⟨z7, hz7⟩ : ∃ W, t4.alloc (.cells #[.int .i64 0, .int .i64 0, .float .f64 0, .string ⟨#[]⟩, .slice none 0 0] 39) = W := ⟨_, rfl⟩
      have hV7 : z7.heap[g7]? = some (.cells #[.int .i64 0, .int .i64 0, .float .f64 0, .string ⟨#[]⟩, .slice none 0 0] 39 (0, 0)) := by rw [← hz7, ← hg7]; exact row_alloc t4 _ _
      obtain ⟨y7, hy7⟩ : ∃ y, setV z7 g7 (.int .i64 0) (.int .i64 0) (.float .f64 0) (.string ⟨#[]⟩) (.slice none 0 0) = y := ⟨_, rfl⟩
      have hbY7 : Below t4.heap.size t4 y7 := by rw [← hy7, hg7]; exact setV_below (by rw [← hz7, ← hg7]; exact bel_alloc (Below.refl _ _) _) (Nat.le_refl _) (.int .i64 0) (.int .i64 0) (.float .f64 0) (.string ⟨#[]⟩) (.slice none 0 0)
      have hyV7 : y7.heap[g7]? = some (.cells #[.int .i64 0, .int .i64 0, .float .f64 0, .string ⟨#[]⟩, .slice none 0 0] 39 (0, 0)) := by rw [← hy7]; exact setV_at hV7 (.int .i64 0) (.int .i64 0) (.float .f64 0) (.string ⟨#[]⟩) (.slice none 0 0)
      have v7_0 := row_cell hV7 0; have v7_1 := row_cell hV7 1; have v7_2 := row_cell hV7 2; have v7_3 := row_cell hV7 3; have v7_4 := row_cell hV7 4
      simp only [List.getElem?_toArray, List.getElem?_cons_zero, List.getElem?_cons_succ] at v7_0 v7_1 v7_2 v7_3 v7_4
      have vf7 := fun o => row_frz hV7 o
      have HY7 := Lib.hid (show (((((z7.setCell ⟨g7, 0, none⟩ (.int .i64 0)).setCell ⟨g7, 1, none⟩ (.int .i64 0)).setCell ⟨g7, 2, none⟩ (.float .f64 0)).setCell ⟨g7, 3, none⟩ (.string ⟨#[]⟩)).setCell ⟨g7, 4, none⟩ (.slice none 0 0)) = y7 from hy7)
      replace HD := Lib.hid (dir_step HD.out hbY7)
      replace HN := Lib.hid (row_step HN.out hbY7)
      replace H12 := Lib.hid (row_step H12.out hbY7)
      replace HB := Lib.hid (bel_step HB.out hbY7)
      clear hV7 hy7 hbY7 hyV7
      go_upto_region 18 with fail
      clear hz7
      rw [HY7.out]
      clear v7_0 v7_1 v7_2 v7_3 v7_4 vf7 HY7
      have hdr : Below y7.heap.size y7 y7.drew := Below.drew (Below.refl _ _)
      replace HD := Lib.hid (dir_step HD.out hdr)
      replace HN := Lib.hid (row_step HN.out hdr)
      replace H12 := Lib.hid (row_step H12.out hdr)
      replace HB := Lib.hid (bel_step HB.out hdr)
      clear hdr
      have hnr := HN.out
      have a0 := row_cell hnr 0; have a1 := row_cell hnr 1; have a2 := row_cell hnr 2; have a3 := row_cell hnr 3; have a4 := row_cell hnr 4
      simp only [List.getElem?_toArray, List.getElem?_cons_zero, List.getElem?_cons_succ] at a0 a1 a2 a3 a4
      refine wp_region_held_drew (S := (fun z => z.cell? ⟨g3, 0, none⟩ = some (.int .i64 3) ∧ z.cell? ⟨g3, 1, none⟩ = some (.int .i64 0) ∧ z.cell? ⟨g3, 2, none⟩ = some (.float .f64 0) ∧ z.cell? ⟨g3, 3, none⟩ = some (.string (nmB bx)) ∧ z.cell? ⟨g3, 4, none⟩ = some (.slice none 0 0))) (by kernel_rfl) ?_ (fun hHeld => ?_)
      · exact ⟨a0, a1, a2, a3, a4⟩
      revert HD HN HB H12 hHeld hnr a0 a1 a2 a3 a4
      generalize y7.drew = X1
      intro HD HN H12 HB hnr a0 a1 a2 a3 a4 hHeld
      clear a0 a1 a2 a3 a4 hnr
      have hbd := HB.out
      have hN := HN.out
      have h12 := H12.out
      have hD := HD.out
      refine wpAnyH_take (i := 0) (oi := ?_) (v := ?_) ?hir0 (by kernel_rfl) ?hfr0 ?hrr0 ?hQr0 ?hyr0 (by assumption) ?restr0
      case hir0 => (simp only [List.getElem?_toArray, List.getElem?_cons_zero, List.getElem?_cons_succ]; rfl)
      case hfr0 => kernel_rfl
      case hrr0 => kernel_rfl
      case hyr0 => (refine Or.inl ⟨by rfl, ?_⟩; intro wS hSw; (try dsimp only at hSw); go_simp; (try with_reducible rfl))
      case hQr0 => exact fun _ _ _ h => h
      (try simp only [Act.put, List.setIfInBounds_toArray, List.set_cons_zero, List.set_cons_succ])
      refine wpAnyH_take (i := 1) (oi := ?_) (v := ?_) ?hir1 (by kernel_rfl) ?hfr1 ?hrr1 ?hQr1 ?hyr1 (by assumption) ?restr1
      case hir1 => (simp only [List.getElem?_toArray, List.getElem?_cons_zero, List.getElem?_cons_succ]; rfl)
      case hfr1 => kernel_rfl
      case hrr1 => kernel_rfl
      case hyr1 => (refine Or.inl ⟨by rfl, ?_⟩; intro wS hSw; (try dsimp only at hSw); go_simp; (try with_reducible rfl))
      case hQr1 => exact fun _ _ _ h => h
      (try simp only [Act.put, List.setIfInBounds_toArray, List.set_cons_zero, List.set_cons_succ])
      refine any_have 2 [2, 3, 4, 5, 6, 7, 8, 9] (fun a a' w' => ∃ (gS : Nat) (gV : Nat), a' = ((((((((a.put (some 81) (.agg #[.int .i64 3, .int .i64 0, .float .f64 0, .string (⟨#[116, 97, 98, 108, 101]⟩ : ByteArray), .slice none 0 0])).put (some 82) (.agg #[.int .i64 3, .int .i64 0, .float .f64 0, .string (⟨#[97, 99, 116, 105, 118, 101]⟩ : ByteArray), .slice none 0 0])).put (some 83) (.slice (some ⟨gS, 0, none⟩) 3 3)).put (some 84) (.tuple #[.agg #[.int .i64 0, .int .i64 0, .float .f64 0, .string ⟨#[]⟩, .slice none 0 0], .int .i64 0])).put (some 78) (.tuple #[.agg #[.int .i64 0, .int .i64 0, .float .f64 0, .string ⟨#[]⟩, .slice none 0 0], .int .i64 0])).put (some 85) (.agg #[.int .i64 0, .int .i64 0, .float .f64 0, .string ⟨#[]⟩, .slice none 0 0])).put (some 86) (.int .i64 0)).put (some 16) (.pointer (some ⟨gV, 0, none⟩))) ∧ Below w.heap.size w w' ∧ w'.heap[g3]? = some (.cells #[.int .i64 3, .int .i64 0, .float .f64 0, .string (nmB bx), .slice none 0 0] 39 (0, 0)) ∧ w'.heap[g5]? = some (.cells #[.string (nmB bx), .string (⟨#[113, 117, 101, 117, 101]⟩ : ByteArray), .int .i64 2, .int .u32 2] 49 (0, 0)) ∧ DirG w' tb mb LN ∧ w'.heap[gV]? = some (.cells #[.int .i64 0, .int .i64 0, .float .f64 0, .string ⟨#[]⟩, .slice none 0 0] 39 (0, 0)) ∧ w.heap.size ≤ gV ∧ g3 ≠ gV ∧ g5 ≠ gV ∧ tb ≠ gV ∧ mb ≠ gV) ?phK2_3_4_5_9m (fun hK2_3_4_5_9 => ?_)
      case phK2_3_4_5_9m =>
        intro a' w' hst hHeld
        obtain ⟨gS, gV, rfl, hbd, hN, h12, hD2, hV, hVg, hVn, hV2, hVt, hVm⟩ := hst
        (try simp only [Act.put, List.setIfInBounds_toArray, List.set_cons_zero, List.set_cons_succ])
        refine wpAnyH_ready (rs := [10]) (by kernel_rfl) (by simp) ?_
        refine AllReadyH.cons (o := ?_) ?ho10hK2_3_4_5_9m ?hst10hK2_3_4_5_9m AllReadyH.nil
        case ho10hK2_3_4_5_9m => (simp only [List.getElem?_toArray, List.getElem?_cons_zero, List.getElem?_cons_succ]; rfl)
        intro K hK
        have bb0 := row_cell hV 0; have bb1 := row_cell hV 1; have bb2 := row_cell hV 2; have bb3 := row_cell hV 3; have bb4 := row_cell hV 4
        simp only [List.getElem?_toArray, List.getElem?_cons_zero, List.getElem?_cons_succ] at bb0 bb1 bb2 bb3 bb4
        have bbf := fun o => row_frz hV o
        have bbl := row_lt hV
        have cc0 := row_cell hN 0; have cc1 := row_cell hN 1; have cc2 := row_cell hN 2; have cc3 := row_cell hN 3; have cc4 := row_cell hN 4
        simp only [List.getElem?_toArray, List.getElem?_cons_zero, List.getElem?_cons_succ] at cc0 cc1 cc2 cc3 cc4
        go_simp
        refine hK.out _ _ ?hs10hK2_3_4_5_9m (fun hHeld => ?_)
        case hs10hK2_3_4_5_9m => exact ⟨setV_cell w' gV g3 0 _ hVn cc0 (.int .i64 0) (.int .i64 0) (.float .f64 0) (.string ⟨#[]⟩) (.slice none 0 0), setV_cell w' gV g3 1 _ hVn cc1 (.int .i64 0) (.int .i64 0) (.float .f64 0) (.string ⟨#[]⟩) (.slice none 0 0), setV_cell w' gV g3 2 _ hVn cc2 (.int .i64 0) (.int .i64 0) (.float .f64 0) (.string ⟨#[]⟩) (.slice none 0 0), setV_cell w' gV g3 3 _ hVn cc3 (.int .i64 0) (.int .i64 0) (.float .f64 0) (.string ⟨#[]⟩) (.slice none 0 0), setV_cell w' gV g3 4 _ hVn cc4 (.int .i64 0) (.int .i64 0) (.float .f64 0) (.string ⟨#[]⟩) (.slice none 0 0)⟩
        clear hK K bb0 bb1 bb2 bb3 bb4 bbf bbl cc0 cc1 cc2 cc3 cc4
        (try simp only [Act.put, List.setIfInBounds_toArray, List.set_cons_zero, List.set_cons_succ])
        refine wpAnyH_take (i := 11) (oi := ?_) (v := ?_) ?hiu11 (by kernel_rfl) ?hfu11 ?hru11 ?hQu11 ?hyu11 (by assumption) ?restu11
        case hiu11 => (simp only [List.getElem?_toArray, List.getElem?_cons_zero, List.getElem?_cons_succ]; rfl)
        case hfu11 => kernel_rfl
        case hru11 => kernel_rfl
        case hyu11 => (refine Or.inl ⟨by rfl, ?_⟩; intro wS hSw; (try dsimp only at hSw); go_simp; (try with_reducible rfl))
        case hQu11 => exact fun _ _ _ h => h
        (try simp only [Act.put, List.setIfInBounds_toArray, List.set_cons_zero, List.set_cons_succ])
        refine wpAnyH_done (by kernel_rfl) ?_ _
        have hbV := setV_below (Below.refl gV w') (Nat.le_refl gV) (.int .i64 0) (.int .i64 0) (.float .f64 0) (.string ⟨#[]⟩) (.slice none 0 0)
        have hN9 := (setV_other (w := w') hVn (.int .i64 0) (.int .i64 0) (.float .f64 0) (.string ⟨#[]⟩) (.slice none 0 0)).trans hN
        have h129 := (setV_other (w := w') hV2 (.int .i64 0) (.int .i64 0) (.float .f64 0) (.string ⟨#[]⟩) (.slice none 0 0)).trans h12
        have hD9 := dir_to hD2 (setV_other hVt (.int .i64 0) (.int .i64 0) (.float .f64 0) (.string ⟨#[]⟩) (.slice none 0 0)) (setV_other hVm (.int .i64 0) (.int .i64 0) (.float .f64 0) (.string ⟨#[]⟩) (.slice none 0 0))
        have hB9 := setV_below hbd hVg (.int .i64 0) (.int .i64 0) (.float .f64 0) (.string ⟨#[]⟩) (.slice none 0 0)
        clear HN H12 HD HB
        have HN := Lib.hid hN9
        have H12 := Lib.hid h129
        have HD := Lib.hid hD9
        have HB := Lib.hid hB9
        clear hbV hN9 h129 hD9 hB9 hN h12 hD2 hbd hV hVg hVn hV2 hVt hVm hHeld
        obtain ⟨yV, hyV⟩ : ∃ y, (((((w'.setCell ⟨gV, 0, none⟩ (.int .i64 0)).setCell ⟨gV, 1, none⟩ (.int .i64 0)).setCell ⟨gV, 2, none⟩ (.float .f64 0)).setCell ⟨gV, 3, none⟩ (.string ⟨#[]⟩)).setCell ⟨gV, 4, none⟩ (.slice none 0 0)) = y := ⟨_, rfl⟩
        rw [show setV w' gV (.int .i64 0) (.int .i64 0) (.float .f64 0) (.string ⟨#[]⟩) (.slice none 0 0) = yV from hyV] at HN H12 HD HB
        go_upto_region 19 with fail
        rw [hyV]
        clear hyV
        have hne := HN.out
        have e0 := row_cell hne 0; have e1 := row_cell hne 1; have e2 := row_cell hne 2; have e3 := row_cell hne 3; have e4 := row_cell hne 4
        simp only [List.getElem?_toArray, List.getElem?_cons_zero, List.getElem?_cons_succ] at e0 e1 e2 e3 e4
        have hne0 := row_lt hne
        go_wp2_with fail
        go_at_call 15; refine (get_some _ tb mb LN (nmB bx) (⟨nmB bx, (⟨#[116, 97, 98, 108, 101]⟩ : ByteArray), 0, 1⟩ : Gp) HD.out HG.out.2.2.2.2.1).mono ?_; rintro e t5 ⟨rfl, hbt5⟩
        clear e0 e1 e2 e3 e4 hne hne0
        replace HD := Lib.hid (dir_step HD.out hbt5)
        replace HN := Lib.hid (row_step HN.out hbt5)
        replace H12 := Lib.hid (row_step H12.out hbt5)
        replace HB := Lib.hid (bel_step HB.out hbt5)
        clear hbt5
        obtain ⟨g58, hg58⟩ : ∃ g, t5.heap.size = g := ⟨_, rfl⟩
        obtain ⟨z58, hz58⟩ : ∃ W, t5.alloc (.cells #[.string ⟨#[]⟩, .string ⟨#[]⟩, .int .i64 0, .int .u32 0] 49) = W := ⟨_, rfl⟩
        have hV58 : z58.heap[g58]? = some (.cells #[.string ⟨#[]⟩, .string ⟨#[]⟩, .int .i64 0, .int .u32 0] 49 (0, 0)) := by rw [← hz58, ← hg58]; exact row_alloc t5 _ _
        obtain ⟨y58, hy58⟩ : ∃ y, setG4 z58 g58 (.string (nmB bx)) (.string (⟨#[116, 97, 98, 108, 101]⟩ : ByteArray)) (.int .i64 0) (.int .u32 1) = y := ⟨_, rfl⟩
        have hbY58 : Below t5.heap.size t5 y58 := by rw [← hy58, hg58]; exact setG4_below (by rw [← hz58, ← hg58]; exact bel_alloc (Below.refl _ _) _) (Nat.le_refl _) (.string (nmB bx)) (.string (⟨#[116, 97, 98, 108, 101]⟩ : ByteArray)) (.int .i64 0) (.int .u32 1)
        have hyV58 : y58.heap[g58]? = some (.cells #[.string (nmB bx), .string (⟨#[116, 97, 98, 108, 101]⟩ : ByteArray), .int .i64 0, .int .u32 1] 49 (0, 0)) := by rw [← hy58]; exact setG4_at hV58 (.string (nmB bx)) (.string (⟨#[116, 97, 98, 108, 101]⟩ : ByteArray)) (.int .i64 0) (.int .u32 1)
        have v58_0 := row_cell hV58 0; have v58_1 := row_cell hV58 1; have v58_2 := row_cell hV58 2; have v58_3 := row_cell hV58 3
        simp only [List.getElem?_toArray, List.getElem?_cons_zero, List.getElem?_cons_succ] at v58_0 v58_1 v58_2 v58_3
        have vf58 := fun o => row_frz hV58 o
        have HY58 := Lib.hid (show ((((z58.setCell ⟨g58, 0, none⟩ (.string (nmB bx))).setCell ⟨g58, 1, none⟩ (.string (⟨#[116, 97, 98, 108, 101]⟩ : ByteArray))).setCell ⟨g58, 2, none⟩ (.int .i64 0)).setCell ⟨g58, 3, none⟩ (.int .u32 1)) = y58 from hy58)
        replace HD := Lib.hid (dir_step HD.out hbY58)
        replace HN := Lib.hid (row_step HN.out hbY58)
        replace H12 := Lib.hid (row_step H12.out hbY58)
        replace HB := Lib.hid (bel_step HB.out hbY58)
        have H18 := Lib.hid hyV58
        clear hV58 hy58 hbY58 hyV58
        go_upto_region 20 with fail
        clear hz58
        rw [HY58.out]
        clear v58_0 v58_1 v58_2 v58_3 vf58 HY58
        have HALL := Lib.hid (all_gp _ tb mb LN HD.out (fun e => by have h := HG.out.2.2.2.2.2; rw [e] at h; simp only [List.length_nil] at h; omega) (by rw [HG.out.2.2.2.2.2]; omega))
        rw [HG.out.2.2.2.2.2] at HALL
        have hnn := HN.out
        have h1n := H12.out
        have h8n := H18.out
        have n0 := row_cell hnn 0; have n1 := row_cell hnn 1; have n2 := row_cell hnn 2; have n3 := row_cell hnn 3; have n4 := row_cell hnn 4
        simp only [List.getElem?_toArray, List.getElem?_cons_zero, List.getElem?_cons_succ] at n0 n1 n2 n3 n4
        have o0 := row_cell h1n 0; have o1 := row_cell h1n 1; have o2 := row_cell h1n 2; have o3 := row_cell h1n 3
        simp only [List.getElem?_toArray, List.getElem?_cons_zero, List.getElem?_cons_succ] at o0 o1 o2 o3
        have p0 := row_cell h8n 0; have p1 := row_cell h8n 1; have p2 := row_cell h8n 2; have p3 := row_cell h8n 3
        simp only [List.getElem?_toArray, List.getElem?_cons_zero, List.getElem?_cons_succ] at p0 p1 p2 p3
        have ln := row_lt hnn
        have lo := row_lt h1n
        have lp := row_lt h8n
        have heq := fun W => eq_gp W (nmB bx) (⟨#[116, 97, 98, 108, 101]⟩ : ByteArray) 0 1
        clear hnn h1n h8n
        go_wp2_with fail
        go_at_call 10; refine HALL.out.mono ?_; rintro e t6 ⟨bl, cl, dl, rfl, _, _, _, hbt6⟩
        have HBF := Lib.hid (bel_step HB.out hbt6)
        clear hbt6 HALL n0 n1 n2 n3 n4 o0 o1 o2 o3 p0 p1 p2 p3 ln lo lp
        have hmn : ((m : Int) == min (14 + (q : Int)) 16) = true := by rw [beq_iff_eq, ← HM.out]; omega
        go_wp2
        go_ret
        exact ⟨rfl, HBF.out⟩
      refine any_have 3 [2, 3, 4, 5, 6, 7, 8] (fun a a' w' => ∃ (gS : Nat), a' = (((((((a.put (some 81) (.agg #[.int .i64 3, .int .i64 0, .float .f64 0, .string (⟨#[116, 97, 98, 108, 101]⟩ : ByteArray), .slice none 0 0])).put (some 82) (.agg #[.int .i64 3, .int .i64 0, .float .f64 0, .string (⟨#[97, 99, 116, 105, 118, 101]⟩ : ByteArray), .slice none 0 0])).put (some 83) (.slice (some ⟨gS, 0, none⟩) 3 3)).put (some 84) (.tuple #[.agg #[.int .i64 0, .int .i64 0, .float .f64 0, .string ⟨#[]⟩, .slice none 0 0], .int .i64 0])).put (some 78) (.tuple #[.agg #[.int .i64 0, .int .i64 0, .float .f64 0, .string ⟨#[]⟩, .slice none 0 0], .int .i64 0])).put (some 85) (.agg #[.int .i64 0, .int .i64 0, .float .f64 0, .string ⟨#[]⟩, .slice none 0 0])).put (some 86) (.int .i64 0)) ∧ Below w.heap.size w w' ∧ w'.heap[g3]? = some (.cells #[.int .i64 3, .int .i64 0, .float .f64 0, .string (nmB bx), .slice none 0 0] 39 (0, 0)) ∧ w'.heap[g5]? = some (.cells #[.string (nmB bx), .string (⟨#[113, 117, 101, 117, 101]⟩ : ByteArray), .int .i64 2, .int .u32 2] 49 (0, 0)) ∧ DirG w' tb mb LN) ?phK2_3_4_5m (fun hK2_3_4_5 => ?_)
      case phK2_3_4_5m =>
        intro a' w' hst hHeld
        obtain ⟨gS, rfl, hbd, hN, h12, hD2⟩ := hst
        (try simp only [Act.put, List.setIfInBounds_toArray, List.set_cons_zero, List.set_cons_succ])
        refine wpAnyH_ready (rs := [9]) (by kernel_rfl) (by simp) ?_
        refine AllReadyH.cons (o := ?_) ?ho9hK2_3_4_5m ?hst9hK2_3_4_5m AllReadyH.nil
        case ho9hK2_3_4_5m => (simp only [List.getElem?_toArray, List.getElem?_cons_zero, List.getElem?_cons_succ]; rfl)
        case hst9hK2_3_4_5m =>
          intro K hK
          go_simp
          refine hK.out _ _ ?hs9hK2_3_4_5m (fun hHeld => ?_)
          case hs9hK2_3_4_5m => exact ⟨row_cell (row_step hN (bel_alloc (Below.refl _ _) (.cells #[.int .i64 0, .int .i64 0, .float .f64 0, .string ⟨#[]⟩, .slice none 0 0] 39))) 0, row_cell (row_step hN (bel_alloc (Below.refl _ _) (.cells #[.int .i64 0, .int .i64 0, .float .f64 0, .string ⟨#[]⟩, .slice none 0 0] 39))) 1, row_cell (row_step hN (bel_alloc (Below.refl _ _) (.cells #[.int .i64 0, .int .i64 0, .float .f64 0, .string ⟨#[]⟩, .slice none 0 0] 39))) 2, row_cell (row_step hN (bel_alloc (Below.refl _ _) (.cells #[.int .i64 0, .int .i64 0, .float .f64 0, .string ⟨#[]⟩, .slice none 0 0] 39))) 3, row_cell (row_step hN (bel_alloc (Below.refl _ _) (.cells #[.int .i64 0, .int .i64 0, .float .f64 0, .string ⟨#[]⟩, .slice none 0 0] 39))) 4⟩
          clear hK K
          (try simp only [Act.put, List.setIfInBounds_toArray, List.set_cons_zero, List.set_cons_succ])
          exact any_eq (by kernel_rfl) (by kernel_rfl) (hK2_3_4_5_9 _ _ ⟨gS, _, rfl, (bel_step hbd (bel_alloc (Below.refl _ _) (.cells #[.int .i64 0, .int .i64 0, .float .f64 0, .string ⟨#[]⟩, .slice none 0 0] 39))), (row_step hN (bel_alloc (Below.refl _ _) (.cells #[.int .i64 0, .int .i64 0, .float .f64 0, .string ⟨#[]⟩, .slice none 0 0] 39))), (row_step h12 (bel_alloc (Below.refl _ _) (.cells #[.int .i64 0, .int .i64 0, .float .f64 0, .string ⟨#[]⟩, .slice none 0 0] 39))), (dir_step hD2 (bel_alloc (Below.refl _ _) (.cells #[.int .i64 0, .int .i64 0, .float .f64 0, .string ⟨#[]⟩, .slice none 0 0] 39))), row_alloc _ _ _, hbd.size, (Nat.ne_of_lt (row_lt hN)), (Nat.ne_of_lt (row_lt h12)), (Nat.ne_of_lt (dir_lt hD2).1), (Nat.ne_of_lt (dir_lt hD2).2)⟩ hHeld)
      refine any_have 6 [2, 3, 4, 9] (fun a a' w' => ∃ (gS : Nat) (gV : Nat), a' = ((((a.put (some 81) (.agg #[.int .i64 3, .int .i64 0, .float .f64 0, .string (⟨#[116, 97, 98, 108, 101]⟩ : ByteArray), .slice none 0 0])).put (some 82) (.agg #[.int .i64 3, .int .i64 0, .float .f64 0, .string (⟨#[97, 99, 116, 105, 118, 101]⟩ : ByteArray), .slice none 0 0])).put (some 83) (.slice (some ⟨gS, 0, none⟩) 3 3)).put (some 16) (.pointer (some ⟨gV, 0, none⟩))) ∧ Below w.heap.size w w' ∧ w'.heap[g3]? = some (.cells #[.int .i64 3, .int .i64 0, .float .f64 0, .string (nmB bx), .slice none 0 0] 39 (0, 0)) ∧ w'.heap[g5]? = some (.cells #[.string (nmB bx), .string (⟨#[113, 117, 101, 117, 101]⟩ : ByteArray), .int .i64 2, .int .u32 2] 49 (0, 0)) ∧ DirG w' tb mb LD ∧ w'.heap[gS]? = some (.cells #[.int .i64 3, .int .i64 0, .float .f64 0, .string (nmB bx), .slice none 0 0, .int .i64 3, .int .i64 0, .float .f64 0, .string (⟨#[116, 97, 98, 108, 101]⟩ : ByteArray), .slice none 0 0, .int .i64 3, .int .i64 0, .float .f64 0, .string (⟨#[97, 99, 116, 105, 118, 101]⟩ : ByteArray), .slice none 0 0] 39 (0, 0)) ∧ w'.heap[gV]? = some (.cells #[.int .i64 0, .int .i64 0, .float .f64 0, .string ⟨#[]⟩, .slice none 0 0] 39 (0, 0)) ∧ w.heap.size ≤ gV ∧ g3 ≠ gV ∧ g5 ≠ gV ∧ tb ≠ gV ∧ mb ≠ gV) ?phK2_3_4_9m (fun hK2_3_4_9 => ?_)
      case phK2_3_4_9m =>
        intro a' w' hst hHeld
        obtain ⟨gS, gV, rfl, hbd, hN, h12, hD, hS, hV, hVg, hVn, hV2, hVt, hVm⟩ := hst
        (try simp only [Act.put, List.setIfInBounds_toArray, List.set_cons_zero, List.set_cons_succ])
        refine wpAnyH_ready (rs := [5]) (by kernel_rfl) (by simp) ?_
        refine AllReadyH.cons (o := ?_) ?ho5hK2_3_4_9m ?hst5hK2_3_4_9m AllReadyH.nil
        case ho5hK2_3_4_9m => (simp only [List.getElem?_toArray, List.getElem?_cons_zero, List.getElem?_cons_succ]; rfl)
        case hst5hK2_3_4_9m =>
          intro K hK
          go_simp
          go_at_call 11; refine (do_create _ tb mb LD LN 0 gS (nmB bx) (⟨#[116, 97, 98, 108, 101]⟩ : ByteArray) (⟨#[97, 99, 116, 105, 118, 101]⟩ : ByteArray) hD hS (small_two HNM.out.2.2.1 (by decide) (by decide)) HNM.out.1 HNM.out.2.1 HNM.out.2.2.2 (by decide +kernel) (by decide +kernel) (fun W hW => (by have h := create_new W tb mb LD (nmB bx) (⟨#[116, 97, 98, 108, 101]⟩ : ByteArray) 0 hW HG.out.2.2.1 HG.out.2.2.2.1; rw [HLN.out] at h; exact h))).mono ?_; rintro e wT ⟨rfl, hd5, hbT⟩
          go_wp2_with fail
          refine hK.out _ _ ?hs5hK2_3_4_9m (fun hHeld => ?_)
          case hs5hK2_3_4_9m => exact ⟨row_cell (but_row hbT hN (dir_row_ne hD hN)) 0, row_cell (but_row hbT hN (dir_row_ne hD hN)) 1, row_cell (but_row hbT hN (dir_row_ne hD hN)) 2, row_cell (but_row hbT hN (dir_row_ne hD hN)) 3, row_cell (but_row hbT hN (dir_row_ne hD hN)) 4⟩
          clear hK K
          (try simp only [Act.put, List.setIfInBounds_toArray, List.set_cons_zero, List.set_cons_succ])
          refine wpAnyH_take (i := 6) (oi := ?_) (v := ?_) ?hin5hK2_3_4_9m6 (by kernel_rfl) ?hfn5hK2_3_4_9m6 ?hrn5hK2_3_4_9m6 ?hQn5hK2_3_4_9m6 ?hyn5hK2_3_4_9m6 (by assumption) ?restn5hK2_3_4_9m6
          case hin5hK2_3_4_9m6 => (simp only [List.getElem?_toArray, List.getElem?_cons_zero, List.getElem?_cons_succ]; rfl)
          case hfn5hK2_3_4_9m6 => kernel_rfl
          case hrn5hK2_3_4_9m6 => kernel_rfl
          case hyn5hK2_3_4_9m6 => (refine Or.inl ⟨by rfl, ?_⟩; intro wS hSw; (try dsimp only at hSw); go_simp; (try with_reducible rfl))
          case hQn5hK2_3_4_9m6 => exact fun _ _ _ h => h
          (try simp only [Act.put, List.setIfInBounds_toArray, List.set_cons_zero, List.set_cons_succ])
          refine wpAnyH_take (i := 7) (oi := ?_) (v := ?_) ?hin5hK2_3_4_9m7 (by kernel_rfl) ?hfn5hK2_3_4_9m7 ?hrn5hK2_3_4_9m7 ?hQn5hK2_3_4_9m7 ?hyn5hK2_3_4_9m7 (by assumption) ?restn5hK2_3_4_9m7
          case hin5hK2_3_4_9m7 => (simp only [List.getElem?_toArray, List.getElem?_cons_zero, List.getElem?_cons_succ]; rfl)
          case hfn5hK2_3_4_9m7 => kernel_rfl
          case hrn5hK2_3_4_9m7 => kernel_rfl
          case hyn5hK2_3_4_9m7 => (refine Or.inl ⟨by rfl, ?_⟩; intro wS hSw; (try dsimp only at hSw); go_simp; (try with_reducible rfl))
          case hQn5hK2_3_4_9m7 => exact fun _ _ _ h => h
          (try simp only [Act.put, List.setIfInBounds_toArray, List.set_cons_zero, List.set_cons_succ])
          refine wpAnyH_take (i := 8) (oi := ?_) (v := ?_) ?hin5hK2_3_4_9m8 (by kernel_rfl) ?hfn5hK2_3_4_9m8 ?hrn5hK2_3_4_9m8 ?hQn5hK2_3_4_9m8 ?hyn5hK2_3_4_9m8 (by assumption) ?restn5hK2_3_4_9m8
          case hin5hK2_3_4_9m8 => (simp only [List.getElem?_toArray, List.getElem?_cons_zero, List.getElem?_cons_succ]; rfl)
          case hfn5hK2_3_4_9m8 => kernel_rfl
          case hrn5hK2_3_4_9m8 => kernel_rfl
          case hyn5hK2_3_4_9m8 => (refine Or.inl ⟨by rfl, ?_⟩; intro wS hSw; (try dsimp only at hSw); go_simp; (try with_reducible rfl))
          case hQn5hK2_3_4_9m8 => exact fun _ _ _ h => h
          (try simp only [Act.put, List.setIfInBounds_toArray, List.set_cons_zero, List.set_cons_succ])
          exact any_eq (by kernel_rfl) (by kernel_rfl) (hK2_3_4_5_9 _ _ ⟨gS, gV, rfl, (Below.trans hbd (but_below hbT hmb hbd.size)), (but_row hbT hN (dir_row_ne hD hN)), (but_row hbT h12 (dir_row_ne hD h12)), hd5, (but_row hbT hV (dir_row_ne hD hV)), (hVg), (hVn), (hV2), (hVt), (hVm)⟩ hHeld)
      refine any_have 7 [2, 3, 4] (fun a a' w' => ∃ (gS : Nat), a' = (((a.put (some 81) (.agg #[.int .i64 3, .int .i64 0, .float .f64 0, .string (⟨#[116, 97, 98, 108, 101]⟩ : ByteArray), .slice none 0 0])).put (some 82) (.agg #[.int .i64 3, .int .i64 0, .float .f64 0, .string (⟨#[97, 99, 116, 105, 118, 101]⟩ : ByteArray), .slice none 0 0])).put (some 83) (.slice (some ⟨gS, 0, none⟩) 3 3)) ∧ Below w.heap.size w w' ∧ w'.heap[g3]? = some (.cells #[.int .i64 3, .int .i64 0, .float .f64 0, .string (nmB bx), .slice none 0 0] 39 (0, 0)) ∧ w'.heap[g5]? = some (.cells #[.string (nmB bx), .string (⟨#[113, 117, 101, 117, 101]⟩ : ByteArray), .int .i64 2, .int .u32 2] 49 (0, 0)) ∧ DirG w' tb mb LD ∧ w'.heap[gS]? = some (.cells #[.int .i64 3, .int .i64 0, .float .f64 0, .string (nmB bx), .slice none 0 0, .int .i64 3, .int .i64 0, .float .f64 0, .string (⟨#[116, 97, 98, 108, 101]⟩ : ByteArray), .slice none 0 0, .int .i64 3, .int .i64 0, .float .f64 0, .string (⟨#[97, 99, 116, 105, 118, 101]⟩ : ByteArray), .slice none 0 0] 39 (0, 0))) ?phK2_3_4m (fun hK2_3_4 => ?_)
      case phK2_3_4m =>
        intro a' w' hst hHeld
        obtain ⟨gS, rfl, hbd, hN, h12, hD, hS⟩ := hst
        (try simp only [Act.put, List.setIfInBounds_toArray, List.set_cons_zero, List.set_cons_succ])
        refine wpAnyH_ready (rs := [5, 9]) (by kernel_rfl) (by simp) ?_
        refine AllReadyH.cons (o := ?_) ?ho5hK2_3_4m ?hst5hK2_3_4m (AllReadyH.cons (o := ?_) ?ho9hK2_3_4m ?hst9hK2_3_4m AllReadyH.nil)
        case ho5hK2_3_4m => (simp only [List.getElem?_toArray, List.getElem?_cons_zero, List.getElem?_cons_succ]; rfl)
        case ho9hK2_3_4m => (simp only [List.getElem?_toArray, List.getElem?_cons_zero, List.getElem?_cons_succ]; rfl)
        case hst5hK2_3_4m =>
          intro K hK
          go_simp
          go_at_call 11; refine (do_create _ tb mb LD LN 0 gS (nmB bx) (⟨#[116, 97, 98, 108, 101]⟩ : ByteArray) (⟨#[97, 99, 116, 105, 118, 101]⟩ : ByteArray) hD hS (small_two HNM.out.2.2.1 (by decide) (by decide)) HNM.out.1 HNM.out.2.1 HNM.out.2.2.2 (by decide +kernel) (by decide +kernel) (fun W hW => (by have h := create_new W tb mb LD (nmB bx) (⟨#[116, 97, 98, 108, 101]⟩ : ByteArray) 0 hW HG.out.2.2.1 HG.out.2.2.2.1; rw [HLN.out] at h; exact h))).mono ?_; rintro e wT ⟨rfl, hd5, hbT⟩
          go_wp2_with fail
          refine hK.out _ _ ?hs5hK2_3_4m (fun hHeld => ?_)
          case hs5hK2_3_4m => exact ⟨row_cell (but_row hbT hN (dir_row_ne hD hN)) 0, row_cell (but_row hbT hN (dir_row_ne hD hN)) 1, row_cell (but_row hbT hN (dir_row_ne hD hN)) 2, row_cell (but_row hbT hN (dir_row_ne hD hN)) 3, row_cell (but_row hbT hN (dir_row_ne hD hN)) 4⟩
          clear hK K
          (try simp only [Act.put, List.setIfInBounds_toArray, List.set_cons_zero, List.set_cons_succ])
          refine wpAnyH_take (i := 6) (oi := ?_) (v := ?_) ?hin5hK2_3_4m6 (by kernel_rfl) ?hfn5hK2_3_4m6 ?hrn5hK2_3_4m6 ?hQn5hK2_3_4m6 ?hyn5hK2_3_4m6 (by assumption) ?restn5hK2_3_4m6
          case hin5hK2_3_4m6 => (simp only [List.getElem?_toArray, List.getElem?_cons_zero, List.getElem?_cons_succ]; rfl)
          case hfn5hK2_3_4m6 => kernel_rfl
          case hrn5hK2_3_4m6 => kernel_rfl
          case hyn5hK2_3_4m6 => (refine Or.inl ⟨by rfl, ?_⟩; intro wS hSw; (try dsimp only at hSw); go_simp; (try with_reducible rfl))
          case hQn5hK2_3_4m6 => exact fun _ _ _ h => h
          (try simp only [Act.put, List.setIfInBounds_toArray, List.set_cons_zero, List.set_cons_succ])
          refine wpAnyH_take (i := 7) (oi := ?_) (v := ?_) ?hin5hK2_3_4m7 (by kernel_rfl) ?hfn5hK2_3_4m7 ?hrn5hK2_3_4m7 ?hQn5hK2_3_4m7 ?hyn5hK2_3_4m7 (by assumption) ?restn5hK2_3_4m7
          case hin5hK2_3_4m7 => (simp only [List.getElem?_toArray, List.getElem?_cons_zero, List.getElem?_cons_succ]; rfl)
          case hfn5hK2_3_4m7 => kernel_rfl
          case hrn5hK2_3_4m7 => kernel_rfl
          case hyn5hK2_3_4m7 => (refine Or.inl ⟨by rfl, ?_⟩; intro wS hSw; (try dsimp only at hSw); go_simp; (try with_reducible rfl))
          case hQn5hK2_3_4m7 => exact fun _ _ _ h => h
          (try simp only [Act.put, List.setIfInBounds_toArray, List.set_cons_zero, List.set_cons_succ])
          refine wpAnyH_take (i := 8) (oi := ?_) (v := ?_) ?hin5hK2_3_4m8 (by kernel_rfl) ?hfn5hK2_3_4m8 ?hrn5hK2_3_4m8 ?hQn5hK2_3_4m8 ?hyn5hK2_3_4m8 (by assumption) ?restn5hK2_3_4m8
          case hin5hK2_3_4m8 => (simp only [List.getElem?_toArray, List.getElem?_cons_zero, List.getElem?_cons_succ]; rfl)
          case hfn5hK2_3_4m8 => kernel_rfl
          case hrn5hK2_3_4m8 => kernel_rfl
          case hyn5hK2_3_4m8 => (refine Or.inl ⟨by rfl, ?_⟩; intro wS hSw; (try dsimp only at hSw); go_simp; (try with_reducible rfl))
          case hQn5hK2_3_4m8 => exact fun _ _ _ h => h
          (try simp only [Act.put, List.setIfInBounds_toArray, List.set_cons_zero, List.set_cons_succ])
          exact any_eq (by kernel_rfl) (by kernel_rfl) (hK2_3_4_5 _ _ ⟨gS, rfl, (Below.trans hbd (but_below hbT hmb hbd.size)), (but_row hbT hN (dir_row_ne hD hN)), (but_row hbT h12 (dir_row_ne hD h12)), hd5⟩ hHeld)
        case hst9hK2_3_4m =>
          intro K hK
          go_simp
          refine hK.out _ _ ?hs9hK2_3_4m (fun hHeld => ?_)
          case hs9hK2_3_4m => exact ⟨row_cell (row_step hN (bel_alloc (Below.refl _ _) (.cells #[.int .i64 0, .int .i64 0, .float .f64 0, .string ⟨#[]⟩, .slice none 0 0] 39))) 0, row_cell (row_step hN (bel_alloc (Below.refl _ _) (.cells #[.int .i64 0, .int .i64 0, .float .f64 0, .string ⟨#[]⟩, .slice none 0 0] 39))) 1, row_cell (row_step hN (bel_alloc (Below.refl _ _) (.cells #[.int .i64 0, .int .i64 0, .float .f64 0, .string ⟨#[]⟩, .slice none 0 0] 39))) 2, row_cell (row_step hN (bel_alloc (Below.refl _ _) (.cells #[.int .i64 0, .int .i64 0, .float .f64 0, .string ⟨#[]⟩, .slice none 0 0] 39))) 3, row_cell (row_step hN (bel_alloc (Below.refl _ _) (.cells #[.int .i64 0, .int .i64 0, .float .f64 0, .string ⟨#[]⟩, .slice none 0 0] 39))) 4⟩
          clear hK K
          (try simp only [Act.put, List.setIfInBounds_toArray, List.set_cons_zero, List.set_cons_succ])
          exact any_eq (by kernel_rfl) (by kernel_rfl) (hK2_3_4_9 _ _ ⟨gS, _, rfl, (bel_step hbd (bel_alloc (Below.refl _ _) (.cells #[.int .i64 0, .int .i64 0, .float .f64 0, .string ⟨#[]⟩, .slice none 0 0] 39))), (row_step hN (bel_alloc (Below.refl _ _) (.cells #[.int .i64 0, .int .i64 0, .float .f64 0, .string ⟨#[]⟩, .slice none 0 0] 39))), (row_step h12 (bel_alloc (Below.refl _ _) (.cells #[.int .i64 0, .int .i64 0, .float .f64 0, .string ⟨#[]⟩, .slice none 0 0] 39))), (dir_step hD (bel_alloc (Below.refl _ _) (.cells #[.int .i64 0, .int .i64 0, .float .f64 0, .string ⟨#[]⟩, .slice none 0 0] 39))), (row_step hS (bel_alloc (Below.refl _ _) (.cells #[.int .i64 0, .int .i64 0, .float .f64 0, .string ⟨#[]⟩, .slice none 0 0] 39))), row_alloc _ _ _, hbd.size, (Nat.ne_of_lt (row_lt hN)), (Nat.ne_of_lt (row_lt h12)), (Nat.ne_of_lt (dir_lt hD).1), (Nat.ne_of_lt (dir_lt hD).2)⟩ hHeld)
      refine any_have 7 [2, 3, 9] (fun a a' w' => ∃ (gV : Nat), a' = (((a.put (some 81) (.agg #[.int .i64 3, .int .i64 0, .float .f64 0, .string (⟨#[116, 97, 98, 108, 101]⟩ : ByteArray), .slice none 0 0])).put (some 82) (.agg #[.int .i64 3, .int .i64 0, .float .f64 0, .string (⟨#[97, 99, 116, 105, 118, 101]⟩ : ByteArray), .slice none 0 0])).put (some 16) (.pointer (some ⟨gV, 0, none⟩))) ∧ Below w.heap.size w w' ∧ w'.heap[g3]? = some (.cells #[.int .i64 3, .int .i64 0, .float .f64 0, .string (nmB bx), .slice none 0 0] 39 (0, 0)) ∧ w'.heap[g5]? = some (.cells #[.string (nmB bx), .string (⟨#[113, 117, 101, 117, 101]⟩ : ByteArray), .int .i64 2, .int .u32 2] 49 (0, 0)) ∧ DirG w' tb mb LD ∧ w'.heap[gV]? = some (.cells #[.int .i64 0, .int .i64 0, .float .f64 0, .string ⟨#[]⟩, .slice none 0 0] 39 (0, 0)) ∧ w.heap.size ≤ gV ∧ g3 ≠ gV ∧ g5 ≠ gV ∧ tb ≠ gV ∧ mb ≠ gV) ?phK2_3_9m (fun hK2_3_9 => ?_)
      case phK2_3_9m =>
        intro a' w' hst hHeld
        obtain ⟨gV, rfl, hbd, hN, h12, hD, hV, hVg, hVn, hV2, hVt, hVm⟩ := hst
        (try simp only [Act.put, List.setIfInBounds_toArray, List.set_cons_zero, List.set_cons_succ])
        refine wpAnyH_ready (rs := [4]) (by kernel_rfl) (by simp) ?_
        refine AllReadyH.cons (o := ?_) ?ho4hK2_3_9m ?hst4hK2_3_9m AllReadyH.nil
        case ho4hK2_3_9m => (simp only [List.getElem?_toArray, List.getElem?_cons_zero, List.getElem?_cons_succ]; rfl)
        case hst4hK2_3_9m =>
          intro K hK
          go_simp
          refine hK.out _ _ ?hs4hK2_3_9m (fun hHeld => ?_)
          case hs4hK2_3_9m => exact ⟨row_cell (row_step hN (bel_alloc (Below.refl _ _) (.cells #[.int .i64 3, .int .i64 0, .float .f64 0, .string (nmB bx), .slice none 0 0, .int .i64 3, .int .i64 0, .float .f64 0, .string (⟨#[116, 97, 98, 108, 101]⟩ : ByteArray), .slice none 0 0, .int .i64 3, .int .i64 0, .float .f64 0, .string (⟨#[97, 99, 116, 105, 118, 101]⟩ : ByteArray), .slice none 0 0] 39))) 0, row_cell (row_step hN (bel_alloc (Below.refl _ _) (.cells #[.int .i64 3, .int .i64 0, .float .f64 0, .string (nmB bx), .slice none 0 0, .int .i64 3, .int .i64 0, .float .f64 0, .string (⟨#[116, 97, 98, 108, 101]⟩ : ByteArray), .slice none 0 0, .int .i64 3, .int .i64 0, .float .f64 0, .string (⟨#[97, 99, 116, 105, 118, 101]⟩ : ByteArray), .slice none 0 0] 39))) 1, row_cell (row_step hN (bel_alloc (Below.refl _ _) (.cells #[.int .i64 3, .int .i64 0, .float .f64 0, .string (nmB bx), .slice none 0 0, .int .i64 3, .int .i64 0, .float .f64 0, .string (⟨#[116, 97, 98, 108, 101]⟩ : ByteArray), .slice none 0 0, .int .i64 3, .int .i64 0, .float .f64 0, .string (⟨#[97, 99, 116, 105, 118, 101]⟩ : ByteArray), .slice none 0 0] 39))) 2, row_cell (row_step hN (bel_alloc (Below.refl _ _) (.cells #[.int .i64 3, .int .i64 0, .float .f64 0, .string (nmB bx), .slice none 0 0, .int .i64 3, .int .i64 0, .float .f64 0, .string (⟨#[116, 97, 98, 108, 101]⟩ : ByteArray), .slice none 0 0, .int .i64 3, .int .i64 0, .float .f64 0, .string (⟨#[97, 99, 116, 105, 118, 101]⟩ : ByteArray), .slice none 0 0] 39))) 3, row_cell (row_step hN (bel_alloc (Below.refl _ _) (.cells #[.int .i64 3, .int .i64 0, .float .f64 0, .string (nmB bx), .slice none 0 0, .int .i64 3, .int .i64 0, .float .f64 0, .string (⟨#[116, 97, 98, 108, 101]⟩ : ByteArray), .slice none 0 0, .int .i64 3, .int .i64 0, .float .f64 0, .string (⟨#[97, 99, 116, 105, 118, 101]⟩ : ByteArray), .slice none 0 0] 39))) 4⟩
          clear hK K
          (try simp only [Act.put, List.setIfInBounds_toArray, List.set_cons_zero, List.set_cons_succ])
          exact any_eq (by kernel_rfl) (by kernel_rfl) (hK2_3_4_9 _ _ ⟨_, gV, rfl, (bel_step hbd (bel_alloc (Below.refl _ _) (.cells #[.int .i64 3, .int .i64 0, .float .f64 0, .string (nmB bx), .slice none 0 0, .int .i64 3, .int .i64 0, .float .f64 0, .string (⟨#[116, 97, 98, 108, 101]⟩ : ByteArray), .slice none 0 0, .int .i64 3, .int .i64 0, .float .f64 0, .string (⟨#[97, 99, 116, 105, 118, 101]⟩ : ByteArray), .slice none 0 0] 39))), (row_step hN (bel_alloc (Below.refl _ _) (.cells #[.int .i64 3, .int .i64 0, .float .f64 0, .string (nmB bx), .slice none 0 0, .int .i64 3, .int .i64 0, .float .f64 0, .string (⟨#[116, 97, 98, 108, 101]⟩ : ByteArray), .slice none 0 0, .int .i64 3, .int .i64 0, .float .f64 0, .string (⟨#[97, 99, 116, 105, 118, 101]⟩ : ByteArray), .slice none 0 0] 39))), (row_step h12 (bel_alloc (Below.refl _ _) (.cells #[.int .i64 3, .int .i64 0, .float .f64 0, .string (nmB bx), .slice none 0 0, .int .i64 3, .int .i64 0, .float .f64 0, .string (⟨#[116, 97, 98, 108, 101]⟩ : ByteArray), .slice none 0 0, .int .i64 3, .int .i64 0, .float .f64 0, .string (⟨#[97, 99, 116, 105, 118, 101]⟩ : ByteArray), .slice none 0 0] 39))), (dir_step hD (bel_alloc (Below.refl _ _) (.cells #[.int .i64 3, .int .i64 0, .float .f64 0, .string (nmB bx), .slice none 0 0, .int .i64 3, .int .i64 0, .float .f64 0, .string (⟨#[116, 97, 98, 108, 101]⟩ : ByteArray), .slice none 0 0, .int .i64 3, .int .i64 0, .float .f64 0, .string (⟨#[97, 99, 116, 105, 118, 101]⟩ : ByteArray), .slice none 0 0] 39))), row_alloc _ _ _, (row_step hV (bel_alloc (Below.refl _ _) (.cells #[.int .i64 3, .int .i64 0, .float .f64 0, .string (nmB bx), .slice none 0 0, .int .i64 3, .int .i64 0, .float .f64 0, .string (⟨#[116, 97, 98, 108, 101]⟩ : ByteArray), .slice none 0 0, .int .i64 3, .int .i64 0, .float .f64 0, .string (⟨#[97, 99, 116, 105, 118, 101]⟩ : ByteArray), .slice none 0 0] 39))), (hVg), (hVn), (hV2), (hVt), (hVm)⟩ hHeld)
      refine any_have 8 [2, 3] (fun a a' w' => a' = ((a.put (some 81) (.agg #[.int .i64 3, .int .i64 0, .float .f64 0, .string (⟨#[116, 97, 98, 108, 101]⟩ : ByteArray), .slice none 0 0])).put (some 82) (.agg #[.int .i64 3, .int .i64 0, .float .f64 0, .string (⟨#[97, 99, 116, 105, 118, 101]⟩ : ByteArray), .slice none 0 0])) ∧ Below w.heap.size w w' ∧ w'.heap[g3]? = some (.cells #[.int .i64 3, .int .i64 0, .float .f64 0, .string (nmB bx), .slice none 0 0] 39 (0, 0)) ∧ w'.heap[g5]? = some (.cells #[.string (nmB bx), .string (⟨#[113, 117, 101, 117, 101]⟩ : ByteArray), .int .i64 2, .int .u32 2] 49 (0, 0)) ∧ DirG w' tb mb LD) ?phK2_3m (fun hK2_3 => ?_)
      case phK2_3m =>
        intro a' w' hst hHeld
        obtain ⟨rfl, hbd, hN, h12, hD⟩ := hst
        (try simp only [Act.put, List.setIfInBounds_toArray, List.set_cons_zero, List.set_cons_succ])
        refine wpAnyH_ready (rs := [4, 9]) (by kernel_rfl) (by simp) ?_
        refine AllReadyH.cons (o := ?_) ?ho4hK2_3m ?hst4hK2_3m (AllReadyH.cons (o := ?_) ?ho9hK2_3m ?hst9hK2_3m AllReadyH.nil)
        case ho4hK2_3m => (simp only [List.getElem?_toArray, List.getElem?_cons_zero, List.getElem?_cons_succ]; rfl)
        case ho9hK2_3m => (simp only [List.getElem?_toArray, List.getElem?_cons_zero, List.getElem?_cons_succ]; rfl)
        case hst4hK2_3m =>
          intro K hK
          go_simp
          refine hK.out _ _ ?hs4hK2_3m (fun hHeld => ?_)
          case hs4hK2_3m => exact ⟨row_cell (row_step hN (bel_alloc (Below.refl _ _) (.cells #[.int .i64 3, .int .i64 0, .float .f64 0, .string (nmB bx), .slice none 0 0, .int .i64 3, .int .i64 0, .float .f64 0, .string (⟨#[116, 97, 98, 108, 101]⟩ : ByteArray), .slice none 0 0, .int .i64 3, .int .i64 0, .float .f64 0, .string (⟨#[97, 99, 116, 105, 118, 101]⟩ : ByteArray), .slice none 0 0] 39))) 0, row_cell (row_step hN (bel_alloc (Below.refl _ _) (.cells #[.int .i64 3, .int .i64 0, .float .f64 0, .string (nmB bx), .slice none 0 0, .int .i64 3, .int .i64 0, .float .f64 0, .string (⟨#[116, 97, 98, 108, 101]⟩ : ByteArray), .slice none 0 0, .int .i64 3, .int .i64 0, .float .f64 0, .string (⟨#[97, 99, 116, 105, 118, 101]⟩ : ByteArray), .slice none 0 0] 39))) 1, row_cell (row_step hN (bel_alloc (Below.refl _ _) (.cells #[.int .i64 3, .int .i64 0, .float .f64 0, .string (nmB bx), .slice none 0 0, .int .i64 3, .int .i64 0, .float .f64 0, .string (⟨#[116, 97, 98, 108, 101]⟩ : ByteArray), .slice none 0 0, .int .i64 3, .int .i64 0, .float .f64 0, .string (⟨#[97, 99, 116, 105, 118, 101]⟩ : ByteArray), .slice none 0 0] 39))) 2, row_cell (row_step hN (bel_alloc (Below.refl _ _) (.cells #[.int .i64 3, .int .i64 0, .float .f64 0, .string (nmB bx), .slice none 0 0, .int .i64 3, .int .i64 0, .float .f64 0, .string (⟨#[116, 97, 98, 108, 101]⟩ : ByteArray), .slice none 0 0, .int .i64 3, .int .i64 0, .float .f64 0, .string (⟨#[97, 99, 116, 105, 118, 101]⟩ : ByteArray), .slice none 0 0] 39))) 3, row_cell (row_step hN (bel_alloc (Below.refl _ _) (.cells #[.int .i64 3, .int .i64 0, .float .f64 0, .string (nmB bx), .slice none 0 0, .int .i64 3, .int .i64 0, .float .f64 0, .string (⟨#[116, 97, 98, 108, 101]⟩ : ByteArray), .slice none 0 0, .int .i64 3, .int .i64 0, .float .f64 0, .string (⟨#[97, 99, 116, 105, 118, 101]⟩ : ByteArray), .slice none 0 0] 39))) 4⟩
          clear hK K
          (try simp only [Act.put, List.setIfInBounds_toArray, List.set_cons_zero, List.set_cons_succ])
          exact any_eq (by kernel_rfl) (by kernel_rfl) (hK2_3_4 _ _ ⟨_, rfl, (bel_step hbd (bel_alloc (Below.refl _ _) (.cells #[.int .i64 3, .int .i64 0, .float .f64 0, .string (nmB bx), .slice none 0 0, .int .i64 3, .int .i64 0, .float .f64 0, .string (⟨#[116, 97, 98, 108, 101]⟩ : ByteArray), .slice none 0 0, .int .i64 3, .int .i64 0, .float .f64 0, .string (⟨#[97, 99, 116, 105, 118, 101]⟩ : ByteArray), .slice none 0 0] 39))), (row_step hN (bel_alloc (Below.refl _ _) (.cells #[.int .i64 3, .int .i64 0, .float .f64 0, .string (nmB bx), .slice none 0 0, .int .i64 3, .int .i64 0, .float .f64 0, .string (⟨#[116, 97, 98, 108, 101]⟩ : ByteArray), .slice none 0 0, .int .i64 3, .int .i64 0, .float .f64 0, .string (⟨#[97, 99, 116, 105, 118, 101]⟩ : ByteArray), .slice none 0 0] 39))), (row_step h12 (bel_alloc (Below.refl _ _) (.cells #[.int .i64 3, .int .i64 0, .float .f64 0, .string (nmB bx), .slice none 0 0, .int .i64 3, .int .i64 0, .float .f64 0, .string (⟨#[116, 97, 98, 108, 101]⟩ : ByteArray), .slice none 0 0, .int .i64 3, .int .i64 0, .float .f64 0, .string (⟨#[97, 99, 116, 105, 118, 101]⟩ : ByteArray), .slice none 0 0] 39))), (dir_step hD (bel_alloc (Below.refl _ _) (.cells #[.int .i64 3, .int .i64 0, .float .f64 0, .string (nmB bx), .slice none 0 0, .int .i64 3, .int .i64 0, .float .f64 0, .string (⟨#[116, 97, 98, 108, 101]⟩ : ByteArray), .slice none 0 0, .int .i64 3, .int .i64 0, .float .f64 0, .string (⟨#[97, 99, 116, 105, 118, 101]⟩ : ByteArray), .slice none 0 0] 39))), row_alloc _ _ _⟩ hHeld)
        case hst9hK2_3m =>
          intro K hK
          go_simp
          refine hK.out _ _ ?hs9hK2_3m (fun hHeld => ?_)
          case hs9hK2_3m => exact ⟨row_cell (row_step hN (bel_alloc (Below.refl _ _) (.cells #[.int .i64 0, .int .i64 0, .float .f64 0, .string ⟨#[]⟩, .slice none 0 0] 39))) 0, row_cell (row_step hN (bel_alloc (Below.refl _ _) (.cells #[.int .i64 0, .int .i64 0, .float .f64 0, .string ⟨#[]⟩, .slice none 0 0] 39))) 1, row_cell (row_step hN (bel_alloc (Below.refl _ _) (.cells #[.int .i64 0, .int .i64 0, .float .f64 0, .string ⟨#[]⟩, .slice none 0 0] 39))) 2, row_cell (row_step hN (bel_alloc (Below.refl _ _) (.cells #[.int .i64 0, .int .i64 0, .float .f64 0, .string ⟨#[]⟩, .slice none 0 0] 39))) 3, row_cell (row_step hN (bel_alloc (Below.refl _ _) (.cells #[.int .i64 0, .int .i64 0, .float .f64 0, .string ⟨#[]⟩, .slice none 0 0] 39))) 4⟩
          clear hK K
          (try simp only [Act.put, List.setIfInBounds_toArray, List.set_cons_zero, List.set_cons_succ])
          exact any_eq (by kernel_rfl) (by kernel_rfl) (hK2_3_9 _ _ ⟨_, rfl, (bel_step hbd (bel_alloc (Below.refl _ _) (.cells #[.int .i64 0, .int .i64 0, .float .f64 0, .string ⟨#[]⟩, .slice none 0 0] 39))), (row_step hN (bel_alloc (Below.refl _ _) (.cells #[.int .i64 0, .int .i64 0, .float .f64 0, .string ⟨#[]⟩, .slice none 0 0] 39))), (row_step h12 (bel_alloc (Below.refl _ _) (.cells #[.int .i64 0, .int .i64 0, .float .f64 0, .string ⟨#[]⟩, .slice none 0 0] 39))), (dir_step hD (bel_alloc (Below.refl _ _) (.cells #[.int .i64 0, .int .i64 0, .float .f64 0, .string ⟨#[]⟩, .slice none 0 0] 39))), row_alloc _ _ _, hbd.size, (Nat.ne_of_lt (row_lt hN)), (Nat.ne_of_lt (row_lt h12)), (Nat.ne_of_lt (dir_lt hD).1), (Nat.ne_of_lt (dir_lt hD).2)⟩ hHeld)
      refine any_have 8 [2, 9] (fun a a' w' => ∃ (gV : Nat), a' = ((a.put (some 81) (.agg #[.int .i64 3, .int .i64 0, .float .f64 0, .string (⟨#[116, 97, 98, 108, 101]⟩ : ByteArray), .slice none 0 0])).put (some 16) (.pointer (some ⟨gV, 0, none⟩))) ∧ Below w.heap.size w w' ∧ w'.heap[g3]? = some (.cells #[.int .i64 3, .int .i64 0, .float .f64 0, .string (nmB bx), .slice none 0 0] 39 (0, 0)) ∧ w'.heap[g5]? = some (.cells #[.string (nmB bx), .string (⟨#[113, 117, 101, 117, 101]⟩ : ByteArray), .int .i64 2, .int .u32 2] 49 (0, 0)) ∧ DirG w' tb mb LD ∧ w'.heap[gV]? = some (.cells #[.int .i64 0, .int .i64 0, .float .f64 0, .string ⟨#[]⟩, .slice none 0 0] 39 (0, 0)) ∧ w.heap.size ≤ gV ∧ g3 ≠ gV ∧ g5 ≠ gV ∧ tb ≠ gV ∧ mb ≠ gV) ?phK2_9m (fun hK2_9 => ?_)
      case phK2_9m =>
        intro a' w' hst hHeld
        obtain ⟨gV, rfl, hbd, hN, h12, hD, hV, hVg, hVn, hV2, hVt, hVm⟩ := hst
        (try simp only [Act.put, List.setIfInBounds_toArray, List.set_cons_zero, List.set_cons_succ])
        refine wpAnyH_ready (rs := [3]) (by kernel_rfl) (by simp) ?_
        refine AllReadyH.cons (o := ?_) ?ho3hK2_9m ?hst3hK2_9m AllReadyH.nil
        case ho3hK2_9m => (simp only [List.getElem?_toArray, List.getElem?_cons_zero, List.getElem?_cons_succ]; rfl)
        case hst3hK2_9m =>
          intro K hK
          go_simp
          go_at_call 17; refine (text_ref_any (⟨#[97, 99, 116, 105, 118, 101]⟩ : ByteArray) _).mono ?_; rintro e wT ⟨rfl, hbT⟩
          go_wp2_with fail
          refine hK.out _ _ ?hs3hK2_9m (fun hHeld => ?_)
          case hs3hK2_9m => exact ⟨row_cell (row_step hN hbT) 0, row_cell (row_step hN hbT) 1, row_cell (row_step hN hbT) 2, row_cell (row_step hN hbT) 3, row_cell (row_step hN hbT) 4⟩
          clear hK K
          (try simp only [Act.put, List.setIfInBounds_toArray, List.set_cons_zero, List.set_cons_succ])
          exact any_eq (by kernel_rfl) (by kernel_rfl) (hK2_3_9 _ _ ⟨gV, rfl, (bel_step hbd hbT), (row_step hN hbT), (row_step h12 hbT), (dir_step hD hbT), (row_step hV hbT), (hVg), (hVn), (hV2), (hVt), (hVm)⟩ hHeld)
      refine any_have 9 [2] (fun a a' w' => a' = (a.put (some 81) (.agg #[.int .i64 3, .int .i64 0, .float .f64 0, .string (⟨#[116, 97, 98, 108, 101]⟩ : ByteArray), .slice none 0 0])) ∧ Below w.heap.size w w' ∧ w'.heap[g3]? = some (.cells #[.int .i64 3, .int .i64 0, .float .f64 0, .string (nmB bx), .slice none 0 0] 39 (0, 0)) ∧ w'.heap[g5]? = some (.cells #[.string (nmB bx), .string (⟨#[113, 117, 101, 117, 101]⟩ : ByteArray), .int .i64 2, .int .u32 2] 49 (0, 0)) ∧ DirG w' tb mb LD) ?phK2m (fun hK2 => ?_)
      case phK2m =>
        intro a' w' hst hHeld
        obtain ⟨rfl, hbd, hN, h12, hD⟩ := hst
        (try simp only [Act.put, List.setIfInBounds_toArray, List.set_cons_zero, List.set_cons_succ])
        refine wpAnyH_ready (rs := [3, 9]) (by kernel_rfl) (by simp) ?_
        refine AllReadyH.cons (o := ?_) ?ho3hK2m ?hst3hK2m (AllReadyH.cons (o := ?_) ?ho9hK2m ?hst9hK2m AllReadyH.nil)
        case ho3hK2m => (simp only [List.getElem?_toArray, List.getElem?_cons_zero, List.getElem?_cons_succ]; rfl)
        case ho9hK2m => (simp only [List.getElem?_toArray, List.getElem?_cons_zero, List.getElem?_cons_succ]; rfl)
        case hst3hK2m =>
          intro K hK
          go_simp
          go_at_call 17; refine (text_ref_any (⟨#[97, 99, 116, 105, 118, 101]⟩ : ByteArray) _).mono ?_; rintro e wT ⟨rfl, hbT⟩
          go_wp2_with fail
          refine hK.out _ _ ?hs3hK2m (fun hHeld => ?_)
          case hs3hK2m => exact ⟨row_cell (row_step hN hbT) 0, row_cell (row_step hN hbT) 1, row_cell (row_step hN hbT) 2, row_cell (row_step hN hbT) 3, row_cell (row_step hN hbT) 4⟩
          clear hK K
          (try simp only [Act.put, List.setIfInBounds_toArray, List.set_cons_zero, List.set_cons_succ])
          exact any_eq (by kernel_rfl) (by kernel_rfl) (hK2_3 _ _ ⟨rfl, (bel_step hbd hbT), (row_step hN hbT), (row_step h12 hbT), (dir_step hD hbT)⟩ hHeld)
        case hst9hK2m =>
          intro K hK
          go_simp
          refine hK.out _ _ ?hs9hK2m (fun hHeld => ?_)
          case hs9hK2m => exact ⟨row_cell (row_step hN (bel_alloc (Below.refl _ _) (.cells #[.int .i64 0, .int .i64 0, .float .f64 0, .string ⟨#[]⟩, .slice none 0 0] 39))) 0, row_cell (row_step hN (bel_alloc (Below.refl _ _) (.cells #[.int .i64 0, .int .i64 0, .float .f64 0, .string ⟨#[]⟩, .slice none 0 0] 39))) 1, row_cell (row_step hN (bel_alloc (Below.refl _ _) (.cells #[.int .i64 0, .int .i64 0, .float .f64 0, .string ⟨#[]⟩, .slice none 0 0] 39))) 2, row_cell (row_step hN (bel_alloc (Below.refl _ _) (.cells #[.int .i64 0, .int .i64 0, .float .f64 0, .string ⟨#[]⟩, .slice none 0 0] 39))) 3, row_cell (row_step hN (bel_alloc (Below.refl _ _) (.cells #[.int .i64 0, .int .i64 0, .float .f64 0, .string ⟨#[]⟩, .slice none 0 0] 39))) 4⟩
          clear hK K
          (try simp only [Act.put, List.setIfInBounds_toArray, List.set_cons_zero, List.set_cons_succ])
          exact any_eq (by kernel_rfl) (by kernel_rfl) (hK2_9 _ _ ⟨_, rfl, (bel_step hbd (bel_alloc (Below.refl _ _) (.cells #[.int .i64 0, .int .i64 0, .float .f64 0, .string ⟨#[]⟩, .slice none 0 0] 39))), (row_step hN (bel_alloc (Below.refl _ _) (.cells #[.int .i64 0, .int .i64 0, .float .f64 0, .string ⟨#[]⟩, .slice none 0 0] 39))), (row_step h12 (bel_alloc (Below.refl _ _) (.cells #[.int .i64 0, .int .i64 0, .float .f64 0, .string ⟨#[]⟩, .slice none 0 0] 39))), (dir_step hD (bel_alloc (Below.refl _ _) (.cells #[.int .i64 0, .int .i64 0, .float .f64 0, .string ⟨#[]⟩, .slice none 0 0] 39))), row_alloc _ _ _, hbd.size, (Nat.ne_of_lt (row_lt hN)), (Nat.ne_of_lt (row_lt h12)), (Nat.ne_of_lt (dir_lt hD).1), (Nat.ne_of_lt (dir_lt hD).2)⟩ hHeld)
      refine any_have 9 [9] (fun a a' w' => ∃ (gV : Nat), a' = (a.put (some 16) (.pointer (some ⟨gV, 0, none⟩))) ∧ Below w.heap.size w w' ∧ w'.heap[g3]? = some (.cells #[.int .i64 3, .int .i64 0, .float .f64 0, .string (nmB bx), .slice none 0 0] 39 (0, 0)) ∧ w'.heap[g5]? = some (.cells #[.string (nmB bx), .string (⟨#[113, 117, 101, 117, 101]⟩ : ByteArray), .int .i64 2, .int .u32 2] 49 (0, 0)) ∧ DirG w' tb mb LD ∧ w'.heap[gV]? = some (.cells #[.int .i64 0, .int .i64 0, .float .f64 0, .string ⟨#[]⟩, .slice none 0 0] 39 (0, 0)) ∧ w.heap.size ≤ gV ∧ g3 ≠ gV ∧ g5 ≠ gV ∧ tb ≠ gV ∧ mb ≠ gV) ?phK9m (fun hK9 => ?_)
      case phK9m =>
        intro a' w' hst hHeld
        obtain ⟨gV, rfl, hbd, hN, h12, hD, hV, hVg, hVn, hV2, hVt, hVm⟩ := hst
        (try simp only [Act.put, List.setIfInBounds_toArray, List.set_cons_zero, List.set_cons_succ])
        refine wpAnyH_ready (rs := [2]) (by kernel_rfl) (by simp) ?_
        refine AllReadyH.cons (o := ?_) ?ho2hK9m ?hst2hK9m AllReadyH.nil
        case ho2hK9m => (simp only [List.getElem?_toArray, List.getElem?_cons_zero, List.getElem?_cons_succ]; rfl)
        case hst2hK9m =>
          intro K hK
          go_simp
          go_at_call 17; refine (text_ref_any (⟨#[116, 97, 98, 108, 101]⟩ : ByteArray) _).mono ?_; rintro e wT ⟨rfl, hbT⟩
          go_wp2_with fail
          refine hK.out _ _ ?hs2hK9m (fun hHeld => ?_)
          case hs2hK9m => exact ⟨row_cell (row_step hN hbT) 0, row_cell (row_step hN hbT) 1, row_cell (row_step hN hbT) 2, row_cell (row_step hN hbT) 3, row_cell (row_step hN hbT) 4⟩
          clear hK K
          (try simp only [Act.put, List.setIfInBounds_toArray, List.set_cons_zero, List.set_cons_succ])
          exact any_eq (by kernel_rfl) (by kernel_rfl) (hK2_9 _ _ ⟨gV, rfl, (bel_step hbd hbT), (row_step hN hbT), (row_step h12 hbT), (dir_step hD hbT), (row_step hV hbT), (hVg), (hVn), (hV2), (hVt), (hVm)⟩ hHeld)
      refine wpAnyH_ready (rs := [2, 9]) (by kernel_rfl) (by simp) ?_
      refine AllReadyH.cons (o := ?_) ?ho2zm ?hst2zm (AllReadyH.cons (o := ?_) ?ho9zm ?hst9zm AllReadyH.nil)
      case ho2zm => (simp only [List.getElem?_toArray, List.getElem?_cons_zero, List.getElem?_cons_succ]; rfl)
      case ho9zm => (simp only [List.getElem?_toArray, List.getElem?_cons_zero, List.getElem?_cons_succ]; rfl)
      case hst2zm =>
        intro K hK
        go_simp
        go_at_call 17; refine (text_ref_any (⟨#[116, 97, 98, 108, 101]⟩ : ByteArray) _).mono ?_; rintro e wT ⟨rfl, hbT⟩
        go_wp2_with fail
        refine hK.out _ _ ?hs2zm (fun hHeld => ?_)
        case hs2zm => exact ⟨row_cell (row_step hN hbT) 0, row_cell (row_step hN hbT) 1, row_cell (row_step hN hbT) 2, row_cell (row_step hN hbT) 3, row_cell (row_step hN hbT) 4⟩
        clear hK K
        (try simp only [Act.put, List.setIfInBounds_toArray, List.set_cons_zero, List.set_cons_succ])
        exact any_eq (by kernel_rfl) (by kernel_rfl) (hK2 _ _ ⟨rfl, (bel_step hbd hbT), (row_step hN hbT), (row_step h12 hbT), (dir_step hD hbT)⟩ hHeld)
      case hst9zm =>
        intro K hK
        go_simp
        refine hK.out _ _ ?hs9zm (fun hHeld => ?_)
        case hs9zm => exact ⟨row_cell (row_step hN (bel_alloc (Below.refl _ _) (.cells #[.int .i64 0, .int .i64 0, .float .f64 0, .string ⟨#[]⟩, .slice none 0 0] 39))) 0, row_cell (row_step hN (bel_alloc (Below.refl _ _) (.cells #[.int .i64 0, .int .i64 0, .float .f64 0, .string ⟨#[]⟩, .slice none 0 0] 39))) 1, row_cell (row_step hN (bel_alloc (Below.refl _ _) (.cells #[.int .i64 0, .int .i64 0, .float .f64 0, .string ⟨#[]⟩, .slice none 0 0] 39))) 2, row_cell (row_step hN (bel_alloc (Below.refl _ _) (.cells #[.int .i64 0, .int .i64 0, .float .f64 0, .string ⟨#[]⟩, .slice none 0 0] 39))) 3, row_cell (row_step hN (bel_alloc (Below.refl _ _) (.cells #[.int .i64 0, .int .i64 0, .float .f64 0, .string ⟨#[]⟩, .slice none 0 0] 39))) 4⟩
        clear hK K
        (try simp only [Act.put, List.setIfInBounds_toArray, List.set_cons_zero, List.set_cons_succ])
        exact any_eq (by kernel_rfl) (by kernel_rfl) (hK9 _ _ ⟨_, rfl, (bel_step hbd (bel_alloc (Below.refl _ _) (.cells #[.int .i64 0, .int .i64 0, .float .f64 0, .string ⟨#[]⟩, .slice none 0 0] 39))), (row_step hN (bel_alloc (Below.refl _ _) (.cells #[.int .i64 0, .int .i64 0, .float .f64 0, .string ⟨#[]⟩, .slice none 0 0] 39))), (row_step h12 (bel_alloc (Below.refl _ _) (.cells #[.int .i64 0, .int .i64 0, .float .f64 0, .string ⟨#[]⟩, .slice none 0 0] 39))), (dir_step hD (bel_alloc (Below.refl _ _) (.cells #[.int .i64 0, .int .i64 0, .float .f64 0, .string ⟨#[]⟩, .slice none 0 0] 39))), row_alloc _ _ _, hbd.size, (Nat.ne_of_lt (row_lt hN)), (Nat.ne_of_lt (row_lt h12)), (Nat.ne_of_lt (dir_lt hD).1), (Nat.ne_of_lt (dir_lt hD).2)⟩ hHeld)
end Num
end Go.Proofs.Ytbfnghbfilahnaa
