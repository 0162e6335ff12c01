/-
  Package table: names.
-/
import Derived.Test.YtamogpbbaihaaaaQG
namespace Go.Proofs.Ytamogpbbaihaaaa
open Go.RowKit
namespace Num
open Ints
set_option linter.unusedSimpArgs false
set_option linter.unusedVariables false
def nameV (n : Nat) (s : ByteArray) : VT (n + 1) := (3, 0, 0, s, [])
set_option maxRecDepth 100000 in
set_option maxHeartbeats 4000000 in
theorem names_any (n : Nat) (p : Option Addr) (l c : Nat) (ES : List (ByteArray × VT (n + 1))) (w0 w : World) (hbw : Below w0.heap.size w0 w) (h : RepL w (Rep w0 (n + 2)) p l c (ES.map (pairE n))) (hl : l ≤ 1000) :
    Calls Try.prog 54 #[.slice p l c] w fun e w' => ∃ p' c', e = .returned (.agg #[.int .i64 4, .int .i64 0, .float .f64 0, .string ⟨#[]⟩, .slice p' l c']) ∧ Below w.heap.size w w' ∧ ∀ y, Stay w.heap.size w' y → RepL y (Rep w0 (n + 1)) p' l c' (ES.map fun e => nameV n e.1) := by
  have HB0 := Lib.hid hbw
  have HL := Lib.hid h
  have HLEN := Lib.hid (show ES.length = l by have := h.1; rw [List.length_map] at this; exact this)
  have hl0 : (0 : Int) ≤ (l : Int) := by omega
  have HO := Lib.hid (ow_none (w.alloc (.cells #[.int .i64 0, .int .i64 0, .float .f64 0, .string ⟨#[]⟩, .slice none 0 0] 27)) (w.alloc (.cells #[.int .i64 0, .int .i64 0, .float .f64 0, .string ⟨#[]⟩, .slice none 0 0] 27)) (Rep w0 (n + 1)) (Below.refl _ _) (Nat.le_refl _))
  have hcc : c ≤ 9223372036854775807 := by have := h.2.2.1; unfold maxLen at this; omega
  have HB := Lib.hid (bel_alloc (Below.refl w.heap.size w) (.cells #[.int .i64 0, .int .i64 0, .float .f64 0, .string ⟨#[]⟩, .slice none 0 0] 27))
  have HZA := Lib.hid (World.size_alloc w (.cells #[.int .i64 0, .int .i64 0, .float .f64 0, .string ⟨#[]⟩, .slice none 0 0] 27))
  have HRW := Lib.hid (row_alloc w #[.int .i64 0, .int .i64 0, .float .f64 0, .string ⟨#[]⟩, .slice none 0 0] 27)
  clear h hbw
  go_enter Try.func54, Try.ntmps54
  go_wp2
  generalize w.alloc (.cells #[.int .i64 0, .int .i64 0, .float .f64 0, .string ⟨#[]⟩, .slice none 0 0] 27) = wa at HO HB HRW HZA ⊢
  go_loopw [3, 8] (fun s3 s8 wr => ∃ (i : Nat) (q : Option Addr) (d : Nat), i ≤ l ∧ s3 = .slice q i d ∧ s8 = .int .i64 i ∧ OwV wa wr (Rep w0 (n + 1)) q i d ((ES.map fun e => nameV n e.1).take i)) (fun _ s8 _ => l - (intOf s8).toNat)
  case atStart => exact ⟨0, none, 0, by omega, rfl, rfl, HO.out⟩
  case round =>
    obtain ⟨i, q, d, hil, rfl, rfl, ho⟩ := hrel
    have HOW := Lib.hid ho
    have HBW := Lib.hid (bel_step HB.out (ow_rep ho).2)
    have HRO := Lib.hid (row_step HRW.out (ow_rep ho).2)
    clear ho
    by_cases hlt : i < l
    · obtain ⟨b, off, hpb, hit⟩ := HL.out.2.2.2 (by omega)
      subst hpb
      have hei : i < ES.length := by have := HLEN.out; omega
      obtain ⟨v0, v1, v2, v3, v4, c0, c1, c2, c3, c4, hre⟩ := hit i (by rw [List.length_map]; exact hei)
      rw [List.getElem_map] at hre
      have hre' : Rep w0 (n + 2) (.agg #[v0, v1, v2, v3, v4]) (pairT n ES[i].1 ES[i].2) := hre
      obtain ⟨g, o, dd, hv, ⟨n0, n1, n2, n3, qn, dn, n4, hdn⟩, hsz, _⟩ := pair_mem hre'
      injection hv with hv
      simp only [Array.mk.injEq, List.cons.injEq, and_true] at hv
      obtain ⟨rfl, rfl, rfl, rfl, rfl⟩ := hv
      have hB := HBW.out
      have e0 := cell_keep hB c0; have e1 := cell_keep hB c1; have e2 := cell_keep hB c2; have e3 := cell_keep hB c3; have e4 := cell_keep hB c4
      have hB' := bel_step HB0.out hB
      have m0 := cell_keep hB' n0; have m1 := cell_keep hB' n1; have m2 := cell_keep hB' n2; have m3 := cell_keep hB' n3; have m4 := cell_keep hB' n4
      have elt := cell_lt e0
      have mlt := cell_lt m0
      have elt' : b < wr.heap.size := elt
      have mlt' : g < wr.heap.size := mlt
      have ene : wr.heap.size ≠ b := by omega
      have mne : wr.heap.size ≠ g := by omega
      have ene1 : wr.heap.size + 1 ≠ b := by omega
      have mne1 : wr.heap.size + 1 ≠ g := by omega
      have hi0 : (0 : Int) ≤ (i : Int) := by omega
      have hil2 : (i : Int) < (l : Int) := by omega
      obtain ⟨oe, hoe⟩ : ∃ o', Obj.cells #[.int .i64 4, .int .i64 0, .float .f64 0, .string ⟨#[]⟩, .slice (some ⟨g, o, none⟩) 2 dd] 27 = o' := ⟨_, rfl⟩
      have hn := row_alloc (wr.alloc oe) #[.int .i64 3, .int .i64 0, .float .f64 0, .string ES[i].1, .slice qn 0 dn] 27
      rw [World.size_alloc] at hn
      have hal := bel_alloc (bel_alloc (Below.refl wr.heap.size wr) oe) (.cells #[.int .i64 3, .int .i64 0, .float .f64 0, .string ES[i].1, .slice qn 0 dn] 27)
      have HO2 := Lib.hid (ow_step HOW.out hal)
      have HN := Lib.hid (row1_rep (R := Rep w0 (n + 1)) (A := nameV n ES[i].1) hn ⟨qn, 0, dn, rfl, (by decide : okI 3), (by decide : okI 0), (by decide : (0 : Nat) < 2 ^ 64), hsz, rfl, Nat.zero_le _, hdn, fun h => absurd h (Nat.lt_irrefl _)⟩)
      subst hoe
      have HTK := Lib.hid (show (ES.map fun e => nameV n e.1).take (i + 1) = (ES.map fun e => nameV n e.1).take i ++ [nameV n ES[i].1] by rw [List.take_add_one, List.getElem?_map, List.getElem?_eq_getElem hei]; rfl)
      obtain ⟨NM, hnm⟩ : ∃ z, ES[i].1 = z := ⟨_, rfl⟩
      rw [hnm] at HN HO2 HTK m3
      clear hn hal hre hre' hit c0 c1 c2 c3 c4 n0 n1 n2 n3 n4 hB hB' hsz hnm
      go_wp2_with (at_builtin; refine wp_ovs rfl (.tmp 12) (.tmp 17) rfl (rep_one w0 (n + 1)) wa _ q i d _ (some ⟨wr.heap.size + 1, 0, none⟩) 1 1 [nameV n NM] rfl rfl HO2.out HN.out (by omega) ?_; intro p2 c2 w2 ho2; rw [← HTK.out] at ho2; have HO3 := Lib.hid ho2; clear ho2)
      go_roundw
      case rel => exact ⟨i + 1, p2, c2, by omega, rfl, by go_num, HO3.out⟩
      case measure => simp [intOf]; omega
    · obtain rfl : i = l := by omega
      go_wp2_with fail
      go_at_call 83; refine (tlist_any _ _ _ _).mono ?_; rintro e w3 ⟨rfl, hb3⟩
      have HB3 := Lib.hid (bel_step HBW.out hb3)
      have x := row_step HRO.out hb3
      have p0 := row_cell x 0; have p1 := row_cell x 1; have p2 := row_cell x 2; have p3 := row_cell x 3; have p4 := row_cell x 4
      simp only [List.getElem?_toArray, List.getElem?_cons_zero, List.getElem?_cons_succ] at p0 p1 p2 p3 p4
      have f := fun o => row_frz x o
      have lx : w.heap.size < w3.heap.size := row_lt x
      have HST := Lib.hid (show ∀ y, Stay w.heap.size (set5 w3 w.heap.size 0 (.int .i64 4) (.int .i64 0) (.float .f64 0) (.string ⟨#[]⟩) (.slice q i d)) y → RepL y (Rep w0 (n + 1)) q i d (ES.map fun e => nameV n e.1) from fun y hy => by
        have h1 := (ow_rep HOW.out).1 y (fun b hb1 hb2 => by
          have h2 := HZA.out
          have h3 := hb3.size
          refine (hy b (by omega) (by rw [set5_size]; omega)).trans ?_
          exact (set5_other (by omega)).trans (hb3.block b hb2))
        rw [List.take_of_length_le (by rw [List.length_map, HLEN.out]; exact Nat.le_refl _)] at h1
        exact h1)
      clear hb3 x HOW HBW HRO
      go_wp2
      refine bodyPost_ret (v := .agg #[.int .i64 4, .int .i64 0, .float .f64 0, .string ⟨#[]⟩, .slice q i d]) (by simp [results, Try.results54, go_sem, World.cell?_setCell_same, World.cell?_setCell_other, p0, p1, p2, p3, p4]) rfl ⟨q, d, rfl, ?_, HST.out⟩
      exact set5_below (g := w.heap.size) (o := 0) HB3.out (Nat.le_refl _) _ _ _ _ _
end Num
end Go.Proofs.Ytamogpbbaihaaaa
