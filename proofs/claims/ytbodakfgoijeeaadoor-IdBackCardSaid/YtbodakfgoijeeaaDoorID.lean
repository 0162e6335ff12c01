/-
  Package opid's ids out of texts.
-/
import Derived.Test.YtbodakfgoijeeaaDoorIC
import Derived.Test.YtbodakfgoijeeaaDoorRow
namespace Go.Proofs.YtbodakfgoijeeaaDoor
open Go.RowKit Go.Sort Go.Lib
namespace Num
set_option linter.unusedSimpArgs false
set_option linter.unusedVariables false
theorem cut_len (S P : List UInt8) : (cut S P).1.length ≤ S.length ∧ (cut S P).2.1.length ≤ S.length := by
  unfold cut
  split
  · simp only [List.length_take, List.length_drop]; omega
  · simp
theorem sb_list (X : List UInt8) : (SB X).data.toList = X := rfl
theorem cut_any (S : List UInt8) (c : UInt8) (hS : S.length ≤ 100000) (w : World) (hg : Good w) :
    Calls Tryd.prog 16 #[Str S, Str [c]] w fun e w' => e = .returned (.tuple #[Str (cut S [c]).1, Str (cut S [c]).2.1, .bool (cut S [c]).2.2]) ∧ Below w.heap.size w w' := by
  obtain ⟨_, _, _, m, h4⟩ := hg
  refine (Tryd.strings_Cut (SB S) (SB [c]) m w (by rw [sb_size]; omega) h4).mono ?_
  rintro e w' ⟨rfl, n, rfl⟩
  exact ⟨rfl, ⟨rfl, rfl, rfl, by simp, fun i _ => by simp⟩⟩
theorem sb_ne {X Y : List UInt8} (h : ¬ X = Y) : ((SB X).toList == (SB Y).toList) = false := by
  rw [Lib.toList_data, Lib.toList_data, beq_eq_false_iff_ne]
  exact h
set_option maxRecDepth 100000 in
set_option maxHeartbeats 4000000 in
theorem parse_any (S : List UInt8) (hS : S.length ≤ 1000) (w : World) (hg : Good w) :
    Calls Tryd.prog 8 #[Str S] w fun e w' => e = .returned (if tx (progId S).1 (progId S).2.1 (progId S).2.2 = S then .tuple #[Id (progId S).1 (progId S).2.1 (progId S).2.2, .bool true] else .tuple #[Id 0 0 0, .bool false]) ∧ Below w.heap.size w w' := by
  obtain ⟨K1, hK1⟩ : ∃ K, K = (cut S [45]).1 := ⟨_, rfl⟩
  obtain ⟨R, hR⟩ : ∃ K, K = (cut S [45]).2.1 := ⟨_, rfl⟩
  obtain ⟨K2, hK2⟩ : ∃ K, K = (cut R [46]).1 := ⟨_, rfl⟩
  obtain ⟨K3, hK3⟩ : ∃ K, K = (cut R [46]).2.1 := ⟨_, rfl⟩
  have l1 : K1.length ≤ 1000 := by rw [hK1]; exact Nat.le_trans (cut_len S [45]).1 hS
  have lR : R.length ≤ 1000 := by rw [hR]; exact Nat.le_trans (cut_len S [45]).2 hS
  have l2 : K2.length ≤ 1000 := by rw [hK2]; exact Nat.le_trans (cut_len R [46]).1 lR
  have l3 : K3.length ≤ 1000 := by rw [hK3]; exact Nat.le_trans (cut_len R [46]).2 lR
  have hp : progId S = (numB 32 K1, numB 32 K2, numB 16 K3) := by unfold progId; rw [hK1, hK2, hK3, hR]
  rw [hp]
  obtain ⟨c, hc⟩ : ∃ c, c = numB 32 K1 := ⟨_, rfl⟩
  obtain ⟨q, hq⟩ : ∃ q, q = numB 32 K2 := ⟨_, rfl⟩
  obtain ⟨n, hn⟩ : ∃ n, n = numB 16 K3 := ⟨_, rfl⟩
  rw [← hc, ← hq, ← hn]
  simp only
  have bc : c ≤ 4294967295 := by rw [hc]; exact numB_le 32 _
  have bq : q ≤ 4294967295 := by rw [hq]; exact numB_le 32 _
  have bn : n ≤ 65535 := by rw [hn]; exact numB_le 16 _
  have HC1 := Lib.hid (fun (W : World) (h : Sid w W) => (by rw [hK1, hR]; exact cut_any S 45 (by omega) W h.1 : Calls Tryd.prog 16 #[Str S, .string ⟨#[45]⟩] W fun e w' => e = .returned (.tuple #[Str K1, Str R, .bool (cut S [45]).2.2]) ∧ Below W.heap.size W w'))
  have HC2 := Lib.hid (fun (W : World) (h : Sid w W) => (by rw [hK2, hK3]; exact cut_any R 46 (by omega) W h.1 : Calls Tryd.prog 16 #[Str R, .string ⟨#[46]⟩] W fun e w' => e = .returned (.tuple #[Str K2, Str K3, .bool (cut R [46]).2.2]) ∧ Below W.heap.size W w'))
  have HN1 := Lib.hid (fun (W : World) (h : Sid w W) => (by rw [hc]; exact num_any 32 (Or.inl rfl) (SB K1) (by rw [sb_size]; omega) W h.1 : Calls Tryd.prog 17 #[Str K1, .int .i64 32] W fun e w' => e = .returned (.int .u64 c) ∧ Below W.heap.size W w'))
  have HN2 := Lib.hid (fun (W : World) (h : Sid w W) => (by rw [hq]; exact num_any 32 (Or.inl rfl) (SB K2) (by rw [sb_size]; omega) W h.1 : Calls Tryd.prog 17 #[Str K2, .int .i64 32] W fun e w' => e = .returned (.int .u64 q) ∧ Below W.heap.size W w'))
  have HN3 := Lib.hid (fun (W : World) (h : Sid w W) => (by rw [hn]; exact num_any 16 (Or.inr rfl) (SB K3) (by rw [sb_size]; omega) W h.1 : Calls Tryd.prog 17 #[Str K3, .int .i64 16] W fun e w' => e = .returned (.int .u64 n) ∧ Below W.heap.size W w'))
  have HT := Lib.hid (fun (W : World) (h : Sid w W) => text_any c q n bc bq bn W h.1)
  have HS := Lib.hid (sid_alloc (sid_start hg) (.cells #[.int .u32 0, .int .u32 0, .int .u16 0] 25))
  have HB0 := Lib.hid (row_alloc w (#[.int .u32 0, .int .u32 0, .int .u16 0]) 25)
  have wc : (c : Int) % 4294967296 = c := by omega
  have wq : (q : Int) % 4294967296 = q := by omega
  have wn : IntKind.u16.wrap (n : Int) = n := by rw [IntKind.wrap_u16]; omega
  clear hp
  clear hc hq hn
  clear hK1 hR hK2 hK3 l1 lR l2 l3 bc bq bn hg hS
  go_enter Tryd.func8, Tryd.ntmps8
  go_wp2_with fail
  go_at_call 16; refine (HC1.out _ HS.out).mono ?_; rintro e w1 ⟨rfl, hb1⟩
  have H1 := Lib.hid (sid_step HS.out hb1)
  have HB1 := Lib.hid (row_step HB0.out hb1)
  clear hb1
  go_wp2_with fail
  go_at_call 16; refine (HC2.out _ H1.out).mono ?_; rintro e w2 ⟨rfl, hb2⟩
  have H2 := Lib.hid (sid_step H1.out hb2)
  have HB2 := Lib.hid (row_step HB1.out hb2)
  clear hb2
  go_wp2_with fail
  go_at_call 17; refine (HN1.out _ H2.out).mono ?_; rintro e w3 ⟨rfl, hb3⟩
  have H3 := Lib.hid (sid_step H2.out hb3)
  have HB3 := Lib.hid (row_step HB2.out hb3)
  clear hb3
  go_wp2_with fail
  go_at_call 17; refine (HN2.out _ H3.out).mono ?_; rintro e w4 ⟨rfl, hb4⟩
  have H4 := Lib.hid (sid_step H3.out hb4)
  have HB4 := Lib.hid (row_step HB3.out hb4)
  clear hb4
  go_wp2_with fail
  go_at_call 17; refine (HN3.out _ H4.out).mono ?_; rintro e w5 ⟨rfl, hb5⟩
  have H5 := Lib.hid (sid_step H4.out hb5)
  have HB5 := Lib.hid (row_step HB4.out hb5)
  clear hb5
  go_wp2_with fail
  go_at_call 7; refine (HT.out _ (sid_alloc H5.out _)).mono ?_; rintro e w6 ⟨rfl, hb6⟩
  have H6 := Lib.hid (sid_step (sid_alloc H5.out _) hb6)
  have HB6 := Lib.hid (row_step (row_alloc_step HB5.out _) hb6)
  have HI6 := Lib.hid (row_step (row_alloc w5 #[.int .u32 c, .int .u32 q, .int .u16 n] 25) hb6)
  clear hb6
  have d0 := row_cell HB6.out 0
  have d1 := row_cell HB6.out 1
  have d2 := row_cell HB6.out 2
  have i0 := row_cell HI6.out 0
  have i1 := row_cell HI6.out 1
  have i2 := row_cell HI6.out 2
  simp only [List.getElem?_toArray, List.getElem?_cons_zero, List.getElem?_cons_succ] at d0 d1 d2 i0 i1 i2
  have f0 := row_frz HB6.out 0
  have f1 := row_frz HB6.out 1
  have f2 := row_frz HB6.out 2
  have hne : w5.heap.size ≠ w.heap.size := by have := row_lt HB5.out; omega
  have hlt := row_lt HB6.out
  have HBel : ∀ x y z, Hid (Below w.heap.size w (((w6.setCell ⟨w.heap.size, 0, none⟩ x).setCell ⟨w.heap.size, 1, none⟩ y).setCell ⟨w.heap.size, 2, none⟩ z)) := fun x y z => ((H6.out.2.setCell (p := ⟨w.heap.size, 0, none⟩) (Nat.le_refl _) x).setCell (p := ⟨w.heap.size, 1, none⟩) (Nat.le_refl _) y).setCell (p := ⟨w.heap.size, 2, none⟩) (Nat.le_refl _) z
  by_cases h : tx c q n = S
  · have HE := Lib.hid h
    go_wp2_with fail
    (try rw [if_pos HE.out])
    exact bodyPost_ret (v := .tuple #[.agg #[.int .u32 c, .int .u32 q, .int .u16 n], .bool true]) (by simp [results, Tryd.results8, go_sem, World.cell?_setCell_same, World.cell?_setCell_other, d0, d1, d2]) rfl ⟨rfl, HBel _ _ _⟩
  · have hb := sb_ne h
    have HE := Lib.hid h
    clear h
    go_wp2_with fail
    (try rw [if_neg HE.out])
    exact bodyPost_ret (v := .tuple #[.agg #[.int .u32 0, .int .u32 0, .int .u16 0], .bool false]) (by simp [results, Tryd.results8, go_sem, World.cell?_setCell_same, World.cell?_setCell_other, d0, d1, d2]) rfl ⟨rfl, HBel _ _ _⟩
end Num
end Go.Proofs.YtbodakfgoijeeaaDoor
