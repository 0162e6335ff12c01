/-
  Layer 5's own example.
-/
import Derived.Test.YtbodakfgoijeeaaDoorII
import Derived.Test.YtbodakfgoijeeaaDoorID
import Derived.Deep.RegionHeld3
namespace Go.Proofs.YtbodakfgoijeeaaDoor
open Go.RowKit Go.Sort Go.Lib
namespace Num
set_option linter.unusedSimpArgs false
set_option linter.unusedVariables false
theorem tx731 : tx 7 3 1 = [55, 45, 51, 46, 49] := by
  unfold tx
  rw [dec_small (i := 7) (by omega), dec_small (i := 3) (by omega), dec_small (i := 1) (by omega)]
  rfl
theorem prog731 : progId [55, 45, 51, 46, 49] = (7, 3, 1) := by
  rw [← tx731]
  exact progId_tx (by decide) (by decide) (by decide)
def S6 (w : World) (a b : Nat) (W : World) : Prop := W.cell? ⟨a, 0, none⟩ = some (.int .u32 7) ∧ W.cell? ⟨a, 1, none⟩ = some (.int .u32 3) ∧ W.cell? ⟨a, 2, none⟩ = some (.int .u16 1) ∧ W.cell? ⟨b, 0, none⟩ = some (.int .u32 7) ∧ W.cell? ⟨b, 1, none⟩ = some (.int .u32 3) ∧ W.cell? ⟨b, 2, none⟩ = some (.int .u16 1) ∧ Sid w W
theorem s6_step {w W w' : World} {a b : Nat} (h : S6 w a b W) (hb : Below W.heap.size W w') : S6 w a b w' := by
  obtain ⟨h0, h1, h2, h3, h4, h5, h6⟩ := h
  exact ⟨cell_keep hb h0, cell_keep hb h1, cell_keep hb h2, cell_keep hb h3, cell_keep hb h4, cell_keep hb h5, sid_step h6 hb⟩
theorem s6_drew {w W : World} {a b : Nat} (h : S6 w a b W) : S6 w a b W.drew := s6_step h (Below.drew (Below.refl _ _))
set_option maxRecDepth 100000 in
set_option maxHeartbeats 8000000 in
theorem known_any (w : World) (hg : Good w) : Calls Tryd.prog 6 #[] w fun e w' => e = .returned (.bool true) ∧ Below w.heap.size w w' := by
  have HP := Lib.hid (fun (W : World) (h : Sid w W) => (by
    have h := parse_any [55, 45, 51, 46, 49] (by decide) W h.1
    rw [prog731] at h
    simp only at h
    rw [if_pos tx731] at h
    exact h : Calls Tryd.prog 8 #[.string ⟨#[55, 45, 51, 46, 49]⟩] W fun e w' => e = .returned (.tuple #[.agg #[.int .u32 7, .int .u32 3, .int .u16 1], .bool true]) ∧ Below W.heap.size W w'))
  have HN1 := Lib.hid (show ∀ W : World, Calls Tryd.prog 13 #[.agg #[.int .u32 7, .int .u32 3, .int .u16 0], .int .i64 1] W fun e w' => e = .returned (.tuple #[.agg #[.int .u32 7, .int .u32 3, .int .u16 1], .bool true]) ∧ Below W.heap.size W w' from fun W => nested_any 7 3 0 1 W)
  have HN2 := Lib.hid (show ∀ W : World, Calls Tryd.prog 13 #[.agg #[.int .u32 7, .int .u32 3, .int .u16 1], .int .i64 1] W fun e w' => e = .returned (.tuple #[.agg #[.int .u32 0, .int .u32 0, .int .u16 0], .bool false]) ∧ Below W.heap.size W w' from fun W => nested_any 7 3 1 1 W)
  have HT := Lib.hid (fun (W : World) (h : Sid w W) => (by
    have h := text_any 7 3 1 (by decide) (by decide) (by decide) W h.1
    rw [tx731] at h
    exact h : Calls Tryd.prog 7 #[.agg #[.int .u32 7, .int .u32 3, .int .u16 1]] W fun e w' => e = .returned (.string ⟨#[55, 45, 51, 46, 49]⟩) ∧ Below W.heap.size W w'))
  have HR := Lib.hid (show ∀ W : World, Calls Tryd.prog 14 #[.agg #[.int .u32 7, .int .u32 3, .int .u16 1]] W fun e w' => e = .returned (.agg #[.int .u32 7, .int .u32 3, .int .u16 0]) ∧ Below W.heap.size W w' from fun W => root_any 7 3 1 W)
  have HL := Lib.hid (show ∀ W : World, Calls Tryd.prog 11 #[.agg #[.int .u32 7, .int .u32 3, .int .u16 0], .agg #[.int .u32 7, .int .u32 3, .int .u16 1]] W fun e w' => e = .returned (.bool true) ∧ Below W.heap.size W w' from fun W => pless_any 7 3 0 7 3 1 W)
  have HS := Lib.hid (sid_start hg)
  clear hg
  go_enter Tryd.func6, Tryd.ntmps6
  go_wp2_with fail
  go_at_call 8; refine (HP.out _ HS.out).mono ?_; rintro e w1 ⟨rfl, hb1⟩
  have H1 := Lib.hid (sid_step HS.out hb1)
  clear hb1
  go_wp2_with fail
  go_at_call 13; refine (HN1.out _).mono ?_; rintro e w2 ⟨rfl, hb2⟩
  have H2 := Lib.hid (sid_step (sid_alloc H1.out _) hb2)
  have I2 := Lib.hid (row_step (row_alloc w1 #[.int .u32 7, .int .u32 3, .int .u16 1] 25) hb2)
  have i0 := row_cell I2.out 0
  have i1 := row_cell I2.out 1
  have i2 := row_cell I2.out 2
  simp only [List.getElem?_toArray, List.getElem?_cons_zero, List.getElem?_cons_succ] at i0 i1 i2
  have ilt := row_lt I2.out
  clear hb2
  go_wp2_with fail
  go_at_call 13; refine (HN2.out _).mono ?_; rintro e w3 ⟨rfl, hb3⟩
  have H3 := Lib.hid (sid_step (sid_alloc H2.out _) hb3)
  have I3 := Lib.hid (row_step (row_alloc_step I2.out _) hb3)
  have J3 := Lib.hid (row_step (row_alloc w2 #[.int .u32 7, .int .u32 3, .int .u16 1] 25) hb3)
  have H4 := Lib.hid (sid_alloc H3.out (.cells #[.int .u32 0, .int .u32 0, .int .u16 0] 25))
  have I4 := row_alloc_step I3.out (.cells #[.int .u32 0, .int .u32 0, .int .u16 0] 25)
  have J4 := row_alloc_step J3.out (.cells #[.int .u32 0, .int .u32 0, .int .u16 0] 25)
  have HS6 : S6 w w1.heap.size w2.heap.size (w3.alloc (.cells #[.int .u32 0, .int .u32 0, .int .u16 0] 25)) := ⟨row_cell I4 0, row_cell I4 1, row_cell I4 2, row_cell J4 0, row_cell J4 1, row_cell J4 2, H4.out⟩
  clear hb3 i0 i1 i2 ilt I4 J4
  go_wp2_with fail
  generalize w3.alloc (.cells #[.int .u32 0, .int .u32 0, .int .u16 0] 25) = w4 at HS6 ⊢
  go_region_held3 (fun w' => w'.cell? ⟨w1.heap.size, 0, none⟩ = some (.int .u32 7) ∧ w'.cell? ⟨w1.heap.size, 1, none⟩ = some (.int .u32 3) ∧ w'.cell? ⟨w1.heap.size, 2, none⟩ = some (.int .u16 1) ∧ w'.cell? ⟨w2.heap.size, 0, none⟩ = some (.int .u32 7) ∧ w'.cell? ⟨w2.heap.size, 1, none⟩ = some (.int .u32 3) ∧ w'.cell? ⟨w2.heap.size, 2, none⟩ = some (.int .u16 1) ∧ Sid w w') (first | exact (by assumption : S6 _ _ _ _) | exact s6_drew (by assumption)) (first
    | (go_at_call 7; refine (HT.out _ ?hs).mono ?_; (case hs => exact (by assumption : S6 _ _ _ _).2.2.2.2.2.2); rintro e w' ⟨rfl, hb⟩; have hk : S6 w w1.heap.size w2.heap.size w' := s6_step (by assumption) hb; clear hb)
    | (go_at_call 14; refine (HR.out _).mono ?_; rintro e w' ⟨rfl, hb⟩; have hk : S6 w w1.heap.size w2.heap.size w' := s6_step (by assumption) hb; clear hb)
    | (go_at_call 11; refine (HL.out _).mono ?_; rintro e w' ⟨rfl, hb⟩; have hk : S6 w w1.heap.size w2.heap.size w' := s6_step (by assumption) hb; clear hb))
  all_goals
    have HF := Lib.hid (by assumption : S6 w w1.heap.size w2.heap.size _).2.2.2.2.2.2.2
    go_wp2
    go_ret
    exact ⟨rfl, HF.out⟩
end Num
end Go.Proofs.YtbodakfgoijeeaaDoor
