/-
  The calls that the statements' known makes.
-/
import Derived.Test.YtomfgncbdgifoaaJp16CV
import Derived.Test.YtomfgncbdgifoaaJp18CO
namespace Go.Proofs.Ytomfgncbdgifoaa
open Go.RowKit
namespace Num
open Ints
set_option linter.unusedSimpArgs false
set_option linter.unusedVariables false
/-- An Int, as a tree. -/
def intT (M : Nat) (I : Int) : VT (M + 1) := (1, I, 0, ⟨#[]⟩, [])
theorem intT_enc (M : Nat) (I : Int) : encV (M + 1) (intT M I) = 1 :: beI (IntKind.u64.wrap I) 8 := by
  show (if ((1 : Int) == 1) = true then 1 :: beI (IntKind.u64.wrap I) 8 else _) = _
  rw [if_pos (by decide)]
theorem intT_len (M : Nat) (I : Int) : (encV (M + 1) (intT M I)).length = 9 := by rw [intT_enc, List.length_cons, beI_len]
theorem intT_clean (M : Nat) (I : Int) : cleanT (M + 1) (intT M I) = intT M I := by
  show (if ((1 : Int) == 1) = true then ((1, I, 0, ⟨#[]⟩, []) : VT (M + 1)) else _) = _
  rw [if_pos (by decide)]; rfl
theorem intT_ok (M : Nat) (I : Int) (h : okI I) : okT (M + 1) (intT M I) ∧ greatT (M + 1) 0 (intT M I) = false ∧ (encV (M + 1) (intT M I)).length ≤ 4096 := by
  refine ⟨⟨h, (show (0 : Nat) < 2 ^ 64 by decide), fun x hx => by cases hx⟩, ?_, by rw [intT_len]; omega⟩
  show (if ((1 : Int) == 3) = true then _ else if ((1 : Int) == 4) = true then _ else false) = false
  rw [if_neg (by decide), if_neg (by decide)]
theorem intT_rep (w : World) (M : Nat) (I : Int) (h : okI I) : Rep w (M + 1) (.agg #[.int .i64 1, .int .i64 I, .float .f64 0, .string ⟨#[]⟩, .slice none 0 0]) (intT M I) :=
  ⟨none, 0, 0, rfl, (show okI 1 by decide), h, (show (0 : Nat) < 2 ^ 64 by decide), (show (⟨#[]⟩ : ByteArray).size ≤ maxLen by decide), rfl, Nat.le_refl _, Nat.zero_le _, fun h => absurd h (Nat.lt_irrefl _)⟩
theorem intT_small (M : Nat) (I : Int) : Small (M + 1) (intT M I) := by
  refine ⟨deepT_not (by decide), ?_, ?_⟩
  · show (if ((1 : Int) == 4) = true then _ else 1) ≤ 1000
    rw [if_neg (by decide)]; omega
  · show (if (cmpI (kindI 1) (kindI 1) != 0) = true then _ else if ((1 : Int) == 1) = true then cmpI I I else _) = 0
    rw [if_neg (by decide), if_pos (by decide)]
    unfold cmpI
    simp
theorem nilT_enc (M : Nat) : encV (M + 1) ((0, 0, 0, ⟨#[]⟩, []) : VT (M + 1)) = [0] := by
  show (if ((0 : Int) == 1) = true then _ else if ((0 : Int) == 2) = true then _ else if ((0 : Int) == 3) = true then _ else if ((0 : Int) == 4) = true then _ else [0]) = _
  rw [if_neg (by decide), if_neg (by decide), if_neg (by decide), if_neg (by decide)]
theorem nilT_ok (M : Nat) : okT (M + 1) ((0, 0, 0, ⟨#[]⟩, []) : VT (M + 1)) ∧ greatT (M + 1) 0 ((0, 0, 0, ⟨#[]⟩, []) : VT (M + 1)) = false ∧ (encV (M + 1) ((0, 0, 0, ⟨#[]⟩, []) : VT (M + 1))).length ≤ 4096 := by
  refine ⟨⟨(show okI 0 by decide), (show (0 : Nat) < 2 ^ 64 by decide), fun x hx => by cases hx⟩, ?_, by rw [nilT_enc]; decide⟩
  show (if ((0 : Int) == 3) = true then _ else if ((0 : Int) == 4) = true then _ else false) = false
  rw [if_neg (by decide), if_neg (by decide)]
theorem putB_by (i1 i2 i3 : Int) (S1 S2 : ByteArray) (m : Nat) (L : List (List Int)) (hL : ∀ Y ∈ L, By Y) : By (putB i1 i2 i3 S1 S2 m L) := by
  unfold putB
  refine by_app (by_app (by_app (by_app (idB_by _ _ _) (nmB_by _)) (nmB_by _)) (by_be _ _)) (fun x hx => ?_)
  obtain ⟨Y, hY, hx⟩ := List.mem_flatten.1 hx
  exact hL Y hY x hx
theorem repB_by (i1 i2 i3 r : Int) (Y : List Int) (h : By Y) : By (repB i1 i2 i3 r Y) := by_app (by_app (idB_by _ _ _) (by_be _ _)) h
/-- The call that known makes, and its reply. -/
def kOp (M : Nat) : List Int := putB 1 2 0 ⟨#[103]⟩ ⟨#[109]⟩ 1 [encV (M + 1) (intT M 3)]
def kRep (M : Nat) : List Int := repB 1 2 0 30 (encV (M + 1) ((0, 0, 0, ⟨#[]⟩, []) : VT (M + 1)))
theorem kOp_len (M : Nat) : (kOp M).length = 26 := by
  unfold kOp putB
  simp only [List.length_append, idB_len, nmB_len, beI_len, List.flatten_cons, List.flatten_nil, List.append_nil, intT_len]; decide
theorem kRep_len (M : Nat) : (kRep M).length = 13 := by
  unfold kRep repB
  simp only [List.length_append, idB_len, beI_len, nilT_enc, List.length_cons, List.length_nil]
theorem kOp_by (M : Nat) : By (kOp M) := putB_by _ _ _ _ _ _ _ (fun Y hY => by rw [List.mem_singleton.1 hY]; exact enc_by _ _)
theorem kRep_by (M : Nat) : By (kRep M) := repB_by _ _ _ _ _ (enc_by _ _)
theorem kOp_read (M : Nat) (hM : M < 100000) : opD M (kOp M) = some ((1, 2, 0), ⟨#[103]⟩, ⟨#[109]⟩, [intT M 3], 26) := by
  have h := opD_put M hM 1 2 0 ⟨#[103]⟩ ⟨#[109]⟩ [intT M 3] (by omega) (by omega) (by omega) (by decide) (by decide) (show 1 ≤ 16 by decide) (fun T hT => by rw [List.mem_singleton.1 hT]; exact intT_ok M 3 (by decide))
  rw [List.map_cons, List.map_nil, List.map_cons, List.map_nil, intT_clean] at h
  have e : kOp M = putB 1 2 0 ⟨#[103]⟩ ⟨#[109]⟩ [intT M 3].length [encV (M + 1) (intT M 3)] := rfl
  rw [← e, kOp_len] at h
  exact h
theorem kRep_read (M : Nat) (hM : M < 100000) : ∃ T, repD M (kRep M) = some ((1, 2, 0), 30, T, 13) := by
  obtain ⟨h1, h2, h3⟩ := nilT_ok M
  have h := repD_put M hM 1 2 0 30 _ (by omega) (by omega) (by omega) (by omega) h1 h2 h3
  have e : kRep M = repB 1 2 0 30 (encV (M + 1) ((0, 0, 0, ⟨#[]⟩, []) : VT (M + 1))) := rfl
  rw [← e, kRep_len] at h
  exact ⟨_, h⟩
theorem kput_puts (M : Nat) (w : World) : Puts (w.alloc (.cells #[.int .i64 1, .int .i64 3, .float .f64 0, .string ⟨#[]⟩, .slice none 0 0] 47)) (some ⟨w.heap.size, 0, none⟩) 1 1 [encV (M + 1) (intT M 3)] := by
  rw [intT_enc]
  exact puts_one w (puts_int 3 0 none 0 (by decide) (by decide) (by decide)) (by rw [List.length_cons, beI_len]; omega)
theorem krepL (M : Nat) (w : World) {vb : Nat} (h : w.heap[vb]? = some (.cells #[.int .i64 1, .int .i64 3, .float .f64 0, .string ⟨#[]⟩, .slice none 0 0] 47 (0, 0))) : RepL w (Rep w (M + 1)) (some ⟨vb, 0, none⟩) 1 1 [intT M 3] :=
  ⟨rfl, Nat.le_refl _, by unfold maxLen; omega, fun _ => ⟨vb, 0, rfl, fun i hi => by
    obtain rfl : i = 0 := by simp at hi; omega
    exact ⟨_, _, _, _, _, (row_cell h 0).trans rfl, (row_cell h 1).trans rfl, (row_cell h 2).trans rfl, (row_cell h 3).trans rfl, (row_cell h 4).trans rfl, intT_rep w M 3 (by decide)⟩⟩⟩
set_option maxRecDepth 100000 in
set_option maxHeartbeats 2000000 in
theorem known6 (M : Nat) (h4 : 4096 ≤ M) (hM : M < 100000) (w : World) : Calls Try.prog 8 #[] w fun e w' => e = .returned (.bool true) ∧ Below w.heap.size w w' := by
  have HKO := Lib.hid (kOp_read M hM)
  have HKR := Lib.hid (kRep_read M hM)
  go_enter Try.func8, Try.ntmps8
  go_wp2_with fail
  go_at_call 27; refine (int_ref_any _ _).mono ?_; rintro e w1 ⟨rfl, hb1⟩
  have HB1 := Lib.hid hb1
  have HP := Lib.hid (puts_bel ((Below.refl _ _).alloc (Nat.le_refl _) (.cells #[.int .u32 1, .int .u32 2, .int .u16 0, .string ⟨#[103]⟩, .string ⟨#[109]⟩, .slice (some ⟨w1.heap.size, 0, none⟩) 1 1] 29)) (kput_puts M w1))
  have HA := Lib.hid (row_alloc_step (row_alloc w1 #[.int .i64 1, .int .i64 3, .float .f64 0, .string ⟨#[]⟩, .slice none 0 0] 47) (.cells #[.int .u32 1, .int .u32 2, .int .u16 0, .string ⟨#[103]⟩, .string ⟨#[109]⟩, .slice (some ⟨w1.heap.size, 0, none⟩) 1 1] 29))
  have HO := Lib.hid (row2_alloc w1 (.cells #[.int .i64 1, .int .i64 3, .float .f64 0, .string ⟨#[]⟩, .slice none 0 0] 47) #[.int .u32 1, .int .u32 2, .int .u16 0, .string ⟨#[103]⟩, .string ⟨#[109]⟩, .slice (some ⟨w1.heap.size, 0, none⟩) 1 1] 29)
  have HB2 := Lib.hid (bel_alloc (bel_alloc hb1 (.cells #[.int .i64 1, .int .i64 3, .float .f64 0, .string ⟨#[]⟩, .slice none 0 0] 47)) (.cells #[.int .u32 1, .int .u32 2, .int .u16 0, .string ⟨#[103]⟩, .string ⟨#[109]⟩, .slice (some ⟨w1.heap.size, 0, none⟩) 1 1] 29))
  clear hb1
  go_wp2_with fail
  go_at_call 10; refine (cput_yes _ 1 2 0 ⟨#[103]⟩ ⟨#[109]⟩ (some ⟨w1.heap.size, 0, none⟩) 1 1 [encV (M + 1) (intT M 3)] (by omega) (by omega) (by omega) (by decide) (by decide) HP.out (by omega) ⟨by decide, by decide⟩).mono ?_; rintro e w2 ⟨p2, k2, rfl, ho2⟩
  rw [show putB 1 2 0 ⟨#[103]⟩ ⟨#[109]⟩ 1 [encV (M + 1) (intT M 3)] = kOp M from rfl, kOp_len] at ho2
  rw [show putB 1 2 0 ⟨#[103]⟩ ⟨#[109]⟩ 1 [encV (M + 1) (intT M 3)] = kOp M from rfl, kOp_len]
  have HO2 := Lib.hid ho2
  have HA2 := Lib.hid (row_step HA.out (ow_bel ho2))
  have HOB2 := Lib.hid (row_step HO.out (ow_bel ho2))
  have HB3 := Lib.hid (bel_step HB2.out (ow_bel ho2))
  clear ho2 HP HB1
  go_wp2_with fail
  go_at_call 15; refine (cread_any M h4 hM w2 p2 26 k2 (kOp M) (rd_of_ow HO2.out) (kOp_by M) (by omega)).mono ?_; rintro e w3 ⟨hb3, _, hyes⟩
  obtain ⟨pL, lL, cL, rfl, hrep⟩ := hyes _ _ _ _ _ HKO.out
  simp only [opA]
  have HB4 := Lib.hid (bel_alloc (bel_step HB3.out hb3) (.cells #[.int .u32 1, .int .u32 2, .int .u16 0, .string ⟨#[103]⟩, .string ⟨#[109]⟩, .slice pL lL cL] 29))
  have HA3 := Lib.hid (row_alloc_step (row_step HA2.out hb3) (.cells #[.int .u32 1, .int .u32 2, .int .u16 0, .string ⟨#[103]⟩, .string ⟨#[109]⟩, .slice pL lL cL] 29))
  have HOB3 := Lib.hid (row_alloc_step (row_step HOB2.out hb3) (.cells #[.int .u32 1, .int .u32 2, .int .u16 0, .string ⟨#[103]⟩, .string ⟨#[109]⟩, .slice pL lL cL] 29))
  have HPB3 := Lib.hid (row_alloc w3 #[.int .u32 1, .int .u32 2, .int .u16 0, .string ⟨#[103]⟩, .string ⟨#[109]⟩, .slice pL lL cL] 29)
  have HRP3 := Lib.hid (repL_bel ((Below.refl w3.heap.size w3).alloc (Nat.le_refl _) (.cells #[.int .u32 1, .int .u32 2, .int .u16 0, .string ⟨#[103]⟩, .string ⟨#[109]⟩, .slice pL lL cL] 29)) hrep)
  have r3 := row_step HOB2.out hb3
  have ho3 := row_lt r3
  have hn3 : w3.heap.size ≠ w1.heap.size + 1 := by omega
  have c0 := row_cell r3 0; have c1 := row_cell r3 1; have c2 := row_cell r3 2; have c3 := row_cell r3 3; have c4 := row_cell r3 4; have c5 := row_cell r3 5
  simp only [List.getElem?_toArray, List.getElem?_cons_zero, List.getElem?_cons_succ] at c0 c1 c2 c3 c4 c5
  clear hb3 hyes hrep r3
  go_wp2_with fail
  go_at_call 21; refine (creply_nil _ 1 2 0 30 0 0 0 ⟨#[]⟩ none 0 0 (encV (M + 1) ((0, 0, 0, ⟨#[]⟩, []) : VT (M + 1))) (by omega) (by omega) (by omega) (by omega) (by omega) (by rw [nilT_enc]; exact puts_nil 0 0 none 0 (by decide) (by decide) (by decide)) (by rw [nilT_enc]; decide)).mono ?_; rintro e w4 ⟨p4, k4, rfl, ho4⟩
  rw [show repB 1 2 0 30 (encV (M + 1) ((0, 0, 0, ⟨#[]⟩, []) : VT (M + 1))) = kRep M from rfl, kRep_len] at ho4
  rw [show repB 1 2 0 30 (encV (M + 1) ((0, 0, 0, ⟨#[]⟩, []) : VT (M + 1))) = kRep M from rfl, kRep_len]
  have HO4 := Lib.hid ho4
  have HA4 := Lib.hid (row_step HA3.out (ow_bel ho4))
  have HOB4 := Lib.hid (row_step HOB3.out (ow_bel ho4))
  have HPB4 := Lib.hid (row_step HPB3.out (ow_bel ho4))
  have HRP4 := Lib.hid (repL_bel (ow_bel ho4) HRP3.out)
  have HB5 := Lib.hid (bel_step HB4.out (ow_bel ho4))
  clear ho4 c0 c1 c2 c3 c4 c5 HA3 HOB3 HPB3 HRP3 HB4
  go_wp2_with fail
  obtain ⟨TR, hTR⟩ := HKR.out
  have HTR := Lib.hid hTR
  clear hTR
  go_at_call 17; refine (creply_any M h4 hM w4 p4 13 k4 (kRep M) (rd_of_ow HO4.out) (kRep_by M) (by omega)).mono ?_; rintro e w5 ⟨hb5, _, hyes⟩
  obtain ⟨K, I, F, S, pr, lr, cr, rfl, _⟩ := hyes _ _ _ _ HTR.out
  simp only [repA]
  have HBr := Lib.hid (show Below w4.heap.size w4 (w5.alloc (.cells #[.int .u32 1, .int .u32 2, .int .u16 0, .int .i64 30, .int .i64 K, .int .i64 I, .float .f64 F, .string S, .slice pr lr cr] 49)) from bel_alloc hb5 _)
  have HA6 := Lib.hid (row_step HA4.out HBr.out)
  have HOB6 := Lib.hid (row_step HOB4.out HBr.out)
  have HPB6 := Lib.hid (row_step HPB4.out HBr.out)
  have HRB6 := Lib.hid (row_alloc w5 #[.int .u32 1, .int .u32 2, .int .u16 0, .int .i64 30, .int .i64 K, .int .i64 I, .float .f64 F, .string S, .slice pr lr cr] 49)
  have HRP6 := Lib.hid (repL_bel HBr.out HRP4.out)
  have HB6 := Lib.hid (bel_step HB5.out HBr.out)
  have s1 := row_step HOB4.out hb5
  have s2 := row_step HPB4.out hb5
  have t1 := row_lt s1
  have t2 := row_lt s2
  have n1 : w5.heap.size ≠ w1.heap.size + 1 := by omega
  have n2 : w5.heap.size ≠ w3.heap.size := by omega
  have c0 := row_cell s1 0; have c1 := row_cell s1 1; have c2 := row_cell s1 2; have c3 := row_cell s1 3; have c4 := row_cell s1 4; have c5 := row_cell s1 5
  simp only [List.getElem?_toArray, List.getElem?_cons_zero, List.getElem?_cons_succ] at c0 c1 c2 c3 c4 c5
  have d0 := row_cell s2 0; have d1 := row_cell s2 1; have d2 := row_cell s2 2; have d3 := row_cell s2 3; have d4 := row_cell s2 4; have d5 := row_cell s2 5
  simp only [List.getElem?_toArray, List.getElem?_cons_zero, List.getElem?_cons_succ] at d0 d1 d2 d3 d4 d5
  clear hb5 hyes s1 s2 HA4 HOB4 HPB4 HRP4 HB5
  go_wp2_with fail
  go_at_call 12; refine (op_same (M + 1) [intT M 3] _ 1 2 0 ⟨#[103]⟩ ⟨#[109]⟩ (some ⟨w1.heap.size, 0, none⟩) pL 1 lL 1 cL (krepL M _ HA6.out) HRP6.out).mono ?_; rintro e w7 ⟨rfl, hb7⟩
  have HA7 := Lib.hid (row_step HA6.out hb7)
  have HRP7 := Lib.hid (repL_bel hb7 HRP6.out)
  have HB7 := Lib.hid (bel_step HB6.out hb7)
  have s1 := row_step HOB6.out hb7
  have s2 := row_step HPB6.out hb7
  have s3 := row_step HRB6.out hb7
  clear c0 c1 c2 c3 c4 c5 d0 d1 d2 d3 d4 d5
  have c0 := row_cell s1 0; have c1 := row_cell s1 1; have c2 := row_cell s1 2; have c3 := row_cell s1 3; have c4 := row_cell s1 4; have c5 := row_cell s1 5
  simp only [List.getElem?_toArray, List.getElem?_cons_zero, List.getElem?_cons_succ] at c0 c1 c2 c3 c4 c5
  have d0 := row_cell s2 0; have d1 := row_cell s2 1; have d2 := row_cell s2 2; have d3 := row_cell s2 3; have d4 := row_cell s2 4; have d5 := row_cell s2 5
  simp only [List.getElem?_toArray, List.getElem?_cons_zero, List.getElem?_cons_succ] at d0 d1 d2 d3 d4 d5
  have g0 := row_cell s3 0; have g1 := row_cell s3 1; have g2 := row_cell s3 2; have g3 := row_cell s3 3; have g4 := row_cell s3 4; have g5 := row_cell s3 5; have g6 := row_cell s3 6; have g7 := row_cell s3 7; have g8 := row_cell s3 8
  simp only [List.getElem?_toArray, List.getElem?_cons_zero, List.getElem?_cons_succ] at g0 g1 g2 g3 g4 g5 g6 g7 g8
  clear hb7 s1 s2 s3
  go_wp2_with fail
  go_at_call 25; refine (csame_any (M + 1) [intT M 3] (fun x hx => by rw [List.mem_singleton.1 hx]; exact intT_small M 3) _ 1 2 0 ⟨#[103]⟩ ⟨#[109]⟩ (some ⟨w1.heap.size, 0, none⟩) pL 1 lL 1 cL (krepL M _ HA7.out) HRP7.out).mono ?_; rintro e w8 ⟨rfl, hb8⟩
  have HB8 := Lib.hid (bel_step HB7.out hb8)
  clear hb8
  go_wp2
  go_ret
  exact ⟨rfl, HB8.out⟩
end Num
end Go.Proofs.Ytomfgncbdgifoaa
/-
  CallReads: the walk.
-/
namespace Go.Proofs.Ytomfgncbdgifoaa
open Go.RowKit
namespace Num
open Ints
set_option linter.unusedSimpArgs false
set_option linter.unusedVariables false
/-- What is read: a call, its bytes, an error. -/
def opO (M : Nat) (X : List Int) : (Int × Int × Int) × ByteArray × ByteArray × List (VT (M + 1)) × Int × Int := match opD M X with | none => ((0, 0, 0), ⟨#[]⟩, ⟨#[]⟩, [], 0, 20) | some (i, S1, S2, L, j) => (i, S1, S2, L, (j : Int), 0)
def OpOut (M : Nat) (o : (Int × Int × Int) × ByteArray × ByteArray × List (VT (M + 1)) × Int × Int) (w : World) (e : Ending) (w' : World) : Prop := Below w.heap.size w w' ∧ ∃ p l c, e = .returned (.tuple #[opA o.1 o.2.1 o.2.2.1 p l c, .int .i64 o.2.2.2.2.1, .int .i64 o.2.2.2.2.2]) ∧ RepL w' (Rep w' (M + 1)) p l c o.2.2.2.1
theorem op_out {M : Nat} {X : List Int} {w w' : World} {e : Ending} (h : OpPost M (opD M X) w e w') : OpOut M (opO M X) w e w' := by
  obtain ⟨hb, h1, h2⟩ := h
  unfold opO
  cases hd : opD M X with
  | none => exact ⟨hb, none, 0, 0, h1 hd, rfl, Nat.le_refl _, Nat.zero_le _, fun h => absurd h (Nat.lt_irrefl _)⟩
  | some q =>
    obtain ⟨i, S1, S2, L, j⟩ := q
    obtain ⟨p, l, c, he, hr⟩ := h2 _ _ _ _ _ hd
    exact ⟨hb, p, l, c, he, hr⟩
def repO (M : Nat) (X : List Int) : (Int × Int × Int) × Int × VT (M + 1) × Int × Int := match repD M X with | none => ((0, 0, 0), 0, (0, 0, 0, ⟨#[]⟩, []), 0, 20) | some (i, r, T, j) => (i, r, T, (j : Int), 0)
def RepOut (M : Nat) (o : (Int × Int × Int) × Int × VT (M + 1) × Int × Int) (w : World) (e : Ending) (w' : World) : Prop := Below w.heap.size w w' ∧ ∃ (K I : Int) (F : Nat) (S : ByteArray) (p : Option Addr) (l c : Nat), e = .returned (.tuple #[repA o.1 o.2.1 K I F S p l c, .int .i64 o.2.2.2.1, .int .i64 o.2.2.2.2]) ∧ Rep w' (M + 1) (.agg #[.int .i64 K, .int .i64 I, .float .f64 F, .string S, .slice p l c]) o.2.2.1
theorem rep_out {M : Nat} {X : List Int} {w w' : World} {e : Ending} (h : ReplyPost M (repD M X) w e w') : RepOut M (repO M X) w e w' := by
  obtain ⟨hb, h1, h2⟩ := h
  unfold repO
  cases hd : repD M X with
  | none => exact ⟨hb, 0, 0, 0, ⟨#[]⟩, none, 0, 0, h1 hd, repS_rep _ _ _ (repS_zero (fun _ => True) w' M)⟩
  | some q =>
    obtain ⟨i, r, T, j⟩ := q
    obtain ⟨K, I, F, S, p, l, c, he, hr⟩ := h2 _ _ _ _ hd
    exact ⟨hb, K, I, F, S, p, l, c, he, hr⟩
theorem cread_out (M : Nat) (h4 : 66000 ≤ M) (hM : M < 100000) (w : World) (p : Option Addr) (l c : Nat) (X : List Int) (hb : RdB w p l c X) (hX : By X) (hl : l ≤ 66000) : Calls Try.prog 15 #[.slice p l c] w (OpOut M (opO M X) w) :=
  (cread_any M (by omega) hM w p l c X hb hX (by omega)).mono fun e w' h => op_out h
theorem rop_out (M : Nat) (hM : M < 100000) (w : World) (p : Option Addr) (l c : Nat) (X : List Int) (hb : RdB w p l c X) (hX : By X) (hl : l ≤ M) : Calls Try.prog 16 #[.slice p l c] w (OpOut M (opO M X) w) := by
  by_cases h : l < 10
  · exact (rop_short M w p l c X hb h).mono fun e w' h => op_out h
  · exact (rop_long M hM w p l c X hb hX hl (by omega)).mono fun e w' h => op_out h
theorem creply_out (M : Nat) (h4 : 66000 ≤ M) (hM : M < 100000) (w : World) (p : Option Addr) (l c : Nat) (X : List Int) (hb : RdB w p l c X) (hX : By X) (hl : l ≤ 66000) : Calls Try.prog 17 #[.slice p l c] w (RepOut M (repO M X) w) :=
  (creply_any M (by omega) hM w p l c X hb hX (by omega)).mono fun e w' h => rep_out h
theorem rrep_out (M : Nat) (hM : M < 100000) (w : World) (p : Option Addr) (l c : Nat) (X : List Int) (hb : RdB w p l c X) (hX : By X) (hl : l ≤ M) : Calls Try.prog 18 #[.slice p l c] w (RepOut M (repO M X) w) := by
  by_cases h : l < 10
  · exact (rrep_short M hM w p l c X hb hX hl h).mono fun e w' h => rep_out h
  · by_cases h2 : l < 12
    · exact (rrep_mid M hM w p l c X hb hX hl (by omega) h2).mono fun e w' h => rep_out h
    · exact (rrep_long M hM w p l c X hb hX hl (by omega)).mono fun e w' h => rep_out h
set_option maxRecDepth 100000 in
set_option maxHeartbeats 8000000 in
theorem creads_in (M : Nat) (h4 : 66000 ≤ M) (hM : M < 100000) (w : World) (r : Option Addr) (k f : Nat) (R : List Int) (n : Nat) (L : List (VT (n + 1))) (i1 i2 i3 : Int) (S1 S2 : ByteArray) (q : Option Addr) (m d : Nat) (at' xx : Nat) (cut : Bool) (hr : RdB w r k f R) (hR : By R) (hk : k ≤ 300) (hv : RepL w (Rep w (n + 1)) q m d L) (g1 : 0 ≤ i1 ∧ i1 < 4294967296) (g2 : 0 ≤ i2 ∧ i2 < 4294967296) (g3 : 0 ≤ i3 ∧ i3 < 65536) (hs1 : S1.size ≤ 100) (hs2 : S2.size ≤ 100) (hlt : (decide (m ≤ 40) && L.all (lightT (n + 1))) = true) (ha : at' < 65536) (hxx : xx < 256) :
    Calls Try.prog 4 #[.slice r k f, .agg #[.int .u32 i1, .int .u32 i2, .int .u16 i3, .string S1, .string S2, .slice q m d], .int .u16 at', .int .u8 xx, .bool cut] w fun e w' => e = .returned (.bool true) ∧ Below w.heap.size w w' := by
  have HR := Lib.hid hr
  have HBR := Lib.hid hR
  have HV := Lib.hid (repL_bel ((Below.refl w.heap.size w).alloc (Nat.le_refl _) (.cells #[.int .u32 i1, .int .u32 i2, .int .u16 i3, .string S1, .string S2, .slice q m d] 29)) hv)
  have HA := Lib.hid (bel_alloc (Below.refl w.heap.size w) (.cells #[.int .u32 i1, .int .u32 i2, .int .u16 i3, .string S1, .string S2, .slice q m d] 29))
  have XR := Lib.hid (row_alloc w #[.int .u32 i1, .int .u32 i2, .int .u16 i3, .string S1, .string S2, .slice q m d] 29)
  have HLt := Lib.hid (show (decide ((S1.size : Int) ≤ 100) && (decide ((S2.size : Int) ≤ 100) && (decide (m ≤ 40) && L.all (lightT (n + 1))))) = true by rw [hlt, decide_eq_true (show (S1.size : Int) ≤ 100 by omega), decide_eq_true (show (S2.size : Int) ≤ 100 by omega)]; rfl)
  have HPO := Lib.hid (fun (w' : World) (h : RepL w' (Rep w' (n + 1)) q m d L) => rputop_nil n L w' i1 i2 i3 S1 S2 q m d g1 g2 g3 hs1 hs2 h)
  have gk : ¬ ((300 : Int) < (k : Int)) := by omega
  clear hr hR hv hlt g1 g2 g3
  go_enter Try.func4, Try.ntmps4
  go_wp2_with fail
  go_at_call 8; refine (known6 M (by omega) hM _).mono ?_; rintro e w1 ⟨rfl, hb1⟩
  have HB1 := Lib.hid (bel_step HA.out hb1)
  have XR1 := row_step XR.out hb1
  have d0 := row_cell XR1 0; have d1 := row_cell XR1 1; have d2 := row_cell XR1 2; have d3 := row_cell XR1 3; have d4 := row_cell XR1 4; have d5 := row_cell XR1 5
  simp only [List.getElem?_toArray, List.getElem?_cons_zero, List.getElem?_cons_succ] at d0 d1 d2 d3 d4 d5
  have HV1 := Lib.hid (repL_bel hb1 HV.out)
  clear hb1
  go_wp2_with fail
  go_at_call 9; refine (lightop_any n L _ i1 i2 i3 S1 S2 q m d HV1.out).mono ?_; rintro e w2 ⟨rfl, hb2⟩
  rw [HLt.out]
  have HB2 := Lib.hid (bel_step HB1.out hb2)
  have XR2 := row_step XR1 hb2
  have e0 := row_cell XR2 0; have e1 := row_cell XR2 1; have e2 := row_cell XR2 2; have e3 := row_cell XR2 3; have e4 := row_cell XR2 4; have e5 := row_cell XR2 5
  simp only [List.getElem?_toArray, List.getElem?_cons_zero, List.getElem?_cons_succ] at e0 e1 e2 e3 e4 e5
  clear XR1 XR2 d0 d1 d2 d3 d4 d5
  have HV2 := Lib.hid (repL_bel hb2 HV1.out)
  clear hb2
  go_wp2_with fail
  go_at_call 11; refine (HPO.out _ HV2.out).mono ?_; rintro e w3 ⟨p3, l3, c3, Z, er, rfl, ho3, hZ, hl3⟩
  have HO3 := Lib.hid ho3
  have HZ := Lib.hid hZ
  have hlZ := ho3.1
  clear hZ e0 e1 e2 e3 e4 e5 HV HV1 HV2 XR HA HLt HPO
  rcases Nat.eq_zero_or_pos l3 with h0 | h0
  · subst h0
    obtain rfl : Z = [] := List.eq_nil_of_length_eq_zero hlZ
    clear ho3
    go_wp2_with fail
    have hrow := row_alloc (w3) #[.slice r k f, .slice p3 0 c3] 22
    obtain ⟨W4, hW4⟩ : ∃ W4, (w3).alloc (.cells #[.slice r k f, .slice p3 0 c3] 22) = W4 := ⟨_, rfl⟩
    have HA4 := Lib.hid (show Below (w3).heap.size (w3) W4 from hW4 ▸ (Below.refl _ _).alloc (Nat.le_refl _) _)
    rw [hW4] at hrow
    rw [hW4]
    have HB4 := Lib.hid (bel_step (bel_step HB2.out (ow_bel HO3.out)) HA4.out)
    have HRR := Lib.hid (rd_keep HB4.out HR.out)
    have HRB := Lib.hid (show RdB W4 p3 0 c3 [] from rd_keep HA4.out (rd_of_ow HO3.out))
    have c0 : W4.cell? ⟨w3.heap.size, 0, none⟩ = some (.slice r k f) := by rw [row_cell hrow]; rfl
    have HK1 := Lib.hid (show W4.cell? ⟨w3.heap.size, 1, none⟩ = some (.slice p3 0 c3) by rw [row_cell hrow]; rfl)
    clear hrow hW4
    refine wp_loop_rounds 3 ?_
    rw [rounds_succ]
    obtain ⟨o, hqo⟩ : ∃ o, opO M (R) = o := ⟨_, rfl⟩
    obtain ⟨ro, hqr⟩ : ∃ o, repO M (R) = o := ⟨_, rfl⟩
    have HC := Lib.hid (fun (w : World) (h : RdB w r k f (R)) => cread_out M h4 hM w _ _ _ _ h HBR.out (by omega))
    have HD := Lib.hid (fun (w : World) (h : RdB w r k f (R)) => rop_out M hM w _ _ _ _ h HBR.out (by omega))
    have HE := Lib.hid (fun (w : World) (h : RdB w r k f (R)) => creply_out M h4 hM w _ _ _ _ h HBR.out (by omega))
    have HF := Lib.hid (fun (w : World) (h : RdB w r k f (R)) => rrep_out M hM w _ _ _ _ h HBR.out (by omega))
    rw [hqo] at HC HD
    rw [hqr] at HE HF
    obtain ⟨⟨a1, a2, a3⟩, T1, T2, LL, J, E⟩ := o
    obtain ⟨⟨r1, r2, r3⟩, rr, TT, J2, E2⟩ := ro
    clear hqo hqr
    have cc0 := c0
    go_wp2_with fail
    go_at_call 15; refine (HC.out _ (HRR.out)).mono ?_; rintro e wa ⟨hba, pa0, la0, ca0, rfl, hra⟩
    simp only [opA]
    have HBa := Lib.hid (bel_alloc hba (.cells #[.int .u32 a1, .int .u32 a2, .int .u16 a3, .string T1, .string T2, .slice pa0 la0 ca0] 29))
    have HRa := Lib.hid (repL_bel ((Below.refl wa.heap.size wa).alloc (Nat.le_refl _) (.cells #[.int .u32 a1, .int .u32 a2, .int .u16 a3, .string T1, .string T2, .slice pa0 la0 ca0] 29)) hra)
    have XA := Lib.hid (row_alloc wa #[.int .u32 a1, .int .u32 a2, .int .u16 a3, .string T1, .string T2, .slice pa0 la0 ca0] 29)
    have HYa := Lib.hid (rd_keep HBa.out (HRR.out))
    clear hba hra cc0
    go_wp2_with fail
    go_at_call 16; refine (HD.out _ HYa.out).mono ?_; rintro e wb ⟨hbb, pb0, lb0, cb0, rfl, hrb⟩
    simp only [opA]
    have HBb := Lib.hid (bel_alloc (bel_step HBa.out hbb) (.cells #[.int .u32 a1, .int .u32 a2, .int .u16 a3, .string T1, .string T2, .slice pb0 lb0 cb0] 29))
    have HRb := Lib.hid (repL_bel ((Below.refl wb.heap.size wb).alloc (Nat.le_refl _) (.cells #[.int .u32 a1, .int .u32 a2, .int .u16 a3, .string T1, .string T2, .slice pb0 lb0 cb0] 29)) hrb)
    have HRc := Lib.hid (repL_bel (bel_alloc hbb (.cells #[.int .u32 a1, .int .u32 a2, .int .u16 a3, .string T1, .string T2, .slice pb0 lb0 cb0] 29)) HRa.out)
    have XA' := row_alloc_step (row_step XA.out hbb) (.cells #[.int .u32 a1, .int .u32 a2, .int .u16 a3, .string T1, .string T2, .slice pb0 lb0 cb0] 29)
    have XB' := row_alloc wb #[.int .u32 a1, .int .u32 a2, .int .u16 a3, .string T1, .string T2, .slice pb0 lb0 cb0] 29
    have x0 := row_cell XA' 0; have x1 := row_cell XA' 1; have x2 := row_cell XA' 2; have x3 := row_cell XA' 3; have x4 := row_cell XA' 4; have x5 := row_cell XA' 5
    simp only [List.getElem?_toArray, List.getElem?_cons_zero, List.getElem?_cons_succ] at x0 x1 x2 x3 x4 x5
    have y0 := row_cell XB' 0; have y1 := row_cell XB' 1; have y2 := row_cell XB' 2; have y3 := row_cell XB' 3; have y4 := row_cell XB' 4; have y5 := row_cell XB' 5
    simp only [List.getElem?_toArray, List.getElem?_cons_zero, List.getElem?_cons_succ] at y0 y1 y2 y3 y4 y5
    have HYb := Lib.hid (rd_keep (bel_alloc hbb (.cells #[.int .u32 a1, .int .u32 a2, .int .u16 a3, .string T1, .string T2, .slice pb0 lb0 cb0] 29)) HYa.out)
    clear hbb hrb XA' XB'
    go_wp2_with fail
    go_at_call 12; refine (op_same (M + 1) LL _ a1 a2 a3 T1 T2 _ _ _ _ _ _ HRc.out HRb.out).mono ?_; rintro e wc ⟨rfl, hbc⟩
    have HBc := Lib.hid (bel_step HBb.out hbc)
    have HYc := Lib.hid (rd_keep hbc HYb.out)
    clear hbc HBa HRa XA HYa HBb HRb HRc HYb x0 x1 x2 x3 x4 x5 y0 y1 y2 y3 y4 y5
    go_wp2_with fail
    go_at_call 17; refine (HE.out _ HYc.out).mono ?_; rintro e wd ⟨hbd, Ka0, Ia0, Fa0, Sa0, ea0, ma0, da0, rfl, hrd⟩
    simp only [repA]
    have HBd := Lib.hid (bel_alloc hbd (.cells #[.int .u32 r1, .int .u32 r2, .int .u16 r3, .int .i64 rr, .int .i64 Ka0, .int .i64 Ia0, .float .f64 Fa0, .string Sa0, .slice ea0 ma0 da0] 49))
    have HRd := Lib.hid (rep_keep ((Below.refl wd.heap.size wd).alloc (Nat.le_refl _) (.cells #[.int .u32 r1, .int .u32 r2, .int .u16 r3, .int .i64 rr, .int .i64 Ka0, .int .i64 Ia0, .float .f64 Fa0, .string Sa0, .slice ea0 ma0 da0] 49)) _ _ _ hrd)
    have XD := Lib.hid (row_alloc wd #[.int .u32 r1, .int .u32 r2, .int .u16 r3, .int .i64 rr, .int .i64 Ka0, .int .i64 Ia0, .float .f64 Fa0, .string Sa0, .slice ea0 ma0 da0] 49)
    have HYd := Lib.hid (rd_keep HBd.out HYc.out)
    clear hbd hrd
    go_wp2_with fail
    go_at_call 18; refine (HF.out _ HYd.out).mono ?_; rintro e we ⟨hbe, Kb0, Ib0, Fb0, Sb0, eb0, mb0, db0, rfl, hre⟩
    simp only [repA]
    have HBe := Lib.hid (bel_alloc (bel_step HBd.out hbe) (.cells #[.int .u32 r1, .int .u32 r2, .int .u16 r3, .int .i64 rr, .int .i64 Kb0, .int .i64 Ib0, .float .f64 Fb0, .string Sb0, .slice eb0 mb0 db0] 49))
    have HRe := Lib.hid (rep_keep ((Below.refl we.heap.size we).alloc (Nat.le_refl _) (.cells #[.int .u32 r1, .int .u32 r2, .int .u16 r3, .int .i64 rr, .int .i64 Kb0, .int .i64 Ib0, .float .f64 Fb0, .string Sb0, .slice eb0 mb0 db0] 49)) _ _ _ hre)
    have HRf := Lib.hid (rep_keep (bel_alloc hbe (.cells #[.int .u32 r1, .int .u32 r2, .int .u16 r3, .int .i64 rr, .int .i64 Kb0, .int .i64 Ib0, .float .f64 Fb0, .string Sb0, .slice eb0 mb0 db0] 49)) _ _ _ HRd.out)
    have XD' := row_alloc_step (row_step XD.out hbe) (.cells #[.int .u32 r1, .int .u32 r2, .int .u16 r3, .int .i64 rr, .int .i64 Kb0, .int .i64 Ib0, .float .f64 Fb0, .string Sb0, .slice eb0 mb0 db0] 49)
    have XE' := row_alloc we #[.int .u32 r1, .int .u32 r2, .int .u16 r3, .int .i64 rr, .int .i64 Kb0, .int .i64 Ib0, .float .f64 Fb0, .string Sb0, .slice eb0 mb0 db0] 49
    have x0 := row_cell XD' 0; have x1 := row_cell XD' 1; have x2 := row_cell XD' 2; have x3 := row_cell XD' 3; have x4 := row_cell XD' 4; have x5 := row_cell XD' 5; have x6 := row_cell XD' 6; have x7 := row_cell XD' 7; have x8 := row_cell XD' 8
    simp only [List.getElem?_toArray, List.getElem?_cons_zero, List.getElem?_cons_succ] at x0 x1 x2 x3 x4 x5 x6 x7 x8
    have y0 := row_cell XE' 0; have y1 := row_cell XE' 1; have y2 := row_cell XE' 2; have y3 := row_cell XE' 3; have y4 := row_cell XE' 4; have y5 := row_cell XE' 5; have y6 := row_cell XE' 6; have y7 := row_cell XE' 7; have y8 := row_cell XE' 8
    simp only [List.getElem?_toArray, List.getElem?_cons_zero, List.getElem?_cons_succ] at y0 y1 y2 y3 y4 y5 y6 y7 y8
    clear hbe hre XD' XE'
    go_wp2_with fail
    go_at_call 19; refine (reply_same (M + 1) TT _ r1 r2 r3 rr _ _ _ _ _ _ _ _ _ _ _ _ _ _ HRf.out HRe.out).mono ?_; rintro e wf ⟨rfl, hbf⟩
    have HBf0 := Lib.hid (bel_step HBc.out (bel_step HBe.out hbf))
    clear hbf HBc HBd HRd XD HYd HBe HRe HRf HYc HC HD HE HF x0 x1 x2 x3 x4 x5 x6 x7 x8 y0 y1 y2 y3 y4 y5 y6 y7 y8
    go_wp2
    rw [rounds_succ]
    obtain ⟨o, hqo⟩ : ∃ o, opO M ([]) = o := ⟨_, rfl⟩
    obtain ⟨ro, hqr⟩ : ∃ o, repO M ([]) = o := ⟨_, rfl⟩
    have HC := Lib.hid (fun (w : World) (h : RdB w p3 0 c3 ([])) => cread_out M h4 hM w _ _ _ _ h (fun x h => by cases h) (by omega))
    have HD := Lib.hid (fun (w : World) (h : RdB w p3 0 c3 ([])) => rop_out M hM w _ _ _ _ h (fun x h => by cases h) (by omega))
    have HE := Lib.hid (fun (w : World) (h : RdB w p3 0 c3 ([])) => creply_out M h4 hM w _ _ _ _ h (fun x h => by cases h) (by omega))
    have HF := Lib.hid (fun (w : World) (h : RdB w p3 0 c3 ([])) => rrep_out M hM w _ _ _ _ h (fun x h => by cases h) (by omega))
    rw [hqo] at HC HD
    rw [hqr] at HE HF
    obtain ⟨⟨a1, a2, a3⟩, T1, T2, LL, J, E⟩ := o
    obtain ⟨⟨r1, r2, r3⟩, rr, TT, J2, E2⟩ := ro
    clear hqo hqr
    have cc1 := cell_keep HBf0.out HK1.out
    go_wp2_with fail
    go_at_call 15; refine (HC.out _ (rd_keep HBf0.out HRB.out)).mono ?_; rintro e wa ⟨hba, pa1, la1, ca1, rfl, hra⟩
    simp only [opA]
    have HBa := Lib.hid (bel_alloc hba (.cells #[.int .u32 a1, .int .u32 a2, .int .u16 a3, .string T1, .string T2, .slice pa1 la1 ca1] 29))
    have HRa := Lib.hid (repL_bel ((Below.refl wa.heap.size wa).alloc (Nat.le_refl _) (.cells #[.int .u32 a1, .int .u32 a2, .int .u16 a3, .string T1, .string T2, .slice pa1 la1 ca1] 29)) hra)
    have XA := Lib.hid (row_alloc wa #[.int .u32 a1, .int .u32 a2, .int .u16 a3, .string T1, .string T2, .slice pa1 la1 ca1] 29)
    have HYa := Lib.hid (rd_keep HBa.out (rd_keep HBf0.out HRB.out))
    clear hba hra cc1
    go_wp2_with fail
    go_at_call 16; refine (HD.out _ HYa.out).mono ?_; rintro e wb ⟨hbb, pb1, lb1, cb1, rfl, hrb⟩
    simp only [opA]
    have HBb := Lib.hid (bel_alloc (bel_step HBa.out hbb) (.cells #[.int .u32 a1, .int .u32 a2, .int .u16 a3, .string T1, .string T2, .slice pb1 lb1 cb1] 29))
    have HRb := Lib.hid (repL_bel ((Below.refl wb.heap.size wb).alloc (Nat.le_refl _) (.cells #[.int .u32 a1, .int .u32 a2, .int .u16 a3, .string T1, .string T2, .slice pb1 lb1 cb1] 29)) hrb)
    have HRc := Lib.hid (repL_bel (bel_alloc hbb (.cells #[.int .u32 a1, .int .u32 a2, .int .u16 a3, .string T1, .string T2, .slice pb1 lb1 cb1] 29)) HRa.out)
    have XA' := row_alloc_step (row_step XA.out hbb) (.cells #[.int .u32 a1, .int .u32 a2, .int .u16 a3, .string T1, .string T2, .slice pb1 lb1 cb1] 29)
    have XB' := row_alloc wb #[.int .u32 a1, .int .u32 a2, .int .u16 a3, .string T1, .string T2, .slice pb1 lb1 cb1] 29
    have x0 := row_cell XA' 0; have x1 := row_cell XA' 1; have x2 := row_cell XA' 2; have x3 := row_cell XA' 3; have x4 := row_cell XA' 4; have x5 := row_cell XA' 5
    simp only [List.getElem?_toArray, List.getElem?_cons_zero, List.getElem?_cons_succ] at x0 x1 x2 x3 x4 x5
    have y0 := row_cell XB' 0; have y1 := row_cell XB' 1; have y2 := row_cell XB' 2; have y3 := row_cell XB' 3; have y4 := row_cell XB' 4; have y5 := row_cell XB' 5
    simp only [List.getElem?_toArray, List.getElem?_cons_zero, List.getElem?_cons_succ] at y0 y1 y2 y3 y4 y5
    have HYb := Lib.hid (rd_keep (bel_alloc hbb (.cells #[.int .u32 a1, .int .u32 a2, .int .u16 a3, .string T1, .string T2, .slice pb1 lb1 cb1] 29)) HYa.out)
    clear hbb hrb XA' XB'
    go_wp2_with fail
    go_at_call 12; refine (op_same (M + 1) LL _ a1 a2 a3 T1 T2 _ _ _ _ _ _ HRc.out HRb.out).mono ?_; rintro e wc ⟨rfl, hbc⟩
    have HBc := Lib.hid (bel_step HBb.out hbc)
    have HYc := Lib.hid (rd_keep hbc HYb.out)
    clear hbc HBa HRa XA HYa HBb HRb HRc HYb x0 x1 x2 x3 x4 x5 y0 y1 y2 y3 y4 y5
    go_wp2_with fail
    go_at_call 17; refine (HE.out _ HYc.out).mono ?_; rintro e wd ⟨hbd, Ka1, Ia1, Fa1, Sa1, ea1, ma1, da1, rfl, hrd⟩
    simp only [repA]
    have HBd := Lib.hid (bel_alloc hbd (.cells #[.int .u32 r1, .int .u32 r2, .int .u16 r3, .int .i64 rr, .int .i64 Ka1, .int .i64 Ia1, .float .f64 Fa1, .string Sa1, .slice ea1 ma1 da1] 49))
    have HRd := Lib.hid (rep_keep ((Below.refl wd.heap.size wd).alloc (Nat.le_refl _) (.cells #[.int .u32 r1, .int .u32 r2, .int .u16 r3, .int .i64 rr, .int .i64 Ka1, .int .i64 Ia1, .float .f64 Fa1, .string Sa1, .slice ea1 ma1 da1] 49)) _ _ _ hrd)
    have XD := Lib.hid (row_alloc wd #[.int .u32 r1, .int .u32 r2, .int .u16 r3, .int .i64 rr, .int .i64 Ka1, .int .i64 Ia1, .float .f64 Fa1, .string Sa1, .slice ea1 ma1 da1] 49)
    have HYd := Lib.hid (rd_keep HBd.out HYc.out)
    clear hbd hrd
    go_wp2_with fail
    go_at_call 18; refine (HF.out _ HYd.out).mono ?_; rintro e we ⟨hbe, Kb1, Ib1, Fb1, Sb1, eb1, mb1, db1, rfl, hre⟩
    simp only [repA]
    have HBe := Lib.hid (bel_alloc (bel_step HBd.out hbe) (.cells #[.int .u32 r1, .int .u32 r2, .int .u16 r3, .int .i64 rr, .int .i64 Kb1, .int .i64 Ib1, .float .f64 Fb1, .string Sb1, .slice eb1 mb1 db1] 49))
    have HRe := Lib.hid (rep_keep ((Below.refl we.heap.size we).alloc (Nat.le_refl _) (.cells #[.int .u32 r1, .int .u32 r2, .int .u16 r3, .int .i64 rr, .int .i64 Kb1, .int .i64 Ib1, .float .f64 Fb1, .string Sb1, .slice eb1 mb1 db1] 49)) _ _ _ hre)
    have HRf := Lib.hid (rep_keep (bel_alloc hbe (.cells #[.int .u32 r1, .int .u32 r2, .int .u16 r3, .int .i64 rr, .int .i64 Kb1, .int .i64 Ib1, .float .f64 Fb1, .string Sb1, .slice eb1 mb1 db1] 49)) _ _ _ HRd.out)
    have XD' := row_alloc_step (row_step XD.out hbe) (.cells #[.int .u32 r1, .int .u32 r2, .int .u16 r3, .int .i64 rr, .int .i64 Kb1, .int .i64 Ib1, .float .f64 Fb1, .string Sb1, .slice eb1 mb1 db1] 49)
    have XE' := row_alloc we #[.int .u32 r1, .int .u32 r2, .int .u16 r3, .int .i64 rr, .int .i64 Kb1, .int .i64 Ib1, .float .f64 Fb1, .string Sb1, .slice eb1 mb1 db1] 49
    have x0 := row_cell XD' 0; have x1 := row_cell XD' 1; have x2 := row_cell XD' 2; have x3 := row_cell XD' 3; have x4 := row_cell XD' 4; have x5 := row_cell XD' 5; have x6 := row_cell XD' 6; have x7 := row_cell XD' 7; have x8 := row_cell XD' 8
    simp only [List.getElem?_toArray, List.getElem?_cons_zero, List.getElem?_cons_succ] at x0 x1 x2 x3 x4 x5 x6 x7 x8
    have y0 := row_cell XE' 0; have y1 := row_cell XE' 1; have y2 := row_cell XE' 2; have y3 := row_cell XE' 3; have y4 := row_cell XE' 4; have y5 := row_cell XE' 5; have y6 := row_cell XE' 6; have y7 := row_cell XE' 7; have y8 := row_cell XE' 8
    simp only [List.getElem?_toArray, List.getElem?_cons_zero, List.getElem?_cons_succ] at y0 y1 y2 y3 y4 y5 y6 y7 y8
    clear hbe hre XD' XE'
    go_wp2_with fail
    go_at_call 19; refine (reply_same (M + 1) TT _ r1 r2 r3 rr _ _ _ _ _ _ _ _ _ _ _ _ _ _ HRf.out HRe.out).mono ?_; rintro e wf ⟨rfl, hbf⟩
    have HBf1 := Lib.hid (bel_step HBc.out (bel_step HBe.out hbf))
    clear hbf HBc HBd HRd XD HYd HBe HRe HRf HYc HC HD HE HF x0 x1 x2 x3 x4 x5 x6 x7 x8 y0 y1 y2 y3 y4 y5 y6 y7 y8
    go_wp2
    rw [rounds_succ]
    go_wp2
    go_ret
    exact ⟨rfl, bel_step (bel_step HB4.out HBf0.out) HBf1.out⟩
  · obtain ⟨j, hje⟩ : ∃ j, at' % l3 = j := ⟨_, rfl⟩
    have hjL : j < l3 := by rw [← hje]; exact Nat.mod_lt _ h0
    have hji : ((at' : Int) % (l3 : Int)) = (j : Int) := by omega
    have hjX : j < Z.length := by omega
    obtain ⟨hx0, hx1⟩ := HZ.out _ (List.getElem_mem hjX)
    obtain ⟨x, hx⟩ : ∃ x : Nat, Z[j] = (x : Int) := ⟨(Z[j]).toNat, by omega⟩
    rw [hx] at hx0 hx1
    have HXJ := Lib.hid hx
    obtain ⟨y, hyb, hy256⟩ := xor_walk (show x < 256 by omega) hxx
    have HY := Lib.hid (show By (Z.set j (y : Int)) from by_setB HZ.out ⟨by omega, by omega⟩)
    obtain ⟨g, cur, rfl, hg2, hW2, hcs, hlc2, htk⟩ := ow_some ho3 h0
    have hc2 : w3.cell? ⟨g, j, none⟩ = some (.int .u8 (x : Int)) := by
      obtain ⟨b', off', e, h⟩ := (rd_of_ow HO3.out).2.2.2.1 (by omega)
      cases e
      have := h j hjX
      rw [Nat.zero_add] at this
      rw [this, HXJ.out]
    have hf2 := row_frz hg2 j
    have HO4 := Lib.hid (ow_set HO3.out hjL (y : Int))
    have hj5 : j ≤ 66000 := by omega
    clear HXJ hx
    clear ho3 hg2 hcs htk hje hy256 hlZ hjX
    cases cut
    all_goals go_wp2_with fail
    · -- false
      have hS : (w3.setCell ⟨g, j, none⟩ (.int .u8 (y : Int))).heap.size = w3.heap.size := World.size_setCell _ _ _
      have hrow := row_alloc (w3.setCell ⟨g, j, none⟩ (.int .u8 (y : Int))) #[.slice r k f, .slice (some ⟨g, 0, none⟩) l3 c3] 22
      rw [hS] at hrow
      obtain ⟨W4, hW4⟩ : ∃ W4, (w3.setCell ⟨g, j, none⟩ (.int .u8 (y : Int))).alloc (.cells #[.slice r k f, .slice (some ⟨g, 0, none⟩) l3 c3] 22) = W4 := ⟨_, rfl⟩
      have HA4 := Lib.hid (show Below (w3.setCell ⟨g, j, none⟩ (.int .u8 (y : Int))).heap.size (w3.setCell ⟨g, j, none⟩ (.int .u8 (y : Int))) W4 from hW4 ▸ (Below.refl _ _).alloc (Nat.le_refl _) _)
      rw [hW4] at hrow
      rw [hW4]
      have HB4 := Lib.hid (bel_step (bel_step HB2.out (ow_bel HO4.out)) HA4.out)
      have HRR := Lib.hid (rd_keep HB4.out HR.out)
      have HRB := Lib.hid (show RdB W4 (some ⟨g, 0, none⟩) l3 c3 (Z.set j (y : Int)) from rd_keep HA4.out (rd_of_ow HO4.out))
      have c0 : W4.cell? ⟨w3.heap.size, 0, none⟩ = some (.slice r k f) := by rw [row_cell hrow]; rfl
      have HK1 := Lib.hid (show W4.cell? ⟨w3.heap.size, 1, none⟩ = some (.slice (some ⟨g, 0, none⟩) l3 c3) by rw [row_cell hrow]; rfl)
      clear hrow hW4 hS
      refine wp_loop_rounds 3 ?_
      rw [rounds_succ]
      obtain ⟨o, hqo⟩ : ∃ o, opO M (R) = o := ⟨_, rfl⟩
      obtain ⟨ro, hqr⟩ : ∃ o, repO M (R) = o := ⟨_, rfl⟩
      have HC := Lib.hid (fun (w : World) (h : RdB w r k f (R)) => cread_out M h4 hM w _ _ _ _ h HBR.out (by omega))
      have HD := Lib.hid (fun (w : World) (h : RdB w r k f (R)) => rop_out M hM w _ _ _ _ h HBR.out (by omega))
      have HE := Lib.hid (fun (w : World) (h : RdB w r k f (R)) => creply_out M h4 hM w _ _ _ _ h HBR.out (by omega))
      have HF := Lib.hid (fun (w : World) (h : RdB w r k f (R)) => rrep_out M hM w _ _ _ _ h HBR.out (by omega))
      rw [hqo] at HC HD
      rw [hqr] at HE HF
      obtain ⟨⟨a1, a2, a3⟩, T1, T2, LL, J, E⟩ := o
      obtain ⟨⟨r1, r2, r3⟩, rr, TT, J2, E2⟩ := ro
      clear hqo hqr
      have cc0 := c0
      go_wp2_with fail
      go_at_call 15; refine (HC.out _ (HRR.out)).mono ?_; rintro e wa ⟨hba, pa0, la0, ca0, rfl, hra⟩
      simp only [opA]
      have HBa := Lib.hid (bel_alloc hba (.cells #[.int .u32 a1, .int .u32 a2, .int .u16 a3, .string T1, .string T2, .slice pa0 la0 ca0] 29))
      have HRa := Lib.hid (repL_bel ((Below.refl wa.heap.size wa).alloc (Nat.le_refl _) (.cells #[.int .u32 a1, .int .u32 a2, .int .u16 a3, .string T1, .string T2, .slice pa0 la0 ca0] 29)) hra)
      have XA := Lib.hid (row_alloc wa #[.int .u32 a1, .int .u32 a2, .int .u16 a3, .string T1, .string T2, .slice pa0 la0 ca0] 29)
      have HYa := Lib.hid (rd_keep HBa.out (HRR.out))
      clear hba hra cc0
      go_wp2_with fail
      go_at_call 16; refine (HD.out _ HYa.out).mono ?_; rintro e wb ⟨hbb, pb0, lb0, cb0, rfl, hrb⟩
      simp only [opA]
      have HBb := Lib.hid (bel_alloc (bel_step HBa.out hbb) (.cells #[.int .u32 a1, .int .u32 a2, .int .u16 a3, .string T1, .string T2, .slice pb0 lb0 cb0] 29))
      have HRb := Lib.hid (repL_bel ((Below.refl wb.heap.size wb).alloc (Nat.le_refl _) (.cells #[.int .u32 a1, .int .u32 a2, .int .u16 a3, .string T1, .string T2, .slice pb0 lb0 cb0] 29)) hrb)
      have HRc := Lib.hid (repL_bel (bel_alloc hbb (.cells #[.int .u32 a1, .int .u32 a2, .int .u16 a3, .string T1, .string T2, .slice pb0 lb0 cb0] 29)) HRa.out)
      have XA' := row_alloc_step (row_step XA.out hbb) (.cells #[.int .u32 a1, .int .u32 a2, .int .u16 a3, .string T1, .string T2, .slice pb0 lb0 cb0] 29)
      have XB' := row_alloc wb #[.int .u32 a1, .int .u32 a2, .int .u16 a3, .string T1, .string T2, .slice pb0 lb0 cb0] 29
      have x0 := row_cell XA' 0; have x1 := row_cell XA' 1; have x2 := row_cell XA' 2; have x3 := row_cell XA' 3; have x4 := row_cell XA' 4; have x5 := row_cell XA' 5
      simp only [List.getElem?_toArray, List.getElem?_cons_zero, List.getElem?_cons_succ] at x0 x1 x2 x3 x4 x5
      have y0 := row_cell XB' 0; have y1 := row_cell XB' 1; have y2 := row_cell XB' 2; have y3 := row_cell XB' 3; have y4 := row_cell XB' 4; have y5 := row_cell XB' 5
      simp only [List.getElem?_toArray, List.getElem?_cons_zero, List.getElem?_cons_succ] at y0 y1 y2 y3 y4 y5
      have HYb := Lib.hid (rd_keep (bel_alloc hbb (.cells #[.int .u32 a1, .int .u32 a2, .int .u16 a3, .string T1, .string T2, .slice pb0 lb0 cb0] 29)) HYa.out)
      clear hbb hrb XA' XB'
      go_wp2_with fail
      go_at_call 12; refine (op_same (M + 1) LL _ a1 a2 a3 T1 T2 _ _ _ _ _ _ HRc.out HRb.out).mono ?_; rintro e wc ⟨rfl, hbc⟩
      have HBc := Lib.hid (bel_step HBb.out hbc)
      have HYc := Lib.hid (rd_keep hbc HYb.out)
      clear hbc HBa HRa XA HYa HBb HRb HRc HYb x0 x1 x2 x3 x4 x5 y0 y1 y2 y3 y4 y5
      go_wp2_with fail
      go_at_call 17; refine (HE.out _ HYc.out).mono ?_; rintro e wd ⟨hbd, Ka0, Ia0, Fa0, Sa0, ea0, ma0, da0, rfl, hrd⟩
      simp only [repA]
      have HBd := Lib.hid (bel_alloc hbd (.cells #[.int .u32 r1, .int .u32 r2, .int .u16 r3, .int .i64 rr, .int .i64 Ka0, .int .i64 Ia0, .float .f64 Fa0, .string Sa0, .slice ea0 ma0 da0] 49))
      have HRd := Lib.hid (rep_keep ((Below.refl wd.heap.size wd).alloc (Nat.le_refl _) (.cells #[.int .u32 r1, .int .u32 r2, .int .u16 r3, .int .i64 rr, .int .i64 Ka0, .int .i64 Ia0, .float .f64 Fa0, .string Sa0, .slice ea0 ma0 da0] 49)) _ _ _ hrd)
      have XD := Lib.hid (row_alloc wd #[.int .u32 r1, .int .u32 r2, .int .u16 r3, .int .i64 rr, .int .i64 Ka0, .int .i64 Ia0, .float .f64 Fa0, .string Sa0, .slice ea0 ma0 da0] 49)
      have HYd := Lib.hid (rd_keep HBd.out HYc.out)
      clear hbd hrd
      go_wp2_with fail
      go_at_call 18; refine (HF.out _ HYd.out).mono ?_; rintro e we ⟨hbe, Kb0, Ib0, Fb0, Sb0, eb0, mb0, db0, rfl, hre⟩
      simp only [repA]
      have HBe := Lib.hid (bel_alloc (bel_step HBd.out hbe) (.cells #[.int .u32 r1, .int .u32 r2, .int .u16 r3, .int .i64 rr, .int .i64 Kb0, .int .i64 Ib0, .float .f64 Fb0, .string Sb0, .slice eb0 mb0 db0] 49))
      have HRe := Lib.hid (rep_keep ((Below.refl we.heap.size we).alloc (Nat.le_refl _) (.cells #[.int .u32 r1, .int .u32 r2, .int .u16 r3, .int .i64 rr, .int .i64 Kb0, .int .i64 Ib0, .float .f64 Fb0, .string Sb0, .slice eb0 mb0 db0] 49)) _ _ _ hre)
      have HRf := Lib.hid (rep_keep (bel_alloc hbe (.cells #[.int .u32 r1, .int .u32 r2, .int .u16 r3, .int .i64 rr, .int .i64 Kb0, .int .i64 Ib0, .float .f64 Fb0, .string Sb0, .slice eb0 mb0 db0] 49)) _ _ _ HRd.out)
      have XD' := row_alloc_step (row_step XD.out hbe) (.cells #[.int .u32 r1, .int .u32 r2, .int .u16 r3, .int .i64 rr, .int .i64 Kb0, .int .i64 Ib0, .float .f64 Fb0, .string Sb0, .slice eb0 mb0 db0] 49)
      have XE' := row_alloc we #[.int .u32 r1, .int .u32 r2, .int .u16 r3, .int .i64 rr, .int .i64 Kb0, .int .i64 Ib0, .float .f64 Fb0, .string Sb0, .slice eb0 mb0 db0] 49
      have x0 := row_cell XD' 0; have x1 := row_cell XD' 1; have x2 := row_cell XD' 2; have x3 := row_cell XD' 3; have x4 := row_cell XD' 4; have x5 := row_cell XD' 5; have x6 := row_cell XD' 6; have x7 := row_cell XD' 7; have x8 := row_cell XD' 8
      simp only [List.getElem?_toArray, List.getElem?_cons_zero, List.getElem?_cons_succ] at x0 x1 x2 x3 x4 x5 x6 x7 x8
      have y0 := row_cell XE' 0; have y1 := row_cell XE' 1; have y2 := row_cell XE' 2; have y3 := row_cell XE' 3; have y4 := row_cell XE' 4; have y5 := row_cell XE' 5; have y6 := row_cell XE' 6; have y7 := row_cell XE' 7; have y8 := row_cell XE' 8
      simp only [List.getElem?_toArray, List.getElem?_cons_zero, List.getElem?_cons_succ] at y0 y1 y2 y3 y4 y5 y6 y7 y8
      clear hbe hre XD' XE'
      go_wp2_with fail
      go_at_call 19; refine (reply_same (M + 1) TT _ r1 r2 r3 rr _ _ _ _ _ _ _ _ _ _ _ _ _ _ HRf.out HRe.out).mono ?_; rintro e wf ⟨rfl, hbf⟩
      have HBf0 := Lib.hid (bel_step HBc.out (bel_step HBe.out hbf))
      clear hbf HBc HBd HRd XD HYd HBe HRe HRf HYc HC HD HE HF x0 x1 x2 x3 x4 x5 x6 x7 x8 y0 y1 y2 y3 y4 y5 y6 y7 y8
      go_wp2
      rw [rounds_succ]
      obtain ⟨o, hqo⟩ : ∃ o, opO M (Z.set j (y : Int)) = o := ⟨_, rfl⟩
      obtain ⟨ro, hqr⟩ : ∃ o, repO M (Z.set j (y : Int)) = o := ⟨_, rfl⟩
      have HC := Lib.hid (fun (w : World) (h : RdB w (some ⟨g, 0, none⟩) l3 c3 (Z.set j (y : Int))) => cread_out M h4 hM w _ _ _ _ h HY.out (by omega))
      have HD := Lib.hid (fun (w : World) (h : RdB w (some ⟨g, 0, none⟩) l3 c3 (Z.set j (y : Int))) => rop_out M hM w _ _ _ _ h HY.out (by omega))
      have HE := Lib.hid (fun (w : World) (h : RdB w (some ⟨g, 0, none⟩) l3 c3 (Z.set j (y : Int))) => creply_out M h4 hM w _ _ _ _ h HY.out (by omega))
      have HF := Lib.hid (fun (w : World) (h : RdB w (some ⟨g, 0, none⟩) l3 c3 (Z.set j (y : Int))) => rrep_out M hM w _ _ _ _ h HY.out (by omega))
      rw [hqo] at HC HD
      rw [hqr] at HE HF
      obtain ⟨⟨a1, a2, a3⟩, T1, T2, LL, J, E⟩ := o
      obtain ⟨⟨r1, r2, r3⟩, rr, TT, J2, E2⟩ := ro
      clear hqo hqr
      have cc1 := cell_keep HBf0.out HK1.out
      go_wp2_with fail
      go_at_call 15; refine (HC.out _ (rd_keep HBf0.out HRB.out)).mono ?_; rintro e wa ⟨hba, pa1, la1, ca1, rfl, hra⟩
      simp only [opA]
      have HBa := Lib.hid (bel_alloc hba (.cells #[.int .u32 a1, .int .u32 a2, .int .u16 a3, .string T1, .string T2, .slice pa1 la1 ca1] 29))
      have HRa := Lib.hid (repL_bel ((Below.refl wa.heap.size wa).alloc (Nat.le_refl _) (.cells #[.int .u32 a1, .int .u32 a2, .int .u16 a3, .string T1, .string T2, .slice pa1 la1 ca1] 29)) hra)
      have XA := Lib.hid (row_alloc wa #[.int .u32 a1, .int .u32 a2, .int .u16 a3, .string T1, .string T2, .slice pa1 la1 ca1] 29)
      have HYa := Lib.hid (rd_keep HBa.out (rd_keep HBf0.out HRB.out))
      clear hba hra cc1
      go_wp2_with fail
      go_at_call 16; refine (HD.out _ HYa.out).mono ?_; rintro e wb ⟨hbb, pb1, lb1, cb1, rfl, hrb⟩
      simp only [opA]
      have HBb := Lib.hid (bel_alloc (bel_step HBa.out hbb) (.cells #[.int .u32 a1, .int .u32 a2, .int .u16 a3, .string T1, .string T2, .slice pb1 lb1 cb1] 29))
      have HRb := Lib.hid (repL_bel ((Below.refl wb.heap.size wb).alloc (Nat.le_refl _) (.cells #[.int .u32 a1, .int .u32 a2, .int .u16 a3, .string T1, .string T2, .slice pb1 lb1 cb1] 29)) hrb)
      have HRc := Lib.hid (repL_bel (bel_alloc hbb (.cells #[.int .u32 a1, .int .u32 a2, .int .u16 a3, .string T1, .string T2, .slice pb1 lb1 cb1] 29)) HRa.out)
      have XA' := row_alloc_step (row_step XA.out hbb) (.cells #[.int .u32 a1, .int .u32 a2, .int .u16 a3, .string T1, .string T2, .slice pb1 lb1 cb1] 29)
      have XB' := row_alloc wb #[.int .u32 a1, .int .u32 a2, .int .u16 a3, .string T1, .string T2, .slice pb1 lb1 cb1] 29
      have x0 := row_cell XA' 0; have x1 := row_cell XA' 1; have x2 := row_cell XA' 2; have x3 := row_cell XA' 3; have x4 := row_cell XA' 4; have x5 := row_cell XA' 5
      simp only [List.getElem?_toArray, List.getElem?_cons_zero, List.getElem?_cons_succ] at x0 x1 x2 x3 x4 x5
      have y0 := row_cell XB' 0; have y1 := row_cell XB' 1; have y2 := row_cell XB' 2; have y3 := row_cell XB' 3; have y4 := row_cell XB' 4; have y5 := row_cell XB' 5
      simp only [List.getElem?_toArray, List.getElem?_cons_zero, List.getElem?_cons_succ] at y0 y1 y2 y3 y4 y5
      have HYb := Lib.hid (rd_keep (bel_alloc hbb (.cells #[.int .u32 a1, .int .u32 a2, .int .u16 a3, .string T1, .string T2, .slice pb1 lb1 cb1] 29)) HYa.out)
      clear hbb hrb XA' XB'
      go_wp2_with fail
      go_at_call 12; refine (op_same (M + 1) LL _ a1 a2 a3 T1 T2 _ _ _ _ _ _ HRc.out HRb.out).mono ?_; rintro e wc ⟨rfl, hbc⟩
      have HBc := Lib.hid (bel_step HBb.out hbc)
      have HYc := Lib.hid (rd_keep hbc HYb.out)
      clear hbc HBa HRa XA HYa HBb HRb HRc HYb x0 x1 x2 x3 x4 x5 y0 y1 y2 y3 y4 y5
      go_wp2_with fail
      go_at_call 17; refine (HE.out _ HYc.out).mono ?_; rintro e wd ⟨hbd, Ka1, Ia1, Fa1, Sa1, ea1, ma1, da1, rfl, hrd⟩
      simp only [repA]
      have HBd := Lib.hid (bel_alloc hbd (.cells #[.int .u32 r1, .int .u32 r2, .int .u16 r3, .int .i64 rr, .int .i64 Ka1, .int .i64 Ia1, .float .f64 Fa1, .string Sa1, .slice ea1 ma1 da1] 49))
      have HRd := Lib.hid (rep_keep ((Below.refl wd.heap.size wd).alloc (Nat.le_refl _) (.cells #[.int .u32 r1, .int .u32 r2, .int .u16 r3, .int .i64 rr, .int .i64 Ka1, .int .i64 Ia1, .float .f64 Fa1, .string Sa1, .slice ea1 ma1 da1] 49)) _ _ _ hrd)
      have XD := Lib.hid (row_alloc wd #[.int .u32 r1, .int .u32 r2, .int .u16 r3, .int .i64 rr, .int .i64 Ka1, .int .i64 Ia1, .float .f64 Fa1, .string Sa1, .slice ea1 ma1 da1] 49)
      have HYd := Lib.hid (rd_keep HBd.out HYc.out)
      clear hbd hrd
      go_wp2_with fail
      go_at_call 18; refine (HF.out _ HYd.out).mono ?_; rintro e we ⟨hbe, Kb1, Ib1, Fb1, Sb1, eb1, mb1, db1, rfl, hre⟩
      simp only [repA]
      have HBe := Lib.hid (bel_alloc (bel_step HBd.out hbe) (.cells #[.int .u32 r1, .int .u32 r2, .int .u16 r3, .int .i64 rr, .int .i64 Kb1, .int .i64 Ib1, .float .f64 Fb1, .string Sb1, .slice eb1 mb1 db1] 49))
      have HRe := Lib.hid (rep_keep ((Below.refl we.heap.size we).alloc (Nat.le_refl _) (.cells #[.int .u32 r1, .int .u32 r2, .int .u16 r3, .int .i64 rr, .int .i64 Kb1, .int .i64 Ib1, .float .f64 Fb1, .string Sb1, .slice eb1 mb1 db1] 49)) _ _ _ hre)
      have HRf := Lib.hid (rep_keep (bel_alloc hbe (.cells #[.int .u32 r1, .int .u32 r2, .int .u16 r3, .int .i64 rr, .int .i64 Kb1, .int .i64 Ib1, .float .f64 Fb1, .string Sb1, .slice eb1 mb1 db1] 49)) _ _ _ HRd.out)
      have XD' := row_alloc_step (row_step XD.out hbe) (.cells #[.int .u32 r1, .int .u32 r2, .int .u16 r3, .int .i64 rr, .int .i64 Kb1, .int .i64 Ib1, .float .f64 Fb1, .string Sb1, .slice eb1 mb1 db1] 49)
      have XE' := row_alloc we #[.int .u32 r1, .int .u32 r2, .int .u16 r3, .int .i64 rr, .int .i64 Kb1, .int .i64 Ib1, .float .f64 Fb1, .string Sb1, .slice eb1 mb1 db1] 49
      have x0 := row_cell XD' 0; have x1 := row_cell XD' 1; have x2 := row_cell XD' 2; have x3 := row_cell XD' 3; have x4 := row_cell XD' 4; have x5 := row_cell XD' 5; have x6 := row_cell XD' 6; have x7 := row_cell XD' 7; have x8 := row_cell XD' 8
      simp only [List.getElem?_toArray, List.getElem?_cons_zero, List.getElem?_cons_succ] at x0 x1 x2 x3 x4 x5 x6 x7 x8
      have y0 := row_cell XE' 0; have y1 := row_cell XE' 1; have y2 := row_cell XE' 2; have y3 := row_cell XE' 3; have y4 := row_cell XE' 4; have y5 := row_cell XE' 5; have y6 := row_cell XE' 6; have y7 := row_cell XE' 7; have y8 := row_cell XE' 8
      simp only [List.getElem?_toArray, List.getElem?_cons_zero, List.getElem?_cons_succ] at y0 y1 y2 y3 y4 y5 y6 y7 y8
      clear hbe hre XD' XE'
      go_wp2_with fail
      go_at_call 19; refine (reply_same (M + 1) TT _ r1 r2 r3 rr _ _ _ _ _ _ _ _ _ _ _ _ _ _ HRf.out HRe.out).mono ?_; rintro e wf ⟨rfl, hbf⟩
      have HBf1 := Lib.hid (bel_step HBc.out (bel_step HBe.out hbf))
      clear hbf HBc HBd HRd XD HYd HBe HRe HRf HYc HC HD HE HF x0 x1 x2 x3 x4 x5 x6 x7 x8 y0 y1 y2 y3 y4 y5 y6 y7 y8
      go_wp2
      rw [rounds_succ]
      go_wp2
      go_ret
      exact ⟨rfl, bel_step (bel_step HB4.out HBf0.out) HBf1.out⟩
    · -- true
      have hS : (w3.setCell ⟨g, j, none⟩ (.int .u8 (y : Int))).heap.size = w3.heap.size := World.size_setCell _ _ _
      have hrow := row_alloc (w3.setCell ⟨g, j, none⟩ (.int .u8 (y : Int))) #[.slice r k f, .slice (some ⟨g, 0, none⟩) j c3] 22
      rw [hS] at hrow
      obtain ⟨W4, hW4⟩ : ∃ W4, (w3.setCell ⟨g, j, none⟩ (.int .u8 (y : Int))).alloc (.cells #[.slice r k f, .slice (some ⟨g, 0, none⟩) j c3] 22) = W4 := ⟨_, rfl⟩
      have HA4 := Lib.hid (show Below (w3.setCell ⟨g, j, none⟩ (.int .u8 (y : Int))).heap.size (w3.setCell ⟨g, j, none⟩ (.int .u8 (y : Int))) W4 from hW4 ▸ (Below.refl _ _).alloc (Nat.le_refl _) _)
      rw [hW4] at hrow
      rw [hW4]
      have HB4 := Lib.hid (bel_step (bel_step HB2.out (ow_bel HO4.out)) HA4.out)
      have HRR := Lib.hid (rd_keep HB4.out HR.out)
      have HRB := Lib.hid (show RdB W4 (some ⟨g, 0, none⟩) j c3 ((Z.set j (y : Int)).take j) from rd_keep HA4.out (rd_take (rd_of_ow HO4.out) (by omega)))
      have c0 : W4.cell? ⟨w3.heap.size, 0, none⟩ = some (.slice r k f) := by rw [row_cell hrow]; rfl
      have HK1 := Lib.hid (show W4.cell? ⟨w3.heap.size, 1, none⟩ = some (.slice (some ⟨g, 0, none⟩) j c3) by rw [row_cell hrow]; rfl)
      clear hrow hW4 hS
      refine wp_loop_rounds 3 ?_
      rw [rounds_succ]
      obtain ⟨o, hqo⟩ : ∃ o, opO M (R) = o := ⟨_, rfl⟩
      obtain ⟨ro, hqr⟩ : ∃ o, repO M (R) = o := ⟨_, rfl⟩
      have HC := Lib.hid (fun (w : World) (h : RdB w r k f (R)) => cread_out M h4 hM w _ _ _ _ h HBR.out (by omega))
      have HD := Lib.hid (fun (w : World) (h : RdB w r k f (R)) => rop_out M hM w _ _ _ _ h HBR.out (by omega))
      have HE := Lib.hid (fun (w : World) (h : RdB w r k f (R)) => creply_out M h4 hM w _ _ _ _ h HBR.out (by omega))
      have HF := Lib.hid (fun (w : World) (h : RdB w r k f (R)) => rrep_out M hM w _ _ _ _ h HBR.out (by omega))
      rw [hqo] at HC HD
      rw [hqr] at HE HF
      obtain ⟨⟨a1, a2, a3⟩, T1, T2, LL, J, E⟩ := o
      obtain ⟨⟨r1, r2, r3⟩, rr, TT, J2, E2⟩ := ro
      clear hqo hqr
      have cc0 := c0
      go_wp2_with fail
      go_at_call 15; refine (HC.out _ (HRR.out)).mono ?_; rintro e wa ⟨hba, pa0, la0, ca0, rfl, hra⟩
      simp only [opA]
      have HBa := Lib.hid (bel_alloc hba (.cells #[.int .u32 a1, .int .u32 a2, .int .u16 a3, .string T1, .string T2, .slice pa0 la0 ca0] 29))
      have HRa := Lib.hid (repL_bel ((Below.refl wa.heap.size wa).alloc (Nat.le_refl _) (.cells #[.int .u32 a1, .int .u32 a2, .int .u16 a3, .string T1, .string T2, .slice pa0 la0 ca0] 29)) hra)
      have XA := Lib.hid (row_alloc wa #[.int .u32 a1, .int .u32 a2, .int .u16 a3, .string T1, .string T2, .slice pa0 la0 ca0] 29)
      have HYa := Lib.hid (rd_keep HBa.out (HRR.out))
      clear hba hra cc0
      go_wp2_with fail
      go_at_call 16; refine (HD.out _ HYa.out).mono ?_; rintro e wb ⟨hbb, pb0, lb0, cb0, rfl, hrb⟩
      simp only [opA]
      have HBb := Lib.hid (bel_alloc (bel_step HBa.out hbb) (.cells #[.int .u32 a1, .int .u32 a2, .int .u16 a3, .string T1, .string T2, .slice pb0 lb0 cb0] 29))
      have HRb := Lib.hid (repL_bel ((Below.refl wb.heap.size wb).alloc (Nat.le_refl _) (.cells #[.int .u32 a1, .int .u32 a2, .int .u16 a3, .string T1, .string T2, .slice pb0 lb0 cb0] 29)) hrb)
      have HRc := Lib.hid (repL_bel (bel_alloc hbb (.cells #[.int .u32 a1, .int .u32 a2, .int .u16 a3, .string T1, .string T2, .slice pb0 lb0 cb0] 29)) HRa.out)
      have XA' := row_alloc_step (row_step XA.out hbb) (.cells #[.int .u32 a1, .int .u32 a2, .int .u16 a3, .string T1, .string T2, .slice pb0 lb0 cb0] 29)
      have XB' := row_alloc wb #[.int .u32 a1, .int .u32 a2, .int .u16 a3, .string T1, .string T2, .slice pb0 lb0 cb0] 29
      have x0 := row_cell XA' 0; have x1 := row_cell XA' 1; have x2 := row_cell XA' 2; have x3 := row_cell XA' 3; have x4 := row_cell XA' 4; have x5 := row_cell XA' 5
      simp only [List.getElem?_toArray, List.getElem?_cons_zero, List.getElem?_cons_succ] at x0 x1 x2 x3 x4 x5
      have y0 := row_cell XB' 0; have y1 := row_cell XB' 1; have y2 := row_cell XB' 2; have y3 := row_cell XB' 3; have y4 := row_cell XB' 4; have y5 := row_cell XB' 5
      simp only [List.getElem?_toArray, List.getElem?_cons_zero, List.getElem?_cons_succ] at y0 y1 y2 y3 y4 y5
      have HYb := Lib.hid (rd_keep (bel_alloc hbb (.cells #[.int .u32 a1, .int .u32 a2, .int .u16 a3, .string T1, .string T2, .slice pb0 lb0 cb0] 29)) HYa.out)
      clear hbb hrb XA' XB'
      go_wp2_with fail
      go_at_call 12; refine (op_same (M + 1) LL _ a1 a2 a3 T1 T2 _ _ _ _ _ _ HRc.out HRb.out).mono ?_; rintro e wc ⟨rfl, hbc⟩
      have HBc := Lib.hid (bel_step HBb.out hbc)
      have HYc := Lib.hid (rd_keep hbc HYb.out)
      clear hbc HBa HRa XA HYa HBb HRb HRc HYb x0 x1 x2 x3 x4 x5 y0 y1 y2 y3 y4 y5
      go_wp2_with fail
      go_at_call 17; refine (HE.out _ HYc.out).mono ?_; rintro e wd ⟨hbd, Ka0, Ia0, Fa0, Sa0, ea0, ma0, da0, rfl, hrd⟩
      simp only [repA]
      have HBd := Lib.hid (bel_alloc hbd (.cells #[.int .u32 r1, .int .u32 r2, .int .u16 r3, .int .i64 rr, .int .i64 Ka0, .int .i64 Ia0, .float .f64 Fa0, .string Sa0, .slice ea0 ma0 da0] 49))
      have HRd := Lib.hid (rep_keep ((Below.refl wd.heap.size wd).alloc (Nat.le_refl _) (.cells #[.int .u32 r1, .int .u32 r2, .int .u16 r3, .int .i64 rr, .int .i64 Ka0, .int .i64 Ia0, .float .f64 Fa0, .string Sa0, .slice ea0 ma0 da0] 49)) _ _ _ hrd)
      have XD := Lib.hid (row_alloc wd #[.int .u32 r1, .int .u32 r2, .int .u16 r3, .int .i64 rr, .int .i64 Ka0, .int .i64 Ia0, .float .f64 Fa0, .string Sa0, .slice ea0 ma0 da0] 49)
      have HYd := Lib.hid (rd_keep HBd.out HYc.out)
      clear hbd hrd
      go_wp2_with fail
      go_at_call 18; refine (HF.out _ HYd.out).mono ?_; rintro e we ⟨hbe, Kb0, Ib0, Fb0, Sb0, eb0, mb0, db0, rfl, hre⟩
      simp only [repA]
      have HBe := Lib.hid (bel_alloc (bel_step HBd.out hbe) (.cells #[.int .u32 r1, .int .u32 r2, .int .u16 r3, .int .i64 rr, .int .i64 Kb0, .int .i64 Ib0, .float .f64 Fb0, .string Sb0, .slice eb0 mb0 db0] 49))
      have HRe := Lib.hid (rep_keep ((Below.refl we.heap.size we).alloc (Nat.le_refl _) (.cells #[.int .u32 r1, .int .u32 r2, .int .u16 r3, .int .i64 rr, .int .i64 Kb0, .int .i64 Ib0, .float .f64 Fb0, .string Sb0, .slice eb0 mb0 db0] 49)) _ _ _ hre)
      have HRf := Lib.hid (rep_keep (bel_alloc hbe (.cells #[.int .u32 r1, .int .u32 r2, .int .u16 r3, .int .i64 rr, .int .i64 Kb0, .int .i64 Ib0, .float .f64 Fb0, .string Sb0, .slice eb0 mb0 db0] 49)) _ _ _ HRd.out)
      have XD' := row_alloc_step (row_step XD.out hbe) (.cells #[.int .u32 r1, .int .u32 r2, .int .u16 r3, .int .i64 rr, .int .i64 Kb0, .int .i64 Ib0, .float .f64 Fb0, .string Sb0, .slice eb0 mb0 db0] 49)
      have XE' := row_alloc we #[.int .u32 r1, .int .u32 r2, .int .u16 r3, .int .i64 rr, .int .i64 Kb0, .int .i64 Ib0, .float .f64 Fb0, .string Sb0, .slice eb0 mb0 db0] 49
      have x0 := row_cell XD' 0; have x1 := row_cell XD' 1; have x2 := row_cell XD' 2; have x3 := row_cell XD' 3; have x4 := row_cell XD' 4; have x5 := row_cell XD' 5; have x6 := row_cell XD' 6; have x7 := row_cell XD' 7; have x8 := row_cell XD' 8
      simp only [List.getElem?_toArray, List.getElem?_cons_zero, List.getElem?_cons_succ] at x0 x1 x2 x3 x4 x5 x6 x7 x8
      have y0 := row_cell XE' 0; have y1 := row_cell XE' 1; have y2 := row_cell XE' 2; have y3 := row_cell XE' 3; have y4 := row_cell XE' 4; have y5 := row_cell XE' 5; have y6 := row_cell XE' 6; have y7 := row_cell XE' 7; have y8 := row_cell XE' 8
      simp only [List.getElem?_toArray, List.getElem?_cons_zero, List.getElem?_cons_succ] at y0 y1 y2 y3 y4 y5 y6 y7 y8
      clear hbe hre XD' XE'
      go_wp2_with fail
      go_at_call 19; refine (reply_same (M + 1) TT _ r1 r2 r3 rr _ _ _ _ _ _ _ _ _ _ _ _ _ _ HRf.out HRe.out).mono ?_; rintro e wf ⟨rfl, hbf⟩
      have HBf0 := Lib.hid (bel_step HBc.out (bel_step HBe.out hbf))
      clear hbf HBc HBd HRd XD HYd HBe HRe HRf HYc HC HD HE HF x0 x1 x2 x3 x4 x5 x6 x7 x8 y0 y1 y2 y3 y4 y5 y6 y7 y8
      go_wp2
      rw [rounds_succ]
      obtain ⟨o, hqo⟩ : ∃ o, opO M ((Z.set j (y : Int)).take j) = o := ⟨_, rfl⟩
      obtain ⟨ro, hqr⟩ : ∃ o, repO M ((Z.set j (y : Int)).take j) = o := ⟨_, rfl⟩
      have HC := Lib.hid (fun (w : World) (h : RdB w (some ⟨g, 0, none⟩) j c3 ((Z.set j (y : Int)).take j)) => cread_out M h4 hM w _ _ _ _ h (by_take HY.out j) (by omega))
      have HD := Lib.hid (fun (w : World) (h : RdB w (some ⟨g, 0, none⟩) j c3 ((Z.set j (y : Int)).take j)) => rop_out M hM w _ _ _ _ h (by_take HY.out j) (by omega))
      have HE := Lib.hid (fun (w : World) (h : RdB w (some ⟨g, 0, none⟩) j c3 ((Z.set j (y : Int)).take j)) => creply_out M h4 hM w _ _ _ _ h (by_take HY.out j) (by omega))
      have HF := Lib.hid (fun (w : World) (h : RdB w (some ⟨g, 0, none⟩) j c3 ((Z.set j (y : Int)).take j)) => rrep_out M hM w _ _ _ _ h (by_take HY.out j) (by omega))
      rw [hqo] at HC HD
      rw [hqr] at HE HF
      obtain ⟨⟨a1, a2, a3⟩, T1, T2, LL, J, E⟩ := o
      obtain ⟨⟨r1, r2, r3⟩, rr, TT, J2, E2⟩ := ro
      clear hqo hqr
      have cc1 := cell_keep HBf0.out HK1.out
      go_wp2_with fail
      go_at_call 15; refine (HC.out _ (rd_keep HBf0.out HRB.out)).mono ?_; rintro e wa ⟨hba, pa1, la1, ca1, rfl, hra⟩
      simp only [opA]
      have HBa := Lib.hid (bel_alloc hba (.cells #[.int .u32 a1, .int .u32 a2, .int .u16 a3, .string T1, .string T2, .slice pa1 la1 ca1] 29))
      have HRa := Lib.hid (repL_bel ((Below.refl wa.heap.size wa).alloc (Nat.le_refl _) (.cells #[.int .u32 a1, .int .u32 a2, .int .u16 a3, .string T1, .string T2, .slice pa1 la1 ca1] 29)) hra)
      have XA := Lib.hid (row_alloc wa #[.int .u32 a1, .int .u32 a2, .int .u16 a3, .string T1, .string T2, .slice pa1 la1 ca1] 29)
      have HYa := Lib.hid (rd_keep HBa.out (rd_keep HBf0.out HRB.out))
      clear hba hra cc1
      go_wp2_with fail
      go_at_call 16; refine (HD.out _ HYa.out).mono ?_; rintro e wb ⟨hbb, pb1, lb1, cb1, rfl, hrb⟩
      simp only [opA]
      have HBb := Lib.hid (bel_alloc (bel_step HBa.out hbb) (.cells #[.int .u32 a1, .int .u32 a2, .int .u16 a3, .string T1, .string T2, .slice pb1 lb1 cb1] 29))
      have HRb := Lib.hid (repL_bel ((Below.refl wb.heap.size wb).alloc (Nat.le_refl _) (.cells #[.int .u32 a1, .int .u32 a2, .int .u16 a3, .string T1, .string T2, .slice pb1 lb1 cb1] 29)) hrb)
      have HRc := Lib.hid (repL_bel (bel_alloc hbb (.cells #[.int .u32 a1, .int .u32 a2, .int .u16 a3, .string T1, .string T2, .slice pb1 lb1 cb1] 29)) HRa.out)
      have XA' := row_alloc_step (row_step XA.out hbb) (.cells #[.int .u32 a1, .int .u32 a2, .int .u16 a3, .string T1, .string T2, .slice pb1 lb1 cb1] 29)
      have XB' := row_alloc wb #[.int .u32 a1, .int .u32 a2, .int .u16 a3, .string T1, .string T2, .slice pb1 lb1 cb1] 29
      have x0 := row_cell XA' 0; have x1 := row_cell XA' 1; have x2 := row_cell XA' 2; have x3 := row_cell XA' 3; have x4 := row_cell XA' 4; have x5 := row_cell XA' 5
      simp only [List.getElem?_toArray, List.getElem?_cons_zero, List.getElem?_cons_succ] at x0 x1 x2 x3 x4 x5
      have y0 := row_cell XB' 0; have y1 := row_cell XB' 1; have y2 := row_cell XB' 2; have y3 := row_cell XB' 3; have y4 := row_cell XB' 4; have y5 := row_cell XB' 5
      simp only [List.getElem?_toArray, List.getElem?_cons_zero, List.getElem?_cons_succ] at y0 y1 y2 y3 y4 y5
      have HYb := Lib.hid (rd_keep (bel_alloc hbb (.cells #[.int .u32 a1, .int .u32 a2, .int .u16 a3, .string T1, .string T2, .slice pb1 lb1 cb1] 29)) HYa.out)
      clear hbb hrb XA' XB'
      go_wp2_with fail
      go_at_call 12; refine (op_same (M + 1) LL _ a1 a2 a3 T1 T2 _ _ _ _ _ _ HRc.out HRb.out).mono ?_; rintro e wc ⟨rfl, hbc⟩
      have HBc := Lib.hid (bel_step HBb.out hbc)
      have HYc := Lib.hid (rd_keep hbc HYb.out)
      clear hbc HBa HRa XA HYa HBb HRb HRc HYb x0 x1 x2 x3 x4 x5 y0 y1 y2 y3 y4 y5
      go_wp2_with fail
      go_at_call 17; refine (HE.out _ HYc.out).mono ?_; rintro e wd ⟨hbd, Ka1, Ia1, Fa1, Sa1, ea1, ma1, da1, rfl, hrd⟩
      simp only [repA]
      have HBd := Lib.hid (bel_alloc hbd (.cells #[.int .u32 r1, .int .u32 r2, .int .u16 r3, .int .i64 rr, .int .i64 Ka1, .int .i64 Ia1, .float .f64 Fa1, .string Sa1, .slice ea1 ma1 da1] 49))
      have HRd := Lib.hid (rep_keep ((Below.refl wd.heap.size wd).alloc (Nat.le_refl _) (.cells #[.int .u32 r1, .int .u32 r2, .int .u16 r3, .int .i64 rr, .int .i64 Ka1, .int .i64 Ia1, .float .f64 Fa1, .string Sa1, .slice ea1 ma1 da1] 49)) _ _ _ hrd)
      have XD := Lib.hid (row_alloc wd #[.int .u32 r1, .int .u32 r2, .int .u16 r3, .int .i64 rr, .int .i64 Ka1, .int .i64 Ia1, .float .f64 Fa1, .string Sa1, .slice ea1 ma1 da1] 49)
      have HYd := Lib.hid (rd_keep HBd.out HYc.out)
      clear hbd hrd
      go_wp2_with fail
      go_at_call 18; refine (HF.out _ HYd.out).mono ?_; rintro e we ⟨hbe, Kb1, Ib1, Fb1, Sb1, eb1, mb1, db1, rfl, hre⟩
      simp only [repA]
      have HBe := Lib.hid (bel_alloc (bel_step HBd.out hbe) (.cells #[.int .u32 r1, .int .u32 r2, .int .u16 r3, .int .i64 rr, .int .i64 Kb1, .int .i64 Ib1, .float .f64 Fb1, .string Sb1, .slice eb1 mb1 db1] 49))
      have HRe := Lib.hid (rep_keep ((Below.refl we.heap.size we).alloc (Nat.le_refl _) (.cells #[.int .u32 r1, .int .u32 r2, .int .u16 r3, .int .i64 rr, .int .i64 Kb1, .int .i64 Ib1, .float .f64 Fb1, .string Sb1, .slice eb1 mb1 db1] 49)) _ _ _ hre)
      have HRf := Lib.hid (rep_keep (bel_alloc hbe (.cells #[.int .u32 r1, .int .u32 r2, .int .u16 r3, .int .i64 rr, .int .i64 Kb1, .int .i64 Ib1, .float .f64 Fb1, .string Sb1, .slice eb1 mb1 db1] 49)) _ _ _ HRd.out)
      have XD' := row_alloc_step (row_step XD.out hbe) (.cells #[.int .u32 r1, .int .u32 r2, .int .u16 r3, .int .i64 rr, .int .i64 Kb1, .int .i64 Ib1, .float .f64 Fb1, .string Sb1, .slice eb1 mb1 db1] 49)
      have XE' := row_alloc we #[.int .u32 r1, .int .u32 r2, .int .u16 r3, .int .i64 rr, .int .i64 Kb1, .int .i64 Ib1, .float .f64 Fb1, .string Sb1, .slice eb1 mb1 db1] 49
      have x0 := row_cell XD' 0; have x1 := row_cell XD' 1; have x2 := row_cell XD' 2; have x3 := row_cell XD' 3; have x4 := row_cell XD' 4; have x5 := row_cell XD' 5; have x6 := row_cell XD' 6; have x7 := row_cell XD' 7; have x8 := row_cell XD' 8
      simp only [List.getElem?_toArray, List.getElem?_cons_zero, List.getElem?_cons_succ] at x0 x1 x2 x3 x4 x5 x6 x7 x8
      have y0 := row_cell XE' 0; have y1 := row_cell XE' 1; have y2 := row_cell XE' 2; have y3 := row_cell XE' 3; have y4 := row_cell XE' 4; have y5 := row_cell XE' 5; have y6 := row_cell XE' 6; have y7 := row_cell XE' 7; have y8 := row_cell XE' 8
      simp only [List.getElem?_toArray, List.getElem?_cons_zero, List.getElem?_cons_succ] at y0 y1 y2 y3 y4 y5 y6 y7 y8
      clear hbe hre XD' XE'
      go_wp2_with fail
      go_at_call 19; refine (reply_same (M + 1) TT _ r1 r2 r3 rr _ _ _ _ _ _ _ _ _ _ _ _ _ _ HRf.out HRe.out).mono ?_; rintro e wf ⟨rfl, hbf⟩
      have HBf1 := Lib.hid (bel_step HBc.out (bel_step HBe.out hbf))
      clear hbf HBc HBd HRd XD HYd HBe HRe HRf HYc HC HD HE HF x0 x1 x2 x3 x4 x5 x6 x7 x8 y0 y1 y2 y3 y4 y5 y6 y7 y8
      go_wp2
      rw [rounds_succ]
      go_wp2
      go_ret
      exact ⟨rfl, bel_step (bel_step HB4.out HBf0.out) HBf1.out⟩
end Num
end Go.Proofs.Ytomfgncbdgifoaa
