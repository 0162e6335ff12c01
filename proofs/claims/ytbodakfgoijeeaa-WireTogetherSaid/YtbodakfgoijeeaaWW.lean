/-
  What package wire reads: a value by its kind; all together.
-/
import Derived.Test.YtbodakfgoijeeaaWV
namespace Go.Proofs.Ytbodakfgoijeeaa
open Go.RowKit
namespace Num
open Ints
set_option linter.unusedSimpArgs false
set_option linter.unusedVariables false
theorem u64_of {X : List Int} (hX : By X) (hl : X.length ≤ 8) : ∃ B : Nat, rdU X = (B : Int) ∧ B < 18446744073709551616 := by
  obtain ⟨h0, h1⟩ := rdU_pow X X.length hl rfl hX
  have hp : (256 : Int) ^ X.length ≤ 256 ^ 8 := by
    have : X.length = 0 ∨ X.length = 1 ∨ X.length = 2 ∨ X.length = 3 ∨ X.length = 4 ∨ X.length = 5 ∨ X.length = 6 ∨ X.length = 7 ∨ X.length = 8 := by omega
    rcases this with h | h | h | h | h | h | h | h | h <;> rw [h] <;> decide
  have hp8 : (256 : Int) ^ 8 = 18446744073709551616 := by decide
  exact ⟨(rdU X).toNat, by omega, by omega⟩
theorem fail_mk (K I : Int) (F : Nat) (S : ByteArray) (p : Option Addr) (l c : Nat) (m : Int) : Fail3 (.returned (.tuple #[.agg #[.int .i64 K, .int .i64 I, .float .f64 F, .string S, .slice p l c], .int .i64 m, .bool false])) := ⟨K, I, F, S, p, l, c, m, rfl⟩
theorem rv_none {n : Nat} {X : List Int} {w w' : World} {e : Ending} (hb : Below w.heap.size w w') (hd : decV n X = none) (hf : Fail3 e) : RvPost n X w e w' := ⟨hb, fun _ => hf, fun T j h => by rw [hd] at h; cases h⟩
theorem rv_some {n : Nat} {X : List Int} {w w' : World} {e : Ending} {T : VT n} {j : Nat} {v : Value} (hb : Below w.heap.size w w') (hd : decV n X = some (T, j)) (he : e = .returned (.tuple #[v, .int .i64 (j : Int), .bool true])) (hr : RepS (fun b => w.heap.size ≤ b) w' n v T) : RvPost n X w e w' :=
  ⟨hb, fun h => (by rw [hd] at h; cases h), fun T' j' h => by rw [hd] at h; cases h; exact ⟨v, he, hr⟩⟩
theorem repS_leaf (S : Nat → Prop) (w : World) (n : Nat) (K I : Int) (x : Nat) (s : ByteArray) (hK : okI K) (hI : okI I) (hx : x < 2 ^ 64) (hs : s.size ≤ maxLen) : RepS S w (n + 1) (.agg #[.int .i64 K, .int .i64 I, .float .f64 x, .string s, .slice none 0 0]) (K, I, x, s, []) :=
  ⟨none, 0, 0, rfl, hK, hI, hx, hs, rfl, Nat.le_refl _, Nat.zero_le _, fun h => absurd h (Nat.lt_irrefl _)⟩
theorem ok_wrap64 (x : Int) : okI (wrap64 x) := by unfold okI wrap64; omega
/-- What a box that the call lays first leaves as it was. -/
theorem bel_box {w w' : World} (o : Obj) (hb : Below (w.alloc o).heap.size (w.alloc o) w') : Below w.heap.size w w' := bel_step ((Below.refl _ _).alloc (Nat.le_refl _) _) hb
theorem bel_set5 {w w' : World} {b : Nat} (h : Below w.heap.size w w') (hb : w.heap.size ≤ b) (v0 v1 v2 v3 v4 : Value) : Below w.heap.size w (((((w'.setCell ⟨b, 0, none⟩ v0).setCell ⟨b, 1, none⟩ v1).setCell ⟨b, 2, none⟩ v2).setCell ⟨b, 3, none⟩ v3).setCell ⟨b, 4, none⟩ v4) := below5 h hb v0 v1 v2 v3 v4
theorem rd_parts {w : World} {b off l c : Nat} {k : Int} {R : List Int} (h : RdB w (some ⟨b, off, none⟩) l c (k :: R)) : R.length + 1 = l ∧ l ≤ c ∧ c ≤ 9223372036854775807 := by
  obtain ⟨h1, h2, h3, _⟩ := h
  unfold maxLen at h3
  exact ⟨h1, h2, by omega⟩
set_option maxRecDepth 100000 in
set_option maxHeartbeats 2000000 in
theorem rv_empty (n : Nat) (w : World) (p : Option Addr) (c : Nat) (hc : c ≤ maxLen) : Calls Try.prog 21 #[.slice p 0 c] w (RvPost n [] w) := by
  have HU := Lib.hid (fun w => readU_no w p 0 c 1 (Nat.zero_le _) hc (by omega))
  have HN := Lib.hid (show decV n [] = none by cases n <;> rfl)
  clear hc
  go_enter Try.func21, Try.ntmps21
  go_wp2_with fail
  go_at_call 15; refine (HU.out _).mono ?_; rintro e w1 ⟨rfl, rfl⟩
  go_wp2
  exact bodyPost_ret (v := .tuple #[.agg #[.int .i64 0, .int .i64 0, .float .f64 0, .string ⟨#[]⟩, .slice none 0 0], .int .i64 0, .bool false]) (by simp [results, Try.results21, go_sem]) rfl (rv_none (bel_alloc (Below.refl _ _) _) HN.out (fail_mk _ _ _ _ _ _ _ _))
set_option maxRecDepth 100000 in
set_option maxHeartbeats 4000000 in
theorem rv_k0 (n : Nat) (w : World) (b off l c : Nat) (R : List Int) (hb : RdB w (some ⟨b, off, none⟩) l c (0 :: R)) (hX : By (0 :: R)) (hl : l ≤ 100000) : Calls Try.prog 21 #[.slice (some ⟨b, off, none⟩) l c] w (RvPost (n + 1) (0 :: R) w) := by
  obtain ⟨hR, hlc, hcm⟩ := rd_parts hb
  have HU := Lib.hid (fun w' (h : RdB w' (some ⟨b, off, none⟩) l c (0 :: R)) => readU_all w' _ l c (0 :: R) 1 h hX (by omega) (by omega))
  have HM := Lib.hid (show rdU ((0 :: R).take 1) = 0 from rdU_one 0 (hX 0 (List.mem_cons_self ..)).1 (hX 0 (List.mem_cons_self ..)).2)
  have HB := Lib.hid (rd_keep ((Below.refl w.heap.size w).alloc (Nat.le_refl _) (.cells #[.int .i64 0, .int .i64 0, .float .f64 0, .string ⟨#[]⟩, .slice none 0 0] 26)) hb)
  have HX := Lib.hid (show By R from fun x hx => hX x (List.mem_cons_of_mem _ hx))
  have hR1 : R.length + 1 ≤ l := by omega
  have hR2 : l ≤ R.length + 1 := by omega
  have HN := Lib.hid (show decV (n + 1) (0 :: R) = some ((0, 0, 0, ⟨#[]⟩, []), 1) by rw [decV, if_pos (by decide)])
  by_cases hc1 : c = 1
  · obtain rfl : l = 1 := by omega
    subst hc1
    have HRD := Lib.hid (show RdB (w.alloc (.cells #[.int .i64 0, .int .i64 0, .float .f64 0, .string ⟨#[]⟩, .slice none 0 0] 26)) (some ⟨b, off, none⟩) 0 0 R from rd_end HB.out)
    have hR0 : R.length ≤ 0 := by omega
    clear hb hX hR
    go_enter Try.func21, Try.ntmps21
    go_wp2_with fail
    go_at_call 15; refine (HU.out _ HB.out).mono ?_; rintro e w1 ⟨rfl, rfl⟩
    rw [HM.out]
    go_wp2
    exact bodyPost_ret (v := .tuple #[.agg #[.int .i64 0, .int .i64 0, .float .f64 0, .string ⟨#[]⟩, .slice none 0 0], .int .i64 1, .bool true]) (by simp [results, Try.results21, go_sem]) rfl (rv_some (bel_alloc (Below.refl _ _) _) HN.out rfl (repS_leaf _ _ n 0 0 0 ⟨#[]⟩ (by decide) (by decide) (by decide) (by decide)))
  · have HRD := Lib.hid (show RdB (w.alloc (.cells #[.int .i64 0, .int .i64 0, .float .f64 0, .string ⟨#[]⟩, .slice none 0 0] 26)) (some ⟨b, off + 1, none⟩) (l - 1) (c - 1) R from rd_from (k := 1) HB.out (by omega) hc1)
    clear hb hX hR
    go_enter Try.func21, Try.ntmps21
    go_wp2_with fail
    go_at_call 15; refine (HU.out _ HB.out).mono ?_; rintro e w1 ⟨rfl, rfl⟩
    rw [HM.out]
    go_wp2
    exact bodyPost_ret (v := .tuple #[.agg #[.int .i64 0, .int .i64 0, .float .f64 0, .string ⟨#[]⟩, .slice none 0 0], .int .i64 1, .bool true]) (by simp [results, Try.results21, go_sem]) rfl (rv_some (bel_alloc (Below.refl _ _) _) HN.out rfl (repS_leaf _ _ n 0 0 0 ⟨#[]⟩ (by decide) (by decide) (by decide) (by decide)))
set_option maxRecDepth 100000 in
set_option maxHeartbeats 4000000 in
theorem rv_k1 (n : Nat) (w : World) (b off l c : Nat) (R : List Int) (hb : RdB w (some ⟨b, off, none⟩) l c (1 :: R)) (hX : By (1 :: R)) (hl : l ≤ 100000) (h8 : 8 ≤ R.length) : Calls Try.prog 21 #[.slice (some ⟨b, off, none⟩) l c] w (RvPost (n + 1) (1 :: R) w) := by
  obtain ⟨hR, hlc, hcm⟩ := rd_parts hb
  have HU := Lib.hid (fun w' (h : RdB w' (some ⟨b, off, none⟩) l c (1 :: R)) => readU_all w' _ l c (1 :: R) 1 h hX (by omega) (by omega))
  have HM := Lib.hid (show rdU ((1 :: R).take 1) = 1 from rdU_one 1 (hX 1 (List.mem_cons_self ..)).1 (hX 1 (List.mem_cons_self ..)).2)
  have HB := Lib.hid (rd_keep ((Below.refl w.heap.size w).alloc (Nat.le_refl _) (.cells #[.int .i64 0, .int .i64 0, .float .f64 0, .string ⟨#[]⟩, .slice none 0 0] 26)) hb)
  have HX := Lib.hid (show By R from fun x hx => hX x (List.mem_cons_of_mem _ hx))
  have hR1 : R.length + 1 ≤ l := by omega
  have hR2 : l ≤ R.length + 1 := by omega
  obtain ⟨B, hB, hB64⟩ := u64_of (X := R.take 8) (by_take HX.out 8) (by rw [List.length_take]; omega)
  have HB8 := Lib.hid hB
  have HN := Lib.hid (show decV (n + 1) (1 :: R) = some ((1, wrap64 (B : Int), 0, ⟨#[]⟩, []), 9) by rw [decV, if_neg (by decide), if_pos (by decide), if_pos h8, hB])
  clear hB
  have hc1 : c ≠ 1 := by omega
  have HRD := Lib.hid (show RdB (w.alloc (.cells #[.int .i64 0, .int .i64 0, .float .f64 0, .string ⟨#[]⟩, .slice none 0 0] 26)) (some ⟨b, off + 1, none⟩) (l - 1) (c - 1) R from rd_from (k := 1) HB.out (by omega) hc1)
  clear hb hX hR
  go_enter Try.func21, Try.ntmps21
  go_wp2_with fail
  go_at_call 15; refine (HU.out _ HB.out).mono ?_; rintro e w1 ⟨rfl, rfl⟩
  rw [HM.out]
  go_wp2_with fail
  go_at_call 15; refine (readU_all _ _ _ _ R 8 HRD.out HX.out (by omega) (by omega)).mono ?_; rintro e w2 ⟨rfl, rfl⟩
  rw [HB8.out]
  go_wp2
  exact bodyPost_ret (v := .tuple #[.agg #[.int .i64 1, .int .i64 (wrap64 (B : Int)), .float .f64 0, .string ⟨#[]⟩, .slice none 0 0], .int .i64 9, .bool true]) (by simp [results, Try.results21, go_sem]) rfl (rv_some (bel_alloc (Below.refl _ _) _) HN.out rfl (repS_leaf _ _ n 1 _ 0 ⟨#[]⟩ (by decide) (ok_wrap64 _) (by decide) (by decide)))
set_option maxRecDepth 100000 in
set_option maxHeartbeats 4000000 in
theorem rv_k1n (n : Nat) (w : World) (b off l c : Nat) (R : List Int) (hb : RdB w (some ⟨b, off, none⟩) l c (1 :: R)) (hX : By (1 :: R)) (hl : l ≤ 100000) (h8 : ¬ 8 ≤ R.length) : Calls Try.prog 21 #[.slice (some ⟨b, off, none⟩) l c] w (RvPost (n + 1) (1 :: R) w) := by
  obtain ⟨hR, hlc, hcm⟩ := rd_parts hb
  have HU := Lib.hid (fun w' (h : RdB w' (some ⟨b, off, none⟩) l c (1 :: R)) => readU_all w' _ l c (1 :: R) 1 h hX (by omega) (by omega))
  have HM := Lib.hid (show rdU ((1 :: R).take 1) = 1 from rdU_one 1 (hX 1 (List.mem_cons_self ..)).1 (hX 1 (List.mem_cons_self ..)).2)
  have HB := Lib.hid (rd_keep ((Below.refl w.heap.size w).alloc (Nat.le_refl _) (.cells #[.int .i64 0, .int .i64 0, .float .f64 0, .string ⟨#[]⟩, .slice none 0 0] 26)) hb)
  have HX := Lib.hid (show By R from fun x hx => hX x (List.mem_cons_of_mem _ hx))
  have hR1 : R.length + 1 ≤ l := by omega
  have hR2 : l ≤ R.length + 1 := by omega
  have HN := Lib.hid (show decV (n + 1) (1 :: R) = none by rw [decV, if_neg (by decide), if_pos (by decide), if_neg h8])
  by_cases hc1 : c = 1
  · obtain rfl : l = 1 := by omega
    subst hc1
    have HRD := Lib.hid (show RdB (w.alloc (.cells #[.int .i64 0, .int .i64 0, .float .f64 0, .string ⟨#[]⟩, .slice none 0 0] 26)) (some ⟨b, off, none⟩) 0 0 R from rd_end HB.out)
    have hR0 : R.length ≤ 0 := by omega
    clear hb hX hR
    go_enter Try.func21, Try.ntmps21
    go_wp2_with fail
    go_at_call 15; refine (HU.out _ HB.out).mono ?_; rintro e w1 ⟨rfl, rfl⟩
    rw [HM.out]
    go_wp2_with fail
    go_at_call 15; refine (readU_no _ _ 0 0 8 (by omega) (by unfold maxLen; omega) (by omega)).mono ?_; rintro e w2 ⟨rfl, rfl⟩
    go_wp2
    exact bodyPost_ret (v := .tuple #[.agg #[.int .i64 1, .int .i64 0, .float .f64 0, .string ⟨#[]⟩, .slice none 0 0], .int .i64 9, .bool false]) (by simp [results, Try.results21, go_sem]) rfl (rv_none (bel_alloc (Below.refl _ _) _) HN.out (fail_mk _ _ _ _ _ _ _ _))
  · have HRD := Lib.hid (show RdB (w.alloc (.cells #[.int .i64 0, .int .i64 0, .float .f64 0, .string ⟨#[]⟩, .slice none 0 0] 26)) (some ⟨b, off + 1, none⟩) (l - 1) (c - 1) R from rd_from (k := 1) HB.out (by omega) hc1)
    clear hb hX hR
    go_enter Try.func21, Try.ntmps21
    go_wp2_with fail
    go_at_call 15; refine (HU.out _ HB.out).mono ?_; rintro e w1 ⟨rfl, rfl⟩
    rw [HM.out]
    go_wp2_with fail
    go_at_call 15; refine (readU_no _ _ (l - 1) (c - 1) 8 (by omega) (by unfold maxLen; omega) (by omega)).mono ?_; rintro e w2 ⟨rfl, rfl⟩
    go_wp2
    exact bodyPost_ret (v := .tuple #[.agg #[.int .i64 1, .int .i64 0, .float .f64 0, .string ⟨#[]⟩, .slice none 0 0], .int .i64 9, .bool false]) (by simp [results, Try.results21, go_sem]) rfl (rv_none (bel_alloc (Below.refl _ _) _) HN.out (fail_mk _ _ _ _ _ _ _ _))
set_option maxRecDepth 100000 in
set_option maxHeartbeats 4000000 in
theorem rv_k2 (n : Nat) (w : World) (b off l c : Nat) (R : List Int) (hb : RdB w (some ⟨b, off, none⟩) l c (2 :: R)) (hX : By (2 :: R)) (hl : l ≤ 100000) (h8 : 8 ≤ R.length) (hq : Flo.canon (rdU (R.take 8)).toNat = (rdU (R.take 8)).toNat) : Calls Try.prog 21 #[.slice (some ⟨b, off, none⟩) l c] w (RvPost (n + 1) (2 :: R) w) := by
  obtain ⟨hR, hlc, hcm⟩ := rd_parts hb
  have HU := Lib.hid (fun w' (h : RdB w' (some ⟨b, off, none⟩) l c (2 :: R)) => readU_all w' _ l c (2 :: R) 1 h hX (by omega) (by omega))
  have HM := Lib.hid (show rdU ((2 :: R).take 1) = 2 from rdU_one 2 (hX 2 (List.mem_cons_self ..)).1 (hX 2 (List.mem_cons_self ..)).2)
  have HB := Lib.hid (rd_keep ((Below.refl w.heap.size w).alloc (Nat.le_refl _) (.cells #[.int .i64 0, .int .i64 0, .float .f64 0, .string ⟨#[]⟩, .slice none 0 0] 26)) hb)
  have HX := Lib.hid (show By R from fun x hx => hX x (List.mem_cons_of_mem _ hx))
  have hR1 : R.length + 1 ≤ l := by omega
  have hR2 : l ≤ R.length + 1 := by omega
  obtain ⟨B, hB, hB64⟩ := u64_of (X := R.take 8) (by_take HX.out 8) (by rw [List.length_take]; omega)
  have HB8 := Lib.hid hB
  rw [hB] at hq
  rw [Int.toNat_natCast] at hq
  have HN := Lib.hid (show decV (n + 1) (2 :: R) = some ((2, 0, B, ⟨#[]⟩, []), 9) by rw [decV, if_neg (by decide), if_neg (by decide), if_pos (by decide), hB, Int.toNat_natCast, if_pos ⟨h8, hq⟩])
  have HQ := Lib.hid (show ((Flo.canon B : Int) == (B : Int)) = true by rw [hq]; simp)
  have HF := Lib.hid (show ∀ w p l c, RdB w p l c R → 8 ≤ l → Calls Try.prog 35 #[.slice p l c] w fun e w' => e = .returned (.tuple #[.float .f64 B, .bool true]) ∧ w = w' from fun w p l c h h8 => readFloat_full w p l c R B true h HX.out h8 hB hB64 HQ.out)
  clear hB hq
  have hc1 : c ≠ 1 := by omega
  have HRD := Lib.hid (show RdB (w.alloc (.cells #[.int .i64 0, .int .i64 0, .float .f64 0, .string ⟨#[]⟩, .slice none 0 0] 26)) (some ⟨b, off + 1, none⟩) (l - 1) (c - 1) R from rd_from (k := 1) HB.out (by omega) hc1)
  clear hb hX hR
  go_enter Try.func21, Try.ntmps21
  go_wp2_with fail
  go_at_call 15; refine (HU.out _ HB.out).mono ?_; rintro e w1 ⟨rfl, rfl⟩
  rw [HM.out]
  go_wp2_with fail
  go_at_call 35; refine (HF.out _ _ _ _ HRD.out (by omega)).mono ?_; rintro e w2 ⟨rfl, rfl⟩
  go_wp2
  exact bodyPost_ret (v := .tuple #[.agg #[.int .i64 2, .int .i64 0, .float .f64 B, .string ⟨#[]⟩, .slice none 0 0], .int .i64 9, .bool true]) (by simp [results, Try.results21, go_sem]) rfl (rv_some (bel_alloc (Below.refl _ _) _) HN.out rfl (repS_leaf _ _ n 2 0 B ⟨#[]⟩ (by decide) (by decide) hB64 (by decide)))
set_option maxRecDepth 100000 in
set_option maxHeartbeats 4000000 in
theorem rv_k2b (n : Nat) (w : World) (b off l c : Nat) (R : List Int) (hb : RdB w (some ⟨b, off, none⟩) l c (2 :: R)) (hX : By (2 :: R)) (hl : l ≤ 100000) (h8 : 8 ≤ R.length) (hq : ¬ Flo.canon (rdU (R.take 8)).toNat = (rdU (R.take 8)).toNat) : Calls Try.prog 21 #[.slice (some ⟨b, off, none⟩) l c] w (RvPost (n + 1) (2 :: R) w) := by
  obtain ⟨hR, hlc, hcm⟩ := rd_parts hb
  have HU := Lib.hid (fun w' (h : RdB w' (some ⟨b, off, none⟩) l c (2 :: R)) => readU_all w' _ l c (2 :: R) 1 h hX (by omega) (by omega))
  have HM := Lib.hid (show rdU ((2 :: R).take 1) = 2 from rdU_one 2 (hX 2 (List.mem_cons_self ..)).1 (hX 2 (List.mem_cons_self ..)).2)
  have HB := Lib.hid (rd_keep ((Below.refl w.heap.size w).alloc (Nat.le_refl _) (.cells #[.int .i64 0, .int .i64 0, .float .f64 0, .string ⟨#[]⟩, .slice none 0 0] 26)) hb)
  have HX := Lib.hid (show By R from fun x hx => hX x (List.mem_cons_of_mem _ hx))
  have hR1 : R.length + 1 ≤ l := by omega
  have hR2 : l ≤ R.length + 1 := by omega
  obtain ⟨B, hB, hB64⟩ := u64_of (X := R.take 8) (by_take HX.out 8) (by rw [List.length_take]; omega)
  have HB8 := Lib.hid hB
  rw [hB] at hq
  rw [Int.toNat_natCast] at hq
  have HN := Lib.hid (show decV (n + 1) (2 :: R) = none by rw [decV, if_neg (by decide), if_neg (by decide), if_pos (by decide), hB, Int.toNat_natCast, if_neg (fun h => hq h.2)])
  have HQ := Lib.hid (show ((Flo.canon B : Int) == (B : Int)) = false by simp; omega)
  have HF := Lib.hid (show ∀ w p l c, RdB w p l c R → 8 ≤ l → Calls Try.prog 35 #[.slice p l c] w fun e w' => e = .returned (.tuple #[.float .f64 B, .bool false]) ∧ w = w' from fun w p l c h h8 => readFloat_full w p l c R B false h HX.out h8 hB hB64 HQ.out)
  clear hB hq
  have hc1 : c ≠ 1 := by omega
  have HRD := Lib.hid (show RdB (w.alloc (.cells #[.int .i64 0, .int .i64 0, .float .f64 0, .string ⟨#[]⟩, .slice none 0 0] 26)) (some ⟨b, off + 1, none⟩) (l - 1) (c - 1) R from rd_from (k := 1) HB.out (by omega) hc1)
  clear hb hX hR
  go_enter Try.func21, Try.ntmps21
  go_wp2_with fail
  go_at_call 15; refine (HU.out _ HB.out).mono ?_; rintro e w1 ⟨rfl, rfl⟩
  rw [HM.out]
  go_wp2_with fail
  go_at_call 35; refine (HF.out _ _ _ _ HRD.out (by omega)).mono ?_; rintro e w2 ⟨rfl, rfl⟩
  go_wp2
  exact bodyPost_ret (v := .tuple #[.agg #[.int .i64 2, .int .i64 0, .float .f64 B, .string ⟨#[]⟩, .slice none 0 0], .int .i64 9, .bool false]) (by simp [results, Try.results21, go_sem]) rfl (rv_none (bel_alloc (Below.refl _ _) _) HN.out (fail_mk _ _ _ _ _ _ _ _))
set_option maxRecDepth 100000 in
set_option maxHeartbeats 4000000 in
theorem rv_k2n (n : Nat) (w : World) (b off l c : Nat) (R : List Int) (hb : RdB w (some ⟨b, off, none⟩) l c (2 :: R)) (hX : By (2 :: R)) (hl : l ≤ 100000) (h8 : ¬ 8 ≤ R.length) : Calls Try.prog 21 #[.slice (some ⟨b, off, none⟩) l c] w (RvPost (n + 1) (2 :: R) w) := by
  obtain ⟨hR, hlc, hcm⟩ := rd_parts hb
  have HU := Lib.hid (fun w' (h : RdB w' (some ⟨b, off, none⟩) l c (2 :: R)) => readU_all w' _ l c (2 :: R) 1 h hX (by omega) (by omega))
  have HM := Lib.hid (show rdU ((2 :: R).take 1) = 2 from rdU_one 2 (hX 2 (List.mem_cons_self ..)).1 (hX 2 (List.mem_cons_self ..)).2)
  have HB := Lib.hid (rd_keep ((Below.refl w.heap.size w).alloc (Nat.le_refl _) (.cells #[.int .i64 0, .int .i64 0, .float .f64 0, .string ⟨#[]⟩, .slice none 0 0] 26)) hb)
  have HX := Lib.hid (show By R from fun x hx => hX x (List.mem_cons_of_mem _ hx))
  have hR1 : R.length + 1 ≤ l := by omega
  have hR2 : l ≤ R.length + 1 := by omega
  have HN := Lib.hid (show decV (n + 1) (2 :: R) = none by rw [decV, if_neg (by decide), if_neg (by decide), if_pos (by decide), if_neg (fun h => h8 h.1)])
  by_cases hc1 : c = 1
  · obtain rfl : l = 1 := by omega
    subst hc1
    have HRD := Lib.hid (show RdB (w.alloc (.cells #[.int .i64 0, .int .i64 0, .float .f64 0, .string ⟨#[]⟩, .slice none 0 0] 26)) (some ⟨b, off, none⟩) 0 0 R from rd_end HB.out)
    have hR0 : R.length ≤ 0 := by omega
    clear hb hX hR
    go_enter Try.func21, Try.ntmps21
    go_wp2_with fail
    go_at_call 15; refine (HU.out _ HB.out).mono ?_; rintro e w1 ⟨rfl, rfl⟩
    rw [HM.out]
    go_wp2_with fail
    go_at_call 35; refine (readFloat_short _ _ 0 0 (by omega) (by unfold maxLen; omega) (by omega)).mono ?_; rintro e w2 ⟨rfl, rfl⟩
    go_wp2
    exact bodyPost_ret (v := .tuple #[.agg #[.int .i64 2, .int .i64 0, .float .f64 0, .string ⟨#[]⟩, .slice none 0 0], .int .i64 9, .bool false]) (by simp [results, Try.results21, go_sem]) rfl (rv_none (bel_alloc (Below.refl _ _) _) HN.out (fail_mk _ _ _ _ _ _ _ _))
  · have HRD := Lib.hid (show RdB (w.alloc (.cells #[.int .i64 0, .int .i64 0, .float .f64 0, .string ⟨#[]⟩, .slice none 0 0] 26)) (some ⟨b, off + 1, none⟩) (l - 1) (c - 1) R from rd_from (k := 1) HB.out (by omega) hc1)
    clear hb hX hR
    go_enter Try.func21, Try.ntmps21
    go_wp2_with fail
    go_at_call 15; refine (HU.out _ HB.out).mono ?_; rintro e w1 ⟨rfl, rfl⟩
    rw [HM.out]
    go_wp2_with fail
    go_at_call 35; refine (readFloat_short _ _ (l - 1) (c - 1) (by omega) (by unfold maxLen; omega) (by omega)).mono ?_; rintro e w2 ⟨rfl, rfl⟩
    go_wp2
    exact bodyPost_ret (v := .tuple #[.agg #[.int .i64 2, .int .i64 0, .float .f64 0, .string ⟨#[]⟩, .slice none 0 0], .int .i64 9, .bool false]) (by simp [results, Try.results21, go_sem]) rfl (rv_none (bel_alloc (Below.refl _ _) _) HN.out (fail_mk _ _ _ _ _ _ _ _))
set_option maxRecDepth 100000 in
set_option maxHeartbeats 4000000 in
theorem rv_k3 (n : Nat) (w : World) (b off l c : Nat) (R : List Int) (hb : RdB w (some ⟨b, off, none⟩) l c (3 :: R)) (hX : By (3 :: R)) (hl : l ≤ 100000) (h2 : 2 ≤ R.length) (hs : (rdU (R.take 2)).toNat ≤ 256) (ht : 2 + (rdU (R.take 2)).toNat ≤ R.length) : Calls Try.prog 21 #[.slice (some ⟨b, off, none⟩) l c] w (RvPost (n + 1) (3 :: R) w) := by
  obtain ⟨hR, hlc, hcm⟩ := rd_parts hb
  have HU := Lib.hid (fun w' (h : RdB w' (some ⟨b, off, none⟩) l c (3 :: R)) => readU_all w' _ l c (3 :: R) 1 h hX (by omega) (by omega))
  have HM := Lib.hid (show rdU ((3 :: R).take 1) = 3 from rdU_one 3 (hX 3 (List.mem_cons_self ..)).1 (hX 3 (List.mem_cons_self ..)).2)
  have HB := Lib.hid (rd_keep ((Below.refl w.heap.size w).alloc (Nat.le_refl _) (.cells #[.int .i64 0, .int .i64 0, .float .f64 0, .string ⟨#[]⟩, .slice none 0 0] 26)) hb)
  have HX := Lib.hid (show By R from fun x hx => hX x (List.mem_cons_of_mem _ hx))
  have hR1 : R.length + 1 ≤ l := by omega
  have hR2 : l ≤ R.length + 1 := by omega
  obtain ⟨L, hL, hL16⟩ := len16 HX.out h2
  have HL := Lib.hid hL
  rw [hL, Int.toNat_natCast] at hs ht
  have HN := Lib.hid (show decV (n + 1) (3 :: R) = some ((3, 0, 0, strB ((R.drop 2).take L), []), 3 + L) by rw [decV, if_neg (by decide), if_neg (by decide), if_neg (by decide), if_pos (by decide), hL, Int.toNat_natCast, if_pos ⟨h2, hs, ht⟩])
  have HS := Lib.hid (show (strB ((R.drop 2).take L)).size ≤ maxLen by unfold strB maxLen; rw [strOfNums_size, List.length_take]; omega)
  clear hL
  have hc1 : c ≠ 1 := by omega
  have HRD := Lib.hid (show RdB (w.alloc (.cells #[.int .i64 0, .int .i64 0, .float .f64 0, .string ⟨#[]⟩, .slice none 0 0] 26)) (some ⟨b, off + 1, none⟩) (l - 1) (c - 1) R from rd_from (k := 1) HB.out (by omega) hc1)
  clear hb hX hR
  go_enter Try.func21, Try.ntmps21
  go_wp2_with fail
  go_at_call 15; refine (HU.out _ HB.out).mono ?_; rintro e w1 ⟨rfl, rfl⟩
  rw [HM.out]
  go_wp2_with fail
  go_at_call 36; refine (readText_yes _ _ _ _ R L 256 HRD.out HX.out (by omega) HL.out hL16 (by omega) (by omega)).mono ?_; rintro e w2 ⟨rfl, rfl⟩
  obtain ⟨s, hs'⟩ : ∃ s, s = strB ((R.drop 2).take L) := ⟨_, rfl⟩
  rw [← hs']
  rw [← hs'] at HN HS
  have HE := Lib.hid (show Ending.returned (.tuple #[.agg #[.int .i64 3, .int .i64 0, .float .f64 0, .string s, .slice none 0 0], .int .i64 (1 + (2 + (L : Int))), .bool true]) = .returned (.tuple #[.agg #[.int .i64 3, .int .i64 0, .float .f64 0, .string s, .slice none 0 0], .int .i64 ((3 + L : Nat) : Int), .bool true]) by rw [show (1 + (2 + (L : Int))) = ((3 + L : Nat) : Int) by omega])
  clear hs'
  go_wp2
  exact bodyPost_ret (v := .tuple #[.agg #[.int .i64 3, .int .i64 0, .float .f64 0, .string s, .slice none 0 0], .int .i64 (1 + (2 + (L : Int))), .bool true]) (by simp [results, Try.results21, go_sem]) rfl (rv_some (bel_alloc (Below.refl _ _) _) HN.out HE.out (repS_leaf _ _ n 3 0 0 s (by decide) (by decide) (by decide) HS.out))
set_option maxRecDepth 100000 in
set_option maxHeartbeats 4000000 in
theorem rv_k3n (n : Nat) (w : World) (b off l c : Nat) (R : List Int) (hb : RdB w (some ⟨b, off, none⟩) l c (3 :: R)) (hX : By (3 :: R)) (hl : l ≤ 100000) (h2 : 2 ≤ R.length) (hs : ¬ ((rdU (R.take 2)).toNat ≤ 256 ∧ 2 + (rdU (R.take 2)).toNat ≤ R.length)) : Calls Try.prog 21 #[.slice (some ⟨b, off, none⟩) l c] w (RvPost (n + 1) (3 :: R) w) := by
  obtain ⟨hR, hlc, hcm⟩ := rd_parts hb
  have HU := Lib.hid (fun w' (h : RdB w' (some ⟨b, off, none⟩) l c (3 :: R)) => readU_all w' _ l c (3 :: R) 1 h hX (by omega) (by omega))
  have HM := Lib.hid (show rdU ((3 :: R).take 1) = 3 from rdU_one 3 (hX 3 (List.mem_cons_self ..)).1 (hX 3 (List.mem_cons_self ..)).2)
  have HB := Lib.hid (rd_keep ((Below.refl w.heap.size w).alloc (Nat.le_refl _) (.cells #[.int .i64 0, .int .i64 0, .float .f64 0, .string ⟨#[]⟩, .slice none 0 0] 26)) hb)
  have HX := Lib.hid (show By R from fun x hx => hX x (List.mem_cons_of_mem _ hx))
  have hR1 : R.length + 1 ≤ l := by omega
  have hR2 : l ≤ R.length + 1 := by omega
  obtain ⟨L, hL, hL16⟩ := len16 HX.out h2
  have HL := Lib.hid hL
  rw [hL, Int.toNat_natCast] at hs
  have HN := Lib.hid (show decV (n + 1) (3 :: R) = none by rw [decV, if_neg (by decide), if_neg (by decide), if_neg (by decide), if_pos (by decide), hL, Int.toNat_natCast, if_neg (fun h => hs h.2)])
  have HS := Lib.hid hs
  clear hL hs
  have hc1 : c ≠ 1 := by omega
  have HRD := Lib.hid (show RdB (w.alloc (.cells #[.int .i64 0, .int .i64 0, .float .f64 0, .string ⟨#[]⟩, .slice none 0 0] 26)) (some ⟨b, off + 1, none⟩) (l - 1) (c - 1) R from rd_from (k := 1) HB.out (by omega) hc1)
  clear hb hX hR
  go_enter Try.func21, Try.ntmps21
  go_wp2_with fail
  go_at_call 15; refine (HU.out _ HB.out).mono ?_; rintro e w1 ⟨rfl, rfl⟩
  rw [HM.out]
  go_wp2_with fail
  go_at_call 36; refine (readText_no _ _ _ _ R L 256 HRD.out HX.out (by omega) HL.out hL16 (by have := HS.out; omega)).mono ?_; rintro e w2 ⟨rfl, rfl⟩
  go_wp2
  exact bodyPost_ret (v := .tuple #[.agg #[.int .i64 3, .int .i64 0, .float .f64 0, .string ⟨#[]⟩, .slice none 0 0], .int .i64 1, .bool false]) (by simp [results, Try.results21, go_sem]) rfl (rv_none (bel_alloc (Below.refl _ _) _) HN.out (fail_mk _ _ _ _ _ _ _ _))
set_option maxRecDepth 100000 in
set_option maxHeartbeats 4000000 in
theorem rv_k3s (n : Nat) (w : World) (b off l c : Nat) (R : List Int) (hb : RdB w (some ⟨b, off, none⟩) l c (3 :: R)) (hX : By (3 :: R)) (hl : l ≤ 100000) (h2 : ¬ 2 ≤ R.length) : Calls Try.prog 21 #[.slice (some ⟨b, off, none⟩) l c] w (RvPost (n + 1) (3 :: R) w) := by
  obtain ⟨hR, hlc, hcm⟩ := rd_parts hb
  have HU := Lib.hid (fun w' (h : RdB w' (some ⟨b, off, none⟩) l c (3 :: R)) => readU_all w' _ l c (3 :: R) 1 h hX (by omega) (by omega))
  have HM := Lib.hid (show rdU ((3 :: R).take 1) = 3 from rdU_one 3 (hX 3 (List.mem_cons_self ..)).1 (hX 3 (List.mem_cons_self ..)).2)
  have HB := Lib.hid (rd_keep ((Below.refl w.heap.size w).alloc (Nat.le_refl _) (.cells #[.int .i64 0, .int .i64 0, .float .f64 0, .string ⟨#[]⟩, .slice none 0 0] 26)) hb)
  have HX := Lib.hid (show By R from fun x hx => hX x (List.mem_cons_of_mem _ hx))
  have hR1 : R.length + 1 ≤ l := by omega
  have hR2 : l ≤ R.length + 1 := by omega
  have HN := Lib.hid (show decV (n + 1) (3 :: R) = none by rw [decV, if_neg (by decide), if_neg (by decide), if_neg (by decide), if_pos (by decide), if_neg (fun h => h2 h.1)])
  by_cases hc1 : c = 1
  · obtain rfl : l = 1 := by omega
    subst hc1
    have HRD := Lib.hid (show RdB (w.alloc (.cells #[.int .i64 0, .int .i64 0, .float .f64 0, .string ⟨#[]⟩, .slice none 0 0] 26)) (some ⟨b, off, none⟩) 0 0 R from rd_end HB.out)
    have hR0 : R.length ≤ 0 := by omega
    clear hb hX hR
    go_enter Try.func21, Try.ntmps21
    go_wp2_with fail
    go_at_call 15; refine (HU.out _ HB.out).mono ?_; rintro e w1 ⟨rfl, rfl⟩
    rw [HM.out]
    go_wp2_with fail
    go_at_call 36; refine (readText_short _ _ 0 0 256 (by omega) (by unfold maxLen; omega) (by omega)).mono ?_; rintro e w2 ⟨rfl, rfl⟩
    go_wp2
    exact bodyPost_ret (v := .tuple #[.agg #[.int .i64 3, .int .i64 0, .float .f64 0, .string ⟨#[]⟩, .slice none 0 0], .int .i64 1, .bool false]) (by simp [results, Try.results21, go_sem]) rfl (rv_none (bel_alloc (Below.refl _ _) _) HN.out (fail_mk _ _ _ _ _ _ _ _))
  · have HRD := Lib.hid (show RdB (w.alloc (.cells #[.int .i64 0, .int .i64 0, .float .f64 0, .string ⟨#[]⟩, .slice none 0 0] 26)) (some ⟨b, off + 1, none⟩) (l - 1) (c - 1) R from rd_from (k := 1) HB.out (by omega) hc1)
    clear hb hX hR
    go_enter Try.func21, Try.ntmps21
    go_wp2_with fail
    go_at_call 15; refine (HU.out _ HB.out).mono ?_; rintro e w1 ⟨rfl, rfl⟩
    rw [HM.out]
    go_wp2_with fail
    go_at_call 36; refine (readText_short _ _ (l - 1) (c - 1) 256 (by omega) (by unfold maxLen; omega) (by omega)).mono ?_; rintro e w2 ⟨rfl, rfl⟩
    go_wp2
    exact bodyPost_ret (v := .tuple #[.agg #[.int .i64 3, .int .i64 0, .float .f64 0, .string ⟨#[]⟩, .slice none 0 0], .int .i64 1, .bool false]) (by simp [results, Try.results21, go_sem]) rfl (rv_none (bel_alloc (Below.refl _ _) _) HN.out (fail_mk _ _ _ _ _ _ _ _))
set_option maxRecDepth 100000 in
set_option maxHeartbeats 4000000 in
theorem rv_else (n : Nat) (w : World) (b off l c : Nat) (k : Int) (R : List Int) (hb : RdB w (some ⟨b, off, none⟩) l c (k :: R)) (hX : By (k :: R)) (hl : l ≤ 100000) (h4 : 4 < k) : Calls Try.prog 21 #[.slice (some ⟨b, off, none⟩) l c] w (RvPost (n + 1) (k :: R) w) := by
  obtain ⟨hR, hlc, hcm⟩ := rd_parts hb
  have HU := Lib.hid (fun w' (h : RdB w' (some ⟨b, off, none⟩) l c (k :: R)) => readU_all w' _ l c (k :: R) 1 h hX (by omega) (by omega))
  have HM := Lib.hid (show rdU ((k :: R).take 1) = k from rdU_one k (hX k (List.mem_cons_self ..)).1 (hX k (List.mem_cons_self ..)).2)
  have HB := Lib.hid (rd_keep ((Below.refl w.heap.size w).alloc (Nat.le_refl _) (.cells #[.int .i64 0, .int .i64 0, .float .f64 0, .string ⟨#[]⟩, .slice none 0 0] 26)) hb)
  have HX := Lib.hid (show By R from fun x hx => hX x (List.mem_cons_of_mem _ hx))
  have hR1 : R.length + 1 ≤ l := by omega
  have hR2 : l ≤ R.length + 1 := by omega
  have HN := Lib.hid (show decV (n + 1) (k :: R) = none by rw [decV, if_neg (by simp; omega), if_neg (by simp; omega), if_neg (by simp; omega), if_neg (by simp; omega), if_neg (by simp; omega)])
  have hk0 : (k == 0) = false := by simp; omega
  have hk1 : (k == 1) = false := by simp; omega
  have hk2 : (k == 2) = false := by simp; omega
  have hk3 : (k == 3) = false := by simp; omega
  have hk4 : (k == 4) = false := by simp; omega
  by_cases hc1 : c = 1
  · obtain rfl : l = 1 := by omega
    subst hc1
    have HRD := Lib.hid (show RdB (w.alloc (.cells #[.int .i64 0, .int .i64 0, .float .f64 0, .string ⟨#[]⟩, .slice none 0 0] 26)) (some ⟨b, off, none⟩) 0 0 R from rd_end HB.out)
    have hR0 : R.length ≤ 0 := by omega
    clear hb hX hR
    go_enter Try.func21, Try.ntmps21
    go_wp2_with fail
    go_at_call 15; refine (HU.out _ HB.out).mono ?_; rintro e w1 ⟨rfl, rfl⟩
    rw [HM.out]
    go_wp2
    exact bodyPost_ret (v := .tuple #[.agg #[.int .i64 0, .int .i64 0, .float .f64 0, .string ⟨#[]⟩, .slice none 0 0], .int .i64 0, .bool false]) (by simp [results, Try.results21, go_sem]) rfl (rv_none (bel_alloc (Below.refl _ _) _) HN.out (fail_mk _ _ _ _ _ _ _ _))
  · have HRD := Lib.hid (show RdB (w.alloc (.cells #[.int .i64 0, .int .i64 0, .float .f64 0, .string ⟨#[]⟩, .slice none 0 0] 26)) (some ⟨b, off + 1, none⟩) (l - 1) (c - 1) R from rd_from (k := 1) HB.out (by omega) hc1)
    clear hb hX hR
    go_enter Try.func21, Try.ntmps21
    go_wp2_with fail
    go_at_call 15; refine (HU.out _ HB.out).mono ?_; rintro e w1 ⟨rfl, rfl⟩
    rw [HM.out]
    go_wp2
    exact bodyPost_ret (v := .tuple #[.agg #[.int .i64 0, .int .i64 0, .float .f64 0, .string ⟨#[]⟩, .slice none 0 0], .int .i64 0, .bool false]) (by simp [results, Try.results21, go_sem]) rfl (rv_none (bel_alloc (Below.refl _ _) _) HN.out (fail_mk _ _ _ _ _ _ _ _))
end Num
end Go.Proofs.Ytbodakfgoijeeaa
