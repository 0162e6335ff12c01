/-
  Package register: Do of numbers; the example of the chapter.
-/
import Derived.Test.YteoimpagdgnkbaaRD
import Derived.Test.YteoimpagdgnkbaaMJ
namespace Go.Proofs.Yteoimpagdgnkbaa
open Go.RowKit
namespace Num
open Ints
set_option linter.unusedSimpArgs false
set_option linter.unusedVariables false
theorem leafR (w : World) (n : Nat) (K I : Int) (F : Nat) (Z : ByteArray) (hK : okI K) (hI : okI I) (hF : F < 2 ^ 64) (hZ : Z.size ≤ maxLen) : Rep w (n + 1) (.agg #[.int .i64 K, .int .i64 I, .float .f64 F, .string Z, .slice none 0 0]) (K, I, F, Z, []) :=
  repS_rep (n + 1) _ _ (leafC (fun _ => True) w n K I F Z hK hI hF hZ)
theorem pair_lit (w : World) (n : Nat) (K I : Int) (F : Nat) (Z : ByteArray) (hK : okI K) (hI : okI I) (hF : F < 2 ^ 64) (hZ : Z.size ≤ maxLen) (K2 I2 : Int) (F2 : Nat) (Z2 : ByteArray) (hK2 : okI K2) (hI2 : okI I2) (hF2 : F2 < 2 ^ 64) (hZ2 : Z2.size ≤ maxLen) (t : TypeId) :
    RepL (w.alloc (.cells #[.int .i64 K, .int .i64 I, .float .f64 F, .string Z, .slice none 0 0, .int .i64 K2, .int .i64 I2, .float .f64 F2, .string Z2, .slice none 0 0] t)) (Rep (w.alloc (.cells #[.int .i64 K, .int .i64 I, .float .f64 F, .string Z, .slice none 0 0, .int .i64 K2, .int .i64 I2, .float .f64 F2, .string Z2, .slice none 0 0] t)) (n + 1)) (some ⟨w.heap.size, 0, none⟩) 2 2 [(K, I, F, Z, []), (K2, I2, F2, Z2, [])] := by
  refine ⟨rfl, Nat.le_refl _, by unfold maxLen; omega, fun _ => ⟨w.heap.size, 0, rfl, fun i hi => ?_⟩⟩
  have hr := row_alloc w #[.int .i64 K, .int .i64 I, .float .f64 F, .string Z, .slice none 0 0, .int .i64 K2, .int .i64 I2, .float .f64 F2, .string Z2, .slice none 0 0] t
  have hi' : i = 0 ∨ i = 1 := by simp at hi; omega
  rcases hi' with rfl | rfl
  · exact ⟨_, _, _, _, _, row_cell hr 0, row_cell hr 1, row_cell hr 2, row_cell hr 3, row_cell hr 4, leafR _ n K I F Z hK hI hF hZ⟩
  · exact ⟨_, _, _, _, _, row_cell hr 5, row_cell hr 6, row_cell hr 7, row_cell hr 8, row_cell hr 9, leafR _ n K2 I2 F2 Z2 hK2 hI2 hF2 hZ2⟩
def floT (n : Nat) (x : Nat) : VT (n + 1) := (2, 0, x, ⟨#[]⟩, [])
def casC : ByteArray := { data := #[99, 97, 115] }
theorem reg_flo (x y : Nat) : regD 0 casC (floT 0 x) [floT 0 y, numT 0 7] = if (cmpF x y == 0) = true then (numT 0 7, numT 0 1, 0) else (floT 0 (Flo.canon x), numT 0 0, 0) := by
  have h1 : checkM (measT 1 (floT 0 x)) = 0 := rfl
  have h2 : chkA regC casC 0 [floT 0 y, numT 0 7] = 0 := rfl
  have h3 : cmpT cmpF 1 (floT 0 x) (floT 0 y) = cmpF x y := cmpT_float (n := 0) rfl rfl rfl
  unfold regD
  rw [if_neg (fun h => h h1), if_neg (fun h => h h2)]
  show (if (cmpT cmpF 1 (floT 0 x) (floT 0 y) == 0) = true then (cleanT 1 (numT 0 7), numT 0 1, (0 : Int)) else (cleanT 1 (floT 0 x), numT 0 0, 0)) = _
  rw [h3]
  rfl
theorem reg_known : regD 0 casC (nilT 0) [nilT 0, numT 0 1] = (numT 0 1, numT 0 1, 0) := rfl
theorem reg_known2 : regD 0 { data := #[115, 101, 116] } (numT 0 1) [] = (nilT 0, nilT 0, 31) := rfl
theorem reg_known3 : (checkM (measT 1 (numT 0 1)) == 0) = true := rfl
/-- Do of a leaf with a pair of leaves. -/
theorem do_pair (w : World) (s : Value) (S : VT 1) (hs : Rep w 1 s S) (hd : deepT 1 S 64 = false) (hp : partsT 1 S ≤ 1000) (ms : ByteArray) (K I : Int) (F : Nat) (Z : ByteArray) (hK : okI K) (hI : okI I) (hF : F < 2 ^ 64) (hZ : Z.size ≤ maxLen) (K2 I2 : Int) (F2 : Nat) (Z2 : ByteArray) (hK2 : okI K2) (hI2 : okI I2) (hF2 : F2 < 2 ^ 64) (hZ2 : Z2.size ≤ maxLen)
    (hg : GoodL 0 [(K, I, F, Z, []), (K2, I2, F2, Z2, [])]) (R : VT 1 × VT 1 × Int) (hR : regD 0 ms S [(K, I, F, Z, []), (K2, I2, F2, Z2, [])] = R) :
    Calls Try.prog 11 #[s, .string ms, .slice (some ⟨w.heap.size, 0, none⟩) 2 2] (w.alloc (.cells #[.int .i64 K, .int .i64 I, .float .f64 F, .string Z, .slice none 0 0, .int .i64 K2, .int .i64 I2, .float .f64 F2, .string Z2, .slice none 0 0] 27)) fun e w' => DoP w 1 R.1 R.2.1 R.2.2 e w' := by
  have hb := bel_alloc (Below.refl w.heap.size w) (.cells #[.int .i64 K, .int .i64 I, .float .f64 F, .string Z, .slice none 0 0, .int .i64 K2, .int .i64 I2, .float .f64 F2, .string Z2, .slice none 0 0] 27)
  subst hR
  refine (do_any 0 s S ms _ 2 2 _ _ (rep_keep hb _ _ _ hs) hd hp (pair_lit w 0 K I F Z hK hI hF hZ K2 I2 F2 Z2 hK2 hI2 hF2 hZ2 27) hg).mono ?_
  rintro e w' ⟨t, v, rfl, h1, h2, h3⟩
  exact ⟨t, v, rfl, bel_step hb h1, repS_mono (fun b hb' => Nat.le_trans hb.size hb') _ _ _ h2, repS_mono (fun b hb' => Nat.le_trans hb.size hb') _ _ _ h3⟩
theorem num_shape {w : World} {S : Nat → Prop} {v : Value} {K I : Int} {F : Nat} {Z : ByteArray} (h : RepS S w 1 v (K, I, F, Z, [])) : ∃ p c, v = .agg #[.int .i64 K, .int .i64 I, .float .f64 F, .string Z, .slice p 0 c] := by
  obtain ⟨p, l, c, rfl, _, _, _, _, hl, _⟩ := h
  obtain rfl : 0 = l := hl
  exact ⟨p, c, rfl⟩
theorem good_pair {K I : Int} {F : Nat} {Z : ByteArray} {K2 I2 : Int} {F2 : Nat} {Z2 : ByteArray} (h1 : deepT 1 (K, I, F, Z, []) 64 = false) (h2 : partsT 1 (K, I, F, Z, []) ≤ 1000) (h3 : deepT 1 (K2, I2, F2, Z2, []) 64 = false) (h4 : partsT 1 (K2, I2, F2, Z2, []) ≤ 1000) : GoodL 0 [(K, I, F, Z, []), (K2, I2, F2, Z2, [])] := by
  intro T hT
  rcases List.mem_cons.1 hT with rfl | hT
  · exact ⟨h1, h2⟩
  · rcases List.mem_cons.1 hT with rfl | hT
    · exact ⟨h3, h4⟩
    · exact absurd hT List.not_mem_nil
set_option maxRecDepth 100000 in
set_option maxHeartbeats 4000000 in
theorem known8 (w : World) : Calls Try.prog 7 #[] w fun e w' => e = .returned (.bool true) ∧ Below w.heap.size w w' := by
  have HD1 := Lib.hid (fun W => do_pair W (.agg #[.int .i64 0, .int .i64 0, .float .f64 0, .string ⟨#[]⟩, .slice none 0 0]) (nilT 0) (leafR W 0 0 0 0 ⟨#[]⟩ (by decide) (by decide) (by decide) (by decide)) rfl (by decide : (1 : Nat) ≤ 1000) { data := #[99, 97, 115] } 0 0 0 ⟨#[]⟩ (by decide) (by decide) (by decide) (by decide) 1 1 0 ⟨#[]⟩ (by decide) (by decide) (by decide) (by decide) (good_pair rfl (by decide : (1 : Nat) ≤ 1000) rfl (by decide : (1 : Nat) ≤ 1000)) _ reg_known)
  unfold DoP at HD1
  go_enter Try.func7, Try.ntmps7
  go_wp2_with fail
  go_at_call 18; refine (int_ref_any _ _).mono ?_; rintro e w1 ⟨rfl, hb1⟩
  have HB1 := Lib.hid hb1
  clear hb1
  go_wp2_with fail
  go_at_call 11; refine (HD1.out _).mono ?_; rintro e w2 ⟨t, v, rfl, hb2, ht, hv⟩
  obtain ⟨q1, d1, rfl⟩ := num_shape ht
  obtain ⟨q2, d2, rfl⟩ := num_shape hv
  have hb2' := bel_step HB1.out hb2
  have HB2 := Lib.hid (bel_alloc (bel_alloc hb2' (.cells #[.int .i64 1, .int .i64 1, .float .f64 0, .string ⟨#[]⟩, .slice q1 0 d1] 27)) (.cells #[.int .i64 1, .int .i64 1, .float .f64 0, .string ⟨#[]⟩, .slice q2 0 d2] 27))
  have hw := bel_alloc (bel_alloc (Below.refl w2.heap.size w2) (.cells #[.int .i64 1, .int .i64 1, .float .f64 0, .string ⟨#[]⟩, .slice q1 0 d1] 27)) (.cells #[.int .i64 1, .int .i64 1, .float .f64 0, .string ⟨#[]⟩, .slice q2 0 d2] 27)
  have ht2 := rep_keep hw _ _ _ (repS_rep _ _ _ ht)
  have hgn : GoodL 0 [] := fun T hT => absurd hT List.not_mem_nil
  have hd2 := do_any 0 _ (numT 0 1) { data := #[115, 101, 116] } none 0 0 [] _ ht2 rfl (by decide : (1 : Nat) ≤ 1000) ⟨rfl, Nat.le_refl _, Nat.zero_le _, fun h => absurd h (Nat.lt_irrefl _)⟩ hgn
  rw [reg_known2] at hd2
  have HD2 := Lib.hid hd2
  unfold DoP at HD2
  have HT2 := Lib.hid ht2
  have HRA := Lib.hid (row_alloc_step (row_alloc w2 #[.int .i64 1, .int .i64 1, .float .f64 0, .string ⟨#[]⟩, .slice q1 0 d1] 27) (.cells #[.int .i64 1, .int .i64 1, .float .f64 0, .string ⟨#[]⟩, .slice q2 0 d2] 27))
  have hrb := row_alloc (w2.alloc (.cells #[.int .i64 1, .int .i64 1, .float .f64 0, .string ⟨#[]⟩, .slice q1 0 d1] 27)) #[.int .i64 1, .int .i64 1, .float .f64 0, .string ⟨#[]⟩, .slice q2 0 d2] 27
  rw [World.size_alloc] at hrb
  have HRB := Lib.hid hrb
  clear hb2 hb2' hv HD1 ht ht2 hd2 hw hgn hrb
  go_wp2_with fail
  go_at_call 11; refine HD2.out.mono ?_; rintro e w3 ⟨t3, v3, rfl, hb3, ht3, hv3⟩
  obtain ⟨q3, d3, rfl⟩ := num_shape ht3
  obtain ⟨q4, d4, rfl⟩ := num_shape hv3
  have hb3' := bel_step HB2.out hb3
  have HB3 := Lib.hid (bel_alloc (bel_alloc hb3' (.cells #[.int .i64 0, .int .i64 0, .float .f64 0, .string ⟨#[]⟩, .slice q3 0 d3] 27)) (.cells #[.int .i64 0, .int .i64 0, .float .f64 0, .string ⟨#[]⟩, .slice q4 0 d4] 27))
  have hw3 := bel_alloc (bel_alloc hb3 (.cells #[.int .i64 0, .int .i64 0, .float .f64 0, .string ⟨#[]⟩, .slice q3 0 d3] 27)) (.cells #[.int .i64 0, .int .i64 0, .float .f64 0, .string ⟨#[]⟩, .slice q4 0 d4] 27)
  have hri := right_any 1 _ (numT 0 1) _ (rep_keep hw3 _ _ _ HT2.out) rfl (by decide : (1 : Nat) ≤ 1000)
  rw [reg_known3] at hri
  have HRI := Lib.hid hri
  have xa := row_step HRA.out hb3
  have xb := row_step HRB.out hb3
  have a0 := row_cell xa 0; have a1 := row_cell xa 1; have a2 := row_cell xa 2; have a3 := row_cell xa 3; have a4 := row_cell xa 4
  have b1 := row_cell xb 1
  simp only [List.getElem?_toArray, List.getElem?_cons_zero, List.getElem?_cons_succ] at a0 a1 a2 a3 a4 b1
  have l1 := row_lt xb
  have l0 := row_lt xa
  clear hb3 hb3' ht3 hv3 HD2 HT2 HRA HRB hw3 hri xa xb HB2
  go_wp2_with fail
  go_at_call 14; refine HRI.out.mono ?_; rintro e w4 ⟨rfl, hb4⟩
  have HB4 := Lib.hid (bel_step HB3.out hb4)
  clear hb4 a0 a1 a2 a3 a4 b1
  go_wp2
  go_ret
  exact ⟨rfl, HB4.out⟩
end Num
end Go.Proofs.Yteoimpagdgnkbaa
