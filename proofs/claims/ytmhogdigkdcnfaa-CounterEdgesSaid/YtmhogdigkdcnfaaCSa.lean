/-
  Package counter: Do of Floats.
-/
import Derived.Test.YtmhogdigkdcnfaaCRh
import Derived.Test.YtmhogdigkdcnfaaMJ
namespace Go.Proofs.Ytmhogdigkdcnfaa
open Go.RowKit
namespace Num
open Ints
set_option linter.unusedSimpArgs false
set_option linter.unusedVariables false
theorem isNaN_of {y : Nat} (h : Flo.feq y y = false) : (FloatKind.f64.format.read y).isNaN = true := by
  cases hn : (FloatKind.f64.format.read y).isNaN
  · rw [Flo.feq_self hn] at h; cases h
  · rfl
theorem none_right {op : BinOp} {x y : Nat} (hop : op = .add ∨ op = .sub ∨ op = .mul ∨ op = .quo) (h : Flo.feq y y = false) : floatBits op .f64 x y = none := by
  have hn := isNaN_of h
  have e : ∃ s f, FloatKind.f64.format.read y = .nan s f := by
    cases hr : FloatKind.f64.format.read y with
    | nan s f => exact ⟨s, f, rfl⟩
    | number s m e => rw [hr] at hn; cases hn
    | infinity s => rw [hr] at hn; cases hn
  obtain ⟨s, f, e⟩ := e
  rcases hop with rfl | rfl | rfl | rfl
  · show Option.map _ (Ieee.Datum.sum _ (FloatKind.f64.format.read y)) = none
    rw [e]; cases FloatKind.f64.format.read x <;> rfl
  · show Option.map _ (Ieee.Datum.sum _ (FloatKind.f64.format.read y).opposite) = none
    rw [e]; cases FloatKind.f64.format.read x <;> rfl
  · show Option.map _ (Ieee.Datum.product _ (FloatKind.f64.format.read y)) = none
    rw [e]; cases FloatKind.f64.format.read x <;> rfl
  · show Option.map _ (Ieee.Datum.quotient _ _ (FloatKind.f64.format.read y)) = none
    rw [e]; cases FloatKind.f64.format.read x <;> rfl
/-- An operation does not tell a NaN from its canonical form. -/
theorem cop_canon_right {op : BinOp} (x y : Nat) (hop : op = .add ∨ op = .sub ∨ op = .mul ∨ op = .quo) : Flo.cop op x (Flo.canon y) = Flo.cop op x y := by
  cases h : Flo.feq y y
  · rw [Flo.canon_no h, Flo.cop_none (none_right hop Flo.nan_ne), Flo.cop_none (none_right hop h)]
  · rw [Flo.canon_yes h]
theorem cop_canon_add (x y : Nat) : Flo.cop .add (Flo.canon x) (Flo.canon y) = Flo.cop .add x y := by
  rw [cop_canon_right _ _ (Or.inl rfl), Flo.cop_add_comm, cop_canon_right _ _ (Or.inl rfl), Flo.cop_add_comm]
theorem one_lit (w : World) (n : Nat) (K I : Int) (F : Nat) (Z : ByteArray) (hK : okI K) (hI : okI I) (hF : F < 2 ^ 64) (hZ : Z.size ≤ maxLen) (t : TypeId) :
    RepL (w.alloc (.cells #[.int .i64 K, .int .i64 I, .float .f64 F, .string Z, .slice none 0 0] t)) (Rep (w.alloc (.cells #[.int .i64 K, .int .i64 I, .float .f64 F, .string Z, .slice none 0 0] t)) (n + 1)) (some ⟨w.heap.size, 0, none⟩) 1 1 [(K, I, F, Z, [])] := by
  refine ⟨rfl, Nat.le_refl _, by unfold maxLen; omega, fun _ => ⟨w.heap.size, 0, rfl, fun i hi => ?_⟩⟩
  have hr := row_alloc w #[.int .i64 K, .int .i64 I, .float .f64 F, .string Z, .slice none 0 0] t
  have hi' : i = 0 := by simp at hi; omega
  subst hi'
  exact ⟨_, _, _, _, _, row_cell hr 0, row_cell hr 1, row_cell hr 2, row_cell hr 3, row_cell hr 4, leafR _ n K I F Z hK hI hF hZ⟩
/-- add of a Float to a counter. -/
theorem cnt_add (i : Int) (f x : Nat) (h0 : 0 ≤ i) (hx : i ≠ 9223372036854775807) : cntD 0 addC (cntS 0 i f) [floV 1 x] = (cntS 0 (i + 1) (Flo.cop .add (Flo.canon f) x), floV 1 (Flo.cop .add (Flo.canon f) x), 0) := by
  have hb : cntB 0 (cntS 0 i f) = true := by
    show ((true && (((1 : Int) == 1) && decide (0 ≤ i))) && _) = true
    rw [decide_eq_true h0]
    rfl
  have hc : chkA cntC addC 1 [floV 1 x] = 0 := rfl
  unfold cntD
  rw [hb, if_neg (fun h => Bool.noConfusion h), if_neg (fun h => h hc)]
  show (if i = 9223372036854775807 then _ else _) = _
  rw [if_neg hx]
  rfl
theorem cnt_max (f x : Nat) : cntD 0 addC (cntS 0 9223372036854775807 f) [floV 1 x] = (nilT 1, nilT 1, 35) := rfl
theorem cnt_none (i : Int) (f : Nat) (h0 : 0 ≤ i) (m : ByteArray) (hm : m = countC ∨ m = resetC ∨ m = totalC) : cntD 0 m (cntS 0 i f) [] = cntR 0 m i (Flo.canon f) [] := by
  have hb : cntB 0 (cntS 0 i f) = true := by
    show ((true && (((1 : Int) == 1) && decide (0 ≤ i))) && _) = true
    rw [decide_eq_true h0]
    rfl
  have hc : chkA cntC m 1 [] = 0 := by rcases hm with rfl | rfl | rfl <;> rfl
  unfold cntD
  rw [hb, if_neg (fun h => Bool.noConfusion h), if_neg (fun h => h hc)]
  rfl
theorem good_flo (x : Nat) : GoodL 1 [floV 1 x] := by
  intro T hT
  rcases List.mem_cons.1 hT with rfl | hT
  · exact ⟨rfl, (by decide : (1 : Nat) ≤ 1000)⟩
  · exact absurd hT List.not_mem_nil
/-- Do: add of a Float. -/
theorem cdo_flo (w : World) (s : Value) (i : Int) (f x : Nat) (hx : x < 2 ^ 64) (hs : Rep w 2 s (cntS 0 i f)) (R : VT 2 × VT 2 × Int) (hR : cntD 0 addC (cntS 0 i f) [floV 1 x] = R) :
    Calls Try.prog 11 #[s, .string { data := #[97, 100, 100] }, .slice (some ⟨w.heap.size, 0, none⟩) 1 1] (w.alloc (.cells #[.int .i64 2, .int .i64 0, .float .f64 x, .string ⟨#[]⟩, .slice none 0 0] 27)) fun e w' => DoP w 2 R.1 R.2.1 R.2.2 e w' := by
  have hb := bel_alloc (Below.refl w.heap.size w) (.cells #[.int .i64 2, .int .i64 0, .float .f64 x, .string ⟨#[]⟩, .slice none 0 0] 27)
  subst hR
  refine (cdo_any 0 s _ addC _ 1 1 _ _ (rep_keep hb _ _ _ hs) (one_lit w 1 2 0 x ⟨#[]⟩ (by decide) (by decide) hx (by decide) 27) (good_flo x)).mono ?_
  rintro e w' ⟨t, v, rfl, h1, h2, h3⟩
  exact ⟨t, v, rfl, bel_step hb h1, repS_mono (fun b hb' => Nat.le_trans hb.size hb') _ _ _ h2, repS_mono (fun b hb' => Nat.le_trans hb.size hb') _ _ _ h3⟩
/-- Do: a method without arguments. -/
theorem cdo_nil (w : World) (s : Value) (i : Int) (f : Nat) (h0 : 0 ≤ i) (hs : Rep w 2 s (cntS 0 i f)) (m : ByteArray) (hm : m = countC ∨ m = resetC ∨ m = totalC) (R : VT 2 × VT 2 × Int) (hR : cntR 0 m i (Flo.canon f) [] = R) :
    Calls Try.prog 11 #[s, .string m, .slice none 0 0] w fun e w' => DoP w 2 R.1 R.2.1 R.2.2 e w' := by
  subst hR
  rw [← cnt_none i f h0 m hm]
  exact cdo_any 0 s _ m none 0 0 [] w hs ⟨rfl, Nat.le_refl _, Nat.zero_le _, fun h => absurd h (Nat.lt_irrefl _)⟩ (fun T hT => absurd hT List.not_mem_nil)
end Num
end Go.Proofs.Ytmhogdigkdcnfaa
