/-
  Queues of leaves of one size; queues of Ints.
-/
import Derived.Test.YtodjnhhnjncgdaaEH
import Derived.Test.YtodjnhhnjncgdaaER
namespace Go.Proofs.Ytodjnhhnjncgdaa
open Go.RowKit
namespace Num
open Ints
set_option linter.unusedSimpArgs false
set_option linter.unusedVariables false
/-- Leaves of one size, as Clean makes them. -/
def Uni (k : Int) (L : List (VT 1)) : Prop := 0 ≤ k ∧ k ≤ 300 ∧ ∀ x ∈ L, measT 1 x = (false, false, 0, k) ∧ partsT 1 x = 1 ∧ cleanT 1 x = x
theorem fold_uni (k : Int) (h0 : 0 ≤ k) (h1 : k ≤ 300) : ∀ (L : List (VT 1)), (∀ x ∈ L, measT 1 x = (false, false, 0, k)) → ∀ z : Int, 0 ≤ z → z + 300 * L.length ≤ 90000 → L.foldl (fun a x => withM a (measT 1 x)) (false, false, 1, z) = (false, false, 1, z + k * L.length)
  | [], _, z, _, _ => by simp
  | x :: r, h, z, g0, g1 => by
    rw [List.length_cons] at g1
    rw [List.foldl_cons, h x List.mem_cons_self, with_small g0 (by omega) h0 (by omega) (by omega) (by omega)]
    have e : (if (1 : Int) < 0 + 1 then (0 : Int) + 1 else 1) = 1 := rfl
    rw [e, fold_uni k h0 h1 r (fun y hy => h y (List.mem_cons_of_mem _ hy)) _ (by omega) (by omega), List.length_cons, Int.natCast_succ, Int.mul_add, Int.mul_one]
    congr 3
    omega
theorem fold_one : ∀ (L : List (VT 1)), (∀ x ∈ L, partsT 1 x = 1) → ∀ a, L.foldl (fun a x => a + partsT 1 x) a = a + L.length
  | [], _, a => rfl
  | x :: r, h, a => by
    rw [List.foldl_cons, h x List.mem_cons_self, fold_one r (fun y hy => h y (List.mem_cons_of_mem _ hy)), List.length_cons]
    omega
theorem uni_meas {k : Int} {L : List (VT 1)} (h : Uni k L) (hl : L.length ≤ 64) : measT 2 (queueT 0 L) = (false, false, 1, 2 + k * L.length) := by
  unfold queueT
  rw [measT_list rfl rfl rfl rfl, show decide (64 < (L.length : Int)) = false by rw [decide_eq_false_iff_not]; omega]
  exact fold_uni k h.1 h.2.1 L (fun x hx => (h.2.2 x hx).1) 2 (by decide) (by omega)
theorem uni_light {k : Int} {L : List (VT 1)} (h : Uni k L) (hl : L.length ≤ 64) : deepT 2 (queueT 0 L) 64 = false ∧ partsT 2 (queueT 0 L) ≤ 1000 := by
  refine ⟨?_, ?_⟩
  · unfold queueT
    rw [deepT_succ rfl, List.any_eq_false]
    intro x _
    rw [deep1 x 62]
    exact Bool.false_ne_true
  · unfold queueT
    rw [partsT_list rfl, fold_one L (fun x hx => (h.2.2 x hx).2.1)]
    omega
theorem uni_check {k : Int} {L : List (VT 1)} (h : Uni k L) (hl : L.length ≤ 64) : checkM (measT 2 (queueT 0 L)) = if 4096 < 2 + k * L.length then 22 else 0 := by
  rw [uni_meas h hl]
  by_cases hg : 4096 < 2 + k * (L.length : Int)
  · show (if false = true then (31 : Int) else if (false || decide (8 < (1 : Int)) || decide (4096 < 2 + k * (L.length : Int))) = true then 22 else 0) = _
    rw [if_pos hg, decide_eq_true hg]; rfl
  · show (if false = true then (31 : Int) else if (false || decide (8 < (1 : Int)) || decide (4096 < 2 + k * (L.length : Int))) = true then 22 else 0) = _
    rw [if_neg hg, decide_eq_false hg]; rfl
theorem uni_ok {k : Int} {L : List (VT 1)} (h : Uni k L) (hl : L.length ≤ 32) (hz : 2 + k * L.length ≤ 4096) : OkQ 0 L :=
  ⟨hl, by rw [uni_check h (by omega), if_neg (by omega)], uni_light h (by omega)⟩
theorem uni_clean {k : Int} {L : List (VT 1)} (h : Uni k L) : cleanT 2 (queueT 0 L) = queueT 0 L := by
  show ((4, 0, 0, ⟨#[]⟩, L.map (cleanT 1)) : VT 2) = (4, 0, 0, ⟨#[]⟩, L)
  congr 4
  rw [show L = L.map id by simp]
  rw [List.map_map]
  refine List.map_congr_left (fun x hx => (h.2.2 x (by simpa using hx)).2.2)
/-- A queue of Ints. -/
def numsT (X : List Int) : List (VT 1) := X.map (numT 0)
def intsQ (X : List Int) : VT 2 := queueT 0 (numsT X)
theorem nums_uni (X : List Int) : Uni 9 (numsT X) := ⟨by decide, by decide, fun x hx => by
  obtain ⟨i, _, rfl⟩ := List.mem_map.1 hx
  exact ⟨measT_num rfl rfl, partsT_else rfl, rfl⟩⟩
theorem nums_ok {X : List Int} (h : X.length ≤ 32) : OkQ 0 (numsT X) := uni_ok (nums_uni X) (by unfold numsT; rw [List.length_map]; exact h) (by unfold numsT; rw [List.length_map]; omega)
theorem nums_clean (X : List Int) : cleanT 2 (intsQ X) = intsQ X := uni_clean (nums_uni X)
/-- A list of one Int, in a block of its own. -/
def L1 (g : Nat) (x : Int) (W : World) : Prop := RepL W (Rep W 1) (some ⟨g, 0, none⟩) 1 1 [numT 0 x]
theorem l1_step {g : Nat} {i : Int} {x y : World} (h : L1 g i x) (hb : Below x.heap.size x y) : L1 g i y := repL_keep hb (rep_keep hb _) h
theorem l1_new {g : Nat} {i : Int} {x : World} (hg : g = x.heap.size) (hi : okI i) : L1 g i (x.alloc (.cells #[.int .i64 1, .int .i64 i, .float .f64 0, .string ⟨#[]⟩, .slice none 0 0] 27)) := by
  subst hg
  exact row1_rep (row_alloc x _ _) (num_any 0 _ i hi)
theorem l1_nil (W : World) : RepL W (Rep W 1) none 0 0 [] := ⟨rfl, Nat.le_refl _, Nat.zero_le _, fun h => absurd h (Nat.lt_irrefl _)⟩
theorem repS_nilQ (S : Nat → Prop) (x : World) : RepS S x 2 (.agg #[.int .i64 4, .int .i64 0, .float .f64 0, .string ⟨#[]⟩, .slice none 0 0]) (intsQ []) := ⟨none, 0, 0, rfl, (by decide : okI 4), (by decide : okI 0), (by decide : (0 : Nat) < 2 ^ 64), (by decide : (⟨#[]⟩ : ByteArray).size ≤ maxLen), rfl, Nat.le_refl _, Nat.zero_le _, fun h => absurd h (Nat.lt_irrefl _)⟩
theorem rep_q5 {x : World} {Kv Iv : Int} {Fv : Nat} {Zv : ByteArray} {qv : Option Addr} {mv dv : Nat} {L : List (VT 1)} (h : Rep x 2 (.agg #[.int .i64 Kv, .int .i64 Iv, .float .f64 Fv, .string Zv, .slice qv mv dv]) (queueT 0 L)) : Kv = 4 ∧ Iv = 0 ∧ Fv = 0 ∧ Zv = ⟨#[]⟩ ∧ mv = L.length := by
  obtain ⟨p, l, c, hv, _, _, _, _, hl, _⟩ := h
  injection hv with hv
  simp only [Array.mk.injEq, List.cons.injEq, and_true] at hv
  obtain ⟨h1, h2, h3, h4, h5⟩ := hv
  injection h1 with _ h1
  injection h2 with _ h2
  injection h3 with _ h3
  injection h4 with h4
  injection h5 with _ h5
  exact ⟨h1, h2, h3, h4, by rw [h5]; exact hl.symm⟩
theorem rep_q4 {x : World} {Kv Iv : Int} {Fv : Nat} {Zv : ByteArray} {qv : Option Addr} {mv dv : Nat} {L : List (VT 1)} (h : Rep x 2 (.agg #[.int .i64 Kv, .int .i64 Iv, .float .f64 Fv, .string Zv, .slice qv mv dv]) (queueT 0 L)) : Kv = 4 ∧ Iv = 0 ∧ Fv = 0 ∧ Zv = ⟨#[]⟩ := ⟨(rep_q5 h).1, (rep_q5 h).2.1, (rep_q5 h).2.2.1, (rep_q5 h).2.2.2.1⟩
section
variable {X : List Int} {s : Value} {g : Nat} {W : World}
theorem push_I {x : Int} (h : X.length < 32) (hs : Rep W 2 s (intsQ X)) (hr : L1 g x W) :
    Calls Try.prog 11 #[s, .string { data := #[112, 117, 115, 104] }, .slice (some ⟨g, 0, none⟩) 1 1] W fun e w' => DoQ W 2 1 (intsQ (X ++ [x])) (numT 0 ((X.length : Int) + 1)) 0 e w' := by
  have e : numsT X ++ [numT 0 x] = numsT (X ++ [x]) := by unfold numsT; rw [List.map_append]; rfl
  have hl : (numsT X).length = X.length := List.length_map ..
  have hk := qdo_push (n := 0) (V := numT 0 x) hs hr (nums_ok (by omega)) (num_light 0 x).1 (num_light 0 x).2 (by omega) (by rw [e]; exact nums_ok (by rw [List.length_append]; exact h))
  rw [e, hl] at hk
  have hc := nums_clean (X ++ [x])
  unfold intsQ at hc ⊢
  rw [hc] at hk
  exact hk
theorem full_I {x : Int} (h : X.length = 32) (hs : Rep W 2 s (intsQ X)) (hr : L1 g x W) :
    Calls Try.prog 11 #[s, .string { data := #[112, 117, 115, 104] }, .slice (some ⟨g, 0, none⟩) 1 1] W fun e w' => DoQ W 2 1 (nilT 1) (nilT 0) 33 e w' :=
  qdo_full (n := 0) (V := numT 0 x) hs hr (nums_ok (by omega)) (num_light 0 x).1 (num_light 0 x).2 (by unfold numsT; rw [List.length_map]; exact h)
theorem head_cln (X : List Int) : Cln 1 (headT 0 (numsT X)) ∧ cleanT 1 (headT 0 (numsT X)) = headT 0 (numsT X) := by
  cases X with
  | nil => exact ⟨⟨rfl, by show (1 : Nat) ≤ 1000; decide, by show walkM (measT 1 (nilT 0)) = true; unfold nilT; rw [measT_nil rfl]; decide +kernel⟩, rfl⟩
  | cons x r => exact ⟨num_cln 0 x, rfl⟩
theorem pop_I (h : X.length ≤ 32) (hs : Rep W 2 s (intsQ X)) :
    Calls Try.prog 11 #[s, .string { data := #[112, 111, 112] }, .slice none 0 0] W fun e w' => DoQ W 2 1 (intsQ (X.drop 1)) (headT 0 (numsT X)) 0 e w' := by
  have e : (numsT X).drop 1 = numsT (X.drop 1) := by unfold numsT; rw [List.map_drop]
  have hk := qdo_pop (n := 0) hs (l1_nil W) (nums_ok h) (by rw [e]; exact nums_ok (by rw [List.length_drop]; omega)) (head_cln X).1
  rw [e, (head_cln X).2] at hk
  have hc := nums_clean (X.drop 1)
  unfold intsQ at hc ⊢
  rw [hc] at hk
  exact hk
theorem nth_I {i : Nat} (h : X.length ≤ 32) (hi : i < X.length) (hs : Rep W 2 s (intsQ X)) (hr : L1 g (i : Nat) W) :
    Calls Try.prog 11 #[s, .string { data := #[110, 116, 104] }, .slice (some ⟨g, 0, none⟩) 1 1] W fun e w' => DoQ W 2 1 (intsQ X) (numT 0 X[i]) 0 e w' := by
  have hl : i < (numsT X).length := by unfold numsT; rw [List.length_map]; exact hi
  have e : (numsT X)[i] = numT 0 X[i] := List.getElem_map (numT 0)
  have hk := qdo_nth (n := 0) (i := i) hs hr (nums_ok h) hl (by rw [e]; exact num_cln 0 _)
  rw [e] at hk
  have hc := nums_clean X
  unfold intsQ at hc ⊢
  rw [hc] at hk
  exact hk
theorem none_I {i : Int} (h : X.length ≤ 32) (hi : i < 0 ∨ (X.length : Int) ≤ i) (hs : Rep W 2 s (intsQ X)) (hr : L1 g i W) :
    Calls Try.prog 11 #[s, .string { data := #[110, 116, 104] }, .slice (some ⟨g, 0, none⟩) 1 1] W fun e w' => DoQ W 2 1 (nilT 1) (nilT 0) 34 e w' :=
  qdo_none (n := 0) hs hr (nums_ok h) (by unfold numsT; rw [List.length_map]; exact hi)
end
end Num
end Go.Proofs.Ytodjnhhnjncgdaa
