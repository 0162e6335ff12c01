/-
  What a Do tells; what args.Check lets through; leaves and pairs of leaves.
-/
import Derived.Test.YteodljkcbddehaaJHI
import Derived.Test.YteodljkcbddehaaJKV
import Derived.Test.YteodljkcbddehaaJMI
import Derived.Test.YteodljkcbddehaaJp0Row
import Derived.Test.YteodljkcbddehaaJp6WLo
import Derived.Test.YteodljkcbddehaaJp9VSurv
import Derived.Test.YteodljkcbddehaaJp3VBase
import Derived.Test.YteodljkcbddehaaJp4VTree
namespace Go.Proofs.Yteodljkcbddehaa
open Go.RowKit
namespace Num
open Ints
set_option linter.unusedSimpArgs false
set_option linter.unusedVariables false
theorem walk_check {q : Me} (h : checkM q = 0) : walkM q = true := by
  unfold checkM at h
  unfold walkM
  split at h
  · cases h
  · split at h
    · cases h
    · rename_i h1
      rw [Bool.or_eq_true, Bool.or_eq_true, not_or, not_or, decide_eq_true_iff, decide_eq_true_iff] at h1
      rw [Bool.and_eq_true, decide_eq_true_iff, decide_eq_true_iff]
      omega
def nilT (n : Nat) : VT (n + 1) := (0, 0, 0, ⟨#[]⟩, [])
theorem nil_rep (n : Nat) (S : Nat → Prop) (w : World) : RepS S w (n + 1) (.agg #[.int .i64 0, .int .i64 0, .float .f64 0, .string ⟨#[]⟩, .slice none 0 0]) (nilT n) := leafC S w n 0 0 0 ⟨#[]⟩ (by decide) (by decide) (by decide) (by decide)
def floT (n : Nat) (x : Nat) : VT (n + 1) := (2, 0, x, ⟨#[]⟩, [])
end Num
end Go.Proofs.Yteodljkcbddehaa
/-
  What a law keeps beside a region that makes boxes in whatever order: boxes, values.
-/
namespace Go.Proofs.Yteodljkcbddehaa
open Go.RowKit
namespace Num
open Ints
set_option linter.unusedSimpArgs false
set_option linter.unusedVariables false
def CS (x : World) (b : Nat) (v0 v1 v2 v3 v4 : Value) : Prop := x.cell? ⟨b, 0, none⟩ = some v0 ∧ x.cell? ⟨b, 1, none⟩ = some v1 ∧ x.cell? ⟨b, 2, none⟩ = some v2 ∧ x.cell? ⟨b, 3, none⟩ = some v3 ∧ x.cell? ⟨b, 4, none⟩ = some v4
theorem cs_step {x y : World} {b : Nat} {v0 v1 v2 v3 v4 : Value} (h : CS x b v0 v1 v2 v3 v4) (hb : Below x.heap.size x y) : CS y b v0 v1 v2 v3 v4 := ⟨ck hb h.1, ck hb h.2.1, ck hb h.2.2.1, ck hb h.2.2.2.1, ck hb h.2.2.2.2⟩
theorem cs_alloc {x : World} {b : Nat} {v0 v1 v2 v3 v4 : Value} (h : CS x b v0 v1 v2 v3 v4) (o : Obj) : CS (x.alloc o) b v0 v1 v2 v3 v4 := cs_step h (bel_alloc br o)
theorem cs_set {x : World} {b g o : Nat} {v v0 v1 v2 v3 v4 : Value} (h : CS x b v0 v1 v2 v3 v4) (hne : b ≠ g) : CS (x.setCell ⟨g, o, none⟩ v) b v0 v1 v2 v3 v4 := by
  have e : ∀ i, (x.setCell ⟨g, o, none⟩ v).cell? ⟨b, i, none⟩ = x.cell? ⟨b, i, none⟩ := fun i => World.cell?_setCell_other _ _ _ _ (fun e => hne (congrArg Addr.block e).symm)
  unfold CS at h ⊢
  simp only [e]
  exact h
theorem cs_row {x : World} {b : Nat} {v0 v1 v2 v3 v4 : Value} {t : TypeId} (h : x.heap[b]? = some (.cells #[v0, v1, v2, v3, v4] t (0, 0))) : CS x b v0 v1 v2 v3 v4 := ⟨rc h 0, rc h 1, rc h 2, rc h 3, rc h 4⟩
theorem cs_lt {x : World} {b : Nat} {v0 v1 v2 v3 v4 : Value} (h : CS x b v0 v1 v2 v3 v4) : b < x.heap.size := cell_lt h.1
theorem bel_set {w y : World} {g o : Nat} {v : Value} (h : Below w.heap.size w y) (hg : w.heap.size ≤ g) : Below w.heap.size w (y.setCell ⟨g, o, none⟩ v) := h.setCell (p := ⟨g, o, none⟩) hg v
theorem cs_new {x : World} {g : Nat} {v0 v1 v2 v3 v4 : Value} {t : TypeId} (hg : g = x.heap.size) : CS (x.alloc (.cells #[v0, v1, v2, v3, v4] t)) g v0 v1 v2 v3 v4 := by
  subst hg
  exact cs_row (row_alloc x _ _)
theorem cs_set5 {x : World} {g : Nat} {u0 u1 u2 u3 u4 v0 v1 v2 v3 v4 : Value} (h : CS x g u0 u1 u2 u3 u4) : CS (((((x.setCell ⟨g, 0, none⟩ v0).setCell ⟨g, 1, none⟩ v1).setCell ⟨g, 2, none⟩ v2).setCell ⟨g, 3, none⟩ v3).setCell ⟨g, 4, none⟩ v4) g v0 v1 v2 v3 v4 := set5_same (o := 0) v0 v1 v2 v3 v4 h.1 h.2.1 h.2.2.1 h.2.2.2.1 h.2.2.2.2
theorem cs_other {x : World} {b g : Nat} {u0 u1 u2 u3 u4 v0 v1 v2 v3 v4 : Value} (h : CS x b v0 v1 v2 v3 v4) (hne : b ≠ g) : CS (((((x.setCell ⟨g, 0, none⟩ u0).setCell ⟨g, 1, none⟩ u1).setCell ⟨g, 2, none⟩ u2).setCell ⟨g, 3, none⟩ u3).setCell ⟨g, 4, none⟩ u4) b v0 v1 v2 v3 v4 := cs_set (cs_set (cs_set (cs_set (cs_set h hne) hne) hne) hne) hne
theorem bel_set5 {w y : World} {g : Nat} {u0 u1 u2 u3 u4 : Value} (h : Below w.heap.size w y) (hg : w.heap.size ≤ g) : Below w.heap.size w (((((y.setCell ⟨g, 0, none⟩ u0).setCell ⟨g, 1, none⟩ u1).setCell ⟨g, 2, none⟩ u2).setCell ⟨g, 3, none⟩ u3).setCell ⟨g, 4, none⟩ u4) := bel_set (bel_set (bel_set (bel_set (bel_set h hg) hg) hg) hg) hg
def SBX (x : World) (b : Nat) (v0 v1 v2 v3 v4 : Value) : Prop := CS x b v0 v1 v2 v3 v4 ∧ ∀ o, x.frozen? ⟨b, o, none⟩ = false
theorem sbx_step {x y : World} {b : Nat} {v0 v1 v2 v3 v4 : Value} (h : SBX x b v0 v1 v2 v3 v4) (hb : Below x.heap.size x y) : SBX y b v0 v1 v2 v3 v4 := ⟨cs_step h.1 hb, fun o => (hb.frozen (p := ⟨b, o, none⟩) (show b < _ from cs_lt h.1)).trans (h.2 o)⟩
end Num
end Go.Proofs.Yteodljkcbddehaa
/-
  What a Do and its run tell; lists of one and two values; values of few bytes (for package table and those behind it).
-/
namespace Go.Proofs.Yteodljkcbddehaa
open Go.RowKit
namespace Num
open Ints
set_option linter.unusedSimpArgs false
set_option linter.unusedVariables false
theorem row2_rep {x : World} {n g : Nat} {u0 u1 u2 u3 u4 v0 v1 v2 v3 v4 : Value} {A B : VT (n + 1)} (h : x.heap[g]? = some (.cells #[u0, u1, u2, u3, u4, v0, v1, v2, v3, v4] 27 (0, 0))) (ha : Rep x (n + 1) (.agg #[u0, u1, u2, u3, u4]) A) (hb : Rep x (n + 1) (.agg #[v0, v1, v2, v3, v4]) B) :
    RepL x (Rep x (n + 1)) (some ⟨g, 0, none⟩) 2 2 [A, B] := by
  refine ⟨rfl, Nat.le_refl _, by unfold maxLen; omega, fun _ => ⟨g, 0, rfl, fun i hi => ?_⟩⟩
  have hi' : i = 0 ∨ i = 1 := by simp at hi; omega
  rcases hi' with rfl | rfl
  · exact ⟨_, _, _, _, _, rc h 0, rc h 1, rc h 2, rc h 3, rc h 4, ha⟩
  · exact ⟨_, _, _, _, _, rc h 5, rc h 6, rc h 7, rc h 8, rc h 9, hb⟩
theorem row1_rep {α : Type} {R : Value → α → Prop} {x : World} {g : Nat} {u0 u1 u2 u3 u4 : Value} {A : α} (h : x.heap[g]? = some (.cells #[u0, u1, u2, u3, u4] 27 (0, 0))) (ha : R (.agg #[u0, u1, u2, u3, u4]) A) :
    RepL x R (some ⟨g, 0, none⟩) 1 1 [A] := by
  refine ⟨rfl, Nat.le_refl _, by unfold maxLen; omega, fun _ => ⟨g, 0, rfl, fun i hi => ?_⟩⟩
  have hi' : i = 0 := by simp at hi; omega
  subst hi'
  exact ⟨_, _, _, _, _, rc h 0, rc h 1, rc h 2, rc h 3, rc h 4, ha⟩
theorem list_rep {x : World} {n : Nat} {p : Option Addr} {l c : Nat} {L : List (VT n)} (h : RepL x (Rep x n) p l c L) : Rep x (n + 1) (.agg #[.int .i64 4, .int .i64 0, .float .f64 0, .string ⟨#[]⟩, .slice p l c]) (4, 0, 0, ⟨#[]⟩, L) :=
  ⟨p, l, c, rfl, (by decide : okI 4), (by decide : okI 0), (by decide : (0 : Nat) < 2 ^ 64), (by decide : (⟨#[]⟩ : ByteArray).size ≤ maxLen), h⟩
theorem repL_take {α : Type} {w : World} {R : Value → α → Prop} {p : Option Addr} {l c : Nat} {L : List α} (h : RepL w R p l c L) (j : Nat) (hj : j ≤ l) : RepL w R p j c (L.take j) := by
  obtain ⟨h1, h2, h3, h4⟩ := h
  refine ⟨by rw [List.length_take]; omega, by omega, h3, fun hl => ?_⟩
  obtain ⟨b, off, rfl, hi⟩ := h4 (by omega)
  refine ⟨b, off, rfl, fun k hk => ?_⟩
  obtain ⟨v0, v1, v2, v3, v4, c0, c1, c2, c3, c4, hr⟩ := hi k (by rw [List.length_take] at hk; omega)
  exact ⟨v0, v1, v2, v3, v4, c0, c1, c2, c3, c4, by rw [List.getElem_take]; exact hr⟩
theorem repL_at {α : Type} {R : Value → α → Prop} {w w' : World} {p : Option Addr} {l c : Nat} {L : List α} (hb : Below w.heap.size w w') (h : RepL w R p l c L) : RepL w' R p l c L := repL_keep hb (fun _ _ h => h) h
def DoQ (w : World) (N m : Nat) (T : VT N) (U : VT m) (z : Int) (e : Ending) (w' : World) : Prop := ∃ t u, e = .returned (.tuple #[t, u, .int .i64 z]) ∧ Below w.heap.size w w' ∧ RepS (fun b => w.heap.size ≤ b) w' N t T ∧ RepS (fun b => w.heap.size ≤ b) w' m u U
def Cln (n : Nat) (T : VT n) : Prop := deepT n T 64 = false ∧ partsT n T ≤ 1000 ∧ walkM (measT n T) = true
section
variable {Kt It : Int} {Ft : Nat} {St : ByteArray} {qt : Option Addr} {mt dt : Nat} {Ku Iu : Int} {Fu : Nat} {Su : ByteArray} {qu : Option Addr} {mu du : Nat} {tb ub : Nat} {x0 x1 x2 x3 x4 y0 y1 y2 y3 y4 : Value} {w x y : World}
end
def SmallV (V : VT 1) : Prop := (∃ z, measT 1 V = (false, false, 0, z) ∧ 0 ≤ z ∧ z ≤ 40) ∧ partsT 1 V = 1 ∧ cleanT 1 V = V
theorem deep1 (V : VT 1) (m : Nat) : deepT 1 V (m + 1) = false := by
  obtain ⟨K, I, F, Z, L⟩ := V
  cases h : (K == 4)
  · exact deepT_not h
  · rw [deepT_succ h]
    induction L with
    | nil => rfl
    | cons x r ih => rw [List.any_cons, ih]; rfl
theorem small_cln {V : VT 1} (h : SmallV V) : checkM (measT 1 V) = 0 ∧ Cln 1 V := by
  obtain ⟨⟨z, hz, h0, h1⟩, hp, _⟩ := h
  refine ⟨?_, deep1 V 63, by rw [hp]; decide, ?_⟩
  · rw [hz]
    have e : decide (4096 < z) = false := by rw [decide_eq_false_iff_not]; omega
    show (if false = true then (31 : Int) else if (false || decide (8 < (0 : Int)) || decide (4096 < z)) = true then 22 else 0) = 0
    rw [e]; rfl
  · rw [hz]
    have e : decide (z ≤ 2147483647) = true := by rw [decide_eq_true_iff]; omega
    show (decide ((0 : Int) ≤ 64) && decide (z ≤ 2147483647)) = true
    rw [e]; rfl
theorem with_small {d z d' z' : Int} (h0 : 0 ≤ z) (h1 : z ≤ 100000) (g0 : 0 ≤ z') (g1 : z' ≤ 100000) (hd : 0 ≤ d') (hd' : d' ≤ 100) : withM (false, false, d, z) (false, false, d', z') = (false, false, (if d < d' + 1 then d' + 1 else d), z + z') := by
  have e1 : wrap64 (d' + 1) = d' + 1 := by unfold wrap64; omega
  have e2 : wrap64 (9223372036854775807 - z') = 9223372036854775807 - z' := by unfold wrap64; omega
  have e3 : wrap64 (z + z') = z + z' := by unfold wrap64; omega
  unfold withM
  simp only [e1, e2, e3]
  rw [if_neg (by omega : ¬ 9223372036854775807 - z' < z)]
  rfl
end Num
end Go.Proofs.Yteodljkcbddehaa
/-
  Names in order; entries: lists of a name and a value; where a name stands (for package table and what is like it).
-/
namespace Go.Proofs.Yteodljkcbddehaa
open Go.RowKit
namespace Num
open Ints
set_option linter.unusedSimpArgs false
set_option linter.unusedVariables false
def ltB (a b : ByteArray) : Bool := Op.bytesLess a.toList b.toList
def cmpB (a b : ByteArray) : Int := if ltB a b = true then -1 else if (a.toList == b.toList) = true then 0 else 1
def NameAt (w : World) (p : Option Addr) (s : ByteArray) : Prop := ∃ b off, p = some ⟨b, off, none⟩ ∧ w.cell? ⟨b, off + 3, none⟩ = some (.string s)
theorem name_step {w w' : World} {p : Option Addr} {s : ByteArray} (h : NameAt w p s) (hb : Below w.heap.size w w') : NameAt w' p s := by
  obtain ⟨b, off, rfl, h⟩ := h
  exact ⟨b, off, rfl, ck hb h⟩
def EntsAt (w : World) (b off : Nat) (NS : List ByteArray) : Prop := ∀ i (h : i < NS.length), ∃ (K I : Int) (F : Nat) (S : ByteArray) (q : Option Addr) (m d : Nat),
    w.cell? ⟨b, off + i * 5, none⟩ = some (.int .i64 K) ∧ w.cell? ⟨b, off + i * 5 + 1, none⟩ = some (.int .i64 I) ∧ w.cell? ⟨b, off + i * 5 + 2, none⟩ = some (.float .f64 F) ∧ w.cell? ⟨b, off + i * 5 + 3, none⟩ = some (.string S) ∧ w.cell? ⟨b, off + i * 5 + 4, none⟩ = some (.slice q m d) ∧ 0 < m ∧ NameAt w q NS[i]
theorem ents_step {w w' : World} {b off : Nat} {NS : List ByteArray} (h : EntsAt w b off NS) (hb : Below w.heap.size w w') : EntsAt w' b off NS := by
  intro i hi
  obtain ⟨K, I, F, S, q, m, d, c0, c1, c2, c3, c4, hm, hn⟩ := h i hi
  exact ⟨K, I, F, S, q, m, d, ck hb c0, ck hb c1, ck hb c2, ck hb c3, ck hb c4, hm, name_step hn hb⟩
def Spot (NS : List ByteArray) (k : ByteArray) (a : Nat) (fnd : Bool) : Prop := a ≤ NS.length ∧ (∀ t (h : t < NS.length), ltB NS[t] k = decide (t < a)) ∧ (∀ h : a < NS.length, (NS[a].toList == k.toList) = fnd) ∧ (¬ a < NS.length → fnd = false)
def EntsL (w : World) (p : Option Addr) (l : Nat) (NS : List ByteArray) : Prop := NS.length = l ∧ l ≤ 1000000 ∧ (0 < l → ∃ b off, p = some ⟨b, off, none⟩ ∧ EntsAt w b off NS)
theorem entsL_step {w w' : World} {p : Option Addr} {l : Nat} {NS : List ByteArray} (h : EntsL w p l NS) (hb : Below w.heap.size w w') : EntsL w' p l NS :=
  ⟨h.1, h.2.1, fun hl => by obtain ⟨b, off, rfl, he⟩ := h.2.2 hl; exact ⟨b, off, rfl, ents_step he hb⟩⟩
def pairT (n : Nat) (s : ByteArray) (V : VT (n + 1)) : VT (n + 2) := (4, 0, 0, ⟨#[]⟩, [(3, 0, 0, s, []), V])
def pairE (n : Nat) (e : ByteArray × VT (n + 1)) : VT (n + 2) := pairT n e.1 e.2
def tableT (n : Nat) (ES : List (ByteArray × VT (n + 1))) : VT (n + 3) := (4, 0, 0, ⟨#[]⟩, ES.map (pairE n))
def Names (NS : List ByteArray) : Prop := (∀ s ∈ NS, nmV 3 s = true) ∧ ∀ i j (hi : i < NS.length) (hj : j < NS.length), i < j → ltB NS[i] NS[j] = true
theorem pair_mem {w : World} {n : Nat} {v : Value} {s : ByteArray} {V : VT (n + 1)} (h : Rep w (n + 2) v (pairT n s V)) : ∃ g o c, v = .agg #[.int .i64 4, .int .i64 0, .float .f64 0, .string ⟨#[]⟩, .slice (some ⟨g, o, none⟩) 2 c] ∧
    (w.cell? ⟨g, o, none⟩ = some (.int .i64 3) ∧ w.cell? ⟨g, o + 1, none⟩ = some (.int .i64 0) ∧ w.cell? ⟨g, o + 2, none⟩ = some (.float .f64 0) ∧ w.cell? ⟨g, o + 3, none⟩ = some (.string s) ∧ ∃ q d, w.cell? ⟨g, o + 4, none⟩ = some (.slice q 0 d) ∧ d ≤ maxLen) ∧ s.size ≤ maxLen ∧
    ∃ (K I : Int) (F : Nat) (Z : ByteArray) (q : Option Addr) (m d : Nat), (w.cell? ⟨g, o + 5, none⟩ = some (.int .i64 K) ∧ w.cell? ⟨g, o + 5 + 1, none⟩ = some (.int .i64 I) ∧ w.cell? ⟨g, o + 5 + 2, none⟩ = some (.float .f64 F) ∧ w.cell? ⟨g, o + 5 + 3, none⟩ = some (.string Z) ∧ w.cell? ⟨g, o + 5 + 4, none⟩ = some (.slice q m d)) ∧ Rep w (n + 1) (.agg #[.int .i64 K, .int .i64 I, .float .f64 F, .string Z, .slice q m d]) V := by
  obtain ⟨p, l, c, rfl, _, _, _, _, hlen, _, _, h5⟩ := h
  obtain rfl : 2 = l := hlen
  obtain ⟨g, o, rfl, hj⟩ := h5 (by omega)
  obtain ⟨v0, v1, v2, v3, v4, c0, c1, c2, c3, c4, q, m, d, hv, _, _, _, hz, hl, _, hdm, _⟩ := hj 0 (show 0 < 2 by omega)
  obtain rfl : 0 = m := hl
  injection hv with hv
  simp only [Array.mk.injEq, List.cons.injEq, and_true] at hv
  obtain ⟨rfl, rfl, rfl, rfl, rfl⟩ := hv
  obtain ⟨u0, u1, u2, u3, u4, d0, d1, d2, d3, d4, hr⟩ := hj 1 (show 1 < 2 by omega)
  obtain ⟨K2, I2, F2, S2, q2, m2, d2', hu, _⟩ := rep_shape hr
  injection hu with hu
  simp only [Array.mk.injEq, List.cons.injEq, and_true] at hu
  obtain ⟨rfl, rfl, rfl, rfl, rfl⟩ := hu
  simp only [Nat.zero_mul, Nat.one_mul, Nat.add_zero] at c0 c1 c2 c3 c4 d0 d1 d2 d3 d4
  exact ⟨g, o, c, rfl, ⟨c0, c1, c2, c3, q, d, c4, hdm⟩, hz, K2, I2, F2, S2, q2, m2, d2', ⟨d0, d1, d2, d3, d4⟩, hr⟩
theorem pair_name {w : World} {n : Nat} {K I : Int} {F : Nat} {Z : ByteArray} {p : Option Addr} {l c : Nat} {s : ByteArray} {V : VT (n + 1)} (h : Rep w (n + 2) (.agg #[.int .i64 K, .int .i64 I, .float .f64 F, .string Z, .slice p l c]) (pairT n s V)) : K = 4 ∧ I = 0 ∧ F = 0 ∧ Z = ⟨#[]⟩ ∧ l = 2 ∧ NameAt w p s := by
  obtain ⟨g, o, c', hv, hc, _⟩ := pair_mem h
  injection hv with hv
  simp only [Array.mk.injEq, List.cons.injEq, and_true] at hv
  obtain ⟨h1, h2, h3, h4, h5⟩ := hv
  injection h1 with _ h1
  injection h2 with _ h2
  injection h3 with _ h3
  injection h4 with h4
  injection h5 with h5 h6 h7
  subst h1 h2 h3 h4 h5 h6 h7
  exact ⟨rfl, rfl, rfl, rfl, rfl, g, o, rfl, hc.2.2.2.1⟩
theorem pair_shape {w : World} {n : Nat} {u0 u1 u2 u3 u4 : Value} {s : ByteArray} {V : VT (n + 1)} (h : Rep w (n + 2) (.agg #[u0, u1, u2, u3, u4]) (pairT n s V)) : ∃ g o c, u0 = .int .i64 4 ∧ u1 = .int .i64 0 ∧ u2 = .float .f64 0 ∧ u3 = .string ⟨#[]⟩ ∧ u4 = .slice (some ⟨g, o, none⟩) 2 c := by
  obtain ⟨g, o, c, hv, _⟩ := pair_mem h
  injection hv with hv
  simp only [Array.mk.injEq, List.cons.injEq, and_true] at hv
  exact ⟨g, o, c, hv⟩
theorem bl_irrefl : ∀ x : List UInt8, Op.bytesLess x x = false
  | [] => by simp [Op.bytesLess]
  | a :: x => by
    rw [Op.bytesLess, bl_irrefl x]
    simp
theorem bl_asymm : ∀ x y : List UInt8, Op.bytesLess x y = true → Op.bytesLess y x = false
  | [], [], _ => by simp [Op.bytesLess]
  | [], _ :: _, _ => by simp [Op.bytesLess]
  | _ :: _, [], h => by simp [Op.bytesLess] at h
  | a :: x, b :: y, h => by
    have ih := bl_asymm x y
    rw [Op.bytesLess] at h ⊢
    simp only [Bool.or_eq_true, Bool.and_eq_true, decide_eq_true_iff, beq_iff_eq] at h
    rcases h with h | ⟨rfl, h⟩
    · have h1 : ¬ b < a := by rw [UInt8.lt_iff_toNat_lt] at h ⊢; omega
      have h2 : ¬ b = a := by rintro rfl; rw [UInt8.lt_iff_toNat_lt] at h; omega
      simp [h1, h2]
    · rw [ih h]
      simp
theorem ltB_irrefl (k : ByteArray) : ltB k k = false := bl_irrefl _
theorem ltB_asymm {a b : ByteArray} (h : ltB a b = true) : ltB b a = false := bl_asymm _ _ h
theorem ents_of {w : World} {n : Nat} {p : Option Addr} {l c : Nat} {ES : List (ByteArray × VT (n + 1))} (h : RepL w (Rep w (n + 2)) p l c (ES.map (pairE n))) (hl : l ≤ 1000000) : EntsL w p l (ES.map (·.1)) := by
  obtain ⟨h1, h2, h3, h4⟩ := h
  rw [List.length_map] at h1
  refine ⟨by rw [List.length_map]; exact h1, hl, fun h0 => ?_⟩
  obtain ⟨b, off, rfl, hi⟩ := h4 h0
  refine ⟨b, off, rfl, fun i hi' => ?_⟩
  rw [List.length_map] at hi'
  obtain ⟨v0, v1, v2, v3, v4, c0, c1, c2, c3, c4, hr⟩ := hi i (by rw [List.length_map]; exact hi')
  rw [List.getElem_map] at hr
  have hr' : Rep w (n + 2) (.agg #[v0, v1, v2, v3, v4]) (pairT n ES[i].1 ES[i].2) := hr
  obtain ⟨g, o, d, rfl, rfl, rfl, rfl, rfl⟩ := pair_shape hr'
  refine ⟨_, _, _, _, _, _, _, c0, c1, c2, c3, c4, by omega, ?_⟩
  rw [List.getElem_map]
  exact (pair_name hr').2.2.2.2.2
def RQ (n ge : Nat) (k : ByteArray) (V : VT (n + 1)) (w : World) : Value → VT (n + 2) → Prop := fun v T => Rep w (n + 2) v T ∨ (v = .agg #[.int .i64 4, .int .i64 0, .float .f64 0, .string ⟨#[]⟩, .slice (some ⟨ge, 0, none⟩) 2 2] ∧ T = pairT n k V)
theorem rq_one (n ge : Nat) (k : ByteArray) (V : VT (n + 1)) (w : World) : One5 (RQ n ge k V w) := by
  intro u0 u1 u2 u3 u4 T h
  rcases h with h | ⟨h, _⟩
  · exact rep_one w (n + 2) _ _ _ _ _ _ h
  · injection h with h
    simp only [Array.mk.injEq, List.cons.injEq, and_true] at h
    obtain ⟨rfl, rfl, rfl, rfl, rfl⟩ := h
    exact ⟨rfl, rfl, rfl, rfl, rfl⟩
theorem rq_rep {n ge : Nat} {k : ByteArray} {V : VT (n + 1)} {w y : World} {u0 u1 u2 u3 u4 v0 v1 v2 v3 v4 : Value} (hb : Below w.heap.size w y) (hrow : y.heap[ge]? = some (.cells #[u0, u1, u2, u3, u4, v0, v1, v2, v3, v4] 27 (0, 0))) (hk : Rep w (n + 1) (.agg #[u0, u1, u2, u3, u4]) (3, 0, 0, k, [])) (hv : Rep w (n + 1) (.agg #[v0, v1, v2, v3, v4]) V) :
    ∀ v T, RQ n ge k V w v T → Rep y (n + 2) v T := by
  rintro v T (h | ⟨rfl, rfl⟩)
  · exact rep_keep hb _ _ _ h
  · exact list_rep (row2_rep hrow (rep_keep hb _ _ _ hk) (rep_keep hb _ _ _ hv))
theorem rq_old {n ge : Nat} {k : ByteArray} {V : VT (n + 1)} {w x : World} {p : Option Addr} {l c : Nat} {L : List (VT (n + 2))} (hb : Below w.heap.size w x) (h : RepL w (Rep w (n + 2)) p l c L) : RepL x (RQ n ge k V w) p l c L := repL_keep hb (fun _ _ h => Or.inl h) h
theorem rq_new {n ge g : Nat} {k : ByteArray} {V : VT (n + 1)} {w x : World} (h : x.heap[g]? = some (.cells #[.int .i64 4, .int .i64 0, .float .f64 0, .string ⟨#[]⟩, .slice (some ⟨ge, 0, none⟩) 2 2] 27 (0, 0))) : RepL x (RQ n ge k V w) (some ⟨g, 0, none⟩) 1 1 [pairT n k V] := row1_rep h (Or.inr ⟨rfl, rfl⟩)
end Num
end Go.Proofs.Yteodljkcbddehaa
/-
  The order of texts; package ledger's nameOf, list; what find compares by.
-/
namespace Go.Proofs.Yteodljkcbddehaa
open Go.RowKit
namespace Num
open Ints
set_option linter.unusedSimpArgs false
set_option linter.unusedVariables false
theorem cmp_str (a b : ByteArray) (w : World) : Calls Try.prog 70 #[.string a, .string b] w fun e w' => e = .returned (.int .i64 (cmpB a b)) ∧ w = w' := by
  cases h1 : Op.bytesLess a.toList b.toList
  · cases h2 : (!a.toList == b.toList)
    · have H := Lib.hid (show Ending.returned (.int .i64 0) = .returned (.int .i64 (cmpB a b)) by
        rw [Bool.not_eq_false'] at h2
        simp only [cmpB, ltB, h1, h2]; rfl)
      go_enter Try.func70, Try.ntmps70
      go_wp2_with (go_in)
      go_ret
      exact ⟨H.out, rfl⟩
    · have H := Lib.hid (show Ending.returned (.int .i64 1) = .returned (.int .i64 (cmpB a b)) by
        rw [Bool.not_eq_true'] at h2
        simp only [cmpB, ltB, h1, h2]; rfl)
      go_enter Try.func70, Try.ntmps70
      go_wp2_with (go_in)
      go_ret
      exact ⟨H.out, rfl⟩
  · have H := Lib.hid (show Ending.returned (.int .i64 (-1)) = .returned (.int .i64 (cmpB a b)) by simp only [cmpB, ltB, h1]; rfl)
    go_enter Try.func70, Try.ntmps70
    go_wp2_with (go_in)
    go_ret
    exact ⟨H.out, rfl⟩
theorem nameOf_any (K I : Int) (F : Nat) (S : ByteArray) (p : Option Addr) (l c : Nat) (s : ByteArray) (w : World) (hl : 0 < l) (hn : NameAt w p s) :
    Calls Try.prog 23 #[.agg #[.int .i64 K, .int .i64 I, .float .f64 F, .string S, .slice p l c]] w fun e w' => e = .returned (.string s) ∧ Below w.heap.size w w' := by
  obtain ⟨b, off, rfl, hc⟩ := hn
  have hlt : b < w.heap.size := cell_lt hc
  have hne : w.heap.size ≠ b := by omega
  have hl' : (0 : Int) < (l : Int) := by omega
  go_enter Try.func23, Try.ntmps23
  go_wp2
  go_ret
  exact ⟨rfl, bel_alloc (Below.refl w.heap.size w) _⟩
theorem llist_any (p : Option Addr) (l c : Nat) (w : World) : Calls Try.prog 18 #[.slice p l c] w fun e w' => e = .returned (.agg #[.int .i64 4, .int .i64 0, .float .f64 0, .string ⟨#[]⟩, .slice p l c]) ∧ Below w.heap.size w w' := by
  go_enter Try.func18, Try.ntmps18
  go_wp2
  exact bodyPost_ret (v := .agg #[.int .i64 4, .int .i64 0, .float .f64 0, .string ⟨#[]⟩, .slice p l c]) (by simp [results, Try.results18, go_sem]) rfl ⟨rfl, (br.alloc (Nat.le_refl _) _)⟩
theorem find_cmp (K I : Int) (F : Nat) (S : ByteArray) (p : Option Addr) (l c : Nat) (s k : ByteArray) (w : World) (hl : 0 < l) (hn : NameAt w p s) :
    Calls Try.prog 69 #[.agg #[.int .i64 K, .int .i64 I, .float .f64 F, .string S, .slice p l c], .string k] w fun e w' => e = .returned (.int .i64 (cmpB s k)) ∧ Below w.heap.size w w' := by
  have HB := Lib.hid (bel_alloc (Below.refl w.heap.size w) (.cells #[.int .i64 K, .int .i64 I, .float .f64 F, .string S, .slice p l c] 27))
  have HN := Lib.hid (name_step hn HB.out)
  clear hn
  go_enter Try.func69, Try.ntmps69
  go_wp2_with (first
    | (go_at_call 23; refine (nameOf_any _ _ _ _ _ _ _ s _ hl HN.out).mono ?_; rintro e w1 ⟨rfl, hb1⟩; have HB1 := Lib.hid (bel_step HB.out hb1); clear hb1)
    | (go_at_call 70; refine (cmp_str _ _ _).mono ?_; rintro e w2 ⟨rfl, rfl⟩))
  go_ret
  exact ⟨rfl, HB1.out⟩
end Num
end Go.Proofs.Yteodljkcbddehaa
/-
  Names as values; tables of few names with small values (for package table and those behind it).
-/
namespace Go.Proofs.Yteodljkcbddehaa
open Go.RowKit
namespace Num
open Ints
set_option linter.unusedSimpArgs false
set_option linter.unusedVariables false
def nameV (n : Nat) (s : ByteArray) : VT (n + 1) := (3, 0, 0, s, [])
theorem name_light (n : Nat) {k : ByteArray} (hk : nmV 3 k = true) : checkM (measT (n + 1) (nameV n k)) = 0 ∧ deepT (n + 1) (nameV n k) 64 = false ∧ partsT (n + 1) (nameV n k) ≤ 1000 := by
  unfold nmV at hk
  rw [Bool.and_eq_true, Bool.and_eq_true, decide_eq_true_iff, decide_eq_true_iff, decide_eq_true_iff] at hk
  obtain ⟨_, h1, h2⟩ := hk
  refine ⟨?_, rfl, by show (1 : Nat) ≤ 1000; decide⟩
  unfold nameV
  rw [measT_text rfl rfl rfl]
  have e1 : decide (256 < (k.size : Int)) = false := by rw [decide_eq_false_iff_not]; omega
  have e2 : wrap64 (3 + (k.size : Int)) = 3 + (k.size : Int) := by unfold wrap64; omega
  rw [e1, e2]
  unfold checkM
  have e3 : decide (4096 < 3 + (k.size : Int)) = false := by rw [decide_eq_false_iff_not]; omega
  show (if false = true then (31 : Int) else if (false || decide (8 < (0 : Int)) || decide (4096 < 3 + (k.size : Int))) = true then 22 else 0) = 0
  rw [e3]
  rfl
theorem pair_meas {s : ByteArray} {V : VT 1} (hs : nmV 3 s = true) (hV : SmallV V) : ∃ z, measT 2 (pairT 0 s V) = (false, false, 1, z) ∧ 0 ≤ z ∧ z ≤ 80 := by
  unfold nmV at hs
  rw [Bool.and_eq_true, Bool.and_eq_true, decide_eq_true_iff, decide_eq_true_iff, decide_eq_true_iff] at hs
  obtain ⟨_, h1, h2⟩ := hs
  obtain ⟨⟨z, hz, z0, z1⟩, _⟩ := hV
  have e0 : measT 1 ((3, 0, 0, s, []) : VT 1) = (false, false, 0, 3 + (s.size : Int)) := by
    rw [measT_text rfl rfl rfl]
    have e1 : decide (256 < (s.size : Int)) = false := by rw [decide_eq_false_iff_not]; omega
    have e2 : wrap64 (3 + (s.size : Int)) = 3 + (s.size : Int) := by unfold wrap64; omega
    rw [e1, e2]
  refine ⟨2 + (3 + (s.size : Int)) + z, ?_, by omega, by omega⟩
  unfold pairT
  rw [measT_list rfl rfl rfl rfl]
  show withM (withM (false, decide (64 < ((2 : Nat) : Int)), 1, 2) (measT 1 ((3, 0, 0, s, []) : VT 1))) (measT 1 V) = _
  rw [e0, hz, show decide (64 < ((2 : Nat) : Int)) = false by decide, with_small (by omega) (by omega) (by omega) (by omega) (by omega) (by omega)]
  rw [with_small (by omega) (by omega) (by omega) (by omega) (by omega) (by omega)]
  rfl
theorem fold_meas : ∀ (L : List (VT 2)), (∀ x ∈ L, ∃ z, measT 2 x = (false, false, 1, z) ∧ 0 ≤ z ∧ z ≤ 80) → ∀ (d z : Int), (d = 1 ∨ d = 2) → 0 ≤ z → z + 80 * L.length ≤ 4096 →
    ∃ d' z', L.foldl (fun a x => withM a (measT 2 x)) (false, false, d, z) = (false, false, d', z') ∧ (d' = 1 ∨ d' = 2) ∧ 0 ≤ z' ∧ z' ≤ 4096
  | [], _, d, z, hd, h0, h1 => ⟨d, z, rfl, hd, h0, by simp at h1; omega⟩
  | x :: r, h, d, z, hd, h0, h1 => by
    obtain ⟨zx, hx, x0, x1⟩ := h x List.mem_cons_self
    rw [List.length_cons] at h1
    rw [List.foldl_cons, hx, with_small h0 (by omega) x0 (by omega) (by omega) (by omega)]
    refine fold_meas r (fun y hy => h y (List.mem_cons_of_mem _ hy)) _ _ ?_ (by omega) (by omega)
    rcases hd with rfl | rfl
    · exact Or.inr rfl
    · exact Or.inr rfl
theorem fold_parts : ∀ (L : List (VT 2)), (∀ x ∈ L, partsT 2 x = 3) → ∀ a, L.foldl (fun a x => a + partsT 2 x) a = a + 3 * L.length
  | [], _, a => rfl
  | x :: r, h, a => by
    rw [List.foldl_cons, h x List.mem_cons_self, fold_parts r (fun y hy => h y (List.mem_cons_of_mem _ hy)), List.length_cons]
    omega
theorem tab_small {ES : List (ByteArray × VT 1)} (hn : Names (ES.map (·.1))) (hl : ES.length ≤ 32) (hv : ∀ e ∈ ES, SmallV e.2) : checkM (measT 3 (tableT 0 ES)) = 0 ∧ deepT 3 (tableT 0 ES) 64 = false ∧ partsT 3 (tableT 0 ES) ≤ 1000 := by
  have hm : ∀ x ∈ ES.map (pairE 0), ∃ e, e ∈ ES ∧ x = pairT 0 e.1 e.2 := by
    intro x hx
    obtain ⟨e, he, rfl⟩ := List.mem_map.1 hx
    exact ⟨e, he, rfl⟩
  refine ⟨?_, ?_, ?_⟩
  · obtain ⟨d', z', hf, hd, h0, h1⟩ := fold_meas (ES.map (pairE 0)) (fun x hx => by
      obtain ⟨e, he, rfl⟩ := hm x hx
      exact pair_meas (hn.1 e.1 (List.mem_map.2 ⟨e, he, rfl⟩)) (hv e he)) 1 2 (Or.inl rfl) (by decide) (by rw [List.length_map]; omega)
    unfold tableT
    rw [measT_list rfl rfl rfl rfl, List.length_map, show decide (64 < (ES.length : Int)) = false by rw [decide_eq_false_iff_not]; omega, hf]
    have e1 : decide (8 < d') = false := by rw [decide_eq_false_iff_not]; omega
    have e2 : decide (4096 < z') = false := by rw [decide_eq_false_iff_not]; omega
    show (if false = true then (31 : Int) else if (false || decide (8 < d') || decide (4096 < z')) = true then 22 else 0) = 0
    rw [e1, e2]; rfl
  · unfold tableT
    rw [deepT_succ rfl]
    rw [List.any_eq_false]
    intro x hx
    obtain ⟨e, he, rfl⟩ := hm x hx
    unfold pairT
    rw [deepT_succ rfl]
    show ¬ ((deepT 1 ((3, 0, 0, e.1, []) : VT 1) (61 + 1)) || ((deepT 1 e.2 (61 + 1)) || false)) = true
    rw [deep1, deep1]
    simp
  · unfold tableT
    rw [partsT_list rfl, fold_parts _ (fun x hx => by
      obtain ⟨e, he, rfl⟩ := hm x hx
      unfold pairT
      rw [partsT_list rfl]
      show 1 + 1 + partsT 1 e.2 = 3
      rw [(hv e he).2.1]), List.length_map]
    omega
theorem clean_table {ES : List (ByteArray × VT 1)} (h : ∀ e ∈ ES, cleanT 1 e.2 = e.2) : cleanT 3 (tableT 0 ES) = tableT 0 ES := by
  show ((4, 0, 0, ⟨#[]⟩, (ES.map (pairE 0)).map (cleanT 2)) : VT 3) = (4, 0, 0, ⟨#[]⟩, ES.map (pairE 0))
  congr 4
  rw [List.map_map]
  refine List.map_congr_left (fun e he => ?_)
  show ((4, 0, 0, ⟨#[]⟩, [(3, 0, 0, e.1, []), cleanT 1 e.2]) : VT 2) = _
  rw [h e he]
  rfl
end Num
end Go.Proofs.Yteodljkcbddehaa
