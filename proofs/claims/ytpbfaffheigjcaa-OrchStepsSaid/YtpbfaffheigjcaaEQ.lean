/-
  What a Do and its run tell; lists of one and two values; values of few bytes (for package table and those behind it).
-/
import Derived.Test.YtpbfaffheigjcaaQA
import Derived.Test.YtpbfaffheigjcaaCSj
import Derived.Test.YtpbfaffheigjcaaKV
import Derived.Test.YtpbfaffheigjcaaVCheck
namespace Go.Proofs.Ytpbfaffheigjcaa
open Go.RowKit
namespace Num
open Ints
set_option linter.unusedSimpArgs false
set_option linter.unusedVariables false
/-- A list of two values, a list of one, in a block of its own. -/
theorem row2_rep {x : World} {n g : Nat} {u0 u1 u2 u3 u4 v0 v1 v2 v3 v4 : Value} {A B : VT (n + 1)} (h : x.heap[g]? = some (.cells #[u0, u1, u2, u3, u4, v0, v1, v2, v3, v4] 27 (0, 0))) (ha : Rep x (n + 1) (.agg #[u0, u1, u2, u3, u4]) A) (hb : Rep x (n + 1) (.agg #[v0, v1, v2, v3, v4]) B) :
    RepL x (Rep x (n + 1)) (some ⟨g, 0, none⟩) 2 2 [A, B] := by
  refine ⟨rfl, Nat.le_refl _, by unfold maxLen; omega, fun _ => ⟨g, 0, rfl, fun i hi => ?_⟩⟩
  have hi' : i = 0 ∨ i = 1 := by simp at hi; omega
  rcases hi' with rfl | rfl
  · exact ⟨_, _, _, _, _, row_cell h 0, row_cell h 1, row_cell h 2, row_cell h 3, row_cell h 4, ha⟩
  · exact ⟨_, _, _, _, _, row_cell h 5, row_cell h 6, row_cell h 7, row_cell h 8, row_cell h 9, hb⟩
theorem row1_rep {α : Type} {R : Value → α → Prop} {x : World} {g : Nat} {u0 u1 u2 u3 u4 : Value} {A : α} (h : x.heap[g]? = some (.cells #[u0, u1, u2, u3, u4] 27 (0, 0))) (ha : R (.agg #[u0, u1, u2, u3, u4]) A) :
    RepL x R (some ⟨g, 0, none⟩) 1 1 [A] := by
  refine ⟨rfl, Nat.le_refl _, by unfold maxLen; omega, fun _ => ⟨g, 0, rfl, fun i hi => ?_⟩⟩
  have hi' : i = 0 := by simp at hi; omega
  subst hi'
  exact ⟨_, _, _, _, _, row_cell h 0, row_cell h 1, row_cell h 2, row_cell h 3, row_cell h 4, ha⟩
theorem list_rep {x : World} {n : Nat} {p : Option Addr} {l c : Nat} {L : List (VT n)} (h : RepL x (Rep x n) p l c L) : Rep x (n + 1) (.agg #[.int .i64 4, .int .i64 0, .float .f64 0, .string ⟨#[]⟩, .slice p l c]) (4, 0, 0, ⟨#[]⟩, L) :=
  ⟨p, l, c, rfl, (by decide : okI 4), (by decide : okI 0), (by decide : (0 : Nat) < 2 ^ 64), (by decide : (⟨#[]⟩ : ByteArray).size ≤ maxLen), h⟩
theorem repL_take {α : Type} {w : World} {R : Value → α → Prop} {p : Option Addr} {l c : Nat} {L : List α} (h : RepL w R p l c L) (j : Nat) (hj : j ≤ l) : RepL w R p j c (L.take j) := by
  obtain ⟨h1, h2, h3, h4⟩ := h
  refine ⟨by rw [List.length_take]; omega, by omega, h3, fun hl => ?_⟩
  obtain ⟨b, off, rfl, hi⟩ := h4 (by omega)
  refine ⟨b, off, rfl, fun k hk => ?_⟩
  obtain ⟨v0, v1, v2, v3, v4, c0, c1, c2, c3, c4, hr⟩ := hi k (by rw [List.length_take] at hk; omega)
  exact ⟨v0, v1, v2, v3, v4, c0, c1, c2, c3, c4, by rw [List.getElem_take]; exact hr⟩
/-- The cells of a list, read later. -/
theorem repL_at {α : Type} {R : Value → α → Prop} {w w' : World} {p : Option Addr} {l c : Nat} {L : List α} (hb : Below w.heap.size w w') (h : RepL w R p l c L) : RepL w' R p l c L := repL_keep hb (fun _ _ h => h) h
/-- What run tells: a state, an answer, an error. -/
def RunQ (w : World) (N m : Nat) (T : VT N) (U : VT m) (z : Int) (e : Ending) (w' : World) : Prop := ∃ t u, e = .returned (.tuple #[t, u, .int .i64 z]) ∧ Below w.heap.size w w' ∧ Rep w' N t T ∧ Rep w' m u U
/-- What Do tells: a state, an answer, an error. -/
def DoQ (w : World) (N m : Nat) (T : VT N) (U : VT m) (z : Int) (e : Ending) (w' : World) : Prop := ∃ t u, e = .returned (.tuple #[t, u, .int .i64 z]) ∧ Below w.heap.size w w' ∧ RepS (fun b => w.heap.size ≤ b) w' N t T ∧ RepS (fun b => w.heap.size ≤ b) w' m u U
/-- What Clean may be asked of. -/
def Cln (n : Nat) (T : VT n) : Prop := deepT n T 64 = false ∧ partsT n T ≤ 1000 ∧ walkM (measT n T) = true
/-- What Do keeps: what run has told, its results. -/
def DQ (Kt It : Int) (Ft : Nat) (St : ByteArray) (qt : Option Addr) (mt dt : Nat) (Ku Iu : Int) (Fu : Nat) (Su : ByteArray) (qu : Option Addr) (mu du : Nat) (tb ub : Nat) (x0 x1 x2 x3 x4 y0 y1 y2 y3 y4 : Value) (w z : World) : Prop := z.cell? ⟨tb, 0, none⟩ = some (.int .i64 Kt) ∧ z.cell? ⟨tb, 1, none⟩ = some (.int .i64 It) ∧ z.cell? ⟨tb, 2, none⟩ = some (.float .f64 Ft) ∧ z.cell? ⟨tb, 3, none⟩ = some (.string St) ∧ z.cell? ⟨tb, 4, none⟩ = some (.slice qt mt dt) ∧ z.cell? ⟨ub, 0, none⟩ = some (.int .i64 Ku) ∧ z.cell? ⟨ub, 1, none⟩ = some (.int .i64 Iu) ∧ z.cell? ⟨ub, 2, none⟩ = some (.float .f64 Fu) ∧ z.cell? ⟨ub, 3, none⟩ = some (.string Su) ∧ z.cell? ⟨ub, 4, none⟩ = some (.slice qu mu du) ∧ z.cell? ⟨w.heap.size + 1, 0, none⟩ = some (x0) ∧ z.cell? ⟨w.heap.size + 1, 1, none⟩ = some (x1) ∧ z.cell? ⟨w.heap.size + 1, 2, none⟩ = some (x2) ∧ z.cell? ⟨w.heap.size + 1, 3, none⟩ = some (x3) ∧ z.cell? ⟨w.heap.size + 1, 4, none⟩ = some (x4) ∧ z.cell? ⟨w.heap.size + 1 + 1, 0, none⟩ = some (y0) ∧ z.cell? ⟨w.heap.size + 1 + 1, 1, none⟩ = some (y1) ∧ z.cell? ⟨w.heap.size + 1 + 1, 2, none⟩ = some (y2) ∧ z.cell? ⟨w.heap.size + 1 + 1, 3, none⟩ = some (y3) ∧ z.cell? ⟨w.heap.size + 1 + 1, 4, none⟩ = some (y4) ∧ Below w.heap.size w z ∧ (∀ o, z.frozen? ⟨w.heap.size + 1, o, none⟩ = false) ∧ (∀ o, z.frozen? ⟨w.heap.size + 1 + 1, o, none⟩ = false)
section
variable {Kt It : Int} {Ft : Nat} {St : ByteArray} {qt : Option Addr} {mt dt : Nat} {Ku Iu : Int} {Fu : Nat} {Su : ByteArray} {qu : Option Addr} {mu du : Nat} {tb ub : Nat} {x0 x1 x2 x3 x4 y0 y1 y2 y3 y4 : Value} {w x y : World}
theorem dq_step (h : DQ Kt It Ft St qt mt dt Ku Iu Fu Su qu mu du tb ub x0 x1 x2 x3 x4 y0 y1 y2 y3 y4 w x) (hb : Below x.heap.size x y) : DQ Kt It Ft St qt mt dt Ku Iu Fu Su qu mu du tb ub x0 x1 x2 x3 x4 y0 y1 y2 y3 y4 w y :=
  ⟨cell_keep hb h.1, cell_keep hb h.2.1, cell_keep hb h.2.2.1, cell_keep hb h.2.2.2.1, cell_keep hb h.2.2.2.2.1, cell_keep hb h.2.2.2.2.2.1, cell_keep hb h.2.2.2.2.2.2.1, cell_keep hb h.2.2.2.2.2.2.2.1, cell_keep hb h.2.2.2.2.2.2.2.2.1, cell_keep hb h.2.2.2.2.2.2.2.2.2.1, cell_keep hb h.2.2.2.2.2.2.2.2.2.2.1, cell_keep hb h.2.2.2.2.2.2.2.2.2.2.2.1, cell_keep hb h.2.2.2.2.2.2.2.2.2.2.2.2.1, cell_keep hb h.2.2.2.2.2.2.2.2.2.2.2.2.2.1, cell_keep hb h.2.2.2.2.2.2.2.2.2.2.2.2.2.2.1, cell_keep hb h.2.2.2.2.2.2.2.2.2.2.2.2.2.2.2.1, cell_keep hb h.2.2.2.2.2.2.2.2.2.2.2.2.2.2.2.2.1, cell_keep hb h.2.2.2.2.2.2.2.2.2.2.2.2.2.2.2.2.2.1, cell_keep hb h.2.2.2.2.2.2.2.2.2.2.2.2.2.2.2.2.2.2.1, cell_keep hb h.2.2.2.2.2.2.2.2.2.2.2.2.2.2.2.2.2.2.2.1, bel_step h.2.2.2.2.2.2.2.2.2.2.2.2.2.2.2.2.2.2.2.2.1 hb, fun o => (hb.frozen (p := ⟨w.heap.size + 1, o, none⟩) (show w.heap.size + 1 < x.heap.size from cell_lt h.2.2.2.2.2.2.2.2.2.2.1)).trans (h.2.2.2.2.2.2.2.2.2.2.2.2.2.2.2.2.2.2.2.2.2.1 o), fun o => (hb.frozen (p := ⟨w.heap.size + 1 + 1, o, none⟩) (show w.heap.size + 1 + 1 < x.heap.size from cell_lt h.2.2.2.2.2.2.2.2.2.2.2.2.2.2.2.1)).trans (h.2.2.2.2.2.2.2.2.2.2.2.2.2.2.2.2.2.2.2.2.2.2 o)⟩
theorem dq_ro (h : DQ Kt It Ft St qt mt dt Ku Iu Fu Su qu mu du tb ub x0 x1 x2 x3 x4 y0 y1 y2 y3 y4 w x) : x.cell? ⟨tb, 0, none⟩ = some (.int .i64 Kt) ∧ x.cell? ⟨tb, 1, none⟩ = some (.int .i64 It) ∧ x.cell? ⟨tb, 2, none⟩ = some (.float .f64 Ft) ∧ x.cell? ⟨tb, 3, none⟩ = some (.string St) ∧ x.cell? ⟨tb, 4, none⟩ = some (.slice qt mt dt) ∧ x.cell? ⟨ub, 0, none⟩ = some (.int .i64 Ku) ∧ x.cell? ⟨ub, 1, none⟩ = some (.int .i64 Iu) ∧ x.cell? ⟨ub, 2, none⟩ = some (.float .f64 Fu) ∧ x.cell? ⟨ub, 3, none⟩ = some (.string Su) ∧ x.cell? ⟨ub, 4, none⟩ = some (.slice qu mu du) := ⟨h.1, h.2.1, h.2.2.1, h.2.2.2.1, h.2.2.2.2.1, h.2.2.2.2.2.1, h.2.2.2.2.2.2.1, h.2.2.2.2.2.2.2.1, h.2.2.2.2.2.2.2.2.1, h.2.2.2.2.2.2.2.2.2.1⟩
theorem dq_r1 (h : DQ Kt It Ft St qt mt dt Ku Iu Fu Su qu mu du tb ub x0 x1 x2 x3 x4 y0 y1 y2 y3 y4 w x) : x.cell? ⟨tb, 0, none⟩ = some (.int .i64 Kt) ∧ x.cell? ⟨tb, 1, none⟩ = some (.int .i64 It) ∧ x.cell? ⟨tb, 2, none⟩ = some (.float .f64 Ft) ∧ x.cell? ⟨tb, 3, none⟩ = some (.string St) ∧ x.cell? ⟨tb, 4, none⟩ = some (.slice qt mt dt) ∧ x.cell? ⟨ub, 0, none⟩ = some (.int .i64 Ku) ∧ x.cell? ⟨ub, 1, none⟩ = some (.int .i64 Iu) ∧ x.cell? ⟨ub, 2, none⟩ = some (.float .f64 Fu) ∧ x.cell? ⟨ub, 3, none⟩ = some (.string Su) ∧ x.cell? ⟨ub, 4, none⟩ = some (.slice qu mu du) ∧ x.cell? ⟨w.heap.size + 1, 0, none⟩ = some (x0) ∧ x.cell? ⟨w.heap.size + 1, 1, none⟩ = some (x1) ∧ x.cell? ⟨w.heap.size + 1, 2, none⟩ = some (x2) ∧ x.cell? ⟨w.heap.size + 1, 3, none⟩ = some (x3) ∧ x.cell? ⟨w.heap.size + 1, 4, none⟩ = some (x4) := ⟨h.1, h.2.1, h.2.2.1, h.2.2.2.1, h.2.2.2.2.1, h.2.2.2.2.2.1, h.2.2.2.2.2.2.1, h.2.2.2.2.2.2.2.1, h.2.2.2.2.2.2.2.2.1, h.2.2.2.2.2.2.2.2.2.1, h.2.2.2.2.2.2.2.2.2.2.1, h.2.2.2.2.2.2.2.2.2.2.2.1, h.2.2.2.2.2.2.2.2.2.2.2.2.1, h.2.2.2.2.2.2.2.2.2.2.2.2.2.1, h.2.2.2.2.2.2.2.2.2.2.2.2.2.2.1⟩
theorem dq_all (h : DQ Kt It Ft St qt mt dt Ku Iu Fu Su qu mu du tb ub x0 x1 x2 x3 x4 y0 y1 y2 y3 y4 w x) : x.cell? ⟨tb, 0, none⟩ = some (.int .i64 Kt) ∧ x.cell? ⟨tb, 1, none⟩ = some (.int .i64 It) ∧ x.cell? ⟨tb, 2, none⟩ = some (.float .f64 Ft) ∧ x.cell? ⟨tb, 3, none⟩ = some (.string St) ∧ x.cell? ⟨tb, 4, none⟩ = some (.slice qt mt dt) ∧ x.cell? ⟨ub, 0, none⟩ = some (.int .i64 Ku) ∧ x.cell? ⟨ub, 1, none⟩ = some (.int .i64 Iu) ∧ x.cell? ⟨ub, 2, none⟩ = some (.float .f64 Fu) ∧ x.cell? ⟨ub, 3, none⟩ = some (.string Su) ∧ x.cell? ⟨ub, 4, none⟩ = some (.slice qu mu du) ∧ x.cell? ⟨w.heap.size + 1, 0, none⟩ = some (x0) ∧ x.cell? ⟨w.heap.size + 1, 1, none⟩ = some (x1) ∧ x.cell? ⟨w.heap.size + 1, 2, none⟩ = some (x2) ∧ x.cell? ⟨w.heap.size + 1, 3, none⟩ = some (x3) ∧ x.cell? ⟨w.heap.size + 1, 4, none⟩ = some (x4) ∧ x.cell? ⟨w.heap.size + 1 + 1, 0, none⟩ = some (y0) ∧ x.cell? ⟨w.heap.size + 1 + 1, 1, none⟩ = some (y1) ∧ x.cell? ⟨w.heap.size + 1 + 1, 2, none⟩ = some (y2) ∧ x.cell? ⟨w.heap.size + 1 + 1, 3, none⟩ = some (y3) ∧ x.cell? ⟨w.heap.size + 1 + 1, 4, none⟩ = some (y4) := ⟨h.1, h.2.1, h.2.2.1, h.2.2.2.1, h.2.2.2.2.1, h.2.2.2.2.2.1, h.2.2.2.2.2.2.1, h.2.2.2.2.2.2.2.1, h.2.2.2.2.2.2.2.2.1, h.2.2.2.2.2.2.2.2.2.1, h.2.2.2.2.2.2.2.2.2.2.1, h.2.2.2.2.2.2.2.2.2.2.2.1, h.2.2.2.2.2.2.2.2.2.2.2.2.1, h.2.2.2.2.2.2.2.2.2.2.2.2.2.1, h.2.2.2.2.2.2.2.2.2.2.2.2.2.2.1, h.2.2.2.2.2.2.2.2.2.2.2.2.2.2.2.1, h.2.2.2.2.2.2.2.2.2.2.2.2.2.2.2.2.1, h.2.2.2.2.2.2.2.2.2.2.2.2.2.2.2.2.2.1, h.2.2.2.2.2.2.2.2.2.2.2.2.2.2.2.2.2.2.1, h.2.2.2.2.2.2.2.2.2.2.2.2.2.2.2.2.2.2.2.1⟩
theorem dq_drew (h : DQ Kt It Ft St qt mt dt Ku Iu Fu Su qu mu du tb ub x0 x1 x2 x3 x4 y0 y1 y2 y3 y4 w x) : DQ Kt It Ft St qt mt dt Ku Iu Fu Su qu mu du tb ub x0 x1 x2 x3 x4 y0 y1 y2 y3 y4 w x.drew := dq_step h (Below.drew (Below.refl _ _))
theorem dq_set1 (hlt_tb : w.heap.size + 1 + 1 < tb) (hlt_ub : w.heap.size + 1 + 1 < ub) (h : DQ Kt It Ft St qt mt dt Ku Iu Fu Su qu mu du tb ub x0 x1 x2 x3 x4 y0 y1 y2 y3 y4 w x) (u0 u1 u2 u3 u4 : Value) : DQ Kt It Ft St qt mt dt Ku Iu Fu Su qu mu du tb ub u0 u1 u2 u3 u4 y0 y1 y2 y3 y4 w (set5 x (w.heap.size + 1) 0 u0 u1 u2 u3 u4) := by
  have e : ∀ c i, c ≠ w.heap.size + 1 → (set5 x (w.heap.size + 1) 0 u0 u1 u2 u3 u4).cell? ⟨c, i, none⟩ = x.cell? ⟨c, i, none⟩ := fun c i hc => World.cell?_of_block (set5_other hc)
  have hs := set5_same (g := w.heap.size + 1) (o := 0) u0 u1 u2 u3 u4 h.2.2.2.2.2.2.2.2.2.2.1 h.2.2.2.2.2.2.2.2.2.2.2.1 h.2.2.2.2.2.2.2.2.2.2.2.2.1 h.2.2.2.2.2.2.2.2.2.2.2.2.2.1 h.2.2.2.2.2.2.2.2.2.2.2.2.2.2.1
  unfold DQ at h ⊢
  obtain ⟨g0, g1, g2, g3, g4, g5, g6, g7, g8, g9, g10, g11, g12, g13, g14, g15, g16, g17, g18, g19, g20, g21, g22⟩ := h
  refine ⟨(e _ _ (by omega)).trans g0, (e _ _ (by omega)).trans g1, (e _ _ (by omega)).trans g2, (e _ _ (by omega)).trans g3, (e _ _ (by omega)).trans g4, (e _ _ (by omega)).trans g5, (e _ _ (by omega)).trans g6, (e _ _ (by omega)).trans g7, (e _ _ (by omega)).trans g8, (e _ _ (by omega)).trans g9, hs.1, hs.2.1, hs.2.2.1, hs.2.2.2.1, hs.2.2.2.2, (e _ _ (by omega)).trans g15, (e _ _ (by omega)).trans g16, (e _ _ (by omega)).trans g17, (e _ _ (by omega)).trans g18, (e _ _ (by omega)).trans g19, set5_below g20 (by omega) _ _ _ _ _, fun o => ?_, fun o => ?_⟩
  all_goals (unfold set5; simp only [World.frozen?_setCell]; first | exact g21 o | exact g22 o)
theorem dq_set2 (hlt_tb : w.heap.size + 1 + 1 < tb) (hlt_ub : w.heap.size + 1 + 1 < ub) (h : DQ Kt It Ft St qt mt dt Ku Iu Fu Su qu mu du tb ub x0 x1 x2 x3 x4 y0 y1 y2 y3 y4 w x) (u0 u1 u2 u3 u4 : Value) : DQ Kt It Ft St qt mt dt Ku Iu Fu Su qu mu du tb ub x0 x1 x2 x3 x4 u0 u1 u2 u3 u4 w (set5 x (w.heap.size + 1 + 1) 0 u0 u1 u2 u3 u4) := by
  have e : ∀ c i, c ≠ w.heap.size + 1 + 1 → (set5 x (w.heap.size + 1 + 1) 0 u0 u1 u2 u3 u4).cell? ⟨c, i, none⟩ = x.cell? ⟨c, i, none⟩ := fun c i hc => World.cell?_of_block (set5_other hc)
  have hs := set5_same (g := w.heap.size + 1 + 1) (o := 0) u0 u1 u2 u3 u4 h.2.2.2.2.2.2.2.2.2.2.2.2.2.2.2.1 h.2.2.2.2.2.2.2.2.2.2.2.2.2.2.2.2.1 h.2.2.2.2.2.2.2.2.2.2.2.2.2.2.2.2.2.1 h.2.2.2.2.2.2.2.2.2.2.2.2.2.2.2.2.2.2.1 h.2.2.2.2.2.2.2.2.2.2.2.2.2.2.2.2.2.2.2.1
  unfold DQ at h ⊢
  obtain ⟨g0, g1, g2, g3, g4, g5, g6, g7, g8, g9, g10, g11, g12, g13, g14, g15, g16, g17, g18, g19, g20, g21, g22⟩ := h
  refine ⟨(e _ _ (by omega)).trans g0, (e _ _ (by omega)).trans g1, (e _ _ (by omega)).trans g2, (e _ _ (by omega)).trans g3, (e _ _ (by omega)).trans g4, (e _ _ (by omega)).trans g5, (e _ _ (by omega)).trans g6, (e _ _ (by omega)).trans g7, (e _ _ (by omega)).trans g8, (e _ _ (by omega)).trans g9, (e _ _ (by omega)).trans g10, (e _ _ (by omega)).trans g11, (e _ _ (by omega)).trans g12, (e _ _ (by omega)).trans g13, (e _ _ (by omega)).trans g14, hs.1, hs.2.1, hs.2.2.1, hs.2.2.2.1, hs.2.2.2.2, set5_below g20 (by omega) _ _ _ _ _, fun o => ?_, fun o => ?_⟩
  all_goals (unfold set5; simp only [World.frozen?_setCell]; first | exact g21 o | exact g22 o)
end
/-- A value of few bytes, as Clean makes it. -/
def SmallV (V : VT 1) : Prop := (∃ z, measT 1 V = (false, false, 0, z) ∧ 0 ≤ z ∧ z ≤ 40) ∧ partsT 1 V = 1 ∧ cleanT 1 V = V
theorem deep1 (V : VT 1) (m : Nat) : deepT 1 V (m + 1) = false := by
  obtain ⟨K, I, F, Z, L⟩ := V
  cases h : (K == 4)
  · exact deepT_not h
  · rw [deepT_succ h]
    induction L with
    | nil => rfl
    | cons x r ih => rw [List.any_cons, ih]; rfl
theorem small_cln {V : VT 1} (h : SmallV V) : checkM (measT 1 V) = 0 ∧ Cln 1 V := by
  obtain ⟨⟨z, hz, h0, h1⟩, hp, _⟩ := h
  refine ⟨?_, deep1 V 63, by rw [hp]; decide, ?_⟩
  · rw [hz]
    have e : decide (4096 < z) = false := by rw [decide_eq_false_iff_not]; omega
    show (if false = true then (31 : Int) else if (false || decide (8 < (0 : Int)) || decide (4096 < z)) = true then 22 else 0) = 0
    rw [e]; rfl
  · rw [hz]
    have e : decide (z ≤ 2147483647) = true := by rw [decide_eq_true_iff]; omega
    show (decide ((0 : Int) ≤ 64) && decide (z ≤ 2147483647)) = true
    rw [e]; rfl
theorem with_small {d z d' z' : Int} (h0 : 0 ≤ z) (h1 : z ≤ 100000) (g0 : 0 ≤ z') (g1 : z' ≤ 100000) (hd : 0 ≤ d') (hd' : d' ≤ 100) : withM (false, false, d, z) (false, false, d', z') = (false, false, (if d < d' + 1 then d' + 1 else d), z + z') := by
  have e1 : wrap64 (d' + 1) = d' + 1 := by unfold wrap64; omega
  have e2 : wrap64 (9223372036854775807 - z') = 9223372036854775807 - z' := by unfold wrap64; omega
  have e3 : wrap64 (z + z') = z + z' := by unfold wrap64; omega
  unfold withM
  simp only [e1, e2, e3]
  rw [if_neg (by omega : ¬ 9223372036854775807 - z' < z)]
  rfl
end Num
end Go.Proofs.Ytpbfaffheigjcaa
