/-
  TableOrder: what the law does.
-/
import Derived.Test.YtamogpbbaihaaaaQT
import Derived.Test.YtamogpbbaihaaaaUA
import Derived.Test.YtamogpbbaihaaaaMJ
import Derived.Deep.RegionHeld3
import Derived.Deep.DeepCutAuto
import Derived.Laws.IdiomStrings
namespace Go.Proofs.Ytamogpbbaihaaaa
open Go.RowKit
namespace Num
open Ints
set_option linter.unusedSimpArgs false
set_option linter.unusedVariables false
def nmO (c : Nat) : ByteArray := ⟨#[110, UInt8.ofNat (97 + c)]⟩
def fO (c : Nat) : ByteArray × VT 1 := intF (nmO c) c
theorem nmO_lt : ∀ j, j < 26 → ∀ i, i < j → ltB (nmO i) (nmO j) = true := by decide +kernel
theorem fam_O : Fam 26 fO := ⟨by decide, fun i j h1 h2 => nmO_lt j h2 i h1, fun i _ => (rfl : nmV 3 (nmO i) = true), fun i _ => small_int i⟩
theorem nmO_cat (c : Nat) : ({ data := #[110] } : ByteArray) ++ { data := #[UInt8.ofNat (97 + c)] } = nmO c := by
  apply ByteArray.ext
  rw [ByteArray.data_append]
  rfl
theorem ofN97 {c : Nat} (h : c < 26) : ((UInt8.ofNat (97 + c)).toNat : Int) = 97 + (c : Int) := by
  rw [UInt8.toNat_ofNat']
  omega
/-- The letters met so far. -/
def metN (g : Nat → Nat) (i : Nat) : Nat → Bool := fun c => (List.range i).any fun t => g t == c
theorem metN_succ (g : Nat → Nat) (i : Nat) : (fun c => metN g i c || c == g i) = metN g (i + 1) := by
  funext c
  unfold metN
  rw [List.range_succ, List.any_append]
  simp [Bool.beq_comm]
theorem setE_congr {N : Nat} {f : Nat → ByteArray × VT 1} {A B : Nat → Bool} (h : ∀ i, i < N → A i = B i) : setE N f A = setE N f B := by
  unfold setE
  rw [List.filter_congr (fun i hi => h i (List.mem_range.1 hi))]
theorem setE_none {N : Nat} {f : Nat → ByteArray × VT 1} (g : Nat → Nat) : setE N f (metN g 0) = [] := by
  unfold setE
  rw [List.filter_eq_nil_iff.2 (fun i _ => by simp [metN])]
  rfl
theorem met_turn {l : Nat} (hl : 0 < l) (g : Nat → Nat) (r : Nat) : metN (fun t => g ((t + r) % l)) l = metN g l := by
  funext c
  unfold metN
  rw [Bool.eq_iff_iff, List.any_eq_true, List.any_eq_true]
  constructor
  · rintro ⟨t, ht, h⟩
    exact ⟨(t + r) % l, List.mem_range.2 (Nat.mod_lt _ hl), h⟩
  · rintro ⟨t, ht, h⟩
    have ht' := List.mem_range.1 ht
    refine ⟨(t + (l - r % l)) % l, List.mem_range.2 (Nat.mod_lt _ hl), ?_⟩
    have e : ((t + (l - r % l)) % l + r) % l = t := by
      have h1 : r % l < l := Nat.mod_lt _ hl
      have h2 : r = l * (r / l) + r % l := (Nat.div_add_mod r l).symm
      rw [Nat.mod_add_mod]
      have h3 : t + (l - r % l) + r = t + l * (r / l + 1) := by rw [Nat.mul_add, Nat.mul_one]; omega
      rw [h3, Nat.add_mul_mod_self_left, Nat.mod_eq_of_lt ht']
    show (g (((t + (l - r % l)) % l + r) % l) == c) = true
    rw [e]
    exact h
/-- Two tables' boxes. -/
def BW (w : World) (ab bb : Nat) (qa : Option Addr) (ma da : Nat) (qb : Option Addr) (mb db : Nat) (z : World) : Prop := CS z ab (.int .i64 4) (.int .i64 0) (.float .f64 0) (.string ⟨#[]⟩) (.slice qa ma da) ∧ CS z bb (.int .i64 4) (.int .i64 0) (.float .f64 0) (.string ⟨#[]⟩) (.slice qb mb db) ∧ Below w.heap.size w z ∧ (∀ o, z.frozen? ⟨ab, o, none⟩ = false) ∧ ∀ o, z.frozen? ⟨bb, o, none⟩ = false
theorem repS_step {S : Nat → Prop} {W W' : World} {n : Nat} {v : Value} {T : VT n} (hb : Below W.heap.size W W') (h : RepS S W n v T) : RepS S W' n v T := repS_mono (S := fun b => S b ∧ b < W.heap.size) (fun b h => h.1) _ _ _ (repS_keep (fun b hb' => hb.block b hb'.2) _ _ _ (repS_lt _ _ _ h))
theorem conv1 {W : World} {g cap : Nat} {u : Int} {b : UInt8} (hu : (b.toNat : Int) = u) (h : W.heap[g]? = some (.cells #[.int .u8 u] 5 (0, 0))) : (convert 44 9 (.slice (some ⟨g, 0, none⟩) 1 cap)).run Try.prog W = .ok (.string ⟨#[b]⟩) W :=
  run_convert_bytes_back (P := Try.prog) W 44 9 5 ⟨g, 0, none⟩ cap [b] Try.underlying44 Try.underlying5 Try.underlying9 (fun j hj => by
    have hj' : j = 0 := by simp at hj; omega
    subst hj'
    rw [Addr.add_lit, Nat.zero_add, row_cell h 0]
    show some (Value.int .u8 u) = some (Value.int .u8 (b.toNat : Int))
    rw [hu])
theorem repS_set {S : Nat → Prop} {W : World} {n g : Nat} {v : Value} {T : VT n} {u0 u1 u2 u3 u4 : Value} (h : RepS S W n v T) (hg : ∀ b, S b → b ≠ g) : RepS S (set5 W g 0 u0 u1 u2 u3 u4) n v T := repS_keep (fun b hb => set5_other (hg b hb)) _ _ _ h
theorem repS_nil3 (S : Nat → Prop) (x : World) : RepS S x 3 (.agg #[.int .i64 4, .int .i64 0, .float .f64 0, .string ⟨#[]⟩, .slice none 0 0]) (tableT 0 []) := ⟨none, 0, 0, rfl, (by decide : okI 4), (by decide : okI 0), (by decide : (0 : Nat) < 2 ^ 64), (by decide : (⟨#[]⟩ : ByteArray).size ≤ maxLen), rfl, Nat.le_refl _, Nat.zero_le _, fun h => absurd h (Nat.lt_irrefl _)⟩
/-- What TableOrder keeps: a name's number, two tables. -/
def OQ (nb no : Nat) (xb : Nat) (ab bb : Nat) (x0 x1 x2 x3 x4 y0 y1 y2 y3 y4 : Value) (w z : World) : Prop := z.cell? ⟨nb, no, none⟩ = some (.int .u8 xb) ∧ z.cell? ⟨ab, 0, none⟩ = some (x0) ∧ z.cell? ⟨ab, 1, none⟩ = some (x1) ∧ z.cell? ⟨ab, 2, none⟩ = some (x2) ∧ z.cell? ⟨ab, 3, none⟩ = some (x3) ∧ z.cell? ⟨ab, 4, none⟩ = some (x4) ∧ z.cell? ⟨bb, 0, none⟩ = some (y0) ∧ z.cell? ⟨bb, 1, none⟩ = some (y1) ∧ z.cell? ⟨bb, 2, none⟩ = some (y2) ∧ z.cell? ⟨bb, 3, none⟩ = some (y3) ∧ z.cell? ⟨bb, 4, none⟩ = some (y4) ∧ Below w.heap.size w z ∧ (∀ o, z.frozen? ⟨ab, o, none⟩ = false) ∧ (∀ o, z.frozen? ⟨bb, o, none⟩ = false)
section
variable {nb no : Nat} {xb : Nat} {ab bb : Nat} {x0 x1 x2 x3 x4 y0 y1 y2 y3 y4 : Value} {w x y : World}
theorem oq_step (h : OQ nb no xb ab bb x0 x1 x2 x3 x4 y0 y1 y2 y3 y4 w x) (hb : Below x.heap.size x y) : OQ nb no xb ab bb x0 x1 x2 x3 x4 y0 y1 y2 y3 y4 w y :=
  ⟨cell_keep hb h.1, cell_keep hb h.2.1, cell_keep hb h.2.2.1, cell_keep hb h.2.2.2.1, cell_keep hb h.2.2.2.2.1, cell_keep hb h.2.2.2.2.2.1, cell_keep hb h.2.2.2.2.2.2.1, cell_keep hb h.2.2.2.2.2.2.2.1, cell_keep hb h.2.2.2.2.2.2.2.2.1, cell_keep hb h.2.2.2.2.2.2.2.2.2.1, cell_keep hb h.2.2.2.2.2.2.2.2.2.2.1, bel_step h.2.2.2.2.2.2.2.2.2.2.2.1 hb, fun o => (hb.frozen (p := ⟨ab, o, none⟩) (show ab < x.heap.size from cell_lt h.2.1)).trans (h.2.2.2.2.2.2.2.2.2.2.2.2.1 o), fun o => (hb.frozen (p := ⟨bb, o, none⟩) (show bb < x.heap.size from cell_lt h.2.2.2.2.2.2.1)).trans (h.2.2.2.2.2.2.2.2.2.2.2.2.2 o)⟩
theorem oq_ro (h : OQ nb no xb ab bb x0 x1 x2 x3 x4 y0 y1 y2 y3 y4 w x) : x.cell? ⟨nb, no, none⟩ = some (.int .u8 xb) := h.1
theorem oq_r1 (h : OQ nb no xb ab bb x0 x1 x2 x3 x4 y0 y1 y2 y3 y4 w x) : x.cell? ⟨nb, no, none⟩ = some (.int .u8 xb) ∧ x.cell? ⟨ab, 0, none⟩ = some (x0) ∧ x.cell? ⟨ab, 1, none⟩ = some (x1) ∧ x.cell? ⟨ab, 2, none⟩ = some (x2) ∧ x.cell? ⟨ab, 3, none⟩ = some (x3) ∧ x.cell? ⟨ab, 4, none⟩ = some (x4) := ⟨h.1, h.2.1, h.2.2.1, h.2.2.2.1, h.2.2.2.2.1, h.2.2.2.2.2.1⟩
theorem oq_all (h : OQ nb no xb ab bb x0 x1 x2 x3 x4 y0 y1 y2 y3 y4 w x) : x.cell? ⟨nb, no, none⟩ = some (.int .u8 xb) ∧ x.cell? ⟨ab, 0, none⟩ = some (x0) ∧ x.cell? ⟨ab, 1, none⟩ = some (x1) ∧ x.cell? ⟨ab, 2, none⟩ = some (x2) ∧ x.cell? ⟨ab, 3, none⟩ = some (x3) ∧ x.cell? ⟨ab, 4, none⟩ = some (x4) ∧ x.cell? ⟨bb, 0, none⟩ = some (y0) ∧ x.cell? ⟨bb, 1, none⟩ = some (y1) ∧ x.cell? ⟨bb, 2, none⟩ = some (y2) ∧ x.cell? ⟨bb, 3, none⟩ = some (y3) ∧ x.cell? ⟨bb, 4, none⟩ = some (y4) := ⟨h.1, h.2.1, h.2.2.1, h.2.2.2.1, h.2.2.2.2.1, h.2.2.2.2.2.1, h.2.2.2.2.2.2.1, h.2.2.2.2.2.2.2.1, h.2.2.2.2.2.2.2.2.1, h.2.2.2.2.2.2.2.2.2.1, h.2.2.2.2.2.2.2.2.2.2.1⟩
theorem oq_drew (h : OQ nb no xb ab bb x0 x1 x2 x3 x4 y0 y1 y2 y3 y4 w x) : OQ nb no xb ab bb x0 x1 x2 x3 x4 y0 y1 y2 y3 y4 w x.drew := oq_step h (Below.drew (Below.refl _ _))
theorem oq_set1 (hlt_nb : nb < w.heap.size) (h1 : w.heap.size ≤ ab) (h2 : w.heap.size ≤ bb) (h3 : ab ≠ bb) (h : OQ nb no xb ab bb x0 x1 x2 x3 x4 y0 y1 y2 y3 y4 w x) (u0 u1 u2 u3 u4 : Value) : OQ nb no xb ab bb u0 u1 u2 u3 u4 y0 y1 y2 y3 y4 w (set5 x (ab) 0 u0 u1 u2 u3 u4) := by
  have e : ∀ c i, c ≠ ab → (set5 x (ab) 0 u0 u1 u2 u3 u4).cell? ⟨c, i, none⟩ = x.cell? ⟨c, i, none⟩ := fun c i hc => World.cell?_of_block (set5_other hc)
  have hs := set5_same (g := ab) (o := 0) u0 u1 u2 u3 u4 h.2.1 h.2.2.1 h.2.2.2.1 h.2.2.2.2.1 h.2.2.2.2.2.1
  unfold OQ at h ⊢
  obtain ⟨g0, g1, g2, g3, g4, g5, g6, g7, g8, g9, g10, g11, g12, g13⟩ := h
  refine ⟨(e _ _ (by omega)).trans g0, hs.1, hs.2.1, hs.2.2.1, hs.2.2.2.1, hs.2.2.2.2, (e _ _ (by omega)).trans g6, (e _ _ (by omega)).trans g7, (e _ _ (by omega)).trans g8, (e _ _ (by omega)).trans g9, (e _ _ (by omega)).trans g10, set5_below g11 (by omega) _ _ _ _ _, fun o => ?_, fun o => ?_⟩
  all_goals (unfold set5; simp only [World.frozen?_setCell]; first | exact g12 o | exact g13 o)
theorem oq_set2 (hlt_nb : nb < w.heap.size) (h1 : w.heap.size ≤ ab) (h2 : w.heap.size ≤ bb) (h3 : ab ≠ bb) (h : OQ nb no xb ab bb x0 x1 x2 x3 x4 y0 y1 y2 y3 y4 w x) (u0 u1 u2 u3 u4 : Value) : OQ nb no xb ab bb x0 x1 x2 x3 x4 u0 u1 u2 u3 u4 w (set5 x (bb) 0 u0 u1 u2 u3 u4) := by
  have e : ∀ c i, c ≠ bb → (set5 x (bb) 0 u0 u1 u2 u3 u4).cell? ⟨c, i, none⟩ = x.cell? ⟨c, i, none⟩ := fun c i hc => World.cell?_of_block (set5_other hc)
  have hs := set5_same (g := bb) (o := 0) u0 u1 u2 u3 u4 h.2.2.2.2.2.2.1 h.2.2.2.2.2.2.2.1 h.2.2.2.2.2.2.2.2.1 h.2.2.2.2.2.2.2.2.2.1 h.2.2.2.2.2.2.2.2.2.2.1
  unfold OQ at h ⊢
  obtain ⟨g0, g1, g2, g3, g4, g5, g6, g7, g8, g9, g10, g11, g12, g13⟩ := h
  refine ⟨(e _ _ (by omega)).trans g0, (e _ _ (by omega)).trans g1, (e _ _ (by omega)).trans g2, (e _ _ (by omega)).trans g3, (e _ _ (by omega)).trans g4, (e _ _ (by omega)).trans g5, hs.1, hs.2.1, hs.2.2.1, hs.2.2.2.1, hs.2.2.2.2, set5_below g11 (by omega) _ _ _ _ _, fun o => ?_, fun o => ?_⟩
  all_goals (unfold set5; simp only [World.frozen?_setCell]; first | exact g12 o | exact g13 o)
end
theorem bw_of {nb no xb ab bb : Nat} {w z : World} {qa : Option Addr} {ma da : Nat} {qb : Option Addr} {mb db : Nat} (h : OQ nb no xb ab bb (.int .i64 4) (.int .i64 0) (.float .f64 0) (.string ⟨#[]⟩) (.slice qa ma da) (.int .i64 4) (.int .i64 0) (.float .f64 0) (.string ⟨#[]⟩) (.slice qb mb db) w z) : BW w ab bb qa ma da qb mb db z :=
  ⟨⟨h.2.1, h.2.2.1, h.2.2.2.1, h.2.2.2.2.1, h.2.2.2.2.2.1⟩, ⟨h.2.2.2.2.2.2.1, h.2.2.2.2.2.2.2.1, h.2.2.2.2.2.2.2.2.1, h.2.2.2.2.2.2.2.2.2.1, h.2.2.2.2.2.2.2.2.2.2.1⟩, h.2.2.2.2.2.2.2.2.2.2.2.1, h.2.2.2.2.2.2.2.2.2.2.2.2.1, h.2.2.2.2.2.2.2.2.2.2.2.2.2⟩
theorem oq_of {nb no xb ab bb : Nat} {w z : World} {qa : Option Addr} {ma da : Nat} {qb : Option Addr} {mb db : Nat} (hc : z.cell? ⟨nb, no, none⟩ = some (.int .u8 xb)) (h : BW w ab bb qa ma da qb mb db z) : OQ nb no xb ab bb (.int .i64 4) (.int .i64 0) (.float .f64 0) (.string ⟨#[]⟩) (.slice qa ma da) (.int .i64 4) (.int .i64 0) (.float .f64 0) (.string ⟨#[]⟩) (.slice qb mb db) w z :=
  ⟨hc, h.1.1, h.1.2.1, h.1.2.2.1, h.1.2.2.2.1, h.1.2.2.2.2, h.2.1.1, h.2.1.2.1, h.2.1.2.2.1, h.2.1.2.2.2.1, h.2.1.2.2.2.2, h.2.2.1, h.2.2.2.1, h.2.2.2.2⟩
set_option maxRecDepth 100000 in
set_option maxHeartbeats 4000000 in
theorem order_any (p : Option Addr) (l c : Nat) (X : List Int) (tn : Nat) (w : World) (h : RdB w p l c X) (hB : By X) (ht : tn < 256) :
    Calls Try.prog 5 #[.slice p l c, .int .u8 tn] w fun e w' => e = .returned (.bool true) ∧ Below w.heap.size w w' := by
  have hlen : X.length = l := h.1
  have hcc : c ≤ 9223372036854775807 := by have := h.2.2.1; unfold maxLen at this; omega
  have hlc := h.2.1
  have HX := Lib.hid h
  have HBY := Lib.hid hB
  have HLEN := Lib.hid hlen
  have hl0 : (0 : Int) ≤ (l : Int) := by omega
  clear h hB hlen
  by_cases hbig : 30 < l
  · have hb : (30 : Int) < (l : Int) := by omega
    go_enter Try.func5, Try.ntmps5
    go_wp2_with (go_at_call 8; refine (known10 _).mono ?_; rintro e w1 ⟨rfl, hb1⟩)
    go_ret
    exact ⟨rfl, hb1⟩
  have hs : ¬ (30 : Int) < (l : Int) := by omega
  obtain ⟨g, hg⟩ : ∃ g : Nat → Nat, ∀ i (h : i < X.length), X[i] = ((X.getD i 0).toNat : Int) ∧ (X.getD i 0).toNat < 256 ∧ g i = (X.getD i 0).toNat % 26 := ⟨fun i => (X.getD i 0).toNat % 26, fun i h => by
    have hb := HBY.out X[i] (List.getElem_mem h)
    have e : X.getD i 0 = X[i] := by rw [List.getD_eq_getElem?_getD, List.getElem?_eq_getElem h]; rfl
    refine ⟨by rw [e]; omega, by rw [e]; omega, rfl⟩⟩
  have HG := Lib.hid hg
  have hl30 : l ≤ 30 := by omega
  clear hg hbig
  go_enter Try.func5, Try.ntmps5
  go_wp2_with (first
    | (go_at_call 8; refine (known10 _).mono ?_; rintro e w1 ⟨rfl, hb1⟩; have HB1 := Lib.hid hb1; clear hb1)
    | (go_at_call 18; refine (list_ref_any _ _ _ _).mono ?_; rintro e w2 ⟨rfl, hb2⟩; have HB2 := Lib.hid (bel_step (by first | exact HB2.out | exact HB1.out) hb2); clear hb2))
  have HS := Lib.hid (show BW w w2.heap.size (w2.heap.size + 1) none 0 0 none 0 0 ((w2.alloc (.cells #[.int .i64 4, .int .i64 0, .float .f64 0, .string ⟨#[]⟩, .slice none 0 0] 27)).alloc (.cells #[.int .i64 4, .int .i64 0, .float .f64 0, .string ⟨#[]⟩, .slice none 0 0] 27)) from ⟨cs_alloc (cs_new rfl) _, cs_new (World.size_alloc _ _).symm, bel_alloc (bel_alloc HB2.out _) _, fun o => row_frz (row_alloc_step (row_alloc w2 #[.int .i64 4, .int .i64 0, .float .f64 0, .string ⟨#[]⟩, .slice none 0 0] 27) _) o, fun o => by have h := row_alloc (w2.alloc (.cells #[.int .i64 4, .int .i64 0, .float .f64 0, .string ⟨#[]⟩, .slice none 0 0] 27)) #[.int .i64 4, .int .i64 0, .float .f64 0, .string ⟨#[]⟩, .slice none 0 0] 27; rw [World.size_alloc] at h; exact row_frz h o⟩)
  have h1 : w.heap.size ≤ w2.heap.size := HB2.out.size
  have h2 : w.heap.size ≤ w2.heap.size + 1 := by omega
  have h3 : w2.heap.size ≠ w2.heap.size + 1 := by omega
  clear HB2 HB1
  revert HS h1 h2 h3
  generalize (w2.alloc (.cells #[.int .i64 4, .int .i64 0, .float .f64 0, .string ⟨#[]⟩, .slice none 0 0] 27)).alloc (.cells #[.int .i64 4, .int .i64 0, .float .f64 0, .string ⟨#[]⟩, .slice none 0 0] 27) = W
  generalize w2.heap.size + 1 = bb
  generalize w2.heap.size = ab
  intro HS h1 h2 h3
  go_loopw [7] (fun iv wr => ∃ (i : Nat) (qa : Option Addr) (ma da : Nat) (qb : Option Addr) (mb db : Nat), i ≤ l ∧ iv = .int .i64 i ∧ BW w ab bb qa ma da qb mb db wr ∧ RepS (fun b => ab < b ∧ bb < b) wr 3 (.agg #[.int .i64 4, .int .i64 0, .float .f64 0, .string ⟨#[]⟩, .slice qa ma da]) (tableT 0 (setE 26 fO (metN g i))) ∧ RepS (fun b => ab < b ∧ bb < b) wr 3 (.agg #[.int .i64 4, .int .i64 0, .float .f64 0, .string ⟨#[]⟩, .slice qb mb db]) (tableT 0 (setE 26 fO (metN (fun t => g ((t + tn) % l)) i)))) (fun iv _ => l - (intOf iv).toNat)
  case atStart => exact ⟨0, none, 0, 0, none, 0, 0, by omega, rfl, HS.out, by rw [setE_none]; exact repS_nil3 _ _, by rw [setE_none]; exact repS_nil3 _ _⟩
  case round =>
    obtain ⟨i, qa, ma, da, qb, mb, db, hil, rfl, hbw, hra, hrb⟩ := hrel
    have HBWI := Lib.hid hbw
    have HRAa := Lib.hid hra
    have HRBa := Lib.hid hrb
    clear hbw hra hrb HS
    by_cases hlt : i < l
    · obtain ⟨nb, no, hpb, hit⟩ := HX.out.2.2.2.1 (by omega)
      subst hpb
      have hix : i < X.length := by have := HLEN.out; omega
      have hkl : (i + tn) % l < l := Nat.mod_lt _ (by omega)
      have hkx : (i + tn) % l < X.length := by have := HLEN.out; omega
      obtain ⟨hx1, hx2, hx3⟩ := HG.out i hix
      obtain ⟨hy1, hy2, hy3⟩ := HG.out _ hkx
      have c1 := hit i hix
      have c2 := hit _ hkx
      rw [hx1] at c1
      rw [hy1] at c2
      have HGI := Lib.hid hx3
      have HGK := Lib.hid hy3
      obtain ⟨x, hx⟩ : ∃ x, (X.getD i 0).toNat = x := ⟨_, rfl⟩
      obtain ⟨y, hy⟩ : ∃ y, (X.getD ((i + tn) % l) 0).toNat = y := ⟨_, rfl⟩
      rw [hx] at hx2 c1 HGI
      rw [hy] at hy2 c2 HGK
      obtain ⟨kk, hkk⟩ : ∃ kk, (i + tn) % l = kk := ⟨_, rfl⟩
      rw [hkk] at hkl c2 HGK
      have hnb := cell_lt c1
      have hnb' : nb < w.heap.size := hnb
      have hi0 : (0 : Int) ≤ (i : Int) := by omega
      have hil2 : (i : Int) < (l : Int) := by omega
      have hk0 : (0 : Int) ≤ (kk : Int) := by omega
      have hkl2 : (kk : Int) < (l : Int) := by omega
      have hmod : ((i : Int) + (tn : Int)).tmod (l : Int) = (kk : Int) := by rw [← hkk]; exact (Int.ofNat_tmod (i + tn) l).symm
      have htn0 : (0 : Int) ≤ (tn : Int) := by omega
      have htn1 : (tn : Int) < 256 := by omega
      have hi30 : (i : Int) < 30 := by omega
      have HPa := Lib.hid (show OQ nb (no + i) x ab bb (.int .i64 4) (.int .i64 0) (.float .f64 0) (.string ⟨#[]⟩) (.slice qa ma da) (.int .i64 4) (.int .i64 0) (.float .f64 0) (.string ⟨#[]⟩) (.slice qb mb db) w wr from oq_of (cell_keep HBWI.out.2.2.1 c1) HBWI.out)
      have HC2 := Lib.hid c2
      have hlne : (l : Int) ≠ 0 := by omega
      obtain ⟨cx, hcx⟩ : ∃ cx, x % 26 = cx := ⟨_, rfl⟩
      obtain ⟨cy, hcy⟩ : ∃ cy, y % 26 = cy := ⟨_, rfl⟩
      rw [hcx] at HGI
      rw [hcy] at HGK
      have HGK2 := Lib.hid (show (fun t => g ((t + tn) % l)) i = cy by show g ((i + tn) % l) = cy; rw [hkk]; exact HGK.out)
      have hcx2 : cx < 26 := by omega
      obtain ⟨bx, hbx⟩ : ∃ bx, UInt8.ofNat (97 + cx) = bx := ⟨_, rfl⟩
      obtain ⟨by', hby⟩ : ∃ bx, UInt8.ofNat (97 + cy) = bx := ⟨_, rfl⟩
      have hcy2 : cy < 26 := by omega
      have HBX := Lib.hid (show (bx.toNat : Int) = 97 + (cx : Int) ∧ ({ data := #[110] } : ByteArray) ++ { data := #[bx] } = nmO cx from ⟨by rw [← hbx]; exact ofN97 hcx2, by rw [← hbx]; exact nmO_cat cx⟩)
      have HBY2 := Lib.hid (show (by'.toNat : Int) = 97 + (cy : Int) ∧ ({ data := #[110] } : ByteArray) ++ { data := #[by'] } = nmO cy from ⟨by rw [← hby]; exact ofN97 hcy2, by rw [← hby]; exact nmO_cat cy⟩)
      have hrx : (x : Int).tmod 26 = (cx : Int) := by rw [← hcx]; exact (Int.ofNat_tmod x 26).symm
      have hry : (y : Int).tmod 26 = (cy : Int) := by rw [← hcy]; exact (Int.ofNat_tmod y 26).symm
      have hwx : IntKind.u8.wrap (97 + (cx : Int)) = 97 + (cx : Int) := by rw [IntKind.wrap_u8]; omega
      have hwy : IntKind.u8.wrap (97 + (cy : Int)) = 97 + (cy : Int) := by rw [IntKind.wrap_u8]; omega
      have hvx : IntKind.u8.wrap (cx : Int) = (cx : Int) := by rw [IntKind.wrap_u8]; omega
      have hvy : IntKind.u8.wrap (cy : Int) = (cy : Int) := by rw [IntKind.wrap_u8]; omega
      have hzx : IntKind.i64.wrap (cx : Int) = (cx : Int) := by rw [IntKind.wrap_i64]; omega
      have hzy : IntKind.i64.wrap (cy : Int) = (cy : Int) := by rw [IntKind.wrap_i64]; omega
      clear c1 c2 hit hx hy hkk HX HBWI hx1 hx3 hy1 hy3 hix hkx hcx hcy hbx hby
      go_upto_region 11 with fail
      go_cut [9] (fun s9 wx => s9 = .int .i64 0 ∧ ∃ qt mt dt, BW w ab bb qt mt dt qb mb db wx ∧ RepS (fun b => ab < b ∧ bb < b) wx 3 (.agg #[.int .i64 4, .int .i64 0, .float .f64 0, .string ⟨#[]⟩, .slice qt mt dt]) (tableT 0 (setE 26 fO (metN g (i + 1)))) ∧ RepS (fun b => ab < b ∧ bb < b) wx 3 (.agg #[.int .i64 4, .int .i64 0, .float .f64 0, .string ⟨#[]⟩, .slice qb mb db]) (tableT 0 (setE 26 fO (metN (fun t => g ((t + tn) % l)) i))))
      case first =>
        refine wp_region_held_drew (S := (fun z => z.cell? ⟨nb, no + i, none⟩ = some (.int .u8 x))) (by kernel_rfl) ?_ (fun hHeld => ?_)
        · exact oq_ro (oq_drew HPa.out)
        have HDW := Lib.hid (show OQ nb (no + i) x ab bb (.int .i64 4) (.int .i64 0) (.float .f64 0) (.string ⟨#[]⟩) (.slice qa ma da) (.int .i64 4) (.int .i64 0) (.float .f64 0) (.string ⟨#[]⟩) (.slice qb mb db) w wr.drew ∧ RepS (fun b => ab < b ∧ bb < b) wr.drew 3 (.agg #[.int .i64 4, .int .i64 0, .float .f64 0, .string ⟨#[]⟩, .slice qa ma da]) (tableT 0 (setE 26 fO (metN g i))) ∧ RepS (fun b => ab < b ∧ bb < b) wr.drew 3 (.agg #[.int .i64 4, .int .i64 0, .float .f64 0, .string ⟨#[]⟩, .slice qb mb db]) (tableT 0 (setE 26 fO (metN (fun t => g ((t + tn) % l)) i))) from ⟨oq_drew HPa.out, repS_step (Below.drew (Below.refl _ _)) HRAa.out, repS_step (Below.drew (Below.refl _ _)) HRBa.out⟩)
        revert HDW hHeld
        generalize wr.drew = Wda
        intro hHeld HDW
        have hq0 := HDW.out.1
        have hbd0 := Below.refl Wda.heap.size Wda
        refine wpAnyH_take (i := 1) (oi := ?_) (v := ?_) ?hia1 (by kernel_rfl) ?hfa1 ?hra1 ?hQa1 ?hya1 (by assumption) ?resta1
        case hia1 => (simp only [List.getElem?_toArray, List.getElem?_cons_zero, List.getElem?_cons_succ]; rfl)
        case hfa1 => kernel_rfl
        case hra1 => kernel_rfl
        case hya1 => (refine Or.inl ⟨by rfl, ?_⟩; intro wS hSw; (try dsimp only at hSw); go_simp; (try with_reducible rfl))
        case hQa1 => exact fun _ _ _ h => h
        (try simp only [Act.put, List.setIfInBounds_toArray, List.set_cons_zero, List.set_cons_succ])
        refine wpAnyH_take (i := 2) (oi := ?_) (v := ?_) ?hia2 (by kernel_rfl) ?hfa2 ?hra2 ?hQa2 ?hya2 (by assumption) ?resta2
        case hia2 => (simp only [List.getElem?_toArray, List.getElem?_cons_zero, List.getElem?_cons_succ]; rfl)
        case hfa2 => kernel_rfl
        case hra2 => kernel_rfl
        case hya2 => (refine Or.inl ⟨by rfl, ?_⟩; intro wS hSw; (try dsimp only at hSw); go_simp; (try with_reducible rfl))
        case hQa2 => exact fun _ _ _ h => h
        (try simp only [Act.put, List.setIfInBounds_toArray, List.set_cons_zero, List.set_cons_succ])
        refine wpAnyH_take (i := 3) (oi := ?_) (v := ?_) ?hia3 (by kernel_rfl) ?hfa3 ?hra3 ?hQa3 ?hya3 (by assumption) ?resta3
        case hia3 => (simp only [List.getElem?_toArray, List.getElem?_cons_zero, List.getElem?_cons_succ]; rfl)
        case hfa3 => kernel_rfl
        case hra3 => kernel_rfl
        case hya3 => (refine Or.inl ⟨by rfl, ?_⟩; intro wS hSw; (try dsimp only at hSw); go_simp; (try with_reducible rfl))
        case hQa3 => exact fun _ _ _ h => h
        (try simp only [Act.put, List.setIfInBounds_toArray, List.set_cons_zero, List.set_cons_succ])
        refine wpAnyH_take (i := 4) (oi := ?_) (v := ?_) ?hia4 (by kernel_rfl) ?hfa4 ?hra4 ?hQa4 ?hya4 (by assumption) ?resta4
        case hia4 => (simp only [List.getElem?_toArray, List.getElem?_cons_zero, List.getElem?_cons_succ]; rfl)
        case hfa4 => kernel_rfl
        case hra4 => kernel_rfl
        case hya4 => (refine Or.inl ⟨by rfl, ?_⟩; intro wS hSw; (try dsimp only at hSw); go_simp; (try with_reducible rfl))
        case hQa4 => exact fun _ _ _ h => h
        (try simp only [Act.put, List.setIfInBounds_toArray, List.set_cons_zero, List.set_cons_succ])
        refine wpAnyH_take (i := 5) (oi := ?_) (v := ?_) ?hia5 (by kernel_rfl) ?hfa5 ?hra5 ?hQa5 ?hya5 (by assumption) ?resta5
        case hia5 => (simp only [List.getElem?_toArray, List.getElem?_cons_zero, List.getElem?_cons_succ]; rfl)
        case hfa5 => kernel_rfl
        case hra5 => kernel_rfl
        case hya5 => (refine Or.inl ⟨by rfl, ?_⟩; intro wS hSw; (try dsimp only at hSw); go_simp; (try with_reducible rfl))
        case hQa5 => exact fun _ _ _ h => h
        (try simp only [Act.put, List.setIfInBounds_toArray, List.set_cons_zero, List.set_cons_succ])
        refine wpAnyH_take (i := 6) (oi := ?_) (v := ?_) ?hia6 (by kernel_rfl) ?hfa6 ?hra6 ?hQa6 ?hya6 (by assumption) ?resta6
        case hia6 => (simp only [List.getElem?_toArray, List.getElem?_cons_zero, List.getElem?_cons_succ]; rfl)
        case hfa6 => kernel_rfl
        case hra6 => kernel_rfl
        case hya6 => (refine Or.inl ⟨by rfl, ?_⟩; intro wS hSw; (try dsimp only at hSw); go_simp; (try with_reducible rfl))
        case hQa6 => exact fun _ _ _ h => h
        (try simp only [Act.put, List.setIfInBounds_toArray, List.set_cons_zero, List.set_cons_succ])
        refine wpAnyH_take (i := 11) (oi := ?_) (v := ?_) ?hia11 (by kernel_rfl) ?hfa11 ?hra11 ?hQa11 ?hya11 (by assumption) ?resta11
        case hia11 => (simp only [List.getElem?_toArray, List.getElem?_cons_zero, List.getElem?_cons_succ]; rfl)
        case hfa11 => kernel_rfl
        case hra11 => kernel_rfl
        case hya11 => (refine Or.inl ⟨by rfl, ?_⟩; intro wS hSw; (try dsimp only at hSw); go_simp; (try with_reducible rfl))
        case hQa11 => exact fun _ _ _ h => h
        (try simp only [Act.put, List.setIfInBounds_toArray, List.set_cons_zero, List.set_cons_succ])
        refine wpAnyH_take (i := 12) (oi := ?_) (v := ?_) ?hia12 (by kernel_rfl) ?hfa12 ?hra12 ?hQa12 ?hya12 (by assumption) ?resta12
        case hia12 => (simp only [List.getElem?_toArray, List.getElem?_cons_zero, List.getElem?_cons_succ]; rfl)
        case hfa12 => kernel_rfl
        case hra12 => kernel_rfl
        case hya12 => (refine Or.inl ⟨by rfl, ?_⟩; intro wS hSw; (try dsimp only at hSw); go_simp; (try with_reducible rfl))
        case hQa12 => exact fun _ _ _ h => h
        (try simp only [Act.put, List.setIfInBounds_toArray, List.set_cons_zero, List.set_cons_succ])
        refine wpAnyH_take (i := 13) (oi := ?_) (v := ?_) ?hia13 (by kernel_rfl) ?hfa13 ?hra13 ?hQa13 ?hya13 (by assumption) ?resta13
        case hia13 => (simp only [List.getElem?_toArray, List.getElem?_cons_zero, List.getElem?_cons_succ]; rfl)
        case hfa13 => kernel_rfl
        case hra13 => kernel_rfl
        case hya13 => (refine Or.inl ⟨by rfl, ?_⟩; intro wS hSw; (try dsimp only at hSw); go_simp; (try with_reducible rfl))
        case hQa13 => exact fun _ _ _ h => h
        (try simp only [Act.put, List.setIfInBounds_toArray, List.set_cons_zero, List.set_cons_succ])
        refine wpAnyH_take (i := 14) (oi := ?_) (v := ?_) ?hia14 (by kernel_rfl) ?hfa14 ?hra14 ?hQa14 ?hya14 (by assumption) ?resta14
        case hia14 => (simp only [List.getElem?_toArray, List.getElem?_cons_zero, List.getElem?_cons_succ]; rfl)
        case hfa14 => kernel_rfl
        case hra14 => kernel_rfl
        case hya14 => (refine Or.inl ⟨by rfl, ?_⟩; intro wS hSw; (try dsimp only at hSw); go_simp; (try with_reducible rfl))
        case hQa14 => exact fun _ _ _ h => h
        (try simp only [Act.put, List.setIfInBounds_toArray, List.set_cons_zero, List.set_cons_succ])
        refine wpAnyH_take (i := 15) (oi := ?_) (v := ?_) ?hia15 (by kernel_rfl) ?hfa15 ?hra15 ?hQa15 ?hya15 (by assumption) ?resta15
        case hia15 => (simp only [List.getElem?_toArray, List.getElem?_cons_zero, List.getElem?_cons_succ]; rfl)
        case hfa15 => kernel_rfl
        case hra15 => kernel_rfl
        case hya15 => (refine Or.inl ⟨by rfl, ?_⟩; intro wS hSw; (try dsimp only at hSw); go_simp; (try with_reducible rfl))
        case hQa15 => exact fun _ _ _ h => h
        (try simp only [Act.put, List.setIfInBounds_toArray, List.set_cons_zero, List.set_cons_succ])
        refine wpAnyH_take (i := 16) (oi := ?_) (v := ?_) ?hia16 (by kernel_rfl) ?hfa16 ?hra16 ?hQa16 ?hya16 (by assumption) ?resta16
        case hia16 => (simp only [List.getElem?_toArray, List.getElem?_cons_zero, List.getElem?_cons_succ]; rfl)
        case hfa16 => kernel_rfl
        case hra16 => kernel_rfl
        case hya16 => (refine Or.inl ⟨by rfl, ?_⟩; intro wS hSw; (try dsimp only at hSw); go_simp; (try with_reducible rfl))
        case hQa16 => exact fun _ _ _ h => h
        (try simp only [Act.put, List.setIfInBounds_toArray, List.set_cons_zero, List.set_cons_succ])
        refine wpAnyH_ready (rs := [0, 7]) (by kernel_rfl) (by simp) ?_
        refine AllReadyH.cons (o := ?_) ?hoL7a ?hstL7a (AllReadyH.cons (o := ?_) ?hoX7a ?hstX7a AllReadyH.nil)
        case hoL7a => (simp only [List.getElem?_toArray, List.getElem?_cons_zero, List.getElem?_cons_succ]; rfl)
        case hoX7a => (simp only [List.getElem?_toArray, List.getElem?_cons_zero, List.getElem?_cons_succ]; rfl)
        case hstL7a =>
          intro K hK
          have xx0 := hq0.2.1; have xx1 := hq0.2.2.1; have xx2 := hq0.2.2.2.1; have xx3 := hq0.2.2.2.2.1; have xx4 := hq0.2.2.2.2.2.1; have xl := cell_lt xx0; go_simp
          clear xx0 xx1 xx2 xx3 xx4 xl
          go_wp2_with fail
          refine hK.out _ _ ?hsL7a (fun hHeld => ?_)
          case hsL7a => exact oq_ro hq0
          clear hK K
          (try simp only [Act.put, List.setIfInBounds_toArray, List.set_cons_zero, List.set_cons_succ])
          refine wpAnyH_ready (rs := [7]) (by kernel_rfl) (by simp) ?_
          refine AllReadyH.cons (o := ?_) ?ho7al7 ?hst7al7 AllReadyH.nil
          case ho7al7 => (simp only [List.getElem?_toArray, List.getElem?_cons_zero, List.getElem?_cons_succ]; rfl)
          intro K hK
          go_simp
          have hq1 := oq_step hq0 (bel_alloc (Below.refl _ _) (.cells #[.int .u8 (97 + (cx : Int))] 5)); have hbd1 := bel_alloc hbd0 (.cells #[.int .u8 (97 + (cx : Int))] 5); have hrow := row_alloc Wda #[.int .u8 (97 + (cx : Int))] 5; clear hq0 hbd0
          go_wp2_with fail
          refine hK.out _ _ ?hs7al7 (fun hHeld => ?_)
          case hs7al7 => exact oq_ro hq1
          clear hK K
          (try simp only [Act.put, List.setIfInBounds_toArray, List.set_cons_zero, List.set_cons_succ])
          refine wpAnyH_ready (rs := [8]) (by kernel_rfl) (by simp) ?_
          refine AllReadyH.cons (o := ?_) ?ho8al7 ?hst8al7 AllReadyH.nil
          case ho8al7 => (simp only [List.getElem?_toArray, List.getElem?_cons_zero, List.getElem?_cons_succ]; rfl)
          intro K hK
          have hcv := conv1 (cap := 1) (b := bx) HBX.out.1 hrow; go_simp
          clear hcv hrow
          go_wp2_with fail
          refine hK.out _ _ ?hs8al7 (fun hHeld => ?_)
          case hs8al7 => exact oq_ro hq1
          clear hK K
          (try simp only [Act.put, List.setIfInBounds_toArray, List.set_cons_zero, List.set_cons_succ])
          refine wpAnyH_take (i := 9) (oi := ?_) (v := ?_) ?hial79 (by kernel_rfl) ?hfal79 ?hral79 ?hQal79 ?hyal79 (by assumption) ?restal79
          case hial79 => (simp only [List.getElem?_toArray, List.getElem?_cons_zero, List.getElem?_cons_succ]; rfl)
          case hfal79 => kernel_rfl
          case hral79 => kernel_rfl
          case hyal79 => (refine Or.inl ⟨by rfl, ?_⟩; intro wS hSw; (try dsimp only at hSw); go_simp; (try with_reducible rfl))
          case hQal79 => exact fun _ _ _ h => h
          (try simp only [Act.put, List.setIfInBounds_toArray, List.set_cons_zero, List.set_cons_succ])
          refine wpAnyH_ready (rs := [10]) (by kernel_rfl) (by simp) ?_
          refine AllReadyH.cons (o := ?_) ?ho10al7 ?hst10al7 AllReadyH.nil
          case ho10al7 => (simp only [List.getElem?_toArray, List.getElem?_cons_zero, List.getElem?_cons_succ]; rfl)
          intro K hK
          go_simp
          go_at_call 19; refine (text_ref_any _ _).mono ?_; rintro e w5 ⟨rfl, hb5⟩; have hq2 := oq_step hq1 hb5; have hbd2 := bel_step hbd1 hb5; clear hb5 hq1 hbd1
          go_wp2_with fail
          refine hK.out _ _ ?hs10al7 (fun hHeld => ?_)
          case hs10al7 => exact oq_ro hq2
          clear hK K
          (try simp only [Act.put, List.setIfInBounds_toArray, List.set_cons_zero, List.set_cons_succ])
          refine wpAnyH_ready (rs := [17]) (by kernel_rfl) (by simp) ?_
          refine AllReadyH.cons (o := ?_) ?ho17al7 ?hst17al7 AllReadyH.nil
          case ho17al7 => (simp only [List.getElem?_toArray, List.getElem?_cons_zero, List.getElem?_cons_succ]; rfl)
          intro K hK
          go_simp
          go_at_call 20; refine (int_ref_any _ _).mono ?_; rintro e w6 ⟨rfl, hb6⟩; have hq3 := oq_step hq2 hb6; have hbd3 := bel_step hbd2 hb6; clear hb6 hq2 hbd2
          go_wp2_with fail
          refine hK.out _ _ ?hs17al7 (fun hHeld => ?_)
          case hs17al7 => exact oq_ro hq3
          clear hK K
          (try simp only [Act.put, List.setIfInBounds_toArray, List.set_cons_zero, List.set_cons_succ])
          refine wpAnyH_ready (rs := [18]) (by kernel_rfl) (by simp) ?_
          refine AllReadyH.cons (o := ?_) ?ho18al7 ?hst18al7 AllReadyH.nil
          case ho18al7 => (simp only [List.getElem?_toArray, List.getElem?_cons_zero, List.getElem?_cons_succ]; rfl)
          intro K hK
          go_simp
          have hlv : LV w6.heap.size (nmO cx) 1 cx 0 ⟨#[]⟩ (w6.alloc (.cells #[.int .i64 3, .int .i64 0, .float .f64 0, .string ({ data := #[110] } ++ { data := #[bx] }), .slice none 0 0, .int .i64 1, .int .i64 cx, .float .f64 0, .string ⟨#[]⟩, .slice none 0 0] 27)) := (by rw [HBX.out.2]; exact lv_new rfl (by decide : 2 ≤ maxLen) (by decide) (by unfold okI; omega) (by decide) (by decide)); have hq4 := oq_step hq3 (bel_alloc (Below.refl _ _) (.cells #[.int .i64 3, .int .i64 0, .float .f64 0, .string ({ data := #[110] } ++ { data := #[bx] }), .slice none 0 0, .int .i64 1, .int .i64 cx, .float .f64 0, .string ⟨#[]⟩, .slice none 0 0] 27)); have hbd4 := bel_alloc hbd3 (.cells #[.int .i64 3, .int .i64 0, .float .f64 0, .string ({ data := #[110] } ++ { data := #[bx] }), .slice none 0 0, .int .i64 1, .int .i64 cx, .float .f64 0, .string ⟨#[]⟩, .slice none 0 0] 27); clear hq3 hbd3
          go_wp2_with fail
          refine hK.out _ _ ?hs18al7 (fun hHeld => ?_)
          case hs18al7 => exact oq_ro hq4
          clear hK K
          (try simp only [Act.put, List.setIfInBounds_toArray, List.set_cons_zero, List.set_cons_succ])
          refine wpAnyH_ready (rs := [19]) (by kernel_rfl) (by simp) ?_
          refine AllReadyH.cons (o := ?_) ?hoDal7 ?hstDal7 AllReadyH.nil
          case hoDal7 => (simp only [List.getElem?_toArray, List.getElem?_cons_zero, List.getElem?_cons_succ]; rfl)
          intro K hK
          go_simp
          have hput := put_fam fam_O (metN g i) cx hcx2 (repS_rep _ _ _ (repS_step hbd4 HDW.out.2.1)) hlv; go_at_call 12; refine hput.mono ?_; rintro e w8 ⟨tt, vv, rfl, hb8, ht, hv⟩; obtain ⟨Ks, Is, Fs, Ss, qt, mt, dt, rfl, _⟩ := repS_shape ht; obtain ⟨rfl, rfl, rfl, rfl⟩ := rep_tab5 (repS_rep _ _ _ ht); obtain ⟨Kv, Iv, Fv, Zv, qv, mv, dv, rfl, _⟩ := repS_shape hv; have hq5 := oq_step hq4 hb8; have hbd5 := bel_step hbd4 hb8; have HTT := Lib.hid ht; have hsz4 := hbd4.size; clear hb8 ht hv hq4 hput hlv hbd4
          go_wp2_with fail
          refine hK.out _ _ ?hsDal7 (fun hHeld => ?_)
          case hsDal7 => exact oq_ro hq5
          clear hK K
          (try simp only [Act.put, List.setIfInBounds_toArray, List.set_cons_zero, List.set_cons_succ])
          refine wpAnyH_take (i := 20) (oi := ?_) (v := ?_) ?hial720 (by kernel_rfl) ?hfal720 ?hral720 ?hQal720 ?hyal720 (by assumption) ?restal720
          case hial720 => (simp only [List.getElem?_toArray, List.getElem?_cons_zero, List.getElem?_cons_succ]; rfl)
          case hfal720 => kernel_rfl
          case hral720 => kernel_rfl
          case hyal720 => (refine Or.inl ⟨by rfl, ?_⟩; intro wS hSw; (try dsimp only at hSw); go_simp; (try with_reducible rfl))
          case hQal720 => exact fun _ _ _ h => h
          (try simp only [Act.put, List.setIfInBounds_toArray, List.set_cons_zero, List.set_cons_succ])
          refine wpAnyH_take (i := 21) (oi := ?_) (v := ?_) ?hial721 (by kernel_rfl) ?hfal721 ?hral721 ?hQal721 ?hyal721 (by assumption) ?restal721
          case hial721 => (simp only [List.getElem?_toArray, List.getElem?_cons_zero, List.getElem?_cons_succ]; rfl)
          case hfal721 => kernel_rfl
          case hral721 => kernel_rfl
          case hyal721 => (refine Or.inl ⟨by rfl, ?_⟩; intro wS hSw; (try dsimp only at hSw); go_simp; (try with_reducible rfl))
          case hQal721 => exact fun _ _ _ h => h
          (try simp only [Act.put, List.setIfInBounds_toArray, List.set_cons_zero, List.set_cons_succ])
          refine wpAnyH_take (i := 22) (oi := ?_) (v := ?_) ?hial722 (by kernel_rfl) ?hfal722 ?hral722 ?hQal722 ?hyal722 (by assumption) ?restal722
          case hial722 => (simp only [List.getElem?_toArray, List.getElem?_cons_zero, List.getElem?_cons_succ]; rfl)
          case hfal722 => kernel_rfl
          case hral722 => kernel_rfl
          case hyal722 => (refine Or.inl ⟨by rfl, ?_⟩; intro wS hSw; (try dsimp only at hSw); go_simp; (try with_reducible rfl))
          case hQal722 => exact fun _ _ _ h => h
          (try simp only [Act.put, List.setIfInBounds_toArray, List.set_cons_zero, List.set_cons_succ])
          refine wpAnyH_take (i := 23) (oi := ?_) (v := ?_) ?hial723 (by kernel_rfl) ?hfal723 ?hral723 ?hQal723 ?hyal723 (by assumption) ?restal723
          case hial723 => (simp only [List.getElem?_toArray, List.getElem?_cons_zero, List.getElem?_cons_succ]; rfl)
          case hfal723 => kernel_rfl
          case hral723 => kernel_rfl
          case hyal723 => (refine Or.inl ⟨by rfl, ?_⟩; intro wS hSw; (try dsimp only at hSw); go_simp; (try with_reducible rfl))
          case hQal723 => exact fun _ _ _ h => h
          (try simp only [Act.put, List.setIfInBounds_toArray, List.set_cons_zero, List.set_cons_succ])
          refine wpAnyH_ready (rs := [24]) (by kernel_rfl) (by simp) ?_
          refine AllReadyH.cons (o := ?_) ?hoSal7 ?hstSal7 AllReadyH.nil
          case hoSal7 => (simp only [List.getElem?_toArray, List.getElem?_cons_zero, List.getElem?_cons_succ]; rfl)
          intro K hK
          have b30 := hq5.2.1; have b31 := hq5.2.2.1; have b32 := hq5.2.2.2.1; have b33 := hq5.2.2.2.2.1; have b34 := hq5.2.2.2.2.2.1; have b3f := hq5.2.2.2.2.2.2.2.2.2.2.2.2.1; have b3l := cell_lt b30; go_simp
          have hq6 := oq_set1 hnb' h1 h2 h3 hq5 (.int .i64 4) (.int .i64 0) (.float .f64 0) (.string ⟨#[]⟩) (.slice qt mt dt)
          go_wp2_with fail
          refine hK.out _ _ ?hsSal7 (fun hHeld => ?_)
          case hsSal7 => exact oq_ro hq6
          clear hK K
          (try simp only [Act.put, List.setIfInBounds_toArray, List.set_cons_zero, List.set_cons_succ])
          refine wpAnyH_take (i := 25) (oi := ?_) (v := ?_) ?hial725 (by kernel_rfl) ?hfal725 ?hral725 ?hQal725 ?hyal725 (by assumption) ?restal725
          case hial725 => (simp only [List.getElem?_toArray, List.getElem?_cons_zero, List.getElem?_cons_succ]; rfl)
          case hfal725 => kernel_rfl
          case hral725 => kernel_rfl
          case hyal725 => (refine Or.inl ⟨by rfl, ?_⟩; intro wS hSw; (try dsimp only at hSw); go_simp; (try with_reducible rfl))
          case hQal725 => exact fun _ _ _ h => h
          (try simp only [Act.put, List.setIfInBounds_toArray, List.set_cons_zero, List.set_cons_succ])
          refine wpAnyH_done (by kernel_rfl) ?_ _
          have hab1 : ab < Wda.heap.size := cell_lt HDW.out.1.2.1
          have hab2 : bb < Wda.heap.size := cell_lt HDW.out.1.2.2.2.2.2.2.1
          have hmet : (fun c => metN g i c || c == cx) = metN g (i + 1) := by rw [← HGI.out]; exact metN_succ g i
          rw [hmet] at HTT
          have HGF := Lib.hid (show BW w ab bb qt mt dt qb mb db (((((w8.setCell ⟨ab, 0, none⟩ (.int .i64 4)).setCell ⟨ab, 1, none⟩ (.int .i64 0)).setCell ⟨ab, 2, none⟩ (.float .f64 0)).setCell ⟨ab, 3, none⟩ (.string ⟨#[]⟩)).setCell ⟨ab, 4, none⟩ (.slice qt mt dt)) ∧ RepS (fun b => ab < b ∧ bb < b) (((((w8.setCell ⟨ab, 0, none⟩ (.int .i64 4)).setCell ⟨ab, 1, none⟩ (.int .i64 0)).setCell ⟨ab, 2, none⟩ (.float .f64 0)).setCell ⟨ab, 3, none⟩ (.string ⟨#[]⟩)).setCell ⟨ab, 4, none⟩ (.slice qt mt dt)) 3 (.agg #[.int .i64 4, .int .i64 0, .float .f64 0, .string ⟨#[]⟩, .slice qt mt dt]) (tableT 0 (setE 26 fO (metN g (i + 1)))) ∧ RepS (fun b => ab < b ∧ bb < b) (((((w8.setCell ⟨ab, 0, none⟩ (.int .i64 4)).setCell ⟨ab, 1, none⟩ (.int .i64 0)).setCell ⟨ab, 2, none⟩ (.float .f64 0)).setCell ⟨ab, 3, none⟩ (.string ⟨#[]⟩)).setCell ⟨ab, 4, none⟩ (.slice qt mt dt)) 3 (.agg #[.int .i64 4, .int .i64 0, .float .f64 0, .string ⟨#[]⟩, .slice qb mb db]) (tableT 0 (setE 26 fO (metN (fun t => g ((t + tn) % l)) i))) from ⟨bw_of hq6, repS_set (repS_mono (fun b (hb : _ ≤ b) => ⟨by omega, by omega⟩) _ _ _ HTT.out) (fun b hb => by have h := hb.1; have h2 := hb.2; omega), repS_set (repS_step hbd5 HDW.out.2.2) (fun b hb => by have h := hb.1; have h2 := hb.2; omega)⟩)
          clear hq6 hq5 hbd5 HTT hsz4 HDW hHeld HPa HRAa HRBa hab1 hab2 hmet b30 b31 b32 b33 b34 b3f b3l
          revert HGF
          generalize (((((w8.setCell ⟨ab, 0, none⟩ (.int .i64 4)).setCell ⟨ab, 1, none⟩ (.int .i64 0)).setCell ⟨ab, 2, none⟩ (.float .f64 0)).setCell ⟨ab, 3, none⟩ (.string ⟨#[]⟩)).setCell ⟨ab, 4, none⟩ (.slice qt mt dt)) = Wg
          intro HGF
          go_wp2_with fail
          go_meet
          exact ⟨rfl, qt, mt, dt, HGF.out⟩
        case hstX7a =>
          intro K hK
          go_simp
          have hq1 := oq_step hq0 (bel_alloc (Below.refl _ _) (.cells #[.int .u8 (97 + (cx : Int))] 5)); have hbd1 := bel_alloc hbd0 (.cells #[.int .u8 (97 + (cx : Int))] 5); have hrow := row_alloc Wda #[.int .u8 (97 + (cx : Int))] 5; clear hq0 hbd0
          go_wp2_with fail
          refine hK.out _ _ ?hsX7a (fun hHeld => ?_)
          case hsX7a => exact oq_ro hq1
          clear hK K
          (try simp only [Act.put, List.setIfInBounds_toArray, List.set_cons_zero, List.set_cons_succ])
          refine wpAnyH_ready (rs := [0, 8]) (by kernel_rfl) (by simp) ?_
          refine AllReadyH.cons (o := ?_) ?hoL8a ?hstL8a (AllReadyH.cons (o := ?_) ?hoX8a ?hstX8a AllReadyH.nil)
          case hoL8a => (simp only [List.getElem?_toArray, List.getElem?_cons_zero, List.getElem?_cons_succ]; rfl)
          case hoX8a => (simp only [List.getElem?_toArray, List.getElem?_cons_zero, List.getElem?_cons_succ]; rfl)
          case hstL8a =>
            intro K hK
            have xx0 := hq1.2.1; have xx1 := hq1.2.2.1; have xx2 := hq1.2.2.2.1; have xx3 := hq1.2.2.2.2.1; have xx4 := hq1.2.2.2.2.2.1; have xl := cell_lt xx0; go_simp
            clear xx0 xx1 xx2 xx3 xx4 xl
            go_wp2_with fail
            refine hK.out _ _ ?hsL8a (fun hHeld => ?_)
            case hsL8a => exact oq_ro hq1
            clear hK K
            (try simp only [Act.put, List.setIfInBounds_toArray, List.set_cons_zero, List.set_cons_succ])
            refine wpAnyH_ready (rs := [8]) (by kernel_rfl) (by simp) ?_
            refine AllReadyH.cons (o := ?_) ?ho8al8 ?hst8al8 AllReadyH.nil
            case ho8al8 => (simp only [List.getElem?_toArray, List.getElem?_cons_zero, List.getElem?_cons_succ]; rfl)
            intro K hK
            have hcv := conv1 (cap := 1) (b := bx) HBX.out.1 hrow; go_simp
            clear hcv hrow
            go_wp2_with fail
            refine hK.out _ _ ?hs8al8 (fun hHeld => ?_)
            case hs8al8 => exact oq_ro hq1
            clear hK K
            (try simp only [Act.put, List.setIfInBounds_toArray, List.set_cons_zero, List.set_cons_succ])
            refine wpAnyH_take (i := 9) (oi := ?_) (v := ?_) ?hial89 (by kernel_rfl) ?hfal89 ?hral89 ?hQal89 ?hyal89 (by assumption) ?restal89
            case hial89 => (simp only [List.getElem?_toArray, List.getElem?_cons_zero, List.getElem?_cons_succ]; rfl)
            case hfal89 => kernel_rfl
            case hral89 => kernel_rfl
            case hyal89 => (refine Or.inl ⟨by rfl, ?_⟩; intro wS hSw; (try dsimp only at hSw); go_simp; (try with_reducible rfl))
            case hQal89 => exact fun _ _ _ h => h
            (try simp only [Act.put, List.setIfInBounds_toArray, List.set_cons_zero, List.set_cons_succ])
            refine wpAnyH_ready (rs := [10]) (by kernel_rfl) (by simp) ?_
            refine AllReadyH.cons (o := ?_) ?ho10al8 ?hst10al8 AllReadyH.nil
            case ho10al8 => (simp only [List.getElem?_toArray, List.getElem?_cons_zero, List.getElem?_cons_succ]; rfl)
            intro K hK
            go_simp
            go_at_call 19; refine (text_ref_any _ _).mono ?_; rintro e w5 ⟨rfl, hb5⟩; have hq2 := oq_step hq1 hb5; have hbd2 := bel_step hbd1 hb5; clear hb5 hq1 hbd1
            go_wp2_with fail
            refine hK.out _ _ ?hs10al8 (fun hHeld => ?_)
            case hs10al8 => exact oq_ro hq2
            clear hK K
            (try simp only [Act.put, List.setIfInBounds_toArray, List.set_cons_zero, List.set_cons_succ])
            refine wpAnyH_ready (rs := [17]) (by kernel_rfl) (by simp) ?_
            refine AllReadyH.cons (o := ?_) ?ho17al8 ?hst17al8 AllReadyH.nil
            case ho17al8 => (simp only [List.getElem?_toArray, List.getElem?_cons_zero, List.getElem?_cons_succ]; rfl)
            intro K hK
            go_simp
            go_at_call 20; refine (int_ref_any _ _).mono ?_; rintro e w6 ⟨rfl, hb6⟩; have hq3 := oq_step hq2 hb6; have hbd3 := bel_step hbd2 hb6; clear hb6 hq2 hbd2
            go_wp2_with fail
            refine hK.out _ _ ?hs17al8 (fun hHeld => ?_)
            case hs17al8 => exact oq_ro hq3
            clear hK K
            (try simp only [Act.put, List.setIfInBounds_toArray, List.set_cons_zero, List.set_cons_succ])
            refine wpAnyH_ready (rs := [18]) (by kernel_rfl) (by simp) ?_
            refine AllReadyH.cons (o := ?_) ?ho18al8 ?hst18al8 AllReadyH.nil
            case ho18al8 => (simp only [List.getElem?_toArray, List.getElem?_cons_zero, List.getElem?_cons_succ]; rfl)
            intro K hK
            go_simp
            have hlv : LV w6.heap.size (nmO cx) 1 cx 0 ⟨#[]⟩ (w6.alloc (.cells #[.int .i64 3, .int .i64 0, .float .f64 0, .string ({ data := #[110] } ++ { data := #[bx] }), .slice none 0 0, .int .i64 1, .int .i64 cx, .float .f64 0, .string ⟨#[]⟩, .slice none 0 0] 27)) := (by rw [HBX.out.2]; exact lv_new rfl (by decide : 2 ≤ maxLen) (by decide) (by unfold okI; omega) (by decide) (by decide)); have hq4 := oq_step hq3 (bel_alloc (Below.refl _ _) (.cells #[.int .i64 3, .int .i64 0, .float .f64 0, .string ({ data := #[110] } ++ { data := #[bx] }), .slice none 0 0, .int .i64 1, .int .i64 cx, .float .f64 0, .string ⟨#[]⟩, .slice none 0 0] 27)); have hbd4 := bel_alloc hbd3 (.cells #[.int .i64 3, .int .i64 0, .float .f64 0, .string ({ data := #[110] } ++ { data := #[bx] }), .slice none 0 0, .int .i64 1, .int .i64 cx, .float .f64 0, .string ⟨#[]⟩, .slice none 0 0] 27); clear hq3 hbd3
            go_wp2_with fail
            refine hK.out _ _ ?hs18al8 (fun hHeld => ?_)
            case hs18al8 => exact oq_ro hq4
            clear hK K
            (try simp only [Act.put, List.setIfInBounds_toArray, List.set_cons_zero, List.set_cons_succ])
            refine wpAnyH_ready (rs := [19]) (by kernel_rfl) (by simp) ?_
            refine AllReadyH.cons (o := ?_) ?hoDal8 ?hstDal8 AllReadyH.nil
            case hoDal8 => (simp only [List.getElem?_toArray, List.getElem?_cons_zero, List.getElem?_cons_succ]; rfl)
            intro K hK
            go_simp
            have hput := put_fam fam_O (metN g i) cx hcx2 (repS_rep _ _ _ (repS_step hbd4 HDW.out.2.1)) hlv; go_at_call 12; refine hput.mono ?_; rintro e w8 ⟨tt, vv, rfl, hb8, ht, hv⟩; obtain ⟨Ks, Is, Fs, Ss, qt, mt, dt, rfl, _⟩ := repS_shape ht; obtain ⟨rfl, rfl, rfl, rfl⟩ := rep_tab5 (repS_rep _ _ _ ht); obtain ⟨Kv, Iv, Fv, Zv, qv, mv, dv, rfl, _⟩ := repS_shape hv; have hq5 := oq_step hq4 hb8; have hbd5 := bel_step hbd4 hb8; have HTT := Lib.hid ht; have hsz4 := hbd4.size; clear hb8 ht hv hq4 hput hlv hbd4
            go_wp2_with fail
            refine hK.out _ _ ?hsDal8 (fun hHeld => ?_)
            case hsDal8 => exact oq_ro hq5
            clear hK K
            (try simp only [Act.put, List.setIfInBounds_toArray, List.set_cons_zero, List.set_cons_succ])
            refine wpAnyH_take (i := 20) (oi := ?_) (v := ?_) ?hial820 (by kernel_rfl) ?hfal820 ?hral820 ?hQal820 ?hyal820 (by assumption) ?restal820
            case hial820 => (simp only [List.getElem?_toArray, List.getElem?_cons_zero, List.getElem?_cons_succ]; rfl)
            case hfal820 => kernel_rfl
            case hral820 => kernel_rfl
            case hyal820 => (refine Or.inl ⟨by rfl, ?_⟩; intro wS hSw; (try dsimp only at hSw); go_simp; (try with_reducible rfl))
            case hQal820 => exact fun _ _ _ h => h
            (try simp only [Act.put, List.setIfInBounds_toArray, List.set_cons_zero, List.set_cons_succ])
            refine wpAnyH_take (i := 21) (oi := ?_) (v := ?_) ?hial821 (by kernel_rfl) ?hfal821 ?hral821 ?hQal821 ?hyal821 (by assumption) ?restal821
            case hial821 => (simp only [List.getElem?_toArray, List.getElem?_cons_zero, List.getElem?_cons_succ]; rfl)
            case hfal821 => kernel_rfl
            case hral821 => kernel_rfl
            case hyal821 => (refine Or.inl ⟨by rfl, ?_⟩; intro wS hSw; (try dsimp only at hSw); go_simp; (try with_reducible rfl))
            case hQal821 => exact fun _ _ _ h => h
            (try simp only [Act.put, List.setIfInBounds_toArray, List.set_cons_zero, List.set_cons_succ])
            refine wpAnyH_take (i := 22) (oi := ?_) (v := ?_) ?hial822 (by kernel_rfl) ?hfal822 ?hral822 ?hQal822 ?hyal822 (by assumption) ?restal822
            case hial822 => (simp only [List.getElem?_toArray, List.getElem?_cons_zero, List.getElem?_cons_succ]; rfl)
            case hfal822 => kernel_rfl
            case hral822 => kernel_rfl
            case hyal822 => (refine Or.inl ⟨by rfl, ?_⟩; intro wS hSw; (try dsimp only at hSw); go_simp; (try with_reducible rfl))
            case hQal822 => exact fun _ _ _ h => h
            (try simp only [Act.put, List.setIfInBounds_toArray, List.set_cons_zero, List.set_cons_succ])
            refine wpAnyH_take (i := 23) (oi := ?_) (v := ?_) ?hial823 (by kernel_rfl) ?hfal823 ?hral823 ?hQal823 ?hyal823 (by assumption) ?restal823
            case hial823 => (simp only [List.getElem?_toArray, List.getElem?_cons_zero, List.getElem?_cons_succ]; rfl)
            case hfal823 => kernel_rfl
            case hral823 => kernel_rfl
            case hyal823 => (refine Or.inl ⟨by rfl, ?_⟩; intro wS hSw; (try dsimp only at hSw); go_simp; (try with_reducible rfl))
            case hQal823 => exact fun _ _ _ h => h
            (try simp only [Act.put, List.setIfInBounds_toArray, List.set_cons_zero, List.set_cons_succ])
            refine wpAnyH_ready (rs := [24]) (by kernel_rfl) (by simp) ?_
            refine AllReadyH.cons (o := ?_) ?hoSal8 ?hstSal8 AllReadyH.nil
            case hoSal8 => (simp only [List.getElem?_toArray, List.getElem?_cons_zero, List.getElem?_cons_succ]; rfl)
            intro K hK
            have b30 := hq5.2.1; have b31 := hq5.2.2.1; have b32 := hq5.2.2.2.1; have b33 := hq5.2.2.2.2.1; have b34 := hq5.2.2.2.2.2.1; have b3f := hq5.2.2.2.2.2.2.2.2.2.2.2.2.1; have b3l := cell_lt b30; go_simp
            have hq6 := oq_set1 hnb' h1 h2 h3 hq5 (.int .i64 4) (.int .i64 0) (.float .f64 0) (.string ⟨#[]⟩) (.slice qt mt dt)
            go_wp2_with fail
            refine hK.out _ _ ?hsSal8 (fun hHeld => ?_)
            case hsSal8 => exact oq_ro hq6
            clear hK K
            (try simp only [Act.put, List.setIfInBounds_toArray, List.set_cons_zero, List.set_cons_succ])
            refine wpAnyH_take (i := 25) (oi := ?_) (v := ?_) ?hial825 (by kernel_rfl) ?hfal825 ?hral825 ?hQal825 ?hyal825 (by assumption) ?restal825
            case hial825 => (simp only [List.getElem?_toArray, List.getElem?_cons_zero, List.getElem?_cons_succ]; rfl)
            case hfal825 => kernel_rfl
            case hral825 => kernel_rfl
            case hyal825 => (refine Or.inl ⟨by rfl, ?_⟩; intro wS hSw; (try dsimp only at hSw); go_simp; (try with_reducible rfl))
            case hQal825 => exact fun _ _ _ h => h
            (try simp only [Act.put, List.setIfInBounds_toArray, List.set_cons_zero, List.set_cons_succ])
            refine wpAnyH_done (by kernel_rfl) ?_ _
            have hab1 : ab < Wda.heap.size := cell_lt HDW.out.1.2.1
            have hab2 : bb < Wda.heap.size := cell_lt HDW.out.1.2.2.2.2.2.2.1
            have hmet : (fun c => metN g i c || c == cx) = metN g (i + 1) := by rw [← HGI.out]; exact metN_succ g i
            rw [hmet] at HTT
            have HGF := Lib.hid (show BW w ab bb qt mt dt qb mb db (((((w8.setCell ⟨ab, 0, none⟩ (.int .i64 4)).setCell ⟨ab, 1, none⟩ (.int .i64 0)).setCell ⟨ab, 2, none⟩ (.float .f64 0)).setCell ⟨ab, 3, none⟩ (.string ⟨#[]⟩)).setCell ⟨ab, 4, none⟩ (.slice qt mt dt)) ∧ RepS (fun b => ab < b ∧ bb < b) (((((w8.setCell ⟨ab, 0, none⟩ (.int .i64 4)).setCell ⟨ab, 1, none⟩ (.int .i64 0)).setCell ⟨ab, 2, none⟩ (.float .f64 0)).setCell ⟨ab, 3, none⟩ (.string ⟨#[]⟩)).setCell ⟨ab, 4, none⟩ (.slice qt mt dt)) 3 (.agg #[.int .i64 4, .int .i64 0, .float .f64 0, .string ⟨#[]⟩, .slice qt mt dt]) (tableT 0 (setE 26 fO (metN g (i + 1)))) ∧ RepS (fun b => ab < b ∧ bb < b) (((((w8.setCell ⟨ab, 0, none⟩ (.int .i64 4)).setCell ⟨ab, 1, none⟩ (.int .i64 0)).setCell ⟨ab, 2, none⟩ (.float .f64 0)).setCell ⟨ab, 3, none⟩ (.string ⟨#[]⟩)).setCell ⟨ab, 4, none⟩ (.slice qt mt dt)) 3 (.agg #[.int .i64 4, .int .i64 0, .float .f64 0, .string ⟨#[]⟩, .slice qb mb db]) (tableT 0 (setE 26 fO (metN (fun t => g ((t + tn) % l)) i))) from ⟨bw_of hq6, repS_set (repS_mono (fun b (hb : _ ≤ b) => ⟨by omega, by omega⟩) _ _ _ HTT.out) (fun b hb => by have h := hb.1; have h2 := hb.2; omega), repS_set (repS_step hbd5 HDW.out.2.2) (fun b hb => by have h := hb.1; have h2 := hb.2; omega)⟩)
            clear hq6 hq5 hbd5 HTT hsz4 HDW hHeld HPa HRAa HRBa hab1 hab2 hmet b30 b31 b32 b33 b34 b3f b3l
            revert HGF
            generalize (((((w8.setCell ⟨ab, 0, none⟩ (.int .i64 4)).setCell ⟨ab, 1, none⟩ (.int .i64 0)).setCell ⟨ab, 2, none⟩ (.float .f64 0)).setCell ⟨ab, 3, none⟩ (.string ⟨#[]⟩)).setCell ⟨ab, 4, none⟩ (.slice qt mt dt)) = Wg
            intro HGF
            go_wp2_with fail
            go_meet
            exact ⟨rfl, qt, mt, dt, HGF.out⟩
          case hstX8a =>
            intro K hK
            have hcv := conv1 (cap := 1) (b := bx) HBX.out.1 hrow; go_simp
            clear hcv hrow
            go_wp2_with fail
            refine hK.out _ _ ?hsX8a (fun hHeld => ?_)
            case hsX8a => exact oq_ro hq1
            clear hK K
            (try simp only [Act.put, List.setIfInBounds_toArray, List.set_cons_zero, List.set_cons_succ])
            refine wpAnyH_take (i := 9) (oi := ?_) (v := ?_) ?hia9 (by kernel_rfl) ?hfa9 ?hra9 ?hQa9 ?hya9 (by assumption) ?resta9
            case hia9 => (simp only [List.getElem?_toArray, List.getElem?_cons_zero, List.getElem?_cons_succ]; rfl)
            case hfa9 => kernel_rfl
            case hra9 => kernel_rfl
            case hya9 => (refine Or.inl ⟨by rfl, ?_⟩; intro wS hSw; (try dsimp only at hSw); go_simp; (try with_reducible rfl))
            case hQa9 => exact fun _ _ _ h => h
            (try simp only [Act.put, List.setIfInBounds_toArray, List.set_cons_zero, List.set_cons_succ])
            refine wpAnyH_ready (rs := [0, 10]) (by kernel_rfl) (by simp) ?_
            refine AllReadyH.cons (o := ?_) ?hoL10a ?hstL10a (AllReadyH.cons (o := ?_) ?hoX10a ?hstX10a AllReadyH.nil)
            case hoL10a => (simp only [List.getElem?_toArray, List.getElem?_cons_zero, List.getElem?_cons_succ]; rfl)
            case hoX10a => (simp only [List.getElem?_toArray, List.getElem?_cons_zero, List.getElem?_cons_succ]; rfl)
            case hstL10a =>
              intro K hK
              have xx0 := hq1.2.1; have xx1 := hq1.2.2.1; have xx2 := hq1.2.2.2.1; have xx3 := hq1.2.2.2.2.1; have xx4 := hq1.2.2.2.2.2.1; have xl := cell_lt xx0; go_simp
              clear xx0 xx1 xx2 xx3 xx4 xl
              go_wp2_with fail
              refine hK.out _ _ ?hsL10a (fun hHeld => ?_)
              case hsL10a => exact oq_ro hq1
              clear hK K
              (try simp only [Act.put, List.setIfInBounds_toArray, List.set_cons_zero, List.set_cons_succ])
              refine wpAnyH_ready (rs := [10]) (by kernel_rfl) (by simp) ?_
              refine AllReadyH.cons (o := ?_) ?ho10al10 ?hst10al10 AllReadyH.nil
              case ho10al10 => (simp only [List.getElem?_toArray, List.getElem?_cons_zero, List.getElem?_cons_succ]; rfl)
              intro K hK
              go_simp
              go_at_call 19; refine (text_ref_any _ _).mono ?_; rintro e w5 ⟨rfl, hb5⟩; have hq2 := oq_step hq1 hb5; have hbd2 := bel_step hbd1 hb5; clear hb5 hq1 hbd1
              go_wp2_with fail
              refine hK.out _ _ ?hs10al10 (fun hHeld => ?_)
              case hs10al10 => exact oq_ro hq2
              clear hK K
              (try simp only [Act.put, List.setIfInBounds_toArray, List.set_cons_zero, List.set_cons_succ])
              refine wpAnyH_ready (rs := [17]) (by kernel_rfl) (by simp) ?_
              refine AllReadyH.cons (o := ?_) ?ho17al10 ?hst17al10 AllReadyH.nil
              case ho17al10 => (simp only [List.getElem?_toArray, List.getElem?_cons_zero, List.getElem?_cons_succ]; rfl)
              intro K hK
              go_simp
              go_at_call 20; refine (int_ref_any _ _).mono ?_; rintro e w6 ⟨rfl, hb6⟩; have hq3 := oq_step hq2 hb6; have hbd3 := bel_step hbd2 hb6; clear hb6 hq2 hbd2
              go_wp2_with fail
              refine hK.out _ _ ?hs17al10 (fun hHeld => ?_)
              case hs17al10 => exact oq_ro hq3
              clear hK K
              (try simp only [Act.put, List.setIfInBounds_toArray, List.set_cons_zero, List.set_cons_succ])
              refine wpAnyH_ready (rs := [18]) (by kernel_rfl) (by simp) ?_
              refine AllReadyH.cons (o := ?_) ?ho18al10 ?hst18al10 AllReadyH.nil
              case ho18al10 => (simp only [List.getElem?_toArray, List.getElem?_cons_zero, List.getElem?_cons_succ]; rfl)
              intro K hK
              go_simp
              have hlv : LV w6.heap.size (nmO cx) 1 cx 0 ⟨#[]⟩ (w6.alloc (.cells #[.int .i64 3, .int .i64 0, .float .f64 0, .string ({ data := #[110] } ++ { data := #[bx] }), .slice none 0 0, .int .i64 1, .int .i64 cx, .float .f64 0, .string ⟨#[]⟩, .slice none 0 0] 27)) := (by rw [HBX.out.2]; exact lv_new rfl (by decide : 2 ≤ maxLen) (by decide) (by unfold okI; omega) (by decide) (by decide)); have hq4 := oq_step hq3 (bel_alloc (Below.refl _ _) (.cells #[.int .i64 3, .int .i64 0, .float .f64 0, .string ({ data := #[110] } ++ { data := #[bx] }), .slice none 0 0, .int .i64 1, .int .i64 cx, .float .f64 0, .string ⟨#[]⟩, .slice none 0 0] 27)); have hbd4 := bel_alloc hbd3 (.cells #[.int .i64 3, .int .i64 0, .float .f64 0, .string ({ data := #[110] } ++ { data := #[bx] }), .slice none 0 0, .int .i64 1, .int .i64 cx, .float .f64 0, .string ⟨#[]⟩, .slice none 0 0] 27); clear hq3 hbd3
              go_wp2_with fail
              refine hK.out _ _ ?hs18al10 (fun hHeld => ?_)
              case hs18al10 => exact oq_ro hq4
              clear hK K
              (try simp only [Act.put, List.setIfInBounds_toArray, List.set_cons_zero, List.set_cons_succ])
              refine wpAnyH_ready (rs := [19]) (by kernel_rfl) (by simp) ?_
              refine AllReadyH.cons (o := ?_) ?hoDal10 ?hstDal10 AllReadyH.nil
              case hoDal10 => (simp only [List.getElem?_toArray, List.getElem?_cons_zero, List.getElem?_cons_succ]; rfl)
              intro K hK
              go_simp
              have hput := put_fam fam_O (metN g i) cx hcx2 (repS_rep _ _ _ (repS_step hbd4 HDW.out.2.1)) hlv; go_at_call 12; refine hput.mono ?_; rintro e w8 ⟨tt, vv, rfl, hb8, ht, hv⟩; obtain ⟨Ks, Is, Fs, Ss, qt, mt, dt, rfl, _⟩ := repS_shape ht; obtain ⟨rfl, rfl, rfl, rfl⟩ := rep_tab5 (repS_rep _ _ _ ht); obtain ⟨Kv, Iv, Fv, Zv, qv, mv, dv, rfl, _⟩ := repS_shape hv; have hq5 := oq_step hq4 hb8; have hbd5 := bel_step hbd4 hb8; have HTT := Lib.hid ht; have hsz4 := hbd4.size; clear hb8 ht hv hq4 hput hlv hbd4
              go_wp2_with fail
              refine hK.out _ _ ?hsDal10 (fun hHeld => ?_)
              case hsDal10 => exact oq_ro hq5
              clear hK K
              (try simp only [Act.put, List.setIfInBounds_toArray, List.set_cons_zero, List.set_cons_succ])
              refine wpAnyH_take (i := 20) (oi := ?_) (v := ?_) ?hial1020 (by kernel_rfl) ?hfal1020 ?hral1020 ?hQal1020 ?hyal1020 (by assumption) ?restal1020
              case hial1020 => (simp only [List.getElem?_toArray, List.getElem?_cons_zero, List.getElem?_cons_succ]; rfl)
              case hfal1020 => kernel_rfl
              case hral1020 => kernel_rfl
              case hyal1020 => (refine Or.inl ⟨by rfl, ?_⟩; intro wS hSw; (try dsimp only at hSw); go_simp; (try with_reducible rfl))
              case hQal1020 => exact fun _ _ _ h => h
              (try simp only [Act.put, List.setIfInBounds_toArray, List.set_cons_zero, List.set_cons_succ])
              refine wpAnyH_take (i := 21) (oi := ?_) (v := ?_) ?hial1021 (by kernel_rfl) ?hfal1021 ?hral1021 ?hQal1021 ?hyal1021 (by assumption) ?restal1021
              case hial1021 => (simp only [List.getElem?_toArray, List.getElem?_cons_zero, List.getElem?_cons_succ]; rfl)
              case hfal1021 => kernel_rfl
              case hral1021 => kernel_rfl
              case hyal1021 => (refine Or.inl ⟨by rfl, ?_⟩; intro wS hSw; (try dsimp only at hSw); go_simp; (try with_reducible rfl))
              case hQal1021 => exact fun _ _ _ h => h
              (try simp only [Act.put, List.setIfInBounds_toArray, List.set_cons_zero, List.set_cons_succ])
              refine wpAnyH_take (i := 22) (oi := ?_) (v := ?_) ?hial1022 (by kernel_rfl) ?hfal1022 ?hral1022 ?hQal1022 ?hyal1022 (by assumption) ?restal1022
              case hial1022 => (simp only [List.getElem?_toArray, List.getElem?_cons_zero, List.getElem?_cons_succ]; rfl)
              case hfal1022 => kernel_rfl
              case hral1022 => kernel_rfl
              case hyal1022 => (refine Or.inl ⟨by rfl, ?_⟩; intro wS hSw; (try dsimp only at hSw); go_simp; (try with_reducible rfl))
              case hQal1022 => exact fun _ _ _ h => h
              (try simp only [Act.put, List.setIfInBounds_toArray, List.set_cons_zero, List.set_cons_succ])
              refine wpAnyH_take (i := 23) (oi := ?_) (v := ?_) ?hial1023 (by kernel_rfl) ?hfal1023 ?hral1023 ?hQal1023 ?hyal1023 (by assumption) ?restal1023
              case hial1023 => (simp only [List.getElem?_toArray, List.getElem?_cons_zero, List.getElem?_cons_succ]; rfl)
              case hfal1023 => kernel_rfl
              case hral1023 => kernel_rfl
              case hyal1023 => (refine Or.inl ⟨by rfl, ?_⟩; intro wS hSw; (try dsimp only at hSw); go_simp; (try with_reducible rfl))
              case hQal1023 => exact fun _ _ _ h => h
              (try simp only [Act.put, List.setIfInBounds_toArray, List.set_cons_zero, List.set_cons_succ])
              refine wpAnyH_ready (rs := [24]) (by kernel_rfl) (by simp) ?_
              refine AllReadyH.cons (o := ?_) ?hoSal10 ?hstSal10 AllReadyH.nil
              case hoSal10 => (simp only [List.getElem?_toArray, List.getElem?_cons_zero, List.getElem?_cons_succ]; rfl)
              intro K hK
              have b30 := hq5.2.1; have b31 := hq5.2.2.1; have b32 := hq5.2.2.2.1; have b33 := hq5.2.2.2.2.1; have b34 := hq5.2.2.2.2.2.1; have b3f := hq5.2.2.2.2.2.2.2.2.2.2.2.2.1; have b3l := cell_lt b30; go_simp
              have hq6 := oq_set1 hnb' h1 h2 h3 hq5 (.int .i64 4) (.int .i64 0) (.float .f64 0) (.string ⟨#[]⟩) (.slice qt mt dt)
              go_wp2_with fail
              refine hK.out _ _ ?hsSal10 (fun hHeld => ?_)
              case hsSal10 => exact oq_ro hq6
              clear hK K
              (try simp only [Act.put, List.setIfInBounds_toArray, List.set_cons_zero, List.set_cons_succ])
              refine wpAnyH_take (i := 25) (oi := ?_) (v := ?_) ?hial1025 (by kernel_rfl) ?hfal1025 ?hral1025 ?hQal1025 ?hyal1025 (by assumption) ?restal1025
              case hial1025 => (simp only [List.getElem?_toArray, List.getElem?_cons_zero, List.getElem?_cons_succ]; rfl)
              case hfal1025 => kernel_rfl
              case hral1025 => kernel_rfl
              case hyal1025 => (refine Or.inl ⟨by rfl, ?_⟩; intro wS hSw; (try dsimp only at hSw); go_simp; (try with_reducible rfl))
              case hQal1025 => exact fun _ _ _ h => h
              (try simp only [Act.put, List.setIfInBounds_toArray, List.set_cons_zero, List.set_cons_succ])
              refine wpAnyH_done (by kernel_rfl) ?_ _
              have hab1 : ab < Wda.heap.size := cell_lt HDW.out.1.2.1
              have hab2 : bb < Wda.heap.size := cell_lt HDW.out.1.2.2.2.2.2.2.1
              have hmet : (fun c => metN g i c || c == cx) = metN g (i + 1) := by rw [← HGI.out]; exact metN_succ g i
              rw [hmet] at HTT
              have HGF := Lib.hid (show BW w ab bb qt mt dt qb mb db (((((w8.setCell ⟨ab, 0, none⟩ (.int .i64 4)).setCell ⟨ab, 1, none⟩ (.int .i64 0)).setCell ⟨ab, 2, none⟩ (.float .f64 0)).setCell ⟨ab, 3, none⟩ (.string ⟨#[]⟩)).setCell ⟨ab, 4, none⟩ (.slice qt mt dt)) ∧ RepS (fun b => ab < b ∧ bb < b) (((((w8.setCell ⟨ab, 0, none⟩ (.int .i64 4)).setCell ⟨ab, 1, none⟩ (.int .i64 0)).setCell ⟨ab, 2, none⟩ (.float .f64 0)).setCell ⟨ab, 3, none⟩ (.string ⟨#[]⟩)).setCell ⟨ab, 4, none⟩ (.slice qt mt dt)) 3 (.agg #[.int .i64 4, .int .i64 0, .float .f64 0, .string ⟨#[]⟩, .slice qt mt dt]) (tableT 0 (setE 26 fO (metN g (i + 1)))) ∧ RepS (fun b => ab < b ∧ bb < b) (((((w8.setCell ⟨ab, 0, none⟩ (.int .i64 4)).setCell ⟨ab, 1, none⟩ (.int .i64 0)).setCell ⟨ab, 2, none⟩ (.float .f64 0)).setCell ⟨ab, 3, none⟩ (.string ⟨#[]⟩)).setCell ⟨ab, 4, none⟩ (.slice qt mt dt)) 3 (.agg #[.int .i64 4, .int .i64 0, .float .f64 0, .string ⟨#[]⟩, .slice qb mb db]) (tableT 0 (setE 26 fO (metN (fun t => g ((t + tn) % l)) i))) from ⟨bw_of hq6, repS_set (repS_mono (fun b (hb : _ ≤ b) => ⟨by omega, by omega⟩) _ _ _ HTT.out) (fun b hb => by have h := hb.1; have h2 := hb.2; omega), repS_set (repS_step hbd5 HDW.out.2.2) (fun b hb => by have h := hb.1; have h2 := hb.2; omega)⟩)
              clear hq6 hq5 hbd5 HTT hsz4 HDW hHeld HPa HRAa HRBa hab1 hab2 hmet b30 b31 b32 b33 b34 b3f b3l
              revert HGF
              generalize (((((w8.setCell ⟨ab, 0, none⟩ (.int .i64 4)).setCell ⟨ab, 1, none⟩ (.int .i64 0)).setCell ⟨ab, 2, none⟩ (.float .f64 0)).setCell ⟨ab, 3, none⟩ (.string ⟨#[]⟩)).setCell ⟨ab, 4, none⟩ (.slice qt mt dt)) = Wg
              intro HGF
              go_wp2_with fail
              go_meet
              exact ⟨rfl, qt, mt, dt, HGF.out⟩
            case hstX10a =>
              intro K hK
              go_simp
              go_at_call 19; refine (text_ref_any _ _).mono ?_; rintro e w5 ⟨rfl, hb5⟩; have hq2 := oq_step hq1 hb5; have hbd2 := bel_step hbd1 hb5; clear hb5 hq1 hbd1
              go_wp2_with fail
              refine hK.out _ _ ?hsX10a (fun hHeld => ?_)
              case hsX10a => exact oq_ro hq2
              clear hK K
              (try simp only [Act.put, List.setIfInBounds_toArray, List.set_cons_zero, List.set_cons_succ])
              refine wpAnyH_ready (rs := [0, 17]) (by kernel_rfl) (by simp) ?_
              refine AllReadyH.cons (o := ?_) ?hoL17a ?hstL17a (AllReadyH.cons (o := ?_) ?hoX17a ?hstX17a AllReadyH.nil)
              case hoL17a => (simp only [List.getElem?_toArray, List.getElem?_cons_zero, List.getElem?_cons_succ]; rfl)
              case hoX17a => (simp only [List.getElem?_toArray, List.getElem?_cons_zero, List.getElem?_cons_succ]; rfl)
              case hstL17a =>
                intro K hK
                have xx0 := hq2.2.1; have xx1 := hq2.2.2.1; have xx2 := hq2.2.2.2.1; have xx3 := hq2.2.2.2.2.1; have xx4 := hq2.2.2.2.2.2.1; have xl := cell_lt xx0; go_simp
                clear xx0 xx1 xx2 xx3 xx4 xl
                go_wp2_with fail
                refine hK.out _ _ ?hsL17a (fun hHeld => ?_)
                case hsL17a => exact oq_ro hq2
                clear hK K
                (try simp only [Act.put, List.setIfInBounds_toArray, List.set_cons_zero, List.set_cons_succ])
                refine wpAnyH_ready (rs := [17]) (by kernel_rfl) (by simp) ?_
                refine AllReadyH.cons (o := ?_) ?ho17al17 ?hst17al17 AllReadyH.nil
                case ho17al17 => (simp only [List.getElem?_toArray, List.getElem?_cons_zero, List.getElem?_cons_succ]; rfl)
                intro K hK
                go_simp
                go_at_call 20; refine (int_ref_any _ _).mono ?_; rintro e w6 ⟨rfl, hb6⟩; have hq3 := oq_step hq2 hb6; have hbd3 := bel_step hbd2 hb6; clear hb6 hq2 hbd2
                go_wp2_with fail
                refine hK.out _ _ ?hs17al17 (fun hHeld => ?_)
                case hs17al17 => exact oq_ro hq3
                clear hK K
                (try simp only [Act.put, List.setIfInBounds_toArray, List.set_cons_zero, List.set_cons_succ])
                refine wpAnyH_ready (rs := [18]) (by kernel_rfl) (by simp) ?_
                refine AllReadyH.cons (o := ?_) ?ho18al17 ?hst18al17 AllReadyH.nil
                case ho18al17 => (simp only [List.getElem?_toArray, List.getElem?_cons_zero, List.getElem?_cons_succ]; rfl)
                intro K hK
                go_simp
                have hlv : LV w6.heap.size (nmO cx) 1 cx 0 ⟨#[]⟩ (w6.alloc (.cells #[.int .i64 3, .int .i64 0, .float .f64 0, .string ({ data := #[110] } ++ { data := #[bx] }), .slice none 0 0, .int .i64 1, .int .i64 cx, .float .f64 0, .string ⟨#[]⟩, .slice none 0 0] 27)) := (by rw [HBX.out.2]; exact lv_new rfl (by decide : 2 ≤ maxLen) (by decide) (by unfold okI; omega) (by decide) (by decide)); have hq4 := oq_step hq3 (bel_alloc (Below.refl _ _) (.cells #[.int .i64 3, .int .i64 0, .float .f64 0, .string ({ data := #[110] } ++ { data := #[bx] }), .slice none 0 0, .int .i64 1, .int .i64 cx, .float .f64 0, .string ⟨#[]⟩, .slice none 0 0] 27)); have hbd4 := bel_alloc hbd3 (.cells #[.int .i64 3, .int .i64 0, .float .f64 0, .string ({ data := #[110] } ++ { data := #[bx] }), .slice none 0 0, .int .i64 1, .int .i64 cx, .float .f64 0, .string ⟨#[]⟩, .slice none 0 0] 27); clear hq3 hbd3
                go_wp2_with fail
                refine hK.out _ _ ?hs18al17 (fun hHeld => ?_)
                case hs18al17 => exact oq_ro hq4
                clear hK K
                (try simp only [Act.put, List.setIfInBounds_toArray, List.set_cons_zero, List.set_cons_succ])
                refine wpAnyH_ready (rs := [19]) (by kernel_rfl) (by simp) ?_
                refine AllReadyH.cons (o := ?_) ?hoDal17 ?hstDal17 AllReadyH.nil
                case hoDal17 => (simp only [List.getElem?_toArray, List.getElem?_cons_zero, List.getElem?_cons_succ]; rfl)
                intro K hK
                go_simp
                have hput := put_fam fam_O (metN g i) cx hcx2 (repS_rep _ _ _ (repS_step hbd4 HDW.out.2.1)) hlv; go_at_call 12; refine hput.mono ?_; rintro e w8 ⟨tt, vv, rfl, hb8, ht, hv⟩; obtain ⟨Ks, Is, Fs, Ss, qt, mt, dt, rfl, _⟩ := repS_shape ht; obtain ⟨rfl, rfl, rfl, rfl⟩ := rep_tab5 (repS_rep _ _ _ ht); obtain ⟨Kv, Iv, Fv, Zv, qv, mv, dv, rfl, _⟩ := repS_shape hv; have hq5 := oq_step hq4 hb8; have hbd5 := bel_step hbd4 hb8; have HTT := Lib.hid ht; have hsz4 := hbd4.size; clear hb8 ht hv hq4 hput hlv hbd4
                go_wp2_with fail
                refine hK.out _ _ ?hsDal17 (fun hHeld => ?_)
                case hsDal17 => exact oq_ro hq5
                clear hK K
                (try simp only [Act.put, List.setIfInBounds_toArray, List.set_cons_zero, List.set_cons_succ])
                refine wpAnyH_take (i := 20) (oi := ?_) (v := ?_) ?hial1720 (by kernel_rfl) ?hfal1720 ?hral1720 ?hQal1720 ?hyal1720 (by assumption) ?restal1720
                case hial1720 => (simp only [List.getElem?_toArray, List.getElem?_cons_zero, List.getElem?_cons_succ]; rfl)
                case hfal1720 => kernel_rfl
                case hral1720 => kernel_rfl
                case hyal1720 => (refine Or.inl ⟨by rfl, ?_⟩; intro wS hSw; (try dsimp only at hSw); go_simp; (try with_reducible rfl))
                case hQal1720 => exact fun _ _ _ h => h
                (try simp only [Act.put, List.setIfInBounds_toArray, List.set_cons_zero, List.set_cons_succ])
                refine wpAnyH_take (i := 21) (oi := ?_) (v := ?_) ?hial1721 (by kernel_rfl) ?hfal1721 ?hral1721 ?hQal1721 ?hyal1721 (by assumption) ?restal1721
                case hial1721 => (simp only [List.getElem?_toArray, List.getElem?_cons_zero, List.getElem?_cons_succ]; rfl)
                case hfal1721 => kernel_rfl
                case hral1721 => kernel_rfl
                case hyal1721 => (refine Or.inl ⟨by rfl, ?_⟩; intro wS hSw; (try dsimp only at hSw); go_simp; (try with_reducible rfl))
                case hQal1721 => exact fun _ _ _ h => h
                (try simp only [Act.put, List.setIfInBounds_toArray, List.set_cons_zero, List.set_cons_succ])
                refine wpAnyH_take (i := 22) (oi := ?_) (v := ?_) ?hial1722 (by kernel_rfl) ?hfal1722 ?hral1722 ?hQal1722 ?hyal1722 (by assumption) ?restal1722
                case hial1722 => (simp only [List.getElem?_toArray, List.getElem?_cons_zero, List.getElem?_cons_succ]; rfl)
                case hfal1722 => kernel_rfl
                case hral1722 => kernel_rfl
                case hyal1722 => (refine Or.inl ⟨by rfl, ?_⟩; intro wS hSw; (try dsimp only at hSw); go_simp; (try with_reducible rfl))
                case hQal1722 => exact fun _ _ _ h => h
                (try simp only [Act.put, List.setIfInBounds_toArray, List.set_cons_zero, List.set_cons_succ])
                refine wpAnyH_take (i := 23) (oi := ?_) (v := ?_) ?hial1723 (by kernel_rfl) ?hfal1723 ?hral1723 ?hQal1723 ?hyal1723 (by assumption) ?restal1723
                case hial1723 => (simp only [List.getElem?_toArray, List.getElem?_cons_zero, List.getElem?_cons_succ]; rfl)
                case hfal1723 => kernel_rfl
                case hral1723 => kernel_rfl
                case hyal1723 => (refine Or.inl ⟨by rfl, ?_⟩; intro wS hSw; (try dsimp only at hSw); go_simp; (try with_reducible rfl))
                case hQal1723 => exact fun _ _ _ h => h
                (try simp only [Act.put, List.setIfInBounds_toArray, List.set_cons_zero, List.set_cons_succ])
                refine wpAnyH_ready (rs := [24]) (by kernel_rfl) (by simp) ?_
                refine AllReadyH.cons (o := ?_) ?hoSal17 ?hstSal17 AllReadyH.nil
                case hoSal17 => (simp only [List.getElem?_toArray, List.getElem?_cons_zero, List.getElem?_cons_succ]; rfl)
                intro K hK
                have b30 := hq5.2.1; have b31 := hq5.2.2.1; have b32 := hq5.2.2.2.1; have b33 := hq5.2.2.2.2.1; have b34 := hq5.2.2.2.2.2.1; have b3f := hq5.2.2.2.2.2.2.2.2.2.2.2.2.1; have b3l := cell_lt b30; go_simp
                have hq6 := oq_set1 hnb' h1 h2 h3 hq5 (.int .i64 4) (.int .i64 0) (.float .f64 0) (.string ⟨#[]⟩) (.slice qt mt dt)
                go_wp2_with fail
                refine hK.out _ _ ?hsSal17 (fun hHeld => ?_)
                case hsSal17 => exact oq_ro hq6
                clear hK K
                (try simp only [Act.put, List.setIfInBounds_toArray, List.set_cons_zero, List.set_cons_succ])
                refine wpAnyH_take (i := 25) (oi := ?_) (v := ?_) ?hial1725 (by kernel_rfl) ?hfal1725 ?hral1725 ?hQal1725 ?hyal1725 (by assumption) ?restal1725
                case hial1725 => (simp only [List.getElem?_toArray, List.getElem?_cons_zero, List.getElem?_cons_succ]; rfl)
                case hfal1725 => kernel_rfl
                case hral1725 => kernel_rfl
                case hyal1725 => (refine Or.inl ⟨by rfl, ?_⟩; intro wS hSw; (try dsimp only at hSw); go_simp; (try with_reducible rfl))
                case hQal1725 => exact fun _ _ _ h => h
                (try simp only [Act.put, List.setIfInBounds_toArray, List.set_cons_zero, List.set_cons_succ])
                refine wpAnyH_done (by kernel_rfl) ?_ _
                have hab1 : ab < Wda.heap.size := cell_lt HDW.out.1.2.1
                have hab2 : bb < Wda.heap.size := cell_lt HDW.out.1.2.2.2.2.2.2.1
                have hmet : (fun c => metN g i c || c == cx) = metN g (i + 1) := by rw [← HGI.out]; exact metN_succ g i
                rw [hmet] at HTT
                have HGF := Lib.hid (show BW w ab bb qt mt dt qb mb db (((((w8.setCell ⟨ab, 0, none⟩ (.int .i64 4)).setCell ⟨ab, 1, none⟩ (.int .i64 0)).setCell ⟨ab, 2, none⟩ (.float .f64 0)).setCell ⟨ab, 3, none⟩ (.string ⟨#[]⟩)).setCell ⟨ab, 4, none⟩ (.slice qt mt dt)) ∧ RepS (fun b => ab < b ∧ bb < b) (((((w8.setCell ⟨ab, 0, none⟩ (.int .i64 4)).setCell ⟨ab, 1, none⟩ (.int .i64 0)).setCell ⟨ab, 2, none⟩ (.float .f64 0)).setCell ⟨ab, 3, none⟩ (.string ⟨#[]⟩)).setCell ⟨ab, 4, none⟩ (.slice qt mt dt)) 3 (.agg #[.int .i64 4, .int .i64 0, .float .f64 0, .string ⟨#[]⟩, .slice qt mt dt]) (tableT 0 (setE 26 fO (metN g (i + 1)))) ∧ RepS (fun b => ab < b ∧ bb < b) (((((w8.setCell ⟨ab, 0, none⟩ (.int .i64 4)).setCell ⟨ab, 1, none⟩ (.int .i64 0)).setCell ⟨ab, 2, none⟩ (.float .f64 0)).setCell ⟨ab, 3, none⟩ (.string ⟨#[]⟩)).setCell ⟨ab, 4, none⟩ (.slice qt mt dt)) 3 (.agg #[.int .i64 4, .int .i64 0, .float .f64 0, .string ⟨#[]⟩, .slice qb mb db]) (tableT 0 (setE 26 fO (metN (fun t => g ((t + tn) % l)) i))) from ⟨bw_of hq6, repS_set (repS_mono (fun b (hb : _ ≤ b) => ⟨by omega, by omega⟩) _ _ _ HTT.out) (fun b hb => by have h := hb.1; have h2 := hb.2; omega), repS_set (repS_step hbd5 HDW.out.2.2) (fun b hb => by have h := hb.1; have h2 := hb.2; omega)⟩)
                clear hq6 hq5 hbd5 HTT hsz4 HDW hHeld HPa HRAa HRBa hab1 hab2 hmet b30 b31 b32 b33 b34 b3f b3l
                revert HGF
                generalize (((((w8.setCell ⟨ab, 0, none⟩ (.int .i64 4)).setCell ⟨ab, 1, none⟩ (.int .i64 0)).setCell ⟨ab, 2, none⟩ (.float .f64 0)).setCell ⟨ab, 3, none⟩ (.string ⟨#[]⟩)).setCell ⟨ab, 4, none⟩ (.slice qt mt dt)) = Wg
                intro HGF
                go_wp2_with fail
                go_meet
                exact ⟨rfl, qt, mt, dt, HGF.out⟩
              case hstX17a =>
                intro K hK
                go_simp
                go_at_call 20; refine (int_ref_any _ _).mono ?_; rintro e w6 ⟨rfl, hb6⟩; have hq3 := oq_step hq2 hb6; have hbd3 := bel_step hbd2 hb6; clear hb6 hq2 hbd2
                go_wp2_with fail
                refine hK.out _ _ ?hsX17a (fun hHeld => ?_)
                case hsX17a => exact oq_ro hq3
                clear hK K
                (try simp only [Act.put, List.setIfInBounds_toArray, List.set_cons_zero, List.set_cons_succ])
                refine wpAnyH_ready (rs := [0, 18]) (by kernel_rfl) (by simp) ?_
                refine AllReadyH.cons (o := ?_) ?hoL18a ?hstL18a (AllReadyH.cons (o := ?_) ?hoX18a ?hstX18a AllReadyH.nil)
                case hoL18a => (simp only [List.getElem?_toArray, List.getElem?_cons_zero, List.getElem?_cons_succ]; rfl)
                case hoX18a => (simp only [List.getElem?_toArray, List.getElem?_cons_zero, List.getElem?_cons_succ]; rfl)
                case hstL18a =>
                  intro K hK
                  have xx0 := hq3.2.1; have xx1 := hq3.2.2.1; have xx2 := hq3.2.2.2.1; have xx3 := hq3.2.2.2.2.1; have xx4 := hq3.2.2.2.2.2.1; have xl := cell_lt xx0; go_simp
                  clear xx0 xx1 xx2 xx3 xx4 xl
                  go_wp2_with fail
                  refine hK.out _ _ ?hsL18a (fun hHeld => ?_)
                  case hsL18a => exact oq_ro hq3
                  clear hK K
                  (try simp only [Act.put, List.setIfInBounds_toArray, List.set_cons_zero, List.set_cons_succ])
                  refine wpAnyH_ready (rs := [18]) (by kernel_rfl) (by simp) ?_
                  refine AllReadyH.cons (o := ?_) ?ho18al18 ?hst18al18 AllReadyH.nil
                  case ho18al18 => (simp only [List.getElem?_toArray, List.getElem?_cons_zero, List.getElem?_cons_succ]; rfl)
                  intro K hK
                  go_simp
                  have hlv : LV w6.heap.size (nmO cx) 1 cx 0 ⟨#[]⟩ (w6.alloc (.cells #[.int .i64 3, .int .i64 0, .float .f64 0, .string ({ data := #[110] } ++ { data := #[bx] }), .slice none 0 0, .int .i64 1, .int .i64 cx, .float .f64 0, .string ⟨#[]⟩, .slice none 0 0] 27)) := (by rw [HBX.out.2]; exact lv_new rfl (by decide : 2 ≤ maxLen) (by decide) (by unfold okI; omega) (by decide) (by decide)); have hq4 := oq_step hq3 (bel_alloc (Below.refl _ _) (.cells #[.int .i64 3, .int .i64 0, .float .f64 0, .string ({ data := #[110] } ++ { data := #[bx] }), .slice none 0 0, .int .i64 1, .int .i64 cx, .float .f64 0, .string ⟨#[]⟩, .slice none 0 0] 27)); have hbd4 := bel_alloc hbd3 (.cells #[.int .i64 3, .int .i64 0, .float .f64 0, .string ({ data := #[110] } ++ { data := #[bx] }), .slice none 0 0, .int .i64 1, .int .i64 cx, .float .f64 0, .string ⟨#[]⟩, .slice none 0 0] 27); clear hq3 hbd3
                  go_wp2_with fail
                  refine hK.out _ _ ?hs18al18 (fun hHeld => ?_)
                  case hs18al18 => exact oq_ro hq4
                  clear hK K
                  (try simp only [Act.put, List.setIfInBounds_toArray, List.set_cons_zero, List.set_cons_succ])
                  refine wpAnyH_ready (rs := [19]) (by kernel_rfl) (by simp) ?_
                  refine AllReadyH.cons (o := ?_) ?hoDal18 ?hstDal18 AllReadyH.nil
                  case hoDal18 => (simp only [List.getElem?_toArray, List.getElem?_cons_zero, List.getElem?_cons_succ]; rfl)
                  intro K hK
                  go_simp
                  have hput := put_fam fam_O (metN g i) cx hcx2 (repS_rep _ _ _ (repS_step hbd4 HDW.out.2.1)) hlv; go_at_call 12; refine hput.mono ?_; rintro e w8 ⟨tt, vv, rfl, hb8, ht, hv⟩; obtain ⟨Ks, Is, Fs, Ss, qt, mt, dt, rfl, _⟩ := repS_shape ht; obtain ⟨rfl, rfl, rfl, rfl⟩ := rep_tab5 (repS_rep _ _ _ ht); obtain ⟨Kv, Iv, Fv, Zv, qv, mv, dv, rfl, _⟩ := repS_shape hv; have hq5 := oq_step hq4 hb8; have hbd5 := bel_step hbd4 hb8; have HTT := Lib.hid ht; have hsz4 := hbd4.size; clear hb8 ht hv hq4 hput hlv hbd4
                  go_wp2_with fail
                  refine hK.out _ _ ?hsDal18 (fun hHeld => ?_)
                  case hsDal18 => exact oq_ro hq5
                  clear hK K
                  (try simp only [Act.put, List.setIfInBounds_toArray, List.set_cons_zero, List.set_cons_succ])
                  refine wpAnyH_take (i := 20) (oi := ?_) (v := ?_) ?hial1820 (by kernel_rfl) ?hfal1820 ?hral1820 ?hQal1820 ?hyal1820 (by assumption) ?restal1820
                  case hial1820 => (simp only [List.getElem?_toArray, List.getElem?_cons_zero, List.getElem?_cons_succ]; rfl)
                  case hfal1820 => kernel_rfl
                  case hral1820 => kernel_rfl
                  case hyal1820 => (refine Or.inl ⟨by rfl, ?_⟩; intro wS hSw; (try dsimp only at hSw); go_simp; (try with_reducible rfl))
                  case hQal1820 => exact fun _ _ _ h => h
                  (try simp only [Act.put, List.setIfInBounds_toArray, List.set_cons_zero, List.set_cons_succ])
                  refine wpAnyH_take (i := 21) (oi := ?_) (v := ?_) ?hial1821 (by kernel_rfl) ?hfal1821 ?hral1821 ?hQal1821 ?hyal1821 (by assumption) ?restal1821
                  case hial1821 => (simp only [List.getElem?_toArray, List.getElem?_cons_zero, List.getElem?_cons_succ]; rfl)
                  case hfal1821 => kernel_rfl
                  case hral1821 => kernel_rfl
                  case hyal1821 => (refine Or.inl ⟨by rfl, ?_⟩; intro wS hSw; (try dsimp only at hSw); go_simp; (try with_reducible rfl))
                  case hQal1821 => exact fun _ _ _ h => h
                  (try simp only [Act.put, List.setIfInBounds_toArray, List.set_cons_zero, List.set_cons_succ])
                  refine wpAnyH_take (i := 22) (oi := ?_) (v := ?_) ?hial1822 (by kernel_rfl) ?hfal1822 ?hral1822 ?hQal1822 ?hyal1822 (by assumption) ?restal1822
                  case hial1822 => (simp only [List.getElem?_toArray, List.getElem?_cons_zero, List.getElem?_cons_succ]; rfl)
                  case hfal1822 => kernel_rfl
                  case hral1822 => kernel_rfl
                  case hyal1822 => (refine Or.inl ⟨by rfl, ?_⟩; intro wS hSw; (try dsimp only at hSw); go_simp; (try with_reducible rfl))
                  case hQal1822 => exact fun _ _ _ h => h
                  (try simp only [Act.put, List.setIfInBounds_toArray, List.set_cons_zero, List.set_cons_succ])
                  refine wpAnyH_take (i := 23) (oi := ?_) (v := ?_) ?hial1823 (by kernel_rfl) ?hfal1823 ?hral1823 ?hQal1823 ?hyal1823 (by assumption) ?restal1823
                  case hial1823 => (simp only [List.getElem?_toArray, List.getElem?_cons_zero, List.getElem?_cons_succ]; rfl)
                  case hfal1823 => kernel_rfl
                  case hral1823 => kernel_rfl
                  case hyal1823 => (refine Or.inl ⟨by rfl, ?_⟩; intro wS hSw; (try dsimp only at hSw); go_simp; (try with_reducible rfl))
                  case hQal1823 => exact fun _ _ _ h => h
                  (try simp only [Act.put, List.setIfInBounds_toArray, List.set_cons_zero, List.set_cons_succ])
                  refine wpAnyH_ready (rs := [24]) (by kernel_rfl) (by simp) ?_
                  refine AllReadyH.cons (o := ?_) ?hoSal18 ?hstSal18 AllReadyH.nil
                  case hoSal18 => (simp only [List.getElem?_toArray, List.getElem?_cons_zero, List.getElem?_cons_succ]; rfl)
                  intro K hK
                  have b30 := hq5.2.1; have b31 := hq5.2.2.1; have b32 := hq5.2.2.2.1; have b33 := hq5.2.2.2.2.1; have b34 := hq5.2.2.2.2.2.1; have b3f := hq5.2.2.2.2.2.2.2.2.2.2.2.2.1; have b3l := cell_lt b30; go_simp
                  have hq6 := oq_set1 hnb' h1 h2 h3 hq5 (.int .i64 4) (.int .i64 0) (.float .f64 0) (.string ⟨#[]⟩) (.slice qt mt dt)
                  go_wp2_with fail
                  refine hK.out _ _ ?hsSal18 (fun hHeld => ?_)
                  case hsSal18 => exact oq_ro hq6
                  clear hK K
                  (try simp only [Act.put, List.setIfInBounds_toArray, List.set_cons_zero, List.set_cons_succ])
                  refine wpAnyH_take (i := 25) (oi := ?_) (v := ?_) ?hial1825 (by kernel_rfl) ?hfal1825 ?hral1825 ?hQal1825 ?hyal1825 (by assumption) ?restal1825
                  case hial1825 => (simp only [List.getElem?_toArray, List.getElem?_cons_zero, List.getElem?_cons_succ]; rfl)
                  case hfal1825 => kernel_rfl
                  case hral1825 => kernel_rfl
                  case hyal1825 => (refine Or.inl ⟨by rfl, ?_⟩; intro wS hSw; (try dsimp only at hSw); go_simp; (try with_reducible rfl))
                  case hQal1825 => exact fun _ _ _ h => h
                  (try simp only [Act.put, List.setIfInBounds_toArray, List.set_cons_zero, List.set_cons_succ])
                  refine wpAnyH_done (by kernel_rfl) ?_ _
                  have hab1 : ab < Wda.heap.size := cell_lt HDW.out.1.2.1
                  have hab2 : bb < Wda.heap.size := cell_lt HDW.out.1.2.2.2.2.2.2.1
                  have hmet : (fun c => metN g i c || c == cx) = metN g (i + 1) := by rw [← HGI.out]; exact metN_succ g i
                  rw [hmet] at HTT
                  have HGF := Lib.hid (show BW w ab bb qt mt dt qb mb db (((((w8.setCell ⟨ab, 0, none⟩ (.int .i64 4)).setCell ⟨ab, 1, none⟩ (.int .i64 0)).setCell ⟨ab, 2, none⟩ (.float .f64 0)).setCell ⟨ab, 3, none⟩ (.string ⟨#[]⟩)).setCell ⟨ab, 4, none⟩ (.slice qt mt dt)) ∧ RepS (fun b => ab < b ∧ bb < b) (((((w8.setCell ⟨ab, 0, none⟩ (.int .i64 4)).setCell ⟨ab, 1, none⟩ (.int .i64 0)).setCell ⟨ab, 2, none⟩ (.float .f64 0)).setCell ⟨ab, 3, none⟩ (.string ⟨#[]⟩)).setCell ⟨ab, 4, none⟩ (.slice qt mt dt)) 3 (.agg #[.int .i64 4, .int .i64 0, .float .f64 0, .string ⟨#[]⟩, .slice qt mt dt]) (tableT 0 (setE 26 fO (metN g (i + 1)))) ∧ RepS (fun b => ab < b ∧ bb < b) (((((w8.setCell ⟨ab, 0, none⟩ (.int .i64 4)).setCell ⟨ab, 1, none⟩ (.int .i64 0)).setCell ⟨ab, 2, none⟩ (.float .f64 0)).setCell ⟨ab, 3, none⟩ (.string ⟨#[]⟩)).setCell ⟨ab, 4, none⟩ (.slice qt mt dt)) 3 (.agg #[.int .i64 4, .int .i64 0, .float .f64 0, .string ⟨#[]⟩, .slice qb mb db]) (tableT 0 (setE 26 fO (metN (fun t => g ((t + tn) % l)) i))) from ⟨bw_of hq6, repS_set (repS_mono (fun b (hb : _ ≤ b) => ⟨by omega, by omega⟩) _ _ _ HTT.out) (fun b hb => by have h := hb.1; have h2 := hb.2; omega), repS_set (repS_step hbd5 HDW.out.2.2) (fun b hb => by have h := hb.1; have h2 := hb.2; omega)⟩)
                  clear hq6 hq5 hbd5 HTT hsz4 HDW hHeld HPa HRAa HRBa hab1 hab2 hmet b30 b31 b32 b33 b34 b3f b3l
                  revert HGF
                  generalize (((((w8.setCell ⟨ab, 0, none⟩ (.int .i64 4)).setCell ⟨ab, 1, none⟩ (.int .i64 0)).setCell ⟨ab, 2, none⟩ (.float .f64 0)).setCell ⟨ab, 3, none⟩ (.string ⟨#[]⟩)).setCell ⟨ab, 4, none⟩ (.slice qt mt dt)) = Wg
                  intro HGF
                  go_wp2_with fail
                  go_meet
                  exact ⟨rfl, qt, mt, dt, HGF.out⟩
                case hstX18a =>
                  intro K hK
                  go_simp
                  have hlv : LV w6.heap.size (nmO cx) 1 cx 0 ⟨#[]⟩ (w6.alloc (.cells #[.int .i64 3, .int .i64 0, .float .f64 0, .string ({ data := #[110] } ++ { data := #[bx] }), .slice none 0 0, .int .i64 1, .int .i64 cx, .float .f64 0, .string ⟨#[]⟩, .slice none 0 0] 27)) := (by rw [HBX.out.2]; exact lv_new rfl (by decide : 2 ≤ maxLen) (by decide) (by unfold okI; omega) (by decide) (by decide)); have hq4 := oq_step hq3 (bel_alloc (Below.refl _ _) (.cells #[.int .i64 3, .int .i64 0, .float .f64 0, .string ({ data := #[110] } ++ { data := #[bx] }), .slice none 0 0, .int .i64 1, .int .i64 cx, .float .f64 0, .string ⟨#[]⟩, .slice none 0 0] 27)); have hbd4 := bel_alloc hbd3 (.cells #[.int .i64 3, .int .i64 0, .float .f64 0, .string ({ data := #[110] } ++ { data := #[bx] }), .slice none 0 0, .int .i64 1, .int .i64 cx, .float .f64 0, .string ⟨#[]⟩, .slice none 0 0] 27); clear hq3 hbd3
                  go_wp2_with fail
                  refine hK.out _ _ ?hsX18a (fun hHeld => ?_)
                  case hsX18a => exact oq_ro hq4
                  clear hK K
                  (try simp only [Act.put, List.setIfInBounds_toArray, List.set_cons_zero, List.set_cons_succ])
                  refine wpAnyH_ready (rs := [0]) (by kernel_rfl) (by simp) ?_
                  refine AllReadyH.cons (o := ?_) ?hoZa ?hstZa AllReadyH.nil
                  case hoZa => (simp only [List.getElem?_toArray, List.getElem?_cons_zero, List.getElem?_cons_succ]; rfl)
                  intro K hK
                  have xx0 := hq4.2.1; have xx1 := hq4.2.2.1; have xx2 := hq4.2.2.2.1; have xx3 := hq4.2.2.2.2.1; have xx4 := hq4.2.2.2.2.2.1; have xl := cell_lt xx0; go_simp
                  clear xx0 xx1 xx2 xx3 xx4 xl
                  go_wp2_with fail
                  refine hK.out _ _ ?hsZa (fun hHeld => ?_)
                  case hsZa => exact oq_ro hq4
                  clear hK K
                  (try simp only [Act.put, List.setIfInBounds_toArray, List.set_cons_zero, List.set_cons_succ])
                  refine wpAnyH_ready (rs := [19]) (by kernel_rfl) (by simp) ?_
                  refine AllReadyH.cons (o := ?_) ?hoDa ?hstDa AllReadyH.nil
                  case hoDa => (simp only [List.getElem?_toArray, List.getElem?_cons_zero, List.getElem?_cons_succ]; rfl)
                  intro K hK
                  go_simp
                  have hput := put_fam fam_O (metN g i) cx hcx2 (repS_rep _ _ _ (repS_step hbd4 HDW.out.2.1)) hlv; go_at_call 12; refine hput.mono ?_; rintro e w8 ⟨tt, vv, rfl, hb8, ht, hv⟩; obtain ⟨Ks, Is, Fs, Ss, qt, mt, dt, rfl, _⟩ := repS_shape ht; obtain ⟨rfl, rfl, rfl, rfl⟩ := rep_tab5 (repS_rep _ _ _ ht); obtain ⟨Kv, Iv, Fv, Zv, qv, mv, dv, rfl, _⟩ := repS_shape hv; have hq5 := oq_step hq4 hb8; have hbd5 := bel_step hbd4 hb8; have HTT := Lib.hid ht; have hsz4 := hbd4.size; clear hb8 ht hv hq4 hput hlv hbd4
                  go_wp2_with fail
                  refine hK.out _ _ ?hsDa (fun hHeld => ?_)
                  case hsDa => exact oq_ro hq5
                  clear hK K
                  (try simp only [Act.put, List.setIfInBounds_toArray, List.set_cons_zero, List.set_cons_succ])
                  refine wpAnyH_take (i := 20) (oi := ?_) (v := ?_) ?hia20 (by kernel_rfl) ?hfa20 ?hra20 ?hQa20 ?hya20 (by assumption) ?resta20
                  case hia20 => (simp only [List.getElem?_toArray, List.getElem?_cons_zero, List.getElem?_cons_succ]; rfl)
                  case hfa20 => kernel_rfl
                  case hra20 => kernel_rfl
                  case hya20 => (refine Or.inl ⟨by rfl, ?_⟩; intro wS hSw; (try dsimp only at hSw); go_simp; (try with_reducible rfl))
                  case hQa20 => exact fun _ _ _ h => h
                  (try simp only [Act.put, List.setIfInBounds_toArray, List.set_cons_zero, List.set_cons_succ])
                  refine wpAnyH_take (i := 21) (oi := ?_) (v := ?_) ?hia21 (by kernel_rfl) ?hfa21 ?hra21 ?hQa21 ?hya21 (by assumption) ?resta21
                  case hia21 => (simp only [List.getElem?_toArray, List.getElem?_cons_zero, List.getElem?_cons_succ]; rfl)
                  case hfa21 => kernel_rfl
                  case hra21 => kernel_rfl
                  case hya21 => (refine Or.inl ⟨by rfl, ?_⟩; intro wS hSw; (try dsimp only at hSw); go_simp; (try with_reducible rfl))
                  case hQa21 => exact fun _ _ _ h => h
                  (try simp only [Act.put, List.setIfInBounds_toArray, List.set_cons_zero, List.set_cons_succ])
                  refine wpAnyH_take (i := 22) (oi := ?_) (v := ?_) ?hia22 (by kernel_rfl) ?hfa22 ?hra22 ?hQa22 ?hya22 (by assumption) ?resta22
                  case hia22 => (simp only [List.getElem?_toArray, List.getElem?_cons_zero, List.getElem?_cons_succ]; rfl)
                  case hfa22 => kernel_rfl
                  case hra22 => kernel_rfl
                  case hya22 => (refine Or.inl ⟨by rfl, ?_⟩; intro wS hSw; (try dsimp only at hSw); go_simp; (try with_reducible rfl))
                  case hQa22 => exact fun _ _ _ h => h
                  (try simp only [Act.put, List.setIfInBounds_toArray, List.set_cons_zero, List.set_cons_succ])
                  refine wpAnyH_take (i := 23) (oi := ?_) (v := ?_) ?hia23 (by kernel_rfl) ?hfa23 ?hra23 ?hQa23 ?hya23 (by assumption) ?resta23
                  case hia23 => (simp only [List.getElem?_toArray, List.getElem?_cons_zero, List.getElem?_cons_succ]; rfl)
                  case hfa23 => kernel_rfl
                  case hra23 => kernel_rfl
                  case hya23 => (refine Or.inl ⟨by rfl, ?_⟩; intro wS hSw; (try dsimp only at hSw); go_simp; (try with_reducible rfl))
                  case hQa23 => exact fun _ _ _ h => h
                  (try simp only [Act.put, List.setIfInBounds_toArray, List.set_cons_zero, List.set_cons_succ])
                  refine wpAnyH_ready (rs := [24]) (by kernel_rfl) (by simp) ?_
                  refine AllReadyH.cons (o := ?_) ?hoSa ?hstSa AllReadyH.nil
                  case hoSa => (simp only [List.getElem?_toArray, List.getElem?_cons_zero, List.getElem?_cons_succ]; rfl)
                  intro K hK
                  have b30 := hq5.2.1; have b31 := hq5.2.2.1; have b32 := hq5.2.2.2.1; have b33 := hq5.2.2.2.2.1; have b34 := hq5.2.2.2.2.2.1; have b3f := hq5.2.2.2.2.2.2.2.2.2.2.2.2.1; have b3l := cell_lt b30; go_simp
                  have hq6 := oq_set1 hnb' h1 h2 h3 hq5 (.int .i64 4) (.int .i64 0) (.float .f64 0) (.string ⟨#[]⟩) (.slice qt mt dt)
                  go_wp2_with fail
                  refine hK.out _ _ ?hsSa (fun hHeld => ?_)
                  case hsSa => exact oq_ro hq6
                  clear hK K
                  (try simp only [Act.put, List.setIfInBounds_toArray, List.set_cons_zero, List.set_cons_succ])
                  refine wpAnyH_take (i := 25) (oi := ?_) (v := ?_) ?hia25 (by kernel_rfl) ?hfa25 ?hra25 ?hQa25 ?hya25 (by assumption) ?resta25
                  case hia25 => (simp only [List.getElem?_toArray, List.getElem?_cons_zero, List.getElem?_cons_succ]; rfl)
                  case hfa25 => kernel_rfl
                  case hra25 => kernel_rfl
                  case hya25 => (refine Or.inl ⟨by rfl, ?_⟩; intro wS hSw; (try dsimp only at hSw); go_simp; (try with_reducible rfl))
                  case hQa25 => exact fun _ _ _ h => h
                  (try simp only [Act.put, List.setIfInBounds_toArray, List.set_cons_zero, List.set_cons_succ])
                  refine wpAnyH_done (by kernel_rfl) ?_ _
                  have hab1 : ab < Wda.heap.size := cell_lt HDW.out.1.2.1
                  have hab2 : bb < Wda.heap.size := cell_lt HDW.out.1.2.2.2.2.2.2.1
                  have hmet : (fun c => metN g i c || c == cx) = metN g (i + 1) := by rw [← HGI.out]; exact metN_succ g i
                  rw [hmet] at HTT
                  have HGF := Lib.hid (show BW w ab bb qt mt dt qb mb db (((((w8.setCell ⟨ab, 0, none⟩ (.int .i64 4)).setCell ⟨ab, 1, none⟩ (.int .i64 0)).setCell ⟨ab, 2, none⟩ (.float .f64 0)).setCell ⟨ab, 3, none⟩ (.string ⟨#[]⟩)).setCell ⟨ab, 4, none⟩ (.slice qt mt dt)) ∧ RepS (fun b => ab < b ∧ bb < b) (((((w8.setCell ⟨ab, 0, none⟩ (.int .i64 4)).setCell ⟨ab, 1, none⟩ (.int .i64 0)).setCell ⟨ab, 2, none⟩ (.float .f64 0)).setCell ⟨ab, 3, none⟩ (.string ⟨#[]⟩)).setCell ⟨ab, 4, none⟩ (.slice qt mt dt)) 3 (.agg #[.int .i64 4, .int .i64 0, .float .f64 0, .string ⟨#[]⟩, .slice qt mt dt]) (tableT 0 (setE 26 fO (metN g (i + 1)))) ∧ RepS (fun b => ab < b ∧ bb < b) (((((w8.setCell ⟨ab, 0, none⟩ (.int .i64 4)).setCell ⟨ab, 1, none⟩ (.int .i64 0)).setCell ⟨ab, 2, none⟩ (.float .f64 0)).setCell ⟨ab, 3, none⟩ (.string ⟨#[]⟩)).setCell ⟨ab, 4, none⟩ (.slice qt mt dt)) 3 (.agg #[.int .i64 4, .int .i64 0, .float .f64 0, .string ⟨#[]⟩, .slice qb mb db]) (tableT 0 (setE 26 fO (metN (fun t => g ((t + tn) % l)) i))) from ⟨bw_of hq6, repS_set (repS_mono (fun b (hb : _ ≤ b) => ⟨by omega, by omega⟩) _ _ _ HTT.out) (fun b hb => by have h := hb.1; have h2 := hb.2; omega), repS_set (repS_step hbd5 HDW.out.2.2) (fun b hb => by have h := hb.1; have h2 := hb.2; omega)⟩)
                  clear hq6 hq5 hbd5 HTT hsz4 HDW hHeld HPa HRAa HRBa hab1 hab2 hmet b30 b31 b32 b33 b34 b3f b3l
                  revert HGF
                  generalize (((((w8.setCell ⟨ab, 0, none⟩ (.int .i64 4)).setCell ⟨ab, 1, none⟩ (.int .i64 0)).setCell ⟨ab, 2, none⟩ (.float .f64 0)).setCell ⟨ab, 3, none⟩ (.string ⟨#[]⟩)).setCell ⟨ab, 4, none⟩ (.slice qt mt dt)) = Wg
                  intro HGF
                  go_wp2_with fail
                  go_meet
                  exact ⟨rfl, qt, mt, dt, HGF.out⟩
      case rest =>
      obtain ⟨rfl, qt, mt, dt, hbw1, hra1, hrb1⟩ := hcut
      have HPb := Lib.hid (show OQ nb (no + kk) y ab bb (.int .i64 4) (.int .i64 0) (.float .f64 0) (.string ⟨#[]⟩) (.slice qt mt dt) (.int .i64 4) (.int .i64 0) (.float .f64 0) (.string ⟨#[]⟩) (.slice qb mb db) w wc from oq_of (cell_keep hbw1.2.2.1 HC2.out) hbw1)
      have HRAb := Lib.hid hra1
      have HRBb := Lib.hid hrb1
      clear hbw1 hra1 hrb1 HPa HRAa HRBa
      go_upto_region 12 with fail
      go_cut [10] (fun s10 wx => s10 = .int .i64 0 ∧ ∃ qu mu du, BW w ab bb qt mt dt qu mu du wx ∧ RepS (fun b => ab < b ∧ bb < b) wx 3 (.agg #[.int .i64 4, .int .i64 0, .float .f64 0, .string ⟨#[]⟩, .slice qt mt dt]) (tableT 0 (setE 26 fO (metN g (i + 1)))) ∧ RepS (fun b => ab < b ∧ bb < b) wx 3 (.agg #[.int .i64 4, .int .i64 0, .float .f64 0, .string ⟨#[]⟩, .slice qu mu du]) (tableT 0 (setE 26 fO (metN (fun t => g ((t + tn) % l)) (i + 1)))))
      case first =>
        refine wp_region_held_drew (S := (fun z => z.cell? ⟨nb, no + kk, none⟩ = some (.int .u8 y))) (by kernel_rfl) ?_ (fun hHeld => ?_)
        · exact oq_ro (oq_drew HPb.out)
        have HDW := Lib.hid (show OQ nb (no + kk) y ab bb (.int .i64 4) (.int .i64 0) (.float .f64 0) (.string ⟨#[]⟩) (.slice qt mt dt) (.int .i64 4) (.int .i64 0) (.float .f64 0) (.string ⟨#[]⟩) (.slice qb mb db) w wc.drew ∧ RepS (fun b => ab < b ∧ bb < b) wc.drew 3 (.agg #[.int .i64 4, .int .i64 0, .float .f64 0, .string ⟨#[]⟩, .slice qt mt dt]) (tableT 0 (setE 26 fO (metN g (i + 1)))) ∧ RepS (fun b => ab < b ∧ bb < b) wc.drew 3 (.agg #[.int .i64 4, .int .i64 0, .float .f64 0, .string ⟨#[]⟩, .slice qb mb db]) (tableT 0 (setE 26 fO (metN (fun t => g ((t + tn) % l)) i))) from ⟨oq_drew HPb.out, repS_step (Below.drew (Below.refl _ _)) HRAb.out, repS_step (Below.drew (Below.refl _ _)) HRBb.out⟩)
        revert HDW hHeld
        generalize wc.drew = Wdb
        intro hHeld HDW
        have hq0 := HDW.out.1
        have hbd0 := Below.refl Wdb.heap.size Wdb
        refine wpAnyH_take (i := 1) (oi := ?_) (v := ?_) ?hib1 (by kernel_rfl) ?hfb1 ?hrb1 ?hQb1 ?hyb1 (by assumption) ?restb1
        case hib1 => (simp only [List.getElem?_toArray, List.getElem?_cons_zero, List.getElem?_cons_succ]; rfl)
        case hfb1 => kernel_rfl
        case hrb1 => kernel_rfl
        case hyb1 => (refine Or.inl ⟨by rfl, ?_⟩; intro wS hSw; (try dsimp only at hSw); go_simp; (try with_reducible rfl))
        case hQb1 => exact fun _ _ _ h => h
        (try simp only [Act.put, List.setIfInBounds_toArray, List.set_cons_zero, List.set_cons_succ])
        refine wpAnyH_take (i := 2) (oi := ?_) (v := ?_) ?hib2 (by kernel_rfl) ?hfb2 ?hrb2 ?hQb2 ?hyb2 (by assumption) ?restb2
        case hib2 => (simp only [List.getElem?_toArray, List.getElem?_cons_zero, List.getElem?_cons_succ]; rfl)
        case hfb2 => kernel_rfl
        case hrb2 => kernel_rfl
        case hyb2 => (refine Or.inl ⟨by rfl, ?_⟩; intro wS hSw; (try dsimp only at hSw); go_simp; (try with_reducible rfl))
        case hQb2 => exact fun _ _ _ h => h
        (try simp only [Act.put, List.setIfInBounds_toArray, List.set_cons_zero, List.set_cons_succ])
        refine wpAnyH_take (i := 3) (oi := ?_) (v := ?_) ?hib3 (by kernel_rfl) ?hfb3 ?hrb3 ?hQb3 ?hyb3 (by assumption) ?restb3
        case hib3 => (simp only [List.getElem?_toArray, List.getElem?_cons_zero, List.getElem?_cons_succ]; rfl)
        case hfb3 => kernel_rfl
        case hrb3 => kernel_rfl
        case hyb3 => (refine Or.inl ⟨by rfl, ?_⟩; intro wS hSw; (try dsimp only at hSw); go_simp; (try with_reducible rfl))
        case hQb3 => exact fun _ _ _ h => h
        (try simp only [Act.put, List.setIfInBounds_toArray, List.set_cons_zero, List.set_cons_succ])
        refine wpAnyH_take (i := 4) (oi := ?_) (v := ?_) ?hib4 (by kernel_rfl) ?hfb4 ?hrb4 ?hQb4 ?hyb4 (by assumption) ?restb4
        case hib4 => (simp only [List.getElem?_toArray, List.getElem?_cons_zero, List.getElem?_cons_succ]; rfl)
        case hfb4 => kernel_rfl
        case hrb4 => kernel_rfl
        case hyb4 => (refine Or.inl ⟨by rfl, ?_⟩; intro wS hSw; (try dsimp only at hSw); go_simp; (try with_reducible rfl))
        case hQb4 => exact fun _ _ _ h => h
        (try simp only [Act.put, List.setIfInBounds_toArray, List.set_cons_zero, List.set_cons_succ])
        refine wpAnyH_take (i := 5) (oi := ?_) (v := ?_) ?hib5 (by kernel_rfl) ?hfb5 ?hrb5 ?hQb5 ?hyb5 (by assumption) ?restb5
        case hib5 => (simp only [List.getElem?_toArray, List.getElem?_cons_zero, List.getElem?_cons_succ]; rfl)
        case hfb5 => kernel_rfl
        case hrb5 => kernel_rfl
        case hyb5 => (refine Or.inl ⟨by rfl, ?_⟩; intro wS hSw; (try dsimp only at hSw); go_simp; (try with_reducible rfl))
        case hQb5 => exact fun _ _ _ h => h
        (try simp only [Act.put, List.setIfInBounds_toArray, List.set_cons_zero, List.set_cons_succ])
        refine wpAnyH_take (i := 6) (oi := ?_) (v := ?_) ?hib6 (by kernel_rfl) ?hfb6 ?hrb6 ?hQb6 ?hyb6 (by assumption) ?restb6
        case hib6 => (simp only [List.getElem?_toArray, List.getElem?_cons_zero, List.getElem?_cons_succ]; rfl)
        case hfb6 => kernel_rfl
        case hrb6 => kernel_rfl
        case hyb6 => (refine Or.inl ⟨by rfl, ?_⟩; intro wS hSw; (try dsimp only at hSw); go_simp; (try with_reducible rfl))
        case hQb6 => exact fun _ _ _ h => h
        (try simp only [Act.put, List.setIfInBounds_toArray, List.set_cons_zero, List.set_cons_succ])
        refine wpAnyH_take (i := 11) (oi := ?_) (v := ?_) ?hib11 (by kernel_rfl) ?hfb11 ?hrb11 ?hQb11 ?hyb11 (by assumption) ?restb11
        case hib11 => (simp only [List.getElem?_toArray, List.getElem?_cons_zero, List.getElem?_cons_succ]; rfl)
        case hfb11 => kernel_rfl
        case hrb11 => kernel_rfl
        case hyb11 => (refine Or.inl ⟨by rfl, ?_⟩; intro wS hSw; (try dsimp only at hSw); go_simp; (try with_reducible rfl))
        case hQb11 => exact fun _ _ _ h => h
        (try simp only [Act.put, List.setIfInBounds_toArray, List.set_cons_zero, List.set_cons_succ])
        refine wpAnyH_take (i := 12) (oi := ?_) (v := ?_) ?hib12 (by kernel_rfl) ?hfb12 ?hrb12 ?hQb12 ?hyb12 (by assumption) ?restb12
        case hib12 => (simp only [List.getElem?_toArray, List.getElem?_cons_zero, List.getElem?_cons_succ]; rfl)
        case hfb12 => kernel_rfl
        case hrb12 => kernel_rfl
        case hyb12 => (refine Or.inl ⟨by rfl, ?_⟩; intro wS hSw; (try dsimp only at hSw); go_simp; (try with_reducible rfl))
        case hQb12 => exact fun _ _ _ h => h
        (try simp only [Act.put, List.setIfInBounds_toArray, List.set_cons_zero, List.set_cons_succ])
        refine wpAnyH_take (i := 13) (oi := ?_) (v := ?_) ?hib13 (by kernel_rfl) ?hfb13 ?hrb13 ?hQb13 ?hyb13 (by assumption) ?restb13
        case hib13 => (simp only [List.getElem?_toArray, List.getElem?_cons_zero, List.getElem?_cons_succ]; rfl)
        case hfb13 => kernel_rfl
        case hrb13 => kernel_rfl
        case hyb13 => (refine Or.inl ⟨by rfl, ?_⟩; intro wS hSw; (try dsimp only at hSw); go_simp; (try with_reducible rfl))
        case hQb13 => exact fun _ _ _ h => h
        (try simp only [Act.put, List.setIfInBounds_toArray, List.set_cons_zero, List.set_cons_succ])
        refine wpAnyH_take (i := 14) (oi := ?_) (v := ?_) ?hib14 (by kernel_rfl) ?hfb14 ?hrb14 ?hQb14 ?hyb14 (by assumption) ?restb14
        case hib14 => (simp only [List.getElem?_toArray, List.getElem?_cons_zero, List.getElem?_cons_succ]; rfl)
        case hfb14 => kernel_rfl
        case hrb14 => kernel_rfl
        case hyb14 => (refine Or.inl ⟨by rfl, ?_⟩; intro wS hSw; (try dsimp only at hSw); go_simp; (try with_reducible rfl))
        case hQb14 => exact fun _ _ _ h => h
        (try simp only [Act.put, List.setIfInBounds_toArray, List.set_cons_zero, List.set_cons_succ])
        refine wpAnyH_take (i := 15) (oi := ?_) (v := ?_) ?hib15 (by kernel_rfl) ?hfb15 ?hrb15 ?hQb15 ?hyb15 (by assumption) ?restb15
        case hib15 => (simp only [List.getElem?_toArray, List.getElem?_cons_zero, List.getElem?_cons_succ]; rfl)
        case hfb15 => kernel_rfl
        case hrb15 => kernel_rfl
        case hyb15 => (refine Or.inl ⟨by rfl, ?_⟩; intro wS hSw; (try dsimp only at hSw); go_simp; (try with_reducible rfl))
        case hQb15 => exact fun _ _ _ h => h
        (try simp only [Act.put, List.setIfInBounds_toArray, List.set_cons_zero, List.set_cons_succ])
        refine wpAnyH_take (i := 16) (oi := ?_) (v := ?_) ?hib16 (by kernel_rfl) ?hfb16 ?hrb16 ?hQb16 ?hyb16 (by assumption) ?restb16
        case hib16 => (simp only [List.getElem?_toArray, List.getElem?_cons_zero, List.getElem?_cons_succ]; rfl)
        case hfb16 => kernel_rfl
        case hrb16 => kernel_rfl
        case hyb16 => (refine Or.inl ⟨by rfl, ?_⟩; intro wS hSw; (try dsimp only at hSw); go_simp; (try with_reducible rfl))
        case hQb16 => exact fun _ _ _ h => h
        (try simp only [Act.put, List.setIfInBounds_toArray, List.set_cons_zero, List.set_cons_succ])
        refine wpAnyH_ready (rs := [0, 7]) (by kernel_rfl) (by simp) ?_
        refine AllReadyH.cons (o := ?_) ?hoL7b ?hstL7b (AllReadyH.cons (o := ?_) ?hoX7b ?hstX7b AllReadyH.nil)
        case hoL7b => (simp only [List.getElem?_toArray, List.getElem?_cons_zero, List.getElem?_cons_succ]; rfl)
        case hoX7b => (simp only [List.getElem?_toArray, List.getElem?_cons_zero, List.getElem?_cons_succ]; rfl)
        case hstL7b =>
          intro K hK
          have xx0 := hq0.2.2.2.2.2.2.1; have xx1 := hq0.2.2.2.2.2.2.2.1; have xx2 := hq0.2.2.2.2.2.2.2.2.1; have xx3 := hq0.2.2.2.2.2.2.2.2.2.1; have xx4 := hq0.2.2.2.2.2.2.2.2.2.2.1; have xl := cell_lt xx0; go_simp
          clear xx0 xx1 xx2 xx3 xx4 xl
          go_wp2_with fail
          refine hK.out _ _ ?hsL7b (fun hHeld => ?_)
          case hsL7b => exact oq_ro hq0
          clear hK K
          (try simp only [Act.put, List.setIfInBounds_toArray, List.set_cons_zero, List.set_cons_succ])
          refine wpAnyH_ready (rs := [7]) (by kernel_rfl) (by simp) ?_
          refine AllReadyH.cons (o := ?_) ?ho7bl7 ?hst7bl7 AllReadyH.nil
          case ho7bl7 => (simp only [List.getElem?_toArray, List.getElem?_cons_zero, List.getElem?_cons_succ]; rfl)
          intro K hK
          go_simp
          have hq1 := oq_step hq0 (bel_alloc (Below.refl _ _) (.cells #[.int .u8 (97 + (cy : Int))] 5)); have hbd1 := bel_alloc hbd0 (.cells #[.int .u8 (97 + (cy : Int))] 5); have hrow := row_alloc Wdb #[.int .u8 (97 + (cy : Int))] 5; clear hq0 hbd0
          go_wp2_with fail
          refine hK.out _ _ ?hs7bl7 (fun hHeld => ?_)
          case hs7bl7 => exact oq_ro hq1
          clear hK K
          (try simp only [Act.put, List.setIfInBounds_toArray, List.set_cons_zero, List.set_cons_succ])
          refine wpAnyH_ready (rs := [8]) (by kernel_rfl) (by simp) ?_
          refine AllReadyH.cons (o := ?_) ?ho8bl7 ?hst8bl7 AllReadyH.nil
          case ho8bl7 => (simp only [List.getElem?_toArray, List.getElem?_cons_zero, List.getElem?_cons_succ]; rfl)
          intro K hK
          have hcv := conv1 (cap := 1) (b := by') HBY2.out.1 hrow; go_simp
          clear hcv hrow
          go_wp2_with fail
          refine hK.out _ _ ?hs8bl7 (fun hHeld => ?_)
          case hs8bl7 => exact oq_ro hq1
          clear hK K
          (try simp only [Act.put, List.setIfInBounds_toArray, List.set_cons_zero, List.set_cons_succ])
          refine wpAnyH_take (i := 9) (oi := ?_) (v := ?_) ?hibl79 (by kernel_rfl) ?hfbl79 ?hrbl79 ?hQbl79 ?hybl79 (by assumption) ?restbl79
          case hibl79 => (simp only [List.getElem?_toArray, List.getElem?_cons_zero, List.getElem?_cons_succ]; rfl)
          case hfbl79 => kernel_rfl
          case hrbl79 => kernel_rfl
          case hybl79 => (refine Or.inl ⟨by rfl, ?_⟩; intro wS hSw; (try dsimp only at hSw); go_simp; (try with_reducible rfl))
          case hQbl79 => exact fun _ _ _ h => h
          (try simp only [Act.put, List.setIfInBounds_toArray, List.set_cons_zero, List.set_cons_succ])
          refine wpAnyH_ready (rs := [10]) (by kernel_rfl) (by simp) ?_
          refine AllReadyH.cons (o := ?_) ?ho10bl7 ?hst10bl7 AllReadyH.nil
          case ho10bl7 => (simp only [List.getElem?_toArray, List.getElem?_cons_zero, List.getElem?_cons_succ]; rfl)
          intro K hK
          go_simp
          go_at_call 19; refine (text_ref_any _ _).mono ?_; rintro e w5 ⟨rfl, hb5⟩; have hq2 := oq_step hq1 hb5; have hbd2 := bel_step hbd1 hb5; clear hb5 hq1 hbd1
          go_wp2_with fail
          refine hK.out _ _ ?hs10bl7 (fun hHeld => ?_)
          case hs10bl7 => exact oq_ro hq2
          clear hK K
          (try simp only [Act.put, List.setIfInBounds_toArray, List.set_cons_zero, List.set_cons_succ])
          refine wpAnyH_ready (rs := [17]) (by kernel_rfl) (by simp) ?_
          refine AllReadyH.cons (o := ?_) ?ho17bl7 ?hst17bl7 AllReadyH.nil
          case ho17bl7 => (simp only [List.getElem?_toArray, List.getElem?_cons_zero, List.getElem?_cons_succ]; rfl)
          intro K hK
          go_simp
          go_at_call 20; refine (int_ref_any _ _).mono ?_; rintro e w6 ⟨rfl, hb6⟩; have hq3 := oq_step hq2 hb6; have hbd3 := bel_step hbd2 hb6; clear hb6 hq2 hbd2
          go_wp2_with fail
          refine hK.out _ _ ?hs17bl7 (fun hHeld => ?_)
          case hs17bl7 => exact oq_ro hq3
          clear hK K
          (try simp only [Act.put, List.setIfInBounds_toArray, List.set_cons_zero, List.set_cons_succ])
          refine wpAnyH_ready (rs := [18]) (by kernel_rfl) (by simp) ?_
          refine AllReadyH.cons (o := ?_) ?ho18bl7 ?hst18bl7 AllReadyH.nil
          case ho18bl7 => (simp only [List.getElem?_toArray, List.getElem?_cons_zero, List.getElem?_cons_succ]; rfl)
          intro K hK
          go_simp
          have hlv : LV w6.heap.size (nmO cy) 1 cy 0 ⟨#[]⟩ (w6.alloc (.cells #[.int .i64 3, .int .i64 0, .float .f64 0, .string ({ data := #[110] } ++ { data := #[by'] }), .slice none 0 0, .int .i64 1, .int .i64 cy, .float .f64 0, .string ⟨#[]⟩, .slice none 0 0] 27)) := (by rw [HBY2.out.2]; exact lv_new rfl (by decide : 2 ≤ maxLen) (by decide) (by unfold okI; omega) (by decide) (by decide)); have hq4 := oq_step hq3 (bel_alloc (Below.refl _ _) (.cells #[.int .i64 3, .int .i64 0, .float .f64 0, .string ({ data := #[110] } ++ { data := #[by'] }), .slice none 0 0, .int .i64 1, .int .i64 cy, .float .f64 0, .string ⟨#[]⟩, .slice none 0 0] 27)); have hbd4 := bel_alloc hbd3 (.cells #[.int .i64 3, .int .i64 0, .float .f64 0, .string ({ data := #[110] } ++ { data := #[by'] }), .slice none 0 0, .int .i64 1, .int .i64 cy, .float .f64 0, .string ⟨#[]⟩, .slice none 0 0] 27); clear hq3 hbd3
          go_wp2_with fail
          refine hK.out _ _ ?hs18bl7 (fun hHeld => ?_)
          case hs18bl7 => exact oq_ro hq4
          clear hK K
          (try simp only [Act.put, List.setIfInBounds_toArray, List.set_cons_zero, List.set_cons_succ])
          refine wpAnyH_ready (rs := [19]) (by kernel_rfl) (by simp) ?_
          refine AllReadyH.cons (o := ?_) ?hoDbl7 ?hstDbl7 AllReadyH.nil
          case hoDbl7 => (simp only [List.getElem?_toArray, List.getElem?_cons_zero, List.getElem?_cons_succ]; rfl)
          intro K hK
          go_simp
          have hput := put_fam fam_O (metN (fun t => g ((t + tn) % l)) i) cy hcy2 (repS_rep _ _ _ (repS_step hbd4 HDW.out.2.2)) hlv; go_at_call 12; refine hput.mono ?_; rintro e w8 ⟨tt, vv, rfl, hb8, ht, hv⟩; obtain ⟨Ks, Is, Fs, Ss, qu, mu, du, rfl, _⟩ := repS_shape ht; obtain ⟨rfl, rfl, rfl, rfl⟩ := rep_tab5 (repS_rep _ _ _ ht); obtain ⟨Kv, Iv, Fv, Zv, qv, mv, dv, rfl, _⟩ := repS_shape hv; have hq5 := oq_step hq4 hb8; have hbd5 := bel_step hbd4 hb8; have HTT := Lib.hid ht; have hsz4 := hbd4.size; clear hb8 ht hv hq4 hput hlv hbd4
          go_wp2_with fail
          refine hK.out _ _ ?hsDbl7 (fun hHeld => ?_)
          case hsDbl7 => exact oq_ro hq5
          clear hK K
          (try simp only [Act.put, List.setIfInBounds_toArray, List.set_cons_zero, List.set_cons_succ])
          refine wpAnyH_take (i := 20) (oi := ?_) (v := ?_) ?hibl720 (by kernel_rfl) ?hfbl720 ?hrbl720 ?hQbl720 ?hybl720 (by assumption) ?restbl720
          case hibl720 => (simp only [List.getElem?_toArray, List.getElem?_cons_zero, List.getElem?_cons_succ]; rfl)
          case hfbl720 => kernel_rfl
          case hrbl720 => kernel_rfl
          case hybl720 => (refine Or.inl ⟨by rfl, ?_⟩; intro wS hSw; (try dsimp only at hSw); go_simp; (try with_reducible rfl))
          case hQbl720 => exact fun _ _ _ h => h
          (try simp only [Act.put, List.setIfInBounds_toArray, List.set_cons_zero, List.set_cons_succ])
          refine wpAnyH_take (i := 21) (oi := ?_) (v := ?_) ?hibl721 (by kernel_rfl) ?hfbl721 ?hrbl721 ?hQbl721 ?hybl721 (by assumption) ?restbl721
          case hibl721 => (simp only [List.getElem?_toArray, List.getElem?_cons_zero, List.getElem?_cons_succ]; rfl)
          case hfbl721 => kernel_rfl
          case hrbl721 => kernel_rfl
          case hybl721 => (refine Or.inl ⟨by rfl, ?_⟩; intro wS hSw; (try dsimp only at hSw); go_simp; (try with_reducible rfl))
          case hQbl721 => exact fun _ _ _ h => h
          (try simp only [Act.put, List.setIfInBounds_toArray, List.set_cons_zero, List.set_cons_succ])
          refine wpAnyH_take (i := 22) (oi := ?_) (v := ?_) ?hibl722 (by kernel_rfl) ?hfbl722 ?hrbl722 ?hQbl722 ?hybl722 (by assumption) ?restbl722
          case hibl722 => (simp only [List.getElem?_toArray, List.getElem?_cons_zero, List.getElem?_cons_succ]; rfl)
          case hfbl722 => kernel_rfl
          case hrbl722 => kernel_rfl
          case hybl722 => (refine Or.inl ⟨by rfl, ?_⟩; intro wS hSw; (try dsimp only at hSw); go_simp; (try with_reducible rfl))
          case hQbl722 => exact fun _ _ _ h => h
          (try simp only [Act.put, List.setIfInBounds_toArray, List.set_cons_zero, List.set_cons_succ])
          refine wpAnyH_take (i := 23) (oi := ?_) (v := ?_) ?hibl723 (by kernel_rfl) ?hfbl723 ?hrbl723 ?hQbl723 ?hybl723 (by assumption) ?restbl723
          case hibl723 => (simp only [List.getElem?_toArray, List.getElem?_cons_zero, List.getElem?_cons_succ]; rfl)
          case hfbl723 => kernel_rfl
          case hrbl723 => kernel_rfl
          case hybl723 => (refine Or.inl ⟨by rfl, ?_⟩; intro wS hSw; (try dsimp only at hSw); go_simp; (try with_reducible rfl))
          case hQbl723 => exact fun _ _ _ h => h
          (try simp only [Act.put, List.setIfInBounds_toArray, List.set_cons_zero, List.set_cons_succ])
          refine wpAnyH_ready (rs := [24]) (by kernel_rfl) (by simp) ?_
          refine AllReadyH.cons (o := ?_) ?hoSbl7 ?hstSbl7 AllReadyH.nil
          case hoSbl7 => (simp only [List.getElem?_toArray, List.getElem?_cons_zero, List.getElem?_cons_succ]; rfl)
          intro K hK
          have b40 := hq5.2.2.2.2.2.2.1; have b41 := hq5.2.2.2.2.2.2.2.1; have b42 := hq5.2.2.2.2.2.2.2.2.1; have b43 := hq5.2.2.2.2.2.2.2.2.2.1; have b44 := hq5.2.2.2.2.2.2.2.2.2.2.1; have b4f := hq5.2.2.2.2.2.2.2.2.2.2.2.2.2; have b4l := cell_lt b40; go_simp
          have hq6 := oq_set2 hnb' h1 h2 h3 hq5 (.int .i64 4) (.int .i64 0) (.float .f64 0) (.string ⟨#[]⟩) (.slice qu mu du)
          go_wp2_with fail
          refine hK.out _ _ ?hsSbl7 (fun hHeld => ?_)
          case hsSbl7 => exact oq_ro hq6
          clear hK K
          (try simp only [Act.put, List.setIfInBounds_toArray, List.set_cons_zero, List.set_cons_succ])
          refine wpAnyH_take (i := 25) (oi := ?_) (v := ?_) ?hibl725 (by kernel_rfl) ?hfbl725 ?hrbl725 ?hQbl725 ?hybl725 (by assumption) ?restbl725
          case hibl725 => (simp only [List.getElem?_toArray, List.getElem?_cons_zero, List.getElem?_cons_succ]; rfl)
          case hfbl725 => kernel_rfl
          case hrbl725 => kernel_rfl
          case hybl725 => (refine Or.inl ⟨by rfl, ?_⟩; intro wS hSw; (try dsimp only at hSw); go_simp; (try with_reducible rfl))
          case hQbl725 => exact fun _ _ _ h => h
          (try simp only [Act.put, List.setIfInBounds_toArray, List.set_cons_zero, List.set_cons_succ])
          refine wpAnyH_done (by kernel_rfl) ?_ _
          have hab1 : ab < Wdb.heap.size := cell_lt HDW.out.1.2.1
          have hab2 : bb < Wdb.heap.size := cell_lt HDW.out.1.2.2.2.2.2.2.1
          have hmet : (fun c => metN (fun t => g ((t + tn) % l)) i c || c == cy) = metN (fun t => g ((t + tn) % l)) (i + 1) := by rw [← HGK2.out]; exact metN_succ (fun t => g ((t + tn) % l)) i
          rw [hmet] at HTT
          have HGF := Lib.hid (show BW w ab bb qt mt dt qu mu du (((((w8.setCell ⟨bb, 0, none⟩ (.int .i64 4)).setCell ⟨bb, 1, none⟩ (.int .i64 0)).setCell ⟨bb, 2, none⟩ (.float .f64 0)).setCell ⟨bb, 3, none⟩ (.string ⟨#[]⟩)).setCell ⟨bb, 4, none⟩ (.slice qu mu du)) ∧ RepS (fun b => ab < b ∧ bb < b) (((((w8.setCell ⟨bb, 0, none⟩ (.int .i64 4)).setCell ⟨bb, 1, none⟩ (.int .i64 0)).setCell ⟨bb, 2, none⟩ (.float .f64 0)).setCell ⟨bb, 3, none⟩ (.string ⟨#[]⟩)).setCell ⟨bb, 4, none⟩ (.slice qu mu du)) 3 (.agg #[.int .i64 4, .int .i64 0, .float .f64 0, .string ⟨#[]⟩, .slice qt mt dt]) (tableT 0 (setE 26 fO (metN g (i + 1)))) ∧ RepS (fun b => ab < b ∧ bb < b) (((((w8.setCell ⟨bb, 0, none⟩ (.int .i64 4)).setCell ⟨bb, 1, none⟩ (.int .i64 0)).setCell ⟨bb, 2, none⟩ (.float .f64 0)).setCell ⟨bb, 3, none⟩ (.string ⟨#[]⟩)).setCell ⟨bb, 4, none⟩ (.slice qu mu du)) 3 (.agg #[.int .i64 4, .int .i64 0, .float .f64 0, .string ⟨#[]⟩, .slice qu mu du]) (tableT 0 (setE 26 fO (metN (fun t => g ((t + tn) % l)) (i + 1)))) from ⟨bw_of hq6, repS_set (repS_step hbd5 HDW.out.2.1) (fun b hb => by have h := hb.1; have h2 := hb.2; omega), repS_set (repS_mono (fun b (hb : _ ≤ b) => ⟨by omega, by omega⟩) _ _ _ HTT.out) (fun b hb => by have h := hb.1; have h2 := hb.2; omega)⟩)
          clear hq6 hq5 hbd5 HTT hsz4 HDW hHeld HPb HRAb HRBb hab1 hab2 hmet b40 b41 b42 b43 b44 b4f b4l
          revert HGF
          generalize (((((w8.setCell ⟨bb, 0, none⟩ (.int .i64 4)).setCell ⟨bb, 1, none⟩ (.int .i64 0)).setCell ⟨bb, 2, none⟩ (.float .f64 0)).setCell ⟨bb, 3, none⟩ (.string ⟨#[]⟩)).setCell ⟨bb, 4, none⟩ (.slice qu mu du)) = Wg
          intro HGF
          go_wp2_with fail
          go_meet
          exact ⟨rfl, qu, mu, du, HGF.out⟩
        case hstX7b =>
          intro K hK
          go_simp
          have hq1 := oq_step hq0 (bel_alloc (Below.refl _ _) (.cells #[.int .u8 (97 + (cy : Int))] 5)); have hbd1 := bel_alloc hbd0 (.cells #[.int .u8 (97 + (cy : Int))] 5); have hrow := row_alloc Wdb #[.int .u8 (97 + (cy : Int))] 5; clear hq0 hbd0
          go_wp2_with fail
          refine hK.out _ _ ?hsX7b (fun hHeld => ?_)
          case hsX7b => exact oq_ro hq1
          clear hK K
          (try simp only [Act.put, List.setIfInBounds_toArray, List.set_cons_zero, List.set_cons_succ])
          refine wpAnyH_ready (rs := [0, 8]) (by kernel_rfl) (by simp) ?_
          refine AllReadyH.cons (o := ?_) ?hoL8b ?hstL8b (AllReadyH.cons (o := ?_) ?hoX8b ?hstX8b AllReadyH.nil)
          case hoL8b => (simp only [List.getElem?_toArray, List.getElem?_cons_zero, List.getElem?_cons_succ]; rfl)
          case hoX8b => (simp only [List.getElem?_toArray, List.getElem?_cons_zero, List.getElem?_cons_succ]; rfl)
          case hstL8b =>
            intro K hK
            have xx0 := hq1.2.2.2.2.2.2.1; have xx1 := hq1.2.2.2.2.2.2.2.1; have xx2 := hq1.2.2.2.2.2.2.2.2.1; have xx3 := hq1.2.2.2.2.2.2.2.2.2.1; have xx4 := hq1.2.2.2.2.2.2.2.2.2.2.1; have xl := cell_lt xx0; go_simp
            clear xx0 xx1 xx2 xx3 xx4 xl
            go_wp2_with fail
            refine hK.out _ _ ?hsL8b (fun hHeld => ?_)
            case hsL8b => exact oq_ro hq1
            clear hK K
            (try simp only [Act.put, List.setIfInBounds_toArray, List.set_cons_zero, List.set_cons_succ])
            refine wpAnyH_ready (rs := [8]) (by kernel_rfl) (by simp) ?_
            refine AllReadyH.cons (o := ?_) ?ho8bl8 ?hst8bl8 AllReadyH.nil
            case ho8bl8 => (simp only [List.getElem?_toArray, List.getElem?_cons_zero, List.getElem?_cons_succ]; rfl)
            intro K hK
            have hcv := conv1 (cap := 1) (b := by') HBY2.out.1 hrow; go_simp
            clear hcv hrow
            go_wp2_with fail
            refine hK.out _ _ ?hs8bl8 (fun hHeld => ?_)
            case hs8bl8 => exact oq_ro hq1
            clear hK K
            (try simp only [Act.put, List.setIfInBounds_toArray, List.set_cons_zero, List.set_cons_succ])
            refine wpAnyH_take (i := 9) (oi := ?_) (v := ?_) ?hibl89 (by kernel_rfl) ?hfbl89 ?hrbl89 ?hQbl89 ?hybl89 (by assumption) ?restbl89
            case hibl89 => (simp only [List.getElem?_toArray, List.getElem?_cons_zero, List.getElem?_cons_succ]; rfl)
            case hfbl89 => kernel_rfl
            case hrbl89 => kernel_rfl
            case hybl89 => (refine Or.inl ⟨by rfl, ?_⟩; intro wS hSw; (try dsimp only at hSw); go_simp; (try with_reducible rfl))
            case hQbl89 => exact fun _ _ _ h => h
            (try simp only [Act.put, List.setIfInBounds_toArray, List.set_cons_zero, List.set_cons_succ])
            refine wpAnyH_ready (rs := [10]) (by kernel_rfl) (by simp) ?_
            refine AllReadyH.cons (o := ?_) ?ho10bl8 ?hst10bl8 AllReadyH.nil
            case ho10bl8 => (simp only [List.getElem?_toArray, List.getElem?_cons_zero, List.getElem?_cons_succ]; rfl)
            intro K hK
            go_simp
            go_at_call 19; refine (text_ref_any _ _).mono ?_; rintro e w5 ⟨rfl, hb5⟩; have hq2 := oq_step hq1 hb5; have hbd2 := bel_step hbd1 hb5; clear hb5 hq1 hbd1
            go_wp2_with fail
            refine hK.out _ _ ?hs10bl8 (fun hHeld => ?_)
            case hs10bl8 => exact oq_ro hq2
            clear hK K
            (try simp only [Act.put, List.setIfInBounds_toArray, List.set_cons_zero, List.set_cons_succ])
            refine wpAnyH_ready (rs := [17]) (by kernel_rfl) (by simp) ?_
            refine AllReadyH.cons (o := ?_) ?ho17bl8 ?hst17bl8 AllReadyH.nil
            case ho17bl8 => (simp only [List.getElem?_toArray, List.getElem?_cons_zero, List.getElem?_cons_succ]; rfl)
            intro K hK
            go_simp
            go_at_call 20; refine (int_ref_any _ _).mono ?_; rintro e w6 ⟨rfl, hb6⟩; have hq3 := oq_step hq2 hb6; have hbd3 := bel_step hbd2 hb6; clear hb6 hq2 hbd2
            go_wp2_with fail
            refine hK.out _ _ ?hs17bl8 (fun hHeld => ?_)
            case hs17bl8 => exact oq_ro hq3
            clear hK K
            (try simp only [Act.put, List.setIfInBounds_toArray, List.set_cons_zero, List.set_cons_succ])
            refine wpAnyH_ready (rs := [18]) (by kernel_rfl) (by simp) ?_
            refine AllReadyH.cons (o := ?_) ?ho18bl8 ?hst18bl8 AllReadyH.nil
            case ho18bl8 => (simp only [List.getElem?_toArray, List.getElem?_cons_zero, List.getElem?_cons_succ]; rfl)
            intro K hK
            go_simp
            have hlv : LV w6.heap.size (nmO cy) 1 cy 0 ⟨#[]⟩ (w6.alloc (.cells #[.int .i64 3, .int .i64 0, .float .f64 0, .string ({ data := #[110] } ++ { data := #[by'] }), .slice none 0 0, .int .i64 1, .int .i64 cy, .float .f64 0, .string ⟨#[]⟩, .slice none 0 0] 27)) := (by rw [HBY2.out.2]; exact lv_new rfl (by decide : 2 ≤ maxLen) (by decide) (by unfold okI; omega) (by decide) (by decide)); have hq4 := oq_step hq3 (bel_alloc (Below.refl _ _) (.cells #[.int .i64 3, .int .i64 0, .float .f64 0, .string ({ data := #[110] } ++ { data := #[by'] }), .slice none 0 0, .int .i64 1, .int .i64 cy, .float .f64 0, .string ⟨#[]⟩, .slice none 0 0] 27)); have hbd4 := bel_alloc hbd3 (.cells #[.int .i64 3, .int .i64 0, .float .f64 0, .string ({ data := #[110] } ++ { data := #[by'] }), .slice none 0 0, .int .i64 1, .int .i64 cy, .float .f64 0, .string ⟨#[]⟩, .slice none 0 0] 27); clear hq3 hbd3
            go_wp2_with fail
            refine hK.out _ _ ?hs18bl8 (fun hHeld => ?_)
            case hs18bl8 => exact oq_ro hq4
            clear hK K
            (try simp only [Act.put, List.setIfInBounds_toArray, List.set_cons_zero, List.set_cons_succ])
            refine wpAnyH_ready (rs := [19]) (by kernel_rfl) (by simp) ?_
            refine AllReadyH.cons (o := ?_) ?hoDbl8 ?hstDbl8 AllReadyH.nil
            case hoDbl8 => (simp only [List.getElem?_toArray, List.getElem?_cons_zero, List.getElem?_cons_succ]; rfl)
            intro K hK
            go_simp
            have hput := put_fam fam_O (metN (fun t => g ((t + tn) % l)) i) cy hcy2 (repS_rep _ _ _ (repS_step hbd4 HDW.out.2.2)) hlv; go_at_call 12; refine hput.mono ?_; rintro e w8 ⟨tt, vv, rfl, hb8, ht, hv⟩; obtain ⟨Ks, Is, Fs, Ss, qu, mu, du, rfl, _⟩ := repS_shape ht; obtain ⟨rfl, rfl, rfl, rfl⟩ := rep_tab5 (repS_rep _ _ _ ht); obtain ⟨Kv, Iv, Fv, Zv, qv, mv, dv, rfl, _⟩ := repS_shape hv; have hq5 := oq_step hq4 hb8; have hbd5 := bel_step hbd4 hb8; have HTT := Lib.hid ht; have hsz4 := hbd4.size; clear hb8 ht hv hq4 hput hlv hbd4
            go_wp2_with fail
            refine hK.out _ _ ?hsDbl8 (fun hHeld => ?_)
            case hsDbl8 => exact oq_ro hq5
            clear hK K
            (try simp only [Act.put, List.setIfInBounds_toArray, List.set_cons_zero, List.set_cons_succ])
            refine wpAnyH_take (i := 20) (oi := ?_) (v := ?_) ?hibl820 (by kernel_rfl) ?hfbl820 ?hrbl820 ?hQbl820 ?hybl820 (by assumption) ?restbl820
            case hibl820 => (simp only [List.getElem?_toArray, List.getElem?_cons_zero, List.getElem?_cons_succ]; rfl)
            case hfbl820 => kernel_rfl
            case hrbl820 => kernel_rfl
            case hybl820 => (refine Or.inl ⟨by rfl, ?_⟩; intro wS hSw; (try dsimp only at hSw); go_simp; (try with_reducible rfl))
            case hQbl820 => exact fun _ _ _ h => h
            (try simp only [Act.put, List.setIfInBounds_toArray, List.set_cons_zero, List.set_cons_succ])
            refine wpAnyH_take (i := 21) (oi := ?_) (v := ?_) ?hibl821 (by kernel_rfl) ?hfbl821 ?hrbl821 ?hQbl821 ?hybl821 (by assumption) ?restbl821
            case hibl821 => (simp only [List.getElem?_toArray, List.getElem?_cons_zero, List.getElem?_cons_succ]; rfl)
            case hfbl821 => kernel_rfl
            case hrbl821 => kernel_rfl
            case hybl821 => (refine Or.inl ⟨by rfl, ?_⟩; intro wS hSw; (try dsimp only at hSw); go_simp; (try with_reducible rfl))
            case hQbl821 => exact fun _ _ _ h => h
            (try simp only [Act.put, List.setIfInBounds_toArray, List.set_cons_zero, List.set_cons_succ])
            refine wpAnyH_take (i := 22) (oi := ?_) (v := ?_) ?hibl822 (by kernel_rfl) ?hfbl822 ?hrbl822 ?hQbl822 ?hybl822 (by assumption) ?restbl822
            case hibl822 => (simp only [List.getElem?_toArray, List.getElem?_cons_zero, List.getElem?_cons_succ]; rfl)
            case hfbl822 => kernel_rfl
            case hrbl822 => kernel_rfl
            case hybl822 => (refine Or.inl ⟨by rfl, ?_⟩; intro wS hSw; (try dsimp only at hSw); go_simp; (try with_reducible rfl))
            case hQbl822 => exact fun _ _ _ h => h
            (try simp only [Act.put, List.setIfInBounds_toArray, List.set_cons_zero, List.set_cons_succ])
            refine wpAnyH_take (i := 23) (oi := ?_) (v := ?_) ?hibl823 (by kernel_rfl) ?hfbl823 ?hrbl823 ?hQbl823 ?hybl823 (by assumption) ?restbl823
            case hibl823 => (simp only [List.getElem?_toArray, List.getElem?_cons_zero, List.getElem?_cons_succ]; rfl)
            case hfbl823 => kernel_rfl
            case hrbl823 => kernel_rfl
            case hybl823 => (refine Or.inl ⟨by rfl, ?_⟩; intro wS hSw; (try dsimp only at hSw); go_simp; (try with_reducible rfl))
            case hQbl823 => exact fun _ _ _ h => h
            (try simp only [Act.put, List.setIfInBounds_toArray, List.set_cons_zero, List.set_cons_succ])
            refine wpAnyH_ready (rs := [24]) (by kernel_rfl) (by simp) ?_
            refine AllReadyH.cons (o := ?_) ?hoSbl8 ?hstSbl8 AllReadyH.nil
            case hoSbl8 => (simp only [List.getElem?_toArray, List.getElem?_cons_zero, List.getElem?_cons_succ]; rfl)
            intro K hK
            have b40 := hq5.2.2.2.2.2.2.1; have b41 := hq5.2.2.2.2.2.2.2.1; have b42 := hq5.2.2.2.2.2.2.2.2.1; have b43 := hq5.2.2.2.2.2.2.2.2.2.1; have b44 := hq5.2.2.2.2.2.2.2.2.2.2.1; have b4f := hq5.2.2.2.2.2.2.2.2.2.2.2.2.2; have b4l := cell_lt b40; go_simp
            have hq6 := oq_set2 hnb' h1 h2 h3 hq5 (.int .i64 4) (.int .i64 0) (.float .f64 0) (.string ⟨#[]⟩) (.slice qu mu du)
            go_wp2_with fail
            refine hK.out _ _ ?hsSbl8 (fun hHeld => ?_)
            case hsSbl8 => exact oq_ro hq6
            clear hK K
            (try simp only [Act.put, List.setIfInBounds_toArray, List.set_cons_zero, List.set_cons_succ])
            refine wpAnyH_take (i := 25) (oi := ?_) (v := ?_) ?hibl825 (by kernel_rfl) ?hfbl825 ?hrbl825 ?hQbl825 ?hybl825 (by assumption) ?restbl825
            case hibl825 => (simp only [List.getElem?_toArray, List.getElem?_cons_zero, List.getElem?_cons_succ]; rfl)
            case hfbl825 => kernel_rfl
            case hrbl825 => kernel_rfl
            case hybl825 => (refine Or.inl ⟨by rfl, ?_⟩; intro wS hSw; (try dsimp only at hSw); go_simp; (try with_reducible rfl))
            case hQbl825 => exact fun _ _ _ h => h
            (try simp only [Act.put, List.setIfInBounds_toArray, List.set_cons_zero, List.set_cons_succ])
            refine wpAnyH_done (by kernel_rfl) ?_ _
            have hab1 : ab < Wdb.heap.size := cell_lt HDW.out.1.2.1
            have hab2 : bb < Wdb.heap.size := cell_lt HDW.out.1.2.2.2.2.2.2.1
            have hmet : (fun c => metN (fun t => g ((t + tn) % l)) i c || c == cy) = metN (fun t => g ((t + tn) % l)) (i + 1) := by rw [← HGK2.out]; exact metN_succ (fun t => g ((t + tn) % l)) i
            rw [hmet] at HTT
            have HGF := Lib.hid (show BW w ab bb qt mt dt qu mu du (((((w8.setCell ⟨bb, 0, none⟩ (.int .i64 4)).setCell ⟨bb, 1, none⟩ (.int .i64 0)).setCell ⟨bb, 2, none⟩ (.float .f64 0)).setCell ⟨bb, 3, none⟩ (.string ⟨#[]⟩)).setCell ⟨bb, 4, none⟩ (.slice qu mu du)) ∧ RepS (fun b => ab < b ∧ bb < b) (((((w8.setCell ⟨bb, 0, none⟩ (.int .i64 4)).setCell ⟨bb, 1, none⟩ (.int .i64 0)).setCell ⟨bb, 2, none⟩ (.float .f64 0)).setCell ⟨bb, 3, none⟩ (.string ⟨#[]⟩)).setCell ⟨bb, 4, none⟩ (.slice qu mu du)) 3 (.agg #[.int .i64 4, .int .i64 0, .float .f64 0, .string ⟨#[]⟩, .slice qt mt dt]) (tableT 0 (setE 26 fO (metN g (i + 1)))) ∧ RepS (fun b => ab < b ∧ bb < b) (((((w8.setCell ⟨bb, 0, none⟩ (.int .i64 4)).setCell ⟨bb, 1, none⟩ (.int .i64 0)).setCell ⟨bb, 2, none⟩ (.float .f64 0)).setCell ⟨bb, 3, none⟩ (.string ⟨#[]⟩)).setCell ⟨bb, 4, none⟩ (.slice qu mu du)) 3 (.agg #[.int .i64 4, .int .i64 0, .float .f64 0, .string ⟨#[]⟩, .slice qu mu du]) (tableT 0 (setE 26 fO (metN (fun t => g ((t + tn) % l)) (i + 1)))) from ⟨bw_of hq6, repS_set (repS_step hbd5 HDW.out.2.1) (fun b hb => by have h := hb.1; have h2 := hb.2; omega), repS_set (repS_mono (fun b (hb : _ ≤ b) => ⟨by omega, by omega⟩) _ _ _ HTT.out) (fun b hb => by have h := hb.1; have h2 := hb.2; omega)⟩)
            clear hq6 hq5 hbd5 HTT hsz4 HDW hHeld HPb HRAb HRBb hab1 hab2 hmet b40 b41 b42 b43 b44 b4f b4l
            revert HGF
            generalize (((((w8.setCell ⟨bb, 0, none⟩ (.int .i64 4)).setCell ⟨bb, 1, none⟩ (.int .i64 0)).setCell ⟨bb, 2, none⟩ (.float .f64 0)).setCell ⟨bb, 3, none⟩ (.string ⟨#[]⟩)).setCell ⟨bb, 4, none⟩ (.slice qu mu du)) = Wg
            intro HGF
            go_wp2_with fail
            go_meet
            exact ⟨rfl, qu, mu, du, HGF.out⟩
          case hstX8b =>
            intro K hK
            have hcv := conv1 (cap := 1) (b := by') HBY2.out.1 hrow; go_simp
            clear hcv hrow
            go_wp2_with fail
            refine hK.out _ _ ?hsX8b (fun hHeld => ?_)
            case hsX8b => exact oq_ro hq1
            clear hK K
            (try simp only [Act.put, List.setIfInBounds_toArray, List.set_cons_zero, List.set_cons_succ])
            refine wpAnyH_take (i := 9) (oi := ?_) (v := ?_) ?hib9 (by kernel_rfl) ?hfb9 ?hrb9 ?hQb9 ?hyb9 (by assumption) ?restb9
            case hib9 => (simp only [List.getElem?_toArray, List.getElem?_cons_zero, List.getElem?_cons_succ]; rfl)
            case hfb9 => kernel_rfl
            case hrb9 => kernel_rfl
            case hyb9 => (refine Or.inl ⟨by rfl, ?_⟩; intro wS hSw; (try dsimp only at hSw); go_simp; (try with_reducible rfl))
            case hQb9 => exact fun _ _ _ h => h
            (try simp only [Act.put, List.setIfInBounds_toArray, List.set_cons_zero, List.set_cons_succ])
            refine wpAnyH_ready (rs := [0, 10]) (by kernel_rfl) (by simp) ?_
            refine AllReadyH.cons (o := ?_) ?hoL10b ?hstL10b (AllReadyH.cons (o := ?_) ?hoX10b ?hstX10b AllReadyH.nil)
            case hoL10b => (simp only [List.getElem?_toArray, List.getElem?_cons_zero, List.getElem?_cons_succ]; rfl)
            case hoX10b => (simp only [List.getElem?_toArray, List.getElem?_cons_zero, List.getElem?_cons_succ]; rfl)
            case hstL10b =>
              intro K hK
              have xx0 := hq1.2.2.2.2.2.2.1; have xx1 := hq1.2.2.2.2.2.2.2.1; have xx2 := hq1.2.2.2.2.2.2.2.2.1; have xx3 := hq1.2.2.2.2.2.2.2.2.2.1; have xx4 := hq1.2.2.2.2.2.2.2.2.2.2.1; have xl := cell_lt xx0; go_simp
              clear xx0 xx1 xx2 xx3 xx4 xl
              go_wp2_with fail
              refine hK.out _ _ ?hsL10b (fun hHeld => ?_)
              case hsL10b => exact oq_ro hq1
              clear hK K
              (try simp only [Act.put, List.setIfInBounds_toArray, List.set_cons_zero, List.set_cons_succ])
              refine wpAnyH_ready (rs := [10]) (by kernel_rfl) (by simp) ?_
              refine AllReadyH.cons (o := ?_) ?ho10bl10 ?hst10bl10 AllReadyH.nil
              case ho10bl10 => (simp only [List.getElem?_toArray, List.getElem?_cons_zero, List.getElem?_cons_succ]; rfl)
              intro K hK
              go_simp
              go_at_call 19; refine (text_ref_any _ _).mono ?_; rintro e w5 ⟨rfl, hb5⟩; have hq2 := oq_step hq1 hb5; have hbd2 := bel_step hbd1 hb5; clear hb5 hq1 hbd1
              go_wp2_with fail
              refine hK.out _ _ ?hs10bl10 (fun hHeld => ?_)
              case hs10bl10 => exact oq_ro hq2
              clear hK K
              (try simp only [Act.put, List.setIfInBounds_toArray, List.set_cons_zero, List.set_cons_succ])
              refine wpAnyH_ready (rs := [17]) (by kernel_rfl) (by simp) ?_
              refine AllReadyH.cons (o := ?_) ?ho17bl10 ?hst17bl10 AllReadyH.nil
              case ho17bl10 => (simp only [List.getElem?_toArray, List.getElem?_cons_zero, List.getElem?_cons_succ]; rfl)
              intro K hK
              go_simp
              go_at_call 20; refine (int_ref_any _ _).mono ?_; rintro e w6 ⟨rfl, hb6⟩; have hq3 := oq_step hq2 hb6; have hbd3 := bel_step hbd2 hb6; clear hb6 hq2 hbd2
              go_wp2_with fail
              refine hK.out _ _ ?hs17bl10 (fun hHeld => ?_)
              case hs17bl10 => exact oq_ro hq3
              clear hK K
              (try simp only [Act.put, List.setIfInBounds_toArray, List.set_cons_zero, List.set_cons_succ])
              refine wpAnyH_ready (rs := [18]) (by kernel_rfl) (by simp) ?_
              refine AllReadyH.cons (o := ?_) ?ho18bl10 ?hst18bl10 AllReadyH.nil
              case ho18bl10 => (simp only [List.getElem?_toArray, List.getElem?_cons_zero, List.getElem?_cons_succ]; rfl)
              intro K hK
              go_simp
              have hlv : LV w6.heap.size (nmO cy) 1 cy 0 ⟨#[]⟩ (w6.alloc (.cells #[.int .i64 3, .int .i64 0, .float .f64 0, .string ({ data := #[110] } ++ { data := #[by'] }), .slice none 0 0, .int .i64 1, .int .i64 cy, .float .f64 0, .string ⟨#[]⟩, .slice none 0 0] 27)) := (by rw [HBY2.out.2]; exact lv_new rfl (by decide : 2 ≤ maxLen) (by decide) (by unfold okI; omega) (by decide) (by decide)); have hq4 := oq_step hq3 (bel_alloc (Below.refl _ _) (.cells #[.int .i64 3, .int .i64 0, .float .f64 0, .string ({ data := #[110] } ++ { data := #[by'] }), .slice none 0 0, .int .i64 1, .int .i64 cy, .float .f64 0, .string ⟨#[]⟩, .slice none 0 0] 27)); have hbd4 := bel_alloc hbd3 (.cells #[.int .i64 3, .int .i64 0, .float .f64 0, .string ({ data := #[110] } ++ { data := #[by'] }), .slice none 0 0, .int .i64 1, .int .i64 cy, .float .f64 0, .string ⟨#[]⟩, .slice none 0 0] 27); clear hq3 hbd3
              go_wp2_with fail
              refine hK.out _ _ ?hs18bl10 (fun hHeld => ?_)
              case hs18bl10 => exact oq_ro hq4
              clear hK K
              (try simp only [Act.put, List.setIfInBounds_toArray, List.set_cons_zero, List.set_cons_succ])
              refine wpAnyH_ready (rs := [19]) (by kernel_rfl) (by simp) ?_
              refine AllReadyH.cons (o := ?_) ?hoDbl10 ?hstDbl10 AllReadyH.nil
              case hoDbl10 => (simp only [List.getElem?_toArray, List.getElem?_cons_zero, List.getElem?_cons_succ]; rfl)
              intro K hK
              go_simp
              have hput := put_fam fam_O (metN (fun t => g ((t + tn) % l)) i) cy hcy2 (repS_rep _ _ _ (repS_step hbd4 HDW.out.2.2)) hlv; go_at_call 12; refine hput.mono ?_; rintro e w8 ⟨tt, vv, rfl, hb8, ht, hv⟩; obtain ⟨Ks, Is, Fs, Ss, qu, mu, du, rfl, _⟩ := repS_shape ht; obtain ⟨rfl, rfl, rfl, rfl⟩ := rep_tab5 (repS_rep _ _ _ ht); obtain ⟨Kv, Iv, Fv, Zv, qv, mv, dv, rfl, _⟩ := repS_shape hv; have hq5 := oq_step hq4 hb8; have hbd5 := bel_step hbd4 hb8; have HTT := Lib.hid ht; have hsz4 := hbd4.size; clear hb8 ht hv hq4 hput hlv hbd4
              go_wp2_with fail
              refine hK.out _ _ ?hsDbl10 (fun hHeld => ?_)
              case hsDbl10 => exact oq_ro hq5
              clear hK K
              (try simp only [Act.put, List.setIfInBounds_toArray, List.set_cons_zero, List.set_cons_succ])
              refine wpAnyH_take (i := 20) (oi := ?_) (v := ?_) ?hibl1020 (by kernel_rfl) ?hfbl1020 ?hrbl1020 ?hQbl1020 ?hybl1020 (by assumption) ?restbl1020
              case hibl1020 => (simp only [List.getElem?_toArray, List.getElem?_cons_zero, List.getElem?_cons_succ]; rfl)
              case hfbl1020 => kernel_rfl
              case hrbl1020 => kernel_rfl
              case hybl1020 => (refine Or.inl ⟨by rfl, ?_⟩; intro wS hSw; (try dsimp only at hSw); go_simp; (try with_reducible rfl))
              case hQbl1020 => exact fun _ _ _ h => h
              (try simp only [Act.put, List.setIfInBounds_toArray, List.set_cons_zero, List.set_cons_succ])
              refine wpAnyH_take (i := 21) (oi := ?_) (v := ?_) ?hibl1021 (by kernel_rfl) ?hfbl1021 ?hrbl1021 ?hQbl1021 ?hybl1021 (by assumption) ?restbl1021
              case hibl1021 => (simp only [List.getElem?_toArray, List.getElem?_cons_zero, List.getElem?_cons_succ]; rfl)
              case hfbl1021 => kernel_rfl
              case hrbl1021 => kernel_rfl
              case hybl1021 => (refine Or.inl ⟨by rfl, ?_⟩; intro wS hSw; (try dsimp only at hSw); go_simp; (try with_reducible rfl))
              case hQbl1021 => exact fun _ _ _ h => h
              (try simp only [Act.put, List.setIfInBounds_toArray, List.set_cons_zero, List.set_cons_succ])
              refine wpAnyH_take (i := 22) (oi := ?_) (v := ?_) ?hibl1022 (by kernel_rfl) ?hfbl1022 ?hrbl1022 ?hQbl1022 ?hybl1022 (by assumption) ?restbl1022
              case hibl1022 => (simp only [List.getElem?_toArray, List.getElem?_cons_zero, List.getElem?_cons_succ]; rfl)
              case hfbl1022 => kernel_rfl
              case hrbl1022 => kernel_rfl
              case hybl1022 => (refine Or.inl ⟨by rfl, ?_⟩; intro wS hSw; (try dsimp only at hSw); go_simp; (try with_reducible rfl))
              case hQbl1022 => exact fun _ _ _ h => h
              (try simp only [Act.put, List.setIfInBounds_toArray, List.set_cons_zero, List.set_cons_succ])
              refine wpAnyH_take (i := 23) (oi := ?_) (v := ?_) ?hibl1023 (by kernel_rfl) ?hfbl1023 ?hrbl1023 ?hQbl1023 ?hybl1023 (by assumption) ?restbl1023
              case hibl1023 => (simp only [List.getElem?_toArray, List.getElem?_cons_zero, List.getElem?_cons_succ]; rfl)
              case hfbl1023 => kernel_rfl
              case hrbl1023 => kernel_rfl
              case hybl1023 => (refine Or.inl ⟨by rfl, ?_⟩; intro wS hSw; (try dsimp only at hSw); go_simp; (try with_reducible rfl))
              case hQbl1023 => exact fun _ _ _ h => h
              (try simp only [Act.put, List.setIfInBounds_toArray, List.set_cons_zero, List.set_cons_succ])
              refine wpAnyH_ready (rs := [24]) (by kernel_rfl) (by simp) ?_
              refine AllReadyH.cons (o := ?_) ?hoSbl10 ?hstSbl10 AllReadyH.nil
              case hoSbl10 => (simp only [List.getElem?_toArray, List.getElem?_cons_zero, List.getElem?_cons_succ]; rfl)
              intro K hK
              have b40 := hq5.2.2.2.2.2.2.1; have b41 := hq5.2.2.2.2.2.2.2.1; have b42 := hq5.2.2.2.2.2.2.2.2.1; have b43 := hq5.2.2.2.2.2.2.2.2.2.1; have b44 := hq5.2.2.2.2.2.2.2.2.2.2.1; have b4f := hq5.2.2.2.2.2.2.2.2.2.2.2.2.2; have b4l := cell_lt b40; go_simp
              have hq6 := oq_set2 hnb' h1 h2 h3 hq5 (.int .i64 4) (.int .i64 0) (.float .f64 0) (.string ⟨#[]⟩) (.slice qu mu du)
              go_wp2_with fail
              refine hK.out _ _ ?hsSbl10 (fun hHeld => ?_)
              case hsSbl10 => exact oq_ro hq6
              clear hK K
              (try simp only [Act.put, List.setIfInBounds_toArray, List.set_cons_zero, List.set_cons_succ])
              refine wpAnyH_take (i := 25) (oi := ?_) (v := ?_) ?hibl1025 (by kernel_rfl) ?hfbl1025 ?hrbl1025 ?hQbl1025 ?hybl1025 (by assumption) ?restbl1025
              case hibl1025 => (simp only [List.getElem?_toArray, List.getElem?_cons_zero, List.getElem?_cons_succ]; rfl)
              case hfbl1025 => kernel_rfl
              case hrbl1025 => kernel_rfl
              case hybl1025 => (refine Or.inl ⟨by rfl, ?_⟩; intro wS hSw; (try dsimp only at hSw); go_simp; (try with_reducible rfl))
              case hQbl1025 => exact fun _ _ _ h => h
              (try simp only [Act.put, List.setIfInBounds_toArray, List.set_cons_zero, List.set_cons_succ])
              refine wpAnyH_done (by kernel_rfl) ?_ _
              have hab1 : ab < Wdb.heap.size := cell_lt HDW.out.1.2.1
              have hab2 : bb < Wdb.heap.size := cell_lt HDW.out.1.2.2.2.2.2.2.1
              have hmet : (fun c => metN (fun t => g ((t + tn) % l)) i c || c == cy) = metN (fun t => g ((t + tn) % l)) (i + 1) := by rw [← HGK2.out]; exact metN_succ (fun t => g ((t + tn) % l)) i
              rw [hmet] at HTT
              have HGF := Lib.hid (show BW w ab bb qt mt dt qu mu du (((((w8.setCell ⟨bb, 0, none⟩ (.int .i64 4)).setCell ⟨bb, 1, none⟩ (.int .i64 0)).setCell ⟨bb, 2, none⟩ (.float .f64 0)).setCell ⟨bb, 3, none⟩ (.string ⟨#[]⟩)).setCell ⟨bb, 4, none⟩ (.slice qu mu du)) ∧ RepS (fun b => ab < b ∧ bb < b) (((((w8.setCell ⟨bb, 0, none⟩ (.int .i64 4)).setCell ⟨bb, 1, none⟩ (.int .i64 0)).setCell ⟨bb, 2, none⟩ (.float .f64 0)).setCell ⟨bb, 3, none⟩ (.string ⟨#[]⟩)).setCell ⟨bb, 4, none⟩ (.slice qu mu du)) 3 (.agg #[.int .i64 4, .int .i64 0, .float .f64 0, .string ⟨#[]⟩, .slice qt mt dt]) (tableT 0 (setE 26 fO (metN g (i + 1)))) ∧ RepS (fun b => ab < b ∧ bb < b) (((((w8.setCell ⟨bb, 0, none⟩ (.int .i64 4)).setCell ⟨bb, 1, none⟩ (.int .i64 0)).setCell ⟨bb, 2, none⟩ (.float .f64 0)).setCell ⟨bb, 3, none⟩ (.string ⟨#[]⟩)).setCell ⟨bb, 4, none⟩ (.slice qu mu du)) 3 (.agg #[.int .i64 4, .int .i64 0, .float .f64 0, .string ⟨#[]⟩, .slice qu mu du]) (tableT 0 (setE 26 fO (metN (fun t => g ((t + tn) % l)) (i + 1)))) from ⟨bw_of hq6, repS_set (repS_step hbd5 HDW.out.2.1) (fun b hb => by have h := hb.1; have h2 := hb.2; omega), repS_set (repS_mono (fun b (hb : _ ≤ b) => ⟨by omega, by omega⟩) _ _ _ HTT.out) (fun b hb => by have h := hb.1; have h2 := hb.2; omega)⟩)
              clear hq6 hq5 hbd5 HTT hsz4 HDW hHeld HPb HRAb HRBb hab1 hab2 hmet b40 b41 b42 b43 b44 b4f b4l
              revert HGF
              generalize (((((w8.setCell ⟨bb, 0, none⟩ (.int .i64 4)).setCell ⟨bb, 1, none⟩ (.int .i64 0)).setCell ⟨bb, 2, none⟩ (.float .f64 0)).setCell ⟨bb, 3, none⟩ (.string ⟨#[]⟩)).setCell ⟨bb, 4, none⟩ (.slice qu mu du)) = Wg
              intro HGF
              go_wp2_with fail
              go_meet
              exact ⟨rfl, qu, mu, du, HGF.out⟩
            case hstX10b =>
              intro K hK
              go_simp
              go_at_call 19; refine (text_ref_any _ _).mono ?_; rintro e w5 ⟨rfl, hb5⟩; have hq2 := oq_step hq1 hb5; have hbd2 := bel_step hbd1 hb5; clear hb5 hq1 hbd1
              go_wp2_with fail
              refine hK.out _ _ ?hsX10b (fun hHeld => ?_)
              case hsX10b => exact oq_ro hq2
              clear hK K
              (try simp only [Act.put, List.setIfInBounds_toArray, List.set_cons_zero, List.set_cons_succ])
              refine wpAnyH_ready (rs := [0, 17]) (by kernel_rfl) (by simp) ?_
              refine AllReadyH.cons (o := ?_) ?hoL17b ?hstL17b (AllReadyH.cons (o := ?_) ?hoX17b ?hstX17b AllReadyH.nil)
              case hoL17b => (simp only [List.getElem?_toArray, List.getElem?_cons_zero, List.getElem?_cons_succ]; rfl)
              case hoX17b => (simp only [List.getElem?_toArray, List.getElem?_cons_zero, List.getElem?_cons_succ]; rfl)
              case hstL17b =>
                intro K hK
                have xx0 := hq2.2.2.2.2.2.2.1; have xx1 := hq2.2.2.2.2.2.2.2.1; have xx2 := hq2.2.2.2.2.2.2.2.2.1; have xx3 := hq2.2.2.2.2.2.2.2.2.2.1; have xx4 := hq2.2.2.2.2.2.2.2.2.2.2.1; have xl := cell_lt xx0; go_simp
                clear xx0 xx1 xx2 xx3 xx4 xl
                go_wp2_with fail
                refine hK.out _ _ ?hsL17b (fun hHeld => ?_)
                case hsL17b => exact oq_ro hq2
                clear hK K
                (try simp only [Act.put, List.setIfInBounds_toArray, List.set_cons_zero, List.set_cons_succ])
                refine wpAnyH_ready (rs := [17]) (by kernel_rfl) (by simp) ?_
                refine AllReadyH.cons (o := ?_) ?ho17bl17 ?hst17bl17 AllReadyH.nil
                case ho17bl17 => (simp only [List.getElem?_toArray, List.getElem?_cons_zero, List.getElem?_cons_succ]; rfl)
                intro K hK
                go_simp
                go_at_call 20; refine (int_ref_any _ _).mono ?_; rintro e w6 ⟨rfl, hb6⟩; have hq3 := oq_step hq2 hb6; have hbd3 := bel_step hbd2 hb6; clear hb6 hq2 hbd2
                go_wp2_with fail
                refine hK.out _ _ ?hs17bl17 (fun hHeld => ?_)
                case hs17bl17 => exact oq_ro hq3
                clear hK K
                (try simp only [Act.put, List.setIfInBounds_toArray, List.set_cons_zero, List.set_cons_succ])
                refine wpAnyH_ready (rs := [18]) (by kernel_rfl) (by simp) ?_
                refine AllReadyH.cons (o := ?_) ?ho18bl17 ?hst18bl17 AllReadyH.nil
                case ho18bl17 => (simp only [List.getElem?_toArray, List.getElem?_cons_zero, List.getElem?_cons_succ]; rfl)
                intro K hK
                go_simp
                have hlv : LV w6.heap.size (nmO cy) 1 cy 0 ⟨#[]⟩ (w6.alloc (.cells #[.int .i64 3, .int .i64 0, .float .f64 0, .string ({ data := #[110] } ++ { data := #[by'] }), .slice none 0 0, .int .i64 1, .int .i64 cy, .float .f64 0, .string ⟨#[]⟩, .slice none 0 0] 27)) := (by rw [HBY2.out.2]; exact lv_new rfl (by decide : 2 ≤ maxLen) (by decide) (by unfold okI; omega) (by decide) (by decide)); have hq4 := oq_step hq3 (bel_alloc (Below.refl _ _) (.cells #[.int .i64 3, .int .i64 0, .float .f64 0, .string ({ data := #[110] } ++ { data := #[by'] }), .slice none 0 0, .int .i64 1, .int .i64 cy, .float .f64 0, .string ⟨#[]⟩, .slice none 0 0] 27)); have hbd4 := bel_alloc hbd3 (.cells #[.int .i64 3, .int .i64 0, .float .f64 0, .string ({ data := #[110] } ++ { data := #[by'] }), .slice none 0 0, .int .i64 1, .int .i64 cy, .float .f64 0, .string ⟨#[]⟩, .slice none 0 0] 27); clear hq3 hbd3
                go_wp2_with fail
                refine hK.out _ _ ?hs18bl17 (fun hHeld => ?_)
                case hs18bl17 => exact oq_ro hq4
                clear hK K
                (try simp only [Act.put, List.setIfInBounds_toArray, List.set_cons_zero, List.set_cons_succ])
                refine wpAnyH_ready (rs := [19]) (by kernel_rfl) (by simp) ?_
                refine AllReadyH.cons (o := ?_) ?hoDbl17 ?hstDbl17 AllReadyH.nil
                case hoDbl17 => (simp only [List.getElem?_toArray, List.getElem?_cons_zero, List.getElem?_cons_succ]; rfl)
                intro K hK
                go_simp
                have hput := put_fam fam_O (metN (fun t => g ((t + tn) % l)) i) cy hcy2 (repS_rep _ _ _ (repS_step hbd4 HDW.out.2.2)) hlv; go_at_call 12; refine hput.mono ?_; rintro e w8 ⟨tt, vv, rfl, hb8, ht, hv⟩; obtain ⟨Ks, Is, Fs, Ss, qu, mu, du, rfl, _⟩ := repS_shape ht; obtain ⟨rfl, rfl, rfl, rfl⟩ := rep_tab5 (repS_rep _ _ _ ht); obtain ⟨Kv, Iv, Fv, Zv, qv, mv, dv, rfl, _⟩ := repS_shape hv; have hq5 := oq_step hq4 hb8; have hbd5 := bel_step hbd4 hb8; have HTT := Lib.hid ht; have hsz4 := hbd4.size; clear hb8 ht hv hq4 hput hlv hbd4
                go_wp2_with fail
                refine hK.out _ _ ?hsDbl17 (fun hHeld => ?_)
                case hsDbl17 => exact oq_ro hq5
                clear hK K
                (try simp only [Act.put, List.setIfInBounds_toArray, List.set_cons_zero, List.set_cons_succ])
                refine wpAnyH_take (i := 20) (oi := ?_) (v := ?_) ?hibl1720 (by kernel_rfl) ?hfbl1720 ?hrbl1720 ?hQbl1720 ?hybl1720 (by assumption) ?restbl1720
                case hibl1720 => (simp only [List.getElem?_toArray, List.getElem?_cons_zero, List.getElem?_cons_succ]; rfl)
                case hfbl1720 => kernel_rfl
                case hrbl1720 => kernel_rfl
                case hybl1720 => (refine Or.inl ⟨by rfl, ?_⟩; intro wS hSw; (try dsimp only at hSw); go_simp; (try with_reducible rfl))
                case hQbl1720 => exact fun _ _ _ h => h
                (try simp only [Act.put, List.setIfInBounds_toArray, List.set_cons_zero, List.set_cons_succ])
                refine wpAnyH_take (i := 21) (oi := ?_) (v := ?_) ?hibl1721 (by kernel_rfl) ?hfbl1721 ?hrbl1721 ?hQbl1721 ?hybl1721 (by assumption) ?restbl1721
                case hibl1721 => (simp only [List.getElem?_toArray, List.getElem?_cons_zero, List.getElem?_cons_succ]; rfl)
                case hfbl1721 => kernel_rfl
                case hrbl1721 => kernel_rfl
                case hybl1721 => (refine Or.inl ⟨by rfl, ?_⟩; intro wS hSw; (try dsimp only at hSw); go_simp; (try with_reducible rfl))
                case hQbl1721 => exact fun _ _ _ h => h
                (try simp only [Act.put, List.setIfInBounds_toArray, List.set_cons_zero, List.set_cons_succ])
                refine wpAnyH_take (i := 22) (oi := ?_) (v := ?_) ?hibl1722 (by kernel_rfl) ?hfbl1722 ?hrbl1722 ?hQbl1722 ?hybl1722 (by assumption) ?restbl1722
                case hibl1722 => (simp only [List.getElem?_toArray, List.getElem?_cons_zero, List.getElem?_cons_succ]; rfl)
                case hfbl1722 => kernel_rfl
                case hrbl1722 => kernel_rfl
                case hybl1722 => (refine Or.inl ⟨by rfl, ?_⟩; intro wS hSw; (try dsimp only at hSw); go_simp; (try with_reducible rfl))
                case hQbl1722 => exact fun _ _ _ h => h
                (try simp only [Act.put, List.setIfInBounds_toArray, List.set_cons_zero, List.set_cons_succ])
                refine wpAnyH_take (i := 23) (oi := ?_) (v := ?_) ?hibl1723 (by kernel_rfl) ?hfbl1723 ?hrbl1723 ?hQbl1723 ?hybl1723 (by assumption) ?restbl1723
                case hibl1723 => (simp only [List.getElem?_toArray, List.getElem?_cons_zero, List.getElem?_cons_succ]; rfl)
                case hfbl1723 => kernel_rfl
                case hrbl1723 => kernel_rfl
                case hybl1723 => (refine Or.inl ⟨by rfl, ?_⟩; intro wS hSw; (try dsimp only at hSw); go_simp; (try with_reducible rfl))
                case hQbl1723 => exact fun _ _ _ h => h
                (try simp only [Act.put, List.setIfInBounds_toArray, List.set_cons_zero, List.set_cons_succ])
                refine wpAnyH_ready (rs := [24]) (by kernel_rfl) (by simp) ?_
                refine AllReadyH.cons (o := ?_) ?hoSbl17 ?hstSbl17 AllReadyH.nil
                case hoSbl17 => (simp only [List.getElem?_toArray, List.getElem?_cons_zero, List.getElem?_cons_succ]; rfl)
                intro K hK
                have b40 := hq5.2.2.2.2.2.2.1; have b41 := hq5.2.2.2.2.2.2.2.1; have b42 := hq5.2.2.2.2.2.2.2.2.1; have b43 := hq5.2.2.2.2.2.2.2.2.2.1; have b44 := hq5.2.2.2.2.2.2.2.2.2.2.1; have b4f := hq5.2.2.2.2.2.2.2.2.2.2.2.2.2; have b4l := cell_lt b40; go_simp
                have hq6 := oq_set2 hnb' h1 h2 h3 hq5 (.int .i64 4) (.int .i64 0) (.float .f64 0) (.string ⟨#[]⟩) (.slice qu mu du)
                go_wp2_with fail
                refine hK.out _ _ ?hsSbl17 (fun hHeld => ?_)
                case hsSbl17 => exact oq_ro hq6
                clear hK K
                (try simp only [Act.put, List.setIfInBounds_toArray, List.set_cons_zero, List.set_cons_succ])
                refine wpAnyH_take (i := 25) (oi := ?_) (v := ?_) ?hibl1725 (by kernel_rfl) ?hfbl1725 ?hrbl1725 ?hQbl1725 ?hybl1725 (by assumption) ?restbl1725
                case hibl1725 => (simp only [List.getElem?_toArray, List.getElem?_cons_zero, List.getElem?_cons_succ]; rfl)
                case hfbl1725 => kernel_rfl
                case hrbl1725 => kernel_rfl
                case hybl1725 => (refine Or.inl ⟨by rfl, ?_⟩; intro wS hSw; (try dsimp only at hSw); go_simp; (try with_reducible rfl))
                case hQbl1725 => exact fun _ _ _ h => h
                (try simp only [Act.put, List.setIfInBounds_toArray, List.set_cons_zero, List.set_cons_succ])
                refine wpAnyH_done (by kernel_rfl) ?_ _
                have hab1 : ab < Wdb.heap.size := cell_lt HDW.out.1.2.1
                have hab2 : bb < Wdb.heap.size := cell_lt HDW.out.1.2.2.2.2.2.2.1
                have hmet : (fun c => metN (fun t => g ((t + tn) % l)) i c || c == cy) = metN (fun t => g ((t + tn) % l)) (i + 1) := by rw [← HGK2.out]; exact metN_succ (fun t => g ((t + tn) % l)) i
                rw [hmet] at HTT
                have HGF := Lib.hid (show BW w ab bb qt mt dt qu mu du (((((w8.setCell ⟨bb, 0, none⟩ (.int .i64 4)).setCell ⟨bb, 1, none⟩ (.int .i64 0)).setCell ⟨bb, 2, none⟩ (.float .f64 0)).setCell ⟨bb, 3, none⟩ (.string ⟨#[]⟩)).setCell ⟨bb, 4, none⟩ (.slice qu mu du)) ∧ RepS (fun b => ab < b ∧ bb < b) (((((w8.setCell ⟨bb, 0, none⟩ (.int .i64 4)).setCell ⟨bb, 1, none⟩ (.int .i64 0)).setCell ⟨bb, 2, none⟩ (.float .f64 0)).setCell ⟨bb, 3, none⟩ (.string ⟨#[]⟩)).setCell ⟨bb, 4, none⟩ (.slice qu mu du)) 3 (.agg #[.int .i64 4, .int .i64 0, .float .f64 0, .string ⟨#[]⟩, .slice qt mt dt]) (tableT 0 (setE 26 fO (metN g (i + 1)))) ∧ RepS (fun b => ab < b ∧ bb < b) (((((w8.setCell ⟨bb, 0, none⟩ (.int .i64 4)).setCell ⟨bb, 1, none⟩ (.int .i64 0)).setCell ⟨bb, 2, none⟩ (.float .f64 0)).setCell ⟨bb, 3, none⟩ (.string ⟨#[]⟩)).setCell ⟨bb, 4, none⟩ (.slice qu mu du)) 3 (.agg #[.int .i64 4, .int .i64 0, .float .f64 0, .string ⟨#[]⟩, .slice qu mu du]) (tableT 0 (setE 26 fO (metN (fun t => g ((t + tn) % l)) (i + 1)))) from ⟨bw_of hq6, repS_set (repS_step hbd5 HDW.out.2.1) (fun b hb => by have h := hb.1; have h2 := hb.2; omega), repS_set (repS_mono (fun b (hb : _ ≤ b) => ⟨by omega, by omega⟩) _ _ _ HTT.out) (fun b hb => by have h := hb.1; have h2 := hb.2; omega)⟩)
                clear hq6 hq5 hbd5 HTT hsz4 HDW hHeld HPb HRAb HRBb hab1 hab2 hmet b40 b41 b42 b43 b44 b4f b4l
                revert HGF
                generalize (((((w8.setCell ⟨bb, 0, none⟩ (.int .i64 4)).setCell ⟨bb, 1, none⟩ (.int .i64 0)).setCell ⟨bb, 2, none⟩ (.float .f64 0)).setCell ⟨bb, 3, none⟩ (.string ⟨#[]⟩)).setCell ⟨bb, 4, none⟩ (.slice qu mu du)) = Wg
                intro HGF
                go_wp2_with fail
                go_meet
                exact ⟨rfl, qu, mu, du, HGF.out⟩
              case hstX17b =>
                intro K hK
                go_simp
                go_at_call 20; refine (int_ref_any _ _).mono ?_; rintro e w6 ⟨rfl, hb6⟩; have hq3 := oq_step hq2 hb6; have hbd3 := bel_step hbd2 hb6; clear hb6 hq2 hbd2
                go_wp2_with fail
                refine hK.out _ _ ?hsX17b (fun hHeld => ?_)
                case hsX17b => exact oq_ro hq3
                clear hK K
                (try simp only [Act.put, List.setIfInBounds_toArray, List.set_cons_zero, List.set_cons_succ])
                refine wpAnyH_ready (rs := [0, 18]) (by kernel_rfl) (by simp) ?_
                refine AllReadyH.cons (o := ?_) ?hoL18b ?hstL18b (AllReadyH.cons (o := ?_) ?hoX18b ?hstX18b AllReadyH.nil)
                case hoL18b => (simp only [List.getElem?_toArray, List.getElem?_cons_zero, List.getElem?_cons_succ]; rfl)
                case hoX18b => (simp only [List.getElem?_toArray, List.getElem?_cons_zero, List.getElem?_cons_succ]; rfl)
                case hstL18b =>
                  intro K hK
                  have xx0 := hq3.2.2.2.2.2.2.1; have xx1 := hq3.2.2.2.2.2.2.2.1; have xx2 := hq3.2.2.2.2.2.2.2.2.1; have xx3 := hq3.2.2.2.2.2.2.2.2.2.1; have xx4 := hq3.2.2.2.2.2.2.2.2.2.2.1; have xl := cell_lt xx0; go_simp
                  clear xx0 xx1 xx2 xx3 xx4 xl
                  go_wp2_with fail
                  refine hK.out _ _ ?hsL18b (fun hHeld => ?_)
                  case hsL18b => exact oq_ro hq3
                  clear hK K
                  (try simp only [Act.put, List.setIfInBounds_toArray, List.set_cons_zero, List.set_cons_succ])
                  refine wpAnyH_ready (rs := [18]) (by kernel_rfl) (by simp) ?_
                  refine AllReadyH.cons (o := ?_) ?ho18bl18 ?hst18bl18 AllReadyH.nil
                  case ho18bl18 => (simp only [List.getElem?_toArray, List.getElem?_cons_zero, List.getElem?_cons_succ]; rfl)
                  intro K hK
                  go_simp
                  have hlv : LV w6.heap.size (nmO cy) 1 cy 0 ⟨#[]⟩ (w6.alloc (.cells #[.int .i64 3, .int .i64 0, .float .f64 0, .string ({ data := #[110] } ++ { data := #[by'] }), .slice none 0 0, .int .i64 1, .int .i64 cy, .float .f64 0, .string ⟨#[]⟩, .slice none 0 0] 27)) := (by rw [HBY2.out.2]; exact lv_new rfl (by decide : 2 ≤ maxLen) (by decide) (by unfold okI; omega) (by decide) (by decide)); have hq4 := oq_step hq3 (bel_alloc (Below.refl _ _) (.cells #[.int .i64 3, .int .i64 0, .float .f64 0, .string ({ data := #[110] } ++ { data := #[by'] }), .slice none 0 0, .int .i64 1, .int .i64 cy, .float .f64 0, .string ⟨#[]⟩, .slice none 0 0] 27)); have hbd4 := bel_alloc hbd3 (.cells #[.int .i64 3, .int .i64 0, .float .f64 0, .string ({ data := #[110] } ++ { data := #[by'] }), .slice none 0 0, .int .i64 1, .int .i64 cy, .float .f64 0, .string ⟨#[]⟩, .slice none 0 0] 27); clear hq3 hbd3
                  go_wp2_with fail
                  refine hK.out _ _ ?hs18bl18 (fun hHeld => ?_)
                  case hs18bl18 => exact oq_ro hq4
                  clear hK K
                  (try simp only [Act.put, List.setIfInBounds_toArray, List.set_cons_zero, List.set_cons_succ])
                  refine wpAnyH_ready (rs := [19]) (by kernel_rfl) (by simp) ?_
                  refine AllReadyH.cons (o := ?_) ?hoDbl18 ?hstDbl18 AllReadyH.nil
                  case hoDbl18 => (simp only [List.getElem?_toArray, List.getElem?_cons_zero, List.getElem?_cons_succ]; rfl)
                  intro K hK
                  go_simp
                  have hput := put_fam fam_O (metN (fun t => g ((t + tn) % l)) i) cy hcy2 (repS_rep _ _ _ (repS_step hbd4 HDW.out.2.2)) hlv; go_at_call 12; refine hput.mono ?_; rintro e w8 ⟨tt, vv, rfl, hb8, ht, hv⟩; obtain ⟨Ks, Is, Fs, Ss, qu, mu, du, rfl, _⟩ := repS_shape ht; obtain ⟨rfl, rfl, rfl, rfl⟩ := rep_tab5 (repS_rep _ _ _ ht); obtain ⟨Kv, Iv, Fv, Zv, qv, mv, dv, rfl, _⟩ := repS_shape hv; have hq5 := oq_step hq4 hb8; have hbd5 := bel_step hbd4 hb8; have HTT := Lib.hid ht; have hsz4 := hbd4.size; clear hb8 ht hv hq4 hput hlv hbd4
                  go_wp2_with fail
                  refine hK.out _ _ ?hsDbl18 (fun hHeld => ?_)
                  case hsDbl18 => exact oq_ro hq5
                  clear hK K
                  (try simp only [Act.put, List.setIfInBounds_toArray, List.set_cons_zero, List.set_cons_succ])
                  refine wpAnyH_take (i := 20) (oi := ?_) (v := ?_) ?hibl1820 (by kernel_rfl) ?hfbl1820 ?hrbl1820 ?hQbl1820 ?hybl1820 (by assumption) ?restbl1820
                  case hibl1820 => (simp only [List.getElem?_toArray, List.getElem?_cons_zero, List.getElem?_cons_succ]; rfl)
                  case hfbl1820 => kernel_rfl
                  case hrbl1820 => kernel_rfl
                  case hybl1820 => (refine Or.inl ⟨by rfl, ?_⟩; intro wS hSw; (try dsimp only at hSw); go_simp; (try with_reducible rfl))
                  case hQbl1820 => exact fun _ _ _ h => h
                  (try simp only [Act.put, List.setIfInBounds_toArray, List.set_cons_zero, List.set_cons_succ])
                  refine wpAnyH_take (i := 21) (oi := ?_) (v := ?_) ?hibl1821 (by kernel_rfl) ?hfbl1821 ?hrbl1821 ?hQbl1821 ?hybl1821 (by assumption) ?restbl1821
                  case hibl1821 => (simp only [List.getElem?_toArray, List.getElem?_cons_zero, List.getElem?_cons_succ]; rfl)
                  case hfbl1821 => kernel_rfl
                  case hrbl1821 => kernel_rfl
                  case hybl1821 => (refine Or.inl ⟨by rfl, ?_⟩; intro wS hSw; (try dsimp only at hSw); go_simp; (try with_reducible rfl))
                  case hQbl1821 => exact fun _ _ _ h => h
                  (try simp only [Act.put, List.setIfInBounds_toArray, List.set_cons_zero, List.set_cons_succ])
                  refine wpAnyH_take (i := 22) (oi := ?_) (v := ?_) ?hibl1822 (by kernel_rfl) ?hfbl1822 ?hrbl1822 ?hQbl1822 ?hybl1822 (by assumption) ?restbl1822
                  case hibl1822 => (simp only [List.getElem?_toArray, List.getElem?_cons_zero, List.getElem?_cons_succ]; rfl)
                  case hfbl1822 => kernel_rfl
                  case hrbl1822 => kernel_rfl
                  case hybl1822 => (refine Or.inl ⟨by rfl, ?_⟩; intro wS hSw; (try dsimp only at hSw); go_simp; (try with_reducible rfl))
                  case hQbl1822 => exact fun _ _ _ h => h
                  (try simp only [Act.put, List.setIfInBounds_toArray, List.set_cons_zero, List.set_cons_succ])
                  refine wpAnyH_take (i := 23) (oi := ?_) (v := ?_) ?hibl1823 (by kernel_rfl) ?hfbl1823 ?hrbl1823 ?hQbl1823 ?hybl1823 (by assumption) ?restbl1823
                  case hibl1823 => (simp only [List.getElem?_toArray, List.getElem?_cons_zero, List.getElem?_cons_succ]; rfl)
                  case hfbl1823 => kernel_rfl
                  case hrbl1823 => kernel_rfl
                  case hybl1823 => (refine Or.inl ⟨by rfl, ?_⟩; intro wS hSw; (try dsimp only at hSw); go_simp; (try with_reducible rfl))
                  case hQbl1823 => exact fun _ _ _ h => h
                  (try simp only [Act.put, List.setIfInBounds_toArray, List.set_cons_zero, List.set_cons_succ])
                  refine wpAnyH_ready (rs := [24]) (by kernel_rfl) (by simp) ?_
                  refine AllReadyH.cons (o := ?_) ?hoSbl18 ?hstSbl18 AllReadyH.nil
                  case hoSbl18 => (simp only [List.getElem?_toArray, List.getElem?_cons_zero, List.getElem?_cons_succ]; rfl)
                  intro K hK
                  have b40 := hq5.2.2.2.2.2.2.1; have b41 := hq5.2.2.2.2.2.2.2.1; have b42 := hq5.2.2.2.2.2.2.2.2.1; have b43 := hq5.2.2.2.2.2.2.2.2.2.1; have b44 := hq5.2.2.2.2.2.2.2.2.2.2.1; have b4f := hq5.2.2.2.2.2.2.2.2.2.2.2.2.2; have b4l := cell_lt b40; go_simp
                  have hq6 := oq_set2 hnb' h1 h2 h3 hq5 (.int .i64 4) (.int .i64 0) (.float .f64 0) (.string ⟨#[]⟩) (.slice qu mu du)
                  go_wp2_with fail
                  refine hK.out _ _ ?hsSbl18 (fun hHeld => ?_)
                  case hsSbl18 => exact oq_ro hq6
                  clear hK K
                  (try simp only [Act.put, List.setIfInBounds_toArray, List.set_cons_zero, List.set_cons_succ])
                  refine wpAnyH_take (i := 25) (oi := ?_) (v := ?_) ?hibl1825 (by kernel_rfl) ?hfbl1825 ?hrbl1825 ?hQbl1825 ?hybl1825 (by assumption) ?restbl1825
                  case hibl1825 => (simp only [List.getElem?_toArray, List.getElem?_cons_zero, List.getElem?_cons_succ]; rfl)
                  case hfbl1825 => kernel_rfl
                  case hrbl1825 => kernel_rfl
                  case hybl1825 => (refine Or.inl ⟨by rfl, ?_⟩; intro wS hSw; (try dsimp only at hSw); go_simp; (try with_reducible rfl))
                  case hQbl1825 => exact fun _ _ _ h => h
                  (try simp only [Act.put, List.setIfInBounds_toArray, List.set_cons_zero, List.set_cons_succ])
                  refine wpAnyH_done (by kernel_rfl) ?_ _
                  have hab1 : ab < Wdb.heap.size := cell_lt HDW.out.1.2.1
                  have hab2 : bb < Wdb.heap.size := cell_lt HDW.out.1.2.2.2.2.2.2.1
                  have hmet : (fun c => metN (fun t => g ((t + tn) % l)) i c || c == cy) = metN (fun t => g ((t + tn) % l)) (i + 1) := by rw [← HGK2.out]; exact metN_succ (fun t => g ((t + tn) % l)) i
                  rw [hmet] at HTT
                  have HGF := Lib.hid (show BW w ab bb qt mt dt qu mu du (((((w8.setCell ⟨bb, 0, none⟩ (.int .i64 4)).setCell ⟨bb, 1, none⟩ (.int .i64 0)).setCell ⟨bb, 2, none⟩ (.float .f64 0)).setCell ⟨bb, 3, none⟩ (.string ⟨#[]⟩)).setCell ⟨bb, 4, none⟩ (.slice qu mu du)) ∧ RepS (fun b => ab < b ∧ bb < b) (((((w8.setCell ⟨bb, 0, none⟩ (.int .i64 4)).setCell ⟨bb, 1, none⟩ (.int .i64 0)).setCell ⟨bb, 2, none⟩ (.float .f64 0)).setCell ⟨bb, 3, none⟩ (.string ⟨#[]⟩)).setCell ⟨bb, 4, none⟩ (.slice qu mu du)) 3 (.agg #[.int .i64 4, .int .i64 0, .float .f64 0, .string ⟨#[]⟩, .slice qt mt dt]) (tableT 0 (setE 26 fO (metN g (i + 1)))) ∧ RepS (fun b => ab < b ∧ bb < b) (((((w8.setCell ⟨bb, 0, none⟩ (.int .i64 4)).setCell ⟨bb, 1, none⟩ (.int .i64 0)).setCell ⟨bb, 2, none⟩ (.float .f64 0)).setCell ⟨bb, 3, none⟩ (.string ⟨#[]⟩)).setCell ⟨bb, 4, none⟩ (.slice qu mu du)) 3 (.agg #[.int .i64 4, .int .i64 0, .float .f64 0, .string ⟨#[]⟩, .slice qu mu du]) (tableT 0 (setE 26 fO (metN (fun t => g ((t + tn) % l)) (i + 1)))) from ⟨bw_of hq6, repS_set (repS_step hbd5 HDW.out.2.1) (fun b hb => by have h := hb.1; have h2 := hb.2; omega), repS_set (repS_mono (fun b (hb : _ ≤ b) => ⟨by omega, by omega⟩) _ _ _ HTT.out) (fun b hb => by have h := hb.1; have h2 := hb.2; omega)⟩)
                  clear hq6 hq5 hbd5 HTT hsz4 HDW hHeld HPb HRAb HRBb hab1 hab2 hmet b40 b41 b42 b43 b44 b4f b4l
                  revert HGF
                  generalize (((((w8.setCell ⟨bb, 0, none⟩ (.int .i64 4)).setCell ⟨bb, 1, none⟩ (.int .i64 0)).setCell ⟨bb, 2, none⟩ (.float .f64 0)).setCell ⟨bb, 3, none⟩ (.string ⟨#[]⟩)).setCell ⟨bb, 4, none⟩ (.slice qu mu du)) = Wg
                  intro HGF
                  go_wp2_with fail
                  go_meet
                  exact ⟨rfl, qu, mu, du, HGF.out⟩
                case hstX18b =>
                  intro K hK
                  go_simp
                  have hlv : LV w6.heap.size (nmO cy) 1 cy 0 ⟨#[]⟩ (w6.alloc (.cells #[.int .i64 3, .int .i64 0, .float .f64 0, .string ({ data := #[110] } ++ { data := #[by'] }), .slice none 0 0, .int .i64 1, .int .i64 cy, .float .f64 0, .string ⟨#[]⟩, .slice none 0 0] 27)) := (by rw [HBY2.out.2]; exact lv_new rfl (by decide : 2 ≤ maxLen) (by decide) (by unfold okI; omega) (by decide) (by decide)); have hq4 := oq_step hq3 (bel_alloc (Below.refl _ _) (.cells #[.int .i64 3, .int .i64 0, .float .f64 0, .string ({ data := #[110] } ++ { data := #[by'] }), .slice none 0 0, .int .i64 1, .int .i64 cy, .float .f64 0, .string ⟨#[]⟩, .slice none 0 0] 27)); have hbd4 := bel_alloc hbd3 (.cells #[.int .i64 3, .int .i64 0, .float .f64 0, .string ({ data := #[110] } ++ { data := #[by'] }), .slice none 0 0, .int .i64 1, .int .i64 cy, .float .f64 0, .string ⟨#[]⟩, .slice none 0 0] 27); clear hq3 hbd3
                  go_wp2_with fail
                  refine hK.out _ _ ?hsX18b (fun hHeld => ?_)
                  case hsX18b => exact oq_ro hq4
                  clear hK K
                  (try simp only [Act.put, List.setIfInBounds_toArray, List.set_cons_zero, List.set_cons_succ])
                  refine wpAnyH_ready (rs := [0]) (by kernel_rfl) (by simp) ?_
                  refine AllReadyH.cons (o := ?_) ?hoZb ?hstZb AllReadyH.nil
                  case hoZb => (simp only [List.getElem?_toArray, List.getElem?_cons_zero, List.getElem?_cons_succ]; rfl)
                  intro K hK
                  have xx0 := hq4.2.2.2.2.2.2.1; have xx1 := hq4.2.2.2.2.2.2.2.1; have xx2 := hq4.2.2.2.2.2.2.2.2.1; have xx3 := hq4.2.2.2.2.2.2.2.2.2.1; have xx4 := hq4.2.2.2.2.2.2.2.2.2.2.1; have xl := cell_lt xx0; go_simp
                  clear xx0 xx1 xx2 xx3 xx4 xl
                  go_wp2_with fail
                  refine hK.out _ _ ?hsZb (fun hHeld => ?_)
                  case hsZb => exact oq_ro hq4
                  clear hK K
                  (try simp only [Act.put, List.setIfInBounds_toArray, List.set_cons_zero, List.set_cons_succ])
                  refine wpAnyH_ready (rs := [19]) (by kernel_rfl) (by simp) ?_
                  refine AllReadyH.cons (o := ?_) ?hoDb ?hstDb AllReadyH.nil
                  case hoDb => (simp only [List.getElem?_toArray, List.getElem?_cons_zero, List.getElem?_cons_succ]; rfl)
                  intro K hK
                  go_simp
                  have hput := put_fam fam_O (metN (fun t => g ((t + tn) % l)) i) cy hcy2 (repS_rep _ _ _ (repS_step hbd4 HDW.out.2.2)) hlv; go_at_call 12; refine hput.mono ?_; rintro e w8 ⟨tt, vv, rfl, hb8, ht, hv⟩; obtain ⟨Ks, Is, Fs, Ss, qu, mu, du, rfl, _⟩ := repS_shape ht; obtain ⟨rfl, rfl, rfl, rfl⟩ := rep_tab5 (repS_rep _ _ _ ht); obtain ⟨Kv, Iv, Fv, Zv, qv, mv, dv, rfl, _⟩ := repS_shape hv; have hq5 := oq_step hq4 hb8; have hbd5 := bel_step hbd4 hb8; have HTT := Lib.hid ht; have hsz4 := hbd4.size; clear hb8 ht hv hq4 hput hlv hbd4
                  go_wp2_with fail
                  refine hK.out _ _ ?hsDb (fun hHeld => ?_)
                  case hsDb => exact oq_ro hq5
                  clear hK K
                  (try simp only [Act.put, List.setIfInBounds_toArray, List.set_cons_zero, List.set_cons_succ])
                  refine wpAnyH_take (i := 20) (oi := ?_) (v := ?_) ?hib20 (by kernel_rfl) ?hfb20 ?hrb20 ?hQb20 ?hyb20 (by assumption) ?restb20
                  case hib20 => (simp only [List.getElem?_toArray, List.getElem?_cons_zero, List.getElem?_cons_succ]; rfl)
                  case hfb20 => kernel_rfl
                  case hrb20 => kernel_rfl
                  case hyb20 => (refine Or.inl ⟨by rfl, ?_⟩; intro wS hSw; (try dsimp only at hSw); go_simp; (try with_reducible rfl))
                  case hQb20 => exact fun _ _ _ h => h
                  (try simp only [Act.put, List.setIfInBounds_toArray, List.set_cons_zero, List.set_cons_succ])
                  refine wpAnyH_take (i := 21) (oi := ?_) (v := ?_) ?hib21 (by kernel_rfl) ?hfb21 ?hrb21 ?hQb21 ?hyb21 (by assumption) ?restb21
                  case hib21 => (simp only [List.getElem?_toArray, List.getElem?_cons_zero, List.getElem?_cons_succ]; rfl)
                  case hfb21 => kernel_rfl
                  case hrb21 => kernel_rfl
                  case hyb21 => (refine Or.inl ⟨by rfl, ?_⟩; intro wS hSw; (try dsimp only at hSw); go_simp; (try with_reducible rfl))
                  case hQb21 => exact fun _ _ _ h => h
                  (try simp only [Act.put, List.setIfInBounds_toArray, List.set_cons_zero, List.set_cons_succ])
                  refine wpAnyH_take (i := 22) (oi := ?_) (v := ?_) ?hib22 (by kernel_rfl) ?hfb22 ?hrb22 ?hQb22 ?hyb22 (by assumption) ?restb22
                  case hib22 => (simp only [List.getElem?_toArray, List.getElem?_cons_zero, List.getElem?_cons_succ]; rfl)
                  case hfb22 => kernel_rfl
                  case hrb22 => kernel_rfl
                  case hyb22 => (refine Or.inl ⟨by rfl, ?_⟩; intro wS hSw; (try dsimp only at hSw); go_simp; (try with_reducible rfl))
                  case hQb22 => exact fun _ _ _ h => h
                  (try simp only [Act.put, List.setIfInBounds_toArray, List.set_cons_zero, List.set_cons_succ])
                  refine wpAnyH_take (i := 23) (oi := ?_) (v := ?_) ?hib23 (by kernel_rfl) ?hfb23 ?hrb23 ?hQb23 ?hyb23 (by assumption) ?restb23
                  case hib23 => (simp only [List.getElem?_toArray, List.getElem?_cons_zero, List.getElem?_cons_succ]; rfl)
                  case hfb23 => kernel_rfl
                  case hrb23 => kernel_rfl
                  case hyb23 => (refine Or.inl ⟨by rfl, ?_⟩; intro wS hSw; (try dsimp only at hSw); go_simp; (try with_reducible rfl))
                  case hQb23 => exact fun _ _ _ h => h
                  (try simp only [Act.put, List.setIfInBounds_toArray, List.set_cons_zero, List.set_cons_succ])
                  refine wpAnyH_ready (rs := [24]) (by kernel_rfl) (by simp) ?_
                  refine AllReadyH.cons (o := ?_) ?hoSb ?hstSb AllReadyH.nil
                  case hoSb => (simp only [List.getElem?_toArray, List.getElem?_cons_zero, List.getElem?_cons_succ]; rfl)
                  intro K hK
                  have b40 := hq5.2.2.2.2.2.2.1; have b41 := hq5.2.2.2.2.2.2.2.1; have b42 := hq5.2.2.2.2.2.2.2.2.1; have b43 := hq5.2.2.2.2.2.2.2.2.2.1; have b44 := hq5.2.2.2.2.2.2.2.2.2.2.1; have b4f := hq5.2.2.2.2.2.2.2.2.2.2.2.2.2; have b4l := cell_lt b40; go_simp
                  have hq6 := oq_set2 hnb' h1 h2 h3 hq5 (.int .i64 4) (.int .i64 0) (.float .f64 0) (.string ⟨#[]⟩) (.slice qu mu du)
                  go_wp2_with fail
                  refine hK.out _ _ ?hsSb (fun hHeld => ?_)
                  case hsSb => exact oq_ro hq6
                  clear hK K
                  (try simp only [Act.put, List.setIfInBounds_toArray, List.set_cons_zero, List.set_cons_succ])
                  refine wpAnyH_take (i := 25) (oi := ?_) (v := ?_) ?hib25 (by kernel_rfl) ?hfb25 ?hrb25 ?hQb25 ?hyb25 (by assumption) ?restb25
                  case hib25 => (simp only [List.getElem?_toArray, List.getElem?_cons_zero, List.getElem?_cons_succ]; rfl)
                  case hfb25 => kernel_rfl
                  case hrb25 => kernel_rfl
                  case hyb25 => (refine Or.inl ⟨by rfl, ?_⟩; intro wS hSw; (try dsimp only at hSw); go_simp; (try with_reducible rfl))
                  case hQb25 => exact fun _ _ _ h => h
                  (try simp only [Act.put, List.setIfInBounds_toArray, List.set_cons_zero, List.set_cons_succ])
                  refine wpAnyH_done (by kernel_rfl) ?_ _
                  have hab1 : ab < Wdb.heap.size := cell_lt HDW.out.1.2.1
                  have hab2 : bb < Wdb.heap.size := cell_lt HDW.out.1.2.2.2.2.2.2.1
                  have hmet : (fun c => metN (fun t => g ((t + tn) % l)) i c || c == cy) = metN (fun t => g ((t + tn) % l)) (i + 1) := by rw [← HGK2.out]; exact metN_succ (fun t => g ((t + tn) % l)) i
                  rw [hmet] at HTT
                  have HGF := Lib.hid (show BW w ab bb qt mt dt qu mu du (((((w8.setCell ⟨bb, 0, none⟩ (.int .i64 4)).setCell ⟨bb, 1, none⟩ (.int .i64 0)).setCell ⟨bb, 2, none⟩ (.float .f64 0)).setCell ⟨bb, 3, none⟩ (.string ⟨#[]⟩)).setCell ⟨bb, 4, none⟩ (.slice qu mu du)) ∧ RepS (fun b => ab < b ∧ bb < b) (((((w8.setCell ⟨bb, 0, none⟩ (.int .i64 4)).setCell ⟨bb, 1, none⟩ (.int .i64 0)).setCell ⟨bb, 2, none⟩ (.float .f64 0)).setCell ⟨bb, 3, none⟩ (.string ⟨#[]⟩)).setCell ⟨bb, 4, none⟩ (.slice qu mu du)) 3 (.agg #[.int .i64 4, .int .i64 0, .float .f64 0, .string ⟨#[]⟩, .slice qt mt dt]) (tableT 0 (setE 26 fO (metN g (i + 1)))) ∧ RepS (fun b => ab < b ∧ bb < b) (((((w8.setCell ⟨bb, 0, none⟩ (.int .i64 4)).setCell ⟨bb, 1, none⟩ (.int .i64 0)).setCell ⟨bb, 2, none⟩ (.float .f64 0)).setCell ⟨bb, 3, none⟩ (.string ⟨#[]⟩)).setCell ⟨bb, 4, none⟩ (.slice qu mu du)) 3 (.agg #[.int .i64 4, .int .i64 0, .float .f64 0, .string ⟨#[]⟩, .slice qu mu du]) (tableT 0 (setE 26 fO (metN (fun t => g ((t + tn) % l)) (i + 1)))) from ⟨bw_of hq6, repS_set (repS_step hbd5 HDW.out.2.1) (fun b hb => by have h := hb.1; have h2 := hb.2; omega), repS_set (repS_mono (fun b (hb : _ ≤ b) => ⟨by omega, by omega⟩) _ _ _ HTT.out) (fun b hb => by have h := hb.1; have h2 := hb.2; omega)⟩)
                  clear hq6 hq5 hbd5 HTT hsz4 HDW hHeld HPb HRAb HRBb hab1 hab2 hmet b40 b41 b42 b43 b44 b4f b4l
                  revert HGF
                  generalize (((((w8.setCell ⟨bb, 0, none⟩ (.int .i64 4)).setCell ⟨bb, 1, none⟩ (.int .i64 0)).setCell ⟨bb, 2, none⟩ (.float .f64 0)).setCell ⟨bb, 3, none⟩ (.string ⟨#[]⟩)).setCell ⟨bb, 4, none⟩ (.slice qu mu du)) = Wg
                  intro HGF
                  go_wp2_with fail
                  go_meet
                  exact ⟨rfl, qu, mu, du, HGF.out⟩
      case rest =>
      obtain ⟨rfl, qu, mu, du, hfin⟩ := hcut
      have HFN := Lib.hid hfin
      clear hfin HPb HRAb HRBb
      go_wp2
      go_roundw
      case rel => exact ⟨i + 1, qt, mt, dt, qu, mu, du, by omega, by go_num, HFN.out.1, HFN.out.2.1, HFN.out.2.2⟩
      case measure => simp [intOf]; omega
    · obtain rfl : i = l := by omega
      obtain ⟨x0, x1, x2, x3, x4⟩ := HBWI.out.1
      obtain ⟨y0, y1, y2, y3, y4⟩ := HBWI.out.2.1
      have hmm : metN (fun t => g ((t + tn) % i)) i = metN g i := by
        rcases Nat.eq_zero_or_pos i with h0 | h0
        · subst h0; rfl
        · exact met_turn h0 g tn
      rw [hmm] at HRBa
      have HSM := Lib.hid (fun W (hb : Below wr.heap.size wr W) => same_any 3 _ _ _ W (rep_keep hb _ _ _ (repS_rep _ _ _ HRAa.out)) (rep_keep hb _ _ _ (repS_rep _ _ _ HRBa.out)))
      have HBE := Lib.hid HBWI.out.2.2.1
      clear HRAa HRBa HBWI hmm
      go_wp2_with (go_at_call 14; refine (HSM.out _ (by first | exact Below.refl _ _ | exact Below.drew (Below.refl _ _))).mono ?_; rintro e w9 ⟨rfl, hb9⟩)
      go_ret
      exact ⟨rfl, bel_step HBE.out hb9⟩
end Num
end Go.Proofs.Ytamogpbbaihaaaa
