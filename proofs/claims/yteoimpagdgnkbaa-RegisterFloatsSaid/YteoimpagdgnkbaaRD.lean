/-
  Package register: Do, at whatever state, method, arguments that may be asked.
-/
import Derived.Test.YteoimpagdgnkbaaRC
namespace Go.Proofs.Yteoimpagdgnkbaa
open Go.RowKit
namespace Num
open Ints
set_option linter.unusedSimpArgs false
set_option linter.unusedVariables false
def regC : ByteArray := { data := #[114, 101, 103, 105, 115, 116, 101, 114] }
theorem ba_of_beq {a b : ByteArray} (h : (a == b) = true) : a = b := by
  cases a
  cases b
  exact congrArg ByteArray.mk (eq_of_beq h)
theorem chkL_all {n : Nat} : ∀ (L : List (VT (n + 1))), chkL n L = 0 → ∀ T ∈ L, checkM (measT (n + 1) T) = 0
  | [], _, T, h => absurd h List.not_mem_nil
  | x :: r, h, T, hT => by
    unfold chkL at h
    split at h
    · rename_i h0
      rcases List.mem_cons.1 hT with rfl | h1
      · exact h0
      · exact chkL_all r h T h1
    · rename_i h0
      exact absurd h h0
theorem chkL_vals {n : Nat} : ∀ (L : List (VT (n + 1))), chkL n L = 0 ∨ chkL n L = 22 ∨ chkL n L = 31
  | [] => Or.inl rfl
  | x :: r => by
    unfold chkL
    split
    · exact chkL_vals r
    · exact checkM_vals _
theorem chkA_vals (c m : ByteArray) (n : Nat) (L : List (VT (n + 1))) : chkA c m n L = 0 ∨ chkA c m n L = 22 ∨ chkA c m n L = 31 := by
  unfold chkA
  split
  · exact Or.inr (Or.inr rfl)
  · split
    · split
      · split
        · exact Or.inl rfl
        · exact Or.inr (Or.inr rfl)
      · exact chkL_vals L
    · exact Or.inr (Or.inr rfl)
theorem walk_check {q : Me} (h : checkM q = 0) : walkM q = true := by
  unfold checkM at h
  unfold walkM
  split at h
  · cases h
  · split at h
    · cases h
    · rename_i h1
      rw [Bool.or_eq_true, Bool.or_eq_true, not_or, not_or, decide_eq_true_iff, decide_eq_true_iff] at h1
      rw [Bool.and_eq_true, decide_eq_true_iff, decide_eq_true_iff]
      omega
theorem len0 {α : Type} {L : List α} (h : L.length = 0) : L = [] := List.eq_nil_of_length_eq_zero h
theorem len1 {α : Type} {L : List α} (h : L.length = 1) : ∃ a, L = [a] := by
  match L, h with
  | [a], _ => exact ⟨a, rfl⟩
theorem len2 {α : Type} {L : List α} (h : L.length = 2) : ∃ a b, L = [a, b] := by
  match L, h with
  | [a, b], _ => exact ⟨a, b, rfl⟩
theorem reg_metas : metas regC = msR := by rfl
/-- What is taken by a register: a method by its name, as many arguments, each of which may be asked. -/
theorem reg_told (n : Nat) (m : ByteArray) (L : List (VT (n + 1))) (h : chkA regC m n L = 0) :
    (∀ T ∈ L, checkM (measT (n + 1) T) = 0) ∧ ((m = { data := #[103, 101, 116] } ∧ L = []) ∨ (m = { data := #[115, 101, 116] } ∧ ∃ a, L = [a]) ∨ (m = { data := #[99, 97, 115] } ∧ ∃ a b, L = [a, b])) := by
  have hl : ∀ x, findM m msR = some x → chkL n L = 0 ∧ (decide (x.2.2.size ≤ L.length) && decide ((L.length : Int) ≤ x.2.2.size + moreOf x.2.2)) = true := by
    intro x hx
    unfold chkA at h
    rw [reg_metas, hx] at h
    have h' : (if (decide (x.2.2.size ≤ L.length) && decide ((L.length : Int) ≤ x.2.2.size + moreOf x.2.2)) = true then (if chkL n L = 0 then (if hldL x.2.2 n 0 L = true then 0 else 31) else chkL n L) else 31) = (0 : Int) := h
    split at h'
    · rename_i h1
      refine ⟨?_, h1⟩
      split at h'
      · assumption
      · exact h'
    · cases h'
  cases hx : findM m msR with
  | none =>
    unfold chkA at h
    rw [reg_metas, hx] at h
    cases h
  | some x =>
    obtain ⟨h1, h2⟩ := hl x hx
    refine ⟨chkL_all L h1, ?_⟩
    rw [Bool.and_eq_true, decide_eq_true_iff, decide_eq_true_iff] at h2
    unfold msR findM findM findM findM at hx
    split at hx
    · rename_i e
      injection hx with hx
      subst hx
      have e1 : moreOf ({ data := #[118, 118] } : ByteArray) = 0 := by decide
      have e2 : ({ data := #[118, 118] } : ByteArray).size = 2 := rfl
      simp only [e1, e2] at h2
      exact Or.inr (Or.inr ⟨ba_of_beq e, len2 (by omega)⟩)
    · split at hx
      · rename_i e
        injection hx with hx
        subst hx
        have e1 : moreOf ({ data := #[] } : ByteArray) = 0 := by decide
        have e2 : ({ data := #[] } : ByteArray).size = 0 := rfl
        simp only [e1, e2] at h2
        exact Or.inl ⟨ba_of_beq e, len0 (by omega)⟩
      · split at hx
        · rename_i e
          injection hx with hx
          subst hx
          have e1 : moreOf ({ data := #[118] } : ByteArray) = 0 := by decide
          have e2 : ({ data := #[118] } : ByteArray).size = 1 := rfl
          simp only [e1, e2] at h2
          exact Or.inr (Or.inl ⟨ba_of_beq e, len1 (by omega)⟩)
        · cases hx
def nilT (n : Nat) : VT (n + 1) := (0, 0, 0, ⟨#[]⟩, [])
def numT (n : Nat) (k : Int) : VT (n + 1) := (1, k, 0, ⟨#[]⟩, [])
theorem nil_rep (n : Nat) (S : Nat → Prop) (w : World) : RepS S w (n + 1) (.agg #[.int .i64 0, .int .i64 0, .float .f64 0, .string ⟨#[]⟩, .slice none 0 0]) (nilT n) := leafC S w n 0 0 0 ⟨#[]⟩ (by decide) (by decide) (by decide) (by decide)
/-- A call on a register: the state then, what is answered, an error. -/
def regD (n : Nat) (m : ByteArray) (S : VT (n + 1)) (L : List (VT (n + 1))) : VT (n + 1) × VT (n + 1) × Int :=
  if checkM (measT (n + 1) S) ≠ 0 then (nilT n, nilT n, 31) else if chkA regC m n L ≠ 0 then (nilT n, nilT n, chkA regC m n L) else
  match L with
  | [] => (cleanT (n + 1) S, cleanT (n + 1) S, 0)
  | [a] => (cleanT (n + 1) a, cleanT (n + 1) S, 0)
  | a :: b :: _ => if (cmpT cmpF (n + 1) S a == 0) = true then (cleanT (n + 1) b, numT n 1, 0) else (cleanT (n + 1) S, numT n 0, 0)
set_option maxRecDepth 100000 in
set_option maxHeartbeats 4000000 in
theorem do_state (n : Nat) (K I : Int) (F : Nat) (S : ByteArray) (q : Option Addr) (m d : Nat) (ms : ByteArray) (p : Option Addr) (l c : Nat) (w : World)
    (HR : Hid (∀ W, Below w.heap.size w W → Calls Try.prog 14 #[.agg #[.int .i64 K, .int .i64 I, .float .f64 F, .string S, .slice q m d]] W fun e w' => e = .returned (.bool false) ∧ Below W.heap.size W w')) :
    Calls Try.prog 11 #[.agg #[.int .i64 K, .int .i64 I, .float .f64 F, .string S, .slice q m d], .string ms, .slice p l c] w fun e w' => DoP w (n + 1) (nilT n) (nilT n) 31 e w' := by
  obtain ⟨oa, hoa⟩ : ∃ o, Obj.cells #[.int .i64 K, .int .i64 I, .float .f64 F, .string S, .slice q m d] 27 = o := ⟨_, rfl⟩
  obtain ⟨oz, hoz⟩ : ∃ o, Obj.cells #[.int .i64 0, .int .i64 0, .float .f64 0, .string ⟨#[]⟩, .slice none 0 0] 27 = o := ⟨_, rfl⟩
  have hB : Below w.heap.size w (((w.alloc oa).alloc oz).alloc oz) := bel_alloc (bel_alloc (bel_alloc (Below.refl w.heap.size w) oa) oz) oz
  have HB := Lib.hid hB
  have r6 := row_alloc_step (row_alloc (w.alloc oa) #[.int .i64 0, .int .i64 0, .float .f64 0, .string ⟨#[]⟩, .slice none 0 0] 27) oz
  have r7 := row_alloc ((w.alloc oa).alloc oz) #[.int .i64 0, .int .i64 0, .float .f64 0, .string ⟨#[]⟩, .slice none 0 0] 27
  rw [hoz] at r6 r7
  simp only [World.size_alloc] at r6 r7
  have HR6 := Lib.hid r6
  have HR7 := Lib.hid r7
  subst hoa hoz
  clear r6 r7 hB
  go_enter Try.func11, Try.ntmps11
  go_wp2_with fail
  go_at_call 14; refine (HR.out _ HB.out).mono ?_; rintro e w1 ⟨rfl, hb1⟩
  have HB1 := Lib.hid (bel_step HB.out hb1)
  have x6 := row_step HR6.out hb1
  have x7 := row_step HR7.out hb1
  have p0 := row_cell x6 0; have p1 := row_cell x6 1; have p2 := row_cell x6 2; have p3 := row_cell x6 3; have p4 := row_cell x6 4
  have s0 := row_cell x7 0; have s1 := row_cell x7 1; have s2 := row_cell x7 2; have s3 := row_cell x7 3; have s4 := row_cell x7 4
  simp only [List.getElem?_toArray, List.getElem?_cons_zero, List.getElem?_cons_succ] at p0 p1 p2 p3 p4 s0 s1 s2 s3 s4
  have f6 := fun o => row_frz x6 o
  have f7 := fun o => row_frz x7 o
  have l7 := row_lt x7
  clear hb1 x6 x7 HB HR6 HR7 HR
  go_wp2
  refine bodyPost_ret (v := .tuple #[.agg #[.int .i64 0, .int .i64 0, .float .f64 0, .string ⟨#[]⟩, .slice none 0 0], .agg #[.int .i64 0, .int .i64 0, .float .f64 0, .string ⟨#[]⟩, .slice none 0 0], .int .i64 31]) (by simp [results, Try.results11, go_sem, World.cell?_setCell_same, World.cell?_setCell_other, p0, p1, p2, p3, p4, s0, s1, s2, s3, s4]) rfl ⟨_, _, rfl, ?_, nil_rep _ _ _, nil_rep _ _ _⟩
  exact set5_below (g := w.heap.size + 1 + 1) (o := 0) (set5_below (g := w.heap.size + 1) (o := 0) HB1.out (by omega) _ _ _ _ _) (by omega) _ _ _ _ _
set_option maxRecDepth 100000 in
set_option maxHeartbeats 4000000 in
theorem do_args (n : Nat) (K I : Int) (F : Nat) (S : ByteArray) (q : Option Addr) (m d : Nat) (ms : ByteArray) (p : Option Addr) (l c : Nat) (w : World) (z : Int) (hz : z = 22 ∨ z = 31)
    (HR : Hid (∀ W, Below w.heap.size w W → Calls Try.prog 14 #[.agg #[.int .i64 K, .int .i64 I, .float .f64 F, .string S, .slice q m d]] W fun e w' => e = .returned (.bool true) ∧ Below W.heap.size W w'))
    (HA : Hid (∀ W, Below w.heap.size w W → Calls Try.prog 23 #[.string { data := #[114, 101, 103, 105, 115, 116, 101, 114] }, .string ms, .slice p l c] W fun e w' => e = .returned (.int .i64 z) ∧ Below W.heap.size W w')) :
    Calls Try.prog 11 #[.agg #[.int .i64 K, .int .i64 I, .float .f64 F, .string S, .slice q m d], .string ms, .slice p l c] w fun e w' => DoP w (n + 1) (nilT n) (nilT n) z e w' := by
  obtain ⟨oa, hoa⟩ : ∃ o, Obj.cells #[.int .i64 K, .int .i64 I, .float .f64 F, .string S, .slice q m d] 27 = o := ⟨_, rfl⟩
  obtain ⟨oz, hoz⟩ : ∃ o, Obj.cells #[.int .i64 0, .int .i64 0, .float .f64 0, .string ⟨#[]⟩, .slice none 0 0] 27 = o := ⟨_, rfl⟩
  have hB : Below w.heap.size w (((w.alloc oa).alloc oz).alloc oz) := bel_alloc (bel_alloc (bel_alloc (Below.refl w.heap.size w) oa) oz) oz
  have HB := Lib.hid hB
  have r6 := row_alloc_step (row_alloc (w.alloc oa) #[.int .i64 0, .int .i64 0, .float .f64 0, .string ⟨#[]⟩, .slice none 0 0] 27) oz
  have r7 := row_alloc ((w.alloc oa).alloc oz) #[.int .i64 0, .int .i64 0, .float .f64 0, .string ⟨#[]⟩, .slice none 0 0] 27
  rw [hoz] at r6 r7
  simp only [World.size_alloc] at r6 r7
  have HR6 := Lib.hid r6
  have HR7 := Lib.hid r7
  subst hoa hoz
  clear r6 r7 hB
  rcases hz with rfl | rfl
  · go_enter Try.func11, Try.ntmps11
    go_wp2_with fail
    go_at_call 14; refine (HR.out _ HB.out).mono ?_; rintro e w1 ⟨rfl, hb1⟩
    have HB1 := Lib.hid (bel_step HB.out hb1)
    have HR61 := Lib.hid (row_step HR6.out hb1)
    have HR71 := Lib.hid (row_step HR7.out hb1)
    clear hb1 HB HR6 HR7 HR
    go_wp2_with fail
    go_at_call 23; refine (HA.out _ HB1.out).mono ?_; rintro e w2 ⟨rfl, hb2⟩
    have HB2 := Lib.hid (bel_step HB1.out hb2)
    have x6 := row_step HR61.out hb2
    have x7 := row_step HR71.out hb2
    have p0 := row_cell x6 0; have p1 := row_cell x6 1; have p2 := row_cell x6 2; have p3 := row_cell x6 3; have p4 := row_cell x6 4
    have s0 := row_cell x7 0; have s1 := row_cell x7 1; have s2 := row_cell x7 2; have s3 := row_cell x7 3; have s4 := row_cell x7 4
    simp only [List.getElem?_toArray, List.getElem?_cons_zero, List.getElem?_cons_succ] at p0 p1 p2 p3 p4 s0 s1 s2 s3 s4
    have f6 := fun o => row_frz x6 o
    have f7 := fun o => row_frz x7 o
    have l7 := row_lt x7
    clear hb2 x6 x7 HB1 HR61 HR71 HA
    go_wp2
    refine bodyPost_ret (v := .tuple #[.agg #[.int .i64 0, .int .i64 0, .float .f64 0, .string ⟨#[]⟩, .slice none 0 0], .agg #[.int .i64 0, .int .i64 0, .float .f64 0, .string ⟨#[]⟩, .slice none 0 0], .int .i64 22]) (by simp [results, Try.results11, go_sem, World.cell?_setCell_same, World.cell?_setCell_other, p0, p1, p2, p3, p4, s0, s1, s2, s3, s4]) rfl ⟨_, _, rfl, ?_, nil_rep _ _ _, nil_rep _ _ _⟩
    exact set5_below (g := w.heap.size + 1 + 1) (o := 0) (set5_below (g := w.heap.size + 1) (o := 0) HB2.out (by omega) _ _ _ _ _) (by omega) _ _ _ _ _
  · go_enter Try.func11, Try.ntmps11
    go_wp2_with fail
    go_at_call 14; refine (HR.out _ HB.out).mono ?_; rintro e w1 ⟨rfl, hb1⟩
    have HB1 := Lib.hid (bel_step HB.out hb1)
    have HR61 := Lib.hid (row_step HR6.out hb1)
    have HR71 := Lib.hid (row_step HR7.out hb1)
    clear hb1 HB HR6 HR7 HR
    go_wp2_with fail
    go_at_call 23; refine (HA.out _ HB1.out).mono ?_; rintro e w2 ⟨rfl, hb2⟩
    have HB2 := Lib.hid (bel_step HB1.out hb2)
    have x6 := row_step HR61.out hb2
    have x7 := row_step HR71.out hb2
    have p0 := row_cell x6 0; have p1 := row_cell x6 1; have p2 := row_cell x6 2; have p3 := row_cell x6 3; have p4 := row_cell x6 4
    have s0 := row_cell x7 0; have s1 := row_cell x7 1; have s2 := row_cell x7 2; have s3 := row_cell x7 3; have s4 := row_cell x7 4
    simp only [List.getElem?_toArray, List.getElem?_cons_zero, List.getElem?_cons_succ] at p0 p1 p2 p3 p4 s0 s1 s2 s3 s4
    have f6 := fun o => row_frz x6 o
    have f7 := fun o => row_frz x7 o
    have l7 := row_lt x7
    clear hb2 x6 x7 HB1 HR61 HR71 HA
    go_wp2
    refine bodyPost_ret (v := .tuple #[.agg #[.int .i64 0, .int .i64 0, .float .f64 0, .string ⟨#[]⟩, .slice none 0 0], .agg #[.int .i64 0, .int .i64 0, .float .f64 0, .string ⟨#[]⟩, .slice none 0 0], .int .i64 31]) (by simp [results, Try.results11, go_sem, World.cell?_setCell_same, World.cell?_setCell_other, p0, p1, p2, p3, p4, s0, s1, s2, s3, s4]) rfl ⟨_, _, rfl, ?_, nil_rep _ _ _, nil_rep _ _ _⟩
    exact set5_below (g := w.heap.size + 1 + 1) (o := 0) (set5_below (g := w.heap.size + 1) (o := 0) HB2.out (by omega) _ _ _ _ _) (by omega) _ _ _ _ _
theorem do_any (n : Nat) (s : Value) (S : VT (n + 1)) (ms : ByteArray) (p : Option Addr) (l c : Nat) (L : List (VT (n + 1))) (w : World) (hs : Rep w (n + 1) s S) (hd : deepT (n + 1) S 64 = false) (hp : partsT (n + 1) S ≤ 1000) (hr : RepL w (Rep w (n + 1)) p l c L) (hg : GoodL n L) :
    Calls Try.prog 11 #[s, .string ms, .slice p l c] w fun e w' => DoP w (n + 1) (regD n ms S L).1 (regD n ms S L).2.1 (regD n ms S L).2.2 e w' := by
  obtain ⟨K, I, F, Z, q, m, d, rfl, _⟩ := rep_shape hs
  have HR := fun W (hb : Below w.heap.size w W) => right_any (n + 1) _ S W (rep_keep hb _ _ _ hs) hd hp
  have HA := fun W (hb : Below w.heap.size w W) => check_args regC ms n p l c L W (repL_keep hb (rep_keep hb _) hr) hg
  unfold regD
  by_cases h0 : checkM (measT (n + 1) S) = 0
  · rw [if_neg (fun h => h h0)]
    rw [h0] at HR
    by_cases h1 : chkA regC ms n L = 0
    · rw [if_neg (fun h => h h1)]
      rw [h1] at HA
      obtain ⟨ha, hm⟩ := reg_told n ms L h1
      have HCS := fun W (hb : Below w.heap.size w W) => vclean_any (n + 1) _ S W (rep_keep hb _ _ _ hs) hd hp (walk_check h0)
      obtain ⟨hl, hlc, hcm, hel⟩ := hr
      rcases hm with ⟨rfl, rfl⟩ | ⟨rfl, a, rfl⟩ | ⟨rfl, a, b, rfl⟩
      · exact do_run (n + 1) K I F Z q m d _ p l c w (Lib.hid HR) (Lib.hid HA) K I F Z q m d K I F Z q m d (Lib.hid (fun W hb => run_get K I F Z q m d p l c W)) _ _ (Lib.hid HCS) (Lib.hid HCS)
      · obtain rfl : l = 1 := hl.symm
        obtain ⟨b, off, rfl, hi⟩ := hel (by omega)
        obtain ⟨v0, v1, v2, v3, v4, c0, c1, c2, c3, c4, hra⟩ := hi 0 (by simp)
        obtain ⟨K2, I2, F2, S2, q2, m2, d2, hv, _⟩ := rep_shape hra
        injection hv with hv
        simp only [Array.mk.injEq, List.cons.injEq, and_true] at hv
        obtain ⟨rfl, rfl, rfl, rfl, rfl⟩ := hv
        simp only [Nat.zero_mul, Nat.add_zero] at c0 c1 c2 c3 c4
        have hga := hg _ (List.mem_cons_self ..)
        have HCA := fun W (hb : Below w.heap.size w W) => vclean_any (n + 1) _ a W (rep_keep hb _ _ _ hra) hga.1 hga.2 (walk_check (ha _ (List.mem_cons_self ..)))
        exact do_run (n + 1) K I F Z q m d _ _ 1 c w (Lib.hid HR) (Lib.hid HA) K2 I2 F2 S2 q2 m2 d2 K I F Z q m d (Lib.hid (fun W hb => run_set K I F Z q m d b off c K2 I2 F2 S2 q2 m2 d2 W (cell_keep hb c0) (cell_keep hb c1) (cell_keep hb c2) (cell_keep hb c3) (cell_keep hb c4))) _ _ (Lib.hid HCA) (Lib.hid HCS)
      · obtain rfl : l = 2 := hl.symm
        obtain ⟨g, off, rfl, hi⟩ := hel (by omega)
        obtain ⟨v0, v1, v2, v3, v4, c0, c1, c2, c3, c4, hra⟩ := hi 0 (by simp)
        obtain ⟨u0, u1, u2, u3, u4, e0, e1, e2, e3, e4, hrb⟩ := hi 1 (by simp)
        obtain ⟨K2, I2, F2, S2, q2, m2, d2, hv, _⟩ := rep_shape hra
        obtain ⟨K3, I3, F3, S3, q3, m3, d3, hu, _⟩ := rep_shape hrb
        injection hv with hv
        injection hu with hu
        simp only [Array.mk.injEq, List.cons.injEq, and_true] at hv hu
        obtain ⟨rfl, rfl, rfl, rfl, rfl⟩ := hv
        obtain ⟨rfl, rfl, rfl, rfl, rfl⟩ := hu
        simp only [Nat.zero_mul, Nat.one_mul, Nat.add_zero] at c0 c1 c2 c3 c4 e0 e1 e2 e3 e4
        have hgb := hg _ (List.mem_cons_of_mem _ (List.mem_cons_self ..))
        have HCB := fun W (hb : Below w.heap.size w W) => vclean_any (n + 1) _ b W (rep_keep hb _ _ _ hrb) hgb.1 hgb.2 (walk_check (ha _ (List.mem_cons_of_mem _ (List.mem_cons_self ..))))
        have HCN := fun (k : Int) (hk : okI k) W (hb : Below w.heap.size w W) => vclean_any (n + 1) (.agg #[.int .i64 1, .int .i64 k, .float .f64 0, .string ⟨#[]⟩, .slice none 0 0]) (numT n k) W ⟨none, 0, 0, rfl, (by decide : okI 1), hk, (by decide : (0 : Nat) < 2 ^ 64), (by decide : (⟨#[]⟩ : ByteArray).size ≤ maxLen), rfl, Nat.le_refl _, Nat.zero_le _, fun h => absurd h (Nat.lt_irrefl _)⟩ rfl (by decide : (1 : Nat) ≤ 1000) rfl
        have HU := fun y hy W (hb : Below w.heap.size w W) => run_cas (n + 1) K I F Z q m d g off c K2 I2 F2 S2 q2 m2 d2 K3 I3 F3 S3 q3 m3 d3 W (cell_keep hb c0) (cell_keep hb c1) (cell_keep hb c2) (cell_keep hb c3) (cell_keep hb c4) (cell_keep hb e0) (cell_keep hb e1) (cell_keep hb e2) (cell_keep hb e3) (cell_keep hb e4) S a b (rep_keep hb _ _ _ hs) (rep_keep hb _ _ _ hra) (rep_keep hb _ _ _ hrb) hd hp y hy
        show Calls _ _ _ _ fun e w' => DoP w (n + 1) (if (cmpT cmpF (n + 1) S a == 0) = true then (cleanT (n + 1) b, numT n 1, (0 : Int)) else (cleanT (n + 1) S, numT n 0, 0)).1 (if (cmpT cmpF (n + 1) S a == 0) = true then (cleanT (n + 1) b, numT n 1, (0 : Int)) else (cleanT (n + 1) S, numT n 0, 0)).2.1 (if (cmpT cmpF (n + 1) S a == 0) = true then (cleanT (n + 1) b, numT n 1, (0 : Int)) else (cleanT (n + 1) S, numT n 0, 0)).2.2 e w'
        cases hy : (cmpT cmpF (n + 1) S a == 0)
        · exact do_run (n + 1) K I F Z q m d _ _ 2 c w (Lib.hid HR) (Lib.hid HA) K I F Z q m d 1 0 0 ⟨#[]⟩ none 0 0 (Lib.hid (HU false hy)) _ _ (Lib.hid HCS) (Lib.hid (HCN 0 (by decide)))
        · exact do_run (n + 1) K I F Z q m d _ _ 2 c w (Lib.hid HR) (Lib.hid HA) K3 I3 F3 S3 q3 m3 d3 1 1 0 ⟨#[]⟩ none 0 0 (Lib.hid (HU true hy)) _ _ (Lib.hid HCB) (Lib.hid (HCN 1 (by decide)))
    · rw [if_pos h1]
      have hv : chkA regC ms n L = 22 ∨ chkA regC ms n L = 31 := by
        rcases chkA_vals regC ms n L with h | h
        · exact absurd h h1
        · exact h
      exact do_args n K I F Z q m d ms p l c w _ hv (Lib.hid HR) (Lib.hid HA)
  · rw [if_pos h0]
    have hf : (checkM (measT (n + 1) S) == 0) = false := by rw [beq_eq_false_iff_ne]; exact h0
    rw [hf] at HR
    exact do_state n K I F Z q m d ms p l c w (Lib.hid HR)
end Num
end Go.Proofs.Yteoimpagdgnkbaa
