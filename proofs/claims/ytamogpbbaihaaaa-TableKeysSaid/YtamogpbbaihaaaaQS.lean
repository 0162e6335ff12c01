/-
  Tables of a family of names with values: those of its numbers that a set has, in order.
-/
import Derived.Test.YtamogpbbaihaaaaQP
namespace Go.Proofs.Ytamogpbbaihaaaa
open Go.RowKit
namespace Num
open Ints
set_option linter.unusedSimpArgs false
set_option linter.unusedVariables false
/-- A value of few bytes, as Clean makes it. -/
def SmallV (V : VT 1) : Prop := (∃ z, measT 1 V = (false, false, 0, z) ∧ 0 ≤ z ∧ z ≤ 40) ∧ partsT 1 V = 1 ∧ cleanT 1 V = V
theorem deep1 (V : VT 1) (m : Nat) : deepT 1 V (m + 1) = false := by
  obtain ⟨K, I, F, Z, L⟩ := V
  cases h : (K == 4)
  · exact deepT_not h
  · rw [deepT_succ h]
    induction L with
    | nil => rfl
    | cons x r ih => rw [List.any_cons, ih]; rfl
theorem small_cln {V : VT 1} (h : SmallV V) : checkM (measT 1 V) = 0 ∧ Cln 1 V := by
  obtain ⟨⟨z, hz, h0, h1⟩, hp, _⟩ := h
  refine ⟨?_, deep1 V 63, by rw [hp]; decide, ?_⟩
  · rw [hz]
    have e : decide (4096 < z) = false := by rw [decide_eq_false_iff_not]; omega
    show (if false = true then (31 : Int) else if (false || decide (8 < (0 : Int)) || decide (4096 < z)) = true then 22 else 0) = 0
    rw [e]; rfl
  · rw [hz]
    have e : decide (z ≤ 2147483647) = true := by rw [decide_eq_true_iff]; omega
    show (decide ((0 : Int) ≤ 64) && decide (z ≤ 2147483647)) = true
    rw [e]; rfl
theorem with_small {d z d' z' : Int} (h0 : 0 ≤ z) (h1 : z ≤ 100000) (g0 : 0 ≤ z') (g1 : z' ≤ 100000) (hd : 0 ≤ d') (hd' : d' ≤ 100) : withM (false, false, d, z) (false, false, d', z') = (false, false, (if d < d' + 1 then d' + 1 else d), z + z') := by
  have e1 : wrap64 (d' + 1) = d' + 1 := by unfold wrap64; omega
  have e2 : wrap64 (9223372036854775807 - z') = 9223372036854775807 - z' := by unfold wrap64; omega
  have e3 : wrap64 (z + z') = z + z' := by unfold wrap64; omega
  unfold withM
  simp only [e1, e2, e3]
  rw [if_neg (by omega : ¬ 9223372036854775807 - z' < z)]
  rfl
theorem pair_meas {s : ByteArray} {V : VT 1} (hs : nmV 3 s = true) (hV : SmallV V) : ∃ z, measT 2 (pairT 0 s V) = (false, false, 1, z) ∧ 0 ≤ z ∧ z ≤ 80 := by
  unfold nmV at hs
  rw [Bool.and_eq_true, Bool.and_eq_true, decide_eq_true_iff, decide_eq_true_iff, decide_eq_true_iff] at hs
  obtain ⟨_, h1, h2⟩ := hs
  obtain ⟨⟨z, hz, z0, z1⟩, _⟩ := hV
  have e0 : measT 1 ((3, 0, 0, s, []) : VT 1) = (false, false, 0, 3 + (s.size : Int)) := by
    rw [measT_text rfl rfl rfl]
    have e1 : decide (256 < (s.size : Int)) = false := by rw [decide_eq_false_iff_not]; omega
    have e2 : wrap64 (3 + (s.size : Int)) = 3 + (s.size : Int) := by unfold wrap64; omega
    rw [e1, e2]
  refine ⟨2 + (3 + (s.size : Int)) + z, ?_, by omega, by omega⟩
  unfold pairT
  rw [measT_list rfl rfl rfl rfl]
  show withM (withM (false, decide (64 < ((2 : Nat) : Int)), 1, 2) (measT 1 ((3, 0, 0, s, []) : VT 1))) (measT 1 V) = _
  rw [e0, hz, show decide (64 < ((2 : Nat) : Int)) = false by decide, with_small (by omega) (by omega) (by omega) (by omega) (by omega) (by omega)]
  rw [with_small (by omega) (by omega) (by omega) (by omega) (by omega) (by omega)]
  rfl
theorem fold_meas : ∀ (L : List (VT 2)), (∀ x ∈ L, ∃ z, measT 2 x = (false, false, 1, z) ∧ 0 ≤ z ∧ z ≤ 80) → ∀ (d z : Int), (d = 1 ∨ d = 2) → 0 ≤ z → z + 80 * L.length ≤ 4096 →
    ∃ d' z', L.foldl (fun a x => withM a (measT 2 x)) (false, false, d, z) = (false, false, d', z') ∧ (d' = 1 ∨ d' = 2) ∧ 0 ≤ z' ∧ z' ≤ 4096
  | [], _, d, z, hd, h0, h1 => ⟨d, z, rfl, hd, h0, by simp at h1; omega⟩
  | x :: r, h, d, z, hd, h0, h1 => by
    obtain ⟨zx, hx, x0, x1⟩ := h x List.mem_cons_self
    rw [List.length_cons] at h1
    rw [List.foldl_cons, hx, with_small h0 (by omega) x0 (by omega) (by omega) (by omega)]
    refine fold_meas r (fun y hy => h y (List.mem_cons_of_mem _ hy)) _ _ ?_ (by omega) (by omega)
    rcases hd with rfl | rfl
    · exact Or.inr rfl
    · exact Or.inr rfl
theorem fold_parts : ∀ (L : List (VT 2)), (∀ x ∈ L, partsT 2 x = 3) → ∀ a, L.foldl (fun a x => a + partsT 2 x) a = a + 3 * L.length
  | [], _, a => rfl
  | x :: r, h, a => by
    rw [List.foldl_cons, h x List.mem_cons_self, fold_parts r (fun y hy => h y (List.mem_cons_of_mem _ hy)), List.length_cons]
    omega
theorem ok_small {ES : List (ByteArray × VT 1)} (hn : Names (ES.map (·.1))) (hl : ES.length ≤ 32) (hv : ∀ e ∈ ES, SmallV e.2) : OkTab 0 ES := by
  have hm : ∀ x ∈ ES.map (pairE 0), ∃ e, e ∈ ES ∧ x = pairT 0 e.1 e.2 := by
    intro x hx
    obtain ⟨e, he, rfl⟩ := List.mem_map.1 hx
    exact ⟨e, he, rfl⟩
  refine ⟨hn, hl, ?_, ?_, ?_⟩
  · obtain ⟨d', z', hf, hd, h0, h1⟩ := fold_meas (ES.map (pairE 0)) (fun x hx => by
      obtain ⟨e, he, rfl⟩ := hm x hx
      exact pair_meas (hn.1 e.1 (List.mem_map.2 ⟨e, he, rfl⟩)) (hv e he)) 1 2 (Or.inl rfl) (by decide) (by rw [List.length_map]; omega)
    unfold tableT
    rw [measT_list rfl rfl rfl rfl, List.length_map, show decide (64 < (ES.length : Int)) = false by rw [decide_eq_false_iff_not]; omega, hf]
    have e1 : decide (8 < d') = false := by rw [decide_eq_false_iff_not]; omega
    have e2 : decide (4096 < z') = false := by rw [decide_eq_false_iff_not]; omega
    show (if false = true then (31 : Int) else if (false || decide (8 < d') || decide (4096 < z')) = true then 22 else 0) = 0
    rw [e1, e2]; rfl
  · unfold tableT
    rw [deepT_succ rfl]
    rw [List.any_eq_false]
    intro x hx
    obtain ⟨e, he, rfl⟩ := hm x hx
    unfold pairT
    rw [deepT_succ rfl]
    show ¬ ((deepT 1 ((3, 0, 0, e.1, []) : VT 1) (61 + 1)) || ((deepT 1 e.2 (61 + 1)) || false)) = true
    rw [deep1, deep1]
    simp
  · unfold tableT
    rw [partsT_list rfl, fold_parts _ (fun x hx => by
      obtain ⟨e, he, rfl⟩ := hm x hx
      unfold pairT
      rw [partsT_list rfl]
      show 1 + 1 + partsT 1 e.2 = 3
      rw [(hv e he).2.1]), List.length_map]
    omega
theorem clean_table {ES : List (ByteArray × VT 1)} (h : ∀ e ∈ ES, cleanT 1 e.2 = e.2) : cleanT 3 (tableT 0 ES) = tableT 0 ES := by
  show ((4, 0, 0, ⟨#[]⟩, (ES.map (pairE 0)).map (cleanT 2)) : VT 3) = (4, 0, 0, ⟨#[]⟩, ES.map (pairE 0))
  congr 4
  rw [List.map_map]
  refine List.map_congr_left (fun e he => ?_)
  show ((4, 0, 0, ⟨#[]⟩, [(3, 0, 0, e.1, []), cleanT 1 e.2]) : VT 2) = _
  rw [h e he]
  rfl
/-- A family of names in order, with values. -/
def Fam (N : Nat) (f : Nat → ByteArray × VT 1) : Prop := N ≤ 32 ∧ (∀ i j, i < j → j < N → ltB (f i).1 (f j).1 = true) ∧ (∀ i, i < N → nmV 3 (f i).1 = true) ∧ ∀ i, i < N → SmallV (f i).2
def setE (N : Nat) (f : Nat → ByteArray × VT 1) (A : Nat → Bool) : List (ByteArray × VT 1) := ((List.range N).filter A).map f
theorem rng_split (N c : Nat) (h : c < N) : List.range N = List.range c ++ (c :: (List.range (N - (c + 1))).map (fun k => c + 1 + k)) := by
  have e : N = c + 1 + (N - (c + 1)) := by omega
  rw [e, List.range_add, List.range_succ, List.append_assoc]
  rw [show c + 1 + (N - (c + 1)) - (c + 1) = N - (c + 1) by omega]
  rfl
def preE (f : Nat → ByteArray × VT 1) (A : Nat → Bool) (c : Nat) : List (ByteArray × VT 1) := ((List.range c).filter A).map f
def posE (N : Nat) (f : Nat → ByteArray × VT 1) (A : Nat → Bool) (c : Nat) : List (ByteArray × VT 1) := (((List.range (N - (c + 1))).map (fun k => c + 1 + k)).filter A).map f
def midE (f : Nat → ByteArray × VT 1) (A : Nat → Bool) (c : Nat) : List (ByteArray × VT 1) := if A c = true then [f c] else []
theorem set_split {N : Nat} {f : Nat → ByteArray × VT 1} {A : Nat → Bool} {c : Nat} (h : c < N) : setE N f A = preE f A c ++ (midE f A c ++ posE N f A c) := by
  unfold setE preE midE posE
  rw [rng_split N c h, List.filter_append, List.filter_cons, List.map_append]
  by_cases hc : A c = true
  · rw [if_pos hc, if_pos hc]; rfl
  · rw [if_neg hc, if_neg hc]; rfl
theorem pre_congr {f : Nat → ByteArray × VT 1} {A B : Nat → Bool} {c : Nat} (h : ∀ i, i ≠ c → A i = B i) : preE f A c = preE f B c := by
  unfold preE
  rw [List.filter_congr (fun i hi => h i (by have := List.mem_range.1 hi; omega))]
theorem pos_congr {N : Nat} {f : Nat → ByteArray × VT 1} {A B : Nat → Bool} {c : Nat} (h : ∀ i, i ≠ c → A i = B i) : posE N f A c = posE N f B c := by
  unfold posE
  rw [List.filter_congr (fun i hi => h i (by obtain ⟨k, _, rfl⟩ := List.mem_map.1 hi; omega))]
theorem pre_mem {f : Nat → ByteArray × VT 1} {A : Nat → Bool} {c : Nat} {e : ByteArray × VT 1} (h : e ∈ preE f A c) : ∃ i, i < c ∧ e = f i := by
  obtain ⟨i, hi, rfl⟩ := List.mem_map.1 h
  exact ⟨i, List.mem_range.1 (List.mem_filter.1 hi).1, rfl⟩
theorem pos_mem {N : Nat} {f : Nat → ByteArray × VT 1} {A : Nat → Bool} {c : Nat} {e : ByteArray × VT 1} (h : e ∈ posE N f A c) : ∃ i, c < i ∧ i < N ∧ e = f i := by
  obtain ⟨i, hi, rfl⟩ := List.mem_map.1 h
  obtain ⟨k, hk, rfl⟩ := List.mem_map.1 (List.mem_filter.1 hi).1
  have := List.mem_range.1 hk
  exact ⟨c + 1 + k, by omega, by omega, rfl⟩
theorem set_mem {N : Nat} {f : Nat → ByteArray × VT 1} {A : Nat → Bool} {e : ByteArray × VT 1} (h : e ∈ setE N f A) : ∃ i, i < N ∧ A i = true ∧ e = f i := by
  obtain ⟨i, hi, rfl⟩ := List.mem_map.1 h
  have := List.mem_filter.1 hi
  exact ⟨i, List.mem_range.1 this.1, this.2, rfl⟩
theorem set_len {N : Nat} {f : Nat → ByteArray × VT 1} {A : Nat → Bool} : (setE N f A).length ≤ N := by
  unfold setE
  rw [List.length_map]
  exact Nat.le_trans (List.length_filter_le _ _) (by rw [List.length_range]; exact Nat.le_refl _)
theorem fam_ok {N : Nat} {f : Nat → ByteArray × VT 1} (h : Fam N f) (A : Nat → Bool) : OkTab 0 (setE N f A) := by
  obtain ⟨h1, h2, h3, h4⟩ := h
  refine ok_small ⟨fun s hs => ?_, ?_⟩ (Nat.le_trans set_len h1) (fun e he => by obtain ⟨i, hi, _, rfl⟩ := set_mem he; exact h4 i hi)
  · obtain ⟨e, he, rfl⟩ := List.mem_map.1 hs
    obtain ⟨i, hi, _, rfl⟩ := set_mem he
    exact h3 i hi
  · have hp : ((setE N f A).map (·.1)).Pairwise (fun a b => ltB a b = true) := by
      unfold setE
      rw [List.map_map, List.pairwise_map]
      have hr : ((List.range N).filter A).Pairwise (fun i j => i < j ∧ j < N) := by
        refine List.Pairwise.filter _ ?_
        have := List.pairwise_lt_range (n := N)
        exact List.Pairwise.imp_of_mem (fun {a b} ha hb hab => ⟨hab, List.mem_range.1 hb⟩) this
      exact hr.imp (fun {a b} hab => h2 a b hab.1 hab.2)
    exact fun i j hi hj hij => List.pairwise_iff_getElem.1 hp i j hi hj hij
theorem fam_clean {N : Nat} {f : Nat → ByteArray × VT 1} (h : Fam N f) (A : Nat → Bool) : cleanT 3 (tableT 0 (setE N f A)) = tableT 0 (setE N f A) :=
  clean_table (fun e he => by obtain ⟨i, hi, _, rfl⟩ := set_mem he; exact (h.2.2.2 i hi).2.2)
def hadE (f : Nat → ByteArray × VT 1) (A : Nat → Bool) (c : Nat) : VT 1 := if A c = true then (f c).2 else nilT 0
theorem had_cln {N : Nat} {f : Nat → ByteArray × VT 1} (h : Fam N f) {A : Nat → Bool} {c : Nat} (hc : c < N) : hadT 0 (midE f A c) = hadE f A c ∧ Cln 1 (hadE f A c) ∧ cleanT 1 (hadE f A c) = hadE f A c := by
  unfold midE hadE
  by_cases ha : A c = true
  · rw [if_pos ha, if_pos ha]
    exact ⟨rfl, (small_cln (h.2.2.2 c hc)).2, (h.2.2.2 c hc).2.2⟩
  · rw [if_neg ha, if_neg ha]
    exact ⟨rfl, ⟨rfl, by show (1 : Nat) ≤ 1000; decide, by unfold nilT; rw [measT_nil rfl]; decide +kernel⟩, rfl⟩
theorem mid_M {f : Nat → ByteArray × VT 1} {A : Nat → Bool} {c : Nat} : midE f A c = [] ∨ ∃ V0, midE f A c = [((f c).1, V0)] := by
  unfold midE
  by_cases ha : A c = true
  · rw [if_pos ha]; exact Or.inr ⟨(f c).2, rfl⟩
  · rw [if_neg ha]; exact Or.inl rfl
theorem put_fam {N : Nat} {f : Nat → ByteArray × VT 1} (h : Fam N f) (A : Nat → Bool) (c : Nat) (hc : c < N) {s : Value} {pl : Option Addr} {cl : Nat} {w : World} (hs : Rep w 3 s (tableT 0 (setE N f A))) (hr : RepL w (Rep w 1) pl 2 cl [nameV 0 (f c).1, (f c).2]) :
    Calls Try.prog 12 #[s, .string { data := #[112, 117, 116] }, .slice pl 2 cl] w fun e w' => DoQ w 3 1 (tableT 0 (setE N f fun i => A i || i == c)) (hadE f A c) 0 e w' := by
  have hok := fam_ok h A
  have hok2 := fam_ok h fun i => A i || i == c
  have hcl := fam_clean h fun i => A i || i == c
  have hro : midE f A c = [] → (preE f A c ++ (midE f A c ++ posE N f A c)).length ≠ 32 := by
    intro hm
    have ha : ¬ A c = true := by intro ha; unfold midE at hm; rw [if_pos ha] at hm; cases hm
    rw [← set_split hc]
    unfold setE
    rw [List.length_map]
    have := List.length_filter_lt_length_iff_exists.2 ⟨c, List.mem_range.2 hc, ha⟩
    rw [List.length_range] at this
    have := h.1
    omega
  have e2 : setE N f (fun i => A i || i == c) = preE f A c ++ ((f c) :: posE N f A c) := by
    rw [set_split hc, pre_congr (B := A) (fun i hi => by simp [hi]), pos_congr (B := A) (fun i hi => by simp [hi])]
    unfold midE
    rw [if_pos (by simp)]
    rfl
  rw [e2] at hok2 hcl
  rw [set_split hc] at hs hok
  rw [e2, ← hcl]
  obtain ⟨g1, g2, g3⟩ := had_cln h (A := A) hc
  have := tdo_put (n := 0) (X := preE f A c) (M := midE f A c) (Y := posE N f A c) (k := (f c).1) (V := (f c).2) hs hr hok (fun e he => by obtain ⟨i, hi, rfl⟩ := pre_mem he; exact h.2.1 i c hi hc) (fun e he => by obtain ⟨i, hi, hiN, rfl⟩ := pos_mem he; exact h.2.1 c i hi hiN) mid_M (h.2.2.1 c hc)
    (small_cln (h.2.2.2 c hc)).1 ⟨(small_cln (h.2.2.2 c hc)).2.1, (small_cln (h.2.2.2 c hc)).2.2.1⟩ hro hok2.2.2 (by rw [g1]; exact g2)
  rw [g1, g3] at this
  exact this
theorem del_fam {N : Nat} {f : Nat → ByteArray × VT 1} (h : Fam N f) (A : Nat → Bool) (c : Nat) (hc : c < N) {s : Value} {pl : Option Addr} {cl : Nat} {w : World} (hs : Rep w 3 s (tableT 0 (setE N f A))) (hr : RepL w (Rep w 1) pl 1 cl [nameV 0 (f c).1]) :
    Calls Try.prog 12 #[s, .string { data := #[100, 101, 108] }, .slice pl 1 cl] w fun e w' => DoQ w 3 1 (tableT 0 (setE N f fun i => A i && !(i == c))) (hadE f A c) 0 e w' := by
  have hok := fam_ok h A
  have hok2 := fam_ok h fun i => A i && !(i == c)
  have hcl := fam_clean h fun i => A i && !(i == c)
  have e2 : setE N f (fun i => A i && !(i == c)) = preE f A c ++ posE N f A c := by
    rw [set_split hc, pre_congr (B := A) (fun i hi => by simp [hi]), pos_congr (B := A) (fun i hi => by simp [hi])]
    unfold midE
    rw [if_neg (by simp)]
    rfl
  rw [e2] at hok2 hcl
  rw [set_split hc] at hs hok
  rw [e2, ← hcl]
  obtain ⟨g1, g2, g3⟩ := had_cln h (A := A) hc
  have := tdo_del (n := 0) (X := preE f A c) (M := midE f A c) (Y := posE N f A c) (k := (f c).1) hs hr hok (fun e he => by obtain ⟨i, hi, rfl⟩ := pre_mem he; exact h.2.1 i c hi hc) (fun e he => by obtain ⟨i, hi, hiN, rfl⟩ := pos_mem he; exact h.2.1 c i hi hiN) mid_M (h.2.2.1 c hc)
    hok2.2.2 (by rw [g1]; exact g2)
  rw [g1, g3] at this
  exact this
end Num
end Go.Proofs.Ytamogpbbaihaaaa
