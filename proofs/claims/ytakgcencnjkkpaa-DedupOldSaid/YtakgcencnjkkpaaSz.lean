/-
  DedupOld: the walk.
-/
import Derived.Test.YtakgcencnjkkpaaSy
namespace Go.Proofs.Ytakgcencnjkkpaa
open Go.RowKit
namespace Num
open Ints
set_option linter.unusedSimpArgs false
set_option linter.unusedVariables false
/-- The law's table behind i Seqs and k nested ones of the next. -/
def D9 (w wr : World) (tb mr mc K i k : Nat) : Prop := ∃ (R : List (RE 1)) (C : List KE) (m : Nat), 1 ≤ m ∧ m ≤ 1 + 3 * i + k ∧ St 1 (fun b => w.heap.size ≤ b) wr tb mr mc R C m ∧ R.map (·.x) = (runK (runI K i) (i + 1) k).1 ∧ gL C 9 = (runK (runI K i) (i + 1) k).2 ∧ (∀ r ∈ R, r.T = lfT 0 0) ∧ Below w.heap.size w wr
theorem d9_next {w wr : World} {tb mr mc K i : Nat} (hK : K < 3) (h : D9 w wr tb mr mc K i (K + 1)) : D9 w wr tb mr mc K (i + 1) 0 := by
  obtain ⟨R, C, m, h1, h2, h3⟩ := h
  exact ⟨R, C, m, h1, by omega, h3⟩
theorem d9_put {w wr : World} {tb mr mc K i k : Nat} (hK : K < 3) (hi : i < 12) (hk : k ≤ K) (h : D9 w wr tb mr mc K i k) :
    Calls Try.prog 12 #[.pointer (some ⟨tb, 0, none⟩), .agg #[.int .u32 9, .int .u32 ((i : Int) + 1), .int .u16 (k : Int), .int .i64 0, .int .i64 0, .int .i64 0, .float .f64 0, .string ⟨#[]⟩, .slice none 0 0]] wr fun e w' => e = .returned (.bool true) ∧ D9 w w' tb mr mc K i (k + 1) := by
  obtain ⟨R, C, m, h1, h2, hst, hR, hC, hT, hb⟩ := h
  obtain ⟨f1, f2⟩ := run_fresh K hK i hi k hk
  refine (st_put hst h1 (by omega) (lfR (9, ((i : Int) + 1), (k : Int)) 0 0) ((getR_none R _).2 (by rw [hR]; exact f1)) (by show oldD (gL C 9) ((i : Int) + 1) = false; rw [hC]; exact f2) (lf_rep _ 0 0 (by decide) (by decide)) (lf_lite 0 0 (Or.inl rfl))).mono ?_
  rintro e w' ⟨rfl, hq⟩
  have hbl := putQ_below hst hq w.heap.size (fun _ h => h) hb.size
  obtain ⟨r', R', C', hx, _, hrT, hR', hg, _, hst', _⟩ := hq
  have hbe : ∀ b, (fun b => w.heap.size ≤ b) b ∨ (wr.heap.size ≤ b ∧ b < w'.heap.size) → w.heap.size ≤ b := fun b h => by
    have := hb.size
    rcases h with h | h
    · exact h
    · omega
  have hgx : gL C (lfR (9, ((i : Int) + 1), (k : Int)) 0 0).x.1 = (runK (runI K i) (i + 1) k).2 := hC
  rw [hgx] at hR' hg
  refine ⟨rfl, R', C', m + 1, by omega, by omega, st_pred hst' hbe, ?_, hg, fun r hr => ?_, Below.trans hb hbl⟩
  · rw [hR', map_del, List.map_append, hR, List.map_cons, List.map_nil, hx]
    rfl
  · rw [hR'] at hr
    rcases List.mem_append.1 (delR_sub _ _ r hr) with h | h
    · exact hT r h
    · rw [List.mem_singleton.1 h, hrT]; exact lf_clean 0 0 (Or.inl ⟨rfl, rfl⟩)
set_option maxRecDepth 100000 in
set_option maxHeartbeats 16000000 in
theorem old_law (a b c : Nat) (ha : a < 256) (hb : b < 256) (hc : c < 256) (w : World) :
    Calls Try.prog 4 #[.int .u8 a, .int .u8 b, .int .u8 c] w fun e w' => e = .returned (.bool true) ∧ Below w.heap.size w w' := by
  obtain ⟨n, hn⟩ : ∃ n, a % 12 = n := ⟨_, rfl⟩
  obtain ⟨K, hK⟩ : ∃ K, c % 3 = K := ⟨_, rfl⟩
  have hnI : (a : Int) % 12 = (n : Int) := by omega
  have hKI : (c : Int) % 3 = (K : Int) := by omega
  have hnT : (a : Int).tmod 12 = (n : Int) := by rw [Int.tmod_eq_emod_of_nonneg (by omega)]; exact hnI
  have hKT : (c : Int).tmod 3 = (K : Int) := by rw [Int.tmod_eq_emod_of_nonneg (by omega)]; exact hKI
  have hn12 : n < 12 := by omega
  have hK3 : K < 3 := by omega
  go_enter Try.func4, Try.ntmps4
  go_wp2_with fail
  go_at_call 6; refine (known16 _).mono ?_; rintro e w0 ⟨rfl, hb0⟩
  have HB0 := Lib.hid hb0
  clear hb0
  go_wp2_with fail
  go_at_call 7; refine (new_any 1 w0).mono ?_; rintro e w1 ⟨rfl, hb1, hs1, ht1⟩
  obtain ⟨tb, htb⟩ : ∃ tb, w0.heap.size + 2 = tb := ⟨_, rfl⟩
  rw [htb] at hs1 ht1
  rw [htb]
  have HD0 := Lib.hid (show D9 w w1 tb w0.heap.size (w0.heap.size + 1) K 0 0 from ⟨[], [], 1, Nat.le_refl _, Nat.le_refl _, st_new (P := fun b => w.heap.size ≤ b) ht1 HB0.out.size (Nat.le_succ_of_le HB0.out.size), rfl, rfl, fun r hr => absurd hr (List.not_mem_nil), Below.trans HB0.out (hb1.mono HB0.out.size)⟩)
  revert HD0
  generalize w0.heap.size = mr
  intro HD0
  clear hb1 hs1 ht1 htb
  go_wp2_with fail
  go_loopw [9] (fun iv wr => ∃ i : Nat, i ≤ n + 1 ∧ iv = .int .i64 ((i : Int) + 1) ∧ D9 w wr tb mr (mr + 1) K i 0) (fun iv _ => n + 3 - (intOf iv).toNat)
  case atStart => exact ⟨0, Nat.zero_le _, rfl, HD0.out⟩
  case round =>
    obtain ⟨i, hi1, rfl, hD⟩ := hrel
    by_cases hlt : i ≤ n
    · have HD := Lib.hid hD
      have hcond : (i : Int) + 1 ≤ (n : Int) + 1 := by omega
      clear hD HD0
      go_wp2_with fail
      go_loopw [10] (fun kv wz => ∃ k : Nat, k ≤ K + 1 ∧ kv = .int .i64 k ∧ D9 w wz tb mr (mr + 1) K i k) (fun kv _ => K + 2 - (intOf kv).toNat)
      case atStart => exact ⟨0, Nat.zero_le _, rfl, HD.out⟩
      case round =>
        obtain ⟨k, hk1, rfl, hD⟩ := hrel
        by_cases hkl : k ≤ K
        · have hkc : (k : Int) ≤ (K : Int) := by omega
          have HP := Lib.hid (d9_put hK3 (by omega) hkl hD)
          have hw32 : IntKind.u32.wrap ((i : Int) + 1) = (i : Int) + 1 := by rw [IntKind.wrap_u32]; omega
          have hw16 : IntKind.u16.wrap (k : Int) = (k : Int) := by rw [IntKind.wrap_u16]; omega
          clear hD
          go_wp2_with fail
          go_at_call 12; refine HP.out.mono ?_; rintro e w2 ⟨rfl, hd2⟩
          have HD2 := Lib.hid hd2
          clear hd2
          go_wp2
          go_roundw
          case rel => exact ⟨k + 1, by omega, by go_num, HD2.out⟩
          case measure => simp [intOf]; omega
        · obtain rfl : k = K + 1 := by omega
          have HD2 := Lib.hid (d9_next hK3 hD)
          clear hD
          have hkc : ¬ ((K : Int) + 1 ≤ (K : Int)) := by omega
          go_wp2
          go_roundw
          case rel => exact ⟨i + 1, by omega, by go_num, HD2.out⟩
          case measure => simp [intOf]; omega
    · obtain rfl : i = n + 1 := by omega
      have hcond : ¬ ((n : Int) + 1 + 1 ≤ (n : Int) + 1) := by omega
      have HD := Lib.hid hD
      clear hD HD0
      obtain ⟨s, hs⟩ : ∃ s, b % (n + 4) = s := ⟨_, rfl⟩
      have hs15 : s < n + 4 := by rw [← hs]; exact Nat.mod_lt _ (by omega)
      have hsT : (b : Int).tmod ((n : Int) + 1 + 3) = (s : Int) := by rw [Int.tmod_eq_emod_of_nonneg (by omega), show (n : Int) + 1 + 3 = ((n + 4 : Nat) : Int) by omega, ← hs]; rfl
      have hsT' : (b : Int).tmod ((n : Int) + 4) = (s : Int) := by rw [show (n : Int) + 4 = (n : Int) + 1 + 3 by omega]; exact hsT
      have hn0 : ¬ ((n : Int) + 1 + 3 = 0) := by omega
      have hn0' : ¬ ((n : Int) + 4 = 0) := by omega
      have hws : IntKind.u32.wrap (s : Int) = (s : Int) := by rw [IntKind.wrap_u32]; omega
      obtain ⟨R, C, m, _, _, hst, hR, hC, hT, hbl⟩ := HD.out
      have hR : R.map (·.x) = (runI K (n + 1)).1 := hR
      have hC : gL C 9 = (runI K (n + 1)).2 := hC
      obtain ⟨klen, kept⟩ := run_kept K hK3 (n + 1) (by omega) (by omega)
      obtain ⟨kp, ko⟩ := kept s (by omega)
      -- the tail
      obtain ⟨f, hf⟩ : ∃ f, fstN (n + 1) = f := ⟨_, rfl⟩
      obtain ⟨x, hx⟩ : ∃ x, min (n + 1) 4 = x := ⟨_, rfl⟩
      rw [hx] at klen
      rw [hf] at kp ko
      have hx4 : x ≤ 4 ∧ 1 ≤ x := by rw [← hx, Nat.min_def]; split <;> omega
      have hRl : R.length = x * (K + 1) := by rw [← klen, ← hR, List.length_map]
      have hxK : x * (K + 1) ≤ 12 := by
        calc x * (K + 1) ≤ 4 * 3 := Nat.mul_le_mul hx4.1 (by omega)
          _ = 12 := rfl
      have hxI : min ((n : Int) + 1) 4 = (x : Int) := by rw [← hx]; simp only [Int.min_def, Nat.min_def]; split <;> split <;> omega
      have hwx : wrap64 ((x : Int) * ((K : Int) + 1)) = (x : Int) * ((K : Int) + 1) := by
        have e : (x : Int) * ((K : Int) + 1) = ((x * (K + 1) : Nat) : Int) := by rw [Int.natCast_mul]; rfl
        rw [e]
        generalize x * (K + 1) = z at hxK
        unfold wrap64
        omega
      have hmx : max ((n : Int) + 1 - 4 + 1) 1 = (f : Int) := by rw [← hf]; unfold fstN; simp only [Int.max_def]; split <;> split <;> omega
      have hR12 : R.length ≤ 12 := by rw [hRl]; exact hxK
      have hRne : R ≠ [] := fun e => by
        rw [e] at hRl
        have := Nat.mul_pos hx4.2 (show 0 < K + 1 by omega)
        rw [List.length_nil] at hRl
        omega
      have hf1 : 1 ≤ f ∧ (¬ 4 ≤ n + 1 → f = 1) := by rw [← hf]; unfold fstN; split <;> omega
      clear hs hx hf klen kept
      by_cases hk1 : f ≤ s
      · by_cases hk2 : s ≤ n + 1
        · by_cases h4 : 4 ≤ n + 1
          · have hmem := kp.2 ⟨hk1, hk2⟩
            obtain ⟨r, hr⟩ : ∃ r, getR R (x9 s 0) = some r := by
              cases hg : getR R (x9 s 0) with
              | some r => exact ⟨r, rfl⟩
              | none => exact absurd hmem (by rw [← hR]; exact (getR_none R _).1 hg)
            have g1 : (f : Int) ≤ (s : Int) := by omega
            have g2 : (s : Int) ≤ (n : Int) + 1 := by omega
            have u0 : decide ((f : Int) ≤ (s : Int)) = true := decide_eq_true (by omega)
            have u1 : decide (f ≤ s) = true := decide_eq_true (by omega)
            have u2 : decide ((s : Int) ≤ (n : Int) + 1) = true := decide_eq_true (by omega)
            have u3 : decide ((s : Int) < (f : Int)) = false := decide_eq_false (by omega)
            have u4 : decide (s < f) = false := decide_eq_false (by omega)
            have g4 : (4 : Int) ≤ (n : Int) + 1 := by omega
            go_wp2_with fail
            go_at_call 9; refine (look_some 1 wr tb _ _ R C (x9 s 0) r hst.tab hr (by rw [hT r (List.mem_of_find?_eq_some hr)]; exact lf_lite 0 0 (Or.inl rfl))).mono ?_; rintro e w5 ⟨r2, rfl, hxx, hee, hTT, hvv, hb5⟩
            clear hxx hee hTT hvv hr hmem
            obtain ⟨⟨j1, j2, j3⟩, er, K9, I, F, S, q, m9, d, T⟩ := r2
            obtain ⟨g, hg⟩ : ∃ g, w5.heap.size = g := ⟨_, rfl⟩
            obtain ⟨w6, hw6⟩ : ∃ W, w5.alloc (.cells #[.int .u32 0, .int .u32 0, .int .u16 0, .int .i64 0, .int .i64 0, .int .i64 0, .float .f64 0, .string ⟨#[]⟩, .slice none 0 0] 43) = W := ⟨_, rfl⟩
            have hV6 : w6.heap[g]? = some (.cells #[.int .u32 0, .int .u32 0, .int .u16 0, .int .i64 0, .int .i64 0, .int .i64 0, .float .f64 0, .string ⟨#[]⟩, .slice none 0 0] 43 (0, 0)) := by rw [← hw6, ← hg]; exact row_alloc w5 _ _
            obtain ⟨y, hy⟩ : ∃ y, set9 w6 g (.int .u32 j1) (.int .u32 j2) (.int .u16 j3) (.int .i64 er) (.int .i64 K9) (.int .i64 I) (.float .f64 F) (.string S) (.slice q m9 d) = y := ⟨_, rfl⟩
            have hbY : Below w5.heap.size w5 y := by rw [← hy, hg]; exact set9_below (by rw [← hw6, ← hg]; exact (Below.refl _ _).alloc (Nat.le_refl _) _) (Nat.le_refl _) (.int .u32 j1) (.int .u32 j2) (.int .u16 j3) (.int .i64 er) (.int .i64 K9) (.int .i64 I) (.float .f64 F) (.string S) (.slice q m9 d)
            have z0 := row_cell hV6 0; have z1 := row_cell hV6 1; have z2 := row_cell hV6 2; have z3 := row_cell hV6 3; have z4 := row_cell hV6 4; have z5 := row_cell hV6 5; have z6 := row_cell hV6 6; have z7 := row_cell hV6 7; have z8 := row_cell hV6 8
            simp only [List.getElem?_toArray, List.getElem?_cons_zero, List.getElem?_cons_succ] at z0 z1 z2 z3 z4 z5 z6 z7 z8
            have zf := fun o => row_frz hV6 o
            have HY := Lib.hid hy
            have HBY := Lib.hid (Below.trans (Below.trans hbl (hb5.mono hbl.size)) (hbY.mono (Nat.le_trans hbl.size hb5.size)))
            have HAL := Lib.hid (all_any 0 y tb _ _ R C (tabG_step hst.tab (Below.trans hb5 (hbY.mono hb5.size))) (fun r hr => by rw [hT r hr]; exact lf_lite 0 0 (Or.inl rfl)) hRne hR12)
            have HRL := Lib.hid hRl
            have hch : (((((((((w6).setCell ⟨g, 0, none⟩ (.int .u32 j1)).setCell ⟨g, 1, none⟩ (.int .u32 j2)).setCell ⟨g, 2, none⟩ (.int .u16 j3)).setCell ⟨g, 3, none⟩ (.int .i64 er)).setCell ⟨g, 4, none⟩ (.int .i64 K9)).setCell ⟨g, 5, none⟩ (.int .i64 I)).setCell ⟨g, 6, none⟩ (.float .f64 F)).setCell ⟨g, 7, none⟩ (.string S)).setCell ⟨g, 8, none⟩ (.slice q m9 d) = y := hy
            clear hV6 hy hbY hb5 hst hT hR hC hRne hR12 hbl kp ko hRl HD
            go_wp2_with (go_at_call 15; first | (rw [hch]) | skip; refine HAL.out.mono ?_; rintro e w8 ⟨p8, c8, rfl, hb8⟩; have HB8 := Lib.hid (Below.trans HBY.out (hb8.mono HBY.out.size)); clear hb8; rw [HRL.out])
            go_ret
            exact ⟨rfl, HB8.out⟩
          · have hmem := kp.2 ⟨hk1, hk2⟩
            obtain ⟨r, hr⟩ : ∃ r, getR R (x9 s 0) = some r := by
              cases hg : getR R (x9 s 0) with
              | some r => exact ⟨r, rfl⟩
              | none => exact absurd hmem (by rw [← hR]; exact (getR_none R _).1 hg)
            have g1 : (f : Int) ≤ (s : Int) := by omega
            have g2 : (s : Int) ≤ (n : Int) + 1 := by omega
            have u0 : decide ((f : Int) ≤ (s : Int)) = true := decide_eq_true (by omega)
            have u1 : decide (f ≤ s) = true := decide_eq_true (by omega)
            have u2 : decide ((s : Int) ≤ (n : Int) + 1) = true := decide_eq_true (by omega)
            have u3 : decide ((s : Int) < (f : Int)) = false := decide_eq_false (by omega)
            have u4 : decide (s < f) = false := decide_eq_false (by omega)
            have g4 : ¬ ((4 : Int) ≤ (n : Int) + 1) := by omega
            go_wp2_with fail
            go_at_call 9; refine (look_some 1 wr tb _ _ R C (x9 s 0) r hst.tab hr (by rw [hT r (List.mem_of_find?_eq_some hr)]; exact lf_lite 0 0 (Or.inl rfl))).mono ?_; rintro e w5 ⟨r2, rfl, hxx, hee, hTT, hvv, hb5⟩
            clear hxx hee hTT hvv hr hmem
            obtain ⟨⟨j1, j2, j3⟩, er, K9, I, F, S, q, m9, d, T⟩ := r2
            obtain ⟨g, hg⟩ : ∃ g, w5.heap.size = g := ⟨_, rfl⟩
            obtain ⟨w6, hw6⟩ : ∃ W, w5.alloc (.cells #[.int .u32 0, .int .u32 0, .int .u16 0, .int .i64 0, .int .i64 0, .int .i64 0, .float .f64 0, .string ⟨#[]⟩, .slice none 0 0] 43) = W := ⟨_, rfl⟩
            have hV6 : w6.heap[g]? = some (.cells #[.int .u32 0, .int .u32 0, .int .u16 0, .int .i64 0, .int .i64 0, .int .i64 0, .float .f64 0, .string ⟨#[]⟩, .slice none 0 0] 43 (0, 0)) := by rw [← hw6, ← hg]; exact row_alloc w5 _ _
            obtain ⟨y, hy⟩ : ∃ y, set9 w6 g (.int .u32 j1) (.int .u32 j2) (.int .u16 j3) (.int .i64 er) (.int .i64 K9) (.int .i64 I) (.float .f64 F) (.string S) (.slice q m9 d) = y := ⟨_, rfl⟩
            have hbY : Below w5.heap.size w5 y := by rw [← hy, hg]; exact set9_below (by rw [← hw6, ← hg]; exact (Below.refl _ _).alloc (Nat.le_refl _) _) (Nat.le_refl _) (.int .u32 j1) (.int .u32 j2) (.int .u16 j3) (.int .i64 er) (.int .i64 K9) (.int .i64 I) (.float .f64 F) (.string S) (.slice q m9 d)
            have z0 := row_cell hV6 0; have z1 := row_cell hV6 1; have z2 := row_cell hV6 2; have z3 := row_cell hV6 3; have z4 := row_cell hV6 4; have z5 := row_cell hV6 5; have z6 := row_cell hV6 6; have z7 := row_cell hV6 7; have z8 := row_cell hV6 8
            simp only [List.getElem?_toArray, List.getElem?_cons_zero, List.getElem?_cons_succ] at z0 z1 z2 z3 z4 z5 z6 z7 z8
            have zf := fun o => row_frz hV6 o
            have HY := Lib.hid hy
            have HBY := Lib.hid (Below.trans (Below.trans hbl (hb5.mono hbl.size)) (hbY.mono (Nat.le_trans hbl.size hb5.size)))
            have HAL := Lib.hid (all_any 0 y tb _ _ R C (tabG_step hst.tab (Below.trans hb5 (hbY.mono hb5.size))) (fun r hr => by rw [hT r hr]; exact lf_lite 0 0 (Or.inl rfl)) hRne hR12)
            have HRL := Lib.hid hRl
            have hch : (((((((((w6).setCell ⟨g, 0, none⟩ (.int .u32 j1)).setCell ⟨g, 1, none⟩ (.int .u32 j2)).setCell ⟨g, 2, none⟩ (.int .u16 j3)).setCell ⟨g, 3, none⟩ (.int .i64 er)).setCell ⟨g, 4, none⟩ (.int .i64 K9)).setCell ⟨g, 5, none⟩ (.int .i64 I)).setCell ⟨g, 6, none⟩ (.float .f64 F)).setCell ⟨g, 7, none⟩ (.string S)).setCell ⟨g, 8, none⟩ (.slice q m9 d) = y := hy
            clear hV6 hy hbY hb5 hst hT hR hC hRne hR12 hbl kp ko hRl HD
            go_wp2_with (go_at_call 15; first | (rw [hch]) | skip; refine HAL.out.mono ?_; rintro e w8 ⟨p8, c8, rfl, hb8⟩; have HB8 := Lib.hid (Below.trans HBY.out (hb8.mono HBY.out.size)); clear hb8; rw [HRL.out])
            go_ret
            exact ⟨rfl, HB8.out⟩
        · by_cases h4 : 4 ≤ n + 1
          · have hnm : getR R (x9 s 0) = none := (getR_none R _).2 (by rw [hR, kp]; omega)
            have hod : oldC C (x9 s 0) = false := by rw [old_dat]; show oldD (gL C 9) (s : Int) = false; rw [hC, ko]; simp; omega
            have g1 : (f : Int) ≤ (s : Int) := by omega
            have u0 : decide ((f : Int) ≤ (s : Int)) = true := decide_eq_true (by omega)
            have u1 : decide (f ≤ s) = true := decide_eq_true (by omega)
            have u2 : decide ((s : Int) ≤ (n : Int) + 1) = false := decide_eq_false (by omega)
            have u3 : decide ((s : Int) < (f : Int)) = false := decide_eq_false (by omega)
            have u4 : decide (s < f) = false := decide_eq_false (by omega)
            have g4 : (4 : Int) ≤ (n : Int) + 1 := by omega
            go_wp2_with fail
            go_at_call 9; refine (look_no 1 wr tb _ _ R C (x9 s 0) hst.tab hnm).mono ?_; rintro e w5 ⟨rfl, hb5⟩
            rw [hod]
            clear hnm hod
            obtain ⟨g, hg⟩ : ∃ g, w5.heap.size = g := ⟨_, rfl⟩
            obtain ⟨w6, hw6⟩ : ∃ W, w5.alloc (.cells #[.int .u32 0, .int .u32 0, .int .u16 0, .int .i64 0, .int .i64 0, .int .i64 0, .float .f64 0, .string ⟨#[]⟩, .slice none 0 0] 43) = W := ⟨_, rfl⟩
            have hV6 : w6.heap[g]? = some (.cells #[.int .u32 0, .int .u32 0, .int .u16 0, .int .i64 0, .int .i64 0, .int .i64 0, .float .f64 0, .string ⟨#[]⟩, .slice none 0 0] 43 (0, 0)) := by rw [← hw6, ← hg]; exact row_alloc w5 _ _
            obtain ⟨y, hy⟩ : ∃ y, set9 w6 g (.int .u32 0) (.int .u32 0) (.int .u16 0) (.int .i64 0) (.int .i64 0) (.int .i64 0) (.float .f64 0) (.string ⟨#[]⟩) (.slice none 0 0) = y := ⟨_, rfl⟩
            have hbY : Below w5.heap.size w5 y := by rw [← hy, hg]; exact set9_below (by rw [← hw6, ← hg]; exact (Below.refl _ _).alloc (Nat.le_refl _) _) (Nat.le_refl _) (.int .u32 0) (.int .u32 0) (.int .u16 0) (.int .i64 0) (.int .i64 0) (.int .i64 0) (.float .f64 0) (.string ⟨#[]⟩) (.slice none 0 0)
            have z0 := row_cell hV6 0; have z1 := row_cell hV6 1; have z2 := row_cell hV6 2; have z3 := row_cell hV6 3; have z4 := row_cell hV6 4; have z5 := row_cell hV6 5; have z6 := row_cell hV6 6; have z7 := row_cell hV6 7; have z8 := row_cell hV6 8
            simp only [List.getElem?_toArray, List.getElem?_cons_zero, List.getElem?_cons_succ] at z0 z1 z2 z3 z4 z5 z6 z7 z8
            have zf := fun o => row_frz hV6 o
            have HY := Lib.hid hy
            have HBY := Lib.hid (Below.trans (Below.trans hbl (hb5.mono hbl.size)) (hbY.mono (Nat.le_trans hbl.size hb5.size)))
            have HAL := Lib.hid (all_any 0 y tb _ _ R C (tabG_step hst.tab (Below.trans hb5 (hbY.mono hb5.size))) (fun r hr => by rw [hT r hr]; exact lf_lite 0 0 (Or.inl rfl)) hRne hR12)
            have HRL := Lib.hid hRl
            have hch : (((((((((w6).setCell ⟨g, 0, none⟩ (.int .u32 0)).setCell ⟨g, 1, none⟩ (.int .u32 0)).setCell ⟨g, 2, none⟩ (.int .u16 0)).setCell ⟨g, 3, none⟩ (.int .i64 0)).setCell ⟨g, 4, none⟩ (.int .i64 0)).setCell ⟨g, 5, none⟩ (.int .i64 0)).setCell ⟨g, 6, none⟩ (.float .f64 0)).setCell ⟨g, 7, none⟩ (.string ⟨#[]⟩)).setCell ⟨g, 8, none⟩ (.slice none 0 0) = y := hy
            clear hV6 hy hbY hb5 hst hT hR hC hRne hR12 hbl kp ko hRl HD
            go_wp2_with (go_at_call 15; first | (rw [hch]) | skip; refine HAL.out.mono ?_; rintro e w8 ⟨p8, c8, rfl, hb8⟩; have HB8 := Lib.hid (Below.trans HBY.out (hb8.mono HBY.out.size)); clear hb8; rw [HRL.out])
            go_ret
            exact ⟨rfl, HB8.out⟩
          · have hnm : getR R (x9 s 0) = none := (getR_none R _).2 (by rw [hR, kp]; omega)
            have hod : oldC C (x9 s 0) = false := by rw [old_dat]; show oldD (gL C 9) (s : Int) = false; rw [hC, ko]; simp; omega
            have g1 : (f : Int) ≤ (s : Int) := by omega
            have u0 : decide ((f : Int) ≤ (s : Int)) = true := decide_eq_true (by omega)
            have u1 : decide (f ≤ s) = true := decide_eq_true (by omega)
            have u2 : decide ((s : Int) ≤ (n : Int) + 1) = false := decide_eq_false (by omega)
            have u3 : decide ((s : Int) < (f : Int)) = false := decide_eq_false (by omega)
            have u4 : decide (s < f) = false := decide_eq_false (by omega)
            have g4 : ¬ ((4 : Int) ≤ (n : Int) + 1) := by omega
            go_wp2_with fail
            go_at_call 9; refine (look_no 1 wr tb _ _ R C (x9 s 0) hst.tab hnm).mono ?_; rintro e w5 ⟨rfl, hb5⟩
            rw [hod]
            clear hnm hod
            obtain ⟨g, hg⟩ : ∃ g, w5.heap.size = g := ⟨_, rfl⟩
            obtain ⟨w6, hw6⟩ : ∃ W, w5.alloc (.cells #[.int .u32 0, .int .u32 0, .int .u16 0, .int .i64 0, .int .i64 0, .int .i64 0, .float .f64 0, .string ⟨#[]⟩, .slice none 0 0] 43) = W := ⟨_, rfl⟩
            have hV6 : w6.heap[g]? = some (.cells #[.int .u32 0, .int .u32 0, .int .u16 0, .int .i64 0, .int .i64 0, .int .i64 0, .float .f64 0, .string ⟨#[]⟩, .slice none 0 0] 43 (0, 0)) := by rw [← hw6, ← hg]; exact row_alloc w5 _ _
            obtain ⟨y, hy⟩ : ∃ y, set9 w6 g (.int .u32 0) (.int .u32 0) (.int .u16 0) (.int .i64 0) (.int .i64 0) (.int .i64 0) (.float .f64 0) (.string ⟨#[]⟩) (.slice none 0 0) = y := ⟨_, rfl⟩
            have hbY : Below w5.heap.size w5 y := by rw [← hy, hg]; exact set9_below (by rw [← hw6, ← hg]; exact (Below.refl _ _).alloc (Nat.le_refl _) _) (Nat.le_refl _) (.int .u32 0) (.int .u32 0) (.int .u16 0) (.int .i64 0) (.int .i64 0) (.int .i64 0) (.float .f64 0) (.string ⟨#[]⟩) (.slice none 0 0)
            have z0 := row_cell hV6 0; have z1 := row_cell hV6 1; have z2 := row_cell hV6 2; have z3 := row_cell hV6 3; have z4 := row_cell hV6 4; have z5 := row_cell hV6 5; have z6 := row_cell hV6 6; have z7 := row_cell hV6 7; have z8 := row_cell hV6 8
            simp only [List.getElem?_toArray, List.getElem?_cons_zero, List.getElem?_cons_succ] at z0 z1 z2 z3 z4 z5 z6 z7 z8
            have zf := fun o => row_frz hV6 o
            have HY := Lib.hid hy
            have HBY := Lib.hid (Below.trans (Below.trans hbl (hb5.mono hbl.size)) (hbY.mono (Nat.le_trans hbl.size hb5.size)))
            have HAL := Lib.hid (all_any 0 y tb _ _ R C (tabG_step hst.tab (Below.trans hb5 (hbY.mono hb5.size))) (fun r hr => by rw [hT r hr]; exact lf_lite 0 0 (Or.inl rfl)) hRne hR12)
            have HRL := Lib.hid hRl
            have hch : (((((((((w6).setCell ⟨g, 0, none⟩ (.int .u32 0)).setCell ⟨g, 1, none⟩ (.int .u32 0)).setCell ⟨g, 2, none⟩ (.int .u16 0)).setCell ⟨g, 3, none⟩ (.int .i64 0)).setCell ⟨g, 4, none⟩ (.int .i64 0)).setCell ⟨g, 5, none⟩ (.int .i64 0)).setCell ⟨g, 6, none⟩ (.float .f64 0)).setCell ⟨g, 7, none⟩ (.string ⟨#[]⟩)).setCell ⟨g, 8, none⟩ (.slice none 0 0) = y := hy
            clear hV6 hy hbY hb5 hst hT hR hC hRne hR12 hbl kp ko hRl HD
            go_wp2_with (go_at_call 15; first | (rw [hch]) | skip; refine HAL.out.mono ?_; rintro e w8 ⟨p8, c8, rfl, hb8⟩; have HB8 := Lib.hid (Below.trans HBY.out (hb8.mono HBY.out.size)); clear hb8; rw [HRL.out])
            go_ret
            exact ⟨rfl, HB8.out⟩
      · by_cases h4 : 4 ≤ n + 1
        · have hnm : getR R (x9 s 0) = none := (getR_none R _).2 (by rw [hR, kp]; omega)
          have hod : oldC C (x9 s 0) = true := by rw [old_dat]; show oldD (gL C 9) (s : Int) = true; rw [hC, ko]; simp; omega
          have g3 : (s : Int) < (f : Int) := by omega
          have u0 : decide ((f : Int) ≤ (s : Int)) = false := decide_eq_false (by omega)
          have u1 : decide (f ≤ s) = false := decide_eq_false (by omega)
          have u2 : decide ((s : Int) < (f : Int)) = true := decide_eq_true (by omega)
          have u3 : decide (s < f) = true := decide_eq_true (by omega)
          have g4 : (4 : Int) ≤ (n : Int) + 1 := by omega
          go_wp2_with fail
          go_at_call 9; refine (look_no 1 wr tb _ _ R C (x9 s 0) hst.tab hnm).mono ?_; rintro e w5 ⟨rfl, hb5⟩
          rw [hod]
          clear hnm hod
          obtain ⟨g, hg⟩ : ∃ g, w5.heap.size = g := ⟨_, rfl⟩
          obtain ⟨w6, hw6⟩ : ∃ W, w5.alloc (.cells #[.int .u32 0, .int .u32 0, .int .u16 0, .int .i64 0, .int .i64 0, .int .i64 0, .float .f64 0, .string ⟨#[]⟩, .slice none 0 0] 43) = W := ⟨_, rfl⟩
          have hV6 : w6.heap[g]? = some (.cells #[.int .u32 0, .int .u32 0, .int .u16 0, .int .i64 0, .int .i64 0, .int .i64 0, .float .f64 0, .string ⟨#[]⟩, .slice none 0 0] 43 (0, 0)) := by rw [← hw6, ← hg]; exact row_alloc w5 _ _
          obtain ⟨y, hy⟩ : ∃ y, set9 w6 g (.int .u32 0) (.int .u32 0) (.int .u16 0) (.int .i64 0) (.int .i64 0) (.int .i64 0) (.float .f64 0) (.string ⟨#[]⟩) (.slice none 0 0) = y := ⟨_, rfl⟩
          have hbY : Below w5.heap.size w5 y := by rw [← hy, hg]; exact set9_below (by rw [← hw6, ← hg]; exact (Below.refl _ _).alloc (Nat.le_refl _) _) (Nat.le_refl _) (.int .u32 0) (.int .u32 0) (.int .u16 0) (.int .i64 0) (.int .i64 0) (.int .i64 0) (.float .f64 0) (.string ⟨#[]⟩) (.slice none 0 0)
          have z0 := row_cell hV6 0; have z1 := row_cell hV6 1; have z2 := row_cell hV6 2; have z3 := row_cell hV6 3; have z4 := row_cell hV6 4; have z5 := row_cell hV6 5; have z6 := row_cell hV6 6; have z7 := row_cell hV6 7; have z8 := row_cell hV6 8
          simp only [List.getElem?_toArray, List.getElem?_cons_zero, List.getElem?_cons_succ] at z0 z1 z2 z3 z4 z5 z6 z7 z8
          have zf := fun o => row_frz hV6 o
          have HY := Lib.hid hy
          have HBY := Lib.hid (Below.trans (Below.trans hbl (hb5.mono hbl.size)) (hbY.mono (Nat.le_trans hbl.size hb5.size)))
          have HAL := Lib.hid (all_any 0 y tb _ _ R C (tabG_step hst.tab (Below.trans hb5 (hbY.mono hb5.size))) (fun r hr => by rw [hT r hr]; exact lf_lite 0 0 (Or.inl rfl)) hRne hR12)
          have HRL := Lib.hid hRl
          have hch : (((((((((w6).setCell ⟨g, 0, none⟩ (.int .u32 0)).setCell ⟨g, 1, none⟩ (.int .u32 0)).setCell ⟨g, 2, none⟩ (.int .u16 0)).setCell ⟨g, 3, none⟩ (.int .i64 0)).setCell ⟨g, 4, none⟩ (.int .i64 0)).setCell ⟨g, 5, none⟩ (.int .i64 0)).setCell ⟨g, 6, none⟩ (.float .f64 0)).setCell ⟨g, 7, none⟩ (.string ⟨#[]⟩)).setCell ⟨g, 8, none⟩ (.slice none 0 0) = y := hy
          clear hV6 hy hbY hb5 hst hT hR hC hRne hR12 hbl kp ko hRl HD
          go_wp2_with (go_at_call 15; first | (rw [hch]) | skip; refine HAL.out.mono ?_; rintro e w8 ⟨p8, c8, rfl, hb8⟩; have HB8 := Lib.hid (Below.trans HBY.out (hb8.mono HBY.out.size)); clear hb8; rw [HRL.out])
          go_ret
          exact ⟨rfl, HB8.out⟩
        · have hnm : getR R (x9 s 0) = none := (getR_none R _).2 (by rw [hR, kp]; omega)
          have hod : oldC C (x9 s 0) = false := by rw [old_dat]; show oldD (gL C 9) (s : Int) = false; rw [hC, ko]; simp; omega
          have g3 : (s : Int) < (f : Int) := by omega
          have u0 : decide ((f : Int) ≤ (s : Int)) = false := decide_eq_false (by omega)
          have u1 : decide (f ≤ s) = false := decide_eq_false (by omega)
          have u2 : decide ((s : Int) < (f : Int)) = true := decide_eq_true (by omega)
          have u3 : decide (s < f) = true := decide_eq_true (by omega)
          have g4 : ¬ ((4 : Int) ≤ (n : Int) + 1) := by omega
          go_wp2_with fail
          go_at_call 9; refine (look_no 1 wr tb _ _ R C (x9 s 0) hst.tab hnm).mono ?_; rintro e w5 ⟨rfl, hb5⟩
          rw [hod]
          clear hnm hod
          obtain ⟨g, hg⟩ : ∃ g, w5.heap.size = g := ⟨_, rfl⟩
          obtain ⟨w6, hw6⟩ : ∃ W, w5.alloc (.cells #[.int .u32 0, .int .u32 0, .int .u16 0, .int .i64 0, .int .i64 0, .int .i64 0, .float .f64 0, .string ⟨#[]⟩, .slice none 0 0] 43) = W := ⟨_, rfl⟩
          have hV6 : w6.heap[g]? = some (.cells #[.int .u32 0, .int .u32 0, .int .u16 0, .int .i64 0, .int .i64 0, .int .i64 0, .float .f64 0, .string ⟨#[]⟩, .slice none 0 0] 43 (0, 0)) := by rw [← hw6, ← hg]; exact row_alloc w5 _ _
          obtain ⟨y, hy⟩ : ∃ y, set9 w6 g (.int .u32 0) (.int .u32 0) (.int .u16 0) (.int .i64 0) (.int .i64 0) (.int .i64 0) (.float .f64 0) (.string ⟨#[]⟩) (.slice none 0 0) = y := ⟨_, rfl⟩
          have hbY : Below w5.heap.size w5 y := by rw [← hy, hg]; exact set9_below (by rw [← hw6, ← hg]; exact (Below.refl _ _).alloc (Nat.le_refl _) _) (Nat.le_refl _) (.int .u32 0) (.int .u32 0) (.int .u16 0) (.int .i64 0) (.int .i64 0) (.int .i64 0) (.float .f64 0) (.string ⟨#[]⟩) (.slice none 0 0)
          have z0 := row_cell hV6 0; have z1 := row_cell hV6 1; have z2 := row_cell hV6 2; have z3 := row_cell hV6 3; have z4 := row_cell hV6 4; have z5 := row_cell hV6 5; have z6 := row_cell hV6 6; have z7 := row_cell hV6 7; have z8 := row_cell hV6 8
          simp only [List.getElem?_toArray, List.getElem?_cons_zero, List.getElem?_cons_succ] at z0 z1 z2 z3 z4 z5 z6 z7 z8
          have zf := fun o => row_frz hV6 o
          have HY := Lib.hid hy
          have HBY := Lib.hid (Below.trans (Below.trans hbl (hb5.mono hbl.size)) (hbY.mono (Nat.le_trans hbl.size hb5.size)))
          have HAL := Lib.hid (all_any 0 y tb _ _ R C (tabG_step hst.tab (Below.trans hb5 (hbY.mono hb5.size))) (fun r hr => by rw [hT r hr]; exact lf_lite 0 0 (Or.inl rfl)) hRne hR12)
          have HRL := Lib.hid hRl
          have hch : (((((((((w6).setCell ⟨g, 0, none⟩ (.int .u32 0)).setCell ⟨g, 1, none⟩ (.int .u32 0)).setCell ⟨g, 2, none⟩ (.int .u16 0)).setCell ⟨g, 3, none⟩ (.int .i64 0)).setCell ⟨g, 4, none⟩ (.int .i64 0)).setCell ⟨g, 5, none⟩ (.int .i64 0)).setCell ⟨g, 6, none⟩ (.float .f64 0)).setCell ⟨g, 7, none⟩ (.string ⟨#[]⟩)).setCell ⟨g, 8, none⟩ (.slice none 0 0) = y := hy
          clear hV6 hy hbY hb5 hst hT hR hC hRne hR12 hbl kp ko hRl HD
          go_wp2_with (go_at_call 15; first | (rw [hch]) | skip; refine HAL.out.mono ?_; rintro e w8 ⟨p8, c8, rfl, hb8⟩; have HB8 := Lib.hid (Below.trans HBY.out (hb8.mono HBY.out.size)); clear hb8; rw [HRL.out])
          go_ret
          exact ⟨rfl, HB8.out⟩
end Num
end Go.Proofs.Ytakgcencnjkkpaa
