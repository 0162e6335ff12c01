/-
  Package value's clean, Clean: what they make of a value lies in new blocks.
-/
import Derived.Test.YtijfgmhdkflfmaaKP
import Derived.Test.YtijfgmhdkflfmaaKT
import Derived.Test.YtijfgmhdkflfmaaVBits
import Derived.Test.YtijfgmhdkflfmaaVWalk
namespace Go.Proofs.Ytijfgmhdkflfmaa
open Go.RowKit
namespace Num
open Ints
set_option linter.unusedSimpArgs false
set_option linter.unusedVariables false
def PClean (n : Nat) : Prop := ∀ (v : Value) (T : VT n) (w : World), Rep w n v T → partsT n T ≤ 1000000 → Calls Try.prog 45 #[v] w fun e w' => ∃ v', e = .returned v' ∧ Below w.heap.size w w' ∧ RepS (fun b => w.heap.size ≤ b) w' n v' (cleanT n T)
def PCleansP (n : Nat) (w : World) (L : List (VT n)) (e : Ending) (w' : World) : Prop := ∃ p l c, e = .returned (.slice p l c) ∧ Below w.heap.size w w' ∧ RepLS (fun b => w.heap.size ≤ b) w' (RepC w' n) p l c (L.map (cleanT n))
theorem leafC (S : Nat → Prop) (w : World) (n : Nat) (K I : Int) (F : Nat) (Z : ByteArray) (hK : okI K) (hI : okI I) (hF : F < 2 ^ 64) (hZ : Z.size ≤ maxLen) : RepC w (n + 1) S (.agg #[.int .i64 K, .int .i64 I, .float .f64 F, .string Z, .slice none 0 0]) (K, I, F, Z, []) :=
  ⟨none, 0, 0, rfl, hK, hI, hF, hZ, rfl, Nat.le_refl _, Nat.zero_le _, fun h => absurd h (Nat.lt_irrefl _)⟩
theorem parts_mem {n : Nat} (L : List (VT n)) (i : Nat) (h : i < L.length) : partsT n L[i] ≤ L.foldl (fun a x => a + partsT n x) 1 := by
  have h1 := parts_prefix L i h 1
  omega
theorem parts_pos' {n : Nat} (T : VT n) : 1 ≤ partsT n T := by
  cases n with
  | zero => exact Nat.le_refl _
  | succ n =>
    unfold partsT
    split
    · exact foldl_parts _ 1
    · exact Nat.le_refl _
theorem parts_len {n : Nat} : ∀ (L : List (VT n)) (a : Nat), a + L.length ≤ L.foldl (fun a x => a + partsT n x) a
  | [], a => Nat.le_refl _
  | x :: r, a => by
    have h1 := parts_len r (a + partsT n x)
    have h2 := parts_pos' x
    rw [List.foldl_cons, List.length_cons]
    omega
set_option maxRecDepth 100000 in
set_option maxHeartbeats 4000000 in
theorem pcleans_any (n : Nat) (ih : PClean n) (w : World) (p : Option Addr) (l c : Nat) (L : List (VT n)) (hp : ∀ i (h : i < L.length), partsT n L[i] ≤ 1000000) (h : RepL w (Rep w n) p l c L) (hl : l ≤ 1000000) :
    Calls Try.prog 65 #[.slice p l c] w (PCleansP n w L) := by
  obtain ⟨hlen, hlc, hcm, hel⟩ := h
  unfold maxLen at hcm
  rcases Nat.eq_zero_or_pos l with h0 | h0
  · subst h0
    obtain rfl : L = [] := List.eq_nil_of_length_eq_zero hlen
    clear hel
    go_enter Try.func65, Try.ntmps65
    go_wp2
    go_ret
    exact ⟨none, 0, 0, rfl, Below.refl _ _, rfl, Nat.le_refl _, Nat.zero_le _, fun h => absurd h (Nat.lt_irrefl _)⟩
  · have IH := Lib.hid ih
    have HP := Lib.hid hp
    have HE := Lib.hid hel
    have HLEN := Lib.hid hlen
    obtain ⟨i0, hi, hz0, hz1, hz2⟩ := info_parts info_v5
    obtain ⟨wm, hmk, hown, hg⟩ := run_makeSlice_full (P := Try.prog) (w := w) w.heap.size 31 33 i0 (.agg #[.int .i64 0, .int .i64 0, .float .f64 0, .string ⟨#[]⟩, .slice none 0 0]) 5 Try.underlying31 hi hz0 hz1 .i64 .i64 l (by omega) (by rw [hz2]; omega) (by unfold maxLen; omega) (Nat.le_refl _)
    have HBM := Lib.hid (Below.grown (Below.refl w.heap.size w) hg (Nat.le_refl _) (fun k hk => by cases hk))
    have HOP := Lib.hid (show OwP wm.heap.size 0 w wm n w.heap.size l (L.map (cleanT n)) from ⟨_, hown, by rw [List.length_map]; exact hlen, HBM.out, HBM.out.size, Nat.le_refl _, fun _ => 0, fun j hj hji => absurd hji (Nat.not_lt_zero _)⟩)
    have g1 : ((l : Int) == 0) = false := by rw [beq_eq_false_iff_ne]; omega
    have g2 : (0 : Int) ≤ (l : Int) := by omega
    clear hp hel hlen hown hg ih
    go_enter Try.func65, Try.ntmps65
    go_wp2
    go_loopw [14] (fun iv wr => ∃ i : Nat, i ≤ l ∧ iv = .int .i64 i ∧ OwPL i w wr n w.heap.size l (L.map (cleanT n))) (fun iv _ => l - (intOf iv).toNat)
    case atStart => exact ⟨0, by omega, rfl, HOP.out⟩
    case round =>
      obtain ⟨i, hil, rfl, hO⟩ := hrel
      have HO := Lib.hid (show OwP wr.heap.size i w wr n w.heap.size l (L.map (cleanT n)) from hO)
      have hB : Below w.heap.size w wr := by obtain ⟨XS, _, _, h3, _⟩ := hO; exact h3
      have HB := Lib.hid hB
      by_cases hlt : i < l
      · obtain ⟨b, off, hpb, hit⟩ := HE.out (by omega)
        subst hpb
        have hkl : i < L.length := by have := HLEN.out; omega
        obtain ⟨v0, v1, v2, v3, v4, c0, c1, c2, c3, c4, hr⟩ := hit i hkl
        have e0 := cell_keep hB c0
        have e1 := cell_keep hB c1
        have e2 := cell_keep hB c2
        have e3 := cell_keep hB c3
        have e4 := cell_keep hB c4
        have elt := cell_lt e0
        have HR := Lib.hid (rep_keep (bel_alloc (Below.refl wr.heap.size wr) (.cells #[v0, v1, v2, v3, v4] 33)) _ _ _ (rep_keep hB _ _ _ hr))
        have HPP := Lib.hid (HP.out i hkl)
        have HT := Lib.hid (show (L.map (cleanT n))[i]'(by rw [List.length_map]; exact hkl) = cleanT n L[i] from List.getElem_map _)
        have HLI := Lib.hid (show i < (L.map (cleanT n)).length by rw [List.length_map]; exact hkl)
        have hk0 : (0 : Int) ≤ (i : Int) := by omega
        have hkl2 : (i : Int) < (l : Int) := by omega
        obtain ⟨K, I, F, S, q, m, d, hv⟩ : ∃ (K I : Int) (F : Nat) (S : ByteArray) (q : Option Addr) (m d : Nat), (Value.agg #[v0, v1, v2, v3, v4]) = .agg #[.int .i64 K, .int .i64 I, .float .f64 F, .string S, .slice q m d] := by
          cases n with
          | zero => exact hr.elim
          | succ n => obtain ⟨q, m, d, hv, _⟩ := hr; exact ⟨_, _, _, _, q, m, d, hv⟩
        injection hv with hv
        simp only [Array.mk.injEq, List.cons.injEq, and_true] at hv
        obtain ⟨rfl, rfl, rfl, rfl, rfl⟩ := hv
        clear c0 c1 c2 c3 c4 hit hr hB hO
        go_wp2_with fail
        go_at_call 45; refine (IH.out _ _ _ HR.out HPP.out).mono ?_; rintro e w2 ⟨v', rfl, hb2, hr2⟩
        obtain ⟨K2, I2, F2, S2, q2, m2, d2, rfl, _⟩ := repS_shape hr2
        have HBX := Lib.hid (bel_step (bel_alloc (Below.refl wr.heap.size wr) (.cells #[.int .i64 K, .int .i64 I, .float .f64 F, .string S, .slice q m d] 33)) hb2)
        have HO2 := Lib.hid (op_keep HO.out HBX.out)
        obtain ⟨hge, hlt2, df, x0, x1, x2, x3, x4, d0, d1, d2', d3, d4⟩ := op_cells HO2.out hlt
        have HFILL := Lib.hid (op_fill HO2.out HLI.out (.int .i64 K2) (.int .i64 I2) (.float .f64 F2) (.string S2) (.slice q2 m2 d2) (by
          rw [HT.out]
          have hs := World.size_alloc wr (.cells #[.int .i64 K, .int .i64 I, .float .f64 F, .string S, .slice q m d] 33)
          have hGw : w.heap.size < wr.heap.size := (op_cells HO.out hlt).2.1
          have hBs := HB.out.size
          exact repC_mono n _ _ _ _ (fun b hb => ⟨⟨by omega, hb.2, fun e => by injection e with e; have e' : w.heap.size = _ := e; omega⟩, by omega⟩) (repC_lt n _ _ _ hr2)))
        clear hb2 hr2 e0 e1 e2 e3 e4 elt
        go_wp2
        go_roundw
        case rel => exact ⟨i + 1, by omega, by go_num, HFILL.out⟩
        case measure => simp [intOf]; omega
      · obtain rfl : i = l := by omega
        clear hB hO
        go_wp2
        go_ret
        exact ⟨_, _, _, rfl, HB.out, op_rep HO.out⟩
set_option maxRecDepth 100000 in
set_option maxHeartbeats 2000000 in
theorem pclean_int (w : World) (I : Int) (F : Nat) (S : ByteArray) (q : Option Addr) (m d : Nat) : Calls Try.prog 45 #[.agg #[.int .i64 1, .int .i64 I, .float .f64 F, .string S, .slice q m d]] w fun e w' => e = .returned (.agg #[.int .i64 1, .int .i64 I, .float .f64 0, .string ⟨#[]⟩, .slice none 0 0]) ∧ Below w.heap.size w w' := by
  go_enter Try.func45, Try.ntmps45
  go_wp2
  exact bodyPost_ret (v := .agg #[.int .i64 1, .int .i64 I, .float .f64 0, .string ⟨#[]⟩, .slice none 0 0]) (by simp [results, Try.results45, go_sem, World.cell?_setCell_same, World.cell?_setCell_other]) rfl ⟨rfl, bel_alloc (bel_alloc (Below.refl _ _) _) _⟩
set_option maxRecDepth 100000 in
set_option maxHeartbeats 2000000 in
theorem pclean_flo (w : World) (I : Int) (F : Nat) (S : ByteArray) (q : Option Addr) (m d : Nat) : Calls Try.prog 45 #[.agg #[.int .i64 2, .int .i64 I, .float .f64 F, .string S, .slice q m d]] w fun e w' => e = .returned (.agg #[.int .i64 2, .int .i64 0, .float .f64 (Flo.canon F), .string ⟨#[]⟩, .slice none 0 0]) ∧ Below w.heap.size w w' := by
  go_enter Try.func45, Try.ntmps45
  go_wp2_with (first | (go_at_call 64; refine (canon_any _ _).mono ?_; rintro e w' ⟨rfl, rfl⟩))
  exact bodyPost_ret (v := .agg #[.int .i64 2, .int .i64 0, .float .f64 (Flo.canon F), .string ⟨#[]⟩, .slice none 0 0]) (by simp [results, Try.results45, go_sem, World.cell?_setCell_same, World.cell?_setCell_other]) rfl ⟨rfl, bel_alloc (bel_alloc (Below.refl _ _) _) _⟩
set_option maxRecDepth 100000 in
set_option maxHeartbeats 2000000 in
theorem pclean_txt (w : World) (I : Int) (F : Nat) (S : ByteArray) (q : Option Addr) (m d : Nat) : Calls Try.prog 45 #[.agg #[.int .i64 3, .int .i64 I, .float .f64 F, .string S, .slice q m d]] w fun e w' => e = .returned (.agg #[.int .i64 3, .int .i64 0, .float .f64 0, .string S, .slice none 0 0]) ∧ Below w.heap.size w w' := by
  go_enter Try.func45, Try.ntmps45
  go_wp2
  exact bodyPost_ret (v := .agg #[.int .i64 3, .int .i64 0, .float .f64 0, .string S, .slice none 0 0]) (by simp [results, Try.results45, go_sem, World.cell?_setCell_same, World.cell?_setCell_other]) rfl ⟨rfl, bel_alloc (bel_alloc (Below.refl _ _) _) _⟩
set_option maxRecDepth 100000 in
set_option maxHeartbeats 2000000 in
theorem pclean_nil (w : World) (K I : Int) (F : Nat) (S : ByteArray) (q : Option Addr) (m d : Nat) (h1 : K ≠ 1) (h2 : K ≠ 2) (h3 : K ≠ 3) (h4 : K ≠ 4) : Calls Try.prog 45 #[.agg #[.int .i64 K, .int .i64 I, .float .f64 F, .string S, .slice q m d]] w fun e w' => e = .returned (.agg #[.int .i64 0, .int .i64 0, .float .f64 0, .string ⟨#[]⟩, .slice none 0 0]) ∧ Below w.heap.size w w' := by
  have b1 : (K == 1) = false := by rw [beq_eq_false_iff_ne]; exact h1
  have b2 : (K == 2) = false := by rw [beq_eq_false_iff_ne]; exact h2
  have b3 : (K == 3) = false := by rw [beq_eq_false_iff_ne]; exact h3
  have b4 : (K == 4) = false := by rw [beq_eq_false_iff_ne]; exact h4
  clear h1 h2 h3 h4
  go_enter Try.func45, Try.ntmps45
  go_wp2
  exact bodyPost_ret (v := .agg #[.int .i64 0, .int .i64 0, .float .f64 0, .string ⟨#[]⟩, .slice none 0 0]) (by simp [results, Try.results45, go_sem, World.cell?_setCell_same, World.cell?_setCell_other]) rfl ⟨rfl, bel_alloc (bel_alloc (Below.refl _ _) _) _⟩
set_option maxRecDepth 100000 in
set_option maxHeartbeats 2000000 in
theorem pclean_list (n : Nat) (ih : PClean n) (w : World) (I : Int) (F : Nat) (S : ByteArray) (q : Option Addr) (m d : Nat) (L : List (VT n)) (hp : ∀ i (h : i < L.length), partsT n L[i] ≤ 1000000) (h : RepL w (Rep w n) q m d L) (hl : m ≤ 1000000) :
    Calls Try.prog 45 #[.agg #[.int .i64 4, .int .i64 I, .float .f64 F, .string S, .slice q m d]] w fun e w' => ∃ v', e = .returned v' ∧ Below w.heap.size w w' ∧ RepS (fun b => w.heap.size ≤ b) w' (n + 1) v' (4, 0, 0, ⟨#[]⟩, L.map (cleanT n)) := by
  have HB := Lib.hid (bel_alloc (bel_alloc (Below.refl w.heap.size w) (.cells #[.int .i64 4, .int .i64 I, .float .f64 F, .string S, .slice q m d] 33)) (.cells #[.int .i64 0, .int .i64 0, .float .f64 0, .string ⟨#[]⟩, .slice none 0 0] 33))
  have HR := Lib.hid (row_alloc (w.alloc (.cells #[.int .i64 4, .int .i64 I, .float .f64 F, .string S, .slice q m d] 33)) #[.int .i64 0, .int .i64 0, .float .f64 0, .string ⟨#[]⟩, .slice none 0 0] 33)
  have hs2 : ((w.alloc (.cells #[.int .i64 4, .int .i64 I, .float .f64 F, .string S, .slice q m d] 33)).alloc (.cells #[.int .i64 0, .int .i64 0, .float .f64 0, .string ⟨#[]⟩, .slice none 0 0] 33)).heap.size = w.heap.size + 1 + 1 := by rw [World.size_alloc, World.size_alloc]
  have HC := Lib.hid (pcleans_any n ih ((w.alloc (.cells #[.int .i64 4, .int .i64 I, .float .f64 F, .string S, .slice q m d] 33)).alloc (.cells #[.int .i64 0, .int .i64 0, .float .f64 0, .string ⟨#[]⟩, .slice none 0 0] 33)) q m d L hp (repL_keep HB.out (rep_keep HB.out n) h) hl)
  have HS2 := Lib.hid hs2
  unfold PCleansP at HC
  clear ih hp h hl hs2
  go_enter Try.func45, Try.ntmps45
  go_wp2_with fail
  go_at_call 65; refine HC.out.mono ?_; rintro e w2 ⟨p2, l2, c2, rfl, hb2, hr2⟩
  have hr := row_step HR.out hb2
  rw [World.size_alloc] at hr
  have d0 := row_cell hr 0; have d1 := row_cell hr 1; have d2 := row_cell hr 2; have d3 := row_cell hr 3; have d4 := row_cell hr 4
  simp only [List.getElem?_toArray, List.getElem?_cons_zero, List.getElem?_cons_succ] at d0 d1 d2 d3 d4
  have df := fun o => row_frz hr o
  have hlt := row_lt hr
  have HB2 := Lib.hid (bel_step HB.out hb2)
  have HL2 := Lib.hid hr2
  clear hr hb2 hr2 HB HR HC
  go_wp2
  refine bodyPost_ret (v := .agg #[.int .i64 4, .int .i64 0, .float .f64 0, .string ⟨#[]⟩, .slice p2 l2 c2]) (by simp [results, Try.results45, go_sem, World.cell?_setCell_same, World.cell?_setCell_other, d0, d1, d2, d3, d4]) rfl ⟨_, rfl, ?_, ?_⟩
  · exact set5_below (g := w.heap.size + 1) (o := 0) HB2.out (by omega) _ _ _ _ _
  · refine ⟨p2, l2, c2, rfl, (by decide : okI 4), (by decide : okI 0), (by decide : (0 : Nat) < 2 ^ 64), (by decide : (⟨#[]⟩ : ByteArray).size ≤ maxLen), ?_⟩
    refine repLS_mono (S := fun b => w.heap.size + 1 + 1 ≤ b) (fun b hb => by omega) (repLS_keep (w := w2) (fun b hb => ?_) (HS2.out ▸ HL2.out))
    exact set5_other (w := w2) (g := w.heap.size + 1) (o := 0) (by omega)
theorem pclean_any : ∀ n, PClean n := by
  intro n
  induction n with
  | zero => intro v T w h; exact h.elim
  | succ n ih =>
    intro v T w hr hp
    obtain ⟨K, I, F, S, L⟩ := T
    obtain ⟨q, m, d, rfl, hK, hI, hF, hS, hL⟩ := hr
    have hI' : okI I := hI
    have hF' : F < 2 ^ 64 := hF
    have hS' : S.size ≤ maxLen := hS
    have z0 : okI 0 := by decide
    have zF : (0 : Nat) < 2 ^ 64 := by decide
    have zS : (⟨#[]⟩ : ByteArray).size ≤ maxLen := by decide
    by_cases h1 : K = 1
    · subst h1
      exact (pclean_int w I F S q m d).mono fun e w' h => ⟨_, h.1, h.2, leafC _ w' n 1 I 0 ⟨#[]⟩ (by decide) hI' zF zS⟩
    by_cases h2 : K = 2
    · subst h2
      exact (pclean_flo w I F S q m d).mono fun e w' h => ⟨_, h.1, h.2, leafC _ w' n 2 0 (Flo.canon F) ⟨#[]⟩ (by decide) z0 (Flo.canon_lt (x := F) hF') zS⟩
    by_cases h3 : K = 3
    · subst h3
      exact (pclean_txt w I F S q m d).mono fun e w' h => ⟨_, h.1, h.2, leafC _ w' n 3 0 0 S (by decide) z0 zF hS'⟩
    by_cases h4 : K = 4
    · subst h4
      rw [partsT_list (by decide)] at hp
      have hlen : L.length = m := hL.1
      exact pclean_list n ih w I F S q m d L (fun i h => Nat.le_trans (parts_mem L i h) hp) hL (by have := parts_len L 1; omega)
    have e2 : cleanT (n + 1) (K, I, F, S, L) = (0, 0, 0, ⟨#[]⟩, []) := by
      unfold cleanT
      rw [if_neg (by simpa using h1), if_neg (by simpa using h2), if_neg (by simpa using h3), if_neg (by simpa using h4)]
    exact (pclean_nil w K I F S q m d h1 h2 h3 h4).mono fun e w' h => ⟨_, h.1, h.2, by rw [e2]; exact leafC _ w' n 0 0 0 ⟨#[]⟩ z0 z0 zF zS⟩
set_option maxRecDepth 100000 in
set_option maxHeartbeats 4000000 in
/-- Clean of what may be walked. -/
theorem vclean_any (n : Nat) (v : Value) (T : VT n) (w : World) (hr : Rep w n v T) (hd : deepT n T 64 = false) (hp : partsT n T ≤ 1000) (hw : walkM (measT n T) = true) :
    Calls Try.prog 31 #[v] w fun e w' => ∃ v', e = .returned v' ∧ Below w.heap.size w w' ∧ RepS (fun b => w.heap.size ≤ b) w' n v' (cleanT n T) := by
  obtain ⟨K, I, F, S, q, m, d, rfl⟩ : ∃ (K I : Int) (F : Nat) (S : ByteArray) (q : Option Addr) (m d : Nat), v = .agg #[.int .i64 K, .int .i64 I, .float .f64 F, .string S, .slice q m d] := by
    cases n with
    | zero => exact hr.elim
    | succ n => obtain ⟨q, m, d, hv, _⟩ := hr; exact ⟨_, _, _, _, q, m, d, hv⟩
  have HB := Lib.hid (bel_alloc (bel_alloc (Below.refl w.heap.size w) (.cells #[.int .i64 K, .int .i64 I, .float .f64 F, .string S, .slice q m d] 33)) (.cells #[.int .i64 0, .int .i64 0, .float .f64 0, .string ⟨#[]⟩, .slice none 0 0] 33))
  have HA := Lib.hid (row_alloc_step (row_alloc w #[.int .i64 K, .int .i64 I, .float .f64 F, .string S, .slice q m d] 33) (.cells #[.int .i64 0, .int .i64 0, .float .f64 0, .string ⟨#[]⟩, .slice none 0 0] 33))
  have HR := Lib.hid (row_alloc (w.alloc (.cells #[.int .i64 K, .int .i64 I, .float .f64 F, .string S, .slice q m d] 33)) #[.int .i64 0, .int .i64 0, .float .f64 0, .string ⟨#[]⟩, .slice none 0 0] 33)
  have HW := Lib.hid (walkable_any n K I F S q m d T _ (rep_keep HB.out _ _ _ hr) hd hp)
  rw [hw] at HW
  have HC := Lib.hid (fun W (hb : Below w.heap.size w W) => pclean_any n _ T W (rep_keep hb _ _ _ hr) (by omega))
  clear hr hd hp hw
  go_enter Try.func31, Try.ntmps31
  go_wp2_with fail
  go_at_call 44; refine HW.out.mono ?_; rintro e w2 ⟨rfl, hb2⟩
  have HB2 := Lib.hid (bel_step HB.out hb2)
  have hr2 := row_step HR.out hb2
  rw [World.size_alloc] at hr2
  have HR2 := Lib.hid hr2
  have a2 := row_step HA.out hb2
  have a0 := row_cell a2 0; have a1 := row_cell a2 1; have a3 := row_cell a2 2; have a4 := row_cell a2 3; have a5 := row_cell a2 4
  simp only [List.getElem?_toArray, List.getElem?_cons_zero, List.getElem?_cons_succ] at a0 a1 a3 a4 a5
  have hlt2 := row_lt hr2
  clear hb2 a2 hr2 HB HA HR HW
  go_wp2_with fail
  go_at_call 45; refine (HC.out _ HB2.out).mono ?_; rintro e w3 ⟨v', rfl, hb3, hr3⟩
  obtain ⟨K2, I2, F2, S2, q2, m2, d2, rfl, _⟩ := repS_shape hr3
  have hr := row_step HR2.out hb3
  have d0 := row_cell hr 0; have d1 := row_cell hr 1; have d2' := row_cell hr 2; have d3 := row_cell hr 3; have d4 := row_cell hr 4
  simp only [List.getElem?_toArray, List.getElem?_cons_zero, List.getElem?_cons_succ] at d0 d1 d2' d3 d4
  have df := fun o => row_frz hr o
  have hlt := row_lt hr
  have HB3 := Lib.hid (bel_step HB2.out hb3)
  have HV := Lib.hid hr3
  clear hr hb3 hr3 HB2 HR2 HC a0 a1 a3 a4 a5
  go_wp2
  refine bodyPost_ret (v := .agg #[.int .i64 K2, .int .i64 I2, .float .f64 F2, .string S2, .slice q2 m2 d2]) (by simp [results, Try.results31, go_sem, World.cell?_setCell_same, World.cell?_setCell_other, d0, d1, d2', d3, d4]) rfl ⟨_, rfl, ?_, ?_⟩
  · exact set5_below (g := w.heap.size + 1) (o := 0) HB3.out (by omega) _ _ _ _ _
  · refine repS_mono (S := fun b => w2.heap.size ≤ b) (fun b hb => by omega) n _ _ (repS_keep (w := w3) (fun b hb => ?_) n _ _ HV.out)
    exact set5_other (w := w3) (g := w.heap.size + 1) (o := 0) (by omega)
end Num
end Go.Proofs.Ytijfgmhdkflfmaa
