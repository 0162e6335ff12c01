/-
  Package dedup's example holds.
-/
import Derived.Test.YtijfgmhdkflfmaaSv
import Derived.Test.YtijfgmhdkflfmaaSw
namespace Go.Proofs.Ytijfgmhdkflfmaa
open Go.RowKit
namespace Num
open Ints
set_option linter.unusedSimpArgs false
set_option linter.unusedVariables false
/-- A number, or nothing, as a value. -/
abbrev lfT (K I : Int) : VT 1 := (K, I, 0, ⟨#[]⟩, [])
theorem lf_lite (K I : Int) (hK : K = 0 ∨ K = 1) : Lite 1 (lfT K I) := by
  rcases hK with rfl | rfl <;> exact ⟨rfl, (by decide : (1 : Nat) ≤ 1000), rfl⟩
theorem lf_clean (K I : Int) (hK : K = 0 ∧ I = 0 ∨ K = 1) : cleanT 1 (lfT K I) = lfT K I := by
  rcases hK with ⟨rfl, rfl⟩ | rfl <;> rfl
theorem lf_rep (w : World) (K I : Int) (h1 : okI K) (h2 : okI I) : Rep w 1 (.agg #[.int .i64 K, .int .i64 I, .float .f64 0, .string ⟨#[]⟩, .slice none 0 0]) (lfT K I) := repC_rep _ _ _ _ (leafC (fun _ => True) w 0 K I 0 ⟨#[]⟩ h1 h2 (by decide) (by decide))
/-- A reply to an id, with such a value. -/
abbrev lfR (x : DId) (K I : Int) : RE 1 := ⟨x, 0, K, I, 0, ⟨#[]⟩, none, 0, 0, lfT K I⟩
theorem re_I {w : World} {S : Nat → Prop} {r : RE 1} (h : RepC w 1 S r.v r.T) : r.I = r.T.2.1 := by
  obtain ⟨p, l, c, hv, _⟩ := h
  injection hv with hv
  have := congrArg Array.toList hv
  simp only [List.cons.injEq, Value.int.injEq, true_and] at this
  exact this.2.1
theorem rint_any (i : Int) (w : World) : Calls Try.prog 18 #[.int .i64 i] w fun e w' => e = .returned (.agg #[.int .i64 1, .int .i64 i, .float .f64 0, .string ⟨#[]⟩, .slice none 0 0]) ∧ Below w.heap.size w w' := by
  go_enter Try.func18, Try.ntmps18
  go_wp2
  refine bodyPost_ret (v := .agg #[.int .i64 1, .int .i64 i, .float .f64 0, .string ⟨#[]⟩, .slice none 0 0]) (by simp [results, Try.results18, go_sem]) rfl ⟨rfl, ?_⟩
  exact (Below.refl _ _).alloc (Nat.le_refl _) _
/-- A table in which one reply was put. -/
theorem st_first {w : World} {P : Nat → Prop} {tb mr mc : Nat} {r : RE 1} {w' : World} (h : PutQ 1 P w tb mr mc [] [] 1 r w') : ∃ (r' : RE 1) (C' : List KE), r'.x = r.x ∧ r'.T = cleanT 1 r.T ∧ gL C' r.x.1 = [(r.x.2.1, [r.x])] ∧ St 1 (fun b => P b ∨ (w.heap.size ≤ b ∧ b < w'.heap.size)) w' tb mr mc [r'] C' 2 := by
  obtain ⟨r', R', C', hx, _, hT, hR, hg, _, hst, _⟩ := h
  exact ⟨r', C', hx, hT, hg, by rw [show [r'] = R' from hR.symm]; exact hst⟩
theorem putQ_below {n : Nat} {P : Nat → Prop} {w w' : World} {tb mr mc : Nat} {R : List (RE n)} {C : List KE} {m : Nat} {r : RE n} (h : St n P w tb mr mc R C m) (hq : PutQ n P w tb mr mc R C m r w') (B : Nat) (hP : ∀ b, P b → B ≤ b) (hB : B ≤ w.heap.size) : Below B w w' := by
  obtain ⟨_, _, _, _, _, _, _, _, _, _, hc⟩ := hq
  exact chg_below h hc B hP hB
set_option maxRecDepth 100000 in
set_option maxHeartbeats 8000000 in
theorem known16 (w : World) : Calls Try.prog 6 #[] w fun e w' => e = .returned (.bool true) ∧ Below w.heap.size w w' := by
  go_enter Try.func6, Try.ntmps6
  go_wp2_with fail
  go_at_call 7; refine (new_any 1 w).mono ?_; rintro e w1 ⟨rfl, hb1, hs1, ht1⟩
  obtain ⟨tb, htb⟩ : ∃ tb, w.heap.size + 2 = tb := ⟨_, rfl⟩
  rw [htb] at hs1 ht1
  rw [htb]
  have HB1 := Lib.hid hb1
  have HT1 := Lib.hid (st_new (P := fun b => w.heap.size ≤ b) ht1 (Nat.le_refl _) (Nat.le_succ _))
  clear hb1 hs1 ht1 htb
  go_wp2_with fail
  go_at_call 18; refine (rint_any 5 _).mono ?_; rintro e w2 ⟨rfl, hb2⟩
  have HT2 := Lib.hid (st_step HT1.out hb2)
  have HB2 := Lib.hid (Below.trans HB1.out (hb2.mono HB1.out.size))
  clear hb2
  go_wp2_with fail
  go_at_call 12; refine (st_put HT2.out (by decide) (by decide) (lfR (1, 1, 0) 1 5) rfl rfl (lf_rep _ 1 5 (by decide) (by decide)) (lf_lite 1 5 (Or.inr rfl))).mono ?_; rintro e w3 ⟨rfl, hq⟩
  obtain ⟨r', C', hx, hT, hg, hst⟩ := st_first hq
  rw [lf_clean 1 5 (Or.inr rfl)] at hT
  have hget : getR [r'] (1, 1, 0) = some r' := by
    unfold getR
    rw [List.find?_cons_of_pos (by rw [hx]; rfl)]
  have HB3 := Lib.hid (Below.trans HB2.out (putQ_below HT2.out hq w.heap.size (fun _ h => h) HB2.out.size))
  have HT3 := Lib.hid hst.tab
  have HWF := Lib.hid hst.wfc
  have HG := Lib.hid (And.intro hget (And.intro hT hg))
  clear hq hst hx hT hg hget
  go_wp2_with fail
  go_at_call 12; refine (put_no 1 w3 tb _ _ [r'] C' (lfR (1, 1, 0) 0 0) HT3.out (Or.inl (by show getR [r'] (1, 1, 0) ≠ none; rw [HG.out.1]; simp))).mono ?_; rintro e w4 ⟨rfl, hb4⟩
  have HT4 := Lib.hid (tabG_step HT3.out hb4)
  have HB4 := Lib.hid (Below.trans HB3.out (hb4.mono HB3.out.size))
  clear hb4
  go_wp2_with fail
  go_at_call 9; refine (look_some 1 w4 tb _ _ [r'] C' (1, 1, 0) r' HT4.out HG.out.1 (by rw [HG.out.2.1]; exact lf_lite 1 5 (Or.inr rfl))).mono ?_; rintro e w5 ⟨r2, rfl, hxx, hee, hT2, hv2, hb5⟩
  clear hxx hee
  have hI := re_I hv2
  rw [hT2, HG.out.2.1, lf_clean 1 5 (Or.inr rfl)] at hI
  obtain ⟨⟨j1, j2, j3⟩, er, K, I, F, S, q, m, d, T⟩ := r2
  simp only at hI
  subst hI
  obtain ⟨g, hg⟩ : ∃ g, w5.heap.size = g := ⟨_, rfl⟩
  obtain ⟨w6, hw6⟩ : ∃ W, w5.alloc (.cells #[.int .u32 0, .int .u32 0, .int .u16 0, .int .i64 0, .int .i64 0, .int .i64 0, .float .f64 0, .string ⟨#[]⟩, .slice none 0 0] 43) = W := ⟨_, rfl⟩
  have hV6 : w6.heap[g]? = some (.cells #[.int .u32 0, .int .u32 0, .int .u16 0, .int .i64 0, .int .i64 0, .int .i64 0, .float .f64 0, .string ⟨#[]⟩, .slice none 0 0] 43 (0, 0)) := by rw [← hw6, ← hg]; exact row_alloc w5 _ _
  obtain ⟨y, hy⟩ : ∃ y, set9 w6 g (.int .u32 j1) (.int .u32 j2) (.int .u16 j3) (.int .i64 er) (.int .i64 K) (.int .i64 5) (.float .f64 F) (.string S) (.slice q m d) = y := ⟨_, rfl⟩
  have hyV : y.heap[g]? = some (.cells #[.int .u32 j1, .int .u32 j2, .int .u16 j3, .int .i64 er, .int .i64 K, .int .i64 5, .float .f64 F, .string S, .slice q m d] 43 (0, 0)) := by rw [← hy]; exact set9_at hV6 (.int .u32 j1) (.int .u32 j2) (.int .u16 j3) (.int .i64 er) (.int .i64 K) (.int .i64 5) (.float .f64 F) (.string S) (.slice q m d)
  have hbY : Below w5.heap.size w5 y := by rw [← hy, hg]; exact set9_below (by rw [← hw6, ← hg]; exact (Below.refl _ _).alloc (Nat.le_refl _) _) (Nat.le_refl _) (.int .u32 j1) (.int .u32 j2) (.int .u16 j3) (.int .i64 er) (.int .i64 K) (.int .i64 5) (.float .f64 F) (.string S) (.slice q m d)
  have z0 := row_cell hV6 0; have z1 := row_cell hV6 1; have z2 := row_cell hV6 2; have z3 := row_cell hV6 3; have z4 := row_cell hV6 4; have z5 := row_cell hV6 5; have z6 := row_cell hV6 6; have z7 := row_cell hV6 7; have z8 := row_cell hV6 8
  simp only [List.getElem?_toArray, List.getElem?_cons_zero, List.getElem?_cons_succ] at z0 z1 z2 z3 z4 z5 z6 z7 z8
  have zf := fun o => row_frz hV6 o
  have HY := Lib.hid hy
  have HYV := Lib.hid hyV
  have HTY := Lib.hid (tabG_step HT4.out (Below.trans hb5 (hbY.mono hb5.size)))
  have HBY := Lib.hid (Below.trans (Below.trans HB4.out (hb5.mono HB4.out.size)) (hbY.mono (Nat.le_trans HB4.out.size hb5.size)))
  have HLA := Lib.hid (last_any 1 y tb _ _ [r'] C' 1 HTY.out (.tuple #[.int .u32 1, .bool true]) (by
    have hg := HG.out.2.2
    unfold gL at hg
    cases hc : getC C' 1 with
    | none => rw [hc] at hg; cases hg
    | some k =>
      rw [hc] at hg
      have hd : datL k.L = [(1, [(1, 1, 0)])] := hg
      unfold datL at hd
      obtain ⟨z, hk, hz⟩ : ∃ z, k.L = [z] ∧ z.s = 1 := by
        cases hk : k.L with
        | nil => rw [hk] at hd; cases hd
        | cons z zs =>
          rw [hk, List.map_cons] at hd
          injection hd with h1 h2
          injection h1 with h1 _
          exact ⟨z, by rw [List.map_eq_nil_iff.1 h2], h1⟩
      simp only [hk]
      show _ = Value.tuple #[.int .u32 z.s, .bool true]
      rw [hz]) (fun k hk => Nat.le_trans (HWF.out.all k hk).2.1 (by decide)))
  clear hV6 hy hyV hbY hv2 hb5 hT2
  go_wp2_with fail
  clear hw6
  rw [show ((((((((((w6).setCell ⟨g, 0, none⟩ (.int .u32 j1)).setCell ⟨g, 1, none⟩ (.int .u32 j2)).setCell ⟨g, 2, none⟩ (.int .u16 j3)).setCell ⟨g, 3, none⟩ (.int .i64 er)).setCell ⟨g, 4, none⟩ (.int .i64 K)).setCell ⟨g, 5, none⟩ (.int .i64 5)).setCell ⟨g, 6, none⟩ (.float .f64 F)).setCell ⟨g, 7, none⟩ (.string S)).setCell ⟨g, 8, none⟩ (.slice q m d)) = y from HY.out]
  clear z0 z1 z2 z3 z4 z5 z6 z7 z8 zf HY
  go_at_call 16; refine HLA.out.mono ?_; rintro e w7 ⟨rfl, hb7⟩
  have hY7 := row_step HYV.out hb7
  have c5 := row_cell hY7 5
  simp only [List.getElem?_toArray, List.getElem?_cons_zero, List.getElem?_cons_succ] at c5
  have HT7 := Lib.hid (tabG_step HTY.out hb7)
  have HB7 := Lib.hid (Below.trans HBY.out (hb7.mono HBY.out.size))
  have HAL := Lib.hid (all_any 0 w7 tb _ _ [r'] C' HT7.out (fun r hr => by rw [List.mem_singleton.1 hr, HG.out.2.1]; exact lf_lite 1 5 (Or.inr rfl)) (by simp) (by show (1 : Nat) ≤ 12; decide))
  clear hY7 hb7
  go_wp2_with (go_at_call 15; refine HAL.out.mono ?_; rintro e w8 ⟨p, c, rfl, hb8⟩; have HB8 := Lib.hid (Below.trans HB7.out (hb8.mono HB7.out.size)); clear hb8)
  go_ret
  exact ⟨rfl, HB8.out⟩
end Num
end Go.Proofs.Ytijfgmhdkflfmaa
