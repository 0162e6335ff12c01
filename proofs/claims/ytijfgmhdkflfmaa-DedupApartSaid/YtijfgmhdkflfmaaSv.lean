/-
  A table of replies: All.
-/
import Derived.Test.YtijfgmhdkflfmaaSr
import Derived.Test.YtijfgmhdkflfmaaSu
import Derived.Maps.RangeRun
namespace Go.Proofs.Ytijfgmhdkflfmaa
open Go.RowKit
namespace Num
open Ints
set_option linter.unusedSimpArgs false
set_option linter.unusedVariables false
theorem info_re : (Try.prog.info? 43).map (fun i => (i.zero, i.size, i.bytes)) = some (some repZ, 9, 88) := by kernel_rfl
theorem filt_one : ∀ (L : List MapEntry) (e : MapEntry), (L.map (·.born)).Nodup → e ∈ L → (L.filter (fun x => !(x.born == e.born))).length + 1 = L.length
  | [], e, _, h => absurd h (List.not_mem_nil)
  | x :: L, e, hn, h => by
    rw [List.map_cons, List.nodup_cons] at hn
    by_cases hx : x.born = e.born
    · have hall : L.filter (fun z => !(z.born == e.born)) = L := List.filter_eq_self.2 (fun z hz => by
        have : z.born ≠ e.born := fun he => hn.1 (List.mem_map.2 ⟨z, hz, he.trans hx.symm⟩)
        simpa using this)
      rw [List.filter_cons_of_neg (by simpa using hx), hall, List.length_cons]
    · rw [List.filter_cons_of_pos (by simpa using hx), List.length_cons, List.length_cons]
      rcases List.mem_cons.1 h with rfl | h
      · exact absurd rfl hx
      · rw [filt_one L e hn.2 h]
theorem left_one (es : Array MapEntry) (seen : Array Nat) (e : MapEntry) (hn : (es.toList.map (·.born)).Nodup) (he : e ∈ (leftOf es seen).toList) : (leftOf es (seen.push e.born)).size + 1 = (leftOf es seen).size := by
  have h1 : (leftOf es (seen.push e.born)).toList = (leftOf es seen).toList.filter (fun x => !(x.born == e.born)) := by
    unfold leftOf
    rw [Array.toList_filter, Array.toList_filter, List.filter_filter]
    congr 1
    funext x
    rw [Array.contains_push]
    cases seen.contains x.born <;> simp [Bool.beq_comm, BEq.comm]
  have h2 := filt_one (leftOf es seen).toList e (by
    unfold leftOf
    rw [Array.toList_filter]
    exact (List.Sublist.map _ List.filter_sublist).nodup hn) he
  rw [← Array.length_toList, ← Array.length_toList, h1]
  exact h2
/-- What All has put together so far. -/
def AllI (n : Nat) (w wr : World) (mr r : Nat) (es : Array MapEntry) (ck : Nat) (p : Option Addr) (l c : Nat) : Prop :=
  ∃ (seen : Array Nat) (E : List (RE n)), wr.heap[r]? = some (.mapIter (some mr) ck seen ck) ∧ E.length = l ∧ l + (leftOf es seen).size = es.size ∧ wr.ownsRow w.heap.size 43 9 (.slice p l c) l (E.flatMap RE.c9) ∧ Below w.heap.size w wr
theorem own_ne_iter {w : World} {B : Nat} {e : TypeId} {q : Nat} {v : Value} {n : Nat} {xs : List Value} {r : Nat} {m : Option Nat} {s c : Nat} {seen : Array Nat} (h : w.ownsRow B e q v n xs) (hr : w.heap[r]? = some (.mapIter m s seen c)) : v.ownBlock ≠ some r := by
  rcases h.2 with ⟨rfl, _⟩ | ⟨g, cap, cur, rfl, _, hg, _⟩
  · simp [Value.ownBlock]
  · intro hE
    have hE' : g = r := by simpa [Value.ownBlock] using hE
    subst hE'
    rw [hg] at hr
    cases hr
theorem flat9 {n : Nat} : ∀ (E : List (RE (n + 1))) (t : Nat), t < E.length * 9 → (E.flatMap RE.c9)[t]? = some ((RE.c9 E.toArray[t / 9]!)[t % 9]!)
  | [], t, h => by simp at h
  | r :: E, t, h => by
    rw [List.flatMap_cons]
    by_cases h9 : t < 9
    · have h0 : t / 9 = 0 := by omega
      have hm : t % 9 = t := by omega
      rw [List.getElem?_append_left (by exact h9), h0, hm, show (r :: E).toArray[0]! = r from rfl]
      rw [List.getElem?_eq_getElem (by exact h9), getElem!_pos (RE.c9 r) t h9]
    · have ih := flat9 E (t - 9) (by rw [List.length_cons] at h; omega)
      rw [List.getElem?_append_right (by show (9 : Nat) ≤ t; omega), show (RE.c9 r).length = 9 from rfl, ih]
      have e1 : (t - 9) / 9 + 1 = t / 9 := by omega
      have e2 : (t - 9) % 9 = t % 9 := by omega
      rw [e2, ← e1]
      congr 2
      have hl : (t - 9) / 9 < E.length := by rw [List.length_cons] at h; omega
      rw [getElem!_pos E.toArray _ (by rw [List.size_toArray]; exact hl), getElem!_pos (r :: E).toArray _ (by rw [List.size_toArray, List.length_cons]; omega)]
      simp
theorem sorted_below {n : Nat} {w wr : World} {b m : Nat} {d : Array (RE (n + 1))} {os : Array Obj} (hb : Below w.heap.size w wr) (hle : w.heap.size ≤ b) (hlt : b < wr.heap.size) : Below w.heap.size w (sortWorldK (RE.c9 (n := n + 1)) 9 wr b 0 m d os) := by
  unfold sortWorldK Sort.putRowK Sort.putRow Sort.mapBlock Sort.ahead Sort.grow
  refine ⟨hb.os, hb.tape, hb.output, ?_, fun k hk => ?_⟩
  · show w.heap.size ≤ (wr.heap.modify b _ ++ os).size
    rw [Array.size_append, Array.size_modify]
    have := hb.size
    omega
  · show (wr.heap.modify b _ ++ os)[k]? = w.heap[k]?
    have := hb.size
    rw [Array.getElem?_append_left (by rw [Array.size_modify]; omega), Array.getElem?_modify, if_neg (by omega)]
    exact hb.block k hk
set_option maxRecDepth 100000 in
set_option maxHeartbeats 8000000 in
theorem all_any (n : Nat) (w : World) (tb mr mc : Nat) (R : List (RE (n + 1))) (C : List KE) (h : TabG (n + 1) w tb mr mc R C) (hL : ∀ r ∈ R, Lite (n + 1) r.T) (h0 : R ≠ []) (h12 : R.length ≤ 12) :
    Calls Try.prog 15 #[.pointer (some ⟨tb, 0, none⟩)] w fun e w' => ∃ p c, e = .returned (.slice p R.length c) ∧ Below w.heap.size w w' := by
  obtain ⟨es, ck, hm, hK⟩ := h.rep
  obtain ⟨hf, hst1, hst2, _⟩ := hK
  have hst2' : (es.toList.map (·.born)).Nodup := hst2
  have hsz : es.size = R.length := by have := congrArg List.length hf; rwa [List.length_map, List.length_map, Array.length_toList] at this
  have t0 := row_cell h.tab 0
  simp only [List.getElem?_toArray, List.getElem?_cons_zero, List.getElem?_cons_succ] at t0
  obtain ⟨r, hr⟩ : ∃ r, w.heap.size = r := ⟨_, rfl⟩
  have hI0 : AllI (n + 1) w (w.alloc (.mapIter (some mr) ck #[] ck)) mr r es ck none 0 0 := by
    refine ⟨#[], [], by rw [← hr]; exact (MapKept.heap_alloc w _).1, rfl, ?_, World.ownsRow_nil _ _ _ _, (Below.refl _ _).alloc (Nat.le_refl _) _⟩
    have : leftOf es #[] = es := by unfold leftOf; rw [Array.filter_eq_self]; intro a _; simp
    rw [this]; omega
  have HI0 := Lib.hid hI0
  have HM := Lib.hid hm
  have HS := Lib.hid (And.intro hst1 (And.intro hst2' hsz))
  have HT := Lib.hid h
  have HL := Lib.hid hL
  have HKV := Lib.hid hf
  have HR := Lib.hid hr
  have hrg : (Instr.range 59 (.map (some mr))).run Try.prog w = .ok (.pointer (some ⟨r, 0, none⟩)) (w.alloc (.mapIter (some mr) ck #[] ck)) := by
    rw [← hr]
    simp [Instr.range, run_underlying rep_under, MapKept.run_getObj_map hm]
  clear h hm hf hst1 hst2 hst2' hsz hL hI0 hr
  go_enter Try.func15, Try.ntmps15
  go_wp2
  go_loopw [3] (fun av wr => ∃ (p : Option Addr) (l c : Nat), av = .slice p l c ∧ AllI (n + 1) w wr mr r es ck p l c) (fun av _ => es.size - (match av with | .slice _ l _ => l | _ => 0))
  case atStart => exact ⟨none, 0, 0, rfl, HI0.out⟩
  case round =>
    obtain ⟨p, l, c, rfl, seen, E, hit, hEl, hcnt, hown, hbel⟩ := hrel
    have hmr : mr < w.heap.size := row_lt HM.out
    have hmw := row_keep hbel HM.out hmr
    have hrr := HR.out
    rcases run_next_at (P := Try.prog) wr 0 r mr ck ck seen es ck hit hmw HS.out.1 (Nat.le_refl _) with ⟨hz, hnx0⟩ | ⟨e, heL, w1, hw1, hnx0⟩
    · have hnx : ∀ ty, (Instr.next (.pointer (some ⟨r, 0, none⟩)) false ty).run Try.prog wr = .ok (.tuple #[.bool false]) wr := fun _ => hnx0
      obtain rfl : l = R.length := by have := HS.out.2.2; omega
      have hRl : 0 < R.length := List.length_pos_iff.2 h0
      obtain ⟨b, rfl, hbb⟩ : ∃ b, p = some ⟨b, 0, none⟩ ∧ w.heap.size ≤ b := by
        rcases hown.2 with ⟨_, h⟩ | ⟨g, cap, cur, hv, hb, _⟩
        · omega
        · injection hv with e1 e2 e3
          exact ⟨g, e1, hb⟩
      have hcb := hown.cells (g := b) rfl
      obtain ⟨cur, hcur⟩ : ∃ cur, wr.heap[b]? = some (.cells cur 43 (0, 0)) := by
        rcases hown.2 with ⟨hv, _⟩ | ⟨g, cap, cur, hv, _, hg, _⟩
        · cases hv
        · injection hv with e1 e2 e3
          injection e1 with e1
          injection e1 with e1
          subst e1
          exact ⟨cur, hg⟩
      have hHK : Sort.HoldsK (RE.c9 (n := n + 1)) 9 wr b 0 E.toArray := by
        intro t ht
        rw [Sort.size_flatK, List.size_toArray] at ht
        refine ⟨?_, row_frz hcur _⟩
        rw [Sort.get_flatK _ _ _ _ (by rw [List.size_toArray]; exact ht)]
        have h1 := hcb t _ (flat9 E t ht)
        rw [Addr.add_lit] at h1
        rw [h1]
        rfl
      have HSO := Lib.hid (sortR_any n b 0 c E.toArray wr hHK (row_lt hcur) (by rw [List.size_toArray, hEl]; exact h12))
      rw [List.size_toArray, hEl] at HSO
      have HBL := Lib.hid (And.intro hbel (And.intro hbb (row_lt hcur)))
      clear hcb hHK hcur hown hit hbel hnx0 hmw hrr hrg t0 HI0
      go_wp2_with fail
      go_at_call 29; refine HSO.out.mono ?_; rintro e w7 ⟨rfl, m, os, hw7⟩
      have HB7 := Lib.hid (show Below w.heap.size w w7 by rw [hw7]; exact sorted_below HBL.out.1 HBL.out.2.1 HBL.out.2.2)
      clear hw7
      go_wp2
      go_ret
      exact ⟨_, _, rfl, HB7.out⟩
    · obtain ⟨heE, _⟩ := mem_left heL
      obtain ⟨rr, hrrR, hkr⟩ : ∃ rr ∈ R, kv e = RE.kv rr := by
        have : kv e ∈ R.map RE.kv := by rw [← HKV.out]; exact List.mem_map.2 ⟨e, heE, rfl⟩
        obtain ⟨rr, h1, h2⟩ := List.mem_map.1 this
        exact ⟨rr, h1, h2.symm⟩
      obtain ⟨W1, hW1⟩ : ∃ W, Go.ChangeMaps.setBlock w1 r (.mapIter (some mr) ck (seen.push e.born) ck) = W := ⟨_, rfl⟩
      rw [hW1] at hnx0
      have hw1h : w1.heap = wr.heap ∧ w1.os = wr.os ∧ w1.tape = wr.tape ∧ w1.output = wr.output := by rcases hw1 with rfl | rfl <;> exact ⟨rfl, rfl, rfl, rfl⟩
      have hit1 : W1.heap[r]? = some (.mapIter (some mr) ck (seen.push e.born) ck) := by rw [← hW1]; exact (MapKept.heap_set (w := w1) (by rw [hw1h.1]; exact hit)).1
      have hoth1 : ∀ k, k ≠ r → W1.heap[k]? = wr.heap[k]? := fun k hk => by rw [← hW1, ← hw1h.1]; exact (MapKept.heap_set (w := w1) (by rw [hw1h.1]; exact hit)).2 k hk
      have hsz1 : W1.heap.size = wr.heap.size := by rw [← hW1, ← hw1h.1]; show (w1.heap.setIfInBounds r _).size = _; rw [Array.size_setIfInBounds]
      have hg1 : wr.grownBy W1 (some r) := ⟨by rw [← hW1]; exact hw1h.2.1, by rw [← hW1]; exact hw1h.2.2.1, by rw [← hW1]; exact hw1h.2.2.2, by omega, fun k _ hk => hoth1 k (fun e => hk (by rw [e]))⟩
      have hmr1 : W1.heap[mr]? = some (.map es ck) := (hoth1 mr (by omega)).trans hmw
      have hen0 := run_entry_at (P := Try.prog) W1 r mr ck seen es ck e hit1 hmr1 heE HS.out.2.1
      obtain ⟨ke, ve, be⟩ := e
      simp only [kv, RE.kv, Prod.mk.injEq] at hkr
      obtain ⟨rfl, rfl⟩ := hkr
      have hbW : Below w.heap.size w W1 := ⟨hg1.os.trans hbel.os, hg1.tape.trans hbel.tape, hg1.output.trans hbel.output, by have := hbel.size; omega, fun k hk => (hoth1 k (by omega)).trans (hbel.block k hk)⟩
      have hownW := hown.kept hg1 (Or.inr (own_ne_iter hown hit))
      have hone := left_one es seen _ HS.out.2.1 heL
      have hrep := repC_rep _ _ _ _ (HT.out.val rr hrrR)
      have hlit := HL.out rr hrrR
      obtain ⟨⟨i1, i2, i3⟩, er, K, I, F, S, q, m, d, T⟩ := rr
      simp only at hrep hlit hnx0 hen0
      have hnx : ∀ ty, (Instr.next (.pointer (some ⟨r, 0, none⟩)) false ty).run Try.prog wr = .ok (.tuple #[.bool true, .agg #[.int .u32 i1, .int .u32 i2, .int .u16 i3], .agg #[.int .u32 i1, .int .u32 i2, .int .u16 i3, .int .i64 er, .int .i64 K, .int .i64 I, .float .f64 F, .string S, .slice q m d]]) W1 := fun _ => hnx0
      have hen : (Instr.entry (.pointer (some ⟨r, 0, none⟩))).run Try.prog W1 = .ok (.tuple #[.agg #[.int .u32 i1, .int .u32 i2, .int .u16 i3], .agg #[.int .u32 i1, .int .u32 i2, .int .u16 i3, .int .i64 er, .int .i64 K, .int .i64 I, .float .f64 F, .string S, .slice q m d]]) W1 := hen0
      obtain ⟨g, hg⟩ : ∃ g, W1.heap.size = g := ⟨_, rfl⟩
      obtain ⟨w2, hw2⟩ : ∃ W, W1.alloc (.cells #[.int .u32 0, .int .u32 0, .int .u16 0, .int .i64 0, .int .i64 0, .int .i64 0, .float .f64 0, .string ⟨#[]⟩, .slice none 0 0] 43) = W := ⟨_, rfl⟩
      have hV2 : w2.heap[g]? = some (.cells #[.int .u32 0, .int .u32 0, .int .u16 0, .int .i64 0, .int .i64 0, .int .i64 0, .float .f64 0, .string ⟨#[]⟩, .slice none 0 0] 43 (0, 0)) := by rw [← hw2, ← hg]; exact row_alloc W1 _ _
      obtain ⟨y, hy⟩ : ∃ y, set9 w2 g (.int .u32 i1) (.int .u32 i2) (.int .u16 i3) (.int .i64 er) (.int .i64 K) (.int .i64 I) (.float .f64 F) (.string S) (.slice q m d) = y := ⟨_, rfl⟩
      have hyV : y.heap[g]? = some (.cells #[.int .u32 i1, .int .u32 i2, .int .u16 i3, .int .i64 er, .int .i64 K, .int .i64 I, .float .f64 F, .string S, .slice q m d] 43 (0, 0)) := by rw [← hy]; exact set9_at hV2 (.int .u32 i1) (.int .u32 i2) (.int .u16 i3) (.int .i64 er) (.int .i64 K) (.int .i64 I) (.float .f64 F) (.string S) (.slice q m d)
      have hbY : Below W1.heap.size W1 y := by rw [← hy, hg]; exact set9_below (by rw [← hw2, ← hg]; exact (Below.refl _ _).alloc (Nat.le_refl _) _) (Nat.le_refl _) (.int .u32 i1) (.int .u32 i2) (.int .u16 i3) (.int .i64 er) (.int .i64 K) (.int .i64 I) (.float .f64 F) (.string S) (.slice q m d)
      have z0 := row_cell hV2 0; have z1 := row_cell hV2 1; have z2 := row_cell hV2 2; have z3 := row_cell hV2 3; have z4 := row_cell hV2 4; have z5 := row_cell hV2 5; have z6 := row_cell hV2 6; have z7 := row_cell hV2 7; have z8 := row_cell hV2 8
      have y0 := row_cell hyV 0; have y1 := row_cell hyV 1; have y2 := row_cell hyV 2; have y3 := row_cell hyV 3; have y4 := row_cell hyV 4; have y5 := row_cell hyV 5; have y6 := row_cell hyV 6; have y7 := row_cell hyV 7; have y8 := row_cell hyV 8
      simp only [List.getElem?_toArray, List.getElem?_cons_zero, List.getElem?_cons_succ] at z0 y0 z1 y1 z2 y2 z3 y3 z4 y4 z5 y5 z6 y6 z7 y7 z8 y8
      have zf := fun o => row_frz hV2 o
      have HY := Lib.hid hy
      have HBW := Lib.hid hbW
      have HBY := Lib.hid hbY
      have HIT := Lib.hid hit1
      have HOW := Lib.hid hownW
      have HCN := Lib.hid (And.intro hEl (And.intro hcnt hone))
      have HCL := Lib.hid (dclean_at (n + 1) y i1 i2 i3 er K I F S q m d T (rep_keep (Below.trans hbW (hbY.mono hbW.size)) _ _ _ hrep) hlit)
      have hl12 : l < 12 := by have := HS.out.2.2; omega
      have hlN : l < es.size := by omega
      clear heL heE hrrR hit hbel hnx0 hmw hrr hrg t0 HI0 hW1 hw1h hit1 hoth1 hsz1 hg1 hmr1 hen0 hbW hownW hone hrep hlit hV2 hy hyV hbY hown hEl hcnt hw1
      go_wp2_with fail
      clear hw2
      rw [show ((((((((((w2).setCell ⟨g, 0, none⟩ (.int .u32 i1)).setCell ⟨g, 1, none⟩ (.int .u32 i2)).setCell ⟨g, 2, none⟩ (.int .u16 i3)).setCell ⟨g, 3, none⟩ (.int .i64 er)).setCell ⟨g, 4, none⟩ (.int .i64 K)).setCell ⟨g, 5, none⟩ (.int .i64 I)).setCell ⟨g, 6, none⟩ (.float .f64 F)).setCell ⟨g, 7, none⟩ (.string S)).setCell ⟨g, 8, none⟩ (.slice q m d)) = y from HY.out]
      clear z0 z1 z2 z3 z4 z5 z6 z7 z8 zf HY
      go_at_call 21; refine HCL.out.mono ?_; rintro e w6 ⟨K2, I2, F2, S2, q2, m2, d2, rfl, _, hb6⟩
      have hb6a : Below W1.heap.size W1 (w6.alloc (.cells #[.int .u32 i1, .int .u32 i2, .int .u16 i3, .int .i64 er, .int .i64 K2, .int .i64 I2, .float .f64 F2, .string S2, .slice q2 m2 d2] 43)) := bel_alloc (bel_step HBY.out hb6) _
      have HO6 := Lib.hid (HOW.out.kept (bel_own hb6a none) (by cases hx : Value.ownBlock (.slice p l c) with | none => exact Or.inl rfl | some z => exact Or.inr (by simp)))
      have HI6 := Lib.hid (row_step HIT.out hb6a)
      have HB6 := Lib.hid (Below.trans HBW.out (hb6a.mono HBW.out.size))
      have hrow := row_alloc w6 #[.int .u32 i1, .int .u32 i2, .int .u16 i3, .int .i64 er, .int .i64 K2, .int .i64 I2, .float .f64 F2, .string S2, .slice q2 m2 d2] 43
      have HF := Lib.hid (show (∀ j u, (RE.c9 (⟨(i1, i2, i3), er, K2, I2, F2, S2, q2, m2, d2, cleanT (n + 1) T⟩ : RE (n + 1)))[j]? = some u → (w6.alloc (.cells #[.int .u32 i1, .int .u32 i2, .int .u16 i3, .int .i64 er, .int .i64 K2, .int .i64 I2, .float .f64 F2, .string S2, .slice q2 m2 d2] 43)).cell? ((⟨w6.heap.size, 0, none⟩ : Addr).add j) = some u) ∧ ∀ u ∈ RE.c9 (⟨(i1, i2, i3), er, K2, I2, F2, S2, q2, m2, d2, cleanT (n + 1) T⟩ : RE (n + 1)), u.oneCell' = true from ⟨fun j u hj => by
        rw [Addr.add_lit, Nat.zero_add, row_cell hrow j, List.getElem?_toArray]
        exact hj, fun u hu => by
        simp only [RE.c9, List.mem_cons, List.not_mem_nil, or_false] at hu
        rcases hu with rfl | rfl | rfl | rfl | rfl | rfl | rfl | rfl | rfl <;> rfl⟩)
      obtain ⟨i0, hi0, hz0, hz1, hz2⟩ := info_parts info_re
      clear hb6 hb6a hrow y0 y1 y2 y3 y4 y5 y6 y7 y8
      go_wp2_with (at_builtin; refine wpList_append_own_at _ rfl _ _ 27 rfl w.heap.size 43 i0 _ 9 88 Try.underlying27 hi0 hz0 hz1 hz2 rfl (by decide) (.slice p l c) l _ rfl HO6.out ⟨w6.heap.size, 0, none⟩ 1 1 (RE.c9 (⟨(i1, i2, i3), er, K2, I2, F2, S2, q2, m2, d2, cleanT (n + 1) T⟩ : RE (n + 1))) rfl rfl HF.out.1 HF.out.2 (by unfold maxLen; omega) (by omega) HB6.out.size ?_; intro v' w8 ho8 hg8 _ hat8)
      obtain ⟨p', c', rfl⟩ : ∃ p' c', v' = .slice p' (l + 1) c' := by
        rcases ho8.2 with ⟨_, h⟩ | ⟨g', cap, cur, rfl, _⟩
        · omega
        · exact ⟨_, _, rfl⟩
      have HN := Lib.hid (show AllI (n + 1) w w8 mr r es ck p' (l + 1) c' from ⟨seen.push be, E ++ [⟨(i1, i2, i3), er, K2, I2, F2, S2, q2, m2, d2, cleanT (n + 1) T⟩], row_grown HI6.out hg8 (fun e => own_ne_iter HO6.out HI6.out e.symm), by rw [List.length_append, HCN.out.1]; rfl, by have h1 := HCN.out.2.1; have h2 : (leftOf es (seen.push be)).size + 1 = (leftOf es seen).size := HCN.out.2.2; omega, by rw [List.flatMap_append, show ([⟨(i1, i2, i3), er, K2, I2, F2, S2, q2, m2, d2, cleanT (n + 1) T⟩] : List (RE (n + 1))).flatMap RE.c9 = RE.c9 (⟨(i1, i2, i3), er, K2, I2, F2, S2, q2, m2, d2, cleanT (n + 1) T⟩ : RE (n + 1)) from List.append_nil _]; exact ho8, Below.grown HB6.out hg8 HB6.out.size (fun k hk => (HO6.out.lt k hk).1)⟩)
      clear ho8 hg8 hat8 hi0 hz0 hz1 hz2
      go_roundw
      case rel => exact ⟨p', l + 1, c', rfl, HN.out⟩
      case measure => simp; omega
end Num
end Go.Proofs.Ytijfgmhdkflfmaa
