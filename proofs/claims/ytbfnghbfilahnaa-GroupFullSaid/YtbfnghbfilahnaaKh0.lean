/-
  Groups by their names: byNames, the sort, slices.SortedFunc, All.
-/
import Derived.Test.YtbfnghbfilahnaaKg0
import Derived.Test.YtbfnghbfilahnaaSsg
import Derived.Test.YtbfnghbfilahnaaGrpShelf
import Derived.Sort.Grow
namespace Go.Proofs.Ytbfnghbfilahnaa
open Go.RowKit
namespace Num
open Ints
set_option linter.unusedSimpArgs false
set_option linter.unusedVariables false
instance : Inhabited Gp := ⟨⟨⟨#[]⟩, ⟨#[]⟩, 0, 0⟩⟩
/-- The order of names. -/
def cfG (x y : Gp) : Int := Lib.compareBytes x.n.data.toList y.n.data.toList
theorem cb_lt : ∀ a b : List UInt8, (Lib.compareBytes a b < 0 ↔ a < b)
  | [], [] => by simp [Lib.compareBytes]
  | [], b :: m => by simp [Lib.compareBytes]
  | a :: l, [] => by simp [Lib.compareBytes]
  | a :: l, b :: m => by
    unfold Lib.compareBytes
    rw [List.cons_lt_cons_iff]
    by_cases h1 : a < b
    · simp [h1]
    · rw [if_neg h1]
      by_cases h2 : b < a
      · have hne : a ≠ b := fun e => by subst e; exact UInt8.lt_irrefl _ h2
        simp [h1, h2, hne]
      · have e : a = b := UInt8.le_antisymm (UInt8.not_lt.1 h2) (UInt8.not_lt.1 h1)
        rw [if_neg h2, cb_lt l m]
        simp [e, UInt8.lt_irrefl]
theorem lt_cfG (x y : Gp) : ltOf cfG x y = decide (x.n.data.toList < y.n.data.toList) := by
  unfold ltOf
  rw [decide_eq_decide]
  exact cb_lt _ _
theorem swoG : Sort.SWO (ltOf cfG) where
  irrefl x := by rw [lt_cfG, decide_eq_false_iff_not]; exact List.lt_irrefl _
  trans x y z h1 h2 := by rw [lt_cfG, decide_eq_true_iff] at *; exact List.lt_trans h1 h2
  ntrans x y z h1 h2 := by
    rw [lt_cfG, decide_eq_false_iff_not] at *
    rw [List.not_lt] at *
    exact List.le_trans h2 h1
theorem cmp_gr (a b : ByteArray) (w : World) : Calls Try.prog 45 #[.string a, .string b] w fun e w' => e = .returned (.int .i64 (Lib.compareBytes a.data.toList b.data.toList)) ∧ w' = w := Any.strings_Compare Try.cmpGr a b w
set_option maxRecDepth 100000 in
set_option maxHeartbeats 4000000 in
theorem bynames_any (x y : Gp) (w : World) : Calls Try.prog 22 #[Gp.a x, Gp.a y] w fun e w' => e = .returned (.int .i64 (cfG x y)) ∧ Gr w w' := by
  obtain ⟨pn, pc, ps, pv⟩ := x
  obtain ⟨qn, qc, qs, qv⟩ := y
  obtain ⟨w1, hw1⟩ : ∃ W, w.alloc (.cells #[.string pn, .string pc, .int .i64 ps, .int .u32 pv] 49) = W := ⟨_, rfl⟩
  obtain ⟨w2, hw2⟩ : ∃ W, w1.alloc (.cells #[.string qn, .string qc, .int .i64 qs, .int .u32 qv] 49) = W := ⟨_, rfl⟩
  obtain ⟨g, hg⟩ : ∃ g, w.heap.size = g := ⟨_, rfl⟩
  have hs1 : w1.heap.size = g + 1 := by rw [← hw1, World.size_alloc, hg]
  have HGR := Lib.hid (show Gr w w2 by rw [← hw2, ← hw1]; exact gr_alloc (gr_alloc (gr_refl w) _) _)
  have hA : w2.heap[g]? = some (.cells #[.string pn, .string pc, .int .i64 ps, .int .u32 pv] 49 (0, 0)) := by rw [← hw2, ← hw1, ← hg]; exact row_alloc_step (row_alloc w _ _) _
  have hC : w2.heap[g + 1]? = some (.cells #[.string qn, .string qc, .int .i64 qs, .int .u32 qv] 49 (0, 0)) := by rw [← hw2, ← hs1]; exact row_alloc w1 _ _
  have c0 := row_cell hA 0
  have e0 := row_cell hC 0
  simp only [List.getElem?_toArray, List.getElem?_cons_zero, List.getElem?_cons_succ] at c0 e0
  have HC := Lib.hid (fun (W : World) => cmp_gr pn qn W)
  have HZ := Lib.hid (show Lib.compareBytes pn.data.toList qn.data.toList = cfG ⟨pn, pc, ps, pv⟩ ⟨qn, qc, qs, qv⟩ from rfl)
  obtain ⟨z, hz⟩ : ∃ z, Lib.compareBytes pn.data.toList qn.data.toList = z := ⟨_, rfl⟩
  rw [hz] at HC HZ
  clear hA hC hz
  go_enter Try.func22, Try.ntmps22
  go_wp2_with (go_at_call 45; refine (HC.out _).mono ?_; rintro e w' ⟨rfl, rfl⟩)
  go_ret
  refine ⟨?_, HGR.out⟩
  rw [← HZ.out]
  rfl
theorem cmpLaysG (blk off size : Nat) (w : World) : CmpLays Try.prog 22 #[] Gp.c4 4 cfG blk off size w :=
  fun _ _ _ _ x y => bynames_any x y _
/-- A slice of groups as it lies. -/
def RdG (w : World) (b : Nat) (L : List Gp) : Prop := ∀ i (h : i < L.length), w.cell? ⟨b, i * 4, none⟩ = some (.string L[i].n) ∧ w.cell? ⟨b, i * 4 + 1, none⟩ = some (.string L[i].c) ∧ w.cell? ⟨b, i * 4 + 2, none⟩ = some (.int .i64 L[i].s) ∧ w.cell? ⟨b, i * 4 + 3, none⟩ = some (.int .u32 L[i].v)
theorem flat4 : ∀ (E : List Gp) (t : Nat), t < E.length * 4 → (E.flatMap Gp.c4)[t]? = some ((Gp.c4 E.toArray[t / 4]!)[t % 4]!)
  | [], t, h => by simp at h
  | r :: E, t, h => by
    rw [List.flatMap_cons]
    by_cases h9 : t < 4
    · have h0 : t / 4 = 0 := by omega
      have hm : t % 4 = t := by omega
      rw [List.getElem?_append_left (by exact h9), h0, hm, show (r :: E).toArray[0]! = r from rfl]
      rw [List.getElem?_eq_getElem (by exact h9), getElem!_pos (Gp.c4 r) t h9]
    · have ih := flat4 E (t - 4) (by rw [List.length_cons] at h; omega)
      rw [List.getElem?_append_right (by show (4 : Nat) ≤ t; omega), show (Gp.c4 r).length = 4 from rfl, ih]
      have e1 : (t - 4) / 4 + 1 = t / 4 := by omega
      have e2 : (t - 4) % 4 = t % 4 := by omega
      rw [e2, ← e1]
      congr 2
      have hl : (t - 4) / 4 < E.length := by rw [List.length_cons] at h; omega
      rw [getElem!_pos E.toArray _ (by rw [List.size_toArray]; exact hl), getElem!_pos (r :: E).toArray _ (by rw [List.size_toArray, List.length_cons]; omega)]
      simp
theorem rd_of_holds {w : World} {b : Nat} {d : Array Gp} (h : Sort.HoldsK Gp.c4 4 w b 0 d) : RdG w b d.toList := fun i hi => by
  rw [Array.length_toList] at hi
  have f := fun j (hj : j < 4) => (h (i * 4 + j) (by rw [Sort.size_flatK]; omega)).1
  have e : ∀ j, j < 4 → (Sort.flatK Gp.c4 4 d)[i * 4 + j]! = (Gp.c4 d[i])[j]! := fun j hj => by
    rw [Sort.get_flatK _ _ _ _ (by omega), show (i * 4 + j) / 4 = i by omega, show (i * 4 + j) % 4 = j by omega, getElem!_pos d i hi]
  have f0 := f 0 (by omega)
  have f1 := f 1 (by omega)
  have f2 := f 2 (by omega)
  have f3 := f 3 (by omega)
  rw [e 0 (by omega)] at f0
  rw [e 1 (by omega)] at f1
  rw [e 2 (by omega)] at f2
  rw [e 3 (by omega)] at f3
  simp only [Nat.zero_add, Nat.add_zero] at f0 f1 f2 f3
  rw [Array.getElem_toList]
  exact ⟨f0, f1, f2, f3⟩
theorem sorted_belG {w wr : World} {b m : Nat} {d : Array Gp} {os : Array Obj} (hb : Below w.heap.size w wr) (hle : w.heap.size ≤ b) (hlt : b < wr.heap.size) : Below w.heap.size w (sortWorldK Gp.c4 4 wr b 0 m d os) := by
  unfold sortWorldK Sort.putRowK Sort.putRow Sort.mapBlock Sort.ahead Sort.grow
  refine ⟨hb.os, hb.tape, hb.output, ?_, fun k hk => ?_⟩
  · show w.heap.size ≤ (wr.heap.modify b _ ++ os).size
    rw [Array.size_append, Array.size_modify]
    have := hb.size
    omega
  · show (wr.heap.modify b _ ++ os)[k]? = w.heap[k]?
    have := hb.size
    rw [Array.getElem?_append_left (by rw [Array.size_modify]; omega), Array.getElem?_modify, if_neg (by omega)]
    exact hb.block k hk
theorem sortG_any (blk cap : Nat) (d : Array Gp) (w : World) (hH : Sort.HoldsK Gp.c4 4 w blk 0 d) (hblk : blk < w.heap.size) (hsz : d.size < 4611686018427387904) :
    Calls Try.prog 43 #[.slice (some ⟨blk, 0, none⟩) d.size cap, .func (.func 22) #[] #[]] w fun e w' => e = .returned (.tuple #[]) ∧ ∃ d' n os, Sort.PermIn 0 d.size d d' ∧ w' = sortWorldK Gp.c4 4 w blk 0 n d' os := by
  have eg : ∀ args w, (callFunc 22 args).run Try.prog w = .ok (.enter 22 args) w := enters_of Try.func22 (by kernel_rfl) rfl
  refine (AnyQ.slices_SortFunc Try.sortGr 4 Try.isAgg49 Try.sizeOf49 Gp.c4 (fun _ => rfl) (fun x v hv => by
    simp only [Gp.c4, List.mem_cons, List.not_mem_nil, or_false] at hv
    rcases hv with rfl | rfl | rfl | rfl <;> rfl) cfG swoG 22 #[] blk 0 cap d w eg (cmpLaysG blk 0 d.size w) hH hblk hsz).mono ?_
  rintro e w' ⟨he, d', n, os, hp, _, hw⟩
  exact ⟨he, d', n, os, hp, hw⟩
set_option maxRecDepth 100000 in
set_option maxHeartbeats 4000000 in
/-- slices.SortedFunc of what an iterator gives, by names: some one at least. -/
theorem sortedf_in (g : Nat) (lb : Array Value) (eg : ∀ args w, (callFunc g args).run Try.prog w = .ok (.enter g args) w) (S : List Gp → Prop) (hS1 : ∀ ss, S ss → ss ≠ []) (N : Nat) (hN : N ≤ 1000) (hSN : ∀ ss, S ss → ss.length ≤ 1000) (w : World) (hseq : SeqGives Fence.wide 2 Try.prog g lb Gp.a S N w) :
    CallsIn Fence.wide 5 Try.prog 20 #[.func (.func g) #[] lb, .func (.func 22) #[] #[]] w fun e w' => ∃ (b c : Nat) (ss d : List Gp), e = .returned (.slice (some ⟨b, 0, none⟩) ss.length c) ∧ S ss ∧ d.Perm ss ∧ RdG w' b d ∧ Below w.heap.size w w' := by
  have hfC : Fence.wide.fn 42 := trivial
  have hfS : Fence.wide.fn 43 := trivial
  refine callsIn_of_wp Try.func20 rfl trivial ?_ rfl
  simp only [Try.ntmps20, List.size_toArray, List.length_cons, List.length_nil, Nat.reduceAdd, Nat.reduceSub, Array.replicate_succ, Array.replicate_zero, List.push_toArray, List.append_toArray, List.nil_append, List.cons_append]
  gi_wp2_with fail
  gi_at_call 42; refine (coll_in Fence.wide 4 trivial trivial rfl (by omega) g lb trivial eg S N hN _ hseq).mono ?_; rintro e w1 ⟨v, ss, rfl, hS, hrow, hb⟩
  have hne := hS1 ss hS
  have hlen := hSN ss hS
  have hl0 : 0 < ss.length := List.length_pos_iff.2 hne
  obtain ⟨b, cap, cur, rfl, hbb, hcur, hcap⟩ : ∃ b cap cur, v = .slice (some ⟨b, 0, none⟩) ss.length cap ∧ w.heap.size ≤ b ∧ w1.heap[b]? = some (.cells cur 49 (0, 0)) ∧ ss.length ≤ cap := by
    rcases hrow.2 with ⟨_, h⟩ | ⟨g, cap, cur, hv, hb, hg, hc, _⟩
    · omega
    · exact ⟨g, cap, cur, hv, hb, hg, hc⟩
  have hcb := hrow.cells (g := b) rfl
  have hHK : Sort.HoldsK Gp.c4 4 w1 b 0 ss.toArray := by
    intro t ht
    rw [Sort.size_flatK, List.size_toArray] at ht
    refine ⟨?_, row_frz hcur _⟩
    rw [Sort.get_flatK _ _ _ _ (by rw [List.size_toArray]; exact ht)]
    have h1 := hcb t _ (flat4 ss t ht)
    rw [Addr.add_lit] at h1
    rw [h1]
    rfl
  have hso := sortG_any b cap ss.toArray w1 hHK (row_lt hcur) (by rw [List.size_toArray]; omega)
  rw [List.size_toArray] at hso
  have HSO := Lib.hid hso
  have HX := Lib.hid (And.intro hHK (And.intro hb (And.intro hbb (row_lt hcur))))
  have HSS := Lib.hid hS
  clear hcb hHK hcur hrow hb hso hne hlen hS
  gi_wp2_with fail
  gi_at_call 43; refine (callsIn_wide.2 HSO.out).mono ?_; rintro e w7 ⟨rfl, d', m, os, hp, hw7⟩
  have HR7 := Lib.hid (show RdG w7 b d'.toList by
    rw [hw7]
    exact rd_of_holds (holdsK_sortWorldK_c Gp.c4 4 w1 b 0 ss.toArray d' m os HX.out.1 HX.out.2.2.2 hp.1))
  have HB7 := Lib.hid (show Below w.heap.size w w7 by rw [hw7]; exact sorted_belG HX.out.2.1 HX.out.2.2.1 HX.out.2.2.2)
  have HP := Lib.hid (show d'.toList.Perm ss by
    have h3 := hp.2.2
    rw [show ss.toArray.extract 0 ss.length = ss.toArray by rw [← List.size_toArray]; exact Array.extract_size] at h3
    rw [show d'.extract 0 ss.length = d' by have h1 : d'.size = ss.length := hp.1.trans List.size_toArray; rw [← h1]; exact Array.extract_size] at h3
    exact h3)
  clear hw7 hp
  gi_wp2
  go_ret
  exact ⟨b, cap, ss, d'.toList, rfl, HSS.out, HP.out, HR7.out, HB7.out⟩
set_option maxRecDepth 100000 in
set_option maxHeartbeats 4000000 in
theorem vals_any (mb : Option Nat) (W : World) : Calls Try.prog 21 #[.map mb] W fun e w' => e = .returned (.func (.func 44) #[] #[.pointer (some ⟨W.heap.size, 0, none⟩)]) ∧ w' = W.alloc (.cells #[.map mb] 56) := by
  go_enter Try.func21, Try.ntmps21
  go_wp2
  go_ret
  exact ⟨rfl, rfl⟩
theorem vals_gives {w : World} {tb mb : Nat} {L : List Gp} (h : DirG w tb mb L) (Bm : Nat) (hc : w.cell? ⟨Bm, 0, none⟩ = some (.map (some mb))) :
    SeqGives Fence.wide 2 Try.prog 44 #[.pointer (some ⟨Bm, 0, none⟩)] Gp.a (fun ss => ss.length = L.length ∧ ∀ g ∈ ss, g ∈ L) L.length w := fun l J W hW hJ hY h0 => by
  obtain ⟨_, es, ck, hm, hK⟩ := h
  refine (vals1_in Fence.wide 2 trivial rfl (by omega) l Bm mb es ck L J hK hY W hJ ((hW.cell (p := ⟨Bm, 0, none⟩) (cell_lt hc)).trans hc) ((hW.block mb (row_lt hm)).trans hm) h0).mono ?_
  rintro e W' ⟨hv, ss, h1, h2, h3⟩
  exact ⟨hv, ss, ⟨h1, h2⟩, h3⟩
set_option maxRecDepth 100000 in
set_option maxHeartbeats 4000000 in
/-- All tells each group, once. -/
theorem all_gp (w : World) (tb mb : Nat) (L : List Gp) (h : DirG w tb mb L) (hL0 : L ≠ []) (hL : L.length ≤ 1000) :
    Calls Try.prog 10 #[.pointer (some ⟨tb, 0, none⟩)] w fun e w' => ∃ (b c : Nat) (d : List Gp), e = .returned (.slice (some ⟨b, 0, none⟩) L.length c) ∧ d.length = L.length ∧ (∀ g ∈ d, g ∈ L) ∧ RdG w' b d ∧ Below w.heap.size w w' := by
  refine (callsIn_wide (n := 6)).1 ?_
  have hfV : Fence.wide.fn 21 := trivial
  have hfS : Fence.wide.fn 20 := trivial
  have t0 := row_cell h.1 0
  simp only [List.getElem?_toArray, List.getElem?_cons_zero, List.getElem?_cons_succ] at t0
  have htl := row_lt h.1
  have eg : ∀ args w, (callFunc 44 args).run Try.prog w = .ok (.enter 44 args) w := enters_of Try.func44 (by kernel_rfl) rfl
  have hb1 := bel_alloc (Below.refl w.heap.size w) (.cells #[.map (some mb)] 56)
  have hcm : (w.alloc (.cells #[.map (some mb)] 56)).cell? ⟨w.heap.size, 0, none⟩ = some (.map (some mb)) := by
    exact row_cell (row_alloc w #[.map (some mb)] 56) 0
  have HSF := Lib.hid (sortedf_in 44 #[.pointer (some ⟨w.heap.size, 0, none⟩)] eg (fun ss => ss.length = L.length ∧ ∀ g ∈ ss, g ∈ L) (fun ss h1 e => by subst e; exact hL0 (List.eq_nil_of_length_eq_zero h1.1.symm)) L.length hL (fun ss h1 => by rw [h1.1]; exact hL) _ (vals_gives (dir_step h hb1) w.heap.size hcm))
  have HB := Lib.hid hb1
  clear hcm hb1 h hL0 hL eg
  refine callsIn_of_wp Try.func10 rfl trivial ?_ rfl
  simp only [Try.ntmps10, List.size_toArray, List.length_cons, List.length_nil, Nat.reduceAdd, Nat.reduceSub, Array.replicate_succ, Array.replicate_zero, List.push_toArray, List.append_toArray, List.nil_append, List.cons_append]
  gi_wp2_with fail
  gi_at_call 21; refine (callsIn_wide.2 (vals_any _ _)).mono ?_; rintro e w2 ⟨rfl, rfl⟩
  gi_wp2_with fail
  gi_at_call 20; refine HSF.out.mono ?_; rintro e w3 ⟨b, c, ss, d, rfl, ⟨h1, h2⟩, hp, hr, hb3⟩
  have HE := Lib.hid (show d.length = L.length ∧ (∀ g ∈ d, g ∈ L) ∧ RdG w3 b d ∧ Below w.heap.size w w3 from ⟨hp.length_eq.trans h1, fun g hg => h2 g (hp.mem_iff.1 hg), hr, bel_step HB.out hb3⟩)
  rw [h1]
  clear h1 h2 hp hr hb3 HSF
  gi_wp2
  go_ret
  exact ⟨b, c, d, rfl, HE.out⟩
end Num
end Go.Proofs.Ytbfnghbfilahnaa
