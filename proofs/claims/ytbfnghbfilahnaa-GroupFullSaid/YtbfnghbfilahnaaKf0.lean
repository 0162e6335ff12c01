/-
  A directory's map, its groups one by one: the iterator of maps.Values.
-/
import Derived.Test.YtbfnghbfilahnaaKb0
import Derived.RangeFuncSeq
import Derived.RangeFuncGives
import Derived.RangeFuncRecord
import Derived.Maps.RangeRun
import Derived.Maps.AppendAt
import Derived.WalkKit
import Derived.OwnWalkIn
import Derived.TacticsInMore
import Derived.RegionIn
import Derived.LoopNIn
import Derived.LoopIn
import Derived.Shelf.Abstract
import Derived.Shelf.AbstractIn
import Derived.Sort.MapsRangeIn
namespace Go.Proofs.Ytbfnghbfilahnaa
open Go.RowKit
namespace Num
open Ints
set_option linter.unusedSimpArgs false
set_option linter.unusedVariables false
theorem filt_one : ∀ (L : List MapEntry) (e : MapEntry), (L.map (·.born)).Nodup → e ∈ L → (L.filter (fun x => !(x.born == e.born))).length + 1 = L.length
  | [], e, _, h => absurd h (List.not_mem_nil)
  | x :: L, e, hn, h => by
    rw [List.map_cons, List.nodup_cons] at hn
    by_cases hx : x.born = e.born
    · have hall : L.filter (fun z => !(z.born == e.born)) = L := List.filter_eq_self.2 (fun z hz => by
        have : z.born ≠ e.born := fun he => hn.1 (List.mem_map.2 ⟨z, hz, he.trans hx.symm⟩)
        simpa using this)
      rw [List.filter_cons_of_neg (by simpa using hx), hall, List.length_cons]
    · rw [List.filter_cons_of_pos (by simpa using hx), List.length_cons, List.length_cons]
      rcases List.mem_cons.1 h with rfl | h
      · exact absurd rfl hx
      · rw [filt_one L e hn.2 h]
theorem left_one (es : Array MapEntry) (seen : Array Nat) (e : MapEntry) (hn : (es.toList.map (·.born)).Nodup) (he : e ∈ (leftOf es seen).toList) : (leftOf es (seen.push e.born)).size + 1 = (leftOf es seen).size := by
  have h1 : (leftOf es (seen.push e.born)).toList = (leftOf es seen).toList.filter (fun x => !(x.born == e.born)) := by
    unfold leftOf
    rw [Array.toList_filter, Array.toList_filter, List.filter_filter]
    congr 1
    funext x
    rw [Array.contains_push]
    cases seen.contains x.born <;> simp [Bool.beq_comm, BEq.comm]
  have h2 := filt_one (leftOf es seen).toList e (by
    unfold leftOf
    rw [Array.toList_filter]
    exact (List.Sublist.map _ List.filter_sublist).nodup hn) he
  rw [← Array.length_toList, ← Array.length_toList, h1]
  exact h2
/-- How much an iterator has left. -/
def itLeft (es : Array MapEntry) (r : Nat) (w : World) : Nat := match w.heap[r]? with | some (.mapIter _ _ seen _) => (leftOf es seen).size | _ => 0
theorem itLeft_of {es : Array MapEntry} {r : Nat} {w : World} {m : Option Nat} {s c : Nat} {seen : Array Nat} (h : w.heap[r]? = some (.mapIter m s seen c)) : itLeft es r w = (leftOf es seen).size := by
  unfold itLeft
  rw [h]
set_option maxRecDepth 100000 in
set_option maxHeartbeats 4000000 in
/-- The iterator over a map's groups, in whatever order: each round is told one of them, and that fewer have come than there are. -/
theorem vals1_in (F : Fence) (n : Nat) (h44 : F.fn 44) (hro : F.round = none) (hn : 1 ≤ n) (l Bm mb : Nat) (es : Array MapEntry) (ck : Nat) (L : List Gp) (J : List Gp → World → Prop) (hK : KvG es ck L)
    (hY : ∀ pre x W, J pre W → pre.length < L.length → YieldAt F (n - 1) Try.prog l #[Gp.a x] W fun e W' => e = .returned (.bool true) ∧ J (pre ++ [x]) W' ∧ KeepsWalks W W')
    (W : World) (hJ : AbidesFrom W.heap.size J) (hm : W.cell? ⟨Bm, 0, none⟩ = some (.map (some mb))) (hmb : W.heap[mb]? = some (.map es ck)) (h0 : J [] W) :
    CallsIn F n Try.prog 44 #[.func (.yield l) #[] #[], .pointer (some ⟨Bm, 0, none⟩)] W fun e W' => (∃ v, e = .returned v) ∧ ∃ ss : List Gp, ss.length = L.length ∧ (∀ g ∈ ss, g ∈ L) ∧ J ss W' := by
  obtain ⟨hf, hst1, hst2, _⟩ := hK
  have hst2' : (es.toList.map (·.born)).Nodup := hst2
  have hsz : es.size = L.length := by have := congrArg List.length hf; rwa [List.length_map, List.length_map, Array.length_toList] at this
  obtain ⟨r, hr⟩ : ∃ r, W.heap.size = r := ⟨_, rfl⟩
  have hmr : mb < r := by rw [← hr]; exact row_lt hmb
  have hBl : Bm < W.heap.size := cell_lt hm
  have hrg : (Instr.range 56 (.map (some mb))).run Try.prog W = .ok (.pointer (some ⟨r, 0, none⟩)) (W.alloc (.mapIter (some mb) ck #[] ck)) := by
    rw [← hr]
    simp [Instr.range, run_underlying gm_under, MapKept.run_getObj_map hmb]
  have hI0 : ∃ (seen : Array Nat) (ss : List Gp), (W.alloc (.mapIter (some mb) ck #[] ck)).heap[r]? = some (.mapIter (some mb) ck seen ck) ∧ (W.alloc (.mapIter (some mb) ck #[] ck)).heap[mb]? = some (.map es ck) ∧ ss.length + (leftOf es seen).size = es.size ∧ (∀ g ∈ ss, g ∈ L) ∧ J ss (W.alloc (.mapIter (some mb) ck #[] ck)) := by
    refine ⟨#[], [], by rw [← hr]; exact (MapKept.heap_alloc W _).1, row_alloc_step hmb _, ?_, fun g hg => absurd hg (List.not_mem_nil), hJ [] W _ none h0 ?_ (fun r e => by cases e)⟩
    · have : leftOf es #[] = es := by unfold leftOf; rw [Array.filter_eq_self]; intro a _; simp
      rw [this]; show 0 + es.size = es.size; omega
    · have hb := bel_alloc (Below.refl W.heap.size W) (.mapIter (some mb) ck #[] ck)
      exact ⟨hb.os, hb.tape, hb.output, hb.size, fun k hk _ => hb.block k hk⟩
  have HI0 := Lib.hid hI0
  have HS := Lib.hid (And.intro hst1 (And.intro hst2' hsz))
  have HKV := Lib.hid hf
  have HYY := Lib.hid hY
  have HJ := Lib.hid hJ
  have hrW : W.heap.size ≤ r := Nat.le_of_eq hr
  have HRW := Lib.hid hrW
  clear hI0 hst1 hst2 hst2' hsz hf hY hJ h0 hrW
  refine callsIn_of_wp Try.func44 rfl h44 ?_ hro
  simp only [Try.ntmps44, List.size_toArray, List.length_cons, List.length_nil, Nat.reduceAdd, Nat.reduceSub, Array.replicate_succ, Array.replicate_zero, List.push_toArray, List.append_toArray, List.nil_append, List.cons_append]
  gi_wp2
  clear hrg
  gi_loopw [7] (fun _ wr => ∃ (seen : Array Nat) (ss : List Gp), wr.heap[r]? = some (.mapIter (some mb) ck seen ck) ∧ wr.heap[mb]? = some (.map es ck) ∧ ss.length + (leftOf es seen).size = es.size ∧ (∀ g ∈ ss, g ∈ L) ∧ J ss wr)
    (fun _ wr => itLeft es r wr)
  case atStart => exact HI0.out
  case round =>
    obtain ⟨seen, ss, hit, hmw, hcnt, hin, hJs⟩ := hrel
    have hmr2 := hmr
    rcases run_next_at (P := Try.prog) wr 0 r mb ck ck seen es ck hit hmw HS.out.1 (Nat.le_refl _) with ⟨hz, hnx0⟩ | ⟨e, heL, w1, hw1, hnx0⟩
    · have hnx : ∀ ty, (Instr.next (.pointer (some ⟨r, 0, none⟩)) false ty).run Try.prog wr = .ok (.tuple #[.bool false]) wr := fun _ => hnx0
      have HE := Lib.hid (show ss.length = L.length ∧ (∀ g ∈ ss, g ∈ L) ∧ J ss wr from ⟨by have := HS.out.2.2; omega, hin, hJs⟩)
      clear hit hmw hcnt hin hJs hz hnx0
      gi_wp2
      go_end0
      exact ⟨⟨_, rfl⟩, ss, HE.out⟩
    · obtain ⟨heE, _⟩ := mem_left heL
      obtain ⟨x, hxL, hkr⟩ : ∃ x ∈ L, Num.kv e = Gp.kv x := by
        have : Num.kv e ∈ L.map Gp.kv := by rw [← HKV.out]; exact List.mem_map.2 ⟨e, heE, rfl⟩
        obtain ⟨x, h1, h2⟩ := List.mem_map.1 this
        exact ⟨x, h1, h2.symm⟩
      obtain ⟨W1, hW1⟩ : ∃ V, Go.ChangeMaps.setBlock w1 r (.mapIter (some mb) ck (seen.push e.born) ck) = V := ⟨_, rfl⟩
      rw [hW1] at hnx0
      have hw1h : w1.heap = wr.heap ∧ w1.os = wr.os ∧ w1.tape = wr.tape ∧ w1.output = wr.output := by rcases hw1 with rfl | rfl <;> exact ⟨rfl, rfl, rfl, rfl⟩
      have hit1 : W1.heap[r]? = some (.mapIter (some mb) ck (seen.push e.born) ck) := by rw [← hW1]; exact (MapKept.heap_set (w := w1) (by rw [hw1h.1]; exact hit)).1
      have hoth1 : ∀ k, k ≠ r → W1.heap[k]? = wr.heap[k]? := fun k hk => by rw [← hW1, ← hw1h.1]; exact (MapKept.heap_set (w := w1) (by rw [hw1h.1]; exact hit)).2 k hk
      have hsz1 : W1.heap.size = wr.heap.size := by rw [← hW1, ← hw1h.1]; show (w1.heap.setIfInBounds r _).size = _; rw [Array.size_setIfInBounds]
      have hg1 : wr.grownBy W1 (some r) := ⟨by rw [← hW1]; exact hw1h.2.1, by rw [← hW1]; exact hw1h.2.2.1, by rw [← hW1]; exact hw1h.2.2.2, by omega, fun k _ hk => hoth1 k (fun e => hk (by rw [e]))⟩
      have hmr1 : W1.heap[mb]? = some (.map es ck) := (hoth1 mb (by omega)).trans hmw
      have hen0 := run_entry_at (P := Try.prog) W1 r mb ck seen es ck e hit1 hmr1 heE HS.out.2.1
      obtain ⟨ke, ve, be⟩ := e
      simp only [Num.kv, Gp.kv, Prod.mk.injEq] at hkr
      obtain ⟨rfl, rfl⟩ := hkr
      have hone := left_one es seen _ HS.out.2.1 heL
      have hJ1 : J ss W1 := HJ.out ss wr W1 (some r) hJs hg1 (fun k e => by cases e; exact ⟨HRW.out, _, hit, rfl⟩)
      have hlN : ss.length < L.length := by have := HS.out.2.2; omega
      obtain ⟨xn, xc, xs, xv⟩ := x
      have hnx : ∀ ty, (Instr.next (.pointer (some ⟨r, 0, none⟩)) false ty).run Try.prog wr = .ok (.tuple #[.bool true, .string xn, .agg #[.string xn, .string xc, .int .i64 xs, .int .u32 xv]]) W1 := fun _ => hnx0
      have hen : (Instr.entry (.pointer (some ⟨r, 0, none⟩))).run Try.prog W1 = .ok (.tuple #[.string xn, .agg #[.string xn, .string xc, .int .i64 xs, .int .u32 xv]]) W1 := hen0
      obtain ⟨g, hg⟩ : ∃ g, W1.heap.size = g := ⟨_, rfl⟩
      obtain ⟨z, hz⟩ : ∃ V, W1.alloc (.cells #[.string ⟨#[]⟩, .string ⟨#[]⟩, .int .i64 0, .int .u32 0] 49) = V := ⟨_, rfl⟩
      have hV : z.heap[g]? = some (.cells #[.string ⟨#[]⟩, .string ⟨#[]⟩, .int .i64 0, .int .u32 0] 49 (0, 0)) := by rw [← hz, ← hg]; exact row_alloc W1 _ _
      have hbY : Below W1.heap.size W1 (setG4 z g (.string xn) (.string xc) (.int .i64 xs) (.int .u32 xv)) := by rw [hg]; exact setG4_below (by rw [← hz, ← hg]; exact (Below.refl _ _).alloc (Nat.le_refl _) _) (Nat.le_refl _) (.string xn) (.string xc) (.int .i64 xs) (.int .u32 xv)
      obtain ⟨y, hy⟩ : ∃ y, ((((z.setCell ⟨g, 0, none⟩ (.string xn)).setCell ⟨g, 1, none⟩ (.string xc)).setCell ⟨g, 2, none⟩ (.int .i64 xs)).setCell ⟨g, 3, none⟩ (.int .u32 xv)) = y := ⟨_, rfl⟩
      rw [show setG4 z g (.string xn) (.string xc) (.int .i64 xs) (.int .u32 xv) = y from hy] at hbY
      have hyV : y.heap[g]? = some (.cells #[.string xn, .string xc, .int .i64 xs, .int .u32 xv] 49 (0, 0)) := by rw [← hy]; exact setG4_at hV (.string xn) (.string xc) (.int .i64 xs) (.int .u32 xv)
      have y0 := row_cell hyV 0; have y1 := row_cell hyV 1; have y2 := row_cell hyV 2; have y3 := row_cell hyV 3
      simp only [List.getElem?_toArray, List.getElem?_cons_zero, List.getElem?_cons_succ] at y0 y1 y2 y3
      have hyl := row_lt hyV
      have v0 := row_cell hV 0; have v1 := row_cell hV 1; have v2 := row_cell hV 2; have v3 := row_cell hV 3
      simp only [List.getElem?_toArray, List.getElem?_cons_zero, List.getElem?_cons_succ] at v0 v1 v2 v3
      have vf := fun o => row_frz hV o
      have hJy : J ss y := HJ.out ss W1 y none hJ1 ⟨hbY.os, hbY.tape, hbY.output, hbY.size, fun k hk _ => hbY.block k hk⟩ (fun k e => by cases e)
      obtain ⟨fn0, tmps0, assign0, body0, hyr, hR⟩ := HYY.out ss ⟨xn, xc, xs, xv⟩ y hJy hlN
      have HIT := Lib.hid (hbY.block r (by rw [hsz1]; exact row_lt hit) |>.trans hit1)
      have HMB := Lib.hid (hbY.block mb (by rw [hsz1]; exact row_lt hmw) |>.trans hmr1)
      have HIN := Lib.hid (show ∀ g ∈ ss ++ [(⟨xn, xc, xs, xv⟩ : Gp)], g ∈ L from fun q hq => by
        rcases List.mem_append.1 hq with h | h
        · exact hin q h
        · rw [List.mem_singleton.1 h]; exact hxL)
      have HCN := Lib.hid (And.intro hcnt hone)
      have HML := Lib.hid (itLeft_of (es := es) hit)
      have HYR := Lib.hid hyr
      clear hyV heL heE hit hmw hnx0 hw1h hit1 hoth1 hsz1 hg1 hmr1 hen0 hone hJs hJ1 hJy hV hbY hcnt hin hxL hW1 hw1 hlN
      gi_wp2
      refine hR.mono ?_
      rintro e W3 ⟨rfl, hJ3, hk3⟩
      have HIT3 := Lib.hid (hk3.same r _ HIT.out rfl)
      have HMB3 := Lib.hid (hk3.same mb _ HMB.out rfl)
      have HJ3 := Lib.hid hJ3
      clear hJ3 hk3
      gi_wp2
      go_roundw
      case rel => exact ⟨_, ss ++ [⟨xn, xc, xs, xv⟩], HIT3.out, HMB3.out, by rw [List.length_append]; have := HCN.out.1; have := HCN.out.2; show ss.length + 1 + _ = _; omega, HIN.out, HJ3.out⟩
      case measure => rw [itLeft_of HIT3.out, HML.out]; have := HCN.out.2; omega
end Num
end Go.Proofs.Ytbfnghbfilahnaa
