/-
  "a" in quotes, behind a buffer that may have room or not (strconv.appendQuotedWith, AppendQuote).
-/
import Derived.Test.YtahcgdjcjapnkaaGreatDoorVTxt
import Derived.Laws.CopyOwn
import Derived.Test.YtahcgdjcjapnkaaGreatDoorShelg
import Derived.Lib.PrintData
import Derived.Laws.MakeOwn
namespace Go.Proofs.YtahcgdjcjapnkaaGreatDoor
open Go.RowKit
namespace Num
open Ints
set_option linter.unusedSimpArgs false
set_option linter.unusedVariables false
def zs (n : Nat) : Array Value := madeCells (Value.cells (.int .u8 0)) (n * 1)
theorem zs_size (n : Nat) : (zs n).size = n := by
  unfold zs
  rw [size_madeCells, Nat.mul_one]
/-- What is ready to be appended to. -/
theorem own_copied {w : World} {B n : Nat} {cs : List Value} (hn : cs.length = n) (hB : B ≤ w.heap.size) (hm : n + 3 ≤ maxLen) :
    ((w.alloc (.cells (zs (n + 3)) 5)).setRow w.heap.size ((zs (n + 3)).toList.take 0 ++ (cs ++ (zs (n + 3)).toList.drop (0 + cs.length))).toArray).ownsRowF B 5 1 (.slice (some ⟨w.heap.size, 0, none⟩) n (n + 3)) n cs := by
  have hz := zs_size (n + 3)
  refine ⟨by omega, .inr ⟨w.heap.size, n + 3, _, (0, 0), rfl, hB, setRow_heap _ _ _ _ _ _ (heap_alloc_new w _), Nat.zero_le _, by omega, hm, ?_, ?_⟩⟩
  · simp [hz]; omega
  · simp [hn]
set_option maxRecDepth 100000 in
set_option maxHeartbeats 4000000 in
theorem aq_tight (W0 w : World) (g n : Nat) (xs : List Value) (hb : Lib.OwnBuf W0.heap.size 5 (.slice (some ⟨g, 0, none⟩) n n) n xs W0 w) (hn : n ≤ 1000) (hone : ∀ v ∈ xs, v.oneCell' = true) (hT : Lib.PrintTabsAt 5 6 7 8 Lib.goPrintTabs W0) (hU : Lib.Utf8Tabs 3 4 W0) :
    Calls Tryz.prog 48 #[.slice (some ⟨g, 0, none⟩) n n, .string ⟨#[97]⟩, .int .u8 34, .bool false, .bool false] w fun e w' => ∃ v', e = .returned v' ∧ Lib.OwnBuf W0.heap.size 5 v' (n + 3) (xs ++ [.int .u8 34, .int .u8 97, .int .u8 34]) W0 w' := by
  obtain ⟨i0, hi, hz0, hz1, hz2⟩ := info_parts info_u8
  obtain ⟨c, hc⟩ : ∃ c : Int, (n : Int) + 3 = c := ⟨_, rfl⟩
  have hmk : (Instr.makeSlice 28 (.int .i64 n) (.int .i64 ((n : Int) + 1 + 1 + 1))).run Tryz.prog w = .ok (.slice (some ⟨w.heap.size, 0, none⟩) n (n + 3)) (w.alloc (.cells (zs (n + 3)) 5)) := by
    have h := run_makeSlice w 28 5 i0 (.int .u8 0) Tryz.underlying28 hi hz0 .i64 .i64 (n : Int) ((n : Int) + 1 + 1 + 1) (by omega) (by omega) (by rw [hz1]; omega) (by rw [hz2]; omega) (by omega)
    rw [h, hz1, show ((n : Int) + 1 + 1 + 1).toNat = n + 3 by omega, show (n : Int).toNat = n by omega]
    rfl
  have HT := Lib.hid hT
  have HU := Lib.hid hU
  have HB := Lib.hid hb
  clear hT hU hb
  go_enter Tryz.func48, Tryz.ntmps48
  have hnx : xs.length = n := by have := HB.out.1.1; omega
  have hB := HB.out.2.2
  have hgl := (HB.out.1.lt g rfl).2
  have hsrc : ∀ j v, xs[j]? = some v → (w.alloc (.cells (zs (n + 3)) 5)).cell? ((⟨g, 0, none⟩ : Addr).add j) = some v := ((HB.out).alloc (.cells (zs (n + 3)) 5)).1.cells rfl
  have hOB : Lib.OwnBuf W0.heap.size 5 (.slice (some ⟨w.heap.size, 0, none⟩) n (n + 3)) n xs W0 ((w.alloc (.cells (zs (n + 3)) 5)).setRow w.heap.size ((zs (n + 3)).toList.take 0 ++ (xs ++ (zs (n + 3)).toList.drop (0 + xs.length))).toArray) :=
    ⟨own_copied hnx hB (by unfold maxLen; omega), below_setRow (HB.out.2.1.alloc hB _) hB _, by have := (HB.out.2.1.alloc hB (.cells (zs (n + 3)) 5)).size; simp [World.setRow]; omega⟩
  have HOB := Lib.hid hOB
  have HSRC := Lib.hid hsrc
  have HONE := Lib.hid hone
  have HI1 := Lib.hid (show (Tryz.prog.info? 5).map (·.size) = some 1 by rw [hi]; exact congrArg some hz1)
  have HMIN := Lib.hid (show xs.length = Nat.min n n by rw [hnx]; exact (Nat.min_self n).symm)
  have HFIT := Lib.hid (show 0 + xs.length ≤ (zs (n + 3)).size by rw [zs_size]; omega)
  clear hOB hsrc hone
  go_wp2_with (first
      | (refine wpList_copy_own rfl _ _ _ _ rfl 5 Tryz.underlying28 HI1.out w.heap.size 0 n (n + 3) ⟨g, 0, none⟩ n n rfl rfl (zs (n + 3)) 5 (row_alloc w _ _) xs HMIN.out HSRC.out HFIT.out HONE.out ?_
         generalize ((w.alloc (.cells (zs (n + 3)) 5)).setRow w.heap.size ((zs (n + 3)).toList.take 0 ++ (xs ++ (zs (n + 3)).toList.drop (0 + xs.length))).toArray) = w2 at HOB ⊢
         have hob := HOB.out)
      | (at_builtin; refine Lib.wpList_append_byte rfl _ _ 28 rfl W0.heap.size 5 i0 Tryz.underlying28 hi hz0 hz1 hz2 _ _ _ rfl W0 _ _ (by assumption) rfl (by omega) ?_; intro _ _ hob))
  have hdec : Lib.decodeGo ⟨#[97]⟩ = (97, 1) := by decide +kernel
  have hesc : Lib.escRune Lib.goPrintTabs 97 = [97] := by decide +kernel
  have HD := Lib.hid (fun (w' : World) (h : Below W0.heap.size W0 w') => (by have := Tryz.utf8_DecodeRuneInString ⟨#[97]⟩ w' (Utf8Tabs_below HU.out h); rwa [hdec] at this : Calls Tryz.prog 65 #[.string ⟨#[97]⟩] w' fun e w'' => e = .returned (.tuple #[.int .i32 97, .int .i64 1]) ∧ Below w'.heap.size w' w''))
  have HA := Lib.hid (fun (v : Value) (n : Nat) (xs : List Value) (w : World) (hb : Lib.OwnBuf W0.heap.size 5 v n xs W0 w) (h : n ≤ 100000) => (by have := Tryz.strconv_appendEscapedRune Lib.goPrintTabs W0.heap.size v n xs 97 W0 w hb (by omega) (printTabs_below HT.out hb.2.1) (by decide); rwa [hesc] at this : Calls Tryz.prog 66 #[v, .int .i32 97, .int .u8 34, .bool false, .bool false] w fun e w' => ∃ v', e = .returned v' ∧ Lib.OwnBuf W0.heap.size 5 v' (n + [97].length) (xs ++ Lib.intCells [97]) W0 w'))
  clear hdec hesc
  refine wp_loop_rounds 2 ?_
  rw [rounds_succ]
  go_wp2_with fail
  go_at_call 65; refine (HD.out _ hob.2.1).mono ?_; rintro e' w3 ⟨rfl, hb3⟩; have hob := buf_below hob hb3
  go_wp2_with fail
  go_at_call 66; refine (HA.out _ _ _ _ hob (by omega)).mono ?_; rintro e' w4 ⟨v4, rfl, hob⟩
  go_wp2_with fail
  rw [rounds_succ]
  go_wp2_with (at_builtin; refine Lib.wpList_append_byte rfl _ _ 28 rfl W0.heap.size 5 i0 Tryz.underlying28 hi hz0 hz1 hz2 _ _ _ rfl W0 _ _ (by assumption) rfl (by first | omega | (simp only [List.length_cons, List.length_nil]; omega)) ?_; intro _ _ hob)
  go_ret
  exact ⟨_, rfl, by simpa [Lib.intCells] using hob⟩
theorem aq_a (W0 w : World) (v : Value) (n : Nat) (xs : List Value) (hb : Lib.OwnBuf W0.heap.size 5 v n xs W0 w) (hn0 : 0 < n) (hn : n ≤ 1000) (hone : ∀ v ∈ xs, v.oneCell' = true) (hT : Lib.PrintTabsAt 5 6 7 8 Lib.goPrintTabs W0) (hU : Lib.Utf8Tabs 3 4 W0) :
    Calls Tryz.prog 48 #[v, .string ⟨#[97]⟩, .int .u8 34, .bool false, .bool false] w fun e w' => ∃ v', e = .returned v' ∧ Lib.OwnBuf W0.heap.size 5 v' (n + 3) (xs ++ [.int .u8 34, .int .u8 97, .int .u8 34]) W0 w' := by
  rcases hb.1.2 with ⟨rfl, h0⟩ | ⟨g, cap, cur, fz, rfl, _, _, _, hcap, hmax, _, _⟩
  · omega
  · by_cases hr : n + 1 ≤ cap
    · have hq : Lib.quoteZ Lib.goPrintTabs ⟨#[97]⟩ = [34, 97, 34] := by decide +kernel
      have := Tryz.strconv_appendQuotedWith Lib.goPrintTabs (some ⟨g, 0, none⟩) n cap xs ⟨#[97]⟩ W0 w hb hr (by unfold maxLen at hmax; omega) (by show n + 10 * 1 + 12 ≤ _; omega) hT hU
      rw [hq] at this
      exact this
    · obtain rfl : cap = n := by omega
      exact aq_tight W0 w g cap xs hb hn hone hT hU
end Num
end Go.Proofs.YtahcgdjcjapnkaaGreatDoor
