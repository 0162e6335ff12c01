/-
  Package value's texts of single values, behind a buffer.
-/
import Derived.Test.YtahcgdjcjapnkaaGreatDoorVAq
namespace Go.Proofs.YtahcgdjcjapnkaaGreatDoor
open Go.RowKit
namespace Num
open Ints
set_option linter.unusedSimpArgs false
set_option linter.unusedVariables false
def U8T (W : World) : Prop := Lib.Utf8Tabs 3 4 W
def PrT (W : World) : Prop := Lib.PrintTabsAt 5 6 7 8 Lib.goPrintTabs W
def TenT (W : World) : Prop := Lib.TabIs Tryz.prog W "internal/strconv.uint64pow10" .u64 Lib.pow10Tab
theorem str_of_ownF {w : World} {base n : Nat} {v : Value} {xs : List Int} (h : w.ownsRowF base 5 1 v n (xs.map (Value.int .u8))) : (convert 28 9 v).run Tryz.prog w = .ok (.string (strOfI xs)) w := by
  have hn : n = xs.length := by have := h.1; rw [List.length_map] at this; omega
  subst hn
  rcases h.2 with ⟨rfl, h0⟩ | ⟨g, cap, cur, fz, rfl, _⟩
  · have : xs = [] := List.eq_nil_of_length_eq_zero h0
    subst this
    rw [run_convert_bytes_string w 28 9 5 none 0 0 Tryz.underlying28 Tryz.underlying5 Tryz.underlying9]
    rfl
  · have hl := run_loadCells_list (P := Tryz.prog) w ⟨g, 0, none⟩ (xs.map (Value.int .u8)) (h.cells (g := g) rfl)
    rw [List.length_map] at hl
    rw [run_convert_bytes_string w 28 9 5 _ _ _ Tryz.underlying28 Tryz.underlying5 Tryz.underlying9, run_bytesToString w _ xs.length cap xs hl, foldl_pushI]
    have he0 : ByteArray.empty.data = #[] := rfl
    rw [he0]
    simp [strOfI]
theorem intCells_eq (xs : List Int) : Lib.intCells xs = xs.map (Value.int .u8) := rfl
set_option maxRecDepth 100000 in
set_option maxHeartbeats 4000000 in
theorem at_int (W0 w : World) (v : Value) (n : Nat) (xs : List Value) (I : Int) (x : Nat) (S : ByteArray) (p : Option Addr) (l c : Nat) (h0 : -9223372036854775808 ≤ I) (h1 : I ≤ 9223372036854775807) (hown : w.ownsRow W0.heap.size 5 1 v n xs) (hB : Below W0.heap.size W0 w) (hsz : W0.heap.size ≤ w.heap.size) (hlim : n ≤ 100000) (htab : TenT W0) :
    Calls Tryz.prog 20 #[v, .agg #[.int .i64 1, .int .i64 I, .float .f64 x, .string S, .slice p l c]] w fun e w' => ∃ v', e = .returned v' ∧ w'.ownsRow W0.heap.size 5 1 v' (n + (Lib.itoa I).length) (xs ++ Lib.byteCells (Lib.itoa I)) ∧ Below W0.heap.size W0 w' ∧ W0.heap.size ≤ w'.heap.size := by
  have HC := Lib.hid (fun (w : World) (ho : w.ownsRow W0.heap.size 5 1 v n xs) (hB : Below W0.heap.size W0 w) (hsz : W0.heap.size ≤ w.heap.size) => Tryz.strconv_AppendInt_10 W0.heap.size n I h0 h1 v xs w ho hsz (by omega) ((Lib.tabBelow_of_tabIs htab).on hB))
  obtain ⟨o, ho⟩ : ∃ o, o = Obj.cells #[.int .i64 1, .int .i64 I, .float .f64 x, .string S, .slice p l c] 26 := ⟨_, rfl⟩
  have HO := Lib.hid (hown.alloc o)
  have HB := Lib.hid (hB.alloc hsz o)
  have HS := Lib.hid (show W0.heap.size ≤ (w.alloc o).heap.size by rw [World.size_alloc]; omega)
  subst ho
  clear htab hown hB hsz h0 h1
  go_enter Tryz.func20, Tryz.ntmps20
  go_wp2_with fail
  go_at_call 29; refine (HC.out _ HO.out HB.out HS.out).mono ?_; rintro e' w1 ⟨v', rfl, ho1, hb1, _⟩
  go_wp2
  go_ret
  exact ⟨_, rfl, ho1, HB.out.trans hb1, Nat.le_trans HS.out hb1.size⟩
set_option maxRecDepth 100000 in
set_option maxHeartbeats 4000000 in
theorem at_flo (W0 w : World) (v : Value) (n : Nat) (xs : List Value) (I : Int) (x : Nat) (S : ByteArray) (p : Option Addr) (l c : Nat) (hx : x < 18446744073709551616) (has : Ascii x) (hb : Lib.OwnBuf W0.heap.size 5 v n xs W0 w) (h0 : 0 < W0.heap.size) (hlim : n ≤ 100000) (hsz : (ftS x).size ≤ 100000) (hpt : PowTab W0) (htab : TenT W0) :
    Calls Tryz.prog 20 #[v, .agg #[.int .i64 2, .int .i64 I, .float .f64 x, .string S, .slice p l c]] w fun e w' => ∃ v', e = .returned v' ∧ Lib.OwnBuf W0.heap.size 5 v' (n + (ftS x).size) (xs ++ Lib.strCells (ftS x)) W0 w' := by
  obtain ⟨i0, hi, hz0, hz1, hz2⟩ := info_parts info_u8
  have HC := Lib.hid (fun (w : World) (hB : Below W0.heap.size W0 w) => ftext_any x hx has w (Nat.lt_of_lt_of_le h0 hB.size) (powTab_keep hpt hB) (Lib.tabBelow_of_tabIs htab _ hB))
  obtain ⟨o, ho⟩ : ∃ o, o = Obj.cells #[.int .i64 2, .int .i64 I, .float .f64 x, .string S, .slice p l c] 26 := ⟨_, rfl⟩
  have HB := Lib.hid (hb.alloc o)
  subst ho
  clear htab hpt hb hx has
  go_enter Tryz.func20, Tryz.ntmps20
  go_wp2_with fail
  go_at_call 30; refine (HC.out _ HB.out.2.1).mono ?_; rintro e' w1 ⟨rfl, hb1⟩; have hob := buf_below HB.out hb1
  go_wp2_with (at_builtin; refine Lib.wpList_append_text rfl _ _ 28 9 rfl W0.heap.size 5 i0 Tryz.underlying28 Tryz.underlying9 hi hz0 hz1 hz2 _ _ _ rfl W0 hob _ rfl (by omega) ?_; intro _ _ hob)
  go_ret
  exact ⟨_, rfl, hob⟩
set_option maxRecDepth 100000 in
set_option maxHeartbeats 4000000 in
theorem at_a (W0 w : World) (v : Value) (n : Nat) (xs : List Value) (I : Int) (x : Nat) (p : Option Addr) (l c : Nat) (hb : Lib.OwnBuf W0.heap.size 5 v n xs W0 w) (hn0 : 0 < n) (hn : n ≤ 1000) (hone : ∀ v ∈ xs, v.oneCell' = true) (hT : PrT W0) (hU : U8T W0) :
    Calls Tryz.prog 20 #[v, .agg #[.int .i64 3, .int .i64 I, .float .f64 x, .string ⟨#[97]⟩, .slice p l c]] w fun e w' => ∃ v', e = .returned v' ∧ Lib.OwnBuf W0.heap.size 5 v' (n + 3) (xs ++ [.int .u8 34, .int .u8 97, .int .u8 34]) W0 w' := by
  have HC := Lib.hid (fun (w : World) (hb : Lib.OwnBuf W0.heap.size 5 v n xs W0 w) => aq_a W0 w v n xs hb hn0 hn hone hT hU)
  obtain ⟨o, ho⟩ : ∃ o, o = Obj.cells #[.int .i64 3, .int .i64 I, .float .f64 x, .string ⟨#[97]⟩, .slice p l c] 26 := ⟨_, rfl⟩
  have HB := Lib.hid (hb.alloc o)
  subst ho
  clear hT hU hb hone
  have HQ : ∀ w, Lib.OwnBuf W0.heap.size 5 v n xs W0 w → Calls Tryz.prog 31 #[v, .string ⟨#[97]⟩] w fun e w' => ∃ v', e = .returned v' ∧ Lib.OwnBuf W0.heap.size 5 v' (n + 3) (xs ++ [.int .u8 34, .int .u8 97, .int .u8 34]) W0 w' := by
    intro w hw
    have HW := Lib.hid hw
    clear hw HB
    go_enter Tryz.func31, Tryz.ntmps31
    go_wp2_with fail
    go_at_call 48; refine (HC.out _ HW.out).mono ?_; rintro e' w1 ⟨v', rfl, hb1⟩
    go_wp2
    go_ret
    exact ⟨_, rfl, hb1⟩
  have HQ := Lib.hid HQ
  go_enter Tryz.func20, Tryz.ntmps20
  go_wp2_with fail
  go_at_call 31; refine (HQ.out _ HB.out).mono ?_; rintro e' w1 ⟨v', rfl, hb1⟩
  go_wp2
  go_ret
  exact ⟨_, rfl, hb1⟩
end Num
end Go.Proofs.YtahcgdjcjapnkaaGreatDoor
