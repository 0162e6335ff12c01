/-
  FormatFloat with the fewest digits, and package value's text of a float.
-/
import Derived.Test.YtahcgdjcjapnkaaGreatDoorVFto
import Derived.Laws.BytesString
import Derived.Laws.MakeOwn
namespace Go.Proofs.YtahcgdjcjapnkaaGreatDoor
open Go.RowKit
namespace Num
open Ints
set_option linter.unusedSimpArgs false
set_option linter.unusedVariables false
def strOfI (xs : List Int) : ByteArray := ⟨(xs.map fun c => UInt8.ofNat c.toNat).toArray⟩
theorem foldl_pushI : ∀ (xs : List Int) (s : ByteArray), xs.foldl (fun r n => r.push (UInt8.ofNat n.toNat)) s = ⟨s.data ++ (xs.map fun c => UInt8.ofNat c.toNat).toArray⟩
  | [], s => by simp
  | x :: xs, s => by
    rw [List.foldl_cons, foldl_pushI xs]
    simp [ByteArray.push]
theorem str_of_own {w : World} {base : Nat} {v : Value} {xs : List Int} (h : w.ownsRow base 5 1 v xs.length (xs.map (Value.int .u8))) : (convert 28 9 v).run Tryz.prog w = .ok (.string (strOfI xs)) w := by
  rcases h.2 with ⟨rfl, h0⟩ | ⟨g, cap, cur, rfl, _⟩
  · have : xs = [] := List.eq_nil_of_length_eq_zero h0
    subst this
    rw [run_convert_bytes_string w 28 9 5 none 0 0 Tryz.underlying28 Tryz.underlying5 Tryz.underlying9]
    rfl
  · have hl := run_loadCells_list (P := Tryz.prog) w ⟨g, 0, none⟩ (xs.map (Value.int .u8)) (h.cells (g := g) rfl)
    rw [List.length_map] at hl
    rw [run_convert_bytes_string w 28 9 5 _ _ _ Tryz.underlying28 Tryz.underlying5 Tryz.underlying9, run_bytesToString w _ xs.length cap xs hl, foldl_pushI]
    have he0 : ByteArray.empty.data = #[] := rfl
    rw [he0]
    simp [strOfI]
theorem mk24 (w : World) : (Instr.makeSlice 28 (.int .i64 0) (.int .i64 24)).run Tryz.prog w = .ok (.slice (some ⟨w.heap.size, 0, none⟩) 0 24) (w.alloc (.cells #[.int .u8 0, .int .u8 0, .int .u8 0, .int .u8 0, .int .u8 0, .int .u8 0, .int .u8 0, .int .u8 0, .int .u8 0, .int .u8 0, .int .u8 0, .int .u8 0, .int .u8 0, .int .u8 0, .int .u8 0, .int .u8 0, .int .u8 0, .int .u8 0, .int .u8 0, .int .u8 0, .int .u8 0, .int .u8 0, .int .u8 0, .int .u8 0] 5)) := by kernel_rfl
theorem bu_made (w : World) (h0 : 0 < w.heap.size) : Bu w (w.alloc (.cells #[.int .u8 0, .int .u8 0, .int .u8 0, .int .u8 0, .int .u8 0, .int .u8 0, .int .u8 0, .int .u8 0, .int .u8 0, .int .u8 0, .int .u8 0, .int .u8 0, .int .u8 0, .int .u8 0, .int .u8 0, .int .u8 0, .int .u8 0, .int .u8 0, .int .u8 0, .int .u8 0, .int .u8 0, .int .u8 0, .int .u8 0, .int .u8 0] 5)) (.slice (some ⟨w.heap.size, 0, none⟩) 0 24) [] 0 [] 0 :=
  ⟨World.ownsRow_made w _ 24 (Nat.le_refl _) (by decide) rfl, (Below.refl _ _).alloc (Nat.le_refl _) _, by rw [World.size_alloc]; omega, fun e => by have e' : some w.heap.size = some 0 := e; injection e' with e'; omega, fun i hi => absurd hi (Nat.not_lt_zero i), Nat.le_refl _⟩
set_option maxRecDepth 100000 in
set_option maxHeartbeats 4000000 in
theorem ifmt_any (x : Nat) (hx : x < 18446744073709551616) (w : World) (h0 : 0 < w.heap.size) (hpt : PowTab w) (htb : Lib.TabIs Tryz.prog w "internal/strconv.uint64pow10" .u64 Lib.pow10Tab) : Calls Tryz.prog 34 #[.float .f64 x, .int .u8 103, .int .i64 (-1), .int .i64 64] w fun e w' => e = .returned (.string (strOfI (ffmt x))) ∧ Below w.heap.size w w' := by
  have hmx : max (3 : Int) 24 = 24 := by decide
  have hmk := mk24 w
  have hbl : Below w.heap.size w (w.alloc (.cells #[.int .u8 0, .int .u8 0, .int .u8 0, .int .u8 0, .int .u8 0, .int .u8 0, .int .u8 0, .int .u8 0, .int .u8 0, .int .u8 0, .int .u8 0, .int .u8 0, .int .u8 0, .int .u8 0, .int .u8 0, .int .u8 0, .int .u8 0, .int .u8 0, .int .u8 0, .int .u8 0, .int .u8 0, .int .u8 0, .int .u8 0, .int .u8 0] 5)) := (Below.refl _ _).alloc (Nat.le_refl _) _
  have HC := Lib.hid (ftoa_any x hx w _ _ h0 (bu_made w h0) (powTab_keep hpt hbl) ((Lib.tabBelow_of_tabIs htb) _ hbl))
  clear hbl
  go_enter Tryz.func34, Tryz.ntmps34
  go_wp2_with fail
  go_at_call 54; refine HC.out.mono ?_; rintro e' w1 ⟨v', N', rfl, hN', hB'⟩
  have hcv := str_of_own hB'.1
  go_wp2
  go_ret
  exact ⟨rfl, hB'.2.1⟩
set_option maxRecDepth 100000 in
set_option maxHeartbeats 4000000 in
theorem fmt_any (x : Nat) (hx : x < 18446744073709551616) (w : World) (h0 : 0 < w.heap.size) (hpt : PowTab w) (htb : Lib.TabIs Tryz.prog w "internal/strconv.uint64pow10" .u64 Lib.pow10Tab) : Calls Tryz.prog 22 #[.float .f64 x, .int .u8 103, .int .i64 (-1), .int .i64 64] w fun e w' => e = .returned (.string (strOfI (ffmt x))) ∧ Below w.heap.size w w' := by
  have HC := Lib.hid (ifmt_any x hx w h0 hpt htb)
  go_enter Tryz.func22, Tryz.ntmps22
  go_wp2_with fail
  go_at_call 34; refine HC.out.mono ?_; rintro e' w1 ⟨rfl, hb1⟩
  go_wp2
  go_ret
  exact ⟨rfl, hb1⟩
end Num
end Go.Proofs.YtahcgdjcjapnkaaGreatDoor
