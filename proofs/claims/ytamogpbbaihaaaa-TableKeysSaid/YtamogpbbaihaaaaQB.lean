/-
  The order of texts; package table's nameOf, isName, isEntry, list, held; what find compares by.
-/
import Derived.Test.YtamogpbbaihaaaaVBase
import Derived.Test.YtamogpbbaihaaaaVTree
namespace Go.Proofs.Ytamogpbbaihaaaa
open Go.RowKit
namespace Num
open Ints
set_option linter.unusedSimpArgs false
set_option linter.unusedVariables false
def ltB (a b : ByteArray) : Bool := Op.bytesLess a.toList b.toList
def cmpB (a b : ByteArray) : Int := if ltB a b = true then -1 else if (a.toList == b.toList) = true then 0 else 1
theorem cmp_str (a b : ByteArray) (w : World) : Calls Try.prog 87 #[.string a, .string b] w fun e w' => e = .returned (.int .i64 (cmpB a b)) ∧ w = w' := by
  cases h1 : Op.bytesLess a.toList b.toList
  · cases h2 : (!a.toList == b.toList)
    · have H := Lib.hid (show Ending.returned (.int .i64 0) = .returned (.int .i64 (cmpB a b)) by
        rw [Bool.not_eq_false'] at h2
        simp only [cmpB, ltB, h1, h2]; rfl)
      go_enter Try.func87, Try.ntmps87
      go_wp2_with (go_in)
      go_ret
      exact ⟨H.out, rfl⟩
    · have H := Lib.hid (show Ending.returned (.int .i64 1) = .returned (.int .i64 (cmpB a b)) by
        rw [Bool.not_eq_true'] at h2
        simp only [cmpB, ltB, h1, h2]; rfl)
      go_enter Try.func87, Try.ntmps87
      go_wp2_with (go_in)
      go_ret
      exact ⟨H.out, rfl⟩
  · have H := Lib.hid (show Ending.returned (.int .i64 (-1)) = .returned (.int .i64 (cmpB a b)) by simp only [cmpB, ltB, h1]; rfl)
    go_enter Try.func87, Try.ntmps87
    go_wp2_with (go_in)
    go_ret
    exact ⟨H.out, rfl⟩
/-- The name of an entry in memory. -/
def NameAt (w : World) (p : Option Addr) (s : ByteArray) : Prop := ∃ b off, p = some ⟨b, off, none⟩ ∧ w.cell? ⟨b, off + 3, none⟩ = some (.string s)
theorem name_step {w w' : World} {p : Option Addr} {s : ByteArray} (h : NameAt w p s) (hb : Below w.heap.size w w') : NameAt w' p s := by
  obtain ⟨b, off, rfl, h⟩ := h
  exact ⟨b, off, rfl, cell_keep hb h⟩
theorem nameOf_any (K I : Int) (F : Nat) (S : ByteArray) (p : Option Addr) (l c : Nat) (s : ByteArray) (w : World) (hl : 0 < l) (hn : NameAt w p s) :
    Calls Try.prog 39 #[.agg #[.int .i64 K, .int .i64 I, .float .f64 F, .string S, .slice p l c]] w fun e w' => e = .returned (.string s) ∧ Below w.heap.size w w' := by
  obtain ⟨b, off, rfl, hc⟩ := hn
  have hlt : b < w.heap.size := cell_lt hc
  have hne : w.heap.size ≠ b := by omega
  have hl' : (0 : Int) < (l : Int) := by omega
  go_enter Try.func39, Try.ntmps39
  go_wp2
  go_ret
  exact ⟨rfl, bel_alloc (Below.refl w.heap.size w) _⟩
theorem tlist_any (p : Option Addr) (l c : Nat) (w : World) : Calls Try.prog 83 #[.slice p l c] w fun e w' => e = .returned (.agg #[.int .i64 4, .int .i64 0, .float .f64 0, .string ⟨#[]⟩, .slice p l c]) ∧ Below w.heap.size w w' := by
  go_enter Try.func83, Try.ntmps83
  go_wp2
  exact bodyPost_ret (v := .agg #[.int .i64 4, .int .i64 0, .float .f64 0, .string ⟨#[]⟩, .slice p l c]) (by simp [results, Try.results83, go_sem]) rfl ⟨rfl, ((Below.refl _ _).alloc (Nat.le_refl _) _)⟩
theorem find_cmp (K I : Int) (F : Nat) (S : ByteArray) (p : Option Addr) (l c : Nat) (s k : ByteArray) (w : World) (hl : 0 < l) (hn : NameAt w p s) :
    Calls Try.prog 86 #[.agg #[.int .i64 K, .int .i64 I, .float .f64 F, .string S, .slice p l c], .string k] w fun e w' => e = .returned (.int .i64 (cmpB s k)) ∧ Below w.heap.size w w' := by
  have HB := Lib.hid (bel_alloc (Below.refl w.heap.size w) (.cells #[.int .i64 K, .int .i64 I, .float .f64 F, .string S, .slice p l c] 27))
  have HN := Lib.hid (name_step hn HB.out)
  clear hn
  go_enter Try.func86, Try.ntmps86
  go_wp2_with (first
    | (go_at_call 39; refine (nameOf_any _ _ _ _ _ _ _ s _ hl HN.out).mono ?_; rintro e w1 ⟨rfl, hb1⟩; have HB1 := Lib.hid (bel_step HB.out hb1); clear hb1)
    | (go_at_call 87; refine (cmp_str _ _ _).mono ?_; rintro e w2 ⟨rfl, rfl⟩))
  go_ret
  exact ⟨rfl, HB1.out⟩
end Num
end Go.Proofs.Ytamogpbbaihaaaa
