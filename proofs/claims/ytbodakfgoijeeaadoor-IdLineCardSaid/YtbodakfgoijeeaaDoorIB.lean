/-
  The library's decimal texts of numbers without a sign, and numbers out of texts, as package opid uses them.
-/
import Derived.Test.YtbodakfgoijeeaaDoorIA
import Derived.Test.YtbodakfgoijeeaaDoorShelf
import Derived.Lib.ItoaMem
import Derived.Lib.AppendIntMem
import Derived.Lib.AtoiErrMem
import Derived.Lib.Walk
import Derived.Lib.Hide
import Derived.WalkKit
import Derived.ProofKit
import Derived.BigCall
import Derived.BigGuard
import Derived.RowKit3
namespace Go.Proofs.YtbodakfgoijeeaaDoor
open Go.RowKit Go.Sort Go.Lib
namespace Num
set_option linter.unusedSimpArgs false
set_option linter.unusedVariables false
def TenT (W : World) : Prop := Lib.TabIs Tryd.prog W "internal/strconv.uint64pow10" .u64 Lib.pow10Tab
/-- What the calls of package opid want of the world: the table of powers, the two errors, and the search's length. -/
def Good (w : World) : Prop := TenT w ∧ (∃ t p, w.var? Tryd.prog "strconv.ErrSyntax" = some #[.iface t p]) ∧ (∃ t p, w.var? Tryd.prog "strconv.ErrRange" = some #[.iface t p]) ∧ ∃ m, w.cell? ⟨0, 0, none⟩ = some (.int .i64 m)
def SB (l : List UInt8) : ByteArray := ⟨l.toArray⟩
abbrev Str (l : List UInt8) : Value := .string (SB l)
set_option maxHeartbeats 1600000 in
set_option maxRecDepth 100000 in
theorem fmt_small (i : Nat) (hi : i < 100) (w : World) :
    Calls Tryd.prog 28 #[.int .u64 i, .int .i64 10] w fun e w' => e = .returned (Str (decDigits i)) ∧ Below w.heap.size w w' := by
  go_enter Tryd.func28, Tryd.ntmps28
  go_wp2_with (go_at_call 32; refine (Tryd.internal_strconv_small i hi _).mono ?_; rintro e w' ⟨rfl, rfl⟩)
  go_ret
  exact ⟨rfl, Below.refl _ _⟩
set_option maxHeartbeats 6400000 in
set_option maxRecDepth 100000 in
theorem fmt_big (u : Nat) (hu : 100 ≤ u) (hu64 : u < 18446744073709551616) (w : World) (htab : TenT w) :
    Calls Tryd.prog 28 #[.int .u64 u, .int .i64 10] w fun e w' => e = .returned (Str (decDigits u)) ∧ Below w.heap.size w w' := by
  have hu1 : 1 ≤ u := by omega
  have hnd20 : Lib.nDigits u ≤ 20 := by have := Lib.numDigits_eq u hu1 hu64; split at this <;> omega
  have hal : Tryd.prog.arrayLen 59 = 24 := by simp [Program.arrayLen, Tryd.underlying59]
  have hsl : ∀ W, (Instr.sliceAt 59 (.pointer (some ⟨w.heap.size, 0, none⟩)) none (some (.int .i64 (Lib.nDigits u : Int))) none).run Tryd.prog W = .ok (.slice (some ⟨w.heap.size, 0, none⟩) (Lib.nDigits u) 24) W := fun W => by
    rw [run_sliceAt_array_h W 59 ⟨w.heap.size, 0, none⟩ (by simp [Program.arrayLen, Program.elem, Tryd.underlying59]) .i64 (Lib.nDigits u : Int) (by omega) (by rw [hal]; omega)]
    go_simp
  have hH0 := Lib.holds_zero0 w 59 (Lib.nDigits u) (by omega)
  have hfmt := Tryd.internal_strconv_formatBase10 w.heap.size 0 24 u (Array.replicate (Lib.nDigits u) 0) (w.alloc (.cells Lib.zeros24 59)) hH0 (by rw [Array.size_replicate]; exact Lib.lt_pow_nDigits u) hu64 (by rw [Array.size_replicate]; omega)
  rw [Array.size_replicate] at hfmt
  have HH0 := Lib.hid hH0
  have iu : (100 : Int) ≤ (u : Int) := by omega
  clear hH0 hal
  go_enter Tryd.func28, Tryd.ntmps28
  go_wp2_with (first
    | (go_at_call 33; refine (Tryd.internal_strconv_numDigits u hu1 hu64 _ (Lib.tabIs_alloc htab _)).mono ?_; rintro e w' ⟨rfl, rfl⟩))
  go_at_call 34
  refine hfmt.mono ?_
  rintro e w' ⟨rfl, k, v', dk, rfl, hF⟩
  have hcv : (convert 30 9 (.slice (some ⟨w.heap.size, 0, none⟩) (Lib.nDigits u) 24)).run Tryd.prog ((putRow (fun (b : UInt8) => Value.int .u8 (b.toNat : Int)) (w.alloc (.cells Lib.zeros24 59)) w.heap.size 0 dk).drewN k) = .ok (Str (decDigits u)) ((putRow (fun (b : UInt8) => Value.int .u8 (b.toNat : Int)) (w.alloc (.cells Lib.zeros24 59)) w.heap.size 0 dk).drewN k) := by
    have h := run_convert_bytes_back (P := Tryd.prog) ((putRow (fun (b : UInt8) => Value.int .u8 (b.toNat : Int)) (w.alloc (.cells Lib.zeros24 59)) w.heap.size 0 dk).drewN k) 30 9 5 ⟨w.heap.size, 0, none⟩ 24 (Lib.decDigits u) Tryd.underlying30 Tryd.underlying5 Tryd.underlying9 (fun j hj => by
      rw [Lib.row_is_numeral hF j hj, Lib.add_plain, World.cell?_drewN]
      exact cell?_putRow (fun (b : UInt8) => Value.int .u8 (b.toNat : Int)) _ w.heap.size 0 _ dk HH0.out (by rw [hF.size, Array.size_replicate]) j (by rw [hF.size]; rw [Lib.decDigits_length] at hj; exact hj))
    rw [Lib.decDigits_length] at h
    exact h
  go_wp2
  go_ret
  obtain ⟨os, eo⟩ := Lib.fin_at w (.cells Lib.zeros24 59) dk k 0
  refine ⟨rfl, ?_⟩
  rw [eo]
  exact Lib.below_grow _ w (Nat.le_refl _) k os
set_option maxRecDepth 100000 in
theorem dec_any (u : Nat) (hu64 : u < 18446744073709551616) (w : World) (htab : TenT w) :
    Calls Tryd.prog 15 #[.int .u64 u] w fun e w' => e = .returned (Str (decDigits u)) ∧ Below w.heap.size w w' := by
  have hf : Calls Tryd.prog 28 #[.int .u64 u, .int .i64 10] w fun e w' => e = .returned (Str (decDigits u)) ∧ Below w.heap.size w w' := by
    by_cases h : u < 100
    · exact fmt_small u h w
    · exact fmt_big u (by omega) hu64 w htab
  have HF := Lib.hid hf
  clear hf
  clear hu64 htab
  go_enter Tryd.func15, Tryd.ntmps15
  go_wp2_with (first
    | (go_at_call 28; refine HF.out.mono ?_; rintro e w' ⟨rfl, hb⟩)
    | go_in)
  go_ret
  exact ⟨rfl, hb⟩
theorem var_keep {w w' : World} {n : String} {cs : Array Value} (hb : Below w.heap.size w w') (h : w.var? Tryd.prog n = some cs) : w'.var? Tryd.prog n = some cs := by
  unfold World.var? at *
  cases hg : Tryd.prog.globalNamed n with
  | none => simp [hg] at h
  | some g =>
    simp only [hg, Option.bind_some] at h ⊢
    have hlt : g < w.heap.size := by
      rcases Nat.lt_or_ge g w.heap.size with h' | h'
      · exact h'
      · rw [Array.getElem?_eq_none h'] at h; simp at h
    rw [hb.block g hlt]
    exact h
theorem good_keep {w w' : World} (h : Good w) (hb : Below w.heap.size w w') : Good w' := by
  obtain ⟨h1, ⟨t2, p2, h2⟩, ⟨t3, p3, h3⟩, m, h4⟩ := h
  exact ⟨var_keep hb h1, ⟨t2, p2, var_keep hb h2⟩, ⟨t3, p3, var_keep hb h3⟩, m, by rw [hb.cell (World.block_lt_of_cell? w _ h4)]; exact h4⟩
set_option maxRecDepth 100000 in
theorem num_any (B : Nat) (hB : B = 32 ∨ B = 16) (s : ByteArray) (hs : s.size ≤ 100000) (w : World) (hg : Good w) :
    Calls Tryd.prog 17 #[.string s, .int .i64 B] w fun e w' => e = .returned (.int .u64 (numB B s.data.toList)) ∧ Below w.heap.size w w' := by
  obtain ⟨h1, ⟨t2, p2, h2⟩, ⟨t3, p3, h3⟩, m, h4⟩ := hg
  have hp : Calls Tryd.prog 25 #[.string s, .int .i64 10, .int .i64 B] w fun e w' => (∃ ev, e = .returned (.tuple #[.int .u64 (numB B s.data.toList), ev])) ∧ Below w.heap.size w w' := by
    unfold numB
    rcases hB with rfl | rfl
    · cases hc : parseUintB 32 s.data.toList
      · rename_i u
        refine (Tryd.strconv_ParseUint_10_at32_ok s (by omega) u hc w).mono ?_
        rintro e w' ⟨rfl, rfl | rfl⟩
        · exact ⟨⟨_, rfl⟩, Below.refl _ _⟩
        · exact ⟨⟨_, rfl⟩, Lib.bytesWorld_below _ _ _⟩
      · refine (Tryd.strconv_ParseUint_10_at32_syntax_var s (by omega) ⟨fun u e => (by rw [hc] at e; cases e), fun e => (by rw [hc] at e; cases e)⟩ t2 p2 w h2).mono ?_
        rintro e w' ⟨N, rfl, _, _, hb⟩
        exact ⟨⟨_, rfl⟩, hb⟩
      · refine (Tryd.strconv_ParseUint_10_at32_range_var s (by omega) hc t3 p3 w h3).mono ?_
        rintro e w' ⟨N, rfl, _, _, hb⟩
        exact ⟨⟨_, rfl⟩, hb⟩
    · cases hc : parseUintB 16 s.data.toList
      · rename_i u
        refine (Tryd.strconv_ParseUint_10_at16_ok s (by omega) u hc w).mono ?_
        rintro e w' ⟨rfl, rfl | rfl⟩
        · exact ⟨⟨_, rfl⟩, Below.refl _ _⟩
        · exact ⟨⟨_, rfl⟩, Lib.bytesWorld_below _ _ _⟩
      · refine (Tryd.strconv_ParseUint_10_at16_syntax_var s (by omega) ⟨fun u e => (by rw [hc] at e; cases e), fun e => (by rw [hc] at e; cases e)⟩ t2 p2 w h2).mono ?_
        rintro e w' ⟨N, rfl, _, _, hb⟩
        exact ⟨⟨_, rfl⟩, hb⟩
      · refine (Tryd.strconv_ParseUint_10_at16_range_var s (by omega) hc t3 p3 w h3).mono ?_
        rintro e w' ⟨N, rfl, _, _, hb⟩
        exact ⟨⟨_, rfl⟩, hb⟩
  have HP := Lib.hid hp
  clear hp h1 h2 h3 h4
  go_enter Tryd.func17, Tryd.ntmps17
  go_wp2_with (go_at_call 25; refine HP.out.mono ?_; rintro e w' ⟨⟨ev, rfl⟩, hb⟩)
  go_ret
  exact ⟨rfl, hb⟩
end Num
end Go.Proofs.YtbodakfgoijeeaaDoor
