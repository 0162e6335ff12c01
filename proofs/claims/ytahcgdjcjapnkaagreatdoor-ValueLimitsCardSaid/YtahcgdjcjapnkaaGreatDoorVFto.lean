/-
  The decimal text of a float (internal/strconv.ftoa64, FormatFloat) with the fewest digits.
-/
import Derived.Test.YtahcgdjcjapnkaaGreatDoorVFfe
import Derived.Test.YtahcgdjcjapnkaaGreatDoorVShort
import Derived.Test.YtahcgdjcjapnkaaGreatDoorVDig
import Derived.Lib.AppendStr
namespace Go.Proofs.YtahcgdjcjapnkaaGreatDoor
open Go.RowKit
namespace Num
open Ints
set_option linter.unusedSimpArgs false
set_option linter.unusedVariables false
set_option maxRecDepth 100000 in
set_option maxHeartbeats 8000000 in
theorem fdf_0 (neg : Bool) (W0 w : World) (v : Value) (xs : List Int) (bb : Nat) (N : Nat) (hb : Bu W0 w v xs bb [] N) (hbl : bb < w.heap.size) (hN : N ≤ 1000) : Calls Tryz.prog 76 #[v, .bool neg, .slice none 0 0, .int .i64 0, .int .i64 0, .int .i64 (-1), .int .u8 103, .bool true] w (FmtPost W0 xs (sgnI neg ++ [48]) bb [] N) := by
  have hfin : ∀ (v' : Value) (w' : World) (N' : Nat) (ys : List Int), Bu W0 w' v' ys bb [] N' → N' ≤ N + 100 → xs ++ (sgnI neg ++ [48]) = ys → FmtPost W0 xs (sgnI neg ++ [48]) bb [] N (.returned v') w' := fun v' w' N' ys h1 h2 h3 => ⟨v', N', rfl, h2, by rw [h3]; exact h1⟩
  have HFIN := Lib.hid hfin
  clear hfin
  cases neg
  all_goals
    go_enter Tryz.func76, Tryz.ntmps76
    go_wp2_with (at_builtin; first
      | (refine wp_app1 rfl _ _ rfl W0 _ _ _ _ _ _ _ rfl rfl (by assumption) (by assumption) (by omega) ?_; intro _ _ hbu hbl))
    go_ret
    exact HFIN.out _ _ _ _ hbu (by omega) (by simp [sgnI])
@[go_sem] theorem call_f64bits (x : Nat) (w : World) : (callFunc 73 #[.float .f64 x]).run Tryz.prog w = .ok (.value (.int .u64 x)) w :=
  (run_callFunc_extern Tryz.func73 (by kernel_rfl) (by kernel_rfl) (by kernel_rfl) (e := Extern.MathFloatBits.float64bits) (by kernel_rfl) _ w).trans rfl
def expE (x : Nat) : Nat := x / 4503599627370496 % 2048
def fracM (x : Nat) : Nat := x % 4503599627370496
def negF (x : Nat) : Bool := (x : Int) / 9223372036854775808 != 0
theorem exp_bits (x : Nat) (hx : x < 18446744073709551616) : bits BinOp.and IntKind.i64 ((x : Int) / 4503599627370496) 2047 = (expE x : Int) := by
  rw [show (2047 : Int) = 2 ^ 11 - 1 from rfl, bits_mask .i64 63 (by decide) (fun n h0 h1 => by rw [IntKind.wrap_i64]; omega) 11 (by decide) _ (by omega) (by omega)]
  unfold expE
  omega
theorem frac_bits (x : Nat) (hx : x < 18446744073709551616) : bits BinOp.and IntKind.u64 (x : Int) 4503599627370495 = (fracM x : Int) := by
  rw [show (4503599627370495 : Int) = 2 ^ 52 - 1 from rfl, bits_mask .u64 64 (by decide) (fun n h0 h1 => by rw [IntKind.wrap_u64]; omega) 52 (by decide) _ (by omega) (by omega)]
  unfold fracM
  omega
theorem mant_bits (M : Nat) (h : M < 4503599627370496) : bits BinOp.or IntKind.u64 (M : Int) 4503599627370496 = ((M + 4503599627370496 : Nat) : Int) := by
  rw [show (4503599627370496 : Int) = ((4503599627370496 : Nat) : Int) from rfl, bits_or_u64_nat _ _ (by omega) (by omega), Nat.or_comm, show (4503599627370496 : Nat) = 2 ^ 52 * 1 from rfl, ← Nat.two_pow_add_eq_or_of_lt (by omega : M < 2 ^ 52)]
  omega
theorem bu_zero {W0 w : World} {v : Value} {xs : List Int} {bb : Nat} {D : List UInt8} {N : Nat} (h : Bu W0 w v xs bb D N) (h0 : 0 < W0.heap.size) : Bu W0 w v xs 0 [] N := by
  obtain ⟨h1, h2, h3, h4, h5, h6⟩ := h
  refine ⟨h1, h2, h3, fun e => ?_, fun i hi => absurd hi (Nat.not_lt_zero i), h6⟩
  have := (h1.lt 0 e).1
  omega
theorem bu_on {W0 w w' : World} {v : Value} {xs : List Int} {bb b : Nat} {D D' : List UInt8} {N : Nat} (h : Bu W0 w v xs bb D N) (hg : w.grownBy w' (some b)) (hne : v.ownBlock ≠ some b) (hB : W0.heap.size ≤ b) (hD : Digs w' b D') : Bu W0 w' v xs b D' N := by
  obtain ⟨h1, h2, h3, h4, h5, h6⟩ := h
  exact ⟨h1.kept hg (Or.inr hne), Below.grown h2 hg h3 (fun k hk => by cases hk; exact hB), Nat.le_trans h3 hg.size, hne, hD, h6⟩
theorem bu_below {W0 w w' : World} {v : Value} {xs : List Int} {bb : Nat} {D : List UInt8} {N : Nat} (h : Bu W0 w v xs bb D N) (hb : Below w.heap.size w w') : Bu W0 w' v xs bb D N := by
  obtain ⟨h1, h2, h3, h4, h5, h6⟩ := h
  have hg : w.grownBy w' none := ⟨hb.os, hb.tape, hb.output, hb.size, fun k hk _ => hb.block k hk⟩
  refine ⟨h1.kept hg ?_, h2.trans (hb.mono h3), Nat.le_trans h3 hb.size, h4, digs_grown h5 hg (by simp), h6⟩
  cases v.ownBlock with
  | none => exact Or.inl rfl
  | some k => exact Or.inr (by simp)
theorem bu_drewN {W0 w : World} {v : Value} {xs : List Int} {bb : Nat} {D : List UInt8} {N : Nat} (h : Bu W0 w v xs bb D N) (n : Nat) : Bu W0 (w.drewN n) v xs bb D N := bu_below h (bel_drewN n (Below.refl _ _))
theorem zero32 (i : Nat) (hi : i < 32) : (#[.int .u8 0, .int .u8 0, .int .u8 0, .int .u8 0, .int .u8 0, .int .u8 0, .int .u8 0, .int .u8 0, .int .u8 0, .int .u8 0, .int .u8 0, .int .u8 0, .int .u8 0, .int .u8 0, .int .u8 0, .int .u8 0, .int .u8 0, .int .u8 0, .int .u8 0, .int .u8 0, .int .u8 0, .int .u8 0, .int .u8 0, .int .u8 0, .int .u8 0, .int .u8 0, .int .u8 0, .int .u8 0, .int .u8 0, .int .u8 0, .int .u8 0, .int .u8 0] : Array Value)[i]? = some (.int .u8 0) := by
  rw [show (#[.int .u8 0, .int .u8 0, .int .u8 0, .int .u8 0, .int .u8 0, .int .u8 0, .int .u8 0, .int .u8 0, .int .u8 0, .int .u8 0, .int .u8 0, .int .u8 0, .int .u8 0, .int .u8 0, .int .u8 0, .int .u8 0, .int .u8 0, .int .u8 0, .int .u8 0, .int .u8 0, .int .u8 0, .int .u8 0, .int .u8 0, .int .u8 0, .int .u8 0, .int .u8 0, .int .u8 0, .int .u8 0, .int .u8 0, .int .u8 0, .int .u8 0, .int .u8 0] : Array Value) = Array.replicate 32 (.int .u8 0) from rfl, Array.getElem?_replicate, if_pos hi]
theorem tab_drewN {w : World} (h : Lib.TabIs Tryz.prog w "internal/strconv.uint64pow10" .u64 Lib.pow10Tab) (n : Nat) : Lib.TabIs Tryz.prog (w.drewN n) "internal/strconv.uint64pow10" .u64 Lib.pow10Tab := Lib.tabBelow_of_tabIs h _ (bel_drewN n (Below.refl _ _))
section
variable {ops : Array Oper} {rest : List Oper} {o : Oper} {a : Act} {Q : Exit → Act → World → Prop}
def strI (s : ByteArray) : List Int := s.data.toList.map fun b => (b.toNat : Int)
theorem strI_len (s : ByteArray) : (strI s).length = s.size := by
  rw [strI, List.length_map, Array.length_toList]
  rfl
theorem strCells_eq (s : ByteArray) : Lib.strCells s = (strI s).map (Value.int .u8) := by
  unfold Lib.strCells strI
  rw [List.map_map]
  rfl
/-- A string behind the bytes. -/
theorem wp_appS (hgd : o.guard = none) (s x : Operand) (ho : o.op = .call { callee := .builtin .append, args := #[s, x], argTypes := #[28, 9] })
    (W0 w : World) (v : Value) (xs : List Int) (N : Nat) (st : ByteArray) (hs : a.eval s = v) (hx : a.eval x = .string st) (hb : Bu W0 w v xs 0 [] N) (h0 : 0 < W0.heap.size) (hN : N ≤ 100000000) (hst : st.size ≤ 100000000)
    (h : ∀ v' w', Bu W0 w' v' (xs ++ strI st) 0 [] (N + st.size) → wpList Tryz.prog ops Q rest (a.put o.dst v') w') : wpList Tryz.prog ops Q (o :: rest) a w := by
  obtain ⟨i0, hi, hz0, hz1, hz2⟩ := info_parts info_u8
  obtain ⟨h1, h2, h3, h4, h5, h6⟩ := hb
  refine Lib.wpList_append_own_string w hgd s x 28 9 ho W0.heap.size 5 i0 Tryz.underlying28 Tryz.underlying9 hi hz0 hz1 hz2 v xs.length (xs.map (Value.int .u8)) hs h1 st hx (by unfold maxLen; omega) (by omega) h3 ?_
  intro v' w' hown hg _
  refine h v' w' ⟨?_, Below.grown h2 hg h3 (fun k hk => (h1.lt k hk).1), Nat.le_trans h3 hg.size, fun e => ?_, fun i hi => absurd hi (Nat.not_lt_zero i), by rw [List.length_append, strI_len]; omega⟩
  · rw [List.length_append, strI_len, List.map_append, ← strCells_eq]
    exact hown
  · have := (hown.lt 0 e).1
    omega
end
/-- What ftoa64 leaves. -/
def FtoPost (W0 : World) (ys : List Int) (e : Ending) (w' : World) : Prop := ∃ v' N', e = .returned v' ∧ N' ≤ 1000 ∧ Bu W0 w' v' ys 0 [] N'
set_option maxRecDepth 100000 in
set_option maxHeartbeats 4000000 in
theorem ftoa_nan (x : Nat) (hx : x < 18446744073709551616) (W0 w : World) (v : Value) (h0 : 0 < W0.heap.size) (hb : Bu W0 w v [] 0 [] 0) (hE0 : expE x = 2047) (hM0 : fracM x ≠ 0) : Calls Tryz.prog 54 #[v, .float .f64 x, .int .u8 103, .int .i64 (-1)] w (FtoPost W0 ([78, 97, 78])) := by
  have hE := exp_bits x hx
  have hM := frac_bits x hx
  obtain ⟨neg, hng⟩ : ∃ neg, ((x : Int) / 9223372036854775808 != 0) = neg := ⟨_, rfl⟩
  obtain ⟨M, hMM⟩ : ∃ M, fracM x = M := ⟨_, rfl⟩
  rw [hE0] at hE
  rw [hMM] at hM hM0
  have hMz : ((M : Int) != 0) = true := by rw [bne_iff_ne]; omega
  clear hE0 hMM
  go_enter Tryz.func54, Tryz.ntmps54
  go_wp2
  go_region
  go_wp2_with (at_builtin; refine wp_appS rfl _ _ rfl W0 _ _ _ _ _ rfl rfl (by first | assumption | exact bu_drew (by assumption)) (by assumption) (by omega) (by decide) ?_; intro _ _ hbu)
  go_ret
  exact ⟨_, _, rfl, by decide, hbu⟩
set_option maxRecDepth 100000 in
set_option maxHeartbeats 4000000 in
theorem ftoa_inf (x : Nat) (hx : x < 18446744073709551616) (W0 w : World) (v : Value) (h0 : 0 < W0.heap.size) (hb : Bu W0 w v [] 0 [] 0) (hE0 : expE x = 2047) (hM0 : fracM x = 0) : Calls Tryz.prog 54 #[v, .float .f64 x, .int .u8 103, .int .i64 (-1)] w (FtoPost W0 (if negF x = true then [45, 73, 110, 102] else [43, 73, 110, 102])) := by
  have hE := exp_bits x hx
  have hM := frac_bits x hx
  unfold negF
  obtain ⟨neg, hng⟩ : ∃ neg, ((x : Int) / 9223372036854775808 != 0) = neg := ⟨_, rfl⟩
  rw [hng]
  rw [hE0] at hE
  rw [hM0] at hM
  clear hE0 hM0
  cases neg
  all_goals
    go_enter Tryz.func54, Tryz.ntmps54
    go_wp2
    go_region
    go_wp2_with (at_builtin; refine wp_appS rfl _ _ rfl W0 _ _ _ _ _ rfl rfl (by first | assumption | exact bu_drew (by assumption)) (by assumption) (by omega) (by decide) ?_; intro _ _ hbu)
    go_ret
    exact ⟨_, _, rfl, by decide, hbu⟩
set_option maxRecDepth 100000 in
set_option maxHeartbeats 4000000 in
theorem ftoa_zero (x : Nat) (hx : x < 18446744073709551616) (W0 w : World) (v : Value) (h0 : 0 < W0.heap.size) (hb : Bu W0 w v [] 0 [] 0) (hE0 : expE x = 0) (hM0 : fracM x = 0) : Calls Tryz.prog 54 #[v, .float .f64 x, .int .u8 103, .int .i64 (-1)] w (FtoPost W0 (sgnI (negF x) ++ [48])) := by
  have hE := exp_bits x hx
  have hM := frac_bits x hx
  unfold negF
  obtain ⟨neg, hng⟩ : ∃ neg, ((x : Int) / 9223372036854775808 != 0) = neg := ⟨_, rfl⟩
  rw [hng]
  rw [hE0] at hE
  rw [hM0] at hM
  clear hE0 hM0
  go_enter Tryz.func54, Tryz.ntmps54
  go_wp2
  go_region
  have hlt0 : 0 < w.drew.heap.size := by rw [World.size_drew]; have := hb.2.2.1; omega
  have hbd := bu_drew hb
  have HC := Lib.hid (fdf_0 neg W0 w.drew v [] 0 0 hbd hlt0 (by omega))
  go_wp2_with fail
  go_at_call 76; refine HC.out.mono ?_; rintro e' w1 ⟨v', N', rfl, hN', hB'⟩
  go_wp2
  go_ret
  exact ⟨_, _, rfl, by omega, hB'⟩
/-- The text of a finite float, not zero: by sign, mantissa and exponent. -/
def finL (neg : Bool) (m : Nat) (ex : Int) : List Int :=
  efgL neg (digU (shortF (m * 2 ^ (64 - Lib.bitLen m)) (ex - (64 - Lib.bitLen m : Int) - 52)).1.toNat) (tz (digU (shortF (m * 2 ^ (64 - Lib.bitLen m)) (ex - (64 - Lib.bitLen m : Int) - 52)).1.toNat) (ndU (shortF (m * 2 ^ (64 - Lib.bitLen m)) (ex - (64 - Lib.bitLen m : Int) - 52)).1.toNat))
    ((ndU (shortF (m * 2 ^ (64 - Lib.bitLen m)) (ex - (64 - Lib.bitLen m : Int) - 52)).1.toNat : Int) + (shortF (m * 2 ^ (64 - Lib.bitLen m)) (ex - (64 - Lib.bitLen m : Int) - 52)).2)
set_option maxRecDepth 100000 in
set_option maxHeartbeats 4000000 in
theorem ftoa_nor (x : Nat) (hx : x < 18446744073709551616) (W0 w : World) (v : Value) (h0 : 0 < W0.heap.size) (hb : Bu W0 w v [] 0 [] 0) (hpt : PowTab w) (htb : Lib.TabIs Tryz.prog w "internal/strconv.uint64pow10" .u64 Lib.pow10Tab) (hE0 : expE x ≠ 0) (hE1 : expE x ≠ 2047) : Calls Tryz.prog 54 #[v, .float .f64 x, .int .u8 103, .int .i64 (-1)] w (FtoPost W0 (finL (negF x) (fracM x + 4503599627370496) ((expE x : Int) + -1023))) := by
  have hE := exp_bits x hx
  have hM := frac_bits x hx
  unfold negF
  obtain ⟨neg, hng⟩ : ∃ neg, ((x : Int) / 9223372036854775808 != 0) = neg := ⟨_, rfl⟩
  rw [hng]
  obtain ⟨M, hMM⟩ : ∃ M, fracM x = M := ⟨_, rfl⟩
  have hMlt : M < 4503599627370496 := by rw [← hMM]; unfold fracM; omega
  obtain ⟨E, hEE⟩ : ∃ E, expE x = E := ⟨_, rfl⟩
  have hElt : E < 2048 := by rw [← hEE]; unfold expE; omega
  rw [hEE] at hE hE0 hE1 ⊢
  rw [hMM] at hM ⊢
  have hO := mant_bits M hMlt
  have hEz : ((E : Int) == 0) = false := by rw [beq_eq_false_iff_ne]; omega
  have hEt : ((E : Int) == 2047) = false := by rw [beq_eq_false_iff_ne]; omega
  obtain ⟨m, hmm⟩ : ∃ m, M + 4503599627370496 = m := ⟨_, rfl⟩
  rw [hmm] at hO
  obtain ⟨ex, hex⟩ : ∃ ex : Int, (E : Int) + -1023 = ex := ⟨_, rfl⟩
  have hx1 : -1022 ≤ ex ∧ ex ≤ 1023 := by omega
  have hm0 : 0 < m := by omega
  have hm53 : m < 9007199254740992 := by omega
  obtain ⟨L, hL⟩ : ∃ L, Lib.bitLen m = L := ⟨_, rfl⟩
  have hL0 := Lib.bitLenAux_bounds 64 m (by omega) (by omega)
  rw [show Lib.bitLenAux 64 m = L from hL] at hL0
  have hL1 := hL0.2.2
  have hL2 : L ≤ 53 := by rw [← hL]; exact Lib.bitLen_le m 53 (by omega) (by omega)
  have hL3 : 1 ≤ L := hL0.1
  clear hL0
  have hlen : ∀ w, Calls Tryz.prog 68 #[.int .u64 m] w fun e w' => e = .returned (.int .i64 (L : Int)) ∧ w' = w := fun w => by
    have := Tryz.bits_Len64 (m : Int) w (by omega) (by omega)
    rw [Int.toNat_natCast, hL] at this
    exact this
  obtain ⟨s, hs⟩ : ∃ s : Nat, (64 : Int) - (L : Int) = (s : Int) := ⟨64 - L, by omega⟩
  have hs1 : s ≤ 63 := by omega
  have hs0 : 1 ≤ s := by omega
  obtain ⟨P, hP⟩ : ∃ P, m * 2 ^ s = P := ⟨_, rfl⟩
  have hP64 : P < 18446744073709551616 := by
    rw [← hP, show (18446744073709551616 : Nat) = 2 ^ L * 2 ^ s by rw [← Nat.pow_add, show L + s = 64 by omega]]
    exact Nat.mul_lt_mul_of_pos_right hL1 (Nat.two_pow_pos s)
  have hPi : IntKind.u64.wrap ((m : Int) * 2 ^ s) = (P : Int) := by
    rw [show (m : Int) * 2 ^ s = (P : Int) by rw [← hP]; simp, IntKind.wrap_u64]
    omega
  obtain ⟨ee, hee⟩ : ∃ ee : Int, ex - (s : Int) - 52 = ee := ⟨_, rfl⟩
  have hee1 : -1137 ≤ ee := by omega
  have hee2 : ee ≤ 980 := by omega
  rw [hmm, hex]
  have hfin : finL neg m ex = efgL neg (digU (shortF P ee).1.toNat) (tz (digU (shortF P ee).1.toNat) (ndU (shortF P ee).1.toNat)) ((ndU (shortF P ee).1.toNat : Int) + (shortF P ee).2) := by
    unfold finL
    rw [hL, hs, show 64 - L = s by omega, hP, hee]
  rw [show finL neg m ex = _ from hfin]
  clear hfin
  obtain ⟨d1, d2, d3, d4⟩ := short_bd P ee hee1 hee2
  have hsh : ∀ w, PowTab w → Calls Tryz.prog 83 #[.int .u64 P, .int .i64 ee] w fun e' w' => e' = .returned (.tuple #[.int .u64 (shortF P ee).1, .int .i64 (shortF P ee).2]) ∧ Below w.heap.size w w' := fun w ht => short_any P ee hP64 hee1 hee2 w ht
  obtain ⟨u, hu⟩ : ∃ u : Nat, (shortF P ee).1 = (u : Int) := ⟨(shortF P ee).1.toNat, by omega⟩
  obtain ⟨p, hp⟩ : ∃ p, (shortF P ee).2 = p := ⟨_, rfl⟩
  rw [hu] at d1 d2
  rw [hp] at d3 d4
  simp only [hu, hp] at hsh
  simp only [hu, hp, Int.toNat_natCast]
  have HEE := Lib.hid (show (E : Int) + -1023 - (s : Int) - 52 = ee by omega)
  have HNE := Lib.hid (show v.ownBlock ≠ some w.heap.size by intro e; have := (hb.1.lt _ e).2; omega)
  have HLE := Lib.hid hb.2.2.1
  have HU : u < 18446744073709551616 := by omega
  have hnu := ndU_le u HU
  have htz := tz_le (digU u) (ndU u)
  have hdl := digU_len u
  obtain ⟨nd, hnd⟩ : ∃ nd : Nat, ndU u = nd := ⟨_, rfl⟩
  obtain ⟨D, hD⟩ : ∃ D, digU u = D := ⟨_, rfl⟩
  obtain ⟨td, htd⟩ : ∃ td : Nat, tz D nd = td := ⟨_, rfl⟩
  have hnum : ∀ w, Lib.TabIs Tryz.prog w "internal/strconv.uint64pow10" .u64 Lib.pow10Tab → Calls Tryz.prog 50 #[.int .u64 u] w fun e w' => e = .returned (.int .i64 nd) ∧ w = w' := fun w h => by rw [← hnd]; exact numDigits_any u HU w h
  have hset : ∀ (bb : Nat) (w : World), (∀ i, i < 32 → w.cell? ⟨bb, i, none⟩ = some (.int .u8 0) ∧ w.frozen? ⟨bb, i, none⟩ = false) → Calls Tryz.prog 78 #[.slice (some ⟨bb, 0, none⟩) 32 32, .int .u64 u, .int .i64 p, .int .i64 nd] w fun e w' => e = .returned (.tuple #[.int .i64 ((nd : Int) + p), .int .i64 td]) ∧ w.grownBy w' (some bb) ∧ Digs w' bb D := fun bb w hz => by
    have := setDigits_any u p bb HU (by omega) (by omega) w hz
    rw [hnd, hD, htd] at this
    exact this
  rw [hD, hnd] at htz
  rw [htd] at htz
  rw [hD, hnd] at hdl
  rw [hnd] at hnu
  rw [hD, hnd, htd]
  have HNUM := Lib.hid hnum
  have HSET := Lib.hid hset
  clear hnum hset hnd hD htd
  have HLEN := Lib.hid hlen
  have HSH := Lib.hid hsh
  have HP := Lib.hid hP
  have HPT := Lib.hid hpt
  have HB := Lib.hid hb
  have HTB := Lib.hid htb
  clear hlen hsh hu hp hee hP hL hL1 hpt hb htb hmm hMM hex hEE
  go_enter Tryz.func54, Tryz.ntmps54
  go_wp2
  go_region
  go_wp2_with fail
  go_at_call 68; refine (HLEN.out _).mono ?_; rintro e' w1 ⟨rfl, rfl⟩
  go_wp2_with fail
  rw [HEE.out]
  have HB1 := Lib.hid (show Below w.heap.size w ((w.alloc (.cells #[.int .u8 0, .int .u8 0, .int .u8 0, .int .u8 0, .int .u8 0, .int .u8 0, .int .u8 0, .int .u8 0, .int .u8 0, .int .u8 0, .int .u8 0, .int .u8 0, .int .u8 0, .int .u8 0, .int .u8 0, .int .u8 0, .int .u8 0, .int .u8 0, .int .u8 0, .int .u8 0, .int .u8 0, .int .u8 0, .int .u8 0, .int .u8 0, .int .u8 0, .int .u8 0, .int .u8 0, .int .u8 0, .int .u8 0, .int .u8 0, .int .u8 0, .int .u8 0] 114)).drew) by exact bel_drewN 1 ((Below.refl _ _).alloc (Nat.le_refl _) _))
  have HR1 := Lib.hid (show ((w.alloc (.cells #[.int .u8 0, .int .u8 0, .int .u8 0, .int .u8 0, .int .u8 0, .int .u8 0, .int .u8 0, .int .u8 0, .int .u8 0, .int .u8 0, .int .u8 0, .int .u8 0, .int .u8 0, .int .u8 0, .int .u8 0, .int .u8 0, .int .u8 0, .int .u8 0, .int .u8 0, .int .u8 0, .int .u8 0, .int .u8 0, .int .u8 0, .int .u8 0, .int .u8 0, .int .u8 0, .int .u8 0, .int .u8 0, .int .u8 0, .int .u8 0, .int .u8 0, .int .u8 0] 114)).drew).heap[w.heap.size]? = some (.cells #[.int .u8 0, .int .u8 0, .int .u8 0, .int .u8 0, .int .u8 0, .int .u8 0, .int .u8 0, .int .u8 0, .int .u8 0, .int .u8 0, .int .u8 0, .int .u8 0, .int .u8 0, .int .u8 0, .int .u8 0, .int .u8 0, .int .u8 0, .int .u8 0, .int .u8 0, .int .u8 0, .int .u8 0, .int .u8 0, .int .u8 0, .int .u8 0, .int .u8 0, .int .u8 0, .int .u8 0, .int .u8 0, .int .u8 0, .int .u8 0, .int .u8 0, .int .u8 0] 114 (0, 0)) from row_alloc w _ _)
  go_at_call 83; refine (HSH.out _ (powTab_keep HPT.out HB1.out)).mono ?_; rintro e' w2 ⟨rfl, hw2⟩
  have HB2 := Lib.hid (bel_step HB1.out hw2)
  have HR2 := Lib.hid (row_step HR1.out hw2)
  clear hw2
  have HT2 := Lib.hid ((Lib.tabBelow_of_tabIs HTB.out) w2 HB2.out)
  have HG2 := Lib.hid (show ∀ n : Nat, ∀ i, i < 32 → (w2.drewN n).cell? ⟨w.heap.size, i, none⟩ = some (.int .u8 0) ∧ (w2.drewN n).frozen? ⟨w.heap.size, i, none⟩ = false by
    intro n i hi
    refine ⟨?_, row_frz (w := w2) HR2.out i⟩
    rw [World.cell?_drewN, row_cell HR2.out i]
    exact zero32 i hi)
  have HBU := Lib.hid (bu_below HB.out HB2.out)
  have hsz2 : w.heap.size < w2.heap.size := row_lt HR2.out
  go_wp2_with fail
  go_region_with (first
    | (go_at_call 50; refine (HNUM.out _ (by first | exact HT2.out | exact tab_drewN HT2.out _)).mono ?_; rintro e' w3 ⟨rfl, rfl⟩)
    | (go_at_call 78; refine (HSET.out _ _ (by first | exact HG2.out 1 | exact HG2.out _)).mono ?_; rintro e' w4 ⟨rfl, hg4, hd4⟩; have HG4 := Lib.hid hg4; have HD4 := Lib.hid hd4; clear hg4 hd4))
  have HB4 := Lib.hid (bu_on (by first | exact HBU.out | exact bu_drew HBU.out | exact bu_drewN HBU.out _) HG4.out HNE.out HLE.out HD4.out)
  have hsz4 : w.heap.size < w4.heap.size := by have h : w2.heap.size ≤ w4.heap.size := HG4.out.size; omega
  go_wp2_with fail
  go_at_call 76; refine (efg_any neg W0 _ v [] w.heap.size D 0 td (nd + p) (by first | exact HB4.out | exact bu_drew HB4.out | exact bu_drewN HB4.out _) hsz4 (by omega) (by omega) (by omega) (by omega) (by omega)).mono ?_; rintro e' w5 ⟨v', N', rfl, hN', hB'⟩
  go_wp2
  go_ret
  exact ⟨_, _, rfl, by omega, bu_zero hB' h0⟩
set_option maxRecDepth 100000 in
set_option maxHeartbeats 4000000 in
theorem ftoa_sub (x : Nat) (hx : x < 18446744073709551616) (W0 w : World) (v : Value) (h0 : 0 < W0.heap.size) (hb : Bu W0 w v [] 0 [] 0) (hpt : PowTab w) (htb : Lib.TabIs Tryz.prog w "internal/strconv.uint64pow10" .u64 Lib.pow10Tab) (hE0 : expE x = 0) (hM0 : fracM x ≠ 0) : Calls Tryz.prog 54 #[v, .float .f64 x, .int .u8 103, .int .i64 (-1)] w (FtoPost W0 (finL (negF x) (fracM x) (-1022))) := by
  have hE := exp_bits x hx
  have hM := frac_bits x hx
  unfold negF
  obtain ⟨neg, hng⟩ : ∃ neg, ((x : Int) / 9223372036854775808 != 0) = neg := ⟨_, rfl⟩
  rw [hng]
  obtain ⟨m, hMM⟩ : ∃ m, fracM x = m := ⟨_, rfl⟩
  have hMlt : m < 4503599627370496 := by rw [← hMM]; unfold fracM; omega
  rw [hE0] at hE
  rw [hMM] at hM hM0 ⊢
  have hmz : ((m : Int) == 0) = false := by rw [beq_eq_false_iff_ne]; omega
  obtain ⟨ex, hex⟩ : ∃ ex : Int, -1022 = ex := ⟨_, rfl⟩
  have hx1 : -1022 ≤ ex ∧ ex ≤ 1023 := by omega
  have hm0 : 0 < m := by omega
  have hm53 : m < 9007199254740992 := by omega
  obtain ⟨L, hL⟩ : ∃ L, Lib.bitLen m = L := ⟨_, rfl⟩
  have hL0 := Lib.bitLenAux_bounds 64 m (by omega) (by omega)
  rw [show Lib.bitLenAux 64 m = L from hL] at hL0
  have hL1 := hL0.2.2
  have hL2 : L ≤ 53 := by rw [← hL]; exact Lib.bitLen_le m 53 (by omega) (by omega)
  have hL3 : 1 ≤ L := hL0.1
  clear hL0
  have hlen : ∀ w, Calls Tryz.prog 68 #[.int .u64 m] w fun e w' => e = .returned (.int .i64 (L : Int)) ∧ w' = w := fun w => by
    have := Tryz.bits_Len64 (m : Int) w (by omega) (by omega)
    rw [Int.toNat_natCast, hL] at this
    exact this
  obtain ⟨s, hs⟩ : ∃ s : Nat, (64 : Int) - (L : Int) = (s : Int) := ⟨64 - L, by omega⟩
  have hs1 : s ≤ 63 := by omega
  have hs0 : 1 ≤ s := by omega
  obtain ⟨P, hP⟩ : ∃ P, m * 2 ^ s = P := ⟨_, rfl⟩
  have hP64 : P < 18446744073709551616 := by
    rw [← hP, show (18446744073709551616 : Nat) = 2 ^ L * 2 ^ s by rw [← Nat.pow_add, show L + s = 64 by omega]]
    exact Nat.mul_lt_mul_of_pos_right hL1 (Nat.two_pow_pos s)
  have hPi : IntKind.u64.wrap ((m : Int) * 2 ^ s) = (P : Int) := by
    rw [show (m : Int) * 2 ^ s = (P : Int) by rw [← hP]; simp, IntKind.wrap_u64]
    omega
  obtain ⟨ee, hee⟩ : ∃ ee : Int, ex - (s : Int) - 52 = ee := ⟨_, rfl⟩
  have hee1 : -1137 ≤ ee := by omega
  have hee2 : ee ≤ 980 := by omega
  rw [hex]
  have hfin : finL neg m ex = efgL neg (digU (shortF P ee).1.toNat) (tz (digU (shortF P ee).1.toNat) (ndU (shortF P ee).1.toNat)) ((ndU (shortF P ee).1.toNat : Int) + (shortF P ee).2) := by
    unfold finL
    rw [hL, hs, show 64 - L = s by omega, hP, hee]
  rw [show finL neg m ex = _ from hfin]
  clear hfin
  obtain ⟨d1, d2, d3, d4⟩ := short_bd P ee hee1 hee2
  have hsh : ∀ w, PowTab w → Calls Tryz.prog 83 #[.int .u64 P, .int .i64 ee] w fun e' w' => e' = .returned (.tuple #[.int .u64 (shortF P ee).1, .int .i64 (shortF P ee).2]) ∧ Below w.heap.size w w' := fun w ht => short_any P ee hP64 hee1 hee2 w ht
  obtain ⟨u, hu⟩ : ∃ u : Nat, (shortF P ee).1 = (u : Int) := ⟨(shortF P ee).1.toNat, by omega⟩
  obtain ⟨p, hp⟩ : ∃ p, (shortF P ee).2 = p := ⟨_, rfl⟩
  rw [hu] at d1 d2
  rw [hp] at d3 d4
  simp only [hu, hp] at hsh
  simp only [hu, hp, Int.toNat_natCast]
  have HEE := Lib.hid (show (-1022 : Int) - (s : Int) - 52 = ee by omega)
  have HNE := Lib.hid (show v.ownBlock ≠ some w.heap.size by intro e; have := (hb.1.lt _ e).2; omega)
  have HLE := Lib.hid hb.2.2.1
  have HU : u < 18446744073709551616 := by omega
  have hnu := ndU_le u HU
  have htz := tz_le (digU u) (ndU u)
  have hdl := digU_len u
  obtain ⟨nd, hnd⟩ : ∃ nd : Nat, ndU u = nd := ⟨_, rfl⟩
  obtain ⟨D, hD⟩ : ∃ D, digU u = D := ⟨_, rfl⟩
  obtain ⟨td, htd⟩ : ∃ td : Nat, tz D nd = td := ⟨_, rfl⟩
  have hnum : ∀ w, Lib.TabIs Tryz.prog w "internal/strconv.uint64pow10" .u64 Lib.pow10Tab → Calls Tryz.prog 50 #[.int .u64 u] w fun e w' => e = .returned (.int .i64 nd) ∧ w = w' := fun w h => by rw [← hnd]; exact numDigits_any u HU w h
  have hset : ∀ (bb : Nat) (w : World), (∀ i, i < 32 → w.cell? ⟨bb, i, none⟩ = some (.int .u8 0) ∧ w.frozen? ⟨bb, i, none⟩ = false) → Calls Tryz.prog 78 #[.slice (some ⟨bb, 0, none⟩) 32 32, .int .u64 u, .int .i64 p, .int .i64 nd] w fun e w' => e = .returned (.tuple #[.int .i64 ((nd : Int) + p), .int .i64 td]) ∧ w.grownBy w' (some bb) ∧ Digs w' bb D := fun bb w hz => by
    have := setDigits_any u p bb HU (by omega) (by omega) w hz
    rw [hnd, hD, htd] at this
    exact this
  rw [hD, hnd] at htz
  rw [htd] at htz
  rw [hD, hnd] at hdl
  rw [hnd] at hnu
  rw [hD, hnd, htd]
  have HNUM := Lib.hid hnum
  have HSET := Lib.hid hset
  clear hnum hset hnd hD htd
  have HLEN := Lib.hid hlen
  have HSH := Lib.hid hsh
  have HP := Lib.hid hP
  have HPT := Lib.hid hpt
  have HB := Lib.hid hb
  have HTB := Lib.hid htb
  clear hlen hsh hu hp hee hP hL hL1 hpt hb htb hMM hex hE0
  go_enter Tryz.func54, Tryz.ntmps54
  go_wp2
  go_region
  go_wp2_with fail
  go_at_call 68; refine (HLEN.out _).mono ?_; rintro e' w1 ⟨rfl, rfl⟩
  go_wp2_with fail
  rw [HEE.out]
  have HB1 := Lib.hid (show Below w.heap.size w ((w.alloc (.cells #[.int .u8 0, .int .u8 0, .int .u8 0, .int .u8 0, .int .u8 0, .int .u8 0, .int .u8 0, .int .u8 0, .int .u8 0, .int .u8 0, .int .u8 0, .int .u8 0, .int .u8 0, .int .u8 0, .int .u8 0, .int .u8 0, .int .u8 0, .int .u8 0, .int .u8 0, .int .u8 0, .int .u8 0, .int .u8 0, .int .u8 0, .int .u8 0, .int .u8 0, .int .u8 0, .int .u8 0, .int .u8 0, .int .u8 0, .int .u8 0, .int .u8 0, .int .u8 0] 114)).drew) by exact bel_drewN 1 ((Below.refl _ _).alloc (Nat.le_refl _) _))
  have HR1 := Lib.hid (show ((w.alloc (.cells #[.int .u8 0, .int .u8 0, .int .u8 0, .int .u8 0, .int .u8 0, .int .u8 0, .int .u8 0, .int .u8 0, .int .u8 0, .int .u8 0, .int .u8 0, .int .u8 0, .int .u8 0, .int .u8 0, .int .u8 0, .int .u8 0, .int .u8 0, .int .u8 0, .int .u8 0, .int .u8 0, .int .u8 0, .int .u8 0, .int .u8 0, .int .u8 0, .int .u8 0, .int .u8 0, .int .u8 0, .int .u8 0, .int .u8 0, .int .u8 0, .int .u8 0, .int .u8 0] 114)).drew).heap[w.heap.size]? = some (.cells #[.int .u8 0, .int .u8 0, .int .u8 0, .int .u8 0, .int .u8 0, .int .u8 0, .int .u8 0, .int .u8 0, .int .u8 0, .int .u8 0, .int .u8 0, .int .u8 0, .int .u8 0, .int .u8 0, .int .u8 0, .int .u8 0, .int .u8 0, .int .u8 0, .int .u8 0, .int .u8 0, .int .u8 0, .int .u8 0, .int .u8 0, .int .u8 0, .int .u8 0, .int .u8 0, .int .u8 0, .int .u8 0, .int .u8 0, .int .u8 0, .int .u8 0, .int .u8 0] 114 (0, 0)) from row_alloc w _ _)
  go_at_call 83; refine (HSH.out _ (powTab_keep HPT.out HB1.out)).mono ?_; rintro e' w2 ⟨rfl, hw2⟩
  have HB2 := Lib.hid (bel_step HB1.out hw2)
  have HR2 := Lib.hid (row_step HR1.out hw2)
  clear hw2
  have HT2 := Lib.hid ((Lib.tabBelow_of_tabIs HTB.out) w2 HB2.out)
  have HG2 := Lib.hid (show ∀ n : Nat, ∀ i, i < 32 → (w2.drewN n).cell? ⟨w.heap.size, i, none⟩ = some (.int .u8 0) ∧ (w2.drewN n).frozen? ⟨w.heap.size, i, none⟩ = false by
    intro n i hi
    refine ⟨?_, row_frz (w := w2) HR2.out i⟩
    rw [World.cell?_drewN, row_cell HR2.out i]
    exact zero32 i hi)
  have HBU := Lib.hid (bu_below HB.out HB2.out)
  have hsz2 : w.heap.size < w2.heap.size := row_lt HR2.out
  go_wp2_with fail
  go_region_with (first
    | (go_at_call 50; refine (HNUM.out _ (by first | exact HT2.out | exact tab_drewN HT2.out _)).mono ?_; rintro e' w3 ⟨rfl, rfl⟩)
    | (go_at_call 78; refine (HSET.out _ _ (by first | exact HG2.out 1 | exact HG2.out _)).mono ?_; rintro e' w4 ⟨rfl, hg4, hd4⟩; have HG4 := Lib.hid hg4; have HD4 := Lib.hid hd4; clear hg4 hd4))
  have HB4 := Lib.hid (bu_on (by first | exact HBU.out | exact bu_drew HBU.out | exact bu_drewN HBU.out _) HG4.out HNE.out HLE.out HD4.out)
  have hsz4 : w.heap.size < w4.heap.size := by have h : w2.heap.size ≤ w4.heap.size := HG4.out.size; omega
  go_wp2_with fail
  go_at_call 76; refine (efg_any neg W0 _ v [] w.heap.size D 0 td (nd + p) (by first | exact HB4.out | exact bu_drew HB4.out | exact bu_drewN HB4.out _) hsz4 (by omega) (by omega) (by omega) (by omega) (by omega)).mono ?_; rintro e' w5 ⟨v', N', rfl, hN', hB'⟩
  go_wp2
  go_ret
  exact ⟨_, _, rfl, by omega, bu_zero hB' h0⟩
/-- The bytes of a float's shortest decimal text. -/
def ffmt (x : Nat) : List Int :=
  if expE x = 2047 then (if fracM x = 0 then (if negF x = true then [45, 73, 110, 102] else [43, 73, 110, 102]) else [78, 97, 78])
  else if expE x = 0 then (if fracM x = 0 then sgnI (negF x) ++ [48] else finL (negF x) (fracM x) (-1022))
  else finL (negF x) (fracM x + 4503599627370496) ((expE x : Int) + -1023)
theorem ftoa_any (x : Nat) (hx : x < 18446744073709551616) (W0 w : World) (v : Value) (h0 : 0 < W0.heap.size) (hb : Bu W0 w v [] 0 [] 0) (hpt : PowTab w) (htb : Lib.TabIs Tryz.prog w "internal/strconv.uint64pow10" .u64 Lib.pow10Tab) : Calls Tryz.prog 54 #[v, .float .f64 x, .int .u8 103, .int .i64 (-1)] w (FtoPost W0 (ffmt x)) := by
  unfold ffmt
  by_cases h1 : expE x = 2047
  · rw [if_pos h1]
    by_cases h2 : fracM x = 0
    · rw [if_pos h2]; exact ftoa_inf x hx W0 w v h0 hb h1 h2
    · rw [if_neg h2]; exact ftoa_nan x hx W0 w v h0 hb h1 h2
  · rw [if_neg h1]
    by_cases h3 : expE x = 0
    · rw [if_pos h3]
      by_cases h2 : fracM x = 0
      · rw [if_pos h2]; exact ftoa_zero x hx W0 w v h0 hb h3 h2
      · rw [if_neg h2]; exact ftoa_sub x hx W0 w v h0 hb hpt htb h3 h2
    · rw [if_neg h3]; exact ftoa_nor x hx W0 w v h0 hb hpt htb h3 h1
end Num
end Go.Proofs.YtahcgdjcjapnkaaGreatDoor
