/-
  What the shortest decimal texts of floats are made of: plain facts, for every float.
-/
import Derived.Test.YtahcgdjcjapnkaaGreatDoorVTxt
namespace Go.Proofs.YtahcgdjcjapnkaaGreatDoor
open Go.RowKit
namespace Num
open Ints
set_option linter.unusedSimpArgs false
set_option linter.unusedVariables false
def Dig (D : List UInt8) : Prop := ∀ b ∈ D, 48 ≤ b.toNat ∧ b.toNat ≤ 57
def Asc (L : List Int) : Prop := ∀ c ∈ L, 0 ≤ c ∧ c < 128
def PlainC (c : Int) : Prop := (48 ≤ c ∧ c ≤ 57) ∨ c = 45
def Pln (L : List Int) : Prop := ∀ c ∈ L, PlainC c
def Good (L : List Int) : Prop := Asc L ∧ L.length ≤ 2000 ∧ (46 ∈ L ∨ 101 ∈ L ∨ Pln L)
theorem dig_digU (u : Nat) : Dig (digU u) := by
  intro b hb
  unfold digU at hb
  split at hb
  · cases hb
  · rw [Lib.decDigits_eq] at hb
    obtain ⟨t, _, rfl⟩ := List.mem_map.1 hb
    unfold Lib.dg
    rw [UInt8.toNat_ofNat']
    omega
theorem dig_bytes {D : List UInt8} (h : Dig D) : ∀ c ∈ bytesI D, 48 ≤ c ∧ c ≤ 57 := by
  intro c hc
  obtain ⟨b, hb, rfl⟩ := List.mem_map.1 hc
  have := h b hb
  omega
theorem dig_take {D : List UInt8} (h : Dig D) (n : Nat) : Dig (D.take n) := fun b hb => h b (List.mem_of_mem_take hb)
theorem dig_drop {D : List UInt8} (h : Dig D) (n : Nat) : Dig (D.drop n) := fun b hb => h b (List.mem_of_mem_drop hb)
theorem asc_app {A B : List Int} (h : Asc A) (k : Asc B) : Asc (A ++ B) := fun c hc => (List.mem_append.1 hc).elim (h c) (k c)
theorem asc_one {c : Int} (h : 0 ≤ c ∧ c < 128) : Asc [c] := fun x hx => by rw [List.mem_singleton.1 hx]; exact h
theorem asc_nil : Asc [] := fun x hx => by cases hx
theorem asc_dig {D : List UInt8} (h : Dig D) : Asc (bytesI D) := fun c hc => by have := dig_bytes h c hc; omega
theorem asc_sgn (neg : Bool) : Asc (sgnI neg) := by
  cases neg
  · exact asc_nil
  · exact asc_one (by omega)
theorem asc_exp (x : Int) (h0 : 0 ≤ x) (h1 : x ≤ 700) : Asc (expD x) := by
  unfold expD
  split
  · exact fun c hc => by simp at hc; omega
  · split
    · exact fun c hc => by simp at hc; omega
    · exact fun c hc => by simp at hc; omega
theorem exp_len (x : Int) : (expD x).length ≤ 3 := by unfold expD; split <;> (try split) <;> simp
theorem sgn_len (neg : Bool) : (sgnI neg).length ≤ 1 := by cases neg <;> simp [sgnI]
theorem bytes_len (D : List UInt8) : (bytesI D).length = D.length := by unfold bytesI; rw [List.length_map]
theorem pln_app {A B : List Int} (h : Pln A) (k : Pln B) : Pln (A ++ B) := fun c hc => (List.mem_append.1 hc).elim (h c) (k c)
theorem pln_sgn (neg : Bool) : Pln (sgnI neg) := by
  intro c hc
  cases neg
  · cases hc
  · simp [sgnI] at hc; exact Or.inr hc
theorem pln_dig {D : List UInt8} (h : Dig D) : Pln (bytesI D) := fun c hc => Or.inl (dig_bytes h c hc)
theorem efe_good (neg : Bool) (D : List UInt8) (nd : Nat) (dp : Int) (hD : Dig D) (hn : nd ≤ D.length) (h20 : nd ≤ 20) (h1 : -400 ≤ dp) (h2 : dp ≤ 400) : Good (efeL neg D nd dp) := by
  have e1 : ∃ x : Int, (if nd = 0 then 0 else dp - 1) = x ∧ -401 ≤ x ∧ x ≤ 400 := ⟨_, rfl, by split <;> omega, by split <;> omega⟩
  obtain ⟨x, hx, hx1, hx2⟩ := e1
  unfold efeL
  rw [hx]
  have hd : Asc [if nd = 0 then 48 else ((D.getD 0 0).toNat : Int)] := by
    apply asc_one
    split
    · omega
    · have hl : 0 < D.length := by omega
      have := hD (D[0]) (List.getElem_mem hl)
      rw [List.getD_eq_getElem?_getD, List.getElem?_eq_getElem hl]
      simp
      omega
  have hf : Asc (if 2 ≤ nd then [46] ++ bytesI ((D.drop 1).take (nd - 1)) else []) := by
    split
    · exact asc_app (asc_one (by omega)) (asc_dig (dig_take (dig_drop hD _) _))
    · exact asc_nil
  have hs : Asc [if x < 0 then (45 : Int) else 43] := asc_one (by split <;> omega)
  have hfl : (if 2 ≤ nd then [46] ++ bytesI ((D.drop 1).take (nd - 1)) else []).length ≤ 30 := by
    split
    · rw [List.length_append, bytes_len, List.length_take]; simp; omega
    · simp
  refine ⟨asc_app (asc_app (asc_app (asc_app (asc_app (asc_sgn neg) hd) hf) (asc_one (by omega))) hs) (asc_exp _ (by split <;> omega) (by split <;> omega)), ?_, Or.inr (Or.inl ?_)⟩
  · simp only [List.length_append, List.length_singleton]
    have := sgn_len neg
    have := exp_len (if x < 0 then -x else x)
    omega
  · simp
theorem fdf_good (neg : Bool) (D : List UInt8) (nd : Nat) (dp : Int) (hD : Dig D) (hn : nd ≤ D.length) (h20 : nd ≤ 20) (h1 : -400 ≤ dp) (h2 : dp ≤ 400) : Good (fdfL neg D nd dp) := by
  have h48 : ∀ n, Asc (List.replicate n (48 : Int)) := fun n c hc => by rw [List.eq_of_mem_replicate hc]; omega
  have p48 : ∀ n, Pln (List.replicate n (48 : Int)) := fun n c hc => by rw [List.eq_of_mem_replicate hc]; exact Or.inl (by omega)
  unfold fdfL
  have hsl := sgn_len neg
  by_cases h0 : 0 < dp
  · rw [if_pos h0]
    have a1 : Asc (bytesI (D.take (min nd dp.toNat)) ++ List.replicate (dp.toNat - nd) 48) := asc_app (asc_dig (dig_take hD _)) (h48 _)
    have l1 : (bytesI (D.take (min nd dp.toNat)) ++ List.replicate (dp.toNat - nd) (48 : Int)).length ≤ 500 := by rw [List.length_append, bytes_len, List.length_take, List.length_replicate]; omega
    by_cases h3 : dp.toNat < nd
    · rw [if_pos h3]
      refine ⟨asc_app (asc_sgn neg) (asc_app a1 (asc_app (asc_one (by omega)) (asc_dig (dig_take (dig_drop hD _) _)))), ?_, Or.inl (by simp)⟩
      simp only [List.length_append, bytes_len, List.length_take, List.length_cons, List.length_nil, List.length_replicate]
      omega
    · rw [if_neg h3, List.append_nil]
      refine ⟨asc_app (asc_sgn neg) a1, by rw [List.length_append]; omega, Or.inr (Or.inr (pln_app (pln_sgn neg) (pln_app (pln_dig (dig_take hD _)) (p48 _))))⟩
  · rw [if_neg h0]
    by_cases h3 : 0 < (nd : Int) - dp
    · rw [if_pos h3]
      refine ⟨asc_app (asc_sgn neg) (asc_app (asc_one (by omega)) (asc_app (asc_app (asc_one (by omega)) (h48 _)) (asc_dig (dig_take hD _)))), ?_, Or.inl (by simp)⟩
      simp only [List.length_append, bytes_len, List.length_take, List.length_singleton, List.length_replicate]
      omega
    · rw [if_neg h3, List.append_nil]
      exact ⟨asc_app (asc_sgn neg) (asc_one (by omega)), by rw [List.length_append]; simp; omega, Or.inr (Or.inr (pln_app (pln_sgn neg) (fun c hc => by rw [List.mem_singleton.1 hc]; exact Or.inl (by omega))))⟩
theorem efg_good (neg : Bool) (D : List UInt8) (nd : Nat) (dp : Int) (hD : Dig D) (hn : nd ≤ D.length) (h20 : nd ≤ 20) (h1 : -400 ≤ dp) (h2 : dp ≤ 400) : Good (efgL neg D nd dp) := by
  unfold efgL
  split
  · exact efe_good neg D nd dp hD hn h20 h1 h2
  · exact fdf_good neg D nd dp hD hn h20 h1 h2
theorem fin_good (neg : Bool) (m : Nat) (ex : Int) (hm0 : 0 < m) (hm : m < 9007199254740992) (h1 : -1022 ≤ ex) (h2 : ex ≤ 1023) : Good (finL neg m ex) := by
  unfold finL
  have hb := Lib.bitLenAux_bounds 64 m (by omega) (by omega)
  have hL2 : Lib.bitLen m ≤ 53 := Lib.bitLen_le m 53 (by omega) (by omega)
  have hL3 : 1 ≤ Lib.bitLen m := hb.1
  obtain ⟨L, hL⟩ : ∃ L, Lib.bitLen m = L := ⟨_, rfl⟩
  rw [hL] at hL2 hL3 ⊢
  have hs := short_bd (m * 2 ^ (64 - L)) (ex - (64 - (L : Int)) - 52) (by omega) (by omega)
  obtain ⟨q, hq⟩ : ∃ q, shortF (m * 2 ^ (64 - L)) (ex - (64 - (L : Int)) - 52) = q := ⟨_, rfl⟩
  rw [hq] at hs ⊢
  have hk : q.1.toNat < 18446744073709551616 := by omega
  have hnd := ndU_le q.1.toNat hk
  have htz := tz_le (digU q.1.toNat) (ndU q.1.toNat)
  exact efg_good neg _ _ _ (dig_digU _) (by rw [digU_len]; exact htz) (by omega) (by omega) (by omega)
theorem order_le (y : Nat) (h : y < 9218868437227405312) : (FloatKind.f64.format.order y 9218868437227405311 == some .gt) = false := by
  have h0 : FloatKind.f64.format.signWeight = 9223372036854775808 := by decide +kernel
  have h1 : FloatKind.f64.format.binade = 4503599627370496 := by decide +kernel
  have h2 : FloatKind.f64.format.infRung = 9218868437227405312 := by decide +kernel
  have h3 : FloatKind.f64.format.leastPlace = -1074 := by decide +kernel
  have hM : FloatKind.f64.format.read 9218868437227405311 = .number false 9007199254740991 971 := by decide +kernel
  have key : ∀ (m : Nat) (i : Int), m ≤ 9007199254740991 → i ≤ 971 → ((Ieee.Datum.number false m i).order (.number false 9007199254740991 971) == some .gt) = false := by
    intro m i hm hi
    simp only [Ieee.Datum.order, Ieee.signed]
    rw [Int.min_eq_left hi]
    rw [show (i - i).toNat = 0 by omega, if_neg (by decide), if_neg (by decide), Nat.shiftLeft_zero, Nat.shiftLeft_eq]
    have hle : (m : Int) ≤ ((9007199254740991 * 2 ^ (971 - i).toNat : Nat) : Int) := by
      have : 9007199254740991 * 1 ≤ 9007199254740991 * 2 ^ (971 - i).toNat := Nat.mul_le_mul_left _ (Nat.one_le_two_pow)
      omega
    generalize ((9007199254740991 * 2 ^ (971 - i).toNat : Nat) : Int) = b at hle
    generalize (m : Int) = a at hle
    rcases Int.lt_or_eq_of_le hle with h | h
    · simp [compare, compareOfLessAndEq, h]
    · subst h
      simp [compare, compareOfLessAndEq]
  unfold Ieee.Format.order
  rw [hM]
  unfold Ieee.Format.read
  simp only [h0, h1, h2, h3]
  rw [show y % 9223372036854775808 = y by omega, show (y / 9223372036854775808 % 2 == 1) = false by simp; omega]
  split
  · exact key y _ (by omega) (by omega)
  · exact key _ _ (by omega) (by omega)
theorem feq_numT (x : Nat) (h : x % 9223372036854775808 ≤ 9218868437227405312) : Flo.feq x x = true := by
  have h0 : FloatKind.f64.format.signWeight = 9223372036854775808 := by decide +kernel
  have h1 : FloatKind.f64.format.binade = 4503599627370496 := by decide +kernel
  have h2 : FloatKind.f64.format.infRung = 9218868437227405312 := by decide +kernel
  apply Flo.feq_self
  unfold Ieee.Format.read
  simp only [h0, h1, h2]
  split
  · rfl
  · split
    · rfl
    · split
      · rfl
      · omega
theorem feq_notT (x : Nat) (h : 9218868437227405312 < x % 9223372036854775808) : Flo.feq x x = false := by
  have h0 : FloatKind.f64.format.signWeight = 9223372036854775808 := by decide +kernel
  have h1 : FloatKind.f64.format.binade = 4503599627370496 := by decide +kernel
  have h2 : FloatKind.f64.format.infRung = 9218868437227405312 := by decide +kernel
  apply Flo.feq_nan
  unfold Ieee.Format.read
  simp only [h0, h1, h2]
  rw [if_neg (by omega), if_neg (by omega), if_neg (by omega)]
  rfl
theorem nanB_of (x : Nat) : nanB x = !Flo.feq x x := rfl
theorem inf_fin (x : Nat) (h : x % 9223372036854775808 < 9218868437227405312) : isInfB x = false := order_le _ h
theorem inf_inf (x : Nat) (h : x % 9223372036854775808 = 9218868437227405312) : isInfB x = true := by
  unfold isInfB
  rw [h]
  decide +kernel
/-- A finite float's text. -/
theorem ffmt_fin (x : Nat) (h : x % 9223372036854775808 < 9218868437227405312) : Good (ffmt x) := by
  have he : expE x ≠ 2047 := by unfold expE; omega
  unfold ffmt
  rw [if_neg he]
  by_cases h0 : expE x = 0
  · rw [if_pos h0]
    by_cases hf : fracM x = 0
    · rw [if_pos hf]
      refine ⟨asc_app (asc_sgn _) (asc_one (by omega)), ?_, Or.inr (Or.inr (pln_app (pln_sgn _) (fun c hc => by rw [List.mem_singleton.1 hc]; exact Or.inl (by omega))))⟩
      have := sgn_len (negF x)
      rw [List.length_append]; simp; omega
    · rw [if_neg hf]
      exact fin_good _ _ _ (by omega) (by unfold fracM; omega) (by omega) (by omega)
  · rw [if_neg h0]
    have hE : expE x < 2048 := by unfold expE; omega
    exact fin_good _ _ _ (by omega) (by unfold fracM; omega) (by omega) (by omega)
theorem ffmt_inf (x : Nat) (h : x % 9223372036854775808 = 9218868437227405312) : ffmt x = [45, 73, 110, 102] ∨ ffmt x = [43, 73, 110, 102] := by
  unfold ffmt
  rw [if_pos (by unfold expE; omega), if_pos (by unfold fracM; omega)]
  split
  · exact Or.inl rfl
  · exact Or.inr rfl
theorem ffmt_nan (x : Nat) (h : 9218868437227405312 < x % 9223372036854775808) : ffmt x = [78, 97, 78] := by
  unfold ffmt
  rw [if_pos (by unfold expE; omega), if_neg (by unfold fracM; omega)]
theorem ffmt_asc (x : Nat) : Asc (ffmt x) ∧ (ffmt x).length ≤ 2000 := by
  by_cases h1 : x % 9223372036854775808 < 9218868437227405312
  · exact ⟨(ffmt_fin x h1).1, (ffmt_fin x h1).2.1⟩
  · by_cases h2 : x % 9223372036854775808 = 9218868437227405312
    · rcases ffmt_inf x h2 with h | h <;> rw [h] <;> exact ⟨fun c hc => by simp at hc; omega, by simp⟩
    · rw [ffmt_nan x (by omega)]
      exact ⟨fun c hc => by simp at hc; omega, by simp⟩
theorem strOfI_list (X : List Int) : (strOfI X).data.toList = X.map fun c => UInt8.ofNat c.toNat := rfl
theorem strOfI_size (X : List Int) : (strOfI X).size = X.length := by simp [strOfI, ByteArray.size]
theorem ascii_all (x : Nat) : Ascii x := by
  obtain ⟨h1, h2⟩ := ffmt_asc x
  refine ⟨by rw [strOfI_size]; omega, fun j b hb => ?_⟩
  rw [strOfI_list, List.getElem?_map] at hb
  obtain ⟨c, hc, rfl⟩ := Option.map_eq_some_iff.1 hb
  have := h1 c (List.mem_of_getElem? hc)
  rw [UInt8.toNat_ofNat']
  omega
/-- Is a point or an e among the bytes? -/
theorem dotE_iff (x : Nat) : dotE x = true ↔ 46 ∈ ffmt x ∨ 101 ∈ ffmt x := by
  unfold dotE
  rw [strOfI_list]
  have hasc := (ffmt_asc x).1
  generalize ffmt x = L at hasc
  induction L with
  | nil => simp [Lib.containsAny, Lib.indexAny]
  | cons c L ih =>
    have hc := hasc c (List.mem_cons_self ..)
    have ih := ih (fun x hx => hasc x (List.mem_cons_of_mem _ hx))
    rw [List.map_cons]
    have hb : ([46, 101] : List UInt8).contains (UInt8.ofNat c.toNat) = true ↔ (c = 46 ∨ c = 101) := by
      obtain ⟨n, rfl⟩ : ∃ n : Nat, c = (n : Int) := ⟨c.toNat, by omega⟩
      simp only [List.contains_cons, List.contains_nil, Bool.or_false, Bool.or_eq_true, beq_iff_eq, Int.toNat_natCast]
      constructor
      · rintro (h | h)
        · have := congrArg UInt8.toNat h
          rw [UInt8.toNat_ofNat'] at this
          have e : (46 : UInt8).toNat = 46 := rfl
          omega
        · have := congrArg UInt8.toNat h
          rw [UInt8.toNat_ofNat'] at this
          have e : (101 : UInt8).toNat = 101 := rfl
          omega
      · rintro (h | h)
        · left; rw [show n = 46 by omega]; rfl
        · right; rw [show n = 101 by omega]; rfl
    unfold Lib.containsAny at ih ⊢
    unfold Lib.indexAny
    by_cases hh : ([46, 101] : List UInt8).contains (UInt8.ofNat c.toNat) = true
    · rw [if_pos hh]
      have := hb.1 hh
      simp only [decide_eq_true_eq, List.mem_cons]
      constructor
      · intro _
        rcases this with rfl | rfl
        · exact Or.inl (Or.inl rfl)
        · exact Or.inr (Or.inl rfl)
      · intro _; omega
    · rw [if_neg hh]
      have hn : ¬ (c = 46 ∨ c = 101) := fun e => hh (hb.2 e)
      have e1 : (46 ∈ c :: L ∨ 101 ∈ c :: L) ↔ (46 ∈ L ∨ 101 ∈ L) := by
        simp only [List.mem_cons]
        constructor
        · rintro ((h | h) | (h | h))
          · exact absurd (Or.inl h.symm) hn
          · exact Or.inl h
          · exact absurd (Or.inr h.symm) hn
          · exact Or.inr h
        · rintro (h | h)
          · exact Or.inl (Or.inr h)
          · exact Or.inr (Or.inr h)
      rw [e1]
      refine Iff.trans ?_ ih
      have hge := Lib.indexAny_ge [46, 101] (L.map fun c => UInt8.ofNat c.toNat)
      simp only [decide_eq_true_eq]
      split
      · rename_i h
        have : Lib.indexAny (L.map fun c => UInt8.ofNat c.toNat) [46, 101] = -1 := by simpa using h
        omega
      · rename_i h
        have : ¬ Lib.indexAny (L.map fun c => UInt8.ofNat c.toNat) [46, 101] = -1 := by simpa using h
        omega
end Num
end Go.Proofs.YtahcgdjcjapnkaaGreatDoor
