/-
  What the reference puts of any value.
-/
import Derived.Test.YtbodakfgoijeeaaMN
namespace Go.Proofs.Ytbodakfgoijeeaa
open Go.RowKit
namespace Num
open Ints
set_option linter.unusedSimpArgs false
set_option linter.unusedVariables false
def listY (n m : Nat) (L : List (VT n)) (k : Nat) : List Int := 4 :: IntKind.u8.wrap (m : Int) :: (L.take k).flatMap (encV n)
theorem listY_succ {n m k : Nat} {L : List (VT n)} (h : k < L.length) : listY n m L (k + 1) = listY n m L k ++ encV n L[k] := by
  unfold listY
  rw [List.take_succ_eq_append_getElem h, List.flatMap_append]
  simp
theorem listY_le {n m k : Nat} {L : List (VT n)} : (listY n m L k).length ≤ 2 + (L.flatMap (encV n)).length := by
  unfold listY
  rw [List.length_cons, List.length_cons]
  have h : L.flatMap (encV n) = (L.take k).flatMap (encV n) ++ (L.drop k).flatMap (encV n) := by rw [← List.flatMap_append, List.take_append_drop]
  rw [h, List.length_append]
  omega
theorem listY_all {n m : Nat} {K I : Int} {F : Nat} {S : ByteArray} {L : List (VT n)} (h4 : K = 4) (h : L.length = m) : listY n m L m = encV (n + 1) (K, I, F, S, L) := by
  subst h4
  subst h
  unfold listY
  rw [List.take_length]
  rfl
def PutAny (n : Nat) : Prop := ∀ (v : Value) (T : VT n) (W0 w : World) (p : Option Addr) (l c : Nat) (X : List Int), Rep W0 n v T → InB W0 w p l c X → l + (encV n T).length ≤ 900000 → Calls Try.prog 20 #[.slice p l c, v] w (PutPost W0 w l X (encV n T))
set_option maxRecDepth 100000 in
set_option maxHeartbeats 4000000 in
theorem put_list (n : Nat) (ih : PutAny n) (W0 w : World) (p : Option Addr) (l c : Nat) (X : List Int) (I : Int) (F : Nat) (S : ByteArray) (L : List (VT n)) (q : Option Addr) (m d : Nat) (hb : InB W0 w p l c X) (hl : L.length = m) (hel : 0 < m → ∃ b off, q = some ⟨b, off, none⟩ ∧ ∀ i (h : i < L.length), ∃ v0 v1 v2 v3 v4, W0.cell? ⟨b, off + i * 5, none⟩ = some v0 ∧ W0.cell? ⟨b, off + i * 5 + 1, none⟩ = some v1 ∧ W0.cell? ⟨b, off + i * 5 + 2, none⟩ = some v2 ∧ W0.cell? ⟨b, off + i * 5 + 3, none⟩ = some v3 ∧ W0.cell? ⟨b, off + i * 5 + 4, none⟩ = some v4 ∧ Rep W0 n (.agg #[v0, v1, v2, v3, v4]) L[i]) (hmd : m ≤ d) (hd : d ≤ 9223372036854775807) (hlen : l + (2 + (L.flatMap (encV n)).length) ≤ 900000) :
    Calls Try.prog 20 #[.slice p l c, .agg #[.int .i64 4, .int .i64 I, .float .f64 F, .string S, .slice q m d]] w (PutPost W0 w l X (listY n m L m)) := by
  have IH := Lib.hid ih
  have HO := Lib.hid (in_keep hb ((Below.refl w.heap.size w).alloc (Nat.le_refl _) (.cells #[.int .i64 4, .int .i64 I, .float .f64 F, .string S, .slice q m d] 26)))
  have HV := Lib.hid (kv_alloc w (.cells #[.int .i64 4, .int .i64 I, .float .f64 F, .string S, .slice q m d] 26))
  have RB := Lib.hid (row_alloc w #[.int .i64 4, .int .i64 I, .float .f64 F, .string S, .slice q m d] 26)
  have HE := Lib.hid hel
  have HL := Lib.hid hl
  have HN := Lib.hid hlen
  have hl8 : l ≤ 900000 := by omega
  clear hb ih hel hl hlen
  go_enter Try.func20, Try.ntmps20
  go_wp2_with (first
    | (at_builtin; refine wp_kin1 rfl (.tmp 15) (.tmp 18) rfl W0 _ p l c X 4 rfl (congrArg (fun z => Value.slice (some ⟨z, 0, none⟩) 1 1) (World.size_alloc w (.cells #[.int .i64 4, .int .i64 I, .float .f64 F, .string S, .slice q m d] 26)).symm) HO.out (by omega) ?_; intro p2 c2 w2 ho2 hv2; have HO2 := Lib.hid ho2; have HV2 := Lib.hid (kv_trans HV.out hv2); have HVB := Lib.hid hv2; have RB2 := hv2 _ _ RB.out; have r4 := row_cell RB2 4; simp only [List.getElem?_toArray, List.getElem?_cons_zero, List.getElem?_cons_succ] at r4; clear ho2 hv2 RB2)
    | (at_builtin; refine wp_kb1 rfl _ _ rfl W0 w2 p2 (l + 1) c2 (X ++ [4]) _ rfl rfl HO2.out (by omega) ?_; intro p3 c3 w3 ho3 hv3; have HO3 := Lib.hid ho3; have HV3 := Lib.hid (kv_trans HV2.out hv3); have RB3 := Lib.hid (hv3 _ _ (HVB.out _ _ RB.out)); clear ho3 hv3 r4))
  go_loopw [0, 6] (fun v i wr => ∃ (k l' : Nat) (p' : Option Addr) (c' : Nat), k ≤ m ∧ i = .int .i64 (k : Int) ∧ v = .slice p' l' c' ∧ OwB W0 wr p' l' c' (X ++ listY n m L k) ∧ KeepV w wr ∧ l' = l + (listY n m L k).length ∧ wr.heap[w.heap.size]? = some (.cells #[.int .i64 4, .int .i64 I, .float .f64 F, .string S, .slice q m d] 26 (0, 0))) (fun _ i _ => m - (intOf i).toNat)
  case atStart => exact ⟨0, l + 1 + 1, p3, c3, Nat.zero_le _, rfl, rfl, by have h := HO3.out; rw [List.append_assoc] at h; exact h, HV3.out, rfl, RB3.out⟩
  case round =>
    obtain ⟨k, l', p', c', hk, rfl, rfl, ho, hkv, hlz, hrw⟩ := hrel
    have HBW := Lib.hid (ow_bel ho)
    have HO4 := Lib.hid ho
    have HV4 := Lib.hid hkv
    have HZ := Lib.hid hlz
    have HR4 := Lib.hid hrw
    have r4 := row_cell hrw 4
    simp only [List.getElem?_toArray, List.getElem?_cons_zero, List.getElem?_cons_succ] at r4
    clear ho hkv hlz hrw RB3 HO3 HV3
    by_cases hlt : k < m
    · obtain ⟨b, off, hp, hi⟩ := HE.out (by omega)
      subst hp
      have hkl : k < L.length := by have := HL.out; omega
      obtain ⟨v0, v1, v2, v3, v4, c0, c1, c2', c3', c4, hr⟩ := hi k hkl
      have HRr := Lib.hid hr
      have e0 := cell_keep HBW.out c0
      have e1 := cell_keep HBW.out c1
      have e2 := cell_keep HBW.out c2'
      have e3 := cell_keep HBW.out c3'
      have e4 := cell_keep HBW.out c4
      have HLn := Lib.hid (show l' + (encV n L[k]).length ≤ 900000 by
        have h1 := HN.out; have h2 := HZ.out
        have h3 := listY_le (n := n) (m := m) (k := k + 1) (L := L)
        rw [listY_succ hkl, List.length_append] at h3
        omega)
      have HY := Lib.hid (listY_succ (m := m) hkl)
      have hk0 : (0 : Int) ≤ (k : Int) := by omega
      have hkl2 : (k : Int) < (m : Int) := by omega
      clear c0 c1 c2' c3' c4 hr hi
      go_wp2_with fail
      go_at_call 20; refine (IH.out _ _ W0 _ _ _ _ _ HRr.out (Or.inl HO4.out) HLn.out).mono ?_; rintro e w5 ⟨p5, c5, rfl, ho5, hv5⟩
      have HO5 := Lib.hid (show OwB W0 w5 p5 (l' + (encV n L[k]).length) c5 (X ++ listY n m L (k + 1)) by rw [HY.out, ← List.append_assoc]; exact ho5)
      have HV5 := Lib.hid (kv_trans HV4.out hv5)
      have HR5 := Lib.hid (hv5 _ _ HR4.out)
      have HZ5 := Lib.hid (show l' + (encV n L[k]).length = l + (listY n m L (k + 1)).length by have h2 := HZ.out; rw [HY.out, List.length_append]; omega)
      generalize l' + (encV n L[k]).length = l5 at *
      clear ho5 hv5 e0 e1 e2 e3 e4 r4 HO4 HV4 HR4 HBW HRr HLn HY
      go_wp2
      go_roundw
      case rel => exact ⟨k + 1, l5, p5, c5, by omega, by go_num, rfl, HO5.out, HV5.out, HZ5.out, HR5.out⟩
      case measure => simp [intOf]; omega
    · have hkm : k = m := by omega
      have HP := Lib.hid (show PutPost W0 w l X (listY n m L m) (.returned (.slice p' l' c')) wr by
        subst hkm
        refine ⟨p', c', ?_, ?_, HV4.out⟩
        · rw [← HZ.out]
        · rw [← HZ.out]; exact HO4.out)
      clear HO4 HV4 HZ hkm
      go_wp2
      go_ret
      exact HP.out
/-- What the reference puts of any value. -/
theorem put_any : ∀ n, PutAny n := by
  intro n
  induction n with
  | zero => intro v T W0 w p l c X h; exact h.elim
  | succ n ih =>
    intro v T W0 w p l c X hr hb hlen
    obtain ⟨K, I, F, S, L⟩ := T
    obtain ⟨q, m, d, rfl, hK, hI, hF, hS, hl, hmd, hd, hel⟩ := hr
    unfold maxLen at hd hS
    have hl' : L.length = m := hl
    by_cases h1 : K = 1
    · subst h1
      have e : encV (n + 1) (1, I, F, S, L) = 1 :: beI (IntKind.u64.wrap I) 8 := rfl
      rw [e] at hlen ⊢
      exact put_int W0 w p l c X I F S q m d hb (by omega) hI (by have := hF; omega) trivial
    by_cases h2 : K = 2
    · subst h2
      have e : encV (n + 1) (2, I, F, S, L) = 2 :: beI (Flo.canon F : Int) 8 := rfl
      rw [e] at hlen ⊢
      exact put_flo W0 w p l c X I F S q m d hb (by omega) hI (by have := hF; omega) trivial
    by_cases h3 : K = 3
    · subst h3
      have e : encV (n + 1) (3, I, F, S, L) = 3 :: (beI (S.size : Int) 2 ++ S.data.toList.map fun b => (b.toNat : Int)) := rfl
      rw [e] at hlen ⊢
      rw [text_len] at hlen
      exact put_text W0 w p l c X I F S q m d hb (by omega) hI (by have := hF; omega) (by omega)
    by_cases h4 : K = 4
    · rw [← listY_all h4 hl'] at hlen ⊢
      subst h4
      refine put_list n ih W0 w p l c X I F S L q m d hb hl' hel hmd hd ?_
      unfold listY at hlen
      rw [List.take_of_length_le (by omega), List.length_cons, List.length_cons] at hlen
      omega
    have e : encV (n + 1) (K, I, F, S, L) = [0] := by
      unfold encV
      rw [if_neg (by simpa using h1), if_neg (by simpa using h2), if_neg (by simpa using h3), if_neg (by simpa using h4)]
    rw [e] at hlen ⊢
    by_cases h5 : K < 0
    · exact put_low W0 w p l c X K I F S q m d hb (by omega) hI (by have := hF; omega) h5 trivial
    by_cases h6 : 4 < K
    · exact put_high W0 w p l c X K I F S q m d hb (by omega) hI (by have := hF; omega) h6 trivial
    obtain rfl : K = 0 := by omega
    exact put_nil W0 w p l c X I F S q m d hb (by omega) hI (by have := hF; omega) trivial
end Num
end Go.Proofs.Ytbodakfgoijeeaa
