/-
  Frames: what the program opens.
-/
import Derived.Test.YthjjakpjanoamaaFF
import Derived.Lib.LazyBuf
namespace Go.Proofs.Ythjjakpjanoamaa
open Go.RowKit
namespace Num
open Ints
set_option linter.unusedSimpArgs false
set_option linter.unusedVariables false
/-- What a frame's head tells, its payload, why it is none. -/
def opL (X : List Int) : Nat := (rdU (X.take 4)).toNat
def opS (X : List Int) : Int := rdU ((X.drop 4).take 4)
def opP (X : List Int) : List Int := (X.drop 8).take (opL X)
def opE (X : List Int) : Int := if X.length < 8 then 23 else if 65536 < opL X then 22 else if X.length < 8 + opL X then 23 else if crcI (X.take 4 ++ opP X) = opS X then 0 else 21
def opZ (X : List Int) : List Int := if opE X = 0 then opP X else []
def opN (X : List Int) : Nat := if opE X = 0 then 8 + opL X else 0
theorem rdU_four (a b c d : Int) (ha : 0 ≤ a ∧ a < 256) (hb : 0 ≤ b ∧ b < 256) (hc : 0 ≤ c ∧ c < 256) (hd : 0 ≤ d ∧ d < 256) : rdU [a, b, c, d] = ((a * 256 + b) * 256 + c) * 256 + d := by
  show shor (shor (shor (shor 0 a) b) c) d = _
  rw [shor_eq 0 a (by omega) (by omega) ha.1 ha.2, shor_eq _ b (by omega) (by omega) hb.1 hb.2, shor_eq _ c (by omega) (by omega) hc.1 hc.2, shor_eq _ d (by omega) (by omega) hd.1 hd.2]; omega
theorem rdU_eight (a b c d e f g h : Int) (ha : 0 ≤ a ∧ a < 256) (hb : 0 ≤ b ∧ b < 256) (hc : 0 ≤ c ∧ c < 256) (hd : 0 ≤ d ∧ d < 256) (he : 0 ≤ e ∧ e < 256) (hf : 0 ≤ f ∧ f < 256) (hg : 0 ≤ g ∧ g < 256) (hh : 0 ≤ h ∧ h < 256) :
    rdU [a, b, c, d, e, f, g, h] = rdU [a, b, c, d] * 4294967296 + rdU [e, f, g, h] := by
  show shor (shor (shor (shor (rdU [a, b, c, d]) e) f) g) h = _
  rw [rdU_four e f g h he hf hg hh, rdU_four a b c d ha hb hc hd]
  rw [shor_eq _ e (by omega) (by omega) he.1 he.2, shor_eq _ f (by omega) (by omega) hf.1 hf.2, shor_eq _ g (by omega) (by omega) hg.1 hg.2, shor_eq _ h (by omega) (by omega) hh.1 hh.2]; omega
/-- The head of eight bytes at least. -/
theorem head8 {X : List Int} (hX : By X) (h : 8 ≤ X.length) : rdU (X.take 8) = (opL X : Int) * 4294967296 + opS X ∧ rdU (X.take 4) = (opL X : Int) ∧ opL X < 4294967296 ∧ 0 ≤ opS X ∧ opS X < 4294967296 := by
  match X, h with
  | a :: b :: c :: d :: e :: f :: g :: h :: R, _ =>
    have ha := hX a (by simp)
    have hb := hX b (by simp)
    have hc := hX c (by simp)
    have hd := hX d (by simp)
    have he := hX e (by simp)
    have hf := hX f (by simp)
    have hg := hX g (by simp)
    have hh := hX h (by simp)
    have h1 := rdU_four a b c d ha hb hc hd
    have h2 := rdU_four e f g h he hf hg hh
    have h3 := rdU_eight a b c d e f g h ha hb hc hd he hf hg hh
    have e1 : opL (a :: b :: c :: d :: e :: f :: g :: h :: R) = (rdU [a, b, c, d]).toNat := rfl
    have e2 : opS (a :: b :: c :: d :: e :: f :: g :: h :: R) = rdU [e, f, g, h] := rfl
    have e3 : (a :: b :: c :: d :: e :: f :: g :: h :: R).take 8 = [a, b, c, d, e, f, g, h] := rfl
    have e4 : (a :: b :: c :: d :: e :: f :: g :: h :: R).take 4 = [a, b, c, d] := rfl
    rw [e1, e2, e3, e4]
    refine ⟨by rw [h3]; omega, by omega, by omega, by omega, by omega⟩
theorem rd_take {w : World} {p : Option Addr} {l c k : Nat} {X : List Int} (h : RdB w p l c X) (hk : k ≤ l) : RdB w p k c (X.take k) := by
  obtain ⟨h1, h2, h3, h4, h5⟩ := h
  refine ⟨by rw [List.length_take]; omega, by omega, h3, fun hm => ?_, h5⟩
  obtain ⟨b, off, e, hc⟩ := h4 (by omega)
  refine ⟨b, off, e, fun i hi => ?_⟩
  rw [List.getElem_take]
  exact hc i (by rw [List.length_take] at hi; omega)
theorem rd_drop {w : World} {p : Option Addr} {l c k : Nat} {X : List Int} {b off : Nat} (h : RdB w (some ⟨b, off, none⟩) l c X) (hkl : k ≤ l) (hc : c ≠ k) : RdB w (some ⟨b, off + k, none⟩) (l - k) (c - k) (X.drop k) := by
  have := rd_cut (k := k) (m := l - k) h (by omega)
  rw [List.take_of_length_le (by rw [List.length_drop, h.1]; omega)] at this
  exact this
set_option maxRecDepth 100000 in
set_option maxHeartbeats 1000000 in
theorem clone_any (w : World) (b off m d : Nat) (Z : List Int) (hz : RdB w (some ⟨b, off, none⟩) m d Z) (hm : m ≤ 1000000) :
    Calls Try.prog 47 #[.slice (some ⟨b, off, none⟩) m d] w fun e w' => ∃ p' c', e = .returned (.slice p' m c') ∧ OwB w w' p' m c' Z := by
  have HB := Lib.hid ((Below.refl w.heap.size w).alloc (Nat.le_refl _) (.cells #[] 5))
  have HO := Lib.hid (show OwB w (w.alloc (.cells #[] 5)) (some ⟨w.heap.size, 0, none⟩) 0 0 [] from ⟨rfl, World.ownsRow_made w _ 0 (Nat.le_refl _) (by unfold maxLen; omega) rfl, HB.out, by rw [World.size_alloc]; omega⟩)
  have HZ := Lib.hid (rd_keep HB.out hz)
  clear hz
  have hq : (binOp .eql 22 (.slice (some ⟨b, off, none⟩) m d) (.slice none 0 0)).run Try.prog w = .ok (.bool false) w := Go.run_eql_slice_nil w 22 5 _ m d Try.underlying22
  go_enter Try.func47, Try.ntmps47
  go_wp2_with (at_builtin; refine wp_obR rfl _ _ rfl w _ _ 0 _ [] (some ⟨b, off, none⟩) m d Z rfl rfl HO.out HZ.out (by omega) (by omega) ?_; intro p2 c2 w2 ho2 _)
  have HO2 := Lib.hid (show OwB w w2 p2 m c2 Z by have h := ho2; rw [Nat.zero_add, List.nil_append] at h; exact h)
  clear ho2
  go_ret
  exact ⟨p2, c2, rfl, HO2.out⟩
set_option maxRecDepth 100000 in
set_option maxHeartbeats 1000000 in
theorem open_short (w : World) (p : Option Addr) (l c : Nat) (hl : l ≤ c) (hc : c ≤ maxLen) (h8 : l < 8) :
    Calls Try.prog 22 #[.slice p l c] w fun e w' => e = .returned (.tuple #[.slice none 0 0, .int .i64 0, .int .i64 23]) ∧ w = w' := by
  have HU := Lib.hid (readU_no w p l c 8 hl hc (by omega))
  clear hc
  go_enter Try.func22, Try.ntmps22
  go_wp2_with fail
  go_at_call 31; refine HU.out.mono ?_; rintro e w1 ⟨rfl, rfl⟩
  go_wp2
  go_ret3
  exact ⟨rfl, rfl⟩
set_option maxRecDepth 100000 in
set_option maxHeartbeats 1000000 in
theorem open_great (w : World) (b off l c : Nat) (X : List Int) (hx : RdB w (some ⟨b, off, none⟩) l c X) (hX : By X) (h8 : 8 ≤ l) (hL : 65536 < opL X) :
    Calls Try.prog 22 #[.slice (some ⟨b, off, none⟩) l c] w fun e w' => e = .returned (.tuple #[.slice none 0 0, .int .i64 0, .int .i64 22]) ∧ w = w' := by
  obtain ⟨e8, e4, hl4, hs0, hs4⟩ := head8 hX (by rw [hx.1]; exact h8)
  have HU := Lib.hid (readU_yes w b off l c X 8 hx hX (by omega) h8)
  rw [e8] at HU
  obtain ⟨L, hLe⟩ : ∃ L, opL X = L := ⟨_, rfl⟩
  obtain ⟨s, hse⟩ : ∃ s, opS X = s := ⟨_, rfl⟩
  rw [hLe] at HU hL hl4
  rw [hse] at HU hs0 hs4
  have h1 : ((L : Int) * 4294967296 + s) / 4294967296 = (L : Int) := by omega
  clear e8 e4 hx hX hLe hse
  go_enter Try.func22, Try.ntmps22
  go_wp2_with fail
  go_at_call 31; refine HU.out.mono ?_; rintro e w1 ⟨rfl, rfl⟩
  clear hl4
  go_wp2
  go_ret3
  exact ⟨rfl, rfl⟩
/-- Open where the head is right. -/
theorem open_cut (w : World) (b off l c : Nat) (X : List Int) (hx : RdB w (some ⟨b, off, none⟩) l c X) (hX : By X) (h8 : 8 ≤ l) (hL : opL X ≤ 65536) (hc : l < 8 + opL X) :
    Calls Try.prog 22 #[.slice (some ⟨b, off, none⟩) l c] w fun e w' => e = .returned (.tuple #[.slice none 0 0, .int .i64 0, .int .i64 23]) ∧ w = w' := by
  obtain ⟨e8, e4, hl4, hs0, hs4⟩ := head8 hX (by rw [hx.1]; exact h8)
  have HU := Lib.hid (readU_yes w b off l c X 8 hx hX (by omega) h8)
  rw [e8] at HU
  have hcl := hx.2.1
  have hcm := hx.2.2.1
  unfold maxLen at hcm
  obtain ⟨L, hLe⟩ : ∃ L, opL X = L := ⟨_, rfl⟩
  obtain ⟨s, hse⟩ : ∃ s, opS X = s := ⟨_, rfl⟩
  rw [hLe] at HU hL hc hl4
  rw [hse] at HU hs0 hs4
  have h1 : ((L : Int) * 4294967296 + s) / 4294967296 = (L : Int) := by omega
  have h2 : ((L : Int) * 4294967296 + s) % 4294967296 = s := by omega
  clear e8 e4 hx hX hLe hse hl4 hs0 hs4
  go_enter Try.func22, Try.ntmps22
  go_wp2_with fail
  go_at_call 31; refine HU.out.mono ?_; rintro e w1 ⟨rfl, rfl⟩
  go_wp2
  go_ret3
  exact ⟨rfl, rfl⟩
set_option maxRecDepth 100000 in
set_option maxHeartbeats 1000000 in
theorem open_bad8 (w : World) (b off l c : Nat) (X : List Int) (hx : RdB w (some ⟨b, off, none⟩) l c X) (hX : By X) (h8 : 8 ≤ l) (hL : opL X ≤ 65536) (hc : 8 + opL X ≤ l) (hS : crcI (X.take 4 ++ opP X) ≠ opS X) (h8c : c = 8) :
    Calls Try.prog 22 #[.slice (some ⟨b, off, none⟩) l c] w fun e w' => e = .returned (.tuple #[.slice none 0 0, .int .i64 0, .int .i64 21]) ∧ w = w' := by
  obtain ⟨e8, e4, hl4, hs0, hs4⟩ := head8 hX (by rw [hx.1]; exact h8)
  have HU := Lib.hid (readU_yes w b off l c X 8 hx hX (by omega) h8)
  rw [e8] at HU
  have hcl := hx.2.1
  have hcm := hx.2.2.1
  unfold maxLen at hcm
  have hK := crcI_rng (by_app (by_take hX 4) (show By (opP X) from by_take (by_drop hX 8) _))
  have hL0 : opL X = 0 := by omega
  have hl8 : l = 8 := by omega
  have hP0 : opP X = [] := by unfold opP; rw [hL0]; rfl
  have hpay := (show RdB w (some ⟨b, off, none⟩) 0 0 [] from ⟨rfl, Nat.le_refl _, Nat.zero_le _, fun h => absurd h (Nat.lt_irrefl _), fun e => by cases e⟩)
  subst hl8
  subst h8c
  have HS := Lib.hid (sumOf_any w (some ⟨b, off, none⟩) (some ⟨b, off, none⟩) 4 8 0 0 (X.take 4) [] (rd_take hx (by omega)) (by_take hX 4) (by omega) hpay (fun x hx => by cases hx) (by omega))
  rw [hP0] at hK hS
  obtain ⟨k, hke⟩ : ∃ k, crcI (X.take 4 ++ []) = k := ⟨_, rfl⟩
  rw [hke] at HS hK hS
  obtain ⟨L, hLe⟩ : ∃ L, opL X = L := ⟨_, rfl⟩
  obtain ⟨s, hse⟩ : ∃ s, opS X = s := ⟨_, rfl⟩
  rw [hLe] at HU hL0 hl4 hL hc
  rw [hse] at HU hs0 hs4 hS
  have h1 : ((L : Int) * 4294967296 + s) / 4294967296 = (L : Int) := by omega
  have h2 : ((L : Int) * 4294967296 + s) % 4294967296 = s := by omega
  subst hL0
  have h3 : s / 4294967296 = 0 := by omega
  have hne : (k == s) = false := by rw [beq_eq_false_iff_ne]; exact hS
  clear e8 e4 hx hX hLe hse hl4 hs0 hs4 hK hke hpay hP0 hS
  go_enter Try.func22, Try.ntmps22
  go_wp2_with fail
  go_at_call 31; refine HU.out.mono ?_; rintro e w1 ⟨rfl, rfl⟩
  go_wp2_with fail
  go_at_call 45; refine HS.out.mono ?_; rintro e w1 ⟨rfl, rfl⟩
  go_wp2
  go_ret3
  exact ⟨rfl, rfl⟩
set_option maxRecDepth 100000 in
set_option maxHeartbeats 1000000 in
theorem open_bad (w : World) (b off l c : Nat) (X : List Int) (hx : RdB w (some ⟨b, off, none⟩) l c X) (hX : By X) (h8 : 8 ≤ l) (hL : opL X ≤ 65536) (hc : 8 + opL X ≤ l) (hS : crcI (X.take 4 ++ opP X) ≠ opS X) (h8c : c ≠ 8) :
    Calls Try.prog 22 #[.slice (some ⟨b, off, none⟩) l c] w fun e w' => e = .returned (.tuple #[.slice none 0 0, .int .i64 0, .int .i64 21]) ∧ w = w' := by
  obtain ⟨e8, e4, hl4, hs0, hs4⟩ := head8 hX (by rw [hx.1]; exact h8)
  have HU := Lib.hid (readU_yes w b off l c X 8 hx hX (by omega) h8)
  rw [e8] at HU
  have hcl := hx.2.1
  have hcm := hx.2.2.1
  unfold maxLen at hcm
  have hK := crcI_rng (by_app (by_take hX 4) (show By (opP X) from by_take (by_drop hX 8) _))
  have hpay := rd_cut (k := 8) (m := opL X) hx hc
  have HS := Lib.hid (sumOf_any w (some ⟨b, off, none⟩) (some ⟨b, off + 8, none⟩) 4 c (opL X) (c - 8) (X.take 4) (opP X) (rd_take hx (by omega)) (by_take hX 4) (by omega) hpay (by_take (by_drop hX 8) _) (by omega))
  obtain ⟨k, hke⟩ : ∃ k, crcI (X.take 4 ++ opP X) = k := ⟨_, rfl⟩
  rw [hke] at HS hK hS
  obtain ⟨P, hPe⟩ : ∃ P, opP X = P := ⟨_, rfl⟩
  obtain ⟨L, hLe⟩ : ∃ L, opL X = L := ⟨_, rfl⟩
  obtain ⟨s, hse⟩ : ∃ s, opS X = s := ⟨_, rfl⟩
  rw [hLe] at HU HS hL hc hl4
  rw [hse] at HU hs0 hs4 hS
  have h1 : ((L : Int) * 4294967296 + s) / 4294967296 = (L : Int) := by omega
  have h2 : ((L : Int) * 4294967296 + s) % 4294967296 = s := by omega
  have hne : (k == s) = false := by rw [beq_eq_false_iff_ne]; exact hS
  clear e8 e4 hx hX hLe hse hl4 hs0 hs4 hK hke hpay hPe hS
  go_enter Try.func22, Try.ntmps22
  go_wp2_with fail
  go_at_call 31; refine HU.out.mono ?_; rintro e w1 ⟨rfl, rfl⟩
  go_wp2_with fail
  go_at_call 45; refine HS.out.mono ?_; rintro e w1 ⟨rfl, rfl⟩
  go_wp2
  go_ret3
  exact ⟨rfl, rfl⟩
set_option maxRecDepth 100000 in
set_option maxHeartbeats 1000000 in
theorem open_yes8 (w : World) (b off l c : Nat) (X : List Int) (hx : RdB w (some ⟨b, off, none⟩) l c X) (hX : By X) (h8 : 8 ≤ l) (hL : opL X ≤ 65536) (hc : 8 + opL X ≤ l) (hS : crcI (X.take 4 ++ opP X) = opS X) (h8c : c = 8) :
    Calls Try.prog 22 #[.slice (some ⟨b, off, none⟩) l c] w fun e w' => ∃ p' c', e = .returned (.tuple #[.slice p' 0 c', .int .i64 8, .int .i64 0]) ∧ OwB w w' p' 0 c' [] := by
  obtain ⟨e8, e4, hl4, hs0, hs4⟩ := head8 hX (by rw [hx.1]; exact h8)
  have HU := Lib.hid (readU_yes w b off l c X 8 hx hX (by omega) h8)
  rw [e8] at HU
  have hcl := hx.2.1
  have hcm := hx.2.2.1
  unfold maxLen at hcm
  have hK := crcI_rng (by_app (by_take hX 4) (show By (opP X) from by_take (by_drop hX 8) _))
  have hL0 : opL X = 0 := by omega
  have hl8 : l = 8 := by omega
  have hP0 : opP X = [] := by unfold opP; rw [hL0]; rfl
  have hpay := (show RdB w (some ⟨b, off, none⟩) 0 0 [] from ⟨rfl, Nat.le_refl _, Nat.zero_le _, fun h => absurd h (Nat.lt_irrefl _), fun e => by cases e⟩)
  subst hl8
  subst h8c
  have HS := Lib.hid (sumOf_any w (some ⟨b, off, none⟩) (some ⟨b, off, none⟩) 4 8 0 0 (X.take 4) [] (rd_take hx (by omega)) (by_take hX 4) (by omega) hpay (fun x hx => by cases hx) (by omega))
  rw [hP0] at hK hS
  have HC := Lib.hid (clone_any w b off 0 0 [] hpay (by omega))
  obtain ⟨k, hke⟩ : ∃ k, crcI (X.take 4 ++ []) = k := ⟨_, rfl⟩
  rw [hke] at HS hK hS
  obtain ⟨L, hLe⟩ : ∃ L, opL X = L := ⟨_, rfl⟩
  obtain ⟨s, hse⟩ : ∃ s, opS X = s := ⟨_, rfl⟩
  rw [hLe] at HU hL0 hl4 hL hc
  rw [hse] at HU hs0 hs4 hS
  have h1 : ((L : Int) * 4294967296 + s) / 4294967296 = (L : Int) := by omega
  have h2 : ((L : Int) * 4294967296 + s) % 4294967296 = s := by omega
  subst hL0
  have h3 : s / 4294967296 = 0 := by omega
  subst hS
  clear e8 e4 hx hX hLe hse hl4 hs0 hs4 hK hke hpay hP0
  go_enter Try.func22, Try.ntmps22
  go_wp2_with fail
  go_at_call 31; refine HU.out.mono ?_; rintro e w1 ⟨rfl, rfl⟩
  go_wp2_with fail
  go_at_call 45; refine HS.out.mono ?_; rintro e w1 ⟨rfl, rfl⟩
  go_wp2_with fail
  go_at_call 47; refine HC.out.mono ?_; rintro e w1 ⟨p1, c1, rfl, ho1⟩
  have HO := Lib.hid ho1
  clear ho1
  go_wp2
  go_ret3
  exact ⟨p1, c1, rfl, HO.out⟩
set_option maxRecDepth 100000 in
set_option maxHeartbeats 1000000 in
theorem open_yes (w : World) (b off l c : Nat) (X : List Int) (hx : RdB w (some ⟨b, off, none⟩) l c X) (hX : By X) (h8 : 8 ≤ l) (hL : opL X ≤ 65536) (hc : 8 + opL X ≤ l) (hS : crcI (X.take 4 ++ opP X) = opS X) (h8c : c ≠ 8) :
    Calls Try.prog 22 #[.slice (some ⟨b, off, none⟩) l c] w fun e w' => ∃ p' c', e = .returned (.tuple #[.slice p' (opL X) c', .int .i64 (8 + (opL X : Int)), .int .i64 0]) ∧ OwB w w' p' (opL X) c' (opP X) := by
  obtain ⟨e8, e4, hl4, hs0, hs4⟩ := head8 hX (by rw [hx.1]; exact h8)
  have HU := Lib.hid (readU_yes w b off l c X 8 hx hX (by omega) h8)
  rw [e8] at HU
  have hcl := hx.2.1
  have hcm := hx.2.2.1
  unfold maxLen at hcm
  have hK := crcI_rng (by_app (by_take hX 4) (show By (opP X) from by_take (by_drop hX 8) _))
  have hpay := rd_cut (k := 8) (m := opL X) hx hc
  have HS := Lib.hid (sumOf_any w (some ⟨b, off, none⟩) (some ⟨b, off + 8, none⟩) 4 c (opL X) (c - 8) (X.take 4) (opP X) (rd_take hx (by omega)) (by_take hX 4) (by omega) hpay (by_take (by_drop hX 8) _) (by omega))
  have HC := Lib.hid (clone_any w b (off + 8) (opL X) (c - 8) (opP X) hpay (by omega))
  obtain ⟨k, hke⟩ : ∃ k, crcI (X.take 4 ++ opP X) = k := ⟨_, rfl⟩
  rw [hke] at HS hK hS
  obtain ⟨P, hPe⟩ : ∃ P, opP X = P := ⟨_, rfl⟩
  rw [hPe] at HC ⊢
  obtain ⟨L, hLe⟩ : ∃ L, opL X = L := ⟨_, rfl⟩
  obtain ⟨s, hse⟩ : ∃ s, opS X = s := ⟨_, rfl⟩
  rw [hLe] at HU HS hL hc hl4 HC ⊢
  rw [hse] at HU hs0 hs4 hS
  have h1 : ((L : Int) * 4294967296 + s) / 4294967296 = (L : Int) := by omega
  have h2 : ((L : Int) * 4294967296 + s) % 4294967296 = s := by omega
  subst hS
  clear e8 e4 hx hX hLe hse hl4 hs0 hs4 hK hke hpay hPe
  go_enter Try.func22, Try.ntmps22
  go_wp2_with fail
  go_at_call 31; refine HU.out.mono ?_; rintro e w1 ⟨rfl, rfl⟩
  go_wp2_with fail
  go_at_call 45; refine HS.out.mono ?_; rintro e w1 ⟨rfl, rfl⟩
  go_wp2_with fail
  go_at_call 47; refine HC.out.mono ?_; rintro e w1 ⟨p1, c1, rfl, ho1⟩
  have HO := Lib.hid ho1
  clear ho1
  go_wp2
  go_ret3
  exact ⟨p1, c1, rfl, HO.out⟩
end Num
end Go.Proofs.Ythjjakpjanoamaa
