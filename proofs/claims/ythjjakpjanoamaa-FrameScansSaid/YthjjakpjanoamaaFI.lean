/-
  Frames: what the reference wraps.
-/
import Derived.Test.YthjjakpjanoamaaFH
namespace Go.Proofs.Ythjjakpjanoamaa
open Go.RowKit
namespace Num
open Ints
set_option linter.unusedSimpArgs false
set_option linter.unusedVariables false
/-- What is owned stays so where its block stays. -/
theorem ow_block {W0 w w' : World} {p : Option Addr} {l c : Nat} {X : List Int} (h : OwB W0 w p l c X) (hk : ∀ k, (Value.slice p l c).ownBlock = some k → w'.heap[k]? = w.heap[k]?) (hb : Below W0.heap.size W0 w') (hs : W0.heap.size ≤ w'.heap.size) : OwB W0 w' p l c X := by
  obtain ⟨h1, h2, h3, h4⟩ := h
  refine ⟨h1, ⟨h2.1, ?_⟩, hb, hs⟩
  rcases h2.2 with hn | ⟨g, cap, cur, hv, hbg, hg, rest⟩
  · exact Or.inl hn
  · refine Or.inr ⟨g, cap, cur, hv, hbg, ?_, rest⟩
    rw [hk g (by rw [hv]; rfl)]
    exact hg
theorem rputU_nil4 (w : World) (u : Int) (hu0 : 0 ≤ u) (hu1 : u < 18446744073709551616) :
    Calls Try.prog 28 #[.slice none 0 0, .int .u64 u, .int .i64 4] w fun e w' => ∃ p' c', e = .returned (.slice p' 4 c') ∧ OwB w w' p' 4 c' (beI u 4) :=
  (rputU_at w w none 0 0 [] u 4 hu0 hu1 (by omega) (Or.inl (ow_nil w)) (by omega)).mono (by
    rintro e w' ⟨p', c', rfl, _, h⟩
    exact ⟨p', c', rfl, h (by omega)⟩)
theorem rputU_own4 (W0 w : World) (p : Option Addr) (l c : Nat) (X : List Int) (u : Int) (hu0 : 0 ≤ u) (hu1 : u < 18446744073709551616) (hb : OwB W0 w p l c X) (hl : l ≤ 100000) :
    Calls Try.prog 28 #[.slice p l c, .int .u64 u, .int .i64 4] w fun e w' => ∃ p' c', e = .returned (.slice p' (l + 4) c') ∧ OwB W0 w' p' (l + 4) c' (X ++ beI u 4) :=
  (rputU_at W0 w p l c X u 4 hu0 hu1 (by omega) (Or.inl hb) hl).mono (by
    rintro e w' ⟨p', c', rfl, _, h⟩
    exact ⟨p', c', rfl, h (by omega)⟩)
set_option maxRecDepth 100000 in
set_option maxHeartbeats 1000000 in
theorem rwrap_ok (W0 w : World) (p q : Option Addr) (l c m d : Nat) (X Y : List Int) (hb : InB W0 w p l c X) (hy : RdB W0 q m d Y) (hY : By Y) (hl : l ≤ 10000) (hm : m ≤ 65536) :
    Calls Try.prog 21 #[.slice p l c, .slice q m d] w fun e w' => ∃ p' c', e = .returned (.tuple #[.slice p' (l + 4 + 4 + m) c', .int .i64 0]) ∧ OwB W0 w' p' (l + 4 + 4 + m) c' (X ++ frI Y) := by
  have HX := Lib.hid hb
  have HY := Lib.hid hy
  have HBY := Lib.hid hY
  have HLEN := Lib.hid (show (m : Int) = (Y.length : Int) by rw [hy.1])
  clear hb hy hY
  go_enter Try.func21, Try.ntmps21
  go_wp2_with fail
  go_at_call 28; refine (rputU_nil4 w (m : Int) (by omega) (by omega)).mono ?_; rintro e w1 ⟨p1, c1, rfl, ho1⟩
  have HO1 := Lib.hid (show OwB w w1 p1 4 c1 (hdI Y) by have h := ho1; rw [HLEN.out] at h; exact h)
  have HB1 := Lib.hid (ow_bel ho1)
  clear ho1
  go_wp2_with (at_builtin; first
    | (refine wp_inR rfl _ _ rfl W0 w w1 p l c X p1 4 c1 (hdI Y) rfl rfl HX.out HB1.out (rd_of_ow HO1.out) (by omega) (by omega) (by omega) ?_
       intro p2 c2 w2 ho2 _ hfree
       have HO2 := Lib.hid ho2
       have HF := Lib.hid hfree
       have HH := Lib.hid (show OwB W0 w2 p1 4 c1 (hdI Y) from ow_block (ow_base (in_bel HX.out) HO1.out) (fun k hk => (hfree k (HO1.out.2.1.lt k hk).1 (HO1.out.2.1.lt k hk).2).1) (ow_bel ho2) ho2.2.2.2)
       clear ho2 hfree)
    | (refine wp_obRat rfl _ _ rfl W0 w2 p1 4 c1 (hdI Y) q m d Y rfl rfl HH.out (rd_keep (ow_bel HO2.out) HY.out) (by omega) (by omega) ?_
       intro p3 c3 w3 ho3 hg3 _))
  have HO3 := Lib.hid ho3
  have HO2' := Lib.hid (show OwB W0 w3 p2 (l + 4) c2 (X ++ hdI Y) from ow_block HO2.out (fun k hk => hg3.block k (HO2.out.2.1.lt k hk).2 (fun e => (HF.out k (HO1.out.2.1.lt k e.symm).1 (HO1.out.2.1.lt k e.symm).2).2 hk)) (ow_bel ho3) ho3.2.2.2)
  clear ho3 hg3
  go_wp2_with fail
  go_at_call 24; refine (rsum_any w3 p3 (4 + m) c3 (hdI Y ++ Y) (rd_of_ow HO3.out) (by_app (by_hd Y) HBY.out) (by omega)).mono ?_; rintro e w3' ⟨rfl, rfl⟩
  have hr := crcI_rng (by_app (by_hd Y) HBY.out)
  obtain ⟨s, hs⟩ : ∃ s, crcI (hdI Y ++ Y) = s := ⟨_, rfl⟩
  rw [hs] at hr
  rw [hs]
  have hr0 := hr.1
  have hr1 := hr.2
  have HS := Lib.hid hs
  clear hr hs
  go_wp2_with fail
  go_at_call 28; refine (rputU_own4 W0 w3 p2 (l + 4) c2 (X ++ hdI Y) s (by omega) (by omega) HO2'.out (by omega)).mono ?_; rintro e w4 ⟨p4, c4, rfl, ho4⟩
  have HO4 := Lib.hid ho4
  clear ho4
  go_wp2_with (at_builtin; refine wp_obR rfl _ _ rfl W0 w4 p4 (l + 4 + 4) c4 _ q m d Y rfl rfl HO4.out (rd_keep (ow_bel HO4.out) HY.out) (by omega) (by omega) ?_; intro p5 c5 w5 ho5 _)
  have HO5 := Lib.hid ho5
  clear ho5
  go_ret2
  refine ⟨p5, c5, rfl, ?_⟩
  have h := HO5.out
  rw [← HS.out] at h
  unfold frI
  rw [← List.append_assoc, ← List.append_assoc]
  exact h
end Num
end Go.Proofs.Ythjjakpjanoamaa
