/-
  Package orch: Plan.
-/
import Derived.Test.YtpbfaffheigjcaaZB
namespace Go.Proofs.Ytpbfaffheigjcaa
open Go.RowKit
namespace Num
open Ints
set_option linter.unusedSimpArgs false
set_option linter.unusedVariables false
/-- A step's cleaned data. -/
def stepC (n : Nat) (s : StepD n) : StepD n := (s.1, s.2.1, s.2.2.map (cleanT n))
theorem stepV_open {w : World} {n : Nat} {v : Value} {s : StepD (n + 1)} (h : Rep w (n + 2) v (stepV n s)) : ∃ b off l c, v = listV (some ⟨b, off, none⟩) l c ∧ RepL w (Rep w (n + 1)) (some ⟨b, off, none⟩) l c ((3, 0, 0, s.1, []) :: (3, 0, 0, s.2.1, []) :: s.2.2) := by
  obtain ⟨p, l, c, rfl, _, _, _, _, h5⟩ := h
  have hl : 0 < l := by have h1 := h5.1; have h2 : (stepV n s).2.2.2.2.length = s.2.2.length + 2 := rfl; omega
  obtain ⟨b, off, rfl, _⟩ := h5.2.2.2 hl
  exact ⟨b, off, l, c, rfl, h5⟩
set_option maxRecDepth 100000 in
set_option maxHeartbeats 4000000 in
/-- Plan of what args.Check takes for steps, and what may be cleaned. -/
theorem plan_any (n : Nat) (p : Option Addr) (l c : Nat) (SS : List (StepD (n + 1))) (w : World) (hr : RepL w (Rep w (n + 2)) p l c (SS.map (stepV n))) (hl : l ≤ 1000) (hk : Hid (∀ W, Below w.heap.size w W → Calls Try.prog 21 #[.string { data := #[111, 114, 99, 104] }, .string { data := #[114, 117, 110] }, .slice p l c] W fun e w' => e = .returned (.int .i64 0) ∧ Below W.heap.size W w')) (hc : ∀ s ∈ SS, CleanL (n + 1) s.2.2) :
    Calls Try.prog 14 #[.slice p l c] w fun e w' => ∃ p' c', e = .returned (.tuple #[.slice p' l c', .int .i64 0]) ∧ OwSt w w' (n + 1) p' l c' (SS.map (stepC (n + 1))) := by
  obtain ⟨hlen, hlc, hcm, hel⟩ := hr
  rw [List.length_map] at hlen
  unfold maxLen at hcm
  have HE := Lib.hid hel
  have HLEN := Lib.hid hlen
  have HCL := Lib.hid hc
  clear hel hlen hc
  go_enter Try.func14, Try.ntmps14
  go_wp2_with fail
  go_at_call 21; refine (hk.out _ (Below.refl _ _)).mono ?_; rintro e w1 ⟨rfl, hb1⟩
  have HO1 := Lib.hid (ost_nil w w1 (n + 1) hb1 hb1.size)
  clear hb1 hk
  go_wp2
  go_loopw [5, 15] (fun sv iv wr => ∃ (i : Nat) (p' : Option Addr) (c' : Nat), i ≤ l ∧ iv = .int .i64 i ∧ sv = .slice p' i c' ∧ OwSt w wr (n + 1) p' i c' ((SS.take i).map (stepC (n + 1)))) (fun _ iv _ => l - (intOf iv).toNat)
  case atStart => exact ⟨0, none, 0, by omega, rfl, rfl, HO1.out⟩
  case round =>
    obtain ⟨i, p', c', hil, rfl, rfl, hO⟩ := hrel
    have HO := Lib.hid hO
    have HB := Lib.hid (ost_bel hO)
    clear hO HO1
    by_cases hlt : i < l
    · obtain ⟨b, off, hpb, hit⟩ := HE.out (by omega)
      subst hpb
      have hks : i < SS.length := by have := HLEN.out; omega
      obtain ⟨v0, v1, v2, v3, v4, c0, c1, c2, c3, c4, hr⟩ := hit i (by rw [List.length_map]; exact hks)
      rw [List.getElem_map] at hr
      obtain ⟨s, hs⟩ : ∃ s, SS[i] = s := ⟨_, rfl⟩
      rw [hs] at hr
      have hcs : CleanL (n + 1) s.2.2 := by have h := HCL.out SS[i] (List.getElem_mem hks); rw [hs] at h; exact h
      have HT := Lib.hid (show (SS.take (i + 1)).map (stepC (n + 1)) = (SS.take i).map (stepC (n + 1)) ++ [(s.1, s.2.1, s.2.2.map (cleanT (n + 1)))] by rw [List.take_add_one, List.map_append, List.getElem?_eq_getElem hks, hs]; rfl)
      obtain ⟨b2, off2, l2, cp2, hv, hr2⟩ := stepV_open hr
      injection hv with hv
      simp only [Array.mk.injEq, List.cons.injEq, and_true] at hv
      obtain ⟨rfl, rfl, rfl, rfl, rfl⟩ := hv
      have e0 := cell_keep HB.out c0
      have e1 := cell_keep HB.out c1
      have e2 := cell_keep HB.out c2
      have e3 := cell_keep HB.out c3
      have e4 := cell_keep HB.out c4
      have elt := cell_lt e0
      have HBA := Lib.hid (bel_alloc (Below.refl wr.heap.size wr) (.cells #[.int .i64 4, .int .i64 0, .float .f64 0, .string ⟨#[]⟩, .slice (some ⟨b2, off2, none⟩) l2 cp2] 27))
      have HST := Lib.hid (step_of_any n b2 off2 l2 cp2 s.1 s.2.1 s.2.2 (wr.alloc (.cells #[.int .i64 4, .int .i64 0, .float .f64 0, .string ⟨#[]⟩, .slice (some ⟨b2, off2, none⟩) l2 cp2] 27)) (repL_keep (bel_step HB.out HBA.out) (fun v T hv => rep_keep (bel_step HB.out HBA.out) _ _ _ hv) hr2) hcs)
      have HO2 := Lib.hid (ost_keep HO.out HBA.out)
      have hi0 : (0 : Int) ≤ (i : Int) := by omega
      have hi1 : (i : Int) < (l : Int) := by omega
      clear c0 c1 c2 c3 c4 hit hr hr2 hcs hs hks
      go_wp2_with fail
      go_at_call 32; refine HST.out.mono ?_; rintro e w2 ⟨q, k, d, rfl, hb2, hr3⟩
      have HB2 := Lib.hid hb2
      have HR3 := Lib.hid hr3
      clear hb2 hr3 e0 e1 e2 e3 e4 elt HST
      go_wp2_with (at_builtin; refine wp_ost1 rfl _ _ rfl w (wr.alloc (.cells #[.int .i64 4, .int .i64 0, .float .f64 0, .string ⟨#[]⟩, .slice (some ⟨b2, off2, none⟩) l2 cp2] 27)) w2 (n + 1) p' i c' _ s.1 s.2.1 q k d (s.2.2.map (cleanT (n + 1))) rfl rfl HO2.out (by omega) HB2.out HR3.out ?_; intro p5 c5 w5 ho5)
      go_roundw
      case rel => exact ⟨i + 1, p5, c5, by omega, by go_num, rfl, by rw [HT.out]; exact ho5⟩
      case measure => simp [intOf]; omega
    · obtain rfl : i = l := by omega
      have HTL := Lib.hid (show SS.take i = SS from by rw [← HLEN.out]; exact List.take_length)
      go_wp2
      go_ret2
      exact ⟨p', c', rfl, by have h := HO.out; rw [HTL.out] at h; exact h⟩
end Num
end Go.Proofs.Ytpbfaffheigjcaa
