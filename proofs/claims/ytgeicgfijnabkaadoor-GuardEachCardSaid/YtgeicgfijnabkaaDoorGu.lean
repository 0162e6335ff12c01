/-
  Package guard: Each.
-/
import Derived.Test.YtgeicgfijnabkaaDoorGs
namespace Go.Proofs.YtgeicgfijnabkaaDoor
open Go.RowKit
namespace Num
open Ints
set_option linter.unusedSimpArgs false
set_option linter.unusedVariables false
set_option maxRecDepth 100000 in
set_option maxHeartbeats 4000000 in
theorem each_good (R n : Nat) (p : Option Addr) (c : Nat) (L : List Int) (jb : Nat) (w : World) (hn : n ≤ 30) (hF : Funs w R p n L) (rr : w.heap[R]? = some (.cells #[.int .i64 0] 3 (0, 0))) (hlo : ∀ j (h : j < L.length), j < jb → L[j] < 220) (hjb : jb = n) :
    Calls Tryd.prog 15 #[.slice p n c] w fun e w' => ∃ q d, e = .returned (.tuple #[.slice q n d, .int .i64 0]) ∧ OwE w w' R q n d ∧ w'.heap[R]? = some (.cells #[.int .i64 (n : Nat)] 3 (0, 0)) := by
  have HL := Lib.hid hF.1
  have HF := Lib.hid hF.2
  have HLO := Lib.hid hlo
  have RR0 := Lib.hid (show w.heap[R]? = some (.cells #[.int .i64 ((0 : Nat) : Int)] 3 (0, 0)) from rr)
  have HRR0 := Lib.hid (row_lt rr)
  clear hF hlo rr
  go_enter Tryd.func15, Tryd.ntmps15
  go_wp2
  go_loopw [4, 11] (fun v iv wr => ∃ (j : Nat) (q : Option Addr) (dd : Nat), j ≤ jb ∧ iv = .int .i64 (j : Int) ∧ v = .slice q j dd ∧ OwE w wr R q j dd ∧ wr.heap[R]? = some (.cells #[.int .i64 (j : Int)] 3 (0, 0))) (fun _ iv _ => n - (intOf iv).toNat)
  case atStart => exact ⟨0, none, 0, Nat.zero_le _, rfl, rfl, oe_nil _ _, RR0.out⟩
  case round =>
    obtain ⟨j, q, dd, hj, rfl, rfl, ho, hrr⟩ := hrel
    have HO := Lib.hid ho
    have HRR := Lib.hid hrr
    clear ho hrr
    by_cases hlt : j < jb
    · have hjn : j < n := by omega
      have hjL : j < L.length := by have := HL.out; omega
      obtain ⟨g, hp, hgR, hf⟩ := HF.out (by omega)
      subst hp
      obtain ⟨b0, b1, b2, hc, g0, g1, g2, n0, n1, n2⟩ := hf j hjL
      have hkw := oe_form HO.out
      have hc0 := kept_cell hkw hc (fun hm => hgR (List.mem_singleton.1 hm))
      have k0 := kept_row hkw g0 (fun hm => n0 (List.mem_singleton.1 hm))
      have k1 := kept_row hkw g1 (fun hm => n1 (List.mem_singleton.1 hm))
      have k2 := kept_row hkw g2 (fun hm => n2 (List.mem_singleton.1 hm))
      have HRUN := Lib.hid (run_one_ret R b0 b1 b2 (L[j]) (j : Nat) (j : Nat) wr k0 k1 k2 HRR.out n0 n1 n2 (by omega) (by omega) (HLO.out j hjL hlt) (by unfold okI; omega))
      have hj0 : (0 : Int) ≤ (j : Int) := by omega
      have hj1 : (j : Int) < (n : Int) := by omega
      clear hc g0 g1 g2 k0 k1 k2 hf hkw
      go_wp2_with fail
      go_at_call 9; refine HRUN.out.mono ?_; rintro e w5 ⟨p5, c5, rfl, hk5, hr5⟩
      have HO5 := Lib.hid (oe_kept (oe_kept HO.out HRR0.out hk5) HRR0.out (kept_below (bel_alloc (Below.refl _ _) (.cells #[.int .i64 1, .int .i64 (j : Nat), .float .f64 0, .string ⟨#[]⟩, .slice p5 0 c5] 25))))
      have HR5 := Lib.hid (row_alloc_step hr5 (.cells #[.int .i64 1, .int .i64 (j : Nat), .float .f64 0, .string ⟨#[]⟩, .slice p5 0 c5] 25))
      clear hk5 hr5 hc0
      go_wp2_with (at_builtin; refine wp_oe1 rfl _ _ rfl w (w5.alloc (.cells #[.int .i64 1, .int .i64 (j : Nat), .float .f64 0, .string ⟨#[]⟩, .slice p5 0 c5] 25)) R q j dd p5 c5 _ rfl (by simp [Act.eval, World.size_alloc]) HO5.out (by omega) HRR0.out HR5.out ?_; intro p2 c2 w2 ho2 hr2; have HO2 := Lib.hid ho2; have HR2 := Lib.hid hr2; clear ho2 hr2)
      go_roundw
      case rel => exact ⟨j + 1, p2, c2, by omega, by go_num, rfl, HO2.out, by have := HR2.out; rw [this]; simp⟩
      case measure => simp [intOf]; omega
    · obtain rfl : j = n := by omega
      go_wp2
      go_ret2
      exact ⟨q, dd, rfl, HO.out, HRR.out⟩
set_option maxRecDepth 100000 in
set_option maxHeartbeats 4000000 in
theorem each_bad (R n : Nat) (p : Option Addr) (c : Nat) (L : List Int) (jb : Nat) (w : World) (hn : n ≤ 30) (hF : Funs w R p n L) (rr : w.heap[R]? = some (.cells #[.int .i64 0] 3 (0, 0))) (hlo : ∀ j (h : j < L.length), j < jb → L[j] < 220) (hjb : jb < n) (hjL : jb < L.length) (hbad : 220 ≤ L[jb]) :
    Calls Tryd.prog 15 #[.slice p n c] w fun e w' => e = .returned (.tuple #[.slice none 0 0, .int .i64 (wantOf L[jb])]) ∧ Kept [R] w w' ∧ w'.heap[R]? = some (.cells #[.int .i64 ((jb + 1 : Nat) : Int)] 3 (0, 0)) := by
  have HBAD := Lib.hid hbad
  have HL := Lib.hid hF.1
  have HF := Lib.hid hF.2
  have HLO := Lib.hid hlo
  have RR0 := Lib.hid (show w.heap[R]? = some (.cells #[.int .i64 ((0 : Nat) : Int)] 3 (0, 0)) from rr)
  have HRR0 := Lib.hid (row_lt rr)
  clear hF hlo rr
  go_enter Tryd.func15, Tryd.ntmps15
  go_wp2
  go_loopw [4, 11] (fun v iv wr => ∃ (j : Nat) (q : Option Addr) (dd : Nat), j ≤ jb ∧ iv = .int .i64 (j : Int) ∧ v = .slice q j dd ∧ OwE w wr R q j dd ∧ wr.heap[R]? = some (.cells #[.int .i64 (j : Int)] 3 (0, 0))) (fun _ iv _ => n - (intOf iv).toNat)
  case atStart => exact ⟨0, none, 0, Nat.zero_le _, rfl, rfl, oe_nil _ _, RR0.out⟩
  case round =>
    obtain ⟨j, q, dd, hj, rfl, rfl, ho, hrr⟩ := hrel
    have HO := Lib.hid ho
    have HRR := Lib.hid hrr
    clear ho hrr
    by_cases hlt : j < jb
    · have hjn : j < n := by omega
      have hjL : j < L.length := by have := HL.out; omega
      obtain ⟨g, hp, hgR, hf⟩ := HF.out (by omega)
      subst hp
      obtain ⟨b0, b1, b2, hc, g0, g1, g2, n0, n1, n2⟩ := hf j hjL
      have hkw := oe_form HO.out
      have hc0 := kept_cell hkw hc (fun hm => hgR (List.mem_singleton.1 hm))
      have k0 := kept_row hkw g0 (fun hm => n0 (List.mem_singleton.1 hm))
      have k1 := kept_row hkw g1 (fun hm => n1 (List.mem_singleton.1 hm))
      have k2 := kept_row hkw g2 (fun hm => n2 (List.mem_singleton.1 hm))
      have HRUN := Lib.hid (run_one_ret R b0 b1 b2 (L[j]) (j : Nat) (j : Nat) wr k0 k1 k2 HRR.out n0 n1 n2 (by omega) (by omega) (HLO.out j hjL hlt) (by unfold okI; omega))
      have hj0 : (0 : Int) ≤ (j : Int) := by omega
      have hj1 : (j : Int) < (n : Int) := by omega
      clear hc g0 g1 g2 k0 k1 k2 hf hkw
      go_wp2_with fail
      go_at_call 9; refine HRUN.out.mono ?_; rintro e w5 ⟨p5, c5, rfl, hk5, hr5⟩
      have HO5 := Lib.hid (oe_kept (oe_kept HO.out HRR0.out hk5) HRR0.out (kept_below (bel_alloc (Below.refl _ _) (.cells #[.int .i64 1, .int .i64 (j : Nat), .float .f64 0, .string ⟨#[]⟩, .slice p5 0 c5] 25))))
      have HR5 := Lib.hid (row_alloc_step hr5 (.cells #[.int .i64 1, .int .i64 (j : Nat), .float .f64 0, .string ⟨#[]⟩, .slice p5 0 c5] 25))
      clear hk5 hr5 hc0
      go_wp2_with (at_builtin; refine wp_oe1 rfl _ _ rfl w (w5.alloc (.cells #[.int .i64 1, .int .i64 (j : Nat), .float .f64 0, .string ⟨#[]⟩, .slice p5 0 c5] 25)) R q j dd p5 c5 _ rfl (by simp [Act.eval, World.size_alloc]) HO5.out (by omega) HRR0.out HR5.out ?_; intro p2 c2 w2 ho2 hr2; have HO2 := Lib.hid ho2; have HR2 := Lib.hid hr2; clear ho2 hr2)
      go_roundw
      case rel => exact ⟨j + 1, p2, c2, by omega, by go_num, rfl, HO2.out, by have := HR2.out; rw [this]; simp⟩
      case measure => simp [intOf]; omega
    · obtain rfl : j = jb := by omega
      obtain ⟨g, hp, hgR, hf⟩ := HF.out (by omega)
      subst hp
      obtain ⟨b0, b1, b2, hc, g0, g1, g2, n0, n1, n2⟩ := hf j hjL
      have hkw := oe_form HO.out
      have hc0 := kept_cell hkw hc (fun hm => hgR (List.mem_singleton.1 hm))
      have k0 := kept_row hkw g0 (fun hm => n0 (List.mem_singleton.1 hm))
      have k1 := kept_row hkw g1 (fun hm => n1 (List.mem_singleton.1 hm))
      have k2 := kept_row hkw g2 (fun hm => n2 (List.mem_singleton.1 hm))
      have hj0 : (0 : Int) ≤ (j : Int) := by omega
      have hj1 : (j : Int) < (n : Int) := by omega
      by_cases h240 : 240 ≤ L[j]
      · have HRUN := Lib.hid (run_one_pan R b0 b1 b2 (L[j]) (j : Nat) (j : Nat) wr k0 k1 k2 HRR.out n0 n1 n2 (by omega) (by omega) h240)
        have HW := Lib.hid (oe_form HO.out)
        have HE := Lib.hid (show Ending.returned (.tuple #[.slice none 0 0, .int .i64 34]) = .returned (.tuple #[.slice none 0 0, .int .i64 (wantOf L[j])]) by unfold wantOf; rw [if_pos h240])
        clear hc g0 g1 g2 k0 k1 k2 hf hkw h240 hbad
        go_wp2_with fail
        go_at_call 9; refine HRUN.out.mono ?_; rintro e w5 ⟨rfl, hk5, hr5⟩
        have HK5 := Lib.hid (kept_step (kept_trans HW.out hk5) (bel_alloc (Below.refl _ _) (.cells #[.int .i64 0, .int .i64 0, .float .f64 0, .string ⟨#[]⟩, .slice none 0 0] 25)))
        have HR5 := Lib.hid (row_alloc_step hr5 (.cells #[.int .i64 0, .int .i64 0, .float .f64 0, .string ⟨#[]⟩, .slice none 0 0] 25))
        clear hk5 hr5 hc0
        go_wp2
        go_ret2
        exact ⟨HE.out, HK5.out, by have := HR5.out; rw [this]; simp⟩
      · have HRUN := Lib.hid (run_one_err R b0 b1 b2 (L[j]) (j : Nat) (j : Nat) wr k0 k1 k2 HRR.out n0 n1 n2 (by omega) (by omega) (by omega) HBAD.out)
        have HW := Lib.hid (oe_form HO.out)
        have HE := Lib.hid (show Ending.returned (.tuple #[.slice none 0 0, .int .i64 L[j]]) = .returned (.tuple #[.slice none 0 0, .int .i64 (wantOf L[j])]) by unfold wantOf; rw [if_neg h240])
        have hne : (L[j] != 0) = true := by simp; omega
        clear hc g0 g1 g2 k0 k1 k2 hf hkw h240 hbad
        go_wp2_with fail
        go_at_call 9; refine HRUN.out.mono ?_; rintro e w5 ⟨rfl, hk5, hr5⟩
        have HK5 := Lib.hid (kept_step (kept_trans HW.out hk5) (bel_alloc (Below.refl _ _) (.cells #[.int .i64 0, .int .i64 0, .float .f64 0, .string ⟨#[]⟩, .slice none 0 0] 25)))
        have HR5 := Lib.hid (row_alloc_step hr5 (.cells #[.int .i64 0, .int .i64 0, .float .f64 0, .string ⟨#[]⟩, .slice none 0 0] 25))
        clear hk5 hr5 hc0
        go_wp2
        go_ret2
        exact ⟨HE.out, HK5.out, by have := HR5.out; rw [this]; simp⟩
end Num
end Go.Proofs.YtgeicgfijnabkaaDoor
