/-
  The decimal form with an exponent (internal/strconv.fmtEFG): the shortest digits.
-/
import Derived.Test.YtahcgdjcjapnkaaGreatDoorVApp
namespace Go.Proofs.YtahcgdjcjapnkaaGreatDoor
open Go.RowKit
namespace Num
open Ints
set_option linter.unusedSimpArgs false
set_option linter.unusedVariables false
/-- An exponent's digits: two at least. -/
def expD (x : Int) : List Int := if x < 10 then [48, x + 48] else if x < 100 then [x / 10 + 48, x % 10 + 48] else [x / 100 + 48, x / 10 % 10 + 48, x % 10 + 48]
def bytesI (D : List UInt8) : List Int := D.map (fun b => (b.toNat : Int))
def sgnI (neg : Bool) : List Int := if neg = true then [45] else []
theorem bu_d0 {W0 w : World} {v : Value} {xs : List Int} {bb : Nat} {D : List UInt8} {N : Nat} {d0 : Int} (h : Bu W0 w v xs bb D N) (h0 : 0 < D.length) (e : ((D.getD 0 0).toNat : Int) = d0) : w.cell? ⟨bb, 0, none⟩ = some (.int .u8 d0) := by
  rw [← e]
  exact digs_at h.2.2.2.2.1 0 h0
/-- The form with an exponent: sign, first digit, point and further digits, e, the exponent. -/
def efeL (neg : Bool) (D : List UInt8) (nd : Nat) (dp : Int) : List Int :=
  sgnI neg ++ [if nd = 0 then 48 else ((D.getD 0 0).toNat : Int)] ++ (if 2 ≤ nd then [46] ++ bytesI ((D.drop 1).take (nd - 1)) else []) ++ [101] ++
    [if (if nd = 0 then 0 else dp - 1) < 0 then 45 else 43] ++ expD (if (if nd = 0 then 0 else dp - 1) < 0 then -(if nd = 0 then 0 else dp - 1) else (if nd = 0 then 0 else dp - 1))
def FmtPost (W0 : World) (xs ys : List Int) (bb : Nat) (D : List UInt8) (N : Nat) (e : Ending) (w' : World) : Prop := ∃ v' N', e = .returned v' ∧ N' ≤ N + 100 ∧ Bu W0 w' v' (xs ++ ys) bb D N'
set_option maxRecDepth 100000 in
set_option maxHeartbeats 8000000 in
theorem efe_0pos (neg : Bool) (W0 w : World) (v : Value) (xs : List Int) (bb : Nat) (D : List UInt8) (N nd : Nat) (dp : Int) (hb : Bu W0 w v xs bb D N) (hbl : bb < w.heap.size) (hN : N ≤ 1000) (hdl : nd ≤ D.length) (hd20 : nd ≤ 20) (hnd : nd = 0) (hdp : 6 ≤ dp - 1) (hdp2 : dp ≤ 400) : Calls Tryz.prog 76 #[v, .bool neg, .slice (some ⟨bb, 0, none⟩) 32 32, .int .i64 dp, .int .i64 nd, .int .i64 nd, .int .u8 103, .bool true] w (FmtPost W0 xs (efeL neg D nd dp) bb D N) := by
  subst hnd
  have hdp3 : ¬ (dp - 1 < -4) := by omega
  have hfin : ∀ (v' : Value) (w' : World) (N' : Nat) (ys : List Int), Bu W0 w' v' (xs ++ ys) bb D N' → N' ≤ N + 100 → efeL neg D 0 dp = ys → FmtPost W0 xs (efeL neg D 0 dp) bb D N (.returned v') w' := fun v' w' N' ys h1 h2 h3 => ⟨v', N', rfl, h2, by rw [h3]; exact h1⟩
  have HFIN := Lib.hid hfin
  have hsg : efeL neg D 0 dp = sgnI neg ++ [48] ++ [101] ++ [43] ++ expD 0 := by
    unfold efeL
    simp
  have HSG := Lib.hid hsg
  clear hfin hsg
  cases neg
  · go_enter Tryz.func76, Tryz.ntmps76
    go_wp2_with (at_builtin; first
    | (refine wp_app1 rfl _ _ rfl W0 _ _ _ _ _ _ _ rfl rfl (by assumption) (by assumption) (by omega) ?_; intro _ _ hbu hbl)
    | (refine wp_app2 rfl _ _ rfl W0 _ _ _ _ _ _ _ _ rfl rfl (by assumption) (by assumption) (by omega) ?_; intro _ _ hbu hbl)
    | (refine wp_app3 rfl _ _ rfl W0 _ _ _ _ _ _ _ _ _ rfl rfl (by assumption) (by assumption) (by omega) ?_; intro _ _ hbu hbl)
    | (refine wp_appD rfl _ _ rfl W0 _ _ _ _ _ _ _ _ _ rfl rfl (by assumption) (by assumption) (by omega) (by omega) (by omega) ?_; intro _ _ hbu hbl))
    all_goals
      go_ret
      simp only [List.append_assoc] at hbu
      refine HFIN.out _ _ _ _ hbu (by omega) ?_
      rw [HSG.out]
      unfold expD
      first
        | (rw [if_pos (by omega)]; simp [sgnI, bytesI]; done)
        | (rw [if_neg (by omega), if_pos (by omega)]; simp [sgnI, bytesI]; done)
        | (rw [if_neg (by omega), if_neg (by omega)]; simp [sgnI, bytesI]; done)
  · go_enter Tryz.func76, Tryz.ntmps76
    go_wp2_with (at_builtin; first
    | (refine wp_app1 rfl _ _ rfl W0 _ _ _ _ _ _ _ rfl rfl (by assumption) (by assumption) (by omega) ?_; intro _ _ hbu hbl)
    | (refine wp_app2 rfl _ _ rfl W0 _ _ _ _ _ _ _ _ rfl rfl (by assumption) (by assumption) (by omega) ?_; intro _ _ hbu hbl)
    | (refine wp_app3 rfl _ _ rfl W0 _ _ _ _ _ _ _ _ _ rfl rfl (by assumption) (by assumption) (by omega) ?_; intro _ _ hbu hbl)
    | (refine wp_appD rfl _ _ rfl W0 _ _ _ _ _ _ _ _ _ rfl rfl (by assumption) (by assumption) (by omega) (by omega) (by omega) ?_; intro _ _ hbu hbl))
    all_goals
      go_ret
      simp only [List.append_assoc] at hbu
      refine HFIN.out _ _ _ _ hbu (by omega) ?_
      rw [HSG.out]
      unfold expD
      first
        | (rw [if_pos (by omega)]; simp [sgnI, bytesI]; done)
        | (rw [if_neg (by omega), if_pos (by omega)]; simp [sgnI, bytesI]; done)
        | (rw [if_neg (by omega), if_neg (by omega)]; simp [sgnI, bytesI]; done)
set_option maxRecDepth 100000 in
set_option maxHeartbeats 8000000 in
theorem efe_0neg (neg : Bool) (W0 w : World) (v : Value) (xs : List Int) (bb : Nat) (D : List UInt8) (N nd : Nat) (dp : Int) (hb : Bu W0 w v xs bb D N) (hbl : bb < w.heap.size) (hN : N ≤ 1000) (hdl : nd ≤ D.length) (hd20 : nd ≤ 20) (hnd : nd = 0) (hdp : dp - 1 < -4) (hdp2 : -400 ≤ dp) : Calls Tryz.prog 76 #[v, .bool neg, .slice (some ⟨bb, 0, none⟩) 32 32, .int .i64 dp, .int .i64 nd, .int .i64 nd, .int .u8 103, .bool true] w (FmtPost W0 xs (efeL neg D nd dp) bb D N) := by
  subst hnd
  have hfin : ∀ (v' : Value) (w' : World) (N' : Nat) (ys : List Int), Bu W0 w' v' (xs ++ ys) bb D N' → N' ≤ N + 100 → efeL neg D 0 dp = ys → FmtPost W0 xs (efeL neg D 0 dp) bb D N (.returned v') w' := fun v' w' N' ys h1 h2 h3 => ⟨v', N', rfl, h2, by rw [h3]; exact h1⟩
  have HFIN := Lib.hid hfin
  have hsg : efeL neg D 0 dp = sgnI neg ++ [48] ++ [101] ++ [43] ++ expD 0 := by
    unfold efeL
    simp
  have HSG := Lib.hid hsg
  clear hfin hsg
  cases neg
  · go_enter Tryz.func76, Tryz.ntmps76
    go_wp2_with (at_builtin; first
    | (refine wp_app1 rfl _ _ rfl W0 _ _ _ _ _ _ _ rfl rfl (by assumption) (by assumption) (by omega) ?_; intro _ _ hbu hbl)
    | (refine wp_app2 rfl _ _ rfl W0 _ _ _ _ _ _ _ _ rfl rfl (by assumption) (by assumption) (by omega) ?_; intro _ _ hbu hbl)
    | (refine wp_app3 rfl _ _ rfl W0 _ _ _ _ _ _ _ _ _ rfl rfl (by assumption) (by assumption) (by omega) ?_; intro _ _ hbu hbl)
    | (refine wp_appD rfl _ _ rfl W0 _ _ _ _ _ _ _ _ _ rfl rfl (by assumption) (by assumption) (by omega) (by omega) (by omega) ?_; intro _ _ hbu hbl))
    all_goals
      go_ret
      simp only [List.append_assoc] at hbu
      refine HFIN.out _ _ _ _ hbu (by omega) ?_
      rw [HSG.out]
      unfold expD
      first
        | (rw [if_pos (by omega)]; simp [sgnI, bytesI]; done)
        | (rw [if_neg (by omega), if_pos (by omega)]; simp [sgnI, bytesI]; done)
        | (rw [if_neg (by omega), if_neg (by omega)]; simp [sgnI, bytesI]; done)
  · go_enter Tryz.func76, Tryz.ntmps76
    go_wp2_with (at_builtin; first
    | (refine wp_app1 rfl _ _ rfl W0 _ _ _ _ _ _ _ rfl rfl (by assumption) (by assumption) (by omega) ?_; intro _ _ hbu hbl)
    | (refine wp_app2 rfl _ _ rfl W0 _ _ _ _ _ _ _ _ rfl rfl (by assumption) (by assumption) (by omega) ?_; intro _ _ hbu hbl)
    | (refine wp_app3 rfl _ _ rfl W0 _ _ _ _ _ _ _ _ _ rfl rfl (by assumption) (by assumption) (by omega) ?_; intro _ _ hbu hbl)
    | (refine wp_appD rfl _ _ rfl W0 _ _ _ _ _ _ _ _ _ rfl rfl (by assumption) (by assumption) (by omega) (by omega) (by omega) ?_; intro _ _ hbu hbl))
    all_goals
      go_ret
      simp only [List.append_assoc] at hbu
      refine HFIN.out _ _ _ _ hbu (by omega) ?_
      rw [HSG.out]
      unfold expD
      first
        | (rw [if_pos (by omega)]; simp [sgnI, bytesI]; done)
        | (rw [if_neg (by omega), if_pos (by omega)]; simp [sgnI, bytesI]; done)
        | (rw [if_neg (by omega), if_neg (by omega)]; simp [sgnI, bytesI]; done)
set_option maxRecDepth 100000 in
set_option maxHeartbeats 8000000 in
theorem efe_1pos (neg : Bool) (W0 w : World) (v : Value) (xs : List Int) (bb : Nat) (D : List UInt8) (N nd : Nat) (dp : Int) (hb : Bu W0 w v xs bb D N) (hbl : bb < w.heap.size) (hN : N ≤ 1000) (hdl : nd ≤ D.length) (hd20 : nd ≤ 20) (hnd : nd = 1) (hdp : 6 ≤ dp - 1) (hdp2 : dp ≤ 400) : Calls Tryz.prog 76 #[v, .bool neg, .slice (some ⟨bb, 0, none⟩) 32 32, .int .i64 dp, .int .i64 nd, .int .i64 nd, .int .u8 103, .bool true] w (FmtPost W0 xs (efeL neg D nd dp) bb D N) := by
  obtain ⟨d0, hd0e⟩ : ∃ d0 : Int, ((D.getD 0 0).toNat : Int) = d0 := ⟨_, rfl⟩
  have hd0 : w.cell? ⟨bb, 0, none⟩ = some (.int .u8 d0) := by rw [← hd0e]; exact digs_at hb.2.2.2.2.1 0 (by omega)
  have HD0 := Lib.hid hd0e
  have HPOS := Lib.hid (show 0 < D.length by omega)
  subst hnd
  have hdp3 : ¬ (dp - 1 < -4) := by omega
  have hfin : ∀ (v' : Value) (w' : World) (N' : Nat) (ys : List Int), Bu W0 w' v' (xs ++ ys) bb D N' → N' ≤ N + 100 → efeL neg D 1 dp = ys → FmtPost W0 xs (efeL neg D 1 dp) bb D N (.returned v') w' := fun v' w' N' ys h1 h2 h3 => ⟨v', N', rfl, h2, by rw [h3]; exact h1⟩
  have HFIN := Lib.hid hfin
  have hsg : efeL neg D 1 dp = sgnI neg ++ [d0] ++ [101] ++ [43] ++ expD (dp - 1) := by
    unfold efeL
    rw [HD0.out]; simp [hdp, show ¬ (dp - 1 < 0) by omega]
  have HSG := Lib.hid hsg
  clear hfin hsg hd0e
  cases neg
  · go_enter Tryz.func76, Tryz.ntmps76
    go_wp2_with (at_builtin; first
    | (refine wp_app1 rfl _ _ rfl W0 _ _ _ _ _ _ _ rfl rfl (by assumption) (by assumption) (by omega) ?_; intro _ _ hbu hbl; have hdx := bu_d0 hbu HPOS.out HD0.out)
    | (refine wp_app2 rfl _ _ rfl W0 _ _ _ _ _ _ _ _ rfl rfl (by assumption) (by assumption) (by omega) ?_; intro _ _ hbu hbl; have hdx := bu_d0 hbu HPOS.out HD0.out)
    | (refine wp_app3 rfl _ _ rfl W0 _ _ _ _ _ _ _ _ _ rfl rfl (by assumption) (by assumption) (by omega) ?_; intro _ _ hbu hbl; have hdx := bu_d0 hbu HPOS.out HD0.out)
    | (refine wp_appD rfl _ _ rfl W0 _ _ _ _ _ _ _ _ _ rfl rfl (by assumption) (by assumption) (by omega) (by omega) (by omega) ?_; intro _ _ hbu hbl; have hdx := bu_d0 hbu HPOS.out HD0.out))
    all_goals
      go_ret
      simp only [List.append_assoc] at hbu
      refine HFIN.out _ _ _ _ hbu (by omega) ?_
      rw [HSG.out]
      unfold expD
      first
        | (rw [if_pos (by omega)]; simp [sgnI, bytesI]; done)
        | (rw [if_neg (by omega), if_pos (by omega)]; simp [sgnI, bytesI]; done)
        | (rw [if_neg (by omega), if_neg (by omega)]; simp [sgnI, bytesI]; done)
  · go_enter Tryz.func76, Tryz.ntmps76
    go_wp2_with (at_builtin; first
    | (refine wp_app1 rfl _ _ rfl W0 _ _ _ _ _ _ _ rfl rfl (by assumption) (by assumption) (by omega) ?_; intro _ _ hbu hbl; have hdx := bu_d0 hbu HPOS.out HD0.out)
    | (refine wp_app2 rfl _ _ rfl W0 _ _ _ _ _ _ _ _ rfl rfl (by assumption) (by assumption) (by omega) ?_; intro _ _ hbu hbl; have hdx := bu_d0 hbu HPOS.out HD0.out)
    | (refine wp_app3 rfl _ _ rfl W0 _ _ _ _ _ _ _ _ _ rfl rfl (by assumption) (by assumption) (by omega) ?_; intro _ _ hbu hbl; have hdx := bu_d0 hbu HPOS.out HD0.out)
    | (refine wp_appD rfl _ _ rfl W0 _ _ _ _ _ _ _ _ _ rfl rfl (by assumption) (by assumption) (by omega) (by omega) (by omega) ?_; intro _ _ hbu hbl; have hdx := bu_d0 hbu HPOS.out HD0.out))
    all_goals
      go_ret
      simp only [List.append_assoc] at hbu
      refine HFIN.out _ _ _ _ hbu (by omega) ?_
      rw [HSG.out]
      unfold expD
      first
        | (rw [if_pos (by omega)]; simp [sgnI, bytesI]; done)
        | (rw [if_neg (by omega), if_pos (by omega)]; simp [sgnI, bytesI]; done)
        | (rw [if_neg (by omega), if_neg (by omega)]; simp [sgnI, bytesI]; done)
set_option maxRecDepth 100000 in
set_option maxHeartbeats 8000000 in
theorem efe_1neg (neg : Bool) (W0 w : World) (v : Value) (xs : List Int) (bb : Nat) (D : List UInt8) (N nd : Nat) (dp : Int) (hb : Bu W0 w v xs bb D N) (hbl : bb < w.heap.size) (hN : N ≤ 1000) (hdl : nd ≤ D.length) (hd20 : nd ≤ 20) (hnd : nd = 1) (hdp : dp - 1 < -4) (hdp2 : -400 ≤ dp) : Calls Tryz.prog 76 #[v, .bool neg, .slice (some ⟨bb, 0, none⟩) 32 32, .int .i64 dp, .int .i64 nd, .int .i64 nd, .int .u8 103, .bool true] w (FmtPost W0 xs (efeL neg D nd dp) bb D N) := by
  obtain ⟨d0, hd0e⟩ : ∃ d0 : Int, ((D.getD 0 0).toNat : Int) = d0 := ⟨_, rfl⟩
  have hd0 : w.cell? ⟨bb, 0, none⟩ = some (.int .u8 d0) := by rw [← hd0e]; exact digs_at hb.2.2.2.2.1 0 (by omega)
  have HD0 := Lib.hid hd0e
  have HPOS := Lib.hid (show 0 < D.length by omega)
  subst hnd
  obtain ⟨x, hx⟩ : ∃ x, -(dp - 1) = x := ⟨_, rfl⟩
  have hx0 : 0 ≤ x := by omega
  have hx4 : x ≤ 500 := by omega
  have hng : dp - 1 < 0 := by omega
  have hfin : ∀ (v' : Value) (w' : World) (N' : Nat) (ys : List Int), Bu W0 w' v' (xs ++ ys) bb D N' → N' ≤ N + 100 → efeL neg D 1 dp = ys → FmtPost W0 xs (efeL neg D 1 dp) bb D N (.returned v') w' := fun v' w' N' ys h1 h2 h3 => ⟨v', N', rfl, h2, by rw [h3]; exact h1⟩
  have HFIN := Lib.hid hfin
  have hsg : efeL neg D 1 dp = sgnI neg ++ [d0] ++ [101] ++ [45] ++ expD x := by
    unfold efeL
    rw [HD0.out]; simp [show dp - 1 < 0 by omega, hx]
  have HSG := Lib.hid hsg
  clear hfin hsg hd0e
  cases neg
  · go_enter Tryz.func76, Tryz.ntmps76
    go_wp2_with (at_builtin; first
    | (refine wp_app1 rfl _ _ rfl W0 _ _ _ _ _ _ _ rfl rfl (by assumption) (by assumption) (by omega) ?_; intro _ _ hbu hbl; have hdx := bu_d0 hbu HPOS.out HD0.out)
    | (refine wp_app2 rfl _ _ rfl W0 _ _ _ _ _ _ _ _ rfl rfl (by assumption) (by assumption) (by omega) ?_; intro _ _ hbu hbl; have hdx := bu_d0 hbu HPOS.out HD0.out)
    | (refine wp_app3 rfl _ _ rfl W0 _ _ _ _ _ _ _ _ _ rfl rfl (by assumption) (by assumption) (by omega) ?_; intro _ _ hbu hbl; have hdx := bu_d0 hbu HPOS.out HD0.out)
    | (refine wp_appD rfl _ _ rfl W0 _ _ _ _ _ _ _ _ _ rfl rfl (by assumption) (by assumption) (by omega) (by omega) (by omega) ?_; intro _ _ hbu hbl; have hdx := bu_d0 hbu HPOS.out HD0.out))
    all_goals
      go_ret
      simp only [List.append_assoc] at hbu
      refine HFIN.out _ _ _ _ hbu (by omega) ?_
      rw [HSG.out]
      unfold expD
      first
        | (rw [if_pos (by omega)]; simp [sgnI, bytesI]; done)
        | (rw [if_neg (by omega), if_pos (by omega)]; simp [sgnI, bytesI]; done)
        | (rw [if_neg (by omega), if_neg (by omega)]; simp [sgnI, bytesI]; done)
  · go_enter Tryz.func76, Tryz.ntmps76
    go_wp2_with (at_builtin; first
    | (refine wp_app1 rfl _ _ rfl W0 _ _ _ _ _ _ _ rfl rfl (by assumption) (by assumption) (by omega) ?_; intro _ _ hbu hbl; have hdx := bu_d0 hbu HPOS.out HD0.out)
    | (refine wp_app2 rfl _ _ rfl W0 _ _ _ _ _ _ _ _ rfl rfl (by assumption) (by assumption) (by omega) ?_; intro _ _ hbu hbl; have hdx := bu_d0 hbu HPOS.out HD0.out)
    | (refine wp_app3 rfl _ _ rfl W0 _ _ _ _ _ _ _ _ _ rfl rfl (by assumption) (by assumption) (by omega) ?_; intro _ _ hbu hbl; have hdx := bu_d0 hbu HPOS.out HD0.out)
    | (refine wp_appD rfl _ _ rfl W0 _ _ _ _ _ _ _ _ _ rfl rfl (by assumption) (by assumption) (by omega) (by omega) (by omega) ?_; intro _ _ hbu hbl; have hdx := bu_d0 hbu HPOS.out HD0.out))
    all_goals
      go_ret
      simp only [List.append_assoc] at hbu
      refine HFIN.out _ _ _ _ hbu (by omega) ?_
      rw [HSG.out]
      unfold expD
      first
        | (rw [if_pos (by omega)]; simp [sgnI, bytesI]; done)
        | (rw [if_neg (by omega), if_pos (by omega)]; simp [sgnI, bytesI]; done)
        | (rw [if_neg (by omega), if_neg (by omega)]; simp [sgnI, bytesI]; done)
set_option maxRecDepth 100000 in
set_option maxHeartbeats 8000000 in
theorem efe_2pos (neg : Bool) (W0 w : World) (v : Value) (xs : List Int) (bb : Nat) (D : List UInt8) (N nd : Nat) (dp : Int) (hb : Bu W0 w v xs bb D N) (hbl : bb < w.heap.size) (hN : N ≤ 1000) (hdl : nd ≤ D.length) (hd20 : nd ≤ 20) (hnd : 2 ≤ nd) (hdp : 6 ≤ dp - 1) (hdp2 : dp ≤ 400) : Calls Tryz.prog 76 #[v, .bool neg, .slice (some ⟨bb, 0, none⟩) 32 32, .int .i64 dp, .int .i64 nd, .int .i64 nd, .int .u8 103, .bool true] w (FmtPost W0 xs (efeL neg D nd dp) bb D N) := by
  obtain ⟨d0, hd0e⟩ : ∃ d0 : Int, ((D.getD 0 0).toNat : Int) = d0 := ⟨_, rfl⟩
  have hd0 : w.cell? ⟨bb, 0, none⟩ = some (.int .u8 d0) := by rw [← hd0e]; exact digs_at hb.2.2.2.2.1 0 (by omega)
  have HD0 := Lib.hid hd0e
  have HPOS := Lib.hid (show 0 < D.length by omega)
  have hdp3 : ¬ (dp - 1 < -4) := by omega
  have hndz : ((nd : Int) != 0) = true := by rw [bne_iff_ne]; omega
  have hfin : ∀ (v' : Value) (w' : World) (N' : Nat) (ys : List Int), Bu W0 w' v' (xs ++ ys) bb D N' → N' ≤ N + 100 → efeL neg D nd dp = ys → FmtPost W0 xs (efeL neg D nd dp) bb D N (.returned v') w' := fun v' w' N' ys h1 h2 h3 => ⟨v', N', rfl, h2, by rw [h3]; exact h1⟩
  have HFIN := Lib.hid hfin
  have hsg : efeL neg D nd dp = sgnI neg ++ [d0] ++ ([46] ++ bytesI ((D.drop 1).take (nd - 1))) ++ [101] ++ [43] ++ expD (dp - 1) := by
    unfold efeL
    rw [HD0.out]; simp [hnd, show ¬ (nd = 0) by omega, hdp, show ¬ (dp - 1 < 0) by omega]
  have HSG := Lib.hid hsg
  clear hfin hsg hd0e
  cases neg
  · go_enter Tryz.func76, Tryz.ntmps76
    go_wp2_with (at_builtin; first
    | (refine wp_app1 rfl _ _ rfl W0 _ _ _ _ _ _ _ rfl rfl (by assumption) (by assumption) (by omega) ?_; intro _ _ hbu hbl; have hdx := bu_d0 hbu HPOS.out HD0.out)
    | (refine wp_app2 rfl _ _ rfl W0 _ _ _ _ _ _ _ _ rfl rfl (by assumption) (by assumption) (by omega) ?_; intro _ _ hbu hbl; have hdx := bu_d0 hbu HPOS.out HD0.out)
    | (refine wp_app3 rfl _ _ rfl W0 _ _ _ _ _ _ _ _ _ rfl rfl (by assumption) (by assumption) (by omega) ?_; intro _ _ hbu hbl; have hdx := bu_d0 hbu HPOS.out HD0.out)
    | (refine wp_appD rfl _ _ rfl W0 _ _ _ _ _ _ _ _ _ rfl rfl (by assumption) (by assumption) (by omega) (by omega) (by omega) ?_; intro _ _ hbu hbl; have hdx := bu_d0 hbu HPOS.out HD0.out))
    refine wp_loop_rounds 1 ?_
    rw [rounds_succ]
    go_wp2_with (at_builtin; first
    | (refine wp_app1 rfl _ _ rfl W0 _ _ _ _ _ _ _ rfl rfl (by assumption) (by assumption) (by omega) ?_; intro _ _ hbu hbl; have hdx := bu_d0 hbu HPOS.out HD0.out)
    | (refine wp_app2 rfl _ _ rfl W0 _ _ _ _ _ _ _ _ rfl rfl (by assumption) (by assumption) (by omega) ?_; intro _ _ hbu hbl; have hdx := bu_d0 hbu HPOS.out HD0.out)
    | (refine wp_app3 rfl _ _ rfl W0 _ _ _ _ _ _ _ _ _ rfl rfl (by assumption) (by assumption) (by omega) ?_; intro _ _ hbu hbl; have hdx := bu_d0 hbu HPOS.out HD0.out)
    | (refine wp_appD rfl _ _ rfl W0 _ _ _ _ _ _ _ _ _ rfl rfl (by assumption) (by assumption) (by omega) (by omega) (by omega) ?_; intro _ _ hbu hbl; have hdx := bu_d0 hbu HPOS.out HD0.out))
    all_goals
      go_ret
      simp only [List.append_assoc] at hbu
      refine HFIN.out _ _ _ _ hbu (by omega) ?_
      rw [HSG.out]
      unfold expD
      first
        | (rw [if_pos (by omega)]; simp [sgnI, bytesI]; done)
        | (rw [if_neg (by omega), if_pos (by omega)]; simp [sgnI, bytesI]; done)
        | (rw [if_neg (by omega), if_neg (by omega)]; simp [sgnI, bytesI]; done)
  · go_enter Tryz.func76, Tryz.ntmps76
    go_wp2_with (at_builtin; first
    | (refine wp_app1 rfl _ _ rfl W0 _ _ _ _ _ _ _ rfl rfl (by assumption) (by assumption) (by omega) ?_; intro _ _ hbu hbl; have hdx := bu_d0 hbu HPOS.out HD0.out)
    | (refine wp_app2 rfl _ _ rfl W0 _ _ _ _ _ _ _ _ rfl rfl (by assumption) (by assumption) (by omega) ?_; intro _ _ hbu hbl; have hdx := bu_d0 hbu HPOS.out HD0.out)
    | (refine wp_app3 rfl _ _ rfl W0 _ _ _ _ _ _ _ _ _ rfl rfl (by assumption) (by assumption) (by omega) ?_; intro _ _ hbu hbl; have hdx := bu_d0 hbu HPOS.out HD0.out)
    | (refine wp_appD rfl _ _ rfl W0 _ _ _ _ _ _ _ _ _ rfl rfl (by assumption) (by assumption) (by omega) (by omega) (by omega) ?_; intro _ _ hbu hbl; have hdx := bu_d0 hbu HPOS.out HD0.out))
    refine wp_loop_rounds 1 ?_
    rw [rounds_succ]
    go_wp2_with (at_builtin; first
    | (refine wp_app1 rfl _ _ rfl W0 _ _ _ _ _ _ _ rfl rfl (by assumption) (by assumption) (by omega) ?_; intro _ _ hbu hbl; have hdx := bu_d0 hbu HPOS.out HD0.out)
    | (refine wp_app2 rfl _ _ rfl W0 _ _ _ _ _ _ _ _ rfl rfl (by assumption) (by assumption) (by omega) ?_; intro _ _ hbu hbl; have hdx := bu_d0 hbu HPOS.out HD0.out)
    | (refine wp_app3 rfl _ _ rfl W0 _ _ _ _ _ _ _ _ _ rfl rfl (by assumption) (by assumption) (by omega) ?_; intro _ _ hbu hbl; have hdx := bu_d0 hbu HPOS.out HD0.out)
    | (refine wp_appD rfl _ _ rfl W0 _ _ _ _ _ _ _ _ _ rfl rfl (by assumption) (by assumption) (by omega) (by omega) (by omega) ?_; intro _ _ hbu hbl; have hdx := bu_d0 hbu HPOS.out HD0.out))
    all_goals
      go_ret
      simp only [List.append_assoc] at hbu
      refine HFIN.out _ _ _ _ hbu (by omega) ?_
      rw [HSG.out]
      unfold expD
      first
        | (rw [if_pos (by omega)]; simp [sgnI, bytesI]; done)
        | (rw [if_neg (by omega), if_pos (by omega)]; simp [sgnI, bytesI]; done)
        | (rw [if_neg (by omega), if_neg (by omega)]; simp [sgnI, bytesI]; done)
set_option maxRecDepth 100000 in
set_option maxHeartbeats 8000000 in
theorem efe_2neg (neg : Bool) (W0 w : World) (v : Value) (xs : List Int) (bb : Nat) (D : List UInt8) (N nd : Nat) (dp : Int) (hb : Bu W0 w v xs bb D N) (hbl : bb < w.heap.size) (hN : N ≤ 1000) (hdl : nd ≤ D.length) (hd20 : nd ≤ 20) (hnd : 2 ≤ nd) (hdp : dp - 1 < -4) (hdp2 : -400 ≤ dp) : Calls Tryz.prog 76 #[v, .bool neg, .slice (some ⟨bb, 0, none⟩) 32 32, .int .i64 dp, .int .i64 nd, .int .i64 nd, .int .u8 103, .bool true] w (FmtPost W0 xs (efeL neg D nd dp) bb D N) := by
  obtain ⟨d0, hd0e⟩ : ∃ d0 : Int, ((D.getD 0 0).toNat : Int) = d0 := ⟨_, rfl⟩
  have hd0 : w.cell? ⟨bb, 0, none⟩ = some (.int .u8 d0) := by rw [← hd0e]; exact digs_at hb.2.2.2.2.1 0 (by omega)
  have HD0 := Lib.hid hd0e
  have HPOS := Lib.hid (show 0 < D.length by omega)
  have hndz : ((nd : Int) != 0) = true := by rw [bne_iff_ne]; omega
  obtain ⟨x, hx⟩ : ∃ x, -(dp - 1) = x := ⟨_, rfl⟩
  have hx0 : 0 ≤ x := by omega
  have hx4 : x ≤ 500 := by omega
  have hng : dp - 1 < 0 := by omega
  have hfin : ∀ (v' : Value) (w' : World) (N' : Nat) (ys : List Int), Bu W0 w' v' (xs ++ ys) bb D N' → N' ≤ N + 100 → efeL neg D nd dp = ys → FmtPost W0 xs (efeL neg D nd dp) bb D N (.returned v') w' := fun v' w' N' ys h1 h2 h3 => ⟨v', N', rfl, h2, by rw [h3]; exact h1⟩
  have HFIN := Lib.hid hfin
  have hsg : efeL neg D nd dp = sgnI neg ++ [d0] ++ ([46] ++ bytesI ((D.drop 1).take (nd - 1))) ++ [101] ++ [45] ++ expD x := by
    unfold efeL
    rw [HD0.out]; simp [hnd, show ¬ (nd = 0) by omega, show dp - 1 < 0 by omega, hx]
  have HSG := Lib.hid hsg
  clear hfin hsg hd0e
  cases neg
  · go_enter Tryz.func76, Tryz.ntmps76
    go_wp2_with (at_builtin; first
    | (refine wp_app1 rfl _ _ rfl W0 _ _ _ _ _ _ _ rfl rfl (by assumption) (by assumption) (by omega) ?_; intro _ _ hbu hbl; have hdx := bu_d0 hbu HPOS.out HD0.out)
    | (refine wp_app2 rfl _ _ rfl W0 _ _ _ _ _ _ _ _ rfl rfl (by assumption) (by assumption) (by omega) ?_; intro _ _ hbu hbl; have hdx := bu_d0 hbu HPOS.out HD0.out)
    | (refine wp_app3 rfl _ _ rfl W0 _ _ _ _ _ _ _ _ _ rfl rfl (by assumption) (by assumption) (by omega) ?_; intro _ _ hbu hbl; have hdx := bu_d0 hbu HPOS.out HD0.out)
    | (refine wp_appD rfl _ _ rfl W0 _ _ _ _ _ _ _ _ _ rfl rfl (by assumption) (by assumption) (by omega) (by omega) (by omega) ?_; intro _ _ hbu hbl; have hdx := bu_d0 hbu HPOS.out HD0.out))
    refine wp_loop_rounds 1 ?_
    rw [rounds_succ]
    go_wp2_with (at_builtin; first
    | (refine wp_app1 rfl _ _ rfl W0 _ _ _ _ _ _ _ rfl rfl (by assumption) (by assumption) (by omega) ?_; intro _ _ hbu hbl; have hdx := bu_d0 hbu HPOS.out HD0.out)
    | (refine wp_app2 rfl _ _ rfl W0 _ _ _ _ _ _ _ _ rfl rfl (by assumption) (by assumption) (by omega) ?_; intro _ _ hbu hbl; have hdx := bu_d0 hbu HPOS.out HD0.out)
    | (refine wp_app3 rfl _ _ rfl W0 _ _ _ _ _ _ _ _ _ rfl rfl (by assumption) (by assumption) (by omega) ?_; intro _ _ hbu hbl; have hdx := bu_d0 hbu HPOS.out HD0.out)
    | (refine wp_appD rfl _ _ rfl W0 _ _ _ _ _ _ _ _ _ rfl rfl (by assumption) (by assumption) (by omega) (by omega) (by omega) ?_; intro _ _ hbu hbl; have hdx := bu_d0 hbu HPOS.out HD0.out))
    all_goals
      go_ret
      simp only [List.append_assoc] at hbu
      refine HFIN.out _ _ _ _ hbu (by omega) ?_
      rw [HSG.out]
      unfold expD
      first
        | (rw [if_pos (by omega)]; simp [sgnI, bytesI]; done)
        | (rw [if_neg (by omega), if_pos (by omega)]; simp [sgnI, bytesI]; done)
        | (rw [if_neg (by omega), if_neg (by omega)]; simp [sgnI, bytesI]; done)
  · go_enter Tryz.func76, Tryz.ntmps76
    go_wp2_with (at_builtin; first
    | (refine wp_app1 rfl _ _ rfl W0 _ _ _ _ _ _ _ rfl rfl (by assumption) (by assumption) (by omega) ?_; intro _ _ hbu hbl; have hdx := bu_d0 hbu HPOS.out HD0.out)
    | (refine wp_app2 rfl _ _ rfl W0 _ _ _ _ _ _ _ _ rfl rfl (by assumption) (by assumption) (by omega) ?_; intro _ _ hbu hbl; have hdx := bu_d0 hbu HPOS.out HD0.out)
    | (refine wp_app3 rfl _ _ rfl W0 _ _ _ _ _ _ _ _ _ rfl rfl (by assumption) (by assumption) (by omega) ?_; intro _ _ hbu hbl; have hdx := bu_d0 hbu HPOS.out HD0.out)
    | (refine wp_appD rfl _ _ rfl W0 _ _ _ _ _ _ _ _ _ rfl rfl (by assumption) (by assumption) (by omega) (by omega) (by omega) ?_; intro _ _ hbu hbl; have hdx := bu_d0 hbu HPOS.out HD0.out))
    refine wp_loop_rounds 1 ?_
    rw [rounds_succ]
    go_wp2_with (at_builtin; first
    | (refine wp_app1 rfl _ _ rfl W0 _ _ _ _ _ _ _ rfl rfl (by assumption) (by assumption) (by omega) ?_; intro _ _ hbu hbl; have hdx := bu_d0 hbu HPOS.out HD0.out)
    | (refine wp_app2 rfl _ _ rfl W0 _ _ _ _ _ _ _ _ rfl rfl (by assumption) (by assumption) (by omega) ?_; intro _ _ hbu hbl; have hdx := bu_d0 hbu HPOS.out HD0.out)
    | (refine wp_app3 rfl _ _ rfl W0 _ _ _ _ _ _ _ _ _ rfl rfl (by assumption) (by assumption) (by omega) ?_; intro _ _ hbu hbl; have hdx := bu_d0 hbu HPOS.out HD0.out)
    | (refine wp_appD rfl _ _ rfl W0 _ _ _ _ _ _ _ _ _ rfl rfl (by assumption) (by assumption) (by omega) (by omega) (by omega) ?_; intro _ _ hbu hbl; have hdx := bu_d0 hbu HPOS.out HD0.out))
    all_goals
      go_ret
      simp only [List.append_assoc] at hbu
      refine HFIN.out _ _ _ _ hbu (by omega) ?_
      rw [HSG.out]
      unfold expD
      first
        | (rw [if_pos (by omega)]; simp [sgnI, bytesI]; done)
        | (rw [if_neg (by omega), if_pos (by omega)]; simp [sgnI, bytesI]; done)
        | (rw [if_neg (by omega), if_neg (by omega)]; simp [sgnI, bytesI]; done)
end Num
end Go.Proofs.YtahcgdjcjapnkaaGreatDoor
