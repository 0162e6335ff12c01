/-
  The decimal form without an exponent (internal/strconv.fmtEFG): the shortest digits.
-/
import Derived.Test.YtahcgdjcjapnkaaGreatDoorVEfe
namespace Go.Proofs.YtahcgdjcjapnkaaGreatDoor
open Go.RowKit
namespace Num
open Ints
set_option linter.unusedSimpArgs false
set_option linter.unusedVariables false
theorem bu_dk {W0 w : World} {v : Value} {xs : List Int} {bb : Nat} {D : List UInt8} {N : Nat} (h : Bu W0 w v xs bb D N) (k : Nat) (hk : k < D.length) : w.cell? ⟨bb, k, none⟩ = some (.int .u8 ((D[k].toNat : Nat) : Int)) := h.2.2.2.2.1 k hk
theorem bytes_snoc (D : List UInt8) (i k : Nat) (h : i + k < D.length) : bytesI ((D.drop i).take (k + 1)) = bytesI ((D.drop i).take k) ++ [((D[i + k].toNat : Nat) : Int)] := by
  unfold bytesI
  rw [List.take_succ_eq_append_getElem (by rw [List.length_drop]; omega), List.map_append, List.getElem_drop]
  rfl
theorem rep_snoc (k : Nat) (c : Int) : List.replicate (k + 1) c = List.replicate k c ++ [c] := List.replicate_succ'
theorem bu_cast {W0 w : World} {v : Value} {xs ys : List Int} {bb : Nat} {D : List UInt8} {N M : Nat} (h : Bu W0 w v xs bb D N) (e : xs = ys) (hN : N ≤ M) : Bu W0 w v ys bb D M := by
  subst e
  obtain ⟨h1, h2, h3, h4, h5, h6⟩ := h
  exact ⟨h1, h2, h3, h4, h5, by omega⟩
def fdfL (neg : Bool) (D : List UInt8) (nd : Nat) (dp : Int) : List Int :=
  sgnI neg ++ (if 0 < dp then bytesI (D.take (min nd dp.toNat)) ++ List.replicate (dp.toNat - nd) 48 ++ (if dp.toNat < nd then [46] ++ bytesI ((D.drop dp.toNat).take (nd - dp.toNat)) else [])
    else [48] ++ (if 0 < (nd : Int) - dp then [46] ++ List.replicate (-dp).toNat 48 ++ bytesI (D.take nd) else []))
set_option maxRecDepth 100000 in
set_option maxHeartbeats 8000000 in
theorem fdf_1 (neg : Bool) (W0 w : World) (v : Value) (xs : List Int) (bb : Nat) (D : List UInt8) (N nd q : Nat) (hb : Bu W0 w v xs bb D N) (hbl : bb < w.heap.size) (hN : N ≤ 1000) (hdl : nd ≤ D.length) (hd20 : nd ≤ 20) (hq : 0 < q) (hq2 : q ≤ 6) (hle : nd ≤ q) : Calls Tryz.prog 76 #[v, .bool neg, .slice (some ⟨bb, 0, none⟩) 32 32, .int .i64 (q : Int), .int .i64 nd, .int .i64 nd, .int .u8 103, .bool true] w (FmtPost W0 xs (fdfL neg D nd (q : Int)) bb D (N + 200)) := by
  have hfin : ∀ (v' : Value) (w' : World) (N' : Nat) (ys : List Int), Bu W0 w' v' ys bb D N' → N' ≤ N + 300 → xs ++ fdfL neg D nd (q : Int) = ys → FmtPost W0 xs (fdfL neg D nd (q : Int)) bb D (N + 200) (.returned v') w' := fun v' w' N' ys h1 h2 h3 => ⟨v', N', rfl, by omega, by rw [h3]; exact h1⟩
  have HFIN := Lib.hid hfin
  clear hfin
  have hx1 : ¬ ((q : Int) - 1 < -4) := by omega
  have hx2 : ¬ (6 ≤ (q : Int) - 1) := by omega
  have hmax : max ((nd : Int) - (q : Int)) 0 = 0 := by omega
  have hmin : min (nd : Int) (q : Int) = (nd : Int) := by omega
  have hq' : (0 : Int) < (q : Int) := by omega
  cases neg
  · go_enter Tryz.func76, Tryz.ntmps76
    go_wp2_with (at_builtin; first
    | (refine wp_app1 rfl _ _ rfl W0 _ _ _ _ _ _ _ rfl rfl (by assumption) (by assumption) (by omega) ?_; intro _ _ hbu hbl))
    go_loopw [0, 191] (fun u i wr => ∃ k : Nat, k ≤ nd ∧ i = .int .i64 k ∧ bb < wr.heap.size ∧ Bu W0 wr u (xs ++ bytesI ((D.drop 0).take k)) bb D (N + 200 + k)) (fun _ i _ => nd - (intOf i).toNat)
    case atStart => exact ⟨0, by omega, rfl, by assumption, bu_cast (by assumption) (by simp [bytesI]) (by omega)⟩
    case round =>
      obtain ⟨k, hk, rfl, hblk, hB⟩ := hrel
      by_cases hlt : k < nd
      · have hkD : 0 + k < D.length := by omega
        obtain ⟨c, hce⟩ : ∃ c : Int, ((D[0 + k].toNat : Nat) : Int) = c := ⟨_, rfl⟩
        have hc := bu_dk hB (0 + k) hkD
        rw [hce, Nat.zero_add] at hc
        have HS := Lib.hid (bytes_snoc D 0 k hkD)
        have HCE := Lib.hid hce
        clear hce
        go_wp2_with (at_builtin; first
    | (refine wp_app1 rfl _ _ rfl W0 _ _ _ _ _ _ _ rfl rfl (by assumption) (by assumption) (by omega) ?_; intro _ _ hbu hbl))
        go_roundw
        case rel => exact ⟨k + 1, by omega, by go_num, by assumption, bu_cast hbu (by rw [HS.out, HCE.out]; simp only [List.append_assoc]) (by omega)⟩
        case measure => simp [intOf]; omega
      · obtain hke : nd = k := by omega
        subst hke
        go_wp2_with (at_builtin; first
    | (refine wp_app1 rfl _ _ rfl W0 _ _ _ _ _ _ _ rfl rfl (by assumption) (by assumption) (by omega) ?_; intro _ _ hbu hbl))
        go_loopw [0, 203] (fun u i wr => ∃ k : Nat, k ≤ (q - nd) ∧ i = .int .i64 k ∧ bb < wr.heap.size ∧ Bu W0 wr u ((xs ++ bytesI ((D.drop 0).take nd)) ++ List.replicate k 48) bb D (N + 230 + k)) (fun _ i _ => (q - nd) - (intOf i).toNat)
        case atStart => exact ⟨0, by omega, rfl, by assumption, bu_cast (by assumption) (by simp [bytesI]) (by omega)⟩
        case round =>
          obtain ⟨k, hk, rfl, hblk, hB⟩ := hrel
          by_cases hlt : k < (q - nd)
          · have HS := Lib.hid (rep_snoc k 48)
            go_wp2_with (at_builtin; first
    | (refine wp_app1 rfl _ _ rfl W0 _ _ _ _ _ _ _ rfl rfl (by assumption) (by assumption) (by omega) ?_; intro _ _ hbu hbl))
            go_roundw
            case rel => exact ⟨k + 1, by omega, by go_num, by assumption, bu_cast hbu (by rw [HS.out]; simp only [List.append_assoc]) (by omega)⟩
            case measure => simp [intOf]; omega
          · obtain hke : (q - nd) = k := by omega
            subst hke
            go_wp2_with (at_builtin; first
    | (refine wp_app1 rfl _ _ rfl W0 _ _ _ _ _ _ _ rfl rfl (by assumption) (by assumption) (by omega) ?_; intro _ _ hbu hbl))
            go_ret
            exact HFIN.out _ _ _ _ hB (by omega) (by simp [fdfL, sgnI, hq, Nat.min_eq_left hle, show ¬ (q < nd) by omega, bytesI])
  · go_enter Tryz.func76, Tryz.ntmps76
    go_wp2_with (at_builtin; first
    | (refine wp_app1 rfl _ _ rfl W0 _ _ _ _ _ _ _ rfl rfl (by assumption) (by assumption) (by omega) ?_; intro _ _ hbu hbl))
    go_loopw [0, 191] (fun u i wr => ∃ k : Nat, k ≤ nd ∧ i = .int .i64 k ∧ bb < wr.heap.size ∧ Bu W0 wr u (xs ++ [45] ++ bytesI ((D.drop 0).take k)) bb D (N + 200 + k)) (fun _ i _ => nd - (intOf i).toNat)
    case atStart => exact ⟨0, by omega, rfl, by assumption, bu_cast (by assumption) (by simp [bytesI]) (by omega)⟩
    case round =>
      obtain ⟨k, hk, rfl, hblk, hB⟩ := hrel
      by_cases hlt : k < nd
      · have hkD : 0 + k < D.length := by omega
        obtain ⟨c, hce⟩ : ∃ c : Int, ((D[0 + k].toNat : Nat) : Int) = c := ⟨_, rfl⟩
        have hc := bu_dk hB (0 + k) hkD
        rw [hce, Nat.zero_add] at hc
        have HS := Lib.hid (bytes_snoc D 0 k hkD)
        have HCE := Lib.hid hce
        clear hce
        go_wp2_with (at_builtin; first
    | (refine wp_app1 rfl _ _ rfl W0 _ _ _ _ _ _ _ rfl rfl (by assumption) (by assumption) (by omega) ?_; intro _ _ hbu hbl))
        go_roundw
        case rel => exact ⟨k + 1, by omega, by go_num, by assumption, bu_cast hbu (by rw [HS.out, HCE.out]; simp only [List.append_assoc]) (by omega)⟩
        case measure => simp [intOf]; omega
      · obtain hke : nd = k := by omega
        subst hke
        go_wp2_with (at_builtin; first
    | (refine wp_app1 rfl _ _ rfl W0 _ _ _ _ _ _ _ rfl rfl (by assumption) (by assumption) (by omega) ?_; intro _ _ hbu hbl))
        go_loopw [0, 203] (fun u i wr => ∃ k : Nat, k ≤ (q - nd) ∧ i = .int .i64 k ∧ bb < wr.heap.size ∧ Bu W0 wr u ((xs ++ [45] ++ bytesI ((D.drop 0).take nd)) ++ List.replicate k 48) bb D (N + 230 + k)) (fun _ i _ => (q - nd) - (intOf i).toNat)
        case atStart => exact ⟨0, by omega, rfl, by assumption, bu_cast (by assumption) (by simp [bytesI]) (by omega)⟩
        case round =>
          obtain ⟨k, hk, rfl, hblk, hB⟩ := hrel
          by_cases hlt : k < (q - nd)
          · have HS := Lib.hid (rep_snoc k 48)
            go_wp2_with (at_builtin; first
    | (refine wp_app1 rfl _ _ rfl W0 _ _ _ _ _ _ _ rfl rfl (by assumption) (by assumption) (by omega) ?_; intro _ _ hbu hbl))
            go_roundw
            case rel => exact ⟨k + 1, by omega, by go_num, by assumption, bu_cast hbu (by rw [HS.out]; simp only [List.append_assoc]) (by omega)⟩
            case measure => simp [intOf]; omega
          · obtain hke : (q - nd) = k := by omega
            subst hke
            go_wp2_with (at_builtin; first
    | (refine wp_app1 rfl _ _ rfl W0 _ _ _ _ _ _ _ rfl rfl (by assumption) (by assumption) (by omega) ?_; intro _ _ hbu hbl))
            go_ret
            exact HFIN.out _ _ _ _ hB (by omega) (by simp [fdfL, sgnI, hq, Nat.min_eq_left hle, show ¬ (q < nd) by omega, bytesI])
set_option maxRecDepth 100000 in
set_option maxHeartbeats 8000000 in
theorem fdf_2 (neg : Bool) (W0 w : World) (v : Value) (xs : List Int) (bb : Nat) (D : List UInt8) (N nd q : Nat) (hb : Bu W0 w v xs bb D N) (hbl : bb < w.heap.size) (hN : N ≤ 1000) (hdl : nd ≤ D.length) (hd20 : nd ≤ 20) (hq : 0 < q) (hq2 : q ≤ 6) (hle : q < nd) : Calls Tryz.prog 76 #[v, .bool neg, .slice (some ⟨bb, 0, none⟩) 32 32, .int .i64 (q : Int), .int .i64 nd, .int .i64 nd, .int .u8 103, .bool true] w (FmtPost W0 xs (fdfL neg D nd (q : Int)) bb D (N + 200)) := by
  have hfin : ∀ (v' : Value) (w' : World) (N' : Nat) (ys : List Int), Bu W0 w' v' ys bb D N' → N' ≤ N + 300 → xs ++ fdfL neg D nd (q : Int) = ys → FmtPost W0 xs (fdfL neg D nd (q : Int)) bb D (N + 200) (.returned v') w' := fun v' w' N' ys h1 h2 h3 => ⟨v', N', rfl, by omega, by rw [h3]; exact h1⟩
  have HFIN := Lib.hid hfin
  clear hfin
  have hx1 : ¬ ((q : Int) - 1 < -4) := by omega
  have hx2 : ¬ (6 ≤ (q : Int) - 1) := by omega
  have hmax : max ((nd : Int) - (q : Int)) 0 = (nd : Int) - (q : Int) := by omega
  have hmin : min (nd : Int) (q : Int) = (q : Int) := by omega
  have hmax2 : max 0 (-(q : Int)) = 0 := by omega
  have hmin2 : min ((nd : Int) - (q : Int)) 0 = 0 := by omega
  have hmax3 : max 0 ((nd : Int) - (q : Int)) = (nd : Int) - (q : Int) := by omega
  have hpr : 0 < (nd : Int) - (q : Int) := by omega
  have hq' : (0 : Int) < (q : Int) := by omega
  cases neg
  · go_enter Tryz.func76, Tryz.ntmps76
    go_wp2_with (at_builtin; first
    | (refine wp_app1 rfl _ _ rfl W0 _ _ _ _ _ _ _ rfl rfl (by assumption) (by assumption) (by omega) ?_; intro _ _ hbu hbl))
    go_loopw [0, 191] (fun u i wr => ∃ k : Nat, k ≤ q ∧ i = .int .i64 k ∧ bb < wr.heap.size ∧ Bu W0 wr u (xs ++ bytesI ((D.drop 0).take k)) bb D (N + 200 + k)) (fun _ i _ => q - (intOf i).toNat)
    case atStart => exact ⟨0, by omega, rfl, by assumption, bu_cast (by assumption) (by simp [bytesI]) (by omega)⟩
    case round =>
      obtain ⟨k, hk, rfl, hblk, hB⟩ := hrel
      by_cases hlt : k < q
      · have hkD : 0 + k < D.length := by omega
        obtain ⟨c, hce⟩ : ∃ c : Int, ((D[0 + k].toNat : Nat) : Int) = c := ⟨_, rfl⟩
        have hc := bu_dk hB (0 + k) hkD
        rw [hce, Nat.zero_add] at hc
        have HS := Lib.hid (bytes_snoc D 0 k hkD)
        have HCE := Lib.hid hce
        clear hce
        go_wp2_with (at_builtin; first
    | (refine wp_app1 rfl _ _ rfl W0 _ _ _ _ _ _ _ rfl rfl (by assumption) (by assumption) (by omega) ?_; intro _ _ hbu hbl))
        go_roundw
        case rel => exact ⟨k + 1, by omega, by go_num, by assumption, bu_cast hbu (by rw [HS.out, HCE.out]; simp only [List.append_assoc]) (by omega)⟩
        case measure => simp [intOf]; omega
      · obtain hke : q = k := by omega
        subst hke
        go_wp2_with (at_builtin; first
    | (refine wp_app1 rfl _ _ rfl W0 _ _ _ _ _ _ _ rfl rfl (by assumption) (by assumption) (by omega) ?_; intro _ _ hbu hbl))
        refine wp_loop_rounds 1 ?_
        rw [rounds_succ]
        go_wp2_with (at_builtin; first
    | (refine wp_app1 rfl _ _ rfl W0 _ _ _ _ _ _ _ rfl rfl (by assumption) (by assumption) (by omega) ?_; intro _ _ hbu hbl))
        refine wp_loop_rounds 1 ?_
        rw [rounds_succ]
        go_wp2_with (at_builtin; first
    | (refine wp_app1 rfl _ _ rfl W0 _ _ _ _ _ _ _ rfl rfl (by assumption) (by assumption) (by omega) ?_; intro _ _ hbu hbl))
        go_loopw [0, 247] (fun u i wr => ∃ k : Nat, k ≤ (nd - q) ∧ i = .int .i64 k ∧ bb < wr.heap.size ∧ Bu W0 wr u (((xs ++ bytesI ((D.drop 0).take q)) ++ [46]) ++ bytesI ((D.drop q).take k)) bb D (N + 230 + k)) (fun _ i _ => (nd - q) - (intOf i).toNat)
        case atStart => exact ⟨0, by omega, rfl, by assumption, bu_cast (by assumption) (by simp [bytesI]) (by omega)⟩
        case round =>
          obtain ⟨k, hk, rfl, hblk, hB⟩ := hrel
          by_cases hlt : k < (nd - q)
          · have hkD : q + k < D.length := by omega
            obtain ⟨c, hce⟩ : ∃ c : Int, ((D[q + k].toNat : Nat) : Int) = c := ⟨_, rfl⟩
            have hc := bu_dk hB (q + k) hkD
            rw [hce] at hc
            have HS := Lib.hid (bytes_snoc D q k hkD)
            have HCE := Lib.hid hce
            clear hce
            go_wp2_with (at_builtin; first
    | (refine wp_app1 rfl _ _ rfl W0 _ _ _ _ _ _ _ rfl rfl (by assumption) (by assumption) (by omega) ?_; intro _ _ hbu hbl))
            go_roundw
            case rel => exact ⟨k + 1, by omega, by go_num, by assumption, bu_cast hbu (by rw [HS.out, HCE.out]; simp only [List.append_assoc]) (by omega)⟩
            case measure => simp [intOf]; omega
          · obtain hke : (nd - q) = k := by omega
            subst hke
            go_wp2_with (at_builtin; first
    | (refine wp_app1 rfl _ _ rfl W0 _ _ _ _ _ _ _ rfl rfl (by assumption) (by assumption) (by omega) ?_; intro _ _ hbu hbl))
            refine wp_loop_rounds 1 ?_
            rw [rounds_succ]
            go_wp2_with (at_builtin; first
    | (refine wp_app1 rfl _ _ rfl W0 _ _ _ _ _ _ _ rfl rfl (by assumption) (by assumption) (by omega) ?_; intro _ _ hbu hbl))
            go_ret
            exact HFIN.out _ _ _ _ hB (by omega) (by simp [fdfL, sgnI, hq, Nat.min_eq_right (Nat.le_of_lt hle), hle, show q - nd = 0 by omega, bytesI])
  · go_enter Tryz.func76, Tryz.ntmps76
    go_wp2_with (at_builtin; first
    | (refine wp_app1 rfl _ _ rfl W0 _ _ _ _ _ _ _ rfl rfl (by assumption) (by assumption) (by omega) ?_; intro _ _ hbu hbl))
    go_loopw [0, 191] (fun u i wr => ∃ k : Nat, k ≤ q ∧ i = .int .i64 k ∧ bb < wr.heap.size ∧ Bu W0 wr u (xs ++ [45] ++ bytesI ((D.drop 0).take k)) bb D (N + 200 + k)) (fun _ i _ => q - (intOf i).toNat)
    case atStart => exact ⟨0, by omega, rfl, by assumption, bu_cast (by assumption) (by simp [bytesI]) (by omega)⟩
    case round =>
      obtain ⟨k, hk, rfl, hblk, hB⟩ := hrel
      by_cases hlt : k < q
      · have hkD : 0 + k < D.length := by omega
        obtain ⟨c, hce⟩ : ∃ c : Int, ((D[0 + k].toNat : Nat) : Int) = c := ⟨_, rfl⟩
        have hc := bu_dk hB (0 + k) hkD
        rw [hce, Nat.zero_add] at hc
        have HS := Lib.hid (bytes_snoc D 0 k hkD)
        have HCE := Lib.hid hce
        clear hce
        go_wp2_with (at_builtin; first
    | (refine wp_app1 rfl _ _ rfl W0 _ _ _ _ _ _ _ rfl rfl (by assumption) (by assumption) (by omega) ?_; intro _ _ hbu hbl))
        go_roundw
        case rel => exact ⟨k + 1, by omega, by go_num, by assumption, bu_cast hbu (by rw [HS.out, HCE.out]; simp only [List.append_assoc]) (by omega)⟩
        case measure => simp [intOf]; omega
      · obtain hke : q = k := by omega
        subst hke
        go_wp2_with (at_builtin; first
    | (refine wp_app1 rfl _ _ rfl W0 _ _ _ _ _ _ _ rfl rfl (by assumption) (by assumption) (by omega) ?_; intro _ _ hbu hbl))
        refine wp_loop_rounds 1 ?_
        rw [rounds_succ]
        go_wp2_with (at_builtin; first
    | (refine wp_app1 rfl _ _ rfl W0 _ _ _ _ _ _ _ rfl rfl (by assumption) (by assumption) (by omega) ?_; intro _ _ hbu hbl))
        refine wp_loop_rounds 1 ?_
        rw [rounds_succ]
        go_wp2_with (at_builtin; first
    | (refine wp_app1 rfl _ _ rfl W0 _ _ _ _ _ _ _ rfl rfl (by assumption) (by assumption) (by omega) ?_; intro _ _ hbu hbl))
        go_loopw [0, 247] (fun u i wr => ∃ k : Nat, k ≤ (nd - q) ∧ i = .int .i64 k ∧ bb < wr.heap.size ∧ Bu W0 wr u (((xs ++ [45] ++ bytesI ((D.drop 0).take q)) ++ [46]) ++ bytesI ((D.drop q).take k)) bb D (N + 230 + k)) (fun _ i _ => (nd - q) - (intOf i).toNat)
        case atStart => exact ⟨0, by omega, rfl, by assumption, bu_cast (by assumption) (by simp [bytesI]) (by omega)⟩
        case round =>
          obtain ⟨k, hk, rfl, hblk, hB⟩ := hrel
          by_cases hlt : k < (nd - q)
          · have hkD : q + k < D.length := by omega
            obtain ⟨c, hce⟩ : ∃ c : Int, ((D[q + k].toNat : Nat) : Int) = c := ⟨_, rfl⟩
            have hc := bu_dk hB (q + k) hkD
            rw [hce] at hc
            have HS := Lib.hid (bytes_snoc D q k hkD)
            have HCE := Lib.hid hce
            clear hce
            go_wp2_with (at_builtin; first
    | (refine wp_app1 rfl _ _ rfl W0 _ _ _ _ _ _ _ rfl rfl (by assumption) (by assumption) (by omega) ?_; intro _ _ hbu hbl))
            go_roundw
            case rel => exact ⟨k + 1, by omega, by go_num, by assumption, bu_cast hbu (by rw [HS.out, HCE.out]; simp only [List.append_assoc]) (by omega)⟩
            case measure => simp [intOf]; omega
          · obtain hke : (nd - q) = k := by omega
            subst hke
            go_wp2_with (at_builtin; first
    | (refine wp_app1 rfl _ _ rfl W0 _ _ _ _ _ _ _ rfl rfl (by assumption) (by assumption) (by omega) ?_; intro _ _ hbu hbl))
            refine wp_loop_rounds 1 ?_
            rw [rounds_succ]
            go_wp2_with (at_builtin; first
    | (refine wp_app1 rfl _ _ rfl W0 _ _ _ _ _ _ _ rfl rfl (by assumption) (by assumption) (by omega) ?_; intro _ _ hbu hbl))
            go_ret
            exact HFIN.out _ _ _ _ hB (by omega) (by simp [fdfL, sgnI, hq, Nat.min_eq_right (Nat.le_of_lt hle), hle, show q - nd = 0 by omega, bytesI])
set_option maxRecDepth 100000 in
set_option maxHeartbeats 8000000 in
theorem fdf_3 (neg : Bool) (W0 w : World) (v : Value) (xs : List Int) (bb : Nat) (D : List UInt8) (N nd q : Nat) (hb : Bu W0 w v xs bb D N) (hbl : bb < w.heap.size) (hN : N ≤ 1000) (hdl : nd ≤ D.length) (hd20 : nd ≤ 20) (hq2 : q ≤ 3) (hle : 0 < nd + q) : Calls Tryz.prog 76 #[v, .bool neg, .slice (some ⟨bb, 0, none⟩) 32 32, .int .i64 (-(q : Int)), .int .i64 nd, .int .i64 nd, .int .u8 103, .bool true] w (FmtPost W0 xs (fdfL neg D nd (-(q : Int))) bb D (N + 200)) := by
  have hfin : ∀ (v' : Value) (w' : World) (N' : Nat) (ys : List Int), Bu W0 w' v' ys bb D N' → N' ≤ N + 300 → xs ++ fdfL neg D nd (-(q : Int)) = ys → FmtPost W0 xs (fdfL neg D nd (-(q : Int))) bb D (N + 200) (.returned v') w' := fun v' w' N' ys h1 h2 h3 => ⟨v', N', rfl, by omega, by rw [h3]; exact h1⟩
  have HFIN := Lib.hid hfin
  clear hfin
  have hx1 : ¬ (-(q : Int) - 1 < -4) := by omega
  have hx2 : ¬ (6 ≤ -(q : Int) - 1) := by omega
  have hmax : max ((nd : Int) + (q : Int)) 0 = (nd : Int) + (q : Int) := by omega
  have hmax2 : max 0 (q : Int) = (q : Int) := by omega
  have hmin2 : min ((nd : Int) + (q : Int)) (q : Int) = (q : Int) := by omega
  have hmax3 : max 0 (nd : Int) = (nd : Int) := by omega
  have hoff : -(q : Int) + (q : Int) = 0 := by omega
  have hpr : 0 < (nd : Int) + (q : Int) := by omega
  have hq' : ¬ (0 : Int) < -(q : Int) := by omega
  cases neg
  · go_enter Tryz.func76, Tryz.ntmps76
    go_wp2_with (at_builtin; first
    | (refine wp_app1 rfl _ _ rfl W0 _ _ _ _ _ _ _ rfl rfl (by assumption) (by assumption) (by omega) ?_; intro _ _ hbu hbl))
    go_loopw [0, 240] (fun u i wr => ∃ k : Nat, k ≤ q ∧ i = .int .i64 k ∧ bb < wr.heap.size ∧ Bu W0 wr u ((xs ++ [48] ++ [46]) ++ List.replicate k 48) bb D (N + 200 + k)) (fun _ i _ => q - (intOf i).toNat)
    case atStart => exact ⟨0, by omega, rfl, by assumption, bu_cast (by assumption) (by simp [bytesI]) (by omega)⟩
    case round =>
      obtain ⟨k, hk, rfl, hblk, hB⟩ := hrel
      by_cases hlt : k < q
      · have HS := Lib.hid (rep_snoc k 48)
        go_wp2_with (at_builtin; first
    | (refine wp_app1 rfl _ _ rfl W0 _ _ _ _ _ _ _ rfl rfl (by assumption) (by assumption) (by omega) ?_; intro _ _ hbu hbl))
        go_roundw
        case rel => exact ⟨k + 1, by omega, by go_num, by assumption, bu_cast hbu (by rw [HS.out]; simp only [List.append_assoc]) (by omega)⟩
        case measure => simp [intOf]; omega
      · obtain hke : q = k := by omega
        subst hke
        go_wp2_with (at_builtin; first
    | (refine wp_app1 rfl _ _ rfl W0 _ _ _ _ _ _ _ rfl rfl (by assumption) (by assumption) (by omega) ?_; intro _ _ hbu hbl))
        go_loopw [0, 247] (fun u i wr => ∃ k : Nat, k ≤ nd ∧ i = .int .i64 k ∧ bb < wr.heap.size ∧ Bu W0 wr u (((xs ++ [48] ++ [46]) ++ List.replicate q 48) ++ bytesI ((D.drop 0).take k)) bb D (N + 230 + k)) (fun _ i _ => nd - (intOf i).toNat)
        case atStart => exact ⟨0, by omega, rfl, by assumption, bu_cast (by assumption) (by simp [bytesI]) (by omega)⟩
        case round =>
          obtain ⟨k, hk, rfl, hblk, hB⟩ := hrel
          by_cases hlt : k < nd
          · have hkD : 0 + k < D.length := by omega
            obtain ⟨c, hce⟩ : ∃ c : Int, ((D[0 + k].toNat : Nat) : Int) = c := ⟨_, rfl⟩
            have hc := bu_dk hB (0 + k) hkD
            rw [hce, Nat.zero_add] at hc
            have HS := Lib.hid (bytes_snoc D 0 k hkD)
            have HCE := Lib.hid hce
            clear hce
            go_wp2_with (at_builtin; first
    | (refine wp_app1 rfl _ _ rfl W0 _ _ _ _ _ _ _ rfl rfl (by assumption) (by assumption) (by omega) ?_; intro _ _ hbu hbl))
            go_roundw
            case rel => exact ⟨k + 1, by omega, by go_num, by assumption, bu_cast hbu (by rw [HS.out, HCE.out]; simp only [List.append_assoc]) (by omega)⟩
            case measure => simp [intOf]; omega
          · obtain hke : nd = k := by omega
            subst hke
            go_wp2_with (at_builtin; first
    | (refine wp_app1 rfl _ _ rfl W0 _ _ _ _ _ _ _ rfl rfl (by assumption) (by assumption) (by omega) ?_; intro _ _ hbu hbl))
            refine wp_loop_rounds 1 ?_
            rw [rounds_succ]
            go_wp2_with (at_builtin; first
    | (refine wp_app1 rfl _ _ rfl W0 _ _ _ _ _ _ _ rfl rfl (by assumption) (by assumption) (by omega) ?_; intro _ _ hbu hbl))
            go_ret
            exact HFIN.out _ _ _ _ hB (by omega) (by simp [fdfL, sgnI, show ¬ (0 : Int) < -(q : Int) by omega, show ¬ ((q : Int) < 0) by omega, show -(q : Int) < (nd : Int) by omega, hpr, bytesI])
  · go_enter Tryz.func76, Tryz.ntmps76
    go_wp2_with (at_builtin; first
    | (refine wp_app1 rfl _ _ rfl W0 _ _ _ _ _ _ _ rfl rfl (by assumption) (by assumption) (by omega) ?_; intro _ _ hbu hbl))
    go_loopw [0, 240] (fun u i wr => ∃ k : Nat, k ≤ q ∧ i = .int .i64 k ∧ bb < wr.heap.size ∧ Bu W0 wr u ((xs ++ [45] ++ [48] ++ [46]) ++ List.replicate k 48) bb D (N + 200 + k)) (fun _ i _ => q - (intOf i).toNat)
    case atStart => exact ⟨0, by omega, rfl, by assumption, bu_cast (by assumption) (by simp [bytesI]) (by omega)⟩
    case round =>
      obtain ⟨k, hk, rfl, hblk, hB⟩ := hrel
      by_cases hlt : k < q
      · have HS := Lib.hid (rep_snoc k 48)
        go_wp2_with (at_builtin; first
    | (refine wp_app1 rfl _ _ rfl W0 _ _ _ _ _ _ _ rfl rfl (by assumption) (by assumption) (by omega) ?_; intro _ _ hbu hbl))
        go_roundw
        case rel => exact ⟨k + 1, by omega, by go_num, by assumption, bu_cast hbu (by rw [HS.out]; simp only [List.append_assoc]) (by omega)⟩
        case measure => simp [intOf]; omega
      · obtain hke : q = k := by omega
        subst hke
        go_wp2_with (at_builtin; first
    | (refine wp_app1 rfl _ _ rfl W0 _ _ _ _ _ _ _ rfl rfl (by assumption) (by assumption) (by omega) ?_; intro _ _ hbu hbl))
        go_loopw [0, 247] (fun u i wr => ∃ k : Nat, k ≤ nd ∧ i = .int .i64 k ∧ bb < wr.heap.size ∧ Bu W0 wr u (((xs ++ [45] ++ [48] ++ [46]) ++ List.replicate q 48) ++ bytesI ((D.drop 0).take k)) bb D (N + 230 + k)) (fun _ i _ => nd - (intOf i).toNat)
        case atStart => exact ⟨0, by omega, rfl, by assumption, bu_cast (by assumption) (by simp [bytesI]) (by omega)⟩
        case round =>
          obtain ⟨k, hk, rfl, hblk, hB⟩ := hrel
          by_cases hlt : k < nd
          · have hkD : 0 + k < D.length := by omega
            obtain ⟨c, hce⟩ : ∃ c : Int, ((D[0 + k].toNat : Nat) : Int) = c := ⟨_, rfl⟩
            have hc := bu_dk hB (0 + k) hkD
            rw [hce, Nat.zero_add] at hc
            have HS := Lib.hid (bytes_snoc D 0 k hkD)
            have HCE := Lib.hid hce
            clear hce
            go_wp2_with (at_builtin; first
    | (refine wp_app1 rfl _ _ rfl W0 _ _ _ _ _ _ _ rfl rfl (by assumption) (by assumption) (by omega) ?_; intro _ _ hbu hbl))
            go_roundw
            case rel => exact ⟨k + 1, by omega, by go_num, by assumption, bu_cast hbu (by rw [HS.out, HCE.out]; simp only [List.append_assoc]) (by omega)⟩
            case measure => simp [intOf]; omega
          · obtain hke : nd = k := by omega
            subst hke
            go_wp2_with (at_builtin; first
    | (refine wp_app1 rfl _ _ rfl W0 _ _ _ _ _ _ _ rfl rfl (by assumption) (by assumption) (by omega) ?_; intro _ _ hbu hbl))
            refine wp_loop_rounds 1 ?_
            rw [rounds_succ]
            go_wp2_with (at_builtin; first
    | (refine wp_app1 rfl _ _ rfl W0 _ _ _ _ _ _ _ rfl rfl (by assumption) (by assumption) (by omega) ?_; intro _ _ hbu hbl))
            go_ret
            exact HFIN.out _ _ _ _ hB (by omega) (by simp [fdfL, sgnI, show ¬ (0 : Int) < -(q : Int) by omega, show ¬ ((q : Int) < 0) by omega, show -(q : Int) < (nd : Int) by omega, hpr, bytesI])
set_option maxRecDepth 100000 in
set_option maxHeartbeats 8000000 in
theorem fdf_4 (neg : Bool) (W0 w : World) (v : Value) (xs : List Int) (bb : Nat) (D : List UInt8) (N : Nat) (hb : Bu W0 w v xs bb D N) (hbl : bb < w.heap.size) (hN : N ≤ 1000) : Calls Tryz.prog 76 #[v, .bool neg, .slice (some ⟨bb, 0, none⟩) 32 32, .int .i64 0, .int .i64 0, .int .i64 0, .int .u8 103, .bool true] w (FmtPost W0 xs (fdfL neg D 0 0) bb D (N + 200)) := by
  have hfin : ∀ (v' : Value) (w' : World) (N' : Nat) (ys : List Int), Bu W0 w' v' ys bb D N' → N' ≤ N + 300 → xs ++ fdfL neg D 0 0 = ys → FmtPost W0 xs (fdfL neg D 0 0) bb D (N + 200) (.returned v') w' := fun v' w' N' ys h1 h2 h3 => ⟨v', N', rfl, by omega, by rw [h3]; exact h1⟩
  have HFIN := Lib.hid hfin
  clear hfin
  cases neg
  all_goals
    go_enter Tryz.func76, Tryz.ntmps76
    go_wp2_with (at_builtin; first
    | (refine wp_app1 rfl _ _ rfl W0 _ _ _ _ _ _ _ rfl rfl (by assumption) (by assumption) (by omega) ?_; intro _ _ hbu hbl))
    go_ret
    exact HFIN.out _ _ _ _ hbu (by omega) (by simp [fdfL, sgnI])
def efgL (neg : Bool) (D : List UInt8) (nd : Nat) (dp : Int) : List Int := if dp - 1 < -4 ∨ 6 ≤ dp - 1 then efeL neg D nd dp else fdfL neg D nd dp
theorem efg_any (neg : Bool) (W0 w : World) (v : Value) (xs : List Int) (bb : Nat) (D : List UInt8) (N nd : Nat) (dp : Int) (hb : Bu W0 w v xs bb D N) (hbl : bb < w.heap.size) (hN : N ≤ 1000) (hdl : nd ≤ D.length) (hd20 : nd ≤ 20) (hd1 : -400 ≤ dp) (hd2 : dp ≤ 400) : Calls Tryz.prog 76 #[v, .bool neg, .slice (some ⟨bb, 0, none⟩) 32 32, .int .i64 dp, .int .i64 nd, .int .i64 nd, .int .u8 103, .bool true] w (FmtPost W0 xs (efgL neg D nd dp) bb D (N + 200)) := by
  have hup : ∀ (ys : List Int) e w', FmtPost W0 xs ys bb D N e w' → FmtPost W0 xs ys bb D (N + 200) e w' := fun ys e w' ⟨v', N', h1, h2, h3⟩ => ⟨v', N', h1, by omega, h3⟩
  unfold efgL
  by_cases hx : dp - 1 < -4 ∨ 6 ≤ dp - 1
  · rw [if_pos hx]
    refine Calls.mono ?_ (hup _)
    rcases hx with hx | hx
    · rcases Nat.lt_or_ge nd 1 with h0 | h0
      · exact efe_0neg neg W0 w v xs bb D N nd dp hb hbl hN hdl hd20 (by omega) hx hd1
      · rcases Nat.lt_or_ge nd 2 with h1 | h1
        · exact efe_1neg neg W0 w v xs bb D N nd dp hb hbl hN hdl hd20 (by omega) hx hd1
        · exact efe_2neg neg W0 w v xs bb D N nd dp hb hbl hN hdl hd20 h1 hx hd1
    · rcases Nat.lt_or_ge nd 1 with h0 | h0
      · exact efe_0pos neg W0 w v xs bb D N nd dp hb hbl hN hdl hd20 (by omega) hx hd2
      · rcases Nat.lt_or_ge nd 2 with h1 | h1
        · exact efe_1pos neg W0 w v xs bb D N nd dp hb hbl hN hdl hd20 (by omega) hx hd2
        · exact efe_2pos neg W0 w v xs bb D N nd dp hb hbl hN hdl hd20 h1 hx hd2
  · rw [if_neg hx]
    by_cases hp : 0 < dp
    · obtain ⟨q, rfl⟩ : ∃ q : Nat, dp = (q : Int) := ⟨dp.toNat, by omega⟩
      rcases Nat.lt_or_ge q nd with h | h
      · exact fdf_2 neg W0 w v xs bb D N nd q hb hbl hN hdl hd20 (by omega) (by omega) h
      · exact fdf_1 neg W0 w v xs bb D N nd q hb hbl hN hdl hd20 (by omega) (by omega) h
    · obtain ⟨q, rfl⟩ : ∃ q : Nat, dp = -(q : Int) := ⟨(-dp).toNat, by omega⟩
      by_cases hz : 0 < nd + q
      · exact fdf_3 neg W0 w v xs bb D N nd q hb hbl hN hdl hd20 (by omega) hz
      · obtain rfl : nd = 0 := by omega
        obtain rfl : q = 0 := by omega
        exact fdf_4 neg W0 w v xs bb D N hb hbl hN
end Num
end Go.Proofs.YtahcgdjcjapnkaaGreatDoor
