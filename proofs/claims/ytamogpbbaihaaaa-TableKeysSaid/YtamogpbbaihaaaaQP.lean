/-
  Package table: Do, method by method, on tables that are right.
-/
import Derived.Test.YtamogpbbaihaaaaQO
import Derived.Test.YtamogpbbaihaaaaQJ
namespace Go.Proofs.Ytamogpbbaihaaaa
open Go.RowKit
namespace Num
open Ints
set_option linter.unusedSimpArgs false
set_option linter.unusedVariables false
def tabC : ByteArray := { data := #[116, 97, 98, 108, 101] }
theorem tab_metas : metas tabC = msT := by rfl
theorem name_light (n : Nat) {k : ByteArray} (hk : nmV 3 k = true) : checkM (measT (n + 1) (nameV n k)) = 0 ∧ deepT (n + 1) (nameV n k) 64 = false ∧ partsT (n + 1) (nameV n k) ≤ 1000 := by
  unfold nmV at hk
  rw [Bool.and_eq_true, Bool.and_eq_true, decide_eq_true_iff, decide_eq_true_iff, decide_eq_true_iff] at hk
  obtain ⟨_, h1, h2⟩ := hk
  refine ⟨?_, rfl, by show (1 : Nat) ≤ 1000; decide⟩
  unfold nameV
  rw [measT_text rfl rfl rfl]
  have e1 : decide (256 < (k.size : Int)) = false := by rw [decide_eq_false_iff_not]; omega
  have e2 : wrap64 (3 + (k.size : Int)) = 3 + (k.size : Int) := by unfold wrap64; omega
  rw [e1, e2]
  unfold checkM
  have e3 : decide (4096 < 3 + (k.size : Int)) = false := by rw [decide_eq_false_iff_not]; omega
  show (if false = true then (31 : Int) else if (false || decide (8 < (0 : Int)) || decide (4096 < 3 + (k.size : Int))) = true then 22 else 0) = 0
  rw [e3]
  rfl
theorem chk_one (n : Nat) (m : ByteArray) (hm : m = { data := #[100, 101, 108] } ∨ m = { data := #[103, 101, 116] }) {k : ByteArray} (hk : nmV 3 k = true) : chkA tabC m n [nameV n k] = 0 := by
  have h1 : chkL n [nameV n k] = 0 := by unfold chkL; rw [if_pos (name_light n hk).1]; rfl
  unfold chkA
  rw [tab_metas]
  rcases hm with rfl | rfl
  · show (if (chkL n [nameV n k] = 0) then (if (nmV 3 k && true) = true then (0 : Int) else 31) else chkL n [nameV n k]) = 0
    rw [h1, hk]; rfl
  · show (if (chkL n [nameV n k] = 0) then (if (nmV 3 k && true) = true then (0 : Int) else 31) else chkL n [nameV n k]) = 0
    rw [h1, hk]; rfl
theorem chk_put (n : Nat) {k : ByteArray} {V : VT (n + 1)} (hk : nmV 3 k = true) (hV : checkM (measT (n + 1) V) = 0) : chkA tabC { data := #[112, 117, 116] } n [nameV n k, V] = 0 := by
  have h1 : chkL n [nameV n k, V] = 0 := by unfold chkL; rw [if_pos (name_light n hk).1]; unfold chkL; rw [if_pos hV]; rfl
  unfold chkA
  rw [tab_metas]
  show (if (chkL n [nameV n k, V] = 0) then (if (nmV 3 k && (true && true)) = true then (0 : Int) else 31) else chkL n [nameV n k, V]) = 0
  rw [h1, hk]; rfl
theorem chk_nil (n : Nat) (m : ByteArray) (hm : m = { data := #[107, 101, 121, 115] } ∨ m = { data := #[115, 105, 122, 101] }) : chkA tabC m n [] = 0 := by
  unfold chkA
  rw [tab_metas]
  rcases hm with rfl | rfl <;> rfl
theorem arg_name {w : World} {n : Nat} {p : Option Addr} {l c : Nat} {k : ByteArray} {r : List (VT (n + 1))} (h : RepL w (Rep w (n + 1)) p l c (nameV n k :: r)) : ∃ bl ol q d, p = some ⟨bl, ol, none⟩ ∧ (w.cell? ⟨bl, ol, none⟩ = some (.int .i64 3) ∧ w.cell? ⟨bl, ol + 1, none⟩ = some (.int .i64 0) ∧ w.cell? ⟨bl, ol + 2, none⟩ = some (.float .f64 0) ∧ w.cell? ⟨bl, ol + 3, none⟩ = some (.string k) ∧ w.cell? ⟨bl, ol + 4, none⟩ = some (.slice q 0 d)) ∧ Rep w (n + 1) (.agg #[.int .i64 3, .int .i64 0, .float .f64 0, .string k, .slice q 0 d]) (nameV n k) := by
  obtain ⟨h1, h2, h3, h4⟩ := h
  obtain ⟨b, o, rfl, hi⟩ := h4 (by rw [← h1]; exact Nat.succ_pos _)
  obtain ⟨v0, v1, v2, v3, v4, c0, c1, c2, c3, c4, hr⟩ := hi 0 (Nat.succ_pos _)
  have hr' : Rep w (n + 1) (.agg #[v0, v1, v2, v3, v4]) (nameV n k) := hr
  obtain ⟨q, m, d, hv, e1, e2, e3, e4, hl, e5⟩ := hr'
  obtain rfl : 0 = m := hl
  injection hv with hv
  simp only [Array.mk.injEq, List.cons.injEq, and_true] at hv
  obtain ⟨rfl, rfl, rfl, rfl, rfl⟩ := hv
  simp only [Nat.zero_mul, Nat.add_zero] at c0 c1 c2 c3 c4
  exact ⟨b, o, q, d, rfl, ⟨c0, c1, c2, c3, c4⟩, hr⟩
theorem arg_val {w : World} {n : Nat} {bl ol l c : Nat} {A V : VT (n + 1)} {r : List (VT (n + 1))} (h : RepL w (Rep w (n + 1)) (some ⟨bl, ol, none⟩) l c (A :: V :: r)) : ∃ (K3 I3 : Int) (F3 : Nat) (S3 : ByteArray) (q3 : Option Addr) (m3 d3 : Nat), (w.cell? ⟨bl, ol + 5, none⟩ = some (.int .i64 K3) ∧ w.cell? ⟨bl, ol + 5 + 1, none⟩ = some (.int .i64 I3) ∧ w.cell? ⟨bl, ol + 5 + 2, none⟩ = some (.float .f64 F3) ∧ w.cell? ⟨bl, ol + 5 + 3, none⟩ = some (.string S3) ∧ w.cell? ⟨bl, ol + 5 + 4, none⟩ = some (.slice q3 m3 d3)) ∧ Rep w (n + 1) (.agg #[.int .i64 K3, .int .i64 I3, .float .f64 F3, .string S3, .slice q3 m3 d3]) V := by
  obtain ⟨h1, h2, h3, h4⟩ := h
  obtain ⟨b, o, hp, hi⟩ := h4 (by rw [← h1]; exact Nat.succ_pos _)
  injection hp with hp
  injection hp with e1 e2
  subst e1 e2
  obtain ⟨v0, v1, v2, v3, v4, c0, c1, c2, c3, c4, hr⟩ := hi 1 (by show 1 < r.length + 1 + 1; omega)
  have hr' : Rep w (n + 1) (.agg #[v0, v1, v2, v3, v4]) V := hr
  obtain ⟨K3, I3, F3, S3, q3, m3, d3, hv, _⟩ := rep_shape hr'
  injection hv with hv
  simp only [Array.mk.injEq, List.cons.injEq, and_true] at hv
  obtain ⟨rfl, rfl, rfl, rfl, rfl⟩ := hv
  simp only [Nat.one_mul] at c0 c1 c2 c3 c4
  exact ⟨K3, I3, F3, S3, q3, m3, d3, ⟨c0, c1, c2, c3, c4⟩, hr⟩
theorem tk_X {n : Nat} (X M Y : List (ByteArray × VT (n + 1))) : ((X ++ (M ++ Y)).map (pairE n)).take X.length = X.map (pairE n) := by
  rw [List.map_append, show X.length = (X.map (pairE n)).length by rw [List.length_map], List.take_left]
theorem dr_Y {n : Nat} (X M Y : List (ByteArray × VT (n + 1))) : ((X ++ (M ++ Y)).map (pairE n)).drop (X.length + M.length) = Y.map (pairE n) := by
  rw [← List.append_assoc, List.map_append, show X.length + M.length = ((X ++ M).map (pairE n)).length by rw [List.length_map, List.length_append], List.drop_left]
theorem ok_cln {n : Nat} {ES : List (ByteArray × VT (n + 1))} (h : checkM (measT (n + 3) (tableT n ES)) = 0 ∧ deepT (n + 3) (tableT n ES) 64 = false ∧ partsT (n + 3) (tableT n ES) ≤ 1000) : Cln (n + 3) (tableT n ES) := ⟨h.2.1, h.2.2, walk_check h.1⟩
theorem find_M {w W : World} {n : Nat} {p : Option Addr} {l c : Nat} {k : ByteArray} {X M Y : List (ByteArray × VT (n + 1))} (hb : Below w.heap.size w W) (h : RepL w (Rep w (n + 2)) p l c ((X ++ (M ++ Y)).map (pairE n))) (hl : l ≤ 1000) (hX : ∀ e ∈ X, ltB e.1 k = true) (hY : ∀ e ∈ Y, ltB k e.1 = true) (hM : M = [] ∨ ∃ V0, M = [(k, V0)]) :
    Calls Try.prog 52 #[.slice p l c, .string k] W fun e w' => e = .returned (.tuple #[.int .i64 X.length, .int .i64 (X.length + M.length : Nat)]) ∧ Below W.heap.size W w' := by
  have he := entsL_step (ents_of h (by omega)) hb
  rcases hM with rfl | ⟨V0, rfl⟩
  · exact find_any p l c X.length _ k false W he (spot_split hX hY (Or.inl ⟨rfl, rfl⟩))
  · exact find_any p l c X.length _ k true W he (spot_split hX hY (Or.inr ⟨V0, rfl, rfl⟩))
theorem tdo_put {n : Nat} {s : Value} {pl : Option Addr} {cl : Nat} {X M Y : List (ByteArray × VT (n + 1))} {k : ByteArray} {V : VT (n + 1)} {w : World} (hs : Rep w (n + 3) s (tableT n (X ++ (M ++ Y)))) (hr : RepL w (Rep w (n + 1)) pl 2 cl [nameV n k, V]) (hok : OkTab n (X ++ (M ++ Y))) (hX : ∀ e ∈ X, ltB e.1 k = true) (hY : ∀ e ∈ Y, ltB k e.1 = true) (hM : M = [] ∨ ∃ V0, M = [(k, V0)]) (hk : nmV 3 k = true)
    (hV : checkM (measT (n + 1) V) = 0) (hVg : deepT (n + 1) V 64 = false ∧ partsT (n + 1) V ≤ 1000) (hroom : M = [] → (X ++ (M ++ Y)).length ≠ 32)
    (hok2 : checkM (measT (n + 3) (tableT n (X ++ ((k, V) :: Y)))) = 0 ∧ deepT (n + 3) (tableT n (X ++ ((k, V) :: Y))) 64 = false ∧ partsT (n + 3) (tableT n (X ++ ((k, V) :: Y))) ≤ 1000) (hH : Cln (n + 1) (hadT n M)) :
    Calls Try.prog 12 #[s, .string { data := #[112, 117, 116] }, .slice pl 2 cl] w fun e w' => DoQ w (n + 3) (n + 1) (cleanT (n + 3) (tableT n (X ++ ((k, V) :: Y)))) (cleanT (n + 1) (hadT n M)) 0 e w' := by
  obtain ⟨p, l, c, rfl, hrl⟩ := table_mem hs
  have hl : (X ++ (M ++ Y)).length = l := by have h := hrl.1; rw [List.length_map] at h; exact h
  have hl32 : l ≤ 32 := by rw [← hl]; exact hok.2.1
  have hlen : X.length + (M.length + Y.length) = l := by rw [← hl, List.length_append, List.length_append]
  have hlc := hrl.2.1
  have HR := Lib.hid (fun W (hb : Below w.heap.size w W) => tright_any n _ _ W (rep_keep hb _ _ _ hs) hok)
  have HA := Lib.hid (fun W (hb : Below w.heap.size w W) => (show Calls Try.prog 24 #[.string { data := #[116, 97, 98, 108, 101] }, .string { data := #[112, 117, 116] }, .slice pl 2 cl] W fun e w' => e = .returned (.int .i64 0) ∧ Below W.heap.size W w' by
    have h := check_args tabC { data := #[112, 117, 116] } n pl 2 cl [nameV n k, V] W (repL_keep hb (rep_keep hb _) hr) (by intro T hT; rcases List.mem_cons.1 hT with rfl | hT; exact (name_light n hk).2; rw [List.mem_singleton.1 hT]; exact hVg)
    rw [chk_put n hk hV] at h
    exact h))
  obtain ⟨bl, ol, q, d, rfl, ⟨n0, n1, n2, n3, n4⟩, hkr⟩ := arg_name hr
  obtain ⟨K3, I3, F3, S3, q3, m3, d3, ⟨v0, v1, v2, v3, v4⟩, hvr⟩ := arg_val hr
  refine tdo_run (n + 3) (n + 1) p l c _ _ 2 cl w HR HA (tableT n (X ++ ((k, V) :: Y))) (hadT n M) (Lib.hid (fun W hb => ?_)) (ok_cln hok2) hH
  refine run_put n p l c bl ol k q d K3 I3 F3 S3 q3 m3 d3 cl W (cell_keep hb n0) (cell_keep hb n1) (cell_keep hb n2) (cell_keep hb n3) (cell_keep hb n4) (cell_keep hb v0) (cell_keep hb v1) (cell_keep hb v2) (cell_keep hb v3) (cell_keep hb v4) _ _ 0 (Lib.hid (fun W2 hb2 => ?_))
  have hrlW := repL_keep hb (rep_keep hb _) hrl
  exact tput_ok n p l c k q d K3 I3 F3 S3 q3 m3 d3 X.length (X.length + M.length) ((X ++ (M ++ Y)).map (pairE n)) V (hadT n M) (tableT n (X ++ ((k, V) :: Y))) _ W W2 (Lib.hid hb2) hl32 (by omega) (by omega) hlc (fun h => by rw [← hl]; exact hroom (List.eq_nil_of_length_eq_zero (by omega)))
    (Lib.hid hrlW) (Lib.hid (rep_keep hb _ _ _ hkr)) (Lib.hid (rep_keep hb _ _ _ hvr)) (Lib.hid (fun W3 hb3 => find_M (bel_step hb2 hb3) hrlW (by omega) hX hY hM)) (Lib.hid (fun W3 hb3 => held_M (bel_step hb2 hb3) hrlW hM (X.length + M.length) rfl)) rfl
    (by rw [tk_X, dr_Y]; unfold tableT; rw [List.map_append]; rfl) (Lib.hid hok2)
theorem tdo_full {n : Nat} {s : Value} {pl : Option Addr} {cl : Nat} {X M Y : List (ByteArray × VT (n + 1))} {k : ByteArray} {V : VT (n + 1)} {w : World} (hs : Rep w (n + 3) s (tableT n (X ++ ([] ++ Y)))) (hr : RepL w (Rep w (n + 1)) pl 2 cl [nameV n k, V]) (hok : OkTab n (X ++ ([] ++ Y))) (hX : ∀ e ∈ X, ltB e.1 k = true) (hY : ∀ e ∈ Y, ltB k e.1 = true) (hk : nmV 3 k = true)
    (hV : checkM (measT (n + 1) V) = 0) (hVg : deepT (n + 1) V 64 = false ∧ partsT (n + 1) V ≤ 1000) (hfull : (X ++ ([] ++ Y)).length = 32) :
    Calls Try.prog 12 #[s, .string { data := #[112, 117, 116] }, .slice pl 2 cl] w fun e w' => DoQ w (n + 3) (n + 1) (nilT (n + 2)) (nilT n) 33 e w' := by
  obtain ⟨p, l, c, rfl, hrl⟩ := table_mem hs
  have hl : (X ++ ([] ++ Y)).length = l := by have h := hrl.1; rw [List.length_map] at h; exact h
  have hl32 : l ≤ 32 := by rw [← hl]; exact hok.2.1
  have hlen : X.length + (([] : List (ByteArray × VT (n + 1))).length + Y.length) = l := by rw [← hl, List.length_append, List.length_append]
  have hlc := hrl.2.1
  have HR := Lib.hid (fun W (hb : Below w.heap.size w W) => tright_any n _ _ W (rep_keep hb _ _ _ hs) hok)
  have HA := Lib.hid (fun W (hb : Below w.heap.size w W) => (show Calls Try.prog 24 #[.string { data := #[116, 97, 98, 108, 101] }, .string { data := #[112, 117, 116] }, .slice pl 2 cl] W fun e w' => e = .returned (.int .i64 0) ∧ Below W.heap.size W w' by
    have h := check_args tabC { data := #[112, 117, 116] } n pl 2 cl [nameV n k, V] W (repL_keep hb (rep_keep hb _) hr) (by intro T hT; rcases List.mem_cons.1 hT with rfl | hT; exact (name_light n hk).2; rw [List.mem_singleton.1 hT]; exact hVg)
    rw [chk_put n hk hV] at h
    exact h))
  obtain ⟨bl, ol, q, d, rfl, ⟨n0, n1, n2, n3, n4⟩, hkr⟩ := arg_name hr
  obtain ⟨K3, I3, F3, S3, q3, m3, d3, ⟨v0, v1, v2, v3, v4⟩, hvr⟩ := arg_val hr
  refine tdo_road33 (n + 2) n p l c _ _ 2 cl w HR HA (Lib.hid (fun W hb => ?_))
  refine run_put n p l c bl ol k q d K3 I3 F3 S3 q3 m3 d3 cl W (cell_keep hb n0) (cell_keep hb n1) (cell_keep hb n2) (cell_keep hb n3) (cell_keep hb n4) (cell_keep hb v0) (cell_keep hb v1) (cell_keep hb v2) (cell_keep hb v3) (cell_keep hb v4) _ _ 33 (Lib.hid (fun W2 hb2 => ?_))
  have hrlW := repL_keep hb (rep_keep hb _) hrl
  refine (tput_full n p l c k q d K3 I3 F3 S3 q3 m3 d3 X.length X.length W2 rfl (by rw [← hl]; exact hfull) (by omega) (Lib.hid (fun W3 hb3 => find_M (M := []) (bel_step hb2 hb3) hrlW (by omega) hX hY (Or.inl rfl)))).mono ?_
  rintro e w' ⟨rfl, hb'⟩
  exact ⟨_, _, rfl, hb', fun y _ _ => leafR _ (n + 2) 0 0 0 ⟨#[]⟩ (by decide) (by decide) (by decide) (by decide), leafR _ n 0 0 0 ⟨#[]⟩ (by decide) (by decide) (by decide) (by decide)⟩
theorem tdo_del {n : Nat} {s : Value} {pl : Option Addr} {cl : Nat} {X M Y : List (ByteArray × VT (n + 1))} {k : ByteArray} {w : World} (hs : Rep w (n + 3) s (tableT n (X ++ (M ++ Y)))) (hr : RepL w (Rep w (n + 1)) pl 1 cl [nameV n k]) (hok : OkTab n (X ++ (M ++ Y))) (hX : ∀ e ∈ X, ltB e.1 k = true) (hY : ∀ e ∈ Y, ltB k e.1 = true) (hM : M = [] ∨ ∃ V0, M = [(k, V0)]) (hk : nmV 3 k = true)
    (hok2 : checkM (measT (n + 3) (tableT n (X ++ Y))) = 0 ∧ deepT (n + 3) (tableT n (X ++ Y)) 64 = false ∧ partsT (n + 3) (tableT n (X ++ Y)) ≤ 1000) (hH : Cln (n + 1) (hadT n M)) :
    Calls Try.prog 12 #[s, .string { data := #[100, 101, 108] }, .slice pl 1 cl] w fun e w' => DoQ w (n + 3) (n + 1) (cleanT (n + 3) (tableT n (X ++ Y))) (cleanT (n + 1) (hadT n M)) 0 e w' := by
  obtain ⟨p, l, c, rfl, hrl⟩ := table_mem hs
  have hl : (X ++ (M ++ Y)).length = l := by have h := hrl.1; rw [List.length_map] at h; exact h
  have hl32 : l ≤ 32 := by rw [← hl]; exact hok.2.1
  have hlen : X.length + (M.length + Y.length) = l := by rw [← hl, List.length_append, List.length_append]
  have hlc := hrl.2.1
  have HR := Lib.hid (fun W (hb : Below w.heap.size w W) => tright_any n _ _ W (rep_keep hb _ _ _ hs) hok)
  have HA := Lib.hid (fun W (hb : Below w.heap.size w W) => (show Calls Try.prog 24 #[.string { data := #[116, 97, 98, 108, 101] }, .string { data := #[100, 101, 108] }, .slice pl 1 cl] W fun e w' => e = .returned (.int .i64 0) ∧ Below W.heap.size W w' by
    have h := check_args tabC { data := #[100, 101, 108] } n pl 1 cl [nameV n k] W (repL_keep hb (rep_keep hb _) hr) (by intro T hT; rw [List.mem_singleton.1 hT]; exact (name_light n hk).2)
    rw [chk_one n _ (Or.inl rfl) hk] at h
    exact h))
  obtain ⟨bl, ol, q, d, rfl, ⟨n0, n1, n2, n3, n4⟩, hkr⟩ := arg_name hr
  refine tdo_run (n + 3) (n + 1) p l c _ _ 1 cl w HR HA (tableT n (X ++ Y)) (hadT n M) (Lib.hid (fun W hb => ?_)) (ok_cln hok2) hH
  refine run_del n p l c bl ol k q d cl W (cell_keep hb n0) (cell_keep hb n1) (cell_keep hb n2) (cell_keep hb n3) (cell_keep hb n4) _ _ (Lib.hid (fun W2 hb2 => ?_))
  have hrlW := repL_keep hb (rep_keep hb _) hrl
  have h := tdel_ok n p l c k q d X.length (X.length + M.length) ((X ++ (M ++ Y)).map (pairE n)) (hadT n M) _ W W2 (Lib.hid hb2) hl32 (by omega) (by omega) hlc
    (Lib.hid hrlW) (Lib.hid (fun W3 hb3 => find_M (bel_step hb2 hb3) hrlW (by omega) hX hY hM)) (Lib.hid (fun W3 hb3 => held_M (bel_step hb2 hb3) hrlW hM (X.length + M.length) rfl)) rfl
  rw [tk_X, dr_Y, List.nil_append, ← List.map_append] at h
  exact h
theorem tdo_get {n : Nat} {s : Value} {pl : Option Addr} {cl : Nat} {X M Y : List (ByteArray × VT (n + 1))} {k : ByteArray} {w : World} (hs : Rep w (n + 3) s (tableT n (X ++ (M ++ Y)))) (hr : RepL w (Rep w (n + 1)) pl 1 cl [nameV n k]) (hok : OkTab n (X ++ (M ++ Y))) (hX : ∀ e ∈ X, ltB e.1 k = true) (hY : ∀ e ∈ Y, ltB k e.1 = true) (hM : M = [] ∨ ∃ V0, M = [(k, V0)]) (hk : nmV 3 k = true) (hH : Cln (n + 1) (hadT n M)) :
    Calls Try.prog 12 #[s, .string { data := #[103, 101, 116] }, .slice pl 1 cl] w fun e w' => DoQ w (n + 3) (n + 1) (cleanT (n + 3) (tableT n (X ++ (M ++ Y)))) (cleanT (n + 1) (hadT n M)) 0 e w' := by
  obtain ⟨p, l, c, rfl, hrl⟩ := table_mem hs
  have hl : (X ++ (M ++ Y)).length = l := by have h := hrl.1; rw [List.length_map] at h; exact h
  have hl32 : l ≤ 32 := by rw [← hl]; exact hok.2.1
  have hlen : X.length + (M.length + Y.length) = l := by rw [← hl, List.length_append, List.length_append]
  have hlc := hrl.2.1
  have HR := Lib.hid (fun W (hb : Below w.heap.size w W) => tright_any n _ _ W (rep_keep hb _ _ _ hs) hok)
  have HA := Lib.hid (fun W (hb : Below w.heap.size w W) => (show Calls Try.prog 24 #[.string { data := #[116, 97, 98, 108, 101] }, .string { data := #[103, 101, 116] }, .slice pl 1 cl] W fun e w' => e = .returned (.int .i64 0) ∧ Below W.heap.size W w' by
    have h := check_args tabC { data := #[103, 101, 116] } n pl 1 cl [nameV n k] W (repL_keep hb (rep_keep hb _) hr) (by intro T hT; rw [List.mem_singleton.1 hT]; exact (name_light n hk).2)
    rw [chk_one n _ (Or.inr rfl) hk] at h
    exact h))
  obtain ⟨bl, ol, q, d, rfl, ⟨n0, n1, n2, n3, n4⟩, hkr⟩ := arg_name hr
  refine tdo_run (n + 3) (n + 1) p l c _ _ 1 cl w HR HA _ (hadT n M) (Lib.hid (fun W hb => ?_)) (ok_cln hok.2.2) hH
  have hrlW := repL_keep hb (rep_keep hb _) hrl
  exact run_get n p l c bl ol k q d cl W (cell_keep hb n0) (cell_keep hb n1) (cell_keep hb n2) (cell_keep hb n3) (cell_keep hb n4) _ _ (Lib.hid (rep_keep hb _ _ _ hs)) X.length (X.length + M.length) _ (by omega) (by omega)
    (Lib.hid (fun W3 hb3 => find_M hb3 hrlW (by omega) hX hY hM)) (Lib.hid (fun W3 hb3 => held_M hb3 hrlW hM (X.length + M.length) rfl)) rfl
theorem tdo_keys {n : Nat} {s : Value} {pl : Option Addr} {cl : Nat} {ES : List (ByteArray × VT (n + 1))} {w : World} (hs : Rep w (n + 3) s (tableT n ES)) (hr : RepL w (Rep w (n + 1)) pl 0 cl []) (hok : OkTab n ES) (hH : Cln (n + 2) ((4, 0, 0, ⟨#[]⟩, ES.map fun e => nameV n e.1) : VT (n + 2))) :
    Calls Try.prog 12 #[s, .string { data := #[107, 101, 121, 115] }, .slice pl 0 cl] w fun e w' => DoQ w (n + 3) (n + 2) (cleanT (n + 3) (tableT n ES)) (cleanT (n + 2) ((4, 0, 0, ⟨#[]⟩, ES.map fun e => nameV n e.1) : VT (n + 2))) 0 e w' := by
  obtain ⟨p, l, c, rfl, hrl⟩ := table_mem hs
  have hl : ES.length = l := by have h := hrl.1; rw [List.length_map] at h; exact h
  have hl32 : l ≤ 32 := by rw [← hl]; exact hok.2.1
  have HR := Lib.hid (fun W (hb : Below w.heap.size w W) => tright_any n _ _ W (rep_keep hb _ _ _ hs) hok)
  have HA := Lib.hid (fun W (hb : Below w.heap.size w W) => (show Calls Try.prog 24 #[.string { data := #[116, 97, 98, 108, 101] }, .string { data := #[107, 101, 121, 115] }, .slice pl 0 cl] W fun e w' => e = .returned (.int .i64 0) ∧ Below W.heap.size W w' by
    have h := check_args tabC { data := #[107, 101, 121, 115] } n pl 0 cl [] W (repL_keep hb (rep_keep hb _) hr) (by intro T hT; exact absurd hT List.not_mem_nil)
    rw [chk_nil n _ (Or.inl rfl)] at h
    exact h))
  refine tdo_run (n + 3) (n + 2) p l c _ _ 0 cl w HR HA _ _ (Lib.hid (fun W hb => ?_)) (ok_cln hok.2.2) hH
  have hrlW := repL_keep hb (rep_keep hb _) hrl
  refine run_keys n p l c _ _ _ W _ _ (Lib.hid (rep_keep hb _ _ _ hs)) (Lib.hid (fun W2 hb2 => ?_))
  refine (names_any n p l c ES W W2 hb2 (repL_at hb2 hrlW) (by omega)).mono ?_
  rintro e w' ⟨p', c', rfl, hb', hy⟩
  exact ⟨p', l, c', rfl, hb', fun y hby hst => list_rep (repL_mono (fun _ _ h => rep_keep hby _ _ _ h) (hy y hst))⟩
theorem tdo_size {n : Nat} {s : Value} {pl : Option Addr} {cl : Nat} {ES : List (ByteArray × VT (n + 1))} {w : World} (hs : Rep w (n + 3) s (tableT n ES)) (hr : RepL w (Rep w (n + 1)) pl 0 cl []) (hok : OkTab n ES) :
    Calls Try.prog 12 #[s, .string { data := #[115, 105, 122, 101] }, .slice pl 0 cl] w fun e w' => DoQ w (n + 3) (n + 1) (cleanT (n + 3) (tableT n ES)) (numT n ES.length) 0 e w' := by
  obtain ⟨p, l, c, rfl, hrl⟩ := table_mem hs
  have hl : ES.length = l := by have h := hrl.1; rw [List.length_map] at h; exact h
  have hl32 : l ≤ 32 := by rw [← hl]; exact hok.2.1
  have HR := Lib.hid (fun W (hb : Below w.heap.size w W) => tright_any n _ _ W (rep_keep hb _ _ _ hs) hok)
  have HA := Lib.hid (fun W (hb : Below w.heap.size w W) => (show Calls Try.prog 24 #[.string { data := #[116, 97, 98, 108, 101] }, .string { data := #[115, 105, 122, 101] }, .slice pl 0 cl] W fun e w' => e = .returned (.int .i64 0) ∧ Below W.heap.size W w' by
    have h := check_args tabC { data := #[115, 105, 122, 101] } n pl 0 cl [] W (repL_keep hb (rep_keep hb _) hr) (by intro T hT; exact absurd hT List.not_mem_nil)
    rw [chk_nil n _ (Or.inr rfl)] at h
    exact h))
  have h := tdo_run (n + 3) (n + 1) p l c _ _ 0 cl w HR HA _ (numT n l) (Lib.hid (fun W hb => run_size n p l c _ _ _ W _ (Lib.hid (rep_keep hb _ _ _ hs)) (by omega))) (ok_cln hok.2.2) ⟨rfl, by show (1 : Nat) ≤ 1000; decide, by unfold numT; rw [measT_num rfl rfl]; decide +kernel⟩
  rw [hl]
  exact h
end Num
end Go.Proofs.Ytamogpbbaihaaaa
