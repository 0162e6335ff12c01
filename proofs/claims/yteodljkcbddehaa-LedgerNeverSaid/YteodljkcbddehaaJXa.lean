/-
  Package ledger's Do, whatever the method, whatever the arguments, weakly.
-/
import Derived.Test.YteodljkcbddehaaJMI
import Derived.Test.YteodljkcbddehaaJp19Wu
import Derived.Test.YteodljkcbddehaaJp20Wm
namespace Go.Proofs.Yteodljkcbddehaa
open Go.RowKit
namespace Num
open Ints
set_option linter.unusedSimpArgs false
set_option linter.unusedVariables false
theorem ba_same {a b : ByteArray} (h : (a == b) = true) : a = b := by
  cases a with
  | mk a => cases b with
    | mk b => exact congrArg ByteArray.mk (eq_of_beq (show (a == b) = true from h))
theorem lst2 {α : Type} : ∀ (L : List α), L.length = 2 → ∃ a b, L = [a, b]
  | [a, b], _ => ⟨a, b, rfl⟩
theorem lst3 {α : Type} : ∀ (L : List α), L.length = 3 → ∃ a b c, L = [a, b, c]
  | [a, b, c], _ => ⟨a, b, c, rfl⟩
theorem find_name (k : ByteArray) : ∀ (M : List (ByteArray × Bool × ByteArray)) (x : ByteArray × Bool × ByteArray), findM k M = some x → k = x.1
  | [], x, h => by cases h
  | y :: r, x, h => by
    unfold findM at h
    split at h
    · rename_i he
      injection h with h
      subst h
      exact ba_same he
    · exact find_name k r x h
theorem repLP_keep {w w' : World} (hb : Below w.heap.size w w') {n : Nat} {p : Option Addr} {l c : Nat} {L : List (VT n)} (h : RepLP w (RepP w n) p l c L) : RepLP w' (RepP w' n) p l c L := by
  obtain ⟨k1, k2, k3, k4⟩ := h
  refine ⟨k1, k2, k3, fun h0 => ?_⟩
  obtain ⟨b, off, hp, hpw, hi⟩ := k4 h0
  exact ⟨b, off, hp, pw_now hpw hb, fun i hi' => by obtain ⟨v0, v1, v2, v3, v4, c0, c1, c2, c3, c4, hr⟩ := hi i hi'; exact ⟨v0, v1, v2, v3, v4, ck hb c0, ck hb c1, ck hb c2, ck hb c3, ck hb c4, repP_keep hb n _ _ hr⟩⟩
theorem repLP_rep {w : World} {n : Nat} {p : Option Addr} {l c : Nat} {L : List (VT n)} (h : RepLP w (RepP w n) p l c L) : RepL w (Rep w n) p l c L := by
  obtain ⟨k1, k2, k3, k4⟩ := h
  refine ⟨k1, k2, k3, fun h0 => ?_⟩
  obtain ⟨b, off, hp, _, hi⟩ := k4 h0
  exact ⟨b, off, hp, fun i hi' => by obtain ⟨v0, v1, v2, v3, v4, c0, c1, c2, c3, c4, hr⟩ := hi i hi'; exact ⟨v0, v1, v2, v3, v4, c0, c1, c2, c3, c4, repP_rep n _ _ hr⟩⟩
theorem nm3 {K : Int} {S : ByteArray} (h : nmV K S = true) : nmV 3 S = true := by
  unfold nmV at h ⊢
  rw [Bool.and_eq_true] at h ⊢
  exact ⟨by decide, h.2⟩
theorem arg_leaf {W : World} {n : Nat} {K3 I3 : Int} {F3 : Nat} {S3 : ByteArray} {q3 : Option Addr} {m3 d3 : Nat} (T : VT (n + 1)) (h : Rep W (n + 1) (.agg #[.int .i64 K3, .int .i64 I3, .float .f64 F3, .string S3, .slice q3 m3 d3]) T) : K3 = T.1 ∧ I3 = T.2.1 ∧ F3 = T.2.2.1 ∧ S3 = T.2.2.2.1 ∧ okI T.2.1 ∧ T.2.2.1 < 2 ^ 64 :=
  leaf_is (K := T.1) (I := T.2.1) (F := T.2.2.1) (Z := T.2.2.2.1) (L := T.2.2.2.2) h
theorem one_arg {W : World} {n : Nat} {pl : Option Addr} {ll cl : Nat} {L : List (VT (n + 1))} (ha : RepL W (Rep W (n + 1)) pl ll cl L) (hl : L.length = 1) (hh : hldL { data := #[110] } n 0 L = true) : ∃ (bl ol : Nat) (k : ByteArray), pl = some ⟨bl, ol, none⟩ ∧ ll = 1 ∧ W.cell? ⟨bl, ol + 3, none⟩ = some (.string k) ∧ nmV 3 k = true := by
  obtain ⟨T0, rfl⟩ := List.length_eq_one_iff.1 hl
  have h1 : (nmV T0.1 T0.2.2.2.1 && true) = true := hh
  rw [Bool.and_true] at h1
  obtain rfl : 1 = ll := ha.1
  obtain ⟨bl, ol, rfl, _⟩ := ha.2.2.2 (by omega)
  obtain ⟨K3, I3, F3, S3, q3, m3, d3, ⟨c0, c1, c2, c3, c4⟩, hv⟩ := arg_nth ha (i := 0) (by simp)
  obtain ⟨rfl, rfl, rfl, rfl, hi, hF⟩ := arg_leaf T0 hv
  exact ⟨bl, ol, _, rfl, rfl, by simpa using c3, nm3 h1⟩
theorem two_args {W : World} {n : Nat} {pl : Option Addr} {ll cl : Nat} {L : List (VT (n + 1))} (ha : RepL W (Rep W (n + 1)) pl ll cl L) (hl : L.length = 2) (hh : hldL { data := #[110, 35] } n 0 L = true) : ∃ (bl ol : Nat) (k : ByteArray) (K3 I3 : Int) (F3 : Nat) (S3 : ByteArray) (q3 : Option Addr) (m3 d3 : Nat), pl = some ⟨bl, ol, none⟩ ∧ ll = 2 ∧ W.cell? ⟨bl, ol + 3, none⟩ = some (.string k) ∧ nmV 3 k = true ∧ (W.cell? ⟨bl, ol + 5, none⟩ = some (.int .i64 K3) ∧ W.cell? ⟨bl, ol + 5 + 1, none⟩ = some (.int .i64 I3) ∧ W.cell? ⟨bl, ol + 5 + 2, none⟩ = some (.float .f64 F3) ∧ W.cell? ⟨bl, ol + 5 + 3, none⟩ = some (.string S3) ∧ W.cell? ⟨bl, ol + 5 + 4, none⟩ = some (.slice q3 m3 d3)) ∧ F3 < 2 ^ 64 ∧ okI I3 := by
  obtain ⟨T0, T1, rfl⟩ := lst2 L hl
  have h1 : (nmV T0.1 T0.2.2.2.1 && ((T1.1 == 1 || T1.1 == 2) && true)) = true := hh
  rw [Bool.and_eq_true] at h1
  obtain rfl : 2 = ll := ha.1
  obtain ⟨bl, ol, rfl, _⟩ := ha.2.2.2 (by omega)
  obtain ⟨K0, I0, F0, S0, q0, m0, d0, ⟨_, _, _, c3, _⟩, hv⟩ := arg_nth ha (i := 0) (by simp)
  obtain ⟨rfl, rfl, rfl, rfl, _, _⟩ := arg_leaf T0 hv
  obtain ⟨K3, I3, F3, S3, q3, m3, d3, ⟨v0, v1, v2, v3, v4⟩, hv1⟩ := arg_nth ha (i := 1) (by simp)
  obtain ⟨rfl, rfl, rfl, rfl, hi, hF⟩ := arg_leaf T1 hv1
  rw [Nat.one_mul] at v0 v1 v2 v3 v4
  exact ⟨bl, ol, _, _, _, _, _, q3, m3, d3, rfl, rfl, by simpa using c3, nm3 h1.1, ⟨v0, v1, v2, v3, v4⟩, hF, hi⟩
theorem three_args {W : World} {n : Nat} {pl : Option Addr} {ll cl : Nat} {L : List (VT (n + 1))} (ha : RepL W (Rep W (n + 1)) pl ll cl L) (hl : L.length = 3) (hh : hldL { data := #[110, 110, 35] } n 0 L = true) : ∃ (bl ol : Nat) (ka kd : ByteArray) (K3 I3 : Int) (F3 : Nat) (S3 : ByteArray) (q3 : Option Addr) (m3 d3 : Nat), pl = some ⟨bl, ol, none⟩ ∧ ll = 3 ∧ W.cell? ⟨bl, ol + 3, none⟩ = some (.string ka) ∧ W.cell? ⟨bl, ol + 5 + 3, none⟩ = some (.string kd) ∧ nmV 3 ka = true ∧ nmV 3 kd = true ∧ (W.cell? ⟨bl, ol + 10, none⟩ = some (.int .i64 K3) ∧ W.cell? ⟨bl, ol + 10 + 1, none⟩ = some (.int .i64 I3) ∧ W.cell? ⟨bl, ol + 10 + 2, none⟩ = some (.float .f64 F3) ∧ W.cell? ⟨bl, ol + 10 + 3, none⟩ = some (.string S3) ∧ W.cell? ⟨bl, ol + 10 + 4, none⟩ = some (.slice q3 m3 d3)) ∧ F3 < 2 ^ 64 ∧ okI I3 := by
  obtain ⟨T0, T1, T2, rfl⟩ := lst3 L hl
  have h1 : (nmV T0.1 T0.2.2.2.1 && (nmV T1.1 T1.2.2.2.1 && ((T2.1 == 1 || T2.1 == 2) && true))) = true := hh
  rw [Bool.and_eq_true, Bool.and_eq_true] at h1
  obtain rfl : 3 = ll := ha.1
  obtain ⟨bl, ol, rfl, _⟩ := ha.2.2.2 (by omega)
  obtain ⟨K0, I0, F0, S0, q0, m0, d0, ⟨_, _, _, c3, _⟩, hv⟩ := arg_nth ha (i := 0) (by simp)
  obtain ⟨rfl, rfl, rfl, rfl, _, _⟩ := arg_leaf T0 hv
  obtain ⟨K1, I1, F1, S1, q1, m1, d1, ⟨_, _, _, e3, _⟩, hv1⟩ := arg_nth ha (i := 1) (by simp)
  obtain ⟨rfl, rfl, rfl, rfl, _, _⟩ := arg_leaf T1 hv1
  obtain ⟨K3, I3, F3, S3, q3, m3, d3, ⟨v0, v1, v2, v3, v4⟩, hv2⟩ := arg_nth ha (i := 2) (by simp)
  obtain ⟨rfl, rfl, rfl, rfl, hi, hF⟩ := arg_leaf T2 hv2
  rw [Nat.one_mul] at e3
  exact ⟨bl, ol, _, _, _, _, _, _, q3, m3, d3, rfl, rfl, by simpa using c3, e3, nm3 h1.1, nm3 h1.2.1, ⟨v0, v1, v2, v3, v4⟩, hF, hi⟩
theorem cnt_of {z l : Nat} (h : (decide (z ≤ l) && decide ((l : Int) ≤ (z : Int) + 0)) = true) : l = z := by
  rw [Bool.and_eq_true, decide_eq_true_iff, decide_eq_true_iff] at h
  omega
set_option maxRecDepth 100000 in
set_option maxHeartbeats 4000000 in
theorem ldo_any {AS : List (ByteArray × Nat)} (hok : OkA AS) {s : Value} {w : World} (hs : Rep w 3 s (tableT 0 (ledA AS))) (ms : ByteArray) {n : Nat} {pl : Option Addr} {ll cl : Nat} {L : List (VT (n + 1))} (hr : RepLP w (RepP w (n + 1)) pl ll cl L) : Calls Try.prog 7 #[s, .string ms, .slice pl ll cl] w fun e w' => LdoW w e w' := by
  obtain ⟨p, l, c, rfl, hrl0⟩ := led_mem hs
  refine ldo_weak (∃ x, findM ms (metas ledC) = some x ∧ (decide (x.2.2.size ≤ L.length) && decide ((L.length : Int) ≤ x.2.2.size + moreOf x.2.2)) = true ∧ hldL x.2.2 n 0 L = true) p l c ms pl ll cl w (right_A hok hs) (Lib.hid (fun W hb => acheck_weak ledC ms n pl ll cl L W (repLP_keep hb hr))) (Lib.hid ?_)
  rintro ⟨x, hx, hc, hh⟩ W hb
  have hrl := repL_acc hb hrl0
  have ha : RepL W (Rep W (n + 1)) pl ll cl L := repLP_rep (repLP_keep hb hr)
  have hm := find_mem _ _ _ hx
  obtain rfl := find_name _ _ _ hx
  rw [led_metas] at hm
  clear hx hrl0 hs hr
  simp only [msL, List.mem_cons, List.not_mem_nil, or_false] at hm
  rcases hm with rfl | rfl | rfl | rfl | rfl | rfl | rfl
  · obtain ⟨bl, ol, k, rfl, rfl, n0, hk⟩ := one_arg ha (cnt_of (z := 1) hc) hh
    exact lrun_balance hok hrl n0
  · obtain ⟨bl, ol, k, rfl, rfl, n0, hk⟩ := one_arg ha (cnt_of (z := 1) hc) hh
    exact lrun_close hok hrl n0
  · obtain ⟨bl, ol, k, K3, I3, F3, S3, q3, m3, d3, rfl, rfl, n0, hk, ⟨v0, v1, v2, v3, v4⟩, hF, hi⟩ := two_args ha (cnt_of (z := 2) hc) hh
    exact lrun_deposit hok hrl n0 v0 v1 v2 v3 v4 hk hF hi
  · obtain rfl : L = [] := List.length_eq_zero_iff.1 (cnt_of (z := 0) hc)
    obtain rfl : 0 = ll := ha.1
    exact lrun_names hok hrl
  · obtain ⟨bl, ol, k, rfl, rfl, n0, hk⟩ := one_arg ha (cnt_of (z := 1) hc) hh
    exact lrun_open hok hrl n0 hk
  · obtain rfl : L = [] := List.length_eq_zero_iff.1 (cnt_of (z := 0) hc)
    obtain rfl : 0 = ll := ha.1
    exact lrun_total hok hrl
  · obtain ⟨bl, ol, ka, kd, K3, I3, F3, S3, q3, m3, d3, rfl, rfl, n0, n1, hka, hkd, ⟨v0, v1, v2, v3, v4⟩, hF, hi⟩ := three_args ha (cnt_of (z := 3) hc) hh
    exact lrun_transfer hok hrl n0 n1 v0 v1 v2 v3 v4 hka hkd hF hi
end Num
end Go.Proofs.Yteodljkcbddehaa
