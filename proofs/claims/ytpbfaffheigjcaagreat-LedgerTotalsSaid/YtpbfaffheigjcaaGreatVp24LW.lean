/-
  The reference: every method of a ledger, as far as the law of totals asks.
-/
import Derived.Test.YtpbfaffheigjcaaGreatVMI
import Derived.Test.YtpbfaffheigjcaaGreatVp18LM
import Derived.Test.YtpbfaffheigjcaaGreatVp19LQd
import Derived.Test.YtpbfaffheigjcaaGreatVp23LM2
import Derived.Test.YtpbfaffheigjcaaGreatVp20LK
namespace Go.Proofs.YtpbfaffheigjcaaGreat
open Go.RowKit
namespace Num
open Ints
set_option linter.unusedSimpArgs false
set_option linter.unusedVariables false
theorem acc_spot {AS : List (ByteArray × Nat)} (hok : OkA AS) (k : ByteArray) : (∃ a, Spot ((ledA AS).map (·.1)) k a false) ∨ ∃ a F, ∃ h : a < AS.length, AS[a] = (k, F) ∧ F < 9218868437227405312 ∧ Spot ((ledA AS).map (·.1)) k a true := by
  rw [ledA_names]
  obtain ⟨a, f, hs⟩ := spot_of hok.1 k
  cases f with
  | false => exact Or.inl ⟨a, hs⟩
  | true =>
    obtain ⟨ha, he⟩ := spot_eq hs
    have ha' : a < AS.length := by rw [List.length_map] at ha; exact ha
    rw [List.getElem_map] at he
    have hk : AS[a].1 = k := by
      have h := ba_eq8 (AS[a].1) k
      rw [beq_iff_eq.2 he, ba_beq8] at h
      exact (ByteArray.ext (eq_of_beq h.symm)).symm
    exact Or.inr ⟨a, AS[a].2, ha', by rw [← hk], hok.2.2 _ (List.getElem_mem ha'), hs⟩
set_option maxRecDepth 100000 in
set_option maxHeartbeats 4000000 in
theorem lw_bal {AS : List (ByteArray × Nat)} (hok : OkA AS) {n : Nat} (W : World) (R : Value → VT 2 → Prop) (q : Option Addr) (m d2 : Nat) (pa : Option Addr) (la ca : Nat) (hR : One5 R) (hL : RepL W R q m d2 ((ledA AS).map (pairE 0))) (hRW : ∀ W', Below W.heap.size W W' → ∀ v X, R v X → Rep W' 2 v X) {ka : ByteArray} (hna : nmV 3 ka = true) (hN : RepL W (Rep W (n + 1)) pa la ca [nameV n ka]) :
    Calls Tryz.prog 38 #[.agg #[.int .i64 4, .int .i64 0, .float .f64 0, .string ⟨#[]⟩, .slice q m d2], .string { data := #[98, 97, 108, 97, 110, 99, 101] }, .slice pa la ca] W fun e w' => RLW W R q m d2 ((ledA AS).map (pairE 0)) e w' := by
  have hm : m = AS.length := by have := hL.1; rw [List.length_map, ledA_len] at this; exact this.symm
  have hl32 : m ≤ 32 := by rw [hm]; exact hok.2.1
  obtain rfl : la = 1 := hN.1.symm
  obtain ⟨bl, ol, rfl, _⟩ := hN.2.2.2 (by omega)
  have HE := Lib.hid (ents_of (repL_mono (hRW W br) hL) (by omega))
  obtain ⟨n0, _⟩ := arg_nm hN (i := 0) (by simp) rfl
  simp only [Nat.zero_mul, Nat.add_zero] at n0
  rcases acc_spot hok ka with ⟨a, hs⟩ | ⟨a, FA, ha, hka, hFA, hs⟩
  · exact (rbal_none 0 0 _ d2 a 0 bl ol ca q ka ⟨#[]⟩ 0 0 0 ⟨#[]⟩ none 0 0 W n0   R (ledA AS) hl32 HE hs).mono (fun e w' h => rlw_of h hL hRW (fun h => by cases h))
  · obtain ⟨b, off, rfl, _⟩ := hL.2.2.2 (by omega)
    have hal' : a < (ledA AS).length := by rw [ledA_len]; exact ha
    have hea := ledA_at ha hka hal'
    obtain ⟨gc, oc, cgc, hc⟩ := accC_of hL (hRW W br) hal' hea
    have hal : a < m := by omega
    exact (rbal_ok b off _ d2 a 0 bl ol ca none ka ⟨#[]⟩ 0 0 0 ⟨#[]⟩ none 0 0 W n0   R (ledA AS) hl32 FA hal gc oc cgc hc HE hs (by omega) (Lib.hid (Flo.canon_yes (feq_pos (Nat.le_of_lt hFA))))).mono (fun e w' h => rlw_of h hL hRW (fun _ => ⟨AS, hok, rfl⟩))
set_option maxRecDepth 100000 in
set_option maxHeartbeats 4000000 in
theorem lw_clo {AS : List (ByteArray × Nat)} (hok : OkA AS) {n : Nat} (W : World) (R : Value → VT 2 → Prop) (q : Option Addr) (m d2 : Nat) (pa : Option Addr) (la ca : Nat) (hR : One5 R) (hL : RepL W R q m d2 ((ledA AS).map (pairE 0))) (hRW : ∀ W', Below W.heap.size W W' → ∀ v X, R v X → Rep W' 2 v X) {ka : ByteArray} (hna : nmV 3 ka = true) (hN : RepL W (Rep W (n + 1)) pa la ca [nameV n ka]) :
    Calls Tryz.prog 38 #[.agg #[.int .i64 4, .int .i64 0, .float .f64 0, .string ⟨#[]⟩, .slice q m d2], .string { data := #[99, 108, 111, 115, 101] }, .slice pa la ca] W fun e w' => RLW W R q m d2 ((ledA AS).map (pairE 0)) e w' := by
  have hm : m = AS.length := by have := hL.1; rw [List.length_map, ledA_len] at this; exact this.symm
  have hl32 : m ≤ 32 := by rw [hm]; exact hok.2.1
  obtain rfl : la = 1 := hN.1.symm
  obtain ⟨bl, ol, rfl, _⟩ := hN.2.2.2 (by omega)
  have HE := Lib.hid (ents_of (repL_mono (hRW W br) hL) (by omega))
  obtain ⟨n0, _⟩ := arg_nm hN (i := 0) (by simp) rfl
  simp only [Nat.zero_mul, Nat.add_zero] at n0
  rcases acc_spot hok ka with ⟨a, hs⟩ | ⟨a, FA, ha, hka, hFA, hs⟩
  · exact (rclo_none 0 0 _ d2 a 0 bl ol ca q ka ⟨#[]⟩ 0 0 0 ⟨#[]⟩ none 0 0 W n0   R (ledA AS) hl32 HE hs).mono (fun e w' h => rlw_of h hL hRW (fun h => by cases h))
  · obtain ⟨b, off, rfl, _⟩ := hL.2.2.2 (by omega)
    have hal' : a < (ledA AS).length := by rw [ledA_len]; exact ha
    have hea := ledA_at ha hka hal'
    obtain ⟨gc, oc, cgc, hc⟩ := accC_of hL (hRW W br) hal' hea
    have hal : a < m := by omega
    cases hgt : (FloatKind.f64.format.order FA 0 == some .gt)
    · exact (rclo_ok b off _ d2 a 0 bl ol ca none ka ⟨#[]⟩ 0 0 0 ⟨#[]⟩ none 0 0 W n0   R (ledA AS) hl32 FA hal gc oc cgc hc HE hs hgt hR (Lib.hid hL)).mono (fun e w' h => rlw_of h hL hRW (fun _ => ⟨_, okA_del hok a, by rw [ledA_del]⟩))
    · exact (rclo_funds b off _ d2 a 0 bl ol ca none ka ⟨#[]⟩ 0 0 0 ⟨#[]⟩ none 0 0 W n0   R (ledA AS) hl32 FA hal gc oc cgc hc HE hs hgt).mono (fun e w' h => rlw_of h hL hRW (fun h => by cases h))
set_option maxRecDepth 100000 in
set_option maxHeartbeats 4000000 in
theorem lw_ope {AS : List (ByteArray × Nat)} (hok : OkA AS) {n : Nat} (W : World) (R : Value → VT 2 → Prop) (q : Option Addr) (m d2 : Nat) (pa : Option Addr) (la ca : Nat) (hR : One5 R) (hL : RepL W R q m d2 ((ledA AS).map (pairE 0))) (hRW : ∀ W', Below W.heap.size W W' → ∀ v X, R v X → Rep W' 2 v X) {ka : ByteArray} (hna : nmV 3 ka = true) (hN : RepL W (Rep W (n + 1)) pa la ca [nameV n ka]) :
    Calls Tryz.prog 38 #[.agg #[.int .i64 4, .int .i64 0, .float .f64 0, .string ⟨#[]⟩, .slice q m d2], .string { data := #[111, 112, 101, 110] }, .slice pa la ca] W fun e w' => RLW W R q m d2 ((ledA AS).map (pairE 0)) e w' := by
  have hm : m = AS.length := by have := hL.1; rw [List.length_map, ledA_len] at this; exact this.symm
  have hl32 : m ≤ 32 := by rw [hm]; exact hok.2.1
  obtain rfl : la = 1 := hN.1.symm
  obtain ⟨bl, ol, rfl, _⟩ := hN.2.2.2 (by omega)
  have HE := Lib.hid (ents_of (repL_mono (hRW W br) hL) (by omega))
  obtain ⟨n0, _⟩ := arg_nm hN (i := 0) (by simp) rfl
  simp only [Nat.zero_mul, Nat.add_zero] at n0
  rcases acc_spot hok ka with ⟨a, hs⟩ | ⟨a, FA, ha, hka, hFA, hs⟩
  · by_cases hfull : 32 ≤ m
    · exact (rope_full 0 0 _ d2 a 0 bl ol ca q ka ⟨#[]⟩ 0 0 0 ⟨#[]⟩ none 0 0 W n0   R (ledA AS) hl32 HE hs hfull).mono (fun e w' h => rlw_of h hL hRW (fun h => by cases h))
    · have hap : a ≤ m := by have := hs.1; rw [List.length_map, ledA_len] at this; omega
      have hs2 : Spot (AS.map (·.1)) ka a false := by rw [← ledA_names]; exact hs
      have hz : (0 : Int) = 0 → ∃ AS2, OkA AS2 ∧ tableT 0 ((ledA AS).take a ++ [(ka, floT 0 0)] ++ (ledA AS).drop a) = tableT 0 (ledA AS2) := fun _ => ⟨_, okA_ins hok hs2 hna (by omega) (by decide : (0 : Nat) < 9218868437227405312), by rw [ledA_ins]⟩
      exact (rope_ok 0 0 _ d2 a 0 bl ol ca q ka ⟨#[]⟩ 0 0 0 ⟨#[]⟩ none 0 0 W n0   R (ledA AS) hl32 HE hs (by omega) hap hR (Lib.hid hL) hna).mono (fun e w' h => rlw_of h hL hRW hz)
  · exact (rope_is 0 0 _ d2 a 0 bl ol ca q ka ⟨#[]⟩ 0 0 0 ⟨#[]⟩ none 0 0 W n0   R (ledA AS) hl32 HE hs).mono (fun e w' h => rlw_of h hL hRW (fun h => by cases h))
set_option maxRecDepth 100000 in
set_option maxHeartbeats 4000000 in
theorem lw_dep {AS : List (ByteArray × Nat)} (hok : OkA AS) {n : Nat} (W : World) (R : Value → VT 2 → Prop) (q : Option Addr) (m d2 : Nat) (pa : Option Addr) (la ca : Nat) (hR : One5 R) (hL : RepL W R q m d2 ((ledA AS).map (pairE 0))) (hRW : ∀ W', Below W.heap.size W W' → ∀ v X, R v X → Rep W' 2 v X) {ka : ByteArray} {K I : Int} {F : Nat} (hna : nmV 3 ka = true) (hN : RepL W (Rep W (n + 1)) pa la ca [nameV n ka, (K, I, F, ⟨#[]⟩, [])]) :
    Calls Tryz.prog 38 #[.agg #[.int .i64 4, .int .i64 0, .float .f64 0, .string ⟨#[]⟩, .slice q m d2], .string { data := #[100, 101, 112, 111, 115, 105, 116] }, .slice pa la ca] W fun e w' => RLW W R q m d2 ((ledA AS).map (pairE 0)) e w' := by
  have hm : m = AS.length := by have := hL.1; rw [List.length_map, ledA_len] at this; exact this.symm
  have hl32 : m ≤ 32 := by rw [hm]; exact hok.2.1
  obtain rfl : la = 2 := hN.1.symm
  obtain ⟨bl, ol, rfl, _⟩ := hN.2.2.2 (by omega)
  have HE := Lib.hid (ents_of (repL_mono (hRW W br) hL) (by omega))
  obtain ⟨n0, _⟩ := arg_nm hN (i := 0) (by simp) rfl
  simp only [Nat.zero_mul, Nat.add_zero] at n0
  obtain ⟨K3, I3, F3, S3, q3, m3, d3, ⟨v0, v1, v2, v3, v4⟩, hv⟩ := arg_nth hN (i := 1) (by simp)
  have hi : okI I ∧ F < 2 ^ 64 := by
    obtain ⟨_, rfl, rfl, _, h1, h2⟩ := leaf_is (show Rep W (n + 1) _ (K, I, F, ⟨#[]⟩, []) from hv)
    exact ⟨h1, h2⟩
  obtain ⟨e1, e2, e3, e4, _, _⟩ := leaf_is (show Rep W (n + 1) _ (K, I, F, ⟨#[]⟩, []) from hv)
  rw [e1] at v0
  rw [e2] at v1
  rw [e3] at v2
  rw [e4] at v3
  clear e1 e2 e3 e4 hv
  simp only [Nat.one_mul] at v0 v1 v2 v3 v4
  by_cases h1 : finV K F = false ∨ signV K I F ≤ 0
  · exact (rdep_amount 0 0 _ d2 0 0 bl ol ca q ka ⟨#[]⟩ K I F ⟨#[]⟩ q3 m3 d3 W n0  v0 v1 v2 v3 v4 R (ledA AS) hl32 (by unfold amtV; rw [if_pos h1])).mono (fun e w' h => rlw_of h hL hRW (fun h => by cases h))
  have hf : finV K F = true := by cases h : finV K F; exact absurd (Or.inl h) h1; rfl
  have hsg : 0 < signV K I F := by have : ¬ signV K I F ≤ 0 := fun h => h1 (Or.inr h); omega
  have ham : amtV K I F = .tuple #[.float .f64 (asF K I F), .bool true] := by unfold amtV; rw [if_neg h1]
  obtain ⟨hA, hG⟩ := amt_of hi.2 hi.1 hf hsg
  rcases acc_spot hok ka with ⟨a, hs⟩ | ⟨a, FA, ha, hka, hFA, hs⟩
  · exact (rdep_none 0 0 _ d2 a 0 bl ol ca q ka ⟨#[]⟩ K I F ⟨#[]⟩ q3 m3 d3 W n0  v0 v1 v2 v3 v4 R (ledA AS) hl32 HE hs (asF K I F) ham).mono (fun e w' h => rlw_of h hL hRW (fun h => by cases h))
  · obtain ⟨b, off, rfl, _⟩ := hL.2.2.2 (by omega)
    have hal' : a < (ledA AS).length := by rw [ledA_len]; exact ha
    have hea := ledA_at ha hka hal'
    obtain ⟨gc, oc, cgc, hc⟩ := accC_of hL (hRW W br) hal' hea
    have hal : a < m := by omega
    have had := cop_add (Nat.le_of_lt hFA) (Nat.le_of_lt hG)
    have hop2 : ∀ t W, (binOp .add t (.float .f64 FA) (.float .f64 (asF K I F))).run Tryz.prog W = .ok (.float .f64 (Flo.cop .add FA (asF K I F))) W := fun t W => run_float_arith W .add t .f64 _ _ _ had.2
    cases hfin : finV 2 (Flo.cop .add FA (asF K I F))
    · exact (rdep_range b off _ d2 a 0 bl ol ca none ka ⟨#[]⟩ K I F ⟨#[]⟩ q3 m3 d3 W n0  v0 v1 v2 v3 v4 R (ledA AS) hl32 (asF K I F) ham FA hal gc oc cgc hc HE hs (Lib.hid hop2) (Lib.hid (Flo.canon_cop _ _ _)) hfin).mono (fun e w' h => rlw_of h hL hRW (fun h => by cases h))
    · exact (rdep_ok b off _ d2 a 0 bl ol ca none ka ⟨#[]⟩ K I F ⟨#[]⟩ q3 m3 d3 W n0  v0 v1 v2 v3 v4 R (ledA AS) hl32 (asF K I F) ham FA hal gc oc cgc hc HE hs (Lib.hid hop2) (Lib.hid (Flo.canon_cop _ _ _)) hfin hR (Lib.hid hL) hna).mono (fun e w' h => rlw_of h hL hRW (fun _ => ⟨AS.set a (ka, Flo.cop .add FA (asF K I F)), okA_set hok ha (by rw [hka]) (fin_le had.1 hfin), by rw [set_ledA]⟩))
set_option maxRecDepth 100000 in
set_option maxHeartbeats 4000000 in
theorem lw_tra {AS : List (ByteArray × Nat)} (hok : OkA AS) {n : Nat} (W : World) (R : Value → VT 2 → Prop) (q : Option Addr) (m d2 : Nat) (pa : Option Addr) (la ca : Nat) (hR : One5 R) (hL : RepL W R q m d2 ((ledA AS).map (pairE 0))) (hRW : ∀ W', Below W.heap.size W W' → ∀ v X, R v X → Rep W' 2 v X) {ka kd : ByteArray} {K I : Int} {F : Nat} (hna : nmV 3 ka = true) (hnd : nmV 3 kd = true) (hN : RepL W (Rep W (n + 1)) pa la ca [nameV n ka, nameV n kd, (K, I, F, ⟨#[]⟩, [])]) :
    Calls Tryz.prog 38 #[.agg #[.int .i64 4, .int .i64 0, .float .f64 0, .string ⟨#[]⟩, .slice q m d2], .string { data := #[116, 114, 97, 110, 115, 102, 101, 114] }, .slice pa la ca] W fun e w' => RLW W R q m d2 ((ledA AS).map (pairE 0)) e w' := by
  have hm : m = AS.length := by have := hL.1; rw [List.length_map, ledA_len] at this; exact this.symm
  have hl32 : m ≤ 32 := by rw [hm]; exact hok.2.1
  obtain rfl : la = 3 := hN.1.symm
  obtain ⟨bl, ol, rfl, _⟩ := hN.2.2.2 (by omega)
  have HE := Lib.hid (ents_of (repL_mono (hRW W br) hL) (by omega))
  obtain ⟨n0, _⟩ := arg_nm hN (i := 0) (by simp) rfl
  simp only [Nat.zero_mul, Nat.add_zero] at n0
  obtain ⟨n1, _⟩ := arg_nm hN (i := 1) (by simp) rfl
  simp only [Nat.one_mul] at n1
  obtain ⟨K3, I3, F3, S3, q3, m3, d3, ⟨v0, v1, v2, v3, v4⟩, hv⟩ := arg_nth hN (i := 2) (by simp)
  have hi : okI I ∧ F < 2 ^ 64 := by
    obtain ⟨_, rfl, rfl, _, h1, h2⟩ := leaf_is (show Rep W (n + 1) _ (K, I, F, ⟨#[]⟩, []) from hv)
    exact ⟨h1, h2⟩
  obtain ⟨e1, e2, e3, e4, _, _⟩ := leaf_is (show Rep W (n + 1) _ (K, I, F, ⟨#[]⟩, []) from hv)
  rw [e1] at v0
  rw [e2] at v1
  rw [e3] at v2
  rw [e4] at v3
  clear e1 e2 e3 e4 hv
  simp only [show 2 * 5 = 10 from rfl] at v0 v1 v2 v3 v4
  by_cases h1 : finV K F = false ∨ signV K I F ≤ 0
  · exact (rtra_amountp 0 0 _ d2 0 0 bl ol ca q ka kd K I F ⟨#[]⟩ q3 m3 d3 W n0 n1 v0 v1 v2 v3 v4 R (ledA AS) hl32 (by unfold amtV; rw [if_pos h1])).mono (fun e w' h => rlw_of h hL hRW (fun h => by cases h))
  have hf : finV K F = true := by cases h : finV K F; exact absurd (Or.inl h) h1; rfl
  have hsg : 0 < signV K I F := by have : ¬ signV K I F ≤ 0 := fun h => h1 (Or.inr h); omega
  have ham : amtV K I F = .tuple #[.float .f64 (asF K I F), .bool true] := by unfold amtV; rw [if_neg h1]
  obtain ⟨hA, hG⟩ := amt_of hi.2 hi.1 hf hsg
  rcases acc_spot hok ka with ⟨a, hs⟩ | ⟨a, FA, ha, hka, hFA, hs⟩
  · exact (rtra_none 0 0 _ d2 a 0 bl ol ca q ka kd K I F ⟨#[]⟩ q3 m3 d3 W n0 n1 v0 v1 v2 v3 v4 R (ledA AS) hl32 HE hs (asF K I F) ham).mono (fun e w' h => rlw_of h hL hRW (fun h => by cases h))
  · obtain ⟨b, off, rfl, _⟩ := hL.2.2.2 (by omega)
    have hal' : a < (ledA AS).length := by rw [ledA_len]; exact ha
    have hea := ledA_at ha hka hal'
    obtain ⟨gc, oc, cgc, hc⟩ := accC_of hL (hRW W br) hal' hea
    have hal : a < m := by omega
    rcases acc_spot hok kd with ⟨d, hsd⟩ | ⟨d, FD, hd, hkd, hFD, hsd⟩
    · exact (rtra_nob b off _ d2 a d bl ol ca none ka kd K I F ⟨#[]⟩ q3 m3 d3 W n0 n1 v0 v1 v2 v3 v4 R (ledA AS) hl32 (asF K I F) ham FA hal gc oc cgc hc HE hs hsd).mono (fun e w' h => rlw_of h hL hRW (fun h => by cases h))
    have hdl' : d < (ledA AS).length := by rw [ledA_len]; exact hd
    have hed := ledA_at hd hkd hdl'
    obtain ⟨gd, od, cgd, hcd⟩ := accC_of hL (hRW W br) hdl' hed
    have hdl : d < m := by omega
    rcases Bool.eq_false_or_eq_true (FloatKind.f64.format.order FA (asF K I F) == some .lt) with h2 | h2
    · exact (rtra_funds b off _ d2 a d bl ol ca ka kd K I F ⟨#[]⟩ q3 m3 d3 W n0 n1 v0 v1 v2 v3 v4 R (ledA AS) (asF K I F) FA ham hal hl32 HE hs gc oc cgc hc hsd h2).mono (fun e w' h => rlw_of h hL hRW (fun h => by cases h))
    by_cases h3 : a = d
    · subst h3
      obtain ⟨rfl, rfl⟩ : kd = ka ∧ FD = FA := by rw [hka] at hkd; exact ⟨(Prod.mk.inj hkd).1.symm, (Prod.mk.inj hkd).2.symm⟩
      exact (rtra_same b off _ d2 a a bl ol ca kd kd K I F ⟨#[]⟩ q3 m3 d3 W n0 n1 v0 v1 v2 v3 v4 R (ledA AS) (asF K I F) FD ham hal hl32 HE hs gc oc cgc hc hsd h2 (beq_self_eq_true _) (by omega) (Lib.hid (Flo.canon_yes (feq_pos (Nat.le_of_lt hFA))))).mono (fun e w' h => rlw_of h hL hRW (fun _ => ⟨AS, hok, rfl⟩))
    have hkk : (ka.toList == kd.toList) = false := by
      have h := names_ne hok.1 (a := a) (d := d) (by rw [List.length_map]; exact ha) (by rw [List.length_map]; exact hd) h3
      rw [List.getElem_map, List.getElem_map, hka, hkd] at h
      exact h
    have hle : FloatKind.f64.format.order FA (asF K I F) ≠ some .lt := by rw [beq_eq_false_iff_ne] at h2; exact h2
    have hsb := cop_sub hFA hG hle
    have hop1 : ∀ t W, (binOp .sub t (.float .f64 FA) (.float .f64 (asF K I F))).run Tryz.prog W = .ok (.float .f64 (Flo.cop .sub FA (asF K I F))) W := fun t W => run_float_arith W .sub t .f64 _ _ _ hsb.2
    have had := cop_add (Nat.le_of_lt hFD) (Nat.le_of_lt hG)
    have hop2 : ∀ t W, (binOp .add t (.float .f64 FD) (.float .f64 (asF K I F))).run Tryz.prog W = .ok (.float .f64 (Flo.cop .add FD (asF K I F))) W := fun t W => run_float_arith W .add t .f64 _ _ _ had.2
    cases h4 : finV 2 (Flo.cop .add FD (asF K I F))
    · exact (rtra_sum b off _ d2 a d bl ol ca ka kd K I F ⟨#[]⟩ q3 m3 d3 W n0 n1 v0 v1 v2 v3 v4 R (ledA AS) (asF K I F) FA ham hal hl32 HE hs gc oc cgc hc hsd h2 hkk hdl FD gd od cgd hcd hop1 hop2 (Lib.hid (Flo.canon_cop _ _ _)) (Lib.hid (Flo.canon_cop _ _ _)) h4).mono (fun e w' h => rlw_of h hL hRW (fun h => by cases h))
    · exact (rtra_ok b off _ d2 a d bl ol ca ka kd K I F ⟨#[]⟩ q3 m3 d3 W n0 n1 v0 v1 v2 v3 v4 R (ledA AS) (asF K I F) FA ham hal hl32 HE hs gc oc cgc hc hsd h2 hkk hdl FD gd od cgd hcd hop1 hop2 (Lib.hid (Flo.canon_cop _ _ _)) (Lib.hid (Flo.canon_cop _ _ _)) h4 hR (Lib.hid hL) hna hnd).mono (fun e w' h => rlw_of h hL hRW (fun _ => ⟨(AS.set a (ka, Flo.cop .sub FA (asF K I F))).set d (kd, Flo.cop .add FD (asF K I F)), okA_set (okA_set hok ha (k := ka) (by rw [hka]) (sub_lt hFA hG hle)) (i := d) (k := kd) (by rw [List.length_set]; exact hd) (by rw [List.getElem_set_ne h3, hkd]) (fin_le had.1 h4), by rw [set_ledA, set_ledA]⟩))
set_option maxRecDepth 100000 in
set_option maxHeartbeats 4000000 in
theorem lw_tot {AS : List (ByteArray × Nat)} (hok : OkA AS) {n : Nat} (W : World) (R : Value → VT 2 → Prop) (q : Option Addr) (m d2 : Nat) (pa : Option Addr) (la ca : Nat) (hR : One5 R) (hL : RepL W R q m d2 ((ledA AS).map (pairE 0))) (hRW : ∀ W', Below W.heap.size W W' → ∀ v X, R v X → Rep W' 2 v X) (hN : RepL W (Rep W (n + 1)) pa la ca []) :
    Calls Tryz.prog 38 #[.agg #[.int .i64 4, .int .i64 0, .float .f64 0, .string ⟨#[]⟩, .slice q m d2], .string { data := #[116, 111, 116, 97, 108] }, .slice pa la ca] W fun e w' => RLW W R q m d2 ((ledA AS).map (pairE 0)) e w' := by
  have hm : m = AS.length := by have := hL.1; rw [List.length_map, ledA_len] at this; exact this.symm
  have hl32 : m ≤ 32 := by rw [hm]; exact hok.2.1
  obtain rfl : la = 0 := hN.1.symm
  refine (rtot_ok m d2 q pa ca W R (ledA AS) hl32 (Lib.hid hL) (hRW W br) (ledA_mem hok)).mono ?_
  rintro e w' ⟨F, h⟩
  exact rlw_of h hL hRW (fun _ => ⟨AS, hok, rfl⟩)
set_option maxRecDepth 100000 in
set_option maxHeartbeats 4000000 in
theorem lw_nam {AS : List (ByteArray × Nat)} (hok : OkA AS) {n : Nat} (W : World) (R : Value → VT 2 → Prop) (q : Option Addr) (m d2 : Nat) (pa : Option Addr) (la ca : Nat) (hR : One5 R) (hL : RepL W R q m d2 ((ledA AS).map (pairE 0))) (hRW : ∀ W', Below W.heap.size W W' → ∀ v X, R v X → Rep W' 2 v X) (hN : RepL W (Rep W (n + 1)) pa la ca []) :
    Calls Tryz.prog 38 #[.agg #[.int .i64 4, .int .i64 0, .float .f64 0, .string ⟨#[]⟩, .slice q m d2], .string { data := #[110, 97, 109, 101, 115] }, .slice pa la ca] W fun e w' => RLW W R q m d2 ((ledA AS).map (pairE 0)) e w' := by
  have hm : m = AS.length := by have := hL.1; rw [List.length_map, ledA_len] at this; exact this.symm
  have hl32 : m ≤ 32 := by rw [hm]; exact hok.2.1
  obtain rfl : la = 0 := hN.1.symm
  exact rnam_ok m d2 q pa ca W R AS hok hl32 (Lib.hid hL) hRW
end Num
end Go.Proofs.YtpbfaffheigjcaaGreat
/-
  The reference: Do of a ledger, whatever the method and the arguments.
-/
namespace Go.Proofs.YtpbfaffheigjcaaGreat
open Go.RowKit
namespace Num
open Ints
set_option linter.unusedSimpArgs false
set_option linter.unusedVariables false
theorem rchk8_zero {n : Nat} {t : List UInt8} {L : List (VT (n + 1))} (h : rchk8 n t L = 0) : rtkL n t L = true := by
  unfold rchk8 at h
  by_cases h1 : rchkL n L = 0
  · rw [if_pos h1] at h
    by_cases h2 : rtkL n t L = true
    · exact h2
    · rw [if_neg h2] at h; cases h
  · rw [if_neg h1] at h; exact absurd h h1
theorem clean_nm {n : Nat} {x : VT (n + 1)} (h : tkB 110 n x = true) : ∃ k, nmV 3 k = true ∧ cleanT (n + 1) x = nameV n k ∧ greatP (n + 1) 0 x = false := by
  obtain ⟨K, I, F, S, L⟩ := x
  have h1 : nmV K S = true := h
  have hK : K = 3 := by
    unfold nmV at h1
    rw [Bool.and_eq_true, Bool.and_eq_true] at h1
    simpa using h1.1
  subst hK
  exact ⟨S, h1, rfl, gr_small (n := n + 1) (X := ((3, I, F, S, L) : VT (n + 1))) (by show (1 : Nat) ≤ 1000; omega) 0⟩
theorem clean_nb {n : Nat} {x : VT (n + 1)} (h : tkB 35 n x = true) : ∃ K I F, cleanT (n + 1) x = (K, I, F, ⟨#[]⟩, []) ∧ greatP (n + 1) 0 x = false := by
  obtain ⟨K, I, F, S, L⟩ := x
  have h1 : isNum K = true := h
  have hK : K = 1 ∨ K = 2 := by
    unfold isNum at h1
    rw [Bool.or_eq_true] at h1
    rcases h1 with h | h
    · exact Or.inl (by simpa using h)
    · exact Or.inr (by simpa using h)
  rcases hK with rfl | rfl
  · exact ⟨_, _, _, rfl, gr_small (n := n + 1) (X := ((1, I, F, S, L) : VT (n + 1))) (by show (1 : Nat) ≤ 1000; omega) 0⟩
  · exact ⟨_, _, _, rfl, gr_small (n := n + 1) (X := ((2, I, F, S, L) : VT (n + 1))) (by show (1 : Nat) ≤ 1000; omega) 0⟩
set_option maxRecDepth 100000 in
set_option maxHeartbeats 4000000 in
theorem rdl_bal (p : Option Addr) (l c : Nat) (pl : Option Addr) (ll cl : Nat) (w : World) (AS : List (ByteArray × Nat)) (hok : OkA AS) (HSR : Hid (Rep w 3 (.agg #[.int .i64 4, .int .i64 0, .float .f64 0, .string ⟨#[]⟩, .slice p l c]) (tableT 0 (ledA AS)))) (n : Nat) (NL : List (VT (n + 1))) (HNL : Hid (RepL w (Rep w (n + 1)) pl ll cl NL)) (hll : ll ≤ 1000) :
    Calls Tryz.prog 13 #[.string { data := #[108, 101, 100, 103, 101, 114] }, .agg #[.int .i64 4, .int .i64 0, .float .f64 0, .string ⟨#[]⟩, .slice p l c], .string { data := #[98, 97, 108, 97, 110, 99, 101] }, .slice pl ll cl] w fun e w' => RDoW w e w' := by
  by_cases h0 : ll = 1
  · subst h0
    obtain ⟨x, rfl⟩ : ∃ x, NL = [x] := by
      have h := HNL.out.1
      match NL, h with
      | [x], _ => exact ⟨x, rfl⟩
    have hck := fun W (hb : Below w.heap.size w W) => rcheck_n n { data := #[98, 97, 108, 97, 110, 99, 101] } { data := #[98, 97, 108, 97, 110, 99, 101] } false (by first | rfl | decide) pl cl [x] rfl W (repL_accn hb HNL.out)
    by_cases hz : rchk8 n [110] [x] = 0
    · rw [hz] at hck
      have ht := rchk8_zero hz
      simp only [rtkL, Bool.and_eq_true, Bool.and_true] at ht
      obtain ⟨kx, nx, cx, gx⟩ := clean_nm ht
      refine rdo_any p l c { data := #[98, 97, 108, 97, 110, 99, 101] } pl 1 cl w AS hok HSR (Lib.hid hck) (n + 1) [x] HNL (by intro x1 hx; rw [List.mem_singleton] at hx; rcases hx with rfl <;> assumption) (by omega) (Lib.hid (fun W R q m d pa la ca hR hL hRW hN => ?_))
      simp only [List.map_cons, List.map_nil, cx] at hN
      exact lw_bal hok W R q m d pa la ca hR hL hRW nx hN
    · exact rdo_chk p l c { data := #[98, 97, 108, 97, 110, 99, 101] } pl 1 cl w AS hok HSR _ (by rw [bne_iff_ne]; exact hz) (Lib.hid hck)
  · exact rdo_chk p l c { data := #[98, 97, 108, 97, 110, 99, 101] } pl ll cl w AS hok HSR 31 (by decide) (Lib.hid (fun W hb => rcheck_nl { data := #[98, 97, 108, 97, 110, 99, 101] } { data := #[98, 97, 108, 97, 110, 99, 101] } false (by first | rfl | decide) pl ll cl h0 W))
set_option maxRecDepth 100000 in
set_option maxHeartbeats 4000000 in
theorem rdl_clo (p : Option Addr) (l c : Nat) (pl : Option Addr) (ll cl : Nat) (w : World) (AS : List (ByteArray × Nat)) (hok : OkA AS) (HSR : Hid (Rep w 3 (.agg #[.int .i64 4, .int .i64 0, .float .f64 0, .string ⟨#[]⟩, .slice p l c]) (tableT 0 (ledA AS)))) (n : Nat) (NL : List (VT (n + 1))) (HNL : Hid (RepL w (Rep w (n + 1)) pl ll cl NL)) (hll : ll ≤ 1000) :
    Calls Tryz.prog 13 #[.string { data := #[108, 101, 100, 103, 101, 114] }, .agg #[.int .i64 4, .int .i64 0, .float .f64 0, .string ⟨#[]⟩, .slice p l c], .string { data := #[99, 108, 111, 115, 101] }, .slice pl ll cl] w fun e w' => RDoW w e w' := by
  by_cases h0 : ll = 1
  · subst h0
    obtain ⟨x, rfl⟩ : ∃ x, NL = [x] := by
      have h := HNL.out.1
      match NL, h with
      | [x], _ => exact ⟨x, rfl⟩
    have hck := fun W (hb : Below w.heap.size w W) => rcheck_n n { data := #[99, 108, 111, 115, 101] } { data := #[99, 108, 111, 115, 101] } true (by first | rfl | decide) pl cl [x] rfl W (repL_accn hb HNL.out)
    by_cases hz : rchk8 n [110] [x] = 0
    · rw [hz] at hck
      have ht := rchk8_zero hz
      simp only [rtkL, Bool.and_eq_true, Bool.and_true] at ht
      obtain ⟨kx, nx, cx, gx⟩ := clean_nm ht
      refine rdo_any p l c { data := #[99, 108, 111, 115, 101] } pl 1 cl w AS hok HSR (Lib.hid hck) (n + 1) [x] HNL (by intro x1 hx; rw [List.mem_singleton] at hx; rcases hx with rfl <;> assumption) (by omega) (Lib.hid (fun W R q m d pa la ca hR hL hRW hN => ?_))
      simp only [List.map_cons, List.map_nil, cx] at hN
      exact lw_clo hok W R q m d pa la ca hR hL hRW nx hN
    · exact rdo_chk p l c { data := #[99, 108, 111, 115, 101] } pl 1 cl w AS hok HSR _ (by rw [bne_iff_ne]; exact hz) (Lib.hid hck)
  · exact rdo_chk p l c { data := #[99, 108, 111, 115, 101] } pl ll cl w AS hok HSR 31 (by decide) (Lib.hid (fun W hb => rcheck_nl { data := #[99, 108, 111, 115, 101] } { data := #[99, 108, 111, 115, 101] } true (by first | rfl | decide) pl ll cl h0 W))
set_option maxRecDepth 100000 in
set_option maxHeartbeats 4000000 in
theorem rdl_dep (p : Option Addr) (l c : Nat) (pl : Option Addr) (ll cl : Nat) (w : World) (AS : List (ByteArray × Nat)) (hok : OkA AS) (HSR : Hid (Rep w 3 (.agg #[.int .i64 4, .int .i64 0, .float .f64 0, .string ⟨#[]⟩, .slice p l c]) (tableT 0 (ledA AS)))) (n : Nat) (NL : List (VT (n + 1))) (HNL : Hid (RepL w (Rep w (n + 1)) pl ll cl NL)) (hll : ll ≤ 1000) :
    Calls Tryz.prog 13 #[.string { data := #[108, 101, 100, 103, 101, 114] }, .agg #[.int .i64 4, .int .i64 0, .float .f64 0, .string ⟨#[]⟩, .slice p l c], .string { data := #[100, 101, 112, 111, 115, 105, 116] }, .slice pl ll cl] w fun e w' => RDoW w e w' := by
  by_cases h0 : ll = 2
  · subst h0
    obtain ⟨x, y, rfl⟩ : ∃ x y, NL = [x, y] := by
      have h := HNL.out.1
      match NL, h with
      | [x, y], _ => exact ⟨x, y, rfl⟩
    have hck := fun W (hb : Below w.heap.size w W) => rcheck_nh n { data := #[100, 101, 112, 111, 115, 105, 116] } { data := #[100, 101, 112, 111, 115, 105, 116] } true (by first | rfl | decide) pl cl [x, y] rfl W (repL_accn hb HNL.out)
    by_cases hz : rchk8 n [110, 35] [x, y] = 0
    · rw [hz] at hck
      have ht := rchk8_zero hz
      simp only [rtkL, Bool.and_eq_true, Bool.and_true] at ht
      obtain ⟨tx, ty⟩ := ht
      obtain ⟨kx, nx, cx, gx⟩ := clean_nm tx
      obtain ⟨K, I, F, cy, gy⟩ := clean_nb ty
      refine rdo_any p l c { data := #[100, 101, 112, 111, 115, 105, 116] } pl 2 cl w AS hok HSR (Lib.hid hck) (n + 1) [x, y] HNL (by intro x1 hx; rw [List.mem_cons, List.mem_singleton] at hx; rcases hx with rfl | rfl <;> assumption) (by omega) (Lib.hid (fun W R q m d pa la ca hR hL hRW hN => ?_))
      simp only [List.map_cons, List.map_nil, cx, cy] at hN
      exact lw_dep hok W R q m d pa la ca hR hL hRW nx hN
    · exact rdo_chk p l c { data := #[100, 101, 112, 111, 115, 105, 116] } pl 2 cl w AS hok HSR _ (by rw [bne_iff_ne]; exact hz) (Lib.hid hck)
  · exact rdo_chk p l c { data := #[100, 101, 112, 111, 115, 105, 116] } pl ll cl w AS hok HSR 31 (by decide) (Lib.hid (fun W hb => rcheck_nhl { data := #[100, 101, 112, 111, 115, 105, 116] } { data := #[100, 101, 112, 111, 115, 105, 116] } true (by first | rfl | decide) pl ll cl h0 W))
set_option maxRecDepth 100000 in
set_option maxHeartbeats 4000000 in
theorem rdl_nam (p : Option Addr) (l c : Nat) (pl : Option Addr) (ll cl : Nat) (w : World) (AS : List (ByteArray × Nat)) (hok : OkA AS) (HSR : Hid (Rep w 3 (.agg #[.int .i64 4, .int .i64 0, .float .f64 0, .string ⟨#[]⟩, .slice p l c]) (tableT 0 (ledA AS)))) (n : Nat) (NL : List (VT (n + 1))) (HNL : Hid (RepL w (Rep w (n + 1)) pl ll cl NL)) (hll : ll ≤ 1000) :
    Calls Tryz.prog 13 #[.string { data := #[108, 101, 100, 103, 101, 114] }, .agg #[.int .i64 4, .int .i64 0, .float .f64 0, .string ⟨#[]⟩, .slice p l c], .string { data := #[110, 97, 109, 101, 115] }, .slice pl ll cl] w fun e w' => RDoW w e w' := by
  by_cases h0 : ll = 0
  · subst h0
    obtain rfl : NL = [] := List.eq_nil_of_length_eq_zero HNL.out.1
    have hck := fun W (hb : Below w.heap.size w W) => rcheck_z n { data := #[110, 97, 109, 101, 115] } { data := #[110, 97, 109, 101, 115] } false (by first | rfl | decide) pl cl [] rfl W (repL_accn hb HNL.out)
    rw [show rchk8 n [] ([] : List (VT (n + 1))) = 0 from rfl] at hck
    refine rdo_any p l c { data := #[110, 97, 109, 101, 115] } pl 0 cl w AS hok HSR (Lib.hid hck) (n + 1) [] HNL (by intro x hx; cases hx) (by omega) (Lib.hid (fun W R q m d pa la ca hR hL hRW hN => ?_))
    exact lw_nam hok W R q m d pa la ca hR hL hRW hN
  · exact rdo_chk p l c { data := #[110, 97, 109, 101, 115] } pl ll cl w AS hok HSR 31 (by decide) (Lib.hid (fun W hb => rcheck_zl { data := #[110, 97, 109, 101, 115] } { data := #[110, 97, 109, 101, 115] } false (by first | rfl | decide) pl ll cl h0 W))
set_option maxRecDepth 100000 in
set_option maxHeartbeats 4000000 in
theorem rdl_ope (p : Option Addr) (l c : Nat) (pl : Option Addr) (ll cl : Nat) (w : World) (AS : List (ByteArray × Nat)) (hok : OkA AS) (HSR : Hid (Rep w 3 (.agg #[.int .i64 4, .int .i64 0, .float .f64 0, .string ⟨#[]⟩, .slice p l c]) (tableT 0 (ledA AS)))) (n : Nat) (NL : List (VT (n + 1))) (HNL : Hid (RepL w (Rep w (n + 1)) pl ll cl NL)) (hll : ll ≤ 1000) :
    Calls Tryz.prog 13 #[.string { data := #[108, 101, 100, 103, 101, 114] }, .agg #[.int .i64 4, .int .i64 0, .float .f64 0, .string ⟨#[]⟩, .slice p l c], .string { data := #[111, 112, 101, 110] }, .slice pl ll cl] w fun e w' => RDoW w e w' := by
  by_cases h0 : ll = 1
  · subst h0
    obtain ⟨x, rfl⟩ : ∃ x, NL = [x] := by
      have h := HNL.out.1
      match NL, h with
      | [x], _ => exact ⟨x, rfl⟩
    have hck := fun W (hb : Below w.heap.size w W) => rcheck_n n { data := #[111, 112, 101, 110] } { data := #[111, 112, 101, 110] } true (by first | rfl | decide) pl cl [x] rfl W (repL_accn hb HNL.out)
    by_cases hz : rchk8 n [110] [x] = 0
    · rw [hz] at hck
      have ht := rchk8_zero hz
      simp only [rtkL, Bool.and_eq_true, Bool.and_true] at ht
      obtain ⟨kx, nx, cx, gx⟩ := clean_nm ht
      refine rdo_any p l c { data := #[111, 112, 101, 110] } pl 1 cl w AS hok HSR (Lib.hid hck) (n + 1) [x] HNL (by intro x1 hx; rw [List.mem_singleton] at hx; rcases hx with rfl <;> assumption) (by omega) (Lib.hid (fun W R q m d pa la ca hR hL hRW hN => ?_))
      simp only [List.map_cons, List.map_nil, cx] at hN
      exact lw_ope hok W R q m d pa la ca hR hL hRW nx hN
    · exact rdo_chk p l c { data := #[111, 112, 101, 110] } pl 1 cl w AS hok HSR _ (by rw [bne_iff_ne]; exact hz) (Lib.hid hck)
  · exact rdo_chk p l c { data := #[111, 112, 101, 110] } pl ll cl w AS hok HSR 31 (by decide) (Lib.hid (fun W hb => rcheck_nl { data := #[111, 112, 101, 110] } { data := #[111, 112, 101, 110] } true (by first | rfl | decide) pl ll cl h0 W))
set_option maxRecDepth 100000 in
set_option maxHeartbeats 4000000 in
theorem rdl_tot (p : Option Addr) (l c : Nat) (pl : Option Addr) (ll cl : Nat) (w : World) (AS : List (ByteArray × Nat)) (hok : OkA AS) (HSR : Hid (Rep w 3 (.agg #[.int .i64 4, .int .i64 0, .float .f64 0, .string ⟨#[]⟩, .slice p l c]) (tableT 0 (ledA AS)))) (n : Nat) (NL : List (VT (n + 1))) (HNL : Hid (RepL w (Rep w (n + 1)) pl ll cl NL)) (hll : ll ≤ 1000) :
    Calls Tryz.prog 13 #[.string { data := #[108, 101, 100, 103, 101, 114] }, .agg #[.int .i64 4, .int .i64 0, .float .f64 0, .string ⟨#[]⟩, .slice p l c], .string { data := #[116, 111, 116, 97, 108] }, .slice pl ll cl] w fun e w' => RDoW w e w' := by
  by_cases h0 : ll = 0
  · subst h0
    obtain rfl : NL = [] := List.eq_nil_of_length_eq_zero HNL.out.1
    have hck := fun W (hb : Below w.heap.size w W) => rcheck_z n { data := #[116, 111, 116, 97, 108] } { data := #[116, 111, 116, 97, 108] } false (by first | rfl | decide) pl cl [] rfl W (repL_accn hb HNL.out)
    rw [show rchk8 n [] ([] : List (VT (n + 1))) = 0 from rfl] at hck
    refine rdo_any p l c { data := #[116, 111, 116, 97, 108] } pl 0 cl w AS hok HSR (Lib.hid hck) (n + 1) [] HNL (by intro x hx; cases hx) (by omega) (Lib.hid (fun W R q m d pa la ca hR hL hRW hN => ?_))
    exact lw_tot hok W R q m d pa la ca hR hL hRW hN
  · exact rdo_chk p l c { data := #[116, 111, 116, 97, 108] } pl ll cl w AS hok HSR 31 (by decide) (Lib.hid (fun W hb => rcheck_zl { data := #[116, 111, 116, 97, 108] } { data := #[116, 111, 116, 97, 108] } false (by first | rfl | decide) pl ll cl h0 W))
set_option maxRecDepth 100000 in
set_option maxHeartbeats 4000000 in
theorem rdl_tra (p : Option Addr) (l c : Nat) (pl : Option Addr) (ll cl : Nat) (w : World) (AS : List (ByteArray × Nat)) (hok : OkA AS) (HSR : Hid (Rep w 3 (.agg #[.int .i64 4, .int .i64 0, .float .f64 0, .string ⟨#[]⟩, .slice p l c]) (tableT 0 (ledA AS)))) (n : Nat) (NL : List (VT (n + 1))) (HNL : Hid (RepL w (Rep w (n + 1)) pl ll cl NL)) (hll : ll ≤ 1000) :
    Calls Tryz.prog 13 #[.string { data := #[108, 101, 100, 103, 101, 114] }, .agg #[.int .i64 4, .int .i64 0, .float .f64 0, .string ⟨#[]⟩, .slice p l c], .string { data := #[116, 114, 97, 110, 115, 102, 101, 114] }, .slice pl ll cl] w fun e w' => RDoW w e w' := by
  by_cases h0 : ll = 3
  · subst h0
    obtain ⟨x, y, z, rfl⟩ : ∃ x y z, NL = [x, y, z] := by
      have h := HNL.out.1
      match NL, h with
      | [x, y, z], _ => exact ⟨x, y, z, rfl⟩
    have hck := fun W (hb : Below w.heap.size w W) => rcheck_nnh n { data := #[116, 114, 97, 110, 115, 102, 101, 114] } { data := #[116, 114, 97, 110, 115, 102, 101, 114] } true (by first | rfl | decide) pl cl [x, y, z] rfl W (repL_accn hb HNL.out)
    by_cases hz : rchk8 n [110, 110, 35] [x, y, z] = 0
    · rw [hz] at hck
      have ht := rchk8_zero hz
      simp only [rtkL, Bool.and_eq_true, Bool.and_true] at ht
      obtain ⟨tx, ty, tz⟩ := ht
      obtain ⟨kx, nx, cx, gx⟩ := clean_nm tx
      obtain ⟨ky, ny, cy, gy⟩ := clean_nm ty
      obtain ⟨K, I, F, cz, gz⟩ := clean_nb tz
      refine rdo_any p l c { data := #[116, 114, 97, 110, 115, 102, 101, 114] } pl 3 cl w AS hok HSR (Lib.hid hck) (n + 1) [x, y, z] HNL (by intro x1 hx; rw [List.mem_cons, List.mem_cons, List.mem_singleton] at hx; rcases hx with rfl | rfl | rfl <;> assumption) (by omega) (Lib.hid (fun W R q m d pa la ca hR hL hRW hN => ?_))
      simp only [List.map_cons, List.map_nil, cx, cy, cz] at hN
      exact lw_tra hok W R q m d pa la ca hR hL hRW nx ny hN
    · exact rdo_chk p l c { data := #[116, 114, 97, 110, 115, 102, 101, 114] } pl 3 cl w AS hok HSR _ (by rw [bne_iff_ne]; exact hz) (Lib.hid hck)
  · exact rdo_chk p l c { data := #[116, 114, 97, 110, 115, 102, 101, 114] } pl ll cl w AS hok HSR 31 (by decide) (Lib.hid (fun W hb => rcheck_nnhl { data := #[116, 114, 97, 110, 115, 102, 101, 114] } { data := #[116, 114, 97, 110, 115, 102, 101, 114] } true (by first | rfl | decide) pl ll cl h0 W))
set_option maxRecDepth 100000 in
set_option maxHeartbeats 4000000 in
theorem rdl_nope (p : Option Addr) (l c : Nat) (pl : Option Addr) (ll cl : Nat) (w : World) (AS : List (ByteArray × Nat)) (hok : OkA AS) (HSR : Hid (Rep w 3 (.agg #[.int .i64 4, .int .i64 0, .float .f64 0, .string ⟨#[]⟩, .slice p l c]) (tableT 0 (ledA AS)))) (n : Nat) (NL : List (VT (n + 1))) (HNL : Hid (RepL w (Rep w (n + 1)) pl ll cl NL)) (hll : ll ≤ 1000) :
    Calls Tryz.prog 13 #[.string { data := #[108, 101, 100, 103, 101, 114] }, .agg #[.int .i64 4, .int .i64 0, .float .f64 0, .string ⟨#[]⟩, .slice p l c], .string { data := #[110, 111, 112, 101] }, .slice pl ll cl] w fun e w' => RDoW w e w' :=
  rdo_chk p l c { data := #[110, 111, 112, 101] } pl ll cl w AS hok HSR 31 (by decide) (Lib.hid (fun W hb => rcheck_none { data := #[110, 111, 112, 101] } (by first | rfl | decide) pl ll cl W))
def mthN (k : Nat) : ByteArray := if k = 0 then ⟨#[98, 97, 108, 97, 110, 99, 101]⟩ else if k = 1 then ⟨#[99, 108, 111, 115, 101]⟩ else if k = 2 then ⟨#[100, 101, 112, 111, 115, 105, 116]⟩ else if k = 3 then ⟨#[110, 97, 109, 101, 115]⟩ else if k = 4 then ⟨#[111, 112, 101, 110]⟩ else if k = 5 then ⟨#[116, 111, 116, 97, 108]⟩ else if k = 6 then ⟨#[116, 114, 97, 110, 115, 102, 101, 114]⟩ else ⟨#[110, 111, 112, 101]⟩
theorem rdl_all (j : Nat) (p : Option Addr) (l c : Nat) (pl : Option Addr) (ll cl : Nat) (w : World) (AS : List (ByteArray × Nat)) (hok : OkA AS) (HSR : Hid (Rep w 3 (.agg #[.int .i64 4, .int .i64 0, .float .f64 0, .string ⟨#[]⟩, .slice p l c]) (tableT 0 (ledA AS)))) (n : Nat) (NL : List (VT (n + 1))) (HNL : Hid (RepL w (Rep w (n + 1)) pl ll cl NL)) (hll : ll ≤ 1000) :
    Calls Tryz.prog 13 #[.string { data := #[108, 101, 100, 103, 101, 114] }, .agg #[.int .i64 4, .int .i64 0, .float .f64 0, .string ⟨#[]⟩, .slice p l c], .string (mthN j), .slice pl ll cl] w fun e w' => RDoW w e w' := by
  unfold mthN
  by_cases h0 : j = 0
  · rw [if_pos h0]; exact rdl_bal p l c pl ll cl w AS hok HSR n NL HNL hll
  by_cases h1 : j = 1
  · rw [if_neg h0, if_pos h1]; exact rdl_clo p l c pl ll cl w AS hok HSR n NL HNL hll
  by_cases h2 : j = 2
  · rw [if_neg h0, if_neg h1, if_pos h2]; exact rdl_dep p l c pl ll cl w AS hok HSR n NL HNL hll
  by_cases h3 : j = 3
  · rw [if_neg h0, if_neg h1, if_neg h2, if_pos h3]; exact rdl_nam p l c pl ll cl w AS hok HSR n NL HNL hll
  by_cases h4 : j = 4
  · rw [if_neg h0, if_neg h1, if_neg h2, if_neg h3, if_pos h4]; exact rdl_ope p l c pl ll cl w AS hok HSR n NL HNL hll
  by_cases h5 : j = 5
  · rw [if_neg h0, if_neg h1, if_neg h2, if_neg h3, if_neg h4, if_pos h5]; exact rdl_tot p l c pl ll cl w AS hok HSR n NL HNL hll
  by_cases h6 : j = 6
  · rw [if_neg h0, if_neg h1, if_neg h2, if_neg h3, if_neg h4, if_neg h5, if_pos h6]; exact rdl_tra p l c pl ll cl w AS hok HSR n NL HNL hll
  rw [if_neg h0, if_neg h1, if_neg h2, if_neg h3, if_neg h4, if_neg h5, if_neg h6]
  exact rdl_nope p l c pl ll cl w AS hok HSR n NL HNL hll
end Num
end Go.Proofs.YtpbfaffheigjcaaGreat
