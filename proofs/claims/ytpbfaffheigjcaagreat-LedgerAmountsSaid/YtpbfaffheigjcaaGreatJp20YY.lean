/-
  Package ledger: Do, method by method, on ledgers of floats.
-/
import Derived.Test.YtpbfaffheigjcaaGreatJp19YU
import Derived.Test.YtpbfaffheigjcaaGreatJYK
import Derived.Test.YtpbfaffheigjcaaGreatJHI
import Derived.Test.YtpbfaffheigjcaaGreatJp2Flo
import Derived.Test.YtpbfaffheigjcaaGreatJMI
import Derived.Test.YtpbfaffheigjcaaGreatJp14RDa
import Derived.Deep.RegionHeld3
import Derived.RegionTactic
import Derived.Deep.DeepCutAuto
import Derived.Test.YtpbfaffheigjcaaGreatJp17YI
import Derived.Test.YtpbfaffheigjcaaGreatJp3VBase
import Derived.Test.YtpbfaffheigjcaaGreatJp7HB
namespace Go.Proofs.YtpbfaffheigjcaaGreat
open Go.RowKit
namespace Num
open Ints
set_option linter.unusedSimpArgs false
set_option linter.unusedVariables false
def ledC : ByteArray := { data := #[108, 101, 100, 103, 101, 114] }
theorem led_metas : metas ledC = msL := by rfl
theorem name_cell {n : Nat} {k : ByteArray} (hk : nmV 3 k = true) : checkM (measT (n + 1) (nameV n k)) = 0 := (name_light n hk).1
theorem num_light {n : Nat} {K I : Int} {F : Nat} (hK : isNum K = true) : checkM (measT (n + 1) ((K, I, F, ⟨#[]⟩, []) : VT (n + 1))) = 0 ∧ deepT (n + 1) ((K, I, F, ⟨#[]⟩, []) : VT (n + 1)) 64 = false ∧ partsT (n + 1) ((K, I, F, ⟨#[]⟩, []) : VT (n + 1)) ≤ 1000 := by
  have h : K = 1 ∨ K = 2 := by
    unfold isNum at hK
    rw [Bool.or_eq_true] at hK
    rcases hK with h | h
    · exact Or.inl (by simpa using h)
    · exact Or.inr (by simpa using h)
  rcases h with rfl | rfl
  · exact ⟨by rw [measT_num rfl rfl]; rfl, rfl, by show (1 : Nat) ≤ 1000; decide⟩
  · exact ⟨by rw [measT_num rfl rfl]; rfl, rfl, by show (1 : Nat) ≤ 1000; decide⟩
theorem chk_lopen {k : ByteArray} (hk : nmV 3 k = true) : chkA ledC { data := #[111, 112, 101, 110] } 0 [nameV 0 k] = 0 := by
  have h1 : chkL 0 [nameV 0 k] = 0 := by unfold chkL; rw [if_pos (name_cell hk)]; rfl
  unfold chkA
  rw [led_metas]
  show (if (chkL 0 [nameV 0 k] = 0) then (if (nmV 3 k && true) = true then (0 : Int) else 31) else chkL 0 [nameV 0 k]) = 0
  rw [h1, hk]; rfl
theorem chk_ldep {k : ByteArray} {K I : Int} {F : Nat} (hk : nmV 3 k = true) (hK : isNum K = true) : chkA ledC { data := #[100, 101, 112, 111, 115, 105, 116] } 0 [nameV 0 k, (K, I, F, ⟨#[]⟩, [])] = 0 := by
  have h1 : chkL 0 [nameV 0 k, (K, I, F, ⟨#[]⟩, [])] = 0 := by unfold chkL; rw [if_pos (name_cell hk)]; unfold chkL; rw [if_pos (num_light hK).1]; rfl
  unfold chkA
  rw [led_metas]
  show (if (chkL 0 [nameV 0 k, (K, I, F, ⟨#[]⟩, [])] = 0) then (if (nmV 3 k && (isNum K && true)) = true then (0 : Int) else 31) else chkL 0 [nameV 0 k, (K, I, F, ⟨#[]⟩, [])]) = 0
  rw [h1, hk, hK]; rfl
theorem chk_ltra {ka kd : ByteArray} {K I : Int} {F : Nat} (hka : nmV 3 ka = true) (hkd : nmV 3 kd = true) (hK : isNum K = true) : chkA ledC { data := #[116, 114, 97, 110, 115, 102, 101, 114] } 0 [nameV 0 ka, nameV 0 kd, (K, I, F, ⟨#[]⟩, [])] = 0 := by
  have h1 : chkL 0 [nameV 0 ka, nameV 0 kd, (K, I, F, ⟨#[]⟩, [])] = 0 := by unfold chkL; rw [if_pos (name_cell hka)]; unfold chkL; rw [if_pos (name_cell hkd)]; unfold chkL; rw [if_pos (num_light hK).1]; rfl
  unfold chkA
  rw [led_metas]
  show (if (chkL 0 [nameV 0 ka, nameV 0 kd, (K, I, F, ⟨#[]⟩, [])] = 0) then (if (nmV 3 ka && (nmV 3 kd && (isNum K && true))) = true then (0 : Int) else 31) else chkL 0 [nameV 0 ka, nameV 0 kd, (K, I, F, ⟨#[]⟩, [])]) = 0
  rw [h1, hka, hkd, hK]; rfl
theorem spot_at {NS : List ByteArray} (hn : Names NS) {a : Nat} (ha : a < NS.length) {k : ByteArray} (hk : NS[a] = k) : Spot NS k a true := by
  subst hk
  refine ⟨Nat.le_of_lt ha, fun t ht => ?_, fun _ => beq_self_eq_true _, fun h => absurd ha h⟩
  rcases Nat.lt_trichotomy t a with h | h | h
  · rw [hn.2 t a ht ha h, decide_eq_true h]
  · subst h; rw [ltB_irrefl, decide_eq_false (Nat.lt_irrefl _)]
  · rw [ltB_asymm (hn.2 a t ha ht h), decide_eq_false (by omega)]
theorem nm_size {k : ByteArray} (h : nmV 3 k = true) : k.size ≤ maxLen := by
  unfold nmV at h
  rw [Bool.and_eq_true, Bool.and_eq_true, decide_eq_true_iff, decide_eq_true_iff, decide_eq_true_iff] at h
  unfold maxLen; omega
theorem arg_nth {w : World} {n i : Nat} {bl ol l c : Nat} {L : List (VT (n + 1))} (h : RepL w (Rep w (n + 1)) (some ⟨bl, ol, none⟩) l c L) (hi : i < L.length) : ∃ (K3 I3 : Int) (F3 : Nat) (S3 : ByteArray) (q3 : Option Addr) (m3 d3 : Nat), (w.cell? ⟨bl, ol + i * 5, none⟩ = some (.int .i64 K3) ∧ w.cell? ⟨bl, ol + i * 5 + 1, none⟩ = some (.int .i64 I3) ∧ w.cell? ⟨bl, ol + i * 5 + 2, none⟩ = some (.float .f64 F3) ∧ w.cell? ⟨bl, ol + i * 5 + 3, none⟩ = some (.string S3) ∧ w.cell? ⟨bl, ol + i * 5 + 4, none⟩ = some (.slice q3 m3 d3)) ∧ Rep w (n + 1) (.agg #[.int .i64 K3, .int .i64 I3, .float .f64 F3, .string S3, .slice q3 m3 d3]) L[i] := by
  obtain ⟨h1, h2, h3, h4⟩ := h
  obtain ⟨b, o, hp, hj⟩ := h4 (by omega)
  injection hp with hp
  injection hp with e1 e2
  subst e1 e2
  obtain ⟨v0, v1, v2, v3, v4, c0, c1, c2, c3, c4, hr⟩ := hj i hi
  obtain ⟨K3, I3, F3, S3, q3, m3, d3, hv, _⟩ := rep_shape hr
  injection hv with hv
  simp only [Array.mk.injEq, List.cons.injEq, and_true] at hv
  obtain ⟨rfl, rfl, rfl, rfl, rfl⟩ := hv
  exact ⟨K3, I3, F3, S3, q3, m3, d3, ⟨c0, c1, c2, c3, c4⟩, hr⟩
theorem leaf_is {w : World} {n : Nat} {K3 I3 : Int} {F3 : Nat} {S3 : ByteArray} {q3 : Option Addr} {m3 d3 : Nat} {K I : Int} {F : Nat} {Z : ByteArray} {L : List (VT n)} (h : Rep w (n + 1) (.agg #[.int .i64 K3, .int .i64 I3, .float .f64 F3, .string S3, .slice q3 m3 d3]) (K, I, F, Z, L)) : K3 = K ∧ I3 = I ∧ F3 = F ∧ S3 = Z ∧ okI I ∧ F < 2 ^ 64 := by
  obtain ⟨p, l, c, hv, h1, h2, h3, _⟩ := h
  injection hv with hv
  simp only [Array.mk.injEq, List.cons.injEq, and_true] at hv
  obtain ⟨e1, e2, e3, e4, e5⟩ := hv
  injection e1 with _ e1
  injection e2 with _ e2
  injection e3 with _ e3
  injection e4 with e4
  exact ⟨e1, e2, e3, e4, h2, h3⟩
theorem arg_nm {w : World} {n i : Nat} {bl ol l c : Nat} {L : List (VT (n + 1))} {k : ByteArray} (h : RepL w (Rep w (n + 1)) (some ⟨bl, ol, none⟩) l c L) (hi : i < L.length) (hk : L[i] = nameV n k) : w.cell? ⟨bl, ol + i * 5 + 3, none⟩ = some (.string k) ∧ ∃ b, w.cell? ⟨bl, ol + i * 5, none⟩ = some b := by
  obtain ⟨K3, I3, F3, S3, q3, m3, d3, ⟨c0, c1, c2, c3, c4⟩, hr⟩ := arg_nth h hi
  rw [hk] at hr
  obtain ⟨_, _, _, rfl, _⟩ := leaf_is hr
  exact ⟨c3, _, c0⟩
/-- What Right, Check tell of a ledger of floats and of arguments that are right. -/
theorem right_A {AS : List (ByteArray × Nat)} (h : OkA AS) {s : Value} {w : World} (hs : Rep w 3 s (tableT 0 (ledA AS))) : Hid (∀ W, Below w.heap.size w W → Calls Tryz.prog 15 #[s] W fun e w' => e = .returned (.bool true) ∧ Below W.heap.size W w') :=
  Lib.hid (fun W hb => lright_any 0 _ _ W (rep_keep hb _ _ _ hs) (okA_L h))
theorem check_A {m : ByteArray} {L : List (VT 1)} (hc : chkA ledC m 0 L = 0) (hg : GoodL 0 L) {pl : Option Addr} {ll cl : Nat} {w : World} (hr : RepL w (Rep w 1) pl ll cl L) : Hid (∀ W, Below w.heap.size w W → Calls Tryz.prog 25 #[.string { data := #[108, 101, 100, 103, 101, 114] }, .string m, .slice pl ll cl] W fun e w' => e = .returned (.int .i64 0) ∧ Below W.heap.size W w') :=
  Lib.hid (fun W hb => by
    have h := check_args ledC m 0 pl ll cl L W (repL_keep hb (rep_keep hb _) hr) hg
    rw [hc] at h
    exact h)
theorem nil_cln : Cln 1 (nilT 0) := ⟨rfl, by show (1 : Nat) ≤ 1000; decide, rfl⟩
theorem ledA_at {AS : List (ByteArray × Nat)} {a : Nat} (h : a < AS.length) {k : ByteArray} {F : Nat} (hk : AS[a] = (k, F)) (h' : a < (ledA AS).length) : (ledA AS)[a]'h' = (k, floT 0 F) := by
  have e : (ledA AS)[a]'h' = ((AS[a]).1, floT 0 (AS[a]).2) := List.getElem_map _
  rw [e, hk]
theorem len_A {w : World} {p : Option Addr} {l c : Nat} {AS : List (ByteArray × Nat)} (h : RepL w (Rep w 2) p l c ((ledA AS).map (pairE 0))) : (ledA AS).length = l := by have := h.1; rw [List.length_map] at this; exact this
theorem ldo_open {AS : List (ByteArray × Nat)} (hok : OkA AS) {s : Value} {pl : Option Addr} {cl : Nat} {k : ByteArray} {w : World} (hs : Rep w 3 s (tableT 0 (ledA AS))) (hr : RepL w (Rep w 1) pl 1 cl [nameV 0 k]) (hk : nmV 3 k = true) (a : Nat) (hal : a ≤ AS.length) (hsp : Spot (AS.map (·.1)) k a false) (hl : AS.length < 32) (hok2 : OkA (AS.take a ++ ((k, 0) :: AS.drop a))) :
    Calls Tryz.prog 12 #[s, .string { data := #[111, 112, 101, 110] }, .slice pl 1 cl] w fun e w' => DoQ w 3 1 (tableT 0 (ledA (AS.take a ++ ((k, 0) :: AS.drop a)))) (nilT 0) 0 e w' := by
  obtain ⟨p, l, c, rfl, hrl⟩ := led_mem hs
  have hll := len_A hrl
  rw [ledA_len] at hll
  obtain ⟨bl, ol, rfl, _⟩ := hr.2.2.2 (by omega)
  obtain ⟨n0, _⟩ := arg_nm hr (i := 0) (by simp) rfl
  simp only [Nat.zero_mul, Nat.add_zero] at n0
  have hT : (4, 0, 0, ⟨#[]⟩, (((ledA AS).map (pairE 0)).take a ++ ([pairT 0 k (floT 0 0)] ++ ((ledA AS).map (pairE 0)).drop a))) = tableT 0 (ledA (AS.take a ++ ((k, 0) :: AS.drop a))) := by
    unfold tableT ledA
    rw [List.map_append, List.map_append, List.map_cons, List.map_cons, ← List.map_take, ← List.map_drop, ← List.map_take, ← List.map_drop]
    rfl
  have h := ldo_run 0 0 (a + 1 + (l - a)) p l c _ _ 1 cl w (right_A hok hs) (check_A (chk_lopen hk) (by intro T hT; rw [List.mem_singleton.1 hT]; exact (name_light 0 hk).2) hr) (((ledA AS).map (pairE 0)).take a ++ ([pairT 0 k (floT 0 0)] ++ ((ledA AS).map (pairE 0)).drop a)) (nilT 0) (Lib.hid (fun W hb => ?_)) (Lib.hid (by rw [hT]; exact okA_cln hok2)) (Lib.hid nil_cln)
  · rw [hT, okA_clean hok2] at h
    exact h
  · refine run_open 0 0 _ p l c bl ol cl k W (cell_keep hb n0) _ 0 (Lib.hid (fun W2 hb2 => ?_))
    refine (opened_new 0 p l c a k (ledA AS) W W2 (Lib.hid hb2) (Lib.hid (repL_acc hb hrl)) (by omega) (by omega) (by omega) (by rw [ledA_names]; exact hsp) (Lib.hid (txt_repn 0 W (nm_size hk)))).mono ?_
    rintro e w' ⟨p', c', rfl, hb', hn⟩
    exact ⟨p', c', rfl, hb', hn⟩
theorem ldo_deposit {AS : List (ByteArray × Nat)} (hok : OkA AS) {s : Value} {pl : Option Addr} {cl : Nat} {k : ByteArray} {K I : Int} {F FV : Nat} {w : World} (hs : Rep w 3 s (tableT 0 (ledA AS))) (hr : RepL w (Rep w 1) pl 2 cl [nameV 0 k, (K, I, F, ⟨#[]⟩, [])]) (hk : nmV 3 k = true) (hK : isNum K = true) (a : Nat) (hal : a < AS.length) (hka : AS[a] = (k, FV)) (hf : finV K F = true) (hsg : 0 < signV K I F) (hsu : finV 2 (Flo.cop .add FV (asF K I F)) = true) :
    Calls Tryz.prog 12 #[s, .string { data := #[100, 101, 112, 111, 115, 105, 116] }, .slice pl 2 cl] w fun e w' => DoQ w 3 1 (tableT 0 (ledA (AS.set a (k, Flo.cop .add FV (asF K I F))))) (floT 0 (Flo.cop .add FV (asF K I F))) 0 e w' := by
  obtain ⟨p, l, c, rfl, hrl⟩ := led_mem hs
  have hll := len_A hrl
  have hll' := hll
  rw [ledA_len] at hll
  obtain ⟨bl, ol, rfl, _⟩ := hr.2.2.2 (by omega)
  obtain ⟨n0, _⟩ := arg_nm hr (i := 0) (by simp) rfl
  obtain ⟨K3, I3, F3, S3, q3, m3, d3, ⟨v0, v1, v2, v3, v4⟩, hv⟩ := arg_nth hr (i := 1) (by simp)
  obtain ⟨rfl, rfl, rfl, rfl, hi, hF⟩ := leaf_is (show Rep w 1 _ (K, I, F, ⟨#[]⟩, []) from hv)
  simp only [Nat.zero_mul, Nat.one_mul, Nat.add_zero] at n0 v0 v1 v2 v3 v4
  obtain ⟨hA, hG⟩ := amt_of hF hi hf hsg
  have hFV : FV < 9218868437227405312 := by have h := hok.2.2 _ (List.getElem_mem hal); rw [hka] at h; exact h
  have hS := cop_add (Nat.le_of_lt hFV) (Nat.le_of_lt hG)
  have hok2 := okA_set hok hal (k := k) (by rw [hka]) (fin_le hS.1 hsu)
  have hal' : a < (ledA AS).length := by rw [ledA_len]; exact hal
  have hT : (4, 0, 0, ⟨#[]⟩, (((ledA AS).map (pairE 0)).take a ++ ([pairT 0 k (floT 0 (Flo.cop .add FV (asF K3 I3 F3)))] ++ ((ledA AS).map (pairE 0)).drop (a + 1)))) = tableT 0 (ledA (AS.set a (k, Flo.cop .add FV (asF K3 I3 F3)))) := by
    rw [set_at _ a _ (by rw [List.length_map]; exact hal'), ← set_ledA]
    unfold tableT
    rw [List.map_set]; rfl
  have h := ldo_run 0 0 (a + 1 + (l - (a + 1))) p l c _ _ 2 cl w (right_A hok hs) (check_A (chk_ldep hk hK) (by intro T hT; rcases List.mem_cons.1 hT with rfl | hT; exact (name_light 0 hk).2; rw [List.mem_singleton.1 hT]; exact (num_light hK).2) hr) (((ledA AS).map (pairE 0)).take a ++ ([pairT 0 k (floT 0 (Flo.cop .add FV (asF K3 I3 F3)))] ++ ((ledA AS).map (pairE 0)).drop (a + 1))) (floT 0 (Flo.cop .add FV (asF K3 I3 F3))) (Lib.hid (fun W hb => ?_)) (Lib.hid (by rw [hT]; exact okA_cln hok2)) (Lib.hid (small_cln (small_flo (fin_le hS.1 hsu))).2)
  · rw [hT, okA_clean hok2, (small_flo (fin_le hS.1 hsu)).2.2] at h
    exact h
  · refine run_deposit 0 0 _ p l c bl ol cl k K3 I3 F3 ⟨#[]⟩ q3 m3 d3 W (cell_keep hb n0) (cell_keep hb v0) (cell_keep hb v1) (cell_keep hb v2) (cell_keep hb v3) (cell_keep hb v4) _ _ 0 (Lib.hid (fun W2 hb2 => ?_))
    have hrW := repL_acc hb hrl
    obtain ⟨b, off, rfl, _⟩ := hrW.2.2.2 (by omega)
    have hsp : Spot ((ledA AS).map (·.1)) k a true := by rw [ledA_names]; exact spot_at hok.1 (by rw [List.length_map]; exact hal) (by rw [List.getElem_map, hka])
    refine (deposit_ok 0 b off l c a k K3 I3 F3 ⟨#[]⟩ q3 m3 d3 (asF K3 I3 F3) FV (ledA AS) (floT 0 FV) W W2 (Lib.hid hb2) (Lib.hid hrW) (by have := hok.2.1; omega) hal' hll' (ledA_at hal hka _) hsp (Lib.hid hA) ⟨rfl, rfl⟩ hsu (Lib.hid (txt_repn 0 W (nm_size hk))) (Lib.hid (flo_repn 0 W (Flo.cop_lt _ _ _)))).mono ?_
    rintro e w' ⟨p', c', rfl, hb', hn⟩
    exact ⟨p', c', _, rfl, hb', hn, fun y _ => flo_repn 0 y (Flo.cop_lt _ _ _)⟩
/-- What a transfer comes to: an error, a state, an answer. -/
def traV (AS : List (ByteArray × Nat)) (a d : Nat) (ka kd : ByteArray) (FA FD : Nat) (K I : Int) (F : Nat) : Int × VT 3 × VT 1 :=
  if finV K F = false ∨ signV K I F ≤ 0 then (35, nilT 2, nilT 0)
  else if (FloatKind.f64.format.order FA (asF K I F) == some .lt) = true then (36, nilT 2, nilT 0)
  else if a = d then (0, tableT 0 (ledA AS), floT 0 FA)
  else if finV 2 (Flo.cop .add FD (asF K I F)) = false then (35, nilT 2, nilT 0)
  else (0, tableT 0 (ledA ((AS.set a (ka, Flo.cop .sub FA (asF K I F))).set d (kd, Flo.cop .add FD (asF K I F)))), floT 0 (Flo.cop .sub FA (asF K I F)))
set_option maxHeartbeats 1000000 in
theorem ldo_transfer {AS : List (ByteArray × Nat)} (hok : OkA AS) {s : Value} {pl : Option Addr} {cl : Nat} {ka kd : ByteArray} {K I : Int} {F FA FD : Nat} {w : World} (hs : Rep w 3 s (tableT 0 (ledA AS))) (hr : RepL w (Rep w 1) pl 3 cl [nameV 0 ka, nameV 0 kd, (K, I, F, ⟨#[]⟩, [])]) (hna : nmV 3 ka = true) (hnd : nmV 3 kd = true) (hK : isNum K = true) (a d : Nat) (hal : a < AS.length) (hka : AS[a] = (ka, FA)) (hdl : d < AS.length) (hkd : AS[d] = (kd, FD)) :
    Calls Tryz.prog 12 #[s, .string { data := #[116, 114, 97, 110, 115, 102, 101, 114] }, .slice pl 3 cl] w fun e w' => DoQ w 3 1 (traV AS a d ka kd FA FD K I F).2.1 (traV AS a d ka kd FA FD K I F).2.2 (traV AS a d ka kd FA FD K I F).1 e w' := by
  obtain ⟨p, l, c, rfl, hrl⟩ := led_mem hs
  have hll := len_A hrl
  have hll' := hll
  rw [ledA_len] at hll
  obtain ⟨bl, ol, rfl, _⟩ := hr.2.2.2 (by omega)
  obtain ⟨n0, _⟩ := arg_nm hr (i := 0) (by simp) rfl
  obtain ⟨n1, _⟩ := arg_nm hr (i := 1) (by simp) rfl
  obtain ⟨K3, I3, F3, S3, q3, m3, d3, ⟨v0, v1, v2, v3, v4⟩, hv⟩ := arg_nth hr (i := 2) (by simp)
  obtain ⟨rfl, rfl, rfl, rfl, hi, hF⟩ := leaf_is (show Rep w 1 _ (K, I, F, ⟨#[]⟩, []) from hv)
  simp only [Nat.zero_mul, Nat.one_mul, Nat.add_zero] at n0 n1 v0 v1 v2 v3 v4
  have v0' : w.cell? ⟨bl, ol + 10, none⟩ = some (.int .i64 K3) := v0
  have v1' : w.cell? ⟨bl, ol + 10 + 1, none⟩ = some (.int .i64 I3) := v1
  have v2' : w.cell? ⟨bl, ol + 10 + 2, none⟩ = some (.float .f64 F3) := v2
  have v3' : w.cell? ⟨bl, ol + 10 + 3, none⟩ = some (.string ⟨#[]⟩) := v3
  have v4' : w.cell? ⟨bl, ol + 10 + 4, none⟩ = some (.slice q3 m3 d3) := v4
  have hFA : FA < 9218868437227405312 := by have h := hok.2.2 _ (List.getElem_mem hal); rw [hka] at h; exact h
  have hFD : FD < 9218868437227405312 := by have h := hok.2.2 _ (List.getElem_mem hdl); rw [hkd] at h; exact h
  have hal' : a < (ledA AS).length := by rw [ledA_len]; exact hal
  have hdl' : d < (ledA AS).length := by rw [ledA_len]; exact hdl
  have hl32 := hok.2.1
  have hea : (ledA AS)[a]'hal' = (ka, floT 0 FA) := ledA_at hal hka _
  have hed : (ledA AS)[d]'hdl' = (kd, floT 0 FD) := ledA_at hdl hkd _
  have hspa : Spot ((ledA AS).map (·.1)) ka a true := by rw [ledA_names]; exact spot_at hok.1 (by rw [List.length_map]; exact hal) (by rw [List.getElem_map, hka])
  have hspd : Spot ((ledA AS).map (·.1)) kd d true := by rw [ledA_names]; exact spot_at hok.1 (by rw [List.length_map]; exact hdl) (by rw [List.getElem_map, hkd])
  have HR := right_A hok hs
  have HA := check_A (chk_ltra (I := I3) (F := F3) hna hnd hK) (by intro T hT; rcases List.mem_cons.1 hT with rfl | hT; exact (name_light 0 hna).2; rcases List.mem_cons.1 hT with rfl | hT; exact (name_light 0 hnd).2; rw [List.mem_singleton.1 hT]; exact (num_light hK).2) hr
  have hrun : ∀ (lt : Nat) (L : List (VT 2)) (U : VT 1) (z : Int) (W : World), Below w.heap.size w W → (∀ W2, Below W.heap.size W W2 → Calls Tryz.prog 56 #[.slice p l c, .string ka, .string kd, .agg #[.int .i64 K3, .int .i64 I3, .float .f64 F3, .string ⟨#[]⟩, .slice q3 m3 d3]] W2 fun e w' => LQ W W2 0 0 lt L U z e w') → Calls Tryz.prog 26 #[.slice p l c, .string { data := #[116, 114, 97, 110, 115, 102, 101, 114] }, .slice (some ⟨bl, ol, none⟩) 3 cl] W fun e w' => LRun W 0 0 lt L U z e w' :=
    fun lt L U z W hb hT => run_transfer 0 0 lt p l c bl ol cl ka kd K3 I3 F3 ⟨#[]⟩ q3 m3 d3 W (cell_keep hb n0) (cell_keep hb n1) (cell_keep hb v0') (cell_keep hb v1') (cell_keep hb v2') (cell_keep hb v3') (cell_keep hb v4') L U z (Lib.hid hT)
  have hnilL : ∀ (y : World), RepL y (Rep y 2) none 0 0 ([] : List (VT 2)) := fun y => ⟨rfl, Nat.le_refl _, Nat.zero_le _, fun h => absurd h (Nat.lt_irrefl _)⟩
  have hnilU : ∀ (y : World), Rep y 1 (.agg #[.int .i64 0, .int .i64 0, .float .f64 0, .string ⟨#[]⟩, .slice none 0 0]) (nilT 0) := fun y => repS_rep _ _ _ (nil_rep 0 (fun _ => True) y)
  unfold traV
  by_cases h1 : finV K3 F3 = false ∨ signV K3 I3 F3 ≤ 0
  · rw [if_pos h1]
    refine ldo_bad 35 (by decide) 2 0 0 0 0 p l c _ _ 3 cl w HR HA [] (nilT 0) (Lib.hid (fun W hb => hrun 0 [] (nilT 0) 35 W hb (fun W2 hb2 => ?_)))
    refine (transfer_amount 0 p l c ka kd K3 I3 F3 ⟨#[]⟩ q3 m3 d3 W2 hF h1).mono ?_
    rintro e w' ⟨rfl, hb'⟩
    exact ⟨none, 0, _, rfl, hb', fun y _ _ => hnilL y, fun y _ => hnilU y⟩
  rw [if_neg h1]
  have hf : finV K3 F3 = true := by cases h : finV K3 F3; exact absurd (Or.inl h) h1; rfl
  have hsg : 0 < signV K3 I3 F3 := by have : ¬ signV K3 I3 F3 ≤ 0 := fun h => h1 (Or.inr h); omega
  obtain ⟨hA, hG⟩ := amt_of hF hi hf hsg
  cases h2 : (FloatKind.f64.format.order FA (asF K3 I3 F3) == some .lt)
  · rw [if_neg (by decide)]
    have hsub := sub_lt hFA hG (by rw [beq_eq_false_iff_ne] at h2; exact h2)
    by_cases h3 : a = d
    · subst h3
      obtain rfl : kd = ka := by rw [hka] at hkd; exact (Prod.mk.inj hkd).1.symm
      rw [if_pos rfl]
      have h := ldo_run 0 0 l p l c _ _ 3 cl w HR HA ((ledA AS).map (pairE 0)) (floT 0 FA) (Lib.hid (fun W hb => hrun l _ (floT 0 FA) 0 W hb (fun W2 hb2 => ?_))) (Lib.hid (okA_cln hok)) (Lib.hid (small_cln (small_flo hFA)).2)
      · rw [(small_flo hFA).2.2] at h
        have e := okA_clean hok
        unfold tableT at e ⊢
        rw [e] at h
        exact h
      · have hrW := repL_acc hb hrl
        obtain ⟨b, off, rfl, _⟩ := hrW.2.2.2 (by omega)
        refine (transfer_same 0 b off l c a kd K3 I3 F3 ⟨#[]⟩ q3 m3 d3 (asF K3 I3 F3) FA (ledA AS) (floT 0 FA) W2 W2 (Lib.hid (Below.refl _ _)) (Lib.hid (repL_acc hb2 hrW)) (by omega) (Lib.hid hA) hal' hll' hea hspa ⟨rfl, rfl⟩ h2).mono ?_
        rintro e w' ⟨u, rfl, hb', hu⟩
        obtain ⟨K', I', F', S', q', m', d', rfl, _⟩ := rep_shape hu
        obtain ⟨rfl, rfl, rfl, rfl, hi', hF'⟩ := leaf_is hu
        obtain ⟨p', l', c', hv', _, _, _, _, hl', hlc', hcm', _⟩ := hu
        injection hv' with hv'
        simp only [Array.mk.injEq, List.cons.injEq, and_true] at hv'
        obtain ⟨_, _, _, _, e5⟩ := hv'
        injection e5 with e6 e7 e8
        subst e6 e7 e8
        exact ⟨_, _, _, rfl, hb', fun y hy _ => repL_acc hy hrW, fun y hy => ⟨q', m', d', rfl, (by decide : okI 2), (by decide : okI 0), hF', (by decide : (⟨#[]⟩ : ByteArray).size ≤ maxLen), hl', hlc', hcm', fun h0 => absurd h0 (by rw [← hl']; exact Nat.lt_irrefl _)⟩⟩
    · rw [if_neg h3]
      cases h4 : finV 2 (Flo.cop .add FD (asF K3 I3 F3))
      · rw [if_pos rfl]
        refine ldo_bad 35 (by decide) 2 0 0 0 0 p l c _ _ 3 cl w HR HA [] (nilT 0) (Lib.hid (fun W hb => hrun 0 [] (nilT 0) 35 W hb (fun W2 hb2 => ?_)))
        have hrW := repL_acc hb hrl
        obtain ⟨b, off, rfl, _⟩ := hrW.2.2.2 (by omega)
        refine (transfer_sum 0 b off l c a d ka kd K3 I3 F3 ⟨#[]⟩ q3 m3 d3 (asF K3 I3 F3) FA FD (ledA AS) (floT 0 FA) (floT 0 FD) W W2 (Lib.hid hb2) (Lib.hid hrW) (by omega) (Lib.hid hA) hal' hll' hea hspa ⟨rfl, rfl⟩ h2 hdl' hed hspd ⟨rfl, rfl⟩ h3 h4).mono ?_
        rintro e w' ⟨rfl, hb'⟩
        exact ⟨none, 0, _, rfl, hb', fun y _ _ => hnilL y, fun y _ => hnilU y⟩
      · rw [if_neg (by decide)]
        have hadd : Flo.cop .add FD (asF K3 I3 F3) < 9218868437227405312 := fin_le (cop_add (Nat.le_of_lt hFD) (Nat.le_of_lt hG)).1 h4
        have hok1 := okA_set hok hal (k := ka) (by rw [hka]) hsub
        have hok2 := okA_set hok1 (i := d) (k := kd) (by rw [List.length_set]; exact hdl) (by rw [List.getElem_set_ne h3, hkd]) hadd
        have hT : ((4, 0, 0, ⟨#[]⟩, ((((ledA AS).set a (ka, floT 0 (Flo.cop .sub FA (asF K3 I3 F3)))).set d (kd, floT 0 (Flo.cop .add FD (asF K3 I3 F3)))).map (pairE 0))) : VT 3) = tableT 0 (ledA ((AS.set a (ka, Flo.cop .sub FA (asF K3 I3 F3))).set d (kd, Flo.cop .add FD (asF K3 I3 F3)))) := by
          rw [set_ledA, set_ledA]; rfl
        have h := ldo_run 0 0 l p l c _ _ 3 cl w HR HA ((((ledA AS).set a (ka, floT 0 (Flo.cop .sub FA (asF K3 I3 F3)))).set d (kd, floT 0 (Flo.cop .add FD (asF K3 I3 F3)))).map (pairE 0)) (floT 0 (Flo.cop .sub FA (asF K3 I3 F3))) (Lib.hid (fun W hb => hrun l _ _ 0 W hb (fun W2 hb2 => ?_))) (Lib.hid (by rw [hT]; exact okA_cln hok2)) (Lib.hid (small_cln (small_flo hsub)).2)
        · rw [hT, okA_clean hok2, (small_flo hsub).2.2] at h
          exact h
        · have hrW := repL_acc hb hrl
          obtain ⟨b, off, rfl, _⟩ := hrW.2.2.2 (by omega)
          refine (transfer_ok 0 b off l c a d ka kd K3 I3 F3 ⟨#[]⟩ q3 m3 d3 (asF K3 I3 F3) FA FD (ledA AS) (floT 0 FA) (floT 0 FD) W W2 (Lib.hid hb2) (Lib.hid hrW) (by omega) (Lib.hid hA) hal' hll' hea hspa ⟨rfl, rfl⟩ h2 hdl' hed hspd ⟨rfl, rfl⟩ h3 h4 (Lib.hid ⟨nm_size hna, nm_size hnd⟩)).mono ?_
          rintro e w' ⟨p', c', rfl, hb', hn⟩
          exact ⟨p', c', _, rfl, hb', hn, fun y _ => flo_repn 0 y (Flo.cop_lt _ _ _)⟩
  · rw [if_pos rfl]
    refine ldo_bad 36 (by decide) 2 0 0 0 0 p l c _ _ 3 cl w HR HA [] (nilT 0) (Lib.hid (fun W hb => hrun 0 [] (nilT 0) 36 W hb (fun W2 hb2 => ?_)))
    have hrW := repL_acc hb hrl
    obtain ⟨b, off, rfl, _⟩ := hrW.2.2.2 (by omega)
    refine (transfer_funds 0 b off l c a d ka kd K3 I3 F3 ⟨#[]⟩ q3 m3 d3 (asF K3 I3 F3) FA FD (ledA AS) (floT 0 FA) (floT 0 FD) W W2 (Lib.hid hb2) (Lib.hid hrW) (by omega) (Lib.hid hA) hal' hll' hea hspa ⟨rfl, rfl⟩ h2 hdl' hed hspd ⟨rfl, rfl⟩).mono ?_
    rintro e w' ⟨rfl, hb'⟩
    exact ⟨none, 0, _, rfl, hb', fun y _ _ => hnilL y, fun y _ => hnilU y⟩
end Num
end Go.Proofs.YtpbfaffheigjcaaGreat
/-
  The reference: where a name stands.
-/
namespace Go.Proofs.YtpbfaffheigjcaaGreat
open Go.RowKit
namespace Num
open Ints
set_option linter.unusedSimpArgs false
set_option linter.unusedVariables false
set_option maxRecDepth 100000 in
set_option maxHeartbeats 4000000 in
theorem at_any (K I : Int) (F : Nat) (Z : ByteArray) (p : Option Addr) (l c a : Nat) (NS : List ByteArray) (k : ByteArray) (fnd : Bool) (w : World) (hE : EntsL w p l NS) (hs : Spot NS k a fnd) :
    Calls Tryz.prog 68 #[.agg #[.int .i64 K, .int .i64 I, .float .f64 F, .string Z, .slice p l c], .string k] w fun e w' => e = .returned (.tuple #[.int .i64 a, .bool fnd]) ∧ Below w.heap.size w w' := by
  obtain ⟨hl, hm, he⟩ := hE
  obtain ⟨ha, h1, h2, h3⟩ := hs
  have HE := Lib.hid he
  have H1 := Lib.hid h1
  have H2 := Lib.hid h2
  have H3 := Lib.hid h3
  have HLN := Lib.hid hl
  have hal : a ≤ l := by omega
  have HB := Lib.hid (bel_alloc (Below.refl w.heap.size w) (.cells #[.int .i64 K, .int .i64 I, .float .f64 F, .string Z, .slice p l c] 27))
  have HR := Lib.hid (row_alloc w #[.int .i64 K, .int .i64 I, .float .f64 F, .string Z, .slice p l c] 27)
  clear hl he h1 h2 h3 ha
  go_enter Tryz.func68, Tryz.ntmps68
  go_wp2
  go_loopw [6] (fun iv wr => ∃ i : Nat, i ≤ a ∧ iv = .int .i64 i ∧ Below w.heap.size w wr ∧ wr.heap[w.heap.size]? = some (.cells #[.int .i64 K, .int .i64 I, .float .f64 F, .string Z, .slice p l c] 27 (0, 0))) (fun iv _ => a - (intOf iv).toNat)
  case atStart => exact ⟨0, Nat.zero_le _, rfl, HB.out, HR.out⟩
  case round =>
    obtain ⟨i, hia, rfl, hb, hr⟩ := hrel
    have HBR := Lib.hid hb
    have HRR := Lib.hid hr
    have b4 := row_cell hr 4
    simp only [lk0, lk1, lk2] at b4
    have hi0 : (0 : Int) ≤ (i : Int) := by omega
    clear hb hr HB HR
    by_cases hlt : i < l
    · have hil2 : (i : Int) < (l : Int) := by omega
      obtain ⟨b, off, rfl, hen⟩ := HE.out (by omega)
      have hix : i < NS.length := by have := HLN.out; omega
      obtain ⟨K1, I1, F1, S1, q, m, d, c0, c1, c2, c3, c4, hm0, hnm⟩ := hen i hix
      obtain ⟨qb, qo, rfl, n3⟩ := hnm
      have hless := H1.out i hix
      unfold ltB at hless
      replace c4 := cell_keep HBR.out c4
      replace n3 := cell_keep HBR.out n3
      have hm1 : (0 : Int) < (m : Int) := by omega
      clear c0 c1 c2 c3 hen
      by_cases hx : i < a
      · rw [decide_eq_true hx] at hless
        have HBL := Lib.hid HBR.out
        go_wp2
        go_roundw
        case rel => exact ⟨i + 1, by omega, by go_num, HBR.out, HRR.out⟩
        case measure => simp [intOf]; omega
      · rw [decide_eq_false hx] at hless
        have hfe := H2.out
        obtain rfl : i = a := by omega
        have hfnd := hfe hix
        obtain ⟨sx, hsx⟩ : ∃ s, NS[i] = s := ⟨_, rfl⟩
        rw [hsx] at hfnd n3 hless
        clear hfe hx hia hsx
        have e4 := c4
        go_upto_region 4 with fail
        refine wp_region_held_drew (S := (fun z => z.cell? ⟨w.heap.size, 4, none⟩ = some (.slice (some ⟨b, off, none⟩) l c) ∧ z.cell? ⟨b, off + i * 5 + 4, none⟩ = some (.slice (some ⟨qb, qo, none⟩) m d) ∧ z.cell? ⟨qb, qo + 3, none⟩ = some (.string sx))) (by kernel_rfl) ?_ (fun hHeld => ?_)
        · exact ⟨cell_keep (Below.drew (Below.refl _ _)) b4, cell_keep (Below.drew (Below.refl _ _)) e4, cell_keep (Below.drew (Below.refl _ _)) n3⟩
        have HD9 := Lib.hid (show Below wr.heap.size wr wr.drew from Below.drew (Below.refl _ _))
        revert HD9 hHeld
        generalize wr.drew = Wd
        intro hHeld HD9
        refine zt [0, 1, 2, 3, 4, 5, 6, 7, 8, 9, 10, 11, 12, 13, 14, 15, 16, 17, 18, 19, 20] ?_
        iterate 21 (refine zt1 (fun _ _ d _ _ h => by cases d <;> exact h) (by simp only [lk0, lk1, lk2]; rfl) (by kernel_rfl) (by assumption) (by rfl) (fun wS hSw => by (try dsimp only at hSw); go_simp; (try with_reducible rfl)) ?_; (try simp only [Act.put, pk0, pk1, pk2]))
        refine zt0 ?_
        refine wpAnyH_done (by kernel_rfl) ?_ _
        go_wp2
        refine bodyPost_ret (v := .tuple #[.int .i64 i, .bool fnd]) (by simp [results, Tryz.results68, go_sem]) rfl ⟨rfl, bel_step HBR.out HD9.out⟩
    · have hil2 : ¬ (i : Int) < (l : Int) := by omega
      obtain rfl : i = a := by omega
      have hfd := H3.out (by have := HLN.out; omega)
      subst hfd
      clear hlt hia
      go_upto_region 4 with fail
      refine wp_region_held_drew (S := (fun z => z.cell? ⟨w.heap.size, 4, none⟩ = some (.slice p l c))) (by kernel_rfl) ?_ (fun hHeld => ?_)
      · exact cell_keep (Below.drew (Below.refl _ _)) b4
      have HD9 := Lib.hid (show Below wr.heap.size wr wr.drew from Below.drew (Below.refl _ _))
      revert HD9 hHeld
      generalize wr.drew = Wd
      intro hHeld HD9
      refine zt [0, 1, 2, 3, 4, 5, 6] ?_
      iterate 7 (refine zt1 (fun _ _ d _ _ h => by cases d <;> exact h) (by simp only [lk0, lk1, lk2]; rfl) (by kernel_rfl) (by assumption) (by rfl) (fun wS hSw => by (try dsimp only at hSw); go_simp; (try with_reducible rfl)) ?_; (try simp only [Act.put, pk0, pk1, pk2]))
      refine zt0 ?_
      refine wpAnyH_take (i := 7) (oi := ?_) (v := undef) ?in7 (by kernel_rfl) ?fn7 ?rn7 ?Qn7 ?yn7 (by assumption) ?tn7
      case in7 => (simp only [lk0, lk1, lk2]; rfl)
      case fn7 | rn7 => kernel_rfl
      case yn7 => exact Or.inr ⟨by rfl, rfl⟩
      case Qn7 => exact fun _ _ _ h => h
      (try simp only [Act.put, pk0, pk1, pk2])
      refine wpAnyH_take (i := 8) (oi := ?_) (v := undef) ?in8 (by kernel_rfl) ?fn8 ?rn8 ?Qn8 ?yn8 (by assumption) ?tn8
      case in8 => (simp only [lk0, lk1, lk2]; rfl)
      case fn8 | rn8 => kernel_rfl
      case yn8 => exact Or.inr ⟨by rfl, rfl⟩
      case Qn8 => exact fun _ _ _ h => h
      (try simp only [Act.put, pk0, pk1, pk2])
      refine wpAnyH_take (i := 9) (oi := ?_) (v := undef) ?in9 (by kernel_rfl) ?fn9 ?rn9 ?Qn9 ?yn9 (by assumption) ?tn9
      case in9 => (simp only [lk0, lk1, lk2]; rfl)
      case fn9 | rn9 => kernel_rfl
      case yn9 => exact Or.inr ⟨by rfl, rfl⟩
      case Qn9 => exact fun _ _ _ h => h
      (try simp only [Act.put, pk0, pk1, pk2])
      refine wpAnyH_take (i := 10) (oi := ?_) (v := undef) ?in10 (by kernel_rfl) ?fn10 ?rn10 ?Qn10 ?yn10 (by assumption) ?tn10
      case in10 => (simp only [lk0, lk1, lk2]; rfl)
      case fn10 | rn10 => kernel_rfl
      case yn10 => exact Or.inr ⟨by rfl, rfl⟩
      case Qn10 => exact fun _ _ _ h => h
      (try simp only [Act.put, pk0, pk1, pk2])
      refine wpAnyH_take (i := 11) (oi := ?_) (v := undef) ?in11 (by kernel_rfl) ?fn11 ?rn11 ?Qn11 ?yn11 (by assumption) ?tn11
      case in11 => (simp only [lk0, lk1, lk2]; rfl)
      case fn11 | rn11 => kernel_rfl
      case yn11 => exact Or.inr ⟨by rfl, rfl⟩
      case Qn11 => exact fun _ _ _ h => h
      (try simp only [Act.put, pk0, pk1, pk2])
      refine wpAnyH_take (i := 12) (oi := ?_) (v := undef) ?in12 (by kernel_rfl) ?fn12 ?rn12 ?Qn12 ?yn12 (by assumption) ?tn12
      case in12 => (simp only [lk0, lk1, lk2]; rfl)
      case fn12 | rn12 => kernel_rfl
      case yn12 => exact Or.inr ⟨by rfl, rfl⟩
      case Qn12 => exact fun _ _ _ h => h
      (try simp only [Act.put, pk0, pk1, pk2])
      refine wpAnyH_take (i := 13) (oi := ?_) (v := undef) ?in13 (by kernel_rfl) ?fn13 ?rn13 ?Qn13 ?yn13 (by assumption) ?tn13
      case in13 => (simp only [lk0, lk1, lk2]; rfl)
      case fn13 | rn13 => kernel_rfl
      case yn13 => exact Or.inr ⟨by rfl, rfl⟩
      case Qn13 => exact fun _ _ _ h => h
      (try simp only [Act.put, pk0, pk1, pk2])
      refine wpAnyH_take (i := 14) (oi := ?_) (v := undef) ?in14 (by kernel_rfl) ?fn14 ?rn14 ?Qn14 ?yn14 (by assumption) ?tn14
      case in14 => (simp only [lk0, lk1, lk2]; rfl)
      case fn14 | rn14 => kernel_rfl
      case yn14 => exact Or.inr ⟨by rfl, rfl⟩
      case Qn14 => exact fun _ _ _ h => h
      (try simp only [Act.put, pk0, pk1, pk2])
      refine wpAnyH_take (i := 15) (oi := ?_) (v := undef) ?in15 (by kernel_rfl) ?fn15 ?rn15 ?Qn15 ?yn15 (by assumption) ?tn15
      case in15 => (simp only [lk0, lk1, lk2]; rfl)
      case fn15 | rn15 => kernel_rfl
      case yn15 => exact Or.inr ⟨by rfl, rfl⟩
      case Qn15 => exact fun _ _ _ h => h
      (try simp only [Act.put, pk0, pk1, pk2])
      refine wpAnyH_take (i := 16) (oi := ?_) (v := undef) ?in16 (by kernel_rfl) ?fn16 ?rn16 ?Qn16 ?yn16 (by assumption) ?tn16
      case in16 => (simp only [lk0, lk1, lk2]; rfl)
      case fn16 | rn16 => kernel_rfl
      case yn16 => exact Or.inr ⟨by rfl, rfl⟩
      case Qn16 => exact fun _ _ _ h => h
      (try simp only [Act.put, pk0, pk1, pk2])
      refine wpAnyH_take (i := 17) (oi := ?_) (v := undef) ?in17 (by kernel_rfl) ?fn17 ?rn17 ?Qn17 ?yn17 (by assumption) ?tn17
      case in17 => (simp only [lk0, lk1, lk2]; rfl)
      case fn17 | rn17 => kernel_rfl
      case yn17 => exact Or.inr ⟨by rfl, rfl⟩
      case Qn17 => exact fun _ _ _ h => h
      (try simp only [Act.put, pk0, pk1, pk2])
      refine zt [18, 19, 20] ?_
      iterate 3 (refine zt1 (fun _ _ d _ _ h => by cases d <;> exact h) (by simp only [lk0, lk1, lk2]; rfl) (by kernel_rfl) (by assumption) (by rfl) (fun wS hSw => by (try dsimp only at hSw); go_simp; (try with_reducible rfl)) ?_; (try simp only [Act.put, pk0, pk1, pk2]))
      refine zt0 ?_
      refine wpAnyH_done (by kernel_rfl) ?_ _
      go_wp2
      refine bodyPost_ret (v := .tuple #[.int .i64 i, .bool false]) (by simp [results, Tryz.results68, go_sem]) rfl ⟨rfl, bel_step HBR.out HD9.out⟩
end Num
end Go.Proofs.YtpbfaffheigjcaaGreat
/-
  The reference: a transfer.
-/
namespace Go.Proofs.YtpbfaffheigjcaaGreat
open Go.RowKit
namespace Num
open Ints
set_option linter.unusedSimpArgs false
set_option linter.unusedVariables false
theorem no_any (z : Int) (w : World) : Calls Tryz.prog 30 #[.int .i64 z] w fun e w' => e = .returned (.tuple #[.agg #[.int .i64 0, .int .i64 0, .float .f64 0, .string ⟨#[]⟩, .slice none 0 0], .agg #[.int .i64 0, .int .i64 0, .float .f64 0, .string ⟨#[]⟩, .slice none 0 0], .int .i64 z]) ∧ Below w.heap.size w w' := by
  go_enter Tryz.func30, Tryz.ntmps30
  go_wp2
  exact bodyPost_ret (v := .tuple #[.agg #[.int .i64 0, .int .i64 0, .float .f64 0, .string ⟨#[]⟩, .slice none 0 0], .agg #[.int .i64 0, .int .i64 0, .float .f64 0, .string ⟨#[]⟩, .slice none 0 0], .int .i64 z]) (by simp [results, Tryz.results30, go_sem]) rfl ⟨rfl, bel_alloc (bel_alloc (Below.refl _ _) _) _⟩
/-- What the reference's ledger tells: a state, an answer, an error; the old accounts are whatever R says. -/
def RLQ (W : World) (R : Value → VT 2 → Prop) (p : Option Addr) (l c : Nat) (L : List (VT 2)) (T : VT 3) (U : VT 1) (z : Int) (e : Ending) (w' : World) : Prop := ∃ t u, e = .returned (.tuple #[t, u, .int .i64 z]) ∧ Below W.heap.size W w' ∧ (∀ y, RepL y R p l c L → (∀ v T, R v T → Rep y 2 v T) → Stay W.heap.size w' y → Rep y 3 t T) ∧ ∀ y : World, Rep y 1 u U
/-- An account's cells, its name, what it has. -/
def AccC (w : World) (b off a : Nat) (k : ByteArray) (F : Nat) (g o cg : Nat) : Prop := w.cell? ⟨b, off + a * 5, none⟩ = some (.int .i64 4) ∧ w.cell? ⟨b, off + a * 5 + 1, none⟩ = some (.int .i64 0) ∧ w.cell? ⟨b, off + a * 5 + 2, none⟩ = some (.float .f64 0) ∧ w.cell? ⟨b, off + a * 5 + 3, none⟩ = some (.string ⟨#[]⟩) ∧ w.cell? ⟨b, off + a * 5 + 4, none⟩ = some (.slice (some ⟨g, o, none⟩) 2 cg) ∧ w.cell? ⟨g, o + 3, none⟩ = some (.string k) ∧ w.cell? ⟨g, o + 5 + 2, none⟩ = some (.float .f64 F)
theorem accC_of {w : World} {b off l c a : Nat} {R : Value → VT 2 → Prop} {ES : List (ByteArray × VT 1)} (h : RepL w R (some ⟨b, off, none⟩) l c (ES.map (pairE 0))) (hR : ∀ v T, R v T → Rep w 2 v T) (ha : a < ES.length) {k : ByteArray} {F : Nat} (he : ES[a] = (k, floT 0 F)) : ∃ g o cg, AccC w b off a k F g o cg := by
  obtain ⟨g, o, cg, c0, c1, c2, c3, c4, hr⟩ := acc_at (n := 0) (repL_mono hR h) ha
  rw [he] at hr
  obtain ⟨g', o', cg', hv, ⟨_, _, _, n3, _⟩, _, K, I, F', Z, q, m, d, ⟨x0, x1, x2, x3, x4⟩, hr'⟩ := pair_mem hr
  injection hv with hv
  simp only [Array.mk.injEq, List.cons.injEq, and_true] at hv
  obtain ⟨_, _, _, _, e5⟩ := hv
  injection e5 with e5
  injection e5 with e5
  injection e5 with e6 e7
  subst e6 e7
  obtain ⟨_, _, e8, _⟩ := leaf_is (show Rep w 1 _ (2, 0, F, ⟨#[]⟩, []) from hr')
  rw [e8] at x2
  exact ⟨g, o, cg, c0, c1, c2, c3, c4, n3, x2⟩
theorem float_is {x : Nat} (h : Flo.canon x = x) (w : World) : Calls Tryz.prog 20 #[.float .f64 x] w fun e w' => e = .returned (.agg #[.int .i64 2, .int .i64 0, .float .f64 x, .string ⟨#[]⟩, .slice none 0 0]) ∧ Below w.heap.size w w' := by
  have h1 := float_ref_any x w
  rw [h] at h1
  exact h1
theorem amount_is8 {K3 I3 : Int} {F3 : Nat} {v : Value} (h : amtV K3 I3 F3 = v) (S3 : ByteArray) (q3 : Option Addr) (m3 d3 : Nat) (w : World) : Calls Tryz.prog 71 #[.agg #[.int .i64 K3, .int .i64 I3, .float .f64 F3, .string S3, .slice q3 m3 d3]] w fun e w' => e = .returned v ∧ Below w.heap.size w w' := by
  have h1 := amount_any K3 I3 F3 S3 q3 m3 d3 w
  rw [h] at h1
  exact h1
theorem ro_rep3 {ge1 ge2 : Nat} {R : Value → VT 2 → Prop} {k1 k2 : ByteArray} {V1 V2 : VT 1} {y : World} {u0 u1 u2 u3 u4 v0 v1 v2 v3 v4 x0 x1 x2 x3 x4 z0 z1 z2 z3 z4 : Value} (hR : ∀ v T, R v T → Rep y 2 v T)
    (h1 : y.heap[ge1]? = some (.cells #[u0, u1, u2, u3, u4, v0, v1, v2, v3, v4] 27 (0, 0))) (h2 : y.heap[ge2]? = some (.cells #[x0, x1, x2, x3, x4, z0, z1, z2, z3, z4] 27 (0, 0)))
    (hk1 : Rep y 1 (.agg #[u0, u1, u2, u3, u4]) (3, 0, 0, k1, [])) (hv1 : Rep y 1 (.agg #[v0, v1, v2, v3, v4]) V1) (hk2 : Rep y 1 (.agg #[x0, x1, x2, x3, x4]) (3, 0, 0, k2, [])) (hv2 : Rep y 1 (.agg #[z0, z1, z2, z3, z4]) V2) :
    ∀ v T, RO 0 ge2 (RO 0 ge1 R k1 V1) k2 V2 v T → Rep y 2 v T := by
  rintro v T ((h | ⟨rfl, rfl⟩) | ⟨rfl, rfl⟩)
  · exact hR _ _ h
  · exact list_rep (row2_rep h1 hk1 hv1)
  · exact list_rep (row2_rep h2 hk2 hv2)
set_option maxRecDepth 100000 in
set_option maxHeartbeats 8000000 in
theorem rtra_amount (b off l c a d bl ol cl : Nat) (ka kd : ByteArray) (K3 I3 : Int) (F3 : Nat) (S3 : ByteArray) (q3 : Option Addr) (m3 d3 : Nat) (w : World) (n0 : w.cell? ⟨bl, ol + 3, none⟩ = some (.string ka)) (n1 : w.cell? ⟨bl, ol + 5 + 3, none⟩ = some (.string kd)) (v0 : w.cell? ⟨bl, ol + 10, none⟩ = some (.int .i64 K3)) (v1 : w.cell? ⟨bl, ol + 10 + 1, none⟩ = some (.int .i64 I3)) (v2 : w.cell? ⟨bl, ol + 10 + 2, none⟩ = some (.float .f64 F3)) (v3 : w.cell? ⟨bl, ol + 10 + 3, none⟩ = some (.string S3)) (v4 : w.cell? ⟨bl, ol + 10 + 4, none⟩ = some (.slice q3 m3 d3)) (R : Value → VT 2 → Prop) (ES : List (ByteArray × VT 1)) (ha : amtV K3 I3 F3 = .tuple #[.float .f64 0, .bool false]) :
    Calls Tryz.prog 38 #[.agg #[.int .i64 4, .int .i64 0, .float .f64 0, .string ⟨#[]⟩, .slice (some ⟨b, off, none⟩) l c], .string { data := #[116, 114, 97, 110, 115, 102, 101, 114] }, .slice (some ⟨bl, ol, none⟩) 3 cl] w fun e w' => RLQ w R (some ⟨b, off, none⟩) l c (ES.map (pairE 0)) (nilT 2) (nilT 0) 35 e w' := by
  have TR1 := Lib.hid (show (fun z0 : World => ZL z0 w.heap.size (some ⟨b, off, none⟩) l c ∧ Zz z0 (w.heap.size + 1) ∧ Zz z0 (w.heap.size + 1 + 1) ∧ Below w.heap.size w z0) (((w.alloc (.cells #[.int .i64 4, .int .i64 0, .float .f64 0, .string ⟨#[]⟩, .slice (some ⟨b, off, none⟩) l c] 27)).alloc (.cells #[.int .i64 0, .int .i64 0, .float .f64 0, .string ⟨#[]⟩, .slice none 0 0] 27)).alloc (.cells #[.int .i64 0, .int .i64 0, .float .f64 0, .string ⟨#[]⟩, .slice none 0 0] 27)) from ⟨row_alloc_step (row_alloc_step (row_alloc w #[.int .i64 4, .int .i64 0, .float .f64 0, .string ⟨#[]⟩, .slice (some ⟨b, off, none⟩) l c] 27) _) _, (by have h := row_alloc_step (row_alloc (w.alloc (.cells #[.int .i64 4, .int .i64 0, .float .f64 0, .string ⟨#[]⟩, .slice (some ⟨b, off, none⟩) l c] 27)) #[.int .i64 0, .int .i64 0, .float .f64 0, .string ⟨#[]⟩, .slice none 0 0] 27) (.cells #[.int .i64 0, .int .i64 0, .float .f64 0, .string ⟨#[]⟩, .slice none 0 0] 27); simp only [World.size_alloc] at h; exact h), (by have h := row_alloc ((w.alloc (.cells #[.int .i64 4, .int .i64 0, .float .f64 0, .string ⟨#[]⟩, .slice (some ⟨b, off, none⟩) l c] 27)).alloc (.cells #[.int .i64 0, .int .i64 0, .float .f64 0, .string ⟨#[]⟩, .slice none 0 0] 27)) #[.int .i64 0, .int .i64 0, .float .f64 0, .string ⟨#[]⟩, .slice none 0 0] 27; simp only [World.size_alloc] at h; exact h), bel_alloc (bel_alloc (bel_alloc (Below.refl w.heap.size w) _) _) _⟩)
  have hbl : bl < w.heap.size := cell_lt v0
  have HV := Lib.hid (show ∀ W, Below w.heap.size w W → W.cell? ⟨bl, ol + 10, none⟩ = some (.int .i64 K3) ∧ W.cell? ⟨bl, ol + 10 + 1, none⟩ = some (.int .i64 I3) ∧ W.cell? ⟨bl, ol + 10 + 2, none⟩ = some (.float .f64 F3) ∧ W.cell? ⟨bl, ol + 10 + 3, none⟩ = some (.string S3) ∧ W.cell? ⟨bl, ol + 10 + 4, none⟩ = some (.slice q3 m3 d3) from fun W hb => ⟨cell_keep hb v0, cell_keep hb v1, cell_keep hb v2, cell_keep hb v3, cell_keep hb v4⟩)
  have HNN := Lib.hid (show ∀ W, Below w.heap.size w W → W.cell? ⟨bl, ol + 3, none⟩ = some (.string ka) ∧ W.cell? ⟨bl, ol + 5 + 3, none⟩ = some (.string kd) from fun W hb => ⟨cell_keep hb n0, cell_keep hb n1⟩)
  have HA := Lib.hid ha
  clear v0 v1 v2 v3 v4 n0 n1 ha
  obtain ⟨e0, e1, e2, e3, e4⟩ := HV.out _ TR1.out.2.2.2
  go_enter Tryz.func38, Tryz.ntmps38
  clear e0 e1 e2 e3 e4
  obtain ⟨e0, e1, e2, e3, e4⟩ := HV.out _ (Below.refl _ _)
  have ebl : bl < w.heap.size := cell_lt e0
  have ene0 : w.heap.size ≠ bl := by omega
  have ene1 : w.heap.size + 1 ≠ bl := by omega
  have ene2 : w.heap.size + 1 + 1 ≠ bl := by omega
  have elt1 : bl < w.heap.size + 1 := by omega
  have elt2 : bl < w.heap.size + 1 + 1 := by omega
  go_wp2_with fail
  go_at_call 71; refine (amount_is8 HA.out S3 q3 m3 d3 _).mono ?_; rintro e w209 ⟨rfl, hbw209⟩
  have TR2 := Lib.hid (And.intro (row_step TR1.out.1 hbw209) (And.intro (row_step TR1.out.2.1 hbw209) (And.intro (row_step TR1.out.2.2.1 hbw209) (bel_step TR1.out.2.2.2 hbw209))))
  clear TR1
  clear hbw209
  clear e0 e1 e2 e3 e4
  go_wp2_with fail
  go_at_call 30; refine (no_any _ _).mono ?_; rintro e w210 ⟨rfl, hbw210⟩
  have TR3 := Lib.hid (And.intro (row_step TR2.out.1 hbw210) (And.intro (row_step TR2.out.2.1 hbw210) (And.intro (row_step TR2.out.2.2.1 hbw210) (bel_step TR2.out.2.2.2 hbw210))))
  clear TR2
  clear hbw210
  have c1_0 := row_cell TR3.out.2.1 0
  have c1_1 := row_cell TR3.out.2.1 1
  have c1_2 := row_cell TR3.out.2.1 2
  have c1_3 := row_cell TR3.out.2.1 3
  have c1_4 := row_cell TR3.out.2.1 4
  have c1f := row_frz TR3.out.2.1
  have c1l := row_lt TR3.out.2.1
  have c2_0 := row_cell TR3.out.2.2.1 0
  have c2_1 := row_cell TR3.out.2.2.1 1
  have c2_2 := row_cell TR3.out.2.2.1 2
  have c2_3 := row_cell TR3.out.2.2.1 3
  have c2_4 := row_cell TR3.out.2.2.1 4
  have c2f := row_frz TR3.out.2.2.1
  have c2l := row_lt TR3.out.2.2.1
  go_wp2
  refine bodyPost_ret (v := .tuple #[.agg #[.int .i64 0, .int .i64 0, .float .f64 0, .string ⟨#[]⟩, .slice none 0 0], .agg #[.int .i64 0, .int .i64 0, .float .f64 0, .string ⟨#[]⟩, .slice none 0 0], .int .i64 35]) (by simp [results, Tryz.results38, go_sem, World.cell?_setCell_same, World.cell?_setCell_other, c1_0, c1_1, c1_2, c1_3, c1_4, c2_0, c2_1, c2_2, c2_3, c2_4]) rfl ⟨_, _, rfl, ?_, fun y _ _ _ => repS_rep _ _ _ (nil_rep 2 (fun _ => True) y), fun y => repS_rep _ _ _ (nil_rep 0 (fun _ => True) y)⟩
  exact set5_below (g := w.heap.size + 1 + 1) (o := 0) (set5_below (g := w.heap.size + 1) (o := 0) TR3.out.2.2.2 (by omega) _ _ _ _ _) (by omega) _ _ _ _ _
set_option maxRecDepth 100000 in
set_option maxHeartbeats 8000000 in
theorem rtra_funds (b off l c a d bl ol cl : Nat) (ka kd : ByteArray) (K3 I3 : Int) (F3 : Nat) (S3 : ByteArray) (q3 : Option Addr) (m3 d3 : Nat) (w : World) (n0 : w.cell? ⟨bl, ol + 3, none⟩ = some (.string ka)) (n1 : w.cell? ⟨bl, ol + 5 + 3, none⟩ = some (.string kd)) (v0 : w.cell? ⟨bl, ol + 10, none⟩ = some (.int .i64 K3)) (v1 : w.cell? ⟨bl, ol + 10 + 1, none⟩ = some (.int .i64 I3)) (v2 : w.cell? ⟨bl, ol + 10 + 2, none⟩ = some (.float .f64 F3)) (v3 : w.cell? ⟨bl, ol + 10 + 3, none⟩ = some (.string S3)) (v4 : w.cell? ⟨bl, ol + 10 + 4, none⟩ = some (.slice q3 m3 d3)) (R : Value → VT 2 → Prop) (ES : List (ByteArray × VT 1)) (G FA : Nat) (ha : amtV K3 I3 F3 = .tuple #[.float .f64 G, .bool true]) (hal : a < l) (hl : l ≤ 32) (HE : Hid (EntsL w (some ⟨b, off, none⟩) l (ES.map (·.1)))) (hs : Spot (ES.map (·.1)) ka a true) (gc oc cgc : Nat) (hc : AccC w b off a ka FA gc oc cgc) (hsd : Spot (ES.map (·.1)) kd d true) (hls : (FloatKind.f64.format.order FA G == some .lt) = true) :
    Calls Tryz.prog 38 #[.agg #[.int .i64 4, .int .i64 0, .float .f64 0, .string ⟨#[]⟩, .slice (some ⟨b, off, none⟩) l c], .string { data := #[116, 114, 97, 110, 115, 102, 101, 114] }, .slice (some ⟨bl, ol, none⟩) 3 cl] w fun e w' => RLQ w R (some ⟨b, off, none⟩) l c (ES.map (pairE 0)) (nilT 2) (nilT 0) 36 e w' := by
  have TR1 := Lib.hid (show (fun z0 : World => ZL z0 w.heap.size (some ⟨b, off, none⟩) l c ∧ Zz z0 (w.heap.size + 1) ∧ Zz z0 (w.heap.size + 1 + 1) ∧ Below w.heap.size w z0) (((w.alloc (.cells #[.int .i64 4, .int .i64 0, .float .f64 0, .string ⟨#[]⟩, .slice (some ⟨b, off, none⟩) l c] 27)).alloc (.cells #[.int .i64 0, .int .i64 0, .float .f64 0, .string ⟨#[]⟩, .slice none 0 0] 27)).alloc (.cells #[.int .i64 0, .int .i64 0, .float .f64 0, .string ⟨#[]⟩, .slice none 0 0] 27)) from ⟨row_alloc_step (row_alloc_step (row_alloc w #[.int .i64 4, .int .i64 0, .float .f64 0, .string ⟨#[]⟩, .slice (some ⟨b, off, none⟩) l c] 27) _) _, (by have h := row_alloc_step (row_alloc (w.alloc (.cells #[.int .i64 4, .int .i64 0, .float .f64 0, .string ⟨#[]⟩, .slice (some ⟨b, off, none⟩) l c] 27)) #[.int .i64 0, .int .i64 0, .float .f64 0, .string ⟨#[]⟩, .slice none 0 0] 27) (.cells #[.int .i64 0, .int .i64 0, .float .f64 0, .string ⟨#[]⟩, .slice none 0 0] 27); simp only [World.size_alloc] at h; exact h), (by have h := row_alloc ((w.alloc (.cells #[.int .i64 4, .int .i64 0, .float .f64 0, .string ⟨#[]⟩, .slice (some ⟨b, off, none⟩) l c] 27)).alloc (.cells #[.int .i64 0, .int .i64 0, .float .f64 0, .string ⟨#[]⟩, .slice none 0 0] 27)) #[.int .i64 0, .int .i64 0, .float .f64 0, .string ⟨#[]⟩, .slice none 0 0] 27; simp only [World.size_alloc] at h; exact h), bel_alloc (bel_alloc (bel_alloc (Below.refl w.heap.size w) _) _) _⟩)
  have hbl : bl < w.heap.size := cell_lt v0
  have HV := Lib.hid (show ∀ W, Below w.heap.size w W → W.cell? ⟨bl, ol + 10, none⟩ = some (.int .i64 K3) ∧ W.cell? ⟨bl, ol + 10 + 1, none⟩ = some (.int .i64 I3) ∧ W.cell? ⟨bl, ol + 10 + 2, none⟩ = some (.float .f64 F3) ∧ W.cell? ⟨bl, ol + 10 + 3, none⟩ = some (.string S3) ∧ W.cell? ⟨bl, ol + 10 + 4, none⟩ = some (.slice q3 m3 d3) from fun W hb => ⟨cell_keep hb v0, cell_keep hb v1, cell_keep hb v2, cell_keep hb v3, cell_keep hb v4⟩)
  have HNN := Lib.hid (show ∀ W, Below w.heap.size w W → W.cell? ⟨bl, ol + 3, none⟩ = some (.string ka) ∧ W.cell? ⟨bl, ol + 5 + 3, none⟩ = some (.string kd) from fun W hb => ⟨cell_keep hb n0, cell_keep hb n1⟩)
  have HA := Lib.hid ha
  clear v0 v1 v2 v3 v4 n0 n1 ha
  have HS := Lib.hid hs
  have HC := Lib.hid hc
  clear hs hc
  have Hc0 := Lib.hid HC.out.1
  have Hc1 := Lib.hid HC.out.2.1
  have Hc2 := Lib.hid HC.out.2.2.1
  have Hc3 := Lib.hid HC.out.2.2.2.1
  have Hc4 := Lib.hid HC.out.2.2.2.2.1
  have Hc5 := Lib.hid HC.out.2.2.2.2.2.1
  have Hc6 := Lib.hid HC.out.2.2.2.2.2.2
  have hbc := cell_lt HC.out.1
  have hgc := cell_lt HC.out.2.2.2.2.2.1
  have hc1 : (0 : Int) ≤ (a : Int) := by omega
  have hc2 : (a : Int) < (l : Int) := by omega
  have HSD := Lib.hid hsd
  clear hsd
  obtain ⟨e0, e1, e2, e3, e4⟩ := HV.out _ TR1.out.2.2.2
  go_enter Tryz.func38, Tryz.ntmps38
  clear e0 e1 e2 e3 e4
  obtain ⟨e0, e1, e2, e3, e4⟩ := HV.out _ (Below.refl _ _)
  have ebl : bl < w.heap.size := cell_lt e0
  have ene0 : w.heap.size ≠ bl := by omega
  have ene1 : w.heap.size + 1 ≠ bl := by omega
  have ene2 : w.heap.size + 1 + 1 ≠ bl := by omega
  have elt1 : bl < w.heap.size + 1 := by omega
  have elt2 : bl < w.heap.size + 1 + 1 := by omega
  go_wp2_with fail
  go_at_call 71; refine (amount_is8 HA.out S3 q3 m3 d3 _).mono ?_; rintro e w211 ⟨rfl, hbw211⟩
  have TR2 := Lib.hid (And.intro (row_step TR1.out.1 hbw211) (And.intro (row_step TR1.out.2.1 hbw211) (And.intro (row_step TR1.out.2.2.1 hbw211) (bel_step TR1.out.2.2.2 hbw211))))
  clear TR1
  clear hbw211
  clear e0 e1 e2 e3 e4
  have en := (HNN.out _ TR2.out.2.2.2).1
  have enl := cell_lt en
  have c0_0 := row_cell TR2.out.1 0
  have c0_1 := row_cell TR2.out.1 1
  have c0_2 := row_cell TR2.out.1 2
  have c0_3 := row_cell TR2.out.1 3
  have c0_4 := row_cell TR2.out.1 4
  have c0f := row_frz TR2.out.1
  have c0l := row_lt TR2.out.1
  go_wp2_with fail
  go_at_call 68; refine (at_any 4 0 0 _ _ l c a (ES.map (·.1)) ka true _ (entsL_step HE.out TR2.out.2.2.2) HS.out).mono ?_; rintro e w212 ⟨rfl, hbw212⟩
  have TR3 := Lib.hid (And.intro (row_step TR2.out.1 hbw212) (And.intro (row_step TR2.out.2.1 hbw212) (And.intro (row_step TR2.out.2.2.1 hbw212) (bel_step TR2.out.2.2.2 hbw212))))
  clear TR2
  clear hbw212
  clear en enl
  clear c0_0 c0_1 c0_2 c0_3 c0_4 c0f c0l
  have c0_0 := row_cell TR3.out.1 0
  have c0_1 := row_cell TR3.out.1 1
  have c0_2 := row_cell TR3.out.1 2
  have c0_3 := row_cell TR3.out.1 3
  have c0_4 := row_cell TR3.out.1 4
  have c0f := row_frz TR3.out.1
  have c0l := row_lt TR3.out.1
  have ec4 := cell_keep TR3.out.2.2.2 Hc4.out
  have ec6 := cell_keep TR3.out.2.2.2 Hc6.out
  have ecl := cell_lt ec4
  have ecm := cell_lt ec6
  have en := (HNN.out _ TR3.out.2.2.2).2
  have enl := cell_lt en
  go_wp2_with fail
  go_at_call 68; refine (at_any 4 0 0 _ _ l c d (ES.map (·.1)) kd true _ (entsL_step HE.out TR3.out.2.2.2) HSD.out).mono ?_; rintro e w213 ⟨rfl, hbw213⟩
  have TR4 := Lib.hid (And.intro (row_step TR3.out.1 hbw213) (And.intro (row_step TR3.out.2.1 hbw213) (And.intro (row_step TR3.out.2.2.1 hbw213) (bel_step TR3.out.2.2.2 hbw213))))
  clear TR3
  clear hbw213
  clear en enl
  clear c0_0 c0_1 c0_2 c0_3 c0_4 c0f c0l
  clear ec4 ec6 ecl ecm
  go_wp2_with fail
  go_at_call 30; refine (no_any _ _).mono ?_; rintro e w214 ⟨rfl, hbw214⟩
  have TR5 := Lib.hid (And.intro (row_step TR4.out.1 hbw214) (And.intro (row_step TR4.out.2.1 hbw214) (And.intro (row_step TR4.out.2.2.1 hbw214) (bel_step TR4.out.2.2.2 hbw214))))
  clear TR4
  clear hbw214
  have c1_0 := row_cell TR5.out.2.1 0
  have c1_1 := row_cell TR5.out.2.1 1
  have c1_2 := row_cell TR5.out.2.1 2
  have c1_3 := row_cell TR5.out.2.1 3
  have c1_4 := row_cell TR5.out.2.1 4
  have c1f := row_frz TR5.out.2.1
  have c1l := row_lt TR5.out.2.1
  have c2_0 := row_cell TR5.out.2.2.1 0
  have c2_1 := row_cell TR5.out.2.2.1 1
  have c2_2 := row_cell TR5.out.2.2.1 2
  have c2_3 := row_cell TR5.out.2.2.1 3
  have c2_4 := row_cell TR5.out.2.2.1 4
  have c2f := row_frz TR5.out.2.2.1
  have c2l := row_lt TR5.out.2.2.1
  go_wp2
  refine bodyPost_ret (v := .tuple #[.agg #[.int .i64 0, .int .i64 0, .float .f64 0, .string ⟨#[]⟩, .slice none 0 0], .agg #[.int .i64 0, .int .i64 0, .float .f64 0, .string ⟨#[]⟩, .slice none 0 0], .int .i64 36]) (by simp [results, Tryz.results38, go_sem, World.cell?_setCell_same, World.cell?_setCell_other, c1_0, c1_1, c1_2, c1_3, c1_4, c2_0, c2_1, c2_2, c2_3, c2_4]) rfl ⟨_, _, rfl, ?_, fun y _ _ _ => repS_rep _ _ _ (nil_rep 2 (fun _ => True) y), fun y => repS_rep _ _ _ (nil_rep 0 (fun _ => True) y)⟩
  exact set5_below (g := w.heap.size + 1 + 1) (o := 0) (set5_below (g := w.heap.size + 1) (o := 0) TR5.out.2.2.2 (by omega) _ _ _ _ _) (by omega) _ _ _ _ _
set_option maxRecDepth 100000 in
set_option maxHeartbeats 8000000 in
theorem rtra_same (b off l c a d bl ol cl : Nat) (ka kd : ByteArray) (K3 I3 : Int) (F3 : Nat) (S3 : ByteArray) (q3 : Option Addr) (m3 d3 : Nat) (w : World) (n0 : w.cell? ⟨bl, ol + 3, none⟩ = some (.string ka)) (n1 : w.cell? ⟨bl, ol + 5 + 3, none⟩ = some (.string kd)) (v0 : w.cell? ⟨bl, ol + 10, none⟩ = some (.int .i64 K3)) (v1 : w.cell? ⟨bl, ol + 10 + 1, none⟩ = some (.int .i64 I3)) (v2 : w.cell? ⟨bl, ol + 10 + 2, none⟩ = some (.float .f64 F3)) (v3 : w.cell? ⟨bl, ol + 10 + 3, none⟩ = some (.string S3)) (v4 : w.cell? ⟨bl, ol + 10 + 4, none⟩ = some (.slice q3 m3 d3)) (R : Value → VT 2 → Prop) (ES : List (ByteArray × VT 1)) (G FA : Nat) (ha : amtV K3 I3 F3 = .tuple #[.float .f64 G, .bool true]) (hal : a < l) (hl : l ≤ 32) (HE : Hid (EntsL w (some ⟨b, off, none⟩) l (ES.map (·.1)))) (hs : Spot (ES.map (·.1)) ka a true) (gc oc cgc : Nat) (hc : AccC w b off a ka FA gc oc cgc) (hsd : Spot (ES.map (·.1)) kd d true) (hls : (FloatKind.f64.format.order FA G == some .lt) = false) (hkk : (ka.toList == kd.toList) = true) (hFA : FA < 2 ^ 64) (HCN : Hid (Flo.canon FA = FA)) :
    Calls Tryz.prog 38 #[.agg #[.int .i64 4, .int .i64 0, .float .f64 0, .string ⟨#[]⟩, .slice (some ⟨b, off, none⟩) l c], .string { data := #[116, 114, 97, 110, 115, 102, 101, 114] }, .slice (some ⟨bl, ol, none⟩) 3 cl] w fun e w' => RLQ w R (some ⟨b, off, none⟩) l c (ES.map (pairE 0)) (tableT 0 ES) (floT 0 FA) 0 e w' := by
  have TR1 := Lib.hid (show (fun z0 : World => ZL z0 w.heap.size (some ⟨b, off, none⟩) l c ∧ Zz z0 (w.heap.size + 1) ∧ Zz z0 (w.heap.size + 1 + 1) ∧ Below w.heap.size w z0) (((w.alloc (.cells #[.int .i64 4, .int .i64 0, .float .f64 0, .string ⟨#[]⟩, .slice (some ⟨b, off, none⟩) l c] 27)).alloc (.cells #[.int .i64 0, .int .i64 0, .float .f64 0, .string ⟨#[]⟩, .slice none 0 0] 27)).alloc (.cells #[.int .i64 0, .int .i64 0, .float .f64 0, .string ⟨#[]⟩, .slice none 0 0] 27)) from ⟨row_alloc_step (row_alloc_step (row_alloc w #[.int .i64 4, .int .i64 0, .float .f64 0, .string ⟨#[]⟩, .slice (some ⟨b, off, none⟩) l c] 27) _) _, (by have h := row_alloc_step (row_alloc (w.alloc (.cells #[.int .i64 4, .int .i64 0, .float .f64 0, .string ⟨#[]⟩, .slice (some ⟨b, off, none⟩) l c] 27)) #[.int .i64 0, .int .i64 0, .float .f64 0, .string ⟨#[]⟩, .slice none 0 0] 27) (.cells #[.int .i64 0, .int .i64 0, .float .f64 0, .string ⟨#[]⟩, .slice none 0 0] 27); simp only [World.size_alloc] at h; exact h), (by have h := row_alloc ((w.alloc (.cells #[.int .i64 4, .int .i64 0, .float .f64 0, .string ⟨#[]⟩, .slice (some ⟨b, off, none⟩) l c] 27)).alloc (.cells #[.int .i64 0, .int .i64 0, .float .f64 0, .string ⟨#[]⟩, .slice none 0 0] 27)) #[.int .i64 0, .int .i64 0, .float .f64 0, .string ⟨#[]⟩, .slice none 0 0] 27; simp only [World.size_alloc] at h; exact h), bel_alloc (bel_alloc (bel_alloc (Below.refl w.heap.size w) _) _) _⟩)
  have hbl : bl < w.heap.size := cell_lt v0
  have HV := Lib.hid (show ∀ W, Below w.heap.size w W → W.cell? ⟨bl, ol + 10, none⟩ = some (.int .i64 K3) ∧ W.cell? ⟨bl, ol + 10 + 1, none⟩ = some (.int .i64 I3) ∧ W.cell? ⟨bl, ol + 10 + 2, none⟩ = some (.float .f64 F3) ∧ W.cell? ⟨bl, ol + 10 + 3, none⟩ = some (.string S3) ∧ W.cell? ⟨bl, ol + 10 + 4, none⟩ = some (.slice q3 m3 d3) from fun W hb => ⟨cell_keep hb v0, cell_keep hb v1, cell_keep hb v2, cell_keep hb v3, cell_keep hb v4⟩)
  have HNN := Lib.hid (show ∀ W, Below w.heap.size w W → W.cell? ⟨bl, ol + 3, none⟩ = some (.string ka) ∧ W.cell? ⟨bl, ol + 5 + 3, none⟩ = some (.string kd) from fun W hb => ⟨cell_keep hb n0, cell_keep hb n1⟩)
  have HA := Lib.hid ha
  clear v0 v1 v2 v3 v4 n0 n1 ha
  have HS := Lib.hid hs
  have HC := Lib.hid hc
  clear hs hc
  have Hc0 := Lib.hid HC.out.1
  have Hc1 := Lib.hid HC.out.2.1
  have Hc2 := Lib.hid HC.out.2.2.1
  have Hc3 := Lib.hid HC.out.2.2.2.1
  have Hc4 := Lib.hid HC.out.2.2.2.2.1
  have Hc5 := Lib.hid HC.out.2.2.2.2.2.1
  have Hc6 := Lib.hid HC.out.2.2.2.2.2.2
  have hbc := cell_lt HC.out.1
  have hgc := cell_lt HC.out.2.2.2.2.2.1
  have hc1 : (0 : Int) ≤ (a : Int) := by omega
  have hc2 : (a : Int) < (l : Int) := by omega
  have HSD := Lib.hid hsd
  clear hsd
  obtain ⟨e0, e1, e2, e3, e4⟩ := HV.out _ TR1.out.2.2.2
  go_enter Tryz.func38, Tryz.ntmps38
  clear e0 e1 e2 e3 e4
  obtain ⟨e0, e1, e2, e3, e4⟩ := HV.out _ (Below.refl _ _)
  have ebl : bl < w.heap.size := cell_lt e0
  have ene0 : w.heap.size ≠ bl := by omega
  have ene1 : w.heap.size + 1 ≠ bl := by omega
  have ene2 : w.heap.size + 1 + 1 ≠ bl := by omega
  have elt1 : bl < w.heap.size + 1 := by omega
  have elt2 : bl < w.heap.size + 1 + 1 := by omega
  go_wp2_with fail
  go_at_call 71; refine (amount_is8 HA.out S3 q3 m3 d3 _).mono ?_; rintro e w215 ⟨rfl, hbw215⟩
  have TR2 := Lib.hid (And.intro (row_step TR1.out.1 hbw215) (And.intro (row_step TR1.out.2.1 hbw215) (And.intro (row_step TR1.out.2.2.1 hbw215) (bel_step TR1.out.2.2.2 hbw215))))
  clear TR1
  clear hbw215
  clear e0 e1 e2 e3 e4
  have en := (HNN.out _ TR2.out.2.2.2).1
  have enl := cell_lt en
  have c0_0 := row_cell TR2.out.1 0
  have c0_1 := row_cell TR2.out.1 1
  have c0_2 := row_cell TR2.out.1 2
  have c0_3 := row_cell TR2.out.1 3
  have c0_4 := row_cell TR2.out.1 4
  have c0f := row_frz TR2.out.1
  have c0l := row_lt TR2.out.1
  go_wp2_with fail
  go_at_call 68; refine (at_any 4 0 0 _ _ l c a (ES.map (·.1)) ka true _ (entsL_step HE.out TR2.out.2.2.2) HS.out).mono ?_; rintro e w216 ⟨rfl, hbw216⟩
  have TR3 := Lib.hid (And.intro (row_step TR2.out.1 hbw216) (And.intro (row_step TR2.out.2.1 hbw216) (And.intro (row_step TR2.out.2.2.1 hbw216) (bel_step TR2.out.2.2.2 hbw216))))
  clear TR2
  clear hbw216
  clear en enl
  clear c0_0 c0_1 c0_2 c0_3 c0_4 c0f c0l
  have c0_0 := row_cell TR3.out.1 0
  have c0_1 := row_cell TR3.out.1 1
  have c0_2 := row_cell TR3.out.1 2
  have c0_3 := row_cell TR3.out.1 3
  have c0_4 := row_cell TR3.out.1 4
  have c0f := row_frz TR3.out.1
  have c0l := row_lt TR3.out.1
  have ec4 := cell_keep TR3.out.2.2.2 Hc4.out
  have ec6 := cell_keep TR3.out.2.2.2 Hc6.out
  have ecl := cell_lt ec4
  have ecm := cell_lt ec6
  have en := (HNN.out _ TR3.out.2.2.2).2
  have enl := cell_lt en
  go_wp2_with fail
  go_at_call 68; refine (at_any 4 0 0 _ _ l c d (ES.map (·.1)) kd true _ (entsL_step HE.out TR3.out.2.2.2) HSD.out).mono ?_; rintro e w217 ⟨rfl, hbw217⟩
  have TR4 := Lib.hid (And.intro (row_step TR3.out.1 hbw217) (And.intro (row_step TR3.out.2.1 hbw217) (And.intro (row_step TR3.out.2.2.1 hbw217) (bel_step TR3.out.2.2.2 hbw217))))
  clear TR3
  clear hbw217
  clear en enl
  clear c0_0 c0_1 c0_2 c0_3 c0_4 c0f c0l
  clear ec4 ec6 ecl ecm
  go_upto_region 48 with fail
  have TR5 := Lib.hid (And.intro (row_step TR4.out.1 (show Below w217.heap.size w217 w217.drew from Below.drew (Below.refl _ _))) (And.intro (row_step TR4.out.2.1 (show Below w217.heap.size w217 w217.drew from Below.drew (Below.refl _ _))) (And.intro (row_step TR4.out.2.2.1 (show Below w217.heap.size w217 w217.drew from Below.drew (Below.refl _ _))) (bel_step TR4.out.2.2.2 (show Below w217.heap.size w217 w217.drew from Below.drew (Below.refl _ _))))))
  clear TR4
  refine wp_region_held_drew (S := (fun z => z.cell? ⟨w.heap.size, 0, none⟩ = some (.int .i64 4) ∧ z.cell? ⟨w.heap.size, 1, none⟩ = some (.int .i64 0) ∧ z.cell? ⟨w.heap.size, 2, none⟩ = some (.float .f64 0) ∧ z.cell? ⟨w.heap.size, 3, none⟩ = some (.string ⟨#[]⟩) ∧ z.cell? ⟨w.heap.size, 4, none⟩ = some (.slice (some ⟨b, off, none⟩) l c))) (by kernel_rfl) ?_ (fun hHeld => ?_)
  · exact ⟨row_cell TR5.out.1 0, row_cell TR5.out.1 1, row_cell TR5.out.1 2, row_cell TR5.out.1 3, row_cell TR5.out.1 4⟩
  refine zt [0, 1] ?_
  iterate 2 (refine zt1 (fun _ _ d _ _ h => by cases d <;> exact h) (by simp only [lk0, lk1, lk2]; rfl) (by kernel_rfl) (by assumption) (by rfl) (fun wS hSw => by (try dsimp only at hSw); go_simp; (try with_reducible rfl)) ?_; (try simp only [Act.put, pk0, pk1, pk2]))
  refine zt0 ?_
  refine zr1 2 (by kernel_rfl) (by simp only [lk0, lk1, lk2]; rfl) (fun K hK => ?_)
  go_simp
  go_at_call 20; refine (float_is HCN.out _).mono ?_; rintro e w221 ⟨rfl, hbw221⟩
  have TR6 := Lib.hid (And.intro (row_step TR5.out.1 hbw221) (And.intro (row_step TR5.out.2.1 hbw221) (And.intro (row_step TR5.out.2.2.1 hbw221) (bel_step TR5.out.2.2.2 hbw221))))
  clear TR5
  clear hbw221
  go_wp2_with fail
  refine hK.out _ _ ?hsv220_ (fun hHeld => ?_)
  case hsv220_ => exact ⟨row_cell TR6.out.1 0, row_cell TR6.out.1 1, row_cell TR6.out.1 2, row_cell TR6.out.1 3, row_cell TR6.out.1 4⟩
  clear hK K
  (try simp only [Act.put, pk0, pk1, pk2])
  refine zr1 3 (by kernel_rfl) (by simp only [lk0, lk1, lk2]; rfl) (fun K hK => ?_)
  have b30 := row_cell TR6.out.2.1 0; have b31 := row_cell TR6.out.2.1 1; have b32 := row_cell TR6.out.2.1 2; have b33 := row_cell TR6.out.2.1 3; have b34 := row_cell TR6.out.2.1 4; have b3f := row_frz TR6.out.2.1; have b3l := row_lt TR6.out.2.1; go_simp
  have TR7 := Lib.hid (show (fun z0 : World => ZL z0 w.heap.size (some ⟨b, off, none⟩) l c ∧ ZL z0 (w.heap.size + 1) (some ⟨b, off, none⟩) l c ∧ Zz z0 (w.heap.size + 1 + 1) ∧ Below w.heap.size w z0) (((((w221.setCell ⟨w.heap.size + 1, 0, none⟩ (.int .i64 4)).setCell ⟨w.heap.size + 1, 1, none⟩ (.int .i64 0)).setCell ⟨w.heap.size + 1, 2, none⟩ (.float .f64 0)).setCell ⟨w.heap.size + 1, 3, none⟩ (.string ⟨#[]⟩)).setCell ⟨w.heap.size + 1, 4, none⟩ (.slice (some ⟨b, off, none⟩) l c)) from ⟨s5o TR6.out.1 (by omega), s5r TR6.out.2.1, s5o TR6.out.2.2.1 (by omega), s5b TR6.out.2.2.2 (by omega)⟩)
  clear TR6
  clear b30 b31 b32 b33 b34 b3f b3l
  go_wp2_with fail
  refine hK.out _ _ ?hsv222_ (fun hHeld => ?_)
  case hsv222_ => exact ⟨row_cell TR7.out.1 0, row_cell TR7.out.1 1, row_cell TR7.out.1 2, row_cell TR7.out.1 3, row_cell TR7.out.1 4⟩
  clear hK K
  (try simp only [Act.put, pk0, pk1, pk2])
  refine zr1 4 (by kernel_rfl) (by simp only [lk0, lk1, lk2]; rfl) (fun K hK => ?_)
  have b30 := row_cell TR7.out.2.2.1 0; have b31 := row_cell TR7.out.2.2.1 1; have b32 := row_cell TR7.out.2.2.1 2; have b33 := row_cell TR7.out.2.2.1 3; have b34 := row_cell TR7.out.2.2.1 4; have b3f := row_frz TR7.out.2.2.1; have b3l := row_lt TR7.out.2.2.1; go_simp
  have TR8 := Lib.hid (show (fun z0 : World => ZL z0 w.heap.size (some ⟨b, off, none⟩) l c ∧ ZL z0 (w.heap.size + 1) (some ⟨b, off, none⟩) l c ∧ ZF z0 (w.heap.size + 1 + 1) FA ∧ Below w.heap.size w z0) ((((((((((w221.setCell ⟨w.heap.size + 1, 0, none⟩ (.int .i64 4)).setCell ⟨w.heap.size + 1, 1, none⟩ (.int .i64 0)).setCell ⟨w.heap.size + 1, 2, none⟩ (.float .f64 0)).setCell ⟨w.heap.size + 1, 3, none⟩ (.string ⟨#[]⟩)).setCell ⟨w.heap.size + 1, 4, none⟩ (.slice (some ⟨b, off, none⟩) l c)).setCell ⟨w.heap.size + 1 + 1, 0, none⟩ (.int .i64 2)).setCell ⟨w.heap.size + 1 + 1, 1, none⟩ (.int .i64 0)).setCell ⟨w.heap.size + 1 + 1, 2, none⟩ (.float .f64 FA)).setCell ⟨w.heap.size + 1 + 1, 3, none⟩ (.string ⟨#[]⟩)).setCell ⟨w.heap.size + 1 + 1, 4, none⟩ (.slice none 0 0)) from ⟨s5o TR7.out.1 (by omega), s5o TR7.out.2.1 (by omega), s5r TR7.out.2.2.1, s5b TR7.out.2.2.2 (by omega)⟩)
  clear TR7
  clear b30 b31 b32 b33 b34 b3f b3l
  go_wp2_with fail
  refine hK.out _ _ ?hsv223_ (fun hHeld => ?_)
  case hsv223_ => exact ⟨row_cell TR8.out.1 0, row_cell TR8.out.1 1, row_cell TR8.out.1 2, row_cell TR8.out.1 3, row_cell TR8.out.1 4⟩
  clear hK K
  (try simp only [Act.put, pk0, pk1, pk2])
  refine zt [5] ?_
  refine zt1 (fun _ _ d _ _ h => by cases d <;> exact h) (by simp only [lk0, lk1, lk2]; rfl) (by kernel_rfl) (by assumption) (by rfl) (fun wS hSw => by (try dsimp only at hSw); go_simp; (try with_reducible rfl)) ?_; (try simp only [Act.put, pk0, pk1, pk2])
  refine zt0 ?_
  refine wpAnyH_done (by kernel_rfl) ?_ _
  revert TR8
  generalize ((((((((((w221.setCell ⟨w.heap.size + 1, 0, none⟩ (.int .i64 4)).setCell ⟨w.heap.size + 1, 1, none⟩ (.int .i64 0)).setCell ⟨w.heap.size + 1, 2, none⟩ (.float .f64 0)).setCell ⟨w.heap.size + 1, 3, none⟩ (.string ⟨#[]⟩)).setCell ⟨w.heap.size + 1, 4, none⟩ (.slice (some ⟨b, off, none⟩) l c)).setCell ⟨w.heap.size + 1 + 1, 0, none⟩ (.int .i64 2)).setCell ⟨w.heap.size + 1 + 1, 1, none⟩ (.int .i64 0)).setCell ⟨w.heap.size + 1 + 1, 2, none⟩ (.float .f64 FA)).setCell ⟨w.heap.size + 1 + 1, 3, none⟩ (.string ⟨#[]⟩)).setCell ⟨w.heap.size + 1 + 1, 4, none⟩ (.slice none 0 0)) = Wf
  intro TR8
  have c1_0 := row_cell TR8.out.2.1 0
  have c1_1 := row_cell TR8.out.2.1 1
  have c1_2 := row_cell TR8.out.2.1 2
  have c1_3 := row_cell TR8.out.2.1 3
  have c1_4 := row_cell TR8.out.2.1 4
  have c1f := row_frz TR8.out.2.1
  have c1l := row_lt TR8.out.2.1
  have c2_0 := row_cell TR8.out.2.2.1 0
  have c2_1 := row_cell TR8.out.2.2.1 1
  have c2_2 := row_cell TR8.out.2.2.1 2
  have c2_3 := row_cell TR8.out.2.2.1 3
  have c2_4 := row_cell TR8.out.2.2.1 4
  have c2f := row_frz TR8.out.2.2.1
  have c2l := row_lt TR8.out.2.2.1
  go_wp2
  refine bodyPost_ret (v := .tuple #[.agg #[.int .i64 4, .int .i64 0, .float .f64 0, .string ⟨#[]⟩, .slice (some ⟨b, off, none⟩) l c], .agg #[.int .i64 2, .int .i64 0, .float .f64 FA, .string ⟨#[]⟩, .slice none 0 0], .int .i64 0]) (by simp [results, Tryz.results38, go_sem, c1_0, c1_1, c1_2, c1_3, c1_4, c2_0, c2_1, c2_2, c2_3, c2_4]) rfl ⟨_, _, rfl, TR8.out.2.2.2, fun y hLy hy _ => list_rep (repL_mono hy hLy), fun y => flo_repn 0 y hFA⟩
end Num
end Go.Proofs.YtpbfaffheigjcaaGreat
/-
  The reference: find, Check of a ledger's arguments.
-/
namespace Go.Proofs.YtpbfaffheigjcaaGreat
open Go.RowKit
namespace Num
open Ints
set_option linter.unusedSimpArgs false
set_option linter.unusedVariables false
theorem ba_beq8 (a b : ByteArray) : (a == b) = (a.data == b.data) := by
  cases a
  cases b
  rfl
theorem ba_eq8 (x k : ByteArray) : (x.toList == k.toList) = (k == x) := by
  rw [ByteArray.toList_eq, ByteArray.toList_eq, ba_beq8]
  by_cases h : k = x
  · subst h; simp
  · have e1 : (x.data.toList == k.data.toList) = false := by rw [beq_eq_false_iff_ne]; exact fun e => h (WideShapes.bytes_inj e.symm)
    have e2 : (k.data == x.data) = false := by rw [beq_eq_false_iff_ne]; exact fun e => h (WideShapes.bytes_inj (by rw [e]))
    rw [e1, e2]
theorem fd_drop {k : ByteArray} {M : List (ByteArray × Bool × ByteArray)} {i : Nat} (h : i < M.length) : findM k (M.drop i) = if (M[i].1.toList == k.toList) = true then some M[i] else findM k (M.drop (i + 1)) := by
  rw [List.drop_eq_getElem_cons h, ba_eq8]
  rfl
def findV (o : Option (ByteArray × Bool × ByteArray)) : Value := match o with
  | some x => .tuple #[.agg #[.string x.1, .string x.2.2, .bool x.2.1], .bool true]
  | none => .tuple #[.agg #[.string ⟨#[]⟩, .string ⟨#[]⟩, .bool false], .bool false]
set_option maxRecDepth 100000 in
set_option maxHeartbeats 4000000 in
theorem rfind_any (c k : ByteArray) (w : World) (hM7 : (metas c).length ≤ 7) : Calls Tryz.prog 63 #[.string c, .string k] w fun e w' => e = .returned (findV (findM k (metas c))) ∧ Below w.heap.size w w' := by
  obtain ⟨M, hM⟩ : ∃ M, metas c = M := ⟨_, rfl⟩
  have HRM := Lib.hid (fun w => rmeth_any c w)
  rw [hM] at HRM hM7 ⊢
  clear hM
  have HA := Lib.hid ((Below.refl w.heap.size w).alloc (Nat.le_refl _) (.cells #[.string ⟨#[]⟩, .string ⟨#[]⟩, .bool false] 74))
  have HR := Lib.hid (row_alloc w #[.string ⟨#[]⟩, .string ⟨#[]⟩, .bool false] 74)
  go_enter Tryz.func63, Tryz.ntmps63
  go_wp2_with fail
  go_at_call 47; refine (HRM.out _).mono ?_; rintro e w1 ⟨v, rfl, hm, hb1⟩
  have HB1 := Lib.hid (bel_step HA.out hb1)
  have HR1 := Lib.hid (row_step HR.out hb1)
  clear hb1
  clear HA HR HRM
  obtain ⟨p, rfl, hp⟩ := hm
  have HP := Lib.hid hp
  clear hp
  go_wp2
  go_loopw [7] (fun i wr => ∃ j : Nat, j ≤ M.length ∧ i = .int .i64 j ∧ wr = w1 ∧ Hid (findM k (M.drop j) = findM k M)) (fun i _ => M.length - (intOf i).toNat)
  case atStart => exact ⟨0, by omega, rfl, rfl, Lib.hid rfl⟩
  case round =>
    obtain ⟨j, hj, rfl, rfl, HK⟩ := hrel
    by_cases hlt : j < M.length
    · obtain ⟨b, hpb, hi⟩ := HP.out (by omega)
      subst hpb
      obtain ⟨c0, c1, c2⟩ := hi j hlt
      have HD := Lib.hid (fd_drop (k := k) hlt)
      obtain ⟨x, hx⟩ : ∃ x, M[j] = x := ⟨_, rfl⟩
      rw [hx] at c0 c1 c2 HD
      obtain ⟨s, wr, t⟩ := x
      have hj0 : (0 : Int) ≤ (j : Int) := by omega
      have hjl : (j : Int) < (M.length : Int) := by omega
      clear hi hx
      have r0 := HR1.out
      have hlt1 := row_lt r0
      have d0 := row_cell r0 0
      have d1 := row_cell r0 1
      have d2 := row_cell r0 2
      simp only [lk0, lk1, lk2] at d0 d1 d2
      have df := fun o => row_frz r0 o
      clear r0
      cases he : (s.toList == k.toList)
      · have HN := Lib.hid (show findM k (M.drop (j + 1)) = findM k M by rw [← HK.out, HD.out, he]; rfl)
        clear HD HK
        go_wp2
        go_roundw
        case rel => exact ⟨j + 1, by omega, by go_num, by first | rfl | trivial, HN⟩
        case measure => simp [intOf]; omega
      · have HN := Lib.hid (show findM k M = some (s, wr, t) by rw [← HK.out, HD.out, he]; rfl)
        clear HD HK
        go_wp2
        refine bodyPost_ret (v := .tuple #[.agg #[.string s, .string t, .bool wr], .bool true]) (by simp [results, Tryz.results63, go_sem, World.cell?_setCell_same, World.cell?_setCell_other, d0, d1, d2]) rfl ⟨by rw [HN.out]; rfl, ?_⟩
        exact ((HB1.out.setCell (p := ⟨w.heap.size, 0, none⟩) (Nat.le_refl _) _).setCell (p := ⟨w.heap.size, 1, none⟩) (Nat.le_refl _) _).setCell (p := ⟨w.heap.size, 2, none⟩) (Nat.le_refl _) _
    · have HN := Lib.hid (show findM k M = none by rw [← HK.out, List.drop_of_length_le (by omega)]; rfl)
      clear HK
      have r0 := HR1.out
      have hlt1 := row_lt r0
      have d0 := row_cell r0 0
      have d1 := row_cell r0 1
      have d2 := row_cell r0 2
      simp only [lk0, lk1, lk2] at d0 d1 d2
      have df := fun o => row_frz r0 o
      clear r0
      go_wp2
      refine bodyPost_ret (v := .tuple #[.agg #[.string ⟨#[]⟩, .string ⟨#[]⟩, .bool false], .bool false]) (by simp [results, Tryz.results63, go_sem, World.cell?_setCell_same, World.cell?_setCell_other, d0, d1, d2]) rfl ⟨by rw [HN.out]; rfl, ?_⟩
      exact ((HB1.out.setCell (p := ⟨w.heap.size, 0, none⟩) (Nat.le_refl _) _).setCell (p := ⟨w.heap.size, 1, none⟩) (Nat.le_refl _) _).setCell (p := ⟨w.heap.size, 2, none⟩) (Nat.le_refl _) _
/-- The first error that the reference's Check finds in a list; whether its kinds are held. -/
def rchkL (n : Nat) : List (VT (n + 1)) → Int
  | [] => 0
  | X :: r => if rcheckT (n + 1) X = 0 then rchkL n r else rcheckT (n + 1) X
theorem rchk_drop {n : Nat} {L : List (VT (n + 1))} {i : Nat} (h : i < L.length) : rchkL n (L.drop i) = if rcheckT (n + 1) L[i] = 0 then rchkL n (L.drop (i + 1)) else rcheckT (n + 1) L[i] := by
  rw [List.drop_eq_getElem_cons h]
  rfl
def tkB (c : UInt8) (n : Nat) (X : VT (n + 1)) : Bool := if c = 110 then nmV X.1 X.2.2.2.1 else isNum X.1
def rtkL (n : Nat) : List UInt8 → List (VT (n + 1)) → Bool
  | c :: t, X :: r => tkB c n X && rtkL n t r
  | _, _ => true
def rchk8 (n : Nat) (t : List UInt8) (L : List (VT (n + 1))) : Int := if rchkL n L = 0 then (if rtkL n t L = true then 0 else 31) else rchkL n L
set_option maxRecDepth 100000 in
set_option maxHeartbeats 4000000 in
theorem rcheck_nnh (n : Nat) (m : ByteArray) (nm : ByteArray) (ws : Bool) (hx : findM m msL = some (nm, ws, { data := #[110, 110, 35] })) (p : Option Addr) (c : Nat) (L : List (VT (n + 1))) (hl : L.length = 3) (w : World) (hr : RepL w (Rep w (n + 1)) p 3 c L) :
    Calls Tryz.prog 31 #[.string { data := #[108, 101, 100, 103, 101, 114] }, .string m, .slice p 3 c] w fun e w' => e = .returned (.int .i64 (rchk8 n [110, 110, 35] L)) ∧ Below w.heap.size w w' := by
  have HFD := Lib.hid (show ∀ W, Calls Tryz.prog 63 #[.string { data := #[108, 101, 100, 103, 101, 114] }, .string m] W fun e w' => e = .returned (.tuple #[.agg #[.string nm, .string { data := #[110, 110, 35] }, .bool ws], .bool true]) ∧ Below W.heap.size W w' from fun W => by
    have h := rfind_any { data := #[108, 101, 100, 103, 101, 114] } m W (by decide)
    rw [show metas { data := #[108, 101, 100, 103, 101, 114] } = msL by rfl, hx] at h
    exact h)
  have HR := Lib.hid hr
  have HLN := Lib.hid hl
  clear hx hr hl
  go_enter Tryz.func31, Tryz.ntmps31
  go_wp2_with fail
  go_at_call 63; refine (HFD.out _).mono ?_; rintro e w1 ⟨rfl, hb1⟩
  have hal := bel_alloc (Below.refl w1.heap.size w1) (.cells #[.string nm, .string { data := #[110, 110, 35] }, .bool ws] 74)
  have HB1 := Lib.hid (bel_step hb1 hal)
  clear hb1 hal HFD
  go_wp2
  generalize w1.alloc (.cells #[.string nm, .string { data := #[110, 110, 35] }, .bool ws] 74) = wa at HB1 ⊢
  go_loopw [10] (fun iv wr => ∃ i : Nat, i ≤ 3 ∧ iv = .int .i64 i ∧ Below w.heap.size w wr ∧ Hid (rchkL n (L.drop i) = rchkL n L)) (fun iv _ => 3 - (intOf iv).toNat)
  case atStart => exact ⟨0, by omega, rfl, HB1.out, Lib.hid rfl⟩
  case round =>
    obtain ⟨i, hi, rfl, hB, HK⟩ := hrel
    have HB := Lib.hid hB
    by_cases hlt : i < 3
    · obtain ⟨b, off, hpb, hit⟩ := HR.out.2.2.2 (by omega)
      subst hpb
      have hil : i < L.length := by have := HLN.out; omega
      obtain ⟨v0, v1, v2, v3, v4, c0, c1, c2, c3, c4, hre⟩ := hit i hil
      have e0 := cell_keep hB c0; have e1 := cell_keep hB c1; have e2 := cell_keep hB c2; have e3 := cell_keep hB c3; have e4 := cell_keep hB c4
      have HRE := Lib.hid (rcheck_any (n + 1) _ _ wr (rep_keep hB _ _ _ hre))
      have HD := Lib.hid (rchk_drop (n := n) hil)
      obtain ⟨X, hX⟩ : ∃ X, rcheckT (n + 1) L[i] = X := ⟨_, rfl⟩
      rw [hX] at HRE HD
      have hi0 : (0 : Int) ≤ (i : Int) := by omega
      have hil2 : (i : Int) < 3 := by omega
      clear c0 c1 c2 c3 c4 hit hre hX hB
      go_wp2_with fail
      go_at_call 44; refine HRE.out.mono ?_; rintro e w2 ⟨rfl, hb2⟩
      have HB2 := Lib.hid (bel_step HB.out hb2)
      clear hb2 e0 e1 e2 e3 e4 HRE
      by_cases hX0 : X = 0
      · have hx1 : (X != 0) = false := by rw [hX0]; rfl
        have HN := Lib.hid (show rchkL n (L.drop (i + 1)) = rchkL n L by rw [← HK.out, HD.out, if_pos hX0])
        clear hX0 HD HK
        go_wp2
        go_roundw
        case rel => exact ⟨i + 1, by omega, by go_num, HB2.out, HN⟩
        case measure => simp [intOf]; omega
      · have hx1 : (X != 0) = true := bne_iff_ne.2 hX0
        have hXL : rchkL n L = X := by rw [← HK.out, HD.out, if_neg hX0]
        have HN := Lib.hid (show X = rchk8 n [110, 110, 35] L by unfold rchk8; rw [hXL, if_neg hX0])
        clear hX0 HD HK hXL
        go_wp2
        go_ret
        exact ⟨by rw [← HN.out]; rfl, HB2.out⟩
    · have HIN := Lib.hid (show i = 3 by omega)
      have hnl : ¬ ((i : Int) < 3) := by omega
      have HC0 := Lib.hid (show rchkL n L = 0 by rw [← HK.out, List.drop_of_length_le (by have := HLN.out; have := HIN.out; omega)]; rfl)
      clear HK hB
      go_wp2
      go_loopw [12] (fun iv wr => ∃ i : Nat, i ≤ 3 ∧ iv = .int .i64 i ∧ Below w.heap.size w wr ∧ Hid (rtkL n ([110, 110, 35].drop i) (L.drop i) = rtkL n [110, 110, 35] L)) (fun iv _ => 3 - (intOf iv).toNat)
      case atStart => exact ⟨0, by omega, rfl, HB.out, Lib.hid rfl⟩
      case round =>
        obtain ⟨i, hi, rfl, hB, HK⟩ := hrel
        by_cases hlt : i < 3
        · obtain ⟨b, off, hpb, hit⟩ := HR.out.2.2.2 (by omega)
          subst hpb
          have hil : i < L.length := by have := HLN.out; omega
          obtain ⟨v0, v1, v2, v3, v4, c0, c1, c2, c3, c4, hre⟩ := hit i hil
          obtain ⟨K3, I3, F3, S3, q3, m3, d3, hv, _⟩ := rep_shape hre
          injection hv with hv
          simp only [Array.mk.injEq, List.cons.injEq, and_true] at hv
          obtain ⟨rfl, rfl, rfl, rfl, rfl⟩ := hv
          have hkk : L[i].1 = K3 ∧ L[i].2.2.2.1 = S3 := by
            obtain ⟨p', l', c', hv', _⟩ := hre
            injection hv' with hv'
            simp only [Array.mk.injEq, List.cons.injEq, and_true] at hv'
            obtain ⟨e1, _, _, e4, _⟩ := hv'
            injection e1 with _ e1
            injection e4 with e4
            exact ⟨e1.symm, e4.symm⟩
          have HC0' := Lib.hid c0; have HC1 := Lib.hid c1; have HC2 := Lib.hid c2; have HC3 := Lib.hid c3; have HC4 := Lib.hid c4
          have hbw := cell_lt c0
          have TRb := Lib.hid hB
          have hdr : L.drop i = L[i] :: L.drop (i + 1) := List.drop_eq_getElem_cons hil
          have HDR := Lib.hid hdr
          have HKK := Lib.hid hkk
          clear hit hre hdr hkk c0 c1 c2 c3 c4 hB
          have hic : i = 0 ∨ i = 1 ∨ i = 2 := by omega
          rcases hic with rfl | rfl | rfl
          · have HKX := Lib.hid (show ((nmV K3 S3) && rtkL n ([110, 110, 35].drop 1) (L.drop (0 + 1))) = rtkL n [110, 110, 35] L by rw [← HK.out, HDR.out]; show _ = (tkB 110 n _ && _); unfold tkB; rw [if_pos rfl]; rw [HKK.out.1, HKK.out.2]; rfl)
            have y0 := HC0'.out
            have y1 := HC1.out
            have y2 := HC2.out
            have y3 := HC3.out
            have y4 := HC4.out
            simp only [Nat.zero_mul, Nat.one_mul, Nat.add_zero] at y0 y1 y2 y3 y4
            clear HK HDR HKK
            obtain ⟨R, hR⟩ : ∃ R, (nmV K3 S3) = R := ⟨_, rfl⟩
            rw [hR] at HKX
            have HTK := Lib.hid (show ∀ W, Calls Tryz.prog 64 #[.int .u8 110, .agg #[.int .i64 K3, .int .i64 I3, .float .f64 F3, .string S3, .slice q3 m3 d3]] W fun e w' => e = .returned (.bool R) ∧ Below W.heap.size W w' from fun W => by rw [← hR]; exact rtakes_n K3 I3 F3 S3 q3 m3 d3 W)
            clear hR
            have HDc := Lib.hid (And.intro y0 (And.intro y1 (And.intro y2 (And.intro y3 y4))))
            clear y0 y1 y2 y3 y4
            go_upto_region 21 with fail
            have TV01 := Lib.hid (show Below w.heap.size w wr.drew from bel_step TRb.out (show Below wr.heap.size wr wr.drew from Below.drew (Below.refl _ _)))
            clear TRb
            refine wp_region_held_drew (S := (fun z => z.cell? ⟨b, off, none⟩ = some (.int .i64 K3) ∧ z.cell? ⟨b, off + 1, none⟩ = some (.int .i64 I3) ∧ z.cell? ⟨b, off + 2, none⟩ = some (.float .f64 F3) ∧ z.cell? ⟨b, off + 3, none⟩ = some (.string S3) ∧ z.cell? ⟨b, off + 4, none⟩ = some (.slice q3 m3 d3))) (by kernel_rfl) ?_ (fun hHeld => ?_)
            · exact ⟨cell_keep TV01.out HDc.out.1, cell_keep TV01.out HDc.out.2.1, cell_keep TV01.out HDc.out.2.2.1, cell_keep TV01.out HDc.out.2.2.2.1, cell_keep TV01.out HDc.out.2.2.2.2⟩
            refine zt [0, 1, 2, 3, 4, 5, 6] ?_
            iterate 7 (refine zt1 (fun _ _ d _ _ h => by cases d <;> exact h) (by simp only [lk0, lk1, lk2]; rfl) (by kernel_rfl) (by assumption) (by rfl) (fun wS hSw => by (try dsimp only at hSw); go_simp; (try with_reducible rfl)) ?_; (try simp only [Act.put, pk0, pk1, pk2]))
            refine zt0 ?_
            refine zr1 7 (by kernel_rfl) (by simp only [lk0, lk1, lk2]; rfl) (fun K hK => ?_)
            go_simp
            go_at_call 64; refine (HTK.out _).mono ?_; rintro e w9 ⟨rfl, hbw9⟩
            have TV02 := Lib.hid (show Below w.heap.size w w9 from bel_step TV01.out hbw9)
            clear TV01
            clear hbw9
            go_wp2_with fail
            refine hK.out _ _ ?hsv8_ (fun hHeld => ?_)
            case hsv8_ => exact ⟨cell_keep TV02.out HDc.out.1, cell_keep TV02.out HDc.out.2.1, cell_keep TV02.out HDc.out.2.2.1, cell_keep TV02.out HDc.out.2.2.2.1, cell_keep TV02.out HDc.out.2.2.2.2⟩
            clear hK K
            (try simp only [Act.put, pk0, pk1, pk2])
            refine zt [8] ?_
            refine zt1 (fun _ _ d _ _ h => by cases d <;> exact h) (by simp only [lk0, lk1, lk2]; rfl) (by kernel_rfl) (by assumption) (by rfl) (fun wS hSw => by (try dsimp only at hSw); go_simp; (try with_reducible rfl)) ?_; (try simp only [Act.put, pk0, pk1, pk2])
            refine zt0 ?_
            refine wpAnyH_done (by kernel_rfl) ?_ _
            cases R
            · have HN := Lib.hid (show rchk8 n [110, 110, 35] L = 31 by unfold rchk8; rw [HC0.out, if_pos rfl, ← HKX.out]; rfl)
              go_wp2
              go_ret
              exact ⟨by rw [HN.out]; rfl, TV02.out⟩
            · have HN := Lib.hid (show rtkL n ([110, 110, 35].drop (0 + 1)) (L.drop (0 + 1)) = rtkL n [110, 110, 35] L by rw [← HKX.out, Bool.true_and])
              go_wp2
              go_roundw
              case rel => exact ⟨0 + 1, by omega, by go_num, TV02.out, HN⟩
              case measure => simp [intOf]
          · have HKX := Lib.hid (show ((nmV K3 S3) && rtkL n ([110, 110, 35].drop 2) (L.drop (1 + 1))) = rtkL n [110, 110, 35] L by rw [← HK.out, HDR.out]; show _ = (tkB 110 n _ && _); unfold tkB; rw [if_pos rfl]; rw [HKK.out.1, HKK.out.2]; rfl)
            have y0 := HC0'.out
            have y1 := HC1.out
            have y2 := HC2.out
            have y3 := HC3.out
            have y4 := HC4.out
            simp only [Nat.zero_mul, Nat.one_mul, Nat.add_zero] at y0 y1 y2 y3 y4
            clear HK HDR HKK
            obtain ⟨R, hR⟩ : ∃ R, (nmV K3 S3) = R := ⟨_, rfl⟩
            rw [hR] at HKX
            have HTK := Lib.hid (show ∀ W, Calls Tryz.prog 64 #[.int .u8 110, .agg #[.int .i64 K3, .int .i64 I3, .float .f64 F3, .string S3, .slice q3 m3 d3]] W fun e w' => e = .returned (.bool R) ∧ Below W.heap.size W w' from fun W => by rw [← hR]; exact rtakes_n K3 I3 F3 S3 q3 m3 d3 W)
            clear hR
            have HDc := Lib.hid (And.intro y0 (And.intro y1 (And.intro y2 (And.intro y3 y4))))
            clear y0 y1 y2 y3 y4
            go_upto_region 21 with fail
            have TV11 := Lib.hid (show Below w.heap.size w wr.drew from bel_step TRb.out (show Below wr.heap.size wr wr.drew from Below.drew (Below.refl _ _)))
            clear TRb
            refine wp_region_held_drew (S := (fun z => z.cell? ⟨b, off + 5, none⟩ = some (.int .i64 K3) ∧ z.cell? ⟨b, off + 5 + 1, none⟩ = some (.int .i64 I3) ∧ z.cell? ⟨b, off + 5 + 2, none⟩ = some (.float .f64 F3) ∧ z.cell? ⟨b, off + 5 + 3, none⟩ = some (.string S3) ∧ z.cell? ⟨b, off + 5 + 4, none⟩ = some (.slice q3 m3 d3))) (by kernel_rfl) ?_ (fun hHeld => ?_)
            · exact ⟨cell_keep TV11.out HDc.out.1, cell_keep TV11.out HDc.out.2.1, cell_keep TV11.out HDc.out.2.2.1, cell_keep TV11.out HDc.out.2.2.2.1, cell_keep TV11.out HDc.out.2.2.2.2⟩
            refine zt [0, 1, 2, 3, 4, 5, 6] ?_
            iterate 7 (refine zt1 (fun _ _ d _ _ h => by cases d <;> exact h) (by simp only [lk0, lk1, lk2]; rfl) (by kernel_rfl) (by assumption) (by rfl) (fun wS hSw => by (try dsimp only at hSw); go_simp; (try with_reducible rfl)) ?_; (try simp only [Act.put, pk0, pk1, pk2]))
            refine zt0 ?_
            refine zr1 7 (by kernel_rfl) (by simp only [lk0, lk1, lk2]; rfl) (fun K hK => ?_)
            go_simp
            go_at_call 64; refine (HTK.out _).mono ?_; rintro e w19 ⟨rfl, hbw19⟩
            have TV12 := Lib.hid (show Below w.heap.size w w19 from bel_step TV11.out hbw19)
            clear TV11
            clear hbw19
            go_wp2_with fail
            refine hK.out _ _ ?hsv18_ (fun hHeld => ?_)
            case hsv18_ => exact ⟨cell_keep TV12.out HDc.out.1, cell_keep TV12.out HDc.out.2.1, cell_keep TV12.out HDc.out.2.2.1, cell_keep TV12.out HDc.out.2.2.2.1, cell_keep TV12.out HDc.out.2.2.2.2⟩
            clear hK K
            (try simp only [Act.put, pk0, pk1, pk2])
            refine zt [8] ?_
            refine zt1 (fun _ _ d _ _ h => by cases d <;> exact h) (by simp only [lk0, lk1, lk2]; rfl) (by kernel_rfl) (by assumption) (by rfl) (fun wS hSw => by (try dsimp only at hSw); go_simp; (try with_reducible rfl)) ?_; (try simp only [Act.put, pk0, pk1, pk2])
            refine zt0 ?_
            refine wpAnyH_done (by kernel_rfl) ?_ _
            cases R
            · have HN := Lib.hid (show rchk8 n [110, 110, 35] L = 31 by unfold rchk8; rw [HC0.out, if_pos rfl, ← HKX.out]; rfl)
              go_wp2
              go_ret
              exact ⟨by rw [HN.out]; rfl, TV12.out⟩
            · have HN := Lib.hid (show rtkL n ([110, 110, 35].drop (1 + 1)) (L.drop (1 + 1)) = rtkL n [110, 110, 35] L by rw [← HKX.out, Bool.true_and])
              go_wp2
              go_roundw
              case rel => exact ⟨1 + 1, by omega, by go_num, TV12.out, HN⟩
              case measure => simp [intOf]
          · have HKX := Lib.hid (show ((isNum K3) && rtkL n ([110, 110, 35].drop 3) (L.drop (2 + 1))) = rtkL n [110, 110, 35] L by rw [← HK.out, HDR.out]; show _ = (tkB 35 n _ && _); unfold tkB; rw [if_neg (by decide)]; rw [HKK.out.1]; rfl)
            have y0 := HC0'.out
            have y1 := HC1.out
            have y2 := HC2.out
            have y3 := HC3.out
            have y4 := HC4.out
            simp only [show 2 * 5 = 10 from rfl, Nat.zero_mul, Nat.one_mul, Nat.add_zero] at y0 y1 y2 y3 y4
            clear HK HDR HKK
            obtain ⟨R, hR⟩ : ∃ R, (isNum K3) = R := ⟨_, rfl⟩
            rw [hR] at HKX
            have HTK := Lib.hid (show ∀ W, Calls Tryz.prog 64 #[.int .u8 35, .agg #[.int .i64 K3, .int .i64 I3, .float .f64 F3, .string S3, .slice q3 m3 d3]] W fun e w' => e = .returned (.bool R) ∧ Below W.heap.size W w' from fun W => by rw [← hR]; exact rtakes_num K3 I3 F3 S3 q3 m3 d3 W)
            clear hR
            have HDc := Lib.hid (And.intro y0 (And.intro y1 (And.intro y2 (And.intro y3 y4))))
            clear y0 y1 y2 y3 y4
            go_upto_region 21 with fail
            have TV21 := Lib.hid (show Below w.heap.size w wr.drew from bel_step TRb.out (show Below wr.heap.size wr wr.drew from Below.drew (Below.refl _ _)))
            clear TRb
            refine wp_region_held_drew (S := (fun z => z.cell? ⟨b, off + 10, none⟩ = some (.int .i64 K3) ∧ z.cell? ⟨b, off + 10 + 1, none⟩ = some (.int .i64 I3) ∧ z.cell? ⟨b, off + 10 + 2, none⟩ = some (.float .f64 F3) ∧ z.cell? ⟨b, off + 10 + 3, none⟩ = some (.string S3) ∧ z.cell? ⟨b, off + 10 + 4, none⟩ = some (.slice q3 m3 d3))) (by kernel_rfl) ?_ (fun hHeld => ?_)
            · exact ⟨cell_keep TV21.out HDc.out.1, cell_keep TV21.out HDc.out.2.1, cell_keep TV21.out HDc.out.2.2.1, cell_keep TV21.out HDc.out.2.2.2.1, cell_keep TV21.out HDc.out.2.2.2.2⟩
            refine zt [0, 1, 2, 3, 4, 5, 6] ?_
            iterate 7 (refine zt1 (fun _ _ d _ _ h => by cases d <;> exact h) (by simp only [lk0, lk1, lk2]; rfl) (by kernel_rfl) (by assumption) (by rfl) (fun wS hSw => by (try dsimp only at hSw); go_simp; (try with_reducible rfl)) ?_; (try simp only [Act.put, pk0, pk1, pk2]))
            refine zt0 ?_
            refine zr1 7 (by kernel_rfl) (by simp only [lk0, lk1, lk2]; rfl) (fun K hK => ?_)
            go_simp
            go_at_call 64; refine (HTK.out _).mono ?_; rintro e w29 ⟨rfl, hbw29⟩
            have TV22 := Lib.hid (show Below w.heap.size w w29 from bel_step TV21.out hbw29)
            clear TV21
            clear hbw29
            go_wp2_with fail
            refine hK.out _ _ ?hsv28_ (fun hHeld => ?_)
            case hsv28_ => exact ⟨cell_keep TV22.out HDc.out.1, cell_keep TV22.out HDc.out.2.1, cell_keep TV22.out HDc.out.2.2.1, cell_keep TV22.out HDc.out.2.2.2.1, cell_keep TV22.out HDc.out.2.2.2.2⟩
            clear hK K
            (try simp only [Act.put, pk0, pk1, pk2])
            refine zt [8] ?_
            refine zt1 (fun _ _ d _ _ h => by cases d <;> exact h) (by simp only [lk0, lk1, lk2]; rfl) (by kernel_rfl) (by assumption) (by rfl) (fun wS hSw => by (try dsimp only at hSw); go_simp; (try with_reducible rfl)) ?_; (try simp only [Act.put, pk0, pk1, pk2])
            refine zt0 ?_
            refine wpAnyH_done (by kernel_rfl) ?_ _
            cases R
            · have HN := Lib.hid (show rchk8 n [110, 110, 35] L = 31 by unfold rchk8; rw [HC0.out, if_pos rfl, ← HKX.out]; rfl)
              go_wp2
              go_ret
              exact ⟨by rw [HN.out]; rfl, TV22.out⟩
            · have HN := Lib.hid (show rtkL n ([110, 110, 35].drop (2 + 1)) (L.drop (2 + 1)) = rtkL n [110, 110, 35] L by rw [← HKX.out, Bool.true_and])
              go_wp2
              go_roundw
              case rel => exact ⟨2 + 1, by omega, by go_num, TV22.out, HN⟩
              case measure => simp [intOf]
        · obtain rfl : i = 3 := by omega
          have HN := Lib.hid (show rchk8 n [110, 110, 35] L = 0 by unfold rchk8; rw [HC0.out, if_pos rfl, ← HK.out, List.drop_of_length_le (by have := HLN.out; omega : L.length ≤ 3)]; rfl)
          go_wp2
          go_ret
          exact ⟨by rw [HN.out]; rfl, hB⟩
end Num
end Go.Proofs.YtpbfaffheigjcaaGreat
/-
  LedgerAmounts: floats above nothing, Ints as floats, a holding that is given: plain.
-/
namespace Go.Proofs.YtpbfaffheigjcaaGreat
open Go.RowKit
namespace Num
open Ints
set_option linter.unusedSimpArgs false
set_option linter.unusedVariables false
/-- What stands to nothing as above it, or as alike. -/
theorem order_zero {F : Nat} (hF : F < 2 ^ 64) : (FloatKind.f64.format.order F 0 = some .gt → F ≤ 9218868437227405312) ∧ (FloatKind.f64.format.order F 0 = some .eq → F = 0 ∨ F = 9223372036854775808) := by
  obtain ⟨h1, h2, h3, h4, h5⟩ := dbl_facts
  have key : FloatKind.f64.format.order F 0 = (Ieee.double.read F).order (.number false 0 (-1074)) := by rw [← read_zero]; rfl
  rw [key]
  have e0 : ∀ p : Int, Ieee.signed false 0 (-1074 - min p (-1074)).toNat = 0 := fun p => by rw [signed_pos, Nat.zero_shiftLeft]; rfl
  have hcmp : ∀ (s : Bool) (m : Nat) (p : Int) (o : Ordering), (Ieee.Datum.number s m p).order (.number false 0 (-1074)) = some o → compare (Ieee.signed s m (p - min p (-1074)).toNat) 0 = o := fun s m p o h => by
    have h' : compare (Ieee.signed s m (p - min p (-1074)).toNat) (Ieee.signed false 0 (-1074 - min p (-1074)).toNat) = o := Option.some.inj h
    rw [e0] at h'
    exact h'
  have hgt : ∀ (s : Bool) (m : Nat) (p : Int), (Ieee.Datum.number s m p).order (.number false 0 (-1074)) = some .gt → s = false := fun s m p h => by
    have h' := hcmp s m p _ h
    cases s
    · rfl
    · exfalso
      rw [signed_neg] at h'
      generalize m <<< (p - min p (-1074)).toNat = t at h'
      rcases Nat.eq_zero_or_pos t with ht | ht
      · rw [cmp_eq (by omega)] at h'; cases h'
      · rw [cmp_lt (by omega)] at h'; cases h'
  have heq : ∀ (s : Bool) (m : Nat) (p : Int), (Ieee.Datum.number s m p).order (.number false 0 (-1074)) = some .eq → m = 0 := fun s m p h => by
    have h' := hcmp s m p _ h
    have hs : ∀ t : Nat, m <<< (p - min p (-1074)).toNat = t → t = 0 → m = 0 := fun t ht h0 => by
      rw [Nat.shiftLeft_eq, h0] at ht
      rcases Nat.mul_eq_zero.1 ht with h1 | h1
      · exact h1
      · exact absurd h1 (Nat.ne_of_gt (Nat.two_pow_pos _))
    cases s
    · rw [signed_pos] at h'
      refine hs _ rfl ?_
      generalize m <<< (p - min p (-1074)).toNat = t at h' ⊢
      rcases Nat.eq_zero_or_pos t with ht | ht
      · exact ht
      · rw [cmp_gt (by omega)] at h'; cases h'
    · rw [signed_neg] at h'
      refine hs _ rfl ?_
      generalize m <<< (p - min p (-1074)).toNat = t at h' ⊢
      rcases Nat.eq_zero_or_pos t with ht | ht
      · exact ht
      · rw [cmp_lt (by omega)] at h'; cases h'
  unfold Ieee.Format.read
  simp only [h1, h2, h3, h4]
  have hneg : (F / 9223372036854775808 % 2 == 1) = false → F < 9223372036854775808 := fun h => by
    rw [beq_eq_false_iff_ne] at h; omega
  by_cases c1 : F % 9223372036854775808 < 4503599627370496
  · rw [if_pos c1]
    exact ⟨fun h => by have := hneg (hgt _ _ _ h); omega, fun h => by have := heq _ _ _ h; omega⟩
  rw [if_neg c1]
  by_cases c2 : F % 9223372036854775808 < 9218868437227405312
  · rw [if_pos c2]
    exact ⟨fun h => by have := hneg (hgt _ _ _ h); omega, fun h => by have := heq _ _ _ h; omega⟩
  rw [if_neg c2]
  by_cases c3 : F % 9223372036854775808 = 9218868437227405312
  · rw [if_pos c3]
    cases hn : (F / 9223372036854775808 % 2 == 1)
    · exact ⟨fun _ => by have := hneg hn; omega, fun h => (by cases h)⟩
    · exact ⟨fun h => (by cases h), fun h => (by cases h)⟩
  · rw [if_neg c3]
    exact ⟨fun h => (by cases h), fun h => (by cases h)⟩
/-- A holding that the law is given, and nothing beside. -/
theorem has_ok {h : Nat} (hh : h < 2 ^ 64) (h1 : FloatKind.f64.format.order h 0 = some .gt ∨ FloatKind.f64.format.order h 0 = some .eq) (h2 : FloatKind.f64.format.order h 9094988921128908188 = some .lt) : Flo.cop .add h 0 < 9218868437227405312 ∧ floatBits .add .f64 h 0 = some (Flo.cop .add h 0) := by
  rcases h1 with h1 | h1
  · have hle := (order_zero hh).1 h1
    have hlt : h < 9218868437227405312 := by
      rcases Nat.lt_or_eq_of_le hle with h3 | h3
      · exact h3
      · exfalso
        rw [h3, show FloatKind.f64.format.order 9218868437227405312 9094988921128908188 = some .gt by decide +kernel] at h2
        cases h2
    rw [Flo.cop_add_comm, cop_nought hlt, Flo.add_comm]
    exact ⟨hlt, nought_add hlt⟩
  · rcases (order_zero hh).2 h1 with rfl | rfl
    · exact ⟨by decide +kernel, by decide +kernel⟩
    · exact ⟨by decide +kernel, by decide +kernel⟩
theorem int_lt (I : Int) : floatOfInt .f64 I < 2 ^ 64 := by
  have := floatOfInt_wf .f64 I
  simpa [Lit.wf] using this
theorem int_ne {I : Int} (h0 : 0 < I) : floatOfInt .f64 I ≠ 0 := by
  obtain ⟨d1, d2, d3, d4, d5⟩ := dbl_facts
  have hd : decide (I < 0) = false := by rw [decide_eq_false_iff_not]; omega
  show Ieee.double.nearest (decide (I < 0)) I.natAbs 0 ≠ 0
  rw [hd]
  generalize hm : I.natAbs = m
  have hm0 : m ≠ 0 := by omega
  unfold Ieee.Format.nearest
  rw [if_neg hm0]
  simp only [d2, d3, d4, d5, word_pos]
  have hlast : (-52 : Int) ≤ max (0 + (m.log2 : Int) - ((52 : Nat) : Int)) (-1074) := by omega
  generalize max (0 + (m.log2 : Int) - ((52 : Nat) : Int)) (-1074) = last at hlast ⊢
  generalize Ieee.Toward.even.cut false (m <<< ((0 : Int) - last).toNat) (last - 0).toNat = kept
  have hz : 1 ≤ (last - (-1074)).toNat := by omega
  have hz2 : 1 * 4503599627370496 ≤ (last - (-1074)).toNat * 4503599627370496 := Nat.mul_le_mul_right _ hz
  intro h
  have h3 : min ((last - (-1074)).toNat * 4503599627370496 + kept) 9218868437227405312 ≥ 1 := Nat.le_min.2 ⟨Nat.le_trans (Nat.le_trans (by decide : 1 ≤ 1 * 4503599627370496) hz2) (Nat.le_add_right _ _), by decide⟩
  exact absurd h (Nat.ne_of_gt h3)
theorem int_gt {I : Int} (h0 : 0 < I) (h1 : I < 9223372036854775808) : FloatKind.f64.format.order (floatOfInt .f64 I) 0 = some .gt := by
  have hF := int_pos h0 h1
  rcases order_pos (Nat.le_of_lt hF) with h | h
  · exact h
  · rcases (order_zero (int_lt I)).2 h with h2 | h2
    · exact absurd h2 (int_ne h0)
    · omega
theorem int_le {I : Int} (h : I ≤ 0) : FloatKind.f64.format.order (floatOfInt .f64 I) 0 ≠ some .gt := by
  rcases Int.lt_or_eq_of_le h with h1 | h1
  · intro hg
    have h2 := (order_zero (int_lt I)).1 hg
    have hd : decide (I < 0) = true := decide_eq_true h1
    have h3 : floatOfInt .f64 I = Ieee.double.nearest true I.natAbs 0 := by
      show Ieee.double.nearest (decide (I < 0)) I.natAbs 0 = _
      rw [hd]
    rw [h3] at h2
    obtain ⟨d1, d2, d3, d4, d5⟩ := dbl_facts
    unfold Ieee.Format.nearest at h2
    have hw : ∀ r, 9223372036854775808 ≤ Ieee.double.word true r := fun r => by
      unfold Ieee.Format.word
      rw [if_pos rfl, d1]
      exact Nat.le_add_right _ _
    split at h2
    · have := hw 0; omega
    · have := hw (min ((max (0 + (I.natAbs.log2 : Int) - (Ieee.double.fractionBits : Int)) Ieee.double.leastPlace - Ieee.double.leastPlace).toNat * Ieee.double.binade + Ieee.Toward.even.cut true (I.natAbs <<< ((0 : Int) - max (0 + (I.natAbs.log2 : Int) - (Ieee.double.fractionBits : Int)) Ieee.double.leastPlace).toNat) (max (0 + (I.natAbs.log2 : Int) - (Ieee.double.fractionBits : Int)) Ieee.double.leastPlace - 0).toNat) Ieee.double.infRung)
      exact absurd (Nat.le_trans this h2) (by decide)
  · subst h1
    decide +kernel
/-- An amount is one just where its float is above nothing and finite. -/
theorem amt_iff {K I : Int} {F : Nat} (hK : isNum K = true) (hF : F < 2 ^ 64) (hi : okI I) : (finV K F = false ∨ signV K I F ≤ 0) ↔ ¬ (FloatKind.f64.format.order (asF K I F) 0 = some .gt ∧ asF K I F < 9218868437227405312) := by
  by_cases h2 : (K == 2) = true
  · have hk : K = 2 := by simpa using h2
    subst hk
    show (finV 2 F = false ∨ signF F ≤ 0) ↔ ¬ (FloatKind.f64.format.order F 0 = some .gt ∧ F < 9218868437227405312)
    have hsg : signF F ≤ 0 ↔ FloatKind.f64.format.order F 0 ≠ some .gt := by
      unfold signF
      cases ho : FloatKind.f64.format.order F 0 with
      | none => simp
      | some o => cases o <;> simp
    rw [hsg]
    constructor
    · rintro (h | h) ⟨h3, h4⟩
      · rw [fin_pos h4] at h; cases h
      · exact h h3
    · intro h
      by_cases hg : FloatKind.f64.format.order F 0 = some .gt
      · refine Or.inl ?_
        have hle := (order_zero hF).1 hg
        cases hf : finV 2 F
        · rfl
        · exact absurd ⟨hg, fin_le hle hf⟩ h
      · exact Or.inr hg
  · have h1 : (K == 1) = true := by
      unfold isNum at hK
      rw [Bool.or_eq_true] at hK
      rcases hK with h | h
      · exact h
      · exact absurd h h2
    have hk : K = 1 := by simpa using h1
    subst hk
    show (finV 1 F = false ∨ signI I ≤ 0) ↔ ¬ (FloatKind.f64.format.order (floatOfInt .f64 I) 0 = some .gt ∧ floatOfInt .f64 I < 9218868437227405312)
    have hfv : finV 1 F = true := rfl
    unfold okI at hi
    constructor
    · rintro (h | h) ⟨h3, _⟩
      · rw [hfv] at h; cases h
      · have hI : I ≤ 0 := by
          unfold signI at h
          by_cases c : I < 0
          · omega
          · rw [if_neg c] at h
            by_cases c2 : 0 < I
            · rw [if_pos c2] at h; omega
            · omega
        exact int_le hI h3
    · intro h
      refine Or.inr ?_
      by_cases c : 0 < I
      · exact absurd ⟨int_gt c (by omega), int_pos c (by omega)⟩ h
      · unfold signI
        by_cases c2 : I < 0
        · rw [if_pos c2]; omega
        · rw [if_neg c2, if_neg c]; omega
end Num
end Go.Proofs.YtpbfaffheigjcaaGreat
