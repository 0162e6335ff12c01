/-
  TableKeys: what the law does.
-/
import Derived.Test.YtamogpbbaihaaaaQX
import Derived.Test.YtamogpbbaihaaaaQW
import Derived.Test.YtamogpbbaihaaaaQR
import Derived.Deep.RegionHeld3
import Derived.Deep.DeepCutAuto
namespace Go.Proofs.Ytamogpbbaihaaaa
open Go.RowKit
namespace Num
open Ints
set_option linter.unusedSimpArgs false
set_option linter.unusedVariables false
def nmK (c : Nat) : ByteArray := ⟨#[UInt8.ofNat (97 + c)]⟩
def fK (c : Nat) : ByteArray × VT 1 := intF (nmK c) (97 + (c : Int))
theorem nmK_lt : ∀ j, j < 26 → ∀ i, i < j → ltB (nmK i) (nmK j) = true := by decide +kernel
theorem fam_K : Fam 26 fK := ⟨by decide, fun i j h1 h2 => nmK_lt j h2 i h1, fun i _ => (rfl : nmV 3 (nmK i) = true), fun i _ => small_int (97 + (i : Int))⟩
/-- A table's box and a map that the law goes on with. -/
def KB (w : World) (sb : Nat) (qs : Option Addr) (ms ds mb : Nat) (KL : List Nat) (z : World) : Prop := FB w sb qs ms ds z ∧ Mp z mb KL
theorem kb_step {w x y : World} {sb : Nat} {qs : Option Addr} {ms ds mb : Nat} {KL : List Nat} (h : KB w sb qs ms ds mb KL x) (hb : Below x.heap.size x y) : KB w sb qs ms ds mb KL y := ⟨fb_step h.1 hb, mp_step h.2 hb⟩
theorem kb_drew {w x : World} {sb : Nat} {qs : Option Addr} {ms ds mb : Nat} {KL : List Nat} (h : KB w sb qs ms ds mb KL x) : KB w sb qs ms ds mb KL x.drew := kb_step h (Below.drew (Below.refl _ _))
theorem mp_set {x : World} {mb g : Nat} {KL : List Nat} {u0 u1 u2 u3 u4 : Value} (h : Mp x mb KL) (h1 : mb ≠ g) : Mp (set5 x g 0 u0 u1 u2 u3 u4) mb KL := by
  obtain ⟨es, ck, h2, h3⟩ := h
  exact ⟨es, ck, (set5_other h1).trans h2, h3⟩
theorem kb_set {w x : World} {sb g : Nat} {qs : Option Addr} {ms ds mb : Nat} {KL : List Nat} {u0 u1 u2 u3 u4 : Value} (h : KB w sb qs ms ds mb KL x) (h1 : sb ≠ g) (h2 : w.heap.size ≤ g) (h3 : mb ≠ g) : KB w sb qs ms ds mb KL (set5 x g 0 u0 u1 u2 u3 u4) := ⟨fb_set h.1 h1 h2, mp_set h.2 h3⟩
/-- The map's letters are these. -/
def Ltr (KL : List Nat) (A : Nat → Bool) : Prop := KL.Nodup ∧ ∀ c, c ∈ KL ↔ A c = true
theorem ltr_add {KL : List Nat} {A : Nat → Bool} (h : Ltr KL A) (c : Nat) : Ltr (addK KL c) fun j => A j || j == c := by
  unfold addK
  by_cases hc : KL.contains c = true
  · rw [if_pos hc]
    refine ⟨h.1, fun j => ?_⟩
    rw [h.2 j, Bool.or_eq_true, beq_iff_eq]
    exact ⟨Or.inl, fun h1 => h1.elim id (fun e => by rw [e]; exact (h.2 c).1 (List.contains_iff_mem.1 hc))⟩
  · rw [if_neg hc]
    have hn : c ∉ KL := fun hm => hc (List.contains_iff_mem.2 hm)
    refine ⟨?_, fun j => ?_⟩
    · rw [List.nodup_append]
      exact ⟨h.1, (by simp), fun a ha b hb e => by rw [List.mem_singleton.1 hb] at e; exact hn (e ▸ ha)⟩
    · rw [List.mem_append, List.mem_singleton, h.2 j, Bool.or_eq_true, beq_iff_eq]
theorem ltr_del {KL : List Nat} {A : Nat → Bool} (h : Ltr KL A) (c : Nat) : Ltr (KL.erase c) fun j => A j && !(j == c) :=
  ⟨h.1.erase c, fun j => by
    rw [h.1.mem_erase_iff, h.2 j, Bool.and_eq_true, Bool.not_eq_true', beq_eq_false_iff_ne]
    exact ⟨fun h => ⟨h.2, h.1⟩, fun h => ⟨h.2, h.1⟩⟩⟩
theorem ltr_has {KL : List Nat} {A : Nat → Bool} (h : Ltr KL A) (c : Nat) : KL.contains c = A c := by
  rw [Bool.eq_iff_iff, List.contains_iff_mem]
  exact h.2 c
theorem ltr_len {KL : List Nat} {A : Nat → Bool} (h : Ltr KL A) (hA : ∀ c, A c = true → c < 26) : KL.length = (setE 26 fK A).length := by
  unfold setE
  rw [List.length_map]
  refine List.Perm.length_eq ((List.perm_ext_iff_of_nodup h.1 (List.Pairwise.filter _ List.nodup_range)).2 (fun c => ?_))
  rw [h.2 c, List.mem_filter, List.mem_range]
  exact ⟨fun hc => ⟨hA c hc, hc⟩, fun hc => hc.2⟩
def remN (g : Nat → Nat) (A : Nat → Bool) (i : Nat) : Nat → Bool := fun c => A c && !((List.range i).any fun t => g t == c)
theorem remN_zero (g : Nat → Nat) (A : Nat → Bool) : remN g A 0 = A := by
  funext c
  simp [remN]
theorem remN_succ (g : Nat → Nat) (A : Nat → Bool) (i : Nat) : (fun c => remN g A i c && !(c == g i)) = remN g A (i + 1) := by
  funext c
  unfold remN
  rw [List.range_succ, List.any_append]
  simp [Bool.and_assoc, Bool.beq_comm, Bool.not_or]
theorem ltr_nil (g : Nat → Nat) : Ltr [] (metN g 0) := ⟨List.nodup_nil, fun c => by simp [metN]⟩
theorem fold_names : ∀ (L : List (VT 1)), (∀ x ∈ L, (∃ z, measT 1 x = (false, false, 0, z) ∧ 0 ≤ z ∧ z ≤ 40) ∧ partsT 1 x = 1) → ∀ z : Int, 0 ≤ z → z + 40 * L.length ≤ 4096 → ∀ a : Nat,
    (∃ z', L.foldl (fun a x => withM a (measT 1 x)) (false, false, 1, z) = (false, false, 1, z') ∧ 0 ≤ z' ∧ z' ≤ 4096) ∧ L.foldl (fun a x => a + partsT 1 x) a = a + L.length
  | [], _, z, h0, h1, a => ⟨⟨z, rfl, h0, by simp at h1; omega⟩, rfl⟩
  | x :: r, h, z, h0, h1, a => by
    obtain ⟨⟨zx, hx, x0, x1⟩, hp⟩ := h x List.mem_cons_self
    rw [List.length_cons] at h1
    rw [List.foldl_cons, List.foldl_cons, hx, hp, with_small h0 (by omega) x0 (by omega) (by omega) (by omega), List.length_cons]
    obtain ⟨h2, h3⟩ := fold_names r (fun y hy => h y (List.mem_cons_of_mem _ hy)) (z + zx) (by omega) (by omega) (a + 1)
    exact ⟨h2, by rw [h3]; omega⟩
def nmsT (A : Nat → Bool) : VT 2 := (4, 0, 0, ⟨#[]⟩, (setE 26 fK A).map fun e => nameV 0 e.1)
theorem nms_cln (A : Nat → Bool) : Cln 2 (nmsT A) ∧ cleanT 2 (nmsT A) = nmsT A := by
  have hall : ∀ x ∈ (setE 26 fK A).map (fun e => nameV 0 e.1), (∃ z, measT 1 x = (false, false, 0, z) ∧ 0 ≤ z ∧ z ≤ 40) ∧ partsT 1 x = 1 := by
    intro x hx
    obtain ⟨e, he, rfl⟩ := List.mem_map.1 hx
    obtain ⟨i, hi, _, rfl⟩ := set_mem he
    have h := small_txt (s := nmK i) (by decide : 1 ≤ 37)
    exact ⟨h.1, h.2.1⟩
  have hln : ((setE 26 fK A).map (fun e => nameV 0 e.1)).length ≤ 26 := by rw [List.length_map]; exact set_len
  obtain ⟨⟨z', hf, g0, g1⟩, hp⟩ := fold_names _ hall 2 (by decide) (by omega) 1
  refine ⟨⟨?_, ?_, ?_⟩, ?_⟩
  · unfold nmsT
    rw [deepT_succ rfl, List.any_eq_false]
    intro x _
    rw [deep1 x 62]
    simp
  · unfold nmsT
    rw [partsT_list rfl, hp]
    omega
  · unfold nmsT
    rw [measT_list rfl rfl rfl rfl, show decide (64 < (((setE 26 fK A).map (fun e => nameV 0 e.1)).length : Int)) = false by rw [decide_eq_false_iff_not]; omega, hf]
    have e2 : decide (z' ≤ 2147483647) = true := by rw [decide_eq_true_iff]; omega
    show (decide ((1 : Int) ≤ 64) && decide (z' ≤ 2147483647)) = true
    rw [e2]; rfl
  · show ((4, 0, 0, ⟨#[]⟩, ((setE 26 fK A).map fun e => nameV 0 e.1).map (cleanT 1)) : VT 2) = (4, 0, 0, ⟨#[]⟩, (setE 26 fK A).map fun e => nameV 0 e.1)
    congr 4
    rw [List.map_map]
    exact List.map_congr_left (fun e _ => rfl)
theorem name_at {A : Nat → Bool} {w w' : World} {nb off n0 j : Nat} (hlen : (setE 26 fK A).length = n0) (hit : ∀ i (h : i < ((setE 26 fK A).map fun e => nameV 0 e.1).length), ∃ v0 v1 v2 v3 v4, w.cell? ⟨nb, off + i * 5, none⟩ = some v0 ∧ w.cell? ⟨nb, off + i * 5 + 1, none⟩ = some v1 ∧ w.cell? ⟨nb, off + i * 5 + 2, none⟩ = some v2 ∧ w.cell? ⟨nb, off + i * 5 + 3, none⟩ = some v3 ∧ w.cell? ⟨nb, off + i * 5 + 4, none⟩ = some v4 ∧ Rep w' 1 (.agg #[v0, v1, v2, v3, v4]) (((setE 26 fK A).map fun e => nameV 0 e.1)[i])) (hj : j < n0) :
    ∃ (bi : UInt8) (ci : Nat), ((setE 26 fK A)[j]'(by omega)).1 = ⟨#[bi]⟩ ∧ (bi.toNat : Int) = 97 + (ci : Int) ∧ A ci = true ∧ w.cell? ⟨nb, off + j * 5 + 3, none⟩ = some (.string ⟨#[bi]⟩) := by
  obtain ⟨i, hi, hA, he⟩ := set_mem (List.getElem_mem (l := setE 26 fK A) (n := j) (by omega))
  obtain ⟨v0, v1, v2, v3, v4, _, _, _, c3, _, hr⟩ := hit j (by rw [List.length_map]; omega)
  rw [List.getElem_map, he] at hr
  obtain ⟨q, m, d, hv, _⟩ := hr
  injection hv with hv
  simp only [Array.mk.injEq, List.cons.injEq, and_true] at hv
  obtain ⟨_, _, _, h3, _⟩ := hv
  rw [h3] at c3
  exact ⟨UInt8.ofNat (97 + i), i, by rw [he]; rfl, ofN97 hi, hA, c3⟩
theorem rep_nil1 (x : World) : RepL x (Rep x 1) none 0 0 [] := ⟨rfl, Nat.le_refl _, Nat.zero_le _, fun h => absurd h (Nat.lt_irrefl _)⟩
theorem keys_K (A : Nat → Bool) {s : Value} {w : World} (hs : Rep w 3 s (tableT 0 (setE 26 fK A))) :
    Calls Try.prog 12 #[s, .string { data := #[107, 101, 121, 115] }, .slice none 0 0] w fun e w' => DoQ w 3 2 (tableT 0 (setE 26 fK A)) (nmsT A) 0 e w' := by
  have h := tdo_keys (n := 0) hs (rep_nil1 w) (fam_ok fam_K A) (nms_cln A).1
  rw [fam_clean fam_K A] at h
  have e := (nms_cln A).2
  unfold nmsT at e ⊢
  rw [e] at h
  exact h
theorem size_K (A : Nat → Bool) {s : Value} {w : World} (hs : Rep w 3 s (tableT 0 (setE 26 fK A))) :
    Calls Try.prog 12 #[s, .string { data := #[115, 105, 122, 101] }, .slice none 0 0] w fun e w' => DoQ w 3 1 (tableT 0 (setE 26 fK A)) (numT 0 (setE 26 fK A).length) 0 e w' := by
  have h := tdo_size (n := 0) hs (rep_nil1 w) (fam_ok fam_K A)
  rw [fam_clean fam_K A] at h
  exact h
theorem letters {w : World} {p : Option Addr} {l c : Nat} {X : List Int} (h : RdB w p l c X) (hB : By X) : ∃ g : Nat → Nat, ∀ i, i < l → ∃ (b off x : Nat), p = some ⟨b, off, none⟩ ∧ w.cell? ⟨b, off + i, none⟩ = some (.int .u8 x) ∧ x < 256 ∧ g i = x % 26 := by
  refine ⟨fun i => (X.getD i 0).toNat % 26, fun i hi => ?_⟩
  obtain ⟨b, off, hp, hit⟩ := h.2.2.2.1 (by omega)
  have hix : i < X.length := by rw [h.1]; exact hi
  have hc := hit i hix
  have hb := hB X[i] (List.getElem_mem hix)
  have e : X.getD i 0 = X[i] := by rw [List.getD_eq_getElem?_getD, List.getElem?_eq_getElem hix]; rfl
  refine ⟨b, off, (X.getD i 0).toNat, hp, ?_, by rw [e]; omega, rfl⟩
  rw [hc, e]
  congr 2
  omega
def Put11 (w wr : World) (sb : Nat) (qs : Option Addr) (ms ds mb : Nat) (KL : List Nat) (TT : VT 3) (UU : VT 1) (s9 s10 s11 : Value) (wx : World) : Prop := ∃ (gA gB : Nat) (Kt It : Int) (Ft : Nat) (Zt : ByteArray) (qt : Option Addr) (mt dt : Nat) (Kv Iv : Int) (Fv : Nat) (Zv : ByteArray) (qv : Option Addr) (mv dv : Nat), s9 = .pointer (some ⟨gA, 0, none⟩) ∧ s10 = .pointer (some ⟨gB, 0, none⟩) ∧ s11 = .int .i64 0 ∧ CS wx gA (.int .i64 Kt) (.int .i64 It) (.float .f64 Ft) (.string Zt) (.slice qt mt dt) ∧ CS wx gB (.int .i64 Kv) (.int .i64 Iv) (.float .f64 Fv) (.string Zv) (.slice qv mv dv) ∧ KB w sb qs ms ds mb KL wx ∧ Below wr.heap.size wr wx ∧ RepS (fun b => wr.heap.size ≤ b ∧ b ≠ gA ∧ b ≠ gB) wx 3 (.agg #[.int .i64 Kt, .int .i64 It, .float .f64 Ft, .string Zt, .slice qt mt dt]) (TT) ∧ RepS (fun b => wr.heap.size ≤ b ∧ b ≠ gA ∧ b ≠ gB) wx 1 (.agg #[.int .i64 Kv, .int .i64 Iv, .float .f64 Fv, .string Zv, .slice qv mv dv]) (UU)
def Put20 (w wr : World) (sb : Nat) (qs : Option Addr) (ms ds mb : Nat) (KL : List Nat) (TT : VT 3) (UU : VT 1) (s14 s15 s16 : Value) (wx : World) : Prop := ∃ (gA gB : Nat) (Kt It : Int) (Ft : Nat) (Zt : ByteArray) (qt : Option Addr) (mt dt : Nat) (Kv Iv : Int) (Fv : Nat) (Zv : ByteArray) (qv : Option Addr) (mv dv : Nat), s14 = .pointer (some ⟨gA, 0, none⟩) ∧ s15 = .pointer (some ⟨gB, 0, none⟩) ∧ s16 = .int .i64 0 ∧ CS wx gA (.int .i64 Kt) (.int .i64 It) (.float .f64 Ft) (.string Zt) (.slice qt mt dt) ∧ CS wx gB (.int .i64 Kv) (.int .i64 Iv) (.float .f64 Fv) (.string Zv) (.slice qv mv dv) ∧ KB w sb qs ms ds mb KL wx ∧ Below wr.heap.size wr wx ∧ RepS (fun b => wr.heap.size ≤ b ∧ b ≠ gA ∧ b ≠ gB) wx 3 (.agg #[.int .i64 Kt, .int .i64 It, .float .f64 Ft, .string Zt, .slice qt mt dt]) (TT) ∧ RepS (fun b => wr.heap.size ≤ b ∧ b ≠ gA ∧ b ≠ gB) wx 1 (.agg #[.int .i64 Kv, .int .i64 Iv, .float .f64 Fv, .string Zv, .slice qv mv dv]) (UU)
set_option maxRecDepth 100000 in
set_option maxHeartbeats 4000000 in
theorem keys_any (p1 : Option Addr) (l1 c1 : Nat) (X1 : List Int) (p2 : Option Addr) (l2 c2 : Nat) (X2 : List Int) (w : World) (hr1 : RdB w p1 l1 c1 X1) (hB1 : By X1) (hr2 : RdB w p2 l2 c2 X2) (hB2 : By X2) :
    Calls Try.prog 7 #[.slice p1 l1 c1, .slice p2 l2 c2] w fun e w' => e = .returned (.bool true) ∧ Below w.heap.size w w' := by
  have hl10 : (0 : Int) ≤ (l1 : Int) := by omega
  have hl20 : (0 : Int) ≤ (l2 : Int) := by omega
  by_cases hb1 : 30 < l1
  · have hb : (30 : Int) < (l1 : Int) := by omega
    clear hr1 hB1 hr2 hB2
    go_enter Try.func7, Try.ntmps7
    go_wp2_with (go_at_call 8; refine (known10 _).mono ?_; rintro e w1 ⟨rfl, hb1⟩)
    go_ret
    exact ⟨rfl, hb1⟩
  have hs1 : ¬ (30 : Int) < (l1 : Int) := by omega
  by_cases hb2 : 20 < l2
  · have hb : (20 : Int) < (l2 : Int) := by omega
    clear hr1 hB1 hr2 hB2
    go_enter Try.func7, Try.ntmps7
    go_wp2_with (go_at_call 8; refine (known10 _).mono ?_; rintro e w1 ⟨rfl, hb1⟩)
    go_ret
    exact ⟨rfl, hb1⟩
  have hs2 : ¬ (20 : Int) < (l2 : Int) := by omega
  obtain ⟨g, hg⟩ := letters hr1 hB1
  obtain ⟨g2, hg2⟩ := letters hr2 hB2
  have HG := Lib.hid hg
  have HG2 := Lib.hid hg2
  have hl1 : l1 ≤ 30 := by omega
  have hl2 : l2 ≤ 20 := by omega
  clear hg hg2 hr1 hB1 hr2 hB2 hb1 hb2
  have hmm := fun W => @run_makeMap Try.prog 50 W
  go_enter Try.func7, Try.ntmps7
  go_wp2_with (first
    | (go_at_call 8; refine (known10 _).mono ?_; rintro e w1 ⟨rfl, hb1⟩; have HB1 := Lib.hid hb1; clear hb1)
    | (go_at_call 18; refine (list_ref_any _ _ _ _).mono ?_; rintro e w2 ⟨rfl, hb2⟩; have HB2 := Lib.hid (bel_step HB1.out hb2); clear hb2))
  have HS := Lib.hid (show KB w w2.heap.size none 0 0 (w2.heap.size + 1) [] ((w2.alloc (.cells #[.int .i64 4, .int .i64 0, .float .f64 0, .string ⟨#[]⟩, .slice none 0 0] 27)).alloc (.map #[] 0)) from ⟨⟨cs_alloc (cs_new rfl) _, bel_alloc (bel_alloc HB2.out _) _, fun o => row_frz (row_alloc_step (row_alloc w2 #[.int .i64 4, .int .i64 0, .float .f64 0, .string ⟨#[]⟩, .slice none 0 0] 27) _) o⟩, #[], 0, (by have h : ((w2.alloc (.cells #[.int .i64 4, .int .i64 0, .float .f64 0, .string ⟨#[]⟩, .slice none 0 0] 27)).alloc (.map #[] 0)).heap[(w2.alloc (.cells #[.int .i64 4, .int .i64 0, .float .f64 0, .string ⟨#[]⟩, .slice none 0 0] 27)).heap.size]? = some (.map #[] 0) := (MapKept.heap_alloc _ _).1; rw [World.size_alloc] at h; exact h), rfl⟩)
  have h1 : w.heap.size ≤ w2.heap.size := HB2.out.size
  have h2 : w.heap.size ≤ w2.heap.size + 1 := by omega
  have h3 : w2.heap.size ≠ w2.heap.size + 1 := by omega
  clear HB2 HB1 hmm
  revert HS h1 h2 h3
  generalize (w2.alloc (.cells #[.int .i64 4, .int .i64 0, .float .f64 0, .string ⟨#[]⟩, .slice none 0 0] 27)).alloc (.map #[] 0) = W
  generalize w2.heap.size + 1 = mb
  generalize w2.heap.size = sb
  intro HS h1 h2 h3
  go_loopw [7] (fun iv wr => ∃ (i : Nat) (qs : Option Addr) (ms ds : Nat) (KL : List Nat), i ≤ l1 ∧ iv = .int .i64 i ∧ KB w sb qs ms ds mb KL wr ∧ Ltr KL (metN g i) ∧ RepS (fun b => sb < b ∧ mb < b) wr 3 (.agg #[.int .i64 4, .int .i64 0, .float .f64 0, .string ⟨#[]⟩, .slice qs ms ds]) (tableT 0 (setE 26 fK (metN g i)))) (fun iv _ => l1 - (intOf iv).toNat)
  case atStart => exact ⟨0, none, 0, 0, [], by omega, rfl, HS.out, ltr_nil g, by rw [setE_none]; exact repS_nil3 _ _⟩
  case round =>
    obtain ⟨i, qs, ms, ds, KL, hil, rfl, hkb, hlt', hst⟩ := hrel
    have HKB := Lib.hid hkb
    have HLT := Lib.hid hlt'
    have HSTr := Lib.hid hst
    clear hkb hst hlt' HS
    by_cases hlt : i < l1
    · obtain ⟨nb, no, x, rfl, hcx, hx256, hgx⟩ := HG.out i hlt
      have hc1 := cell_keep HKB.out.1.2.1 hcx
      have hnb : nb < w.heap.size := cell_lt hcx
      have hi0 : (0 : Int) ≤ (i : Int) := by omega
      have hil2 : (i : Int) < (l1 : Int) := by omega
      obtain ⟨cx, hcx'⟩ : ∃ cx, x % 26 = cx := ⟨_, rfl⟩
      rw [hcx'] at hgx
      have hcx26 : cx < 26 := by omega
      have hrx : (x : Int).tmod 26 = (cx : Int) := by rw [← hcx']; exact (Int.ofNat_tmod x 26).symm
      have hx0 : (0 : Int) ≤ (x : Int) := by omega
      have hx1 : (x : Int) < 256 := by omega
      have hcx0 : (0 : Int) ≤ (cx : Int) := by omega
      have hcx1 : (cx : Int) < 26 := by omega
      have hwx : IntKind.u8.wrap (97 + (cx : Int)) = 97 + (cx : Int) := by rw [IntKind.wrap_u8]; omega
      have hvx : IntKind.u8.wrap (cx : Int) = (cx : Int) := by rw [IntKind.wrap_u8]; omega
      have hzx : IntKind.i64.wrap (97 + (cx : Int)) = 97 + (cx : Int) := by rw [IntKind.wrap_i64]; omega
      obtain ⟨bx, hbx⟩ : ∃ bx, UInt8.ofNat (97 + cx) = bx := ⟨_, rfl⟩
      have HBX := Lib.hid (show (bx.toNat : Int) = 97 + (cx : Int) ∧ (⟨#[bx]⟩ : ByteArray) = nmK cx from ⟨by rw [← hbx]; exact ofN97 hcx26, by rw [← hbx]; rfl⟩)
      have HGX := Lib.hid hgx
      clear hcx hcx' hbx hgx hx256
      obtain ⟨TT, UU, hTT, HDO⟩ : ∃ (TT : VT 3) (UU : VT 1), TT = tableT 0 (setE 26 fK (metN g (i + 1))) ∧ Hid (∀ (W : World) (gg : Nat), Rep W 3 (.agg #[.int .i64 4, .int .i64 0, .float .f64 0, .string ⟨#[]⟩, .slice qs ms ds]) (tableT 0 (setE 26 fK (metN g i))) → LV gg (nmK cx) 1 (97 + (cx : Int)) 0 ⟨#[]⟩ W → Calls Try.prog 12 #[.agg #[.int .i64 4, .int .i64 0, .float .f64 0, .string ⟨#[]⟩, .slice qs ms ds], .string { data := #[112, 117, 116] }, .slice (some ⟨gg, 0, none⟩) 2 2] W fun e w' => DoQ W 3 1 TT UU 0 e w') :=
        ⟨_, _, (by rw [← metN_succ g i, HGX.out]), Lib.hid (fun W gg hs hr => put_fam fam_K (metN g i) cx hcx26 hs hr)⟩
      have HTT := Lib.hid hTT
      clear hTT
      go_upto_region 11 with fail
      go_cut [9, 10, 11] (fun s9 s10 s11 wx => Put11 w wr sb qs ms ds mb KL TT UU s9 s10 s11 wx)
      case first =>
        have hsbr : sb < wr.heap.size := cs_lt HKB.out.1.1
        have hmbr : mb < wr.heap.size := (by obtain ⟨_, _, h, _⟩ := HKB.out.2; exact row_lt h)
        have hwr : w.heap.size ≤ wr.heap.size := HKB.out.1.2.1.size
        refine wp_region_held_drew (S := (fun z => z.cell? ⟨sb, 0, none⟩ = some (.int .i64 4) ∧ z.cell? ⟨sb, 1, none⟩ = some (.int .i64 0) ∧ z.cell? ⟨sb, 2, none⟩ = some (.float .f64 0) ∧ z.cell? ⟨sb, 3, none⟩ = some (.string ⟨#[]⟩) ∧ z.cell? ⟨sb, 4, none⟩ = some (.slice qs ms ds))) (by kernel_rfl) ?_ (fun hHeld => ?_)
        · exact (kb_drew HKB.out).1.1
        have HDW := Lib.hid (show KB w sb qs ms ds mb KL wr.drew ∧ Below wr.heap.size wr wr.drew from ⟨kb_drew HKB.out, Below.drew (Below.refl _ _)⟩)
        revert HDW hHeld
        generalize wr.drew = Wd
        intro hHeld HDW
        have hq := HDW.out.1
        have hbd := HDW.out.2
        refine wpAnyH_take (i := 0) (oi := ?_) (v := ?_) ?hit0 (by kernel_rfl) ?hft0 ?hrt0 ?hQt0 ?hyt0 (by assumption) ?restt0
        case hit0 => (simp only [List.getElem?_toArray, List.getElem?_cons_zero, List.getElem?_cons_succ]; rfl)
        case hft0 => kernel_rfl
        case hrt0 => kernel_rfl
        case hyt0 => (refine Or.inl ⟨by rfl, ?_⟩; intro wS hSw; (try dsimp only at hSw); go_simp; (try with_reducible rfl))
        case hQt0 => exact fun _ _ _ h => h
        (try simp only [Act.put, List.setIfInBounds_toArray, List.set_cons_zero, List.set_cons_succ])
        refine wpAnyH_take (i := 1) (oi := ?_) (v := ?_) ?hit1 (by kernel_rfl) ?hft1 ?hrt1 ?hQt1 ?hyt1 (by assumption) ?restt1
        case hit1 => (simp only [List.getElem?_toArray, List.getElem?_cons_zero, List.getElem?_cons_succ]; rfl)
        case hft1 => kernel_rfl
        case hrt1 => kernel_rfl
        case hyt1 => (refine Or.inl ⟨by rfl, ?_⟩; intro wS hSw; (try dsimp only at hSw); go_simp; (try with_reducible rfl))
        case hQt1 => exact fun _ _ _ h => h
        (try simp only [Act.put, List.setIfInBounds_toArray, List.set_cons_zero, List.set_cons_succ])
        refine wpAnyH_take (i := 5) (oi := ?_) (v := ?_) ?hit5 (by kernel_rfl) ?hft5 ?hrt5 ?hQt5 ?hyt5 (by assumption) ?restt5
        case hit5 => (simp only [List.getElem?_toArray, List.getElem?_cons_zero, List.getElem?_cons_succ]; rfl)
        case hft5 => kernel_rfl
        case hrt5 => kernel_rfl
        case hyt5 => (refine Or.inl ⟨by rfl, ?_⟩; intro wS hSw; (try dsimp only at hSw); go_simp; (try with_reducible rfl))
        case hQt5 => exact fun _ _ _ h => h
        (try simp only [Act.put, List.setIfInBounds_toArray, List.set_cons_zero, List.set_cons_succ])
        refine wpAnyH_take (i := 6) (oi := ?_) (v := ?_) ?hit6 (by kernel_rfl) ?hft6 ?hrt6 ?hQt6 ?hyt6 (by assumption) ?restt6
        case hit6 => (simp only [List.getElem?_toArray, List.getElem?_cons_zero, List.getElem?_cons_succ]; rfl)
        case hft6 => kernel_rfl
        case hrt6 => kernel_rfl
        case hyt6 => (refine Or.inl ⟨by rfl, ?_⟩; intro wS hSw; (try dsimp only at hSw); go_simp; (try with_reducible rfl))
        case hQt6 => exact fun _ _ _ h => h
        (try simp only [Act.put, List.setIfInBounds_toArray, List.set_cons_zero, List.set_cons_succ])
        refine any_have 3 [14, 15, 2, 3, 4, 7, 8, 9, 10, 11, 12, 13] (fun a a' w' => ∃ (gA gB gC gE : Nat), ∃ (Kt It : Int) (Ft : Nat) (Zt : ByteArray) (qt : Option Addr) (mt dt : Nat) (Kv Iv : Int) (Fv : Nat) (Zv : ByteArray) (qv : Option Addr) (mv dv : Nat), a' = ((((((((((((a.put (some 9) (.pointer (some ⟨gA, 0, none⟩))).put (some 10) (.pointer (some ⟨gB, 0, none⟩))).put (some 51) (.slice (some ⟨gC, 0, none⟩) 1 1)).put (some 52) (.string ⟨#[bx]⟩)).put (some 53) (.agg #[.int .i64 3, .int .i64 0, .float .f64 0, .string ⟨#[bx]⟩, .slice none 0 0])).put (some 56) (.agg #[.int .i64 1, .int .i64 (97 + (cx : Int)), .float .f64 0, .string ⟨#[]⟩, .slice none 0 0])).put (some 57) (.slice (some ⟨gE, 0, none⟩) 2 2)).put (some 58) (.tuple #[.agg #[.int .i64 Kt, .int .i64 It, .float .f64 Ft, .string Zt, .slice qt mt dt], .agg #[.int .i64 Kv, .int .i64 Iv, .float .f64 Fv, .string Zv, .slice qv mv dv], .int .i64 0])).put (some 48) (.tuple #[.agg #[.int .i64 Kt, .int .i64 It, .float .f64 Ft, .string Zt, .slice qt mt dt], .agg #[.int .i64 Kv, .int .i64 Iv, .float .f64 Fv, .string Zv, .slice qv mv dv], .int .i64 0])).put (some 59) (.agg #[.int .i64 Kt, .int .i64 It, .float .f64 Ft, .string Zt, .slice qt mt dt])).put (some 60) (.agg #[.int .i64 Kv, .int .i64 Iv, .float .f64 Fv, .string Zv, .slice qv mv dv])).put (some 61) (.int .i64 0)) ∧ KB w sb qs ms ds mb KL w' ∧ Below wr.heap.size wr w' ∧ SBX w' gA (.int .i64 0) (.int .i64 0) (.float .f64 0) (.string ⟨#[]⟩) (.slice none 0 0) ∧ wr.heap.size ≤ gA ∧ SBX w' gB (.int .i64 0) (.int .i64 0) (.float .f64 0) (.string ⟨#[]⟩) (.slice none 0 0) ∧ wr.heap.size ≤ gB ∧ gA ≠ gB ∧ RepS (fun b => wr.heap.size ≤ b ∧ b ≠ gA ∧ b ≠ gB) w' 3 (.agg #[.int .i64 Kt, .int .i64 It, .float .f64 Ft, .string Zt, .slice qt mt dt]) (TT) ∧ RepS (fun b => wr.heap.size ≤ b ∧ b ≠ gA ∧ b ≠ gB) w' 1 (.agg #[.int .i64 Kv, .int .i64 Iv, .float .f64 Fv, .string Zv, .slice qv mv dv]) (UU)) ?phK116m (fun hK116 => ?_)
        case phK116m =>
          intro a' w' hst hHeld
          obtain ⟨gA, gB, gC, gE, Kt, It, Ft, Zt, qt, mt, dt, Kv, Iv, Fv, Zv, qv, mv, dv, rfl, hq, hbd, hsA, hgA, hsB, hgB, hne, ht, hv⟩ := hst
          (try simp only [Act.put, List.setIfInBounds_toArray, List.set_cons_zero, List.set_cons_succ])
          have hcA := hsA.1; have hcB := hsB.1
          refine wpAnyH_ready (rs := [16]) (by kernel_rfl) (by simp) ?_
          refine AllReadyH.cons (o := ?_) ?ho16hK116m ?hst16hK116m AllReadyH.nil
          case ho16hK116m => (simp only [List.getElem?_toArray, List.getElem?_cons_zero, List.getElem?_cons_succ]; rfl)
          intro K hK
          have bb0 := hsA.1.1; have bb1 := hsA.1.2.1; have bb2 := hsA.1.2.2.1; have bb3 := hsA.1.2.2.2.1; have bb4 := hsA.1.2.2.2.2; have bbf := hsA.2; have bbl := cell_lt bb0; go_simp
          have hqA : KB w sb qs ms ds mb KL (((((w'.setCell ⟨gA, 0, none⟩ (.int .i64 Kt)).setCell ⟨gA, 1, none⟩ (.int .i64 It)).setCell ⟨gA, 2, none⟩ (.float .f64 Ft)).setCell ⟨gA, 3, none⟩ (.string Zt)).setCell ⟨gA, 4, none⟩ (.slice qt mt dt)) := kb_set hq (by have h := hgA; omega) (by have h := hgA; omega) (by have h := hgA; omega)
          refine hK.out _ _ ?hs16hK116m (fun hHeld => ?_)
          case hs16hK116m => exact (hqA).1.1
          clear hK K bb0 bb1 bb2 bb3 bb4 bbf bbl
          (try simp only [Act.put, List.setIfInBounds_toArray, List.set_cons_zero, List.set_cons_succ])
          refine wpAnyH_ready (rs := [17]) (by kernel_rfl) (by simp) ?_
          refine AllReadyH.cons (o := ?_) ?ho17hK116m ?hst17hK116m AllReadyH.nil
          case ho17hK116m => (simp only [List.getElem?_toArray, List.getElem?_cons_zero, List.getElem?_cons_succ]; rfl)
          intro K hK
          have bb0 := hsB.1.1; have bb1 := hsB.1.2.1; have bb2 := hsB.1.2.2.1; have bb3 := hsB.1.2.2.2.1; have bb4 := hsB.1.2.2.2.2; have bbf := hsB.2; have bbl := cell_lt bb0; go_simp
          have hqB : KB w sb qs ms ds mb KL ((((((((((w'.setCell ⟨gA, 0, none⟩ (.int .i64 Kt)).setCell ⟨gA, 1, none⟩ (.int .i64 It)).setCell ⟨gA, 2, none⟩ (.float .f64 Ft)).setCell ⟨gA, 3, none⟩ (.string Zt)).setCell ⟨gA, 4, none⟩ (.slice qt mt dt)).setCell ⟨gB, 0, none⟩ (.int .i64 Kv)).setCell ⟨gB, 1, none⟩ (.int .i64 Iv)).setCell ⟨gB, 2, none⟩ (.float .f64 Fv)).setCell ⟨gB, 3, none⟩ (.string Zv)).setCell ⟨gB, 4, none⟩ (.slice qv mv dv)) := kb_set hqA (by have h := hgB; omega) (by have h := hgB; omega) (by have h := hgB; omega)
          refine hK.out _ _ ?hs17hK116m (fun hHeld => ?_)
          case hs17hK116m => exact (hqB).1.1
          clear hK K bb0 bb1 bb2 bb3 bb4 bbf bbl
          (try simp only [Act.put, List.setIfInBounds_toArray, List.set_cons_zero, List.set_cons_succ])
          refine wpAnyH_take (i := 18) (oi := ?_) (v := ?_) ?hihK116m18 (by kernel_rfl) ?hfhK116m18 ?hrhK116m18 ?hQhK116m18 ?hyhK116m18 (by assumption) ?resthK116m18
          case hihK116m18 => (simp only [List.getElem?_toArray, List.getElem?_cons_zero, List.getElem?_cons_succ]; rfl)
          case hfhK116m18 => kernel_rfl
          case hrhK116m18 => kernel_rfl
          case hyhK116m18 => (refine Or.inl ⟨by rfl, ?_⟩; intro wS hSw; (try dsimp only at hSw); go_simp; (try with_reducible rfl))
          case hQhK116m18 => exact fun _ _ _ h => h
          (try simp only [Act.put, List.setIfInBounds_toArray, List.set_cons_zero, List.set_cons_succ])
          refine wpAnyH_done (by kernel_rfl) ?_ _
          have HGF := Lib.hid (show CS ((((((((((w'.setCell ⟨gA, 0, none⟩ (.int .i64 Kt)).setCell ⟨gA, 1, none⟩ (.int .i64 It)).setCell ⟨gA, 2, none⟩ (.float .f64 Ft)).setCell ⟨gA, 3, none⟩ (.string Zt)).setCell ⟨gA, 4, none⟩ (.slice qt mt dt)).setCell ⟨gB, 0, none⟩ (.int .i64 Kv)).setCell ⟨gB, 1, none⟩ (.int .i64 Iv)).setCell ⟨gB, 2, none⟩ (.float .f64 Fv)).setCell ⟨gB, 3, none⟩ (.string Zv)).setCell ⟨gB, 4, none⟩ (.slice qv mv dv)) gA (.int .i64 Kt) (.int .i64 It) (.float .f64 Ft) (.string Zt) (.slice qt mt dt) ∧ CS ((((((((((w'.setCell ⟨gA, 0, none⟩ (.int .i64 Kt)).setCell ⟨gA, 1, none⟩ (.int .i64 It)).setCell ⟨gA, 2, none⟩ (.float .f64 Ft)).setCell ⟨gA, 3, none⟩ (.string Zt)).setCell ⟨gA, 4, none⟩ (.slice qt mt dt)).setCell ⟨gB, 0, none⟩ (.int .i64 Kv)).setCell ⟨gB, 1, none⟩ (.int .i64 Iv)).setCell ⟨gB, 2, none⟩ (.float .f64 Fv)).setCell ⟨gB, 3, none⟩ (.string Zv)).setCell ⟨gB, 4, none⟩ (.slice qv mv dv)) gB (.int .i64 Kv) (.int .i64 Iv) (.float .f64 Fv) (.string Zv) (.slice qv mv dv) ∧ KB w sb qs ms ds mb KL ((((((((((w'.setCell ⟨gA, 0, none⟩ (.int .i64 Kt)).setCell ⟨gA, 1, none⟩ (.int .i64 It)).setCell ⟨gA, 2, none⟩ (.float .f64 Ft)).setCell ⟨gA, 3, none⟩ (.string Zt)).setCell ⟨gA, 4, none⟩ (.slice qt mt dt)).setCell ⟨gB, 0, none⟩ (.int .i64 Kv)).setCell ⟨gB, 1, none⟩ (.int .i64 Iv)).setCell ⟨gB, 2, none⟩ (.float .f64 Fv)).setCell ⟨gB, 3, none⟩ (.string Zv)).setCell ⟨gB, 4, none⟩ (.slice qv mv dv)) ∧ Below wr.heap.size wr ((((((((((w'.setCell ⟨gA, 0, none⟩ (.int .i64 Kt)).setCell ⟨gA, 1, none⟩ (.int .i64 It)).setCell ⟨gA, 2, none⟩ (.float .f64 Ft)).setCell ⟨gA, 3, none⟩ (.string Zt)).setCell ⟨gA, 4, none⟩ (.slice qt mt dt)).setCell ⟨gB, 0, none⟩ (.int .i64 Kv)).setCell ⟨gB, 1, none⟩ (.int .i64 Iv)).setCell ⟨gB, 2, none⟩ (.float .f64 Fv)).setCell ⟨gB, 3, none⟩ (.string Zv)).setCell ⟨gB, 4, none⟩ (.slice qv mv dv)) ∧ RepS (fun b => wr.heap.size ≤ b ∧ b ≠ gA ∧ b ≠ gB) ((((((((((w'.setCell ⟨gA, 0, none⟩ (.int .i64 Kt)).setCell ⟨gA, 1, none⟩ (.int .i64 It)).setCell ⟨gA, 2, none⟩ (.float .f64 Ft)).setCell ⟨gA, 3, none⟩ (.string Zt)).setCell ⟨gA, 4, none⟩ (.slice qt mt dt)).setCell ⟨gB, 0, none⟩ (.int .i64 Kv)).setCell ⟨gB, 1, none⟩ (.int .i64 Iv)).setCell ⟨gB, 2, none⟩ (.float .f64 Fv)).setCell ⟨gB, 3, none⟩ (.string Zv)).setCell ⟨gB, 4, none⟩ (.slice qv mv dv)) 3 (.agg #[.int .i64 Kt, .int .i64 It, .float .f64 Ft, .string Zt, .slice qt mt dt]) (TT) ∧ RepS (fun b => wr.heap.size ≤ b ∧ b ≠ gA ∧ b ≠ gB) ((((((((((w'.setCell ⟨gA, 0, none⟩ (.int .i64 Kt)).setCell ⟨gA, 1, none⟩ (.int .i64 It)).setCell ⟨gA, 2, none⟩ (.float .f64 Ft)).setCell ⟨gA, 3, none⟩ (.string Zt)).setCell ⟨gA, 4, none⟩ (.slice qt mt dt)).setCell ⟨gB, 0, none⟩ (.int .i64 Kv)).setCell ⟨gB, 1, none⟩ (.int .i64 Iv)).setCell ⟨gB, 2, none⟩ (.float .f64 Fv)).setCell ⟨gB, 3, none⟩ (.string Zv)).setCell ⟨gB, 4, none⟩ (.slice qv mv dv)) 1 (.agg #[.int .i64 Kv, .int .i64 Iv, .float .f64 Fv, .string Zv, .slice qv mv dv]) (UU) from ⟨cs_other (cs_set5 hsA.1) hne, cs_set5 (cs_other hsB.1 hne.symm), hqB, bel_set5 (bel_set5 hbd hgA) hgB, repS_set (repS_set ht (fun b hb => hb.2.1)) (fun b hb => hb.2.2), repS_set (repS_set hv (fun b hb => hb.2.1)) (fun b hb => hb.2.2)⟩)
          clear hq hqA hqB hbd hsA hsB hcA hcB ht hv hHeld
          revert HGF
          generalize ((((((((((w'.setCell ⟨gA, 0, none⟩ (.int .i64 Kt)).setCell ⟨gA, 1, none⟩ (.int .i64 It)).setCell ⟨gA, 2, none⟩ (.float .f64 Ft)).setCell ⟨gA, 3, none⟩ (.string Zt)).setCell ⟨gA, 4, none⟩ (.slice qt mt dt)).setCell ⟨gB, 0, none⟩ (.int .i64 Kv)).setCell ⟨gB, 1, none⟩ (.int .i64 Iv)).setCell ⟨gB, 2, none⟩ (.float .f64 Fv)).setCell ⟨gB, 3, none⟩ (.string Zv)).setCell ⟨gB, 4, none⟩ (.slice qv mv dv)) = Wg
          intro HGF
          go_wp2_with fail
          go_meet
          exact ⟨_, _, Kt, It, Ft, Zt, qt, mt, dt, Kv, Iv, Fv, Zv, qv, mv, dv, rfl, rfl, rfl, HGF.out⟩
        refine any_have 4 [14, 2, 3, 4, 7, 8, 9, 10, 11, 12, 13] (fun a a' w' => ∃ (gA gC gE : Nat), ∃ (Kt It : Int) (Ft : Nat) (Zt : ByteArray) (qt : Option Addr) (mt dt : Nat) (Kv Iv : Int) (Fv : Nat) (Zv : ByteArray) (qv : Option Addr) (mv dv : Nat), a' = (((((((((((a.put (some 9) (.pointer (some ⟨gA, 0, none⟩))).put (some 51) (.slice (some ⟨gC, 0, none⟩) 1 1)).put (some 52) (.string ⟨#[bx]⟩)).put (some 53) (.agg #[.int .i64 3, .int .i64 0, .float .f64 0, .string ⟨#[bx]⟩, .slice none 0 0])).put (some 56) (.agg #[.int .i64 1, .int .i64 (97 + (cx : Int)), .float .f64 0, .string ⟨#[]⟩, .slice none 0 0])).put (some 57) (.slice (some ⟨gE, 0, none⟩) 2 2)).put (some 58) (.tuple #[.agg #[.int .i64 Kt, .int .i64 It, .float .f64 Ft, .string Zt, .slice qt mt dt], .agg #[.int .i64 Kv, .int .i64 Iv, .float .f64 Fv, .string Zv, .slice qv mv dv], .int .i64 0])).put (some 48) (.tuple #[.agg #[.int .i64 Kt, .int .i64 It, .float .f64 Ft, .string Zt, .slice qt mt dt], .agg #[.int .i64 Kv, .int .i64 Iv, .float .f64 Fv, .string Zv, .slice qv mv dv], .int .i64 0])).put (some 59) (.agg #[.int .i64 Kt, .int .i64 It, .float .f64 Ft, .string Zt, .slice qt mt dt])).put (some 60) (.agg #[.int .i64 Kv, .int .i64 Iv, .float .f64 Fv, .string Zv, .slice qv mv dv])).put (some 61) (.int .i64 0)) ∧ KB w sb qs ms ds mb KL w' ∧ Below wr.heap.size wr w' ∧ SBX w' gA (.int .i64 0) (.int .i64 0) (.float .f64 0) (.string ⟨#[]⟩) (.slice none 0 0) ∧ wr.heap.size ≤ gA ∧ RepS (fun b => wr.heap.size ≤ b ∧ b ≠ gA) w' 3 (.agg #[.int .i64 Kt, .int .i64 It, .float .f64 Ft, .string Zt, .slice qt mt dt]) (TT) ∧ RepS (fun b => wr.heap.size ≤ b ∧ b ≠ gA) w' 1 (.agg #[.int .i64 Kv, .int .i64 Iv, .float .f64 Fv, .string Zv, .slice qv mv dv]) (UU)) ?phK106m (fun hK106 => ?_)
        case phK106m =>
          intro a' w' hst hHeld
          obtain ⟨gA, gC, gE, Kt, It, Ft, Zt, qt, mt, dt, Kv, Iv, Fv, Zv, qv, mv, dv, rfl, hq, hbd, hsA, hgA, ht, hv⟩ := hst
          (try simp only [Act.put, List.setIfInBounds_toArray, List.set_cons_zero, List.set_cons_succ])
          refine wpAnyH_ready (rs := [15]) (by kernel_rfl) (by simp) ?_
          refine AllReadyH.cons (o := ?_) ?hoBhK106m ?hstBhK106m AllReadyH.nil
          case hoBhK106m => (simp only [List.getElem?_toArray, List.getElem?_cons_zero, List.getElem?_cons_succ]; rfl)
          case hstBhK106m =>
            intro K hK
            go_simp
            refine hK.out _ _ ?hsBhK106m (fun hHeld => ?_)
            case hsBhK106m => exact ((kb_step hq (bel_alloc (Below.refl _ _) (.cells #[.int .i64 0, .int .i64 0, .float .f64 0, .string ⟨#[]⟩, .slice none 0 0] 27)))).1.1
            clear hK K
            (try simp only [Act.put, List.setIfInBounds_toArray, List.set_cons_zero, List.set_cons_succ])
            exact any_eq (by kernel_rfl) (by kernel_rfl) (hK116 _ _ ⟨gA, _, gC, gE, Kt, It, Ft, Zt, qt, mt, dt, Kv, Iv, Fv, Zv, qv, mv, dv, rfl, (kb_step hq (bel_alloc (Below.refl _ _) (.cells #[.int .i64 0, .int .i64 0, .float .f64 0, .string ⟨#[]⟩, .slice none 0 0] 27))), (bel_step hbd (bel_alloc (Below.refl _ _) (.cells #[.int .i64 0, .int .i64 0, .float .f64 0, .string ⟨#[]⟩, .slice none 0 0] 27))), (sbx_step hsA (bel_alloc (Below.refl _ _) (.cells #[.int .i64 0, .int .i64 0, .float .f64 0, .string ⟨#[]⟩, .slice none 0 0] 27))), hgA, ⟨cs_new rfl, fun o => row_frz (row_alloc _ _ _) o⟩, hbd.size, (by have h := cs_lt hsA.1; omega), (repS_step (bel_alloc (Below.refl _ _) (.cells #[.int .i64 0, .int .i64 0, .float .f64 0, .string ⟨#[]⟩, .slice none 0 0] 27)) (repS_mono (fun b hb => ⟨hb.1.1, hb.1.2, Nat.ne_of_lt hb.2⟩) _ _ _ (repS_lt _ _ _ ht))), (repS_step (bel_alloc (Below.refl _ _) (.cells #[.int .i64 0, .int .i64 0, .float .f64 0, .string ⟨#[]⟩, .slice none 0 0] 27)) (repS_mono (fun b hb => ⟨hb.1.1, hb.1.2, Nat.ne_of_lt hb.2⟩) _ _ _ (repS_lt _ _ _ hv)))⟩ hHeld)
        refine any_have 4 [15, 2, 3, 4, 7, 8, 9, 10, 11, 12, 13] (fun a a' w' => ∃ (gB gC gE : Nat), ∃ (Kt It : Int) (Ft : Nat) (Zt : ByteArray) (qt : Option Addr) (mt dt : Nat) (Kv Iv : Int) (Fv : Nat) (Zv : ByteArray) (qv : Option Addr) (mv dv : Nat), a' = (((((((((((a.put (some 10) (.pointer (some ⟨gB, 0, none⟩))).put (some 51) (.slice (some ⟨gC, 0, none⟩) 1 1)).put (some 52) (.string ⟨#[bx]⟩)).put (some 53) (.agg #[.int .i64 3, .int .i64 0, .float .f64 0, .string ⟨#[bx]⟩, .slice none 0 0])).put (some 56) (.agg #[.int .i64 1, .int .i64 (97 + (cx : Int)), .float .f64 0, .string ⟨#[]⟩, .slice none 0 0])).put (some 57) (.slice (some ⟨gE, 0, none⟩) 2 2)).put (some 58) (.tuple #[.agg #[.int .i64 Kt, .int .i64 It, .float .f64 Ft, .string Zt, .slice qt mt dt], .agg #[.int .i64 Kv, .int .i64 Iv, .float .f64 Fv, .string Zv, .slice qv mv dv], .int .i64 0])).put (some 48) (.tuple #[.agg #[.int .i64 Kt, .int .i64 It, .float .f64 Ft, .string Zt, .slice qt mt dt], .agg #[.int .i64 Kv, .int .i64 Iv, .float .f64 Fv, .string Zv, .slice qv mv dv], .int .i64 0])).put (some 59) (.agg #[.int .i64 Kt, .int .i64 It, .float .f64 Ft, .string Zt, .slice qt mt dt])).put (some 60) (.agg #[.int .i64 Kv, .int .i64 Iv, .float .f64 Fv, .string Zv, .slice qv mv dv])).put (some 61) (.int .i64 0)) ∧ KB w sb qs ms ds mb KL w' ∧ Below wr.heap.size wr w' ∧ SBX w' gB (.int .i64 0) (.int .i64 0) (.float .f64 0) (.string ⟨#[]⟩) (.slice none 0 0) ∧ wr.heap.size ≤ gB ∧ RepS (fun b => wr.heap.size ≤ b ∧ b ≠ gB) w' 3 (.agg #[.int .i64 Kt, .int .i64 It, .float .f64 Ft, .string Zt, .slice qt mt dt]) (TT) ∧ RepS (fun b => wr.heap.size ≤ b ∧ b ≠ gB) w' 1 (.agg #[.int .i64 Kv, .int .i64 Iv, .float .f64 Fv, .string Zv, .slice qv mv dv]) (UU)) ?phK016m (fun hK016 => ?_)
        case phK016m =>
          intro a' w' hst hHeld
          obtain ⟨gB, gC, gE, Kt, It, Ft, Zt, qt, mt, dt, Kv, Iv, Fv, Zv, qv, mv, dv, rfl, hq, hbd, hsB, hgB, ht, hv⟩ := hst
          (try simp only [Act.put, List.setIfInBounds_toArray, List.set_cons_zero, List.set_cons_succ])
          refine wpAnyH_ready (rs := [14]) (by kernel_rfl) (by simp) ?_
          refine AllReadyH.cons (o := ?_) ?hoAhK016m ?hstAhK016m AllReadyH.nil
          case hoAhK016m => (simp only [List.getElem?_toArray, List.getElem?_cons_zero, List.getElem?_cons_succ]; rfl)
          case hstAhK016m =>
            intro K hK
            go_simp
            refine hK.out _ _ ?hsAhK016m (fun hHeld => ?_)
            case hsAhK016m => exact ((kb_step hq (bel_alloc (Below.refl _ _) (.cells #[.int .i64 0, .int .i64 0, .float .f64 0, .string ⟨#[]⟩, .slice none 0 0] 27)))).1.1
            clear hK K
            (try simp only [Act.put, List.setIfInBounds_toArray, List.set_cons_zero, List.set_cons_succ])
            exact any_eq (by kernel_rfl) (by kernel_rfl) (hK116 _ _ ⟨_, gB, gC, gE, Kt, It, Ft, Zt, qt, mt, dt, Kv, Iv, Fv, Zv, qv, mv, dv, rfl, (kb_step hq (bel_alloc (Below.refl _ _) (.cells #[.int .i64 0, .int .i64 0, .float .f64 0, .string ⟨#[]⟩, .slice none 0 0] 27))), (bel_step hbd (bel_alloc (Below.refl _ _) (.cells #[.int .i64 0, .int .i64 0, .float .f64 0, .string ⟨#[]⟩, .slice none 0 0] 27))), ⟨cs_new rfl, fun o => row_frz (row_alloc _ _ _) o⟩, hbd.size, (sbx_step hsB (bel_alloc (Below.refl _ _) (.cells #[.int .i64 0, .int .i64 0, .float .f64 0, .string ⟨#[]⟩, .slice none 0 0] 27))), hgB, (by have h := cs_lt hsB.1; omega), (repS_step (bel_alloc (Below.refl _ _) (.cells #[.int .i64 0, .int .i64 0, .float .f64 0, .string ⟨#[]⟩, .slice none 0 0] 27)) (repS_mono (fun b hb => ⟨hb.1.1, Nat.ne_of_lt hb.2, hb.1.2⟩) _ _ _ (repS_lt _ _ _ ht))), (repS_step (bel_alloc (Below.refl _ _) (.cells #[.int .i64 0, .int .i64 0, .float .f64 0, .string ⟨#[]⟩, .slice none 0 0] 27)) (repS_mono (fun b hb => ⟨hb.1.1, Nat.ne_of_lt hb.2, hb.1.2⟩) _ _ _ (repS_lt _ _ _ hv)))⟩ hHeld)
        refine any_have 5 [2, 3, 4, 7, 8, 9, 10, 11, 12, 13] (fun a a' w' => ∃ (gC gE : Nat), ∃ (Kt It : Int) (Ft : Nat) (Zt : ByteArray) (qt : Option Addr) (mt dt : Nat) (Kv Iv : Int) (Fv : Nat) (Zv : ByteArray) (qv : Option Addr) (mv dv : Nat), a' = ((((((((((a.put (some 51) (.slice (some ⟨gC, 0, none⟩) 1 1)).put (some 52) (.string ⟨#[bx]⟩)).put (some 53) (.agg #[.int .i64 3, .int .i64 0, .float .f64 0, .string ⟨#[bx]⟩, .slice none 0 0])).put (some 56) (.agg #[.int .i64 1, .int .i64 (97 + (cx : Int)), .float .f64 0, .string ⟨#[]⟩, .slice none 0 0])).put (some 57) (.slice (some ⟨gE, 0, none⟩) 2 2)).put (some 58) (.tuple #[.agg #[.int .i64 Kt, .int .i64 It, .float .f64 Ft, .string Zt, .slice qt mt dt], .agg #[.int .i64 Kv, .int .i64 Iv, .float .f64 Fv, .string Zv, .slice qv mv dv], .int .i64 0])).put (some 48) (.tuple #[.agg #[.int .i64 Kt, .int .i64 It, .float .f64 Ft, .string Zt, .slice qt mt dt], .agg #[.int .i64 Kv, .int .i64 Iv, .float .f64 Fv, .string Zv, .slice qv mv dv], .int .i64 0])).put (some 59) (.agg #[.int .i64 Kt, .int .i64 It, .float .f64 Ft, .string Zt, .slice qt mt dt])).put (some 60) (.agg #[.int .i64 Kv, .int .i64 Iv, .float .f64 Fv, .string Zv, .slice qv mv dv])).put (some 61) (.int .i64 0)) ∧ KB w sb qs ms ds mb KL w' ∧ Below wr.heap.size wr w' ∧ RepS (fun b => wr.heap.size ≤ b) w' 3 (.agg #[.int .i64 Kt, .int .i64 It, .float .f64 Ft, .string Zt, .slice qt mt dt]) (TT) ∧ RepS (fun b => wr.heap.size ≤ b) w' 1 (.agg #[.int .i64 Kv, .int .i64 Iv, .float .f64 Fv, .string Zv, .slice qv mv dv]) (UU)) ?phK006m (fun hK006 => ?_)
        case phK006m =>
          intro a' w' hst hHeld
          obtain ⟨gC, gE, Kt, It, Ft, Zt, qt, mt, dt, Kv, Iv, Fv, Zv, qv, mv, dv, rfl, hq, hbd, ht, hv⟩ := hst
          (try simp only [Act.put, List.setIfInBounds_toArray, List.set_cons_zero, List.set_cons_succ])
          refine wpAnyH_ready (rs := [14, 15]) (by kernel_rfl) (by simp) ?_
          refine AllReadyH.cons (o := ?_) ?hoAhK006m ?hstAhK006m (AllReadyH.cons (o := ?_) ?hoBhK006m ?hstBhK006m AllReadyH.nil)
          case hoAhK006m => (simp only [List.getElem?_toArray, List.getElem?_cons_zero, List.getElem?_cons_succ]; rfl)
          case hoBhK006m => (simp only [List.getElem?_toArray, List.getElem?_cons_zero, List.getElem?_cons_succ]; rfl)
          case hstAhK006m =>
            intro K hK
            go_simp
            refine hK.out _ _ ?hsAhK006m (fun hHeld => ?_)
            case hsAhK006m => exact ((kb_step hq (bel_alloc (Below.refl _ _) (.cells #[.int .i64 0, .int .i64 0, .float .f64 0, .string ⟨#[]⟩, .slice none 0 0] 27)))).1.1
            clear hK K
            (try simp only [Act.put, List.setIfInBounds_toArray, List.set_cons_zero, List.set_cons_succ])
            exact any_eq (by kernel_rfl) (by kernel_rfl) (hK106 _ _ ⟨_, gC, gE, Kt, It, Ft, Zt, qt, mt, dt, Kv, Iv, Fv, Zv, qv, mv, dv, rfl, (kb_step hq (bel_alloc (Below.refl _ _) (.cells #[.int .i64 0, .int .i64 0, .float .f64 0, .string ⟨#[]⟩, .slice none 0 0] 27))), (bel_step hbd (bel_alloc (Below.refl _ _) (.cells #[.int .i64 0, .int .i64 0, .float .f64 0, .string ⟨#[]⟩, .slice none 0 0] 27))), ⟨cs_new rfl, fun o => row_frz (row_alloc _ _ _) o⟩, hbd.size, (repS_step (bel_alloc (Below.refl _ _) (.cells #[.int .i64 0, .int .i64 0, .float .f64 0, .string ⟨#[]⟩, .slice none 0 0] 27)) (repS_mono (fun b hb => ⟨hb.1, Nat.ne_of_lt hb.2⟩) _ _ _ (repS_lt _ _ _ ht))), (repS_step (bel_alloc (Below.refl _ _) (.cells #[.int .i64 0, .int .i64 0, .float .f64 0, .string ⟨#[]⟩, .slice none 0 0] 27)) (repS_mono (fun b hb => ⟨hb.1, Nat.ne_of_lt hb.2⟩) _ _ _ (repS_lt _ _ _ hv)))⟩ hHeld)
          case hstBhK006m =>
            intro K hK
            go_simp
            refine hK.out _ _ ?hsBhK006m (fun hHeld => ?_)
            case hsBhK006m => exact ((kb_step hq (bel_alloc (Below.refl _ _) (.cells #[.int .i64 0, .int .i64 0, .float .f64 0, .string ⟨#[]⟩, .slice none 0 0] 27)))).1.1
            clear hK K
            (try simp only [Act.put, List.setIfInBounds_toArray, List.set_cons_zero, List.set_cons_succ])
            exact any_eq (by kernel_rfl) (by kernel_rfl) (hK016 _ _ ⟨_, gC, gE, Kt, It, Ft, Zt, qt, mt, dt, Kv, Iv, Fv, Zv, qv, mv, dv, rfl, (kb_step hq (bel_alloc (Below.refl _ _) (.cells #[.int .i64 0, .int .i64 0, .float .f64 0, .string ⟨#[]⟩, .slice none 0 0] 27))), (bel_step hbd (bel_alloc (Below.refl _ _) (.cells #[.int .i64 0, .int .i64 0, .float .f64 0, .string ⟨#[]⟩, .slice none 0 0] 27))), ⟨cs_new rfl, fun o => row_frz (row_alloc _ _ _) o⟩, hbd.size, (repS_step (bel_alloc (Below.refl _ _) (.cells #[.int .i64 0, .int .i64 0, .float .f64 0, .string ⟨#[]⟩, .slice none 0 0] 27)) (repS_mono (fun b hb => ⟨hb.1, Nat.ne_of_lt hb.2⟩) _ _ _ (repS_lt _ _ _ ht))), (repS_step (bel_alloc (Below.refl _ _) (.cells #[.int .i64 0, .int .i64 0, .float .f64 0, .string ⟨#[]⟩, .slice none 0 0] 27)) (repS_mono (fun b hb => ⟨hb.1, Nat.ne_of_lt hb.2⟩) _ _ _ (repS_lt _ _ _ hv)))⟩ hHeld)
        refine any_have 8 [14, 15, 2, 3, 4, 7, 8] (fun a a' w' => ∃ (gA gB gC gE : Nat), a' = (((((((a.put (some 9) (.pointer (some ⟨gA, 0, none⟩))).put (some 10) (.pointer (some ⟨gB, 0, none⟩))).put (some 51) (.slice (some ⟨gC, 0, none⟩) 1 1)).put (some 52) (.string ⟨#[bx]⟩)).put (some 53) (.agg #[.int .i64 3, .int .i64 0, .float .f64 0, .string ⟨#[bx]⟩, .slice none 0 0])).put (some 56) (.agg #[.int .i64 1, .int .i64 (97 + (cx : Int)), .float .f64 0, .string ⟨#[]⟩, .slice none 0 0])).put (some 57) (.slice (some ⟨gE, 0, none⟩) 2 2)) ∧ KB w sb qs ms ds mb KL w' ∧ Below wr.heap.size wr w' ∧ SBX w' gA (.int .i64 0) (.int .i64 0) (.float .f64 0) (.string ⟨#[]⟩) (.slice none 0 0) ∧ wr.heap.size ≤ gA ∧ SBX w' gB (.int .i64 0) (.int .i64 0) (.float .f64 0) (.string ⟨#[]⟩) (.slice none 0 0) ∧ wr.heap.size ≤ gB ∧ gA ≠ gB ∧ LV gE (nmK cx) 1 (97 + (cx : Int)) 0 ⟨#[]⟩ w') ?phK115m (fun hK115 => ?_)
        case phK115m =>
          intro a' w' hst hHeld
          obtain ⟨gA, gB, gC, gE, rfl, hq, hbd, hsA, hgA, hsB, hgB, hne, hlv⟩ := hst
          (try simp only [Act.put, List.setIfInBounds_toArray, List.set_cons_zero, List.set_cons_succ])
          refine wpAnyH_ready (rs := [9]) (by kernel_rfl) (by simp) ?_
          refine AllReadyH.cons (o := ?_) ?hoXhK115m ?hstXhK115m AllReadyH.nil
          case hoXhK115m => (simp only [List.getElem?_toArray, List.getElem?_cons_zero, List.getElem?_cons_succ]; rfl)
          case hstXhK115m =>
            intro K hK
            go_simp
            have hrp := repS_rep _ _ _ (repS_step hbd HSTr.out); go_at_call 12; refine (HDO.out _ _ hrp hlv).mono ?_; rintro e wD ⟨tt, vv, rfl, hbT, ht, hv⟩; obtain ⟨Kt, It, Ft, Zt, qt, mt, dt, rfl, _⟩ := repS_shape ht; obtain ⟨Kv, Iv, Fv, Zv, qv, mv, dv, rfl, _⟩ := repS_shape hv
            go_wp2_with fail
            refine hK.out _ _ ?hsXhK115m (fun hHeld => ?_)
            case hsXhK115m => exact ((kb_step hq hbT)).1.1
            clear hK K
            (try simp only [Act.put, List.setIfInBounds_toArray, List.set_cons_zero, List.set_cons_succ])
            refine wpAnyH_take (i := 10) (oi := ?_) (v := ?_) ?hiXhK115m10 (by kernel_rfl) ?hfXhK115m10 ?hrXhK115m10 ?hQXhK115m10 ?hyXhK115m10 (by assumption) ?restXhK115m10
            case hiXhK115m10 => (simp only [List.getElem?_toArray, List.getElem?_cons_zero, List.getElem?_cons_succ]; rfl)
            case hfXhK115m10 => kernel_rfl
            case hrXhK115m10 => kernel_rfl
            case hyXhK115m10 => (refine Or.inl ⟨by rfl, ?_⟩; intro wS hSw; (try dsimp only at hSw); go_simp; (try with_reducible rfl))
            case hQXhK115m10 => exact fun _ _ _ h => h
            (try simp only [Act.put, List.setIfInBounds_toArray, List.set_cons_zero, List.set_cons_succ])
            refine wpAnyH_take (i := 11) (oi := ?_) (v := ?_) ?hiXhK115m11 (by kernel_rfl) ?hfXhK115m11 ?hrXhK115m11 ?hQXhK115m11 ?hyXhK115m11 (by assumption) ?restXhK115m11
            case hiXhK115m11 => (simp only [List.getElem?_toArray, List.getElem?_cons_zero, List.getElem?_cons_succ]; rfl)
            case hfXhK115m11 => kernel_rfl
            case hrXhK115m11 => kernel_rfl
            case hyXhK115m11 => (refine Or.inl ⟨by rfl, ?_⟩; intro wS hSw; (try dsimp only at hSw); go_simp; (try with_reducible rfl))
            case hQXhK115m11 => exact fun _ _ _ h => h
            (try simp only [Act.put, List.setIfInBounds_toArray, List.set_cons_zero, List.set_cons_succ])
            refine wpAnyH_take (i := 12) (oi := ?_) (v := ?_) ?hiXhK115m12 (by kernel_rfl) ?hfXhK115m12 ?hrXhK115m12 ?hQXhK115m12 ?hyXhK115m12 (by assumption) ?restXhK115m12
            case hiXhK115m12 => (simp only [List.getElem?_toArray, List.getElem?_cons_zero, List.getElem?_cons_succ]; rfl)
            case hfXhK115m12 => kernel_rfl
            case hrXhK115m12 => kernel_rfl
            case hyXhK115m12 => (refine Or.inl ⟨by rfl, ?_⟩; intro wS hSw; (try dsimp only at hSw); go_simp; (try with_reducible rfl))
            case hQXhK115m12 => exact fun _ _ _ h => h
            (try simp only [Act.put, List.setIfInBounds_toArray, List.set_cons_zero, List.set_cons_succ])
            refine wpAnyH_take (i := 13) (oi := ?_) (v := ?_) ?hiXhK115m13 (by kernel_rfl) ?hfXhK115m13 ?hrXhK115m13 ?hQXhK115m13 ?hyXhK115m13 (by assumption) ?restXhK115m13
            case hiXhK115m13 => (simp only [List.getElem?_toArray, List.getElem?_cons_zero, List.getElem?_cons_succ]; rfl)
            case hfXhK115m13 => kernel_rfl
            case hrXhK115m13 => kernel_rfl
            case hyXhK115m13 => (refine Or.inl ⟨by rfl, ?_⟩; intro wS hSw; (try dsimp only at hSw); go_simp; (try with_reducible rfl))
            case hQXhK115m13 => exact fun _ _ _ h => h
            (try simp only [Act.put, List.setIfInBounds_toArray, List.set_cons_zero, List.set_cons_succ])
            exact any_eq (by kernel_rfl) (by kernel_rfl) (hK116 _ _ ⟨gA, gB, gC, gE, Kt, It, Ft, Zt, qt, mt, dt, Kv, Iv, Fv, Zv, qv, mv, dv, rfl, (kb_step hq hbT), (bel_step hbd hbT), (sbx_step hsA hbT), hgA, (sbx_step hsB hbT), hgB, hne, (repS_mono (fun b hb => ⟨Nat.le_trans hbd.size hb, (by have h := cs_lt hsA.1; have h2 : _ ≤ b := hb; omega), (by have h := cs_lt hsB.1; have h2 : _ ≤ b := hb; omega)⟩) _ _ _ ht), (repS_mono (fun b hb => ⟨Nat.le_trans hbd.size hb, (by have h := cs_lt hsA.1; have h2 : _ ≤ b := hb; omega), (by have h := cs_lt hsB.1; have h2 : _ ≤ b := hb; omega)⟩) _ _ _ hv)⟩ hHeld)
        refine any_have 9 [14, 2, 3, 4, 7, 8] (fun a a' w' => ∃ (gA gC gE : Nat), a' = ((((((a.put (some 9) (.pointer (some ⟨gA, 0, none⟩))).put (some 51) (.slice (some ⟨gC, 0, none⟩) 1 1)).put (some 52) (.string ⟨#[bx]⟩)).put (some 53) (.agg #[.int .i64 3, .int .i64 0, .float .f64 0, .string ⟨#[bx]⟩, .slice none 0 0])).put (some 56) (.agg #[.int .i64 1, .int .i64 (97 + (cx : Int)), .float .f64 0, .string ⟨#[]⟩, .slice none 0 0])).put (some 57) (.slice (some ⟨gE, 0, none⟩) 2 2)) ∧ KB w sb qs ms ds mb KL w' ∧ Below wr.heap.size wr w' ∧ SBX w' gA (.int .i64 0) (.int .i64 0) (.float .f64 0) (.string ⟨#[]⟩) (.slice none 0 0) ∧ wr.heap.size ≤ gA ∧ LV gE (nmK cx) 1 (97 + (cx : Int)) 0 ⟨#[]⟩ w') ?phK105m (fun hK105 => ?_)
        case phK105m =>
          intro a' w' hst hHeld
          obtain ⟨gA, gC, gE, rfl, hq, hbd, hsA, hgA, hlv⟩ := hst
          (try simp only [Act.put, List.setIfInBounds_toArray, List.set_cons_zero, List.set_cons_succ])
          refine wpAnyH_ready (rs := [9, 15]) (by kernel_rfl) (by simp) ?_
          refine AllReadyH.cons (o := ?_) ?hoXhK105m ?hstXhK105m (AllReadyH.cons (o := ?_) ?hoBhK105m ?hstBhK105m AllReadyH.nil)
          case hoXhK105m => (simp only [List.getElem?_toArray, List.getElem?_cons_zero, List.getElem?_cons_succ]; rfl)
          case hoBhK105m => (simp only [List.getElem?_toArray, List.getElem?_cons_zero, List.getElem?_cons_succ]; rfl)
          case hstXhK105m =>
            intro K hK
            go_simp
            have hrp := repS_rep _ _ _ (repS_step hbd HSTr.out); go_at_call 12; refine (HDO.out _ _ hrp hlv).mono ?_; rintro e wD ⟨tt, vv, rfl, hbT, ht, hv⟩; obtain ⟨Kt, It, Ft, Zt, qt, mt, dt, rfl, _⟩ := repS_shape ht; obtain ⟨Kv, Iv, Fv, Zv, qv, mv, dv, rfl, _⟩ := repS_shape hv
            go_wp2_with fail
            refine hK.out _ _ ?hsXhK105m (fun hHeld => ?_)
            case hsXhK105m => exact ((kb_step hq hbT)).1.1
            clear hK K
            (try simp only [Act.put, List.setIfInBounds_toArray, List.set_cons_zero, List.set_cons_succ])
            refine wpAnyH_take (i := 10) (oi := ?_) (v := ?_) ?hiXhK105m10 (by kernel_rfl) ?hfXhK105m10 ?hrXhK105m10 ?hQXhK105m10 ?hyXhK105m10 (by assumption) ?restXhK105m10
            case hiXhK105m10 => (simp only [List.getElem?_toArray, List.getElem?_cons_zero, List.getElem?_cons_succ]; rfl)
            case hfXhK105m10 => kernel_rfl
            case hrXhK105m10 => kernel_rfl
            case hyXhK105m10 => (refine Or.inl ⟨by rfl, ?_⟩; intro wS hSw; (try dsimp only at hSw); go_simp; (try with_reducible rfl))
            case hQXhK105m10 => exact fun _ _ _ h => h
            (try simp only [Act.put, List.setIfInBounds_toArray, List.set_cons_zero, List.set_cons_succ])
            refine wpAnyH_take (i := 11) (oi := ?_) (v := ?_) ?hiXhK105m11 (by kernel_rfl) ?hfXhK105m11 ?hrXhK105m11 ?hQXhK105m11 ?hyXhK105m11 (by assumption) ?restXhK105m11
            case hiXhK105m11 => (simp only [List.getElem?_toArray, List.getElem?_cons_zero, List.getElem?_cons_succ]; rfl)
            case hfXhK105m11 => kernel_rfl
            case hrXhK105m11 => kernel_rfl
            case hyXhK105m11 => (refine Or.inl ⟨by rfl, ?_⟩; intro wS hSw; (try dsimp only at hSw); go_simp; (try with_reducible rfl))
            case hQXhK105m11 => exact fun _ _ _ h => h
            (try simp only [Act.put, List.setIfInBounds_toArray, List.set_cons_zero, List.set_cons_succ])
            refine wpAnyH_take (i := 12) (oi := ?_) (v := ?_) ?hiXhK105m12 (by kernel_rfl) ?hfXhK105m12 ?hrXhK105m12 ?hQXhK105m12 ?hyXhK105m12 (by assumption) ?restXhK105m12
            case hiXhK105m12 => (simp only [List.getElem?_toArray, List.getElem?_cons_zero, List.getElem?_cons_succ]; rfl)
            case hfXhK105m12 => kernel_rfl
            case hrXhK105m12 => kernel_rfl
            case hyXhK105m12 => (refine Or.inl ⟨by rfl, ?_⟩; intro wS hSw; (try dsimp only at hSw); go_simp; (try with_reducible rfl))
            case hQXhK105m12 => exact fun _ _ _ h => h
            (try simp only [Act.put, List.setIfInBounds_toArray, List.set_cons_zero, List.set_cons_succ])
            refine wpAnyH_take (i := 13) (oi := ?_) (v := ?_) ?hiXhK105m13 (by kernel_rfl) ?hfXhK105m13 ?hrXhK105m13 ?hQXhK105m13 ?hyXhK105m13 (by assumption) ?restXhK105m13
            case hiXhK105m13 => (simp only [List.getElem?_toArray, List.getElem?_cons_zero, List.getElem?_cons_succ]; rfl)
            case hfXhK105m13 => kernel_rfl
            case hrXhK105m13 => kernel_rfl
            case hyXhK105m13 => (refine Or.inl ⟨by rfl, ?_⟩; intro wS hSw; (try dsimp only at hSw); go_simp; (try with_reducible rfl))
            case hQXhK105m13 => exact fun _ _ _ h => h
            (try simp only [Act.put, List.setIfInBounds_toArray, List.set_cons_zero, List.set_cons_succ])
            exact any_eq (by kernel_rfl) (by kernel_rfl) (hK106 _ _ ⟨gA, gC, gE, Kt, It, Ft, Zt, qt, mt, dt, Kv, Iv, Fv, Zv, qv, mv, dv, rfl, (kb_step hq hbT), (bel_step hbd hbT), (sbx_step hsA hbT), hgA, (repS_mono (fun b hb => ⟨Nat.le_trans hbd.size hb, (by have h := cs_lt hsA.1; have h2 : _ ≤ b := hb; omega)⟩) _ _ _ ht), (repS_mono (fun b hb => ⟨Nat.le_trans hbd.size hb, (by have h := cs_lt hsA.1; have h2 : _ ≤ b := hb; omega)⟩) _ _ _ hv)⟩ hHeld)
          case hstBhK105m =>
            intro K hK
            go_simp
            refine hK.out _ _ ?hsBhK105m (fun hHeld => ?_)
            case hsBhK105m => exact ((kb_step hq (bel_alloc (Below.refl _ _) (.cells #[.int .i64 0, .int .i64 0, .float .f64 0, .string ⟨#[]⟩, .slice none 0 0] 27)))).1.1
            clear hK K
            (try simp only [Act.put, List.setIfInBounds_toArray, List.set_cons_zero, List.set_cons_succ])
            exact any_eq (by kernel_rfl) (by kernel_rfl) (hK115 _ _ ⟨gA, _, gC, gE, rfl, (kb_step hq (bel_alloc (Below.refl _ _) (.cells #[.int .i64 0, .int .i64 0, .float .f64 0, .string ⟨#[]⟩, .slice none 0 0] 27))), (bel_step hbd (bel_alloc (Below.refl _ _) (.cells #[.int .i64 0, .int .i64 0, .float .f64 0, .string ⟨#[]⟩, .slice none 0 0] 27))), (sbx_step hsA (bel_alloc (Below.refl _ _) (.cells #[.int .i64 0, .int .i64 0, .float .f64 0, .string ⟨#[]⟩, .slice none 0 0] 27))), hgA, ⟨cs_new rfl, fun o => row_frz (row_alloc _ _ _) o⟩, hbd.size, (by have h := cs_lt hsA.1; omega), (lv_step hlv (bel_alloc (Below.refl _ _) (.cells #[.int .i64 0, .int .i64 0, .float .f64 0, .string ⟨#[]⟩, .slice none 0 0] 27)))⟩ hHeld)
        refine any_have 9 [15, 2, 3, 4, 7, 8] (fun a a' w' => ∃ (gB gC gE : Nat), a' = ((((((a.put (some 10) (.pointer (some ⟨gB, 0, none⟩))).put (some 51) (.slice (some ⟨gC, 0, none⟩) 1 1)).put (some 52) (.string ⟨#[bx]⟩)).put (some 53) (.agg #[.int .i64 3, .int .i64 0, .float .f64 0, .string ⟨#[bx]⟩, .slice none 0 0])).put (some 56) (.agg #[.int .i64 1, .int .i64 (97 + (cx : Int)), .float .f64 0, .string ⟨#[]⟩, .slice none 0 0])).put (some 57) (.slice (some ⟨gE, 0, none⟩) 2 2)) ∧ KB w sb qs ms ds mb KL w' ∧ Below wr.heap.size wr w' ∧ SBX w' gB (.int .i64 0) (.int .i64 0) (.float .f64 0) (.string ⟨#[]⟩) (.slice none 0 0) ∧ wr.heap.size ≤ gB ∧ LV gE (nmK cx) 1 (97 + (cx : Int)) 0 ⟨#[]⟩ w') ?phK015m (fun hK015 => ?_)
        case phK015m =>
          intro a' w' hst hHeld
          obtain ⟨gB, gC, gE, rfl, hq, hbd, hsB, hgB, hlv⟩ := hst
          (try simp only [Act.put, List.setIfInBounds_toArray, List.set_cons_zero, List.set_cons_succ])
          refine wpAnyH_ready (rs := [9, 14]) (by kernel_rfl) (by simp) ?_
          refine AllReadyH.cons (o := ?_) ?hoXhK015m ?hstXhK015m (AllReadyH.cons (o := ?_) ?hoAhK015m ?hstAhK015m AllReadyH.nil)
          case hoXhK015m => (simp only [List.getElem?_toArray, List.getElem?_cons_zero, List.getElem?_cons_succ]; rfl)
          case hoAhK015m => (simp only [List.getElem?_toArray, List.getElem?_cons_zero, List.getElem?_cons_succ]; rfl)
          case hstXhK015m =>
            intro K hK
            go_simp
            have hrp := repS_rep _ _ _ (repS_step hbd HSTr.out); go_at_call 12; refine (HDO.out _ _ hrp hlv).mono ?_; rintro e wD ⟨tt, vv, rfl, hbT, ht, hv⟩; obtain ⟨Kt, It, Ft, Zt, qt, mt, dt, rfl, _⟩ := repS_shape ht; obtain ⟨Kv, Iv, Fv, Zv, qv, mv, dv, rfl, _⟩ := repS_shape hv
            go_wp2_with fail
            refine hK.out _ _ ?hsXhK015m (fun hHeld => ?_)
            case hsXhK015m => exact ((kb_step hq hbT)).1.1
            clear hK K
            (try simp only [Act.put, List.setIfInBounds_toArray, List.set_cons_zero, List.set_cons_succ])
            refine wpAnyH_take (i := 10) (oi := ?_) (v := ?_) ?hiXhK015m10 (by kernel_rfl) ?hfXhK015m10 ?hrXhK015m10 ?hQXhK015m10 ?hyXhK015m10 (by assumption) ?restXhK015m10
            case hiXhK015m10 => (simp only [List.getElem?_toArray, List.getElem?_cons_zero, List.getElem?_cons_succ]; rfl)
            case hfXhK015m10 => kernel_rfl
            case hrXhK015m10 => kernel_rfl
            case hyXhK015m10 => (refine Or.inl ⟨by rfl, ?_⟩; intro wS hSw; (try dsimp only at hSw); go_simp; (try with_reducible rfl))
            case hQXhK015m10 => exact fun _ _ _ h => h
            (try simp only [Act.put, List.setIfInBounds_toArray, List.set_cons_zero, List.set_cons_succ])
            refine wpAnyH_take (i := 11) (oi := ?_) (v := ?_) ?hiXhK015m11 (by kernel_rfl) ?hfXhK015m11 ?hrXhK015m11 ?hQXhK015m11 ?hyXhK015m11 (by assumption) ?restXhK015m11
            case hiXhK015m11 => (simp only [List.getElem?_toArray, List.getElem?_cons_zero, List.getElem?_cons_succ]; rfl)
            case hfXhK015m11 => kernel_rfl
            case hrXhK015m11 => kernel_rfl
            case hyXhK015m11 => (refine Or.inl ⟨by rfl, ?_⟩; intro wS hSw; (try dsimp only at hSw); go_simp; (try with_reducible rfl))
            case hQXhK015m11 => exact fun _ _ _ h => h
            (try simp only [Act.put, List.setIfInBounds_toArray, List.set_cons_zero, List.set_cons_succ])
            refine wpAnyH_take (i := 12) (oi := ?_) (v := ?_) ?hiXhK015m12 (by kernel_rfl) ?hfXhK015m12 ?hrXhK015m12 ?hQXhK015m12 ?hyXhK015m12 (by assumption) ?restXhK015m12
            case hiXhK015m12 => (simp only [List.getElem?_toArray, List.getElem?_cons_zero, List.getElem?_cons_succ]; rfl)
            case hfXhK015m12 => kernel_rfl
            case hrXhK015m12 => kernel_rfl
            case hyXhK015m12 => (refine Or.inl ⟨by rfl, ?_⟩; intro wS hSw; (try dsimp only at hSw); go_simp; (try with_reducible rfl))
            case hQXhK015m12 => exact fun _ _ _ h => h
            (try simp only [Act.put, List.setIfInBounds_toArray, List.set_cons_zero, List.set_cons_succ])
            refine wpAnyH_take (i := 13) (oi := ?_) (v := ?_) ?hiXhK015m13 (by kernel_rfl) ?hfXhK015m13 ?hrXhK015m13 ?hQXhK015m13 ?hyXhK015m13 (by assumption) ?restXhK015m13
            case hiXhK015m13 => (simp only [List.getElem?_toArray, List.getElem?_cons_zero, List.getElem?_cons_succ]; rfl)
            case hfXhK015m13 => kernel_rfl
            case hrXhK015m13 => kernel_rfl
            case hyXhK015m13 => (refine Or.inl ⟨by rfl, ?_⟩; intro wS hSw; (try dsimp only at hSw); go_simp; (try with_reducible rfl))
            case hQXhK015m13 => exact fun _ _ _ h => h
            (try simp only [Act.put, List.setIfInBounds_toArray, List.set_cons_zero, List.set_cons_succ])
            exact any_eq (by kernel_rfl) (by kernel_rfl) (hK016 _ _ ⟨gB, gC, gE, Kt, It, Ft, Zt, qt, mt, dt, Kv, Iv, Fv, Zv, qv, mv, dv, rfl, (kb_step hq hbT), (bel_step hbd hbT), (sbx_step hsB hbT), hgB, (repS_mono (fun b hb => ⟨Nat.le_trans hbd.size hb, (by have h := cs_lt hsB.1; have h2 : _ ≤ b := hb; omega)⟩) _ _ _ ht), (repS_mono (fun b hb => ⟨Nat.le_trans hbd.size hb, (by have h := cs_lt hsB.1; have h2 : _ ≤ b := hb; omega)⟩) _ _ _ hv)⟩ hHeld)
          case hstAhK015m =>
            intro K hK
            go_simp
            refine hK.out _ _ ?hsAhK015m (fun hHeld => ?_)
            case hsAhK015m => exact ((kb_step hq (bel_alloc (Below.refl _ _) (.cells #[.int .i64 0, .int .i64 0, .float .f64 0, .string ⟨#[]⟩, .slice none 0 0] 27)))).1.1
            clear hK K
            (try simp only [Act.put, List.setIfInBounds_toArray, List.set_cons_zero, List.set_cons_succ])
            exact any_eq (by kernel_rfl) (by kernel_rfl) (hK115 _ _ ⟨_, gB, gC, gE, rfl, (kb_step hq (bel_alloc (Below.refl _ _) (.cells #[.int .i64 0, .int .i64 0, .float .f64 0, .string ⟨#[]⟩, .slice none 0 0] 27))), (bel_step hbd (bel_alloc (Below.refl _ _) (.cells #[.int .i64 0, .int .i64 0, .float .f64 0, .string ⟨#[]⟩, .slice none 0 0] 27))), ⟨cs_new rfl, fun o => row_frz (row_alloc _ _ _) o⟩, hbd.size, (sbx_step hsB (bel_alloc (Below.refl _ _) (.cells #[.int .i64 0, .int .i64 0, .float .f64 0, .string ⟨#[]⟩, .slice none 0 0] 27))), hgB, (by have h := cs_lt hsB.1; omega), (lv_step hlv (bel_alloc (Below.refl _ _) (.cells #[.int .i64 0, .int .i64 0, .float .f64 0, .string ⟨#[]⟩, .slice none 0 0] 27)))⟩ hHeld)
        refine any_have 10 [2, 3, 4, 7, 8] (fun a a' w' => ∃ (gC gE : Nat), a' = (((((a.put (some 51) (.slice (some ⟨gC, 0, none⟩) 1 1)).put (some 52) (.string ⟨#[bx]⟩)).put (some 53) (.agg #[.int .i64 3, .int .i64 0, .float .f64 0, .string ⟨#[bx]⟩, .slice none 0 0])).put (some 56) (.agg #[.int .i64 1, .int .i64 (97 + (cx : Int)), .float .f64 0, .string ⟨#[]⟩, .slice none 0 0])).put (some 57) (.slice (some ⟨gE, 0, none⟩) 2 2)) ∧ KB w sb qs ms ds mb KL w' ∧ Below wr.heap.size wr w' ∧ LV gE (nmK cx) 1 (97 + (cx : Int)) 0 ⟨#[]⟩ w') ?phK005m (fun hK005 => ?_)
        case phK005m =>
          intro a' w' hst hHeld
          obtain ⟨gC, gE, rfl, hq, hbd, hlv⟩ := hst
          (try simp only [Act.put, List.setIfInBounds_toArray, List.set_cons_zero, List.set_cons_succ])
          refine wpAnyH_ready (rs := [9, 14, 15]) (by kernel_rfl) (by simp) ?_
          refine AllReadyH.cons (o := ?_) ?hoXhK005m ?hstXhK005m (AllReadyH.cons (o := ?_) ?hoAhK005m ?hstAhK005m (AllReadyH.cons (o := ?_) ?hoBhK005m ?hstBhK005m AllReadyH.nil))
          case hoXhK005m => (simp only [List.getElem?_toArray, List.getElem?_cons_zero, List.getElem?_cons_succ]; rfl)
          case hoAhK005m => (simp only [List.getElem?_toArray, List.getElem?_cons_zero, List.getElem?_cons_succ]; rfl)
          case hoBhK005m => (simp only [List.getElem?_toArray, List.getElem?_cons_zero, List.getElem?_cons_succ]; rfl)
          case hstXhK005m =>
            intro K hK
            go_simp
            have hrp := repS_rep _ _ _ (repS_step hbd HSTr.out); go_at_call 12; refine (HDO.out _ _ hrp hlv).mono ?_; rintro e wD ⟨tt, vv, rfl, hbT, ht, hv⟩; obtain ⟨Kt, It, Ft, Zt, qt, mt, dt, rfl, _⟩ := repS_shape ht; obtain ⟨Kv, Iv, Fv, Zv, qv, mv, dv, rfl, _⟩ := repS_shape hv
            go_wp2_with fail
            refine hK.out _ _ ?hsXhK005m (fun hHeld => ?_)
            case hsXhK005m => exact ((kb_step hq hbT)).1.1
            clear hK K
            (try simp only [Act.put, List.setIfInBounds_toArray, List.set_cons_zero, List.set_cons_succ])
            refine wpAnyH_take (i := 10) (oi := ?_) (v := ?_) ?hiXhK005m10 (by kernel_rfl) ?hfXhK005m10 ?hrXhK005m10 ?hQXhK005m10 ?hyXhK005m10 (by assumption) ?restXhK005m10
            case hiXhK005m10 => (simp only [List.getElem?_toArray, List.getElem?_cons_zero, List.getElem?_cons_succ]; rfl)
            case hfXhK005m10 => kernel_rfl
            case hrXhK005m10 => kernel_rfl
            case hyXhK005m10 => (refine Or.inl ⟨by rfl, ?_⟩; intro wS hSw; (try dsimp only at hSw); go_simp; (try with_reducible rfl))
            case hQXhK005m10 => exact fun _ _ _ h => h
            (try simp only [Act.put, List.setIfInBounds_toArray, List.set_cons_zero, List.set_cons_succ])
            refine wpAnyH_take (i := 11) (oi := ?_) (v := ?_) ?hiXhK005m11 (by kernel_rfl) ?hfXhK005m11 ?hrXhK005m11 ?hQXhK005m11 ?hyXhK005m11 (by assumption) ?restXhK005m11
            case hiXhK005m11 => (simp only [List.getElem?_toArray, List.getElem?_cons_zero, List.getElem?_cons_succ]; rfl)
            case hfXhK005m11 => kernel_rfl
            case hrXhK005m11 => kernel_rfl
            case hyXhK005m11 => (refine Or.inl ⟨by rfl, ?_⟩; intro wS hSw; (try dsimp only at hSw); go_simp; (try with_reducible rfl))
            case hQXhK005m11 => exact fun _ _ _ h => h
            (try simp only [Act.put, List.setIfInBounds_toArray, List.set_cons_zero, List.set_cons_succ])
            refine wpAnyH_take (i := 12) (oi := ?_) (v := ?_) ?hiXhK005m12 (by kernel_rfl) ?hfXhK005m12 ?hrXhK005m12 ?hQXhK005m12 ?hyXhK005m12 (by assumption) ?restXhK005m12
            case hiXhK005m12 => (simp only [List.getElem?_toArray, List.getElem?_cons_zero, List.getElem?_cons_succ]; rfl)
            case hfXhK005m12 => kernel_rfl
            case hrXhK005m12 => kernel_rfl
            case hyXhK005m12 => (refine Or.inl ⟨by rfl, ?_⟩; intro wS hSw; (try dsimp only at hSw); go_simp; (try with_reducible rfl))
            case hQXhK005m12 => exact fun _ _ _ h => h
            (try simp only [Act.put, List.setIfInBounds_toArray, List.set_cons_zero, List.set_cons_succ])
            refine wpAnyH_take (i := 13) (oi := ?_) (v := ?_) ?hiXhK005m13 (by kernel_rfl) ?hfXhK005m13 ?hrXhK005m13 ?hQXhK005m13 ?hyXhK005m13 (by assumption) ?restXhK005m13
            case hiXhK005m13 => (simp only [List.getElem?_toArray, List.getElem?_cons_zero, List.getElem?_cons_succ]; rfl)
            case hfXhK005m13 => kernel_rfl
            case hrXhK005m13 => kernel_rfl
            case hyXhK005m13 => (refine Or.inl ⟨by rfl, ?_⟩; intro wS hSw; (try dsimp only at hSw); go_simp; (try with_reducible rfl))
            case hQXhK005m13 => exact fun _ _ _ h => h
            (try simp only [Act.put, List.setIfInBounds_toArray, List.set_cons_zero, List.set_cons_succ])
            exact any_eq (by kernel_rfl) (by kernel_rfl) (hK006 _ _ ⟨gC, gE, Kt, It, Ft, Zt, qt, mt, dt, Kv, Iv, Fv, Zv, qv, mv, dv, rfl, (kb_step hq hbT), (bel_step hbd hbT), (repS_mono (fun b hb => Nat.le_trans hbd.size hb) _ _ _ ht), (repS_mono (fun b hb => Nat.le_trans hbd.size hb) _ _ _ hv)⟩ hHeld)
          case hstAhK005m =>
            intro K hK
            go_simp
            refine hK.out _ _ ?hsAhK005m (fun hHeld => ?_)
            case hsAhK005m => exact ((kb_step hq (bel_alloc (Below.refl _ _) (.cells #[.int .i64 0, .int .i64 0, .float .f64 0, .string ⟨#[]⟩, .slice none 0 0] 27)))).1.1
            clear hK K
            (try simp only [Act.put, List.setIfInBounds_toArray, List.set_cons_zero, List.set_cons_succ])
            exact any_eq (by kernel_rfl) (by kernel_rfl) (hK105 _ _ ⟨_, gC, gE, rfl, (kb_step hq (bel_alloc (Below.refl _ _) (.cells #[.int .i64 0, .int .i64 0, .float .f64 0, .string ⟨#[]⟩, .slice none 0 0] 27))), (bel_step hbd (bel_alloc (Below.refl _ _) (.cells #[.int .i64 0, .int .i64 0, .float .f64 0, .string ⟨#[]⟩, .slice none 0 0] 27))), ⟨cs_new rfl, fun o => row_frz (row_alloc _ _ _) o⟩, hbd.size, (lv_step hlv (bel_alloc (Below.refl _ _) (.cells #[.int .i64 0, .int .i64 0, .float .f64 0, .string ⟨#[]⟩, .slice none 0 0] 27)))⟩ hHeld)
          case hstBhK005m =>
            intro K hK
            go_simp
            refine hK.out _ _ ?hsBhK005m (fun hHeld => ?_)
            case hsBhK005m => exact ((kb_step hq (bel_alloc (Below.refl _ _) (.cells #[.int .i64 0, .int .i64 0, .float .f64 0, .string ⟨#[]⟩, .slice none 0 0] 27)))).1.1
            clear hK K
            (try simp only [Act.put, List.setIfInBounds_toArray, List.set_cons_zero, List.set_cons_succ])
            exact any_eq (by kernel_rfl) (by kernel_rfl) (hK015 _ _ ⟨_, gC, gE, rfl, (kb_step hq (bel_alloc (Below.refl _ _) (.cells #[.int .i64 0, .int .i64 0, .float .f64 0, .string ⟨#[]⟩, .slice none 0 0] 27))), (bel_step hbd (bel_alloc (Below.refl _ _) (.cells #[.int .i64 0, .int .i64 0, .float .f64 0, .string ⟨#[]⟩, .slice none 0 0] 27))), ⟨cs_new rfl, fun o => row_frz (row_alloc _ _ _) o⟩, hbd.size, (lv_step hlv (bel_alloc (Below.refl _ _) (.cells #[.int .i64 0, .int .i64 0, .float .f64 0, .string ⟨#[]⟩, .slice none 0 0] 27)))⟩ hHeld)
        refine any_have 9 [14, 15, 2, 3, 4, 7] (fun a a' w' => ∃ (gA gB gC : Nat), a' = ((((((a.put (some 9) (.pointer (some ⟨gA, 0, none⟩))).put (some 10) (.pointer (some ⟨gB, 0, none⟩))).put (some 51) (.slice (some ⟨gC, 0, none⟩) 1 1)).put (some 52) (.string ⟨#[bx]⟩)).put (some 53) (.agg #[.int .i64 3, .int .i64 0, .float .f64 0, .string ⟨#[bx]⟩, .slice none 0 0])).put (some 56) (.agg #[.int .i64 1, .int .i64 (97 + (cx : Int)), .float .f64 0, .string ⟨#[]⟩, .slice none 0 0])) ∧ KB w sb qs ms ds mb KL w' ∧ Below wr.heap.size wr w' ∧ SBX w' gA (.int .i64 0) (.int .i64 0) (.float .f64 0) (.string ⟨#[]⟩) (.slice none 0 0) ∧ wr.heap.size ≤ gA ∧ SBX w' gB (.int .i64 0) (.int .i64 0) (.float .f64 0) (.string ⟨#[]⟩) (.slice none 0 0) ∧ wr.heap.size ≤ gB ∧ gA ≠ gB) ?phK114m (fun hK114 => ?_)
        case phK114m =>
          intro a' w' hst hHeld
          obtain ⟨gA, gB, gC, rfl, hq, hbd, hsA, hgA, hsB, hgB, hne⟩ := hst
          (try simp only [Act.put, List.setIfInBounds_toArray, List.set_cons_zero, List.set_cons_succ])
          refine wpAnyH_ready (rs := [8]) (by kernel_rfl) (by simp) ?_
          refine AllReadyH.cons (o := ?_) ?hoXhK114m ?hstXhK114m AllReadyH.nil
          case hoXhK114m => (simp only [List.getElem?_toArray, List.getElem?_cons_zero, List.getElem?_cons_succ]; rfl)
          case hstXhK114m =>
            intro K hK
            go_simp
            refine hK.out _ _ ?hsXhK114m (fun hHeld => ?_)
            case hsXhK114m => exact ((kb_step hq (bel_alloc (Below.refl _ _) (.cells #[.int .i64 3, .int .i64 0, .float .f64 0, .string ⟨#[bx]⟩, .slice none 0 0, .int .i64 1, .int .i64 (97 + (cx : Int)), .float .f64 0, .string ⟨#[]⟩, .slice none 0 0] 27)))).1.1
            clear hK K
            (try simp only [Act.put, List.setIfInBounds_toArray, List.set_cons_zero, List.set_cons_succ])
            exact any_eq (by kernel_rfl) (by kernel_rfl) (hK115 _ _ ⟨gA, gB, gC, _, rfl, (kb_step hq (bel_alloc (Below.refl _ _) (.cells #[.int .i64 3, .int .i64 0, .float .f64 0, .string ⟨#[bx]⟩, .slice none 0 0, .int .i64 1, .int .i64 (97 + (cx : Int)), .float .f64 0, .string ⟨#[]⟩, .slice none 0 0] 27))), (bel_step hbd (bel_alloc (Below.refl _ _) (.cells #[.int .i64 3, .int .i64 0, .float .f64 0, .string ⟨#[bx]⟩, .slice none 0 0, .int .i64 1, .int .i64 (97 + (cx : Int)), .float .f64 0, .string ⟨#[]⟩, .slice none 0 0] 27))), (sbx_step hsA (bel_alloc (Below.refl _ _) (.cells #[.int .i64 3, .int .i64 0, .float .f64 0, .string ⟨#[bx]⟩, .slice none 0 0, .int .i64 1, .int .i64 (97 + (cx : Int)), .float .f64 0, .string ⟨#[]⟩, .slice none 0 0] 27))), hgA, (sbx_step hsB (bel_alloc (Below.refl _ _) (.cells #[.int .i64 3, .int .i64 0, .float .f64 0, .string ⟨#[bx]⟩, .slice none 0 0, .int .i64 1, .int .i64 (97 + (cx : Int)), .float .f64 0, .string ⟨#[]⟩, .slice none 0 0] 27))), hgB, hne, (by rw [HBX.out.2]; exact lv_new rfl (by decide : 1 ≤ maxLen) (by decide) (by unfold okI; omega) (by decide) (by decide))⟩ hHeld)
        refine any_have 10 [14, 2, 3, 4, 7] (fun a a' w' => ∃ (gA gC : Nat), a' = (((((a.put (some 9) (.pointer (some ⟨gA, 0, none⟩))).put (some 51) (.slice (some ⟨gC, 0, none⟩) 1 1)).put (some 52) (.string ⟨#[bx]⟩)).put (some 53) (.agg #[.int .i64 3, .int .i64 0, .float .f64 0, .string ⟨#[bx]⟩, .slice none 0 0])).put (some 56) (.agg #[.int .i64 1, .int .i64 (97 + (cx : Int)), .float .f64 0, .string ⟨#[]⟩, .slice none 0 0])) ∧ KB w sb qs ms ds mb KL w' ∧ Below wr.heap.size wr w' ∧ SBX w' gA (.int .i64 0) (.int .i64 0) (.float .f64 0) (.string ⟨#[]⟩) (.slice none 0 0) ∧ wr.heap.size ≤ gA) ?phK104m (fun hK104 => ?_)
        case phK104m =>
          intro a' w' hst hHeld
          obtain ⟨gA, gC, rfl, hq, hbd, hsA, hgA⟩ := hst
          (try simp only [Act.put, List.setIfInBounds_toArray, List.set_cons_zero, List.set_cons_succ])
          refine wpAnyH_ready (rs := [8, 15]) (by kernel_rfl) (by simp) ?_
          refine AllReadyH.cons (o := ?_) ?hoXhK104m ?hstXhK104m (AllReadyH.cons (o := ?_) ?hoBhK104m ?hstBhK104m AllReadyH.nil)
          case hoXhK104m => (simp only [List.getElem?_toArray, List.getElem?_cons_zero, List.getElem?_cons_succ]; rfl)
          case hoBhK104m => (simp only [List.getElem?_toArray, List.getElem?_cons_zero, List.getElem?_cons_succ]; rfl)
          case hstXhK104m =>
            intro K hK
            go_simp
            refine hK.out _ _ ?hsXhK104m (fun hHeld => ?_)
            case hsXhK104m => exact ((kb_step hq (bel_alloc (Below.refl _ _) (.cells #[.int .i64 3, .int .i64 0, .float .f64 0, .string ⟨#[bx]⟩, .slice none 0 0, .int .i64 1, .int .i64 (97 + (cx : Int)), .float .f64 0, .string ⟨#[]⟩, .slice none 0 0] 27)))).1.1
            clear hK K
            (try simp only [Act.put, List.setIfInBounds_toArray, List.set_cons_zero, List.set_cons_succ])
            exact any_eq (by kernel_rfl) (by kernel_rfl) (hK105 _ _ ⟨gA, gC, _, rfl, (kb_step hq (bel_alloc (Below.refl _ _) (.cells #[.int .i64 3, .int .i64 0, .float .f64 0, .string ⟨#[bx]⟩, .slice none 0 0, .int .i64 1, .int .i64 (97 + (cx : Int)), .float .f64 0, .string ⟨#[]⟩, .slice none 0 0] 27))), (bel_step hbd (bel_alloc (Below.refl _ _) (.cells #[.int .i64 3, .int .i64 0, .float .f64 0, .string ⟨#[bx]⟩, .slice none 0 0, .int .i64 1, .int .i64 (97 + (cx : Int)), .float .f64 0, .string ⟨#[]⟩, .slice none 0 0] 27))), (sbx_step hsA (bel_alloc (Below.refl _ _) (.cells #[.int .i64 3, .int .i64 0, .float .f64 0, .string ⟨#[bx]⟩, .slice none 0 0, .int .i64 1, .int .i64 (97 + (cx : Int)), .float .f64 0, .string ⟨#[]⟩, .slice none 0 0] 27))), hgA, (by rw [HBX.out.2]; exact lv_new rfl (by decide : 1 ≤ maxLen) (by decide) (by unfold okI; omega) (by decide) (by decide))⟩ hHeld)
          case hstBhK104m =>
            intro K hK
            go_simp
            refine hK.out _ _ ?hsBhK104m (fun hHeld => ?_)
            case hsBhK104m => exact ((kb_step hq (bel_alloc (Below.refl _ _) (.cells #[.int .i64 0, .int .i64 0, .float .f64 0, .string ⟨#[]⟩, .slice none 0 0] 27)))).1.1
            clear hK K
            (try simp only [Act.put, List.setIfInBounds_toArray, List.set_cons_zero, List.set_cons_succ])
            exact any_eq (by kernel_rfl) (by kernel_rfl) (hK114 _ _ ⟨gA, _, gC, rfl, (kb_step hq (bel_alloc (Below.refl _ _) (.cells #[.int .i64 0, .int .i64 0, .float .f64 0, .string ⟨#[]⟩, .slice none 0 0] 27))), (bel_step hbd (bel_alloc (Below.refl _ _) (.cells #[.int .i64 0, .int .i64 0, .float .f64 0, .string ⟨#[]⟩, .slice none 0 0] 27))), (sbx_step hsA (bel_alloc (Below.refl _ _) (.cells #[.int .i64 0, .int .i64 0, .float .f64 0, .string ⟨#[]⟩, .slice none 0 0] 27))), hgA, ⟨cs_new rfl, fun o => row_frz (row_alloc _ _ _) o⟩, hbd.size, (by have h := cs_lt hsA.1; omega)⟩ hHeld)
        refine any_have 10 [15, 2, 3, 4, 7] (fun a a' w' => ∃ (gB gC : Nat), a' = (((((a.put (some 10) (.pointer (some ⟨gB, 0, none⟩))).put (some 51) (.slice (some ⟨gC, 0, none⟩) 1 1)).put (some 52) (.string ⟨#[bx]⟩)).put (some 53) (.agg #[.int .i64 3, .int .i64 0, .float .f64 0, .string ⟨#[bx]⟩, .slice none 0 0])).put (some 56) (.agg #[.int .i64 1, .int .i64 (97 + (cx : Int)), .float .f64 0, .string ⟨#[]⟩, .slice none 0 0])) ∧ KB w sb qs ms ds mb KL w' ∧ Below wr.heap.size wr w' ∧ SBX w' gB (.int .i64 0) (.int .i64 0) (.float .f64 0) (.string ⟨#[]⟩) (.slice none 0 0) ∧ wr.heap.size ≤ gB) ?phK014m (fun hK014 => ?_)
        case phK014m =>
          intro a' w' hst hHeld
          obtain ⟨gB, gC, rfl, hq, hbd, hsB, hgB⟩ := hst
          (try simp only [Act.put, List.setIfInBounds_toArray, List.set_cons_zero, List.set_cons_succ])
          refine wpAnyH_ready (rs := [8, 14]) (by kernel_rfl) (by simp) ?_
          refine AllReadyH.cons (o := ?_) ?hoXhK014m ?hstXhK014m (AllReadyH.cons (o := ?_) ?hoAhK014m ?hstAhK014m AllReadyH.nil)
          case hoXhK014m => (simp only [List.getElem?_toArray, List.getElem?_cons_zero, List.getElem?_cons_succ]; rfl)
          case hoAhK014m => (simp only [List.getElem?_toArray, List.getElem?_cons_zero, List.getElem?_cons_succ]; rfl)
          case hstXhK014m =>
            intro K hK
            go_simp
            refine hK.out _ _ ?hsXhK014m (fun hHeld => ?_)
            case hsXhK014m => exact ((kb_step hq (bel_alloc (Below.refl _ _) (.cells #[.int .i64 3, .int .i64 0, .float .f64 0, .string ⟨#[bx]⟩, .slice none 0 0, .int .i64 1, .int .i64 (97 + (cx : Int)), .float .f64 0, .string ⟨#[]⟩, .slice none 0 0] 27)))).1.1
            clear hK K
            (try simp only [Act.put, List.setIfInBounds_toArray, List.set_cons_zero, List.set_cons_succ])
            exact any_eq (by kernel_rfl) (by kernel_rfl) (hK015 _ _ ⟨gB, gC, _, rfl, (kb_step hq (bel_alloc (Below.refl _ _) (.cells #[.int .i64 3, .int .i64 0, .float .f64 0, .string ⟨#[bx]⟩, .slice none 0 0, .int .i64 1, .int .i64 (97 + (cx : Int)), .float .f64 0, .string ⟨#[]⟩, .slice none 0 0] 27))), (bel_step hbd (bel_alloc (Below.refl _ _) (.cells #[.int .i64 3, .int .i64 0, .float .f64 0, .string ⟨#[bx]⟩, .slice none 0 0, .int .i64 1, .int .i64 (97 + (cx : Int)), .float .f64 0, .string ⟨#[]⟩, .slice none 0 0] 27))), (sbx_step hsB (bel_alloc (Below.refl _ _) (.cells #[.int .i64 3, .int .i64 0, .float .f64 0, .string ⟨#[bx]⟩, .slice none 0 0, .int .i64 1, .int .i64 (97 + (cx : Int)), .float .f64 0, .string ⟨#[]⟩, .slice none 0 0] 27))), hgB, (by rw [HBX.out.2]; exact lv_new rfl (by decide : 1 ≤ maxLen) (by decide) (by unfold okI; omega) (by decide) (by decide))⟩ hHeld)
          case hstAhK014m =>
            intro K hK
            go_simp
            refine hK.out _ _ ?hsAhK014m (fun hHeld => ?_)
            case hsAhK014m => exact ((kb_step hq (bel_alloc (Below.refl _ _) (.cells #[.int .i64 0, .int .i64 0, .float .f64 0, .string ⟨#[]⟩, .slice none 0 0] 27)))).1.1
            clear hK K
            (try simp only [Act.put, List.setIfInBounds_toArray, List.set_cons_zero, List.set_cons_succ])
            exact any_eq (by kernel_rfl) (by kernel_rfl) (hK114 _ _ ⟨_, gB, gC, rfl, (kb_step hq (bel_alloc (Below.refl _ _) (.cells #[.int .i64 0, .int .i64 0, .float .f64 0, .string ⟨#[]⟩, .slice none 0 0] 27))), (bel_step hbd (bel_alloc (Below.refl _ _) (.cells #[.int .i64 0, .int .i64 0, .float .f64 0, .string ⟨#[]⟩, .slice none 0 0] 27))), ⟨cs_new rfl, fun o => row_frz (row_alloc _ _ _) o⟩, hbd.size, (sbx_step hsB (bel_alloc (Below.refl _ _) (.cells #[.int .i64 0, .int .i64 0, .float .f64 0, .string ⟨#[]⟩, .slice none 0 0] 27))), hgB, (by have h := cs_lt hsB.1; omega)⟩ hHeld)
        refine any_have 11 [2, 3, 4, 7] (fun a a' w' => ∃ (gC : Nat), a' = ((((a.put (some 51) (.slice (some ⟨gC, 0, none⟩) 1 1)).put (some 52) (.string ⟨#[bx]⟩)).put (some 53) (.agg #[.int .i64 3, .int .i64 0, .float .f64 0, .string ⟨#[bx]⟩, .slice none 0 0])).put (some 56) (.agg #[.int .i64 1, .int .i64 (97 + (cx : Int)), .float .f64 0, .string ⟨#[]⟩, .slice none 0 0])) ∧ KB w sb qs ms ds mb KL w' ∧ Below wr.heap.size wr w') ?phK004m (fun hK004 => ?_)
        case phK004m =>
          intro a' w' hst hHeld
          obtain ⟨gC, rfl, hq, hbd⟩ := hst
          (try simp only [Act.put, List.setIfInBounds_toArray, List.set_cons_zero, List.set_cons_succ])
          refine wpAnyH_ready (rs := [8, 14, 15]) (by kernel_rfl) (by simp) ?_
          refine AllReadyH.cons (o := ?_) ?hoXhK004m ?hstXhK004m (AllReadyH.cons (o := ?_) ?hoAhK004m ?hstAhK004m (AllReadyH.cons (o := ?_) ?hoBhK004m ?hstBhK004m AllReadyH.nil))
          case hoXhK004m => (simp only [List.getElem?_toArray, List.getElem?_cons_zero, List.getElem?_cons_succ]; rfl)
          case hoAhK004m => (simp only [List.getElem?_toArray, List.getElem?_cons_zero, List.getElem?_cons_succ]; rfl)
          case hoBhK004m => (simp only [List.getElem?_toArray, List.getElem?_cons_zero, List.getElem?_cons_succ]; rfl)
          case hstXhK004m =>
            intro K hK
            go_simp
            refine hK.out _ _ ?hsXhK004m (fun hHeld => ?_)
            case hsXhK004m => exact ((kb_step hq (bel_alloc (Below.refl _ _) (.cells #[.int .i64 3, .int .i64 0, .float .f64 0, .string ⟨#[bx]⟩, .slice none 0 0, .int .i64 1, .int .i64 (97 + (cx : Int)), .float .f64 0, .string ⟨#[]⟩, .slice none 0 0] 27)))).1.1
            clear hK K
            (try simp only [Act.put, List.setIfInBounds_toArray, List.set_cons_zero, List.set_cons_succ])
            exact any_eq (by kernel_rfl) (by kernel_rfl) (hK005 _ _ ⟨gC, _, rfl, (kb_step hq (bel_alloc (Below.refl _ _) (.cells #[.int .i64 3, .int .i64 0, .float .f64 0, .string ⟨#[bx]⟩, .slice none 0 0, .int .i64 1, .int .i64 (97 + (cx : Int)), .float .f64 0, .string ⟨#[]⟩, .slice none 0 0] 27))), (bel_step hbd (bel_alloc (Below.refl _ _) (.cells #[.int .i64 3, .int .i64 0, .float .f64 0, .string ⟨#[bx]⟩, .slice none 0 0, .int .i64 1, .int .i64 (97 + (cx : Int)), .float .f64 0, .string ⟨#[]⟩, .slice none 0 0] 27))), (by rw [HBX.out.2]; exact lv_new rfl (by decide : 1 ≤ maxLen) (by decide) (by unfold okI; omega) (by decide) (by decide))⟩ hHeld)
          case hstAhK004m =>
            intro K hK
            go_simp
            refine hK.out _ _ ?hsAhK004m (fun hHeld => ?_)
            case hsAhK004m => exact ((kb_step hq (bel_alloc (Below.refl _ _) (.cells #[.int .i64 0, .int .i64 0, .float .f64 0, .string ⟨#[]⟩, .slice none 0 0] 27)))).1.1
            clear hK K
            (try simp only [Act.put, List.setIfInBounds_toArray, List.set_cons_zero, List.set_cons_succ])
            exact any_eq (by kernel_rfl) (by kernel_rfl) (hK104 _ _ ⟨_, gC, rfl, (kb_step hq (bel_alloc (Below.refl _ _) (.cells #[.int .i64 0, .int .i64 0, .float .f64 0, .string ⟨#[]⟩, .slice none 0 0] 27))), (bel_step hbd (bel_alloc (Below.refl _ _) (.cells #[.int .i64 0, .int .i64 0, .float .f64 0, .string ⟨#[]⟩, .slice none 0 0] 27))), ⟨cs_new rfl, fun o => row_frz (row_alloc _ _ _) o⟩, hbd.size⟩ hHeld)
          case hstBhK004m =>
            intro K hK
            go_simp
            refine hK.out _ _ ?hsBhK004m (fun hHeld => ?_)
            case hsBhK004m => exact ((kb_step hq (bel_alloc (Below.refl _ _) (.cells #[.int .i64 0, .int .i64 0, .float .f64 0, .string ⟨#[]⟩, .slice none 0 0] 27)))).1.1
            clear hK K
            (try simp only [Act.put, List.setIfInBounds_toArray, List.set_cons_zero, List.set_cons_succ])
            exact any_eq (by kernel_rfl) (by kernel_rfl) (hK014 _ _ ⟨_, gC, rfl, (kb_step hq (bel_alloc (Below.refl _ _) (.cells #[.int .i64 0, .int .i64 0, .float .f64 0, .string ⟨#[]⟩, .slice none 0 0] 27))), (bel_step hbd (bel_alloc (Below.refl _ _) (.cells #[.int .i64 0, .int .i64 0, .float .f64 0, .string ⟨#[]⟩, .slice none 0 0] 27))), ⟨cs_new rfl, fun o => row_frz (row_alloc _ _ _) o⟩, hbd.size⟩ hHeld)
        refine any_have 10 [14, 15, 2, 3, 4] (fun a a' w' => ∃ (gA gB gC : Nat), a' = (((((a.put (some 9) (.pointer (some ⟨gA, 0, none⟩))).put (some 10) (.pointer (some ⟨gB, 0, none⟩))).put (some 51) (.slice (some ⟨gC, 0, none⟩) 1 1)).put (some 52) (.string ⟨#[bx]⟩)).put (some 53) (.agg #[.int .i64 3, .int .i64 0, .float .f64 0, .string ⟨#[bx]⟩, .slice none 0 0])) ∧ KB w sb qs ms ds mb KL w' ∧ Below wr.heap.size wr w' ∧ SBX w' gA (.int .i64 0) (.int .i64 0) (.float .f64 0) (.string ⟨#[]⟩) (.slice none 0 0) ∧ wr.heap.size ≤ gA ∧ SBX w' gB (.int .i64 0) (.int .i64 0) (.float .f64 0) (.string ⟨#[]⟩) (.slice none 0 0) ∧ wr.heap.size ≤ gB ∧ gA ≠ gB) ?phK113m (fun hK113 => ?_)
        case phK113m =>
          intro a' w' hst hHeld
          obtain ⟨gA, gB, gC, rfl, hq, hbd, hsA, hgA, hsB, hgB, hne⟩ := hst
          (try simp only [Act.put, List.setIfInBounds_toArray, List.set_cons_zero, List.set_cons_succ])
          refine wpAnyH_ready (rs := [7]) (by kernel_rfl) (by simp) ?_
          refine AllReadyH.cons (o := ?_) ?hoXhK113m ?hstXhK113m AllReadyH.nil
          case hoXhK113m => (simp only [List.getElem?_toArray, List.getElem?_cons_zero, List.getElem?_cons_succ]; rfl)
          case hstXhK113m =>
            intro K hK
            go_simp
            go_at_call 20; refine (int_ref_any _ _).mono ?_; rintro e wT ⟨rfl, hbT⟩
            go_wp2_with fail
            refine hK.out _ _ ?hsXhK113m (fun hHeld => ?_)
            case hsXhK113m => exact ((kb_step hq hbT)).1.1
            clear hK K
            (try simp only [Act.put, List.setIfInBounds_toArray, List.set_cons_zero, List.set_cons_succ])
            exact any_eq (by kernel_rfl) (by kernel_rfl) (hK114 _ _ ⟨gA, gB, gC, rfl, (kb_step hq hbT), (bel_step hbd hbT), (sbx_step hsA hbT), hgA, (sbx_step hsB hbT), hgB, hne⟩ hHeld)
        refine any_have 11 [14, 2, 3, 4] (fun a a' w' => ∃ (gA gC : Nat), a' = ((((a.put (some 9) (.pointer (some ⟨gA, 0, none⟩))).put (some 51) (.slice (some ⟨gC, 0, none⟩) 1 1)).put (some 52) (.string ⟨#[bx]⟩)).put (some 53) (.agg #[.int .i64 3, .int .i64 0, .float .f64 0, .string ⟨#[bx]⟩, .slice none 0 0])) ∧ KB w sb qs ms ds mb KL w' ∧ Below wr.heap.size wr w' ∧ SBX w' gA (.int .i64 0) (.int .i64 0) (.float .f64 0) (.string ⟨#[]⟩) (.slice none 0 0) ∧ wr.heap.size ≤ gA) ?phK103m (fun hK103 => ?_)
        case phK103m =>
          intro a' w' hst hHeld
          obtain ⟨gA, gC, rfl, hq, hbd, hsA, hgA⟩ := hst
          (try simp only [Act.put, List.setIfInBounds_toArray, List.set_cons_zero, List.set_cons_succ])
          refine wpAnyH_ready (rs := [7, 15]) (by kernel_rfl) (by simp) ?_
          refine AllReadyH.cons (o := ?_) ?hoXhK103m ?hstXhK103m (AllReadyH.cons (o := ?_) ?hoBhK103m ?hstBhK103m AllReadyH.nil)
          case hoXhK103m => (simp only [List.getElem?_toArray, List.getElem?_cons_zero, List.getElem?_cons_succ]; rfl)
          case hoBhK103m => (simp only [List.getElem?_toArray, List.getElem?_cons_zero, List.getElem?_cons_succ]; rfl)
          case hstXhK103m =>
            intro K hK
            go_simp
            go_at_call 20; refine (int_ref_any _ _).mono ?_; rintro e wT ⟨rfl, hbT⟩
            go_wp2_with fail
            refine hK.out _ _ ?hsXhK103m (fun hHeld => ?_)
            case hsXhK103m => exact ((kb_step hq hbT)).1.1
            clear hK K
            (try simp only [Act.put, List.setIfInBounds_toArray, List.set_cons_zero, List.set_cons_succ])
            exact any_eq (by kernel_rfl) (by kernel_rfl) (hK104 _ _ ⟨gA, gC, rfl, (kb_step hq hbT), (bel_step hbd hbT), (sbx_step hsA hbT), hgA⟩ hHeld)
          case hstBhK103m =>
            intro K hK
            go_simp
            refine hK.out _ _ ?hsBhK103m (fun hHeld => ?_)
            case hsBhK103m => exact ((kb_step hq (bel_alloc (Below.refl _ _) (.cells #[.int .i64 0, .int .i64 0, .float .f64 0, .string ⟨#[]⟩, .slice none 0 0] 27)))).1.1
            clear hK K
            (try simp only [Act.put, List.setIfInBounds_toArray, List.set_cons_zero, List.set_cons_succ])
            exact any_eq (by kernel_rfl) (by kernel_rfl) (hK113 _ _ ⟨gA, _, gC, rfl, (kb_step hq (bel_alloc (Below.refl _ _) (.cells #[.int .i64 0, .int .i64 0, .float .f64 0, .string ⟨#[]⟩, .slice none 0 0] 27))), (bel_step hbd (bel_alloc (Below.refl _ _) (.cells #[.int .i64 0, .int .i64 0, .float .f64 0, .string ⟨#[]⟩, .slice none 0 0] 27))), (sbx_step hsA (bel_alloc (Below.refl _ _) (.cells #[.int .i64 0, .int .i64 0, .float .f64 0, .string ⟨#[]⟩, .slice none 0 0] 27))), hgA, ⟨cs_new rfl, fun o => row_frz (row_alloc _ _ _) o⟩, hbd.size, (by have h := cs_lt hsA.1; omega)⟩ hHeld)
        refine any_have 11 [15, 2, 3, 4] (fun a a' w' => ∃ (gB gC : Nat), a' = ((((a.put (some 10) (.pointer (some ⟨gB, 0, none⟩))).put (some 51) (.slice (some ⟨gC, 0, none⟩) 1 1)).put (some 52) (.string ⟨#[bx]⟩)).put (some 53) (.agg #[.int .i64 3, .int .i64 0, .float .f64 0, .string ⟨#[bx]⟩, .slice none 0 0])) ∧ KB w sb qs ms ds mb KL w' ∧ Below wr.heap.size wr w' ∧ SBX w' gB (.int .i64 0) (.int .i64 0) (.float .f64 0) (.string ⟨#[]⟩) (.slice none 0 0) ∧ wr.heap.size ≤ gB) ?phK013m (fun hK013 => ?_)
        case phK013m =>
          intro a' w' hst hHeld
          obtain ⟨gB, gC, rfl, hq, hbd, hsB, hgB⟩ := hst
          (try simp only [Act.put, List.setIfInBounds_toArray, List.set_cons_zero, List.set_cons_succ])
          refine wpAnyH_ready (rs := [7, 14]) (by kernel_rfl) (by simp) ?_
          refine AllReadyH.cons (o := ?_) ?hoXhK013m ?hstXhK013m (AllReadyH.cons (o := ?_) ?hoAhK013m ?hstAhK013m AllReadyH.nil)
          case hoXhK013m => (simp only [List.getElem?_toArray, List.getElem?_cons_zero, List.getElem?_cons_succ]; rfl)
          case hoAhK013m => (simp only [List.getElem?_toArray, List.getElem?_cons_zero, List.getElem?_cons_succ]; rfl)
          case hstXhK013m =>
            intro K hK
            go_simp
            go_at_call 20; refine (int_ref_any _ _).mono ?_; rintro e wT ⟨rfl, hbT⟩
            go_wp2_with fail
            refine hK.out _ _ ?hsXhK013m (fun hHeld => ?_)
            case hsXhK013m => exact ((kb_step hq hbT)).1.1
            clear hK K
            (try simp only [Act.put, List.setIfInBounds_toArray, List.set_cons_zero, List.set_cons_succ])
            exact any_eq (by kernel_rfl) (by kernel_rfl) (hK014 _ _ ⟨gB, gC, rfl, (kb_step hq hbT), (bel_step hbd hbT), (sbx_step hsB hbT), hgB⟩ hHeld)
          case hstAhK013m =>
            intro K hK
            go_simp
            refine hK.out _ _ ?hsAhK013m (fun hHeld => ?_)
            case hsAhK013m => exact ((kb_step hq (bel_alloc (Below.refl _ _) (.cells #[.int .i64 0, .int .i64 0, .float .f64 0, .string ⟨#[]⟩, .slice none 0 0] 27)))).1.1
            clear hK K
            (try simp only [Act.put, List.setIfInBounds_toArray, List.set_cons_zero, List.set_cons_succ])
            exact any_eq (by kernel_rfl) (by kernel_rfl) (hK113 _ _ ⟨_, gB, gC, rfl, (kb_step hq (bel_alloc (Below.refl _ _) (.cells #[.int .i64 0, .int .i64 0, .float .f64 0, .string ⟨#[]⟩, .slice none 0 0] 27))), (bel_step hbd (bel_alloc (Below.refl _ _) (.cells #[.int .i64 0, .int .i64 0, .float .f64 0, .string ⟨#[]⟩, .slice none 0 0] 27))), ⟨cs_new rfl, fun o => row_frz (row_alloc _ _ _) o⟩, hbd.size, (sbx_step hsB (bel_alloc (Below.refl _ _) (.cells #[.int .i64 0, .int .i64 0, .float .f64 0, .string ⟨#[]⟩, .slice none 0 0] 27))), hgB, (by have h := cs_lt hsB.1; omega)⟩ hHeld)
        refine any_have 12 [2, 3, 4] (fun a a' w' => ∃ (gC : Nat), a' = (((a.put (some 51) (.slice (some ⟨gC, 0, none⟩) 1 1)).put (some 52) (.string ⟨#[bx]⟩)).put (some 53) (.agg #[.int .i64 3, .int .i64 0, .float .f64 0, .string ⟨#[bx]⟩, .slice none 0 0])) ∧ KB w sb qs ms ds mb KL w' ∧ Below wr.heap.size wr w') ?phK003m (fun hK003 => ?_)
        case phK003m =>
          intro a' w' hst hHeld
          obtain ⟨gC, rfl, hq, hbd⟩ := hst
          (try simp only [Act.put, List.setIfInBounds_toArray, List.set_cons_zero, List.set_cons_succ])
          refine wpAnyH_ready (rs := [7, 14, 15]) (by kernel_rfl) (by simp) ?_
          refine AllReadyH.cons (o := ?_) ?hoXhK003m ?hstXhK003m (AllReadyH.cons (o := ?_) ?hoAhK003m ?hstAhK003m (AllReadyH.cons (o := ?_) ?hoBhK003m ?hstBhK003m AllReadyH.nil))
          case hoXhK003m => (simp only [List.getElem?_toArray, List.getElem?_cons_zero, List.getElem?_cons_succ]; rfl)
          case hoAhK003m => (simp only [List.getElem?_toArray, List.getElem?_cons_zero, List.getElem?_cons_succ]; rfl)
          case hoBhK003m => (simp only [List.getElem?_toArray, List.getElem?_cons_zero, List.getElem?_cons_succ]; rfl)
          case hstXhK003m =>
            intro K hK
            go_simp
            go_at_call 20; refine (int_ref_any _ _).mono ?_; rintro e wT ⟨rfl, hbT⟩
            go_wp2_with fail
            refine hK.out _ _ ?hsXhK003m (fun hHeld => ?_)
            case hsXhK003m => exact ((kb_step hq hbT)).1.1
            clear hK K
            (try simp only [Act.put, List.setIfInBounds_toArray, List.set_cons_zero, List.set_cons_succ])
            exact any_eq (by kernel_rfl) (by kernel_rfl) (hK004 _ _ ⟨gC, rfl, (kb_step hq hbT), (bel_step hbd hbT)⟩ hHeld)
          case hstAhK003m =>
            intro K hK
            go_simp
            refine hK.out _ _ ?hsAhK003m (fun hHeld => ?_)
            case hsAhK003m => exact ((kb_step hq (bel_alloc (Below.refl _ _) (.cells #[.int .i64 0, .int .i64 0, .float .f64 0, .string ⟨#[]⟩, .slice none 0 0] 27)))).1.1
            clear hK K
            (try simp only [Act.put, List.setIfInBounds_toArray, List.set_cons_zero, List.set_cons_succ])
            exact any_eq (by kernel_rfl) (by kernel_rfl) (hK103 _ _ ⟨_, gC, rfl, (kb_step hq (bel_alloc (Below.refl _ _) (.cells #[.int .i64 0, .int .i64 0, .float .f64 0, .string ⟨#[]⟩, .slice none 0 0] 27))), (bel_step hbd (bel_alloc (Below.refl _ _) (.cells #[.int .i64 0, .int .i64 0, .float .f64 0, .string ⟨#[]⟩, .slice none 0 0] 27))), ⟨cs_new rfl, fun o => row_frz (row_alloc _ _ _) o⟩, hbd.size⟩ hHeld)
          case hstBhK003m =>
            intro K hK
            go_simp
            refine hK.out _ _ ?hsBhK003m (fun hHeld => ?_)
            case hsBhK003m => exact ((kb_step hq (bel_alloc (Below.refl _ _) (.cells #[.int .i64 0, .int .i64 0, .float .f64 0, .string ⟨#[]⟩, .slice none 0 0] 27)))).1.1
            clear hK K
            (try simp only [Act.put, List.setIfInBounds_toArray, List.set_cons_zero, List.set_cons_succ])
            exact any_eq (by kernel_rfl) (by kernel_rfl) (hK013 _ _ ⟨_, gC, rfl, (kb_step hq (bel_alloc (Below.refl _ _) (.cells #[.int .i64 0, .int .i64 0, .float .f64 0, .string ⟨#[]⟩, .slice none 0 0] 27))), (bel_step hbd (bel_alloc (Below.refl _ _) (.cells #[.int .i64 0, .int .i64 0, .float .f64 0, .string ⟨#[]⟩, .slice none 0 0] 27))), ⟨cs_new rfl, fun o => row_frz (row_alloc _ _ _) o⟩, hbd.size⟩ hHeld)
        refine any_have 11 [14, 15, 2, 3] (fun a a' w' => ∃ (gA gB gC : Nat), a' = ((((a.put (some 9) (.pointer (some ⟨gA, 0, none⟩))).put (some 10) (.pointer (some ⟨gB, 0, none⟩))).put (some 51) (.slice (some ⟨gC, 0, none⟩) 1 1)).put (some 52) (.string ⟨#[bx]⟩)) ∧ KB w sb qs ms ds mb KL w' ∧ Below wr.heap.size wr w' ∧ SBX w' gA (.int .i64 0) (.int .i64 0) (.float .f64 0) (.string ⟨#[]⟩) (.slice none 0 0) ∧ wr.heap.size ≤ gA ∧ SBX w' gB (.int .i64 0) (.int .i64 0) (.float .f64 0) (.string ⟨#[]⟩) (.slice none 0 0) ∧ wr.heap.size ≤ gB ∧ gA ≠ gB) ?phK112m (fun hK112 => ?_)
        case phK112m =>
          intro a' w' hst hHeld
          obtain ⟨gA, gB, gC, rfl, hq, hbd, hsA, hgA, hsB, hgB, hne⟩ := hst
          (try simp only [Act.put, List.setIfInBounds_toArray, List.set_cons_zero, List.set_cons_succ])
          refine wpAnyH_ready (rs := [4]) (by kernel_rfl) (by simp) ?_
          refine AllReadyH.cons (o := ?_) ?hoXhK112m ?hstXhK112m AllReadyH.nil
          case hoXhK112m => (simp only [List.getElem?_toArray, List.getElem?_cons_zero, List.getElem?_cons_succ]; rfl)
          case hstXhK112m =>
            intro K hK
            go_simp
            go_at_call 19; refine (text_ref_any _ _).mono ?_; rintro e wT ⟨rfl, hbT⟩
            go_wp2_with fail
            refine hK.out _ _ ?hsXhK112m (fun hHeld => ?_)
            case hsXhK112m => exact ((kb_step hq hbT)).1.1
            clear hK K
            (try simp only [Act.put, List.setIfInBounds_toArray, List.set_cons_zero, List.set_cons_succ])
            exact any_eq (by kernel_rfl) (by kernel_rfl) (hK113 _ _ ⟨gA, gB, gC, rfl, (kb_step hq hbT), (bel_step hbd hbT), (sbx_step hsA hbT), hgA, (sbx_step hsB hbT), hgB, hne⟩ hHeld)
        refine any_have 12 [14, 2, 3] (fun a a' w' => ∃ (gA gC : Nat), a' = (((a.put (some 9) (.pointer (some ⟨gA, 0, none⟩))).put (some 51) (.slice (some ⟨gC, 0, none⟩) 1 1)).put (some 52) (.string ⟨#[bx]⟩)) ∧ KB w sb qs ms ds mb KL w' ∧ Below wr.heap.size wr w' ∧ SBX w' gA (.int .i64 0) (.int .i64 0) (.float .f64 0) (.string ⟨#[]⟩) (.slice none 0 0) ∧ wr.heap.size ≤ gA) ?phK102m (fun hK102 => ?_)
        case phK102m =>
          intro a' w' hst hHeld
          obtain ⟨gA, gC, rfl, hq, hbd, hsA, hgA⟩ := hst
          (try simp only [Act.put, List.setIfInBounds_toArray, List.set_cons_zero, List.set_cons_succ])
          refine wpAnyH_ready (rs := [4, 15]) (by kernel_rfl) (by simp) ?_
          refine AllReadyH.cons (o := ?_) ?hoXhK102m ?hstXhK102m (AllReadyH.cons (o := ?_) ?hoBhK102m ?hstBhK102m AllReadyH.nil)
          case hoXhK102m => (simp only [List.getElem?_toArray, List.getElem?_cons_zero, List.getElem?_cons_succ]; rfl)
          case hoBhK102m => (simp only [List.getElem?_toArray, List.getElem?_cons_zero, List.getElem?_cons_succ]; rfl)
          case hstXhK102m =>
            intro K hK
            go_simp
            go_at_call 19; refine (text_ref_any _ _).mono ?_; rintro e wT ⟨rfl, hbT⟩
            go_wp2_with fail
            refine hK.out _ _ ?hsXhK102m (fun hHeld => ?_)
            case hsXhK102m => exact ((kb_step hq hbT)).1.1
            clear hK K
            (try simp only [Act.put, List.setIfInBounds_toArray, List.set_cons_zero, List.set_cons_succ])
            exact any_eq (by kernel_rfl) (by kernel_rfl) (hK103 _ _ ⟨gA, gC, rfl, (kb_step hq hbT), (bel_step hbd hbT), (sbx_step hsA hbT), hgA⟩ hHeld)
          case hstBhK102m =>
            intro K hK
            go_simp
            refine hK.out _ _ ?hsBhK102m (fun hHeld => ?_)
            case hsBhK102m => exact ((kb_step hq (bel_alloc (Below.refl _ _) (.cells #[.int .i64 0, .int .i64 0, .float .f64 0, .string ⟨#[]⟩, .slice none 0 0] 27)))).1.1
            clear hK K
            (try simp only [Act.put, List.setIfInBounds_toArray, List.set_cons_zero, List.set_cons_succ])
            exact any_eq (by kernel_rfl) (by kernel_rfl) (hK112 _ _ ⟨gA, _, gC, rfl, (kb_step hq (bel_alloc (Below.refl _ _) (.cells #[.int .i64 0, .int .i64 0, .float .f64 0, .string ⟨#[]⟩, .slice none 0 0] 27))), (bel_step hbd (bel_alloc (Below.refl _ _) (.cells #[.int .i64 0, .int .i64 0, .float .f64 0, .string ⟨#[]⟩, .slice none 0 0] 27))), (sbx_step hsA (bel_alloc (Below.refl _ _) (.cells #[.int .i64 0, .int .i64 0, .float .f64 0, .string ⟨#[]⟩, .slice none 0 0] 27))), hgA, ⟨cs_new rfl, fun o => row_frz (row_alloc _ _ _) o⟩, hbd.size, (by have h := cs_lt hsA.1; omega)⟩ hHeld)
        refine any_have 12 [15, 2, 3] (fun a a' w' => ∃ (gB gC : Nat), a' = (((a.put (some 10) (.pointer (some ⟨gB, 0, none⟩))).put (some 51) (.slice (some ⟨gC, 0, none⟩) 1 1)).put (some 52) (.string ⟨#[bx]⟩)) ∧ KB w sb qs ms ds mb KL w' ∧ Below wr.heap.size wr w' ∧ SBX w' gB (.int .i64 0) (.int .i64 0) (.float .f64 0) (.string ⟨#[]⟩) (.slice none 0 0) ∧ wr.heap.size ≤ gB) ?phK012m (fun hK012 => ?_)
        case phK012m =>
          intro a' w' hst hHeld
          obtain ⟨gB, gC, rfl, hq, hbd, hsB, hgB⟩ := hst
          (try simp only [Act.put, List.setIfInBounds_toArray, List.set_cons_zero, List.set_cons_succ])
          refine wpAnyH_ready (rs := [4, 14]) (by kernel_rfl) (by simp) ?_
          refine AllReadyH.cons (o := ?_) ?hoXhK012m ?hstXhK012m (AllReadyH.cons (o := ?_) ?hoAhK012m ?hstAhK012m AllReadyH.nil)
          case hoXhK012m => (simp only [List.getElem?_toArray, List.getElem?_cons_zero, List.getElem?_cons_succ]; rfl)
          case hoAhK012m => (simp only [List.getElem?_toArray, List.getElem?_cons_zero, List.getElem?_cons_succ]; rfl)
          case hstXhK012m =>
            intro K hK
            go_simp
            go_at_call 19; refine (text_ref_any _ _).mono ?_; rintro e wT ⟨rfl, hbT⟩
            go_wp2_with fail
            refine hK.out _ _ ?hsXhK012m (fun hHeld => ?_)
            case hsXhK012m => exact ((kb_step hq hbT)).1.1
            clear hK K
            (try simp only [Act.put, List.setIfInBounds_toArray, List.set_cons_zero, List.set_cons_succ])
            exact any_eq (by kernel_rfl) (by kernel_rfl) (hK013 _ _ ⟨gB, gC, rfl, (kb_step hq hbT), (bel_step hbd hbT), (sbx_step hsB hbT), hgB⟩ hHeld)
          case hstAhK012m =>
            intro K hK
            go_simp
            refine hK.out _ _ ?hsAhK012m (fun hHeld => ?_)
            case hsAhK012m => exact ((kb_step hq (bel_alloc (Below.refl _ _) (.cells #[.int .i64 0, .int .i64 0, .float .f64 0, .string ⟨#[]⟩, .slice none 0 0] 27)))).1.1
            clear hK K
            (try simp only [Act.put, List.setIfInBounds_toArray, List.set_cons_zero, List.set_cons_succ])
            exact any_eq (by kernel_rfl) (by kernel_rfl) (hK112 _ _ ⟨_, gB, gC, rfl, (kb_step hq (bel_alloc (Below.refl _ _) (.cells #[.int .i64 0, .int .i64 0, .float .f64 0, .string ⟨#[]⟩, .slice none 0 0] 27))), (bel_step hbd (bel_alloc (Below.refl _ _) (.cells #[.int .i64 0, .int .i64 0, .float .f64 0, .string ⟨#[]⟩, .slice none 0 0] 27))), ⟨cs_new rfl, fun o => row_frz (row_alloc _ _ _) o⟩, hbd.size, (sbx_step hsB (bel_alloc (Below.refl _ _) (.cells #[.int .i64 0, .int .i64 0, .float .f64 0, .string ⟨#[]⟩, .slice none 0 0] 27))), hgB, (by have h := cs_lt hsB.1; omega)⟩ hHeld)
        refine any_have 13 [2, 3] (fun a a' w' => ∃ (gC : Nat), a' = ((a.put (some 51) (.slice (some ⟨gC, 0, none⟩) 1 1)).put (some 52) (.string ⟨#[bx]⟩)) ∧ KB w sb qs ms ds mb KL w' ∧ Below wr.heap.size wr w') ?phK002m (fun hK002 => ?_)
        case phK002m =>
          intro a' w' hst hHeld
          obtain ⟨gC, rfl, hq, hbd⟩ := hst
          (try simp only [Act.put, List.setIfInBounds_toArray, List.set_cons_zero, List.set_cons_succ])
          refine wpAnyH_ready (rs := [4, 14, 15]) (by kernel_rfl) (by simp) ?_
          refine AllReadyH.cons (o := ?_) ?hoXhK002m ?hstXhK002m (AllReadyH.cons (o := ?_) ?hoAhK002m ?hstAhK002m (AllReadyH.cons (o := ?_) ?hoBhK002m ?hstBhK002m AllReadyH.nil))
          case hoXhK002m => (simp only [List.getElem?_toArray, List.getElem?_cons_zero, List.getElem?_cons_succ]; rfl)
          case hoAhK002m => (simp only [List.getElem?_toArray, List.getElem?_cons_zero, List.getElem?_cons_succ]; rfl)
          case hoBhK002m => (simp only [List.getElem?_toArray, List.getElem?_cons_zero, List.getElem?_cons_succ]; rfl)
          case hstXhK002m =>
            intro K hK
            go_simp
            go_at_call 19; refine (text_ref_any _ _).mono ?_; rintro e wT ⟨rfl, hbT⟩
            go_wp2_with fail
            refine hK.out _ _ ?hsXhK002m (fun hHeld => ?_)
            case hsXhK002m => exact ((kb_step hq hbT)).1.1
            clear hK K
            (try simp only [Act.put, List.setIfInBounds_toArray, List.set_cons_zero, List.set_cons_succ])
            exact any_eq (by kernel_rfl) (by kernel_rfl) (hK003 _ _ ⟨gC, rfl, (kb_step hq hbT), (bel_step hbd hbT)⟩ hHeld)
          case hstAhK002m =>
            intro K hK
            go_simp
            refine hK.out _ _ ?hsAhK002m (fun hHeld => ?_)
            case hsAhK002m => exact ((kb_step hq (bel_alloc (Below.refl _ _) (.cells #[.int .i64 0, .int .i64 0, .float .f64 0, .string ⟨#[]⟩, .slice none 0 0] 27)))).1.1
            clear hK K
            (try simp only [Act.put, List.setIfInBounds_toArray, List.set_cons_zero, List.set_cons_succ])
            exact any_eq (by kernel_rfl) (by kernel_rfl) (hK102 _ _ ⟨_, gC, rfl, (kb_step hq (bel_alloc (Below.refl _ _) (.cells #[.int .i64 0, .int .i64 0, .float .f64 0, .string ⟨#[]⟩, .slice none 0 0] 27))), (bel_step hbd (bel_alloc (Below.refl _ _) (.cells #[.int .i64 0, .int .i64 0, .float .f64 0, .string ⟨#[]⟩, .slice none 0 0] 27))), ⟨cs_new rfl, fun o => row_frz (row_alloc _ _ _) o⟩, hbd.size⟩ hHeld)
          case hstBhK002m =>
            intro K hK
            go_simp
            refine hK.out _ _ ?hsBhK002m (fun hHeld => ?_)
            case hsBhK002m => exact ((kb_step hq (bel_alloc (Below.refl _ _) (.cells #[.int .i64 0, .int .i64 0, .float .f64 0, .string ⟨#[]⟩, .slice none 0 0] 27)))).1.1
            clear hK K
            (try simp only [Act.put, List.setIfInBounds_toArray, List.set_cons_zero, List.set_cons_succ])
            exact any_eq (by kernel_rfl) (by kernel_rfl) (hK012 _ _ ⟨_, gC, rfl, (kb_step hq (bel_alloc (Below.refl _ _) (.cells #[.int .i64 0, .int .i64 0, .float .f64 0, .string ⟨#[]⟩, .slice none 0 0] 27))), (bel_step hbd (bel_alloc (Below.refl _ _) (.cells #[.int .i64 0, .int .i64 0, .float .f64 0, .string ⟨#[]⟩, .slice none 0 0] 27))), ⟨cs_new rfl, fun o => row_frz (row_alloc _ _ _) o⟩, hbd.size⟩ hHeld)
        refine any_have 12 [14, 15, 2] (fun a a' w' => ∃ (gA gB gC : Nat), a' = (((a.put (some 9) (.pointer (some ⟨gA, 0, none⟩))).put (some 10) (.pointer (some ⟨gB, 0, none⟩))).put (some 51) (.slice (some ⟨gC, 0, none⟩) 1 1)) ∧ KB w sb qs ms ds mb KL w' ∧ Below wr.heap.size wr w' ∧ SBX w' gA (.int .i64 0) (.int .i64 0) (.float .f64 0) (.string ⟨#[]⟩) (.slice none 0 0) ∧ wr.heap.size ≤ gA ∧ SBX w' gB (.int .i64 0) (.int .i64 0) (.float .f64 0) (.string ⟨#[]⟩) (.slice none 0 0) ∧ wr.heap.size ≤ gB ∧ gA ≠ gB ∧ w'.heap[gC]? = some (.cells #[.int .u8 (97 + (cx : Int))] 5 (0, 0))) ?phK111m (fun hK111 => ?_)
        case phK111m =>
          intro a' w' hst hHeld
          obtain ⟨gA, gB, gC, rfl, hq, hbd, hsA, hgA, hsB, hgB, hne, hrow⟩ := hst
          (try simp only [Act.put, List.setIfInBounds_toArray, List.set_cons_zero, List.set_cons_succ])
          refine wpAnyH_ready (rs := [3]) (by kernel_rfl) (by simp) ?_
          refine AllReadyH.cons (o := ?_) ?hoXhK111m ?hstXhK111m AllReadyH.nil
          case hoXhK111m => (simp only [List.getElem?_toArray, List.getElem?_cons_zero, List.getElem?_cons_succ]; rfl)
          case hstXhK111m =>
            intro K hK
            have hcv := conv1 (cap := 1) (b := bx) HBX.out.1 hrow; go_simp
            clear hcv
            go_wp2_with fail
            refine hK.out _ _ ?hsXhK111m (fun hHeld => ?_)
            case hsXhK111m => exact (hq).1.1
            clear hK K
            (try simp only [Act.put, List.setIfInBounds_toArray, List.set_cons_zero, List.set_cons_succ])
            exact any_eq (by kernel_rfl) (by kernel_rfl) (hK112 _ _ ⟨gA, gB, gC, rfl, hq, hbd, hsA, hgA, hsB, hgB, hne⟩ hHeld)
        refine any_have 13 [14, 2] (fun a a' w' => ∃ (gA gC : Nat), a' = ((a.put (some 9) (.pointer (some ⟨gA, 0, none⟩))).put (some 51) (.slice (some ⟨gC, 0, none⟩) 1 1)) ∧ KB w sb qs ms ds mb KL w' ∧ Below wr.heap.size wr w' ∧ SBX w' gA (.int .i64 0) (.int .i64 0) (.float .f64 0) (.string ⟨#[]⟩) (.slice none 0 0) ∧ wr.heap.size ≤ gA ∧ w'.heap[gC]? = some (.cells #[.int .u8 (97 + (cx : Int))] 5 (0, 0))) ?phK101m (fun hK101 => ?_)
        case phK101m =>
          intro a' w' hst hHeld
          obtain ⟨gA, gC, rfl, hq, hbd, hsA, hgA, hrow⟩ := hst
          (try simp only [Act.put, List.setIfInBounds_toArray, List.set_cons_zero, List.set_cons_succ])
          refine wpAnyH_ready (rs := [3, 15]) (by kernel_rfl) (by simp) ?_
          refine AllReadyH.cons (o := ?_) ?hoXhK101m ?hstXhK101m (AllReadyH.cons (o := ?_) ?hoBhK101m ?hstBhK101m AllReadyH.nil)
          case hoXhK101m => (simp only [List.getElem?_toArray, List.getElem?_cons_zero, List.getElem?_cons_succ]; rfl)
          case hoBhK101m => (simp only [List.getElem?_toArray, List.getElem?_cons_zero, List.getElem?_cons_succ]; rfl)
          case hstXhK101m =>
            intro K hK
            have hcv := conv1 (cap := 1) (b := bx) HBX.out.1 hrow; go_simp
            clear hcv
            go_wp2_with fail
            refine hK.out _ _ ?hsXhK101m (fun hHeld => ?_)
            case hsXhK101m => exact (hq).1.1
            clear hK K
            (try simp only [Act.put, List.setIfInBounds_toArray, List.set_cons_zero, List.set_cons_succ])
            exact any_eq (by kernel_rfl) (by kernel_rfl) (hK102 _ _ ⟨gA, gC, rfl, hq, hbd, hsA, hgA⟩ hHeld)
          case hstBhK101m =>
            intro K hK
            go_simp
            refine hK.out _ _ ?hsBhK101m (fun hHeld => ?_)
            case hsBhK101m => exact ((kb_step hq (bel_alloc (Below.refl _ _) (.cells #[.int .i64 0, .int .i64 0, .float .f64 0, .string ⟨#[]⟩, .slice none 0 0] 27)))).1.1
            clear hK K
            (try simp only [Act.put, List.setIfInBounds_toArray, List.set_cons_zero, List.set_cons_succ])
            exact any_eq (by kernel_rfl) (by kernel_rfl) (hK111 _ _ ⟨gA, _, gC, rfl, (kb_step hq (bel_alloc (Below.refl _ _) (.cells #[.int .i64 0, .int .i64 0, .float .f64 0, .string ⟨#[]⟩, .slice none 0 0] 27))), (bel_step hbd (bel_alloc (Below.refl _ _) (.cells #[.int .i64 0, .int .i64 0, .float .f64 0, .string ⟨#[]⟩, .slice none 0 0] 27))), (sbx_step hsA (bel_alloc (Below.refl _ _) (.cells #[.int .i64 0, .int .i64 0, .float .f64 0, .string ⟨#[]⟩, .slice none 0 0] 27))), hgA, ⟨cs_new rfl, fun o => row_frz (row_alloc _ _ _) o⟩, hbd.size, (by have h := cs_lt hsA.1; omega), (row_step hrow (bel_alloc (Below.refl _ _) (.cells #[.int .i64 0, .int .i64 0, .float .f64 0, .string ⟨#[]⟩, .slice none 0 0] 27)))⟩ hHeld)
        refine any_have 13 [15, 2] (fun a a' w' => ∃ (gB gC : Nat), a' = ((a.put (some 10) (.pointer (some ⟨gB, 0, none⟩))).put (some 51) (.slice (some ⟨gC, 0, none⟩) 1 1)) ∧ KB w sb qs ms ds mb KL w' ∧ Below wr.heap.size wr w' ∧ SBX w' gB (.int .i64 0) (.int .i64 0) (.float .f64 0) (.string ⟨#[]⟩) (.slice none 0 0) ∧ wr.heap.size ≤ gB ∧ w'.heap[gC]? = some (.cells #[.int .u8 (97 + (cx : Int))] 5 (0, 0))) ?phK011m (fun hK011 => ?_)
        case phK011m =>
          intro a' w' hst hHeld
          obtain ⟨gB, gC, rfl, hq, hbd, hsB, hgB, hrow⟩ := hst
          (try simp only [Act.put, List.setIfInBounds_toArray, List.set_cons_zero, List.set_cons_succ])
          refine wpAnyH_ready (rs := [3, 14]) (by kernel_rfl) (by simp) ?_
          refine AllReadyH.cons (o := ?_) ?hoXhK011m ?hstXhK011m (AllReadyH.cons (o := ?_) ?hoAhK011m ?hstAhK011m AllReadyH.nil)
          case hoXhK011m => (simp only [List.getElem?_toArray, List.getElem?_cons_zero, List.getElem?_cons_succ]; rfl)
          case hoAhK011m => (simp only [List.getElem?_toArray, List.getElem?_cons_zero, List.getElem?_cons_succ]; rfl)
          case hstXhK011m =>
            intro K hK
            have hcv := conv1 (cap := 1) (b := bx) HBX.out.1 hrow; go_simp
            clear hcv
            go_wp2_with fail
            refine hK.out _ _ ?hsXhK011m (fun hHeld => ?_)
            case hsXhK011m => exact (hq).1.1
            clear hK K
            (try simp only [Act.put, List.setIfInBounds_toArray, List.set_cons_zero, List.set_cons_succ])
            exact any_eq (by kernel_rfl) (by kernel_rfl) (hK012 _ _ ⟨gB, gC, rfl, hq, hbd, hsB, hgB⟩ hHeld)
          case hstAhK011m =>
            intro K hK
            go_simp
            refine hK.out _ _ ?hsAhK011m (fun hHeld => ?_)
            case hsAhK011m => exact ((kb_step hq (bel_alloc (Below.refl _ _) (.cells #[.int .i64 0, .int .i64 0, .float .f64 0, .string ⟨#[]⟩, .slice none 0 0] 27)))).1.1
            clear hK K
            (try simp only [Act.put, List.setIfInBounds_toArray, List.set_cons_zero, List.set_cons_succ])
            exact any_eq (by kernel_rfl) (by kernel_rfl) (hK111 _ _ ⟨_, gB, gC, rfl, (kb_step hq (bel_alloc (Below.refl _ _) (.cells #[.int .i64 0, .int .i64 0, .float .f64 0, .string ⟨#[]⟩, .slice none 0 0] 27))), (bel_step hbd (bel_alloc (Below.refl _ _) (.cells #[.int .i64 0, .int .i64 0, .float .f64 0, .string ⟨#[]⟩, .slice none 0 0] 27))), ⟨cs_new rfl, fun o => row_frz (row_alloc _ _ _) o⟩, hbd.size, (sbx_step hsB (bel_alloc (Below.refl _ _) (.cells #[.int .i64 0, .int .i64 0, .float .f64 0, .string ⟨#[]⟩, .slice none 0 0] 27))), hgB, (by have h := cs_lt hsB.1; omega), (row_step hrow (bel_alloc (Below.refl _ _) (.cells #[.int .i64 0, .int .i64 0, .float .f64 0, .string ⟨#[]⟩, .slice none 0 0] 27)))⟩ hHeld)
        refine any_have 14 [2] (fun a a' w' => ∃ (gC : Nat), a' = (a.put (some 51) (.slice (some ⟨gC, 0, none⟩) 1 1)) ∧ KB w sb qs ms ds mb KL w' ∧ Below wr.heap.size wr w' ∧ w'.heap[gC]? = some (.cells #[.int .u8 (97 + (cx : Int))] 5 (0, 0))) ?phK001m (fun hK001 => ?_)
        case phK001m =>
          intro a' w' hst hHeld
          obtain ⟨gC, rfl, hq, hbd, hrow⟩ := hst
          (try simp only [Act.put, List.setIfInBounds_toArray, List.set_cons_zero, List.set_cons_succ])
          refine wpAnyH_ready (rs := [3, 14, 15]) (by kernel_rfl) (by simp) ?_
          refine AllReadyH.cons (o := ?_) ?hoXhK001m ?hstXhK001m (AllReadyH.cons (o := ?_) ?hoAhK001m ?hstAhK001m (AllReadyH.cons (o := ?_) ?hoBhK001m ?hstBhK001m AllReadyH.nil))
          case hoXhK001m => (simp only [List.getElem?_toArray, List.getElem?_cons_zero, List.getElem?_cons_succ]; rfl)
          case hoAhK001m => (simp only [List.getElem?_toArray, List.getElem?_cons_zero, List.getElem?_cons_succ]; rfl)
          case hoBhK001m => (simp only [List.getElem?_toArray, List.getElem?_cons_zero, List.getElem?_cons_succ]; rfl)
          case hstXhK001m =>
            intro K hK
            have hcv := conv1 (cap := 1) (b := bx) HBX.out.1 hrow; go_simp
            clear hcv
            go_wp2_with fail
            refine hK.out _ _ ?hsXhK001m (fun hHeld => ?_)
            case hsXhK001m => exact (hq).1.1
            clear hK K
            (try simp only [Act.put, List.setIfInBounds_toArray, List.set_cons_zero, List.set_cons_succ])
            exact any_eq (by kernel_rfl) (by kernel_rfl) (hK002 _ _ ⟨gC, rfl, hq, hbd⟩ hHeld)
          case hstAhK001m =>
            intro K hK
            go_simp
            refine hK.out _ _ ?hsAhK001m (fun hHeld => ?_)
            case hsAhK001m => exact ((kb_step hq (bel_alloc (Below.refl _ _) (.cells #[.int .i64 0, .int .i64 0, .float .f64 0, .string ⟨#[]⟩, .slice none 0 0] 27)))).1.1
            clear hK K
            (try simp only [Act.put, List.setIfInBounds_toArray, List.set_cons_zero, List.set_cons_succ])
            exact any_eq (by kernel_rfl) (by kernel_rfl) (hK101 _ _ ⟨_, gC, rfl, (kb_step hq (bel_alloc (Below.refl _ _) (.cells #[.int .i64 0, .int .i64 0, .float .f64 0, .string ⟨#[]⟩, .slice none 0 0] 27))), (bel_step hbd (bel_alloc (Below.refl _ _) (.cells #[.int .i64 0, .int .i64 0, .float .f64 0, .string ⟨#[]⟩, .slice none 0 0] 27))), ⟨cs_new rfl, fun o => row_frz (row_alloc _ _ _) o⟩, hbd.size, (row_step hrow (bel_alloc (Below.refl _ _) (.cells #[.int .i64 0, .int .i64 0, .float .f64 0, .string ⟨#[]⟩, .slice none 0 0] 27)))⟩ hHeld)
          case hstBhK001m =>
            intro K hK
            go_simp
            refine hK.out _ _ ?hsBhK001m (fun hHeld => ?_)
            case hsBhK001m => exact ((kb_step hq (bel_alloc (Below.refl _ _) (.cells #[.int .i64 0, .int .i64 0, .float .f64 0, .string ⟨#[]⟩, .slice none 0 0] 27)))).1.1
            clear hK K
            (try simp only [Act.put, List.setIfInBounds_toArray, List.set_cons_zero, List.set_cons_succ])
            exact any_eq (by kernel_rfl) (by kernel_rfl) (hK011 _ _ ⟨_, gC, rfl, (kb_step hq (bel_alloc (Below.refl _ _) (.cells #[.int .i64 0, .int .i64 0, .float .f64 0, .string ⟨#[]⟩, .slice none 0 0] 27))), (bel_step hbd (bel_alloc (Below.refl _ _) (.cells #[.int .i64 0, .int .i64 0, .float .f64 0, .string ⟨#[]⟩, .slice none 0 0] 27))), ⟨cs_new rfl, fun o => row_frz (row_alloc _ _ _) o⟩, hbd.size, (row_step hrow (bel_alloc (Below.refl _ _) (.cells #[.int .i64 0, .int .i64 0, .float .f64 0, .string ⟨#[]⟩, .slice none 0 0] 27)))⟩ hHeld)
        refine any_have 13 [14, 15] (fun a a' w' => ∃ (gA gB : Nat), a' = ((a.put (some 9) (.pointer (some ⟨gA, 0, none⟩))).put (some 10) (.pointer (some ⟨gB, 0, none⟩))) ∧ KB w sb qs ms ds mb KL w' ∧ Below wr.heap.size wr w' ∧ SBX w' gA (.int .i64 0) (.int .i64 0) (.float .f64 0) (.string ⟨#[]⟩) (.slice none 0 0) ∧ wr.heap.size ≤ gA ∧ SBX w' gB (.int .i64 0) (.int .i64 0) (.float .f64 0) (.string ⟨#[]⟩) (.slice none 0 0) ∧ wr.heap.size ≤ gB ∧ gA ≠ gB) ?phK110m (fun hK110 => ?_)
        case phK110m =>
          intro a' w' hst hHeld
          obtain ⟨gA, gB, rfl, hq, hbd, hsA, hgA, hsB, hgB, hne⟩ := hst
          (try simp only [Act.put, List.setIfInBounds_toArray, List.set_cons_zero, List.set_cons_succ])
          refine wpAnyH_ready (rs := [2]) (by kernel_rfl) (by simp) ?_
          refine AllReadyH.cons (o := ?_) ?hoXhK110m ?hstXhK110m AllReadyH.nil
          case hoXhK110m => (simp only [List.getElem?_toArray, List.getElem?_cons_zero, List.getElem?_cons_succ]; rfl)
          case hstXhK110m =>
            intro K hK
            go_simp
            refine hK.out _ _ ?hsXhK110m (fun hHeld => ?_)
            case hsXhK110m => exact ((kb_step hq (bel_alloc (Below.refl _ _) (.cells #[.int .u8 (97 + (cx : Int))] 5)))).1.1
            clear hK K
            (try simp only [Act.put, List.setIfInBounds_toArray, List.set_cons_zero, List.set_cons_succ])
            exact any_eq (by kernel_rfl) (by kernel_rfl) (hK111 _ _ ⟨gA, gB, _, rfl, (kb_step hq (bel_alloc (Below.refl _ _) (.cells #[.int .u8 (97 + (cx : Int))] 5))), (bel_step hbd (bel_alloc (Below.refl _ _) (.cells #[.int .u8 (97 + (cx : Int))] 5))), (sbx_step hsA (bel_alloc (Below.refl _ _) (.cells #[.int .u8 (97 + (cx : Int))] 5))), hgA, (sbx_step hsB (bel_alloc (Below.refl _ _) (.cells #[.int .u8 (97 + (cx : Int))] 5))), hgB, hne, row_alloc _ _ _⟩ hHeld)
        refine any_have 14 [14] (fun a a' w' => ∃ (gA : Nat), a' = (a.put (some 9) (.pointer (some ⟨gA, 0, none⟩))) ∧ KB w sb qs ms ds mb KL w' ∧ Below wr.heap.size wr w' ∧ SBX w' gA (.int .i64 0) (.int .i64 0) (.float .f64 0) (.string ⟨#[]⟩) (.slice none 0 0) ∧ wr.heap.size ≤ gA) ?phK100m (fun hK100 => ?_)
        case phK100m =>
          intro a' w' hst hHeld
          obtain ⟨gA, rfl, hq, hbd, hsA, hgA⟩ := hst
          (try simp only [Act.put, List.setIfInBounds_toArray, List.set_cons_zero, List.set_cons_succ])
          refine wpAnyH_ready (rs := [2, 15]) (by kernel_rfl) (by simp) ?_
          refine AllReadyH.cons (o := ?_) ?hoXhK100m ?hstXhK100m (AllReadyH.cons (o := ?_) ?hoBhK100m ?hstBhK100m AllReadyH.nil)
          case hoXhK100m => (simp only [List.getElem?_toArray, List.getElem?_cons_zero, List.getElem?_cons_succ]; rfl)
          case hoBhK100m => (simp only [List.getElem?_toArray, List.getElem?_cons_zero, List.getElem?_cons_succ]; rfl)
          case hstXhK100m =>
            intro K hK
            go_simp
            refine hK.out _ _ ?hsXhK100m (fun hHeld => ?_)
            case hsXhK100m => exact ((kb_step hq (bel_alloc (Below.refl _ _) (.cells #[.int .u8 (97 + (cx : Int))] 5)))).1.1
            clear hK K
            (try simp only [Act.put, List.setIfInBounds_toArray, List.set_cons_zero, List.set_cons_succ])
            exact any_eq (by kernel_rfl) (by kernel_rfl) (hK101 _ _ ⟨gA, _, rfl, (kb_step hq (bel_alloc (Below.refl _ _) (.cells #[.int .u8 (97 + (cx : Int))] 5))), (bel_step hbd (bel_alloc (Below.refl _ _) (.cells #[.int .u8 (97 + (cx : Int))] 5))), (sbx_step hsA (bel_alloc (Below.refl _ _) (.cells #[.int .u8 (97 + (cx : Int))] 5))), hgA, row_alloc _ _ _⟩ hHeld)
          case hstBhK100m =>
            intro K hK
            go_simp
            refine hK.out _ _ ?hsBhK100m (fun hHeld => ?_)
            case hsBhK100m => exact ((kb_step hq (bel_alloc (Below.refl _ _) (.cells #[.int .i64 0, .int .i64 0, .float .f64 0, .string ⟨#[]⟩, .slice none 0 0] 27)))).1.1
            clear hK K
            (try simp only [Act.put, List.setIfInBounds_toArray, List.set_cons_zero, List.set_cons_succ])
            exact any_eq (by kernel_rfl) (by kernel_rfl) (hK110 _ _ ⟨gA, _, rfl, (kb_step hq (bel_alloc (Below.refl _ _) (.cells #[.int .i64 0, .int .i64 0, .float .f64 0, .string ⟨#[]⟩, .slice none 0 0] 27))), (bel_step hbd (bel_alloc (Below.refl _ _) (.cells #[.int .i64 0, .int .i64 0, .float .f64 0, .string ⟨#[]⟩, .slice none 0 0] 27))), (sbx_step hsA (bel_alloc (Below.refl _ _) (.cells #[.int .i64 0, .int .i64 0, .float .f64 0, .string ⟨#[]⟩, .slice none 0 0] 27))), hgA, ⟨cs_new rfl, fun o => row_frz (row_alloc _ _ _) o⟩, hbd.size, (by have h := cs_lt hsA.1; omega)⟩ hHeld)
        refine any_have 14 [15] (fun a a' w' => ∃ (gB : Nat), a' = (a.put (some 10) (.pointer (some ⟨gB, 0, none⟩))) ∧ KB w sb qs ms ds mb KL w' ∧ Below wr.heap.size wr w' ∧ SBX w' gB (.int .i64 0) (.int .i64 0) (.float .f64 0) (.string ⟨#[]⟩) (.slice none 0 0) ∧ wr.heap.size ≤ gB) ?phK010m (fun hK010 => ?_)
        case phK010m =>
          intro a' w' hst hHeld
          obtain ⟨gB, rfl, hq, hbd, hsB, hgB⟩ := hst
          (try simp only [Act.put, List.setIfInBounds_toArray, List.set_cons_zero, List.set_cons_succ])
          refine wpAnyH_ready (rs := [2, 14]) (by kernel_rfl) (by simp) ?_
          refine AllReadyH.cons (o := ?_) ?hoXhK010m ?hstXhK010m (AllReadyH.cons (o := ?_) ?hoAhK010m ?hstAhK010m AllReadyH.nil)
          case hoXhK010m => (simp only [List.getElem?_toArray, List.getElem?_cons_zero, List.getElem?_cons_succ]; rfl)
          case hoAhK010m => (simp only [List.getElem?_toArray, List.getElem?_cons_zero, List.getElem?_cons_succ]; rfl)
          case hstXhK010m =>
            intro K hK
            go_simp
            refine hK.out _ _ ?hsXhK010m (fun hHeld => ?_)
            case hsXhK010m => exact ((kb_step hq (bel_alloc (Below.refl _ _) (.cells #[.int .u8 (97 + (cx : Int))] 5)))).1.1
            clear hK K
            (try simp only [Act.put, List.setIfInBounds_toArray, List.set_cons_zero, List.set_cons_succ])
            exact any_eq (by kernel_rfl) (by kernel_rfl) (hK011 _ _ ⟨gB, _, rfl, (kb_step hq (bel_alloc (Below.refl _ _) (.cells #[.int .u8 (97 + (cx : Int))] 5))), (bel_step hbd (bel_alloc (Below.refl _ _) (.cells #[.int .u8 (97 + (cx : Int))] 5))), (sbx_step hsB (bel_alloc (Below.refl _ _) (.cells #[.int .u8 (97 + (cx : Int))] 5))), hgB, row_alloc _ _ _⟩ hHeld)
          case hstAhK010m =>
            intro K hK
            go_simp
            refine hK.out _ _ ?hsAhK010m (fun hHeld => ?_)
            case hsAhK010m => exact ((kb_step hq (bel_alloc (Below.refl _ _) (.cells #[.int .i64 0, .int .i64 0, .float .f64 0, .string ⟨#[]⟩, .slice none 0 0] 27)))).1.1
            clear hK K
            (try simp only [Act.put, List.setIfInBounds_toArray, List.set_cons_zero, List.set_cons_succ])
            exact any_eq (by kernel_rfl) (by kernel_rfl) (hK110 _ _ ⟨_, gB, rfl, (kb_step hq (bel_alloc (Below.refl _ _) (.cells #[.int .i64 0, .int .i64 0, .float .f64 0, .string ⟨#[]⟩, .slice none 0 0] 27))), (bel_step hbd (bel_alloc (Below.refl _ _) (.cells #[.int .i64 0, .int .i64 0, .float .f64 0, .string ⟨#[]⟩, .slice none 0 0] 27))), ⟨cs_new rfl, fun o => row_frz (row_alloc _ _ _) o⟩, hbd.size, (sbx_step hsB (bel_alloc (Below.refl _ _) (.cells #[.int .i64 0, .int .i64 0, .float .f64 0, .string ⟨#[]⟩, .slice none 0 0] 27))), hgB, (by have h := cs_lt hsB.1; omega)⟩ hHeld)
        refine wpAnyH_ready (rs := [2, 14, 15]) (by kernel_rfl) (by simp) ?_
        refine AllReadyH.cons (o := ?_) ?hoXzm ?hstXzm (AllReadyH.cons (o := ?_) ?hoAzm ?hstAzm (AllReadyH.cons (o := ?_) ?hoBzm ?hstBzm AllReadyH.nil))
        case hoXzm => (simp only [List.getElem?_toArray, List.getElem?_cons_zero, List.getElem?_cons_succ]; rfl)
        case hoAzm => (simp only [List.getElem?_toArray, List.getElem?_cons_zero, List.getElem?_cons_succ]; rfl)
        case hoBzm => (simp only [List.getElem?_toArray, List.getElem?_cons_zero, List.getElem?_cons_succ]; rfl)
        case hstXzm =>
          intro K hK
          go_simp
          refine hK.out _ _ ?hsXzm (fun hHeld => ?_)
          case hsXzm => exact ((kb_step hq (bel_alloc (Below.refl _ _) (.cells #[.int .u8 (97 + (cx : Int))] 5)))).1.1
          clear hK K
          (try simp only [Act.put, List.setIfInBounds_toArray, List.set_cons_zero, List.set_cons_succ])
          exact any_eq (by kernel_rfl) (by kernel_rfl) (hK001 _ _ ⟨_, rfl, (kb_step hq (bel_alloc (Below.refl _ _) (.cells #[.int .u8 (97 + (cx : Int))] 5))), (bel_step hbd (bel_alloc (Below.refl _ _) (.cells #[.int .u8 (97 + (cx : Int))] 5))), row_alloc _ _ _⟩ hHeld)
        case hstAzm =>
          intro K hK
          go_simp
          refine hK.out _ _ ?hsAzm (fun hHeld => ?_)
          case hsAzm => exact ((kb_step hq (bel_alloc (Below.refl _ _) (.cells #[.int .i64 0, .int .i64 0, .float .f64 0, .string ⟨#[]⟩, .slice none 0 0] 27)))).1.1
          clear hK K
          (try simp only [Act.put, List.setIfInBounds_toArray, List.set_cons_zero, List.set_cons_succ])
          exact any_eq (by kernel_rfl) (by kernel_rfl) (hK100 _ _ ⟨_, rfl, (kb_step hq (bel_alloc (Below.refl _ _) (.cells #[.int .i64 0, .int .i64 0, .float .f64 0, .string ⟨#[]⟩, .slice none 0 0] 27))), (bel_step hbd (bel_alloc (Below.refl _ _) (.cells #[.int .i64 0, .int .i64 0, .float .f64 0, .string ⟨#[]⟩, .slice none 0 0] 27))), ⟨cs_new rfl, fun o => row_frz (row_alloc _ _ _) o⟩, hbd.size⟩ hHeld)
        case hstBzm =>
          intro K hK
          go_simp
          refine hK.out _ _ ?hsBzm (fun hHeld => ?_)
          case hsBzm => exact ((kb_step hq (bel_alloc (Below.refl _ _) (.cells #[.int .i64 0, .int .i64 0, .float .f64 0, .string ⟨#[]⟩, .slice none 0 0] 27)))).1.1
          clear hK K
          (try simp only [Act.put, List.setIfInBounds_toArray, List.set_cons_zero, List.set_cons_succ])
          exact any_eq (by kernel_rfl) (by kernel_rfl) (hK010 _ _ ⟨_, rfl, (kb_step hq (bel_alloc (Below.refl _ _) (.cells #[.int .i64 0, .int .i64 0, .float .f64 0, .string ⟨#[]⟩, .slice none 0 0] 27))), (bel_step hbd (bel_alloc (Below.refl _ _) (.cells #[.int .i64 0, .int .i64 0, .float .f64 0, .string ⟨#[]⟩, .slice none 0 0] 27))), ⟨cs_new rfl, fun o => row_frz (row_alloc _ _ _) o⟩, hbd.size⟩ hHeld)
      case rest =>
      obtain ⟨gA, gB, Kt, It, Ft, Zt, qt, mt, dt, Kv, Iv, Fv, Zv, qv, mv, dv, rfl, rfl, rfl, hca, hcb, hkb, hbel, hrt, hrv⟩ := hcut
      rw [HTT.out] at hrt
      obtain ⟨rfl, rfl, rfl, rfl⟩ := rep_tab5 (repS_rep _ _ _ hrt)
      have hsbr : sb < wr.heap.size := cs_lt HKB.out.1.1
      have hmbr : mb < wr.heap.size := (by obtain ⟨_, _, h, _⟩ := HKB.out.2; exact row_lt h)
      have HN := Lib.hid (show KB w sb qt mt dt mb KL ((((((wc.setCell ⟨sb, 0, none⟩ (.int .i64 4)).setCell ⟨sb, 1, none⟩ (.int .i64 0)).setCell ⟨sb, 2, none⟩ (.float .f64 0)).setCell ⟨sb, 3, none⟩ (.string ⟨#[]⟩)).setCell ⟨sb, 4, none⟩ (.slice qt mt dt))) from ⟨fb_new hkb.1 h1 qt mt dt, mp_set hkb.2 (Ne.symm h3)⟩)
      have HRN := Lib.hid (show RepS (fun b => sb < b ∧ mb < b) ((((((wc.setCell ⟨sb, 0, none⟩ (.int .i64 4)).setCell ⟨sb, 1, none⟩ (.int .i64 0)).setCell ⟨sb, 2, none⟩ (.float .f64 0)).setCell ⟨sb, 3, none⟩ (.string ⟨#[]⟩)).setCell ⟨sb, 4, none⟩ (.slice qt mt dt))) 3 (.agg #[.int .i64 4, .int .i64 0, .float .f64 0, .string ⟨#[]⟩, .slice qt mt dt]) (tableT 0 (setE 26 fK (metN g (i + 1)))) from repS_set (repS_mono (fun b hb => by have h := hb.1; exact ⟨by omega, by omega⟩) _ _ _ hrt) (fun b hb => by have h := hb.1; omega))
      obtain ⟨x0, x1, x2, x3, x4⟩ := hca
      obtain ⟨⟨⟨y0, y1, y2, y3, y4⟩, _, yf⟩, _⟩ := hkb
      have yl := cell_lt y0
      clear hcb hrv hrt hbel HDO HKB HSTr hc1
      go_upto_region 15 with fail
      revert HN HRN
      generalize (((((wc.setCell ⟨sb, 0, none⟩ (.int .i64 4)).setCell ⟨sb, 1, none⟩ (.int .i64 0)).setCell ⟨sb, 2, none⟩ (.float .f64 0)).setCell ⟨sb, 3, none⟩ (.string ⟨#[]⟩)).setCell ⟨sb, 4, none⟩ (.slice qt mt dt)) = Wn
      intro HN HRN
      obtain ⟨es, ck, hup, hmp⟩ := mp_upd Wn mb KL cx HN.out.2
      have HM := Lib.hid (show KB w sb qt mt dt mb (addK KL cx) (mpW Wn mb es ck) from ⟨⟨(by have h := HN.out.1.1; have e : ∀ j, (mpW Wn mb es ck).cell? ⟨sb, j, none⟩ = Wn.cell? ⟨sb, j, none⟩ := fun j => World.cell?_of_block (mpW_other h3); unfold CS at h ⊢; simp only [e]; exact h), mpW_below HN.out.1.2.1 h2, fun o => (by rw [show (mpW Wn mb es ck).frozen? ⟨sb, o, none⟩ = Wn.frozen? ⟨sb, o, none⟩ by unfold World.frozen?; rw [mpW_other h3]]; exact HN.out.1.2.2 o)⟩, hmp⟩)
      have HRM := Lib.hid (show RepS (fun b => sb < b ∧ mb < b) (mpW Wn mb es ck) 3 (.agg #[.int .i64 4, .int .i64 0, .float .f64 0, .string ⟨#[]⟩, .slice qt mt dt]) (tableT 0 (setE 26 fK (metN g (i + 1)))) from repS_keep (fun b hb => mpW_other (by omega)) _ _ _ HRN.out)
      clear hmp x0 x1 x2 x3 x4 y0 y1 y2 y3 y4 yf yl
      go_wp2
      revert HM HRM
      generalize mpW Wn mb es ck = Wm
      intro HM HRM
      go_roundw
      case rel => exact ⟨i + 1, qt, mt, dt, addK KL cx, by omega, by go_num, HM.out, by rw [← metN_succ g i, HGX.out]; exact ltr_add HLT.out cx, HRM.out⟩
      case measure => simp [intOf]; omega
    · have hie : i = l1 := by omega
      have hil3 : ¬ (i : Int) < (l1 : Int) := by omega
      go_wp2
      go_loopw [12] (fun iv wr => ∃ (i : Nat) (qs : Option Addr) (ms ds : Nat) (KL : List Nat), i ≤ l2 ∧ iv = .int .i64 i ∧ KB w sb qs ms ds mb KL wr ∧ Ltr KL (remN g2 (metN g l1) i) ∧ RepS (fun b => sb < b ∧ mb < b) wr 3 (.agg #[.int .i64 4, .int .i64 0, .float .f64 0, .string ⟨#[]⟩, .slice qs ms ds]) (tableT 0 (setE 26 fK (remN g2 (metN g l1) i)))) (fun iv _ => l2 - (intOf iv).toNat)
      case atStart => exact ⟨0, qs, ms, ds, KL, by omega, rfl, HKB.out, by rw [← hie]; exact remN_zero g2 _ ▸ HLT.out, by rw [← hie, remN_zero]; exact HSTr.out⟩
      case round =>
      clear HKB HLT HSTr hil hil3
      obtain ⟨i, qs, ms, ds, KL, hil, rfl, hkb, hlt', hst⟩ := hrel
      have HKB := Lib.hid hkb
      have HLT := Lib.hid hlt'
      have HSTr := Lib.hid hst
      clear hkb hst hlt'
      by_cases hlt : i < l2
      · obtain ⟨nb, no, x, rfl, hcx, hx256, hgx⟩ := HG2.out i hlt
        have hc1 := cell_keep HKB.out.1.2.1 hcx
        have hnb : nb < w.heap.size := cell_lt hcx
        have hi0 : (0 : Int) ≤ (i : Int) := by omega
        have hil2 : (i : Int) < (l2 : Int) := by omega
        obtain ⟨cx, hcx'⟩ : ∃ cx, x % 26 = cx := ⟨_, rfl⟩
        rw [hcx'] at hgx
        have hcx26 : cx < 26 := by omega
        have hrx : (x : Int).tmod 26 = (cx : Int) := by rw [← hcx']; exact (Int.ofNat_tmod x 26).symm
        have hx0 : (0 : Int) ≤ (x : Int) := by omega
        have hx1 : (x : Int) < 256 := by omega
        have hcx0 : (0 : Int) ≤ (cx : Int) := by omega
        have hcx1 : (cx : Int) < 26 := by omega
        have hwx : IntKind.u8.wrap (97 + (cx : Int)) = 97 + (cx : Int) := by rw [IntKind.wrap_u8]; omega
        have hvx : IntKind.u8.wrap (cx : Int) = (cx : Int) := by rw [IntKind.wrap_u8]; omega
        have hzx : IntKind.i64.wrap (97 + (cx : Int)) = 97 + (cx : Int) := by rw [IntKind.wrap_i64]; omega
        obtain ⟨bx, hbx⟩ : ∃ bx, UInt8.ofNat (97 + cx) = bx := ⟨_, rfl⟩
        have HBX := Lib.hid (show (bx.toNat : Int) = 97 + (cx : Int) ∧ (⟨#[bx]⟩ : ByteArray) = nmK cx from ⟨by rw [← hbx]; exact ofN97 hcx26, by rw [← hbx]; rfl⟩)
        have HGX := Lib.hid hgx
        clear hcx hcx' hbx hgx hx256
        obtain ⟨TT, UU, hTT, HDO⟩ : ∃ (TT : VT 3) (UU : VT 1), (TT = tableT 0 (setE 26 fK (remN g2 (metN g l1) (i + 1))) ∧ UU = hadE fK (remN g2 (metN g l1) i) cx) ∧ Hid (∀ (W : World) (gg : Nat), Rep W 3 (.agg #[.int .i64 4, .int .i64 0, .float .f64 0, .string ⟨#[]⟩, .slice qs ms ds]) (tableT 0 (setE 26 fK (remN g2 (metN g l1) i))) → LN gg (nmK cx) W → Calls Try.prog 12 #[.agg #[.int .i64 4, .int .i64 0, .float .f64 0, .string ⟨#[]⟩, .slice qs ms ds], .string { data := #[100, 101, 108] }, .slice (some ⟨gg, 0, none⟩) 1 1] W fun e w' => DoQ W 3 1 TT UU 0 e w') :=
          ⟨_, _, ⟨(by rw [← remN_succ g2 (metN g l1) i, HGX.out]), rfl⟩, Lib.hid (fun W gg hs hr => del_fam fam_K (remN g2 (metN g l1) i) cx hcx26 hs hr)⟩
        have HTT := Lib.hid hTT
        clear hTT
        go_upto_region 20 with fail
        go_cut [14, 15, 16] (fun s14 s15 s16 wx => Put20 w wr sb qs ms ds mb KL TT UU s14 s15 s16 wx)
        case first =>
          have hsbr : sb < wr.heap.size := cs_lt HKB.out.1.1
          have hmbr : mb < wr.heap.size := (by obtain ⟨_, _, h, _⟩ := HKB.out.2; exact row_lt h)
          have hwr : w.heap.size ≤ wr.heap.size := HKB.out.1.2.1.size
          refine wp_region_held_drew (S := (fun z => z.cell? ⟨sb, 0, none⟩ = some (.int .i64 4) ∧ z.cell? ⟨sb, 1, none⟩ = some (.int .i64 0) ∧ z.cell? ⟨sb, 2, none⟩ = some (.float .f64 0) ∧ z.cell? ⟨sb, 3, none⟩ = some (.string ⟨#[]⟩) ∧ z.cell? ⟨sb, 4, none⟩ = some (.slice qs ms ds))) (by kernel_rfl) ?_ (fun hHeld => ?_)
          · exact (kb_drew HKB.out).1.1
          have HDW := Lib.hid (show KB w sb qs ms ds mb KL wr.drew ∧ Below wr.heap.size wr wr.drew from ⟨kb_drew HKB.out, Below.drew (Below.refl _ _)⟩)
          revert HDW hHeld
          generalize wr.drew = Wd
          intro hHeld HDW
          have hq := HDW.out.1
          have hbd := HDW.out.2
          refine wpAnyH_take (i := 0) (oi := ?_) (v := ?_) ?hiu0 (by kernel_rfl) ?hfu0 ?hru0 ?hQu0 ?hyu0 (by assumption) ?restu0
          case hiu0 => (simp only [List.getElem?_toArray, List.getElem?_cons_zero, List.getElem?_cons_succ]; rfl)
          case hfu0 => kernel_rfl
          case hru0 => kernel_rfl
          case hyu0 => (refine Or.inl ⟨by rfl, ?_⟩; intro wS hSw; (try dsimp only at hSw); go_simp; (try with_reducible rfl))
          case hQu0 => exact fun _ _ _ h => h
          (try simp only [Act.put, List.setIfInBounds_toArray, List.set_cons_zero, List.set_cons_succ])
          refine wpAnyH_take (i := 1) (oi := ?_) (v := ?_) ?hiu1 (by kernel_rfl) ?hfu1 ?hru1 ?hQu1 ?hyu1 (by assumption) ?restu1
          case hiu1 => (simp only [List.getElem?_toArray, List.getElem?_cons_zero, List.getElem?_cons_succ]; rfl)
          case hfu1 => kernel_rfl
          case hru1 => kernel_rfl
          case hyu1 => (refine Or.inl ⟨by rfl, ?_⟩; intro wS hSw; (try dsimp only at hSw); go_simp; (try with_reducible rfl))
          case hQu1 => exact fun _ _ _ h => h
          (try simp only [Act.put, List.setIfInBounds_toArray, List.set_cons_zero, List.set_cons_succ])
          refine any_have 3 [11, 12, 2, 3, 4, 5, 6, 7, 8, 9, 10] (fun a a' w' => ∃ (gA gB gC gE : Nat), ∃ (Kt It : Int) (Ft : Nat) (Zt : ByteArray) (qt : Option Addr) (mt dt : Nat) (Kv Iv : Int) (Fv : Nat) (Zv : ByteArray) (qv : Option Addr) (mv dv : Nat), a' = (((((((((((a.put (some 14) (.pointer (some ⟨gA, 0, none⟩))).put (some 15) (.pointer (some ⟨gB, 0, none⟩))).put (some 82) (.slice (some ⟨gC, 0, none⟩) 1 1)).put (some 83) (.string ⟨#[bx]⟩)).put (some 84) (.agg #[.int .i64 3, .int .i64 0, .float .f64 0, .string ⟨#[bx]⟩, .slice none 0 0])).put (some 85) (.slice (some ⟨gE, 0, none⟩) 1 1)).put (some 86) (.tuple #[.agg #[.int .i64 Kt, .int .i64 It, .float .f64 Ft, .string Zt, .slice qt mt dt], .agg #[.int .i64 Kv, .int .i64 Iv, .float .f64 Fv, .string Zv, .slice qv mv dv], .int .i64 0])).put (some 79) (.tuple #[.agg #[.int .i64 Kt, .int .i64 It, .float .f64 Ft, .string Zt, .slice qt mt dt], .agg #[.int .i64 Kv, .int .i64 Iv, .float .f64 Fv, .string Zv, .slice qv mv dv], .int .i64 0])).put (some 87) (.agg #[.int .i64 Kt, .int .i64 It, .float .f64 Ft, .string Zt, .slice qt mt dt])).put (some 88) (.agg #[.int .i64 Kv, .int .i64 Iv, .float .f64 Fv, .string Zv, .slice qv mv dv])).put (some 89) (.int .i64 0)) ∧ KB w sb qs ms ds mb KL w' ∧ Below wr.heap.size wr w' ∧ SBX w' gA (.int .i64 0) (.int .i64 0) (.float .f64 0) (.string ⟨#[]⟩) (.slice none 0 0) ∧ wr.heap.size ≤ gA ∧ SBX w' gB (.int .i64 0) (.int .i64 0) (.float .f64 0) (.string ⟨#[]⟩) (.slice none 0 0) ∧ wr.heap.size ≤ gB ∧ gA ≠ gB ∧ RepS (fun b => wr.heap.size ≤ b ∧ b ≠ gA ∧ b ≠ gB) w' 3 (.agg #[.int .i64 Kt, .int .i64 It, .float .f64 Ft, .string Zt, .slice qt mt dt]) (TT) ∧ RepS (fun b => wr.heap.size ≤ b ∧ b ≠ gA ∧ b ≠ gB) w' 1 (.agg #[.int .i64 Kv, .int .i64 Iv, .float .f64 Fv, .string Zv, .slice qv mv dv]) (UU)) ?phK115n (fun hK115 => ?_)
          case phK115n =>
            intro a' w' hst hHeld
            obtain ⟨gA, gB, gC, gE, Kt, It, Ft, Zt, qt, mt, dt, Kv, Iv, Fv, Zv, qv, mv, dv, rfl, hq, hbd, hsA, hgA, hsB, hgB, hne, ht, hv⟩ := hst
            (try simp only [Act.put, List.setIfInBounds_toArray, List.set_cons_zero, List.set_cons_succ])
            have hcA := hsA.1; have hcB := hsB.1
            refine wpAnyH_ready (rs := [13]) (by kernel_rfl) (by simp) ?_
            refine AllReadyH.cons (o := ?_) ?ho13hK115n ?hst13hK115n AllReadyH.nil
            case ho13hK115n => (simp only [List.getElem?_toArray, List.getElem?_cons_zero, List.getElem?_cons_succ]; rfl)
            intro K hK
            have bb0 := hsA.1.1; have bb1 := hsA.1.2.1; have bb2 := hsA.1.2.2.1; have bb3 := hsA.1.2.2.2.1; have bb4 := hsA.1.2.2.2.2; have bbf := hsA.2; have bbl := cell_lt bb0; go_simp
            have hqA : KB w sb qs ms ds mb KL (((((w'.setCell ⟨gA, 0, none⟩ (.int .i64 Kt)).setCell ⟨gA, 1, none⟩ (.int .i64 It)).setCell ⟨gA, 2, none⟩ (.float .f64 Ft)).setCell ⟨gA, 3, none⟩ (.string Zt)).setCell ⟨gA, 4, none⟩ (.slice qt mt dt)) := kb_set hq (by have h := hgA; omega) (by have h := hgA; omega) (by have h := hgA; omega)
            refine hK.out _ _ ?hs13hK115n (fun hHeld => ?_)
            case hs13hK115n => exact (hqA).1.1
            clear hK K bb0 bb1 bb2 bb3 bb4 bbf bbl
            (try simp only [Act.put, List.setIfInBounds_toArray, List.set_cons_zero, List.set_cons_succ])
            refine wpAnyH_ready (rs := [14]) (by kernel_rfl) (by simp) ?_
            refine AllReadyH.cons (o := ?_) ?ho14hK115n ?hst14hK115n AllReadyH.nil
            case ho14hK115n => (simp only [List.getElem?_toArray, List.getElem?_cons_zero, List.getElem?_cons_succ]; rfl)
            intro K hK
            have bb0 := hsB.1.1; have bb1 := hsB.1.2.1; have bb2 := hsB.1.2.2.1; have bb3 := hsB.1.2.2.2.1; have bb4 := hsB.1.2.2.2.2; have bbf := hsB.2; have bbl := cell_lt bb0; go_simp
            have hqB : KB w sb qs ms ds mb KL ((((((((((w'.setCell ⟨gA, 0, none⟩ (.int .i64 Kt)).setCell ⟨gA, 1, none⟩ (.int .i64 It)).setCell ⟨gA, 2, none⟩ (.float .f64 Ft)).setCell ⟨gA, 3, none⟩ (.string Zt)).setCell ⟨gA, 4, none⟩ (.slice qt mt dt)).setCell ⟨gB, 0, none⟩ (.int .i64 Kv)).setCell ⟨gB, 1, none⟩ (.int .i64 Iv)).setCell ⟨gB, 2, none⟩ (.float .f64 Fv)).setCell ⟨gB, 3, none⟩ (.string Zv)).setCell ⟨gB, 4, none⟩ (.slice qv mv dv)) := kb_set hqA (by have h := hgB; omega) (by have h := hgB; omega) (by have h := hgB; omega)
            refine hK.out _ _ ?hs14hK115n (fun hHeld => ?_)
            case hs14hK115n => exact (hqB).1.1
            clear hK K bb0 bb1 bb2 bb3 bb4 bbf bbl
            (try simp only [Act.put, List.setIfInBounds_toArray, List.set_cons_zero, List.set_cons_succ])
            refine wpAnyH_take (i := 15) (oi := ?_) (v := ?_) ?hihK115n15 (by kernel_rfl) ?hfhK115n15 ?hrhK115n15 ?hQhK115n15 ?hyhK115n15 (by assumption) ?resthK115n15
            case hihK115n15 => (simp only [List.getElem?_toArray, List.getElem?_cons_zero, List.getElem?_cons_succ]; rfl)
            case hfhK115n15 => kernel_rfl
            case hrhK115n15 => kernel_rfl
            case hyhK115n15 => (refine Or.inl ⟨by rfl, ?_⟩; intro wS hSw; (try dsimp only at hSw); go_simp; (try with_reducible rfl))
            case hQhK115n15 => exact fun _ _ _ h => h
            (try simp only [Act.put, List.setIfInBounds_toArray, List.set_cons_zero, List.set_cons_succ])
            refine wpAnyH_done (by kernel_rfl) ?_ _
            have HGF := Lib.hid (show CS ((((((((((w'.setCell ⟨gA, 0, none⟩ (.int .i64 Kt)).setCell ⟨gA, 1, none⟩ (.int .i64 It)).setCell ⟨gA, 2, none⟩ (.float .f64 Ft)).setCell ⟨gA, 3, none⟩ (.string Zt)).setCell ⟨gA, 4, none⟩ (.slice qt mt dt)).setCell ⟨gB, 0, none⟩ (.int .i64 Kv)).setCell ⟨gB, 1, none⟩ (.int .i64 Iv)).setCell ⟨gB, 2, none⟩ (.float .f64 Fv)).setCell ⟨gB, 3, none⟩ (.string Zv)).setCell ⟨gB, 4, none⟩ (.slice qv mv dv)) gA (.int .i64 Kt) (.int .i64 It) (.float .f64 Ft) (.string Zt) (.slice qt mt dt) ∧ CS ((((((((((w'.setCell ⟨gA, 0, none⟩ (.int .i64 Kt)).setCell ⟨gA, 1, none⟩ (.int .i64 It)).setCell ⟨gA, 2, none⟩ (.float .f64 Ft)).setCell ⟨gA, 3, none⟩ (.string Zt)).setCell ⟨gA, 4, none⟩ (.slice qt mt dt)).setCell ⟨gB, 0, none⟩ (.int .i64 Kv)).setCell ⟨gB, 1, none⟩ (.int .i64 Iv)).setCell ⟨gB, 2, none⟩ (.float .f64 Fv)).setCell ⟨gB, 3, none⟩ (.string Zv)).setCell ⟨gB, 4, none⟩ (.slice qv mv dv)) gB (.int .i64 Kv) (.int .i64 Iv) (.float .f64 Fv) (.string Zv) (.slice qv mv dv) ∧ KB w sb qs ms ds mb KL ((((((((((w'.setCell ⟨gA, 0, none⟩ (.int .i64 Kt)).setCell ⟨gA, 1, none⟩ (.int .i64 It)).setCell ⟨gA, 2, none⟩ (.float .f64 Ft)).setCell ⟨gA, 3, none⟩ (.string Zt)).setCell ⟨gA, 4, none⟩ (.slice qt mt dt)).setCell ⟨gB, 0, none⟩ (.int .i64 Kv)).setCell ⟨gB, 1, none⟩ (.int .i64 Iv)).setCell ⟨gB, 2, none⟩ (.float .f64 Fv)).setCell ⟨gB, 3, none⟩ (.string Zv)).setCell ⟨gB, 4, none⟩ (.slice qv mv dv)) ∧ Below wr.heap.size wr ((((((((((w'.setCell ⟨gA, 0, none⟩ (.int .i64 Kt)).setCell ⟨gA, 1, none⟩ (.int .i64 It)).setCell ⟨gA, 2, none⟩ (.float .f64 Ft)).setCell ⟨gA, 3, none⟩ (.string Zt)).setCell ⟨gA, 4, none⟩ (.slice qt mt dt)).setCell ⟨gB, 0, none⟩ (.int .i64 Kv)).setCell ⟨gB, 1, none⟩ (.int .i64 Iv)).setCell ⟨gB, 2, none⟩ (.float .f64 Fv)).setCell ⟨gB, 3, none⟩ (.string Zv)).setCell ⟨gB, 4, none⟩ (.slice qv mv dv)) ∧ RepS (fun b => wr.heap.size ≤ b ∧ b ≠ gA ∧ b ≠ gB) ((((((((((w'.setCell ⟨gA, 0, none⟩ (.int .i64 Kt)).setCell ⟨gA, 1, none⟩ (.int .i64 It)).setCell ⟨gA, 2, none⟩ (.float .f64 Ft)).setCell ⟨gA, 3, none⟩ (.string Zt)).setCell ⟨gA, 4, none⟩ (.slice qt mt dt)).setCell ⟨gB, 0, none⟩ (.int .i64 Kv)).setCell ⟨gB, 1, none⟩ (.int .i64 Iv)).setCell ⟨gB, 2, none⟩ (.float .f64 Fv)).setCell ⟨gB, 3, none⟩ (.string Zv)).setCell ⟨gB, 4, none⟩ (.slice qv mv dv)) 3 (.agg #[.int .i64 Kt, .int .i64 It, .float .f64 Ft, .string Zt, .slice qt mt dt]) (TT) ∧ RepS (fun b => wr.heap.size ≤ b ∧ b ≠ gA ∧ b ≠ gB) ((((((((((w'.setCell ⟨gA, 0, none⟩ (.int .i64 Kt)).setCell ⟨gA, 1, none⟩ (.int .i64 It)).setCell ⟨gA, 2, none⟩ (.float .f64 Ft)).setCell ⟨gA, 3, none⟩ (.string Zt)).setCell ⟨gA, 4, none⟩ (.slice qt mt dt)).setCell ⟨gB, 0, none⟩ (.int .i64 Kv)).setCell ⟨gB, 1, none⟩ (.int .i64 Iv)).setCell ⟨gB, 2, none⟩ (.float .f64 Fv)).setCell ⟨gB, 3, none⟩ (.string Zv)).setCell ⟨gB, 4, none⟩ (.slice qv mv dv)) 1 (.agg #[.int .i64 Kv, .int .i64 Iv, .float .f64 Fv, .string Zv, .slice qv mv dv]) (UU) from ⟨cs_other (cs_set5 hsA.1) hne, cs_set5 (cs_other hsB.1 hne.symm), hqB, bel_set5 (bel_set5 hbd hgA) hgB, repS_set (repS_set ht (fun b hb => hb.2.1)) (fun b hb => hb.2.2), repS_set (repS_set hv (fun b hb => hb.2.1)) (fun b hb => hb.2.2)⟩)
            clear hq hqA hqB hbd hsA hsB hcA hcB ht hv hHeld
            revert HGF
            generalize ((((((((((w'.setCell ⟨gA, 0, none⟩ (.int .i64 Kt)).setCell ⟨gA, 1, none⟩ (.int .i64 It)).setCell ⟨gA, 2, none⟩ (.float .f64 Ft)).setCell ⟨gA, 3, none⟩ (.string Zt)).setCell ⟨gA, 4, none⟩ (.slice qt mt dt)).setCell ⟨gB, 0, none⟩ (.int .i64 Kv)).setCell ⟨gB, 1, none⟩ (.int .i64 Iv)).setCell ⟨gB, 2, none⟩ (.float .f64 Fv)).setCell ⟨gB, 3, none⟩ (.string Zv)).setCell ⟨gB, 4, none⟩ (.slice qv mv dv)) = Wg
            intro HGF
            go_wp2_with fail
            go_meet
            exact ⟨_, _, Kt, It, Ft, Zt, qt, mt, dt, Kv, Iv, Fv, Zv, qv, mv, dv, rfl, rfl, rfl, HGF.out⟩
          refine any_have 4 [11, 2, 3, 4, 5, 6, 7, 8, 9, 10] (fun a a' w' => ∃ (gA gC gE : Nat), ∃ (Kt It : Int) (Ft : Nat) (Zt : ByteArray) (qt : Option Addr) (mt dt : Nat) (Kv Iv : Int) (Fv : Nat) (Zv : ByteArray) (qv : Option Addr) (mv dv : Nat), a' = ((((((((((a.put (some 14) (.pointer (some ⟨gA, 0, none⟩))).put (some 82) (.slice (some ⟨gC, 0, none⟩) 1 1)).put (some 83) (.string ⟨#[bx]⟩)).put (some 84) (.agg #[.int .i64 3, .int .i64 0, .float .f64 0, .string ⟨#[bx]⟩, .slice none 0 0])).put (some 85) (.slice (some ⟨gE, 0, none⟩) 1 1)).put (some 86) (.tuple #[.agg #[.int .i64 Kt, .int .i64 It, .float .f64 Ft, .string Zt, .slice qt mt dt], .agg #[.int .i64 Kv, .int .i64 Iv, .float .f64 Fv, .string Zv, .slice qv mv dv], .int .i64 0])).put (some 79) (.tuple #[.agg #[.int .i64 Kt, .int .i64 It, .float .f64 Ft, .string Zt, .slice qt mt dt], .agg #[.int .i64 Kv, .int .i64 Iv, .float .f64 Fv, .string Zv, .slice qv mv dv], .int .i64 0])).put (some 87) (.agg #[.int .i64 Kt, .int .i64 It, .float .f64 Ft, .string Zt, .slice qt mt dt])).put (some 88) (.agg #[.int .i64 Kv, .int .i64 Iv, .float .f64 Fv, .string Zv, .slice qv mv dv])).put (some 89) (.int .i64 0)) ∧ KB w sb qs ms ds mb KL w' ∧ Below wr.heap.size wr w' ∧ SBX w' gA (.int .i64 0) (.int .i64 0) (.float .f64 0) (.string ⟨#[]⟩) (.slice none 0 0) ∧ wr.heap.size ≤ gA ∧ RepS (fun b => wr.heap.size ≤ b ∧ b ≠ gA) w' 3 (.agg #[.int .i64 Kt, .int .i64 It, .float .f64 Ft, .string Zt, .slice qt mt dt]) (TT) ∧ RepS (fun b => wr.heap.size ≤ b ∧ b ≠ gA) w' 1 (.agg #[.int .i64 Kv, .int .i64 Iv, .float .f64 Fv, .string Zv, .slice qv mv dv]) (UU)) ?phK105n (fun hK105 => ?_)
          case phK105n =>
            intro a' w' hst hHeld
            obtain ⟨gA, gC, gE, Kt, It, Ft, Zt, qt, mt, dt, Kv, Iv, Fv, Zv, qv, mv, dv, rfl, hq, hbd, hsA, hgA, ht, hv⟩ := hst
            (try simp only [Act.put, List.setIfInBounds_toArray, List.set_cons_zero, List.set_cons_succ])
            refine wpAnyH_ready (rs := [12]) (by kernel_rfl) (by simp) ?_
            refine AllReadyH.cons (o := ?_) ?hoBhK105n ?hstBhK105n AllReadyH.nil
            case hoBhK105n => (simp only [List.getElem?_toArray, List.getElem?_cons_zero, List.getElem?_cons_succ]; rfl)
            case hstBhK105n =>
              intro K hK
              go_simp
              refine hK.out _ _ ?hsBhK105n (fun hHeld => ?_)
              case hsBhK105n => exact ((kb_step hq (bel_alloc (Below.refl _ _) (.cells #[.int .i64 0, .int .i64 0, .float .f64 0, .string ⟨#[]⟩, .slice none 0 0] 27)))).1.1
              clear hK K
              (try simp only [Act.put, List.setIfInBounds_toArray, List.set_cons_zero, List.set_cons_succ])
              exact any_eq (by kernel_rfl) (by kernel_rfl) (hK115 _ _ ⟨gA, _, gC, gE, Kt, It, Ft, Zt, qt, mt, dt, Kv, Iv, Fv, Zv, qv, mv, dv, rfl, (kb_step hq (bel_alloc (Below.refl _ _) (.cells #[.int .i64 0, .int .i64 0, .float .f64 0, .string ⟨#[]⟩, .slice none 0 0] 27))), (bel_step hbd (bel_alloc (Below.refl _ _) (.cells #[.int .i64 0, .int .i64 0, .float .f64 0, .string ⟨#[]⟩, .slice none 0 0] 27))), (sbx_step hsA (bel_alloc (Below.refl _ _) (.cells #[.int .i64 0, .int .i64 0, .float .f64 0, .string ⟨#[]⟩, .slice none 0 0] 27))), hgA, ⟨cs_new rfl, fun o => row_frz (row_alloc _ _ _) o⟩, hbd.size, (by have h := cs_lt hsA.1; omega), (repS_step (bel_alloc (Below.refl _ _) (.cells #[.int .i64 0, .int .i64 0, .float .f64 0, .string ⟨#[]⟩, .slice none 0 0] 27)) (repS_mono (fun b hb => ⟨hb.1.1, hb.1.2, Nat.ne_of_lt hb.2⟩) _ _ _ (repS_lt _ _ _ ht))), (repS_step (bel_alloc (Below.refl _ _) (.cells #[.int .i64 0, .int .i64 0, .float .f64 0, .string ⟨#[]⟩, .slice none 0 0] 27)) (repS_mono (fun b hb => ⟨hb.1.1, hb.1.2, Nat.ne_of_lt hb.2⟩) _ _ _ (repS_lt _ _ _ hv)))⟩ hHeld)
          refine any_have 4 [12, 2, 3, 4, 5, 6, 7, 8, 9, 10] (fun a a' w' => ∃ (gB gC gE : Nat), ∃ (Kt It : Int) (Ft : Nat) (Zt : ByteArray) (qt : Option Addr) (mt dt : Nat) (Kv Iv : Int) (Fv : Nat) (Zv : ByteArray) (qv : Option Addr) (mv dv : Nat), a' = ((((((((((a.put (some 15) (.pointer (some ⟨gB, 0, none⟩))).put (some 82) (.slice (some ⟨gC, 0, none⟩) 1 1)).put (some 83) (.string ⟨#[bx]⟩)).put (some 84) (.agg #[.int .i64 3, .int .i64 0, .float .f64 0, .string ⟨#[bx]⟩, .slice none 0 0])).put (some 85) (.slice (some ⟨gE, 0, none⟩) 1 1)).put (some 86) (.tuple #[.agg #[.int .i64 Kt, .int .i64 It, .float .f64 Ft, .string Zt, .slice qt mt dt], .agg #[.int .i64 Kv, .int .i64 Iv, .float .f64 Fv, .string Zv, .slice qv mv dv], .int .i64 0])).put (some 79) (.tuple #[.agg #[.int .i64 Kt, .int .i64 It, .float .f64 Ft, .string Zt, .slice qt mt dt], .agg #[.int .i64 Kv, .int .i64 Iv, .float .f64 Fv, .string Zv, .slice qv mv dv], .int .i64 0])).put (some 87) (.agg #[.int .i64 Kt, .int .i64 It, .float .f64 Ft, .string Zt, .slice qt mt dt])).put (some 88) (.agg #[.int .i64 Kv, .int .i64 Iv, .float .f64 Fv, .string Zv, .slice qv mv dv])).put (some 89) (.int .i64 0)) ∧ KB w sb qs ms ds mb KL w' ∧ Below wr.heap.size wr w' ∧ SBX w' gB (.int .i64 0) (.int .i64 0) (.float .f64 0) (.string ⟨#[]⟩) (.slice none 0 0) ∧ wr.heap.size ≤ gB ∧ RepS (fun b => wr.heap.size ≤ b ∧ b ≠ gB) w' 3 (.agg #[.int .i64 Kt, .int .i64 It, .float .f64 Ft, .string Zt, .slice qt mt dt]) (TT) ∧ RepS (fun b => wr.heap.size ≤ b ∧ b ≠ gB) w' 1 (.agg #[.int .i64 Kv, .int .i64 Iv, .float .f64 Fv, .string Zv, .slice qv mv dv]) (UU)) ?phK015n (fun hK015 => ?_)
          case phK015n =>
            intro a' w' hst hHeld
            obtain ⟨gB, gC, gE, Kt, It, Ft, Zt, qt, mt, dt, Kv, Iv, Fv, Zv, qv, mv, dv, rfl, hq, hbd, hsB, hgB, ht, hv⟩ := hst
            (try simp only [Act.put, List.setIfInBounds_toArray, List.set_cons_zero, List.set_cons_succ])
            refine wpAnyH_ready (rs := [11]) (by kernel_rfl) (by simp) ?_
            refine AllReadyH.cons (o := ?_) ?hoAhK015n ?hstAhK015n AllReadyH.nil
            case hoAhK015n => (simp only [List.getElem?_toArray, List.getElem?_cons_zero, List.getElem?_cons_succ]; rfl)
            case hstAhK015n =>
              intro K hK
              go_simp
              refine hK.out _ _ ?hsAhK015n (fun hHeld => ?_)
              case hsAhK015n => exact ((kb_step hq (bel_alloc (Below.refl _ _) (.cells #[.int .i64 0, .int .i64 0, .float .f64 0, .string ⟨#[]⟩, .slice none 0 0] 27)))).1.1
              clear hK K
              (try simp only [Act.put, List.setIfInBounds_toArray, List.set_cons_zero, List.set_cons_succ])
              exact any_eq (by kernel_rfl) (by kernel_rfl) (hK115 _ _ ⟨_, gB, gC, gE, Kt, It, Ft, Zt, qt, mt, dt, Kv, Iv, Fv, Zv, qv, mv, dv, rfl, (kb_step hq (bel_alloc (Below.refl _ _) (.cells #[.int .i64 0, .int .i64 0, .float .f64 0, .string ⟨#[]⟩, .slice none 0 0] 27))), (bel_step hbd (bel_alloc (Below.refl _ _) (.cells #[.int .i64 0, .int .i64 0, .float .f64 0, .string ⟨#[]⟩, .slice none 0 0] 27))), ⟨cs_new rfl, fun o => row_frz (row_alloc _ _ _) o⟩, hbd.size, (sbx_step hsB (bel_alloc (Below.refl _ _) (.cells #[.int .i64 0, .int .i64 0, .float .f64 0, .string ⟨#[]⟩, .slice none 0 0] 27))), hgB, (by have h := cs_lt hsB.1; omega), (repS_step (bel_alloc (Below.refl _ _) (.cells #[.int .i64 0, .int .i64 0, .float .f64 0, .string ⟨#[]⟩, .slice none 0 0] 27)) (repS_mono (fun b hb => ⟨hb.1.1, Nat.ne_of_lt hb.2, hb.1.2⟩) _ _ _ (repS_lt _ _ _ ht))), (repS_step (bel_alloc (Below.refl _ _) (.cells #[.int .i64 0, .int .i64 0, .float .f64 0, .string ⟨#[]⟩, .slice none 0 0] 27)) (repS_mono (fun b hb => ⟨hb.1.1, Nat.ne_of_lt hb.2, hb.1.2⟩) _ _ _ (repS_lt _ _ _ hv)))⟩ hHeld)
          refine any_have 5 [2, 3, 4, 5, 6, 7, 8, 9, 10] (fun a a' w' => ∃ (gC gE : Nat), ∃ (Kt It : Int) (Ft : Nat) (Zt : ByteArray) (qt : Option Addr) (mt dt : Nat) (Kv Iv : Int) (Fv : Nat) (Zv : ByteArray) (qv : Option Addr) (mv dv : Nat), a' = (((((((((a.put (some 82) (.slice (some ⟨gC, 0, none⟩) 1 1)).put (some 83) (.string ⟨#[bx]⟩)).put (some 84) (.agg #[.int .i64 3, .int .i64 0, .float .f64 0, .string ⟨#[bx]⟩, .slice none 0 0])).put (some 85) (.slice (some ⟨gE, 0, none⟩) 1 1)).put (some 86) (.tuple #[.agg #[.int .i64 Kt, .int .i64 It, .float .f64 Ft, .string Zt, .slice qt mt dt], .agg #[.int .i64 Kv, .int .i64 Iv, .float .f64 Fv, .string Zv, .slice qv mv dv], .int .i64 0])).put (some 79) (.tuple #[.agg #[.int .i64 Kt, .int .i64 It, .float .f64 Ft, .string Zt, .slice qt mt dt], .agg #[.int .i64 Kv, .int .i64 Iv, .float .f64 Fv, .string Zv, .slice qv mv dv], .int .i64 0])).put (some 87) (.agg #[.int .i64 Kt, .int .i64 It, .float .f64 Ft, .string Zt, .slice qt mt dt])).put (some 88) (.agg #[.int .i64 Kv, .int .i64 Iv, .float .f64 Fv, .string Zv, .slice qv mv dv])).put (some 89) (.int .i64 0)) ∧ KB w sb qs ms ds mb KL w' ∧ Below wr.heap.size wr w' ∧ RepS (fun b => wr.heap.size ≤ b) w' 3 (.agg #[.int .i64 Kt, .int .i64 It, .float .f64 Ft, .string Zt, .slice qt mt dt]) (TT) ∧ RepS (fun b => wr.heap.size ≤ b) w' 1 (.agg #[.int .i64 Kv, .int .i64 Iv, .float .f64 Fv, .string Zv, .slice qv mv dv]) (UU)) ?phK005n (fun hK005 => ?_)
          case phK005n =>
            intro a' w' hst hHeld
            obtain ⟨gC, gE, Kt, It, Ft, Zt, qt, mt, dt, Kv, Iv, Fv, Zv, qv, mv, dv, rfl, hq, hbd, ht, hv⟩ := hst
            (try simp only [Act.put, List.setIfInBounds_toArray, List.set_cons_zero, List.set_cons_succ])
            refine wpAnyH_ready (rs := [11, 12]) (by kernel_rfl) (by simp) ?_
            refine AllReadyH.cons (o := ?_) ?hoAhK005n ?hstAhK005n (AllReadyH.cons (o := ?_) ?hoBhK005n ?hstBhK005n AllReadyH.nil)
            case hoAhK005n => (simp only [List.getElem?_toArray, List.getElem?_cons_zero, List.getElem?_cons_succ]; rfl)
            case hoBhK005n => (simp only [List.getElem?_toArray, List.getElem?_cons_zero, List.getElem?_cons_succ]; rfl)
            case hstAhK005n =>
              intro K hK
              go_simp
              refine hK.out _ _ ?hsAhK005n (fun hHeld => ?_)
              case hsAhK005n => exact ((kb_step hq (bel_alloc (Below.refl _ _) (.cells #[.int .i64 0, .int .i64 0, .float .f64 0, .string ⟨#[]⟩, .slice none 0 0] 27)))).1.1
              clear hK K
              (try simp only [Act.put, List.setIfInBounds_toArray, List.set_cons_zero, List.set_cons_succ])
              exact any_eq (by kernel_rfl) (by kernel_rfl) (hK105 _ _ ⟨_, gC, gE, Kt, It, Ft, Zt, qt, mt, dt, Kv, Iv, Fv, Zv, qv, mv, dv, rfl, (kb_step hq (bel_alloc (Below.refl _ _) (.cells #[.int .i64 0, .int .i64 0, .float .f64 0, .string ⟨#[]⟩, .slice none 0 0] 27))), (bel_step hbd (bel_alloc (Below.refl _ _) (.cells #[.int .i64 0, .int .i64 0, .float .f64 0, .string ⟨#[]⟩, .slice none 0 0] 27))), ⟨cs_new rfl, fun o => row_frz (row_alloc _ _ _) o⟩, hbd.size, (repS_step (bel_alloc (Below.refl _ _) (.cells #[.int .i64 0, .int .i64 0, .float .f64 0, .string ⟨#[]⟩, .slice none 0 0] 27)) (repS_mono (fun b hb => ⟨hb.1, Nat.ne_of_lt hb.2⟩) _ _ _ (repS_lt _ _ _ ht))), (repS_step (bel_alloc (Below.refl _ _) (.cells #[.int .i64 0, .int .i64 0, .float .f64 0, .string ⟨#[]⟩, .slice none 0 0] 27)) (repS_mono (fun b hb => ⟨hb.1, Nat.ne_of_lt hb.2⟩) _ _ _ (repS_lt _ _ _ hv)))⟩ hHeld)
            case hstBhK005n =>
              intro K hK
              go_simp
              refine hK.out _ _ ?hsBhK005n (fun hHeld => ?_)
              case hsBhK005n => exact ((kb_step hq (bel_alloc (Below.refl _ _) (.cells #[.int .i64 0, .int .i64 0, .float .f64 0, .string ⟨#[]⟩, .slice none 0 0] 27)))).1.1
              clear hK K
              (try simp only [Act.put, List.setIfInBounds_toArray, List.set_cons_zero, List.set_cons_succ])
              exact any_eq (by kernel_rfl) (by kernel_rfl) (hK015 _ _ ⟨_, gC, gE, Kt, It, Ft, Zt, qt, mt, dt, Kv, Iv, Fv, Zv, qv, mv, dv, rfl, (kb_step hq (bel_alloc (Below.refl _ _) (.cells #[.int .i64 0, .int .i64 0, .float .f64 0, .string ⟨#[]⟩, .slice none 0 0] 27))), (bel_step hbd (bel_alloc (Below.refl _ _) (.cells #[.int .i64 0, .int .i64 0, .float .f64 0, .string ⟨#[]⟩, .slice none 0 0] 27))), ⟨cs_new rfl, fun o => row_frz (row_alloc _ _ _) o⟩, hbd.size, (repS_step (bel_alloc (Below.refl _ _) (.cells #[.int .i64 0, .int .i64 0, .float .f64 0, .string ⟨#[]⟩, .slice none 0 0] 27)) (repS_mono (fun b hb => ⟨hb.1, Nat.ne_of_lt hb.2⟩) _ _ _ (repS_lt _ _ _ ht))), (repS_step (bel_alloc (Below.refl _ _) (.cells #[.int .i64 0, .int .i64 0, .float .f64 0, .string ⟨#[]⟩, .slice none 0 0] 27)) (repS_mono (fun b hb => ⟨hb.1, Nat.ne_of_lt hb.2⟩) _ _ _ (repS_lt _ _ _ hv)))⟩ hHeld)
          refine any_have 8 [11, 12, 2, 3, 4, 5] (fun a a' w' => ∃ (gA gB gC gE : Nat), a' = ((((((a.put (some 14) (.pointer (some ⟨gA, 0, none⟩))).put (some 15) (.pointer (some ⟨gB, 0, none⟩))).put (some 82) (.slice (some ⟨gC, 0, none⟩) 1 1)).put (some 83) (.string ⟨#[bx]⟩)).put (some 84) (.agg #[.int .i64 3, .int .i64 0, .float .f64 0, .string ⟨#[bx]⟩, .slice none 0 0])).put (some 85) (.slice (some ⟨gE, 0, none⟩) 1 1)) ∧ KB w sb qs ms ds mb KL w' ∧ Below wr.heap.size wr w' ∧ SBX w' gA (.int .i64 0) (.int .i64 0) (.float .f64 0) (.string ⟨#[]⟩) (.slice none 0 0) ∧ wr.heap.size ≤ gA ∧ SBX w' gB (.int .i64 0) (.int .i64 0) (.float .f64 0) (.string ⟨#[]⟩) (.slice none 0 0) ∧ wr.heap.size ≤ gB ∧ gA ≠ gB ∧ LN gE (nmK cx) w') ?phK114n (fun hK114 => ?_)
          case phK114n =>
            intro a' w' hst hHeld
            obtain ⟨gA, gB, gC, gE, rfl, hq, hbd, hsA, hgA, hsB, hgB, hne, hlv⟩ := hst
            (try simp only [Act.put, List.setIfInBounds_toArray, List.set_cons_zero, List.set_cons_succ])
            refine wpAnyH_ready (rs := [6]) (by kernel_rfl) (by simp) ?_
            refine AllReadyH.cons (o := ?_) ?hoXhK114n ?hstXhK114n AllReadyH.nil
            case hoXhK114n => (simp only [List.getElem?_toArray, List.getElem?_cons_zero, List.getElem?_cons_succ]; rfl)
            case hstXhK114n =>
              intro K hK
              go_simp
              have hrp := repS_rep _ _ _ (repS_step hbd HSTr.out); go_at_call 12; refine (HDO.out _ _ hrp hlv).mono ?_; rintro e wD ⟨tt, vv, rfl, hbT, ht, hv⟩; obtain ⟨Kt, It, Ft, Zt, qt, mt, dt, rfl, _⟩ := repS_shape ht; obtain ⟨Kv, Iv, Fv, Zv, qv, mv, dv, rfl, _⟩ := repS_shape hv
              go_wp2_with fail
              refine hK.out _ _ ?hsXhK114n (fun hHeld => ?_)
              case hsXhK114n => exact ((kb_step hq hbT)).1.1
              clear hK K
              (try simp only [Act.put, List.setIfInBounds_toArray, List.set_cons_zero, List.set_cons_succ])
              refine wpAnyH_take (i := 7) (oi := ?_) (v := ?_) ?hiXhK114n7 (by kernel_rfl) ?hfXhK114n7 ?hrXhK114n7 ?hQXhK114n7 ?hyXhK114n7 (by assumption) ?restXhK114n7
              case hiXhK114n7 => (simp only [List.getElem?_toArray, List.getElem?_cons_zero, List.getElem?_cons_succ]; rfl)
              case hfXhK114n7 => kernel_rfl
              case hrXhK114n7 => kernel_rfl
              case hyXhK114n7 => (refine Or.inl ⟨by rfl, ?_⟩; intro wS hSw; (try dsimp only at hSw); go_simp; (try with_reducible rfl))
              case hQXhK114n7 => exact fun _ _ _ h => h
              (try simp only [Act.put, List.setIfInBounds_toArray, List.set_cons_zero, List.set_cons_succ])
              refine wpAnyH_take (i := 8) (oi := ?_) (v := ?_) ?hiXhK114n8 (by kernel_rfl) ?hfXhK114n8 ?hrXhK114n8 ?hQXhK114n8 ?hyXhK114n8 (by assumption) ?restXhK114n8
              case hiXhK114n8 => (simp only [List.getElem?_toArray, List.getElem?_cons_zero, List.getElem?_cons_succ]; rfl)
              case hfXhK114n8 => kernel_rfl
              case hrXhK114n8 => kernel_rfl
              case hyXhK114n8 => (refine Or.inl ⟨by rfl, ?_⟩; intro wS hSw; (try dsimp only at hSw); go_simp; (try with_reducible rfl))
              case hQXhK114n8 => exact fun _ _ _ h => h
              (try simp only [Act.put, List.setIfInBounds_toArray, List.set_cons_zero, List.set_cons_succ])
              refine wpAnyH_take (i := 9) (oi := ?_) (v := ?_) ?hiXhK114n9 (by kernel_rfl) ?hfXhK114n9 ?hrXhK114n9 ?hQXhK114n9 ?hyXhK114n9 (by assumption) ?restXhK114n9
              case hiXhK114n9 => (simp only [List.getElem?_toArray, List.getElem?_cons_zero, List.getElem?_cons_succ]; rfl)
              case hfXhK114n9 => kernel_rfl
              case hrXhK114n9 => kernel_rfl
              case hyXhK114n9 => (refine Or.inl ⟨by rfl, ?_⟩; intro wS hSw; (try dsimp only at hSw); go_simp; (try with_reducible rfl))
              case hQXhK114n9 => exact fun _ _ _ h => h
              (try simp only [Act.put, List.setIfInBounds_toArray, List.set_cons_zero, List.set_cons_succ])
              refine wpAnyH_take (i := 10) (oi := ?_) (v := ?_) ?hiXhK114n10 (by kernel_rfl) ?hfXhK114n10 ?hrXhK114n10 ?hQXhK114n10 ?hyXhK114n10 (by assumption) ?restXhK114n10
              case hiXhK114n10 => (simp only [List.getElem?_toArray, List.getElem?_cons_zero, List.getElem?_cons_succ]; rfl)
              case hfXhK114n10 => kernel_rfl
              case hrXhK114n10 => kernel_rfl
              case hyXhK114n10 => (refine Or.inl ⟨by rfl, ?_⟩; intro wS hSw; (try dsimp only at hSw); go_simp; (try with_reducible rfl))
              case hQXhK114n10 => exact fun _ _ _ h => h
              (try simp only [Act.put, List.setIfInBounds_toArray, List.set_cons_zero, List.set_cons_succ])
              exact any_eq (by kernel_rfl) (by kernel_rfl) (hK115 _ _ ⟨gA, gB, gC, gE, Kt, It, Ft, Zt, qt, mt, dt, Kv, Iv, Fv, Zv, qv, mv, dv, rfl, (kb_step hq hbT), (bel_step hbd hbT), (sbx_step hsA hbT), hgA, (sbx_step hsB hbT), hgB, hne, (repS_mono (fun b hb => ⟨Nat.le_trans hbd.size hb, (by have h := cs_lt hsA.1; have h2 : _ ≤ b := hb; omega), (by have h := cs_lt hsB.1; have h2 : _ ≤ b := hb; omega)⟩) _ _ _ ht), (repS_mono (fun b hb => ⟨Nat.le_trans hbd.size hb, (by have h := cs_lt hsA.1; have h2 : _ ≤ b := hb; omega), (by have h := cs_lt hsB.1; have h2 : _ ≤ b := hb; omega)⟩) _ _ _ hv)⟩ hHeld)
          refine any_have 9 [11, 2, 3, 4, 5] (fun a a' w' => ∃ (gA gC gE : Nat), a' = (((((a.put (some 14) (.pointer (some ⟨gA, 0, none⟩))).put (some 82) (.slice (some ⟨gC, 0, none⟩) 1 1)).put (some 83) (.string ⟨#[bx]⟩)).put (some 84) (.agg #[.int .i64 3, .int .i64 0, .float .f64 0, .string ⟨#[bx]⟩, .slice none 0 0])).put (some 85) (.slice (some ⟨gE, 0, none⟩) 1 1)) ∧ KB w sb qs ms ds mb KL w' ∧ Below wr.heap.size wr w' ∧ SBX w' gA (.int .i64 0) (.int .i64 0) (.float .f64 0) (.string ⟨#[]⟩) (.slice none 0 0) ∧ wr.heap.size ≤ gA ∧ LN gE (nmK cx) w') ?phK104n (fun hK104 => ?_)
          case phK104n =>
            intro a' w' hst hHeld
            obtain ⟨gA, gC, gE, rfl, hq, hbd, hsA, hgA, hlv⟩ := hst
            (try simp only [Act.put, List.setIfInBounds_toArray, List.set_cons_zero, List.set_cons_succ])
            refine wpAnyH_ready (rs := [6, 12]) (by kernel_rfl) (by simp) ?_
            refine AllReadyH.cons (o := ?_) ?hoXhK104n ?hstXhK104n (AllReadyH.cons (o := ?_) ?hoBhK104n ?hstBhK104n AllReadyH.nil)
            case hoXhK104n => (simp only [List.getElem?_toArray, List.getElem?_cons_zero, List.getElem?_cons_succ]; rfl)
            case hoBhK104n => (simp only [List.getElem?_toArray, List.getElem?_cons_zero, List.getElem?_cons_succ]; rfl)
            case hstXhK104n =>
              intro K hK
              go_simp
              have hrp := repS_rep _ _ _ (repS_step hbd HSTr.out); go_at_call 12; refine (HDO.out _ _ hrp hlv).mono ?_; rintro e wD ⟨tt, vv, rfl, hbT, ht, hv⟩; obtain ⟨Kt, It, Ft, Zt, qt, mt, dt, rfl, _⟩ := repS_shape ht; obtain ⟨Kv, Iv, Fv, Zv, qv, mv, dv, rfl, _⟩ := repS_shape hv
              go_wp2_with fail
              refine hK.out _ _ ?hsXhK104n (fun hHeld => ?_)
              case hsXhK104n => exact ((kb_step hq hbT)).1.1
              clear hK K
              (try simp only [Act.put, List.setIfInBounds_toArray, List.set_cons_zero, List.set_cons_succ])
              refine wpAnyH_take (i := 7) (oi := ?_) (v := ?_) ?hiXhK104n7 (by kernel_rfl) ?hfXhK104n7 ?hrXhK104n7 ?hQXhK104n7 ?hyXhK104n7 (by assumption) ?restXhK104n7
              case hiXhK104n7 => (simp only [List.getElem?_toArray, List.getElem?_cons_zero, List.getElem?_cons_succ]; rfl)
              case hfXhK104n7 => kernel_rfl
              case hrXhK104n7 => kernel_rfl
              case hyXhK104n7 => (refine Or.inl ⟨by rfl, ?_⟩; intro wS hSw; (try dsimp only at hSw); go_simp; (try with_reducible rfl))
              case hQXhK104n7 => exact fun _ _ _ h => h
              (try simp only [Act.put, List.setIfInBounds_toArray, List.set_cons_zero, List.set_cons_succ])
              refine wpAnyH_take (i := 8) (oi := ?_) (v := ?_) ?hiXhK104n8 (by kernel_rfl) ?hfXhK104n8 ?hrXhK104n8 ?hQXhK104n8 ?hyXhK104n8 (by assumption) ?restXhK104n8
              case hiXhK104n8 => (simp only [List.getElem?_toArray, List.getElem?_cons_zero, List.getElem?_cons_succ]; rfl)
              case hfXhK104n8 => kernel_rfl
              case hrXhK104n8 => kernel_rfl
              case hyXhK104n8 => (refine Or.inl ⟨by rfl, ?_⟩; intro wS hSw; (try dsimp only at hSw); go_simp; (try with_reducible rfl))
              case hQXhK104n8 => exact fun _ _ _ h => h
              (try simp only [Act.put, List.setIfInBounds_toArray, List.set_cons_zero, List.set_cons_succ])
              refine wpAnyH_take (i := 9) (oi := ?_) (v := ?_) ?hiXhK104n9 (by kernel_rfl) ?hfXhK104n9 ?hrXhK104n9 ?hQXhK104n9 ?hyXhK104n9 (by assumption) ?restXhK104n9
              case hiXhK104n9 => (simp only [List.getElem?_toArray, List.getElem?_cons_zero, List.getElem?_cons_succ]; rfl)
              case hfXhK104n9 => kernel_rfl
              case hrXhK104n9 => kernel_rfl
              case hyXhK104n9 => (refine Or.inl ⟨by rfl, ?_⟩; intro wS hSw; (try dsimp only at hSw); go_simp; (try with_reducible rfl))
              case hQXhK104n9 => exact fun _ _ _ h => h
              (try simp only [Act.put, List.setIfInBounds_toArray, List.set_cons_zero, List.set_cons_succ])
              refine wpAnyH_take (i := 10) (oi := ?_) (v := ?_) ?hiXhK104n10 (by kernel_rfl) ?hfXhK104n10 ?hrXhK104n10 ?hQXhK104n10 ?hyXhK104n10 (by assumption) ?restXhK104n10
              case hiXhK104n10 => (simp only [List.getElem?_toArray, List.getElem?_cons_zero, List.getElem?_cons_succ]; rfl)
              case hfXhK104n10 => kernel_rfl
              case hrXhK104n10 => kernel_rfl
              case hyXhK104n10 => (refine Or.inl ⟨by rfl, ?_⟩; intro wS hSw; (try dsimp only at hSw); go_simp; (try with_reducible rfl))
              case hQXhK104n10 => exact fun _ _ _ h => h
              (try simp only [Act.put, List.setIfInBounds_toArray, List.set_cons_zero, List.set_cons_succ])
              exact any_eq (by kernel_rfl) (by kernel_rfl) (hK105 _ _ ⟨gA, gC, gE, Kt, It, Ft, Zt, qt, mt, dt, Kv, Iv, Fv, Zv, qv, mv, dv, rfl, (kb_step hq hbT), (bel_step hbd hbT), (sbx_step hsA hbT), hgA, (repS_mono (fun b hb => ⟨Nat.le_trans hbd.size hb, (by have h := cs_lt hsA.1; have h2 : _ ≤ b := hb; omega)⟩) _ _ _ ht), (repS_mono (fun b hb => ⟨Nat.le_trans hbd.size hb, (by have h := cs_lt hsA.1; have h2 : _ ≤ b := hb; omega)⟩) _ _ _ hv)⟩ hHeld)
            case hstBhK104n =>
              intro K hK
              go_simp
              refine hK.out _ _ ?hsBhK104n (fun hHeld => ?_)
              case hsBhK104n => exact ((kb_step hq (bel_alloc (Below.refl _ _) (.cells #[.int .i64 0, .int .i64 0, .float .f64 0, .string ⟨#[]⟩, .slice none 0 0] 27)))).1.1
              clear hK K
              (try simp only [Act.put, List.setIfInBounds_toArray, List.set_cons_zero, List.set_cons_succ])
              exact any_eq (by kernel_rfl) (by kernel_rfl) (hK114 _ _ ⟨gA, _, gC, gE, rfl, (kb_step hq (bel_alloc (Below.refl _ _) (.cells #[.int .i64 0, .int .i64 0, .float .f64 0, .string ⟨#[]⟩, .slice none 0 0] 27))), (bel_step hbd (bel_alloc (Below.refl _ _) (.cells #[.int .i64 0, .int .i64 0, .float .f64 0, .string ⟨#[]⟩, .slice none 0 0] 27))), (sbx_step hsA (bel_alloc (Below.refl _ _) (.cells #[.int .i64 0, .int .i64 0, .float .f64 0, .string ⟨#[]⟩, .slice none 0 0] 27))), hgA, ⟨cs_new rfl, fun o => row_frz (row_alloc _ _ _) o⟩, hbd.size, (by have h := cs_lt hsA.1; omega), (ln_step hlv (bel_alloc (Below.refl _ _) (.cells #[.int .i64 0, .int .i64 0, .float .f64 0, .string ⟨#[]⟩, .slice none 0 0] 27)))⟩ hHeld)
          refine any_have 9 [12, 2, 3, 4, 5] (fun a a' w' => ∃ (gB gC gE : Nat), a' = (((((a.put (some 15) (.pointer (some ⟨gB, 0, none⟩))).put (some 82) (.slice (some ⟨gC, 0, none⟩) 1 1)).put (some 83) (.string ⟨#[bx]⟩)).put (some 84) (.agg #[.int .i64 3, .int .i64 0, .float .f64 0, .string ⟨#[bx]⟩, .slice none 0 0])).put (some 85) (.slice (some ⟨gE, 0, none⟩) 1 1)) ∧ KB w sb qs ms ds mb KL w' ∧ Below wr.heap.size wr w' ∧ SBX w' gB (.int .i64 0) (.int .i64 0) (.float .f64 0) (.string ⟨#[]⟩) (.slice none 0 0) ∧ wr.heap.size ≤ gB ∧ LN gE (nmK cx) w') ?phK014n (fun hK014 => ?_)
          case phK014n =>
            intro a' w' hst hHeld
            obtain ⟨gB, gC, gE, rfl, hq, hbd, hsB, hgB, hlv⟩ := hst
            (try simp only [Act.put, List.setIfInBounds_toArray, List.set_cons_zero, List.set_cons_succ])
            refine wpAnyH_ready (rs := [6, 11]) (by kernel_rfl) (by simp) ?_
            refine AllReadyH.cons (o := ?_) ?hoXhK014n ?hstXhK014n (AllReadyH.cons (o := ?_) ?hoAhK014n ?hstAhK014n AllReadyH.nil)
            case hoXhK014n => (simp only [List.getElem?_toArray, List.getElem?_cons_zero, List.getElem?_cons_succ]; rfl)
            case hoAhK014n => (simp only [List.getElem?_toArray, List.getElem?_cons_zero, List.getElem?_cons_succ]; rfl)
            case hstXhK014n =>
              intro K hK
              go_simp
              have hrp := repS_rep _ _ _ (repS_step hbd HSTr.out); go_at_call 12; refine (HDO.out _ _ hrp hlv).mono ?_; rintro e wD ⟨tt, vv, rfl, hbT, ht, hv⟩; obtain ⟨Kt, It, Ft, Zt, qt, mt, dt, rfl, _⟩ := repS_shape ht; obtain ⟨Kv, Iv, Fv, Zv, qv, mv, dv, rfl, _⟩ := repS_shape hv
              go_wp2_with fail
              refine hK.out _ _ ?hsXhK014n (fun hHeld => ?_)
              case hsXhK014n => exact ((kb_step hq hbT)).1.1
              clear hK K
              (try simp only [Act.put, List.setIfInBounds_toArray, List.set_cons_zero, List.set_cons_succ])
              refine wpAnyH_take (i := 7) (oi := ?_) (v := ?_) ?hiXhK014n7 (by kernel_rfl) ?hfXhK014n7 ?hrXhK014n7 ?hQXhK014n7 ?hyXhK014n7 (by assumption) ?restXhK014n7
              case hiXhK014n7 => (simp only [List.getElem?_toArray, List.getElem?_cons_zero, List.getElem?_cons_succ]; rfl)
              case hfXhK014n7 => kernel_rfl
              case hrXhK014n7 => kernel_rfl
              case hyXhK014n7 => (refine Or.inl ⟨by rfl, ?_⟩; intro wS hSw; (try dsimp only at hSw); go_simp; (try with_reducible rfl))
              case hQXhK014n7 => exact fun _ _ _ h => h
              (try simp only [Act.put, List.setIfInBounds_toArray, List.set_cons_zero, List.set_cons_succ])
              refine wpAnyH_take (i := 8) (oi := ?_) (v := ?_) ?hiXhK014n8 (by kernel_rfl) ?hfXhK014n8 ?hrXhK014n8 ?hQXhK014n8 ?hyXhK014n8 (by assumption) ?restXhK014n8
              case hiXhK014n8 => (simp only [List.getElem?_toArray, List.getElem?_cons_zero, List.getElem?_cons_succ]; rfl)
              case hfXhK014n8 => kernel_rfl
              case hrXhK014n8 => kernel_rfl
              case hyXhK014n8 => (refine Or.inl ⟨by rfl, ?_⟩; intro wS hSw; (try dsimp only at hSw); go_simp; (try with_reducible rfl))
              case hQXhK014n8 => exact fun _ _ _ h => h
              (try simp only [Act.put, List.setIfInBounds_toArray, List.set_cons_zero, List.set_cons_succ])
              refine wpAnyH_take (i := 9) (oi := ?_) (v := ?_) ?hiXhK014n9 (by kernel_rfl) ?hfXhK014n9 ?hrXhK014n9 ?hQXhK014n9 ?hyXhK014n9 (by assumption) ?restXhK014n9
              case hiXhK014n9 => (simp only [List.getElem?_toArray, List.getElem?_cons_zero, List.getElem?_cons_succ]; rfl)
              case hfXhK014n9 => kernel_rfl
              case hrXhK014n9 => kernel_rfl
              case hyXhK014n9 => (refine Or.inl ⟨by rfl, ?_⟩; intro wS hSw; (try dsimp only at hSw); go_simp; (try with_reducible rfl))
              case hQXhK014n9 => exact fun _ _ _ h => h
              (try simp only [Act.put, List.setIfInBounds_toArray, List.set_cons_zero, List.set_cons_succ])
              refine wpAnyH_take (i := 10) (oi := ?_) (v := ?_) ?hiXhK014n10 (by kernel_rfl) ?hfXhK014n10 ?hrXhK014n10 ?hQXhK014n10 ?hyXhK014n10 (by assumption) ?restXhK014n10
              case hiXhK014n10 => (simp only [List.getElem?_toArray, List.getElem?_cons_zero, List.getElem?_cons_succ]; rfl)
              case hfXhK014n10 => kernel_rfl
              case hrXhK014n10 => kernel_rfl
              case hyXhK014n10 => (refine Or.inl ⟨by rfl, ?_⟩; intro wS hSw; (try dsimp only at hSw); go_simp; (try with_reducible rfl))
              case hQXhK014n10 => exact fun _ _ _ h => h
              (try simp only [Act.put, List.setIfInBounds_toArray, List.set_cons_zero, List.set_cons_succ])
              exact any_eq (by kernel_rfl) (by kernel_rfl) (hK015 _ _ ⟨gB, gC, gE, Kt, It, Ft, Zt, qt, mt, dt, Kv, Iv, Fv, Zv, qv, mv, dv, rfl, (kb_step hq hbT), (bel_step hbd hbT), (sbx_step hsB hbT), hgB, (repS_mono (fun b hb => ⟨Nat.le_trans hbd.size hb, (by have h := cs_lt hsB.1; have h2 : _ ≤ b := hb; omega)⟩) _ _ _ ht), (repS_mono (fun b hb => ⟨Nat.le_trans hbd.size hb, (by have h := cs_lt hsB.1; have h2 : _ ≤ b := hb; omega)⟩) _ _ _ hv)⟩ hHeld)
            case hstAhK014n =>
              intro K hK
              go_simp
              refine hK.out _ _ ?hsAhK014n (fun hHeld => ?_)
              case hsAhK014n => exact ((kb_step hq (bel_alloc (Below.refl _ _) (.cells #[.int .i64 0, .int .i64 0, .float .f64 0, .string ⟨#[]⟩, .slice none 0 0] 27)))).1.1
              clear hK K
              (try simp only [Act.put, List.setIfInBounds_toArray, List.set_cons_zero, List.set_cons_succ])
              exact any_eq (by kernel_rfl) (by kernel_rfl) (hK114 _ _ ⟨_, gB, gC, gE, rfl, (kb_step hq (bel_alloc (Below.refl _ _) (.cells #[.int .i64 0, .int .i64 0, .float .f64 0, .string ⟨#[]⟩, .slice none 0 0] 27))), (bel_step hbd (bel_alloc (Below.refl _ _) (.cells #[.int .i64 0, .int .i64 0, .float .f64 0, .string ⟨#[]⟩, .slice none 0 0] 27))), ⟨cs_new rfl, fun o => row_frz (row_alloc _ _ _) o⟩, hbd.size, (sbx_step hsB (bel_alloc (Below.refl _ _) (.cells #[.int .i64 0, .int .i64 0, .float .f64 0, .string ⟨#[]⟩, .slice none 0 0] 27))), hgB, (by have h := cs_lt hsB.1; omega), (ln_step hlv (bel_alloc (Below.refl _ _) (.cells #[.int .i64 0, .int .i64 0, .float .f64 0, .string ⟨#[]⟩, .slice none 0 0] 27)))⟩ hHeld)
          refine any_have 10 [2, 3, 4, 5] (fun a a' w' => ∃ (gC gE : Nat), a' = ((((a.put (some 82) (.slice (some ⟨gC, 0, none⟩) 1 1)).put (some 83) (.string ⟨#[bx]⟩)).put (some 84) (.agg #[.int .i64 3, .int .i64 0, .float .f64 0, .string ⟨#[bx]⟩, .slice none 0 0])).put (some 85) (.slice (some ⟨gE, 0, none⟩) 1 1)) ∧ KB w sb qs ms ds mb KL w' ∧ Below wr.heap.size wr w' ∧ LN gE (nmK cx) w') ?phK004n (fun hK004 => ?_)
          case phK004n =>
            intro a' w' hst hHeld
            obtain ⟨gC, gE, rfl, hq, hbd, hlv⟩ := hst
            (try simp only [Act.put, List.setIfInBounds_toArray, List.set_cons_zero, List.set_cons_succ])
            refine wpAnyH_ready (rs := [6, 11, 12]) (by kernel_rfl) (by simp) ?_
            refine AllReadyH.cons (o := ?_) ?hoXhK004n ?hstXhK004n (AllReadyH.cons (o := ?_) ?hoAhK004n ?hstAhK004n (AllReadyH.cons (o := ?_) ?hoBhK004n ?hstBhK004n AllReadyH.nil))
            case hoXhK004n => (simp only [List.getElem?_toArray, List.getElem?_cons_zero, List.getElem?_cons_succ]; rfl)
            case hoAhK004n => (simp only [List.getElem?_toArray, List.getElem?_cons_zero, List.getElem?_cons_succ]; rfl)
            case hoBhK004n => (simp only [List.getElem?_toArray, List.getElem?_cons_zero, List.getElem?_cons_succ]; rfl)
            case hstXhK004n =>
              intro K hK
              go_simp
              have hrp := repS_rep _ _ _ (repS_step hbd HSTr.out); go_at_call 12; refine (HDO.out _ _ hrp hlv).mono ?_; rintro e wD ⟨tt, vv, rfl, hbT, ht, hv⟩; obtain ⟨Kt, It, Ft, Zt, qt, mt, dt, rfl, _⟩ := repS_shape ht; obtain ⟨Kv, Iv, Fv, Zv, qv, mv, dv, rfl, _⟩ := repS_shape hv
              go_wp2_with fail
              refine hK.out _ _ ?hsXhK004n (fun hHeld => ?_)
              case hsXhK004n => exact ((kb_step hq hbT)).1.1
              clear hK K
              (try simp only [Act.put, List.setIfInBounds_toArray, List.set_cons_zero, List.set_cons_succ])
              refine wpAnyH_take (i := 7) (oi := ?_) (v := ?_) ?hiXhK004n7 (by kernel_rfl) ?hfXhK004n7 ?hrXhK004n7 ?hQXhK004n7 ?hyXhK004n7 (by assumption) ?restXhK004n7
              case hiXhK004n7 => (simp only [List.getElem?_toArray, List.getElem?_cons_zero, List.getElem?_cons_succ]; rfl)
              case hfXhK004n7 => kernel_rfl
              case hrXhK004n7 => kernel_rfl
              case hyXhK004n7 => (refine Or.inl ⟨by rfl, ?_⟩; intro wS hSw; (try dsimp only at hSw); go_simp; (try with_reducible rfl))
              case hQXhK004n7 => exact fun _ _ _ h => h
              (try simp only [Act.put, List.setIfInBounds_toArray, List.set_cons_zero, List.set_cons_succ])
              refine wpAnyH_take (i := 8) (oi := ?_) (v := ?_) ?hiXhK004n8 (by kernel_rfl) ?hfXhK004n8 ?hrXhK004n8 ?hQXhK004n8 ?hyXhK004n8 (by assumption) ?restXhK004n8
              case hiXhK004n8 => (simp only [List.getElem?_toArray, List.getElem?_cons_zero, List.getElem?_cons_succ]; rfl)
              case hfXhK004n8 => kernel_rfl
              case hrXhK004n8 => kernel_rfl
              case hyXhK004n8 => (refine Or.inl ⟨by rfl, ?_⟩; intro wS hSw; (try dsimp only at hSw); go_simp; (try with_reducible rfl))
              case hQXhK004n8 => exact fun _ _ _ h => h
              (try simp only [Act.put, List.setIfInBounds_toArray, List.set_cons_zero, List.set_cons_succ])
              refine wpAnyH_take (i := 9) (oi := ?_) (v := ?_) ?hiXhK004n9 (by kernel_rfl) ?hfXhK004n9 ?hrXhK004n9 ?hQXhK004n9 ?hyXhK004n9 (by assumption) ?restXhK004n9
              case hiXhK004n9 => (simp only [List.getElem?_toArray, List.getElem?_cons_zero, List.getElem?_cons_succ]; rfl)
              case hfXhK004n9 => kernel_rfl
              case hrXhK004n9 => kernel_rfl
              case hyXhK004n9 => (refine Or.inl ⟨by rfl, ?_⟩; intro wS hSw; (try dsimp only at hSw); go_simp; (try with_reducible rfl))
              case hQXhK004n9 => exact fun _ _ _ h => h
              (try simp only [Act.put, List.setIfInBounds_toArray, List.set_cons_zero, List.set_cons_succ])
              refine wpAnyH_take (i := 10) (oi := ?_) (v := ?_) ?hiXhK004n10 (by kernel_rfl) ?hfXhK004n10 ?hrXhK004n10 ?hQXhK004n10 ?hyXhK004n10 (by assumption) ?restXhK004n10
              case hiXhK004n10 => (simp only [List.getElem?_toArray, List.getElem?_cons_zero, List.getElem?_cons_succ]; rfl)
              case hfXhK004n10 => kernel_rfl
              case hrXhK004n10 => kernel_rfl
              case hyXhK004n10 => (refine Or.inl ⟨by rfl, ?_⟩; intro wS hSw; (try dsimp only at hSw); go_simp; (try with_reducible rfl))
              case hQXhK004n10 => exact fun _ _ _ h => h
              (try simp only [Act.put, List.setIfInBounds_toArray, List.set_cons_zero, List.set_cons_succ])
              exact any_eq (by kernel_rfl) (by kernel_rfl) (hK005 _ _ ⟨gC, gE, Kt, It, Ft, Zt, qt, mt, dt, Kv, Iv, Fv, Zv, qv, mv, dv, rfl, (kb_step hq hbT), (bel_step hbd hbT), (repS_mono (fun b hb => Nat.le_trans hbd.size hb) _ _ _ ht), (repS_mono (fun b hb => Nat.le_trans hbd.size hb) _ _ _ hv)⟩ hHeld)
            case hstAhK004n =>
              intro K hK
              go_simp
              refine hK.out _ _ ?hsAhK004n (fun hHeld => ?_)
              case hsAhK004n => exact ((kb_step hq (bel_alloc (Below.refl _ _) (.cells #[.int .i64 0, .int .i64 0, .float .f64 0, .string ⟨#[]⟩, .slice none 0 0] 27)))).1.1
              clear hK K
              (try simp only [Act.put, List.setIfInBounds_toArray, List.set_cons_zero, List.set_cons_succ])
              exact any_eq (by kernel_rfl) (by kernel_rfl) (hK104 _ _ ⟨_, gC, gE, rfl, (kb_step hq (bel_alloc (Below.refl _ _) (.cells #[.int .i64 0, .int .i64 0, .float .f64 0, .string ⟨#[]⟩, .slice none 0 0] 27))), (bel_step hbd (bel_alloc (Below.refl _ _) (.cells #[.int .i64 0, .int .i64 0, .float .f64 0, .string ⟨#[]⟩, .slice none 0 0] 27))), ⟨cs_new rfl, fun o => row_frz (row_alloc _ _ _) o⟩, hbd.size, (ln_step hlv (bel_alloc (Below.refl _ _) (.cells #[.int .i64 0, .int .i64 0, .float .f64 0, .string ⟨#[]⟩, .slice none 0 0] 27)))⟩ hHeld)
            case hstBhK004n =>
              intro K hK
              go_simp
              refine hK.out _ _ ?hsBhK004n (fun hHeld => ?_)
              case hsBhK004n => exact ((kb_step hq (bel_alloc (Below.refl _ _) (.cells #[.int .i64 0, .int .i64 0, .float .f64 0, .string ⟨#[]⟩, .slice none 0 0] 27)))).1.1
              clear hK K
              (try simp only [Act.put, List.setIfInBounds_toArray, List.set_cons_zero, List.set_cons_succ])
              exact any_eq (by kernel_rfl) (by kernel_rfl) (hK014 _ _ ⟨_, gC, gE, rfl, (kb_step hq (bel_alloc (Below.refl _ _) (.cells #[.int .i64 0, .int .i64 0, .float .f64 0, .string ⟨#[]⟩, .slice none 0 0] 27))), (bel_step hbd (bel_alloc (Below.refl _ _) (.cells #[.int .i64 0, .int .i64 0, .float .f64 0, .string ⟨#[]⟩, .slice none 0 0] 27))), ⟨cs_new rfl, fun o => row_frz (row_alloc _ _ _) o⟩, hbd.size, (ln_step hlv (bel_alloc (Below.refl _ _) (.cells #[.int .i64 0, .int .i64 0, .float .f64 0, .string ⟨#[]⟩, .slice none 0 0] 27)))⟩ hHeld)
          refine any_have 9 [11, 12, 2, 3, 4] (fun a a' w' => ∃ (gA gB gC : Nat), a' = (((((a.put (some 14) (.pointer (some ⟨gA, 0, none⟩))).put (some 15) (.pointer (some ⟨gB, 0, none⟩))).put (some 82) (.slice (some ⟨gC, 0, none⟩) 1 1)).put (some 83) (.string ⟨#[bx]⟩)).put (some 84) (.agg #[.int .i64 3, .int .i64 0, .float .f64 0, .string ⟨#[bx]⟩, .slice none 0 0])) ∧ KB w sb qs ms ds mb KL w' ∧ Below wr.heap.size wr w' ∧ SBX w' gA (.int .i64 0) (.int .i64 0) (.float .f64 0) (.string ⟨#[]⟩) (.slice none 0 0) ∧ wr.heap.size ≤ gA ∧ SBX w' gB (.int .i64 0) (.int .i64 0) (.float .f64 0) (.string ⟨#[]⟩) (.slice none 0 0) ∧ wr.heap.size ≤ gB ∧ gA ≠ gB) ?phK113n (fun hK113 => ?_)
          case phK113n =>
            intro a' w' hst hHeld
            obtain ⟨gA, gB, gC, rfl, hq, hbd, hsA, hgA, hsB, hgB, hne⟩ := hst
            (try simp only [Act.put, List.setIfInBounds_toArray, List.set_cons_zero, List.set_cons_succ])
            refine wpAnyH_ready (rs := [5]) (by kernel_rfl) (by simp) ?_
            refine AllReadyH.cons (o := ?_) ?hoXhK113n ?hstXhK113n AllReadyH.nil
            case hoXhK113n => (simp only [List.getElem?_toArray, List.getElem?_cons_zero, List.getElem?_cons_succ]; rfl)
            case hstXhK113n =>
              intro K hK
              go_simp
              refine hK.out _ _ ?hsXhK113n (fun hHeld => ?_)
              case hsXhK113n => exact ((kb_step hq (bel_alloc (Below.refl _ _) (.cells #[.int .i64 3, .int .i64 0, .float .f64 0, .string ⟨#[bx]⟩, .slice none 0 0] 27)))).1.1
              clear hK K
              (try simp only [Act.put, List.setIfInBounds_toArray, List.set_cons_zero, List.set_cons_succ])
              exact any_eq (by kernel_rfl) (by kernel_rfl) (hK114 _ _ ⟨gA, gB, gC, _, rfl, (kb_step hq (bel_alloc (Below.refl _ _) (.cells #[.int .i64 3, .int .i64 0, .float .f64 0, .string ⟨#[bx]⟩, .slice none 0 0] 27))), (bel_step hbd (bel_alloc (Below.refl _ _) (.cells #[.int .i64 3, .int .i64 0, .float .f64 0, .string ⟨#[bx]⟩, .slice none 0 0] 27))), (sbx_step hsA (bel_alloc (Below.refl _ _) (.cells #[.int .i64 3, .int .i64 0, .float .f64 0, .string ⟨#[bx]⟩, .slice none 0 0] 27))), hgA, (sbx_step hsB (bel_alloc (Below.refl _ _) (.cells #[.int .i64 3, .int .i64 0, .float .f64 0, .string ⟨#[bx]⟩, .slice none 0 0] 27))), hgB, hne, (by rw [HBX.out.2]; exact ln_new rfl (by decide : 1 ≤ maxLen))⟩ hHeld)
          refine any_have 10 [11, 2, 3, 4] (fun a a' w' => ∃ (gA gC : Nat), a' = ((((a.put (some 14) (.pointer (some ⟨gA, 0, none⟩))).put (some 82) (.slice (some ⟨gC, 0, none⟩) 1 1)).put (some 83) (.string ⟨#[bx]⟩)).put (some 84) (.agg #[.int .i64 3, .int .i64 0, .float .f64 0, .string ⟨#[bx]⟩, .slice none 0 0])) ∧ KB w sb qs ms ds mb KL w' ∧ Below wr.heap.size wr w' ∧ SBX w' gA (.int .i64 0) (.int .i64 0) (.float .f64 0) (.string ⟨#[]⟩) (.slice none 0 0) ∧ wr.heap.size ≤ gA) ?phK103n (fun hK103 => ?_)
          case phK103n =>
            intro a' w' hst hHeld
            obtain ⟨gA, gC, rfl, hq, hbd, hsA, hgA⟩ := hst
            (try simp only [Act.put, List.setIfInBounds_toArray, List.set_cons_zero, List.set_cons_succ])
            refine wpAnyH_ready (rs := [5, 12]) (by kernel_rfl) (by simp) ?_
            refine AllReadyH.cons (o := ?_) ?hoXhK103n ?hstXhK103n (AllReadyH.cons (o := ?_) ?hoBhK103n ?hstBhK103n AllReadyH.nil)
            case hoXhK103n => (simp only [List.getElem?_toArray, List.getElem?_cons_zero, List.getElem?_cons_succ]; rfl)
            case hoBhK103n => (simp only [List.getElem?_toArray, List.getElem?_cons_zero, List.getElem?_cons_succ]; rfl)
            case hstXhK103n =>
              intro K hK
              go_simp
              refine hK.out _ _ ?hsXhK103n (fun hHeld => ?_)
              case hsXhK103n => exact ((kb_step hq (bel_alloc (Below.refl _ _) (.cells #[.int .i64 3, .int .i64 0, .float .f64 0, .string ⟨#[bx]⟩, .slice none 0 0] 27)))).1.1
              clear hK K
              (try simp only [Act.put, List.setIfInBounds_toArray, List.set_cons_zero, List.set_cons_succ])
              exact any_eq (by kernel_rfl) (by kernel_rfl) (hK104 _ _ ⟨gA, gC, _, rfl, (kb_step hq (bel_alloc (Below.refl _ _) (.cells #[.int .i64 3, .int .i64 0, .float .f64 0, .string ⟨#[bx]⟩, .slice none 0 0] 27))), (bel_step hbd (bel_alloc (Below.refl _ _) (.cells #[.int .i64 3, .int .i64 0, .float .f64 0, .string ⟨#[bx]⟩, .slice none 0 0] 27))), (sbx_step hsA (bel_alloc (Below.refl _ _) (.cells #[.int .i64 3, .int .i64 0, .float .f64 0, .string ⟨#[bx]⟩, .slice none 0 0] 27))), hgA, (by rw [HBX.out.2]; exact ln_new rfl (by decide : 1 ≤ maxLen))⟩ hHeld)
            case hstBhK103n =>
              intro K hK
              go_simp
              refine hK.out _ _ ?hsBhK103n (fun hHeld => ?_)
              case hsBhK103n => exact ((kb_step hq (bel_alloc (Below.refl _ _) (.cells #[.int .i64 0, .int .i64 0, .float .f64 0, .string ⟨#[]⟩, .slice none 0 0] 27)))).1.1
              clear hK K
              (try simp only [Act.put, List.setIfInBounds_toArray, List.set_cons_zero, List.set_cons_succ])
              exact any_eq (by kernel_rfl) (by kernel_rfl) (hK113 _ _ ⟨gA, _, gC, rfl, (kb_step hq (bel_alloc (Below.refl _ _) (.cells #[.int .i64 0, .int .i64 0, .float .f64 0, .string ⟨#[]⟩, .slice none 0 0] 27))), (bel_step hbd (bel_alloc (Below.refl _ _) (.cells #[.int .i64 0, .int .i64 0, .float .f64 0, .string ⟨#[]⟩, .slice none 0 0] 27))), (sbx_step hsA (bel_alloc (Below.refl _ _) (.cells #[.int .i64 0, .int .i64 0, .float .f64 0, .string ⟨#[]⟩, .slice none 0 0] 27))), hgA, ⟨cs_new rfl, fun o => row_frz (row_alloc _ _ _) o⟩, hbd.size, (by have h := cs_lt hsA.1; omega)⟩ hHeld)
          refine any_have 10 [12, 2, 3, 4] (fun a a' w' => ∃ (gB gC : Nat), a' = ((((a.put (some 15) (.pointer (some ⟨gB, 0, none⟩))).put (some 82) (.slice (some ⟨gC, 0, none⟩) 1 1)).put (some 83) (.string ⟨#[bx]⟩)).put (some 84) (.agg #[.int .i64 3, .int .i64 0, .float .f64 0, .string ⟨#[bx]⟩, .slice none 0 0])) ∧ KB w sb qs ms ds mb KL w' ∧ Below wr.heap.size wr w' ∧ SBX w' gB (.int .i64 0) (.int .i64 0) (.float .f64 0) (.string ⟨#[]⟩) (.slice none 0 0) ∧ wr.heap.size ≤ gB) ?phK013n (fun hK013 => ?_)
          case phK013n =>
            intro a' w' hst hHeld
            obtain ⟨gB, gC, rfl, hq, hbd, hsB, hgB⟩ := hst
            (try simp only [Act.put, List.setIfInBounds_toArray, List.set_cons_zero, List.set_cons_succ])
            refine wpAnyH_ready (rs := [5, 11]) (by kernel_rfl) (by simp) ?_
            refine AllReadyH.cons (o := ?_) ?hoXhK013n ?hstXhK013n (AllReadyH.cons (o := ?_) ?hoAhK013n ?hstAhK013n AllReadyH.nil)
            case hoXhK013n => (simp only [List.getElem?_toArray, List.getElem?_cons_zero, List.getElem?_cons_succ]; rfl)
            case hoAhK013n => (simp only [List.getElem?_toArray, List.getElem?_cons_zero, List.getElem?_cons_succ]; rfl)
            case hstXhK013n =>
              intro K hK
              go_simp
              refine hK.out _ _ ?hsXhK013n (fun hHeld => ?_)
              case hsXhK013n => exact ((kb_step hq (bel_alloc (Below.refl _ _) (.cells #[.int .i64 3, .int .i64 0, .float .f64 0, .string ⟨#[bx]⟩, .slice none 0 0] 27)))).1.1
              clear hK K
              (try simp only [Act.put, List.setIfInBounds_toArray, List.set_cons_zero, List.set_cons_succ])
              exact any_eq (by kernel_rfl) (by kernel_rfl) (hK014 _ _ ⟨gB, gC, _, rfl, (kb_step hq (bel_alloc (Below.refl _ _) (.cells #[.int .i64 3, .int .i64 0, .float .f64 0, .string ⟨#[bx]⟩, .slice none 0 0] 27))), (bel_step hbd (bel_alloc (Below.refl _ _) (.cells #[.int .i64 3, .int .i64 0, .float .f64 0, .string ⟨#[bx]⟩, .slice none 0 0] 27))), (sbx_step hsB (bel_alloc (Below.refl _ _) (.cells #[.int .i64 3, .int .i64 0, .float .f64 0, .string ⟨#[bx]⟩, .slice none 0 0] 27))), hgB, (by rw [HBX.out.2]; exact ln_new rfl (by decide : 1 ≤ maxLen))⟩ hHeld)
            case hstAhK013n =>
              intro K hK
              go_simp
              refine hK.out _ _ ?hsAhK013n (fun hHeld => ?_)
              case hsAhK013n => exact ((kb_step hq (bel_alloc (Below.refl _ _) (.cells #[.int .i64 0, .int .i64 0, .float .f64 0, .string ⟨#[]⟩, .slice none 0 0] 27)))).1.1
              clear hK K
              (try simp only [Act.put, List.setIfInBounds_toArray, List.set_cons_zero, List.set_cons_succ])
              exact any_eq (by kernel_rfl) (by kernel_rfl) (hK113 _ _ ⟨_, gB, gC, rfl, (kb_step hq (bel_alloc (Below.refl _ _) (.cells #[.int .i64 0, .int .i64 0, .float .f64 0, .string ⟨#[]⟩, .slice none 0 0] 27))), (bel_step hbd (bel_alloc (Below.refl _ _) (.cells #[.int .i64 0, .int .i64 0, .float .f64 0, .string ⟨#[]⟩, .slice none 0 0] 27))), ⟨cs_new rfl, fun o => row_frz (row_alloc _ _ _) o⟩, hbd.size, (sbx_step hsB (bel_alloc (Below.refl _ _) (.cells #[.int .i64 0, .int .i64 0, .float .f64 0, .string ⟨#[]⟩, .slice none 0 0] 27))), hgB, (by have h := cs_lt hsB.1; omega)⟩ hHeld)
          refine any_have 11 [2, 3, 4] (fun a a' w' => ∃ (gC : Nat), a' = (((a.put (some 82) (.slice (some ⟨gC, 0, none⟩) 1 1)).put (some 83) (.string ⟨#[bx]⟩)).put (some 84) (.agg #[.int .i64 3, .int .i64 0, .float .f64 0, .string ⟨#[bx]⟩, .slice none 0 0])) ∧ KB w sb qs ms ds mb KL w' ∧ Below wr.heap.size wr w') ?phK003n (fun hK003 => ?_)
          case phK003n =>
            intro a' w' hst hHeld
            obtain ⟨gC, rfl, hq, hbd⟩ := hst
            (try simp only [Act.put, List.setIfInBounds_toArray, List.set_cons_zero, List.set_cons_succ])
            refine wpAnyH_ready (rs := [5, 11, 12]) (by kernel_rfl) (by simp) ?_
            refine AllReadyH.cons (o := ?_) ?hoXhK003n ?hstXhK003n (AllReadyH.cons (o := ?_) ?hoAhK003n ?hstAhK003n (AllReadyH.cons (o := ?_) ?hoBhK003n ?hstBhK003n AllReadyH.nil))
            case hoXhK003n => (simp only [List.getElem?_toArray, List.getElem?_cons_zero, List.getElem?_cons_succ]; rfl)
            case hoAhK003n => (simp only [List.getElem?_toArray, List.getElem?_cons_zero, List.getElem?_cons_succ]; rfl)
            case hoBhK003n => (simp only [List.getElem?_toArray, List.getElem?_cons_zero, List.getElem?_cons_succ]; rfl)
            case hstXhK003n =>
              intro K hK
              go_simp
              refine hK.out _ _ ?hsXhK003n (fun hHeld => ?_)
              case hsXhK003n => exact ((kb_step hq (bel_alloc (Below.refl _ _) (.cells #[.int .i64 3, .int .i64 0, .float .f64 0, .string ⟨#[bx]⟩, .slice none 0 0] 27)))).1.1
              clear hK K
              (try simp only [Act.put, List.setIfInBounds_toArray, List.set_cons_zero, List.set_cons_succ])
              exact any_eq (by kernel_rfl) (by kernel_rfl) (hK004 _ _ ⟨gC, _, rfl, (kb_step hq (bel_alloc (Below.refl _ _) (.cells #[.int .i64 3, .int .i64 0, .float .f64 0, .string ⟨#[bx]⟩, .slice none 0 0] 27))), (bel_step hbd (bel_alloc (Below.refl _ _) (.cells #[.int .i64 3, .int .i64 0, .float .f64 0, .string ⟨#[bx]⟩, .slice none 0 0] 27))), (by rw [HBX.out.2]; exact ln_new rfl (by decide : 1 ≤ maxLen))⟩ hHeld)
            case hstAhK003n =>
              intro K hK
              go_simp
              refine hK.out _ _ ?hsAhK003n (fun hHeld => ?_)
              case hsAhK003n => exact ((kb_step hq (bel_alloc (Below.refl _ _) (.cells #[.int .i64 0, .int .i64 0, .float .f64 0, .string ⟨#[]⟩, .slice none 0 0] 27)))).1.1
              clear hK K
              (try simp only [Act.put, List.setIfInBounds_toArray, List.set_cons_zero, List.set_cons_succ])
              exact any_eq (by kernel_rfl) (by kernel_rfl) (hK103 _ _ ⟨_, gC, rfl, (kb_step hq (bel_alloc (Below.refl _ _) (.cells #[.int .i64 0, .int .i64 0, .float .f64 0, .string ⟨#[]⟩, .slice none 0 0] 27))), (bel_step hbd (bel_alloc (Below.refl _ _) (.cells #[.int .i64 0, .int .i64 0, .float .f64 0, .string ⟨#[]⟩, .slice none 0 0] 27))), ⟨cs_new rfl, fun o => row_frz (row_alloc _ _ _) o⟩, hbd.size⟩ hHeld)
            case hstBhK003n =>
              intro K hK
              go_simp
              refine hK.out _ _ ?hsBhK003n (fun hHeld => ?_)
              case hsBhK003n => exact ((kb_step hq (bel_alloc (Below.refl _ _) (.cells #[.int .i64 0, .int .i64 0, .float .f64 0, .string ⟨#[]⟩, .slice none 0 0] 27)))).1.1
              clear hK K
              (try simp only [Act.put, List.setIfInBounds_toArray, List.set_cons_zero, List.set_cons_succ])
              exact any_eq (by kernel_rfl) (by kernel_rfl) (hK013 _ _ ⟨_, gC, rfl, (kb_step hq (bel_alloc (Below.refl _ _) (.cells #[.int .i64 0, .int .i64 0, .float .f64 0, .string ⟨#[]⟩, .slice none 0 0] 27))), (bel_step hbd (bel_alloc (Below.refl _ _) (.cells #[.int .i64 0, .int .i64 0, .float .f64 0, .string ⟨#[]⟩, .slice none 0 0] 27))), ⟨cs_new rfl, fun o => row_frz (row_alloc _ _ _) o⟩, hbd.size⟩ hHeld)
          refine any_have 10 [11, 12, 2, 3] (fun a a' w' => ∃ (gA gB gC : Nat), a' = ((((a.put (some 14) (.pointer (some ⟨gA, 0, none⟩))).put (some 15) (.pointer (some ⟨gB, 0, none⟩))).put (some 82) (.slice (some ⟨gC, 0, none⟩) 1 1)).put (some 83) (.string ⟨#[bx]⟩)) ∧ KB w sb qs ms ds mb KL w' ∧ Below wr.heap.size wr w' ∧ SBX w' gA (.int .i64 0) (.int .i64 0) (.float .f64 0) (.string ⟨#[]⟩) (.slice none 0 0) ∧ wr.heap.size ≤ gA ∧ SBX w' gB (.int .i64 0) (.int .i64 0) (.float .f64 0) (.string ⟨#[]⟩) (.slice none 0 0) ∧ wr.heap.size ≤ gB ∧ gA ≠ gB) ?phK112n (fun hK112 => ?_)
          case phK112n =>
            intro a' w' hst hHeld
            obtain ⟨gA, gB, gC, rfl, hq, hbd, hsA, hgA, hsB, hgB, hne⟩ := hst
            (try simp only [Act.put, List.setIfInBounds_toArray, List.set_cons_zero, List.set_cons_succ])
            refine wpAnyH_ready (rs := [4]) (by kernel_rfl) (by simp) ?_
            refine AllReadyH.cons (o := ?_) ?hoXhK112n ?hstXhK112n AllReadyH.nil
            case hoXhK112n => (simp only [List.getElem?_toArray, List.getElem?_cons_zero, List.getElem?_cons_succ]; rfl)
            case hstXhK112n =>
              intro K hK
              go_simp
              go_at_call 19; refine (text_ref_any _ _).mono ?_; rintro e wT ⟨rfl, hbT⟩
              go_wp2_with fail
              refine hK.out _ _ ?hsXhK112n (fun hHeld => ?_)
              case hsXhK112n => exact ((kb_step hq hbT)).1.1
              clear hK K
              (try simp only [Act.put, List.setIfInBounds_toArray, List.set_cons_zero, List.set_cons_succ])
              exact any_eq (by kernel_rfl) (by kernel_rfl) (hK113 _ _ ⟨gA, gB, gC, rfl, (kb_step hq hbT), (bel_step hbd hbT), (sbx_step hsA hbT), hgA, (sbx_step hsB hbT), hgB, hne⟩ hHeld)
          refine any_have 11 [11, 2, 3] (fun a a' w' => ∃ (gA gC : Nat), a' = (((a.put (some 14) (.pointer (some ⟨gA, 0, none⟩))).put (some 82) (.slice (some ⟨gC, 0, none⟩) 1 1)).put (some 83) (.string ⟨#[bx]⟩)) ∧ KB w sb qs ms ds mb KL w' ∧ Below wr.heap.size wr w' ∧ SBX w' gA (.int .i64 0) (.int .i64 0) (.float .f64 0) (.string ⟨#[]⟩) (.slice none 0 0) ∧ wr.heap.size ≤ gA) ?phK102n (fun hK102 => ?_)
          case phK102n =>
            intro a' w' hst hHeld
            obtain ⟨gA, gC, rfl, hq, hbd, hsA, hgA⟩ := hst
            (try simp only [Act.put, List.setIfInBounds_toArray, List.set_cons_zero, List.set_cons_succ])
            refine wpAnyH_ready (rs := [4, 12]) (by kernel_rfl) (by simp) ?_
            refine AllReadyH.cons (o := ?_) ?hoXhK102n ?hstXhK102n (AllReadyH.cons (o := ?_) ?hoBhK102n ?hstBhK102n AllReadyH.nil)
            case hoXhK102n => (simp only [List.getElem?_toArray, List.getElem?_cons_zero, List.getElem?_cons_succ]; rfl)
            case hoBhK102n => (simp only [List.getElem?_toArray, List.getElem?_cons_zero, List.getElem?_cons_succ]; rfl)
            case hstXhK102n =>
              intro K hK
              go_simp
              go_at_call 19; refine (text_ref_any _ _).mono ?_; rintro e wT ⟨rfl, hbT⟩
              go_wp2_with fail
              refine hK.out _ _ ?hsXhK102n (fun hHeld => ?_)
              case hsXhK102n => exact ((kb_step hq hbT)).1.1
              clear hK K
              (try simp only [Act.put, List.setIfInBounds_toArray, List.set_cons_zero, List.set_cons_succ])
              exact any_eq (by kernel_rfl) (by kernel_rfl) (hK103 _ _ ⟨gA, gC, rfl, (kb_step hq hbT), (bel_step hbd hbT), (sbx_step hsA hbT), hgA⟩ hHeld)
            case hstBhK102n =>
              intro K hK
              go_simp
              refine hK.out _ _ ?hsBhK102n (fun hHeld => ?_)
              case hsBhK102n => exact ((kb_step hq (bel_alloc (Below.refl _ _) (.cells #[.int .i64 0, .int .i64 0, .float .f64 0, .string ⟨#[]⟩, .slice none 0 0] 27)))).1.1
              clear hK K
              (try simp only [Act.put, List.setIfInBounds_toArray, List.set_cons_zero, List.set_cons_succ])
              exact any_eq (by kernel_rfl) (by kernel_rfl) (hK112 _ _ ⟨gA, _, gC, rfl, (kb_step hq (bel_alloc (Below.refl _ _) (.cells #[.int .i64 0, .int .i64 0, .float .f64 0, .string ⟨#[]⟩, .slice none 0 0] 27))), (bel_step hbd (bel_alloc (Below.refl _ _) (.cells #[.int .i64 0, .int .i64 0, .float .f64 0, .string ⟨#[]⟩, .slice none 0 0] 27))), (sbx_step hsA (bel_alloc (Below.refl _ _) (.cells #[.int .i64 0, .int .i64 0, .float .f64 0, .string ⟨#[]⟩, .slice none 0 0] 27))), hgA, ⟨cs_new rfl, fun o => row_frz (row_alloc _ _ _) o⟩, hbd.size, (by have h := cs_lt hsA.1; omega)⟩ hHeld)
          refine any_have 11 [12, 2, 3] (fun a a' w' => ∃ (gB gC : Nat), a' = (((a.put (some 15) (.pointer (some ⟨gB, 0, none⟩))).put (some 82) (.slice (some ⟨gC, 0, none⟩) 1 1)).put (some 83) (.string ⟨#[bx]⟩)) ∧ KB w sb qs ms ds mb KL w' ∧ Below wr.heap.size wr w' ∧ SBX w' gB (.int .i64 0) (.int .i64 0) (.float .f64 0) (.string ⟨#[]⟩) (.slice none 0 0) ∧ wr.heap.size ≤ gB) ?phK012n (fun hK012 => ?_)
          case phK012n =>
            intro a' w' hst hHeld
            obtain ⟨gB, gC, rfl, hq, hbd, hsB, hgB⟩ := hst
            (try simp only [Act.put, List.setIfInBounds_toArray, List.set_cons_zero, List.set_cons_succ])
            refine wpAnyH_ready (rs := [4, 11]) (by kernel_rfl) (by simp) ?_
            refine AllReadyH.cons (o := ?_) ?hoXhK012n ?hstXhK012n (AllReadyH.cons (o := ?_) ?hoAhK012n ?hstAhK012n AllReadyH.nil)
            case hoXhK012n => (simp only [List.getElem?_toArray, List.getElem?_cons_zero, List.getElem?_cons_succ]; rfl)
            case hoAhK012n => (simp only [List.getElem?_toArray, List.getElem?_cons_zero, List.getElem?_cons_succ]; rfl)
            case hstXhK012n =>
              intro K hK
              go_simp
              go_at_call 19; refine (text_ref_any _ _).mono ?_; rintro e wT ⟨rfl, hbT⟩
              go_wp2_with fail
              refine hK.out _ _ ?hsXhK012n (fun hHeld => ?_)
              case hsXhK012n => exact ((kb_step hq hbT)).1.1
              clear hK K
              (try simp only [Act.put, List.setIfInBounds_toArray, List.set_cons_zero, List.set_cons_succ])
              exact any_eq (by kernel_rfl) (by kernel_rfl) (hK013 _ _ ⟨gB, gC, rfl, (kb_step hq hbT), (bel_step hbd hbT), (sbx_step hsB hbT), hgB⟩ hHeld)
            case hstAhK012n =>
              intro K hK
              go_simp
              refine hK.out _ _ ?hsAhK012n (fun hHeld => ?_)
              case hsAhK012n => exact ((kb_step hq (bel_alloc (Below.refl _ _) (.cells #[.int .i64 0, .int .i64 0, .float .f64 0, .string ⟨#[]⟩, .slice none 0 0] 27)))).1.1
              clear hK K
              (try simp only [Act.put, List.setIfInBounds_toArray, List.set_cons_zero, List.set_cons_succ])
              exact any_eq (by kernel_rfl) (by kernel_rfl) (hK112 _ _ ⟨_, gB, gC, rfl, (kb_step hq (bel_alloc (Below.refl _ _) (.cells #[.int .i64 0, .int .i64 0, .float .f64 0, .string ⟨#[]⟩, .slice none 0 0] 27))), (bel_step hbd (bel_alloc (Below.refl _ _) (.cells #[.int .i64 0, .int .i64 0, .float .f64 0, .string ⟨#[]⟩, .slice none 0 0] 27))), ⟨cs_new rfl, fun o => row_frz (row_alloc _ _ _) o⟩, hbd.size, (sbx_step hsB (bel_alloc (Below.refl _ _) (.cells #[.int .i64 0, .int .i64 0, .float .f64 0, .string ⟨#[]⟩, .slice none 0 0] 27))), hgB, (by have h := cs_lt hsB.1; omega)⟩ hHeld)
          refine any_have 12 [2, 3] (fun a a' w' => ∃ (gC : Nat), a' = ((a.put (some 82) (.slice (some ⟨gC, 0, none⟩) 1 1)).put (some 83) (.string ⟨#[bx]⟩)) ∧ KB w sb qs ms ds mb KL w' ∧ Below wr.heap.size wr w') ?phK002n (fun hK002 => ?_)
          case phK002n =>
            intro a' w' hst hHeld
            obtain ⟨gC, rfl, hq, hbd⟩ := hst
            (try simp only [Act.put, List.setIfInBounds_toArray, List.set_cons_zero, List.set_cons_succ])
            refine wpAnyH_ready (rs := [4, 11, 12]) (by kernel_rfl) (by simp) ?_
            refine AllReadyH.cons (o := ?_) ?hoXhK002n ?hstXhK002n (AllReadyH.cons (o := ?_) ?hoAhK002n ?hstAhK002n (AllReadyH.cons (o := ?_) ?hoBhK002n ?hstBhK002n AllReadyH.nil))
            case hoXhK002n => (simp only [List.getElem?_toArray, List.getElem?_cons_zero, List.getElem?_cons_succ]; rfl)
            case hoAhK002n => (simp only [List.getElem?_toArray, List.getElem?_cons_zero, List.getElem?_cons_succ]; rfl)
            case hoBhK002n => (simp only [List.getElem?_toArray, List.getElem?_cons_zero, List.getElem?_cons_succ]; rfl)
            case hstXhK002n =>
              intro K hK
              go_simp
              go_at_call 19; refine (text_ref_any _ _).mono ?_; rintro e wT ⟨rfl, hbT⟩
              go_wp2_with fail
              refine hK.out _ _ ?hsXhK002n (fun hHeld => ?_)
              case hsXhK002n => exact ((kb_step hq hbT)).1.1
              clear hK K
              (try simp only [Act.put, List.setIfInBounds_toArray, List.set_cons_zero, List.set_cons_succ])
              exact any_eq (by kernel_rfl) (by kernel_rfl) (hK003 _ _ ⟨gC, rfl, (kb_step hq hbT), (bel_step hbd hbT)⟩ hHeld)
            case hstAhK002n =>
              intro K hK
              go_simp
              refine hK.out _ _ ?hsAhK002n (fun hHeld => ?_)
              case hsAhK002n => exact ((kb_step hq (bel_alloc (Below.refl _ _) (.cells #[.int .i64 0, .int .i64 0, .float .f64 0, .string ⟨#[]⟩, .slice none 0 0] 27)))).1.1
              clear hK K
              (try simp only [Act.put, List.setIfInBounds_toArray, List.set_cons_zero, List.set_cons_succ])
              exact any_eq (by kernel_rfl) (by kernel_rfl) (hK102 _ _ ⟨_, gC, rfl, (kb_step hq (bel_alloc (Below.refl _ _) (.cells #[.int .i64 0, .int .i64 0, .float .f64 0, .string ⟨#[]⟩, .slice none 0 0] 27))), (bel_step hbd (bel_alloc (Below.refl _ _) (.cells #[.int .i64 0, .int .i64 0, .float .f64 0, .string ⟨#[]⟩, .slice none 0 0] 27))), ⟨cs_new rfl, fun o => row_frz (row_alloc _ _ _) o⟩, hbd.size⟩ hHeld)
            case hstBhK002n =>
              intro K hK
              go_simp
              refine hK.out _ _ ?hsBhK002n (fun hHeld => ?_)
              case hsBhK002n => exact ((kb_step hq (bel_alloc (Below.refl _ _) (.cells #[.int .i64 0, .int .i64 0, .float .f64 0, .string ⟨#[]⟩, .slice none 0 0] 27)))).1.1
              clear hK K
              (try simp only [Act.put, List.setIfInBounds_toArray, List.set_cons_zero, List.set_cons_succ])
              exact any_eq (by kernel_rfl) (by kernel_rfl) (hK012 _ _ ⟨_, gC, rfl, (kb_step hq (bel_alloc (Below.refl _ _) (.cells #[.int .i64 0, .int .i64 0, .float .f64 0, .string ⟨#[]⟩, .slice none 0 0] 27))), (bel_step hbd (bel_alloc (Below.refl _ _) (.cells #[.int .i64 0, .int .i64 0, .float .f64 0, .string ⟨#[]⟩, .slice none 0 0] 27))), ⟨cs_new rfl, fun o => row_frz (row_alloc _ _ _) o⟩, hbd.size⟩ hHeld)
          refine any_have 11 [11, 12, 2] (fun a a' w' => ∃ (gA gB gC : Nat), a' = (((a.put (some 14) (.pointer (some ⟨gA, 0, none⟩))).put (some 15) (.pointer (some ⟨gB, 0, none⟩))).put (some 82) (.slice (some ⟨gC, 0, none⟩) 1 1)) ∧ KB w sb qs ms ds mb KL w' ∧ Below wr.heap.size wr w' ∧ SBX w' gA (.int .i64 0) (.int .i64 0) (.float .f64 0) (.string ⟨#[]⟩) (.slice none 0 0) ∧ wr.heap.size ≤ gA ∧ SBX w' gB (.int .i64 0) (.int .i64 0) (.float .f64 0) (.string ⟨#[]⟩) (.slice none 0 0) ∧ wr.heap.size ≤ gB ∧ gA ≠ gB ∧ w'.heap[gC]? = some (.cells #[.int .u8 (97 + (cx : Int))] 5 (0, 0))) ?phK111n (fun hK111 => ?_)
          case phK111n =>
            intro a' w' hst hHeld
            obtain ⟨gA, gB, gC, rfl, hq, hbd, hsA, hgA, hsB, hgB, hne, hrow⟩ := hst
            (try simp only [Act.put, List.setIfInBounds_toArray, List.set_cons_zero, List.set_cons_succ])
            refine wpAnyH_ready (rs := [3]) (by kernel_rfl) (by simp) ?_
            refine AllReadyH.cons (o := ?_) ?hoXhK111n ?hstXhK111n AllReadyH.nil
            case hoXhK111n => (simp only [List.getElem?_toArray, List.getElem?_cons_zero, List.getElem?_cons_succ]; rfl)
            case hstXhK111n =>
              intro K hK
              have hcv := conv1 (cap := 1) (b := bx) HBX.out.1 hrow; go_simp
              clear hcv
              go_wp2_with fail
              refine hK.out _ _ ?hsXhK111n (fun hHeld => ?_)
              case hsXhK111n => exact (hq).1.1
              clear hK K
              (try simp only [Act.put, List.setIfInBounds_toArray, List.set_cons_zero, List.set_cons_succ])
              exact any_eq (by kernel_rfl) (by kernel_rfl) (hK112 _ _ ⟨gA, gB, gC, rfl, hq, hbd, hsA, hgA, hsB, hgB, hne⟩ hHeld)
          refine any_have 12 [11, 2] (fun a a' w' => ∃ (gA gC : Nat), a' = ((a.put (some 14) (.pointer (some ⟨gA, 0, none⟩))).put (some 82) (.slice (some ⟨gC, 0, none⟩) 1 1)) ∧ KB w sb qs ms ds mb KL w' ∧ Below wr.heap.size wr w' ∧ SBX w' gA (.int .i64 0) (.int .i64 0) (.float .f64 0) (.string ⟨#[]⟩) (.slice none 0 0) ∧ wr.heap.size ≤ gA ∧ w'.heap[gC]? = some (.cells #[.int .u8 (97 + (cx : Int))] 5 (0, 0))) ?phK101n (fun hK101 => ?_)
          case phK101n =>
            intro a' w' hst hHeld
            obtain ⟨gA, gC, rfl, hq, hbd, hsA, hgA, hrow⟩ := hst
            (try simp only [Act.put, List.setIfInBounds_toArray, List.set_cons_zero, List.set_cons_succ])
            refine wpAnyH_ready (rs := [3, 12]) (by kernel_rfl) (by simp) ?_
            refine AllReadyH.cons (o := ?_) ?hoXhK101n ?hstXhK101n (AllReadyH.cons (o := ?_) ?hoBhK101n ?hstBhK101n AllReadyH.nil)
            case hoXhK101n => (simp only [List.getElem?_toArray, List.getElem?_cons_zero, List.getElem?_cons_succ]; rfl)
            case hoBhK101n => (simp only [List.getElem?_toArray, List.getElem?_cons_zero, List.getElem?_cons_succ]; rfl)
            case hstXhK101n =>
              intro K hK
              have hcv := conv1 (cap := 1) (b := bx) HBX.out.1 hrow; go_simp
              clear hcv
              go_wp2_with fail
              refine hK.out _ _ ?hsXhK101n (fun hHeld => ?_)
              case hsXhK101n => exact (hq).1.1
              clear hK K
              (try simp only [Act.put, List.setIfInBounds_toArray, List.set_cons_zero, List.set_cons_succ])
              exact any_eq (by kernel_rfl) (by kernel_rfl) (hK102 _ _ ⟨gA, gC, rfl, hq, hbd, hsA, hgA⟩ hHeld)
            case hstBhK101n =>
              intro K hK
              go_simp
              refine hK.out _ _ ?hsBhK101n (fun hHeld => ?_)
              case hsBhK101n => exact ((kb_step hq (bel_alloc (Below.refl _ _) (.cells #[.int .i64 0, .int .i64 0, .float .f64 0, .string ⟨#[]⟩, .slice none 0 0] 27)))).1.1
              clear hK K
              (try simp only [Act.put, List.setIfInBounds_toArray, List.set_cons_zero, List.set_cons_succ])
              exact any_eq (by kernel_rfl) (by kernel_rfl) (hK111 _ _ ⟨gA, _, gC, rfl, (kb_step hq (bel_alloc (Below.refl _ _) (.cells #[.int .i64 0, .int .i64 0, .float .f64 0, .string ⟨#[]⟩, .slice none 0 0] 27))), (bel_step hbd (bel_alloc (Below.refl _ _) (.cells #[.int .i64 0, .int .i64 0, .float .f64 0, .string ⟨#[]⟩, .slice none 0 0] 27))), (sbx_step hsA (bel_alloc (Below.refl _ _) (.cells #[.int .i64 0, .int .i64 0, .float .f64 0, .string ⟨#[]⟩, .slice none 0 0] 27))), hgA, ⟨cs_new rfl, fun o => row_frz (row_alloc _ _ _) o⟩, hbd.size, (by have h := cs_lt hsA.1; omega), (row_step hrow (bel_alloc (Below.refl _ _) (.cells #[.int .i64 0, .int .i64 0, .float .f64 0, .string ⟨#[]⟩, .slice none 0 0] 27)))⟩ hHeld)
          refine any_have 12 [12, 2] (fun a a' w' => ∃ (gB gC : Nat), a' = ((a.put (some 15) (.pointer (some ⟨gB, 0, none⟩))).put (some 82) (.slice (some ⟨gC, 0, none⟩) 1 1)) ∧ KB w sb qs ms ds mb KL w' ∧ Below wr.heap.size wr w' ∧ SBX w' gB (.int .i64 0) (.int .i64 0) (.float .f64 0) (.string ⟨#[]⟩) (.slice none 0 0) ∧ wr.heap.size ≤ gB ∧ w'.heap[gC]? = some (.cells #[.int .u8 (97 + (cx : Int))] 5 (0, 0))) ?phK011n (fun hK011 => ?_)
          case phK011n =>
            intro a' w' hst hHeld
            obtain ⟨gB, gC, rfl, hq, hbd, hsB, hgB, hrow⟩ := hst
            (try simp only [Act.put, List.setIfInBounds_toArray, List.set_cons_zero, List.set_cons_succ])
            refine wpAnyH_ready (rs := [3, 11]) (by kernel_rfl) (by simp) ?_
            refine AllReadyH.cons (o := ?_) ?hoXhK011n ?hstXhK011n (AllReadyH.cons (o := ?_) ?hoAhK011n ?hstAhK011n AllReadyH.nil)
            case hoXhK011n => (simp only [List.getElem?_toArray, List.getElem?_cons_zero, List.getElem?_cons_succ]; rfl)
            case hoAhK011n => (simp only [List.getElem?_toArray, List.getElem?_cons_zero, List.getElem?_cons_succ]; rfl)
            case hstXhK011n =>
              intro K hK
              have hcv := conv1 (cap := 1) (b := bx) HBX.out.1 hrow; go_simp
              clear hcv
              go_wp2_with fail
              refine hK.out _ _ ?hsXhK011n (fun hHeld => ?_)
              case hsXhK011n => exact (hq).1.1
              clear hK K
              (try simp only [Act.put, List.setIfInBounds_toArray, List.set_cons_zero, List.set_cons_succ])
              exact any_eq (by kernel_rfl) (by kernel_rfl) (hK012 _ _ ⟨gB, gC, rfl, hq, hbd, hsB, hgB⟩ hHeld)
            case hstAhK011n =>
              intro K hK
              go_simp
              refine hK.out _ _ ?hsAhK011n (fun hHeld => ?_)
              case hsAhK011n => exact ((kb_step hq (bel_alloc (Below.refl _ _) (.cells #[.int .i64 0, .int .i64 0, .float .f64 0, .string ⟨#[]⟩, .slice none 0 0] 27)))).1.1
              clear hK K
              (try simp only [Act.put, List.setIfInBounds_toArray, List.set_cons_zero, List.set_cons_succ])
              exact any_eq (by kernel_rfl) (by kernel_rfl) (hK111 _ _ ⟨_, gB, gC, rfl, (kb_step hq (bel_alloc (Below.refl _ _) (.cells #[.int .i64 0, .int .i64 0, .float .f64 0, .string ⟨#[]⟩, .slice none 0 0] 27))), (bel_step hbd (bel_alloc (Below.refl _ _) (.cells #[.int .i64 0, .int .i64 0, .float .f64 0, .string ⟨#[]⟩, .slice none 0 0] 27))), ⟨cs_new rfl, fun o => row_frz (row_alloc _ _ _) o⟩, hbd.size, (sbx_step hsB (bel_alloc (Below.refl _ _) (.cells #[.int .i64 0, .int .i64 0, .float .f64 0, .string ⟨#[]⟩, .slice none 0 0] 27))), hgB, (by have h := cs_lt hsB.1; omega), (row_step hrow (bel_alloc (Below.refl _ _) (.cells #[.int .i64 0, .int .i64 0, .float .f64 0, .string ⟨#[]⟩, .slice none 0 0] 27)))⟩ hHeld)
          refine any_have 13 [2] (fun a a' w' => ∃ (gC : Nat), a' = (a.put (some 82) (.slice (some ⟨gC, 0, none⟩) 1 1)) ∧ KB w sb qs ms ds mb KL w' ∧ Below wr.heap.size wr w' ∧ w'.heap[gC]? = some (.cells #[.int .u8 (97 + (cx : Int))] 5 (0, 0))) ?phK001n (fun hK001 => ?_)
          case phK001n =>
            intro a' w' hst hHeld
            obtain ⟨gC, rfl, hq, hbd, hrow⟩ := hst
            (try simp only [Act.put, List.setIfInBounds_toArray, List.set_cons_zero, List.set_cons_succ])
            refine wpAnyH_ready (rs := [3, 11, 12]) (by kernel_rfl) (by simp) ?_
            refine AllReadyH.cons (o := ?_) ?hoXhK001n ?hstXhK001n (AllReadyH.cons (o := ?_) ?hoAhK001n ?hstAhK001n (AllReadyH.cons (o := ?_) ?hoBhK001n ?hstBhK001n AllReadyH.nil))
            case hoXhK001n => (simp only [List.getElem?_toArray, List.getElem?_cons_zero, List.getElem?_cons_succ]; rfl)
            case hoAhK001n => (simp only [List.getElem?_toArray, List.getElem?_cons_zero, List.getElem?_cons_succ]; rfl)
            case hoBhK001n => (simp only [List.getElem?_toArray, List.getElem?_cons_zero, List.getElem?_cons_succ]; rfl)
            case hstXhK001n =>
              intro K hK
              have hcv := conv1 (cap := 1) (b := bx) HBX.out.1 hrow; go_simp
              clear hcv
              go_wp2_with fail
              refine hK.out _ _ ?hsXhK001n (fun hHeld => ?_)
              case hsXhK001n => exact (hq).1.1
              clear hK K
              (try simp only [Act.put, List.setIfInBounds_toArray, List.set_cons_zero, List.set_cons_succ])
              exact any_eq (by kernel_rfl) (by kernel_rfl) (hK002 _ _ ⟨gC, rfl, hq, hbd⟩ hHeld)
            case hstAhK001n =>
              intro K hK
              go_simp
              refine hK.out _ _ ?hsAhK001n (fun hHeld => ?_)
              case hsAhK001n => exact ((kb_step hq (bel_alloc (Below.refl _ _) (.cells #[.int .i64 0, .int .i64 0, .float .f64 0, .string ⟨#[]⟩, .slice none 0 0] 27)))).1.1
              clear hK K
              (try simp only [Act.put, List.setIfInBounds_toArray, List.set_cons_zero, List.set_cons_succ])
              exact any_eq (by kernel_rfl) (by kernel_rfl) (hK101 _ _ ⟨_, gC, rfl, (kb_step hq (bel_alloc (Below.refl _ _) (.cells #[.int .i64 0, .int .i64 0, .float .f64 0, .string ⟨#[]⟩, .slice none 0 0] 27))), (bel_step hbd (bel_alloc (Below.refl _ _) (.cells #[.int .i64 0, .int .i64 0, .float .f64 0, .string ⟨#[]⟩, .slice none 0 0] 27))), ⟨cs_new rfl, fun o => row_frz (row_alloc _ _ _) o⟩, hbd.size, (row_step hrow (bel_alloc (Below.refl _ _) (.cells #[.int .i64 0, .int .i64 0, .float .f64 0, .string ⟨#[]⟩, .slice none 0 0] 27)))⟩ hHeld)
            case hstBhK001n =>
              intro K hK
              go_simp
              refine hK.out _ _ ?hsBhK001n (fun hHeld => ?_)
              case hsBhK001n => exact ((kb_step hq (bel_alloc (Below.refl _ _) (.cells #[.int .i64 0, .int .i64 0, .float .f64 0, .string ⟨#[]⟩, .slice none 0 0] 27)))).1.1
              clear hK K
              (try simp only [Act.put, List.setIfInBounds_toArray, List.set_cons_zero, List.set_cons_succ])
              exact any_eq (by kernel_rfl) (by kernel_rfl) (hK011 _ _ ⟨_, gC, rfl, (kb_step hq (bel_alloc (Below.refl _ _) (.cells #[.int .i64 0, .int .i64 0, .float .f64 0, .string ⟨#[]⟩, .slice none 0 0] 27))), (bel_step hbd (bel_alloc (Below.refl _ _) (.cells #[.int .i64 0, .int .i64 0, .float .f64 0, .string ⟨#[]⟩, .slice none 0 0] 27))), ⟨cs_new rfl, fun o => row_frz (row_alloc _ _ _) o⟩, hbd.size, (row_step hrow (bel_alloc (Below.refl _ _) (.cells #[.int .i64 0, .int .i64 0, .float .f64 0, .string ⟨#[]⟩, .slice none 0 0] 27)))⟩ hHeld)
          refine any_have 12 [11, 12] (fun a a' w' => ∃ (gA gB : Nat), a' = ((a.put (some 14) (.pointer (some ⟨gA, 0, none⟩))).put (some 15) (.pointer (some ⟨gB, 0, none⟩))) ∧ KB w sb qs ms ds mb KL w' ∧ Below wr.heap.size wr w' ∧ SBX w' gA (.int .i64 0) (.int .i64 0) (.float .f64 0) (.string ⟨#[]⟩) (.slice none 0 0) ∧ wr.heap.size ≤ gA ∧ SBX w' gB (.int .i64 0) (.int .i64 0) (.float .f64 0) (.string ⟨#[]⟩) (.slice none 0 0) ∧ wr.heap.size ≤ gB ∧ gA ≠ gB) ?phK110n (fun hK110 => ?_)
          case phK110n =>
            intro a' w' hst hHeld
            obtain ⟨gA, gB, rfl, hq, hbd, hsA, hgA, hsB, hgB, hne⟩ := hst
            (try simp only [Act.put, List.setIfInBounds_toArray, List.set_cons_zero, List.set_cons_succ])
            refine wpAnyH_ready (rs := [2]) (by kernel_rfl) (by simp) ?_
            refine AllReadyH.cons (o := ?_) ?hoXhK110n ?hstXhK110n AllReadyH.nil
            case hoXhK110n => (simp only [List.getElem?_toArray, List.getElem?_cons_zero, List.getElem?_cons_succ]; rfl)
            case hstXhK110n =>
              intro K hK
              go_simp
              refine hK.out _ _ ?hsXhK110n (fun hHeld => ?_)
              case hsXhK110n => exact ((kb_step hq (bel_alloc (Below.refl _ _) (.cells #[.int .u8 (97 + (cx : Int))] 5)))).1.1
              clear hK K
              (try simp only [Act.put, List.setIfInBounds_toArray, List.set_cons_zero, List.set_cons_succ])
              exact any_eq (by kernel_rfl) (by kernel_rfl) (hK111 _ _ ⟨gA, gB, _, rfl, (kb_step hq (bel_alloc (Below.refl _ _) (.cells #[.int .u8 (97 + (cx : Int))] 5))), (bel_step hbd (bel_alloc (Below.refl _ _) (.cells #[.int .u8 (97 + (cx : Int))] 5))), (sbx_step hsA (bel_alloc (Below.refl _ _) (.cells #[.int .u8 (97 + (cx : Int))] 5))), hgA, (sbx_step hsB (bel_alloc (Below.refl _ _) (.cells #[.int .u8 (97 + (cx : Int))] 5))), hgB, hne, row_alloc _ _ _⟩ hHeld)
          refine any_have 13 [11] (fun a a' w' => ∃ (gA : Nat), a' = (a.put (some 14) (.pointer (some ⟨gA, 0, none⟩))) ∧ KB w sb qs ms ds mb KL w' ∧ Below wr.heap.size wr w' ∧ SBX w' gA (.int .i64 0) (.int .i64 0) (.float .f64 0) (.string ⟨#[]⟩) (.slice none 0 0) ∧ wr.heap.size ≤ gA) ?phK100n (fun hK100 => ?_)
          case phK100n =>
            intro a' w' hst hHeld
            obtain ⟨gA, rfl, hq, hbd, hsA, hgA⟩ := hst
            (try simp only [Act.put, List.setIfInBounds_toArray, List.set_cons_zero, List.set_cons_succ])
            refine wpAnyH_ready (rs := [2, 12]) (by kernel_rfl) (by simp) ?_
            refine AllReadyH.cons (o := ?_) ?hoXhK100n ?hstXhK100n (AllReadyH.cons (o := ?_) ?hoBhK100n ?hstBhK100n AllReadyH.nil)
            case hoXhK100n => (simp only [List.getElem?_toArray, List.getElem?_cons_zero, List.getElem?_cons_succ]; rfl)
            case hoBhK100n => (simp only [List.getElem?_toArray, List.getElem?_cons_zero, List.getElem?_cons_succ]; rfl)
            case hstXhK100n =>
              intro K hK
              go_simp
              refine hK.out _ _ ?hsXhK100n (fun hHeld => ?_)
              case hsXhK100n => exact ((kb_step hq (bel_alloc (Below.refl _ _) (.cells #[.int .u8 (97 + (cx : Int))] 5)))).1.1
              clear hK K
              (try simp only [Act.put, List.setIfInBounds_toArray, List.set_cons_zero, List.set_cons_succ])
              exact any_eq (by kernel_rfl) (by kernel_rfl) (hK101 _ _ ⟨gA, _, rfl, (kb_step hq (bel_alloc (Below.refl _ _) (.cells #[.int .u8 (97 + (cx : Int))] 5))), (bel_step hbd (bel_alloc (Below.refl _ _) (.cells #[.int .u8 (97 + (cx : Int))] 5))), (sbx_step hsA (bel_alloc (Below.refl _ _) (.cells #[.int .u8 (97 + (cx : Int))] 5))), hgA, row_alloc _ _ _⟩ hHeld)
            case hstBhK100n =>
              intro K hK
              go_simp
              refine hK.out _ _ ?hsBhK100n (fun hHeld => ?_)
              case hsBhK100n => exact ((kb_step hq (bel_alloc (Below.refl _ _) (.cells #[.int .i64 0, .int .i64 0, .float .f64 0, .string ⟨#[]⟩, .slice none 0 0] 27)))).1.1
              clear hK K
              (try simp only [Act.put, List.setIfInBounds_toArray, List.set_cons_zero, List.set_cons_succ])
              exact any_eq (by kernel_rfl) (by kernel_rfl) (hK110 _ _ ⟨gA, _, rfl, (kb_step hq (bel_alloc (Below.refl _ _) (.cells #[.int .i64 0, .int .i64 0, .float .f64 0, .string ⟨#[]⟩, .slice none 0 0] 27))), (bel_step hbd (bel_alloc (Below.refl _ _) (.cells #[.int .i64 0, .int .i64 0, .float .f64 0, .string ⟨#[]⟩, .slice none 0 0] 27))), (sbx_step hsA (bel_alloc (Below.refl _ _) (.cells #[.int .i64 0, .int .i64 0, .float .f64 0, .string ⟨#[]⟩, .slice none 0 0] 27))), hgA, ⟨cs_new rfl, fun o => row_frz (row_alloc _ _ _) o⟩, hbd.size, (by have h := cs_lt hsA.1; omega)⟩ hHeld)
          refine any_have 13 [12] (fun a a' w' => ∃ (gB : Nat), a' = (a.put (some 15) (.pointer (some ⟨gB, 0, none⟩))) ∧ KB w sb qs ms ds mb KL w' ∧ Below wr.heap.size wr w' ∧ SBX w' gB (.int .i64 0) (.int .i64 0) (.float .f64 0) (.string ⟨#[]⟩) (.slice none 0 0) ∧ wr.heap.size ≤ gB) ?phK010n (fun hK010 => ?_)
          case phK010n =>
            intro a' w' hst hHeld
            obtain ⟨gB, rfl, hq, hbd, hsB, hgB⟩ := hst
            (try simp only [Act.put, List.setIfInBounds_toArray, List.set_cons_zero, List.set_cons_succ])
            refine wpAnyH_ready (rs := [2, 11]) (by kernel_rfl) (by simp) ?_
            refine AllReadyH.cons (o := ?_) ?hoXhK010n ?hstXhK010n (AllReadyH.cons (o := ?_) ?hoAhK010n ?hstAhK010n AllReadyH.nil)
            case hoXhK010n => (simp only [List.getElem?_toArray, List.getElem?_cons_zero, List.getElem?_cons_succ]; rfl)
            case hoAhK010n => (simp only [List.getElem?_toArray, List.getElem?_cons_zero, List.getElem?_cons_succ]; rfl)
            case hstXhK010n =>
              intro K hK
              go_simp
              refine hK.out _ _ ?hsXhK010n (fun hHeld => ?_)
              case hsXhK010n => exact ((kb_step hq (bel_alloc (Below.refl _ _) (.cells #[.int .u8 (97 + (cx : Int))] 5)))).1.1
              clear hK K
              (try simp only [Act.put, List.setIfInBounds_toArray, List.set_cons_zero, List.set_cons_succ])
              exact any_eq (by kernel_rfl) (by kernel_rfl) (hK011 _ _ ⟨gB, _, rfl, (kb_step hq (bel_alloc (Below.refl _ _) (.cells #[.int .u8 (97 + (cx : Int))] 5))), (bel_step hbd (bel_alloc (Below.refl _ _) (.cells #[.int .u8 (97 + (cx : Int))] 5))), (sbx_step hsB (bel_alloc (Below.refl _ _) (.cells #[.int .u8 (97 + (cx : Int))] 5))), hgB, row_alloc _ _ _⟩ hHeld)
            case hstAhK010n =>
              intro K hK
              go_simp
              refine hK.out _ _ ?hsAhK010n (fun hHeld => ?_)
              case hsAhK010n => exact ((kb_step hq (bel_alloc (Below.refl _ _) (.cells #[.int .i64 0, .int .i64 0, .float .f64 0, .string ⟨#[]⟩, .slice none 0 0] 27)))).1.1
              clear hK K
              (try simp only [Act.put, List.setIfInBounds_toArray, List.set_cons_zero, List.set_cons_succ])
              exact any_eq (by kernel_rfl) (by kernel_rfl) (hK110 _ _ ⟨_, gB, rfl, (kb_step hq (bel_alloc (Below.refl _ _) (.cells #[.int .i64 0, .int .i64 0, .float .f64 0, .string ⟨#[]⟩, .slice none 0 0] 27))), (bel_step hbd (bel_alloc (Below.refl _ _) (.cells #[.int .i64 0, .int .i64 0, .float .f64 0, .string ⟨#[]⟩, .slice none 0 0] 27))), ⟨cs_new rfl, fun o => row_frz (row_alloc _ _ _) o⟩, hbd.size, (sbx_step hsB (bel_alloc (Below.refl _ _) (.cells #[.int .i64 0, .int .i64 0, .float .f64 0, .string ⟨#[]⟩, .slice none 0 0] 27))), hgB, (by have h := cs_lt hsB.1; omega)⟩ hHeld)
          refine wpAnyH_ready (rs := [2, 11, 12]) (by kernel_rfl) (by simp) ?_
          refine AllReadyH.cons (o := ?_) ?hoXzn ?hstXzn (AllReadyH.cons (o := ?_) ?hoAzn ?hstAzn (AllReadyH.cons (o := ?_) ?hoBzn ?hstBzn AllReadyH.nil))
          case hoXzn => (simp only [List.getElem?_toArray, List.getElem?_cons_zero, List.getElem?_cons_succ]; rfl)
          case hoAzn => (simp only [List.getElem?_toArray, List.getElem?_cons_zero, List.getElem?_cons_succ]; rfl)
          case hoBzn => (simp only [List.getElem?_toArray, List.getElem?_cons_zero, List.getElem?_cons_succ]; rfl)
          case hstXzn =>
            intro K hK
            go_simp
            refine hK.out _ _ ?hsXzn (fun hHeld => ?_)
            case hsXzn => exact ((kb_step hq (bel_alloc (Below.refl _ _) (.cells #[.int .u8 (97 + (cx : Int))] 5)))).1.1
            clear hK K
            (try simp only [Act.put, List.setIfInBounds_toArray, List.set_cons_zero, List.set_cons_succ])
            exact any_eq (by kernel_rfl) (by kernel_rfl) (hK001 _ _ ⟨_, rfl, (kb_step hq (bel_alloc (Below.refl _ _) (.cells #[.int .u8 (97 + (cx : Int))] 5))), (bel_step hbd (bel_alloc (Below.refl _ _) (.cells #[.int .u8 (97 + (cx : Int))] 5))), row_alloc _ _ _⟩ hHeld)
          case hstAzn =>
            intro K hK
            go_simp
            refine hK.out _ _ ?hsAzn (fun hHeld => ?_)
            case hsAzn => exact ((kb_step hq (bel_alloc (Below.refl _ _) (.cells #[.int .i64 0, .int .i64 0, .float .f64 0, .string ⟨#[]⟩, .slice none 0 0] 27)))).1.1
            clear hK K
            (try simp only [Act.put, List.setIfInBounds_toArray, List.set_cons_zero, List.set_cons_succ])
            exact any_eq (by kernel_rfl) (by kernel_rfl) (hK100 _ _ ⟨_, rfl, (kb_step hq (bel_alloc (Below.refl _ _) (.cells #[.int .i64 0, .int .i64 0, .float .f64 0, .string ⟨#[]⟩, .slice none 0 0] 27))), (bel_step hbd (bel_alloc (Below.refl _ _) (.cells #[.int .i64 0, .int .i64 0, .float .f64 0, .string ⟨#[]⟩, .slice none 0 0] 27))), ⟨cs_new rfl, fun o => row_frz (row_alloc _ _ _) o⟩, hbd.size⟩ hHeld)
          case hstBzn =>
            intro K hK
            go_simp
            refine hK.out _ _ ?hsBzn (fun hHeld => ?_)
            case hsBzn => exact ((kb_step hq (bel_alloc (Below.refl _ _) (.cells #[.int .i64 0, .int .i64 0, .float .f64 0, .string ⟨#[]⟩, .slice none 0 0] 27)))).1.1
            clear hK K
            (try simp only [Act.put, List.setIfInBounds_toArray, List.set_cons_zero, List.set_cons_succ])
            exact any_eq (by kernel_rfl) (by kernel_rfl) (hK010 _ _ ⟨_, rfl, (kb_step hq (bel_alloc (Below.refl _ _) (.cells #[.int .i64 0, .int .i64 0, .float .f64 0, .string ⟨#[]⟩, .slice none 0 0] 27))), (bel_step hbd (bel_alloc (Below.refl _ _) (.cells #[.int .i64 0, .int .i64 0, .float .f64 0, .string ⟨#[]⟩, .slice none 0 0] 27))), ⟨cs_new rfl, fun o => row_frz (row_alloc _ _ _) o⟩, hbd.size⟩ hHeld)
        case rest =>
        obtain ⟨gA, gB, Kt, It, Ft, Zt, qt, mt, dt, Kv, Iv, Fv, Zv, qv, mv, dv, rfl, rfl, rfl, hca, hcb, hkb, hbel, hrt, hrv⟩ := hcut
        rw [HTT.out.1] at hrt
        rw [HTT.out.2] at hrv
        obtain ⟨rfl, rfl, rfl, rfl⟩ := rep_tab5 (repS_rep _ _ _ hrt)
        have hsbr : sb < wr.heap.size := cs_lt HKB.out.1.1
        have hmbr : mb < wr.heap.size := (by obtain ⟨_, _, h, _⟩ := HKB.out.2; exact row_lt h)
        have HN := Lib.hid (show KB w sb qt mt dt mb KL ((((((wc.setCell ⟨sb, 0, none⟩ (.int .i64 4)).setCell ⟨sb, 1, none⟩ (.int .i64 0)).setCell ⟨sb, 2, none⟩ (.float .f64 0)).setCell ⟨sb, 3, none⟩ (.string ⟨#[]⟩)).setCell ⟨sb, 4, none⟩ (.slice qt mt dt))) from ⟨fb_new hkb.1 h1 qt mt dt, mp_set hkb.2 (Ne.symm h3)⟩)
        have HRN := Lib.hid (show RepS (fun b => sb < b ∧ mb < b) ((((((wc.setCell ⟨sb, 0, none⟩ (.int .i64 4)).setCell ⟨sb, 1, none⟩ (.int .i64 0)).setCell ⟨sb, 2, none⟩ (.float .f64 0)).setCell ⟨sb, 3, none⟩ (.string ⟨#[]⟩)).setCell ⟨sb, 4, none⟩ (.slice qt mt dt))) 3 (.agg #[.int .i64 4, .int .i64 0, .float .f64 0, .string ⟨#[]⟩, .slice qt mt dt]) (tableT 0 (setE 26 fK (remN g2 (metN g l1) (i + 1)))) from repS_set (repS_mono (fun b hb => by have h := hb.1; exact ⟨by omega, by omega⟩) _ _ _ hrt) (fun b hb => by have h := hb.1; omega))
        obtain ⟨x0, x1, x2, x3, x4⟩ := hca
        obtain ⟨z0, z1, z2, z3, z4⟩ := hcb
        obtain ⟨⟨⟨y0, y1, y2, y3, y4⟩, _, yf⟩, hmpc⟩ := hkb
        have yl := cell_lt y0
        obtain ⟨esc, ckc, hrowc, hmec⟩ := hmpc
        have hlk := mp_look wc mb KL esc ckc cx hrowc hmec
        have hKv : ((Kv == 1) = KL.contains cx) := by
          rw [ltr_has HLT.out cx]
          obtain ⟨p', l', c', hv, _⟩ := repS_rep _ _ _ hrv
          injection hv with hv
          simp only [Array.mk.injEq, List.cons.injEq, and_true] at hv
          have hk := hv.1
          injection hk with _ hk
          rw [hk]
          unfold hadE
          cases remN g2 (metN g l1) i cx <;> rfl
        obtain ⟨bb, hbb⟩ : ∃ bb, KL.contains cx = bb := ⟨_, rfl⟩
        rw [hbb] at hlk hKv
        clear hrowc hmec hbb hrv hrt hbel HDO HKB HSTr hc1
        go_upto_region 24 with fail
        revert HN HRN
        generalize (((((wc.setCell ⟨sb, 0, none⟩ (.int .i64 4)).setCell ⟨sb, 1, none⟩ (.int .i64 0)).setCell ⟨sb, 2, none⟩ (.float .f64 0)).setCell ⟨sb, 3, none⟩ (.string ⟨#[]⟩)).setCell ⟨sb, 4, none⟩ (.slice qt mt dt)) = Wn
        intro HN HRN
        obtain ⟨es, ck, hup, hmp⟩ := mp_del Wn mb KL cx 0 HN.out.2
        have HM := Lib.hid (show KB w sb qt mt dt mb (KL.erase cx) (mpW Wn mb es ck) from ⟨⟨(by have h := HN.out.1.1; have e : ∀ j, (mpW Wn mb es ck).cell? ⟨sb, j, none⟩ = Wn.cell? ⟨sb, j, none⟩ := fun j => World.cell?_of_block (mpW_other h3); unfold CS at h ⊢; simp only [e]; exact h), mpW_below HN.out.1.2.1 h2, fun o => (by rw [show (mpW Wn mb es ck).frozen? ⟨sb, o, none⟩ = Wn.frozen? ⟨sb, o, none⟩ by unfold World.frozen?; rw [mpW_other h3]]; exact HN.out.1.2.2 o)⟩, hmp⟩)
        have HRM := Lib.hid (show RepS (fun b => sb < b ∧ mb < b) (mpW Wn mb es ck) 3 (.agg #[.int .i64 4, .int .i64 0, .float .f64 0, .string ⟨#[]⟩, .slice qt mt dt]) (tableT 0 (setE 26 fK (remN g2 (metN g l1) (i + 1)))) from repS_keep (fun b hb => mpW_other (by omega)) _ _ _ HRN.out)
        clear hmp x0 x1 x2 x3 x4 y0 y1 y2 y3 y4 yf yl z0 z1 z2 z3 z4 hlk hKv
        go_wp2
        revert HM HRM
        generalize mpW Wn mb es ck = Wm
        intro HM HRM
        go_roundw
        case rel => exact ⟨i + 1, qt, mt, dt, KL.erase cx, by omega, by go_num, HM.out, by rw [← remN_succ g2 (metN g l1) i, HGX.out]; exact ltr_del HLT.out cx, HRM.out⟩
        case measure => simp [intOf]; omega
      · have hie2 : i = l2 := by omega
        have hil3 : ¬ (i : Int) < (l2 : Int) := by omega
        have hA : ∀ c, remN g2 (metN g l1) i c = true → c < 26 := by
          intro c hc
          unfold remN at hc
          rw [Bool.and_eq_true] at hc
          unfold metN at hc
          obtain ⟨t, ht, hgt⟩ := List.any_eq_true.1 hc.1
          obtain ⟨_, _, x, _, _, _, hx⟩ := HG.out t (List.mem_range.1 ht)
          have h := eq_of_beq hgt
          omega
        have hlen := ltr_len HLT.out hA
        obtain ⟨A, hAA⟩ : ∃ A, remN g2 (metN g l1) i = A := ⟨_, rfl⟩
        rw [hAA] at HLT HSTr hA hlen
        have HAL := Lib.hid hA
        have HLEN := Lib.hid hlen
        have HOK := Lib.hid (fam_ok fam_K A)
        obtain ⟨y0, y1, y2, y3, y4⟩ := HKB.out.1.1
        have yl := cell_lt y0
        clear hA hlen hAA hie2
        have HRS := Lib.hid (repS_rep _ _ _ HSTr.out)
        clear HSTr
        go_wp2_with fail
        go_at_call 12; refine (keys_K A HRS.out).mono ?_; rintro e w4 ⟨tt, vv, rfl, hb4, ht, hv⟩
        obtain ⟨Kt, It, Ft, Zt, qt, mt, dt, rfl, _⟩ := repS_shape ht
        obtain ⟨pk, lk, ck, rfl, _, _, _, _, hnl⟩ := repS_rep _ _ _ hv
        have hal := bel_alloc (bel_alloc (Below.refl w4.heap.size w4) (.cells #[.int .i64 Kt, .int .i64 It, .float .f64 Ft, .string Zt, .slice qt mt dt] 27)) (.cells #[.int .i64 4, .int .i64 0, .float .f64 0, .string ⟨#[]⟩, .slice pk lk ck] 27)
        have hb5 := bel_step hb4 hal
        have HX5 := Lib.hid (show KB w sb qs ms ds mb KL ((w4.alloc (.cells #[.int .i64 Kt, .int .i64 It, .float .f64 Ft, .string Zt, .slice qt mt dt] 27)).alloc (.cells #[.int .i64 4, .int .i64 0, .float .f64 0, .string ⟨#[]⟩, .slice pk lk ck] 27)) ∧ CS ((w4.alloc (.cells #[.int .i64 Kt, .int .i64 It, .float .f64 Ft, .string Zt, .slice qt mt dt] 27)).alloc (.cells #[.int .i64 4, .int .i64 0, .float .f64 0, .string ⟨#[]⟩, .slice pk lk ck] 27)) (w4.heap.size + 1) (.int .i64 4) (.int .i64 0) (.float .f64 0) (.string ⟨#[]⟩) (.slice pk lk ck) ∧ RepL ((w4.alloc (.cells #[.int .i64 Kt, .int .i64 It, .float .f64 Ft, .string Zt, .slice qt mt dt] 27)).alloc (.cells #[.int .i64 4, .int .i64 0, .float .f64 0, .string ⟨#[]⟩, .slice pk lk ck] 27)) (Rep ((w4.alloc (.cells #[.int .i64 Kt, .int .i64 It, .float .f64 Ft, .string Zt, .slice qt mt dt] 27)).alloc (.cells #[.int .i64 4, .int .i64 0, .float .f64 0, .string ⟨#[]⟩, .slice pk lk ck] 27)) 1) pk lk ck ((setE 26 fK A).map fun e => nameV 0 e.1) ∧ Rep ((w4.alloc (.cells #[.int .i64 Kt, .int .i64 It, .float .f64 Ft, .string Zt, .slice qt mt dt] 27)).alloc (.cells #[.int .i64 4, .int .i64 0, .float .f64 0, .string ⟨#[]⟩, .slice pk lk ck] 27)) 3 (.agg #[.int .i64 4, .int .i64 0, .float .f64 0, .string ⟨#[]⟩, .slice qs ms ds]) (tableT 0 (setE 26 fK A)) from ⟨kb_step HKB.out hb5, cs_new (World.size_alloc _ _).symm, repL_keep hal (rep_keep hal _) hnl, rep_keep hb5 _ _ _ HRS.out⟩)
        obtain ⟨y0, y1, y2, y3, y4⟩ := cs_step HKB.out.1.1 hb4
        have yl2 : sb < w4.heap.size := cell_lt y0
        have yn1 : w4.heap.size ≠ sb := by omega
        have yn2 : w4.heap.size + 1 ≠ sb := by omega
        have yn3 : sb < w4.heap.size + 1 := by omega
        clear hb4 hb5 hal ht hv hnl HRS HKB
        go_wp2_with fail
        go_at_call 12; refine (size_K A HX5.out.2.2.2).mono ?_; rintro e w6 ⟨tt, vv, rfl, hb6, ht, hv⟩
        obtain ⟨K6, I6, F6, Z6, q6, m6, d6, rfl, _⟩ := repS_shape ht
        obtain ⟨qn, dn, rfl⟩ := num_shape hv
        have hal := bel_alloc (bel_alloc (Below.refl w6.heap.size w6) (.cells #[.int .i64 K6, .int .i64 I6, .float .f64 F6, .string Z6, .slice q6 m6 d6] 27)) (.cells #[.int .i64 1, .int .i64 ((setE 26 fK A).length : Int), .float .f64 0, .string ⟨#[]⟩, .slice qn 0 dn] 27)
        have hb7 := bel_step hb6 hal
        obtain ⟨W7, hW7⟩ : ∃ W7, ((w6.alloc (.cells #[.int .i64 K6, .int .i64 I6, .float .f64 F6, .string Z6, .slice q6 m6 d6] 27)).alloc (.cells #[.int .i64 1, .int .i64 ((setE 26 fK A).length : Int), .float .f64 0, .string ⟨#[]⟩, .slice qn 0 dn] 27)) = W7 := ⟨_, rfl⟩
        have hnx : CS W7 (w6.heap.size + 1) (.int .i64 1) (.int .i64 ((setE 26 fK A).length : Int)) (.float .f64 0) (.string ⟨#[]⟩) (.slice qn 0 dn) := by rw [← hW7]; exact cs_new (World.size_alloc _ _).symm
        rw [hW7] at hb7
        have HX7 := Lib.hid (show KB w sb qs ms ds mb KL W7 ∧ CS W7 (w4.heap.size + 1) (.int .i64 4) (.int .i64 0) (.float .f64 0) (.string ⟨#[]⟩) (.slice pk lk ck) ∧ RepL W7 (Rep W7 1) pk lk ck ((setE 26 fK A).map fun e => nameV 0 e.1) ∧ Rep W7 3 (.agg #[.int .i64 4, .int .i64 0, .float .f64 0, .string ⟨#[]⟩, .slice qs ms ds]) (tableT 0 (setE 26 fK A)) from ⟨kb_step HX5.out.1 hb7, cs_step HX5.out.2.1 hb7, repL_keep hb7 (rep_keep hb7 _) HX5.out.2.2.1, rep_keep hb7 _ _ _ HX5.out.2.2.2⟩)
        have HNX := Lib.hid hnx
        have HW7 := Lib.hid hW7
        clear hb6 hal hb7 ht hv hnx HX5 y0 y1 y2 y3 y4 yl2 yn1 yn2 yn3 yl hW7
        go_upto_region 27 with fail
        rw [HW7.out]
        clear HW7
        generalize w6.heap.size + 1 = nx at HNX ⊢
        generalize w4.heap.size + 1 = kb at HX7 ⊢
        obtain ⟨n0, hn0⟩ : ∃ n0, KL.length = n0 := ⟨_, rfl⟩
        have hse : (setE 26 fK A).length = n0 := by rw [← hn0]; exact HLEN.out.symm
        rw [hse] at HNX
        have hlk : lk = n0 := by have h := HX7.out.2.2.1.1; rw [List.length_map, hse] at h; exact h.symm
        rw [hlk] at HX7
        obtain ⟨es, cck, hrow, hme⟩ := HX7.out.1.2
        have hln := fun ty => mp_len W7 mb KL es cck ty hrow hme
        have HME := Lib.hid (And.intro hrow hme)
        rw [hn0] at hln
        obtain ⟨k0, k1, k2, k3, k4⟩ := HX7.out.2.1
        obtain ⟨x0, x1, x2, x3, x4⟩ := HNX.out
        have hn26 : n0 ≤ 26 := by rw [← hse]; exact set_len
        have HSE := Lib.hid hse
        clear hrow hme hn0 hlk hse HLEN
        have HHAS := Lib.hid (fun (c : Nat) (hc : A c = true) (z : World) (hz : z.heap[mb]? = some (.map es cck)) => (show (Instr.lookup 50 (.map (some mb)) (.int .u8 (97 + (c : Int))) false).run Try.prog z = .ok (.bool true) z by have h := mp_look z mb KL es cck c hz HME.out.2; rw [ltr_has HLT.out c, hc] at h; exact h))
        go_wp2
        clear k0 k1 k2 k3 k4 x0 x1 x2 x3 x4 hln HNX
        go_loopw [23] (fun iv wr => ∃ i : Nat, i ≤ n0 ∧ iv = .int .i64 i ∧ Below W7.heap.size W7 wr) (fun iv _ => n0 - (intOf iv).toNat)
        case atStart => exact ⟨0, by omega, rfl, Below.refl _ _⟩
        case round =>
          obtain ⟨j, hjn, rfl, hbj⟩ := hrel
          have HBJ := Lib.hid hbj
          obtain ⟨k0, k1, k2, k3, k4⟩ := cs_step HX7.out.2.1 hbj
          have hrowj := row_step HME.out.1 hbj
          clear hbj
          by_cases hjl : j < n0
          · have hj0 : (0 : Int) ≤ (j : Int) := by omega
            have hj1 : (j : Int) < (n0 : Int) := by omega
            obtain ⟨nb, noff, hpk, hit⟩ := HX7.out.2.2.1.2.2.2 (by omega)
            subst hpk
            obtain ⟨bi, ci, hsi, hbi, hAi, c3⟩ := name_at HSE.out hit hjl
            have e3 := cell_keep HBJ.out c3
            have hlk := HHAS.out ci hAi
            have nlt := cell_lt e3
            have klt := cell_lt k4
            rcases Nat.eq_zero_or_pos j with h0 | h0
            · subst h0
              simp only [Nat.zero_mul, Nat.add_zero] at e3
              clear hit c3 hsi
              have hAi' := hAi
              clear hAi
              have HL := Lib.hid (show ∀ (z : World), z.heap[mb]? = some (.map es cck) → (Instr.lookup 50 (.map (some mb)) (.int .u8 (((⟨#[bi]⟩ : ByteArray)[0]'(by show 0 < 1; omega)).toNat : Int)) false).run Try.prog z = .ok (.bool true) z from fun z hz => by rw [show ((((⟨#[bi]⟩ : ByteArray)[0]'(by show 0 < 1; omega)).toNat : Nat) : Int) = 97 + (ci : Int) from hbi]; exact HHAS.out ci hAi' z hz)
              have H4 := Lib.hid k4
              have H3 := Lib.hid e3
              have HRW := Lib.hid hrowj
              clear hAi' hlk hbi k0 k1 k2 k3 e3 hrowj nlt klt
              go_upto_region 32 with fail
              clear k4
              refine wp_region_held_drew (S := fun z => z.cell? ⟨kb, 4, none⟩ = some (.slice (some ⟨nb, noff, none⟩) n0 ck) ∧ z.cell? ⟨nb, noff + 3, none⟩ = some (.string ⟨#[bi]⟩) ∧ (Instr.lookup 50 (.map (some mb)) (.int .u8 (((⟨#[bi]⟩ : ByteArray)[0]'(by show 0 < 1; omega)).toNat : Int)) false).run Try.prog z = .ok (.bool true) z) (by kernel_rfl) ?_ (fun hHeld => ?_)
              · exact ⟨cell_keep (Below.drew (Below.refl _ _)) H4.out, cell_keep (Below.drew (Below.refl _ _)) H3.out, HL.out _ (row_step HRW.out (Below.drew (Below.refl _ _)))⟩
              refine wpAnyH_take (i := 0) (oi := ?_) (v := ?_) ?hiz0 (by kernel_rfl) ?hfz0 ?hrz0 ?hQz0 ?hyz0 (by assumption) ?restz0
              case hiz0 => (simp only [List.getElem?_toArray, List.getElem?_cons_zero, List.getElem?_cons_succ]; rfl)
              case hfz0 => kernel_rfl
              case hrz0 => kernel_rfl
              case hyz0 => (refine Or.inl ⟨by rfl, ?_⟩; intro wS hSw; (try dsimp only at hSw); go_simp; (try with_reducible rfl))
              case hQz0 => exact fun _ _ _ h => h
              (try simp only [Act.put, List.setIfInBounds_toArray, List.set_cons_zero, List.set_cons_succ])
              refine wpAnyH_take (i := 1) (oi := ?_) (v := ?_) ?hiz1 (by kernel_rfl) ?hfz1 ?hrz1 ?hQz1 ?hyz1 (by assumption) ?restz1
              case hiz1 => (simp only [List.getElem?_toArray, List.getElem?_cons_zero, List.getElem?_cons_succ]; rfl)
              case hfz1 => kernel_rfl
              case hrz1 => kernel_rfl
              case hyz1 => (refine Or.inl ⟨by rfl, ?_⟩; intro wS hSw; (try dsimp only at hSw); go_simp; (try with_reducible rfl))
              case hQz1 => exact fun _ _ _ h => h
              (try simp only [Act.put, List.setIfInBounds_toArray, List.set_cons_zero, List.set_cons_succ])
              refine wpAnyH_take (i := 2) (oi := ?_) (v := ?_) ?hiz2 (by kernel_rfl) ?hfz2 ?hrz2 ?hQz2 ?hyz2 (by assumption) ?restz2
              case hiz2 => (simp only [List.getElem?_toArray, List.getElem?_cons_zero, List.getElem?_cons_succ]; rfl)
              case hfz2 => kernel_rfl
              case hrz2 => kernel_rfl
              case hyz2 => (refine Or.inl ⟨by rfl, ?_⟩; intro wS hSw; (try dsimp only at hSw); go_simp; (try with_reducible rfl))
              case hQz2 => exact fun _ _ _ h => h
              (try simp only [Act.put, List.setIfInBounds_toArray, List.set_cons_zero, List.set_cons_succ])
              refine wpAnyH_take (i := 3) (oi := ?_) (v := ?_) ?hiz3 (by kernel_rfl) ?hfz3 ?hrz3 ?hQz3 ?hyz3 (by assumption) ?restz3
              case hiz3 => (simp only [List.getElem?_toArray, List.getElem?_cons_zero, List.getElem?_cons_succ]; rfl)
              case hfz3 => kernel_rfl
              case hrz3 => kernel_rfl
              case hyz3 => (refine Or.inl ⟨by rfl, ?_⟩; intro wS hSw; (try dsimp only at hSw); go_simp; (try with_reducible rfl))
              case hQz3 => exact fun _ _ _ h => h
              (try simp only [Act.put, List.setIfInBounds_toArray, List.set_cons_zero, List.set_cons_succ])
              refine wpAnyH_take (i := 4) (oi := ?_) (v := ?_) ?hiz4 (by kernel_rfl) ?hfz4 ?hrz4 ?hQz4 ?hyz4 (by assumption) ?restz4
              case hiz4 => (simp only [List.getElem?_toArray, List.getElem?_cons_zero, List.getElem?_cons_succ]; rfl)
              case hfz4 => kernel_rfl
              case hrz4 => kernel_rfl
              case hyz4 => (refine Or.inl ⟨by rfl, ?_⟩; intro wS hSw; (try dsimp only at hSw); go_simp; (try with_reducible rfl))
              case hQz4 => exact fun _ _ _ h => h
              (try simp only [Act.put, List.setIfInBounds_toArray, List.set_cons_zero, List.set_cons_succ])
              refine wpAnyH_take (i := 5) (oi := ?_) (v := ?_) ?hiz5 (by kernel_rfl) ?hfz5 ?hrz5 ?hQz5 ?hyz5 (by assumption) ?restz5
              case hiz5 => (simp only [List.getElem?_toArray, List.getElem?_cons_zero, List.getElem?_cons_succ]; rfl)
              case hfz5 => kernel_rfl
              case hrz5 => kernel_rfl
              case hyz5 => (refine Or.inl ⟨by rfl, ?_⟩; intro wS hSw; (try dsimp only at hSw); go_simp; (try with_reducible rfl))
              case hQz5 => exact fun _ _ _ h => h
              (try simp only [Act.put, List.setIfInBounds_toArray, List.set_cons_zero, List.set_cons_succ])
              refine wpAnyH_take (i := 6) (oi := ?_) (v := ?_) ?hiz6 (by kernel_rfl) ?hfz6 ?hrz6 ?hQz6 ?hyz6 (by assumption) ?restz6
              case hiz6 => (simp only [List.getElem?_toArray, List.getElem?_cons_zero, List.getElem?_cons_succ]; rfl)
              case hfz6 => kernel_rfl
              case hrz6 => kernel_rfl
              case hyz6 => (refine Or.inl ⟨by rfl, ?_⟩; intro wS hSw; (try dsimp only at hSw); go_simp; (try with_reducible rfl))
              case hQz6 => exact fun _ _ _ h => h
              (try simp only [Act.put, List.setIfInBounds_toArray, List.set_cons_zero, List.set_cons_succ])
              refine wpAnyH_take (i := 7) (oi := ?_) (v := ?_) ?hiz7 (by kernel_rfl) ?hfz7 ?hrz7 ?hQz7 ?hyz7 (by assumption) ?restz7
              case hiz7 => (simp only [List.getElem?_toArray, List.getElem?_cons_zero, List.getElem?_cons_succ]; rfl)
              case hfz7 => kernel_rfl
              case hrz7 => kernel_rfl
              case hyz7 => (refine Or.inl ⟨by rfl, ?_⟩; intro wS hSw; (try dsimp only at hSw); go_simp; (try with_reducible rfl))
              case hQz7 => exact fun _ _ _ h => h
              (try simp only [Act.put, List.setIfInBounds_toArray, List.set_cons_zero, List.set_cons_succ])
              refine wpAnyH_take (i := 8) (oi := ?_) (v := ?_) ?hiz8 (by kernel_rfl) ?hfz8 ?hrz8 ?hQz8 ?hyz8 (by assumption) ?restz8
              case hiz8 => (simp only [List.getElem?_toArray, List.getElem?_cons_zero, List.getElem?_cons_succ]; rfl)
              case hfz8 => kernel_rfl
              case hrz8 => kernel_rfl
              case hyz8 => (refine Or.inl ⟨by rfl, ?_⟩; intro wS hSw; (try dsimp only at hSw); go_simp; (try with_reducible rfl))
              case hQz8 => exact fun _ _ _ h => h
              (try simp only [Act.put, List.setIfInBounds_toArray, List.set_cons_zero, List.set_cons_succ])
              refine wpAnyH_take (i := 9) (oi := ?_) (v := ?_) ?hiz9 (by kernel_rfl) ?hfz9 ?hrz9 ?hQz9 ?hyz9 (by assumption) ?restz9
              case hiz9 => (simp only [List.getElem?_toArray, List.getElem?_cons_zero, List.getElem?_cons_succ]; rfl)
              case hfz9 => kernel_rfl
              case hrz9 => kernel_rfl
              case hyz9 => (refine Or.inl ⟨by rfl, ?_⟩; intro wS hSw; (try dsimp only at hSw); go_simp; (try with_reducible rfl))
              case hQz9 => exact fun _ _ _ h => h
              (try simp only [Act.put, List.setIfInBounds_toArray, List.set_cons_zero, List.set_cons_succ])
              refine wpAnyH_take (i := 10) (oi := ?_) (v := ?_) ?hiz10 (by kernel_rfl) ?hfz10 ?hrz10 ?hQz10 ?hyz10 (by assumption) ?restz10
              case hiz10 => (simp only [List.getElem?_toArray, List.getElem?_cons_zero, List.getElem?_cons_succ]; rfl)
              case hfz10 => kernel_rfl
              case hrz10 => kernel_rfl
              case hyz10 => (refine Or.inl ⟨by rfl, ?_⟩; intro wS hSw; (try dsimp only at hSw); go_simp; (try with_reducible rfl))
              case hQz10 => exact fun _ _ _ h => h
              (try simp only [Act.put, List.setIfInBounds_toArray, List.set_cons_zero, List.set_cons_succ])
              refine wpAnyH_take (i := 11) (oi := ?_) (v := ?_) ?hiz11 (by kernel_rfl) ?hfz11 ?hrz11 ?hQz11 ?hyz11 (by assumption) ?restz11
              case hiz11 => (simp only [List.getElem?_toArray, List.getElem?_cons_zero, List.getElem?_cons_succ]; rfl)
              case hfz11 => kernel_rfl
              case hrz11 => kernel_rfl
              case hyz11 => (refine Or.inl ⟨by rfl, ?_⟩; intro wS hSw; (try dsimp only at hSw); go_simp; (try with_reducible rfl))
              case hQz11 => exact fun _ _ _ h => h
              (try simp only [Act.put, List.setIfInBounds_toArray, List.set_cons_zero, List.set_cons_succ])
              refine wpAnyH_take (i := 12) (oi := ?_) (v := ?_) ?hiz12 (by kernel_rfl) ?hfz12 ?hrz12 ?hQz12 ?hyz12 (by assumption) ?restz12
              case hiz12 => (simp only [List.getElem?_toArray, List.getElem?_cons_zero, List.getElem?_cons_succ]; rfl)
              case hfz12 => kernel_rfl
              case hrz12 => kernel_rfl
              case hyz12 => (refine Or.inl ⟨by rfl, ?_⟩; intro wS hSw; (try dsimp only at hSw); go_simp; (try with_reducible rfl))
              case hQz12 => exact fun _ _ _ h => h
              (try simp only [Act.put, List.setIfInBounds_toArray, List.set_cons_zero, List.set_cons_succ])
              refine wpAnyH_take (i := 13) (oi := ?_) (v := ?_) ?hiz13 (by kernel_rfl) ?hfz13 ?hrz13 ?hQz13 ?hyz13 (by assumption) ?restz13
              case hiz13 => (simp only [List.getElem?_toArray, List.getElem?_cons_zero, List.getElem?_cons_succ]; rfl)
              case hfz13 => kernel_rfl
              case hrz13 => kernel_rfl
              case hyz13 => (refine Or.inl ⟨by rfl, ?_⟩; intro wS hSw; (try dsimp only at hSw); go_simp; (try with_reducible rfl))
              case hQz13 => exact fun _ _ _ h => h
              (try simp only [Act.put, List.setIfInBounds_toArray, List.set_cons_zero, List.set_cons_succ])
              refine wpAnyH_take (i := 14) (oi := ?_) (v := ?_) ?hiz14 (by kernel_rfl) ?hfz14 ?hrz14 ?hQz14 ?hyz14 (by assumption) ?restz14
              case hiz14 => (simp only [List.getElem?_toArray, List.getElem?_cons_zero, List.getElem?_cons_succ]; rfl)
              case hfz14 => kernel_rfl
              case hrz14 => kernel_rfl
              case hyz14 => (refine Or.inl ⟨by rfl, ?_⟩; intro wS hSw; (try dsimp only at hSw); go_simp; (try with_reducible rfl))
              case hQz14 => exact fun _ _ _ h => h
              (try simp only [Act.put, List.setIfInBounds_toArray, List.set_cons_zero, List.set_cons_succ])
              refine wpAnyH_take (i := 15) (oi := ?_) (v := ?_) ?hiz15 (by kernel_rfl) ?hfz15 ?hrz15 ?hQz15 ?hyz15 (by assumption) ?restz15
              case hiz15 => (simp only [List.getElem?_toArray, List.getElem?_cons_zero, List.getElem?_cons_succ]; rfl)
              case hfz15 => kernel_rfl
              case hrz15 => kernel_rfl
              case hyz15 => (refine Or.inl ⟨by rfl, ?_⟩; intro wS hSw; (try dsimp only at hSw); go_simp; (try with_reducible rfl))
              case hQz15 => exact fun _ _ _ h => h
              (try simp only [Act.put, List.setIfInBounds_toArray, List.set_cons_zero, List.set_cons_succ])
              refine wpAnyH_take (i := 16) (oi := ?_) (v := ?_) ?hiz16 (by kernel_rfl) ?hfz16 ?hrz16 ?hQz16 ?hyz16 (by assumption) ?restz16
              case hiz16 => (simp only [List.getElem?_toArray, List.getElem?_cons_zero, List.getElem?_cons_succ]; rfl)
              case hfz16 => kernel_rfl
              case hrz16 => kernel_rfl
              case hyz16 => (refine Or.inl ⟨by rfl, ?_⟩; intro wS hSw; (try dsimp only at hSw); go_simp; (try with_reducible rfl))
              case hQz16 => exact fun _ _ _ h => h
              (try simp only [Act.put, List.setIfInBounds_toArray, List.set_cons_zero, List.set_cons_succ])
              refine wpAnyH_take (i := 17) (oi := ?_) (v := ?_) ?hiz17 (by kernel_rfl) ?hfz17 ?hrz17 ?hQz17 ?hyz17 (by assumption) ?restz17
              case hiz17 => (simp only [List.getElem?_toArray, List.getElem?_cons_zero, List.getElem?_cons_succ]; rfl)
              case hfz17 => kernel_rfl
              case hrz17 => kernel_rfl
              case hyz17 => (refine Or.inl ⟨by rfl, ?_⟩; intro wS hSw; (try dsimp only at hSw); go_simp; (try with_reducible rfl))
              case hQz17 => exact fun _ _ _ h => h
              (try simp only [Act.put, List.setIfInBounds_toArray, List.set_cons_zero, List.set_cons_succ])
              refine wpAnyH_take (i := 18) (oi := ?_) (v := ?_) ?hiz18 (by kernel_rfl) ?hfz18 ?hrz18 ?hQz18 ?hyz18 (by assumption) ?restz18
              case hiz18 => (simp only [List.getElem?_toArray, List.getElem?_cons_zero, List.getElem?_cons_succ]; rfl)
              case hfz18 => kernel_rfl
              case hrz18 => kernel_rfl
              case hyz18 => (refine Or.inl ⟨by rfl, ?_⟩; intro wS hSw; (try dsimp only at hSw); go_simp; (try with_reducible rfl))
              case hQz18 => exact fun _ _ _ h => h
              (try simp only [Act.put, List.setIfInBounds_toArray, List.set_cons_zero, List.set_cons_succ])
              refine wpAnyH_take (i := 19) (oi := ?_) (v := ?_) ?hiz19 (by kernel_rfl) ?hfz19 ?hrz19 ?hQz19 ?hyz19 (by assumption) ?restz19
              case hiz19 => (simp only [List.getElem?_toArray, List.getElem?_cons_zero, List.getElem?_cons_succ]; rfl)
              case hfz19 => kernel_rfl
              case hrz19 => kernel_rfl
              case hyz19 => (refine Or.inl ⟨by rfl, ?_⟩; intro wS hSw; (try dsimp only at hSw); go_simp; (try with_reducible rfl))
              case hQz19 => exact fun _ _ _ h => h
              (try simp only [Act.put, List.setIfInBounds_toArray, List.set_cons_zero, List.set_cons_succ])
              refine wpAnyH_take (i := 20) (oi := ?_) (v := ?_) ?hiz20 (by kernel_rfl) ?hfz20 ?hrz20 ?hQz20 ?hyz20 (by assumption) ?restz20
              case hiz20 => (simp only [List.getElem?_toArray, List.getElem?_cons_zero, List.getElem?_cons_succ]; rfl)
              case hfz20 => kernel_rfl
              case hrz20 => kernel_rfl
              case hyz20 => (refine Or.inl ⟨by rfl, ?_⟩; intro wS hSw; (try dsimp only at hSw); go_simp; (try with_reducible rfl))
              case hQz20 => exact fun _ _ _ h => h
              (try simp only [Act.put, List.setIfInBounds_toArray, List.set_cons_zero, List.set_cons_succ])
              refine wpAnyH_take (i := 21) (oi := ?_) (v := ?_) ?hiz21 (by kernel_rfl) ?hfz21 ?hrz21 ?hQz21 ?hyz21 (by assumption) ?restz21
              case hiz21 => (simp only [List.getElem?_toArray, List.getElem?_cons_zero, List.getElem?_cons_succ]; rfl)
              case hfz21 => kernel_rfl
              case hrz21 => kernel_rfl
              case hyz21 => (refine Or.inl ⟨by rfl, ?_⟩; intro wS hSw; (try dsimp only at hSw); go_simp; (try with_reducible rfl))
              case hQz21 => exact fun _ _ _ h => h
              (try simp only [Act.put, List.setIfInBounds_toArray, List.set_cons_zero, List.set_cons_succ])
              refine wpAnyH_take (i := 22) (oi := ?_) (v := ?_) ?hiz22 (by kernel_rfl) ?hfz22 ?hrz22 ?hQz22 ?hyz22 (by assumption) ?restz22
              case hiz22 => (simp only [List.getElem?_toArray, List.getElem?_cons_zero, List.getElem?_cons_succ]; rfl)
              case hfz22 => kernel_rfl
              case hrz22 => kernel_rfl
              case hyz22 => (refine Or.inl ⟨by rfl, ?_⟩; intro wS hSw; (try dsimp only at hSw); go_simp; (try with_reducible rfl))
              case hQz22 => exact fun _ _ _ h => h
              (try simp only [Act.put, List.setIfInBounds_toArray, List.set_cons_zero, List.set_cons_succ])
              refine wpAnyH_take (i := 23) (oi := ?_) (v := ?_) ?hiz23 (by kernel_rfl) ?hfz23 ?hrz23 ?hQz23 ?hyz23 (by assumption) ?restz23
              case hiz23 => (simp only [List.getElem?_toArray, List.getElem?_cons_zero, List.getElem?_cons_succ]; rfl)
              case hfz23 => kernel_rfl
              case hrz23 => kernel_rfl
              case hyz23 => (refine Or.inl ⟨by rfl, ?_⟩; intro wS hSw; (try dsimp only at hSw); go_simp; (try with_reducible rfl))
              case hQz23 => exact fun _ _ _ h => h
              (try simp only [Act.put, List.setIfInBounds_toArray, List.set_cons_zero, List.set_cons_succ])
              refine wpAnyH_take (i := 24) (oi := ?_) (v := undef) ?hiz24 (by kernel_rfl) ?hfz24 ?hrz24 ?hQz24 ?hyz24 (by assumption) ?restz24
              case hiz24 => (simp only [List.getElem?_toArray, List.getElem?_cons_zero, List.getElem?_cons_succ]; rfl)
              case hfz24 => kernel_rfl
              case hrz24 => kernel_rfl
              case hyz24 => exact Or.inr ⟨by rfl, rfl⟩
              case hQz24 => exact fun _ _ _ h => h
              (try simp only [Act.put, List.setIfInBounds_toArray, List.set_cons_zero, List.set_cons_succ])
              refine wpAnyH_take (i := 25) (oi := ?_) (v := undef) ?hiz25 (by kernel_rfl) ?hfz25 ?hrz25 ?hQz25 ?hyz25 (by assumption) ?restz25
              case hiz25 => (simp only [List.getElem?_toArray, List.getElem?_cons_zero, List.getElem?_cons_succ]; rfl)
              case hfz25 => kernel_rfl
              case hrz25 => kernel_rfl
              case hyz25 => exact Or.inr ⟨by rfl, rfl⟩
              case hQz25 => exact fun _ _ _ h => h
              (try simp only [Act.put, List.setIfInBounds_toArray, List.set_cons_zero, List.set_cons_succ])
              refine wpAnyH_take (i := 26) (oi := ?_) (v := undef) ?hiz26 (by kernel_rfl) ?hfz26 ?hrz26 ?hQz26 ?hyz26 (by assumption) ?restz26
              case hiz26 => (simp only [List.getElem?_toArray, List.getElem?_cons_zero, List.getElem?_cons_succ]; rfl)
              case hfz26 => kernel_rfl
              case hrz26 => kernel_rfl
              case hyz26 => exact Or.inr ⟨by rfl, rfl⟩
              case hQz26 => exact fun _ _ _ h => h
              (try simp only [Act.put, List.setIfInBounds_toArray, List.set_cons_zero, List.set_cons_succ])
              refine wpAnyH_take (i := 27) (oi := ?_) (v := undef) ?hiz27 (by kernel_rfl) ?hfz27 ?hrz27 ?hQz27 ?hyz27 (by assumption) ?restz27
              case hiz27 => (simp only [List.getElem?_toArray, List.getElem?_cons_zero, List.getElem?_cons_succ]; rfl)
              case hfz27 => kernel_rfl
              case hrz27 => kernel_rfl
              case hyz27 => exact Or.inr ⟨by rfl, rfl⟩
              case hQz27 => exact fun _ _ _ h => h
              (try simp only [Act.put, List.setIfInBounds_toArray, List.set_cons_zero, List.set_cons_succ])
              refine wpAnyH_take (i := 28) (oi := ?_) (v := undef) ?hiz28 (by kernel_rfl) ?hfz28 ?hrz28 ?hQz28 ?hyz28 (by assumption) ?restz28
              case hiz28 => (simp only [List.getElem?_toArray, List.getElem?_cons_zero, List.getElem?_cons_succ]; rfl)
              case hfz28 => kernel_rfl
              case hrz28 => kernel_rfl
              case hyz28 => exact Or.inr ⟨by rfl, rfl⟩
              case hQz28 => exact fun _ _ _ h => h
              (try simp only [Act.put, List.setIfInBounds_toArray, List.set_cons_zero, List.set_cons_succ])
              refine wpAnyH_take (i := 29) (oi := ?_) (v := undef) ?hiz29 (by kernel_rfl) ?hfz29 ?hrz29 ?hQz29 ?hyz29 (by assumption) ?restz29
              case hiz29 => (simp only [List.getElem?_toArray, List.getElem?_cons_zero, List.getElem?_cons_succ]; rfl)
              case hfz29 => kernel_rfl
              case hrz29 => kernel_rfl
              case hyz29 => exact Or.inr ⟨by rfl, rfl⟩
              case hQz29 => exact fun _ _ _ h => h
              (try simp only [Act.put, List.setIfInBounds_toArray, List.set_cons_zero, List.set_cons_succ])
              refine wpAnyH_take (i := 30) (oi := ?_) (v := undef) ?hiz30 (by kernel_rfl) ?hfz30 ?hrz30 ?hQz30 ?hyz30 (by assumption) ?restz30
              case hiz30 => (simp only [List.getElem?_toArray, List.getElem?_cons_zero, List.getElem?_cons_succ]; rfl)
              case hfz30 => kernel_rfl
              case hrz30 => kernel_rfl
              case hyz30 => exact Or.inr ⟨by rfl, rfl⟩
              case hQz30 => exact fun _ _ _ h => h
              (try simp only [Act.put, List.setIfInBounds_toArray, List.set_cons_zero, List.set_cons_succ])
              refine wpAnyH_take (i := 31) (oi := ?_) (v := undef) ?hiz31 (by kernel_rfl) ?hfz31 ?hrz31 ?hQz31 ?hyz31 (by assumption) ?restz31
              case hiz31 => (simp only [List.getElem?_toArray, List.getElem?_cons_zero, List.getElem?_cons_succ]; rfl)
              case hfz31 => kernel_rfl
              case hrz31 => kernel_rfl
              case hyz31 => exact Or.inr ⟨by rfl, rfl⟩
              case hQz31 => exact fun _ _ _ h => h
              (try simp only [Act.put, List.setIfInBounds_toArray, List.set_cons_zero, List.set_cons_succ])
              refine wpAnyH_take (i := 32) (oi := ?_) (v := undef) ?hiz32 (by kernel_rfl) ?hfz32 ?hrz32 ?hQz32 ?hyz32 (by assumption) ?restz32
              case hiz32 => (simp only [List.getElem?_toArray, List.getElem?_cons_zero, List.getElem?_cons_succ]; rfl)
              case hfz32 => kernel_rfl
              case hrz32 => kernel_rfl
              case hyz32 => exact Or.inr ⟨by rfl, rfl⟩
              case hQz32 => exact fun _ _ _ h => h
              (try simp only [Act.put, List.setIfInBounds_toArray, List.set_cons_zero, List.set_cons_succ])
              refine wpAnyH_take (i := 33) (oi := ?_) (v := undef) ?hiz33 (by kernel_rfl) ?hfz33 ?hrz33 ?hQz33 ?hyz33 (by assumption) ?restz33
              case hiz33 => (simp only [List.getElem?_toArray, List.getElem?_cons_zero, List.getElem?_cons_succ]; rfl)
              case hfz33 => kernel_rfl
              case hrz33 => kernel_rfl
              case hyz33 => exact Or.inr ⟨by rfl, rfl⟩
              case hQz33 => exact fun _ _ _ h => h
              (try simp only [Act.put, List.setIfInBounds_toArray, List.set_cons_zero, List.set_cons_succ])
              refine wpAnyH_take (i := 34) (oi := ?_) (v := undef) ?hiz34 (by kernel_rfl) ?hfz34 ?hrz34 ?hQz34 ?hyz34 (by assumption) ?restz34
              case hiz34 => (simp only [List.getElem?_toArray, List.getElem?_cons_zero, List.getElem?_cons_succ]; rfl)
              case hfz34 => kernel_rfl
              case hrz34 => kernel_rfl
              case hyz34 => exact Or.inr ⟨by rfl, rfl⟩
              case hQz34 => exact fun _ _ _ h => h
              (try simp only [Act.put, List.setIfInBounds_toArray, List.set_cons_zero, List.set_cons_succ])
              refine wpAnyH_take (i := 35) (oi := ?_) (v := undef) ?hiz35 (by kernel_rfl) ?hfz35 ?hrz35 ?hQz35 ?hyz35 (by assumption) ?restz35
              case hiz35 => (simp only [List.getElem?_toArray, List.getElem?_cons_zero, List.getElem?_cons_succ]; rfl)
              case hfz35 => kernel_rfl
              case hrz35 => kernel_rfl
              case hyz35 => exact Or.inr ⟨by rfl, rfl⟩
              case hQz35 => exact fun _ _ _ h => h
              (try simp only [Act.put, List.setIfInBounds_toArray, List.set_cons_zero, List.set_cons_succ])
              refine wpAnyH_take (i := 36) (oi := ?_) (v := undef) ?hiz36 (by kernel_rfl) ?hfz36 ?hrz36 ?hQz36 ?hyz36 (by assumption) ?restz36
              case hiz36 => (simp only [List.getElem?_toArray, List.getElem?_cons_zero, List.getElem?_cons_succ]; rfl)
              case hfz36 => kernel_rfl
              case hrz36 => kernel_rfl
              case hyz36 => exact Or.inr ⟨by rfl, rfl⟩
              case hQz36 => exact fun _ _ _ h => h
              (try simp only [Act.put, List.setIfInBounds_toArray, List.set_cons_zero, List.set_cons_succ])
              refine wpAnyH_take (i := 37) (oi := ?_) (v := undef) ?hiz37 (by kernel_rfl) ?hfz37 ?hrz37 ?hQz37 ?hyz37 (by assumption) ?restz37
              case hiz37 => (simp only [List.getElem?_toArray, List.getElem?_cons_zero, List.getElem?_cons_succ]; rfl)
              case hfz37 => kernel_rfl
              case hrz37 => kernel_rfl
              case hyz37 => exact Or.inr ⟨by rfl, rfl⟩
              case hQz37 => exact fun _ _ _ h => h
              (try simp only [Act.put, List.setIfInBounds_toArray, List.set_cons_zero, List.set_cons_succ])
              refine wpAnyH_take (i := 38) (oi := ?_) (v := ?_) ?hiz38 (by kernel_rfl) ?hfz38 ?hrz38 ?hQz38 ?hyz38 (by assumption) ?restz38
              case hiz38 => (simp only [List.getElem?_toArray, List.getElem?_cons_zero, List.getElem?_cons_succ]; rfl)
              case hfz38 => kernel_rfl
              case hrz38 => kernel_rfl
              case hyz38 => (refine Or.inl ⟨by rfl, ?_⟩; intro wS hSw; (try dsimp only at hSw); go_simp; (try with_reducible rfl))
              case hQz38 => exact fun _ _ _ h => h
              (try simp only [Act.put, List.setIfInBounds_toArray, List.set_cons_zero, List.set_cons_succ])
              refine wpAnyH_take (i := 39) (oi := ?_) (v := ?_) ?hiz39 (by kernel_rfl) ?hfz39 ?hrz39 ?hQz39 ?hyz39 (by assumption) ?restz39
              case hiz39 => (simp only [List.getElem?_toArray, List.getElem?_cons_zero, List.getElem?_cons_succ]; rfl)
              case hfz39 => kernel_rfl
              case hrz39 => kernel_rfl
              case hyz39 => (refine Or.inl ⟨by rfl, ?_⟩; intro wS hSw; (try dsimp only at hSw); go_simp; (try with_reducible rfl))
              case hQz39 => exact fun _ _ _ h => h
              (try simp only [Act.put, List.setIfInBounds_toArray, List.set_cons_zero, List.set_cons_succ])
              refine wpAnyH_done (by kernel_rfl) ?_ _
              go_wp2
              go_roundw
              case rel => exact ⟨1, by omega, by go_num, bel_step HBJ.out (Below.drew (Below.refl _ _))⟩
              case measure => simp [intOf]; omega
            · obtain ⟨k, hjk⟩ : ∃ k, j = k + 1 := ⟨j - 1, by omega⟩
              have hkl : k < n0 := by omega
              obtain ⟨bp, cp, hsp, _, _, p3⟩ := name_at HSE.out hit hkl
              have E3 := Lib.hid (cell_keep HBJ.out p3)
              have hls : Op.bytesLess (⟨#[bp]⟩ : ByteArray).toList (⟨#[bi]⟩ : ByteArray).toList = true := by
                rw [← hsp, ← hsi]
                have h := HOK.out.1.2 k j (by rw [List.length_map]; have := HSE.out; omega) (by rw [List.length_map]; have := HSE.out; omega) (by omega)
                rw [List.getElem_map, List.getElem_map] at h
                exact h
              have hls2 : Op.bytesLess [bp] [bi] = true := by
                first
                | (rw [ByteArray.toList_eq, ByteArray.toList_eq] at hls; exact hls)
                | simpa [ByteArray.toList_eq] using hls
              have hw : IntKind.i64.wrap ((j : Int) - 1) = (k : Int) := by rw [IntKind.wrap_i64]; omega
              have hjp : (0 : Int) < (j : Int) := by omega
              have hk0 : (0 : Int) ≤ (k : Int) := by omega
              have hk1 : (k : Int) < (n0 : Int) := by omega
              have HJK := Lib.hid hjk
              clear hit c3 p3 hsi hsp hjk
              have hAi' := hAi
              clear hAi
              have HL := Lib.hid (show ∀ (z : World), z.heap[mb]? = some (.map es cck) → (Instr.lookup 50 (.map (some mb)) (.int .u8 (((⟨#[bi]⟩ : ByteArray)[0]'(by show 0 < 1; omega)).toNat : Int)) false).run Try.prog z = .ok (.bool true) z from fun z hz => by rw [show ((((⟨#[bi]⟩ : ByteArray)[0]'(by show 0 < 1; omega)).toNat : Nat) : Int) = 97 + (ci : Int) from hbi]; exact HHAS.out ci hAi' z hz)
              have H4 := Lib.hid k4
              have H3 := Lib.hid e3
              have HRW := Lib.hid hrowj
              clear hAi' hlk hbi k0 k1 k2 k3 e3 hrowj nlt klt
              go_upto_region 32 with fail
              clear k4
              refine wp_region_held_drew (S := fun z => z.cell? ⟨kb, 4, none⟩ = some (.slice (some ⟨nb, noff, none⟩) n0 ck) ∧ z.cell? ⟨nb, noff + j * 5 + 3, none⟩ = some (.string ⟨#[bi]⟩) ∧ z.cell? ⟨nb, noff + k * 5 + 3, none⟩ = some (.string ⟨#[bp]⟩) ∧ (Instr.lookup 50 (.map (some mb)) (.int .u8 (((⟨#[bi]⟩ : ByteArray)[0]'(by show 0 < 1; omega)).toNat : Int)) false).run Try.prog z = .ok (.bool true) z) (by kernel_rfl) ?_ (fun hHeld => ?_)
              · exact ⟨cell_keep (Below.drew (Below.refl _ _)) H4.out, cell_keep (Below.drew (Below.refl _ _)) H3.out, cell_keep (Below.drew (Below.refl _ _)) E3.out, HL.out _ (row_step HRW.out (Below.drew (Below.refl _ _)))⟩
              refine wpAnyH_take (i := 0) (oi := ?_) (v := ?_) ?hiy0 (by kernel_rfl) ?hfy0 ?hry0 ?hQy0 ?hyy0 (by assumption) ?resty0
              case hiy0 => (simp only [List.getElem?_toArray, List.getElem?_cons_zero, List.getElem?_cons_succ]; rfl)
              case hfy0 => kernel_rfl
              case hry0 => kernel_rfl
              case hyy0 => (refine Or.inl ⟨by rfl, ?_⟩; intro wS hSw; (try dsimp only at hSw); go_simp; (try with_reducible rfl))
              case hQy0 => exact fun _ _ _ h => h
              (try simp only [Act.put, List.setIfInBounds_toArray, List.set_cons_zero, List.set_cons_succ])
              refine wpAnyH_take (i := 1) (oi := ?_) (v := ?_) ?hiy1 (by kernel_rfl) ?hfy1 ?hry1 ?hQy1 ?hyy1 (by assumption) ?resty1
              case hiy1 => (simp only [List.getElem?_toArray, List.getElem?_cons_zero, List.getElem?_cons_succ]; rfl)
              case hfy1 => kernel_rfl
              case hry1 => kernel_rfl
              case hyy1 => (refine Or.inl ⟨by rfl, ?_⟩; intro wS hSw; (try dsimp only at hSw); go_simp; (try with_reducible rfl))
              case hQy1 => exact fun _ _ _ h => h
              (try simp only [Act.put, List.setIfInBounds_toArray, List.set_cons_zero, List.set_cons_succ])
              refine wpAnyH_take (i := 2) (oi := ?_) (v := ?_) ?hiy2 (by kernel_rfl) ?hfy2 ?hry2 ?hQy2 ?hyy2 (by assumption) ?resty2
              case hiy2 => (simp only [List.getElem?_toArray, List.getElem?_cons_zero, List.getElem?_cons_succ]; rfl)
              case hfy2 => kernel_rfl
              case hry2 => kernel_rfl
              case hyy2 => (refine Or.inl ⟨by rfl, ?_⟩; intro wS hSw; (try dsimp only at hSw); go_simp; (try with_reducible rfl))
              case hQy2 => exact fun _ _ _ h => h
              (try simp only [Act.put, List.setIfInBounds_toArray, List.set_cons_zero, List.set_cons_succ])
              refine wpAnyH_take (i := 3) (oi := ?_) (v := ?_) ?hiy3 (by kernel_rfl) ?hfy3 ?hry3 ?hQy3 ?hyy3 (by assumption) ?resty3
              case hiy3 => (simp only [List.getElem?_toArray, List.getElem?_cons_zero, List.getElem?_cons_succ]; rfl)
              case hfy3 => kernel_rfl
              case hry3 => kernel_rfl
              case hyy3 => (refine Or.inl ⟨by rfl, ?_⟩; intro wS hSw; (try dsimp only at hSw); go_simp; (try with_reducible rfl))
              case hQy3 => exact fun _ _ _ h => h
              (try simp only [Act.put, List.setIfInBounds_toArray, List.set_cons_zero, List.set_cons_succ])
              refine wpAnyH_take (i := 4) (oi := ?_) (v := ?_) ?hiy4 (by kernel_rfl) ?hfy4 ?hry4 ?hQy4 ?hyy4 (by assumption) ?resty4
              case hiy4 => (simp only [List.getElem?_toArray, List.getElem?_cons_zero, List.getElem?_cons_succ]; rfl)
              case hfy4 => kernel_rfl
              case hry4 => kernel_rfl
              case hyy4 => (refine Or.inl ⟨by rfl, ?_⟩; intro wS hSw; (try dsimp only at hSw); go_simp; (try with_reducible rfl))
              case hQy4 => exact fun _ _ _ h => h
              (try simp only [Act.put, List.setIfInBounds_toArray, List.set_cons_zero, List.set_cons_succ])
              refine wpAnyH_take (i := 5) (oi := ?_) (v := ?_) ?hiy5 (by kernel_rfl) ?hfy5 ?hry5 ?hQy5 ?hyy5 (by assumption) ?resty5
              case hiy5 => (simp only [List.getElem?_toArray, List.getElem?_cons_zero, List.getElem?_cons_succ]; rfl)
              case hfy5 => kernel_rfl
              case hry5 => kernel_rfl
              case hyy5 => (refine Or.inl ⟨by rfl, ?_⟩; intro wS hSw; (try dsimp only at hSw); go_simp; (try with_reducible rfl))
              case hQy5 => exact fun _ _ _ h => h
              (try simp only [Act.put, List.setIfInBounds_toArray, List.set_cons_zero, List.set_cons_succ])
              refine wpAnyH_take (i := 6) (oi := ?_) (v := ?_) ?hiy6 (by kernel_rfl) ?hfy6 ?hry6 ?hQy6 ?hyy6 (by assumption) ?resty6
              case hiy6 => (simp only [List.getElem?_toArray, List.getElem?_cons_zero, List.getElem?_cons_succ]; rfl)
              case hfy6 => kernel_rfl
              case hry6 => kernel_rfl
              case hyy6 => (refine Or.inl ⟨by rfl, ?_⟩; intro wS hSw; (try dsimp only at hSw); go_simp; (try with_reducible rfl))
              case hQy6 => exact fun _ _ _ h => h
              (try simp only [Act.put, List.setIfInBounds_toArray, List.set_cons_zero, List.set_cons_succ])
              refine wpAnyH_take (i := 7) (oi := ?_) (v := ?_) ?hiy7 (by kernel_rfl) ?hfy7 ?hry7 ?hQy7 ?hyy7 (by assumption) ?resty7
              case hiy7 => (simp only [List.getElem?_toArray, List.getElem?_cons_zero, List.getElem?_cons_succ]; rfl)
              case hfy7 => kernel_rfl
              case hry7 => kernel_rfl
              case hyy7 => (refine Or.inl ⟨by rfl, ?_⟩; intro wS hSw; (try dsimp only at hSw); go_simp; (try with_reducible rfl))
              case hQy7 => exact fun _ _ _ h => h
              (try simp only [Act.put, List.setIfInBounds_toArray, List.set_cons_zero, List.set_cons_succ])
              refine wpAnyH_take (i := 8) (oi := ?_) (v := ?_) ?hiy8 (by kernel_rfl) ?hfy8 ?hry8 ?hQy8 ?hyy8 (by assumption) ?resty8
              case hiy8 => (simp only [List.getElem?_toArray, List.getElem?_cons_zero, List.getElem?_cons_succ]; rfl)
              case hfy8 => kernel_rfl
              case hry8 => kernel_rfl
              case hyy8 => (refine Or.inl ⟨by rfl, ?_⟩; intro wS hSw; (try dsimp only at hSw); go_simp; (try with_reducible rfl))
              case hQy8 => exact fun _ _ _ h => h
              (try simp only [Act.put, List.setIfInBounds_toArray, List.set_cons_zero, List.set_cons_succ])
              refine wpAnyH_take (i := 9) (oi := ?_) (v := ?_) ?hiy9 (by kernel_rfl) ?hfy9 ?hry9 ?hQy9 ?hyy9 (by assumption) ?resty9
              case hiy9 => (simp only [List.getElem?_toArray, List.getElem?_cons_zero, List.getElem?_cons_succ]; rfl)
              case hfy9 => kernel_rfl
              case hry9 => kernel_rfl
              case hyy9 => (refine Or.inl ⟨by rfl, ?_⟩; intro wS hSw; (try dsimp only at hSw); go_simp; (try with_reducible rfl))
              case hQy9 => exact fun _ _ _ h => h
              (try simp only [Act.put, List.setIfInBounds_toArray, List.set_cons_zero, List.set_cons_succ])
              refine wpAnyH_take (i := 10) (oi := ?_) (v := ?_) ?hiy10 (by kernel_rfl) ?hfy10 ?hry10 ?hQy10 ?hyy10 (by assumption) ?resty10
              case hiy10 => (simp only [List.getElem?_toArray, List.getElem?_cons_zero, List.getElem?_cons_succ]; rfl)
              case hfy10 => kernel_rfl
              case hry10 => kernel_rfl
              case hyy10 => (refine Or.inl ⟨by rfl, ?_⟩; intro wS hSw; (try dsimp only at hSw); go_simp; (try with_reducible rfl))
              case hQy10 => exact fun _ _ _ h => h
              (try simp only [Act.put, List.setIfInBounds_toArray, List.set_cons_zero, List.set_cons_succ])
              refine wpAnyH_take (i := 11) (oi := ?_) (v := ?_) ?hiy11 (by kernel_rfl) ?hfy11 ?hry11 ?hQy11 ?hyy11 (by assumption) ?resty11
              case hiy11 => (simp only [List.getElem?_toArray, List.getElem?_cons_zero, List.getElem?_cons_succ]; rfl)
              case hfy11 => kernel_rfl
              case hry11 => kernel_rfl
              case hyy11 => (refine Or.inl ⟨by rfl, ?_⟩; intro wS hSw; (try dsimp only at hSw); go_simp; (try with_reducible rfl))
              case hQy11 => exact fun _ _ _ h => h
              (try simp only [Act.put, List.setIfInBounds_toArray, List.set_cons_zero, List.set_cons_succ])
              refine wpAnyH_take (i := 12) (oi := ?_) (v := ?_) ?hiy12 (by kernel_rfl) ?hfy12 ?hry12 ?hQy12 ?hyy12 (by assumption) ?resty12
              case hiy12 => (simp only [List.getElem?_toArray, List.getElem?_cons_zero, List.getElem?_cons_succ]; rfl)
              case hfy12 => kernel_rfl
              case hry12 => kernel_rfl
              case hyy12 => (refine Or.inl ⟨by rfl, ?_⟩; intro wS hSw; (try dsimp only at hSw); go_simp; (try with_reducible rfl))
              case hQy12 => exact fun _ _ _ h => h
              (try simp only [Act.put, List.setIfInBounds_toArray, List.set_cons_zero, List.set_cons_succ])
              refine wpAnyH_take (i := 13) (oi := ?_) (v := ?_) ?hiy13 (by kernel_rfl) ?hfy13 ?hry13 ?hQy13 ?hyy13 (by assumption) ?resty13
              case hiy13 => (simp only [List.getElem?_toArray, List.getElem?_cons_zero, List.getElem?_cons_succ]; rfl)
              case hfy13 => kernel_rfl
              case hry13 => kernel_rfl
              case hyy13 => (refine Or.inl ⟨by rfl, ?_⟩; intro wS hSw; (try dsimp only at hSw); go_simp; (try with_reducible rfl))
              case hQy13 => exact fun _ _ _ h => h
              (try simp only [Act.put, List.setIfInBounds_toArray, List.set_cons_zero, List.set_cons_succ])
              refine wpAnyH_take (i := 14) (oi := ?_) (v := ?_) ?hiy14 (by kernel_rfl) ?hfy14 ?hry14 ?hQy14 ?hyy14 (by assumption) ?resty14
              case hiy14 => (simp only [List.getElem?_toArray, List.getElem?_cons_zero, List.getElem?_cons_succ]; rfl)
              case hfy14 => kernel_rfl
              case hry14 => kernel_rfl
              case hyy14 => (refine Or.inl ⟨by rfl, ?_⟩; intro wS hSw; (try dsimp only at hSw); go_simp; (try with_reducible rfl))
              case hQy14 => exact fun _ _ _ h => h
              (try simp only [Act.put, List.setIfInBounds_toArray, List.set_cons_zero, List.set_cons_succ])
              refine wpAnyH_take (i := 15) (oi := ?_) (v := ?_) ?hiy15 (by kernel_rfl) ?hfy15 ?hry15 ?hQy15 ?hyy15 (by assumption) ?resty15
              case hiy15 => (simp only [List.getElem?_toArray, List.getElem?_cons_zero, List.getElem?_cons_succ]; rfl)
              case hfy15 => kernel_rfl
              case hry15 => kernel_rfl
              case hyy15 => (refine Or.inl ⟨by rfl, ?_⟩; intro wS hSw; (try dsimp only at hSw); go_simp; (try with_reducible rfl))
              case hQy15 => exact fun _ _ _ h => h
              (try simp only [Act.put, List.setIfInBounds_toArray, List.set_cons_zero, List.set_cons_succ])
              refine wpAnyH_take (i := 16) (oi := ?_) (v := ?_) ?hiy16 (by kernel_rfl) ?hfy16 ?hry16 ?hQy16 ?hyy16 (by assumption) ?resty16
              case hiy16 => (simp only [List.getElem?_toArray, List.getElem?_cons_zero, List.getElem?_cons_succ]; rfl)
              case hfy16 => kernel_rfl
              case hry16 => kernel_rfl
              case hyy16 => (refine Or.inl ⟨by rfl, ?_⟩; intro wS hSw; (try dsimp only at hSw); go_simp; (try with_reducible rfl))
              case hQy16 => exact fun _ _ _ h => h
              (try simp only [Act.put, List.setIfInBounds_toArray, List.set_cons_zero, List.set_cons_succ])
              refine wpAnyH_take (i := 17) (oi := ?_) (v := ?_) ?hiy17 (by kernel_rfl) ?hfy17 ?hry17 ?hQy17 ?hyy17 (by assumption) ?resty17
              case hiy17 => (simp only [List.getElem?_toArray, List.getElem?_cons_zero, List.getElem?_cons_succ]; rfl)
              case hfy17 => kernel_rfl
              case hry17 => kernel_rfl
              case hyy17 => (refine Or.inl ⟨by rfl, ?_⟩; intro wS hSw; (try dsimp only at hSw); go_simp; (try with_reducible rfl))
              case hQy17 => exact fun _ _ _ h => h
              (try simp only [Act.put, List.setIfInBounds_toArray, List.set_cons_zero, List.set_cons_succ])
              refine wpAnyH_take (i := 18) (oi := ?_) (v := ?_) ?hiy18 (by kernel_rfl) ?hfy18 ?hry18 ?hQy18 ?hyy18 (by assumption) ?resty18
              case hiy18 => (simp only [List.getElem?_toArray, List.getElem?_cons_zero, List.getElem?_cons_succ]; rfl)
              case hfy18 => kernel_rfl
              case hry18 => kernel_rfl
              case hyy18 => (refine Or.inl ⟨by rfl, ?_⟩; intro wS hSw; (try dsimp only at hSw); go_simp; (try with_reducible rfl))
              case hQy18 => exact fun _ _ _ h => h
              (try simp only [Act.put, List.setIfInBounds_toArray, List.set_cons_zero, List.set_cons_succ])
              refine wpAnyH_take (i := 19) (oi := ?_) (v := ?_) ?hiy19 (by kernel_rfl) ?hfy19 ?hry19 ?hQy19 ?hyy19 (by assumption) ?resty19
              case hiy19 => (simp only [List.getElem?_toArray, List.getElem?_cons_zero, List.getElem?_cons_succ]; rfl)
              case hfy19 => kernel_rfl
              case hry19 => kernel_rfl
              case hyy19 => (refine Or.inl ⟨by rfl, ?_⟩; intro wS hSw; (try dsimp only at hSw); go_simp; (try with_reducible rfl))
              case hQy19 => exact fun _ _ _ h => h
              (try simp only [Act.put, List.setIfInBounds_toArray, List.set_cons_zero, List.set_cons_succ])
              refine wpAnyH_take (i := 20) (oi := ?_) (v := ?_) ?hiy20 (by kernel_rfl) ?hfy20 ?hry20 ?hQy20 ?hyy20 (by assumption) ?resty20
              case hiy20 => (simp only [List.getElem?_toArray, List.getElem?_cons_zero, List.getElem?_cons_succ]; rfl)
              case hfy20 => kernel_rfl
              case hry20 => kernel_rfl
              case hyy20 => (refine Or.inl ⟨by rfl, ?_⟩; intro wS hSw; (try dsimp only at hSw); go_simp; (try with_reducible rfl))
              case hQy20 => exact fun _ _ _ h => h
              (try simp only [Act.put, List.setIfInBounds_toArray, List.set_cons_zero, List.set_cons_succ])
              refine wpAnyH_take (i := 21) (oi := ?_) (v := ?_) ?hiy21 (by kernel_rfl) ?hfy21 ?hry21 ?hQy21 ?hyy21 (by assumption) ?resty21
              case hiy21 => (simp only [List.getElem?_toArray, List.getElem?_cons_zero, List.getElem?_cons_succ]; rfl)
              case hfy21 => kernel_rfl
              case hry21 => kernel_rfl
              case hyy21 => (refine Or.inl ⟨by rfl, ?_⟩; intro wS hSw; (try dsimp only at hSw); go_simp; (try with_reducible rfl))
              case hQy21 => exact fun _ _ _ h => h
              (try simp only [Act.put, List.setIfInBounds_toArray, List.set_cons_zero, List.set_cons_succ])
              refine wpAnyH_take (i := 22) (oi := ?_) (v := ?_) ?hiy22 (by kernel_rfl) ?hfy22 ?hry22 ?hQy22 ?hyy22 (by assumption) ?resty22
              case hiy22 => (simp only [List.getElem?_toArray, List.getElem?_cons_zero, List.getElem?_cons_succ]; rfl)
              case hfy22 => kernel_rfl
              case hry22 => kernel_rfl
              case hyy22 => (refine Or.inl ⟨by rfl, ?_⟩; intro wS hSw; (try dsimp only at hSw); go_simp; (try with_reducible rfl))
              case hQy22 => exact fun _ _ _ h => h
              (try simp only [Act.put, List.setIfInBounds_toArray, List.set_cons_zero, List.set_cons_succ])
              refine wpAnyH_take (i := 23) (oi := ?_) (v := ?_) ?hiy23 (by kernel_rfl) ?hfy23 ?hry23 ?hQy23 ?hyy23 (by assumption) ?resty23
              case hiy23 => (simp only [List.getElem?_toArray, List.getElem?_cons_zero, List.getElem?_cons_succ]; rfl)
              case hfy23 => kernel_rfl
              case hry23 => kernel_rfl
              case hyy23 => (refine Or.inl ⟨by rfl, ?_⟩; intro wS hSw; (try dsimp only at hSw); go_simp; (try with_reducible rfl))
              case hQy23 => exact fun _ _ _ h => h
              (try simp only [Act.put, List.setIfInBounds_toArray, List.set_cons_zero, List.set_cons_succ])
              refine wpAnyH_take (i := 24) (oi := ?_) (v := ?_) ?hiy24 (by kernel_rfl) ?hfy24 ?hry24 ?hQy24 ?hyy24 (by assumption) ?resty24
              case hiy24 => (simp only [List.getElem?_toArray, List.getElem?_cons_zero, List.getElem?_cons_succ]; rfl)
              case hfy24 => kernel_rfl
              case hry24 => kernel_rfl
              case hyy24 => (refine Or.inl ⟨by rfl, ?_⟩; intro wS hSw; (try dsimp only at hSw); go_simp; (try with_reducible rfl))
              case hQy24 => exact fun _ _ _ h => h
              (try simp only [Act.put, List.setIfInBounds_toArray, List.set_cons_zero, List.set_cons_succ])
              refine wpAnyH_take (i := 25) (oi := ?_) (v := ?_) ?hiy25 (by kernel_rfl) ?hfy25 ?hry25 ?hQy25 ?hyy25 (by assumption) ?resty25
              case hiy25 => (simp only [List.getElem?_toArray, List.getElem?_cons_zero, List.getElem?_cons_succ]; rfl)
              case hfy25 => kernel_rfl
              case hry25 => kernel_rfl
              case hyy25 => (refine Or.inl ⟨by rfl, ?_⟩; intro wS hSw; (try dsimp only at hSw); go_simp; (try with_reducible rfl))
              case hQy25 => exact fun _ _ _ h => h
              (try simp only [Act.put, List.setIfInBounds_toArray, List.set_cons_zero, List.set_cons_succ])
              refine wpAnyH_take (i := 26) (oi := ?_) (v := ?_) ?hiy26 (by kernel_rfl) ?hfy26 ?hry26 ?hQy26 ?hyy26 (by assumption) ?resty26
              case hiy26 => (simp only [List.getElem?_toArray, List.getElem?_cons_zero, List.getElem?_cons_succ]; rfl)
              case hfy26 => kernel_rfl
              case hry26 => kernel_rfl
              case hyy26 => (refine Or.inl ⟨by rfl, ?_⟩; intro wS hSw; (try dsimp only at hSw); go_simp; (try with_reducible rfl))
              case hQy26 => exact fun _ _ _ h => h
              (try simp only [Act.put, List.setIfInBounds_toArray, List.set_cons_zero, List.set_cons_succ])
              refine wpAnyH_take (i := 27) (oi := ?_) (v := ?_) ?hiy27 (by kernel_rfl) ?hfy27 ?hry27 ?hQy27 ?hyy27 (by assumption) ?resty27
              case hiy27 => (simp only [List.getElem?_toArray, List.getElem?_cons_zero, List.getElem?_cons_succ]; rfl)
              case hfy27 => kernel_rfl
              case hry27 => kernel_rfl
              case hyy27 => (refine Or.inl ⟨by rfl, ?_⟩; intro wS hSw; (try dsimp only at hSw); go_simp; (try with_reducible rfl))
              case hQy27 => exact fun _ _ _ h => h
              (try simp only [Act.put, List.setIfInBounds_toArray, List.set_cons_zero, List.set_cons_succ])
              refine wpAnyH_take (i := 28) (oi := ?_) (v := ?_) ?hiy28 (by kernel_rfl) ?hfy28 ?hry28 ?hQy28 ?hyy28 (by assumption) ?resty28
              case hiy28 => (simp only [List.getElem?_toArray, List.getElem?_cons_zero, List.getElem?_cons_succ]; rfl)
              case hfy28 => kernel_rfl
              case hry28 => kernel_rfl
              case hyy28 => (refine Or.inl ⟨by rfl, ?_⟩; intro wS hSw; (try dsimp only at hSw); go_simp; (try with_reducible rfl))
              case hQy28 => exact fun _ _ _ h => h
              (try simp only [Act.put, List.setIfInBounds_toArray, List.set_cons_zero, List.set_cons_succ])
              refine wpAnyH_take (i := 29) (oi := ?_) (v := ?_) ?hiy29 (by kernel_rfl) ?hfy29 ?hry29 ?hQy29 ?hyy29 (by assumption) ?resty29
              case hiy29 => (simp only [List.getElem?_toArray, List.getElem?_cons_zero, List.getElem?_cons_succ]; rfl)
              case hfy29 => kernel_rfl
              case hry29 => kernel_rfl
              case hyy29 => (refine Or.inl ⟨by rfl, ?_⟩; intro wS hSw; (try dsimp only at hSw); go_simp; (try with_reducible rfl))
              case hQy29 => exact fun _ _ _ h => h
              (try simp only [Act.put, List.setIfInBounds_toArray, List.set_cons_zero, List.set_cons_succ])
              refine wpAnyH_take (i := 30) (oi := ?_) (v := ?_) ?hiy30 (by kernel_rfl) ?hfy30 ?hry30 ?hQy30 ?hyy30 (by assumption) ?resty30
              case hiy30 => (simp only [List.getElem?_toArray, List.getElem?_cons_zero, List.getElem?_cons_succ]; rfl)
              case hfy30 => kernel_rfl
              case hry30 => kernel_rfl
              case hyy30 => (refine Or.inl ⟨by rfl, ?_⟩; intro wS hSw; (try dsimp only at hSw); go_simp; (try with_reducible rfl))
              case hQy30 => exact fun _ _ _ h => h
              (try simp only [Act.put, List.setIfInBounds_toArray, List.set_cons_zero, List.set_cons_succ])
              refine wpAnyH_take (i := 31) (oi := ?_) (v := ?_) ?hiy31 (by kernel_rfl) ?hfy31 ?hry31 ?hQy31 ?hyy31 (by assumption) ?resty31
              case hiy31 => (simp only [List.getElem?_toArray, List.getElem?_cons_zero, List.getElem?_cons_succ]; rfl)
              case hfy31 => kernel_rfl
              case hry31 => kernel_rfl
              case hyy31 => (refine Or.inl ⟨by rfl, ?_⟩; intro wS hSw; (try dsimp only at hSw); go_simp; (try with_reducible rfl))
              case hQy31 => exact fun _ _ _ h => h
              (try simp only [Act.put, List.setIfInBounds_toArray, List.set_cons_zero, List.set_cons_succ])
              refine wpAnyH_take (i := 32) (oi := ?_) (v := ?_) ?hiy32 (by kernel_rfl) ?hfy32 ?hry32 ?hQy32 ?hyy32 (by assumption) ?resty32
              case hiy32 => (simp only [List.getElem?_toArray, List.getElem?_cons_zero, List.getElem?_cons_succ]; rfl)
              case hfy32 => kernel_rfl
              case hry32 => kernel_rfl
              case hyy32 => (refine Or.inl ⟨by rfl, ?_⟩; intro wS hSw; (try dsimp only at hSw); go_simp; (try with_reducible rfl))
              case hQy32 => exact fun _ _ _ h => h
              (try simp only [Act.put, List.setIfInBounds_toArray, List.set_cons_zero, List.set_cons_succ])
              refine wpAnyH_take (i := 33) (oi := ?_) (v := ?_) ?hiy33 (by kernel_rfl) ?hfy33 ?hry33 ?hQy33 ?hyy33 (by assumption) ?resty33
              case hiy33 => (simp only [List.getElem?_toArray, List.getElem?_cons_zero, List.getElem?_cons_succ]; rfl)
              case hfy33 => kernel_rfl
              case hry33 => kernel_rfl
              case hyy33 => (refine Or.inl ⟨by rfl, ?_⟩; intro wS hSw; (try dsimp only at hSw); go_simp; (try with_reducible rfl))
              case hQy33 => exact fun _ _ _ h => h
              (try simp only [Act.put, List.setIfInBounds_toArray, List.set_cons_zero, List.set_cons_succ])
              refine wpAnyH_take (i := 34) (oi := ?_) (v := ?_) ?hiy34 (by kernel_rfl) ?hfy34 ?hry34 ?hQy34 ?hyy34 (by assumption) ?resty34
              case hiy34 => (simp only [List.getElem?_toArray, List.getElem?_cons_zero, List.getElem?_cons_succ]; rfl)
              case hfy34 => kernel_rfl
              case hry34 => kernel_rfl
              case hyy34 => (refine Or.inl ⟨by rfl, ?_⟩; intro wS hSw; (try dsimp only at hSw); go_simp; (try with_reducible rfl))
              case hQy34 => exact fun _ _ _ h => h
              (try simp only [Act.put, List.setIfInBounds_toArray, List.set_cons_zero, List.set_cons_succ])
              refine wpAnyH_take (i := 35) (oi := ?_) (v := ?_) ?hiy35 (by kernel_rfl) ?hfy35 ?hry35 ?hQy35 ?hyy35 (by assumption) ?resty35
              case hiy35 => (simp only [List.getElem?_toArray, List.getElem?_cons_zero, List.getElem?_cons_succ]; rfl)
              case hfy35 => kernel_rfl
              case hry35 => kernel_rfl
              case hyy35 => (refine Or.inl ⟨by rfl, ?_⟩; intro wS hSw; (try dsimp only at hSw); go_simp; (try with_reducible rfl))
              case hQy35 => exact fun _ _ _ h => h
              (try simp only [Act.put, List.setIfInBounds_toArray, List.set_cons_zero, List.set_cons_succ])
              refine wpAnyH_take (i := 36) (oi := ?_) (v := ?_) ?hiy36 (by kernel_rfl) ?hfy36 ?hry36 ?hQy36 ?hyy36 (by assumption) ?resty36
              case hiy36 => (simp only [List.getElem?_toArray, List.getElem?_cons_zero, List.getElem?_cons_succ]; rfl)
              case hfy36 => kernel_rfl
              case hry36 => kernel_rfl
              case hyy36 => (refine Or.inl ⟨by rfl, ?_⟩; intro wS hSw; (try dsimp only at hSw); go_simp; (try with_reducible rfl))
              case hQy36 => exact fun _ _ _ h => h
              (try simp only [Act.put, List.setIfInBounds_toArray, List.set_cons_zero, List.set_cons_succ])
              refine wpAnyH_take (i := 37) (oi := ?_) (v := ?_) ?hiy37 (by kernel_rfl) ?hfy37 ?hry37 ?hQy37 ?hyy37 (by assumption) ?resty37
              case hiy37 => (simp only [List.getElem?_toArray, List.getElem?_cons_zero, List.getElem?_cons_succ]; rfl)
              case hfy37 => kernel_rfl
              case hry37 => kernel_rfl
              case hyy37 => (refine Or.inl ⟨by rfl, ?_⟩; intro wS hSw; (try dsimp only at hSw); go_simp; (try with_reducible rfl))
              case hQy37 => exact fun _ _ _ h => h
              (try simp only [Act.put, List.setIfInBounds_toArray, List.set_cons_zero, List.set_cons_succ])
              refine wpAnyH_take (i := 38) (oi := ?_) (v := ?_) ?hiy38 (by kernel_rfl) ?hfy38 ?hry38 ?hQy38 ?hyy38 (by assumption) ?resty38
              case hiy38 => (simp only [List.getElem?_toArray, List.getElem?_cons_zero, List.getElem?_cons_succ]; rfl)
              case hfy38 => kernel_rfl
              case hry38 => kernel_rfl
              case hyy38 => (refine Or.inl ⟨by rfl, ?_⟩; intro wS hSw; (try dsimp only at hSw); go_simp; (try with_reducible rfl))
              case hQy38 => exact fun _ _ _ h => h
              (try simp only [Act.put, List.setIfInBounds_toArray, List.set_cons_zero, List.set_cons_succ])
              refine wpAnyH_take (i := 39) (oi := ?_) (v := ?_) ?hiy39 (by kernel_rfl) ?hfy39 ?hry39 ?hQy39 ?hyy39 (by assumption) ?resty39
              case hiy39 => (simp only [List.getElem?_toArray, List.getElem?_cons_zero, List.getElem?_cons_succ]; rfl)
              case hfy39 => kernel_rfl
              case hry39 => kernel_rfl
              case hyy39 => (refine Or.inl ⟨by rfl, ?_⟩; intro wS hSw; (try dsimp only at hSw); go_simp; (try with_reducible rfl))
              case hQy39 => exact fun _ _ _ h => h
              (try simp only [Act.put, List.setIfInBounds_toArray, List.set_cons_zero, List.set_cons_succ])
              refine wpAnyH_done (by kernel_rfl) ?_ _
              go_wp2
              all_goals first
                | exact ⟨⟨j + 1, by omega, by go_num, bel_step HBJ.out (Below.drew (Below.refl _ _))⟩, by simp [intOf]; omega⟩
                | (rename_i hbad; rw [hls2] at hbad; cases hbad)
          · have hje : j = n0 := by omega
            have hjl3 : ¬ (j : Int) < (n0 : Int) := by omega
            have HRA := Lib.hid (show Rep wr 3 (.agg #[.int .i64 4, .int .i64 0, .float .f64 0, .string ⟨#[]⟩, .slice qs ms ds]) (tableT 0 (setE 26 fK A)) from rep_keep HBJ.out _ _ _ HX7.out.2.2.2)
            have HCS := Lib.hid (cs_step HX7.out.1.1.1 HBJ.out)
            have HWB := Lib.hid (bel_step HX7.out.1.1.2.1 HBJ.out)
            have HGR := Lib.hid (show greatP 3 0 (tableT 0 (setE 26 fK A)) = false from decide_eq_false (Nat.not_lt.2 (Nat.le_trans HOK.out.2.2.2.2 (by decide))))
            have HCL := Lib.hid (fam_clean fam_K A)
            go_upto_region 34 with fail
            refine wp_region_held_drew (S := (fun z => z.cell? ⟨sb, 0, none⟩ = some (.int .i64 4) ∧ z.cell? ⟨sb, 1, none⟩ = some (.int .i64 0) ∧ z.cell? ⟨sb, 2, none⟩ = some (.float .f64 0) ∧ z.cell? ⟨sb, 3, none⟩ = some (.string ⟨#[]⟩) ∧ z.cell? ⟨sb, 4, none⟩ = some (.slice qs ms ds))) (by kernel_rfl) ?_ (fun hHeld => ?_)
            · exact cs_step HCS.out (Below.drew (Below.refl _ _))
            have HDW := Lib.hid (show Rep wr.drew 3 (.agg #[.int .i64 4, .int .i64 0, .float .f64 0, .string ⟨#[]⟩, .slice qs ms ds]) (tableT 0 (setE 26 fK A)) ∧ Below wr.heap.size wr wr.drew ∧ CS wr.drew sb (.int .i64 4) (.int .i64 0) (.float .f64 0) (.string ⟨#[]⟩) (.slice qs ms ds) from ⟨rep_keep (Below.drew (Below.refl _ _)) _ _ _ HRA.out, Below.drew (Below.refl _ _), cs_step HCS.out (Below.drew (Below.refl _ _))⟩)
            revert HDW hHeld
            generalize wr.drew = Wd
            intro hHeld HDW
            refine wpAnyH_take (i := 0) (oi := ?_) (v := ?_) ?hix0 (by kernel_rfl) ?hfx0 ?hrx0 ?hQx0 ?hyx0 (by assumption) ?restx0
            case hix0 => (simp only [List.getElem?_toArray, List.getElem?_cons_zero, List.getElem?_cons_succ]; rfl)
            case hfx0 => kernel_rfl
            case hrx0 => kernel_rfl
            case hyx0 => (refine Or.inl ⟨by rfl, ?_⟩; intro wS hSw; (try dsimp only at hSw); go_simp; (try with_reducible rfl))
            case hQx0 => exact fun _ _ _ h => h
            (try simp only [Act.put, List.setIfInBounds_toArray, List.set_cons_zero, List.set_cons_succ])
            refine wpAnyH_take (i := 2) (oi := ?_) (v := ?_) ?hix2 (by kernel_rfl) ?hfx2 ?hrx2 ?hQx2 ?hyx2 (by assumption) ?restx2
            case hix2 => (simp only [List.getElem?_toArray, List.getElem?_cons_zero, List.getElem?_cons_succ]; rfl)
            case hfx2 => kernel_rfl
            case hrx2 => kernel_rfl
            case hyx2 => (refine Or.inl ⟨by rfl, ?_⟩; intro wS hSw; (try dsimp only at hSw); go_simp; (try with_reducible rfl))
            case hQx2 => exact fun _ _ _ h => h
            (try simp only [Act.put, List.setIfInBounds_toArray, List.set_cons_zero, List.set_cons_succ])
            refine wpAnyH_ready (rs := [1]) (by kernel_rfl) (by simp) ?_
            refine AllReadyH.cons (o := ?_) ?hox1 ?hstx1 AllReadyH.nil
            case hox1 => (simp only [List.getElem?_toArray, List.getElem?_cons_zero, List.getElem?_cons_succ]; rfl)
            intro K hK
            go_simp
            go_at_call 21; refine (clean_anyP 3 0 _ _ _ HGR.out HDW.out.1).mono ?_; rintro e wC ⟨vC, rfl, hbC, hrC⟩; rw [HCL.out] at hrC; obtain ⟨Kc, Ic, Fc, Zc, qc, mc, dc, rfl, _⟩ := repS_shape hrC; have HC := Lib.hid (And.intro hbC hrC); clear hbC hrC
            go_wp2_with fail
            refine hK.out _ _ ?hsx1 (fun hHeld => ?_)
            case hsx1 => exact cs_step HDW.out.2.2 HC.out.1
            clear hK K
            (try simp only [Act.put, List.setIfInBounds_toArray, List.set_cons_zero, List.set_cons_succ])
            refine wpAnyH_ready (rs := [3]) (by kernel_rfl) (by simp) ?_
            refine AllReadyH.cons (o := ?_) ?hox3 ?hstx3 AllReadyH.nil
            case hox3 => (simp only [List.getElem?_toArray, List.getElem?_cons_zero, List.getElem?_cons_succ]; rfl)
            intro K hK
            go_simp
            go_at_call 14; refine (same_any 3 _ _ _ _ (repS_rep _ _ _ HC.out.2) (rep_keep HC.out.1 _ _ _ HDW.out.1)).mono ?_; rintro e wS ⟨rfl, hbS⟩
            go_wp2_with fail
            refine hK.out _ _ ?hsx3 (fun hHeld => ?_)
            case hsx3 => exact cs_step (cs_step HDW.out.2.2 HC.out.1) hbS
            clear hK K
            (try simp only [Act.put, List.setIfInBounds_toArray, List.set_cons_zero, List.set_cons_succ])
            refine wpAnyH_take (i := 4) (oi := ?_) (v := ?_) ?hix4 (by kernel_rfl) ?hfx4 ?hrx4 ?hQx4 ?hyx4 (by assumption) ?restx4
            case hix4 => (simp only [List.getElem?_toArray, List.getElem?_cons_zero, List.getElem?_cons_succ]; rfl)
            case hfx4 => kernel_rfl
            case hrx4 => kernel_rfl
            case hyx4 => (refine Or.inl ⟨by rfl, ?_⟩; intro wS hSw; (try dsimp only at hSw); go_simp; (try with_reducible rfl))
            case hQx4 => exact fun _ _ _ h => h
            (try simp only [Act.put, List.setIfInBounds_toArray, List.set_cons_zero, List.set_cons_succ])
            refine wpAnyH_done (by kernel_rfl) ?_ _
            go_wp2
            go_ret
            exact ⟨rfl, bel_step (bel_step (bel_step HWB.out HDW.out.2.1) HC.out.1) hbS⟩
end Num
end Go.Proofs.Ytamogpbbaihaaaa
