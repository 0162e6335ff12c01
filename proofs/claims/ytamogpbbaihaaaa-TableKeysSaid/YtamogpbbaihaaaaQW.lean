/-
  TableFull: what the law does.
-/
import Derived.Test.YtamogpbbaihaaaaQV
import Derived.Deep.RegionHeld3
import Derived.Deep.DeepCutAuto
namespace Go.Proofs.Ytamogpbbaihaaaa
open Go.RowKit
namespace Num
open Ints
set_option linter.unusedSimpArgs false
set_option linter.unusedVariables false
def nmF (c : Nat) : ByteArray := ⟨#[107, UInt8.ofNat (c + 1)]⟩
def fF (c : Nat) : ByteArray × VT 1 := intF (nmF c) c
theorem nmF_lt : ∀ j, j < 34 → ∀ i, i < j → ltB (nmF i) (nmF j) = true := by decide +kernel
theorem fam_F : Fam 32 fF := ⟨by decide, fun i j h1 h2 => nmF_lt j (by omega) i h1, fun i _ => (rfl : nmV 3 (nmF i) = true), fun i _ => small_int i⟩
theorem ofN1 {c : Nat} (h : c < 100) : ((UInt8.ofNat (c + 1)).toNat : Int) = (c : Int) + 1 := by
  rw [UInt8.toNat_ofNat']
  omega
def upF (i : Nat) : Nat → Bool := fun c => decide (c < i)
theorem upF_zero : setE 32 fF (upF 0) = [] := by
  unfold setE
  rw [List.filter_eq_nil_iff.2 (fun i _ => by simp [upF])]
  rfl
theorem upF_succ {i : Nat} (h : i < 32) : setE 32 fF (fun c => upF i c || c == i) = setE 32 fF (upF (i + 1)) := setE_congr (fun c hc => by
  unfold upF
  by_cases h1 : c < i
  · rw [decide_eq_true h1, decide_eq_true (show c < i + 1 by omega)]; rfl
  · by_cases h2 : c = i
    · subst h2; simp
    · rw [decide_eq_false h1, decide_eq_false (show ¬ c < i + 1 by omega)]; simp [h2])
theorem upF_all (i : Nat) (h : 32 ≤ i) : setE 32 fF (upF i) = setE 32 fF fun _ => true := setE_congr (fun c hc => by unfold upF; exact decide_eq_true (by omega))
/-- One more name. -/
theorem doF_new {i : Nat} (hi : i < 32) {s : Value} {g : Nat} {W : World} (hs : Rep W 3 s (tableT 0 (setE 32 fF (upF i)))) (hr : LV g (nmF i) 1 i 0 ⟨#[]⟩ W) :
    Calls Try.prog 12 #[s, .string { data := #[112, 117, 116] }, .slice (some ⟨g, 0, none⟩) 2 2] W fun e w' => DoQ W 3 1 (tableT 0 (setE 32 fF (upF (i + 1)))) (hadE fF (upF i) i) 0 e w' := by
  have h := put_fam fam_F (upF i) i hi hs hr
  rw [upF_succ hi] at h
  exact h
theorem doF_full {i : Nat} (h32 : 32 ≤ i) (hi : i < 34) {s : Value} {g : Nat} {W : World} (hs : Rep W 3 s (tableT 0 (setE 32 fF (upF i)))) (hr : LV g (nmF i) 1 i 0 ⟨#[]⟩ W) :
    Calls Try.prog 12 #[s, .string { data := #[112, 117, 116] }, .slice (some ⟨g, 0, none⟩) 2 2] W fun e w' => DoQ W 3 1 (nilT 2) (nilT 0) 33 e w' := by
  have hok := fam_ok fam_F (upF i)
  have e : setE 32 fF (upF i) = setE 32 fF (upF i) ++ ([] ++ []) := by simp
  rw [e] at hs hok
  refine tdo_full (n := 0) (M := []) (X := setE 32 fF (upF i)) (Y := []) (k := nmF i) (V := (1, i, 0, ⟨#[]⟩, [])) hs hr hok (fun e he => by obtain ⟨j, hj, _, rfl⟩ := set_mem he; exact nmF_lt i hi j (by omega)) (fun e he => absurd he List.not_mem_nil) (rfl : nmV 3 (nmF i) = true) (small_cln (small_int i)).1 ⟨(small_cln (small_int i)).2.1, (small_cln (small_int i)).2.2.1⟩ ?_
  rw [← e, upF_all i h32]
  unfold setE
  rw [List.filter_eq_self.2 (fun _ _ => rfl), List.length_map, List.length_range]
/-- Another value for a name that is there. -/
theorem put_new {N : Nat} {f : Nat → ByteArray × VT 1} (h : Fam N f) (A : Nat → Bool) (c : Nat) (hc : c < N) (ha : A c = true) {V : VT 1} (hV : SmallV V) {s : Value} {pl : Option Addr} {cl : Nat} {w : World} (hs : Rep w 3 s (tableT 0 (setE N f A))) (hr : RepL w (Rep w 1) pl 2 cl [nameV 0 (f c).1, V]) :
    Calls Try.prog 12 #[s, .string { data := #[112, 117, 116] }, .slice pl 2 cl] w fun e w' => DoQ w 3 1 (cleanT 3 (tableT 0 (preE f A c ++ (((f c).1, V) :: posE N f A c)))) (hadE f A c) 0 e w' := by
  have hok := fam_ok h A
  have hsp := set_split (f := f) (A := A) hc
  have hmid : midE f A c = [f c] := by unfold midE; rw [if_pos ha]
  have hnames : (preE f A c ++ (((f c).1, V) :: posE N f A c)).map (·.1) = (setE N f A).map (·.1) := by rw [hsp, hmid]; simp
  have hlen : (preE f A c ++ (((f c).1, V) :: posE N f A c)).length = (setE N f A).length := by rw [hsp, hmid]; simp
  have hok2 := ok_small (ES := preE f A c ++ (((f c).1, V) :: posE N f A c)) (by rw [hnames]; exact hok.1) (by rw [hlen]; exact hok.2.1) (fun e he => by
    rcases List.mem_append.1 he with h1 | h1
    · obtain ⟨i, hi, rfl⟩ := pre_mem h1; exact h.2.2.2 i (by omega)
    · rcases List.mem_cons.1 h1 with rfl | h1
      · exact hV
      · obtain ⟨i, hi, hiN, rfl⟩ := pos_mem h1; exact h.2.2.2 i hiN)
  rw [hsp] at hs hok
  obtain ⟨g1, g2, g3⟩ := had_cln h (A := A) hc
  have := tdo_put (n := 0) (X := preE f A c) (M := midE f A c) (Y := posE N f A c) (k := (f c).1) (V := V) hs hr hok (fun e he => by obtain ⟨i, hi, rfl⟩ := pre_mem he; exact h.2.1 i c hi hc) (fun e he => by obtain ⟨i, hi, hiN, rfl⟩ := pos_mem he; exact h.2.1 c i hi hiN) mid_M (h.2.2.1 c hc)
    (small_cln hV).1 ⟨(small_cln hV).2.1, (small_cln hV).2.2.1⟩ (fun hm => by rw [hmid] at hm; cases hm) hok2.2.2 (by rw [g1]; exact g2)
  rw [g1, g3] at this
  exact this
theorem small_txt {s : ByteArray} (h : s.size ≤ 37) : SmallV ((3, 0, 0, s, []) : VT 1) := by
  refine ⟨⟨3 + (s.size : Int), ?_, by omega, by omega⟩, partsT_else rfl, rfl⟩
  rw [measT_text rfl rfl rfl]
  have e1 : decide (256 < (s.size : Int)) = false := by rw [decide_eq_false_iff_not]; omega
  have e2 : wrap64 (3 + (s.size : Int)) = 3 + (s.size : Int) := by unfold wrap64; omega
  rw [e1, e2]
/-- What stands behind a put: the state's box, the answer's box. -/
def Put8 (w wr : World) (sb : Nat) (qs : Option Addr) (ms ds : Nat) (TT : VT 3) (UU : VT 1) (z : Int) (s8 s9 s10 : Value) (wx : World) : Prop := ∃ (gA gB : Nat) (Kt It : Int) (Ft : Nat) (Zt : ByteArray) (qt : Option Addr) (mt dt : Nat) (Kv Iv : Int) (Fv : Nat) (Zv : ByteArray) (qv : Option Addr) (mv dv : Nat), s8 = .pointer (some ⟨gA, 0, none⟩) ∧ s9 = .pointer (some ⟨gB, 0, none⟩) ∧ s10 = .int .i64 z ∧ CS wx gA (.int .i64 Kt) (.int .i64 It) (.float .f64 Ft) (.string Zt) (.slice qt mt dt) ∧ CS wx gB (.int .i64 Kv) (.int .i64 Iv) (.float .f64 Fv) (.string Zv) (.slice qv mv dv) ∧ FB w sb qs ms ds wx ∧ Below wr.heap.size wr wx ∧ RepS (fun b => wr.heap.size ≤ b ∧ b ≠ gA ∧ b ≠ gB) wx 3 (.agg #[.int .i64 Kt, .int .i64 It, .float .f64 Ft, .string Zt, .slice qt mt dt]) (TT) ∧ RepS (fun b => wr.heap.size ≤ b ∧ b ≠ gA ∧ b ≠ gB) wx 1 (.agg #[.int .i64 Kv, .int .i64 Iv, .float .f64 Fv, .string Zv, .slice qv mv dv]) (UU)
/-- What stands behind a put: the state's box, the answer's box. -/
def Put16 (w wr : World) (sb : Nat) (qs : Option Addr) (ms ds : Nat) (TT : VT 3) (UU : VT 1) (s12 s13 s14 : Value) (wx : World) : Prop := ∃ (gA gB : Nat) (Kt It : Int) (Ft : Nat) (Zt : ByteArray) (qt : Option Addr) (mt dt : Nat) (Kv Iv : Int) (Fv : Nat) (Zv : ByteArray) (qv : Option Addr) (mv dv : Nat), s12 = .pointer (some ⟨gA, 0, none⟩) ∧ s13 = .pointer (some ⟨gB, 0, none⟩) ∧ s14 = .int .i64 0 ∧ CS wx gA (.int .i64 Kt) (.int .i64 It) (.float .f64 Ft) (.string Zt) (.slice qt mt dt) ∧ CS wx gB (.int .i64 Kv) (.int .i64 Iv) (.float .f64 Fv) (.string Zv) (.slice qv mv dv) ∧ FB w sb qs ms ds wx ∧ Below wr.heap.size wr wx ∧ RepS (fun b => wr.heap.size ≤ b ∧ b ≠ gA ∧ b ≠ gB) wx 3 (.agg #[.int .i64 Kt, .int .i64 It, .float .f64 Ft, .string Zt, .slice qt mt dt]) (TT) ∧ RepS (fun b => wr.heap.size ≤ b ∧ b ≠ gA ∧ b ≠ gB) wx 1 (.agg #[.int .i64 Kv, .int .i64 Iv, .float .f64 Fv, .string Zv, .slice qv mv dv]) (UU)
set_option maxRecDepth 100000 in
set_option maxHeartbeats 4000000 in
theorem full_any (nn ag : Nat) (w : World) (hn : nn < 256) (ha : ag < 256) :
    Calls Try.prog 6 #[.int .u8 nn, .int .u8 ag] w fun e w' => e = .returned (.bool true) ∧ Below w.heap.size w w' := by
  obtain ⟨m, hm⟩ : ∃ m, nn % 5 = m := ⟨_, rfl⟩
  have hm5 : m < 5 := by omega
  have hrem : (nn : Int).tmod 5 = (m : Int) := by rw [← hm]; exact (Int.ofNat_tmod nn 5).symm
  clear hm
  have hm0 : (0 : Int) ≤ (m : Int) := by omega
  have hm1 : (m : Int) < 5 := by omega
  go_enter Try.func6, Try.ntmps6
  go_wp2_with (first
    | (go_at_call 8; refine (known10 _).mono ?_; rintro e w1 ⟨rfl, hb1⟩; have HB1 := Lib.hid hb1; clear hb1)
    | (go_at_call 18; refine (list_ref_any _ _ _ _).mono ?_; rintro e w2 ⟨rfl, hb2⟩; have HB2 := Lib.hid (bel_step HB1.out hb2); clear hb2))
  have HS := Lib.hid (show FB w w2.heap.size none 0 0 (w2.alloc (.cells #[.int .i64 4, .int .i64 0, .float .f64 0, .string ⟨#[]⟩, .slice none 0 0] 27)) from ⟨cs_new rfl, bel_alloc HB2.out _, fun o => row_frz (row_alloc w2 #[.int .i64 4, .int .i64 0, .float .f64 0, .string ⟨#[]⟩, .slice none 0 0] 27) o⟩)
  have h1 : w.heap.size ≤ w2.heap.size := HB2.out.size
  clear HB2 HB1
  revert HS h1
  generalize w2.alloc (.cells #[.int .i64 4, .int .i64 0, .float .f64 0, .string ⟨#[]⟩, .slice none 0 0] 27) = W
  generalize w2.heap.size = sb
  intro HS h1
  go_loopw [7] (fun iv wr => ∃ (i : Nat) (qs : Option Addr) (ms ds : Nat), i ≤ 30 + m ∧ iv = .int .i64 i ∧ FB w sb qs ms ds wr ∧ RepS (fun b => sb < b) wr 3 (.agg #[.int .i64 4, .int .i64 0, .float .f64 0, .string ⟨#[]⟩, .slice qs ms ds]) (tableT 0 (setE 32 fF (upF i)))) (fun iv _ => 30 + m - (intOf iv).toNat)
  case atStart => exact ⟨0, none, 0, 0, by omega, rfl, HS.out, by rw [upF_zero]; exact repS_nil3 _ _⟩
  case round =>
    obtain ⟨i, qs, ms, ds, hil, rfl, hfb, hst⟩ := hrel
    have HFB := Lib.hid hfb
    have HSTr := Lib.hid hst
    clear hfb hst HS
    by_cases hlt : i < 30 + m
    · have hi0 : (0 : Int) ≤ (i : Int) := by omega
      have hil2 : (i : Int) < 30 + (m : Int) := by omega
      have hi34 : (i : Int) < 34 := by omega
      have hw8 : IntKind.u8.wrap ((i : Int) + 1) = (i : Int) + 1 := by rw [IntKind.wrap_u8]; omega
      have hw64 : IntKind.i64.wrap ((i : Int) + 1) = (i : Int) + 1 := by rw [IntKind.wrap_i64]; omega
      obtain ⟨bi, hbi⟩ : ∃ b, UInt8.ofNat (i + 1) = b := ⟨_, rfl⟩
      have HBI := Lib.hid (show (bi.toNat : Int) = (i : Int) + 1 ∧ (⟨#[107, bi]⟩ : ByteArray) = nmF i from ⟨by rw [← hbi]; exact ofN1 (by omega), by rw [← hbi]; rfl⟩)
      clear hbi
      obtain ⟨z, TT, UU, hz, HDO⟩ : ∃ (z : Int) (TT : VT 3) (UU : VT 1), ((i < 32 ∧ z = 0 ∧ TT = tableT 0 (setE 32 fF (upF (i + 1)))) ∨ (32 ≤ i ∧ z = 33)) ∧ Hid (∀ (W : World) (g : Nat), Rep W 3 (.agg #[.int .i64 4, .int .i64 0, .float .f64 0, .string ⟨#[]⟩, .slice qs ms ds]) (tableT 0 (setE 32 fF (upF i))) → LV g (nmF i) 1 i 0 ⟨#[]⟩ W → Calls Try.prog 12 #[.agg #[.int .i64 4, .int .i64 0, .float .f64 0, .string ⟨#[]⟩, .slice qs ms ds], .string { data := #[112, 117, 116] }, .slice (some ⟨g, 0, none⟩) 2 2] W fun e w' => DoQ W 3 1 TT UU z e w') := by
        by_cases h32 : i < 32
        · exact ⟨0, _, _, Or.inl ⟨h32, rfl, rfl⟩, Lib.hid (fun W g hs hr => doF_new h32 hs hr)⟩
        · exact ⟨33, _, _, Or.inr ⟨by omega, rfl⟩, Lib.hid (fun W g hs hr => doF_full (by omega) (by omega) hs hr)⟩
      have HZ := Lib.hid hz
      clear hz
      go_upto_region 8 with fail
      go_cut [8, 9, 10] (fun s8 s9 s10 wx => Put8 w wr sb qs ms ds TT UU z s8 s9 s10 wx)
      case first =>
        have hsbr : sb < wr.heap.size := cs_lt HFB.out.1
        have hwr : w.heap.size ≤ wr.heap.size := HFB.out.2.1.size
        refine wp_region_held_drew (S := (fun z => z.cell? ⟨sb, 0, none⟩ = some (.int .i64 4) ∧ z.cell? ⟨sb, 1, none⟩ = some (.int .i64 0) ∧ z.cell? ⟨sb, 2, none⟩ = some (.float .f64 0) ∧ z.cell? ⟨sb, 3, none⟩ = some (.string ⟨#[]⟩) ∧ z.cell? ⟨sb, 4, none⟩ = some (.slice qs ms ds))) (by kernel_rfl) ?_ (fun hHeld => ?_)
        · exact (fb_drew HFB.out).1
        have HDW := Lib.hid (show FB w sb qs ms ds wr.drew ∧ Below wr.heap.size wr wr.drew from ⟨fb_drew HFB.out, Below.drew (Below.refl _ _)⟩)
        revert HDW hHeld
        generalize wr.drew = Wd
        intro hHeld HDW
        have hq := HDW.out.1
        have hbd := HDW.out.2
        refine wpAnyH_take (i := 0) (oi := ?_) (v := ?_) ?hit0 (by kernel_rfl) ?hft0 ?hrt0 ?hQt0 ?hyt0 (by assumption) ?restt0
        case hit0 => (simp only [List.getElem?_toArray, List.getElem?_cons_zero, List.getElem?_cons_succ]; rfl)
        case hft0 => kernel_rfl
        case hrt0 => kernel_rfl
        case hyt0 => (refine Or.inl ⟨by rfl, ?_⟩; intro wS hSw; (try dsimp only at hSw); go_simp; (try with_reducible rfl))
        case hQt0 => exact fun _ _ _ h => h
        (try simp only [Act.put, List.setIfInBounds_toArray, List.set_cons_zero, List.set_cons_succ])
        refine wpAnyH_take (i := 1) (oi := ?_) (v := ?_) ?hit1 (by kernel_rfl) ?hft1 ?hrt1 ?hQt1 ?hyt1 (by assumption) ?restt1
        case hit1 => (simp only [List.getElem?_toArray, List.getElem?_cons_zero, List.getElem?_cons_succ]; rfl)
        case hft1 => kernel_rfl
        case hrt1 => kernel_rfl
        case hyt1 => (refine Or.inl ⟨by rfl, ?_⟩; intro wS hSw; (try dsimp only at hSw); go_simp; (try with_reducible rfl))
        case hQt1 => exact fun _ _ _ h => h
        (try simp only [Act.put, List.setIfInBounds_toArray, List.set_cons_zero, List.set_cons_succ])
        refine wpAnyH_take (i := 2) (oi := ?_) (v := ?_) ?hit2 (by kernel_rfl) ?hft2 ?hrt2 ?hQt2 ?hyt2 (by assumption) ?restt2
        case hit2 => (simp only [List.getElem?_toArray, List.getElem?_cons_zero, List.getElem?_cons_succ]; rfl)
        case hft2 => kernel_rfl
        case hrt2 => kernel_rfl
        case hyt2 => (refine Or.inl ⟨by rfl, ?_⟩; intro wS hSw; (try dsimp only at hSw); go_simp; (try with_reducible rfl))
        case hQt2 => exact fun _ _ _ h => h
        (try simp only [Act.put, List.setIfInBounds_toArray, List.set_cons_zero, List.set_cons_succ])
        refine wpAnyH_take (i := 3) (oi := ?_) (v := ?_) ?hit3 (by kernel_rfl) ?hft3 ?hrt3 ?hQt3 ?hyt3 (by assumption) ?restt3
        case hit3 => (simp only [List.getElem?_toArray, List.getElem?_cons_zero, List.getElem?_cons_succ]; rfl)
        case hft3 => kernel_rfl
        case hrt3 => kernel_rfl
        case hyt3 => (refine Or.inl ⟨by rfl, ?_⟩; intro wS hSw; (try dsimp only at hSw); go_simp; (try with_reducible rfl))
        case hQt3 => exact fun _ _ _ h => h
        (try simp only [Act.put, List.setIfInBounds_toArray, List.set_cons_zero, List.set_cons_succ])
        refine wpAnyH_take (i := 7) (oi := ?_) (v := ?_) ?hit7 (by kernel_rfl) ?hft7 ?hrt7 ?hQt7 ?hyt7 (by assumption) ?restt7
        case hit7 => (simp only [List.getElem?_toArray, List.getElem?_cons_zero, List.getElem?_cons_succ]; rfl)
        case hft7 => kernel_rfl
        case hrt7 => kernel_rfl
        case hyt7 => (refine Or.inl ⟨by rfl, ?_⟩; intro wS hSw; (try dsimp only at hSw); go_simp; (try with_reducible rfl))
        case hQt7 => exact fun _ _ _ h => h
        (try simp only [Act.put, List.setIfInBounds_toArray, List.set_cons_zero, List.set_cons_succ])
        refine any_have 3 [15, 16, 4, 5, 6, 8, 9, 10, 11, 12, 13, 14] (fun a a' w' => ∃ (gA gB gC gE : Nat), ∃ (Kt It : Int) (Ft : Nat) (Zt : ByteArray) (qt : Option Addr) (mt dt : Nat) (Kv Iv : Int) (Fv : Nat) (Zv : ByteArray) (qv : Option Addr) (mv dv : Nat), a' = ((((((((((((a.put (some 8) (.pointer (some ⟨gA, 0, none⟩))).put (some 9) (.pointer (some ⟨gB, 0, none⟩))).put (some 32) (.slice (some ⟨gC, 0, none⟩) 2 2)).put (some 33) (.string ⟨#[107, bi]⟩)).put (some 34) (.agg #[.int .i64 3, .int .i64 0, .float .f64 0, .string ⟨#[107, bi]⟩, .slice none 0 0])).put (some 36) (.agg #[.int .i64 1, .int .i64 i, .float .f64 0, .string ⟨#[]⟩, .slice none 0 0])).put (some 37) (.slice (some ⟨gE, 0, none⟩) 2 2)).put (some 38) (.tuple #[.agg #[.int .i64 Kt, .int .i64 It, .float .f64 Ft, .string Zt, .slice qt mt dt], .agg #[.int .i64 Kv, .int .i64 Iv, .float .f64 Fv, .string Zv, .slice qv mv dv], .int .i64 z])).put (some 27) (.tuple #[.agg #[.int .i64 Kt, .int .i64 It, .float .f64 Ft, .string Zt, .slice qt mt dt], .agg #[.int .i64 Kv, .int .i64 Iv, .float .f64 Fv, .string Zv, .slice qv mv dv], .int .i64 z])).put (some 39) (.agg #[.int .i64 Kt, .int .i64 It, .float .f64 Ft, .string Zt, .slice qt mt dt])).put (some 40) (.agg #[.int .i64 Kv, .int .i64 Iv, .float .f64 Fv, .string Zv, .slice qv mv dv])).put (some 41) (.int .i64 z)) ∧ FB w sb qs ms ds w' ∧ Below wr.heap.size wr w' ∧ SBX w' gA (.int .i64 0) (.int .i64 0) (.float .f64 0) (.string ⟨#[]⟩) (.slice none 0 0) ∧ wr.heap.size ≤ gA ∧ SBX w' gB (.int .i64 0) (.int .i64 0) (.float .f64 0) (.string ⟨#[]⟩) (.slice none 0 0) ∧ wr.heap.size ≤ gB ∧ gA ≠ gB ∧ RepS (fun b => wr.heap.size ≤ b ∧ b ≠ gA ∧ b ≠ gB) w' 3 (.agg #[.int .i64 Kt, .int .i64 It, .float .f64 Ft, .string Zt, .slice qt mt dt]) (TT) ∧ RepS (fun b => wr.heap.size ≤ b ∧ b ≠ gA ∧ b ≠ gB) w' 1 (.agg #[.int .i64 Kv, .int .i64 Iv, .float .f64 Fv, .string Zv, .slice qv mv dv]) (UU)) ?phK116m (fun hK116 => ?_)
        case phK116m =>
          intro a' w' hst hHeld
          obtain ⟨gA, gB, gC, gE, Kt, It, Ft, Zt, qt, mt, dt, Kv, Iv, Fv, Zv, qv, mv, dv, rfl, hq, hbd, hsA, hgA, hsB, hgB, hne, ht, hv⟩ := hst
          (try simp only [Act.put, List.setIfInBounds_toArray, List.set_cons_zero, List.set_cons_succ])
          have hcA := hsA.1; have hcB := hsB.1
          refine wpAnyH_ready (rs := [17]) (by kernel_rfl) (by simp) ?_
          refine AllReadyH.cons (o := ?_) ?ho17hK116m ?hst17hK116m AllReadyH.nil
          case ho17hK116m => (simp only [List.getElem?_toArray, List.getElem?_cons_zero, List.getElem?_cons_succ]; rfl)
          intro K hK
          have bb0 := hsA.1.1; have bb1 := hsA.1.2.1; have bb2 := hsA.1.2.2.1; have bb3 := hsA.1.2.2.2.1; have bb4 := hsA.1.2.2.2.2; have bbf := hsA.2; have bbl := cell_lt bb0; go_simp
          have hqA : FB w sb qs ms ds (((((w'.setCell ⟨gA, 0, none⟩ (.int .i64 Kt)).setCell ⟨gA, 1, none⟩ (.int .i64 It)).setCell ⟨gA, 2, none⟩ (.float .f64 Ft)).setCell ⟨gA, 3, none⟩ (.string Zt)).setCell ⟨gA, 4, none⟩ (.slice qt mt dt)) := fb_set hq (by have h := hgA; omega) (by have h := hgA; omega)
          refine hK.out _ _ ?hs17hK116m (fun hHeld => ?_)
          case hs17hK116m => exact (hqA).1
          clear hK K bb0 bb1 bb2 bb3 bb4 bbf bbl
          (try simp only [Act.put, List.setIfInBounds_toArray, List.set_cons_zero, List.set_cons_succ])
          refine wpAnyH_ready (rs := [18]) (by kernel_rfl) (by simp) ?_
          refine AllReadyH.cons (o := ?_) ?ho18hK116m ?hst18hK116m AllReadyH.nil
          case ho18hK116m => (simp only [List.getElem?_toArray, List.getElem?_cons_zero, List.getElem?_cons_succ]; rfl)
          intro K hK
          have bb0 := hsB.1.1; have bb1 := hsB.1.2.1; have bb2 := hsB.1.2.2.1; have bb3 := hsB.1.2.2.2.1; have bb4 := hsB.1.2.2.2.2; have bbf := hsB.2; have bbl := cell_lt bb0; go_simp
          have hqB : FB w sb qs ms ds ((((((((((w'.setCell ⟨gA, 0, none⟩ (.int .i64 Kt)).setCell ⟨gA, 1, none⟩ (.int .i64 It)).setCell ⟨gA, 2, none⟩ (.float .f64 Ft)).setCell ⟨gA, 3, none⟩ (.string Zt)).setCell ⟨gA, 4, none⟩ (.slice qt mt dt)).setCell ⟨gB, 0, none⟩ (.int .i64 Kv)).setCell ⟨gB, 1, none⟩ (.int .i64 Iv)).setCell ⟨gB, 2, none⟩ (.float .f64 Fv)).setCell ⟨gB, 3, none⟩ (.string Zv)).setCell ⟨gB, 4, none⟩ (.slice qv mv dv)) := fb_set hqA (by have h := hgB; omega) (by have h := hgB; omega)
          refine hK.out _ _ ?hs18hK116m (fun hHeld => ?_)
          case hs18hK116m => exact (hqB).1
          clear hK K bb0 bb1 bb2 bb3 bb4 bbf bbl
          (try simp only [Act.put, List.setIfInBounds_toArray, List.set_cons_zero, List.set_cons_succ])
          refine wpAnyH_take (i := 19) (oi := ?_) (v := ?_) ?hihK116m19 (by kernel_rfl) ?hfhK116m19 ?hrhK116m19 ?hQhK116m19 ?hyhK116m19 (by assumption) ?resthK116m19
          case hihK116m19 => (simp only [List.getElem?_toArray, List.getElem?_cons_zero, List.getElem?_cons_succ]; rfl)
          case hfhK116m19 => kernel_rfl
          case hrhK116m19 => kernel_rfl
          case hyhK116m19 => (refine Or.inl ⟨by rfl, ?_⟩; intro wS hSw; (try dsimp only at hSw); go_simp; (try with_reducible rfl))
          case hQhK116m19 => exact fun _ _ _ h => h
          (try simp only [Act.put, List.setIfInBounds_toArray, List.set_cons_zero, List.set_cons_succ])
          refine wpAnyH_done (by kernel_rfl) ?_ _
          have HGF := Lib.hid (show CS ((((((((((w'.setCell ⟨gA, 0, none⟩ (.int .i64 Kt)).setCell ⟨gA, 1, none⟩ (.int .i64 It)).setCell ⟨gA, 2, none⟩ (.float .f64 Ft)).setCell ⟨gA, 3, none⟩ (.string Zt)).setCell ⟨gA, 4, none⟩ (.slice qt mt dt)).setCell ⟨gB, 0, none⟩ (.int .i64 Kv)).setCell ⟨gB, 1, none⟩ (.int .i64 Iv)).setCell ⟨gB, 2, none⟩ (.float .f64 Fv)).setCell ⟨gB, 3, none⟩ (.string Zv)).setCell ⟨gB, 4, none⟩ (.slice qv mv dv)) gA (.int .i64 Kt) (.int .i64 It) (.float .f64 Ft) (.string Zt) (.slice qt mt dt) ∧ CS ((((((((((w'.setCell ⟨gA, 0, none⟩ (.int .i64 Kt)).setCell ⟨gA, 1, none⟩ (.int .i64 It)).setCell ⟨gA, 2, none⟩ (.float .f64 Ft)).setCell ⟨gA, 3, none⟩ (.string Zt)).setCell ⟨gA, 4, none⟩ (.slice qt mt dt)).setCell ⟨gB, 0, none⟩ (.int .i64 Kv)).setCell ⟨gB, 1, none⟩ (.int .i64 Iv)).setCell ⟨gB, 2, none⟩ (.float .f64 Fv)).setCell ⟨gB, 3, none⟩ (.string Zv)).setCell ⟨gB, 4, none⟩ (.slice qv mv dv)) gB (.int .i64 Kv) (.int .i64 Iv) (.float .f64 Fv) (.string Zv) (.slice qv mv dv) ∧ FB w sb qs ms ds ((((((((((w'.setCell ⟨gA, 0, none⟩ (.int .i64 Kt)).setCell ⟨gA, 1, none⟩ (.int .i64 It)).setCell ⟨gA, 2, none⟩ (.float .f64 Ft)).setCell ⟨gA, 3, none⟩ (.string Zt)).setCell ⟨gA, 4, none⟩ (.slice qt mt dt)).setCell ⟨gB, 0, none⟩ (.int .i64 Kv)).setCell ⟨gB, 1, none⟩ (.int .i64 Iv)).setCell ⟨gB, 2, none⟩ (.float .f64 Fv)).setCell ⟨gB, 3, none⟩ (.string Zv)).setCell ⟨gB, 4, none⟩ (.slice qv mv dv)) ∧ Below wr.heap.size wr ((((((((((w'.setCell ⟨gA, 0, none⟩ (.int .i64 Kt)).setCell ⟨gA, 1, none⟩ (.int .i64 It)).setCell ⟨gA, 2, none⟩ (.float .f64 Ft)).setCell ⟨gA, 3, none⟩ (.string Zt)).setCell ⟨gA, 4, none⟩ (.slice qt mt dt)).setCell ⟨gB, 0, none⟩ (.int .i64 Kv)).setCell ⟨gB, 1, none⟩ (.int .i64 Iv)).setCell ⟨gB, 2, none⟩ (.float .f64 Fv)).setCell ⟨gB, 3, none⟩ (.string Zv)).setCell ⟨gB, 4, none⟩ (.slice qv mv dv)) ∧ RepS (fun b => wr.heap.size ≤ b ∧ b ≠ gA ∧ b ≠ gB) ((((((((((w'.setCell ⟨gA, 0, none⟩ (.int .i64 Kt)).setCell ⟨gA, 1, none⟩ (.int .i64 It)).setCell ⟨gA, 2, none⟩ (.float .f64 Ft)).setCell ⟨gA, 3, none⟩ (.string Zt)).setCell ⟨gA, 4, none⟩ (.slice qt mt dt)).setCell ⟨gB, 0, none⟩ (.int .i64 Kv)).setCell ⟨gB, 1, none⟩ (.int .i64 Iv)).setCell ⟨gB, 2, none⟩ (.float .f64 Fv)).setCell ⟨gB, 3, none⟩ (.string Zv)).setCell ⟨gB, 4, none⟩ (.slice qv mv dv)) 3 (.agg #[.int .i64 Kt, .int .i64 It, .float .f64 Ft, .string Zt, .slice qt mt dt]) (TT) ∧ RepS (fun b => wr.heap.size ≤ b ∧ b ≠ gA ∧ b ≠ gB) ((((((((((w'.setCell ⟨gA, 0, none⟩ (.int .i64 Kt)).setCell ⟨gA, 1, none⟩ (.int .i64 It)).setCell ⟨gA, 2, none⟩ (.float .f64 Ft)).setCell ⟨gA, 3, none⟩ (.string Zt)).setCell ⟨gA, 4, none⟩ (.slice qt mt dt)).setCell ⟨gB, 0, none⟩ (.int .i64 Kv)).setCell ⟨gB, 1, none⟩ (.int .i64 Iv)).setCell ⟨gB, 2, none⟩ (.float .f64 Fv)).setCell ⟨gB, 3, none⟩ (.string Zv)).setCell ⟨gB, 4, none⟩ (.slice qv mv dv)) 1 (.agg #[.int .i64 Kv, .int .i64 Iv, .float .f64 Fv, .string Zv, .slice qv mv dv]) (UU) from ⟨cs_other (cs_set5 hsA.1) hne, cs_set5 (cs_other hsB.1 hne.symm), hqB, bel_set5 (bel_set5 hbd hgA) hgB, repS_set (repS_set ht (fun b hb => hb.2.1)) (fun b hb => hb.2.2), repS_set (repS_set hv (fun b hb => hb.2.1)) (fun b hb => hb.2.2)⟩)
          clear hq hqA hqB hbd hsA hsB hcA hcB ht hv hHeld
          revert HGF
          generalize ((((((((((w'.setCell ⟨gA, 0, none⟩ (.int .i64 Kt)).setCell ⟨gA, 1, none⟩ (.int .i64 It)).setCell ⟨gA, 2, none⟩ (.float .f64 Ft)).setCell ⟨gA, 3, none⟩ (.string Zt)).setCell ⟨gA, 4, none⟩ (.slice qt mt dt)).setCell ⟨gB, 0, none⟩ (.int .i64 Kv)).setCell ⟨gB, 1, none⟩ (.int .i64 Iv)).setCell ⟨gB, 2, none⟩ (.float .f64 Fv)).setCell ⟨gB, 3, none⟩ (.string Zv)).setCell ⟨gB, 4, none⟩ (.slice qv mv dv)) = Wg
          intro HGF
          go_wp2_with fail
          go_meet
          exact ⟨_, _, Kt, It, Ft, Zt, qt, mt, dt, Kv, Iv, Fv, Zv, qv, mv, dv, rfl, rfl, rfl, HGF.out⟩
        refine any_have 4 [15, 4, 5, 6, 8, 9, 10, 11, 12, 13, 14] (fun a a' w' => ∃ (gA gC gE : Nat), ∃ (Kt It : Int) (Ft : Nat) (Zt : ByteArray) (qt : Option Addr) (mt dt : Nat) (Kv Iv : Int) (Fv : Nat) (Zv : ByteArray) (qv : Option Addr) (mv dv : Nat), a' = (((((((((((a.put (some 8) (.pointer (some ⟨gA, 0, none⟩))).put (some 32) (.slice (some ⟨gC, 0, none⟩) 2 2)).put (some 33) (.string ⟨#[107, bi]⟩)).put (some 34) (.agg #[.int .i64 3, .int .i64 0, .float .f64 0, .string ⟨#[107, bi]⟩, .slice none 0 0])).put (some 36) (.agg #[.int .i64 1, .int .i64 i, .float .f64 0, .string ⟨#[]⟩, .slice none 0 0])).put (some 37) (.slice (some ⟨gE, 0, none⟩) 2 2)).put (some 38) (.tuple #[.agg #[.int .i64 Kt, .int .i64 It, .float .f64 Ft, .string Zt, .slice qt mt dt], .agg #[.int .i64 Kv, .int .i64 Iv, .float .f64 Fv, .string Zv, .slice qv mv dv], .int .i64 z])).put (some 27) (.tuple #[.agg #[.int .i64 Kt, .int .i64 It, .float .f64 Ft, .string Zt, .slice qt mt dt], .agg #[.int .i64 Kv, .int .i64 Iv, .float .f64 Fv, .string Zv, .slice qv mv dv], .int .i64 z])).put (some 39) (.agg #[.int .i64 Kt, .int .i64 It, .float .f64 Ft, .string Zt, .slice qt mt dt])).put (some 40) (.agg #[.int .i64 Kv, .int .i64 Iv, .float .f64 Fv, .string Zv, .slice qv mv dv])).put (some 41) (.int .i64 z)) ∧ FB w sb qs ms ds w' ∧ Below wr.heap.size wr w' ∧ SBX w' gA (.int .i64 0) (.int .i64 0) (.float .f64 0) (.string ⟨#[]⟩) (.slice none 0 0) ∧ wr.heap.size ≤ gA ∧ RepS (fun b => wr.heap.size ≤ b ∧ b ≠ gA) w' 3 (.agg #[.int .i64 Kt, .int .i64 It, .float .f64 Ft, .string Zt, .slice qt mt dt]) (TT) ∧ RepS (fun b => wr.heap.size ≤ b ∧ b ≠ gA) w' 1 (.agg #[.int .i64 Kv, .int .i64 Iv, .float .f64 Fv, .string Zv, .slice qv mv dv]) (UU)) ?phK106m (fun hK106 => ?_)
        case phK106m =>
          intro a' w' hst hHeld
          obtain ⟨gA, gC, gE, Kt, It, Ft, Zt, qt, mt, dt, Kv, Iv, Fv, Zv, qv, mv, dv, rfl, hq, hbd, hsA, hgA, ht, hv⟩ := hst
          (try simp only [Act.put, List.setIfInBounds_toArray, List.set_cons_zero, List.set_cons_succ])
          refine wpAnyH_ready (rs := [16]) (by kernel_rfl) (by simp) ?_
          refine AllReadyH.cons (o := ?_) ?hoBhK106m ?hstBhK106m AllReadyH.nil
          case hoBhK106m => (simp only [List.getElem?_toArray, List.getElem?_cons_zero, List.getElem?_cons_succ]; rfl)
          case hstBhK106m =>
            intro K hK
            go_simp
            refine hK.out _ _ ?hsBhK106m (fun hHeld => ?_)
            case hsBhK106m => exact ((fb_step hq (bel_alloc (Below.refl _ _) (.cells #[.int .i64 0, .int .i64 0, .float .f64 0, .string ⟨#[]⟩, .slice none 0 0] 27)))).1
            clear hK K
            (try simp only [Act.put, List.setIfInBounds_toArray, List.set_cons_zero, List.set_cons_succ])
            exact any_eq (by kernel_rfl) (by kernel_rfl) (hK116 _ _ ⟨gA, _, gC, gE, Kt, It, Ft, Zt, qt, mt, dt, Kv, Iv, Fv, Zv, qv, mv, dv, rfl, (fb_step hq (bel_alloc (Below.refl _ _) (.cells #[.int .i64 0, .int .i64 0, .float .f64 0, .string ⟨#[]⟩, .slice none 0 0] 27))), (bel_step hbd (bel_alloc (Below.refl _ _) (.cells #[.int .i64 0, .int .i64 0, .float .f64 0, .string ⟨#[]⟩, .slice none 0 0] 27))), (sbx_step hsA (bel_alloc (Below.refl _ _) (.cells #[.int .i64 0, .int .i64 0, .float .f64 0, .string ⟨#[]⟩, .slice none 0 0] 27))), hgA, ⟨cs_new rfl, fun o => row_frz (row_alloc _ _ _) o⟩, hbd.size, (by have h := cs_lt hsA.1; omega), (repS_step (bel_alloc (Below.refl _ _) (.cells #[.int .i64 0, .int .i64 0, .float .f64 0, .string ⟨#[]⟩, .slice none 0 0] 27)) (repS_mono (fun b hb => ⟨hb.1.1, hb.1.2, Nat.ne_of_lt hb.2⟩) _ _ _ (repS_lt _ _ _ ht))), (repS_step (bel_alloc (Below.refl _ _) (.cells #[.int .i64 0, .int .i64 0, .float .f64 0, .string ⟨#[]⟩, .slice none 0 0] 27)) (repS_mono (fun b hb => ⟨hb.1.1, hb.1.2, Nat.ne_of_lt hb.2⟩) _ _ _ (repS_lt _ _ _ hv)))⟩ hHeld)
        refine any_have 4 [16, 4, 5, 6, 8, 9, 10, 11, 12, 13, 14] (fun a a' w' => ∃ (gB gC gE : Nat), ∃ (Kt It : Int) (Ft : Nat) (Zt : ByteArray) (qt : Option Addr) (mt dt : Nat) (Kv Iv : Int) (Fv : Nat) (Zv : ByteArray) (qv : Option Addr) (mv dv : Nat), a' = (((((((((((a.put (some 9) (.pointer (some ⟨gB, 0, none⟩))).put (some 32) (.slice (some ⟨gC, 0, none⟩) 2 2)).put (some 33) (.string ⟨#[107, bi]⟩)).put (some 34) (.agg #[.int .i64 3, .int .i64 0, .float .f64 0, .string ⟨#[107, bi]⟩, .slice none 0 0])).put (some 36) (.agg #[.int .i64 1, .int .i64 i, .float .f64 0, .string ⟨#[]⟩, .slice none 0 0])).put (some 37) (.slice (some ⟨gE, 0, none⟩) 2 2)).put (some 38) (.tuple #[.agg #[.int .i64 Kt, .int .i64 It, .float .f64 Ft, .string Zt, .slice qt mt dt], .agg #[.int .i64 Kv, .int .i64 Iv, .float .f64 Fv, .string Zv, .slice qv mv dv], .int .i64 z])).put (some 27) (.tuple #[.agg #[.int .i64 Kt, .int .i64 It, .float .f64 Ft, .string Zt, .slice qt mt dt], .agg #[.int .i64 Kv, .int .i64 Iv, .float .f64 Fv, .string Zv, .slice qv mv dv], .int .i64 z])).put (some 39) (.agg #[.int .i64 Kt, .int .i64 It, .float .f64 Ft, .string Zt, .slice qt mt dt])).put (some 40) (.agg #[.int .i64 Kv, .int .i64 Iv, .float .f64 Fv, .string Zv, .slice qv mv dv])).put (some 41) (.int .i64 z)) ∧ FB w sb qs ms ds w' ∧ Below wr.heap.size wr w' ∧ SBX w' gB (.int .i64 0) (.int .i64 0) (.float .f64 0) (.string ⟨#[]⟩) (.slice none 0 0) ∧ wr.heap.size ≤ gB ∧ RepS (fun b => wr.heap.size ≤ b ∧ b ≠ gB) w' 3 (.agg #[.int .i64 Kt, .int .i64 It, .float .f64 Ft, .string Zt, .slice qt mt dt]) (TT) ∧ RepS (fun b => wr.heap.size ≤ b ∧ b ≠ gB) w' 1 (.agg #[.int .i64 Kv, .int .i64 Iv, .float .f64 Fv, .string Zv, .slice qv mv dv]) (UU)) ?phK016m (fun hK016 => ?_)
        case phK016m =>
          intro a' w' hst hHeld
          obtain ⟨gB, gC, gE, Kt, It, Ft, Zt, qt, mt, dt, Kv, Iv, Fv, Zv, qv, mv, dv, rfl, hq, hbd, hsB, hgB, ht, hv⟩ := hst
          (try simp only [Act.put, List.setIfInBounds_toArray, List.set_cons_zero, List.set_cons_succ])
          refine wpAnyH_ready (rs := [15]) (by kernel_rfl) (by simp) ?_
          refine AllReadyH.cons (o := ?_) ?hoAhK016m ?hstAhK016m AllReadyH.nil
          case hoAhK016m => (simp only [List.getElem?_toArray, List.getElem?_cons_zero, List.getElem?_cons_succ]; rfl)
          case hstAhK016m =>
            intro K hK
            go_simp
            refine hK.out _ _ ?hsAhK016m (fun hHeld => ?_)
            case hsAhK016m => exact ((fb_step hq (bel_alloc (Below.refl _ _) (.cells #[.int .i64 0, .int .i64 0, .float .f64 0, .string ⟨#[]⟩, .slice none 0 0] 27)))).1
            clear hK K
            (try simp only [Act.put, List.setIfInBounds_toArray, List.set_cons_zero, List.set_cons_succ])
            exact any_eq (by kernel_rfl) (by kernel_rfl) (hK116 _ _ ⟨_, gB, gC, gE, Kt, It, Ft, Zt, qt, mt, dt, Kv, Iv, Fv, Zv, qv, mv, dv, rfl, (fb_step hq (bel_alloc (Below.refl _ _) (.cells #[.int .i64 0, .int .i64 0, .float .f64 0, .string ⟨#[]⟩, .slice none 0 0] 27))), (bel_step hbd (bel_alloc (Below.refl _ _) (.cells #[.int .i64 0, .int .i64 0, .float .f64 0, .string ⟨#[]⟩, .slice none 0 0] 27))), ⟨cs_new rfl, fun o => row_frz (row_alloc _ _ _) o⟩, hbd.size, (sbx_step hsB (bel_alloc (Below.refl _ _) (.cells #[.int .i64 0, .int .i64 0, .float .f64 0, .string ⟨#[]⟩, .slice none 0 0] 27))), hgB, (by have h := cs_lt hsB.1; omega), (repS_step (bel_alloc (Below.refl _ _) (.cells #[.int .i64 0, .int .i64 0, .float .f64 0, .string ⟨#[]⟩, .slice none 0 0] 27)) (repS_mono (fun b hb => ⟨hb.1.1, Nat.ne_of_lt hb.2, hb.1.2⟩) _ _ _ (repS_lt _ _ _ ht))), (repS_step (bel_alloc (Below.refl _ _) (.cells #[.int .i64 0, .int .i64 0, .float .f64 0, .string ⟨#[]⟩, .slice none 0 0] 27)) (repS_mono (fun b hb => ⟨hb.1.1, Nat.ne_of_lt hb.2, hb.1.2⟩) _ _ _ (repS_lt _ _ _ hv)))⟩ hHeld)
        refine any_have 5 [4, 5, 6, 8, 9, 10, 11, 12, 13, 14] (fun a a' w' => ∃ (gC gE : Nat), ∃ (Kt It : Int) (Ft : Nat) (Zt : ByteArray) (qt : Option Addr) (mt dt : Nat) (Kv Iv : Int) (Fv : Nat) (Zv : ByteArray) (qv : Option Addr) (mv dv : Nat), a' = ((((((((((a.put (some 32) (.slice (some ⟨gC, 0, none⟩) 2 2)).put (some 33) (.string ⟨#[107, bi]⟩)).put (some 34) (.agg #[.int .i64 3, .int .i64 0, .float .f64 0, .string ⟨#[107, bi]⟩, .slice none 0 0])).put (some 36) (.agg #[.int .i64 1, .int .i64 i, .float .f64 0, .string ⟨#[]⟩, .slice none 0 0])).put (some 37) (.slice (some ⟨gE, 0, none⟩) 2 2)).put (some 38) (.tuple #[.agg #[.int .i64 Kt, .int .i64 It, .float .f64 Ft, .string Zt, .slice qt mt dt], .agg #[.int .i64 Kv, .int .i64 Iv, .float .f64 Fv, .string Zv, .slice qv mv dv], .int .i64 z])).put (some 27) (.tuple #[.agg #[.int .i64 Kt, .int .i64 It, .float .f64 Ft, .string Zt, .slice qt mt dt], .agg #[.int .i64 Kv, .int .i64 Iv, .float .f64 Fv, .string Zv, .slice qv mv dv], .int .i64 z])).put (some 39) (.agg #[.int .i64 Kt, .int .i64 It, .float .f64 Ft, .string Zt, .slice qt mt dt])).put (some 40) (.agg #[.int .i64 Kv, .int .i64 Iv, .float .f64 Fv, .string Zv, .slice qv mv dv])).put (some 41) (.int .i64 z)) ∧ FB w sb qs ms ds w' ∧ Below wr.heap.size wr w' ∧ RepS (fun b => wr.heap.size ≤ b) w' 3 (.agg #[.int .i64 Kt, .int .i64 It, .float .f64 Ft, .string Zt, .slice qt mt dt]) (TT) ∧ RepS (fun b => wr.heap.size ≤ b) w' 1 (.agg #[.int .i64 Kv, .int .i64 Iv, .float .f64 Fv, .string Zv, .slice qv mv dv]) (UU)) ?phK006m (fun hK006 => ?_)
        case phK006m =>
          intro a' w' hst hHeld
          obtain ⟨gC, gE, Kt, It, Ft, Zt, qt, mt, dt, Kv, Iv, Fv, Zv, qv, mv, dv, rfl, hq, hbd, ht, hv⟩ := hst
          (try simp only [Act.put, List.setIfInBounds_toArray, List.set_cons_zero, List.set_cons_succ])
          refine wpAnyH_ready (rs := [15, 16]) (by kernel_rfl) (by simp) ?_
          refine AllReadyH.cons (o := ?_) ?hoAhK006m ?hstAhK006m (AllReadyH.cons (o := ?_) ?hoBhK006m ?hstBhK006m AllReadyH.nil)
          case hoAhK006m => (simp only [List.getElem?_toArray, List.getElem?_cons_zero, List.getElem?_cons_succ]; rfl)
          case hoBhK006m => (simp only [List.getElem?_toArray, List.getElem?_cons_zero, List.getElem?_cons_succ]; rfl)
          case hstAhK006m =>
            intro K hK
            go_simp
            refine hK.out _ _ ?hsAhK006m (fun hHeld => ?_)
            case hsAhK006m => exact ((fb_step hq (bel_alloc (Below.refl _ _) (.cells #[.int .i64 0, .int .i64 0, .float .f64 0, .string ⟨#[]⟩, .slice none 0 0] 27)))).1
            clear hK K
            (try simp only [Act.put, List.setIfInBounds_toArray, List.set_cons_zero, List.set_cons_succ])
            exact any_eq (by kernel_rfl) (by kernel_rfl) (hK106 _ _ ⟨_, gC, gE, Kt, It, Ft, Zt, qt, mt, dt, Kv, Iv, Fv, Zv, qv, mv, dv, rfl, (fb_step hq (bel_alloc (Below.refl _ _) (.cells #[.int .i64 0, .int .i64 0, .float .f64 0, .string ⟨#[]⟩, .slice none 0 0] 27))), (bel_step hbd (bel_alloc (Below.refl _ _) (.cells #[.int .i64 0, .int .i64 0, .float .f64 0, .string ⟨#[]⟩, .slice none 0 0] 27))), ⟨cs_new rfl, fun o => row_frz (row_alloc _ _ _) o⟩, hbd.size, (repS_step (bel_alloc (Below.refl _ _) (.cells #[.int .i64 0, .int .i64 0, .float .f64 0, .string ⟨#[]⟩, .slice none 0 0] 27)) (repS_mono (fun b hb => ⟨hb.1, Nat.ne_of_lt hb.2⟩) _ _ _ (repS_lt _ _ _ ht))), (repS_step (bel_alloc (Below.refl _ _) (.cells #[.int .i64 0, .int .i64 0, .float .f64 0, .string ⟨#[]⟩, .slice none 0 0] 27)) (repS_mono (fun b hb => ⟨hb.1, Nat.ne_of_lt hb.2⟩) _ _ _ (repS_lt _ _ _ hv)))⟩ hHeld)
          case hstBhK006m =>
            intro K hK
            go_simp
            refine hK.out _ _ ?hsBhK006m (fun hHeld => ?_)
            case hsBhK006m => exact ((fb_step hq (bel_alloc (Below.refl _ _) (.cells #[.int .i64 0, .int .i64 0, .float .f64 0, .string ⟨#[]⟩, .slice none 0 0] 27)))).1
            clear hK K
            (try simp only [Act.put, List.setIfInBounds_toArray, List.set_cons_zero, List.set_cons_succ])
            exact any_eq (by kernel_rfl) (by kernel_rfl) (hK016 _ _ ⟨_, gC, gE, Kt, It, Ft, Zt, qt, mt, dt, Kv, Iv, Fv, Zv, qv, mv, dv, rfl, (fb_step hq (bel_alloc (Below.refl _ _) (.cells #[.int .i64 0, .int .i64 0, .float .f64 0, .string ⟨#[]⟩, .slice none 0 0] 27))), (bel_step hbd (bel_alloc (Below.refl _ _) (.cells #[.int .i64 0, .int .i64 0, .float .f64 0, .string ⟨#[]⟩, .slice none 0 0] 27))), ⟨cs_new rfl, fun o => row_frz (row_alloc _ _ _) o⟩, hbd.size, (repS_step (bel_alloc (Below.refl _ _) (.cells #[.int .i64 0, .int .i64 0, .float .f64 0, .string ⟨#[]⟩, .slice none 0 0] 27)) (repS_mono (fun b hb => ⟨hb.1, Nat.ne_of_lt hb.2⟩) _ _ _ (repS_lt _ _ _ ht))), (repS_step (bel_alloc (Below.refl _ _) (.cells #[.int .i64 0, .int .i64 0, .float .f64 0, .string ⟨#[]⟩, .slice none 0 0] 27)) (repS_mono (fun b hb => ⟨hb.1, Nat.ne_of_lt hb.2⟩) _ _ _ (repS_lt _ _ _ hv)))⟩ hHeld)
        refine any_have 8 [15, 16, 4, 5, 6, 8, 9] (fun a a' w' => ∃ (gA gB gC gE : Nat), a' = (((((((a.put (some 8) (.pointer (some ⟨gA, 0, none⟩))).put (some 9) (.pointer (some ⟨gB, 0, none⟩))).put (some 32) (.slice (some ⟨gC, 0, none⟩) 2 2)).put (some 33) (.string ⟨#[107, bi]⟩)).put (some 34) (.agg #[.int .i64 3, .int .i64 0, .float .f64 0, .string ⟨#[107, bi]⟩, .slice none 0 0])).put (some 36) (.agg #[.int .i64 1, .int .i64 i, .float .f64 0, .string ⟨#[]⟩, .slice none 0 0])).put (some 37) (.slice (some ⟨gE, 0, none⟩) 2 2)) ∧ FB w sb qs ms ds w' ∧ Below wr.heap.size wr w' ∧ SBX w' gA (.int .i64 0) (.int .i64 0) (.float .f64 0) (.string ⟨#[]⟩) (.slice none 0 0) ∧ wr.heap.size ≤ gA ∧ SBX w' gB (.int .i64 0) (.int .i64 0) (.float .f64 0) (.string ⟨#[]⟩) (.slice none 0 0) ∧ wr.heap.size ≤ gB ∧ gA ≠ gB ∧ LV gE (nmF i) 1 i 0 ⟨#[]⟩ w') ?phK115m (fun hK115 => ?_)
        case phK115m =>
          intro a' w' hst hHeld
          obtain ⟨gA, gB, gC, gE, rfl, hq, hbd, hsA, hgA, hsB, hgB, hne, hlv⟩ := hst
          (try simp only [Act.put, List.setIfInBounds_toArray, List.set_cons_zero, List.set_cons_succ])
          refine wpAnyH_ready (rs := [10]) (by kernel_rfl) (by simp) ?_
          refine AllReadyH.cons (o := ?_) ?hoXhK115m ?hstXhK115m AllReadyH.nil
          case hoXhK115m => (simp only [List.getElem?_toArray, List.getElem?_cons_zero, List.getElem?_cons_succ]; rfl)
          case hstXhK115m =>
            intro K hK
            go_simp
            have hrp := repS_rep _ _ _ (repS_step hbd HSTr.out); go_at_call 12; refine (HDO.out _ _ hrp hlv).mono ?_; rintro e wD ⟨tt, vv, rfl, hbT, ht, hv⟩; obtain ⟨Kt, It, Ft, Zt, qt, mt, dt, rfl, _⟩ := repS_shape ht; obtain ⟨Kv, Iv, Fv, Zv, qv, mv, dv, rfl, _⟩ := repS_shape hv
            go_wp2_with fail
            refine hK.out _ _ ?hsXhK115m (fun hHeld => ?_)
            case hsXhK115m => exact ((fb_step hq hbT)).1
            clear hK K
            (try simp only [Act.put, List.setIfInBounds_toArray, List.set_cons_zero, List.set_cons_succ])
            refine wpAnyH_take (i := 11) (oi := ?_) (v := ?_) ?hiXhK115m11 (by kernel_rfl) ?hfXhK115m11 ?hrXhK115m11 ?hQXhK115m11 ?hyXhK115m11 (by assumption) ?restXhK115m11
            case hiXhK115m11 => (simp only [List.getElem?_toArray, List.getElem?_cons_zero, List.getElem?_cons_succ]; rfl)
            case hfXhK115m11 => kernel_rfl
            case hrXhK115m11 => kernel_rfl
            case hyXhK115m11 => (refine Or.inl ⟨by rfl, ?_⟩; intro wS hSw; (try dsimp only at hSw); go_simp; (try with_reducible rfl))
            case hQXhK115m11 => exact fun _ _ _ h => h
            (try simp only [Act.put, List.setIfInBounds_toArray, List.set_cons_zero, List.set_cons_succ])
            refine wpAnyH_take (i := 12) (oi := ?_) (v := ?_) ?hiXhK115m12 (by kernel_rfl) ?hfXhK115m12 ?hrXhK115m12 ?hQXhK115m12 ?hyXhK115m12 (by assumption) ?restXhK115m12
            case hiXhK115m12 => (simp only [List.getElem?_toArray, List.getElem?_cons_zero, List.getElem?_cons_succ]; rfl)
            case hfXhK115m12 => kernel_rfl
            case hrXhK115m12 => kernel_rfl
            case hyXhK115m12 => (refine Or.inl ⟨by rfl, ?_⟩; intro wS hSw; (try dsimp only at hSw); go_simp; (try with_reducible rfl))
            case hQXhK115m12 => exact fun _ _ _ h => h
            (try simp only [Act.put, List.setIfInBounds_toArray, List.set_cons_zero, List.set_cons_succ])
            refine wpAnyH_take (i := 13) (oi := ?_) (v := ?_) ?hiXhK115m13 (by kernel_rfl) ?hfXhK115m13 ?hrXhK115m13 ?hQXhK115m13 ?hyXhK115m13 (by assumption) ?restXhK115m13
            case hiXhK115m13 => (simp only [List.getElem?_toArray, List.getElem?_cons_zero, List.getElem?_cons_succ]; rfl)
            case hfXhK115m13 => kernel_rfl
            case hrXhK115m13 => kernel_rfl
            case hyXhK115m13 => (refine Or.inl ⟨by rfl, ?_⟩; intro wS hSw; (try dsimp only at hSw); go_simp; (try with_reducible rfl))
            case hQXhK115m13 => exact fun _ _ _ h => h
            (try simp only [Act.put, List.setIfInBounds_toArray, List.set_cons_zero, List.set_cons_succ])
            refine wpAnyH_take (i := 14) (oi := ?_) (v := ?_) ?hiXhK115m14 (by kernel_rfl) ?hfXhK115m14 ?hrXhK115m14 ?hQXhK115m14 ?hyXhK115m14 (by assumption) ?restXhK115m14
            case hiXhK115m14 => (simp only [List.getElem?_toArray, List.getElem?_cons_zero, List.getElem?_cons_succ]; rfl)
            case hfXhK115m14 => kernel_rfl
            case hrXhK115m14 => kernel_rfl
            case hyXhK115m14 => (refine Or.inl ⟨by rfl, ?_⟩; intro wS hSw; (try dsimp only at hSw); go_simp; (try with_reducible rfl))
            case hQXhK115m14 => exact fun _ _ _ h => h
            (try simp only [Act.put, List.setIfInBounds_toArray, List.set_cons_zero, List.set_cons_succ])
            exact any_eq (by kernel_rfl) (by kernel_rfl) (hK116 _ _ ⟨gA, gB, gC, gE, Kt, It, Ft, Zt, qt, mt, dt, Kv, Iv, Fv, Zv, qv, mv, dv, rfl, (fb_step hq hbT), (bel_step hbd hbT), (sbx_step hsA hbT), hgA, (sbx_step hsB hbT), hgB, hne, (repS_mono (fun b hb => ⟨Nat.le_trans hbd.size hb, (by have h := cs_lt hsA.1; have h2 : _ ≤ b := hb; omega), (by have h := cs_lt hsB.1; have h2 : _ ≤ b := hb; omega)⟩) _ _ _ ht), (repS_mono (fun b hb => ⟨Nat.le_trans hbd.size hb, (by have h := cs_lt hsA.1; have h2 : _ ≤ b := hb; omega), (by have h := cs_lt hsB.1; have h2 : _ ≤ b := hb; omega)⟩) _ _ _ hv)⟩ hHeld)
        refine any_have 9 [15, 4, 5, 6, 8, 9] (fun a a' w' => ∃ (gA gC gE : Nat), a' = ((((((a.put (some 8) (.pointer (some ⟨gA, 0, none⟩))).put (some 32) (.slice (some ⟨gC, 0, none⟩) 2 2)).put (some 33) (.string ⟨#[107, bi]⟩)).put (some 34) (.agg #[.int .i64 3, .int .i64 0, .float .f64 0, .string ⟨#[107, bi]⟩, .slice none 0 0])).put (some 36) (.agg #[.int .i64 1, .int .i64 i, .float .f64 0, .string ⟨#[]⟩, .slice none 0 0])).put (some 37) (.slice (some ⟨gE, 0, none⟩) 2 2)) ∧ FB w sb qs ms ds w' ∧ Below wr.heap.size wr w' ∧ SBX w' gA (.int .i64 0) (.int .i64 0) (.float .f64 0) (.string ⟨#[]⟩) (.slice none 0 0) ∧ wr.heap.size ≤ gA ∧ LV gE (nmF i) 1 i 0 ⟨#[]⟩ w') ?phK105m (fun hK105 => ?_)
        case phK105m =>
          intro a' w' hst hHeld
          obtain ⟨gA, gC, gE, rfl, hq, hbd, hsA, hgA, hlv⟩ := hst
          (try simp only [Act.put, List.setIfInBounds_toArray, List.set_cons_zero, List.set_cons_succ])
          refine wpAnyH_ready (rs := [10, 16]) (by kernel_rfl) (by simp) ?_
          refine AllReadyH.cons (o := ?_) ?hoXhK105m ?hstXhK105m (AllReadyH.cons (o := ?_) ?hoBhK105m ?hstBhK105m AllReadyH.nil)
          case hoXhK105m => (simp only [List.getElem?_toArray, List.getElem?_cons_zero, List.getElem?_cons_succ]; rfl)
          case hoBhK105m => (simp only [List.getElem?_toArray, List.getElem?_cons_zero, List.getElem?_cons_succ]; rfl)
          case hstXhK105m =>
            intro K hK
            go_simp
            have hrp := repS_rep _ _ _ (repS_step hbd HSTr.out); go_at_call 12; refine (HDO.out _ _ hrp hlv).mono ?_; rintro e wD ⟨tt, vv, rfl, hbT, ht, hv⟩; obtain ⟨Kt, It, Ft, Zt, qt, mt, dt, rfl, _⟩ := repS_shape ht; obtain ⟨Kv, Iv, Fv, Zv, qv, mv, dv, rfl, _⟩ := repS_shape hv
            go_wp2_with fail
            refine hK.out _ _ ?hsXhK105m (fun hHeld => ?_)
            case hsXhK105m => exact ((fb_step hq hbT)).1
            clear hK K
            (try simp only [Act.put, List.setIfInBounds_toArray, List.set_cons_zero, List.set_cons_succ])
            refine wpAnyH_take (i := 11) (oi := ?_) (v := ?_) ?hiXhK105m11 (by kernel_rfl) ?hfXhK105m11 ?hrXhK105m11 ?hQXhK105m11 ?hyXhK105m11 (by assumption) ?restXhK105m11
            case hiXhK105m11 => (simp only [List.getElem?_toArray, List.getElem?_cons_zero, List.getElem?_cons_succ]; rfl)
            case hfXhK105m11 => kernel_rfl
            case hrXhK105m11 => kernel_rfl
            case hyXhK105m11 => (refine Or.inl ⟨by rfl, ?_⟩; intro wS hSw; (try dsimp only at hSw); go_simp; (try with_reducible rfl))
            case hQXhK105m11 => exact fun _ _ _ h => h
            (try simp only [Act.put, List.setIfInBounds_toArray, List.set_cons_zero, List.set_cons_succ])
            refine wpAnyH_take (i := 12) (oi := ?_) (v := ?_) ?hiXhK105m12 (by kernel_rfl) ?hfXhK105m12 ?hrXhK105m12 ?hQXhK105m12 ?hyXhK105m12 (by assumption) ?restXhK105m12
            case hiXhK105m12 => (simp only [List.getElem?_toArray, List.getElem?_cons_zero, List.getElem?_cons_succ]; rfl)
            case hfXhK105m12 => kernel_rfl
            case hrXhK105m12 => kernel_rfl
            case hyXhK105m12 => (refine Or.inl ⟨by rfl, ?_⟩; intro wS hSw; (try dsimp only at hSw); go_simp; (try with_reducible rfl))
            case hQXhK105m12 => exact fun _ _ _ h => h
            (try simp only [Act.put, List.setIfInBounds_toArray, List.set_cons_zero, List.set_cons_succ])
            refine wpAnyH_take (i := 13) (oi := ?_) (v := ?_) ?hiXhK105m13 (by kernel_rfl) ?hfXhK105m13 ?hrXhK105m13 ?hQXhK105m13 ?hyXhK105m13 (by assumption) ?restXhK105m13
            case hiXhK105m13 => (simp only [List.getElem?_toArray, List.getElem?_cons_zero, List.getElem?_cons_succ]; rfl)
            case hfXhK105m13 => kernel_rfl
            case hrXhK105m13 => kernel_rfl
            case hyXhK105m13 => (refine Or.inl ⟨by rfl, ?_⟩; intro wS hSw; (try dsimp only at hSw); go_simp; (try with_reducible rfl))
            case hQXhK105m13 => exact fun _ _ _ h => h
            (try simp only [Act.put, List.setIfInBounds_toArray, List.set_cons_zero, List.set_cons_succ])
            refine wpAnyH_take (i := 14) (oi := ?_) (v := ?_) ?hiXhK105m14 (by kernel_rfl) ?hfXhK105m14 ?hrXhK105m14 ?hQXhK105m14 ?hyXhK105m14 (by assumption) ?restXhK105m14
            case hiXhK105m14 => (simp only [List.getElem?_toArray, List.getElem?_cons_zero, List.getElem?_cons_succ]; rfl)
            case hfXhK105m14 => kernel_rfl
            case hrXhK105m14 => kernel_rfl
            case hyXhK105m14 => (refine Or.inl ⟨by rfl, ?_⟩; intro wS hSw; (try dsimp only at hSw); go_simp; (try with_reducible rfl))
            case hQXhK105m14 => exact fun _ _ _ h => h
            (try simp only [Act.put, List.setIfInBounds_toArray, List.set_cons_zero, List.set_cons_succ])
            exact any_eq (by kernel_rfl) (by kernel_rfl) (hK106 _ _ ⟨gA, gC, gE, Kt, It, Ft, Zt, qt, mt, dt, Kv, Iv, Fv, Zv, qv, mv, dv, rfl, (fb_step hq hbT), (bel_step hbd hbT), (sbx_step hsA hbT), hgA, (repS_mono (fun b hb => ⟨Nat.le_trans hbd.size hb, (by have h := cs_lt hsA.1; have h2 : _ ≤ b := hb; omega)⟩) _ _ _ ht), (repS_mono (fun b hb => ⟨Nat.le_trans hbd.size hb, (by have h := cs_lt hsA.1; have h2 : _ ≤ b := hb; omega)⟩) _ _ _ hv)⟩ hHeld)
          case hstBhK105m =>
            intro K hK
            go_simp
            refine hK.out _ _ ?hsBhK105m (fun hHeld => ?_)
            case hsBhK105m => exact ((fb_step hq (bel_alloc (Below.refl _ _) (.cells #[.int .i64 0, .int .i64 0, .float .f64 0, .string ⟨#[]⟩, .slice none 0 0] 27)))).1
            clear hK K
            (try simp only [Act.put, List.setIfInBounds_toArray, List.set_cons_zero, List.set_cons_succ])
            exact any_eq (by kernel_rfl) (by kernel_rfl) (hK115 _ _ ⟨gA, _, gC, gE, rfl, (fb_step hq (bel_alloc (Below.refl _ _) (.cells #[.int .i64 0, .int .i64 0, .float .f64 0, .string ⟨#[]⟩, .slice none 0 0] 27))), (bel_step hbd (bel_alloc (Below.refl _ _) (.cells #[.int .i64 0, .int .i64 0, .float .f64 0, .string ⟨#[]⟩, .slice none 0 0] 27))), (sbx_step hsA (bel_alloc (Below.refl _ _) (.cells #[.int .i64 0, .int .i64 0, .float .f64 0, .string ⟨#[]⟩, .slice none 0 0] 27))), hgA, ⟨cs_new rfl, fun o => row_frz (row_alloc _ _ _) o⟩, hbd.size, (by have h := cs_lt hsA.1; omega), (lv_step hlv (bel_alloc (Below.refl _ _) (.cells #[.int .i64 0, .int .i64 0, .float .f64 0, .string ⟨#[]⟩, .slice none 0 0] 27)))⟩ hHeld)
        refine any_have 9 [16, 4, 5, 6, 8, 9] (fun a a' w' => ∃ (gB gC gE : Nat), a' = ((((((a.put (some 9) (.pointer (some ⟨gB, 0, none⟩))).put (some 32) (.slice (some ⟨gC, 0, none⟩) 2 2)).put (some 33) (.string ⟨#[107, bi]⟩)).put (some 34) (.agg #[.int .i64 3, .int .i64 0, .float .f64 0, .string ⟨#[107, bi]⟩, .slice none 0 0])).put (some 36) (.agg #[.int .i64 1, .int .i64 i, .float .f64 0, .string ⟨#[]⟩, .slice none 0 0])).put (some 37) (.slice (some ⟨gE, 0, none⟩) 2 2)) ∧ FB w sb qs ms ds w' ∧ Below wr.heap.size wr w' ∧ SBX w' gB (.int .i64 0) (.int .i64 0) (.float .f64 0) (.string ⟨#[]⟩) (.slice none 0 0) ∧ wr.heap.size ≤ gB ∧ LV gE (nmF i) 1 i 0 ⟨#[]⟩ w') ?phK015m (fun hK015 => ?_)
        case phK015m =>
          intro a' w' hst hHeld
          obtain ⟨gB, gC, gE, rfl, hq, hbd, hsB, hgB, hlv⟩ := hst
          (try simp only [Act.put, List.setIfInBounds_toArray, List.set_cons_zero, List.set_cons_succ])
          refine wpAnyH_ready (rs := [10, 15]) (by kernel_rfl) (by simp) ?_
          refine AllReadyH.cons (o := ?_) ?hoXhK015m ?hstXhK015m (AllReadyH.cons (o := ?_) ?hoAhK015m ?hstAhK015m AllReadyH.nil)
          case hoXhK015m => (simp only [List.getElem?_toArray, List.getElem?_cons_zero, List.getElem?_cons_succ]; rfl)
          case hoAhK015m => (simp only [List.getElem?_toArray, List.getElem?_cons_zero, List.getElem?_cons_succ]; rfl)
          case hstXhK015m =>
            intro K hK
            go_simp
            have hrp := repS_rep _ _ _ (repS_step hbd HSTr.out); go_at_call 12; refine (HDO.out _ _ hrp hlv).mono ?_; rintro e wD ⟨tt, vv, rfl, hbT, ht, hv⟩; obtain ⟨Kt, It, Ft, Zt, qt, mt, dt, rfl, _⟩ := repS_shape ht; obtain ⟨Kv, Iv, Fv, Zv, qv, mv, dv, rfl, _⟩ := repS_shape hv
            go_wp2_with fail
            refine hK.out _ _ ?hsXhK015m (fun hHeld => ?_)
            case hsXhK015m => exact ((fb_step hq hbT)).1
            clear hK K
            (try simp only [Act.put, List.setIfInBounds_toArray, List.set_cons_zero, List.set_cons_succ])
            refine wpAnyH_take (i := 11) (oi := ?_) (v := ?_) ?hiXhK015m11 (by kernel_rfl) ?hfXhK015m11 ?hrXhK015m11 ?hQXhK015m11 ?hyXhK015m11 (by assumption) ?restXhK015m11
            case hiXhK015m11 => (simp only [List.getElem?_toArray, List.getElem?_cons_zero, List.getElem?_cons_succ]; rfl)
            case hfXhK015m11 => kernel_rfl
            case hrXhK015m11 => kernel_rfl
            case hyXhK015m11 => (refine Or.inl ⟨by rfl, ?_⟩; intro wS hSw; (try dsimp only at hSw); go_simp; (try with_reducible rfl))
            case hQXhK015m11 => exact fun _ _ _ h => h
            (try simp only [Act.put, List.setIfInBounds_toArray, List.set_cons_zero, List.set_cons_succ])
            refine wpAnyH_take (i := 12) (oi := ?_) (v := ?_) ?hiXhK015m12 (by kernel_rfl) ?hfXhK015m12 ?hrXhK015m12 ?hQXhK015m12 ?hyXhK015m12 (by assumption) ?restXhK015m12
            case hiXhK015m12 => (simp only [List.getElem?_toArray, List.getElem?_cons_zero, List.getElem?_cons_succ]; rfl)
            case hfXhK015m12 => kernel_rfl
            case hrXhK015m12 => kernel_rfl
            case hyXhK015m12 => (refine Or.inl ⟨by rfl, ?_⟩; intro wS hSw; (try dsimp only at hSw); go_simp; (try with_reducible rfl))
            case hQXhK015m12 => exact fun _ _ _ h => h
            (try simp only [Act.put, List.setIfInBounds_toArray, List.set_cons_zero, List.set_cons_succ])
            refine wpAnyH_take (i := 13) (oi := ?_) (v := ?_) ?hiXhK015m13 (by kernel_rfl) ?hfXhK015m13 ?hrXhK015m13 ?hQXhK015m13 ?hyXhK015m13 (by assumption) ?restXhK015m13
            case hiXhK015m13 => (simp only [List.getElem?_toArray, List.getElem?_cons_zero, List.getElem?_cons_succ]; rfl)
            case hfXhK015m13 => kernel_rfl
            case hrXhK015m13 => kernel_rfl
            case hyXhK015m13 => (refine Or.inl ⟨by rfl, ?_⟩; intro wS hSw; (try dsimp only at hSw); go_simp; (try with_reducible rfl))
            case hQXhK015m13 => exact fun _ _ _ h => h
            (try simp only [Act.put, List.setIfInBounds_toArray, List.set_cons_zero, List.set_cons_succ])
            refine wpAnyH_take (i := 14) (oi := ?_) (v := ?_) ?hiXhK015m14 (by kernel_rfl) ?hfXhK015m14 ?hrXhK015m14 ?hQXhK015m14 ?hyXhK015m14 (by assumption) ?restXhK015m14
            case hiXhK015m14 => (simp only [List.getElem?_toArray, List.getElem?_cons_zero, List.getElem?_cons_succ]; rfl)
            case hfXhK015m14 => kernel_rfl
            case hrXhK015m14 => kernel_rfl
            case hyXhK015m14 => (refine Or.inl ⟨by rfl, ?_⟩; intro wS hSw; (try dsimp only at hSw); go_simp; (try with_reducible rfl))
            case hQXhK015m14 => exact fun _ _ _ h => h
            (try simp only [Act.put, List.setIfInBounds_toArray, List.set_cons_zero, List.set_cons_succ])
            exact any_eq (by kernel_rfl) (by kernel_rfl) (hK016 _ _ ⟨gB, gC, gE, Kt, It, Ft, Zt, qt, mt, dt, Kv, Iv, Fv, Zv, qv, mv, dv, rfl, (fb_step hq hbT), (bel_step hbd hbT), (sbx_step hsB hbT), hgB, (repS_mono (fun b hb => ⟨Nat.le_trans hbd.size hb, (by have h := cs_lt hsB.1; have h2 : _ ≤ b := hb; omega)⟩) _ _ _ ht), (repS_mono (fun b hb => ⟨Nat.le_trans hbd.size hb, (by have h := cs_lt hsB.1; have h2 : _ ≤ b := hb; omega)⟩) _ _ _ hv)⟩ hHeld)
          case hstAhK015m =>
            intro K hK
            go_simp
            refine hK.out _ _ ?hsAhK015m (fun hHeld => ?_)
            case hsAhK015m => exact ((fb_step hq (bel_alloc (Below.refl _ _) (.cells #[.int .i64 0, .int .i64 0, .float .f64 0, .string ⟨#[]⟩, .slice none 0 0] 27)))).1
            clear hK K
            (try simp only [Act.put, List.setIfInBounds_toArray, List.set_cons_zero, List.set_cons_succ])
            exact any_eq (by kernel_rfl) (by kernel_rfl) (hK115 _ _ ⟨_, gB, gC, gE, rfl, (fb_step hq (bel_alloc (Below.refl _ _) (.cells #[.int .i64 0, .int .i64 0, .float .f64 0, .string ⟨#[]⟩, .slice none 0 0] 27))), (bel_step hbd (bel_alloc (Below.refl _ _) (.cells #[.int .i64 0, .int .i64 0, .float .f64 0, .string ⟨#[]⟩, .slice none 0 0] 27))), ⟨cs_new rfl, fun o => row_frz (row_alloc _ _ _) o⟩, hbd.size, (sbx_step hsB (bel_alloc (Below.refl _ _) (.cells #[.int .i64 0, .int .i64 0, .float .f64 0, .string ⟨#[]⟩, .slice none 0 0] 27))), hgB, (by have h := cs_lt hsB.1; omega), (lv_step hlv (bel_alloc (Below.refl _ _) (.cells #[.int .i64 0, .int .i64 0, .float .f64 0, .string ⟨#[]⟩, .slice none 0 0] 27)))⟩ hHeld)
        refine any_have 10 [4, 5, 6, 8, 9] (fun a a' w' => ∃ (gC gE : Nat), a' = (((((a.put (some 32) (.slice (some ⟨gC, 0, none⟩) 2 2)).put (some 33) (.string ⟨#[107, bi]⟩)).put (some 34) (.agg #[.int .i64 3, .int .i64 0, .float .f64 0, .string ⟨#[107, bi]⟩, .slice none 0 0])).put (some 36) (.agg #[.int .i64 1, .int .i64 i, .float .f64 0, .string ⟨#[]⟩, .slice none 0 0])).put (some 37) (.slice (some ⟨gE, 0, none⟩) 2 2)) ∧ FB w sb qs ms ds w' ∧ Below wr.heap.size wr w' ∧ LV gE (nmF i) 1 i 0 ⟨#[]⟩ w') ?phK005m (fun hK005 => ?_)
        case phK005m =>
          intro a' w' hst hHeld
          obtain ⟨gC, gE, rfl, hq, hbd, hlv⟩ := hst
          (try simp only [Act.put, List.setIfInBounds_toArray, List.set_cons_zero, List.set_cons_succ])
          refine wpAnyH_ready (rs := [10, 15, 16]) (by kernel_rfl) (by simp) ?_
          refine AllReadyH.cons (o := ?_) ?hoXhK005m ?hstXhK005m (AllReadyH.cons (o := ?_) ?hoAhK005m ?hstAhK005m (AllReadyH.cons (o := ?_) ?hoBhK005m ?hstBhK005m AllReadyH.nil))
          case hoXhK005m => (simp only [List.getElem?_toArray, List.getElem?_cons_zero, List.getElem?_cons_succ]; rfl)
          case hoAhK005m => (simp only [List.getElem?_toArray, List.getElem?_cons_zero, List.getElem?_cons_succ]; rfl)
          case hoBhK005m => (simp only [List.getElem?_toArray, List.getElem?_cons_zero, List.getElem?_cons_succ]; rfl)
          case hstXhK005m =>
            intro K hK
            go_simp
            have hrp := repS_rep _ _ _ (repS_step hbd HSTr.out); go_at_call 12; refine (HDO.out _ _ hrp hlv).mono ?_; rintro e wD ⟨tt, vv, rfl, hbT, ht, hv⟩; obtain ⟨Kt, It, Ft, Zt, qt, mt, dt, rfl, _⟩ := repS_shape ht; obtain ⟨Kv, Iv, Fv, Zv, qv, mv, dv, rfl, _⟩ := repS_shape hv
            go_wp2_with fail
            refine hK.out _ _ ?hsXhK005m (fun hHeld => ?_)
            case hsXhK005m => exact ((fb_step hq hbT)).1
            clear hK K
            (try simp only [Act.put, List.setIfInBounds_toArray, List.set_cons_zero, List.set_cons_succ])
            refine wpAnyH_take (i := 11) (oi := ?_) (v := ?_) ?hiXhK005m11 (by kernel_rfl) ?hfXhK005m11 ?hrXhK005m11 ?hQXhK005m11 ?hyXhK005m11 (by assumption) ?restXhK005m11
            case hiXhK005m11 => (simp only [List.getElem?_toArray, List.getElem?_cons_zero, List.getElem?_cons_succ]; rfl)
            case hfXhK005m11 => kernel_rfl
            case hrXhK005m11 => kernel_rfl
            case hyXhK005m11 => (refine Or.inl ⟨by rfl, ?_⟩; intro wS hSw; (try dsimp only at hSw); go_simp; (try with_reducible rfl))
            case hQXhK005m11 => exact fun _ _ _ h => h
            (try simp only [Act.put, List.setIfInBounds_toArray, List.set_cons_zero, List.set_cons_succ])
            refine wpAnyH_take (i := 12) (oi := ?_) (v := ?_) ?hiXhK005m12 (by kernel_rfl) ?hfXhK005m12 ?hrXhK005m12 ?hQXhK005m12 ?hyXhK005m12 (by assumption) ?restXhK005m12
            case hiXhK005m12 => (simp only [List.getElem?_toArray, List.getElem?_cons_zero, List.getElem?_cons_succ]; rfl)
            case hfXhK005m12 => kernel_rfl
            case hrXhK005m12 => kernel_rfl
            case hyXhK005m12 => (refine Or.inl ⟨by rfl, ?_⟩; intro wS hSw; (try dsimp only at hSw); go_simp; (try with_reducible rfl))
            case hQXhK005m12 => exact fun _ _ _ h => h
            (try simp only [Act.put, List.setIfInBounds_toArray, List.set_cons_zero, List.set_cons_succ])
            refine wpAnyH_take (i := 13) (oi := ?_) (v := ?_) ?hiXhK005m13 (by kernel_rfl) ?hfXhK005m13 ?hrXhK005m13 ?hQXhK005m13 ?hyXhK005m13 (by assumption) ?restXhK005m13
            case hiXhK005m13 => (simp only [List.getElem?_toArray, List.getElem?_cons_zero, List.getElem?_cons_succ]; rfl)
            case hfXhK005m13 => kernel_rfl
            case hrXhK005m13 => kernel_rfl
            case hyXhK005m13 => (refine Or.inl ⟨by rfl, ?_⟩; intro wS hSw; (try dsimp only at hSw); go_simp; (try with_reducible rfl))
            case hQXhK005m13 => exact fun _ _ _ h => h
            (try simp only [Act.put, List.setIfInBounds_toArray, List.set_cons_zero, List.set_cons_succ])
            refine wpAnyH_take (i := 14) (oi := ?_) (v := ?_) ?hiXhK005m14 (by kernel_rfl) ?hfXhK005m14 ?hrXhK005m14 ?hQXhK005m14 ?hyXhK005m14 (by assumption) ?restXhK005m14
            case hiXhK005m14 => (simp only [List.getElem?_toArray, List.getElem?_cons_zero, List.getElem?_cons_succ]; rfl)
            case hfXhK005m14 => kernel_rfl
            case hrXhK005m14 => kernel_rfl
            case hyXhK005m14 => (refine Or.inl ⟨by rfl, ?_⟩; intro wS hSw; (try dsimp only at hSw); go_simp; (try with_reducible rfl))
            case hQXhK005m14 => exact fun _ _ _ h => h
            (try simp only [Act.put, List.setIfInBounds_toArray, List.set_cons_zero, List.set_cons_succ])
            exact any_eq (by kernel_rfl) (by kernel_rfl) (hK006 _ _ ⟨gC, gE, Kt, It, Ft, Zt, qt, mt, dt, Kv, Iv, Fv, Zv, qv, mv, dv, rfl, (fb_step hq hbT), (bel_step hbd hbT), (repS_mono (fun b hb => Nat.le_trans hbd.size hb) _ _ _ ht), (repS_mono (fun b hb => Nat.le_trans hbd.size hb) _ _ _ hv)⟩ hHeld)
          case hstAhK005m =>
            intro K hK
            go_simp
            refine hK.out _ _ ?hsAhK005m (fun hHeld => ?_)
            case hsAhK005m => exact ((fb_step hq (bel_alloc (Below.refl _ _) (.cells #[.int .i64 0, .int .i64 0, .float .f64 0, .string ⟨#[]⟩, .slice none 0 0] 27)))).1
            clear hK K
            (try simp only [Act.put, List.setIfInBounds_toArray, List.set_cons_zero, List.set_cons_succ])
            exact any_eq (by kernel_rfl) (by kernel_rfl) (hK105 _ _ ⟨_, gC, gE, rfl, (fb_step hq (bel_alloc (Below.refl _ _) (.cells #[.int .i64 0, .int .i64 0, .float .f64 0, .string ⟨#[]⟩, .slice none 0 0] 27))), (bel_step hbd (bel_alloc (Below.refl _ _) (.cells #[.int .i64 0, .int .i64 0, .float .f64 0, .string ⟨#[]⟩, .slice none 0 0] 27))), ⟨cs_new rfl, fun o => row_frz (row_alloc _ _ _) o⟩, hbd.size, (lv_step hlv (bel_alloc (Below.refl _ _) (.cells #[.int .i64 0, .int .i64 0, .float .f64 0, .string ⟨#[]⟩, .slice none 0 0] 27)))⟩ hHeld)
          case hstBhK005m =>
            intro K hK
            go_simp
            refine hK.out _ _ ?hsBhK005m (fun hHeld => ?_)
            case hsBhK005m => exact ((fb_step hq (bel_alloc (Below.refl _ _) (.cells #[.int .i64 0, .int .i64 0, .float .f64 0, .string ⟨#[]⟩, .slice none 0 0] 27)))).1
            clear hK K
            (try simp only [Act.put, List.setIfInBounds_toArray, List.set_cons_zero, List.set_cons_succ])
            exact any_eq (by kernel_rfl) (by kernel_rfl) (hK015 _ _ ⟨_, gC, gE, rfl, (fb_step hq (bel_alloc (Below.refl _ _) (.cells #[.int .i64 0, .int .i64 0, .float .f64 0, .string ⟨#[]⟩, .slice none 0 0] 27))), (bel_step hbd (bel_alloc (Below.refl _ _) (.cells #[.int .i64 0, .int .i64 0, .float .f64 0, .string ⟨#[]⟩, .slice none 0 0] 27))), ⟨cs_new rfl, fun o => row_frz (row_alloc _ _ _) o⟩, hbd.size, (lv_step hlv (bel_alloc (Below.refl _ _) (.cells #[.int .i64 0, .int .i64 0, .float .f64 0, .string ⟨#[]⟩, .slice none 0 0] 27)))⟩ hHeld)
        refine any_have 9 [15, 16, 4, 5, 6, 8] (fun a a' w' => ∃ (gA gB gC : Nat), a' = ((((((a.put (some 8) (.pointer (some ⟨gA, 0, none⟩))).put (some 9) (.pointer (some ⟨gB, 0, none⟩))).put (some 32) (.slice (some ⟨gC, 0, none⟩) 2 2)).put (some 33) (.string ⟨#[107, bi]⟩)).put (some 34) (.agg #[.int .i64 3, .int .i64 0, .float .f64 0, .string ⟨#[107, bi]⟩, .slice none 0 0])).put (some 36) (.agg #[.int .i64 1, .int .i64 i, .float .f64 0, .string ⟨#[]⟩, .slice none 0 0])) ∧ FB w sb qs ms ds w' ∧ Below wr.heap.size wr w' ∧ SBX w' gA (.int .i64 0) (.int .i64 0) (.float .f64 0) (.string ⟨#[]⟩) (.slice none 0 0) ∧ wr.heap.size ≤ gA ∧ SBX w' gB (.int .i64 0) (.int .i64 0) (.float .f64 0) (.string ⟨#[]⟩) (.slice none 0 0) ∧ wr.heap.size ≤ gB ∧ gA ≠ gB) ?phK114m (fun hK114 => ?_)
        case phK114m =>
          intro a' w' hst hHeld
          obtain ⟨gA, gB, gC, rfl, hq, hbd, hsA, hgA, hsB, hgB, hne⟩ := hst
          (try simp only [Act.put, List.setIfInBounds_toArray, List.set_cons_zero, List.set_cons_succ])
          refine wpAnyH_ready (rs := [9]) (by kernel_rfl) (by simp) ?_
          refine AllReadyH.cons (o := ?_) ?hoXhK114m ?hstXhK114m AllReadyH.nil
          case hoXhK114m => (simp only [List.getElem?_toArray, List.getElem?_cons_zero, List.getElem?_cons_succ]; rfl)
          case hstXhK114m =>
            intro K hK
            go_simp
            refine hK.out _ _ ?hsXhK114m (fun hHeld => ?_)
            case hsXhK114m => exact ((fb_step hq (bel_alloc (Below.refl _ _) (.cells #[.int .i64 3, .int .i64 0, .float .f64 0, .string ⟨#[107, bi]⟩, .slice none 0 0, .int .i64 1, .int .i64 i, .float .f64 0, .string ⟨#[]⟩, .slice none 0 0] 27)))).1
            clear hK K
            (try simp only [Act.put, List.setIfInBounds_toArray, List.set_cons_zero, List.set_cons_succ])
            exact any_eq (by kernel_rfl) (by kernel_rfl) (hK115 _ _ ⟨gA, gB, gC, _, rfl, (fb_step hq (bel_alloc (Below.refl _ _) (.cells #[.int .i64 3, .int .i64 0, .float .f64 0, .string ⟨#[107, bi]⟩, .slice none 0 0, .int .i64 1, .int .i64 i, .float .f64 0, .string ⟨#[]⟩, .slice none 0 0] 27))), (bel_step hbd (bel_alloc (Below.refl _ _) (.cells #[.int .i64 3, .int .i64 0, .float .f64 0, .string ⟨#[107, bi]⟩, .slice none 0 0, .int .i64 1, .int .i64 i, .float .f64 0, .string ⟨#[]⟩, .slice none 0 0] 27))), (sbx_step hsA (bel_alloc (Below.refl _ _) (.cells #[.int .i64 3, .int .i64 0, .float .f64 0, .string ⟨#[107, bi]⟩, .slice none 0 0, .int .i64 1, .int .i64 i, .float .f64 0, .string ⟨#[]⟩, .slice none 0 0] 27))), hgA, (sbx_step hsB (bel_alloc (Below.refl _ _) (.cells #[.int .i64 3, .int .i64 0, .float .f64 0, .string ⟨#[107, bi]⟩, .slice none 0 0, .int .i64 1, .int .i64 i, .float .f64 0, .string ⟨#[]⟩, .slice none 0 0] 27))), hgB, hne, (by rw [HBI.out.2]; exact lv_new rfl (by decide : 2 ≤ maxLen) (by decide) (by unfold okI; omega) (by decide) (by decide))⟩ hHeld)
        refine any_have 10 [15, 4, 5, 6, 8] (fun a a' w' => ∃ (gA gC : Nat), a' = (((((a.put (some 8) (.pointer (some ⟨gA, 0, none⟩))).put (some 32) (.slice (some ⟨gC, 0, none⟩) 2 2)).put (some 33) (.string ⟨#[107, bi]⟩)).put (some 34) (.agg #[.int .i64 3, .int .i64 0, .float .f64 0, .string ⟨#[107, bi]⟩, .slice none 0 0])).put (some 36) (.agg #[.int .i64 1, .int .i64 i, .float .f64 0, .string ⟨#[]⟩, .slice none 0 0])) ∧ FB w sb qs ms ds w' ∧ Below wr.heap.size wr w' ∧ SBX w' gA (.int .i64 0) (.int .i64 0) (.float .f64 0) (.string ⟨#[]⟩) (.slice none 0 0) ∧ wr.heap.size ≤ gA) ?phK104m (fun hK104 => ?_)
        case phK104m =>
          intro a' w' hst hHeld
          obtain ⟨gA, gC, rfl, hq, hbd, hsA, hgA⟩ := hst
          (try simp only [Act.put, List.setIfInBounds_toArray, List.set_cons_zero, List.set_cons_succ])
          refine wpAnyH_ready (rs := [9, 16]) (by kernel_rfl) (by simp) ?_
          refine AllReadyH.cons (o := ?_) ?hoXhK104m ?hstXhK104m (AllReadyH.cons (o := ?_) ?hoBhK104m ?hstBhK104m AllReadyH.nil)
          case hoXhK104m => (simp only [List.getElem?_toArray, List.getElem?_cons_zero, List.getElem?_cons_succ]; rfl)
          case hoBhK104m => (simp only [List.getElem?_toArray, List.getElem?_cons_zero, List.getElem?_cons_succ]; rfl)
          case hstXhK104m =>
            intro K hK
            go_simp
            refine hK.out _ _ ?hsXhK104m (fun hHeld => ?_)
            case hsXhK104m => exact ((fb_step hq (bel_alloc (Below.refl _ _) (.cells #[.int .i64 3, .int .i64 0, .float .f64 0, .string ⟨#[107, bi]⟩, .slice none 0 0, .int .i64 1, .int .i64 i, .float .f64 0, .string ⟨#[]⟩, .slice none 0 0] 27)))).1
            clear hK K
            (try simp only [Act.put, List.setIfInBounds_toArray, List.set_cons_zero, List.set_cons_succ])
            exact any_eq (by kernel_rfl) (by kernel_rfl) (hK105 _ _ ⟨gA, gC, _, rfl, (fb_step hq (bel_alloc (Below.refl _ _) (.cells #[.int .i64 3, .int .i64 0, .float .f64 0, .string ⟨#[107, bi]⟩, .slice none 0 0, .int .i64 1, .int .i64 i, .float .f64 0, .string ⟨#[]⟩, .slice none 0 0] 27))), (bel_step hbd (bel_alloc (Below.refl _ _) (.cells #[.int .i64 3, .int .i64 0, .float .f64 0, .string ⟨#[107, bi]⟩, .slice none 0 0, .int .i64 1, .int .i64 i, .float .f64 0, .string ⟨#[]⟩, .slice none 0 0] 27))), (sbx_step hsA (bel_alloc (Below.refl _ _) (.cells #[.int .i64 3, .int .i64 0, .float .f64 0, .string ⟨#[107, bi]⟩, .slice none 0 0, .int .i64 1, .int .i64 i, .float .f64 0, .string ⟨#[]⟩, .slice none 0 0] 27))), hgA, (by rw [HBI.out.2]; exact lv_new rfl (by decide : 2 ≤ maxLen) (by decide) (by unfold okI; omega) (by decide) (by decide))⟩ hHeld)
          case hstBhK104m =>
            intro K hK
            go_simp
            refine hK.out _ _ ?hsBhK104m (fun hHeld => ?_)
            case hsBhK104m => exact ((fb_step hq (bel_alloc (Below.refl _ _) (.cells #[.int .i64 0, .int .i64 0, .float .f64 0, .string ⟨#[]⟩, .slice none 0 0] 27)))).1
            clear hK K
            (try simp only [Act.put, List.setIfInBounds_toArray, List.set_cons_zero, List.set_cons_succ])
            exact any_eq (by kernel_rfl) (by kernel_rfl) (hK114 _ _ ⟨gA, _, gC, rfl, (fb_step hq (bel_alloc (Below.refl _ _) (.cells #[.int .i64 0, .int .i64 0, .float .f64 0, .string ⟨#[]⟩, .slice none 0 0] 27))), (bel_step hbd (bel_alloc (Below.refl _ _) (.cells #[.int .i64 0, .int .i64 0, .float .f64 0, .string ⟨#[]⟩, .slice none 0 0] 27))), (sbx_step hsA (bel_alloc (Below.refl _ _) (.cells #[.int .i64 0, .int .i64 0, .float .f64 0, .string ⟨#[]⟩, .slice none 0 0] 27))), hgA, ⟨cs_new rfl, fun o => row_frz (row_alloc _ _ _) o⟩, hbd.size, (by have h := cs_lt hsA.1; omega)⟩ hHeld)
        refine any_have 10 [16, 4, 5, 6, 8] (fun a a' w' => ∃ (gB gC : Nat), a' = (((((a.put (some 9) (.pointer (some ⟨gB, 0, none⟩))).put (some 32) (.slice (some ⟨gC, 0, none⟩) 2 2)).put (some 33) (.string ⟨#[107, bi]⟩)).put (some 34) (.agg #[.int .i64 3, .int .i64 0, .float .f64 0, .string ⟨#[107, bi]⟩, .slice none 0 0])).put (some 36) (.agg #[.int .i64 1, .int .i64 i, .float .f64 0, .string ⟨#[]⟩, .slice none 0 0])) ∧ FB w sb qs ms ds w' ∧ Below wr.heap.size wr w' ∧ SBX w' gB (.int .i64 0) (.int .i64 0) (.float .f64 0) (.string ⟨#[]⟩) (.slice none 0 0) ∧ wr.heap.size ≤ gB) ?phK014m (fun hK014 => ?_)
        case phK014m =>
          intro a' w' hst hHeld
          obtain ⟨gB, gC, rfl, hq, hbd, hsB, hgB⟩ := hst
          (try simp only [Act.put, List.setIfInBounds_toArray, List.set_cons_zero, List.set_cons_succ])
          refine wpAnyH_ready (rs := [9, 15]) (by kernel_rfl) (by simp) ?_
          refine AllReadyH.cons (o := ?_) ?hoXhK014m ?hstXhK014m (AllReadyH.cons (o := ?_) ?hoAhK014m ?hstAhK014m AllReadyH.nil)
          case hoXhK014m => (simp only [List.getElem?_toArray, List.getElem?_cons_zero, List.getElem?_cons_succ]; rfl)
          case hoAhK014m => (simp only [List.getElem?_toArray, List.getElem?_cons_zero, List.getElem?_cons_succ]; rfl)
          case hstXhK014m =>
            intro K hK
            go_simp
            refine hK.out _ _ ?hsXhK014m (fun hHeld => ?_)
            case hsXhK014m => exact ((fb_step hq (bel_alloc (Below.refl _ _) (.cells #[.int .i64 3, .int .i64 0, .float .f64 0, .string ⟨#[107, bi]⟩, .slice none 0 0, .int .i64 1, .int .i64 i, .float .f64 0, .string ⟨#[]⟩, .slice none 0 0] 27)))).1
            clear hK K
            (try simp only [Act.put, List.setIfInBounds_toArray, List.set_cons_zero, List.set_cons_succ])
            exact any_eq (by kernel_rfl) (by kernel_rfl) (hK015 _ _ ⟨gB, gC, _, rfl, (fb_step hq (bel_alloc (Below.refl _ _) (.cells #[.int .i64 3, .int .i64 0, .float .f64 0, .string ⟨#[107, bi]⟩, .slice none 0 0, .int .i64 1, .int .i64 i, .float .f64 0, .string ⟨#[]⟩, .slice none 0 0] 27))), (bel_step hbd (bel_alloc (Below.refl _ _) (.cells #[.int .i64 3, .int .i64 0, .float .f64 0, .string ⟨#[107, bi]⟩, .slice none 0 0, .int .i64 1, .int .i64 i, .float .f64 0, .string ⟨#[]⟩, .slice none 0 0] 27))), (sbx_step hsB (bel_alloc (Below.refl _ _) (.cells #[.int .i64 3, .int .i64 0, .float .f64 0, .string ⟨#[107, bi]⟩, .slice none 0 0, .int .i64 1, .int .i64 i, .float .f64 0, .string ⟨#[]⟩, .slice none 0 0] 27))), hgB, (by rw [HBI.out.2]; exact lv_new rfl (by decide : 2 ≤ maxLen) (by decide) (by unfold okI; omega) (by decide) (by decide))⟩ hHeld)
          case hstAhK014m =>
            intro K hK
            go_simp
            refine hK.out _ _ ?hsAhK014m (fun hHeld => ?_)
            case hsAhK014m => exact ((fb_step hq (bel_alloc (Below.refl _ _) (.cells #[.int .i64 0, .int .i64 0, .float .f64 0, .string ⟨#[]⟩, .slice none 0 0] 27)))).1
            clear hK K
            (try simp only [Act.put, List.setIfInBounds_toArray, List.set_cons_zero, List.set_cons_succ])
            exact any_eq (by kernel_rfl) (by kernel_rfl) (hK114 _ _ ⟨_, gB, gC, rfl, (fb_step hq (bel_alloc (Below.refl _ _) (.cells #[.int .i64 0, .int .i64 0, .float .f64 0, .string ⟨#[]⟩, .slice none 0 0] 27))), (bel_step hbd (bel_alloc (Below.refl _ _) (.cells #[.int .i64 0, .int .i64 0, .float .f64 0, .string ⟨#[]⟩, .slice none 0 0] 27))), ⟨cs_new rfl, fun o => row_frz (row_alloc _ _ _) o⟩, hbd.size, (sbx_step hsB (bel_alloc (Below.refl _ _) (.cells #[.int .i64 0, .int .i64 0, .float .f64 0, .string ⟨#[]⟩, .slice none 0 0] 27))), hgB, (by have h := cs_lt hsB.1; omega)⟩ hHeld)
        refine any_have 11 [4, 5, 6, 8] (fun a a' w' => ∃ (gC : Nat), a' = ((((a.put (some 32) (.slice (some ⟨gC, 0, none⟩) 2 2)).put (some 33) (.string ⟨#[107, bi]⟩)).put (some 34) (.agg #[.int .i64 3, .int .i64 0, .float .f64 0, .string ⟨#[107, bi]⟩, .slice none 0 0])).put (some 36) (.agg #[.int .i64 1, .int .i64 i, .float .f64 0, .string ⟨#[]⟩, .slice none 0 0])) ∧ FB w sb qs ms ds w' ∧ Below wr.heap.size wr w') ?phK004m (fun hK004 => ?_)
        case phK004m =>
          intro a' w' hst hHeld
          obtain ⟨gC, rfl, hq, hbd⟩ := hst
          (try simp only [Act.put, List.setIfInBounds_toArray, List.set_cons_zero, List.set_cons_succ])
          refine wpAnyH_ready (rs := [9, 15, 16]) (by kernel_rfl) (by simp) ?_
          refine AllReadyH.cons (o := ?_) ?hoXhK004m ?hstXhK004m (AllReadyH.cons (o := ?_) ?hoAhK004m ?hstAhK004m (AllReadyH.cons (o := ?_) ?hoBhK004m ?hstBhK004m AllReadyH.nil))
          case hoXhK004m => (simp only [List.getElem?_toArray, List.getElem?_cons_zero, List.getElem?_cons_succ]; rfl)
          case hoAhK004m => (simp only [List.getElem?_toArray, List.getElem?_cons_zero, List.getElem?_cons_succ]; rfl)
          case hoBhK004m => (simp only [List.getElem?_toArray, List.getElem?_cons_zero, List.getElem?_cons_succ]; rfl)
          case hstXhK004m =>
            intro K hK
            go_simp
            refine hK.out _ _ ?hsXhK004m (fun hHeld => ?_)
            case hsXhK004m => exact ((fb_step hq (bel_alloc (Below.refl _ _) (.cells #[.int .i64 3, .int .i64 0, .float .f64 0, .string ⟨#[107, bi]⟩, .slice none 0 0, .int .i64 1, .int .i64 i, .float .f64 0, .string ⟨#[]⟩, .slice none 0 0] 27)))).1
            clear hK K
            (try simp only [Act.put, List.setIfInBounds_toArray, List.set_cons_zero, List.set_cons_succ])
            exact any_eq (by kernel_rfl) (by kernel_rfl) (hK005 _ _ ⟨gC, _, rfl, (fb_step hq (bel_alloc (Below.refl _ _) (.cells #[.int .i64 3, .int .i64 0, .float .f64 0, .string ⟨#[107, bi]⟩, .slice none 0 0, .int .i64 1, .int .i64 i, .float .f64 0, .string ⟨#[]⟩, .slice none 0 0] 27))), (bel_step hbd (bel_alloc (Below.refl _ _) (.cells #[.int .i64 3, .int .i64 0, .float .f64 0, .string ⟨#[107, bi]⟩, .slice none 0 0, .int .i64 1, .int .i64 i, .float .f64 0, .string ⟨#[]⟩, .slice none 0 0] 27))), (by rw [HBI.out.2]; exact lv_new rfl (by decide : 2 ≤ maxLen) (by decide) (by unfold okI; omega) (by decide) (by decide))⟩ hHeld)
          case hstAhK004m =>
            intro K hK
            go_simp
            refine hK.out _ _ ?hsAhK004m (fun hHeld => ?_)
            case hsAhK004m => exact ((fb_step hq (bel_alloc (Below.refl _ _) (.cells #[.int .i64 0, .int .i64 0, .float .f64 0, .string ⟨#[]⟩, .slice none 0 0] 27)))).1
            clear hK K
            (try simp only [Act.put, List.setIfInBounds_toArray, List.set_cons_zero, List.set_cons_succ])
            exact any_eq (by kernel_rfl) (by kernel_rfl) (hK104 _ _ ⟨_, gC, rfl, (fb_step hq (bel_alloc (Below.refl _ _) (.cells #[.int .i64 0, .int .i64 0, .float .f64 0, .string ⟨#[]⟩, .slice none 0 0] 27))), (bel_step hbd (bel_alloc (Below.refl _ _) (.cells #[.int .i64 0, .int .i64 0, .float .f64 0, .string ⟨#[]⟩, .slice none 0 0] 27))), ⟨cs_new rfl, fun o => row_frz (row_alloc _ _ _) o⟩, hbd.size⟩ hHeld)
          case hstBhK004m =>
            intro K hK
            go_simp
            refine hK.out _ _ ?hsBhK004m (fun hHeld => ?_)
            case hsBhK004m => exact ((fb_step hq (bel_alloc (Below.refl _ _) (.cells #[.int .i64 0, .int .i64 0, .float .f64 0, .string ⟨#[]⟩, .slice none 0 0] 27)))).1
            clear hK K
            (try simp only [Act.put, List.setIfInBounds_toArray, List.set_cons_zero, List.set_cons_succ])
            exact any_eq (by kernel_rfl) (by kernel_rfl) (hK014 _ _ ⟨_, gC, rfl, (fb_step hq (bel_alloc (Below.refl _ _) (.cells #[.int .i64 0, .int .i64 0, .float .f64 0, .string ⟨#[]⟩, .slice none 0 0] 27))), (bel_step hbd (bel_alloc (Below.refl _ _) (.cells #[.int .i64 0, .int .i64 0, .float .f64 0, .string ⟨#[]⟩, .slice none 0 0] 27))), ⟨cs_new rfl, fun o => row_frz (row_alloc _ _ _) o⟩, hbd.size⟩ hHeld)
        refine any_have 10 [15, 16, 4, 5, 6] (fun a a' w' => ∃ (gA gB gC : Nat), a' = (((((a.put (some 8) (.pointer (some ⟨gA, 0, none⟩))).put (some 9) (.pointer (some ⟨gB, 0, none⟩))).put (some 32) (.slice (some ⟨gC, 0, none⟩) 2 2)).put (some 33) (.string ⟨#[107, bi]⟩)).put (some 34) (.agg #[.int .i64 3, .int .i64 0, .float .f64 0, .string ⟨#[107, bi]⟩, .slice none 0 0])) ∧ FB w sb qs ms ds w' ∧ Below wr.heap.size wr w' ∧ SBX w' gA (.int .i64 0) (.int .i64 0) (.float .f64 0) (.string ⟨#[]⟩) (.slice none 0 0) ∧ wr.heap.size ≤ gA ∧ SBX w' gB (.int .i64 0) (.int .i64 0) (.float .f64 0) (.string ⟨#[]⟩) (.slice none 0 0) ∧ wr.heap.size ≤ gB ∧ gA ≠ gB) ?phK113m (fun hK113 => ?_)
        case phK113m =>
          intro a' w' hst hHeld
          obtain ⟨gA, gB, gC, rfl, hq, hbd, hsA, hgA, hsB, hgB, hne⟩ := hst
          (try simp only [Act.put, List.setIfInBounds_toArray, List.set_cons_zero, List.set_cons_succ])
          refine wpAnyH_ready (rs := [8]) (by kernel_rfl) (by simp) ?_
          refine AllReadyH.cons (o := ?_) ?hoXhK113m ?hstXhK113m AllReadyH.nil
          case hoXhK113m => (simp only [List.getElem?_toArray, List.getElem?_cons_zero, List.getElem?_cons_succ]; rfl)
          case hstXhK113m =>
            intro K hK
            go_simp
            go_at_call 20; refine (int_ref_any _ _).mono ?_; rintro e wT ⟨rfl, hbT⟩
            go_wp2_with fail
            refine hK.out _ _ ?hsXhK113m (fun hHeld => ?_)
            case hsXhK113m => exact ((fb_step hq hbT)).1
            clear hK K
            (try simp only [Act.put, List.setIfInBounds_toArray, List.set_cons_zero, List.set_cons_succ])
            exact any_eq (by kernel_rfl) (by kernel_rfl) (hK114 _ _ ⟨gA, gB, gC, rfl, (fb_step hq hbT), (bel_step hbd hbT), (sbx_step hsA hbT), hgA, (sbx_step hsB hbT), hgB, hne⟩ hHeld)
        refine any_have 11 [15, 4, 5, 6] (fun a a' w' => ∃ (gA gC : Nat), a' = ((((a.put (some 8) (.pointer (some ⟨gA, 0, none⟩))).put (some 32) (.slice (some ⟨gC, 0, none⟩) 2 2)).put (some 33) (.string ⟨#[107, bi]⟩)).put (some 34) (.agg #[.int .i64 3, .int .i64 0, .float .f64 0, .string ⟨#[107, bi]⟩, .slice none 0 0])) ∧ FB w sb qs ms ds w' ∧ Below wr.heap.size wr w' ∧ SBX w' gA (.int .i64 0) (.int .i64 0) (.float .f64 0) (.string ⟨#[]⟩) (.slice none 0 0) ∧ wr.heap.size ≤ gA) ?phK103m (fun hK103 => ?_)
        case phK103m =>
          intro a' w' hst hHeld
          obtain ⟨gA, gC, rfl, hq, hbd, hsA, hgA⟩ := hst
          (try simp only [Act.put, List.setIfInBounds_toArray, List.set_cons_zero, List.set_cons_succ])
          refine wpAnyH_ready (rs := [8, 16]) (by kernel_rfl) (by simp) ?_
          refine AllReadyH.cons (o := ?_) ?hoXhK103m ?hstXhK103m (AllReadyH.cons (o := ?_) ?hoBhK103m ?hstBhK103m AllReadyH.nil)
          case hoXhK103m => (simp only [List.getElem?_toArray, List.getElem?_cons_zero, List.getElem?_cons_succ]; rfl)
          case hoBhK103m => (simp only [List.getElem?_toArray, List.getElem?_cons_zero, List.getElem?_cons_succ]; rfl)
          case hstXhK103m =>
            intro K hK
            go_simp
            go_at_call 20; refine (int_ref_any _ _).mono ?_; rintro e wT ⟨rfl, hbT⟩
            go_wp2_with fail
            refine hK.out _ _ ?hsXhK103m (fun hHeld => ?_)
            case hsXhK103m => exact ((fb_step hq hbT)).1
            clear hK K
            (try simp only [Act.put, List.setIfInBounds_toArray, List.set_cons_zero, List.set_cons_succ])
            exact any_eq (by kernel_rfl) (by kernel_rfl) (hK104 _ _ ⟨gA, gC, rfl, (fb_step hq hbT), (bel_step hbd hbT), (sbx_step hsA hbT), hgA⟩ hHeld)
          case hstBhK103m =>
            intro K hK
            go_simp
            refine hK.out _ _ ?hsBhK103m (fun hHeld => ?_)
            case hsBhK103m => exact ((fb_step hq (bel_alloc (Below.refl _ _) (.cells #[.int .i64 0, .int .i64 0, .float .f64 0, .string ⟨#[]⟩, .slice none 0 0] 27)))).1
            clear hK K
            (try simp only [Act.put, List.setIfInBounds_toArray, List.set_cons_zero, List.set_cons_succ])
            exact any_eq (by kernel_rfl) (by kernel_rfl) (hK113 _ _ ⟨gA, _, gC, rfl, (fb_step hq (bel_alloc (Below.refl _ _) (.cells #[.int .i64 0, .int .i64 0, .float .f64 0, .string ⟨#[]⟩, .slice none 0 0] 27))), (bel_step hbd (bel_alloc (Below.refl _ _) (.cells #[.int .i64 0, .int .i64 0, .float .f64 0, .string ⟨#[]⟩, .slice none 0 0] 27))), (sbx_step hsA (bel_alloc (Below.refl _ _) (.cells #[.int .i64 0, .int .i64 0, .float .f64 0, .string ⟨#[]⟩, .slice none 0 0] 27))), hgA, ⟨cs_new rfl, fun o => row_frz (row_alloc _ _ _) o⟩, hbd.size, (by have h := cs_lt hsA.1; omega)⟩ hHeld)
        refine any_have 11 [16, 4, 5, 6] (fun a a' w' => ∃ (gB gC : Nat), a' = ((((a.put (some 9) (.pointer (some ⟨gB, 0, none⟩))).put (some 32) (.slice (some ⟨gC, 0, none⟩) 2 2)).put (some 33) (.string ⟨#[107, bi]⟩)).put (some 34) (.agg #[.int .i64 3, .int .i64 0, .float .f64 0, .string ⟨#[107, bi]⟩, .slice none 0 0])) ∧ FB w sb qs ms ds w' ∧ Below wr.heap.size wr w' ∧ SBX w' gB (.int .i64 0) (.int .i64 0) (.float .f64 0) (.string ⟨#[]⟩) (.slice none 0 0) ∧ wr.heap.size ≤ gB) ?phK013m (fun hK013 => ?_)
        case phK013m =>
          intro a' w' hst hHeld
          obtain ⟨gB, gC, rfl, hq, hbd, hsB, hgB⟩ := hst
          (try simp only [Act.put, List.setIfInBounds_toArray, List.set_cons_zero, List.set_cons_succ])
          refine wpAnyH_ready (rs := [8, 15]) (by kernel_rfl) (by simp) ?_
          refine AllReadyH.cons (o := ?_) ?hoXhK013m ?hstXhK013m (AllReadyH.cons (o := ?_) ?hoAhK013m ?hstAhK013m AllReadyH.nil)
          case hoXhK013m => (simp only [List.getElem?_toArray, List.getElem?_cons_zero, List.getElem?_cons_succ]; rfl)
          case hoAhK013m => (simp only [List.getElem?_toArray, List.getElem?_cons_zero, List.getElem?_cons_succ]; rfl)
          case hstXhK013m =>
            intro K hK
            go_simp
            go_at_call 20; refine (int_ref_any _ _).mono ?_; rintro e wT ⟨rfl, hbT⟩
            go_wp2_with fail
            refine hK.out _ _ ?hsXhK013m (fun hHeld => ?_)
            case hsXhK013m => exact ((fb_step hq hbT)).1
            clear hK K
            (try simp only [Act.put, List.setIfInBounds_toArray, List.set_cons_zero, List.set_cons_succ])
            exact any_eq (by kernel_rfl) (by kernel_rfl) (hK014 _ _ ⟨gB, gC, rfl, (fb_step hq hbT), (bel_step hbd hbT), (sbx_step hsB hbT), hgB⟩ hHeld)
          case hstAhK013m =>
            intro K hK
            go_simp
            refine hK.out _ _ ?hsAhK013m (fun hHeld => ?_)
            case hsAhK013m => exact ((fb_step hq (bel_alloc (Below.refl _ _) (.cells #[.int .i64 0, .int .i64 0, .float .f64 0, .string ⟨#[]⟩, .slice none 0 0] 27)))).1
            clear hK K
            (try simp only [Act.put, List.setIfInBounds_toArray, List.set_cons_zero, List.set_cons_succ])
            exact any_eq (by kernel_rfl) (by kernel_rfl) (hK113 _ _ ⟨_, gB, gC, rfl, (fb_step hq (bel_alloc (Below.refl _ _) (.cells #[.int .i64 0, .int .i64 0, .float .f64 0, .string ⟨#[]⟩, .slice none 0 0] 27))), (bel_step hbd (bel_alloc (Below.refl _ _) (.cells #[.int .i64 0, .int .i64 0, .float .f64 0, .string ⟨#[]⟩, .slice none 0 0] 27))), ⟨cs_new rfl, fun o => row_frz (row_alloc _ _ _) o⟩, hbd.size, (sbx_step hsB (bel_alloc (Below.refl _ _) (.cells #[.int .i64 0, .int .i64 0, .float .f64 0, .string ⟨#[]⟩, .slice none 0 0] 27))), hgB, (by have h := cs_lt hsB.1; omega)⟩ hHeld)
        refine any_have 12 [4, 5, 6] (fun a a' w' => ∃ (gC : Nat), a' = (((a.put (some 32) (.slice (some ⟨gC, 0, none⟩) 2 2)).put (some 33) (.string ⟨#[107, bi]⟩)).put (some 34) (.agg #[.int .i64 3, .int .i64 0, .float .f64 0, .string ⟨#[107, bi]⟩, .slice none 0 0])) ∧ FB w sb qs ms ds w' ∧ Below wr.heap.size wr w') ?phK003m (fun hK003 => ?_)
        case phK003m =>
          intro a' w' hst hHeld
          obtain ⟨gC, rfl, hq, hbd⟩ := hst
          (try simp only [Act.put, List.setIfInBounds_toArray, List.set_cons_zero, List.set_cons_succ])
          refine wpAnyH_ready (rs := [8, 15, 16]) (by kernel_rfl) (by simp) ?_
          refine AllReadyH.cons (o := ?_) ?hoXhK003m ?hstXhK003m (AllReadyH.cons (o := ?_) ?hoAhK003m ?hstAhK003m (AllReadyH.cons (o := ?_) ?hoBhK003m ?hstBhK003m AllReadyH.nil))
          case hoXhK003m => (simp only [List.getElem?_toArray, List.getElem?_cons_zero, List.getElem?_cons_succ]; rfl)
          case hoAhK003m => (simp only [List.getElem?_toArray, List.getElem?_cons_zero, List.getElem?_cons_succ]; rfl)
          case hoBhK003m => (simp only [List.getElem?_toArray, List.getElem?_cons_zero, List.getElem?_cons_succ]; rfl)
          case hstXhK003m =>
            intro K hK
            go_simp
            go_at_call 20; refine (int_ref_any _ _).mono ?_; rintro e wT ⟨rfl, hbT⟩
            go_wp2_with fail
            refine hK.out _ _ ?hsXhK003m (fun hHeld => ?_)
            case hsXhK003m => exact ((fb_step hq hbT)).1
            clear hK K
            (try simp only [Act.put, List.setIfInBounds_toArray, List.set_cons_zero, List.set_cons_succ])
            exact any_eq (by kernel_rfl) (by kernel_rfl) (hK004 _ _ ⟨gC, rfl, (fb_step hq hbT), (bel_step hbd hbT)⟩ hHeld)
          case hstAhK003m =>
            intro K hK
            go_simp
            refine hK.out _ _ ?hsAhK003m (fun hHeld => ?_)
            case hsAhK003m => exact ((fb_step hq (bel_alloc (Below.refl _ _) (.cells #[.int .i64 0, .int .i64 0, .float .f64 0, .string ⟨#[]⟩, .slice none 0 0] 27)))).1
            clear hK K
            (try simp only [Act.put, List.setIfInBounds_toArray, List.set_cons_zero, List.set_cons_succ])
            exact any_eq (by kernel_rfl) (by kernel_rfl) (hK103 _ _ ⟨_, gC, rfl, (fb_step hq (bel_alloc (Below.refl _ _) (.cells #[.int .i64 0, .int .i64 0, .float .f64 0, .string ⟨#[]⟩, .slice none 0 0] 27))), (bel_step hbd (bel_alloc (Below.refl _ _) (.cells #[.int .i64 0, .int .i64 0, .float .f64 0, .string ⟨#[]⟩, .slice none 0 0] 27))), ⟨cs_new rfl, fun o => row_frz (row_alloc _ _ _) o⟩, hbd.size⟩ hHeld)
          case hstBhK003m =>
            intro K hK
            go_simp
            refine hK.out _ _ ?hsBhK003m (fun hHeld => ?_)
            case hsBhK003m => exact ((fb_step hq (bel_alloc (Below.refl _ _) (.cells #[.int .i64 0, .int .i64 0, .float .f64 0, .string ⟨#[]⟩, .slice none 0 0] 27)))).1
            clear hK K
            (try simp only [Act.put, List.setIfInBounds_toArray, List.set_cons_zero, List.set_cons_succ])
            exact any_eq (by kernel_rfl) (by kernel_rfl) (hK013 _ _ ⟨_, gC, rfl, (fb_step hq (bel_alloc (Below.refl _ _) (.cells #[.int .i64 0, .int .i64 0, .float .f64 0, .string ⟨#[]⟩, .slice none 0 0] 27))), (bel_step hbd (bel_alloc (Below.refl _ _) (.cells #[.int .i64 0, .int .i64 0, .float .f64 0, .string ⟨#[]⟩, .slice none 0 0] 27))), ⟨cs_new rfl, fun o => row_frz (row_alloc _ _ _) o⟩, hbd.size⟩ hHeld)
        refine any_have 11 [15, 16, 4, 5] (fun a a' w' => ∃ (gA gB gC : Nat), a' = ((((a.put (some 8) (.pointer (some ⟨gA, 0, none⟩))).put (some 9) (.pointer (some ⟨gB, 0, none⟩))).put (some 32) (.slice (some ⟨gC, 0, none⟩) 2 2)).put (some 33) (.string ⟨#[107, bi]⟩)) ∧ FB w sb qs ms ds w' ∧ Below wr.heap.size wr w' ∧ SBX w' gA (.int .i64 0) (.int .i64 0) (.float .f64 0) (.string ⟨#[]⟩) (.slice none 0 0) ∧ wr.heap.size ≤ gA ∧ SBX w' gB (.int .i64 0) (.int .i64 0) (.float .f64 0) (.string ⟨#[]⟩) (.slice none 0 0) ∧ wr.heap.size ≤ gB ∧ gA ≠ gB) ?phK112m (fun hK112 => ?_)
        case phK112m =>
          intro a' w' hst hHeld
          obtain ⟨gA, gB, gC, rfl, hq, hbd, hsA, hgA, hsB, hgB, hne⟩ := hst
          (try simp only [Act.put, List.setIfInBounds_toArray, List.set_cons_zero, List.set_cons_succ])
          refine wpAnyH_ready (rs := [6]) (by kernel_rfl) (by simp) ?_
          refine AllReadyH.cons (o := ?_) ?hoXhK112m ?hstXhK112m AllReadyH.nil
          case hoXhK112m => (simp only [List.getElem?_toArray, List.getElem?_cons_zero, List.getElem?_cons_succ]; rfl)
          case hstXhK112m =>
            intro K hK
            go_simp
            go_at_call 19; refine (text_ref_any _ _).mono ?_; rintro e wT ⟨rfl, hbT⟩
            go_wp2_with fail
            refine hK.out _ _ ?hsXhK112m (fun hHeld => ?_)
            case hsXhK112m => exact ((fb_step hq hbT)).1
            clear hK K
            (try simp only [Act.put, List.setIfInBounds_toArray, List.set_cons_zero, List.set_cons_succ])
            exact any_eq (by kernel_rfl) (by kernel_rfl) (hK113 _ _ ⟨gA, gB, gC, rfl, (fb_step hq hbT), (bel_step hbd hbT), (sbx_step hsA hbT), hgA, (sbx_step hsB hbT), hgB, hne⟩ hHeld)
        refine any_have 12 [15, 4, 5] (fun a a' w' => ∃ (gA gC : Nat), a' = (((a.put (some 8) (.pointer (some ⟨gA, 0, none⟩))).put (some 32) (.slice (some ⟨gC, 0, none⟩) 2 2)).put (some 33) (.string ⟨#[107, bi]⟩)) ∧ FB w sb qs ms ds w' ∧ Below wr.heap.size wr w' ∧ SBX w' gA (.int .i64 0) (.int .i64 0) (.float .f64 0) (.string ⟨#[]⟩) (.slice none 0 0) ∧ wr.heap.size ≤ gA) ?phK102m (fun hK102 => ?_)
        case phK102m =>
          intro a' w' hst hHeld
          obtain ⟨gA, gC, rfl, hq, hbd, hsA, hgA⟩ := hst
          (try simp only [Act.put, List.setIfInBounds_toArray, List.set_cons_zero, List.set_cons_succ])
          refine wpAnyH_ready (rs := [6, 16]) (by kernel_rfl) (by simp) ?_
          refine AllReadyH.cons (o := ?_) ?hoXhK102m ?hstXhK102m (AllReadyH.cons (o := ?_) ?hoBhK102m ?hstBhK102m AllReadyH.nil)
          case hoXhK102m => (simp only [List.getElem?_toArray, List.getElem?_cons_zero, List.getElem?_cons_succ]; rfl)
          case hoBhK102m => (simp only [List.getElem?_toArray, List.getElem?_cons_zero, List.getElem?_cons_succ]; rfl)
          case hstXhK102m =>
            intro K hK
            go_simp
            go_at_call 19; refine (text_ref_any _ _).mono ?_; rintro e wT ⟨rfl, hbT⟩
            go_wp2_with fail
            refine hK.out _ _ ?hsXhK102m (fun hHeld => ?_)
            case hsXhK102m => exact ((fb_step hq hbT)).1
            clear hK K
            (try simp only [Act.put, List.setIfInBounds_toArray, List.set_cons_zero, List.set_cons_succ])
            exact any_eq (by kernel_rfl) (by kernel_rfl) (hK103 _ _ ⟨gA, gC, rfl, (fb_step hq hbT), (bel_step hbd hbT), (sbx_step hsA hbT), hgA⟩ hHeld)
          case hstBhK102m =>
            intro K hK
            go_simp
            refine hK.out _ _ ?hsBhK102m (fun hHeld => ?_)
            case hsBhK102m => exact ((fb_step hq (bel_alloc (Below.refl _ _) (.cells #[.int .i64 0, .int .i64 0, .float .f64 0, .string ⟨#[]⟩, .slice none 0 0] 27)))).1
            clear hK K
            (try simp only [Act.put, List.setIfInBounds_toArray, List.set_cons_zero, List.set_cons_succ])
            exact any_eq (by kernel_rfl) (by kernel_rfl) (hK112 _ _ ⟨gA, _, gC, rfl, (fb_step hq (bel_alloc (Below.refl _ _) (.cells #[.int .i64 0, .int .i64 0, .float .f64 0, .string ⟨#[]⟩, .slice none 0 0] 27))), (bel_step hbd (bel_alloc (Below.refl _ _) (.cells #[.int .i64 0, .int .i64 0, .float .f64 0, .string ⟨#[]⟩, .slice none 0 0] 27))), (sbx_step hsA (bel_alloc (Below.refl _ _) (.cells #[.int .i64 0, .int .i64 0, .float .f64 0, .string ⟨#[]⟩, .slice none 0 0] 27))), hgA, ⟨cs_new rfl, fun o => row_frz (row_alloc _ _ _) o⟩, hbd.size, (by have h := cs_lt hsA.1; omega)⟩ hHeld)
        refine any_have 12 [16, 4, 5] (fun a a' w' => ∃ (gB gC : Nat), a' = (((a.put (some 9) (.pointer (some ⟨gB, 0, none⟩))).put (some 32) (.slice (some ⟨gC, 0, none⟩) 2 2)).put (some 33) (.string ⟨#[107, bi]⟩)) ∧ FB w sb qs ms ds w' ∧ Below wr.heap.size wr w' ∧ SBX w' gB (.int .i64 0) (.int .i64 0) (.float .f64 0) (.string ⟨#[]⟩) (.slice none 0 0) ∧ wr.heap.size ≤ gB) ?phK012m (fun hK012 => ?_)
        case phK012m =>
          intro a' w' hst hHeld
          obtain ⟨gB, gC, rfl, hq, hbd, hsB, hgB⟩ := hst
          (try simp only [Act.put, List.setIfInBounds_toArray, List.set_cons_zero, List.set_cons_succ])
          refine wpAnyH_ready (rs := [6, 15]) (by kernel_rfl) (by simp) ?_
          refine AllReadyH.cons (o := ?_) ?hoXhK012m ?hstXhK012m (AllReadyH.cons (o := ?_) ?hoAhK012m ?hstAhK012m AllReadyH.nil)
          case hoXhK012m => (simp only [List.getElem?_toArray, List.getElem?_cons_zero, List.getElem?_cons_succ]; rfl)
          case hoAhK012m => (simp only [List.getElem?_toArray, List.getElem?_cons_zero, List.getElem?_cons_succ]; rfl)
          case hstXhK012m =>
            intro K hK
            go_simp
            go_at_call 19; refine (text_ref_any _ _).mono ?_; rintro e wT ⟨rfl, hbT⟩
            go_wp2_with fail
            refine hK.out _ _ ?hsXhK012m (fun hHeld => ?_)
            case hsXhK012m => exact ((fb_step hq hbT)).1
            clear hK K
            (try simp only [Act.put, List.setIfInBounds_toArray, List.set_cons_zero, List.set_cons_succ])
            exact any_eq (by kernel_rfl) (by kernel_rfl) (hK013 _ _ ⟨gB, gC, rfl, (fb_step hq hbT), (bel_step hbd hbT), (sbx_step hsB hbT), hgB⟩ hHeld)
          case hstAhK012m =>
            intro K hK
            go_simp
            refine hK.out _ _ ?hsAhK012m (fun hHeld => ?_)
            case hsAhK012m => exact ((fb_step hq (bel_alloc (Below.refl _ _) (.cells #[.int .i64 0, .int .i64 0, .float .f64 0, .string ⟨#[]⟩, .slice none 0 0] 27)))).1
            clear hK K
            (try simp only [Act.put, List.setIfInBounds_toArray, List.set_cons_zero, List.set_cons_succ])
            exact any_eq (by kernel_rfl) (by kernel_rfl) (hK112 _ _ ⟨_, gB, gC, rfl, (fb_step hq (bel_alloc (Below.refl _ _) (.cells #[.int .i64 0, .int .i64 0, .float .f64 0, .string ⟨#[]⟩, .slice none 0 0] 27))), (bel_step hbd (bel_alloc (Below.refl _ _) (.cells #[.int .i64 0, .int .i64 0, .float .f64 0, .string ⟨#[]⟩, .slice none 0 0] 27))), ⟨cs_new rfl, fun o => row_frz (row_alloc _ _ _) o⟩, hbd.size, (sbx_step hsB (bel_alloc (Below.refl _ _) (.cells #[.int .i64 0, .int .i64 0, .float .f64 0, .string ⟨#[]⟩, .slice none 0 0] 27))), hgB, (by have h := cs_lt hsB.1; omega)⟩ hHeld)
        refine any_have 13 [4, 5] (fun a a' w' => ∃ (gC : Nat), a' = ((a.put (some 32) (.slice (some ⟨gC, 0, none⟩) 2 2)).put (some 33) (.string ⟨#[107, bi]⟩)) ∧ FB w sb qs ms ds w' ∧ Below wr.heap.size wr w') ?phK002m (fun hK002 => ?_)
        case phK002m =>
          intro a' w' hst hHeld
          obtain ⟨gC, rfl, hq, hbd⟩ := hst
          (try simp only [Act.put, List.setIfInBounds_toArray, List.set_cons_zero, List.set_cons_succ])
          refine wpAnyH_ready (rs := [6, 15, 16]) (by kernel_rfl) (by simp) ?_
          refine AllReadyH.cons (o := ?_) ?hoXhK002m ?hstXhK002m (AllReadyH.cons (o := ?_) ?hoAhK002m ?hstAhK002m (AllReadyH.cons (o := ?_) ?hoBhK002m ?hstBhK002m AllReadyH.nil))
          case hoXhK002m => (simp only [List.getElem?_toArray, List.getElem?_cons_zero, List.getElem?_cons_succ]; rfl)
          case hoAhK002m => (simp only [List.getElem?_toArray, List.getElem?_cons_zero, List.getElem?_cons_succ]; rfl)
          case hoBhK002m => (simp only [List.getElem?_toArray, List.getElem?_cons_zero, List.getElem?_cons_succ]; rfl)
          case hstXhK002m =>
            intro K hK
            go_simp
            go_at_call 19; refine (text_ref_any _ _).mono ?_; rintro e wT ⟨rfl, hbT⟩
            go_wp2_with fail
            refine hK.out _ _ ?hsXhK002m (fun hHeld => ?_)
            case hsXhK002m => exact ((fb_step hq hbT)).1
            clear hK K
            (try simp only [Act.put, List.setIfInBounds_toArray, List.set_cons_zero, List.set_cons_succ])
            exact any_eq (by kernel_rfl) (by kernel_rfl) (hK003 _ _ ⟨gC, rfl, (fb_step hq hbT), (bel_step hbd hbT)⟩ hHeld)
          case hstAhK002m =>
            intro K hK
            go_simp
            refine hK.out _ _ ?hsAhK002m (fun hHeld => ?_)
            case hsAhK002m => exact ((fb_step hq (bel_alloc (Below.refl _ _) (.cells #[.int .i64 0, .int .i64 0, .float .f64 0, .string ⟨#[]⟩, .slice none 0 0] 27)))).1
            clear hK K
            (try simp only [Act.put, List.setIfInBounds_toArray, List.set_cons_zero, List.set_cons_succ])
            exact any_eq (by kernel_rfl) (by kernel_rfl) (hK102 _ _ ⟨_, gC, rfl, (fb_step hq (bel_alloc (Below.refl _ _) (.cells #[.int .i64 0, .int .i64 0, .float .f64 0, .string ⟨#[]⟩, .slice none 0 0] 27))), (bel_step hbd (bel_alloc (Below.refl _ _) (.cells #[.int .i64 0, .int .i64 0, .float .f64 0, .string ⟨#[]⟩, .slice none 0 0] 27))), ⟨cs_new rfl, fun o => row_frz (row_alloc _ _ _) o⟩, hbd.size⟩ hHeld)
          case hstBhK002m =>
            intro K hK
            go_simp
            refine hK.out _ _ ?hsBhK002m (fun hHeld => ?_)
            case hsBhK002m => exact ((fb_step hq (bel_alloc (Below.refl _ _) (.cells #[.int .i64 0, .int .i64 0, .float .f64 0, .string ⟨#[]⟩, .slice none 0 0] 27)))).1
            clear hK K
            (try simp only [Act.put, List.setIfInBounds_toArray, List.set_cons_zero, List.set_cons_succ])
            exact any_eq (by kernel_rfl) (by kernel_rfl) (hK012 _ _ ⟨_, gC, rfl, (fb_step hq (bel_alloc (Below.refl _ _) (.cells #[.int .i64 0, .int .i64 0, .float .f64 0, .string ⟨#[]⟩, .slice none 0 0] 27))), (bel_step hbd (bel_alloc (Below.refl _ _) (.cells #[.int .i64 0, .int .i64 0, .float .f64 0, .string ⟨#[]⟩, .slice none 0 0] 27))), ⟨cs_new rfl, fun o => row_frz (row_alloc _ _ _) o⟩, hbd.size⟩ hHeld)
        refine any_have 12 [15, 16, 4] (fun a a' w' => ∃ (gA gB gC : Nat), a' = (((a.put (some 8) (.pointer (some ⟨gA, 0, none⟩))).put (some 9) (.pointer (some ⟨gB, 0, none⟩))).put (some 32) (.slice (some ⟨gC, 0, none⟩) 2 2)) ∧ FB w sb qs ms ds w' ∧ Below wr.heap.size wr w' ∧ SBX w' gA (.int .i64 0) (.int .i64 0) (.float .f64 0) (.string ⟨#[]⟩) (.slice none 0 0) ∧ wr.heap.size ≤ gA ∧ SBX w' gB (.int .i64 0) (.int .i64 0) (.float .f64 0) (.string ⟨#[]⟩) (.slice none 0 0) ∧ wr.heap.size ≤ gB ∧ gA ≠ gB ∧ w'.heap[gC]? = some (.cells #[.int .u8 107, .int .u8 ((i : Int) + 1)] 5 (0, 0))) ?phK111m (fun hK111 => ?_)
        case phK111m =>
          intro a' w' hst hHeld
          obtain ⟨gA, gB, gC, rfl, hq, hbd, hsA, hgA, hsB, hgB, hne, hrow⟩ := hst
          (try simp only [Act.put, List.setIfInBounds_toArray, List.set_cons_zero, List.set_cons_succ])
          refine wpAnyH_ready (rs := [5]) (by kernel_rfl) (by simp) ?_
          refine AllReadyH.cons (o := ?_) ?hoXhK111m ?hstXhK111m AllReadyH.nil
          case hoXhK111m => (simp only [List.getElem?_toArray, List.getElem?_cons_zero, List.getElem?_cons_succ]; rfl)
          case hstXhK111m =>
            intro K hK
            have hcv := conv2 (cap := 2) (b := 107) (b' := bi) rfl HBI.out.1 hrow; go_simp
            clear hcv
            go_wp2_with fail
            refine hK.out _ _ ?hsXhK111m (fun hHeld => ?_)
            case hsXhK111m => exact (hq).1
            clear hK K
            (try simp only [Act.put, List.setIfInBounds_toArray, List.set_cons_zero, List.set_cons_succ])
            exact any_eq (by kernel_rfl) (by kernel_rfl) (hK112 _ _ ⟨gA, gB, gC, rfl, hq, hbd, hsA, hgA, hsB, hgB, hne⟩ hHeld)
        refine any_have 13 [15, 4] (fun a a' w' => ∃ (gA gC : Nat), a' = ((a.put (some 8) (.pointer (some ⟨gA, 0, none⟩))).put (some 32) (.slice (some ⟨gC, 0, none⟩) 2 2)) ∧ FB w sb qs ms ds w' ∧ Below wr.heap.size wr w' ∧ SBX w' gA (.int .i64 0) (.int .i64 0) (.float .f64 0) (.string ⟨#[]⟩) (.slice none 0 0) ∧ wr.heap.size ≤ gA ∧ w'.heap[gC]? = some (.cells #[.int .u8 107, .int .u8 ((i : Int) + 1)] 5 (0, 0))) ?phK101m (fun hK101 => ?_)
        case phK101m =>
          intro a' w' hst hHeld
          obtain ⟨gA, gC, rfl, hq, hbd, hsA, hgA, hrow⟩ := hst
          (try simp only [Act.put, List.setIfInBounds_toArray, List.set_cons_zero, List.set_cons_succ])
          refine wpAnyH_ready (rs := [5, 16]) (by kernel_rfl) (by simp) ?_
          refine AllReadyH.cons (o := ?_) ?hoXhK101m ?hstXhK101m (AllReadyH.cons (o := ?_) ?hoBhK101m ?hstBhK101m AllReadyH.nil)
          case hoXhK101m => (simp only [List.getElem?_toArray, List.getElem?_cons_zero, List.getElem?_cons_succ]; rfl)
          case hoBhK101m => (simp only [List.getElem?_toArray, List.getElem?_cons_zero, List.getElem?_cons_succ]; rfl)
          case hstXhK101m =>
            intro K hK
            have hcv := conv2 (cap := 2) (b := 107) (b' := bi) rfl HBI.out.1 hrow; go_simp
            clear hcv
            go_wp2_with fail
            refine hK.out _ _ ?hsXhK101m (fun hHeld => ?_)
            case hsXhK101m => exact (hq).1
            clear hK K
            (try simp only [Act.put, List.setIfInBounds_toArray, List.set_cons_zero, List.set_cons_succ])
            exact any_eq (by kernel_rfl) (by kernel_rfl) (hK102 _ _ ⟨gA, gC, rfl, hq, hbd, hsA, hgA⟩ hHeld)
          case hstBhK101m =>
            intro K hK
            go_simp
            refine hK.out _ _ ?hsBhK101m (fun hHeld => ?_)
            case hsBhK101m => exact ((fb_step hq (bel_alloc (Below.refl _ _) (.cells #[.int .i64 0, .int .i64 0, .float .f64 0, .string ⟨#[]⟩, .slice none 0 0] 27)))).1
            clear hK K
            (try simp only [Act.put, List.setIfInBounds_toArray, List.set_cons_zero, List.set_cons_succ])
            exact any_eq (by kernel_rfl) (by kernel_rfl) (hK111 _ _ ⟨gA, _, gC, rfl, (fb_step hq (bel_alloc (Below.refl _ _) (.cells #[.int .i64 0, .int .i64 0, .float .f64 0, .string ⟨#[]⟩, .slice none 0 0] 27))), (bel_step hbd (bel_alloc (Below.refl _ _) (.cells #[.int .i64 0, .int .i64 0, .float .f64 0, .string ⟨#[]⟩, .slice none 0 0] 27))), (sbx_step hsA (bel_alloc (Below.refl _ _) (.cells #[.int .i64 0, .int .i64 0, .float .f64 0, .string ⟨#[]⟩, .slice none 0 0] 27))), hgA, ⟨cs_new rfl, fun o => row_frz (row_alloc _ _ _) o⟩, hbd.size, (by have h := cs_lt hsA.1; omega), (row_step hrow (bel_alloc (Below.refl _ _) (.cells #[.int .i64 0, .int .i64 0, .float .f64 0, .string ⟨#[]⟩, .slice none 0 0] 27)))⟩ hHeld)
        refine any_have 13 [16, 4] (fun a a' w' => ∃ (gB gC : Nat), a' = ((a.put (some 9) (.pointer (some ⟨gB, 0, none⟩))).put (some 32) (.slice (some ⟨gC, 0, none⟩) 2 2)) ∧ FB w sb qs ms ds w' ∧ Below wr.heap.size wr w' ∧ SBX w' gB (.int .i64 0) (.int .i64 0) (.float .f64 0) (.string ⟨#[]⟩) (.slice none 0 0) ∧ wr.heap.size ≤ gB ∧ w'.heap[gC]? = some (.cells #[.int .u8 107, .int .u8 ((i : Int) + 1)] 5 (0, 0))) ?phK011m (fun hK011 => ?_)
        case phK011m =>
          intro a' w' hst hHeld
          obtain ⟨gB, gC, rfl, hq, hbd, hsB, hgB, hrow⟩ := hst
          (try simp only [Act.put, List.setIfInBounds_toArray, List.set_cons_zero, List.set_cons_succ])
          refine wpAnyH_ready (rs := [5, 15]) (by kernel_rfl) (by simp) ?_
          refine AllReadyH.cons (o := ?_) ?hoXhK011m ?hstXhK011m (AllReadyH.cons (o := ?_) ?hoAhK011m ?hstAhK011m AllReadyH.nil)
          case hoXhK011m => (simp only [List.getElem?_toArray, List.getElem?_cons_zero, List.getElem?_cons_succ]; rfl)
          case hoAhK011m => (simp only [List.getElem?_toArray, List.getElem?_cons_zero, List.getElem?_cons_succ]; rfl)
          case hstXhK011m =>
            intro K hK
            have hcv := conv2 (cap := 2) (b := 107) (b' := bi) rfl HBI.out.1 hrow; go_simp
            clear hcv
            go_wp2_with fail
            refine hK.out _ _ ?hsXhK011m (fun hHeld => ?_)
            case hsXhK011m => exact (hq).1
            clear hK K
            (try simp only [Act.put, List.setIfInBounds_toArray, List.set_cons_zero, List.set_cons_succ])
            exact any_eq (by kernel_rfl) (by kernel_rfl) (hK012 _ _ ⟨gB, gC, rfl, hq, hbd, hsB, hgB⟩ hHeld)
          case hstAhK011m =>
            intro K hK
            go_simp
            refine hK.out _ _ ?hsAhK011m (fun hHeld => ?_)
            case hsAhK011m => exact ((fb_step hq (bel_alloc (Below.refl _ _) (.cells #[.int .i64 0, .int .i64 0, .float .f64 0, .string ⟨#[]⟩, .slice none 0 0] 27)))).1
            clear hK K
            (try simp only [Act.put, List.setIfInBounds_toArray, List.set_cons_zero, List.set_cons_succ])
            exact any_eq (by kernel_rfl) (by kernel_rfl) (hK111 _ _ ⟨_, gB, gC, rfl, (fb_step hq (bel_alloc (Below.refl _ _) (.cells #[.int .i64 0, .int .i64 0, .float .f64 0, .string ⟨#[]⟩, .slice none 0 0] 27))), (bel_step hbd (bel_alloc (Below.refl _ _) (.cells #[.int .i64 0, .int .i64 0, .float .f64 0, .string ⟨#[]⟩, .slice none 0 0] 27))), ⟨cs_new rfl, fun o => row_frz (row_alloc _ _ _) o⟩, hbd.size, (sbx_step hsB (bel_alloc (Below.refl _ _) (.cells #[.int .i64 0, .int .i64 0, .float .f64 0, .string ⟨#[]⟩, .slice none 0 0] 27))), hgB, (by have h := cs_lt hsB.1; omega), (row_step hrow (bel_alloc (Below.refl _ _) (.cells #[.int .i64 0, .int .i64 0, .float .f64 0, .string ⟨#[]⟩, .slice none 0 0] 27)))⟩ hHeld)
        refine any_have 14 [4] (fun a a' w' => ∃ (gC : Nat), a' = (a.put (some 32) (.slice (some ⟨gC, 0, none⟩) 2 2)) ∧ FB w sb qs ms ds w' ∧ Below wr.heap.size wr w' ∧ w'.heap[gC]? = some (.cells #[.int .u8 107, .int .u8 ((i : Int) + 1)] 5 (0, 0))) ?phK001m (fun hK001 => ?_)
        case phK001m =>
          intro a' w' hst hHeld
          obtain ⟨gC, rfl, hq, hbd, hrow⟩ := hst
          (try simp only [Act.put, List.setIfInBounds_toArray, List.set_cons_zero, List.set_cons_succ])
          refine wpAnyH_ready (rs := [5, 15, 16]) (by kernel_rfl) (by simp) ?_
          refine AllReadyH.cons (o := ?_) ?hoXhK001m ?hstXhK001m (AllReadyH.cons (o := ?_) ?hoAhK001m ?hstAhK001m (AllReadyH.cons (o := ?_) ?hoBhK001m ?hstBhK001m AllReadyH.nil))
          case hoXhK001m => (simp only [List.getElem?_toArray, List.getElem?_cons_zero, List.getElem?_cons_succ]; rfl)
          case hoAhK001m => (simp only [List.getElem?_toArray, List.getElem?_cons_zero, List.getElem?_cons_succ]; rfl)
          case hoBhK001m => (simp only [List.getElem?_toArray, List.getElem?_cons_zero, List.getElem?_cons_succ]; rfl)
          case hstXhK001m =>
            intro K hK
            have hcv := conv2 (cap := 2) (b := 107) (b' := bi) rfl HBI.out.1 hrow; go_simp
            clear hcv
            go_wp2_with fail
            refine hK.out _ _ ?hsXhK001m (fun hHeld => ?_)
            case hsXhK001m => exact (hq).1
            clear hK K
            (try simp only [Act.put, List.setIfInBounds_toArray, List.set_cons_zero, List.set_cons_succ])
            exact any_eq (by kernel_rfl) (by kernel_rfl) (hK002 _ _ ⟨gC, rfl, hq, hbd⟩ hHeld)
          case hstAhK001m =>
            intro K hK
            go_simp
            refine hK.out _ _ ?hsAhK001m (fun hHeld => ?_)
            case hsAhK001m => exact ((fb_step hq (bel_alloc (Below.refl _ _) (.cells #[.int .i64 0, .int .i64 0, .float .f64 0, .string ⟨#[]⟩, .slice none 0 0] 27)))).1
            clear hK K
            (try simp only [Act.put, List.setIfInBounds_toArray, List.set_cons_zero, List.set_cons_succ])
            exact any_eq (by kernel_rfl) (by kernel_rfl) (hK101 _ _ ⟨_, gC, rfl, (fb_step hq (bel_alloc (Below.refl _ _) (.cells #[.int .i64 0, .int .i64 0, .float .f64 0, .string ⟨#[]⟩, .slice none 0 0] 27))), (bel_step hbd (bel_alloc (Below.refl _ _) (.cells #[.int .i64 0, .int .i64 0, .float .f64 0, .string ⟨#[]⟩, .slice none 0 0] 27))), ⟨cs_new rfl, fun o => row_frz (row_alloc _ _ _) o⟩, hbd.size, (row_step hrow (bel_alloc (Below.refl _ _) (.cells #[.int .i64 0, .int .i64 0, .float .f64 0, .string ⟨#[]⟩, .slice none 0 0] 27)))⟩ hHeld)
          case hstBhK001m =>
            intro K hK
            go_simp
            refine hK.out _ _ ?hsBhK001m (fun hHeld => ?_)
            case hsBhK001m => exact ((fb_step hq (bel_alloc (Below.refl _ _) (.cells #[.int .i64 0, .int .i64 0, .float .f64 0, .string ⟨#[]⟩, .slice none 0 0] 27)))).1
            clear hK K
            (try simp only [Act.put, List.setIfInBounds_toArray, List.set_cons_zero, List.set_cons_succ])
            exact any_eq (by kernel_rfl) (by kernel_rfl) (hK011 _ _ ⟨_, gC, rfl, (fb_step hq (bel_alloc (Below.refl _ _) (.cells #[.int .i64 0, .int .i64 0, .float .f64 0, .string ⟨#[]⟩, .slice none 0 0] 27))), (bel_step hbd (bel_alloc (Below.refl _ _) (.cells #[.int .i64 0, .int .i64 0, .float .f64 0, .string ⟨#[]⟩, .slice none 0 0] 27))), ⟨cs_new rfl, fun o => row_frz (row_alloc _ _ _) o⟩, hbd.size, (row_step hrow (bel_alloc (Below.refl _ _) (.cells #[.int .i64 0, .int .i64 0, .float .f64 0, .string ⟨#[]⟩, .slice none 0 0] 27)))⟩ hHeld)
        refine any_have 13 [15, 16] (fun a a' w' => ∃ (gA gB : Nat), a' = ((a.put (some 8) (.pointer (some ⟨gA, 0, none⟩))).put (some 9) (.pointer (some ⟨gB, 0, none⟩))) ∧ FB w sb qs ms ds w' ∧ Below wr.heap.size wr w' ∧ SBX w' gA (.int .i64 0) (.int .i64 0) (.float .f64 0) (.string ⟨#[]⟩) (.slice none 0 0) ∧ wr.heap.size ≤ gA ∧ SBX w' gB (.int .i64 0) (.int .i64 0) (.float .f64 0) (.string ⟨#[]⟩) (.slice none 0 0) ∧ wr.heap.size ≤ gB ∧ gA ≠ gB) ?phK110m (fun hK110 => ?_)
        case phK110m =>
          intro a' w' hst hHeld
          obtain ⟨gA, gB, rfl, hq, hbd, hsA, hgA, hsB, hgB, hne⟩ := hst
          (try simp only [Act.put, List.setIfInBounds_toArray, List.set_cons_zero, List.set_cons_succ])
          refine wpAnyH_ready (rs := [4]) (by kernel_rfl) (by simp) ?_
          refine AllReadyH.cons (o := ?_) ?hoXhK110m ?hstXhK110m AllReadyH.nil
          case hoXhK110m => (simp only [List.getElem?_toArray, List.getElem?_cons_zero, List.getElem?_cons_succ]; rfl)
          case hstXhK110m =>
            intro K hK
            go_simp
            refine hK.out _ _ ?hsXhK110m (fun hHeld => ?_)
            case hsXhK110m => exact ((fb_step hq (bel_alloc (Below.refl _ _) (.cells #[.int .u8 107, .int .u8 ((i : Int) + 1)] 5)))).1
            clear hK K
            (try simp only [Act.put, List.setIfInBounds_toArray, List.set_cons_zero, List.set_cons_succ])
            exact any_eq (by kernel_rfl) (by kernel_rfl) (hK111 _ _ ⟨gA, gB, _, rfl, (fb_step hq (bel_alloc (Below.refl _ _) (.cells #[.int .u8 107, .int .u8 ((i : Int) + 1)] 5))), (bel_step hbd (bel_alloc (Below.refl _ _) (.cells #[.int .u8 107, .int .u8 ((i : Int) + 1)] 5))), (sbx_step hsA (bel_alloc (Below.refl _ _) (.cells #[.int .u8 107, .int .u8 ((i : Int) + 1)] 5))), hgA, (sbx_step hsB (bel_alloc (Below.refl _ _) (.cells #[.int .u8 107, .int .u8 ((i : Int) + 1)] 5))), hgB, hne, row_alloc _ _ _⟩ hHeld)
        refine any_have 14 [15] (fun a a' w' => ∃ (gA : Nat), a' = (a.put (some 8) (.pointer (some ⟨gA, 0, none⟩))) ∧ FB w sb qs ms ds w' ∧ Below wr.heap.size wr w' ∧ SBX w' gA (.int .i64 0) (.int .i64 0) (.float .f64 0) (.string ⟨#[]⟩) (.slice none 0 0) ∧ wr.heap.size ≤ gA) ?phK100m (fun hK100 => ?_)
        case phK100m =>
          intro a' w' hst hHeld
          obtain ⟨gA, rfl, hq, hbd, hsA, hgA⟩ := hst
          (try simp only [Act.put, List.setIfInBounds_toArray, List.set_cons_zero, List.set_cons_succ])
          refine wpAnyH_ready (rs := [4, 16]) (by kernel_rfl) (by simp) ?_
          refine AllReadyH.cons (o := ?_) ?hoXhK100m ?hstXhK100m (AllReadyH.cons (o := ?_) ?hoBhK100m ?hstBhK100m AllReadyH.nil)
          case hoXhK100m => (simp only [List.getElem?_toArray, List.getElem?_cons_zero, List.getElem?_cons_succ]; rfl)
          case hoBhK100m => (simp only [List.getElem?_toArray, List.getElem?_cons_zero, List.getElem?_cons_succ]; rfl)
          case hstXhK100m =>
            intro K hK
            go_simp
            refine hK.out _ _ ?hsXhK100m (fun hHeld => ?_)
            case hsXhK100m => exact ((fb_step hq (bel_alloc (Below.refl _ _) (.cells #[.int .u8 107, .int .u8 ((i : Int) + 1)] 5)))).1
            clear hK K
            (try simp only [Act.put, List.setIfInBounds_toArray, List.set_cons_zero, List.set_cons_succ])
            exact any_eq (by kernel_rfl) (by kernel_rfl) (hK101 _ _ ⟨gA, _, rfl, (fb_step hq (bel_alloc (Below.refl _ _) (.cells #[.int .u8 107, .int .u8 ((i : Int) + 1)] 5))), (bel_step hbd (bel_alloc (Below.refl _ _) (.cells #[.int .u8 107, .int .u8 ((i : Int) + 1)] 5))), (sbx_step hsA (bel_alloc (Below.refl _ _) (.cells #[.int .u8 107, .int .u8 ((i : Int) + 1)] 5))), hgA, row_alloc _ _ _⟩ hHeld)
          case hstBhK100m =>
            intro K hK
            go_simp
            refine hK.out _ _ ?hsBhK100m (fun hHeld => ?_)
            case hsBhK100m => exact ((fb_step hq (bel_alloc (Below.refl _ _) (.cells #[.int .i64 0, .int .i64 0, .float .f64 0, .string ⟨#[]⟩, .slice none 0 0] 27)))).1
            clear hK K
            (try simp only [Act.put, List.setIfInBounds_toArray, List.set_cons_zero, List.set_cons_succ])
            exact any_eq (by kernel_rfl) (by kernel_rfl) (hK110 _ _ ⟨gA, _, rfl, (fb_step hq (bel_alloc (Below.refl _ _) (.cells #[.int .i64 0, .int .i64 0, .float .f64 0, .string ⟨#[]⟩, .slice none 0 0] 27))), (bel_step hbd (bel_alloc (Below.refl _ _) (.cells #[.int .i64 0, .int .i64 0, .float .f64 0, .string ⟨#[]⟩, .slice none 0 0] 27))), (sbx_step hsA (bel_alloc (Below.refl _ _) (.cells #[.int .i64 0, .int .i64 0, .float .f64 0, .string ⟨#[]⟩, .slice none 0 0] 27))), hgA, ⟨cs_new rfl, fun o => row_frz (row_alloc _ _ _) o⟩, hbd.size, (by have h := cs_lt hsA.1; omega)⟩ hHeld)
        refine any_have 14 [16] (fun a a' w' => ∃ (gB : Nat), a' = (a.put (some 9) (.pointer (some ⟨gB, 0, none⟩))) ∧ FB w sb qs ms ds w' ∧ Below wr.heap.size wr w' ∧ SBX w' gB (.int .i64 0) (.int .i64 0) (.float .f64 0) (.string ⟨#[]⟩) (.slice none 0 0) ∧ wr.heap.size ≤ gB) ?phK010m (fun hK010 => ?_)
        case phK010m =>
          intro a' w' hst hHeld
          obtain ⟨gB, rfl, hq, hbd, hsB, hgB⟩ := hst
          (try simp only [Act.put, List.setIfInBounds_toArray, List.set_cons_zero, List.set_cons_succ])
          refine wpAnyH_ready (rs := [4, 15]) (by kernel_rfl) (by simp) ?_
          refine AllReadyH.cons (o := ?_) ?hoXhK010m ?hstXhK010m (AllReadyH.cons (o := ?_) ?hoAhK010m ?hstAhK010m AllReadyH.nil)
          case hoXhK010m => (simp only [List.getElem?_toArray, List.getElem?_cons_zero, List.getElem?_cons_succ]; rfl)
          case hoAhK010m => (simp only [List.getElem?_toArray, List.getElem?_cons_zero, List.getElem?_cons_succ]; rfl)
          case hstXhK010m =>
            intro K hK
            go_simp
            refine hK.out _ _ ?hsXhK010m (fun hHeld => ?_)
            case hsXhK010m => exact ((fb_step hq (bel_alloc (Below.refl _ _) (.cells #[.int .u8 107, .int .u8 ((i : Int) + 1)] 5)))).1
            clear hK K
            (try simp only [Act.put, List.setIfInBounds_toArray, List.set_cons_zero, List.set_cons_succ])
            exact any_eq (by kernel_rfl) (by kernel_rfl) (hK011 _ _ ⟨gB, _, rfl, (fb_step hq (bel_alloc (Below.refl _ _) (.cells #[.int .u8 107, .int .u8 ((i : Int) + 1)] 5))), (bel_step hbd (bel_alloc (Below.refl _ _) (.cells #[.int .u8 107, .int .u8 ((i : Int) + 1)] 5))), (sbx_step hsB (bel_alloc (Below.refl _ _) (.cells #[.int .u8 107, .int .u8 ((i : Int) + 1)] 5))), hgB, row_alloc _ _ _⟩ hHeld)
          case hstAhK010m =>
            intro K hK
            go_simp
            refine hK.out _ _ ?hsAhK010m (fun hHeld => ?_)
            case hsAhK010m => exact ((fb_step hq (bel_alloc (Below.refl _ _) (.cells #[.int .i64 0, .int .i64 0, .float .f64 0, .string ⟨#[]⟩, .slice none 0 0] 27)))).1
            clear hK K
            (try simp only [Act.put, List.setIfInBounds_toArray, List.set_cons_zero, List.set_cons_succ])
            exact any_eq (by kernel_rfl) (by kernel_rfl) (hK110 _ _ ⟨_, gB, rfl, (fb_step hq (bel_alloc (Below.refl _ _) (.cells #[.int .i64 0, .int .i64 0, .float .f64 0, .string ⟨#[]⟩, .slice none 0 0] 27))), (bel_step hbd (bel_alloc (Below.refl _ _) (.cells #[.int .i64 0, .int .i64 0, .float .f64 0, .string ⟨#[]⟩, .slice none 0 0] 27))), ⟨cs_new rfl, fun o => row_frz (row_alloc _ _ _) o⟩, hbd.size, (sbx_step hsB (bel_alloc (Below.refl _ _) (.cells #[.int .i64 0, .int .i64 0, .float .f64 0, .string ⟨#[]⟩, .slice none 0 0] 27))), hgB, (by have h := cs_lt hsB.1; omega)⟩ hHeld)
        refine wpAnyH_ready (rs := [4, 15, 16]) (by kernel_rfl) (by simp) ?_
        refine AllReadyH.cons (o := ?_) ?hoXzm ?hstXzm (AllReadyH.cons (o := ?_) ?hoAzm ?hstAzm (AllReadyH.cons (o := ?_) ?hoBzm ?hstBzm AllReadyH.nil))
        case hoXzm => (simp only [List.getElem?_toArray, List.getElem?_cons_zero, List.getElem?_cons_succ]; rfl)
        case hoAzm => (simp only [List.getElem?_toArray, List.getElem?_cons_zero, List.getElem?_cons_succ]; rfl)
        case hoBzm => (simp only [List.getElem?_toArray, List.getElem?_cons_zero, List.getElem?_cons_succ]; rfl)
        case hstXzm =>
          intro K hK
          go_simp
          refine hK.out _ _ ?hsXzm (fun hHeld => ?_)
          case hsXzm => exact ((fb_step hq (bel_alloc (Below.refl _ _) (.cells #[.int .u8 107, .int .u8 ((i : Int) + 1)] 5)))).1
          clear hK K
          (try simp only [Act.put, List.setIfInBounds_toArray, List.set_cons_zero, List.set_cons_succ])
          exact any_eq (by kernel_rfl) (by kernel_rfl) (hK001 _ _ ⟨_, rfl, (fb_step hq (bel_alloc (Below.refl _ _) (.cells #[.int .u8 107, .int .u8 ((i : Int) + 1)] 5))), (bel_step hbd (bel_alloc (Below.refl _ _) (.cells #[.int .u8 107, .int .u8 ((i : Int) + 1)] 5))), row_alloc _ _ _⟩ hHeld)
        case hstAzm =>
          intro K hK
          go_simp
          refine hK.out _ _ ?hsAzm (fun hHeld => ?_)
          case hsAzm => exact ((fb_step hq (bel_alloc (Below.refl _ _) (.cells #[.int .i64 0, .int .i64 0, .float .f64 0, .string ⟨#[]⟩, .slice none 0 0] 27)))).1
          clear hK K
          (try simp only [Act.put, List.setIfInBounds_toArray, List.set_cons_zero, List.set_cons_succ])
          exact any_eq (by kernel_rfl) (by kernel_rfl) (hK100 _ _ ⟨_, rfl, (fb_step hq (bel_alloc (Below.refl _ _) (.cells #[.int .i64 0, .int .i64 0, .float .f64 0, .string ⟨#[]⟩, .slice none 0 0] 27))), (bel_step hbd (bel_alloc (Below.refl _ _) (.cells #[.int .i64 0, .int .i64 0, .float .f64 0, .string ⟨#[]⟩, .slice none 0 0] 27))), ⟨cs_new rfl, fun o => row_frz (row_alloc _ _ _) o⟩, hbd.size⟩ hHeld)
        case hstBzm =>
          intro K hK
          go_simp
          refine hK.out _ _ ?hsBzm (fun hHeld => ?_)
          case hsBzm => exact ((fb_step hq (bel_alloc (Below.refl _ _) (.cells #[.int .i64 0, .int .i64 0, .float .f64 0, .string ⟨#[]⟩, .slice none 0 0] 27)))).1
          clear hK K
          (try simp only [Act.put, List.setIfInBounds_toArray, List.set_cons_zero, List.set_cons_succ])
          exact any_eq (by kernel_rfl) (by kernel_rfl) (hK010 _ _ ⟨_, rfl, (fb_step hq (bel_alloc (Below.refl _ _) (.cells #[.int .i64 0, .int .i64 0, .float .f64 0, .string ⟨#[]⟩, .slice none 0 0] 27))), (bel_step hbd (bel_alloc (Below.refl _ _) (.cells #[.int .i64 0, .int .i64 0, .float .f64 0, .string ⟨#[]⟩, .slice none 0 0] 27))), ⟨cs_new rfl, fun o => row_frz (row_alloc _ _ _) o⟩, hbd.size⟩ hHeld)
      case rest =>
      obtain ⟨gA, gB, Kt, It, Ft, Zt, qt, mt, dt, Kv, Iv, Fv, Zv, qv, mv, dv, rfl, rfl, rfl, hca, hcb, hfb, hbel, hrt, hrv⟩ := hcut
      rcases HZ.out with ⟨h32, rfl, rfl⟩ | ⟨h32, rfl⟩
      · obtain ⟨rfl, rfl, rfl, rfl⟩ := rep_tab5 (repS_rep _ _ _ hrt)
        have hni : ¬ (32 : Int) ≤ (i : Int) := by omega
        have HRT := Lib.hid hrt
        have HFC := Lib.hid hfb
        obtain ⟨x0, x1, x2, x3, x4⟩ := hca
        obtain ⟨⟨y0, y1, y2, y3, y4⟩, _, yf⟩ := hfb
        have yl := cell_lt y0
        have hsbr : sb < wr.heap.size := cs_lt HFB.out.1
        clear hcb hrv hrt hbel HDO HZ HFB HSTr
        go_wp2
        go_roundw
        case rel => exact ⟨i + 1, qt, mt, dt, by omega, by go_num, fb_new HFC.out h1 qt mt dt, repS_set (repS_mono (fun b hb => by have h := hb.1; omega) _ _ _ HRT.out) (fun b hb => by omega)⟩
        case measure => simp [intOf]; omega
      · have hni : (32 : Int) ≤ (i : Int) := by omega
        have HFC := Lib.hid hfb
        have HSC := Lib.hid (repS_step hbel HSTr.out)
        clear hcb hrv hrt hbel HDO HFB HSTr hca hfb
        go_wp2
        go_roundw
        case rel => exact ⟨i + 1, qs, ms, ds, by omega, by go_num, HFC.out, by rw [upF_all _ (by omega : 32 ≤ i + 1), ← upF_all i h32]; exact HSC.out⟩
        case measure => simp [intOf]; omega
    · have hilt : ¬ (i : Int) < 30 + (m : Int) := by omega
      have hie : i = 30 + m := by omega
      have HIE := Lib.hid hie
      obtain ⟨kk, hkk⟩ : ∃ kk : Nat, kk = min (30 + m) 32 := ⟨_, rfl⟩
      have hmn : (if (32 : Int) < 30 + (m : Int) then (32 : Int) else 30 + (m : Int)) = (kk : Int) := by
        rw [hkk]; split <;> omega
      obtain ⟨ii, hii⟩ : ∃ ii, ag % kk = ii := ⟨_, rfl⟩
      have hag : (ag : Int) % (kk : Int) = (ii : Int) := by rw [← hii]; exact (Int.natCast_emod ag kk).symm
      have hik : ii < kk := by rw [← hii]; exact Nat.mod_lt _ (by omega)
      have hii32 : ii < 32 := by omega
      have hiim : ii < i := by omega
      obtain ⟨bi, hbi⟩ : ∃ b, UInt8.ofNat (ii + 1) = b := ⟨_, rfl⟩
      have HBI := Lib.hid (show (bi.toNat : Int) = (ii : Int) + 1 ∧ (⟨#[107, bi]⟩ : ByteArray) = nmF ii from ⟨by rw [← hbi]; exact ofN1 (by omega), by rw [← hbi]; rfl⟩)
      have hw8 : IntKind.u8.wrap ((ii : Int) + 1) = (ii : Int) + 1 := by rw [IntKind.wrap_u8]; omega
      have hw64 : IntKind.i64.wrap ((ii : Int) + 1) = (ii : Int) + 1 := by rw [IntKind.wrap_i64]; omega
      have hi0 : (0 : Int) ≤ (ii : Int) := by omega
      clear hbi hkk hii hlt hie hil
      obtain ⟨TT, UU, hUU, HDO⟩ : ∃ (TT : VT 3) (UU : VT 1), UU = (1, (ii : Int), 0, ⟨#[]⟩, []) ∧ Hid (∀ (W : World) (g : Nat), Rep W 3 (.agg #[.int .i64 4, .int .i64 0, .float .f64 0, .string ⟨#[]⟩, .slice qs ms ds]) (tableT 0 (setE 32 fF (upF i))) → LV g (nmF ii) 3 0 0 ⟨#[120]⟩ W → Calls Try.prog 12 #[.agg #[.int .i64 4, .int .i64 0, .float .f64 0, .string ⟨#[]⟩, .slice qs ms ds], .string { data := #[112, 117, 116] }, .slice (some ⟨g, 0, none⟩) 2 2] W fun e w' => DoQ W 3 1 TT UU 0 e w') :=
        ⟨_, _, (by unfold hadE; rw [if_pos (by unfold upF; exact decide_eq_true hiim)]; rfl), Lib.hid (fun W g hs hr => put_new fam_F (upF i) ii hii32 (by unfold upF; exact decide_eq_true hiim) (small_txt (by decide : (⟨#[120]⟩ : ByteArray).size ≤ 37)) hs hr)⟩
      have HUU := Lib.hid hUU
      clear hUU
      go_upto_region 16 with fail
      (try simp only [hmn])
      (try simp only [hag])
      go_cut [12, 13, 14] (fun s12 s13 s14 wx => Put16 w wr sb qs ms ds TT UU s12 s13 s14 wx)
      case first =>
        have hsbr : sb < wr.heap.size := cs_lt HFB.out.1
        have hwr : w.heap.size ≤ wr.heap.size := HFB.out.2.1.size
        refine wp_region_held_drew (S := (fun z => z.cell? ⟨sb, 0, none⟩ = some (.int .i64 4) ∧ z.cell? ⟨sb, 1, none⟩ = some (.int .i64 0) ∧ z.cell? ⟨sb, 2, none⟩ = some (.float .f64 0) ∧ z.cell? ⟨sb, 3, none⟩ = some (.string ⟨#[]⟩) ∧ z.cell? ⟨sb, 4, none⟩ = some (.slice qs ms ds))) (by kernel_rfl) ?_ (fun hHeld => ?_)
        · exact (fb_drew HFB.out).1
        have HDW := Lib.hid (show FB w sb qs ms ds wr.drew ∧ Below wr.heap.size wr wr.drew from ⟨fb_drew HFB.out, Below.drew (Below.refl _ _)⟩)
        revert HDW hHeld
        generalize wr.drew = Wd
        intro hHeld HDW
        have hq := HDW.out.1
        have hbd := HDW.out.2
        refine wpAnyH_take (i := 0) (oi := ?_) (v := ?_) ?hiu0 (by kernel_rfl) ?hfu0 ?hru0 ?hQu0 ?hyu0 (by assumption) ?restu0
        case hiu0 => (simp only [List.getElem?_toArray, List.getElem?_cons_zero, List.getElem?_cons_succ]; rfl)
        case hfu0 => kernel_rfl
        case hru0 => kernel_rfl
        case hyu0 => (refine Or.inl ⟨by rfl, ?_⟩; intro wS hSw; (try dsimp only at hSw); go_simp; (try with_reducible rfl))
        case hQu0 => exact fun _ _ _ h => h
        (try simp only [Act.put, List.setIfInBounds_toArray, List.set_cons_zero, List.set_cons_succ])
        refine wpAnyH_take (i := 1) (oi := ?_) (v := ?_) ?hiu1 (by kernel_rfl) ?hfu1 ?hru1 ?hQu1 ?hyu1 (by assumption) ?restu1
        case hiu1 => (simp only [List.getElem?_toArray, List.getElem?_cons_zero, List.getElem?_cons_succ]; rfl)
        case hfu1 => kernel_rfl
        case hru1 => kernel_rfl
        case hyu1 => (refine Or.inl ⟨by rfl, ?_⟩; intro wS hSw; (try dsimp only at hSw); go_simp; (try with_reducible rfl))
        case hQu1 => exact fun _ _ _ h => h
        (try simp only [Act.put, List.setIfInBounds_toArray, List.set_cons_zero, List.set_cons_succ])
        refine wpAnyH_take (i := 2) (oi := ?_) (v := ?_) ?hiu2 (by kernel_rfl) ?hfu2 ?hru2 ?hQu2 ?hyu2 (by assumption) ?restu2
        case hiu2 => (simp only [List.getElem?_toArray, List.getElem?_cons_zero, List.getElem?_cons_succ]; rfl)
        case hfu2 => kernel_rfl
        case hru2 => kernel_rfl
        case hyu2 => (refine Or.inl ⟨by rfl, ?_⟩; intro wS hSw; (try dsimp only at hSw); go_simp; (try with_reducible rfl))
        case hQu2 => exact fun _ _ _ h => h
        (try simp only [Act.put, List.setIfInBounds_toArray, List.set_cons_zero, List.set_cons_succ])
        refine wpAnyH_take (i := 3) (oi := ?_) (v := ?_) ?hiu3 (by kernel_rfl) ?hfu3 ?hru3 ?hQu3 ?hyu3 (by assumption) ?restu3
        case hiu3 => (simp only [List.getElem?_toArray, List.getElem?_cons_zero, List.getElem?_cons_succ]; rfl)
        case hfu3 => kernel_rfl
        case hru3 => kernel_rfl
        case hyu3 => (refine Or.inl ⟨by rfl, ?_⟩; intro wS hSw; (try dsimp only at hSw); go_simp; (try with_reducible rfl))
        case hQu3 => exact fun _ _ _ h => h
        (try simp only [Act.put, List.setIfInBounds_toArray, List.set_cons_zero, List.set_cons_succ])
        refine any_have 3 [14, 15, 4, 5, 6, 7, 8, 9, 10, 11, 12, 13] (fun a a' w' => ∃ (gA gB gC gE : Nat), ∃ (Kt It : Int) (Ft : Nat) (Zt : ByteArray) (qt : Option Addr) (mt dt : Nat) (Kv Iv : Int) (Fv : Nat) (Zv : ByteArray) (qv : Option Addr) (mv dv : Nat), a' = ((((((((((((a.put (some 12) (.pointer (some ⟨gA, 0, none⟩))).put (some 13) (.pointer (some ⟨gB, 0, none⟩))).put (some 59) (.slice (some ⟨gC, 0, none⟩) 2 2)).put (some 60) (.string ⟨#[107, bi]⟩)).put (some 61) (.agg #[.int .i64 3, .int .i64 0, .float .f64 0, .string ⟨#[107, bi]⟩, .slice none 0 0])).put (some 62) (.agg #[.int .i64 3, .int .i64 0, .float .f64 0, .string { data := #[120] }, .slice none 0 0])).put (some 63) (.slice (some ⟨gE, 0, none⟩) 2 2)).put (some 64) (.tuple #[.agg #[.int .i64 Kt, .int .i64 It, .float .f64 Ft, .string Zt, .slice qt mt dt], .agg #[.int .i64 Kv, .int .i64 Iv, .float .f64 Fv, .string Zv, .slice qv mv dv], .int .i64 0])).put (some 54) (.tuple #[.agg #[.int .i64 Kt, .int .i64 It, .float .f64 Ft, .string Zt, .slice qt mt dt], .agg #[.int .i64 Kv, .int .i64 Iv, .float .f64 Fv, .string Zv, .slice qv mv dv], .int .i64 0])).put (some 65) (.agg #[.int .i64 Kt, .int .i64 It, .float .f64 Ft, .string Zt, .slice qt mt dt])).put (some 66) (.agg #[.int .i64 Kv, .int .i64 Iv, .float .f64 Fv, .string Zv, .slice qv mv dv])).put (some 67) (.int .i64 0)) ∧ FB w sb qs ms ds w' ∧ Below wr.heap.size wr w' ∧ SBX w' gA (.int .i64 0) (.int .i64 0) (.float .f64 0) (.string ⟨#[]⟩) (.slice none 0 0) ∧ wr.heap.size ≤ gA ∧ SBX w' gB (.int .i64 0) (.int .i64 0) (.float .f64 0) (.string ⟨#[]⟩) (.slice none 0 0) ∧ wr.heap.size ≤ gB ∧ gA ≠ gB ∧ RepS (fun b => wr.heap.size ≤ b ∧ b ≠ gA ∧ b ≠ gB) w' 3 (.agg #[.int .i64 Kt, .int .i64 It, .float .f64 Ft, .string Zt, .slice qt mt dt]) (TT) ∧ RepS (fun b => wr.heap.size ≤ b ∧ b ≠ gA ∧ b ≠ gB) w' 1 (.agg #[.int .i64 Kv, .int .i64 Iv, .float .f64 Fv, .string Zv, .slice qv mv dv]) (UU)) ?phK116n (fun hK116 => ?_)
        case phK116n =>
          intro a' w' hst hHeld
          obtain ⟨gA, gB, gC, gE, Kt, It, Ft, Zt, qt, mt, dt, Kv, Iv, Fv, Zv, qv, mv, dv, rfl, hq, hbd, hsA, hgA, hsB, hgB, hne, ht, hv⟩ := hst
          (try simp only [Act.put, List.setIfInBounds_toArray, List.set_cons_zero, List.set_cons_succ])
          have hcA := hsA.1; have hcB := hsB.1
          refine wpAnyH_ready (rs := [16]) (by kernel_rfl) (by simp) ?_
          refine AllReadyH.cons (o := ?_) ?ho16hK116n ?hst16hK116n AllReadyH.nil
          case ho16hK116n => (simp only [List.getElem?_toArray, List.getElem?_cons_zero, List.getElem?_cons_succ]; rfl)
          intro K hK
          have bb0 := hsA.1.1; have bb1 := hsA.1.2.1; have bb2 := hsA.1.2.2.1; have bb3 := hsA.1.2.2.2.1; have bb4 := hsA.1.2.2.2.2; have bbf := hsA.2; have bbl := cell_lt bb0; go_simp
          have hqA : FB w sb qs ms ds (((((w'.setCell ⟨gA, 0, none⟩ (.int .i64 Kt)).setCell ⟨gA, 1, none⟩ (.int .i64 It)).setCell ⟨gA, 2, none⟩ (.float .f64 Ft)).setCell ⟨gA, 3, none⟩ (.string Zt)).setCell ⟨gA, 4, none⟩ (.slice qt mt dt)) := fb_set hq (by have h := hgA; omega) (by have h := hgA; omega)
          refine hK.out _ _ ?hs16hK116n (fun hHeld => ?_)
          case hs16hK116n => exact (hqA).1
          clear hK K bb0 bb1 bb2 bb3 bb4 bbf bbl
          (try simp only [Act.put, List.setIfInBounds_toArray, List.set_cons_zero, List.set_cons_succ])
          refine wpAnyH_ready (rs := [17]) (by kernel_rfl) (by simp) ?_
          refine AllReadyH.cons (o := ?_) ?ho17hK116n ?hst17hK116n AllReadyH.nil
          case ho17hK116n => (simp only [List.getElem?_toArray, List.getElem?_cons_zero, List.getElem?_cons_succ]; rfl)
          intro K hK
          have bb0 := hsB.1.1; have bb1 := hsB.1.2.1; have bb2 := hsB.1.2.2.1; have bb3 := hsB.1.2.2.2.1; have bb4 := hsB.1.2.2.2.2; have bbf := hsB.2; have bbl := cell_lt bb0; go_simp
          have hqB : FB w sb qs ms ds ((((((((((w'.setCell ⟨gA, 0, none⟩ (.int .i64 Kt)).setCell ⟨gA, 1, none⟩ (.int .i64 It)).setCell ⟨gA, 2, none⟩ (.float .f64 Ft)).setCell ⟨gA, 3, none⟩ (.string Zt)).setCell ⟨gA, 4, none⟩ (.slice qt mt dt)).setCell ⟨gB, 0, none⟩ (.int .i64 Kv)).setCell ⟨gB, 1, none⟩ (.int .i64 Iv)).setCell ⟨gB, 2, none⟩ (.float .f64 Fv)).setCell ⟨gB, 3, none⟩ (.string Zv)).setCell ⟨gB, 4, none⟩ (.slice qv mv dv)) := fb_set hqA (by have h := hgB; omega) (by have h := hgB; omega)
          refine hK.out _ _ ?hs17hK116n (fun hHeld => ?_)
          case hs17hK116n => exact (hqB).1
          clear hK K bb0 bb1 bb2 bb3 bb4 bbf bbl
          (try simp only [Act.put, List.setIfInBounds_toArray, List.set_cons_zero, List.set_cons_succ])
          refine wpAnyH_take (i := 18) (oi := ?_) (v := ?_) ?hihK116n18 (by kernel_rfl) ?hfhK116n18 ?hrhK116n18 ?hQhK116n18 ?hyhK116n18 (by assumption) ?resthK116n18
          case hihK116n18 => (simp only [List.getElem?_toArray, List.getElem?_cons_zero, List.getElem?_cons_succ]; rfl)
          case hfhK116n18 => kernel_rfl
          case hrhK116n18 => kernel_rfl
          case hyhK116n18 => (refine Or.inl ⟨by rfl, ?_⟩; intro wS hSw; (try dsimp only at hSw); go_simp; (try with_reducible rfl))
          case hQhK116n18 => exact fun _ _ _ h => h
          (try simp only [Act.put, List.setIfInBounds_toArray, List.set_cons_zero, List.set_cons_succ])
          refine wpAnyH_done (by kernel_rfl) ?_ _
          have HGF := Lib.hid (show CS ((((((((((w'.setCell ⟨gA, 0, none⟩ (.int .i64 Kt)).setCell ⟨gA, 1, none⟩ (.int .i64 It)).setCell ⟨gA, 2, none⟩ (.float .f64 Ft)).setCell ⟨gA, 3, none⟩ (.string Zt)).setCell ⟨gA, 4, none⟩ (.slice qt mt dt)).setCell ⟨gB, 0, none⟩ (.int .i64 Kv)).setCell ⟨gB, 1, none⟩ (.int .i64 Iv)).setCell ⟨gB, 2, none⟩ (.float .f64 Fv)).setCell ⟨gB, 3, none⟩ (.string Zv)).setCell ⟨gB, 4, none⟩ (.slice qv mv dv)) gA (.int .i64 Kt) (.int .i64 It) (.float .f64 Ft) (.string Zt) (.slice qt mt dt) ∧ CS ((((((((((w'.setCell ⟨gA, 0, none⟩ (.int .i64 Kt)).setCell ⟨gA, 1, none⟩ (.int .i64 It)).setCell ⟨gA, 2, none⟩ (.float .f64 Ft)).setCell ⟨gA, 3, none⟩ (.string Zt)).setCell ⟨gA, 4, none⟩ (.slice qt mt dt)).setCell ⟨gB, 0, none⟩ (.int .i64 Kv)).setCell ⟨gB, 1, none⟩ (.int .i64 Iv)).setCell ⟨gB, 2, none⟩ (.float .f64 Fv)).setCell ⟨gB, 3, none⟩ (.string Zv)).setCell ⟨gB, 4, none⟩ (.slice qv mv dv)) gB (.int .i64 Kv) (.int .i64 Iv) (.float .f64 Fv) (.string Zv) (.slice qv mv dv) ∧ FB w sb qs ms ds ((((((((((w'.setCell ⟨gA, 0, none⟩ (.int .i64 Kt)).setCell ⟨gA, 1, none⟩ (.int .i64 It)).setCell ⟨gA, 2, none⟩ (.float .f64 Ft)).setCell ⟨gA, 3, none⟩ (.string Zt)).setCell ⟨gA, 4, none⟩ (.slice qt mt dt)).setCell ⟨gB, 0, none⟩ (.int .i64 Kv)).setCell ⟨gB, 1, none⟩ (.int .i64 Iv)).setCell ⟨gB, 2, none⟩ (.float .f64 Fv)).setCell ⟨gB, 3, none⟩ (.string Zv)).setCell ⟨gB, 4, none⟩ (.slice qv mv dv)) ∧ Below wr.heap.size wr ((((((((((w'.setCell ⟨gA, 0, none⟩ (.int .i64 Kt)).setCell ⟨gA, 1, none⟩ (.int .i64 It)).setCell ⟨gA, 2, none⟩ (.float .f64 Ft)).setCell ⟨gA, 3, none⟩ (.string Zt)).setCell ⟨gA, 4, none⟩ (.slice qt mt dt)).setCell ⟨gB, 0, none⟩ (.int .i64 Kv)).setCell ⟨gB, 1, none⟩ (.int .i64 Iv)).setCell ⟨gB, 2, none⟩ (.float .f64 Fv)).setCell ⟨gB, 3, none⟩ (.string Zv)).setCell ⟨gB, 4, none⟩ (.slice qv mv dv)) ∧ RepS (fun b => wr.heap.size ≤ b ∧ b ≠ gA ∧ b ≠ gB) ((((((((((w'.setCell ⟨gA, 0, none⟩ (.int .i64 Kt)).setCell ⟨gA, 1, none⟩ (.int .i64 It)).setCell ⟨gA, 2, none⟩ (.float .f64 Ft)).setCell ⟨gA, 3, none⟩ (.string Zt)).setCell ⟨gA, 4, none⟩ (.slice qt mt dt)).setCell ⟨gB, 0, none⟩ (.int .i64 Kv)).setCell ⟨gB, 1, none⟩ (.int .i64 Iv)).setCell ⟨gB, 2, none⟩ (.float .f64 Fv)).setCell ⟨gB, 3, none⟩ (.string Zv)).setCell ⟨gB, 4, none⟩ (.slice qv mv dv)) 3 (.agg #[.int .i64 Kt, .int .i64 It, .float .f64 Ft, .string Zt, .slice qt mt dt]) (TT) ∧ RepS (fun b => wr.heap.size ≤ b ∧ b ≠ gA ∧ b ≠ gB) ((((((((((w'.setCell ⟨gA, 0, none⟩ (.int .i64 Kt)).setCell ⟨gA, 1, none⟩ (.int .i64 It)).setCell ⟨gA, 2, none⟩ (.float .f64 Ft)).setCell ⟨gA, 3, none⟩ (.string Zt)).setCell ⟨gA, 4, none⟩ (.slice qt mt dt)).setCell ⟨gB, 0, none⟩ (.int .i64 Kv)).setCell ⟨gB, 1, none⟩ (.int .i64 Iv)).setCell ⟨gB, 2, none⟩ (.float .f64 Fv)).setCell ⟨gB, 3, none⟩ (.string Zv)).setCell ⟨gB, 4, none⟩ (.slice qv mv dv)) 1 (.agg #[.int .i64 Kv, .int .i64 Iv, .float .f64 Fv, .string Zv, .slice qv mv dv]) (UU) from ⟨cs_other (cs_set5 hsA.1) hne, cs_set5 (cs_other hsB.1 hne.symm), hqB, bel_set5 (bel_set5 hbd hgA) hgB, repS_set (repS_set ht (fun b hb => hb.2.1)) (fun b hb => hb.2.2), repS_set (repS_set hv (fun b hb => hb.2.1)) (fun b hb => hb.2.2)⟩)
          clear hq hqA hqB hbd hsA hsB hcA hcB ht hv hHeld
          revert HGF
          generalize ((((((((((w'.setCell ⟨gA, 0, none⟩ (.int .i64 Kt)).setCell ⟨gA, 1, none⟩ (.int .i64 It)).setCell ⟨gA, 2, none⟩ (.float .f64 Ft)).setCell ⟨gA, 3, none⟩ (.string Zt)).setCell ⟨gA, 4, none⟩ (.slice qt mt dt)).setCell ⟨gB, 0, none⟩ (.int .i64 Kv)).setCell ⟨gB, 1, none⟩ (.int .i64 Iv)).setCell ⟨gB, 2, none⟩ (.float .f64 Fv)).setCell ⟨gB, 3, none⟩ (.string Zv)).setCell ⟨gB, 4, none⟩ (.slice qv mv dv)) = Wg
          intro HGF
          go_wp2_with fail
          go_meet
          exact ⟨_, _, Kt, It, Ft, Zt, qt, mt, dt, Kv, Iv, Fv, Zv, qv, mv, dv, rfl, rfl, rfl, HGF.out⟩
        refine any_have 4 [14, 4, 5, 6, 7, 8, 9, 10, 11, 12, 13] (fun a a' w' => ∃ (gA gC gE : Nat), ∃ (Kt It : Int) (Ft : Nat) (Zt : ByteArray) (qt : Option Addr) (mt dt : Nat) (Kv Iv : Int) (Fv : Nat) (Zv : ByteArray) (qv : Option Addr) (mv dv : Nat), a' = (((((((((((a.put (some 12) (.pointer (some ⟨gA, 0, none⟩))).put (some 59) (.slice (some ⟨gC, 0, none⟩) 2 2)).put (some 60) (.string ⟨#[107, bi]⟩)).put (some 61) (.agg #[.int .i64 3, .int .i64 0, .float .f64 0, .string ⟨#[107, bi]⟩, .slice none 0 0])).put (some 62) (.agg #[.int .i64 3, .int .i64 0, .float .f64 0, .string { data := #[120] }, .slice none 0 0])).put (some 63) (.slice (some ⟨gE, 0, none⟩) 2 2)).put (some 64) (.tuple #[.agg #[.int .i64 Kt, .int .i64 It, .float .f64 Ft, .string Zt, .slice qt mt dt], .agg #[.int .i64 Kv, .int .i64 Iv, .float .f64 Fv, .string Zv, .slice qv mv dv], .int .i64 0])).put (some 54) (.tuple #[.agg #[.int .i64 Kt, .int .i64 It, .float .f64 Ft, .string Zt, .slice qt mt dt], .agg #[.int .i64 Kv, .int .i64 Iv, .float .f64 Fv, .string Zv, .slice qv mv dv], .int .i64 0])).put (some 65) (.agg #[.int .i64 Kt, .int .i64 It, .float .f64 Ft, .string Zt, .slice qt mt dt])).put (some 66) (.agg #[.int .i64 Kv, .int .i64 Iv, .float .f64 Fv, .string Zv, .slice qv mv dv])).put (some 67) (.int .i64 0)) ∧ FB w sb qs ms ds w' ∧ Below wr.heap.size wr w' ∧ SBX w' gA (.int .i64 0) (.int .i64 0) (.float .f64 0) (.string ⟨#[]⟩) (.slice none 0 0) ∧ wr.heap.size ≤ gA ∧ RepS (fun b => wr.heap.size ≤ b ∧ b ≠ gA) w' 3 (.agg #[.int .i64 Kt, .int .i64 It, .float .f64 Ft, .string Zt, .slice qt mt dt]) (TT) ∧ RepS (fun b => wr.heap.size ≤ b ∧ b ≠ gA) w' 1 (.agg #[.int .i64 Kv, .int .i64 Iv, .float .f64 Fv, .string Zv, .slice qv mv dv]) (UU)) ?phK106n (fun hK106 => ?_)
        case phK106n =>
          intro a' w' hst hHeld
          obtain ⟨gA, gC, gE, Kt, It, Ft, Zt, qt, mt, dt, Kv, Iv, Fv, Zv, qv, mv, dv, rfl, hq, hbd, hsA, hgA, ht, hv⟩ := hst
          (try simp only [Act.put, List.setIfInBounds_toArray, List.set_cons_zero, List.set_cons_succ])
          refine wpAnyH_ready (rs := [15]) (by kernel_rfl) (by simp) ?_
          refine AllReadyH.cons (o := ?_) ?hoBhK106n ?hstBhK106n AllReadyH.nil
          case hoBhK106n => (simp only [List.getElem?_toArray, List.getElem?_cons_zero, List.getElem?_cons_succ]; rfl)
          case hstBhK106n =>
            intro K hK
            go_simp
            refine hK.out _ _ ?hsBhK106n (fun hHeld => ?_)
            case hsBhK106n => exact ((fb_step hq (bel_alloc (Below.refl _ _) (.cells #[.int .i64 0, .int .i64 0, .float .f64 0, .string ⟨#[]⟩, .slice none 0 0] 27)))).1
            clear hK K
            (try simp only [Act.put, List.setIfInBounds_toArray, List.set_cons_zero, List.set_cons_succ])
            exact any_eq (by kernel_rfl) (by kernel_rfl) (hK116 _ _ ⟨gA, _, gC, gE, Kt, It, Ft, Zt, qt, mt, dt, Kv, Iv, Fv, Zv, qv, mv, dv, rfl, (fb_step hq (bel_alloc (Below.refl _ _) (.cells #[.int .i64 0, .int .i64 0, .float .f64 0, .string ⟨#[]⟩, .slice none 0 0] 27))), (bel_step hbd (bel_alloc (Below.refl _ _) (.cells #[.int .i64 0, .int .i64 0, .float .f64 0, .string ⟨#[]⟩, .slice none 0 0] 27))), (sbx_step hsA (bel_alloc (Below.refl _ _) (.cells #[.int .i64 0, .int .i64 0, .float .f64 0, .string ⟨#[]⟩, .slice none 0 0] 27))), hgA, ⟨cs_new rfl, fun o => row_frz (row_alloc _ _ _) o⟩, hbd.size, (by have h := cs_lt hsA.1; omega), (repS_step (bel_alloc (Below.refl _ _) (.cells #[.int .i64 0, .int .i64 0, .float .f64 0, .string ⟨#[]⟩, .slice none 0 0] 27)) (repS_mono (fun b hb => ⟨hb.1.1, hb.1.2, Nat.ne_of_lt hb.2⟩) _ _ _ (repS_lt _ _ _ ht))), (repS_step (bel_alloc (Below.refl _ _) (.cells #[.int .i64 0, .int .i64 0, .float .f64 0, .string ⟨#[]⟩, .slice none 0 0] 27)) (repS_mono (fun b hb => ⟨hb.1.1, hb.1.2, Nat.ne_of_lt hb.2⟩) _ _ _ (repS_lt _ _ _ hv)))⟩ hHeld)
        refine any_have 4 [15, 4, 5, 6, 7, 8, 9, 10, 11, 12, 13] (fun a a' w' => ∃ (gB gC gE : Nat), ∃ (Kt It : Int) (Ft : Nat) (Zt : ByteArray) (qt : Option Addr) (mt dt : Nat) (Kv Iv : Int) (Fv : Nat) (Zv : ByteArray) (qv : Option Addr) (mv dv : Nat), a' = (((((((((((a.put (some 13) (.pointer (some ⟨gB, 0, none⟩))).put (some 59) (.slice (some ⟨gC, 0, none⟩) 2 2)).put (some 60) (.string ⟨#[107, bi]⟩)).put (some 61) (.agg #[.int .i64 3, .int .i64 0, .float .f64 0, .string ⟨#[107, bi]⟩, .slice none 0 0])).put (some 62) (.agg #[.int .i64 3, .int .i64 0, .float .f64 0, .string { data := #[120] }, .slice none 0 0])).put (some 63) (.slice (some ⟨gE, 0, none⟩) 2 2)).put (some 64) (.tuple #[.agg #[.int .i64 Kt, .int .i64 It, .float .f64 Ft, .string Zt, .slice qt mt dt], .agg #[.int .i64 Kv, .int .i64 Iv, .float .f64 Fv, .string Zv, .slice qv mv dv], .int .i64 0])).put (some 54) (.tuple #[.agg #[.int .i64 Kt, .int .i64 It, .float .f64 Ft, .string Zt, .slice qt mt dt], .agg #[.int .i64 Kv, .int .i64 Iv, .float .f64 Fv, .string Zv, .slice qv mv dv], .int .i64 0])).put (some 65) (.agg #[.int .i64 Kt, .int .i64 It, .float .f64 Ft, .string Zt, .slice qt mt dt])).put (some 66) (.agg #[.int .i64 Kv, .int .i64 Iv, .float .f64 Fv, .string Zv, .slice qv mv dv])).put (some 67) (.int .i64 0)) ∧ FB w sb qs ms ds w' ∧ Below wr.heap.size wr w' ∧ SBX w' gB (.int .i64 0) (.int .i64 0) (.float .f64 0) (.string ⟨#[]⟩) (.slice none 0 0) ∧ wr.heap.size ≤ gB ∧ RepS (fun b => wr.heap.size ≤ b ∧ b ≠ gB) w' 3 (.agg #[.int .i64 Kt, .int .i64 It, .float .f64 Ft, .string Zt, .slice qt mt dt]) (TT) ∧ RepS (fun b => wr.heap.size ≤ b ∧ b ≠ gB) w' 1 (.agg #[.int .i64 Kv, .int .i64 Iv, .float .f64 Fv, .string Zv, .slice qv mv dv]) (UU)) ?phK016n (fun hK016 => ?_)
        case phK016n =>
          intro a' w' hst hHeld
          obtain ⟨gB, gC, gE, Kt, It, Ft, Zt, qt, mt, dt, Kv, Iv, Fv, Zv, qv, mv, dv, rfl, hq, hbd, hsB, hgB, ht, hv⟩ := hst
          (try simp only [Act.put, List.setIfInBounds_toArray, List.set_cons_zero, List.set_cons_succ])
          refine wpAnyH_ready (rs := [14]) (by kernel_rfl) (by simp) ?_
          refine AllReadyH.cons (o := ?_) ?hoAhK016n ?hstAhK016n AllReadyH.nil
          case hoAhK016n => (simp only [List.getElem?_toArray, List.getElem?_cons_zero, List.getElem?_cons_succ]; rfl)
          case hstAhK016n =>
            intro K hK
            go_simp
            refine hK.out _ _ ?hsAhK016n (fun hHeld => ?_)
            case hsAhK016n => exact ((fb_step hq (bel_alloc (Below.refl _ _) (.cells #[.int .i64 0, .int .i64 0, .float .f64 0, .string ⟨#[]⟩, .slice none 0 0] 27)))).1
            clear hK K
            (try simp only [Act.put, List.setIfInBounds_toArray, List.set_cons_zero, List.set_cons_succ])
            exact any_eq (by kernel_rfl) (by kernel_rfl) (hK116 _ _ ⟨_, gB, gC, gE, Kt, It, Ft, Zt, qt, mt, dt, Kv, Iv, Fv, Zv, qv, mv, dv, rfl, (fb_step hq (bel_alloc (Below.refl _ _) (.cells #[.int .i64 0, .int .i64 0, .float .f64 0, .string ⟨#[]⟩, .slice none 0 0] 27))), (bel_step hbd (bel_alloc (Below.refl _ _) (.cells #[.int .i64 0, .int .i64 0, .float .f64 0, .string ⟨#[]⟩, .slice none 0 0] 27))), ⟨cs_new rfl, fun o => row_frz (row_alloc _ _ _) o⟩, hbd.size, (sbx_step hsB (bel_alloc (Below.refl _ _) (.cells #[.int .i64 0, .int .i64 0, .float .f64 0, .string ⟨#[]⟩, .slice none 0 0] 27))), hgB, (by have h := cs_lt hsB.1; omega), (repS_step (bel_alloc (Below.refl _ _) (.cells #[.int .i64 0, .int .i64 0, .float .f64 0, .string ⟨#[]⟩, .slice none 0 0] 27)) (repS_mono (fun b hb => ⟨hb.1.1, Nat.ne_of_lt hb.2, hb.1.2⟩) _ _ _ (repS_lt _ _ _ ht))), (repS_step (bel_alloc (Below.refl _ _) (.cells #[.int .i64 0, .int .i64 0, .float .f64 0, .string ⟨#[]⟩, .slice none 0 0] 27)) (repS_mono (fun b hb => ⟨hb.1.1, Nat.ne_of_lt hb.2, hb.1.2⟩) _ _ _ (repS_lt _ _ _ hv)))⟩ hHeld)
        refine any_have 5 [4, 5, 6, 7, 8, 9, 10, 11, 12, 13] (fun a a' w' => ∃ (gC gE : Nat), ∃ (Kt It : Int) (Ft : Nat) (Zt : ByteArray) (qt : Option Addr) (mt dt : Nat) (Kv Iv : Int) (Fv : Nat) (Zv : ByteArray) (qv : Option Addr) (mv dv : Nat), a' = ((((((((((a.put (some 59) (.slice (some ⟨gC, 0, none⟩) 2 2)).put (some 60) (.string ⟨#[107, bi]⟩)).put (some 61) (.agg #[.int .i64 3, .int .i64 0, .float .f64 0, .string ⟨#[107, bi]⟩, .slice none 0 0])).put (some 62) (.agg #[.int .i64 3, .int .i64 0, .float .f64 0, .string { data := #[120] }, .slice none 0 0])).put (some 63) (.slice (some ⟨gE, 0, none⟩) 2 2)).put (some 64) (.tuple #[.agg #[.int .i64 Kt, .int .i64 It, .float .f64 Ft, .string Zt, .slice qt mt dt], .agg #[.int .i64 Kv, .int .i64 Iv, .float .f64 Fv, .string Zv, .slice qv mv dv], .int .i64 0])).put (some 54) (.tuple #[.agg #[.int .i64 Kt, .int .i64 It, .float .f64 Ft, .string Zt, .slice qt mt dt], .agg #[.int .i64 Kv, .int .i64 Iv, .float .f64 Fv, .string Zv, .slice qv mv dv], .int .i64 0])).put (some 65) (.agg #[.int .i64 Kt, .int .i64 It, .float .f64 Ft, .string Zt, .slice qt mt dt])).put (some 66) (.agg #[.int .i64 Kv, .int .i64 Iv, .float .f64 Fv, .string Zv, .slice qv mv dv])).put (some 67) (.int .i64 0)) ∧ FB w sb qs ms ds w' ∧ Below wr.heap.size wr w' ∧ RepS (fun b => wr.heap.size ≤ b) w' 3 (.agg #[.int .i64 Kt, .int .i64 It, .float .f64 Ft, .string Zt, .slice qt mt dt]) (TT) ∧ RepS (fun b => wr.heap.size ≤ b) w' 1 (.agg #[.int .i64 Kv, .int .i64 Iv, .float .f64 Fv, .string Zv, .slice qv mv dv]) (UU)) ?phK006n (fun hK006 => ?_)
        case phK006n =>
          intro a' w' hst hHeld
          obtain ⟨gC, gE, Kt, It, Ft, Zt, qt, mt, dt, Kv, Iv, Fv, Zv, qv, mv, dv, rfl, hq, hbd, ht, hv⟩ := hst
          (try simp only [Act.put, List.setIfInBounds_toArray, List.set_cons_zero, List.set_cons_succ])
          refine wpAnyH_ready (rs := [14, 15]) (by kernel_rfl) (by simp) ?_
          refine AllReadyH.cons (o := ?_) ?hoAhK006n ?hstAhK006n (AllReadyH.cons (o := ?_) ?hoBhK006n ?hstBhK006n AllReadyH.nil)
          case hoAhK006n => (simp only [List.getElem?_toArray, List.getElem?_cons_zero, List.getElem?_cons_succ]; rfl)
          case hoBhK006n => (simp only [List.getElem?_toArray, List.getElem?_cons_zero, List.getElem?_cons_succ]; rfl)
          case hstAhK006n =>
            intro K hK
            go_simp
            refine hK.out _ _ ?hsAhK006n (fun hHeld => ?_)
            case hsAhK006n => exact ((fb_step hq (bel_alloc (Below.refl _ _) (.cells #[.int .i64 0, .int .i64 0, .float .f64 0, .string ⟨#[]⟩, .slice none 0 0] 27)))).1
            clear hK K
            (try simp only [Act.put, List.setIfInBounds_toArray, List.set_cons_zero, List.set_cons_succ])
            exact any_eq (by kernel_rfl) (by kernel_rfl) (hK106 _ _ ⟨_, gC, gE, Kt, It, Ft, Zt, qt, mt, dt, Kv, Iv, Fv, Zv, qv, mv, dv, rfl, (fb_step hq (bel_alloc (Below.refl _ _) (.cells #[.int .i64 0, .int .i64 0, .float .f64 0, .string ⟨#[]⟩, .slice none 0 0] 27))), (bel_step hbd (bel_alloc (Below.refl _ _) (.cells #[.int .i64 0, .int .i64 0, .float .f64 0, .string ⟨#[]⟩, .slice none 0 0] 27))), ⟨cs_new rfl, fun o => row_frz (row_alloc _ _ _) o⟩, hbd.size, (repS_step (bel_alloc (Below.refl _ _) (.cells #[.int .i64 0, .int .i64 0, .float .f64 0, .string ⟨#[]⟩, .slice none 0 0] 27)) (repS_mono (fun b hb => ⟨hb.1, Nat.ne_of_lt hb.2⟩) _ _ _ (repS_lt _ _ _ ht))), (repS_step (bel_alloc (Below.refl _ _) (.cells #[.int .i64 0, .int .i64 0, .float .f64 0, .string ⟨#[]⟩, .slice none 0 0] 27)) (repS_mono (fun b hb => ⟨hb.1, Nat.ne_of_lt hb.2⟩) _ _ _ (repS_lt _ _ _ hv)))⟩ hHeld)
          case hstBhK006n =>
            intro K hK
            go_simp
            refine hK.out _ _ ?hsBhK006n (fun hHeld => ?_)
            case hsBhK006n => exact ((fb_step hq (bel_alloc (Below.refl _ _) (.cells #[.int .i64 0, .int .i64 0, .float .f64 0, .string ⟨#[]⟩, .slice none 0 0] 27)))).1
            clear hK K
            (try simp only [Act.put, List.setIfInBounds_toArray, List.set_cons_zero, List.set_cons_succ])
            exact any_eq (by kernel_rfl) (by kernel_rfl) (hK016 _ _ ⟨_, gC, gE, Kt, It, Ft, Zt, qt, mt, dt, Kv, Iv, Fv, Zv, qv, mv, dv, rfl, (fb_step hq (bel_alloc (Below.refl _ _) (.cells #[.int .i64 0, .int .i64 0, .float .f64 0, .string ⟨#[]⟩, .slice none 0 0] 27))), (bel_step hbd (bel_alloc (Below.refl _ _) (.cells #[.int .i64 0, .int .i64 0, .float .f64 0, .string ⟨#[]⟩, .slice none 0 0] 27))), ⟨cs_new rfl, fun o => row_frz (row_alloc _ _ _) o⟩, hbd.size, (repS_step (bel_alloc (Below.refl _ _) (.cells #[.int .i64 0, .int .i64 0, .float .f64 0, .string ⟨#[]⟩, .slice none 0 0] 27)) (repS_mono (fun b hb => ⟨hb.1, Nat.ne_of_lt hb.2⟩) _ _ _ (repS_lt _ _ _ ht))), (repS_step (bel_alloc (Below.refl _ _) (.cells #[.int .i64 0, .int .i64 0, .float .f64 0, .string ⟨#[]⟩, .slice none 0 0] 27)) (repS_mono (fun b hb => ⟨hb.1, Nat.ne_of_lt hb.2⟩) _ _ _ (repS_lt _ _ _ hv)))⟩ hHeld)
        refine any_have 8 [14, 15, 4, 5, 6, 7, 8] (fun a a' w' => ∃ (gA gB gC gE : Nat), a' = (((((((a.put (some 12) (.pointer (some ⟨gA, 0, none⟩))).put (some 13) (.pointer (some ⟨gB, 0, none⟩))).put (some 59) (.slice (some ⟨gC, 0, none⟩) 2 2)).put (some 60) (.string ⟨#[107, bi]⟩)).put (some 61) (.agg #[.int .i64 3, .int .i64 0, .float .f64 0, .string ⟨#[107, bi]⟩, .slice none 0 0])).put (some 62) (.agg #[.int .i64 3, .int .i64 0, .float .f64 0, .string { data := #[120] }, .slice none 0 0])).put (some 63) (.slice (some ⟨gE, 0, none⟩) 2 2)) ∧ FB w sb qs ms ds w' ∧ Below wr.heap.size wr w' ∧ SBX w' gA (.int .i64 0) (.int .i64 0) (.float .f64 0) (.string ⟨#[]⟩) (.slice none 0 0) ∧ wr.heap.size ≤ gA ∧ SBX w' gB (.int .i64 0) (.int .i64 0) (.float .f64 0) (.string ⟨#[]⟩) (.slice none 0 0) ∧ wr.heap.size ≤ gB ∧ gA ≠ gB ∧ LV gE (nmF ii) 3 0 0 ⟨#[120]⟩ w') ?phK115n (fun hK115 => ?_)
        case phK115n =>
          intro a' w' hst hHeld
          obtain ⟨gA, gB, gC, gE, rfl, hq, hbd, hsA, hgA, hsB, hgB, hne, hlv⟩ := hst
          (try simp only [Act.put, List.setIfInBounds_toArray, List.set_cons_zero, List.set_cons_succ])
          refine wpAnyH_ready (rs := [9]) (by kernel_rfl) (by simp) ?_
          refine AllReadyH.cons (o := ?_) ?hoXhK115n ?hstXhK115n AllReadyH.nil
          case hoXhK115n => (simp only [List.getElem?_toArray, List.getElem?_cons_zero, List.getElem?_cons_succ]; rfl)
          case hstXhK115n =>
            intro K hK
            go_simp
            have hrp := repS_rep _ _ _ (repS_step hbd HSTr.out); go_at_call 12; refine (HDO.out _ _ hrp hlv).mono ?_; rintro e wD ⟨tt, vv, rfl, hbT, ht, hv⟩; obtain ⟨Kt, It, Ft, Zt, qt, mt, dt, rfl, _⟩ := repS_shape ht; obtain ⟨Kv, Iv, Fv, Zv, qv, mv, dv, rfl, _⟩ := repS_shape hv
            go_wp2_with fail
            refine hK.out _ _ ?hsXhK115n (fun hHeld => ?_)
            case hsXhK115n => exact ((fb_step hq hbT)).1
            clear hK K
            (try simp only [Act.put, List.setIfInBounds_toArray, List.set_cons_zero, List.set_cons_succ])
            refine wpAnyH_take (i := 10) (oi := ?_) (v := ?_) ?hiXhK115n10 (by kernel_rfl) ?hfXhK115n10 ?hrXhK115n10 ?hQXhK115n10 ?hyXhK115n10 (by assumption) ?restXhK115n10
            case hiXhK115n10 => (simp only [List.getElem?_toArray, List.getElem?_cons_zero, List.getElem?_cons_succ]; rfl)
            case hfXhK115n10 => kernel_rfl
            case hrXhK115n10 => kernel_rfl
            case hyXhK115n10 => (refine Or.inl ⟨by rfl, ?_⟩; intro wS hSw; (try dsimp only at hSw); go_simp; (try with_reducible rfl))
            case hQXhK115n10 => exact fun _ _ _ h => h
            (try simp only [Act.put, List.setIfInBounds_toArray, List.set_cons_zero, List.set_cons_succ])
            refine wpAnyH_take (i := 11) (oi := ?_) (v := ?_) ?hiXhK115n11 (by kernel_rfl) ?hfXhK115n11 ?hrXhK115n11 ?hQXhK115n11 ?hyXhK115n11 (by assumption) ?restXhK115n11
            case hiXhK115n11 => (simp only [List.getElem?_toArray, List.getElem?_cons_zero, List.getElem?_cons_succ]; rfl)
            case hfXhK115n11 => kernel_rfl
            case hrXhK115n11 => kernel_rfl
            case hyXhK115n11 => (refine Or.inl ⟨by rfl, ?_⟩; intro wS hSw; (try dsimp only at hSw); go_simp; (try with_reducible rfl))
            case hQXhK115n11 => exact fun _ _ _ h => h
            (try simp only [Act.put, List.setIfInBounds_toArray, List.set_cons_zero, List.set_cons_succ])
            refine wpAnyH_take (i := 12) (oi := ?_) (v := ?_) ?hiXhK115n12 (by kernel_rfl) ?hfXhK115n12 ?hrXhK115n12 ?hQXhK115n12 ?hyXhK115n12 (by assumption) ?restXhK115n12
            case hiXhK115n12 => (simp only [List.getElem?_toArray, List.getElem?_cons_zero, List.getElem?_cons_succ]; rfl)
            case hfXhK115n12 => kernel_rfl
            case hrXhK115n12 => kernel_rfl
            case hyXhK115n12 => (refine Or.inl ⟨by rfl, ?_⟩; intro wS hSw; (try dsimp only at hSw); go_simp; (try with_reducible rfl))
            case hQXhK115n12 => exact fun _ _ _ h => h
            (try simp only [Act.put, List.setIfInBounds_toArray, List.set_cons_zero, List.set_cons_succ])
            refine wpAnyH_take (i := 13) (oi := ?_) (v := ?_) ?hiXhK115n13 (by kernel_rfl) ?hfXhK115n13 ?hrXhK115n13 ?hQXhK115n13 ?hyXhK115n13 (by assumption) ?restXhK115n13
            case hiXhK115n13 => (simp only [List.getElem?_toArray, List.getElem?_cons_zero, List.getElem?_cons_succ]; rfl)
            case hfXhK115n13 => kernel_rfl
            case hrXhK115n13 => kernel_rfl
            case hyXhK115n13 => (refine Or.inl ⟨by rfl, ?_⟩; intro wS hSw; (try dsimp only at hSw); go_simp; (try with_reducible rfl))
            case hQXhK115n13 => exact fun _ _ _ h => h
            (try simp only [Act.put, List.setIfInBounds_toArray, List.set_cons_zero, List.set_cons_succ])
            exact any_eq (by kernel_rfl) (by kernel_rfl) (hK116 _ _ ⟨gA, gB, gC, gE, Kt, It, Ft, Zt, qt, mt, dt, Kv, Iv, Fv, Zv, qv, mv, dv, rfl, (fb_step hq hbT), (bel_step hbd hbT), (sbx_step hsA hbT), hgA, (sbx_step hsB hbT), hgB, hne, (repS_mono (fun b hb => ⟨Nat.le_trans hbd.size hb, (by have h := cs_lt hsA.1; have h2 : _ ≤ b := hb; omega), (by have h := cs_lt hsB.1; have h2 : _ ≤ b := hb; omega)⟩) _ _ _ ht), (repS_mono (fun b hb => ⟨Nat.le_trans hbd.size hb, (by have h := cs_lt hsA.1; have h2 : _ ≤ b := hb; omega), (by have h := cs_lt hsB.1; have h2 : _ ≤ b := hb; omega)⟩) _ _ _ hv)⟩ hHeld)
        refine any_have 9 [14, 4, 5, 6, 7, 8] (fun a a' w' => ∃ (gA gC gE : Nat), a' = ((((((a.put (some 12) (.pointer (some ⟨gA, 0, none⟩))).put (some 59) (.slice (some ⟨gC, 0, none⟩) 2 2)).put (some 60) (.string ⟨#[107, bi]⟩)).put (some 61) (.agg #[.int .i64 3, .int .i64 0, .float .f64 0, .string ⟨#[107, bi]⟩, .slice none 0 0])).put (some 62) (.agg #[.int .i64 3, .int .i64 0, .float .f64 0, .string { data := #[120] }, .slice none 0 0])).put (some 63) (.slice (some ⟨gE, 0, none⟩) 2 2)) ∧ FB w sb qs ms ds w' ∧ Below wr.heap.size wr w' ∧ SBX w' gA (.int .i64 0) (.int .i64 0) (.float .f64 0) (.string ⟨#[]⟩) (.slice none 0 0) ∧ wr.heap.size ≤ gA ∧ LV gE (nmF ii) 3 0 0 ⟨#[120]⟩ w') ?phK105n (fun hK105 => ?_)
        case phK105n =>
          intro a' w' hst hHeld
          obtain ⟨gA, gC, gE, rfl, hq, hbd, hsA, hgA, hlv⟩ := hst
          (try simp only [Act.put, List.setIfInBounds_toArray, List.set_cons_zero, List.set_cons_succ])
          refine wpAnyH_ready (rs := [9, 15]) (by kernel_rfl) (by simp) ?_
          refine AllReadyH.cons (o := ?_) ?hoXhK105n ?hstXhK105n (AllReadyH.cons (o := ?_) ?hoBhK105n ?hstBhK105n AllReadyH.nil)
          case hoXhK105n => (simp only [List.getElem?_toArray, List.getElem?_cons_zero, List.getElem?_cons_succ]; rfl)
          case hoBhK105n => (simp only [List.getElem?_toArray, List.getElem?_cons_zero, List.getElem?_cons_succ]; rfl)
          case hstXhK105n =>
            intro K hK
            go_simp
            have hrp := repS_rep _ _ _ (repS_step hbd HSTr.out); go_at_call 12; refine (HDO.out _ _ hrp hlv).mono ?_; rintro e wD ⟨tt, vv, rfl, hbT, ht, hv⟩; obtain ⟨Kt, It, Ft, Zt, qt, mt, dt, rfl, _⟩ := repS_shape ht; obtain ⟨Kv, Iv, Fv, Zv, qv, mv, dv, rfl, _⟩ := repS_shape hv
            go_wp2_with fail
            refine hK.out _ _ ?hsXhK105n (fun hHeld => ?_)
            case hsXhK105n => exact ((fb_step hq hbT)).1
            clear hK K
            (try simp only [Act.put, List.setIfInBounds_toArray, List.set_cons_zero, List.set_cons_succ])
            refine wpAnyH_take (i := 10) (oi := ?_) (v := ?_) ?hiXhK105n10 (by kernel_rfl) ?hfXhK105n10 ?hrXhK105n10 ?hQXhK105n10 ?hyXhK105n10 (by assumption) ?restXhK105n10
            case hiXhK105n10 => (simp only [List.getElem?_toArray, List.getElem?_cons_zero, List.getElem?_cons_succ]; rfl)
            case hfXhK105n10 => kernel_rfl
            case hrXhK105n10 => kernel_rfl
            case hyXhK105n10 => (refine Or.inl ⟨by rfl, ?_⟩; intro wS hSw; (try dsimp only at hSw); go_simp; (try with_reducible rfl))
            case hQXhK105n10 => exact fun _ _ _ h => h
            (try simp only [Act.put, List.setIfInBounds_toArray, List.set_cons_zero, List.set_cons_succ])
            refine wpAnyH_take (i := 11) (oi := ?_) (v := ?_) ?hiXhK105n11 (by kernel_rfl) ?hfXhK105n11 ?hrXhK105n11 ?hQXhK105n11 ?hyXhK105n11 (by assumption) ?restXhK105n11
            case hiXhK105n11 => (simp only [List.getElem?_toArray, List.getElem?_cons_zero, List.getElem?_cons_succ]; rfl)
            case hfXhK105n11 => kernel_rfl
            case hrXhK105n11 => kernel_rfl
            case hyXhK105n11 => (refine Or.inl ⟨by rfl, ?_⟩; intro wS hSw; (try dsimp only at hSw); go_simp; (try with_reducible rfl))
            case hQXhK105n11 => exact fun _ _ _ h => h
            (try simp only [Act.put, List.setIfInBounds_toArray, List.set_cons_zero, List.set_cons_succ])
            refine wpAnyH_take (i := 12) (oi := ?_) (v := ?_) ?hiXhK105n12 (by kernel_rfl) ?hfXhK105n12 ?hrXhK105n12 ?hQXhK105n12 ?hyXhK105n12 (by assumption) ?restXhK105n12
            case hiXhK105n12 => (simp only [List.getElem?_toArray, List.getElem?_cons_zero, List.getElem?_cons_succ]; rfl)
            case hfXhK105n12 => kernel_rfl
            case hrXhK105n12 => kernel_rfl
            case hyXhK105n12 => (refine Or.inl ⟨by rfl, ?_⟩; intro wS hSw; (try dsimp only at hSw); go_simp; (try with_reducible rfl))
            case hQXhK105n12 => exact fun _ _ _ h => h
            (try simp only [Act.put, List.setIfInBounds_toArray, List.set_cons_zero, List.set_cons_succ])
            refine wpAnyH_take (i := 13) (oi := ?_) (v := ?_) ?hiXhK105n13 (by kernel_rfl) ?hfXhK105n13 ?hrXhK105n13 ?hQXhK105n13 ?hyXhK105n13 (by assumption) ?restXhK105n13
            case hiXhK105n13 => (simp only [List.getElem?_toArray, List.getElem?_cons_zero, List.getElem?_cons_succ]; rfl)
            case hfXhK105n13 => kernel_rfl
            case hrXhK105n13 => kernel_rfl
            case hyXhK105n13 => (refine Or.inl ⟨by rfl, ?_⟩; intro wS hSw; (try dsimp only at hSw); go_simp; (try with_reducible rfl))
            case hQXhK105n13 => exact fun _ _ _ h => h
            (try simp only [Act.put, List.setIfInBounds_toArray, List.set_cons_zero, List.set_cons_succ])
            exact any_eq (by kernel_rfl) (by kernel_rfl) (hK106 _ _ ⟨gA, gC, gE, Kt, It, Ft, Zt, qt, mt, dt, Kv, Iv, Fv, Zv, qv, mv, dv, rfl, (fb_step hq hbT), (bel_step hbd hbT), (sbx_step hsA hbT), hgA, (repS_mono (fun b hb => ⟨Nat.le_trans hbd.size hb, (by have h := cs_lt hsA.1; have h2 : _ ≤ b := hb; omega)⟩) _ _ _ ht), (repS_mono (fun b hb => ⟨Nat.le_trans hbd.size hb, (by have h := cs_lt hsA.1; have h2 : _ ≤ b := hb; omega)⟩) _ _ _ hv)⟩ hHeld)
          case hstBhK105n =>
            intro K hK
            go_simp
            refine hK.out _ _ ?hsBhK105n (fun hHeld => ?_)
            case hsBhK105n => exact ((fb_step hq (bel_alloc (Below.refl _ _) (.cells #[.int .i64 0, .int .i64 0, .float .f64 0, .string ⟨#[]⟩, .slice none 0 0] 27)))).1
            clear hK K
            (try simp only [Act.put, List.setIfInBounds_toArray, List.set_cons_zero, List.set_cons_succ])
            exact any_eq (by kernel_rfl) (by kernel_rfl) (hK115 _ _ ⟨gA, _, gC, gE, rfl, (fb_step hq (bel_alloc (Below.refl _ _) (.cells #[.int .i64 0, .int .i64 0, .float .f64 0, .string ⟨#[]⟩, .slice none 0 0] 27))), (bel_step hbd (bel_alloc (Below.refl _ _) (.cells #[.int .i64 0, .int .i64 0, .float .f64 0, .string ⟨#[]⟩, .slice none 0 0] 27))), (sbx_step hsA (bel_alloc (Below.refl _ _) (.cells #[.int .i64 0, .int .i64 0, .float .f64 0, .string ⟨#[]⟩, .slice none 0 0] 27))), hgA, ⟨cs_new rfl, fun o => row_frz (row_alloc _ _ _) o⟩, hbd.size, (by have h := cs_lt hsA.1; omega), (lv_step hlv (bel_alloc (Below.refl _ _) (.cells #[.int .i64 0, .int .i64 0, .float .f64 0, .string ⟨#[]⟩, .slice none 0 0] 27)))⟩ hHeld)
        refine any_have 9 [15, 4, 5, 6, 7, 8] (fun a a' w' => ∃ (gB gC gE : Nat), a' = ((((((a.put (some 13) (.pointer (some ⟨gB, 0, none⟩))).put (some 59) (.slice (some ⟨gC, 0, none⟩) 2 2)).put (some 60) (.string ⟨#[107, bi]⟩)).put (some 61) (.agg #[.int .i64 3, .int .i64 0, .float .f64 0, .string ⟨#[107, bi]⟩, .slice none 0 0])).put (some 62) (.agg #[.int .i64 3, .int .i64 0, .float .f64 0, .string { data := #[120] }, .slice none 0 0])).put (some 63) (.slice (some ⟨gE, 0, none⟩) 2 2)) ∧ FB w sb qs ms ds w' ∧ Below wr.heap.size wr w' ∧ SBX w' gB (.int .i64 0) (.int .i64 0) (.float .f64 0) (.string ⟨#[]⟩) (.slice none 0 0) ∧ wr.heap.size ≤ gB ∧ LV gE (nmF ii) 3 0 0 ⟨#[120]⟩ w') ?phK015n (fun hK015 => ?_)
        case phK015n =>
          intro a' w' hst hHeld
          obtain ⟨gB, gC, gE, rfl, hq, hbd, hsB, hgB, hlv⟩ := hst
          (try simp only [Act.put, List.setIfInBounds_toArray, List.set_cons_zero, List.set_cons_succ])
          refine wpAnyH_ready (rs := [9, 14]) (by kernel_rfl) (by simp) ?_
          refine AllReadyH.cons (o := ?_) ?hoXhK015n ?hstXhK015n (AllReadyH.cons (o := ?_) ?hoAhK015n ?hstAhK015n AllReadyH.nil)
          case hoXhK015n => (simp only [List.getElem?_toArray, List.getElem?_cons_zero, List.getElem?_cons_succ]; rfl)
          case hoAhK015n => (simp only [List.getElem?_toArray, List.getElem?_cons_zero, List.getElem?_cons_succ]; rfl)
          case hstXhK015n =>
            intro K hK
            go_simp
            have hrp := repS_rep _ _ _ (repS_step hbd HSTr.out); go_at_call 12; refine (HDO.out _ _ hrp hlv).mono ?_; rintro e wD ⟨tt, vv, rfl, hbT, ht, hv⟩; obtain ⟨Kt, It, Ft, Zt, qt, mt, dt, rfl, _⟩ := repS_shape ht; obtain ⟨Kv, Iv, Fv, Zv, qv, mv, dv, rfl, _⟩ := repS_shape hv
            go_wp2_with fail
            refine hK.out _ _ ?hsXhK015n (fun hHeld => ?_)
            case hsXhK015n => exact ((fb_step hq hbT)).1
            clear hK K
            (try simp only [Act.put, List.setIfInBounds_toArray, List.set_cons_zero, List.set_cons_succ])
            refine wpAnyH_take (i := 10) (oi := ?_) (v := ?_) ?hiXhK015n10 (by kernel_rfl) ?hfXhK015n10 ?hrXhK015n10 ?hQXhK015n10 ?hyXhK015n10 (by assumption) ?restXhK015n10
            case hiXhK015n10 => (simp only [List.getElem?_toArray, List.getElem?_cons_zero, List.getElem?_cons_succ]; rfl)
            case hfXhK015n10 => kernel_rfl
            case hrXhK015n10 => kernel_rfl
            case hyXhK015n10 => (refine Or.inl ⟨by rfl, ?_⟩; intro wS hSw; (try dsimp only at hSw); go_simp; (try with_reducible rfl))
            case hQXhK015n10 => exact fun _ _ _ h => h
            (try simp only [Act.put, List.setIfInBounds_toArray, List.set_cons_zero, List.set_cons_succ])
            refine wpAnyH_take (i := 11) (oi := ?_) (v := ?_) ?hiXhK015n11 (by kernel_rfl) ?hfXhK015n11 ?hrXhK015n11 ?hQXhK015n11 ?hyXhK015n11 (by assumption) ?restXhK015n11
            case hiXhK015n11 => (simp only [List.getElem?_toArray, List.getElem?_cons_zero, List.getElem?_cons_succ]; rfl)
            case hfXhK015n11 => kernel_rfl
            case hrXhK015n11 => kernel_rfl
            case hyXhK015n11 => (refine Or.inl ⟨by rfl, ?_⟩; intro wS hSw; (try dsimp only at hSw); go_simp; (try with_reducible rfl))
            case hQXhK015n11 => exact fun _ _ _ h => h
            (try simp only [Act.put, List.setIfInBounds_toArray, List.set_cons_zero, List.set_cons_succ])
            refine wpAnyH_take (i := 12) (oi := ?_) (v := ?_) ?hiXhK015n12 (by kernel_rfl) ?hfXhK015n12 ?hrXhK015n12 ?hQXhK015n12 ?hyXhK015n12 (by assumption) ?restXhK015n12
            case hiXhK015n12 => (simp only [List.getElem?_toArray, List.getElem?_cons_zero, List.getElem?_cons_succ]; rfl)
            case hfXhK015n12 => kernel_rfl
            case hrXhK015n12 => kernel_rfl
            case hyXhK015n12 => (refine Or.inl ⟨by rfl, ?_⟩; intro wS hSw; (try dsimp only at hSw); go_simp; (try with_reducible rfl))
            case hQXhK015n12 => exact fun _ _ _ h => h
            (try simp only [Act.put, List.setIfInBounds_toArray, List.set_cons_zero, List.set_cons_succ])
            refine wpAnyH_take (i := 13) (oi := ?_) (v := ?_) ?hiXhK015n13 (by kernel_rfl) ?hfXhK015n13 ?hrXhK015n13 ?hQXhK015n13 ?hyXhK015n13 (by assumption) ?restXhK015n13
            case hiXhK015n13 => (simp only [List.getElem?_toArray, List.getElem?_cons_zero, List.getElem?_cons_succ]; rfl)
            case hfXhK015n13 => kernel_rfl
            case hrXhK015n13 => kernel_rfl
            case hyXhK015n13 => (refine Or.inl ⟨by rfl, ?_⟩; intro wS hSw; (try dsimp only at hSw); go_simp; (try with_reducible rfl))
            case hQXhK015n13 => exact fun _ _ _ h => h
            (try simp only [Act.put, List.setIfInBounds_toArray, List.set_cons_zero, List.set_cons_succ])
            exact any_eq (by kernel_rfl) (by kernel_rfl) (hK016 _ _ ⟨gB, gC, gE, Kt, It, Ft, Zt, qt, mt, dt, Kv, Iv, Fv, Zv, qv, mv, dv, rfl, (fb_step hq hbT), (bel_step hbd hbT), (sbx_step hsB hbT), hgB, (repS_mono (fun b hb => ⟨Nat.le_trans hbd.size hb, (by have h := cs_lt hsB.1; have h2 : _ ≤ b := hb; omega)⟩) _ _ _ ht), (repS_mono (fun b hb => ⟨Nat.le_trans hbd.size hb, (by have h := cs_lt hsB.1; have h2 : _ ≤ b := hb; omega)⟩) _ _ _ hv)⟩ hHeld)
          case hstAhK015n =>
            intro K hK
            go_simp
            refine hK.out _ _ ?hsAhK015n (fun hHeld => ?_)
            case hsAhK015n => exact ((fb_step hq (bel_alloc (Below.refl _ _) (.cells #[.int .i64 0, .int .i64 0, .float .f64 0, .string ⟨#[]⟩, .slice none 0 0] 27)))).1
            clear hK K
            (try simp only [Act.put, List.setIfInBounds_toArray, List.set_cons_zero, List.set_cons_succ])
            exact any_eq (by kernel_rfl) (by kernel_rfl) (hK115 _ _ ⟨_, gB, gC, gE, rfl, (fb_step hq (bel_alloc (Below.refl _ _) (.cells #[.int .i64 0, .int .i64 0, .float .f64 0, .string ⟨#[]⟩, .slice none 0 0] 27))), (bel_step hbd (bel_alloc (Below.refl _ _) (.cells #[.int .i64 0, .int .i64 0, .float .f64 0, .string ⟨#[]⟩, .slice none 0 0] 27))), ⟨cs_new rfl, fun o => row_frz (row_alloc _ _ _) o⟩, hbd.size, (sbx_step hsB (bel_alloc (Below.refl _ _) (.cells #[.int .i64 0, .int .i64 0, .float .f64 0, .string ⟨#[]⟩, .slice none 0 0] 27))), hgB, (by have h := cs_lt hsB.1; omega), (lv_step hlv (bel_alloc (Below.refl _ _) (.cells #[.int .i64 0, .int .i64 0, .float .f64 0, .string ⟨#[]⟩, .slice none 0 0] 27)))⟩ hHeld)
        refine any_have 10 [4, 5, 6, 7, 8] (fun a a' w' => ∃ (gC gE : Nat), a' = (((((a.put (some 59) (.slice (some ⟨gC, 0, none⟩) 2 2)).put (some 60) (.string ⟨#[107, bi]⟩)).put (some 61) (.agg #[.int .i64 3, .int .i64 0, .float .f64 0, .string ⟨#[107, bi]⟩, .slice none 0 0])).put (some 62) (.agg #[.int .i64 3, .int .i64 0, .float .f64 0, .string { data := #[120] }, .slice none 0 0])).put (some 63) (.slice (some ⟨gE, 0, none⟩) 2 2)) ∧ FB w sb qs ms ds w' ∧ Below wr.heap.size wr w' ∧ LV gE (nmF ii) 3 0 0 ⟨#[120]⟩ w') ?phK005n (fun hK005 => ?_)
        case phK005n =>
          intro a' w' hst hHeld
          obtain ⟨gC, gE, rfl, hq, hbd, hlv⟩ := hst
          (try simp only [Act.put, List.setIfInBounds_toArray, List.set_cons_zero, List.set_cons_succ])
          refine wpAnyH_ready (rs := [9, 14, 15]) (by kernel_rfl) (by simp) ?_
          refine AllReadyH.cons (o := ?_) ?hoXhK005n ?hstXhK005n (AllReadyH.cons (o := ?_) ?hoAhK005n ?hstAhK005n (AllReadyH.cons (o := ?_) ?hoBhK005n ?hstBhK005n AllReadyH.nil))
          case hoXhK005n => (simp only [List.getElem?_toArray, List.getElem?_cons_zero, List.getElem?_cons_succ]; rfl)
          case hoAhK005n => (simp only [List.getElem?_toArray, List.getElem?_cons_zero, List.getElem?_cons_succ]; rfl)
          case hoBhK005n => (simp only [List.getElem?_toArray, List.getElem?_cons_zero, List.getElem?_cons_succ]; rfl)
          case hstXhK005n =>
            intro K hK
            go_simp
            have hrp := repS_rep _ _ _ (repS_step hbd HSTr.out); go_at_call 12; refine (HDO.out _ _ hrp hlv).mono ?_; rintro e wD ⟨tt, vv, rfl, hbT, ht, hv⟩; obtain ⟨Kt, It, Ft, Zt, qt, mt, dt, rfl, _⟩ := repS_shape ht; obtain ⟨Kv, Iv, Fv, Zv, qv, mv, dv, rfl, _⟩ := repS_shape hv
            go_wp2_with fail
            refine hK.out _ _ ?hsXhK005n (fun hHeld => ?_)
            case hsXhK005n => exact ((fb_step hq hbT)).1
            clear hK K
            (try simp only [Act.put, List.setIfInBounds_toArray, List.set_cons_zero, List.set_cons_succ])
            refine wpAnyH_take (i := 10) (oi := ?_) (v := ?_) ?hiXhK005n10 (by kernel_rfl) ?hfXhK005n10 ?hrXhK005n10 ?hQXhK005n10 ?hyXhK005n10 (by assumption) ?restXhK005n10
            case hiXhK005n10 => (simp only [List.getElem?_toArray, List.getElem?_cons_zero, List.getElem?_cons_succ]; rfl)
            case hfXhK005n10 => kernel_rfl
            case hrXhK005n10 => kernel_rfl
            case hyXhK005n10 => (refine Or.inl ⟨by rfl, ?_⟩; intro wS hSw; (try dsimp only at hSw); go_simp; (try with_reducible rfl))
            case hQXhK005n10 => exact fun _ _ _ h => h
            (try simp only [Act.put, List.setIfInBounds_toArray, List.set_cons_zero, List.set_cons_succ])
            refine wpAnyH_take (i := 11) (oi := ?_) (v := ?_) ?hiXhK005n11 (by kernel_rfl) ?hfXhK005n11 ?hrXhK005n11 ?hQXhK005n11 ?hyXhK005n11 (by assumption) ?restXhK005n11
            case hiXhK005n11 => (simp only [List.getElem?_toArray, List.getElem?_cons_zero, List.getElem?_cons_succ]; rfl)
            case hfXhK005n11 => kernel_rfl
            case hrXhK005n11 => kernel_rfl
            case hyXhK005n11 => (refine Or.inl ⟨by rfl, ?_⟩; intro wS hSw; (try dsimp only at hSw); go_simp; (try with_reducible rfl))
            case hQXhK005n11 => exact fun _ _ _ h => h
            (try simp only [Act.put, List.setIfInBounds_toArray, List.set_cons_zero, List.set_cons_succ])
            refine wpAnyH_take (i := 12) (oi := ?_) (v := ?_) ?hiXhK005n12 (by kernel_rfl) ?hfXhK005n12 ?hrXhK005n12 ?hQXhK005n12 ?hyXhK005n12 (by assumption) ?restXhK005n12
            case hiXhK005n12 => (simp only [List.getElem?_toArray, List.getElem?_cons_zero, List.getElem?_cons_succ]; rfl)
            case hfXhK005n12 => kernel_rfl
            case hrXhK005n12 => kernel_rfl
            case hyXhK005n12 => (refine Or.inl ⟨by rfl, ?_⟩; intro wS hSw; (try dsimp only at hSw); go_simp; (try with_reducible rfl))
            case hQXhK005n12 => exact fun _ _ _ h => h
            (try simp only [Act.put, List.setIfInBounds_toArray, List.set_cons_zero, List.set_cons_succ])
            refine wpAnyH_take (i := 13) (oi := ?_) (v := ?_) ?hiXhK005n13 (by kernel_rfl) ?hfXhK005n13 ?hrXhK005n13 ?hQXhK005n13 ?hyXhK005n13 (by assumption) ?restXhK005n13
            case hiXhK005n13 => (simp only [List.getElem?_toArray, List.getElem?_cons_zero, List.getElem?_cons_succ]; rfl)
            case hfXhK005n13 => kernel_rfl
            case hrXhK005n13 => kernel_rfl
            case hyXhK005n13 => (refine Or.inl ⟨by rfl, ?_⟩; intro wS hSw; (try dsimp only at hSw); go_simp; (try with_reducible rfl))
            case hQXhK005n13 => exact fun _ _ _ h => h
            (try simp only [Act.put, List.setIfInBounds_toArray, List.set_cons_zero, List.set_cons_succ])
            exact any_eq (by kernel_rfl) (by kernel_rfl) (hK006 _ _ ⟨gC, gE, Kt, It, Ft, Zt, qt, mt, dt, Kv, Iv, Fv, Zv, qv, mv, dv, rfl, (fb_step hq hbT), (bel_step hbd hbT), (repS_mono (fun b hb => Nat.le_trans hbd.size hb) _ _ _ ht), (repS_mono (fun b hb => Nat.le_trans hbd.size hb) _ _ _ hv)⟩ hHeld)
          case hstAhK005n =>
            intro K hK
            go_simp
            refine hK.out _ _ ?hsAhK005n (fun hHeld => ?_)
            case hsAhK005n => exact ((fb_step hq (bel_alloc (Below.refl _ _) (.cells #[.int .i64 0, .int .i64 0, .float .f64 0, .string ⟨#[]⟩, .slice none 0 0] 27)))).1
            clear hK K
            (try simp only [Act.put, List.setIfInBounds_toArray, List.set_cons_zero, List.set_cons_succ])
            exact any_eq (by kernel_rfl) (by kernel_rfl) (hK105 _ _ ⟨_, gC, gE, rfl, (fb_step hq (bel_alloc (Below.refl _ _) (.cells #[.int .i64 0, .int .i64 0, .float .f64 0, .string ⟨#[]⟩, .slice none 0 0] 27))), (bel_step hbd (bel_alloc (Below.refl _ _) (.cells #[.int .i64 0, .int .i64 0, .float .f64 0, .string ⟨#[]⟩, .slice none 0 0] 27))), ⟨cs_new rfl, fun o => row_frz (row_alloc _ _ _) o⟩, hbd.size, (lv_step hlv (bel_alloc (Below.refl _ _) (.cells #[.int .i64 0, .int .i64 0, .float .f64 0, .string ⟨#[]⟩, .slice none 0 0] 27)))⟩ hHeld)
          case hstBhK005n =>
            intro K hK
            go_simp
            refine hK.out _ _ ?hsBhK005n (fun hHeld => ?_)
            case hsBhK005n => exact ((fb_step hq (bel_alloc (Below.refl _ _) (.cells #[.int .i64 0, .int .i64 0, .float .f64 0, .string ⟨#[]⟩, .slice none 0 0] 27)))).1
            clear hK K
            (try simp only [Act.put, List.setIfInBounds_toArray, List.set_cons_zero, List.set_cons_succ])
            exact any_eq (by kernel_rfl) (by kernel_rfl) (hK015 _ _ ⟨_, gC, gE, rfl, (fb_step hq (bel_alloc (Below.refl _ _) (.cells #[.int .i64 0, .int .i64 0, .float .f64 0, .string ⟨#[]⟩, .slice none 0 0] 27))), (bel_step hbd (bel_alloc (Below.refl _ _) (.cells #[.int .i64 0, .int .i64 0, .float .f64 0, .string ⟨#[]⟩, .slice none 0 0] 27))), ⟨cs_new rfl, fun o => row_frz (row_alloc _ _ _) o⟩, hbd.size, (lv_step hlv (bel_alloc (Below.refl _ _) (.cells #[.int .i64 0, .int .i64 0, .float .f64 0, .string ⟨#[]⟩, .slice none 0 0] 27)))⟩ hHeld)
        refine any_have 9 [14, 15, 4, 5, 6, 7] (fun a a' w' => ∃ (gA gB gC : Nat), a' = ((((((a.put (some 12) (.pointer (some ⟨gA, 0, none⟩))).put (some 13) (.pointer (some ⟨gB, 0, none⟩))).put (some 59) (.slice (some ⟨gC, 0, none⟩) 2 2)).put (some 60) (.string ⟨#[107, bi]⟩)).put (some 61) (.agg #[.int .i64 3, .int .i64 0, .float .f64 0, .string ⟨#[107, bi]⟩, .slice none 0 0])).put (some 62) (.agg #[.int .i64 3, .int .i64 0, .float .f64 0, .string { data := #[120] }, .slice none 0 0])) ∧ FB w sb qs ms ds w' ∧ Below wr.heap.size wr w' ∧ SBX w' gA (.int .i64 0) (.int .i64 0) (.float .f64 0) (.string ⟨#[]⟩) (.slice none 0 0) ∧ wr.heap.size ≤ gA ∧ SBX w' gB (.int .i64 0) (.int .i64 0) (.float .f64 0) (.string ⟨#[]⟩) (.slice none 0 0) ∧ wr.heap.size ≤ gB ∧ gA ≠ gB) ?phK114n (fun hK114 => ?_)
        case phK114n =>
          intro a' w' hst hHeld
          obtain ⟨gA, gB, gC, rfl, hq, hbd, hsA, hgA, hsB, hgB, hne⟩ := hst
          (try simp only [Act.put, List.setIfInBounds_toArray, List.set_cons_zero, List.set_cons_succ])
          refine wpAnyH_ready (rs := [8]) (by kernel_rfl) (by simp) ?_
          refine AllReadyH.cons (o := ?_) ?hoXhK114n ?hstXhK114n AllReadyH.nil
          case hoXhK114n => (simp only [List.getElem?_toArray, List.getElem?_cons_zero, List.getElem?_cons_succ]; rfl)
          case hstXhK114n =>
            intro K hK
            go_simp
            refine hK.out _ _ ?hsXhK114n (fun hHeld => ?_)
            case hsXhK114n => exact ((fb_step hq (bel_alloc (Below.refl _ _) (.cells #[.int .i64 3, .int .i64 0, .float .f64 0, .string ⟨#[107, bi]⟩, .slice none 0 0, .int .i64 3, .int .i64 0, .float .f64 0, .string { data := #[120] }, .slice none 0 0] 27)))).1
            clear hK K
            (try simp only [Act.put, List.setIfInBounds_toArray, List.set_cons_zero, List.set_cons_succ])
            exact any_eq (by kernel_rfl) (by kernel_rfl) (hK115 _ _ ⟨gA, gB, gC, _, rfl, (fb_step hq (bel_alloc (Below.refl _ _) (.cells #[.int .i64 3, .int .i64 0, .float .f64 0, .string ⟨#[107, bi]⟩, .slice none 0 0, .int .i64 3, .int .i64 0, .float .f64 0, .string { data := #[120] }, .slice none 0 0] 27))), (bel_step hbd (bel_alloc (Below.refl _ _) (.cells #[.int .i64 3, .int .i64 0, .float .f64 0, .string ⟨#[107, bi]⟩, .slice none 0 0, .int .i64 3, .int .i64 0, .float .f64 0, .string { data := #[120] }, .slice none 0 0] 27))), (sbx_step hsA (bel_alloc (Below.refl _ _) (.cells #[.int .i64 3, .int .i64 0, .float .f64 0, .string ⟨#[107, bi]⟩, .slice none 0 0, .int .i64 3, .int .i64 0, .float .f64 0, .string { data := #[120] }, .slice none 0 0] 27))), hgA, (sbx_step hsB (bel_alloc (Below.refl _ _) (.cells #[.int .i64 3, .int .i64 0, .float .f64 0, .string ⟨#[107, bi]⟩, .slice none 0 0, .int .i64 3, .int .i64 0, .float .f64 0, .string { data := #[120] }, .slice none 0 0] 27))), hgB, hne, (by rw [HBI.out.2]; exact lv_new rfl (by decide : 2 ≤ maxLen) (by decide) (by decide) (by decide) (by decide))⟩ hHeld)
        refine any_have 10 [14, 4, 5, 6, 7] (fun a a' w' => ∃ (gA gC : Nat), a' = (((((a.put (some 12) (.pointer (some ⟨gA, 0, none⟩))).put (some 59) (.slice (some ⟨gC, 0, none⟩) 2 2)).put (some 60) (.string ⟨#[107, bi]⟩)).put (some 61) (.agg #[.int .i64 3, .int .i64 0, .float .f64 0, .string ⟨#[107, bi]⟩, .slice none 0 0])).put (some 62) (.agg #[.int .i64 3, .int .i64 0, .float .f64 0, .string { data := #[120] }, .slice none 0 0])) ∧ FB w sb qs ms ds w' ∧ Below wr.heap.size wr w' ∧ SBX w' gA (.int .i64 0) (.int .i64 0) (.float .f64 0) (.string ⟨#[]⟩) (.slice none 0 0) ∧ wr.heap.size ≤ gA) ?phK104n (fun hK104 => ?_)
        case phK104n =>
          intro a' w' hst hHeld
          obtain ⟨gA, gC, rfl, hq, hbd, hsA, hgA⟩ := hst
          (try simp only [Act.put, List.setIfInBounds_toArray, List.set_cons_zero, List.set_cons_succ])
          refine wpAnyH_ready (rs := [8, 15]) (by kernel_rfl) (by simp) ?_
          refine AllReadyH.cons (o := ?_) ?hoXhK104n ?hstXhK104n (AllReadyH.cons (o := ?_) ?hoBhK104n ?hstBhK104n AllReadyH.nil)
          case hoXhK104n => (simp only [List.getElem?_toArray, List.getElem?_cons_zero, List.getElem?_cons_succ]; rfl)
          case hoBhK104n => (simp only [List.getElem?_toArray, List.getElem?_cons_zero, List.getElem?_cons_succ]; rfl)
          case hstXhK104n =>
            intro K hK
            go_simp
            refine hK.out _ _ ?hsXhK104n (fun hHeld => ?_)
            case hsXhK104n => exact ((fb_step hq (bel_alloc (Below.refl _ _) (.cells #[.int .i64 3, .int .i64 0, .float .f64 0, .string ⟨#[107, bi]⟩, .slice none 0 0, .int .i64 3, .int .i64 0, .float .f64 0, .string { data := #[120] }, .slice none 0 0] 27)))).1
            clear hK K
            (try simp only [Act.put, List.setIfInBounds_toArray, List.set_cons_zero, List.set_cons_succ])
            exact any_eq (by kernel_rfl) (by kernel_rfl) (hK105 _ _ ⟨gA, gC, _, rfl, (fb_step hq (bel_alloc (Below.refl _ _) (.cells #[.int .i64 3, .int .i64 0, .float .f64 0, .string ⟨#[107, bi]⟩, .slice none 0 0, .int .i64 3, .int .i64 0, .float .f64 0, .string { data := #[120] }, .slice none 0 0] 27))), (bel_step hbd (bel_alloc (Below.refl _ _) (.cells #[.int .i64 3, .int .i64 0, .float .f64 0, .string ⟨#[107, bi]⟩, .slice none 0 0, .int .i64 3, .int .i64 0, .float .f64 0, .string { data := #[120] }, .slice none 0 0] 27))), (sbx_step hsA (bel_alloc (Below.refl _ _) (.cells #[.int .i64 3, .int .i64 0, .float .f64 0, .string ⟨#[107, bi]⟩, .slice none 0 0, .int .i64 3, .int .i64 0, .float .f64 0, .string { data := #[120] }, .slice none 0 0] 27))), hgA, (by rw [HBI.out.2]; exact lv_new rfl (by decide : 2 ≤ maxLen) (by decide) (by decide) (by decide) (by decide))⟩ hHeld)
          case hstBhK104n =>
            intro K hK
            go_simp
            refine hK.out _ _ ?hsBhK104n (fun hHeld => ?_)
            case hsBhK104n => exact ((fb_step hq (bel_alloc (Below.refl _ _) (.cells #[.int .i64 0, .int .i64 0, .float .f64 0, .string ⟨#[]⟩, .slice none 0 0] 27)))).1
            clear hK K
            (try simp only [Act.put, List.setIfInBounds_toArray, List.set_cons_zero, List.set_cons_succ])
            exact any_eq (by kernel_rfl) (by kernel_rfl) (hK114 _ _ ⟨gA, _, gC, rfl, (fb_step hq (bel_alloc (Below.refl _ _) (.cells #[.int .i64 0, .int .i64 0, .float .f64 0, .string ⟨#[]⟩, .slice none 0 0] 27))), (bel_step hbd (bel_alloc (Below.refl _ _) (.cells #[.int .i64 0, .int .i64 0, .float .f64 0, .string ⟨#[]⟩, .slice none 0 0] 27))), (sbx_step hsA (bel_alloc (Below.refl _ _) (.cells #[.int .i64 0, .int .i64 0, .float .f64 0, .string ⟨#[]⟩, .slice none 0 0] 27))), hgA, ⟨cs_new rfl, fun o => row_frz (row_alloc _ _ _) o⟩, hbd.size, (by have h := cs_lt hsA.1; omega)⟩ hHeld)
        refine any_have 10 [15, 4, 5, 6, 7] (fun a a' w' => ∃ (gB gC : Nat), a' = (((((a.put (some 13) (.pointer (some ⟨gB, 0, none⟩))).put (some 59) (.slice (some ⟨gC, 0, none⟩) 2 2)).put (some 60) (.string ⟨#[107, bi]⟩)).put (some 61) (.agg #[.int .i64 3, .int .i64 0, .float .f64 0, .string ⟨#[107, bi]⟩, .slice none 0 0])).put (some 62) (.agg #[.int .i64 3, .int .i64 0, .float .f64 0, .string { data := #[120] }, .slice none 0 0])) ∧ FB w sb qs ms ds w' ∧ Below wr.heap.size wr w' ∧ SBX w' gB (.int .i64 0) (.int .i64 0) (.float .f64 0) (.string ⟨#[]⟩) (.slice none 0 0) ∧ wr.heap.size ≤ gB) ?phK014n (fun hK014 => ?_)
        case phK014n =>
          intro a' w' hst hHeld
          obtain ⟨gB, gC, rfl, hq, hbd, hsB, hgB⟩ := hst
          (try simp only [Act.put, List.setIfInBounds_toArray, List.set_cons_zero, List.set_cons_succ])
          refine wpAnyH_ready (rs := [8, 14]) (by kernel_rfl) (by simp) ?_
          refine AllReadyH.cons (o := ?_) ?hoXhK014n ?hstXhK014n (AllReadyH.cons (o := ?_) ?hoAhK014n ?hstAhK014n AllReadyH.nil)
          case hoXhK014n => (simp only [List.getElem?_toArray, List.getElem?_cons_zero, List.getElem?_cons_succ]; rfl)
          case hoAhK014n => (simp only [List.getElem?_toArray, List.getElem?_cons_zero, List.getElem?_cons_succ]; rfl)
          case hstXhK014n =>
            intro K hK
            go_simp
            refine hK.out _ _ ?hsXhK014n (fun hHeld => ?_)
            case hsXhK014n => exact ((fb_step hq (bel_alloc (Below.refl _ _) (.cells #[.int .i64 3, .int .i64 0, .float .f64 0, .string ⟨#[107, bi]⟩, .slice none 0 0, .int .i64 3, .int .i64 0, .float .f64 0, .string { data := #[120] }, .slice none 0 0] 27)))).1
            clear hK K
            (try simp only [Act.put, List.setIfInBounds_toArray, List.set_cons_zero, List.set_cons_succ])
            exact any_eq (by kernel_rfl) (by kernel_rfl) (hK015 _ _ ⟨gB, gC, _, rfl, (fb_step hq (bel_alloc (Below.refl _ _) (.cells #[.int .i64 3, .int .i64 0, .float .f64 0, .string ⟨#[107, bi]⟩, .slice none 0 0, .int .i64 3, .int .i64 0, .float .f64 0, .string { data := #[120] }, .slice none 0 0] 27))), (bel_step hbd (bel_alloc (Below.refl _ _) (.cells #[.int .i64 3, .int .i64 0, .float .f64 0, .string ⟨#[107, bi]⟩, .slice none 0 0, .int .i64 3, .int .i64 0, .float .f64 0, .string { data := #[120] }, .slice none 0 0] 27))), (sbx_step hsB (bel_alloc (Below.refl _ _) (.cells #[.int .i64 3, .int .i64 0, .float .f64 0, .string ⟨#[107, bi]⟩, .slice none 0 0, .int .i64 3, .int .i64 0, .float .f64 0, .string { data := #[120] }, .slice none 0 0] 27))), hgB, (by rw [HBI.out.2]; exact lv_new rfl (by decide : 2 ≤ maxLen) (by decide) (by decide) (by decide) (by decide))⟩ hHeld)
          case hstAhK014n =>
            intro K hK
            go_simp
            refine hK.out _ _ ?hsAhK014n (fun hHeld => ?_)
            case hsAhK014n => exact ((fb_step hq (bel_alloc (Below.refl _ _) (.cells #[.int .i64 0, .int .i64 0, .float .f64 0, .string ⟨#[]⟩, .slice none 0 0] 27)))).1
            clear hK K
            (try simp only [Act.put, List.setIfInBounds_toArray, List.set_cons_zero, List.set_cons_succ])
            exact any_eq (by kernel_rfl) (by kernel_rfl) (hK114 _ _ ⟨_, gB, gC, rfl, (fb_step hq (bel_alloc (Below.refl _ _) (.cells #[.int .i64 0, .int .i64 0, .float .f64 0, .string ⟨#[]⟩, .slice none 0 0] 27))), (bel_step hbd (bel_alloc (Below.refl _ _) (.cells #[.int .i64 0, .int .i64 0, .float .f64 0, .string ⟨#[]⟩, .slice none 0 0] 27))), ⟨cs_new rfl, fun o => row_frz (row_alloc _ _ _) o⟩, hbd.size, (sbx_step hsB (bel_alloc (Below.refl _ _) (.cells #[.int .i64 0, .int .i64 0, .float .f64 0, .string ⟨#[]⟩, .slice none 0 0] 27))), hgB, (by have h := cs_lt hsB.1; omega)⟩ hHeld)
        refine any_have 11 [4, 5, 6, 7] (fun a a' w' => ∃ (gC : Nat), a' = ((((a.put (some 59) (.slice (some ⟨gC, 0, none⟩) 2 2)).put (some 60) (.string ⟨#[107, bi]⟩)).put (some 61) (.agg #[.int .i64 3, .int .i64 0, .float .f64 0, .string ⟨#[107, bi]⟩, .slice none 0 0])).put (some 62) (.agg #[.int .i64 3, .int .i64 0, .float .f64 0, .string { data := #[120] }, .slice none 0 0])) ∧ FB w sb qs ms ds w' ∧ Below wr.heap.size wr w') ?phK004n (fun hK004 => ?_)
        case phK004n =>
          intro a' w' hst hHeld
          obtain ⟨gC, rfl, hq, hbd⟩ := hst
          (try simp only [Act.put, List.setIfInBounds_toArray, List.set_cons_zero, List.set_cons_succ])
          refine wpAnyH_ready (rs := [8, 14, 15]) (by kernel_rfl) (by simp) ?_
          refine AllReadyH.cons (o := ?_) ?hoXhK004n ?hstXhK004n (AllReadyH.cons (o := ?_) ?hoAhK004n ?hstAhK004n (AllReadyH.cons (o := ?_) ?hoBhK004n ?hstBhK004n AllReadyH.nil))
          case hoXhK004n => (simp only [List.getElem?_toArray, List.getElem?_cons_zero, List.getElem?_cons_succ]; rfl)
          case hoAhK004n => (simp only [List.getElem?_toArray, List.getElem?_cons_zero, List.getElem?_cons_succ]; rfl)
          case hoBhK004n => (simp only [List.getElem?_toArray, List.getElem?_cons_zero, List.getElem?_cons_succ]; rfl)
          case hstXhK004n =>
            intro K hK
            go_simp
            refine hK.out _ _ ?hsXhK004n (fun hHeld => ?_)
            case hsXhK004n => exact ((fb_step hq (bel_alloc (Below.refl _ _) (.cells #[.int .i64 3, .int .i64 0, .float .f64 0, .string ⟨#[107, bi]⟩, .slice none 0 0, .int .i64 3, .int .i64 0, .float .f64 0, .string { data := #[120] }, .slice none 0 0] 27)))).1
            clear hK K
            (try simp only [Act.put, List.setIfInBounds_toArray, List.set_cons_zero, List.set_cons_succ])
            exact any_eq (by kernel_rfl) (by kernel_rfl) (hK005 _ _ ⟨gC, _, rfl, (fb_step hq (bel_alloc (Below.refl _ _) (.cells #[.int .i64 3, .int .i64 0, .float .f64 0, .string ⟨#[107, bi]⟩, .slice none 0 0, .int .i64 3, .int .i64 0, .float .f64 0, .string { data := #[120] }, .slice none 0 0] 27))), (bel_step hbd (bel_alloc (Below.refl _ _) (.cells #[.int .i64 3, .int .i64 0, .float .f64 0, .string ⟨#[107, bi]⟩, .slice none 0 0, .int .i64 3, .int .i64 0, .float .f64 0, .string { data := #[120] }, .slice none 0 0] 27))), (by rw [HBI.out.2]; exact lv_new rfl (by decide : 2 ≤ maxLen) (by decide) (by decide) (by decide) (by decide))⟩ hHeld)
          case hstAhK004n =>
            intro K hK
            go_simp
            refine hK.out _ _ ?hsAhK004n (fun hHeld => ?_)
            case hsAhK004n => exact ((fb_step hq (bel_alloc (Below.refl _ _) (.cells #[.int .i64 0, .int .i64 0, .float .f64 0, .string ⟨#[]⟩, .slice none 0 0] 27)))).1
            clear hK K
            (try simp only [Act.put, List.setIfInBounds_toArray, List.set_cons_zero, List.set_cons_succ])
            exact any_eq (by kernel_rfl) (by kernel_rfl) (hK104 _ _ ⟨_, gC, rfl, (fb_step hq (bel_alloc (Below.refl _ _) (.cells #[.int .i64 0, .int .i64 0, .float .f64 0, .string ⟨#[]⟩, .slice none 0 0] 27))), (bel_step hbd (bel_alloc (Below.refl _ _) (.cells #[.int .i64 0, .int .i64 0, .float .f64 0, .string ⟨#[]⟩, .slice none 0 0] 27))), ⟨cs_new rfl, fun o => row_frz (row_alloc _ _ _) o⟩, hbd.size⟩ hHeld)
          case hstBhK004n =>
            intro K hK
            go_simp
            refine hK.out _ _ ?hsBhK004n (fun hHeld => ?_)
            case hsBhK004n => exact ((fb_step hq (bel_alloc (Below.refl _ _) (.cells #[.int .i64 0, .int .i64 0, .float .f64 0, .string ⟨#[]⟩, .slice none 0 0] 27)))).1
            clear hK K
            (try simp only [Act.put, List.setIfInBounds_toArray, List.set_cons_zero, List.set_cons_succ])
            exact any_eq (by kernel_rfl) (by kernel_rfl) (hK014 _ _ ⟨_, gC, rfl, (fb_step hq (bel_alloc (Below.refl _ _) (.cells #[.int .i64 0, .int .i64 0, .float .f64 0, .string ⟨#[]⟩, .slice none 0 0] 27))), (bel_step hbd (bel_alloc (Below.refl _ _) (.cells #[.int .i64 0, .int .i64 0, .float .f64 0, .string ⟨#[]⟩, .slice none 0 0] 27))), ⟨cs_new rfl, fun o => row_frz (row_alloc _ _ _) o⟩, hbd.size⟩ hHeld)
        refine any_have 10 [14, 15, 4, 5, 6] (fun a a' w' => ∃ (gA gB gC : Nat), a' = (((((a.put (some 12) (.pointer (some ⟨gA, 0, none⟩))).put (some 13) (.pointer (some ⟨gB, 0, none⟩))).put (some 59) (.slice (some ⟨gC, 0, none⟩) 2 2)).put (some 60) (.string ⟨#[107, bi]⟩)).put (some 61) (.agg #[.int .i64 3, .int .i64 0, .float .f64 0, .string ⟨#[107, bi]⟩, .slice none 0 0])) ∧ FB w sb qs ms ds w' ∧ Below wr.heap.size wr w' ∧ SBX w' gA (.int .i64 0) (.int .i64 0) (.float .f64 0) (.string ⟨#[]⟩) (.slice none 0 0) ∧ wr.heap.size ≤ gA ∧ SBX w' gB (.int .i64 0) (.int .i64 0) (.float .f64 0) (.string ⟨#[]⟩) (.slice none 0 0) ∧ wr.heap.size ≤ gB ∧ gA ≠ gB) ?phK113n (fun hK113 => ?_)
        case phK113n =>
          intro a' w' hst hHeld
          obtain ⟨gA, gB, gC, rfl, hq, hbd, hsA, hgA, hsB, hgB, hne⟩ := hst
          (try simp only [Act.put, List.setIfInBounds_toArray, List.set_cons_zero, List.set_cons_succ])
          refine wpAnyH_ready (rs := [7]) (by kernel_rfl) (by simp) ?_
          refine AllReadyH.cons (o := ?_) ?hoXhK113n ?hstXhK113n AllReadyH.nil
          case hoXhK113n => (simp only [List.getElem?_toArray, List.getElem?_cons_zero, List.getElem?_cons_succ]; rfl)
          case hstXhK113n =>
            intro K hK
            go_simp
            go_at_call 19; refine (text_ref_any _ _).mono ?_; rintro e wT ⟨rfl, hbT⟩
            go_wp2_with fail
            refine hK.out _ _ ?hsXhK113n (fun hHeld => ?_)
            case hsXhK113n => exact ((fb_step hq hbT)).1
            clear hK K
            (try simp only [Act.put, List.setIfInBounds_toArray, List.set_cons_zero, List.set_cons_succ])
            exact any_eq (by kernel_rfl) (by kernel_rfl) (hK114 _ _ ⟨gA, gB, gC, rfl, (fb_step hq hbT), (bel_step hbd hbT), (sbx_step hsA hbT), hgA, (sbx_step hsB hbT), hgB, hne⟩ hHeld)
        refine any_have 11 [14, 4, 5, 6] (fun a a' w' => ∃ (gA gC : Nat), a' = ((((a.put (some 12) (.pointer (some ⟨gA, 0, none⟩))).put (some 59) (.slice (some ⟨gC, 0, none⟩) 2 2)).put (some 60) (.string ⟨#[107, bi]⟩)).put (some 61) (.agg #[.int .i64 3, .int .i64 0, .float .f64 0, .string ⟨#[107, bi]⟩, .slice none 0 0])) ∧ FB w sb qs ms ds w' ∧ Below wr.heap.size wr w' ∧ SBX w' gA (.int .i64 0) (.int .i64 0) (.float .f64 0) (.string ⟨#[]⟩) (.slice none 0 0) ∧ wr.heap.size ≤ gA) ?phK103n (fun hK103 => ?_)
        case phK103n =>
          intro a' w' hst hHeld
          obtain ⟨gA, gC, rfl, hq, hbd, hsA, hgA⟩ := hst
          (try simp only [Act.put, List.setIfInBounds_toArray, List.set_cons_zero, List.set_cons_succ])
          refine wpAnyH_ready (rs := [7, 15]) (by kernel_rfl) (by simp) ?_
          refine AllReadyH.cons (o := ?_) ?hoXhK103n ?hstXhK103n (AllReadyH.cons (o := ?_) ?hoBhK103n ?hstBhK103n AllReadyH.nil)
          case hoXhK103n => (simp only [List.getElem?_toArray, List.getElem?_cons_zero, List.getElem?_cons_succ]; rfl)
          case hoBhK103n => (simp only [List.getElem?_toArray, List.getElem?_cons_zero, List.getElem?_cons_succ]; rfl)
          case hstXhK103n =>
            intro K hK
            go_simp
            go_at_call 19; refine (text_ref_any _ _).mono ?_; rintro e wT ⟨rfl, hbT⟩
            go_wp2_with fail
            refine hK.out _ _ ?hsXhK103n (fun hHeld => ?_)
            case hsXhK103n => exact ((fb_step hq hbT)).1
            clear hK K
            (try simp only [Act.put, List.setIfInBounds_toArray, List.set_cons_zero, List.set_cons_succ])
            exact any_eq (by kernel_rfl) (by kernel_rfl) (hK104 _ _ ⟨gA, gC, rfl, (fb_step hq hbT), (bel_step hbd hbT), (sbx_step hsA hbT), hgA⟩ hHeld)
          case hstBhK103n =>
            intro K hK
            go_simp
            refine hK.out _ _ ?hsBhK103n (fun hHeld => ?_)
            case hsBhK103n => exact ((fb_step hq (bel_alloc (Below.refl _ _) (.cells #[.int .i64 0, .int .i64 0, .float .f64 0, .string ⟨#[]⟩, .slice none 0 0] 27)))).1
            clear hK K
            (try simp only [Act.put, List.setIfInBounds_toArray, List.set_cons_zero, List.set_cons_succ])
            exact any_eq (by kernel_rfl) (by kernel_rfl) (hK113 _ _ ⟨gA, _, gC, rfl, (fb_step hq (bel_alloc (Below.refl _ _) (.cells #[.int .i64 0, .int .i64 0, .float .f64 0, .string ⟨#[]⟩, .slice none 0 0] 27))), (bel_step hbd (bel_alloc (Below.refl _ _) (.cells #[.int .i64 0, .int .i64 0, .float .f64 0, .string ⟨#[]⟩, .slice none 0 0] 27))), (sbx_step hsA (bel_alloc (Below.refl _ _) (.cells #[.int .i64 0, .int .i64 0, .float .f64 0, .string ⟨#[]⟩, .slice none 0 0] 27))), hgA, ⟨cs_new rfl, fun o => row_frz (row_alloc _ _ _) o⟩, hbd.size, (by have h := cs_lt hsA.1; omega)⟩ hHeld)
        refine any_have 11 [15, 4, 5, 6] (fun a a' w' => ∃ (gB gC : Nat), a' = ((((a.put (some 13) (.pointer (some ⟨gB, 0, none⟩))).put (some 59) (.slice (some ⟨gC, 0, none⟩) 2 2)).put (some 60) (.string ⟨#[107, bi]⟩)).put (some 61) (.agg #[.int .i64 3, .int .i64 0, .float .f64 0, .string ⟨#[107, bi]⟩, .slice none 0 0])) ∧ FB w sb qs ms ds w' ∧ Below wr.heap.size wr w' ∧ SBX w' gB (.int .i64 0) (.int .i64 0) (.float .f64 0) (.string ⟨#[]⟩) (.slice none 0 0) ∧ wr.heap.size ≤ gB) ?phK013n (fun hK013 => ?_)
        case phK013n =>
          intro a' w' hst hHeld
          obtain ⟨gB, gC, rfl, hq, hbd, hsB, hgB⟩ := hst
          (try simp only [Act.put, List.setIfInBounds_toArray, List.set_cons_zero, List.set_cons_succ])
          refine wpAnyH_ready (rs := [7, 14]) (by kernel_rfl) (by simp) ?_
          refine AllReadyH.cons (o := ?_) ?hoXhK013n ?hstXhK013n (AllReadyH.cons (o := ?_) ?hoAhK013n ?hstAhK013n AllReadyH.nil)
          case hoXhK013n => (simp only [List.getElem?_toArray, List.getElem?_cons_zero, List.getElem?_cons_succ]; rfl)
          case hoAhK013n => (simp only [List.getElem?_toArray, List.getElem?_cons_zero, List.getElem?_cons_succ]; rfl)
          case hstXhK013n =>
            intro K hK
            go_simp
            go_at_call 19; refine (text_ref_any _ _).mono ?_; rintro e wT ⟨rfl, hbT⟩
            go_wp2_with fail
            refine hK.out _ _ ?hsXhK013n (fun hHeld => ?_)
            case hsXhK013n => exact ((fb_step hq hbT)).1
            clear hK K
            (try simp only [Act.put, List.setIfInBounds_toArray, List.set_cons_zero, List.set_cons_succ])
            exact any_eq (by kernel_rfl) (by kernel_rfl) (hK014 _ _ ⟨gB, gC, rfl, (fb_step hq hbT), (bel_step hbd hbT), (sbx_step hsB hbT), hgB⟩ hHeld)
          case hstAhK013n =>
            intro K hK
            go_simp
            refine hK.out _ _ ?hsAhK013n (fun hHeld => ?_)
            case hsAhK013n => exact ((fb_step hq (bel_alloc (Below.refl _ _) (.cells #[.int .i64 0, .int .i64 0, .float .f64 0, .string ⟨#[]⟩, .slice none 0 0] 27)))).1
            clear hK K
            (try simp only [Act.put, List.setIfInBounds_toArray, List.set_cons_zero, List.set_cons_succ])
            exact any_eq (by kernel_rfl) (by kernel_rfl) (hK113 _ _ ⟨_, gB, gC, rfl, (fb_step hq (bel_alloc (Below.refl _ _) (.cells #[.int .i64 0, .int .i64 0, .float .f64 0, .string ⟨#[]⟩, .slice none 0 0] 27))), (bel_step hbd (bel_alloc (Below.refl _ _) (.cells #[.int .i64 0, .int .i64 0, .float .f64 0, .string ⟨#[]⟩, .slice none 0 0] 27))), ⟨cs_new rfl, fun o => row_frz (row_alloc _ _ _) o⟩, hbd.size, (sbx_step hsB (bel_alloc (Below.refl _ _) (.cells #[.int .i64 0, .int .i64 0, .float .f64 0, .string ⟨#[]⟩, .slice none 0 0] 27))), hgB, (by have h := cs_lt hsB.1; omega)⟩ hHeld)
        refine any_have 12 [4, 5, 6] (fun a a' w' => ∃ (gC : Nat), a' = (((a.put (some 59) (.slice (some ⟨gC, 0, none⟩) 2 2)).put (some 60) (.string ⟨#[107, bi]⟩)).put (some 61) (.agg #[.int .i64 3, .int .i64 0, .float .f64 0, .string ⟨#[107, bi]⟩, .slice none 0 0])) ∧ FB w sb qs ms ds w' ∧ Below wr.heap.size wr w') ?phK003n (fun hK003 => ?_)
        case phK003n =>
          intro a' w' hst hHeld
          obtain ⟨gC, rfl, hq, hbd⟩ := hst
          (try simp only [Act.put, List.setIfInBounds_toArray, List.set_cons_zero, List.set_cons_succ])
          refine wpAnyH_ready (rs := [7, 14, 15]) (by kernel_rfl) (by simp) ?_
          refine AllReadyH.cons (o := ?_) ?hoXhK003n ?hstXhK003n (AllReadyH.cons (o := ?_) ?hoAhK003n ?hstAhK003n (AllReadyH.cons (o := ?_) ?hoBhK003n ?hstBhK003n AllReadyH.nil))
          case hoXhK003n => (simp only [List.getElem?_toArray, List.getElem?_cons_zero, List.getElem?_cons_succ]; rfl)
          case hoAhK003n => (simp only [List.getElem?_toArray, List.getElem?_cons_zero, List.getElem?_cons_succ]; rfl)
          case hoBhK003n => (simp only [List.getElem?_toArray, List.getElem?_cons_zero, List.getElem?_cons_succ]; rfl)
          case hstXhK003n =>
            intro K hK
            go_simp
            go_at_call 19; refine (text_ref_any _ _).mono ?_; rintro e wT ⟨rfl, hbT⟩
            go_wp2_with fail
            refine hK.out _ _ ?hsXhK003n (fun hHeld => ?_)
            case hsXhK003n => exact ((fb_step hq hbT)).1
            clear hK K
            (try simp only [Act.put, List.setIfInBounds_toArray, List.set_cons_zero, List.set_cons_succ])
            exact any_eq (by kernel_rfl) (by kernel_rfl) (hK004 _ _ ⟨gC, rfl, (fb_step hq hbT), (bel_step hbd hbT)⟩ hHeld)
          case hstAhK003n =>
            intro K hK
            go_simp
            refine hK.out _ _ ?hsAhK003n (fun hHeld => ?_)
            case hsAhK003n => exact ((fb_step hq (bel_alloc (Below.refl _ _) (.cells #[.int .i64 0, .int .i64 0, .float .f64 0, .string ⟨#[]⟩, .slice none 0 0] 27)))).1
            clear hK K
            (try simp only [Act.put, List.setIfInBounds_toArray, List.set_cons_zero, List.set_cons_succ])
            exact any_eq (by kernel_rfl) (by kernel_rfl) (hK103 _ _ ⟨_, gC, rfl, (fb_step hq (bel_alloc (Below.refl _ _) (.cells #[.int .i64 0, .int .i64 0, .float .f64 0, .string ⟨#[]⟩, .slice none 0 0] 27))), (bel_step hbd (bel_alloc (Below.refl _ _) (.cells #[.int .i64 0, .int .i64 0, .float .f64 0, .string ⟨#[]⟩, .slice none 0 0] 27))), ⟨cs_new rfl, fun o => row_frz (row_alloc _ _ _) o⟩, hbd.size⟩ hHeld)
          case hstBhK003n =>
            intro K hK
            go_simp
            refine hK.out _ _ ?hsBhK003n (fun hHeld => ?_)
            case hsBhK003n => exact ((fb_step hq (bel_alloc (Below.refl _ _) (.cells #[.int .i64 0, .int .i64 0, .float .f64 0, .string ⟨#[]⟩, .slice none 0 0] 27)))).1
            clear hK K
            (try simp only [Act.put, List.setIfInBounds_toArray, List.set_cons_zero, List.set_cons_succ])
            exact any_eq (by kernel_rfl) (by kernel_rfl) (hK013 _ _ ⟨_, gC, rfl, (fb_step hq (bel_alloc (Below.refl _ _) (.cells #[.int .i64 0, .int .i64 0, .float .f64 0, .string ⟨#[]⟩, .slice none 0 0] 27))), (bel_step hbd (bel_alloc (Below.refl _ _) (.cells #[.int .i64 0, .int .i64 0, .float .f64 0, .string ⟨#[]⟩, .slice none 0 0] 27))), ⟨cs_new rfl, fun o => row_frz (row_alloc _ _ _) o⟩, hbd.size⟩ hHeld)
        refine any_have 11 [14, 15, 4, 5] (fun a a' w' => ∃ (gA gB gC : Nat), a' = ((((a.put (some 12) (.pointer (some ⟨gA, 0, none⟩))).put (some 13) (.pointer (some ⟨gB, 0, none⟩))).put (some 59) (.slice (some ⟨gC, 0, none⟩) 2 2)).put (some 60) (.string ⟨#[107, bi]⟩)) ∧ FB w sb qs ms ds w' ∧ Below wr.heap.size wr w' ∧ SBX w' gA (.int .i64 0) (.int .i64 0) (.float .f64 0) (.string ⟨#[]⟩) (.slice none 0 0) ∧ wr.heap.size ≤ gA ∧ SBX w' gB (.int .i64 0) (.int .i64 0) (.float .f64 0) (.string ⟨#[]⟩) (.slice none 0 0) ∧ wr.heap.size ≤ gB ∧ gA ≠ gB) ?phK112n (fun hK112 => ?_)
        case phK112n =>
          intro a' w' hst hHeld
          obtain ⟨gA, gB, gC, rfl, hq, hbd, hsA, hgA, hsB, hgB, hne⟩ := hst
          (try simp only [Act.put, List.setIfInBounds_toArray, List.set_cons_zero, List.set_cons_succ])
          refine wpAnyH_ready (rs := [6]) (by kernel_rfl) (by simp) ?_
          refine AllReadyH.cons (o := ?_) ?hoXhK112n ?hstXhK112n AllReadyH.nil
          case hoXhK112n => (simp only [List.getElem?_toArray, List.getElem?_cons_zero, List.getElem?_cons_succ]; rfl)
          case hstXhK112n =>
            intro K hK
            go_simp
            go_at_call 19; refine (text_ref_any _ _).mono ?_; rintro e wT ⟨rfl, hbT⟩
            go_wp2_with fail
            refine hK.out _ _ ?hsXhK112n (fun hHeld => ?_)
            case hsXhK112n => exact ((fb_step hq hbT)).1
            clear hK K
            (try simp only [Act.put, List.setIfInBounds_toArray, List.set_cons_zero, List.set_cons_succ])
            exact any_eq (by kernel_rfl) (by kernel_rfl) (hK113 _ _ ⟨gA, gB, gC, rfl, (fb_step hq hbT), (bel_step hbd hbT), (sbx_step hsA hbT), hgA, (sbx_step hsB hbT), hgB, hne⟩ hHeld)
        refine any_have 12 [14, 4, 5] (fun a a' w' => ∃ (gA gC : Nat), a' = (((a.put (some 12) (.pointer (some ⟨gA, 0, none⟩))).put (some 59) (.slice (some ⟨gC, 0, none⟩) 2 2)).put (some 60) (.string ⟨#[107, bi]⟩)) ∧ FB w sb qs ms ds w' ∧ Below wr.heap.size wr w' ∧ SBX w' gA (.int .i64 0) (.int .i64 0) (.float .f64 0) (.string ⟨#[]⟩) (.slice none 0 0) ∧ wr.heap.size ≤ gA) ?phK102n (fun hK102 => ?_)
        case phK102n =>
          intro a' w' hst hHeld
          obtain ⟨gA, gC, rfl, hq, hbd, hsA, hgA⟩ := hst
          (try simp only [Act.put, List.setIfInBounds_toArray, List.set_cons_zero, List.set_cons_succ])
          refine wpAnyH_ready (rs := [6, 15]) (by kernel_rfl) (by simp) ?_
          refine AllReadyH.cons (o := ?_) ?hoXhK102n ?hstXhK102n (AllReadyH.cons (o := ?_) ?hoBhK102n ?hstBhK102n AllReadyH.nil)
          case hoXhK102n => (simp only [List.getElem?_toArray, List.getElem?_cons_zero, List.getElem?_cons_succ]; rfl)
          case hoBhK102n => (simp only [List.getElem?_toArray, List.getElem?_cons_zero, List.getElem?_cons_succ]; rfl)
          case hstXhK102n =>
            intro K hK
            go_simp
            go_at_call 19; refine (text_ref_any _ _).mono ?_; rintro e wT ⟨rfl, hbT⟩
            go_wp2_with fail
            refine hK.out _ _ ?hsXhK102n (fun hHeld => ?_)
            case hsXhK102n => exact ((fb_step hq hbT)).1
            clear hK K
            (try simp only [Act.put, List.setIfInBounds_toArray, List.set_cons_zero, List.set_cons_succ])
            exact any_eq (by kernel_rfl) (by kernel_rfl) (hK103 _ _ ⟨gA, gC, rfl, (fb_step hq hbT), (bel_step hbd hbT), (sbx_step hsA hbT), hgA⟩ hHeld)
          case hstBhK102n =>
            intro K hK
            go_simp
            refine hK.out _ _ ?hsBhK102n (fun hHeld => ?_)
            case hsBhK102n => exact ((fb_step hq (bel_alloc (Below.refl _ _) (.cells #[.int .i64 0, .int .i64 0, .float .f64 0, .string ⟨#[]⟩, .slice none 0 0] 27)))).1
            clear hK K
            (try simp only [Act.put, List.setIfInBounds_toArray, List.set_cons_zero, List.set_cons_succ])
            exact any_eq (by kernel_rfl) (by kernel_rfl) (hK112 _ _ ⟨gA, _, gC, rfl, (fb_step hq (bel_alloc (Below.refl _ _) (.cells #[.int .i64 0, .int .i64 0, .float .f64 0, .string ⟨#[]⟩, .slice none 0 0] 27))), (bel_step hbd (bel_alloc (Below.refl _ _) (.cells #[.int .i64 0, .int .i64 0, .float .f64 0, .string ⟨#[]⟩, .slice none 0 0] 27))), (sbx_step hsA (bel_alloc (Below.refl _ _) (.cells #[.int .i64 0, .int .i64 0, .float .f64 0, .string ⟨#[]⟩, .slice none 0 0] 27))), hgA, ⟨cs_new rfl, fun o => row_frz (row_alloc _ _ _) o⟩, hbd.size, (by have h := cs_lt hsA.1; omega)⟩ hHeld)
        refine any_have 12 [15, 4, 5] (fun a a' w' => ∃ (gB gC : Nat), a' = (((a.put (some 13) (.pointer (some ⟨gB, 0, none⟩))).put (some 59) (.slice (some ⟨gC, 0, none⟩) 2 2)).put (some 60) (.string ⟨#[107, bi]⟩)) ∧ FB w sb qs ms ds w' ∧ Below wr.heap.size wr w' ∧ SBX w' gB (.int .i64 0) (.int .i64 0) (.float .f64 0) (.string ⟨#[]⟩) (.slice none 0 0) ∧ wr.heap.size ≤ gB) ?phK012n (fun hK012 => ?_)
        case phK012n =>
          intro a' w' hst hHeld
          obtain ⟨gB, gC, rfl, hq, hbd, hsB, hgB⟩ := hst
          (try simp only [Act.put, List.setIfInBounds_toArray, List.set_cons_zero, List.set_cons_succ])
          refine wpAnyH_ready (rs := [6, 14]) (by kernel_rfl) (by simp) ?_
          refine AllReadyH.cons (o := ?_) ?hoXhK012n ?hstXhK012n (AllReadyH.cons (o := ?_) ?hoAhK012n ?hstAhK012n AllReadyH.nil)
          case hoXhK012n => (simp only [List.getElem?_toArray, List.getElem?_cons_zero, List.getElem?_cons_succ]; rfl)
          case hoAhK012n => (simp only [List.getElem?_toArray, List.getElem?_cons_zero, List.getElem?_cons_succ]; rfl)
          case hstXhK012n =>
            intro K hK
            go_simp
            go_at_call 19; refine (text_ref_any _ _).mono ?_; rintro e wT ⟨rfl, hbT⟩
            go_wp2_with fail
            refine hK.out _ _ ?hsXhK012n (fun hHeld => ?_)
            case hsXhK012n => exact ((fb_step hq hbT)).1
            clear hK K
            (try simp only [Act.put, List.setIfInBounds_toArray, List.set_cons_zero, List.set_cons_succ])
            exact any_eq (by kernel_rfl) (by kernel_rfl) (hK013 _ _ ⟨gB, gC, rfl, (fb_step hq hbT), (bel_step hbd hbT), (sbx_step hsB hbT), hgB⟩ hHeld)
          case hstAhK012n =>
            intro K hK
            go_simp
            refine hK.out _ _ ?hsAhK012n (fun hHeld => ?_)
            case hsAhK012n => exact ((fb_step hq (bel_alloc (Below.refl _ _) (.cells #[.int .i64 0, .int .i64 0, .float .f64 0, .string ⟨#[]⟩, .slice none 0 0] 27)))).1
            clear hK K
            (try simp only [Act.put, List.setIfInBounds_toArray, List.set_cons_zero, List.set_cons_succ])
            exact any_eq (by kernel_rfl) (by kernel_rfl) (hK112 _ _ ⟨_, gB, gC, rfl, (fb_step hq (bel_alloc (Below.refl _ _) (.cells #[.int .i64 0, .int .i64 0, .float .f64 0, .string ⟨#[]⟩, .slice none 0 0] 27))), (bel_step hbd (bel_alloc (Below.refl _ _) (.cells #[.int .i64 0, .int .i64 0, .float .f64 0, .string ⟨#[]⟩, .slice none 0 0] 27))), ⟨cs_new rfl, fun o => row_frz (row_alloc _ _ _) o⟩, hbd.size, (sbx_step hsB (bel_alloc (Below.refl _ _) (.cells #[.int .i64 0, .int .i64 0, .float .f64 0, .string ⟨#[]⟩, .slice none 0 0] 27))), hgB, (by have h := cs_lt hsB.1; omega)⟩ hHeld)
        refine any_have 13 [4, 5] (fun a a' w' => ∃ (gC : Nat), a' = ((a.put (some 59) (.slice (some ⟨gC, 0, none⟩) 2 2)).put (some 60) (.string ⟨#[107, bi]⟩)) ∧ FB w sb qs ms ds w' ∧ Below wr.heap.size wr w') ?phK002n (fun hK002 => ?_)
        case phK002n =>
          intro a' w' hst hHeld
          obtain ⟨gC, rfl, hq, hbd⟩ := hst
          (try simp only [Act.put, List.setIfInBounds_toArray, List.set_cons_zero, List.set_cons_succ])
          refine wpAnyH_ready (rs := [6, 14, 15]) (by kernel_rfl) (by simp) ?_
          refine AllReadyH.cons (o := ?_) ?hoXhK002n ?hstXhK002n (AllReadyH.cons (o := ?_) ?hoAhK002n ?hstAhK002n (AllReadyH.cons (o := ?_) ?hoBhK002n ?hstBhK002n AllReadyH.nil))
          case hoXhK002n => (simp only [List.getElem?_toArray, List.getElem?_cons_zero, List.getElem?_cons_succ]; rfl)
          case hoAhK002n => (simp only [List.getElem?_toArray, List.getElem?_cons_zero, List.getElem?_cons_succ]; rfl)
          case hoBhK002n => (simp only [List.getElem?_toArray, List.getElem?_cons_zero, List.getElem?_cons_succ]; rfl)
          case hstXhK002n =>
            intro K hK
            go_simp
            go_at_call 19; refine (text_ref_any _ _).mono ?_; rintro e wT ⟨rfl, hbT⟩
            go_wp2_with fail
            refine hK.out _ _ ?hsXhK002n (fun hHeld => ?_)
            case hsXhK002n => exact ((fb_step hq hbT)).1
            clear hK K
            (try simp only [Act.put, List.setIfInBounds_toArray, List.set_cons_zero, List.set_cons_succ])
            exact any_eq (by kernel_rfl) (by kernel_rfl) (hK003 _ _ ⟨gC, rfl, (fb_step hq hbT), (bel_step hbd hbT)⟩ hHeld)
          case hstAhK002n =>
            intro K hK
            go_simp
            refine hK.out _ _ ?hsAhK002n (fun hHeld => ?_)
            case hsAhK002n => exact ((fb_step hq (bel_alloc (Below.refl _ _) (.cells #[.int .i64 0, .int .i64 0, .float .f64 0, .string ⟨#[]⟩, .slice none 0 0] 27)))).1
            clear hK K
            (try simp only [Act.put, List.setIfInBounds_toArray, List.set_cons_zero, List.set_cons_succ])
            exact any_eq (by kernel_rfl) (by kernel_rfl) (hK102 _ _ ⟨_, gC, rfl, (fb_step hq (bel_alloc (Below.refl _ _) (.cells #[.int .i64 0, .int .i64 0, .float .f64 0, .string ⟨#[]⟩, .slice none 0 0] 27))), (bel_step hbd (bel_alloc (Below.refl _ _) (.cells #[.int .i64 0, .int .i64 0, .float .f64 0, .string ⟨#[]⟩, .slice none 0 0] 27))), ⟨cs_new rfl, fun o => row_frz (row_alloc _ _ _) o⟩, hbd.size⟩ hHeld)
          case hstBhK002n =>
            intro K hK
            go_simp
            refine hK.out _ _ ?hsBhK002n (fun hHeld => ?_)
            case hsBhK002n => exact ((fb_step hq (bel_alloc (Below.refl _ _) (.cells #[.int .i64 0, .int .i64 0, .float .f64 0, .string ⟨#[]⟩, .slice none 0 0] 27)))).1
            clear hK K
            (try simp only [Act.put, List.setIfInBounds_toArray, List.set_cons_zero, List.set_cons_succ])
            exact any_eq (by kernel_rfl) (by kernel_rfl) (hK012 _ _ ⟨_, gC, rfl, (fb_step hq (bel_alloc (Below.refl _ _) (.cells #[.int .i64 0, .int .i64 0, .float .f64 0, .string ⟨#[]⟩, .slice none 0 0] 27))), (bel_step hbd (bel_alloc (Below.refl _ _) (.cells #[.int .i64 0, .int .i64 0, .float .f64 0, .string ⟨#[]⟩, .slice none 0 0] 27))), ⟨cs_new rfl, fun o => row_frz (row_alloc _ _ _) o⟩, hbd.size⟩ hHeld)
        refine any_have 12 [14, 15, 4] (fun a a' w' => ∃ (gA gB gC : Nat), a' = (((a.put (some 12) (.pointer (some ⟨gA, 0, none⟩))).put (some 13) (.pointer (some ⟨gB, 0, none⟩))).put (some 59) (.slice (some ⟨gC, 0, none⟩) 2 2)) ∧ FB w sb qs ms ds w' ∧ Below wr.heap.size wr w' ∧ SBX w' gA (.int .i64 0) (.int .i64 0) (.float .f64 0) (.string ⟨#[]⟩) (.slice none 0 0) ∧ wr.heap.size ≤ gA ∧ SBX w' gB (.int .i64 0) (.int .i64 0) (.float .f64 0) (.string ⟨#[]⟩) (.slice none 0 0) ∧ wr.heap.size ≤ gB ∧ gA ≠ gB ∧ w'.heap[gC]? = some (.cells #[.int .u8 107, .int .u8 ((ii : Int) + 1)] 5 (0, 0))) ?phK111n (fun hK111 => ?_)
        case phK111n =>
          intro a' w' hst hHeld
          obtain ⟨gA, gB, gC, rfl, hq, hbd, hsA, hgA, hsB, hgB, hne, hrow⟩ := hst
          (try simp only [Act.put, List.setIfInBounds_toArray, List.set_cons_zero, List.set_cons_succ])
          refine wpAnyH_ready (rs := [5]) (by kernel_rfl) (by simp) ?_
          refine AllReadyH.cons (o := ?_) ?hoXhK111n ?hstXhK111n AllReadyH.nil
          case hoXhK111n => (simp only [List.getElem?_toArray, List.getElem?_cons_zero, List.getElem?_cons_succ]; rfl)
          case hstXhK111n =>
            intro K hK
            have hcv := conv2 (cap := 2) (b := 107) (b' := bi) rfl HBI.out.1 hrow; go_simp
            clear hcv
            go_wp2_with fail
            refine hK.out _ _ ?hsXhK111n (fun hHeld => ?_)
            case hsXhK111n => exact (hq).1
            clear hK K
            (try simp only [Act.put, List.setIfInBounds_toArray, List.set_cons_zero, List.set_cons_succ])
            exact any_eq (by kernel_rfl) (by kernel_rfl) (hK112 _ _ ⟨gA, gB, gC, rfl, hq, hbd, hsA, hgA, hsB, hgB, hne⟩ hHeld)
        refine any_have 13 [14, 4] (fun a a' w' => ∃ (gA gC : Nat), a' = ((a.put (some 12) (.pointer (some ⟨gA, 0, none⟩))).put (some 59) (.slice (some ⟨gC, 0, none⟩) 2 2)) ∧ FB w sb qs ms ds w' ∧ Below wr.heap.size wr w' ∧ SBX w' gA (.int .i64 0) (.int .i64 0) (.float .f64 0) (.string ⟨#[]⟩) (.slice none 0 0) ∧ wr.heap.size ≤ gA ∧ w'.heap[gC]? = some (.cells #[.int .u8 107, .int .u8 ((ii : Int) + 1)] 5 (0, 0))) ?phK101n (fun hK101 => ?_)
        case phK101n =>
          intro a' w' hst hHeld
          obtain ⟨gA, gC, rfl, hq, hbd, hsA, hgA, hrow⟩ := hst
          (try simp only [Act.put, List.setIfInBounds_toArray, List.set_cons_zero, List.set_cons_succ])
          refine wpAnyH_ready (rs := [5, 15]) (by kernel_rfl) (by simp) ?_
          refine AllReadyH.cons (o := ?_) ?hoXhK101n ?hstXhK101n (AllReadyH.cons (o := ?_) ?hoBhK101n ?hstBhK101n AllReadyH.nil)
          case hoXhK101n => (simp only [List.getElem?_toArray, List.getElem?_cons_zero, List.getElem?_cons_succ]; rfl)
          case hoBhK101n => (simp only [List.getElem?_toArray, List.getElem?_cons_zero, List.getElem?_cons_succ]; rfl)
          case hstXhK101n =>
            intro K hK
            have hcv := conv2 (cap := 2) (b := 107) (b' := bi) rfl HBI.out.1 hrow; go_simp
            clear hcv
            go_wp2_with fail
            refine hK.out _ _ ?hsXhK101n (fun hHeld => ?_)
            case hsXhK101n => exact (hq).1
            clear hK K
            (try simp only [Act.put, List.setIfInBounds_toArray, List.set_cons_zero, List.set_cons_succ])
            exact any_eq (by kernel_rfl) (by kernel_rfl) (hK102 _ _ ⟨gA, gC, rfl, hq, hbd, hsA, hgA⟩ hHeld)
          case hstBhK101n =>
            intro K hK
            go_simp
            refine hK.out _ _ ?hsBhK101n (fun hHeld => ?_)
            case hsBhK101n => exact ((fb_step hq (bel_alloc (Below.refl _ _) (.cells #[.int .i64 0, .int .i64 0, .float .f64 0, .string ⟨#[]⟩, .slice none 0 0] 27)))).1
            clear hK K
            (try simp only [Act.put, List.setIfInBounds_toArray, List.set_cons_zero, List.set_cons_succ])
            exact any_eq (by kernel_rfl) (by kernel_rfl) (hK111 _ _ ⟨gA, _, gC, rfl, (fb_step hq (bel_alloc (Below.refl _ _) (.cells #[.int .i64 0, .int .i64 0, .float .f64 0, .string ⟨#[]⟩, .slice none 0 0] 27))), (bel_step hbd (bel_alloc (Below.refl _ _) (.cells #[.int .i64 0, .int .i64 0, .float .f64 0, .string ⟨#[]⟩, .slice none 0 0] 27))), (sbx_step hsA (bel_alloc (Below.refl _ _) (.cells #[.int .i64 0, .int .i64 0, .float .f64 0, .string ⟨#[]⟩, .slice none 0 0] 27))), hgA, ⟨cs_new rfl, fun o => row_frz (row_alloc _ _ _) o⟩, hbd.size, (by have h := cs_lt hsA.1; omega), (row_step hrow (bel_alloc (Below.refl _ _) (.cells #[.int .i64 0, .int .i64 0, .float .f64 0, .string ⟨#[]⟩, .slice none 0 0] 27)))⟩ hHeld)
        refine any_have 13 [15, 4] (fun a a' w' => ∃ (gB gC : Nat), a' = ((a.put (some 13) (.pointer (some ⟨gB, 0, none⟩))).put (some 59) (.slice (some ⟨gC, 0, none⟩) 2 2)) ∧ FB w sb qs ms ds w' ∧ Below wr.heap.size wr w' ∧ SBX w' gB (.int .i64 0) (.int .i64 0) (.float .f64 0) (.string ⟨#[]⟩) (.slice none 0 0) ∧ wr.heap.size ≤ gB ∧ w'.heap[gC]? = some (.cells #[.int .u8 107, .int .u8 ((ii : Int) + 1)] 5 (0, 0))) ?phK011n (fun hK011 => ?_)
        case phK011n =>
          intro a' w' hst hHeld
          obtain ⟨gB, gC, rfl, hq, hbd, hsB, hgB, hrow⟩ := hst
          (try simp only [Act.put, List.setIfInBounds_toArray, List.set_cons_zero, List.set_cons_succ])
          refine wpAnyH_ready (rs := [5, 14]) (by kernel_rfl) (by simp) ?_
          refine AllReadyH.cons (o := ?_) ?hoXhK011n ?hstXhK011n (AllReadyH.cons (o := ?_) ?hoAhK011n ?hstAhK011n AllReadyH.nil)
          case hoXhK011n => (simp only [List.getElem?_toArray, List.getElem?_cons_zero, List.getElem?_cons_succ]; rfl)
          case hoAhK011n => (simp only [List.getElem?_toArray, List.getElem?_cons_zero, List.getElem?_cons_succ]; rfl)
          case hstXhK011n =>
            intro K hK
            have hcv := conv2 (cap := 2) (b := 107) (b' := bi) rfl HBI.out.1 hrow; go_simp
            clear hcv
            go_wp2_with fail
            refine hK.out _ _ ?hsXhK011n (fun hHeld => ?_)
            case hsXhK011n => exact (hq).1
            clear hK K
            (try simp only [Act.put, List.setIfInBounds_toArray, List.set_cons_zero, List.set_cons_succ])
            exact any_eq (by kernel_rfl) (by kernel_rfl) (hK012 _ _ ⟨gB, gC, rfl, hq, hbd, hsB, hgB⟩ hHeld)
          case hstAhK011n =>
            intro K hK
            go_simp
            refine hK.out _ _ ?hsAhK011n (fun hHeld => ?_)
            case hsAhK011n => exact ((fb_step hq (bel_alloc (Below.refl _ _) (.cells #[.int .i64 0, .int .i64 0, .float .f64 0, .string ⟨#[]⟩, .slice none 0 0] 27)))).1
            clear hK K
            (try simp only [Act.put, List.setIfInBounds_toArray, List.set_cons_zero, List.set_cons_succ])
            exact any_eq (by kernel_rfl) (by kernel_rfl) (hK111 _ _ ⟨_, gB, gC, rfl, (fb_step hq (bel_alloc (Below.refl _ _) (.cells #[.int .i64 0, .int .i64 0, .float .f64 0, .string ⟨#[]⟩, .slice none 0 0] 27))), (bel_step hbd (bel_alloc (Below.refl _ _) (.cells #[.int .i64 0, .int .i64 0, .float .f64 0, .string ⟨#[]⟩, .slice none 0 0] 27))), ⟨cs_new rfl, fun o => row_frz (row_alloc _ _ _) o⟩, hbd.size, (sbx_step hsB (bel_alloc (Below.refl _ _) (.cells #[.int .i64 0, .int .i64 0, .float .f64 0, .string ⟨#[]⟩, .slice none 0 0] 27))), hgB, (by have h := cs_lt hsB.1; omega), (row_step hrow (bel_alloc (Below.refl _ _) (.cells #[.int .i64 0, .int .i64 0, .float .f64 0, .string ⟨#[]⟩, .slice none 0 0] 27)))⟩ hHeld)
        refine any_have 14 [4] (fun a a' w' => ∃ (gC : Nat), a' = (a.put (some 59) (.slice (some ⟨gC, 0, none⟩) 2 2)) ∧ FB w sb qs ms ds w' ∧ Below wr.heap.size wr w' ∧ w'.heap[gC]? = some (.cells #[.int .u8 107, .int .u8 ((ii : Int) + 1)] 5 (0, 0))) ?phK001n (fun hK001 => ?_)
        case phK001n =>
          intro a' w' hst hHeld
          obtain ⟨gC, rfl, hq, hbd, hrow⟩ := hst
          (try simp only [Act.put, List.setIfInBounds_toArray, List.set_cons_zero, List.set_cons_succ])
          refine wpAnyH_ready (rs := [5, 14, 15]) (by kernel_rfl) (by simp) ?_
          refine AllReadyH.cons (o := ?_) ?hoXhK001n ?hstXhK001n (AllReadyH.cons (o := ?_) ?hoAhK001n ?hstAhK001n (AllReadyH.cons (o := ?_) ?hoBhK001n ?hstBhK001n AllReadyH.nil))
          case hoXhK001n => (simp only [List.getElem?_toArray, List.getElem?_cons_zero, List.getElem?_cons_succ]; rfl)
          case hoAhK001n => (simp only [List.getElem?_toArray, List.getElem?_cons_zero, List.getElem?_cons_succ]; rfl)
          case hoBhK001n => (simp only [List.getElem?_toArray, List.getElem?_cons_zero, List.getElem?_cons_succ]; rfl)
          case hstXhK001n =>
            intro K hK
            have hcv := conv2 (cap := 2) (b := 107) (b' := bi) rfl HBI.out.1 hrow; go_simp
            clear hcv
            go_wp2_with fail
            refine hK.out _ _ ?hsXhK001n (fun hHeld => ?_)
            case hsXhK001n => exact (hq).1
            clear hK K
            (try simp only [Act.put, List.setIfInBounds_toArray, List.set_cons_zero, List.set_cons_succ])
            exact any_eq (by kernel_rfl) (by kernel_rfl) (hK002 _ _ ⟨gC, rfl, hq, hbd⟩ hHeld)
          case hstAhK001n =>
            intro K hK
            go_simp
            refine hK.out _ _ ?hsAhK001n (fun hHeld => ?_)
            case hsAhK001n => exact ((fb_step hq (bel_alloc (Below.refl _ _) (.cells #[.int .i64 0, .int .i64 0, .float .f64 0, .string ⟨#[]⟩, .slice none 0 0] 27)))).1
            clear hK K
            (try simp only [Act.put, List.setIfInBounds_toArray, List.set_cons_zero, List.set_cons_succ])
            exact any_eq (by kernel_rfl) (by kernel_rfl) (hK101 _ _ ⟨_, gC, rfl, (fb_step hq (bel_alloc (Below.refl _ _) (.cells #[.int .i64 0, .int .i64 0, .float .f64 0, .string ⟨#[]⟩, .slice none 0 0] 27))), (bel_step hbd (bel_alloc (Below.refl _ _) (.cells #[.int .i64 0, .int .i64 0, .float .f64 0, .string ⟨#[]⟩, .slice none 0 0] 27))), ⟨cs_new rfl, fun o => row_frz (row_alloc _ _ _) o⟩, hbd.size, (row_step hrow (bel_alloc (Below.refl _ _) (.cells #[.int .i64 0, .int .i64 0, .float .f64 0, .string ⟨#[]⟩, .slice none 0 0] 27)))⟩ hHeld)
          case hstBhK001n =>
            intro K hK
            go_simp
            refine hK.out _ _ ?hsBhK001n (fun hHeld => ?_)
            case hsBhK001n => exact ((fb_step hq (bel_alloc (Below.refl _ _) (.cells #[.int .i64 0, .int .i64 0, .float .f64 0, .string ⟨#[]⟩, .slice none 0 0] 27)))).1
            clear hK K
            (try simp only [Act.put, List.setIfInBounds_toArray, List.set_cons_zero, List.set_cons_succ])
            exact any_eq (by kernel_rfl) (by kernel_rfl) (hK011 _ _ ⟨_, gC, rfl, (fb_step hq (bel_alloc (Below.refl _ _) (.cells #[.int .i64 0, .int .i64 0, .float .f64 0, .string ⟨#[]⟩, .slice none 0 0] 27))), (bel_step hbd (bel_alloc (Below.refl _ _) (.cells #[.int .i64 0, .int .i64 0, .float .f64 0, .string ⟨#[]⟩, .slice none 0 0] 27))), ⟨cs_new rfl, fun o => row_frz (row_alloc _ _ _) o⟩, hbd.size, (row_step hrow (bel_alloc (Below.refl _ _) (.cells #[.int .i64 0, .int .i64 0, .float .f64 0, .string ⟨#[]⟩, .slice none 0 0] 27)))⟩ hHeld)
        refine any_have 13 [14, 15] (fun a a' w' => ∃ (gA gB : Nat), a' = ((a.put (some 12) (.pointer (some ⟨gA, 0, none⟩))).put (some 13) (.pointer (some ⟨gB, 0, none⟩))) ∧ FB w sb qs ms ds w' ∧ Below wr.heap.size wr w' ∧ SBX w' gA (.int .i64 0) (.int .i64 0) (.float .f64 0) (.string ⟨#[]⟩) (.slice none 0 0) ∧ wr.heap.size ≤ gA ∧ SBX w' gB (.int .i64 0) (.int .i64 0) (.float .f64 0) (.string ⟨#[]⟩) (.slice none 0 0) ∧ wr.heap.size ≤ gB ∧ gA ≠ gB) ?phK110n (fun hK110 => ?_)
        case phK110n =>
          intro a' w' hst hHeld
          obtain ⟨gA, gB, rfl, hq, hbd, hsA, hgA, hsB, hgB, hne⟩ := hst
          (try simp only [Act.put, List.setIfInBounds_toArray, List.set_cons_zero, List.set_cons_succ])
          refine wpAnyH_ready (rs := [4]) (by kernel_rfl) (by simp) ?_
          refine AllReadyH.cons (o := ?_) ?hoXhK110n ?hstXhK110n AllReadyH.nil
          case hoXhK110n => (simp only [List.getElem?_toArray, List.getElem?_cons_zero, List.getElem?_cons_succ]; rfl)
          case hstXhK110n =>
            intro K hK
            go_simp
            refine hK.out _ _ ?hsXhK110n (fun hHeld => ?_)
            case hsXhK110n => exact ((fb_step hq (bel_alloc (Below.refl _ _) (.cells #[.int .u8 107, .int .u8 ((ii : Int) + 1)] 5)))).1
            clear hK K
            (try simp only [Act.put, List.setIfInBounds_toArray, List.set_cons_zero, List.set_cons_succ])
            exact any_eq (by kernel_rfl) (by kernel_rfl) (hK111 _ _ ⟨gA, gB, _, rfl, (fb_step hq (bel_alloc (Below.refl _ _) (.cells #[.int .u8 107, .int .u8 ((ii : Int) + 1)] 5))), (bel_step hbd (bel_alloc (Below.refl _ _) (.cells #[.int .u8 107, .int .u8 ((ii : Int) + 1)] 5))), (sbx_step hsA (bel_alloc (Below.refl _ _) (.cells #[.int .u8 107, .int .u8 ((ii : Int) + 1)] 5))), hgA, (sbx_step hsB (bel_alloc (Below.refl _ _) (.cells #[.int .u8 107, .int .u8 ((ii : Int) + 1)] 5))), hgB, hne, row_alloc _ _ _⟩ hHeld)
        refine any_have 14 [14] (fun a a' w' => ∃ (gA : Nat), a' = (a.put (some 12) (.pointer (some ⟨gA, 0, none⟩))) ∧ FB w sb qs ms ds w' ∧ Below wr.heap.size wr w' ∧ SBX w' gA (.int .i64 0) (.int .i64 0) (.float .f64 0) (.string ⟨#[]⟩) (.slice none 0 0) ∧ wr.heap.size ≤ gA) ?phK100n (fun hK100 => ?_)
        case phK100n =>
          intro a' w' hst hHeld
          obtain ⟨gA, rfl, hq, hbd, hsA, hgA⟩ := hst
          (try simp only [Act.put, List.setIfInBounds_toArray, List.set_cons_zero, List.set_cons_succ])
          refine wpAnyH_ready (rs := [4, 15]) (by kernel_rfl) (by simp) ?_
          refine AllReadyH.cons (o := ?_) ?hoXhK100n ?hstXhK100n (AllReadyH.cons (o := ?_) ?hoBhK100n ?hstBhK100n AllReadyH.nil)
          case hoXhK100n => (simp only [List.getElem?_toArray, List.getElem?_cons_zero, List.getElem?_cons_succ]; rfl)
          case hoBhK100n => (simp only [List.getElem?_toArray, List.getElem?_cons_zero, List.getElem?_cons_succ]; rfl)
          case hstXhK100n =>
            intro K hK
            go_simp
            refine hK.out _ _ ?hsXhK100n (fun hHeld => ?_)
            case hsXhK100n => exact ((fb_step hq (bel_alloc (Below.refl _ _) (.cells #[.int .u8 107, .int .u8 ((ii : Int) + 1)] 5)))).1
            clear hK K
            (try simp only [Act.put, List.setIfInBounds_toArray, List.set_cons_zero, List.set_cons_succ])
            exact any_eq (by kernel_rfl) (by kernel_rfl) (hK101 _ _ ⟨gA, _, rfl, (fb_step hq (bel_alloc (Below.refl _ _) (.cells #[.int .u8 107, .int .u8 ((ii : Int) + 1)] 5))), (bel_step hbd (bel_alloc (Below.refl _ _) (.cells #[.int .u8 107, .int .u8 ((ii : Int) + 1)] 5))), (sbx_step hsA (bel_alloc (Below.refl _ _) (.cells #[.int .u8 107, .int .u8 ((ii : Int) + 1)] 5))), hgA, row_alloc _ _ _⟩ hHeld)
          case hstBhK100n =>
            intro K hK
            go_simp
            refine hK.out _ _ ?hsBhK100n (fun hHeld => ?_)
            case hsBhK100n => exact ((fb_step hq (bel_alloc (Below.refl _ _) (.cells #[.int .i64 0, .int .i64 0, .float .f64 0, .string ⟨#[]⟩, .slice none 0 0] 27)))).1
            clear hK K
            (try simp only [Act.put, List.setIfInBounds_toArray, List.set_cons_zero, List.set_cons_succ])
            exact any_eq (by kernel_rfl) (by kernel_rfl) (hK110 _ _ ⟨gA, _, rfl, (fb_step hq (bel_alloc (Below.refl _ _) (.cells #[.int .i64 0, .int .i64 0, .float .f64 0, .string ⟨#[]⟩, .slice none 0 0] 27))), (bel_step hbd (bel_alloc (Below.refl _ _) (.cells #[.int .i64 0, .int .i64 0, .float .f64 0, .string ⟨#[]⟩, .slice none 0 0] 27))), (sbx_step hsA (bel_alloc (Below.refl _ _) (.cells #[.int .i64 0, .int .i64 0, .float .f64 0, .string ⟨#[]⟩, .slice none 0 0] 27))), hgA, ⟨cs_new rfl, fun o => row_frz (row_alloc _ _ _) o⟩, hbd.size, (by have h := cs_lt hsA.1; omega)⟩ hHeld)
        refine any_have 14 [15] (fun a a' w' => ∃ (gB : Nat), a' = (a.put (some 13) (.pointer (some ⟨gB, 0, none⟩))) ∧ FB w sb qs ms ds w' ∧ Below wr.heap.size wr w' ∧ SBX w' gB (.int .i64 0) (.int .i64 0) (.float .f64 0) (.string ⟨#[]⟩) (.slice none 0 0) ∧ wr.heap.size ≤ gB) ?phK010n (fun hK010 => ?_)
        case phK010n =>
          intro a' w' hst hHeld
          obtain ⟨gB, rfl, hq, hbd, hsB, hgB⟩ := hst
          (try simp only [Act.put, List.setIfInBounds_toArray, List.set_cons_zero, List.set_cons_succ])
          refine wpAnyH_ready (rs := [4, 14]) (by kernel_rfl) (by simp) ?_
          refine AllReadyH.cons (o := ?_) ?hoXhK010n ?hstXhK010n (AllReadyH.cons (o := ?_) ?hoAhK010n ?hstAhK010n AllReadyH.nil)
          case hoXhK010n => (simp only [List.getElem?_toArray, List.getElem?_cons_zero, List.getElem?_cons_succ]; rfl)
          case hoAhK010n => (simp only [List.getElem?_toArray, List.getElem?_cons_zero, List.getElem?_cons_succ]; rfl)
          case hstXhK010n =>
            intro K hK
            go_simp
            refine hK.out _ _ ?hsXhK010n (fun hHeld => ?_)
            case hsXhK010n => exact ((fb_step hq (bel_alloc (Below.refl _ _) (.cells #[.int .u8 107, .int .u8 ((ii : Int) + 1)] 5)))).1
            clear hK K
            (try simp only [Act.put, List.setIfInBounds_toArray, List.set_cons_zero, List.set_cons_succ])
            exact any_eq (by kernel_rfl) (by kernel_rfl) (hK011 _ _ ⟨gB, _, rfl, (fb_step hq (bel_alloc (Below.refl _ _) (.cells #[.int .u8 107, .int .u8 ((ii : Int) + 1)] 5))), (bel_step hbd (bel_alloc (Below.refl _ _) (.cells #[.int .u8 107, .int .u8 ((ii : Int) + 1)] 5))), (sbx_step hsB (bel_alloc (Below.refl _ _) (.cells #[.int .u8 107, .int .u8 ((ii : Int) + 1)] 5))), hgB, row_alloc _ _ _⟩ hHeld)
          case hstAhK010n =>
            intro K hK
            go_simp
            refine hK.out _ _ ?hsAhK010n (fun hHeld => ?_)
            case hsAhK010n => exact ((fb_step hq (bel_alloc (Below.refl _ _) (.cells #[.int .i64 0, .int .i64 0, .float .f64 0, .string ⟨#[]⟩, .slice none 0 0] 27)))).1
            clear hK K
            (try simp only [Act.put, List.setIfInBounds_toArray, List.set_cons_zero, List.set_cons_succ])
            exact any_eq (by kernel_rfl) (by kernel_rfl) (hK110 _ _ ⟨_, gB, rfl, (fb_step hq (bel_alloc (Below.refl _ _) (.cells #[.int .i64 0, .int .i64 0, .float .f64 0, .string ⟨#[]⟩, .slice none 0 0] 27))), (bel_step hbd (bel_alloc (Below.refl _ _) (.cells #[.int .i64 0, .int .i64 0, .float .f64 0, .string ⟨#[]⟩, .slice none 0 0] 27))), ⟨cs_new rfl, fun o => row_frz (row_alloc _ _ _) o⟩, hbd.size, (sbx_step hsB (bel_alloc (Below.refl _ _) (.cells #[.int .i64 0, .int .i64 0, .float .f64 0, .string ⟨#[]⟩, .slice none 0 0] 27))), hgB, (by have h := cs_lt hsB.1; omega)⟩ hHeld)
        refine wpAnyH_ready (rs := [4, 14, 15]) (by kernel_rfl) (by simp) ?_
        refine AllReadyH.cons (o := ?_) ?hoXzn ?hstXzn (AllReadyH.cons (o := ?_) ?hoAzn ?hstAzn (AllReadyH.cons (o := ?_) ?hoBzn ?hstBzn AllReadyH.nil))
        case hoXzn => (simp only [List.getElem?_toArray, List.getElem?_cons_zero, List.getElem?_cons_succ]; rfl)
        case hoAzn => (simp only [List.getElem?_toArray, List.getElem?_cons_zero, List.getElem?_cons_succ]; rfl)
        case hoBzn => (simp only [List.getElem?_toArray, List.getElem?_cons_zero, List.getElem?_cons_succ]; rfl)
        case hstXzn =>
          intro K hK
          go_simp
          refine hK.out _ _ ?hsXzn (fun hHeld => ?_)
          case hsXzn => exact ((fb_step hq (bel_alloc (Below.refl _ _) (.cells #[.int .u8 107, .int .u8 ((ii : Int) + 1)] 5)))).1
          clear hK K
          (try simp only [Act.put, List.setIfInBounds_toArray, List.set_cons_zero, List.set_cons_succ])
          exact any_eq (by kernel_rfl) (by kernel_rfl) (hK001 _ _ ⟨_, rfl, (fb_step hq (bel_alloc (Below.refl _ _) (.cells #[.int .u8 107, .int .u8 ((ii : Int) + 1)] 5))), (bel_step hbd (bel_alloc (Below.refl _ _) (.cells #[.int .u8 107, .int .u8 ((ii : Int) + 1)] 5))), row_alloc _ _ _⟩ hHeld)
        case hstAzn =>
          intro K hK
          go_simp
          refine hK.out _ _ ?hsAzn (fun hHeld => ?_)
          case hsAzn => exact ((fb_step hq (bel_alloc (Below.refl _ _) (.cells #[.int .i64 0, .int .i64 0, .float .f64 0, .string ⟨#[]⟩, .slice none 0 0] 27)))).1
          clear hK K
          (try simp only [Act.put, List.setIfInBounds_toArray, List.set_cons_zero, List.set_cons_succ])
          exact any_eq (by kernel_rfl) (by kernel_rfl) (hK100 _ _ ⟨_, rfl, (fb_step hq (bel_alloc (Below.refl _ _) (.cells #[.int .i64 0, .int .i64 0, .float .f64 0, .string ⟨#[]⟩, .slice none 0 0] 27))), (bel_step hbd (bel_alloc (Below.refl _ _) (.cells #[.int .i64 0, .int .i64 0, .float .f64 0, .string ⟨#[]⟩, .slice none 0 0] 27))), ⟨cs_new rfl, fun o => row_frz (row_alloc _ _ _) o⟩, hbd.size⟩ hHeld)
        case hstBzn =>
          intro K hK
          go_simp
          refine hK.out _ _ ?hsBzn (fun hHeld => ?_)
          case hsBzn => exact ((fb_step hq (bel_alloc (Below.refl _ _) (.cells #[.int .i64 0, .int .i64 0, .float .f64 0, .string ⟨#[]⟩, .slice none 0 0] 27)))).1
          clear hK K
          (try simp only [Act.put, List.setIfInBounds_toArray, List.set_cons_zero, List.set_cons_succ])
          exact any_eq (by kernel_rfl) (by kernel_rfl) (hK010 _ _ ⟨_, rfl, (fb_step hq (bel_alloc (Below.refl _ _) (.cells #[.int .i64 0, .int .i64 0, .float .f64 0, .string ⟨#[]⟩, .slice none 0 0] 27))), (bel_step hbd (bel_alloc (Below.refl _ _) (.cells #[.int .i64 0, .int .i64 0, .float .f64 0, .string ⟨#[]⟩, .slice none 0 0] 27))), ⟨cs_new rfl, fun o => row_frz (row_alloc _ _ _) o⟩, hbd.size⟩ hHeld)
      case rest =>
      obtain ⟨gA, gB, Kt, It, Ft, Zt, qt, mt, dt, Kv, Iv, Fv, Zv, qv, mv, dv, rfl, rfl, rfl, hca, hcb, hfb, hbel, hrt, hrv⟩ := hcut
      rw [HUU.out] at hrv
      obtain ⟨rfl, rfl, rfl, rfl, rfl⟩ := rep_leaf (repS_rep _ _ _ hrv)
      obtain ⟨x0, x1, x2, x3, x4⟩ := hcb
      have HE := Lib.hid hfb.2.1
      clear hca hfb hbel hrt hrv HDO HFB HSTr
      go_wp2
      go_ret
      exact ⟨rfl, HE.out⟩
end Num
end Go.Proofs.Ytamogpbbaihaaaa
