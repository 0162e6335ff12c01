/-
  The reference: a list with an entry.
-/
import Derived.Test.YtpbfaffheigjcaaGreatVMI
import Derived.Test.YtpbfaffheigjcaaGreatVp6WLo
import Derived.Test.YtpbfaffheigjcaaGreatVp13RDa
import Derived.Test.YtpbfaffheigjcaaGreatVp3VBase
import Derived.Deep.RegionHeld3
import Derived.RegionTactic
import Derived.Deep.DeepCutAuto
import Derived.Test.YtpbfaffheigjcaaGreatVHH
import Derived.Test.YtpbfaffheigjcaaGreatVp4VTree
import Derived.Test.YtpbfaffheigjcaaGreatVp9VSurv
namespace Go.Proofs.YtpbfaffheigjcaaGreat
open Go.RowKit
namespace Num
open Ints
set_option linter.unusedSimpArgs false
set_option linter.unusedVariables false
def PY (p : Option Addr) (l c : Nat) (K3 I3 : Int) (F3 : Nat) (S3 : ByteArray) (q3 : Option Addr) (m3 d3 : Nat) (w z : World) : Prop := z.cell? ⟨w.heap.size, 4, none⟩ = some (.slice p l c) ∧ Below w.heap.size w z ∧ CS z (w.heap.size + 1 + 1) (.int .i64 0) (.int .i64 0) (.float .f64 0) (.string ⟨#[]⟩) (.slice none 0 0) ∧ (∀ o, z.frozen? ⟨w.heap.size + 1 + 1, o, none⟩ = false) ∧ CS z (w.heap.size + 1) (.int .i64 K3) (.int .i64 I3) (.float .f64 F3) (.string S3) (.slice q3 m3 d3)
section
variable {p : Option Addr} {l c : Nat} {K3 I3 : Int} {F3 : Nat} {S3 : ByteArray} {q3 : Option Addr} {m3 d3 : Nat} {w x y : World}
theorem py_step (h : PY p l c K3 I3 F3 S3 q3 m3 d3 w x) (hb : Below x.heap.size x y) : PY p l c K3 I3 F3 S3 q3 m3 d3 w y := ⟨ck hb h.1, bel_step h.2.1 hb, cs_step h.2.2.1 hb, fun o => (hb.frozen (p := ⟨w.heap.size + 1 + 1, o, none⟩) (show w.heap.size + 1 + 1 < x.heap.size from cs_lt h.2.2.1)).trans (h.2.2.2.1 o), cs_step h.2.2.2.2 hb⟩
theorem py_grown {row : Option Nat} (h : PY p l c K3 I3 F3 S3 q3 m3 d3 w x) (hg : x.grownBy y row) (hr : ∀ k, row = some k → w.heap.size + 1 + 1 + 1 ≤ k) : PY p l c K3 I3 F3 S3 q3 m3 d3 w y := by
  have hz := cs_lt h.2.2.1
  have ne : ∀ b, b < w.heap.size + 1 + 1 + 1 → some b ≠ row := fun b hb e => by have := hr b e.symm; omega
  have e0 := ne w.heap.size (by omega)
  have e1 := ne (w.heap.size + 1) (by omega)
  have e2 := ne (w.heap.size + 1 + 1) (by omega)
  exact ⟨hg.cell h.1 e0, Below.grown h.2.1 hg (by omega) (fun k hk => by have := hr k hk; omega), ⟨hg.cell h.2.2.1.1 e2, hg.cell h.2.2.1.2.1 e2, hg.cell h.2.2.1.2.2.1 e2, hg.cell h.2.2.1.2.2.2.1 e2, hg.cell h.2.2.1.2.2.2.2 e2⟩,
    fun o => (World.frozen?_of_block (w := x) (a := ⟨w.heap.size + 1 + 1, o, none⟩) (hg.block _ hz e2)).trans (h.2.2.2.1 o), ⟨hg.cell h.2.2.2.2.1 e1, hg.cell h.2.2.2.2.2.1 e1, hg.cell h.2.2.2.2.2.2.1 e1, hg.cell h.2.2.2.2.2.2.2.1 e1, hg.cell h.2.2.2.2.2.2.2.2 e1⟩⟩
end
end Num
end Go.Proofs.YtpbfaffheigjcaaGreat
/-
  The reference: where a name stands.
-/
namespace Go.Proofs.YtpbfaffheigjcaaGreat
open Go.RowKit
namespace Num
open Ints
set_option linter.unusedSimpArgs false
set_option linter.unusedVariables false
set_option maxRecDepth 100000 in
set_option maxHeartbeats 4000000 in
theorem at_any (K I : Int) (F : Nat) (Z : ByteArray) (p : Option Addr) (l c a : Nat) (NS : List ByteArray) (k : ByteArray) (fnd : Bool) (w : World) (hE : EntsL w p l NS) (hs : Spot NS k a fnd) :
    Calls Tryz.prog 68 #[.agg #[.int .i64 K, .int .i64 I, .float .f64 F, .string Z, .slice p l c], .string k] w fun e w' => e = .returned (.tuple #[.int .i64 a, .bool fnd]) ∧ Below w.heap.size w w' := by
  obtain ⟨hl, hm, he⟩ := hE
  obtain ⟨ha, h1, h2, h3⟩ := hs
  have HE := Lib.hid he
  have H1 := Lib.hid h1
  have H2 := Lib.hid h2
  have H3 := Lib.hid h3
  have HLN := Lib.hid hl
  have hal : a ≤ l := by omega
  have HB := Lib.hid (bel_alloc (Below.refl w.heap.size w) (.cells #[.int .i64 K, .int .i64 I, .float .f64 F, .string Z, .slice p l c] 27))
  have HR := Lib.hid (row_alloc w #[.int .i64 K, .int .i64 I, .float .f64 F, .string Z, .slice p l c] 27)
  clear hl he h1 h2 h3 ha
  go_enter Tryz.func68, Tryz.ntmps68
  go_wp2
  go_loopw [6] (fun iv wr => ∃ i : Nat, i ≤ a ∧ iv = .int .i64 i ∧ Below w.heap.size w wr ∧ wr.heap[w.heap.size]? = some (.cells #[.int .i64 K, .int .i64 I, .float .f64 F, .string Z, .slice p l c] 27 (0, 0))) (fun iv _ => a - (intOf iv).toNat)
  case atStart => exact ⟨0, Nat.zero_le _, rfl, HB.out, HR.out⟩
  case round =>
    obtain ⟨i, hia, rfl, hb, hr⟩ := hrel
    have HBR := Lib.hid hb
    have HRR := Lib.hid hr
    have b4 := rc hr 4
    simp only [lk0, lk1, lk2] at b4
    have hi0 : (0 : Int) ≤ (i : Int) := by omega
    clear hb hr HB HR
    by_cases hlt : i < l
    · have hil2 : (i : Int) < (l : Int) := by omega
      obtain ⟨b, off, rfl, hen⟩ := HE.out (by omega)
      have hix : i < NS.length := by have := HLN.out; omega
      obtain ⟨K1, I1, F1, S1, q, m, d, c0, c1, c2, c3, c4, hm0, hnm⟩ := hen i hix
      obtain ⟨qb, qo, rfl, n3⟩ := hnm
      have hless := H1.out i hix
      unfold ltB at hless
      replace c4 := ck HBR.out c4
      replace n3 := ck HBR.out n3
      have hm1 : (0 : Int) < (m : Int) := by omega
      clear c0 c1 c2 c3 hen
      by_cases hx : i < a
      · rw [decide_eq_true hx] at hless
        have HBL := Lib.hid HBR.out
        go_wp2
        go_roundw
        case rel => exact ⟨i + 1, by omega, by go_num, HBR.out, HRR.out⟩
        case measure => simp [intOf]; omega
      · rw [decide_eq_false hx] at hless
        have hfe := H2.out
        obtain rfl : i = a := by omega
        have hfnd := hfe hix
        obtain ⟨sx, hsx⟩ : ∃ s, NS[i] = s := ⟨_, rfl⟩
        rw [hsx] at hfnd n3 hless
        clear hfe hx hia hsx
        have e4 := c4
        go_upto_region 4 with fail
        refine wp_region_held_drew (S := (fun z => z.cell? ⟨w.heap.size, 4, none⟩ = some (.slice (some ⟨b, off, none⟩) l c) ∧ z.cell? ⟨b, off + i * 5 + 4, none⟩ = some (.slice (some ⟨qb, qo, none⟩) m d) ∧ z.cell? ⟨qb, qo + 3, none⟩ = some (.string sx))) (by kernel_rfl) ?_ (fun hH => ?_)
        · exact ⟨ck (Below.drew br) b4, ck (Below.drew br) e4, ck (Below.drew br) n3⟩
        have HD9 := Lib.hid (show Below wr.heap.size wr wr.drew from Below.drew br)
        revert HD9 hH
        generalize wr.drew = Wd
        intro hH HD9
        refine zt [0, 1, 2, 3, 4, 5, 6, 7, 8, 9, 10, 11, 12, 13, 14, 15, 16, 17, 18, 19, 20] ?_
        iterate 21 (refine zt1 (fun _ _ d _ _ h => by cases d <;> exact h) (by simp only [lk0, lk1, lk2]; rfl) (by kernel_rfl) (by assumption) (by rfl) (fun w h => by (try dsimp only at h); go_simp; (try with_reducible rfl)) ?_; (try simp only [Act.put, pk0, pk1, pk2]))
        refine zt0 ?_
        refine wpAnyH_done (by kernel_rfl) ?_ _
        go_wp2
        refine bodyPost_ret (v := .tuple #[.int .i64 i, .bool fnd]) (by simp [results, Tryz.results68, go_sem]) rfl ⟨rfl, bel_step HBR.out HD9.out⟩
    · have hil2 : ¬ (i : Int) < (l : Int) := by omega
      obtain rfl : i = a := by omega
      have hfd := H3.out (by have := HLN.out; omega)
      subst hfd
      clear hlt hia
      go_upto_region 4 with fail
      refine wp_region_held_drew (S := (fun z => z.cell? ⟨w.heap.size, 4, none⟩ = some (.slice p l c))) (by kernel_rfl) ?_ (fun hH => ?_)
      · exact ck (Below.drew br) b4
      have HD9 := Lib.hid (show Below wr.heap.size wr wr.drew from Below.drew br)
      revert HD9 hH
      generalize wr.drew = Wd
      intro hH HD9
      refine zt [0, 1, 2, 3, 4, 5, 6] ?_
      iterate 7 (refine zt1 (fun _ _ d _ _ h => by cases d <;> exact h) (by simp only [lk0, lk1, lk2]; rfl) (by kernel_rfl) (by assumption) (by rfl) (fun w h => by (try dsimp only at h); go_simp; (try with_reducible rfl)) ?_; (try simp only [Act.put, pk0, pk1, pk2]))
      refine zt0 ?_
      refine wpAnyH_take (i := 7) (oi := ?_) (v := undef) ?in7 (by kernel_rfl) ?fn7 ?rn7 ?Qn7 ?yn7 (by assumption) ?tn7
      case in7 => (simp only [lk0, lk1, lk2]; rfl)
      case fn7 | rn7 => kernel_rfl
      case yn7 => exact Or.inr ⟨by rfl, rfl⟩
      case Qn7 => exact fun _ _ _ h => h
      (try simp only [Act.put, pk0, pk1, pk2])
      refine wpAnyH_take (i := 8) (oi := ?_) (v := undef) ?in8 (by kernel_rfl) ?fn8 ?rn8 ?Qn8 ?yn8 (by assumption) ?tn8
      case in8 => (simp only [lk0, lk1, lk2]; rfl)
      case fn8 | rn8 => kernel_rfl
      case yn8 => exact Or.inr ⟨by rfl, rfl⟩
      case Qn8 => exact fun _ _ _ h => h
      (try simp only [Act.put, pk0, pk1, pk2])
      refine wpAnyH_take (i := 9) (oi := ?_) (v := undef) ?in9 (by kernel_rfl) ?fn9 ?rn9 ?Qn9 ?yn9 (by assumption) ?tn9
      case in9 => (simp only [lk0, lk1, lk2]; rfl)
      case fn9 | rn9 => kernel_rfl
      case yn9 => exact Or.inr ⟨by rfl, rfl⟩
      case Qn9 => exact fun _ _ _ h => h
      (try simp only [Act.put, pk0, pk1, pk2])
      refine wpAnyH_take (i := 10) (oi := ?_) (v := undef) ?in10 (by kernel_rfl) ?fn10 ?rn10 ?Qn10 ?yn10 (by assumption) ?tn10
      case in10 => (simp only [lk0, lk1, lk2]; rfl)
      case fn10 | rn10 => kernel_rfl
      case yn10 => exact Or.inr ⟨by rfl, rfl⟩
      case Qn10 => exact fun _ _ _ h => h
      (try simp only [Act.put, pk0, pk1, pk2])
      refine wpAnyH_take (i := 11) (oi := ?_) (v := undef) ?in11 (by kernel_rfl) ?fn11 ?rn11 ?Qn11 ?yn11 (by assumption) ?tn11
      case in11 => (simp only [lk0, lk1, lk2]; rfl)
      case fn11 | rn11 => kernel_rfl
      case yn11 => exact Or.inr ⟨by rfl, rfl⟩
      case Qn11 => exact fun _ _ _ h => h
      (try simp only [Act.put, pk0, pk1, pk2])
      refine wpAnyH_take (i := 12) (oi := ?_) (v := undef) ?in12 (by kernel_rfl) ?fn12 ?rn12 ?Qn12 ?yn12 (by assumption) ?tn12
      case in12 => (simp only [lk0, lk1, lk2]; rfl)
      case fn12 | rn12 => kernel_rfl
      case yn12 => exact Or.inr ⟨by rfl, rfl⟩
      case Qn12 => exact fun _ _ _ h => h
      (try simp only [Act.put, pk0, pk1, pk2])
      refine wpAnyH_take (i := 13) (oi := ?_) (v := undef) ?in13 (by kernel_rfl) ?fn13 ?rn13 ?Qn13 ?yn13 (by assumption) ?tn13
      case in13 => (simp only [lk0, lk1, lk2]; rfl)
      case fn13 | rn13 => kernel_rfl
      case yn13 => exact Or.inr ⟨by rfl, rfl⟩
      case Qn13 => exact fun _ _ _ h => h
      (try simp only [Act.put, pk0, pk1, pk2])
      refine wpAnyH_take (i := 14) (oi := ?_) (v := undef) ?in14 (by kernel_rfl) ?fn14 ?rn14 ?Qn14 ?yn14 (by assumption) ?tn14
      case in14 => (simp only [lk0, lk1, lk2]; rfl)
      case fn14 | rn14 => kernel_rfl
      case yn14 => exact Or.inr ⟨by rfl, rfl⟩
      case Qn14 => exact fun _ _ _ h => h
      (try simp only [Act.put, pk0, pk1, pk2])
      refine wpAnyH_take (i := 15) (oi := ?_) (v := undef) ?in15 (by kernel_rfl) ?fn15 ?rn15 ?Qn15 ?yn15 (by assumption) ?tn15
      case in15 => (simp only [lk0, lk1, lk2]; rfl)
      case fn15 | rn15 => kernel_rfl
      case yn15 => exact Or.inr ⟨by rfl, rfl⟩
      case Qn15 => exact fun _ _ _ h => h
      (try simp only [Act.put, pk0, pk1, pk2])
      refine wpAnyH_take (i := 16) (oi := ?_) (v := undef) ?in16 (by kernel_rfl) ?fn16 ?rn16 ?Qn16 ?yn16 (by assumption) ?tn16
      case in16 => (simp only [lk0, lk1, lk2]; rfl)
      case fn16 | rn16 => kernel_rfl
      case yn16 => exact Or.inr ⟨by rfl, rfl⟩
      case Qn16 => exact fun _ _ _ h => h
      (try simp only [Act.put, pk0, pk1, pk2])
      refine wpAnyH_take (i := 17) (oi := ?_) (v := undef) ?in17 (by kernel_rfl) ?fn17 ?rn17 ?Qn17 ?yn17 (by assumption) ?tn17
      case in17 => (simp only [lk0, lk1, lk2]; rfl)
      case fn17 | rn17 => kernel_rfl
      case yn17 => exact Or.inr ⟨by rfl, rfl⟩
      case Qn17 => exact fun _ _ _ h => h
      (try simp only [Act.put, pk0, pk1, pk2])
      refine zt [18, 19, 20] ?_
      iterate 3 (refine zt1 (fun _ _ d _ _ h => by cases d <;> exact h) (by simp only [lk0, lk1, lk2]; rfl) (by kernel_rfl) (by assumption) (by rfl) (fun w h => by (try dsimp only at h); go_simp; (try with_reducible rfl)) ?_; (try simp only [Act.put, pk0, pk1, pk2]))
      refine zt0 ?_
      refine wpAnyH_done (by kernel_rfl) ?_ _
      go_wp2
      refine bodyPost_ret (v := .tuple #[.int .i64 i, .bool false]) (by simp [results, Tryz.results68, go_sem]) rfl ⟨rfl, bel_step HBR.out HD9.out⟩
end Num
end Go.Proofs.YtpbfaffheigjcaaGreat
/-
  The reference: names, signs, amounts.
-/
namespace Go.Proofs.YtpbfaffheigjcaaGreat
open Go.RowKit
namespace Num
open Ints
set_option linter.unusedSimpArgs false
set_option linter.unusedVariables false
theorem named_any (K I : Int) (F : Nat) (S : ByteArray) (p : Option Addr) (l c : Nat) (w : World) : Calls Tryz.prog 75 #[.agg #[.int .i64 K, .int .i64 I, .float .f64 F, .string S, .slice p l c]] w fun e w' => e = .returned (.bool (nmV K S)) ∧ Below w.heap.size w w' := by
  cases h3 : (K == 3)
  · have H := Lib.hid (show Ending.returned (.bool false) = .returned (.bool (nmV K S)) by unfold nmV; rw [show decide (K = 3) = false from by simpa using h3]; rfl)
    go_enter Tryz.func75, Tryz.ntmps75
    go_wp2
    go_ret
    exact ⟨H.out, br.alloc (Nat.le_refl _) _⟩
  · obtain rfl : K = 3 := by simpa using h3
    by_cases h1 : (1 : Int) ≤ (S.size : Int)
    · by_cases h32 : (S.size : Int) ≤ 32
      · have H := Lib.hid (show Ending.returned (.bool true) = .returned (.bool (nmV 3 S)) by unfold nmV; rw [decide_eq_true (show 0 < S.size by omega), decide_eq_true (show S.size ≤ 32 by omega)]; rfl)
        go_enter Tryz.func75, Tryz.ntmps75
        go_wp2
        go_ret
        exact ⟨H.out, br.alloc (Nat.le_refl _) _⟩
      · have H := Lib.hid (show Ending.returned (.bool false) = .returned (.bool (nmV 3 S)) by unfold nmV; rw [decide_eq_true (show 0 < S.size by omega), decide_eq_false (show ¬ S.size ≤ 32 by omega)]; rfl)
        go_enter Tryz.func75, Tryz.ntmps75
        go_wp2
        go_ret
        exact ⟨H.out, br.alloc (Nat.le_refl _) _⟩
    · have H := Lib.hid (show Ending.returned (.bool false) = .returned (.bool (nmV 3 S)) by unfold nmV; rw [decide_eq_false (show ¬ 0 < S.size by omega)]; rfl)
      go_enter Tryz.func75, Tryz.ntmps75
      go_wp2
      go_ret
      exact ⟨H.out, br.alloc (Nat.le_refl _) _⟩
theorem asFlo_any (K I : Int) (F : Nat) (S : ByteArray) (p : Option Addr) (l c : Nat) (w : World) : Calls Tryz.prog 22 #[.agg #[.int .i64 K, .int .i64 I, .float .f64 F, .string S, .slice p l c]] w fun e w' => e = .returned (.float .f64 (asF K I F)) ∧ Below w.heap.size w w' := by
  cases h1 : (K == 1)
  · have H := Lib.hid (show Ending.returned (.float .f64 F) = .returned (.float .f64 (asF K I F)) by simp [asF, h1])
    go_enter Tryz.func22, Tryz.ntmps22
    go_wp2
    go_ret
    exact ⟨H.out, br.alloc (Nat.le_refl _) _⟩
  · have H := Lib.hid (show Ending.returned (.float .f64 (floatOfInt .f64 I)) = .returned (.float .f64 (asF K I F)) by simp [asF, h1])
    go_enter Tryz.func22, Tryz.ntmps22
    go_wp2
    go_ret
    exact ⟨H.out, br.alloc (Nat.le_refl _) _⟩
def negW (x : Nat) : Bool := decide (9223372036854775808 ≤ x)
theorem signbit_any (x : Nat) (hx : x < 2 ^ 64) (w : World) : Calls Tryz.prog 76 #[.float .f64 x] w fun e w' => e = .returned (.bool (negW x)) ∧ w = w' := by
  have hd : decide (wrap64 (x : Int) < 0) = negW x := by unfold negW; exact decide_eq_decide.2 (by unfold wrap64; omega)
  have H := Lib.hid (show Ending.returned (.bool (decide (wrap64 (x : Int) < 0))) = .returned (.bool (negW x)) by rw [hd])
  clear hd hx
  go_enter Tryz.func76, Tryz.ntmps76
  go_wp2
  go_ret
  exact ⟨H.out, rfl⟩
def amtV (K I : Int) (F : Nat) : Value := if finV K F = false ∨ signV K I F ≤ 0 then .tuple #[.float .f64 0, .bool false] else .tuple #[.float .f64 (asF K I F), .bool true]
theorem amount_any (K I : Int) (F : Nat) (S : ByteArray) (p : Option Addr) (l c : Nat) (w : World) : Calls Tryz.prog 71 #[.agg #[.int .i64 K, .int .i64 I, .float .f64 F, .string S, .slice p l c]] w fun e w' => e = .returned (amtV K I F) ∧ Below w.heap.size w w' := by
  have HB := Lib.hid (bel_alloc (Below.refl w.heap.size w) (.cells #[.int .i64 K, .int .i64 I, .float .f64 F, .string S, .slice p l c] 27))
  have HR := Lib.hid (row_alloc w #[.int .i64 K, .int .i64 I, .float .f64 F, .string S, .slice p l c] 27)
  cases hf : finV K F
  · have HF := Lib.hid hf
    have HE := Lib.hid (show Ending.returned (.tuple #[.float .f64 0, .bool false]) = .returned (amtV K I F) by unfold amtV; rw [if_pos (Or.inl hf)])
    clear hf
    go_enter Tryz.func71, Tryz.ntmps71
    go_wp2_with fail
    go_at_call 72; refine (refFinite_any _ _ _ _ _ _ _ _).mono ?_; rintro e w1 ⟨rfl, hb1⟩
    rw [HF.out]
    have HB1 := Lib.hid (bel_step HB.out hb1)
    clear hb1
    go_wp2
    refine bodyPost_ret (v := .tuple #[.float .f64 0, .bool false]) (by simp [results, Tryz.results71, go_sem]) rfl ⟨HE.out, HB1.out⟩
  · obtain ⟨s, hs⟩ : ∃ s, signV K I F = s := ⟨_, rfl⟩
    have HF := Lib.hid hf
    have HS := Lib.hid hs
    by_cases hs0 : s ≤ 0
    · have HE := Lib.hid (show Ending.returned (.tuple #[.float .f64 0, .bool false]) = .returned (amtV K I F) by unfold amtV; rw [if_pos (Or.inr (by omega))])
      clear hf hs
      go_enter Tryz.func71, Tryz.ntmps71
      go_wp2_with fail
      go_at_call 72; refine (refFinite_any _ _ _ _ _ _ _ _).mono ?_; rintro e w1 ⟨rfl, hb1⟩
      rw [HF.out]
      have HB1 := Lib.hid (bel_step HB.out hb1)
      have HR1 := Lib.hid (row_step HR.out hb1)
      have d0 := rc HR1.out 0; have d1 := rc HR1.out 1; have d2 := rc HR1.out 2; have d3 := rc HR1.out 3; have d4 := rc HR1.out 4
      simp only [lk0, lk1, lk2] at d0 d1 d2 d3 d4
      clear hb1
      go_wp2_with fail
      go_at_call 105; refine (refSign_any _ _ _ _ _ _ _ _).mono ?_; rintro e w2 ⟨rfl, hb2⟩
      rw [HS.out]
      have HB2 := Lib.hid (bel_step HB1.out hb2)
      clear hb2 d0 d1 d2 d3 d4
      go_wp2
      refine bodyPost_ret (v := .tuple #[.float .f64 0, .bool false]) (by simp [results, Tryz.results71, go_sem]) rfl ⟨HE.out, HB2.out⟩
    · have HE := Lib.hid (show Ending.returned (.tuple #[.float .f64 (asF K I F), .bool true]) = .returned (amtV K I F) by unfold amtV; rw [if_neg (by rw [hf, hs]; simp; omega)])
      clear hf hs
      go_enter Tryz.func71, Tryz.ntmps71
      go_wp2_with fail
      go_at_call 72; refine (refFinite_any _ _ _ _ _ _ _ _).mono ?_; rintro e w1 ⟨rfl, hb1⟩
      rw [HF.out]
      have HB1 := Lib.hid (bel_step HB.out hb1)
      have HR1 := Lib.hid (row_step HR.out hb1)
      have d0 := rc HR1.out 0; have d1 := rc HR1.out 1; have d2 := rc HR1.out 2; have d3 := rc HR1.out 3; have d4 := rc HR1.out 4
      simp only [lk0, lk1, lk2] at d0 d1 d2 d3 d4
      clear hb1
      go_wp2_with fail
      go_at_call 105; refine (refSign_any _ _ _ _ _ _ _ _).mono ?_; rintro e w2 ⟨rfl, hb2⟩
      rw [HS.out]
      have HB2 := Lib.hid (bel_step HB1.out hb2)
      have HR2 := Lib.hid (row_step HR1.out hb2)
      have e0 := rc HR2.out 0; have e1 := rc HR2.out 1; have e2 := rc HR2.out 2; have e3 := rc HR2.out 3; have e4 := rc HR2.out 4
      simp only [lk0, lk1, lk2] at e0 e1 e2 e3 e4
      clear hb2 d0 d1 d2 d3 d4
      go_wp2_with fail
      go_at_call 22; refine (asFlo_any _ _ _ _ _ _ _ _).mono ?_; rintro e w3 ⟨rfl, hb3⟩
      have HB3 := Lib.hid (bel_step HB2.out hb3)
      clear hb3 e0 e1 e2 e3 e4
      go_wp2
      refine bodyPost_ret (v := .tuple #[.float .f64 (asF K I F), .bool true]) (by simp [results, Tryz.results71, go_sem]) rfl ⟨HE.out, HB3.out⟩
end Num
end Go.Proofs.YtpbfaffheigjcaaGreat
/-
  The reference's Check of a value.
-/
namespace Go.Proofs.YtpbfaffheigjcaaGreat
open Go.RowKit
namespace Num
open Ints
set_option linter.unusedSimpArgs false
set_option linter.unusedVariables false
theorem kindsT_eq {n : Nat} {K I : Int} {F : Nat} {S : ByteArray} {L : List (VT n)} : kindsT (n + 1) (K, I, F, S, L) = if (decide (K < 0) || decide (4 < K)) = true then false else if (K == 4) = true then L.all (kindsT n) else true := rfl
theorem greatT_eq {n d : Nat} {K I : Int} {F : Nat} {S : ByteArray} {L : List (VT n)} : greatT (n + 1) d (K, I, F, S, L) = if (K == 3) = true then decide (256 < (S.size : Int)) else if (K == 4) = true then (decide (8 ≤ d) || decide (64 < (L.length : Int)) || L.any (greatT n (d + 1))) else false := rfl
set_option maxHeartbeats 2000000 in
theorem kinds_any : ∀ (n : Nat) (v : Value) (T : VT n) (w : World) (hr : Rep w n v T), Calls Tryz.prog 77 #[v] w fun e w' => e = .returned (.bool (kindsT n T)) ∧ Below w.heap.size w w' := by
  intro n
  induction n with
  | zero => intro v T w h; exact h.elim
  | succ n ih =>
    intro v T w hr
    have IH := Lib.hid ih
    clear ih
    obtain ⟨K, I, F, S, L⟩ := T
    obtain ⟨p, l, c, rfl, _, _, _, hS, hl, hlc, hcm, hel⟩ := hr
    unfold maxLen at hcm hS
    by_cases hbad : K < 0 ∨ 4 < K
    · have H := Lib.hid (show Ending.returned (.bool false) = .returned (.bool (kindsT (n + 1) (K, I, F, S, L))) by rw [kindsT_eq, if_pos (by simp; omega)])
      clear hel hl
      by_cases h0 : K < 0
      · go_enter Tryz.func77, Tryz.ntmps77
        go_wp2
        go_ret
        exact ⟨H.out, br.alloc (Nat.le_refl _) _⟩
      · have h4 : 4 < K := by omega
        go_enter Tryz.func77, Tryz.ntmps77
        go_wp2
        go_ret
        exact ⟨H.out, br.alloc (Nat.le_refl _) _⟩
    · have hk0 : ¬ K < 0 := by omega
      have hk4 : ¬ 4 < K := by omega
      have hdec : (decide (K < 0) || decide (4 < K)) = false := by simp; omega
      cases h4 : (K == 4)
      · have H := Lib.hid (show Ending.returned (.bool true) = .returned (.bool (kindsT (n + 1) (K, I, F, S, L))) by rw [kindsT_eq, hdec, h4]; rfl)
        clear hel hl hdec hbad
        by_cases hl0 : (0 : Int) < (l : Int)
        all_goals
          go_enter Tryz.func77, Tryz.ntmps77
          go_wp2
          refine wp_loop_rounds 1 ?_
          rw [rounds_succ]
          go_wp2
          go_ret
          exact ⟨H.out, br.alloc (Nat.le_refl _) _⟩
      · have HK := Lib.hid (show kindsT (n + 1) (K, I, F, S, L) = L.all (kindsT n) by rw [kindsT_eq, hdec, h4]; rfl)
        have HL := Lib.hid hl
        have HE := Lib.hid hel
        clear hl hel hdec hbad
        go_enter Tryz.func77, Tryz.ntmps77
        go_wp2
        have RS0 := row_alloc w #[.int .i64 K, .int .i64 I, .float .f64 F, .string S, .slice p l c] 27
        go_loopw [3] (fun i wr => ∃ k : Nat, k ≤ l ∧ i = .int .i64 k ∧ (∀ x ∈ L.take k, kindsT n x = true) ∧ Below w.heap.size w wr ∧ wr.heap[w.heap.size]? = some (.cells #[.int .i64 K, .int .i64 I, .float .f64 F, .string S, .slice p l c] 27 (0, 0))) (fun i _ => l - (intOf i).toNat)
        case atStart => exact ⟨0, by omega, rfl, fun x hx => (by cases hx), br.alloc (Nat.le_refl _) _, RS0⟩
        case round =>
          obtain ⟨k, hk, rfl, hall, hB, RS⟩ := hrel
          clear RS0
          have s0 := rc RS 0
          have s4 := rc RS 4
          simp only [lk0, lk1, lk2] at s0 s4
          have HB := Lib.hid hB
          have HRS := Lib.hid RS
          have HA := Lib.hid hall
          by_cases hlt : k < l
          · obtain ⟨b, off, hp, hi⟩ := HE.out (by omega)
            subst hp
            have hkl : k < L.length := by have := HL.out; omega
            obtain ⟨v0, v1, v2, v3, v4, c0, c1, c2, c3, c4, hr⟩ := hi k hkl
            have hr' := rep_keep hB n _ _ hr
            have e0 := ck hB c0
            have e1 := ck hB c1
            have e2 := ck hB c2
            have e3 := ck hB c3
            have e4 := ck hB c4
            clear c0 c1 c2 c3 c4 hr hi hB RS hall
            have HR := Lib.hid hr'
            clear hr'
            cases hx : kindsT n L[k]
            · have HF := Lib.hid (show Ending.returned (.bool false) = .returned (.bool (kindsT (n + 1) (K, I, F, S, L))) by
                rw [HK.out]
                have : L.all (kindsT n) = false := by rw [List.all_eq_false]; exact ⟨L[k], List.getElem_mem hkl, by rw [hx]; simp⟩
                rw [this])
              have HX := Lib.hid hx
              clear hx
              go_wp2_with fail
              go_at_call 77; refine (IH.out _ _ _ HR.out).mono ?_; rintro e w1 ⟨rfl, hb1⟩
              rw [HX.out]
              have HB1 := Lib.hid (bel_step HB.out hb1)
              clear hb1 e0 e1 e2 e3 e4 s0 s4
              go_wp2
              go_ret
              exact ⟨HF.out, HB1.out⟩
            · have HX := Lib.hid hx
              have HA2 := Lib.hid (show ∀ x ∈ L.take (k + 1), kindsT n x = true from fun x hm => by
                rw [List.take_succ_eq_append_getElem hkl, List.mem_append] at hm
                rcases hm with hm | hm
                · exact HA.out x hm
                · rw [List.mem_singleton.1 hm]; exact HX.out)
              clear hx
              go_wp2_with fail
              go_at_call 77; refine (IH.out _ _ _ HR.out).mono ?_; rintro e w1 ⟨rfl, hb1⟩
              rw [HX.out]
              have HB1 := Lib.hid (bel_step HB.out hb1)
              have HR1 := Lib.hid (row_step HRS.out hb1)
              clear hb1 e0 e1 e2 e3 e4 HB HRS s0 s4 HR
              go_wp2
              go_roundw
              case rel => exact ⟨k + 1, by omega, by go_num, HA2.out, HB1.out, HR1.out⟩
              case measure => simp [intOf]; omega
          · have HT := Lib.hid (show Ending.returned (.bool true) = .returned (.bool (kindsT (n + 1) (K, I, F, S, L))) by
              have e : L.take k = L := List.take_of_length_le (by have : L.length = l := HL.out; omega)
              have : L.all (kindsT n) = true := by rw [List.all_eq_true]; intro x hm; exact HA.out x (by rw [e]; exact hm)
              rw [HK.out, this])
            clear hB RS hall
            go_wp2
            go_ret
            exact ⟨HT.out, HB.out⟩
set_option maxHeartbeats 2000000 in
theorem great_any : ∀ (n d : Nat) (v : Value) (T : VT n) (w : World) (hr : Rep w n v T) (hd : d ≤ 1000000), Calls Tryz.prog 78 #[v, .int .i64 d] w fun e w' => e = .returned (.bool (greatT n d T)) ∧ Below w.heap.size w w' := by
  intro n
  induction n with
  | zero => intro d v T w h; exact h.elim
  | succ n ih =>
    intro d v T w hr hd
    have IH := Lib.hid ih
    clear ih
    obtain ⟨K, I, F, S, L⟩ := T
    obtain ⟨p, l, c, rfl, _, _, _, hS, hl, hlc, hcm, hel⟩ := hr
    unfold maxLen at hcm hS
    cases h3 : (K == 3)
    · cases h4 : (K == 4)
      · have H := Lib.hid (show Ending.returned (.bool false) = .returned (.bool (greatT (n + 1) d (K, I, F, S, L))) by rw [greatT_eq, h3, h4]; rfl)
        have hn4 : (K != 4) = true := by simp only [bne, h4]; rfl
        clear hel hl
        go_enter Tryz.func78, Tryz.ntmps78
        go_wp2
        go_ret
        exact ⟨H.out, br.alloc (Nat.le_refl _) _⟩
      · have hn4 : (K != 4) = false := by simp only [bne, h4]; rfl
        have HG := Lib.hid (show greatT (n + 1) d (K, I, F, S, L) = (decide (8 ≤ d) || decide (64 < (L.length : Int)) || L.any (greatT n (d + 1))) by rw [greatT_eq, h3, h4]; rfl)
        by_cases h8 : 8 ≤ d
        · have h8' : (8 : Int) ≤ (d : Int) := by omega
          have H := Lib.hid (show Ending.returned (.bool true) = .returned (.bool (greatT (n + 1) d (K, I, F, S, L))) by rw [HG.out]; simp [h8])
          clear hel hl
          go_enter Tryz.func78, Tryz.ntmps78
          go_wp2
          go_ret
          exact ⟨H.out, br.alloc (Nat.le_refl _) _⟩
        · have h8' : ¬ (8 : Int) ≤ (d : Int) := by omega
          by_cases h64 : (64 : Int) < (l : Int)
          · have H := Lib.hid (show Ending.returned (.bool true) = .returned (.bool (greatT (n + 1) d (K, I, F, S, L))) by rw [HG.out]; have : (64 : Int) < (L.length : Int) := (by have : L.length = l := hl; omega); simp [this])
            clear hel hl
            go_enter Tryz.func78, Tryz.ntmps78
            go_wp2
            go_ret
            exact ⟨H.out, br.alloc (Nat.le_refl _) _⟩
          · have HG2 := Lib.hid (show greatT (n + 1) d (K, I, F, S, L) = L.any (greatT n (d + 1)) by
              rw [HG.out]
              have a1 : decide (8 ≤ d) = false := by simp; omega
              have a2 : decide (64 < (L.length : Int)) = false := by have : L.length = l := hl; simp; omega
              rw [a1, a2]; simp)
            have HL := Lib.hid hl
            have HE := Lib.hid hel
            clear hl hel
            go_enter Tryz.func78, Tryz.ntmps78
            go_wp2
            have RS0 := row_alloc w #[.int .i64 K, .int .i64 I, .float .f64 F, .string S, .slice p l c] 27
            go_loopw [5] (fun i wr => ∃ k : Nat, k ≤ l ∧ i = .int .i64 k ∧ (∀ x ∈ L.take k, greatT n (d + 1) x = false) ∧ Below w.heap.size w wr ∧ wr.heap[w.heap.size]? = some (.cells #[.int .i64 K, .int .i64 I, .float .f64 F, .string S, .slice p l c] 27 (0, 0))) (fun i _ => l - (intOf i).toNat)
            case atStart => exact ⟨0, by omega, rfl, fun x hx => (by cases hx), br.alloc (Nat.le_refl _) _, RS0⟩
            case round =>
              obtain ⟨k, hk, rfl, hall, hB, RS⟩ := hrel
              clear RS0
              have s0 := rc RS 0
              have s4 := rc RS 4
              simp only [lk0, lk1, lk2] at s0 s4
              have HB := Lib.hid hB
              have HRS := Lib.hid RS
              have HA := Lib.hid hall
              by_cases hlt : k < l
              · obtain ⟨b, off, hp, hi⟩ := HE.out (by omega)
                subst hp
                have hkl : k < L.length := by have := HL.out; omega
                obtain ⟨v0, v1, v2, v3, v4, c0, c1, c2, c3, c4, hr⟩ := hi k hkl
                have hr' := rep_keep hB n _ _ hr
                have e0 := ck hB c0
                have e1 := ck hB c1
                have e2 := ck hB c2
                have e3 := ck hB c3
                have e4 := ck hB c4
                clear c0 c1 c2 c3 c4 hr hi hB RS hall
                have HR := Lib.hid hr'
                clear hr'
                cases hx : greatT n (d + 1) L[k]
                · have HX := Lib.hid hx
                  have HA2 := Lib.hid (show ∀ x ∈ L.take (k + 1), greatT n (d + 1) x = false from fun x hm => by
                    rw [List.take_succ_eq_append_getElem hkl, List.mem_append] at hm
                    rcases hm with hm | hm
                    · exact HA.out x hm
                    · rw [List.mem_singleton.1 hm]; exact HX.out)
                  clear hx
                  go_wp2_with fail
                  go_at_call 78; rw [show ((d : Int) + 1) = ((d + 1 : Nat) : Int) by omega]; refine (IH.out (d + 1) _ _ _ HR.out (by omega)).mono ?_; rintro e w1 ⟨rfl, hb1⟩
                  rw [HX.out]
                  have HB1 := Lib.hid (bel_step HB.out hb1)
                  have HR1 := Lib.hid (row_step HRS.out hb1)
                  clear hb1 e0 e1 e2 e3 e4 HB HRS s0 s4 HR
                  go_wp2
                  go_roundw
                  case rel => exact ⟨k + 1, by omega, by go_num, HA2.out, HB1.out, HR1.out⟩
                  case measure => simp [intOf]; omega
                · have HF := Lib.hid (show Ending.returned (.bool true) = .returned (.bool (greatT (n + 1) d (K, I, F, S, L))) by
                    rw [HG2.out]
                    have : L.any (greatT n (d + 1)) = true := by rw [List.any_eq_true]; exact ⟨L[k], List.getElem_mem hkl, hx⟩
                    rw [this])
                  have HX := Lib.hid hx
                  clear hx
                  go_wp2_with fail
                  go_at_call 78; rw [show ((d : Int) + 1) = ((d + 1 : Nat) : Int) by omega]; refine (IH.out (d + 1) _ _ _ HR.out (by omega)).mono ?_; rintro e w1 ⟨rfl, hb1⟩
                  rw [HX.out]
                  have HB1 := Lib.hid (bel_step HB.out hb1)
                  clear hb1 e0 e1 e2 e3 e4 s0 s4
                  go_wp2
                  go_ret
                  exact ⟨HF.out, HB1.out⟩
              · have HT := Lib.hid (show Ending.returned (.bool false) = .returned (.bool (greatT (n + 1) d (K, I, F, S, L))) by
                  have e : L.take k = L := List.take_of_length_le (by have : L.length = l := HL.out; omega)
                  have : L.any (greatT n (d + 1)) = false := by rw [List.any_eq_false]; intro x hm; rw [HA.out x (by rw [e]; exact hm)]; simp
                  rw [HG2.out, this])
                clear hB RS hall
                go_wp2
                go_ret
                exact ⟨HT.out, HB.out⟩
    · have H := Lib.hid (show Ending.returned (.bool (decide (256 < (S.size : Int)))) = .returned (.bool (greatT (n + 1) d (K, I, F, S, L))) by rw [greatT_eq, h3]; rfl)
      clear hel hl
      go_enter Tryz.func78, Tryz.ntmps78
      go_wp2
      go_ret
      exact ⟨H.out, br.alloc (Nat.le_refl _) _⟩
set_option maxHeartbeats 2000000 in
theorem rcheck_any (n : Nat) (v : Value) (T : VT n) (w : World) (hr : Rep w n v T) : Calls Tryz.prog 44 #[v] w fun e w' => e = .returned (.int .i64 (rcheckT n T)) ∧ Below w.heap.size w w' := by
  obtain ⟨K, I, F, S, p, l, c, rfl, _⟩ := rep_shape hr
  have HR := Lib.hid (rep_keep ((Below.refl w.heap.size w).alloc (Nat.le_refl _) (.cells #[.int .i64 K, .int .i64 I, .float .f64 F, .string S, .slice p l c] 27)) _ _ _ hr)
  have HB := Lib.hid ((Below.refl w.heap.size w).alloc (Nat.le_refl _) (.cells #[.int .i64 K, .int .i64 I, .float .f64 F, .string S, .slice p l c] 27))
  have RS := Lib.hid (row_alloc w #[.int .i64 K, .int .i64 I, .float .f64 F, .string S, .slice p l c] 27)
  clear hr
  have HC := Lib.hid (show rcheckT n T = if kindsT n T = false then 31 else if (greatT n 0 T || decide (4096 < sizeT n T)) = true then 22 else 0 from rfl)
  cases hk : kindsT n T
  · have HE := Lib.hid (show Ending.returned (.int .i64 31) = .returned (.int .i64 (rcheckT n T)) by rw [HC.out, if_pos hk])
    have HX := Lib.hid hk
    clear hk
    go_enter Tryz.func44, Tryz.ntmps44
    go_wp2_with fail
    go_at_call 77; refine (kinds_any n _ T _ HR.out).mono ?_; rintro e w1 ⟨rfl, hb1⟩
    rw [HX.out]
    have HB1 := Lib.hid (bel_step HB.out hb1)
    clear hb1
    go_wp2
    go_ret
    exact ⟨HE.out, HB1.out⟩
  · have HX := Lib.hid hk
    cases hg : greatT n 0 T
    · obtain ⟨z, hz⟩ : ∃ z, sizeT n T = z := ⟨_, rfl⟩
      have HZ := Lib.hid hz
      by_cases hbig : 4096 < z
      all_goals
        have HE := Lib.hid (show rcheckT n T = if 4096 < z then 22 else 0 by rw [HC.out, hk, hg, hz]; simp)
        have HY := Lib.hid hg
        go_enter Tryz.func44, Tryz.ntmps44
        go_wp2_with fail
        go_at_call 77; refine (kinds_any n _ T _ HR.out).mono ?_; rintro e w1 ⟨rfl, hb1⟩
        rw [HX.out]
        have HB1 := Lib.hid (bel_step HB.out hb1)
        have HR1 := Lib.hid (rep_keep hb1 _ _ _ HR.out)
        have HS1 := Lib.hid (row_step RS.out hb1)
        have d0 := rc HS1.out 0; have d1 := rc HS1.out 1; have d2 := rc HS1.out 2; have d3 := rc HS1.out 3; have d4 := rc HS1.out 4
        simp only [lk0, lk1, lk2] at d0 d1 d2 d3 d4
        clear hb1
        go_wp2_with fail
        go_at_call 78; refine (great_any n 0 _ T _ HR1.out (by omega)).mono ?_; rintro e w2 ⟨rfl, hb2⟩
        rw [HY.out]
        have HB2 := Lib.hid (bel_step HB1.out hb2)
        have HR2 := Lib.hid (rep_keep hb2 _ _ _ HR1.out)
        have HS2 := Lib.hid (row_step HS1.out hb2)
        have e0 := rc HS2.out 0; have e1 := rc HS2.out 1; have e2 := rc HS2.out 2; have e3 := rc HS2.out 3; have e4 := rc HS2.out 4
        simp only [lk0, lk1, lk2] at e0 e1 e2 e3 e4
        clear hb2 d0 d1 d2 d3 d4
        go_wp2_with fail
        go_at_call 42; refine (size_any n _ T _ HR2.out).mono ?_; rintro e w3 ⟨rfl, hb3⟩
        rw [HZ.out]
        have HB3 := Lib.hid (bel_step HB2.out hb3)
        clear hb3 e0 e1 e2 e3 e4
        go_wp2
        go_ret
        exact ⟨by rw [HE.out]; simp [hbig], HB3.out⟩
    · have HE := Lib.hid (show Ending.returned (.int .i64 22) = .returned (.int .i64 (rcheckT n T)) by rw [HC.out, hk, hg]; rfl)
      have HY := Lib.hid hg
      clear hk hg
      go_enter Tryz.func44, Tryz.ntmps44
      go_wp2_with fail
      go_at_call 77; refine (kinds_any n _ T _ HR.out).mono ?_; rintro e w1 ⟨rfl, hb1⟩
      rw [HX.out]
      have HB1 := Lib.hid (bel_step HB.out hb1)
      have HR1 := Lib.hid (rep_keep hb1 _ _ _ HR.out)
      have HS1 := Lib.hid (row_step RS.out hb1)
      have d0 := rc HS1.out 0; have d1 := rc HS1.out 1; have d2 := rc HS1.out 2; have d3 := rc HS1.out 3; have d4 := rc HS1.out 4
      simp only [lk0, lk1, lk2] at d0 d1 d2 d3 d4
      clear hb1
      go_wp2_with fail
      go_at_call 78; refine (great_any n 0 _ T _ HR1.out (by omega)).mono ?_; rintro e w2 ⟨rfl, hb2⟩
      rw [HY.out]
      have HB2 := Lib.hid (bel_step HB1.out hb2)
      clear hb2 d0 d1 d2 d3 d4
      go_wp2
      go_ret
      exact ⟨HE.out, HB2.out⟩
end Num
end Go.Proofs.YtpbfaffheigjcaaGreat
/-
  The reference: pairs, on a ledger that is right.
-/
namespace Go.Proofs.YtpbfaffheigjcaaGreat
open Go.RowKit
namespace Num
open Ints
set_option linter.unusedSimpArgs false
set_option linter.unusedVariables false
def AccV {n : Nat} (V : VT (n + 1)) : Prop := V.1 = 2 ∧ finV 2 V.2.2.1 = true ∧ negW V.2.2.1 = false
def RokLed (n : Nat) (ES : List (ByteArray × VT (n + 1))) : Prop := Names (ES.map (·.1)) ∧ ES.length ≤ 32 ∧ rcheckT (n + 3) (tableT n ES) = 0 ∧ ∀ e ∈ ES, AccV e.2
theorem acc_mem {w : World} {n : Nat} {v : Value} {s : ByteArray} {V : VT (n + 1)} (h : Rep w (n + 2) v (pairT n s V)) (ha : AccV V) : ∃ (g o d : Nat) (q9 : Option Addr) (d9 : Nat) (I : Int) (F : Nat) (Z : ByteArray) (q : Option Addr) (m d2 : Nat), v = .agg #[.int .i64 4, .int .i64 0, .float .f64 0, .string ⟨#[]⟩, .slice (some ⟨g, o, none⟩) 2 d] ∧ (w.cell? ⟨g, o, none⟩ = some (.int .i64 3) ∧ w.cell? ⟨g, o + 1, none⟩ = some (.int .i64 0) ∧ w.cell? ⟨g, o + 2, none⟩ = some (.float .f64 0) ∧ w.cell? ⟨g, o + 3, none⟩ = some (.string s) ∧ w.cell? ⟨g, o + 4, none⟩ = some (.slice q9 0 d9)) ∧ (w.cell? ⟨g, o + 5, none⟩ = some (.int .i64 2) ∧ w.cell? ⟨g, o + 5 + 1, none⟩ = some (.int .i64 I) ∧ w.cell? ⟨g, o + 5 + 2, none⟩ = some (.float .f64 F) ∧ w.cell? ⟨g, o + 5 + 3, none⟩ = some (.string Z) ∧ w.cell? ⟨g, o + 5 + 4, none⟩ = some (.slice q m d2)) ∧ finV 2 F = true ∧ negW F = false ∧ F < 2 ^ 64 := by
  obtain ⟨g, o, d, rfl, ⟨n0, n1, n2, n3, q9, d9, n4, _⟩, _, K, I, F, Z, q, m, d2, ⟨x0, x1, x2, x3, x4⟩, hr⟩ := pair_mem h
  obtain ⟨K', I', F', Z', L'⟩ := V
  obtain ⟨h1, h2, h3⟩ := ha
  obtain ⟨p, l, c, hv, _, _, hF, _⟩ := hr
  injection hv with hv
  simp only [Array.mk.injEq, List.cons.injEq, and_true] at hv
  obtain ⟨e1, e2, e3, e4, e5⟩ := hv
  injection e1 with _ e1
  injection e3 with _ e3
  subst e1; subst e3
  obtain rfl : K = 2 := h1
  exact ⟨g, o, d, q9, d9, I, F, Z, q, m, d2, rfl, ⟨n0, n1, n2, n3, n4⟩, ⟨x0, x1, x2, x3, x4⟩, h2, h3, hF⟩
theorem pair_nm {w : World} {n : Nat} {v : Value} {s : ByteArray} {V : VT (n + 1)} (h : Rep w (n + 2) v (pairT n s V)) : ∃ g o c, v = .agg #[.int .i64 4, .int .i64 0, .float .f64 0, .string ⟨#[]⟩, .slice (some ⟨g, o, none⟩) 2 c] ∧ w.cell? ⟨g, o + 3, none⟩ = some (.string s) := by
  obtain ⟨g, o, d, rfl, ⟨_, _, _, n3, _⟩, _⟩ := pair_mem h
  exact ⟨g, o, d, rfl, n3⟩
theorem led_mem {w : World} {n : Nat} {v : Value} {ES : List (ByteArray × VT (n + 1))} (h : Rep w (n + 3) v (tableT n ES)) : ∃ p l c, v = .agg #[.int .i64 4, .int .i64 0, .float .f64 0, .string ⟨#[]⟩, .slice p l c] ∧ RepL w (Rep w (n + 2)) p l c (ES.map (pairE n)) := by
  obtain ⟨p, l, c, rfl, _, _, _, _, h⟩ := h
  exact ⟨p, l, c, rfl, h⟩
theorem named_yes {S : ByteArray} (h : nmV 3 S = true) (I : Int) (F : Nat) (p : Option Addr) (l c : Nat) (w : World) : Calls Tryz.prog 75 #[.agg #[.int .i64 3, .int .i64 I, .float .f64 F, .string S, .slice p l c]] w fun e w' => e = .returned (.bool true) ∧ Below w.heap.size w w' := by
  have := named_any 3 I F S p l c w
  rw [h] at this
  exact this
def P0 (w : World) (sb b off l c eb g o d : Nat) (s : ByteArray) (q9 : Option Addr) (d9 : Nat) (I : Int) (F : Nat) (Z : ByteArray) (q : Option Addr) (m d2 : Nat) (z : World) : Prop := z.cell? ⟨eb, 0, none⟩ = some (.int .i64 4) ∧ z.cell? ⟨eb, 1, none⟩ = some (.int .i64 0) ∧ z.cell? ⟨eb, 2, none⟩ = some (.float .f64 0) ∧ z.cell? ⟨eb, 3, none⟩ = some (.string ⟨#[]⟩) ∧ z.cell? ⟨eb, 4, none⟩ = some (.slice (some ⟨g, o, none⟩) 2 d) ∧ z.cell? ⟨g, o, none⟩ = some (.int .i64 3) ∧ z.cell? ⟨g, o + 1, none⟩ = some (.int .i64 0) ∧ z.cell? ⟨g, o + 2, none⟩ = some (.float .f64 0) ∧ z.cell? ⟨g, o + 3, none⟩ = some (.string s) ∧ z.cell? ⟨g, o + 4, none⟩ = some (.slice q9 0 d9) ∧ Below w.heap.size w z ∧ z.cell? ⟨sb, 4, none⟩ = some (.slice (some ⟨b, off, none⟩) l c) ∧ z.cell? ⟨g, o + 5, none⟩ = some (.int .i64 2) ∧ z.cell? ⟨g, o + 5 + 1, none⟩ = some (.int .i64 I) ∧ z.cell? ⟨g, o + 5 + 2, none⟩ = some (.float .f64 F) ∧ z.cell? ⟨g, o + 5 + 3, none⟩ = some (.string Z) ∧ z.cell? ⟨g, o + 5 + 4, none⟩ = some (.slice q m d2)
theorem p0_step {x y : World} {w : World} {sb b off l c eb g o d : Nat} {s : ByteArray} {q9 : Option Addr} {d9 : Nat} {I : Int} {F : Nat} {Z : ByteArray} {q : Option Addr} {m d2 : Nat} (h : P0 w sb b off l c eb g o d s q9 d9 I F Z q m d2 x) (hb : Below x.heap.size x y) : P0 w sb b off l c eb g o d s q9 d9 I F Z q m d2 y :=
  ⟨ck hb h.1, ck hb h.2.1, ck hb h.2.2.1, ck hb h.2.2.2.1, ck hb h.2.2.2.2.1, ck hb h.2.2.2.2.2.1, ck hb h.2.2.2.2.2.2.1, ck hb h.2.2.2.2.2.2.2.1, ck hb h.2.2.2.2.2.2.2.2.1, ck hb h.2.2.2.2.2.2.2.2.2.1, bel_step h.2.2.2.2.2.2.2.2.2.2.1 hb, ck hb h.2.2.2.2.2.2.2.2.2.2.2.1, ck hb h.2.2.2.2.2.2.2.2.2.2.2.2.1, ck hb h.2.2.2.2.2.2.2.2.2.2.2.2.2.1, ck hb h.2.2.2.2.2.2.2.2.2.2.2.2.2.2.1, ck hb h.2.2.2.2.2.2.2.2.2.2.2.2.2.2.2.1, ck hb h.2.2.2.2.2.2.2.2.2.2.2.2.2.2.2.2⟩
def P1 (k g' o' d' : Nat) (s' : ByteArray) (w : World) (sb b off l c eb g o d : Nat) (s : ByteArray) (q9 : Option Addr) (d9 : Nat) (I : Int) (F : Nat) (Z : ByteArray) (q : Option Addr) (m d2 : Nat) (z : World) : Prop := z.cell? ⟨b, off + k * 5 + 4, none⟩ = some (.slice (some ⟨g', o', none⟩) 2 d') ∧ z.cell? ⟨g', o' + 3, none⟩ = some (.string s') ∧  P0 w sb b off l c eb g o d s q9 d9 I F Z q m d2 z
theorem p1_step {x y : World} {k g' o' d' : Nat} {s' : ByteArray} {w : World} {sb b off l c eb g o d : Nat} {s : ByteArray} {q9 : Option Addr} {d9 : Nat} {I : Int} {F : Nat} {Z : ByteArray} {q : Option Addr} {m d2 : Nat} (h : P1 k g' o' d' s' w sb b off l c eb g o d s q9 d9 I F Z q m d2 x) (hb : Below x.heap.size x y) : P1 k g' o' d' s' w sb b off l c eb g o d s q9 d9 I F Z q m d2 y :=
  ⟨ck hb h.1, ck hb h.2.1, p0_step h.2.2 hb⟩
set_option maxRecDepth 100000 in
set_option maxHeartbeats 4000000 in
theorem pairs_led (n : Nat) (v : Value) (ES : List (ByteArray × VT (n + 1))) (w : World) (hr : Rep w (n + 3) v (tableT n ES)) (hok : RokLed n ES) : Calls Tryz.prog 43 #[v, .bool true] w fun e w' => e = .returned (.bool true) ∧ Below w.heap.size w w' := by
  obtain ⟨hnm, hl32, hc, hac⟩ := hok
  have HC := fun W (hb : Below w.heap.size w W) => (show Calls Tryz.prog 44 #[v] W fun e w' => e = .returned (.int .i64 0) ∧ Below W.heap.size W w' by
    have h := rcheck_any (n + 3) v _ W (rep_keep hb _ _ _ hr)
    rw [hc] at h
    exact h)
  have HCH := Lib.hid HC
  have HAC := Lib.hid hac
  obtain ⟨p, l, c, rfl, hrl⟩ := led_mem hr
  have HRL := Lib.hid hrl
  have HLEN := Lib.hid (show ES.length = l by have := hrl.1; rw [List.length_map] at this; exact this)
  have HNMS := Lib.hid hnm
  have hl : (l : Int) ≤ 32 := by have := HLEN.out; omega
  have hl2 : ¬ (32 : Int) < (l : Int) := by omega
  have hl0 : (0 : Int) ≤ (l : Int) := by omega
  obtain ⟨oa, hoa⟩ : ∃ o, Obj.cells #[.int .i64 4, .int .i64 0, .float .f64 0, .string ⟨#[]⟩, .slice p l c] 27 = o := ⟨_, rfl⟩
  have HB := Lib.hid (bel_alloc (Below.refl w.heap.size w) oa)
  have ra := row_alloc w #[.int .i64 4, .int .i64 0, .float .f64 0, .string ⟨#[]⟩, .slice p l c] 27
  have HRA := Lib.hid ra
  subst hoa
  clear ra hrl hnm hc hl32 hr HC hac
  go_enter Tryz.func43, Tryz.ntmps43
  go_wp2_with fail
  go_at_call 44; refine (HCH.out _ HB.out).mono ?_; rintro e w1 ⟨rfl, hb1⟩
  have HB1 := Lib.hid (bel_step HB.out hb1)
  have xa := row_step HRA.out hb1
  have HRA1 := Lib.hid xa
  have a0 := rc xa 0; have a4 := rc xa 4
  simp only [lk0, lk1, lk2] at a0 a4
  clear hb1 HB HRA HCH xa
  go_wp2
  clear a0 a4
  go_loopw [5] (fun iv wr => ∃ i : Nat, i ≤ l ∧ iv = .int .i64 i ∧ Below w.heap.size w wr ∧ wr.cell? ⟨w.heap.size, 4, none⟩ = some (.slice p l c)) (fun iv _ => l - (intOf iv).toNat)
  case atStart => exact ⟨0, by omega, rfl, HB1.out, rc HRA1.out 4⟩
  case round =>
    obtain ⟨i, hil, rfl, hB, hS⟩ := hrel
    by_cases hlt : i < l
    · obtain ⟨b, off, hpb, hit⟩ := HRL.out.2.2.2 (by omega)
      subst hpb
      have hei : i < ES.length := by have := HLEN.out; omega
      obtain ⟨v0, v1, v2, v3, v4, c0, c1, c2, c3, c4, hre⟩ := hit i (by rw [List.length_map]; exact hei)
      rw [List.getElem_map] at hre
      obtain ⟨⟨SS, VV⟩, hsv⟩ : ∃ e, e = ES[i] := ⟨_, rfl⟩
      rw [← hsv] at hre
      have hre' : Rep w (n + 2) (.agg #[v0, v1, v2, v3, v4]) (pairT n SS VV) := hre
      have hmem : i < (ES.map (·.1)).length := by rw [List.length_map]; exact hei
      have hs1 : (ES.map (·.1))[i] = SS := by rw [List.getElem_map, ← hsv]
      have HNM := Lib.hid (show nmV 3 SS = true from HNMS.out.1 SS (by rw [← hs1]; exact List.getElem_mem hmem))
      have hav : AccV VV := HAC.out (SS, VV) (by rw [hsv]; exact List.getElem_mem hei)
      obtain ⟨g, o, d, q9, d9, I, F, Z, q, m, d2, hvv, ⟨n0, n1, n2, n3, n4⟩, ⟨x0, x1, x2, x3, x4⟩, hfi, hng, hfl⟩ := acc_mem hre' hav
      injection hvv with hvv
      simp only [Array.mk.injEq, List.cons.injEq, and_true] at hvv
      obtain ⟨rfl, rfl, rfl, rfl, rfl⟩ := hvv
      have HFI := Lib.hid hfi
      have HNG := Lib.hid hng
      have HFL := Lib.hid hfl
      have e0 := ck hB c0; have e1 := ck hB c1; have e2 := ck hB c2; have e3 := ck hB c3; have e4 := ck hB c4
      have elt := cell_lt e0
      have hslt := cell_lt hS
      have hi0 : (0 : Int) ≤ (i : Int) := by omega
      have hil2 : (i : Int) < (l : Int) := by omega
      have hAL := bel_alloc (Below.refl wr.heap.size wr) (.cells #[.int .i64 4, .int .i64 0, .float .f64 0, .string ⟨#[]⟩, .slice (some ⟨g, o, none⟩) 2 d] 27)
      have HB2 := Lib.hid (bel_step hB hAL)
      have hcc := fun {a : Addr} {v : Value} (h : w.cell? a = some v) => ck HB2.out h
      have hP0 : P0 w w.heap.size b off l c wr.heap.size g o d SS q9 d9 I F Z q m d2 (wr.alloc (.cells #[.int .i64 4, .int .i64 0, .float .f64 0, .string ⟨#[]⟩, .slice (some ⟨g, o, none⟩) 2 d] 27)) := by
        have hcs := cs_row (row_alloc wr #[.int .i64 4, .int .i64 0, .float .f64 0, .string ⟨#[]⟩, .slice (some ⟨g, o, none⟩) 2 d] 27)
        exact ⟨hcs.1, hcs.2.1, hcs.2.2.1, hcs.2.2.2.1, hcs.2.2.2.2, hcc n0, hcc n1, hcc n2, hcc n3, hcc n4, HB2.out, ck hAL hS, hcc x0, hcc x1, hcc x2, hcc x3, hcc x4⟩
      clear hfi hng hfl n0 n1 n2 n3 n4 x0 x1 x2 x3 x4 hav
      rcases Nat.eq_zero_or_pos i with h0 | h0
      · subst h0
        have HE := Lib.hid hP0
        simp only [Nat.zero_mul, Nat.add_zero] at e0 e1 e2 e3 e4
        clear c0 c1 c2 c3 c4 hit hre hre' hP0 hAL hcc
        go_upto_region 7 with fail
        clear e0 e1 e2 e3 e4
        refine wp_region_held_drew (S := (fun z => z.cell? ⟨wr.heap.size, 0, none⟩ = some (.int .i64 4) ∧ z.cell? ⟨wr.heap.size, 1, none⟩ = some (.int .i64 0) ∧ z.cell? ⟨wr.heap.size, 2, none⟩ = some (.float .f64 0) ∧ z.cell? ⟨wr.heap.size, 3, none⟩ = some (.string ⟨#[]⟩) ∧ z.cell? ⟨wr.heap.size, 4, none⟩ = some (.slice (some ⟨g, o, none⟩) 2 d) ∧ z.cell? ⟨g, o, none⟩ = some (.int .i64 3) ∧ z.cell? ⟨g, o + 1, none⟩ = some (.int .i64 0) ∧ z.cell? ⟨g, o + 2, none⟩ = some (.float .f64 0) ∧ z.cell? ⟨g, o + 3, none⟩ = some (.string SS) ∧ z.cell? ⟨g, o + 4, none⟩ = some (.slice q9 0 d9) ∧ Below w.heap.size w z ∧ z.cell? ⟨w.heap.size, 4, none⟩ = some (.slice (some ⟨b, off, none⟩) l c) ∧ z.cell? ⟨g, o + 5, none⟩ = some (.int .i64 2) ∧ z.cell? ⟨g, o + 5 + 1, none⟩ = some (.int .i64 I) ∧ z.cell? ⟨g, o + 5 + 2, none⟩ = some (.float .f64 F) ∧ z.cell? ⟨g, o + 5 + 3, none⟩ = some (.string Z) ∧ z.cell? ⟨g, o + 5 + 4, none⟩ = some (.slice q m d2))) (by kernel_rfl) ?_ (fun hH => ?_)
        · exact p0_step HE.out (Below.drew br)
        refine zt [0, 1, 2, 3, 4, 5, 6, 7, 8, 9, 10, 11, 12, 13] ?_
        iterate 14 (refine zt1 (fun _ _ d _ _ h => by cases d <;> exact h) (by simp only [lk0, lk1, lk2]; rfl) (by kernel_rfl) (by assumption) (by rfl) (fun w h => by (try dsimp only at h); go_simp; (try with_reducible rfl)) ?_; (try simp only [Act.put, pk0, pk1, pk2]))
        refine zt0 ?_
        refine zr1 14 (by kernel_rfl) (by simp only [lk0, lk1, lk2]; rfl) (fun K hK => ?_)
        go_simp
        go_at_call 75; refine (named_yes HNM.out _ _ _ _ _ _).mono ?_; rintro e w4 ⟨rfl, hb4⟩; have he4 := p0_step (show P0 w w.heap.size b off l c wr.heap.size g o d SS q9 d9 I F Z q m d2 _ from hH) hb4; clear hb4
        go_wp2_with fail
        refine hK.out _ _ ?hsa14 (fun hH => ?_)
        case hsa14 => exact he4
        clear hK K
        (try simp only [Act.put, pk0, pk1, pk2])
        refine zt [15, 16, 17, 18, 19, 20] ?_
        iterate 6 (refine zt1 (fun _ _ d _ _ h => by cases d <;> exact h) (by simp only [lk0, lk1, lk2]; rfl) (by kernel_rfl) (by assumption) (by rfl) (fun w h => by (try dsimp only at h); go_simp; (try with_reducible rfl)) ?_; (try simp only [Act.put, pk0, pk1, pk2]))
        refine zt0 ?_
        refine wpAnyH_take (i := 21) (oi := ?_) (v := undef) ?ia21 (by kernel_rfl) ?fa21 ?ra21 ?Qa21 ?ya21 (by assumption) ?ta21
        case ia21 => (simp only [lk0, lk1, lk2]; rfl)
        case fa21 | ra21 => kernel_rfl
        case ya21 => exact Or.inr ⟨by rfl, rfl⟩
        case Qa21 => exact fun _ _ _ h => h
        (try simp only [Act.put, pk0, pk1, pk2])
        refine wpAnyH_take (i := 22) (oi := ?_) (v := undef) ?ia22 (by kernel_rfl) ?fa22 ?ra22 ?Qa22 ?ya22 (by assumption) ?ta22
        case ia22 => (simp only [lk0, lk1, lk2]; rfl)
        case fa22 | ra22 => kernel_rfl
        case ya22 => exact Or.inr ⟨by rfl, rfl⟩
        case Qa22 => exact fun _ _ _ h => h
        (try simp only [Act.put, pk0, pk1, pk2])
        refine wpAnyH_take (i := 23) (oi := ?_) (v := undef) ?ia23 (by kernel_rfl) ?fa23 ?ra23 ?Qa23 ?ya23 (by assumption) ?ta23
        case ia23 => (simp only [lk0, lk1, lk2]; rfl)
        case fa23 | ra23 => kernel_rfl
        case ya23 => exact Or.inr ⟨by rfl, rfl⟩
        case Qa23 => exact fun _ _ _ h => h
        (try simp only [Act.put, pk0, pk1, pk2])
        refine wpAnyH_take (i := 24) (oi := ?_) (v := undef) ?ia24 (by kernel_rfl) ?fa24 ?ra24 ?Qa24 ?ya24 (by assumption) ?ta24
        case ia24 => (simp only [lk0, lk1, lk2]; rfl)
        case fa24 | ra24 => kernel_rfl
        case ya24 => exact Or.inr ⟨by rfl, rfl⟩
        case Qa24 => exact fun _ _ _ h => h
        (try simp only [Act.put, pk0, pk1, pk2])
        refine wpAnyH_take (i := 25) (oi := ?_) (v := undef) ?ia25 (by kernel_rfl) ?fa25 ?ra25 ?Qa25 ?ya25 (by assumption) ?ta25
        case ia25 => (simp only [lk0, lk1, lk2]; rfl)
        case fa25 | ra25 => kernel_rfl
        case ya25 => exact Or.inr ⟨by rfl, rfl⟩
        case Qa25 => exact fun _ _ _ h => h
        (try simp only [Act.put, pk0, pk1, pk2])
        refine wpAnyH_take (i := 26) (oi := ?_) (v := undef) ?ia26 (by kernel_rfl) ?fa26 ?ra26 ?Qa26 ?ya26 (by assumption) ?ta26
        case ia26 => (simp only [lk0, lk1, lk2]; rfl)
        case fa26 | ra26 => kernel_rfl
        case ya26 => exact Or.inr ⟨by rfl, rfl⟩
        case Qa26 => exact fun _ _ _ h => h
        (try simp only [Act.put, pk0, pk1, pk2])
        refine wpAnyH_take (i := 27) (oi := ?_) (v := undef) ?ia27 (by kernel_rfl) ?fa27 ?ra27 ?Qa27 ?ya27 (by assumption) ?ta27
        case ia27 => (simp only [lk0, lk1, lk2]; rfl)
        case fa27 | ra27 => kernel_rfl
        case ya27 => exact Or.inr ⟨by rfl, rfl⟩
        case Qa27 => exact fun _ _ _ h => h
        (try simp only [Act.put, pk0, pk1, pk2])
        refine wpAnyH_take (i := 28) (oi := ?_) (v := undef) ?ia28 (by kernel_rfl) ?fa28 ?ra28 ?Qa28 ?ya28 (by assumption) ?ta28
        case ia28 => (simp only [lk0, lk1, lk2]; rfl)
        case fa28 | ra28 => kernel_rfl
        case ya28 => exact Or.inr ⟨by rfl, rfl⟩
        case Qa28 => exact fun _ _ _ h => h
        (try simp only [Act.put, pk0, pk1, pk2])
        refine wpAnyH_take (i := 29) (oi := ?_) (v := undef) ?ia29 (by kernel_rfl) ?fa29 ?ra29 ?Qa29 ?ya29 (by assumption) ?ta29
        case ia29 => (simp only [lk0, lk1, lk2]; rfl)
        case fa29 | ra29 => kernel_rfl
        case ya29 => exact Or.inr ⟨by rfl, rfl⟩
        case Qa29 => exact fun _ _ _ h => h
        (try simp only [Act.put, pk0, pk1, pk2])
        refine wpAnyH_take (i := 30) (oi := ?_) (v := undef) ?ia30 (by kernel_rfl) ?fa30 ?ra30 ?Qa30 ?ya30 (by assumption) ?ta30
        case ia30 => (simp only [lk0, lk1, lk2]; rfl)
        case fa30 | ra30 => kernel_rfl
        case ya30 => exact Or.inr ⟨by rfl, rfl⟩
        case Qa30 => exact fun _ _ _ h => h
        (try simp only [Act.put, pk0, pk1, pk2])
        refine wpAnyH_take (i := 31) (oi := ?_) (v := undef) ?ia31 (by kernel_rfl) ?fa31 ?ra31 ?Qa31 ?ya31 (by assumption) ?ta31
        case ia31 => (simp only [lk0, lk1, lk2]; rfl)
        case fa31 | ra31 => kernel_rfl
        case ya31 => exact Or.inr ⟨by rfl, rfl⟩
        case Qa31 => exact fun _ _ _ h => h
        (try simp only [Act.put, pk0, pk1, pk2])
        refine wpAnyH_take (i := 32) (oi := ?_) (v := undef) ?ia32 (by kernel_rfl) ?fa32 ?ra32 ?Qa32 ?ya32 (by assumption) ?ta32
        case ia32 => (simp only [lk0, lk1, lk2]; rfl)
        case fa32 | ra32 => kernel_rfl
        case ya32 => exact Or.inr ⟨by rfl, rfl⟩
        case Qa32 => exact fun _ _ _ h => h
        (try simp only [Act.put, pk0, pk1, pk2])
        refine wpAnyH_take (i := 33) (oi := ?_) (v := undef) ?ia33 (by kernel_rfl) ?fa33 ?ra33 ?Qa33 ?ya33 (by assumption) ?ta33
        case ia33 => (simp only [lk0, lk1, lk2]; rfl)
        case fa33 | ra33 => kernel_rfl
        case ya33 => exact Or.inr ⟨by rfl, rfl⟩
        case Qa33 => exact fun _ _ _ h => h
        (try simp only [Act.put, pk0, pk1, pk2])
        refine wpAnyH_take (i := 34) (oi := ?_) (v := undef) ?ia34 (by kernel_rfl) ?fa34 ?ra34 ?Qa34 ?ya34 (by assumption) ?ta34
        case ia34 => (simp only [lk0, lk1, lk2]; rfl)
        case fa34 | ra34 => kernel_rfl
        case ya34 => exact Or.inr ⟨by rfl, rfl⟩
        case Qa34 => exact fun _ _ _ h => h
        (try simp only [Act.put, pk0, pk1, pk2])
        refine wpAnyH_take (i := 35) (oi := ?_) (v := undef) ?ia35 (by kernel_rfl) ?fa35 ?ra35 ?Qa35 ?ya35 (by assumption) ?ta35
        case ia35 => (simp only [lk0, lk1, lk2]; rfl)
        case fa35 | ra35 => kernel_rfl
        case ya35 => exact Or.inr ⟨by rfl, rfl⟩
        case Qa35 => exact fun _ _ _ h => h
        (try simp only [Act.put, pk0, pk1, pk2])
        refine wpAnyH_take (i := 36) (oi := ?_) (v := undef) ?ia36 (by kernel_rfl) ?fa36 ?ra36 ?Qa36 ?ya36 (by assumption) ?ta36
        case ia36 => (simp only [lk0, lk1, lk2]; rfl)
        case fa36 | ra36 => kernel_rfl
        case ya36 => exact Or.inr ⟨by rfl, rfl⟩
        case Qa36 => exact fun _ _ _ h => h
        (try simp only [Act.put, pk0, pk1, pk2])
        refine zt [37, 38] ?_
        iterate 2 (refine zt1 (fun _ _ d _ _ h => by cases d <;> exact h) (by simp only [lk0, lk1, lk2]; rfl) (by kernel_rfl) (by assumption) (by rfl) (fun w h => by (try dsimp only at h); go_simp; (try with_reducible rfl)) ?_; (try simp only [Act.put, pk0, pk1, pk2]))
        refine zt0 ?_
        refine wpAnyH_done (by kernel_rfl) ?_ _
        have HG := Lib.hid (show P0 w w.heap.size b off l c wr.heap.size g o d SS q9 d9 I F Z q m d2 w4 from he4)
        have hz4 := he4.2.2.2.2.2.2.2.2.2.2.1.size
        clear he4 HE
        obtain ⟨y0, y1, y2, y3, y4, y5, y6, y7, y8, y9, y10, y11, y12, y13, y14, y15, y16⟩ := HG.out
        clear y1 y2 y3 y5 y6 y7 y8 y9 y10 y11
        go_wp2_with fail
        go_at_call 72; refine (refFinite_any _ _ _ _ _ _ _ _).mono ?_; rintro e w5 ⟨rfl, hb5⟩
        rw [HFI.out]
        have HG5 := Lib.hid (p0_step HG.out hb5)
        clear hb5 y0 y4 y12 y13 y14 y15 y16 HG
        obtain ⟨y0, y1, y2, y3, y4, y5, y6, y7, y8, y9, y10, y11, y12, y13, y14, y15, y16⟩ := HG5.out
        clear y1 y2 y3 y5 y6 y7 y8 y9 y10 y11
        go_wp2_with fail
        go_at_call 76; refine (signbit_any _ HFL.out _).mono ?_; rintro e w6 ⟨rfl, rfl⟩
        rw [HNG.out]
        clear y0 y4 y12 y13 y14 y15 y16
        go_wp2
        go_roundw
        case rel => exact ⟨0 + 1, by omega, by go_num, HG5.out.2.2.2.2.2.2.2.2.2.2.1, HG5.out.2.2.2.2.2.2.2.2.2.2.2.1⟩
        case measure => simp [intOf]; omega
      · obtain ⟨k, rfl⟩ : ∃ k, i = k + 1 := ⟨i - 1, by omega⟩
        obtain ⟨u0, u1, u2, u3, u4, d0, d1, d2', d3, d4, hrp⟩ := hit k (by rw [List.length_map]; omega)
        rw [List.getElem_map] at hrp
        obtain ⟨⟨S2, V2⟩, hsv2⟩ : ∃ e, e = ES[k]'(by omega) := ⟨_, rfl⟩
        rw [← hsv2] at hrp
        have hrp' : Rep w (n + 2) (.agg #[u0, u1, u2, u3, u4]) (pairT n S2 V2) := hrp
        have hs2 : (ES.map (·.1))[k]'(by rw [List.length_map]; omega) = S2 := by rw [List.getElem_map, ← hsv2]
        have HLT := Lib.hid (show ltB S2 SS = true by rw [← hs1, ← hs2]; exact HNMS.out.2 k (k + 1) _ _ (by omega))
        obtain ⟨g', o', d', hvv, n3⟩ := pair_nm hrp'
        injection hvv with hvv
        simp only [Array.mk.injEq, List.cons.injEq, and_true] at hvv
        obtain ⟨rfl, rfl, rfl, rfl, rfl⟩ := hvv
        have HE := Lib.hid (show P1 k g' o' d' S2 w w.heap.size b off l c wr.heap.size g o d SS q9 d9 I F Z q m d2 (wr.alloc (.cells #[.int .i64 4, .int .i64 0, .float .f64 0, .string ⟨#[]⟩, .slice (some ⟨g, o, none⟩) 2 d] 27)) from ⟨hcc d4, hcc n3, hP0⟩)
        have hx0 : Op.bytesLess S2.toList SS.toList = true := HLT.out
        have hk0 : (0 : Int) < ((k + 1 : Nat) : Int) := Int.natCast_pos.2 (Nat.succ_pos k)
        have hk1 : (k : Int) < (l : Int) := Int.ofNat_lt.2 (Nat.lt_of_succ_lt hlt)
        have hk2 : (0 : Int) ≤ (k : Int) := Int.natCast_nonneg k
        have hw1 : IntKind.i64.wrap (k : Int) = (k : Int) := by rw [IntKind.wrap_i64]; omega
        have hw2 : wrap64 (k : Int) = (k : Int) := by unfold wrap64; omega
        have dlt := cell_lt (hcc d0)
        clear c0 c1 c2 c3 c4 hit hre hre' hP0 hAL d0 d1 d2' d3 d4 hrp hrp' hcc n3
        go_upto_region 7 with fail
        clear e0 e1 e2 e3 e4
        refine wp_region_held_drew (S := (fun z => z.cell? ⟨b, off + k * 5 + 4, none⟩ = some (.slice (some ⟨g', o', none⟩) 2 d') ∧ z.cell? ⟨g', o' + 3, none⟩ = some (.string S2) ∧ z.cell? ⟨wr.heap.size, 0, none⟩ = some (.int .i64 4) ∧ z.cell? ⟨wr.heap.size, 1, none⟩ = some (.int .i64 0) ∧ z.cell? ⟨wr.heap.size, 2, none⟩ = some (.float .f64 0) ∧ z.cell? ⟨wr.heap.size, 3, none⟩ = some (.string ⟨#[]⟩) ∧ z.cell? ⟨wr.heap.size, 4, none⟩ = some (.slice (some ⟨g, o, none⟩) 2 d) ∧ z.cell? ⟨g, o, none⟩ = some (.int .i64 3) ∧ z.cell? ⟨g, o + 1, none⟩ = some (.int .i64 0) ∧ z.cell? ⟨g, o + 2, none⟩ = some (.float .f64 0) ∧ z.cell? ⟨g, o + 3, none⟩ = some (.string SS) ∧ z.cell? ⟨g, o + 4, none⟩ = some (.slice q9 0 d9) ∧ Below w.heap.size w z ∧ z.cell? ⟨w.heap.size, 4, none⟩ = some (.slice (some ⟨b, off, none⟩) l c) ∧ z.cell? ⟨g, o + 5, none⟩ = some (.int .i64 2) ∧ z.cell? ⟨g, o + 5 + 1, none⟩ = some (.int .i64 I) ∧ z.cell? ⟨g, o + 5 + 2, none⟩ = some (.float .f64 F) ∧ z.cell? ⟨g, o + 5 + 3, none⟩ = some (.string Z) ∧ z.cell? ⟨g, o + 5 + 4, none⟩ = some (.slice q m d2))) (by kernel_rfl) ?_ (fun hH => ?_)
        · exact p1_step HE.out (Below.drew br)
        refine zt [0, 1, 2, 3, 4, 5, 6, 7, 8, 9, 10, 11, 12, 13] ?_
        iterate 14 (refine zt1 (fun _ _ d _ _ h => by cases d <;> exact h) (by simp only [lk0, lk1, lk2]; rfl) (by kernel_rfl) (by assumption) (by rfl) (fun w h => by (try dsimp only at h); go_simp; (try with_reducible rfl)) ?_; (try simp only [Act.put, pk0, pk1, pk2]))
        refine zt0 ?_
        refine zr1 14 (by kernel_rfl) (by simp only [lk0, lk1, lk2]; rfl) (fun K hK => ?_)
        go_simp
        go_at_call 75; refine (named_yes HNM.out _ _ _ _ _ _).mono ?_; rintro e w4 ⟨rfl, hb4⟩; have he4 := p1_step (show P1 k g' o' d' S2 w w.heap.size b off l c wr.heap.size g o d SS q9 d9 I F Z q m d2 _ from hH) hb4; clear hb4
        go_wp2_with fail
        refine hK.out _ _ ?hsb14 (fun hH => ?_)
        case hsb14 => exact he4
        clear hK K
        (try simp only [Act.put, pk0, pk1, pk2])
        refine zt [15, 16, 17, 18, 19, 20, 21, 22, 23, 24, 25, 26, 27, 28, 29, 30, 31, 32, 33, 34, 35, 36, 37, 38] ?_
        iterate 24 (refine zt1 (fun _ _ d _ _ h => by cases d <;> exact h) (by simp only [lk0, lk1, lk2]; rfl) (by kernel_rfl) (by assumption) (by rfl) (fun w h => by (try dsimp only at h); go_simp; (try with_reducible rfl)) ?_; (try simp only [Act.put, pk0, pk1, pk2]))
        refine zt0 ?_
        refine wpAnyH_done (by kernel_rfl) ?_ _
        have HG := Lib.hid (show P0 w w.heap.size b off l c wr.heap.size g o d SS q9 d9 I F Z q m d2 w4 from he4.2.2)
        have hz4 := he4.2.2.2.2.2.2.2.2.2.2.2.2.1.size
        clear he4 HE
        obtain ⟨y0, y1, y2, y3, y4, y5, y6, y7, y8, y9, y10, y11, y12, y13, y14, y15, y16⟩ := HG.out
        clear y1 y2 y3 y5 y6 y7 y8 y9 y10 y11
        go_wp2_with fail
        go_at_call 72; refine (refFinite_any _ _ _ _ _ _ _ _).mono ?_; rintro e w5 ⟨rfl, hb5⟩
        rw [HFI.out]
        have HG5 := Lib.hid (p0_step HG.out hb5)
        clear hb5 y0 y4 y12 y13 y14 y15 y16 HG
        obtain ⟨y0, y1, y2, y3, y4, y5, y6, y7, y8, y9, y10, y11, y12, y13, y14, y15, y16⟩ := HG5.out
        clear y1 y2 y3 y5 y6 y7 y8 y9 y10 y11
        go_wp2_with fail
        go_at_call 76; refine (signbit_any _ HFL.out _).mono ?_; rintro e w6 ⟨rfl, rfl⟩
        rw [HNG.out]
        clear y0 y4 y12 y13 y14 y15 y16
        go_wp2
        go_roundw
        case rel => exact ⟨k + 1 + 1, by omega, by go_num, HG5.out.2.2.2.2.2.2.2.2.2.2.1, HG5.out.2.2.2.2.2.2.2.2.2.2.2.1⟩
        case measure => simp [intOf]; omega
    · obtain rfl : i = l := by omega
      go_wp2
      go_ret
      exact ⟨rfl, hB⟩
end Num
end Go.Proofs.YtpbfaffheigjcaaGreat
/-
  Ledgers of few accounts are right for the reference.
-/
namespace Go.Proofs.YtpbfaffheigjcaaGreat
open Go.RowKit
namespace Num
open Ints
set_option linter.unusedSimpArgs false
set_option linter.unusedVariables false
theorem acc_one {s : ByteArray} {V : VT 1} (hs : nmV 3 s = true) (hV : AccV V) : kindsT 2 (pairT 0 s V) = true ∧ greatT 2 1 (pairT 0 s V) = false ∧ 0 ≤ sizeT 2 (pairT 0 s V) ∧ sizeT 2 (pairT 0 s V) ≤ 46 := by
  unfold nmV at hs
  rw [Bool.and_eq_true, Bool.and_eq_true, decide_eq_true_iff, decide_eq_true_iff, decide_eq_true_iff] at hs
  obtain ⟨_, h1, h2⟩ := hs
  obtain ⟨K, I, F, S, L⟩ := V
  obtain ⟨hk, _⟩ := hV
  obtain rfl : K = 2 := hk
  have g1 : greatT 1 2 ((3, 0, 0, s, []) : VT 1) = false := by rw [greatT_eq]; simp; omega
  have g2 : greatT 1 2 ((2, I, F, S, L) : VT 1) = false := by rw [greatT_eq]; simp
  have k1 : kindsT 1 ((3, 0, 0, s, []) : VT 1) = true := by rw [kindsT_eq]; simp
  have k2 : kindsT 1 ((2, I, F, S, L) : VT 1) = true := by rw [kindsT_eq]; simp
  have s1 : sizeT 1 ((3, 0, 0, s, []) : VT 1) = 3 + (s.size : Int) := by rw [sizeT_text rfl rfl]; unfold wrap64; omega
  have s2 : sizeT 1 ((2, I, F, S, L) : VT 1) = 9 := sizeT_num rfl
  have ht : sizeT 2 (pairT 0 s ((2, I, F, S, L) : VT 1)) = 14 + (s.size : Int) := by
    unfold pairT
    rw [sizeT_list rfl rfl rfl, List.foldl_cons, List.foldl_cons, List.foldl_nil, s1, s2]
    unfold wrap64; omega
  refine ⟨?_, ?_, by rw [ht]; omega, by rw [ht]; omega⟩
  · unfold pairT
    rw [kindsT_eq]
    show (if (decide ((4 : Int) < 0) || decide ((4 : Int) < 4)) = true then false else if ((4 : Int) == 4) = true then (kindsT 1 ((3, 0, 0, s, []) : VT 1) && (kindsT 1 ((2, I, F, S, L) : VT 1) && true)) else true) = true
    rw [k1, k2]; rfl
  · unfold pairT
    rw [greatT_eq]
    show (if ((4 : Int) == 3) = true then _ else if ((4 : Int) == 4) = true then (decide (8 ≤ 1) || decide (64 < ((2 : Nat) : Int)) || (greatT 1 2 ((3, 0, 0, s, []) : VT 1) || (greatT 1 2 ((2, I, F, S, L) : VT 1) || false))) else false) = false
    rw [g1, g2]; rfl
theorem fold_size : ∀ (L : List (VT 2)), (∀ x ∈ L, 0 ≤ sizeT 2 x ∧ sizeT 2 x ≤ 46) → ∀ a : Int, 0 ≤ a → a + 46 * L.length ≤ 4096 → 0 ≤ L.foldl (fun a x => wrap64 (a + sizeT 2 x)) a ∧ L.foldl (fun a x => wrap64 (a + sizeT 2 x)) a ≤ 4096
  | [], _, a, h0, h1 => ⟨h0, by simp at h1; exact h1⟩
  | x :: r, h, a, h0, h1 => by
    obtain ⟨x0, x1⟩ := h x List.mem_cons_self
    rw [List.length_cons] at h1
    have e : wrap64 (a + sizeT 2 x) = a + sizeT 2 x := by unfold wrap64; omega
    rw [List.foldl_cons, e]
    exact fold_size r (fun y hy => h y (List.mem_cons_of_mem _ hy)) _ (by omega) (by omega)
theorem led_small {ES : List (ByteArray × VT 1)} (hn : Names (ES.map (·.1))) (hl : ES.length ≤ 32) (hv : ∀ e ∈ ES, AccV e.2) : RokLed 0 ES := by
  have hm : ∀ x ∈ ES.map (pairE 0), kindsT 2 x = true ∧ greatT 2 1 x = false ∧ 0 ≤ sizeT 2 x ∧ sizeT 2 x ≤ 46 := by
    intro x hx
    obtain ⟨e, he, rfl⟩ := List.mem_map.1 hx
    exact acc_one (hn.1 e.1 (List.mem_map.2 ⟨e, he, rfl⟩)) (hv e he)
  refine ⟨hn, hl, ?_, hv⟩
  have hk : kindsT 3 (tableT 0 ES) = true := by
    unfold tableT
    rw [kindsT_eq]
    have : (ES.map (pairE 0)).all (kindsT 2) = true := List.all_eq_true.2 fun x hx => (hm x hx).1
    show (if (decide ((4 : Int) < 0) || decide ((4 : Int) < 4)) = true then false else if ((4 : Int) == 4) = true then (ES.map (pairE 0)).all (kindsT 2) else true) = true
    rw [this]; rfl
  have hg : greatT 3 0 (tableT 0 ES) = false := by
    unfold tableT
    rw [greatT_eq]
    have h1 : (ES.map (pairE 0)).any (greatT 2 1) = false := List.any_eq_false.2 fun x hx => by rw [(hm x hx).2.1]; simp
    have h2 : decide (64 < ((ES.map (pairE 0)).length : Int)) = false := by rw [List.length_map, decide_eq_false_iff_not]; omega
    show (if ((4 : Int) == 3) = true then _ else if ((4 : Int) == 4) = true then (decide (8 ≤ 0) || decide (64 < ((ES.map (pairE 0)).length : Int)) || (ES.map (pairE 0)).any (greatT 2 1)) else false) = false
    rw [h1, h2]; rfl
  have hs : sizeT 3 (tableT 0 ES) ≤ 4096 := by
    unfold tableT
    rw [sizeT_list rfl rfl rfl]
    exact (fold_size (ES.map (pairE 0)) (fun x hx => (hm x hx).2.2) 2 (by decide) (by rw [List.length_map]; omega)).2
  unfold rcheckT
  rw [hk, hg, decide_eq_false (show ¬ 4096 < sizeT 3 (tableT 0 ES) by omega)]
  rfl
end Num
end Go.Proofs.YtpbfaffheigjcaaGreat
/-
  The reference: a list without an item.
-/
namespace Go.Proofs.YtpbfaffheigjcaaGreat
open Go.RowKit
namespace Num
open Ints
set_option linter.unusedSimpArgs false
set_option linter.unusedVariables false
def PW (p : Option Addr) (l c : Nat) (w z : World) : Prop := z.cell? ⟨w.heap.size, 4, none⟩ = some (.slice p l c) ∧ Below w.heap.size w z ∧ CS z (w.heap.size + 1) (.int .i64 0) (.int .i64 0) (.float .f64 0) (.string ⟨#[]⟩) (.slice none 0 0) ∧ ∀ o, z.frozen? ⟨w.heap.size + 1, o, none⟩ = false
theorem pw_step {p : Option Addr} {l c : Nat} {w x y : World} (h : PW p l c w x) (hb : Below x.heap.size x y) : PW p l c w y := ⟨ck hb h.1, bel_step h.2.1 hb, cs_step h.2.2.1 hb, fun o => (hb.frozen (p := ⟨w.heap.size + 1, o, none⟩) (show w.heap.size + 1 < x.heap.size from cs_lt h.2.2.1)).trans (h.2.2.2 o)⟩
set_option maxRecDepth 100000 in
set_option maxHeartbeats 4000000 in
theorem without_any {α : Type} {R : Value → α → Prop} (hR : One5 R) (p : Option Addr) (l c i : Nat) (L : List α) (w : World) (hL : RepL w R p l c L) (hi : i < l) (hl : l ≤ 1000) :
    Calls Tryz.prog 70 #[.agg #[.int .i64 4, .int .i64 0, .float .f64 0, .string ⟨#[]⟩, .slice p l c], .int .i64 i] w fun e w' => ∃ p2 c2, e = .returned (.agg #[.int .i64 4, .int .i64 0, .float .f64 0, .string ⟨#[]⟩, .slice p2 (i + (l - (i + 1))) c2]) ∧ Below w.heap.size w w' ∧ ∀ y, Stay w.heap.size w' y → RepL y R p2 (i + (l - (i + 1))) c2 (L.take i ++ L.drop (i + 1)) := by
  have hlc : l ≤ c := hL.2.1
  have hcc : c ≤ 9223372036854775807 := by have := hL.2.2.1; unfold maxLen at this; omega
  have HL := Lib.hid hL
  obtain ⟨b, off, rfl, _⟩ := hL.2.2.2 (by omega)
  obtain ⟨q9, hq9⟩ : ∃ q, (if c = i + 1 then some (⟨b, off, none⟩ : Addr) else some ⟨b, off + (i + 1) * 5, none⟩) = q := ⟨_, rfl⟩
  have hdr : RepL w R q9 (l - (i + 1)) (c - (i + 1)) (L.drop (i + 1)) := by
    have h := repL_sub hL (i + 1) l (by omega) (Nat.le_refl _)
    rw [List.take_of_length_le (by rw [List.length_drop, hL.1]; exact Nat.le_refl _)] at h
    rw [← hq9]
    exact h
  have hB := bel_alloc (bel_alloc (Below.refl w.heap.size w) (.cells #[.int .i64 4, .int .i64 0, .float .f64 0, .string ⟨#[]⟩, .slice (some ⟨b, off, none⟩) l c] 27)) (.cells #[.int .i64 0, .int .i64 0, .float .f64 0, .string ⟨#[]⟩, .slice none 0 0] 27)
  have HP0 := Lib.hid (show PW (some ⟨b, off, none⟩) l c w ((w.alloc (.cells #[.int .i64 4, .int .i64 0, .float .f64 0, .string ⟨#[]⟩, .slice (some ⟨b, off, none⟩) l c] 27)).alloc (.cells #[.int .i64 0, .int .i64 0, .float .f64 0, .string ⟨#[]⟩, .slice none 0 0] 27)) from ⟨rc (row_alloc_step (row_alloc w #[.int .i64 4, .int .i64 0, .float .f64 0, .string ⟨#[]⟩, .slice (some ⟨b, off, none⟩) l c] 27) _) 4, hB, (by have h := cs_new (x := w.alloc (.cells #[.int .i64 4, .int .i64 0, .float .f64 0, .string ⟨#[]⟩, .slice (some ⟨b, off, none⟩) l c] 27)) (v0 := .int .i64 0) (v1 := .int .i64 0) (v2 := .float .f64 0) (v3 := .string ⟨#[]⟩) (v4 := .slice none 0 0) (t := 27) rfl; rw [World.size_alloc] at h; exact h), fun o => by have h := row_alloc (w.alloc (.cells #[.int .i64 4, .int .i64 0, .float .f64 0, .string ⟨#[]⟩, .slice (some ⟨b, off, none⟩) l c] 27)) #[.int .i64 0, .int .i64 0, .float .f64 0, .string ⟨#[]⟩, .slice none 0 0] 27; rw [World.size_alloc] at h; exact row_frz h o⟩)
  have HDR0 := Lib.hid (repL_at hB hdr)
  have hza : (((w.alloc (.cells #[.int .i64 4, .int .i64 0, .float .f64 0, .string ⟨#[]⟩, .slice (some ⟨b, off, none⟩) l c] 27)).alloc (.cells #[.int .i64 0, .int .i64 0, .float .f64 0, .string ⟨#[]⟩, .slice none 0 0] 27))).heap.size = w.heap.size + 1 + 1 := by simp only [World.size_alloc]
  have hi0 : (0 : Int) ≤ (i : Int) := by omega
  have hic : (i : Int) ≤ (c : Int) := by omega
  have hi1 : (i : Int) + 1 ≤ (l : Int) := by omega
  have hi2 : (0 : Int) ≤ (i : Int) + 1 := by omega
  have hwi : IntKind.i64.wrap ((i : Int) + 1) = (i : Int) + 1 := by rw [IntKind.wrap_i64]; omega
  have htn : ((i : Int) + 1).toNat = i + 1 := by omega
  clear hL hdr hB
  go_enter Tryz.func70, Tryz.ntmps70
  go_upto_region 1 with fail
  revert HP0 HDR0 hza
  generalize ((w.alloc (.cells #[.int .i64 4, .int .i64 0, .float .f64 0, .string ⟨#[]⟩, .slice (some ⟨b, off, none⟩) l c] 27)).alloc (.cells #[.int .i64 0, .int .i64 0, .float .f64 0, .string ⟨#[]⟩, .slice none 0 0] 27)) = Wz
  intro HP0 HDR0 hza
  have l0 : w.heap.size < Wz.heap.size := by omega
  have HDR := Lib.hid (repL_at (Below.drew (Below.refl Wz.heap.size Wz)) HDR0.out)
  refine wp_region_held_drew (S := (fun z => z.cell? ⟨w.heap.size, 4, none⟩ = some (.slice (some ⟨b, off, none⟩) l c))) (by kernel_rfl) ?_ (fun hH => ?_)
  · exact (pw_step HP0.out (Below.drew br)).1
  have HWD := Lib.hid (pw_step HP0.out (Below.drew br))
  have hdz : Wz.drew.heap.size = Wz.heap.size := rfl
  revert HDR HWD hH hdz
  generalize Wz.drew = Wd
  intro HDR hH HWD hdz
  refine zt [0, 1, 2, 3, 5, 6, 7, 8, 9] ?_
  iterate 9 (refine zt1 (fun _ _ d _ _ h => by cases d <;> exact h) (by simp only [lk0, lk1, lk2]; rfl) (by kernel_rfl) (by assumption) (by rfl) (fun w h => by (try dsimp only at h); go_simp; (try with_reducible rfl)) ?_; (try simp only [Act.put, pk0, pk1, pk2]))
  refine zt0 ?_
  have HO := Lib.hid (ow_none Wd Wd R br (Nat.le_refl _))
  have hrl := repL_at HWD.out.2.1 HL.out
  have HT := Lib.hid (repL_take hrl i (by omega))
  refine zr1 4 (by kernel_rfl) (by simp only [lk0, lk1, lk2]; rfl) (fun K hK => ?_)
  skip
  refine step_ovs rfl (.const (.slice none 0 0)) (.tmp 8) rfl hR Wd Wd none 0 0 [] (some ⟨b, off, none⟩) i c (L.take i) rfl rfl HO.out HT.out (by omega) ?_; intro p1 c1 w1 ho1; rw [Nat.zero_add, List.nil_append] at ho1; have hq1 := pw_step HWD.out (ow_rep ho1).2; have HO1 := Lib.hid ho1; have HD1 := Lib.hid (repL_at (ow_rep ho1).2 HDR.out); clear ho1
  go_wp2_with fail
  refine hK.out _ _ ?hst4 (fun hH => ?_)
  case hst4 => exact hq1.1
  clear hK K
  (try simp only [Act.put, pk0, pk1, pk2])
  refine zr1 10 (by kernel_rfl) (by simp only [lk0, lk1, lk2]; rfl) (fun K hK => ?_)
  skip
  refine step_ovs rfl (.tmp 9) (.tmp 14) rfl hR Wd _ p1 i c1 (L.take i) q9 (l - (i + 1)) (c - (i + 1)) (L.drop (i + 1)) rfl rfl HO1.out HD1.out (by omega) ?_; intro p2 c2 w2 ho2; have hq2 := pw_step HWD.out (ow_rep ho2).2; have HY := Lib.hid (ow_rep ho2).1; have HZ := Lib.hid (ow_rep ho2).2.size; clear ho2 hq1
  go_wp2_with fail
  refine hK.out _ _ ?hst10 (fun hH => ?_)
  case hst10 => exact hq2.1
  clear hK K
  (try simp only [Act.put, pk0, pk1, pk2])
  refine zt [11] ?_
  refine zt1 (fun _ _ d _ _ h => by cases d <;> exact h) (by simp only [lk0, lk1, lk2]; rfl) (by kernel_rfl) (by assumption) (by rfl) (fun w h => by (try dsimp only at h); go_simp; (try with_reducible rfl)) ?_; (try simp only [Act.put, pk0, pk1, pk2])
  refine zt0 ?_
  refine zr1 12 (by kernel_rfl) (by simp only [lk0, lk1, lk2]; rfl) (fun K hK => ?_)
  have s0 := hq2.2.2.1.1; have s1 := hq2.2.2.1.2.1; have s2 := hq2.2.2.1.2.2.1; have s3 := hq2.2.2.1.2.2.2.1; have s4 := hq2.2.2.1.2.2.2.2; have sf := hq2.2.2.2; have sl := cell_lt s0; go_simp
  have hoth : ∀ g, g ≠ w.heap.size + 1 → (((((w2.setCell ⟨w.heap.size + 1, 0, none⟩ (.int .i64 4)).setCell ⟨w.heap.size + 1, 1, none⟩ (.int .i64 0)).setCell ⟨w.heap.size + 1, 2, none⟩ (.float .f64 0)).setCell ⟨w.heap.size + 1, 3, none⟩ (.string ⟨#[]⟩)).setCell ⟨w.heap.size + 1, 4, none⟩ (.slice p2 (i + (l - (i + 1))) c2)).heap[g]? = w2.heap[g]? := fun g hg => set5_other (g := w.heap.size + 1) (o := 0) hg
  go_wp2_with fail
  refine hK.out _ _ ?hst12 (fun hH => ?_)
  case hst12 => exact (World.cell?_of_block (w := w2) (a := ⟨w.heap.size, 4, none⟩) (hoth w.heap.size (by omega))).trans hq2.1
  clear hK K
  (try simp only [Act.put, pk0, pk1, pk2])
  refine wpAnyH_done (by kernel_rfl) ?_ _
  go_wp2
  refine bodyPost_ret (v := .agg #[.int .i64 4, .int .i64 0, .float .f64 0, .string ⟨#[]⟩, .slice p2 (i + (l - (i + 1))) c2]) (by simp [results, Tryz.results70, go_sem, World.cell?_setCell_same, World.cell?_setCell_other, s0, s1, s2, s3, s4]) rfl ⟨p2, c2, rfl, set5_below (g := w.heap.size + 1) (o := 0) hq2.2.1 (by omega) _ _ _ _ _, fun y hst => HY.out y (fun b h1 h2 => (hst b (by omega) (show b < (set5 w2 (w.heap.size + 1) 0 (.int .i64 4) (.int .i64 0) (.float .f64 0) (.string ⟨#[]⟩) (.slice p2 (i + (l - (i + 1))) c2)).heap.size by rw [set5_size]; exact h2)).trans (hoth b (by omega)))⟩
end Num
end Go.Proofs.YtpbfaffheigjcaaGreat
/-
  Regions walked by their states; a list's box that a law goes on with.
-/
namespace Go.Proofs.YtpbfaffheigjcaaGreat
open Go.RowKit
namespace Num
open Ints
set_option linter.unusedSimpArgs false
set_option linter.unusedVariables false
theorem repS_step {S : Nat → Prop} {W W' : World} {n : Nat} {v : Value} {T : VT n} (hb : Below W.heap.size W W') (h : RepS S W n v T) : RepS S W' n v T := repS_mono (S := fun b => S b ∧ b < W.heap.size) (fun b h => h.1) _ _ _ (repS_keep (fun b hb' => hb.block b hb'.2) _ _ _ (repS_lt _ _ _ h))
theorem repS_set {S : Nat → Prop} {W : World} {n g : Nat} {v : Value} {T : VT n} {u0 u1 u2 u3 u4 : Value} (h : RepS S W n v T) (hg : ∀ b, S b → b ≠ g) : RepS S (set5 W g 0 u0 u1 u2 u3 u4) n v T := repS_keep (fun b hb => set5_other (hg b hb)) _ _ _ h
def setL : Array Bool → List Nat → Array Bool
  | l, [] => l
  | l, i :: r => setL (l.setIfInBounds i true) r
theorem any_have {P : Program} {md : Region.Mode} {ops : Array Oper} {Q : Exit → Act → World → Prop} {S : World → Prop} {fuel : Nat} {listed : Array Bool} {a : Act} {w : World} (fuel' : Nat) (is : List Nat) (K : Act → Act → World → Prop)
    (h1 : ∀ a' w', K a a' w' → S w' → wpAnyH P md ops Q S fuel' (setL listed is) a' w') (h2 : (∀ a' w', K a a' w' → S w' → wpAnyH P md ops Q S fuel' (setL listed is) a' w') → wpAnyH P md ops Q S fuel listed a w) : wpAnyH P md ops Q S fuel listed a w := h2 h1
theorem any_eq {P : Program} {md : Region.Mode} {ops : Array Oper} {Q : Exit → Act → World → Prop} {S : World → Prop} {fuel : Nat} {listed listed' : Array Bool} {a a' : Act} {w : World} (hl : listed' = listed) (ha : a' = a) (h : wpAnyH P md ops Q S fuel listed' a' w) : wpAnyH P md ops Q S fuel listed a w := by
  subst hl ha
  exact h
def FB (w : World) (sb : Nat) (qs : Option Addr) (ms ds : Nat) (z : World) : Prop := CS z sb (.int .i64 4) (.int .i64 0) (.float .f64 0) (.string ⟨#[]⟩) (.slice qs ms ds) ∧ Below w.heap.size w z ∧ ∀ o, z.frozen? ⟨sb, o, none⟩ = false
theorem fb_step {w x y : World} {sb : Nat} {qs : Option Addr} {ms ds : Nat} (h : FB w sb qs ms ds x) (hb : Below x.heap.size x y) : FB w sb qs ms ds y := ⟨cs_step h.1 hb, bel_step h.2.1 hb, fun o => (hb.frozen (p := ⟨sb, o, none⟩) (show sb < _ from cs_lt h.1)).trans (h.2.2 o)⟩
theorem fb_drew {w x : World} {sb : Nat} {qs : Option Addr} {ms ds : Nat} (h : FB w sb qs ms ds x) : FB w sb qs ms ds x.drew := fb_step h (Below.drew br)
theorem fb_set {w x : World} {sb g : Nat} {qs : Option Addr} {ms ds : Nat} {u0 u1 u2 u3 u4 : Value} (h : FB w sb qs ms ds x) (h1 : sb ≠ g) (h2 : w.heap.size ≤ g) : FB w sb qs ms ds (set5 x g 0 u0 u1 u2 u3 u4) := ⟨cs_other h.1 h1, set5_below h.2.1 h2 _ _ _ _ _, fun o => by unfold set5; simp only [World.frozen?_setCell]; exact h.2.2 o⟩
end Num
end Go.Proofs.YtpbfaffheigjcaaGreat
/-
  The reference's Right of a ledger.
-/
namespace Go.Proofs.YtpbfaffheigjcaaGreat
open Go.RowKit
namespace Num
open Ints
set_option linter.unusedSimpArgs false
set_option linter.unusedVariables false
theorem rright_led (n : Nat) (v : Value) (ES : List (ByteArray × VT (n + 1))) (w : World) (hr : Rep w (n + 3) v (tableT n ES)) (hok : RokLed n ES) : Calls Tryz.prog 17 #[.string ⟨#[108, 101, 100, 103, 101, 114]⟩, v] w fun e w' => e = .returned (.bool true) ∧ Below w.heap.size w w' := by
  have HO := Lib.hid hok
  obtain ⟨p, l, c, rfl, _⟩ := led_mem hr
  have hB := bel_alloc (Below.refl w.heap.size w) (.cells #[.int .i64 4, .int .i64 0, .float .f64 0, .string ⟨#[]⟩, .slice p l c] 27)
  have HB := Lib.hid hB
  have HR := Lib.hid (rep_keep hB _ _ _ hr)
  clear hr hok hB
  go_enter Tryz.func17, Tryz.ntmps17
  go_wp2_with fail
  go_at_call 43; refine (pairs_led n _ ES _ HR.out HO.out).mono ?_; rintro e w1 ⟨rfl, hb1⟩
  have HB1 := Lib.hid (bel_step HB.out hb1)
  clear hb1
  go_wp2
  go_ret
  exact ⟨rfl, HB1.out⟩
end Num
end Go.Proofs.YtpbfaffheigjcaaGreat
/-
  The reference: what a method takes: names, numbers.
-/
namespace Go.Proofs.YtpbfaffheigjcaaGreat
open Go.RowKit
namespace Num
open Ints
set_option linter.unusedSimpArgs false
set_option linter.unusedVariables false
theorem rnumber_any (K I : Int) (F : Nat) (S : ByteArray) (p : Option Addr) (l c : Nat) (w : World) : Calls Tryz.prog 101 #[.agg #[.int .i64 K, .int .i64 I, .float .f64 F, .string S, .slice p l c]] w fun e w' => e = .returned (.bool (isNum K)) ∧ Below w.heap.size w w' := by
  cases h1 : (K == 1)
  · cases h2 : (K == 2)
    · have H := Lib.hid (show Ending.returned (.bool false) = .returned (.bool (isNum K)) by unfold isNum; rw [h1, h2]; rfl)
      go_enter Tryz.func101, Tryz.ntmps101
      go_wp2
      go_ret
      exact ⟨H.out, br.alloc (Nat.le_refl _) _⟩
    · have H := Lib.hid (show Ending.returned (.bool true) = .returned (.bool (isNum K)) by unfold isNum; rw [h1, h2]; rfl)
      go_enter Tryz.func101, Tryz.ntmps101
      go_wp2
      go_ret
      exact ⟨H.out, br.alloc (Nat.le_refl _) _⟩
  · have H := Lib.hid (show Ending.returned (.bool true) = .returned (.bool (isNum K)) by unfold isNum; rw [h1]; rfl)
    go_enter Tryz.func101, Tryz.ntmps101
    go_wp2
    go_ret
    exact ⟨H.out, br.alloc (Nat.le_refl _) _⟩
theorem rtakes_n (K I : Int) (F : Nat) (S : ByteArray) (p : Option Addr) (l c : Nat) (w : World) : Calls Tryz.prog 64 #[.int .u8 110, .agg #[.int .i64 K, .int .i64 I, .float .f64 F, .string S, .slice p l c]] w fun e w' => e = .returned (.bool (nmV K S)) ∧ Below w.heap.size w w' := by
  have HB := Lib.hid (bel_alloc (Below.refl w.heap.size w) (.cells #[.int .i64 K, .int .i64 I, .float .f64 F, .string S, .slice p l c] 27))
  go_enter Tryz.func64, Tryz.ntmps64
  go_wp2_with fail
  go_at_call 75; refine (named_any _ _ _ _ _ _ _ _).mono ?_; rintro e w1 ⟨rfl, hb1⟩
  have HB1 := Lib.hid (bel_step HB.out hb1)
  clear hb1
  go_wp2
  go_ret
  exact ⟨rfl, HB1.out⟩
theorem rtakes_num (K I : Int) (F : Nat) (S : ByteArray) (p : Option Addr) (l c : Nat) (w : World) : Calls Tryz.prog 64 #[.int .u8 35, .agg #[.int .i64 K, .int .i64 I, .float .f64 F, .string S, .slice p l c]] w fun e w' => e = .returned (.bool (isNum K)) ∧ Below w.heap.size w w' := by
  have HB := Lib.hid (bel_alloc (Below.refl w.heap.size w) (.cells #[.int .i64 K, .int .i64 I, .float .f64 F, .string S, .slice p l c] 27))
  go_enter Tryz.func64, Tryz.ntmps64
  go_wp2_with fail
  go_at_call 101; refine (rnumber_any _ _ _ _ _ _ _ _).mono ?_; rintro e w1 ⟨rfl, hb1⟩
  have HB1 := Lib.hid (bel_step HB.out hb1)
  clear hb1
  go_wp2
  go_ret
  exact ⟨rfl, HB1.out⟩
end Num
end Go.Proofs.YtpbfaffheigjcaaGreat
