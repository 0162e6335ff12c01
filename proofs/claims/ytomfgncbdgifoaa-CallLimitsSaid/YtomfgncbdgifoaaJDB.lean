/-
  CallLimits: the walk.
-/
import Derived.Test.YtomfgncbdgifoaaJDA
import Derived.Test.YtomfgncbdgifoaaJCZ
import Derived.RegionTactic
import Derived.Deep.RegionWith
import Derived.Deep.DeepCutAuto
namespace Go.Proofs.Ytomfgncbdgifoaa
open Go.RowKit
namespace Num
open Ints
set_option linter.unusedSimpArgs false
set_option linter.unusedVariables false
theorem tmod_nat (g k : Nat) : ((g : Int).tmod (k : Int)) = ((g % k : Nat) : Int) := by
  rw [Int.tmod_eq_emod_of_nonneg (by omega)]; rfl
/-- The box of the call that is made. -/
def Box (W0 w : World) (ob : Nat) (st1 st2 : ByteArray) (p : Option Addr) (l c : Nat) : Prop := w.heap[ob]? = some (.cells #[.int .u32 0, .int .u32 0, .int .u16 0, .string st1, .string st2, .slice p l c] 29 (0, 0)) ∧ Below W0.heap.size W0 w
def iota (k : Nat) : List Int := (List.range k).map fun i : Nat => (i : Int)
theorem iota_succ (k : Nat) : iota (k + 1) = iota k ++ [(k : Int)] := by unfold iota; rw [List.range_succ, List.map_append]; rfl
theorem iota_ok (k : Nat) (hk : k ≤ 20) : ∀ I ∈ iota k, okI I := fun I hI => by
  obtain ⟨i, hi, rfl⟩ := List.mem_map.1 hI
  have := List.mem_range.1 hi
  unfold okI; omega
theorem iota_len (k : Nat) : (iota k).length = k := by unfold iota; rw [List.length_map, List.length_range]
theorem row_set5 {w : World} {b : Nat} {v0 v1 v2 v3 v4 v5 : Value} {t : TypeId} (h : w.heap[b]? = some (.cells #[v0, v1, v2, v3, v4, v5] t (0, 0))) (v : Value) : (w.setCell ⟨b, 5, none⟩ v).heap[b]? = some (.cells #[v0, v1, v2, v3, v4, v] t (0, 0)) := row_set h v
/-- The bytes of the call that is made. -/
def lOp (M : Nat) (S1 S2 : ByteArray) (k : Nat) : List Int := putB 0 0 0 S1 S2 k ((iota k).map fun I => encV (M + 1) (intT M I))
theorem flat9 (M : Nat) (L : List Int) : (L.map fun I => encV (M + 1) (intT M I)).flatten.length = 9 * L.length := by
  induction L with
  | nil => rfl
  | cons I L ih => rw [List.map_cons, List.flatten_cons, List.length_append, ih, intT_len, List.length_cons]; omega
theorem lOp_len (M : Nat) (S1 S2 : ByteArray) (k : Nat) : (lOp M S1 S2 k).length = 10 + (2 + S1.size) + (2 + S2.size) + 1 + 9 * k := by
  unfold lOp putB
  simp only [List.length_append, idB_len, nmB_len, beI_len, flat9, iota_len]
theorem lOp_by (M : Nat) (S1 S2 : ByteArray) (k : Nat) : By (lOp M S1 S2 k) := putB_by _ _ _ _ _ _ _ (fun Y hY => by
  obtain ⟨I, _, rfl⟩ := List.mem_map.1 hY
  exact enc_by _ _)
theorem lOp_read (M : Nat) (hM : M < 100000) (S1 S2 : ByteArray) (k : Nat) (h1 : S1.size ≤ 32) (h2 : S2.size ≤ 32) (hk : k ≤ 16) : ∃ L, opD M (lOp M S1 S2 k) = some ((0, 0, 0), S1, S2, L, (lOp M S1 S2 k).length) ∧ L.length = k := by
  have h := opD_put M hM 0 0 0 S1 S2 ((iota k).map (intT M)) (by omega) (by omega) (by omega) h1 h2 (by rw [List.length_map, iota_len]; exact hk) (fun T hT => by
    obtain ⟨I, hI, rfl⟩ := List.mem_map.1 hT
    exact intT_ok M I (iota_ok k (by omega) I hI))
  rw [List.length_map, iota_len, List.map_map] at h
  exact ⟨_, h, by rw [List.length_map, List.length_map, iota_len]⟩
set_option maxRecDepth 100000 in
set_option maxHeartbeats 4000000 in
theorem climits_in (M : Nat) (h4 : 4096 ≤ M) (hM : M < 100000) (w : World) (g m n a b c : Nat) (hg : g < 256) (hm : m < 256) (hn : n < 256) (ha : g % 40 = a) (hb : m % 40 = b) (hc : n % 20 = c) :
    Calls Try.prog 7 #[.int .u8 g, .int .u8 m, .int .u8 n] w fun e w' => e = .returned (.bool true) ∧ Below w.heap.size w w' := by
  have hA : (g : Int).tmod 40 = (a : Int) := by rw [show (40 : Int) = ((40 : Nat) : Int) from rfl, tmod_nat, ha]
  have hB : (m : Int).tmod 40 = (b : Int) := by rw [show (40 : Int) = ((40 : Nat) : Int) from rfl, tmod_nat, hb]
  have hC : (n : Int).tmod 20 = (c : Int) := by rw [show (20 : Int) = ((20 : Nat) : Int) from rfl, tmod_nat, hc]
  have ha40 : a < 40 := by omega
  have hb40 : b < 40 := by omega
  have hc20 : c < 20 := by omega
  clear ha hb hc hg hm hn
  obtain ⟨st1, hst1⟩ : ∃ s, nulS a = s := ⟨_, rfl⟩
  obtain ⟨st2, hst2⟩ : ∃ s, nulS b = s := ⟨_, rfl⟩
  have HZ := Lib.hid (show st1.size = a ∧ st2.size = b from ⟨by rw [← hst1]; exact nulS_size a, by rw [← hst2]; exact nulS_size b⟩)
  have HST := Lib.hid (show nulS a = st1 ∧ nulS b = st2 from ⟨hst1, hst2⟩)
  clear hst1 hst2
  go_enter Try.func7, Try.ntmps7
  go_upto_region 3 with (go_at_call 8; refine (known6 M h4 hM _).mono ?_; rintro e w1 ⟨rfl, hb1⟩; have HB1 := Lib.hid hb1; clear hb1)
  go_cut [7] (fun s7 wx => ∃ ob, s7 = .pointer (some ⟨ob, 0, none⟩) ∧ w.heap.size ≤ ob ∧ Box w wx ob st1 st2 none 0 0)
  case first =>
    have hmk1 := mk_bytes a (by omega)
    have hmk2 := mk_bytes b (by omega)
    obtain ⟨hst1, hst2⟩ := HST.out
    have hcv0 : (convert 22 9 (.slice (some ⟨w1.heap.size, 0, none⟩) a a)).run Try.prog (w1.alloc (.cells (zb a) 5)).drew = .ok (.string st1) (w1.alloc (.cells (zb a) 5)).drew := by
      have h := cv_nul (W := (w1.alloc (.cells (zb a) 5)).drew) (b := w1.heap.size) (N := a) (show (w1.alloc (.cells (zb a) 5)).heap[w1.heap.size]? = _ from row_alloc w1 _ _) (by omega)
      rw [h, hst1]
    have hcv1 : (convert 22 9 (.slice (some ⟨w1.heap.size, 0, none⟩) b b)).run Try.prog (w1.alloc (.cells (zb b) 5)).drew = .ok (.string st2) (w1.alloc (.cells (zb b) 5)).drew := by
      have h := cv_nul (W := (w1.alloc (.cells (zb b) 5)).drew) (b := w1.heap.size) (N := b) (show (w1.alloc (.cells (zb b) 5)).heap[w1.heap.size]? = _ from row_alloc w1 _ _) (by omega)
      rw [h, hst2]
    have hcv2 : (convert 22 9 (.slice (some ⟨w1.heap.size, 0, none⟩) a a)).run Try.prog ((w1.alloc (.cells (zb a) 5)).alloc (.cells (zb b) 5)).drew = .ok (.string st1) ((w1.alloc (.cells (zb a) 5)).alloc (.cells (zb b) 5)).drew := by
      have h := cv_nul (W := ((w1.alloc (.cells (zb a) 5)).alloc (.cells (zb b) 5)).drew) (b := w1.heap.size) (N := a) (show ((w1.alloc (.cells (zb a) 5)).alloc (.cells (zb b) 5)).heap[w1.heap.size]? = _ from row_alloc_step (row_alloc w1 _ _) _) (by omega)
      rw [h, hst1]
    have hcv3 : (convert 22 9 (.slice (some ⟨w1.heap.size + 1, 0, none⟩) b b)).run Try.prog ((w1.alloc (.cells (zb a) 5)).alloc (.cells (zb b) 5)).drew = .ok (.string st2) ((w1.alloc (.cells (zb a) 5)).alloc (.cells (zb b) 5)).drew := by
      have h := cv_nul (W := ((w1.alloc (.cells (zb a) 5)).alloc (.cells (zb b) 5)).drew) (b := w1.heap.size + 1) (N := b) (show ((w1.alloc (.cells (zb a) 5)).alloc (.cells (zb b) 5)).heap[w1.heap.size + 1]? = _ from row2_alloc w1 _ _ _) (by omega)
      rw [h, hst2]
    have hcv4 : (convert 22 9 (.slice (some ⟨w1.heap.size, 0, none⟩) a a)).run Try.prog ((w1.alloc (.cells (zb a) 5)).alloc (.cells #[.int .u32 0, .int .u32 0, .int .u16 0, .string ⟨#[]⟩, .string ⟨#[]⟩, .slice none 0 0] 29)).drew = .ok (.string st1) ((w1.alloc (.cells (zb a) 5)).alloc (.cells #[.int .u32 0, .int .u32 0, .int .u16 0, .string ⟨#[]⟩, .string ⟨#[]⟩, .slice none 0 0] 29)).drew := by
      have h := cv_nul (W := ((w1.alloc (.cells (zb a) 5)).alloc (.cells #[.int .u32 0, .int .u32 0, .int .u16 0, .string ⟨#[]⟩, .string ⟨#[]⟩, .slice none 0 0] 29)).drew) (b := w1.heap.size) (N := a) (show ((w1.alloc (.cells (zb a) 5)).alloc (.cells #[.int .u32 0, .int .u32 0, .int .u16 0, .string ⟨#[]⟩, .string ⟨#[]⟩, .slice none 0 0] 29)).heap[w1.heap.size]? = _ from row_alloc_step (row_alloc w1 _ _) _) (by omega)
      rw [h, hst1]
    have hcv5 : (convert 22 9 (.slice (some ⟨w1.heap.size + 1, 0, none⟩) a a)).run Try.prog ((w1.alloc (.cells (zb b) 5)).alloc (.cells (zb a) 5)).drew = .ok (.string st1) ((w1.alloc (.cells (zb b) 5)).alloc (.cells (zb a) 5)).drew := by
      have h := cv_nul (W := ((w1.alloc (.cells (zb b) 5)).alloc (.cells (zb a) 5)).drew) (b := w1.heap.size + 1) (N := a) (show ((w1.alloc (.cells (zb b) 5)).alloc (.cells (zb a) 5)).heap[w1.heap.size + 1]? = _ from row2_alloc w1 _ _ _) (by omega)
      rw [h, hst1]
    have hcv6 : (convert 22 9 (.slice (some ⟨w1.heap.size, 0, none⟩) b b)).run Try.prog ((w1.alloc (.cells (zb b) 5)).alloc (.cells (zb a) 5)).drew = .ok (.string st2) ((w1.alloc (.cells (zb b) 5)).alloc (.cells (zb a) 5)).drew := by
      have h := cv_nul (W := ((w1.alloc (.cells (zb b) 5)).alloc (.cells (zb a) 5)).drew) (b := w1.heap.size) (N := b) (show ((w1.alloc (.cells (zb b) 5)).alloc (.cells (zb a) 5)).heap[w1.heap.size]? = _ from row_alloc_step (row_alloc w1 _ _) _) (by omega)
      rw [h, hst2]
    have hcv7 : (convert 22 9 (.slice (some ⟨w1.heap.size, 0, none⟩) b b)).run Try.prog ((w1.alloc (.cells (zb b) 5)).alloc (.cells #[.int .u32 0, .int .u32 0, .int .u16 0, .string ⟨#[]⟩, .string ⟨#[]⟩, .slice none 0 0] 29)).drew = .ok (.string st2) ((w1.alloc (.cells (zb b) 5)).alloc (.cells #[.int .u32 0, .int .u32 0, .int .u16 0, .string ⟨#[]⟩, .string ⟨#[]⟩, .slice none 0 0] 29)).drew := by
      have h := cv_nul (W := ((w1.alloc (.cells (zb b) 5)).alloc (.cells #[.int .u32 0, .int .u32 0, .int .u16 0, .string ⟨#[]⟩, .string ⟨#[]⟩, .slice none 0 0] 29)).drew) (b := w1.heap.size) (N := b) (show ((w1.alloc (.cells (zb b) 5)).alloc (.cells #[.int .u32 0, .int .u32 0, .int .u16 0, .string ⟨#[]⟩, .string ⟨#[]⟩, .slice none 0 0] 29)).heap[w1.heap.size]? = _ from row_alloc_step (row_alloc w1 _ _) _) (by omega)
      rw [h, hst2]
    have hcv8 : (convert 22 9 (.slice (some ⟨w1.heap.size + 1, 0, none⟩) a a)).run Try.prog ((w1.alloc (.cells #[.int .u32 0, .int .u32 0, .int .u16 0, .string ⟨#[]⟩, .string ⟨#[]⟩, .slice none 0 0] 29)).alloc (.cells (zb a) 5)).drew = .ok (.string st1) ((w1.alloc (.cells #[.int .u32 0, .int .u32 0, .int .u16 0, .string ⟨#[]⟩, .string ⟨#[]⟩, .slice none 0 0] 29)).alloc (.cells (zb a) 5)).drew := by
      have h := cv_nul (W := ((w1.alloc (.cells #[.int .u32 0, .int .u32 0, .int .u16 0, .string ⟨#[]⟩, .string ⟨#[]⟩, .slice none 0 0] 29)).alloc (.cells (zb a) 5)).drew) (b := w1.heap.size + 1) (N := a) (show ((w1.alloc (.cells #[.int .u32 0, .int .u32 0, .int .u16 0, .string ⟨#[]⟩, .string ⟨#[]⟩, .slice none 0 0] 29)).alloc (.cells (zb a) 5)).heap[w1.heap.size + 1]? = _ from row2_alloc w1 _ _ _) (by omega)
      rw [h, hst1]
    have hcv9 : (convert 22 9 (.slice (some ⟨w1.heap.size + 1, 0, none⟩) b b)).run Try.prog ((w1.alloc (.cells #[.int .u32 0, .int .u32 0, .int .u16 0, .string ⟨#[]⟩, .string ⟨#[]⟩, .slice none 0 0] 29)).alloc (.cells (zb b) 5)).drew = .ok (.string st2) ((w1.alloc (.cells #[.int .u32 0, .int .u32 0, .int .u16 0, .string ⟨#[]⟩, .string ⟨#[]⟩, .slice none 0 0] 29)).alloc (.cells (zb b) 5)).drew := by
      have h := cv_nul (W := ((w1.alloc (.cells #[.int .u32 0, .int .u32 0, .int .u16 0, .string ⟨#[]⟩, .string ⟨#[]⟩, .slice none 0 0] 29)).alloc (.cells (zb b) 5)).drew) (b := w1.heap.size + 1) (N := b) (show ((w1.alloc (.cells #[.int .u32 0, .int .u32 0, .int .u16 0, .string ⟨#[]⟩, .string ⟨#[]⟩, .slice none 0 0] 29)).alloc (.cells (zb b) 5)).heap[w1.heap.size + 1]? = _ from row2_alloc w1 _ _ _) (by omega)
      rw [h, hst2]
    have hcv10 : (convert 22 9 (.slice (some ⟨w1.heap.size, 0, none⟩) a a)).run Try.prog (((w1.alloc (.cells (zb a) 5)).alloc (.cells (zb b) 5)).alloc (.cells #[.int .u32 0, .int .u32 0, .int .u16 0, .string ⟨#[]⟩, .string ⟨#[]⟩, .slice none 0 0] 29)).drew = .ok (.string st1) (((w1.alloc (.cells (zb a) 5)).alloc (.cells (zb b) 5)).alloc (.cells #[.int .u32 0, .int .u32 0, .int .u16 0, .string ⟨#[]⟩, .string ⟨#[]⟩, .slice none 0 0] 29)).drew := by
      have h := cv_nul (W := (((w1.alloc (.cells (zb a) 5)).alloc (.cells (zb b) 5)).alloc (.cells #[.int .u32 0, .int .u32 0, .int .u16 0, .string ⟨#[]⟩, .string ⟨#[]⟩, .slice none 0 0] 29)).drew) (b := w1.heap.size) (N := a) (show (((w1.alloc (.cells (zb a) 5)).alloc (.cells (zb b) 5)).alloc (.cells #[.int .u32 0, .int .u32 0, .int .u16 0, .string ⟨#[]⟩, .string ⟨#[]⟩, .slice none 0 0] 29)).heap[w1.heap.size]? = _ from row_alloc_step (row_alloc_step (row_alloc w1 _ _) _) _) (by omega)
      rw [h, hst1]
    have hcv11 : (convert 22 9 (.slice (some ⟨w1.heap.size + 1, 0, none⟩) b b)).run Try.prog (((w1.alloc (.cells (zb a) 5)).alloc (.cells (zb b) 5)).alloc (.cells #[.int .u32 0, .int .u32 0, .int .u16 0, .string ⟨#[]⟩, .string ⟨#[]⟩, .slice none 0 0] 29)).drew = .ok (.string st2) (((w1.alloc (.cells (zb a) 5)).alloc (.cells (zb b) 5)).alloc (.cells #[.int .u32 0, .int .u32 0, .int .u16 0, .string ⟨#[]⟩, .string ⟨#[]⟩, .slice none 0 0] 29)).drew := by
      have h := cv_nul (W := (((w1.alloc (.cells (zb a) 5)).alloc (.cells (zb b) 5)).alloc (.cells #[.int .u32 0, .int .u32 0, .int .u16 0, .string ⟨#[]⟩, .string ⟨#[]⟩, .slice none 0 0] 29)).drew) (b := w1.heap.size + 1) (N := b) (show (((w1.alloc (.cells (zb a) 5)).alloc (.cells (zb b) 5)).alloc (.cells #[.int .u32 0, .int .u32 0, .int .u16 0, .string ⟨#[]⟩, .string ⟨#[]⟩, .slice none 0 0] 29)).heap[w1.heap.size + 1]? = _ from row_alloc_step (row2_alloc w1 _ _ _) _) (by omega)
      rw [h, hst2]
    have hcv12 : (convert 22 9 (.slice (some ⟨w1.heap.size, 0, none⟩) a a)).run Try.prog (((w1.alloc (.cells (zb a) 5)).alloc (.cells #[.int .u32 0, .int .u32 0, .int .u16 0, .string ⟨#[]⟩, .string ⟨#[]⟩, .slice none 0 0] 29)).alloc (.cells (zb b) 5)).drew = .ok (.string st1) (((w1.alloc (.cells (zb a) 5)).alloc (.cells #[.int .u32 0, .int .u32 0, .int .u16 0, .string ⟨#[]⟩, .string ⟨#[]⟩, .slice none 0 0] 29)).alloc (.cells (zb b) 5)).drew := by
      have h := cv_nul (W := (((w1.alloc (.cells (zb a) 5)).alloc (.cells #[.int .u32 0, .int .u32 0, .int .u16 0, .string ⟨#[]⟩, .string ⟨#[]⟩, .slice none 0 0] 29)).alloc (.cells (zb b) 5)).drew) (b := w1.heap.size) (N := a) (show (((w1.alloc (.cells (zb a) 5)).alloc (.cells #[.int .u32 0, .int .u32 0, .int .u16 0, .string ⟨#[]⟩, .string ⟨#[]⟩, .slice none 0 0] 29)).alloc (.cells (zb b) 5)).heap[w1.heap.size]? = _ from row_alloc_step (row_alloc_step (row_alloc w1 _ _) _) _) (by omega)
      rw [h, hst1]
    have hcv13 : (convert 22 9 (.slice (some ⟨w1.heap.size + 1 + 1, 0, none⟩) b b)).run Try.prog (((w1.alloc (.cells (zb a) 5)).alloc (.cells #[.int .u32 0, .int .u32 0, .int .u16 0, .string ⟨#[]⟩, .string ⟨#[]⟩, .slice none 0 0] 29)).alloc (.cells (zb b) 5)).drew = .ok (.string st2) (((w1.alloc (.cells (zb a) 5)).alloc (.cells #[.int .u32 0, .int .u32 0, .int .u16 0, .string ⟨#[]⟩, .string ⟨#[]⟩, .slice none 0 0] 29)).alloc (.cells (zb b) 5)).drew := by
      have h := cv_nul (W := (((w1.alloc (.cells (zb a) 5)).alloc (.cells #[.int .u32 0, .int .u32 0, .int .u16 0, .string ⟨#[]⟩, .string ⟨#[]⟩, .slice none 0 0] 29)).alloc (.cells (zb b) 5)).drew) (b := w1.heap.size + 1 + 1) (N := b) (show (((w1.alloc (.cells (zb a) 5)).alloc (.cells #[.int .u32 0, .int .u32 0, .int .u16 0, .string ⟨#[]⟩, .string ⟨#[]⟩, .slice none 0 0] 29)).alloc (.cells (zb b) 5)).heap[w1.heap.size + 1 + 1]? = _ from row3_alloc w1 _ _ _ _) (by omega)
      rw [h, hst2]
    have hcv14 : (convert 22 9 (.slice (some ⟨w1.heap.size + 1, 0, none⟩) a a)).run Try.prog (((w1.alloc (.cells (zb b) 5)).alloc (.cells (zb a) 5)).alloc (.cells #[.int .u32 0, .int .u32 0, .int .u16 0, .string ⟨#[]⟩, .string ⟨#[]⟩, .slice none 0 0] 29)).drew = .ok (.string st1) (((w1.alloc (.cells (zb b) 5)).alloc (.cells (zb a) 5)).alloc (.cells #[.int .u32 0, .int .u32 0, .int .u16 0, .string ⟨#[]⟩, .string ⟨#[]⟩, .slice none 0 0] 29)).drew := by
      have h := cv_nul (W := (((w1.alloc (.cells (zb b) 5)).alloc (.cells (zb a) 5)).alloc (.cells #[.int .u32 0, .int .u32 0, .int .u16 0, .string ⟨#[]⟩, .string ⟨#[]⟩, .slice none 0 0] 29)).drew) (b := w1.heap.size + 1) (N := a) (show (((w1.alloc (.cells (zb b) 5)).alloc (.cells (zb a) 5)).alloc (.cells #[.int .u32 0, .int .u32 0, .int .u16 0, .string ⟨#[]⟩, .string ⟨#[]⟩, .slice none 0 0] 29)).heap[w1.heap.size + 1]? = _ from row_alloc_step (row2_alloc w1 _ _ _) _) (by omega)
      rw [h, hst1]
    have hcv15 : (convert 22 9 (.slice (some ⟨w1.heap.size, 0, none⟩) b b)).run Try.prog (((w1.alloc (.cells (zb b) 5)).alloc (.cells (zb a) 5)).alloc (.cells #[.int .u32 0, .int .u32 0, .int .u16 0, .string ⟨#[]⟩, .string ⟨#[]⟩, .slice none 0 0] 29)).drew = .ok (.string st2) (((w1.alloc (.cells (zb b) 5)).alloc (.cells (zb a) 5)).alloc (.cells #[.int .u32 0, .int .u32 0, .int .u16 0, .string ⟨#[]⟩, .string ⟨#[]⟩, .slice none 0 0] 29)).drew := by
      have h := cv_nul (W := (((w1.alloc (.cells (zb b) 5)).alloc (.cells (zb a) 5)).alloc (.cells #[.int .u32 0, .int .u32 0, .int .u16 0, .string ⟨#[]⟩, .string ⟨#[]⟩, .slice none 0 0] 29)).drew) (b := w1.heap.size) (N := b) (show (((w1.alloc (.cells (zb b) 5)).alloc (.cells (zb a) 5)).alloc (.cells #[.int .u32 0, .int .u32 0, .int .u16 0, .string ⟨#[]⟩, .string ⟨#[]⟩, .slice none 0 0] 29)).heap[w1.heap.size]? = _ from row_alloc_step (row_alloc_step (row_alloc w1 _ _) _) _) (by omega)
      rw [h, hst2]
    have hcv16 : (convert 22 9 (.slice (some ⟨w1.heap.size + 1 + 1, 0, none⟩) a a)).run Try.prog (((w1.alloc (.cells (zb b) 5)).alloc (.cells #[.int .u32 0, .int .u32 0, .int .u16 0, .string ⟨#[]⟩, .string ⟨#[]⟩, .slice none 0 0] 29)).alloc (.cells (zb a) 5)).drew = .ok (.string st1) (((w1.alloc (.cells (zb b) 5)).alloc (.cells #[.int .u32 0, .int .u32 0, .int .u16 0, .string ⟨#[]⟩, .string ⟨#[]⟩, .slice none 0 0] 29)).alloc (.cells (zb a) 5)).drew := by
      have h := cv_nul (W := (((w1.alloc (.cells (zb b) 5)).alloc (.cells #[.int .u32 0, .int .u32 0, .int .u16 0, .string ⟨#[]⟩, .string ⟨#[]⟩, .slice none 0 0] 29)).alloc (.cells (zb a) 5)).drew) (b := w1.heap.size + 1 + 1) (N := a) (show (((w1.alloc (.cells (zb b) 5)).alloc (.cells #[.int .u32 0, .int .u32 0, .int .u16 0, .string ⟨#[]⟩, .string ⟨#[]⟩, .slice none 0 0] 29)).alloc (.cells (zb a) 5)).heap[w1.heap.size + 1 + 1]? = _ from row3_alloc w1 _ _ _ _) (by omega)
      rw [h, hst1]
    have hcv17 : (convert 22 9 (.slice (some ⟨w1.heap.size, 0, none⟩) b b)).run Try.prog (((w1.alloc (.cells (zb b) 5)).alloc (.cells #[.int .u32 0, .int .u32 0, .int .u16 0, .string ⟨#[]⟩, .string ⟨#[]⟩, .slice none 0 0] 29)).alloc (.cells (zb a) 5)).drew = .ok (.string st2) (((w1.alloc (.cells (zb b) 5)).alloc (.cells #[.int .u32 0, .int .u32 0, .int .u16 0, .string ⟨#[]⟩, .string ⟨#[]⟩, .slice none 0 0] 29)).alloc (.cells (zb a) 5)).drew := by
      have h := cv_nul (W := (((w1.alloc (.cells (zb b) 5)).alloc (.cells #[.int .u32 0, .int .u32 0, .int .u16 0, .string ⟨#[]⟩, .string ⟨#[]⟩, .slice none 0 0] 29)).alloc (.cells (zb a) 5)).drew) (b := w1.heap.size) (N := b) (show (((w1.alloc (.cells (zb b) 5)).alloc (.cells #[.int .u32 0, .int .u32 0, .int .u16 0, .string ⟨#[]⟩, .string ⟨#[]⟩, .slice none 0 0] 29)).alloc (.cells (zb a) 5)).heap[w1.heap.size]? = _ from row_alloc_step (row_alloc_step (row_alloc w1 _ _) _) _) (by omega)
      rw [h, hst2]
    have hcv18 : (convert 22 9 (.slice (some ⟨w1.heap.size + 1, 0, none⟩) a a)).run Try.prog (((w1.alloc (.cells #[.int .u32 0, .int .u32 0, .int .u16 0, .string ⟨#[]⟩, .string ⟨#[]⟩, .slice none 0 0] 29)).alloc (.cells (zb a) 5)).alloc (.cells (zb b) 5)).drew = .ok (.string st1) (((w1.alloc (.cells #[.int .u32 0, .int .u32 0, .int .u16 0, .string ⟨#[]⟩, .string ⟨#[]⟩, .slice none 0 0] 29)).alloc (.cells (zb a) 5)).alloc (.cells (zb b) 5)).drew := by
      have h := cv_nul (W := (((w1.alloc (.cells #[.int .u32 0, .int .u32 0, .int .u16 0, .string ⟨#[]⟩, .string ⟨#[]⟩, .slice none 0 0] 29)).alloc (.cells (zb a) 5)).alloc (.cells (zb b) 5)).drew) (b := w1.heap.size + 1) (N := a) (show (((w1.alloc (.cells #[.int .u32 0, .int .u32 0, .int .u16 0, .string ⟨#[]⟩, .string ⟨#[]⟩, .slice none 0 0] 29)).alloc (.cells (zb a) 5)).alloc (.cells (zb b) 5)).heap[w1.heap.size + 1]? = _ from row_alloc_step (row2_alloc w1 _ _ _) _) (by omega)
      rw [h, hst1]
    have hcv19 : (convert 22 9 (.slice (some ⟨w1.heap.size + 1 + 1, 0, none⟩) b b)).run Try.prog (((w1.alloc (.cells #[.int .u32 0, .int .u32 0, .int .u16 0, .string ⟨#[]⟩, .string ⟨#[]⟩, .slice none 0 0] 29)).alloc (.cells (zb a) 5)).alloc (.cells (zb b) 5)).drew = .ok (.string st2) (((w1.alloc (.cells #[.int .u32 0, .int .u32 0, .int .u16 0, .string ⟨#[]⟩, .string ⟨#[]⟩, .slice none 0 0] 29)).alloc (.cells (zb a) 5)).alloc (.cells (zb b) 5)).drew := by
      have h := cv_nul (W := (((w1.alloc (.cells #[.int .u32 0, .int .u32 0, .int .u16 0, .string ⟨#[]⟩, .string ⟨#[]⟩, .slice none 0 0] 29)).alloc (.cells (zb a) 5)).alloc (.cells (zb b) 5)).drew) (b := w1.heap.size + 1 + 1) (N := b) (show (((w1.alloc (.cells #[.int .u32 0, .int .u32 0, .int .u16 0, .string ⟨#[]⟩, .string ⟨#[]⟩, .slice none 0 0] 29)).alloc (.cells (zb a) 5)).alloc (.cells (zb b) 5)).heap[w1.heap.size + 1 + 1]? = _ from row3_alloc w1 _ _ _ _) (by omega)
      rw [h, hst2]
    have hcv20 : (convert 22 9 (.slice (some ⟨w1.heap.size + 1 + 1, 0, none⟩) a a)).run Try.prog (((w1.alloc (.cells #[.int .u32 0, .int .u32 0, .int .u16 0, .string ⟨#[]⟩, .string ⟨#[]⟩, .slice none 0 0] 29)).alloc (.cells (zb b) 5)).alloc (.cells (zb a) 5)).drew = .ok (.string st1) (((w1.alloc (.cells #[.int .u32 0, .int .u32 0, .int .u16 0, .string ⟨#[]⟩, .string ⟨#[]⟩, .slice none 0 0] 29)).alloc (.cells (zb b) 5)).alloc (.cells (zb a) 5)).drew := by
      have h := cv_nul (W := (((w1.alloc (.cells #[.int .u32 0, .int .u32 0, .int .u16 0, .string ⟨#[]⟩, .string ⟨#[]⟩, .slice none 0 0] 29)).alloc (.cells (zb b) 5)).alloc (.cells (zb a) 5)).drew) (b := w1.heap.size + 1 + 1) (N := a) (show (((w1.alloc (.cells #[.int .u32 0, .int .u32 0, .int .u16 0, .string ⟨#[]⟩, .string ⟨#[]⟩, .slice none 0 0] 29)).alloc (.cells (zb b) 5)).alloc (.cells (zb a) 5)).heap[w1.heap.size + 1 + 1]? = _ from row3_alloc w1 _ _ _ _) (by omega)
      rw [h, hst1]
    have hcv21 : (convert 22 9 (.slice (some ⟨w1.heap.size + 1, 0, none⟩) b b)).run Try.prog (((w1.alloc (.cells #[.int .u32 0, .int .u32 0, .int .u16 0, .string ⟨#[]⟩, .string ⟨#[]⟩, .slice none 0 0] 29)).alloc (.cells (zb b) 5)).alloc (.cells (zb a) 5)).drew = .ok (.string st2) (((w1.alloc (.cells #[.int .u32 0, .int .u32 0, .int .u16 0, .string ⟨#[]⟩, .string ⟨#[]⟩, .slice none 0 0] 29)).alloc (.cells (zb b) 5)).alloc (.cells (zb a) 5)).drew := by
      have h := cv_nul (W := (((w1.alloc (.cells #[.int .u32 0, .int .u32 0, .int .u16 0, .string ⟨#[]⟩, .string ⟨#[]⟩, .slice none 0 0] 29)).alloc (.cells (zb b) 5)).alloc (.cells (zb a) 5)).drew) (b := w1.heap.size + 1) (N := b) (show (((w1.alloc (.cells #[.int .u32 0, .int .u32 0, .int .u16 0, .string ⟨#[]⟩, .string ⟨#[]⟩, .slice none 0 0] 29)).alloc (.cells (zb b) 5)).alloc (.cells (zb a) 5)).heap[w1.heap.size + 1]? = _ from row_alloc_step (row2_alloc w1 _ _ _) _) (by omega)
      rw [h, hst2]
    clear hst1 hst2
    go_region
    all_goals (go_wp2_with fail)
    all_goals go_meet
    all_goals exact ⟨_, rfl, by have := HB1.out.size; omega, (by first | exact row_alloc_step (row_alloc_step (row_alloc w1 _ _) _) _ | exact row_alloc_step (row2_alloc w1 _ _ _) _ | exact row3_alloc w1 _ _ _ _), Below.drew (bel_alloc (bel_alloc (bel_alloc HB1.out _) _) _)⟩
  case rest =>
  obtain ⟨ob, rfl, hob, hx⟩ := hcut
  have HX := Lib.hid hx
  clear hx
  have HOI := Lib.hid (oi_nil w wc)
  go_wp2_with fail
  go_loopw [8] (fun i wr => ∃ (k : Nat) (p : Option Addr) (cc : Nat), k ≤ c ∧ i = .int .i64 (k : Int) ∧ Box w wr ob st1 st2 p k cc ∧ OwI w wr p k cc (iota k) ∧ (Value.slice p k cc).ownBlock ≠ some ob) (fun i _ => c - (intOf i).toNat)
  case atStart => exact ⟨0, none, 0, Nat.zero_le _, rfl, HX.out, HOI.out, (by simp [Value.ownBlock])⟩
  case round =>
    obtain ⟨k, p, cc, hk, rfl, hrow, how, hnb⟩ := hrel
    have HRW := Lib.hid hrow
    have HOW := Lib.hid how
    have HNB := Lib.hid hnb
    have hlt := row_lt hrow.1
    have b5 := row_cell hrow.1 5
    simp only [List.getElem?_toArray, List.getElem?_cons_zero, List.getElem?_cons_succ] at b5
    clear how hnb hrow
    by_cases hltk : k < c
    · have hltk' : (k : Int) < (c : Int) := by omega
      go_wp2
      go_region_law (first
        | (go_simp; go_at_call 27; refine (int_ref_any _ _).mono ?_; rintro e w2 ⟨rfl, hb2⟩; have HBX := Lib.hid (bel_step (w := wr) (y := wr.drew) (Below.drew (Below.refl _ _)) hb2); have HRX := Lib.hid (row_step HRW.out.1 HBX.out); have HOX := Lib.hid (oi_keep HOW.out HBX.out); have ltX := row_lt HRX.out; have x5 := row_cell HRX.out 5; (simp only [List.getElem?_toArray, List.getElem?_cons_zero, List.getElem?_cons_succ] at x5); clear hb2)
        | (refine step_oi (by rfl) _ _ (by rfl) w w2 p k cc (iota k) (k : Int) (by rfl) (by rfl) HOX.out (Nat.le_trans HRW.out.2.size HBX.out.size) (by omega) ?_; intro p' c' w3 ho hg hw; have HRN := Lib.hid ((hg.block _ ltX (fun e => HNB.out e.symm)).trans HRX.out); have HON := Lib.hid ho; have HBN := Lib.hid (Below.grown (bel_step HRW.out.2 HBX.out) hg (Nat.le_trans HRW.out.2.size HBX.out.size) (own_ge HOW.out)); have HNN := Lib.hid (own_ne (B := ob) HNB.out ltX hw); have ltN := row_lt HRN.out; have y5 := row_cell HRN.out 5; (simp only [List.getElem?_toArray, List.getElem?_cons_zero, List.getElem?_cons_succ] at y5); have yf := row_frz HRN.out 5; clear ho hg hw))
      all_goals
        go_wp2
        go_roundw
        case rel => exact ⟨k + 1, p', c', by omega, by go_num, ⟨row_set5 HRN.out _, HBN.out.setCell (p := ⟨ob, 5, none⟩) hob _⟩, (by rw [iota_succ]; exact oi_store HON.out HNN.out _), HNN.out⟩
        case measure => simp [intOf]; omega
    · obtain rfl : k = c := by omega
      have HP := Lib.hid (oi_puts M HOW.out (iota_ok k (by omega)))
      have c0 := row_cell HRW.out.1 0; have c1 := row_cell HRW.out.1 1; have c2 := row_cell HRW.out.1 2; have c3 := row_cell HRW.out.1 3; have c4 := row_cell HRW.out.1 4
      simp only [List.getElem?_toArray, List.getElem?_cons_zero, List.getElem?_cons_succ] at c0 c1 c2 c3 c4
      by_cases hc16 : k ≤ 16
      · by_cases hs : a ≤ 32 ∧ b ≤ 32
        · obtain ⟨hs1, hs2⟩ := hs
          have HR := Lib.hid (lOp_read M hM st1 st2 k (by rw [HZ.out.1]; exact hs1) (by rw [HZ.out.2]; exact hs2) hc16)
          have HL := Lib.hid (lOp_len M st1 st2 k)
          have HBy := Lib.hid (lOp_by M st1 st2 k)
          go_wp2_with fail
          go_at_call 10; refine (cput_yes _ 0 0 0 st1 st2 p k cc ((iota k).map fun I => encV (M + 1) (intT M I)) (by omega) (by omega) (by omega) (by rw [HZ.out.1]; omega) (by rw [HZ.out.2]; omega) HP.out hc16 ⟨by rw [HZ.out.1]; exact hs1, by rw [HZ.out.2]; exact hs2⟩).mono ?_; rintro e w5 ⟨p5, c5, rfl, ho5⟩
          rw [show putB 0 0 0 st1 st2 k ((iota k).map fun I => encV (M + 1) (intT M I)) = lOp M st1 st2 k from rfl] at ho5
          rw [show putB 0 0 0 st1 st2 k ((iota k).map fun I => encV (M + 1) (intT M I)) = lOp M st1 st2 k from rfl]
          generalize lOp M st1 st2 k = X at ho5 HR HL HBy ⊢
          obtain ⟨N, hN⟩ : ∃ N, X.length = N := ⟨_, rfl⟩
          have hN' : N = 10 + (2 + a) + (2 + b) + 1 + 9 * k := by rw [← hN, HL.out, HZ.out.1, HZ.out.2]
          rw [hN] at ho5 HR
          rw [hN]
          have HN := Lib.hid hN'
          have hNb : N ≤ 4096 := by omega
          have HO5 := Lib.hid ho5
          have HB5 := Lib.hid (bel_step HRW.out.2 (ow_bel ho5))
          have i1 : (a : Int) ≤ 32 := by omega
          have i2 : (b : Int) ≤ 32 := by omega
          have i3 : (k : Int) ≤ 16 := by omega
          clear ho5 hN hN' b5 c0 c1 c2 c3 c4 HOW HP HNB hlt
          go_wp2_with fail
          go_at_call 15; refine (cread_any M h4 hM w5 p5 N c5 X (rd_of_ow HO5.out) HBy.out (by omega)).mono ?_; rintro e w6 ⟨hb6, _, hyes⟩
          obtain ⟨L, hL, hLk⟩ := HR.out
          obtain ⟨pL, lL, cL, rfl, hrep⟩ := hyes _ _ _ _ _ hL
          obtain rfl : k = lL := by rw [← hLk]; exact hrep.1
          simp only [opA]
          have HB6 := Lib.hid (bel_step HB5.out hb6)
          have hNe : (N : Int) = 14 + (a : Int) + (b : Int) + 1 + 9 * (k : Int) := by have := HN.out; omega
          have HNe := Lib.hid hNe
          clear hb6 hyes hL hLk hrep hNe
          go_wp2_with fail
          rw [show ((N : Int) == 14 + (a : Int) + (b : Int) + 1 + 9 * (k : Int)) = true by rw [beq_iff_eq]; exact HNe.out]
          go_ret
          exact ⟨rfl, bel_alloc HB6.out _⟩
        · have hs' : ¬ (st1.size ≤ 32 ∧ st2.size ≤ 32) := by rw [HZ.out.1, HZ.out.2]; exact hs
          have HS := Lib.hid hs
          clear hs
          go_wp2_with fail
          go_at_call 10; refine (cput_long _ 0 0 0 st1 st2 p k cc _ (by omega) (by omega) (by omega) (by rw [HZ.out.1]; omega) (by rw [HZ.out.2]; omega) HP.out hc16 hs').mono ?_; rintro e w5 ⟨rfl, hb5⟩
          have HB5 := Lib.hid (bel_step HRW.out.2 hb5)
          clear hb5 b5 c0 c1 c2 c3 c4 hs'
          by_cases ha32 : a ≤ 32
          · have hb32 : ¬ b ≤ 32 := fun h => HS.out ⟨ha32, h⟩
            have i1 : (a : Int) ≤ 32 := by omega
            have i2 : ¬ (b : Int) ≤ 32 := by omega
            go_wp2
            all_goals go_ret
            all_goals exact ⟨rfl, HB5.out⟩
          · have i1 : ¬ (a : Int) ≤ 32 := by omega
            go_wp2
            all_goals go_ret
            all_goals exact ⟨rfl, HB5.out⟩
      · go_wp2_with fail
        go_at_call 10; refine (cput_many _ 0 0 0 st1 st2 p k cc _ (by omega) (by omega) (by omega) (by rw [HZ.out.1]; omega) (by rw [HZ.out.2]; omega) HP.out (by omega)).mono ?_; rintro e w5 ⟨rfl, hb5⟩
        have HB5 := Lib.hid (bel_step HRW.out.2 hb5)
        clear hb5 b5 c0 c1 c2 c3 c4
        have i3 : ¬ (k : Int) ≤ 16 := by omega
        by_cases i1 : (a : Int) ≤ 32
        · by_cases i2 : (b : Int) ≤ 32
          · go_wp2_with fail
            · go_ret
              exact ⟨rfl, HB5.out⟩
            · exact absurd (by assumption : (!decide ((k : Int) ≤ 16)) = false) (by simp; omega)
          · go_wp2
            all_goals go_ret
            all_goals exact ⟨rfl, HB5.out⟩
        · go_wp2
          all_goals go_ret
          all_goals exact ⟨rfl, HB5.out⟩
theorem climits_law (a : Int) (ha : (Lit.int .u8 a).wf = true) (b : Int) (hb : (Lit.int .u8 b).wf = true) (c : Int) (hc : (Lit.int .u8 c).wf = true) (W : World) :
    Calls Try.prog 7 #[.int .u8 a, .int .u8 b, .int .u8 c] W fun e w' => e = .returned (.bool true) ∧ Below W.heap.size W w' := by
  obtain ⟨x, rfl, hx⟩ := nat_u8 ha
  obtain ⟨y, rfl, hy⟩ := nat_u8 hb
  obtain ⟨z, rfl, hz⟩ := nat_u8 hc
  exact climits_in 4096 (Nat.le_refl _) (by decide) W x y z _ _ _ hx hy hz rfl rfl rfl
end Num
end Go.Proofs.Ytomfgncbdgifoaa
