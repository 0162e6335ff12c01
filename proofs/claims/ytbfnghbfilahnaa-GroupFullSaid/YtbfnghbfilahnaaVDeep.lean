/-
  How deep a tree is; the reference's Size.
-/
import Derived.Test.YtbfnghbfilahnaaVTree
namespace Go.Proofs.Ytbfnghbfilahnaa
open Go.RowKit
namespace Num
open Ints
set_option linter.unusedSimpArgs false
set_option linter.unusedVariables false
/-- Are lists more than m in one another? -/
def deepT : (n : Nat) → VT n → Nat → Bool
  | 0, _, _ => false
  | n + 1, T, m => if (T.1 == 4) = true then (match m with | 0 => true | k + 1 => T.2.2.2.2.any fun x => deepT n x k) else false
theorem deepT_not {n : Nat} {K I : Int} {F : Nat} {S : ByteArray} {L : List (VT n)} {m : Nat} (h : (K == 4) = false) : deepT (n + 1) (K, I, F, S, L) m = false := by
  show (if (K == 4) = true then _ else false) = false
  rw [h]; rfl
theorem deepT_zero {n : Nat} {K I : Int} {F : Nat} {S : ByteArray} {L : List (VT n)} (h : (K == 4) = true) : deepT (n + 1) (K, I, F, S, L) 0 = true := by
  show (if (K == 4) = true then true else false) = true
  rw [h]; rfl
theorem deepT_succ {n : Nat} {K I : Int} {F : Nat} {S : ByteArray} {L : List (VT n)} {m : Nat} (h : (K == 4) = true) : deepT (n + 1) (K, I, F, S, L) (m + 1) = L.any fun x => deepT n x m := by
  show (if (K == 4) = true then (L.any fun x => deepT n x m) else false) = _
  rw [h]; rfl
/-- A value's size, as Go's ints count it. -/
def sizeT : (n : Nat) → VT n → Int
  | 0, _ => 0
  | n + 1, T => if (T.1 == 1 || T.1 == 2) = true then 9 else if (T.1 == 3) = true then wrap64 (3 + (T.2.2.2.1.size : Int))
      else if (T.1 == 4) = true then T.2.2.2.2.foldl (fun a x => wrap64 (a + sizeT n x)) 2 else 1
theorem sizeT_num {n : Nat} {K I : Int} {F : Nat} {S : ByteArray} {L : List (VT n)} (h : (K == 1 || K == 2) = true) : sizeT (n + 1) (K, I, F, S, L) = 9 := by
  show (if (K == 1 || K == 2) = true then _ else _) = _
  rw [if_pos h]
theorem sizeT_text {n : Nat} {K I : Int} {F : Nat} {S : ByteArray} {L : List (VT n)} (h : (K == 1 || K == 2) = false) (h3 : (K == 3) = true) : sizeT (n + 1) (K, I, F, S, L) = wrap64 (3 + (S.size : Int)) := by
  show (if (K == 1 || K == 2) = true then _ else if (K == 3) = true then _ else _) = _
  rw [if_neg (by rw [h]; simp), if_pos h3]
theorem sizeT_list {n : Nat} {K I : Int} {F : Nat} {S : ByteArray} {L : List (VT n)} (h : (K == 1 || K == 2) = false) (h3 : (K == 3) = false) (h4 : (K == 4) = true) : sizeT (n + 1) (K, I, F, S, L) = L.foldl (fun a x => wrap64 (a + sizeT n x)) 2 := by
  show (if (K == 1 || K == 2) = true then _ else if (K == 3) = true then _ else if (K == 4) = true then _ else _) = _
  rw [if_neg (by rw [h]; simp), if_neg (by rw [h3]; simp), if_pos h4]
theorem sizeT_else {n : Nat} {K I : Int} {F : Nat} {S : ByteArray} {L : List (VT n)} (h : (K == 1 || K == 2) = false) (h3 : (K == 3) = false) (h4 : (K == 4) = false) : sizeT (n + 1) (K, I, F, S, L) = 1 := by
  show (if (K == 1 || K == 2) = true then _ else if (K == 3) = true then _ else if (K == 4) = true then _ else _) = _
  rw [if_neg (by rw [h]; simp), if_neg (by rw [h3]; simp), if_neg (by rw [h4]; simp)]
theorem size_any : ∀ (n : Nat) (v : Value) (T : VT n) (w : World) (hr : Rep w n v T), Calls Try.prog 40 #[v] w fun e w' => e = .returned (.int .i64 (sizeT n T)) ∧ Below w.heap.size w w' := by
  intro n
  induction n with
  | zero => intro v T w h; exact h.elim
  | succ n ih =>
    intro v T w hr
    have IH := Lib.hid ih
    clear ih
    obtain ⟨K, I, F, S, L⟩ := T
    obtain ⟨p, l, c, rfl, _, _, _, hS, hl, hlc, hcm, hel⟩ := hr
    unfold maxLen at hcm hS
    cases h1 : (K == 1)
    · cases h2 : (K == 2)
      · have h12 : (K == 1 || K == 2) = false := by rw [h1, h2]; rfl
        cases h3 : (K == 3)
        · cases h4 : (K == 4)
          · have H := Lib.hid (show Ending.returned (.int .i64 1) = .returned (.int .i64 (sizeT (n + 1) (K, I, F, S, L))) by rw [sizeT_else h12 h3 h4])
            clear hel hl h12
            go_enter Try.func40, Try.ntmps40
            go_wp2
            go_ret
            exact ⟨H.out, (Below.refl _ _).alloc (Nat.le_refl _) _⟩
          · have H0 := Lib.hid (sizeT_list (n := n) (I := I) (F := F) (S := S) (L := L) h12 h3 h4)
            have HL := Lib.hid hl
            have HE := Lib.hid hel
            clear hl hel h12
            go_enter Try.func40, Try.ntmps40
            go_wp2
            have RS0 := row_alloc w #[.int .i64 K, .int .i64 I, .float .f64 F, .string S, .slice p l c] 39
            go_loopw [3, 4] (fun a i wr => ∃ k : Nat, k ≤ l ∧ i = .int .i64 k ∧ a = .int .i64 ((L.take k).foldl (fun a x => wrap64 (a + sizeT n x)) 2) ∧ Below w.heap.size w wr ∧ wr.heap[w.heap.size]? = some (.cells #[.int .i64 K, .int .i64 I, .float .f64 F, .string S, .slice p l c] 39 (0, 0))) (fun _ i _ => l - (intOf i).toNat)
            case atStart => exact ⟨0, by omega, rfl, rfl, (Below.refl _ _).alloc (Nat.le_refl _) _, RS0⟩
            case round =>
              obtain ⟨k, hk, rfl, rfl, hB, RS⟩ := hrel
              clear RS0
              have s0 := row_cell RS 4
              simp only [List.getElem?_toArray, List.getElem?_cons_zero, List.getElem?_cons_succ] at s0
              have HB := Lib.hid hB
              have HRS := Lib.hid RS
              by_cases hlt : k < l
              · obtain ⟨b, off, hp, hi⟩ := HE.out (by omega)
                subst hp
                have hkl : k < L.length := by have := HL.out; simpa using (this.symm ▸ hlt)
                obtain ⟨v0, v1, v2, v3, v4, c0, c1, c2, c3, c4, hr⟩ := hi k hkl
                have hr' := rep_keep hB n _ _ hr
                have e0 := cell_keep hB c0
                have e1 := cell_keep hB c1
                have e2 := cell_keep hB c2
                have e3 := cell_keep hB c3
                have e4 := cell_keep hB c4
                clear c0 c1 c2 c3 c4 hr hi hB RS
                have HR := Lib.hid hr'
                clear hr'
                have Htake : Hid _ := Lib.hid (show (L.take (k + 1)).foldl (fun a x => wrap64 (a + sizeT n x)) 2 = wrap64 ((L.take k).foldl (fun a x => wrap64 (a + sizeT n x)) 2 + sizeT n L[k]) by rw [List.take_succ_eq_append_getElem hkl, List.foldl_append]; rfl)
                generalize (L.take k).foldl (fun a x => wrap64 (a + sizeT n x)) 2 = acc at *
                go_wp2_with fail
                go_at_call 40; refine (IH.out _ _ _ HR.out).mono ?_; rintro e w1 ⟨rfl, hb1⟩
                have HB1 := Lib.hid (bel_step HB.out hb1)
                have HR1 := Lib.hid (row_step HRS.out hb1)
                clear hb1 e0 e1 e2 e3 e4 HB HRS s0 HR
                go_wp2
                go_roundw
                case rel => exact ⟨k + 1, by omega, by go_num, by rw [Htake.out], HB1.out, HR1.out⟩
                case measure => simp [intOf]; omega
              · have H1 := Lib.hid (show Ending.returned (.int .i64 ((L.take k).foldl (fun a x => wrap64 (a + sizeT n x)) 2)) = .returned (.int .i64 (sizeT (n + 1) (K, I, F, S, L))) by
                  have e : L.take k = L := List.take_of_length_le (by have : L.length = l := HL.out; omega)
                  rw [H0.out, e])
                clear hB RS
                generalize (L.take k).foldl (fun a x => wrap64 (a + sizeT n x)) 2 = acc at *
                go_wp2
                go_ret
                exact ⟨H1.out, HB.out⟩
        · have H := Lib.hid (show Ending.returned (.int .i64 (wrap64 (3 + (S.size : Int)))) = .returned (.int .i64 (sizeT (n + 1) (K, I, F, S, L))) by rw [sizeT_text h12 h3])
          clear hel hl h12 hS
          go_enter Try.func40, Try.ntmps40
          go_wp2
          go_ret
          exact ⟨H.out, (Below.refl _ _).alloc (Nat.le_refl _) _⟩
      · have H := Lib.hid (show Ending.returned (.int .i64 9) = .returned (.int .i64 (sizeT (n + 1) (K, I, F, S, L))) by rw [sizeT_num (by rw [h1, h2]; rfl)])
        clear hel hl
        go_enter Try.func40, Try.ntmps40
        go_wp2
        go_ret
        exact ⟨H.out, (Below.refl _ _).alloc (Nat.le_refl _) _⟩
    · have H := Lib.hid (show Ending.returned (.int .i64 9) = .returned (.int .i64 (sizeT (n + 1) (K, I, F, S, L))) by rw [sizeT_num (by rw [h1]; rfl)])
      clear hel hl
      go_enter Try.func40, Try.ntmps40
      go_wp2
      go_ret
      exact ⟨H.out, (Below.refl _ _).alloc (Nat.le_refl _) _⟩
end Num
end Go.Proofs.Ytbfnghbfilahnaa
