/-
  Values as trees: what a value in memory reads as, at most so many lists in one another; a reading gives a tree; calls that change nothing below keep it.
-/
import Derived.Test.YtpbfaffheigjcaaGreatJMI
import Derived.Test.YtpbfaffheigjcaaGreatJp3VBase
import Derived.ProofKit
namespace Go.Proofs.YtpbfaffheigjcaaGreat
open Go.RowKit Go.ChangeShapes Go.WideShapes
namespace Num
open Ints
set_option linter.unusedSimpArgs false
set_option linter.unusedVariables false

@[reducible] def VT : Nat → Type
  | 0 => Unit
  | n + 1 => Int × Int × Nat × ByteArray × List (VT n)

def RepL {α : Type} (w : World) (R : Value → α → Prop) (p : Option Addr) (l c : Nat) (L : List α) : Prop :=
  L.length = l ∧ l ≤ c ∧ c ≤ maxLen ∧ (0 < l → ∃ b off, p = some ⟨b, off, none⟩ ∧ ∀ i (h : i < L.length), ∃ v0 v1 v2 v3 v4,
    w.cell? ⟨b, off + i * 5, none⟩ = some v0 ∧ w.cell? ⟨b, off + i * 5 + 1, none⟩ = some v1 ∧ w.cell? ⟨b, off + i * 5 + 2, none⟩ = some v2 ∧
    w.cell? ⟨b, off + i * 5 + 3, none⟩ = some v3 ∧ w.cell? ⟨b, off + i * 5 + 4, none⟩ = some v4 ∧ R (.agg #[v0, v1, v2, v3, v4]) L[i])

def Rep (w : World) : (n : Nat) → Value → VT n → Prop
  | 0, _, _ => False
  | n + 1, v, T => ∃ (p : Option Addr) (l c : Nat), v = .agg #[.int .i64 T.1, .int .i64 T.2.1, .float .f64 T.2.2.1, .string T.2.2.2.1, .slice p l c] ∧
      okI T.1 ∧ okI T.2.1 ∧ T.2.2.1 < 2 ^ 64 ∧ T.2.2.2.1.size ≤ maxLen ∧ RepL w (Rep w n) p l c T.2.2.2.2

theorem repL_keep {α : Type} {w w' : World} {R R' : Value → α → Prop} (hb : Below w.heap.size w w') (hR : ∀ v x, R v x → R' v x) {p : Option Addr} {l c : Nat} {L : List α} (h : RepL w R p l c L) : RepL w' R' p l c L := by
  obtain ⟨h1, h2, h3, h4⟩ := h
  refine ⟨h1, h2, h3, fun hl => ?_⟩
  obtain ⟨b, off, hp, hi⟩ := h4 hl
  refine ⟨b, off, hp, fun i hi' => ?_⟩
  obtain ⟨v0, v1, v2, v3, v4, c0, c1, c2, c3, c4, hr⟩ := hi i hi'
  exact ⟨v0, v1, v2, v3, v4, ck hb c0, ck hb c1, ck hb c2, ck hb c3, ck hb c4, hR _ _ hr⟩
theorem rep_keep {w w' : World} (hb : Below w.heap.size w w') : ∀ (n : Nat) (v : Value) (T : VT n), Rep w n v T → Rep w' n v T := by
  intro n
  induction n with
  | zero => intro v T h; exact h.elim
  | succ n ih =>
    intro v T h
    obtain ⟨p, l, c, hv, h1, h2, h3, h4, h5⟩ := h
    exact ⟨p, l, c, hv, h1, h2, h3, h4, repL_keep hb ih h5⟩

theorem list_of {α : Type} {P : Nat → α → Prop} : ∀ l, (∀ i, i < l → ∃ x, P i x) → ∃ L : List α, L.length = l ∧ ∀ i (h : i < L.length), P i L[i] := by
  intro l
  induction l with
  | zero => intro _; exact ⟨[], rfl, fun i h => absurd h (Nat.not_lt_zero _)⟩
  | succ l ih =>
    intro h
    obtain ⟨L, hl, hL⟩ := ih (fun i hi => h i (by omega))
    obtain ⟨x, hx⟩ := h l (by omega)
    refine ⟨L ++ [x], by simp [hl], fun i hi => ?_⟩
    by_cases hlt : i < L.length
    · rw [List.getElem_append_left hlt]; exact hL i hlt
    · have : i = L.length := by simp at hi; omega
      subst this
      rw [List.getElem_append_right (by omega)]
      simpa [hl] using hx

section
variable {H : Type} {enc : TypeId × Value → H} {w : World} {base : Nat} {spare : Nat → Bool} {held : Bool}
end
end Num
end Go.Proofs.YtpbfaffheigjcaaGreat
/-
  How deep a tree is; the reference's Size.
-/
namespace Go.Proofs.YtpbfaffheigjcaaGreat
open Go.RowKit
namespace Num
open Ints
set_option linter.unusedSimpArgs false
set_option linter.unusedVariables false
def deepT : (n : Nat) → VT n → Nat → Bool
  | 0, _, _ => false
  | n + 1, T, m => if (T.1 == 4) = true then (match m with | 0 => true | k + 1 => T.2.2.2.2.any fun x => deepT n x k) else false
theorem deepT_not {n : Nat} {K I : Int} {F : Nat} {S : ByteArray} {L : List (VT n)} {m : Nat} (h : (K == 4) = false) : deepT (n + 1) (K, I, F, S, L) m = false := by
  show (if (K == 4) = true then _ else false) = false
  rw [h]; rfl
theorem deepT_zero {n : Nat} {K I : Int} {F : Nat} {S : ByteArray} {L : List (VT n)} (h : (K == 4) = true) : deepT (n + 1) (K, I, F, S, L) 0 = true := by
  show (if (K == 4) = true then true else false) = true
  rw [h]; rfl
theorem deepT_succ {n : Nat} {K I : Int} {F : Nat} {S : ByteArray} {L : List (VT n)} {m : Nat} (h : (K == 4) = true) : deepT (n + 1) (K, I, F, S, L) (m + 1) = L.any fun x => deepT n x m := by
  show (if (K == 4) = true then (L.any fun x => deepT n x m) else false) = _
  rw [h]; rfl
def sizeT : (n : Nat) → VT n → Int
  | 0, _ => 0
  | n + 1, T => if (T.1 == 1 || T.1 == 2) = true then 9 else if (T.1 == 3) = true then wrap64 (3 + (T.2.2.2.1.size : Int))
      else if (T.1 == 4) = true then T.2.2.2.2.foldl (fun a x => wrap64 (a + sizeT n x)) 2 else 1
theorem sizeT_num {n : Nat} {K I : Int} {F : Nat} {S : ByteArray} {L : List (VT n)} (h : (K == 1 || K == 2) = true) : sizeT (n + 1) (K, I, F, S, L) = 9 := by
  show (if (K == 1 || K == 2) = true then _ else _) = _
  rw [if_pos h]
theorem sizeT_text {n : Nat} {K I : Int} {F : Nat} {S : ByteArray} {L : List (VT n)} (h : (K == 1 || K == 2) = false) (h3 : (K == 3) = true) : sizeT (n + 1) (K, I, F, S, L) = wrap64 (3 + (S.size : Int)) := by
  show (if (K == 1 || K == 2) = true then _ else if (K == 3) = true then _ else _) = _
  rw [if_neg (by rw [h]; simp), if_pos h3]
theorem sizeT_list {n : Nat} {K I : Int} {F : Nat} {S : ByteArray} {L : List (VT n)} (h : (K == 1 || K == 2) = false) (h3 : (K == 3) = false) (h4 : (K == 4) = true) : sizeT (n + 1) (K, I, F, S, L) = L.foldl (fun a x => wrap64 (a + sizeT n x)) 2 := by
  show (if (K == 1 || K == 2) = true then _ else if (K == 3) = true then _ else if (K == 4) = true then _ else _) = _
  rw [if_neg (by rw [h]; simp), if_neg (by rw [h3]; simp), if_pos h4]
theorem sizeT_else {n : Nat} {K I : Int} {F : Nat} {S : ByteArray} {L : List (VT n)} (h : (K == 1 || K == 2) = false) (h3 : (K == 3) = false) (h4 : (K == 4) = false) : sizeT (n + 1) (K, I, F, S, L) = 1 := by
  show (if (K == 1 || K == 2) = true then _ else if (K == 3) = true then _ else if (K == 4) = true then _ else _) = _
  rw [if_neg (by rw [h]; simp), if_neg (by rw [h3]; simp), if_neg (by rw [h4]; simp)]
theorem size_any : ∀ (n : Nat) (v : Value) (T : VT n) (w : World) (hr : Rep w n v T), Calls Tryz.prog 42 #[v] w fun e w' => e = .returned (.int .i64 (sizeT n T)) ∧ Below w.heap.size w w' := by
  intro n
  induction n with
  | zero => intro v T w h; exact h.elim
  | succ n ih =>
    intro v T w hr
    have IH := Lib.hid ih
    clear ih
    obtain ⟨K, I, F, S, L⟩ := T
    obtain ⟨p, l, c, rfl, _, _, _, hS, hl, hlc, hcm, hel⟩ := hr
    unfold maxLen at hcm hS
    cases h1 : (K == 1)
    · cases h2 : (K == 2)
      · have h12 : (K == 1 || K == 2) = false := by rw [h1, h2]; rfl
        cases h3 : (K == 3)
        · cases h4 : (K == 4)
          · have H := Lib.hid (show Ending.returned (.int .i64 1) = .returned (.int .i64 (sizeT (n + 1) (K, I, F, S, L))) by rw [sizeT_else h12 h3 h4])
            clear hel hl h12
            go_enter Tryz.func42, Tryz.ntmps42
            go_wp2
            go_ret
            exact ⟨H.out, br.alloc (Nat.le_refl _) _⟩
          · have H0 := Lib.hid (sizeT_list (n := n) (I := I) (F := F) (S := S) (L := L) h12 h3 h4)
            have HL := Lib.hid hl
            have HE := Lib.hid hel
            clear hl hel h12
            go_enter Tryz.func42, Tryz.ntmps42
            go_wp2
            have RS0 := row_alloc w #[.int .i64 K, .int .i64 I, .float .f64 F, .string S, .slice p l c] 27
            go_loopw [3, 4] (fun a i wr => ∃ k : Nat, k ≤ l ∧ i = .int .i64 k ∧ a = .int .i64 ((L.take k).foldl (fun a x => wrap64 (a + sizeT n x)) 2) ∧ Below w.heap.size w wr ∧ wr.heap[w.heap.size]? = some (.cells #[.int .i64 K, .int .i64 I, .float .f64 F, .string S, .slice p l c] 27 (0, 0))) (fun _ i _ => l - (intOf i).toNat)
            case atStart => exact ⟨0, by omega, rfl, rfl, br.alloc (Nat.le_refl _) _, RS0⟩
            case round =>
              obtain ⟨k, hk, rfl, rfl, hB, RS⟩ := hrel
              clear RS0
              have s0 := rc RS 4
              simp only [lk0, lk1, lk2] at s0
              have HB := Lib.hid hB
              have HRS := Lib.hid RS
              by_cases hlt : k < l
              · obtain ⟨b, off, hp, hi⟩ := HE.out (by omega)
                subst hp
                have hkl : k < L.length := by have := HL.out; simpa using (this.symm ▸ hlt)
                obtain ⟨v0, v1, v2, v3, v4, c0, c1, c2, c3, c4, hr⟩ := hi k hkl
                have hr' := rep_keep hB n _ _ hr
                have e0 := ck hB c0
                have e1 := ck hB c1
                have e2 := ck hB c2
                have e3 := ck hB c3
                have e4 := ck hB c4
                clear c0 c1 c2 c3 c4 hr hi hB RS
                have HR := Lib.hid hr'
                clear hr'
                have Htake : Hid _ := Lib.hid (show (L.take (k + 1)).foldl (fun a x => wrap64 (a + sizeT n x)) 2 = wrap64 ((L.take k).foldl (fun a x => wrap64 (a + sizeT n x)) 2 + sizeT n L[k]) by rw [List.take_succ_eq_append_getElem hkl, List.foldl_append]; rfl)
                generalize (L.take k).foldl (fun a x => wrap64 (a + sizeT n x)) 2 = acc at *
                go_wp2_with fail
                go_at_call 42; refine (IH.out _ _ _ HR.out).mono ?_; rintro e w1 ⟨rfl, hb1⟩
                have HB1 := Lib.hid (bel_step HB.out hb1)
                have HR1 := Lib.hid (row_step HRS.out hb1)
                clear hb1 e0 e1 e2 e3 e4 HB HRS s0 HR
                go_wp2
                go_roundw
                case rel => exact ⟨k + 1, by omega, by go_num, by rw [Htake.out], HB1.out, HR1.out⟩
                case measure => simp [intOf]; omega
              · have H1 := Lib.hid (show Ending.returned (.int .i64 ((L.take k).foldl (fun a x => wrap64 (a + sizeT n x)) 2)) = .returned (.int .i64 (sizeT (n + 1) (K, I, F, S, L))) by
                  have e : L.take k = L := List.take_of_length_le (by have : L.length = l := HL.out; omega)
                  rw [H0.out, e])
                clear hB RS
                generalize (L.take k).foldl (fun a x => wrap64 (a + sizeT n x)) 2 = acc at *
                go_wp2
                go_ret
                exact ⟨H1.out, HB.out⟩
        · have H := Lib.hid (show Ending.returned (.int .i64 (wrap64 (3 + (S.size : Int)))) = .returned (.int .i64 (sizeT (n + 1) (K, I, F, S, L))) by rw [sizeT_text h12 h3])
          clear hel hl h12 hS
          go_enter Tryz.func42, Tryz.ntmps42
          go_wp2
          go_ret
          exact ⟨H.out, br.alloc (Nat.le_refl _) _⟩
      · have H := Lib.hid (show Ending.returned (.int .i64 9) = .returned (.int .i64 (sizeT (n + 1) (K, I, F, S, L))) by rw [sizeT_num (by rw [h1, h2]; rfl)])
        clear hel hl
        go_enter Tryz.func42, Tryz.ntmps42
        go_wp2
        go_ret
        exact ⟨H.out, br.alloc (Nat.le_refl _) _⟩
    · have H := Lib.hid (show Ending.returned (.int .i64 9) = .returned (.int .i64 (sizeT (n + 1) (K, I, F, S, L))) by rw [sizeT_num (by rw [h1]; rfl)])
      clear hel hl
      go_enter Tryz.func42, Tryz.ntmps42
      go_wp2
      go_ret
      exact ⟨H.out, br.alloc (Nat.le_refl _) _⟩
end Num
end Go.Proofs.YtpbfaffheigjcaaGreat
/-
  What package value measures of a value: strays, lengths, depth, size: plain functions on trees; (measure).with.
-/
namespace Go.Proofs.YtpbfaffheigjcaaGreat
open Go.RowKit
namespace Num
open Ints
set_option linter.unusedSimpArgs false
set_option linter.unusedVariables false
abbrev Me := Bool × Bool × Int × Int
def meV (m : Me) : Value := .agg #[.bool m.1, .bool m.2.1, .int .i64 m.2.2.1, .int .i64 m.2.2.2]
def withM (m i : Me) : Me := (m.1 || i.1, m.2.1 || i.2.1, if m.2.2.1 < wrap64 (i.2.2.1 + 1) then wrap64 (i.2.2.1 + 1) else m.2.2.1, if wrap64 (9223372036854775807 - i.2.2.2) < m.2.2.2 then 9223372036854775807 else wrap64 (m.2.2.2 + i.2.2.2))
set_option maxHeartbeats 4000000 in
theorem with_any (s1 l1 : Bool) (d1 z1 : Int) (s2 l2 : Bool) (d2 z2 : Int) (w : World) : Calls Tryz.prog 127 #[.agg #[.bool s1, .bool l1, .int .i64 d1, .int .i64 z1], .agg #[.bool s2, .bool l2, .int .i64 d2, .int .i64 z2]] w fun e w' => e = .returned (meV (withM (s1, l1, d1, z1) (s2, l2, d2, z2))) ∧ Below w.heap.size w w' := by
  by_cases hz : wrap64 (9223372036854775807 - z2) < z1
  · by_cases hd : d1 < wrap64 (d2 + 1)
    · cases s1 <;> cases l1
      · have H := Lib.hid (show Ending.returned (.agg #[.bool s2, .bool l2, .int .i64 (wrap64 (d2 + 1)), .int .i64 9223372036854775807]) = .returned (meV (withM (false, false, d1, z1) (s2, l2, d2, z2))) by simp [meV, withM, hd, hz])
        go_enter Tryz.func127, Tryz.ntmps127
        go_wp2
        exact bodyPost_ret (v := .agg #[.bool s2, .bool l2, .int .i64 (wrap64 (d2 + 1)), .int .i64 9223372036854775807]) (by simp [results, Tryz.results127, go_sem]) rfl ⟨H.out, below3 _ _ _ _⟩
      · have H := Lib.hid (show Ending.returned (.agg #[.bool s2, .bool true, .int .i64 (wrap64 (d2 + 1)), .int .i64 9223372036854775807]) = .returned (meV (withM (false, true, d1, z1) (s2, l2, d2, z2))) by simp [meV, withM, hd, hz])
        go_enter Tryz.func127, Tryz.ntmps127
        go_wp2
        exact bodyPost_ret (v := .agg #[.bool s2, .bool true, .int .i64 (wrap64 (d2 + 1)), .int .i64 9223372036854775807]) (by simp [results, Tryz.results127, go_sem]) rfl ⟨H.out, below3 _ _ _ _⟩
      · have H := Lib.hid (show Ending.returned (.agg #[.bool true, .bool l2, .int .i64 (wrap64 (d2 + 1)), .int .i64 9223372036854775807]) = .returned (meV (withM (true, false, d1, z1) (s2, l2, d2, z2))) by simp [meV, withM, hd, hz])
        go_enter Tryz.func127, Tryz.ntmps127
        go_wp2
        exact bodyPost_ret (v := .agg #[.bool true, .bool l2, .int .i64 (wrap64 (d2 + 1)), .int .i64 9223372036854775807]) (by simp [results, Tryz.results127, go_sem]) rfl ⟨H.out, below3 _ _ _ _⟩
      · have H := Lib.hid (show Ending.returned (.agg #[.bool true, .bool true, .int .i64 (wrap64 (d2 + 1)), .int .i64 9223372036854775807]) = .returned (meV (withM (true, true, d1, z1) (s2, l2, d2, z2))) by simp [meV, withM, hd, hz])
        go_enter Tryz.func127, Tryz.ntmps127
        go_wp2
        exact bodyPost_ret (v := .agg #[.bool true, .bool true, .int .i64 (wrap64 (d2 + 1)), .int .i64 9223372036854775807]) (by simp [results, Tryz.results127, go_sem]) rfl ⟨H.out, below3 _ _ _ _⟩
    · cases s1 <;> cases l1
      · have H := Lib.hid (show Ending.returned (.agg #[.bool s2, .bool l2, .int .i64 d1, .int .i64 9223372036854775807]) = .returned (meV (withM (false, false, d1, z1) (s2, l2, d2, z2))) by simp [meV, withM, hd, hz])
        go_enter Tryz.func127, Tryz.ntmps127
        go_wp2
        exact bodyPost_ret (v := .agg #[.bool s2, .bool l2, .int .i64 d1, .int .i64 9223372036854775807]) (by simp [results, Tryz.results127, go_sem]) rfl ⟨H.out, below3 _ _ _ _⟩
      · have H := Lib.hid (show Ending.returned (.agg #[.bool s2, .bool true, .int .i64 d1, .int .i64 9223372036854775807]) = .returned (meV (withM (false, true, d1, z1) (s2, l2, d2, z2))) by simp [meV, withM, hd, hz])
        go_enter Tryz.func127, Tryz.ntmps127
        go_wp2
        exact bodyPost_ret (v := .agg #[.bool s2, .bool true, .int .i64 d1, .int .i64 9223372036854775807]) (by simp [results, Tryz.results127, go_sem]) rfl ⟨H.out, below3 _ _ _ _⟩
      · have H := Lib.hid (show Ending.returned (.agg #[.bool true, .bool l2, .int .i64 d1, .int .i64 9223372036854775807]) = .returned (meV (withM (true, false, d1, z1) (s2, l2, d2, z2))) by simp [meV, withM, hd, hz])
        go_enter Tryz.func127, Tryz.ntmps127
        go_wp2
        exact bodyPost_ret (v := .agg #[.bool true, .bool l2, .int .i64 d1, .int .i64 9223372036854775807]) (by simp [results, Tryz.results127, go_sem]) rfl ⟨H.out, below3 _ _ _ _⟩
      · have H := Lib.hid (show Ending.returned (.agg #[.bool true, .bool true, .int .i64 d1, .int .i64 9223372036854775807]) = .returned (meV (withM (true, true, d1, z1) (s2, l2, d2, z2))) by simp [meV, withM, hd, hz])
        go_enter Tryz.func127, Tryz.ntmps127
        go_wp2
        exact bodyPost_ret (v := .agg #[.bool true, .bool true, .int .i64 d1, .int .i64 9223372036854775807]) (by simp [results, Tryz.results127, go_sem]) rfl ⟨H.out, below3 _ _ _ _⟩
  · by_cases hd : d1 < wrap64 (d2 + 1)
    · cases s1 <;> cases l1
      · have H := Lib.hid (show Ending.returned (.agg #[.bool s2, .bool l2, .int .i64 (wrap64 (d2 + 1)), .int .i64 (wrap64 (z1 + z2))]) = .returned (meV (withM (false, false, d1, z1) (s2, l2, d2, z2))) by simp [meV, withM, hd, hz])
        go_enter Tryz.func127, Tryz.ntmps127
        go_wp2
        exact bodyPost_ret (v := .agg #[.bool s2, .bool l2, .int .i64 (wrap64 (d2 + 1)), .int .i64 (wrap64 (z1 + z2))]) (by simp [results, Tryz.results127, go_sem]) rfl ⟨H.out, below3 _ _ _ _⟩
      · have H := Lib.hid (show Ending.returned (.agg #[.bool s2, .bool true, .int .i64 (wrap64 (d2 + 1)), .int .i64 (wrap64 (z1 + z2))]) = .returned (meV (withM (false, true, d1, z1) (s2, l2, d2, z2))) by simp [meV, withM, hd, hz])
        go_enter Tryz.func127, Tryz.ntmps127
        go_wp2
        exact bodyPost_ret (v := .agg #[.bool s2, .bool true, .int .i64 (wrap64 (d2 + 1)), .int .i64 (wrap64 (z1 + z2))]) (by simp [results, Tryz.results127, go_sem]) rfl ⟨H.out, below3 _ _ _ _⟩
      · have H := Lib.hid (show Ending.returned (.agg #[.bool true, .bool l2, .int .i64 (wrap64 (d2 + 1)), .int .i64 (wrap64 (z1 + z2))]) = .returned (meV (withM (true, false, d1, z1) (s2, l2, d2, z2))) by simp [meV, withM, hd, hz])
        go_enter Tryz.func127, Tryz.ntmps127
        go_wp2
        exact bodyPost_ret (v := .agg #[.bool true, .bool l2, .int .i64 (wrap64 (d2 + 1)), .int .i64 (wrap64 (z1 + z2))]) (by simp [results, Tryz.results127, go_sem]) rfl ⟨H.out, below3 _ _ _ _⟩
      · have H := Lib.hid (show Ending.returned (.agg #[.bool true, .bool true, .int .i64 (wrap64 (d2 + 1)), .int .i64 (wrap64 (z1 + z2))]) = .returned (meV (withM (true, true, d1, z1) (s2, l2, d2, z2))) by simp [meV, withM, hd, hz])
        go_enter Tryz.func127, Tryz.ntmps127
        go_wp2
        exact bodyPost_ret (v := .agg #[.bool true, .bool true, .int .i64 (wrap64 (d2 + 1)), .int .i64 (wrap64 (z1 + z2))]) (by simp [results, Tryz.results127, go_sem]) rfl ⟨H.out, below3 _ _ _ _⟩
    · cases s1 <;> cases l1
      · have H := Lib.hid (show Ending.returned (.agg #[.bool s2, .bool l2, .int .i64 d1, .int .i64 (wrap64 (z1 + z2))]) = .returned (meV (withM (false, false, d1, z1) (s2, l2, d2, z2))) by simp [meV, withM, hd, hz])
        go_enter Tryz.func127, Tryz.ntmps127
        go_wp2
        exact bodyPost_ret (v := .agg #[.bool s2, .bool l2, .int .i64 d1, .int .i64 (wrap64 (z1 + z2))]) (by simp [results, Tryz.results127, go_sem]) rfl ⟨H.out, below3 _ _ _ _⟩
      · have H := Lib.hid (show Ending.returned (.agg #[.bool s2, .bool true, .int .i64 d1, .int .i64 (wrap64 (z1 + z2))]) = .returned (meV (withM (false, true, d1, z1) (s2, l2, d2, z2))) by simp [meV, withM, hd, hz])
        go_enter Tryz.func127, Tryz.ntmps127
        go_wp2
        exact bodyPost_ret (v := .agg #[.bool s2, .bool true, .int .i64 d1, .int .i64 (wrap64 (z1 + z2))]) (by simp [results, Tryz.results127, go_sem]) rfl ⟨H.out, below3 _ _ _ _⟩
      · have H := Lib.hid (show Ending.returned (.agg #[.bool true, .bool l2, .int .i64 d1, .int .i64 (wrap64 (z1 + z2))]) = .returned (meV (withM (true, false, d1, z1) (s2, l2, d2, z2))) by simp [meV, withM, hd, hz])
        go_enter Tryz.func127, Tryz.ntmps127
        go_wp2
        exact bodyPost_ret (v := .agg #[.bool true, .bool l2, .int .i64 d1, .int .i64 (wrap64 (z1 + z2))]) (by simp [results, Tryz.results127, go_sem]) rfl ⟨H.out, below3 _ _ _ _⟩
      · have H := Lib.hid (show Ending.returned (.agg #[.bool true, .bool true, .int .i64 d1, .int .i64 (wrap64 (z1 + z2))]) = .returned (meV (withM (true, true, d1, z1) (s2, l2, d2, z2))) by simp [meV, withM, hd, hz])
        go_enter Tryz.func127, Tryz.ntmps127
        go_wp2
        exact bodyPost_ret (v := .agg #[.bool true, .bool true, .int .i64 d1, .int .i64 (wrap64 (z1 + z2))]) (by simp [results, Tryz.results127, go_sem]) rfl ⟨H.out, below3 _ _ _ _⟩
def measT : (n : Nat) → VT n → Me
  | 0, _ => (false, false, 0, 0)
  | n + 1, T => if (T.1 == 0) = true then (false, false, 0, 1) else if (T.1 == 1 || T.1 == 2) = true then (false, false, 0, 9)
      else if (T.1 == 3) = true then (false, decide (256 < (T.2.2.2.1.size : Int)), 0, wrap64 (3 + (T.2.2.2.1.size : Int)))
      else if (T.1 == 4) = true then T.2.2.2.2.foldl (fun a x => withM a (measT n x)) (false, decide (64 < (T.2.2.2.2.length : Int)), 1, 2) else (true, false, 0, 1)
def partsT : (n : Nat) → VT n → Nat
  | 0, _ => 1
  | n + 1, T => if (T.1 == 4) = true then T.2.2.2.2.foldl (fun a x => a + partsT n x) 1 else 1
theorem measT_nil {n : Nat} {K I : Int} {F : Nat} {S : ByteArray} {L : List (VT n)} (h : (K == 0) = true) : measT (n + 1) (K, I, F, S, L) = (false, false, 0, 1) := by
  show (if (K == 0) = true then _ else _) = _
  rw [if_pos h]
theorem measT_num {n : Nat} {K I : Int} {F : Nat} {S : ByteArray} {L : List (VT n)} (h0 : (K == 0) = false) (h : (K == 1 || K == 2) = true) : measT (n + 1) (K, I, F, S, L) = (false, false, 0, 9) := by
  show (if (K == 0) = true then _ else if (K == 1 || K == 2) = true then _ else _) = _
  rw [if_neg (by rw [h0]; simp), if_pos h]
theorem measT_text {n : Nat} {K I : Int} {F : Nat} {S : ByteArray} {L : List (VT n)} (h0 : (K == 0) = false) (h : (K == 1 || K == 2) = false) (h3 : (K == 3) = true) : measT (n + 1) (K, I, F, S, L) = (false, decide (256 < (S.size : Int)), 0, wrap64 (3 + (S.size : Int))) := by
  show (if (K == 0) = true then _ else if (K == 1 || K == 2) = true then _ else if (K == 3) = true then _ else _) = _
  rw [if_neg (by rw [h0]; simp), if_neg (by rw [h]; simp), if_pos h3]
theorem measT_list {n : Nat} {K I : Int} {F : Nat} {S : ByteArray} {L : List (VT n)} (h0 : (K == 0) = false) (h : (K == 1 || K == 2) = false) (h3 : (K == 3) = false) (h4 : (K == 4) = true) : measT (n + 1) (K, I, F, S, L) = L.foldl (fun a x => withM a (measT n x)) (false, decide (64 < (L.length : Int)), 1, 2) := by
  show (if (K == 0) = true then _ else if (K == 1 || K == 2) = true then _ else if (K == 3) = true then _ else if (K == 4) = true then _ else _) = _
  rw [if_neg (by rw [h0]; simp), if_neg (by rw [h]; simp), if_neg (by rw [h3]; simp), if_pos h4]
theorem measT_else {n : Nat} {K I : Int} {F : Nat} {S : ByteArray} {L : List (VT n)} (h0 : (K == 0) = false) (h : (K == 1 || K == 2) = false) (h3 : (K == 3) = false) (h4 : (K == 4) = false) : measT (n + 1) (K, I, F, S, L) = (true, false, 0, 1) := by
  show (if (K == 0) = true then _ else if (K == 1 || K == 2) = true then _ else if (K == 3) = true then _ else if (K == 4) = true then _ else _) = _
  rw [if_neg (by rw [h0]; simp), if_neg (by rw [h]; simp), if_neg (by rw [h3]; simp), if_neg (by rw [h4]; simp)]
theorem partsT_list {n : Nat} {K I : Int} {F : Nat} {S : ByteArray} {L : List (VT n)} (h4 : (K == 4) = true) : partsT (n + 1) (K, I, F, S, L) = L.foldl (fun a x => a + partsT n x) 1 := by
  show (if (K == 4) = true then _ else _) = _
  rw [if_pos h4]
theorem partsT_else {n : Nat} {K I : Int} {F : Nat} {S : ByteArray} {L : List (VT n)} (h4 : (K == 4) = false) : partsT (n + 1) (K, I, F, S, L) = 1 := by
  show (if (K == 4) = true then _ else _) = _
  rw [if_neg (by rw [h4]; simp)]
theorem foldl_parts {n : Nat} (L : List (VT n)) : ∀ a : Nat, a ≤ L.foldl (fun a x => a + partsT n x) a := by
  induction L with
  | nil => intro a; exact Nat.le_refl _
  | cons x xs ih => intro a; rw [List.foldl_cons]; exact Nat.le_trans (Nat.le_add_right _ _) (ih _)
theorem parts_prefix {n : Nat} (L : List (VT n)) (k : Nat) (hk : k < L.length) (a : Nat) : (L.take k).foldl (fun a x => a + partsT n x) a + partsT n L[k] ≤ L.foldl (fun a x => a + partsT n x) a := by
  conv => rhs; rw [← List.take_append_drop k L, List.foldl_append, List.drop_eq_getElem_cons hk, List.foldl_cons]
  exact foldl_parts _ _
end Num
end Go.Proofs.YtpbfaffheigjcaaGreat
/-
  A value as Clean makes it.
-/
namespace Go.Proofs.YtpbfaffheigjcaaGreat
open Go.RowKit
namespace Num
open Ints
set_option linter.unusedSimpArgs false
set_option linter.unusedVariables false
def cleanT : (n : Nat) → VT n → VT n
  | 0, T => T
  | n + 1, T => if (T.1 == 1) = true then (1, T.2.1, 0, ⟨#[]⟩, []) else if (T.1 == 2) = true then (2, 0, Flo.canon T.2.2.1, ⟨#[]⟩, [])
      else if (T.1 == 3) = true then (3, 0, 0, T.2.2.2.1, []) else if (T.1 == 4) = true then (4, 0, 0, ⟨#[]⟩, T.2.2.2.2.map (cleanT n)) else (0, 0, 0, ⟨#[]⟩, [])
end Num
end Go.Proofs.YtpbfaffheigjcaaGreat
/-
  What the reference's Check looks at: plain.
-/
namespace Go.Proofs.YtpbfaffheigjcaaGreat
open Go.RowKit
namespace Num
open Ints
set_option linter.unusedSimpArgs false
set_option linter.unusedVariables false
def kindsT : (n : Nat) → VT n → Bool
  | 0, _ => true
  | n + 1, T => if (decide (T.1 < 0) || decide (4 < T.1)) = true then false else if (T.1 == 4) = true then T.2.2.2.2.all (kindsT n) else true
def greatT : (n : Nat) → Nat → VT n → Bool
  | 0, _, _ => false
  | n + 1, d, T => if (T.1 == 3) = true then decide (256 < (T.2.2.2.1.size : Int)) else if (T.1 == 4) = true then (decide (8 ≤ d) || decide (64 < (T.2.2.2.2.length : Int)) || T.2.2.2.2.any (greatT n (d + 1))) else false
def rcheckT (n : Nat) (T : VT n) : Int := if kindsT n T = false then 31 else if (greatT n 0 T || decide (4096 < sizeT n T)) = true then 22 else 0
end Num
end Go.Proofs.YtpbfaffheigjcaaGreat
