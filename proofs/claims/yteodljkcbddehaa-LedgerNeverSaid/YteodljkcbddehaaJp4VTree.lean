/-
  Values as trees: what a value in memory reads as, at most so many lists in one another; a reading gives a tree; calls that change nothing below keep it.
-/
import Derived.Test.YteodljkcbddehaaJMI
import Derived.Test.YteodljkcbddehaaJp3VBase
import Derived.ProofKit
namespace Go.Proofs.Yteodljkcbddehaa
open Go.RowKit Go.ChangeShapes Go.WideShapes
namespace Num
open Ints
set_option linter.unusedSimpArgs false
set_option linter.unusedVariables false

@[reducible] def VT : Nat → Type
  | 0 => Unit
  | n + 1 => Int × Int × Nat × ByteArray × List (VT n)

def RepL {α : Type} (w : World) (R : Value → α → Prop) (p : Option Addr) (l c : Nat) (L : List α) : Prop :=
  L.length = l ∧ l ≤ c ∧ c ≤ maxLen ∧ (0 < l → ∃ b off, p = some ⟨b, off, none⟩ ∧ ∀ i (h : i < L.length), ∃ v0 v1 v2 v3 v4,
    w.cell? ⟨b, off + i * 5, none⟩ = some v0 ∧ w.cell? ⟨b, off + i * 5 + 1, none⟩ = some v1 ∧ w.cell? ⟨b, off + i * 5 + 2, none⟩ = some v2 ∧
    w.cell? ⟨b, off + i * 5 + 3, none⟩ = some v3 ∧ w.cell? ⟨b, off + i * 5 + 4, none⟩ = some v4 ∧ R (.agg #[v0, v1, v2, v3, v4]) L[i])

def Rep (w : World) : (n : Nat) → Value → VT n → Prop
  | 0, _, _ => False
  | n + 1, v, T => ∃ (p : Option Addr) (l c : Nat), v = .agg #[.int .i64 T.1, .int .i64 T.2.1, .float .f64 T.2.2.1, .string T.2.2.2.1, .slice p l c] ∧
      okI T.1 ∧ okI T.2.1 ∧ T.2.2.1 < 2 ^ 64 ∧ T.2.2.2.1.size ≤ maxLen ∧ RepL w (Rep w n) p l c T.2.2.2.2

theorem repL_keep {α : Type} {w w' : World} {R R' : Value → α → Prop} (hb : Below w.heap.size w w') (hR : ∀ v x, R v x → R' v x) {p : Option Addr} {l c : Nat} {L : List α} (h : RepL w R p l c L) : RepL w' R' p l c L := by
  obtain ⟨h1, h2, h3, h4⟩ := h
  refine ⟨h1, h2, h3, fun hl => ?_⟩
  obtain ⟨b, off, hp, hi⟩ := h4 hl
  refine ⟨b, off, hp, fun i hi' => ?_⟩
  obtain ⟨v0, v1, v2, v3, v4, c0, c1, c2, c3, c4, hr⟩ := hi i hi'
  exact ⟨v0, v1, v2, v3, v4, ck hb c0, ck hb c1, ck hb c2, ck hb c3, ck hb c4, hR _ _ hr⟩
theorem rep_keep {w w' : World} (hb : Below w.heap.size w w') : ∀ (n : Nat) (v : Value) (T : VT n), Rep w n v T → Rep w' n v T := by
  intro n
  induction n with
  | zero => intro v T h; exact h.elim
  | succ n ih =>
    intro v T h
    obtain ⟨p, l, c, hv, h1, h2, h3, h4, h5⟩ := h
    exact ⟨p, l, c, hv, h1, h2, h3, h4, repL_keep hb ih h5⟩

theorem list_of {α : Type} {P : Nat → α → Prop} : ∀ l, (∀ i, i < l → ∃ x, P i x) → ∃ L : List α, L.length = l ∧ ∀ i (h : i < L.length), P i L[i] := by
  intro l
  induction l with
  | zero => intro _; exact ⟨[], rfl, fun i h => absurd h (Nat.not_lt_zero _)⟩
  | succ l ih =>
    intro h
    obtain ⟨L, hl, hL⟩ := ih (fun i hi => h i (by omega))
    obtain ⟨x, hx⟩ := h l (by omega)
    refine ⟨L ++ [x], by simp [hl], fun i hi => ?_⟩
    by_cases hlt : i < L.length
    · rw [List.getElem_append_left hlt]; exact hL i hlt
    · have : i = L.length := by simp at hi; omega
      subst this
      rw [List.getElem_append_right (by omega)]
      simpa [hl] using hx

theorem ok_of_wf {n : Int} (h : (Lit.int .i64 n).wf = true) : okI n := by
  simp only [Lit.wf, decide_eq_true_eq, IntKind.min, IntKind.max] at h
  unfold okI
  have h1 : IntKind.i64.bits = 64 := rfl
  simp [IntKind.signed, h1] at h
  omega
theorem cells5 : Try.prog.cellsOf 27 = 5 := by kernel_rfl
theorem cells1 : Try.prog.cellsOf 25 = 1 := by kernel_rfl
theorem struct5 : Try.prog.underlying 27 = some (.struct (Try.prog.fieldsOf 27)) := by kernel_rfl
theorem fields5 : (Try.prog.fieldsOf 27).toList.map (fun f => (f.type, f.offset, Try.prog.cellsOf f.type)) = [(3, 0, 1), (2, 1, 1), (24, 2, 1), (9, 3, 1), (25, 4, 1)] := by kernel_rfl

section
variable {H : Type} {enc : TypeId × Value → H} {w : World} {base : Nat} {spare : Nat → Bool} {held : Bool}
end
end Num
end Go.Proofs.Yteodljkcbddehaa
/-
  How deep a tree is; the reference's Size.
-/
namespace Go.Proofs.Yteodljkcbddehaa
open Go.RowKit
namespace Num
open Ints
set_option linter.unusedSimpArgs false
set_option linter.unusedVariables false
def deepT : (n : Nat) → VT n → Nat → Bool
  | 0, _, _ => false
  | n + 1, T, m => if (T.1 == 4) = true then (match m with | 0 => true | k + 1 => T.2.2.2.2.any fun x => deepT n x k) else false
theorem deepT_not {n : Nat} {K I : Int} {F : Nat} {S : ByteArray} {L : List (VT n)} {m : Nat} (h : (K == 4) = false) : deepT (n + 1) (K, I, F, S, L) m = false := by
  show (if (K == 4) = true then _ else false) = false
  rw [h]; rfl
theorem deepT_zero {n : Nat} {K I : Int} {F : Nat} {S : ByteArray} {L : List (VT n)} (h : (K == 4) = true) : deepT (n + 1) (K, I, F, S, L) 0 = true := by
  show (if (K == 4) = true then true else false) = true
  rw [h]; rfl
theorem deepT_succ {n : Nat} {K I : Int} {F : Nat} {S : ByteArray} {L : List (VT n)} {m : Nat} (h : (K == 4) = true) : deepT (n + 1) (K, I, F, S, L) (m + 1) = L.any fun x => deepT n x m := by
  show (if (K == 4) = true then (L.any fun x => deepT n x m) else false) = _
  rw [h]; rfl
def sizeT : (n : Nat) → VT n → Int
  | 0, _ => 0
  | n + 1, T => if (T.1 == 1 || T.1 == 2) = true then 9 else if (T.1 == 3) = true then wrap64 (3 + (T.2.2.2.1.size : Int))
      else if (T.1 == 4) = true then T.2.2.2.2.foldl (fun a x => wrap64 (a + sizeT n x)) 2 else 1
theorem sizeT_num {n : Nat} {K I : Int} {F : Nat} {S : ByteArray} {L : List (VT n)} (h : (K == 1 || K == 2) = true) : sizeT (n + 1) (K, I, F, S, L) = 9 := by
  show (if (K == 1 || K == 2) = true then _ else _) = _
  rw [if_pos h]
theorem sizeT_text {n : Nat} {K I : Int} {F : Nat} {S : ByteArray} {L : List (VT n)} (h : (K == 1 || K == 2) = false) (h3 : (K == 3) = true) : sizeT (n + 1) (K, I, F, S, L) = wrap64 (3 + (S.size : Int)) := by
  show (if (K == 1 || K == 2) = true then _ else if (K == 3) = true then _ else _) = _
  rw [if_neg (by rw [h]; simp), if_pos h3]
theorem sizeT_list {n : Nat} {K I : Int} {F : Nat} {S : ByteArray} {L : List (VT n)} (h : (K == 1 || K == 2) = false) (h3 : (K == 3) = false) (h4 : (K == 4) = true) : sizeT (n + 1) (K, I, F, S, L) = L.foldl (fun a x => wrap64 (a + sizeT n x)) 2 := by
  show (if (K == 1 || K == 2) = true then _ else if (K == 3) = true then _ else if (K == 4) = true then _ else _) = _
  rw [if_neg (by rw [h]; simp), if_neg (by rw [h3]; simp), if_pos h4]
theorem sizeT_else {n : Nat} {K I : Int} {F : Nat} {S : ByteArray} {L : List (VT n)} (h : (K == 1 || K == 2) = false) (h3 : (K == 3) = false) (h4 : (K == 4) = false) : sizeT (n + 1) (K, I, F, S, L) = 1 := by
  show (if (K == 1 || K == 2) = true then _ else if (K == 3) = true then _ else if (K == 4) = true then _ else _) = _
  rw [if_neg (by rw [h]; simp), if_neg (by rw [h3]; simp), if_neg (by rw [h4]; simp)]
theorem size_any : ∀ (n : Nat) (v : Value) (T : VT n) (w : World) (hr : Rep w n v T), Calls Try.prog 25 #[v] w fun e w' => e = .returned (.int .i64 (sizeT n T)) ∧ Below w.heap.size w w' := by
  intro n
  induction n with
  | zero => intro v T w h; exact h.elim
  | succ n ih =>
    intro v T w hr
    have IH := Lib.hid ih
    clear ih
    obtain ⟨K, I, F, S, L⟩ := T
    obtain ⟨p, l, c, rfl, _, _, _, hS, hl, hlc, hcm, hel⟩ := hr
    unfold maxLen at hcm hS
    cases h1 : (K == 1)
    · cases h2 : (K == 2)
      · have h12 : (K == 1 || K == 2) = false := by rw [h1, h2]; rfl
        cases h3 : (K == 3)
        · cases h4 : (K == 4)
          · have H := Lib.hid (show Ending.returned (.int .i64 1) = .returned (.int .i64 (sizeT (n + 1) (K, I, F, S, L))) by rw [sizeT_else h12 h3 h4])
            clear hel hl h12
            go_enter Try.func25, Try.ntmps25
            go_wp2
            go_ret
            exact ⟨H.out, br.alloc (Nat.le_refl _) _⟩
          · have H0 := Lib.hid (sizeT_list (n := n) (I := I) (F := F) (S := S) (L := L) h12 h3 h4)
            have HL := Lib.hid hl
            have HE := Lib.hid hel
            clear hl hel h12
            go_enter Try.func25, Try.ntmps25
            go_wp2
            have RS0 := row_alloc w #[.int .i64 K, .int .i64 I, .float .f64 F, .string S, .slice p l c] 27
            go_loopw [3, 4] (fun a i wr => ∃ k : Nat, k ≤ l ∧ i = .int .i64 k ∧ a = .int .i64 ((L.take k).foldl (fun a x => wrap64 (a + sizeT n x)) 2) ∧ Below w.heap.size w wr ∧ wr.heap[w.heap.size]? = some (.cells #[.int .i64 K, .int .i64 I, .float .f64 F, .string S, .slice p l c] 27 (0, 0))) (fun _ i _ => l - (intOf i).toNat)
            case atStart => exact ⟨0, by omega, rfl, rfl, br.alloc (Nat.le_refl _) _, RS0⟩
            case round =>
              obtain ⟨k, hk, rfl, rfl, hB, RS⟩ := hrel
              clear RS0
              have s0 := rc RS 4
              simp only [lk0, lk1, lk2] at s0
              have HB := Lib.hid hB
              have HRS := Lib.hid RS
              by_cases hlt : k < l
              · obtain ⟨b, off, hp, hi⟩ := HE.out (by omega)
                subst hp
                have hkl : k < L.length := by have := HL.out; simpa using (this.symm ▸ hlt)
                obtain ⟨v0, v1, v2, v3, v4, c0, c1, c2, c3, c4, hr⟩ := hi k hkl
                have hr' := rep_keep hB n _ _ hr
                have e0 := ck hB c0
                have e1 := ck hB c1
                have e2 := ck hB c2
                have e3 := ck hB c3
                have e4 := ck hB c4
                clear c0 c1 c2 c3 c4 hr hi hB RS
                have HR := Lib.hid hr'
                clear hr'
                have Htake : Hid _ := Lib.hid (show (L.take (k + 1)).foldl (fun a x => wrap64 (a + sizeT n x)) 2 = wrap64 ((L.take k).foldl (fun a x => wrap64 (a + sizeT n x)) 2 + sizeT n L[k]) by rw [List.take_succ_eq_append_getElem hkl, List.foldl_append]; rfl)
                generalize (L.take k).foldl (fun a x => wrap64 (a + sizeT n x)) 2 = acc at *
                go_wp2_with fail
                go_at_call 25; refine (IH.out _ _ _ HR.out).mono ?_; rintro e w1 ⟨rfl, hb1⟩
                have HB1 := Lib.hid (bel_step HB.out hb1)
                have HR1 := Lib.hid (row_step HRS.out hb1)
                clear hb1 e0 e1 e2 e3 e4 HB HRS s0 HR
                go_wp2
                go_roundw
                case rel => exact ⟨k + 1, by omega, by go_num, by rw [Htake.out], HB1.out, HR1.out⟩
                case measure => simp [intOf]; omega
              · have H1 := Lib.hid (show Ending.returned (.int .i64 ((L.take k).foldl (fun a x => wrap64 (a + sizeT n x)) 2)) = .returned (.int .i64 (sizeT (n + 1) (K, I, F, S, L))) by
                  have e : L.take k = L := List.take_of_length_le (by have : L.length = l := HL.out; omega)
                  rw [H0.out, e])
                clear hB RS
                generalize (L.take k).foldl (fun a x => wrap64 (a + sizeT n x)) 2 = acc at *
                go_wp2
                go_ret
                exact ⟨H1.out, HB.out⟩
        · have H := Lib.hid (show Ending.returned (.int .i64 (wrap64 (3 + (S.size : Int)))) = .returned (.int .i64 (sizeT (n + 1) (K, I, F, S, L))) by rw [sizeT_text h12 h3])
          clear hel hl h12 hS
          go_enter Try.func25, Try.ntmps25
          go_wp2
          go_ret
          exact ⟨H.out, br.alloc (Nat.le_refl _) _⟩
      · have H := Lib.hid (show Ending.returned (.int .i64 9) = .returned (.int .i64 (sizeT (n + 1) (K, I, F, S, L))) by rw [sizeT_num (by rw [h1, h2]; rfl)])
        clear hel hl
        go_enter Try.func25, Try.ntmps25
        go_wp2
        go_ret
        exact ⟨H.out, br.alloc (Nat.le_refl _) _⟩
    · have H := Lib.hid (show Ending.returned (.int .i64 9) = .returned (.int .i64 (sizeT (n + 1) (K, I, F, S, L))) by rw [sizeT_num (by rw [h1]; rfl)])
      clear hel hl
      go_enter Try.func25, Try.ntmps25
      go_wp2
      go_ret
      exact ⟨H.out, br.alloc (Nat.le_refl _) _⟩
end Num
end Go.Proofs.Yteodljkcbddehaa
/-
  What package value measures of a value: strays, lengths, depth, size: plain functions on trees; (measure).with.
-/
namespace Go.Proofs.Yteodljkcbddehaa
open Go.RowKit
namespace Num
open Ints
set_option linter.unusedSimpArgs false
set_option linter.unusedVariables false
abbrev Me := Bool × Bool × Int × Int
def meV (m : Me) : Value := .agg #[.bool m.1, .bool m.2.1, .int .i64 m.2.2.1, .int .i64 m.2.2.2]
def withM (m i : Me) : Me := (m.1 || i.1, m.2.1 || i.2.1, if m.2.2.1 < wrap64 (i.2.2.1 + 1) then wrap64 (i.2.2.1 + 1) else m.2.2.1, if wrap64 (9223372036854775807 - i.2.2.2) < m.2.2.2 then 9223372036854775807 else wrap64 (m.2.2.2 + i.2.2.2))
set_option maxHeartbeats 4000000 in
theorem with_any (s1 l1 : Bool) (d1 z1 : Int) (s2 l2 : Bool) (d2 z2 : Int) (w : World) : Calls Try.prog 87 #[.agg #[.bool s1, .bool l1, .int .i64 d1, .int .i64 z1], .agg #[.bool s2, .bool l2, .int .i64 d2, .int .i64 z2]] w fun e w' => e = .returned (meV (withM (s1, l1, d1, z1) (s2, l2, d2, z2))) ∧ Below w.heap.size w w' := by
  by_cases hz : wrap64 (9223372036854775807 - z2) < z1
  · by_cases hd : d1 < wrap64 (d2 + 1)
    · cases s1 <;> cases l1
      · have H := Lib.hid (show Ending.returned (.agg #[.bool s2, .bool l2, .int .i64 (wrap64 (d2 + 1)), .int .i64 9223372036854775807]) = .returned (meV (withM (false, false, d1, z1) (s2, l2, d2, z2))) by simp [meV, withM, hd, hz])
        go_enter Try.func87, Try.ntmps87
        go_wp2
        exact bodyPost_ret (v := .agg #[.bool s2, .bool l2, .int .i64 (wrap64 (d2 + 1)), .int .i64 9223372036854775807]) (by simp [results, Try.results87, go_sem]) rfl ⟨H.out, below3 _ _ _ _⟩
      · have H := Lib.hid (show Ending.returned (.agg #[.bool s2, .bool true, .int .i64 (wrap64 (d2 + 1)), .int .i64 9223372036854775807]) = .returned (meV (withM (false, true, d1, z1) (s2, l2, d2, z2))) by simp [meV, withM, hd, hz])
        go_enter Try.func87, Try.ntmps87
        go_wp2
        exact bodyPost_ret (v := .agg #[.bool s2, .bool true, .int .i64 (wrap64 (d2 + 1)), .int .i64 9223372036854775807]) (by simp [results, Try.results87, go_sem]) rfl ⟨H.out, below3 _ _ _ _⟩
      · have H := Lib.hid (show Ending.returned (.agg #[.bool true, .bool l2, .int .i64 (wrap64 (d2 + 1)), .int .i64 9223372036854775807]) = .returned (meV (withM (true, false, d1, z1) (s2, l2, d2, z2))) by simp [meV, withM, hd, hz])
        go_enter Try.func87, Try.ntmps87
        go_wp2
        exact bodyPost_ret (v := .agg #[.bool true, .bool l2, .int .i64 (wrap64 (d2 + 1)), .int .i64 9223372036854775807]) (by simp [results, Try.results87, go_sem]) rfl ⟨H.out, below3 _ _ _ _⟩
      · have H := Lib.hid (show Ending.returned (.agg #[.bool true, .bool true, .int .i64 (wrap64 (d2 + 1)), .int .i64 9223372036854775807]) = .returned (meV (withM (true, true, d1, z1) (s2, l2, d2, z2))) by simp [meV, withM, hd, hz])
        go_enter Try.func87, Try.ntmps87
        go_wp2
        exact bodyPost_ret (v := .agg #[.bool true, .bool true, .int .i64 (wrap64 (d2 + 1)), .int .i64 9223372036854775807]) (by simp [results, Try.results87, go_sem]) rfl ⟨H.out, below3 _ _ _ _⟩
    · cases s1 <;> cases l1
      · have H := Lib.hid (show Ending.returned (.agg #[.bool s2, .bool l2, .int .i64 d1, .int .i64 9223372036854775807]) = .returned (meV (withM (false, false, d1, z1) (s2, l2, d2, z2))) by simp [meV, withM, hd, hz])
        go_enter Try.func87, Try.ntmps87
        go_wp2
        exact bodyPost_ret (v := .agg #[.bool s2, .bool l2, .int .i64 d1, .int .i64 9223372036854775807]) (by simp [results, Try.results87, go_sem]) rfl ⟨H.out, below3 _ _ _ _⟩
      · have H := Lib.hid (show Ending.returned (.agg #[.bool s2, .bool true, .int .i64 d1, .int .i64 9223372036854775807]) = .returned (meV (withM (false, true, d1, z1) (s2, l2, d2, z2))) by simp [meV, withM, hd, hz])
        go_enter Try.func87, Try.ntmps87
        go_wp2
        exact bodyPost_ret (v := .agg #[.bool s2, .bool true, .int .i64 d1, .int .i64 9223372036854775807]) (by simp [results, Try.results87, go_sem]) rfl ⟨H.out, below3 _ _ _ _⟩
      · have H := Lib.hid (show Ending.returned (.agg #[.bool true, .bool l2, .int .i64 d1, .int .i64 9223372036854775807]) = .returned (meV (withM (true, false, d1, z1) (s2, l2, d2, z2))) by simp [meV, withM, hd, hz])
        go_enter Try.func87, Try.ntmps87
        go_wp2
        exact bodyPost_ret (v := .agg #[.bool true, .bool l2, .int .i64 d1, .int .i64 9223372036854775807]) (by simp [results, Try.results87, go_sem]) rfl ⟨H.out, below3 _ _ _ _⟩
      · have H := Lib.hid (show Ending.returned (.agg #[.bool true, .bool true, .int .i64 d1, .int .i64 9223372036854775807]) = .returned (meV (withM (true, true, d1, z1) (s2, l2, d2, z2))) by simp [meV, withM, hd, hz])
        go_enter Try.func87, Try.ntmps87
        go_wp2
        exact bodyPost_ret (v := .agg #[.bool true, .bool true, .int .i64 d1, .int .i64 9223372036854775807]) (by simp [results, Try.results87, go_sem]) rfl ⟨H.out, below3 _ _ _ _⟩
  · by_cases hd : d1 < wrap64 (d2 + 1)
    · cases s1 <;> cases l1
      · have H := Lib.hid (show Ending.returned (.agg #[.bool s2, .bool l2, .int .i64 (wrap64 (d2 + 1)), .int .i64 (wrap64 (z1 + z2))]) = .returned (meV (withM (false, false, d1, z1) (s2, l2, d2, z2))) by simp [meV, withM, hd, hz])
        go_enter Try.func87, Try.ntmps87
        go_wp2
        exact bodyPost_ret (v := .agg #[.bool s2, .bool l2, .int .i64 (wrap64 (d2 + 1)), .int .i64 (wrap64 (z1 + z2))]) (by simp [results, Try.results87, go_sem]) rfl ⟨H.out, below3 _ _ _ _⟩
      · have H := Lib.hid (show Ending.returned (.agg #[.bool s2, .bool true, .int .i64 (wrap64 (d2 + 1)), .int .i64 (wrap64 (z1 + z2))]) = .returned (meV (withM (false, true, d1, z1) (s2, l2, d2, z2))) by simp [meV, withM, hd, hz])
        go_enter Try.func87, Try.ntmps87
        go_wp2
        exact bodyPost_ret (v := .agg #[.bool s2, .bool true, .int .i64 (wrap64 (d2 + 1)), .int .i64 (wrap64 (z1 + z2))]) (by simp [results, Try.results87, go_sem]) rfl ⟨H.out, below3 _ _ _ _⟩
      · have H := Lib.hid (show Ending.returned (.agg #[.bool true, .bool l2, .int .i64 (wrap64 (d2 + 1)), .int .i64 (wrap64 (z1 + z2))]) = .returned (meV (withM (true, false, d1, z1) (s2, l2, d2, z2))) by simp [meV, withM, hd, hz])
        go_enter Try.func87, Try.ntmps87
        go_wp2
        exact bodyPost_ret (v := .agg #[.bool true, .bool l2, .int .i64 (wrap64 (d2 + 1)), .int .i64 (wrap64 (z1 + z2))]) (by simp [results, Try.results87, go_sem]) rfl ⟨H.out, below3 _ _ _ _⟩
      · have H := Lib.hid (show Ending.returned (.agg #[.bool true, .bool true, .int .i64 (wrap64 (d2 + 1)), .int .i64 (wrap64 (z1 + z2))]) = .returned (meV (withM (true, true, d1, z1) (s2, l2, d2, z2))) by simp [meV, withM, hd, hz])
        go_enter Try.func87, Try.ntmps87
        go_wp2
        exact bodyPost_ret (v := .agg #[.bool true, .bool true, .int .i64 (wrap64 (d2 + 1)), .int .i64 (wrap64 (z1 + z2))]) (by simp [results, Try.results87, go_sem]) rfl ⟨H.out, below3 _ _ _ _⟩
    · cases s1 <;> cases l1
      · have H := Lib.hid (show Ending.returned (.agg #[.bool s2, .bool l2, .int .i64 d1, .int .i64 (wrap64 (z1 + z2))]) = .returned (meV (withM (false, false, d1, z1) (s2, l2, d2, z2))) by simp [meV, withM, hd, hz])
        go_enter Try.func87, Try.ntmps87
        go_wp2
        exact bodyPost_ret (v := .agg #[.bool s2, .bool l2, .int .i64 d1, .int .i64 (wrap64 (z1 + z2))]) (by simp [results, Try.results87, go_sem]) rfl ⟨H.out, below3 _ _ _ _⟩
      · have H := Lib.hid (show Ending.returned (.agg #[.bool s2, .bool true, .int .i64 d1, .int .i64 (wrap64 (z1 + z2))]) = .returned (meV (withM (false, true, d1, z1) (s2, l2, d2, z2))) by simp [meV, withM, hd, hz])
        go_enter Try.func87, Try.ntmps87
        go_wp2
        exact bodyPost_ret (v := .agg #[.bool s2, .bool true, .int .i64 d1, .int .i64 (wrap64 (z1 + z2))]) (by simp [results, Try.results87, go_sem]) rfl ⟨H.out, below3 _ _ _ _⟩
      · have H := Lib.hid (show Ending.returned (.agg #[.bool true, .bool l2, .int .i64 d1, .int .i64 (wrap64 (z1 + z2))]) = .returned (meV (withM (true, false, d1, z1) (s2, l2, d2, z2))) by simp [meV, withM, hd, hz])
        go_enter Try.func87, Try.ntmps87
        go_wp2
        exact bodyPost_ret (v := .agg #[.bool true, .bool l2, .int .i64 d1, .int .i64 (wrap64 (z1 + z2))]) (by simp [results, Try.results87, go_sem]) rfl ⟨H.out, below3 _ _ _ _⟩
      · have H := Lib.hid (show Ending.returned (.agg #[.bool true, .bool true, .int .i64 d1, .int .i64 (wrap64 (z1 + z2))]) = .returned (meV (withM (true, true, d1, z1) (s2, l2, d2, z2))) by simp [meV, withM, hd, hz])
        go_enter Try.func87, Try.ntmps87
        go_wp2
        exact bodyPost_ret (v := .agg #[.bool true, .bool true, .int .i64 d1, .int .i64 (wrap64 (z1 + z2))]) (by simp [results, Try.results87, go_sem]) rfl ⟨H.out, below3 _ _ _ _⟩
def measT : (n : Nat) → VT n → Me
  | 0, _ => (false, false, 0, 0)
  | n + 1, T => if (T.1 == 0) = true then (false, false, 0, 1) else if (T.1 == 1 || T.1 == 2) = true then (false, false, 0, 9)
      else if (T.1 == 3) = true then (false, decide (256 < (T.2.2.2.1.size : Int)), 0, wrap64 (3 + (T.2.2.2.1.size : Int)))
      else if (T.1 == 4) = true then T.2.2.2.2.foldl (fun a x => withM a (measT n x)) (false, decide (64 < (T.2.2.2.2.length : Int)), 1, 2) else (true, false, 0, 1)
def partsT : (n : Nat) → VT n → Nat
  | 0, _ => 1
  | n + 1, T => if (T.1 == 4) = true then T.2.2.2.2.foldl (fun a x => a + partsT n x) 1 else 1
theorem measT_nil {n : Nat} {K I : Int} {F : Nat} {S : ByteArray} {L : List (VT n)} (h : (K == 0) = true) : measT (n + 1) (K, I, F, S, L) = (false, false, 0, 1) := by
  show (if (K == 0) = true then _ else _) = _
  rw [if_pos h]
theorem measT_num {n : Nat} {K I : Int} {F : Nat} {S : ByteArray} {L : List (VT n)} (h0 : (K == 0) = false) (h : (K == 1 || K == 2) = true) : measT (n + 1) (K, I, F, S, L) = (false, false, 0, 9) := by
  show (if (K == 0) = true then _ else if (K == 1 || K == 2) = true then _ else _) = _
  rw [if_neg (by rw [h0]; simp), if_pos h]
theorem measT_text {n : Nat} {K I : Int} {F : Nat} {S : ByteArray} {L : List (VT n)} (h0 : (K == 0) = false) (h : (K == 1 || K == 2) = false) (h3 : (K == 3) = true) : measT (n + 1) (K, I, F, S, L) = (false, decide (256 < (S.size : Int)), 0, wrap64 (3 + (S.size : Int))) := by
  show (if (K == 0) = true then _ else if (K == 1 || K == 2) = true then _ else if (K == 3) = true then _ else _) = _
  rw [if_neg (by rw [h0]; simp), if_neg (by rw [h]; simp), if_pos h3]
theorem measT_list {n : Nat} {K I : Int} {F : Nat} {S : ByteArray} {L : List (VT n)} (h0 : (K == 0) = false) (h : (K == 1 || K == 2) = false) (h3 : (K == 3) = false) (h4 : (K == 4) = true) : measT (n + 1) (K, I, F, S, L) = L.foldl (fun a x => withM a (measT n x)) (false, decide (64 < (L.length : Int)), 1, 2) := by
  show (if (K == 0) = true then _ else if (K == 1 || K == 2) = true then _ else if (K == 3) = true then _ else if (K == 4) = true then _ else _) = _
  rw [if_neg (by rw [h0]; simp), if_neg (by rw [h]; simp), if_neg (by rw [h3]; simp), if_pos h4]
theorem measT_else {n : Nat} {K I : Int} {F : Nat} {S : ByteArray} {L : List (VT n)} (h0 : (K == 0) = false) (h : (K == 1 || K == 2) = false) (h3 : (K == 3) = false) (h4 : (K == 4) = false) : measT (n + 1) (K, I, F, S, L) = (true, false, 0, 1) := by
  show (if (K == 0) = true then _ else if (K == 1 || K == 2) = true then _ else if (K == 3) = true then _ else if (K == 4) = true then _ else _) = _
  rw [if_neg (by rw [h0]; simp), if_neg (by rw [h]; simp), if_neg (by rw [h3]; simp), if_neg (by rw [h4]; simp)]
theorem partsT_list {n : Nat} {K I : Int} {F : Nat} {S : ByteArray} {L : List (VT n)} (h4 : (K == 4) = true) : partsT (n + 1) (K, I, F, S, L) = L.foldl (fun a x => a + partsT n x) 1 := by
  show (if (K == 4) = true then _ else _) = _
  rw [if_pos h4]
theorem partsT_else {n : Nat} {K I : Int} {F : Nat} {S : ByteArray} {L : List (VT n)} (h4 : (K == 4) = false) : partsT (n + 1) (K, I, F, S, L) = 1 := by
  show (if (K == 4) = true then _ else _) = _
  rw [if_neg (by rw [h4]; simp)]
theorem foldl_parts {n : Nat} (L : List (VT n)) : ∀ a : Nat, a ≤ L.foldl (fun a x => a + partsT n x) a := by
  induction L with
  | nil => intro a; exact Nat.le_refl _
  | cons x xs ih => intro a; rw [List.foldl_cons]; exact Nat.le_trans (Nat.le_add_right _ _) (ih _)
theorem parts_prefix {n : Nat} (L : List (VT n)) (k : Nat) (hk : k < L.length) (a : Nat) : (L.take k).foldl (fun a x => a + partsT n x) a + partsT n L[k] ≤ L.foldl (fun a x => a + partsT n x) a := by
  conv => rhs; rw [← List.take_append_drop k L, List.foldl_append, List.drop_eq_getElem_cons hk, List.foldl_cons]
  exact foldl_parts _ _
end Num
end Go.Proofs.Yteodljkcbddehaa
/-
  A value as Clean makes it.
-/
namespace Go.Proofs.Yteodljkcbddehaa
open Go.RowKit
namespace Num
open Ints
set_option linter.unusedSimpArgs false
set_option linter.unusedVariables false
def cleanT : (n : Nat) → VT n → VT n
  | 0, T => T
  | n + 1, T => if (T.1 == 1) = true then (1, T.2.1, 0, ⟨#[]⟩, []) else if (T.1 == 2) = true then (2, 0, Flo.canon T.2.2.1, ⟨#[]⟩, [])
      else if (T.1 == 3) = true then (3, 0, 0, T.2.2.2.1, []) else if (T.1 == 4) = true then (4, 0, 0, ⟨#[]⟩, T.2.2.2.2.map (cleanT n)) else (0, 0, 0, ⟨#[]⟩, [])
end Num
end Go.Proofs.Yteodljkcbddehaa
/-
  What the reference's Check looks at: plain.
-/
namespace Go.Proofs.Yteodljkcbddehaa
open Go.RowKit
namespace Num
open Ints
set_option linter.unusedSimpArgs false
set_option linter.unusedVariables false
end Num
end Go.Proofs.Yteodljkcbddehaa
/-
  The reference's Deep; Light: which values may be asked.
-/
namespace Go.Proofs.Yteodljkcbddehaa
open Go.RowKit
namespace Num
open Ints
set_option linter.unusedSimpArgs false
set_option linter.unusedVariables false
theorem deep_any : ∀ (n : Nat) (v : Value) (T : VT n) (m : Nat) (hm : m ≤ 1000) (w : World) (hr : Rep w n v T), Calls Try.prog 24 #[v, .int .i64 m] w fun e w' => e = .returned (.bool (deepT n T m)) ∧ Below w.heap.size w w' := by
  intro n
  induction n with
  | zero => intro v T m hm w h; exact h.elim
  | succ n ih =>
    intro v T m hm w hr
    have IH := Lib.hid ih
    clear ih
    obtain ⟨K, I, F, S, L⟩ := T
    obtain ⟨p, l, c, rfl, _, _, _, _, hl, hlc, hcm, hel⟩ := hr
    unfold maxLen at hcm
    cases h1 : (K == 4)
    · have H := Lib.hid (show Ending.returned (.bool false) = .returned (.bool (deepT (n + 1) (K, I, F, S, L) m)) by rw [deepT_not h1])
      have h1' : (K != 4) = true := by rw [bne, h1]; rfl
      clear hel hl
      go_enter Try.func24, Try.ntmps24
      go_wp2
      go_ret
      exact ⟨H.out, br.alloc (Nat.le_refl _) _⟩
    have h1' : (K != 4) = false := by rw [bne, h1]; rfl
    cases m with
    | zero =>
      have H := Lib.hid (show Ending.returned (.bool true) = .returned (.bool (deepT (n + 1) (K, I, F, S, L) 0)) by rw [deepT_zero h1])
      clear hel hl
      go_enter Try.func24, Try.ntmps24
      go_wp2
      go_ret
      exact ⟨H.out, br.alloc (Nat.le_refl _) _⟩
    | succ m =>
      have H0 := Lib.hid (deepT_succ (n := n) (I := I) (F := F) (S := S) (L := L) (m := m) h1)
      have hm0 : (((m + 1 : Nat) : Int) == 0) = false := by simp; omega
      have HL := Lib.hid hl
      have HE := Lib.hid hel
      clear hl hel
      go_enter Try.func24, Try.ntmps24
      go_wp2
      have RS0 := row_alloc w #[.int .i64 K, .int .i64 I, .float .f64 F, .string S, .slice p l c] 27
      go_loopw [5] (fun i wr => ∃ k : Nat, k ≤ l ∧ i = .int .i64 k ∧ Below w.heap.size w wr ∧ wr.heap[w.heap.size]? = some (.cells #[.int .i64 K, .int .i64 I, .float .f64 F, .string S, .slice p l c] 27 (0, 0)) ∧ Hid ((L.take k).any (fun x => deepT n x m) = false)) (fun i _ => l - (intOf i).toNat)
      case atStart => exact ⟨0, by omega, rfl, br.alloc (Nat.le_refl _) _, RS0, Lib.hid rfl⟩
      case round =>
        obtain ⟨k, hk, rfl, hB, RS, HK⟩ := hrel
        clear RS0
        have s0 := rc RS 4
        simp only [lk0, lk1, lk2] at s0
        have HB := Lib.hid hB
        have HRS := Lib.hid RS
        by_cases hlt : k < l
        · obtain ⟨b, off, hp, hi⟩ := HE.out (by omega)
          subst hp
          have hkl : k < L.length := by have := HL.out; simpa using (this.symm ▸ hlt)
          obtain ⟨v0, v1, v2, v3, v4, c0, c1, c2, c3, c4, hr⟩ := hi k hkl
          have hr' := rep_keep hB n _ _ hr
          have e0 := ck hB c0
          have e1 := ck hB c1
          have e2 := ck hB c2
          have e3 := ck hB c3
          have e4 := ck hB c4
          clear c0 c1 c2 c3 c4 hr hi hB RS
          have HR := Lib.hid hr'
          clear hr'
          have Htake : Hid _ := Lib.hid (show (L.take (k + 1)).any (fun x => deepT n x m) = ((L.take k).any (fun x => deepT n x m) || deepT n L[k] m) by rw [List.take_succ_eq_append_getElem hkl, List.any_append]; simp)
          have Hany : Hid _ := Lib.hid (show deepT n L[k] m = true → (L.any fun x => deepT n x m) = true from fun h => List.any_eq_true.2 ⟨L[k], List.getElem_mem hkl, h⟩)
          cases hd : deepT n L[k] m
          · have HN := Lib.hid (show (L.take (k + 1)).any (fun x => deepT n x m) = false by rw [Htake.out, HK.out, hd]; rfl)
            clear Htake Hany HK
            go_wp2_with fail
            go_at_call 24; refine (IH.out _ _ _ (by omega) _ HR.out).mono ?_; rintro e w1 ⟨rfl, hb1⟩
            have HB1 := Lib.hid (bel_step HB.out hb1)
            have HR1 := Lib.hid (row_step HRS.out hb1)
            clear hb1 e0 e1 e2 e3 e4 HB HRS s0 HR
            go_wp2
            go_roundw
            case rel => exact ⟨k + 1, by omega, by go_num, HB1.out, HR1.out, HN⟩
            case measure => simp [intOf]; omega
          · have H1 := Lib.hid (show Ending.returned (.bool true) = .returned (.bool (deepT (n + 1) (K, I, F, S, L) (m + 1))) by rw [H0.out, Hany.out hd])
            clear Htake Hany HK
            go_wp2_with fail
            go_at_call 24; refine (IH.out _ _ _ (by omega) _ HR.out).mono ?_; rintro e w1 ⟨rfl, hb1⟩
            have HB1 := Lib.hid (bel_step HB.out hb1)
            clear hb1 e0 e1 e2 e3 e4 HB HRS s0 HR
            go_wp2
            go_ret
            exact ⟨H1.out, HB1.out⟩
        · have H1 := Lib.hid (show Ending.returned (.bool false) = .returned (.bool (deepT (n + 1) (K, I, F, S, L) (m + 1))) by
            have e : L.take k = L := List.take_of_length_le (by have : L.length = l := HL.out; omega)
            have h2 := HK.out
            rw [e] at h2
            rw [H0.out, h2])
          clear HK hB RS
          go_wp2
          go_ret
          exact ⟨H1.out, HB.out⟩

def lightT (n : Nat) (T : VT n) : Bool := !deepT n T 20 && decide (sizeT n T ≤ 6000)
theorem light_any (n : Nat) (v : Value) (T : VT n) (w : World) (hr : Rep w n v T) : Calls Try.prog 14 #[v] w fun e w' => e = .returned (.bool (lightT n T)) ∧ Below w.heap.size w w' := by
  have HR := Lib.hid hr
  cases n with
  | zero => exact hr.elim
  | succ n =>
    obtain ⟨K, I, F, S, L⟩ := T
    obtain ⟨p, l, c, rfl, _, _, _, _, _⟩ := hr
    have R1 := Lib.hid (rep_keep ((Below.refl w.heap.size w).alloc (Nat.le_refl _) (.cells #[.int .i64 K, .int .i64 I, .float .f64 F, .string S, .slice p l c] 27)) _ _ _ HR.out)
    cases hd : deepT (n + 1) (K, I, F, S, L) 20
    · have H := Lib.hid (show Ending.returned (.bool (decide (sizeT (n + 1) (K, I, F, S, L) ≤ 6000))) = .returned (.bool (lightT (n + 1) (K, I, F, S, L))) by unfold lightT; rw [hd]; rfl)
      go_enter Try.func14, Try.ntmps14
      go_wp2_with fail
      go_at_call 24; refine (deep_any _ _ _ 20 (by omega) _ R1.out).mono ?_; rintro e w1 ⟨rfl, hb1⟩
      have RS := row_step (row_alloc w #[.int .i64 K, .int .i64 I, .float .f64 F, .string S, .slice p l c] 27) hb1
      have c0 := rc RS 0
      have c1 := rc RS 1
      have c2 := rc RS 2
      have c3 := rc RS 3
      have c4 := rc RS 4
      simp only [lk0, lk1, lk2] at c0 c1 c2 c3 c4
      have R2 := Lib.hid (rep_keep hb1 _ _ _ R1.out)
      have HB := Lib.hid (bel_step ((Below.refl w.heap.size w).alloc (Nat.le_refl _) (.cells #[.int .i64 K, .int .i64 I, .float .f64 F, .string S, .slice p l c] 27)) hb1)
      clear RS hb1
      go_wp2_with fail
      go_at_call 25; refine (size_any _ _ _ _ R2.out).mono ?_; rintro e w2 ⟨rfl, hb2⟩
      have HB2 := Lib.hid (bel_step HB.out hb2)
      clear hb2 c0 c1 c2 c3 c4
      go_wp2
      go_ret
      exact ⟨H.out, HB2.out⟩
    · have H := Lib.hid (show Ending.returned (.bool false) = .returned (.bool (lightT (n + 1) (K, I, F, S, L))) by unfold lightT; rw [hd]; rfl)
      go_enter Try.func14, Try.ntmps14
      go_wp2_with fail
      go_at_call 24; refine (deep_any _ _ _ 20 (by omega) _ R1.out).mono ?_; rintro e w1 ⟨rfl, hb1⟩
      have HB := Lib.hid (bel_step ((Below.refl w.heap.size w).alloc (Nat.le_refl _) (.cells #[.int .i64 K, .int .i64 I, .float .f64 F, .string S, .slice p l c] 27)) hb1)
      clear hb1
      go_wp2
      go_ret
      exact ⟨H.out, HB.out⟩
end Num
end Go.Proofs.Yteodljkcbddehaa
/-
  Lights; a slice of values that came in leads to trees.
-/
namespace Go.Proofs.Yteodljkcbddehaa
open Go.RowKit Go.ChangeShapes Go.WideShapes
namespace Num
open Ints
set_option linter.unusedSimpArgs false
set_option linter.unusedVariables false
set_option maxHeartbeats 1000000 in
theorem lights_any (n : Nat) (p : Option Addr) (l c : Nat) (L : List (VT (n + 1))) (w : World) (h : RepL w (Rep w (n + 1)) p l c L) :
    Calls Try.prog 6 #[.slice p l c] w fun e w' => e = .returned (.bool (decide (l ≤ 40) && L.all (lightT (n + 1)))) ∧ Below w.heap.size w w' := by
  obtain ⟨hl, hlc, hcm, hel⟩ := h
  unfold maxLen at hcm
  have HL := Lib.hid hl
  have HE := Lib.hid hel
  clear hl hel
  by_cases h40 : l ≤ 40
  · have HH := Lib.hid (show ∀ b, b = L.all (lightT (n + 1)) → Ending.returned (.bool b) = .returned (.bool (decide (l ≤ 40) && L.all (lightT (n + 1)))) from fun b hb => by rw [hb]; simp [h40])
    go_enter Try.func6, Try.ntmps6
    go_wp2
    go_loopw [3] (fun i wr => ∃ k : Nat, k ≤ l ∧ i = .int .i64 k ∧ Below w.heap.size w wr ∧ Hid ((L.take k).all (lightT (n + 1)) = true)) (fun i _ => l - (intOf i).toNat)
    case atStart => exact ⟨0, by omega, rfl, Below.refl _ _, Lib.hid rfl⟩
    case round =>
      obtain ⟨k, hk, rfl, hB, HK⟩ := hrel
      have GB := Lib.hid hB
      by_cases hlt : k < l
      · obtain ⟨b, off, hp, hi⟩ := HE.out (by omega)
        subst hp
        have hkl : k < L.length := by have := HL.out; omega
        obtain ⟨v0, v1, v2, v3, v4, c0, c1, c2, c3, c4, hr⟩ := hi k hkl
        have HR := Lib.hid (rep_keep hB _ _ _ hr)
        have e0 := ck hB c0
        have e1 := ck hB c1
        have e2 := ck hB c2
        have e3 := ck hB c3
        have e4 := ck hB c4
        have Htake : Hid _ := Lib.hid (show (L.take (k + 1)).all (lightT (n + 1)) = ((L.take k).all (lightT (n + 1)) && lightT (n + 1) L[k]) by rw [List.take_succ_eq_append_getElem hkl, List.all_append]; simp)
        have Hall : Hid _ := Lib.hid (show lightT (n + 1) L[k] = false → false = L.all (lightT (n + 1)) from fun h => (List.all_eq_false.2 ⟨L[k], List.getElem_mem hkl, by rw [h]; simp⟩).symm)
        clear c0 c1 c2 c3 c4 hr hi hB
        cases hd : lightT (n + 1) L[k]
        · have HF := Lib.hid (HH.out false (Hall.out hd))
          clear Htake Hall HK HH
          go_wp2_with fail
          go_at_call 14; refine (light_any _ _ _ _ HR.out).mono ?_; rintro e w1 ⟨rfl, hb1⟩
          have GB1 := Lib.hid (bel_step GB.out hb1)
          clear hb1 e0 e1 e2 e3 e4 GB HR
          go_wp2
          go_ret
          exact ⟨HF.out, GB1.out⟩
        · have HN := Lib.hid (show (L.take (k + 1)).all (lightT (n + 1)) = true by rw [Htake.out, HK.out, hd]; rfl)
          clear Htake Hall HK
          go_wp2_with fail
          go_at_call 14; refine (light_any _ _ _ _ HR.out).mono ?_; rintro e w1 ⟨rfl, hb1⟩
          have GB1 := Lib.hid (bel_step GB.out hb1)
          clear hb1 e0 e1 e2 e3 e4 GB HR
          go_wp2
          go_roundw
          case rel => exact ⟨k + 1, by omega, by go_num, GB1.out, HN⟩
          case measure => simp [intOf]; omega
      · have HF := Lib.hid (HH.out true (by
          have e : L.take k = L := List.take_of_length_le (by have : L.length = l := HL.out; omega)
          rw [← HK.out, e]))
        clear hB HK HH
        go_wp2
        go_ret
        exact ⟨HF.out, GB.out⟩
  · have HF := Lib.hid (show Ending.returned (.bool false) = .returned (.bool (decide (l ≤ 40) && L.all (lightT (n + 1)))) by simp [h40])
    have h40' : 40 < l := by omega
    go_enter Try.func6, Try.ntmps6
    go_wp2
    go_ret
    exact ⟨HF.out, Below.refl _ _⟩
section
variable {H : Type} {enc : TypeId × Value → H} {w : World} {base : Nat} {spare : Nat → Bool} {held : Bool}
end
end Num
end Go.Proofs.Yteodljkcbddehaa
/-
  A list of acts that came in: what it reads as.
-/
namespace Go.Proofs.Yteodljkcbddehaa
open Go.RowKit Go.ChangeShapes Go.WideShapes
namespace Num
open Ints
set_option linter.unusedSimpArgs false
set_option linter.unusedVariables false
theorem cellsAct : Try.prog.cellsOf 31 = 2 := by kernel_rfl
theorem structAct : Try.prog.underlying 31 = some (.struct (Try.prog.fieldsOf 31)) := by kernel_rfl
theorem fieldsAct : (Try.prog.fieldsOf 31).toList.map (fun f => (f.type, f.offset, Try.prog.cellsOf f.type)) = [(5, 0, 1), (25, 1, 1)] := by kernel_rfl
theorem fields_at {t : TypeId} {l : List (TypeId × Nat × Nat)} (h : (Try.prog.fieldsOf t).toList.map (fun f => (f.type, f.offset, Try.prog.cellsOf f.type)) = l) : (Try.prog.fieldsOf t).size = l.length ∧ ∀ i (hi : i < l.length), ∃ f, (Try.prog.fieldsOf t)[i]? = some f ∧ (f.type, f.offset, Try.prog.cellsOf f.type) = l[i] := by
  have hs : (Try.prog.fieldsOf t).size = l.length := by
    have := congrArg List.length h
    simpa using this
  refine ⟨hs, fun i hi => ?_⟩
  have h1 : i < (Try.prog.fieldsOf t).size := by omega
  refine ⟨(Try.prog.fieldsOf t)[i], by simp [h1], ?_⟩
  have := congrArg (fun l => l[i]?) h
  simp only [List.getElem?_map, Array.getElem?_toList] at this
  rw [Array.getElem?_eq_getElem h1, List.getElem?_eq_getElem hi] at this
  exact Option.some.inj this
set_option maxRecDepth 100000 in
theorem wf_u8a {a : Int} (ha : (Lit.int .u8 a).wf = true) : 0 ≤ a ∧ a < 256 := by
  simp only [Lit.wf, decide_eq_true_eq, IntKind.min, IntKind.max] at ha
  have h1 : IntKind.u8.bits = 8 := rfl
  simp [IntKind.signed, h1] at ha
  omega
section
variable {H : Type} {enc : TypeId × Value → H} {w : World} {base : Nat} {spare : Nat → Bool} {held : Bool}
end
end Num
end Go.Proofs.Yteodljkcbddehaa
