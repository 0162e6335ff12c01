/-
  The reference's ids out of texts.
-/
import Derived.Test.YtbodakfgoijeeaaDoorIE
import Derived.Test.YtbodakfgoijeeaaDoorID
import Derived.Outline
namespace Go.Proofs.YtbodakfgoijeeaaDoor
open Go.RowKit Go.Sort Go.Lib
namespace Num
set_option linter.unusedSimpArgs false
set_option linter.unusedVariables false
def numV : Option (Nat × List UInt8) → Value
  | none => .tuple #[.int .u64 0, Str [], .bool false]
  | some (n, r) => .tuple #[.int .u64 n, Str r, .bool true]
theorem numR_none {M : Nat} {S : List UInt8} {a j : Nat} (h : scan M 0 S = (a, S.drop j)) (hj : j ≤ S.length) (hc : j = 0 ∨ M < a ∨ (1 < j ∧ S.head? = some 48)) : numR M S = none := by
  unfold numR
  rw [h]
  have e : S.length - (S.drop j).length = j := by rw [List.length_drop]; omega
  simp only [e]
  rw [if_pos hc]
theorem numR_good {M : Nat} {S : List UInt8} {a j : Nat} (h : scan M 0 S = (a, S.drop j)) (hj : j ≤ S.length) (h1 : ¬ j = 0) (h2 : ¬ M < a) (h3 : ¬ (1 < j ∧ S.head? = some 48)) : numR M S = some (a, S.drop j) := by
  unfold numR
  rw [h]
  have e : S.length - (S.drop j).length = j := by rw [List.length_drop]; omega
  simp only [e]
  rw [if_neg (by rintro (h | h | h); exact h1 h; exact h2 h; exact h3 h)]
theorem sb_at (S : List UInt8) (i : Nat) (hi : i < S.length) (W : World) : (Instr.index 9 (.string (SB S)) (.int .i64 i)).run Tryd.prog W = .ok (.int .u8 ((S[i].toNat : Nat) : Int)) W := by
  rw [run_index_string W 9 (SB S) .i64 _ Tryd.underlying9, dif_pos ⟨by omega, by rw [sb_size]; omega⟩]
  have e : ((i : Int)).toNat = i := by omega
  simp only [e]
  rfl
theorem sb_at0 (S : List UInt8) (hi : 0 < S.length) (W : World) : (Instr.index 9 (.string (SB S)) (.int .i64 0)).run Tryd.prog W = .ok (.int .u8 ((S[0].toNat : Nat) : Int)) W := sb_at S 0 hi W
theorem head48 (S : List UInt8) (h : 0 < S.length) {y : Nat} (hy : y = S[0].toNat) : S.head? = some 48 ↔ y = 48 := by
  cases S with
  | nil => simp at h
  | cons c r =>
    simp only [List.getElem_cons_zero] at hy
    subst hy
    simp only [List.head?_cons, Option.some.injEq]
    constructor
    · rintro rfl; rfl
    · intro e; exact UInt8.toNat_inj.1 (by rw [e]; rfl)
theorem sb_drop (S : List UInt8) (j : Nat) : (SB S).extract j S.length = SB (S.drop j) := by
  have e : ∀ a b : ByteArray, a.data.toList = b.data.toList → a = b := fun a b h => by cases a; cases b; simp_all
  apply e
  rw [Lib.extract_data]
  show List.take _ (List.drop j S) = List.drop j S
  exact List.take_of_length_le (by rw [List.length_drop]; exact Nat.le_refl _)
theorem sb_tail (S : List UInt8) (j : Nat) (hj : j ≤ S.length) (W : World) : (Instr.slice 9 (.string (SB S)) (some (.int .i64 j)) none none).run Tryd.prog W = .ok (.string (SB (S.drop j))) W := by
  rw [run_slice_string_l W 9 (SB S) Tryd.underlying9 .i64 j (by omega) (by rw [sb_size]; omega)]
  rw [show ((j : Int)).toNat = j by omega, sb_size, sb_drop]
theorem scan_stop {M a : Nat} {R : List UInt8} (h : ∀ c ∈ R.head?, ¬ (dig c ∧ a ≤ M)) : scan M a R = (a, R) := by
  cases R with
  | nil => rfl
  | cons c r => unfold scan; rw [if_neg (h c (by simp))]
theorem scan_go {M a : Nat} {S : List UInt8} {j : Nat} (hj : j < S.length) (h : dig S[j] ∧ a ≤ M) : scan M a (S.drop j) = scan M (a * 10 + (S[j].toNat - 48)) (S.drop (j + 1)) := by
  rw [List.drop_eq_getElem_cons hj]
  rw [scan, if_pos h]
  rfl
theorem drop_head {S : List UInt8} {j : Nat} (hj : j < S.length) : (S.drop j).head? = some S[j] := by rw [List.drop_eq_getElem_cons hj]; rfl
set_option maxRecDepth 100000 in
set_option maxHeartbeats 8000000 in
theorem num_walk (S : List UInt8) (M : Nat) (hM : M ≤ 4294967295) (hS : S.length ≤ 1000) (w : World) :
    Calls Tryd.prog 19 #[Str S, .int .u64 M] w fun e w' => e = .returned (numV (numR M S)) ∧ Below w.heap.size w w' := by
  have hsz : (SB S).size = S.length := sb_size S
  have hl : (S.length : Int) ≤ 1000 := by omega
  have HM := Lib.hid hM
  have HS := Lib.hid hS
  clear hM hS
  go_enter Tryd.func19, Tryd.ntmps19
  go_wp2
  go_loop [7, 8] (fun v i => ∃ a j : Nat, j ≤ S.length ∧ i = .int .i64 j ∧ v = .int .u64 a ∧ scan M a (S.drop j) = scan M 0 S ∧ a ≤ 42949672959) (fun _ i => S.length - (RowKit.intOf i).toNat)
  case atStart => exact ⟨0, 0, Nat.zero_le _, rfl, rfl, rfl, by omega⟩
  case round =>
    obtain ⟨a, j, hj, rfl, rfl, hsn, ha⟩ := hrel
    have HA := Lib.hid ha
    clear ha
    have he := sb_tail S j hj
    have hj1 : (j : Int) ≤ 1000 := by omega
    have hj2 : (j : Int) ≤ S.length := by omega
    have hwj : IntKind.i64.wrap ((j : Int) + 1) = j + 1 := by rw [IntKind.wrap_i64]; omega
    by_cases hlt : j < S.length
    · have hlt' : (j : Int) < S.length := by omega
      have hxj := sb_at S j hlt
      obtain ⟨x, hx⟩ : ∃ x : Nat, x = S[j].toNat := ⟨_, rfl⟩
      rw [← hx] at hxj
      have hx255 : x < 256 := by rw [hx]; exact UInt8.toNat_lt _
      have HX := Lib.hid hx
      clear hx
      by_cases c1 : 48 ≤ x
      · have c1' : (48 : Int) ≤ x := by omega
        by_cases c2 : x ≤ 57
        · have c2' : (x : Int) ≤ 57 := by omega
          by_cases c3 : a ≤ M
          · have c3' : (a : Int) ≤ M := by omega
            have HN := Lib.hid (show scan M (a * 10 + (x - 48)) (S.drop (j + 1)) = scan M 0 S by rw [← hsn, scan_go hlt ⟨by unfold dig; rw [← HX.out]; exact ⟨c1, c2⟩, c3⟩, ← HX.out])
            have hw1 : IntKind.u8.wrap ((x : Int) - 48) = x - 48 := by rw [IntKind.wrap_u8]; omega
            have hw2 : IntKind.u64.wrap ((x : Int) - 48) = x - 48 := by rw [IntKind.wrap_u64]; omega
            have hw3 : IntKind.u64.wrap (10 * (a : Int)) = 10 * a := by have := HA.out; rw [IntKind.wrap_u64]; omega
            have hw4 : IntKind.u64.wrap (10 * (a : Int) + ((x : Int) - 48)) = 10 * a + (x - 48) := by have := HA.out; rw [IntKind.wrap_u64]; omega
            have HA2 := Lib.hid (show a * 10 + (x - 48) ≤ 42949672959 by have := HM.out; omega)
            have HV := Lib.hid (show 10 * (a : Int) + ((x : Int) - 48) = ((a * 10 + (x - 48) : Nat) : Int) by omega)
            clear hsn
            go_wp2
            go_round
            case rel => exact ⟨a * 10 + (x - 48), j + 1, by omega, by go_num, by rw [← HV.out], HN.out, HA2.out⟩
            case measure => simp [RowKit.intOf]; omega
          · have c3' : ¬ (a : Int) ≤ M := by omega
            have hsc : scan M 0 S = (a, S.drop j) := by rw [← hsn]; exact scan_stop (fun c _ h => c3 h.2)
            clear hsn
            have HSC := Lib.hid hsc
            by_cases t1 : j = 0
            · have HT := Lib.hid (numR_none hsc hj (Or.inl t1))
              subst t1
              (try rw [show ((0 : Nat) : Int) = 0 from rfl] at hxj)
              (try rw [show ((0 : Nat) : Int) = 0 from rfl] at hj1)
              (try rw [show ((0 : Nat) : Int) = 0 from rfl] at hj2)
              (try rw [show ((0 : Nat) : Int) = 0 from rfl] at hwj)
              (try rw [show ((0 : Nat) : Int) = 0 from rfl] at hlt')
              (try simp only [show ((0 : Nat) : Int) = 0 from rfl])
              clear hsc
              go_wp2
              go_ret3
              exact ⟨by (rw [HT.out]; try rfl), Below.refl _ _⟩
            · by_cases t2 : M < a
              · have HT := Lib.hid (numR_none hsc hj (Or.inr (Or.inl t2)))
                have t2' : (M : Int) < a := by omega
                have t1' : ¬ (j : Int) = 0 := by omega
                have t1b : ((j : Int) == 0) = false := by rw [beq_eq_false_iff_ne]; exact t1'
                clear hsc
                go_wp2
                go_ret3
                exact ⟨by (rw [HT.out]; try rfl), Below.refl _ _⟩
              · have t2' : ¬ (M : Int) < a := by omega
                have t1' : ¬ (j : Int) = 0 := by omega
                have t1b : ((j : Int) == 0) = false := by rw [beq_eq_false_iff_ne]; exact t1'
                have hx0 := sb_at0 S (by omega)
                obtain ⟨y, hy⟩ : ∃ y : Nat, y = S[0].toNat := ⟨_, rfl⟩
                rw [← hy] at hx0
                have hy48 : S.head? = some 48 ↔ y = 48 := head48 S (by omega) hy
                have HY := Lib.hid hy48
                clear hy hy48
                by_cases t3 : 1 < j
                · have t3' : (1 : Int) < j := by omega
                  by_cases t4 : y = 48
                  · have HT := Lib.hid (numR_none hsc hj (Or.inr (Or.inr ⟨t3, HY.out.2 t4⟩)))
                    have t4' : (y : Int) = 48 := by omega
                    have t4b : ((y : Int) == 48) = true := by rw [beq_iff_eq]; exact t4'
                    clear hsc
                    go_wp2
                    go_ret3
                    exact ⟨by (rw [HT.out]; try rfl), Below.refl _ _⟩
                  · have HT := Lib.hid (numR_good hsc hj t1 t2 (fun h => t4 (HY.out.1 h.2)))
                    have t4' : ¬ (y : Int) = 48 := by omega
                    have t4b : ((y : Int) == 48) = false := by rw [beq_eq_false_iff_ne]; exact t4'
                    clear hsc
                    go_wp2
                    go_region
                    all_goals
                      go_wp2
                      go_ret3
                      exact ⟨by (rw [HT.out]; try rfl), Below.drew (Below.refl _ _)⟩
                · have t3' : ¬ (1 : Int) < j := by omega
                  have HT := Lib.hid (numR_good hsc hj t1 t2 (fun h => t3 h.1))
                  clear hsc
                  go_wp2
                  go_region
                  all_goals
                    go_wp2
                    go_ret3
                    exact ⟨by (rw [HT.out]; try rfl), Below.drew (Below.refl _ _)⟩
        · have c2' : ¬ (x : Int) ≤ 57 := by omega
          have hsc : scan M 0 S = (a, S.drop j) := by
            rw [← hsn]
            refine scan_stop (fun c hc h => ?_)
            rw [drop_head hlt, Option.mem_def, Option.some.injEq] at hc
            have := h.1
            unfold dig at this
            rw [← hc, ← HX.out] at this
            omega
          clear hsn
          have HSC := Lib.hid hsc
          by_cases t1 : j = 0
          · have HT := Lib.hid (numR_none hsc hj (Or.inl t1))
            subst t1
            (try rw [show ((0 : Nat) : Int) = 0 from rfl] at hxj)
            (try rw [show ((0 : Nat) : Int) = 0 from rfl] at hj1)
            (try rw [show ((0 : Nat) : Int) = 0 from rfl] at hj2)
            (try rw [show ((0 : Nat) : Int) = 0 from rfl] at hwj)
            (try rw [show ((0 : Nat) : Int) = 0 from rfl] at hlt')
            (try simp only [show ((0 : Nat) : Int) = 0 from rfl])
            clear hsc
            go_wp2
            go_ret3
            exact ⟨by (rw [HT.out]; try rfl), Below.refl _ _⟩
          · by_cases t2 : M < a
            · have HT := Lib.hid (numR_none hsc hj (Or.inr (Or.inl t2)))
              have t2' : (M : Int) < a := by omega
              have t1' : ¬ (j : Int) = 0 := by omega
              have t1b : ((j : Int) == 0) = false := by rw [beq_eq_false_iff_ne]; exact t1'
              clear hsc
              go_wp2
              go_ret3
              exact ⟨by (rw [HT.out]; try rfl), Below.refl _ _⟩
            · have t2' : ¬ (M : Int) < a := by omega
              have t1' : ¬ (j : Int) = 0 := by omega
              have t1b : ((j : Int) == 0) = false := by rw [beq_eq_false_iff_ne]; exact t1'
              have hx0 := sb_at0 S (by omega)
              obtain ⟨y, hy⟩ : ∃ y : Nat, y = S[0].toNat := ⟨_, rfl⟩
              rw [← hy] at hx0
              have hy48 : S.head? = some 48 ↔ y = 48 := head48 S (by omega) hy
              have HY := Lib.hid hy48
              clear hy hy48
              by_cases t3 : 1 < j
              · have t3' : (1 : Int) < j := by omega
                by_cases t4 : y = 48
                · have HT := Lib.hid (numR_none hsc hj (Or.inr (Or.inr ⟨t3, HY.out.2 t4⟩)))
                  have t4' : (y : Int) = 48 := by omega
                  have t4b : ((y : Int) == 48) = true := by rw [beq_iff_eq]; exact t4'
                  clear hsc
                  go_wp2
                  go_ret3
                  exact ⟨by (rw [HT.out]; try rfl), Below.refl _ _⟩
                · have HT := Lib.hid (numR_good hsc hj t1 t2 (fun h => t4 (HY.out.1 h.2)))
                  have t4' : ¬ (y : Int) = 48 := by omega
                  have t4b : ((y : Int) == 48) = false := by rw [beq_eq_false_iff_ne]; exact t4'
                  clear hsc
                  go_wp2
                  go_region
                  all_goals
                    go_wp2
                    go_ret3
                    exact ⟨by (rw [HT.out]; try rfl), Below.drew (Below.refl _ _)⟩
              · have t3' : ¬ (1 : Int) < j := by omega
                have HT := Lib.hid (numR_good hsc hj t1 t2 (fun h => t3 h.1))
                clear hsc
                go_wp2
                go_region
                all_goals
                  go_wp2
                  go_ret3
                  exact ⟨by (rw [HT.out]; try rfl), Below.drew (Below.refl _ _)⟩
      · have c1' : ¬ (48 : Int) ≤ x := by omega
        have hsc : scan M 0 S = (a, S.drop j) := by
          rw [← hsn]
          refine scan_stop (fun c hc h => ?_)
          rw [drop_head hlt, Option.mem_def, Option.some.injEq] at hc
          have := h.1
          unfold dig at this
          rw [← hc, ← HX.out] at this
          omega
        clear hsn
        have HSC := Lib.hid hsc
        by_cases t1 : j = 0
        · have HT := Lib.hid (numR_none hsc hj (Or.inl t1))
          subst t1
          (try rw [show ((0 : Nat) : Int) = 0 from rfl] at hxj)
          (try rw [show ((0 : Nat) : Int) = 0 from rfl] at hj1)
          (try rw [show ((0 : Nat) : Int) = 0 from rfl] at hj2)
          (try rw [show ((0 : Nat) : Int) = 0 from rfl] at hwj)
          (try rw [show ((0 : Nat) : Int) = 0 from rfl] at hlt')
          (try simp only [show ((0 : Nat) : Int) = 0 from rfl])
          clear hsc
          go_wp2
          go_ret3
          exact ⟨by (rw [HT.out]; try rfl), Below.refl _ _⟩
        · by_cases t2 : M < a
          · have HT := Lib.hid (numR_none hsc hj (Or.inr (Or.inl t2)))
            have t2' : (M : Int) < a := by omega
            have t1' : ¬ (j : Int) = 0 := by omega
            have t1b : ((j : Int) == 0) = false := by rw [beq_eq_false_iff_ne]; exact t1'
            clear hsc
            go_wp2
            go_ret3
            exact ⟨by (rw [HT.out]; try rfl), Below.refl _ _⟩
          · have t2' : ¬ (M : Int) < a := by omega
            have t1' : ¬ (j : Int) = 0 := by omega
            have t1b : ((j : Int) == 0) = false := by rw [beq_eq_false_iff_ne]; exact t1'
            have hx0 := sb_at0 S (by omega)
            obtain ⟨y, hy⟩ : ∃ y : Nat, y = S[0].toNat := ⟨_, rfl⟩
            rw [← hy] at hx0
            have hy48 : S.head? = some 48 ↔ y = 48 := head48 S (by omega) hy
            have HY := Lib.hid hy48
            clear hy hy48
            by_cases t3 : 1 < j
            · have t3' : (1 : Int) < j := by omega
              by_cases t4 : y = 48
              · have HT := Lib.hid (numR_none hsc hj (Or.inr (Or.inr ⟨t3, HY.out.2 t4⟩)))
                have t4' : (y : Int) = 48 := by omega
                have t4b : ((y : Int) == 48) = true := by rw [beq_iff_eq]; exact t4'
                clear hsc
                go_wp2
                go_ret3
                exact ⟨by (rw [HT.out]; try rfl), Below.refl _ _⟩
              · have HT := Lib.hid (numR_good hsc hj t1 t2 (fun h => t4 (HY.out.1 h.2)))
                have t4' : ¬ (y : Int) = 48 := by omega
                have t4b : ((y : Int) == 48) = false := by rw [beq_eq_false_iff_ne]; exact t4'
                clear hsc
                go_wp2
                go_region
                all_goals
                  go_wp2
                  go_ret3
                  exact ⟨by (rw [HT.out]; try rfl), Below.drew (Below.refl _ _)⟩
            · have t3' : ¬ (1 : Int) < j := by omega
              have HT := Lib.hid (numR_good hsc hj t1 t2 (fun h => t3 h.1))
              clear hsc
              go_wp2
              go_region
              all_goals
                go_wp2
                go_ret3
                exact ⟨by (rw [HT.out]; try rfl), Below.drew (Below.refl _ _)⟩
    · have hlt' : ¬ (j : Int) < S.length := by omega
      have hsc : scan M 0 S = (a, S.drop j) := by
        rw [← hsn]
        refine scan_stop (fun c hc h => ?_)
        rw [List.drop_eq_nil_of_le (by omega)] at hc
        simp at hc
      clear hsn
      have HSC := Lib.hid hsc
      by_cases t1 : j = 0
      · have HT := Lib.hid (numR_none hsc hj (Or.inl t1))
        subst t1
        (try rw [show ((0 : Nat) : Int) = 0 from rfl] at hxj)
        (try rw [show ((0 : Nat) : Int) = 0 from rfl] at hj1)
        (try rw [show ((0 : Nat) : Int) = 0 from rfl] at hj2)
        (try rw [show ((0 : Nat) : Int) = 0 from rfl] at hwj)
        (try rw [show ((0 : Nat) : Int) = 0 from rfl] at hlt')
        (try simp only [show ((0 : Nat) : Int) = 0 from rfl])
        clear hsc
        go_wp2
        go_ret3
        exact ⟨by (rw [HT.out]; try rfl), Below.refl _ _⟩
      · by_cases t2 : M < a
        · have HT := Lib.hid (numR_none hsc hj (Or.inr (Or.inl t2)))
          have t2' : (M : Int) < a := by omega
          have t1' : ¬ (j : Int) = 0 := by omega
          have t1b : ((j : Int) == 0) = false := by rw [beq_eq_false_iff_ne]; exact t1'
          clear hsc
          go_wp2
          go_ret3
          exact ⟨by (rw [HT.out]; try rfl), Below.refl _ _⟩
        · have t2' : ¬ (M : Int) < a := by omega
          have t1' : ¬ (j : Int) = 0 := by omega
          have t1b : ((j : Int) == 0) = false := by rw [beq_eq_false_iff_ne]; exact t1'
          have hx0 := sb_at0 S (by omega)
          obtain ⟨y, hy⟩ : ∃ y : Nat, y = S[0].toNat := ⟨_, rfl⟩
          rw [← hy] at hx0
          have hy48 : S.head? = some 48 ↔ y = 48 := head48 S (by omega) hy
          have HY := Lib.hid hy48
          clear hy hy48
          by_cases t3 : 1 < j
          · have t3' : (1 : Int) < j := by omega
            by_cases t4 : y = 48
            · have HT := Lib.hid (numR_none hsc hj (Or.inr (Or.inr ⟨t3, HY.out.2 t4⟩)))
              have t4' : (y : Int) = 48 := by omega
              have t4b : ((y : Int) == 48) = true := by rw [beq_iff_eq]; exact t4'
              clear hsc
              go_wp2
              go_ret3
              exact ⟨by (rw [HT.out]; try rfl), Below.refl _ _⟩
            · have HT := Lib.hid (numR_good hsc hj t1 t2 (fun h => t4 (HY.out.1 h.2)))
              have t4' : ¬ (y : Int) = 48 := by omega
              have t4b : ((y : Int) == 48) = false := by rw [beq_eq_false_iff_ne]; exact t4'
              clear hsc
              go_wp2
              go_region
              all_goals
                go_wp2
                go_ret3
                exact ⟨by (rw [HT.out]; try rfl), Below.drew (Below.refl _ _)⟩
          · have t3' : ¬ (1 : Int) < j := by omega
            have HT := Lib.hid (numR_good hsc hj t1 t2 (fun h => t3 h.1))
            clear hsc
            go_wp2
            go_region
            all_goals
              go_wp2
              go_ret3
              exact ⟨by (rw [HT.out]; try rfl), Below.drew (Below.refl _ _)⟩
end Num
end Go.Proofs.YtbodakfgoijeeaaDoor
