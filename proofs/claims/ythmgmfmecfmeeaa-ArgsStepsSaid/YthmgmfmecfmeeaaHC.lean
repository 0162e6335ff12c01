/-
  Slices of texts; Classes, both; Strings of two that are alike; the reference's methods.
-/
import Derived.Test.YthmgmfmecfmeeaaHB
namespace Go.Proofs.Ythmgmfmecfmeeaa
open Go.RowKit
namespace Num
open Ints
set_option linter.unusedSimpArgs false
set_option linter.unusedVariables false
/-- A slice of texts leads to these. -/
def StrL (w : World) (p : Option Addr) (l c : Nat) (L : List ByteArray) : Prop :=
  L.length = l ∧ l ≤ c ∧ c ≤ maxLen ∧ (0 < l → ∃ b off, p = some ⟨b, off, none⟩ ∧ ∀ i (h : i < L.length), w.cell? ⟨b, off + i, none⟩ = some (.string L[i]))
theorem strL_keep {w w' : World} {p : Option Addr} {l c : Nat} {L : List ByteArray} (h : StrL w p l c L) (hb : Below w.heap.size w w') : StrL w' p l c L := by
  obtain ⟨h1, h2, h3, h4⟩ := h
  refine ⟨h1, h2, h3, fun hl => ?_⟩
  obtain ⟨b, off, hp, hi⟩ := h4 hl
  exact ⟨b, off, hp, fun i hi' => cell_keep hb (hi i hi')⟩
theorem strL_drew {w : World} {p : Option Addr} {l c : Nat} {L : List ByteArray} (h : StrL w p l c L) : StrL w.drew p l c L := h
def strVs (L : List ByteArray) : List Value := L.map Value.string
theorem strL_lit (w : World) (L : List ByteArray) (t : TypeId) (hL : L.length ≤ 100) : StrL (w.alloc (.cells (strVs L).toArray t)) (some ⟨w.heap.size, 0, none⟩) L.length L.length L := by
  refine ⟨rfl, Nat.le_refl _, by unfold maxLen; omega, fun _ => ⟨_, 0, rfl, fun i hi => ?_⟩⟩
  rw [row_cell (row_alloc w _ t), Nat.zero_add, List.getElem?_toArray]
  unfold strVs
  rw [List.getElem?_map, List.getElem?_eq_getElem hi]
  rfl
def clsL : List ByteArray := [{ data := #[99, 111, 117, 110, 116, 101, 114] }, { data := #[108, 101, 100, 103, 101, 114] }, { data := #[111, 114, 99, 104] }, { data := #[113, 117, 101, 117, 101] }, { data := #[114, 101, 103, 105, 115, 116, 101, 114] }, { data := #[116, 97, 98, 108, 101] }]
set_option maxRecDepth 100000 in
theorem pcls_any (w : World) : Calls Try.prog 13 #[] w fun e w' => e = .returned (.slice (some ⟨w.heap.size, 0, none⟩) 6 6) ∧ StrL w' (some ⟨w.heap.size, 0, none⟩) 6 6 clsL ∧ Below w.heap.size w w' := by
  go_enter Try.func13, Try.ntmps13
  go_wp2
  go_ret
  exact ⟨rfl, strL_lit w clsL _ (by decide), (Below.refl _ w).alloc (Nat.le_refl _) _⟩
set_option maxRecDepth 100000 in
theorem rcls_any (w : World) : Calls Try.prog 14 #[] w fun e w' => e = .returned (.slice (some ⟨w.heap.size, 0, none⟩) 6 6) ∧ StrL w' (some ⟨w.heap.size, 0, none⟩) 6 6 clsL ∧ Below w.heap.size w w' := by
  go_enter Try.func14, Try.ntmps14
  go_wp2
  go_ret
  exact ⟨rfl, strL_lit w clsL _ (by decide), (Below.refl _ w).alloc (Nat.le_refl _) _⟩
set_option maxRecDepth 100000 in
set_option maxHeartbeats 2000000 in
/-- Strings of two slices that lead to the same texts. -/
theorem strings_yes (w : World) (p q : Option Addr) (l c d : Nat) (L : List ByteArray) (h1 : StrL w p l c L) (h2 : StrL w q l d L) : Calls Try.prog 12 #[.slice p l c, .slice q l d] w fun e w' => e = .returned (.bool true) ∧ Below w.heap.size w w' := by
  obtain ⟨hl, hlc, hcm, hp⟩ := h1
  obtain ⟨_, hld, hdm, hq⟩ := h2
  unfold maxLen at hcm hdm
  have HP := Lib.hid hp
  have HQ := Lib.hid hq
  clear hp hq
  go_enter Try.func12, Try.ntmps12
  go_wp2
  go_loopw [5] (fun i wr => ∃ k : Nat, k ≤ l ∧ i = .int .i64 k ∧ Below w.heap.size w wr) (fun i _ => l - (intOf i).toNat)
  case atStart => exact ⟨0, by omega, rfl, Below.refl _ _⟩
  case round =>
    obtain ⟨k, hk, rfl, hB⟩ := hrel
    have HB := Lib.hid hB
    by_cases hlt : k < l
    · obtain ⟨b, off, hp', hi⟩ := HP.out (by omega)
      obtain ⟨b', off', hq', hi'⟩ := HQ.out (by omega)
      subst hp'
      subst hq'
      have hkl : k < L.length := by omega
      have e0 := cell_keep hB (hi k hkl)
      have e1 := cell_keep hB (hi' k hkl)
      obtain ⟨s, hs⟩ : ∃ s, L[k] = s := ⟨_, rfl⟩
      rw [hs] at e0 e1
      have hk0 : (0 : Int) ≤ (k : Int) := by omega
      have hkl2 : (k : Int) < (l : Int) := by omega
      clear hi hi' hs hB HP HQ
      go_wp2
      go_region
      all_goals
        go_wp2
        go_roundw
        case rel => exact ⟨k + 1, by omega, by go_num, Below.drew HB.out⟩
        case measure => simp [intOf]; omega
    · clear hB
      go_wp2
      go_ret
      exact ⟨rfl, HB.out⟩
/-- A slice of the reference's methods. -/
def RefM (w : World) (v : Value) (M : List (ByteArray × Bool × ByteArray)) : Prop := ∃ p, v = .slice p M.length M.length ∧ (0 < M.length → ∃ b, p = some ⟨b, 0, none⟩ ∧ ∀ i (h : i < M.length),
  w.cell? ⟨b, i * 3, none⟩ = some (.string M[i].1) ∧ w.cell? ⟨b, i * 3 + 1, none⟩ = some (.string M[i].2.2) ∧ w.cell? ⟨b, i * 3 + 2, none⟩ = some (.bool M[i].2.1))
theorem refM_keep {w w' : World} {v : Value} {M : List (ByteArray × Bool × ByteArray)} (h : RefM w v M) (hb : Below w.heap.size w w') : RefM w' v M := by
  obtain ⟨p, h1, h2⟩ := h
  refine ⟨p, h1, fun hl => ?_⟩
  obtain ⟨b, hp, hi⟩ := h2 hl
  exact ⟨b, hp, fun i h => ⟨cell_keep hb (hi i h).1, cell_keep hb (hi i h).2.1, cell_keep hb (hi i h).2.2⟩⟩
def rowVs (M : List (ByteArray × Bool × ByteArray)) : List Value := M.flatMap fun x => [.string x.1, .string x.2.2, .bool x.2.1]
theorem rowVs_at : ∀ (M : List (ByteArray × Bool × ByteArray)) (i : Nat) (h : i < M.length), (rowVs M)[i * 3]? = some (.string M[i].1) ∧ (rowVs M)[i * 3 + 1]? = some (.string M[i].2.2) ∧ (rowVs M)[i * 3 + 2]? = some (.bool M[i].2.1)
  | x :: r, 0, _ => ⟨rfl, rfl, rfl⟩
  | x :: r, i + 1, h => by
    obtain ⟨h1, h2, h3⟩ := rowVs_at r i (by simpa using h)
    have e : rowVs (x :: r) = .string x.1 :: .string x.2.2 :: .bool x.2.1 :: rowVs r := rfl
    rw [e, show (i + 1) * 3 = i * 3 + 1 + 1 + 1 by omega, show i * 3 + 1 + 1 + 1 + 2 = i * 3 + 2 + 1 + 1 + 1 by omega]
    simp only [List.getElem?_cons_succ, List.getElem_cons_succ]
    exact ⟨h1, h2, h3⟩
theorem refM_lit (w : World) (M : List (ByteArray × Bool × ByteArray)) (t : TypeId) : RefM (w.alloc (.cells (rowVs M).toArray t)) (.slice (some ⟨w.heap.size, 0, none⟩) M.length M.length) M := by
  refine ⟨_, rfl, fun _ => ⟨_, rfl, fun i hi => ?_⟩⟩
  obtain ⟨h1, h2, h3⟩ := rowVs_at M i hi
  refine ⟨?_, ?_, ?_⟩ <;> rw [row_cell (row_alloc w _ t), List.getElem?_toArray] <;> assumption
set_option maxRecDepth 100000 in
set_option maxHeartbeats 2000000 in
theorem rmethC (w : World) : Calls Try.prog 31 #[.string { data := #[99, 111, 117, 110, 116, 101, 114] }] w fun e w' => ∃ v, e = .returned v ∧ RefM w' v msC ∧ Below w.heap.size w w' := by
  go_enter Try.func31, Try.ntmps31
  go_wp2
  go_ret
  exact ⟨_, rfl, refM_lit w msC _, (Below.refl _ w).alloc (Nat.le_refl _) _⟩
set_option maxRecDepth 100000 in
set_option maxHeartbeats 2000000 in
theorem rmethL (w : World) : Calls Try.prog 31 #[.string { data := #[108, 101, 100, 103, 101, 114] }] w fun e w' => ∃ v, e = .returned v ∧ RefM w' v msL ∧ Below w.heap.size w w' := by
  go_enter Try.func31, Try.ntmps31
  go_wp2
  go_ret
  exact ⟨_, rfl, refM_lit w msL _, (Below.refl _ w).alloc (Nat.le_refl _) _⟩
set_option maxRecDepth 100000 in
set_option maxHeartbeats 2000000 in
theorem rmethO (w : World) : Calls Try.prog 31 #[.string { data := #[111, 114, 99, 104] }] w fun e w' => ∃ v, e = .returned v ∧ RefM w' v msO ∧ Below w.heap.size w w' := by
  go_enter Try.func31, Try.ntmps31
  go_wp2
  go_ret
  exact ⟨_, rfl, refM_lit w msO _, (Below.refl _ w).alloc (Nat.le_refl _) _⟩
set_option maxRecDepth 100000 in
set_option maxHeartbeats 2000000 in
theorem rmethQ (w : World) : Calls Try.prog 31 #[.string { data := #[113, 117, 101, 117, 101] }] w fun e w' => ∃ v, e = .returned v ∧ RefM w' v msQ ∧ Below w.heap.size w w' := by
  go_enter Try.func31, Try.ntmps31
  go_wp2
  go_ret
  exact ⟨_, rfl, refM_lit w msQ _, (Below.refl _ w).alloc (Nat.le_refl _) _⟩
set_option maxRecDepth 100000 in
set_option maxHeartbeats 2000000 in
theorem rmethR (w : World) : Calls Try.prog 31 #[.string { data := #[114, 101, 103, 105, 115, 116, 101, 114] }] w fun e w' => ∃ v, e = .returned v ∧ RefM w' v msR ∧ Below w.heap.size w w' := by
  go_enter Try.func31, Try.ntmps31
  go_wp2
  go_ret
  exact ⟨_, rfl, refM_lit w msR _, (Below.refl _ w).alloc (Nat.le_refl _) _⟩
set_option maxRecDepth 100000 in
set_option maxHeartbeats 2000000 in
theorem rmethT (w : World) : Calls Try.prog 31 #[.string { data := #[116, 97, 98, 108, 101] }] w fun e w' => ∃ v, e = .returned v ∧ RefM w' v msT ∧ Below w.heap.size w w' := by
  go_enter Try.func31, Try.ntmps31
  go_wp2
  go_ret
  exact ⟨_, rfl, refM_lit w msT _, (Below.refl _ w).alloc (Nat.le_refl _) _⟩
set_option maxRecDepth 100000 in
set_option maxHeartbeats 2000000 in
theorem rmethNone (c : ByteArray) (h0 : c ≠ { data := #[99, 111, 117, 110, 116, 101, 114] }) (h1 : c ≠ { data := #[108, 101, 100, 103, 101, 114] }) (h2 : c ≠ { data := #[111, 114, 99, 104] }) (h3 : c ≠ { data := #[113, 117, 101, 117, 101] }) (h4 : c ≠ { data := #[114, 101, 103, 105, 115, 116, 101, 114] }) (h5 : c ≠ { data := #[116, 97, 98, 108, 101] }) (w : World) : Calls Try.prog 31 #[.string c] w fun e w' => e = .returned (.slice none 0 0) ∧ w' = w := by
  have t0 := str_ne h0
  have t1 := str_ne h1
  have t2 := str_ne h2
  have t3 := str_ne h3
  have t4 := str_ne h4
  have t5 := str_ne h5
  clear h0 h1 h2 h3 h4 h5
  go_enter Try.func31, Try.ntmps31
  go_wp2
  go_ret
  exact ⟨rfl, rfl⟩
theorem metas_none (c : ByteArray) (h0 : c ≠ { data := #[99, 111, 117, 110, 116, 101, 114] }) (h1 : c ≠ { data := #[108, 101, 100, 103, 101, 114] }) (h2 : c ≠ { data := #[111, 114, 99, 104] }) (h3 : c ≠ { data := #[113, 117, 101, 117, 101] }) (h4 : c ≠ { data := #[114, 101, 103, 105, 115, 116, 101, 114] }) (h5 : c ≠ { data := #[116, 97, 98, 108, 101] }) : metas c = [] := by unfold metas; simp only [h0, h1, h2, h3, h4, h5, if_false]
theorem rmeth_any (c : ByteArray) (w : World) : Calls Try.prog 31 #[.string c] w fun e w' => ∃ v, e = .returned v ∧ RefM w' v (metas c) ∧ Below w.heap.size w w' := by
  by_cases h0 : c = { data := #[99, 111, 117, 110, 116, 101, 114] }
  · subst h0
    exact rmethC w
  by_cases h1 : c = { data := #[108, 101, 100, 103, 101, 114] }
  · subst h1
    exact rmethL w
  by_cases h2 : c = { data := #[111, 114, 99, 104] }
  · subst h2
    exact rmethO w
  by_cases h3 : c = { data := #[113, 117, 101, 117, 101] }
  · subst h3
    exact rmethQ w
  by_cases h4 : c = { data := #[114, 101, 103, 105, 115, 116, 101, 114] }
  · subst h4
    exact rmethR w
  by_cases h5 : c = { data := #[116, 97, 98, 108, 101] }
  · subst h5
    exact rmethT w
  refine (rmethNone c h0 h1 h2 h3 h4 h5 w).mono ?_
  rintro e w' ⟨rfl, rfl⟩
  rw [metas_none c h0 h1 h2 h3 h4 h5]
  exact ⟨_, rfl, ⟨none, rfl, fun h => absurd h (Nat.lt_irrefl _)⟩, Below.refl _ _⟩
end Num
end Go.Proofs.Ythmgmfmecfmeeaa
