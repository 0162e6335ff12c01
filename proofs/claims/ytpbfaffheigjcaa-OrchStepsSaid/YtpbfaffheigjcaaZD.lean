/-
  Check of a run of easy steps; steps of two bytes' names and Ints.
-/
import Derived.Test.YtpbfaffheigjcaaZC
import Derived.Test.YtpbfaffheigjcaaHI
namespace Go.Proofs.Ytpbfaffheigjcaa
open Go.RowKit
namespace Num
open Ints
set_option linter.unusedSimpArgs false
set_option linter.unusedVariables false
theorem chk_allO (n : Nat) : ∀ L : List (VT (n + 1)), (∀ T ∈ L, checkM (measT (n + 1) T) = 0) → chkL n L = 0
  | [], _ => rfl
  | T :: r, h => by
    unfold chkL
    rw [if_pos (h T (List.mem_cons_self ..))]
    exact chk_allO n r (fun T hT => h T (List.mem_cons_of_mem _ hT))
theorem kat_O (j : Nat) : kAt { data := #[115] } j = 4 := by
  unfold kAt
  rw [show min j ((⟨#[115]⟩ : ByteArray).size - 1) = 0 from Nat.min_eq_right (Nat.zero_le _)]
  decide +kernel
theorem hld_allO (n : Nat) : ∀ (L : List (VT (n + 1))) (j : Nat), hldL { data := #[115] } n j L = L.all (stT n)
  | [], _ => rfl
  | T :: r, j => by
    unfold hldL
    rw [kat_O, hld_allO n r (j + 1), List.all_cons]
    rfl
theorem find_runO : findM { data := #[114, 117, 110] } (metas { data := #[111, 114, 99, 104] }) = some ({ data := #[114, 117, 110] }, true, { data := #[115] }) := by decide +kernel
theorem chk_runO (n : Nat) (L : List (VT (n + 1))) (h0 : ∀ T ∈ L, checkM (measT (n + 1) T) = 0) : chkA { data := #[111, 114, 99, 104] } { data := #[114, 117, 110] } n L = if (decide (1 ≤ L.length) && decide (L.length ≤ 8)) = true then (if L.all (stT n) = true then 0 else 31) else 31 := by
  unfold chkA
  rw [find_runO]
  show (if (decide ((⟨#[115]⟩ : ByteArray).size ≤ L.length) && decide ((L.length : Int) ≤ ((⟨#[115]⟩ : ByteArray).size : Int) + moreOf ⟨#[115]⟩)) = true then _ else _) = _
  rw [show (⟨#[115]⟩ : ByteArray).size = 1 from rfl, show moreOf ⟨#[115]⟩ = 7 by decide +kernel, chk_allO n L h0, hld_allO n L 0]
  rw [show decide ((L.length : Int) ≤ ((1 : Nat) : Int) + 7) = decide (L.length ≤ 8) by by_cases h : L.length ≤ 8 <;> simp <;> omega]
  rfl
/-- What is asked of a tree here. -/
def EasyO (n : Nat) (T : VT (n + 1)) : Prop := checkM (measT (n + 1) T) = 0 ∧ deepT (n + 1) T 64 = false ∧ partsT (n + 1) T ≤ 1000
/-- Check of a run, of trees of which so much is asked. -/
theorem check_runO (n : Nat) (p : Option Addr) (l c : Nat) (L : List (VT (n + 1))) (w : World) (hr : RepL w (Rep w (n + 1)) p l c L) (he : ∀ T ∈ L, EasyO n T) (b a : Bool) (hl : (decide (1 ≤ l) && decide (l ≤ 8)) = b) (ha : L.all (stT n) = a) :
    Calls Try.prog 21 #[.string { data := #[111, 114, 99, 104] }, .string { data := #[114, 117, 110] }, .slice p l c] w fun e w' => e = .returned (.int .i64 (if (b && a) = true then 0 else 31)) ∧ Below w.heap.size w w' := by
  have h := check_args { data := #[111, 114, 99, 104] } { data := #[114, 117, 110] } n p l c L w hr (fun T hT => ⟨(he T hT).2.1, (he T hT).2.2⟩)
  rw [chk_runO n L (fun T hT => (he T hT).1), hr.1, hl, ha] at h
  cases b <;> cases a <;> exact h
/-- A step of two bytes' names and some Ints. -/
def intsO (i k : Nat) : List (VT 1) := (List.range k).map fun j : Nat => ((1, ((i : Int) + (j : Int)), 0, ⟨#[]⟩, []) : VT 1)
def stepO (b : UInt8) (i k : Nat) : StepD 1 := (⟨#[103, b]⟩, ⟨#[109, b]⟩, intsO i k)
theorem stepO_all (b : UInt8) (i k : Nat) (hk : k < 6) : EasyO 1 (stepV 0 (stepO b i k)) ∧ stT 1 (stepV 0 (stepO b i k)) = true ∧ CleanL 1 (intsO i k) := by
  match k, hk with
  | 0, _ => exact ⟨⟨by kernel_rfl, by kernel_rfl, Nat.le_of_ble_eq_true (by kernel_rfl)⟩, by kernel_rfl, by kernel_rfl, Nat.le_of_ble_eq_true (by kernel_rfl), by kernel_rfl⟩
  | 1, _ => exact ⟨⟨by kernel_rfl, by kernel_rfl, Nat.le_of_ble_eq_true (by kernel_rfl)⟩, by kernel_rfl, by kernel_rfl, Nat.le_of_ble_eq_true (by kernel_rfl), by kernel_rfl⟩
  | 2, _ => exact ⟨⟨by kernel_rfl, by kernel_rfl, Nat.le_of_ble_eq_true (by kernel_rfl)⟩, by kernel_rfl, by kernel_rfl, Nat.le_of_ble_eq_true (by kernel_rfl), by kernel_rfl⟩
  | 3, _ => exact ⟨⟨by kernel_rfl, by kernel_rfl, Nat.le_of_ble_eq_true (by kernel_rfl)⟩, by kernel_rfl, by kernel_rfl, Nat.le_of_ble_eq_true (by kernel_rfl), by kernel_rfl⟩
  | 4, _ => exact ⟨⟨by kernel_rfl, by kernel_rfl, Nat.le_of_ble_eq_true (by kernel_rfl)⟩, by kernel_rfl, by kernel_rfl, Nat.le_of_ble_eq_true (by kernel_rfl), by kernel_rfl⟩
  | 5, _ => exact ⟨⟨by kernel_rfl, by kernel_rfl, Nat.le_of_ble_eq_true (by kernel_rfl)⟩, by kernel_rfl, by kernel_rfl, Nat.le_of_ble_eq_true (by kernel_rfl), by kernel_rfl⟩
theorem intsO_clean (i k : Nat) : (intsO i k).map (cleanT 1) = intsO i k := by
  unfold intsO
  rw [List.map_map]
  rfl
theorem stepO_clean (b : UInt8) (i k : Nat) : stepC 1 (stepO b i k) = stepO b i k := by
  unfold stepC stepO
  rw [intsO_clean]
end Num
end Go.Proofs.Ytpbfaffheigjcaa
