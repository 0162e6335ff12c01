/-
  The comparison of package value, of values of at most a thousand parts, in which no memo is kept: one value against another.
-/
import Derived.Test.YtomfgncbdgifoaaJVCmp
import Derived.Laws.EntriesVeiled
import Derived.Deep.RegionHeld3
import Derived.Deep.RegionWith
import Derived.RegionTactic
namespace Go.Proofs.Ytomfgncbdgifoaa
open Go.RowKit
namespace Num
open Ints
set_option linter.unusedSimpArgs false
set_option linter.unusedVariables false
/-- Items against items, as far as both go: the first that parts. -/
def itemsC {α : Type} (c : α → α → Int) : List α → List α → Int
  | x :: xs, y :: ys => if (c x y != 0) = true then c x y else itemsC c xs ys
  | _, _ => 0
def listC {α : Type} (c : α → α → Int) (xs ys : List α) : Int := if (itemsC c xs ys != 0) = true then itemsC c xs ys else cmpI xs.length ys.length
def cmpT (fc : Nat → Nat → Int) : (n : Nat) → VT n → VT n → Int
  | 0, _, _ => 0
  | n + 1, A, B => if (cmpI (kindI A.1) (kindI B.1) != 0) = true then cmpI (kindI A.1) (kindI B.1)
      else if (A.1 == 1) = true then cmpI A.2.1 B.2.1 else if (A.1 == 2) = true then fc A.2.2.1 B.2.2.1
      else if (A.1 == 3) = true then cmpS A.2.2.2.1 B.2.2.2.1 else if (A.1 == 4) = true then listC (cmpT fc n) A.2.2.2.2 B.2.2.2.2 else 0
section
variable {fc : Nat → Nat → Int} {n : Nat} {K1 I1 : Int} {F1 : Nat} {S1 : ByteArray} {L1 : List (VT n)} {K2 I2 : Int} {F2 : Nat} {S2 : ByteArray} {L2 : List (VT n)}
theorem cmpT_kind (h : (cmpI (kindI K1) (kindI K2) != 0) = true) : cmpT fc (n + 1) (K1, I1, F1, S1, L1) (K2, I2, F2, S2, L2) = cmpI (kindI K1) (kindI K2) := by
  show (if (cmpI (kindI K1) (kindI K2) != 0) = true then _ else _) = _
  rw [if_pos h]
theorem cmpT_int (h : (cmpI (kindI K1) (kindI K2) != 0) = false) (h1 : (K1 == 1) = true) : cmpT fc (n + 1) (K1, I1, F1, S1, L1) (K2, I2, F2, S2, L2) = cmpI I1 I2 := by
  show (if (cmpI (kindI K1) (kindI K2) != 0) = true then _ else if (K1 == 1) = true then _ else _) = _
  rw [if_neg (by rw [h]; simp), if_pos h1]
theorem cmpT_float (h : (cmpI (kindI K1) (kindI K2) != 0) = false) (h1 : (K1 == 1) = false) (h2 : (K1 == 2) = true) : cmpT fc (n + 1) (K1, I1, F1, S1, L1) (K2, I2, F2, S2, L2) = fc F1 F2 := by
  show (if (cmpI (kindI K1) (kindI K2) != 0) = true then _ else if (K1 == 1) = true then _ else if (K1 == 2) = true then _ else _) = _
  rw [if_neg (by rw [h]; simp), if_neg (by rw [h1]; simp), if_pos h2]
theorem cmpT_text (h : (cmpI (kindI K1) (kindI K2) != 0) = false) (h1 : (K1 == 1) = false) (h2 : (K1 == 2) = false) (h3 : (K1 == 3) = true) : cmpT fc (n + 1) (K1, I1, F1, S1, L1) (K2, I2, F2, S2, L2) = cmpS S1 S2 := by
  show (if (cmpI (kindI K1) (kindI K2) != 0) = true then _ else if (K1 == 1) = true then _ else if (K1 == 2) = true then _ else if (K1 == 3) = true then _ else _) = _
  rw [if_neg (by rw [h]; simp), if_neg (by rw [h1]; simp), if_neg (by rw [h2]; simp), if_pos h3]
theorem cmpT_list (h : (cmpI (kindI K1) (kindI K2) != 0) = false) (h1 : (K1 == 1) = false) (h2 : (K1 == 2) = false) (h3 : (K1 == 3) = false) (h4 : (K1 == 4) = true) : cmpT fc (n + 1) (K1, I1, F1, S1, L1) (K2, I2, F2, S2, L2) = listC (cmpT fc n) L1 L2 := by
  show (if (cmpI (kindI K1) (kindI K2) != 0) = true then _ else if (K1 == 1) = true then _ else if (K1 == 2) = true then _ else if (K1 == 3) = true then _ else if (K1 == 4) = true then _ else _) = _
  rw [if_neg (by rw [h]; simp), if_neg (by rw [h1]; simp), if_neg (by rw [h2]; simp), if_neg (by rw [h3]; simp), if_pos h4]
theorem cmpT_else (h : (cmpI (kindI K1) (kindI K2) != 0) = false) (h1 : (K1 == 1) = false) (h2 : (K1 == 2) = false) (h3 : (K1 == 3) = false) (h4 : (K1 == 4) = false) : cmpT fc (n + 1) (K1, I1, F1, S1, L1) (K2, I2, F2, S2, L2) = 0 := by
  show (if (cmpI (kindI K1) (kindI K2) != 0) = true then _ else if (K1 == 1) = true then _ else if (K1 == 2) = true then _ else if (K1 == 3) = true then _ else if (K1 == 4) = true then _ else _) = _
  rw [if_neg (by rw [h]; simp), if_neg (by rw [h1]; simp), if_neg (by rw [h2]; simp), if_neg (by rw [h3]; simp), if_neg (by rw [h4]; simp)]
end
def CpAt (w : World) (cb fn : Nat) (vis : Int) : Prop := w.heap[cb]? = some (.cells #[.func (.func fn) #[] #[], .int .i64 vis, .map none] 124 (0, 0))
def Cp (w w' : World) (cb fn : Nat) (vis : Int) (k : Nat) : Prop := w.grownBy w' (some cb) ∧ ∃ vis', vis ≤ vis' ∧ vis' ≤ vis + k ∧ CpAt w' cb fn vis'
def CpValues (fn : Nat) (fc : Nat → Nat → Int) (n : Nat) : Prop := ∀ (A B : VT n) (a b : Value) (m : Nat) (lev vis : Int) (w0 w : World) (cb : Nat), Rep w0 n a A → Rep w0 n b B → Below w0.heap.size w0 w → w0.heap.size ≤ cb → CpAt w cb fn vis → deepT n A m = false → 0 ≤ lev → lev + m ≤ 64 → 0 ≤ vis → vis + partsT n A ≤ 1000 →
  Calls Try.prog 90 #[.pointer (some ⟨cb, 0, none⟩), a, b, .int .i64 lev] w fun e w' => e = .returned (.int .i64 (cmpT fc n A B)) ∧ Cp w w' cb fn vis (partsT n A)
def CpLists (fn : Nat) (fc : Nat → Nat → Int) (n : Nat) : Prop := ∀ (L1 L2 : List (VT n)) (p1 : Option Addr) (l1 c1 : Nat) (p2 : Option Addr) (l2 c2 : Nat) (m : Nat) (lev vis : Int) (w0 w : World) (cb : Nat), RepL w0 (Rep w0 n) p1 l1 c1 L1 → RepL w0 (Rep w0 n) p2 l2 c2 L2 → Below w0.heap.size w0 w → w0.heap.size ≤ cb → CpAt w cb fn vis → (∀ x ∈ L1, deepT n x m = false) → 0 ≤ lev → lev + m ≤ 64 → 0 ≤ vis → vis + (L1.foldl (fun a x => a + partsT n x) 0 : Nat) ≤ 1000 →
  Calls Try.prog 103 #[.pointer (some ⟨cb, 0, none⟩), .slice p1 l1 c1, .slice p2 l2 c2, .int .i64 lev] w fun e w' => e = .returned (.int .i64 (listC (cmpT fc n) L1 L2)) ∧ Cp w w' cb fn vis (L1.foldl (fun a x => a + partsT n x) 0)
theorem setCell_row3 {w : World} {b : Nat} {x0 x1 x2 : Value} {t : TypeId} (h : w.heap[b]? = some (.cells #[x0, x1, x2] t (0, 0))) (v : Value) : (w.setCell ⟨b, 1, none⟩ v).heap[b]? = some (.cells #[x0, v, x2] t (0, 0)) := by
  simp [World.setCell, Array.getElem?_modify, h]
theorem cp_start {w : World} {cb fn : Nat} {vis : Int} (h : CpAt w cb fn vis) (o1 o2 : Obj) : w.grownBy (((w.setCell ⟨cb, 1, none⟩ (.int .i64 (vis + 1))).alloc o1).alloc o2) (some cb) ∧ CpAt (((w.setCell ⟨cb, 1, none⟩ (.int .i64 (vis + 1))).alloc o1).alloc o2) cb fn (vis + 1) :=
  ⟨((grown_setCell w cb 1 _).trans (World.grownBy_alloc _ _ _)).trans (World.grownBy_alloc _ _ _), row_alloc_step (row_alloc_step (setCell_row3 h _) _) _⟩
theorem cp_trans {w W w1 : World} {cb fn : Nat} {vis : Int} {k j : Nat} (hg : w.grownBy W (some cb)) (h : Cp W w1 cb fn (vis + j) k) : Cp w w1 cb fn vis (k + j) := by
  obtain ⟨hg2, vis', a, b, c⟩ := h
  exact ⟨hg.trans hg2, vis', by omega, by omega, c⟩
theorem cp_bel {w W w1 : World} {cb fn : Nat} {vis : Int} {k : Nat} (hg : w.grownBy W (some cb)) (ha : CpAt W cb fn (vis + 1)) (hb : Below W.heap.size W w1) (hk : 1 ≤ k) : Cp w w1 cb fn vis k :=
  ⟨hg.trans (bel_grown hb _), vis + 1, by omega, by omega, row_step ha hb⟩
theorem cp_drewN {w w1 : World} {cb fn : Nat} {vis : Int} {k : Nat} (h : Cp w w1 cb fn vis k) (q : Nat) : Cp w (w1.drewN q) cb fn vis k := by
  obtain ⟨hg, r⟩ := h
  exact ⟨⟨hg.os, hg.tape, hg.output, hg.size, hg.block⟩, r⟩
theorem parts_pos {n : Nat} (T : VT n) : 1 ≤ partsT n T := by
  cases n with
  | zero => exact Nat.le_refl _
  | succ n =>
    obtain ⟨K, I, F, S, L⟩ := T
    cases h4 : (K == 4)
    · rw [partsT_else h4]; omega
    · rw [partsT_list h4]; exact foldl_parts _ _
theorem bel_drew {B : Nat} {a w : World} (h : Below B a w) : Below B a w.drew := ⟨h.os, h.tape, h.output, h.size, h.block⟩
set_option maxRecDepth 100000 in
set_option maxHeartbeats 4000000 in
theorem cp_values_succE (n : Nat) (hl : CpLists 97 cmpF n) : CpValues 97 cmpF (n + 1) := by
  intro A B a b m lev vis w0 w cb hra hrb hB hs hat hd hlev hlm hv0 hvp
  have hpp := parts_pos A
  obtain ⟨K1, I1, F1, S1, L1⟩ := A
  obtain ⟨K2, I2, F2, S2, L2⟩ := B
  obtain ⟨p1, l1, c1, rfl, _, _, hF1, hS1, hL1⟩ := hra
  obtain ⟨p2, l2, c2, rfl, _, _, hF2, hS2, hL2⟩ := hrb
  have g1 : w.cell? ⟨cb, 1, none⟩ = some (.int .i64 vis) := row_cell hat 1
  have f1 : w.frozen? ⟨cb, 1, none⟩ = false := row_frz hat 1
  have hlt := row_lt hat
  have hne : cb ≠ w.heap.size := by omega
  have hv1 : vis ≤ 999 := by omega
  have HAT := Lib.hid hat
  have HB := Lib.hid hB
  have HLA := Lib.hid hL1
  have HLB := Lib.hid hL2
  have HP := Lib.hid hvp
  have HD := Lib.hid hd
  have HLI := Lib.hid hl
  have HPP := Lib.hid hpp
  clear hat hB hL1 hL2 hvp hd hl hpp
  obtain ⟨W1, hW1⟩ : ∃ W1, W1 = ((w.setCell ⟨cb, 1, none⟩ (.int .i64 (vis + 1))).alloc (.cells #[.int .i64 K1, .int .i64 I1, .float .f64 F1, .string S1, .slice p1 l1 c1] 47)).alloc (.cells #[.int .i64 K2, .int .i64 I2, .float .f64 F2, .string S2, .slice p2 l2 c2] 47) := ⟨_, rfl⟩
  have hst := cp_start HAT.out (.cells #[.int .i64 K1, .int .i64 I1, .float .f64 F1, .string S1, .slice p1 l1 c1] 47) (.cells #[.int .i64 K2, .int .i64 I2, .float .f64 F2, .string S2, .slice p2 l2 c2] 47)
  have hra := row_alloc_step (row_alloc (w.setCell ⟨cb, 1, none⟩ (.int .i64 (vis + 1))) #[.int .i64 K1, .int .i64 I1, .float .f64 F1, .string S1, .slice p1 l1 c1] 47) (.cells #[.int .i64 K2, .int .i64 I2, .float .f64 F2, .string S2, .slice p2 l2 c2] 47)
  have hrb := row_alloc ((w.setCell ⟨cb, 1, none⟩ (.int .i64 (vis + 1))).alloc (.cells #[.int .i64 K1, .int .i64 I1, .float .f64 F1, .string S1, .slice p1 l1 c1] 47)) #[.int .i64 K2, .int .i64 I2, .float .f64 F2, .string S2, .slice p2 l2 c2] 47
  simp only [World.size_alloc, World.size_setCell] at hra hrb
  rw [← hW1] at hst hra hrb
  have HST := Lib.hid hst
  have HRA := Lib.hid hra
  have HRB := Lib.hid hrb
  have HW1 := Lib.hid hW1
  clear hst hra hrb hW1
  go_enter Try.func90, Try.ntmps90
  go_wp2_with fail
  rw [← HW1.out]
  clear HW1
  refine wp_region_held_drew (S := fun w' => Below W1.heap.size W1 w') (by kernel_rfl) ?_ (fun hHeld => ?_)
  · exact bel_drew (Below.refl _ _)
  refine wpAnyH_take (i := 0) (oi := ?_) (v := ?_) ?hia0 (by kernel_rfl) ?hfa0 ?hra0 ?hQa0 ?hya0 (by assumption) ?resta0
  case hia0 => (simp only [List.getElem?_toArray, List.getElem?_cons_zero, List.getElem?_cons_succ]; rfl)
  case hfa0 => kernel_rfl
  case hra0 => kernel_rfl
  case hya0 => (refine Or.inl ⟨by rfl, ?_⟩; intro w hSw; (try dsimp only at hSw); have rr := row_step HRA.out hSw; have c0 := row_cell rr 0; have c1 := row_cell rr 1; have c2 := row_cell rr 2; have c3 := row_cell rr 3; have c4 := row_cell rr 4; simp only [List.getElem?_toArray, List.getElem?_cons_zero, List.getElem?_cons_succ] at c0 c1 c2 c3 c4; go_simp; (try with_reducible rfl))
  case hQa0 => exact fun _ _ _ h => h
  (try simp only [Act.put, List.setIfInBounds_toArray, List.set_cons_zero, List.set_cons_succ])
  refine wpAnyH_take (i := 2) (oi := ?_) (v := ?_) ?hia2 (by kernel_rfl) ?hfa2 ?hra2 ?hQa2 ?hya2 (by assumption) ?resta2
  case hia2 => (simp only [List.getElem?_toArray, List.getElem?_cons_zero, List.getElem?_cons_succ]; rfl)
  case hfa2 => kernel_rfl
  case hra2 => kernel_rfl
  case hya2 => (refine Or.inl ⟨by rfl, ?_⟩; intro w hSw; (try dsimp only at hSw); have rr := row_step HRB.out hSw; have c0 := row_cell rr 0; have c1 := row_cell rr 1; have c2 := row_cell rr 2; have c3 := row_cell rr 3; have c4 := row_cell rr 4; simp only [List.getElem?_toArray, List.getElem?_cons_zero, List.getElem?_cons_succ] at c0 c1 c2 c3 c4; go_simp; (try with_reducible rfl))
  case hQa2 => exact fun _ _ _ h => h
  (try simp only [Act.put, List.setIfInBounds_toArray, List.set_cons_zero, List.set_cons_succ])
  refine wpAnyH_ready (rs := [1]) (by kernel_rfl) (by simp) ?_
  refine AllReadyH.cons (o := ?_) ?hoa1 ?hsta1 AllReadyH.nil
  case hoa1 => (simp only [List.getElem?_toArray, List.getElem?_cons_zero, List.getElem?_cons_succ]; rfl)
  intro K hK
  go_simp
  go_at_call 100; refine (kind_any _ _ _ _ _ _ _ _).mono ?_; rintro e w2 ⟨rfl, hb⟩; have hS2 := bel_step hHeld hb; clear hb
  go_wp2_with fail
  refine hK.out _ _ ?hsa1 (fun hHeld => ?_)
  case hsa1 => exact hS2
  clear hK K
  (try simp only [Act.put, List.setIfInBounds_toArray, List.set_cons_zero, List.set_cons_succ])
  refine wpAnyH_ready (rs := [3]) (by kernel_rfl) (by simp) ?_
  refine AllReadyH.cons (o := ?_) ?hoa3 ?hsta3 AllReadyH.nil
  case hoa3 => (simp only [List.getElem?_toArray, List.getElem?_cons_zero, List.getElem?_cons_succ]; rfl)
  intro K hK
  go_simp
  go_at_call 100; refine (kind_any _ _ _ _ _ _ _ _).mono ?_; rintro e w3 ⟨rfl, hb⟩; have hS3 := bel_step hHeld hb; clear hb
  go_wp2_with fail
  refine hK.out _ _ ?hsa3 (fun hHeld => ?_)
  case hsa3 => exact hS3
  clear hK K
  (try simp only [Act.put, List.setIfInBounds_toArray, List.set_cons_zero, List.set_cons_succ])
  refine wpAnyH_ready (rs := [4]) (by kernel_rfl) (by simp) ?_
  refine AllReadyH.cons (o := ?_) ?hoa4 ?hsta4 AllReadyH.nil
  case hoa4 => (simp only [List.getElem?_toArray, List.getElem?_cons_zero, List.getElem?_cons_succ]; rfl)
  intro K hK
  go_simp
  go_at_call 99; refine (cmp_int_any _ _ _).mono ?_; rintro e w4 ⟨rfl, rfl⟩
  go_wp2_with fail
  refine hK.out _ _ ?hsa4 (fun hHeld => ?_)
  case hsa4 => exact hHeld
  clear hK K
  (try simp only [Act.put, List.setIfInBounds_toArray, List.set_cons_zero, List.set_cons_succ])
  refine wpAnyH_take (i := 5) (oi := ?_) (v := ?_) ?hia5 (by kernel_rfl) ?hfa5 ?hra5 ?hQa5 ?hya5 (by assumption) ?resta5
  case hia5 => (simp only [List.getElem?_toArray, List.getElem?_cons_zero, List.getElem?_cons_succ]; rfl)
  case hfa5 => kernel_rfl
  case hra5 => kernel_rfl
  case hya5 => (refine Or.inl ⟨by rfl, ?_⟩; intro w hSw; (try dsimp only at hSw); go_simp; (try with_reducible rfl))
  case hQa5 => exact fun _ _ _ h => h
  (try simp only [Act.put, List.setIfInBounds_toArray, List.set_cons_zero, List.set_cons_succ])
  refine wpAnyH_done (by kernel_rfl) ?_ _
  have HS := Lib.hid hHeld
  have ra := row_step HRA.out hHeld
  have rb := row_step HRB.out hHeld
  have rc := row_step HST.out.2 hHeld
  have a0 := row_cell ra 0
  have a1 := row_cell ra 1
  have a2 := row_cell ra 2
  have a3 := row_cell ra 3
  have a4 := row_cell ra 4
  have b1 := row_cell rb 1
  have b2 := row_cell rb 2
  have b3 := row_cell rb 3
  have b4 := row_cell rb 4
  have k0 := row_cell rc 0
  simp only [List.getElem?_toArray, List.getElem?_cons_zero, List.getElem?_cons_succ] at a0 a1 a2 a3 a4 b1 b2 b3 b4 k0
  have HCP := Lib.hid (cp_bel HST.out.1 HST.out.2 HS.out HPP.out)
  clear ra rb rc g1 f1 hHeld
  cases hk : (cmpI (kindI K1) (kindI K2) != 0)
  · cases h1 : (K1 == 1)
    · cases h2 : (K1 == 2)
      · cases h3 : (K1 == 3)
        · cases h4 : (K1 == 4)
          · have HX := Lib.hid (show Ending.returned (.int .i64 0) = .returned (.int .i64 (cmpT cmpF (n + 1) (K1, I1, F1, S1, L1) (K2, I2, F2, S2, L2))) by rw [cmpT_else hk h1 h2 h3 h4])
            go_wp2
            go_ret
            exact ⟨HX.out, HCP.out⟩
          · cases m with
            | zero => exact absurd HD.out (by rw [deepT_zero h4]; simp)
            | succ m =>
            have HX := Lib.hid (show Ending.returned (.int .i64 (listC (cmpT cmpF n) L1 L2)) = .returned (.int .i64 (cmpT cmpF (n + 1) (K1, I1, F1, S1, L1) (K2, I2, F2, S2, L2))) by rw [cmpT_list hk h1 h2 h3 h4])
            have hdl : ∀ x ∈ L1, deepT n x m = false := by
              have := HD.out
              rw [deepT_succ h4] at this
              exact fun x hx => by simpa using (List.any_eq_false.1 this) x hx
            have hpl : vis + 1 + (L1.foldl (fun a x => a + partsT n x) 0 : Nat) ≤ 1000 ∧ partsT (n + 1) (K1, I1, F1, S1, L1) = L1.foldl (fun a x => a + partsT n x) 0 + 1 := by
              have e : partsT (n + 1) (K1, I1, F1, S1, L1) = L1.foldl (fun a x => a + partsT n x) 0 + 1 := by rw [partsT_list h4, ← parts_shift]
              have := HP.out
              rw [e] at this
              exact ⟨by omega, e⟩
            have HDL := Lib.hid hdl
            have HPL := Lib.hid hpl
            have HGW := Lib.hid (HST.out.1.trans (bel_grown HS.out _))
            have HBW := Lib.hid (Below.grown HB.out HGW.out HB.out.size (fun k hk => by cases hk; exact hs))
            have HCA := Lib.hid (row_step HST.out.2 HS.out)
            clear hdl hpl
            go_wp2_with fail
            go_at_call 103; refine (HLI.out L1 L2 p1 l1 c1 p2 l2 c2 m (lev + 1) (vis + 1) w0 _ cb HLA.out HLB.out HBW.out hs HCA.out HDL.out (by omega) (by omega) (by omega) HPL.out.1).mono ?_; rintro e w5 ⟨rfl, hcp⟩
            have HC5 := Lib.hid (cp_trans (j := 1) HGW.out hcp)
            clear hcp a0 a1 a2 a3 a4 b1 b2 b3 b4 k0
            go_wp2
            go_ret
            refine ⟨HX.out, ?_⟩
            rw [HPL.out.2]
            exact HC5.out
        · have HX := Lib.hid (show Ending.returned (.int .i64 (cmpS S1 S2)) = .returned (.int .i64 (cmpT cmpF (n + 1) (K1, I1, F1, S1, L1) (K2, I2, F2, S2, L2))) by rw [cmpT_text hk h1 h2 h3])
          go_wp2_with (go_at_call 102; refine (cmp_string_any _ _ _).mono ?_; rintro e w4 ⟨rfl, rfl⟩)
          go_ret
          exact ⟨HX.out, HCP.out⟩
      · have HX := Lib.hid (show Ending.returned (.int .i64 (cmpF F1 F2)) = .returned (.int .i64 (cmpT cmpF (n + 1) (K1, I1, F1, S1, L1) (K2, I2, F2, S2, L2))) by rw [cmpT_float hk h1 h2])
        go_wp2
        refine wp_region_held_drew (S := fun w' => Below w3.heap.size w3 w') (by kernel_rfl) ?_ (fun hHeld => ?_)
        · exact bel_drew (Below.refl _ _)
        refine wpAnyH_take (i := 0) (oi := ?_) (v := ?_) ?hib0 (by kernel_rfl) ?hfb0 ?hrb0 ?hQb0 ?hyb0 (by assumption) ?restb0
        case hib0 => (simp only [List.getElem?_toArray, List.getElem?_cons_zero, List.getElem?_cons_succ]; rfl)
        case hfb0 => kernel_rfl
        case hrb0 => kernel_rfl
        case hyb0 => (refine Or.inl ⟨by rfl, ?_⟩; intro w hSw; (try dsimp only at hSw); go_simp; (try with_reducible rfl))
        case hQb0 => exact fun _ _ _ h => h
        (try simp only [Act.put, List.setIfInBounds_toArray, List.set_cons_zero, List.set_cons_succ])
        refine wpAnyH_take (i := 1) (oi := ?_) (v := ?_) ?hib1 (by kernel_rfl) ?hfb1 ?hrb1 ?hQb1 ?hyb1 (by assumption) ?restb1
        case hib1 => (simp only [List.getElem?_toArray, List.getElem?_cons_zero, List.getElem?_cons_succ]; rfl)
        case hfb1 => kernel_rfl
        case hrb1 => kernel_rfl
        case hyb1 => (refine Or.inl ⟨by rfl, ?_⟩; intro w hSw; (try dsimp only at hSw); go_simp; (try with_reducible rfl))
        case hQb1 => exact fun _ _ _ h => h
        (try simp only [Act.put, List.setIfInBounds_toArray, List.set_cons_zero, List.set_cons_succ])
        refine wpAnyH_take (i := 2) (oi := ?_) (v := ?_) ?hib2 (by kernel_rfl) ?hfb2 ?hrb2 ?hQb2 ?hyb2 (by assumption) ?restb2
        case hib2 => (simp only [List.getElem?_toArray, List.getElem?_cons_zero, List.getElem?_cons_succ]; rfl)
        case hfb2 => kernel_rfl
        case hrb2 => kernel_rfl
        case hyb2 => (refine Or.inl ⟨by rfl, ?_⟩; intro w hSw; (try dsimp only at hSw); go_simp; (try with_reducible rfl))
        case hQb2 => exact fun _ _ _ h => h
        (try simp only [Act.put, List.setIfInBounds_toArray, List.set_cons_zero, List.set_cons_succ])
        refine wpAnyH_take (i := 3) (oi := ?_) (v := ?_) ?hib3 (by kernel_rfl) ?hfb3 ?hrb3 ?hQb3 ?hyb3 (by assumption) ?restb3
        case hib3 => (simp only [List.getElem?_toArray, List.getElem?_cons_zero, List.getElem?_cons_succ]; rfl)
        case hfb3 => kernel_rfl
        case hrb3 => kernel_rfl
        case hyb3 => (refine Or.inl ⟨by rfl, ?_⟩; intro w hSw; (try dsimp only at hSw); have c0 := cell_keep hSw k0; go_simp; (try with_reducible rfl))
        case hQb3 => exact fun _ _ _ h => h
        (try simp only [Act.put, List.setIfInBounds_toArray, List.set_cons_zero, List.set_cons_succ])
        refine wpAnyH_take (i := 4) (oi := ?_) (v := ?_) ?hib4 (by kernel_rfl) ?hfb4 ?hrb4 ?hQb4 ?hyb4 (by assumption) ?restb4
        case hib4 => (simp only [List.getElem?_toArray, List.getElem?_cons_zero, List.getElem?_cons_succ]; rfl)
        case hfb4 => kernel_rfl
        case hrb4 => kernel_rfl
        case hyb4 => (refine Or.inl ⟨by rfl, ?_⟩; intro w hSw; (try dsimp only at hSw); go_simp; (try with_reducible rfl))
        case hQb4 => exact fun _ _ _ h => h
        (try simp only [Act.put, List.setIfInBounds_toArray, List.set_cons_zero, List.set_cons_succ])
        refine wpAnyH_take (i := 5) (oi := ?_) (v := ?_) ?hib5 (by kernel_rfl) ?hfb5 ?hrb5 ?hQb5 ?hyb5 (by assumption) ?restb5
        case hib5 => (simp only [List.getElem?_toArray, List.getElem?_cons_zero, List.getElem?_cons_succ]; rfl)
        case hfb5 => kernel_rfl
        case hrb5 => kernel_rfl
        case hyb5 => (refine Or.inl ⟨by rfl, ?_⟩; intro w hSw; (try dsimp only at hSw); have c0 := cell_keep hSw a2; go_simp; (try with_reducible rfl))
        case hQb5 => exact fun _ _ _ h => h
        (try simp only [Act.put, List.setIfInBounds_toArray, List.set_cons_zero, List.set_cons_succ])
        refine wpAnyH_take (i := 6) (oi := ?_) (v := ?_) ?hib6 (by kernel_rfl) ?hfb6 ?hrb6 ?hQb6 ?hyb6 (by assumption) ?restb6
        case hib6 => (simp only [List.getElem?_toArray, List.getElem?_cons_zero, List.getElem?_cons_succ]; rfl)
        case hfb6 => kernel_rfl
        case hrb6 => kernel_rfl
        case hyb6 => (refine Or.inl ⟨by rfl, ?_⟩; intro w hSw; (try dsimp only at hSw); go_simp; (try with_reducible rfl))
        case hQb6 => exact fun _ _ _ h => h
        (try simp only [Act.put, List.setIfInBounds_toArray, List.set_cons_zero, List.set_cons_succ])
        refine wpAnyH_take (i := 7) (oi := ?_) (v := ?_) ?hib7 (by kernel_rfl) ?hfb7 ?hrb7 ?hQb7 ?hyb7 (by assumption) ?restb7
        case hib7 => (simp only [List.getElem?_toArray, List.getElem?_cons_zero, List.getElem?_cons_succ]; rfl)
        case hfb7 => kernel_rfl
        case hrb7 => kernel_rfl
        case hyb7 => (refine Or.inl ⟨by rfl, ?_⟩; intro w hSw; (try dsimp only at hSw); have c0 := cell_keep hSw b2; go_simp; (try with_reducible rfl))
        case hQb7 => exact fun _ _ _ h => h
        (try simp only [Act.put, List.setIfInBounds_toArray, List.set_cons_zero, List.set_cons_succ])
        refine wpAnyH_ready (rs := [8]) (by kernel_rfl) (by simp) ?_
        refine AllReadyH.cons (o := ?_) ?hob8 ?hstb8 AllReadyH.nil
        case hob8 => (simp only [List.getElem?_toArray, List.getElem?_cons_zero, List.getElem?_cons_succ]; rfl)
        intro K hK
        go_simp
        go_at_call 97; refine (cmp_float_any _ _ _).mono ?_; rintro e w4 ⟨rfl, rfl⟩
        go_wp2_with fail
        refine hK.out _ _ ?hsb8 (fun hHeld => ?_)
        case hsb8 => exact hHeld
        clear hK K
        (try simp only [Act.put, List.setIfInBounds_toArray, List.set_cons_zero, List.set_cons_succ])
        refine wpAnyH_take (i := 9) (oi := ?_) (v := ?_) ?hib9 (by kernel_rfl) ?hfb9 ?hrb9 ?hQb9 ?hyb9 (by assumption) ?restb9
        case hib9 => (simp only [List.getElem?_toArray, List.getElem?_cons_zero, List.getElem?_cons_succ]; rfl)
        case hfb9 => kernel_rfl
        case hrb9 => kernel_rfl
        case hyb9 => (refine Or.inl ⟨by rfl, ?_⟩; intro w hSw; (try dsimp only at hSw); go_simp; (try with_reducible rfl))
        case hQb9 => exact fun _ _ _ h => h
        (try simp only [Act.put, List.setIfInBounds_toArray, List.set_cons_zero, List.set_cons_succ])
        refine wpAnyH_done (by kernel_rfl) ?_ _
        go_wp2
        go_ret
        exact ⟨HX.out, cp_drewN HCP.out 1⟩
    · have HX := Lib.hid (show Ending.returned (.int .i64 (cmpI I1 I2)) = .returned (.int .i64 (cmpT cmpF (n + 1) (K1, I1, F1, S1, L1) (K2, I2, F2, S2, L2))) by rw [cmpT_int hk h1])
      go_wp2_with (go_at_call 101; refine (cmp_int64_any _ _ _).mono ?_; rintro e w4 ⟨rfl, rfl⟩)
      go_ret
      exact ⟨HX.out, HCP.out⟩
  · have HX := Lib.hid (show Ending.returned (.int .i64 (cmpI (kindI K1) (kindI K2))) = .returned (.int .i64 (cmpT cmpF (n + 1) (K1, I1, F1, S1, L1) (K2, I2, F2, S2, L2))) by rw [cmpT_kind hk])
    go_wp2
    go_ret
    exact ⟨HX.out, HCP.out⟩
set_option maxRecDepth 100000 in
set_option maxHeartbeats 4000000 in
theorem cp_values_succO (n : Nat) (hl : CpLists 89 ordF n) : CpValues 89 ordF (n + 1) := by
  intro A B a b m lev vis w0 w cb hra hrb hB hs hat hd hlev hlm hv0 hvp
  have hpp := parts_pos A
  obtain ⟨K1, I1, F1, S1, L1⟩ := A
  obtain ⟨K2, I2, F2, S2, L2⟩ := B
  obtain ⟨p1, l1, c1, rfl, _, _, hF1, hS1, hL1⟩ := hra
  obtain ⟨p2, l2, c2, rfl, _, _, hF2, hS2, hL2⟩ := hrb
  have g1 : w.cell? ⟨cb, 1, none⟩ = some (.int .i64 vis) := row_cell hat 1
  have f1 : w.frozen? ⟨cb, 1, none⟩ = false := row_frz hat 1
  have hlt := row_lt hat
  have hne : cb ≠ w.heap.size := by omega
  have hv1 : vis ≤ 999 := by omega
  have HAT := Lib.hid hat
  have HB := Lib.hid hB
  have HLA := Lib.hid hL1
  have HLB := Lib.hid hL2
  have HP := Lib.hid hvp
  have HD := Lib.hid hd
  have HLI := Lib.hid hl
  have HPP := Lib.hid hpp
  clear hat hB hL1 hL2 hvp hd hl hpp
  obtain ⟨W1, hW1⟩ : ∃ W1, W1 = ((w.setCell ⟨cb, 1, none⟩ (.int .i64 (vis + 1))).alloc (.cells #[.int .i64 K1, .int .i64 I1, .float .f64 F1, .string S1, .slice p1 l1 c1] 47)).alloc (.cells #[.int .i64 K2, .int .i64 I2, .float .f64 F2, .string S2, .slice p2 l2 c2] 47) := ⟨_, rfl⟩
  have hst := cp_start HAT.out (.cells #[.int .i64 K1, .int .i64 I1, .float .f64 F1, .string S1, .slice p1 l1 c1] 47) (.cells #[.int .i64 K2, .int .i64 I2, .float .f64 F2, .string S2, .slice p2 l2 c2] 47)
  have hra := row_alloc_step (row_alloc (w.setCell ⟨cb, 1, none⟩ (.int .i64 (vis + 1))) #[.int .i64 K1, .int .i64 I1, .float .f64 F1, .string S1, .slice p1 l1 c1] 47) (.cells #[.int .i64 K2, .int .i64 I2, .float .f64 F2, .string S2, .slice p2 l2 c2] 47)
  have hrb := row_alloc ((w.setCell ⟨cb, 1, none⟩ (.int .i64 (vis + 1))).alloc (.cells #[.int .i64 K1, .int .i64 I1, .float .f64 F1, .string S1, .slice p1 l1 c1] 47)) #[.int .i64 K2, .int .i64 I2, .float .f64 F2, .string S2, .slice p2 l2 c2] 47
  simp only [World.size_alloc, World.size_setCell] at hra hrb
  rw [← hW1] at hst hra hrb
  have HST := Lib.hid hst
  have HRA := Lib.hid hra
  have HRB := Lib.hid hrb
  have HW1 := Lib.hid hW1
  clear hst hra hrb hW1
  go_enter Try.func90, Try.ntmps90
  go_wp2_with fail
  rw [← HW1.out]
  clear HW1
  refine wp_region_held_drew (S := fun w' => Below W1.heap.size W1 w') (by kernel_rfl) ?_ (fun hHeld => ?_)
  · exact bel_drew (Below.refl _ _)
  refine wpAnyH_take (i := 0) (oi := ?_) (v := ?_) ?hia0 (by kernel_rfl) ?hfa0 ?hra0 ?hQa0 ?hya0 (by assumption) ?resta0
  case hia0 => (simp only [List.getElem?_toArray, List.getElem?_cons_zero, List.getElem?_cons_succ]; rfl)
  case hfa0 => kernel_rfl
  case hra0 => kernel_rfl
  case hya0 => (refine Or.inl ⟨by rfl, ?_⟩; intro w hSw; (try dsimp only at hSw); have rr := row_step HRA.out hSw; have c0 := row_cell rr 0; have c1 := row_cell rr 1; have c2 := row_cell rr 2; have c3 := row_cell rr 3; have c4 := row_cell rr 4; simp only [List.getElem?_toArray, List.getElem?_cons_zero, List.getElem?_cons_succ] at c0 c1 c2 c3 c4; go_simp; (try with_reducible rfl))
  case hQa0 => exact fun _ _ _ h => h
  (try simp only [Act.put, List.setIfInBounds_toArray, List.set_cons_zero, List.set_cons_succ])
  refine wpAnyH_take (i := 2) (oi := ?_) (v := ?_) ?hia2 (by kernel_rfl) ?hfa2 ?hra2 ?hQa2 ?hya2 (by assumption) ?resta2
  case hia2 => (simp only [List.getElem?_toArray, List.getElem?_cons_zero, List.getElem?_cons_succ]; rfl)
  case hfa2 => kernel_rfl
  case hra2 => kernel_rfl
  case hya2 => (refine Or.inl ⟨by rfl, ?_⟩; intro w hSw; (try dsimp only at hSw); have rr := row_step HRB.out hSw; have c0 := row_cell rr 0; have c1 := row_cell rr 1; have c2 := row_cell rr 2; have c3 := row_cell rr 3; have c4 := row_cell rr 4; simp only [List.getElem?_toArray, List.getElem?_cons_zero, List.getElem?_cons_succ] at c0 c1 c2 c3 c4; go_simp; (try with_reducible rfl))
  case hQa2 => exact fun _ _ _ h => h
  (try simp only [Act.put, List.setIfInBounds_toArray, List.set_cons_zero, List.set_cons_succ])
  refine wpAnyH_ready (rs := [1]) (by kernel_rfl) (by simp) ?_
  refine AllReadyH.cons (o := ?_) ?hoa1 ?hsta1 AllReadyH.nil
  case hoa1 => (simp only [List.getElem?_toArray, List.getElem?_cons_zero, List.getElem?_cons_succ]; rfl)
  intro K hK
  go_simp
  go_at_call 100; refine (kind_any _ _ _ _ _ _ _ _).mono ?_; rintro e w2 ⟨rfl, hb⟩; have hS2 := bel_step hHeld hb; clear hb
  go_wp2_with fail
  refine hK.out _ _ ?hsa1 (fun hHeld => ?_)
  case hsa1 => exact hS2
  clear hK K
  (try simp only [Act.put, List.setIfInBounds_toArray, List.set_cons_zero, List.set_cons_succ])
  refine wpAnyH_ready (rs := [3]) (by kernel_rfl) (by simp) ?_
  refine AllReadyH.cons (o := ?_) ?hoa3 ?hsta3 AllReadyH.nil
  case hoa3 => (simp only [List.getElem?_toArray, List.getElem?_cons_zero, List.getElem?_cons_succ]; rfl)
  intro K hK
  go_simp
  go_at_call 100; refine (kind_any _ _ _ _ _ _ _ _).mono ?_; rintro e w3 ⟨rfl, hb⟩; have hS3 := bel_step hHeld hb; clear hb
  go_wp2_with fail
  refine hK.out _ _ ?hsa3 (fun hHeld => ?_)
  case hsa3 => exact hS3
  clear hK K
  (try simp only [Act.put, List.setIfInBounds_toArray, List.set_cons_zero, List.set_cons_succ])
  refine wpAnyH_ready (rs := [4]) (by kernel_rfl) (by simp) ?_
  refine AllReadyH.cons (o := ?_) ?hoa4 ?hsta4 AllReadyH.nil
  case hoa4 => (simp only [List.getElem?_toArray, List.getElem?_cons_zero, List.getElem?_cons_succ]; rfl)
  intro K hK
  go_simp
  go_at_call 99; refine (cmp_int_any _ _ _).mono ?_; rintro e w4 ⟨rfl, rfl⟩
  go_wp2_with fail
  refine hK.out _ _ ?hsa4 (fun hHeld => ?_)
  case hsa4 => exact hHeld
  clear hK K
  (try simp only [Act.put, List.setIfInBounds_toArray, List.set_cons_zero, List.set_cons_succ])
  refine wpAnyH_take (i := 5) (oi := ?_) (v := ?_) ?hia5 (by kernel_rfl) ?hfa5 ?hra5 ?hQa5 ?hya5 (by assumption) ?resta5
  case hia5 => (simp only [List.getElem?_toArray, List.getElem?_cons_zero, List.getElem?_cons_succ]; rfl)
  case hfa5 => kernel_rfl
  case hra5 => kernel_rfl
  case hya5 => (refine Or.inl ⟨by rfl, ?_⟩; intro w hSw; (try dsimp only at hSw); go_simp; (try with_reducible rfl))
  case hQa5 => exact fun _ _ _ h => h
  (try simp only [Act.put, List.setIfInBounds_toArray, List.set_cons_zero, List.set_cons_succ])
  refine wpAnyH_done (by kernel_rfl) ?_ _
  have HS := Lib.hid hHeld
  have ra := row_step HRA.out hHeld
  have rb := row_step HRB.out hHeld
  have rc := row_step HST.out.2 hHeld
  have a0 := row_cell ra 0
  have a1 := row_cell ra 1
  have a2 := row_cell ra 2
  have a3 := row_cell ra 3
  have a4 := row_cell ra 4
  have b1 := row_cell rb 1
  have b2 := row_cell rb 2
  have b3 := row_cell rb 3
  have b4 := row_cell rb 4
  have k0 := row_cell rc 0
  simp only [List.getElem?_toArray, List.getElem?_cons_zero, List.getElem?_cons_succ] at a0 a1 a2 a3 a4 b1 b2 b3 b4 k0
  have HCP := Lib.hid (cp_bel HST.out.1 HST.out.2 HS.out HPP.out)
  clear ra rb rc g1 f1 hHeld
  cases hk : (cmpI (kindI K1) (kindI K2) != 0)
  · cases h1 : (K1 == 1)
    · cases h2 : (K1 == 2)
      · cases h3 : (K1 == 3)
        · cases h4 : (K1 == 4)
          · have HX := Lib.hid (show Ending.returned (.int .i64 0) = .returned (.int .i64 (cmpT ordF (n + 1) (K1, I1, F1, S1, L1) (K2, I2, F2, S2, L2))) by rw [cmpT_else hk h1 h2 h3 h4])
            go_wp2
            go_ret
            exact ⟨HX.out, HCP.out⟩
          · cases m with
            | zero => exact absurd HD.out (by rw [deepT_zero h4]; simp)
            | succ m =>
            have HX := Lib.hid (show Ending.returned (.int .i64 (listC (cmpT ordF n) L1 L2)) = .returned (.int .i64 (cmpT ordF (n + 1) (K1, I1, F1, S1, L1) (K2, I2, F2, S2, L2))) by rw [cmpT_list hk h1 h2 h3 h4])
            have hdl : ∀ x ∈ L1, deepT n x m = false := by
              have := HD.out
              rw [deepT_succ h4] at this
              exact fun x hx => by simpa using (List.any_eq_false.1 this) x hx
            have hpl : vis + 1 + (L1.foldl (fun a x => a + partsT n x) 0 : Nat) ≤ 1000 ∧ partsT (n + 1) (K1, I1, F1, S1, L1) = L1.foldl (fun a x => a + partsT n x) 0 + 1 := by
              have e : partsT (n + 1) (K1, I1, F1, S1, L1) = L1.foldl (fun a x => a + partsT n x) 0 + 1 := by rw [partsT_list h4, ← parts_shift]
              have := HP.out
              rw [e] at this
              exact ⟨by omega, e⟩
            have HDL := Lib.hid hdl
            have HPL := Lib.hid hpl
            have HGW := Lib.hid (HST.out.1.trans (bel_grown HS.out _))
            have HBW := Lib.hid (Below.grown HB.out HGW.out HB.out.size (fun k hk => by cases hk; exact hs))
            have HCA := Lib.hid (row_step HST.out.2 HS.out)
            clear hdl hpl
            go_wp2_with fail
            go_at_call 103; refine (HLI.out L1 L2 p1 l1 c1 p2 l2 c2 m (lev + 1) (vis + 1) w0 _ cb HLA.out HLB.out HBW.out hs HCA.out HDL.out (by omega) (by omega) (by omega) HPL.out.1).mono ?_; rintro e w5 ⟨rfl, hcp⟩
            have HC5 := Lib.hid (cp_trans (j := 1) HGW.out hcp)
            clear hcp a0 a1 a2 a3 a4 b1 b2 b3 b4 k0
            go_wp2
            go_ret
            refine ⟨HX.out, ?_⟩
            rw [HPL.out.2]
            exact HC5.out
        · have HX := Lib.hid (show Ending.returned (.int .i64 (cmpS S1 S2)) = .returned (.int .i64 (cmpT ordF (n + 1) (K1, I1, F1, S1, L1) (K2, I2, F2, S2, L2))) by rw [cmpT_text hk h1 h2 h3])
          go_wp2_with (go_at_call 102; refine (cmp_string_any _ _ _).mono ?_; rintro e w4 ⟨rfl, rfl⟩)
          go_ret
          exact ⟨HX.out, HCP.out⟩
      · have HX := Lib.hid (show Ending.returned (.int .i64 (ordF F1 F2)) = .returned (.int .i64 (cmpT ordF (n + 1) (K1, I1, F1, S1, L1) (K2, I2, F2, S2, L2))) by rw [cmpT_float hk h1 h2])
        go_wp2
        refine wp_region_held_drew (S := fun w' => Below w3.heap.size w3 w') (by kernel_rfl) ?_ (fun hHeld => ?_)
        · exact bel_drew (Below.refl _ _)
        refine wpAnyH_take (i := 0) (oi := ?_) (v := ?_) ?hib0 (by kernel_rfl) ?hfb0 ?hrb0 ?hQb0 ?hyb0 (by assumption) ?restb0
        case hib0 => (simp only [List.getElem?_toArray, List.getElem?_cons_zero, List.getElem?_cons_succ]; rfl)
        case hfb0 => kernel_rfl
        case hrb0 => kernel_rfl
        case hyb0 => (refine Or.inl ⟨by rfl, ?_⟩; intro w hSw; (try dsimp only at hSw); go_simp; (try with_reducible rfl))
        case hQb0 => exact fun _ _ _ h => h
        (try simp only [Act.put, List.setIfInBounds_toArray, List.set_cons_zero, List.set_cons_succ])
        refine wpAnyH_take (i := 1) (oi := ?_) (v := ?_) ?hib1 (by kernel_rfl) ?hfb1 ?hrb1 ?hQb1 ?hyb1 (by assumption) ?restb1
        case hib1 => (simp only [List.getElem?_toArray, List.getElem?_cons_zero, List.getElem?_cons_succ]; rfl)
        case hfb1 => kernel_rfl
        case hrb1 => kernel_rfl
        case hyb1 => (refine Or.inl ⟨by rfl, ?_⟩; intro w hSw; (try dsimp only at hSw); go_simp; (try with_reducible rfl))
        case hQb1 => exact fun _ _ _ h => h
        (try simp only [Act.put, List.setIfInBounds_toArray, List.set_cons_zero, List.set_cons_succ])
        refine wpAnyH_take (i := 2) (oi := ?_) (v := ?_) ?hib2 (by kernel_rfl) ?hfb2 ?hrb2 ?hQb2 ?hyb2 (by assumption) ?restb2
        case hib2 => (simp only [List.getElem?_toArray, List.getElem?_cons_zero, List.getElem?_cons_succ]; rfl)
        case hfb2 => kernel_rfl
        case hrb2 => kernel_rfl
        case hyb2 => (refine Or.inl ⟨by rfl, ?_⟩; intro w hSw; (try dsimp only at hSw); go_simp; (try with_reducible rfl))
        case hQb2 => exact fun _ _ _ h => h
        (try simp only [Act.put, List.setIfInBounds_toArray, List.set_cons_zero, List.set_cons_succ])
        refine wpAnyH_take (i := 3) (oi := ?_) (v := ?_) ?hib3 (by kernel_rfl) ?hfb3 ?hrb3 ?hQb3 ?hyb3 (by assumption) ?restb3
        case hib3 => (simp only [List.getElem?_toArray, List.getElem?_cons_zero, List.getElem?_cons_succ]; rfl)
        case hfb3 => kernel_rfl
        case hrb3 => kernel_rfl
        case hyb3 => (refine Or.inl ⟨by rfl, ?_⟩; intro w hSw; (try dsimp only at hSw); have c0 := cell_keep hSw k0; go_simp; (try with_reducible rfl))
        case hQb3 => exact fun _ _ _ h => h
        (try simp only [Act.put, List.setIfInBounds_toArray, List.set_cons_zero, List.set_cons_succ])
        refine wpAnyH_take (i := 4) (oi := ?_) (v := ?_) ?hib4 (by kernel_rfl) ?hfb4 ?hrb4 ?hQb4 ?hyb4 (by assumption) ?restb4
        case hib4 => (simp only [List.getElem?_toArray, List.getElem?_cons_zero, List.getElem?_cons_succ]; rfl)
        case hfb4 => kernel_rfl
        case hrb4 => kernel_rfl
        case hyb4 => (refine Or.inl ⟨by rfl, ?_⟩; intro w hSw; (try dsimp only at hSw); go_simp; (try with_reducible rfl))
        case hQb4 => exact fun _ _ _ h => h
        (try simp only [Act.put, List.setIfInBounds_toArray, List.set_cons_zero, List.set_cons_succ])
        refine wpAnyH_take (i := 5) (oi := ?_) (v := ?_) ?hib5 (by kernel_rfl) ?hfb5 ?hrb5 ?hQb5 ?hyb5 (by assumption) ?restb5
        case hib5 => (simp only [List.getElem?_toArray, List.getElem?_cons_zero, List.getElem?_cons_succ]; rfl)
        case hfb5 => kernel_rfl
        case hrb5 => kernel_rfl
        case hyb5 => (refine Or.inl ⟨by rfl, ?_⟩; intro w hSw; (try dsimp only at hSw); have c0 := cell_keep hSw a2; go_simp; (try with_reducible rfl))
        case hQb5 => exact fun _ _ _ h => h
        (try simp only [Act.put, List.setIfInBounds_toArray, List.set_cons_zero, List.set_cons_succ])
        refine wpAnyH_take (i := 6) (oi := ?_) (v := ?_) ?hib6 (by kernel_rfl) ?hfb6 ?hrb6 ?hQb6 ?hyb6 (by assumption) ?restb6
        case hib6 => (simp only [List.getElem?_toArray, List.getElem?_cons_zero, List.getElem?_cons_succ]; rfl)
        case hfb6 => kernel_rfl
        case hrb6 => kernel_rfl
        case hyb6 => (refine Or.inl ⟨by rfl, ?_⟩; intro w hSw; (try dsimp only at hSw); go_simp; (try with_reducible rfl))
        case hQb6 => exact fun _ _ _ h => h
        (try simp only [Act.put, List.setIfInBounds_toArray, List.set_cons_zero, List.set_cons_succ])
        refine wpAnyH_take (i := 7) (oi := ?_) (v := ?_) ?hib7 (by kernel_rfl) ?hfb7 ?hrb7 ?hQb7 ?hyb7 (by assumption) ?restb7
        case hib7 => (simp only [List.getElem?_toArray, List.getElem?_cons_zero, List.getElem?_cons_succ]; rfl)
        case hfb7 => kernel_rfl
        case hrb7 => kernel_rfl
        case hyb7 => (refine Or.inl ⟨by rfl, ?_⟩; intro w hSw; (try dsimp only at hSw); have c0 := cell_keep hSw b2; go_simp; (try with_reducible rfl))
        case hQb7 => exact fun _ _ _ h => h
        (try simp only [Act.put, List.setIfInBounds_toArray, List.set_cons_zero, List.set_cons_succ])
        refine wpAnyH_ready (rs := [8]) (by kernel_rfl) (by simp) ?_
        refine AllReadyH.cons (o := ?_) ?hob8 ?hstb8 AllReadyH.nil
        case hob8 => (simp only [List.getElem?_toArray, List.getElem?_cons_zero, List.getElem?_cons_succ]; rfl)
        intro K hK
        go_simp
        go_at_call 89; refine (orderFloats_any _ _ (by assumption) (by assumption) _).mono ?_; rintro e w4 ⟨rfl, rfl⟩
        go_wp2_with fail
        refine hK.out _ _ ?hsb8 (fun hHeld => ?_)
        case hsb8 => exact hHeld
        clear hK K
        (try simp only [Act.put, List.setIfInBounds_toArray, List.set_cons_zero, List.set_cons_succ])
        refine wpAnyH_take (i := 9) (oi := ?_) (v := ?_) ?hib9 (by kernel_rfl) ?hfb9 ?hrb9 ?hQb9 ?hyb9 (by assumption) ?restb9
        case hib9 => (simp only [List.getElem?_toArray, List.getElem?_cons_zero, List.getElem?_cons_succ]; rfl)
        case hfb9 => kernel_rfl
        case hrb9 => kernel_rfl
        case hyb9 => (refine Or.inl ⟨by rfl, ?_⟩; intro w hSw; (try dsimp only at hSw); go_simp; (try with_reducible rfl))
        case hQb9 => exact fun _ _ _ h => h
        (try simp only [Act.put, List.setIfInBounds_toArray, List.set_cons_zero, List.set_cons_succ])
        refine wpAnyH_done (by kernel_rfl) ?_ _
        go_wp2
        go_ret
        exact ⟨HX.out, cp_drewN HCP.out 1⟩
    · have HX := Lib.hid (show Ending.returned (.int .i64 (cmpI I1 I2)) = .returned (.int .i64 (cmpT ordF (n + 1) (K1, I1, F1, S1, L1) (K2, I2, F2, S2, L2))) by rw [cmpT_int hk h1])
      go_wp2_with (go_at_call 101; refine (cmp_int64_any _ _ _).mono ?_; rintro e w4 ⟨rfl, rfl⟩)
      go_ret
      exact ⟨HX.out, HCP.out⟩
  · have HX := Lib.hid (show Ending.returned (.int .i64 (cmpI (kindI K1) (kindI K2))) = .returned (.int .i64 (cmpT ordF (n + 1) (K1, I1, F1, S1, L1) (K2, I2, F2, S2, L2))) by rw [cmpT_kind hk])
    go_wp2
    go_ret
    exact ⟨HX.out, HCP.out⟩
end Num
end Go.Proofs.Ytomfgncbdgifoaa
/-
  The comparison of package value: lists against lists.
-/
namespace Go.Proofs.Ytomfgncbdgifoaa
open Go.RowKit
namespace Num
open Ints
set_option linter.unusedSimpArgs false
set_option linter.unusedVariables false
theorem look_pair (a b : Addr) (n : Int) (w : World) : (Instr.lookup 122 (.map none) (.agg #[.pointer (some a), .pointer (some b), .int .i64 n]) true).run Try.prog w = .ok (.tuple #[.agg #[], .bool false]) w := by kernel_rfl
theorem comp_keep (a b : Addr) (n : Int) (w : World) (cb fn : Nat) (vis : Int) (hat : CpAt w cb fn vis) (hv : vis ≤ 1000) : Calls Try.prog 112 #[.pointer (some ⟨cb, 0, none⟩), .agg #[.pointer (some a), .pointer (some b), .int .i64 n]] w fun e w' => e = .returned (.tuple #[]) ∧ Below w.heap.size w w' := by
  have c0 : w.cell? ⟨cb, 1, none⟩ = some (.int .i64 vis) := row_cell hat 1
  have hlt := row_lt hat
  have hne : cb ≠ w.heap.size := by omega
  clear hat
  go_enter Try.func112, Try.ntmps112
  go_wp2
  refine bodyPost_ret (results_none rfl _ _ _) rfl ?_
  exact ⟨rfl, (Below.refl _ _).alloc (Nat.le_refl _) _⟩
def CpItems (fn : Nat) (fc : Nat → Nat → Int) (n : Nat) : Prop := ∀ (L1 L2 : List (VT n)) (p1 p2 : Option Addr) (l c1 c2 : Nat) (x y : Addr) (m : Nat) (lev vis : Int) (w0 w : World) (cb : Nat), RepL w0 (Rep w0 n) p1 l c1 L1 → RepL w0 (Rep w0 n) p2 l c2 L2 → Below w0.heap.size w0 w → w0.heap.size ≤ cb → CpAt w cb fn vis → (∀ x ∈ L1, deepT n x m = false) → 0 ≤ lev → lev + m ≤ 64 → 0 ≤ vis → vis + (L1.foldl (fun a x => a + partsT n x) 0 : Nat) ≤ 1000 →
  Calls Try.prog 109 #[.pointer (some ⟨cb, 0, none⟩), .agg #[.pointer (some x), .pointer (some y), .int .i64 l], .slice p1 l c1, .slice p2 l c2, .int .i64 lev] w fun e w' => e = .returned (.int .i64 (itemsC (cmpT fc n) L1 L2)) ∧ Cp w w' cb fn vis (L1.foldl (fun a x => a + partsT n x) 0)
/-- What the walk through items keeps. -/
def Its (w wr : World) (cb fn : Nat) (vis vis' : Int) (k : Nat) (x y : Addr) (l : Nat) : Prop :=
  w.grownBy wr (some cb) ∧ CpAt wr cb fn vis' ∧ vis ≤ vis' ∧ vis' ≤ vis + k ∧ wr.heap[w.heap.size]? = some (.cells #[.pointer (some x), .pointer (some y), .int .i64 l] 150 (0, 0))
theorem its_bel {w wr w1 : World} {cb fn : Nat} {vis vis' : Int} {k : Nat} {x y : Addr} {l : Nat} (h : Its w wr cb fn vis vis' k x y l) (hb : Below wr.heap.size wr w1) : Its w w1 cb fn vis vis' k x y l := by
  obtain ⟨h1, h2, h3, h4, h5⟩ := h
  exact ⟨h1.trans (bel_grown hb _), row_step h2 hb, h3, h4, row_step h5 hb⟩
theorem its_cp {w wr w1 : World} {cb fn : Nat} {vis vis' : Int} {k j : Nat} {x y : Addr} {l : Nat} (h : Its w wr cb fn vis vis' k x y l) (hs : cb < w.heap.size) (hb : Cp wr w1 cb fn vis' j) : ∃ vis2, Its w w1 cb fn vis vis2 (k + j) x y l := by
  obtain ⟨h1, h2, h3, h4, h5⟩ := h
  obtain ⟨g, vis2, a1, a2, a3⟩ := hb
  exact ⟨vis2, h1.trans g, a3, by omega, by omega, row_grown h5 g (by simp; omega)⟩
theorem items_step {α : Type} (c : α → α → Int) (L1 L2 : List α) (k : Nat) (h1 : k < L1.length) (h2 : k < L2.length) : itemsC c (L1.drop k) (L2.drop k) = if (c L1[k] L2[k] != 0) = true then c L1[k] L2[k] else itemsC c (L1.drop (k + 1)) (L2.drop (k + 1)) := by
  rw [List.drop_eq_getElem_cons h1, List.drop_eq_getElem_cons h2, itemsC]
theorem items_end {α : Type} (c : α → α → Int) (L1 L2 : List α) (k : Nat) (h1 : L1.length ≤ k) : itemsC c (L1.drop k) (L2.drop k) = 0 := by
  rw [List.drop_eq_nil_of_le h1, itemsC]
  intro x xs y ys h _; cases h
theorem items_take {α : Type} (c : α → α → Int) : ∀ (L1 L2 : List α) (k : Nat), k = min L1.length L2.length → itemsC c (L1.take k) (L2.take k) = itemsC c L1 L2 := by
  intro L1
  induction L1 with
  | nil => intro L2 k hk; simp at hk; subst hk; simp [itemsC]
  | cons x xs ih =>
    intro L2 k hk
    cases L2 with
    | nil => simp at hk; subst hk; simp [itemsC]
    | cons y ys =>
      simp only [List.length_cons] at hk
      obtain ⟨j, rfl⟩ : ∃ j, k = j + 1 := ⟨k - 1, by omega⟩
      rw [List.take_succ_cons, List.take_succ_cons, itemsC, itemsC, ih ys j (by omega)]
theorem fold_take {n : Nat} (L : List (VT n)) (k : Nat) : (L.take k).foldl (fun a x => a + partsT n x) 0 ≤ L.foldl (fun a x => a + partsT n x) 0 := by
  conv => rhs; rw [← List.take_append_drop k L, List.foldl_append]
  exact foldl_parts _ _
theorem repL_take {α : Type} {w : World} {R : Value → α → Prop} {p : Option Addr} {l c k : Nat} {L : List α} (h : RepL w R p l c L) (hk : k ≤ l) : RepL w R p k c (L.take k) := by
  obtain ⟨h1, h2, h3, h4⟩ := h
  refine ⟨by rw [List.length_take]; omega, by omega, h3, fun hk0 => ?_⟩
  obtain ⟨b, off, hp, hi⟩ := h4 (by omega)
  refine ⟨b, off, hp, fun i hi' => ?_⟩
  have hlt : i < L.length := by rw [List.length_take] at hi'; omega
  obtain ⟨v0, v1, v2, v3, v4, c0, c1, c2, c3, c4, hr⟩ := hi i hlt
  exact ⟨v0, v1, v2, v3, v4, c0, c1, c2, c3, c4, by rw [List.getElem_take]; exact hr⟩
set_option maxRecDepth 100000 in
set_option maxHeartbeats 4000000 in
theorem cp_items_ofE (n : Nat) (hv : CpValues 97 cmpF n) : CpItems 97 cmpF n := by
  intro L1 L2 p1 p2 l c1 c2 x y m lev vis w0 w cb hr1 hr2 hB hs hat hd hlev hlm hv0 hvp
  obtain ⟨hl1, hlc1, hcm1, hel1⟩ := hr1
  obtain ⟨hl2, hlc2, hcm2, hel2⟩ := hr2
  unfold maxLen at hcm1 hcm2
  have g2 : w.cell? ⟨cb, 2, none⟩ = some (.map none) := row_cell hat 2
  have hlt := row_lt hat
  have hne : cb ≠ w.heap.size := by omega
  have lt1 : cb < w.heap.size + 1 := by omega
  have ne1 : cb ≠ w.heap.size + 1 := by omega
  have HAT := Lib.hid hat
  have HB := Lib.hid hB
  have HP := Lib.hid hvp
  have HD := Lib.hid hd
  have HLV := Lib.hid hv
  have HL1 := Lib.hid hl1
  have HL2 := Lib.hid hl2
  have HE1 := Lib.hid hel1
  have HE2 := Lib.hid hel2
  clear hat hB hvp hd hv hl1 hl2 hel1 hel2
  have lk := look_pair
  have RK := Lib.hid (row_alloc w #[.pointer (some x), .pointer (some y), .int .i64 l] 150)
  go_enter Try.func109, Try.ntmps109
  go_wp2
  go_region
  go_wp2
  go_loopw [27] (fun i wr => ∃ (k : Nat) (vis' : Int), k ≤ l ∧ i = .int .i64 k ∧ Hid (itemsC (cmpT cmpF n) (L1.drop k) (L2.drop k) = itemsC (cmpT cmpF n) L1 L2) ∧ Hid (Its w wr cb 97 vis vis' ((L1.take k).foldl (fun a x => a + partsT n x) 0) x y l)) (fun i _ => l - (intOf i).toNat)
  case atStart =>
    refine ⟨0, vis, by omega, rfl, Lib.hid rfl, Lib.hid ⟨grown_drew ((World.grownBy_alloc _ _ _).trans (World.grownBy_alloc _ _ _)), ?_, by omega, by omega, ?_⟩⟩
    · exact row_alloc_step (row_alloc_step HAT.out _) _
    · exact row_alloc_step RK.out _
  case round =>
    obtain ⟨k, vis', hk, rfl, HQ, HIT⟩ := hrel
    clear RK g2
    by_cases hlt2 : k < l
    · obtain ⟨b1, off1, hp1, hi1⟩ := HE1.out (by omega)
      obtain ⟨b2, off2, hp2, hi2⟩ := HE2.out (by omega)
      subst hp1
      subst hp2
      have hk1 : k < L1.length := by have := HL1.out; omega
      have hk2 : k < L2.length := by have := HL2.out; omega
      obtain ⟨v0, v1, v2, v3, v4, d0, d1, d2, d3, d4, hr1⟩ := hi1 k hk1
      obtain ⟨u0, u1, u2, u3, u4, t0, t1, t2, t3, t4, hr2⟩ := hi2 k hk2
      obtain ⟨X1, J1, G1, Z1, pp1, ll1, cc1, he1, _⟩ := rep_shape hr1
      simp only [Value.agg.injEq, Array.mk.injEq, List.cons.injEq, and_true] at he1
      obtain ⟨rfl, rfl, rfl, rfl, rfl⟩ := he1
      obtain ⟨X2, J2, G2, Z2, pp2, ll2, cc2, he2, _⟩ := rep_shape hr2
      simp only [Value.agg.injEq, Array.mk.injEq, List.cons.injEq, and_true] at he2
      obtain ⟨rfl, rfl, rfl, rfl, rfl⟩ := he2
      have HBW := Lib.hid (Below.grown HB.out HIT.out.1 HB.out.size (fun k hk => by cases hk; exact hs))
      have HR1 := Lib.hid hr1
      have HR2 := Lib.hid hr2
      have HDK := Lib.hid (HD.out L1[k] (List.getElem_mem hk1))
      have hvv : 0 ≤ vis' := by have := HIT.out.2.2.1; omega
      have HPK := Lib.hid (show vis' + partsT n L1[k] ≤ 1000 by
        have h1 := HIT.out.2.2.2.1
        have h2 := parts_prefix L1 k hk1 0
        have h3 := HP.out
        omega)
      have HPT := Lib.hid (show (L1.take k).foldl (fun a x => a + partsT n x) 0 + partsT n L1[k] = (L1.take (k + 1)).foldl (fun a x => a + partsT n x) 0 by rw [List.take_succ_eq_append_getElem hk1, List.foldl_append]; rfl)
      have HST := Lib.hid (items_step (cmpT cmpF n) L1 L2 k hk1 hk2)
      have HBD := Lib.hid (bel_drew HBW.out)
      have HCD := Lib.hid (show CpAt wr.drew cb 97 vis' from HIT.out.2.1)
      clear hr1 hr2 hi1 hi2
      go_wp2
      refine wp_region_held_drew (S := fun w' => Below w0.heap.size w0 w') (by kernel_rfl) ?_ (fun hHeld => ?_)
      · exact HBD.out
      refine wpAnyH_take (i := 0) (oi := ?_) (v := ?_) ?hic0 (by kernel_rfl) ?hfc0 ?hrc0 ?hQc0 ?hyc0 (by assumption) ?restc0
      case hic0 => (simp only [List.getElem?_toArray, List.getElem?_cons_zero, List.getElem?_cons_succ]; rfl)
      case hfc0 => kernel_rfl
      case hrc0 => kernel_rfl
      case hyc0 => (refine Or.inl ⟨by rfl, ?_⟩; intro w hSw; (try dsimp only at hSw); go_simp; (try with_reducible rfl))
      case hQc0 => exact fun _ _ _ h => h
      (try simp only [Act.put, List.setIfInBounds_toArray, List.set_cons_zero, List.set_cons_succ])
      refine wpAnyH_take (i := 1) (oi := ?_) (v := ?_) ?hic1 (by kernel_rfl) ?hfc1 ?hrc1 ?hQc1 ?hyc1 (by assumption) ?restc1
      case hic1 => (simp only [List.getElem?_toArray, List.getElem?_cons_zero, List.getElem?_cons_succ]; rfl)
      case hfc1 => kernel_rfl
      case hrc1 => kernel_rfl
      case hyc1 => (refine Or.inl ⟨by rfl, ?_⟩; intro w hSw; (try dsimp only at hSw); go_simp; (try with_reducible rfl))
      case hQc1 => exact fun _ _ _ h => h
      (try simp only [Act.put, List.setIfInBounds_toArray, List.set_cons_zero, List.set_cons_succ])
      refine wpAnyH_take (i := 2) (oi := ?_) (v := ?_) ?hic2 (by kernel_rfl) ?hfc2 ?hrc2 ?hQc2 ?hyc2 (by assumption) ?restc2
      case hic2 => (simp only [List.getElem?_toArray, List.getElem?_cons_zero, List.getElem?_cons_succ]; rfl)
      case hfc2 => kernel_rfl
      case hrc2 => kernel_rfl
      case hyc2 => (refine Or.inl ⟨by rfl, ?_⟩; intro w hSw; (try dsimp only at hSw); go_simp; (try with_reducible rfl))
      case hQc2 => exact fun _ _ _ h => h
      (try simp only [Act.put, List.setIfInBounds_toArray, List.set_cons_zero, List.set_cons_succ])
      refine wpAnyH_take (i := 3) (oi := ?_) (v := ?_) ?hic3 (by kernel_rfl) ?hfc3 ?hrc3 ?hQc3 ?hyc3 (by assumption) ?restc3
      case hic3 => (simp only [List.getElem?_toArray, List.getElem?_cons_zero, List.getElem?_cons_succ]; rfl)
      case hfc3 => kernel_rfl
      case hrc3 => kernel_rfl
      case hyc3 => (refine Or.inl ⟨by rfl, ?_⟩; intro w hSw; (try dsimp only at hSw); go_simp; (try with_reducible rfl))
      case hQc3 => exact fun _ _ _ h => h
      (try simp only [Act.put, List.setIfInBounds_toArray, List.set_cons_zero, List.set_cons_succ])
      refine wpAnyH_take (i := 4) (oi := ?_) (v := ?_) ?hic4 (by kernel_rfl) ?hfc4 ?hrc4 ?hQc4 ?hyc4 (by assumption) ?restc4
      case hic4 => (simp only [List.getElem?_toArray, List.getElem?_cons_zero, List.getElem?_cons_succ]; rfl)
      case hfc4 => kernel_rfl
      case hrc4 => kernel_rfl
      case hyc4 => (refine Or.inl ⟨by rfl, ?_⟩; intro w hSw; (try dsimp only at hSw); have c0 := cell_keep hSw d0; have c1 := cell_keep hSw d1; have c2 := cell_keep hSw d2; have c3 := cell_keep hSw d3; have c4 := cell_keep hSw d4; go_simp; (try with_reducible rfl))
      case hQc4 => exact fun _ _ _ h => h
      (try simp only [Act.put, List.setIfInBounds_toArray, List.set_cons_zero, List.set_cons_succ])
      refine wpAnyH_take (i := 5) (oi := ?_) (v := ?_) ?hic5 (by kernel_rfl) ?hfc5 ?hrc5 ?hQc5 ?hyc5 (by assumption) ?restc5
      case hic5 => (simp only [List.getElem?_toArray, List.getElem?_cons_zero, List.getElem?_cons_succ]; rfl)
      case hfc5 => kernel_rfl
      case hrc5 => kernel_rfl
      case hyc5 => (refine Or.inl ⟨by rfl, ?_⟩; intro w hSw; (try dsimp only at hSw); go_simp; (try with_reducible rfl))
      case hQc5 => exact fun _ _ _ h => h
      (try simp only [Act.put, List.setIfInBounds_toArray, List.set_cons_zero, List.set_cons_succ])
      refine wpAnyH_take (i := 6) (oi := ?_) (v := ?_) ?hic6 (by kernel_rfl) ?hfc6 ?hrc6 ?hQc6 ?hyc6 (by assumption) ?restc6
      case hic6 => (simp only [List.getElem?_toArray, List.getElem?_cons_zero, List.getElem?_cons_succ]; rfl)
      case hfc6 => kernel_rfl
      case hrc6 => kernel_rfl
      case hyc6 => (refine Or.inl ⟨by rfl, ?_⟩; intro w hSw; (try dsimp only at hSw); go_simp; (try with_reducible rfl))
      case hQc6 => exact fun _ _ _ h => h
      (try simp only [Act.put, List.setIfInBounds_toArray, List.set_cons_zero, List.set_cons_succ])
      refine wpAnyH_take (i := 7) (oi := ?_) (v := ?_) ?hic7 (by kernel_rfl) ?hfc7 ?hrc7 ?hQc7 ?hyc7 (by assumption) ?restc7
      case hic7 => (simp only [List.getElem?_toArray, List.getElem?_cons_zero, List.getElem?_cons_succ]; rfl)
      case hfc7 => kernel_rfl
      case hrc7 => kernel_rfl
      case hyc7 => (refine Or.inl ⟨by rfl, ?_⟩; intro w hSw; (try dsimp only at hSw); go_simp; (try with_reducible rfl))
      case hQc7 => exact fun _ _ _ h => h
      (try simp only [Act.put, List.setIfInBounds_toArray, List.set_cons_zero, List.set_cons_succ])
      refine wpAnyH_take (i := 8) (oi := ?_) (v := ?_) ?hic8 (by kernel_rfl) ?hfc8 ?hrc8 ?hQc8 ?hyc8 (by assumption) ?restc8
      case hic8 => (simp only [List.getElem?_toArray, List.getElem?_cons_zero, List.getElem?_cons_succ]; rfl)
      case hfc8 => kernel_rfl
      case hrc8 => kernel_rfl
      case hyc8 => (refine Or.inl ⟨by rfl, ?_⟩; intro w hSw; (try dsimp only at hSw); have c0 := cell_keep hSw t0; have c1 := cell_keep hSw t1; have c2 := cell_keep hSw t2; have c3 := cell_keep hSw t3; have c4 := cell_keep hSw t4; go_simp; (try with_reducible rfl))
      case hQc8 => exact fun _ _ _ h => h
      (try simp only [Act.put, List.setIfInBounds_toArray, List.set_cons_zero, List.set_cons_succ])
      refine wpAnyH_take (i := 9) (oi := ?_) (v := ?_) ?hic9 (by kernel_rfl) ?hfc9 ?hrc9 ?hQc9 ?hyc9 (by assumption) ?restc9
      case hic9 => (simp only [List.getElem?_toArray, List.getElem?_cons_zero, List.getElem?_cons_succ]; rfl)
      case hfc9 => kernel_rfl
      case hrc9 => kernel_rfl
      case hyc9 => (refine Or.inl ⟨by rfl, ?_⟩; intro w hSw; (try dsimp only at hSw); go_simp; (try with_reducible rfl))
      case hQc9 => exact fun _ _ _ h => h
      (try simp only [Act.put, List.setIfInBounds_toArray, List.set_cons_zero, List.set_cons_succ])
      refine wpAnyH_ready (rs := [10]) (by kernel_rfl) (by simp) ?_
      refine AllReadyH.cons (o := ?_) ?hoc10 ?hstc10 AllReadyH.nil
      case hoc10 => (simp only [List.getElem?_toArray, List.getElem?_cons_zero, List.getElem?_cons_succ]; rfl)
      intro K hK
      go_simp
      go_at_call 90; refine (HLV.out L1[k] L2[k] _ _ m lev vis' w0 _ cb HR1.out HR2.out HBD.out hs HCD.out HDK.out hlev hlm hvv HPK.out).mono ?_; rintro e w1 ⟨rfl, hcp⟩; have hS1 := Below.grown HBD.out hcp.1 HBD.out.size (fun k hk => by cases hk; exact hs); obtain ⟨vis2, hi2⟩ := its_cp (its_bel HIT.out (bel_drew (Below.refl _ _))) hlt hcp; have HI2 := Lib.hid hi2; clear hcp hi2
      go_wp2_with fail
      refine hK.out _ _ ?hsc10 (fun hHeld => ?_)
      case hsc10 => exact hS1
      clear hK K
      (try simp only [Act.put, List.setIfInBounds_toArray, List.set_cons_zero, List.set_cons_succ])
      refine wpAnyH_take (i := 11) (oi := ?_) (v := ?_) ?hic11 (by kernel_rfl) ?hfc11 ?hrc11 ?hQc11 ?hyc11 (by assumption) ?restc11
      case hic11 => (simp only [List.getElem?_toArray, List.getElem?_cons_zero, List.getElem?_cons_succ]; rfl)
      case hfc11 => kernel_rfl
      case hrc11 => kernel_rfl
      case hyc11 => (refine Or.inl ⟨by rfl, ?_⟩; intro w hSw; (try dsimp only at hSw); go_simp; (try with_reducible rfl))
      case hQc11 => exact fun _ _ _ h => h
      (try simp only [Act.put, List.setIfInBounds_toArray, List.set_cons_zero, List.set_cons_succ])
      refine wpAnyH_done (by kernel_rfl) ?_ _
      have rk := row_cell HI2.out.2.2.2.2 0
      have rk1 := row_cell HI2.out.2.2.2.2 1
      have rk2 := row_cell HI2.out.2.2.2.2 2
      simp only [List.getElem?_toArray, List.getElem?_cons_zero, List.getElem?_cons_succ] at rk rk1 rk2
      clear d0 d1 d2 d3 d4 t0 t1 t2 t3 t4
      cases hz : (cmpT cmpF n L1[k] L2[k] != 0)
      · have HN := Lib.hid (show itemsC (cmpT cmpF n) (L1.drop (k + 1)) (L2.drop (k + 1)) = itemsC (cmpT cmpF n) L1 L2 by
          have h1 := HST.out
          rw [hz] at h1
          rw [← HQ.out, h1]; rfl)
        go_wp2
        go_roundw
        case rel => exact ⟨k + 1, vis2, by omega, by go_num, Lib.hid HN.out, Lib.hid (by rw [← HPT.out]; exact HI2.out)⟩
        case measure => simp [intOf]; omega
      · have HN := Lib.hid (show Ending.returned (.int .i64 (cmpT cmpF n L1[k] L2[k])) = .returned (.int .i64 (itemsC (cmpT cmpF n) L1 L2)) by
          have h1 := HST.out
          rw [hz] at h1
          rw [← HQ.out, h1]; rfl)
        have HFT := Lib.hid (fold_take L1 (k + 1))
        go_wp2
        go_ret
        refine ⟨HN.out, HI2.out.1, vis2, HI2.out.2.2.1, ?_, HI2.out.2.1⟩
        have h1 := HI2.out.2.2.2.1
        have h2 := HPT.out
        have h3 := HFT.out
        omega
    · have HN := Lib.hid (show Ending.returned (.int .i64 0) = .returned (.int .i64 (itemsC (cmpT cmpF n) L1 L2)) by
        rw [← HQ.out, items_end _ _ _ _ (by have := HL1.out; omega)])
      have hrk := HIT.out.2.2.2.2
      have rk := row_cell hrk 0
      have rk1 := row_cell hrk 1
      have rk2 := row_cell hrk 2
      simp only [List.getElem?_toArray, List.getElem?_cons_zero, List.getElem?_cons_succ] at rk rk1 rk2
      have HFT := Lib.hid (fold_take L1 k)
      have hv1000 : vis' ≤ 1000 := by
        have h1 := HIT.out.2.2.2.1
        have h2 := HP.out
        have h3 := HFT.out
        omega
      clear hrk
      go_wp2_with fail
      go_at_call 112; refine (comp_keep _ _ _ _ _ _ _ HIT.out.2.1 hv1000).mono ?_; rintro e w1 ⟨rfl, hb⟩
      have HI1 := Lib.hid (its_bel HIT.out hb)
      clear hb rk rk1 rk2
      go_wp2
      go_ret
      refine ⟨HN.out, HI1.out.1, vis', HI1.out.2.2.1, ?_, HI1.out.2.1⟩
      have h1 := HI1.out.2.2.2.1
      have h3 := HFT.out
      omega
set_option maxRecDepth 100000 in
set_option maxHeartbeats 4000000 in
theorem cp_lists_ofE (n : Nat) (hi : CpItems 97 cmpF n) : CpLists 97 cmpF n := by
  intro L1 L2 p1 l1 c1 p2 l2 c2 m lev vis w0 w cb hr1 hr2 hB hs hat hd hlev hlm hv0 hvp
  have HR1 := Lib.hid hr1
  have HR2 := Lib.hid hr2
  obtain ⟨hl1, hlc1, hcm1, hel1⟩ := hr1
  obtain ⟨hl2, hlc2, hcm2, hel2⟩ := hr2
  unfold maxLen at hcm1 hcm2
  have HAT := Lib.hid hat
  have HB := Lib.hid hB
  have HP := Lib.hid hvp
  have HD := Lib.hid hd
  have HI := Lib.hid hi
  have HL1 := Lib.hid hl1
  have HL2 := Lib.hid hl2
  have HE1 := Lib.hid hel1
  have HE2 := Lib.hid hel2
  clear hat hB hvp hd hi hl1 hl2 hel1 hel2
  have hlev' : ¬ (64 < lev) := by omega
  by_cases hle : l1 ≤ l2
  · by_cases h0 : 0 < l1
    · obtain ⟨b1, off1, hp1, _⟩ := HE1.out (by omega)
      obtain ⟨b2, off2, hp2, _⟩ := HE2.out (by omega)
      subst hp1
      subst hp2
      have h0o : 0 < l2 := by omega
      have hcc : (l1 : Int) ≤ (l2 : Int) := by omega
      have HT1 := Lib.hid (repL_take (k := l1) HR1.out (by omega))
      have HT2 := Lib.hid (repL_take (k := l1) HR2.out (by omega))
      have HDT := Lib.hid (show ∀ x ∈ L1.take l1, deepT n x m = false from fun x hx => HD.out x (List.mem_of_mem_take hx))
      have HPT := Lib.hid (fold_take L1 l1)
      have HPP := Lib.hid (show vis + ((L1.take l1).foldl (fun a x => a + partsT n x) 0 : Nat) ≤ 1000 by
        have h1 := HP.out
        have h2 := HPT.out
        omega)
      have HIT := Lib.hid (items_take (cmpT cmpF n) L1 L2 l1 (by rw [HL1.out, HL2.out]; omega))
      have HBD := Lib.hid (bel_drew HB.out)
      have HCD := Lib.hid (show CpAt w.drew cb 97 vis from HAT.out)
      have cpe : ∀ w1, Cp w.drew w1 cb 97 vis ((L1.take l1).foldl (fun a x => a + partsT n x) 0) → Cp w w1 cb 97 vis (L1.foldl (fun a x => a + partsT n x) 0) := by
        intro w1 h
        obtain ⟨hg, vis', a, b, c⟩ := h
        have h2 := HPT.out
        exact ⟨⟨hg.os, hg.tape, hg.output, hg.size, hg.block⟩, vis', a, by omega, c⟩
      have CPE := Lib.hid cpe
      clear cpe
      go_enter Try.func103, Try.ntmps103
      go_wp2
      go_region_with (first
        | (go_at_call 109; refine (HI.out (L1.take l1) (L2.take l1) _ _ l1 c1 c2 _ _ m lev vis w0 _ cb HT1.out HT2.out HBD.out hs HCD.out HDT.out hlev hlm hv0 HPP.out).mono ?_; rintro e w1 ⟨rfl, hcp⟩; have HCP := Lib.hid (CPE.out _ hcp); clear hcp))
      rw [HIT.out]
      cases hz : (itemsC (cmpT cmpF n) L1 L2 != 0)
      · have HX := Lib.hid (show Ending.returned (.int .i64 (cmpI l1 l2)) = .returned (.int .i64 (listC (cmpT cmpF n) L1 L2)) by simp only [listC, hz, HL1.out, HL2.out]; rfl)
        go_wp2_with (go_at_call 99; refine (cmp_int_any _ _ _).mono ?_; rintro e w4 ⟨rfl, rfl⟩)
        go_ret
        exact ⟨HX.out, HCP.out⟩
      · have HX := Lib.hid (show Ending.returned (.int .i64 (itemsC (cmpT cmpF n) L1 L2)) = .returned (.int .i64 (listC (cmpT cmpF n) L1 L2)) by simp only [listC, hz]; rfl)
        go_wp2
        go_ret
        exact ⟨HX.out, HCP.out⟩
    · have e0 : l1 = 0 := by omega
      have HX := Lib.hid (show Ending.returned (.int .i64 (cmpI l1 l2)) = .returned (.int .i64 (listC (cmpT cmpF n) L1 L2)) by
        have hz : itemsC (cmpT cmpF n) L1 L2 = 0 := by
          rw [← items_take (cmpT cmpF n) L1 L2 0 (by rw [HL1.out, HL2.out]; omega)]
          rfl
        simp only [listC, hz, HL1.out, HL2.out]; rfl)
      have HCP := Lib.hid (show Cp w w cb 97 vis (L1.foldl (fun a x => a + partsT n x) 0) from ⟨World.grownBy.refl _ _, vis, by omega, by omega, HAT.out⟩)
      subst e0
      go_enter Try.func103, Try.ntmps103
      go_wp2_with (go_at_call 99; refine (cmp_int_any _ _ _).mono ?_; rintro e w4 ⟨rfl, rfl⟩)
      go_ret
      exact ⟨HX.out, HCP.out⟩
  · have hge : l2 < l1 := by omega
    have hge2 : ¬ ((l1 : Int) ≤ (l2 : Int)) := by omega
    by_cases h0 : 0 < l2
    · obtain ⟨b1, off1, hp1, _⟩ := HE1.out (by omega)
      obtain ⟨b2, off2, hp2, _⟩ := HE2.out (by omega)
      subst hp1
      subst hp2
      have h0o : 0 < l1 := by omega
      have hcc : (l2 : Int) < (l1 : Int) := by omega
      have HT1 := Lib.hid (repL_take (k := l2) HR1.out (by omega))
      have HT2 := Lib.hid (repL_take (k := l2) HR2.out (by omega))
      have HDT := Lib.hid (show ∀ x ∈ L1.take l2, deepT n x m = false from fun x hx => HD.out x (List.mem_of_mem_take hx))
      have HPT := Lib.hid (fold_take L1 l2)
      have HPP := Lib.hid (show vis + ((L1.take l2).foldl (fun a x => a + partsT n x) 0 : Nat) ≤ 1000 by
        have h1 := HP.out
        have h2 := HPT.out
        omega)
      have HIT := Lib.hid (items_take (cmpT cmpF n) L1 L2 l2 (by rw [HL1.out, HL2.out]; omega))
      have HBD := Lib.hid (bel_drew HB.out)
      have HCD := Lib.hid (show CpAt w.drew cb 97 vis from HAT.out)
      have cpe : ∀ w1, Cp w.drew w1 cb 97 vis ((L1.take l2).foldl (fun a x => a + partsT n x) 0) → Cp w w1 cb 97 vis (L1.foldl (fun a x => a + partsT n x) 0) := by
        intro w1 h
        obtain ⟨hg, vis', a, b, c⟩ := h
        have h2 := HPT.out
        exact ⟨⟨hg.os, hg.tape, hg.output, hg.size, hg.block⟩, vis', a, by omega, c⟩
      have CPE := Lib.hid cpe
      clear cpe
      go_enter Try.func103, Try.ntmps103
      go_wp2
      go_region_with (first
        | (go_at_call 109; refine (HI.out (L1.take l2) (L2.take l2) _ _ l2 c1 c2 _ _ m lev vis w0 _ cb HT1.out HT2.out HBD.out hs HCD.out HDT.out hlev hlm hv0 HPP.out).mono ?_; rintro e w1 ⟨rfl, hcp⟩; have HCP := Lib.hid (CPE.out _ hcp); clear hcp))
      rw [HIT.out]
      cases hz : (itemsC (cmpT cmpF n) L1 L2 != 0)
      · have HX := Lib.hid (show Ending.returned (.int .i64 (cmpI l1 l2)) = .returned (.int .i64 (listC (cmpT cmpF n) L1 L2)) by simp only [listC, hz, HL1.out, HL2.out]; rfl)
        go_wp2_with (go_at_call 99; refine (cmp_int_any _ _ _).mono ?_; rintro e w4 ⟨rfl, rfl⟩)
        go_ret
        exact ⟨HX.out, HCP.out⟩
      · have HX := Lib.hid (show Ending.returned (.int .i64 (itemsC (cmpT cmpF n) L1 L2)) = .returned (.int .i64 (listC (cmpT cmpF n) L1 L2)) by simp only [listC, hz]; rfl)
        go_wp2
        go_ret
        exact ⟨HX.out, HCP.out⟩
    · have e0 : l2 = 0 := by omega
      have HX := Lib.hid (show Ending.returned (.int .i64 (cmpI l1 l2)) = .returned (.int .i64 (listC (cmpT cmpF n) L1 L2)) by
        have hz : itemsC (cmpT cmpF n) L1 L2 = 0 := by
          rw [← items_take (cmpT cmpF n) L1 L2 0 (by rw [HL1.out, HL2.out]; omega)]
          rfl
        simp only [listC, hz, HL1.out, HL2.out]; rfl)
      have HCP := Lib.hid (show Cp w w cb 97 vis (L1.foldl (fun a x => a + partsT n x) 0) from ⟨World.grownBy.refl _ _, vis, by omega, by omega, HAT.out⟩)
      subst e0
      go_enter Try.func103, Try.ntmps103
      go_wp2_with (go_at_call 99; refine (cmp_int_any _ _ _).mono ?_; rintro e w4 ⟨rfl, rfl⟩)
      go_ret
      exact ⟨HX.out, HCP.out⟩
theorem cp_allE : ∀ n, CpValues 97 cmpF n ∧ CpLists 97 cmpF n := by
  have z : CpValues 97 cmpF 0 := fun A B a b m lev vis w0 w cb h => h.elim
  intro n
  induction n with
  | zero => exact ⟨z, cp_lists_ofE 0 (cp_items_ofE 0 z)⟩
  | succ n ih => exact ⟨cp_values_succE n ih.2, cp_lists_ofE (n + 1) (cp_items_ofE (n + 1) (cp_values_succE n ih.2))⟩
set_option maxRecDepth 100000 in
set_option maxHeartbeats 4000000 in
theorem cp_items_ofO (n : Nat) (hv : CpValues 89 ordF n) : CpItems 89 ordF n := by
  intro L1 L2 p1 p2 l c1 c2 x y m lev vis w0 w cb hr1 hr2 hB hs hat hd hlev hlm hv0 hvp
  obtain ⟨hl1, hlc1, hcm1, hel1⟩ := hr1
  obtain ⟨hl2, hlc2, hcm2, hel2⟩ := hr2
  unfold maxLen at hcm1 hcm2
  have g2 : w.cell? ⟨cb, 2, none⟩ = some (.map none) := row_cell hat 2
  have hlt := row_lt hat
  have hne : cb ≠ w.heap.size := by omega
  have lt1 : cb < w.heap.size + 1 := by omega
  have ne1 : cb ≠ w.heap.size + 1 := by omega
  have HAT := Lib.hid hat
  have HB := Lib.hid hB
  have HP := Lib.hid hvp
  have HD := Lib.hid hd
  have HLV := Lib.hid hv
  have HL1 := Lib.hid hl1
  have HL2 := Lib.hid hl2
  have HE1 := Lib.hid hel1
  have HE2 := Lib.hid hel2
  clear hat hB hvp hd hv hl1 hl2 hel1 hel2
  have lk := look_pair
  have RK := Lib.hid (row_alloc w #[.pointer (some x), .pointer (some y), .int .i64 l] 150)
  go_enter Try.func109, Try.ntmps109
  go_wp2
  go_region
  go_wp2
  go_loopw [27] (fun i wr => ∃ (k : Nat) (vis' : Int), k ≤ l ∧ i = .int .i64 k ∧ Hid (itemsC (cmpT ordF n) (L1.drop k) (L2.drop k) = itemsC (cmpT ordF n) L1 L2) ∧ Hid (Its w wr cb 89 vis vis' ((L1.take k).foldl (fun a x => a + partsT n x) 0) x y l)) (fun i _ => l - (intOf i).toNat)
  case atStart =>
    refine ⟨0, vis, by omega, rfl, Lib.hid rfl, Lib.hid ⟨grown_drew ((World.grownBy_alloc _ _ _).trans (World.grownBy_alloc _ _ _)), ?_, by omega, by omega, ?_⟩⟩
    · exact row_alloc_step (row_alloc_step HAT.out _) _
    · exact row_alloc_step RK.out _
  case round =>
    obtain ⟨k, vis', hk, rfl, HQ, HIT⟩ := hrel
    clear RK g2
    by_cases hlt2 : k < l
    · obtain ⟨b1, off1, hp1, hi1⟩ := HE1.out (by omega)
      obtain ⟨b2, off2, hp2, hi2⟩ := HE2.out (by omega)
      subst hp1
      subst hp2
      have hk1 : k < L1.length := by have := HL1.out; omega
      have hk2 : k < L2.length := by have := HL2.out; omega
      obtain ⟨v0, v1, v2, v3, v4, d0, d1, d2, d3, d4, hr1⟩ := hi1 k hk1
      obtain ⟨u0, u1, u2, u3, u4, t0, t1, t2, t3, t4, hr2⟩ := hi2 k hk2
      obtain ⟨X1, J1, G1, Z1, pp1, ll1, cc1, he1, _⟩ := rep_shape hr1
      simp only [Value.agg.injEq, Array.mk.injEq, List.cons.injEq, and_true] at he1
      obtain ⟨rfl, rfl, rfl, rfl, rfl⟩ := he1
      obtain ⟨X2, J2, G2, Z2, pp2, ll2, cc2, he2, _⟩ := rep_shape hr2
      simp only [Value.agg.injEq, Array.mk.injEq, List.cons.injEq, and_true] at he2
      obtain ⟨rfl, rfl, rfl, rfl, rfl⟩ := he2
      have HBW := Lib.hid (Below.grown HB.out HIT.out.1 HB.out.size (fun k hk => by cases hk; exact hs))
      have HR1 := Lib.hid hr1
      have HR2 := Lib.hid hr2
      have HDK := Lib.hid (HD.out L1[k] (List.getElem_mem hk1))
      have hvv : 0 ≤ vis' := by have := HIT.out.2.2.1; omega
      have HPK := Lib.hid (show vis' + partsT n L1[k] ≤ 1000 by
        have h1 := HIT.out.2.2.2.1
        have h2 := parts_prefix L1 k hk1 0
        have h3 := HP.out
        omega)
      have HPT := Lib.hid (show (L1.take k).foldl (fun a x => a + partsT n x) 0 + partsT n L1[k] = (L1.take (k + 1)).foldl (fun a x => a + partsT n x) 0 by rw [List.take_succ_eq_append_getElem hk1, List.foldl_append]; rfl)
      have HST := Lib.hid (items_step (cmpT ordF n) L1 L2 k hk1 hk2)
      have HBD := Lib.hid (bel_drew HBW.out)
      have HCD := Lib.hid (show CpAt wr.drew cb 89 vis' from HIT.out.2.1)
      clear hr1 hr2 hi1 hi2
      go_wp2
      refine wp_region_held_drew (S := fun w' => Below w0.heap.size w0 w') (by kernel_rfl) ?_ (fun hHeld => ?_)
      · exact HBD.out
      refine wpAnyH_take (i := 0) (oi := ?_) (v := ?_) ?hic0 (by kernel_rfl) ?hfc0 ?hrc0 ?hQc0 ?hyc0 (by assumption) ?restc0
      case hic0 => (simp only [List.getElem?_toArray, List.getElem?_cons_zero, List.getElem?_cons_succ]; rfl)
      case hfc0 => kernel_rfl
      case hrc0 => kernel_rfl
      case hyc0 => (refine Or.inl ⟨by rfl, ?_⟩; intro w hSw; (try dsimp only at hSw); go_simp; (try with_reducible rfl))
      case hQc0 => exact fun _ _ _ h => h
      (try simp only [Act.put, List.setIfInBounds_toArray, List.set_cons_zero, List.set_cons_succ])
      refine wpAnyH_take (i := 1) (oi := ?_) (v := ?_) ?hic1 (by kernel_rfl) ?hfc1 ?hrc1 ?hQc1 ?hyc1 (by assumption) ?restc1
      case hic1 => (simp only [List.getElem?_toArray, List.getElem?_cons_zero, List.getElem?_cons_succ]; rfl)
      case hfc1 => kernel_rfl
      case hrc1 => kernel_rfl
      case hyc1 => (refine Or.inl ⟨by rfl, ?_⟩; intro w hSw; (try dsimp only at hSw); go_simp; (try with_reducible rfl))
      case hQc1 => exact fun _ _ _ h => h
      (try simp only [Act.put, List.setIfInBounds_toArray, List.set_cons_zero, List.set_cons_succ])
      refine wpAnyH_take (i := 2) (oi := ?_) (v := ?_) ?hic2 (by kernel_rfl) ?hfc2 ?hrc2 ?hQc2 ?hyc2 (by assumption) ?restc2
      case hic2 => (simp only [List.getElem?_toArray, List.getElem?_cons_zero, List.getElem?_cons_succ]; rfl)
      case hfc2 => kernel_rfl
      case hrc2 => kernel_rfl
      case hyc2 => (refine Or.inl ⟨by rfl, ?_⟩; intro w hSw; (try dsimp only at hSw); go_simp; (try with_reducible rfl))
      case hQc2 => exact fun _ _ _ h => h
      (try simp only [Act.put, List.setIfInBounds_toArray, List.set_cons_zero, List.set_cons_succ])
      refine wpAnyH_take (i := 3) (oi := ?_) (v := ?_) ?hic3 (by kernel_rfl) ?hfc3 ?hrc3 ?hQc3 ?hyc3 (by assumption) ?restc3
      case hic3 => (simp only [List.getElem?_toArray, List.getElem?_cons_zero, List.getElem?_cons_succ]; rfl)
      case hfc3 => kernel_rfl
      case hrc3 => kernel_rfl
      case hyc3 => (refine Or.inl ⟨by rfl, ?_⟩; intro w hSw; (try dsimp only at hSw); go_simp; (try with_reducible rfl))
      case hQc3 => exact fun _ _ _ h => h
      (try simp only [Act.put, List.setIfInBounds_toArray, List.set_cons_zero, List.set_cons_succ])
      refine wpAnyH_take (i := 4) (oi := ?_) (v := ?_) ?hic4 (by kernel_rfl) ?hfc4 ?hrc4 ?hQc4 ?hyc4 (by assumption) ?restc4
      case hic4 => (simp only [List.getElem?_toArray, List.getElem?_cons_zero, List.getElem?_cons_succ]; rfl)
      case hfc4 => kernel_rfl
      case hrc4 => kernel_rfl
      case hyc4 => (refine Or.inl ⟨by rfl, ?_⟩; intro w hSw; (try dsimp only at hSw); have c0 := cell_keep hSw d0; have c1 := cell_keep hSw d1; have c2 := cell_keep hSw d2; have c3 := cell_keep hSw d3; have c4 := cell_keep hSw d4; go_simp; (try with_reducible rfl))
      case hQc4 => exact fun _ _ _ h => h
      (try simp only [Act.put, List.setIfInBounds_toArray, List.set_cons_zero, List.set_cons_succ])
      refine wpAnyH_take (i := 5) (oi := ?_) (v := ?_) ?hic5 (by kernel_rfl) ?hfc5 ?hrc5 ?hQc5 ?hyc5 (by assumption) ?restc5
      case hic5 => (simp only [List.getElem?_toArray, List.getElem?_cons_zero, List.getElem?_cons_succ]; rfl)
      case hfc5 => kernel_rfl
      case hrc5 => kernel_rfl
      case hyc5 => (refine Or.inl ⟨by rfl, ?_⟩; intro w hSw; (try dsimp only at hSw); go_simp; (try with_reducible rfl))
      case hQc5 => exact fun _ _ _ h => h
      (try simp only [Act.put, List.setIfInBounds_toArray, List.set_cons_zero, List.set_cons_succ])
      refine wpAnyH_take (i := 6) (oi := ?_) (v := ?_) ?hic6 (by kernel_rfl) ?hfc6 ?hrc6 ?hQc6 ?hyc6 (by assumption) ?restc6
      case hic6 => (simp only [List.getElem?_toArray, List.getElem?_cons_zero, List.getElem?_cons_succ]; rfl)
      case hfc6 => kernel_rfl
      case hrc6 => kernel_rfl
      case hyc6 => (refine Or.inl ⟨by rfl, ?_⟩; intro w hSw; (try dsimp only at hSw); go_simp; (try with_reducible rfl))
      case hQc6 => exact fun _ _ _ h => h
      (try simp only [Act.put, List.setIfInBounds_toArray, List.set_cons_zero, List.set_cons_succ])
      refine wpAnyH_take (i := 7) (oi := ?_) (v := ?_) ?hic7 (by kernel_rfl) ?hfc7 ?hrc7 ?hQc7 ?hyc7 (by assumption) ?restc7
      case hic7 => (simp only [List.getElem?_toArray, List.getElem?_cons_zero, List.getElem?_cons_succ]; rfl)
      case hfc7 => kernel_rfl
      case hrc7 => kernel_rfl
      case hyc7 => (refine Or.inl ⟨by rfl, ?_⟩; intro w hSw; (try dsimp only at hSw); go_simp; (try with_reducible rfl))
      case hQc7 => exact fun _ _ _ h => h
      (try simp only [Act.put, List.setIfInBounds_toArray, List.set_cons_zero, List.set_cons_succ])
      refine wpAnyH_take (i := 8) (oi := ?_) (v := ?_) ?hic8 (by kernel_rfl) ?hfc8 ?hrc8 ?hQc8 ?hyc8 (by assumption) ?restc8
      case hic8 => (simp only [List.getElem?_toArray, List.getElem?_cons_zero, List.getElem?_cons_succ]; rfl)
      case hfc8 => kernel_rfl
      case hrc8 => kernel_rfl
      case hyc8 => (refine Or.inl ⟨by rfl, ?_⟩; intro w hSw; (try dsimp only at hSw); have c0 := cell_keep hSw t0; have c1 := cell_keep hSw t1; have c2 := cell_keep hSw t2; have c3 := cell_keep hSw t3; have c4 := cell_keep hSw t4; go_simp; (try with_reducible rfl))
      case hQc8 => exact fun _ _ _ h => h
      (try simp only [Act.put, List.setIfInBounds_toArray, List.set_cons_zero, List.set_cons_succ])
      refine wpAnyH_take (i := 9) (oi := ?_) (v := ?_) ?hic9 (by kernel_rfl) ?hfc9 ?hrc9 ?hQc9 ?hyc9 (by assumption) ?restc9
      case hic9 => (simp only [List.getElem?_toArray, List.getElem?_cons_zero, List.getElem?_cons_succ]; rfl)
      case hfc9 => kernel_rfl
      case hrc9 => kernel_rfl
      case hyc9 => (refine Or.inl ⟨by rfl, ?_⟩; intro w hSw; (try dsimp only at hSw); go_simp; (try with_reducible rfl))
      case hQc9 => exact fun _ _ _ h => h
      (try simp only [Act.put, List.setIfInBounds_toArray, List.set_cons_zero, List.set_cons_succ])
      refine wpAnyH_ready (rs := [10]) (by kernel_rfl) (by simp) ?_
      refine AllReadyH.cons (o := ?_) ?hoc10 ?hstc10 AllReadyH.nil
      case hoc10 => (simp only [List.getElem?_toArray, List.getElem?_cons_zero, List.getElem?_cons_succ]; rfl)
      intro K hK
      go_simp
      go_at_call 90; refine (HLV.out L1[k] L2[k] _ _ m lev vis' w0 _ cb HR1.out HR2.out HBD.out hs HCD.out HDK.out hlev hlm hvv HPK.out).mono ?_; rintro e w1 ⟨rfl, hcp⟩; have hS1 := Below.grown HBD.out hcp.1 HBD.out.size (fun k hk => by cases hk; exact hs); obtain ⟨vis2, hi2⟩ := its_cp (its_bel HIT.out (bel_drew (Below.refl _ _))) hlt hcp; have HI2 := Lib.hid hi2; clear hcp hi2
      go_wp2_with fail
      refine hK.out _ _ ?hsc10 (fun hHeld => ?_)
      case hsc10 => exact hS1
      clear hK K
      (try simp only [Act.put, List.setIfInBounds_toArray, List.set_cons_zero, List.set_cons_succ])
      refine wpAnyH_take (i := 11) (oi := ?_) (v := ?_) ?hic11 (by kernel_rfl) ?hfc11 ?hrc11 ?hQc11 ?hyc11 (by assumption) ?restc11
      case hic11 => (simp only [List.getElem?_toArray, List.getElem?_cons_zero, List.getElem?_cons_succ]; rfl)
      case hfc11 => kernel_rfl
      case hrc11 => kernel_rfl
      case hyc11 => (refine Or.inl ⟨by rfl, ?_⟩; intro w hSw; (try dsimp only at hSw); go_simp; (try with_reducible rfl))
      case hQc11 => exact fun _ _ _ h => h
      (try simp only [Act.put, List.setIfInBounds_toArray, List.set_cons_zero, List.set_cons_succ])
      refine wpAnyH_done (by kernel_rfl) ?_ _
      have rk := row_cell HI2.out.2.2.2.2 0
      have rk1 := row_cell HI2.out.2.2.2.2 1
      have rk2 := row_cell HI2.out.2.2.2.2 2
      simp only [List.getElem?_toArray, List.getElem?_cons_zero, List.getElem?_cons_succ] at rk rk1 rk2
      clear d0 d1 d2 d3 d4 t0 t1 t2 t3 t4
      cases hz : (cmpT ordF n L1[k] L2[k] != 0)
      · have HN := Lib.hid (show itemsC (cmpT ordF n) (L1.drop (k + 1)) (L2.drop (k + 1)) = itemsC (cmpT ordF n) L1 L2 by
          have h1 := HST.out
          rw [hz] at h1
          rw [← HQ.out, h1]; rfl)
        go_wp2
        go_roundw
        case rel => exact ⟨k + 1, vis2, by omega, by go_num, Lib.hid HN.out, Lib.hid (by rw [← HPT.out]; exact HI2.out)⟩
        case measure => simp [intOf]; omega
      · have HN := Lib.hid (show Ending.returned (.int .i64 (cmpT ordF n L1[k] L2[k])) = .returned (.int .i64 (itemsC (cmpT ordF n) L1 L2)) by
          have h1 := HST.out
          rw [hz] at h1
          rw [← HQ.out, h1]; rfl)
        have HFT := Lib.hid (fold_take L1 (k + 1))
        go_wp2
        go_ret
        refine ⟨HN.out, HI2.out.1, vis2, HI2.out.2.2.1, ?_, HI2.out.2.1⟩
        have h1 := HI2.out.2.2.2.1
        have h2 := HPT.out
        have h3 := HFT.out
        omega
    · have HN := Lib.hid (show Ending.returned (.int .i64 0) = .returned (.int .i64 (itemsC (cmpT ordF n) L1 L2)) by
        rw [← HQ.out, items_end _ _ _ _ (by have := HL1.out; omega)])
      have hrk := HIT.out.2.2.2.2
      have rk := row_cell hrk 0
      have rk1 := row_cell hrk 1
      have rk2 := row_cell hrk 2
      simp only [List.getElem?_toArray, List.getElem?_cons_zero, List.getElem?_cons_succ] at rk rk1 rk2
      have HFT := Lib.hid (fold_take L1 k)
      have hv1000 : vis' ≤ 1000 := by
        have h1 := HIT.out.2.2.2.1
        have h2 := HP.out
        have h3 := HFT.out
        omega
      clear hrk
      go_wp2_with fail
      go_at_call 112; refine (comp_keep _ _ _ _ _ _ _ HIT.out.2.1 hv1000).mono ?_; rintro e w1 ⟨rfl, hb⟩
      have HI1 := Lib.hid (its_bel HIT.out hb)
      clear hb rk rk1 rk2
      go_wp2
      go_ret
      refine ⟨HN.out, HI1.out.1, vis', HI1.out.2.2.1, ?_, HI1.out.2.1⟩
      have h1 := HI1.out.2.2.2.1
      have h3 := HFT.out
      omega
set_option maxRecDepth 100000 in
set_option maxHeartbeats 4000000 in
theorem cp_lists_ofO (n : Nat) (hi : CpItems 89 ordF n) : CpLists 89 ordF n := by
  intro L1 L2 p1 l1 c1 p2 l2 c2 m lev vis w0 w cb hr1 hr2 hB hs hat hd hlev hlm hv0 hvp
  have HR1 := Lib.hid hr1
  have HR2 := Lib.hid hr2
  obtain ⟨hl1, hlc1, hcm1, hel1⟩ := hr1
  obtain ⟨hl2, hlc2, hcm2, hel2⟩ := hr2
  unfold maxLen at hcm1 hcm2
  have HAT := Lib.hid hat
  have HB := Lib.hid hB
  have HP := Lib.hid hvp
  have HD := Lib.hid hd
  have HI := Lib.hid hi
  have HL1 := Lib.hid hl1
  have HL2 := Lib.hid hl2
  have HE1 := Lib.hid hel1
  have HE2 := Lib.hid hel2
  clear hat hB hvp hd hi hl1 hl2 hel1 hel2
  have hlev' : ¬ (64 < lev) := by omega
  by_cases hle : l1 ≤ l2
  · by_cases h0 : 0 < l1
    · obtain ⟨b1, off1, hp1, _⟩ := HE1.out (by omega)
      obtain ⟨b2, off2, hp2, _⟩ := HE2.out (by omega)
      subst hp1
      subst hp2
      have h0o : 0 < l2 := by omega
      have hcc : (l1 : Int) ≤ (l2 : Int) := by omega
      have HT1 := Lib.hid (repL_take (k := l1) HR1.out (by omega))
      have HT2 := Lib.hid (repL_take (k := l1) HR2.out (by omega))
      have HDT := Lib.hid (show ∀ x ∈ L1.take l1, deepT n x m = false from fun x hx => HD.out x (List.mem_of_mem_take hx))
      have HPT := Lib.hid (fold_take L1 l1)
      have HPP := Lib.hid (show vis + ((L1.take l1).foldl (fun a x => a + partsT n x) 0 : Nat) ≤ 1000 by
        have h1 := HP.out
        have h2 := HPT.out
        omega)
      have HIT := Lib.hid (items_take (cmpT ordF n) L1 L2 l1 (by rw [HL1.out, HL2.out]; omega))
      have HBD := Lib.hid (bel_drew HB.out)
      have HCD := Lib.hid (show CpAt w.drew cb 89 vis from HAT.out)
      have cpe : ∀ w1, Cp w.drew w1 cb 89 vis ((L1.take l1).foldl (fun a x => a + partsT n x) 0) → Cp w w1 cb 89 vis (L1.foldl (fun a x => a + partsT n x) 0) := by
        intro w1 h
        obtain ⟨hg, vis', a, b, c⟩ := h
        have h2 := HPT.out
        exact ⟨⟨hg.os, hg.tape, hg.output, hg.size, hg.block⟩, vis', a, by omega, c⟩
      have CPE := Lib.hid cpe
      clear cpe
      go_enter Try.func103, Try.ntmps103
      go_wp2
      go_region_with (first
        | (go_at_call 109; refine (HI.out (L1.take l1) (L2.take l1) _ _ l1 c1 c2 _ _ m lev vis w0 _ cb HT1.out HT2.out HBD.out hs HCD.out HDT.out hlev hlm hv0 HPP.out).mono ?_; rintro e w1 ⟨rfl, hcp⟩; have HCP := Lib.hid (CPE.out _ hcp); clear hcp))
      rw [HIT.out]
      cases hz : (itemsC (cmpT ordF n) L1 L2 != 0)
      · have HX := Lib.hid (show Ending.returned (.int .i64 (cmpI l1 l2)) = .returned (.int .i64 (listC (cmpT ordF n) L1 L2)) by simp only [listC, hz, HL1.out, HL2.out]; rfl)
        go_wp2_with (go_at_call 99; refine (cmp_int_any _ _ _).mono ?_; rintro e w4 ⟨rfl, rfl⟩)
        go_ret
        exact ⟨HX.out, HCP.out⟩
      · have HX := Lib.hid (show Ending.returned (.int .i64 (itemsC (cmpT ordF n) L1 L2)) = .returned (.int .i64 (listC (cmpT ordF n) L1 L2)) by simp only [listC, hz]; rfl)
        go_wp2
        go_ret
        exact ⟨HX.out, HCP.out⟩
    · have e0 : l1 = 0 := by omega
      have HX := Lib.hid (show Ending.returned (.int .i64 (cmpI l1 l2)) = .returned (.int .i64 (listC (cmpT ordF n) L1 L2)) by
        have hz : itemsC (cmpT ordF n) L1 L2 = 0 := by
          rw [← items_take (cmpT ordF n) L1 L2 0 (by rw [HL1.out, HL2.out]; omega)]
          rfl
        simp only [listC, hz, HL1.out, HL2.out]; rfl)
      have HCP := Lib.hid (show Cp w w cb 89 vis (L1.foldl (fun a x => a + partsT n x) 0) from ⟨World.grownBy.refl _ _, vis, by omega, by omega, HAT.out⟩)
      subst e0
      go_enter Try.func103, Try.ntmps103
      go_wp2_with (go_at_call 99; refine (cmp_int_any _ _ _).mono ?_; rintro e w4 ⟨rfl, rfl⟩)
      go_ret
      exact ⟨HX.out, HCP.out⟩
  · have hge : l2 < l1 := by omega
    have hge2 : ¬ ((l1 : Int) ≤ (l2 : Int)) := by omega
    by_cases h0 : 0 < l2
    · obtain ⟨b1, off1, hp1, _⟩ := HE1.out (by omega)
      obtain ⟨b2, off2, hp2, _⟩ := HE2.out (by omega)
      subst hp1
      subst hp2
      have h0o : 0 < l1 := by omega
      have hcc : (l2 : Int) < (l1 : Int) := by omega
      have HT1 := Lib.hid (repL_take (k := l2) HR1.out (by omega))
      have HT2 := Lib.hid (repL_take (k := l2) HR2.out (by omega))
      have HDT := Lib.hid (show ∀ x ∈ L1.take l2, deepT n x m = false from fun x hx => HD.out x (List.mem_of_mem_take hx))
      have HPT := Lib.hid (fold_take L1 l2)
      have HPP := Lib.hid (show vis + ((L1.take l2).foldl (fun a x => a + partsT n x) 0 : Nat) ≤ 1000 by
        have h1 := HP.out
        have h2 := HPT.out
        omega)
      have HIT := Lib.hid (items_take (cmpT ordF n) L1 L2 l2 (by rw [HL1.out, HL2.out]; omega))
      have HBD := Lib.hid (bel_drew HB.out)
      have HCD := Lib.hid (show CpAt w.drew cb 89 vis from HAT.out)
      have cpe : ∀ w1, Cp w.drew w1 cb 89 vis ((L1.take l2).foldl (fun a x => a + partsT n x) 0) → Cp w w1 cb 89 vis (L1.foldl (fun a x => a + partsT n x) 0) := by
        intro w1 h
        obtain ⟨hg, vis', a, b, c⟩ := h
        have h2 := HPT.out
        exact ⟨⟨hg.os, hg.tape, hg.output, hg.size, hg.block⟩, vis', a, by omega, c⟩
      have CPE := Lib.hid cpe
      clear cpe
      go_enter Try.func103, Try.ntmps103
      go_wp2
      go_region_with (first
        | (go_at_call 109; refine (HI.out (L1.take l2) (L2.take l2) _ _ l2 c1 c2 _ _ m lev vis w0 _ cb HT1.out HT2.out HBD.out hs HCD.out HDT.out hlev hlm hv0 HPP.out).mono ?_; rintro e w1 ⟨rfl, hcp⟩; have HCP := Lib.hid (CPE.out _ hcp); clear hcp))
      rw [HIT.out]
      cases hz : (itemsC (cmpT ordF n) L1 L2 != 0)
      · have HX := Lib.hid (show Ending.returned (.int .i64 (cmpI l1 l2)) = .returned (.int .i64 (listC (cmpT ordF n) L1 L2)) by simp only [listC, hz, HL1.out, HL2.out]; rfl)
        go_wp2_with (go_at_call 99; refine (cmp_int_any _ _ _).mono ?_; rintro e w4 ⟨rfl, rfl⟩)
        go_ret
        exact ⟨HX.out, HCP.out⟩
      · have HX := Lib.hid (show Ending.returned (.int .i64 (itemsC (cmpT ordF n) L1 L2)) = .returned (.int .i64 (listC (cmpT ordF n) L1 L2)) by simp only [listC, hz]; rfl)
        go_wp2
        go_ret
        exact ⟨HX.out, HCP.out⟩
    · have e0 : l2 = 0 := by omega
      have HX := Lib.hid (show Ending.returned (.int .i64 (cmpI l1 l2)) = .returned (.int .i64 (listC (cmpT ordF n) L1 L2)) by
        have hz : itemsC (cmpT ordF n) L1 L2 = 0 := by
          rw [← items_take (cmpT ordF n) L1 L2 0 (by rw [HL1.out, HL2.out]; omega)]
          rfl
        simp only [listC, hz, HL1.out, HL2.out]; rfl)
      have HCP := Lib.hid (show Cp w w cb 89 vis (L1.foldl (fun a x => a + partsT n x) 0) from ⟨World.grownBy.refl _ _, vis, by omega, by omega, HAT.out⟩)
      subst e0
      go_enter Try.func103, Try.ntmps103
      go_wp2_with (go_at_call 99; refine (cmp_int_any _ _ _).mono ?_; rintro e w4 ⟨rfl, rfl⟩)
      go_ret
      exact ⟨HX.out, HCP.out⟩
theorem cp_allO : ∀ n, CpValues 89 ordF n ∧ CpLists 89 ordF n := by
  have z : CpValues 89 ordF 0 := fun A B a b m lev vis w0 w cb h => h.elim
  intro n
  induction n with
  | zero => exact ⟨z, cp_lists_ofO 0 (cp_items_ofO 0 z)⟩
  | succ n ih => exact ⟨cp_values_succO n ih.2, cp_lists_ofO (n + 1) (cp_items_ofO (n + 1) (cp_values_succO n ih.2))⟩
end Num
end Go.Proofs.Ytomfgncbdgifoaa
/-
  Package value's Order, of values of at most a thousand parts.
-/
namespace Go.Proofs.Ytomfgncbdgifoaa
open Go.RowKit
namespace Num
open Ints
set_option linter.unusedSimpArgs false
set_option linter.unusedVariables false
theorem bel_cp {w w1 : World} {cb fn : Nat} {vis : Int} {k : Nat} {W : World} (h : Below w.heap.size w W) (hs : w.heap.size ≤ cb) (hv : Cp W w1 cb fn vis k) : Below w.heap.size w w1 :=
  Below.grown h hv.1 h.size (fun k hk => by cases hk; exact hs)
set_option maxHeartbeats 2000000 in
theorem order_any (n : Nat) (a b : Value) (A B : VT n) (w : World) (hra : Rep w n a A) (hrb : Rep w n b B) (hd : deepT n A 64 = false) (hp : partsT n A ≤ 1000) : Calls Try.prog 72 #[a, b] w fun e w' => e = .returned (.int .i64 (cmpT ordF n A B)) ∧ Below w.heap.size w w' := by
  have HRA := Lib.hid hra
  have HRB := Lib.hid hrb
  have HD := Lib.hid hd
  have HP := Lib.hid hp
  obtain ⟨K1, I1, F1, S1, p1, l1, c1, rfl, _⟩ := rep_shape hra
  obtain ⟨K2, I2, F2, S2, p2, l2, c2, rfl, _⟩ := rep_shape hrb
  clear hra hrb hd hp
  have HB := Lib.hid ((((Below.refl w.heap.size w).alloc (Nat.le_refl _) (.cells #[.int .i64 K1, .int .i64 I1, .float .f64 F1, .string S1, .slice p1 l1 c1] 47)).alloc (by simp) (.cells #[.int .i64 K2, .int .i64 I2, .float .f64 F2, .string S2, .slice p2 l2 c2] 47)).alloc (by simp; omega) (.cells #[.func (.func 89) #[] #[], .int .i64 0, .map none] 124))
  have HA := Lib.hid (row_alloc ((w.alloc (.cells #[.int .i64 K1, .int .i64 I1, .float .f64 F1, .string S1, .slice p1 l1 c1] 47)).alloc (.cells #[.int .i64 K2, .int .i64 I2, .float .f64 F2, .string S2, .slice p2 l2 c2] 47)) #[.func (.func 89) #[] #[], .int .i64 0, .map none] 124)
  simp only [World.size_alloc] at HA
  go_enter Try.func72, Try.ntmps72
  go_wp2_with fail
  go_at_call 90; refine ((cp_allO n).1 A B _ _ 64 0 0 w _ (w.heap.size + 1 + 1) HRA.out HRB.out HB.out (by omega) HA.out HD.out (by omega) (by omega) (by omega) (by have := HP.out; omega)).mono ?_; rintro e w1 ⟨rfl, hcp⟩
  have HF := Lib.hid (bel_cp HB.out (by omega) hcp)
  clear hcp
  go_wp2
  go_ret
  exact ⟨rfl, HF.out⟩
end Num
end Go.Proofs.Ytomfgncbdgifoaa
