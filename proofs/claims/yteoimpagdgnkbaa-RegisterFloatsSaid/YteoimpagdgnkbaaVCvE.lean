/-
  The comparison of package value, of values of at most a thousand parts, in which no memo is kept: one value against another.
-/
import Derived.Test.YteoimpagdgnkbaaVCmE
import Derived.Laws.EntriesVeiled
import Derived.Deep.RegionHeld3
namespace Go.Proofs.Yteoimpagdgnkbaa
open Go.RowKit
namespace Num
open Ints
set_option linter.unusedSimpArgs false
set_option linter.unusedVariables false
/-- Items against items, as far as both go: the first that parts. -/
def itemsC {α : Type} (c : α → α → Int) : List α → List α → Int
  | x :: xs, y :: ys => if (c x y != 0) = true then c x y else itemsC c xs ys
  | _, _ => 0
def listC {α : Type} (c : α → α → Int) (xs ys : List α) : Int := if (itemsC c xs ys != 0) = true then itemsC c xs ys else cmpI xs.length ys.length
def cmpT (fc : Nat → Nat → Int) : (n : Nat) → VT n → VT n → Int
  | 0, _, _ => 0
  | n + 1, A, B => if (cmpI (kindI A.1) (kindI B.1) != 0) = true then cmpI (kindI A.1) (kindI B.1)
      else if (A.1 == 1) = true then cmpI A.2.1 B.2.1 else if (A.1 == 2) = true then fc A.2.2.1 B.2.2.1
      else if (A.1 == 3) = true then cmpS A.2.2.2.1 B.2.2.2.1 else if (A.1 == 4) = true then listC (cmpT fc n) A.2.2.2.2 B.2.2.2.2 else 0
section
variable {fc : Nat → Nat → Int} {n : Nat} {K1 I1 : Int} {F1 : Nat} {S1 : ByteArray} {L1 : List (VT n)} {K2 I2 : Int} {F2 : Nat} {S2 : ByteArray} {L2 : List (VT n)}
theorem cmpT_kind (h : (cmpI (kindI K1) (kindI K2) != 0) = true) : cmpT fc (n + 1) (K1, I1, F1, S1, L1) (K2, I2, F2, S2, L2) = cmpI (kindI K1) (kindI K2) := by
  show (if (cmpI (kindI K1) (kindI K2) != 0) = true then _ else _) = _
  rw [if_pos h]
theorem cmpT_int (h : (cmpI (kindI K1) (kindI K2) != 0) = false) (h1 : (K1 == 1) = true) : cmpT fc (n + 1) (K1, I1, F1, S1, L1) (K2, I2, F2, S2, L2) = cmpI I1 I2 := by
  show (if (cmpI (kindI K1) (kindI K2) != 0) = true then _ else if (K1 == 1) = true then _ else _) = _
  rw [if_neg (by rw [h]; simp), if_pos h1]
theorem cmpT_float (h : (cmpI (kindI K1) (kindI K2) != 0) = false) (h1 : (K1 == 1) = false) (h2 : (K1 == 2) = true) : cmpT fc (n + 1) (K1, I1, F1, S1, L1) (K2, I2, F2, S2, L2) = fc F1 F2 := by
  show (if (cmpI (kindI K1) (kindI K2) != 0) = true then _ else if (K1 == 1) = true then _ else if (K1 == 2) = true then _ else _) = _
  rw [if_neg (by rw [h]; simp), if_neg (by rw [h1]; simp), if_pos h2]
theorem cmpT_text (h : (cmpI (kindI K1) (kindI K2) != 0) = false) (h1 : (K1 == 1) = false) (h2 : (K1 == 2) = false) (h3 : (K1 == 3) = true) : cmpT fc (n + 1) (K1, I1, F1, S1, L1) (K2, I2, F2, S2, L2) = cmpS S1 S2 := by
  show (if (cmpI (kindI K1) (kindI K2) != 0) = true then _ else if (K1 == 1) = true then _ else if (K1 == 2) = true then _ else if (K1 == 3) = true then _ else _) = _
  rw [if_neg (by rw [h]; simp), if_neg (by rw [h1]; simp), if_neg (by rw [h2]; simp), if_pos h3]
theorem cmpT_list (h : (cmpI (kindI K1) (kindI K2) != 0) = false) (h1 : (K1 == 1) = false) (h2 : (K1 == 2) = false) (h3 : (K1 == 3) = false) (h4 : (K1 == 4) = true) : cmpT fc (n + 1) (K1, I1, F1, S1, L1) (K2, I2, F2, S2, L2) = listC (cmpT fc n) L1 L2 := by
  show (if (cmpI (kindI K1) (kindI K2) != 0) = true then _ else if (K1 == 1) = true then _ else if (K1 == 2) = true then _ else if (K1 == 3) = true then _ else if (K1 == 4) = true then _ else _) = _
  rw [if_neg (by rw [h]; simp), if_neg (by rw [h1]; simp), if_neg (by rw [h2]; simp), if_neg (by rw [h3]; simp), if_pos h4]
theorem cmpT_else (h : (cmpI (kindI K1) (kindI K2) != 0) = false) (h1 : (K1 == 1) = false) (h2 : (K1 == 2) = false) (h3 : (K1 == 3) = false) (h4 : (K1 == 4) = false) : cmpT fc (n + 1) (K1, I1, F1, S1, L1) (K2, I2, F2, S2, L2) = 0 := by
  show (if (cmpI (kindI K1) (kindI K2) != 0) = true then _ else if (K1 == 1) = true then _ else if (K1 == 2) = true then _ else if (K1 == 3) = true then _ else if (K1 == 4) = true then _ else _) = _
  rw [if_neg (by rw [h]; simp), if_neg (by rw [h1]; simp), if_neg (by rw [h2]; simp), if_neg (by rw [h3]; simp), if_neg (by rw [h4]; simp)]
end
def CpAt (w : World) (cb fn : Nat) (vis : Int) : Prop := w.heap[cb]? = some (.cells #[.func (.func fn) #[] #[], .int .i64 vis, .map none] 107 (0, 0))
def Cp (w w' : World) (cb fn : Nat) (vis : Int) (k : Nat) : Prop := w.grownBy w' (some cb) ∧ ∃ vis', vis ≤ vis' ∧ vis' ≤ vis + k ∧ CpAt w' cb fn vis'
def CpValues (fn : Nat) (fc : Nat → Nat → Int) (n : Nat) : Prop := ∀ (A B : VT n) (a b : Value) (m : Nat) (lev vis : Int) (w0 w : World) (cb : Nat), Rep w0 n a A → Rep w0 n b B → Below w0.heap.size w0 w → w0.heap.size ≤ cb → CpAt w cb fn vis → deepT n A m = false → 0 ≤ lev → lev + m ≤ 64 → 0 ≤ vis → vis + partsT n A ≤ 1000 →
  Calls Try.prog 86 #[.pointer (some ⟨cb, 0, none⟩), a, b, .int .i64 lev] w fun e w' => e = .returned (.int .i64 (cmpT fc n A B)) ∧ Cp w w' cb fn vis (partsT n A)
def CpLists (fn : Nat) (fc : Nat → Nat → Int) (n : Nat) : Prop := ∀ (L1 L2 : List (VT n)) (p1 : Option Addr) (l1 c1 : Nat) (p2 : Option Addr) (l2 c2 : Nat) (m : Nat) (lev vis : Int) (w0 w : World) (cb : Nat), RepL w0 (Rep w0 n) p1 l1 c1 L1 → RepL w0 (Rep w0 n) p2 l2 c2 L2 → Below w0.heap.size w0 w → w0.heap.size ≤ cb → CpAt w cb fn vis → (∀ x ∈ L1, deepT n x m = false) → 0 ≤ lev → lev + m ≤ 64 → 0 ≤ vis → vis + (L1.foldl (fun a x => a + partsT n x) 0 : Nat) ≤ 1000 →
  Calls Try.prog 93 #[.pointer (some ⟨cb, 0, none⟩), .slice p1 l1 c1, .slice p2 l2 c2, .int .i64 lev] w fun e w' => e = .returned (.int .i64 (listC (cmpT fc n) L1 L2)) ∧ Cp w w' cb fn vis (L1.foldl (fun a x => a + partsT n x) 0)
theorem setCell_row3 {w : World} {b : Nat} {x0 x1 x2 : Value} {t : TypeId} (h : w.heap[b]? = some (.cells #[x0, x1, x2] t (0, 0))) (v : Value) : (w.setCell ⟨b, 1, none⟩ v).heap[b]? = some (.cells #[x0, v, x2] t (0, 0)) := by
  simp [World.setCell, Array.getElem?_modify, h]
theorem cp_start {w : World} {cb fn : Nat} {vis : Int} (h : CpAt w cb fn vis) (o1 o2 : Obj) : w.grownBy (((w.setCell ⟨cb, 1, none⟩ (.int .i64 (vis + 1))).alloc o1).alloc o2) (some cb) ∧ CpAt (((w.setCell ⟨cb, 1, none⟩ (.int .i64 (vis + 1))).alloc o1).alloc o2) cb fn (vis + 1) :=
  ⟨((grown_setCell w cb 1 _).trans (World.grownBy_alloc _ _ _)).trans (World.grownBy_alloc _ _ _), row_alloc_step (row_alloc_step (setCell_row3 h _) _) _⟩
theorem cp_trans {w W w1 : World} {cb fn : Nat} {vis : Int} {k j : Nat} (hg : w.grownBy W (some cb)) (h : Cp W w1 cb fn (vis + j) k) : Cp w w1 cb fn vis (k + j) := by
  obtain ⟨hg2, vis', a, b, c⟩ := h
  exact ⟨hg.trans hg2, vis', by omega, by omega, c⟩
theorem cp_bel {w W w1 : World} {cb fn : Nat} {vis : Int} {k : Nat} (hg : w.grownBy W (some cb)) (ha : CpAt W cb fn (vis + 1)) (hb : Below W.heap.size W w1) (hk : 1 ≤ k) : Cp w w1 cb fn vis k :=
  ⟨hg.trans (bel_grown hb _), vis + 1, by omega, by omega, row_step ha hb⟩
theorem cp_drewN {w w1 : World} {cb fn : Nat} {vis : Int} {k : Nat} (h : Cp w w1 cb fn vis k) (q : Nat) : Cp w (w1.drewN q) cb fn vis k := by
  obtain ⟨hg, r⟩ := h
  exact ⟨⟨hg.os, hg.tape, hg.output, hg.size, hg.block⟩, r⟩
theorem parts_pos {n : Nat} (T : VT n) : 1 ≤ partsT n T := by
  cases n with
  | zero => exact Nat.le_refl _
  | succ n =>
    obtain ⟨K, I, F, S, L⟩ := T
    cases h4 : (K == 4)
    · rw [partsT_else h4]; omega
    · rw [partsT_list h4]; exact foldl_parts _ _
theorem bel_drew {B : Nat} {a w : World} (h : Below B a w) : Below B a w.drew := ⟨h.os, h.tape, h.output, h.size, h.block⟩
set_option maxRecDepth 100000 in
set_option maxHeartbeats 4000000 in
theorem cp_values_succE (n : Nat) (hl : CpLists 85 cmpF n) : CpValues 85 cmpF (n + 1) := by
  intro A B a b m lev vis w0 w cb hra hrb hB hs hat hd hlev hlm hv0 hvp
  have hpp := parts_pos A
  obtain ⟨K1, I1, F1, S1, L1⟩ := A
  obtain ⟨K2, I2, F2, S2, L2⟩ := B
  obtain ⟨p1, l1, c1, rfl, _, _, hF1, hS1, hL1⟩ := hra
  obtain ⟨p2, l2, c2, rfl, _, _, hF2, hS2, hL2⟩ := hrb
  have g1 : w.cell? ⟨cb, 1, none⟩ = some (.int .i64 vis) := row_cell hat 1
  have f1 : w.frozen? ⟨cb, 1, none⟩ = false := row_frz hat 1
  have hlt := row_lt hat
  have hne : cb ≠ w.heap.size := by omega
  have hv1 : vis ≤ 999 := by omega
  have HAT := Lib.hid hat
  have HB := Lib.hid hB
  have HLA := Lib.hid hL1
  have HLB := Lib.hid hL2
  have HP := Lib.hid hvp
  have HD := Lib.hid hd
  have HLI := Lib.hid hl
  have HPP := Lib.hid hpp
  clear hat hB hL1 hL2 hvp hd hl hpp
  obtain ⟨W1, hW1⟩ : ∃ W1, W1 = ((w.setCell ⟨cb, 1, none⟩ (.int .i64 (vis + 1))).alloc (.cells #[.int .i64 K1, .int .i64 I1, .float .f64 F1, .string S1, .slice p1 l1 c1] 27)).alloc (.cells #[.int .i64 K2, .int .i64 I2, .float .f64 F2, .string S2, .slice p2 l2 c2] 27) := ⟨_, rfl⟩
  have hst := cp_start HAT.out (.cells #[.int .i64 K1, .int .i64 I1, .float .f64 F1, .string S1, .slice p1 l1 c1] 27) (.cells #[.int .i64 K2, .int .i64 I2, .float .f64 F2, .string S2, .slice p2 l2 c2] 27)
  have hra := row_alloc_step (row_alloc (w.setCell ⟨cb, 1, none⟩ (.int .i64 (vis + 1))) #[.int .i64 K1, .int .i64 I1, .float .f64 F1, .string S1, .slice p1 l1 c1] 27) (.cells #[.int .i64 K2, .int .i64 I2, .float .f64 F2, .string S2, .slice p2 l2 c2] 27)
  have hrb := row_alloc ((w.setCell ⟨cb, 1, none⟩ (.int .i64 (vis + 1))).alloc (.cells #[.int .i64 K1, .int .i64 I1, .float .f64 F1, .string S1, .slice p1 l1 c1] 27)) #[.int .i64 K2, .int .i64 I2, .float .f64 F2, .string S2, .slice p2 l2 c2] 27
  simp only [World.size_alloc, World.size_setCell] at hra hrb
  rw [← hW1] at hst hra hrb
  have HST := Lib.hid hst
  have HRA := Lib.hid hra
  have HRB := Lib.hid hrb
  have HW1 := Lib.hid hW1
  clear hst hra hrb hW1
  go_enter Try.func86, Try.ntmps86
  go_wp2_with fail
  rw [← HW1.out]
  clear HW1
  refine wp_region_held_drew (S := fun w' => Below W1.heap.size W1 w') (by kernel_rfl) ?_ (fun hHeld => ?_)
  · exact bel_drew (Below.refl _ _)
  refine wpAnyH_take (i := 0) (oi := ?_) (v := ?_) ?hia0 (by kernel_rfl) ?hfa0 ?hra0 ?hQa0 ?hya0 (by assumption) ?resta0
  case hia0 => (simp only [List.getElem?_toArray, List.getElem?_cons_zero, List.getElem?_cons_succ]; rfl)
  case hfa0 => kernel_rfl
  case hra0 => kernel_rfl
  case hya0 => (refine Or.inl ⟨by rfl, ?_⟩; intro w hSw; (try dsimp only at hSw); have rr := row_step HRA.out hSw; have c0 := row_cell rr 0; have c1 := row_cell rr 1; have c2 := row_cell rr 2; have c3 := row_cell rr 3; have c4 := row_cell rr 4; simp only [List.getElem?_toArray, List.getElem?_cons_zero, List.getElem?_cons_succ] at c0 c1 c2 c3 c4; go_simp; (try with_reducible rfl))
  case hQa0 => exact fun _ _ _ h => h
  (try simp only [Act.put, List.setIfInBounds_toArray, List.set_cons_zero, List.set_cons_succ])
  refine wpAnyH_take (i := 2) (oi := ?_) (v := ?_) ?hia2 (by kernel_rfl) ?hfa2 ?hra2 ?hQa2 ?hya2 (by assumption) ?resta2
  case hia2 => (simp only [List.getElem?_toArray, List.getElem?_cons_zero, List.getElem?_cons_succ]; rfl)
  case hfa2 => kernel_rfl
  case hra2 => kernel_rfl
  case hya2 => (refine Or.inl ⟨by rfl, ?_⟩; intro w hSw; (try dsimp only at hSw); have rr := row_step HRB.out hSw; have c0 := row_cell rr 0; have c1 := row_cell rr 1; have c2 := row_cell rr 2; have c3 := row_cell rr 3; have c4 := row_cell rr 4; simp only [List.getElem?_toArray, List.getElem?_cons_zero, List.getElem?_cons_succ] at c0 c1 c2 c3 c4; go_simp; (try with_reducible rfl))
  case hQa2 => exact fun _ _ _ h => h
  (try simp only [Act.put, List.setIfInBounds_toArray, List.set_cons_zero, List.set_cons_succ])
  refine wpAnyH_ready (rs := [1]) (by kernel_rfl) (by simp) ?_
  refine AllReadyH.cons (o := ?_) ?hoa1 ?hsta1 AllReadyH.nil
  case hoa1 => (simp only [List.getElem?_toArray, List.getElem?_cons_zero, List.getElem?_cons_succ]; rfl)
  intro K hK
  go_simp
  go_at_call 90; refine (kind_any _ _ _ _ _ _ _ _).mono ?_; rintro e w2 ⟨rfl, hb⟩; have hS2 := bel_step hHeld hb; clear hb
  go_wp2_with fail
  refine hK.out _ _ ?hsa1 (fun hHeld => ?_)
  case hsa1 => exact hS2
  clear hK K
  (try simp only [Act.put, List.setIfInBounds_toArray, List.set_cons_zero, List.set_cons_succ])
  refine wpAnyH_ready (rs := [3]) (by kernel_rfl) (by simp) ?_
  refine AllReadyH.cons (o := ?_) ?hoa3 ?hsta3 AllReadyH.nil
  case hoa3 => (simp only [List.getElem?_toArray, List.getElem?_cons_zero, List.getElem?_cons_succ]; rfl)
  intro K hK
  go_simp
  go_at_call 90; refine (kind_any _ _ _ _ _ _ _ _).mono ?_; rintro e w3 ⟨rfl, hb⟩; have hS3 := bel_step hHeld hb; clear hb
  go_wp2_with fail
  refine hK.out _ _ ?hsa3 (fun hHeld => ?_)
  case hsa3 => exact hS3
  clear hK K
  (try simp only [Act.put, List.setIfInBounds_toArray, List.set_cons_zero, List.set_cons_succ])
  refine wpAnyH_ready (rs := [4]) (by kernel_rfl) (by simp) ?_
  refine AllReadyH.cons (o := ?_) ?hoa4 ?hsta4 AllReadyH.nil
  case hoa4 => (simp only [List.getElem?_toArray, List.getElem?_cons_zero, List.getElem?_cons_succ]; rfl)
  intro K hK
  go_simp
  go_at_call 89; refine (cmp_int_any _ _ _).mono ?_; rintro e w4 ⟨rfl, rfl⟩
  go_wp2_with fail
  refine hK.out _ _ ?hsa4 (fun hHeld => ?_)
  case hsa4 => exact hHeld
  clear hK K
  (try simp only [Act.put, List.setIfInBounds_toArray, List.set_cons_zero, List.set_cons_succ])
  refine wpAnyH_take (i := 5) (oi := ?_) (v := ?_) ?hia5 (by kernel_rfl) ?hfa5 ?hra5 ?hQa5 ?hya5 (by assumption) ?resta5
  case hia5 => (simp only [List.getElem?_toArray, List.getElem?_cons_zero, List.getElem?_cons_succ]; rfl)
  case hfa5 => kernel_rfl
  case hra5 => kernel_rfl
  case hya5 => (refine Or.inl ⟨by rfl, ?_⟩; intro w hSw; (try dsimp only at hSw); go_simp; (try with_reducible rfl))
  case hQa5 => exact fun _ _ _ h => h
  (try simp only [Act.put, List.setIfInBounds_toArray, List.set_cons_zero, List.set_cons_succ])
  refine wpAnyH_done (by kernel_rfl) ?_ _
  have HS := Lib.hid hHeld
  have ra := row_step HRA.out hHeld
  have rb := row_step HRB.out hHeld
  have rc := row_step HST.out.2 hHeld
  have a0 := row_cell ra 0
  have a1 := row_cell ra 1
  have a2 := row_cell ra 2
  have a3 := row_cell ra 3
  have a4 := row_cell ra 4
  have b1 := row_cell rb 1
  have b2 := row_cell rb 2
  have b3 := row_cell rb 3
  have b4 := row_cell rb 4
  have k0 := row_cell rc 0
  simp only [List.getElem?_toArray, List.getElem?_cons_zero, List.getElem?_cons_succ] at a0 a1 a2 a3 a4 b1 b2 b3 b4 k0
  have HCP := Lib.hid (cp_bel HST.out.1 HST.out.2 HS.out HPP.out)
  clear ra rb rc g1 f1 hHeld
  cases hk : (cmpI (kindI K1) (kindI K2) != 0)
  · cases h1 : (K1 == 1)
    · cases h2 : (K1 == 2)
      · cases h3 : (K1 == 3)
        · cases h4 : (K1 == 4)
          · have HX := Lib.hid (show Ending.returned (.int .i64 0) = .returned (.int .i64 (cmpT cmpF (n + 1) (K1, I1, F1, S1, L1) (K2, I2, F2, S2, L2))) by rw [cmpT_else hk h1 h2 h3 h4])
            go_wp2
            go_ret
            exact ⟨HX.out, HCP.out⟩
          · cases m with
            | zero => exact absurd HD.out (by rw [deepT_zero h4]; simp)
            | succ m =>
            have HX := Lib.hid (show Ending.returned (.int .i64 (listC (cmpT cmpF n) L1 L2)) = .returned (.int .i64 (cmpT cmpF (n + 1) (K1, I1, F1, S1, L1) (K2, I2, F2, S2, L2))) by rw [cmpT_list hk h1 h2 h3 h4])
            have hdl : ∀ x ∈ L1, deepT n x m = false := by
              have := HD.out
              rw [deepT_succ h4] at this
              exact fun x hx => by simpa using (List.any_eq_false.1 this) x hx
            have hpl : vis + 1 + (L1.foldl (fun a x => a + partsT n x) 0 : Nat) ≤ 1000 ∧ partsT (n + 1) (K1, I1, F1, S1, L1) = L1.foldl (fun a x => a + partsT n x) 0 + 1 := by
              have e : partsT (n + 1) (K1, I1, F1, S1, L1) = L1.foldl (fun a x => a + partsT n x) 0 + 1 := by rw [partsT_list h4, ← parts_shift]
              have := HP.out
              rw [e] at this
              exact ⟨by omega, e⟩
            have HDL := Lib.hid hdl
            have HPL := Lib.hid hpl
            have HGW := Lib.hid (HST.out.1.trans (bel_grown HS.out _))
            have HBW := Lib.hid (Below.grown HB.out HGW.out HB.out.size (fun k hk => by cases hk; exact hs))
            have HCA := Lib.hid (row_step HST.out.2 HS.out)
            clear hdl hpl
            go_wp2_with fail
            go_at_call 93; refine (HLI.out L1 L2 p1 l1 c1 p2 l2 c2 m (lev + 1) (vis + 1) w0 _ cb HLA.out HLB.out HBW.out hs HCA.out HDL.out (by omega) (by omega) (by omega) HPL.out.1).mono ?_; rintro e w5 ⟨rfl, hcp⟩
            have HC5 := Lib.hid (cp_trans (j := 1) HGW.out hcp)
            clear hcp a0 a1 a2 a3 a4 b1 b2 b3 b4 k0
            go_wp2
            go_ret
            refine ⟨HX.out, ?_⟩
            rw [HPL.out.2]
            exact HC5.out
        · have HX := Lib.hid (show Ending.returned (.int .i64 (cmpS S1 S2)) = .returned (.int .i64 (cmpT cmpF (n + 1) (K1, I1, F1, S1, L1) (K2, I2, F2, S2, L2))) by rw [cmpT_text hk h1 h2 h3])
          go_wp2_with (go_at_call 92; refine (cmp_string_any _ _ _).mono ?_; rintro e w4 ⟨rfl, rfl⟩)
          go_ret
          exact ⟨HX.out, HCP.out⟩
      · have HX := Lib.hid (show Ending.returned (.int .i64 (cmpF F1 F2)) = .returned (.int .i64 (cmpT cmpF (n + 1) (K1, I1, F1, S1, L1) (K2, I2, F2, S2, L2))) by rw [cmpT_float hk h1 h2])
        go_wp2
        refine wp_region_held_drew (S := fun w' => Below w3.heap.size w3 w') (by kernel_rfl) ?_ (fun hHeld => ?_)
        · exact bel_drew (Below.refl _ _)
        refine wpAnyH_take (i := 0) (oi := ?_) (v := ?_) ?hib0 (by kernel_rfl) ?hfb0 ?hrb0 ?hQb0 ?hyb0 (by assumption) ?restb0
        case hib0 => (simp only [List.getElem?_toArray, List.getElem?_cons_zero, List.getElem?_cons_succ]; rfl)
        case hfb0 => kernel_rfl
        case hrb0 => kernel_rfl
        case hyb0 => (refine Or.inl ⟨by rfl, ?_⟩; intro w hSw; (try dsimp only at hSw); go_simp; (try with_reducible rfl))
        case hQb0 => exact fun _ _ _ h => h
        (try simp only [Act.put, List.setIfInBounds_toArray, List.set_cons_zero, List.set_cons_succ])
        refine wpAnyH_take (i := 1) (oi := ?_) (v := ?_) ?hib1 (by kernel_rfl) ?hfb1 ?hrb1 ?hQb1 ?hyb1 (by assumption) ?restb1
        case hib1 => (simp only [List.getElem?_toArray, List.getElem?_cons_zero, List.getElem?_cons_succ]; rfl)
        case hfb1 => kernel_rfl
        case hrb1 => kernel_rfl
        case hyb1 => (refine Or.inl ⟨by rfl, ?_⟩; intro w hSw; (try dsimp only at hSw); go_simp; (try with_reducible rfl))
        case hQb1 => exact fun _ _ _ h => h
        (try simp only [Act.put, List.setIfInBounds_toArray, List.set_cons_zero, List.set_cons_succ])
        refine wpAnyH_take (i := 2) (oi := ?_) (v := ?_) ?hib2 (by kernel_rfl) ?hfb2 ?hrb2 ?hQb2 ?hyb2 (by assumption) ?restb2
        case hib2 => (simp only [List.getElem?_toArray, List.getElem?_cons_zero, List.getElem?_cons_succ]; rfl)
        case hfb2 => kernel_rfl
        case hrb2 => kernel_rfl
        case hyb2 => (refine Or.inl ⟨by rfl, ?_⟩; intro w hSw; (try dsimp only at hSw); go_simp; (try with_reducible rfl))
        case hQb2 => exact fun _ _ _ h => h
        (try simp only [Act.put, List.setIfInBounds_toArray, List.set_cons_zero, List.set_cons_succ])
        refine wpAnyH_take (i := 3) (oi := ?_) (v := ?_) ?hib3 (by kernel_rfl) ?hfb3 ?hrb3 ?hQb3 ?hyb3 (by assumption) ?restb3
        case hib3 => (simp only [List.getElem?_toArray, List.getElem?_cons_zero, List.getElem?_cons_succ]; rfl)
        case hfb3 => kernel_rfl
        case hrb3 => kernel_rfl
        case hyb3 => (refine Or.inl ⟨by rfl, ?_⟩; intro w hSw; (try dsimp only at hSw); have c0 := cell_keep hSw k0; go_simp; (try with_reducible rfl))
        case hQb3 => exact fun _ _ _ h => h
        (try simp only [Act.put, List.setIfInBounds_toArray, List.set_cons_zero, List.set_cons_succ])
        refine wpAnyH_take (i := 4) (oi := ?_) (v := ?_) ?hib4 (by kernel_rfl) ?hfb4 ?hrb4 ?hQb4 ?hyb4 (by assumption) ?restb4
        case hib4 => (simp only [List.getElem?_toArray, List.getElem?_cons_zero, List.getElem?_cons_succ]; rfl)
        case hfb4 => kernel_rfl
        case hrb4 => kernel_rfl
        case hyb4 => (refine Or.inl ⟨by rfl, ?_⟩; intro w hSw; (try dsimp only at hSw); go_simp; (try with_reducible rfl))
        case hQb4 => exact fun _ _ _ h => h
        (try simp only [Act.put, List.setIfInBounds_toArray, List.set_cons_zero, List.set_cons_succ])
        refine wpAnyH_take (i := 5) (oi := ?_) (v := ?_) ?hib5 (by kernel_rfl) ?hfb5 ?hrb5 ?hQb5 ?hyb5 (by assumption) ?restb5
        case hib5 => (simp only [List.getElem?_toArray, List.getElem?_cons_zero, List.getElem?_cons_succ]; rfl)
        case hfb5 => kernel_rfl
        case hrb5 => kernel_rfl
        case hyb5 => (refine Or.inl ⟨by rfl, ?_⟩; intro w hSw; (try dsimp only at hSw); have c0 := cell_keep hSw a2; go_simp; (try with_reducible rfl))
        case hQb5 => exact fun _ _ _ h => h
        (try simp only [Act.put, List.setIfInBounds_toArray, List.set_cons_zero, List.set_cons_succ])
        refine wpAnyH_take (i := 6) (oi := ?_) (v := ?_) ?hib6 (by kernel_rfl) ?hfb6 ?hrb6 ?hQb6 ?hyb6 (by assumption) ?restb6
        case hib6 => (simp only [List.getElem?_toArray, List.getElem?_cons_zero, List.getElem?_cons_succ]; rfl)
        case hfb6 => kernel_rfl
        case hrb6 => kernel_rfl
        case hyb6 => (refine Or.inl ⟨by rfl, ?_⟩; intro w hSw; (try dsimp only at hSw); go_simp; (try with_reducible rfl))
        case hQb6 => exact fun _ _ _ h => h
        (try simp only [Act.put, List.setIfInBounds_toArray, List.set_cons_zero, List.set_cons_succ])
        refine wpAnyH_take (i := 7) (oi := ?_) (v := ?_) ?hib7 (by kernel_rfl) ?hfb7 ?hrb7 ?hQb7 ?hyb7 (by assumption) ?restb7
        case hib7 => (simp only [List.getElem?_toArray, List.getElem?_cons_zero, List.getElem?_cons_succ]; rfl)
        case hfb7 => kernel_rfl
        case hrb7 => kernel_rfl
        case hyb7 => (refine Or.inl ⟨by rfl, ?_⟩; intro w hSw; (try dsimp only at hSw); have c0 := cell_keep hSw b2; go_simp; (try with_reducible rfl))
        case hQb7 => exact fun _ _ _ h => h
        (try simp only [Act.put, List.setIfInBounds_toArray, List.set_cons_zero, List.set_cons_succ])
        refine wpAnyH_ready (rs := [8]) (by kernel_rfl) (by simp) ?_
        refine AllReadyH.cons (o := ?_) ?hob8 ?hstb8 AllReadyH.nil
        case hob8 => (simp only [List.getElem?_toArray, List.getElem?_cons_zero, List.getElem?_cons_succ]; rfl)
        intro K hK
        go_simp
        go_at_call 85; refine (cmp_float_any _ _ _).mono ?_; rintro e w4 ⟨rfl, rfl⟩
        go_wp2_with fail
        refine hK.out _ _ ?hsb8 (fun hHeld => ?_)
        case hsb8 => exact hHeld
        clear hK K
        (try simp only [Act.put, List.setIfInBounds_toArray, List.set_cons_zero, List.set_cons_succ])
        refine wpAnyH_take (i := 9) (oi := ?_) (v := ?_) ?hib9 (by kernel_rfl) ?hfb9 ?hrb9 ?hQb9 ?hyb9 (by assumption) ?restb9
        case hib9 => (simp only [List.getElem?_toArray, List.getElem?_cons_zero, List.getElem?_cons_succ]; rfl)
        case hfb9 => kernel_rfl
        case hrb9 => kernel_rfl
        case hyb9 => (refine Or.inl ⟨by rfl, ?_⟩; intro w hSw; (try dsimp only at hSw); go_simp; (try with_reducible rfl))
        case hQb9 => exact fun _ _ _ h => h
        (try simp only [Act.put, List.setIfInBounds_toArray, List.set_cons_zero, List.set_cons_succ])
        refine wpAnyH_done (by kernel_rfl) ?_ _
        go_wp2
        go_ret
        exact ⟨HX.out, cp_drewN HCP.out 1⟩
    · have HX := Lib.hid (show Ending.returned (.int .i64 (cmpI I1 I2)) = .returned (.int .i64 (cmpT cmpF (n + 1) (K1, I1, F1, S1, L1) (K2, I2, F2, S2, L2))) by rw [cmpT_int hk h1])
      go_wp2_with (go_at_call 91; refine (cmp_int64_any _ _ _).mono ?_; rintro e w4 ⟨rfl, rfl⟩)
      go_ret
      exact ⟨HX.out, HCP.out⟩
  · have HX := Lib.hid (show Ending.returned (.int .i64 (cmpI (kindI K1) (kindI K2))) = .returned (.int .i64 (cmpT cmpF (n + 1) (K1, I1, F1, S1, L1) (K2, I2, F2, S2, L2))) by rw [cmpT_kind hk])
    go_wp2
    go_ret
    exact ⟨HX.out, HCP.out⟩
end Num
end Go.Proofs.Yteoimpagdgnkbaa
