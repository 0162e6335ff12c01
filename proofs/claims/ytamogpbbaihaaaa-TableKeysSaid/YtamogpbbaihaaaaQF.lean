/-
  Package table: Right, on a table that is right.
-/
import Derived.Test.YtamogpbbaihaaaaQE
import Derived.Deep.RegionHeld3
import Derived.RegionTactic
import Derived.Deep.DeepCutAuto
namespace Go.Proofs.Ytamogpbbaihaaaa
open Go.RowKit
namespace Num
open Ints
set_option linter.unusedSimpArgs false
set_option linter.unusedVariables false
/-- A table that a call may go on with. -/
def OkTab (n : Nat) (ES : List (ByteArray × VT (n + 1))) : Prop := Names (ES.map (·.1)) ∧ ES.length ≤ 32 ∧ checkM (measT (n + 3) (tableT n ES)) = 0 ∧ deepT (n + 3) (tableT n ES) 64 = false ∧ partsT (n + 3) (tableT n ES) ≤ 1000
theorem table_mem {w : World} {n : Nat} {v : Value} {ES : List (ByteArray × VT (n + 1))} (h : Rep w (n + 3) v (tableT n ES)) : ∃ p l c, v = .agg #[.int .i64 4, .int .i64 0, .float .f64 0, .string ⟨#[]⟩, .slice p l c] ∧ RepL w (Rep w (n + 2)) p l c (ES.map (pairE n)) := by
  obtain ⟨p, l, c, rfl, _, _, _, _, h⟩ := h
  exact ⟨p, l, c, rfl, h⟩
theorem pair_shape {w : World} {n : Nat} {u0 u1 u2 u3 u4 : Value} {s : ByteArray} {V : VT (n + 1)} (h : Rep w (n + 2) (.agg #[u0, u1, u2, u3, u4]) (pairT n s V)) : ∃ g o c, u0 = .int .i64 4 ∧ u1 = .int .i64 0 ∧ u2 = .float .f64 0 ∧ u3 = .string ⟨#[]⟩ ∧ u4 = .slice (some ⟨g, o, none⟩) 2 c := by
  obtain ⟨g, o, c, hv, _⟩ := pair_mem h
  injection hv with hv
  simp only [Array.mk.injEq, List.cons.injEq, and_true] at hv
  exact ⟨g, o, c, hv⟩
/-- What Right loads ahead of the first entry's test; of a later one's. -/
def R0 (n : Nat) (w : World) (sb b off l c eb g o d : Nat) (s : ByteArray) (V : VT (n + 1)) (z : World) : Prop := z.cell? ⟨eb, 0, none⟩ = some (.int .i64 4) ∧ z.cell? ⟨eb, 1, none⟩ = some (.int .i64 0) ∧ z.cell? ⟨eb, 2, none⟩ = some (.float .f64 0) ∧ z.cell? ⟨eb, 3, none⟩ = some (.string ⟨#[]⟩) ∧ z.cell? ⟨eb, 4, none⟩ = some (.slice (some ⟨g, o, none⟩) 2 d) ∧ Below w.heap.size w z ∧ Rep z (n + 2) (.agg #[.int .i64 4, .int .i64 0, .float .f64 0, .string ⟨#[]⟩, .slice (some ⟨g, o, none⟩) 2 d]) (pairT n s V) ∧ z.cell? ⟨sb, 4, none⟩ = some (.slice (some ⟨b, off, none⟩) l c)
theorem r0_step {n : Nat} {w x y : World} {sb b off l c eb g o d : Nat} {s : ByteArray} {V : VT (n + 1)} (h : R0 n w sb b off l c eb g o d s V x) (hb : Below x.heap.size x y) : R0 n w sb b off l c eb g o d s V y :=
  ⟨cell_keep hb h.1, cell_keep hb h.2.1, cell_keep hb h.2.2.1, cell_keep hb h.2.2.2.1, cell_keep hb h.2.2.2.2.1, bel_step h.2.2.2.2.2.1 hb, rep_keep hb _ _ _ h.2.2.2.2.2.2.1, cell_keep hb h.2.2.2.2.2.2.2⟩
theorem r0_drew {n : Nat} {w x : World} {sb b off l c eb g o d : Nat} {s : ByteArray} {V : VT (n + 1)} (h : R0 n w sb b off l c eb g o d s V x) : R0 n w sb b off l c eb g o d s V x.drew := r0_step h (Below.drew (Below.refl _ _))
def R1 (n : Nat) (w : World) (sb b off l c k g' o' d' : Nat) (s' : ByteArray) (V' : VT (n + 1)) (eb g o d : Nat) (s : ByteArray) (V : VT (n + 1)) (z : World) : Prop := z.cell? ⟨b, off + k * 5, none⟩ = some (.int .i64 4) ∧ z.cell? ⟨b, off + k * 5 + 1, none⟩ = some (.int .i64 0) ∧ z.cell? ⟨b, off + k * 5 + 2, none⟩ = some (.float .f64 0) ∧ z.cell? ⟨b, off + k * 5 + 3, none⟩ = some (.string ⟨#[]⟩) ∧ z.cell? ⟨b, off + k * 5 + 4, none⟩ = some (.slice (some ⟨g', o', none⟩) 2 d') ∧ Rep z (n + 2) (.agg #[.int .i64 4, .int .i64 0, .float .f64 0, .string ⟨#[]⟩, .slice (some ⟨g', o', none⟩) 2 d']) (pairT n s' V') ∧ R0 n w sb b off l c eb g o d s V z
theorem r1_step {n : Nat} {w x y : World} {sb b off l c k g' o' d' : Nat} {s' : ByteArray} {V' : VT (n + 1)} {eb g o d : Nat} {s : ByteArray} {V : VT (n + 1)} (h : R1 n w sb b off l c k g' o' d' s' V' eb g o d s V x) (hb : Below x.heap.size x y) : R1 n w sb b off l c k g' o' d' s' V' eb g o d s V y :=
  ⟨cell_keep hb h.1, cell_keep hb h.2.1, cell_keep hb h.2.2.1, cell_keep hb h.2.2.2.1, cell_keep hb h.2.2.2.2.1, rep_keep hb _ _ _ h.2.2.2.2.2.1, r0_step h.2.2.2.2.2.2 hb⟩
theorem r1_drew {n : Nat} {w x : World} {sb b off l c k g' o' d' : Nat} {s' : ByteArray} {V' : VT (n + 1)} {eb g o d : Nat} {s : ByteArray} {V : VT (n + 1)} (h : R1 n w sb b off l c k g' o' d' s' V' eb g o d s V x) : R1 n w sb b off l c k g' o' d' s' V' eb g o d s V x.drew := r1_step h (Below.drew (Below.refl _ _))
set_option maxRecDepth 100000 in
set_option maxHeartbeats 4000000 in
theorem tright_any (n : Nat) (v : Value) (ES : List (ByteArray × VT (n + 1))) (w : World) (hr : Rep w (n + 3) v (tableT n ES)) (hok : OkTab n ES) : Calls Try.prog 15 #[v] w fun e w' => e = .returned (.bool true) ∧ Below w.heap.size w w' := by
  obtain ⟨hnm, hl32, hc, hd, hp⟩ := hok
  have HC := fun W (hb : Below w.heap.size w W) => (show Calls Try.prog 37 #[v] W fun e w' => e = .returned (.int .i64 0) ∧ Below W.heap.size W w' by
    obtain ⟨K, I, F, Z, q, m, d, rfl, _⟩ := rep_shape hr
    have h := check_any (n + 3) K I F Z q m d _ W (rep_keep hb _ _ _ hr) hd hp
    rw [hc] at h
    exact h)
  have HCH := Lib.hid HC
  obtain ⟨p, l, c, rfl, hrl⟩ := table_mem hr
  have HRL := Lib.hid hrl
  have HLEN := Lib.hid (show ES.length = l by have := hrl.1; rw [List.length_map] at this; exact this)
  have HNMS := Lib.hid hnm
  have hl : (l : Int) ≤ 32 := by have := HLEN.out; omega
  have hl0 : (0 : Int) ≤ (l : Int) := by omega
  obtain ⟨oa, hoa⟩ : ∃ o, Obj.cells #[.int .i64 4, .int .i64 0, .float .f64 0, .string ⟨#[]⟩, .slice p l c] 27 = o := ⟨_, rfl⟩
  have HB := Lib.hid (bel_alloc (Below.refl w.heap.size w) oa)
  have ra := row_alloc w #[.int .i64 4, .int .i64 0, .float .f64 0, .string ⟨#[]⟩, .slice p l c] 27
  rw [hoa] at ra
  have HRA := Lib.hid ra
  subst hoa
  clear ra hrl hnm hc hd hp hl32 hr HC
  go_enter Try.func15, Try.ntmps15
  go_wp2_with fail
  go_at_call 37; refine (HCH.out _ HB.out).mono ?_; rintro e w1 ⟨rfl, hb1⟩
  have HB1 := Lib.hid (bel_step HB.out hb1)
  have xa := row_step HRA.out hb1
  have HRA1 := Lib.hid xa
  have a0 := row_cell xa 0; have a4 := row_cell xa 4
  simp only [List.getElem?_toArray, List.getElem?_cons_zero, List.getElem?_cons_succ] at a0 a4
  clear hb1 HB HRA HCH xa
  go_wp2
  clear a0 a4
  go_loopw [22] (fun iv wr => ∃ i : Nat, i ≤ l ∧ iv = .int .i64 i ∧ Below w.heap.size w wr ∧ wr.cell? ⟨w.heap.size, 4, none⟩ = some (.slice p l c)) (fun iv _ => l - (intOf iv).toNat)
  case atStart => exact ⟨0, by omega, rfl, HB1.out, row_cell HRA1.out 4⟩
  case round =>
    obtain ⟨i, hil, rfl, hB, hS⟩ := hrel
    by_cases hlt : i < l
    · obtain ⟨b, off, hpb, hit⟩ := HRL.out.2.2.2 (by omega)
      subst hpb
      have hei : i < ES.length := by have := HLEN.out; omega
      obtain ⟨v0, v1, v2, v3, v4, c0, c1, c2, c3, c4, hre⟩ := hit i (by rw [List.length_map]; exact hei)
      rw [List.getElem_map] at hre
      obtain ⟨⟨SS, VV⟩, hsv⟩ : ∃ e, e = ES[i] := ⟨_, rfl⟩
      rw [← hsv] at hre
      have hre' : Rep w (n + 2) (.agg #[v0, v1, v2, v3, v4]) (pairT n SS VV) := hre
      have hmem : i < (ES.map (·.1)).length := by rw [List.length_map]; exact hei
      have hs1 : (ES.map (·.1))[i] = SS := by rw [List.getElem_map, ← hsv]
      have HNM := Lib.hid (show nmV 3 SS = true from HNMS.out.1 SS (by rw [← hs1]; exact List.getElem_mem hmem))
      obtain ⟨g, o, d, rfl, rfl, rfl, rfl, rfl⟩ := pair_shape hre'
      have e0 := cell_keep hB c0; have e1 := cell_keep hB c1; have e2 := cell_keep hB c2; have e3 := cell_keep hB c3; have e4 := cell_keep hB c4
      have elt := cell_lt e0
      have hslt := cell_lt hS
      have hi0 : (0 : Int) ≤ (i : Int) := by omega
      have hil2 : (i : Int) < (l : Int) := by omega
      have hAL := bel_alloc (Below.refl wr.heap.size wr) (.cells #[.int .i64 4, .int .i64 0, .float .f64 0, .string ⟨#[]⟩, .slice (some ⟨g, o, none⟩) 2 d] 27)
      have HB2 := Lib.hid (bel_step hB hAL)
      have hR0 : R0 n w w.heap.size b off l c wr.heap.size g o d SS VV (wr.alloc (.cells #[.int .i64 4, .int .i64 0, .float .f64 0, .string ⟨#[]⟩, .slice (some ⟨g, o, none⟩) 2 d] 27)) := by
        have hcs := cs_row (row_alloc wr #[.int .i64 4, .int .i64 0, .float .f64 0, .string ⟨#[]⟩, .slice (some ⟨g, o, none⟩) 2 d] 27)
        exact ⟨hcs.1, hcs.2.1, hcs.2.2.1, hcs.2.2.2.1, hcs.2.2.2.2, HB2.out, rep_keep HB2.out _ _ _ hre', cell_keep hAL hS⟩
      rcases Nat.eq_zero_or_pos i with h0 | h0
      · subst h0
        have HE := Lib.hid hR0
        simp only [Nat.zero_mul, Nat.add_zero] at e0 e1 e2 e3 e4
        clear c0 c1 c2 c3 c4 hit hre hre' hR0 hAL
        go_upto_region 6 with fail
        clear e0 e1 e2 e3 e4
        refine wp_region_held_drew (S := (fun z => z.cell? ⟨wr.heap.size, 0, none⟩ = some (.int .i64 4) ∧ z.cell? ⟨wr.heap.size, 1, none⟩ = some (.int .i64 0) ∧ z.cell? ⟨wr.heap.size, 2, none⟩ = some (.float .f64 0) ∧ z.cell? ⟨wr.heap.size, 3, none⟩ = some (.string ⟨#[]⟩) ∧ z.cell? ⟨wr.heap.size, 4, none⟩ = some (.slice (some ⟨g, o, none⟩) 2 d) ∧ Below w.heap.size w z ∧ Rep z (n + 2) (.agg #[.int .i64 4, .int .i64 0, .float .f64 0, .string ⟨#[]⟩, .slice (some ⟨g, o, none⟩) 2 d]) (pairT n SS VV) ∧ z.cell? ⟨w.heap.size, 4, none⟩ = some (.slice (some ⟨b, off, none⟩) l c))) (by kernel_rfl) ?_ (fun hHeld => ?_)
        · exact r0_drew HE.out
        refine wpAnyH_take (i := 0) (oi := ?_) (v := ?_) ?hia0 (by kernel_rfl) ?hfa0 ?hra0 ?hQa0 ?hya0 (by assumption) ?resta0
        case hia0 => (simp only [List.getElem?_toArray, List.getElem?_cons_zero, List.getElem?_cons_succ]; rfl)
        case hfa0 => kernel_rfl
        case hra0 => kernel_rfl
        case hya0 => (refine Or.inl ⟨by rfl, ?_⟩; intro wS hSw; (try dsimp only at hSw); go_simp; (try with_reducible rfl))
        case hQa0 => exact fun _ _ _ h => h
        (try simp only [Act.put, List.setIfInBounds_toArray, List.set_cons_zero, List.set_cons_succ])
        refine wpAnyH_ready (rs := [1]) (by kernel_rfl) (by simp) ?_
        refine AllReadyH.cons (o := ?_) ?hoa1 ?hsta1 AllReadyH.nil
        case hoa1 => (simp only [List.getElem?_toArray, List.getElem?_cons_zero, List.getElem?_cons_succ]; rfl)
        intro K hK
        go_simp
        go_at_call 38; refine (isEntry_any n _ SS VV _ (show R0 n w w.heap.size b off l c wr.heap.size g o d SS VV _ from hHeld).2.2.2.2.2.2.1 HNM.out).mono ?_; rintro e w4 ⟨rfl, hb4⟩; have he4 := r0_step (show R0 n w w.heap.size b off l c wr.heap.size g o d SS VV _ from hHeld) hb4; clear hb4
        go_wp2_with fail
        refine hK.out _ _ ?hsa1 (fun hHeld => ?_)
        case hsa1 => exact he4
        clear hK K
        (try simp only [Act.put, List.setIfInBounds_toArray, List.set_cons_zero, List.set_cons_succ])
        refine wpAnyH_take (i := 2) (oi := ?_) (v := ?_) ?hia2 (by kernel_rfl) ?hfa2 ?hra2 ?hQa2 ?hya2 (by assumption) ?resta2
        case hia2 => (simp only [List.getElem?_toArray, List.getElem?_cons_zero, List.getElem?_cons_succ]; rfl)
        case hfa2 => kernel_rfl
        case hra2 => kernel_rfl
        case hya2 => (refine Or.inl ⟨by rfl, ?_⟩; intro wS hSw; (try dsimp only at hSw); go_simp; (try with_reducible rfl))
        case hQa2 => exact fun _ _ _ h => h
        (try simp only [Act.put, List.setIfInBounds_toArray, List.set_cons_zero, List.set_cons_succ])
        refine wpAnyH_take (i := 3) (oi := ?_) (v := ?_) ?hia3 (by kernel_rfl) ?hfa3 ?hra3 ?hQa3 ?hya3 (by assumption) ?resta3
        case hia3 => (simp only [List.getElem?_toArray, List.getElem?_cons_zero, List.getElem?_cons_succ]; rfl)
        case hfa3 => kernel_rfl
        case hra3 => kernel_rfl
        case hya3 => (refine Or.inl ⟨by rfl, ?_⟩; intro wS hSw; (try dsimp only at hSw); go_simp; (try with_reducible rfl))
        case hQa3 => exact fun _ _ _ h => h
        (try simp only [Act.put, List.setIfInBounds_toArray, List.set_cons_zero, List.set_cons_succ])
        refine wpAnyH_take (i := 4) (oi := ?_) (v := ?_) ?hia4 (by kernel_rfl) ?hfa4 ?hra4 ?hQa4 ?hya4 (by assumption) ?resta4
        case hia4 => (simp only [List.getElem?_toArray, List.getElem?_cons_zero, List.getElem?_cons_succ]; rfl)
        case hfa4 => kernel_rfl
        case hra4 => kernel_rfl
        case hya4 => (refine Or.inl ⟨by rfl, ?_⟩; intro wS hSw; (try dsimp only at hSw); go_simp; (try with_reducible rfl))
        case hQa4 => exact fun _ _ _ h => h
        (try simp only [Act.put, List.setIfInBounds_toArray, List.set_cons_zero, List.set_cons_succ])
        refine wpAnyH_take (i := 5) (oi := ?_) (v := ?_) ?hia5 (by kernel_rfl) ?hfa5 ?hra5 ?hQa5 ?hya5 (by assumption) ?resta5
        case hia5 => (simp only [List.getElem?_toArray, List.getElem?_cons_zero, List.getElem?_cons_succ]; rfl)
        case hfa5 => kernel_rfl
        case hra5 => kernel_rfl
        case hya5 => (refine Or.inl ⟨by rfl, ?_⟩; intro wS hSw; (try dsimp only at hSw); go_simp; (try with_reducible rfl))
        case hQa5 => exact fun _ _ _ h => h
        (try simp only [Act.put, List.setIfInBounds_toArray, List.set_cons_zero, List.set_cons_succ])
        refine wpAnyH_take (i := 6) (oi := ?_) (v := ?_) ?hia6 (by kernel_rfl) ?hfa6 ?hra6 ?hQa6 ?hya6 (by assumption) ?resta6
        case hia6 => (simp only [List.getElem?_toArray, List.getElem?_cons_zero, List.getElem?_cons_succ]; rfl)
        case hfa6 => kernel_rfl
        case hra6 => kernel_rfl
        case hya6 => (refine Or.inl ⟨by rfl, ?_⟩; intro wS hSw; (try dsimp only at hSw); go_simp; (try with_reducible rfl))
        case hQa6 => exact fun _ _ _ h => h
        (try simp only [Act.put, List.setIfInBounds_toArray, List.set_cons_zero, List.set_cons_succ])
        refine wpAnyH_take (i := 7) (oi := ?_) (v := undef) ?hia7 (by kernel_rfl) ?hfa7 ?hra7 ?hQa7 ?hya7 (by assumption) ?resta7
        case hia7 => (simp only [List.getElem?_toArray, List.getElem?_cons_zero, List.getElem?_cons_succ]; rfl)
        case hfa7 => kernel_rfl
        case hra7 => kernel_rfl
        case hya7 => exact Or.inr ⟨by rfl, rfl⟩
        case hQa7 => exact fun _ _ _ h => h
        (try simp only [Act.put, List.setIfInBounds_toArray, List.set_cons_zero, List.set_cons_succ])
        refine wpAnyH_take (i := 8) (oi := ?_) (v := undef) ?hia8 (by kernel_rfl) ?hfa8 ?hra8 ?hQa8 ?hya8 (by assumption) ?resta8
        case hia8 => (simp only [List.getElem?_toArray, List.getElem?_cons_zero, List.getElem?_cons_succ]; rfl)
        case hfa8 => kernel_rfl
        case hra8 => kernel_rfl
        case hya8 => exact Or.inr ⟨by rfl, rfl⟩
        case hQa8 => exact fun _ _ _ h => h
        (try simp only [Act.put, List.setIfInBounds_toArray, List.set_cons_zero, List.set_cons_succ])
        refine wpAnyH_take (i := 9) (oi := ?_) (v := undef) ?hia9 (by kernel_rfl) ?hfa9 ?hra9 ?hQa9 ?hya9 (by assumption) ?resta9
        case hia9 => (simp only [List.getElem?_toArray, List.getElem?_cons_zero, List.getElem?_cons_succ]; rfl)
        case hfa9 => kernel_rfl
        case hra9 => kernel_rfl
        case hya9 => exact Or.inr ⟨by rfl, rfl⟩
        case hQa9 => exact fun _ _ _ h => h
        (try simp only [Act.put, List.setIfInBounds_toArray, List.set_cons_zero, List.set_cons_succ])
        refine wpAnyH_take (i := 10) (oi := ?_) (v := undef) ?hia10 (by kernel_rfl) ?hfa10 ?hra10 ?hQa10 ?hya10 (by assumption) ?resta10
        case hia10 => (simp only [List.getElem?_toArray, List.getElem?_cons_zero, List.getElem?_cons_succ]; rfl)
        case hfa10 => kernel_rfl
        case hra10 => kernel_rfl
        case hya10 => exact Or.inr ⟨by rfl, rfl⟩
        case hQa10 => exact fun _ _ _ h => h
        (try simp only [Act.put, List.setIfInBounds_toArray, List.set_cons_zero, List.set_cons_succ])
        refine wpAnyH_take (i := 11) (oi := ?_) (v := undef) ?hia11 (by kernel_rfl) ?hfa11 ?hra11 ?hQa11 ?hya11 (by assumption) ?resta11
        case hia11 => (simp only [List.getElem?_toArray, List.getElem?_cons_zero, List.getElem?_cons_succ]; rfl)
        case hfa11 => kernel_rfl
        case hra11 => kernel_rfl
        case hya11 => exact Or.inr ⟨by rfl, rfl⟩
        case hQa11 => exact fun _ _ _ h => h
        (try simp only [Act.put, List.setIfInBounds_toArray, List.set_cons_zero, List.set_cons_succ])
        refine wpAnyH_take (i := 12) (oi := ?_) (v := undef) ?hia12 (by kernel_rfl) ?hfa12 ?hra12 ?hQa12 ?hya12 (by assumption) ?resta12
        case hia12 => (simp only [List.getElem?_toArray, List.getElem?_cons_zero, List.getElem?_cons_succ]; rfl)
        case hfa12 => kernel_rfl
        case hra12 => kernel_rfl
        case hya12 => exact Or.inr ⟨by rfl, rfl⟩
        case hQa12 => exact fun _ _ _ h => h
        (try simp only [Act.put, List.setIfInBounds_toArray, List.set_cons_zero, List.set_cons_succ])
        refine wpAnyH_take (i := 13) (oi := ?_) (v := undef) ?hia13 (by kernel_rfl) ?hfa13 ?hra13 ?hQa13 ?hya13 (by assumption) ?resta13
        case hia13 => (simp only [List.getElem?_toArray, List.getElem?_cons_zero, List.getElem?_cons_succ]; rfl)
        case hfa13 => kernel_rfl
        case hra13 => kernel_rfl
        case hya13 => exact Or.inr ⟨by rfl, rfl⟩
        case hQa13 => exact fun _ _ _ h => h
        (try simp only [Act.put, List.setIfInBounds_toArray, List.set_cons_zero, List.set_cons_succ])
        refine wpAnyH_take (i := 14) (oi := ?_) (v := undef) ?hia14 (by kernel_rfl) ?hfa14 ?hra14 ?hQa14 ?hya14 (by assumption) ?resta14
        case hia14 => (simp only [List.getElem?_toArray, List.getElem?_cons_zero, List.getElem?_cons_succ]; rfl)
        case hfa14 => kernel_rfl
        case hra14 => kernel_rfl
        case hya14 => exact Or.inr ⟨by rfl, rfl⟩
        case hQa14 => exact fun _ _ _ h => h
        (try simp only [Act.put, List.setIfInBounds_toArray, List.set_cons_zero, List.set_cons_succ])
        refine wpAnyH_take (i := 15) (oi := ?_) (v := undef) ?hia15 (by kernel_rfl) ?hfa15 ?hra15 ?hQa15 ?hya15 (by assumption) ?resta15
        case hia15 => (simp only [List.getElem?_toArray, List.getElem?_cons_zero, List.getElem?_cons_succ]; rfl)
        case hfa15 => kernel_rfl
        case hra15 => kernel_rfl
        case hya15 => exact Or.inr ⟨by rfl, rfl⟩
        case hQa15 => exact fun _ _ _ h => h
        (try simp only [Act.put, List.setIfInBounds_toArray, List.set_cons_zero, List.set_cons_succ])
        refine wpAnyH_take (i := 16) (oi := ?_) (v := undef) ?hia16 (by kernel_rfl) ?hfa16 ?hra16 ?hQa16 ?hya16 (by assumption) ?resta16
        case hia16 => (simp only [List.getElem?_toArray, List.getElem?_cons_zero, List.getElem?_cons_succ]; rfl)
        case hfa16 => kernel_rfl
        case hra16 => kernel_rfl
        case hya16 => exact Or.inr ⟨by rfl, rfl⟩
        case hQa16 => exact fun _ _ _ h => h
        (try simp only [Act.put, List.setIfInBounds_toArray, List.set_cons_zero, List.set_cons_succ])
        refine wpAnyH_take (i := 17) (oi := ?_) (v := ?_) ?hia17 (by kernel_rfl) ?hfa17 ?hra17 ?hQa17 ?hya17 (by assumption) ?resta17
        case hia17 => (simp only [List.getElem?_toArray, List.getElem?_cons_zero, List.getElem?_cons_succ]; rfl)
        case hfa17 => kernel_rfl
        case hra17 => kernel_rfl
        case hya17 => (refine Or.inl ⟨by rfl, ?_⟩; intro wS hSw; (try dsimp only at hSw); go_simp; (try with_reducible rfl))
        case hQa17 => exact fun _ _ _ h => h
        (try simp only [Act.put, List.setIfInBounds_toArray, List.set_cons_zero, List.set_cons_succ])
        refine wpAnyH_take (i := 18) (oi := ?_) (v := ?_) ?hia18 (by kernel_rfl) ?hfa18 ?hra18 ?hQa18 ?hya18 (by assumption) ?resta18
        case hia18 => (simp only [List.getElem?_toArray, List.getElem?_cons_zero, List.getElem?_cons_succ]; rfl)
        case hfa18 => kernel_rfl
        case hra18 => kernel_rfl
        case hya18 => (refine Or.inl ⟨by rfl, ?_⟩; intro wS hSw; (try dsimp only at hSw); go_simp; (try with_reducible rfl))
        case hQa18 => exact fun _ _ _ h => h
        (try simp only [Act.put, List.setIfInBounds_toArray, List.set_cons_zero, List.set_cons_succ])
        refine wpAnyH_done (by kernel_rfl) ?_ _
        have HF := Lib.hid (show R0 n w w.heap.size b off l c wr.heap.size g o d SS VV w4 from he4)
        go_wp2
        go_roundw
        case rel => exact ⟨0 + 1, by omega, by go_num, HF.out.2.2.2.2.2.1, HF.out.2.2.2.2.2.2.2⟩
        case measure => simp [intOf]; omega
      · obtain ⟨k, rfl⟩ : ∃ k, i = k + 1 := ⟨i - 1, by omega⟩
        obtain ⟨u0, u1, u2, u3, u4, d0, d1, d2, d3, d4, hrp⟩ := hit k (by rw [List.length_map]; omega)
        rw [List.getElem_map] at hrp
        obtain ⟨⟨S2, V2⟩, hsv2⟩ : ∃ e, e = ES[k]'(by omega) := ⟨_, rfl⟩
        rw [← hsv2] at hrp
        have hrp' : Rep w (n + 2) (.agg #[u0, u1, u2, u3, u4]) (pairT n S2 V2) := hrp
        have hs2 : (ES.map (·.1))[k]'(by rw [List.length_map]; omega) = S2 := by rw [List.getElem_map, ← hsv2]
        have HLT := Lib.hid (show ltB S2 SS = true by rw [← hs1, ← hs2]; exact HNMS.out.2 k (k + 1) _ _ (by omega))
        obtain ⟨g', o', d', rfl, rfl, rfl, rfl, rfl⟩ := pair_shape hrp'
        have hcc := fun {a : Addr} {v : Value} (h : w.cell? a = some v) => cell_keep HB2.out h
        have HE := Lib.hid (show R1 n w w.heap.size b off l c k g' o' d' S2 V2 wr.heap.size g o d SS VV (wr.alloc (.cells #[.int .i64 4, .int .i64 0, .float .f64 0, .string ⟨#[]⟩, .slice (some ⟨g, o, none⟩) 2 d] 27)) from ⟨hcc d0, hcc d1, hcc d2, hcc d3, hcc d4, rep_keep HB2.out _ _ _ hrp', hR0⟩)
        have hx0 : Op.bytesLess S2.toList SS.toList = true := HLT.out
        have hw1 : IntKind.i64.wrap (k : Int) = (k : Int) := by rw [IntKind.wrap_i64]; omega
        have hw2 : wrap64 (k : Int) = (k : Int) := by unfold wrap64; omega
        have hk0 : (0 : Int) < ((k + 1 : Nat) : Int) := by omega
        have hk1 : (k : Int) < (l : Int) := by omega
        have hk2 : (0 : Int) ≤ (k : Int) := by omega
        have dlt := cell_lt (hcc d0)
        clear c0 c1 c2 c3 c4 hit hre hre' hR0 hAL d0 d1 d2 d3 d4 hrp hrp' hcc
        go_upto_region 6 with fail
        clear e0 e1 e2 e3 e4
        refine wp_region_held_drew (S := (fun z => z.cell? ⟨b, off + k * 5, none⟩ = some (.int .i64 4) ∧ z.cell? ⟨b, off + k * 5 + 1, none⟩ = some (.int .i64 0) ∧ z.cell? ⟨b, off + k * 5 + 2, none⟩ = some (.float .f64 0) ∧ z.cell? ⟨b, off + k * 5 + 3, none⟩ = some (.string ⟨#[]⟩) ∧ z.cell? ⟨b, off + k * 5 + 4, none⟩ = some (.slice (some ⟨g', o', none⟩) 2 d') ∧ Rep z (n + 2) (.agg #[.int .i64 4, .int .i64 0, .float .f64 0, .string ⟨#[]⟩, .slice (some ⟨g', o', none⟩) 2 d']) (pairT n S2 V2) ∧ z.cell? ⟨wr.heap.size, 0, none⟩ = some (.int .i64 4) ∧ z.cell? ⟨wr.heap.size, 1, none⟩ = some (.int .i64 0) ∧ z.cell? ⟨wr.heap.size, 2, none⟩ = some (.float .f64 0) ∧ z.cell? ⟨wr.heap.size, 3, none⟩ = some (.string ⟨#[]⟩) ∧ z.cell? ⟨wr.heap.size, 4, none⟩ = some (.slice (some ⟨g, o, none⟩) 2 d) ∧ Below w.heap.size w z ∧ Rep z (n + 2) (.agg #[.int .i64 4, .int .i64 0, .float .f64 0, .string ⟨#[]⟩, .slice (some ⟨g, o, none⟩) 2 d]) (pairT n SS VV) ∧ z.cell? ⟨w.heap.size, 4, none⟩ = some (.slice (some ⟨b, off, none⟩) l c))) (by kernel_rfl) ?_ (fun hHeld => ?_)
        · exact r1_drew HE.out
        refine wpAnyH_take (i := 0) (oi := ?_) (v := ?_) ?hib0 (by kernel_rfl) ?hfb0 ?hrb0 ?hQb0 ?hyb0 (by assumption) ?restb0
        case hib0 => (simp only [List.getElem?_toArray, List.getElem?_cons_zero, List.getElem?_cons_succ]; rfl)
        case hfb0 => kernel_rfl
        case hrb0 => kernel_rfl
        case hyb0 => (refine Or.inl ⟨by rfl, ?_⟩; intro wS hSw; (try dsimp only at hSw); go_simp; (try with_reducible rfl))
        case hQb0 => exact fun _ _ _ h => h
        (try simp only [Act.put, List.setIfInBounds_toArray, List.set_cons_zero, List.set_cons_succ])
        refine wpAnyH_ready (rs := [1]) (by kernel_rfl) (by simp) ?_
        refine AllReadyH.cons (o := ?_) ?hob1 ?hstb1 AllReadyH.nil
        case hob1 => (simp only [List.getElem?_toArray, List.getElem?_cons_zero, List.getElem?_cons_succ]; rfl)
        intro K hK
        go_simp
        go_at_call 38; refine (isEntry_any n _ SS VV _ (show R1 n w w.heap.size b off l c k g' o' d' S2 V2 wr.heap.size g o d SS VV _ from hHeld).2.2.2.2.2.2.2.2.2.2.2.2.1 HNM.out).mono ?_; rintro e w4 ⟨rfl, hb4⟩; have he4 := r1_step (show R1 n w w.heap.size b off l c k g' o' d' S2 V2 wr.heap.size g o d SS VV _ from hHeld) hb4; clear hb4
        go_wp2_with fail
        refine hK.out _ _ ?hsb1 (fun hHeld => ?_)
        case hsb1 => exact he4
        clear hK K
        (try simp only [Act.put, List.setIfInBounds_toArray, List.set_cons_zero, List.set_cons_succ])
        refine wpAnyH_take (i := 2) (oi := ?_) (v := ?_) ?hib2 (by kernel_rfl) ?hfb2 ?hrb2 ?hQb2 ?hyb2 (by assumption) ?restb2
        case hib2 => (simp only [List.getElem?_toArray, List.getElem?_cons_zero, List.getElem?_cons_succ]; rfl)
        case hfb2 => kernel_rfl
        case hrb2 => kernel_rfl
        case hyb2 => (refine Or.inl ⟨by rfl, ?_⟩; intro wS hSw; (try dsimp only at hSw); go_simp; (try with_reducible rfl))
        case hQb2 => exact fun _ _ _ h => h
        (try simp only [Act.put, List.setIfInBounds_toArray, List.set_cons_zero, List.set_cons_succ])
        refine wpAnyH_take (i := 3) (oi := ?_) (v := ?_) ?hib3 (by kernel_rfl) ?hfb3 ?hrb3 ?hQb3 ?hyb3 (by assumption) ?restb3
        case hib3 => (simp only [List.getElem?_toArray, List.getElem?_cons_zero, List.getElem?_cons_succ]; rfl)
        case hfb3 => kernel_rfl
        case hrb3 => kernel_rfl
        case hyb3 => (refine Or.inl ⟨by rfl, ?_⟩; intro wS hSw; (try dsimp only at hSw); go_simp; (try with_reducible rfl))
        case hQb3 => exact fun _ _ _ h => h
        (try simp only [Act.put, List.setIfInBounds_toArray, List.set_cons_zero, List.set_cons_succ])
        refine wpAnyH_take (i := 4) (oi := ?_) (v := ?_) ?hib4 (by kernel_rfl) ?hfb4 ?hrb4 ?hQb4 ?hyb4 (by assumption) ?restb4
        case hib4 => (simp only [List.getElem?_toArray, List.getElem?_cons_zero, List.getElem?_cons_succ]; rfl)
        case hfb4 => kernel_rfl
        case hrb4 => kernel_rfl
        case hyb4 => (refine Or.inl ⟨by rfl, ?_⟩; intro wS hSw; (try dsimp only at hSw); go_simp; (try with_reducible rfl))
        case hQb4 => exact fun _ _ _ h => h
        (try simp only [Act.put, List.setIfInBounds_toArray, List.set_cons_zero, List.set_cons_succ])
        refine wpAnyH_take (i := 5) (oi := ?_) (v := ?_) ?hib5 (by kernel_rfl) ?hfb5 ?hrb5 ?hQb5 ?hyb5 (by assumption) ?restb5
        case hib5 => (simp only [List.getElem?_toArray, List.getElem?_cons_zero, List.getElem?_cons_succ]; rfl)
        case hfb5 => kernel_rfl
        case hrb5 => kernel_rfl
        case hyb5 => (refine Or.inl ⟨by rfl, ?_⟩; intro wS hSw; (try dsimp only at hSw); go_simp; (try with_reducible rfl))
        case hQb5 => exact fun _ _ _ h => h
        (try simp only [Act.put, List.setIfInBounds_toArray, List.set_cons_zero, List.set_cons_succ])
        refine wpAnyH_take (i := 6) (oi := ?_) (v := ?_) ?hib6 (by kernel_rfl) ?hfb6 ?hrb6 ?hQb6 ?hyb6 (by assumption) ?restb6
        case hib6 => (simp only [List.getElem?_toArray, List.getElem?_cons_zero, List.getElem?_cons_succ]; rfl)
        case hfb6 => kernel_rfl
        case hrb6 => kernel_rfl
        case hyb6 => (refine Or.inl ⟨by rfl, ?_⟩; intro wS hSw; (try dsimp only at hSw); go_simp; (try with_reducible rfl))
        case hQb6 => exact fun _ _ _ h => h
        (try simp only [Act.put, List.setIfInBounds_toArray, List.set_cons_zero, List.set_cons_succ])
        refine wpAnyH_take (i := 7) (oi := ?_) (v := ?_) ?hib7 (by kernel_rfl) ?hfb7 ?hrb7 ?hQb7 ?hyb7 (by assumption) ?restb7
        case hib7 => (simp only [List.getElem?_toArray, List.getElem?_cons_zero, List.getElem?_cons_succ]; rfl)
        case hfb7 => kernel_rfl
        case hrb7 => kernel_rfl
        case hyb7 => (refine Or.inl ⟨by rfl, ?_⟩; intro wS hSw; (try dsimp only at hSw); go_simp; (try with_reducible rfl))
        case hQb7 => exact fun _ _ _ h => h
        (try simp only [Act.put, List.setIfInBounds_toArray, List.set_cons_zero, List.set_cons_succ])
        refine wpAnyH_take (i := 8) (oi := ?_) (v := ?_) ?hib8 (by kernel_rfl) ?hfb8 ?hrb8 ?hQb8 ?hyb8 (by assumption) ?restb8
        case hib8 => (simp only [List.getElem?_toArray, List.getElem?_cons_zero, List.getElem?_cons_succ]; rfl)
        case hfb8 => kernel_rfl
        case hrb8 => kernel_rfl
        case hyb8 => (refine Or.inl ⟨by rfl, ?_⟩; intro wS hSw; (try dsimp only at hSw); go_simp; (try with_reducible rfl))
        case hQb8 => exact fun _ _ _ h => h
        (try simp only [Act.put, List.setIfInBounds_toArray, List.set_cons_zero, List.set_cons_succ])
        refine wpAnyH_take (i := 9) (oi := ?_) (v := ?_) ?hib9 (by kernel_rfl) ?hfb9 ?hrb9 ?hQb9 ?hyb9 (by assumption) ?restb9
        case hib9 => (simp only [List.getElem?_toArray, List.getElem?_cons_zero, List.getElem?_cons_succ]; rfl)
        case hfb9 => kernel_rfl
        case hrb9 => kernel_rfl
        case hyb9 => (refine Or.inl ⟨by rfl, ?_⟩; intro wS hSw; (try dsimp only at hSw); go_simp; (try with_reducible rfl))
        case hQb9 => exact fun _ _ _ h => h
        (try simp only [Act.put, List.setIfInBounds_toArray, List.set_cons_zero, List.set_cons_succ])
        refine wpAnyH_take (i := 10) (oi := ?_) (v := ?_) ?hib10 (by kernel_rfl) ?hfb10 ?hrb10 ?hQb10 ?hyb10 (by assumption) ?restb10
        case hib10 => (simp only [List.getElem?_toArray, List.getElem?_cons_zero, List.getElem?_cons_succ]; rfl)
        case hfb10 => kernel_rfl
        case hrb10 => kernel_rfl
        case hyb10 => (refine Or.inl ⟨by rfl, ?_⟩; intro wS hSw; (try dsimp only at hSw); go_simp; (try with_reducible rfl))
        case hQb10 => exact fun _ _ _ h => h
        (try simp only [Act.put, List.setIfInBounds_toArray, List.set_cons_zero, List.set_cons_succ])
        refine wpAnyH_take (i := 11) (oi := ?_) (v := ?_) ?hib11 (by kernel_rfl) ?hfb11 ?hrb11 ?hQb11 ?hyb11 (by assumption) ?restb11
        case hib11 => (simp only [List.getElem?_toArray, List.getElem?_cons_zero, List.getElem?_cons_succ]; rfl)
        case hfb11 => kernel_rfl
        case hrb11 => kernel_rfl
        case hyb11 => (refine Or.inl ⟨by rfl, ?_⟩; intro wS hSw; (try dsimp only at hSw); go_simp; (try with_reducible rfl))
        case hQb11 => exact fun _ _ _ h => h
        (try simp only [Act.put, List.setIfInBounds_toArray, List.set_cons_zero, List.set_cons_succ])
        refine wpAnyH_take (i := 12) (oi := ?_) (v := ?_) ?hib12 (by kernel_rfl) ?hfb12 ?hrb12 ?hQb12 ?hyb12 (by assumption) ?restb12
        case hib12 => (simp only [List.getElem?_toArray, List.getElem?_cons_zero, List.getElem?_cons_succ]; rfl)
        case hfb12 => kernel_rfl
        case hrb12 => kernel_rfl
        case hyb12 => (refine Or.inl ⟨by rfl, ?_⟩; intro wS hSw; (try dsimp only at hSw); go_simp; (try with_reducible rfl))
        case hQb12 => exact fun _ _ _ h => h
        (try simp only [Act.put, List.setIfInBounds_toArray, List.set_cons_zero, List.set_cons_succ])
        refine wpAnyH_take (i := 14) (oi := ?_) (v := ?_) ?hib14 (by kernel_rfl) ?hfb14 ?hrb14 ?hQb14 ?hyb14 (by assumption) ?restb14
        case hib14 => (simp only [List.getElem?_toArray, List.getElem?_cons_zero, List.getElem?_cons_succ]; rfl)
        case hfb14 => kernel_rfl
        case hrb14 => kernel_rfl
        case hyb14 => (refine Or.inl ⟨by rfl, ?_⟩; intro wS hSw; (try dsimp only at hSw); go_simp; (try with_reducible rfl))
        case hQb14 => exact fun _ _ _ h => h
        (try simp only [Act.put, List.setIfInBounds_toArray, List.set_cons_zero, List.set_cons_succ])
        refine wpAnyH_ready (rs := [13]) (by kernel_rfl) (by simp) ?_
        refine AllReadyH.cons (o := ?_) ?hob13 ?hstb13 AllReadyH.nil
        case hob13 => (simp only [List.getElem?_toArray, List.getElem?_cons_zero, List.getElem?_cons_succ]; rfl)
        intro K hK
        go_simp
        go_at_call 39; refine (nameOf_any _ _ _ _ _ _ _ S2 _ (by decide) (pair_name he4.2.2.2.2.2.1).2.2.2.2.2).mono ?_; rintro e w5 ⟨rfl, hb5⟩; have he5 := r1_step he4 hb5; clear hb5
        go_wp2_with fail
        refine hK.out _ _ ?hsb13 (fun hHeld => ?_)
        case hsb13 => exact he5
        clear hK K
        (try simp only [Act.put, List.setIfInBounds_toArray, List.set_cons_zero, List.set_cons_succ])
        refine wpAnyH_ready (rs := [15]) (by kernel_rfl) (by simp) ?_
        refine AllReadyH.cons (o := ?_) ?hob15 ?hstb15 AllReadyH.nil
        case hob15 => (simp only [List.getElem?_toArray, List.getElem?_cons_zero, List.getElem?_cons_succ]; rfl)
        intro K hK
        go_simp
        go_at_call 39; refine (nameOf_any _ _ _ _ _ _ _ SS _ (by decide) (pair_name he5.2.2.2.2.2.2.2.2.2.2.2.2.1).2.2.2.2.2).mono ?_; rintro e w6 ⟨rfl, hb5⟩; have he6 := r1_step he5 hb5; clear hb5
        go_wp2_with fail
        refine hK.out _ _ ?hsb15 (fun hHeld => ?_)
        case hsb15 => exact he6
        clear hK K
        (try simp only [Act.put, List.setIfInBounds_toArray, List.set_cons_zero, List.set_cons_succ])
        refine wpAnyH_take (i := 16) (oi := ?_) (v := ?_) ?hib16 (by kernel_rfl) ?hfb16 ?hrb16 ?hQb16 ?hyb16 (by assumption) ?restb16
        case hib16 => (simp only [List.getElem?_toArray, List.getElem?_cons_zero, List.getElem?_cons_succ]; rfl)
        case hfb16 => kernel_rfl
        case hrb16 => kernel_rfl
        case hyb16 => (refine Or.inl ⟨by rfl, ?_⟩; intro wS hSw; (try dsimp only at hSw); go_simp; (try with_reducible rfl))
        case hQb16 => exact fun _ _ _ h => h
        (try simp only [Act.put, List.setIfInBounds_toArray, List.set_cons_zero, List.set_cons_succ])
        refine wpAnyH_take (i := 17) (oi := ?_) (v := ?_) ?hib17 (by kernel_rfl) ?hfb17 ?hrb17 ?hQb17 ?hyb17 (by assumption) ?restb17
        case hib17 => (simp only [List.getElem?_toArray, List.getElem?_cons_zero, List.getElem?_cons_succ]; rfl)
        case hfb17 => kernel_rfl
        case hrb17 => kernel_rfl
        case hyb17 => (refine Or.inl ⟨by rfl, ?_⟩; intro wS hSw; (try dsimp only at hSw); go_simp; (try with_reducible rfl))
        case hQb17 => exact fun _ _ _ h => h
        (try simp only [Act.put, List.setIfInBounds_toArray, List.set_cons_zero, List.set_cons_succ])
        refine wpAnyH_take (i := 18) (oi := ?_) (v := ?_) ?hib18 (by kernel_rfl) ?hfb18 ?hrb18 ?hQb18 ?hyb18 (by assumption) ?restb18
        case hib18 => (simp only [List.getElem?_toArray, List.getElem?_cons_zero, List.getElem?_cons_succ]; rfl)
        case hfb18 => kernel_rfl
        case hrb18 => kernel_rfl
        case hyb18 => (refine Or.inl ⟨by rfl, ?_⟩; intro wS hSw; (try dsimp only at hSw); go_simp; (try with_reducible rfl))
        case hQb18 => exact fun _ _ _ h => h
        (try simp only [Act.put, List.setIfInBounds_toArray, List.set_cons_zero, List.set_cons_succ])
        refine wpAnyH_done (by kernel_rfl) ?_ _
        have HF := Lib.hid (show R1 n w w.heap.size b off l c k g' o' d' S2 V2 wr.heap.size g o d SS VV w6 from he6)
        go_wp2
        go_roundw
        case rel => exact ⟨k + 1 + 1, by omega, by go_num, HF.out.2.2.2.2.2.2.2.2.2.2.2.1, HF.out.2.2.2.2.2.2.2.2.2.2.2.2.2⟩
        case measure => simp [intOf]; omega
    · obtain rfl : i = l := by omega
      go_wp2
      go_ret
      exact ⟨rfl, hB⟩
end Num
end Go.Proofs.Ytamogpbbaihaaaa
