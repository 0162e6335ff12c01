/-
  What the reference puts of a value: bytes; blocks of values are kept.
-/
import Derived.Test.YtomfgncbdgifoaaJp8UA
import Derived.Test.YtomfgncbdgifoaaJp9WE
import Derived.Test.YtomfgncbdgifoaaJp3VTree
import Derived.Deep.RegionWith
import Derived.RegionTactic
import Derived.Deep.RegionLaw
namespace Go.Proofs.Ytomfgncbdgifoaa
open Go.RowKit
namespace Num
open Ints
set_option linter.unusedSimpArgs false
set_option linter.unusedVariables false
/-- Blocks of values stay. -/
def KeepV (w w' : World) : Prop := ∀ (x : Nat) (vs : Array Value), w.heap[x]? = some (.cells vs 47 (0, 0)) → w'.heap[x]? = some (.cells vs 47 (0, 0))
theorem kv_refl (w : World) : KeepV w w := fun _ _ h => h
theorem kv_trans {a b c : World} (h : KeepV a b) (k : KeepV b c) : KeepV a c := fun x vs hx => k x vs (h x vs hx)
theorem kv_bel {w w' : World} (hb : Below w.heap.size w w') : KeepV w w' := fun x vs hx => row_step hx hb
theorem kv_alloc (w : World) (o : Obj) : KeepV w (w.alloc o) := kv_bel ((Below.refl _ _).alloc (Nat.le_refl _) o)
theorem kv_own {W0 w w' : World} {p : Option Addr} {l c : Nat} {X : List Int} (h : OwB W0 w p l c X) (hg : w.grownBy w' (Value.slice p l c).ownBlock) : KeepV w w' := by
  intro x vs hx
  have hlt := row_lt hx
  rw [hg.block x hlt ?_]
  · exact hx
  · intro he
    rcases h.2.1.2 with ⟨hv, _⟩ | ⟨g, cap, cur, hv, _, hcur, _⟩
    · rw [hv] at he; cases he
    · rw [hv] at he
      simp only [Value.ownBlock, Option.some.injEq] at he
      subst he
      rw [hx] at hcur
      simp at hcur
section
variable {ops : Array Oper} {rest : List Oper} {o : Oper} {a : Act} {Q : Exit → Act → World → Prop}
theorem wp_kb1 (hgd : o.guard = none) (s x : Operand) (ho : o.op = .call { callee := .builtin .append, args := #[s, x], argTypes := #[22, 22] })
    (W0 w : World) (p : Option Addr) (l c : Nat) (X : List Int) (n : Int) (hs : a.eval s = .slice p l c) (hx : a.eval x = .slice (some ⟨w.heap.size, 0, none⟩) 1 1) (hb : OwB W0 w p l c X) (hl : l ≤ 1000000)
    (h : ∀ p' c' w', OwB W0 w' p' (l + 1) c' (X ++ [n]) → KeepV w w' → wpList Try.prog ops Q rest (a.put o.dst (.slice p' (l + 1) c')) w') : wpList Try.prog ops Q (o :: rest) a (w.alloc (.cells #[.int .u8 n] 5)) :=
  wp_ob1 hgd s x ho W0 w p l c X n hs hx hb hl fun p' c' w' h1 h2 => h p' c' w' h1 (kv_trans (kv_alloc w _) (kv_own (ow_alloc hb _) h2))
theorem wp_kin1 (hgd : o.guard = none) (s x : Operand) (ho : o.op = .call { callee := .builtin .append, args := #[s, x], argTypes := #[22, 22] })
    (W0 w : World) (p : Option Addr) (l c : Nat) (X : List Int) (n : Int) (hs : a.eval s = .slice p l c) (hx : a.eval x = .slice (some ⟨w.heap.size, 0, none⟩) 1 1) (hb : InB W0 w p l c X) (hl : l ≤ 1000000)
    (h : ∀ p' c' w', OwB W0 w' p' (l + 1) c' (X ++ [n]) → KeepV w w' → wpList Try.prog ops Q rest (a.put o.dst (.slice p' (l + 1) c')) w') : wpList Try.prog ops Q (o :: rest) a (w.alloc (.cells #[.int .u8 n] 5)) := by
  rcases hb with hb | ⟨rfl, hb, hB, hle⟩
  · exact wp_kb1 hgd s x ho W0 w p l c X n hs hx hb hl h
  · exact wp_tb1 hgd s x ho w p c X n hs hx hb hl (fun p' c' w' h1 hg => h p' c' w' (ow_base hB h1) (kv_trans (kv_alloc w _) fun y vs hy => by rw [hg.block y (row_lt hy) (by simp)]; exact hy))
theorem wp_kbS (hgd : o.guard = none) (s x : Operand) (ho : o.op = .call { callee := .builtin .append, args := #[s, x], argTypes := #[22, 9] })
    (W0 w : World) (p : Option Addr) (l c : Nat) (X : List Int) (t : ByteArray) (hs : a.eval s = .slice p l c) (hx : a.eval x = .string t) (hb : OwB W0 w p l c X) (hl : l ≤ 1000000) (ht : t.size ≤ 1000000)
    (h : ∀ p' c' w', OwB W0 w' p' (l + t.size) c' (X ++ t.data.toList.map fun b => (b.toNat : Int)) → KeepV w w' → wpList Try.prog ops Q rest (a.put o.dst (.slice p' (l + t.size) c')) w') : wpList Try.prog ops Q (o :: rest) a w :=
  wp_obS hgd s x ho W0 w p l c X t hs hx hb hl ht fun p' c' w' h1 h2 => h p' c' w' h1 (kv_own hb h2)
/-- A string behind what is owned: a step of a region that draws. -/
theorem step_kbS {K : Act → World → Prop} {E : Prop} (hgd : o.guard = none) (s x : Operand) (ho : o.op = .call { callee := .builtin .append, args := #[s, x], argTypes := #[22, 9] })
    (W0 w : World) (p : Option Addr) (l c : Nat) (X : List Int) (t : ByteArray) (hs : a.eval s = .slice p l c) (hx : a.eval x = .string t) (hb : OwB W0 w p l c X) (hl : l ≤ 1000000) (ht : t.size ≤ 1000000)
    (h : ∀ p' c' w', OwB W0 w' p' (l + t.size) c' (X ++ t.data.toList.map fun b => (b.toNat : Int)) → KeepV w w' → K (a.put o.dst (.slice p' (l + t.size) c')) w') :
    if Region.wanted o (yielded ops a.tmps) = true then Oper.wp Try.prog o a w K Q else E := by
  have hw : Region.wanted o (yielded ops a.tmps) = true := by simp [Region.wanted, hgd]
  rw [if_pos hw]
  obtain ⟨i0, hi, hz0, hz1, hz2⟩ := info_parts info_b8
  obtain ⟨v', w', hr, hown, hg, _⟩ := Lib.run_append_own_string (P := Try.prog) (w := w) W0.heap.size 22 9 o.type 5 i0 Try.underlying22 Try.underlying9 hi hz0 hz1 hz2 (.slice p l c) l (X.map (Value.int .u8)) hb.2.1 t (by unfold maxLen; omega) (by omega) hb.2.2.2
  obtain ⟨p', c', rfl, hn⟩ := ow_grown hb (Y := t.data.toList.map fun b => (b.toNat : Int)) (m := t.size) (by rw [List.length_map, Array.length_toList]; rfl) (by
    have e : Lib.strCells t = (t.data.toList.map fun b => (b.toNat : Int)).map (Value.int .u8) := by unfold Lib.strCells; rw [List.map_map]; rfl
    rw [← e]; exact hown) hg
  unfold Oper.wp execOp
  simp only [ho, resolve, invoke, builtin, Sem.run_bind, Sem.run_pure, Result.andThen_ok, List.map_toArray, List.map_cons, List.map_nil, hs, hx, hr]
  exact h p' c' w' hn (kv_own hb hg)
end
set_option maxHeartbeats 1000000 in
theorem kputU_at (W0 w : World) (p : Option Addr) (l c : Nat) (X : List Int) (u : Int) (k : Nat) (hu0 : 0 ≤ u) (hu1 : u < 18446744073709551616) (hk : k ≤ 8) (hb : OwB W0 w p l c X) (hl : l ≤ 900010) :
    Calls Try.prog 52 #[.slice p l c, .int .u64 u, .int .i64 k] w fun e w' => ∃ p' c', e = .returned (.slice p' (l + k) c') ∧ OwB W0 w' p' (l + k) c' (X ++ beI u k) ∧ KeepV w w' := by
  have HB := Lib.hid hb
  clear hb
  go_enter Try.func52, Try.ntmps52
  go_wp2
  go_loopw [0, 7] (fun v i wr => ∃ (r l' : Nat) (p' : Option Addr) (c' : Nat) (Z : List Int), r ≤ k ∧ i = .int .i64 ((r : Int) - 1) ∧ v = .slice p' l' c' ∧ OwB W0 wr p' l' c' Z ∧ KeepV w wr ∧ Z ++ beI u r = X ++ beI u k ∧ l' + r = l + k) (fun _ i _ => (intOf i + 1).toNat)
  case atStart => exact ⟨k, l, p, c, X, Nat.le_refl _, rfl, rfl, HB.out, kv_refl w, rfl, rfl⟩
  case round =>
    obtain ⟨r, l', p', c', Z, hr, rfl, rfl, ho, hkv, hz, hlr⟩ := hrel
    have HO := Lib.hid ho
    have HV := Lib.hid hkv
    have HZ := Lib.hid hz
    have HL := Lib.hid hlr
    have hl' : l' ≤ 990000 := by omega
    clear ho hz hlr hkv
    by_cases h0 : 1 ≤ r
    · obtain ⟨m, rfl⟩ : ∃ m, r = m + 1 := ⟨r - 1, by omega⟩
      rw [show (((m + 1 : Nat) : Int) - 1) = (m : Int) by omega]
      go_wp2_with (at_builtin; refine wp_kb1 rfl _ _ rfl W0 wr p' l' c' Z _ rfl rfl HO.out (by omega) ?_; intro p2 c2 w2 ho2 hv2)
      have HO2 := Lib.hid ho2
      have HV2 := Lib.hid (kv_trans HV.out hv2)
      clear ho2 hv2
      go_roundw
      case rel => exact ⟨m, l' + 1, p2, c2, _, by omega, rfl, rfl, HO2.out, HV2.out, by rw [List.append_assoc]; exact HZ.out, by have := HL.out; omega⟩
      case measure => simp [intOf]
    · obtain rfl : r = 0 := by omega
      have hZ : Z = X ++ beI u k := by have := HZ.out; rw [beI, List.append_nil] at this; exact this
      have hL : l' = l + k := by have := HL.out; omega
      have HO2 := Lib.hid (show OwB W0 wr p' (l + k) c' (X ++ beI u k) by rw [← hL, ← hZ]; exact HO.out)
      have HR := Lib.hid (show Ending.returned (.slice p' l' c') = .returned (.slice p' (l + k) c') by rw [hL])
      clear hZ hL HZ
      go_wp2
      go_ret
      exact ⟨p', c', HR.out, HO2.out, HV.out⟩
theorem size_bytes (S : ByteArray) : S.size = S.data.size := rfl
/-- A value's bytes. -/
def encV : (n : Nat) → VT n → List Int
  | 0, _ => []
  | n + 1, T => if (T.1 == 1) = true then 1 :: beI (IntKind.u64.wrap T.2.1) 8 else if (T.1 == 2) = true then 2 :: beI (Flo.canon T.2.2.1 : Int) 8
      else if (T.1 == 3) = true then 3 :: (beI (T.2.2.2.1.size : Int) 2 ++ T.2.2.2.1.data.toList.map fun b => (b.toNat : Int))
      else if (T.1 == 4) = true then 4 :: IntKind.u8.wrap (T.2.2.2.2.length : Int) :: T.2.2.2.2.flatMap (encV n) else [0]
theorem text_len (S : ByteArray) : (3 :: (beI (S.size : Int) 2 ++ S.data.toList.map fun b => (b.toNat : Int))).length = 2 + S.size + 1 := by rw [List.length_cons, List.length_append, beI_len, List.length_map, Array.length_toList, ← size_bytes S]
def PutPost (W0 w : World) (l : Nat) (X Y : List Int) (e : Ending) (w' : World) : Prop := ∃ p' c', e = .returned (.slice p' (l + Y.length) c') ∧ OwB W0 w' p' (l + Y.length) c' (X ++ Y) ∧ KeepV w w'
theorem put_text_post {W0 w w' : World} {p : Option Addr} {l c : Nat} {X : List Int} {S : ByteArray} {u : Int} (hu : u = (S.size : Int)) (ho : OwB W0 w' p (l + 1 + 2 + S.size) c ((X ++ [3] ++ beI u 2) ++ S.data.toList.map fun b => (b.toNat : Int))) (hv : KeepV w w') : PutPost W0 w l X (3 :: (beI (S.size : Int) 2 ++ S.data.toList.map fun b => (b.toNat : Int))) (.returned (.slice p (l + 1 + 2 + S.size) c)) w' := by
  subst hu
  refine ⟨p, c, ?_, ?_, hv⟩
  · rw [text_len, show l + (2 + S.size + 1) = l + 1 + 2 + S.size by omega]
  · rw [text_len, show l + (2 + S.size + 1) = l + 1 + 2 + S.size by omega]
    rw [List.append_assoc, List.append_assoc] at ho
    exact ho
set_option maxRecDepth 100000 in
set_option maxHeartbeats 4000000 in
theorem put_int (W0 w : World) (p : Option Addr) (l c : Nat) (X : List Int) (I : Int) (F : Nat) (S : ByteArray) (q : Option Addr) (m d : Nat) (hb : InB W0 w p l c X) (hl : l ≤ 900000) (hI : okI I) (hF : F < 18446744073709551616) (hS : True) :
    Calls Try.prog 62 #[.slice p l c, .agg #[.int .i64 1, .int .i64 I, .float .f64 F, .string S, .slice q m d]] w (PutPost W0 w l X (1 :: beI (IntKind.u64.wrap I) 8)) := by
  have HO := Lib.hid (in_keep hb ((Below.refl w.heap.size w).alloc (Nat.le_refl _) (.cells #[.int .i64 1, .int .i64 I, .float .f64 F, .string S, .slice q m d] 47)))
  have HV := Lib.hid (kv_alloc w (.cells #[.int .i64 1, .int .i64 I, .float .f64 F, .string S, .slice q m d] 47))
  have RB := Lib.hid (row_alloc w #[.int .i64 1, .int .i64 I, .float .f64 F, .string S, .slice q m d] 47)
  clear hb
  go_enter Try.func62, Try.ntmps62
  go_wp2_with (at_builtin; refine wp_kin1 rfl (.tmp 15) (.tmp 18) rfl W0 _ p l c X 1 rfl (congrArg (fun z => Value.slice (some ⟨z, 0, none⟩) 1 1) (World.size_alloc w (.cells #[.int .i64 1, .int .i64 I, .float .f64 F, .string S, .slice q m d] 47)).symm) HO.out (by omega) ?_; intro p2 c2 w2 ho2 hv2; have HO2 := Lib.hid ho2; have HV2 := Lib.hid (kv_trans HV.out hv2); have HVB := Lib.hid hv2; have RB2 := hv2 _ _ RB.out; have r1 := row_cell RB2 1; have r2 := row_cell RB2 2; have r3 := row_cell RB2 3; simp only [List.getElem?_toArray, List.getElem?_cons_zero, List.getElem?_cons_succ] at r1 r2 r3; clear ho2 hv2 RB2)
  go_at_call 52; refine (kputU_at W0 _ _ _ _ _ (IntKind.u64.wrap I) 8 (by rw [Go.IntKind.wrap_u64]; omega) (by rw [Go.IntKind.wrap_u64]; omega) (by omega) HO2.out (by omega)).mono ?_; rintro e w3 ⟨p3, c3, rfl, ho3, hv3⟩
  have HO3 := Lib.hid (show OwB W0 w3 p3 (l + 9) c3 (X ++ 1 :: beI (IntKind.u64.wrap I) 8) by have h := ho3; rw [List.append_assoc] at h; exact h)
  have HV3 := Lib.hid (kv_trans HV2.out hv3)
  clear ho3 hv3
  go_wp2
  go_ret
  exact ⟨p3, c3, (by rw [List.length_cons, beI_len]; rfl), by rw [List.length_cons, beI_len]; exact HO3.out, HV3.out⟩
set_option maxRecDepth 100000 in
set_option maxHeartbeats 4000000 in
theorem put_flo (W0 w : World) (p : Option Addr) (l c : Nat) (X : List Int) (I : Int) (F : Nat) (S : ByteArray) (q : Option Addr) (m d : Nat) (hb : InB W0 w p l c X) (hl : l ≤ 900000) (hI : okI I) (hF : F < 18446744073709551616) (hS : True) :
    Calls Try.prog 62 #[.slice p l c, .agg #[.int .i64 2, .int .i64 I, .float .f64 F, .string S, .slice q m d]] w (PutPost W0 w l X (2 :: beI (Flo.canon F : Int) 8)) := by
  have HO := Lib.hid (in_keep hb ((Below.refl w.heap.size w).alloc (Nat.le_refl _) (.cells #[.int .i64 2, .int .i64 I, .float .f64 F, .string S, .slice q m d] 47)))
  have HV := Lib.hid (kv_alloc w (.cells #[.int .i64 2, .int .i64 I, .float .f64 F, .string S, .slice q m d] 47))
  have RB := Lib.hid (row_alloc w #[.int .i64 2, .int .i64 I, .float .f64 F, .string S, .slice q m d] 47)
  clear hb
  go_enter Try.func62, Try.ntmps62
  go_wp2_with (at_builtin; refine wp_kin1 rfl (.tmp 15) (.tmp 18) rfl W0 _ p l c X 2 rfl (congrArg (fun z => Value.slice (some ⟨z, 0, none⟩) 1 1) (World.size_alloc w (.cells #[.int .i64 2, .int .i64 I, .float .f64 F, .string S, .slice q m d] 47)).symm) HO.out (by omega) ?_; intro p2 c2 w2 ho2 hv2; have HO2 := Lib.hid ho2; have HV2 := Lib.hid (kv_trans HV.out hv2); have HVB := Lib.hid hv2; have RB2 := hv2 _ _ RB.out; have r1 := row_cell RB2 1; have r2 := row_cell RB2 2; have r3 := row_cell RB2 3; simp only [List.getElem?_toArray, List.getElem?_cons_zero, List.getElem?_cons_succ] at r1 r2 r3; clear ho2 hv2 RB2)
  go_at_call 70; refine (bits_ref_any _ _).mono ?_; rintro e w3 ⟨rfl, rfl⟩
  go_wp2_with fail
  go_at_call 52; refine (kputU_at W0 _ _ _ _ _ (Flo.canon F : Int) 8 (by omega) (by have := Flo.canon_lt (x := F) hF; omega) (by omega) HO2.out (by omega)).mono ?_; rintro e w4 ⟨p3, c3, rfl, ho3, hv3⟩
  have HO3 := Lib.hid (show OwB W0 w4 p3 (l + 9) c3 (X ++ 2 :: beI (Flo.canon F : Int) 8) by have h := ho3; rw [List.append_assoc] at h; exact h)
  have HV3 := Lib.hid (kv_trans HV2.out hv3)
  clear ho3 hv3
  go_wp2
  go_ret
  exact ⟨p3, c3, (by rw [List.length_cons, beI_len]; rfl), by rw [List.length_cons, beI_len]; exact HO3.out, HV3.out⟩
set_option maxRecDepth 100000 in
set_option maxHeartbeats 4000000 in
theorem put_text (W0 w : World) (p : Option Addr) (l c : Nat) (X : List Int) (I : Int) (F : Nat) (S : ByteArray) (q : Option Addr) (m d : Nat) (hb : InB W0 w p l c X) (hl : l ≤ 900000) (hI : okI I) (hF : F < 18446744073709551616) (hS : S.size ≤ 900000) :
    Calls Try.prog 62 #[.slice p l c, .agg #[.int .i64 3, .int .i64 I, .float .f64 F, .string S, .slice q m d]] w (PutPost W0 w l X (3 :: (beI (S.size : Int) 2 ++ S.data.toList.map fun b => (b.toNat : Int)))) := by
  have HO := Lib.hid (in_keep hb ((Below.refl w.heap.size w).alloc (Nat.le_refl _) (.cells #[.int .i64 3, .int .i64 I, .float .f64 F, .string S, .slice q m d] 47)))
  have HV := Lib.hid (kv_alloc w (.cells #[.int .i64 3, .int .i64 I, .float .f64 F, .string S, .slice q m d] 47))
  have RB := Lib.hid (row_alloc w #[.int .i64 3, .int .i64 I, .float .f64 F, .string S, .slice q m d] 47)
  clear hb
  go_enter Try.func62, Try.ntmps62
  go_wp2_with (at_builtin; refine wp_kin1 rfl (.tmp 15) (.tmp 18) rfl W0 _ p l c X 3 rfl (congrArg (fun z => Value.slice (some ⟨z, 0, none⟩) 1 1) (World.size_alloc w (.cells #[.int .i64 3, .int .i64 I, .float .f64 F, .string S, .slice q m d] 47)).symm) HO.out (by omega) ?_; intro p2 c2 w2 ho2 hv2; have HO2 := Lib.hid ho2; have HV2 := Lib.hid (kv_trans HV.out hv2); have HVB := Lib.hid hv2; have RB2 := hv2 _ _ RB.out; have r1 := row_cell RB2 1; have r2 := row_cell RB2 2; have r3 := row_cell RB2 3; simp only [List.getElem?_toArray, List.getElem?_cons_zero, List.getElem?_cons_succ] at r1 r2 r3; clear ho2 hv2 RB2)
  have HOd := Lib.hid (show OwB W0 w2.drew p2 (l + 1) c2 (X ++ [3]) from ⟨HO2.out.1, HO2.out.2.1, Below.drew HO2.out.2.2.1, HO2.out.2.2.2⟩)
  have RBd := Lib.hid (HVB.out _ _ RB.out)
  have HWr := Lib.hid (show IntKind.u64.wrap (S.size : Int) = (S.size : Int) by rw [Go.IntKind.wrap_u64]; omega)
  have HK := Lib.hid (kputU_at W0 w2.drew p2 (l + 1) c2 (X ++ [3]) (IntKind.u64.wrap (S.size : Int)) 2 (by rw [HWr.out]; omega) (by rw [HWr.out]; omega) (by omega) HOd.out (by omega))
  have HSB := Lib.hid (show S.size ≤ 1000000 from Nat.le_trans hS (by decide))
  have HLB := Lib.hid (show l + 1 + 2 ≤ 1000000 by omega)
  clear hS hl r1 r2
  go_region_law (first
    | (go_simp; go_at_call 52; refine HK.out.mono ?_; rintro e w3 ⟨p3, c3, rfl, ho3, hv3⟩; have HO3 := Lib.hid ho3; have HV3 := Lib.hid (show KeepV w w3 from kv_trans HV2.out hv3); have s3 := row_cell (hv3 _ _ (show w2.drew.heap[w.heap.size]? = _ from RBd.out)) 3; (simp only [List.getElem?_toArray, List.getElem?_cons_zero, List.getElem?_cons_succ] at s3); clear ho3 hv3)
    | (refine step_kbS (by rfl) (.tmp 42) (.tmp 44) (by rfl) W0 w3 p3 (l + 1 + 2) c3 _ S (by rfl) (by rfl) HO3.out HLB.out HSB.out ?_; intro p4 c4 w4 ho4 hv4; have PF4 := Lib.hid (put_text_post HWr.out ho4 (kv_trans HV3.out hv4)); clear ho4 hv4))
  all_goals
    clear HOd RBd HO3 HV3 HK HWr HSB HLB
    go_wp2
    go_ret
    exact PF4.out
set_option maxRecDepth 100000 in
set_option maxHeartbeats 4000000 in
theorem put_low (W0 w : World) (p : Option Addr) (l c : Nat) (X : List Int) (K I : Int) (F : Nat) (S : ByteArray) (q : Option Addr) (m d : Nat) (hb : InB W0 w p l c X) (hl : l ≤ 900000) (hI : okI I) (hF : F < 18446744073709551616) (hK : K < 0) (hS : True) :
    Calls Try.prog 62 #[.slice p l c, .agg #[.int .i64 K, .int .i64 I, .float .f64 F, .string S, .slice q m d]] w (PutPost W0 w l X ([0])) := by
  have HO := Lib.hid (in_keep hb ((Below.refl w.heap.size w).alloc (Nat.le_refl _) (.cells #[.int .i64 K, .int .i64 I, .float .f64 F, .string S, .slice q m d] 47)))
  have HV := Lib.hid (kv_alloc w (.cells #[.int .i64 K, .int .i64 I, .float .f64 F, .string S, .slice q m d] 47))
  have RB := Lib.hid (row_alloc w #[.int .i64 K, .int .i64 I, .float .f64 F, .string S, .slice q m d] 47)
  clear hb
  go_enter Try.func62, Try.ntmps62
  go_wp2_with (at_builtin; refine wp_kin1 rfl (.tmp 15) (.tmp 18) rfl W0 _ p l c X 0 rfl (congrArg (fun z => Value.slice (some ⟨z, 0, none⟩) 1 1) (World.size_alloc w (.cells #[.int .i64 K, .int .i64 I, .float .f64 F, .string S, .slice q m d] 47)).symm) HO.out (by omega) ?_; intro p2 c2 w2 ho2 hv2; have HO2 := Lib.hid ho2; have HV2 := Lib.hid (kv_trans HV.out hv2); have HVB := Lib.hid hv2; have RB2 := hv2 _ _ RB.out; have r1 := row_cell RB2 1; have r2 := row_cell RB2 2; have r3 := row_cell RB2 3; simp only [List.getElem?_toArray, List.getElem?_cons_zero, List.getElem?_cons_succ] at r1 r2 r3; clear ho2 hv2 RB2)
  go_ret
  exact ⟨p2, c2, rfl, HO2.out, HV2.out⟩
set_option maxRecDepth 100000 in
set_option maxHeartbeats 4000000 in
theorem put_high (W0 w : World) (p : Option Addr) (l c : Nat) (X : List Int) (K I : Int) (F : Nat) (S : ByteArray) (q : Option Addr) (m d : Nat) (hb : InB W0 w p l c X) (hl : l ≤ 900000) (hI : okI I) (hF : F < 18446744073709551616) (hK : 4 < K) (hS : True) :
    Calls Try.prog 62 #[.slice p l c, .agg #[.int .i64 K, .int .i64 I, .float .f64 F, .string S, .slice q m d]] w (PutPost W0 w l X ([0])) := by
  have HO := Lib.hid (in_keep hb ((Below.refl w.heap.size w).alloc (Nat.le_refl _) (.cells #[.int .i64 K, .int .i64 I, .float .f64 F, .string S, .slice q m d] 47)))
  have HV := Lib.hid (kv_alloc w (.cells #[.int .i64 K, .int .i64 I, .float .f64 F, .string S, .slice q m d] 47))
  have RB := Lib.hid (row_alloc w #[.int .i64 K, .int .i64 I, .float .f64 F, .string S, .slice q m d] 47)
  clear hb
  go_enter Try.func62, Try.ntmps62
  go_wp2_with (at_builtin; refine wp_kin1 rfl (.tmp 15) (.tmp 18) rfl W0 _ p l c X 0 rfl (congrArg (fun z => Value.slice (some ⟨z, 0, none⟩) 1 1) (World.size_alloc w (.cells #[.int .i64 K, .int .i64 I, .float .f64 F, .string S, .slice q m d] 47)).symm) HO.out (by omega) ?_; intro p2 c2 w2 ho2 hv2; have HO2 := Lib.hid ho2; have HV2 := Lib.hid (kv_trans HV.out hv2); have HVB := Lib.hid hv2; have RB2 := hv2 _ _ RB.out; have r1 := row_cell RB2 1; have r2 := row_cell RB2 2; have r3 := row_cell RB2 3; simp only [List.getElem?_toArray, List.getElem?_cons_zero, List.getElem?_cons_succ] at r1 r2 r3; clear ho2 hv2 RB2)
  go_ret
  exact ⟨p2, c2, rfl, HO2.out, HV2.out⟩
set_option maxRecDepth 100000 in
set_option maxHeartbeats 4000000 in
theorem put_nil (W0 w : World) (p : Option Addr) (l c : Nat) (X : List Int) (I : Int) (F : Nat) (S : ByteArray) (q : Option Addr) (m d : Nat) (hb : InB W0 w p l c X) (hl : l ≤ 900000) (hI : okI I) (hF : F < 18446744073709551616)  (hS : True) :
    Calls Try.prog 62 #[.slice p l c, .agg #[.int .i64 0, .int .i64 I, .float .f64 F, .string S, .slice q m d]] w (PutPost W0 w l X ([0])) := by
  have HO := Lib.hid (in_keep hb ((Below.refl w.heap.size w).alloc (Nat.le_refl _) (.cells #[.int .i64 0, .int .i64 I, .float .f64 F, .string S, .slice q m d] 47)))
  have HV := Lib.hid (kv_alloc w (.cells #[.int .i64 0, .int .i64 I, .float .f64 F, .string S, .slice q m d] 47))
  have RB := Lib.hid (row_alloc w #[.int .i64 0, .int .i64 I, .float .f64 F, .string S, .slice q m d] 47)
  clear hb
  go_enter Try.func62, Try.ntmps62
  go_wp2_with (at_builtin; refine wp_kin1 rfl (.tmp 15) (.tmp 18) rfl W0 _ p l c X 0 rfl (congrArg (fun z => Value.slice (some ⟨z, 0, none⟩) 1 1) (World.size_alloc w (.cells #[.int .i64 0, .int .i64 I, .float .f64 F, .string S, .slice q m d] 47)).symm) HO.out (by omega) ?_; intro p2 c2 w2 ho2 hv2; have HO2 := Lib.hid ho2; have HV2 := Lib.hid (kv_trans HV.out hv2); have HVB := Lib.hid hv2; have RB2 := hv2 _ _ RB.out; have r1 := row_cell RB2 1; have r2 := row_cell RB2 2; have r3 := row_cell RB2 3; simp only [List.getElem?_toArray, List.getElem?_cons_zero, List.getElem?_cons_succ] at r1 r2 r3; clear ho2 hv2 RB2)
  go_ret
  exact ⟨p2, c2, rfl, HO2.out, HV2.out⟩
end Num
end Go.Proofs.Ytomfgncbdgifoaa
/-
  What the reference puts of any value.
-/
namespace Go.Proofs.Ytomfgncbdgifoaa
open Go.RowKit
namespace Num
open Ints
set_option linter.unusedSimpArgs false
set_option linter.unusedVariables false
def listY (n m : Nat) (L : List (VT n)) (k : Nat) : List Int := 4 :: IntKind.u8.wrap (m : Int) :: (L.take k).flatMap (encV n)
theorem listY_succ {n m k : Nat} {L : List (VT n)} (h : k < L.length) : listY n m L (k + 1) = listY n m L k ++ encV n L[k] := by
  unfold listY
  rw [List.take_succ_eq_append_getElem h, List.flatMap_append]
  simp
theorem listY_le {n m k : Nat} {L : List (VT n)} : (listY n m L k).length ≤ 2 + (L.flatMap (encV n)).length := by
  unfold listY
  rw [List.length_cons, List.length_cons]
  have h : L.flatMap (encV n) = (L.take k).flatMap (encV n) ++ (L.drop k).flatMap (encV n) := by rw [← List.flatMap_append, List.take_append_drop]
  rw [h, List.length_append]
  omega
theorem listY_all {n m : Nat} {K I : Int} {F : Nat} {S : ByteArray} {L : List (VT n)} (h4 : K = 4) (h : L.length = m) : listY n m L m = encV (n + 1) (K, I, F, S, L) := by
  subst h4
  subst h
  unfold listY
  rw [List.take_length]
  rfl
def PutAny (n : Nat) : Prop := ∀ (v : Value) (T : VT n) (W0 w : World) (p : Option Addr) (l c : Nat) (X : List Int), Rep W0 n v T → InB W0 w p l c X → l + (encV n T).length ≤ 900000 → Calls Try.prog 62 #[.slice p l c, v] w (PutPost W0 w l X (encV n T))
set_option maxRecDepth 100000 in
set_option maxHeartbeats 4000000 in
theorem put_list (n : Nat) (ih : PutAny n) (W0 w : World) (p : Option Addr) (l c : Nat) (X : List Int) (I : Int) (F : Nat) (S : ByteArray) (L : List (VT n)) (q : Option Addr) (m d : Nat) (hb : InB W0 w p l c X) (hl : L.length = m) (hel : 0 < m → ∃ b off, q = some ⟨b, off, none⟩ ∧ ∀ i (h : i < L.length), ∃ v0 v1 v2 v3 v4, W0.cell? ⟨b, off + i * 5, none⟩ = some v0 ∧ W0.cell? ⟨b, off + i * 5 + 1, none⟩ = some v1 ∧ W0.cell? ⟨b, off + i * 5 + 2, none⟩ = some v2 ∧ W0.cell? ⟨b, off + i * 5 + 3, none⟩ = some v3 ∧ W0.cell? ⟨b, off + i * 5 + 4, none⟩ = some v4 ∧ Rep W0 n (.agg #[v0, v1, v2, v3, v4]) L[i]) (hmd : m ≤ d) (hd : d ≤ 9223372036854775807) (hlen : l + (2 + (L.flatMap (encV n)).length) ≤ 900000) :
    Calls Try.prog 62 #[.slice p l c, .agg #[.int .i64 4, .int .i64 I, .float .f64 F, .string S, .slice q m d]] w (PutPost W0 w l X (listY n m L m)) := by
  have IH := Lib.hid ih
  have HO := Lib.hid (in_keep hb ((Below.refl w.heap.size w).alloc (Nat.le_refl _) (.cells #[.int .i64 4, .int .i64 I, .float .f64 F, .string S, .slice q m d] 47)))
  have HV := Lib.hid (kv_alloc w (.cells #[.int .i64 4, .int .i64 I, .float .f64 F, .string S, .slice q m d] 47))
  have RB := Lib.hid (row_alloc w #[.int .i64 4, .int .i64 I, .float .f64 F, .string S, .slice q m d] 47)
  have HE := Lib.hid hel
  have HL := Lib.hid hl
  have HN := Lib.hid hlen
  have hl8 : l ≤ 900000 := by omega
  clear hb ih hel hl hlen
  go_enter Try.func62, Try.ntmps62
  go_wp2_with (first
    | (at_builtin; refine wp_kin1 rfl (.tmp 15) (.tmp 18) rfl W0 _ p l c X 4 rfl (congrArg (fun z => Value.slice (some ⟨z, 0, none⟩) 1 1) (World.size_alloc w (.cells #[.int .i64 4, .int .i64 I, .float .f64 F, .string S, .slice q m d] 47)).symm) HO.out (by omega) ?_; intro p2 c2 w2 ho2 hv2; have HO2 := Lib.hid ho2; have HV2 := Lib.hid (kv_trans HV.out hv2); have HVB := Lib.hid hv2; have RB2 := hv2 _ _ RB.out; have r4 := row_cell RB2 4; simp only [List.getElem?_toArray, List.getElem?_cons_zero, List.getElem?_cons_succ] at r4; clear ho2 hv2 RB2)
    | (at_builtin; refine wp_kb1 rfl _ _ rfl W0 w2 p2 (l + 1) c2 (X ++ [4]) _ rfl rfl HO2.out (by omega) ?_; intro p3 c3 w3 ho3 hv3; have HO3 := Lib.hid ho3; have HV3 := Lib.hid (kv_trans HV2.out hv3); have RB3 := Lib.hid (hv3 _ _ (HVB.out _ _ RB.out)); clear ho3 hv3 r4))
  go_loopw [0, 6] (fun v i wr => ∃ (k l' : Nat) (p' : Option Addr) (c' : Nat), k ≤ m ∧ i = .int .i64 (k : Int) ∧ v = .slice p' l' c' ∧ OwB W0 wr p' l' c' (X ++ listY n m L k) ∧ KeepV w wr ∧ l' = l + (listY n m L k).length ∧ wr.heap[w.heap.size]? = some (.cells #[.int .i64 4, .int .i64 I, .float .f64 F, .string S, .slice q m d] 47 (0, 0))) (fun _ i _ => m - (intOf i).toNat)
  case atStart => exact ⟨0, l + 1 + 1, p3, c3, Nat.zero_le _, rfl, rfl, by have h := HO3.out; rw [List.append_assoc] at h; exact h, HV3.out, rfl, RB3.out⟩
  case round =>
    obtain ⟨k, l', p', c', hk, rfl, rfl, ho, hkv, hlz, hrw⟩ := hrel
    have HBW := Lib.hid (ow_bel ho)
    have HO4 := Lib.hid ho
    have HV4 := Lib.hid hkv
    have HZ := Lib.hid hlz
    have HR4 := Lib.hid hrw
    have r4 := row_cell hrw 4
    simp only [List.getElem?_toArray, List.getElem?_cons_zero, List.getElem?_cons_succ] at r4
    clear ho hkv hlz hrw RB3 HO3 HV3
    by_cases hlt : k < m
    · obtain ⟨b, off, hp, hi⟩ := HE.out (by omega)
      subst hp
      have hkl : k < L.length := by have := HL.out; omega
      obtain ⟨v0, v1, v2, v3, v4, c0, c1, c2', c3', c4, hr⟩ := hi k hkl
      have HRr := Lib.hid hr
      have e0 := cell_keep HBW.out c0
      have e1 := cell_keep HBW.out c1
      have e2 := cell_keep HBW.out c2'
      have e3 := cell_keep HBW.out c3'
      have e4 := cell_keep HBW.out c4
      have HLn := Lib.hid (show l' + (encV n L[k]).length ≤ 900000 by
        have h1 := HN.out; have h2 := HZ.out
        have h3 := listY_le (n := n) (m := m) (k := k + 1) (L := L)
        rw [listY_succ hkl, List.length_append] at h3
        omega)
      have HY := Lib.hid (listY_succ (m := m) hkl)
      have hk0 : (0 : Int) ≤ (k : Int) := by omega
      have hkl2 : (k : Int) < (m : Int) := by omega
      clear c0 c1 c2' c3' c4 hr hi
      go_wp2_with fail
      go_at_call 62; refine (IH.out _ _ W0 _ _ _ _ _ HRr.out (Or.inl HO4.out) HLn.out).mono ?_; rintro e w5 ⟨p5, c5, rfl, ho5, hv5⟩
      have HO5 := Lib.hid (show OwB W0 w5 p5 (l' + (encV n L[k]).length) c5 (X ++ listY n m L (k + 1)) by rw [HY.out, ← List.append_assoc]; exact ho5)
      have HV5 := Lib.hid (kv_trans HV4.out hv5)
      have HR5 := Lib.hid (hv5 _ _ HR4.out)
      have HZ5 := Lib.hid (show l' + (encV n L[k]).length = l + (listY n m L (k + 1)).length by have h2 := HZ.out; rw [HY.out, List.length_append]; omega)
      generalize l' + (encV n L[k]).length = l5 at *
      clear ho5 hv5 e0 e1 e2 e3 e4 r4 HO4 HV4 HR4 HBW HRr HLn HY
      go_wp2
      go_roundw
      case rel => exact ⟨k + 1, l5, p5, c5, by omega, by go_num, rfl, HO5.out, HV5.out, HZ5.out, HR5.out⟩
      case measure => simp [intOf]; omega
    · have hkm : k = m := by omega
      have HP := Lib.hid (show PutPost W0 w l X (listY n m L m) (.returned (.slice p' l' c')) wr by
        subst hkm
        refine ⟨p', c', ?_, ?_, HV4.out⟩
        · rw [← HZ.out]
        · rw [← HZ.out]; exact HO4.out)
      clear HO4 HV4 HZ hkm
      go_wp2
      go_ret
      exact HP.out
/-- What the reference puts of any value. -/
theorem put_any : ∀ n, PutAny n := by
  intro n
  induction n with
  | zero => intro v T W0 w p l c X h; exact h.elim
  | succ n ih =>
    intro v T W0 w p l c X hr hb hlen
    obtain ⟨K, I, F, S, L⟩ := T
    obtain ⟨q, m, d, rfl, hK, hI, hF, hS, hl, hmd, hd, hel⟩ := hr
    unfold maxLen at hd hS
    have hl' : L.length = m := hl
    by_cases h1 : K = 1
    · subst h1
      have e : encV (n + 1) (1, I, F, S, L) = 1 :: beI (IntKind.u64.wrap I) 8 := rfl
      rw [e] at hlen ⊢
      exact put_int W0 w p l c X I F S q m d hb (by omega) hI (by have := hF; omega) trivial
    by_cases h2 : K = 2
    · subst h2
      have e : encV (n + 1) (2, I, F, S, L) = 2 :: beI (Flo.canon F : Int) 8 := rfl
      rw [e] at hlen ⊢
      exact put_flo W0 w p l c X I F S q m d hb (by omega) hI (by have := hF; omega) trivial
    by_cases h3 : K = 3
    · subst h3
      have e : encV (n + 1) (3, I, F, S, L) = 3 :: (beI (S.size : Int) 2 ++ S.data.toList.map fun b => (b.toNat : Int)) := rfl
      rw [e] at hlen ⊢
      rw [text_len] at hlen
      exact put_text W0 w p l c X I F S q m d hb (by omega) hI (by have := hF; omega) (by omega)
    by_cases h4 : K = 4
    · rw [← listY_all h4 hl'] at hlen ⊢
      subst h4
      refine put_list n ih W0 w p l c X I F S L q m d hb hl' hel hmd hd ?_
      unfold listY at hlen
      rw [List.take_of_length_le (by omega), List.length_cons, List.length_cons] at hlen
      omega
    have e : encV (n + 1) (K, I, F, S, L) = [0] := by
      unfold encV
      rw [if_neg (by simpa using h1), if_neg (by simpa using h2), if_neg (by simpa using h3), if_neg (by simpa using h4)]
    rw [e] at hlen ⊢
    by_cases h5 : K < 0
    · exact put_low W0 w p l c X K I F S q m d hb (by omega) hI (by have := hF; omega) h5 trivial
    by_cases h6 : 4 < K
    · exact put_high W0 w p l c X K I F S q m d hb (by omega) hI (by have := hF; omega) h6 trivial
    obtain rfl : K = 0 := by omega
    exact put_nil W0 w p l c X I F S q m d hb (by omega) hI (by have := hF; omega) trivial
end Num
end Go.Proofs.Ytomfgncbdgifoaa
