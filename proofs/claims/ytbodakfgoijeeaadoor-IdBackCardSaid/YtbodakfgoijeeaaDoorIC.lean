/-
  Package opid's texts of ids, and ids out of texts.
-/
import Derived.Test.YtbodakfgoijeeaaDoorIB
import Derived.Deep.RegionHeld3
namespace Go.Proofs.YtbodakfgoijeeaaDoor
open Go.RowKit Go.Sort Go.Lib
namespace Num
set_option linter.unusedSimpArgs false
set_option linter.unusedVariables false
def Id (c q n : Int) : Value := .agg #[.int .u32 c, .int .u32 q, .int .u16 n]
theorem sb_add (X Y : List UInt8) : SB X ++ SB Y = SB (X ++ Y) := by
  unfold SB
  have h : ((⟨X.toArray⟩ : ByteArray) ++ ⟨Y.toArray⟩).data = X.toArray ++ Y.toArray := ByteArray.data_append
  have e : ∀ a b : ByteArray, a.data = b.data → a = b := fun a b h => by cases a; cases b; simp_all
  apply e
  rw [h]
  simp
theorem sb_size (X : List UInt8) : (SB X).size = X.length := by simp [SB, ByteArray.size]
theorem sb_plus (X Y : List UInt8) (h : X.length + Y.length ≤ 100000) (W : World) : (Op.stringOp .add (SB X) (SB Y)).run Tryd.prog W = .ok (.string (SB (X ++ Y))) W := by
  rw [run_string_add_sum W _ _ (by rw [sb_size, sb_size]; omega), sb_add]
/-- Behind what a call of the layer does: all stands that was there. -/
def Sid (w w' : World) : Prop := Good w' ∧ Below w.heap.size w w'
theorem sid_drew {w w' : World} (h : Sid w w') : Sid w w'.drew := ⟨good_keep h.1 (Below.drew (Below.refl _ _)), Below.drew h.2⟩
theorem sid_alloc {w w' : World} (h : Sid w w') (o : Obj) : Sid w (w'.alloc o) := ⟨good_keep h.1 (Below.alloc (Below.refl _ _) (Nat.le_refl _) o), Below.alloc h.2 h.2.size o⟩
theorem sid_start {w : World} (h : Good w) : Sid w w := ⟨h, Below.refl _ _⟩
theorem sid_step {w w' w'' : World} (h : Sid w w') (hb : Below w'.heap.size w' w'') : Sid w w'' := ⟨good_keep h.1 hb, h.2.trans (hb.mono h.2.size)⟩
theorem s3_step {w W w' : World} {b : Nat} {x y z : Value} (h : W.cell? ⟨b, 0, none⟩ = some x ∧ W.cell? ⟨b, 1, none⟩ = some y ∧ W.cell? ⟨b, 2, none⟩ = some z ∧ Sid w W) (hb : Below W.heap.size W w') :
    w'.cell? ⟨b, 0, none⟩ = some x ∧ w'.cell? ⟨b, 1, none⟩ = some y ∧ w'.cell? ⟨b, 2, none⟩ = some z ∧ Sid w w' := by
  have lt := World.block_lt_of_cell? W _ h.1
  exact ⟨(hb.cell (p := ⟨b, 0, none⟩) lt).trans h.1, (hb.cell (p := ⟨b, 1, none⟩) lt).trans h.2.1, (hb.cell (p := ⟨b, 2, none⟩) lt).trans h.2.2.1, sid_step h.2.2.2 hb⟩
set_option maxRecDepth 100000 in
set_option maxHeartbeats 4000000 in
theorem text_any (c q n : Nat) (hc : c ≤ 4294967295) (hq : q ≤ 4294967295) (hn : n ≤ 65535) (w : World) (hg : Good w) :
    Calls Tryd.prog 7 #[Id c q n] w fun e w' => e = .returned (Str (tx c q n)) ∧ Below w.heap.size w w' := by
  have HC := Lib.hid (fun (W : World) (hg : Sid w W) => show Calls Tryd.prog 15 #[.int .u64 (IntKind.u64.wrap (c : Int))] W _ from by rw [show IntKind.u64.wrap (c : Int) = c by rw [IntKind.wrap_u64]; omega]; exact dec_any c (by omega) W hg.1.1)
  have HQ := Lib.hid (fun (W : World) (hg : Sid w W) => show Calls Tryd.prog 15 #[.int .u64 (IntKind.u64.wrap (q : Int))] W _ from by rw [show IntKind.u64.wrap (q : Int) = q by rw [IntKind.wrap_u64]; omega]; exact dec_any q (by omega) W hg.1.1)
  have HN := Lib.hid (fun (W : World) (hg : Sid w W) => show Calls Tryd.prog 15 #[.int .u64 (IntKind.u64.wrap (n : Int))] W _ from by rw [show IntKind.u64.wrap (n : Int) = n by rw [IntKind.wrap_u64]; omega]; exact dec_any n (by omega) W hg.1.1)
  have HS : Sid w (w.alloc (.cells #[.int .u32 c, .int .u32 q, .int .u16 n] 25)) := sid_alloc (sid_start hg) _
  have lc := dec_len10 (n := c) (by omega)
  have lq := dec_len10 (n := q) (by omega)
  have ln := dec_len10 (n := n) (by omega)
  have E1 := fun W => sb_plus (decDigits c) [45] (by simp only [List.length_cons, List.length_nil]; omega) W
  have E2 : ∀ W, (Op.stringOp .add (SB (decDigits c ++ [45])) (SB (decDigits q))).run Tryd.prog W = .ok (.string (SB (decDigits c ++ 45 :: decDigits q))) W := fun W => by
    rw [sb_plus (decDigits c ++ [45]) (decDigits q) (by simp only [List.length_cons, List.length_nil, List.length_append]; omega) W, List.append_assoc]; rfl
  have E3 : ∀ W, (Op.stringOp .add (SB [46]) (SB (decDigits n))).run Tryd.prog W = .ok (.string (SB (46 :: decDigits n))) W := fun W => sb_plus [46] (decDigits n) (by simp only [List.length_cons, List.length_nil]; omega) W
  have E4 : ∀ W, (Op.stringOp .add (SB (decDigits c ++ 45 :: decDigits q)) (SB (46 :: decDigits n))).run Tryd.prog W = .ok (.string (SB (decDigits c ++ 45 :: (decDigits q ++ 46 :: decDigits n)))) W := fun W => by
    rw [sb_plus (decDigits c ++ 45 :: decDigits q) (46 :: decDigits n) (by simp only [List.length_cons, List.length_nil, List.length_append]; omega) W, List.append_assoc]; rfl
  rw [show SB [45] = ⟨#[45]⟩ from rfl] at E1
  rw [show SB [46] = ⟨#[46]⟩ from rfl] at E3
  clear lc lq ln
  clear hg hc hq hn
  unfold Id
  go_enter Tryd.func7, Tryd.ntmps7
  go_wp2_with fail
  go_region_held3 (fun w' => w'.cell? ⟨w.heap.size, 0, none⟩ = some (.int .u32 c) ∧ w'.cell? ⟨w.heap.size, 1, none⟩ = some (.int .u32 q) ∧ w'.cell? ⟨w.heap.size, 2, none⟩ = some (.int .u16 n) ∧ Sid w w') ((refine ⟨?_, ?_, ?_, ?_⟩ <;> first | assumption | exact sid_drew (by assumption) | go_keep)) (first
    | (go_at_call 15; (first | (refine (HC.out _ ?hs).mono ?_) | (refine (HQ.out _ ?hs).mono ?_)); (case hs => (first | assumption | exact (by assumption : _ ∧ _ ∧ _ ∧ Sid w _).2.2.2)); rintro e w' ⟨rfl, hb⟩; have hk := s3_step (by assumption) hb; clear hb; obtain ⟨k0, k1, k2, k3⟩ := hk))
  have H3 := Lib.hid (by assumption : Sid w _)
  by_cases h0 : n = 0
  · have h0' : (n : Int) = 0 := by omega
    go_wp2
    go_ret
    refine ⟨?_, H3.out.2⟩
    unfold tx
    rw [if_pos h0, List.append_nil]
    rfl
  · have h0' : ¬ (n : Int) = 0 := by omega
    go_wp2_with (go_at_call 15; refine (HN.out _ H3.out).mono ?_; rintro e w2 ⟨rfl, hb⟩)
    have HB := Lib.hid (sid_step H3.out hb)
    clear hb
    go_wp2
    go_ret
    refine ⟨?_, HB.out.2⟩
    unfold tx
    rw [if_neg h0]
    rfl
end Num
end Go.Proofs.YtbodakfgoijeeaaDoor
