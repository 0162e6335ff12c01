/-
  Which method writes: the program's map, the reference's walk; the reference's Methods.
-/
import Derived.Test.YthmgmfmecfmeeaaHD
import Derived.Laws.OwnMore
import Derived.Laws.MakeOwn
import Derived.Deep.RegionLaw
namespace Go.Proofs.Ythmgmfmecfmeeaa
open Go.RowKit
namespace Num
open Ints
set_option linter.unusedSimpArgs false
set_option linter.unusedVariables false
def wrS (k : ByteArray) : List (ByteArray × Bool × ByteArray) → Bool
  | [] => false
  | x :: r => if (k == x.1) = true then x.2.1 else wrS k r
def findM (k : ByteArray) : List (ByteArray × Bool × ByteArray) → Option (ByteArray × Bool × ByteArray)
  | [] => none
  | x :: r => if (k == x.1) = true then some x else findM k r
theorem wr_find (k : ByteArray) : ∀ M, wrS k M = ((findM k M).map (fun x => x.2.1)).getD false
  | [] => rfl
  | x :: r => by
    unfold wrS findM
    cases h : (k == x.1)
    · simpa using wr_find k r
    · simp
theorem sig_find {w : World} (k : ByteArray) : ∀ (L : List (ByteArray × Value)) (M : List (ByteArray × Bool × ByteArray)) (j : Nat), L.map (fun x => x.1) = M.map (fun x => x.1) → (∀ i (h : i < L.length) (h' : i < M.length), SigAt w L[i].2 M[i]) →
    (findM k M = none ∧ findS k L j = none) ∨ ∃ x i v, findM k M = some x ∧ findS k L j = some (i, v) ∧ SigAt w v x
  | [], M, j, h, _ => by
    cases M with
    | nil => exact Or.inl ⟨rfl, rfl⟩
    | cons x r => cases h
  | x :: r, M, j, h, hs => by
    cases M with
    | nil => cases h
    | cons y s =>
      rw [List.map_cons, List.map_cons, List.cons.injEq] at h
      unfold findS findM
      rw [← h.1]
      cases e : (k == x.1)
      · exact sig_find k r s (j + 1) h.2 (fun i h1 h2 => by have := hs (i + 1) (by simpa using h1) (by simpa using h2); simpa using this)
      · have h0 := hs 0 (by simp) (by simp)
        simp only [List.getElem_cons_zero] at h0
        exact Or.inr ⟨y, j, x.2, rfl, rfl, h0⟩
/-- A look-up in a class's map, with ok. -/
theorem look_find {w : World} {b : Nat} {M : List (ByteArray × Bool × ByteArray)} (h : MapOf w (.map (some b)) M) (k : ByteArray) :
    (findM k M = none ∧ ∀ c : Bool, (Instr.lookup 54 (.map (some b)) (.string k) c).run Try.prog w = .ok (if c then .tuple #[noSig, .bool false] else noSig) w) ∨
    ∃ x v, findM k M = some x ∧ SigAt w v x ∧ ∀ c : Bool, (Instr.lookup 54 (.map (some b)) (.string k) c).run Try.prog w = .ok (if c then .tuple #[v, .bool true] else v) w := by
  rcases h with ⟨_, h⟩ | ⟨b', L, h, hh, hk, hs⟩
  · cases h
  · cases h
    rcases sig_find k L M 0 hk hs with ⟨h1, h2⟩ | ⟨x, i, v, h1, h2, h3⟩
    · refine Or.inl ⟨h1, fun c => ?_⟩
      cases c
      · exact (look_sig w b L L.length k hh).trans (by unfold sigOf; rw [h2]; rfl)
      · exact (look_ok w b L L.length k hh).trans (by unfold sigOf; rw [h2]; rfl)
    · refine Or.inr ⟨x, v, h1, h3, fun c => ?_⟩
      cases c
      · exact (look_sig w b L L.length k hh).trans (by unfold sigOf; rw [h2]; rfl)
      · exact (look_ok w b L L.length k hh).trans (by unfold sigOf; rw [h2]; rfl)
theorem look_writes {w : World} {b : Nat} {M : List (ByteArray × Bool × ByteArray)} (h : MapOf w (.map (some b)) M) (k : ByteArray) :
    ∃ (p : Option Addr) (n : Nat) (more : Int), (Instr.lookup 54 (.map (some b)) (.string k) false).run Try.prog w = .ok (.agg #[.slice p n n, .int .i64 more, .bool (wrS k M)]) w := by
  rcases look_find h k with ⟨h1, h2⟩ | ⟨x, v, h1, ⟨p, rfl, _⟩, h2⟩
  · exact ⟨none, 0, 0, (h2 false).trans (by rw [wr_find, h1]; rfl)⟩
  · exact ⟨p, _, _, (h2 false).trans (by rw [wr_find, h1]; rfl)⟩
theorem look_none_ok (w : World) (k : ByteArray) : (Instr.lookup 54 (.map none) (.string k) true).run Try.prog w = .ok (.tuple #[noSig, .bool false]) w := by
  simp [Instr.lookup, run_underlying sig_under, check_str, Instr.findKey, Instr.findNow, run_underlying Try.underlying9, zero_sig, noSig]
set_option maxHeartbeats 2000000 in
/-- Does the class's method write? By its map. -/
theorem writes_any (c k : ByteArray) (w : World) : Calls Try.prog 17 #[.string c, .string k] w fun e w' => e = .returned (.bool (wrS k (metas c))) ∧ Below w.heap.size w w' := by
  have hz := look_none
  have hfld : ∀ (a b : Value) (x : Bool) (w : World), (Instr.field 57 (.agg #[a, b, .bool x]) 2).run Try.prog w = .ok (.bool x) w := fun _ _ _ _ => by kernel_rfl
  go_enter Try.func17, Try.ntmps17
  go_wp2_with fail
  go_at_call 29; refine (mof_any c w).mono ?_; rintro e w1 ⟨m, rfl, hm, hb1⟩
  have HB1 := Lib.hid hb1
  clear hb1
  have hm2 : (m = .map none ∧ metas c = []) ∨ ∃ b, m = .map (some b) := by
    rcases hm with ⟨h, rfl⟩ | ⟨b, L, rfl, _⟩
    · exact Or.inl ⟨rfl, h⟩
    · exact Or.inr ⟨b, rfl⟩
  rcases hm2 with ⟨rfl, hnil0⟩ | ⟨b, rfl⟩
  · clear hm
    have HN := Lib.hid (show wrS k (metas c) = false by rw [hnil0]; rfl)
    clear hnil0
    have hz1 := hz w1 k
    unfold noSig at hz1
    clear hz
    go_wp2
    go_ret
    exact ⟨by rw [HN.out]; rfl, HB1.out⟩
  · obtain ⟨p, n, more, hlk⟩ := look_writes hm k
    clear hm hz
    go_wp2
    go_ret
    exact ⟨rfl, HB1.out⟩
theorem ba_beq (a b : ByteArray) : (a == b) = (a.data == b.data) := by
  cases a
  cases b
  rfl
theorem ba_eq (x k : ByteArray) : (x.toList == k.toList) = (k == x) := by
  rw [ByteArray.toList_eq, ByteArray.toList_eq, ba_beq]
  by_cases h : k = x
  · subst h; simp
  · have e1 : (x.data.toList == k.data.toList) = false := by rw [beq_eq_false_iff_ne]; exact fun e => h (WideShapes.bytes_inj e.symm)
    have e2 : (k.data == x.data) = false := by rw [beq_eq_false_iff_ne]; exact fun e => h (WideShapes.bytes_inj (by rw [e]))
    rw [e1, e2]
theorem wr_drop {k : ByteArray} {M : List (ByteArray × Bool × ByteArray)} {i : Nat} (h : i < M.length) : wrS k (M.drop i) = if (M[i].1.toList == k.toList) = true then M[i].2.1 else wrS k (M.drop (i + 1)) := by
  rw [List.drop_eq_getElem_cons h, ba_eq]
  rfl
def FindP (w : World) (k : ByteArray) (M : List (ByteArray × Bool × ByteArray)) (e : Ending) (w' : World) : Prop := ∃ (s t : ByteArray) (wr ok : Bool), e = .returned (.tuple #[.agg #[.string s, .string t, .bool wr], .bool ok]) ∧ (ok && wr) = wrS k M ∧ Below w.heap.size w w'
set_option maxRecDepth 100000 in
set_option maxHeartbeats 4000000 in
theorem find_any (c k : ByteArray) (w : World) : Calls Try.prog 33 #[.string c, .string k] w fun e w' => FindP w k (metas c) e w' := by
  obtain ⟨M, hM⟩ : ∃ M, metas c = M := ⟨_, rfl⟩
  have HRM := Lib.hid (fun w => rmeth_any c w)
  have hM7 : M.length ≤ 7 := by rw [← hM]; exact (names_good c).1
  rw [hM] at HRM ⊢
  clear hM
  have HA := Lib.hid ((Below.refl w.heap.size w).alloc (Nat.le_refl _) (.cells #[.string ⟨#[]⟩, .string ⟨#[]⟩, .bool false] 63))
  have HR := Lib.hid (row_alloc w #[.string ⟨#[]⟩, .string ⟨#[]⟩, .bool false] 63)
  go_enter Try.func33, Try.ntmps33
  go_wp2_with fail
  go_at_call 31; refine (HRM.out _).mono ?_; rintro e w1 ⟨v, rfl, hm, hb1⟩
  have HB1 := Lib.hid (bel_step HA.out hb1)
  have HR1 := Lib.hid (row_step HR.out hb1)
  clear hb1
  clear HA HR HRM
  obtain ⟨p, rfl, hp⟩ := hm
  have HP := Lib.hid hp
  clear hp
  go_wp2
  go_loopw [7] (fun i wr => ∃ j : Nat, j ≤ M.length ∧ i = .int .i64 j ∧ wr = w1 ∧ Hid (wrS k (M.drop j) = wrS k M)) (fun i _ => M.length - (intOf i).toNat)
  case atStart => exact ⟨0, by omega, rfl, rfl, Lib.hid rfl⟩
  case round =>
    obtain ⟨j, hj, rfl, rfl, HK⟩ := hrel
    by_cases hlt : j < M.length
    · obtain ⟨b, hpb, hi⟩ := HP.out (by omega)
      subst hpb
      obtain ⟨c0, c1, c2⟩ := hi j hlt
      have HD := Lib.hid (wr_drop (k := k) hlt)
      obtain ⟨x, hx⟩ : ∃ x, M[j] = x := ⟨_, rfl⟩
      rw [hx] at c0 c1 c2 HD
      obtain ⟨s, wr, t⟩ := x
      have hj0 : (0 : Int) ≤ (j : Int) := by omega
      have hjl : (j : Int) < (M.length : Int) := by omega
      clear hi hx
      have r0 := HR1.out
      have hlt1 := row_lt r0
      have d0 := row_cell r0 0
      have d1 := row_cell r0 1
      have d2 := row_cell r0 2
      simp only [List.getElem?_toArray, List.getElem?_cons_zero, List.getElem?_cons_succ] at d0 d1 d2
      have df := fun o => row_frz r0 o
      clear r0
      cases he : (s.toList == k.toList)
      · have HN := Lib.hid (show wrS k (M.drop (j + 1)) = wrS k M by rw [← HK.out, HD.out, he]; rfl)
        clear HD HK
        go_wp2
        go_roundw
        case rel => exact ⟨j + 1, by omega, by go_num, by first | rfl | trivial, HN⟩
        case measure => simp [intOf]; omega
      · have HN := Lib.hid (show wr = wrS k M by rw [← HK.out, HD.out, he]; rfl)
        clear HD HK
        go_wp2
        refine bodyPost_ret (v := .tuple #[.agg #[.string s, .string t, .bool wr], .bool true]) (by simp [results, Try.results33, go_sem, World.cell?_setCell_same, World.cell?_setCell_other, d0, d1, d2]) rfl ⟨s, t, wr, true, rfl, by rw [Bool.true_and]; exact HN.out, ?_⟩
        exact ((HB1.out.setCell (p := ⟨w.heap.size, 0, none⟩) (Nat.le_refl _) _).setCell (p := ⟨w.heap.size, 1, none⟩) (Nat.le_refl _) _).setCell (p := ⟨w.heap.size, 2, none⟩) (Nat.le_refl _) _
    · have HN := Lib.hid (show false = wrS k M by rw [← HK.out, List.drop_of_length_le (by omega)]; rfl)
      clear HK
      have r0 := HR1.out
      have hlt1 := row_lt r0
      have d0 := row_cell r0 0
      have d1 := row_cell r0 1
      have d2 := row_cell r0 2
      simp only [List.getElem?_toArray, List.getElem?_cons_zero, List.getElem?_cons_succ] at d0 d1 d2
      have df := fun o => row_frz r0 o
      clear r0
      go_wp2
      refine bodyPost_ret (v := .tuple #[.agg #[.string ⟨#[]⟩, .string ⟨#[]⟩, .bool false], .bool false]) (by simp [results, Try.results33, go_sem, World.cell?_setCell_same, World.cell?_setCell_other, d0, d1, d2]) rfl ⟨⟨#[]⟩, ⟨#[]⟩, false, false, rfl, by rw [Bool.false_and]; exact HN.out, ?_⟩
      exact ((HB1.out.setCell (p := ⟨w.heap.size, 0, none⟩) (Nat.le_refl _) _).setCell (p := ⟨w.heap.size, 1, none⟩) (Nat.le_refl _) _).setCell (p := ⟨w.heap.size, 2, none⟩) (Nat.le_refl _) _
set_option maxHeartbeats 2000000 in
/-- Does the class's method write? By the reference. -/
theorem rwrites_any (c k : ByteArray) (w : World) : Calls Try.prog 18 #[.string c, .string k] w fun e w' => e = .returned (.bool (wrS k (metas c))) ∧ Below w.heap.size w w' := by
  have hf := fun (a b : Value) (x : Bool) (w : World) => (show (Instr.field 63 (.agg #[a, b, .bool x]) 2).run Try.prog w = .ok (.bool x) w by kernel_rfl)
  obtain ⟨y, hy⟩ : ∃ y, wrS k (metas c) = y := ⟨_, rfl⟩
  have HF := Lib.hid (fun w => find_any c k w)
  unfold FindP at HF
  rw [hy] at HF ⊢
  clear hy
  go_enter Try.func18, Try.ntmps18
  go_wp2_with fail
  go_at_call 33; refine (HF.out _).mono ?_; rintro e w1 ⟨s, t, wr, ok, rfl, he, hb⟩
  have HB := Lib.hid hb
  clear hb HF
  cases ok <;> cases wr <;> subst he
  all_goals
    go_wp2
    go_ret
    exact ⟨rfl, by first | exact HB.out | exact bel_alloc HB.out _⟩
end Num
end Go.Proofs.Ythmgmfmecfmeeaa
