/-
  GuardTells: the walk.
-/
import Derived.Test.YtgeicgfijnabkaaDoorGn
import Derived.Test.YtgeicgfijnabkaaDoorGd
namespace Go.Proofs.YtgeicgfijnabkaaDoor
open Go.RowKit
namespace Num
open Ints
set_option linter.unusedSimpArgs false
set_option linter.unusedVariables false
set_option maxRecDepth 100000 in
set_option maxHeartbeats 4000000 in
theorem tells_raises (h : Int) (S : ByteArray) (x : Int) (b0 b1 b2 : Nat) (w : World) (hS : S.size ≤ 40) (h0 : 0 ≤ h) (r0 : w.heap[b0]? = some (.cells #[.int .u8 h] 5 (0, 0))) (r1 : w.heap[b1]? = some (.cells #[.string S] 9 (0, 0))) (r2 : w.heap[b2]? = some (.cells #[.int .i32 x] 21 (0, 0))) :
    Calls Tryd.prog 17 #[.pointer (some ⟨b0, 0, none⟩), .pointer (some ⟨b1, 0, none⟩), .pointer (some ⟨b2, 0, none⟩)] w fun e w' => (∃ u pv, e = .panicked [{ v := .iface u pv, recovered := false }] ∧ Pan h u pv) ∧ Kept [] w w' ∧ True := by
  have HRA := Lib.hid (fun n W => raise_any h S n W hS h0)
  have c0 := row_cell r0 0; have c1 := row_cell r1 0; have c2 := row_cell r2 0
  simp only [List.getElem?_toArray, List.getElem?_cons_zero, List.getElem?_cons_succ] at c0 c1 c2
  clear r0 r1 r2 hS h0
  go_enter Tryd.func17, Tryd.ntmps17
  go_wp2_with fail
  go_at_call 18; refine (HRA.out _ _).mono ?_; rintro e w5 ⟨⟨u, pv, rfl, hp⟩, hb5⟩
  exact ⟨rfl, ⟨_, _, rfl, hp⟩, kept_below hb5, trivial⟩
theorem told_tells (h : Int) (S : ByteArray) (x : Int) (b0 b1 b2 : Nat) (w : World) (hS : S.size ≤ 40) (h0 : 0 ≤ h) (r0 : w.heap[b0]? = some (.cells #[.int .u8 h] 5 (0, 0))) (r1 : w.heap[b1]? = some (.cells #[.string S] 9 (0, 0))) (r2 : w.heap[b2]? = some (.cells #[.int .i32 x] 21 (0, 0))) :
    Calls Tryd.prog 16 #[.func (.func 17) #[] #[.pointer (some ⟨b0, 0, none⟩), .pointer (some ⟨b1, 0, none⟩), .pointer (some ⟨b2, 0, none⟩)]] w fun e w' => ∃ t, e = .returned (.tuple #[.string t, .bool true]) ∧ TellOk h t ∧ Below w.heap.size w w' :=
  told_pan h _ w (Lib.hid ((caught_pan_tells b0 b1 b2 [] (Pan h) (fun _ => True) w (fun k hk => absurd hk List.not_mem_nil) (Lib.hid (stab_true _)) (Lib.hid (fun W hb => tells_raises h S x b0 b1 b2 W hS h0 (row_step r0 hb) (row_step r1 hb) (row_step r2 hb)))).mono fun e w' ⟨h, hk, _⟩ => ⟨h, kept_nil hk⟩))
set_option maxRecDepth 100000 in
set_option maxHeartbeats 4000000 in
theorem tells_law (h : Int) (S : ByteArray) (x : Int) (w : World) (h0 : 0 ≤ h) : Calls Tryd.prog 5 #[.int .u8 h, .string S, .int .i32 x] w fun e w' => e = .returned (.bool true) ∧ Below w.heap.size w w' := by
  have HB := Lib.hid (bel_alloc (bel_alloc (bel_alloc (Below.refl w.heap.size w) (.cells #[.int .u8 h] 5)) (.cells #[.string S] 9)) (.cells #[.int .i32 x] 21))
  have HR0 := Lib.hid (row_alloc_step (row_alloc_step (row_alloc w #[.int .u8 h] 5) (.cells #[.string S] 9)) (.cells #[.int .i32 x] 21))
  have hr1 := row_alloc_step (row_alloc (w.alloc (.cells #[.int .u8 h] 5)) #[.string S] 9) (.cells #[.int .i32 x] 21)
  have hr2 := row_alloc ((w.alloc (.cells #[.int .u8 h] 5)).alloc (.cells #[.string S] 9)) #[.int .i32 x] 21
  simp only [World.size_alloc] at hr1 hr2
  have HR1 := Lib.hid hr1
  have HR2 := Lib.hid hr2
  clear hr1 hr2
  cases hs : decide ((40 : Int) < (S.size : Int))
  case true =>
    go_enter Tryd.func5, Tryd.ntmps5
    go_wp2_with fail
    go_at_call 7; refine (known_any _).mono ?_; rintro e w1 ⟨rfl, hb1⟩
    have HB1 := Lib.hid (bel_step HB.out hb1)
    have k0 := row_step HR0.out hb1
    have k1 := row_step HR1.out hb1
    have k2 := row_step HR2.out hb1
    have c0 := row_cell k0 0; have c1 := row_cell k1 0; have c2 := row_cell k2 0
    simp only [List.getElem?_toArray, List.getElem?_cons_zero, List.getElem?_cons_succ] at c0 c1 c2
    clear k0 k1 k2 hb1
    go_wp2
    go_ret
    exact ⟨rfl, HB1.out⟩
  case false =>
    have hS : S.size ≤ 40 := by have := of_decide_eq_false hs; omega
    go_enter Tryd.func5, Tryd.ntmps5
    go_wp2_with fail
    go_at_call 7; refine (known_any _).mono ?_; rintro e w1 ⟨rfl, hb1⟩
    have HB1 := Lib.hid (bel_step HB.out hb1)
    have k0 := row_step HR0.out hb1
    have k1 := row_step HR1.out hb1
    have k2 := row_step HR2.out hb1
    have c0 := row_cell k0 0; have c1 := row_cell k1 0; have c2 := row_cell k2 0
    simp only [List.getElem?_toArray, List.getElem?_cons_zero, List.getElem?_cons_succ] at c0 c1 c2
    have HTD := Lib.hid (told_tells h S x w.heap.size (w.heap.size + 1) (w.heap.size + 1 + 1) w1 hS h0 k0 k1 k2)
    have HC0 := Lib.hid k0
    clear k0 k1 k2 hb1 hS h0
    have hmf : ∀ (fn : Fn) (first cap : Array Value) (w : World), (Instr.makeFunc fn first cap).run Tryd.prog w = .ok (.func fn first cap) w := fun _ _ _ _ => rfl
    go_wp2_with fail
    go_at_call 16; refine HTD.out.mono ?_; rintro e w2 ⟨t, rfl, ht, hb2⟩
    have HB2 := Lib.hid (bel_step HB1.out hb2)
    have k0 := row_step HC0.out hb2
    have d0 := row_cell k0 0
    simp only [List.getElem?_toArray, List.getElem?_cons_zero] at d0
    clear hb2 k0 c0 c1 c2
    rcases ht with ⟨hk, rfl⟩ | ⟨hk, m, hm⟩
    · have s0 : (asB.size : Int) = 30 := rfl
      have s2 : asB.extract 0 10 = ⟨#[97, 115, 115, 105, 103, 110, 109, 101, 110, 116]⟩ := as_10
      have hk1 : (h.tmod 5 == 1) = true := by rw [hk]; rfl
      generalize asB = t at s0 s2
      go_wp2
      go_ret
      exact ⟨rfl, HB2.out⟩
    · have t0 : (14 : Int) ≤ (t.size : Int) := by rw [hm]; have := re_size m; omega
      have t1 : (14 : Int) < (t.size : Int) := by rw [hm]; have := re_size m; omega
      have t2 : t.extract 0 14 = ⟨#[114, 117, 110, 116, 105, 109, 101, 32, 101, 114, 114, 111, 114, 58]⟩ := by rw [hm]; exact re_14 m
      have hk1 : (h.tmod 5 == 1) = false := by simpa using hk
      clear hm
      go_wp2
      go_ret
      exact ⟨rfl, HB2.out⟩
end Num
end Go.Proofs.YtgeicgfijnabkaaDoor
