/-
  Package guard: said, words, Told.
-/
import Derived.Test.YtgeicgfijnabkaaDoorGd
namespace Go.Proofs.YtgeicgfijnabkaaDoor
open Go.RowKit
namespace Num
open Ints
set_option linter.unusedSimpArgs false
set_option linter.unusedVariables false
theorem ta_s_err (v : Value) (w : World) : (Instr.typeAssert (.iface 10 v) 20 9 true).run Tryd.prog w = .ok (.tuple #[.string ⟨#[]⟩, .bool false]) w := by kernel_rfl
theorem ta_e_err (v : Value) (w : World) : (Instr.typeAssert (.iface 10 v) 20 73 true).run Tryd.prog w = .ok (.tuple #[.iface 10 v, .bool true]) w := by kernel_rfl
theorem ta_s_plain (v : Value) (w : World) : (Instr.typeAssert (.iface 11 v) 20 9 true).run Tryd.prog w = .ok (.tuple #[.string ⟨#[]⟩, .bool false]) w := by kernel_rfl
theorem ta_e_plain (v : Value) (w : World) : (Instr.typeAssert (.iface 11 v) 20 73 true).run Tryd.prog w = .ok (.tuple #[.iface 11 v, .bool true]) w := by kernel_rfl
theorem ta_s_bounds (v : Value) (w : World) : (Instr.typeAssert (.iface 8 v) 20 9 true).run Tryd.prog w = .ok (.tuple #[.string ⟨#[]⟩, .bool false]) w := by kernel_rfl
theorem ta_e_bounds (v : Value) (w : World) : (Instr.typeAssert (.iface 8 v) 20 73 true).run Tryd.prog w = .ok (.tuple #[.iface 8 v, .bool true]) w := by kernel_rfl
theorem meth_err (n : Nat) (v : Value) (w : World) : (method (n + 1) 10 v "Error").run Tryd.prog w = .ok (65, v) w := by kernel_rfl
theorem meth_plain (n : Nat) (v : Value) (w : World) : (method (n + 1) 11 v "Error").run Tryd.prog w = .ok (67, v) w := by kernel_rfl
theorem meth_bounds (n : Nat) (v : Value) (w : World) : (method (n + 1) 8 v "Error").run Tryd.prog w = .ok (63, v) w := by kernel_rfl
theorem call_err (m : ByteArray) (w : World) : (callFunc 65 #[.string m]).run Tryd.prog w = .ok (.value (.string ("runtime error: ".toUTF8 ++ m))) w :=
  (run_callFunc_extern Tryd.func65 (by kernel_rfl) (by kernel_rfl) (by kernel_rfl) (e := fun args => do pure (.string ("runtime error: ".toUTF8 ++ (← asString (args.getD 0 (.tuple #[])))))) (by kernel_rfl) _ w).trans rfl
theorem call_plain (m : ByteArray) (w : World) : (callFunc 67 #[.string m]).run Tryd.prog w = .ok (.value (.string m)) w :=
  (run_callFunc_extern Tryd.func67 (by kernel_rfl) (by kernel_rfl) (by kernel_rfl) (e := fun args => do pure (.string (← asString (args.getD 0 (.tuple #[]))))) (by kernel_rfl) _ w).trans rfl
theorem call_bounds (x y : Int) (s : Bool) (c : Nat) (hc : c < 8) : ∃ z : String, ∀ w : World, (callFunc 63 #[.agg #[.int .i64 x, .int .i64 y, .bool s, .int .u8 (c : Nat)]]).run Tryd.prog w = .ok (.value (.string ("runtime error: " ++ z).toUTF8)) w := by
  have h1 : Extern.RuntimeError.boundsErrorFmts.length = 9 := rfl
  have h2 : Extern.RuntimeError.boundsNegErrorFmts.length = 8 := rfl
  have e := run_callFunc_extern Tryd.func63 (by kernel_rfl) (by kernel_rfl) (by kernel_rfl) (e := Extern.RuntimeError.boundsError) (by kernel_rfl) #[.agg #[.int .i64 x, .int .i64 y, .bool s, .int .u8 (c : Nat)]]
  obtain ⟨f, hf⟩ : ∃ f, (if (s && decide (x < 0)) = true then Extern.RuntimeError.boundsNegErrorFmts else Extern.RuntimeError.boundsErrorFmts)[((c : Nat) : Int).toNat]? = some f := by
    split
    · exact ⟨_, List.getElem?_eq_getElem (by rw [h2]; simpa using hc)⟩
    · exact ⟨_, List.getElem?_eq_getElem (by rw [h1]; simp; omega)⟩
  refine ⟨(f.replace "%x" (toString (if s = true then x else IntKind.u64.wrap x))).replace "%y" (toString y), fun w => (e w).trans ?_⟩
  have key : Extern.RuntimeError.boundsError #[.agg #[.int .i64 x, .int .i64 y, .bool s, .int .u8 (c : Nat)]] = (match (if (s && decide (x < 0)) = true then Extern.RuntimeError.boundsNegErrorFmts else Extern.RuntimeError.boundsErrorFmts)[((c : Nat) : Int).toNat]? with
    | some fmt => Extern.RuntimeError.text ("runtime error: " ++ (fmt.replace "%x" (toString (if s = true then x else IntKind.u64.wrap x))).replace "%y" (toString y))
    | none => stuck "boundsError: no such code") := rfl
  rw [key, hf]
  rfl
def reB : ByteArray := ⟨#[114, 117, 110, 116, 105, 109, 101, 32, 101, 114, 114, 111, 114, 58, 32]⟩
def asB : ByteArray := ⟨#[97, 115, 115, 105, 103, 110, 109, 101, 110, 116, 32, 116, 111, 32, 101, 110, 116, 114, 121, 32, 105, 110, 32, 110, 105, 108, 32, 109, 97, 112]⟩
theorem reB_eq : "runtime error: ".toUTF8 = reB := by decide +kernel
theorem asB_eq : strVal "assignment to entry in nil map" = .string asB := by
  show Value.string _ = _
  exact congrArg Value.string (by decide +kernel)
theorem reB_app (z : String) : ("runtime error: " ++ z).toUTF8 = reB ++ z.toUTF8 := by
  rw [← reB_eq]
  exact String.toByteArray_append
/-- What a panic of the language's own is told by. -/
def TellOk (h : Int) (t : ByteArray) : Prop := (h.tmod 5 = 1 ∧ t = asB) ∨ (¬ h.tmod 5 = 1 ∧ ∃ m, t = reB ++ m)
set_option maxRecDepth 100000 in
set_option maxHeartbeats 4000000 in
theorem said1_err (m : ByteArray) (a0 a1 : Nat) (x : Value) (w : World) (c0 : w.cell? ⟨a0, 0, none⟩ = some (.iface 10 (.string m))) (c1 : w.cell? ⟨a1, 0, none⟩ = some x) (f1 : ∀ o, w.frozen? ⟨a1, o, none⟩ = false) :
    Calls Tryd.prog 47 #[.pointer (some ⟨a0, 0, none⟩), .pointer (some ⟨a1, 0, none⟩)] w fun e w' => e = .returned (.tuple #[]) ∧ w' = w.setCell ⟨a1, 0, none⟩ (.string ("runtime error: ".toUTF8 ++ m)) := by
  have hm := fun n w => meth_err n (.string m) w
  have hc := fun w => call_err m w
  go_enter Tryd.func47, Tryd.ntmps47
  go_wp2
  go_end0
  exact ⟨rfl, rfl⟩
set_option maxRecDepth 100000 in
set_option maxHeartbeats 4000000 in
theorem said1_plain (m : ByteArray) (a0 a1 : Nat) (x : Value) (w : World) (c0 : w.cell? ⟨a0, 0, none⟩ = some (.iface 11 (.string m))) (c1 : w.cell? ⟨a1, 0, none⟩ = some x) (f1 : ∀ o, w.frozen? ⟨a1, o, none⟩ = false) :
    Calls Tryd.prog 47 #[.pointer (some ⟨a0, 0, none⟩), .pointer (some ⟨a1, 0, none⟩)] w fun e w' => e = .returned (.tuple #[]) ∧ w' = w.setCell ⟨a1, 0, none⟩ (.string m) := by
  have hm := fun n w => meth_plain n (.string m) w
  have hc := fun w => call_plain m w
  go_enter Tryd.func47, Tryd.ntmps47
  go_wp2
  go_end0
  exact ⟨rfl, rfl⟩
set_option maxRecDepth 100000 in
set_option maxHeartbeats 4000000 in
theorem said1_bounds (x0 y0 : Int) (s0 : Bool) (c : Nat) (z : String) (hz : ∀ w, (callFunc 63 #[.agg #[.int .i64 x0, .int .i64 y0, .bool s0, .int .u8 (c : Nat)]]).run Tryd.prog w = .ok (.value (.string ("runtime error: " ++ z).toUTF8)) w) (a0 a1 : Nat) (x : Value) (w : World) (c0 : w.cell? ⟨a0, 0, none⟩ = some (.iface 8 (.agg #[.int .i64 x0, .int .i64 y0, .bool s0, .int .u8 (c : Nat)]))) (c1 : w.cell? ⟨a1, 0, none⟩ = some x) (f1 : ∀ o, w.frozen? ⟨a1, o, none⟩ = false) :
    Calls Tryd.prog 47 #[.pointer (some ⟨a0, 0, none⟩), .pointer (some ⟨a1, 0, none⟩)] w fun e w' => e = .returned (.tuple #[]) ∧ w' = w.setCell ⟨a1, 0, none⟩ (.string ("runtime error: " ++ z).toUTF8) := by
  have hm := fun n w => meth_bounds n (.agg #[.int .i64 x0, .int .i64 y0, .bool s0, .int .u8 (c : Nat)]) w
  have hc := hz
  go_enter Tryd.func47, Tryd.ntmps47
  go_wp2
  go_end0
  exact ⟨rfl, rfl⟩
set_option maxRecDepth 100000 in
set_option maxHeartbeats 4000000 in
theorem said_any (u : TypeId) (pv : Value) (txt : ByteArray) (w : World) (HS : Hid (∀ (a0 a1 : Nat) (x : Value) (W : World), W.cell? ⟨a0, 0, none⟩ = some (.iface u pv) → W.cell? ⟨a1, 0, none⟩ = some x → (∀ o, W.frozen? ⟨a1, o, none⟩ = false) →
    Calls Tryd.prog 47 #[.pointer (some ⟨a0, 0, none⟩), .pointer (some ⟨a1, 0, none⟩)] W fun e w' => e = .returned (.tuple #[]) ∧ w' = W.setCell ⟨a1, 0, none⟩ (.string txt))) :
    Calls Tryd.prog 41 #[.iface u pv] w fun e w' => e = .returned (.string txt) ∧ Below w.heap.size w w' := by
  have HB := Lib.hid (bel_alloc (bel_alloc (Below.refl w.heap.size w) (.cells #[.iface u pv] 73)) (.cells #[.string ⟨#[112, 97, 110, 105, 99]⟩] 9))
  have HG0 := Lib.hid (row_alloc_step (row_alloc w #[.iface u pv] 73) (.cells #[.string ⟨#[112, 97, 110, 105, 99]⟩] 9))
  have hg1 := row_alloc (w.alloc (.cells #[.iface u pv] 73)) #[.string ⟨#[112, 97, 110, 105, 99]⟩] 9
  rw [World.size_alloc] at hg1
  have HG1 := Lib.hid hg1
  have HSZ := Lib.hid (show ((w.alloc (.cells #[.iface u pv] 73)).alloc (.cells #[.string ⟨#[112, 97, 110, 105, 99]⟩] 9)).heap.size = w.heap.size + 1 + 1 by rw [World.size_alloc, World.size_alloc])
  clear hg1
  go_enter Tryd.func41, Tryd.ntmps41
  have hmf : ∀ (fn : Fn) (first cap : Array Value) (w : World), (Instr.makeFunc fn first cap).run Tryd.prog w = .ok (.func fn first cap) w := fun _ _ _ _ => rfl
  go_wp2_with fail
  go_at_call 25
  refine (caught_ret_said w.heap.size (w.heap.size + 1) [w.heap.size + 1] (fun W => W.cell? ⟨w.heap.size + 1, 0, none⟩ = some (.string txt)) _ (fun k hk => by rw [HSZ.out]; rw [List.mem_singleton] at hk; omega) (Lib.hid (stab_cell (by rw [HSZ.out]; omega))) (Lib.hid (fun W hb => ?_))).mono ?_
  · have g0 := row_keep hb HG0.out (by rw [HSZ.out]; omega)
    have g1 := row_keep hb HG1.out (by rw [HSZ.out]; omega)
    have k0 := row_cell g0 0
    have k1 := row_cell g1 0
    simp only [List.getElem?_toArray, List.getElem?_cons_zero] at k0 k1
    refine (HS.out w.heap.size (w.heap.size + 1) _ W k0 k1 (fun o => row_frz g1 o)).mono ?_
    rintro e w' ⟨rfl, rfl⟩
    exact ⟨rfl, kept_set (kept_refl _ _) (Or.inl (List.mem_singleton.2 rfl)), cell_set_same k1⟩
  · rintro e w5 ⟨rfl, hk5, hq5⟩
    have HB5 := Lib.hid (HB.out.trans (kept_bel (B := w.heap.size) hk5 (fun k hk => by rw [List.mem_singleton] at hk; omega) (by rw [HSZ.out]; omega)))
    clear hk5
    go_wp2
    go_ret
    exact ⟨rfl, HB5.out⟩
set_option maxRecDepth 100000 in
set_option maxHeartbeats 4000000 in
theorem words_err (m : ByteArray) (w : World) : Calls Tryd.prog 35 #[.iface 10 (.string m)] w fun e w' => e = .returned (.string ("runtime error: ".toUTF8 ++ m)) ∧ Below w.heap.size w w' := by
  have HS := Lib.hid (said_any 10 (.string m) ("runtime error: ".toUTF8 ++ m) w (Lib.hid (fun a0 a1 x W c0 c1 f1 => said1_err m a0 a1 x W c0 c1 f1)))
  have hts := ta_s_err
  have hte := ta_e_err
  go_enter Tryd.func35, Tryd.ntmps35
  go_wp2_with fail
  go_at_call 41; refine HS.out.mono ?_; rintro e w5 ⟨rfl, hb5⟩
  have HB5 := Lib.hid hb5
  clear hb5
  go_wp2
  go_ret
  exact ⟨rfl, HB5.out⟩
set_option maxRecDepth 100000 in
set_option maxHeartbeats 4000000 in
theorem words_plain (m : ByteArray) (w : World) : Calls Tryd.prog 35 #[.iface 11 (.string m)] w fun e w' => e = .returned (.string m) ∧ Below w.heap.size w w' := by
  have HS := Lib.hid (said_any 11 (.string m) m w (Lib.hid (fun a0 a1 x W c0 c1 f1 => said1_plain m a0 a1 x W c0 c1 f1)))
  have hts := ta_s_plain
  have hte := ta_e_plain
  go_enter Tryd.func35, Tryd.ntmps35
  go_wp2_with fail
  go_at_call 41; refine HS.out.mono ?_; rintro e w5 ⟨rfl, hb5⟩
  have HB5 := Lib.hid hb5
  clear hb5
  go_wp2
  go_ret
  exact ⟨rfl, HB5.out⟩
set_option maxRecDepth 100000 in
set_option maxHeartbeats 4000000 in
theorem words_bounds (x0 y0 : Int) (s0 : Bool) (c : Nat) (z : String) (hz : ∀ w, (callFunc 63 #[.agg #[.int .i64 x0, .int .i64 y0, .bool s0, .int .u8 (c : Nat)]]).run Tryd.prog w = .ok (.value (.string ("runtime error: " ++ z).toUTF8)) w) (w : World) : Calls Tryd.prog 35 #[.iface 8 (.agg #[.int .i64 x0, .int .i64 y0, .bool s0, .int .u8 (c : Nat)])] w fun e w' => e = .returned (.string ("runtime error: " ++ z).toUTF8) ∧ Below w.heap.size w w' := by
  have HS := Lib.hid (said_any 8 (.agg #[.int .i64 x0, .int .i64 y0, .bool s0, .int .u8 (c : Nat)]) ("runtime error: " ++ z).toUTF8 w (Lib.hid (fun a0 a1 x W c0 c1 f1 => said1_bounds x0 y0 s0 c z hz a0 a1 x W c0 c1 f1)))
  have hts := ta_s_bounds
  have hte := ta_e_bounds
  go_enter Tryd.func35, Tryd.ntmps35
  go_wp2_with fail
  go_at_call 41; refine HS.out.mono ?_; rintro e w5 ⟨rfl, hb5⟩
  have HB5 := Lib.hid hb5
  clear hb5
  go_wp2
  go_ret
  exact ⟨rfl, HB5.out⟩
/-- What a panic of the language's own is told by. -/
theorem words_any (h : Int) (u : TypeId) (pv : Value) (w : World) (hp : Pan h u pv) : Calls Tryd.prog 35 #[.iface u pv] w fun e w' => ∃ t, e = .returned (.string t) ∧ TellOk h t ∧ Below w.heap.size w w' := by
  rcases hp with ⟨h1, rfl, rfl⟩ | ⟨h1, ⟨rfl, m, rfl⟩ | ⟨rfl, x, y, s, c, rfl, hc⟩⟩
  · rw [asB_eq]
    exact (words_plain asB w).mono fun e w' k => ⟨_, k.1, Or.inl ⟨h1, rfl⟩, k.2⟩
  · exact (words_err m w).mono fun e w' k => ⟨_, k.1, Or.inr ⟨h1, m, by rw [reB_eq]⟩, k.2⟩
  · obtain ⟨z, hz⟩ : ∃ z : String, ∀ w, (callFunc 63 #[.agg #[.int .i64 x, .int .i64 y, .bool s, .int .u8 (c : Nat)]]).run Tryd.prog w = .ok (.value (.string ("runtime error: " ++ z).toUTF8)) w := call_bounds x y s c hc
    exact (words_bounds x y s c z hz w).mono fun e w' k => ⟨_, k.1, Or.inr ⟨h1, z.toUTF8, reB_app z⟩, k.2⟩
set_option maxRecDepth 100000 in
set_option maxHeartbeats 4000000 in
theorem told_pan (h : Int) (F : Value) (w : World) (HC : Hid (Calls Tryd.prog 25 #[F] w fun e w' => (∃ u pv, e = .returned (.tuple #[.iface u pv, .bool true]) ∧ Pan h u pv) ∧ Below w.heap.size w w')) :
    Calls Tryd.prog 16 #[F] w fun e w' => ∃ t, e = .returned (.tuple #[.string t, .bool true]) ∧ TellOk h t ∧ Below w.heap.size w w' := by
  go_enter Tryd.func16, Tryd.ntmps16
  go_wp2_with fail
  go_at_call 25; refine HC.out.mono ?_; rintro e w5 ⟨⟨u, pv, rfl, hp⟩, hb5⟩
  have HB5 := Lib.hid hb5
  have HW := Lib.hid (words_any h u pv w5 hp)
  clear hb5 hp
  go_wp2_with fail
  go_at_call 35; refine HW.out.mono ?_; rintro e w6 ⟨t, rfl, ht, hb6⟩
  have HB6 := Lib.hid (bel_step HB5.out hb6)
  have HT := Lib.hid ht
  clear hb6 ht
  go_wp2
  go_ret2
  exact ⟨_, rfl, HT.out, HB6.out⟩
set_option maxRecDepth 100000 in
set_option maxHeartbeats 4000000 in
theorem told_none (F : Value) (w : World) (HC : Hid (Calls Tryd.prog 25 #[F] w fun e w' => e = .returned (.tuple #[.nilIface, .bool false]) ∧ Below w.heap.size w w')) :
    Calls Tryd.prog 16 #[F] w fun e w' => e = .returned (.tuple #[.string ⟨#[]⟩, .bool false]) ∧ Below w.heap.size w w' := by
  go_enter Tryd.func16, Tryd.ntmps16
  go_wp2_with fail
  go_at_call 25; refine HC.out.mono ?_; rintro e w5 ⟨rfl, hb5⟩
  have HB5 := Lib.hid hb5
  clear hb5
  go_wp2
  go_ret2
  exact ⟨rfl, HB5.out⟩
end Num
end Go.Proofs.YtgeicgfijnabkaaDoor
