/-
  Replies in order of their ids: slices.SortFunc of at most twelve of them.
-/
import Derived.Test.YtijfgmhdkflfmaaSs
import Derived.Test.YtijfgmhdkflfmaaSc
import Derived.Test.YtijfgmhdkflfmaaSrtShelf
namespace Go.Proofs.Ytijfgmhdkflfmaa
open Go.RowKit
namespace Num
open Ints
set_option linter.unusedSimpArgs false
set_option linter.unusedVariables false
abbrev RE.c9 {n : Nat} (r : RE n) : List Value := [.int .u32 r.x.1, .int .u32 r.x.2.1, .int .u16 r.x.2.2, .int .i64 r.e, .int .i64 r.K, .int .i64 r.I, .float .f64 r.F, .string r.S, .slice r.q r.m r.d]
instance {n : Nat} : Inhabited (RE (n + 1)) := ⟨⟨(0, 0, 0), 0, 0, 0, 0, ⟨#[]⟩, none, 0, 0, ((0, 0, 0, ⟨#[]⟩, []) : VT (n + 1))⟩⟩
theorem cmpLaysR (n : Nat) (blk off size : Nat) (w : World) : CmpLays Try.prog 30 #[] (RE.c9 (n := n + 1)) 9 cfR blk off size w :=
  fun _ _ _ _ x y => byids_any (n + 1) x y _
theorem hlenR (n : Nat) (W : World) (h : n ≤ 12) : Calls Try.prog 42 #[.int .u64 n] W fun e w' => (∃ l : Int, e = .returned (.int .i64 l)) ∧ w' = W :=
  (Any.bits_Len Try.bitsLenRe n W (by omega) (by omega)).mono fun _ _ ⟨he, hw⟩ => ⟨⟨_, he⟩, hw⟩
theorem sortR_any (n : Nat) (blk off cap : Nat) (d : Array (RE (n + 1))) (w : World) (hH : Sort.HoldsK (RE.c9 (n := n + 1)) 9 w blk off d) (hblk : blk < w.heap.size) (h12 : d.size ≤ 12) :
    Calls Try.prog 29 #[.slice (some ⟨blk, off, none⟩) d.size cap, .func (.func 30) #[] #[]] w fun e w' => e = .returned (.tuple #[]) ∧ ∃ m os, w' = sortWorldK (RE.c9 (n := n + 1)) 9 w blk off m (Sort.insertionSort (ltOf cfR) d 0 d.size) os := by
  have eg : ∀ args w, (callFunc 30 args).run Try.prog w = .ok (.enter 30 args) w := enters_of Try.func30 (by kernel_rfl) rfl
  exact AnyQ.slices_SortFunc_small Try.sortRe 9 Try.isAgg43 Try.sizeOf43 (RE.c9 (n := n + 1)) (fun _ => rfl) (fun x v hv => by
    simp only [RE.c9, List.mem_cons, List.not_mem_nil, or_false] at hv
    rcases hv with rfl | rfl | rfl | rfl | rfl | rfl | rfl | rfl | rfl <;> rfl) cfR 30 #[] blk off cap d w eg (cmpLaysR n blk off d.size w) hH hblk h12 hlenR
end Num
end Go.Proofs.Ytijfgmhdkflfmaa
