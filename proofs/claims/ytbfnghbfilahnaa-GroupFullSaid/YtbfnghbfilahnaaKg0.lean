/-
  Groups collected out of an iterator: slices.AppendSeq, slices.Collect.
-/
import Derived.Test.YtbfnghbfilahnaaKf0
import Derived.RangeFuncGives
import Derived.RangeFuncIn
import Derived.RangeFuncRecord
import Derived.Maps.AppendAt
import Derived.Shelf.Abstract
import Derived.Shelf.SlIter.Collect
namespace Go.Proofs.Ytbfnghbfilahnaa
open Go.RowKit
namespace Num
open Ints
set_option linter.unusedSimpArgs false
set_option linter.unusedVariables false
/-- The two codes of a loop over a function. -/
def rfOf : Code → Option (Code × Code)
  | .rangeFunc _ _ a b => some (a, b)
  | .seq a b => match rfOf a with
    | some c => some c
    | none => rfOf b
  | .block _ c => rfOf c
  | _ => none
/-- The loop's record. -/
def apR (A B : Code) (fn : FuncId) (sv : Value) (Bs D : Nat) (st : LoopState) : Loop :=
  { state := st, pending := none, fn, tmps := #[.slice none 0 0, sv, .pointer (some ⟨Bs, 0, none⟩), undef, .slice none 0 0, undef, sv, undef, undef, undef, undef, undef, undef], params := #[7], assign := A, body := B, defers := D }
/-- Between two rounds: the box holds a slice of the call's own with what has come. -/
structure ApG (A B : Code) (w0 : World) (fn : FuncId) (sv : Value) (Bs l D : Nat) (ss : List Gp) (W : World) : Prop where
  box : ∃ v, W.heap[Bs]? = some (.cells #[v] 27 (0, 0)) ∧ W.ownsRow w0.heap.size 49 4 v ss.length (ss.flatMap Gp.c4)
  L : W.heap[l]? = some (.loop (apR A B fn sv Bs D .ready))
  K : W.heap[D]? = some (.deferred (some []))
  below : Below w0.heap.size w0 W
theorem ap_abides (A C : Code) (w0 : World) (fn : FuncId) (sv : Value) (Bs l D B : Nat) (hB : w0.heap.size ≤ B) : AbidesFrom B (ApG A C w0 fn sv Bs l D) := fun s W W' row h hg hrow => by
  have hrow' : ∀ r, row = some r → ∃ o : Obj, W.heap[r]? = some o ∧ o.isWalk = true := fun r e => (hrow r e).2
  obtain ⟨v, hv, hr⟩ := h.box
  exact ⟨⟨v, (grownBy_keeps hg hrow' hv rfl).trans hv, ownsRow_abides_a hr hg hrow'⟩, (grownBy_keeps hg hrow' h.L rfl).trans h.L, (grownBy_keeps hg hrow' h.K rfl).trans h.K,
    h.below.grown hg h.below.size (fun k e => Nat.le_trans hB (hrow k e).1)⟩
theorem ggb_bel {W W' : World} (h : Below W.heap.size W W') : W.grownBy W' none := ⟨h.os, h.tape, h.output, h.size, fun k hk _ => h.block k hk⟩
theorem wpIn_code {F : Fence} {n : Nat} {P : Program} {A A' : Code} {Q : Exit → Act → World → Prop} {a : Act} {w : World} (h : A' = A) (k : Code.wpIn F n P A' Q a w) : Code.wpIn F n P A Q a w := h ▸ k
theorem info_gp : (Try.prog.info? 49).map (fun i => (i.zero, i.size, i.bytes)) = some (some gpZ, 4, 48) := by kernel_rfl
theorem tl_ne : 27 ≠ 49 := by decide
set_option maxRecDepth 100000 in
set_option maxHeartbeats 8000000 in
theorem ap_yield (A B : Code) (hAB : Try.f58.body.bind rfOf = some (A, B)) (F : Fence) (m : Nat) (w0 : World) (fn : FuncId) (hfn : F.fn fn) (sv : Value) (Bs l D : Nat) (hBl : Bs ≠ l) (hDl : D ≠ l) (hDB : D ≠ Bs) (h0B : w0.heap.size ≤ Bs) (h0l : w0.heap.size ≤ l)
    (N : Nat) (hN : N ≤ 1000) (ss : List Gp) (x : Gp) (W : World) (h : ApG A B w0 fn sv Bs l D ss W) (hlen : ss.length < N) :
    YieldAt F m Try.prog l #[Gp.a x] W fun e W' => e = .returned (.bool true) ∧ ApG A B w0 fn sv Bs l D (ss ++ [x]) W' ∧ KeepsWalks W W' := by
  obtain ⟨i0, hi, hz0, hz1, hz2⟩ := info_parts info_gp
  obtain ⟨v, hv, hrow⟩ := h.box
  obtain ⟨xn, xc, xs, xv⟩ := x
  refine ⟨fn, #[.slice none 0 0, sv, .pointer (some ⟨Bs, 0, none⟩), undef, .slice none 0 0, undef, sv, .agg #[.string xn, .string xc, .int .i64 xs, .int .u32 xv], undef, undef, undef, undef, undef], A, B, by simpa [apR] using run_yield (P := Try.prog) (args := #[.agg #[.string xn, .string xc, .int .i64 xs, .int .u32 xv]]) h.L rfl, roundIn_of_wpIn hfn ?_⟩
  have hl : l < W.heap.size := row_lt h.L
  obtain ⟨W1, hW1⟩ : ∃ V, W.alloc (.cells #[.string xn, .string xc, .int .i64 xs, .int .u32 xv] 49) = V := ⟨_, rfl⟩
  have hV1 : W1.heap[W.heap.size]? = some (.cells #[.string xn, .string xc, .int .i64 xs, .int .u32 xv] 49 (0, 0)) := by rw [← hW1]; exact row_alloc W _ _
  have hb1 : Below W.heap.size W W1 := by rw [← hW1]; exact bel_alloc (Below.refl _ _) _
  have hL1 := (hb1.block l hl).trans h.L
  have hv1 := (hb1.block Bs (row_lt hv)).trans hv
  have hK1 := (hb1.block D (row_lt h.K)).trans h.K
  have hrow1 : W1.ownsRow w0.heap.size 49 4 v ss.length (ss.flatMap Gp.c4) := hrow.kept (ggb_bel hb1) (by cases hx : v.ownBlock with | none => exact Or.inl rfl | some q => exact Or.inr (by simp))
  have hB1 : Below w0.heap.size w0 W1 := Below.trans h.below (hb1.mono h.below.size)
  have hl1 : l < W1.heap.size := row_lt hL1
  have hlg : l ≠ W.heap.size := by omega
  have hbr := run_beginRound (P := Try.prog) hL1 rfl
  obtain ⟨y, hy⟩ : ∃ V, W1.putObj l (.loop { apR A B fn sv Bs D .ready with state := .busy }) = V := ⟨_, rfl⟩
  rw [hy] at hbr
  have hg2 : W1.grownBy y (some l) := by rw [← hy]; exact grownBy_putObj_a _ _ _
  have hk3 : KeepsWalks W y := by rw [← hy]; exact (KeepsWalks.of_grownBy (ggb_bel hb1) (fun j o e _ => by cases e)).trans (KeepsWalks.putObj _ hL1 rfl)
  have hyV : y.heap[W.heap.size]? = some (.cells #[.string xn, .string xc, .int .i64 xs, .int .u32 xv] 49 (0, 0)) := by rw [← hy]; exact (World.putObj_heap_other (Ne.symm hlg)).trans hV1
  have hv3 : y.heap[Bs]? = some (.cells #[v] 27 (0, 0)) := by rw [← hy]; exact (World.putObj_heap_other hBl).trans hv1
  have hK3 : y.heap[D]? = some (.deferred (some [])) := by rw [← hy]; exact (World.putObj_heap_other hDl).trans hK1
  have hL3 : y.heap[l]? = some (.loop { apR A B fn sv Bs D .ready with state := .busy }) := by rw [← hy]; exact World.putObj_heap_same hl1
  have hrow3 : y.ownsRow w0.heap.size 49 4 v ss.length (ss.flatMap Gp.c4) := hrow1.kept hg2 (ownsRow_ne_a hrow1 hL1 (fun cur e => by cases e))
  have hb3 : Below w0.heap.size w0 y := hB1.grown hg2 hB1.size (fun k e => by cases e; exact h0l)
  have y0 := row_cell hyV 0; have y1 := row_cell hyV 1; have y2 := row_cell hyV 2; have y3 := row_cell hyV 3
  simp only [List.getElem?_toArray, List.getElem?_cons_zero, List.getElem?_cons_succ] at y0 y1 y2 y3
  have hyl := row_lt hyV
  obtain ⟨hc3, hf3⟩ := cell_of_box_a hv3
  have hBy : Bs < y.heap.size := row_lt hv3
  have hly : l < y.heap.size := row_lt hL3
  have hDy : D < y.heap.size := row_lt hK3
  -- behind the slice of one
  obtain ⟨y2, hy2⟩ : ∃ V, y.alloc (.cells #[.string xn, .string xc, .int .i64 xs, .int .u32 xv] 49) = V := ⟨_, rfl⟩
  have hb4 : Below y.heap.size y y2 := by rw [← hy2]; exact bel_alloc (Below.refl _ _) _
  have hrn : y2.heap[y.heap.size]? = some (.cells #[.string xn, .string xc, .int .i64 xs, .int .u32 xv] 49 (0, 0)) := by rw [← hy2]; exact row_alloc y _ _
  have hrow4 : y2.ownsRow w0.heap.size 49 4 v ss.length (ss.flatMap Gp.c4) := hrow3.kept (ggb_bel hb4) (by cases hx : v.ownBlock with | none => exact Or.inl rfl | some q => exact Or.inr (by simp))
  have hv4 := (hb4.block Bs hBy).trans hv3
  have hL4 := (hb4.block l hly).trans hL3
  have hK4 := (hb4.block D hDy).trans hK3
  have hk4 := hk3.trans (KeepsWalks.of_grownBy (ggb_bel hb4) (fun j o e _ => by cases e))
  have hb5 : Below w0.heap.size w0 y2 := Below.trans hb3 (hb4.mono hb3.size)
  have hnews : ∀ (j : Nat) u, ([.string xn, .string xc, .int .i64 xs, .int .u32 xv] : List Value)[j]? = some u → y2.cell? ((⟨y.heap.size, 0, none⟩ : Addr).add j) = some u := fun j u hj => by
    rw [Addr.add_lit, Nat.zero_add, row_cell hrn j, List.getElem?_toArray]
    exact hj
  have hone : ∀ u ∈ ([.string xn, .string xc, .int .i64 xs, .int .u32 xv] : List Value), u.oneCell' = true := fun u hu => by
    simp only [List.mem_cons, List.not_mem_nil, or_false] at hu
    rcases hu with rfl | rfl | rfl | rfl <;> rfl
  have H4 := Lib.hid (And.intro hrow4 (And.intro hv4 (And.intro hL4 (And.intro hK4 (And.intro hk4 hb5)))))
  have HN := Lib.hid hnews
  have HO := Lib.hid hone
  have HH := Lib.hid h
  have HBS := Lib.hid (show w0.heap.size ≤ y2.heap.size from hb5.size)
  have hbr' : (Instr.beginRound l).run Try.prog (W.alloc (.cells #[.string xn, .string xc, .int .i64 xs, .int .u32 xv] 49)) = .ok () y := by rw [hW1]; exact hbr
  subst hy2
  clear hy hW1 hV1 hb1 hL1 hv1 hK1 hrow1 hB1 hl1 hg2 hk3 hyV hv3 hK3 hL3 hrow3 hb3 hb4 hrn hrow4 hv4 hL4 hK4 hk4 hb5 hnews hone h hv hrow hl hly hDy hbr
  have u1 := Try.underlying27
  simp only [Try.f58, Option.bind_some, rfOf, Option.some.injEq, Prod.mk.injEq] at hAB
  obtain ⟨hA, hBd⟩ := hAB
  refine wpIn_code hA ?_
  clear hA
  gi_wp2_with (rw [Oper.semAt_eq _ _ _ (fun c h => by cases h)]; go_simp; try go_bits)
  refine wpIn_code hBd ?_
  clear hBd hbr'
  gi_wp2_with (first
    | (gi_at_builtin; refine wpListIn_append_own _ rfl _ _ 27 rfl w0.heap.size 49 i0 _ 4 48 Try.underlying27 hi hz0 hz1 hz2 rfl (by decide) v ss.length _ rfl H4.out.1 ⟨y.heap.size, 0, none⟩ 1 1 [.string xn, .string xc, .int .i64 xs, .int .u32 xv] rfl rfl HN.out HO.out (by unfold maxLen; omega) (by omega) HBS.out ?_; intro v' w3 hown' hg3 _
       obtain ⟨g', cap', cur', rfl, hbase', hgb', hr1, hr2, hr3, hr4⟩ : ∃ g' cap' cur', v' = .slice (some ⟨g', 0, none⟩) (ss.length + 1) cap' ∧ w0.heap.size ≤ g' ∧ w3.heap[g']? = some (.cells cur' 49 (0, 0)) ∧ ss.length + 1 ≤ cap' ∧ cap' ≤ maxLen ∧ cur'.size = cap' * 4 ∧ cur'.toList.take ((ss.length + 1) * 4) = ss.flatMap Gp.c4 ++ [.string xn, .string xc, .int .i64 xs, .int .u32 xv] := by
         rcases hown'.2 with ⟨_, h0⟩ | h'
         · exact absurd h0 (by omega)
         · exact h'
       have hne3 : ∀ {j : Nat} {o : Obj}, (y.alloc (.cells #[.string xn, .string xc, .int .i64 xs, .int .u32 xv] 49)).heap[j]? = some o → (∀ cur, o ≠ .cells cur 49 (0, 0)) → some j ≠ v.ownBlock := fun hj hno => by
         rcases ownsRow_ne_a H4.out.1 hj hno with e | e
         · rw [e]; simp
         · exact fun e' => e e'.symm
       have hv5 := (hg3.block Bs (row_lt H4.out.2.1) (hne3 H4.out.2.1 (fun cur e => by cases e))).trans H4.out.2.1
       have hL5 := (hg3.block l (row_lt H4.out.2.2.1) (hne3 H4.out.2.2.1 (fun cur e => by cases e))).trans H4.out.2.2.1
       have hK5 := (hg3.block D (row_lt H4.out.2.2.2.1) (hne3 H4.out.2.2.2.1 (fun cur e => by cases e))).trans H4.out.2.2.2.1
       obtain ⟨hc5, hf5⟩ := cell_of_box_a hv5
       have hl5 := row_lt hv5)
    | (rw [Oper.semAt_eq _ _ _ (fun c h => by cases h)]; go_simp; try go_bits))
  obtain ⟨w4, hw4⟩ : ∃ w4, w3.setCell ⟨Bs, 0, none⟩ (.slice (some ⟨g', 0, none⟩) (ss.length + 1) cap') = w4 := ⟨_, rfl⟩
  rw [hw4]
  have hg4 : w3.grownBy w4 (some Bs) := by rw [← hw4]; exact grownBy_setCell0_a _ _ _
  have hv6 : w4.heap[Bs]? = some (.cells #[.slice (some ⟨g', 0, none⟩) (ss.length + 1) cap'] 27 (0, 0)) := by rw [← hw4]; exact heap_setCell_box_a _ hv5
  have hL6 := (hg4.block l (row_lt hL5) (fun e => hBl (by cases e; rfl))).trans hL5
  have hK6 := (hg4.block D (row_lt hK5) (fun e => hDB (by cases e; rfl))).trans hK5
  have hrow6 := hown'.kept hg4 (ownsRow_ne_a hown' hv5 (fun cur e => by cases e))
  have hl6 := row_lt hL6
  have hb6 : Below w0.heap.size w0 w3 := H4.out.2.2.2.2.2.grown hg3 H4.out.2.2.2.2.2.size (fun k e => (H4.out.1.lt k e).1)
  have hb7 : Below w0.heap.size w0 w4 := hb6.grown hg4 hb6.size (fun k e => by cases e; exact h0B)
  have hk6 : KeepsWalks W w4 := (H4.out.2.2.2.2.1.trans (KeepsWalks.of_grownBy hg3 (ownsRow_not_walk_a H4.out.1))).trans (by rw [← hw4]; exact KeepsWalks.setCell _ _ _)
  clear hw4
  refine ⟨_, _, run_endRound none hL6, rfl, ⟨⟨_, (World.putObj_heap_other hBl).trans hv6, ?_⟩, World.putObj_heap_same hl6, (World.putObj_heap_other hDl).trans hK6, hb7.grown (grownBy_putObj_a _ _ _) hb7.size (fun k e => by cases e; exact h0l)⟩, hk6.trans (KeepsWalks.putObj _ hL6 rfl)⟩
  have e1 : (ss ++ [(⟨xn, xc, xs, xv⟩ : Gp)]).flatMap Gp.c4 = ss.flatMap Gp.c4 ++ [.string xn, .string xc, .int .i64 xs, .int .u32 xv] := by rw [List.flatMap_append]; rfl
  have e2 : (ss ++ [(⟨xn, xc, xs, xv⟩ : Gp)]).length = ss.length + 1 := by rw [List.length_append]; rfl
  rw [e1, e2]
  exact hrow6.kept (grownBy_putObj_a w4 l _) (ownsRow_ne_a hrow6 hL6 (fun cur e => by cases e))
set_option maxRecDepth 100000 in
set_option maxHeartbeats 4000000 in
/-- slices.AppendSeq onto nil: a new slice of what the iterator gives. -/
theorem apseq_in (F : Fence) (n : Nat) (h11 : F.fn 58) (hro : F.round = none) (hn : 2 ≤ n) (g : Nat) (lb : Array Value) (hFg : F.fn g) (eg : ∀ args w, (callFunc g args).run Try.prog w = .ok (.enter g args) w)
    (S : List Gp → Prop) (N : Nat) (hN : N ≤ 1000) (w : World) (hseq : SeqGives F (n - 1) Try.prog g lb Gp.a S N w) :
    CallsIn F n Try.prog 58 #[.slice none 0 0, .func (.func g) #[] lb] w fun e w' => ∃ (v : Value) (ss : List Gp), e = .returned v ∧ S ss ∧ w'.ownsRow w.heap.size 49 4 v ss.length (ss.flatMap Gp.c4) ∧ Below w.heap.size w w' := by
  have h1 : 1 ≤ n := by omega
  refine callsIn_of_wp_marks Try.func58 rfl h11 ?_ hro
  simp only [Try.ntmps58, List.size_toArray, List.length_cons, List.length_nil, Nat.reduceAdd, Nat.reduceSub, Array.replicate_succ, Array.replicate_zero, List.push_toArray, List.append_toArray, List.nil_append, List.cons_append]
  gi_wp2
  refine wpIn_rangeFunc ?_
  intro fn hfn
  rw [hro]
  obtain ⟨W0, hW0⟩ : ∃ W0, w.alloc (.cells #[.slice none 0 0] 27) = W0 := ⟨_, rfl⟩
  have hs0 : W0.heap.size = w.heap.size + 1 := by rw [← hW0]; simp
  have hv0 : W0.heap[w.heap.size]? = some (.cells #[.slice none 0 0] 27 (0, 0)) := by rw [← hW0]; exact row_alloc w _ _
  have hb0 : Below w.heap.size w W0 := by rw [← hW0]; exact bel_alloc (Below.refl _ w) _
  rw [hW0]
  obtain ⟨A, hA⟩ : ∃ A, A = ((Try.f58.body.bind rfOf).map Prod.fst).getD .skip := ⟨_, rfl⟩
  obtain ⟨B, hB⟩ : ∃ B, B = ((Try.f58.body.bind rfOf).map Prod.snd).getD .skip := ⟨_, rfl⟩
  have hAB : Try.f58.body.bind rfOf = some (A, B) := by rw [hA, hB]; rfl
  simp only [Try.f58, Option.bind_some, rfOf, Option.map_some, Option.getD_some] at hA hB
  rw [← hA, ← hB]
  clear hA hB
  obtain ⟨W1, hW1⟩ : ∃ W1, (W0.alloc (.deferred (some []))).alloc (.loop (apR A B fn (.func (.func g) #[] lb) w.heap.size W0.heap.size .ready)) = W1 := ⟨_, rfl⟩
  have hold : ∀ k, k < W0.heap.size → W1.heap[k]? = W0.heap[k]? := fun k hk => by
    rw [← hW1]; exact (Below.heap_alloc _ _ k (by simp; omega)).trans (Below.heap_alloc _ _ k hk)
  have hb1 : Below w.heap.size w W1 := by rw [← hW1]; exact (hb0.alloc hb0.size _).alloc (by have := hb0.size; simp; omega) _
  have hs1 : W1.heap.size = W0.heap.size + 2 := by rw [← hW1]; simp
  have hM : ApG A B w fn (.func (.func g) #[] lb) w.heap.size (W0.heap.size + 1) W0.heap.size [] W1 :=
    ⟨⟨_, (hold w.heap.size (by omega)).trans hv0, ⟨rfl, .inl ⟨rfl, rfl⟩⟩⟩,
     by rw [← hW1]; have := World.alloc_heap_new (W0.alloc (.deferred (some []))) (.loop (apR A B fn (.func (.func g) #[] lb) w.heap.size W0.heap.size .ready)); rwa [World.size_alloc] at this,
     by rw [← hW1]; exact (Below.heap_alloc _ _ _ (by simp)).trans (World.alloc_heap_new W0 _), hb1⟩
  refine ⟨W0.heap.size + 1, [{ target := .collected W0.heap.size, args := #[] }], W1, { target := .fn (.func g) lb, args := #[.func (.yield (W0.heap.size + 1)) #[] #[]] }, W1, g,
    #[.func (.yield (W0.heap.size + 1)) #[] #[]] ++ lb, W1, ?_, ?_, ?_, ?_, fun _ => h1, ?_⟩
  · rw [← hW1]; exact run_enterLoop_outer _ _ _ _ _
  · simp [resolve, go_sem]
  · intro f' hf'; simp [Target.leads] at hf'; subst hf'; exact hFg
  · simp [invoke, go_sem, eg]
  · refine (hseq (W0.heap.size + 1) (ApG A B w fn (.func (.func g) #[] lb) w.heap.size (W0.heap.size + 1) W0.heap.size) W1 hb1 (ap_abides A B _ _ _ _ _ _ _ hb1.size)
      (fun pre x W hJ hl => ap_yield A B hAB F (n - 1 - 1) w fn hfn _ w.heap.size (W0.heap.size + 1) W0.heap.size (by omega) (by omega) (by omega) (Nat.le_refl _) (by omega) N hN pre x W hJ hl) hM).mono ?_
    rintro e W2 ⟨⟨v0, rfl⟩, ss, hS, h2⟩
    obtain ⟨v, hv, hrow⟩ := h2.box
    have hend := run_endLoop (P := Try.prog) h2.L (by simp [apR])
    obtain ⟨W3, hW3⟩ : ∃ W3, W2.putObj (W0.heap.size + 1) (.loop { apR A B fn (.func (.func g) #[] lb) w.heap.size W0.heap.size .ready with state := .exhausted }) = W3 := ⟨_, rfl⟩
    rw [hW3] at hend
    have hg3 : W2.grownBy W3 (some (W0.heap.size + 1)) := by rw [← hW3]; exact grownBy_putObj_a _ _ _
    have hv3 : W3.heap[w.heap.size]? = some (.cells #[v] 27 (0, 0)) := by rw [← hW3]; exact (World.putObj_heap_other (by omega)).trans hv
    have hK3 : W3.heap[W0.heap.size]? = some (.deferred (some [])) := by rw [← hW3]; exact (World.putObj_heap_other (by omega)).trans h2.K
    have hrow3 := hrow.kept hg3 (ownsRow_ne_a hrow h2.L (fun cur e => by cases e))
    have hb3 : Below w.heap.size w W3 := h2.below.grown hg3 h2.below.size (fun k e => by cases e; omega)
    obtain ⟨hc3, hf3⟩ := cell_of_box_a hv3
    clear hW3
    refine ⟨none, W3, hend, ?_⟩
    gi_wp2
    rw [← hs0]
    refine ⟨by simp, .inl ⟨_, _, rfl, run_takeDeferred hK3, ?_⟩⟩
    exact ⟨_, results_tmp rfl _ _ _, v, ss, rfl, hS, hrow3.kept (grownBy_putObj_a _ _ _) (ownsRow_ne_a hrow3 hK3 (fun cur e => by cases e)), hb3.grown (grownBy_putObj_a _ _ _) hb3.size (fun k e => by cases e; omega)⟩
set_option maxHeartbeats 1000000 in
theorem coll_in (F : Fence) (n : Nat) (h8 : F.fn 42) (h11 : F.fn 58) (hro : F.round = none) (hn : 3 ≤ n) (g : Nat) (lb : Array Value) (hFg : F.fn g) (eg : ∀ args w, (callFunc g args).run Try.prog w = .ok (.enter g args) w)
    (S : List Gp → Prop) (N : Nat) (hN : N ≤ 1000) (w : World) (hseq : SeqGives F (n - 1 - 1) Try.prog g lb Gp.a S N w) :
    CallsIn F n Try.prog 42 #[.func (.func g) #[] lb] w fun e w' => ∃ (v : Value) (ss : List Gp), e = .returned v ∧ S ss ∧ w'.ownsRow w.heap.size 49 4 v ss.length (ss.flatMap Gp.c4) ∧ Below w.heap.size w w' := by
  have h1 : 1 ≤ n := by omega
  refine callsIn_of_wp Try.func42 rfl h8 ?_ hro
  simp only [Try.ntmps42, List.size_toArray, List.length_cons, List.length_nil, Nat.reduceAdd, Nat.reduceSub, Array.replicate_succ, Array.replicate_zero, List.push_toArray, List.append_toArray, List.nil_append, List.cons_append]
  gi_wp2_with (gi_at_call 58; refine (apseq_in F (n - 1) h11 hro (by omega) g lb hFg eg S N hN _ hseq).mono ?_; rintro e w' ⟨v, ss, rfl, hS, hrow, hb⟩)
  go_ret
  exact ⟨v, ss, rfl, hS, hrow, hb⟩
end Num
end Go.Proofs.Ytbfnghbfilahnaa
