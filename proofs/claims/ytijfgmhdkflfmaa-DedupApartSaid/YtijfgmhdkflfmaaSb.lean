/-
  A table of replies, as it lies; what leaves it as it is.
-/
import Derived.Test.YtijfgmhdkflfmaaSa
import Derived.Test.YtijfgmhdkflfmaaKV
import Derived.Deep.RegionHeld3
import Derived.Deep.DeepCutAuto
import Derived.RegionTactic
namespace Go.Proofs.Ytijfgmhdkflfmaa
open Go.RowKit
namespace Num
open Ints
set_option linter.unusedSimpArgs false
set_option linter.unusedVariables false
theorem repC_pln {w : World} : ∀ (n : Nat) (S : Nat → Prop) (v : Value) (T : VT n), RepC w n S v T → RepC w n (fun b => S b ∧ Pln w b) v T := by
  intro n
  induction n with
  | zero => intro S v T h; exact h.elim
  | succ n ih =>
    intro S v T h
    obtain ⟨p, l, c, hv, h1, h2, h3, h4, k1, k2, k3, k4⟩ := h
    refine ⟨p, l, c, hv, h1, h2, h3, h4, k1, k2, k3, fun hl => ?_⟩
    obtain ⟨b, off, hp, hSb, hpl, g, hi⟩ := k4 hl
    refine ⟨b, off, hp, ⟨hSb, hpl⟩, hpl, g, fun i hi' => ?_⟩
    obtain ⟨v0, v1, v2, v3, v4, c0, c1, c2, c3, c4, hr⟩ := hi i hi'
    exact ⟨v0, v1, v2, v3, v4, c0, c1, c2, c3, c4, repC_mono n _ _ _ _ (fun x ⟨⟨m1, m2, m3⟩, m4⟩ => ⟨⟨m1, m4⟩, m2, m3⟩) (ih _ _ _ hr)⟩
structure TabG (n : Nat) (w : World) (tb mr mc : Nat) (R : List (RE n)) (C : List KE) : Prop where
  tab : w.heap[tb]? = some (.cells #[.map (some mr), .map (some mc)] 62 (0, 0))
  rep : ∃ es ck, w.heap[mr]? = some (.map es ck) ∧ KvR es ck R
  cal : ∃ fs ck, w.heap[mc]? = some (.map fs ck) ∧ fs.toList.map kv = C.map KE.kv
  row : ∀ x ∈ C, w.ownsRow 0 79 2 x.v x.L.length (x.L.flatMap CE.cells)
  ids : ∀ x ∈ C, ∀ y ∈ x.L, w.ownsRow 0 40 3 y.v y.ids.length (y.ids.flatMap didC)
  val : ∀ r ∈ R, RepC w n (fun _ => True) r.v r.T
  ne : mr ≠ mc
/-- The blocks of a table that Put may write. -/
def FtG (mr mc : Nat) (C : List KE) (b : Nat) : Prop := b = mr ∨ b = mc ∨ ∃ x ∈ C, b = x.b ∨ ∃ y ∈ x.L, b = y.ib
theorem own_to {w w' : World} {e : TypeId} {q g c n : Nat} {xs : List Value} (h : w.ownsRow 0 e q (.slice (some ⟨g, 0, none⟩) n c) n xs) (hk : g < w.heap.size → w'.heap[g]? = w.heap[g]?) : w'.ownsRow 0 e q (.slice (some ⟨g, 0, none⟩) n c) n xs := by
  refine ⟨h.1, ?_⟩
  rcases h.2 with ⟨hn, _⟩ | ⟨g', cap, cur, hv, hb, hg, rest⟩
  · cases hn
  · injection hv with e1 e2 e3
    injection e1 with e1
    injection e1 with e1
    subst e1 e3
    exact Or.inr ⟨g, c, cur, rfl, hb, (hk (row_lt hg)).trans hg, rest⟩
/-- A table stays where its blocks and its values' stay. -/
theorem tabG_to {n : Nat} {w w' : World} {tb mr mc : Nat} {R : List (RE n)} {C : List KE} (h : TabG n w tb mr mc R C) (hk : ∀ b, b < w.heap.size → (b = tb ∨ FtG mr mc C b ∨ Pln w b) → w'.heap[b]? = w.heap[b]?) : TabG n w' tb mr mc R C := by
  obtain ⟨h1, ⟨es, ck, h2, h2'⟩, ⟨fs, ck', h3, h3'⟩, h4, h5, h6, h7⟩ := h
  refine ⟨(hk _ (row_lt h1) (Or.inl rfl)).trans h1, ⟨es, ck, (hk _ (row_lt h2) (Or.inr (Or.inl (Or.inl rfl)))).trans h2, h2'⟩, ⟨fs, ck', (hk _ (row_lt h3) (Or.inr (Or.inl (Or.inr (Or.inl rfl))))).trans h3, h3'⟩, fun x hx => own_to (h4 x hx) (fun hl => hk _ hl (Or.inr (Or.inl (Or.inr (Or.inr ⟨x, hx, Or.inl rfl⟩))))), fun x hx y hy => own_to (h5 x hx y hy) (fun hl => hk _ hl (Or.inr (Or.inl (Or.inr (Or.inr ⟨x, hx, Or.inr ⟨y, hy, rfl⟩⟩))))), fun r hr => ?_, h7⟩
  exact repC_mono _ _ _ _ _ (fun _ _ => trivial) (repC_keep _ _ _ _ (fun b hb => hk b hb.1.2 (Or.inr (Or.inr hb.2))) (repC_pln _ _ _ _ (repC_lt _ _ _ _ (h6 r hr))))
theorem tabG_step {n : Nat} {w w' : World} {tb mr mc : Nat} {R : List (RE n)} {C : List KE} (h : TabG n w tb mr mc R C) (hb : Below w.heap.size w w') : TabG n w' tb mr mc R C := tabG_to h (fun b hl _ => hb.block b hl)
set_option maxRecDepth 100000 in
theorem new_any (n : Nat) (w : World) : Calls Try.prog 7 #[] w fun e w' => e = .returned (.pointer (some ⟨w.heap.size + 2, 0, none⟩)) ∧ Below w.heap.size w w' ∧ w.heap.size + 2 < w'.heap.size ∧ TabG n w' (w.heap.size + 2) w.heap.size (w.heap.size + 1) [] [] := by
  have hmm := @run_makeMap Try.prog
  go_enter Try.func7, Try.ntmps7
  go_wp2
  go_ret
  refine ⟨rfl, ?_, ?_, ?_⟩
  · exact (((Below.refl _ _).alloc (Nat.le_refl _) _).alloc (by simp) _).alloc (by simp; omega) _
  · simp
  · have h0 : ((w.alloc (.map #[] 0)).alloc (.map #[] 0)).heap[w.heap.size]? = some (.map #[] 0) := by rw [Below.heap_alloc _ _ _ (by simp)]; exact (MapKept.heap_alloc w _).1
    have h1 : ((w.alloc (.map #[] 0)).alloc (.map #[] 0)).heap[w.heap.size + 1]? = some (.map #[] 0) := by
      have := (MapKept.heap_alloc (w.alloc (.map #[] 0)) (.map #[] 0)).1
      rwa [World.size_alloc] at this
    refine ⟨?_, ⟨#[], 0, (row_alloc_step h0 _), rfl, MapKept.stamped_empty 0⟩, ⟨#[], 0, (row_alloc_step h1 _), rfl⟩, fun x hx => absurd hx (List.not_mem_nil), fun x hx => absurd hx (List.not_mem_nil), fun x hx => absurd hx (List.not_mem_nil), by omega⟩
    have := row_alloc ((w.alloc (.map #[] 0)).alloc (.map #[] 0)) #[.map (some w.heap.size), .map (some (w.heap.size + 1))] 62
    rwa [World.size_alloc, World.size_alloc] at this
/-- Whether an id is too old. -/
def oldC (C : List KE) (x : DId) : Bool := match getC C x.1 with | some k => k.L.length == 4 && (match k.L with | y :: _ => decide (x.2.1 < y.s) | [] => false) | none => false
theorem own_cell {w : World} {e : TypeId} {q g c n : Nat} {xs : List Value} (h : w.ownsRow 0 e q (.slice (some ⟨g, 0, none⟩) n c) n xs) (j : Nat) (u : Value) (hj : xs[j]? = some u) : w.cell? ⟨g, j, none⟩ = some u := by
  have := h.cells (g := g) rfl j u hj
  rwa [Addr.add_lit, Nat.zero_add] at this
set_option maxRecDepth 100000 in
set_option maxHeartbeats 4000000 in
theorem old_any (n : Nat) (w : World) (tb mr mc : Nat) (R : List (RE n)) (C : List KE) (x : DId) (h : TabG n w tb mr mc R C) :
    Calls Try.prog 22 #[.pointer (some ⟨tb, 0, none⟩), didA x] w fun e w' => e = .returned (.bool (oldC C x)) ∧ Below w.heap.size w w' := by
  have h1 := tabG_step h ((Below.refl w.heap.size w).alloc (Nat.le_refl _) (.cells #[.int .u32 x.1, .int .u32 x.2.1, .int .u16 x.2.2] 40))
  obtain ⟨fs, ck, hm, hf⟩ := h1.cal
  have t1 := row_cell h1.tab 1
  simp only [List.getElem?_toArray, List.getElem?_cons_zero, List.getElem?_cons_succ] at t1
  have hl1 := look_u32 (w.alloc (.cells #[.int .u32 x.1, .int .u32 x.2.1, .int .u16 x.2.2] 40)) mc fs ck C x.1 hm hf
  have hl2 := look_u32 (w.alloc (.cells #[.int .u32 x.1, .int .u32 x.2.1, .int .u16 x.2.2] 40)).drew mc fs ck C x.1 hm hf
  have HB := Lib.hid ((Below.refl w.heap.size w).alloc (Nat.le_refl _) (.cells #[.int .u32 x.1, .int .u32 x.2.1, .int .u16 x.2.2] 40))
  have HR := Lib.hid (fun k hk => h1.row k hk)
  clear h h1 hm hf
  obtain ⟨o, ho⟩ : ∃ o, oldC C x = o := ⟨_, rfl⟩
  rw [ho]
  unfold oldC at ho
  cases hg : getC C x.1 with
  | none =>
    rw [hg] at hl1 hl2 ho
    simp only at hl1 hl2 ho
    have HX := Lib.hid (show Ending.returned (.bool false) = .returned (.bool o) by rw [← ho])
    clear ho
    go_enter Try.func22, Try.ntmps22
    go_wp2_with fail
    go_region
    go_wp2_with fail
    go_quiet (fail)
    go_wp2
    go_ret
    exact ⟨HX.out, bel_drewN _ (Below.drew HB.out)⟩
  | some k =>
    rw [hg] at hl1 hl2 ho
    simp only at hl1 hl2 ho
    have hk := HR.out k (List.mem_of_find?_eq_some hg)
    unfold KE.v at hl1 hl2
    by_cases h4 : k.L.length = 4
    · obtain ⟨y, L, hL⟩ : ∃ y L, k.L = y :: L := by cases hL : k.L with | nil => rw [hL] at h4; cases h4 | cons y L => exact ⟨y, L, rfl⟩
      have hc := own_cell hk 0 (.int .u32 y.s) (by rw [hL]; rfl)
      have HX := Lib.hid (show Ending.returned (.bool (decide (x.2.1 < y.s))) = .returned (.bool o) by rw [← ho, h4, hL]; rfl)
      have hc1 := cell_keep (w' := (w.alloc (.cells #[.int .u32 x.1, .int .u32 x.2.1, .int .u16 x.2.2] 40)).drew) (Below.drew (Below.refl _ _)) hc
      rw [h4] at hl1 hl2
      clear hk h4 hL ho
      go_enter Try.func22, Try.ntmps22
      go_wp2_with fail
      go_region
      go_wp2_with fail
      go_quiet (fail)
      go_wp2
      go_ret
      exact ⟨HX.out, bel_drewN _ (Below.drew HB.out)⟩
    · have hd : ¬ ((k.L.length : Int) = 4) := by omega
      have HX := Lib.hid (show Ending.returned (.bool false) = .returned (.bool o) by rw [← ho, show (k.L.length == 4) = false by simpa using h4]; rfl)
      have hd' : decide ((k.L.length : Int) = 4) = false := decide_eq_false hd
      clear hk h4 ho
      go_enter Try.func22, Try.ntmps22
      go_wp2_with fail
      go_region
      go_wp2_with fail
      go_quiet (fail)
      go_wp2
      go_ret
      exact ⟨HX.out, bel_drewN _ (Below.drew HB.out)⟩
end Num
end Go.Proofs.Ytijfgmhdkflfmaa
