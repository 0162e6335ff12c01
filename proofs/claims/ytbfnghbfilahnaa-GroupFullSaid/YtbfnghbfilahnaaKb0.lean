/-
  Package group: New, Get, create, destroy, style.
-/
import Derived.Test.YtbfnghbfilahnaaKa0
import Derived.Test.YtbfnghbfilahnaaWLo
import Derived.RegionTactic
import Derived.Deep.RegionHeld3
import Derived.Deep.DeepCutAuto
namespace Go.Proofs.Ytbfnghbfilahnaa
open Go.RowKit
namespace Num
open Ints
set_option linter.unusedSimpArgs false
set_option linter.unusedVariables false
theorem getG_n {L : List Gp} {x : ByteArray} {r : Gp} (hn : getG L x = some r) : r.n = x := by
  have := List.find?_some (p := fun g : Gp => bq x g.n) (show L.find? (fun g : Gp => bq x g.n) = some r from hn)
  exact ((bq_iff _ _).1 this).symm
set_option maxRecDepth 100000 in
set_option maxHeartbeats 4000000 in
theorem new_dir (w : World) : Calls Try.prog 6 #[] w fun e w' => ∃ tb mb, e = .returned (.pointer (some ⟨tb, 0, none⟩)) ∧ w.heap.size ≤ mb ∧ w.heap.size ≤ tb ∧ DirG w' tb mb [] ∧ Below w.heap.size w w' := by
  have hmm := @run_makeMap Try.prog
  go_enter Try.func6, Try.ntmps6
  go_wp2
  go_ret
  refine ⟨w.heap.size + 1, w.heap.size, rfl, Nat.le_refl _, Nat.le_succ _, ⟨?_, #[], 0, ?_, rfl, MapKept.stamped_empty 0⟩, bel_alloc (bel_alloc (Below.refl _ _) _) _⟩
  · have := row_alloc (w.alloc (.map #[] 0)) #[.map (some w.heap.size)] 58
    rwa [World.size_alloc] at this
  · exact row_alloc_step (MapKept.heap_alloc w _).1 _
set_option maxRecDepth 100000 in
set_option maxHeartbeats 4000000 in
theorem get_some (w : World) (tb mb : Nat) (L : List Gp) (x : ByteArray) (r : Gp) (h : DirG w tb mb L) (hn : getG L x = some r) :
    Calls Try.prog 15 #[.pointer (some ⟨tb, 0, none⟩), .string x] w fun e w' => e = .returned (.tuple #[.agg #[.string r.n, .string r.c, .int .i64 r.s, .int .u32 r.v], .bool true]) ∧ Below w.heap.size w w' := by
  obtain ⟨g0, hg0⟩ : ∃ g, w.heap.size = g := ⟨_, rfl⟩
  obtain ⟨w0, hw0⟩ : ∃ W, w.alloc (.cells #[.string ⟨#[]⟩, .string ⟨#[]⟩, .int .i64 0, .int .u32 0] 49) = W := ⟨_, rfl⟩
  have hR0 : w0.heap[g0]? = some (.cells #[.string ⟨#[]⟩, .string ⟨#[]⟩, .int .i64 0, .int .u32 0] 49 (0, 0)) := by rw [← hw0, ← hg0]; exact row_alloc w _ _
  have hb0 : Below w.heap.size w w0 := by rw [← hw0]; exact bel_alloc (Below.refl _ _) _
  obtain ⟨ht, es, ck, hm, hK⟩ := dir_step h hb0
  have t0 := row_cell ht 0
  simp only [List.getElem?_toArray, List.getElem?_cons_zero, List.getElem?_cons_succ] at t0
  have hlk := look_g w0 mb es ck L x hm hK
  have htl : tb < w0.heap.size := row_lt ht
  rw [hn] at hlk
  simp only at hlk
  obtain ⟨ga, hga⟩ : ∃ g, w0.heap.size = g := ⟨_, rfl⟩
  obtain ⟨za, hza⟩ : ∃ W, w0.alloc (.cells #[.string ⟨#[]⟩, .string ⟨#[]⟩, .int .i64 0, .int .u32 0] 49) = W := ⟨_, rfl⟩
  have hVa : za.heap[ga]? = some (.cells #[.string ⟨#[]⟩, .string ⟨#[]⟩, .int .i64 0, .int .u32 0] 49 (0, 0)) := by rw [← hza, ← hga]; exact row_alloc w0 _ _
  obtain ⟨ya, hya⟩ : ∃ y, setG4 za ga (.string r.n) (.string r.c) (.int .i64 r.s) (.int .u32 r.v) = y := ⟨_, rfl⟩
  have hbYa : Below w0.heap.size w0 ya := by rw [← hya, hga]; exact setG4_below (by rw [← hza, ← hga]; exact (Below.refl _ _).alloc (Nat.le_refl _) _) (Nat.le_refl _) (.string r.n) (.string r.c) (.int .i64 r.s) (.int .u32 r.v)
  have hyVa : ya.heap[ga]? = some (.cells #[.string r.n, .string r.c, .int .i64 r.s, .int .u32 r.v] 49 (0, 0)) := by rw [← hya]; exact setG4_at hVa (.string r.n) (.string r.c) (.int .i64 r.s) (.int .u32 r.v)
  have va0 := row_cell hVa 0; have va1 := row_cell hVa 1; have va2 := row_cell hVa 2; have va3 := row_cell hVa 3
  simp only [List.getElem?_toArray, List.getElem?_cons_zero, List.getElem?_cons_succ] at va0 va1 va2 va3
  have vfa := fun o => row_frz hVa o
  have HYa := Lib.hid (show ((((za.setCell ⟨ga, 0, none⟩ (.string r.n)).setCell ⟨ga, 1, none⟩ (.string r.c)).setCell ⟨ga, 2, none⟩ (.int .i64 r.s)).setCell ⟨ga, 3, none⟩ (.int .u32 r.v)) = ya from hya)
  have hRy := row_step hR0 hbYa
  have HB := Lib.hid (show Below g0 w ya by rw [← hg0]; exact Below.trans hb0 (hbYa.mono hb0.size))
  have HR := Lib.hid (And.intro hRy hyVa)
  have hgle := row_lt hR0
  have hgg : ga ≠ g0 := by omega
  clear hVa hya hyVa hbYa hb0 hR0 hRy ht hm hK h hn
  go_enter Try.func15, Try.ntmps15
  go_upto_region 2 with fail
  clear hza hw0 hlk
  rw [HYa.out]
  clear va0 va1 va2 va3 vfa t0 HYa
  have c0 := row_cell HR.out.2 0; have c1 := row_cell HR.out.2 1; have c2 := row_cell HR.out.2 2; have c3 := row_cell HR.out.2 3
  simp only [List.getElem?_toArray, List.getElem?_cons_zero, List.getElem?_cons_succ] at c0 c1 c2 c3
  have r0 := row_cell HR.out.1 0; have r1 := row_cell HR.out.1 1; have r2 := row_cell HR.out.1 2; have r3 := row_cell HR.out.1 3
  simp only [List.getElem?_toArray, List.getElem?_cons_zero, List.getElem?_cons_succ] at r0 r1 r2 r3
  have rf := fun o => row_frz HR.out.1 o
  have hlg := row_lt HR.out.1
  have hlga := row_lt HR.out.2
  go_wp2
  refine bodyPost_ret (v := .tuple #[.agg #[.string r.n, .string r.c, .int .i64 r.s, .int .u32 r.v], .bool true]) (by simp [results, Try.results15, go_sem, World.cell?_setCell_same, World.cell?_setCell_other, r0, r1, r2, r3]) rfl ⟨rfl, ?_⟩
  rw [hg0]
  exact setG4_below HB.out (Nat.le_refl _) (.string r.n) (.string r.c) (.int .i64 r.s) (.int .u32 r.v)
set_option maxRecDepth 100000 in
set_option maxHeartbeats 4000000 in
theorem get_none (w : World) (tb mb : Nat) (L : List Gp) (x : ByteArray) (h : DirG w tb mb L) (hn : getG L x = none) :
    Calls Try.prog 15 #[.pointer (some ⟨tb, 0, none⟩), .string x] w fun e w' => e = .returned (.tuple #[.agg #[.string ⟨#[]⟩, .string ⟨#[]⟩, .int .i64 0, .int .u32 0], .bool false]) ∧ Below w.heap.size w w' := by
  obtain ⟨g0, hg0⟩ : ∃ g, w.heap.size = g := ⟨_, rfl⟩
  obtain ⟨w0, hw0⟩ : ∃ W, w.alloc (.cells #[.string ⟨#[]⟩, .string ⟨#[]⟩, .int .i64 0, .int .u32 0] 49) = W := ⟨_, rfl⟩
  have hR0 : w0.heap[g0]? = some (.cells #[.string ⟨#[]⟩, .string ⟨#[]⟩, .int .i64 0, .int .u32 0] 49 (0, 0)) := by rw [← hw0, ← hg0]; exact row_alloc w _ _
  have hb0 : Below w.heap.size w w0 := by rw [← hw0]; exact bel_alloc (Below.refl _ _) _
  obtain ⟨ht, es, ck, hm, hK⟩ := dir_step h hb0
  have t0 := row_cell ht 0
  simp only [List.getElem?_toArray, List.getElem?_cons_zero, List.getElem?_cons_succ] at t0
  have hlk := look_g w0 mb es ck L x hm hK
  have htl : tb < w0.heap.size := row_lt ht
  rw [hn] at hlk
  simp only at hlk
  obtain ⟨ga, hga⟩ : ∃ g, w0.heap.size = g := ⟨_, rfl⟩
  obtain ⟨za, hza⟩ : ∃ W, w0.alloc (.cells #[.string ⟨#[]⟩, .string ⟨#[]⟩, .int .i64 0, .int .u32 0] 49) = W := ⟨_, rfl⟩
  have hVa : za.heap[ga]? = some (.cells #[.string ⟨#[]⟩, .string ⟨#[]⟩, .int .i64 0, .int .u32 0] 49 (0, 0)) := by rw [← hza, ← hga]; exact row_alloc w0 _ _
  obtain ⟨ya, hya⟩ : ∃ y, setG4 za ga (.string ⟨#[]⟩) (.string ⟨#[]⟩) (.int .i64 0) (.int .u32 0) = y := ⟨_, rfl⟩
  have hbYa : Below w0.heap.size w0 ya := by rw [← hya, hga]; exact setG4_below (by rw [← hza, ← hga]; exact (Below.refl _ _).alloc (Nat.le_refl _) _) (Nat.le_refl _) (.string ⟨#[]⟩) (.string ⟨#[]⟩) (.int .i64 0) (.int .u32 0)
  have hyVa : ya.heap[ga]? = some (.cells #[.string ⟨#[]⟩, .string ⟨#[]⟩, .int .i64 0, .int .u32 0] 49 (0, 0)) := by rw [← hya]; exact setG4_at hVa (.string ⟨#[]⟩) (.string ⟨#[]⟩) (.int .i64 0) (.int .u32 0)
  have va0 := row_cell hVa 0; have va1 := row_cell hVa 1; have va2 := row_cell hVa 2; have va3 := row_cell hVa 3
  simp only [List.getElem?_toArray, List.getElem?_cons_zero, List.getElem?_cons_succ] at va0 va1 va2 va3
  have vfa := fun o => row_frz hVa o
  have HYa := Lib.hid (show ((((za.setCell ⟨ga, 0, none⟩ (.string ⟨#[]⟩)).setCell ⟨ga, 1, none⟩ (.string ⟨#[]⟩)).setCell ⟨ga, 2, none⟩ (.int .i64 0)).setCell ⟨ga, 3, none⟩ (.int .u32 0)) = ya from hya)
  have hRy := row_step hR0 hbYa
  have HB := Lib.hid (show Below g0 w ya by rw [← hg0]; exact Below.trans hb0 (hbYa.mono hb0.size))
  have HR := Lib.hid (And.intro hRy hyVa)
  have hgle := row_lt hR0
  have hgg : ga ≠ g0 := by omega
  clear hVa hya hyVa hbYa hb0 hR0 hRy ht hm hK h hn
  go_enter Try.func15, Try.ntmps15
  go_upto_region 2 with fail
  clear hza hw0 hlk
  rw [HYa.out]
  clear va0 va1 va2 va3 vfa t0 HYa
  have c0 := row_cell HR.out.2 0; have c1 := row_cell HR.out.2 1; have c2 := row_cell HR.out.2 2; have c3 := row_cell HR.out.2 3
  simp only [List.getElem?_toArray, List.getElem?_cons_zero, List.getElem?_cons_succ] at c0 c1 c2 c3
  have r0 := row_cell HR.out.1 0; have r1 := row_cell HR.out.1 1; have r2 := row_cell HR.out.1 2; have r3 := row_cell HR.out.1 3
  simp only [List.getElem?_toArray, List.getElem?_cons_zero, List.getElem?_cons_succ] at r0 r1 r2 r3
  have rf := fun o => row_frz HR.out.1 o
  have hlg := row_lt HR.out.1
  have hlga := row_lt HR.out.2
  go_wp2
  refine bodyPost_ret (v := .tuple #[.agg #[.string ⟨#[]⟩, .string ⟨#[]⟩, .int .i64 0, .int .u32 0], .bool false]) (by simp [results, Try.results15, go_sem, World.cell?_setCell_same, World.cell?_setCell_other, r0, r1, r2, r3]) rfl ⟨rfl, ?_⟩
  rw [hg0]
  exact setG4_below HB.out (Nat.le_refl _) (.string ⟨#[]⟩) (.string ⟨#[]⟩) (.int .i64 0) (.int .u32 0)
set_option maxRecDepth 100000 in
set_option maxHeartbeats 4000000 in
theorem create_there (w : World) (tb mb : Nat) (L : List Gp) (x : ByteArray) (c : ByteArray) (s : Int) (r : Gp) (h : DirG w tb mb L) (hn : getG L x = some r) :
    Calls Try.prog 25 #[.pointer (some ⟨tb, 0, none⟩), .string x, .string c, .int .i64 s] w fun e w' => e = .returned (.int .i64 32) ∧ Below w.heap.size w w' := by
  have h0 := h
  obtain ⟨ht, es, ck, hm, hK⟩ := h
  have t0 := row_cell ht 0
  simp only [List.getElem?_toArray, List.getElem?_cons_zero, List.getElem?_cons_succ] at t0
  have hlk := look_g w mb es ck L x hm hK
  have htl : tb < w.heap.size := row_lt ht
  rw [hn] at hlk
  simp only at hlk
  obtain ⟨ga, hga⟩ : ∃ g, w.heap.size = g := ⟨_, rfl⟩
  obtain ⟨za, hza⟩ : ∃ W, w.alloc (.cells #[.string ⟨#[]⟩, .string ⟨#[]⟩, .int .i64 0, .int .u32 0] 49) = W := ⟨_, rfl⟩
  have hVa : za.heap[ga]? = some (.cells #[.string ⟨#[]⟩, .string ⟨#[]⟩, .int .i64 0, .int .u32 0] 49 (0, 0)) := by rw [← hza, ← hga]; exact row_alloc w _ _
  obtain ⟨ya, hya⟩ : ∃ y, setG4 za ga (.string r.n) (.string r.c) (.int .i64 r.s) (.int .u32 r.v) = y := ⟨_, rfl⟩
  have hbYa : Below w.heap.size w ya := by rw [← hya, hga]; exact setG4_below (by rw [← hza, ← hga]; exact (Below.refl _ _).alloc (Nat.le_refl _) _) (Nat.le_refl _) (.string r.n) (.string r.c) (.int .i64 r.s) (.int .u32 r.v)
  have hyVa : ya.heap[ga]? = some (.cells #[.string r.n, .string r.c, .int .i64 r.s, .int .u32 r.v] 49 (0, 0)) := by rw [← hya]; exact setG4_at hVa (.string r.n) (.string r.c) (.int .i64 r.s) (.int .u32 r.v)
  have va0 := row_cell hVa 0; have va1 := row_cell hVa 1; have va2 := row_cell hVa 2; have va3 := row_cell hVa 3
  simp only [List.getElem?_toArray, List.getElem?_cons_zero, List.getElem?_cons_succ] at va0 va1 va2 va3
  have vfa := fun o => row_frz hVa o
  have HYa := Lib.hid (show ((((za.setCell ⟨ga, 0, none⟩ (.string r.n)).setCell ⟨ga, 1, none⟩ (.string r.c)).setCell ⟨ga, 2, none⟩ (.int .i64 r.s)).setCell ⟨ga, 3, none⟩ (.int .u32 r.v)) = ya from hya)
  have HDY := Lib.hid (dir_step h0 hbYa)
  have HBY := Lib.hid hbYa
  have HRY := Lib.hid hyVa
  have hne : tb ≠ ga := by omega
  clear hVa hya hyVa hbYa ht hm hK h0
  go_enter Try.func25, Try.ntmps25
  go_upto_region 2 with fail
  clear hza hlk
  rw [HYa.out]
  clear va0 va1 va2 va3 vfa t0 HYa
  go_wp2
  go_ret
  exact ⟨rfl, HBY.out⟩
set_option maxRecDepth 100000 in
set_option maxHeartbeats 4000000 in
theorem create_full (w : World) (tb mb : Nat) (L : List Gp) (x : ByteArray) (c : ByteArray) (s : Int) (h : DirG w tb mb L) (hn : getG L x = none) (hl : L.length = 16) :
    Calls Try.prog 25 #[.pointer (some ⟨tb, 0, none⟩), .string x, .string c, .int .i64 s] w fun e w' => e = .returned (.int .i64 33) ∧ Below w.heap.size w w' := by
  have h0 := h
  obtain ⟨ht, es, ck, hm, hK⟩ := h
  have t0 := row_cell ht 0
  simp only [List.getElem?_toArray, List.getElem?_cons_zero, List.getElem?_cons_succ] at t0
  have hlk := look_g w mb es ck L x hm hK
  have htl : tb < w.heap.size := row_lt ht
  rw [hn] at hlk
  simp only at hlk
  obtain ⟨ga, hga⟩ : ∃ g, w.heap.size = g := ⟨_, rfl⟩
  obtain ⟨za, hza⟩ : ∃ W, w.alloc (.cells #[.string ⟨#[]⟩, .string ⟨#[]⟩, .int .i64 0, .int .u32 0] 49) = W := ⟨_, rfl⟩
  have hVa : za.heap[ga]? = some (.cells #[.string ⟨#[]⟩, .string ⟨#[]⟩, .int .i64 0, .int .u32 0] 49 (0, 0)) := by rw [← hza, ← hga]; exact row_alloc w _ _
  obtain ⟨ya, hya⟩ : ∃ y, setG4 za ga (.string ⟨#[]⟩) (.string ⟨#[]⟩) (.int .i64 0) (.int .u32 0) = y := ⟨_, rfl⟩
  have hbYa : Below w.heap.size w ya := by rw [← hya, hga]; exact setG4_below (by rw [← hza, ← hga]; exact (Below.refl _ _).alloc (Nat.le_refl _) _) (Nat.le_refl _) (.string ⟨#[]⟩) (.string ⟨#[]⟩) (.int .i64 0) (.int .u32 0)
  have hyVa : ya.heap[ga]? = some (.cells #[.string ⟨#[]⟩, .string ⟨#[]⟩, .int .i64 0, .int .u32 0] 49 (0, 0)) := by rw [← hya]; exact setG4_at hVa (.string ⟨#[]⟩) (.string ⟨#[]⟩) (.int .i64 0) (.int .u32 0)
  have va0 := row_cell hVa 0; have va1 := row_cell hVa 1; have va2 := row_cell hVa 2; have va3 := row_cell hVa 3
  simp only [List.getElem?_toArray, List.getElem?_cons_zero, List.getElem?_cons_succ] at va0 va1 va2 va3
  have vfa := fun o => row_frz hVa o
  have HYa := Lib.hid (show ((((za.setCell ⟨ga, 0, none⟩ (.string ⟨#[]⟩)).setCell ⟨ga, 1, none⟩ (.string ⟨#[]⟩)).setCell ⟨ga, 2, none⟩ (.int .i64 0)).setCell ⟨ga, 3, none⟩ (.int .u32 0)) = ya from hya)
  have HDY := Lib.hid (dir_step h0 hbYa)
  have HBY := Lib.hid hbYa
  have HRY := Lib.hid hyVa
  have hne : tb ≠ ga := by omega
  clear hVa hya hyVa hbYa ht hm hK h0
  go_enter Try.func25, Try.ntmps25
  go_upto_region 2 with fail
  clear hza hlk
  rw [HYa.out]
  clear va0 va1 va2 va3 vfa t0 HYa
  obtain ⟨hty, es', ck', hmy, hKy⟩ := HDY.out
  have ty0 := row_cell hty 0
  simp only [List.getElem?_toArray, List.getElem?_cons_zero, List.getElem?_cons_succ] at ty0
  have htyl := row_lt hty
  have hes : es'.size = L.length := by have := congrArg List.length hKy.1; rwa [List.length_map, List.length_map, Array.length_toList] at this
  have hln : ∀ ty, (Builtin.len_ #[56] ty #[.map (some mb)]).run Try.prog ya = .ok (.int .i64 (L.length : Int)) ya := fun ty => by
    simp [Builtin.len_, run_underlying gm_under, MapKept.run_getObj_map hmy, hes]
    rfl
  have h16 : ((L.length : Int) == 16) = true := by rw [hl]; rfl
  clear hl
  go_wp2
  go_ret
  exact ⟨rfl, HBY.out⟩
set_option maxRecDepth 100000 in
set_option maxHeartbeats 4000000 in
theorem create_new (w : World) (tb mb : Nat) (L : List Gp) (x : ByteArray) (c : ByteArray) (s : Int) (h : DirG w tb mb L) (hn : getG L x = none) (hl : L.length < 16) :
    Calls Try.prog 25 #[.pointer (some ⟨tb, 0, none⟩), .string x, .string c, .int .i64 s] w fun e w' => e = .returned (.int .i64 0) ∧ DirG w' tb mb (L ++ [⟨x, c, s, 1⟩]) ∧ But mb w w' := by
  have h0 := h
  obtain ⟨ht, es, ck, hm, hK⟩ := h
  have t0 := row_cell ht 0
  simp only [List.getElem?_toArray, List.getElem?_cons_zero, List.getElem?_cons_succ] at t0
  have hlk := look_g w mb es ck L x hm hK
  have htl : tb < w.heap.size := row_lt ht
  rw [hn] at hlk
  simp only at hlk
  obtain ⟨ga, hga⟩ : ∃ g, w.heap.size = g := ⟨_, rfl⟩
  obtain ⟨za, hza⟩ : ∃ W, w.alloc (.cells #[.string ⟨#[]⟩, .string ⟨#[]⟩, .int .i64 0, .int .u32 0] 49) = W := ⟨_, rfl⟩
  have hVa : za.heap[ga]? = some (.cells #[.string ⟨#[]⟩, .string ⟨#[]⟩, .int .i64 0, .int .u32 0] 49 (0, 0)) := by rw [← hza, ← hga]; exact row_alloc w _ _
  obtain ⟨ya, hya⟩ : ∃ y, setG4 za ga (.string ⟨#[]⟩) (.string ⟨#[]⟩) (.int .i64 0) (.int .u32 0) = y := ⟨_, rfl⟩
  have hbYa : Below w.heap.size w ya := by rw [← hya, hga]; exact setG4_below (by rw [← hza, ← hga]; exact (Below.refl _ _).alloc (Nat.le_refl _) _) (Nat.le_refl _) (.string ⟨#[]⟩) (.string ⟨#[]⟩) (.int .i64 0) (.int .u32 0)
  have hyVa : ya.heap[ga]? = some (.cells #[.string ⟨#[]⟩, .string ⟨#[]⟩, .int .i64 0, .int .u32 0] 49 (0, 0)) := by rw [← hya]; exact setG4_at hVa (.string ⟨#[]⟩) (.string ⟨#[]⟩) (.int .i64 0) (.int .u32 0)
  have va0 := row_cell hVa 0; have va1 := row_cell hVa 1; have va2 := row_cell hVa 2; have va3 := row_cell hVa 3
  simp only [List.getElem?_toArray, List.getElem?_cons_zero, List.getElem?_cons_succ] at va0 va1 va2 va3
  have vfa := fun o => row_frz hVa o
  have HYa := Lib.hid (show ((((za.setCell ⟨ga, 0, none⟩ (.string ⟨#[]⟩)).setCell ⟨ga, 1, none⟩ (.string ⟨#[]⟩)).setCell ⟨ga, 2, none⟩ (.int .i64 0)).setCell ⟨ga, 3, none⟩ (.int .u32 0)) = ya from hya)
  have HDY := Lib.hid (dir_step h0 hbYa)
  have HBY := Lib.hid hbYa
  have HRY := Lib.hid hyVa
  have hne : tb ≠ ga := by omega
  clear hVa hya hyVa hbYa ht hm hK h0
  go_enter Try.func25, Try.ntmps25
  go_upto_region 2 with fail
  clear hza hlk
  rw [HYa.out]
  clear va0 va1 va2 va3 vfa t0 HYa
  obtain ⟨hty, es', ck', hmy, hKy⟩ := HDY.out
  have ty0 := row_cell hty 0
  simp only [List.getElem?_toArray, List.getElem?_cons_zero, List.getElem?_cons_succ] at ty0
  have htyl := row_lt hty
  have hes : es'.size = L.length := by have := congrArg List.length hKy.1; rwa [List.length_map, List.length_map, Array.length_toList] at this
  have hln : ∀ ty, (Builtin.len_ #[56] ty #[.map (some mb)]).run Try.prog ya = .ok (.int .i64 (L.length : Int)) ya := fun ty => by
    simp [Builtin.len_, run_underlying gm_under, MapKept.run_getObj_map hmy, hes]
    rfl
  have h16 : ((L.length : Int) == 16) = false := by rw [beq_eq_false_iff_ne]; omega
  obtain ⟨hup, hK2⟩ := put_g ya mb es' ck' L ⟨x, c, s, 1⟩ hmy hKy hn
  have HK2 := Lib.hid hK2
  have HM := Lib.hid (mpD_at hmy (es'.push { key := .string x, val := .agg #[.string x, .string c, .int .i64 s, .int .u32 1], born := ck' }) (ck' + 1))
  have HT := Lib.hid ((mpD_other (dir_ne HDY.out) (es'.push { key := .string x, val := .agg #[.string x, .string c, .int .i64 s, .int .u32 1], born := ck' }) (ck' + 1)).trans hty)
  have HBT := Lib.hid (but_mp (but_bel HBY.out) (mb := mb) (es'.push { key := .string x, val := .agg #[.string x, .string c, .int .i64 s, .int .u32 1], born := ck' }) (ck' + 1))
  simp only at hup
  clear hl hK2 hmy hKy hty
  go_wp2
  go_ret
  exact ⟨rfl, ⟨HT.out, _, _, HM.out, HK2.out⟩, HBT.out⟩
set_option maxRecDepth 100000 in
set_option maxHeartbeats 4000000 in
theorem destroy_there (w : World) (tb mb : Nat) (L : List Gp) (x : ByteArray) (r : Gp) (h : DirG w tb mb L) (hn : getG L x = some r) :
    Calls Try.prog 27 #[.pointer (some ⟨tb, 0, none⟩), .string x] w fun e w' => e = .returned (.int .i64 0) ∧ DirG w' tb mb (L.eraseP (fun g => bq x g.n)) ∧ But mb w w' := by
  have h0 := h
  obtain ⟨ht, es, ck, hm, hK⟩ := h
  have t0 := row_cell ht 0
  simp only [List.getElem?_toArray, List.getElem?_cons_zero, List.getElem?_cons_succ] at t0
  have hlk := look_g w mb es ck L x hm hK
  have htl : tb < w.heap.size := row_lt ht
  rw [hn] at hlk
  simp only at hlk
  obtain ⟨ga, hga⟩ : ∃ g, w.heap.size = g := ⟨_, rfl⟩
  obtain ⟨za, hza⟩ : ∃ W, w.alloc (.cells #[.string ⟨#[]⟩, .string ⟨#[]⟩, .int .i64 0, .int .u32 0] 49) = W := ⟨_, rfl⟩
  have hVa : za.heap[ga]? = some (.cells #[.string ⟨#[]⟩, .string ⟨#[]⟩, .int .i64 0, .int .u32 0] 49 (0, 0)) := by rw [← hza, ← hga]; exact row_alloc w _ _
  obtain ⟨ya, hya⟩ : ∃ y, setG4 za ga (.string r.n) (.string r.c) (.int .i64 r.s) (.int .u32 r.v) = y := ⟨_, rfl⟩
  have hbYa : Below w.heap.size w ya := by rw [← hya, hga]; exact setG4_below (by rw [← hza, ← hga]; exact (Below.refl _ _).alloc (Nat.le_refl _) _) (Nat.le_refl _) (.string r.n) (.string r.c) (.int .i64 r.s) (.int .u32 r.v)
  have hyVa : ya.heap[ga]? = some (.cells #[.string r.n, .string r.c, .int .i64 r.s, .int .u32 r.v] 49 (0, 0)) := by rw [← hya]; exact setG4_at hVa (.string r.n) (.string r.c) (.int .i64 r.s) (.int .u32 r.v)
  have va0 := row_cell hVa 0; have va1 := row_cell hVa 1; have va2 := row_cell hVa 2; have va3 := row_cell hVa 3
  simp only [List.getElem?_toArray, List.getElem?_cons_zero, List.getElem?_cons_succ] at va0 va1 va2 va3
  have vfa := fun o => row_frz hVa o
  have HYa := Lib.hid (show ((((za.setCell ⟨ga, 0, none⟩ (.string r.n)).setCell ⟨ga, 1, none⟩ (.string r.c)).setCell ⟨ga, 2, none⟩ (.int .i64 r.s)).setCell ⟨ga, 3, none⟩ (.int .u32 r.v)) = ya from hya)
  have HDY := Lib.hid (dir_step h0 hbYa)
  have HBY := Lib.hid hbYa
  have HRY := Lib.hid hyVa
  have hne : tb ≠ ga := by omega
  clear hVa hya hyVa hbYa ht hm hK h0
  go_enter Try.func27, Try.ntmps27
  go_upto_region 2 with fail
  clear hza hlk
  rw [HYa.out]
  clear va0 va1 va2 va3 vfa t0 HYa
  obtain ⟨hty, es', ck', hmy, hKy⟩ := HDY.out
  have ty0 := row_cell hty 0
  simp only [List.getElem?_toArray, List.getElem?_cons_zero, List.getElem?_cons_succ] at ty0
  have htyl := row_lt hty
  obtain ⟨es2, hdl, hK2⟩ := del_g ya mb es' ck' 0 L x hmy hKy
  have hdl' : ∀ ty, (Builtin.delete_ #[56, 9] ty #[.map (some mb), .string x]).run Try.prog ya = .ok (.tuple #[]) (mpD ya mb es2 ck') := fun _ => hdl
  have HK2 := Lib.hid hK2
  have HM := Lib.hid (mpD_at hmy es2 ck')
  have HT := Lib.hid ((mpD_other (dir_ne HDY.out) es2 ck').trans hty)
  have HBT := Lib.hid (but_mp (but_bel HBY.out) (mb := mb) es2 ck')
  clear hdl hK2 hmy hKy hty
  go_wp2
  go_ret
  exact ⟨rfl, ⟨HT.out, _, _, HM.out, HK2.out⟩, HBT.out⟩
set_option maxRecDepth 100000 in
set_option maxHeartbeats 4000000 in
theorem style_there (w : World) (tb mb : Nat) (L : List Gp) (x : ByteArray) (s : Int) (r : Gp) (v2 : Int) (h : DirG w tb mb L) (hn : getG L x = some r) (hv : (r.v + 1) % 4294967296 = v2) :
    Calls Try.prog 28 #[.pointer (some ⟨tb, 0, none⟩), .string x, .int .i64 s] w fun e w' => e = .returned (.int .i64 0) ∧ DirG w' tb mb (setG L ⟨x, r.c, s, v2⟩) ∧ But mb w w' := by
  have h0 := h
  obtain ⟨ht, es, ck, hm, hK⟩ := h
  have t0 := row_cell ht 0
  simp only [List.getElem?_toArray, List.getElem?_cons_zero, List.getElem?_cons_succ] at t0
  have hlk := look_g w mb es ck L x hm hK
  have htl : tb < w.heap.size := row_lt ht
  rw [hn] at hlk
  simp only at hlk
  obtain ⟨ga, hga⟩ : ∃ g, w.heap.size = g := ⟨_, rfl⟩
  obtain ⟨za, hza⟩ : ∃ W, w.alloc (.cells #[.string ⟨#[]⟩, .string ⟨#[]⟩, .int .i64 0, .int .u32 0] 49) = W := ⟨_, rfl⟩
  have hVa : za.heap[ga]? = some (.cells #[.string ⟨#[]⟩, .string ⟨#[]⟩, .int .i64 0, .int .u32 0] 49 (0, 0)) := by rw [← hza, ← hga]; exact row_alloc w _ _
  obtain ⟨ya, hya⟩ : ∃ y, setG4 za ga (.string r.n) (.string r.c) (.int .i64 r.s) (.int .u32 r.v) = y := ⟨_, rfl⟩
  have hbYa : Below w.heap.size w ya := by rw [← hya, hga]; exact setG4_below (by rw [← hza, ← hga]; exact (Below.refl _ _).alloc (Nat.le_refl _) _) (Nat.le_refl _) (.string r.n) (.string r.c) (.int .i64 r.s) (.int .u32 r.v)
  have hyVa : ya.heap[ga]? = some (.cells #[.string r.n, .string r.c, .int .i64 r.s, .int .u32 r.v] 49 (0, 0)) := by rw [← hya]; exact setG4_at hVa (.string r.n) (.string r.c) (.int .i64 r.s) (.int .u32 r.v)
  have va0 := row_cell hVa 0; have va1 := row_cell hVa 1; have va2 := row_cell hVa 2; have va3 := row_cell hVa 3
  simp only [List.getElem?_toArray, List.getElem?_cons_zero, List.getElem?_cons_succ] at va0 va1 va2 va3
  have vfa := fun o => row_frz hVa o
  have HYa := Lib.hid (show ((((za.setCell ⟨ga, 0, none⟩ (.string r.n)).setCell ⟨ga, 1, none⟩ (.string r.c)).setCell ⟨ga, 2, none⟩ (.int .i64 r.s)).setCell ⟨ga, 3, none⟩ (.int .u32 r.v)) = ya from hya)
  have HDY := Lib.hid (dir_step h0 hbYa)
  have HBY := Lib.hid hbYa
  have HRY := Lib.hid hyVa
  have hne : tb ≠ ga := by omega
  clear hVa hya hyVa hbYa ht hm hK h0
  go_enter Try.func28, Try.ntmps28
  go_upto_region 2 with fail
  clear hza hlk
  rw [HYa.out]
  clear va0 va1 va2 va3 vfa t0 HYa
  have hrn : r.n = x := getG_n hn
  have c0 := row_cell HRY.out 0; have c1 := row_cell HRY.out 1; have c2 := row_cell HRY.out 2; have c3 := row_cell HRY.out 3
  simp only [List.getElem?_toArray, List.getElem?_cons_zero, List.getElem?_cons_succ] at c0 c1 c2 c3
  have cf := fun o => row_frz HRY.out o
  have hlg := row_lt HRY.out
  have HRZ := HRY
  go_upto_region 6 with fail
  obtain ⟨u, hu⟩ : ∃ u, (ya.setCell ⟨ga, 2, none⟩ (.int .i64 s)).setCell ⟨ga, 3, none⟩ (.int .u32 v2) = u := ⟨_, rfl⟩
  rw [hu]
  clear hv
  have hru : u.heap[ga]? = some (.cells #[.string r.n, .string r.c, .int .i64 s, .int .u32 (v2)] 49 (0, 0)) := by rw [← hu]; simp [World.setCell, Array.getElem?_modify, HRZ.out]
  have hou : ∀ k, k ≠ ga → u.heap[k]? = ya.heap[k]? := fun k hk => by rw [← hu, Below.heap_setCell _ _ _ k hk, Below.heap_setCell _ _ _ k hk]
  have hbu : Below w.heap.size w u := by rw [← hu]; exact (HBY.out.setCell (p := ⟨ga, 2, none⟩) (Nat.le_of_eq hga) _).setCell (p := ⟨ga, 3, none⟩) (Nat.le_of_eq hga) _
  have hdu : DirG u.drew tb mb L := by
    have hd := HDY.out
    have hmg : mb ≠ ga := by
      rintro rfl
      obtain ⟨_, es, ck, hm, _⟩ := hd
      rw [HRZ.out] at hm
      cases hm
    exact dir_to hd (hou tb hne) (hou mb hmg)
  clear hu hou c0 c1 c2 c3 cf hlg
  have hrd : u.drew.heap[ga]? = some (.cells #[.string r.n, .string r.c, .int .i64 s, .int .u32 (v2)] 49 (0, 0)) := hru
  obtain ⟨hty, es', ck', hmy, hKy⟩ := hdu
  obtain ⟨es2, hup, hK2⟩ := set_g u.drew mb es' ck' L ⟨x, r.c, s, v2⟩ r hmy hKy hn
  simp only at hup
  rw [hrn] at hrd
  have HK2 := Lib.hid hK2
  have HM := Lib.hid (mpD_at hmy es2 ck')
  have HT := Lib.hid ((mpD_other (dir_ne HDY.out) es2 ck').trans hty)
  have HBT := Lib.hid (but_mp (but_bel (Below.drew hbu)) (mb := mb) es2 ck')
  have ty0 := row_cell hty 0
  have c0 := row_cell hrd 0; have c1 := row_cell hrd 1; have c2 := row_cell hrd 2; have c3 := row_cell hrd 3
  simp only [List.getElem?_toArray, List.getElem?_cons_zero, List.getElem?_cons_succ] at ty0 c0 c1 c2 c3
  have htyl := row_lt hty
  clear hru hK2 hmy hKy hty hbu hrd
  go_region
  go_wp2
  go_ret
  exact ⟨rfl, ⟨HT.out, _, _, HM.out, HK2.out⟩, HBT.out⟩
end Num
end Go.Proofs.Ytbfnghbfilahnaa
