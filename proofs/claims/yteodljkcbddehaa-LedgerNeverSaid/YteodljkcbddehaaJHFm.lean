/-
  A list of texts that the call appends to; the reference's Methods.
-/
import Derived.Test.YteodljkcbddehaaJMI
import Derived.Test.YteodljkcbddehaaJp7HB
import Derived.Laws.OwnMore
import Derived.Laws.MakeOwn
import Derived.Deep.RegionLaw
namespace Go.Proofs.Yteodljkcbddehaa
open Go.RowKit
namespace Num
open Ints
set_option linter.unusedSimpArgs false
set_option linter.unusedVariables false
def StrL (w : World) (p : Option Addr) (l c : Nat) (L : List ByteArray) : Prop :=
  L.length = l ∧ l ≤ c ∧ c ≤ maxLen ∧ (0 < l → ∃ b off, p = some ⟨b, off, none⟩ ∧ ∀ i (h : i < L.length), w.cell? ⟨b, off + i, none⟩ = some (.string L[i]))
def strVs (L : List ByteArray) : List Value := L.map Value.string
theorem info_tx : (Try.prog.info? 9).map (fun i => (i.zero, i.size, i.bytes)) = some (some (.string ⟨#[]⟩), 1, 16) := by kernel_rfl
theorem cell_new1 (w : World) (v : Value) (t : TypeId) : ∀ j u, [v][j]? = some u → (w.alloc (.cells #[v] t)).cell? ((⟨w.heap.size, 0, none⟩ : Addr).add j) = some u := by
  intro j u hj
  rw [Addr.add_lit, Nat.zero_add, rc (row_alloc w _ t) j, List.getElem?_toArray]
  exact hj
def OwT (W0 w : World) (p : Option Addr) (l c : Nat) (L : List ByteArray) : Prop := w.ownsRow W0.heap.size 9 1 (.slice p l c) l (strVs L) ∧ L.length = l ∧ Below W0.heap.size W0 w
theorem ot_nil (w : World) : OwT w w none 0 0 [] := ⟨World.ownsRow_nil _ _ _ _, rfl, Below.refl _ _⟩
theorem ot_bel {W0 w : World} {p : Option Addr} {l c : Nat} {L : List ByteArray} (h : OwT W0 w p l c L) : Below W0.heap.size W0 w := h.2.2
theorem strL_ot {W0 w : World} {p : Option Addr} {l c : Nat} {L : List ByteArray} (h : OwT W0 w p l c L) : StrL w p l c L := by
  obtain ⟨⟨h1, h2⟩, h3, _⟩ := h
  rcases h2 with ⟨e, h0⟩ | ⟨g, cap, cur, e, _, hg, hc1, hc2, hc3, ht⟩
  · injection e with e1 e2 e3
    subst e1 e2 e3
    exact ⟨h3, Nat.le_refl _, Nat.zero_le _, fun h => absurd h (Nat.lt_irrefl _)⟩
  · injection e with e1 e2 e3
    subst e1 e3
    refine ⟨h3, hc1, hc2, fun _ => ⟨g, 0, rfl, fun i hi => ?_⟩⟩
    have e := congrArg (fun l => l[i]?) ht
    simp only [Nat.mul_one] at e
    rw [List.getElem?_take_of_lt (by omega), Array.getElem?_toList] at e
    unfold strVs at e
    rw [List.getElem?_map, List.getElem?_eq_getElem hi] at e
    rw [Nat.zero_add, rc hg, e]
    rfl
section
variable {ops : Array Oper} {rest : List Oper} {o : Oper} {a : Act} {Q : Exit → Act → World → Prop}
theorem wp_ot1 (hgd : o.guard = none) (s x : Operand) (ho : o.op = .call { callee := .builtin .append, args := #[s, x], argTypes := #[48, 48] })
    (W0 w : World) (p : Option Addr) (l c : Nat) (L : List ByteArray) (z : ByteArray) (hs : a.eval s = .slice p l c) (hx : a.eval x = .slice (some ⟨w.heap.size, 0, none⟩) 1 1) (hb : OwT W0 w p l c L) (hl : l ≤ 1000000)
    (h : ∀ p' c' w', OwT W0 w' p' (l + 1) c' (L ++ [z]) → wpList Try.prog ops Q rest (a.put o.dst (.slice p' (l + 1) c')) w') : wpList Try.prog ops Q (o :: rest) a (w.alloc (.cells #[.string z] 9)) := by
  obtain ⟨i0, hi, hz0, hz1, hz2⟩ := info_parts info_tx
  have hsz : (w.alloc (.cells #[.string z] 9)).heap.size = w.heap.size + 1 := World.size_alloc _ _
  obtain ⟨h1, h2, h3⟩ := hb
  have h4 := h3.size
  refine wpList_append_own_at _ hgd s x 48 ho W0.heap.size 9 i0 _ 1 16 Try.underlying48 hi hz0 hz1 hz2 rfl (by decide) (.slice p l c) l (strVs L) hs (h1.alloc _) ⟨w.heap.size, 0, none⟩ 1 1 [.string z] hx rfl (cell_new1 _ _ _) (by intro u hu; simp at hu; subst hu; rfl) (by unfold maxLen; omega) (by omega) (by omega) ?_
  intro v' w' hown hg _ hat
  have hpc : ∃ p' c', v' = .slice p' (l + 1) c' := by
    rcases hown.2 with ⟨rfl, hn⟩ | ⟨g, cap, cur, rfl, _⟩
    · exact absurd hn (by omega)
    · exact ⟨_, _, rfl⟩
  obtain ⟨p', c', rfl⟩ := hpc
  refine h p' c' w' ⟨?_, by rw [List.length_append, h2]; rfl, Below.grown (h3.alloc h4 _) hg (by omega) (fun k hk => (h1.lt k hk).1)⟩
  have e : strVs (L ++ [z]) = strVs L ++ [.string z] := by unfold strVs; rw [List.map_append]; rfl
  rw [e]
  exact hown
end
set_option maxRecDepth 100000 in
set_option maxHeartbeats 4000000 in
theorem rmethods_any (c : ByteArray) (hc7 : (metas c).length ≤ 7) (w : World) : Calls Try.prog 19 #[.string c] w fun e w' => ∃ p l k, e = .returned (.slice p l k) ∧ StrL w' p l k ((metas c).map (fun x => x.1)) ∧ Below w.heap.size w w' := by
  obtain ⟨M, hM⟩ : ∃ M, metas c = M := ⟨_, rfl⟩
  have HRM := Lib.hid (fun w => rmeth_any c w)
  have hM7 : M.length ≤ 7 := by rw [← hM]; exact hc7
  rw [hM] at HRM ⊢
  clear hM
  go_enter Try.func19, Try.ntmps19
  go_wp2_with fail
  go_at_call 40; refine (HRM.out _).mono ?_; rintro e w1 ⟨v, rfl, hm, hb1⟩
  have HB1 := Lib.hid hb1
  clear hb1 HRM
  obtain ⟨p, rfl, hp⟩ := hm
  have HP := Lib.hid hp
  clear hp
  have HZ := Lib.hid (ot_nil w1)
  go_wp2
  go_loopw [4, 5] (fun out i wr => ∃ (j : Nat) (q : Option Addr) (d : Nat), j ≤ M.length ∧ i = .int .i64 j ∧ out = .slice q j d ∧ OwT w1 wr q j d ((M.take j).map (fun x => x.1))) (fun _ i _ => M.length - (intOf i).toNat)
  case atStart => exact ⟨0, none, 0, by omega, rfl, rfl, HZ.out⟩
  case round =>
    obtain ⟨j, q, d, hj, rfl, rfl, hO⟩ := hrel
    have HO := Lib.hid hO
    clear HZ
    by_cases hlt : j < M.length
    · obtain ⟨b, hpb, hi⟩ := HP.out (by omega)
      subst hpb
      have c0 := ck (ot_bel hO) (hi j hlt).1
      have HT := Lib.hid (show (M.take (j + 1)).map (fun x => x.1) = (M.take j).map (fun x => x.1) ++ [M[j].1] by rw [List.take_succ_eq_append_getElem hlt, List.map_append]; rfl)
      obtain ⟨s, hs⟩ : ∃ s, M[j].1 = s := ⟨_, rfl⟩
      rw [hs] at c0 HT
      have hj0 : (0 : Int) ≤ (j : Int) := by omega
      have hjl : (j : Int) < (M.length : Int) := by omega
      clear hi hs hO
      go_wp2_with (at_builtin; refine wp_ot1 rfl _ _ rfl w1 wr q j d _ s rfl rfl HO.out (by omega) ?_; intro p2 c2 w2 ho2)
      go_roundw
      case rel => exact ⟨j + 1, p2, c2, by omega, by go_num, rfl, by rw [HT.out]; exact ho2⟩
      case measure => simp [intOf]; omega
    · have hje : j = M.length := by omega
      clear hO
      subst hje
      go_wp2
      go_ret
      have hO := HO.out
      rw [List.take_length] at hO
      exact ⟨_, _, _, rfl, strL_ot hO, bel_step HB1.out (ot_bel hO)⟩
end Num
end Go.Proofs.Yteodljkcbddehaa
