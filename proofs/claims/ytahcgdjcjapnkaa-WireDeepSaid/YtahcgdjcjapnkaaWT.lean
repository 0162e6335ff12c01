/-
  Texts as bytes: what package wire and the reference put and read.
-/
import Derived.Test.YtahcgdjcjapnkaaWR
namespace Go.Proofs.Ytahcgdjcjapnkaa
open Go.RowKit
namespace Num
open Ints
set_option linter.unusedSimpArgs false
set_option linter.unusedVariables false
theorem shor_eq (v x : Int) (h0 : 0 ≤ v) (h1 : v < 72057594037927936) (hx0 : 0 ≤ x) (hx1 : x < 256) : shor v x = v * 256 + x := by
  unfold shor
  rw [Go.IntKind.wrap_u64]
  have e : v * 256 % 18446744073709551616 = v * 256 := by omega
  rw [e]
  exact bits_join .u64 64 (by decide) wraps_u64 8 _ _ (by omega) (by omega) (by omega) hx0 (by omega) (by omega)
theorem rdU_one (a : Int) (h0 : 0 ≤ a) (h1 : a < 256) : rdU [a] = a := by
  show shor 0 a = a
  rw [shor_eq 0 a (by omega) (by omega) h0 h1]; omega
theorem rdU_two (a b : Int) (h0 : 0 ≤ a) (h1 : a < 256) (h2 : 0 ≤ b) (h3 : b < 256) : rdU [a, b] = a * 256 + b := by
  show shor (shor 0 a) b = _
  rw [shor_eq 0 a (by omega) (by omega) h0 h1, shor_eq _ b (by omega) (by omega) h2 h3]; omega
theorem by_take {X : List Int} (h : By X) (n : Nat) : By (X.take n) := fun x hx => h x (List.mem_of_mem_take hx)
theorem by_drop {X : List Int} (h : By X) (n : Nat) : By (X.drop n) := fun x hx => h x (List.mem_of_mem_drop hx)
theorem by_app {X Y : List Int} (h : By X) (k : By Y) : By (X ++ Y) := fun x hx => by
  rcases List.mem_append.1 hx with hx | hx
  · exact h x hx
  · exact k x hx
theorem by_be (u : Int) : ∀ n, By (beI u n)
  | 0 => fun x hx => by cases hx
  | n + 1 => fun x hx => by
    rcases List.mem_cons.1 hx with rfl | hx
    · omega
    · exact by_be u n x hx
theorem rdU_pow (X : List Int) : ∀ n, n ≤ 8 → X.length = n → By X → 0 ≤ rdU X ∧ rdU X < 256 ^ n := by
  intro n
  induction n generalizing X with
  | zero => intro _ h _; rw [List.length_eq_zero_iff.1 h]; exact ⟨by decide, by decide⟩
  | succ n ih =>
    intro hn hl hb
    have hne : X ≠ [] := by intro e; rw [e] at hl; cases hl
    have e := List.dropLast_concat_getLast hne
    have h1 := ih X.dropLast (by omega) (by rw [List.length_dropLast, hl]; rfl) (fun x hx => hb x (List.dropLast_subset _ hx))
    have h2 := hb _ (List.getLast_mem hne)
    have hp : (256 : Int) ^ n ≤ 256 ^ 7 := by
      have : ∀ m, m ≤ 7 → (256 : Int) ^ m ≤ 256 ^ 7 := by
        intro m hm
        have : m = 0 ∨ m = 1 ∨ m = 2 ∨ m = 3 ∨ m = 4 ∨ m = 5 ∨ m = 6 ∨ m = 7 := by omega
        rcases this with rfl | rfl | rfl | rfl | rfl | rfl | rfl | rfl <;> decide
      exact this n (by omega)
    have hp7 : (256 : Int) ^ 7 = 72057594037927936 := by decide
    rw [← e, rdU_snoc, shor_eq _ _ h1.1 (by omega) h2.1 h2.2, Int.pow_succ]
    omega
/-- A text's length, as it stands ahead of it. -/
theorem len16 {X : List Int} (hX : By X) (h : 2 ≤ X.length) : ∃ L : Nat, rdU (X.take 2) = (L : Int) ∧ L < 65536 := by
  have hl : (X.take 2).length = 2 := by rw [List.length_take]; omega
  obtain ⟨h0, h1⟩ := rdU_pow (X.take 2) 2 (by omega) hl (by_take hX 2)
  have e : (256 : Int) ^ 2 = 65536 := by decide
  exact ⟨(rdU (X.take 2)).toNat, by omega, by omega⟩
/-- A text's bytes. -/
def strIs (s : ByteArray) : List Int := s.data.toList.map fun b => (b.toNat : Int)
theorem strIs_len (s : ByteArray) : (strIs s).length = s.size := by unfold strIs; rw [List.length_map, Array.length_toList]; rfl
theorem by_str (s : ByteArray) : By (strIs s) := fun x hx => by
  obtain ⟨b, _, rfl⟩ := List.mem_map.1 hx
  have := b.toNat_lt
  omega
theorem strB_back (s : ByteArray) : strB (strIs s) = s := by
  unfold strB strOfNums strIs
  rw [List.map_map]
  have e : ((fun n : Int => UInt8.ofNat n.toNat) ∘ fun b : UInt8 => (b.toNat : Int)) = id := by
    funext b
    simp
  rw [e, List.map_id]
/-- The part of a slice behind its first k. -/
theorem rd_cut {w : World} {b off l c k m : Nat} {X : List Int} (h : RdB w (some ⟨b, off, none⟩) l c X) (hkl : k + m ≤ l) : RdB w (some ⟨b, off + k, none⟩) m (c - k) ((X.drop k).take m) := by
  obtain ⟨h1, h2, h3, h4, h5⟩ := h
  refine ⟨by rw [List.length_take, List.length_drop]; omega, by omega, by omega, fun hm => ?_, fun e => by cases e⟩
  obtain ⟨b', off', e, hc⟩ := h4 (by omega)
  cases e
  refine ⟨b, off + k, rfl, fun i hi => ?_⟩
  have hi' : i < m := by rw [List.length_take] at hi; omega
  rw [List.getElem_take, List.getElem_drop, Nat.add_assoc]
  exact hc (k + i) (by omega)
theorem rd_full {w : World} {p : Option Addr} {l c : Nat} {X : List Int} (h : RdB w p l c X) (hl : 0 < l) : ∃ b off, p = some ⟨b, off, none⟩ := by
  obtain ⟨b, off, e, _⟩ := h.2.2.2.1 hl
  exact ⟨b, off, e⟩
set_option maxHeartbeats 1000000 in
theorem appendText_any (W0 w : World) (p : Option Addr) (l c : Nat) (X : List Int) (s : ByteArray) (hb : OwB W0 w p l c X) (hl : l ≤ 50000) (hs : s.size ≤ 65535) :
    Calls Try.prog 42 #[.slice p l c, .string s] w fun e w' => ∃ p' c', e = .returned (.slice p' (l + 2 + s.size) c') ∧ OwB W0 w' p' (l + 2 + s.size) c' (X ++ beI s.size 2 ++ strIs s) := by
  have HB := Lib.hid hb
  clear hb
  go_enter Try.func42, Try.ntmps42
  go_wp2_with fail
  go_at_call 41; refine (appendU_any W0 w p l c X (s.size : Int) 2 (by omega) (by omega) (by omega) HB.out (by omega)).mono ?_; rintro e w1 ⟨p1, c1, rfl, ho1⟩
  have HO1 := Lib.hid ho1
  clear ho1
  go_wp2_with (at_builtin; refine wp_obS rfl _ _ rfl W0 _ p1 _ c1 _ s rfl rfl HO1.out (by omega) (by omega) ?_; intro p2 c2 w2 ho2 _)
  have HO2 := Lib.hid ho2
  clear ho2
  go_ret
  exact ⟨p2, c2, rfl, HO2.out⟩
set_option maxHeartbeats 1000000 in
theorem putText_yes (w : World) (p : Option Addr) (l c : Nat) (X : List Int) (s : ByteArray) (most : Int) (hb : RdB w p l c X) (hl : l ≤ 10000) (hs : s.size ≤ 65535) (hm : (s.size : Int) ≤ most) :
    Calls Try.prog 22 #[.slice p l c, .string s, .int .i64 most] w fun e w' => ∃ p' c', e = .returned (.tuple #[.slice p' (l + 2 + s.size) c', .int .i64 0]) ∧ OwB w w' p' (l + 2 + s.size) c' (X ++ beI s.size 2 ++ strIs s) := by
  have HB := Lib.hid hb
  clear hb
  go_enter Try.func22, Try.ntmps22
  go_wp2_with fail
  go_at_call 31; refine (roomy_any w p l c X (2 + s.size) HB.out (by omega) (by omega)).mono ?_; rintro e w1 ⟨p1, c1, rfl, ho1⟩
  have HO1 := Lib.hid ho1
  clear ho1
  go_wp2_with fail
  go_at_call 42; refine (appendText_any w w1 p1 l c1 X s HO1.out (by omega) hs).mono ?_; rintro e w2 ⟨p2, c2, rfl, ho2⟩
  have HO2 := Lib.hid ho2
  clear ho2
  go_wp2
  go_ret2
  exact ⟨p2, c2, rfl, HO2.out⟩
set_option maxHeartbeats 1000000 in
theorem putText_no (w : World) (p : Option Addr) (l c : Nat) (s : ByteArray) (most : Int) (hs : s.size ≤ 9223372036854775807) (hm : most < s.size ∨ 65535 < s.size) :
    Calls Try.prog 22 #[.slice p l c, .string s, .int .i64 most] w fun e w' => e = .returned (.tuple #[.slice none 0 0, .int .i64 22]) ∧ w = w' := by
  by_cases h0 : most < s.size
  · clear hm
    go_enter Try.func22, Try.ntmps22
    go_wp2
    go_ret2
    exact ⟨rfl, rfl⟩
  · have h1 : 65535 < s.size := by omega
    clear hm
    go_enter Try.func22, Try.ntmps22
    go_wp2
    go_ret2
    exact ⟨rfl, rfl⟩
end Num
end Go.Proofs.Ytahcgdjcjapnkaa
