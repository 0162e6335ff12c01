/-
  Package queue: Do, method by method, on queues that are right.
-/
import Derived.Test.YtodjnhhnjncgdaaEB
import Derived.Test.YtodjnhhnjncgdaaEC
import Derived.Test.YtodjnhhnjncgdaaED
import Derived.Test.YtodjnhhnjncgdaaEE
import Derived.Test.YtodjnhhnjncgdaaEF
import Derived.Test.YtodjnhhnjncgdaaEG
namespace Go.Proofs.Ytodjnhhnjncgdaa
open Go.RowKit
namespace Num
open Ints
set_option linter.unusedSimpArgs false
set_option linter.unusedVariables false
def queC : ByteArray := { data := #[113, 117, 101, 117, 101] }
theorem que_metas : metas queC = msQ := by rfl
theorem chk_push (n : Nat) {V : VT (n + 1)} (hV : checkM (measT (n + 1) V) = 0) : chkA queC { data := #[112, 117, 115, 104] } n [V] = 0 := by
  have h1 : chkL n [V] = 0 := by unfold chkL; rw [if_pos hV]; rfl
  unfold chkA
  rw [que_metas]
  show (if (chkL n [V] = 0) then (if (true && true) = true then (0 : Int) else 31) else chkL n [V]) = 0
  rw [h1]; rfl
theorem num_light (n : Nat) (i : Int) : checkM (measT (n + 1) (numT n i)) = 0 ∧ deepT (n + 1) (numT n i) 64 = false ∧ partsT (n + 1) (numT n i) ≤ 1000 := by
  refine ⟨?_, rfl, by show (1 : Nat) ≤ 1000; decide⟩
  unfold numT
  rw [measT_num rfl rfl]
  decide +kernel
theorem chk_nth (n : Nat) (i : Int) : chkA queC { data := #[110, 116, 104] } n [numT n i] = 0 := by
  have h1 : chkL n [numT n i] = 0 := by unfold chkL; rw [if_pos (num_light n i).1]; rfl
  unfold chkA
  rw [que_metas]
  show (if (chkL n [numT n i] = 0) then (if (true && true) = true then (0 : Int) else 31) else chkL n [numT n i]) = 0
  rw [h1]; rfl
theorem chk_bare (n : Nat) (m : ByteArray) (hm : m = { data := #[112, 111, 112] } ∨ m = { data := #[112, 101, 101, 107] } ∨ m = { data := #[108, 101, 110] }) : chkA queC m n [] = 0 := by
  unfold chkA
  rw [que_metas]
  rcases hm with rfl | rfl | rfl <;> rfl
theorem arg_one {w : World} {n : Nat} {p : Option Addr} {l c : Nat} {V : VT (n + 1)} {r : List (VT (n + 1))} (h : RepL w (Rep w (n + 1)) p l c (V :: r)) : ∃ (bl ol : Nat) (K3 I3 : Int) (F3 : Nat) (S3 : ByteArray) (q3 : Option Addr) (m3 d3 : Nat), p = some ⟨bl, ol, none⟩ ∧ (w.cell? ⟨bl, ol, none⟩ = some (.int .i64 K3) ∧ w.cell? ⟨bl, ol + 1, none⟩ = some (.int .i64 I3) ∧ w.cell? ⟨bl, ol + 2, none⟩ = some (.float .f64 F3) ∧ w.cell? ⟨bl, ol + 3, none⟩ = some (.string S3) ∧ w.cell? ⟨bl, ol + 4, none⟩ = some (.slice q3 m3 d3)) ∧ Rep w (n + 1) (.agg #[.int .i64 K3, .int .i64 I3, .float .f64 F3, .string S3, .slice q3 m3 d3]) V := by
  obtain ⟨h1, h2, h3, h4⟩ := h
  obtain ⟨b, o, rfl, hi⟩ := h4 (by rw [← h1]; exact Nat.succ_pos _)
  obtain ⟨v0, v1, v2, v3, v4, c0, c1, c2, c3, c4, hr⟩ := hi 0 (Nat.succ_pos _)
  have hr' : Rep w (n + 1) (.agg #[v0, v1, v2, v3, v4]) V := hr
  obtain ⟨K3, I3, F3, S3, q3, m3, d3, hv, _⟩ := rep_shape hr'
  injection hv with hv
  simp only [Array.mk.injEq, List.cons.injEq, and_true] at hv
  obtain ⟨rfl, rfl, rfl, rfl, rfl⟩ := hv
  simp only [Nat.zero_mul, Nat.add_zero] at c0 c1 c2 c3 c4
  exact ⟨b, o, K3, I3, F3, S3, q3, m3, d3, rfl, ⟨c0, c1, c2, c3, c4⟩, hr⟩
theorem okq_cln {n : Nat} {L : List (VT (n + 1))} (h : OkQ n L) : Cln (n + 2) (queueT n L) := ⟨h.2.2.1, h.2.2.2, walk_check h.2.1⟩
theorem nil_any (n : Nat) (w : World) : Rep w (n + 1) (.agg #[.int .i64 0, .int .i64 0, .float .f64 0, .string ⟨#[]⟩, .slice none 0 0]) (nilT n) := leafR _ n 0 0 0 ⟨#[]⟩ (by decide) (by decide) (by decide) (by decide)
theorem num_any (n : Nat) (w : World) (i : Int) (hi : okI i) : Rep w (n + 1) (.agg #[.int .i64 1, .int .i64 i, .float .f64 0, .string ⟨#[]⟩, .slice none 0 0]) (numT n i) := leafR _ n 1 i 0 ⟨#[]⟩ (by decide) hi (by decide) (by decide)
theorem num_cln (n : Nat) (i : Int) : Cln (n + 1) (numT n i) := ⟨rfl, by show (1 : Nat) ≤ 1000; decide, by unfold numT; rw [measT_num rfl rfl]; decide +kernel⟩
theorem qdo_push {n : Nat} {s : Value} {pl : Option Addr} {cl : Nat} {L : List (VT (n + 1))} {V : VT (n + 1)} {w : World} (hs : Rep w (n + 2) s (queueT n L)) (hr : RepL w (Rep w (n + 1)) pl 1 cl [V]) (hok : OkQ n L) (hV : checkM (measT (n + 1) V) = 0) (hVg : deepT (n + 1) V 64 = false ∧ partsT (n + 1) V ≤ 1000) (hroom : L.length ≠ 32) (hok2 : OkQ n (L ++ [V])) :
    Calls Try.prog 11 #[s, .string { data := #[112, 117, 115, 104] }, .slice pl 1 cl] w fun e w' => DoQ w (n + 2) (n + 1) (cleanT (n + 2) (queueT n (L ++ [V]))) (numT n ((L.length : Int) + 1)) 0 e w' := by
  obtain ⟨p, l, c, rfl, hrl⟩ := queue_mem hs
  have hl : L.length = l := hrl.1
  have hl32 : l ≤ 32 := by rw [← hl]; exact hok.1
  have hlc := hrl.2.1
  have HR := Lib.hid (fun W (hb : Below w.heap.size w W) => qright_any n _ _ W (rep_keep hb _ _ _ hs) hok)
  have HA := Lib.hid (fun W (hb : Below w.heap.size w W) => (show Calls Try.prog 23 #[.string { data := #[113, 117, 101, 117, 101] }, .string { data := #[112, 117, 115, 104] }, .slice pl 1 cl] W fun e w' => e = .returned (.int .i64 0) ∧ Below W.heap.size W w' by
    have h := check_args queC { data := #[112, 117, 115, 104] } n pl 1 cl [V] W (repL_keep hb (rep_keep hb _) hr) (by intro T hT; rw [List.mem_singleton.1 hT]; exact hVg)
    rw [chk_push n hV] at h
    exact h))
  obtain ⟨bl, ol, K3, I3, F3, S3, q3, m3, d3, rfl, ⟨v0, v1, v2, v3, v4⟩, hvr⟩ := arg_one hr
  rw [hl]
  refine qdo_run (n + 2) (n + 1) p l c _ _ 1 cl w HR HA (queueT n (L ++ [V])) (numT n ((l : Int) + 1)) (Lib.hid (fun W hb => ?_)) (okq_cln hok2) (num_cln n _)
  refine run_push n p l c bl ol K3 I3 F3 S3 q3 m3 d3 cl W (cell_keep hb v0) (cell_keep hb v1) (cell_keep hb v2) (cell_keep hb v3) (cell_keep hb v4) _ _ 0 (Lib.hid (fun W2 hb2 => ?_))
  refine (qpush_ok n p l c K3 I3 F3 S3 q3 m3 d3 L V W W2 (Lib.hid hb2) (Lib.hid (repL_keep hb (rep_keep hb _) hrl)) (Lib.hid (rep_keep hb _ _ _ hvr)) hl32 (by rw [← hl]; exact hroom) (Lib.hid hok2.2)).mono ?_
  rintro e w' ⟨t, rfl, hb', hy⟩
  exact ⟨_, _, rfl, hb', hy, num_any n _ _ (by unfold okI; omega)⟩
theorem qdo_no {n : Nat} {s : Value} {pl : Option Addr} {cl : Nat} {L : List (VT (n + 1))} {V : VT (n + 1)} {w : World} (hs : Rep w (n + 2) s (queueT n L)) (hr : RepL w (Rep w (n + 1)) pl 1 cl [V]) (hok : OkQ n L) (hV : checkM (measT (n + 1) V) = 0) (hVg : deepT (n + 1) V 64 = false ∧ partsT (n + 1) V ≤ 1000) (hroom : L.length ≠ 32) (h2 : checkM (measT (n + 2) (queueT n (L ++ [V]))) ≠ 0 ∧ deepT (n + 2) (queueT n (L ++ [V])) 64 = false ∧ partsT (n + 2) (queueT n (L ++ [V])) ≤ 1000) :
    Calls Try.prog 11 #[s, .string { data := #[112, 117, 115, 104] }, .slice pl 1 cl] w fun e w' => DoQ w (n + 2) (n + 1) (nilT (n + 1)) (nilT n) 33 e w' := by
  obtain ⟨p, l, c, rfl, hrl⟩ := queue_mem hs
  have hl : L.length = l := hrl.1
  have hl32 : l ≤ 32 := by rw [← hl]; exact hok.1
  have hlc := hrl.2.1
  have HR := Lib.hid (fun W (hb : Below w.heap.size w W) => qright_any n _ _ W (rep_keep hb _ _ _ hs) hok)
  have HA := Lib.hid (fun W (hb : Below w.heap.size w W) => (show Calls Try.prog 23 #[.string { data := #[113, 117, 101, 117, 101] }, .string { data := #[112, 117, 115, 104] }, .slice pl 1 cl] W fun e w' => e = .returned (.int .i64 0) ∧ Below W.heap.size W w' by
    have h := check_args queC { data := #[112, 117, 115, 104] } n pl 1 cl [V] W (repL_keep hb (rep_keep hb _) hr) (by intro T hT; rw [List.mem_singleton.1 hT]; exact hVg)
    rw [chk_push n hV] at h
    exact h))
  obtain ⟨bl, ol, K3, I3, F3, S3, q3, m3, d3, rfl, ⟨v0, v1, v2, v3, v4⟩, hvr⟩ := arg_one hr
  refine qdo_bad 33 rfl (n + 1) n (n + 2) (n + 1) (nilT (n + 1)) (nilT n) p l c _ _ 1 cl w HR HA (Lib.hid (fun W hb => ?_))
  refine run_push n p l c bl ol K3 I3 F3 S3 q3 m3 d3 cl W (cell_keep hb v0) (cell_keep hb v1) (cell_keep hb v2) (cell_keep hb v3) (cell_keep hb v4) _ _ 33 (Lib.hid (fun W2 hb2 => ?_))
  refine (qpush_no n p l c K3 I3 F3 S3 q3 m3 d3 L V W W2 (Lib.hid hb2) (Lib.hid (repL_keep hb (rep_keep hb _) hrl)) (Lib.hid (rep_keep hb _ _ _ hvr)) hl32 (by rw [← hl]; exact hroom) _ (by rw [bne_iff_ne]; exact h2.1) (Lib.hid ⟨rfl, h2.2⟩)).mono ?_
  rintro e w' ⟨rfl, hb'⟩
  exact ⟨_, _, rfl, hb', fun y _ _ => nil_any (n + 1) y, nil_any n _⟩
theorem qdo_full {n : Nat} {s : Value} {pl : Option Addr} {cl : Nat} {L : List (VT (n + 1))} {V : VT (n + 1)} {w : World} (hs : Rep w (n + 2) s (queueT n L)) (hr : RepL w (Rep w (n + 1)) pl 1 cl [V]) (hok : OkQ n L) (hV : checkM (measT (n + 1) V) = 0) (hVg : deepT (n + 1) V 64 = false ∧ partsT (n + 1) V ≤ 1000) (hfull : L.length = 32) :
    Calls Try.prog 11 #[s, .string { data := #[112, 117, 115, 104] }, .slice pl 1 cl] w fun e w' => DoQ w (n + 2) (n + 1) (nilT (n + 1)) (nilT n) 33 e w' := by
  obtain ⟨p, l, c, rfl, hrl⟩ := queue_mem hs
  have hl : L.length = l := hrl.1
  have hl32 : l ≤ 32 := by rw [← hl]; exact hok.1
  have hlc := hrl.2.1
  have HR := Lib.hid (fun W (hb : Below w.heap.size w W) => qright_any n _ _ W (rep_keep hb _ _ _ hs) hok)
  have HA := Lib.hid (fun W (hb : Below w.heap.size w W) => (show Calls Try.prog 23 #[.string { data := #[113, 117, 101, 117, 101] }, .string { data := #[112, 117, 115, 104] }, .slice pl 1 cl] W fun e w' => e = .returned (.int .i64 0) ∧ Below W.heap.size W w' by
    have h := check_args queC { data := #[112, 117, 115, 104] } n pl 1 cl [V] W (repL_keep hb (rep_keep hb _) hr) (by intro T hT; rw [List.mem_singleton.1 hT]; exact hVg)
    rw [chk_push n hV] at h
    exact h))
  obtain ⟨bl, ol, K3, I3, F3, S3, q3, m3, d3, rfl, ⟨v0, v1, v2, v3, v4⟩, hvr⟩ := arg_one hr
  obtain rfl : l = 32 := by rw [← hl]; exact hfull
  refine qdo_bad 33 rfl (n + 1) n (n + 2) (n + 1) (nilT (n + 1)) (nilT n) p 32 c _ _ 1 cl w HR HA (Lib.hid (fun W hb => ?_))
  refine run_push n p 32 c bl ol K3 I3 F3 S3 q3 m3 d3 cl W (cell_keep hb v0) (cell_keep hb v1) (cell_keep hb v2) (cell_keep hb v3) (cell_keep hb v4) _ _ 33 (Lib.hid (fun W2 hb2 => ?_))
  refine (qpush_full p c K3 I3 F3 S3 q3 m3 d3 W2).mono ?_
  rintro e w' ⟨rfl, hb'⟩
  exact ⟨_, _, rfl, hb', fun y _ _ => nil_any (n + 1) y, nil_any n _⟩
theorem qdo_pop {n : Nat} {s : Value} {pl : Option Addr} {cl : Nat} {L : List (VT (n + 1))} {w : World} (hs : Rep w (n + 2) s (queueT n L)) (hr : RepL w (Rep w (n + 1)) pl 0 cl []) (hok : OkQ n L) (hok2 : OkQ n (L.drop 1)) (hH : Cln (n + 1) (headT n L)) :
    Calls Try.prog 11 #[s, .string { data := #[112, 111, 112] }, .slice pl 0 cl] w fun e w' => DoQ w (n + 2) (n + 1) (cleanT (n + 2) (queueT n (L.drop 1))) (cleanT (n + 1) (headT n L)) 0 e w' := by
  obtain ⟨p, l, c, rfl, hrl⟩ := queue_mem hs
  have hl : L.length = l := hrl.1
  have hl32 : l ≤ 32 := by rw [← hl]; exact hok.1
  have hlc := hrl.2.1
  have HR := Lib.hid (fun W (hb : Below w.heap.size w W) => qright_any n _ _ W (rep_keep hb _ _ _ hs) hok)
  have HA := Lib.hid (fun W (hb : Below w.heap.size w W) => (show Calls Try.prog 23 #[.string { data := #[113, 117, 101, 117, 101] }, .string { data := #[112, 111, 112] }, .slice pl 0 cl] W fun e w' => e = .returned (.int .i64 0) ∧ Below W.heap.size W w' by
    have h := check_args queC { data := #[112, 111, 112] } n pl 0 cl [] W (repL_keep hb (rep_keep hb _) hr) (by intro T hT; exact absurd hT List.not_mem_nil)
    rw [chk_bare n _ (Or.inl rfl)] at h
    exact h))
  refine qdo_run (n + 2) (n + 1) p l c _ _ 0 cl w HR HA (queueT n (L.drop 1)) (headT n L) (Lib.hid (fun W hb => ?_)) (okq_cln hok2) hH
  exact run_pop n p l c _ _ _ W _ _ (Lib.hid (fun W2 hb2 => qpop_any n p l c L W W2 (Lib.hid hb2) (Lib.hid (repL_keep hb (rep_keep hb _) hrl)) (by omega)))
theorem qdo_peek {n : Nat} {s : Value} {pl : Option Addr} {cl : Nat} {L : List (VT (n + 1))} {w : World} (hs : Rep w (n + 2) s (queueT n L)) (hr : RepL w (Rep w (n + 1)) pl 0 cl []) (hok : OkQ n L) (hH : Cln (n + 1) (headT n L)) :
    Calls Try.prog 11 #[s, .string { data := #[112, 101, 101, 107] }, .slice pl 0 cl] w fun e w' => DoQ w (n + 2) (n + 1) (cleanT (n + 2) (queueT n L)) (cleanT (n + 1) (headT n L)) 0 e w' := by
  obtain ⟨p, l, c, rfl, hrl⟩ := queue_mem hs
  have hl : L.length = l := hrl.1
  have hl32 : l ≤ 32 := by rw [← hl]; exact hok.1
  have hlc := hrl.2.1
  have HR := Lib.hid (fun W (hb : Below w.heap.size w W) => qright_any n _ _ W (rep_keep hb _ _ _ hs) hok)
  have HA := Lib.hid (fun W (hb : Below w.heap.size w W) => (show Calls Try.prog 23 #[.string { data := #[113, 117, 101, 117, 101] }, .string { data := #[112, 101, 101, 107] }, .slice pl 0 cl] W fun e w' => e = .returned (.int .i64 0) ∧ Below W.heap.size W w' by
    have h := check_args queC { data := #[112, 101, 101, 107] } n pl 0 cl [] W (repL_keep hb (rep_keep hb _) hr) (by intro T hT; exact absurd hT List.not_mem_nil)
    rw [chk_bare n _ (Or.inr (Or.inl rfl))] at h
    exact h))
  refine qdo_run (n + 2) (n + 1) p l c _ _ 0 cl w HR HA (queueT n L) (headT n L) (Lib.hid (fun W hb => ?_)) (okq_cln hok) hH
  exact run_peek n p l c _ _ _ W _ _ (Lib.hid (rep_keep hb _ _ _ hs)) (Lib.hid (fun W2 hb2 => qfirst_any n p l c L W W2 hb2 (repL_keep hb (rep_keep hb _) hrl)))
theorem qdo_len {n : Nat} {s : Value} {pl : Option Addr} {cl : Nat} {L : List (VT (n + 1))} {w : World} (hs : Rep w (n + 2) s (queueT n L)) (hr : RepL w (Rep w (n + 1)) pl 0 cl []) (hok : OkQ n L) :
    Calls Try.prog 11 #[s, .string { data := #[108, 101, 110] }, .slice pl 0 cl] w fun e w' => DoQ w (n + 2) (n + 1) (cleanT (n + 2) (queueT n L)) (numT n L.length) 0 e w' := by
  obtain ⟨p, l, c, rfl, hrl⟩ := queue_mem hs
  have hl : L.length = l := hrl.1
  have hl32 : l ≤ 32 := by rw [← hl]; exact hok.1
  have hlc := hrl.2.1
  have HR := Lib.hid (fun W (hb : Below w.heap.size w W) => qright_any n _ _ W (rep_keep hb _ _ _ hs) hok)
  have HA := Lib.hid (fun W (hb : Below w.heap.size w W) => (show Calls Try.prog 23 #[.string { data := #[113, 117, 101, 117, 101] }, .string { data := #[108, 101, 110] }, .slice pl 0 cl] W fun e w' => e = .returned (.int .i64 0) ∧ Below W.heap.size W w' by
    have h := check_args queC { data := #[108, 101, 110] } n pl 0 cl [] W (repL_keep hb (rep_keep hb _) hr) (by intro T hT; exact absurd hT List.not_mem_nil)
    rw [chk_bare n _ (Or.inr (Or.inr rfl))] at h
    exact h))
  rw [hl]
  refine qdo_run (n + 2) (n + 1) p l c _ _ 0 cl w HR HA (queueT n L) (numT n l) (Lib.hid (fun W hb => ?_)) (okq_cln hok) (num_cln n _)
  exact run_len n p l c _ _ _ W _ (Lib.hid (rep_keep hb _ _ _ hs)) (by omega)
theorem num_shape3 {w : World} {n : Nat} {i : Int} {K3 I3 : Int} {F3 : Nat} {S3 : ByteArray} {q3 : Option Addr} {m3 d3 : Nat} (h : Rep w (n + 1) (.agg #[.int .i64 K3, .int .i64 I3, .float .f64 F3, .string S3, .slice q3 m3 d3]) (numT n i)) : I3 = i := by
  obtain ⟨p, l, c, hv, _⟩ := h
  injection hv with hv
  simp only [Array.mk.injEq, List.cons.injEq, and_true] at hv
  have h2 := hv.2.1
  injection h2
theorem qdo_nth {n : Nat} {s : Value} {pl : Option Addr} {cl : Nat} {L : List (VT (n + 1))} {i : Nat} {w : World} (hs : Rep w (n + 2) s (queueT n L)) (hr : RepL w (Rep w (n + 1)) pl 1 cl [numT n (i : Nat)]) (hok : OkQ n L) (hi : i < L.length) (hH : Cln (n + 1) L[i]) :
    Calls Try.prog 11 #[s, .string { data := #[110, 116, 104] }, .slice pl 1 cl] w fun e w' => DoQ w (n + 2) (n + 1) (cleanT (n + 2) (queueT n L)) (cleanT (n + 1) L[i]) 0 e w' := by
  obtain ⟨p, l, c, rfl, hrl⟩ := queue_mem hs
  have hl : L.length = l := hrl.1
  have hl32 : l ≤ 32 := by rw [← hl]; exact hok.1
  have hlc := hrl.2.1
  have HR := Lib.hid (fun W (hb : Below w.heap.size w W) => qright_any n _ _ W (rep_keep hb _ _ _ hs) hok)
  have HA := Lib.hid (fun W (hb : Below w.heap.size w W) => (show Calls Try.prog 23 #[.string { data := #[113, 117, 101, 117, 101] }, .string { data := #[110, 116, 104] }, .slice pl 1 cl] W fun e w' => e = .returned (.int .i64 0) ∧ Below W.heap.size W w' by
    have h := check_args queC { data := #[110, 116, 104] } n pl 1 cl [numT n (i : Nat)] W (repL_keep hb (rep_keep hb _) hr) (by intro T hT; rw [List.mem_singleton.1 hT]; exact (num_light n _).2)
    rw [chk_nth n _] at h
    exact h))
  obtain ⟨bl, ol, K3, I3, F3, S3, q3, m3, d3, rfl, ⟨v0, v1, v2, v3, v4⟩, hvr⟩ := arg_one hr
  obtain rfl := num_shape3 hvr
  refine qdo_run (n + 2) (n + 1) p l c _ _ 1 cl w HR HA (queueT n L) L[i] (Lib.hid (fun W hb => ?_)) (okq_cln hok) hH
  refine run_nth n p l c bl ol K3 (i : Nat) F3 S3 q3 m3 d3 cl W (cell_keep hb v0) (cell_keep hb v1) (cell_keep hb v2) (cell_keep hb v3) (cell_keep hb v4) _ _ 0 (Lib.hid (rep_keep hb _ _ _ hs)) (Lib.hid (fun W2 hb2 => ?_))
  obtain ⟨b, off, rfl, hit⟩ := hrl.2.2.2 (by omega)
  obtain ⟨u0, u1, u2, u3, u4, c0, c1, c2, c3, c4, hri⟩ := hit i hi
  obtain ⟨Kx, Ix, Fx, Sx, qx, mx, dx, hv, _⟩ := rep_shape hri
  injection hv with hv
  simp only [Array.mk.injEq, List.cons.injEq, and_true] at hv
  obtain ⟨rfl, rfl, rfl, rfl, rfl⟩ := hv
  have hbb := bel_step hb hb2
  refine (nth_at b off l c i Kx Ix Fx Sx qx mx dx W2 (by omega) (by omega) (cell_keep hbb c0) (cell_keep hbb c1) (cell_keep hbb c2) (cell_keep hbb c3) (cell_keep hbb c4)).mono ?_
  rintro e w' ⟨rfl, hb'⟩
  exact ⟨_, rfl, hb', rep_keep hb _ _ _ hri⟩
theorem qdo_none {n : Nat} {s : Value} {pl : Option Addr} {cl : Nat} {L : List (VT (n + 1))} {i : Int} {w : World} (hs : Rep w (n + 2) s (queueT n L)) (hr : RepL w (Rep w (n + 1)) pl 1 cl [numT n i]) (hok : OkQ n L) (hi : i < 0 ∨ (L.length : Int) ≤ i) :
    Calls Try.prog 11 #[s, .string { data := #[110, 116, 104] }, .slice pl 1 cl] w fun e w' => DoQ w (n + 2) (n + 1) (nilT (n + 1)) (nilT n) 34 e w' := by
  obtain ⟨p, l, c, rfl, hrl⟩ := queue_mem hs
  have hl : L.length = l := hrl.1
  have hl32 : l ≤ 32 := by rw [← hl]; exact hok.1
  have hlc := hrl.2.1
  have HR := Lib.hid (fun W (hb : Below w.heap.size w W) => qright_any n _ _ W (rep_keep hb _ _ _ hs) hok)
  have HA := Lib.hid (fun W (hb : Below w.heap.size w W) => (show Calls Try.prog 23 #[.string { data := #[113, 117, 101, 117, 101] }, .string { data := #[110, 116, 104] }, .slice pl 1 cl] W fun e w' => e = .returned (.int .i64 0) ∧ Below W.heap.size W w' by
    have h := check_args queC { data := #[110, 116, 104] } n pl 1 cl [numT n i] W (repL_keep hb (rep_keep hb _) hr) (by intro T hT; rw [List.mem_singleton.1 hT]; exact (num_light n _).2)
    rw [chk_nth n _] at h
    exact h))
  obtain ⟨bl, ol, K3, I3, F3, S3, q3, m3, d3, rfl, ⟨v0, v1, v2, v3, v4⟩, hvr⟩ := arg_one hr
  obtain rfl := num_shape3 hvr
  refine qdo_bad 34 rfl (n + 1) n (n + 2) (n + 1) (queueT n L) (nilT n) p l c _ _ 1 cl w HR HA (Lib.hid (fun W hb => ?_))
  refine run_nth n p l c bl ol K3 I3 F3 S3 q3 m3 d3 cl W (cell_keep hb v0) (cell_keep hb v1) (cell_keep hb v2) (cell_keep hb v3) (cell_keep hb v4) _ _ 34 (Lib.hid (rep_keep hb _ _ _ hs)) (Lib.hid (fun W2 hb2 => ?_))
  refine (nth_bad p l c I3 W2 (fun hp => by
    rcases Nat.eq_zero_or_pos l with h | h
    · exact h
    · obtain ⟨b, off, hx, _⟩ := hrl.2.2.2 h
      rw [hp] at hx; cases hx) (by omega)).mono ?_
  rintro e w' ⟨rfl, hb'⟩
  exact ⟨_, rfl, hb', nil_any n _⟩
end Num
end Go.Proofs.Ytodjnhhnjncgdaa
