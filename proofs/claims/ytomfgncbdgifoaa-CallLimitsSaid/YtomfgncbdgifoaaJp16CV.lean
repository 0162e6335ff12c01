/-
  package call's Same, of calls alike, their arguments small.
-/
import Derived.Test.YtomfgncbdgifoaaJp6VCpv
import Derived.Test.YtomfgncbdgifoaaJp15MT
import Derived.Test.YtomfgncbdgifoaaJp11MS
import Derived.Deep.RegionHeld3
import Derived.Test.YtomfgncbdgifoaaJp9WE
namespace Go.Proofs.Ytomfgncbdgifoaa
open Go.RowKit
namespace Num
open Ints
set_option linter.unusedSimpArgs false
set_option linter.unusedVariables false
theorem alike_any (n : Nat) (K1 I1 K2 I2 : Int) (F1 F2 : Nat) (S1 S2 : ByteArray) (p1 p2 : Option Addr) (l1 l2 c1 c2 : Nat) (A B : VT n) (w : World) (hra : Rep w n (.agg #[.int .i64 K1, .int .i64 I1, .float .f64 F1, .string S1, .slice p1 l1 c1]) A) (hrb : Rep w n (.agg #[.int .i64 K2, .int .i64 I2, .float .f64 F2, .string S2, .slice p2 l2 c2]) B) (hd : deepT n A 64 = false) (hp : partsT n A ≤ 1000) (hc : cmpT ordF n A B = 0) :
    Calls Try.prog 56 #[.agg #[.int .i64 K1, .int .i64 I1, .float .f64 F1, .string S1, .slice p1 l1 c1], .agg #[.int .i64 K2, .int .i64 I2, .float .f64 F2, .string S2, .slice p2 l2 c2]] w fun e w' => e = .returned (.bool true) ∧ Below w.heap.size w w' := by
  have HB := Lib.hid (bel_alloc (bel_alloc (Below.refl w.heap.size w) (.cells #[.int .i64 K1, .int .i64 I1, .float .f64 F1, .string S1, .slice p1 l1 c1] 47)) (.cells #[.int .i64 K2, .int .i64 I2, .float .f64 F2, .string S2, .slice p2 l2 c2] 47))
  have HO := Lib.hid (order_any n _ _ A B _ (rep_keep HB.out _ _ _ hra) (rep_keep HB.out _ _ _ hrb) hd hp)
  rw [hc] at HO
  clear hra hrb hd hp hc
  go_enter Try.func56, Try.ntmps56
  go_wp2_with fail
  go_at_call 72; refine HO.out.mono ?_; rintro e w1 ⟨rfl, hb1⟩
  have HB1 := Lib.hid (bel_step HB.out hb1)
  clear hb1
  go_wp2
  go_ret
  exact ⟨rfl, HB1.out⟩
/-- Small, and alike itself. -/
def Small (n : Nat) (T : VT n) : Prop := deepT n T 64 = false ∧ partsT n T ≤ 1000 ∧ cmpT ordF n T T = 0
set_option maxHeartbeats 2000000 in
theorem eqf_any (n : Nat) (L : List (VT n)) (hs : ∀ x ∈ L, Small n x) (w : World) (p p' : Option Addr) (l l' c c' : Nat) (h : RepL w (Rep w n) p l c L) (h' : RepL w (Rep w n) p' l' c' L) : Calls Try.prog 55 #[.slice p l c, .slice p' l' c', .func (.func 56) #[] #[]] w fun e w' => e = .returned (.bool true) ∧ Below w.heap.size w w' := by
  obtain ⟨hl, hlc, hcm, hel⟩ := h
  obtain ⟨hl', hlc', hcm', hel'⟩ := h'
  have hll : l' = l := by have h1 : L.length = l := hl; have h2 : L.length = l' := hl'; omega
  subst hll
  unfold maxLen at hcm hcm'
  have HE := Lib.hid hel
  have HE' := Lib.hid hel'
  have HL := Lib.hid hl
  have HS := Lib.hid hs
  clear hel hel' hl hl' hs
  go_enter Try.func55, Try.ntmps55
  go_wp2
  go_loopw [17] (fun i wr => ∃ k : Nat, k ≤ l' ∧ i = .int .i64 k ∧ Below w.heap.size w wr) (fun i _ => l' - (intOf i).toNat)
  case atStart => exact ⟨0, by omega, rfl, Below.refl _ _⟩
  case round =>
    obtain ⟨k, hk, rfl, hB⟩ := hrel
    have HB := Lib.hid hB
    by_cases hlt : k < l'
    · obtain ⟨b, off, hp, hi⟩ := HE.out (by omega)
      obtain ⟨b', off', hp', hi'⟩ := HE'.out (by omega)
      subst hp
      subst hp'
      have hkl : k < L.length := by have := HL.out; omega
      obtain ⟨v0, v1, v2, v3, v4, c0, c1, c2, c3, c4, hr⟩ := hi k hkl
      obtain ⟨u0, u1, u2, u3, u4, d0, d1, d2, d3, d4, hr'⟩ := hi' k hkl
      obtain ⟨K1, I1, F1, S1, p1, l1, q1, e1, _⟩ := rep_shape hr
      obtain ⟨K2, I2, F2, S2, p2, l2, q2, e2, _⟩ := rep_shape hr'
      injection e1 with e1
      injection e2 with e2
      have e1' := congrArg Array.toList e1
      have e2' := congrArg Array.toList e2
      simp only [List.cons.injEq, and_true] at e1' e2'
      obtain ⟨rfl, rfl, rfl, rfl, rfl⟩ := e1'
      obtain ⟨rfl, rfl, rfl, rfl, rfl⟩ := e2'
      have x0 := cell_keep hB c0
      have x1 := cell_keep hB c1
      have x2 := cell_keep hB c2
      have x3 := cell_keep hB c3
      have x4 := cell_keep hB c4
      have y0 := cell_keep hB d0
      have y1 := cell_keep hB d1
      have y2 := cell_keep hB d2
      have y3 := cell_keep hB d3
      have y4 := cell_keep hB d4
      have hb2' : b' < wr.heap.size := cell_lt y0
      have hb1' : b < wr.heap.size := cell_lt x0
      have hn2 : wr.heap.size ≠ b' := by omega
      have hn1 : wr.heap.size ≠ b := by omega
      have HBB := Lib.hid (bel_alloc (bel_alloc hB (.cells #[.int .i64 K1, .int .i64 I1, .float .f64 F1, .string S1, .slice p1 l1 q1] 47)) (.cells #[.int .i64 K2, .int .i64 I2, .float .f64 F2, .string S2, .slice p2 l2 q2] 47))
      obtain ⟨s1, s2, s3⟩ := HS.out _ (List.getElem_mem hkl)
      have HA := Lib.hid (alike_any n K1 I1 K2 I2 F1 F2 S1 S2 p1 p2 l1 l2 q1 q2 _ _ _ (rep_keep HBB.out _ _ _ hr) (rep_keep HBB.out _ _ _ hr') s1 s2 s3)
      clear c0 c1 c2 c3 c4 d0 d1 d2 d3 d4 hr hr' hi hi' hB s1 s2 s3 e1 e2
      go_wp2_with fail
      go_at_call 56; refine HA.out.mono ?_; rintro e w1 ⟨rfl, hb3⟩
      have HB1 := Lib.hid (bel_step HBB.out hb3)
      clear x0 x1 x2 x3 x4 y0 y1 y2 y3 y4 hb3 HB HBB HA
      go_wp2
      go_roundw
      case rel => exact ⟨k + 1, by omega, by go_num, HB1.out⟩
      case measure => simp [intOf]; omega
    · clear hB
      go_wp2
      go_ret
      exact ⟨rfl, HB.out⟩
set_option maxRecDepth 100000 in
set_option maxHeartbeats 1000000 in
theorem csame_any (n : Nat) (L : List (VT n)) (hs : ∀ x ∈ L, Small n x) (w : World) (i1 i2 i3 : Int) (S1 S2 : ByteArray) (p p' : Option Addr) (l l' c c' : Nat) (h : RepL w (Rep w n) p l c L) (h' : RepL w (Rep w n) p' l' c' L) : Calls Try.prog 25 #[.agg #[.int .u32 i1, .int .u32 i2, .int .u16 i3, .string S1, .string S2, .slice p l c], .agg #[.int .u32 i1, .int .u32 i2, .int .u16 i3, .string S1, .string S2, .slice p' l' c']] w fun e w' => e = .returned (.bool true) ∧ Below w.heap.size w w' := by
  have HB0 := Lib.hid (bel_alloc (bel_alloc (Below.refl w.heap.size w) (.cells #[.int .u32 i1, .int .u32 i2, .int .u16 i3, .string S1, .string S2, .slice p l c] 29)) (.cells #[.int .u32 i1, .int .u32 i2, .int .u16 i3, .string S1, .string S2, .slice p' l' c'] 29))
  have HH := Lib.hid (repL_bel HB0.out h)
  have HH' := Lib.hid (repL_bel HB0.out h')
  have HS := Lib.hid hs
  clear h h' hs
  go_enter Try.func25, Try.ntmps25
  go_wp2_with fail
  go_at_call 55; refine (eqf_any n L HS.out _ p p' l l' c c' HH.out HH'.out).mono ?_; rintro e w1 ⟨rfl, hb1⟩
  have HB1 := Lib.hid (bel_step HB0.out hb1)
  clear hb1
  go_wp2
  go_ret
  exact ⟨rfl, HB1.out⟩
end Num
end Go.Proofs.Ytomfgncbdgifoaa
/-
  What package wire puts of an Int or a Float.
-/
namespace Go.Proofs.Ytomfgncbdgifoaa
open Go.RowKit
namespace Num
open Ints
set_option linter.unusedSimpArgs false
set_option linter.unusedVariables false
theorem ow_drew1 {W0 w : World} {p : Option Addr} {l c : Nat} {X : List Int} (h : OwB W0 w p l c X) : OwB W0 w.drew p l c X := ⟨h.1, h.2.1, Below.drew h.2.2.1, h.2.2.2⟩
theorem ow_drewN {W0 w : World} {p : Option Addr} {l c : Nat} {X : List Int} (n : Nat) (h : OwB W0 w p l c X) : OwB W0 (w.drewN n) p l c X := ⟨h.1, h.2.1, bel_drewN n h.2.2.1, h.2.2.2⟩
theorem bel_un {w w' : World} {n : Nat} (h : Below w.heap.size (w.drewN n) w') : Below w.heap.size w w' := ⟨h.os, h.tape, h.output, h.size, h.block⟩
theorem rep_num (w : World) (K I : Int) (x : Nat) (q : Option Addr) (d : Nat) (hK : okI K) (hI : okI I) (hx : x < 2 ^ 64) (hd : d ≤ maxLen) : Rep w 1 (.agg #[.int .i64 K, .int .i64 I, .float .f64 x, .string ⟨#[]⟩, .slice q 0 d]) (K, I, x, ⟨#[]⟩, []) :=
  ⟨q, 0, d, rfl, hK, hI, hx, (show (⟨#[]⟩ : ByteArray).size ≤ maxLen from by decide), rfl, Nat.zero_le _, hd, fun h => absurd h (Nat.lt_irrefl _)⟩
set_option maxRecDepth 100000 in
set_option maxHeartbeats 4000000 in
theorem appendValue_1 (W0 w : World) (p : Option Addr) (l c : Nat) (X : List Int) (I : Int) (F : Nat) (hb : OwB W0 w p l c X) (hl : l ≤ 50000) (q : Option Addr) (d : Nat) (hI : okI I) (hx : F < 2 ^ 64) (hd : d ≤ maxLen) :
    Calls Try.prog 80 #[.slice p l c, .agg #[.int .i64 1, .int .i64 I, .float .f64 F, .string ⟨#[]⟩, .slice q 0 d]] w fun e w' => ∃ p' c', e = .returned (.slice p' (l + 9) c') ∧ OwB W0 w' p' (l + 9) c' (X ++ 1 :: beI (IntKind.u64.wrap I) 8) := by
  have HO := Lib.hid (ow_alloc hb (.cells #[.int .i64 1, .int .i64 I, .float .f64 F, .string ⟨#[]⟩, .slice q 0 d] 47))
  have HAU := Lib.hid (fun w p l c X (h : OwB W0 w p l c X) (hl : l ≤ 100000) => appendU_any W0 w p l c X (IntKind.u64.wrap I) 8 (by rw [Go.IntKind.wrap_u64]; omega) (by rw [Go.IntKind.wrap_u64]; omega) (by omega) h hl)
  have RB := Lib.hid (row_alloc_step (row_alloc w #[.int .i64 1, .int .i64 I, .float .f64 F, .string ⟨#[]⟩, .slice q 0 d] 47) (.cells #[.int .u8 1] 5))
  have HOB := Lib.hid (fun k (h : (Value.slice p l c).ownBlock = some k) => ((hb.2.1.lt k h).2 : k < w.heap.size))
  clear hb hI hx hd
  go_enter Try.func80, Try.ntmps80
  go_wp2_with (at_builtin; refine wp_ob1 rfl (.tmp 5) (.tmp 9) rfl W0 _ p l c X 1 rfl (congrArg (fun z => Value.slice (some ⟨z, 0, none⟩) 1 1) (World.size_alloc w (.cells #[.int .i64 1, .int .i64 I, .float .f64 F, .string ⟨#[]⟩, .slice q 0 d] 47)).symm) HO.out (by omega) ?_; intro p2 c2 w2 ho2 hg2; have HO2 := Lib.hid ho2; have hr := row_grown RB.out hg2 (fun e => by have := HOB.out _ e.symm; omega); have d0 := row_cell hr 0; have d1 := row_cell hr 1; have d2 := row_cell hr 2; simp only [List.getElem?_toArray, List.getElem?_cons_zero, List.getElem?_cons_succ] at d0 d1 d2; clear ho2 hg2 hr)
  go_at_call 78; refine (HAU.out _ _ _ _ _ HO2.out (by omega)).mono ?_; rintro e w3 ⟨p3, c3, rfl, ho3⟩
  have HO3 := Lib.hid (show OwB W0 w3 p3 (l + 9) c3 (X ++ 1 :: beI (IntKind.u64.wrap I) 8) by have h := ho3; rw [List.append_assoc] at h; exact h)
  clear ho3
  go_wp2
  go_ret
  exact ⟨p3, c3, rfl, HO3.out⟩
theorem vsize_1 (w : World) (I : Int) (F : Nat) (q : Option Addr) (d : Nat) (hI : okI I) (hx : F < 2 ^ 64) (hd : d ≤ maxLen) : Calls Try.prog 81 #[.agg #[.int .i64 1, .int .i64 I, .float .f64 F, .string ⟨#[]⟩, .slice q 0 d]] w fun e w' => e = .returned (.int .i64 9) ∧ Below w.heap.size w w' := by
  have h := vsize_any 1 1 I F ⟨#[]⟩ q 0 d (1, I, F, ⟨#[]⟩, []) w (rep_num w 1 I F q d (by decide) hI hx hd) (deepT_not (by decide)) (by rw [partsT_else (by decide)]; decide)
  rw [measT_num (by decide) (by decide)] at h
  exact h
theorem vcheck_1 (w : World) (I : Int) (F : Nat) (q : Option Addr) (d : Nat) (hI : okI I) (hx : F < 2 ^ 64) (hd : d ≤ maxLen) : Calls Try.prog 79 #[.agg #[.int .i64 1, .int .i64 I, .float .f64 F, .string ⟨#[]⟩, .slice q 0 d]] w fun e w' => e = .returned (.int .i64 0) ∧ Below w.heap.size w w' := by
  have h := check_any 1 1 I F ⟨#[]⟩ q 0 d (1, I, F, ⟨#[]⟩, []) w (rep_num w 1 I F q d (by decide) hI hx hd) (deepT_not (by decide)) (by rw [partsT_else (by decide)]; decide)
  rw [measT_num (by decide) (by decide)] at h
  exact h
set_option maxRecDepth 100000 in
set_option maxHeartbeats 8000000 in
theorem put_1 (w : World) (I : Int) (F : Nat) (q : Option Addr) (d : Nat) (hI : okI I) (hx : F < 2 ^ 64) (hd : d ≤ maxLen) :
    Calls Try.prog 60 #[.slice none 0 0, .agg #[.int .i64 1, .int .i64 I, .float .f64 F, .string ⟨#[]⟩, .slice q 0 d]] w fun e w' => ∃ p' c', e = .returned (.tuple #[.slice p' 9 c', .int .i64 0]) ∧ OwB w w' p' 9 c' (1 :: beI (IntKind.u64.wrap I) 8) := by
  have RB := Lib.hid (row_alloc w #[.int .i64 1, .int .i64 I, .float .f64 F, .string ⟨#[]⟩, .slice q 0 d] 47)
  have HZ := Lib.hid (fun w => vsize_1 w I F q d hI hx hd)
  have HA := Lib.hid (fun W0 w p c h => appendValue_1 W0 w p 0 c [] I F h (by omega) q d hI hx hd)
  have HB0 := Lib.hid ((Below.refl w.heap.size w).alloc (Nat.le_refl _) (.cells #[.int .i64 1, .int .i64 I, .float .f64 F, .string ⟨#[]⟩, .slice q 0 d] 47))
  go_enter Try.func60, Try.ntmps60
  go_wp2_with fail
  go_at_call 79; refine (vcheck_1 _ I F q d hI hx hd).mono ?_; rintro e w2 ⟨rfl, hb2⟩
  have HB2 := Lib.hid (bel_step HB0.out hb2)
  have hr := row_step RB.out hb2
  have hlt := row_lt hr
  have d0 := row_cell hr 0
  have d1 := row_cell hr 1
  have d2 := row_cell hr 2
  have d3 := row_cell hr 3
  have d4 := row_cell hr 4
  simp only [List.getElem?_toArray, List.getElem?_cons_zero, List.getElem?_cons_succ] at d0 d1 d2 d3 d4
  clear hb2 hr
  clear hI hx hd
  go_wp2
  go_region_held3 (fun w' => w'.cell? ⟨w.heap.size, 0, none⟩ = some (.int .i64 1) ∧ w'.cell? ⟨w.heap.size, 1, none⟩ = some (.int .i64 I) ∧ w'.cell? ⟨w.heap.size, 2, none⟩ = some (.float .f64 F) ∧ w'.cell? ⟨w.heap.size, 3, none⟩ = some (.string ⟨#[]⟩) ∧ w'.cell? ⟨w.heap.size, 4, none⟩ = some (.slice q 0 d) ∧ w.heap.size < w'.heap.size) (go_keep) (first
    | (go_at_call 81; refine (HZ.out _).mono ?_; rintro e w' ⟨rfl, hb'⟩; have HBS := Lib.hid (⟨hb'.os, hb'.tape, hb'.output, hb'.size, hb'.block⟩ : Below w2.heap.size w2 w'); obtain ⟨hc', _⟩ := bcell hb'; have z' := hb'.size; (try simp only [World.size_drew, World.cell?_drew, World.heap_drewN, World.cell?_drewN] at hc' z'); have z0 := Nat.lt_of_lt_of_le ‹w.heap.size < _› z'; clear hb')
    | (go_at_call 77; refine (roomy_any _ none 0 0 [] 9 (rd_nil _) (by omega) (by omega)).mono ?_; rintro e w' ⟨p1, c1, rfl, ho1⟩; have hb1 := ow_bel ho1; have HO1 := Lib.hid (ow_base (W0 := w2) ⟨HBS.out.os, HBS.out.tape, HBS.out.output, HBS.out.size, HBS.out.block⟩ ho1); clear ho1; obtain ⟨hc', _⟩ := bcell hb1; have z' := hb1.size; (try simp only [World.size_drew, World.cell?_drew, World.heap_drewN, World.cell?_drewN] at hc' z'); have z0 := Nat.lt_of_lt_of_le ‹w.heap.size < _› z')
    | (go_at_call 80; refine (HA.out w2 _ _ _ (by first | exact HO1.out | exact ow_drew1 HO1.out | exact ow_drewN _ HO1.out)).mono ?_; rintro e w' ⟨p2, c2, rfl, ho2⟩; have hb3 := ow_bel ho2; have HO2 := Lib.hid ho2; clear ho2; obtain ⟨hc', _⟩ := bcell hb3; have z' := hb3.size; have z0 := Nat.lt_of_lt_of_le hlt z'))
  all_goals
    have HF := Lib.hid (ow_base HB2.out HO2.out)
    go_wp2
    go_ret2
    exact ⟨p2, c2, rfl, HF.out⟩
set_option maxRecDepth 100000 in
set_option maxHeartbeats 4000000 in
theorem appendValue_2 (W0 w : World) (p : Option Addr) (l c : Nat) (X : List Int) (I : Int) (F : Nat) (hb : OwB W0 w p l c X) (hl : l ≤ 50000) (q : Option Addr) (d : Nat) (hI : okI I) (hx : F < 18446744073709551616) (hd : d ≤ maxLen) :
    Calls Try.prog 80 #[.slice p l c, .agg #[.int .i64 2, .int .i64 I, .float .f64 F, .string ⟨#[]⟩, .slice q 0 d]] w fun e w' => ∃ p' c', e = .returned (.slice p' (l + 9) c') ∧ OwB W0 w' p' (l + 9) c' (X ++ 2 :: beI ((Flo.canon F : Int)) 8) := by
  have HO := Lib.hid (ow_alloc hb (.cells #[.int .i64 2, .int .i64 I, .float .f64 F, .string ⟨#[]⟩, .slice q 0 d] 47))
  have HAU := Lib.hid (fun w p l c X (h : OwB W0 w p l c X) (hl : l ≤ 100000) => appendU_any W0 w p l c X ((Flo.canon F : Int)) 8 (by omega) (by have := Flo.canon_lt (x := F) hx; omega) (by omega) h hl)
  have RB := Lib.hid (row_alloc_step (row_alloc w #[.int .i64 2, .int .i64 I, .float .f64 F, .string ⟨#[]⟩, .slice q 0 d] 47) (.cells #[.int .u8 2] 5))
  have HOB := Lib.hid (fun k (h : (Value.slice p l c).ownBlock = some k) => ((hb.2.1.lt k h).2 : k < w.heap.size))
  clear hb hI hx hd
  go_enter Try.func80, Try.ntmps80
  go_wp2_with (at_builtin; refine wp_ob1 rfl (.tmp 5) (.tmp 9) rfl W0 _ p l c X 2 rfl (congrArg (fun z => Value.slice (some ⟨z, 0, none⟩) 1 1) (World.size_alloc w (.cells #[.int .i64 2, .int .i64 I, .float .f64 F, .string ⟨#[]⟩, .slice q 0 d] 47)).symm) HO.out (by omega) ?_; intro p2 c2 w2 ho2 hg2; have HO2 := Lib.hid ho2; have hr := row_grown RB.out hg2 (fun e => by have := HOB.out _ e.symm; omega); have d0 := row_cell hr 0; have d1 := row_cell hr 1; have d2 := row_cell hr 2; simp only [List.getElem?_toArray, List.getElem?_cons_zero, List.getElem?_cons_succ] at d0 d1 d2; clear ho2 hg2 hr)
  go_at_call 92; refine (bits_any _ _).mono ?_; rintro e w3 ⟨rfl, rfl⟩
  go_wp2_with fail
  go_at_call 78; refine (HAU.out _ _ _ _ _ HO2.out (by omega)).mono ?_; rintro e w3 ⟨p3, c3, rfl, ho3⟩
  have HO3 := Lib.hid (show OwB W0 w3 p3 (l + 9) c3 (X ++ 2 :: beI ((Flo.canon F : Int)) 8) by have h := ho3; rw [List.append_assoc] at h; exact h)
  clear ho3
  go_wp2
  go_ret
  exact ⟨p3, c3, rfl, HO3.out⟩
theorem vsize_2 (w : World) (I : Int) (F : Nat) (q : Option Addr) (d : Nat) (hI : okI I) (hx : F < 18446744073709551616) (hd : d ≤ maxLen) : Calls Try.prog 81 #[.agg #[.int .i64 2, .int .i64 I, .float .f64 F, .string ⟨#[]⟩, .slice q 0 d]] w fun e w' => e = .returned (.int .i64 9) ∧ Below w.heap.size w w' := by
  have h := vsize_any 1 2 I F ⟨#[]⟩ q 0 d (2, I, F, ⟨#[]⟩, []) w (rep_num w 2 I F q d (by decide) hI hx hd) (deepT_not (by decide)) (by rw [partsT_else (by decide)]; decide)
  rw [measT_num (by decide) (by decide)] at h
  exact h
theorem vcheck_2 (w : World) (I : Int) (F : Nat) (q : Option Addr) (d : Nat) (hI : okI I) (hx : F < 18446744073709551616) (hd : d ≤ maxLen) : Calls Try.prog 79 #[.agg #[.int .i64 2, .int .i64 I, .float .f64 F, .string ⟨#[]⟩, .slice q 0 d]] w fun e w' => e = .returned (.int .i64 0) ∧ Below w.heap.size w w' := by
  have h := check_any 1 2 I F ⟨#[]⟩ q 0 d (2, I, F, ⟨#[]⟩, []) w (rep_num w 2 I F q d (by decide) hI hx hd) (deepT_not (by decide)) (by rw [partsT_else (by decide)]; decide)
  rw [measT_num (by decide) (by decide)] at h
  exact h
set_option maxRecDepth 100000 in
set_option maxHeartbeats 8000000 in
theorem put_2 (w : World) (I : Int) (F : Nat) (q : Option Addr) (d : Nat) (hI : okI I) (hx : F < 18446744073709551616) (hd : d ≤ maxLen) :
    Calls Try.prog 60 #[.slice none 0 0, .agg #[.int .i64 2, .int .i64 I, .float .f64 F, .string ⟨#[]⟩, .slice q 0 d]] w fun e w' => ∃ p' c', e = .returned (.tuple #[.slice p' 9 c', .int .i64 0]) ∧ OwB w w' p' 9 c' (2 :: beI ((Flo.canon F : Int)) 8) := by
  have RB := Lib.hid (row_alloc w #[.int .i64 2, .int .i64 I, .float .f64 F, .string ⟨#[]⟩, .slice q 0 d] 47)
  have HZ := Lib.hid (fun w => vsize_2 w I F q d hI hx hd)
  have HA := Lib.hid (fun W0 w p c h => appendValue_2 W0 w p 0 c [] I F h (by omega) q d hI hx hd)
  have HB0 := Lib.hid ((Below.refl w.heap.size w).alloc (Nat.le_refl _) (.cells #[.int .i64 2, .int .i64 I, .float .f64 F, .string ⟨#[]⟩, .slice q 0 d] 47))
  go_enter Try.func60, Try.ntmps60
  go_wp2_with fail
  go_at_call 79; refine (vcheck_2 _ I F q d hI hx hd).mono ?_; rintro e w2 ⟨rfl, hb2⟩
  have HB2 := Lib.hid (bel_step HB0.out hb2)
  have hr := row_step RB.out hb2
  have hlt := row_lt hr
  have d0 := row_cell hr 0
  have d1 := row_cell hr 1
  have d2 := row_cell hr 2
  have d3 := row_cell hr 3
  have d4 := row_cell hr 4
  simp only [List.getElem?_toArray, List.getElem?_cons_zero, List.getElem?_cons_succ] at d0 d1 d2 d3 d4
  clear hb2 hr
  clear hI hx hd
  go_wp2
  go_region_held3 (fun w' => w'.cell? ⟨w.heap.size, 0, none⟩ = some (.int .i64 2) ∧ w'.cell? ⟨w.heap.size, 1, none⟩ = some (.int .i64 I) ∧ w'.cell? ⟨w.heap.size, 2, none⟩ = some (.float .f64 F) ∧ w'.cell? ⟨w.heap.size, 3, none⟩ = some (.string ⟨#[]⟩) ∧ w'.cell? ⟨w.heap.size, 4, none⟩ = some (.slice q 0 d) ∧ w.heap.size < w'.heap.size) (go_keep) (first
    | (go_at_call 81; refine (HZ.out _).mono ?_; rintro e w' ⟨rfl, hb'⟩; have HBS := Lib.hid (⟨hb'.os, hb'.tape, hb'.output, hb'.size, hb'.block⟩ : Below w2.heap.size w2 w'); obtain ⟨hc', _⟩ := bcell hb'; have z' := hb'.size; (try simp only [World.size_drew, World.cell?_drew, World.heap_drewN, World.cell?_drewN] at hc' z'); have z0 := Nat.lt_of_lt_of_le ‹w.heap.size < _› z'; clear hb')
    | (go_at_call 77; refine (roomy_any _ none 0 0 [] 9 (rd_nil _) (by omega) (by omega)).mono ?_; rintro e w' ⟨p1, c1, rfl, ho1⟩; have hb1 := ow_bel ho1; have HO1 := Lib.hid (ow_base (W0 := w2) ⟨HBS.out.os, HBS.out.tape, HBS.out.output, HBS.out.size, HBS.out.block⟩ ho1); clear ho1; obtain ⟨hc', _⟩ := bcell hb1; have z' := hb1.size; (try simp only [World.size_drew, World.cell?_drew, World.heap_drewN, World.cell?_drewN] at hc' z'); have z0 := Nat.lt_of_lt_of_le ‹w.heap.size < _› z')
    | (go_at_call 80; refine (HA.out w2 _ _ _ (by first | exact HO1.out | exact ow_drew1 HO1.out | exact ow_drewN _ HO1.out)).mono ?_; rintro e w' ⟨p2, c2, rfl, ho2⟩; have hb3 := ow_bel ho2; have HO2 := Lib.hid ho2; clear ho2; obtain ⟨hc', _⟩ := bcell hb3; have z' := hb3.size; have z0 := Nat.lt_of_lt_of_le hlt z'))
  all_goals
    have HF := Lib.hid (ow_base HB2.out HO2.out)
    go_wp2
    go_ret2
    exact ⟨p2, c2, rfl, HF.out⟩
end Num
end Go.Proofs.Ytomfgncbdgifoaa
/-
  The reference's PutOp onto nil.
-/
namespace Go.Proofs.Ytomfgncbdgifoaa
open Go.RowKit
namespace Num
open Ints
set_option linter.unusedSimpArgs false
set_option linter.unusedVariables false
theorem ow_bare {w w' : World} {p : Option Addr} {l c : Nat} {X : List Int} (o : Obj) (h : OwB (w.alloc o) w' p l c X) : OwB w w' p l c X := ow_base ((Below.refl _ _).alloc (Nat.le_refl _) o) h
def S3b (w0 : World) (b : Nat) (i1 i2 i3 : Int) (w' : World) : Prop := w'.cell? ⟨b, 0, none⟩ = some (.int .u32 i1) ∧ w'.cell? ⟨b, 1, none⟩ = some (.int .u32 i2) ∧ w'.cell? ⟨b, 2, none⟩ = some (.int .u16 i3) ∧ Below w0.heap.size w0 w'
theorem s3b_drew {w0 w' : World} {b : Nat} {i1 i2 i3 : Int} (h : S3b w0 b i1 i2 i3 w') : S3b w0 b i1 i2 i3 w'.drew := ⟨h.1, h.2.1, h.2.2.1, Below.drew h.2.2.2⟩
theorem s3b_ow {w0 w1 w' : World} {b : Nat} {i1 i2 i3 : Int} (h : S3b w0 b i1 i2 i3 w1) (hb : b < w0.heap.size) (hn : Below w0.heap.size w0 w') : S3b w0 b i1 i2 i3 w' := by
  obtain ⟨h1, h2, h3, h4⟩ := h
  rw [h4.cell (p := ⟨b, 0, none⟩) hb] at h1
  rw [h4.cell (p := ⟨b, 1, none⟩) hb] at h2
  rw [h4.cell (p := ⟨b, 2, none⟩) hb] at h3
  exact ⟨(hn.cell (p := ⟨b, 0, none⟩) hb).trans h1, (hn.cell (p := ⟨b, 1, none⟩) hb).trans h2, (hn.cell (p := ⟨b, 2, none⟩) hb).trans h3, hn⟩
/-- An id's bytes. -/
def idB (i1 i2 i3 : Int) : List Int := beI i1 4 ++ (beI i2 4 ++ beI i3 2)
theorem idB_by (i1 i2 i3 : Int) : By (idB i1 i2 i3) := by_app (by_be _ _) (by_app (by_be _ _) (by_be _ _))
theorem idB_len (i1 i2 i3 : Int) : (idB i1 i2 i3).length = 10 := by unfold idB; rw [List.length_append, List.length_append, beI_len, beI_len, beI_len]
theorem wrap_rng (x : Int) : 0 ≤ IntKind.u64.wrap x ∧ IntKind.u64.wrap x < 18446744073709551616 := by
  show 0 ≤ x % 18446744073709551616 ∧ x % 18446744073709551616 < 18446744073709551616
  omega
theorem wr64 {i : Int} (h0 : 0 ≤ i) (h1 : i < 18446744073709551616) : IntKind.u64.wrap i = i := by
  show i % 18446744073709551616 = i
  omega
set_option maxRecDepth 100000 in
set_option maxHeartbeats 2000000 in
theorem putid_nil (w : World) (i1 i2 i3 : Int) (h1 : 0 ≤ i1 ∧ i1 < 4294967296) (h2 : 0 ≤ i2 ∧ i2 < 4294967296) (h3 : 0 ≤ i3 ∧ i3 < 65536) : Calls Try.prog 34 #[.slice none 0 0, .agg #[.int .u32 i1, .int .u32 i2, .int .u16 i3]] w fun e w' => ∃ p' c', e = .returned (.slice p' 10 c') ∧ OwB w w' p' 10 c' (idB i1 i2 i3) := by
  obtain ⟨a1, a2⟩ := h1
  obtain ⟨b1, b2⟩ := h2
  obtain ⟨g1, g2⟩ := h3
  obtain ⟨w0, hw0⟩ : ∃ W, w.alloc (.cells #[.int .u32 i1, .int .u32 i2, .int .u16 i3] 26) = W := ⟨_, rfl⟩
  have hs : w.heap.size < w0.heap.size := by rw [← hw0, World.size_alloc]; omega
  have R := row_alloc w #[.int .u32 i1, .int .u32 i2, .int .u16 i3] 26
  rw [hw0] at R
  have hS : S3b w0 w.heap.size i1 i2 i3 w0 := ⟨by rw [row_cell R]; rfl, by rw [row_cell R]; rfl, by rw [row_cell R]; rfl, Below.refl _ _⟩
  have HO := Lib.hid (ow_nil w0)
  have HW := Lib.hid hw0
  have HBG := Lib.hid (fun (w' : World) (p : Option Addr) (l c : Nat) (X : List Int) (u kk : Int) (k : Nat) (hkk : kk = (k : Int) ∧ k ≤ 8) (h0 : 0 ≤ u ∧ u < 18446744073709551616) (h : OwB w0 w' p l c X) (hl : l ≤ 900010) => (show Calls Try.prog 52 #[.slice p l c, .int .u64 u, .int .i64 kk] w' fun e w'' => ∃ p' c', e = .returned (.slice p' (l + k) c') ∧ OwB w0 w'' p' (l + k) c' (X ++ beI u k) ∧ KeepV w' w'' by obtain ⟨rfl, hk⟩ := hkk; exact kputU_at w0 w' p l c X u k h0.1 h0.2 hk h hl))
  have HSI := Lib.hid hS
  have HWR := Lib.hid (show IntKind.u64.wrap i1 = i1 ∧ IntKind.u64.wrap i2 = i2 ∧ IntKind.u64.wrap i3 = i3 from ⟨wr64 a1 (by omega), wr64 b1 (by omega), wr64 g1 (by omega)⟩)
  clear R hS hw0 a1 a2 b1 b2 g1 g2
  go_enter Try.func34, Try.ntmps34
  go_wp2_with fail
  (try rw [HW.out])
  obtain ⟨k0, k1, k2, k3⟩ := HSI.out
  go_region_held3 (fun w' => w'.cell? ⟨w.heap.size, 0, none⟩ = some (.int .u32 i1) ∧ w'.cell? ⟨w.heap.size, 1, none⟩ = some (.int .u32 i2) ∧ w'.cell? ⟨w.heap.size, 2, none⟩ = some (.int .u16 i3) ∧ Below w0.heap.size w0 w') ((refine ⟨?_, ?_, ?_, ?_⟩ <;> first | assumption | exact Below.drew (by assumption) | go_keep)) (first
    | (go_at_call 52; refine (HBG.out _ _ _ _ _ _ _ _ (by first | exact ⟨(rfl : (4 : Int) = ((4 : Nat) : Int)), by decide⟩ | exact ⟨(rfl : (2 : Int) = ((2 : Nat) : Int)), by decide⟩) (wrap_rng _) (by first | exact HO.out | exact ow_drew1 HO.out | exact ow_drewN _ HO.out) (by omega)).mono ?_; rintro e w' ⟨p1, c1, rfl, ho1, _⟩; have HO := Lib.hid ho1; have hk := s3b_ow HSI.out hs (ow_bel ho1); clear ho1; obtain ⟨k0, k1, k2, k3⟩ := hk))
  all_goals
    have HF := Lib.hid (show OwB w _ _ 10 _ (idB i1 i2 i3) by
      have h := HO.out
      rw [HWR.out.1, HWR.out.2.1, HWR.out.2.2, List.nil_append, List.append_assoc] at h
      rw [← HW.out] at h
      exact ow_bare _ h)
    go_wp2
    go_ret
    exact ⟨_, _, rfl, HF.out⟩
end Num
end Go.Proofs.Ytomfgncbdgifoaa
/-
  The reference's PutText; PutOp onto nil: some bytes, not too many.
-/
namespace Go.Proofs.Ytomfgncbdgifoaa
open Go.RowKit
namespace Num
open Ints
set_option linter.unusedSimpArgs false
set_option linter.unusedVariables false
set_option maxRecDepth 100000 in
set_option maxHeartbeats 1000000 in
theorem rptext_yes (W0 w : World) (p : Option Addr) (l c : Nat) (X : List Int) (s : ByteArray) (hb : OwB W0 w p l c X) (hl : l ≤ 10000) (hs : s.size ≤ 32) :
    Calls Try.prog 35 #[.slice p l c, .string s, .int .i64 32] w fun e w' => ∃ p' c', e = .returned (.tuple #[.slice p' (l + 2 + s.size) c', .int .i64 0]) ∧ OwB W0 w' p' (l + 2 + s.size) c' (X ++ beI s.size 2 ++ strIs s) := by
  have HB := Lib.hid (kputU_at W0 w p l c X (s.size : Int) 2 (by omega) (by omega) (by omega) hb (by omega))
  clear hb
  go_enter Try.func35, Try.ntmps35
  go_wp2_with fail
  go_at_call 52; refine HB.out.mono ?_; rintro e w1 ⟨p1, c1, rfl, ho1, _⟩
  have HO1 := Lib.hid ho1
  clear ho1
  go_wp2_with (at_builtin; refine wp_obS rfl _ _ rfl W0 _ p1 _ c1 _ s rfl rfl HO1.out (by omega) (by omega) ?_; intro p2 c2 w2 ho2 _)
  have HO2 := Lib.hid ho2
  clear ho2
  go_ret2
  exact ⟨p2, c2, rfl, HO2.out⟩
set_option maxHeartbeats 1000000 in
theorem rptext_no (w : World) (p : Option Addr) (l c : Nat) (s : ByteArray) (hs : 32 < s.size) (hs2 : s.size ≤ 100) :
    Calls Try.prog 35 #[.slice p l c, .string s, .int .i64 32] w fun e w' => e = .returned (.tuple #[.slice none 0 0, .int .i64 22]) ∧ w = w' := by
  go_enter Try.func35, Try.ntmps35
  go_wp2
  go_ret2
  exact ⟨rfl, rfl⟩
/-- Some bytes of the call's own. -/
def SomeB (w : World) (e : Ending) (w' : World) : Prop := ∃ (p : Option Addr) (l c : Nat) (Z : List Int) (r : Int), e = .returned (.tuple #[.slice p l c, .int .i64 r]) ∧ OwB w w' p l c Z ∧ By Z ∧ l ≤ 66000
theorem someB_nil {w w' : World} (r : Int) (h : Below w.heap.size w w') : SomeB w (.returned (.tuple #[.slice none 0 0, .int .i64 r])) w' := ⟨none, 0, 0, [], r, rfl, ow_base h (ow_nil w'), fun x hx => (by cases hx), Nat.zero_le _⟩
set_option maxRecDepth 100000 in
set_option maxHeartbeats 3000000 in
theorem rputop_nil (n : Nat) (L : List (VT (n + 1))) (w : World) (i1 i2 i3 : Int) (S1 S2 : ByteArray) (q : Option Addr) (m d : Nat) (g1 : 0 ≤ i1 ∧ i1 < 4294967296) (g2 : 0 ≤ i2 ∧ i2 < 4294967296) (g3 : 0 ≤ i3 ∧ i3 < 65536) (hs1 : S1.size ≤ 100) (hs2 : S2.size ≤ 100) (hr : RepL w (Rep w (n + 1)) q m d L) :
    Calls Try.prog 11 #[.slice none 0 0, .agg #[.int .u32 i1, .int .u32 i2, .int .u16 i3, .string S1, .string S2, .slice q m d]] w (SomeB w) := by
  have HID := Lib.hid (fun (w' : World) => putid_nil w' i1 i2 i3 g1 g2 g3)
  clear g1 g2 g3
  obtain ⟨w0, hw0⟩ : ∃ W, w.alloc (.cells #[.int .u32 i1, .int .u32 i2, .int .u16 i3, .string S1, .string S2, .slice q m d] 29) = W := ⟨_, rfl⟩
  have HB0 := Lib.hid (show Below w.heap.size w w0 by rw [← hw0]; exact (Below.refl _ _).alloc (Nat.le_refl _) _)
  have R := row_alloc w #[.int .u32 i1, .int .u32 i2, .int .u16 i3, .string S1, .string S2, .slice q m d] 29
  rw [hw0] at R
  have HR := Lib.hid R
  have HL := Lib.hid (repL_bel HB0.out hr)
  have hrl := hr.1
  have hmd := hr.2.1
  have hdm := hr.2.2.1
  unfold maxLen at hdm
  have c0 := row_cell R 0; have c1 := row_cell R 1; have c2 := row_cell R 2; have c3 := row_cell R 3; have c4 := row_cell R 4; have c5 := row_cell R 5
  simp only [List.getElem?_toArray, List.getElem?_cons_zero, List.getElem?_cons_succ] at c0 c1 c2 c3 c4 c5
  have HW0 := Lib.hid hw0
  clear R hr
  by_cases h16 : 16 < m
  · go_enter Try.func11, Try.ntmps11
    go_wp2
    go_ret2
    exact someB_nil _ HB0.out
  · go_enter Try.func11, Try.ntmps11
    go_wp2_with fail
    go_at_call 34; refine (HID.out _).mono ?_; rintro e w1 ⟨p1, k1, rfl, ho1⟩
    have HO1 := Lib.hid ho1
    have r1 := row_step HR.out (ow_bel ho1)
    have c0 := row_cell r1 0; have c1 := row_cell r1 1; have c2 := row_cell r1 2; have c3 := row_cell r1 3; have c4 := row_cell r1 4; have c5 := row_cell r1 5
    simp only [List.getElem?_toArray, List.getElem?_cons_zero, List.getElem?_cons_succ] at c0 c1 c2 c3 c4 c5
    clear ho1 r1
    by_cases h1 : S1.size ≤ 32
    · go_wp2_with fail
      go_at_call 35; refine (rptext_yes w0 w1 p1 10 k1 _ S1 HO1.out (by omega) h1).mono ?_; rintro e w2 ⟨p2, k2, rfl, ho2⟩
      have hl2e : 10 + 2 + S1.size ≤ 44 := by omega
      generalize 10 + 2 + S1.size = l2 at ho2 hl2e ⊢
      have HO2 := Lib.hid ho2
      have r1 := row_step HR.out (ow_bel ho2)
      have c0 := row_cell r1 0; have c1 := row_cell r1 1; have c2 := row_cell r1 2; have c3 := row_cell r1 3; have c4 := row_cell r1 4; have c5 := row_cell r1 5
      simp only [List.getElem?_toArray, List.getElem?_cons_zero, List.getElem?_cons_succ] at c0 c1 c2 c3 c4 c5
      clear ho2 r1
      by_cases h2 : S2.size ≤ 32
      · go_wp2_with fail
        go_at_call 35; refine (rptext_yes w0 w2 p2 _ k2 _ S2 HO2.out (by omega) h2).mono ?_; rintro e w3 ⟨p3, k3, rfl, ho3⟩
        have hl3e : l2 + 2 + S2.size ≤ 78 := by omega
        generalize l2 + 2 + S2.size = l3 at ho3 hl3e ⊢
        have HO3 := Lib.hid ho3
        have r1 := row_step HR.out (ow_bel ho3)
        have c0 := row_cell r1 0; have c1 := row_cell r1 1; have c2 := row_cell r1 2; have c3 := row_cell r1 3; have c4 := row_cell r1 4; have c5 := row_cell r1 5
        simp only [List.getElem?_toArray, List.getElem?_cons_zero, List.getElem?_cons_succ] at c0 c1 c2 c3 c4 c5
        clear ho3 r1
        go_wp2_with (at_builtin; refine wp_ob1 rfl _ _ rfl w0 w3 p3 _ k3 _ (m : Int) rfl rfl HO3.out (by omega) ?_; intro p4 k4 w4 ho4 _)
        have HO4 := Lib.hid ho4
        have HBY4 := Lib.hid (show By ((((idB i1 i2 i3 ++ beI (S1.size : Int) 2 ++ strIs S1) ++ beI (S2.size : Int) 2 ++ strIs S2)) ++ [(m : Int)]) from by_app (by_app (by_app (by_app (by_app (idB_by _ _ _) (by_be _ _)) (by_str _)) (by_be _ _)) (by_str _)) (fun x hx => by rw [List.mem_singleton.1 hx]; omega))
        have hl4 : l3 + 1 ≤ 79 := by omega
        clear ho4 c0 c1 c2 c3 c4 c5
        go_loopw [0, 7] (fun bv iv wr => ∃ (k l5 : Nat) (p5 : Option Addr) (c5 : Nat) (Z : List Int), k ≤ m ∧ iv = .int .i64 (k : Int) ∧ bv = .slice p5 l5 c5 ∧ OwB w0 wr p5 l5 c5 Z ∧ By Z ∧ l5 ≤ 79 + 4096 * k) (fun _ iv _ => m - (intOf iv).toNat)
        case atStart => exact ⟨0, l3 + 1, p4, k4, _, Nat.zero_le _, rfl, rfl, HO4.out, HBY4.out, by omega⟩
        case round =>
          obtain ⟨k, l5, p5, k5, Z, hk, rfl, rfl, ho, hby, hl5⟩ := hrel
          have HO := Lib.hid ho
          have HBY := Lib.hid hby
          have r1 := row_step HR.out (ow_bel ho)
          have c5 := row_cell r1 5
          simp only [List.getElem?_toArray, List.getElem?_cons_zero, List.getElem?_cons_succ] at c5
          have hB := ow_bel ho
          clear ho hby r1
          by_cases hkm : k < m
          · obtain ⟨b, off, hq, hi⟩ := HL.out.2.2.2 (by omega)
            subst hq
            have hkl : k < L.length := by omega
            obtain ⟨v0, v1, v2, v3, v4, d0, d1, d2, d3, d4, hrep⟩ := hi k hkl
            have e0 := cell_keep hB d0
            have e1 := cell_keep hB d1
            have e2 := cell_keep hB d2
            have e3 := cell_keep hB d3
            have e4 := cell_keep hB d4
            have HREP := Lib.hid hrep
            have HREPr := Lib.hid (rep_keep hB _ _ _ hrep)
            clear d0 d1 d2 d3 d4 hrep hi hB
            by_cases hc : rcheckT (n + 1) L[k] = 0
            · have HC := Lib.hid hc
              have HG := Lib.hid (good_parts hc).2.2
              clear hc
              go_wp2_with fail
              go_at_call 36; refine (rput_good (n + 1) w0 wr p5 l5 k5 Z _ L[k] HREP.out (Or.inl HO.out) (by omega) HC.out).mono ?_; rintro e w5 ⟨p6, k6, rfl, ho6, _⟩
              have hg := HG.out
              have HBY6 := Lib.hid (by_app HBY.out (enc_by (n + 1) L[k]))
              have hl6 : l5 + (encV (n + 1) L[k]).length ≤ 79 + 4096 * (k + 1) := by omega
              generalize l5 + (encV (n + 1) L[k]).length = l6 at ho6 hl6 ⊢
              have HO6 := Lib.hid ho6
              clear ho6 hg e0 e1 e2 e3 e4 c5
              go_wp2
              go_roundw
              case rel => exact ⟨k + 1, l6, p6, k6, _, by omega, by go_num, rfl, HO6.out, HBY6.out, hl6⟩
              case measure => simp [intOf]; omega
            · obtain ⟨E, hE⟩ : ∃ E, rcheckT (n + 1) L[k] = E := ⟨_, rfl⟩
              have hE0 : (E != 0) = true := by rw [bne_iff_ne, ← hE]; exact hc
              have HC := Lib.hid hc
              have HE := Lib.hid hE
              clear hc hE
              go_wp2_with fail
              go_at_call 36; refine (rput_bad (n + 1) wr p5 l5 k5 _ L[k] HREPr.out HC.out).mono ?_; rintro e w5 ⟨rfl, hb5⟩
              rw [HE.out]
              have HB5 := Lib.hid (bel_step (ow_bel (ow_base HB0.out HO.out)) hb5)
              clear hb5 e0 e1 e2 e3 e4 c5
              go_wp2
              go_ret2
              exact someB_nil _ HB5.out
          · clear hB
            have HF := Lib.hid (ow_base HB0.out HO.out)
            go_wp2
            go_ret2
            exact ⟨p5, l5, k5, Z, 0, rfl, HF.out, HBY.out, by omega⟩
      · go_wp2_with fail
        go_at_call 35; refine (rptext_no w2 p2 _ k2 S2 (by omega) (by omega)).mono ?_; rintro e w3 ⟨rfl, rfl⟩
        go_wp2
        go_ret2
        exact someB_nil _ (ow_bel (ow_base HB0.out HO2.out))
    · go_wp2_with fail
      go_at_call 35; refine (rptext_no w1 p1 _ k1 S1 (by omega) (by omega)).mono ?_; rintro e w3 ⟨rfl, rfl⟩
      go_wp2
      go_ret2
      exact someB_nil _ (ow_bel (ow_base HB0.out HO1.out))
end Num
end Go.Proofs.Ytomfgncbdgifoaa
/-
  The reference's ReadOp.
-/
namespace Go.Proofs.Ytomfgncbdgifoaa
open Go.RowKit
namespace Num
open Ints
set_option linter.unusedSimpArgs false
set_option linter.unusedVariables false
set_option maxRecDepth 100000 in
set_option maxHeartbeats 1000000 in
theorem rop_short (M : Nat) (w : World) (p : Option Addr) (l c : Nat) (X : List Int) (hb : RdB w p l c X) (hl : l < 10) : Calls Try.prog 16 #[.slice p l c] w (OpPost M (opD M X) w) := by
  have HN := Lib.hid (show opD M X = none by unfold opD; rw [if_pos (by have := hb.1; omega)])
  have HA := Lib.hid ((Below.refl w.heap.size w).alloc (Nat.le_refl _) (.cells #[.int .u32 0, .int .u32 0, .int .u16 0, .string ⟨#[]⟩, .string ⟨#[]⟩, .slice none 0 0] 29))
  have R0 := Lib.hid (row_alloc w #[.int .u32 0, .int .u32 0, .int .u16 0, .string ⟨#[]⟩, .string ⟨#[]⟩, .slice none 0 0] 29)
  clear hb
  go_enter Try.func16, Try.ntmps16
  go_wp2_with fail
  go_at_call 43; refine (rid_short _ p l c hl).mono ?_; rintro e w1 ⟨rfl, hb1⟩
  simp only [idA]
  have HB1 := Lib.hid (bel_step HA.out hb1)
  have k0 := row_step R0.out hb1
  have hs := row_lt k0
  have d0 := row_cell k0 0; have d1 := row_cell k0 1; have d2 := row_cell k0 2; have d3 := row_cell k0 3; have d4 := row_cell k0 4; have d5 := row_cell k0 5
  simp only [Array.setIfInBounds, List.getElem?_toArray, List.getElem?_cons_zero, List.getElem?_cons_succ] at d0 d1 d2 d3 d4 d5
  have f0 := fun o => row_frz k0 o
  clear hb1 k0
  go_wp2
  refine bodyPost_ret (v := .tuple #[opA (0, 0, 0) ⟨#[]⟩ ⟨#[]⟩ none 0 0, .int .i64 0, .int .i64 20]) (by simp [opA, results, Try.results16, go_sem, World.cell?_setCell_same, World.cell?_setCell_other, World.cell?_alloc_past, World.size_setCell, World.size_alloc, hs, d0, d1, d2, d3, d4, d5]) rfl ?_
  refine ⟨bel_alloc (bel_set6 HB1.out (Nat.le_refl _) _ _ _ _ _ _) _, fun _ => rfl, fun i S1 S2 L j h => (by rw [HN.out] at h; cases h)⟩
/-- What stands behind the id: the result's box, the call's box, both beside what came in. -/
def OpAt (w W : World) (o : Nat) (i1 i2 i3 : Int) (S1 S2 : ByteArray) (q : Option Addr) (k d : Nat) : Prop :=
  Below w.heap.size w W ∧ W.heap[w.heap.size]? = some (.cells #[.int .u32 0, .int .u32 0, .int .u16 0, .string ⟨#[]⟩, .string ⟨#[]⟩, .slice none 0 0] 29 (0, 0)) ∧ W.heap[o]? = some (.cells #[.int .u32 i1, .int .u32 i2, .int .u16 i3, .string S1, .string S2, .slice q k d] 29 (0, 0)) ∧ w.heap.size < o
theorem op_at_new {w w1 : World} (h : Below w.heap.size w w1) (h0 : w1.heap[w.heap.size]? = some (.cells #[.int .u32 0, .int .u32 0, .int .u16 0, .string ⟨#[]⟩, .string ⟨#[]⟩, .slice none 0 0] 29 (0, 0))) (i1 i2 i3 : Int) :
    OpAt w ((w1.alloc (.cells #[.int .u32 i1, .int .u32 i2, .int .u16 i3] 26)).alloc (.cells #[.int .u32 i1, .int .u32 i2, .int .u16 i3, .string ⟨#[]⟩, .string ⟨#[]⟩, .slice none 0 0] 29)) (w1.heap.size + 1) i1 i2 i3 ⟨#[]⟩ ⟨#[]⟩ none 0 0 :=
  ⟨bel_alloc (bel_alloc h _) _, row_alloc_step (row_alloc_step h0 _) _, row2_alloc _ _ _ _, by have := row_lt h0; omega⟩
theorem op_at_S1 {w W : World} {o : Nat} {i1 i2 i3 : Int} {S1 S2 : ByteArray} {q : Option Addr} {k d : Nat} (h : OpAt w W o i1 i2 i3 S1 S2 q k d) (S : ByteArray) : OpAt w (W.setCell ⟨o, 3, none⟩ (.string S)) o i1 i2 i3 S S2 q k d :=
  ⟨bel_set1 h.1 (Nat.le_of_lt h.2.2.2) _ _, row_setO h.2.1 (Nat.ne_of_lt h.2.2.2) _, row_set h.2.2.1 _, h.2.2.2⟩
theorem op_at_S2 {w W : World} {o : Nat} {i1 i2 i3 : Int} {S1 S2 : ByteArray} {q : Option Addr} {k d : Nat} (h : OpAt w W o i1 i2 i3 S1 S2 q k d) (S : ByteArray) : OpAt w (W.setCell ⟨o, 4, none⟩ (.string S)) o i1 i2 i3 S1 S q k d :=
  ⟨bel_set1 h.1 (Nat.le_of_lt h.2.2.2) _ _, row_setO h.2.1 (Nat.ne_of_lt h.2.2.2) _, row_set h.2.2.1 _, h.2.2.2⟩
theorem op_at_L {w W : World} {o : Nat} {i1 i2 i3 : Int} {S1 S2 : ByteArray} {q : Option Addr} {k d : Nat} (h : OpAt w W o i1 i2 i3 S1 S2 q k d) (q' : Option Addr) (k' d' : Nat) : OpAt w (W.setCell ⟨o, 5, none⟩ (.slice q' k' d')) o i1 i2 i3 S1 S2 q' k' d' :=
  ⟨bel_set1 h.1 (Nat.le_of_lt h.2.2.2) _ _, row_setO h.2.1 (Nat.ne_of_lt h.2.2.2) _, row_set h.2.2.1 _, h.2.2.2⟩
theorem op_at_bel {w W W' : World} {o : Nat} {i1 i2 i3 : Int} {S1 S2 : ByteArray} {q : Option Addr} {k d : Nat} (h : OpAt w W o i1 i2 i3 S1 S2 q k d) (hb : Below W.heap.size W W') : OpAt w W' o i1 i2 i3 S1 S2 q k d :=
  ⟨bel_step h.1 hb, row_step h.2.1 hb, row_step h.2.2.1 hb, h.2.2.2⟩
theorem op_at_upto {w W W' : World} {o B : Nat} {i1 i2 i3 : Int} {S1 S2 : ByteArray} {q : Option Addr} {k d : Nat} (h : OpAt w W o i1 i2 i3 S1 S2 q k d) (ho : o < B) (hu : Upto B W W') : OpAt w W' o i1 i2 i3 S1 S2 q k d := by
  have := h.2.2.2
  exact ⟨bel_upto h.1 (by omega) hu, (hu.2.2.2.2 _ (by omega)).trans h.2.1, (hu.2.2.2.2 _ ho).trans h.2.2.1, h.2.2.2⟩
theorem refRd_nil {N : Nat} : refRd N [] = none := by
  cases h : refRd N [] with
  | none => rfl
  | some q => obtain ⟨T, j⟩ := q; have := refRd_le h; simp at this; omega
theorem bel_gbR {w w' : World} (h : Below w.heap.size w w') (r : Option Nat) : w.grownBy w' r := ⟨h.os, h.tape, h.output, h.size, fun i hi _ => h.block i hi⟩
theorem nameD_short {X : List Int} (h : X.length < 2) : nameD X = none := by unfold nameD; rw [if_neg (by omega)]
theorem opD_n1 {M : Nat} {X : List Int} (h : 10 ≤ X.length) (h1 : nameD (X.drop 10) = none) : opD M X = none := by unfold opD; rw [if_neg (by omega), h1]
theorem opD_n2 {M : Nat} {X : List Int} {S1 : ByteArray} {n1 : Nat} (h : 10 ≤ X.length) (h1 : nameD (X.drop 10) = some (S1, n1)) (h2 : nameD (X.drop (10 + n1)) = none) : opD M X = none := by unfold opD; rw [if_neg (by omega), h1]; simp only [h2]
theorem opD_n3 {M : Nat} {X : List Int} {S1 S2 : ByteArray} {n1 n2 : Nat} (h : 10 ≤ X.length) (h1 : nameD (X.drop 10) = some (S1, n1)) (h2 : nameD (X.drop (10 + n1)) = some (S2, n2)) (h3 : argsD M (X.drop (10 + n1 + n2)) = none) : opD M X = none := by unfold opD; rw [if_neg (by omega), h1]; simp only [h2, h3]
theorem opD_yes {M : Nat} {X : List Int} {S1 S2 : ByteArray} {n1 n2 n3 : Nat} {L : List (VT (M + 1))} (h : 10 ≤ X.length) (h1 : nameD (X.drop 10) = some (S1, n1)) (h2 : nameD (X.drop (10 + n1)) = some (S2, n2)) (h3 : argsD M (X.drop (10 + n1 + n2)) = some (L, n3)) : opD M X = some (idV X, S1, S2, L, 10 + n1 + n2 + n3) := by unfold opD; rw [if_neg (by omega), h1]; simp only [h2, h3]
set_option maxRecDepth 100000 in
set_option maxHeartbeats 3000000 in
theorem rop_long (M : Nat) (hM : M < 100000) (w : World) (p : Option Addr) (l c : Nat) (X : List Int) (hb : RdB w p l c X) (hX : By X) (hlM : l ≤ M) (hl : 10 ≤ l) : Calls Try.prog 16 #[.slice p l c] w (OpPost M (opD M X) w) := by
  obtain ⟨b, off, rfl⟩ := rd_full hb (by omega)
  have HX := Lib.hid hX
  have hlX : 10 ≤ X.length := by have := hb.1; omega
  have hlc := hb.2.1
  have hcm := hb.2.2.1
  have hln := hb.1
  unfold maxLen at hcm
  have HA := Lib.hid ((Below.refl w.heap.size w).alloc (Nat.le_refl _) (.cells #[.int .u32 0, .int .u32 0, .int .u16 0, .string ⟨#[]⟩, .string ⟨#[]⟩, .slice none 0 0] 29))
  have R0 := Lib.hid (row_alloc w #[.int .u32 0, .int .u32 0, .int .u16 0, .string ⟨#[]⟩, .string ⟨#[]⟩, .slice none 0 0] 29)
  have HB := Lib.hid hb
  have HI := Lib.hid (rid_yes _ _ l c X (rd_keep HA.out hb) hX hl)
  obtain ⟨i, hi⟩ : ∃ i, idV X = i := ⟨_, rfl⟩
  obtain ⟨i1, i2, i3⟩ := i
  rw [hi] at HI
  have HID := Lib.hid hi
  clear hb hX hi
  go_enter Try.func16, Try.ntmps16
  go_wp2_with fail
  go_at_call 43; refine HI.out.mono ?_; rintro e w1 ⟨rfl, hb1⟩
  simp only [idA]
  have HW := Lib.hid (op_at_new (bel_step HA.out hb1) (row_step R0.out hb1) i1 i2 i3)
  clear hb1 HI R0
  by_cases h10 : l = 10
  · have HT := Lib.hid (nameD_short (show (X.drop 10).length < 2 by rw [List.length_drop]; omega))
    have HN := Lib.hid (opD_n1 (M := M) hlX HT.out)
    by_cases hc : c = 10
    · have HRT := Lib.hid (rtext_none (rd_keep HW.out.1 (show RdB w (some ⟨b, off, none⟩) 0 0 (X.drop 10) by have h := HB.out; rw [h10, hc] at h; exact rd_end h)) (by_drop HX.out 10) HT.out)
      go_wp2_with fail
      go_at_call 44; refine HRT.out.mono ?_; rintro e w2 ⟨rfl, rfl⟩
      obtain ⟨W, hW⟩ : ∃ W, ((w1.alloc (.cells #[.int .u32 i1, .int .u32 i2, .int .u16 i3] 26)).alloc (.cells #[.int .u32 i1, .int .u32 i2, .int .u16 i3, .string ⟨#[]⟩, .string ⟨#[]⟩, .slice none 0 0] 29)) = W := ⟨_, rfl⟩
      obtain ⟨o, hoo⟩ : ∃ o, w1.heap.size + 1 = o := ⟨_, rfl⟩
      rw [hW, hoo] at HW
      rw [hW]
      simp only [hoo]
      have hs := row_lt HW.out.2.1
      have hso := HW.out.2.2.2
      have ho := row_lt HW.out.2.2.1
      have k0 := HW.out.2.1
      have k2 := HW.out.2.2.1
      have d0 := row_cell k0 0; have d1 := row_cell k0 1; have d2 := row_cell k0 2; have d3 := row_cell k0 3; have d4 := row_cell k0 4; have d5 := row_cell k0 5
      simp only [Array.setIfInBounds, List.getElem?_toArray, List.getElem?_cons_zero, List.getElem?_cons_succ] at d0 d1 d2 d3 d4 d5
      have f0 := fun o => row_frz k0 o
      have e0 := row_cell k2 0; have e1 := row_cell k2 1; have e2 := row_cell k2 2; have e3 := row_cell k2 3; have e4 := row_cell k2 4; have e5 := row_cell k2 5
      simp only [Array.setIfInBounds, List.getElem?_toArray, List.getElem?_cons_zero, List.getElem?_cons_succ] at e0 e1 e2 e3 e4 e5
      have f2 := fun o => row_frz k2 o
      clear k0 k2
      clear hW hoo HRT
      go_wp2
      refine bodyPost_ret (v := .tuple #[opA (0, 0, 0) ⟨#[]⟩ ⟨#[]⟩ none 0 0, .int .i64 0, .int .i64 20]) (by simp [opA, results, Try.results16, go_sem, World.cell?_setCell_same, World.cell?_setCell_other, World.cell?_alloc_past, World.size_setCell, World.size_alloc, hs, d0, d1, d2, d3, d4, d5]) rfl ?_
      refine ⟨bel_set6 (op_at_S1 HW.out _).1 (Nat.le_refl _) _ _ _ _ _ _, fun _ => rfl, fun i S1 S2 L j h => (by rw [HN.out] at h; cases h)⟩
    · have HRT := Lib.hid (rtext_none (rd_keep HW.out.1 (show RdB w (some ⟨b, off + 10, none⟩) 0 (c - 10) (X.drop 10) by have h := rd_from (k := 10) HB.out (by omega) hc; rw [h10] at h; exact h)) (by_drop HX.out 10) HT.out)
      go_wp2_with fail
      go_at_call 44; refine HRT.out.mono ?_; rintro e w2 ⟨rfl, rfl⟩
      obtain ⟨W, hW⟩ : ∃ W, ((w1.alloc (.cells #[.int .u32 i1, .int .u32 i2, .int .u16 i3] 26)).alloc (.cells #[.int .u32 i1, .int .u32 i2, .int .u16 i3, .string ⟨#[]⟩, .string ⟨#[]⟩, .slice none 0 0] 29)) = W := ⟨_, rfl⟩
      obtain ⟨o, hoo⟩ : ∃ o, w1.heap.size + 1 = o := ⟨_, rfl⟩
      rw [hW, hoo] at HW
      rw [hW]
      simp only [hoo]
      have hs := row_lt HW.out.2.1
      have hso := HW.out.2.2.2
      have ho := row_lt HW.out.2.2.1
      have k0 := HW.out.2.1
      have k2 := HW.out.2.2.1
      have d0 := row_cell k0 0; have d1 := row_cell k0 1; have d2 := row_cell k0 2; have d3 := row_cell k0 3; have d4 := row_cell k0 4; have d5 := row_cell k0 5
      simp only [Array.setIfInBounds, List.getElem?_toArray, List.getElem?_cons_zero, List.getElem?_cons_succ] at d0 d1 d2 d3 d4 d5
      have f0 := fun o => row_frz k0 o
      have e0 := row_cell k2 0; have e1 := row_cell k2 1; have e2 := row_cell k2 2; have e3 := row_cell k2 3; have e4 := row_cell k2 4; have e5 := row_cell k2 5
      simp only [Array.setIfInBounds, List.getElem?_toArray, List.getElem?_cons_zero, List.getElem?_cons_succ] at e0 e1 e2 e3 e4 e5
      have f2 := fun o => row_frz k2 o
      clear k0 k2
      clear hW hoo HRT
      go_wp2
      refine bodyPost_ret (v := .tuple #[opA (0, 0, 0) ⟨#[]⟩ ⟨#[]⟩ none 0 0, .int .i64 0, .int .i64 20]) (by simp [opA, results, Try.results16, go_sem, World.cell?_setCell_same, World.cell?_setCell_other, World.cell?_alloc_past, World.size_setCell, World.size_alloc, hs, d0, d1, d2, d3, d4, d5]) rfl ?_
      refine ⟨bel_set6 (op_at_S1 HW.out _).1 (Nat.le_refl _) _ _ _ _ _ _, fun _ => rfl, fun i S1 S2 L j h => (by rw [HN.out] at h; cases h)⟩
  · have HRD := Lib.hid (rd_from (k := 10) HB.out (by omega) (by omega))
    cases ht1 : nameD (X.drop 10) with
    | none =>
      have HN := Lib.hid (opD_n1 (M := M) hlX ht1)
      have HRT := Lib.hid (rtext_none (rd_keep HW.out.1 HRD.out) (by_drop HX.out 10) ht1)
      clear ht1
      go_wp2_with fail
      go_at_call 44; refine HRT.out.mono ?_; rintro e w2 ⟨rfl, rfl⟩
      obtain ⟨W, hW⟩ : ∃ W, ((w1.alloc (.cells #[.int .u32 i1, .int .u32 i2, .int .u16 i3] 26)).alloc (.cells #[.int .u32 i1, .int .u32 i2, .int .u16 i3, .string ⟨#[]⟩, .string ⟨#[]⟩, .slice none 0 0] 29)) = W := ⟨_, rfl⟩
      obtain ⟨o, hoo⟩ : ∃ o, w1.heap.size + 1 = o := ⟨_, rfl⟩
      rw [hW, hoo] at HW
      rw [hW]
      simp only [hoo]
      have hs := row_lt HW.out.2.1
      have hso := HW.out.2.2.2
      have ho := row_lt HW.out.2.2.1
      have k0 := HW.out.2.1
      have k2 := HW.out.2.2.1
      have d0 := row_cell k0 0; have d1 := row_cell k0 1; have d2 := row_cell k0 2; have d3 := row_cell k0 3; have d4 := row_cell k0 4; have d5 := row_cell k0 5
      simp only [Array.setIfInBounds, List.getElem?_toArray, List.getElem?_cons_zero, List.getElem?_cons_succ] at d0 d1 d2 d3 d4 d5
      have f0 := fun o => row_frz k0 o
      have e0 := row_cell k2 0; have e1 := row_cell k2 1; have e2 := row_cell k2 2; have e3 := row_cell k2 3; have e4 := row_cell k2 4; have e5 := row_cell k2 5
      simp only [Array.setIfInBounds, List.getElem?_toArray, List.getElem?_cons_zero, List.getElem?_cons_succ] at e0 e1 e2 e3 e4 e5
      have f2 := fun o => row_frz k2 o
      clear k0 k2
      clear hW hoo HRT
      go_wp2
      refine bodyPost_ret (v := .tuple #[opA (0, 0, 0) ⟨#[]⟩ ⟨#[]⟩ none 0 0, .int .i64 0, .int .i64 20]) (by simp [opA, results, Try.results16, go_sem, World.cell?_setCell_same, World.cell?_setCell_other, World.cell?_alloc_past, World.size_setCell, World.size_alloc, hs, d0, d1, d2, d3, d4, d5]) rfl ?_
      refine ⟨bel_set6 (op_at_S1 HW.out _).1 (Nat.le_refl _) _ _ _ _ _ _, fun _ => rfl, fun i S1 S2 L j h => (by rw [HN.out] at h; cases h)⟩
    | some q =>
      obtain ⟨S1, n1⟩ := q
      have HT1 := Lib.hid ht1
      have HRT := Lib.hid (rtext_some (rd_keep HW.out.1 HRD.out) (by_drop HX.out 10) ht1)
      have hn1 := (nameD_le ht1).1
      rw [List.length_drop] at hn1
      have hn1p := (nameD_pos ht1).1
      clear ht1
      go_wp2_with fail
      go_at_call 44; refine HRT.out.mono ?_; rintro e w2 ⟨rfl, rfl⟩
      obtain ⟨W, hW⟩ : ∃ W, ((w1.alloc (.cells #[.int .u32 i1, .int .u32 i2, .int .u16 i3] 26)).alloc (.cells #[.int .u32 i1, .int .u32 i2, .int .u16 i3, .string ⟨#[]⟩, .string ⟨#[]⟩, .slice none 0 0] 29)) = W := ⟨_, rfl⟩
      obtain ⟨o, hoo⟩ : ∃ o, w1.heap.size + 1 = o := ⟨_, rfl⟩
      rw [hW, hoo] at HW
      rw [hW]
      simp only [hoo]
      have HW1 := Lib.hid (op_at_S1 HW.out S1)
      have hs := row_lt HW.out.2.1
      have hso := HW.out.2.2.2
      have ho := row_lt HW.out.2.2.1
      have k0 := HW.out.2.1
      have k2 := HW.out.2.2.1
      have d0 := row_cell k0 0; have d1 := row_cell k0 1; have d2 := row_cell k0 2; have d3 := row_cell k0 3; have d4 := row_cell k0 4; have d5 := row_cell k0 5
      simp only [Array.setIfInBounds, List.getElem?_toArray, List.getElem?_cons_zero, List.getElem?_cons_succ] at d0 d1 d2 d3 d4 d5
      have f0 := fun o => row_frz k0 o
      have e0 := row_cell k2 0; have e1 := row_cell k2 1; have e2 := row_cell k2 2; have e3 := row_cell k2 3; have e4 := row_cell k2 4; have e5 := row_cell k2 5
      simp only [Array.setIfInBounds, List.getElem?_toArray, List.getElem?_cons_zero, List.getElem?_cons_succ] at e0 e1 e2 e3 e4 e5
      have f2 := fun o => row_frz k2 o
      clear k0 k2
      clear hW hoo HRT HRD
      have hbo : b ≠ o := by
        obtain ⟨b', off', e, h⟩ := HB.out.2.2.2.1 (by omega)
        cases e
        have := cell_lt (h 0 (by omega))
        have h2 : b < w.heap.size := this
        omega
      by_cases hl2 : l = 10 + n1
      · have HT := Lib.hid (nameD_short (show (X.drop (10 + n1)).length < 2 by rw [List.length_drop]; omega))
        have HN := Lib.hid (opD_n2 (M := M) hlX HT1.out HT.out)
        by_cases hc : c = 10 + n1
        · have HRT := Lib.hid (rtext_none (rd_keep HW1.out.1 (show RdB w (some ⟨b, off, none⟩) 0 0 (X.drop (10 + n1)) by have h := HB.out; rw [hl2, hc] at h; exact rd_end h)) (by_drop HX.out _) HT.out)
          subst hc
          go_wp2_with fail
          go_at_call 44; refine HRT.out.mono ?_; rintro e w3 ⟨rfl, rfl⟩
          go_wp2
          refine bodyPost_ret (v := .tuple #[opA (0, 0, 0) ⟨#[]⟩ ⟨#[]⟩ none 0 0, .int .i64 0, .int .i64 20]) (by simp [opA, results, Try.results16, go_sem, World.cell?_setCell_same, World.cell?_setCell_other, World.cell?_alloc_past, World.size_setCell, World.size_alloc, hs, d0, d1, d2, d3, d4, d5]) rfl ?_
          refine ⟨bel_set6 (op_at_S2 HW1.out _).1 (Nat.le_refl _) _ _ _ _ _ _, fun _ => rfl, fun i S1 S2 L j h => (by rw [HN.out] at h; cases h)⟩
        · have HRT := Lib.hid (rtext_none (rd_keep HW1.out.1 (show RdB w (some ⟨b, off + (10 + n1), none⟩) 0 (c - (10 + n1)) (X.drop (10 + n1)) by have h := rd_from (k := 10 + n1) HB.out (by omega) hc; rw [hl2, Nat.sub_self] at h; exact h)) (by_drop HX.out _) HT.out)
          go_wp2_with fail
          go_at_call 44; refine HRT.out.mono ?_; rintro e w3 ⟨rfl, rfl⟩
          go_wp2
          refine bodyPost_ret (v := .tuple #[opA (0, 0, 0) ⟨#[]⟩ ⟨#[]⟩ none 0 0, .int .i64 0, .int .i64 20]) (by simp [opA, results, Try.results16, go_sem, World.cell?_setCell_same, World.cell?_setCell_other, World.cell?_alloc_past, World.size_setCell, World.size_alloc, hs, d0, d1, d2, d3, d4, d5]) rfl ?_
          refine ⟨bel_set6 (op_at_S2 HW1.out _).1 (Nat.le_refl _) _ _ _ _ _ _, fun _ => rfl, fun i S1 S2 L j h => (by rw [HN.out] at h; cases h)⟩
      · have HRD := Lib.hid (rd_from (k := 10 + n1) HB.out (by omega) (by omega))
        have hc : c ≠ 10 + n1 := by omega
        cases ht2 : nameD (X.drop (10 + n1)) with
        | none =>
          have HN := Lib.hid (opD_n2 (M := M) hlX HT1.out ht2)
          have HRT := Lib.hid (rtext_none (rd_keep HW1.out.1 HRD.out) (by_drop HX.out _) ht2)
          clear ht2
          go_wp2_with fail
          go_at_call 44; refine HRT.out.mono ?_; rintro e w3 ⟨rfl, rfl⟩
          go_wp2
          refine bodyPost_ret (v := .tuple #[opA (0, 0, 0) ⟨#[]⟩ ⟨#[]⟩ none 0 0, .int .i64 0, .int .i64 20]) (by simp [opA, results, Try.results16, go_sem, World.cell?_setCell_same, World.cell?_setCell_other, World.cell?_alloc_past, World.size_setCell, World.size_alloc, hs, d0, d1, d2, d3, d4, d5]) rfl ?_
          refine ⟨bel_set6 (op_at_S2 HW1.out _).1 (Nat.le_refl _) _ _ _ _ _ _, fun _ => rfl, fun i S1 S2 L j h => (by rw [HN.out] at h; cases h)⟩
        | some q =>
          obtain ⟨S2, n2⟩ := q
          have HT2 := Lib.hid ht2
          have HRT := Lib.hid (rtext_some (rd_keep HW1.out.1 HRD.out) (by_drop HX.out _) ht2)
          have hn2 := (nameD_le ht2).1
          rw [List.length_drop] at hn2
          have hn2p := (nameD_pos ht2).1
          have HW2 := Lib.hid (op_at_S2 HW1.out S2)
          clear ht2
          go_wp2_with fail
          go_at_call 44; refine HRT.out.mono ?_; rintro e w3 ⟨rfl, rfl⟩
          by_cases hl3 : l = 10 + n1 + n2
          · have HN := Lib.hid (opD_n3 (M := M) hlX HT1.out HT2.out (by rw [List.drop_of_length_le (by omega)]; rfl))
            go_wp2
            refine bodyPost_ret (v := .tuple #[opA (0, 0, 0) ⟨#[]⟩ ⟨#[]⟩ none 0 0, .int .i64 0, .int .i64 20]) (by simp [opA, results, Try.results16, go_sem, World.cell?_setCell_same, World.cell?_setCell_other, World.cell?_alloc_past, World.size_setCell, World.size_alloc, hs, d0, d1, d2, d3, d4, d5]) rfl ?_
            refine ⟨bel_set6 HW2.out.1 (Nat.le_refl _) _ _ _ _ _ _, fun _ => rfl, fun i S1 S2 L j h => (by rw [HN.out] at h; cases h)⟩
          · obtain ⟨R, hR⟩ : ∃ R, X.drop (10 + n1 + n2 + 1) = R := ⟨_, rfl⟩
            have hlt : 10 + n1 + n2 < X.length := by omega
            obtain ⟨mm, hm⟩ : ∃ mm, X[10 + n1 + n2] = mm := ⟨_, rfl⟩
            have hmr := HX.out mm (by rw [← hm]; exact List.getElem_mem hlt)
            obtain ⟨m, rfl⟩ : ∃ m : Nat, mm = (m : Int) := ⟨mm.toNat, by omega⟩
            have HDR := Lib.hid (show X.drop (10 + n1 + n2) = (m : Int) :: R by rw [← hm, ← hR]; exact List.drop_eq_getElem_cons hlt)
            have cb : W.cell? ⟨b, off + (10 + n1 + n2), none⟩ = some (.int .u8 (m : Int)) := by
              obtain ⟨b', off', e, h⟩ := (rd_keep HW.out.1 HB.out).2.2.2.1 (by omega)
              cases e
              rw [← hm]
              exact h _ hlt
            have hm256 : m < 256 := by omega
            have HRL := Lib.hid (show R.length = l - (10 + n1 + n2 + 1) by rw [← hR, List.length_drop]; omega)
            have HRR := Lib.hid hR
            clear hm hR hmr
            by_cases h16 : 16 < m
            · have HN := Lib.hid (opD_n3 (M := M) hlX HT1.out HT2.out (by rw [HDR.out]; show (if (16 : Int) < (m : Int) then none else _) = none; rw [if_pos (by omega)]))
              go_wp2
              refine bodyPost_ret (v := .tuple #[opA (0, 0, 0) ⟨#[]⟩ ⟨#[]⟩ none 0 0, .int .i64 0, .int .i64 20]) (by simp [opA, results, Try.results16, go_sem, World.cell?_setCell_same, World.cell?_setCell_other, World.cell?_alloc_past, World.size_setCell, World.size_alloc, hs, d0, d1, d2, d3, d4, d5]) rfl ?_
              refine ⟨bel_set6 HW2.out.1 (Nat.le_refl _) _ _ _ _ _ _, fun _ => rfl, fun i S1 S2 L j h => (by rw [HN.out] at h; cases h)⟩
            · go_wp2
              have HBS := Lib.hid HB.out
              obtain ⟨A, hA⟩ : ∃ A, 10 + n1 + n2 + 1 = A := ⟨_, rfl⟩
              have hAl : A ≤ l := by omega
              have hA0 : 0 < A := by omega
              have HRL := Lib.hid (show R.length = l - A by rw [← hA]; exact HRL.out)
              have HRA := Lib.hid (show X.drop A = R by rw [← hA]; exact HRR.out)
              have HAS := Lib.hid (show RdB w (some ⟨b, off, none⟩) l c X from HB.out)
              have HA3 := Lib.hid (show (10 : Int) + n1 + n2 + 1 = (A : Int) by omega)
              have HNO := Lib.hid (fun (h : decL (refRd (M + 1)) m R = none) => opD_n3 (M := M) hlX HT1.out HT2.out (by rw [HDR.out]; show (if (16 : Int) < (m : Int) then none else _) = none; rw [if_neg (by omega), Int.toNat_natCast, h]))
              have HYES := Lib.hid (fun (L : List (VT (M + 1))) (jj : Nat) (h : decL (refRd (M + 1)) m R = some (L, jj)) => (opD_yes (M := M) hlX HT1.out HT2.out (show argsD M (X.drop (10 + n1 + n2)) = some (L, 1 + jj) by rw [HDR.out]; show (if (16 : Int) < (m : Int) then none else _) = _; rw [if_neg (by omega), Int.toNat_natCast, h])))
              have hRA : (X.drop A).length = l - A := by rw [List.length_drop]; omega
              have hWB : o < W.heap.size := ho
              clear hA cb hn1 hn2 hn1p hn2p hl3 hm256 hl2 hbo HRT HRD h10 hc
              go_loopw [8, 12] (fun av iv wr => ∃ (k : Nat) (q : Option Addr) (d j : Nat) (L : List (VT (M + 1))), k ≤ m ∧ iv = .int .i64 (k : Int) ∧ av = .int .i64 ((A : Int) + (j : Int)) ∧ OpAt w wr o i1 i2 i3 S1 S2 q k d ∧ OwA W.heap.size wr (M + 1) q k d L ∧ decL (refRd (M + 1)) k R = some (L, j) ∧ j ≤ l - A) (fun _ iv _ => m - (intOf iv).toNat)
              case atStart => exact ⟨0, none, 0, 0, [], Nat.zero_le _, rfl, (by have hh := HA3.out; go_num), HW2.out, oa_set (oa_set (oa_nil (M + 1) (Nat.le_refl _)) hWB _) hWB _, rfl, Nat.zero_le _⟩
              case round =>
                obtain ⟨k, q, d, j, L, hk, rfl, rfl, hat, hol, hdec, hj⟩ := hrel
                have HAT := Lib.hid hat
                have HOL := Lib.hid hol
                have HDC := Lib.hid hdec
                clear hat hol hdec
                clear hs hso ho d0 d1 d2 d3 d4 d5 e0 e1 e2 e3 e4 e5 f0 f2
                by_cases hkm : k < m
                · have HNN := Lib.hid (fun (h : refRd (M + 1) (R.drop j) = none) => HNO.out (decL_none m (k + 1) (by rw [decL, HDC.out]; simp only [h]) (by omega)))
                  have HDJ := Lib.hid (show X.drop (A + j) = R.drop j by rw [← HRA.out, List.drop_drop])
                  have HBY := Lib.hid (show By (R.drop j) by rw [← HDJ.out]; exact by_drop HX.out _)
                  by_cases hc : c = A + j
                  · have hlj : l = A + j := by omega
                    have HRN := Lib.hid (show refRd (M + 1) (R.drop j) = none by rw [List.drop_of_length_le (by have := HRL.out; omega)]; exact refRd_nil)
                    have HRT := Lib.hid (rread_s (M + 1) wr _ _ _ (R.drop j) (show RdB wr (some ⟨b, off, none⟩) 0 0 (R.drop j) by
                      rw [← HDJ.out]
                      have h := rd_keep HAT.out.1 HAS.out
                      rw [hc, hlj] at h
                      exact rd_end h) HBY.out (by omega) (by omega))
                    clear hlj
                    subst hc
                    · skip
                      go_wp2_with fail
                      go_at_call 45; refine HRT.out.mono ?_; rintro e w2 ⟨hb2, hno, _⟩
                      obtain rfl := hno HRN.out
                      have HA2 := Lib.hid (op_at_bel HAT.out hb2)
                      have HN := Lib.hid (HNN.out HRN.out)
                      clear hb2 hno
                      have hs := row_lt HA2.out.2.1
                      have hso := HA2.out.2.2.2
                      have ho := row_lt HA2.out.2.2.1
                      have k0 := HA2.out.2.1
                      have k2 := HA2.out.2.2.1
                      have d0 := row_cell k0 0; have d1 := row_cell k0 1; have d2 := row_cell k0 2; have d3 := row_cell k0 3; have d4 := row_cell k0 4; have d5 := row_cell k0 5
                      simp only [Array.setIfInBounds, List.getElem?_toArray, List.getElem?_cons_zero, List.getElem?_cons_succ] at d0 d1 d2 d3 d4 d5
                      have f0 := fun o => row_frz k0 o
                      have e0 := row_cell k2 0; have e1 := row_cell k2 1; have e2 := row_cell k2 2; have e3 := row_cell k2 3; have e4 := row_cell k2 4; have e5 := row_cell k2 5
                      simp only [Array.setIfInBounds, List.getElem?_toArray, List.getElem?_cons_zero, List.getElem?_cons_succ] at e0 e1 e2 e3 e4 e5
                      have f2 := fun o => row_frz k2 o
                      clear k0 k2
                      go_wp2
                      refine bodyPost_ret (v := .tuple #[opA (0, 0, 0) ⟨#[]⟩ ⟨#[]⟩ none 0 0, .int .i64 0, .int .i64 20]) (by simp [opA, results, Try.results16, go_sem, World.cell?_setCell_same, World.cell?_setCell_other, World.cell?_alloc_past, World.size_setCell, World.size_alloc, hs, d0, d1, d2, d3, d4, d5]) rfl ?_
                      refine ⟨bel_alloc (bel_set6 HA2.out.1 (Nat.le_refl _) _ _ _ _ _ _) _, fun _ => rfl, fun i S1 S2 L j h => (by rw [HN.out] at h; cases h)⟩
                  · have HRT := Lib.hid (rread_s (M + 1) wr _ _ _ (R.drop j) (show RdB wr (some ⟨b, off + (A + j), none⟩) (l - (A + j)) (c - (A + j)) (R.drop j) by
                      rw [← HDJ.out]; exact rd_from (rd_keep HAT.out.1 HAS.out) (by omega) hc) HBY.out (by omega) (by omega))
                    cases hd : refRd (M + 1) (R.drop j) with
                    | none =>
                      have HRN := Lib.hid hd
                      clear hd
                      go_wp2_with fail
                      go_at_call 45; refine HRT.out.mono ?_; rintro e w2 ⟨hb2, hno, _⟩
                      obtain rfl := hno HRN.out
                      have HA2 := Lib.hid (op_at_bel HAT.out hb2)
                      have HN := Lib.hid (HNN.out HRN.out)
                      clear hb2 hno
                      have hs := row_lt HA2.out.2.1
                      have hso := HA2.out.2.2.2
                      have ho := row_lt HA2.out.2.2.1
                      have k0 := HA2.out.2.1
                      have k2 := HA2.out.2.2.1
                      have d0 := row_cell k0 0; have d1 := row_cell k0 1; have d2 := row_cell k0 2; have d3 := row_cell k0 3; have d4 := row_cell k0 4; have d5 := row_cell k0 5
                      simp only [Array.setIfInBounds, List.getElem?_toArray, List.getElem?_cons_zero, List.getElem?_cons_succ] at d0 d1 d2 d3 d4 d5
                      have f0 := fun o => row_frz k0 o
                      have e0 := row_cell k2 0; have e1 := row_cell k2 1; have e2 := row_cell k2 2; have e3 := row_cell k2 3; have e4 := row_cell k2 4; have e5 := row_cell k2 5
                      simp only [Array.setIfInBounds, List.getElem?_toArray, List.getElem?_cons_zero, List.getElem?_cons_succ] at e0 e1 e2 e3 e4 e5
                      have f2 := fun o => row_frz k2 o
                      clear k0 k2
                      go_wp2
                      refine bodyPost_ret (v := .tuple #[opA (0, 0, 0) ⟨#[]⟩ ⟨#[]⟩ none 0 0, .int .i64 0, .int .i64 20]) (by simp [opA, results, Try.results16, go_sem, World.cell?_setCell_same, World.cell?_setCell_other, World.cell?_alloc_past, World.size_setCell, World.size_alloc, hs, d0, d1, d2, d3, d4, d5]) rfl ?_
                      refine ⟨bel_alloc (bel_set6 HA2.out.1 (Nat.le_refl _) _ _ _ _ _ _) _, fun _ => rfl, fun i S1 S2 L j h => (by rw [HN.out] at h; cases h)⟩
                    | some TJ =>
                      obtain ⟨T, j1⟩ := TJ
                      have HRN := Lib.hid hd
                      have hj1 := (refRd_le hd).2
                      rw [List.length_drop] at hj1
                      have hj2 : j + j1 ≤ l - A := by have := HRL.out; omega
                      have HDC2 := Lib.hid (show decL (refRd (M + 1)) (k + 1) R = some (L ++ [T], j + j1) by rw [decL, HDC.out]; simp only [hd])
                      clear hd hj1
                      go_wp2_with fail
                      go_at_call 45; refine HRT.out.mono ?_; rintro e w2 ⟨hb2, _, hyes⟩
                      obtain ⟨v, rfl, hrep⟩ := hyes T j1 HRN.out
                      obtain ⟨K, I, F, S, q', l', c', rfl, _⟩ := repS_shape hrep
                      have HA2 := Lib.hid (op_at_bel HAT.out hb2)
                      have HA3 := Lib.hid (op_at_bel HA2.out ((Below.refl w2.heap.size w2).alloc (Nat.le_refl _) (.cells #[.int .i64 K, .int .i64 I, .float .f64 F, .string S, .slice q' l' c'] 47)))
                      have HG3 := Lib.hid (gb_alloc (bel_gbR hb2 (some o)) (.cells #[.int .i64 K, .int .i64 I, .float .f64 F, .string S, .slice q' l' c'] 47))
                      have HO3 := Lib.hid (oa_step HOL.out HG3.out hWB)
                      have HF3 := Lib.hid (rep_freshA HOL.out HG3.out (repS_mono (fun x hx => hx.1) _ _ _ (repS_keep (fun x hx => Below.heap_alloc w2 (.cells #[.int .i64 K, .int .i64 I, .float .f64 F, .string S, .slice q' l' c'] 47) x hx.2) _ _ _ (repS_lt _ _ _ hrep))))
                      have HS3 := Lib.hid (show W.heap.size ≤ (w2.alloc (.cells #[.int .i64 K, .int .i64 I, .float .f64 F, .string S, .slice q' l' c'] 47)).heap.size from Nat.le_trans HOL.out.1 HG3.out.size)
                      have g5 := row_cell HA2.out.2.2.1 5
                      have hol2 := row_lt HA2.out.2.2.1
                      simp only [List.getElem?_toArray, List.getElem?_cons_zero, List.getElem?_cons_succ] at g5
                      have hk6 : k ≤ 1000 := by omega
                      clear hb2 hyes hrep
                      go_wp2_with (at_builtin; refine wp_ov1 rfl (.tmp 96) (.tmp 98) rfl wr.heap.size (baseW (w2.alloc (.cells #[.int .i64 K, .int .i64 I, .float .f64 F, .string S, .slice q' l' c'] 47)) W.heap.size) _ (M + 1) q k d L _ _ _ _ _ T rfl (congrArg (fun z => Value.slice (some ⟨z, 0, none⟩) 1 1) (World.size_alloc w2 (.cells #[.int .i64 K, .int .i64 I, .float .f64 F, .string S, .slice q' l' c'] 47)).symm) HO3.out (by omega) HF3.out ?_; intro p2 c2 w4 ho4; obtain ⟨ho5, hu5⟩ := oa_of HS3.out ho4; have HO5 := Lib.hid ho5; have HA5 := Lib.hid (op_at_upto HA3.out hWB hu5); have h5 := row_cell HA5.out.2.2.1 5; simp only [List.getElem?_toArray, List.getElem?_cons_zero, List.getElem?_cons_succ] at h5; have f5 := (fun x => row_frz HA5.out.2.2.1 x); clear ho4 ho5 hu5)
                      go_roundw
                      case rel => exact ⟨k + 1, p2, c2, j + j1, L ++ [T], by omega, by go_num, by go_num, op_at_L HA5.out p2 (k + 1) c2, oa_set HO5.out hWB _, HDC2.out, hj2⟩
                      case measure => simp [intOf]; omega
                · obtain rfl : k = m := by omega
                  have HFIN := Lib.hid (HYES.out L j HDC.out)
                  have HREP := Lib.hid (ol_rep HOL.out.2)
                  have HSZ := Lib.hid (base_size HOL.out.1)
                  have hs := row_lt HAT.out.2.1
                  have hso := HAT.out.2.2.2
                  have ho := row_lt HAT.out.2.2.1
                  have k0 := HAT.out.2.1
                  have k2 := HAT.out.2.2.1
                  have d0 := row_cell k0 0; have d1 := row_cell k0 1; have d2 := row_cell k0 2; have d3 := row_cell k0 3; have d4 := row_cell k0 4; have d5 := row_cell k0 5
                  simp only [Array.setIfInBounds, List.getElem?_toArray, List.getElem?_cons_zero, List.getElem?_cons_succ] at d0 d1 d2 d3 d4 d5
                  have f0 := fun o => row_frz k0 o
                  have e0 := row_cell k2 0; have e1 := row_cell k2 1; have e2 := row_cell k2 2; have e3 := row_cell k2 3; have e4 := row_cell k2 4; have e5 := row_cell k2 5
                  simp only [Array.setIfInBounds, List.getElem?_toArray, List.getElem?_cons_zero, List.getElem?_cons_succ] at e0 e1 e2 e3 e4 e5
                  have f2 := fun o => row_frz k2 o
                  clear k0 k2
                  go_wp2
                  refine bodyPost_ret (v := .tuple #[opA (i1, i2, i3) S1 S2 q k d, .int .i64 ((A : Int) + (j : Int)), .int .i64 0]) (by simp [opA, results, Try.results16, go_sem, World.cell?_setCell_same, World.cell?_setCell_other, d0, d1, d2, d3, d4, d5]) rfl ?_
                  refine ⟨bel_set6 HAT.out.1 (Nat.le_refl _) _ _ _ _ _ _, fun h => (by rw [HFIN.out] at h; cases h), fun i' S1' S2' L' j' h => ?_⟩
                  rw [HFIN.out, HID.out] at h
                  cases h
                  have hh := HA3.out
                  refine ⟨q, k, d, (by rw [show ((10 + n1 + n2 + (1 + j) : Nat) : Int) = (A : Int) + (j : Int) by have hh := HA3.out; omega]), ?_⟩
                  have hsB : w.heap.size < W.heap.size := Nat.lt_trans HAT.out.2.2.2 hWB
                  exact repLS_rep (repLS_keep (fun x hx => by
                    have hx' : (baseW wr W.heap.size).heap.size ≤ x := hx
                    rw [HSZ.out] at hx'
                    exact set6_heap (show x ≠ w.heap.size by omega) _ _ _ _ _ _) HREP.out)
end Num
end Go.Proofs.Ytomfgncbdgifoaa
/-
  The reference's ReadReply.
-/
namespace Go.Proofs.Ytomfgncbdgifoaa
open Go.RowKit
namespace Num
open Ints
set_option linter.unusedSimpArgs false
set_option linter.unusedVariables false
theorem repD_short {M : Nat} {X : List Int} (h : X.length < 12) : repD M X = none := by unfold repD; rw [if_pos h]
theorem repD_n {M : Nat} {X : List Int} (h : 12 ≤ X.length) (h1 : refRd (M + 1) (X.drop 12) = none) : repD M X = none := by unfold repD; rw [if_neg (by omega), h1]
theorem repD_y {M : Nat} {X : List Int} {T : VT (M + 1)} {j : Nat} (h : 12 ≤ X.length) (h1 : refRd (M + 1) (X.drop 12) = some (T, j)) : repD M X = some (idV X, rdU ((X.drop 10).take 2), T, 12 + j) := by unfold repD; rw [if_neg (by omega), h1]
theorem refRd_nilK {N : Nat} : refRd N [] = none := by
  cases h : refRd N [] with
  | none => rfl
  | some q => obtain ⟨T, j⟩ := q; have := refRd_le h; simp at this; omega
set_option maxRecDepth 100000 in
set_option maxHeartbeats 2000000 in
theorem rrep_short (M : Nat) (hM : M < 100000) (w : World) (p : Option Addr) (l c : Nat) (X : List Int) (hb : RdB w p l c X) (hX : By X) (hlM : l ≤ M) (hl : l < 10) : Calls Try.prog 18 #[.slice p l c] w (ReplyPost M (repD M X) w) := by
  have hln := hb.1
  have HA := Lib.hid ((Below.refl w.heap.size w).alloc (Nat.le_refl _) (.cells #[.int .u32 0, .int .u32 0, .int .u16 0, .int .i64 0, .int .i64 0, .int .i64 0, .float .f64 0, .string ⟨#[]⟩, .slice none 0 0] 49))
  have R0 := Lib.hid (row_alloc w #[.int .u32 0, .int .u32 0, .int .u16 0, .int .i64 0, .int .i64 0, .int .i64 0, .float .f64 0, .string ⟨#[]⟩, .slice none 0 0] 49)
  have HN := Lib.hid (repD_short (M := M) (X := X) (by omega))
  clear hb hX
  go_enter Try.func18, Try.ntmps18
  go_wp2_with fail
  go_at_call 43; refine (rid_short _ p l c hl).mono ?_; rintro e w1 ⟨rfl, hb1⟩
  simp only [idA]
  have HB1 := Lib.hid (bel_step HA.out hb1)
  have k0 := row_step R0.out hb1
  have K0 := Lib.hid k0
  have hs := row_lt k0
  have d0 := row_cell k0 0; have d1 := row_cell k0 1; have d2 := row_cell k0 2; have d3 := row_cell k0 3; have d4 := row_cell k0 4; have d5 := row_cell k0 5; have d6 := row_cell k0 6; have d7 := row_cell k0 7; have d8 := row_cell k0 8
  simp only [Array.setIfInBounds, List.getElem?_toArray, List.getElem?_cons_zero, List.getElem?_cons_succ] at d0 d1 d2 d3 d4 d5 d6 d7 d8
  have f0 := fun o => row_frz k0 o
  clear hb1 k0
  go_wp2
  refine bodyPost_ret (v := .tuple #[repA (0, 0, 0) 0 0 0 0 ⟨#[]⟩ none 0 0, .int .i64 0, .int .i64 20]) (by simp [repA, results, Try.results18, go_sem, World.cell?_setCell_same, World.cell?_setCell_other, World.cell?_alloc_past, World.size_setCell, World.size_alloc, hs, d0, d1, d2, d3, d4, d5, d6, d7, d8]) rfl ?_
  exact ⟨bel_alloc (bel_gb HB1.out (grown_set9 _ w.heap.size _ _ _ _ _ _ _ _ _) (Nat.le_refl _)) _, fun _ => rfl, fun i r T j h => (by rw [HN.out] at h; cases h)⟩
set_option maxRecDepth 100000 in
set_option maxHeartbeats 2000000 in
theorem rrep_mid (M : Nat) (hM : M < 100000) (w : World) (p : Option Addr) (l c : Nat) (X : List Int) (hb : RdB w p l c X) (hX : By X) (hlM : l ≤ M) (hl : 10 ≤ l) (hl2 : l < 12) : Calls Try.prog 18 #[.slice p l c] w (ReplyPost M (repD M X) w) := by
  have hln := hb.1
  have HA := Lib.hid ((Below.refl w.heap.size w).alloc (Nat.le_refl _) (.cells #[.int .u32 0, .int .u32 0, .int .u16 0, .int .i64 0, .int .i64 0, .int .i64 0, .float .f64 0, .string ⟨#[]⟩, .slice none 0 0] 49))
  have R0 := Lib.hid (row_alloc w #[.int .u32 0, .int .u32 0, .int .u16 0, .int .i64 0, .int .i64 0, .int .i64 0, .float .f64 0, .string ⟨#[]⟩, .slice none 0 0] 49)
  have HN := Lib.hid (repD_short (M := M) (X := X) (by omega))
  have HI := Lib.hid (rid_yes _ _ l c X (rd_keep HA.out hb) hX hl)
  obtain ⟨i, hi⟩ : ∃ i, idV X = i := ⟨_, rfl⟩
  obtain ⟨i1, i2, i3⟩ := i
  rw [hi] at HI
  clear hb hX hi
  go_enter Try.func18, Try.ntmps18
  go_wp2_with fail
  go_at_call 43; refine (HI.out).mono ?_; rintro e w1 ⟨rfl, hb1⟩
  simp only [idA]
  have HB1 := Lib.hid (bel_step HA.out hb1)
  have k0 := row_step R0.out hb1
  have K0 := Lib.hid k0
  have hs := row_lt k0
  have d0 := row_cell k0 0; have d1 := row_cell k0 1; have d2 := row_cell k0 2; have d3 := row_cell k0 3; have d4 := row_cell k0 4; have d5 := row_cell k0 5; have d6 := row_cell k0 6; have d7 := row_cell k0 7; have d8 := row_cell k0 8
  simp only [Array.setIfInBounds, List.getElem?_toArray, List.getElem?_cons_zero, List.getElem?_cons_succ] at d0 d1 d2 d3 d4 d5 d6 d7 d8
  have f0 := fun o => row_frz k0 o
  clear hb1 k0
  go_wp2
  refine bodyPost_ret (v := .tuple #[repA (0, 0, 0) 0 0 0 0 ⟨#[]⟩ none 0 0, .int .i64 0, .int .i64 20]) (by simp [repA, results, Try.results18, go_sem, World.cell?_setCell_same, World.cell?_setCell_other, World.cell?_alloc_past, World.size_setCell, World.size_alloc, hs, d0, d1, d2, d3, d4, d5, d6, d7, d8]) rfl ?_
  exact ⟨bel_alloc (bel_gb HB1.out (grown_set9 _ w.heap.size _ _ _ _ _ _ _ _ _) (Nat.le_refl _)) _, fun _ => rfl, fun i r T j h => (by rw [HN.out] at h; cases h)⟩
theorem rrep_keep {w w2 : World} {Q : Nat → Prop} {n : Nat} {x : Value} {T : VT n} (hq : ∀ b, Q b → w.heap.size < b) (o : Obj) (v0 v1 v2 v3 v4 v5 v6 v7 v8 : Value) (h : RepS (fun b => Q b ∧ b < w2.heap.size) w2 n x T) :
    Rep ((((((((((w2.setCell ⟨w.heap.size, 0, none⟩ v0).setCell ⟨w.heap.size, 1, none⟩ v1).setCell ⟨w.heap.size, 2, none⟩ v2).setCell ⟨w.heap.size, 3, none⟩ v3).setCell ⟨w.heap.size, 4, none⟩ v4).setCell ⟨w.heap.size, 5, none⟩ v5).setCell ⟨w.heap.size, 6, none⟩ v6).setCell ⟨w.heap.size, 7, none⟩ v7).setCell ⟨w.heap.size, 8, none⟩ v8).alloc o) n x T := by
  have g2 := grown_set9 w2 w.heap.size v0 v1 v2 v3 v4 v5 v6 v7 v8
  obtain ⟨W2, hW2⟩ : ∃ W, (((((((((w2.setCell ⟨w.heap.size, 0, none⟩ v0).setCell ⟨w.heap.size, 1, none⟩ v1).setCell ⟨w.heap.size, 2, none⟩ v2).setCell ⟨w.heap.size, 3, none⟩ v3).setCell ⟨w.heap.size, 4, none⟩ v4).setCell ⟨w.heap.size, 5, none⟩ v5).setCell ⟨w.heap.size, 6, none⟩ v6).setCell ⟨w.heap.size, 7, none⟩ v7).setCell ⟨w.heap.size, 8, none⟩ v8) = W := ⟨_, rfl⟩
  rw [hW2] at g2 ⊢
  refine repS_rep _ _ _ (repS_keep (fun b hb => ?_) _ _ _ h)
  have h1 := hq b hb.1
  exact (Below.heap_alloc _ _ _ (Nat.lt_of_lt_of_le hb.2 g2.size)).trans (g2.block b hb.2 (fun e => by injection e with e; omega))
set_option maxRecDepth 100000 in
set_option maxHeartbeats 2000000 in
theorem rrep_long (M : Nat) (hM : M < 100000) (w : World) (p : Option Addr) (l c : Nat) (X : List Int) (hb : RdB w p l c X) (hX : By X) (hlM : l ≤ M) (hl : 12 ≤ l) : Calls Try.prog 18 #[.slice p l c] w (ReplyPost M (repD M X) w) := by
  have hln := hb.1
  have HA := Lib.hid ((Below.refl w.heap.size w).alloc (Nat.le_refl _) (.cells #[.int .u32 0, .int .u32 0, .int .u16 0, .int .i64 0, .int .i64 0, .int .i64 0, .float .f64 0, .string ⟨#[]⟩, .slice none 0 0] 49))
  have R0 := Lib.hid (row_alloc w #[.int .u32 0, .int .u32 0, .int .u16 0, .int .i64 0, .int .i64 0, .int .i64 0, .float .f64 0, .string ⟨#[]⟩, .slice none 0 0] 49)
  have HI := Lib.hid (rid_yes _ _ l c X (rd_keep HA.out hb) hX (by omega))
  obtain ⟨i, hi⟩ : ∃ i, idV X = i := ⟨_, rfl⟩
  obtain ⟨i1, i2, i3⟩ := i
  rw [hi] at HI
  have HI2 := Lib.hid hi
  obtain ⟨b, off, rfl⟩ := rd_full hb (by omega)
  have hlc := hb.2.1
  have hcm := hb.2.2.1
  have hX12 : 12 ≤ X.length := by omega
  unfold maxLen at hcm
  obtain ⟨r, hr, hr16⟩ := numV_two (by_drop hX 10)
  rw [numV_ge (by rw [List.length_drop]; omega)] at hr
  have HR := Lib.hid hr
  have HB := Lib.hid hb
  have HBX := Lib.hid hX
  clear hb hX hi hr
  go_enter Try.func18, Try.ntmps18
  go_wp2_with fail
  go_at_call 43; refine (HI.out).mono ?_; rintro e w1 ⟨rfl, hb1⟩
  simp only [idA]
  have HB1 := Lib.hid (bel_step HA.out hb1)
  have k0 := row_step R0.out hb1
  have K0 := Lib.hid k0
  have hs := row_lt k0
  have d0 := row_cell k0 0; have d1 := row_cell k0 1; have d2 := row_cell k0 2; have d3 := row_cell k0 3; have d4 := row_cell k0 4; have d5 := row_cell k0 5; have d6 := row_cell k0 6; have d7 := row_cell k0 7; have d8 := row_cell k0 8
  simp only [Array.setIfInBounds, List.getElem?_toArray, List.getElem?_cons_zero, List.getElem?_cons_succ] at d0 d1 d2 d3 d4 d5 d6 d7 d8
  have f0 := fun o => row_frz k0 o
  have HRW := Lib.hid (rd_keep (bel_alloc HB1.out (.cells #[.int .u32 i1, .int .u32 i2, .int .u16 i3] 26)) HB.out)
  have HU := Lib.hid (rreadU_yes _ _ _ _ _ 2 (rd_from (k := 10) HRW.out (by omega) (by omega)) (by_drop HBX.out 10) (by omega) (by omega))
  clear hb1 k0 HI
  by_cases hc : c = 12
  · have hl12 : l = 12 := by omega
    have HRT := Lib.hid (rread_s (M + 1) _ _ _ _ (X.drop 12) (show RdB _ (some ⟨b, off, none⟩) 0 0 (X.drop 12) by have h := HRW.out; rw [hl12, hc] at h; exact rd_end h) (by_drop HBX.out 12) (by omega) (by omega))
    have HRN := Lib.hid (show refRd (M + 1) (X.drop 12) = none by rw [List.drop_of_length_le (by omega)]; exact refRd_nilK)
    subst hc
    subst hl12
    go_wp2_with fail
    go_at_call 48; refine HU.out.mono ?_; rintro e wu ⟨rfl, rfl⟩
    rw [HR.out]
    go_wp2_with fail
    go_at_call 45; refine HRT.out.mono ?_; rintro e w2 ⟨hb2, hno, hyes⟩
    obtain rfl := hno HRN.out
    have HN := Lib.hid (repD_n (M := M) hX12 HRN.out)
    have HB2 := Lib.hid (bel_step (bel_alloc HB1.out _) hb2)
    have k2 := row_step (row_alloc_step K0.out (.cells #[.int .u32 i1, .int .u32 i2, .int .u16 i3] 26)) hb2
    clear hs d0 d1 d2 d3 d4 d5 d6 d7 d8 f0
    have hs := row_lt k2
    have d0 := row_cell k2 0; have d1 := row_cell k2 1; have d2 := row_cell k2 2; have d3 := row_cell k2 3; have d4 := row_cell k2 4; have d5 := row_cell k2 5; have d6 := row_cell k2 6; have d7 := row_cell k2 7; have d8 := row_cell k2 8
    simp only [Array.setIfInBounds, List.getElem?_toArray, List.getElem?_cons_zero, List.getElem?_cons_succ] at d0 d1 d2 d3 d4 d5 d6 d7 d8
    have f0 := fun o => row_frz k2 o
    clear hb2 hno hyes k2
    go_wp2
    refine bodyPost_ret (v := .tuple #[repA (0, 0, 0) 0 0 0 0 ⟨#[]⟩ none 0 0, .int .i64 0, .int .i64 20]) (by simp [repA, results, Try.results18, go_sem, World.cell?_setCell_same, World.cell?_setCell_other, World.cell?_alloc_past, World.size_setCell, World.size_alloc, hs, d0, d1, d2, d3, d4, d5, d6, d7, d8]) rfl ?_
    exact ⟨bel_alloc (bel_gb HB2.out (grown_set9 _ w.heap.size _ _ _ _ _ _ _ _ _) (Nat.le_refl _)) _, fun _ => rfl, fun i r T j h => (by rw [HN.out] at h; cases h)⟩
  · have HRT := Lib.hid (rread_s (M + 1) _ _ _ _ (X.drop 12) (rd_from (k := 12) HRW.out (by omega) hc) (by_drop HBX.out 12) (by omega) (by omega))
    cases hd : refRd (M + 1) (X.drop 12) with
    | none =>
      have HRN := Lib.hid hd
      clear hd
      go_wp2_with fail
      go_at_call 48; refine HU.out.mono ?_; rintro e wu ⟨rfl, rfl⟩
      rw [HR.out]
      go_wp2_with fail
      go_at_call 45; refine HRT.out.mono ?_; rintro e w2 ⟨hb2, hno, hyes⟩
      obtain rfl := hno HRN.out
      have HN := Lib.hid (repD_n (M := M) hX12 HRN.out)
      have HB2 := Lib.hid (bel_step (bel_alloc HB1.out _) hb2)
      have k2 := row_step (row_alloc_step K0.out (.cells #[.int .u32 i1, .int .u32 i2, .int .u16 i3] 26)) hb2
      clear hs d0 d1 d2 d3 d4 d5 d6 d7 d8 f0
      have hs := row_lt k2
      have d0 := row_cell k2 0; have d1 := row_cell k2 1; have d2 := row_cell k2 2; have d3 := row_cell k2 3; have d4 := row_cell k2 4; have d5 := row_cell k2 5; have d6 := row_cell k2 6; have d7 := row_cell k2 7; have d8 := row_cell k2 8
      simp only [Array.setIfInBounds, List.getElem?_toArray, List.getElem?_cons_zero, List.getElem?_cons_succ] at d0 d1 d2 d3 d4 d5 d6 d7 d8
      have f0 := fun o => row_frz k2 o
      clear hb2 hno hyes k2
      go_wp2
      refine bodyPost_ret (v := .tuple #[repA (0, 0, 0) 0 0 0 0 ⟨#[]⟩ none 0 0, .int .i64 0, .int .i64 20]) (by simp [repA, results, Try.results18, go_sem, World.cell?_setCell_same, World.cell?_setCell_other, World.cell?_alloc_past, World.size_setCell, World.size_alloc, hs, d0, d1, d2, d3, d4, d5, d6, d7, d8]) rfl ?_
      exact ⟨bel_alloc (bel_gb HB2.out (grown_set9 _ w.heap.size _ _ _ _ _ _ _ _ _) (Nat.le_refl _)) _, fun _ => rfl, fun i r T j h => (by rw [HN.out] at h; cases h)⟩
    | some q =>
      obtain ⟨T, j⟩ := q
      have HRN := Lib.hid hd
      have hj := (refRd_le hd).2
      rw [List.length_drop] at hj
      clear hd
      go_wp2_with fail
      go_at_call 48; refine HU.out.mono ?_; rintro e wu ⟨rfl, rfl⟩
      rw [HR.out]
      go_wp2_with fail
      go_at_call 45; refine HRT.out.mono ?_; rintro e w2 ⟨hb2, hno, hyes⟩
      obtain ⟨v, rfl, hrep⟩ := hyes T j HRN.out
      obtain ⟨K, I, F, S, q, a, d, rfl, _⟩ := repS_shape hrep
      have HFIN := Lib.hid (repD_y (M := M) hX12 HRN.out)
      have HB2 := Lib.hid (bel_step (bel_alloc HB1.out _) hb2)
      have k2 := row_step (row_alloc_step K0.out (.cells #[.int .u32 i1, .int .u32 i2, .int .u16 i3] 26)) hb2
      have ki := row_step (row_alloc w1 #[.int .u32 i1, .int .u32 i2, .int .u16 i3] 26) hb2
      clear hs d0 d1 d2 d3 d4 d5 d6 d7 d8 f0
      have hs := row_lt k2
      have hs1 := row_lt ki
      have HREP := Lib.hid (repS_lt _ _ _ hrep)
      have hsw : w.heap.size < w1.heap.size := row_lt K0.out
      have d0 := row_cell k2 0; have d1 := row_cell k2 1; have d2 := row_cell k2 2; have d3 := row_cell k2 3; have d4 := row_cell k2 4; have d5 := row_cell k2 5; have d6 := row_cell k2 6; have d7 := row_cell k2 7; have d8 := row_cell k2 8
      simp only [Array.setIfInBounds, List.getElem?_toArray, List.getElem?_cons_zero, List.getElem?_cons_succ] at d0 d1 d2 d3 d4 d5 d6 d7 d8
      have f0 := fun o => row_frz k2 o
      have e0 := row_cell ki 0; have e1 := row_cell ki 1; have e2 := row_cell ki 2
      simp only [Array.setIfInBounds, List.getElem?_toArray, List.getElem?_cons_zero, List.getElem?_cons_succ] at e0 e1 e2
      clear hb2 hno hyes k2 ki hrep
      go_wp2
      refine bodyPost_ret (v := .tuple #[repA (i1, i2, i3) (r : Int) K I F S q a d, .int .i64 (12 + (j : Int)), .int .i64 0]) (by simp [repA, results, Try.results18, go_sem, World.cell?_setCell_same, World.cell?_setCell_other, World.cell?_alloc_past, World.size_setCell, World.size_alloc, hs, d0, d1, d2, d3, d4, d5, d6, d7, d8]) rfl ?_
      refine ⟨bel_alloc (bel_gb HB2.out (grown_set9 _ w.heap.size _ _ _ _ _ _ _ _ _) (Nat.le_refl _)) _, fun h => (by rw [HFIN.out] at h; cases h), fun i r' T' j' h => ?_⟩
      rw [HFIN.out, HI2.out, HR.out] at h
      cases h
      refine ⟨K, I, F, S, q, a, d, (by rw [show ((12 + j : Nat) : Int) = 12 + (j : Int) by omega]), ?_⟩
      exact rrep_keep (w := w) (fun x hx => by rw [World.size_alloc] at hx; omega) _ _ _ _ _ _ _ _ _ _ HREP.out
end Num
end Go.Proofs.Ytomfgncbdgifoaa
