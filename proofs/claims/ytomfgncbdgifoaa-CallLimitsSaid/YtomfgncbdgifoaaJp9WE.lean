/-
  Values out of bytes: plain functions; a float's bits, read.
-/
import Derived.Test.YtomfgncbdgifoaaJp3VTree
import Derived.Test.YtomfgncbdgifoaaJp8UA
import Derived.Test.YtomfgncbdgifoaaJp2VBase
namespace Go.Proofs.Ytomfgncbdgifoaa
open Go.RowKit
namespace Num
open Ints
set_option linter.unusedSimpArgs false
set_option linter.unusedVariables false
/-- m things, one behind another: what they are, how many bytes they take. -/
def decL {α : Type} (dec : List Int → Option (α × Nat)) : Nat → List Int → Option (List α × Nat)
  | 0, _ => some ([], 0)
  | m + 1, X => match decL dec m X with
    | none => none
    | some (L, k) => match dec (X.drop k) with
      | none => none
      | some (T, j) => some (L ++ [T], k + j)
/-- A count, and as many. -/
def decR {α : Type} (dec : List Int → Option (α × Nat)) : List Int → Option (List α × Nat)
  | [] => none
  | m :: R => match decL dec m.toNat R with
    | none => none
    | some (L, j) => some (L, 1 + j)
/-- What bytes begin with: a value at most n deep, and how many bytes it takes. -/
def decV : (n : Nat) → List Int → Option (VT n × Nat)
  | 0, _ => none
  | n + 1, [] => none
  | n + 1, k :: R =>
    if (k == 0) = true then some ((0, 0, 0, ⟨#[]⟩, []), 1)
    else if (k == 1) = true then (if 8 ≤ R.length then some ((1, wrap64 (rdU (R.take 8)), 0, ⟨#[]⟩, []), 9) else none)
    else if (k == 2) = true then (if 8 ≤ R.length ∧ Flo.canon (rdU (R.take 8)).toNat = (rdU (R.take 8)).toNat then some ((2, 0, (rdU (R.take 8)).toNat, ⟨#[]⟩, []), 9) else none)
    else if (k == 3) = true then (if 2 ≤ R.length ∧ (rdU (R.take 2)).toNat ≤ 256 ∧ 2 + (rdU (R.take 2)).toNat ≤ R.length then some ((3, 0, 0, strB ((R.drop 2).take (rdU (R.take 2)).toNat), []), 3 + (rdU (R.take 2)).toNat) else none)
    else if (k == 4) = true then (match decR (decV n) R with | none => none | some (L, j) => some ((4, 0, 0, ⟨#[]⟩, L), 1 + j))
    else none
theorem decL_le {α : Type} {dec : List Int → Option (α × Nat)} (h : ∀ X T j, dec X = some (T, j) → 1 ≤ j ∧ j ≤ X.length) : ∀ m X L k, decL dec m X = some (L, k) → m ≤ k ∧ k ≤ X.length ∧ L.length = m := by
  intro m
  induction m with
  | zero => intro X L k e; cases e; exact ⟨Nat.le_refl _, Nat.zero_le _, rfl⟩
  | succ m ih =>
    intro X L k e
    rw [decL] at e
    cases h1 : decL dec m X with
    | none => rw [h1] at e; cases e
    | some q =>
      obtain ⟨L1, k1⟩ := q
      rw [h1] at e
      obtain ⟨a, b, c⟩ := ih X L1 k1 h1
      cases h2 : dec (X.drop k1) with
      | none => simp only [h2] at e; cases e
      | some q =>
        obtain ⟨T, j⟩ := q
        simp only [h2] at e
        obtain ⟨d1, d2⟩ := h _ _ _ h2
        cases e
        rw [List.length_drop] at d2
        exact ⟨by omega, by omega, by rw [List.length_append, c]; rfl⟩
theorem decL_none {α : Type} {dec : List Int → Option (α × Nat)} {X : List Int} : ∀ m i, decL dec i X = none → i ≤ m → decL dec m X = none := by
  intro m
  induction m with
  | zero => intro i h hi; obtain rfl : i = 0 := by omega
            exact h
  | succ m ih =>
    intro i h hi
    by_cases he : i = m + 1
    · subst he; exact h
    · rw [decL, ih i h (by omega)]
theorem decR_le {α : Type} {dec : List Int → Option (α × Nat)} (h : ∀ X T j, dec X = some (T, j) → 1 ≤ j ∧ j ≤ X.length) {X : List Int} {L : List α} {k : Nat} (e : decR dec X = some (L, k)) : 1 ≤ k ∧ k ≤ X.length := by
  cases X with
  | nil => cases e
  | cons m R =>
    rw [decR] at e
    cases h1 : decL dec m.toNat R with
    | none => simp only [h1] at e; cases e
    | some q =>
      obtain ⟨L1, k1⟩ := q
      simp only [h1] at e
      cases e
      obtain ⟨_, b, _⟩ := decL_le h _ _ _ _ h1
      exact ⟨by omega, by rw [List.length_cons]; omega⟩
theorem decV_le : ∀ n X (T : VT n) j, decV n X = some (T, j) → 1 ≤ j ∧ j ≤ X.length := by
  intro n
  induction n with
  | zero => intro X T j e; cases e
  | succ n ih =>
    intro X T j e
    cases X with
    | nil => cases e
    | cons k R =>
      rw [decV] at e
      rw [List.length_cons]
      split at e
      · cases e; exact ⟨by omega, by omega⟩
      · split at e
        · split at e
          · cases e; exact ⟨by omega, by omega⟩
          · cases e
        · split at e
          · split at e
            · rename_i h; cases e; exact ⟨by omega, by have := h.1; omega⟩
            · cases e
          · split at e
            · split at e
              · rename_i h; cases e; exact ⟨by omega, by have := h.2.2; omega⟩
              · cases e
            · split at e
              · split at e
                · cases e
                · rename_i h; cases e; have := decR_le ih h; exact ⟨by omega, by omega⟩
              · cases e
theorem bits_any (x : Nat) (w : World) : Calls Try.prog 92 #[.float .f64 x] w fun e w' => e = .returned (.int .u64 (Flo.canon x)) ∧ w = w' := by
  go_enter Try.func92, Try.ntmps92
  go_wp2_with (first | (go_at_call 85; refine (canon_any _ _).mono ?_; rintro e w' ⟨rfl, rfl⟩))
  go_ret
  exact ⟨rfl, rfl⟩
set_option maxRecDepth 100000 in
set_option maxHeartbeats 1000000 in
theorem readFloat_short (w : World) (p : Option Addr) (l c : Nat) (hl : l ≤ c) (hc : c ≤ maxLen) (h8 : l < 8) :
    Calls Try.prog 95 #[.slice p l c] w fun e w' => e = .returned (.tuple #[.float .f64 0, .bool false]) ∧ w = w' := by
  have HU := Lib.hid (readU_no w p l c 8 hl hc (by omega))
  clear hc
  go_enter Try.func95, Try.ntmps95
  go_wp2_with fail
  go_at_call 68; refine HU.out.mono ?_; rintro e w1 ⟨rfl, rfl⟩
  go_wp2
  go_ret2
  exact ⟨rfl, rfl⟩
set_option maxRecDepth 100000 in
set_option maxHeartbeats 1000000 in
theorem readFloat_full (w : World) (p : Option Addr) (l c : Nat) (X : List Int) (B : Nat) (Q : Bool) (hb : RdB w p l c X) (hX : By X) (h8 : 8 ≤ l) (hB : rdU (X.take 8) = (B : Int)) (hB64 : B < 18446744073709551616) (hQ : ((Flo.canon B : Int) == (B : Int)) = Q) :
    Calls Try.prog 95 #[.slice p l c] w fun e w' => e = .returned (.tuple #[.float .f64 B, .bool Q]) ∧ w = w' := by
  have HU := Lib.hid (readU_all w p l c X 8 hb hX (by omega) h8)
  have HB := Lib.hid hB
  have HQ := Lib.hid hQ
  clear hb hX hB hQ
  go_enter Try.func95, Try.ntmps95
  go_wp2_with fail
  go_at_call 68; refine HU.out.mono ?_; rintro e w1 ⟨rfl, rfl⟩
  rw [HB.out]
  go_wp2_with (first | (go_at_call 92; refine (bits_any _ _).mono ?_; rintro e w' ⟨rfl, rfl⟩))
  have HR := Lib.hid (show Ending.returned (.tuple #[.float .f64 B, .bool ((Flo.canon B : Int) == (B : Int))]) = .returned (.tuple #[.float .f64 B, .bool Q]) by rw [HQ.out])
  go_ret2
  exact ⟨HR.out, rfl⟩
end Num
end Go.Proofs.Ytomfgncbdgifoaa
/-
  Values that a call makes: where they lie: each list in a block of its own, which bears no mark; a list of them that the call appends to.
-/
namespace Go.Proofs.Ytomfgncbdgifoaa
open Go.RowKit
namespace Num
open Ints
set_option linter.unusedSimpArgs false
set_option linter.unusedVariables false
/-- A block of cells that bears no mark. -/
def Pln (w : World) (b : Nat) : Prop := ∃ cur, w.heap[b]? = some (.cells cur 47 (0, 0))
/-- A slice of values leads to these; its block is in S, what the items lead to lies elsewhere in S, no two in one block. -/
def RepLS {α : Type} (S : Nat → Prop) (w : World) (R : (Nat → Prop) → Value → α → Prop) (p : Option Addr) (l c : Nat) (L : List α) : Prop :=
  L.length = l ∧ l ≤ c ∧ c ≤ maxLen ∧ (0 < l → ∃ b off, p = some ⟨b, off, none⟩ ∧ S b ∧ Pln w b ∧ ∃ g : Nat → Nat, ∀ i (h : i < L.length), ∃ v0 v1 v2 v3 v4,
    w.cell? ⟨b, off + i * 5, none⟩ = some v0 ∧ w.cell? ⟨b, off + i * 5 + 1, none⟩ = some v1 ∧ w.cell? ⟨b, off + i * 5 + 2, none⟩ = some v2 ∧
    w.cell? ⟨b, off + i * 5 + 3, none⟩ = some v3 ∧ w.cell? ⟨b, off + i * 5 + 4, none⟩ = some v4 ∧ R (fun x => S x ∧ x ≠ b ∧ g x = i) (.agg #[v0, v1, v2, v3, v4]) L[i])
def RepC (w : World) : (n : Nat) → (Nat → Prop) → Value → VT n → Prop
  | 0, _, _, _ => False
  | n + 1, S, v, T => ∃ (p : Option Addr) (l c : Nat), v = .agg #[.int .i64 T.1, .int .i64 T.2.1, .float .f64 T.2.2.1, .string T.2.2.2.1, .slice p l c] ∧
      okI T.1 ∧ okI T.2.1 ∧ T.2.2.1 < 2 ^ 64 ∧ T.2.2.2.1.size ≤ maxLen ∧ RepLS S w (RepC w n) p l c T.2.2.2.2
/-- As Rep, all its blocks in S, no two lists in one. -/
@[reducible] def RepS (S : Nat → Prop) (w : World) (n : Nat) (v : Value) (T : VT n) : Prop := RepC w n S v T
theorem repLS_monoR {α : Type} {S S' : Nat → Prop} {w : World} {R R' : (Nat → Prop) → Value → α → Prop} (hS : ∀ b, S b → S' b) (hR : ∀ (s s' : Nat → Prop) v x, (∀ b, s b → s' b) → R s v x → R' s' v x) {p : Option Addr} {l c : Nat} {L : List α} (h : RepLS S w R p l c L) : RepLS S' w R' p l c L := by
  obtain ⟨h1, h2, h3, h4⟩ := h
  refine ⟨h1, h2, h3, fun hl => ?_⟩
  obtain ⟨b, off, hp, hSb, hpl, g, hi⟩ := h4 hl
  refine ⟨b, off, hp, hS b hSb, hpl, g, fun i hi' => ?_⟩
  obtain ⟨v0, v1, v2, v3, v4, c0, c1, c2, c3, c4, hr⟩ := hi i hi'
  exact ⟨v0, v1, v2, v3, v4, c0, c1, c2, c3, c4, hR _ _ _ _ (fun x ⟨k1, k2, k3⟩ => ⟨hS x k1, k2, k3⟩) hr⟩
theorem repC_mono {w : World} : ∀ (n : Nat) (S S' : Nat → Prop) (v : Value) (T : VT n), (∀ b, S b → S' b) → RepC w n S v T → RepC w n S' v T := by
  intro n
  induction n with
  | zero => intro S S' v T hS h; exact h.elim
  | succ n ih =>
    intro S S' v T hS h
    obtain ⟨p, l, c, hv, h1, h2, h3, h4, h5⟩ := h
    exact ⟨p, l, c, hv, h1, h2, h3, h4, repLS_monoR hS (fun s s' v x hs hr => ih s s' v x hs hr) h5⟩
theorem repS_mono {S S' : Nat → Prop} (hS : ∀ b, S b → S' b) {w : World} (n : Nat) (v : Value) (T : VT n) (h : RepS S w n v T) : RepS S' w n v T := repC_mono n S S' v T hS h
theorem repL_mono {α : Type} {w : World} {R R' : Value → α → Prop} (hR : ∀ v x, R v x → R' v x) {p : Option Addr} {l c : Nat} {L : List α} (h : RepL w R p l c L) : RepL w R' p l c L := by
  obtain ⟨h1, h2, h3, h4⟩ := h
  refine ⟨h1, h2, h3, fun hl => ?_⟩
  obtain ⟨b, off, hp, hi⟩ := h4 hl
  refine ⟨b, off, hp, fun i hi' => ?_⟩
  obtain ⟨v0, v1, v2, v3, v4, c0, c1, c2, c3, c4, hr⟩ := hi i hi'
  exact ⟨v0, v1, v2, v3, v4, c0, c1, c2, c3, c4, hR _ _ hr⟩
theorem repLS_repR {α : Type} {S : Nat → Prop} {w : World} {R : (Nat → Prop) → Value → α → Prop} {R' : Value → α → Prop} (hR : ∀ s v x, R s v x → R' v x) {p : Option Addr} {l c : Nat} {L : List α} (h : RepLS S w R p l c L) : RepL w R' p l c L := by
  obtain ⟨h1, h2, h3, h4⟩ := h
  refine ⟨h1, h2, h3, fun hl => ?_⟩
  obtain ⟨b, off, hp, _, _, g, hi⟩ := h4 hl
  refine ⟨b, off, hp, fun i hi' => ?_⟩
  obtain ⟨v0, v1, v2, v3, v4, c0, c1, c2, c3, c4, hr⟩ := hi i hi'
  exact ⟨v0, v1, v2, v3, v4, c0, c1, c2, c3, c4, hR _ _ _ hr⟩
theorem repC_rep {w : World} : ∀ (n : Nat) (S : Nat → Prop) (v : Value) (T : VT n), RepC w n S v T → Rep w n v T := by
  intro n
  induction n with
  | zero => intro S v T h; exact h.elim
  | succ n ih =>
    intro S v T h
    obtain ⟨p, l, c, hv, h1, h2, h3, h4, h5⟩ := h
    exact ⟨p, l, c, hv, h1, h2, h3, h4, repLS_repR ih h5⟩
theorem repS_rep {S : Nat → Prop} {w : World} (n : Nat) (v : Value) (T : VT n) (h : RepS S w n v T) : Rep w n v T := repC_rep n S v T h
theorem repLS_rep {S : Nat → Prop} {w : World} {n : Nat} {p : Option Addr} {l c : Nat} {L : List (VT n)} (h : RepLS S w (RepC w n) p l c L) : RepL w (Rep w n) p l c L := repLS_repR (repC_rep n) h
theorem cell_block {w w' : World} {b o : Nat} {v : Value} (he : w'.heap[b]? = w.heap[b]?) (h : w.cell? ⟨b, o, none⟩ = some v) : w'.cell? ⟨b, o, none⟩ = some v := by
  rw [World.cell?_of_block he]; exact h
theorem repLS_keepR {α : Type} {S : Nat → Prop} {w w' : World} (hk : ∀ b, S b → w'.heap[b]? = w.heap[b]?) {R R' : (Nat → Prop) → Value → α → Prop} (hR : ∀ (s : Nat → Prop) v x, (∀ b, s b → S b) → R s v x → R' s v x) {p : Option Addr} {l c : Nat} {L : List α} (h : RepLS S w R p l c L) : RepLS S w' R' p l c L := by
  obtain ⟨h1, h2, h3, h4⟩ := h
  refine ⟨h1, h2, h3, fun hl => ?_⟩
  obtain ⟨b, off, hp, hSb, ⟨cur, hpl⟩, g, hi⟩ := h4 hl
  have he := hk b hSb
  refine ⟨b, off, hp, hSb, ⟨cur, he.trans hpl⟩, g, fun i hi' => ?_⟩
  obtain ⟨v0, v1, v2, v3, v4, c0, c1, c2, c3, c4, hr⟩ := hi i hi'
  exact ⟨v0, v1, v2, v3, v4, cell_block he c0, cell_block he c1, cell_block he c2, cell_block he c3, cell_block he c4, hR _ _ _ (fun x h => h.1) hr⟩
theorem repC_keep {w w' : World} : ∀ (n : Nat) (S : Nat → Prop) (v : Value) (T : VT n), (∀ b, S b → w'.heap[b]? = w.heap[b]?) → RepC w n S v T → RepC w' n S v T := by
  intro n
  induction n with
  | zero => intro S v T hk h; exact h.elim
  | succ n ih =>
    intro S v T hk h
    obtain ⟨p, l, c, hv, h1, h2, h3, h4, h5⟩ := h
    exact ⟨p, l, c, hv, h1, h2, h3, h4, repLS_keepR hk (fun s v x hs hr => ih s v x (fun b hb => hk b (hs b hb)) hr) h5⟩
theorem repS_keep {S : Nat → Prop} {w w' : World} (hk : ∀ b, S b → w'.heap[b]? = w.heap[b]?) (n : Nat) (v : Value) (T : VT n) (h : RepS S w n v T) : RepS S w' n v T := repC_keep n S v T hk h
theorem repLS_keep {S : Nat → Prop} {w w' : World} {n : Nat} (hk : ∀ b, S b → w'.heap[b]? = w.heap[b]?) {p : Option Addr} {l c : Nat} {L : List (VT n)} (h : RepLS S w (RepC w n) p l c L) : RepLS S w' (RepC w' n) p l c L :=
  repLS_keepR hk (fun s v x hs hr => repC_keep n s v x (fun b hb => hk b (hs b hb)) hr) h
theorem repLS_mono {S S' : Nat → Prop} {w : World} {n : Nat} (hS : ∀ b, S b → S' b) {p : Option Addr} {l c : Nat} {L : List (VT n)} (h : RepLS S w (RepC w n) p l c L) : RepLS S' w (RepC w n) p l c L :=
  repLS_monoR hS (fun s s' v x hs hr => repC_mono n s s' v x hs hr) h
theorem repC_lt {w : World} : ∀ (n : Nat) (S : Nat → Prop) (v : Value) (T : VT n), RepC w n S v T → RepC w n (fun b => S b ∧ b < w.heap.size) v T := by
  intro n
  induction n with
  | zero => intro S v T h; exact h.elim
  | succ n ih =>
    intro S v T h
    obtain ⟨p, l, c, hv, h1, h2, h3, h4, k1, k2, k3, k4⟩ := h
    refine ⟨p, l, c, hv, h1, h2, h3, h4, k1, k2, k3, fun hl => ?_⟩
    obtain ⟨b, off, hp, hSb, ⟨cur, hpl⟩, g, hi⟩ := k4 hl
    refine ⟨b, off, hp, ⟨hSb, row_lt hpl⟩, ⟨cur, hpl⟩, g, fun i hi' => ?_⟩
    obtain ⟨v0, v1, v2, v3, v4, c0, c1, c2, c3, c4, hr⟩ := hi i hi'
    exact ⟨v0, v1, v2, v3, v4, c0, c1, c2, c3, c4, repC_mono n _ _ _ _ (fun x ⟨⟨m1, m2, m3⟩, m4⟩ => ⟨⟨m1, m4⟩, m2, m3⟩) (ih _ _ _ hr)⟩
theorem repS_lt {S : Nat → Prop} {w : World} (n : Nat) (v : Value) (T : VT n) (h : RepS S w n v T) : RepS (fun b => S b ∧ b < w.heap.size) w n v T := repC_lt n S v T h
theorem repS_shape {S : Nat → Prop} {w : World} {n : Nat} {v : Value} {T : VT n} (h : RepS S w n v T) : ∃ (K I : Int) (F : Nat) (Z : ByteArray) (p : Option Addr) (l c : Nat), v = .agg #[.int .i64 K, .int .i64 I, .float .f64 F, .string Z, .slice p l c] ∧ okI I := by
  cases n with
  | zero => exact h.elim
  | succ n => obtain ⟨p, l, c, rfl, _, h2, _⟩ := h; exact ⟨_, _, _, _, _, _, _, rfl, h2⟩
/-- The blocks that a call has made since W0, but for the own one. -/
def Fr (W0 w : World) (v : Value) : Nat → Prop := fun b => W0.heap.size ≤ b ∧ b < w.heap.size ∧ v.ownBlock ≠ some b
/-- A list of values that the call has made and appends to; what they lead to was made ahead of block M. -/
def OwM (M : Nat) (W0 w : World) (n : Nat) (p : Option Addr) (l c : Nat) (L : List (VT n)) : Prop := ∃ XS : List Value, w.ownsRow W0.heap.size 47 5 (.slice p l c) l XS ∧ L.length = l ∧ Below W0.heap.size W0 w ∧ W0.heap.size ≤ w.heap.size ∧ M ≤ w.heap.size ∧
  ∃ g : Nat → Nat, ∀ i (h : i < L.length), ∃ v0 v1 v2 v3 v4, XS[i * 5]? = some v0 ∧ XS[i * 5 + 1]? = some v1 ∧ XS[i * 5 + 2]? = some v2 ∧ XS[i * 5 + 3]? = some v3 ∧ XS[i * 5 + 4]? = some v4 ∧ RepC w n (fun b => Fr W0 w (.slice p l c) b ∧ b < M ∧ g b = i) (.agg #[v0, v1, v2, v3, v4]) L[i]
def OwL (W0 w : World) (n : Nat) (p : Option Addr) (l c : Nat) (L : List (VT n)) : Prop := OwM w.heap.size W0 w n p l c L
theorem ol_nil (W0 w : World) (n : Nat) (hb : Below W0.heap.size W0 w) (hs : W0.heap.size ≤ w.heap.size) : OwL W0 w n none 0 0 [] := ⟨[], World.ownsRow_nil _ _ _ _, rfl, hb, hs, Nat.le_refl _, fun _ => 0, fun i h => absurd h (Nat.not_lt_zero _)⟩
theorem om_keep {M : Nat} {W0 w w' : World} {n : Nat} {p : Option Addr} {l c : Nat} {L : List (VT n)} (h : OwM M W0 w n p l c L) (hb : Below w.heap.size w w') : OwM M W0 w' n p l c L := by
  obtain ⟨XS, h1, h2, h3, h4, hM, g, h5⟩ := h
  refine ⟨XS, h1.kept (bel_own hb none) ?_, h2, h3.trans (hb.mono h4), Nat.le_trans h4 hb.size, Nat.le_trans hM hb.size, g, fun i hi => ?_⟩
  · cases Value.ownBlock (.slice p l c) with
    | none => exact Or.inl rfl
    | some k => exact Or.inr (by simp)
  · obtain ⟨v0, v1, v2, v3, v4, c0, c1, c2, c3, c4, hr⟩ := h5 i hi
    refine ⟨v0, v1, v2, v3, v4, c0, c1, c2, c3, c4, repC_mono n _ _ _ _ (fun b hb' => ⟨⟨hb'.1.1, Nat.lt_of_lt_of_le hb'.1.2.1 hb.size, hb'.1.2.2⟩, hb'.2⟩) (repC_keep n _ _ _ (fun b hb' => hb.block b hb'.1.2.1) hr)⟩
theorem ol_lt {W0 w : World} {n : Nat} {p : Option Addr} {l c : Nat} {L : List (VT n)} (h : OwL W0 w n p l c L) : ∀ k, (Value.slice p l c).ownBlock = some k → W0.heap.size ≤ k ∧ k < w.heap.size := by
  obtain ⟨XS, h1, _⟩ := h
  exact fun k hk => h1.lt k hk
/-- What the list reads as, behind the call. -/
theorem ol_rep {W0 w : World} {n : Nat} {p : Option Addr} {l c : Nat} {L : List (VT n)} (h : OwL W0 w n p l c L) : RepLS (fun b => W0.heap.size ≤ b) w (RepC w n) p l c L := by
  obtain ⟨XS, h1, h2, h3, h4, hM, gf, h5⟩ := h
  have hlt := h1.lt
  have hcells := fun g (hg : (Value.slice p l c).ownBlock = some g) => h1.cells hg
  rcases h1.2 with ⟨hv, h0⟩ | ⟨g, cap, cur, hv, _, hcur, hle, hm, _⟩
  · injection hv with e1 e2 e3
    subst e1 e2 e3
    exact ⟨h2, Nat.le_refl _, Nat.zero_le _, fun h => absurd h (Nat.lt_irrefl _)⟩
  · injection hv with e1 e2 e3
    subst e1 e3
    refine ⟨h2, hle, hm, fun _ => ⟨g, 0, rfl, (hlt g rfl).1, ⟨cur, hcur⟩, gf, fun i hi => ?_⟩⟩
    obtain ⟨v0, v1, v2, v3, v4, c0, c1, c2, c3, c4, hr⟩ := h5 i hi
    have hc := hcells g rfl
    have k0 := hc _ _ c0; have k1 := hc _ _ c1; have k2 := hc _ _ c2; have k3 := hc _ _ c3; have k4 := hc _ _ c4
    rw [Addr.add_lit] at k0 k1 k2 k3 k4
    exact ⟨v0, v1, v2, v3, v4, k0, k1, k2, k3, k4, repC_mono n _ _ _ _ (fun b hb => ⟨hb.1.1, fun e => hb.1.2.2 (by rw [e]; rfl), hb.2.2⟩) hr⟩
theorem info_v5 : (Try.prog.info? 47).map (fun i => (i.zero, i.size, i.bytes)) = some (some (.agg #[.int .i64 0, .int .i64 0, .float .f64 0, .string ⟨#[]⟩, .slice none 0 0]), 5, 64) := by kernel_rfl
theorem five_at {XS : List Value} {l : Nat} (hl : XS.length = l * 5) (u0 u1 u2 u3 u4 : Value) (j : Nat) : (XS ++ [u0, u1, u2, u3, u4])[l * 5 + j]? = [u0, u1, u2, u3, u4][j]? := by
  rw [List.getElem?_append_right (by omega), hl, Nat.add_sub_cancel_left]
section
variable {ops : Array Oper} {rest : List Oper} {o : Oper} {a : Act} {Q : Exit → Act → World → Prop}
/-- A value behind an owned list. -/
theorem wp_ov1 (hgd : o.guard = none) (s x : Operand) (ho : o.op = .call { callee := .builtin .append, args := #[s, x], argTypes := #[27, 27] })
    (M : Nat) (W0 w : World) (n : Nat) (p : Option Addr) (l c : Nat) (L : List (VT n)) (u0 u1 u2 u3 u4 : Value) (T : VT n) (hs : a.eval s = .slice p l c) (hx : a.eval x = .slice (some ⟨w.heap.size, 0, none⟩) 1 1) (hb : OwM M W0 w n p l c L) (hl : l ≤ 1000000)
    (hT : RepC w n (fun b => Fr W0 w (.slice p l c) b ∧ M ≤ b) (.agg #[u0, u1, u2, u3, u4]) T)
    (h : ∀ p' c' w', OwL W0 w' n p' (l + 1) c' (L ++ [T]) → wpList Try.prog ops Q rest (a.put o.dst (.slice p' (l + 1) c')) w') : wpList Try.prog ops Q (o :: rest) a (w.alloc (.cells #[u0, u1, u2, u3, u4] 47)) := by
  obtain ⟨i0, hi, hz0, hz1, hz2⟩ := info_parts info_v5
  have hb' := om_keep hb ((Below.refl w.heap.size w).alloc (Nat.le_refl _) (.cells #[u0, u1, u2, u3, u4] 47))
  obtain ⟨XS, h1, h2, h3, h4, hM, g, h5⟩ := hb'
  have hone : ∀ u ∈ [u0, u1, u2, u3, u4], u.oneCell' = true := by
    cases n with
    | zero => exact hT.elim
    | succ n =>
      obtain ⟨q, m, d, e, _⟩ := hT
      injection e with e
      have e' := congrArg Array.toList e
      simp only [List.cons.injEq] at e'
      obtain ⟨rfl, rfl, rfl, rfl, rfl, _⟩ := e'
      intro u hu
      simp only [List.mem_cons, List.not_mem_nil, or_false] at hu
      rcases hu with rfl | rfl | rfl | rfl | rfl <;> rfl
  refine wpList_append_own_at _ hgd s x 27 ho W0.heap.size 47 i0 _ 5 64 Try.underlying27 hi hz0 hz1 hz2 rfl (by decide) (.slice p l c) l XS hs h1 ⟨w.heap.size, 0, none⟩ 1 1 [u0, u1, u2, u3, u4] hx rfl ?_ hone (by unfold maxLen; omega) (by omega) h4 ?_
  · intro j u hj
    rw [Addr.add_lit, Nat.zero_add, row_cell (row_alloc w #[u0, u1, u2, u3, u4] 47) j, List.getElem?_toArray]
    exact hj
  · intro v' w' hown hg _ hown'
    have hsz : (w.alloc (.cells #[u0, u1, u2, u3, u4] 47)).heap.size = w.heap.size + 1 := World.size_alloc _ _
    have hgs := hg.size
    have hpc : ∃ p' c', v' = .slice p' (l + 1) c' := by
      rcases hown.2 with ⟨rfl, hn⟩ | ⟨g, cap, cur, rfl, _⟩
      · exact absurd hn (by omega)
      · exact ⟨_, _, rfl⟩
    obtain ⟨p', c', rfl⟩ := hpc
    have hlen := h1.1
    have hfr' : ∀ b, Fr W0 (w.alloc (.cells #[u0, u1, u2, u3, u4] 47)) (.slice p l c) b → Fr W0 w' (.slice p' (l + 1) c') b ∧ w'.heap[b]? = (w.alloc (.cells #[u0, u1, u2, u3, u4] 47)).heap[b]? := by
      intro b ⟨k1, k2, k3⟩
      refine ⟨⟨k1, by omega, ?_⟩, hg.block b k2 (fun e => k3 e.symm)⟩
      rcases hown' with e | e
      · rw [e]; exact k3
      · rw [e]; intro e'; injection e' with e'; omega
    have hT' := repC_mono n _ (fun b => Fr W0 (w.alloc (.cells #[u0, u1, u2, u3, u4] 47)) (.slice p l c) b ∧ M ≤ b) _ _ (fun b hb' => ⟨⟨hb'.1.1, by have := hb'.1.2.1; omega, hb'.1.2.2⟩, hb'.2⟩) (repC_keep n _ _ _ (fun b hb' => Below.heap_alloc w (.cells #[u0, u1, u2, u3, u4] 47) _ hb'.1.2.1) hT)
    refine h p' c' w' ⟨XS ++ [u0, u1, u2, u3, u4], hown, by rw [List.length_append, h2]; rfl, Below.grown h3 hg h4 (fun k hk => (h1.lt k hk).1), Nat.le_trans h4 hg.size, Nat.le_refl _, fun b => if b < M then g b else l, fun i hi => ?_⟩
    by_cases hlt : i < L.length
    · obtain ⟨v0, v1, v2, v3, v4, c0, c1, c2, c3, c4, hr⟩ := h5 i hlt
      have hlt5 : i * 5 + 5 ≤ XS.length := by omega
      refine ⟨v0, v1, v2, v3, v4, by rw [List.getElem?_append_left (by omega)]; exact c0, by rw [List.getElem?_append_left (by omega)]; exact c1, by rw [List.getElem?_append_left (by omega)]; exact c2, by rw [List.getElem?_append_left (by omega)]; exact c3, by rw [List.getElem?_append_left (by omega)]; exact c4, ?_⟩
      rw [List.getElem_append_left hlt]
      exact repC_mono n _ _ _ _ (fun b hb' => ⟨(hfr' b hb'.1).1, (hfr' b hb'.1).1.2.1, (show (if b < M then g b else l) = i from (if_pos hb'.2.1).trans hb'.2.2)⟩) (repC_keep n _ _ _ (fun b hb' => (hfr' b hb'.1).2) hr)
    · have hie : i = l := by rw [List.length_append, h2] at hi; simp at hi; omega
      subst hie
      have e := five_at hlen u0 u1 u2 u3 u4
      refine ⟨u0, u1, u2, u3, u4, by have := e 0; simpa using this, by rw [e 1]; rfl, by rw [e 2]; rfl, by rw [e 3]; rfl, by rw [e 4]; rfl, ?_⟩
      rw [List.getElem_append_right (by omega)]
      simp only [h2, Nat.sub_self, List.getElem_cons_zero]
      exact repC_mono n _ _ _ _ (fun b hb' => ⟨(hfr' b hb'.1).1, (hfr' b hb'.1).1.2.1, (if_neg (Nat.not_lt.2 hb'.2) : (if b < M then g b else _) = _)⟩) (repC_keep n _ _ _ (fun b hb' => (hfr' b hb'.1).2) hT')
end
/-- What is behind the first k of a slice, by whatever address. -/
theorem rd_from {w : World} {b off l c k : Nat} {X : List Int} (h : RdB w (some ⟨b, off, none⟩) l c X) (hkl : k ≤ l) (hc : c ≠ k) : RdB w (some ⟨b, off + k, none⟩) (l - k) (c - k) (X.drop k) := by
  have := rd_cut (k := k) (m := l - k) h (by omega)
  rw [List.take_of_length_le (by rw [List.length_drop, h.1]; omega)] at this
  exact this
theorem rd_end {w : World} {b off k : Nat} {X : List Int} (h : RdB w (some ⟨b, off, none⟩) k k X) : RdB w (some ⟨b, off, none⟩) 0 0 (X.drop k) := by
  rw [List.drop_of_length_le (by rw [h.1]; omega)]
  exact ⟨rfl, Nat.le_refl _, Nat.zero_le _, fun h => absurd h (Nat.lt_irrefl _), fun e => by cases e⟩
end Num
end Go.Proofs.Ytomfgncbdgifoaa
/-
  package call's reader: where it stands; pass, number, name.
-/
namespace Go.Proofs.Ytomfgncbdgifoaa
open Go.RowKit
namespace Num
open Ints
set_option linter.unusedSimpArgs false
set_option linter.unusedVariables false
/-- The reader in block b: what is left of its bytes, whether it is lost. -/
def Rdr (B : Nat) (w : World) (b : Nat) (X : List Int) (lost : Bool) : Prop := ∃ p l c, w.heap[b]? = some (.cells #[.slice p l c, .bool lost] 77 (0, 0)) ∧ RdB w p l c X ∧ (0 < l → ∃ pb off, p = some ⟨pb, off, none⟩ ∧ pb < B)
theorem rd_but {w w' : World} {b : Nat} {t : TypeId} {p1 : Option Addr} {l1 c1 : Nat} {lost : Bool} (hb : w.heap[b]? = some (.cells #[.slice p1 l1 c1, .bool lost] t (0, 0))) (hg : w.grownBy w' (some b)) {p : Option Addr} {l c : Nat} {X : List Int} (h : RdB w p l c X) : RdB w' p l c X := by
  obtain ⟨h1, h2, h3, h4, h5⟩ := h
  refine ⟨h1, h2, h3, fun hl => ?_, h5⟩
  obtain ⟨b', off, hp, hc⟩ := h4 hl
  refine ⟨b', off, hp, fun i hi => hg.cell (hc i hi) ?_⟩
  intro e
  injection e with e
  subst e
  have h0 := hc 0 (by omega)
  rw [row_cell hb] at h0
  match off, h0 with
  | 0, h0 => simp at h0
  | 1, h0 => simp at h0
  | o + 2, h0 => simp at h0
theorem rd_zero {w : World} {p : Option Addr} {c : Nat} (hc : c ≤ maxLen) (h : p = none → c = 0) : RdB w p 0 c [] := ⟨rfl, Nat.zero_le _, hc, fun h => absurd h (Nat.lt_irrefl _), h⟩
theorem set2_row {w : World} {b : Nat} {a0 a1 : Value} {t : TypeId} (h : w.heap[b]? = some (.cells #[a0, a1] t (0, 0))) (v0 v1 : Value) :
    ((w.setCell ⟨b, 0, none⟩ v0).setCell ⟨b, 1, none⟩ v1).heap[b]? = some (.cells #[v0, v1] t (0, 0)) := by
  simp [World.setCell, Array.getElem?_modify, h]
theorem set20_row {w : World} {b : Nat} {a0 a1 : Value} {t : TypeId} (h : w.heap[b]? = some (.cells #[a0, a1] t (0, 0))) (v0 : Value) :
    (w.setCell ⟨b, 0, none⟩ v0).heap[b]? = some (.cells #[v0, a1] t (0, 0)) := by
  simp [World.setCell, Array.getElem?_modify, h]
theorem grown_set1 (w : World) (b o : Nat) (v : Value) : w.grownBy (w.setCell ⟨b, o, none⟩ v) (some b) :=
  ⟨rfl, rfl, rfl, Nat.le_of_eq (World.size_setCell _ _ _).symm, fun i hi hne => Below.heap_setCell _ _ _ _ (fun e => hne (by rw [e]))⟩
def PassP (B : Nat) (w : World) (b : Nat) (X : List Int) (lost : Bool) (e : Ending) (w' : World) : Prop := e = .returned (.tuple #[]) ∧ w.grownBy w' (some b) ∧ Rdr B w' b X lost
set_option maxHeartbeats 400000 in
theorem pass_no {B : Nat} (w : World) (b : Nat) (X : List Int) (lost : Bool) (n : Int) (h : Rdr B w b X lost) : Calls Try.prog 66 #[.pointer (some ⟨b, 0, none⟩), .int .i64 n, .bool false] w (PassP B w b [] true) := by
  obtain ⟨p, l, c, hb, hr, hB⟩ := h
  have HB := Lib.hid hb
  have c0 : w.cell? ⟨b, 0, none⟩ = some (.slice p l c) := row_cell hb 0
  have c1 : w.cell? ⟨b, 1, none⟩ = some (.bool lost) := row_cell hb 1
  have hf := fun o => row_frz hb o
  clear hb hr hB
  go_enter Try.func66, Try.ntmps66
  go_wp2
  refine bodyPost_ret (results_none rfl _ _ _) rfl ?_
  exact ⟨rfl, (grown_set1 w b 0 _).trans (grown_set1 _ b 1 _), none, 0, 0, set2_row HB.out _ _, rd_nil _, fun h => absurd h (Nat.lt_irrefl _)⟩
set_option maxHeartbeats 400000 in
theorem pass_yes {B : Nat} (w : World) (b : Nat) (X : List Int) (lost : Bool) (n : Nat) (h : Rdr B w b X lost) (hn : n ≤ X.length) : Calls Try.prog 66 #[.pointer (some ⟨b, 0, none⟩), .int .i64 n, .bool true] w (PassP B w b (X.drop n) lost) := by
  obtain ⟨p, l, c, hb, hr, hB⟩ := h
  have HB := Lib.hid hb
  have HR := Lib.hid hr
  have HBB := Lib.hid hB
  have c0 : w.cell? ⟨b, 0, none⟩ = some (.slice p l c) := row_cell hb 0
  have c1 : w.cell? ⟨b, 1, none⟩ = some (.bool lost) := row_cell hb 1
  have hf := fun o => row_frz hb o
  have hlc := hr.2.1
  have hcm := hr.2.2.1
  have hnl : n ≤ l := by have := hr.1; omega
  unfold maxLen at hcm
  have hp : p = none ∧ l = 0 ∧ c = 0 ∨ (∃ ad, p = some ad ∧ l = 0) ∨ ∃ pb off, p = some ⟨pb, off, none⟩ := by
    by_cases h0 : 0 < l
    · obtain ⟨pb, off, e⟩ := rd_full hr h0; exact Or.inr (Or.inr ⟨pb, off, e⟩)
    · cases p with
      | none => exact Or.inl ⟨rfl, by omega, hr.2.2.2.2 rfl⟩
      | some ad => exact Or.inr (Or.inl ⟨ad, rfl, by omega⟩)
  have hln := hr.1
  clear hb hr hB
  rcases hp with ⟨rfl, rfl, rfl⟩ | ⟨ad, rfl, rfl⟩ | ⟨pb, off, rfl⟩
  · obtain rfl : n = 0 := by omega
    obtain rfl : X = [] := List.eq_nil_of_length_eq_zero hln
    go_enter Try.func66, Try.ntmps66
    go_wp2
    refine bodyPost_ret (results_none rfl _ _ _) rfl ?_
    exact ⟨rfl, grown_set1 w b 0 _, _, _, _, set20_row HB.out _, rd_nil _, fun h => absurd h (Nat.lt_irrefl _)⟩
  · obtain rfl : n = 0 := by omega
    obtain rfl : X = [] := List.eq_nil_of_length_eq_zero hln
    by_cases hc : c = 0
    all_goals
      go_enter Try.func66, Try.ntmps66
      go_wp2
      refine bodyPost_ret (results_none rfl _ _ _) rfl ?_
      exact ⟨rfl, grown_set1 w b 0 _, _, _, _, set20_row HB.out _, rd_zero (by unfold maxLen; omega) (fun e => by cases e), fun h => absurd h (Nat.lt_irrefl _)⟩
  · by_cases hc : c = n
    · subst hc
      obtain rfl : l = c := by omega
      go_enter Try.func66, Try.ntmps66
      go_wp2
      refine bodyPost_ret (results_none rfl _ _ _) rfl ?_
      exact ⟨rfl, grown_set1 w b 0 _, _, _, _, set20_row HB.out _, rd_but HB.out (grown_set1 w b 0 _) (rd_end HR.out), fun h => absurd h (Nat.lt_irrefl _)⟩
    · go_enter Try.func66, Try.ntmps66
      go_wp2
      refine bodyPost_ret (results_none rfl _ _ _) rfl ?_
      exact ⟨rfl, grown_set1 w b 0 _, _, _, _, set20_row HB.out _, rd_but HB.out (grown_set1 w b 0 _) (rd_from HR.out hnl hc), fun h => ⟨pb, off + n, rfl, by obtain ⟨b', o', e, h'⟩ := HBB.out (by omega); cases e; exact h'⟩⟩
/-- What is read of a number's bytes; 0, if they are too few. -/
def numV (k : Nat) (X : List Int) : Int := if X.length < k then 0 else rdU (X.take k)
theorem numV_lt {k : Nat} {X : List Int} (h : X.length < k) : numV k X = 0 := if_pos h
theorem numV_ge {k : Nat} {X : List Int} (h : ¬ X.length < k) : numV k X = rdU (X.take k) := if_neg h
def NumP (B : Nat) (w : World) (b k : Nat) (X : List Int) (lost : Bool) (e : Ending) (w' : World) : Prop := e = .returned (.int .u64 (numV k X)) ∧ w.grownBy w' (some b) ∧ Rdr B w' b (X.drop k) (lost || decide (X.length < k))
set_option maxHeartbeats 400000 in
theorem number_any {B : Nat} (w : World) (b k : Nat) (X : List Int) (lost : Bool) (h : Rdr B w b X lost) (hX : By X) (hk : k ≤ 8) : Calls Try.prog 46 #[.pointer (some ⟨b, 0, none⟩), .int .i64 k] w (NumP B w b k X lost) := by
  have H := Lib.hid h
  obtain ⟨p, l, c, hb, hr, hB⟩ := h
  have c0 : w.cell? ⟨b, 0, none⟩ = some (.slice p l c) := row_cell hb 0
  have hln := hr.1
  by_cases hs : X.length < k
  · have HU := Lib.hid (readU_no w p l c k hr.2.1 hr.2.2.1 (by omega))
    have hd : X.drop k = [] := List.drop_of_length_le (by omega)
    have hP := Lib.hid (show ∀ e w', PassP B w b [] true e w' → w.grownBy w' (some b) ∧ Rdr B w' b (X.drop k) (lost || decide (X.length < k)) from fun e w' h => ⟨h.2.1, by rw [hd, decide_eq_true hs, Bool.or_true]; exact h.2.2⟩)
    have hV := Lib.hid (numV_lt hs)
    clear hb hr hB hd
    go_enter Try.func46, Try.ntmps46
    go_wp2_with fail
    go_at_call 68; refine HU.out.mono ?_; rintro e w1 ⟨rfl, rfl⟩
    go_wp2_with fail
    go_at_call 66; refine (pass_no w b X lost k H.out).mono ?_; rintro e w1 h1
    have h2 := hP.out e w1 h1
    obtain rfl := h1.1
    clear h1
    go_wp2
    go_ret
    exact ⟨(congrArg (fun x => Ending.returned (.int .u64 x)) hV.out).symm, h2⟩
  · have HU := Lib.hid (readU_all w p l c X k hr hX hk (by omega))
    have hP := Lib.hid (show ∀ e w', PassP B w b (X.drop k) lost e w' → w.grownBy w' (some b) ∧ Rdr B w' b (X.drop k) (lost || decide (X.length < k)) from fun e w' h => ⟨h.2.1, by rw [decide_eq_false hs, Bool.or_false]; exact h.2.2⟩)
    have hV := Lib.hid (numV_ge hs)
    have hkl : k ≤ X.length := by omega
    clear hb hr hB
    go_enter Try.func46, Try.ntmps46
    go_wp2_with fail
    go_at_call 68; refine HU.out.mono ?_; rintro e w1 ⟨rfl, rfl⟩
    go_wp2_with fail
    go_at_call 66; refine (pass_yes w b X lost k H.out hkl).mono ?_; rintro e w1 h1
    have h2 := hP.out e w1 h1
    obtain rfl := h1.1
    clear h1
    go_wp2
    go_ret
    exact ⟨(congrArg (fun x => Ending.returned (.int .u64 x)) hV.out).symm, h2⟩
/-- A name that stands first, and how many bytes it takes. -/
def nameD (X : List Int) : Option (ByteArray × Nat) := if 2 ≤ X.length ∧ (rdU (X.take 2)).toNat ≤ 32 ∧ 2 + (rdU (X.take 2)).toNat ≤ X.length then some (strB ((X.drop 2).take (rdU (X.take 2)).toNat), 2 + (rdU (X.take 2)).toNat) else none
def nameV (X : List Int) : ByteArray := match nameD X with | none => ⟨#[]⟩ | some (s, _) => s
def nameX (X : List Int) : List Int := match nameD X with | none => [] | some (_, n) => X.drop n
def NameP (B : Nat) (w : World) (b : Nat) (X : List Int) (lost : Bool) (e : Ending) (w' : World) : Prop := e = .returned (.string (nameV X)) ∧ w.grownBy w' (some b) ∧ Rdr B w' b (nameX X) (lost || (nameD X).isNone)
set_option maxHeartbeats 400000 in
theorem name_any {B : Nat} (w : World) (b : Nat) (X : List Int) (lost : Bool) (h : Rdr B w b X lost) (hX : By X) : Calls Try.prog 41 #[.pointer (some ⟨b, 0, none⟩)] w (NameP B w b X lost) := by
  have H := Lib.hid h
  obtain ⟨p, l, c, hb, hr, hB⟩ := h
  have c0 : w.cell? ⟨b, 0, none⟩ = some (.slice p l c) := row_cell hb 0
  have hln := hr.1
  by_cases hs : 2 ≤ X.length ∧ (rdU (X.take 2)).toNat ≤ 32 ∧ 2 + (rdU (X.take 2)).toNat ≤ X.length
  · obtain ⟨L, hL, hL16⟩ := len16 hX hs.1
    have hLn : (rdU (X.take 2)).toNat = L := by rw [hL]; rfl
    have hd : nameD X = some (strB ((X.drop 2).take L), 2 + L) := by unfold nameD; rw [if_pos hs, hLn]
    rw [hLn] at hs
    have hV : nameV X = strB ((X.drop 2).take L) := by unfold nameV; rw [hd]
    have hXe : nameX X = X.drop (2 + L) := by unfold nameX; rw [hd]
    have HU := Lib.hid (readText_yes w p l c X L 32 hr hX (by omega) hL hL16 (by omega) (by omega))
    have hP := Lib.hid (show ∀ e w', PassP B w b (X.drop (2 + L)) lost e w' → w.grownBy w' (some b) ∧ Rdr B w' b (nameX X) (lost || (nameD X).isNone) from fun e w' h => ⟨h.2.1, by rw [hd, hXe]; simp only [Option.isNone_some, Bool.or_false]; exact h.2.2⟩)
    have HV := Lib.hid hV
    have hkl : 2 + L ≤ X.length := hs.2.2
    clear hb hr hB hV hXe hd hL hLn hs
    go_enter Try.func41, Try.ntmps41
    go_wp2_with fail
    go_at_call 65; refine HU.out.mono ?_; rintro e w1 ⟨rfl, rfl⟩
    go_wp2_with fail
    go_at_call 66; refine (pass_yes w b X lost (2 + L) H.out hkl).mono ?_; rintro e w1 h1
    have h2 := hP.out e w1 h1
    obtain rfl := h1.1
    clear h1
    go_wp2
    go_ret
    exact ⟨(congrArg (fun x => Ending.returned (.string x)) HV.out).symm, h2⟩
  · have hd : nameD X = none := by unfold nameD; rw [if_neg hs]
    have hV : nameV X = ⟨#[]⟩ := by unfold nameV; rw [hd]
    have hXe : nameX X = [] := by unfold nameX; rw [hd]
    have HU := Lib.hid (show Calls Try.prog 65 #[.slice p l c, .int .i64 32] w fun e w' => e = .returned (.tuple #[.string ⟨#[]⟩, .int .i64 0, .int .i64 20]) ∧ w = w' from by
      by_cases h2 : 2 ≤ X.length
      · obtain ⟨L, hL, hL16⟩ := len16 hX h2
        have hLn : (rdU (X.take 2)).toNat = L := by rw [hL]; rfl
        rw [hLn] at hs
        exact readText_no w p l c X L 32 hr hX (by omega) hL hL16 (by omega)
      · exact readText_short w p l c 32 hr.2.1 hr.2.2.1 (by omega))
    have hP := Lib.hid (show ∀ e w', PassP B w b [] true e w' → w.grownBy w' (some b) ∧ Rdr B w' b (nameX X) (lost || (nameD X).isNone) from fun e w' h => ⟨h.2.1, by rw [hd, hXe]; simp only [Option.isNone_none, Bool.or_true]; exact h.2.2⟩)
    have HV := Lib.hid hV
    clear hb hr hB hV hXe hd hs
    go_enter Try.func41, Try.ntmps41
    go_wp2_with fail
    go_at_call 65; refine HU.out.mono ?_; rintro e w1 ⟨rfl, rfl⟩
    go_wp2_with fail
    go_at_call 66; refine (pass_no w b X lost 0 H.out).mono ?_; rintro e w1 h1
    have h2 := hP.out e w1 h1
    obtain rfl := h1.1
    clear h1
    go_wp2
    go_ret
    exact ⟨(congrArg (fun x => Ending.returned (.string x)) HV.out).symm, h2⟩
end Num
end Go.Proofs.Ytomfgncbdgifoaa
/-
  package call's reader: an id.
-/
namespace Go.Proofs.Ytomfgncbdgifoaa
open Go.RowKit
namespace Num
open Ints
set_option linter.unusedSimpArgs false
set_option linter.unusedVariables false
/-- No byte. -/
def noB (v : Value) : Bool := match v with | .int .u8 _ => false | _ => true
theorem noB_at {cs : Array Value} (h : cs.toList.all noB = true) (i : Nat) (x : Int) : cs[i]? ≠ some (.int .u8 x) := by
  intro e
  rw [← Array.getElem?_toList] at e
  have := List.all_eq_true.1 h _ (List.mem_of_getElem? e)
  exact Bool.noConfusion (show false = true from this)
/-- A write to a block that holds no bytes leaves bytes as they are. -/
theorem rd_at {w w' : World} {b : Nat} {t : TypeId} {cs : Array Value} (hb : w.heap[b]? = some (.cells cs t (0, 0))) (hno : cs.toList.all noB = true) (hg : w.grownBy w' (some b)) {p : Option Addr} {l c : Nat} {X : List Int} (h : RdB w p l c X) : RdB w' p l c X := by
  obtain ⟨h1, h2, h3, h4, h5⟩ := h
  refine ⟨h1, h2, h3, fun hl => ?_, h5⟩
  obtain ⟨b', off, hp, hc⟩ := h4 hl
  refine ⟨b', off, hp, fun i hi => hg.cell (hc i hi) ?_⟩
  intro e
  injection e with e
  subst e
  have h0 := hc 0 (by omega)
  rw [row_cell hb] at h0
  exact noB_at hno _ _ h0
theorem rdr_at {B : Nat} {w w' : World} {b b2 : Nat} {t : TypeId} {cs : Array Value} {X : List Int} {lost : Bool} (h : Rdr B w b X lost) (hb : w.heap[b2]? = some (.cells cs t (0, 0))) (hno : cs.toList.all noB = true) (hne : b2 ≠ b) (hg : w.grownBy w' (some b2)) : Rdr B w' b X lost := by
  obtain ⟨p, l, c, h1, h2, h3⟩ := h
  exact ⟨p, l, c, row_grown h1 hg (fun e => hne (by injection e with e; exact e.symm)), rd_at hb hno hg h2, h3⟩
theorem rdr_keep {B : Nat} {w w' : World} {b : Nat} {X : List Int} {lost : Bool} (h : Rdr B w b X lost) (hb : Below w.heap.size w w') : Rdr B w' b X lost := by
  obtain ⟨p, l, c, h1, h2, h3⟩ := h
  exact ⟨p, l, c, row_step h1 hb, rd_keep hb h2, h3⟩
theorem rdr_lt {B : Nat} {w : World} {b : Nat} {X : List Int} {lost : Bool} (h : Rdr B w b X lost) : b < w.heap.size := by
  obtain ⟨p, l, c, h1, h2, h3⟩ := h
  exact row_lt h1
theorem row_set {w : World} {b i : Nat} {cs : Array Value} {t : TypeId} (h : w.heap[b]? = some (.cells cs t (0, 0))) (v : Value) : (w.setCell ⟨b, i, none⟩ v).heap[b]? = some (.cells (cs.setIfInBounds i v) t (0, 0)) := by
  simp [World.setCell, Array.getElem?_modify, h]
theorem row2_alloc (w : World) (o : Obj) (cs : Array Value) (t : TypeId) : ((w.alloc o).alloc (.cells cs t)).heap[w.heap.size + 1]? = some (.cells cs t (0, 0)) := by
  rw [← World.size_alloc w o]; exact row_alloc _ _ _
theorem grown_row {w w' : World} {b b2 : Nat} {o : Obj} (h : w.heap[b]? = some o) (hg : w.grownBy w' (some b2)) (hne : b ≠ b2) : w'.heap[b]? = some o := row_grown h hg (fun e => hne (by injection e))
theorem gb_alloc {w w1 : World} {r : Option Nat} (h : w.grownBy w1 r) (o : Obj) : w.grownBy (w1.alloc o) r := h.trans (World.grownBy_alloc _ o _)
theorem gb_set {w w1 : World} {r : Option Nat} (h : w.grownBy w1 r) {nb : Nat} (hn : w.heap.size ≤ nb) (o : Nat) (v : Value) : w.grownBy (w1.setCell ⟨nb, o, none⟩ v) r :=
  ⟨h.os, h.tape, h.output, by rw [World.size_setCell]; exact h.size, fun i hi hne => (Below.heap_setCell _ _ _ _ (show i ≠ nb by omega)).trans (h.block i hi hne)⟩
theorem gb_step {w w1 w2 : World} {r : Option Nat} (h : w.grownBy w1 r) (h2 : w1.grownBy w2 r) : w.grownBy w2 r := h.trans h2
theorem gb_bel {w w1 w2 : World} {r : Option Nat} (h : w.grownBy w1 r) (h2 : Below w1.heap.size w1 w2) : w.grownBy w2 r := h.trans ⟨h2.os, h2.tape, h2.output, h2.size, fun i hi _ => h2.block i hi⟩
/-- An id, as it is read. -/
def idV (X : List Int) : Int × Int × Int := (IntKind.u32.wrap (numV 4 X), IntKind.u32.wrap (numV 4 (X.drop 4)), IntKind.u16.wrap (numV 2 (X.drop 8)))
def idA (i : Int × Int × Int) : Value := .agg #[.int .u32 i.1, .int .u32 i.2.1, .int .u16 i.2.2]
def IdP (B : Nat) (w : World) (b : Nat) (X : List Int) (lost : Bool) (e : Ending) (w' : World) : Prop := e = .returned (idA (idV X)) ∧ w.grownBy w' (some b) ∧ Rdr B w' b (X.drop 10) (lost || decide (X.length < 10))
theorem id_eq {X : List Int} {n1 n2 n3 : Int} (h1 : numV 4 X = n1) (h2 : numV 4 (X.drop 4) = n2) (h3 : numV 2 ((X.drop 4).drop 4) = n3) : idA (IntKind.u32.wrap n1, IntKind.u32.wrap n2, IntKind.u16.wrap n3) = idA (idV X) := by
  rw [List.drop_drop] at h3
  unfold idV
  rw [h1, h2, h3]
theorem id_lost (X : List Int) (lost : Bool) : (((lost || decide (X.length < 4)) || decide ((X.drop 4).length < 4)) || decide (((X.drop 4).drop 4).length < 2)) = (lost || decide (X.length < 10)) := by
  simp only [List.length_drop]
  cases lost
  · simp only [Bool.false_or]
    by_cases h : X.length < 10
    · rw [decide_eq_true h]
      by_cases h4 : X.length < 4
      · rw [decide_eq_true h4]; rfl
      · by_cases h5 : X.length - 4 < 4
        · rw [decide_eq_true h5, Bool.or_true]; rfl
        · rw [decide_eq_true (show X.length - 4 - 4 < 2 by omega), Bool.or_true]
    · rw [decide_eq_false h, decide_eq_false (by omega), decide_eq_false (by omega), decide_eq_false (by omega)]; rfl
  · rfl
set_option maxHeartbeats 1000000 in
theorem id_any {B : Nat} (w : World) (b : Nat) (X : List Int) (lost : Bool) (h : Rdr B w b X lost) (hX : By X) : Calls Try.prog 40 #[.pointer (some ⟨b, 0, none⟩)] w (IdP B w b X lost) := by
  have hlt := rdr_lt h
  have HX := Lib.hid hX
  have HX4 := Lib.hid (by_drop hX 4)
  have HX8 := Lib.hid (show By ((X.drop 4).drop 4) from by_drop (by_drop hX 4) 4)
  have h0 : ∀ o1 o2 : Obj, Below w.heap.size w ((w.alloc o1).alloc o2) := fun o1 o2 => ((Below.refl _ _).alloc (Nat.le_refl _) _).alloc (by simp) _
  have H := Lib.hid (rdr_keep h (h0 (.cells #[.int .u32 0, .int .u32 0, .int .u16 0] 26) (.cells #[.int .u32 0, .int .u32 0, .int .u16 0] 26)))
  have HG := Lib.hid (gb_bel (World.grownBy.refl w (some b)) (h0 (.cells #[.int .u32 0, .int .u32 0, .int .u16 0] 26) (.cells #[.int .u32 0, .int .u32 0, .int .u16 0] 26)))
  have R1 := Lib.hid (row_alloc_step (row_alloc w #[.int .u32 0, .int .u32 0, .int .u16 0] 26) (.cells #[.int .u32 0, .int .u32 0, .int .u16 0] 26))
  have R2 := Lib.hid (row2_alloc w (.cells #[.int .u32 0, .int .u32 0, .int .u16 0] 26) #[.int .u32 0, .int .u32 0, .int .u16 0] 26)
  obtain ⟨n1, hn1⟩ : ∃ i, numV 4 X = i := ⟨_, rfl⟩
  obtain ⟨n2, hn2⟩ : ∃ i, numV 4 (X.drop 4) = i := ⟨_, rfl⟩
  obtain ⟨n3, hn3⟩ : ∃ i, numV 2 ((X.drop 4).drop 4) = i := ⟨_, rfl⟩
  have HN1 := Lib.hid hn1
  have HN2 := Lib.hid hn2
  have HN3 := Lib.hid hn3
  clear h hX h0 hn1 hn2 hn3
  go_enter Try.func40, Try.ntmps40
  go_wp2_with fail
  go_at_call 46; refine (number_any _ b 4 X lost H.out HX.out (by omega)).mono ?_; rintro e w1 ⟨rfl, hg1, hr1⟩
  rw [HN1.out]
  have HG1 := Lib.hid (HG.out.trans hg1)
  have hne1 : w.heap.size ≠ b := by omega
  have hne2 : w.heap.size + 1 ≠ b := by omega
  have k1 := row_grown R1.out hg1 (fun e => hne1 (by injection e))
  have k2 := row_grown R2.out hg1 (fun e => hne2 (by injection e))
  have c0 := row_cell k2 0; have c1 := row_cell k2 1; have c2 := row_cell k2 2
  have f2 := fun o => row_frz k2 o
  have H1 := Lib.hid (rdr_at hr1 k2 rfl hne2 (grown_set1 w1 (w.heap.size + 1) 0 (.int .u32 (IntKind.u32.wrap n1))))
  simp only [List.getElem?_toArray, List.getElem?_cons_zero, List.getElem?_cons_succ] at c0 c1 c2
  clear hr1 hg1
  go_wp2_with fail
  go_at_call 46; refine (number_any _ b 4 (X.drop 4) _ H1.out HX4.out (by omega)).mono ?_; rintro e w2 ⟨rfl, hg2, hr2⟩
  rw [HN2.out]
  have HG2 := Lib.hid ((gb_set HG1.out (show w.heap.size ≤ w.heap.size + 1 by omega) 0 (.int .u32 (IntKind.u32.wrap n1))).trans hg2)
  have k1' := row_grown (grown_row k1 (grown_set1 w1 (w.heap.size + 1) 0 (.int .u32 (IntKind.u32.wrap n1))) (by omega)) hg2 (fun e => hne1 (by injection e))
  have k2' := row_grown (row_set k2 (i := 0) (.int .u32 (IntKind.u32.wrap n1))) hg2 (fun e => hne2 (by injection e))
  clear k1 k2 c0 c1 c2 f2
  have c0 := row_cell k2' 0; have c1 := row_cell k2' 1; have c2 := row_cell k2' 2
  have f2 := fun o => row_frz k2' o
  have H2 := Lib.hid (rdr_at hr2 k2' rfl hne2 (grown_set1 w2 (w.heap.size + 1) 1 (.int .u32 (IntKind.u32.wrap n2))))
  simp only [Array.setIfInBounds, List.getElem?_toArray, List.getElem?_cons_zero, List.getElem?_cons_succ] at c0 c1 c2
  clear hr2 hg2
  go_wp2_with fail
  go_at_call 46; refine (number_any _ b 2 ((X.drop 4).drop 4) _ H2.out HX8.out (by omega)).mono ?_; rintro e w3 ⟨rfl, hg3, hr3⟩
  rw [HN3.out]
  have HG3 := Lib.hid ((gb_set HG2.out (show w.heap.size ≤ w.heap.size + 1 by omega) 1 (.int .u32 (IntKind.u32.wrap n2))).trans hg3)
  have k1 := row_grown (grown_row k1' (grown_set1 w2 (w.heap.size + 1) 1 (.int .u32 (IntKind.u32.wrap n2))) (by omega)) hg3 (fun e => hne1 (by injection e))
  have k2 := row_grown (row_set k2' (i := 1) (.int .u32 (IntKind.u32.wrap n2))) hg3 (fun e => hne2 (by injection e))
  clear k1' k2' c0 c1 c2 f2
  have c0 := row_cell k2 0; have c1 := row_cell k2 1; have c2 := row_cell k2 2
  have f2 := fun o => row_frz k2 o
  have d0 := row_cell k1 0; have d1 := row_cell k1 1; have d2 := row_cell k1 2
  have f1 := fun o => row_frz k1 o
  simp only [Array.setIfInBounds, List.getElem?_toArray, List.getElem?_cons_zero, List.getElem?_cons_succ] at c0 c1 c2 d0 d1 d2
  have H3 := Lib.hid hr3
  have K1 := Lib.hid k1
  have K2 := Lib.hid k2
  clear hr3 hg3 k1 k2
  go_wp2
  refine bodyPost_ret (v := .agg #[.int .u32 (n1 % 4294967296), .int .u32 (n2 % 4294967296), .int .u16 (IntKind.u16.wrap n3)]) (by simp [results, Try.results40, go_sem, World.cell?_setCell_same, World.cell?_setCell_other, d0, d1, d2]) rfl ?_
  refine ⟨by rw [← id_eq HN1.out HN2.out HN3.out]; rfl, gb_set (gb_set (gb_set (gb_set HG3.out (by omega) _ _) (by omega) _ _) (by omega) _ _) (by omega) _ _, ?_⟩
  have e1 := H3.out
  rw [id_lost, List.drop_drop, List.drop_drop] at e1
  have e2 := rdr_at e1 K2.out rfl hne2 (grown_set1 w3 (w.heap.size + 1) 2 (.int .u16 (IntKind.u16.wrap n3)))
  have r0 := grown_row K1.out (grown_set1 w3 (w.heap.size + 1) 2 (.int .u16 (IntKind.u16.wrap n3))) (by omega)
  have e3 := rdr_at e2 r0 rfl hne1 (grown_set1 _ w.heap.size 0 (.int .u32 (n1 % 4294967296)))
  have r1 := row_set r0 (i := 0) (.int .u32 (n1 % 4294967296))
  have e4 := rdr_at e3 r1 rfl hne1 (grown_set1 _ w.heap.size 1 (.int .u32 (n2 % 4294967296)))
  have r2 := row_set r1 (i := 1) (.int .u32 (n2 % 4294967296))
  exact rdr_at e4 r2 rfl hne1 (grown_set1 _ w.heap.size 2 (.int .u16 (IntKind.u16.wrap n3)))
end Num
end Go.Proofs.Ytomfgncbdgifoaa
/-
  What package wire reads: a value, a list, at any depth.
-/
namespace Go.Proofs.Ytomfgncbdgifoaa
open Go.RowKit
namespace Num
open Ints
set_option linter.unusedSimpArgs false
set_option linter.unusedVariables false
def Fail3 (e : Ending) : Prop := ∃ (K I : Int) (F : Nat) (S : ByteArray) (p : Option Addr) (l c : Nat) (m : Int), e = .returned (.tuple #[.agg #[.int .i64 K, .int .i64 I, .float .f64 F, .string S, .slice p l c], .int .i64 m, .bool false])
def RvPost (n : Nat) (X : List Int) (w : World) (e : Ending) (w' : World) : Prop := Below w.heap.size w w' ∧ (decV n X = none → Fail3 e) ∧ ∀ T j, decV n X = some (T, j) → ∃ v, e = .returned (.tuple #[v, .int .i64 (j : Int), .bool true]) ∧ RepS (fun b => w.heap.size ≤ b) w' n v T
def RlPost (n : Nat) (X : List Int) (w : World) (e : Ending) (w' : World) : Prop := Below w.heap.size w w' ∧ (decR (decV n) X = none → e = .returned (.tuple #[.slice none 0 0, .int .i64 0, .bool false])) ∧
  ∀ L j, decR (decV n) X = some (L, j) → ∃ p l c, e = .returned (.tuple #[.slice p l c, .int .i64 (j : Int), .bool true]) ∧ RepLS (fun b => w.heap.size ≤ b) w' (RepC w' n) p l c L
def RvAll (n : Nat) : Prop := ∀ (w : World) (p : Option Addr) (l c : Nat) (X : List Int), RdB w p l c X → By X → l ≤ n → l ≤ 100000 → Calls Try.prog 87 #[.slice p l c] w (RvPost n X w)
theorem ow_bel_l {W0 w : World} {n : Nat} {p : Option Addr} {l c : Nat} {L : List (VT n)} (h : OwL W0 w n p l c L) : Below W0.heap.size W0 w := by
  obtain ⟨_, _, _, h3, _⟩ := h
  exact h3
theorem rep_fresh {W0 wr w1 : World} {n : Nat} {p : Option Addr} {l c : Nat} {L : List (VT n)} (h : OwL W0 wr n p l c L) (hb : Below wr.heap.size wr w1) {v : Value} {T : VT n} (hr : RepS (fun b => wr.heap.size ≤ b) w1 n v T) (o : Obj) : RepC (w1.alloc o) n (fun b => Fr W0 (w1.alloc o) (.slice p l c) b ∧ wr.heap.size ≤ b) v T := by
  have hlt := ol_lt h
  obtain ⟨_, _, _, _, hle, _⟩ := h
  refine repC_mono n _ _ _ _ (fun b ⟨h1, h2⟩ => ⟨⟨by omega, by rw [World.size_alloc]; omega, fun e => ?_⟩, h1⟩) (repS_keep (fun b ⟨_, h2⟩ => Below.heap_alloc _ _ _ h2) n _ _ (repS_lt n _ _ hr))
  have := hlt b e
  omega
theorem ending_list {q : Option Addr} {s d : Nat} {x y : Int} (h : x = y) : Ending.returned (.tuple #[.slice q s d, .int .i64 x, .bool true]) = .returned (.tuple #[.slice q s d, .int .i64 y, .bool true]) := by rw [h]
def RlAll (n : Nat) : Prop := ∀ (w : World) (p : Option Addr) (l c : Nat) (X : List Int), RdB w p l c X → By X → l ≤ n + 1 → l ≤ 100000 → Calls Try.prog 96 #[.slice p l c] w (RlPost n X w)
set_option maxRecDepth 100000 in
set_option maxHeartbeats 2000000 in
theorem readList_empty (n : Nat) (w : World) (p : Option Addr) (c : Nat) (hc : c ≤ maxLen) : Calls Try.prog 96 #[.slice p 0 c] w (RlPost n [] w) := by
  have HU := Lib.hid (readU_no w p 0 c 1 (Nat.zero_le _) hc (by omega))
  clear hc
  go_enter Try.func96, Try.ntmps96
  go_wp2_with fail
  go_at_call 68; refine HU.out.mono ?_; rintro e w1 ⟨rfl, rfl⟩
  go_wp2
  go_ret3
  exact ⟨Below.refl _ _, fun _ => rfl, fun L j h => by cases h⟩
/-- How far a list is read. -/
def LAt (w wr : World) (n : Nat) (R : List Int) (k : Nat) (p : Option Addr) (l c : Nat) (j : Nat) : Prop := ∃ L : List (VT n), decL (decV n) k R = some (L, j) ∧ l = k ∧ OwL w wr n p l c L
set_option maxRecDepth 100000 in
set_option maxHeartbeats 400000 in
theorem readList_of (n : Nat) (IH : RvAll n) : RlAll n := by
  intro w p l c X hb hX hln hl
  cases X with
  | nil =>
    obtain rfl : l = 0 := hb.1.symm
    exact readList_empty n w p c hb.2.2.1
  | cons m R =>
    have hl1 : l = R.length + 1 := hb.1.symm
    obtain ⟨b, off, rfl⟩ := rd_full hb (by omega)
    have hm := hX m (List.mem_cons_self ..)
    have HU := Lib.hid (readU_all w _ l c (m :: R) 1 hb hX (by omega) (by omega))
    have HM := Lib.hid (show rdU ((m :: R).take 1) = m from rdU_one m hm.1 hm.2)
    have HB := Lib.hid hb
    have HX := Lib.hid (show By R from fun x hx => hX x (List.mem_cons_of_mem _ hx))
    have HIH := Lib.hid IH
    obtain ⟨M, rfl⟩ : ∃ M : Nat, m = (M : Int) := ⟨m.toNat, by omega⟩
    have hM : M < 256 := by omega
    have hlc := hb.2.1
    have hcm := hb.2.2.1
    unfold maxLen at hcm
    have HDn := Lib.hid (show decL (decV n) M R = none → decR (decV n) ((M : Int) :: R) = none from fun h => by rw [decR, Int.toNat_natCast, h])
    have HDs := Lib.hid (show ∀ L j, decL (decV n) M R = some (L, j) → decR (decV n) ((M : Int) :: R) = some (L, 1 + j) from fun L j h => by rw [decR, Int.toNat_natCast, h])
    have HL1 := Lib.hid hl1
    have hl1' : 1 ≤ l := by omega
    clear hb hX IH hm hl1
    go_enter Try.func96, Try.ntmps96
    go_wp2_with fail
    go_at_call 68; refine HU.out.mono ?_; rintro e w1 ⟨rfl, rfl⟩
    rw [HM.out]
    go_wp2
    go_loopw [7, 8, 20] (fun lv pos i wr => ∃ (k : Nat) (q : Option Addr) (s d j : Nat), k ≤ M ∧ i = .int .u64 (k : Int) ∧ pos = .int .i64 (1 + (j : Int)) ∧ lv = .slice q s d ∧ LAt w wr n R k q s d j) (fun _ _ i _ => M - (intOf i).toNat)
    case atStart => exact ⟨0, none, 0, 0, 0, Nat.zero_le _, rfl, rfl, rfl, [], rfl, rfl, ol_nil _ _ _ (Below.refl _ _) (Nat.le_refl _)⟩
    case round =>
      obtain ⟨k, q, s, d, j, hk, rfl, rfl, rfl, L, hdec, hsk, hol⟩ := hrel
      have hlen := HL1.out
      have hj := decL_le (decV_le n) _ _ _ _ hdec
      have hj1 : 1 + j ≤ l := by omega
      by_cases hlt : k < M
      · have hdrop : ((M : Int) :: R).drop (1 + j) = R.drop j := by rw [Nat.add_comm, List.drop_succ_cons]
        by_cases hce : c = 1 + j
        · obtain rfl : l = 1 + j := by omega
          have HRD := Lib.hid (show RdB wr (some ⟨b, off, none⟩) 0 0 (R.drop j) by rw [← hdrop]; exact rd_end (rd_keep (ow_bel_l hol) (by rw [← hce]; rw [hce]; have h := HB.out; rw [hce] at h; exact h)))
          subst hce
          clear hdrop
          cases hd : decV n (R.drop j) with
          | none =>
            have HN := Lib.hid (HDn.out (decL_none M (k + 1) (by rw [decL, hdec]; simp only [hd]) (by omega)))
            have HOL := Lib.hid hol
            have HDD := Lib.hid hd
            clear hdec hol hd hlen hj hsk
            go_wp2_with fail
            go_at_call 87; refine (HIH.out wr _ _ _ (R.drop j) HRD.out (by_drop HX.out j) (by omega) (by omega)).mono ?_; rintro e w1 ⟨hb1, hno, _⟩
            obtain ⟨K, I, F, S, q', l', c', m', rfl⟩ := hno HDD.out
            have HB1 := Lib.hid (bel_step (ow_bel_l HOL.out) hb1)
            clear hb1 hno
            go_wp2
            go_ret3
            exact ⟨bel_alloc HB1.out _, fun _ => rfl, fun L' j' h' => by rw [HN.out] at h'; cases h'⟩
          | some TJ =>
            obtain ⟨T, j1⟩ := TJ
            have hj2 := decV_le n _ _ _ hd
            rw [List.length_drop] at hj2
            omega
        · have HRD := Lib.hid (show RdB wr (some ⟨b, off + (1 + j), none⟩) (l - (1 + j)) (c - (1 + j)) (R.drop j) by rw [← hdrop]; exact rd_from (rd_keep (ow_bel_l hol) HB.out) hj1 hce)
          clear hdrop
          cases hd : decV n (R.drop j) with
          | none =>
            have HN := Lib.hid (HDn.out (decL_none M (k + 1) (by rw [decL, hdec]; simp only [hd]) (by omega)))
            have HOL := Lib.hid hol
            have HDD := Lib.hid hd
            clear hdec hol hd hlen hj hsk
            go_wp2_with fail
            go_at_call 87; refine (HIH.out wr _ _ _ (R.drop j) HRD.out (by_drop HX.out j) (by omega) (by omega)).mono ?_; rintro e w1 ⟨hb1, hno, _⟩
            obtain ⟨K, I, F, S, q', l', c', m', rfl⟩ := hno HDD.out
            have HB1 := Lib.hid (bel_step (ow_bel_l HOL.out) hb1)
            clear hb1 hno
            go_wp2
            go_ret3
            exact ⟨bel_alloc HB1.out _, fun _ => rfl, fun L' j' h' => by rw [HN.out] at h'; cases h'⟩
          | some TJ =>
            obtain ⟨T, j1⟩ := TJ
            have hj2 := decV_le n _ _ _ hd
            rw [List.length_drop] at hj2
            have hj3 : j + j1 ≤ 100000 := by omega
            have hj4 : 1 + (j + j1) ≤ l := by omega
            have hs6 : s ≤ 1000 := by omega
            have HDC := Lib.hid (show decL (decV n) (k + 1) R = some (L ++ [T], j + j1) by rw [decL, hdec]; simp only [hd])
            have HOL := Lib.hid hol
            have HDD := Lib.hid hd
            have HSK := Lib.hid hsk
            clear hdec hol hd hlen hj hj2 hsk
            go_wp2_with fail
            go_at_call 87; refine (HIH.out wr _ _ _ (R.drop j) HRD.out (by_drop HX.out j) (by omega) (by omega)).mono ?_; rintro e w1 ⟨hb1, _, hyes⟩
            obtain ⟨v, rfl, hrep⟩ := hyes T j1 HDD.out
            obtain ⟨K, I, F, S, q', l', c', rfl, _⟩ := repS_shape hrep
            have HOL1 := Lib.hid (om_keep (om_keep HOL.out hb1) ((Below.refl w1.heap.size w1).alloc (Nat.le_refl _) (.cells #[.int .i64 K, .int .i64 I, .float .f64 F, .string S, .slice q' l' c'] 47)))
            have HREP := Lib.hid (rep_fresh HOL.out hb1 hrep (.cells #[.int .i64 K, .int .i64 I, .float .f64 F, .string S, .slice q' l' c'] 47))
            clear hb1 hyes hrep
            go_wp2_with (at_builtin; refine wp_ov1 rfl (.tmp 32) (.tmp 34) rfl wr.heap.size w _ n q s d L _ _ _ _ _ T rfl (congrArg (fun z => Value.slice (some ⟨z, 0, none⟩) 1 1) (World.size_alloc w1 (.cells #[.int .i64 K, .int .i64 I, .float .f64 F, .string S, .slice q' l' c'] 47)).symm) HOL1.out (by omega) HREP.out ?_; intro p2 c2 w2 ho2)
            have HO2 := Lib.hid ho2
            clear ho2
            go_roundw
            case rel => exact ⟨k + 1, p2, s + 1, c2, j + j1, by omega, by go_num, by go_num, rfl, L ++ [T], HDC.out, by rw [HSK.out], HO2.out⟩
            case measure => simp [intOf]; omega
      · obtain rfl : k = M := by omega
        have HOL := Lib.hid (ol_rep hol)
        have HBW := Lib.hid (ow_bel_l hol)
        have HDC := Lib.hid (HDs.out L j hdec)
        have hs6 : s ≤ 1000 := by omega
        clear hdec hol hlen hj hsk
        go_wp2
        go_ret3
        refine ⟨HBW.out, fun h' => ?_, fun L' j' h' => ?_⟩
        · rw [HDC.out] at h'; cases h'
        · rw [HDC.out] at h'; cases h'
          exact ⟨q, s, d, ending_list (by omega), HOL.out⟩
end Num
end Go.Proofs.Ytomfgncbdgifoaa
/-
  What package wire reads: a value by its kind; all together.
-/
namespace Go.Proofs.Ytomfgncbdgifoaa
open Go.RowKit
namespace Num
open Ints
set_option linter.unusedSimpArgs false
set_option linter.unusedVariables false
theorem u64_of {X : List Int} (hX : By X) (hl : X.length ≤ 8) : ∃ B : Nat, rdU X = (B : Int) ∧ B < 18446744073709551616 := by
  obtain ⟨h0, h1⟩ := rdU_pow X X.length hl rfl hX
  have hp : (256 : Int) ^ X.length ≤ 256 ^ 8 := by
    have : X.length = 0 ∨ X.length = 1 ∨ X.length = 2 ∨ X.length = 3 ∨ X.length = 4 ∨ X.length = 5 ∨ X.length = 6 ∨ X.length = 7 ∨ X.length = 8 := by omega
    rcases this with h | h | h | h | h | h | h | h | h <;> rw [h] <;> decide
  have hp8 : (256 : Int) ^ 8 = 18446744073709551616 := by decide
  exact ⟨(rdU X).toNat, by omega, by omega⟩
theorem fail_mk (K I : Int) (F : Nat) (S : ByteArray) (p : Option Addr) (l c : Nat) (m : Int) : Fail3 (.returned (.tuple #[.agg #[.int .i64 K, .int .i64 I, .float .f64 F, .string S, .slice p l c], .int .i64 m, .bool false])) := ⟨K, I, F, S, p, l, c, m, rfl⟩
theorem rv_none {n : Nat} {X : List Int} {w w' : World} {e : Ending} (hb : Below w.heap.size w w') (hd : decV n X = none) (hf : Fail3 e) : RvPost n X w e w' := ⟨hb, fun _ => hf, fun T j h => by rw [hd] at h; cases h⟩
theorem rv_some {n : Nat} {X : List Int} {w w' : World} {e : Ending} {T : VT n} {j : Nat} {v : Value} (hb : Below w.heap.size w w') (hd : decV n X = some (T, j)) (he : e = .returned (.tuple #[v, .int .i64 (j : Int), .bool true])) (hr : RepS (fun b => w.heap.size ≤ b) w' n v T) : RvPost n X w e w' :=
  ⟨hb, fun h => (by rw [hd] at h; cases h), fun T' j' h => by rw [hd] at h; cases h; exact ⟨v, he, hr⟩⟩
theorem repS_leaf (S : Nat → Prop) (w : World) (n : Nat) (K I : Int) (x : Nat) (s : ByteArray) (hK : okI K) (hI : okI I) (hx : x < 2 ^ 64) (hs : s.size ≤ maxLen) : RepS S w (n + 1) (.agg #[.int .i64 K, .int .i64 I, .float .f64 x, .string s, .slice none 0 0]) (K, I, x, s, []) :=
  ⟨none, 0, 0, rfl, hK, hI, hx, hs, rfl, Nat.le_refl _, Nat.zero_le _, fun h => absurd h (Nat.lt_irrefl _)⟩
theorem ok_wrap64 (x : Int) : okI (wrap64 x) := by unfold okI wrap64; omega
/-- What a box that the call lays first leaves as it was. -/
theorem bel_box {w w' : World} (o : Obj) (hb : Below (w.alloc o).heap.size (w.alloc o) w') : Below w.heap.size w w' := bel_step ((Below.refl _ _).alloc (Nat.le_refl _) _) hb
theorem bel_set5 {w w' : World} {b : Nat} (h : Below w.heap.size w w') (hb : w.heap.size ≤ b) (v0 v1 v2 v3 v4 : Value) : Below w.heap.size w (((((w'.setCell ⟨b, 0, none⟩ v0).setCell ⟨b, 1, none⟩ v1).setCell ⟨b, 2, none⟩ v2).setCell ⟨b, 3, none⟩ v3).setCell ⟨b, 4, none⟩ v4) := below5 h hb v0 v1 v2 v3 v4
theorem rd_parts {w : World} {b off l c : Nat} {k : Int} {R : List Int} (h : RdB w (some ⟨b, off, none⟩) l c (k :: R)) : R.length + 1 = l ∧ l ≤ c ∧ c ≤ 9223372036854775807 := by
  obtain ⟨h1, h2, h3, _⟩ := h
  unfold maxLen at h3
  exact ⟨h1, h2, by omega⟩
set_option maxRecDepth 100000 in
set_option maxHeartbeats 2000000 in
theorem rv_empty (n : Nat) (w : World) (p : Option Addr) (c : Nat) (hc : c ≤ maxLen) : Calls Try.prog 87 #[.slice p 0 c] w (RvPost n [] w) := by
  have HU := Lib.hid (fun w => readU_no w p 0 c 1 (Nat.zero_le _) hc (by omega))
  have HN := Lib.hid (show decV n [] = none by cases n <;> rfl)
  clear hc
  go_enter Try.func87, Try.ntmps87
  go_wp2_with fail
  go_at_call 68; refine (HU.out _).mono ?_; rintro e w1 ⟨rfl, rfl⟩
  go_wp2
  exact bodyPost_ret (v := .tuple #[.agg #[.int .i64 0, .int .i64 0, .float .f64 0, .string ⟨#[]⟩, .slice none 0 0], .int .i64 0, .bool false]) (by simp [results, Try.results87, go_sem]) rfl (rv_none (bel_alloc (Below.refl _ _) _) HN.out (fail_mk _ _ _ _ _ _ _ _))
set_option maxRecDepth 100000 in
set_option maxHeartbeats 4000000 in
theorem rv_k0 (n : Nat) (w : World) (b off l c : Nat) (R : List Int) (hb : RdB w (some ⟨b, off, none⟩) l c (0 :: R)) (hX : By (0 :: R)) (hl : l ≤ 100000) : Calls Try.prog 87 #[.slice (some ⟨b, off, none⟩) l c] w (RvPost (n + 1) (0 :: R) w) := by
  obtain ⟨hR, hlc, hcm⟩ := rd_parts hb
  have HU := Lib.hid (fun w' (h : RdB w' (some ⟨b, off, none⟩) l c (0 :: R)) => readU_all w' _ l c (0 :: R) 1 h hX (by omega) (by omega))
  have HM := Lib.hid (show rdU ((0 :: R).take 1) = 0 from rdU_one 0 (hX 0 (List.mem_cons_self ..)).1 (hX 0 (List.mem_cons_self ..)).2)
  have HB := Lib.hid (rd_keep ((Below.refl w.heap.size w).alloc (Nat.le_refl _) (.cells #[.int .i64 0, .int .i64 0, .float .f64 0, .string ⟨#[]⟩, .slice none 0 0] 47)) hb)
  have HX := Lib.hid (show By R from fun x hx => hX x (List.mem_cons_of_mem _ hx))
  have hR1 : R.length + 1 ≤ l := by omega
  have hR2 : l ≤ R.length + 1 := by omega
  have HN := Lib.hid (show decV (n + 1) (0 :: R) = some ((0, 0, 0, ⟨#[]⟩, []), 1) by rw [decV, if_pos (by decide)])
  by_cases hc1 : c = 1
  · obtain rfl : l = 1 := by omega
    subst hc1
    have HRD := Lib.hid (show RdB (w.alloc (.cells #[.int .i64 0, .int .i64 0, .float .f64 0, .string ⟨#[]⟩, .slice none 0 0] 47)) (some ⟨b, off, none⟩) 0 0 R from rd_end HB.out)
    have hR0 : R.length ≤ 0 := by omega
    clear hb hX hR
    go_enter Try.func87, Try.ntmps87
    go_wp2_with fail
    go_at_call 68; refine (HU.out _ HB.out).mono ?_; rintro e w1 ⟨rfl, rfl⟩
    rw [HM.out]
    go_wp2
    exact bodyPost_ret (v := .tuple #[.agg #[.int .i64 0, .int .i64 0, .float .f64 0, .string ⟨#[]⟩, .slice none 0 0], .int .i64 1, .bool true]) (by simp [results, Try.results87, go_sem]) rfl (rv_some (bel_alloc (Below.refl _ _) _) HN.out rfl (repS_leaf _ _ n 0 0 0 ⟨#[]⟩ (by decide) (by decide) (by decide) (by decide)))
  · have HRD := Lib.hid (show RdB (w.alloc (.cells #[.int .i64 0, .int .i64 0, .float .f64 0, .string ⟨#[]⟩, .slice none 0 0] 47)) (some ⟨b, off + 1, none⟩) (l - 1) (c - 1) R from rd_from (k := 1) HB.out (by omega) hc1)
    clear hb hX hR
    go_enter Try.func87, Try.ntmps87
    go_wp2_with fail
    go_at_call 68; refine (HU.out _ HB.out).mono ?_; rintro e w1 ⟨rfl, rfl⟩
    rw [HM.out]
    go_wp2
    exact bodyPost_ret (v := .tuple #[.agg #[.int .i64 0, .int .i64 0, .float .f64 0, .string ⟨#[]⟩, .slice none 0 0], .int .i64 1, .bool true]) (by simp [results, Try.results87, go_sem]) rfl (rv_some (bel_alloc (Below.refl _ _) _) HN.out rfl (repS_leaf _ _ n 0 0 0 ⟨#[]⟩ (by decide) (by decide) (by decide) (by decide)))
set_option maxRecDepth 100000 in
set_option maxHeartbeats 4000000 in
theorem rv_k1 (n : Nat) (w : World) (b off l c : Nat) (R : List Int) (hb : RdB w (some ⟨b, off, none⟩) l c (1 :: R)) (hX : By (1 :: R)) (hl : l ≤ 100000) (h8 : 8 ≤ R.length) : Calls Try.prog 87 #[.slice (some ⟨b, off, none⟩) l c] w (RvPost (n + 1) (1 :: R) w) := by
  obtain ⟨hR, hlc, hcm⟩ := rd_parts hb
  have HU := Lib.hid (fun w' (h : RdB w' (some ⟨b, off, none⟩) l c (1 :: R)) => readU_all w' _ l c (1 :: R) 1 h hX (by omega) (by omega))
  have HM := Lib.hid (show rdU ((1 :: R).take 1) = 1 from rdU_one 1 (hX 1 (List.mem_cons_self ..)).1 (hX 1 (List.mem_cons_self ..)).2)
  have HB := Lib.hid (rd_keep ((Below.refl w.heap.size w).alloc (Nat.le_refl _) (.cells #[.int .i64 0, .int .i64 0, .float .f64 0, .string ⟨#[]⟩, .slice none 0 0] 47)) hb)
  have HX := Lib.hid (show By R from fun x hx => hX x (List.mem_cons_of_mem _ hx))
  have hR1 : R.length + 1 ≤ l := by omega
  have hR2 : l ≤ R.length + 1 := by omega
  obtain ⟨B, hB, hB64⟩ := u64_of (X := R.take 8) (by_take HX.out 8) (by rw [List.length_take]; omega)
  have HB8 := Lib.hid hB
  have HN := Lib.hid (show decV (n + 1) (1 :: R) = some ((1, wrap64 (B : Int), 0, ⟨#[]⟩, []), 9) by rw [decV, if_neg (by decide), if_pos (by decide), if_pos h8, hB])
  clear hB
  have hc1 : c ≠ 1 := by omega
  have HRD := Lib.hid (show RdB (w.alloc (.cells #[.int .i64 0, .int .i64 0, .float .f64 0, .string ⟨#[]⟩, .slice none 0 0] 47)) (some ⟨b, off + 1, none⟩) (l - 1) (c - 1) R from rd_from (k := 1) HB.out (by omega) hc1)
  clear hb hX hR
  go_enter Try.func87, Try.ntmps87
  go_wp2_with fail
  go_at_call 68; refine (HU.out _ HB.out).mono ?_; rintro e w1 ⟨rfl, rfl⟩
  rw [HM.out]
  go_wp2_with fail
  go_at_call 68; refine (readU_all _ _ _ _ R 8 HRD.out HX.out (by omega) (by omega)).mono ?_; rintro e w2 ⟨rfl, rfl⟩
  rw [HB8.out]
  go_wp2
  exact bodyPost_ret (v := .tuple #[.agg #[.int .i64 1, .int .i64 (wrap64 (B : Int)), .float .f64 0, .string ⟨#[]⟩, .slice none 0 0], .int .i64 9, .bool true]) (by simp [results, Try.results87, go_sem]) rfl (rv_some (bel_alloc (Below.refl _ _) _) HN.out rfl (repS_leaf _ _ n 1 _ 0 ⟨#[]⟩ (by decide) (ok_wrap64 _) (by decide) (by decide)))
set_option maxRecDepth 100000 in
set_option maxHeartbeats 4000000 in
theorem rv_k1n (n : Nat) (w : World) (b off l c : Nat) (R : List Int) (hb : RdB w (some ⟨b, off, none⟩) l c (1 :: R)) (hX : By (1 :: R)) (hl : l ≤ 100000) (h8 : ¬ 8 ≤ R.length) : Calls Try.prog 87 #[.slice (some ⟨b, off, none⟩) l c] w (RvPost (n + 1) (1 :: R) w) := by
  obtain ⟨hR, hlc, hcm⟩ := rd_parts hb
  have HU := Lib.hid (fun w' (h : RdB w' (some ⟨b, off, none⟩) l c (1 :: R)) => readU_all w' _ l c (1 :: R) 1 h hX (by omega) (by omega))
  have HM := Lib.hid (show rdU ((1 :: R).take 1) = 1 from rdU_one 1 (hX 1 (List.mem_cons_self ..)).1 (hX 1 (List.mem_cons_self ..)).2)
  have HB := Lib.hid (rd_keep ((Below.refl w.heap.size w).alloc (Nat.le_refl _) (.cells #[.int .i64 0, .int .i64 0, .float .f64 0, .string ⟨#[]⟩, .slice none 0 0] 47)) hb)
  have HX := Lib.hid (show By R from fun x hx => hX x (List.mem_cons_of_mem _ hx))
  have hR1 : R.length + 1 ≤ l := by omega
  have hR2 : l ≤ R.length + 1 := by omega
  have HN := Lib.hid (show decV (n + 1) (1 :: R) = none by rw [decV, if_neg (by decide), if_pos (by decide), if_neg h8])
  by_cases hc1 : c = 1
  · obtain rfl : l = 1 := by omega
    subst hc1
    have HRD := Lib.hid (show RdB (w.alloc (.cells #[.int .i64 0, .int .i64 0, .float .f64 0, .string ⟨#[]⟩, .slice none 0 0] 47)) (some ⟨b, off, none⟩) 0 0 R from rd_end HB.out)
    have hR0 : R.length ≤ 0 := by omega
    clear hb hX hR
    go_enter Try.func87, Try.ntmps87
    go_wp2_with fail
    go_at_call 68; refine (HU.out _ HB.out).mono ?_; rintro e w1 ⟨rfl, rfl⟩
    rw [HM.out]
    go_wp2_with fail
    go_at_call 68; refine (readU_no _ _ 0 0 8 (by omega) (by unfold maxLen; omega) (by omega)).mono ?_; rintro e w2 ⟨rfl, rfl⟩
    go_wp2
    exact bodyPost_ret (v := .tuple #[.agg #[.int .i64 1, .int .i64 0, .float .f64 0, .string ⟨#[]⟩, .slice none 0 0], .int .i64 9, .bool false]) (by simp [results, Try.results87, go_sem]) rfl (rv_none (bel_alloc (Below.refl _ _) _) HN.out (fail_mk _ _ _ _ _ _ _ _))
  · have HRD := Lib.hid (show RdB (w.alloc (.cells #[.int .i64 0, .int .i64 0, .float .f64 0, .string ⟨#[]⟩, .slice none 0 0] 47)) (some ⟨b, off + 1, none⟩) (l - 1) (c - 1) R from rd_from (k := 1) HB.out (by omega) hc1)
    clear hb hX hR
    go_enter Try.func87, Try.ntmps87
    go_wp2_with fail
    go_at_call 68; refine (HU.out _ HB.out).mono ?_; rintro e w1 ⟨rfl, rfl⟩
    rw [HM.out]
    go_wp2_with fail
    go_at_call 68; refine (readU_no _ _ (l - 1) (c - 1) 8 (by omega) (by unfold maxLen; omega) (by omega)).mono ?_; rintro e w2 ⟨rfl, rfl⟩
    go_wp2
    exact bodyPost_ret (v := .tuple #[.agg #[.int .i64 1, .int .i64 0, .float .f64 0, .string ⟨#[]⟩, .slice none 0 0], .int .i64 9, .bool false]) (by simp [results, Try.results87, go_sem]) rfl (rv_none (bel_alloc (Below.refl _ _) _) HN.out (fail_mk _ _ _ _ _ _ _ _))
set_option maxRecDepth 100000 in
set_option maxHeartbeats 4000000 in
theorem rv_k2 (n : Nat) (w : World) (b off l c : Nat) (R : List Int) (hb : RdB w (some ⟨b, off, none⟩) l c (2 :: R)) (hX : By (2 :: R)) (hl : l ≤ 100000) (h8 : 8 ≤ R.length) (hq : Flo.canon (rdU (R.take 8)).toNat = (rdU (R.take 8)).toNat) : Calls Try.prog 87 #[.slice (some ⟨b, off, none⟩) l c] w (RvPost (n + 1) (2 :: R) w) := by
  obtain ⟨hR, hlc, hcm⟩ := rd_parts hb
  have HU := Lib.hid (fun w' (h : RdB w' (some ⟨b, off, none⟩) l c (2 :: R)) => readU_all w' _ l c (2 :: R) 1 h hX (by omega) (by omega))
  have HM := Lib.hid (show rdU ((2 :: R).take 1) = 2 from rdU_one 2 (hX 2 (List.mem_cons_self ..)).1 (hX 2 (List.mem_cons_self ..)).2)
  have HB := Lib.hid (rd_keep ((Below.refl w.heap.size w).alloc (Nat.le_refl _) (.cells #[.int .i64 0, .int .i64 0, .float .f64 0, .string ⟨#[]⟩, .slice none 0 0] 47)) hb)
  have HX := Lib.hid (show By R from fun x hx => hX x (List.mem_cons_of_mem _ hx))
  have hR1 : R.length + 1 ≤ l := by omega
  have hR2 : l ≤ R.length + 1 := by omega
  obtain ⟨B, hB, hB64⟩ := u64_of (X := R.take 8) (by_take HX.out 8) (by rw [List.length_take]; omega)
  have HB8 := Lib.hid hB
  rw [hB] at hq
  rw [Int.toNat_natCast] at hq
  have HN := Lib.hid (show decV (n + 1) (2 :: R) = some ((2, 0, B, ⟨#[]⟩, []), 9) by rw [decV, if_neg (by decide), if_neg (by decide), if_pos (by decide), hB, Int.toNat_natCast, if_pos ⟨h8, hq⟩])
  have HQ := Lib.hid (show ((Flo.canon B : Int) == (B : Int)) = true by rw [hq]; simp)
  have HF := Lib.hid (show ∀ w p l c, RdB w p l c R → 8 ≤ l → Calls Try.prog 95 #[.slice p l c] w fun e w' => e = .returned (.tuple #[.float .f64 B, .bool true]) ∧ w = w' from fun w p l c h h8 => readFloat_full w p l c R B true h HX.out h8 hB hB64 HQ.out)
  clear hB hq
  have hc1 : c ≠ 1 := by omega
  have HRD := Lib.hid (show RdB (w.alloc (.cells #[.int .i64 0, .int .i64 0, .float .f64 0, .string ⟨#[]⟩, .slice none 0 0] 47)) (some ⟨b, off + 1, none⟩) (l - 1) (c - 1) R from rd_from (k := 1) HB.out (by omega) hc1)
  clear hb hX hR
  go_enter Try.func87, Try.ntmps87
  go_wp2_with fail
  go_at_call 68; refine (HU.out _ HB.out).mono ?_; rintro e w1 ⟨rfl, rfl⟩
  rw [HM.out]
  go_wp2_with fail
  go_at_call 95; refine (HF.out _ _ _ _ HRD.out (by omega)).mono ?_; rintro e w2 ⟨rfl, rfl⟩
  go_wp2
  exact bodyPost_ret (v := .tuple #[.agg #[.int .i64 2, .int .i64 0, .float .f64 B, .string ⟨#[]⟩, .slice none 0 0], .int .i64 9, .bool true]) (by simp [results, Try.results87, go_sem]) rfl (rv_some (bel_alloc (Below.refl _ _) _) HN.out rfl (repS_leaf _ _ n 2 0 B ⟨#[]⟩ (by decide) (by decide) hB64 (by decide)))
set_option maxRecDepth 100000 in
set_option maxHeartbeats 4000000 in
theorem rv_k2b (n : Nat) (w : World) (b off l c : Nat) (R : List Int) (hb : RdB w (some ⟨b, off, none⟩) l c (2 :: R)) (hX : By (2 :: R)) (hl : l ≤ 100000) (h8 : 8 ≤ R.length) (hq : ¬ Flo.canon (rdU (R.take 8)).toNat = (rdU (R.take 8)).toNat) : Calls Try.prog 87 #[.slice (some ⟨b, off, none⟩) l c] w (RvPost (n + 1) (2 :: R) w) := by
  obtain ⟨hR, hlc, hcm⟩ := rd_parts hb
  have HU := Lib.hid (fun w' (h : RdB w' (some ⟨b, off, none⟩) l c (2 :: R)) => readU_all w' _ l c (2 :: R) 1 h hX (by omega) (by omega))
  have HM := Lib.hid (show rdU ((2 :: R).take 1) = 2 from rdU_one 2 (hX 2 (List.mem_cons_self ..)).1 (hX 2 (List.mem_cons_self ..)).2)
  have HB := Lib.hid (rd_keep ((Below.refl w.heap.size w).alloc (Nat.le_refl _) (.cells #[.int .i64 0, .int .i64 0, .float .f64 0, .string ⟨#[]⟩, .slice none 0 0] 47)) hb)
  have HX := Lib.hid (show By R from fun x hx => hX x (List.mem_cons_of_mem _ hx))
  have hR1 : R.length + 1 ≤ l := by omega
  have hR2 : l ≤ R.length + 1 := by omega
  obtain ⟨B, hB, hB64⟩ := u64_of (X := R.take 8) (by_take HX.out 8) (by rw [List.length_take]; omega)
  have HB8 := Lib.hid hB
  rw [hB] at hq
  rw [Int.toNat_natCast] at hq
  have HN := Lib.hid (show decV (n + 1) (2 :: R) = none by rw [decV, if_neg (by decide), if_neg (by decide), if_pos (by decide), hB, Int.toNat_natCast, if_neg (fun h => hq h.2)])
  have HQ := Lib.hid (show ((Flo.canon B : Int) == (B : Int)) = false by simp; omega)
  have HF := Lib.hid (show ∀ w p l c, RdB w p l c R → 8 ≤ l → Calls Try.prog 95 #[.slice p l c] w fun e w' => e = .returned (.tuple #[.float .f64 B, .bool false]) ∧ w = w' from fun w p l c h h8 => readFloat_full w p l c R B false h HX.out h8 hB hB64 HQ.out)
  clear hB hq
  have hc1 : c ≠ 1 := by omega
  have HRD := Lib.hid (show RdB (w.alloc (.cells #[.int .i64 0, .int .i64 0, .float .f64 0, .string ⟨#[]⟩, .slice none 0 0] 47)) (some ⟨b, off + 1, none⟩) (l - 1) (c - 1) R from rd_from (k := 1) HB.out (by omega) hc1)
  clear hb hX hR
  go_enter Try.func87, Try.ntmps87
  go_wp2_with fail
  go_at_call 68; refine (HU.out _ HB.out).mono ?_; rintro e w1 ⟨rfl, rfl⟩
  rw [HM.out]
  go_wp2_with fail
  go_at_call 95; refine (HF.out _ _ _ _ HRD.out (by omega)).mono ?_; rintro e w2 ⟨rfl, rfl⟩
  go_wp2
  exact bodyPost_ret (v := .tuple #[.agg #[.int .i64 2, .int .i64 0, .float .f64 B, .string ⟨#[]⟩, .slice none 0 0], .int .i64 9, .bool false]) (by simp [results, Try.results87, go_sem]) rfl (rv_none (bel_alloc (Below.refl _ _) _) HN.out (fail_mk _ _ _ _ _ _ _ _))
set_option maxRecDepth 100000 in
set_option maxHeartbeats 4000000 in
theorem rv_k2n (n : Nat) (w : World) (b off l c : Nat) (R : List Int) (hb : RdB w (some ⟨b, off, none⟩) l c (2 :: R)) (hX : By (2 :: R)) (hl : l ≤ 100000) (h8 : ¬ 8 ≤ R.length) : Calls Try.prog 87 #[.slice (some ⟨b, off, none⟩) l c] w (RvPost (n + 1) (2 :: R) w) := by
  obtain ⟨hR, hlc, hcm⟩ := rd_parts hb
  have HU := Lib.hid (fun w' (h : RdB w' (some ⟨b, off, none⟩) l c (2 :: R)) => readU_all w' _ l c (2 :: R) 1 h hX (by omega) (by omega))
  have HM := Lib.hid (show rdU ((2 :: R).take 1) = 2 from rdU_one 2 (hX 2 (List.mem_cons_self ..)).1 (hX 2 (List.mem_cons_self ..)).2)
  have HB := Lib.hid (rd_keep ((Below.refl w.heap.size w).alloc (Nat.le_refl _) (.cells #[.int .i64 0, .int .i64 0, .float .f64 0, .string ⟨#[]⟩, .slice none 0 0] 47)) hb)
  have HX := Lib.hid (show By R from fun x hx => hX x (List.mem_cons_of_mem _ hx))
  have hR1 : R.length + 1 ≤ l := by omega
  have hR2 : l ≤ R.length + 1 := by omega
  have HN := Lib.hid (show decV (n + 1) (2 :: R) = none by rw [decV, if_neg (by decide), if_neg (by decide), if_pos (by decide), if_neg (fun h => h8 h.1)])
  by_cases hc1 : c = 1
  · obtain rfl : l = 1 := by omega
    subst hc1
    have HRD := Lib.hid (show RdB (w.alloc (.cells #[.int .i64 0, .int .i64 0, .float .f64 0, .string ⟨#[]⟩, .slice none 0 0] 47)) (some ⟨b, off, none⟩) 0 0 R from rd_end HB.out)
    have hR0 : R.length ≤ 0 := by omega
    clear hb hX hR
    go_enter Try.func87, Try.ntmps87
    go_wp2_with fail
    go_at_call 68; refine (HU.out _ HB.out).mono ?_; rintro e w1 ⟨rfl, rfl⟩
    rw [HM.out]
    go_wp2_with fail
    go_at_call 95; refine (readFloat_short _ _ 0 0 (by omega) (by unfold maxLen; omega) (by omega)).mono ?_; rintro e w2 ⟨rfl, rfl⟩
    go_wp2
    exact bodyPost_ret (v := .tuple #[.agg #[.int .i64 2, .int .i64 0, .float .f64 0, .string ⟨#[]⟩, .slice none 0 0], .int .i64 9, .bool false]) (by simp [results, Try.results87, go_sem]) rfl (rv_none (bel_alloc (Below.refl _ _) _) HN.out (fail_mk _ _ _ _ _ _ _ _))
  · have HRD := Lib.hid (show RdB (w.alloc (.cells #[.int .i64 0, .int .i64 0, .float .f64 0, .string ⟨#[]⟩, .slice none 0 0] 47)) (some ⟨b, off + 1, none⟩) (l - 1) (c - 1) R from rd_from (k := 1) HB.out (by omega) hc1)
    clear hb hX hR
    go_enter Try.func87, Try.ntmps87
    go_wp2_with fail
    go_at_call 68; refine (HU.out _ HB.out).mono ?_; rintro e w1 ⟨rfl, rfl⟩
    rw [HM.out]
    go_wp2_with fail
    go_at_call 95; refine (readFloat_short _ _ (l - 1) (c - 1) (by omega) (by unfold maxLen; omega) (by omega)).mono ?_; rintro e w2 ⟨rfl, rfl⟩
    go_wp2
    exact bodyPost_ret (v := .tuple #[.agg #[.int .i64 2, .int .i64 0, .float .f64 0, .string ⟨#[]⟩, .slice none 0 0], .int .i64 9, .bool false]) (by simp [results, Try.results87, go_sem]) rfl (rv_none (bel_alloc (Below.refl _ _) _) HN.out (fail_mk _ _ _ _ _ _ _ _))
set_option maxRecDepth 100000 in
set_option maxHeartbeats 4000000 in
theorem rv_k3 (n : Nat) (w : World) (b off l c : Nat) (R : List Int) (hb : RdB w (some ⟨b, off, none⟩) l c (3 :: R)) (hX : By (3 :: R)) (hl : l ≤ 100000) (h2 : 2 ≤ R.length) (hs : (rdU (R.take 2)).toNat ≤ 256) (ht : 2 + (rdU (R.take 2)).toNat ≤ R.length) : Calls Try.prog 87 #[.slice (some ⟨b, off, none⟩) l c] w (RvPost (n + 1) (3 :: R) w) := by
  obtain ⟨hR, hlc, hcm⟩ := rd_parts hb
  have HU := Lib.hid (fun w' (h : RdB w' (some ⟨b, off, none⟩) l c (3 :: R)) => readU_all w' _ l c (3 :: R) 1 h hX (by omega) (by omega))
  have HM := Lib.hid (show rdU ((3 :: R).take 1) = 3 from rdU_one 3 (hX 3 (List.mem_cons_self ..)).1 (hX 3 (List.mem_cons_self ..)).2)
  have HB := Lib.hid (rd_keep ((Below.refl w.heap.size w).alloc (Nat.le_refl _) (.cells #[.int .i64 0, .int .i64 0, .float .f64 0, .string ⟨#[]⟩, .slice none 0 0] 47)) hb)
  have HX := Lib.hid (show By R from fun x hx => hX x (List.mem_cons_of_mem _ hx))
  have hR1 : R.length + 1 ≤ l := by omega
  have hR2 : l ≤ R.length + 1 := by omega
  obtain ⟨L, hL, hL16⟩ := len16 HX.out h2
  have HL := Lib.hid hL
  rw [hL, Int.toNat_natCast] at hs ht
  have HN := Lib.hid (show decV (n + 1) (3 :: R) = some ((3, 0, 0, strB ((R.drop 2).take L), []), 3 + L) by rw [decV, if_neg (by decide), if_neg (by decide), if_neg (by decide), if_pos (by decide), hL, Int.toNat_natCast, if_pos ⟨h2, hs, ht⟩])
  have HS := Lib.hid (show (strB ((R.drop 2).take L)).size ≤ maxLen by unfold strB maxLen; rw [strOfNums_size, List.length_take]; omega)
  clear hL
  have hc1 : c ≠ 1 := by omega
  have HRD := Lib.hid (show RdB (w.alloc (.cells #[.int .i64 0, .int .i64 0, .float .f64 0, .string ⟨#[]⟩, .slice none 0 0] 47)) (some ⟨b, off + 1, none⟩) (l - 1) (c - 1) R from rd_from (k := 1) HB.out (by omega) hc1)
  clear hb hX hR
  go_enter Try.func87, Try.ntmps87
  go_wp2_with fail
  go_at_call 68; refine (HU.out _ HB.out).mono ?_; rintro e w1 ⟨rfl, rfl⟩
  rw [HM.out]
  go_wp2_with fail
  go_at_call 65; refine (readText_yes _ _ _ _ R L 256 HRD.out HX.out (by omega) HL.out hL16 (by omega) (by omega)).mono ?_; rintro e w2 ⟨rfl, rfl⟩
  obtain ⟨s, hs'⟩ : ∃ s, s = strB ((R.drop 2).take L) := ⟨_, rfl⟩
  rw [← hs']
  rw [← hs'] at HN HS
  have HE := Lib.hid (show Ending.returned (.tuple #[.agg #[.int .i64 3, .int .i64 0, .float .f64 0, .string s, .slice none 0 0], .int .i64 (1 + (2 + (L : Int))), .bool true]) = .returned (.tuple #[.agg #[.int .i64 3, .int .i64 0, .float .f64 0, .string s, .slice none 0 0], .int .i64 ((3 + L : Nat) : Int), .bool true]) by rw [show (1 + (2 + (L : Int))) = ((3 + L : Nat) : Int) by omega])
  clear hs'
  go_wp2
  exact bodyPost_ret (v := .tuple #[.agg #[.int .i64 3, .int .i64 0, .float .f64 0, .string s, .slice none 0 0], .int .i64 (1 + (2 + (L : Int))), .bool true]) (by simp [results, Try.results87, go_sem]) rfl (rv_some (bel_alloc (Below.refl _ _) _) HN.out HE.out (repS_leaf _ _ n 3 0 0 s (by decide) (by decide) (by decide) HS.out))
set_option maxRecDepth 100000 in
set_option maxHeartbeats 4000000 in
theorem rv_k3n (n : Nat) (w : World) (b off l c : Nat) (R : List Int) (hb : RdB w (some ⟨b, off, none⟩) l c (3 :: R)) (hX : By (3 :: R)) (hl : l ≤ 100000) (h2 : 2 ≤ R.length) (hs : ¬ ((rdU (R.take 2)).toNat ≤ 256 ∧ 2 + (rdU (R.take 2)).toNat ≤ R.length)) : Calls Try.prog 87 #[.slice (some ⟨b, off, none⟩) l c] w (RvPost (n + 1) (3 :: R) w) := by
  obtain ⟨hR, hlc, hcm⟩ := rd_parts hb
  have HU := Lib.hid (fun w' (h : RdB w' (some ⟨b, off, none⟩) l c (3 :: R)) => readU_all w' _ l c (3 :: R) 1 h hX (by omega) (by omega))
  have HM := Lib.hid (show rdU ((3 :: R).take 1) = 3 from rdU_one 3 (hX 3 (List.mem_cons_self ..)).1 (hX 3 (List.mem_cons_self ..)).2)
  have HB := Lib.hid (rd_keep ((Below.refl w.heap.size w).alloc (Nat.le_refl _) (.cells #[.int .i64 0, .int .i64 0, .float .f64 0, .string ⟨#[]⟩, .slice none 0 0] 47)) hb)
  have HX := Lib.hid (show By R from fun x hx => hX x (List.mem_cons_of_mem _ hx))
  have hR1 : R.length + 1 ≤ l := by omega
  have hR2 : l ≤ R.length + 1 := by omega
  obtain ⟨L, hL, hL16⟩ := len16 HX.out h2
  have HL := Lib.hid hL
  rw [hL, Int.toNat_natCast] at hs
  have HN := Lib.hid (show decV (n + 1) (3 :: R) = none by rw [decV, if_neg (by decide), if_neg (by decide), if_neg (by decide), if_pos (by decide), hL, Int.toNat_natCast, if_neg (fun h => hs h.2)])
  have HS := Lib.hid hs
  clear hL hs
  have hc1 : c ≠ 1 := by omega
  have HRD := Lib.hid (show RdB (w.alloc (.cells #[.int .i64 0, .int .i64 0, .float .f64 0, .string ⟨#[]⟩, .slice none 0 0] 47)) (some ⟨b, off + 1, none⟩) (l - 1) (c - 1) R from rd_from (k := 1) HB.out (by omega) hc1)
  clear hb hX hR
  go_enter Try.func87, Try.ntmps87
  go_wp2_with fail
  go_at_call 68; refine (HU.out _ HB.out).mono ?_; rintro e w1 ⟨rfl, rfl⟩
  rw [HM.out]
  go_wp2_with fail
  go_at_call 65; refine (readText_no _ _ _ _ R L 256 HRD.out HX.out (by omega) HL.out hL16 (by have := HS.out; omega)).mono ?_; rintro e w2 ⟨rfl, rfl⟩
  go_wp2
  exact bodyPost_ret (v := .tuple #[.agg #[.int .i64 3, .int .i64 0, .float .f64 0, .string ⟨#[]⟩, .slice none 0 0], .int .i64 1, .bool false]) (by simp [results, Try.results87, go_sem]) rfl (rv_none (bel_alloc (Below.refl _ _) _) HN.out (fail_mk _ _ _ _ _ _ _ _))
set_option maxRecDepth 100000 in
set_option maxHeartbeats 4000000 in
theorem rv_k3s (n : Nat) (w : World) (b off l c : Nat) (R : List Int) (hb : RdB w (some ⟨b, off, none⟩) l c (3 :: R)) (hX : By (3 :: R)) (hl : l ≤ 100000) (h2 : ¬ 2 ≤ R.length) : Calls Try.prog 87 #[.slice (some ⟨b, off, none⟩) l c] w (RvPost (n + 1) (3 :: R) w) := by
  obtain ⟨hR, hlc, hcm⟩ := rd_parts hb
  have HU := Lib.hid (fun w' (h : RdB w' (some ⟨b, off, none⟩) l c (3 :: R)) => readU_all w' _ l c (3 :: R) 1 h hX (by omega) (by omega))
  have HM := Lib.hid (show rdU ((3 :: R).take 1) = 3 from rdU_one 3 (hX 3 (List.mem_cons_self ..)).1 (hX 3 (List.mem_cons_self ..)).2)
  have HB := Lib.hid (rd_keep ((Below.refl w.heap.size w).alloc (Nat.le_refl _) (.cells #[.int .i64 0, .int .i64 0, .float .f64 0, .string ⟨#[]⟩, .slice none 0 0] 47)) hb)
  have HX := Lib.hid (show By R from fun x hx => hX x (List.mem_cons_of_mem _ hx))
  have hR1 : R.length + 1 ≤ l := by omega
  have hR2 : l ≤ R.length + 1 := by omega
  have HN := Lib.hid (show decV (n + 1) (3 :: R) = none by rw [decV, if_neg (by decide), if_neg (by decide), if_neg (by decide), if_pos (by decide), if_neg (fun h => h2 h.1)])
  by_cases hc1 : c = 1
  · obtain rfl : l = 1 := by omega
    subst hc1
    have HRD := Lib.hid (show RdB (w.alloc (.cells #[.int .i64 0, .int .i64 0, .float .f64 0, .string ⟨#[]⟩, .slice none 0 0] 47)) (some ⟨b, off, none⟩) 0 0 R from rd_end HB.out)
    have hR0 : R.length ≤ 0 := by omega
    clear hb hX hR
    go_enter Try.func87, Try.ntmps87
    go_wp2_with fail
    go_at_call 68; refine (HU.out _ HB.out).mono ?_; rintro e w1 ⟨rfl, rfl⟩
    rw [HM.out]
    go_wp2_with fail
    go_at_call 65; refine (readText_short _ _ 0 0 256 (by omega) (by unfold maxLen; omega) (by omega)).mono ?_; rintro e w2 ⟨rfl, rfl⟩
    go_wp2
    exact bodyPost_ret (v := .tuple #[.agg #[.int .i64 3, .int .i64 0, .float .f64 0, .string ⟨#[]⟩, .slice none 0 0], .int .i64 1, .bool false]) (by simp [results, Try.results87, go_sem]) rfl (rv_none (bel_alloc (Below.refl _ _) _) HN.out (fail_mk _ _ _ _ _ _ _ _))
  · have HRD := Lib.hid (show RdB (w.alloc (.cells #[.int .i64 0, .int .i64 0, .float .f64 0, .string ⟨#[]⟩, .slice none 0 0] 47)) (some ⟨b, off + 1, none⟩) (l - 1) (c - 1) R from rd_from (k := 1) HB.out (by omega) hc1)
    clear hb hX hR
    go_enter Try.func87, Try.ntmps87
    go_wp2_with fail
    go_at_call 68; refine (HU.out _ HB.out).mono ?_; rintro e w1 ⟨rfl, rfl⟩
    rw [HM.out]
    go_wp2_with fail
    go_at_call 65; refine (readText_short _ _ (l - 1) (c - 1) 256 (by omega) (by unfold maxLen; omega) (by omega)).mono ?_; rintro e w2 ⟨rfl, rfl⟩
    go_wp2
    exact bodyPost_ret (v := .tuple #[.agg #[.int .i64 3, .int .i64 0, .float .f64 0, .string ⟨#[]⟩, .slice none 0 0], .int .i64 1, .bool false]) (by simp [results, Try.results87, go_sem]) rfl (rv_none (bel_alloc (Below.refl _ _) _) HN.out (fail_mk _ _ _ _ _ _ _ _))
set_option maxRecDepth 100000 in
set_option maxHeartbeats 4000000 in
theorem rv_else (n : Nat) (w : World) (b off l c : Nat) (k : Int) (R : List Int) (hb : RdB w (some ⟨b, off, none⟩) l c (k :: R)) (hX : By (k :: R)) (hl : l ≤ 100000) (h4 : 4 < k) : Calls Try.prog 87 #[.slice (some ⟨b, off, none⟩) l c] w (RvPost (n + 1) (k :: R) w) := by
  obtain ⟨hR, hlc, hcm⟩ := rd_parts hb
  have HU := Lib.hid (fun w' (h : RdB w' (some ⟨b, off, none⟩) l c (k :: R)) => readU_all w' _ l c (k :: R) 1 h hX (by omega) (by omega))
  have HM := Lib.hid (show rdU ((k :: R).take 1) = k from rdU_one k (hX k (List.mem_cons_self ..)).1 (hX k (List.mem_cons_self ..)).2)
  have HB := Lib.hid (rd_keep ((Below.refl w.heap.size w).alloc (Nat.le_refl _) (.cells #[.int .i64 0, .int .i64 0, .float .f64 0, .string ⟨#[]⟩, .slice none 0 0] 47)) hb)
  have HX := Lib.hid (show By R from fun x hx => hX x (List.mem_cons_of_mem _ hx))
  have hR1 : R.length + 1 ≤ l := by omega
  have hR2 : l ≤ R.length + 1 := by omega
  have HN := Lib.hid (show decV (n + 1) (k :: R) = none by rw [decV, if_neg (by simp; omega), if_neg (by simp; omega), if_neg (by simp; omega), if_neg (by simp; omega), if_neg (by simp; omega)])
  have hk0 : (k == 0) = false := by simp; omega
  have hk1 : (k == 1) = false := by simp; omega
  have hk2 : (k == 2) = false := by simp; omega
  have hk3 : (k == 3) = false := by simp; omega
  have hk4 : (k == 4) = false := by simp; omega
  by_cases hc1 : c = 1
  · obtain rfl : l = 1 := by omega
    subst hc1
    have HRD := Lib.hid (show RdB (w.alloc (.cells #[.int .i64 0, .int .i64 0, .float .f64 0, .string ⟨#[]⟩, .slice none 0 0] 47)) (some ⟨b, off, none⟩) 0 0 R from rd_end HB.out)
    have hR0 : R.length ≤ 0 := by omega
    clear hb hX hR
    go_enter Try.func87, Try.ntmps87
    go_wp2_with fail
    go_at_call 68; refine (HU.out _ HB.out).mono ?_; rintro e w1 ⟨rfl, rfl⟩
    rw [HM.out]
    go_wp2
    exact bodyPost_ret (v := .tuple #[.agg #[.int .i64 0, .int .i64 0, .float .f64 0, .string ⟨#[]⟩, .slice none 0 0], .int .i64 0, .bool false]) (by simp [results, Try.results87, go_sem]) rfl (rv_none (bel_alloc (Below.refl _ _) _) HN.out (fail_mk _ _ _ _ _ _ _ _))
  · have HRD := Lib.hid (show RdB (w.alloc (.cells #[.int .i64 0, .int .i64 0, .float .f64 0, .string ⟨#[]⟩, .slice none 0 0] 47)) (some ⟨b, off + 1, none⟩) (l - 1) (c - 1) R from rd_from (k := 1) HB.out (by omega) hc1)
    clear hb hX hR
    go_enter Try.func87, Try.ntmps87
    go_wp2_with fail
    go_at_call 68; refine (HU.out _ HB.out).mono ?_; rintro e w1 ⟨rfl, rfl⟩
    rw [HM.out]
    go_wp2
    exact bodyPost_ret (v := .tuple #[.agg #[.int .i64 0, .int .i64 0, .float .f64 0, .string ⟨#[]⟩, .slice none 0 0], .int .i64 0, .bool false]) (by simp [results, Try.results87, go_sem]) rfl (rv_none (bel_alloc (Below.refl _ _) _) HN.out (fail_mk _ _ _ _ _ _ _ _))
end Num
end Go.Proofs.Ytomfgncbdgifoaa
/-
  What package wire reads: a list's value; all values, by the recursion.
-/
namespace Go.Proofs.Ytomfgncbdgifoaa
open Go.RowKit
namespace Num
open Ints
set_option linter.unusedSimpArgs false
set_option linter.unusedVariables false
theorem set5_heap {w : World} {b k : Nat} (h : k ≠ b) (v0 v1 v2 v3 v4 : Value) : (((((w.setCell ⟨b, 0, none⟩ v0).setCell ⟨b, 1, none⟩ v1).setCell ⟨b, 2, none⟩ v2).setCell ⟨b, 3, none⟩ v3).setCell ⟨b, 4, none⟩ v4).heap[k]? = w.heap[k]? := by
  rw [Below.heap_setCell _ _ _ _ h, Below.heap_setCell _ _ _ _ h, Below.heap_setCell _ _ _ _ h, Below.heap_setCell _ _ _ _ h, Below.heap_setCell _ _ _ _ h]
/-- A list's value, in the result's box. -/
theorem repS_list {w w1 : World} {n : Nat} {o : Obj} {p : Option Addr} {l c : Nat} {L : List (VT n)} (h : RepLS (fun b => (w.alloc o).heap.size ≤ b) w1 (RepC w1 n) p l c L) (v0 v1 v2 v3 v4 : Value) :
    RepS (fun b => w.heap.size ≤ b) (((((w1.setCell ⟨w.heap.size, 0, none⟩ v0).setCell ⟨w.heap.size, 1, none⟩ v1).setCell ⟨w.heap.size, 2, none⟩ v2).setCell ⟨w.heap.size, 3, none⟩ v3).setCell ⟨w.heap.size, 4, none⟩ v4) (n + 1) (.agg #[.int .i64 4, .int .i64 0, .float .f64 0, .string ⟨#[]⟩, .slice p l c]) (4, 0, 0, ⟨#[]⟩, L) := by
  have hs : (w.alloc o).heap.size = w.heap.size + 1 := World.size_alloc _ _
  have hk : ∀ b, (w.alloc o).heap.size ≤ b → (((((w1.setCell ⟨w.heap.size, 0, none⟩ v0).setCell ⟨w.heap.size, 1, none⟩ v1).setCell ⟨w.heap.size, 2, none⟩ v2).setCell ⟨w.heap.size, 3, none⟩ v3).setCell ⟨w.heap.size, 4, none⟩ v4).heap[b]? = w1.heap[b]? := fun b hb => set5_heap (by omega) _ _ _ _ _
  have h' := repLS_mono (S' := fun b => w.heap.size ≤ b) (fun b hb => by omega) (repLS_keep hk h)
  exact ⟨p, l, c, rfl, (show okI (4 : Int) from by decide), (show okI (0 : Int) from by decide), (show 0 < 2 ^ 64 from by decide), (show (⟨#[]⟩ : ByteArray).size ≤ maxLen from by decide), h'⟩
set_option maxRecDepth 100000 in
set_option maxHeartbeats 4000000 in
theorem rv_k4 (n : Nat) (HLA : RlAll n) (w : World) (b off l c : Nat) (R : List Int) (hb : RdB w (some ⟨b, off, none⟩) l c (4 :: R)) (hX : By (4 :: R)) (hl : l ≤ 100000) (hln : l ≤ n + 1) : Calls Try.prog 87 #[.slice (some ⟨b, off, none⟩) l c] w (RvPost (n + 1) (4 :: R) w) := by
  obtain ⟨hR, hlc, hcm⟩ := rd_parts hb
  have HU := Lib.hid (fun w' (h : RdB w' (some ⟨b, off, none⟩) l c (4 :: R)) => readU_all w' _ l c (4 :: R) 1 h hX (by omega) (by omega))
  have HM := Lib.hid (show rdU ((4 :: R).take 1) = 4 from rdU_one 4 (by omega) (by omega))
  have HB := Lib.hid (rd_keep ((Below.refl w.heap.size w).alloc (Nat.le_refl _) (.cells #[.int .i64 0, .int .i64 0, .float .f64 0, .string ⟨#[]⟩, .slice none 0 0] 47)) hb)
  have HX := Lib.hid (show By R from fun x hx => hX x (List.mem_cons_of_mem _ hx))
  have HLA' := Lib.hid HLA
  have HDn := Lib.hid (show decR (decV n) R = none → decV (n + 1) (4 :: R) = none from fun h => by rw [decV, if_neg (by decide), if_neg (by decide), if_neg (by decide), if_neg (by decide), if_pos (by decide), h])
  have HDs := Lib.hid (show ∀ L j, decR (decV n) R = some (L, j) → decV (n + 1) (4 :: R) = some ((4, 0, 0, ⟨#[]⟩, L), 1 + j) from fun L j h => by rw [decV, if_neg (by decide), if_neg (by decide), if_neg (by decide), if_neg (by decide), if_pos (by decide), h])
  have hR1 : R.length + 1 ≤ l := by omega
  have hR2 : l ≤ R.length + 1 := by omega
  have RB := Lib.hid (row_alloc w #[.int .i64 0, .int .i64 0, .float .f64 0, .string ⟨#[]⟩, .slice none 0 0] 47)
  by_cases hc1 : c = 1
  · obtain rfl : l = 1 := by omega
    subst hc1
    have HRD := Lib.hid (show RdB (w.alloc (.cells #[.int .i64 0, .int .i64 0, .float .f64 0, .string ⟨#[]⟩, .slice none 0 0] 47)) (some ⟨b, off, none⟩) 0 0 R from rd_end HB.out)
    have hR0 : R.length ≤ 0 := by omega
    clear hb hX hR HLA
    cases hd : decR (decV n) R with
    | none =>
      have HDD := Lib.hid hd
      clear hd
      go_enter Try.func87, Try.ntmps87
      go_wp2_with fail
      go_at_call 68; refine (HU.out _ HB.out).mono ?_; rintro e w1 ⟨rfl, rfl⟩
      rw [HM.out]
      go_wp2_with fail
      go_at_call 96; refine (HLA'.out _ _ 0 0 R HRD.out HX.out (by omega) (by omega)).mono ?_; rintro e w1 ⟨hb1, hno, hyes⟩
      obtain rfl := hno HDD.out
      have HB1 := Lib.hid (bel_box _ hb1)
      have hr1 := row_step RB.out hb1
      have d0 := row_cell hr1 0
      have d1 := row_cell hr1 1
      have d2 := row_cell hr1 2
      have d3 := row_cell hr1 3
      have d4 := row_cell hr1 4
      simp only [List.getElem?_toArray, List.getElem?_cons_zero, List.getElem?_cons_succ] at d0 d1 d2 d3 d4
      have df := fun o => row_frz hr1 o
      clear hb1 hno hyes hr1
      go_wp2
      refine bodyPost_ret (v := .tuple #[.agg #[.int .i64 4, .int .i64 0, .float .f64 0, .string ⟨#[]⟩, .slice none 0 0], .int .i64 1, .bool false]) (by simp [results, Try.results87, go_sem, World.cell?_setCell_same, World.cell?_setCell_other, d0, d1, d2, d3, d4]) rfl ?_
      exact rv_none (bel_set5 HB1.out (Nat.le_refl _) _ _ _ _ _) (HDn.out HDD.out) (fail_mk _ _ _ _ _ _ _ _)
    | some LJ =>
      obtain ⟨L, j⟩ := LJ
      have hjl := decR_le (decV_le n) hd
      have hj5 : j ≤ 100000 := by omega
      have HDD := Lib.hid hd
      omega
  · have HRD := Lib.hid (show RdB (w.alloc (.cells #[.int .i64 0, .int .i64 0, .float .f64 0, .string ⟨#[]⟩, .slice none 0 0] 47)) (some ⟨b, off + 1, none⟩) (l - 1) (c - 1) R from rd_from (k := 1) HB.out (by omega) hc1)
    clear hb hX hR HLA
    cases hd : decR (decV n) R with
    | none =>
      have HDD := Lib.hid hd
      clear hd
      go_enter Try.func87, Try.ntmps87
      go_wp2_with fail
      go_at_call 68; refine (HU.out _ HB.out).mono ?_; rintro e w1 ⟨rfl, rfl⟩
      rw [HM.out]
      go_wp2_with fail
      go_at_call 96; refine (HLA'.out _ _ (l - 1) (c - 1) R HRD.out HX.out (by omega) (by omega)).mono ?_; rintro e w1 ⟨hb1, hno, hyes⟩
      obtain rfl := hno HDD.out
      have HB1 := Lib.hid (bel_box _ hb1)
      have hr1 := row_step RB.out hb1
      have d0 := row_cell hr1 0
      have d1 := row_cell hr1 1
      have d2 := row_cell hr1 2
      have d3 := row_cell hr1 3
      have d4 := row_cell hr1 4
      simp only [List.getElem?_toArray, List.getElem?_cons_zero, List.getElem?_cons_succ] at d0 d1 d2 d3 d4
      have df := fun o => row_frz hr1 o
      clear hb1 hno hyes hr1
      go_wp2
      refine bodyPost_ret (v := .tuple #[.agg #[.int .i64 4, .int .i64 0, .float .f64 0, .string ⟨#[]⟩, .slice none 0 0], .int .i64 1, .bool false]) (by simp [results, Try.results87, go_sem, World.cell?_setCell_same, World.cell?_setCell_other, d0, d1, d2, d3, d4]) rfl ?_
      exact rv_none (bel_set5 HB1.out (Nat.le_refl _) _ _ _ _ _) (HDn.out HDD.out) (fail_mk _ _ _ _ _ _ _ _)
    | some LJ =>
      obtain ⟨L, j⟩ := LJ
      have hjl := decR_le (decV_le n) hd
      have hj5 : j ≤ 100000 := by omega
      have HDD := Lib.hid hd
      clear hd
      go_enter Try.func87, Try.ntmps87
      go_wp2_with fail
      go_at_call 68; refine (HU.out _ HB.out).mono ?_; rintro e w1 ⟨rfl, rfl⟩
      rw [HM.out]
      go_wp2_with fail
      go_at_call 96; refine (HLA'.out _ _ (l - 1) (c - 1) R HRD.out HX.out (by omega) (by omega)).mono ?_; rintro e w1 ⟨hb1, hno, hyes⟩
      obtain ⟨p2, l2, c2, rfl, hrep⟩ := hyes L j HDD.out
      have HB1 := Lib.hid (bel_box _ hb1)
      have HREP := Lib.hid (repS_list hrep (.int .i64 4) (.int .i64 0) (.float .f64 0) (.string ⟨#[]⟩) (.slice p2 l2 c2))
      have HE := Lib.hid (show Ending.returned (.tuple #[.agg #[.int .i64 4, .int .i64 0, .float .f64 0, .string ⟨#[]⟩, .slice p2 l2 c2], .int .i64 (1 + (j : Int)), .bool true]) = .returned (.tuple #[.agg #[.int .i64 4, .int .i64 0, .float .f64 0, .string ⟨#[]⟩, .slice p2 l2 c2], .int .i64 ((1 + j : Nat) : Int), .bool true]) by rw [show (1 + (j : Int)) = ((1 + j : Nat) : Int) by omega])
      have hr1 := row_step RB.out hb1
      have d0 := row_cell hr1 0
      have d1 := row_cell hr1 1
      have d2 := row_cell hr1 2
      have d3 := row_cell hr1 3
      have d4 := row_cell hr1 4
      simp only [List.getElem?_toArray, List.getElem?_cons_zero, List.getElem?_cons_succ] at d0 d1 d2 d3 d4
      have df := fun o => row_frz hr1 o
      clear hb1 hno hyes hr1 hrep
      go_wp2
      refine bodyPost_ret (v := .tuple #[.agg #[.int .i64 4, .int .i64 0, .float .f64 0, .string ⟨#[]⟩, .slice p2 l2 c2], .int .i64 (1 + (j : Int)), .bool true]) (by simp [results, Try.results87, go_sem, World.cell?_setCell_same, World.cell?_setCell_other, d0, d1, d2, d3, d4]) rfl ?_
      exact rv_some (bel_set5 HB1.out (Nat.le_refl _) _ _ _ _ _) (HDs.out L j HDD.out) HE.out HREP.out
theorem rv_succ (n : Nat) (HLA : RlAll n) : RvAll (n + 1) := by
  intro w p l c X hb hX hln hl
  cases X with
  | nil =>
    obtain rfl : l = 0 := hb.1.symm
    exact rv_empty (n + 1) w p c hb.2.2.1
  | cons k R =>
    have h1 : l = R.length + 1 := hb.1.symm
    obtain ⟨b, off, rfl⟩ := rd_full hb (by omega)
    have hk := hX k (List.mem_cons_self ..)
    by_cases h0 : k = 0
    · subst h0; exact rv_k0 n w b off l c R hb hX hl
    by_cases h1 : k = 1
    · subst h1
      by_cases h8 : 8 ≤ R.length
      · exact rv_k1 n w b off l c R hb hX hl h8
      · exact rv_k1n n w b off l c R hb hX hl h8
    by_cases h2 : k = 2
    · subst h2
      by_cases h8 : 8 ≤ R.length
      · by_cases hq : Flo.canon (rdU (R.take 8)).toNat = (rdU (R.take 8)).toNat
        · exact rv_k2 n w b off l c R hb hX hl h8 hq
        · exact rv_k2b n w b off l c R hb hX hl h8 hq
      · exact rv_k2n n w b off l c R hb hX hl h8
    by_cases h3 : k = 3
    · subst h3
      by_cases h2 : 2 ≤ R.length
      · by_cases hs : (rdU (R.take 2)).toNat ≤ 256 ∧ 2 + (rdU (R.take 2)).toNat ≤ R.length
        · exact rv_k3 n w b off l c R hb hX hl h2 hs.1 hs.2
        · exact rv_k3n n w b off l c R hb hX hl h2 hs
      · exact rv_k3s n w b off l c R hb hX hl h2
    by_cases h4 : k = 4
    · subst h4; exact rv_k4 n HLA w b off l c R hb hX hl hln
    · exact rv_else n w b off l c k R hb hX hl (by omega)
theorem rv_all : ∀ n, RvAll n := by
  intro n
  induction n with
  | zero =>
    intro w p l c X hb hX hln hl
    obtain rfl : l = 0 := by omega
    obtain rfl : X = [] := List.eq_nil_of_length_eq_zero hb.1
    exact rv_empty 0 w p c hb.2.2.1
  | succ n ih => exact rv_succ n (readList_of n ih)
end Num
end Go.Proofs.Ytomfgncbdgifoaa
