/-
  The reference: what a transfer reckons (region 49).
-/
import Derived.Test.YtpbfaffheigjcaaGreatJMI
import Derived.Test.YtpbfaffheigjcaaGreatJp20YY
namespace Go.Proofs.YtpbfaffheigjcaaGreat
open Go.RowKit
namespace Num
open Ints
set_option linter.unusedSimpArgs false
set_option linter.unusedVariables false
/-- The region of that number in a code. -/
def regionBy (n : Nat) : Code → Option Code
  | .region i ops d => if i = n then some (.region i ops d) else none
  | .seq a b => match regionBy n a with
    | some c => some c
    | none => regionBy n b
  | .cond _ a b => match regionBy n a with
    | some c => some c
    | none => regionBy n b
  | .block _ c => regionBy n c
  | .loop c => regionBy n c
  | .scope c => regionBy n c
  | _ => none
set_option maxRecDepth 1000000 in
set_option maxHeartbeats 8000000 in
theorem led49_any (w : World) (b off l c d FA G FD gd od cgd : Nat) (wr : World) (c0 c1 c2 c4 c5 c6 c7 c8 c10 c11 c12 c13 c14 c15 c17 c18 c20 c21 c22 c23 c24 c25 c26 c27 c28 c29 c30 c31 c32 c33 c34 c35 c36 c37 c38 c39 c40 c41 c42 c43 c44 c45 c46 c47 c48 c49 c50 c51 c52 c53 c54 c55 c56 c57 c58 c59 c60 c61 c62 c63 c64 c65 c66 c67 c68 c69 c70 c71 c72 c73 c74 c75 c76 c77 c78 c79 c80 c81 c82 c83 c84 c85 c86 c87 c88 c89 c90 c91 c92 c93 c94 c95 c96 c97 c98 c99 c100 c101 c102 c103 c104 c105 c106 c107 c108 c109 c110 c111 c112 c113 c114 c115 c116 c117 c118 c119 c120 c121 c122 c123 c124 c125 c126 c127 c128 c129 c130 c131 c132 c133 c134 c135 c136 c137 c138 c139 c140 c141 c142 c143 c144 c145 c146 c147 c148 c149 c150 c151 c152 c153 c154 c155 c156 c157 c158 c159 c160 c161 c162 c163 c164 c165 c166 c167 c168 c169 c170 c171 c172 c173 c174 c175 c176 c177 c178 c179 c180 c181 c182 c183 c184 c185 c186 c187 c188 c189 c190 c191 c192 c193 c194 c195 c196 c197 c198 c199 c200 c201 c202 c203 c204 c205 c206 c207 c208 c209 c210 c211 c212 c213 c214 c215 c216 c217 c218 c219 c220 : Value) (Q : Exit → Act → World → Prop) (hP : ∀ p a (d : Option Tmp) v w, Q (.panic p) (Act.put a d v) w → Q (.panic p) a w)
    (TR0 : Hid (wr.heap[w.heap.size]? = some (.cells #[.int .i64 4, .int .i64 0, .float .f64 0, .string ⟨#[]⟩, .slice (some ⟨b, off, none⟩) l c] 27 (0, 0)) ∧ wr.heap[w.heap.size + 1]? = some (.cells #[.int .i64 0, .int .i64 0, .float .f64 0, .string ⟨#[]⟩, .slice none 0 0] 27 (0, 0)) ∧ wr.heap[w.heap.size + 1 + 1]? = some (.cells #[.int .i64 0, .int .i64 0, .float .f64 0, .string ⟨#[]⟩, .slice none 0 0] 27 (0, 0)) ∧ Below w.heap.size w wr)) (Hd4 : Hid (w.cell? ⟨b, off + d * 5 + 4, none⟩ = some (.slice (some ⟨gd, od, none⟩) 2 cgd))) (Hd6 : Hid (w.cell? ⟨gd, od + 5 + 2, none⟩ = some (.float .f64 FD)))
    (HOP1 : Hid (∀ t W, (binOp .sub t (.float .f64 FA) (.float .f64 G)).run Tryz.prog W = .ok (.float .f64 (Flo.cop .sub FA G)) W)) (HOP2 : Hid (∀ t W, (binOp .add t (.float .f64 FD) (.float .f64 G)).run Tryz.prog W = .ok (.float .f64 (Flo.cop .add FD G)) W)) (HCS : Hid (Flo.canon (Flo.cop .sub FA G) = (Flo.cop .sub FA G))) (HCG : Hid (Flo.canon (Flo.cop .add FD G) = (Flo.cop .add FD G))) (hbd : b < w.heap.size) (hgd : gd < w.heap.size) (hd1 : (0 : Int) ≤ (d : Int)) (hd2 : (d : Int) < (l : Int)) (hQ : ∀ (gA gB : Nat) (wy : World), w.heap.size + 1 + 1 < gA → w.heap.size + 1 + 1 < gB → (wy.heap[w.heap.size]? = some (.cells #[.int .i64 4, .int .i64 0, .float .f64 0, .string ⟨#[]⟩, .slice (some ⟨b, off, none⟩) l c] 27 (0, 0)) ∧ wy.heap[w.heap.size + 1]? = some (.cells #[.int .i64 0, .int .i64 0, .float .f64 0, .string ⟨#[]⟩, .slice none 0 0] 27 (0, 0)) ∧ wy.heap[w.heap.size + 1 + 1]? = some (.cells #[.int .i64 0, .int .i64 0, .float .f64 0, .string ⟨#[]⟩, .slice none 0 0] 27 (0, 0)) ∧ wy.heap[gA]? = some (.cells #[.int .i64 2, .int .i64 0, .float .f64 (Flo.cop .sub FA G), .string ⟨#[]⟩, .slice none 0 0] 27 (0, 0)) ∧ wy.heap[gB]? = some (.cells #[.int .i64 2, .int .i64 0, .float .f64 (Flo.cop .add FD G), .string ⟨#[]⟩, .slice none 0 0] 27 (0, 0)) ∧ Below w.heap.size w wy) → Q .normal { tmps := #[c0, c1, c2, (.pointer (some ⟨w.heap.size, 0, none⟩)), c4, c5, c6, c7, c8, (.float .f64 G), c10, c11, c12, c13, c14, c15, (.float .f64 FA), c17, c18, (.int .i64 (d : Nat)), c20, (.pointer (some ⟨gA, 0, none⟩)), (.pointer (some ⟨gB, 0, none⟩)), c23, c24, c25, c26, c27, c28, c29, c30, c31, c32, c33, c34, c35, c36, c37, c38, c39, c40, c41, c42, c43, c44, c45, c46, c47, c48, c49, c50, c51, c52, c53, c54, c55, c56, c57, c58, c59, c60, c61, c62, c63, c64, c65, c66, c67, c68, c69, c70, c71, c72, c73, c74, c75, c76, c77, c78, c79, c80, c81, c82, c83, c84, c85, c86, c87, c88, c89, c90, c91, c92, c93, c94, c95, c96, c97, c98, c99, c100, c101, c102, c103, c104, c105, c106, c107, c108, c109, c110, c111, c112, c113, c114, c115, c116, c117, c118, c119, c120, c121, c122, c123, c124, c125, c126, c127, c128, c129, c130, c131, c132, c133, c134, c135, c136, c137, c138, c139, c140, c141, c142, c143, c144, c145, c146, c147, c148, c149, c150, c151, c152, c153, c154, c155, c156, c157, c158, c159, c160, c161, c162, c163, c164, c165, c166, c167, c168, c169, c170, c171, c172, c173, c174, c175, c176, c177, c178, c179, c180, c181, c182, c183, c184, c185, c186, c187, (.float .f64 FA), (.float .f64 G), (.float .f64 (Flo.cop .sub FA G)), (.agg #[.int .i64 2, .int .i64 0, .float .f64 (Flo.cop .sub FA G), .string ⟨#[]⟩, .slice none 0 0]), (.pointer (some ⟨w.heap.size, 4, none⟩)), (.slice (some ⟨b, off, none⟩) l c), (.int .i64 (d : Nat)), (.pointer (some ⟨b, off + d * 5, none⟩)), (.pointer (some ⟨b, off + d * 5 + 4, none⟩)), (.slice (some ⟨gd, od, none⟩) 2 cgd), (.pointer (some ⟨gd, od + 5, none⟩)), (.pointer (some ⟨gd, od + 5 + 2, none⟩)), (.float .f64 FD), (.float .f64 G), (.float .f64 (Flo.cop .add FD G)), (.agg #[.int .i64 2, .int .i64 0, .float .f64 (Flo.cop .add FD G), .string ⟨#[]⟩, .slice none 0 0]), c204, c205, c206, c207, c208, c209, c210, c211, c212, c213, c214, c215, c216, c217, c218, c219, c220], defers := [] } wy) :
    Code.wp Tryz.prog ((Tryz.f38.body.bind (regionBy 49)).getD .skip) Q { tmps := #[c0, c1, c2, (.pointer (some ⟨w.heap.size, 0, none⟩)), c4, c5, c6, c7, c8, (.float .f64 G), c10, c11, c12, c13, c14, c15, (.float .f64 FA), c17, c18, (.int .i64 (d : Nat)), c20, c21, c22, c23, c24, c25, c26, c27, c28, c29, c30, c31, c32, c33, c34, c35, c36, c37, c38, c39, c40, c41, c42, c43, c44, c45, c46, c47, c48, c49, c50, c51, c52, c53, c54, c55, c56, c57, c58, c59, c60, c61, c62, c63, c64, c65, c66, c67, c68, c69, c70, c71, c72, c73, c74, c75, c76, c77, c78, c79, c80, c81, c82, c83, c84, c85, c86, c87, c88, c89, c90, c91, c92, c93, c94, c95, c96, c97, c98, c99, c100, c101, c102, c103, c104, c105, c106, c107, c108, c109, c110, c111, c112, c113, c114, c115, c116, c117, c118, c119, c120, c121, c122, c123, c124, c125, c126, c127, c128, c129, c130, c131, c132, c133, c134, c135, c136, c137, c138, c139, c140, c141, c142, c143, c144, c145, c146, c147, c148, c149, c150, c151, c152, c153, c154, c155, c156, c157, c158, c159, c160, c161, c162, c163, c164, c165, c166, c167, c168, c169, c170, c171, c172, c173, c174, c175, c176, c177, c178, c179, c180, c181, c182, c183, c184, c185, c186, c187, c188, c189, c190, c191, c192, c193, c194, c195, c196, c197, c198, c199, c200, c201, c202, c203, c204, c205, c206, c207, c208, c209, c210, c211, c212, c213, c214, c215, c216, c217, c218, c219, c220], defers := [] } wr := by
  conv => arg 2; whnf
  have hop1 := HOP1.out
  have hop2 := HOP2.out
  have hl0 : w.heap.size < wr.heap.size := row_lt TR0.out.1
  have hl1 : w.heap.size + 1 < wr.heap.size := row_lt TR0.out.2.1
  have hl2 : w.heap.size + 1 + 1 < wr.heap.size := row_lt TR0.out.2.2.1
  have hbw := TR0.out.2.2.2.size
  have TR1 := Lib.hid (And.intro (row_step TR0.out.1 (show Below wr.heap.size wr wr.drew from Below.drew (Below.refl _ _))) (And.intro (row_step TR0.out.2.1 (show Below wr.heap.size wr wr.drew from Below.drew (Below.refl _ _))) (And.intro (row_step TR0.out.2.2.1 (show Below wr.heap.size wr wr.drew from Below.drew (Below.refl _ _))) (bel_step TR0.out.2.2.2 (show Below wr.heap.size wr wr.drew from Below.drew (Below.refl _ _))))))
  clear TR0
  refine wp_region_held_drew (S := (fun z => z.cell? ⟨w.heap.size, 0, none⟩ = some (.int .i64 4) ∧ z.cell? ⟨w.heap.size, 1, none⟩ = some (.int .i64 0) ∧ z.cell? ⟨w.heap.size, 2, none⟩ = some (.float .f64 0) ∧ z.cell? ⟨w.heap.size, 3, none⟩ = some (.string ⟨#[]⟩) ∧ z.cell? ⟨w.heap.size, 4, none⟩ = some (.slice (some ⟨b, off, none⟩) l c) ∧ z.cell? ⟨b, off + d * 5 + 4, none⟩ = some (.slice (some ⟨gd, od, none⟩) 2 cgd) ∧ z.cell? ⟨gd, od + 5 + 2, none⟩ = some (.float .f64 FD))) (by kernel_rfl) ?_ (fun hHeld => ?_)
  · exact ⟨row_cell TR1.out.1 0, row_cell TR1.out.1 1, row_cell TR1.out.1 2, row_cell TR1.out.1 3, row_cell TR1.out.1 4, cell_keep TR1.out.2.2.2 Hd4.out, cell_keep TR1.out.2.2.2 Hd6.out⟩
  refine zt [0, 1, 2, 4, 5, 6, 7, 8, 9, 10, 11, 12, 13, 14] ?_
  iterate 14 (refine zt1 hP (by simp only [lk0, lk1, lk2]; rfl) (by kernel_rfl) (by assumption) (by rfl) (fun wS hSw => by (try dsimp only at hSw); go_simp; (try with_reducible rfl)) ?_; (try simp only [Act.put, pk0, pk1, pk2]))
  refine zt0 ?_
  refine wpAnyH_ready (rs := [3, 16, 17]) (by kernel_rfl) (by simp) ?_
  refine AllReadyH.cons (o := ?_) ?hov15_ ?hstv15_ ?mov15_
  case hov15_ => (simp only [lk0, lk1, lk2]; rfl)
  case hstv15_ =>
    intro K hK
    go_simp
    go_at_call 20; refine (float_is HCS.out _).mono ?_; rintro e w16 ⟨rfl, hbw16⟩
    have TR2 := Lib.hid (And.intro (row_step TR1.out.1 hbw16) (And.intro (row_step TR1.out.2.1 hbw16) (And.intro (row_step TR1.out.2.2.1 hbw16) (bel_step TR1.out.2.2.2 hbw16))))
    clear TR1
    clear hbw16
    go_wp2_with fail
    refine hK.out _ _ ?hsv15_ (fun hHeld => ?_)
    case hsv15_ => exact ⟨row_cell TR2.out.1 0, row_cell TR2.out.1 1, row_cell TR2.out.1 2, row_cell TR2.out.1 3, row_cell TR2.out.1 4, cell_keep TR2.out.2.2.2 Hd4.out, cell_keep TR2.out.2.2.2 Hd6.out⟩
    clear hK K
    (try simp only [Act.put, pk0, pk1, pk2])
    refine wpAnyH_ready (rs := [15, 16, 17]) (by kernel_rfl) (by simp) ?_
    refine AllReadyH.cons (o := ?_) ?hov17_ ?hstv17_ ?mov17_
    case hov17_ => (simp only [lk0, lk1, lk2]; rfl)
    case hstv17_ =>
      intro K hK
      go_simp
      go_at_call 20; refine (float_is HCG.out _).mono ?_; rintro e w18 ⟨rfl, hbw18⟩
      have TR3 := Lib.hid (And.intro (row_step TR2.out.1 hbw18) (And.intro (row_step TR2.out.2.1 hbw18) (And.intro (row_step TR2.out.2.2.1 hbw18) (bel_step TR2.out.2.2.2 hbw18))))
      clear TR2
      clear hbw18
      go_wp2_with fail
      refine hK.out _ _ ?hsv17_ (fun hHeld => ?_)
      case hsv17_ => exact ⟨row_cell TR3.out.1 0, row_cell TR3.out.1 1, row_cell TR3.out.1 2, row_cell TR3.out.1 3, row_cell TR3.out.1 4, cell_keep TR3.out.2.2.2 Hd4.out, cell_keep TR3.out.2.2.2 Hd6.out⟩
      clear hK K
      (try simp only [Act.put, pk0, pk1, pk2])
      refine wpAnyH_ready (rs := [16, 17]) (by kernel_rfl) (by simp) ?_
      refine AllReadyH.cons (o := ?_) ?hov19_ ?hstv19_ ?mov19_
      case hov19_ => (simp only [lk0, lk1, lk2]; rfl)
      case hstv19_ =>
        intro K hK
        go_simp
        have hlt20 : w.heap.size < w18.heap.size := (by have h := row_lt TR3.out.1; (try simp only [World.size_alloc, World.size_drew] at h); exact h)
        have hlt21 : w.heap.size + 1 < w18.heap.size := (by have h := row_lt TR3.out.2.1; (try simp only [World.size_alloc, World.size_drew] at h); exact h)
        have hlt22 : w.heap.size + 1 + 1 < w18.heap.size := (by have h := row_lt TR3.out.2.2.1; (try simp only [World.size_alloc, World.size_drew] at h); exact h)
        have hlt23 : w.heap.size ≤ w18.heap.size := (by have h := TR3.out.2.2.2.size; (try simp only [World.size_alloc, World.size_drew] at h); exact h)
        have TR4 := Lib.hid (show (fun z0 : World => ZL z0 w.heap.size (some ⟨b, off, none⟩) l c ∧ Zz z0 (w.heap.size + 1) ∧ Zz z0 (w.heap.size + 1 + 1) ∧ Zz z0 w18.heap.size ∧ Below w.heap.size w z0) (w18.alloc (.cells #[.int .i64 0, .int .i64 0, .float .f64 0, .string ⟨#[]⟩, .slice none 0 0] 27)) from ⟨(row_alloc_step (TR3.out.1) _), (row_alloc_step (TR3.out.2.1) _), (row_alloc_step (TR3.out.2.2.1) _), (by have h := row_alloc w18 #[.int .i64 0, .int .i64 0, .float .f64 0, .string ⟨#[]⟩, .slice none 0 0] 27; (try simp only [World.size_alloc, World.size_drew, World.size_setCell] at h); exact h), bel_step TR3.out.2.2.2 (bel_alloc (Below.refl _ _) _)⟩)
        go_wp2_with fail
        refine hK.out _ _ ?hsv19_ (fun hHeld => ?_)
        case hsv19_ => exact ⟨row_cell TR4.out.1 0, row_cell TR4.out.1 1, row_cell TR4.out.1 2, row_cell TR4.out.1 3, row_cell TR4.out.1 4, cell_keep TR4.out.2.2.2.2 Hd4.out, cell_keep TR4.out.2.2.2.2 Hd6.out⟩
        clear hK K
        (try simp only [Act.put, pk0, pk1, pk2])
        refine zr1 17 (by kernel_rfl) (by simp only [lk0, lk1, lk2]; rfl) (fun K hK => ?_)
        go_simp
        have hlt25 : w.heap.size < w18.heap.size + 1 := (by have h := row_lt TR4.out.1; (try simp only [World.size_alloc, World.size_drew] at h); exact h)
        have hlt26 : w.heap.size + 1 < w18.heap.size + 1 := (by have h := row_lt TR4.out.2.1; (try simp only [World.size_alloc, World.size_drew] at h); exact h)
        have hlt27 : w.heap.size + 1 + 1 < w18.heap.size + 1 := (by have h := row_lt TR4.out.2.2.1; (try simp only [World.size_alloc, World.size_drew] at h); exact h)
        have hlt28 : w18.heap.size < w18.heap.size + 1 := (by have h := row_lt TR4.out.2.2.2.1; (try simp only [World.size_alloc, World.size_drew] at h); exact h)
        have hlt29 : w.heap.size ≤ w18.heap.size + 1 := (by have h := TR4.out.2.2.2.2.size; (try simp only [World.size_alloc, World.size_drew] at h); exact h)
        have TR5 := Lib.hid (show (fun z0 : World => ZL z0 w.heap.size (some ⟨b, off, none⟩) l c ∧ Zz z0 (w.heap.size + 1) ∧ Zz z0 (w.heap.size + 1 + 1) ∧ Zz z0 w18.heap.size ∧ Zz z0 (w18.heap.size + 1) ∧ Below w.heap.size w z0) ((w18.alloc (.cells #[.int .i64 0, .int .i64 0, .float .f64 0, .string ⟨#[]⟩, .slice none 0 0] 27)).alloc (.cells #[.int .i64 0, .int .i64 0, .float .f64 0, .string ⟨#[]⟩, .slice none 0 0] 27)) from ⟨(row_alloc_step (row_alloc_step (TR3.out.1) _) _), (row_alloc_step (row_alloc_step (TR3.out.2.1) _) _), (row_alloc_step (row_alloc_step (TR3.out.2.2.1) _) _), (by have h := row_alloc_step (row_alloc w18 #[.int .i64 0, .int .i64 0, .float .f64 0, .string ⟨#[]⟩, .slice none 0 0] 27) (.cells #[.int .i64 0, .int .i64 0, .float .f64 0, .string ⟨#[]⟩, .slice none 0 0] 27); (try simp only [World.size_alloc, World.size_drew, World.size_setCell] at h); exact h), (by have h := row_alloc (w18.alloc (.cells #[.int .i64 0, .int .i64 0, .float .f64 0, .string ⟨#[]⟩, .slice none 0 0] 27)) #[.int .i64 0, .int .i64 0, .float .f64 0, .string ⟨#[]⟩, .slice none 0 0] 27; (try simp only [World.size_alloc, World.size_drew, World.size_setCell] at h); exact h), bel_step TR3.out.2.2.2 (bel_alloc (bel_alloc (Below.refl _ _) _) _)⟩)
        go_wp2_with fail
        refine hK.out _ _ ?hsv24_ (fun hHeld => ?_)
        case hsv24_ => exact ⟨row_cell TR5.out.1 0, row_cell TR5.out.1 1, row_cell TR5.out.1 2, row_cell TR5.out.1 3, row_cell TR5.out.1 4, cell_keep TR5.out.2.2.2.2.2 Hd4.out, cell_keep TR5.out.2.2.2.2.2 Hd6.out⟩
        clear hK K
        (try simp only [Act.put, pk0, pk1, pk2])
        refine zr1 18 (by kernel_rfl) (by simp only [lk0, lk1, lk2]; rfl) (fun K hK => ?_)
        have b30 := row_cell TR5.out.2.2.2.1 0; have b31 := row_cell TR5.out.2.2.2.1 1; have b32 := row_cell TR5.out.2.2.2.1 2; have b33 := row_cell TR5.out.2.2.2.1 3; have b34 := row_cell TR5.out.2.2.2.1 4; have b3f := row_frz TR5.out.2.2.2.1; have b3l := row_lt TR5.out.2.2.2.1; go_simp
        have TR6 := Lib.hid (show (fun z0 : World => ZL z0 w.heap.size (some ⟨b, off, none⟩) l c ∧ Zz z0 (w.heap.size + 1) ∧ Zz z0 (w.heap.size + 1 + 1) ∧ ZF z0 w18.heap.size (Flo.cop .sub FA G) ∧ Zz z0 (w18.heap.size + 1) ∧ Below w.heap.size w z0) ((w18.alloc (.cells #[.int .i64 2, .int .i64 0, .float .f64 (Flo.cop .sub FA G), .string ⟨#[]⟩, .slice none 0 0] 27)).alloc (.cells #[.int .i64 0, .int .i64 0, .float .f64 0, .string ⟨#[]⟩, .slice none 0 0] 27)) from ⟨(row_alloc_step (row_alloc_step (TR3.out.1) _) _), (row_alloc_step (row_alloc_step (TR3.out.2.1) _) _), (row_alloc_step (row_alloc_step (TR3.out.2.2.1) _) _), (by have h := row_alloc_step (row_alloc w18 #[.int .i64 2, .int .i64 0, .float .f64 (Flo.cop .sub FA G), .string ⟨#[]⟩, .slice none 0 0] 27) (.cells #[.int .i64 0, .int .i64 0, .float .f64 0, .string ⟨#[]⟩, .slice none 0 0] 27); (try simp only [World.size_alloc, World.size_drew, World.size_setCell] at h); exact h), (by have h := row_alloc (w18.alloc (.cells #[.int .i64 2, .int .i64 0, .float .f64 (Flo.cop .sub FA G), .string ⟨#[]⟩, .slice none 0 0] 27)) #[.int .i64 0, .int .i64 0, .float .f64 0, .string ⟨#[]⟩, .slice none 0 0] 27; (try simp only [World.size_alloc, World.size_drew, World.size_setCell] at h); exact h), bel_step TR3.out.2.2.2 (bel_alloc (bel_alloc (Below.refl _ _) _) _)⟩)
        clear b30 b31 b32 b33 b34 b3f b3l
        go_wp2_with fail
        refine hK.out _ _ ?hsv30_ (fun hHeld => ?_)
        case hsv30_ => exact ⟨row_cell TR6.out.1 0, row_cell TR6.out.1 1, row_cell TR6.out.1 2, row_cell TR6.out.1 3, row_cell TR6.out.1 4, cell_keep TR6.out.2.2.2.2.2 Hd4.out, cell_keep TR6.out.2.2.2.2.2 Hd6.out⟩
        clear hK K
        (try simp only [Act.put, pk0, pk1, pk2])
        refine zr1 19 (by kernel_rfl) (by simp only [lk0, lk1, lk2]; rfl) (fun K hK => ?_)
        have b30 := row_cell TR6.out.2.2.2.2.1 0; have b31 := row_cell TR6.out.2.2.2.2.1 1; have b32 := row_cell TR6.out.2.2.2.2.1 2; have b33 := row_cell TR6.out.2.2.2.2.1 3; have b34 := row_cell TR6.out.2.2.2.2.1 4; have b3f := row_frz TR6.out.2.2.2.2.1; have b3l := row_lt TR6.out.2.2.2.2.1; go_simp
        have TR7 := Lib.hid (show (fun z0 : World => ZL z0 w.heap.size (some ⟨b, off, none⟩) l c ∧ Zz z0 (w.heap.size + 1) ∧ Zz z0 (w.heap.size + 1 + 1) ∧ ZF z0 w18.heap.size (Flo.cop .sub FA G) ∧ ZF z0 (w18.heap.size + 1) (Flo.cop .add FD G) ∧ Below w.heap.size w z0) ((w18.alloc (.cells #[.int .i64 2, .int .i64 0, .float .f64 (Flo.cop .sub FA G), .string ⟨#[]⟩, .slice none 0 0] 27)).alloc (.cells #[.int .i64 2, .int .i64 0, .float .f64 (Flo.cop .add FD G), .string ⟨#[]⟩, .slice none 0 0] 27)) from ⟨(row_alloc_step (row_alloc_step (TR3.out.1) _) _), (row_alloc_step (row_alloc_step (TR3.out.2.1) _) _), (row_alloc_step (row_alloc_step (TR3.out.2.2.1) _) _), (by have h := row_alloc_step (row_alloc w18 #[.int .i64 2, .int .i64 0, .float .f64 (Flo.cop .sub FA G), .string ⟨#[]⟩, .slice none 0 0] 27) (.cells #[.int .i64 2, .int .i64 0, .float .f64 (Flo.cop .add FD G), .string ⟨#[]⟩, .slice none 0 0] 27); (try simp only [World.size_alloc, World.size_drew, World.size_setCell] at h); exact h), (by have h := row_alloc (w18.alloc (.cells #[.int .i64 2, .int .i64 0, .float .f64 (Flo.cop .sub FA G), .string ⟨#[]⟩, .slice none 0 0] 27)) #[.int .i64 2, .int .i64 0, .float .f64 (Flo.cop .add FD G), .string ⟨#[]⟩, .slice none 0 0] 27; (try simp only [World.size_alloc, World.size_drew, World.size_setCell] at h); exact h), bel_step TR3.out.2.2.2 (bel_alloc (bel_alloc (Below.refl _ _) _) _)⟩)
        clear b30 b31 b32 b33 b34 b3f b3l
        go_wp2_with fail
        refine hK.out _ _ ?hsv31_ (fun hHeld => ?_)
        case hsv31_ => exact ⟨row_cell TR7.out.1 0, row_cell TR7.out.1 1, row_cell TR7.out.1 2, row_cell TR7.out.1 3, row_cell TR7.out.1 4, cell_keep TR7.out.2.2.2.2.2 Hd4.out, cell_keep TR7.out.2.2.2.2.2 Hd6.out⟩
        clear hK K
        (try simp only [Act.put, pk0, pk1, pk2])
        refine wpAnyH_done (by kernel_rfl) ?_ _
        revert TR7
        generalize ((w18.alloc (.cells #[.int .i64 2, .int .i64 0, .float .f64 (Flo.cop .sub FA G), .string ⟨#[]⟩, .slice none 0 0] 27)).alloc (.cells #[.int .i64 2, .int .i64 0, .float .f64 (Flo.cop .add FD G), .string ⟨#[]⟩, .slice none 0 0] 27)) = Wg32
        intro TR7
        exact hQ _ _ _ (by omega) (by omega) ⟨TR7.out.1, TR7.out.2.1, TR7.out.2.2.1, TR7.out.2.2.2.1, TR7.out.2.2.2.2.1, TR7.out.2.2.2.2.2⟩
      case mov19_ =>
        refine AllReadyH.cons (o := ?_) ?hov33_ ?hstv33_ AllReadyH.nil
        case hov33_ => (simp only [lk0, lk1, lk2]; rfl)
        intro K hK
        go_simp
        have hlt34 : w.heap.size < w18.heap.size := (by have h := row_lt TR3.out.1; (try simp only [World.size_alloc, World.size_drew] at h); exact h)
        have hlt35 : w.heap.size + 1 < w18.heap.size := (by have h := row_lt TR3.out.2.1; (try simp only [World.size_alloc, World.size_drew] at h); exact h)
        have hlt36 : w.heap.size + 1 + 1 < w18.heap.size := (by have h := row_lt TR3.out.2.2.1; (try simp only [World.size_alloc, World.size_drew] at h); exact h)
        have hlt37 : w.heap.size ≤ w18.heap.size := (by have h := TR3.out.2.2.2.size; (try simp only [World.size_alloc, World.size_drew] at h); exact h)
        have TR4 := Lib.hid (show (fun z0 : World => ZL z0 w.heap.size (some ⟨b, off, none⟩) l c ∧ Zz z0 (w.heap.size + 1) ∧ Zz z0 (w.heap.size + 1 + 1) ∧ Zz z0 w18.heap.size ∧ Below w.heap.size w z0) (w18.alloc (.cells #[.int .i64 0, .int .i64 0, .float .f64 0, .string ⟨#[]⟩, .slice none 0 0] 27)) from ⟨(row_alloc_step (TR3.out.1) _), (row_alloc_step (TR3.out.2.1) _), (row_alloc_step (TR3.out.2.2.1) _), (by have h := row_alloc w18 #[.int .i64 0, .int .i64 0, .float .f64 0, .string ⟨#[]⟩, .slice none 0 0] 27; (try simp only [World.size_alloc, World.size_drew, World.size_setCell] at h); exact h), bel_step TR3.out.2.2.2 (bel_alloc (Below.refl _ _) _)⟩)
        go_wp2_with fail
        refine hK.out _ _ ?hsv33_ (fun hHeld => ?_)
        case hsv33_ => exact ⟨row_cell TR4.out.1 0, row_cell TR4.out.1 1, row_cell TR4.out.1 2, row_cell TR4.out.1 3, row_cell TR4.out.1 4, cell_keep TR4.out.2.2.2.2 Hd4.out, cell_keep TR4.out.2.2.2.2 Hd6.out⟩
        clear hK K
        (try simp only [Act.put, pk0, pk1, pk2])
        refine zr1 16 (by kernel_rfl) (by simp only [lk0, lk1, lk2]; rfl) (fun K hK => ?_)
        go_simp
        have hlt39 : w.heap.size < w18.heap.size + 1 := (by have h := row_lt TR4.out.1; (try simp only [World.size_alloc, World.size_drew] at h); exact h)
        have hlt40 : w.heap.size + 1 < w18.heap.size + 1 := (by have h := row_lt TR4.out.2.1; (try simp only [World.size_alloc, World.size_drew] at h); exact h)
        have hlt41 : w.heap.size + 1 + 1 < w18.heap.size + 1 := (by have h := row_lt TR4.out.2.2.1; (try simp only [World.size_alloc, World.size_drew] at h); exact h)
        have hlt42 : w18.heap.size < w18.heap.size + 1 := (by have h := row_lt TR4.out.2.2.2.1; (try simp only [World.size_alloc, World.size_drew] at h); exact h)
        have hlt43 : w.heap.size ≤ w18.heap.size + 1 := (by have h := TR4.out.2.2.2.2.size; (try simp only [World.size_alloc, World.size_drew] at h); exact h)
        have TR5 := Lib.hid (show (fun z0 : World => ZL z0 w.heap.size (some ⟨b, off, none⟩) l c ∧ Zz z0 (w.heap.size + 1) ∧ Zz z0 (w.heap.size + 1 + 1) ∧ Zz z0 w18.heap.size ∧ Zz z0 (w18.heap.size + 1) ∧ Below w.heap.size w z0) ((w18.alloc (.cells #[.int .i64 0, .int .i64 0, .float .f64 0, .string ⟨#[]⟩, .slice none 0 0] 27)).alloc (.cells #[.int .i64 0, .int .i64 0, .float .f64 0, .string ⟨#[]⟩, .slice none 0 0] 27)) from ⟨(row_alloc_step (row_alloc_step (TR3.out.1) _) _), (row_alloc_step (row_alloc_step (TR3.out.2.1) _) _), (row_alloc_step (row_alloc_step (TR3.out.2.2.1) _) _), (by have h := row_alloc_step (row_alloc w18 #[.int .i64 0, .int .i64 0, .float .f64 0, .string ⟨#[]⟩, .slice none 0 0] 27) (.cells #[.int .i64 0, .int .i64 0, .float .f64 0, .string ⟨#[]⟩, .slice none 0 0] 27); (try simp only [World.size_alloc, World.size_drew, World.size_setCell] at h); exact h), (by have h := row_alloc (w18.alloc (.cells #[.int .i64 0, .int .i64 0, .float .f64 0, .string ⟨#[]⟩, .slice none 0 0] 27)) #[.int .i64 0, .int .i64 0, .float .f64 0, .string ⟨#[]⟩, .slice none 0 0] 27; (try simp only [World.size_alloc, World.size_drew, World.size_setCell] at h); exact h), bel_step TR3.out.2.2.2 (bel_alloc (bel_alloc (Below.refl _ _) _) _)⟩)
        go_wp2_with fail
        refine hK.out _ _ ?hsv38_ (fun hHeld => ?_)
        case hsv38_ => exact ⟨row_cell TR5.out.1 0, row_cell TR5.out.1 1, row_cell TR5.out.1 2, row_cell TR5.out.1 3, row_cell TR5.out.1 4, cell_keep TR5.out.2.2.2.2.2 Hd4.out, cell_keep TR5.out.2.2.2.2.2 Hd6.out⟩
        clear hK K
        (try simp only [Act.put, pk0, pk1, pk2])
        refine zr1 18 (by kernel_rfl) (by simp only [lk0, lk1, lk2]; rfl) (fun K hK => ?_)
        have b30 := row_cell TR5.out.2.2.2.2.1 0; have b31 := row_cell TR5.out.2.2.2.2.1 1; have b32 := row_cell TR5.out.2.2.2.2.1 2; have b33 := row_cell TR5.out.2.2.2.2.1 3; have b34 := row_cell TR5.out.2.2.2.2.1 4; have b3f := row_frz TR5.out.2.2.2.2.1; have b3l := row_lt TR5.out.2.2.2.2.1; go_simp
        have TR6 := Lib.hid (show (fun z0 : World => ZL z0 w.heap.size (some ⟨b, off, none⟩) l c ∧ Zz z0 (w.heap.size + 1) ∧ Zz z0 (w.heap.size + 1 + 1) ∧ Zz z0 w18.heap.size ∧ ZF z0 (w18.heap.size + 1) (Flo.cop .sub FA G) ∧ Below w.heap.size w z0) ((w18.alloc (.cells #[.int .i64 0, .int .i64 0, .float .f64 0, .string ⟨#[]⟩, .slice none 0 0] 27)).alloc (.cells #[.int .i64 2, .int .i64 0, .float .f64 (Flo.cop .sub FA G), .string ⟨#[]⟩, .slice none 0 0] 27)) from ⟨(row_alloc_step (row_alloc_step (TR3.out.1) _) _), (row_alloc_step (row_alloc_step (TR3.out.2.1) _) _), (row_alloc_step (row_alloc_step (TR3.out.2.2.1) _) _), (by have h := row_alloc_step (row_alloc w18 #[.int .i64 0, .int .i64 0, .float .f64 0, .string ⟨#[]⟩, .slice none 0 0] 27) (.cells #[.int .i64 2, .int .i64 0, .float .f64 (Flo.cop .sub FA G), .string ⟨#[]⟩, .slice none 0 0] 27); (try simp only [World.size_alloc, World.size_drew, World.size_setCell] at h); exact h), (by have h := row_alloc (w18.alloc (.cells #[.int .i64 0, .int .i64 0, .float .f64 0, .string ⟨#[]⟩, .slice none 0 0] 27)) #[.int .i64 2, .int .i64 0, .float .f64 (Flo.cop .sub FA G), .string ⟨#[]⟩, .slice none 0 0] 27; (try simp only [World.size_alloc, World.size_drew, World.size_setCell] at h); exact h), bel_step TR3.out.2.2.2 (bel_alloc (bel_alloc (Below.refl _ _) _) _)⟩)
        clear b30 b31 b32 b33 b34 b3f b3l
        go_wp2_with fail
        refine hK.out _ _ ?hsv44_ (fun hHeld => ?_)
        case hsv44_ => exact ⟨row_cell TR6.out.1 0, row_cell TR6.out.1 1, row_cell TR6.out.1 2, row_cell TR6.out.1 3, row_cell TR6.out.1 4, cell_keep TR6.out.2.2.2.2.2 Hd4.out, cell_keep TR6.out.2.2.2.2.2 Hd6.out⟩
        clear hK K
        (try simp only [Act.put, pk0, pk1, pk2])
        refine zr1 19 (by kernel_rfl) (by simp only [lk0, lk1, lk2]; rfl) (fun K hK => ?_)
        have b30 := row_cell TR6.out.2.2.2.1 0; have b31 := row_cell TR6.out.2.2.2.1 1; have b32 := row_cell TR6.out.2.2.2.1 2; have b33 := row_cell TR6.out.2.2.2.1 3; have b34 := row_cell TR6.out.2.2.2.1 4; have b3f := row_frz TR6.out.2.2.2.1; have b3l := row_lt TR6.out.2.2.2.1; go_simp
        have TR7 := Lib.hid (show (fun z0 : World => ZL z0 w.heap.size (some ⟨b, off, none⟩) l c ∧ Zz z0 (w.heap.size + 1) ∧ Zz z0 (w.heap.size + 1 + 1) ∧ ZF z0 w18.heap.size (Flo.cop .add FD G) ∧ ZF z0 (w18.heap.size + 1) (Flo.cop .sub FA G) ∧ Below w.heap.size w z0) ((w18.alloc (.cells #[.int .i64 2, .int .i64 0, .float .f64 (Flo.cop .add FD G), .string ⟨#[]⟩, .slice none 0 0] 27)).alloc (.cells #[.int .i64 2, .int .i64 0, .float .f64 (Flo.cop .sub FA G), .string ⟨#[]⟩, .slice none 0 0] 27)) from ⟨(row_alloc_step (row_alloc_step (TR3.out.1) _) _), (row_alloc_step (row_alloc_step (TR3.out.2.1) _) _), (row_alloc_step (row_alloc_step (TR3.out.2.2.1) _) _), (by have h := row_alloc_step (row_alloc w18 #[.int .i64 2, .int .i64 0, .float .f64 (Flo.cop .add FD G), .string ⟨#[]⟩, .slice none 0 0] 27) (.cells #[.int .i64 2, .int .i64 0, .float .f64 (Flo.cop .sub FA G), .string ⟨#[]⟩, .slice none 0 0] 27); (try simp only [World.size_alloc, World.size_drew, World.size_setCell] at h); exact h), (by have h := row_alloc (w18.alloc (.cells #[.int .i64 2, .int .i64 0, .float .f64 (Flo.cop .add FD G), .string ⟨#[]⟩, .slice none 0 0] 27)) #[.int .i64 2, .int .i64 0, .float .f64 (Flo.cop .sub FA G), .string ⟨#[]⟩, .slice none 0 0] 27; (try simp only [World.size_alloc, World.size_drew, World.size_setCell] at h); exact h), bel_step TR3.out.2.2.2 (bel_alloc (bel_alloc (Below.refl _ _) _) _)⟩)
        clear b30 b31 b32 b33 b34 b3f b3l
        go_wp2_with fail
        refine hK.out _ _ ?hsv45_ (fun hHeld => ?_)
        case hsv45_ => exact ⟨row_cell TR7.out.1 0, row_cell TR7.out.1 1, row_cell TR7.out.1 2, row_cell TR7.out.1 3, row_cell TR7.out.1 4, cell_keep TR7.out.2.2.2.2.2 Hd4.out, cell_keep TR7.out.2.2.2.2.2 Hd6.out⟩
        clear hK K
        (try simp only [Act.put, pk0, pk1, pk2])
        refine wpAnyH_done (by kernel_rfl) ?_ _
        revert TR7
        generalize ((w18.alloc (.cells #[.int .i64 2, .int .i64 0, .float .f64 (Flo.cop .add FD G), .string ⟨#[]⟩, .slice none 0 0] 27)).alloc (.cells #[.int .i64 2, .int .i64 0, .float .f64 (Flo.cop .sub FA G), .string ⟨#[]⟩, .slice none 0 0] 27)) = Wg46
        intro TR7
        exact hQ _ _ _ (by omega) (by omega) ⟨TR7.out.1, TR7.out.2.1, TR7.out.2.2.1, TR7.out.2.2.2.2.1, TR7.out.2.2.2.1, TR7.out.2.2.2.2.2⟩
    case mov17_ =>
      refine AllReadyH.cons (o := ?_) ?hov47_ ?hstv47_ ?mov47_
      case hov47_ => (simp only [lk0, lk1, lk2]; rfl)
      case hstv47_ =>
        intro K hK
        go_simp
        have hlt48 : w.heap.size < w16.heap.size := (by have h := row_lt TR2.out.1; (try simp only [World.size_alloc, World.size_drew] at h); exact h)
        have hlt49 : w.heap.size + 1 < w16.heap.size := (by have h := row_lt TR2.out.2.1; (try simp only [World.size_alloc, World.size_drew] at h); exact h)
        have hlt50 : w.heap.size + 1 + 1 < w16.heap.size := (by have h := row_lt TR2.out.2.2.1; (try simp only [World.size_alloc, World.size_drew] at h); exact h)
        have hlt51 : w.heap.size ≤ w16.heap.size := (by have h := TR2.out.2.2.2.size; (try simp only [World.size_alloc, World.size_drew] at h); exact h)
        have TR3 := Lib.hid (show (fun z0 : World => ZL z0 w.heap.size (some ⟨b, off, none⟩) l c ∧ Zz z0 (w.heap.size + 1) ∧ Zz z0 (w.heap.size + 1 + 1) ∧ Zz z0 w16.heap.size ∧ Below w.heap.size w z0) (w16.alloc (.cells #[.int .i64 0, .int .i64 0, .float .f64 0, .string ⟨#[]⟩, .slice none 0 0] 27)) from ⟨(row_alloc_step (TR2.out.1) _), (row_alloc_step (TR2.out.2.1) _), (row_alloc_step (TR2.out.2.2.1) _), (by have h := row_alloc w16 #[.int .i64 0, .int .i64 0, .float .f64 0, .string ⟨#[]⟩, .slice none 0 0] 27; (try simp only [World.size_alloc, World.size_drew, World.size_setCell] at h); exact h), bel_step TR2.out.2.2.2 (bel_alloc (Below.refl _ _) _)⟩)
        go_wp2_with fail
        refine hK.out _ _ ?hsv47_ (fun hHeld => ?_)
        case hsv47_ => exact ⟨row_cell TR3.out.1 0, row_cell TR3.out.1 1, row_cell TR3.out.1 2, row_cell TR3.out.1 3, row_cell TR3.out.1 4, cell_keep TR3.out.2.2.2.2 Hd4.out, cell_keep TR3.out.2.2.2.2 Hd6.out⟩
        clear hK K
        (try simp only [Act.put, pk0, pk1, pk2])
        refine wpAnyH_ready (rs := [15, 17]) (by kernel_rfl) (by simp) ?_
        refine AllReadyH.cons (o := ?_) ?hov52_ ?hstv52_ ?mov52_
        case hov52_ => (simp only [lk0, lk1, lk2]; rfl)
        case hstv52_ =>
          intro K hK
          go_simp
          go_at_call 20; refine (float_is HCG.out _).mono ?_; rintro e w53 ⟨rfl, hbw53⟩
          have TR4 := Lib.hid (And.intro (row_step TR3.out.1 hbw53) (And.intro (row_step TR3.out.2.1 hbw53) (And.intro (row_step TR3.out.2.2.1 hbw53) (And.intro (row_step TR3.out.2.2.2.1 hbw53) (bel_step TR3.out.2.2.2.2 hbw53)))))
          clear TR3
          clear hbw53
          go_wp2_with fail
          refine hK.out _ _ ?hsv52_ (fun hHeld => ?_)
          case hsv52_ => exact ⟨row_cell TR4.out.1 0, row_cell TR4.out.1 1, row_cell TR4.out.1 2, row_cell TR4.out.1 3, row_cell TR4.out.1 4, cell_keep TR4.out.2.2.2.2 Hd4.out, cell_keep TR4.out.2.2.2.2 Hd6.out⟩
          clear hK K
          (try simp only [Act.put, pk0, pk1, pk2])
          refine zr1 17 (by kernel_rfl) (by simp only [lk0, lk1, lk2]; rfl) (fun K hK => ?_)
          go_simp
          have hlt55 : w.heap.size < w53.heap.size := (by have h := row_lt TR4.out.1; (try simp only [World.size_alloc, World.size_drew] at h); exact h)
          have hlt56 : w.heap.size + 1 < w53.heap.size := (by have h := row_lt TR4.out.2.1; (try simp only [World.size_alloc, World.size_drew] at h); exact h)
          have hlt57 : w.heap.size + 1 + 1 < w53.heap.size := (by have h := row_lt TR4.out.2.2.1; (try simp only [World.size_alloc, World.size_drew] at h); exact h)
          have hlt58 : w16.heap.size < w53.heap.size := (by have h := row_lt TR4.out.2.2.2.1; (try simp only [World.size_alloc, World.size_drew] at h); exact h)
          have hlt59 : w.heap.size ≤ w53.heap.size := (by have h := TR4.out.2.2.2.2.size; (try simp only [World.size_alloc, World.size_drew] at h); exact h)
          have TR5 := Lib.hid (show (fun z0 : World => ZL z0 w.heap.size (some ⟨b, off, none⟩) l c ∧ Zz z0 (w.heap.size + 1) ∧ Zz z0 (w.heap.size + 1 + 1) ∧ Zz z0 w16.heap.size ∧ Zz z0 w53.heap.size ∧ Below w.heap.size w z0) (w53.alloc (.cells #[.int .i64 0, .int .i64 0, .float .f64 0, .string ⟨#[]⟩, .slice none 0 0] 27)) from ⟨(row_alloc_step (TR4.out.1) _), (row_alloc_step (TR4.out.2.1) _), (row_alloc_step (TR4.out.2.2.1) _), (row_alloc_step (TR4.out.2.2.2.1) _), (by have h := row_alloc w53 #[.int .i64 0, .int .i64 0, .float .f64 0, .string ⟨#[]⟩, .slice none 0 0] 27; (try simp only [World.size_alloc, World.size_drew, World.size_setCell] at h); exact h), bel_step TR4.out.2.2.2.2 (bel_alloc (Below.refl _ _) _)⟩)
          go_wp2_with fail
          refine hK.out _ _ ?hsv54_ (fun hHeld => ?_)
          case hsv54_ => exact ⟨row_cell TR5.out.1 0, row_cell TR5.out.1 1, row_cell TR5.out.1 2, row_cell TR5.out.1 3, row_cell TR5.out.1 4, cell_keep TR5.out.2.2.2.2.2 Hd4.out, cell_keep TR5.out.2.2.2.2.2 Hd6.out⟩
          clear hK K
          (try simp only [Act.put, pk0, pk1, pk2])
          refine zr1 18 (by kernel_rfl) (by simp only [lk0, lk1, lk2]; rfl) (fun K hK => ?_)
          have b30 := row_cell TR4.out.2.2.2.1 0; have b31 := row_cell TR4.out.2.2.2.1 1; have b32 := row_cell TR4.out.2.2.2.1 2; have b33 := row_cell TR4.out.2.2.2.1 3; have b34 := row_cell TR4.out.2.2.2.1 4; have b3f := row_frz TR4.out.2.2.2.1; have b3l : w16.heap.size < w53.heap.size := row_lt TR4.out.2.2.2.1; have b3n0 : w53.heap.size ≠ w16.heap.size := (by omega); go_simp
          have TR6 := Lib.hid (show (fun z0 : World => ZL z0 w.heap.size (some ⟨b, off, none⟩) l c ∧ Zz z0 (w.heap.size + 1) ∧ Zz z0 (w.heap.size + 1 + 1) ∧ ZF z0 w16.heap.size (Flo.cop .sub FA G) ∧ Below w.heap.size w z0) (((((w53.setCell ⟨w16.heap.size, 0, none⟩ (.int .i64 2)).setCell ⟨w16.heap.size, 1, none⟩ (.int .i64 0)).setCell ⟨w16.heap.size, 2, none⟩ (.float .f64 (Flo.cop .sub FA G))).setCell ⟨w16.heap.size, 3, none⟩ (.string ⟨#[]⟩)).setCell ⟨w16.heap.size, 4, none⟩ (.slice none 0 0)) from ⟨s5o TR4.out.1 (by omega), s5o TR4.out.2.1 (by omega), s5o TR4.out.2.2.1 (by omega), s5r TR4.out.2.2.2.1, s5b TR4.out.2.2.2.2 (by omega)⟩)
          have TR7 := Lib.hid (show (fun z0 : World => ZL z0 w.heap.size (some ⟨b, off, none⟩) l c ∧ Zz z0 (w.heap.size + 1) ∧ Zz z0 (w.heap.size + 1 + 1) ∧ ZF z0 w16.heap.size (Flo.cop .sub FA G) ∧ Zz z0 w53.heap.size ∧ Below w.heap.size w z0) ((((((w53.setCell ⟨w16.heap.size, 0, none⟩ (.int .i64 2)).setCell ⟨w16.heap.size, 1, none⟩ (.int .i64 0)).setCell ⟨w16.heap.size, 2, none⟩ (.float .f64 (Flo.cop .sub FA G))).setCell ⟨w16.heap.size, 3, none⟩ (.string ⟨#[]⟩)).setCell ⟨w16.heap.size, 4, none⟩ (.slice none 0 0)).alloc (.cells #[.int .i64 0, .int .i64 0, .float .f64 0, .string ⟨#[]⟩, .slice none 0 0] 27)) from ⟨(row_alloc_step (TR6.out.1) _), (row_alloc_step (TR6.out.2.1) _), (row_alloc_step (TR6.out.2.2.1) _), (row_alloc_step (TR6.out.2.2.2.1) _), (by have h := row_alloc (((((w53.setCell ⟨w16.heap.size, 0, none⟩ (.int .i64 2)).setCell ⟨w16.heap.size, 1, none⟩ (.int .i64 0)).setCell ⟨w16.heap.size, 2, none⟩ (.float .f64 (Flo.cop .sub FA G))).setCell ⟨w16.heap.size, 3, none⟩ (.string ⟨#[]⟩)).setCell ⟨w16.heap.size, 4, none⟩ (.slice none 0 0)) #[.int .i64 0, .int .i64 0, .float .f64 0, .string ⟨#[]⟩, .slice none 0 0] 27; (try simp only [World.size_alloc, World.size_drew, World.size_setCell] at h); exact h), bel_step TR6.out.2.2.2.2 (bel_alloc (Below.refl _ _) _)⟩)
          clear b30 b31 b32 b33 b34 b3f b3l b3n0
          go_wp2_with fail
          refine hK.out _ _ ?hsv60_ (fun hHeld => ?_)
          case hsv60_ => exact ⟨row_cell TR7.out.1 0, row_cell TR7.out.1 1, row_cell TR7.out.1 2, row_cell TR7.out.1 3, row_cell TR7.out.1 4, cell_keep TR7.out.2.2.2.2.2 Hd4.out, cell_keep TR7.out.2.2.2.2.2 Hd6.out⟩
          clear hK K
          (try simp only [Act.put, pk0, pk1, pk2])
          refine zr1 19 (by kernel_rfl) (by simp only [lk0, lk1, lk2]; rfl) (fun K hK => ?_)
          have b30 := row_cell TR7.out.2.2.2.2.1 0; have b31 := row_cell TR7.out.2.2.2.2.1 1; have b32 := row_cell TR7.out.2.2.2.2.1 2; have b33 := row_cell TR7.out.2.2.2.2.1 3; have b34 := row_cell TR7.out.2.2.2.2.1 4; have b3f := row_frz TR7.out.2.2.2.2.1; have b3l := row_lt TR7.out.2.2.2.2.1; go_simp
          have TR8 := Lib.hid (show (fun z0 : World => ZL z0 w.heap.size (some ⟨b, off, none⟩) l c ∧ Zz z0 (w.heap.size + 1) ∧ Zz z0 (w.heap.size + 1 + 1) ∧ ZF z0 w16.heap.size (Flo.cop .sub FA G) ∧ ZF z0 w53.heap.size (Flo.cop .add FD G) ∧ Below w.heap.size w z0) ((((((w53.setCell ⟨w16.heap.size, 0, none⟩ (.int .i64 2)).setCell ⟨w16.heap.size, 1, none⟩ (.int .i64 0)).setCell ⟨w16.heap.size, 2, none⟩ (.float .f64 (Flo.cop .sub FA G))).setCell ⟨w16.heap.size, 3, none⟩ (.string ⟨#[]⟩)).setCell ⟨w16.heap.size, 4, none⟩ (.slice none 0 0)).alloc (.cells #[.int .i64 2, .int .i64 0, .float .f64 (Flo.cop .add FD G), .string ⟨#[]⟩, .slice none 0 0] 27)) from ⟨(row_alloc_step (TR6.out.1) _), (row_alloc_step (TR6.out.2.1) _), (row_alloc_step (TR6.out.2.2.1) _), (row_alloc_step (TR6.out.2.2.2.1) _), (by have h := row_alloc (((((w53.setCell ⟨w16.heap.size, 0, none⟩ (.int .i64 2)).setCell ⟨w16.heap.size, 1, none⟩ (.int .i64 0)).setCell ⟨w16.heap.size, 2, none⟩ (.float .f64 (Flo.cop .sub FA G))).setCell ⟨w16.heap.size, 3, none⟩ (.string ⟨#[]⟩)).setCell ⟨w16.heap.size, 4, none⟩ (.slice none 0 0)) #[.int .i64 2, .int .i64 0, .float .f64 (Flo.cop .add FD G), .string ⟨#[]⟩, .slice none 0 0] 27; (try simp only [World.size_alloc, World.size_drew, World.size_setCell] at h); exact h), bel_step TR6.out.2.2.2.2 (bel_alloc (Below.refl _ _) _)⟩)
          clear b30 b31 b32 b33 b34 b3f b3l
          go_wp2_with fail
          refine hK.out _ _ ?hsv61_ (fun hHeld => ?_)
          case hsv61_ => exact ⟨row_cell TR8.out.1 0, row_cell TR8.out.1 1, row_cell TR8.out.1 2, row_cell TR8.out.1 3, row_cell TR8.out.1 4, cell_keep TR8.out.2.2.2.2.2 Hd4.out, cell_keep TR8.out.2.2.2.2.2 Hd6.out⟩
          clear hK K
          (try simp only [Act.put, pk0, pk1, pk2])
          refine wpAnyH_done (by kernel_rfl) ?_ _
          revert TR8
          generalize ((((((w53.setCell ⟨w16.heap.size, 0, none⟩ (.int .i64 2)).setCell ⟨w16.heap.size, 1, none⟩ (.int .i64 0)).setCell ⟨w16.heap.size, 2, none⟩ (.float .f64 (Flo.cop .sub FA G))).setCell ⟨w16.heap.size, 3, none⟩ (.string ⟨#[]⟩)).setCell ⟨w16.heap.size, 4, none⟩ (.slice none 0 0)).alloc (.cells #[.int .i64 2, .int .i64 0, .float .f64 (Flo.cop .add FD G), .string ⟨#[]⟩, .slice none 0 0] 27)) = Wg62
          intro TR8
          exact hQ _ _ _ (by omega) (by omega) ⟨TR8.out.1, TR8.out.2.1, TR8.out.2.2.1, TR8.out.2.2.2.1, TR8.out.2.2.2.2.1, TR8.out.2.2.2.2.2⟩
        case mov52_ =>
          refine AllReadyH.cons (o := ?_) ?hov63_ ?hstv63_ AllReadyH.nil
          case hov63_ => (simp only [lk0, lk1, lk2]; rfl)
          intro K hK
          go_simp
          have hlt64 : w.heap.size < w16.heap.size + 1 := (by have h := row_lt TR3.out.1; (try simp only [World.size_alloc, World.size_drew] at h); exact h)
          have hlt65 : w.heap.size + 1 < w16.heap.size + 1 := (by have h := row_lt TR3.out.2.1; (try simp only [World.size_alloc, World.size_drew] at h); exact h)
          have hlt66 : w.heap.size + 1 + 1 < w16.heap.size + 1 := (by have h := row_lt TR3.out.2.2.1; (try simp only [World.size_alloc, World.size_drew] at h); exact h)
          have hlt67 : w16.heap.size < w16.heap.size + 1 := (by have h := row_lt TR3.out.2.2.2.1; (try simp only [World.size_alloc, World.size_drew] at h); exact h)
          have hlt68 : w.heap.size ≤ w16.heap.size + 1 := (by have h := TR3.out.2.2.2.2.size; (try simp only [World.size_alloc, World.size_drew] at h); exact h)
          have TR4 := Lib.hid (show (fun z0 : World => ZL z0 w.heap.size (some ⟨b, off, none⟩) l c ∧ Zz z0 (w.heap.size + 1) ∧ Zz z0 (w.heap.size + 1 + 1) ∧ Zz z0 w16.heap.size ∧ Zz z0 (w16.heap.size + 1) ∧ Below w.heap.size w z0) ((w16.alloc (.cells #[.int .i64 0, .int .i64 0, .float .f64 0, .string ⟨#[]⟩, .slice none 0 0] 27)).alloc (.cells #[.int .i64 0, .int .i64 0, .float .f64 0, .string ⟨#[]⟩, .slice none 0 0] 27)) from ⟨(row_alloc_step (row_alloc_step (TR2.out.1) _) _), (row_alloc_step (row_alloc_step (TR2.out.2.1) _) _), (row_alloc_step (row_alloc_step (TR2.out.2.2.1) _) _), (by have h := row_alloc_step (row_alloc w16 #[.int .i64 0, .int .i64 0, .float .f64 0, .string ⟨#[]⟩, .slice none 0 0] 27) (.cells #[.int .i64 0, .int .i64 0, .float .f64 0, .string ⟨#[]⟩, .slice none 0 0] 27); (try simp only [World.size_alloc, World.size_drew, World.size_setCell] at h); exact h), (by have h := row_alloc (w16.alloc (.cells #[.int .i64 0, .int .i64 0, .float .f64 0, .string ⟨#[]⟩, .slice none 0 0] 27)) #[.int .i64 0, .int .i64 0, .float .f64 0, .string ⟨#[]⟩, .slice none 0 0] 27; (try simp only [World.size_alloc, World.size_drew, World.size_setCell] at h); exact h), bel_step TR2.out.2.2.2 (bel_alloc (bel_alloc (Below.refl _ _) _) _)⟩)
          go_wp2_with fail
          refine hK.out _ _ ?hsv63_ (fun hHeld => ?_)
          case hsv63_ => exact ⟨row_cell TR4.out.1 0, row_cell TR4.out.1 1, row_cell TR4.out.1 2, row_cell TR4.out.1 3, row_cell TR4.out.1 4, cell_keep TR4.out.2.2.2.2.2 Hd4.out, cell_keep TR4.out.2.2.2.2.2 Hd6.out⟩
          clear hK K
          (try simp only [Act.put, pk0, pk1, pk2])
          refine zr1 15 (by kernel_rfl) (by simp only [lk0, lk1, lk2]; rfl) (fun K hK => ?_)
          go_simp
          go_at_call 20; refine (float_is HCG.out _).mono ?_; rintro e w70 ⟨rfl, hbw70⟩
          have TR5 := Lib.hid (And.intro (row_step TR4.out.1 hbw70) (And.intro (row_step TR4.out.2.1 hbw70) (And.intro (row_step TR4.out.2.2.1 hbw70) (And.intro (row_step TR4.out.2.2.2.1 hbw70) (And.intro (row_step TR4.out.2.2.2.2.1 hbw70) (bel_step TR4.out.2.2.2.2.2 hbw70))))))
          clear TR4
          clear hbw70
          go_wp2_with fail
          refine hK.out _ _ ?hsv69_ (fun hHeld => ?_)
          case hsv69_ => exact ⟨row_cell TR5.out.1 0, row_cell TR5.out.1 1, row_cell TR5.out.1 2, row_cell TR5.out.1 3, row_cell TR5.out.1 4, cell_keep TR5.out.2.2.2.2.2 Hd4.out, cell_keep TR5.out.2.2.2.2.2 Hd6.out⟩
          clear hK K
          (try simp only [Act.put, pk0, pk1, pk2])
          refine zr1 18 (by kernel_rfl) (by simp only [lk0, lk1, lk2]; rfl) (fun K hK => ?_)
          have b30 := row_cell TR5.out.2.2.2.1 0; have b31 := row_cell TR5.out.2.2.2.1 1; have b32 := row_cell TR5.out.2.2.2.1 2; have b33 := row_cell TR5.out.2.2.2.1 3; have b34 := row_cell TR5.out.2.2.2.1 4; have b3f := row_frz TR5.out.2.2.2.1; have b3l := row_lt TR5.out.2.2.2.1; go_simp
          have TR6 := Lib.hid (show (fun z0 : World => ZL z0 w.heap.size (some ⟨b, off, none⟩) l c ∧ Zz z0 (w.heap.size + 1) ∧ Zz z0 (w.heap.size + 1 + 1) ∧ ZF z0 w16.heap.size (Flo.cop .sub FA G) ∧ Zz z0 (w16.heap.size + 1) ∧ Below w.heap.size w z0) (((((w70.setCell ⟨w16.heap.size, 0, none⟩ (.int .i64 2)).setCell ⟨w16.heap.size, 1, none⟩ (.int .i64 0)).setCell ⟨w16.heap.size, 2, none⟩ (.float .f64 (Flo.cop .sub FA G))).setCell ⟨w16.heap.size, 3, none⟩ (.string ⟨#[]⟩)).setCell ⟨w16.heap.size, 4, none⟩ (.slice none 0 0)) from ⟨s5o TR5.out.1 (by omega), s5o TR5.out.2.1 (by omega), s5o TR5.out.2.2.1 (by omega), s5r TR5.out.2.2.2.1, s5o TR5.out.2.2.2.2.1 (by omega), s5b TR5.out.2.2.2.2.2 (by omega)⟩)
          clear TR5
          clear b30 b31 b32 b33 b34 b3f b3l
          go_wp2_with fail
          refine hK.out _ _ ?hsv71_ (fun hHeld => ?_)
          case hsv71_ => exact ⟨row_cell TR6.out.1 0, row_cell TR6.out.1 1, row_cell TR6.out.1 2, row_cell TR6.out.1 3, row_cell TR6.out.1 4, cell_keep TR6.out.2.2.2.2.2 Hd4.out, cell_keep TR6.out.2.2.2.2.2 Hd6.out⟩
          clear hK K
          (try simp only [Act.put, pk0, pk1, pk2])
          refine zr1 19 (by kernel_rfl) (by simp only [lk0, lk1, lk2]; rfl) (fun K hK => ?_)
          have b30 := row_cell TR6.out.2.2.2.2.1 0; have b31 := row_cell TR6.out.2.2.2.2.1 1; have b32 := row_cell TR6.out.2.2.2.2.1 2; have b33 := row_cell TR6.out.2.2.2.2.1 3; have b34 := row_cell TR6.out.2.2.2.2.1 4; have b3f := row_frz TR6.out.2.2.2.2.1; have b3l := row_lt TR6.out.2.2.2.2.1; go_simp
          have TR7 := Lib.hid (show (fun z0 : World => ZL z0 w.heap.size (some ⟨b, off, none⟩) l c ∧ Zz z0 (w.heap.size + 1) ∧ Zz z0 (w.heap.size + 1 + 1) ∧ ZF z0 w16.heap.size (Flo.cop .sub FA G) ∧ ZF z0 (w16.heap.size + 1) (Flo.cop .add FD G) ∧ Below w.heap.size w z0) ((((((((((w70.setCell ⟨w16.heap.size, 0, none⟩ (.int .i64 2)).setCell ⟨w16.heap.size, 1, none⟩ (.int .i64 0)).setCell ⟨w16.heap.size, 2, none⟩ (.float .f64 (Flo.cop .sub FA G))).setCell ⟨w16.heap.size, 3, none⟩ (.string ⟨#[]⟩)).setCell ⟨w16.heap.size, 4, none⟩ (.slice none 0 0)).setCell ⟨w16.heap.size + 1, 0, none⟩ (.int .i64 2)).setCell ⟨w16.heap.size + 1, 1, none⟩ (.int .i64 0)).setCell ⟨w16.heap.size + 1, 2, none⟩ (.float .f64 (Flo.cop .add FD G))).setCell ⟨w16.heap.size + 1, 3, none⟩ (.string ⟨#[]⟩)).setCell ⟨w16.heap.size + 1, 4, none⟩ (.slice none 0 0)) from ⟨s5o TR6.out.1 (by omega), s5o TR6.out.2.1 (by omega), s5o TR6.out.2.2.1 (by omega), s5o TR6.out.2.2.2.1 (by omega), s5r TR6.out.2.2.2.2.1, s5b TR6.out.2.2.2.2.2 (by omega)⟩)
          clear TR6
          clear b30 b31 b32 b33 b34 b3f b3l
          go_wp2_with fail
          refine hK.out _ _ ?hsv72_ (fun hHeld => ?_)
          case hsv72_ => exact ⟨row_cell TR7.out.1 0, row_cell TR7.out.1 1, row_cell TR7.out.1 2, row_cell TR7.out.1 3, row_cell TR7.out.1 4, cell_keep TR7.out.2.2.2.2.2 Hd4.out, cell_keep TR7.out.2.2.2.2.2 Hd6.out⟩
          clear hK K
          (try simp only [Act.put, pk0, pk1, pk2])
          refine wpAnyH_done (by kernel_rfl) ?_ _
          revert TR7
          generalize ((((((((((w70.setCell ⟨w16.heap.size, 0, none⟩ (.int .i64 2)).setCell ⟨w16.heap.size, 1, none⟩ (.int .i64 0)).setCell ⟨w16.heap.size, 2, none⟩ (.float .f64 (Flo.cop .sub FA G))).setCell ⟨w16.heap.size, 3, none⟩ (.string ⟨#[]⟩)).setCell ⟨w16.heap.size, 4, none⟩ (.slice none 0 0)).setCell ⟨w16.heap.size + 1, 0, none⟩ (.int .i64 2)).setCell ⟨w16.heap.size + 1, 1, none⟩ (.int .i64 0)).setCell ⟨w16.heap.size + 1, 2, none⟩ (.float .f64 (Flo.cop .add FD G))).setCell ⟨w16.heap.size + 1, 3, none⟩ (.string ⟨#[]⟩)).setCell ⟨w16.heap.size + 1, 4, none⟩ (.slice none 0 0)) = Wg73
          intro TR7
          exact hQ _ _ _ (by omega) (by omega) ⟨TR7.out.1, TR7.out.2.1, TR7.out.2.2.1, TR7.out.2.2.2.1, TR7.out.2.2.2.2.1, TR7.out.2.2.2.2.2⟩
      case mov47_ =>
        refine AllReadyH.cons (o := ?_) ?hov74_ ?hstv74_ AllReadyH.nil
        case hov74_ => (simp only [lk0, lk1, lk2]; rfl)
        intro K hK
        go_simp
        have hlt75 : w.heap.size < w16.heap.size := (by have h := row_lt TR2.out.1; (try simp only [World.size_alloc, World.size_drew] at h); exact h)
        have hlt76 : w.heap.size + 1 < w16.heap.size := (by have h := row_lt TR2.out.2.1; (try simp only [World.size_alloc, World.size_drew] at h); exact h)
        have hlt77 : w.heap.size + 1 + 1 < w16.heap.size := (by have h := row_lt TR2.out.2.2.1; (try simp only [World.size_alloc, World.size_drew] at h); exact h)
        have hlt78 : w.heap.size ≤ w16.heap.size := (by have h := TR2.out.2.2.2.size; (try simp only [World.size_alloc, World.size_drew] at h); exact h)
        have TR3 := Lib.hid (show (fun z0 : World => ZL z0 w.heap.size (some ⟨b, off, none⟩) l c ∧ Zz z0 (w.heap.size + 1) ∧ Zz z0 (w.heap.size + 1 + 1) ∧ Zz z0 w16.heap.size ∧ Below w.heap.size w z0) (w16.alloc (.cells #[.int .i64 0, .int .i64 0, .float .f64 0, .string ⟨#[]⟩, .slice none 0 0] 27)) from ⟨(row_alloc_step (TR2.out.1) _), (row_alloc_step (TR2.out.2.1) _), (row_alloc_step (TR2.out.2.2.1) _), (by have h := row_alloc w16 #[.int .i64 0, .int .i64 0, .float .f64 0, .string ⟨#[]⟩, .slice none 0 0] 27; (try simp only [World.size_alloc, World.size_drew, World.size_setCell] at h); exact h), bel_step TR2.out.2.2.2 (bel_alloc (Below.refl _ _) _)⟩)
        go_wp2_with fail
        refine hK.out _ _ ?hsv74_ (fun hHeld => ?_)
        case hsv74_ => exact ⟨row_cell TR3.out.1 0, row_cell TR3.out.1 1, row_cell TR3.out.1 2, row_cell TR3.out.1 3, row_cell TR3.out.1 4, cell_keep TR3.out.2.2.2.2 Hd4.out, cell_keep TR3.out.2.2.2.2 Hd6.out⟩
        clear hK K
        (try simp only [Act.put, pk0, pk1, pk2])
        refine wpAnyH_ready (rs := [15, 16]) (by kernel_rfl) (by simp) ?_
        refine AllReadyH.cons (o := ?_) ?hov79_ ?hstv79_ ?mov79_
        case hov79_ => (simp only [lk0, lk1, lk2]; rfl)
        case hstv79_ =>
          intro K hK
          go_simp
          go_at_call 20; refine (float_is HCG.out _).mono ?_; rintro e w80 ⟨rfl, hbw80⟩
          have TR4 := Lib.hid (And.intro (row_step TR3.out.1 hbw80) (And.intro (row_step TR3.out.2.1 hbw80) (And.intro (row_step TR3.out.2.2.1 hbw80) (And.intro (row_step TR3.out.2.2.2.1 hbw80) (bel_step TR3.out.2.2.2.2 hbw80)))))
          clear TR3
          clear hbw80
          go_wp2_with fail
          refine hK.out _ _ ?hsv79_ (fun hHeld => ?_)
          case hsv79_ => exact ⟨row_cell TR4.out.1 0, row_cell TR4.out.1 1, row_cell TR4.out.1 2, row_cell TR4.out.1 3, row_cell TR4.out.1 4, cell_keep TR4.out.2.2.2.2 Hd4.out, cell_keep TR4.out.2.2.2.2 Hd6.out⟩
          clear hK K
          (try simp only [Act.put, pk0, pk1, pk2])
          refine zr1 16 (by kernel_rfl) (by simp only [lk0, lk1, lk2]; rfl) (fun K hK => ?_)
          go_simp
          have hlt82 : w.heap.size < w80.heap.size := (by have h := row_lt TR4.out.1; (try simp only [World.size_alloc, World.size_drew] at h); exact h)
          have hlt83 : w.heap.size + 1 < w80.heap.size := (by have h := row_lt TR4.out.2.1; (try simp only [World.size_alloc, World.size_drew] at h); exact h)
          have hlt84 : w.heap.size + 1 + 1 < w80.heap.size := (by have h := row_lt TR4.out.2.2.1; (try simp only [World.size_alloc, World.size_drew] at h); exact h)
          have hlt85 : w16.heap.size < w80.heap.size := (by have h := row_lt TR4.out.2.2.2.1; (try simp only [World.size_alloc, World.size_drew] at h); exact h)
          have hlt86 : w.heap.size ≤ w80.heap.size := (by have h := TR4.out.2.2.2.2.size; (try simp only [World.size_alloc, World.size_drew] at h); exact h)
          have TR5 := Lib.hid (show (fun z0 : World => ZL z0 w.heap.size (some ⟨b, off, none⟩) l c ∧ Zz z0 (w.heap.size + 1) ∧ Zz z0 (w.heap.size + 1 + 1) ∧ Zz z0 w16.heap.size ∧ Zz z0 w80.heap.size ∧ Below w.heap.size w z0) (w80.alloc (.cells #[.int .i64 0, .int .i64 0, .float .f64 0, .string ⟨#[]⟩, .slice none 0 0] 27)) from ⟨(row_alloc_step (TR4.out.1) _), (row_alloc_step (TR4.out.2.1) _), (row_alloc_step (TR4.out.2.2.1) _), (row_alloc_step (TR4.out.2.2.2.1) _), (by have h := row_alloc w80 #[.int .i64 0, .int .i64 0, .float .f64 0, .string ⟨#[]⟩, .slice none 0 0] 27; (try simp only [World.size_alloc, World.size_drew, World.size_setCell] at h); exact h), bel_step TR4.out.2.2.2.2 (bel_alloc (Below.refl _ _) _)⟩)
          go_wp2_with fail
          refine hK.out _ _ ?hsv81_ (fun hHeld => ?_)
          case hsv81_ => exact ⟨row_cell TR5.out.1 0, row_cell TR5.out.1 1, row_cell TR5.out.1 2, row_cell TR5.out.1 3, row_cell TR5.out.1 4, cell_keep TR5.out.2.2.2.2.2 Hd4.out, cell_keep TR5.out.2.2.2.2.2 Hd6.out⟩
          clear hK K
          (try simp only [Act.put, pk0, pk1, pk2])
          refine zr1 18 (by kernel_rfl) (by simp only [lk0, lk1, lk2]; rfl) (fun K hK => ?_)
          have b30 := row_cell TR5.out.2.2.2.2.1 0; have b31 := row_cell TR5.out.2.2.2.2.1 1; have b32 := row_cell TR5.out.2.2.2.2.1 2; have b33 := row_cell TR5.out.2.2.2.2.1 3; have b34 := row_cell TR5.out.2.2.2.2.1 4; have b3f := row_frz TR5.out.2.2.2.2.1; have b3l := row_lt TR5.out.2.2.2.2.1; go_simp
          have TR6 := Lib.hid (show (fun z0 : World => ZL z0 w.heap.size (some ⟨b, off, none⟩) l c ∧ Zz z0 (w.heap.size + 1) ∧ Zz z0 (w.heap.size + 1 + 1) ∧ Zz z0 w16.heap.size ∧ ZF z0 w80.heap.size (Flo.cop .sub FA G) ∧ Below w.heap.size w z0) (w80.alloc (.cells #[.int .i64 2, .int .i64 0, .float .f64 (Flo.cop .sub FA G), .string ⟨#[]⟩, .slice none 0 0] 27)) from ⟨(row_alloc_step (TR4.out.1) _), (row_alloc_step (TR4.out.2.1) _), (row_alloc_step (TR4.out.2.2.1) _), (row_alloc_step (TR4.out.2.2.2.1) _), (by have h := row_alloc w80 #[.int .i64 2, .int .i64 0, .float .f64 (Flo.cop .sub FA G), .string ⟨#[]⟩, .slice none 0 0] 27; (try simp only [World.size_alloc, World.size_drew, World.size_setCell] at h); exact h), bel_step TR4.out.2.2.2.2 (bel_alloc (Below.refl _ _) _)⟩)
          clear b30 b31 b32 b33 b34 b3f b3l
          go_wp2_with fail
          refine hK.out _ _ ?hsv87_ (fun hHeld => ?_)
          case hsv87_ => exact ⟨row_cell TR6.out.1 0, row_cell TR6.out.1 1, row_cell TR6.out.1 2, row_cell TR6.out.1 3, row_cell TR6.out.1 4, cell_keep TR6.out.2.2.2.2.2 Hd4.out, cell_keep TR6.out.2.2.2.2.2 Hd6.out⟩
          clear hK K
          (try simp only [Act.put, pk0, pk1, pk2])
          refine zr1 19 (by kernel_rfl) (by simp only [lk0, lk1, lk2]; rfl) (fun K hK => ?_)
          have b30 := row_cell TR4.out.2.2.2.1 0; have b31 := row_cell TR4.out.2.2.2.1 1; have b32 := row_cell TR4.out.2.2.2.1 2; have b33 := row_cell TR4.out.2.2.2.1 3; have b34 := row_cell TR4.out.2.2.2.1 4; have b3f := row_frz TR4.out.2.2.2.1; have b3l : w16.heap.size < w80.heap.size := row_lt TR4.out.2.2.2.1; have b3n0 : w80.heap.size ≠ w16.heap.size := (by omega); go_simp
          have TR7 := Lib.hid (show (fun z0 : World => ZL z0 w.heap.size (some ⟨b, off, none⟩) l c ∧ Zz z0 (w.heap.size + 1) ∧ Zz z0 (w.heap.size + 1 + 1) ∧ ZF z0 w16.heap.size (Flo.cop .add FD G) ∧ Below w.heap.size w z0) (((((w80.setCell ⟨w16.heap.size, 0, none⟩ (.int .i64 2)).setCell ⟨w16.heap.size, 1, none⟩ (.int .i64 0)).setCell ⟨w16.heap.size, 2, none⟩ (.float .f64 (Flo.cop .add FD G))).setCell ⟨w16.heap.size, 3, none⟩ (.string ⟨#[]⟩)).setCell ⟨w16.heap.size, 4, none⟩ (.slice none 0 0)) from ⟨s5o TR4.out.1 (by omega), s5o TR4.out.2.1 (by omega), s5o TR4.out.2.2.1 (by omega), s5r TR4.out.2.2.2.1, s5b TR4.out.2.2.2.2 (by omega)⟩)
          have TR8 := Lib.hid (show (fun z0 : World => ZL z0 w.heap.size (some ⟨b, off, none⟩) l c ∧ Zz z0 (w.heap.size + 1) ∧ Zz z0 (w.heap.size + 1 + 1) ∧ ZF z0 w16.heap.size (Flo.cop .add FD G) ∧ ZF z0 w80.heap.size (Flo.cop .sub FA G) ∧ Below w.heap.size w z0) ((((((w80.setCell ⟨w16.heap.size, 0, none⟩ (.int .i64 2)).setCell ⟨w16.heap.size, 1, none⟩ (.int .i64 0)).setCell ⟨w16.heap.size, 2, none⟩ (.float .f64 (Flo.cop .add FD G))).setCell ⟨w16.heap.size, 3, none⟩ (.string ⟨#[]⟩)).setCell ⟨w16.heap.size, 4, none⟩ (.slice none 0 0)).alloc (.cells #[.int .i64 2, .int .i64 0, .float .f64 (Flo.cop .sub FA G), .string ⟨#[]⟩, .slice none 0 0] 27)) from ⟨(row_alloc_step (TR7.out.1) _), (row_alloc_step (TR7.out.2.1) _), (row_alloc_step (TR7.out.2.2.1) _), (row_alloc_step (TR7.out.2.2.2.1) _), (by have h := row_alloc (((((w80.setCell ⟨w16.heap.size, 0, none⟩ (.int .i64 2)).setCell ⟨w16.heap.size, 1, none⟩ (.int .i64 0)).setCell ⟨w16.heap.size, 2, none⟩ (.float .f64 (Flo.cop .add FD G))).setCell ⟨w16.heap.size, 3, none⟩ (.string ⟨#[]⟩)).setCell ⟨w16.heap.size, 4, none⟩ (.slice none 0 0)) #[.int .i64 2, .int .i64 0, .float .f64 (Flo.cop .sub FA G), .string ⟨#[]⟩, .slice none 0 0] 27; (try simp only [World.size_alloc, World.size_drew, World.size_setCell] at h); exact h), bel_step TR7.out.2.2.2.2 (bel_alloc (Below.refl _ _) _)⟩)
          clear b30 b31 b32 b33 b34 b3f b3l b3n0
          go_wp2_with fail
          refine hK.out _ _ ?hsv88_ (fun hHeld => ?_)
          case hsv88_ => exact ⟨row_cell TR8.out.1 0, row_cell TR8.out.1 1, row_cell TR8.out.1 2, row_cell TR8.out.1 3, row_cell TR8.out.1 4, cell_keep TR8.out.2.2.2.2.2 Hd4.out, cell_keep TR8.out.2.2.2.2.2 Hd6.out⟩
          clear hK K
          (try simp only [Act.put, pk0, pk1, pk2])
          refine wpAnyH_done (by kernel_rfl) ?_ _
          revert TR8
          generalize ((((((w80.setCell ⟨w16.heap.size, 0, none⟩ (.int .i64 2)).setCell ⟨w16.heap.size, 1, none⟩ (.int .i64 0)).setCell ⟨w16.heap.size, 2, none⟩ (.float .f64 (Flo.cop .add FD G))).setCell ⟨w16.heap.size, 3, none⟩ (.string ⟨#[]⟩)).setCell ⟨w16.heap.size, 4, none⟩ (.slice none 0 0)).alloc (.cells #[.int .i64 2, .int .i64 0, .float .f64 (Flo.cop .sub FA G), .string ⟨#[]⟩, .slice none 0 0] 27)) = Wg89
          intro TR8
          exact hQ _ _ _ (by omega) (by omega) ⟨TR8.out.1, TR8.out.2.1, TR8.out.2.2.1, TR8.out.2.2.2.2.1, TR8.out.2.2.2.1, TR8.out.2.2.2.2.2⟩
        case mov79_ =>
          refine AllReadyH.cons (o := ?_) ?hov90_ ?hstv90_ AllReadyH.nil
          case hov90_ => (simp only [lk0, lk1, lk2]; rfl)
          intro K hK
          go_simp
          have hlt91 : w.heap.size < w16.heap.size + 1 := (by have h := row_lt TR3.out.1; (try simp only [World.size_alloc, World.size_drew] at h); exact h)
          have hlt92 : w.heap.size + 1 < w16.heap.size + 1 := (by have h := row_lt TR3.out.2.1; (try simp only [World.size_alloc, World.size_drew] at h); exact h)
          have hlt93 : w.heap.size + 1 + 1 < w16.heap.size + 1 := (by have h := row_lt TR3.out.2.2.1; (try simp only [World.size_alloc, World.size_drew] at h); exact h)
          have hlt94 : w16.heap.size < w16.heap.size + 1 := (by have h := row_lt TR3.out.2.2.2.1; (try simp only [World.size_alloc, World.size_drew] at h); exact h)
          have hlt95 : w.heap.size ≤ w16.heap.size + 1 := (by have h := TR3.out.2.2.2.2.size; (try simp only [World.size_alloc, World.size_drew] at h); exact h)
          have TR4 := Lib.hid (show (fun z0 : World => ZL z0 w.heap.size (some ⟨b, off, none⟩) l c ∧ Zz z0 (w.heap.size + 1) ∧ Zz z0 (w.heap.size + 1 + 1) ∧ Zz z0 w16.heap.size ∧ Zz z0 (w16.heap.size + 1) ∧ Below w.heap.size w z0) ((w16.alloc (.cells #[.int .i64 0, .int .i64 0, .float .f64 0, .string ⟨#[]⟩, .slice none 0 0] 27)).alloc (.cells #[.int .i64 0, .int .i64 0, .float .f64 0, .string ⟨#[]⟩, .slice none 0 0] 27)) from ⟨(row_alloc_step (row_alloc_step (TR2.out.1) _) _), (row_alloc_step (row_alloc_step (TR2.out.2.1) _) _), (row_alloc_step (row_alloc_step (TR2.out.2.2.1) _) _), (by have h := row_alloc_step (row_alloc w16 #[.int .i64 0, .int .i64 0, .float .f64 0, .string ⟨#[]⟩, .slice none 0 0] 27) (.cells #[.int .i64 0, .int .i64 0, .float .f64 0, .string ⟨#[]⟩, .slice none 0 0] 27); (try simp only [World.size_alloc, World.size_drew, World.size_setCell] at h); exact h), (by have h := row_alloc (w16.alloc (.cells #[.int .i64 0, .int .i64 0, .float .f64 0, .string ⟨#[]⟩, .slice none 0 0] 27)) #[.int .i64 0, .int .i64 0, .float .f64 0, .string ⟨#[]⟩, .slice none 0 0] 27; (try simp only [World.size_alloc, World.size_drew, World.size_setCell] at h); exact h), bel_step TR2.out.2.2.2 (bel_alloc (bel_alloc (Below.refl _ _) _) _)⟩)
          go_wp2_with fail
          refine hK.out _ _ ?hsv90_ (fun hHeld => ?_)
          case hsv90_ => exact ⟨row_cell TR4.out.1 0, row_cell TR4.out.1 1, row_cell TR4.out.1 2, row_cell TR4.out.1 3, row_cell TR4.out.1 4, cell_keep TR4.out.2.2.2.2.2 Hd4.out, cell_keep TR4.out.2.2.2.2.2 Hd6.out⟩
          clear hK K
          (try simp only [Act.put, pk0, pk1, pk2])
          refine zr1 15 (by kernel_rfl) (by simp only [lk0, lk1, lk2]; rfl) (fun K hK => ?_)
          go_simp
          go_at_call 20; refine (float_is HCG.out _).mono ?_; rintro e w97 ⟨rfl, hbw97⟩
          have TR5 := Lib.hid (And.intro (row_step TR4.out.1 hbw97) (And.intro (row_step TR4.out.2.1 hbw97) (And.intro (row_step TR4.out.2.2.1 hbw97) (And.intro (row_step TR4.out.2.2.2.1 hbw97) (And.intro (row_step TR4.out.2.2.2.2.1 hbw97) (bel_step TR4.out.2.2.2.2.2 hbw97))))))
          clear TR4
          clear hbw97
          go_wp2_with fail
          refine hK.out _ _ ?hsv96_ (fun hHeld => ?_)
          case hsv96_ => exact ⟨row_cell TR5.out.1 0, row_cell TR5.out.1 1, row_cell TR5.out.1 2, row_cell TR5.out.1 3, row_cell TR5.out.1 4, cell_keep TR5.out.2.2.2.2.2 Hd4.out, cell_keep TR5.out.2.2.2.2.2 Hd6.out⟩
          clear hK K
          (try simp only [Act.put, pk0, pk1, pk2])
          refine zr1 18 (by kernel_rfl) (by simp only [lk0, lk1, lk2]; rfl) (fun K hK => ?_)
          have b30 := row_cell TR5.out.2.2.2.2.1 0; have b31 := row_cell TR5.out.2.2.2.2.1 1; have b32 := row_cell TR5.out.2.2.2.2.1 2; have b33 := row_cell TR5.out.2.2.2.2.1 3; have b34 := row_cell TR5.out.2.2.2.2.1 4; have b3f := row_frz TR5.out.2.2.2.2.1; have b3l := row_lt TR5.out.2.2.2.2.1; go_simp
          have TR6 := Lib.hid (show (fun z0 : World => ZL z0 w.heap.size (some ⟨b, off, none⟩) l c ∧ Zz z0 (w.heap.size + 1) ∧ Zz z0 (w.heap.size + 1 + 1) ∧ Zz z0 w16.heap.size ∧ ZF z0 (w16.heap.size + 1) (Flo.cop .sub FA G) ∧ Below w.heap.size w z0) (((((w97.setCell ⟨w16.heap.size + 1, 0, none⟩ (.int .i64 2)).setCell ⟨w16.heap.size + 1, 1, none⟩ (.int .i64 0)).setCell ⟨w16.heap.size + 1, 2, none⟩ (.float .f64 (Flo.cop .sub FA G))).setCell ⟨w16.heap.size + 1, 3, none⟩ (.string ⟨#[]⟩)).setCell ⟨w16.heap.size + 1, 4, none⟩ (.slice none 0 0)) from ⟨s5o TR5.out.1 (by omega), s5o TR5.out.2.1 (by omega), s5o TR5.out.2.2.1 (by omega), s5o TR5.out.2.2.2.1 (by omega), s5r TR5.out.2.2.2.2.1, s5b TR5.out.2.2.2.2.2 (by omega)⟩)
          clear TR5
          clear b30 b31 b32 b33 b34 b3f b3l
          go_wp2_with fail
          refine hK.out _ _ ?hsv98_ (fun hHeld => ?_)
          case hsv98_ => exact ⟨row_cell TR6.out.1 0, row_cell TR6.out.1 1, row_cell TR6.out.1 2, row_cell TR6.out.1 3, row_cell TR6.out.1 4, cell_keep TR6.out.2.2.2.2.2 Hd4.out, cell_keep TR6.out.2.2.2.2.2 Hd6.out⟩
          clear hK K
          (try simp only [Act.put, pk0, pk1, pk2])
          refine zr1 19 (by kernel_rfl) (by simp only [lk0, lk1, lk2]; rfl) (fun K hK => ?_)
          have b30 := row_cell TR6.out.2.2.2.1 0; have b31 := row_cell TR6.out.2.2.2.1 1; have b32 := row_cell TR6.out.2.2.2.1 2; have b33 := row_cell TR6.out.2.2.2.1 3; have b34 := row_cell TR6.out.2.2.2.1 4; have b3f := row_frz TR6.out.2.2.2.1; have b3l := row_lt TR6.out.2.2.2.1; go_simp
          have TR7 := Lib.hid (show (fun z0 : World => ZL z0 w.heap.size (some ⟨b, off, none⟩) l c ∧ Zz z0 (w.heap.size + 1) ∧ Zz z0 (w.heap.size + 1 + 1) ∧ ZF z0 w16.heap.size (Flo.cop .add FD G) ∧ ZF z0 (w16.heap.size + 1) (Flo.cop .sub FA G) ∧ Below w.heap.size w z0) ((((((((((w97.setCell ⟨w16.heap.size + 1, 0, none⟩ (.int .i64 2)).setCell ⟨w16.heap.size + 1, 1, none⟩ (.int .i64 0)).setCell ⟨w16.heap.size + 1, 2, none⟩ (.float .f64 (Flo.cop .sub FA G))).setCell ⟨w16.heap.size + 1, 3, none⟩ (.string ⟨#[]⟩)).setCell ⟨w16.heap.size + 1, 4, none⟩ (.slice none 0 0)).setCell ⟨w16.heap.size, 0, none⟩ (.int .i64 2)).setCell ⟨w16.heap.size, 1, none⟩ (.int .i64 0)).setCell ⟨w16.heap.size, 2, none⟩ (.float .f64 (Flo.cop .add FD G))).setCell ⟨w16.heap.size, 3, none⟩ (.string ⟨#[]⟩)).setCell ⟨w16.heap.size, 4, none⟩ (.slice none 0 0)) from ⟨s5o TR6.out.1 (by omega), s5o TR6.out.2.1 (by omega), s5o TR6.out.2.2.1 (by omega), s5r TR6.out.2.2.2.1, s5o TR6.out.2.2.2.2.1 (by omega), s5b TR6.out.2.2.2.2.2 (by omega)⟩)
          clear TR6
          clear b30 b31 b32 b33 b34 b3f b3l
          go_wp2_with fail
          refine hK.out _ _ ?hsv99_ (fun hHeld => ?_)
          case hsv99_ => exact ⟨row_cell TR7.out.1 0, row_cell TR7.out.1 1, row_cell TR7.out.1 2, row_cell TR7.out.1 3, row_cell TR7.out.1 4, cell_keep TR7.out.2.2.2.2.2 Hd4.out, cell_keep TR7.out.2.2.2.2.2 Hd6.out⟩
          clear hK K
          (try simp only [Act.put, pk0, pk1, pk2])
          refine wpAnyH_done (by kernel_rfl) ?_ _
          revert TR7
          generalize ((((((((((w97.setCell ⟨w16.heap.size + 1, 0, none⟩ (.int .i64 2)).setCell ⟨w16.heap.size + 1, 1, none⟩ (.int .i64 0)).setCell ⟨w16.heap.size + 1, 2, none⟩ (.float .f64 (Flo.cop .sub FA G))).setCell ⟨w16.heap.size + 1, 3, none⟩ (.string ⟨#[]⟩)).setCell ⟨w16.heap.size + 1, 4, none⟩ (.slice none 0 0)).setCell ⟨w16.heap.size, 0, none⟩ (.int .i64 2)).setCell ⟨w16.heap.size, 1, none⟩ (.int .i64 0)).setCell ⟨w16.heap.size, 2, none⟩ (.float .f64 (Flo.cop .add FD G))).setCell ⟨w16.heap.size, 3, none⟩ (.string ⟨#[]⟩)).setCell ⟨w16.heap.size, 4, none⟩ (.slice none 0 0)) = Wg100
          intro TR7
          exact hQ _ _ _ (by omega) (by omega) ⟨TR7.out.1, TR7.out.2.1, TR7.out.2.2.1, TR7.out.2.2.2.2.1, TR7.out.2.2.2.1, TR7.out.2.2.2.2.2⟩
  case mov15_ =>
    refine AllReadyH.cons (o := ?_) ?hov101_ ?hstv101_ ?mov101_
    case hov101_ => (simp only [lk0, lk1, lk2]; rfl)
    case hstv101_ =>
      intro K hK
      go_simp
      have hlt102 : w.heap.size < wr.heap.size := (by have h := row_lt TR1.out.1; (try simp only [World.size_alloc, World.size_drew] at h); exact h)
      have hlt103 : w.heap.size + 1 < wr.heap.size := (by have h := row_lt TR1.out.2.1; (try simp only [World.size_alloc, World.size_drew] at h); exact h)
      have hlt104 : w.heap.size + 1 + 1 < wr.heap.size := (by have h := row_lt TR1.out.2.2.1; (try simp only [World.size_alloc, World.size_drew] at h); exact h)
      have hlt105 : w.heap.size ≤ wr.heap.size := (by have h := TR1.out.2.2.2.size; (try simp only [World.size_alloc, World.size_drew] at h); exact h)
      have TR2 := Lib.hid (show (fun z0 : World => ZL z0 w.heap.size (some ⟨b, off, none⟩) l c ∧ Zz z0 (w.heap.size + 1) ∧ Zz z0 (w.heap.size + 1 + 1) ∧ Zz z0 wr.heap.size ∧ Below w.heap.size w z0) (wr.drew.alloc (.cells #[.int .i64 0, .int .i64 0, .float .f64 0, .string ⟨#[]⟩, .slice none 0 0] 27)) from ⟨(row_alloc_step (TR1.out.1) _), (row_alloc_step (TR1.out.2.1) _), (row_alloc_step (TR1.out.2.2.1) _), (by have h := row_alloc wr.drew #[.int .i64 0, .int .i64 0, .float .f64 0, .string ⟨#[]⟩, .slice none 0 0] 27; (try simp only [World.size_alloc, World.size_drew, World.size_setCell] at h); exact h), bel_step TR1.out.2.2.2 (bel_alloc (Below.refl _ _) _)⟩)
      go_wp2_with fail
      refine hK.out _ _ ?hsv101_ (fun hHeld => ?_)
      case hsv101_ => exact ⟨row_cell TR2.out.1 0, row_cell TR2.out.1 1, row_cell TR2.out.1 2, row_cell TR2.out.1 3, row_cell TR2.out.1 4, cell_keep TR2.out.2.2.2.2 Hd4.out, cell_keep TR2.out.2.2.2.2 Hd6.out⟩
      clear hK K
      (try simp only [Act.put, pk0, pk1, pk2])
      refine wpAnyH_ready (rs := [3, 17]) (by kernel_rfl) (by simp) ?_
      refine AllReadyH.cons (o := ?_) ?hov106_ ?hstv106_ ?mov106_
      case hov106_ => (simp only [lk0, lk1, lk2]; rfl)
      case hstv106_ =>
        intro K hK
        go_simp
        go_at_call 20; refine (float_is HCS.out _).mono ?_; rintro e w107 ⟨rfl, hbw107⟩
        have TR3 := Lib.hid (And.intro (row_step TR2.out.1 hbw107) (And.intro (row_step TR2.out.2.1 hbw107) (And.intro (row_step TR2.out.2.2.1 hbw107) (And.intro (row_step TR2.out.2.2.2.1 hbw107) (bel_step TR2.out.2.2.2.2 hbw107)))))
        clear TR2
        clear hbw107
        go_wp2_with fail
        refine hK.out _ _ ?hsv106_ (fun hHeld => ?_)
        case hsv106_ => exact ⟨row_cell TR3.out.1 0, row_cell TR3.out.1 1, row_cell TR3.out.1 2, row_cell TR3.out.1 3, row_cell TR3.out.1 4, cell_keep TR3.out.2.2.2.2 Hd4.out, cell_keep TR3.out.2.2.2.2 Hd6.out⟩
        clear hK K
        (try simp only [Act.put, pk0, pk1, pk2])
        refine wpAnyH_ready (rs := [15, 17]) (by kernel_rfl) (by simp) ?_
        refine AllReadyH.cons (o := ?_) ?hov108_ ?hstv108_ ?mov108_
        case hov108_ => (simp only [lk0, lk1, lk2]; rfl)
        case hstv108_ =>
          intro K hK
          go_simp
          go_at_call 20; refine (float_is HCG.out _).mono ?_; rintro e w109 ⟨rfl, hbw109⟩
          have TR4 := Lib.hid (And.intro (row_step TR3.out.1 hbw109) (And.intro (row_step TR3.out.2.1 hbw109) (And.intro (row_step TR3.out.2.2.1 hbw109) (And.intro (row_step TR3.out.2.2.2.1 hbw109) (bel_step TR3.out.2.2.2.2 hbw109)))))
          clear TR3
          clear hbw109
          go_wp2_with fail
          refine hK.out _ _ ?hsv108_ (fun hHeld => ?_)
          case hsv108_ => exact ⟨row_cell TR4.out.1 0, row_cell TR4.out.1 1, row_cell TR4.out.1 2, row_cell TR4.out.1 3, row_cell TR4.out.1 4, cell_keep TR4.out.2.2.2.2 Hd4.out, cell_keep TR4.out.2.2.2.2 Hd6.out⟩
          clear hK K
          (try simp only [Act.put, pk0, pk1, pk2])
          refine zr1 17 (by kernel_rfl) (by simp only [lk0, lk1, lk2]; rfl) (fun K hK => ?_)
          go_simp
          have hlt111 : w.heap.size < w109.heap.size := (by have h := row_lt TR4.out.1; (try simp only [World.size_alloc, World.size_drew] at h); exact h)
          have hlt112 : w.heap.size + 1 < w109.heap.size := (by have h := row_lt TR4.out.2.1; (try simp only [World.size_alloc, World.size_drew] at h); exact h)
          have hlt113 : w.heap.size + 1 + 1 < w109.heap.size := (by have h := row_lt TR4.out.2.2.1; (try simp only [World.size_alloc, World.size_drew] at h); exact h)
          have hlt114 : wr.heap.size < w109.heap.size := (by have h := row_lt TR4.out.2.2.2.1; (try simp only [World.size_alloc, World.size_drew] at h); exact h)
          have hlt115 : w.heap.size ≤ w109.heap.size := (by have h := TR4.out.2.2.2.2.size; (try simp only [World.size_alloc, World.size_drew] at h); exact h)
          have TR5 := Lib.hid (show (fun z0 : World => ZL z0 w.heap.size (some ⟨b, off, none⟩) l c ∧ Zz z0 (w.heap.size + 1) ∧ Zz z0 (w.heap.size + 1 + 1) ∧ Zz z0 wr.heap.size ∧ Zz z0 w109.heap.size ∧ Below w.heap.size w z0) (w109.alloc (.cells #[.int .i64 0, .int .i64 0, .float .f64 0, .string ⟨#[]⟩, .slice none 0 0] 27)) from ⟨(row_alloc_step (TR4.out.1) _), (row_alloc_step (TR4.out.2.1) _), (row_alloc_step (TR4.out.2.2.1) _), (row_alloc_step (TR4.out.2.2.2.1) _), (by have h := row_alloc w109 #[.int .i64 0, .int .i64 0, .float .f64 0, .string ⟨#[]⟩, .slice none 0 0] 27; (try simp only [World.size_alloc, World.size_drew, World.size_setCell] at h); exact h), bel_step TR4.out.2.2.2.2 (bel_alloc (Below.refl _ _) _)⟩)
          go_wp2_with fail
          refine hK.out _ _ ?hsv110_ (fun hHeld => ?_)
          case hsv110_ => exact ⟨row_cell TR5.out.1 0, row_cell TR5.out.1 1, row_cell TR5.out.1 2, row_cell TR5.out.1 3, row_cell TR5.out.1 4, cell_keep TR5.out.2.2.2.2.2 Hd4.out, cell_keep TR5.out.2.2.2.2.2 Hd6.out⟩
          clear hK K
          (try simp only [Act.put, pk0, pk1, pk2])
          refine zr1 18 (by kernel_rfl) (by simp only [lk0, lk1, lk2]; rfl) (fun K hK => ?_)
          have b30 := row_cell TR4.out.2.2.2.1 0; have b31 := row_cell TR4.out.2.2.2.1 1; have b32 := row_cell TR4.out.2.2.2.1 2; have b33 := row_cell TR4.out.2.2.2.1 3; have b34 := row_cell TR4.out.2.2.2.1 4; have b3f := row_frz TR4.out.2.2.2.1; have b3l : wr.heap.size < w109.heap.size := row_lt TR4.out.2.2.2.1; have b3n0 : w109.heap.size ≠ wr.heap.size := (by omega); go_simp
          have TR6 := Lib.hid (show (fun z0 : World => ZL z0 w.heap.size (some ⟨b, off, none⟩) l c ∧ Zz z0 (w.heap.size + 1) ∧ Zz z0 (w.heap.size + 1 + 1) ∧ ZF z0 wr.heap.size (Flo.cop .sub FA G) ∧ Below w.heap.size w z0) (((((w109.setCell ⟨wr.heap.size, 0, none⟩ (.int .i64 2)).setCell ⟨wr.heap.size, 1, none⟩ (.int .i64 0)).setCell ⟨wr.heap.size, 2, none⟩ (.float .f64 (Flo.cop .sub FA G))).setCell ⟨wr.heap.size, 3, none⟩ (.string ⟨#[]⟩)).setCell ⟨wr.heap.size, 4, none⟩ (.slice none 0 0)) from ⟨s5o TR4.out.1 (by omega), s5o TR4.out.2.1 (by omega), s5o TR4.out.2.2.1 (by omega), s5r TR4.out.2.2.2.1, s5b TR4.out.2.2.2.2 (by omega)⟩)
          have TR7 := Lib.hid (show (fun z0 : World => ZL z0 w.heap.size (some ⟨b, off, none⟩) l c ∧ Zz z0 (w.heap.size + 1) ∧ Zz z0 (w.heap.size + 1 + 1) ∧ ZF z0 wr.heap.size (Flo.cop .sub FA G) ∧ Zz z0 w109.heap.size ∧ Below w.heap.size w z0) ((((((w109.setCell ⟨wr.heap.size, 0, none⟩ (.int .i64 2)).setCell ⟨wr.heap.size, 1, none⟩ (.int .i64 0)).setCell ⟨wr.heap.size, 2, none⟩ (.float .f64 (Flo.cop .sub FA G))).setCell ⟨wr.heap.size, 3, none⟩ (.string ⟨#[]⟩)).setCell ⟨wr.heap.size, 4, none⟩ (.slice none 0 0)).alloc (.cells #[.int .i64 0, .int .i64 0, .float .f64 0, .string ⟨#[]⟩, .slice none 0 0] 27)) from ⟨(row_alloc_step (TR6.out.1) _), (row_alloc_step (TR6.out.2.1) _), (row_alloc_step (TR6.out.2.2.1) _), (row_alloc_step (TR6.out.2.2.2.1) _), (by have h := row_alloc (((((w109.setCell ⟨wr.heap.size, 0, none⟩ (.int .i64 2)).setCell ⟨wr.heap.size, 1, none⟩ (.int .i64 0)).setCell ⟨wr.heap.size, 2, none⟩ (.float .f64 (Flo.cop .sub FA G))).setCell ⟨wr.heap.size, 3, none⟩ (.string ⟨#[]⟩)).setCell ⟨wr.heap.size, 4, none⟩ (.slice none 0 0)) #[.int .i64 0, .int .i64 0, .float .f64 0, .string ⟨#[]⟩, .slice none 0 0] 27; (try simp only [World.size_alloc, World.size_drew, World.size_setCell] at h); exact h), bel_step TR6.out.2.2.2.2 (bel_alloc (Below.refl _ _) _)⟩)
          clear b30 b31 b32 b33 b34 b3f b3l b3n0
          go_wp2_with fail
          refine hK.out _ _ ?hsv116_ (fun hHeld => ?_)
          case hsv116_ => exact ⟨row_cell TR7.out.1 0, row_cell TR7.out.1 1, row_cell TR7.out.1 2, row_cell TR7.out.1 3, row_cell TR7.out.1 4, cell_keep TR7.out.2.2.2.2.2 Hd4.out, cell_keep TR7.out.2.2.2.2.2 Hd6.out⟩
          clear hK K
          (try simp only [Act.put, pk0, pk1, pk2])
          refine zr1 19 (by kernel_rfl) (by simp only [lk0, lk1, lk2]; rfl) (fun K hK => ?_)
          have b30 := row_cell TR7.out.2.2.2.2.1 0; have b31 := row_cell TR7.out.2.2.2.2.1 1; have b32 := row_cell TR7.out.2.2.2.2.1 2; have b33 := row_cell TR7.out.2.2.2.2.1 3; have b34 := row_cell TR7.out.2.2.2.2.1 4; have b3f := row_frz TR7.out.2.2.2.2.1; have b3l := row_lt TR7.out.2.2.2.2.1; go_simp
          have TR8 := Lib.hid (show (fun z0 : World => ZL z0 w.heap.size (some ⟨b, off, none⟩) l c ∧ Zz z0 (w.heap.size + 1) ∧ Zz z0 (w.heap.size + 1 + 1) ∧ ZF z0 wr.heap.size (Flo.cop .sub FA G) ∧ ZF z0 w109.heap.size (Flo.cop .add FD G) ∧ Below w.heap.size w z0) ((((((w109.setCell ⟨wr.heap.size, 0, none⟩ (.int .i64 2)).setCell ⟨wr.heap.size, 1, none⟩ (.int .i64 0)).setCell ⟨wr.heap.size, 2, none⟩ (.float .f64 (Flo.cop .sub FA G))).setCell ⟨wr.heap.size, 3, none⟩ (.string ⟨#[]⟩)).setCell ⟨wr.heap.size, 4, none⟩ (.slice none 0 0)).alloc (.cells #[.int .i64 2, .int .i64 0, .float .f64 (Flo.cop .add FD G), .string ⟨#[]⟩, .slice none 0 0] 27)) from ⟨(row_alloc_step (TR6.out.1) _), (row_alloc_step (TR6.out.2.1) _), (row_alloc_step (TR6.out.2.2.1) _), (row_alloc_step (TR6.out.2.2.2.1) _), (by have h := row_alloc (((((w109.setCell ⟨wr.heap.size, 0, none⟩ (.int .i64 2)).setCell ⟨wr.heap.size, 1, none⟩ (.int .i64 0)).setCell ⟨wr.heap.size, 2, none⟩ (.float .f64 (Flo.cop .sub FA G))).setCell ⟨wr.heap.size, 3, none⟩ (.string ⟨#[]⟩)).setCell ⟨wr.heap.size, 4, none⟩ (.slice none 0 0)) #[.int .i64 2, .int .i64 0, .float .f64 (Flo.cop .add FD G), .string ⟨#[]⟩, .slice none 0 0] 27; (try simp only [World.size_alloc, World.size_drew, World.size_setCell] at h); exact h), bel_step TR6.out.2.2.2.2 (bel_alloc (Below.refl _ _) _)⟩)
          clear b30 b31 b32 b33 b34 b3f b3l
          go_wp2_with fail
          refine hK.out _ _ ?hsv117_ (fun hHeld => ?_)
          case hsv117_ => exact ⟨row_cell TR8.out.1 0, row_cell TR8.out.1 1, row_cell TR8.out.1 2, row_cell TR8.out.1 3, row_cell TR8.out.1 4, cell_keep TR8.out.2.2.2.2.2 Hd4.out, cell_keep TR8.out.2.2.2.2.2 Hd6.out⟩
          clear hK K
          (try simp only [Act.put, pk0, pk1, pk2])
          refine wpAnyH_done (by kernel_rfl) ?_ _
          revert TR8
          generalize ((((((w109.setCell ⟨wr.heap.size, 0, none⟩ (.int .i64 2)).setCell ⟨wr.heap.size, 1, none⟩ (.int .i64 0)).setCell ⟨wr.heap.size, 2, none⟩ (.float .f64 (Flo.cop .sub FA G))).setCell ⟨wr.heap.size, 3, none⟩ (.string ⟨#[]⟩)).setCell ⟨wr.heap.size, 4, none⟩ (.slice none 0 0)).alloc (.cells #[.int .i64 2, .int .i64 0, .float .f64 (Flo.cop .add FD G), .string ⟨#[]⟩, .slice none 0 0] 27)) = Wg118
          intro TR8
          exact hQ _ _ _ (by omega) (by omega) ⟨TR8.out.1, TR8.out.2.1, TR8.out.2.2.1, TR8.out.2.2.2.1, TR8.out.2.2.2.2.1, TR8.out.2.2.2.2.2⟩
        case mov108_ =>
          refine AllReadyH.cons (o := ?_) ?hov119_ ?hstv119_ AllReadyH.nil
          case hov119_ => (simp only [lk0, lk1, lk2]; rfl)
          intro K hK
          go_simp
          have hlt120 : w.heap.size < w107.heap.size := (by have h := row_lt TR3.out.1; (try simp only [World.size_alloc, World.size_drew] at h); exact h)
          have hlt121 : w.heap.size + 1 < w107.heap.size := (by have h := row_lt TR3.out.2.1; (try simp only [World.size_alloc, World.size_drew] at h); exact h)
          have hlt122 : w.heap.size + 1 + 1 < w107.heap.size := (by have h := row_lt TR3.out.2.2.1; (try simp only [World.size_alloc, World.size_drew] at h); exact h)
          have hlt123 : wr.heap.size < w107.heap.size := (by have h := row_lt TR3.out.2.2.2.1; (try simp only [World.size_alloc, World.size_drew] at h); exact h)
          have hlt124 : w.heap.size ≤ w107.heap.size := (by have h := TR3.out.2.2.2.2.size; (try simp only [World.size_alloc, World.size_drew] at h); exact h)
          have TR4 := Lib.hid (show (fun z0 : World => ZL z0 w.heap.size (some ⟨b, off, none⟩) l c ∧ Zz z0 (w.heap.size + 1) ∧ Zz z0 (w.heap.size + 1 + 1) ∧ Zz z0 wr.heap.size ∧ Zz z0 w107.heap.size ∧ Below w.heap.size w z0) (w107.alloc (.cells #[.int .i64 0, .int .i64 0, .float .f64 0, .string ⟨#[]⟩, .slice none 0 0] 27)) from ⟨(row_alloc_step (TR3.out.1) _), (row_alloc_step (TR3.out.2.1) _), (row_alloc_step (TR3.out.2.2.1) _), (row_alloc_step (TR3.out.2.2.2.1) _), (by have h := row_alloc w107 #[.int .i64 0, .int .i64 0, .float .f64 0, .string ⟨#[]⟩, .slice none 0 0] 27; (try simp only [World.size_alloc, World.size_drew, World.size_setCell] at h); exact h), bel_step TR3.out.2.2.2.2 (bel_alloc (Below.refl _ _) _)⟩)
          go_wp2_with fail
          refine hK.out _ _ ?hsv119_ (fun hHeld => ?_)
          case hsv119_ => exact ⟨row_cell TR4.out.1 0, row_cell TR4.out.1 1, row_cell TR4.out.1 2, row_cell TR4.out.1 3, row_cell TR4.out.1 4, cell_keep TR4.out.2.2.2.2.2 Hd4.out, cell_keep TR4.out.2.2.2.2.2 Hd6.out⟩
          clear hK K
          (try simp only [Act.put, pk0, pk1, pk2])
          refine zr1 15 (by kernel_rfl) (by simp only [lk0, lk1, lk2]; rfl) (fun K hK => ?_)
          go_simp
          go_at_call 20; refine (float_is HCG.out _).mono ?_; rintro e w126 ⟨rfl, hbw126⟩
          have TR5 := Lib.hid (And.intro (row_step TR4.out.1 hbw126) (And.intro (row_step TR4.out.2.1 hbw126) (And.intro (row_step TR4.out.2.2.1 hbw126) (And.intro (row_step TR4.out.2.2.2.1 hbw126) (And.intro (row_step TR4.out.2.2.2.2.1 hbw126) (bel_step TR4.out.2.2.2.2.2 hbw126))))))
          clear TR4
          clear hbw126
          go_wp2_with fail
          refine hK.out _ _ ?hsv125_ (fun hHeld => ?_)
          case hsv125_ => exact ⟨row_cell TR5.out.1 0, row_cell TR5.out.1 1, row_cell TR5.out.1 2, row_cell TR5.out.1 3, row_cell TR5.out.1 4, cell_keep TR5.out.2.2.2.2.2 Hd4.out, cell_keep TR5.out.2.2.2.2.2 Hd6.out⟩
          clear hK K
          (try simp only [Act.put, pk0, pk1, pk2])
          refine zr1 18 (by kernel_rfl) (by simp only [lk0, lk1, lk2]; rfl) (fun K hK => ?_)
          have b30 := row_cell TR5.out.2.2.2.1 0; have b31 := row_cell TR5.out.2.2.2.1 1; have b32 := row_cell TR5.out.2.2.2.1 2; have b33 := row_cell TR5.out.2.2.2.1 3; have b34 := row_cell TR5.out.2.2.2.1 4; have b3f := row_frz TR5.out.2.2.2.1; have b3l := row_lt TR5.out.2.2.2.1; go_simp
          have TR6 := Lib.hid (show (fun z0 : World => ZL z0 w.heap.size (some ⟨b, off, none⟩) l c ∧ Zz z0 (w.heap.size + 1) ∧ Zz z0 (w.heap.size + 1 + 1) ∧ ZF z0 wr.heap.size (Flo.cop .sub FA G) ∧ Zz z0 w107.heap.size ∧ Below w.heap.size w z0) (((((w126.setCell ⟨wr.heap.size, 0, none⟩ (.int .i64 2)).setCell ⟨wr.heap.size, 1, none⟩ (.int .i64 0)).setCell ⟨wr.heap.size, 2, none⟩ (.float .f64 (Flo.cop .sub FA G))).setCell ⟨wr.heap.size, 3, none⟩ (.string ⟨#[]⟩)).setCell ⟨wr.heap.size, 4, none⟩ (.slice none 0 0)) from ⟨s5o TR5.out.1 (by omega), s5o TR5.out.2.1 (by omega), s5o TR5.out.2.2.1 (by omega), s5r TR5.out.2.2.2.1, s5o TR5.out.2.2.2.2.1 (by omega), s5b TR5.out.2.2.2.2.2 (by omega)⟩)
          clear TR5
          clear b30 b31 b32 b33 b34 b3f b3l
          go_wp2_with fail
          refine hK.out _ _ ?hsv127_ (fun hHeld => ?_)
          case hsv127_ => exact ⟨row_cell TR6.out.1 0, row_cell TR6.out.1 1, row_cell TR6.out.1 2, row_cell TR6.out.1 3, row_cell TR6.out.1 4, cell_keep TR6.out.2.2.2.2.2 Hd4.out, cell_keep TR6.out.2.2.2.2.2 Hd6.out⟩
          clear hK K
          (try simp only [Act.put, pk0, pk1, pk2])
          refine zr1 19 (by kernel_rfl) (by simp only [lk0, lk1, lk2]; rfl) (fun K hK => ?_)
          have b30 := row_cell TR6.out.2.2.2.2.1 0; have b31 := row_cell TR6.out.2.2.2.2.1 1; have b32 := row_cell TR6.out.2.2.2.2.1 2; have b33 := row_cell TR6.out.2.2.2.2.1 3; have b34 := row_cell TR6.out.2.2.2.2.1 4; have b3f := row_frz TR6.out.2.2.2.2.1; have b3l := row_lt TR6.out.2.2.2.2.1; go_simp
          have TR7 := Lib.hid (show (fun z0 : World => ZL z0 w.heap.size (some ⟨b, off, none⟩) l c ∧ Zz z0 (w.heap.size + 1) ∧ Zz z0 (w.heap.size + 1 + 1) ∧ ZF z0 wr.heap.size (Flo.cop .sub FA G) ∧ ZF z0 w107.heap.size (Flo.cop .add FD G) ∧ Below w.heap.size w z0) ((((((((((w126.setCell ⟨wr.heap.size, 0, none⟩ (.int .i64 2)).setCell ⟨wr.heap.size, 1, none⟩ (.int .i64 0)).setCell ⟨wr.heap.size, 2, none⟩ (.float .f64 (Flo.cop .sub FA G))).setCell ⟨wr.heap.size, 3, none⟩ (.string ⟨#[]⟩)).setCell ⟨wr.heap.size, 4, none⟩ (.slice none 0 0)).setCell ⟨w107.heap.size, 0, none⟩ (.int .i64 2)).setCell ⟨w107.heap.size, 1, none⟩ (.int .i64 0)).setCell ⟨w107.heap.size, 2, none⟩ (.float .f64 (Flo.cop .add FD G))).setCell ⟨w107.heap.size, 3, none⟩ (.string ⟨#[]⟩)).setCell ⟨w107.heap.size, 4, none⟩ (.slice none 0 0)) from ⟨s5o TR6.out.1 (by omega), s5o TR6.out.2.1 (by omega), s5o TR6.out.2.2.1 (by omega), s5o TR6.out.2.2.2.1 (by omega), s5r TR6.out.2.2.2.2.1, s5b TR6.out.2.2.2.2.2 (by omega)⟩)
          clear TR6
          clear b30 b31 b32 b33 b34 b3f b3l
          go_wp2_with fail
          refine hK.out _ _ ?hsv128_ (fun hHeld => ?_)
          case hsv128_ => exact ⟨row_cell TR7.out.1 0, row_cell TR7.out.1 1, row_cell TR7.out.1 2, row_cell TR7.out.1 3, row_cell TR7.out.1 4, cell_keep TR7.out.2.2.2.2.2 Hd4.out, cell_keep TR7.out.2.2.2.2.2 Hd6.out⟩
          clear hK K
          (try simp only [Act.put, pk0, pk1, pk2])
          refine wpAnyH_done (by kernel_rfl) ?_ _
          revert TR7
          generalize ((((((((((w126.setCell ⟨wr.heap.size, 0, none⟩ (.int .i64 2)).setCell ⟨wr.heap.size, 1, none⟩ (.int .i64 0)).setCell ⟨wr.heap.size, 2, none⟩ (.float .f64 (Flo.cop .sub FA G))).setCell ⟨wr.heap.size, 3, none⟩ (.string ⟨#[]⟩)).setCell ⟨wr.heap.size, 4, none⟩ (.slice none 0 0)).setCell ⟨w107.heap.size, 0, none⟩ (.int .i64 2)).setCell ⟨w107.heap.size, 1, none⟩ (.int .i64 0)).setCell ⟨w107.heap.size, 2, none⟩ (.float .f64 (Flo.cop .add FD G))).setCell ⟨w107.heap.size, 3, none⟩ (.string ⟨#[]⟩)).setCell ⟨w107.heap.size, 4, none⟩ (.slice none 0 0)) = Wg129
          intro TR7
          exact hQ _ _ _ (by omega) (by omega) ⟨TR7.out.1, TR7.out.2.1, TR7.out.2.2.1, TR7.out.2.2.2.1, TR7.out.2.2.2.2.1, TR7.out.2.2.2.2.2⟩
      case mov106_ =>
        refine AllReadyH.cons (o := ?_) ?hov130_ ?hstv130_ AllReadyH.nil
        case hov130_ => (simp only [lk0, lk1, lk2]; rfl)
        intro K hK
        go_simp
        have hlt131 : w.heap.size < wr.heap.size + 1 := (by have h := row_lt TR2.out.1; (try simp only [World.size_alloc, World.size_drew] at h); exact h)
        have hlt132 : w.heap.size + 1 < wr.heap.size + 1 := (by have h := row_lt TR2.out.2.1; (try simp only [World.size_alloc, World.size_drew] at h); exact h)
        have hlt133 : w.heap.size + 1 + 1 < wr.heap.size + 1 := (by have h := row_lt TR2.out.2.2.1; (try simp only [World.size_alloc, World.size_drew] at h); exact h)
        have hlt134 : wr.heap.size < wr.heap.size + 1 := (by have h := row_lt TR2.out.2.2.2.1; (try simp only [World.size_alloc, World.size_drew] at h); exact h)
        have hlt135 : w.heap.size ≤ wr.heap.size + 1 := (by have h := TR2.out.2.2.2.2.size; (try simp only [World.size_alloc, World.size_drew] at h); exact h)
        have TR3 := Lib.hid (show (fun z0 : World => ZL z0 w.heap.size (some ⟨b, off, none⟩) l c ∧ Zz z0 (w.heap.size + 1) ∧ Zz z0 (w.heap.size + 1 + 1) ∧ Zz z0 wr.heap.size ∧ Zz z0 (wr.heap.size + 1) ∧ Below w.heap.size w z0) ((wr.drew.alloc (.cells #[.int .i64 0, .int .i64 0, .float .f64 0, .string ⟨#[]⟩, .slice none 0 0] 27)).alloc (.cells #[.int .i64 0, .int .i64 0, .float .f64 0, .string ⟨#[]⟩, .slice none 0 0] 27)) from ⟨(row_alloc_step (row_alloc_step (TR1.out.1) _) _), (row_alloc_step (row_alloc_step (TR1.out.2.1) _) _), (row_alloc_step (row_alloc_step (TR1.out.2.2.1) _) _), (by have h := row_alloc_step (row_alloc wr.drew #[.int .i64 0, .int .i64 0, .float .f64 0, .string ⟨#[]⟩, .slice none 0 0] 27) (.cells #[.int .i64 0, .int .i64 0, .float .f64 0, .string ⟨#[]⟩, .slice none 0 0] 27); (try simp only [World.size_alloc, World.size_drew, World.size_setCell] at h); exact h), (by have h := row_alloc (wr.drew.alloc (.cells #[.int .i64 0, .int .i64 0, .float .f64 0, .string ⟨#[]⟩, .slice none 0 0] 27)) #[.int .i64 0, .int .i64 0, .float .f64 0, .string ⟨#[]⟩, .slice none 0 0] 27; (try simp only [World.size_alloc, World.size_drew, World.size_setCell] at h); exact h), bel_step TR1.out.2.2.2 (bel_alloc (bel_alloc (Below.refl _ _) _) _)⟩)
        go_wp2_with fail
        refine hK.out _ _ ?hsv130_ (fun hHeld => ?_)
        case hsv130_ => exact ⟨row_cell TR3.out.1 0, row_cell TR3.out.1 1, row_cell TR3.out.1 2, row_cell TR3.out.1 3, row_cell TR3.out.1 4, cell_keep TR3.out.2.2.2.2.2 Hd4.out, cell_keep TR3.out.2.2.2.2.2 Hd6.out⟩
        clear hK K
        (try simp only [Act.put, pk0, pk1, pk2])
        refine zr1 3 (by kernel_rfl) (by simp only [lk0, lk1, lk2]; rfl) (fun K hK => ?_)
        go_simp
        go_at_call 20; refine (float_is HCS.out _).mono ?_; rintro e w137 ⟨rfl, hbw137⟩
        have TR4 := Lib.hid (And.intro (row_step TR3.out.1 hbw137) (And.intro (row_step TR3.out.2.1 hbw137) (And.intro (row_step TR3.out.2.2.1 hbw137) (And.intro (row_step TR3.out.2.2.2.1 hbw137) (And.intro (row_step TR3.out.2.2.2.2.1 hbw137) (bel_step TR3.out.2.2.2.2.2 hbw137))))))
        clear TR3
        clear hbw137
        go_wp2_with fail
        refine hK.out _ _ ?hsv136_ (fun hHeld => ?_)
        case hsv136_ => exact ⟨row_cell TR4.out.1 0, row_cell TR4.out.1 1, row_cell TR4.out.1 2, row_cell TR4.out.1 3, row_cell TR4.out.1 4, cell_keep TR4.out.2.2.2.2.2 Hd4.out, cell_keep TR4.out.2.2.2.2.2 Hd6.out⟩
        clear hK K
        (try simp only [Act.put, pk0, pk1, pk2])
        refine zr1 15 (by kernel_rfl) (by simp only [lk0, lk1, lk2]; rfl) (fun K hK => ?_)
        go_simp
        go_at_call 20; refine (float_is HCG.out _).mono ?_; rintro e w139 ⟨rfl, hbw139⟩
        have TR5 := Lib.hid (And.intro (row_step TR4.out.1 hbw139) (And.intro (row_step TR4.out.2.1 hbw139) (And.intro (row_step TR4.out.2.2.1 hbw139) (And.intro (row_step TR4.out.2.2.2.1 hbw139) (And.intro (row_step TR4.out.2.2.2.2.1 hbw139) (bel_step TR4.out.2.2.2.2.2 hbw139))))))
        clear TR4
        clear hbw139
        go_wp2_with fail
        refine hK.out _ _ ?hsv138_ (fun hHeld => ?_)
        case hsv138_ => exact ⟨row_cell TR5.out.1 0, row_cell TR5.out.1 1, row_cell TR5.out.1 2, row_cell TR5.out.1 3, row_cell TR5.out.1 4, cell_keep TR5.out.2.2.2.2.2 Hd4.out, cell_keep TR5.out.2.2.2.2.2 Hd6.out⟩
        clear hK K
        (try simp only [Act.put, pk0, pk1, pk2])
        refine zr1 18 (by kernel_rfl) (by simp only [lk0, lk1, lk2]; rfl) (fun K hK => ?_)
        have b30 := row_cell TR5.out.2.2.2.1 0; have b31 := row_cell TR5.out.2.2.2.1 1; have b32 := row_cell TR5.out.2.2.2.1 2; have b33 := row_cell TR5.out.2.2.2.1 3; have b34 := row_cell TR5.out.2.2.2.1 4; have b3f := row_frz TR5.out.2.2.2.1; have b3l := row_lt TR5.out.2.2.2.1; go_simp
        have TR6 := Lib.hid (show (fun z0 : World => ZL z0 w.heap.size (some ⟨b, off, none⟩) l c ∧ Zz z0 (w.heap.size + 1) ∧ Zz z0 (w.heap.size + 1 + 1) ∧ ZF z0 wr.heap.size (Flo.cop .sub FA G) ∧ Zz z0 (wr.heap.size + 1) ∧ Below w.heap.size w z0) (((((w139.setCell ⟨wr.heap.size, 0, none⟩ (.int .i64 2)).setCell ⟨wr.heap.size, 1, none⟩ (.int .i64 0)).setCell ⟨wr.heap.size, 2, none⟩ (.float .f64 (Flo.cop .sub FA G))).setCell ⟨wr.heap.size, 3, none⟩ (.string ⟨#[]⟩)).setCell ⟨wr.heap.size, 4, none⟩ (.slice none 0 0)) from ⟨s5o TR5.out.1 (by omega), s5o TR5.out.2.1 (by omega), s5o TR5.out.2.2.1 (by omega), s5r TR5.out.2.2.2.1, s5o TR5.out.2.2.2.2.1 (by omega), s5b TR5.out.2.2.2.2.2 (by omega)⟩)
        clear TR5
        clear b30 b31 b32 b33 b34 b3f b3l
        go_wp2_with fail
        refine hK.out _ _ ?hsv140_ (fun hHeld => ?_)
        case hsv140_ => exact ⟨row_cell TR6.out.1 0, row_cell TR6.out.1 1, row_cell TR6.out.1 2, row_cell TR6.out.1 3, row_cell TR6.out.1 4, cell_keep TR6.out.2.2.2.2.2 Hd4.out, cell_keep TR6.out.2.2.2.2.2 Hd6.out⟩
        clear hK K
        (try simp only [Act.put, pk0, pk1, pk2])
        refine zr1 19 (by kernel_rfl) (by simp only [lk0, lk1, lk2]; rfl) (fun K hK => ?_)
        have b30 := row_cell TR6.out.2.2.2.2.1 0; have b31 := row_cell TR6.out.2.2.2.2.1 1; have b32 := row_cell TR6.out.2.2.2.2.1 2; have b33 := row_cell TR6.out.2.2.2.2.1 3; have b34 := row_cell TR6.out.2.2.2.2.1 4; have b3f := row_frz TR6.out.2.2.2.2.1; have b3l := row_lt TR6.out.2.2.2.2.1; go_simp
        have TR7 := Lib.hid (show (fun z0 : World => ZL z0 w.heap.size (some ⟨b, off, none⟩) l c ∧ Zz z0 (w.heap.size + 1) ∧ Zz z0 (w.heap.size + 1 + 1) ∧ ZF z0 wr.heap.size (Flo.cop .sub FA G) ∧ ZF z0 (wr.heap.size + 1) (Flo.cop .add FD G) ∧ Below w.heap.size w z0) ((((((((((w139.setCell ⟨wr.heap.size, 0, none⟩ (.int .i64 2)).setCell ⟨wr.heap.size, 1, none⟩ (.int .i64 0)).setCell ⟨wr.heap.size, 2, none⟩ (.float .f64 (Flo.cop .sub FA G))).setCell ⟨wr.heap.size, 3, none⟩ (.string ⟨#[]⟩)).setCell ⟨wr.heap.size, 4, none⟩ (.slice none 0 0)).setCell ⟨wr.heap.size + 1, 0, none⟩ (.int .i64 2)).setCell ⟨wr.heap.size + 1, 1, none⟩ (.int .i64 0)).setCell ⟨wr.heap.size + 1, 2, none⟩ (.float .f64 (Flo.cop .add FD G))).setCell ⟨wr.heap.size + 1, 3, none⟩ (.string ⟨#[]⟩)).setCell ⟨wr.heap.size + 1, 4, none⟩ (.slice none 0 0)) from ⟨s5o TR6.out.1 (by omega), s5o TR6.out.2.1 (by omega), s5o TR6.out.2.2.1 (by omega), s5o TR6.out.2.2.2.1 (by omega), s5r TR6.out.2.2.2.2.1, s5b TR6.out.2.2.2.2.2 (by omega)⟩)
        clear TR6
        clear b30 b31 b32 b33 b34 b3f b3l
        go_wp2_with fail
        refine hK.out _ _ ?hsv141_ (fun hHeld => ?_)
        case hsv141_ => exact ⟨row_cell TR7.out.1 0, row_cell TR7.out.1 1, row_cell TR7.out.1 2, row_cell TR7.out.1 3, row_cell TR7.out.1 4, cell_keep TR7.out.2.2.2.2.2 Hd4.out, cell_keep TR7.out.2.2.2.2.2 Hd6.out⟩
        clear hK K
        (try simp only [Act.put, pk0, pk1, pk2])
        refine wpAnyH_done (by kernel_rfl) ?_ _
        revert TR7
        generalize ((((((((((w139.setCell ⟨wr.heap.size, 0, none⟩ (.int .i64 2)).setCell ⟨wr.heap.size, 1, none⟩ (.int .i64 0)).setCell ⟨wr.heap.size, 2, none⟩ (.float .f64 (Flo.cop .sub FA G))).setCell ⟨wr.heap.size, 3, none⟩ (.string ⟨#[]⟩)).setCell ⟨wr.heap.size, 4, none⟩ (.slice none 0 0)).setCell ⟨wr.heap.size + 1, 0, none⟩ (.int .i64 2)).setCell ⟨wr.heap.size + 1, 1, none⟩ (.int .i64 0)).setCell ⟨wr.heap.size + 1, 2, none⟩ (.float .f64 (Flo.cop .add FD G))).setCell ⟨wr.heap.size + 1, 3, none⟩ (.string ⟨#[]⟩)).setCell ⟨wr.heap.size + 1, 4, none⟩ (.slice none 0 0)) = Wg142
        intro TR7
        exact hQ _ _ _ (by omega) (by omega) ⟨TR7.out.1, TR7.out.2.1, TR7.out.2.2.1, TR7.out.2.2.2.1, TR7.out.2.2.2.2.1, TR7.out.2.2.2.2.2⟩
    case mov101_ =>
      refine AllReadyH.cons (o := ?_) ?hov143_ ?hstv143_ AllReadyH.nil
      case hov143_ => (simp only [lk0, lk1, lk2]; rfl)
      intro K hK
      go_simp
      have hlt144 : w.heap.size < wr.heap.size := (by have h := row_lt TR1.out.1; (try simp only [World.size_alloc, World.size_drew] at h); exact h)
      have hlt145 : w.heap.size + 1 < wr.heap.size := (by have h := row_lt TR1.out.2.1; (try simp only [World.size_alloc, World.size_drew] at h); exact h)
      have hlt146 : w.heap.size + 1 + 1 < wr.heap.size := (by have h := row_lt TR1.out.2.2.1; (try simp only [World.size_alloc, World.size_drew] at h); exact h)
      have hlt147 : w.heap.size ≤ wr.heap.size := (by have h := TR1.out.2.2.2.size; (try simp only [World.size_alloc, World.size_drew] at h); exact h)
      have TR2 := Lib.hid (show (fun z0 : World => ZL z0 w.heap.size (some ⟨b, off, none⟩) l c ∧ Zz z0 (w.heap.size + 1) ∧ Zz z0 (w.heap.size + 1 + 1) ∧ Zz z0 wr.heap.size ∧ Below w.heap.size w z0) (wr.drew.alloc (.cells #[.int .i64 0, .int .i64 0, .float .f64 0, .string ⟨#[]⟩, .slice none 0 0] 27)) from ⟨(row_alloc_step (TR1.out.1) _), (row_alloc_step (TR1.out.2.1) _), (row_alloc_step (TR1.out.2.2.1) _), (by have h := row_alloc wr.drew #[.int .i64 0, .int .i64 0, .float .f64 0, .string ⟨#[]⟩, .slice none 0 0] 27; (try simp only [World.size_alloc, World.size_drew, World.size_setCell] at h); exact h), bel_step TR1.out.2.2.2 (bel_alloc (Below.refl _ _) _)⟩)
      go_wp2_with fail
      refine hK.out _ _ ?hsv143_ (fun hHeld => ?_)
      case hsv143_ => exact ⟨row_cell TR2.out.1 0, row_cell TR2.out.1 1, row_cell TR2.out.1 2, row_cell TR2.out.1 3, row_cell TR2.out.1 4, cell_keep TR2.out.2.2.2.2 Hd4.out, cell_keep TR2.out.2.2.2.2 Hd6.out⟩
      clear hK K
      (try simp only [Act.put, pk0, pk1, pk2])
      refine wpAnyH_ready (rs := [3, 16]) (by kernel_rfl) (by simp) ?_
      refine AllReadyH.cons (o := ?_) ?hov148_ ?hstv148_ ?mov148_
      case hov148_ => (simp only [lk0, lk1, lk2]; rfl)
      case hstv148_ =>
        intro K hK
        go_simp
        go_at_call 20; refine (float_is HCS.out _).mono ?_; rintro e w149 ⟨rfl, hbw149⟩
        have TR3 := Lib.hid (And.intro (row_step TR2.out.1 hbw149) (And.intro (row_step TR2.out.2.1 hbw149) (And.intro (row_step TR2.out.2.2.1 hbw149) (And.intro (row_step TR2.out.2.2.2.1 hbw149) (bel_step TR2.out.2.2.2.2 hbw149)))))
        clear TR2
        clear hbw149
        go_wp2_with fail
        refine hK.out _ _ ?hsv148_ (fun hHeld => ?_)
        case hsv148_ => exact ⟨row_cell TR3.out.1 0, row_cell TR3.out.1 1, row_cell TR3.out.1 2, row_cell TR3.out.1 3, row_cell TR3.out.1 4, cell_keep TR3.out.2.2.2.2 Hd4.out, cell_keep TR3.out.2.2.2.2 Hd6.out⟩
        clear hK K
        (try simp only [Act.put, pk0, pk1, pk2])
        refine wpAnyH_ready (rs := [15, 16]) (by kernel_rfl) (by simp) ?_
        refine AllReadyH.cons (o := ?_) ?hov150_ ?hstv150_ ?mov150_
        case hov150_ => (simp only [lk0, lk1, lk2]; rfl)
        case hstv150_ =>
          intro K hK
          go_simp
          go_at_call 20; refine (float_is HCG.out _).mono ?_; rintro e w151 ⟨rfl, hbw151⟩
          have TR4 := Lib.hid (And.intro (row_step TR3.out.1 hbw151) (And.intro (row_step TR3.out.2.1 hbw151) (And.intro (row_step TR3.out.2.2.1 hbw151) (And.intro (row_step TR3.out.2.2.2.1 hbw151) (bel_step TR3.out.2.2.2.2 hbw151)))))
          clear TR3
          clear hbw151
          go_wp2_with fail
          refine hK.out _ _ ?hsv150_ (fun hHeld => ?_)
          case hsv150_ => exact ⟨row_cell TR4.out.1 0, row_cell TR4.out.1 1, row_cell TR4.out.1 2, row_cell TR4.out.1 3, row_cell TR4.out.1 4, cell_keep TR4.out.2.2.2.2 Hd4.out, cell_keep TR4.out.2.2.2.2 Hd6.out⟩
          clear hK K
          (try simp only [Act.put, pk0, pk1, pk2])
          refine zr1 16 (by kernel_rfl) (by simp only [lk0, lk1, lk2]; rfl) (fun K hK => ?_)
          go_simp
          have hlt153 : w.heap.size < w151.heap.size := (by have h := row_lt TR4.out.1; (try simp only [World.size_alloc, World.size_drew] at h); exact h)
          have hlt154 : w.heap.size + 1 < w151.heap.size := (by have h := row_lt TR4.out.2.1; (try simp only [World.size_alloc, World.size_drew] at h); exact h)
          have hlt155 : w.heap.size + 1 + 1 < w151.heap.size := (by have h := row_lt TR4.out.2.2.1; (try simp only [World.size_alloc, World.size_drew] at h); exact h)
          have hlt156 : wr.heap.size < w151.heap.size := (by have h := row_lt TR4.out.2.2.2.1; (try simp only [World.size_alloc, World.size_drew] at h); exact h)
          have hlt157 : w.heap.size ≤ w151.heap.size := (by have h := TR4.out.2.2.2.2.size; (try simp only [World.size_alloc, World.size_drew] at h); exact h)
          have TR5 := Lib.hid (show (fun z0 : World => ZL z0 w.heap.size (some ⟨b, off, none⟩) l c ∧ Zz z0 (w.heap.size + 1) ∧ Zz z0 (w.heap.size + 1 + 1) ∧ Zz z0 wr.heap.size ∧ Zz z0 w151.heap.size ∧ Below w.heap.size w z0) (w151.alloc (.cells #[.int .i64 0, .int .i64 0, .float .f64 0, .string ⟨#[]⟩, .slice none 0 0] 27)) from ⟨(row_alloc_step (TR4.out.1) _), (row_alloc_step (TR4.out.2.1) _), (row_alloc_step (TR4.out.2.2.1) _), (row_alloc_step (TR4.out.2.2.2.1) _), (by have h := row_alloc w151 #[.int .i64 0, .int .i64 0, .float .f64 0, .string ⟨#[]⟩, .slice none 0 0] 27; (try simp only [World.size_alloc, World.size_drew, World.size_setCell] at h); exact h), bel_step TR4.out.2.2.2.2 (bel_alloc (Below.refl _ _) _)⟩)
          go_wp2_with fail
          refine hK.out _ _ ?hsv152_ (fun hHeld => ?_)
          case hsv152_ => exact ⟨row_cell TR5.out.1 0, row_cell TR5.out.1 1, row_cell TR5.out.1 2, row_cell TR5.out.1 3, row_cell TR5.out.1 4, cell_keep TR5.out.2.2.2.2.2 Hd4.out, cell_keep TR5.out.2.2.2.2.2 Hd6.out⟩
          clear hK K
          (try simp only [Act.put, pk0, pk1, pk2])
          refine zr1 18 (by kernel_rfl) (by simp only [lk0, lk1, lk2]; rfl) (fun K hK => ?_)
          have b30 := row_cell TR5.out.2.2.2.2.1 0; have b31 := row_cell TR5.out.2.2.2.2.1 1; have b32 := row_cell TR5.out.2.2.2.2.1 2; have b33 := row_cell TR5.out.2.2.2.2.1 3; have b34 := row_cell TR5.out.2.2.2.2.1 4; have b3f := row_frz TR5.out.2.2.2.2.1; have b3l := row_lt TR5.out.2.2.2.2.1; go_simp
          have TR6 := Lib.hid (show (fun z0 : World => ZL z0 w.heap.size (some ⟨b, off, none⟩) l c ∧ Zz z0 (w.heap.size + 1) ∧ Zz z0 (w.heap.size + 1 + 1) ∧ Zz z0 wr.heap.size ∧ ZF z0 w151.heap.size (Flo.cop .sub FA G) ∧ Below w.heap.size w z0) (w151.alloc (.cells #[.int .i64 2, .int .i64 0, .float .f64 (Flo.cop .sub FA G), .string ⟨#[]⟩, .slice none 0 0] 27)) from ⟨(row_alloc_step (TR4.out.1) _), (row_alloc_step (TR4.out.2.1) _), (row_alloc_step (TR4.out.2.2.1) _), (row_alloc_step (TR4.out.2.2.2.1) _), (by have h := row_alloc w151 #[.int .i64 2, .int .i64 0, .float .f64 (Flo.cop .sub FA G), .string ⟨#[]⟩, .slice none 0 0] 27; (try simp only [World.size_alloc, World.size_drew, World.size_setCell] at h); exact h), bel_step TR4.out.2.2.2.2 (bel_alloc (Below.refl _ _) _)⟩)
          clear b30 b31 b32 b33 b34 b3f b3l
          go_wp2_with fail
          refine hK.out _ _ ?hsv158_ (fun hHeld => ?_)
          case hsv158_ => exact ⟨row_cell TR6.out.1 0, row_cell TR6.out.1 1, row_cell TR6.out.1 2, row_cell TR6.out.1 3, row_cell TR6.out.1 4, cell_keep TR6.out.2.2.2.2.2 Hd4.out, cell_keep TR6.out.2.2.2.2.2 Hd6.out⟩
          clear hK K
          (try simp only [Act.put, pk0, pk1, pk2])
          refine zr1 19 (by kernel_rfl) (by simp only [lk0, lk1, lk2]; rfl) (fun K hK => ?_)
          have b30 := row_cell TR4.out.2.2.2.1 0; have b31 := row_cell TR4.out.2.2.2.1 1; have b32 := row_cell TR4.out.2.2.2.1 2; have b33 := row_cell TR4.out.2.2.2.1 3; have b34 := row_cell TR4.out.2.2.2.1 4; have b3f := row_frz TR4.out.2.2.2.1; have b3l : wr.heap.size < w151.heap.size := row_lt TR4.out.2.2.2.1; have b3n0 : w151.heap.size ≠ wr.heap.size := (by omega); go_simp
          have TR7 := Lib.hid (show (fun z0 : World => ZL z0 w.heap.size (some ⟨b, off, none⟩) l c ∧ Zz z0 (w.heap.size + 1) ∧ Zz z0 (w.heap.size + 1 + 1) ∧ ZF z0 wr.heap.size (Flo.cop .add FD G) ∧ Below w.heap.size w z0) (((((w151.setCell ⟨wr.heap.size, 0, none⟩ (.int .i64 2)).setCell ⟨wr.heap.size, 1, none⟩ (.int .i64 0)).setCell ⟨wr.heap.size, 2, none⟩ (.float .f64 (Flo.cop .add FD G))).setCell ⟨wr.heap.size, 3, none⟩ (.string ⟨#[]⟩)).setCell ⟨wr.heap.size, 4, none⟩ (.slice none 0 0)) from ⟨s5o TR4.out.1 (by omega), s5o TR4.out.2.1 (by omega), s5o TR4.out.2.2.1 (by omega), s5r TR4.out.2.2.2.1, s5b TR4.out.2.2.2.2 (by omega)⟩)
          have TR8 := Lib.hid (show (fun z0 : World => ZL z0 w.heap.size (some ⟨b, off, none⟩) l c ∧ Zz z0 (w.heap.size + 1) ∧ Zz z0 (w.heap.size + 1 + 1) ∧ ZF z0 wr.heap.size (Flo.cop .add FD G) ∧ ZF z0 w151.heap.size (Flo.cop .sub FA G) ∧ Below w.heap.size w z0) ((((((w151.setCell ⟨wr.heap.size, 0, none⟩ (.int .i64 2)).setCell ⟨wr.heap.size, 1, none⟩ (.int .i64 0)).setCell ⟨wr.heap.size, 2, none⟩ (.float .f64 (Flo.cop .add FD G))).setCell ⟨wr.heap.size, 3, none⟩ (.string ⟨#[]⟩)).setCell ⟨wr.heap.size, 4, none⟩ (.slice none 0 0)).alloc (.cells #[.int .i64 2, .int .i64 0, .float .f64 (Flo.cop .sub FA G), .string ⟨#[]⟩, .slice none 0 0] 27)) from ⟨(row_alloc_step (TR7.out.1) _), (row_alloc_step (TR7.out.2.1) _), (row_alloc_step (TR7.out.2.2.1) _), (row_alloc_step (TR7.out.2.2.2.1) _), (by have h := row_alloc (((((w151.setCell ⟨wr.heap.size, 0, none⟩ (.int .i64 2)).setCell ⟨wr.heap.size, 1, none⟩ (.int .i64 0)).setCell ⟨wr.heap.size, 2, none⟩ (.float .f64 (Flo.cop .add FD G))).setCell ⟨wr.heap.size, 3, none⟩ (.string ⟨#[]⟩)).setCell ⟨wr.heap.size, 4, none⟩ (.slice none 0 0)) #[.int .i64 2, .int .i64 0, .float .f64 (Flo.cop .sub FA G), .string ⟨#[]⟩, .slice none 0 0] 27; (try simp only [World.size_alloc, World.size_drew, World.size_setCell] at h); exact h), bel_step TR7.out.2.2.2.2 (bel_alloc (Below.refl _ _) _)⟩)
          clear b30 b31 b32 b33 b34 b3f b3l b3n0
          go_wp2_with fail
          refine hK.out _ _ ?hsv159_ (fun hHeld => ?_)
          case hsv159_ => exact ⟨row_cell TR8.out.1 0, row_cell TR8.out.1 1, row_cell TR8.out.1 2, row_cell TR8.out.1 3, row_cell TR8.out.1 4, cell_keep TR8.out.2.2.2.2.2 Hd4.out, cell_keep TR8.out.2.2.2.2.2 Hd6.out⟩
          clear hK K
          (try simp only [Act.put, pk0, pk1, pk2])
          refine wpAnyH_done (by kernel_rfl) ?_ _
          revert TR8
          generalize ((((((w151.setCell ⟨wr.heap.size, 0, none⟩ (.int .i64 2)).setCell ⟨wr.heap.size, 1, none⟩ (.int .i64 0)).setCell ⟨wr.heap.size, 2, none⟩ (.float .f64 (Flo.cop .add FD G))).setCell ⟨wr.heap.size, 3, none⟩ (.string ⟨#[]⟩)).setCell ⟨wr.heap.size, 4, none⟩ (.slice none 0 0)).alloc (.cells #[.int .i64 2, .int .i64 0, .float .f64 (Flo.cop .sub FA G), .string ⟨#[]⟩, .slice none 0 0] 27)) = Wg160
          intro TR8
          exact hQ _ _ _ (by omega) (by omega) ⟨TR8.out.1, TR8.out.2.1, TR8.out.2.2.1, TR8.out.2.2.2.2.1, TR8.out.2.2.2.1, TR8.out.2.2.2.2.2⟩
        case mov150_ =>
          refine AllReadyH.cons (o := ?_) ?hov161_ ?hstv161_ AllReadyH.nil
          case hov161_ => (simp only [lk0, lk1, lk2]; rfl)
          intro K hK
          go_simp
          have hlt162 : w.heap.size < w149.heap.size := (by have h := row_lt TR3.out.1; (try simp only [World.size_alloc, World.size_drew] at h); exact h)
          have hlt163 : w.heap.size + 1 < w149.heap.size := (by have h := row_lt TR3.out.2.1; (try simp only [World.size_alloc, World.size_drew] at h); exact h)
          have hlt164 : w.heap.size + 1 + 1 < w149.heap.size := (by have h := row_lt TR3.out.2.2.1; (try simp only [World.size_alloc, World.size_drew] at h); exact h)
          have hlt165 : wr.heap.size < w149.heap.size := (by have h := row_lt TR3.out.2.2.2.1; (try simp only [World.size_alloc, World.size_drew] at h); exact h)
          have hlt166 : w.heap.size ≤ w149.heap.size := (by have h := TR3.out.2.2.2.2.size; (try simp only [World.size_alloc, World.size_drew] at h); exact h)
          have TR4 := Lib.hid (show (fun z0 : World => ZL z0 w.heap.size (some ⟨b, off, none⟩) l c ∧ Zz z0 (w.heap.size + 1) ∧ Zz z0 (w.heap.size + 1 + 1) ∧ Zz z0 wr.heap.size ∧ Zz z0 w149.heap.size ∧ Below w.heap.size w z0) (w149.alloc (.cells #[.int .i64 0, .int .i64 0, .float .f64 0, .string ⟨#[]⟩, .slice none 0 0] 27)) from ⟨(row_alloc_step (TR3.out.1) _), (row_alloc_step (TR3.out.2.1) _), (row_alloc_step (TR3.out.2.2.1) _), (row_alloc_step (TR3.out.2.2.2.1) _), (by have h := row_alloc w149 #[.int .i64 0, .int .i64 0, .float .f64 0, .string ⟨#[]⟩, .slice none 0 0] 27; (try simp only [World.size_alloc, World.size_drew, World.size_setCell] at h); exact h), bel_step TR3.out.2.2.2.2 (bel_alloc (Below.refl _ _) _)⟩)
          go_wp2_with fail
          refine hK.out _ _ ?hsv161_ (fun hHeld => ?_)
          case hsv161_ => exact ⟨row_cell TR4.out.1 0, row_cell TR4.out.1 1, row_cell TR4.out.1 2, row_cell TR4.out.1 3, row_cell TR4.out.1 4, cell_keep TR4.out.2.2.2.2.2 Hd4.out, cell_keep TR4.out.2.2.2.2.2 Hd6.out⟩
          clear hK K
          (try simp only [Act.put, pk0, pk1, pk2])
          refine zr1 15 (by kernel_rfl) (by simp only [lk0, lk1, lk2]; rfl) (fun K hK => ?_)
          go_simp
          go_at_call 20; refine (float_is HCG.out _).mono ?_; rintro e w168 ⟨rfl, hbw168⟩
          have TR5 := Lib.hid (And.intro (row_step TR4.out.1 hbw168) (And.intro (row_step TR4.out.2.1 hbw168) (And.intro (row_step TR4.out.2.2.1 hbw168) (And.intro (row_step TR4.out.2.2.2.1 hbw168) (And.intro (row_step TR4.out.2.2.2.2.1 hbw168) (bel_step TR4.out.2.2.2.2.2 hbw168))))))
          clear TR4
          clear hbw168
          go_wp2_with fail
          refine hK.out _ _ ?hsv167_ (fun hHeld => ?_)
          case hsv167_ => exact ⟨row_cell TR5.out.1 0, row_cell TR5.out.1 1, row_cell TR5.out.1 2, row_cell TR5.out.1 3, row_cell TR5.out.1 4, cell_keep TR5.out.2.2.2.2.2 Hd4.out, cell_keep TR5.out.2.2.2.2.2 Hd6.out⟩
          clear hK K
          (try simp only [Act.put, pk0, pk1, pk2])
          refine zr1 18 (by kernel_rfl) (by simp only [lk0, lk1, lk2]; rfl) (fun K hK => ?_)
          have b30 := row_cell TR5.out.2.2.2.2.1 0; have b31 := row_cell TR5.out.2.2.2.2.1 1; have b32 := row_cell TR5.out.2.2.2.2.1 2; have b33 := row_cell TR5.out.2.2.2.2.1 3; have b34 := row_cell TR5.out.2.2.2.2.1 4; have b3f := row_frz TR5.out.2.2.2.2.1; have b3l := row_lt TR5.out.2.2.2.2.1; go_simp
          have TR6 := Lib.hid (show (fun z0 : World => ZL z0 w.heap.size (some ⟨b, off, none⟩) l c ∧ Zz z0 (w.heap.size + 1) ∧ Zz z0 (w.heap.size + 1 + 1) ∧ Zz z0 wr.heap.size ∧ ZF z0 w149.heap.size (Flo.cop .sub FA G) ∧ Below w.heap.size w z0) (((((w168.setCell ⟨w149.heap.size, 0, none⟩ (.int .i64 2)).setCell ⟨w149.heap.size, 1, none⟩ (.int .i64 0)).setCell ⟨w149.heap.size, 2, none⟩ (.float .f64 (Flo.cop .sub FA G))).setCell ⟨w149.heap.size, 3, none⟩ (.string ⟨#[]⟩)).setCell ⟨w149.heap.size, 4, none⟩ (.slice none 0 0)) from ⟨s5o TR5.out.1 (by omega), s5o TR5.out.2.1 (by omega), s5o TR5.out.2.2.1 (by omega), s5o TR5.out.2.2.2.1 (by omega), s5r TR5.out.2.2.2.2.1, s5b TR5.out.2.2.2.2.2 (by omega)⟩)
          clear TR5
          clear b30 b31 b32 b33 b34 b3f b3l
          go_wp2_with fail
          refine hK.out _ _ ?hsv169_ (fun hHeld => ?_)
          case hsv169_ => exact ⟨row_cell TR6.out.1 0, row_cell TR6.out.1 1, row_cell TR6.out.1 2, row_cell TR6.out.1 3, row_cell TR6.out.1 4, cell_keep TR6.out.2.2.2.2.2 Hd4.out, cell_keep TR6.out.2.2.2.2.2 Hd6.out⟩
          clear hK K
          (try simp only [Act.put, pk0, pk1, pk2])
          refine zr1 19 (by kernel_rfl) (by simp only [lk0, lk1, lk2]; rfl) (fun K hK => ?_)
          have b30 := row_cell TR6.out.2.2.2.1 0; have b31 := row_cell TR6.out.2.2.2.1 1; have b32 := row_cell TR6.out.2.2.2.1 2; have b33 := row_cell TR6.out.2.2.2.1 3; have b34 := row_cell TR6.out.2.2.2.1 4; have b3f := row_frz TR6.out.2.2.2.1; have b3l := row_lt TR6.out.2.2.2.1; go_simp
          have TR7 := Lib.hid (show (fun z0 : World => ZL z0 w.heap.size (some ⟨b, off, none⟩) l c ∧ Zz z0 (w.heap.size + 1) ∧ Zz z0 (w.heap.size + 1 + 1) ∧ ZF z0 wr.heap.size (Flo.cop .add FD G) ∧ ZF z0 w149.heap.size (Flo.cop .sub FA G) ∧ Below w.heap.size w z0) ((((((((((w168.setCell ⟨w149.heap.size, 0, none⟩ (.int .i64 2)).setCell ⟨w149.heap.size, 1, none⟩ (.int .i64 0)).setCell ⟨w149.heap.size, 2, none⟩ (.float .f64 (Flo.cop .sub FA G))).setCell ⟨w149.heap.size, 3, none⟩ (.string ⟨#[]⟩)).setCell ⟨w149.heap.size, 4, none⟩ (.slice none 0 0)).setCell ⟨wr.heap.size, 0, none⟩ (.int .i64 2)).setCell ⟨wr.heap.size, 1, none⟩ (.int .i64 0)).setCell ⟨wr.heap.size, 2, none⟩ (.float .f64 (Flo.cop .add FD G))).setCell ⟨wr.heap.size, 3, none⟩ (.string ⟨#[]⟩)).setCell ⟨wr.heap.size, 4, none⟩ (.slice none 0 0)) from ⟨s5o TR6.out.1 (by omega), s5o TR6.out.2.1 (by omega), s5o TR6.out.2.2.1 (by omega), s5r TR6.out.2.2.2.1, s5o TR6.out.2.2.2.2.1 (by omega), s5b TR6.out.2.2.2.2.2 (by omega)⟩)
          clear TR6
          clear b30 b31 b32 b33 b34 b3f b3l
          go_wp2_with fail
          refine hK.out _ _ ?hsv170_ (fun hHeld => ?_)
          case hsv170_ => exact ⟨row_cell TR7.out.1 0, row_cell TR7.out.1 1, row_cell TR7.out.1 2, row_cell TR7.out.1 3, row_cell TR7.out.1 4, cell_keep TR7.out.2.2.2.2.2 Hd4.out, cell_keep TR7.out.2.2.2.2.2 Hd6.out⟩
          clear hK K
          (try simp only [Act.put, pk0, pk1, pk2])
          refine wpAnyH_done (by kernel_rfl) ?_ _
          revert TR7
          generalize ((((((((((w168.setCell ⟨w149.heap.size, 0, none⟩ (.int .i64 2)).setCell ⟨w149.heap.size, 1, none⟩ (.int .i64 0)).setCell ⟨w149.heap.size, 2, none⟩ (.float .f64 (Flo.cop .sub FA G))).setCell ⟨w149.heap.size, 3, none⟩ (.string ⟨#[]⟩)).setCell ⟨w149.heap.size, 4, none⟩ (.slice none 0 0)).setCell ⟨wr.heap.size, 0, none⟩ (.int .i64 2)).setCell ⟨wr.heap.size, 1, none⟩ (.int .i64 0)).setCell ⟨wr.heap.size, 2, none⟩ (.float .f64 (Flo.cop .add FD G))).setCell ⟨wr.heap.size, 3, none⟩ (.string ⟨#[]⟩)).setCell ⟨wr.heap.size, 4, none⟩ (.slice none 0 0)) = Wg171
          intro TR7
          exact hQ _ _ _ (by omega) (by omega) ⟨TR7.out.1, TR7.out.2.1, TR7.out.2.2.1, TR7.out.2.2.2.2.1, TR7.out.2.2.2.1, TR7.out.2.2.2.2.2⟩
      case mov148_ =>
        refine AllReadyH.cons (o := ?_) ?hov172_ ?hstv172_ AllReadyH.nil
        case hov172_ => (simp only [lk0, lk1, lk2]; rfl)
        intro K hK
        go_simp
        have hlt173 : w.heap.size < wr.heap.size + 1 := (by have h := row_lt TR2.out.1; (try simp only [World.size_alloc, World.size_drew] at h); exact h)
        have hlt174 : w.heap.size + 1 < wr.heap.size + 1 := (by have h := row_lt TR2.out.2.1; (try simp only [World.size_alloc, World.size_drew] at h); exact h)
        have hlt175 : w.heap.size + 1 + 1 < wr.heap.size + 1 := (by have h := row_lt TR2.out.2.2.1; (try simp only [World.size_alloc, World.size_drew] at h); exact h)
        have hlt176 : wr.heap.size < wr.heap.size + 1 := (by have h := row_lt TR2.out.2.2.2.1; (try simp only [World.size_alloc, World.size_drew] at h); exact h)
        have hlt177 : w.heap.size ≤ wr.heap.size + 1 := (by have h := TR2.out.2.2.2.2.size; (try simp only [World.size_alloc, World.size_drew] at h); exact h)
        have TR3 := Lib.hid (show (fun z0 : World => ZL z0 w.heap.size (some ⟨b, off, none⟩) l c ∧ Zz z0 (w.heap.size + 1) ∧ Zz z0 (w.heap.size + 1 + 1) ∧ Zz z0 wr.heap.size ∧ Zz z0 (wr.heap.size + 1) ∧ Below w.heap.size w z0) ((wr.drew.alloc (.cells #[.int .i64 0, .int .i64 0, .float .f64 0, .string ⟨#[]⟩, .slice none 0 0] 27)).alloc (.cells #[.int .i64 0, .int .i64 0, .float .f64 0, .string ⟨#[]⟩, .slice none 0 0] 27)) from ⟨(row_alloc_step (row_alloc_step (TR1.out.1) _) _), (row_alloc_step (row_alloc_step (TR1.out.2.1) _) _), (row_alloc_step (row_alloc_step (TR1.out.2.2.1) _) _), (by have h := row_alloc_step (row_alloc wr.drew #[.int .i64 0, .int .i64 0, .float .f64 0, .string ⟨#[]⟩, .slice none 0 0] 27) (.cells #[.int .i64 0, .int .i64 0, .float .f64 0, .string ⟨#[]⟩, .slice none 0 0] 27); (try simp only [World.size_alloc, World.size_drew, World.size_setCell] at h); exact h), (by have h := row_alloc (wr.drew.alloc (.cells #[.int .i64 0, .int .i64 0, .float .f64 0, .string ⟨#[]⟩, .slice none 0 0] 27)) #[.int .i64 0, .int .i64 0, .float .f64 0, .string ⟨#[]⟩, .slice none 0 0] 27; (try simp only [World.size_alloc, World.size_drew, World.size_setCell] at h); exact h), bel_step TR1.out.2.2.2 (bel_alloc (bel_alloc (Below.refl _ _) _) _)⟩)
        go_wp2_with fail
        refine hK.out _ _ ?hsv172_ (fun hHeld => ?_)
        case hsv172_ => exact ⟨row_cell TR3.out.1 0, row_cell TR3.out.1 1, row_cell TR3.out.1 2, row_cell TR3.out.1 3, row_cell TR3.out.1 4, cell_keep TR3.out.2.2.2.2.2 Hd4.out, cell_keep TR3.out.2.2.2.2.2 Hd6.out⟩
        clear hK K
        (try simp only [Act.put, pk0, pk1, pk2])
        refine zr1 3 (by kernel_rfl) (by simp only [lk0, lk1, lk2]; rfl) (fun K hK => ?_)
        go_simp
        go_at_call 20; refine (float_is HCS.out _).mono ?_; rintro e w179 ⟨rfl, hbw179⟩
        have TR4 := Lib.hid (And.intro (row_step TR3.out.1 hbw179) (And.intro (row_step TR3.out.2.1 hbw179) (And.intro (row_step TR3.out.2.2.1 hbw179) (And.intro (row_step TR3.out.2.2.2.1 hbw179) (And.intro (row_step TR3.out.2.2.2.2.1 hbw179) (bel_step TR3.out.2.2.2.2.2 hbw179))))))
        clear TR3
        clear hbw179
        go_wp2_with fail
        refine hK.out _ _ ?hsv178_ (fun hHeld => ?_)
        case hsv178_ => exact ⟨row_cell TR4.out.1 0, row_cell TR4.out.1 1, row_cell TR4.out.1 2, row_cell TR4.out.1 3, row_cell TR4.out.1 4, cell_keep TR4.out.2.2.2.2.2 Hd4.out, cell_keep TR4.out.2.2.2.2.2 Hd6.out⟩
        clear hK K
        (try simp only [Act.put, pk0, pk1, pk2])
        refine zr1 15 (by kernel_rfl) (by simp only [lk0, lk1, lk2]; rfl) (fun K hK => ?_)
        go_simp
        go_at_call 20; refine (float_is HCG.out _).mono ?_; rintro e w181 ⟨rfl, hbw181⟩
        have TR5 := Lib.hid (And.intro (row_step TR4.out.1 hbw181) (And.intro (row_step TR4.out.2.1 hbw181) (And.intro (row_step TR4.out.2.2.1 hbw181) (And.intro (row_step TR4.out.2.2.2.1 hbw181) (And.intro (row_step TR4.out.2.2.2.2.1 hbw181) (bel_step TR4.out.2.2.2.2.2 hbw181))))))
        clear TR4
        clear hbw181
        go_wp2_with fail
        refine hK.out _ _ ?hsv180_ (fun hHeld => ?_)
        case hsv180_ => exact ⟨row_cell TR5.out.1 0, row_cell TR5.out.1 1, row_cell TR5.out.1 2, row_cell TR5.out.1 3, row_cell TR5.out.1 4, cell_keep TR5.out.2.2.2.2.2 Hd4.out, cell_keep TR5.out.2.2.2.2.2 Hd6.out⟩
        clear hK K
        (try simp only [Act.put, pk0, pk1, pk2])
        refine zr1 18 (by kernel_rfl) (by simp only [lk0, lk1, lk2]; rfl) (fun K hK => ?_)
        have b30 := row_cell TR5.out.2.2.2.2.1 0; have b31 := row_cell TR5.out.2.2.2.2.1 1; have b32 := row_cell TR5.out.2.2.2.2.1 2; have b33 := row_cell TR5.out.2.2.2.2.1 3; have b34 := row_cell TR5.out.2.2.2.2.1 4; have b3f := row_frz TR5.out.2.2.2.2.1; have b3l := row_lt TR5.out.2.2.2.2.1; go_simp
        have TR6 := Lib.hid (show (fun z0 : World => ZL z0 w.heap.size (some ⟨b, off, none⟩) l c ∧ Zz z0 (w.heap.size + 1) ∧ Zz z0 (w.heap.size + 1 + 1) ∧ Zz z0 wr.heap.size ∧ ZF z0 (wr.heap.size + 1) (Flo.cop .sub FA G) ∧ Below w.heap.size w z0) (((((w181.setCell ⟨wr.heap.size + 1, 0, none⟩ (.int .i64 2)).setCell ⟨wr.heap.size + 1, 1, none⟩ (.int .i64 0)).setCell ⟨wr.heap.size + 1, 2, none⟩ (.float .f64 (Flo.cop .sub FA G))).setCell ⟨wr.heap.size + 1, 3, none⟩ (.string ⟨#[]⟩)).setCell ⟨wr.heap.size + 1, 4, none⟩ (.slice none 0 0)) from ⟨s5o TR5.out.1 (by omega), s5o TR5.out.2.1 (by omega), s5o TR5.out.2.2.1 (by omega), s5o TR5.out.2.2.2.1 (by omega), s5r TR5.out.2.2.2.2.1, s5b TR5.out.2.2.2.2.2 (by omega)⟩)
        clear TR5
        clear b30 b31 b32 b33 b34 b3f b3l
        go_wp2_with fail
        refine hK.out _ _ ?hsv182_ (fun hHeld => ?_)
        case hsv182_ => exact ⟨row_cell TR6.out.1 0, row_cell TR6.out.1 1, row_cell TR6.out.1 2, row_cell TR6.out.1 3, row_cell TR6.out.1 4, cell_keep TR6.out.2.2.2.2.2 Hd4.out, cell_keep TR6.out.2.2.2.2.2 Hd6.out⟩
        clear hK K
        (try simp only [Act.put, pk0, pk1, pk2])
        refine zr1 19 (by kernel_rfl) (by simp only [lk0, lk1, lk2]; rfl) (fun K hK => ?_)
        have b30 := row_cell TR6.out.2.2.2.1 0; have b31 := row_cell TR6.out.2.2.2.1 1; have b32 := row_cell TR6.out.2.2.2.1 2; have b33 := row_cell TR6.out.2.2.2.1 3; have b34 := row_cell TR6.out.2.2.2.1 4; have b3f := row_frz TR6.out.2.2.2.1; have b3l := row_lt TR6.out.2.2.2.1; go_simp
        have TR7 := Lib.hid (show (fun z0 : World => ZL z0 w.heap.size (some ⟨b, off, none⟩) l c ∧ Zz z0 (w.heap.size + 1) ∧ Zz z0 (w.heap.size + 1 + 1) ∧ ZF z0 wr.heap.size (Flo.cop .add FD G) ∧ ZF z0 (wr.heap.size + 1) (Flo.cop .sub FA G) ∧ Below w.heap.size w z0) ((((((((((w181.setCell ⟨wr.heap.size + 1, 0, none⟩ (.int .i64 2)).setCell ⟨wr.heap.size + 1, 1, none⟩ (.int .i64 0)).setCell ⟨wr.heap.size + 1, 2, none⟩ (.float .f64 (Flo.cop .sub FA G))).setCell ⟨wr.heap.size + 1, 3, none⟩ (.string ⟨#[]⟩)).setCell ⟨wr.heap.size + 1, 4, none⟩ (.slice none 0 0)).setCell ⟨wr.heap.size, 0, none⟩ (.int .i64 2)).setCell ⟨wr.heap.size, 1, none⟩ (.int .i64 0)).setCell ⟨wr.heap.size, 2, none⟩ (.float .f64 (Flo.cop .add FD G))).setCell ⟨wr.heap.size, 3, none⟩ (.string ⟨#[]⟩)).setCell ⟨wr.heap.size, 4, none⟩ (.slice none 0 0)) from ⟨s5o TR6.out.1 (by omega), s5o TR6.out.2.1 (by omega), s5o TR6.out.2.2.1 (by omega), s5r TR6.out.2.2.2.1, s5o TR6.out.2.2.2.2.1 (by omega), s5b TR6.out.2.2.2.2.2 (by omega)⟩)
        clear TR6
        clear b30 b31 b32 b33 b34 b3f b3l
        go_wp2_with fail
        refine hK.out _ _ ?hsv183_ (fun hHeld => ?_)
        case hsv183_ => exact ⟨row_cell TR7.out.1 0, row_cell TR7.out.1 1, row_cell TR7.out.1 2, row_cell TR7.out.1 3, row_cell TR7.out.1 4, cell_keep TR7.out.2.2.2.2.2 Hd4.out, cell_keep TR7.out.2.2.2.2.2 Hd6.out⟩
        clear hK K
        (try simp only [Act.put, pk0, pk1, pk2])
        refine wpAnyH_done (by kernel_rfl) ?_ _
        revert TR7
        generalize ((((((((((w181.setCell ⟨wr.heap.size + 1, 0, none⟩ (.int .i64 2)).setCell ⟨wr.heap.size + 1, 1, none⟩ (.int .i64 0)).setCell ⟨wr.heap.size + 1, 2, none⟩ (.float .f64 (Flo.cop .sub FA G))).setCell ⟨wr.heap.size + 1, 3, none⟩ (.string ⟨#[]⟩)).setCell ⟨wr.heap.size + 1, 4, none⟩ (.slice none 0 0)).setCell ⟨wr.heap.size, 0, none⟩ (.int .i64 2)).setCell ⟨wr.heap.size, 1, none⟩ (.int .i64 0)).setCell ⟨wr.heap.size, 2, none⟩ (.float .f64 (Flo.cop .add FD G))).setCell ⟨wr.heap.size, 3, none⟩ (.string ⟨#[]⟩)).setCell ⟨wr.heap.size, 4, none⟩ (.slice none 0 0)) = Wg184
        intro TR7
        exact hQ _ _ _ (by omega) (by omega) ⟨TR7.out.1, TR7.out.2.1, TR7.out.2.2.1, TR7.out.2.2.2.2.1, TR7.out.2.2.2.1, TR7.out.2.2.2.2.2⟩
end Num
end Go.Proofs.YtpbfaffheigjcaaGreat
