/-
  Package counter: run.
-/
import Derived.Test.YtmhogdigkdcnfaaCRb
namespace Go.Proofs.Ytmhogdigkdcnfaa
open Go.RowKit
namespace Num
open Ints
set_option linter.unusedSimpArgs false
set_option linter.unusedVariables false
set_option maxRecDepth 100000 in
set_option maxHeartbeats 4000000 in
theorem crun_count (I : Int) (F : Nat) (S : ByteArray) (b off d : Nat) (K2 I2 : Int) (F2 : Nat) (S2 : ByteArray) (q2 : Option Addr) (m2 d2 : Nat) (K3 I3 : Int) (F3 : Nat) (S3 : ByteArray) (q3 : Option Addr) (m3 d3 : Nat) (p : Option Addr) (l c : Nat) (w : World) (c0 : w.cell? ⟨b, off, none⟩ = some (.int .i64 K2)) (c1 : w.cell? ⟨b, off + 1, none⟩ = some (.int .i64 I2)) (c2 : w.cell? ⟨b, off + 2, none⟩ = some (.float .f64 F2)) (c3 : w.cell? ⟨b, off + 3, none⟩ = some (.string S2)) (c4 : w.cell? ⟨b, off + 4, none⟩ = some (.slice q2 m2 d2))
    (e0 : w.cell? ⟨b, off + 5, none⟩ = some (.int .i64 K3)) (e1 : w.cell? ⟨b, off + 5 + 1, none⟩ = some (.int .i64 I3)) (e2 : w.cell? ⟨b, off + 5 + 2, none⟩ = some (.float .f64 F3)) (e3 : w.cell? ⟨b, off + 5 + 3, none⟩ = some (.string S3)) (e4 : w.cell? ⟨b, off + 5 + 4, none⟩ = some (.slice q3 m3 d3)) :
    Calls Try.prog 23 #[.agg #[.int .i64 4, .int .i64 I, .float .f64 F, .string S, .slice (some ⟨b, off, none⟩) 2 d], .string { data := #[99, 111, 117, 110, 116] }, .slice p l c] w fun e w' => e = .returned (.tuple #[.agg #[.int .i64 4, .int .i64 I, .float .f64 F, .string S, .slice (some ⟨b, off, none⟩) 2 d], .agg #[.int .i64 K2, .int .i64 I2, .float .f64 F2, .string S2, .slice q2 m2 d2], .int .i64 0]) ∧ Below w.heap.size w w' := by
  have hlt : b < w.heap.size := cell_lt c0
  have hne : w.heap.size ≠ b := by omega
  have hne1 : w.heap.size + 1 ≠ b := by omega
  have hne2 : w.heap.size + 1 + 1 ≠ b := by omega
  have hb0 : b ≠ w.heap.size := by omega
  have hb1 : b ≠ w.heap.size + 1 := by omega
  have hb2 : b ≠ w.heap.size + 1 + 1 := by omega
  have hl1 : b < w.heap.size + 1 := by omega
  have hl2 : b < w.heap.size + 1 + 1 := by omega
  go_enter Try.func23, Try.ntmps23
  go_wp2
  go_region
  go_wp2
  exact bodyPost_ret (v := .tuple #[.agg #[.int .i64 4, .int .i64 I, .float .f64 F, .string S, .slice (some ⟨b, off, none⟩) 2 d], .agg #[.int .i64 K2, .int .i64 I2, .float .f64 F2, .string S2, .slice q2 m2 d2], .int .i64 0]) (by simp [results, Try.results23, go_sem, World.cell?_setCell_same, World.cell?_setCell_other]) rfl ⟨rfl, Below.drew (bel_alloc (bel_alloc (bel_alloc (Below.refl w.heap.size w) _) _) _)⟩
set_option maxRecDepth 100000 in
set_option maxHeartbeats 4000000 in
theorem crun_total (I : Int) (F : Nat) (S : ByteArray) (b off d : Nat) (K2 I2 : Int) (F2 : Nat) (S2 : ByteArray) (q2 : Option Addr) (m2 d2 : Nat) (K3 I3 : Int) (F3 : Nat) (S3 : ByteArray) (q3 : Option Addr) (m3 d3 : Nat) (p : Option Addr) (l c : Nat) (w : World) (c0 : w.cell? ⟨b, off, none⟩ = some (.int .i64 K2)) (c1 : w.cell? ⟨b, off + 1, none⟩ = some (.int .i64 I2)) (c2 : w.cell? ⟨b, off + 2, none⟩ = some (.float .f64 F2)) (c3 : w.cell? ⟨b, off + 3, none⟩ = some (.string S2)) (c4 : w.cell? ⟨b, off + 4, none⟩ = some (.slice q2 m2 d2))
    (e0 : w.cell? ⟨b, off + 5, none⟩ = some (.int .i64 K3)) (e1 : w.cell? ⟨b, off + 5 + 1, none⟩ = some (.int .i64 I3)) (e2 : w.cell? ⟨b, off + 5 + 2, none⟩ = some (.float .f64 F3)) (e3 : w.cell? ⟨b, off + 5 + 3, none⟩ = some (.string S3)) (e4 : w.cell? ⟨b, off + 5 + 4, none⟩ = some (.slice q3 m3 d3)) :
    Calls Try.prog 23 #[.agg #[.int .i64 4, .int .i64 I, .float .f64 F, .string S, .slice (some ⟨b, off, none⟩) 2 d], .string { data := #[116, 111, 116, 97, 108] }, .slice p l c] w fun e w' => e = .returned (.tuple #[.agg #[.int .i64 4, .int .i64 I, .float .f64 F, .string S, .slice (some ⟨b, off, none⟩) 2 d], .agg #[.int .i64 K3, .int .i64 I3, .float .f64 F3, .string S3, .slice q3 m3 d3], .int .i64 0]) ∧ Below w.heap.size w w' := by
  have hlt : b < w.heap.size := cell_lt c0
  have hne : w.heap.size ≠ b := by omega
  have hne1 : w.heap.size + 1 ≠ b := by omega
  have hne2 : w.heap.size + 1 + 1 ≠ b := by omega
  have hb0 : b ≠ w.heap.size := by omega
  have hb1 : b ≠ w.heap.size + 1 := by omega
  have hb2 : b ≠ w.heap.size + 1 + 1 := by omega
  have hl1 : b < w.heap.size + 1 := by omega
  have hl2 : b < w.heap.size + 1 + 1 := by omega
  go_enter Try.func23, Try.ntmps23
  go_wp2
  go_region
  go_wp2
  exact bodyPost_ret (v := .tuple #[.agg #[.int .i64 4, .int .i64 I, .float .f64 F, .string S, .slice (some ⟨b, off, none⟩) 2 d], .agg #[.int .i64 K3, .int .i64 I3, .float .f64 F3, .string S3, .slice q3 m3 d3], .int .i64 0]) (by simp [results, Try.results23, go_sem, World.cell?_setCell_same, World.cell?_setCell_other]) rfl ⟨rfl, Below.drew (bel_alloc (bel_alloc (bel_alloc (Below.refl w.heap.size w) _) _) _)⟩
end Num
end Go.Proofs.Ytmhogdigkdcnfaa
