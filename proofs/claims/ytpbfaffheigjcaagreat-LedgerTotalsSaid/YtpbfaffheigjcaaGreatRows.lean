/-
  NARROWER THAN 'FOR EVERY INPUT', by the rows' own cells (each row's printed sentence says how): LedgerPlays: loops · LedgerRaw: loops · LedgerTotals: loops.
  DERIVED. THE GIVEN ROWS OF THIS SEAT. 5 by the template 'for every input the law returns true; each argument reads behind the call as it read before'; 0 by the template 'total and deterministic' (their statements: YtpbfaffheigjcaaGreatTotals.lean).
  GIVEN WITH THE SEED: the statements are not yours to turn. If you find one false, say at which input.
  Laid BY PROGRAM, IN A SANDBOX (cutbox-rows.mjs): the forced cells as the released guide's own fill.sh prints them over the translation dcf7b0ba5365a755… (all of the seat's roots in one cut). By AI agents, Wed Nov 11 2026. No macro, syntax, notation, axiom, sorry.
-/
import Derived.Test.YtpbfaffheigjcaaGreatChecked
import GoSem.Claim
import GoSem.ClaimJoined
import GoSem.ClaimMapViews
import Derived.JoinedTies
import Derived.KernelRfl
namespace Go.Proofs.YtpbfaffheigjcaaGreat
/- THE CELL 'sum', in the pinned program and in every row, IS THE sha256 OF THE DUMP (.gsa) THAT YtpbfaffheigjcaaGreatProg.lean LOADS. Nothing in Lean hashes anything: it is a label: what it is worth is what the hold of that sum in a sandbox is worth. -/
noncomputable def Tryz.pinned : Pinned := { name := "ytpbfaffheigjcaagreat", sum := "dcf7b0ba5365a755da76d86792df67a934cc9978587fcf7c84c4a159cc90135a", checked := Tryz.checked }
namespace Rows
def none {H : Type} : Left H := { results := [], args := [] }

/-- 'choirlaw12.LedgerPlays': WHATEVER THE INPUT: true; the input reads as it did. -/
def ledgerPlaysSpec : ChangeSpec := { name := "ledgerPlays", fn := fun _ => fun
  | [d] => { results := [.lit (.bool true)], args := [d] }
  | _ => none }
def ledgerPlaysRow : OpenClaim := { program := "ytpbfaffheigjcaagreat", sum := "dcf7b0ba5365a755da76d86792df67a934cc9978587fcf7c84c4a159cc90135a", func := "choir/choirlaw12.LedgerPlays", spec := "ledgerPlays", inPlace := ["math.Float64bits", "math.Float64frombits"], unfollowed := true, recurses := true, loops := true, plainKeys := false, apart := false }
def LedgerPlaysSaid : Prop := ledgerPlaysRow.holds Tryz.pinned (OpenSpec.ofChange ledgerPlaysSpec)

/-- ITS FALSE NEIGHBOUR: 'it returns false'. Refute it at one input. -/
def ledgerPlaysWrong : ChangeSpec := { name := "ledgerPlays", fn := fun _ => fun
  | [d] => { results := [.lit (.bool false)], args := [d] }
  | _ => none }
def LedgerPlaysWrongFalsely : Prop := ledgerPlaysRow.holds Tryz.pinned (OpenSpec.ofChange ledgerPlaysWrong)

/-- 'choirlaw12.LedgerRaw': WHATEVER THE INPUT: true; the input reads as it did. -/
def ledgerRawSpec : ChangeSpec := { name := "ledgerRaw", fn := fun _ => fun
  | [d1, d2, d3] => { results := [.lit (.bool true)], args := [d1, d2, d3] }
  | _ => none }
def ledgerRawRow : OpenClaim := { program := "ytpbfaffheigjcaagreat", sum := "dcf7b0ba5365a755da76d86792df67a934cc9978587fcf7c84c4a159cc90135a", func := "choir/choirlaw12.LedgerRaw", spec := "ledgerRaw", inPlace := ["math.Float64bits", "math.Float64frombits"], unfollowed := true, recurses := true, loops := true, plainKeys := false, apart := false }
def LedgerRawSaid : Prop := ledgerRawRow.holds Tryz.pinned (OpenSpec.ofChange ledgerRawSpec)

/-- ITS FALSE NEIGHBOUR: 'it returns false'. Refute it at one input. -/
def ledgerRawWrong : ChangeSpec := { name := "ledgerRaw", fn := fun _ => fun
  | [d1, d2, d3] => { results := [.lit (.bool false)], args := [d1, d2, d3] }
  | _ => none }
def LedgerRawWrongFalsely : Prop := ledgerRawRow.holds Tryz.pinned (OpenSpec.ofChange ledgerRawWrong)

/-- 'choirlaw12.LedgerAmounts': WHATEVER THE INPUT: true; the input reads as it did. -/
def ledgerAmountsSpec : ChangeSpec := { name := "ledgerAmounts", fn := fun _ => fun
  | [d1, d2, d3] => { results := [.lit (.bool true)], args := [d1, d2, d3] }
  | _ => none }
def ledgerAmountsRow : OpenClaim := { program := "ytpbfaffheigjcaagreat", sum := "dcf7b0ba5365a755da76d86792df67a934cc9978587fcf7c84c4a159cc90135a", func := "choir/choirlaw12.LedgerAmounts", spec := "ledgerAmounts", inPlace := ["math.Float64bits", "math.Float64frombits"], unfollowed := true, recurses := true, plainKeys := false, apart := false }
def LedgerAmountsSaid : Prop := ledgerAmountsRow.holds Tryz.pinned (OpenSpec.ofChange ledgerAmountsSpec)

/-- ITS FALSE NEIGHBOUR: 'it returns false'. Refute it at one input. -/
def ledgerAmountsWrong : ChangeSpec := { name := "ledgerAmounts", fn := fun _ => fun
  | [d1, d2, d3] => { results := [.lit (.bool false)], args := [d1, d2, d3] }
  | _ => none }
def LedgerAmountsWrongFalsely : Prop := ledgerAmountsRow.holds Tryz.pinned (OpenSpec.ofChange ledgerAmountsWrong)

/-- 'choirlaw12.LedgerMoves': WHATEVER THE INPUT: true; the input reads as it did. -/
def ledgerMovesSpec : ChangeSpec := { name := "ledgerMoves", fn := fun _ => fun
  | [d1, d2, d3, d4] => { results := [.lit (.bool true)], args := [d1, d2, d3, d4] }
  | _ => none }
def ledgerMovesRow : OpenClaim := { program := "ytpbfaffheigjcaagreat", sum := "dcf7b0ba5365a755da76d86792df67a934cc9978587fcf7c84c4a159cc90135a", func := "choir/choirlaw12.LedgerMoves", spec := "ledgerMoves", inPlace := ["math.Float64bits", "math.Float64frombits"], unfollowed := true, recurses := true, plainKeys := false, apart := false }
def LedgerMovesSaid : Prop := ledgerMovesRow.holds Tryz.pinned (OpenSpec.ofChange ledgerMovesSpec)

/-- ITS FALSE NEIGHBOUR: 'it returns false'. Refute it at one input. -/
def ledgerMovesWrong : ChangeSpec := { name := "ledgerMoves", fn := fun _ => fun
  | [d1, d2, d3, d4] => { results := [.lit (.bool false)], args := [d1, d2, d3, d4] }
  | _ => none }
def LedgerMovesWrongFalsely : Prop := ledgerMovesRow.holds Tryz.pinned (OpenSpec.ofChange ledgerMovesWrong)

/-- 'choirlaw12.LedgerTotals': WHATEVER THE INPUT: true; the input reads as it did. -/
def ledgerTotalsSpec : ChangeSpec := { name := "ledgerTotals", fn := fun _ => fun
  | [d] => { results := [.lit (.bool true)], args := [d] }
  | _ => none }
def ledgerTotalsRow : OpenClaim := { program := "ytpbfaffheigjcaagreat", sum := "dcf7b0ba5365a755da76d86792df67a934cc9978587fcf7c84c4a159cc90135a", func := "choir/choirlaw12.LedgerTotals", spec := "ledgerTotals", inPlace := ["math.Float64bits", "math.Float64frombits"], unfollowed := true, recurses := true, loops := true, plainKeys := false, apart := false }
def LedgerTotalsSaid : Prop := ledgerTotalsRow.holds Tryz.pinned (OpenSpec.ofChange ledgerTotalsSpec)

/-- ITS FALSE NEIGHBOUR: 'it returns false'. Refute it at one input. -/
def ledgerTotalsWrong : ChangeSpec := { name := "ledgerTotals", fn := fun _ => fun
  | [d] => { results := [.lit (.bool false)], args := [d] }
  | _ => none }
def LedgerTotalsWrongFalsely : Prop := ledgerTotalsRow.holds Tryz.pinned (OpenSpec.ofChange ledgerTotalsWrong)

/- THE SECOND FORM. 'bulk': how many values and letters a reading holds, each counted each time it is reached (what is shared counts as often as it is met; a slice's spare places count too). A statement '..UptoSaid' is the law's where the arguments, and the package variables that the reading takes, are together of bulk at most 1048576: NARROWER than '..Said'. Prove '..Said' where nothing that the law and all that it calls make is longer than what came in: it says more and counts as full. Else prove '..UptoSaid'. A law counts once. -/
mutual
def uptoBulk {H : Type} : DataW H → Nat
  | .lit (.string bytes) => bytes.length + 1
  | .lit _ => 1
  | .nil => 1
  | .ptr d => uptoBulk d + 1
  | .slice elems spare => uptoBulkAll elems + uptoBulkAll spare + 1
  | .agg parts => uptoBulkAll parts + 1
  | .iface _ d => uptoBulk d + 1
  | .map entries => uptoBulkEntries entries + 1
  | .held _ => 1
def uptoBulkAll {H : Type} : List (DataW H) → Nat
  | [] => 0
  | d :: r => uptoBulk d + uptoBulkAll r
def uptoBulkEntries {H : Type} : List (Lit × DataW H) → Nat
  | [] => 0
  | x :: r => uptoBulkEntry x + uptoBulkEntries r
def uptoBulkEntry {H : Type} : Lit × DataW H → Nat
  | (.string bytes, d) => bytes.length + uptoBulk d + 1
  | (_, d) => uptoBulk d + 1
 end
def uptoSmall : (H : Type) → List (DataW H) → Bool := fun _ ds => decide (uptoBulkAll ds ≤ 1048576)
def OpenSpec.upto (s : _root_.Go.ChangeSpec) : _root_.Go.OpenSpec := { _root_.Go.OpenSpec.ofChange s with cond := some uptoSmall }

/-- 'choirlaw12.LedgerPlays', WHERE WHAT IT READS IS OF BULK AT MOST 1048576: true; the input reads as it did. -/
def ledgerPlaysUptoRow : OpenClaim := { program := "ytpbfaffheigjcaagreat", sum := "dcf7b0ba5365a755da76d86792df67a934cc9978587fcf7c84c4a159cc90135a", func := "choir/choirlaw12.LedgerPlays", spec := "ledgerPlays", inPlace := ["math.Float64bits", "math.Float64frombits"], unfollowed := true, recurses := true, loops := true, plainKeys := false, apart := false, narrowed := true }
def LedgerPlaysUptoSaid : Prop := ledgerPlaysUptoRow.holds Tryz.pinned (OpenSpec.upto ledgerPlaysSpec)

/-- 'choirlaw12.LedgerRaw', WHERE WHAT IT READS IS OF BULK AT MOST 1048576: true; the input reads as it did. -/
def ledgerRawUptoRow : OpenClaim := { program := "ytpbfaffheigjcaagreat", sum := "dcf7b0ba5365a755da76d86792df67a934cc9978587fcf7c84c4a159cc90135a", func := "choir/choirlaw12.LedgerRaw", spec := "ledgerRaw", inPlace := ["math.Float64bits", "math.Float64frombits"], unfollowed := true, recurses := true, loops := true, plainKeys := false, apart := false, narrowed := true }
def LedgerRawUptoSaid : Prop := ledgerRawUptoRow.holds Tryz.pinned (OpenSpec.upto ledgerRawSpec)

/-- 'choirlaw12.LedgerAmounts', WHERE WHAT IT READS IS OF BULK AT MOST 1048576: true; the input reads as it did. -/
def ledgerAmountsUptoRow : OpenClaim := { program := "ytpbfaffheigjcaagreat", sum := "dcf7b0ba5365a755da76d86792df67a934cc9978587fcf7c84c4a159cc90135a", func := "choir/choirlaw12.LedgerAmounts", spec := "ledgerAmounts", inPlace := ["math.Float64bits", "math.Float64frombits"], unfollowed := true, recurses := true, plainKeys := false, apart := false, narrowed := true }
def LedgerAmountsUptoSaid : Prop := ledgerAmountsUptoRow.holds Tryz.pinned (OpenSpec.upto ledgerAmountsSpec)

/-- 'choirlaw12.LedgerMoves', WHERE WHAT IT READS IS OF BULK AT MOST 1048576: true; the input reads as it did. -/
def ledgerMovesUptoRow : OpenClaim := { program := "ytpbfaffheigjcaagreat", sum := "dcf7b0ba5365a755da76d86792df67a934cc9978587fcf7c84c4a159cc90135a", func := "choir/choirlaw12.LedgerMoves", spec := "ledgerMoves", inPlace := ["math.Float64bits", "math.Float64frombits"], unfollowed := true, recurses := true, plainKeys := false, apart := false, narrowed := true }
def LedgerMovesUptoSaid : Prop := ledgerMovesUptoRow.holds Tryz.pinned (OpenSpec.upto ledgerMovesSpec)

/-- 'choirlaw12.LedgerTotals', WHERE WHAT IT READS IS OF BULK AT MOST 1048576: true; the input reads as it did. -/
def ledgerTotalsUptoRow : OpenClaim := { program := "ytpbfaffheigjcaagreat", sum := "dcf7b0ba5365a755da76d86792df67a934cc9978587fcf7c84c4a159cc90135a", func := "choir/choirlaw12.LedgerTotals", spec := "ledgerTotals", inPlace := ["math.Float64bits", "math.Float64frombits"], unfollowed := true, recurses := true, loops := true, plainKeys := false, apart := false, narrowed := true }
def LedgerTotalsUptoSaid : Prop := ledgerTotalsUptoRow.holds Tryz.pinned (OpenSpec.upto ledgerTotalsSpec)

end Rows
end Go.Proofs.YtpbfaffheigjcaaGreat
