/-
  No cell of these rows narrows 'for every input' (looked for: loops, veiled, ifaces, maps, wideKeys, modest, calm, conditions, laid).
  DERIVED. THE GIVEN ROWS OF THIS SEAT. 12 by the template 'for every input the law returns true; each argument reads behind the call as it read before'; 0 by the template 'total and deterministic' (their statements: YtdiilihodhmbgaaTotals.lean).
  GIVEN WITH THE SEED: the statements are not yours to turn. If you find one false, say at which input.
  Laid BY PROGRAM, IN A SANDBOX (cutbox-rows.mjs): the forced cells as the released guide's own fill.sh prints them over the translation 02d4885c3f33e41a… (all of the seat's roots in one cut). By AI agents, Wed Nov 11 2026. No macro, syntax, notation, axiom, sorry.
-/
import Derived.Test.YtdiilihodhmbgaaChecked
import GoSem.Claim
import GoSem.ClaimJoined
import GoSem.ClaimMapViews
import Derived.JoinedTies
import Derived.KernelRfl
namespace Go.Proofs.Ytdiilihodhmbgaa
/- THE CELL 'sum', in the pinned program and in every row, IS THE sha256 OF THE DUMP (.gsa) THAT YtdiilihodhmbgaaProg.lean LOADS. Nothing in Lean hashes anything: it is a label: what it is worth is what the hold of that sum in a sandbox is worth. -/
noncomputable def Try.pinned : Pinned := { name := "ytdiilihodhmbgaa", sum := "02d4885c3f33e41a3ec1df77acae673b32aea1117d2d11a8cdaa49d7c5f07bc3", checked := Try.checked }
namespace Rows
def none {H : Type} : Left H := { results := [], args := [] }

/-- 'laws.FnExactTrimScale': WHATEVER THE INPUT: true; the input reads as it did. -/
def fnExactTrimScaleSpec : ChangeSpec := { name := "fnExactTrimScale", fn := fun _ => fun
  | [d] => { results := [.lit (.bool true)], args := [d] }
  | _ => none }
def fnExactTrimScaleRow : OpenClaim := { program := "ytdiilihodhmbgaa", sum := "02d4885c3f33e41a3ec1df77acae673b32aea1117d2d11a8cdaa49d7c5f07bc3", func := "loop.example/g01393/laws.FnExactTrimScale", spec := "fnExactTrimScale", unfollowed := true, recurses := true, apart := false }
def FnExactTrimScaleSaid : Prop := fnExactTrimScaleRow.holds Try.pinned (OpenSpec.ofChange fnExactTrimScaleSpec)

/-- ITS FALSE NEIGHBOUR: 'it returns false'. Refute it at one input. -/
def fnExactTrimScaleWrong : ChangeSpec := { name := "fnExactTrimScale", fn := fun _ => fun
  | [d] => { results := [.lit (.bool false)], args := [d] }
  | _ => none }
def FnExactTrimScaleWrongFalsely : Prop := fnExactTrimScaleRow.holds Try.pinned (OpenSpec.ofChange fnExactTrimScaleWrong)

/-- 'laws.FnExactJoinScales': WHATEVER THE INPUT: true; the input reads as it did. -/
def fnExactJoinScalesSpec : ChangeSpec := { name := "fnExactJoinScales", fn := fun _ => fun
  | [d1, d2] => { results := [.lit (.bool true)], args := [d1, d2] }
  | _ => none }
def fnExactJoinScalesRow : OpenClaim := { program := "ytdiilihodhmbgaa", sum := "02d4885c3f33e41a3ec1df77acae673b32aea1117d2d11a8cdaa49d7c5f07bc3", func := "loop.example/g01393/laws.FnExactJoinScales", spec := "fnExactJoinScales", unfollowed := true, recurses := true, apart := false }
def FnExactJoinScalesSaid : Prop := fnExactJoinScalesRow.holds Try.pinned (OpenSpec.ofChange fnExactJoinScalesSpec)

/-- ITS FALSE NEIGHBOUR: 'it returns false'. Refute it at one input. -/
def fnExactJoinScalesWrong : ChangeSpec := { name := "fnExactJoinScales", fn := fun _ => fun
  | [d1, d2] => { results := [.lit (.bool false)], args := [d1, d2] }
  | _ => none }
def FnExactJoinScalesWrongFalsely : Prop := fnExactJoinScalesRow.holds Try.pinned (OpenSpec.ofChange fnExactJoinScalesWrong)

/-- 'laws.FnExactUndoEntry': WHATEVER THE INPUT: true; the input reads as it did. -/
def fnExactUndoEntrySpec : ChangeSpec := { name := "fnExactUndoEntry", fn := fun _ => fun
  | [d1, d2, d3] => { results := [.lit (.bool true)], args := [d1, d2, d3] }
  | _ => none }
def fnExactUndoEntryRow : OpenClaim := { program := "ytdiilihodhmbgaa", sum := "02d4885c3f33e41a3ec1df77acae673b32aea1117d2d11a8cdaa49d7c5f07bc3", func := "loop.example/g01393/laws.FnExactUndoEntry", spec := "fnExactUndoEntry", apart := false }
def FnExactUndoEntrySaid : Prop := fnExactUndoEntryRow.holds Try.pinned (OpenSpec.ofChange fnExactUndoEntrySpec)

/-- ITS FALSE NEIGHBOUR: 'it returns false'. Refute it at one input. -/
def fnExactUndoEntryWrong : ChangeSpec := { name := "fnExactUndoEntry", fn := fun _ => fun
  | [d1, d2, d3] => { results := [.lit (.bool false)], args := [d1, d2, d3] }
  | _ => none }
def FnExactUndoEntryWrongFalsely : Prop := fnExactUndoEntryRow.holds Try.pinned (OpenSpec.ofChange fnExactUndoEntryWrong)

/-- 'laws.FnExactRateDues': WHATEVER THE INPUT: true; the input reads as it did. -/
def fnExactRateDuesSpec : ChangeSpec := { name := "fnExactRateDues", fn := fun _ => fun
  | [d1, d2, d3, d4] => { results := [.lit (.bool true)], args := [d1, d2, d3, d4] }
  | _ => none }
def fnExactRateDuesRow : OpenClaim := { program := "ytdiilihodhmbgaa", sum := "02d4885c3f33e41a3ec1df77acae673b32aea1117d2d11a8cdaa49d7c5f07bc3", func := "loop.example/g01393/laws.FnExactRateDues", spec := "fnExactRateDues", unfollowed := true, recurses := true, apart := false }
def FnExactRateDuesSaid : Prop := fnExactRateDuesRow.holds Try.pinned (OpenSpec.ofChange fnExactRateDuesSpec)

/-- ITS FALSE NEIGHBOUR: 'it returns false'. Refute it at one input. -/
def fnExactRateDuesWrong : ChangeSpec := { name := "fnExactRateDues", fn := fun _ => fun
  | [d1, d2, d3, d4] => { results := [.lit (.bool false)], args := [d1, d2, d3, d4] }
  | _ => none }
def FnExactRateDuesWrongFalsely : Prop := fnExactRateDuesRow.holds Try.pinned (OpenSpec.ofChange fnExactRateDuesWrong)

/-- 'laws.FnExactSpreadDues': WHATEVER THE INPUT: true; the input reads as it did. -/
def fnExactSpreadDuesSpec : ChangeSpec := { name := "fnExactSpreadDues", fn := fun _ => fun
  | [d1, d2, d3, d4] => { results := [.lit (.bool true)], args := [d1, d2, d3, d4] }
  | _ => none }
def fnExactSpreadDuesRow : OpenClaim := { program := "ytdiilihodhmbgaa", sum := "02d4885c3f33e41a3ec1df77acae673b32aea1117d2d11a8cdaa49d7c5f07bc3", func := "loop.example/g01393/laws.FnExactSpreadDues", spec := "fnExactSpreadDues", unfollowed := true, recurses := true, apart := false }
def FnExactSpreadDuesSaid : Prop := fnExactSpreadDuesRow.holds Try.pinned (OpenSpec.ofChange fnExactSpreadDuesSpec)

/-- ITS FALSE NEIGHBOUR: 'it returns false'. Refute it at one input. -/
def fnExactSpreadDuesWrong : ChangeSpec := { name := "fnExactSpreadDues", fn := fun _ => fun
  | [d1, d2, d3, d4] => { results := [.lit (.bool false)], args := [d1, d2, d3, d4] }
  | _ => none }
def FnExactSpreadDuesWrongFalsely : Prop := fnExactSpreadDuesRow.holds Try.pinned (OpenSpec.ofChange fnExactSpreadDuesWrong)

/-- 'laws.FnExactSameScale': WHATEVER THE INPUT: true; the input reads as it did. -/
def fnExactSameScaleSpec : ChangeSpec := { name := "fnExactSameScale", fn := fun _ => fun
  | [d1, d2] => { results := [.lit (.bool true)], args := [d1, d2] }
  | _ => none }
def fnExactSameScaleRow : OpenClaim := { program := "ytdiilihodhmbgaa", sum := "02d4885c3f33e41a3ec1df77acae673b32aea1117d2d11a8cdaa49d7c5f07bc3", func := "loop.example/g01393/laws.FnExactSameScale", spec := "fnExactSameScale", apart := false }
def FnExactSameScaleSaid : Prop := fnExactSameScaleRow.holds Try.pinned (OpenSpec.ofChange fnExactSameScaleSpec)

/-- ITS FALSE NEIGHBOUR: 'it returns false'. Refute it at one input. -/
def fnExactSameScaleWrong : ChangeSpec := { name := "fnExactSameScale", fn := fun _ => fun
  | [d1, d2] => { results := [.lit (.bool false)], args := [d1, d2] }
  | _ => none }
def FnExactSameScaleWrongFalsely : Prop := fnExactSameScaleRow.holds Try.pinned (OpenSpec.ofChange fnExactSameScaleWrong)

/-- 'laws.FnExactScaleOf': WHATEVER THE INPUT: true; the input reads as it did. -/
def fnExactScaleOfSpec : ChangeSpec := { name := "fnExactScaleOf", fn := fun _ => fun
  | [d1, d2, d3] => { results := [.lit (.bool true)], args := [d1, d2, d3] }
  | _ => none }
def fnExactScaleOfRow : OpenClaim := { program := "ytdiilihodhmbgaa", sum := "02d4885c3f33e41a3ec1df77acae673b32aea1117d2d11a8cdaa49d7c5f07bc3", func := "loop.example/g01393/laws.FnExactScaleOf", spec := "fnExactScaleOf", unfollowed := true, recurses := true, apart := false }
def FnExactScaleOfSaid : Prop := fnExactScaleOfRow.holds Try.pinned (OpenSpec.ofChange fnExactScaleOfSpec)

/-- ITS FALSE NEIGHBOUR: 'it returns false'. Refute it at one input. -/
def fnExactScaleOfWrong : ChangeSpec := { name := "fnExactScaleOf", fn := fun _ => fun
  | [d1, d2, d3] => { results := [.lit (.bool false)], args := [d1, d2, d3] }
  | _ => none }
def FnExactScaleOfWrongFalsely : Prop := fnExactScaleOfRow.holds Try.pinned (OpenSpec.ofChange fnExactScaleOfWrong)

/-- 'laws.FnExactPayDebts': WHATEVER THE INPUT: true; the input reads as it did. -/
def fnExactPayDebtsSpec : ChangeSpec := { name := "fnExactPayDebts", fn := fun _ => fun
  | [d1, d2, d3] => { results := [.lit (.bool true)], args := [d1, d2, d3] }
  | _ => none }
def fnExactPayDebtsRow : OpenClaim := { program := "ytdiilihodhmbgaa", sum := "02d4885c3f33e41a3ec1df77acae673b32aea1117d2d11a8cdaa49d7c5f07bc3", func := "loop.example/g01393/laws.FnExactPayDebts", spec := "fnExactPayDebts", unfollowed := true, recurses := true, named := ["math/bits.divideError", "math/bits.overflowError"], apart := false }
def FnExactPayDebtsSaid : Prop := fnExactPayDebtsRow.holds Try.pinned (OpenSpec.ofChange fnExactPayDebtsSpec)

/-- ITS FALSE NEIGHBOUR: 'it returns false'. Refute it at one input. -/
def fnExactPayDebtsWrong : ChangeSpec := { name := "fnExactPayDebts", fn := fun _ => fun
  | [d1, d2, d3] => { results := [.lit (.bool false)], args := [d1, d2, d3] }
  | _ => none }
def FnExactPayDebtsWrongFalsely : Prop := fnExactPayDebtsRow.holds Try.pinned (OpenSpec.ofChange fnExactPayDebtsWrong)

/-- 'laws.FnExactFactorWeights': WHATEVER THE INPUT: true; the input reads as it did. -/
def fnExactFactorWeightsSpec : ChangeSpec := { name := "fnExactFactorWeights", fn := fun _ => fun
  | [d1, d2] => { results := [.lit (.bool true)], args := [d1, d2] }
  | _ => none }
def fnExactFactorWeightsRow : OpenClaim := { program := "ytdiilihodhmbgaa", sum := "02d4885c3f33e41a3ec1df77acae673b32aea1117d2d11a8cdaa49d7c5f07bc3", func := "loop.example/g01393/laws.FnExactFactorWeights", spec := "fnExactFactorWeights", unfollowed := true, recurses := true, apart := false }
def FnExactFactorWeightsSaid : Prop := fnExactFactorWeightsRow.holds Try.pinned (OpenSpec.ofChange fnExactFactorWeightsSpec)

/-- ITS FALSE NEIGHBOUR: 'it returns false'. Refute it at one input. -/
def fnExactFactorWeightsWrong : ChangeSpec := { name := "fnExactFactorWeights", fn := fun _ => fun
  | [d1, d2] => { results := [.lit (.bool false)], args := [d1, d2] }
  | _ => none }
def FnExactFactorWeightsWrongFalsely : Prop := fnExactFactorWeightsRow.holds Try.pinned (OpenSpec.ofChange fnExactFactorWeightsWrong)

/-- 'laws.FnTreaties': WHATEVER THE INPUT: true; the input reads as it did. -/
def fnTreatiesSpec : ChangeSpec := { name := "fnTreaties", fn := fun _ => fun
  | [d1, d2] => { results := [.lit (.bool true)], args := [d1, d2] }
  | _ => none }
def fnTreatiesRow : OpenClaim := { program := "ytdiilihodhmbgaa", sum := "02d4885c3f33e41a3ec1df77acae673b32aea1117d2d11a8cdaa49d7c5f07bc3", func := "loop.example/g01393/laws.FnTreaties", spec := "fnTreaties", unfollowed := true, recurses := true, apart := false }
def FnTreatiesSaid : Prop := fnTreatiesRow.holds Try.pinned (OpenSpec.ofChange fnTreatiesSpec)

/-- ITS FALSE NEIGHBOUR: 'it returns false'. Refute it at one input. -/
def fnTreatiesWrong : ChangeSpec := { name := "fnTreaties", fn := fun _ => fun
  | [d1, d2] => { results := [.lit (.bool false)], args := [d1, d2] }
  | _ => none }
def FnTreatiesWrongFalsely : Prop := fnTreatiesRow.holds Try.pinned (OpenSpec.ofChange fnTreatiesWrong)

/-- 'laws.FnCurves': WHATEVER THE INPUT: true; the input reads as it did. -/
def fnCurvesSpec : ChangeSpec := { name := "fnCurves", fn := fun _ => fun
  | [d1, d2] => { results := [.lit (.bool true)], args := [d1, d2] }
  | _ => none }
def fnCurvesRow : OpenClaim := { program := "ytdiilihodhmbgaa", sum := "02d4885c3f33e41a3ec1df77acae673b32aea1117d2d11a8cdaa49d7c5f07bc3", func := "loop.example/g01393/laws.FnCurves", spec := "fnCurves", unfollowed := true, recurses := true, apart := false }
def FnCurvesSaid : Prop := fnCurvesRow.holds Try.pinned (OpenSpec.ofChange fnCurvesSpec)

/-- ITS FALSE NEIGHBOUR: 'it returns false'. Refute it at one input. -/
def fnCurvesWrong : ChangeSpec := { name := "fnCurves", fn := fun _ => fun
  | [d1, d2] => { results := [.lit (.bool false)], args := [d1, d2] }
  | _ => none }
def FnCurvesWrongFalsely : Prop := fnCurvesRow.holds Try.pinned (OpenSpec.ofChange fnCurvesWrong)

/-- 'laws.FnInterest': WHATEVER THE INPUT: true; the input reads as it did. -/
def fnInterestSpec : ChangeSpec := { name := "fnInterest", fn := fun _ => fun
  | [d1, d2] => { results := [.lit (.bool true)], args := [d1, d2] }
  | _ => none }
def fnInterestRow : OpenClaim := { program := "ytdiilihodhmbgaa", sum := "02d4885c3f33e41a3ec1df77acae673b32aea1117d2d11a8cdaa49d7c5f07bc3", func := "loop.example/g01393/laws.FnInterest", spec := "fnInterest", unfollowed := true, recurses := true, apart := false }
def FnInterestSaid : Prop := fnInterestRow.holds Try.pinned (OpenSpec.ofChange fnInterestSpec)

/-- ITS FALSE NEIGHBOUR: 'it returns false'. Refute it at one input. -/
def fnInterestWrong : ChangeSpec := { name := "fnInterest", fn := fun _ => fun
  | [d1, d2] => { results := [.lit (.bool false)], args := [d1, d2] }
  | _ => none }
def FnInterestWrongFalsely : Prop := fnInterestRow.holds Try.pinned (OpenSpec.ofChange fnInterestWrong)

/- THE SECOND FORM. 'bulk': how many values and letters a reading holds, each counted each time it is reached (what is shared counts as often as it is met; a slice's spare places count too). A statement '..UptoSaid' is the law's where the arguments, and the package variables that the reading takes, are together of bulk at most 1048576: NARROWER than '..Said'. Prove '..Said' where nothing that the law and all that it calls make is longer than what came in: it says more and counts as full. Else prove '..UptoSaid'. A law counts once. -/
mutual
def uptoBulk {H : Type} : DataW H → Nat
  | .lit (.string bytes) => bytes.length + 1
  | .lit _ => 1
  | .nil => 1
  | .ptr d => uptoBulk d + 1
  | .slice elems spare => uptoBulkAll elems + uptoBulkAll spare + 1
  | .agg parts => uptoBulkAll parts + 1
  | .iface _ d => uptoBulk d + 1
  | .map entries => uptoBulkEntries entries + 1
  | .held _ => 1
def uptoBulkAll {H : Type} : List (DataW H) → Nat
  | [] => 0
  | d :: r => uptoBulk d + uptoBulkAll r
def uptoBulkEntries {H : Type} : List (Lit × DataW H) → Nat
  | [] => 0
  | x :: r => uptoBulkEntry x + uptoBulkEntries r
def uptoBulkEntry {H : Type} : Lit × DataW H → Nat
  | (.string bytes, d) => bytes.length + uptoBulk d + 1
  | (_, d) => uptoBulk d + 1
 end
def uptoSmall : (H : Type) → List (DataW H) → Bool := fun _ ds => decide (uptoBulkAll ds ≤ 1048576)
def OpenSpec.upto (s : _root_.Go.ChangeSpec) : _root_.Go.OpenSpec := { _root_.Go.OpenSpec.ofChange s with cond := some uptoSmall }

/-- 'laws.FnExactTrimScale', WHERE WHAT IT READS IS OF BULK AT MOST 1048576: true; the input reads as it did. -/
def fnExactTrimScaleUptoRow : OpenClaim := { program := "ytdiilihodhmbgaa", sum := "02d4885c3f33e41a3ec1df77acae673b32aea1117d2d11a8cdaa49d7c5f07bc3", func := "loop.example/g01393/laws.FnExactTrimScale", spec := "fnExactTrimScale", unfollowed := true, recurses := true, apart := false, narrowed := true }
def FnExactTrimScaleUptoSaid : Prop := fnExactTrimScaleUptoRow.holds Try.pinned (OpenSpec.upto fnExactTrimScaleSpec)

/-- 'laws.FnExactJoinScales', WHERE WHAT IT READS IS OF BULK AT MOST 1048576: true; the input reads as it did. -/
def fnExactJoinScalesUptoRow : OpenClaim := { program := "ytdiilihodhmbgaa", sum := "02d4885c3f33e41a3ec1df77acae673b32aea1117d2d11a8cdaa49d7c5f07bc3", func := "loop.example/g01393/laws.FnExactJoinScales", spec := "fnExactJoinScales", unfollowed := true, recurses := true, apart := false, narrowed := true }
def FnExactJoinScalesUptoSaid : Prop := fnExactJoinScalesUptoRow.holds Try.pinned (OpenSpec.upto fnExactJoinScalesSpec)

/-- 'laws.FnExactUndoEntry', WHERE WHAT IT READS IS OF BULK AT MOST 1048576: true; the input reads as it did. -/
def fnExactUndoEntryUptoRow : OpenClaim := { program := "ytdiilihodhmbgaa", sum := "02d4885c3f33e41a3ec1df77acae673b32aea1117d2d11a8cdaa49d7c5f07bc3", func := "loop.example/g01393/laws.FnExactUndoEntry", spec := "fnExactUndoEntry", apart := false, narrowed := true }
def FnExactUndoEntryUptoSaid : Prop := fnExactUndoEntryUptoRow.holds Try.pinned (OpenSpec.upto fnExactUndoEntrySpec)

/-- 'laws.FnExactRateDues', WHERE WHAT IT READS IS OF BULK AT MOST 1048576: true; the input reads as it did. -/
def fnExactRateDuesUptoRow : OpenClaim := { program := "ytdiilihodhmbgaa", sum := "02d4885c3f33e41a3ec1df77acae673b32aea1117d2d11a8cdaa49d7c5f07bc3", func := "loop.example/g01393/laws.FnExactRateDues", spec := "fnExactRateDues", unfollowed := true, recurses := true, apart := false, narrowed := true }
def FnExactRateDuesUptoSaid : Prop := fnExactRateDuesUptoRow.holds Try.pinned (OpenSpec.upto fnExactRateDuesSpec)

/-- 'laws.FnExactSpreadDues', WHERE WHAT IT READS IS OF BULK AT MOST 1048576: true; the input reads as it did. -/
def fnExactSpreadDuesUptoRow : OpenClaim := { program := "ytdiilihodhmbgaa", sum := "02d4885c3f33e41a3ec1df77acae673b32aea1117d2d11a8cdaa49d7c5f07bc3", func := "loop.example/g01393/laws.FnExactSpreadDues", spec := "fnExactSpreadDues", unfollowed := true, recurses := true, apart := false, narrowed := true }
def FnExactSpreadDuesUptoSaid : Prop := fnExactSpreadDuesUptoRow.holds Try.pinned (OpenSpec.upto fnExactSpreadDuesSpec)

/-- 'laws.FnExactSameScale', WHERE WHAT IT READS IS OF BULK AT MOST 1048576: true; the input reads as it did. -/
def fnExactSameScaleUptoRow : OpenClaim := { program := "ytdiilihodhmbgaa", sum := "02d4885c3f33e41a3ec1df77acae673b32aea1117d2d11a8cdaa49d7c5f07bc3", func := "loop.example/g01393/laws.FnExactSameScale", spec := "fnExactSameScale", apart := false, narrowed := true }
def FnExactSameScaleUptoSaid : Prop := fnExactSameScaleUptoRow.holds Try.pinned (OpenSpec.upto fnExactSameScaleSpec)

/-- 'laws.FnExactScaleOf', WHERE WHAT IT READS IS OF BULK AT MOST 1048576: true; the input reads as it did. -/
def fnExactScaleOfUptoRow : OpenClaim := { program := "ytdiilihodhmbgaa", sum := "02d4885c3f33e41a3ec1df77acae673b32aea1117d2d11a8cdaa49d7c5f07bc3", func := "loop.example/g01393/laws.FnExactScaleOf", spec := "fnExactScaleOf", unfollowed := true, recurses := true, apart := false, narrowed := true }
def FnExactScaleOfUptoSaid : Prop := fnExactScaleOfUptoRow.holds Try.pinned (OpenSpec.upto fnExactScaleOfSpec)

/-- 'laws.FnExactPayDebts', WHERE WHAT IT READS IS OF BULK AT MOST 1048576: true; the input reads as it did. -/
def fnExactPayDebtsUptoRow : OpenClaim := { program := "ytdiilihodhmbgaa", sum := "02d4885c3f33e41a3ec1df77acae673b32aea1117d2d11a8cdaa49d7c5f07bc3", func := "loop.example/g01393/laws.FnExactPayDebts", spec := "fnExactPayDebts", unfollowed := true, recurses := true, named := ["math/bits.divideError", "math/bits.overflowError"], apart := false, narrowed := true }
def FnExactPayDebtsUptoSaid : Prop := fnExactPayDebtsUptoRow.holds Try.pinned (OpenSpec.upto fnExactPayDebtsSpec)

/-- 'laws.FnExactFactorWeights', WHERE WHAT IT READS IS OF BULK AT MOST 1048576: true; the input reads as it did. -/
def fnExactFactorWeightsUptoRow : OpenClaim := { program := "ytdiilihodhmbgaa", sum := "02d4885c3f33e41a3ec1df77acae673b32aea1117d2d11a8cdaa49d7c5f07bc3", func := "loop.example/g01393/laws.FnExactFactorWeights", spec := "fnExactFactorWeights", unfollowed := true, recurses := true, apart := false, narrowed := true }
def FnExactFactorWeightsUptoSaid : Prop := fnExactFactorWeightsUptoRow.holds Try.pinned (OpenSpec.upto fnExactFactorWeightsSpec)

/-- 'laws.FnTreaties', WHERE WHAT IT READS IS OF BULK AT MOST 1048576: true; the input reads as it did. -/
def fnTreatiesUptoRow : OpenClaim := { program := "ytdiilihodhmbgaa", sum := "02d4885c3f33e41a3ec1df77acae673b32aea1117d2d11a8cdaa49d7c5f07bc3", func := "loop.example/g01393/laws.FnTreaties", spec := "fnTreaties", unfollowed := true, recurses := true, apart := false, narrowed := true }
def FnTreatiesUptoSaid : Prop := fnTreatiesUptoRow.holds Try.pinned (OpenSpec.upto fnTreatiesSpec)

/-- 'laws.FnCurves', WHERE WHAT IT READS IS OF BULK AT MOST 1048576: true; the input reads as it did. -/
def fnCurvesUptoRow : OpenClaim := { program := "ytdiilihodhmbgaa", sum := "02d4885c3f33e41a3ec1df77acae673b32aea1117d2d11a8cdaa49d7c5f07bc3", func := "loop.example/g01393/laws.FnCurves", spec := "fnCurves", unfollowed := true, recurses := true, apart := false, narrowed := true }
def FnCurvesUptoSaid : Prop := fnCurvesUptoRow.holds Try.pinned (OpenSpec.upto fnCurvesSpec)

/-- 'laws.FnInterest', WHERE WHAT IT READS IS OF BULK AT MOST 1048576: true; the input reads as it did. -/
def fnInterestUptoRow : OpenClaim := { program := "ytdiilihodhmbgaa", sum := "02d4885c3f33e41a3ec1df77acae673b32aea1117d2d11a8cdaa49d7c5f07bc3", func := "loop.example/g01393/laws.FnInterest", spec := "fnInterest", unfollowed := true, recurses := true, apart := false, narrowed := true }
def FnInterestUptoSaid : Prop := fnInterestUptoRow.holds Try.pinned (OpenSpec.upto fnInterestSpec)

end Rows
end Go.Proofs.Ytdiilihodhmbgaa
