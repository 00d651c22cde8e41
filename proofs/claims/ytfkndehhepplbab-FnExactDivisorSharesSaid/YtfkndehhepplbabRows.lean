/-
  No cell of these rows narrows 'for every input' (looked for: loops, veiled, ifaces, maps, wideKeys, modest, calm, conditions, laid).
  DERIVED. THE GIVEN ROWS OF THIS SEAT. 12 by the template 'for every input the law returns true; each argument reads behind the call as it read before'; 0 by the template 'total and deterministic' (their statements: YtfkndehhepplbabTotals.lean).
  GIVEN WITH THE SEED: the statements are not yours to turn. If you find one false, say at which input.
  Laid BY PROGRAM, IN A SANDBOX (cutbox-rows.mjs): the forced cells as the released guide's own fill.sh prints them over the translation a85fad2c7f2bfd5d… (all of the seat's roots in one cut). By AI agents, Wed Nov 11 2026. No macro, syntax, notation, axiom, sorry.
-/
import Derived.Test.YtfkndehhepplbabChecked
import GoSem.Claim
import GoSem.ClaimJoined
import GoSem.ClaimMapViews
import Derived.JoinedTies
import Derived.KernelRfl
namespace Go.Proofs.Ytfkndehhepplbab
/- THE CELL 'sum', in the pinned program and in every row, IS THE sha256 OF THE DUMP (.gsa) THAT YtfkndehhepplbabProg.lean LOADS. Nothing in Lean hashes anything: it is a label: what it is worth is what the hold of that sum in a sandbox is worth. -/
noncomputable def Try.pinned : Pinned := { name := "ytfkndehhepplbab", sum := "a85fad2c7f2bfd5d8239e803b486a8a322ec8eb80fea72194f97dde012b21990", checked := Try.checked }
namespace Rows
def none {H : Type} : Left H := { results := [], args := [] }

/-- 'laws.FnExactExemptDue': WHATEVER THE INPUT: true; the input reads as it did. -/
def fnExactExemptDueSpec : ChangeSpec := { name := "fnExactExemptDue", fn := fun _ => fun
  | [d1, d2, d3, d4] => { results := [.lit (.bool true)], args := [d1, d2, d3, d4] }
  | _ => none }
def fnExactExemptDueRow : OpenClaim := { program := "ytfkndehhepplbab", sum := "a85fad2c7f2bfd5d8239e803b486a8a322ec8eb80fea72194f97dde012b21990", func := "loop.example/g01393/laws.FnExactExemptDue", spec := "fnExactExemptDue", unfollowed := true, recurses := true, apart := false }
def FnExactExemptDueSaid : Prop := fnExactExemptDueRow.holds Try.pinned (OpenSpec.ofChange fnExactExemptDueSpec)

/-- ITS FALSE NEIGHBOUR: 'it returns false'. Refute it at one input. -/
def fnExactExemptDueWrong : ChangeSpec := { name := "fnExactExemptDue", fn := fun _ => fun
  | [d1, d2, d3, d4] => { results := [.lit (.bool false)], args := [d1, d2, d3, d4] }
  | _ => none }
def FnExactExemptDueWrongFalsely : Prop := fnExactExemptDueRow.holds Try.pinned (OpenSpec.ofChange fnExactExemptDueWrong)

/-- 'laws.FnExactLossRates': WHATEVER THE INPUT: true; the input reads as it did. -/
def fnExactLossRatesSpec : ChangeSpec := { name := "fnExactLossRates", fn := fun _ => fun
  | [d1, d2] => { results := [.lit (.bool true)], args := [d1, d2] }
  | _ => none }
def fnExactLossRatesRow : OpenClaim := { program := "ytfkndehhepplbab", sum := "a85fad2c7f2bfd5d8239e803b486a8a322ec8eb80fea72194f97dde012b21990", func := "loop.example/g01393/laws.FnExactLossRates", spec := "fnExactLossRates", unfollowed := true, recurses := true, apart := false }
def FnExactLossRatesSaid : Prop := fnExactLossRatesRow.holds Try.pinned (OpenSpec.ofChange fnExactLossRatesSpec)

/-- ITS FALSE NEIGHBOUR: 'it returns false'. Refute it at one input. -/
def fnExactLossRatesWrong : ChangeSpec := { name := "fnExactLossRates", fn := fun _ => fun
  | [d1, d2] => { results := [.lit (.bool false)], args := [d1, d2] }
  | _ => none }
def FnExactLossRatesWrongFalsely : Prop := fnExactLossRatesRow.holds Try.pinned (OpenSpec.ofChange fnExactLossRatesWrong)

/-- 'laws.FnExactNetCurve': WHATEVER THE INPUT: true; the input reads as it did. -/
def fnExactNetCurveSpec : ChangeSpec := { name := "fnExactNetCurve", fn := fun _ => fun
  | [d1, d2, d3, d4, d5, d6, d7] => { results := [.lit (.bool true)], args := [d1, d2, d3, d4, d5, d6, d7] }
  | _ => none }
def fnExactNetCurveRow : OpenClaim := { program := "ytfkndehhepplbab", sum := "a85fad2c7f2bfd5d8239e803b486a8a322ec8eb80fea72194f97dde012b21990", func := "loop.example/g01393/laws.FnExactNetCurve", spec := "fnExactNetCurve", unfollowed := true, recurses := true, apart := false }
def FnExactNetCurveSaid : Prop := fnExactNetCurveRow.holds Try.pinned (OpenSpec.ofChange fnExactNetCurveSpec)

/-- ITS FALSE NEIGHBOUR: 'it returns false'. Refute it at one input. -/
def fnExactNetCurveWrong : ChangeSpec := { name := "fnExactNetCurve", fn := fun _ => fun
  | [d1, d2, d3, d4, d5, d6, d7] => { results := [.lit (.bool false)], args := [d1, d2, d3, d4, d5, d6, d7] }
  | _ => none }
def FnExactNetCurveWrongFalsely : Prop := fnExactNetCurveRow.holds Try.pinned (OpenSpec.ofChange fnExactNetCurveWrong)

/-- 'laws.FnExactWorstTrap': WHATEVER THE INPUT: true; the input reads as it did. -/
def fnExactWorstTrapSpec : ChangeSpec := { name := "fnExactWorstTrap", fn := fun _ => fun
  | [d] => { results := [.lit (.bool true)], args := [d] }
  | _ => none }
def fnExactWorstTrapRow : OpenClaim := { program := "ytfkndehhepplbab", sum := "a85fad2c7f2bfd5d8239e803b486a8a322ec8eb80fea72194f97dde012b21990", func := "loop.example/g01393/laws.FnExactWorstTrap", spec := "fnExactWorstTrap", unfollowed := true, recurses := true, apart := false }
def FnExactWorstTrapSaid : Prop := fnExactWorstTrapRow.holds Try.pinned (OpenSpec.ofChange fnExactWorstTrapSpec)

/-- ITS FALSE NEIGHBOUR: 'it returns false'. Refute it at one input. -/
def fnExactWorstTrapWrong : ChangeSpec := { name := "fnExactWorstTrap", fn := fun _ => fun
  | [d] => { results := [.lit (.bool false)], args := [d] }
  | _ => none }
def FnExactWorstTrapWrongFalsely : Prop := fnExactWorstTrapRow.holds Try.pinned (OpenSpec.ofChange fnExactWorstTrapWrong)

/-- 'laws.FnExactCascadePrices': WHATEVER THE INPUT: true; the input reads as it did. -/
def fnExactCascadePricesSpec : ChangeSpec := { name := "fnExactCascadePrices", fn := fun _ => fun
  | [d1, d2, d3] => { results := [.lit (.bool true)], args := [d1, d2, d3] }
  | _ => none }
def fnExactCascadePricesRow : OpenClaim := { program := "ytfkndehhepplbab", sum := "a85fad2c7f2bfd5d8239e803b486a8a322ec8eb80fea72194f97dde012b21990", func := "loop.example/g01393/laws.FnExactCascadePrices", spec := "fnExactCascadePrices", unfollowed := true, recurses := true, apart := false }
def FnExactCascadePricesSaid : Prop := fnExactCascadePricesRow.holds Try.pinned (OpenSpec.ofChange fnExactCascadePricesSpec)

/-- ITS FALSE NEIGHBOUR: 'it returns false'. Refute it at one input. -/
def fnExactCascadePricesWrong : ChangeSpec := { name := "fnExactCascadePrices", fn := fun _ => fun
  | [d1, d2, d3] => { results := [.lit (.bool false)], args := [d1, d2, d3] }
  | _ => none }
def FnExactCascadePricesWrongFalsely : Prop := fnExactCascadePricesRow.holds Try.pinned (OpenSpec.ofChange fnExactCascadePricesWrong)

/-- 'laws.FnExactRateDues': WHATEVER THE INPUT: true; the input reads as it did. -/
def fnExactRateDuesSpec : ChangeSpec := { name := "fnExactRateDues", fn := fun _ => fun
  | [d1, d2, d3, d4] => { results := [.lit (.bool true)], args := [d1, d2, d3, d4] }
  | _ => none }
def fnExactRateDuesRow : OpenClaim := { program := "ytfkndehhepplbab", sum := "a85fad2c7f2bfd5d8239e803b486a8a322ec8eb80fea72194f97dde012b21990", func := "loop.example/g01393/laws.FnExactRateDues", spec := "fnExactRateDues", unfollowed := true, recurses := true, apart := false }
def FnExactRateDuesSaid : Prop := fnExactRateDuesRow.holds Try.pinned (OpenSpec.ofChange fnExactRateDuesSpec)

/-- ITS FALSE NEIGHBOUR: 'it returns false'. Refute it at one input. -/
def fnExactRateDuesWrong : ChangeSpec := { name := "fnExactRateDues", fn := fun _ => fun
  | [d1, d2, d3, d4] => { results := [.lit (.bool false)], args := [d1, d2, d3, d4] }
  | _ => none }
def FnExactRateDuesWrongFalsely : Prop := fnExactRateDuesRow.holds Try.pinned (OpenSpec.ofChange fnExactRateDuesWrong)

/-- 'laws.FnExactSpreadDues': WHATEVER THE INPUT: true; the input reads as it did. -/
def fnExactSpreadDuesSpec : ChangeSpec := { name := "fnExactSpreadDues", fn := fun _ => fun
  | [d1, d2, d3, d4] => { results := [.lit (.bool true)], args := [d1, d2, d3, d4] }
  | _ => none }
def fnExactSpreadDuesRow : OpenClaim := { program := "ytfkndehhepplbab", sum := "a85fad2c7f2bfd5d8239e803b486a8a322ec8eb80fea72194f97dde012b21990", func := "loop.example/g01393/laws.FnExactSpreadDues", spec := "fnExactSpreadDues", unfollowed := true, recurses := true, apart := false }
def FnExactSpreadDuesSaid : Prop := fnExactSpreadDuesRow.holds Try.pinned (OpenSpec.ofChange fnExactSpreadDuesSpec)

/-- ITS FALSE NEIGHBOUR: 'it returns false'. Refute it at one input. -/
def fnExactSpreadDuesWrong : ChangeSpec := { name := "fnExactSpreadDues", fn := fun _ => fun
  | [d1, d2, d3, d4] => { results := [.lit (.bool false)], args := [d1, d2, d3, d4] }
  | _ => none }
def FnExactSpreadDuesWrongFalsely : Prop := fnExactSpreadDuesRow.holds Try.pinned (OpenSpec.ofChange fnExactSpreadDuesWrong)

/-- 'laws.FnExactLargestRests': WHATEVER THE INPUT: true; the input reads as it did. -/
def fnExactLargestRestsSpec : ChangeSpec := { name := "fnExactLargestRests", fn := fun _ => fun
  | [d1, d2] => { results := [.lit (.bool true)], args := [d1, d2] }
  | _ => none }
def fnExactLargestRestsRow : OpenClaim := { program := "ytfkndehhepplbab", sum := "a85fad2c7f2bfd5d8239e803b486a8a322ec8eb80fea72194f97dde012b21990", func := "loop.example/g01393/laws.FnExactLargestRests", spec := "fnExactLargestRests", unfollowed := true, recurses := true, named := ["math/bits.divideError", "math/bits.overflowError"], apart := false }
def FnExactLargestRestsSaid : Prop := fnExactLargestRestsRow.holds Try.pinned (OpenSpec.ofChange fnExactLargestRestsSpec)

/-- ITS FALSE NEIGHBOUR: 'it returns false'. Refute it at one input. -/
def fnExactLargestRestsWrong : ChangeSpec := { name := "fnExactLargestRests", fn := fun _ => fun
  | [d1, d2] => { results := [.lit (.bool false)], args := [d1, d2] }
  | _ => none }
def FnExactLargestRestsWrongFalsely : Prop := fnExactLargestRestsRow.holds Try.pinned (OpenSpec.ofChange fnExactLargestRestsWrong)

/-- 'laws.FnExactDivisorShares': WHATEVER THE INPUT: true; the input reads as it did. -/
def fnExactDivisorSharesSpec : ChangeSpec := { name := "fnExactDivisorShares", fn := fun _ => fun
  | [d1, d2, d3] => { results := [.lit (.bool true)], args := [d1, d2, d3] }
  | _ => none }
def fnExactDivisorSharesRow : OpenClaim := { program := "ytfkndehhepplbab", sum := "a85fad2c7f2bfd5d8239e803b486a8a322ec8eb80fea72194f97dde012b21990", func := "loop.example/g01393/laws.FnExactDivisorShares", spec := "fnExactDivisorShares", unfollowed := true, recurses := true, apart := false }
def FnExactDivisorSharesSaid : Prop := fnExactDivisorSharesRow.holds Try.pinned (OpenSpec.ofChange fnExactDivisorSharesSpec)

/-- ITS FALSE NEIGHBOUR: 'it returns false'. Refute it at one input. -/
def fnExactDivisorSharesWrong : ChangeSpec := { name := "fnExactDivisorShares", fn := fun _ => fun
  | [d1, d2, d3] => { results := [.lit (.bool false)], args := [d1, d2, d3] }
  | _ => none }
def FnExactDivisorSharesWrongFalsely : Prop := fnExactDivisorSharesRow.holds Try.pinned (OpenSpec.ofChange fnExactDivisorSharesWrong)

/-- 'laws.FnExactFactorWeights': WHATEVER THE INPUT: true; the input reads as it did. -/
def fnExactFactorWeightsSpec : ChangeSpec := { name := "fnExactFactorWeights", fn := fun _ => fun
  | [d1, d2] => { results := [.lit (.bool true)], args := [d1, d2] }
  | _ => none }
def fnExactFactorWeightsRow : OpenClaim := { program := "ytfkndehhepplbab", sum := "a85fad2c7f2bfd5d8239e803b486a8a322ec8eb80fea72194f97dde012b21990", func := "loop.example/g01393/laws.FnExactFactorWeights", spec := "fnExactFactorWeights", unfollowed := true, recurses := true, apart := false }
def FnExactFactorWeightsSaid : Prop := fnExactFactorWeightsRow.holds Try.pinned (OpenSpec.ofChange fnExactFactorWeightsSpec)

/-- ITS FALSE NEIGHBOUR: 'it returns false'. Refute it at one input. -/
def fnExactFactorWeightsWrong : ChangeSpec := { name := "fnExactFactorWeights", fn := fun _ => fun
  | [d1, d2] => { results := [.lit (.bool false)], args := [d1, d2] }
  | _ => none }
def FnExactFactorWeightsWrongFalsely : Prop := fnExactFactorWeightsRow.holds Try.pinned (OpenSpec.ofChange fnExactFactorWeightsWrong)

/-- 'laws.FnTreaties': WHATEVER THE INPUT: true; the input reads as it did. -/
def fnTreatiesSpec : ChangeSpec := { name := "fnTreaties", fn := fun _ => fun
  | [d1, d2] => { results := [.lit (.bool true)], args := [d1, d2] }
  | _ => none }
def fnTreatiesRow : OpenClaim := { program := "ytfkndehhepplbab", sum := "a85fad2c7f2bfd5d8239e803b486a8a322ec8eb80fea72194f97dde012b21990", func := "loop.example/g01393/laws.FnTreaties", spec := "fnTreaties", unfollowed := true, recurses := true, apart := false }
def FnTreatiesSaid : Prop := fnTreatiesRow.holds Try.pinned (OpenSpec.ofChange fnTreatiesSpec)

/-- ITS FALSE NEIGHBOUR: 'it returns false'. Refute it at one input. -/
def fnTreatiesWrong : ChangeSpec := { name := "fnTreaties", fn := fun _ => fun
  | [d1, d2] => { results := [.lit (.bool false)], args := [d1, d2] }
  | _ => none }
def FnTreatiesWrongFalsely : Prop := fnTreatiesRow.holds Try.pinned (OpenSpec.ofChange fnTreatiesWrong)

/-- 'laws.FnCurves': WHATEVER THE INPUT: true; the input reads as it did. -/
def fnCurvesSpec : ChangeSpec := { name := "fnCurves", fn := fun _ => fun
  | [d1, d2] => { results := [.lit (.bool true)], args := [d1, d2] }
  | _ => none }
def fnCurvesRow : OpenClaim := { program := "ytfkndehhepplbab", sum := "a85fad2c7f2bfd5d8239e803b486a8a322ec8eb80fea72194f97dde012b21990", func := "loop.example/g01393/laws.FnCurves", spec := "fnCurves", unfollowed := true, recurses := true, apart := false }
def FnCurvesSaid : Prop := fnCurvesRow.holds Try.pinned (OpenSpec.ofChange fnCurvesSpec)

/-- ITS FALSE NEIGHBOUR: 'it returns false'. Refute it at one input. -/
def fnCurvesWrong : ChangeSpec := { name := "fnCurves", fn := fun _ => fun
  | [d1, d2] => { results := [.lit (.bool false)], args := [d1, d2] }
  | _ => none }
def FnCurvesWrongFalsely : Prop := fnCurvesRow.holds Try.pinned (OpenSpec.ofChange fnCurvesWrong)

/- THE SECOND FORM. 'bulk': how many values and letters a reading holds, each counted each time it is reached (what is shared counts as often as it is met; a slice's spare places count too). A statement '..UptoSaid' is the law's where the arguments, and the package variables that the reading takes, are together of bulk at most 1048576: NARROWER than '..Said'. Prove '..Said' where nothing that the law and all that it calls make is longer than what came in: it says more and counts as full. Else prove '..UptoSaid'. A law counts once. -/
mutual
def uptoBulk {H : Type} : DataW H → Nat
  | .lit (.string bytes) => bytes.length + 1
  | .lit _ => 1
  | .nil => 1
  | .ptr d => uptoBulk d + 1
  | .slice elems spare => uptoBulkAll elems + uptoBulkAll spare + 1
  | .agg parts => uptoBulkAll parts + 1
  | .iface _ d => uptoBulk d + 1
  | .map entries => uptoBulkEntries entries + 1
  | .held _ => 1
def uptoBulkAll {H : Type} : List (DataW H) → Nat
  | [] => 0
  | d :: r => uptoBulk d + uptoBulkAll r
def uptoBulkEntries {H : Type} : List (Lit × DataW H) → Nat
  | [] => 0
  | x :: r => uptoBulkEntry x + uptoBulkEntries r
def uptoBulkEntry {H : Type} : Lit × DataW H → Nat
  | (.string bytes, d) => bytes.length + uptoBulk d + 1
  | (_, d) => uptoBulk d + 1
 end
def uptoSmall : (H : Type) → List (DataW H) → Bool := fun _ ds => decide (uptoBulkAll ds ≤ 1048576)
def OpenSpec.upto (s : _root_.Go.ChangeSpec) : _root_.Go.OpenSpec := { _root_.Go.OpenSpec.ofChange s with cond := some uptoSmall }

/-- 'laws.FnExactExemptDue', WHERE WHAT IT READS IS OF BULK AT MOST 1048576: true; the input reads as it did. -/
def fnExactExemptDueUptoRow : OpenClaim := { program := "ytfkndehhepplbab", sum := "a85fad2c7f2bfd5d8239e803b486a8a322ec8eb80fea72194f97dde012b21990", func := "loop.example/g01393/laws.FnExactExemptDue", spec := "fnExactExemptDue", unfollowed := true, recurses := true, apart := false, narrowed := true }
def FnExactExemptDueUptoSaid : Prop := fnExactExemptDueUptoRow.holds Try.pinned (OpenSpec.upto fnExactExemptDueSpec)

/-- 'laws.FnExactLossRates', WHERE WHAT IT READS IS OF BULK AT MOST 1048576: true; the input reads as it did. -/
def fnExactLossRatesUptoRow : OpenClaim := { program := "ytfkndehhepplbab", sum := "a85fad2c7f2bfd5d8239e803b486a8a322ec8eb80fea72194f97dde012b21990", func := "loop.example/g01393/laws.FnExactLossRates", spec := "fnExactLossRates", unfollowed := true, recurses := true, apart := false, narrowed := true }
def FnExactLossRatesUptoSaid : Prop := fnExactLossRatesUptoRow.holds Try.pinned (OpenSpec.upto fnExactLossRatesSpec)

/-- 'laws.FnExactNetCurve', WHERE WHAT IT READS IS OF BULK AT MOST 1048576: true; the input reads as it did. -/
def fnExactNetCurveUptoRow : OpenClaim := { program := "ytfkndehhepplbab", sum := "a85fad2c7f2bfd5d8239e803b486a8a322ec8eb80fea72194f97dde012b21990", func := "loop.example/g01393/laws.FnExactNetCurve", spec := "fnExactNetCurve", unfollowed := true, recurses := true, apart := false, narrowed := true }
def FnExactNetCurveUptoSaid : Prop := fnExactNetCurveUptoRow.holds Try.pinned (OpenSpec.upto fnExactNetCurveSpec)

/-- 'laws.FnExactWorstTrap', WHERE WHAT IT READS IS OF BULK AT MOST 1048576: true; the input reads as it did. -/
def fnExactWorstTrapUptoRow : OpenClaim := { program := "ytfkndehhepplbab", sum := "a85fad2c7f2bfd5d8239e803b486a8a322ec8eb80fea72194f97dde012b21990", func := "loop.example/g01393/laws.FnExactWorstTrap", spec := "fnExactWorstTrap", unfollowed := true, recurses := true, apart := false, narrowed := true }
def FnExactWorstTrapUptoSaid : Prop := fnExactWorstTrapUptoRow.holds Try.pinned (OpenSpec.upto fnExactWorstTrapSpec)

/-- 'laws.FnExactCascadePrices', WHERE WHAT IT READS IS OF BULK AT MOST 1048576: true; the input reads as it did. -/
def fnExactCascadePricesUptoRow : OpenClaim := { program := "ytfkndehhepplbab", sum := "a85fad2c7f2bfd5d8239e803b486a8a322ec8eb80fea72194f97dde012b21990", func := "loop.example/g01393/laws.FnExactCascadePrices", spec := "fnExactCascadePrices", unfollowed := true, recurses := true, apart := false, narrowed := true }
def FnExactCascadePricesUptoSaid : Prop := fnExactCascadePricesUptoRow.holds Try.pinned (OpenSpec.upto fnExactCascadePricesSpec)

/-- 'laws.FnExactRateDues', WHERE WHAT IT READS IS OF BULK AT MOST 1048576: true; the input reads as it did. -/
def fnExactRateDuesUptoRow : OpenClaim := { program := "ytfkndehhepplbab", sum := "a85fad2c7f2bfd5d8239e803b486a8a322ec8eb80fea72194f97dde012b21990", func := "loop.example/g01393/laws.FnExactRateDues", spec := "fnExactRateDues", unfollowed := true, recurses := true, apart := false, narrowed := true }
def FnExactRateDuesUptoSaid : Prop := fnExactRateDuesUptoRow.holds Try.pinned (OpenSpec.upto fnExactRateDuesSpec)

/-- 'laws.FnExactSpreadDues', WHERE WHAT IT READS IS OF BULK AT MOST 1048576: true; the input reads as it did. -/
def fnExactSpreadDuesUptoRow : OpenClaim := { program := "ytfkndehhepplbab", sum := "a85fad2c7f2bfd5d8239e803b486a8a322ec8eb80fea72194f97dde012b21990", func := "loop.example/g01393/laws.FnExactSpreadDues", spec := "fnExactSpreadDues", unfollowed := true, recurses := true, apart := false, narrowed := true }
def FnExactSpreadDuesUptoSaid : Prop := fnExactSpreadDuesUptoRow.holds Try.pinned (OpenSpec.upto fnExactSpreadDuesSpec)

/-- 'laws.FnExactLargestRests', WHERE WHAT IT READS IS OF BULK AT MOST 1048576: true; the input reads as it did. -/
def fnExactLargestRestsUptoRow : OpenClaim := { program := "ytfkndehhepplbab", sum := "a85fad2c7f2bfd5d8239e803b486a8a322ec8eb80fea72194f97dde012b21990", func := "loop.example/g01393/laws.FnExactLargestRests", spec := "fnExactLargestRests", unfollowed := true, recurses := true, named := ["math/bits.divideError", "math/bits.overflowError"], apart := false, narrowed := true }
def FnExactLargestRestsUptoSaid : Prop := fnExactLargestRestsUptoRow.holds Try.pinned (OpenSpec.upto fnExactLargestRestsSpec)

/-- 'laws.FnExactDivisorShares', WHERE WHAT IT READS IS OF BULK AT MOST 1048576: true; the input reads as it did. -/
def fnExactDivisorSharesUptoRow : OpenClaim := { program := "ytfkndehhepplbab", sum := "a85fad2c7f2bfd5d8239e803b486a8a322ec8eb80fea72194f97dde012b21990", func := "loop.example/g01393/laws.FnExactDivisorShares", spec := "fnExactDivisorShares", unfollowed := true, recurses := true, apart := false, narrowed := true }
def FnExactDivisorSharesUptoSaid : Prop := fnExactDivisorSharesUptoRow.holds Try.pinned (OpenSpec.upto fnExactDivisorSharesSpec)

/-- 'laws.FnExactFactorWeights', WHERE WHAT IT READS IS OF BULK AT MOST 1048576: true; the input reads as it did. -/
def fnExactFactorWeightsUptoRow : OpenClaim := { program := "ytfkndehhepplbab", sum := "a85fad2c7f2bfd5d8239e803b486a8a322ec8eb80fea72194f97dde012b21990", func := "loop.example/g01393/laws.FnExactFactorWeights", spec := "fnExactFactorWeights", unfollowed := true, recurses := true, apart := false, narrowed := true }
def FnExactFactorWeightsUptoSaid : Prop := fnExactFactorWeightsUptoRow.holds Try.pinned (OpenSpec.upto fnExactFactorWeightsSpec)

/-- 'laws.FnTreaties', WHERE WHAT IT READS IS OF BULK AT MOST 1048576: true; the input reads as it did. -/
def fnTreatiesUptoRow : OpenClaim := { program := "ytfkndehhepplbab", sum := "a85fad2c7f2bfd5d8239e803b486a8a322ec8eb80fea72194f97dde012b21990", func := "loop.example/g01393/laws.FnTreaties", spec := "fnTreaties", unfollowed := true, recurses := true, apart := false, narrowed := true }
def FnTreatiesUptoSaid : Prop := fnTreatiesUptoRow.holds Try.pinned (OpenSpec.upto fnTreatiesSpec)

/-- 'laws.FnCurves', WHERE WHAT IT READS IS OF BULK AT MOST 1048576: true; the input reads as it did. -/
def fnCurvesUptoRow : OpenClaim := { program := "ytfkndehhepplbab", sum := "a85fad2c7f2bfd5d8239e803b486a8a322ec8eb80fea72194f97dde012b21990", func := "loop.example/g01393/laws.FnCurves", spec := "fnCurves", unfollowed := true, recurses := true, apart := false, narrowed := true }
def FnCurvesUptoSaid : Prop := fnCurvesUptoRow.holds Try.pinned (OpenSpec.upto fnCurvesSpec)

end Rows
end Go.Proofs.Ytfkndehhepplbab
