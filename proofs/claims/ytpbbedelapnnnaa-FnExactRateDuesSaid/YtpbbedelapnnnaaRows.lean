/-
  No cell of these rows narrows 'for every input' (looked for: loops, veiled, ifaces, maps, wideKeys, modest, calm, conditions, laid).
  DERIVED. THE GIVEN ROWS OF THIS SEAT. 12 by the template 'for every input the law returns true; each argument reads behind the call as it read before'; 0 by the template 'total and deterministic' (their statements: YtpbbedelapnnnaaTotals.lean).
  GIVEN WITH THE SEED: the statements are not yours to turn. If you find one false, say at which input.
  Laid BY PROGRAM, IN A SANDBOX (cutbox-rows.mjs): the forced cells as the released guide's own fill.sh prints them over the translation 39b50ccfee3997e2… (all of the seat's roots in one cut). By AI agents, Wed Nov 11 2026. No macro, syntax, notation, axiom, sorry.
-/
import Derived.Test.YtpbbedelapnnnaaChecked
import GoSem.Claim
import GoSem.ClaimJoined
import GoSem.ClaimMapViews
import Derived.JoinedTies
import Derived.KernelRfl
namespace Go.Proofs.Ytpbbedelapnnnaa
/- THE CELL 'sum', in the pinned program and in every row, IS THE sha256 OF THE DUMP (.gsa) THAT YtpbbedelapnnnaaProg.lean LOADS. Nothing in Lean hashes anything: it is a label: what it is worth is what the hold of that sum in a sandbox is worth. -/
noncomputable def Try.pinned : Pinned := { name := "ytpbbedelapnnnaa", sum := "39b50ccfee3997e2ce133529cd8e77cd337b11af8499dce9352ce6d1d1c145ac", checked := Try.checked }
namespace Rows
def none {H : Type} : Left H := { results := [], args := [] }

/-- 'laws.FnExactGrowthOf': WHATEVER THE INPUT: true; the input reads as it did. -/
def fnExactGrowthOfSpec : ChangeSpec := { name := "fnExactGrowthOf", fn := fun _ => fun
  | [d1, d2] => { results := [.lit (.bool true)], args := [d1, d2] }
  | _ => none }
def fnExactGrowthOfRow : OpenClaim := { program := "ytpbbedelapnnnaa", sum := "39b50ccfee3997e2ce133529cd8e77cd337b11af8499dce9352ce6d1d1c145ac", func := "loop.example/g01393/laws.FnExactGrowthOf", spec := "fnExactGrowthOf", inPlace := ["math.Float64bits", "math.Float64frombits"], unfollowed := true, recurses := true, apart := false }
def FnExactGrowthOfSaid : Prop := fnExactGrowthOfRow.holds Try.pinned (OpenSpec.ofChange fnExactGrowthOfSpec)

/-- ITS FALSE NEIGHBOUR: 'it returns false'. Refute it at one input. -/
def fnExactGrowthOfWrong : ChangeSpec := { name := "fnExactGrowthOf", fn := fun _ => fun
  | [d1, d2] => { results := [.lit (.bool false)], args := [d1, d2] }
  | _ => none }
def FnExactGrowthOfWrongFalsely : Prop := fnExactGrowthOfRow.holds Try.pinned (OpenSpec.ofChange fnExactGrowthOfWrong)

/-- 'laws.FnExactJointValue': WHATEVER THE INPUT: true; the input reads as it did. -/
def fnExactJointValueSpec : ChangeSpec := { name := "fnExactJointValue", fn := fun _ => fun
  | [d1, d2, d3, d4] => { results := [.lit (.bool true)], args := [d1, d2, d3, d4] }
  | _ => none }
def fnExactJointValueRow : OpenClaim := { program := "ytpbbedelapnnnaa", sum := "39b50ccfee3997e2ce133529cd8e77cd337b11af8499dce9352ce6d1d1c145ac", func := "loop.example/g01393/laws.FnExactJointValue", spec := "fnExactJointValue", unfollowed := true, recurses := true, apart := false }
def FnExactJointValueSaid : Prop := fnExactJointValueRow.holds Try.pinned (OpenSpec.ofChange fnExactJointValueSpec)

/-- ITS FALSE NEIGHBOUR: 'it returns false'. Refute it at one input. -/
def fnExactJointValueWrong : ChangeSpec := { name := "fnExactJointValue", fn := fun _ => fun
  | [d1, d2, d3, d4] => { results := [.lit (.bool false)], args := [d1, d2, d3, d4] }
  | _ => none }
def FnExactJointValueWrongFalsely : Prop := fnExactJointValueRow.holds Try.pinned (OpenSpec.ofChange fnExactJointValueWrong)

/-- 'laws.FnExactJoinScales': WHATEVER THE INPUT: true; the input reads as it did. -/
def fnExactJoinScalesSpec : ChangeSpec := { name := "fnExactJoinScales", fn := fun _ => fun
  | [d1, d2] => { results := [.lit (.bool true)], args := [d1, d2] }
  | _ => none }
def fnExactJoinScalesRow : OpenClaim := { program := "ytpbbedelapnnnaa", sum := "39b50ccfee3997e2ce133529cd8e77cd337b11af8499dce9352ce6d1d1c145ac", func := "loop.example/g01393/laws.FnExactJoinScales", spec := "fnExactJoinScales", unfollowed := true, recurses := true, apart := false }
def FnExactJoinScalesSaid : Prop := fnExactJoinScalesRow.holds Try.pinned (OpenSpec.ofChange fnExactJoinScalesSpec)

/-- ITS FALSE NEIGHBOUR: 'it returns false'. Refute it at one input. -/
def fnExactJoinScalesWrong : ChangeSpec := { name := "fnExactJoinScales", fn := fun _ => fun
  | [d1, d2] => { results := [.lit (.bool false)], args := [d1, d2] }
  | _ => none }
def FnExactJoinScalesWrongFalsely : Prop := fnExactJoinScalesRow.holds Try.pinned (OpenSpec.ofChange fnExactJoinScalesWrong)

/-- 'laws.FnExactUndoEntry': WHATEVER THE INPUT: true; the input reads as it did. -/
def fnExactUndoEntrySpec : ChangeSpec := { name := "fnExactUndoEntry", fn := fun _ => fun
  | [d1, d2, d3] => { results := [.lit (.bool true)], args := [d1, d2, d3] }
  | _ => none }
def fnExactUndoEntryRow : OpenClaim := { program := "ytpbbedelapnnnaa", sum := "39b50ccfee3997e2ce133529cd8e77cd337b11af8499dce9352ce6d1d1c145ac", func := "loop.example/g01393/laws.FnExactUndoEntry", spec := "fnExactUndoEntry", apart := false }
def FnExactUndoEntrySaid : Prop := fnExactUndoEntryRow.holds Try.pinned (OpenSpec.ofChange fnExactUndoEntrySpec)

/-- ITS FALSE NEIGHBOUR: 'it returns false'. Refute it at one input. -/
def fnExactUndoEntryWrong : ChangeSpec := { name := "fnExactUndoEntry", fn := fun _ => fun
  | [d1, d2, d3] => { results := [.lit (.bool false)], args := [d1, d2, d3] }
  | _ => none }
def FnExactUndoEntryWrongFalsely : Prop := fnExactUndoEntryRow.holds Try.pinned (OpenSpec.ofChange fnExactUndoEntryWrong)

/-- 'laws.FnParts': WHATEVER THE INPUT: true; the input reads as it did. -/
def fnPartsSpec : ChangeSpec := { name := "fnParts", fn := fun _ => fun
  | [d1, d2] => { results := [.lit (.bool true)], args := [d1, d2] }
  | _ => none }
def fnPartsRow : OpenClaim := { program := "ytpbbedelapnnnaa", sum := "39b50ccfee3997e2ce133529cd8e77cd337b11af8499dce9352ce6d1d1c145ac", func := "loop.example/g01393/laws.FnParts", spec := "fnParts", unfollowed := true, recurses := true, named := ["math/bits.divideError", "math/bits.overflowError"], apart := false }
def FnPartsSaid : Prop := fnPartsRow.holds Try.pinned (OpenSpec.ofChange fnPartsSpec)

/-- ITS FALSE NEIGHBOUR: 'it returns false'. Refute it at one input. -/
def fnPartsWrong : ChangeSpec := { name := "fnParts", fn := fun _ => fun
  | [d1, d2] => { results := [.lit (.bool false)], args := [d1, d2] }
  | _ => none }
def FnPartsWrongFalsely : Prop := fnPartsRow.holds Try.pinned (OpenSpec.ofChange fnPartsWrong)

/-- 'laws.FnExactRateDues': WHATEVER THE INPUT: true; the input reads as it did. -/
def fnExactRateDuesSpec : ChangeSpec := { name := "fnExactRateDues", fn := fun _ => fun
  | [d1, d2, d3, d4] => { results := [.lit (.bool true)], args := [d1, d2, d3, d4] }
  | _ => none }
def fnExactRateDuesRow : OpenClaim := { program := "ytpbbedelapnnnaa", sum := "39b50ccfee3997e2ce133529cd8e77cd337b11af8499dce9352ce6d1d1c145ac", func := "loop.example/g01393/laws.FnExactRateDues", spec := "fnExactRateDues", unfollowed := true, recurses := true, apart := false }
def FnExactRateDuesSaid : Prop := fnExactRateDuesRow.holds Try.pinned (OpenSpec.ofChange fnExactRateDuesSpec)

/-- ITS FALSE NEIGHBOUR: 'it returns false'. Refute it at one input. -/
def fnExactRateDuesWrong : ChangeSpec := { name := "fnExactRateDues", fn := fun _ => fun
  | [d1, d2, d3, d4] => { results := [.lit (.bool false)], args := [d1, d2, d3, d4] }
  | _ => none }
def FnExactRateDuesWrongFalsely : Prop := fnExactRateDuesRow.holds Try.pinned (OpenSpec.ofChange fnExactRateDuesWrong)

/-- 'laws.FnExactRakeWeights': WHATEVER THE INPUT: true; the input reads as it did. -/
def fnExactRakeWeightsSpec : ChangeSpec := { name := "fnExactRakeWeights", fn := fun _ => fun
  | [d1, d2, d3, d4, d5, d6] => { results := [.lit (.bool true)], args := [d1, d2, d3, d4, d5, d6] }
  | _ => none }
def fnExactRakeWeightsRow : OpenClaim := { program := "ytpbbedelapnnnaa", sum := "39b50ccfee3997e2ce133529cd8e77cd337b11af8499dce9352ce6d1d1c145ac", func := "loop.example/g01393/laws.FnExactRakeWeights", spec := "fnExactRakeWeights", inPlace := ["math.Float64bits", "math.Float64frombits"], unfollowed := true, recurses := true, apart := false }
def FnExactRakeWeightsSaid : Prop := fnExactRakeWeightsRow.holds Try.pinned (OpenSpec.ofChange fnExactRakeWeightsSpec)

/-- ITS FALSE NEIGHBOUR: 'it returns false'. Refute it at one input. -/
def fnExactRakeWeightsWrong : ChangeSpec := { name := "fnExactRakeWeights", fn := fun _ => fun
  | [d1, d2, d3, d4, d5, d6] => { results := [.lit (.bool false)], args := [d1, d2, d3, d4, d5, d6] }
  | _ => none }
def FnExactRakeWeightsWrongFalsely : Prop := fnExactRakeWeightsRow.holds Try.pinned (OpenSpec.ofChange fnExactRakeWeightsWrong)

/-- 'laws.FnExactClashesOf': WHATEVER THE INPUT: true; the input reads as it did. -/
def fnExactClashesOfSpec : ChangeSpec := { name := "fnExactClashesOf", fn := fun _ => fun
  | [d1, d2] => { results := [.lit (.bool true)], args := [d1, d2] }
  | _ => none }
def fnExactClashesOfRow : OpenClaim := { program := "ytpbbedelapnnnaa", sum := "39b50ccfee3997e2ce133529cd8e77cd337b11af8499dce9352ce6d1d1c145ac", func := "loop.example/g01393/laws.FnExactClashesOf", spec := "fnExactClashesOf", unfollowed := true, recurses := true, apart := false }
def FnExactClashesOfSaid : Prop := fnExactClashesOfRow.holds Try.pinned (OpenSpec.ofChange fnExactClashesOfSpec)

/-- ITS FALSE NEIGHBOUR: 'it returns false'. Refute it at one input. -/
def fnExactClashesOfWrong : ChangeSpec := { name := "fnExactClashesOf", fn := fun _ => fun
  | [d1, d2] => { results := [.lit (.bool false)], args := [d1, d2] }
  | _ => none }
def FnExactClashesOfWrongFalsely : Prop := fnExactClashesOfRow.holds Try.pinned (OpenSpec.ofChange fnExactClashesOfWrong)

/-- 'laws.FnExactChangeDays': WHATEVER THE INPUT: true; the input reads as it did. -/
def fnExactChangeDaysSpec : ChangeSpec := { name := "fnExactChangeDays", fn := fun _ => fun
  | [d] => { results := [.lit (.bool true)], args := [d] }
  | _ => none }
def fnExactChangeDaysRow : OpenClaim := { program := "ytpbbedelapnnnaa", sum := "39b50ccfee3997e2ce133529cd8e77cd337b11af8499dce9352ce6d1d1c145ac", func := "loop.example/g01393/laws.FnExactChangeDays", spec := "fnExactChangeDays", unfollowed := true, recurses := true, apart := false }
def FnExactChangeDaysSaid : Prop := fnExactChangeDaysRow.holds Try.pinned (OpenSpec.ofChange fnExactChangeDaysSpec)

/-- ITS FALSE NEIGHBOUR: 'it returns false'. Refute it at one input. -/
def fnExactChangeDaysWrong : ChangeSpec := { name := "fnExactChangeDays", fn := fun _ => fun
  | [d] => { results := [.lit (.bool false)], args := [d] }
  | _ => none }
def FnExactChangeDaysWrongFalsely : Prop := fnExactChangeDaysRow.holds Try.pinned (OpenSpec.ofChange fnExactChangeDaysWrong)

/-- 'laws.FnExactValidSaved': WHATEVER THE INPUT: true; the input reads as it did. -/
def fnExactValidSavedSpec : ChangeSpec := { name := "fnExactValidSaved", fn := fun _ => fun
  | [d] => { results := [.lit (.bool true)], args := [d] }
  | _ => none }
def fnExactValidSavedRow : OpenClaim := { program := "ytpbbedelapnnnaa", sum := "39b50ccfee3997e2ce133529cd8e77cd337b11af8499dce9352ce6d1d1c145ac", func := "loop.example/g01393/laws.FnExactValidSaved", spec := "fnExactValidSaved", unfollowed := true, recurses := true, apart := false }
def FnExactValidSavedSaid : Prop := fnExactValidSavedRow.holds Try.pinned (OpenSpec.ofChange fnExactValidSavedSpec)

/-- ITS FALSE NEIGHBOUR: 'it returns false'. Refute it at one input. -/
def fnExactValidSavedWrong : ChangeSpec := { name := "fnExactValidSaved", fn := fun _ => fun
  | [d] => { results := [.lit (.bool false)], args := [d] }
  | _ => none }
def FnExactValidSavedWrongFalsely : Prop := fnExactValidSavedRow.holds Try.pinned (OpenSpec.ofChange fnExactValidSavedWrong)

/-- 'laws.FnExactSameSaved': WHATEVER THE INPUT: true; the input reads as it did. -/
def fnExactSameSavedSpec : ChangeSpec := { name := "fnExactSameSaved", fn := fun _ => fun
  | [d1, d2] => { results := [.lit (.bool true)], args := [d1, d2] }
  | _ => none }
def fnExactSameSavedRow : OpenClaim := { program := "ytpbbedelapnnnaa", sum := "39b50ccfee3997e2ce133529cd8e77cd337b11af8499dce9352ce6d1d1c145ac", func := "loop.example/g01393/laws.FnExactSameSaved", spec := "fnExactSameSaved", unfollowed := true, recurses := true, apart := false }
def FnExactSameSavedSaid : Prop := fnExactSameSavedRow.holds Try.pinned (OpenSpec.ofChange fnExactSameSavedSpec)

/-- ITS FALSE NEIGHBOUR: 'it returns false'. Refute it at one input. -/
def fnExactSameSavedWrong : ChangeSpec := { name := "fnExactSameSaved", fn := fun _ => fun
  | [d1, d2] => { results := [.lit (.bool false)], args := [d1, d2] }
  | _ => none }
def FnExactSameSavedWrongFalsely : Prop := fnExactSameSavedRow.holds Try.pinned (OpenSpec.ofChange fnExactSameSavedWrong)

/-- 'laws.FnExactRepealRule': WHATEVER THE INPUT: true; the input reads as it did. -/
def fnExactRepealRuleSpec : ChangeSpec := { name := "fnExactRepealRule", fn := fun _ => fun
  | [d1, d2, d3] => { results := [.lit (.bool true)], args := [d1, d2, d3] }
  | _ => none }
def fnExactRepealRuleRow : OpenClaim := { program := "ytpbbedelapnnnaa", sum := "39b50ccfee3997e2ce133529cd8e77cd337b11af8499dce9352ce6d1d1c145ac", func := "loop.example/g01393/laws.FnExactRepealRule", spec := "fnExactRepealRule", unfollowed := true, recurses := true, apart := false }
def FnExactRepealRuleSaid : Prop := fnExactRepealRuleRow.holds Try.pinned (OpenSpec.ofChange fnExactRepealRuleSpec)

/-- ITS FALSE NEIGHBOUR: 'it returns false'. Refute it at one input. -/
def fnExactRepealRuleWrong : ChangeSpec := { name := "fnExactRepealRule", fn := fun _ => fun
  | [d1, d2, d3] => { results := [.lit (.bool false)], args := [d1, d2, d3] }
  | _ => none }
def FnExactRepealRuleWrongFalsely : Prop := fnExactRepealRuleRow.holds Try.pinned (OpenSpec.ofChange fnExactRepealRuleWrong)

/- THE SECOND FORM. 'bulk': how many values and letters a reading holds, each counted each time it is reached (what is shared counts as often as it is met; a slice's spare places count too). A statement '..UptoSaid' is the law's where the arguments, and the package variables that the reading takes, are together of bulk at most 1048576: NARROWER than '..Said'. Prove '..Said' where nothing that the law and all that it calls make is longer than what came in: it says more and counts as full. Else prove '..UptoSaid'. A law counts once. -/
mutual
def uptoBulk {H : Type} : DataW H → Nat
  | .lit (.string bytes) => bytes.length + 1
  | .lit _ => 1
  | .nil => 1
  | .ptr d => uptoBulk d + 1
  | .slice elems spare => uptoBulkAll elems + uptoBulkAll spare + 1
  | .agg parts => uptoBulkAll parts + 1
  | .iface _ d => uptoBulk d + 1
  | .map entries => uptoBulkEntries entries + 1
  | .held _ => 1
def uptoBulkAll {H : Type} : List (DataW H) → Nat
  | [] => 0
  | d :: r => uptoBulk d + uptoBulkAll r
def uptoBulkEntries {H : Type} : List (Lit × DataW H) → Nat
  | [] => 0
  | x :: r => uptoBulkEntry x + uptoBulkEntries r
def uptoBulkEntry {H : Type} : Lit × DataW H → Nat
  | (.string bytes, d) => bytes.length + uptoBulk d + 1
  | (_, d) => uptoBulk d + 1
 end
def uptoSmall : (H : Type) → List (DataW H) → Bool := fun _ ds => decide (uptoBulkAll ds ≤ 1048576)
def OpenSpec.upto (s : _root_.Go.ChangeSpec) : _root_.Go.OpenSpec := { _root_.Go.OpenSpec.ofChange s with cond := some uptoSmall }

/-- 'laws.FnExactGrowthOf', WHERE WHAT IT READS IS OF BULK AT MOST 1048576: true; the input reads as it did. -/
def fnExactGrowthOfUptoRow : OpenClaim := { program := "ytpbbedelapnnnaa", sum := "39b50ccfee3997e2ce133529cd8e77cd337b11af8499dce9352ce6d1d1c145ac", func := "loop.example/g01393/laws.FnExactGrowthOf", spec := "fnExactGrowthOf", inPlace := ["math.Float64bits", "math.Float64frombits"], unfollowed := true, recurses := true, apart := false, narrowed := true }
def FnExactGrowthOfUptoSaid : Prop := fnExactGrowthOfUptoRow.holds Try.pinned (OpenSpec.upto fnExactGrowthOfSpec)

/-- 'laws.FnExactJointValue', WHERE WHAT IT READS IS OF BULK AT MOST 1048576: true; the input reads as it did. -/
def fnExactJointValueUptoRow : OpenClaim := { program := "ytpbbedelapnnnaa", sum := "39b50ccfee3997e2ce133529cd8e77cd337b11af8499dce9352ce6d1d1c145ac", func := "loop.example/g01393/laws.FnExactJointValue", spec := "fnExactJointValue", unfollowed := true, recurses := true, apart := false, narrowed := true }
def FnExactJointValueUptoSaid : Prop := fnExactJointValueUptoRow.holds Try.pinned (OpenSpec.upto fnExactJointValueSpec)

/-- 'laws.FnExactJoinScales', WHERE WHAT IT READS IS OF BULK AT MOST 1048576: true; the input reads as it did. -/
def fnExactJoinScalesUptoRow : OpenClaim := { program := "ytpbbedelapnnnaa", sum := "39b50ccfee3997e2ce133529cd8e77cd337b11af8499dce9352ce6d1d1c145ac", func := "loop.example/g01393/laws.FnExactJoinScales", spec := "fnExactJoinScales", unfollowed := true, recurses := true, apart := false, narrowed := true }
def FnExactJoinScalesUptoSaid : Prop := fnExactJoinScalesUptoRow.holds Try.pinned (OpenSpec.upto fnExactJoinScalesSpec)

/-- 'laws.FnExactUndoEntry', WHERE WHAT IT READS IS OF BULK AT MOST 1048576: true; the input reads as it did. -/
def fnExactUndoEntryUptoRow : OpenClaim := { program := "ytpbbedelapnnnaa", sum := "39b50ccfee3997e2ce133529cd8e77cd337b11af8499dce9352ce6d1d1c145ac", func := "loop.example/g01393/laws.FnExactUndoEntry", spec := "fnExactUndoEntry", apart := false, narrowed := true }
def FnExactUndoEntryUptoSaid : Prop := fnExactUndoEntryUptoRow.holds Try.pinned (OpenSpec.upto fnExactUndoEntrySpec)

/-- 'laws.FnParts', WHERE WHAT IT READS IS OF BULK AT MOST 1048576: true; the input reads as it did. -/
def fnPartsUptoRow : OpenClaim := { program := "ytpbbedelapnnnaa", sum := "39b50ccfee3997e2ce133529cd8e77cd337b11af8499dce9352ce6d1d1c145ac", func := "loop.example/g01393/laws.FnParts", spec := "fnParts", unfollowed := true, recurses := true, named := ["math/bits.divideError", "math/bits.overflowError"], apart := false, narrowed := true }
def FnPartsUptoSaid : Prop := fnPartsUptoRow.holds Try.pinned (OpenSpec.upto fnPartsSpec)

/-- 'laws.FnExactRateDues', WHERE WHAT IT READS IS OF BULK AT MOST 1048576: true; the input reads as it did. -/
def fnExactRateDuesUptoRow : OpenClaim := { program := "ytpbbedelapnnnaa", sum := "39b50ccfee3997e2ce133529cd8e77cd337b11af8499dce9352ce6d1d1c145ac", func := "loop.example/g01393/laws.FnExactRateDues", spec := "fnExactRateDues", unfollowed := true, recurses := true, apart := false, narrowed := true }
def FnExactRateDuesUptoSaid : Prop := fnExactRateDuesUptoRow.holds Try.pinned (OpenSpec.upto fnExactRateDuesSpec)

/-- 'laws.FnExactRakeWeights', WHERE WHAT IT READS IS OF BULK AT MOST 1048576: true; the input reads as it did. -/
def fnExactRakeWeightsUptoRow : OpenClaim := { program := "ytpbbedelapnnnaa", sum := "39b50ccfee3997e2ce133529cd8e77cd337b11af8499dce9352ce6d1d1c145ac", func := "loop.example/g01393/laws.FnExactRakeWeights", spec := "fnExactRakeWeights", inPlace := ["math.Float64bits", "math.Float64frombits"], unfollowed := true, recurses := true, apart := false, narrowed := true }
def FnExactRakeWeightsUptoSaid : Prop := fnExactRakeWeightsUptoRow.holds Try.pinned (OpenSpec.upto fnExactRakeWeightsSpec)

/-- 'laws.FnExactClashesOf', WHERE WHAT IT READS IS OF BULK AT MOST 1048576: true; the input reads as it did. -/
def fnExactClashesOfUptoRow : OpenClaim := { program := "ytpbbedelapnnnaa", sum := "39b50ccfee3997e2ce133529cd8e77cd337b11af8499dce9352ce6d1d1c145ac", func := "loop.example/g01393/laws.FnExactClashesOf", spec := "fnExactClashesOf", unfollowed := true, recurses := true, apart := false, narrowed := true }
def FnExactClashesOfUptoSaid : Prop := fnExactClashesOfUptoRow.holds Try.pinned (OpenSpec.upto fnExactClashesOfSpec)

/-- 'laws.FnExactChangeDays', WHERE WHAT IT READS IS OF BULK AT MOST 1048576: true; the input reads as it did. -/
def fnExactChangeDaysUptoRow : OpenClaim := { program := "ytpbbedelapnnnaa", sum := "39b50ccfee3997e2ce133529cd8e77cd337b11af8499dce9352ce6d1d1c145ac", func := "loop.example/g01393/laws.FnExactChangeDays", spec := "fnExactChangeDays", unfollowed := true, recurses := true, apart := false, narrowed := true }
def FnExactChangeDaysUptoSaid : Prop := fnExactChangeDaysUptoRow.holds Try.pinned (OpenSpec.upto fnExactChangeDaysSpec)

/-- 'laws.FnExactValidSaved', WHERE WHAT IT READS IS OF BULK AT MOST 1048576: true; the input reads as it did. -/
def fnExactValidSavedUptoRow : OpenClaim := { program := "ytpbbedelapnnnaa", sum := "39b50ccfee3997e2ce133529cd8e77cd337b11af8499dce9352ce6d1d1c145ac", func := "loop.example/g01393/laws.FnExactValidSaved", spec := "fnExactValidSaved", unfollowed := true, recurses := true, apart := false, narrowed := true }
def FnExactValidSavedUptoSaid : Prop := fnExactValidSavedUptoRow.holds Try.pinned (OpenSpec.upto fnExactValidSavedSpec)

/-- 'laws.FnExactSameSaved', WHERE WHAT IT READS IS OF BULK AT MOST 1048576: true; the input reads as it did. -/
def fnExactSameSavedUptoRow : OpenClaim := { program := "ytpbbedelapnnnaa", sum := "39b50ccfee3997e2ce133529cd8e77cd337b11af8499dce9352ce6d1d1c145ac", func := "loop.example/g01393/laws.FnExactSameSaved", spec := "fnExactSameSaved", unfollowed := true, recurses := true, apart := false, narrowed := true }
def FnExactSameSavedUptoSaid : Prop := fnExactSameSavedUptoRow.holds Try.pinned (OpenSpec.upto fnExactSameSavedSpec)

/-- 'laws.FnExactRepealRule', WHERE WHAT IT READS IS OF BULK AT MOST 1048576: true; the input reads as it did. -/
def fnExactRepealRuleUptoRow : OpenClaim := { program := "ytpbbedelapnnnaa", sum := "39b50ccfee3997e2ce133529cd8e77cd337b11af8499dce9352ce6d1d1c145ac", func := "loop.example/g01393/laws.FnExactRepealRule", spec := "fnExactRepealRule", unfollowed := true, recurses := true, apart := false, narrowed := true }
def FnExactRepealRuleUptoSaid : Prop := fnExactRepealRuleUptoRow.holds Try.pinned (OpenSpec.upto fnExactRepealRuleSpec)

end Rows
end Go.Proofs.Ytpbbedelapnnnaa
