/-
  No cell of these rows narrows 'for every input' (looked for: loops, veiled, ifaces, maps, wideKeys, modest, calm, conditions, laid).
  DERIVED. THE GIVEN ROWS OF THIS SEAT. 12 by the template 'for every input the law returns true; each argument reads behind the call as it read before'; 0 by the template 'total and deterministic' (their statements: YtelcknddbikgaabTotals.lean).
  GIVEN WITH THE SEED: the statements are not yours to turn. If you find one false, say at which input.
  Laid BY PROGRAM, IN A SANDBOX (cutbox-rows.mjs): the forced cells as the released guide's own fill.sh prints them over the translation 2a2a6a41492c5476… (all of the seat's roots in one cut). By AI agents, Wed Nov 11 2026. No macro, syntax, notation, axiom, sorry.
-/
import Derived.Test.YtelcknddbikgaabChecked
import GoSem.Claim
import GoSem.ClaimJoined
import GoSem.ClaimMapViews
import Derived.JoinedTies
import Derived.KernelRfl
namespace Go.Proofs.Ytelcknddbikgaab
/- THE CELL 'sum', in the pinned program and in every row, IS THE sha256 OF THE DUMP (.gsa) THAT YtelcknddbikgaabProg.lean LOADS. Nothing in Lean hashes anything: it is a label: what it is worth is what the hold of that sum in a sandbox is worth. -/
noncomputable def Try.pinned : Pinned := { name := "ytelcknddbikgaab", sum := "2a2a6a41492c5476b151653ac5a50c463f1e82f7f281059dcc32bb16b15a1a64", checked := Try.checked }
namespace Rows
def none {H : Type} : Left H := { results := [], args := [] }

/-- 'laws.FnExactNextPeople': WHATEVER THE INPUT: true; the input reads as it did. -/
def fnExactNextPeopleSpec : ChangeSpec := { name := "fnExactNextPeople", fn := fun _ => fun
  | [d] => { results := [.lit (.bool true)], args := [d] }
  | _ => none }
def fnExactNextPeopleRow : OpenClaim := { program := "ytelcknddbikgaab", sum := "2a2a6a41492c5476b151653ac5a50c463f1e82f7f281059dcc32bb16b15a1a64", func := "loop.example/g01393/laws.FnExactNextPeople", spec := "fnExactNextPeople", inPlace := ["math.Float64bits", "math.Float64frombits"], unfollowed := true, recurses := true, apart := false }
def FnExactNextPeopleSaid : Prop := fnExactNextPeopleRow.holds Try.pinned (OpenSpec.ofChange fnExactNextPeopleSpec)

/-- ITS FALSE NEIGHBOUR: 'it returns false'. Refute it at one input. -/
def fnExactNextPeopleWrong : ChangeSpec := { name := "fnExactNextPeople", fn := fun _ => fun
  | [d] => { results := [.lit (.bool false)], args := [d] }
  | _ => none }
def FnExactNextPeopleWrongFalsely : Prop := fnExactNextPeopleRow.holds Try.pinned (OpenSpec.ofChange fnExactNextPeopleWrong)

/-- 'laws.FnExactRunPeople': WHATEVER THE INPUT: true; the input reads as it did. -/
def fnExactRunPeopleSpec : ChangeSpec := { name := "fnExactRunPeople", fn := fun _ => fun
  | [d1, d2] => { results := [.lit (.bool true)], args := [d1, d2] }
  | _ => none }
def fnExactRunPeopleRow : OpenClaim := { program := "ytelcknddbikgaab", sum := "2a2a6a41492c5476b151653ac5a50c463f1e82f7f281059dcc32bb16b15a1a64", func := "loop.example/g01393/laws.FnExactRunPeople", spec := "fnExactRunPeople", inPlace := ["math.Float64bits", "math.Float64frombits"], unfollowed := true, recurses := true, apart := false }
def FnExactRunPeopleSaid : Prop := fnExactRunPeopleRow.holds Try.pinned (OpenSpec.ofChange fnExactRunPeopleSpec)

/-- ITS FALSE NEIGHBOUR: 'it returns false'. Refute it at one input. -/
def fnExactRunPeopleWrong : ChangeSpec := { name := "fnExactRunPeople", fn := fun _ => fun
  | [d1, d2] => { results := [.lit (.bool false)], args := [d1, d2] }
  | _ => none }
def FnExactRunPeopleWrongFalsely : Prop := fnExactRunPeopleRow.holds Try.pinned (OpenSpec.ofChange fnExactRunPeopleWrong)

/-- 'laws.FnExactLifeLeft': WHATEVER THE INPUT: true; the input reads as it did. -/
def fnExactLifeLeftSpec : ChangeSpec := { name := "fnExactLifeLeft", fn := fun _ => fun
  | [d] => { results := [.lit (.bool true)], args := [d] }
  | _ => none }
def fnExactLifeLeftRow : OpenClaim := { program := "ytelcknddbikgaab", sum := "2a2a6a41492c5476b151653ac5a50c463f1e82f7f281059dcc32bb16b15a1a64", func := "loop.example/g01393/laws.FnExactLifeLeft", spec := "fnExactLifeLeft", inPlace := ["math.Float64bits", "math.Float64frombits"], unfollowed := true, recurses := true, apart := false }
def FnExactLifeLeftSaid : Prop := fnExactLifeLeftRow.holds Try.pinned (OpenSpec.ofChange fnExactLifeLeftSpec)

/-- ITS FALSE NEIGHBOUR: 'it returns false'. Refute it at one input. -/
def fnExactLifeLeftWrong : ChangeSpec := { name := "fnExactLifeLeft", fn := fun _ => fun
  | [d] => { results := [.lit (.bool false)], args := [d] }
  | _ => none }
def FnExactLifeLeftWrongFalsely : Prop := fnExactLifeLeftRow.holds Try.pinned (OpenSpec.ofChange fnExactLifeLeftWrong)

/-- 'laws.FnExactPeopleRate': WHATEVER THE INPUT: true; the input reads as it did. -/
def fnExactPeopleRateSpec : ChangeSpec := { name := "fnExactPeopleRate", fn := fun _ => fun
  | [d1, d2, d3, d4] => { results := [.lit (.bool true)], args := [d1, d2, d3, d4] }
  | _ => none }
def fnExactPeopleRateRow : OpenClaim := { program := "ytelcknddbikgaab", sum := "2a2a6a41492c5476b151653ac5a50c463f1e82f7f281059dcc32bb16b15a1a64", func := "loop.example/g01393/laws.FnExactPeopleRate", spec := "fnExactPeopleRate", inPlace := ["math.Float64bits", "math.Float64frombits"], unfollowed := true, recurses := true, apart := false }
def FnExactPeopleRateSaid : Prop := fnExactPeopleRateRow.holds Try.pinned (OpenSpec.ofChange fnExactPeopleRateSpec)

/-- ITS FALSE NEIGHBOUR: 'it returns false'. Refute it at one input. -/
def fnExactPeopleRateWrong : ChangeSpec := { name := "fnExactPeopleRate", fn := fun _ => fun
  | [d1, d2, d3, d4] => { results := [.lit (.bool false)], args := [d1, d2, d3, d4] }
  | _ => none }
def FnExactPeopleRateWrongFalsely : Prop := fnExactPeopleRateRow.holds Try.pinned (OpenSpec.ofChange fnExactPeopleRateWrong)

/-- 'laws.FnExactDrawnReturns': WHATEVER THE INPUT: true; the input reads as it did. -/
def fnExactDrawnReturnsSpec : ChangeSpec := { name := "fnExactDrawnReturns", fn := fun _ => fun
  | [d1, d2, d3, d4] => { results := [.lit (.bool true)], args := [d1, d2, d3, d4] }
  | _ => none }
def fnExactDrawnReturnsRow : OpenClaim := { program := "ytelcknddbikgaab", sum := "2a2a6a41492c5476b151653ac5a50c463f1e82f7f281059dcc32bb16b15a1a64", func := "loop.example/g01393/laws.FnExactDrawnReturns", spec := "fnExactDrawnReturns", inPlace := ["math.Float64bits", "math.Float64frombits"], unfollowed := true, recurses := true, apart := false }
def FnExactDrawnReturnsSaid : Prop := fnExactDrawnReturnsRow.holds Try.pinned (OpenSpec.ofChange fnExactDrawnReturnsSpec)

/-- ITS FALSE NEIGHBOUR: 'it returns false'. Refute it at one input. -/
def fnExactDrawnReturnsWrong : ChangeSpec := { name := "fnExactDrawnReturns", fn := fun _ => fun
  | [d1, d2, d3, d4] => { results := [.lit (.bool false)], args := [d1, d2, d3, d4] }
  | _ => none }
def FnExactDrawnReturnsWrongFalsely : Prop := fnExactDrawnReturnsRow.holds Try.pinned (OpenSpec.ofChange fnExactDrawnReturnsWrong)

/-- 'laws.FnExactFundRate': WHATEVER THE INPUT: true; the input reads as it did. -/
def fnExactFundRateSpec : ChangeSpec := { name := "fnExactFundRate", fn := fun _ => fun
  | [d1, d2, d3, d4, d5] => { results := [.lit (.bool true)], args := [d1, d2, d3, d4, d5] }
  | _ => none }
def fnExactFundRateRow : OpenClaim := { program := "ytelcknddbikgaab", sum := "2a2a6a41492c5476b151653ac5a50c463f1e82f7f281059dcc32bb16b15a1a64", func := "loop.example/g01393/laws.FnExactFundRate", spec := "fnExactFundRate", inPlace := ["math.Float64bits", "math.Float64frombits"], unfollowed := true, recurses := true, apart := false }
def FnExactFundRateSaid : Prop := fnExactFundRateRow.holds Try.pinned (OpenSpec.ofChange fnExactFundRateSpec)

/-- ITS FALSE NEIGHBOUR: 'it returns false'. Refute it at one input. -/
def fnExactFundRateWrong : ChangeSpec := { name := "fnExactFundRate", fn := fun _ => fun
  | [d1, d2, d3, d4, d5] => { results := [.lit (.bool false)], args := [d1, d2, d3, d4, d5] }
  | _ => none }
def FnExactFundRateWrongFalsely : Prop := fnExactFundRateRow.holds Try.pinned (OpenSpec.ofChange fnExactFundRateWrong)

/-- 'laws.FnExactGrowthOf': WHATEVER THE INPUT: true; the input reads as it did. -/
def fnExactGrowthOfSpec : ChangeSpec := { name := "fnExactGrowthOf", fn := fun _ => fun
  | [d1, d2] => { results := [.lit (.bool true)], args := [d1, d2] }
  | _ => none }
def fnExactGrowthOfRow : OpenClaim := { program := "ytelcknddbikgaab", sum := "2a2a6a41492c5476b151653ac5a50c463f1e82f7f281059dcc32bb16b15a1a64", func := "loop.example/g01393/laws.FnExactGrowthOf", spec := "fnExactGrowthOf", inPlace := ["math.Float64bits", "math.Float64frombits"], unfollowed := true, recurses := true, apart := false }
def FnExactGrowthOfSaid : Prop := fnExactGrowthOfRow.holds Try.pinned (OpenSpec.ofChange fnExactGrowthOfSpec)

/-- ITS FALSE NEIGHBOUR: 'it returns false'. Refute it at one input. -/
def fnExactGrowthOfWrong : ChangeSpec := { name := "fnExactGrowthOf", fn := fun _ => fun
  | [d1, d2] => { results := [.lit (.bool false)], args := [d1, d2] }
  | _ => none }
def FnExactGrowthOfWrongFalsely : Prop := fnExactGrowthOfRow.holds Try.pinned (OpenSpec.ofChange fnExactGrowthOfWrong)

/-- 'laws.FnExactRakeWeights': WHATEVER THE INPUT: true; the input reads as it did. -/
def fnExactRakeWeightsSpec : ChangeSpec := { name := "fnExactRakeWeights", fn := fun _ => fun
  | [d1, d2, d3, d4, d5, d6] => { results := [.lit (.bool true)], args := [d1, d2, d3, d4, d5, d6] }
  | _ => none }
def fnExactRakeWeightsRow : OpenClaim := { program := "ytelcknddbikgaab", sum := "2a2a6a41492c5476b151653ac5a50c463f1e82f7f281059dcc32bb16b15a1a64", func := "loop.example/g01393/laws.FnExactRakeWeights", spec := "fnExactRakeWeights", inPlace := ["math.Float64bits", "math.Float64frombits"], unfollowed := true, recurses := true, apart := false }
def FnExactRakeWeightsSaid : Prop := fnExactRakeWeightsRow.holds Try.pinned (OpenSpec.ofChange fnExactRakeWeightsSpec)

/-- ITS FALSE NEIGHBOUR: 'it returns false'. Refute it at one input. -/
def fnExactRakeWeightsWrong : ChangeSpec := { name := "fnExactRakeWeights", fn := fun _ => fun
  | [d1, d2, d3, d4, d5, d6] => { results := [.lit (.bool false)], args := [d1, d2, d3, d4, d5, d6] }
  | _ => none }
def FnExactRakeWeightsWrongFalsely : Prop := fnExactRakeWeightsRow.holds Try.pinned (OpenSpec.ofChange fnExactRakeWeightsWrong)

/-- 'laws.FnExactEntropyOf': WHATEVER THE INPUT: true; the input reads as it did. -/
def fnExactEntropyOfSpec : ChangeSpec := { name := "fnExactEntropyOf", fn := fun _ => fun
  | [d] => { results := [.lit (.bool true)], args := [d] }
  | _ => none }
def fnExactEntropyOfRow : OpenClaim := { program := "ytelcknddbikgaab", sum := "2a2a6a41492c5476b151653ac5a50c463f1e82f7f281059dcc32bb16b15a1a64", func := "loop.example/g01393/laws.FnExactEntropyOf", spec := "fnExactEntropyOf", inPlace := ["math.Float64frombits", "math.Float64bits", "math.Float32frombits"], unfollowed := true, recurses := true, apart := false }
def FnExactEntropyOfSaid : Prop := fnExactEntropyOfRow.holds Try.pinned (OpenSpec.ofChange fnExactEntropyOfSpec)

/-- ITS FALSE NEIGHBOUR: 'it returns false'. Refute it at one input. -/
def fnExactEntropyOfWrong : ChangeSpec := { name := "fnExactEntropyOf", fn := fun _ => fun
  | [d] => { results := [.lit (.bool false)], args := [d] }
  | _ => none }
def FnExactEntropyOfWrongFalsely : Prop := fnExactEntropyOfRow.holds Try.pinned (OpenSpec.ofChange fnExactEntropyOfWrong)

/-- 'laws.FnExactValidSaved': WHATEVER THE INPUT: true; the input reads as it did. -/
def fnExactValidSavedSpec : ChangeSpec := { name := "fnExactValidSaved", fn := fun _ => fun
  | [d] => { results := [.lit (.bool true)], args := [d] }
  | _ => none }
def fnExactValidSavedRow : OpenClaim := { program := "ytelcknddbikgaab", sum := "2a2a6a41492c5476b151653ac5a50c463f1e82f7f281059dcc32bb16b15a1a64", func := "loop.example/g01393/laws.FnExactValidSaved", spec := "fnExactValidSaved", unfollowed := true, recurses := true, apart := false }
def FnExactValidSavedSaid : Prop := fnExactValidSavedRow.holds Try.pinned (OpenSpec.ofChange fnExactValidSavedSpec)

/-- ITS FALSE NEIGHBOUR: 'it returns false'. Refute it at one input. -/
def fnExactValidSavedWrong : ChangeSpec := { name := "fnExactValidSaved", fn := fun _ => fun
  | [d] => { results := [.lit (.bool false)], args := [d] }
  | _ => none }
def FnExactValidSavedWrongFalsely : Prop := fnExactValidSavedRow.holds Try.pinned (OpenSpec.ofChange fnExactValidSavedWrong)

/-- 'laws.FnExactSameSaved': WHATEVER THE INPUT: true; the input reads as it did. -/
def fnExactSameSavedSpec : ChangeSpec := { name := "fnExactSameSaved", fn := fun _ => fun
  | [d1, d2] => { results := [.lit (.bool true)], args := [d1, d2] }
  | _ => none }
def fnExactSameSavedRow : OpenClaim := { program := "ytelcknddbikgaab", sum := "2a2a6a41492c5476b151653ac5a50c463f1e82f7f281059dcc32bb16b15a1a64", func := "loop.example/g01393/laws.FnExactSameSaved", spec := "fnExactSameSaved", unfollowed := true, recurses := true, apart := false }
def FnExactSameSavedSaid : Prop := fnExactSameSavedRow.holds Try.pinned (OpenSpec.ofChange fnExactSameSavedSpec)

/-- ITS FALSE NEIGHBOUR: 'it returns false'. Refute it at one input. -/
def fnExactSameSavedWrong : ChangeSpec := { name := "fnExactSameSaved", fn := fun _ => fun
  | [d1, d2] => { results := [.lit (.bool false)], args := [d1, d2] }
  | _ => none }
def FnExactSameSavedWrongFalsely : Prop := fnExactSameSavedRow.holds Try.pinned (OpenSpec.ofChange fnExactSameSavedWrong)

/-- 'laws.FnExactChangeDays': WHATEVER THE INPUT: true; the input reads as it did. -/
def fnExactChangeDaysSpec : ChangeSpec := { name := "fnExactChangeDays", fn := fun _ => fun
  | [d] => { results := [.lit (.bool true)], args := [d] }
  | _ => none }
def fnExactChangeDaysRow : OpenClaim := { program := "ytelcknddbikgaab", sum := "2a2a6a41492c5476b151653ac5a50c463f1e82f7f281059dcc32bb16b15a1a64", func := "loop.example/g01393/laws.FnExactChangeDays", spec := "fnExactChangeDays", unfollowed := true, recurses := true, apart := false }
def FnExactChangeDaysSaid : Prop := fnExactChangeDaysRow.holds Try.pinned (OpenSpec.ofChange fnExactChangeDaysSpec)

/-- ITS FALSE NEIGHBOUR: 'it returns false'. Refute it at one input. -/
def fnExactChangeDaysWrong : ChangeSpec := { name := "fnExactChangeDays", fn := fun _ => fun
  | [d] => { results := [.lit (.bool false)], args := [d] }
  | _ => none }
def FnExactChangeDaysWrongFalsely : Prop := fnExactChangeDaysRow.holds Try.pinned (OpenSpec.ofChange fnExactChangeDaysWrong)

/- THE SECOND FORM. 'bulk': how many values and letters a reading holds, each counted each time it is reached (what is shared counts as often as it is met; a slice's spare places count too). A statement '..UptoSaid' is the law's where the arguments, and the package variables that the reading takes, are together of bulk at most 1048576: NARROWER than '..Said'. Prove '..Said' where nothing that the law and all that it calls make is longer than what came in: it says more and counts as full. Else prove '..UptoSaid'. A law counts once. -/
mutual
def uptoBulk {H : Type} : DataW H → Nat
  | .lit (.string bytes) => bytes.length + 1
  | .lit _ => 1
  | .nil => 1
  | .ptr d => uptoBulk d + 1
  | .slice elems spare => uptoBulkAll elems + uptoBulkAll spare + 1
  | .agg parts => uptoBulkAll parts + 1
  | .iface _ d => uptoBulk d + 1
  | .map entries => uptoBulkEntries entries + 1
  | .held _ => 1
def uptoBulkAll {H : Type} : List (DataW H) → Nat
  | [] => 0
  | d :: r => uptoBulk d + uptoBulkAll r
def uptoBulkEntries {H : Type} : List (Lit × DataW H) → Nat
  | [] => 0
  | x :: r => uptoBulkEntry x + uptoBulkEntries r
def uptoBulkEntry {H : Type} : Lit × DataW H → Nat
  | (.string bytes, d) => bytes.length + uptoBulk d + 1
  | (_, d) => uptoBulk d + 1
 end
def uptoSmall : (H : Type) → List (DataW H) → Bool := fun _ ds => decide (uptoBulkAll ds ≤ 1048576)
def OpenSpec.upto (s : _root_.Go.ChangeSpec) : _root_.Go.OpenSpec := { _root_.Go.OpenSpec.ofChange s with cond := some uptoSmall }

/-- 'laws.FnExactNextPeople', WHERE WHAT IT READS IS OF BULK AT MOST 1048576: true; the input reads as it did. -/
def fnExactNextPeopleUptoRow : OpenClaim := { program := "ytelcknddbikgaab", sum := "2a2a6a41492c5476b151653ac5a50c463f1e82f7f281059dcc32bb16b15a1a64", func := "loop.example/g01393/laws.FnExactNextPeople", spec := "fnExactNextPeople", inPlace := ["math.Float64bits", "math.Float64frombits"], unfollowed := true, recurses := true, apart := false, narrowed := true }
def FnExactNextPeopleUptoSaid : Prop := fnExactNextPeopleUptoRow.holds Try.pinned (OpenSpec.upto fnExactNextPeopleSpec)

/-- 'laws.FnExactRunPeople', WHERE WHAT IT READS IS OF BULK AT MOST 1048576: true; the input reads as it did. -/
def fnExactRunPeopleUptoRow : OpenClaim := { program := "ytelcknddbikgaab", sum := "2a2a6a41492c5476b151653ac5a50c463f1e82f7f281059dcc32bb16b15a1a64", func := "loop.example/g01393/laws.FnExactRunPeople", spec := "fnExactRunPeople", inPlace := ["math.Float64bits", "math.Float64frombits"], unfollowed := true, recurses := true, apart := false, narrowed := true }
def FnExactRunPeopleUptoSaid : Prop := fnExactRunPeopleUptoRow.holds Try.pinned (OpenSpec.upto fnExactRunPeopleSpec)

/-- 'laws.FnExactLifeLeft', WHERE WHAT IT READS IS OF BULK AT MOST 1048576: true; the input reads as it did. -/
def fnExactLifeLeftUptoRow : OpenClaim := { program := "ytelcknddbikgaab", sum := "2a2a6a41492c5476b151653ac5a50c463f1e82f7f281059dcc32bb16b15a1a64", func := "loop.example/g01393/laws.FnExactLifeLeft", spec := "fnExactLifeLeft", inPlace := ["math.Float64bits", "math.Float64frombits"], unfollowed := true, recurses := true, apart := false, narrowed := true }
def FnExactLifeLeftUptoSaid : Prop := fnExactLifeLeftUptoRow.holds Try.pinned (OpenSpec.upto fnExactLifeLeftSpec)

/-- 'laws.FnExactPeopleRate', WHERE WHAT IT READS IS OF BULK AT MOST 1048576: true; the input reads as it did. -/
def fnExactPeopleRateUptoRow : OpenClaim := { program := "ytelcknddbikgaab", sum := "2a2a6a41492c5476b151653ac5a50c463f1e82f7f281059dcc32bb16b15a1a64", func := "loop.example/g01393/laws.FnExactPeopleRate", spec := "fnExactPeopleRate", inPlace := ["math.Float64bits", "math.Float64frombits"], unfollowed := true, recurses := true, apart := false, narrowed := true }
def FnExactPeopleRateUptoSaid : Prop := fnExactPeopleRateUptoRow.holds Try.pinned (OpenSpec.upto fnExactPeopleRateSpec)

/-- 'laws.FnExactDrawnReturns', WHERE WHAT IT READS IS OF BULK AT MOST 1048576: true; the input reads as it did. -/
def fnExactDrawnReturnsUptoRow : OpenClaim := { program := "ytelcknddbikgaab", sum := "2a2a6a41492c5476b151653ac5a50c463f1e82f7f281059dcc32bb16b15a1a64", func := "loop.example/g01393/laws.FnExactDrawnReturns", spec := "fnExactDrawnReturns", inPlace := ["math.Float64bits", "math.Float64frombits"], unfollowed := true, recurses := true, apart := false, narrowed := true }
def FnExactDrawnReturnsUptoSaid : Prop := fnExactDrawnReturnsUptoRow.holds Try.pinned (OpenSpec.upto fnExactDrawnReturnsSpec)

/-- 'laws.FnExactFundRate', WHERE WHAT IT READS IS OF BULK AT MOST 1048576: true; the input reads as it did. -/
def fnExactFundRateUptoRow : OpenClaim := { program := "ytelcknddbikgaab", sum := "2a2a6a41492c5476b151653ac5a50c463f1e82f7f281059dcc32bb16b15a1a64", func := "loop.example/g01393/laws.FnExactFundRate", spec := "fnExactFundRate", inPlace := ["math.Float64bits", "math.Float64frombits"], unfollowed := true, recurses := true, apart := false, narrowed := true }
def FnExactFundRateUptoSaid : Prop := fnExactFundRateUptoRow.holds Try.pinned (OpenSpec.upto fnExactFundRateSpec)

/-- 'laws.FnExactGrowthOf', WHERE WHAT IT READS IS OF BULK AT MOST 1048576: true; the input reads as it did. -/
def fnExactGrowthOfUptoRow : OpenClaim := { program := "ytelcknddbikgaab", sum := "2a2a6a41492c5476b151653ac5a50c463f1e82f7f281059dcc32bb16b15a1a64", func := "loop.example/g01393/laws.FnExactGrowthOf", spec := "fnExactGrowthOf", inPlace := ["math.Float64bits", "math.Float64frombits"], unfollowed := true, recurses := true, apart := false, narrowed := true }
def FnExactGrowthOfUptoSaid : Prop := fnExactGrowthOfUptoRow.holds Try.pinned (OpenSpec.upto fnExactGrowthOfSpec)

/-- 'laws.FnExactRakeWeights', WHERE WHAT IT READS IS OF BULK AT MOST 1048576: true; the input reads as it did. -/
def fnExactRakeWeightsUptoRow : OpenClaim := { program := "ytelcknddbikgaab", sum := "2a2a6a41492c5476b151653ac5a50c463f1e82f7f281059dcc32bb16b15a1a64", func := "loop.example/g01393/laws.FnExactRakeWeights", spec := "fnExactRakeWeights", inPlace := ["math.Float64bits", "math.Float64frombits"], unfollowed := true, recurses := true, apart := false, narrowed := true }
def FnExactRakeWeightsUptoSaid : Prop := fnExactRakeWeightsUptoRow.holds Try.pinned (OpenSpec.upto fnExactRakeWeightsSpec)

/-- 'laws.FnExactEntropyOf', WHERE WHAT IT READS IS OF BULK AT MOST 1048576: true; the input reads as it did. -/
def fnExactEntropyOfUptoRow : OpenClaim := { program := "ytelcknddbikgaab", sum := "2a2a6a41492c5476b151653ac5a50c463f1e82f7f281059dcc32bb16b15a1a64", func := "loop.example/g01393/laws.FnExactEntropyOf", spec := "fnExactEntropyOf", inPlace := ["math.Float64frombits", "math.Float64bits", "math.Float32frombits"], unfollowed := true, recurses := true, apart := false, narrowed := true }
def FnExactEntropyOfUptoSaid : Prop := fnExactEntropyOfUptoRow.holds Try.pinned (OpenSpec.upto fnExactEntropyOfSpec)

/-- 'laws.FnExactValidSaved', WHERE WHAT IT READS IS OF BULK AT MOST 1048576: true; the input reads as it did. -/
def fnExactValidSavedUptoRow : OpenClaim := { program := "ytelcknddbikgaab", sum := "2a2a6a41492c5476b151653ac5a50c463f1e82f7f281059dcc32bb16b15a1a64", func := "loop.example/g01393/laws.FnExactValidSaved", spec := "fnExactValidSaved", unfollowed := true, recurses := true, apart := false, narrowed := true }
def FnExactValidSavedUptoSaid : Prop := fnExactValidSavedUptoRow.holds Try.pinned (OpenSpec.upto fnExactValidSavedSpec)

/-- 'laws.FnExactSameSaved', WHERE WHAT IT READS IS OF BULK AT MOST 1048576: true; the input reads as it did. -/
def fnExactSameSavedUptoRow : OpenClaim := { program := "ytelcknddbikgaab", sum := "2a2a6a41492c5476b151653ac5a50c463f1e82f7f281059dcc32bb16b15a1a64", func := "loop.example/g01393/laws.FnExactSameSaved", spec := "fnExactSameSaved", unfollowed := true, recurses := true, apart := false, narrowed := true }
def FnExactSameSavedUptoSaid : Prop := fnExactSameSavedUptoRow.holds Try.pinned (OpenSpec.upto fnExactSameSavedSpec)

/-- 'laws.FnExactChangeDays', WHERE WHAT IT READS IS OF BULK AT MOST 1048576: true; the input reads as it did. -/
def fnExactChangeDaysUptoRow : OpenClaim := { program := "ytelcknddbikgaab", sum := "2a2a6a41492c5476b151653ac5a50c463f1e82f7f281059dcc32bb16b15a1a64", func := "loop.example/g01393/laws.FnExactChangeDays", spec := "fnExactChangeDays", unfollowed := true, recurses := true, apart := false, narrowed := true }
def FnExactChangeDaysUptoSaid : Prop := fnExactChangeDaysUptoRow.holds Try.pinned (OpenSpec.upto fnExactChangeDaysSpec)

end Rows
end Go.Proofs.Ytelcknddbikgaab
