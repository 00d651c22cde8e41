/-
  No cell of these rows narrows 'for every input' (looked for: loops, veiled, ifaces, maps, wideKeys, modest, calm, conditions, laid).
  DERIVED. THE GIVEN ROWS OF THIS SEAT. 12 by the template 'for every input the law returns true; each argument reads behind the call as it read before'; 0 by the template 'total and deterministic' (their statements: YtjebkagbknmdoaaTotals.lean).
  GIVEN WITH THE SEED: the statements are not yours to turn. If you find one false, say at which input.
  Laid BY PROGRAM, IN A SANDBOX (cutbox-rows.mjs): the forced cells as the released guide's own fill.sh prints them over the translation b1fb2b9604d32beb… (all of the seat's roots in one cut). By AI agents, Wed Nov 11 2026. No macro, syntax, notation, axiom, sorry.
-/
import Derived.Test.YtjebkagbknmdoaaChecked
import GoSem.Claim
import GoSem.ClaimJoined
import GoSem.ClaimMapViews
import Derived.JoinedTies
import Derived.KernelRfl
namespace Go.Proofs.Ytjebkagbknmdoaa
/- THE CELL 'sum', in the pinned program and in every row, IS THE sha256 OF THE DUMP (.gsa) THAT YtjebkagbknmdoaaProg.lean LOADS. Nothing in Lean hashes anything: it is a label: what it is worth is what the hold of that sum in a sandbox is worth. -/
noncomputable def Try.pinned : Pinned := { name := "ytjebkagbknmdoaa", sum := "b1fb2b9604d32bebf11b2abe7f24432541038931bd82481fd68c765a09e940a2", checked := Try.checked }
namespace Rows
def none {H : Type} : Left H := { results := [], args := [] }

/-- 'laws.FnTreaties': WHATEVER THE INPUT: true; the input reads as it did. -/
def fnTreatiesSpec : ChangeSpec := { name := "fnTreaties", fn := fun _ => fun
  | [d1, d2] => { results := [.lit (.bool true)], args := [d1, d2] }
  | _ => none }
def fnTreatiesRow : OpenClaim := { program := "ytjebkagbknmdoaa", sum := "b1fb2b9604d32bebf11b2abe7f24432541038931bd82481fd68c765a09e940a2", func := "loop.example/g01393/laws.FnTreaties", spec := "fnTreaties", unfollowed := true, recurses := true, apart := false }
def FnTreatiesSaid : Prop := fnTreatiesRow.holds Try.pinned (OpenSpec.ofChange fnTreatiesSpec)

/-- ITS FALSE NEIGHBOUR: 'it returns false'. Refute it at one input. -/
def fnTreatiesWrong : ChangeSpec := { name := "fnTreaties", fn := fun _ => fun
  | [d1, d2] => { results := [.lit (.bool false)], args := [d1, d2] }
  | _ => none }
def FnTreatiesWrongFalsely : Prop := fnTreatiesRow.holds Try.pinned (OpenSpec.ofChange fnTreatiesWrong)

/-- 'laws.FnExactNextPeople': WHATEVER THE INPUT: true; the input reads as it did. -/
def fnExactNextPeopleSpec : ChangeSpec := { name := "fnExactNextPeople", fn := fun _ => fun
  | [d] => { results := [.lit (.bool true)], args := [d] }
  | _ => none }
def fnExactNextPeopleRow : OpenClaim := { program := "ytjebkagbknmdoaa", sum := "b1fb2b9604d32bebf11b2abe7f24432541038931bd82481fd68c765a09e940a2", func := "loop.example/g01393/laws.FnExactNextPeople", spec := "fnExactNextPeople", inPlace := ["math.Float64bits", "math.Float64frombits"], unfollowed := true, recurses := true, apart := false }
def FnExactNextPeopleSaid : Prop := fnExactNextPeopleRow.holds Try.pinned (OpenSpec.ofChange fnExactNextPeopleSpec)

/-- ITS FALSE NEIGHBOUR: 'it returns false'. Refute it at one input. -/
def fnExactNextPeopleWrong : ChangeSpec := { name := "fnExactNextPeople", fn := fun _ => fun
  | [d] => { results := [.lit (.bool false)], args := [d] }
  | _ => none }
def FnExactNextPeopleWrongFalsely : Prop := fnExactNextPeopleRow.holds Try.pinned (OpenSpec.ofChange fnExactNextPeopleWrong)

/-- 'laws.FnExactRunPeople': WHATEVER THE INPUT: true; the input reads as it did. -/
def fnExactRunPeopleSpec : ChangeSpec := { name := "fnExactRunPeople", fn := fun _ => fun
  | [d1, d2] => { results := [.lit (.bool true)], args := [d1, d2] }
  | _ => none }
def fnExactRunPeopleRow : OpenClaim := { program := "ytjebkagbknmdoaa", sum := "b1fb2b9604d32bebf11b2abe7f24432541038931bd82481fd68c765a09e940a2", func := "loop.example/g01393/laws.FnExactRunPeople", spec := "fnExactRunPeople", inPlace := ["math.Float64bits", "math.Float64frombits"], unfollowed := true, recurses := true, apart := false }
def FnExactRunPeopleSaid : Prop := fnExactRunPeopleRow.holds Try.pinned (OpenSpec.ofChange fnExactRunPeopleSpec)

/-- ITS FALSE NEIGHBOUR: 'it returns false'. Refute it at one input. -/
def fnExactRunPeopleWrong : ChangeSpec := { name := "fnExactRunPeople", fn := fun _ => fun
  | [d1, d2] => { results := [.lit (.bool false)], args := [d1, d2] }
  | _ => none }
def FnExactRunPeopleWrongFalsely : Prop := fnExactRunPeopleRow.holds Try.pinned (OpenSpec.ofChange fnExactRunPeopleWrong)

/-- 'laws.FnExactLifeLeft': WHATEVER THE INPUT: true; the input reads as it did. -/
def fnExactLifeLeftSpec : ChangeSpec := { name := "fnExactLifeLeft", fn := fun _ => fun
  | [d] => { results := [.lit (.bool true)], args := [d] }
  | _ => none }
def fnExactLifeLeftRow : OpenClaim := { program := "ytjebkagbknmdoaa", sum := "b1fb2b9604d32bebf11b2abe7f24432541038931bd82481fd68c765a09e940a2", func := "loop.example/g01393/laws.FnExactLifeLeft", spec := "fnExactLifeLeft", inPlace := ["math.Float64bits", "math.Float64frombits"], unfollowed := true, recurses := true, apart := false }
def FnExactLifeLeftSaid : Prop := fnExactLifeLeftRow.holds Try.pinned (OpenSpec.ofChange fnExactLifeLeftSpec)

/-- ITS FALSE NEIGHBOUR: 'it returns false'. Refute it at one input. -/
def fnExactLifeLeftWrong : ChangeSpec := { name := "fnExactLifeLeft", fn := fun _ => fun
  | [d] => { results := [.lit (.bool false)], args := [d] }
  | _ => none }
def FnExactLifeLeftWrongFalsely : Prop := fnExactLifeLeftRow.holds Try.pinned (OpenSpec.ofChange fnExactLifeLeftWrong)

/-- 'laws.FnExactFundRate': WHATEVER THE INPUT: true; the input reads as it did. -/
def fnExactFundRateSpec : ChangeSpec := { name := "fnExactFundRate", fn := fun _ => fun
  | [d1, d2, d3, d4, d5] => { results := [.lit (.bool true)], args := [d1, d2, d3, d4, d5] }
  | _ => none }
def fnExactFundRateRow : OpenClaim := { program := "ytjebkagbknmdoaa", sum := "b1fb2b9604d32bebf11b2abe7f24432541038931bd82481fd68c765a09e940a2", func := "loop.example/g01393/laws.FnExactFundRate", spec := "fnExactFundRate", inPlace := ["math.Float64bits", "math.Float64frombits"], unfollowed := true, recurses := true, apart := false }
def FnExactFundRateSaid : Prop := fnExactFundRateRow.holds Try.pinned (OpenSpec.ofChange fnExactFundRateSpec)

/-- ITS FALSE NEIGHBOUR: 'it returns false'. Refute it at one input. -/
def fnExactFundRateWrong : ChangeSpec := { name := "fnExactFundRate", fn := fun _ => fun
  | [d1, d2, d3, d4, d5] => { results := [.lit (.bool false)], args := [d1, d2, d3, d4, d5] }
  | _ => none }
def FnExactFundRateWrongFalsely : Prop := fnExactFundRateRow.holds Try.pinned (OpenSpec.ofChange fnExactFundRateWrong)

/-- 'laws.FnExactJointValue': WHATEVER THE INPUT: true; the input reads as it did. -/
def fnExactJointValueSpec : ChangeSpec := { name := "fnExactJointValue", fn := fun _ => fun
  | [d1, d2, d3, d4] => { results := [.lit (.bool true)], args := [d1, d2, d3, d4] }
  | _ => none }
def fnExactJointValueRow : OpenClaim := { program := "ytjebkagbknmdoaa", sum := "b1fb2b9604d32bebf11b2abe7f24432541038931bd82481fd68c765a09e940a2", func := "loop.example/g01393/laws.FnExactJointValue", spec := "fnExactJointValue", unfollowed := true, recurses := true, apart := false }
def FnExactJointValueSaid : Prop := fnExactJointValueRow.holds Try.pinned (OpenSpec.ofChange fnExactJointValueSpec)

/-- ITS FALSE NEIGHBOUR: 'it returns false'. Refute it at one input. -/
def fnExactJointValueWrong : ChangeSpec := { name := "fnExactJointValue", fn := fun _ => fun
  | [d1, d2, d3, d4] => { results := [.lit (.bool false)], args := [d1, d2, d3, d4] }
  | _ => none }
def FnExactJointValueWrongFalsely : Prop := fnExactJointValueRow.holds Try.pinned (OpenSpec.ofChange fnExactJointValueWrong)

/-- 'laws.FnExactAnnuityPay': WHATEVER THE INPUT: true; the input reads as it did. -/
def fnExactAnnuityPaySpec : ChangeSpec := { name := "fnExactAnnuityPay", fn := fun _ => fun
  | [d1, d2, d3] => { results := [.lit (.bool true)], args := [d1, d2, d3] }
  | _ => none }
def fnExactAnnuityPayRow : OpenClaim := { program := "ytjebkagbknmdoaa", sum := "b1fb2b9604d32bebf11b2abe7f24432541038931bd82481fd68c765a09e940a2", func := "loop.example/g01393/laws.FnExactAnnuityPay", spec := "fnExactAnnuityPay", unfollowed := true, recurses := true, apart := false }
def FnExactAnnuityPaySaid : Prop := fnExactAnnuityPayRow.holds Try.pinned (OpenSpec.ofChange fnExactAnnuityPaySpec)

/-- ITS FALSE NEIGHBOUR: 'it returns false'. Refute it at one input. -/
def fnExactAnnuityPayWrong : ChangeSpec := { name := "fnExactAnnuityPay", fn := fun _ => fun
  | [d1, d2, d3] => { results := [.lit (.bool false)], args := [d1, d2, d3] }
  | _ => none }
def FnExactAnnuityPayWrongFalsely : Prop := fnExactAnnuityPayRow.holds Try.pinned (OpenSpec.ofChange fnExactAnnuityPayWrong)

/-- 'laws.FnExactJoinScales': WHATEVER THE INPUT: true; the input reads as it did. -/
def fnExactJoinScalesSpec : ChangeSpec := { name := "fnExactJoinScales", fn := fun _ => fun
  | [d1, d2] => { results := [.lit (.bool true)], args := [d1, d2] }
  | _ => none }
def fnExactJoinScalesRow : OpenClaim := { program := "ytjebkagbknmdoaa", sum := "b1fb2b9604d32bebf11b2abe7f24432541038931bd82481fd68c765a09e940a2", func := "loop.example/g01393/laws.FnExactJoinScales", spec := "fnExactJoinScales", unfollowed := true, recurses := true, apart := false }
def FnExactJoinScalesSaid : Prop := fnExactJoinScalesRow.holds Try.pinned (OpenSpec.ofChange fnExactJoinScalesSpec)

/-- ITS FALSE NEIGHBOUR: 'it returns false'. Refute it at one input. -/
def fnExactJoinScalesWrong : ChangeSpec := { name := "fnExactJoinScales", fn := fun _ => fun
  | [d1, d2] => { results := [.lit (.bool false)], args := [d1, d2] }
  | _ => none }
def FnExactJoinScalesWrongFalsely : Prop := fnExactJoinScalesRow.holds Try.pinned (OpenSpec.ofChange fnExactJoinScalesWrong)

/-- 'laws.FnExactRateCurve': WHATEVER THE INPUT: true; the input reads as it did. -/
def fnExactRateCurveSpec : ChangeSpec := { name := "fnExactRateCurve", fn := fun _ => fun
  | [d1, d2] => { results := [.lit (.bool true)], args := [d1, d2] }
  | _ => none }
def fnExactRateCurveRow : OpenClaim := { program := "ytjebkagbknmdoaa", sum := "b1fb2b9604d32bebf11b2abe7f24432541038931bd82481fd68c765a09e940a2", func := "loop.example/g01393/laws.FnExactRateCurve", spec := "fnExactRateCurve", unfollowed := true, recurses := true, apart := false }
def FnExactRateCurveSaid : Prop := fnExactRateCurveRow.holds Try.pinned (OpenSpec.ofChange fnExactRateCurveSpec)

/-- ITS FALSE NEIGHBOUR: 'it returns false'. Refute it at one input. -/
def fnExactRateCurveWrong : ChangeSpec := { name := "fnExactRateCurve", fn := fun _ => fun
  | [d1, d2] => { results := [.lit (.bool false)], args := [d1, d2] }
  | _ => none }
def FnExactRateCurveWrongFalsely : Prop := fnExactRateCurveRow.holds Try.pinned (OpenSpec.ofChange fnExactRateCurveWrong)

/-- 'laws.FnExactGrowthOf': WHATEVER THE INPUT: true; the input reads as it did. -/
def fnExactGrowthOfSpec : ChangeSpec := { name := "fnExactGrowthOf", fn := fun _ => fun
  | [d1, d2] => { results := [.lit (.bool true)], args := [d1, d2] }
  | _ => none }
def fnExactGrowthOfRow : OpenClaim := { program := "ytjebkagbknmdoaa", sum := "b1fb2b9604d32bebf11b2abe7f24432541038931bd82481fd68c765a09e940a2", func := "loop.example/g01393/laws.FnExactGrowthOf", spec := "fnExactGrowthOf", inPlace := ["math.Float64bits", "math.Float64frombits"], unfollowed := true, recurses := true, apart := false }
def FnExactGrowthOfSaid : Prop := fnExactGrowthOfRow.holds Try.pinned (OpenSpec.ofChange fnExactGrowthOfSpec)

/-- ITS FALSE NEIGHBOUR: 'it returns false'. Refute it at one input. -/
def fnExactGrowthOfWrong : ChangeSpec := { name := "fnExactGrowthOf", fn := fun _ => fun
  | [d1, d2] => { results := [.lit (.bool false)], args := [d1, d2] }
  | _ => none }
def FnExactGrowthOfWrongFalsely : Prop := fnExactGrowthOfRow.holds Try.pinned (OpenSpec.ofChange fnExactGrowthOfWrong)

/-- 'laws.FnExactEntropyOf': WHATEVER THE INPUT: true; the input reads as it did. -/
def fnExactEntropyOfSpec : ChangeSpec := { name := "fnExactEntropyOf", fn := fun _ => fun
  | [d] => { results := [.lit (.bool true)], args := [d] }
  | _ => none }
def fnExactEntropyOfRow : OpenClaim := { program := "ytjebkagbknmdoaa", sum := "b1fb2b9604d32bebf11b2abe7f24432541038931bd82481fd68c765a09e940a2", func := "loop.example/g01393/laws.FnExactEntropyOf", spec := "fnExactEntropyOf", inPlace := ["math.Float64frombits", "math.Float64bits", "math.Float32frombits"], unfollowed := true, recurses := true, apart := false }
def FnExactEntropyOfSaid : Prop := fnExactEntropyOfRow.holds Try.pinned (OpenSpec.ofChange fnExactEntropyOfSpec)

/-- ITS FALSE NEIGHBOUR: 'it returns false'. Refute it at one input. -/
def fnExactEntropyOfWrong : ChangeSpec := { name := "fnExactEntropyOf", fn := fun _ => fun
  | [d] => { results := [.lit (.bool false)], args := [d] }
  | _ => none }
def FnExactEntropyOfWrongFalsely : Prop := fnExactEntropyOfRow.holds Try.pinned (OpenSpec.ofChange fnExactEntropyOfWrong)

/-- 'laws.FnExactRakeWeights': WHATEVER THE INPUT: true; the input reads as it did. -/
def fnExactRakeWeightsSpec : ChangeSpec := { name := "fnExactRakeWeights", fn := fun _ => fun
  | [d1, d2, d3, d4, d5, d6] => { results := [.lit (.bool true)], args := [d1, d2, d3, d4, d5, d6] }
  | _ => none }
def fnExactRakeWeightsRow : OpenClaim := { program := "ytjebkagbknmdoaa", sum := "b1fb2b9604d32bebf11b2abe7f24432541038931bd82481fd68c765a09e940a2", func := "loop.example/g01393/laws.FnExactRakeWeights", spec := "fnExactRakeWeights", inPlace := ["math.Float64bits", "math.Float64frombits"], unfollowed := true, recurses := true, apart := false }
def FnExactRakeWeightsSaid : Prop := fnExactRakeWeightsRow.holds Try.pinned (OpenSpec.ofChange fnExactRakeWeightsSpec)

/-- ITS FALSE NEIGHBOUR: 'it returns false'. Refute it at one input. -/
def fnExactRakeWeightsWrong : ChangeSpec := { name := "fnExactRakeWeights", fn := fun _ => fun
  | [d1, d2, d3, d4, d5, d6] => { results := [.lit (.bool false)], args := [d1, d2, d3, d4, d5, d6] }
  | _ => none }
def FnExactRakeWeightsWrongFalsely : Prop := fnExactRakeWeightsRow.holds Try.pinned (OpenSpec.ofChange fnExactRakeWeightsWrong)

/- THE SECOND FORM. 'bulk': how many values and letters a reading holds, each counted each time it is reached (what is shared counts as often as it is met; a slice's spare places count too). A statement '..UptoSaid' is the law's where the arguments, and the package variables that the reading takes, are together of bulk at most 1048576: NARROWER than '..Said'. Prove '..Said' where nothing that the law and all that it calls make is longer than what came in: it says more and counts as full. Else prove '..UptoSaid'. A law counts once. -/
mutual
def uptoBulk {H : Type} : DataW H → Nat
  | .lit (.string bytes) => bytes.length + 1
  | .lit _ => 1
  | .nil => 1
  | .ptr d => uptoBulk d + 1
  | .slice elems spare => uptoBulkAll elems + uptoBulkAll spare + 1
  | .agg parts => uptoBulkAll parts + 1
  | .iface _ d => uptoBulk d + 1
  | .map entries => uptoBulkEntries entries + 1
  | .held _ => 1
def uptoBulkAll {H : Type} : List (DataW H) → Nat
  | [] => 0
  | d :: r => uptoBulk d + uptoBulkAll r
def uptoBulkEntries {H : Type} : List (Lit × DataW H) → Nat
  | [] => 0
  | x :: r => uptoBulkEntry x + uptoBulkEntries r
def uptoBulkEntry {H : Type} : Lit × DataW H → Nat
  | (.string bytes, d) => bytes.length + uptoBulk d + 1
  | (_, d) => uptoBulk d + 1
 end
def uptoSmall : (H : Type) → List (DataW H) → Bool := fun _ ds => decide (uptoBulkAll ds ≤ 1048576)
def OpenSpec.upto (s : _root_.Go.ChangeSpec) : _root_.Go.OpenSpec := { _root_.Go.OpenSpec.ofChange s with cond := some uptoSmall }

/-- 'laws.FnTreaties', WHERE WHAT IT READS IS OF BULK AT MOST 1048576: true; the input reads as it did. -/
def fnTreatiesUptoRow : OpenClaim := { program := "ytjebkagbknmdoaa", sum := "b1fb2b9604d32bebf11b2abe7f24432541038931bd82481fd68c765a09e940a2", func := "loop.example/g01393/laws.FnTreaties", spec := "fnTreaties", unfollowed := true, recurses := true, apart := false, narrowed := true }
def FnTreatiesUptoSaid : Prop := fnTreatiesUptoRow.holds Try.pinned (OpenSpec.upto fnTreatiesSpec)

/-- 'laws.FnExactNextPeople', WHERE WHAT IT READS IS OF BULK AT MOST 1048576: true; the input reads as it did. -/
def fnExactNextPeopleUptoRow : OpenClaim := { program := "ytjebkagbknmdoaa", sum := "b1fb2b9604d32bebf11b2abe7f24432541038931bd82481fd68c765a09e940a2", func := "loop.example/g01393/laws.FnExactNextPeople", spec := "fnExactNextPeople", inPlace := ["math.Float64bits", "math.Float64frombits"], unfollowed := true, recurses := true, apart := false, narrowed := true }
def FnExactNextPeopleUptoSaid : Prop := fnExactNextPeopleUptoRow.holds Try.pinned (OpenSpec.upto fnExactNextPeopleSpec)

/-- 'laws.FnExactRunPeople', WHERE WHAT IT READS IS OF BULK AT MOST 1048576: true; the input reads as it did. -/
def fnExactRunPeopleUptoRow : OpenClaim := { program := "ytjebkagbknmdoaa", sum := "b1fb2b9604d32bebf11b2abe7f24432541038931bd82481fd68c765a09e940a2", func := "loop.example/g01393/laws.FnExactRunPeople", spec := "fnExactRunPeople", inPlace := ["math.Float64bits", "math.Float64frombits"], unfollowed := true, recurses := true, apart := false, narrowed := true }
def FnExactRunPeopleUptoSaid : Prop := fnExactRunPeopleUptoRow.holds Try.pinned (OpenSpec.upto fnExactRunPeopleSpec)

/-- 'laws.FnExactLifeLeft', WHERE WHAT IT READS IS OF BULK AT MOST 1048576: true; the input reads as it did. -/
def fnExactLifeLeftUptoRow : OpenClaim := { program := "ytjebkagbknmdoaa", sum := "b1fb2b9604d32bebf11b2abe7f24432541038931bd82481fd68c765a09e940a2", func := "loop.example/g01393/laws.FnExactLifeLeft", spec := "fnExactLifeLeft", inPlace := ["math.Float64bits", "math.Float64frombits"], unfollowed := true, recurses := true, apart := false, narrowed := true }
def FnExactLifeLeftUptoSaid : Prop := fnExactLifeLeftUptoRow.holds Try.pinned (OpenSpec.upto fnExactLifeLeftSpec)

/-- 'laws.FnExactFundRate', WHERE WHAT IT READS IS OF BULK AT MOST 1048576: true; the input reads as it did. -/
def fnExactFundRateUptoRow : OpenClaim := { program := "ytjebkagbknmdoaa", sum := "b1fb2b9604d32bebf11b2abe7f24432541038931bd82481fd68c765a09e940a2", func := "loop.example/g01393/laws.FnExactFundRate", spec := "fnExactFundRate", inPlace := ["math.Float64bits", "math.Float64frombits"], unfollowed := true, recurses := true, apart := false, narrowed := true }
def FnExactFundRateUptoSaid : Prop := fnExactFundRateUptoRow.holds Try.pinned (OpenSpec.upto fnExactFundRateSpec)

/-- 'laws.FnExactJointValue', WHERE WHAT IT READS IS OF BULK AT MOST 1048576: true; the input reads as it did. -/
def fnExactJointValueUptoRow : OpenClaim := { program := "ytjebkagbknmdoaa", sum := "b1fb2b9604d32bebf11b2abe7f24432541038931bd82481fd68c765a09e940a2", func := "loop.example/g01393/laws.FnExactJointValue", spec := "fnExactJointValue", unfollowed := true, recurses := true, apart := false, narrowed := true }
def FnExactJointValueUptoSaid : Prop := fnExactJointValueUptoRow.holds Try.pinned (OpenSpec.upto fnExactJointValueSpec)

/-- 'laws.FnExactAnnuityPay', WHERE WHAT IT READS IS OF BULK AT MOST 1048576: true; the input reads as it did. -/
def fnExactAnnuityPayUptoRow : OpenClaim := { program := "ytjebkagbknmdoaa", sum := "b1fb2b9604d32bebf11b2abe7f24432541038931bd82481fd68c765a09e940a2", func := "loop.example/g01393/laws.FnExactAnnuityPay", spec := "fnExactAnnuityPay", unfollowed := true, recurses := true, apart := false, narrowed := true }
def FnExactAnnuityPayUptoSaid : Prop := fnExactAnnuityPayUptoRow.holds Try.pinned (OpenSpec.upto fnExactAnnuityPaySpec)

/-- 'laws.FnExactJoinScales', WHERE WHAT IT READS IS OF BULK AT MOST 1048576: true; the input reads as it did. -/
def fnExactJoinScalesUptoRow : OpenClaim := { program := "ytjebkagbknmdoaa", sum := "b1fb2b9604d32bebf11b2abe7f24432541038931bd82481fd68c765a09e940a2", func := "loop.example/g01393/laws.FnExactJoinScales", spec := "fnExactJoinScales", unfollowed := true, recurses := true, apart := false, narrowed := true }
def FnExactJoinScalesUptoSaid : Prop := fnExactJoinScalesUptoRow.holds Try.pinned (OpenSpec.upto fnExactJoinScalesSpec)

/-- 'laws.FnExactRateCurve', WHERE WHAT IT READS IS OF BULK AT MOST 1048576: true; the input reads as it did. -/
def fnExactRateCurveUptoRow : OpenClaim := { program := "ytjebkagbknmdoaa", sum := "b1fb2b9604d32bebf11b2abe7f24432541038931bd82481fd68c765a09e940a2", func := "loop.example/g01393/laws.FnExactRateCurve", spec := "fnExactRateCurve", unfollowed := true, recurses := true, apart := false, narrowed := true }
def FnExactRateCurveUptoSaid : Prop := fnExactRateCurveUptoRow.holds Try.pinned (OpenSpec.upto fnExactRateCurveSpec)

/-- 'laws.FnExactGrowthOf', WHERE WHAT IT READS IS OF BULK AT MOST 1048576: true; the input reads as it did. -/
def fnExactGrowthOfUptoRow : OpenClaim := { program := "ytjebkagbknmdoaa", sum := "b1fb2b9604d32bebf11b2abe7f24432541038931bd82481fd68c765a09e940a2", func := "loop.example/g01393/laws.FnExactGrowthOf", spec := "fnExactGrowthOf", inPlace := ["math.Float64bits", "math.Float64frombits"], unfollowed := true, recurses := true, apart := false, narrowed := true }
def FnExactGrowthOfUptoSaid : Prop := fnExactGrowthOfUptoRow.holds Try.pinned (OpenSpec.upto fnExactGrowthOfSpec)

/-- 'laws.FnExactEntropyOf', WHERE WHAT IT READS IS OF BULK AT MOST 1048576: true; the input reads as it did. -/
def fnExactEntropyOfUptoRow : OpenClaim := { program := "ytjebkagbknmdoaa", sum := "b1fb2b9604d32bebf11b2abe7f24432541038931bd82481fd68c765a09e940a2", func := "loop.example/g01393/laws.FnExactEntropyOf", spec := "fnExactEntropyOf", inPlace := ["math.Float64frombits", "math.Float64bits", "math.Float32frombits"], unfollowed := true, recurses := true, apart := false, narrowed := true }
def FnExactEntropyOfUptoSaid : Prop := fnExactEntropyOfUptoRow.holds Try.pinned (OpenSpec.upto fnExactEntropyOfSpec)

/-- 'laws.FnExactRakeWeights', WHERE WHAT IT READS IS OF BULK AT MOST 1048576: true; the input reads as it did. -/
def fnExactRakeWeightsUptoRow : OpenClaim := { program := "ytjebkagbknmdoaa", sum := "b1fb2b9604d32bebf11b2abe7f24432541038931bd82481fd68c765a09e940a2", func := "loop.example/g01393/laws.FnExactRakeWeights", spec := "fnExactRakeWeights", inPlace := ["math.Float64bits", "math.Float64frombits"], unfollowed := true, recurses := true, apart := false, narrowed := true }
def FnExactRakeWeightsUptoSaid : Prop := fnExactRakeWeightsUptoRow.holds Try.pinned (OpenSpec.upto fnExactRakeWeightsSpec)

end Rows
end Go.Proofs.Ytjebkagbknmdoaa
