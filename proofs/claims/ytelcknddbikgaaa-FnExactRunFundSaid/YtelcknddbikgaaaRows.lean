/-
  No cell of these rows narrows 'for every input' (looked for: loops, veiled, ifaces, maps, wideKeys, modest, calm, conditions, laid).
  DERIVED. THE GIVEN ROWS OF THIS SEAT. 12 by the template 'for every input the law returns true; each argument reads behind the call as it read before'; 0 by the template 'total and deterministic' (their statements: YtelcknddbikgaaaTotals.lean).
  GIVEN WITH THE SEED: the statements are not yours to turn. If you find one false, say at which input.
  Laid BY PROGRAM, IN A SANDBOX (cutbox-rows.mjs): the forced cells as the released guide's own fill.sh prints them over the translation 9536af2fcd9b6312… (all of the seat's roots in one cut). By AI agents, Wed Nov 11 2026. No macro, syntax, notation, axiom, sorry.
-/
import Derived.Test.YtelcknddbikgaaaChecked
import GoSem.Claim
import GoSem.ClaimJoined
import GoSem.ClaimMapViews
import Derived.JoinedTies
import Derived.KernelRfl
namespace Go.Proofs.Ytelcknddbikgaaa
/- THE CELL 'sum', in the pinned program and in every row, IS THE sha256 OF THE DUMP (.gsa) THAT YtelcknddbikgaaaProg.lean LOADS. Nothing in Lean hashes anything: it is a label: what it is worth is what the hold of that sum in a sandbox is worth. -/
noncomputable def Try.pinned : Pinned := { name := "ytelcknddbikgaaa", sum := "9536af2fcd9b631252a8dcdec68b23f6c0d266e93b52fe466577cec710c4c15d", checked := Try.checked }
namespace Rows
def none {H : Type} : Left H := { results := [], args := [] }

/-- 'laws.FnExactAreIncomes': WHATEVER THE INPUT: true; the input reads as it did. -/
def fnExactAreIncomesSpec : ChangeSpec := { name := "fnExactAreIncomes", fn := fun _ => fun
  | [d] => { results := [.lit (.bool true)], args := [d] }
  | _ => none }
def fnExactAreIncomesRow : OpenClaim := { program := "ytelcknddbikgaaa", sum := "9536af2fcd9b631252a8dcdec68b23f6c0d266e93b52fe466577cec710c4c15d", func := "loop.example/g01393/laws.FnExactAreIncomes", spec := "fnExactAreIncomes", unfollowed := true, recurses := true, apart := false }
def FnExactAreIncomesSaid : Prop := fnExactAreIncomesRow.holds Try.pinned (OpenSpec.ofChange fnExactAreIncomesSpec)

/-- ITS FALSE NEIGHBOUR: 'it returns false'. Refute it at one input. -/
def fnExactAreIncomesWrong : ChangeSpec := { name := "fnExactAreIncomes", fn := fun _ => fun
  | [d] => { results := [.lit (.bool false)], args := [d] }
  | _ => none }
def FnExactAreIncomesWrongFalsely : Prop := fnExactAreIncomesRow.holds Try.pinned (OpenSpec.ofChange fnExactAreIncomesWrong)

/-- 'laws.FnExactEvennessCurve': WHATEVER THE INPUT: true; the input reads as it did. -/
def fnExactEvennessCurveSpec : ChangeSpec := { name := "fnExactEvennessCurve", fn := fun _ => fun
  | [d] => { results := [.lit (.bool true)], args := [d] }
  | _ => none }
def fnExactEvennessCurveRow : OpenClaim := { program := "ytelcknddbikgaaa", sum := "9536af2fcd9b631252a8dcdec68b23f6c0d266e93b52fe466577cec710c4c15d", func := "loop.example/g01393/laws.FnExactEvennessCurve", spec := "fnExactEvennessCurve", unfollowed := true, recurses := true, apart := false }
def FnExactEvennessCurveSaid : Prop := fnExactEvennessCurveRow.holds Try.pinned (OpenSpec.ofChange fnExactEvennessCurveSpec)

/-- ITS FALSE NEIGHBOUR: 'it returns false'. Refute it at one input. -/
def fnExactEvennessCurveWrong : ChangeSpec := { name := "fnExactEvennessCurve", fn := fun _ => fun
  | [d] => { results := [.lit (.bool false)], args := [d] }
  | _ => none }
def FnExactEvennessCurveWrongFalsely : Prop := fnExactEvennessCurveRow.holds Try.pinned (OpenSpec.ofChange fnExactEvennessCurveWrong)

/-- 'laws.FnExactUnevenOf': WHATEVER THE INPUT: true; the input reads as it did. -/
def fnExactUnevenOfSpec : ChangeSpec := { name := "fnExactUnevenOf", fn := fun _ => fun
  | [d] => { results := [.lit (.bool true)], args := [d] }
  | _ => none }
def fnExactUnevenOfRow : OpenClaim := { program := "ytelcknddbikgaaa", sum := "9536af2fcd9b631252a8dcdec68b23f6c0d266e93b52fe466577cec710c4c15d", func := "loop.example/g01393/laws.FnExactUnevenOf", spec := "fnExactUnevenOf", unfollowed := true, recurses := true, apart := false }
def FnExactUnevenOfSaid : Prop := fnExactUnevenOfRow.holds Try.pinned (OpenSpec.ofChange fnExactUnevenOfSpec)

/-- ITS FALSE NEIGHBOUR: 'it returns false'. Refute it at one input. -/
def fnExactUnevenOfWrong : ChangeSpec := { name := "fnExactUnevenOf", fn := fun _ => fun
  | [d] => { results := [.lit (.bool false)], args := [d] }
  | _ => none }
def FnExactUnevenOfWrongFalsely : Prop := fnExactUnevenOfRow.holds Try.pinned (OpenSpec.ofChange fnExactUnevenOfWrong)

/-- 'laws.FnExactShareOfTop': WHATEVER THE INPUT: true; the input reads as it did. -/
def fnExactShareOfTopSpec : ChangeSpec := { name := "fnExactShareOfTop", fn := fun _ => fun
  | [d1, d2] => { results := [.lit (.bool true)], args := [d1, d2] }
  | _ => none }
def fnExactShareOfTopRow : OpenClaim := { program := "ytelcknddbikgaaa", sum := "9536af2fcd9b631252a8dcdec68b23f6c0d266e93b52fe466577cec710c4c15d", func := "loop.example/g01393/laws.FnExactShareOfTop", spec := "fnExactShareOfTop", unfollowed := true, recurses := true, apart := false }
def FnExactShareOfTopSaid : Prop := fnExactShareOfTopRow.holds Try.pinned (OpenSpec.ofChange fnExactShareOfTopSpec)

/-- ITS FALSE NEIGHBOUR: 'it returns false'. Refute it at one input. -/
def fnExactShareOfTopWrong : ChangeSpec := { name := "fnExactShareOfTop", fn := fun _ => fun
  | [d1, d2] => { results := [.lit (.bool false)], args := [d1, d2] }
  | _ => none }
def FnExactShareOfTopWrongFalsely : Prop := fnExactShareOfTopRow.holds Try.pinned (OpenSpec.ofChange fnExactShareOfTopWrong)

/-- 'laws.FnExactTenParts': WHATEVER THE INPUT: true; the input reads as it did. -/
def fnExactTenPartsSpec : ChangeSpec := { name := "fnExactTenParts", fn := fun _ => fun
  | [d] => { results := [.lit (.bool true)], args := [d] }
  | _ => none }
def fnExactTenPartsRow : OpenClaim := { program := "ytelcknddbikgaaa", sum := "9536af2fcd9b631252a8dcdec68b23f6c0d266e93b52fe466577cec710c4c15d", func := "loop.example/g01393/laws.FnExactTenParts", spec := "fnExactTenParts", unfollowed := true, recurses := true, apart := false }
def FnExactTenPartsSaid : Prop := fnExactTenPartsRow.holds Try.pinned (OpenSpec.ofChange fnExactTenPartsSpec)

/-- ITS FALSE NEIGHBOUR: 'it returns false'. Refute it at one input. -/
def fnExactTenPartsWrong : ChangeSpec := { name := "fnExactTenParts", fn := fun _ => fun
  | [d] => { results := [.lit (.bool false)], args := [d] }
  | _ => none }
def FnExactTenPartsWrongFalsely : Prop := fnExactTenPartsRow.holds Try.pinned (OpenSpec.ofChange fnExactTenPartsWrong)

/-- 'laws.FnExactPoorOf': WHATEVER THE INPUT: true; the input reads as it did. -/
def fnExactPoorOfSpec : ChangeSpec := { name := "fnExactPoorOf", fn := fun _ => fun
  | [d1, d2] => { results := [.lit (.bool true)], args := [d1, d2] }
  | _ => none }
def fnExactPoorOfRow : OpenClaim := { program := "ytelcknddbikgaaa", sum := "9536af2fcd9b631252a8dcdec68b23f6c0d266e93b52fe466577cec710c4c15d", func := "loop.example/g01393/laws.FnExactPoorOf", spec := "fnExactPoorOf", unfollowed := true, recurses := true, apart := false }
def FnExactPoorOfSaid : Prop := fnExactPoorOfRow.holds Try.pinned (OpenSpec.ofChange fnExactPoorOfSpec)

/-- ITS FALSE NEIGHBOUR: 'it returns false'. Refute it at one input. -/
def fnExactPoorOfWrong : ChangeSpec := { name := "fnExactPoorOf", fn := fun _ => fun
  | [d1, d2] => { results := [.lit (.bool false)], args := [d1, d2] }
  | _ => none }
def FnExactPoorOfWrongFalsely : Prop := fnExactPoorOfRow.holds Try.pinned (OpenSpec.ofChange fnExactPoorOfWrong)

/-- 'laws.FnExactChangedRanks': WHATEVER THE INPUT: true; the input reads as it did. -/
def fnExactChangedRanksSpec : ChangeSpec := { name := "fnExactChangedRanks", fn := fun _ => fun
  | [d1, d2] => { results := [.lit (.bool true)], args := [d1, d2] }
  | _ => none }
def fnExactChangedRanksRow : OpenClaim := { program := "ytelcknddbikgaaa", sum := "9536af2fcd9b631252a8dcdec68b23f6c0d266e93b52fe466577cec710c4c15d", func := "loop.example/g01393/laws.FnExactChangedRanks", spec := "fnExactChangedRanks", unfollowed := true, recurses := true, apart := false }
def FnExactChangedRanksSaid : Prop := fnExactChangedRanksRow.holds Try.pinned (OpenSpec.ofChange fnExactChangedRanksSpec)

/-- ITS FALSE NEIGHBOUR: 'it returns false'. Refute it at one input. -/
def fnExactChangedRanksWrong : ChangeSpec := { name := "fnExactChangedRanks", fn := fun _ => fun
  | [d1, d2] => { results := [.lit (.bool false)], args := [d1, d2] }
  | _ => none }
def FnExactChangedRanksWrongFalsely : Prop := fnExactChangedRanksRow.holds Try.pinned (OpenSpec.ofChange fnExactChangedRanksWrong)

/-- 'laws.FnExactValidPeople': WHATEVER THE INPUT: true; the input reads as it did. -/
def fnExactValidPeopleSpec : ChangeSpec := { name := "fnExactValidPeople", fn := fun _ => fun
  | [d] => { results := [.lit (.bool true)], args := [d] }
  | _ => none }
def fnExactValidPeopleRow : OpenClaim := { program := "ytelcknddbikgaaa", sum := "9536af2fcd9b631252a8dcdec68b23f6c0d266e93b52fe466577cec710c4c15d", func := "loop.example/g01393/laws.FnExactValidPeople", spec := "fnExactValidPeople", inPlace := ["math.Float64bits", "math.Float64frombits"], unfollowed := true, recurses := true, apart := false }
def FnExactValidPeopleSaid : Prop := fnExactValidPeopleRow.holds Try.pinned (OpenSpec.ofChange fnExactValidPeopleSpec)

/-- ITS FALSE NEIGHBOUR: 'it returns false'. Refute it at one input. -/
def fnExactValidPeopleWrong : ChangeSpec := { name := "fnExactValidPeople", fn := fun _ => fun
  | [d] => { results := [.lit (.bool false)], args := [d] }
  | _ => none }
def FnExactValidPeopleWrongFalsely : Prop := fnExactValidPeopleRow.holds Try.pinned (OpenSpec.ofChange fnExactValidPeopleWrong)

/-- 'laws.FnExactSamePeople': WHATEVER THE INPUT: true; the input reads as it did. -/
def fnExactSamePeopleSpec : ChangeSpec := { name := "fnExactSamePeople", fn := fun _ => fun
  | [d1, d2] => { results := [.lit (.bool true)], args := [d1, d2] }
  | _ => none }
def fnExactSamePeopleRow : OpenClaim := { program := "ytelcknddbikgaaa", sum := "9536af2fcd9b631252a8dcdec68b23f6c0d266e93b52fe466577cec710c4c15d", func := "loop.example/g01393/laws.FnExactSamePeople", spec := "fnExactSamePeople", inPlace := ["math.Float32bits"], unfollowed := true, recurses := true, apart := false }
def FnExactSamePeopleSaid : Prop := fnExactSamePeopleRow.holds Try.pinned (OpenSpec.ofChange fnExactSamePeopleSpec)

/-- ITS FALSE NEIGHBOUR: 'it returns false'. Refute it at one input. -/
def fnExactSamePeopleWrong : ChangeSpec := { name := "fnExactSamePeople", fn := fun _ => fun
  | [d1, d2] => { results := [.lit (.bool false)], args := [d1, d2] }
  | _ => none }
def FnExactSamePeopleWrongFalsely : Prop := fnExactSamePeopleRow.holds Try.pinned (OpenSpec.ofChange fnExactSamePeopleWrong)

/-- 'laws.FnExactSumPeople': WHATEVER THE INPUT: true; the input reads as it did. -/
def fnExactSumPeopleSpec : ChangeSpec := { name := "fnExactSumPeople", fn := fun _ => fun
  | [d1, d2, d3] => { results := [.lit (.bool true)], args := [d1, d2, d3] }
  | _ => none }
def fnExactSumPeopleRow : OpenClaim := { program := "ytelcknddbikgaaa", sum := "9536af2fcd9b631252a8dcdec68b23f6c0d266e93b52fe466577cec710c4c15d", func := "loop.example/g01393/laws.FnExactSumPeople", spec := "fnExactSumPeople", inPlace := ["math.Float64bits", "math.Float64frombits"], unfollowed := true, recurses := true, apart := false }
def FnExactSumPeopleSaid : Prop := fnExactSumPeopleRow.holds Try.pinned (OpenSpec.ofChange fnExactSumPeopleSpec)

/-- ITS FALSE NEIGHBOUR: 'it returns false'. Refute it at one input. -/
def fnExactSumPeopleWrong : ChangeSpec := { name := "fnExactSumPeople", fn := fun _ => fun
  | [d1, d2, d3] => { results := [.lit (.bool false)], args := [d1, d2, d3] }
  | _ => none }
def FnExactSumPeopleWrongFalsely : Prop := fnExactSumPeopleRow.holds Try.pinned (OpenSpec.ofChange fnExactSumPeopleWrong)

/-- 'laws.FnExactRunFund': WHATEVER THE INPUT: true; the input reads as it did. -/
def fnExactRunFundSpec : ChangeSpec := { name := "fnExactRunFund", fn := fun _ => fun
  | [d1, d2, d3, d4] => { results := [.lit (.bool true)], args := [d1, d2, d3, d4] }
  | _ => none }
def fnExactRunFundRow : OpenClaim := { program := "ytelcknddbikgaaa", sum := "9536af2fcd9b631252a8dcdec68b23f6c0d266e93b52fe466577cec710c4c15d", func := "loop.example/g01393/laws.FnExactRunFund", spec := "fnExactRunFund", inPlace := ["math.Float64bits", "math.Float64frombits"], unfollowed := true, recurses := true, apart := false }
def FnExactRunFundSaid : Prop := fnExactRunFundRow.holds Try.pinned (OpenSpec.ofChange fnExactRunFundSpec)

/-- ITS FALSE NEIGHBOUR: 'it returns false'. Refute it at one input. -/
def fnExactRunFundWrong : ChangeSpec := { name := "fnExactRunFund", fn := fun _ => fun
  | [d1, d2, d3, d4] => { results := [.lit (.bool false)], args := [d1, d2, d3, d4] }
  | _ => none }
def FnExactRunFundWrongFalsely : Prop := fnExactRunFundRow.holds Try.pinned (OpenSpec.ofChange fnExactRunFundWrong)

/-- 'laws.FnExactWorthNow': WHATEVER THE INPUT: true; the input reads as it did. -/
def fnExactWorthNowSpec : ChangeSpec := { name := "fnExactWorthNow", fn := fun _ => fun
  | [d1, d2] => { results := [.lit (.bool true)], args := [d1, d2] }
  | _ => none }
def fnExactWorthNowRow : OpenClaim := { program := "ytelcknddbikgaaa", sum := "9536af2fcd9b631252a8dcdec68b23f6c0d266e93b52fe466577cec710c4c15d", func := "loop.example/g01393/laws.FnExactWorthNow", spec := "fnExactWorthNow", inPlace := ["math.Float64bits", "math.Float64frombits"], unfollowed := true, recurses := true, apart := false }
def FnExactWorthNowSaid : Prop := fnExactWorthNowRow.holds Try.pinned (OpenSpec.ofChange fnExactWorthNowSpec)

/-- ITS FALSE NEIGHBOUR: 'it returns false'. Refute it at one input. -/
def fnExactWorthNowWrong : ChangeSpec := { name := "fnExactWorthNow", fn := fun _ => fun
  | [d1, d2] => { results := [.lit (.bool false)], args := [d1, d2] }
  | _ => none }
def FnExactWorthNowWrongFalsely : Prop := fnExactWorthNowRow.holds Try.pinned (OpenSpec.ofChange fnExactWorthNowWrong)

/- THE SECOND FORM. 'bulk': how many values and letters a reading holds, each counted each time it is reached (what is shared counts as often as it is met; a slice's spare places count too). A statement '..UptoSaid' is the law's where the arguments, and the package variables that the reading takes, are together of bulk at most 1048576: NARROWER than '..Said'. Prove '..Said' where nothing that the law and all that it calls make is longer than what came in: it says more and counts as full. Else prove '..UptoSaid'. A law counts once. -/
mutual
def uptoBulk {H : Type} : DataW H → Nat
  | .lit (.string bytes) => bytes.length + 1
  | .lit _ => 1
  | .nil => 1
  | .ptr d => uptoBulk d + 1
  | .slice elems spare => uptoBulkAll elems + uptoBulkAll spare + 1
  | .agg parts => uptoBulkAll parts + 1
  | .iface _ d => uptoBulk d + 1
  | .map entries => uptoBulkEntries entries + 1
  | .held _ => 1
def uptoBulkAll {H : Type} : List (DataW H) → Nat
  | [] => 0
  | d :: r => uptoBulk d + uptoBulkAll r
def uptoBulkEntries {H : Type} : List (Lit × DataW H) → Nat
  | [] => 0
  | x :: r => uptoBulkEntry x + uptoBulkEntries r
def uptoBulkEntry {H : Type} : Lit × DataW H → Nat
  | (.string bytes, d) => bytes.length + uptoBulk d + 1
  | (_, d) => uptoBulk d + 1
 end
def uptoSmall : (H : Type) → List (DataW H) → Bool := fun _ ds => decide (uptoBulkAll ds ≤ 1048576)
def OpenSpec.upto (s : _root_.Go.ChangeSpec) : _root_.Go.OpenSpec := { _root_.Go.OpenSpec.ofChange s with cond := some uptoSmall }

/-- 'laws.FnExactAreIncomes', WHERE WHAT IT READS IS OF BULK AT MOST 1048576: true; the input reads as it did. -/
def fnExactAreIncomesUptoRow : OpenClaim := { program := "ytelcknddbikgaaa", sum := "9536af2fcd9b631252a8dcdec68b23f6c0d266e93b52fe466577cec710c4c15d", func := "loop.example/g01393/laws.FnExactAreIncomes", spec := "fnExactAreIncomes", unfollowed := true, recurses := true, apart := false, narrowed := true }
def FnExactAreIncomesUptoSaid : Prop := fnExactAreIncomesUptoRow.holds Try.pinned (OpenSpec.upto fnExactAreIncomesSpec)

/-- 'laws.FnExactEvennessCurve', WHERE WHAT IT READS IS OF BULK AT MOST 1048576: true; the input reads as it did. -/
def fnExactEvennessCurveUptoRow : OpenClaim := { program := "ytelcknddbikgaaa", sum := "9536af2fcd9b631252a8dcdec68b23f6c0d266e93b52fe466577cec710c4c15d", func := "loop.example/g01393/laws.FnExactEvennessCurve", spec := "fnExactEvennessCurve", unfollowed := true, recurses := true, apart := false, narrowed := true }
def FnExactEvennessCurveUptoSaid : Prop := fnExactEvennessCurveUptoRow.holds Try.pinned (OpenSpec.upto fnExactEvennessCurveSpec)

/-- 'laws.FnExactUnevenOf', WHERE WHAT IT READS IS OF BULK AT MOST 1048576: true; the input reads as it did. -/
def fnExactUnevenOfUptoRow : OpenClaim := { program := "ytelcknddbikgaaa", sum := "9536af2fcd9b631252a8dcdec68b23f6c0d266e93b52fe466577cec710c4c15d", func := "loop.example/g01393/laws.FnExactUnevenOf", spec := "fnExactUnevenOf", unfollowed := true, recurses := true, apart := false, narrowed := true }
def FnExactUnevenOfUptoSaid : Prop := fnExactUnevenOfUptoRow.holds Try.pinned (OpenSpec.upto fnExactUnevenOfSpec)

/-- 'laws.FnExactShareOfTop', WHERE WHAT IT READS IS OF BULK AT MOST 1048576: true; the input reads as it did. -/
def fnExactShareOfTopUptoRow : OpenClaim := { program := "ytelcknddbikgaaa", sum := "9536af2fcd9b631252a8dcdec68b23f6c0d266e93b52fe466577cec710c4c15d", func := "loop.example/g01393/laws.FnExactShareOfTop", spec := "fnExactShareOfTop", unfollowed := true, recurses := true, apart := false, narrowed := true }
def FnExactShareOfTopUptoSaid : Prop := fnExactShareOfTopUptoRow.holds Try.pinned (OpenSpec.upto fnExactShareOfTopSpec)

/-- 'laws.FnExactTenParts', WHERE WHAT IT READS IS OF BULK AT MOST 1048576: true; the input reads as it did. -/
def fnExactTenPartsUptoRow : OpenClaim := { program := "ytelcknddbikgaaa", sum := "9536af2fcd9b631252a8dcdec68b23f6c0d266e93b52fe466577cec710c4c15d", func := "loop.example/g01393/laws.FnExactTenParts", spec := "fnExactTenParts", unfollowed := true, recurses := true, apart := false, narrowed := true }
def FnExactTenPartsUptoSaid : Prop := fnExactTenPartsUptoRow.holds Try.pinned (OpenSpec.upto fnExactTenPartsSpec)

/-- 'laws.FnExactPoorOf', WHERE WHAT IT READS IS OF BULK AT MOST 1048576: true; the input reads as it did. -/
def fnExactPoorOfUptoRow : OpenClaim := { program := "ytelcknddbikgaaa", sum := "9536af2fcd9b631252a8dcdec68b23f6c0d266e93b52fe466577cec710c4c15d", func := "loop.example/g01393/laws.FnExactPoorOf", spec := "fnExactPoorOf", unfollowed := true, recurses := true, apart := false, narrowed := true }
def FnExactPoorOfUptoSaid : Prop := fnExactPoorOfUptoRow.holds Try.pinned (OpenSpec.upto fnExactPoorOfSpec)

/-- 'laws.FnExactChangedRanks', WHERE WHAT IT READS IS OF BULK AT MOST 1048576: true; the input reads as it did. -/
def fnExactChangedRanksUptoRow : OpenClaim := { program := "ytelcknddbikgaaa", sum := "9536af2fcd9b631252a8dcdec68b23f6c0d266e93b52fe466577cec710c4c15d", func := "loop.example/g01393/laws.FnExactChangedRanks", spec := "fnExactChangedRanks", unfollowed := true, recurses := true, apart := false, narrowed := true }
def FnExactChangedRanksUptoSaid : Prop := fnExactChangedRanksUptoRow.holds Try.pinned (OpenSpec.upto fnExactChangedRanksSpec)

/-- 'laws.FnExactValidPeople', WHERE WHAT IT READS IS OF BULK AT MOST 1048576: true; the input reads as it did. -/
def fnExactValidPeopleUptoRow : OpenClaim := { program := "ytelcknddbikgaaa", sum := "9536af2fcd9b631252a8dcdec68b23f6c0d266e93b52fe466577cec710c4c15d", func := "loop.example/g01393/laws.FnExactValidPeople", spec := "fnExactValidPeople", inPlace := ["math.Float64bits", "math.Float64frombits"], unfollowed := true, recurses := true, apart := false, narrowed := true }
def FnExactValidPeopleUptoSaid : Prop := fnExactValidPeopleUptoRow.holds Try.pinned (OpenSpec.upto fnExactValidPeopleSpec)

/-- 'laws.FnExactSamePeople', WHERE WHAT IT READS IS OF BULK AT MOST 1048576: true; the input reads as it did. -/
def fnExactSamePeopleUptoRow : OpenClaim := { program := "ytelcknddbikgaaa", sum := "9536af2fcd9b631252a8dcdec68b23f6c0d266e93b52fe466577cec710c4c15d", func := "loop.example/g01393/laws.FnExactSamePeople", spec := "fnExactSamePeople", inPlace := ["math.Float32bits"], unfollowed := true, recurses := true, apart := false, narrowed := true }
def FnExactSamePeopleUptoSaid : Prop := fnExactSamePeopleUptoRow.holds Try.pinned (OpenSpec.upto fnExactSamePeopleSpec)

/-- 'laws.FnExactSumPeople', WHERE WHAT IT READS IS OF BULK AT MOST 1048576: true; the input reads as it did. -/
def fnExactSumPeopleUptoRow : OpenClaim := { program := "ytelcknddbikgaaa", sum := "9536af2fcd9b631252a8dcdec68b23f6c0d266e93b52fe466577cec710c4c15d", func := "loop.example/g01393/laws.FnExactSumPeople", spec := "fnExactSumPeople", inPlace := ["math.Float64bits", "math.Float64frombits"], unfollowed := true, recurses := true, apart := false, narrowed := true }
def FnExactSumPeopleUptoSaid : Prop := fnExactSumPeopleUptoRow.holds Try.pinned (OpenSpec.upto fnExactSumPeopleSpec)

/-- 'laws.FnExactRunFund', WHERE WHAT IT READS IS OF BULK AT MOST 1048576: true; the input reads as it did. -/
def fnExactRunFundUptoRow : OpenClaim := { program := "ytelcknddbikgaaa", sum := "9536af2fcd9b631252a8dcdec68b23f6c0d266e93b52fe466577cec710c4c15d", func := "loop.example/g01393/laws.FnExactRunFund", spec := "fnExactRunFund", inPlace := ["math.Float64bits", "math.Float64frombits"], unfollowed := true, recurses := true, apart := false, narrowed := true }
def FnExactRunFundUptoSaid : Prop := fnExactRunFundUptoRow.holds Try.pinned (OpenSpec.upto fnExactRunFundSpec)

/-- 'laws.FnExactWorthNow', WHERE WHAT IT READS IS OF BULK AT MOST 1048576: true; the input reads as it did. -/
def fnExactWorthNowUptoRow : OpenClaim := { program := "ytelcknddbikgaaa", sum := "9536af2fcd9b631252a8dcdec68b23f6c0d266e93b52fe466577cec710c4c15d", func := "loop.example/g01393/laws.FnExactWorthNow", spec := "fnExactWorthNow", inPlace := ["math.Float64bits", "math.Float64frombits"], unfollowed := true, recurses := true, apart := false, narrowed := true }
def FnExactWorthNowUptoSaid : Prop := fnExactWorthNowUptoRow.holds Try.pinned (OpenSpec.upto fnExactWorthNowSpec)

end Rows
end Go.Proofs.Ytelcknddbikgaaa
