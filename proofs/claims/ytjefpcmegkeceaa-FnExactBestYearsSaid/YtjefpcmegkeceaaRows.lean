/-
  No cell of these rows narrows 'for every input' (looked for: loops, veiled, ifaces, maps, wideKeys, modest, calm, conditions, laid).
  DERIVED. THE GIVEN ROWS OF THIS SEAT. 12 by the template 'for every input the law returns true; each argument reads behind the call as it read before'; 0 by the template 'total and deterministic' (their statements: YtjefpcmegkeceaaTotals.lean).
  GIVEN WITH THE SEED: the statements are not yours to turn. If you find one false, say at which input.
  Laid BY PROGRAM, IN A SANDBOX (cutbox-rows.mjs): the forced cells as the released guide's own fill.sh prints them over the translation aa3bb1b486e8e711… (all of the seat's roots in one cut). By AI agents, Wed Nov 11 2026. No macro, syntax, notation, axiom, sorry.
-/
import Derived.Test.YtjefpcmegkeceaaChecked
import GoSem.Claim
import GoSem.ClaimJoined
import GoSem.ClaimMapViews
import Derived.JoinedTies
import Derived.KernelRfl
namespace Go.Proofs.Ytjefpcmegkeceaa
/- THE CELL 'sum', in the pinned program and in every row, IS THE sha256 OF THE DUMP (.gsa) THAT YtjefpcmegkeceaaProg.lean LOADS. Nothing in Lean hashes anything: it is a label: what it is worth is what the hold of that sum in a sandbox is worth. -/
noncomputable def Try.pinned : Pinned := { name := "ytjefpcmegkeceaa", sum := "aa3bb1b486e8e7116c2bcbf2dc0657381f6dee97b32130b5e8499e84c479345e", checked := Try.checked }
namespace Rows
def none {H : Type} : Left H := { results := [], args := [] }

/-- 'laws.FnExactPointPension': WHATEVER THE INPUT: true; the input reads as it did. -/
def fnExactPointPensionSpec : ChangeSpec := { name := "fnExactPointPension", fn := fun _ => fun
  | [d1, d2, d3] => { results := [.lit (.bool true)], args := [d1, d2, d3] }
  | _ => none }
def fnExactPointPensionRow : OpenClaim := { program := "ytjefpcmegkeceaa", sum := "aa3bb1b486e8e7116c2bcbf2dc0657381f6dee97b32130b5e8499e84c479345e", func := "loop.example/g01393/laws.FnExactPointPension", spec := "fnExactPointPension", unfollowed := true, recurses := true, apart := false }
def FnExactPointPensionSaid : Prop := fnExactPointPensionRow.holds Try.pinned (OpenSpec.ofChange fnExactPointPensionSpec)

/-- ITS FALSE NEIGHBOUR: 'it returns false'. Refute it at one input. -/
def fnExactPointPensionWrong : ChangeSpec := { name := "fnExactPointPension", fn := fun _ => fun
  | [d1, d2, d3] => { results := [.lit (.bool false)], args := [d1, d2, d3] }
  | _ => none }
def FnExactPointPensionWrongFalsely : Prop := fnExactPointPensionRow.holds Try.pinned (OpenSpec.ofChange fnExactPointPensionWrong)

/-- 'laws.FnExactAgeFactor': WHATEVER THE INPUT: true; the input reads as it did. -/
def fnExactAgeFactorSpec : ChangeSpec := { name := "fnExactAgeFactor", fn := fun _ => fun
  | [d1, d2, d3, d4] => { results := [.lit (.bool true)], args := [d1, d2, d3, d4] }
  | _ => none }
def fnExactAgeFactorRow : OpenClaim := { program := "ytjefpcmegkeceaa", sum := "aa3bb1b486e8e7116c2bcbf2dc0657381f6dee97b32130b5e8499e84c479345e", func := "loop.example/g01393/laws.FnExactAgeFactor", spec := "fnExactAgeFactor", apart := false }
def FnExactAgeFactorSaid : Prop := fnExactAgeFactorRow.holds Try.pinned (OpenSpec.ofChange fnExactAgeFactorSpec)

/-- ITS FALSE NEIGHBOUR: 'it returns false'. Refute it at one input. -/
def fnExactAgeFactorWrong : ChangeSpec := { name := "fnExactAgeFactor", fn := fun _ => fun
  | [d1, d2, d3, d4] => { results := [.lit (.bool false)], args := [d1, d2, d3, d4] }
  | _ => none }
def FnExactAgeFactorWrongFalsely : Prop := fnExactAgeFactorRow.holds Try.pinned (OpenSpec.ofChange fnExactAgeFactorWrong)

/-- 'laws.FnExactSurvivorShare': WHATEVER THE INPUT: true; the input reads as it did. -/
def fnExactSurvivorShareSpec : ChangeSpec := { name := "fnExactSurvivorShare", fn := fun _ => fun
  | [d1, d2, d3, d4, d5] => { results := [.lit (.bool true)], args := [d1, d2, d3, d4, d5] }
  | _ => none }
def fnExactSurvivorShareRow : OpenClaim := { program := "ytjefpcmegkeceaa", sum := "aa3bb1b486e8e7116c2bcbf2dc0657381f6dee97b32130b5e8499e84c479345e", func := "loop.example/g01393/laws.FnExactSurvivorShare", spec := "fnExactSurvivorShare", unfollowed := true, recurses := true, apart := false }
def FnExactSurvivorShareSaid : Prop := fnExactSurvivorShareRow.holds Try.pinned (OpenSpec.ofChange fnExactSurvivorShareSpec)

/-- ITS FALSE NEIGHBOUR: 'it returns false'. Refute it at one input. -/
def fnExactSurvivorShareWrong : ChangeSpec := { name := "fnExactSurvivorShare", fn := fun _ => fun
  | [d1, d2, d3, d4, d5] => { results := [.lit (.bool false)], args := [d1, d2, d3, d4, d5] }
  | _ => none }
def FnExactSurvivorShareWrongFalsely : Prop := fnExactSurvivorShareRow.holds Try.pinned (OpenSpec.ofChange fnExactSurvivorShareWrong)

/-- 'laws.FnExactPointsOf': WHATEVER THE INPUT: true; the input reads as it did. -/
def fnExactPointsOfSpec : ChangeSpec := { name := "fnExactPointsOf", fn := fun _ => fun
  | [d1, d2, d3] => { results := [.lit (.bool true)], args := [d1, d2, d3] }
  | _ => none }
def fnExactPointsOfRow : OpenClaim := { program := "ytjefpcmegkeceaa", sum := "aa3bb1b486e8e7116c2bcbf2dc0657381f6dee97b32130b5e8499e84c479345e", func := "loop.example/g01393/laws.FnExactPointsOf", spec := "fnExactPointsOf", unfollowed := true, recurses := true, apart := false }
def FnExactPointsOfSaid : Prop := fnExactPointsOfRow.holds Try.pinned (OpenSpec.ofChange fnExactPointsOfSpec)

/-- ITS FALSE NEIGHBOUR: 'it returns false'. Refute it at one input. -/
def fnExactPointsOfWrong : ChangeSpec := { name := "fnExactPointsOf", fn := fun _ => fun
  | [d1, d2, d3] => { results := [.lit (.bool false)], args := [d1, d2, d3] }
  | _ => none }
def FnExactPointsOfWrongFalsely : Prop := fnExactPointsOfRow.holds Try.pinned (OpenSpec.ofChange fnExactPointsOfWrong)

/-- 'laws.FnExactSplitPoints': WHATEVER THE INPUT: true; the input reads as it did. -/
def fnExactSplitPointsSpec : ChangeSpec := { name := "fnExactSplitPoints", fn := fun _ => fun
  | [d1, d2, d3, d4] => { results := [.lit (.bool true)], args := [d1, d2, d3, d4] }
  | _ => none }
def fnExactSplitPointsRow : OpenClaim := { program := "ytjefpcmegkeceaa", sum := "aa3bb1b486e8e7116c2bcbf2dc0657381f6dee97b32130b5e8499e84c479345e", func := "loop.example/g01393/laws.FnExactSplitPoints", spec := "fnExactSplitPoints", unfollowed := true, recurses := true, apart := false }
def FnExactSplitPointsSaid : Prop := fnExactSplitPointsRow.holds Try.pinned (OpenSpec.ofChange fnExactSplitPointsSpec)

/-- ITS FALSE NEIGHBOUR: 'it returns false'. Refute it at one input. -/
def fnExactSplitPointsWrong : ChangeSpec := { name := "fnExactSplitPoints", fn := fun _ => fun
  | [d1, d2, d3, d4] => { results := [.lit (.bool false)], args := [d1, d2, d3, d4] }
  | _ => none }
def FnExactSplitPointsWrongFalsely : Prop := fnExactSplitPointsRow.holds Try.pinned (OpenSpec.ofChange fnExactSplitPointsWrong)

/-- 'laws.FnExactBestSpan': WHATEVER THE INPUT: true; the input reads as it did. -/
def fnExactBestSpanSpec : ChangeSpec := { name := "fnExactBestSpan", fn := fun _ => fun
  | [d1, d2] => { results := [.lit (.bool true)], args := [d1, d2] }
  | _ => none }
def fnExactBestSpanRow : OpenClaim := { program := "ytjefpcmegkeceaa", sum := "aa3bb1b486e8e7116c2bcbf2dc0657381f6dee97b32130b5e8499e84c479345e", func := "loop.example/g01393/laws.FnExactBestSpan", spec := "fnExactBestSpan", unfollowed := true, recurses := true, apart := false }
def FnExactBestSpanSaid : Prop := fnExactBestSpanRow.holds Try.pinned (OpenSpec.ofChange fnExactBestSpanSpec)

/-- ITS FALSE NEIGHBOUR: 'it returns false'. Refute it at one input. -/
def fnExactBestSpanWrong : ChangeSpec := { name := "fnExactBestSpan", fn := fun _ => fun
  | [d1, d2] => { results := [.lit (.bool false)], args := [d1, d2] }
  | _ => none }
def FnExactBestSpanWrongFalsely : Prop := fnExactBestSpanRow.holds Try.pinned (OpenSpec.ofChange fnExactBestSpanWrong)

/-- 'laws.FnExactBestYears': WHATEVER THE INPUT: true; the input reads as it did. -/
def fnExactBestYearsSpec : ChangeSpec := { name := "fnExactBestYears", fn := fun _ => fun
  | [d1, d2] => { results := [.lit (.bool true)], args := [d1, d2] }
  | _ => none }
def fnExactBestYearsRow : OpenClaim := { program := "ytjefpcmegkeceaa", sum := "aa3bb1b486e8e7116c2bcbf2dc0657381f6dee97b32130b5e8499e84c479345e", func := "loop.example/g01393/laws.FnExactBestYears", spec := "fnExactBestYears", unfollowed := true, recurses := true, apart := false }
def FnExactBestYearsSaid : Prop := fnExactBestYearsRow.holds Try.pinned (OpenSpec.ofChange fnExactBestYearsSpec)

/-- ITS FALSE NEIGHBOUR: 'it returns false'. Refute it at one input. -/
def fnExactBestYearsWrong : ChangeSpec := { name := "fnExactBestYears", fn := fun _ => fun
  | [d1, d2] => { results := [.lit (.bool false)], args := [d1, d2] }
  | _ => none }
def FnExactBestYearsWrongFalsely : Prop := fnExactBestYearsRow.holds Try.pinned (OpenSpec.ofChange fnExactBestYearsWrong)

/-- 'laws.FnExactFundRun': WHATEVER THE INPUT: true; the input reads as it did. -/
def fnExactFundRunSpec : ChangeSpec := { name := "fnExactFundRun", fn := fun _ => fun
  | [d1, d2, d3, d4] => { results := [.lit (.bool true)], args := [d1, d2, d3, d4] }
  | _ => none }
def fnExactFundRunRow : OpenClaim := { program := "ytjefpcmegkeceaa", sum := "aa3bb1b486e8e7116c2bcbf2dc0657381f6dee97b32130b5e8499e84c479345e", func := "loop.example/g01393/laws.FnExactFundRun", spec := "fnExactFundRun", unfollowed := true, recurses := true, apart := false }
def FnExactFundRunSaid : Prop := fnExactFundRunRow.holds Try.pinned (OpenSpec.ofChange fnExactFundRunSpec)

/-- ITS FALSE NEIGHBOUR: 'it returns false'. Refute it at one input. -/
def fnExactFundRunWrong : ChangeSpec := { name := "fnExactFundRun", fn := fun _ => fun
  | [d1, d2, d3, d4] => { results := [.lit (.bool false)], args := [d1, d2, d3, d4] }
  | _ => none }
def FnExactFundRunWrongFalsely : Prop := fnExactFundRunRow.holds Try.pinned (OpenSpec.ofChange fnExactFundRunWrong)

/-- 'laws.FnExactDrawDown': WHATEVER THE INPUT: true; the input reads as it did. -/
def fnExactDrawDownSpec : ChangeSpec := { name := "fnExactDrawDown", fn := fun _ => fun
  | [d1, d2, d3] => { results := [.lit (.bool true)], args := [d1, d2, d3] }
  | _ => none }
def fnExactDrawDownRow : OpenClaim := { program := "ytjefpcmegkeceaa", sum := "aa3bb1b486e8e7116c2bcbf2dc0657381f6dee97b32130b5e8499e84c479345e", func := "loop.example/g01393/laws.FnExactDrawDown", spec := "fnExactDrawDown", unfollowed := true, recurses := true, apart := false }
def FnExactDrawDownSaid : Prop := fnExactDrawDownRow.holds Try.pinned (OpenSpec.ofChange fnExactDrawDownSpec)

/-- ITS FALSE NEIGHBOUR: 'it returns false'. Refute it at one input. -/
def fnExactDrawDownWrong : ChangeSpec := { name := "fnExactDrawDown", fn := fun _ => fun
  | [d1, d2, d3] => { results := [.lit (.bool false)], args := [d1, d2, d3] }
  | _ => none }
def FnExactDrawDownWrongFalsely : Prop := fnExactDrawDownRow.holds Try.pinned (OpenSpec.ofChange fnExactDrawDownWrong)

/-- 'laws.FnExactIndexPays': WHATEVER THE INPUT: true; the input reads as it did. -/
def fnExactIndexPaysSpec : ChangeSpec := { name := "fnExactIndexPays", fn := fun _ => fun
  | [d1, d2] => { results := [.lit (.bool true)], args := [d1, d2] }
  | _ => none }
def fnExactIndexPaysRow : OpenClaim := { program := "ytjefpcmegkeceaa", sum := "aa3bb1b486e8e7116c2bcbf2dc0657381f6dee97b32130b5e8499e84c479345e", func := "loop.example/g01393/laws.FnExactIndexPays", spec := "fnExactIndexPays", unfollowed := true, recurses := true, apart := false }
def FnExactIndexPaysSaid : Prop := fnExactIndexPaysRow.holds Try.pinned (OpenSpec.ofChange fnExactIndexPaysSpec)

/-- ITS FALSE NEIGHBOUR: 'it returns false'. Refute it at one input. -/
def fnExactIndexPaysWrong : ChangeSpec := { name := "fnExactIndexPays", fn := fun _ => fun
  | [d1, d2] => { results := [.lit (.bool false)], args := [d1, d2] }
  | _ => none }
def FnExactIndexPaysWrongFalsely : Prop := fnExactIndexPaysRow.holds Try.pinned (OpenSpec.ofChange fnExactIndexPaysWrong)

/-- 'laws.FnExactSafeDraw': WHATEVER THE INPUT: true; the input reads as it did. -/
def fnExactSafeDrawSpec : ChangeSpec := { name := "fnExactSafeDraw", fn := fun _ => fun
  | [d1, d2] => { results := [.lit (.bool true)], args := [d1, d2] }
  | _ => none }
def fnExactSafeDrawRow : OpenClaim := { program := "ytjefpcmegkeceaa", sum := "aa3bb1b486e8e7116c2bcbf2dc0657381f6dee97b32130b5e8499e84c479345e", func := "loop.example/g01393/laws.FnExactSafeDraw", spec := "fnExactSafeDraw", unfollowed := true, recurses := true, apart := false }
def FnExactSafeDrawSaid : Prop := fnExactSafeDrawRow.holds Try.pinned (OpenSpec.ofChange fnExactSafeDrawSpec)

/-- ITS FALSE NEIGHBOUR: 'it returns false'. Refute it at one input. -/
def fnExactSafeDrawWrong : ChangeSpec := { name := "fnExactSafeDraw", fn := fun _ => fun
  | [d1, d2] => { results := [.lit (.bool false)], args := [d1, d2] }
  | _ => none }
def FnExactSafeDrawWrongFalsely : Prop := fnExactSafeDrawRow.holds Try.pinned (OpenSpec.ofChange fnExactSafeDrawWrong)

/-- 'laws.FnExactIsLifeTable': WHATEVER THE INPUT: true; the input reads as it did. -/
def fnExactIsLifeTableSpec : ChangeSpec := { name := "fnExactIsLifeTable", fn := fun _ => fun
  | [d] => { results := [.lit (.bool true)], args := [d] }
  | _ => none }
def fnExactIsLifeTableRow : OpenClaim := { program := "ytjefpcmegkeceaa", sum := "aa3bb1b486e8e7116c2bcbf2dc0657381f6dee97b32130b5e8499e84c479345e", func := "loop.example/g01393/laws.FnExactIsLifeTable", spec := "fnExactIsLifeTable", unfollowed := true, recurses := true, apart := false }
def FnExactIsLifeTableSaid : Prop := fnExactIsLifeTableRow.holds Try.pinned (OpenSpec.ofChange fnExactIsLifeTableSpec)

/-- ITS FALSE NEIGHBOUR: 'it returns false'. Refute it at one input. -/
def fnExactIsLifeTableWrong : ChangeSpec := { name := "fnExactIsLifeTable", fn := fun _ => fun
  | [d] => { results := [.lit (.bool false)], args := [d] }
  | _ => none }
def FnExactIsLifeTableWrongFalsely : Prop := fnExactIsLifeTableRow.holds Try.pinned (OpenSpec.ofChange fnExactIsLifeTableWrong)

/- THE SECOND FORM. 'bulk': how many values and letters a reading holds, each counted each time it is reached (what is shared counts as often as it is met; a slice's spare places count too). A statement '..UptoSaid' is the law's where the arguments, and the package variables that the reading takes, are together of bulk at most 1048576: NARROWER than '..Said'. Prove '..Said' where nothing that the law and all that it calls make is longer than what came in: it says more and counts as full. Else prove '..UptoSaid'. A law counts once. -/
mutual
def uptoBulk {H : Type} : DataW H → Nat
  | .lit (.string bytes) => bytes.length + 1
  | .lit _ => 1
  | .nil => 1
  | .ptr d => uptoBulk d + 1
  | .slice elems spare => uptoBulkAll elems + uptoBulkAll spare + 1
  | .agg parts => uptoBulkAll parts + 1
  | .iface _ d => uptoBulk d + 1
  | .map entries => uptoBulkEntries entries + 1
  | .held _ => 1
def uptoBulkAll {H : Type} : List (DataW H) → Nat
  | [] => 0
  | d :: r => uptoBulk d + uptoBulkAll r
def uptoBulkEntries {H : Type} : List (Lit × DataW H) → Nat
  | [] => 0
  | x :: r => uptoBulkEntry x + uptoBulkEntries r
def uptoBulkEntry {H : Type} : Lit × DataW H → Nat
  | (.string bytes, d) => bytes.length + uptoBulk d + 1
  | (_, d) => uptoBulk d + 1
 end
def uptoSmall : (H : Type) → List (DataW H) → Bool := fun _ ds => decide (uptoBulkAll ds ≤ 1048576)
def OpenSpec.upto (s : _root_.Go.ChangeSpec) : _root_.Go.OpenSpec := { _root_.Go.OpenSpec.ofChange s with cond := some uptoSmall }

/-- 'laws.FnExactPointPension', WHERE WHAT IT READS IS OF BULK AT MOST 1048576: true; the input reads as it did. -/
def fnExactPointPensionUptoRow : OpenClaim := { program := "ytjefpcmegkeceaa", sum := "aa3bb1b486e8e7116c2bcbf2dc0657381f6dee97b32130b5e8499e84c479345e", func := "loop.example/g01393/laws.FnExactPointPension", spec := "fnExactPointPension", unfollowed := true, recurses := true, apart := false, narrowed := true }
def FnExactPointPensionUptoSaid : Prop := fnExactPointPensionUptoRow.holds Try.pinned (OpenSpec.upto fnExactPointPensionSpec)

/-- 'laws.FnExactAgeFactor', WHERE WHAT IT READS IS OF BULK AT MOST 1048576: true; the input reads as it did. -/
def fnExactAgeFactorUptoRow : OpenClaim := { program := "ytjefpcmegkeceaa", sum := "aa3bb1b486e8e7116c2bcbf2dc0657381f6dee97b32130b5e8499e84c479345e", func := "loop.example/g01393/laws.FnExactAgeFactor", spec := "fnExactAgeFactor", apart := false, narrowed := true }
def FnExactAgeFactorUptoSaid : Prop := fnExactAgeFactorUptoRow.holds Try.pinned (OpenSpec.upto fnExactAgeFactorSpec)

/-- 'laws.FnExactSurvivorShare', WHERE WHAT IT READS IS OF BULK AT MOST 1048576: true; the input reads as it did. -/
def fnExactSurvivorShareUptoRow : OpenClaim := { program := "ytjefpcmegkeceaa", sum := "aa3bb1b486e8e7116c2bcbf2dc0657381f6dee97b32130b5e8499e84c479345e", func := "loop.example/g01393/laws.FnExactSurvivorShare", spec := "fnExactSurvivorShare", unfollowed := true, recurses := true, apart := false, narrowed := true }
def FnExactSurvivorShareUptoSaid : Prop := fnExactSurvivorShareUptoRow.holds Try.pinned (OpenSpec.upto fnExactSurvivorShareSpec)

/-- 'laws.FnExactPointsOf', WHERE WHAT IT READS IS OF BULK AT MOST 1048576: true; the input reads as it did. -/
def fnExactPointsOfUptoRow : OpenClaim := { program := "ytjefpcmegkeceaa", sum := "aa3bb1b486e8e7116c2bcbf2dc0657381f6dee97b32130b5e8499e84c479345e", func := "loop.example/g01393/laws.FnExactPointsOf", spec := "fnExactPointsOf", unfollowed := true, recurses := true, apart := false, narrowed := true }
def FnExactPointsOfUptoSaid : Prop := fnExactPointsOfUptoRow.holds Try.pinned (OpenSpec.upto fnExactPointsOfSpec)

/-- 'laws.FnExactSplitPoints', WHERE WHAT IT READS IS OF BULK AT MOST 1048576: true; the input reads as it did. -/
def fnExactSplitPointsUptoRow : OpenClaim := { program := "ytjefpcmegkeceaa", sum := "aa3bb1b486e8e7116c2bcbf2dc0657381f6dee97b32130b5e8499e84c479345e", func := "loop.example/g01393/laws.FnExactSplitPoints", spec := "fnExactSplitPoints", unfollowed := true, recurses := true, apart := false, narrowed := true }
def FnExactSplitPointsUptoSaid : Prop := fnExactSplitPointsUptoRow.holds Try.pinned (OpenSpec.upto fnExactSplitPointsSpec)

/-- 'laws.FnExactBestSpan', WHERE WHAT IT READS IS OF BULK AT MOST 1048576: true; the input reads as it did. -/
def fnExactBestSpanUptoRow : OpenClaim := { program := "ytjefpcmegkeceaa", sum := "aa3bb1b486e8e7116c2bcbf2dc0657381f6dee97b32130b5e8499e84c479345e", func := "loop.example/g01393/laws.FnExactBestSpan", spec := "fnExactBestSpan", unfollowed := true, recurses := true, apart := false, narrowed := true }
def FnExactBestSpanUptoSaid : Prop := fnExactBestSpanUptoRow.holds Try.pinned (OpenSpec.upto fnExactBestSpanSpec)

/-- 'laws.FnExactBestYears', WHERE WHAT IT READS IS OF BULK AT MOST 1048576: true; the input reads as it did. -/
def fnExactBestYearsUptoRow : OpenClaim := { program := "ytjefpcmegkeceaa", sum := "aa3bb1b486e8e7116c2bcbf2dc0657381f6dee97b32130b5e8499e84c479345e", func := "loop.example/g01393/laws.FnExactBestYears", spec := "fnExactBestYears", unfollowed := true, recurses := true, apart := false, narrowed := true }
def FnExactBestYearsUptoSaid : Prop := fnExactBestYearsUptoRow.holds Try.pinned (OpenSpec.upto fnExactBestYearsSpec)

/-- 'laws.FnExactFundRun', WHERE WHAT IT READS IS OF BULK AT MOST 1048576: true; the input reads as it did. -/
def fnExactFundRunUptoRow : OpenClaim := { program := "ytjefpcmegkeceaa", sum := "aa3bb1b486e8e7116c2bcbf2dc0657381f6dee97b32130b5e8499e84c479345e", func := "loop.example/g01393/laws.FnExactFundRun", spec := "fnExactFundRun", unfollowed := true, recurses := true, apart := false, narrowed := true }
def FnExactFundRunUptoSaid : Prop := fnExactFundRunUptoRow.holds Try.pinned (OpenSpec.upto fnExactFundRunSpec)

/-- 'laws.FnExactDrawDown', WHERE WHAT IT READS IS OF BULK AT MOST 1048576: true; the input reads as it did. -/
def fnExactDrawDownUptoRow : OpenClaim := { program := "ytjefpcmegkeceaa", sum := "aa3bb1b486e8e7116c2bcbf2dc0657381f6dee97b32130b5e8499e84c479345e", func := "loop.example/g01393/laws.FnExactDrawDown", spec := "fnExactDrawDown", unfollowed := true, recurses := true, apart := false, narrowed := true }
def FnExactDrawDownUptoSaid : Prop := fnExactDrawDownUptoRow.holds Try.pinned (OpenSpec.upto fnExactDrawDownSpec)

/-- 'laws.FnExactIndexPays', WHERE WHAT IT READS IS OF BULK AT MOST 1048576: true; the input reads as it did. -/
def fnExactIndexPaysUptoRow : OpenClaim := { program := "ytjefpcmegkeceaa", sum := "aa3bb1b486e8e7116c2bcbf2dc0657381f6dee97b32130b5e8499e84c479345e", func := "loop.example/g01393/laws.FnExactIndexPays", spec := "fnExactIndexPays", unfollowed := true, recurses := true, apart := false, narrowed := true }
def FnExactIndexPaysUptoSaid : Prop := fnExactIndexPaysUptoRow.holds Try.pinned (OpenSpec.upto fnExactIndexPaysSpec)

/-- 'laws.FnExactSafeDraw', WHERE WHAT IT READS IS OF BULK AT MOST 1048576: true; the input reads as it did. -/
def fnExactSafeDrawUptoRow : OpenClaim := { program := "ytjefpcmegkeceaa", sum := "aa3bb1b486e8e7116c2bcbf2dc0657381f6dee97b32130b5e8499e84c479345e", func := "loop.example/g01393/laws.FnExactSafeDraw", spec := "fnExactSafeDraw", unfollowed := true, recurses := true, apart := false, narrowed := true }
def FnExactSafeDrawUptoSaid : Prop := fnExactSafeDrawUptoRow.holds Try.pinned (OpenSpec.upto fnExactSafeDrawSpec)

/-- 'laws.FnExactIsLifeTable', WHERE WHAT IT READS IS OF BULK AT MOST 1048576: true; the input reads as it did. -/
def fnExactIsLifeTableUptoRow : OpenClaim := { program := "ytjefpcmegkeceaa", sum := "aa3bb1b486e8e7116c2bcbf2dc0657381f6dee97b32130b5e8499e84c479345e", func := "loop.example/g01393/laws.FnExactIsLifeTable", spec := "fnExactIsLifeTable", unfollowed := true, recurses := true, apart := false, narrowed := true }
def FnExactIsLifeTableUptoSaid : Prop := fnExactIsLifeTableUptoRow.holds Try.pinned (OpenSpec.upto fnExactIsLifeTableSpec)

end Rows
end Go.Proofs.Ytjefpcmegkeceaa
