/-
  No cell of these rows narrows 'for every input' (looked for: loops, veiled, ifaces, maps, wideKeys, modest, calm, conditions, laid).
  DERIVED. THE GIVEN ROWS OF THIS SEAT. 12 by the template 'for every input the law returns true; each argument reads behind the call as it read before'; 0 by the template 'total and deterministic' (their statements: YtfkndehhepplbaaTotals.lean).
  GIVEN WITH THE SEED: the statements are not yours to turn. If you find one false, say at which input.
  Laid BY PROGRAM, IN A SANDBOX (cutbox-rows.mjs): the forced cells as the released guide's own fill.sh prints them over the translation c1a9603801f1b70f… (all of the seat's roots in one cut). By AI agents, Wed Nov 11 2026. No macro, syntax, notation, axiom, sorry.
-/
import Derived.Test.YtfkndehhepplbaaChecked
import GoSem.Claim
import GoSem.ClaimJoined
import GoSem.ClaimMapViews
import Derived.JoinedTies
import Derived.KernelRfl
namespace Go.Proofs.Ytfkndehhepplbaa
/- THE CELL 'sum', in the pinned program and in every row, IS THE sha256 OF THE DUMP (.gsa) THAT YtfkndehhepplbaaProg.lean LOADS. Nothing in Lean hashes anything: it is a label: what it is worth is what the hold of that sum in a sandbox is worth. -/
noncomputable def Try.pinned : Pinned := { name := "ytfkndehhepplbaa", sum := "c1a9603801f1b70f516015e141ae0569509c99d1b5615b9afd6dab8e6171ee96", checked := Try.checked }
namespace Rows
def none {H : Type} : Left H := { results := [], args := [] }

/-- 'laws.FnExactNetOfPrice': WHATEVER THE INPUT: true; the input reads as it did. -/
def fnExactNetOfPriceSpec : ChangeSpec := { name := "fnExactNetOfPrice", fn := fun _ => fun
  | [d1, d2, d3] => { results := [.lit (.bool true)], args := [d1, d2, d3] }
  | _ => none }
def fnExactNetOfPriceRow : OpenClaim := { program := "ytfkndehhepplbaa", sum := "c1a9603801f1b70f516015e141ae0569509c99d1b5615b9afd6dab8e6171ee96", func := "loop.example/g01393/laws.FnExactNetOfPrice", spec := "fnExactNetOfPrice", apart := false }
def FnExactNetOfPriceSaid : Prop := fnExactNetOfPriceRow.holds Try.pinned (OpenSpec.ofChange fnExactNetOfPriceSpec)

/-- ITS FALSE NEIGHBOUR: 'it returns false'. Refute it at one input. -/
def fnExactNetOfPriceWrong : ChangeSpec := { name := "fnExactNetOfPrice", fn := fun _ => fun
  | [d1, d2, d3] => { results := [.lit (.bool false)], args := [d1, d2, d3] }
  | _ => none }
def FnExactNetOfPriceWrongFalsely : Prop := fnExactNetOfPriceRow.holds Try.pinned (OpenSpec.ofChange fnExactNetOfPriceWrong)

/-- 'laws.FnExactIsOrigin': WHATEVER THE INPUT: true; the input reads as it did. -/
def fnExactIsOriginSpec : ChangeSpec := { name := "fnExactIsOrigin", fn := fun _ => fun
  | [d1, d2, d3] => { results := [.lit (.bool true)], args := [d1, d2, d3] }
  | _ => none }
def fnExactIsOriginRow : OpenClaim := { program := "ytfkndehhepplbaa", sum := "c1a9603801f1b70f516015e141ae0569509c99d1b5615b9afd6dab8e6171ee96", func := "loop.example/g01393/laws.FnExactIsOrigin", spec := "fnExactIsOrigin", unfollowed := true, recurses := true, apart := false }
def FnExactIsOriginSaid : Prop := fnExactIsOriginRow.holds Try.pinned (OpenSpec.ofChange fnExactIsOriginSpec)

/-- ITS FALSE NEIGHBOUR: 'it returns false'. Refute it at one input. -/
def fnExactIsOriginWrong : ChangeSpec := { name := "fnExactIsOrigin", fn := fun _ => fun
  | [d1, d2, d3] => { results := [.lit (.bool false)], args := [d1, d2, d3] }
  | _ => none }
def FnExactIsOriginWrongFalsely : Prop := fnExactIsOriginRow.holds Try.pinned (OpenSpec.ofChange fnExactIsOriginWrong)

/-- 'laws.FnExactCreditLimit': WHATEVER THE INPUT: true; the input reads as it did. -/
def fnExactCreditLimitSpec : ChangeSpec := { name := "fnExactCreditLimit", fn := fun _ => fun
  | [d1, d2, d3, d4] => { results := [.lit (.bool true)], args := [d1, d2, d3, d4] }
  | _ => none }
def fnExactCreditLimitRow : OpenClaim := { program := "ytfkndehhepplbaa", sum := "c1a9603801f1b70f516015e141ae0569509c99d1b5615b9afd6dab8e6171ee96", func := "loop.example/g01393/laws.FnExactCreditLimit", spec := "fnExactCreditLimit", apart := false }
def FnExactCreditLimitSaid : Prop := fnExactCreditLimitRow.holds Try.pinned (OpenSpec.ofChange fnExactCreditLimitSpec)

/-- ITS FALSE NEIGHBOUR: 'it returns false'. Refute it at one input. -/
def fnExactCreditLimitWrong : ChangeSpec := { name := "fnExactCreditLimit", fn := fun _ => fun
  | [d1, d2, d3, d4] => { results := [.lit (.bool false)], args := [d1, d2, d3, d4] }
  | _ => none }
def FnExactCreditLimitWrongFalsely : Prop := fnExactCreditLimitRow.holds Try.pinned (OpenSpec.ofChange fnExactCreditLimitWrong)

/-- 'laws.FnExactValidTariff': WHATEVER THE INPUT: true; the input reads as it did. -/
def fnExactValidTariffSpec : ChangeSpec := { name := "fnExactValidTariff", fn := fun _ => fun
  | [d] => { results := [.lit (.bool true)], args := [d] }
  | _ => none }
def fnExactValidTariffRow : OpenClaim := { program := "ytfkndehhepplbaa", sum := "c1a9603801f1b70f516015e141ae0569509c99d1b5615b9afd6dab8e6171ee96", func := "loop.example/g01393/laws.FnExactValidTariff", spec := "fnExactValidTariff", apart := false }
def FnExactValidTariffSaid : Prop := fnExactValidTariffRow.holds Try.pinned (OpenSpec.ofChange fnExactValidTariffSpec)

/-- ITS FALSE NEIGHBOUR: 'it returns false'. Refute it at one input. -/
def fnExactValidTariffWrong : ChangeSpec := { name := "fnExactValidTariff", fn := fun _ => fun
  | [d] => { results := [.lit (.bool false)], args := [d] }
  | _ => none }
def FnExactValidTariffWrongFalsely : Prop := fnExactValidTariffRow.holds Try.pinned (OpenSpec.ofChange fnExactValidTariffWrong)

/-- 'laws.FnExactCustomsDue': WHATEVER THE INPUT: true; the input reads as it did. -/
def fnExactCustomsDueSpec : ChangeSpec := { name := "fnExactCustomsDue", fn := fun _ => fun
  | [d1, d2, d3, d4] => { results := [.lit (.bool true)], args := [d1, d2, d3, d4] }
  | _ => none }
def fnExactCustomsDueRow : OpenClaim := { program := "ytfkndehhepplbaa", sum := "c1a9603801f1b70f516015e141ae0569509c99d1b5615b9afd6dab8e6171ee96", func := "loop.example/g01393/laws.FnExactCustomsDue", spec := "fnExactCustomsDue", apart := false }
def FnExactCustomsDueSaid : Prop := fnExactCustomsDueRow.holds Try.pinned (OpenSpec.ofChange fnExactCustomsDueSpec)

/-- ITS FALSE NEIGHBOUR: 'it returns false'. Refute it at one input. -/
def fnExactCustomsDueWrong : ChangeSpec := { name := "fnExactCustomsDue", fn := fun _ => fun
  | [d1, d2, d3, d4] => { results := [.lit (.bool false)], args := [d1, d2, d3, d4] }
  | _ => none }
def FnExactCustomsDueWrongFalsely : Prop := fnExactCustomsDueRow.holds Try.pinned (OpenSpec.ofChange fnExactCustomsDueWrong)

/-- 'laws.FnExactBestTariff': WHATEVER THE INPUT: true; the input reads as it did. -/
def fnExactBestTariffSpec : ChangeSpec := { name := "fnExactBestTariff", fn := fun _ => fun
  | [d1, d2, d3, d4] => { results := [.lit (.bool true)], args := [d1, d2, d3, d4] }
  | _ => none }
def fnExactBestTariffRow : OpenClaim := { program := "ytfkndehhepplbaa", sum := "c1a9603801f1b70f516015e141ae0569509c99d1b5615b9afd6dab8e6171ee96", func := "loop.example/g01393/laws.FnExactBestTariff", spec := "fnExactBestTariff", apart := false }
def FnExactBestTariffSaid : Prop := fnExactBestTariffRow.holds Try.pinned (OpenSpec.ofChange fnExactBestTariffSpec)

/-- ITS FALSE NEIGHBOUR: 'it returns false'. Refute it at one input. -/
def fnExactBestTariffWrong : ChangeSpec := { name := "fnExactBestTariff", fn := fun _ => fun
  | [d1, d2, d3, d4] => { results := [.lit (.bool false)], args := [d1, d2, d3, d4] }
  | _ => none }
def FnExactBestTariffWrongFalsely : Prop := fnExactBestTariffRow.holds Try.pinned (OpenSpec.ofChange fnExactBestTariffWrong)

/-- 'laws.FnExactRefundShare': WHATEVER THE INPUT: true; the input reads as it did. -/
def fnExactRefundShareSpec : ChangeSpec := { name := "fnExactRefundShare", fn := fun _ => fun
  | [d1, d2, d3] => { results := [.lit (.bool true)], args := [d1, d2, d3] }
  | _ => none }
def fnExactRefundShareRow : OpenClaim := { program := "ytfkndehhepplbaa", sum := "c1a9603801f1b70f516015e141ae0569509c99d1b5615b9afd6dab8e6171ee96", func := "loop.example/g01393/laws.FnExactRefundShare", spec := "fnExactRefundShare", unfollowed := true, recurses := true, apart := false }
def FnExactRefundShareSaid : Prop := fnExactRefundShareRow.holds Try.pinned (OpenSpec.ofChange fnExactRefundShareSpec)

/-- ITS FALSE NEIGHBOUR: 'it returns false'. Refute it at one input. -/
def fnExactRefundShareWrong : ChangeSpec := { name := "fnExactRefundShare", fn := fun _ => fun
  | [d1, d2, d3] => { results := [.lit (.bool false)], args := [d1, d2, d3] }
  | _ => none }
def FnExactRefundShareWrongFalsely : Prop := fnExactRefundShareRow.holds Try.pinned (OpenSpec.ofChange fnExactRefundShareWrong)

/-- 'laws.FnExactChainDues': WHATEVER THE INPUT: true; the input reads as it did. -/
def fnExactChainDuesSpec : ChangeSpec := { name := "fnExactChainDues", fn := fun _ => fun
  | [d1, d2, d3] => { results := [.lit (.bool true)], args := [d1, d2, d3] }
  | _ => none }
def fnExactChainDuesRow : OpenClaim := { program := "ytfkndehhepplbaa", sum := "c1a9603801f1b70f516015e141ae0569509c99d1b5615b9afd6dab8e6171ee96", func := "loop.example/g01393/laws.FnExactChainDues", spec := "fnExactChainDues", unfollowed := true, recurses := true, apart := false }
def FnExactChainDuesSaid : Prop := fnExactChainDuesRow.holds Try.pinned (OpenSpec.ofChange fnExactChainDuesSpec)

/-- ITS FALSE NEIGHBOUR: 'it returns false'. Refute it at one input. -/
def fnExactChainDuesWrong : ChangeSpec := { name := "fnExactChainDues", fn := fun _ => fun
  | [d1, d2, d3] => { results := [.lit (.bool false)], args := [d1, d2, d3] }
  | _ => none }
def FnExactChainDuesWrongFalsely : Prop := fnExactChainDuesRow.holds Try.pinned (OpenSpec.ofChange fnExactChainDuesWrong)

/-- 'laws.FnExactLineDues': WHATEVER THE INPUT: true; the input reads as it did. -/
def fnExactLineDuesSpec : ChangeSpec := { name := "fnExactLineDues", fn := fun _ => fun
  | [d1, d2, d3, d4] => { results := [.lit (.bool true)], args := [d1, d2, d3, d4] }
  | _ => none }
def fnExactLineDuesRow : OpenClaim := { program := "ytfkndehhepplbaa", sum := "c1a9603801f1b70f516015e141ae0569509c99d1b5615b9afd6dab8e6171ee96", func := "loop.example/g01393/laws.FnExactLineDues", spec := "fnExactLineDues", unfollowed := true, recurses := true, apart := false }
def FnExactLineDuesSaid : Prop := fnExactLineDuesRow.holds Try.pinned (OpenSpec.ofChange fnExactLineDuesSpec)

/-- ITS FALSE NEIGHBOUR: 'it returns false'. Refute it at one input. -/
def fnExactLineDuesWrong : ChangeSpec := { name := "fnExactLineDues", fn := fun _ => fun
  | [d1, d2, d3, d4] => { results := [.lit (.bool false)], args := [d1, d2, d3, d4] }
  | _ => none }
def FnExactLineDuesWrongFalsely : Prop := fnExactLineDuesRow.holds Try.pinned (OpenSpec.ofChange fnExactLineDuesWrong)

/-- 'laws.FnExactSplitDue': WHATEVER THE INPUT: true; the input reads as it did. -/
def fnExactSplitDueSpec : ChangeSpec := { name := "fnExactSplitDue", fn := fun _ => fun
  | [d1, d2, d3, d4] => { results := [.lit (.bool true)], args := [d1, d2, d3, d4] }
  | _ => none }
def fnExactSplitDueRow : OpenClaim := { program := "ytfkndehhepplbaa", sum := "c1a9603801f1b70f516015e141ae0569509c99d1b5615b9afd6dab8e6171ee96", func := "loop.example/g01393/laws.FnExactSplitDue", spec := "fnExactSplitDue", unfollowed := true, recurses := true, apart := false }
def FnExactSplitDueSaid : Prop := fnExactSplitDueRow.holds Try.pinned (OpenSpec.ofChange fnExactSplitDueSpec)

/-- ITS FALSE NEIGHBOUR: 'it returns false'. Refute it at one input. -/
def fnExactSplitDueWrong : ChangeSpec := { name := "fnExactSplitDue", fn := fun _ => fun
  | [d1, d2, d3, d4] => { results := [.lit (.bool false)], args := [d1, d2, d3, d4] }
  | _ => none }
def FnExactSplitDueWrongFalsely : Prop := fnExactSplitDueRow.holds Try.pinned (OpenSpec.ofChange fnExactSplitDueWrong)

/-- 'laws.FnExactPartsDue': WHATEVER THE INPUT: true; the input reads as it did. -/
def fnExactPartsDueSpec : ChangeSpec := { name := "fnExactPartsDue", fn := fun _ => fun
  | [d1, d2, d3, d4, d5] => { results := [.lit (.bool true)], args := [d1, d2, d3, d4, d5] }
  | _ => none }
def fnExactPartsDueRow : OpenClaim := { program := "ytfkndehhepplbaa", sum := "c1a9603801f1b70f516015e141ae0569509c99d1b5615b9afd6dab8e6171ee96", func := "loop.example/g01393/laws.FnExactPartsDue", spec := "fnExactPartsDue", unfollowed := true, recurses := true, apart := false }
def FnExactPartsDueSaid : Prop := fnExactPartsDueRow.holds Try.pinned (OpenSpec.ofChange fnExactPartsDueSpec)

/-- ITS FALSE NEIGHBOUR: 'it returns false'. Refute it at one input. -/
def fnExactPartsDueWrong : ChangeSpec := { name := "fnExactPartsDue", fn := fun _ => fun
  | [d1, d2, d3, d4, d5] => { results := [.lit (.bool false)], args := [d1, d2, d3, d4, d5] }
  | _ => none }
def FnExactPartsDueWrongFalsely : Prop := fnExactPartsDueRow.holds Try.pinned (OpenSpec.ofChange fnExactPartsDueWrong)

/-- 'laws.FnExactChildBenefit': WHATEVER THE INPUT: true; the input reads as it did. -/
def fnExactChildBenefitSpec : ChangeSpec := { name := "fnExactChildBenefit", fn := fun _ => fun
  | [d1, d2, d3, d4, d5, d6] => { results := [.lit (.bool true)], args := [d1, d2, d3, d4, d5, d6] }
  | _ => none }
def fnExactChildBenefitRow : OpenClaim := { program := "ytfkndehhepplbaa", sum := "c1a9603801f1b70f516015e141ae0569509c99d1b5615b9afd6dab8e6171ee96", func := "loop.example/g01393/laws.FnExactChildBenefit", spec := "fnExactChildBenefit", unfollowed := true, recurses := true, apart := false }
def FnExactChildBenefitSaid : Prop := fnExactChildBenefitRow.holds Try.pinned (OpenSpec.ofChange fnExactChildBenefitSpec)

/-- ITS FALSE NEIGHBOUR: 'it returns false'. Refute it at one input. -/
def fnExactChildBenefitWrong : ChangeSpec := { name := "fnExactChildBenefit", fn := fun _ => fun
  | [d1, d2, d3, d4, d5, d6] => { results := [.lit (.bool false)], args := [d1, d2, d3, d4, d5, d6] }
  | _ => none }
def FnExactChildBenefitWrongFalsely : Prop := fnExactChildBenefitRow.holds Try.pinned (OpenSpec.ofChange fnExactChildBenefitWrong)

/- THE SECOND FORM. 'bulk': how many values and letters a reading holds, each counted each time it is reached (what is shared counts as often as it is met; a slice's spare places count too). A statement '..UptoSaid' is the law's where the arguments, and the package variables that the reading takes, are together of bulk at most 1048576: NARROWER than '..Said'. Prove '..Said' where nothing that the law and all that it calls make is longer than what came in: it says more and counts as full. Else prove '..UptoSaid'. A law counts once. -/
mutual
def uptoBulk {H : Type} : DataW H → Nat
  | .lit (.string bytes) => bytes.length + 1
  | .lit _ => 1
  | .nil => 1
  | .ptr d => uptoBulk d + 1
  | .slice elems spare => uptoBulkAll elems + uptoBulkAll spare + 1
  | .agg parts => uptoBulkAll parts + 1
  | .iface _ d => uptoBulk d + 1
  | .map entries => uptoBulkEntries entries + 1
  | .held _ => 1
def uptoBulkAll {H : Type} : List (DataW H) → Nat
  | [] => 0
  | d :: r => uptoBulk d + uptoBulkAll r
def uptoBulkEntries {H : Type} : List (Lit × DataW H) → Nat
  | [] => 0
  | x :: r => uptoBulkEntry x + uptoBulkEntries r
def uptoBulkEntry {H : Type} : Lit × DataW H → Nat
  | (.string bytes, d) => bytes.length + uptoBulk d + 1
  | (_, d) => uptoBulk d + 1
 end
def uptoSmall : (H : Type) → List (DataW H) → Bool := fun _ ds => decide (uptoBulkAll ds ≤ 1048576)
def OpenSpec.upto (s : _root_.Go.ChangeSpec) : _root_.Go.OpenSpec := { _root_.Go.OpenSpec.ofChange s with cond := some uptoSmall }

/-- 'laws.FnExactNetOfPrice', WHERE WHAT IT READS IS OF BULK AT MOST 1048576: true; the input reads as it did. -/
def fnExactNetOfPriceUptoRow : OpenClaim := { program := "ytfkndehhepplbaa", sum := "c1a9603801f1b70f516015e141ae0569509c99d1b5615b9afd6dab8e6171ee96", func := "loop.example/g01393/laws.FnExactNetOfPrice", spec := "fnExactNetOfPrice", apart := false, narrowed := true }
def FnExactNetOfPriceUptoSaid : Prop := fnExactNetOfPriceUptoRow.holds Try.pinned (OpenSpec.upto fnExactNetOfPriceSpec)

/-- 'laws.FnExactIsOrigin', WHERE WHAT IT READS IS OF BULK AT MOST 1048576: true; the input reads as it did. -/
def fnExactIsOriginUptoRow : OpenClaim := { program := "ytfkndehhepplbaa", sum := "c1a9603801f1b70f516015e141ae0569509c99d1b5615b9afd6dab8e6171ee96", func := "loop.example/g01393/laws.FnExactIsOrigin", spec := "fnExactIsOrigin", unfollowed := true, recurses := true, apart := false, narrowed := true }
def FnExactIsOriginUptoSaid : Prop := fnExactIsOriginUptoRow.holds Try.pinned (OpenSpec.upto fnExactIsOriginSpec)

/-- 'laws.FnExactCreditLimit', WHERE WHAT IT READS IS OF BULK AT MOST 1048576: true; the input reads as it did. -/
def fnExactCreditLimitUptoRow : OpenClaim := { program := "ytfkndehhepplbaa", sum := "c1a9603801f1b70f516015e141ae0569509c99d1b5615b9afd6dab8e6171ee96", func := "loop.example/g01393/laws.FnExactCreditLimit", spec := "fnExactCreditLimit", apart := false, narrowed := true }
def FnExactCreditLimitUptoSaid : Prop := fnExactCreditLimitUptoRow.holds Try.pinned (OpenSpec.upto fnExactCreditLimitSpec)

/-- 'laws.FnExactValidTariff', WHERE WHAT IT READS IS OF BULK AT MOST 1048576: true; the input reads as it did. -/
def fnExactValidTariffUptoRow : OpenClaim := { program := "ytfkndehhepplbaa", sum := "c1a9603801f1b70f516015e141ae0569509c99d1b5615b9afd6dab8e6171ee96", func := "loop.example/g01393/laws.FnExactValidTariff", spec := "fnExactValidTariff", apart := false, narrowed := true }
def FnExactValidTariffUptoSaid : Prop := fnExactValidTariffUptoRow.holds Try.pinned (OpenSpec.upto fnExactValidTariffSpec)

/-- 'laws.FnExactCustomsDue', WHERE WHAT IT READS IS OF BULK AT MOST 1048576: true; the input reads as it did. -/
def fnExactCustomsDueUptoRow : OpenClaim := { program := "ytfkndehhepplbaa", sum := "c1a9603801f1b70f516015e141ae0569509c99d1b5615b9afd6dab8e6171ee96", func := "loop.example/g01393/laws.FnExactCustomsDue", spec := "fnExactCustomsDue", apart := false, narrowed := true }
def FnExactCustomsDueUptoSaid : Prop := fnExactCustomsDueUptoRow.holds Try.pinned (OpenSpec.upto fnExactCustomsDueSpec)

/-- 'laws.FnExactBestTariff', WHERE WHAT IT READS IS OF BULK AT MOST 1048576: true; the input reads as it did. -/
def fnExactBestTariffUptoRow : OpenClaim := { program := "ytfkndehhepplbaa", sum := "c1a9603801f1b70f516015e141ae0569509c99d1b5615b9afd6dab8e6171ee96", func := "loop.example/g01393/laws.FnExactBestTariff", spec := "fnExactBestTariff", apart := false, narrowed := true }
def FnExactBestTariffUptoSaid : Prop := fnExactBestTariffUptoRow.holds Try.pinned (OpenSpec.upto fnExactBestTariffSpec)

/-- 'laws.FnExactRefundShare', WHERE WHAT IT READS IS OF BULK AT MOST 1048576: true; the input reads as it did. -/
def fnExactRefundShareUptoRow : OpenClaim := { program := "ytfkndehhepplbaa", sum := "c1a9603801f1b70f516015e141ae0569509c99d1b5615b9afd6dab8e6171ee96", func := "loop.example/g01393/laws.FnExactRefundShare", spec := "fnExactRefundShare", unfollowed := true, recurses := true, apart := false, narrowed := true }
def FnExactRefundShareUptoSaid : Prop := fnExactRefundShareUptoRow.holds Try.pinned (OpenSpec.upto fnExactRefundShareSpec)

/-- 'laws.FnExactChainDues', WHERE WHAT IT READS IS OF BULK AT MOST 1048576: true; the input reads as it did. -/
def fnExactChainDuesUptoRow : OpenClaim := { program := "ytfkndehhepplbaa", sum := "c1a9603801f1b70f516015e141ae0569509c99d1b5615b9afd6dab8e6171ee96", func := "loop.example/g01393/laws.FnExactChainDues", spec := "fnExactChainDues", unfollowed := true, recurses := true, apart := false, narrowed := true }
def FnExactChainDuesUptoSaid : Prop := fnExactChainDuesUptoRow.holds Try.pinned (OpenSpec.upto fnExactChainDuesSpec)

/-- 'laws.FnExactLineDues', WHERE WHAT IT READS IS OF BULK AT MOST 1048576: true; the input reads as it did. -/
def fnExactLineDuesUptoRow : OpenClaim := { program := "ytfkndehhepplbaa", sum := "c1a9603801f1b70f516015e141ae0569509c99d1b5615b9afd6dab8e6171ee96", func := "loop.example/g01393/laws.FnExactLineDues", spec := "fnExactLineDues", unfollowed := true, recurses := true, apart := false, narrowed := true }
def FnExactLineDuesUptoSaid : Prop := fnExactLineDuesUptoRow.holds Try.pinned (OpenSpec.upto fnExactLineDuesSpec)

/-- 'laws.FnExactSplitDue', WHERE WHAT IT READS IS OF BULK AT MOST 1048576: true; the input reads as it did. -/
def fnExactSplitDueUptoRow : OpenClaim := { program := "ytfkndehhepplbaa", sum := "c1a9603801f1b70f516015e141ae0569509c99d1b5615b9afd6dab8e6171ee96", func := "loop.example/g01393/laws.FnExactSplitDue", spec := "fnExactSplitDue", unfollowed := true, recurses := true, apart := false, narrowed := true }
def FnExactSplitDueUptoSaid : Prop := fnExactSplitDueUptoRow.holds Try.pinned (OpenSpec.upto fnExactSplitDueSpec)

/-- 'laws.FnExactPartsDue', WHERE WHAT IT READS IS OF BULK AT MOST 1048576: true; the input reads as it did. -/
def fnExactPartsDueUptoRow : OpenClaim := { program := "ytfkndehhepplbaa", sum := "c1a9603801f1b70f516015e141ae0569509c99d1b5615b9afd6dab8e6171ee96", func := "loop.example/g01393/laws.FnExactPartsDue", spec := "fnExactPartsDue", unfollowed := true, recurses := true, apart := false, narrowed := true }
def FnExactPartsDueUptoSaid : Prop := fnExactPartsDueUptoRow.holds Try.pinned (OpenSpec.upto fnExactPartsDueSpec)

/-- 'laws.FnExactChildBenefit', WHERE WHAT IT READS IS OF BULK AT MOST 1048576: true; the input reads as it did. -/
def fnExactChildBenefitUptoRow : OpenClaim := { program := "ytfkndehhepplbaa", sum := "c1a9603801f1b70f516015e141ae0569509c99d1b5615b9afd6dab8e6171ee96", func := "loop.example/g01393/laws.FnExactChildBenefit", spec := "fnExactChildBenefit", unfollowed := true, recurses := true, apart := false, narrowed := true }
def FnExactChildBenefitUptoSaid : Prop := fnExactChildBenefitUptoRow.holds Try.pinned (OpenSpec.upto fnExactChildBenefitSpec)

end Rows
end Go.Proofs.Ytfkndehhepplbaa
