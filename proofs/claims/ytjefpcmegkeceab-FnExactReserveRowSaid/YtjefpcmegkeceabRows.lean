/-
  No cell of these rows narrows 'for every input' (looked for: loops, veiled, ifaces, maps, wideKeys, modest, calm, conditions, laid).
  DERIVED. THE GIVEN ROWS OF THIS SEAT. 12 by the template 'for every input the law returns true; each argument reads behind the call as it read before'; 0 by the template 'total and deterministic' (their statements: YtjefpcmegkeceabTotals.lean).
  GIVEN WITH THE SEED: the statements are not yours to turn. If you find one false, say at which input.
  Laid BY PROGRAM, IN A SANDBOX (cutbox-rows.mjs): the forced cells as the released guide's own fill.sh prints them over the translation 0b748fd0a6f5f067… (all of the seat's roots in one cut). By AI agents, Wed Nov 11 2026. No macro, syntax, notation, axiom, sorry.
-/
import Derived.Test.YtjefpcmegkeceabChecked
import GoSem.Claim
import GoSem.ClaimJoined
import GoSem.ClaimMapViews
import Derived.JoinedTies
import Derived.KernelRfl
namespace Go.Proofs.Ytjefpcmegkeceab
/- THE CELL 'sum', in the pinned program and in every row, IS THE sha256 OF THE DUMP (.gsa) THAT YtjefpcmegkeceabProg.lean LOADS. Nothing in Lean hashes anything: it is a label: what it is worth is what the hold of that sum in a sandbox is worth. -/
noncomputable def Try.pinned : Pinned := { name := "ytjefpcmegkeceab", sum := "0b748fd0a6f5f067bce1edb71a65a0f6dc980fdbf14b9513eec00f2cc7586e7f", checked := Try.checked }
namespace Rows
def none {H : Type} : Left H := { results := [], args := [] }

/-- 'laws.FnExactAliveShares': WHATEVER THE INPUT: true; the input reads as it did. -/
def fnExactAliveSharesSpec : ChangeSpec := { name := "fnExactAliveShares", fn := fun _ => fun
  | [d] => { results := [.lit (.bool true)], args := [d] }
  | _ => none }
def fnExactAliveSharesRow : OpenClaim := { program := "ytjefpcmegkeceab", sum := "0b748fd0a6f5f067bce1edb71a65a0f6dc980fdbf14b9513eec00f2cc7586e7f", func := "loop.example/g01393/laws.FnExactAliveShares", spec := "fnExactAliveShares", unfollowed := true, recurses := true, apart := false }
def FnExactAliveSharesSaid : Prop := fnExactAliveSharesRow.holds Try.pinned (OpenSpec.ofChange fnExactAliveSharesSpec)

/-- ITS FALSE NEIGHBOUR: 'it returns false'. Refute it at one input. -/
def fnExactAliveSharesWrong : ChangeSpec := { name := "fnExactAliveShares", fn := fun _ => fun
  | [d] => { results := [.lit (.bool false)], args := [d] }
  | _ => none }
def FnExactAliveSharesWrongFalsely : Prop := fnExactAliveSharesRow.holds Try.pinned (OpenSpec.ofChange fnExactAliveSharesWrong)

/-- 'laws.FnExactYearsToLive': WHATEVER THE INPUT: true; the input reads as it did. -/
def fnExactYearsToLiveSpec : ChangeSpec := { name := "fnExactYearsToLive", fn := fun _ => fun
  | [d] => { results := [.lit (.bool true)], args := [d] }
  | _ => none }
def fnExactYearsToLiveRow : OpenClaim := { program := "ytjefpcmegkeceab", sum := "0b748fd0a6f5f067bce1edb71a65a0f6dc980fdbf14b9513eec00f2cc7586e7f", func := "loop.example/g01393/laws.FnExactYearsToLive", spec := "fnExactYearsToLive", unfollowed := true, recurses := true, apart := false }
def FnExactYearsToLiveSaid : Prop := fnExactYearsToLiveRow.holds Try.pinned (OpenSpec.ofChange fnExactYearsToLiveSpec)

/-- ITS FALSE NEIGHBOUR: 'it returns false'. Refute it at one input. -/
def fnExactYearsToLiveWrong : ChangeSpec := { name := "fnExactYearsToLive", fn := fun _ => fun
  | [d] => { results := [.lit (.bool false)], args := [d] }
  | _ => none }
def FnExactYearsToLiveWrongFalsely : Prop := fnExactYearsToLiveRow.holds Try.pinned (OpenSpec.ofChange fnExactYearsToLiveWrong)

/-- 'laws.FnExactAnnuityValue': WHATEVER THE INPUT: true; the input reads as it did. -/
def fnExactAnnuityValueSpec : ChangeSpec := { name := "fnExactAnnuityValue", fn := fun _ => fun
  | [d1, d2] => { results := [.lit (.bool true)], args := [d1, d2] }
  | _ => none }
def fnExactAnnuityValueRow : OpenClaim := { program := "ytjefpcmegkeceab", sum := "0b748fd0a6f5f067bce1edb71a65a0f6dc980fdbf14b9513eec00f2cc7586e7f", func := "loop.example/g01393/laws.FnExactAnnuityValue", spec := "fnExactAnnuityValue", unfollowed := true, recurses := true, apart := false }
def FnExactAnnuityValueSaid : Prop := fnExactAnnuityValueRow.holds Try.pinned (OpenSpec.ofChange fnExactAnnuityValueSpec)

/-- ITS FALSE NEIGHBOUR: 'it returns false'. Refute it at one input. -/
def fnExactAnnuityValueWrong : ChangeSpec := { name := "fnExactAnnuityValue", fn := fun _ => fun
  | [d1, d2] => { results := [.lit (.bool false)], args := [d1, d2] }
  | _ => none }
def FnExactAnnuityValueWrongFalsely : Prop := fnExactAnnuityValueRow.holds Try.pinned (OpenSpec.ofChange fnExactAnnuityValueWrong)

/-- 'laws.FnExactLaterValue': WHATEVER THE INPUT: true; the input reads as it did. -/
def fnExactLaterValueSpec : ChangeSpec := { name := "fnExactLaterValue", fn := fun _ => fun
  | [d1, d2, d3] => { results := [.lit (.bool true)], args := [d1, d2, d3] }
  | _ => none }
def fnExactLaterValueRow : OpenClaim := { program := "ytjefpcmegkeceab", sum := "0b748fd0a6f5f067bce1edb71a65a0f6dc980fdbf14b9513eec00f2cc7586e7f", func := "loop.example/g01393/laws.FnExactLaterValue", spec := "fnExactLaterValue", unfollowed := true, recurses := true, apart := false }
def FnExactLaterValueSaid : Prop := fnExactLaterValueRow.holds Try.pinned (OpenSpec.ofChange fnExactLaterValueSpec)

/-- ITS FALSE NEIGHBOUR: 'it returns false'. Refute it at one input. -/
def fnExactLaterValueWrong : ChangeSpec := { name := "fnExactLaterValue", fn := fun _ => fun
  | [d1, d2, d3] => { results := [.lit (.bool false)], args := [d1, d2, d3] }
  | _ => none }
def FnExactLaterValueWrongFalsely : Prop := fnExactLaterValueRow.holds Try.pinned (OpenSpec.ofChange fnExactLaterValueWrong)

/-- 'laws.FnExactReserveRow': WHATEVER THE INPUT: true; the input reads as it did. -/
def fnExactReserveRowSpec : ChangeSpec := { name := "fnExactReserveRow", fn := fun _ => fun
  | [d1, d2] => { results := [.lit (.bool true)], args := [d1, d2] }
  | _ => none }
def fnExactReserveRowRow : OpenClaim := { program := "ytjefpcmegkeceab", sum := "0b748fd0a6f5f067bce1edb71a65a0f6dc980fdbf14b9513eec00f2cc7586e7f", func := "loop.example/g01393/laws.FnExactReserveRow", spec := "fnExactReserveRow", unfollowed := true, recurses := true, apart := false }
def FnExactReserveRowSaid : Prop := fnExactReserveRowRow.holds Try.pinned (OpenSpec.ofChange fnExactReserveRowSpec)

/-- ITS FALSE NEIGHBOUR: 'it returns false'. Refute it at one input. -/
def fnExactReserveRowWrong : ChangeSpec := { name := "fnExactReserveRow", fn := fun _ => fun
  | [d1, d2] => { results := [.lit (.bool false)], args := [d1, d2] }
  | _ => none }
def FnExactReserveRowWrongFalsely : Prop := fnExactReserveRowRow.holds Try.pinned (OpenSpec.ofChange fnExactReserveRowWrong)

/-- 'laws.FnExactJointValue': WHATEVER THE INPUT: true; the input reads as it did. -/
def fnExactJointValueSpec : ChangeSpec := { name := "fnExactJointValue", fn := fun _ => fun
  | [d1, d2, d3, d4] => { results := [.lit (.bool true)], args := [d1, d2, d3, d4] }
  | _ => none }
def fnExactJointValueRow : OpenClaim := { program := "ytjefpcmegkeceab", sum := "0b748fd0a6f5f067bce1edb71a65a0f6dc980fdbf14b9513eec00f2cc7586e7f", func := "loop.example/g01393/laws.FnExactJointValue", spec := "fnExactJointValue", unfollowed := true, recurses := true, apart := false }
def FnExactJointValueSaid : Prop := fnExactJointValueRow.holds Try.pinned (OpenSpec.ofChange fnExactJointValueSpec)

/-- ITS FALSE NEIGHBOUR: 'it returns false'. Refute it at one input. -/
def fnExactJointValueWrong : ChangeSpec := { name := "fnExactJointValue", fn := fun _ => fun
  | [d1, d2, d3, d4] => { results := [.lit (.bool false)], args := [d1, d2, d3, d4] }
  | _ => none }
def FnExactJointValueWrongFalsely : Prop := fnExactJointValueRow.holds Try.pinned (OpenSpec.ofChange fnExactJointValueWrong)

/-- 'laws.FnExactAnnuityPay': WHATEVER THE INPUT: true; the input reads as it did. -/
def fnExactAnnuityPaySpec : ChangeSpec := { name := "fnExactAnnuityPay", fn := fun _ => fun
  | [d1, d2, d3] => { results := [.lit (.bool true)], args := [d1, d2, d3] }
  | _ => none }
def fnExactAnnuityPayRow : OpenClaim := { program := "ytjefpcmegkeceab", sum := "0b748fd0a6f5f067bce1edb71a65a0f6dc980fdbf14b9513eec00f2cc7586e7f", func := "loop.example/g01393/laws.FnExactAnnuityPay", spec := "fnExactAnnuityPay", unfollowed := true, recurses := true, apart := false }
def FnExactAnnuityPaySaid : Prop := fnExactAnnuityPayRow.holds Try.pinned (OpenSpec.ofChange fnExactAnnuityPaySpec)

/-- ITS FALSE NEIGHBOUR: 'it returns false'. Refute it at one input. -/
def fnExactAnnuityPayWrong : ChangeSpec := { name := "fnExactAnnuityPay", fn := fun _ => fun
  | [d1, d2, d3] => { results := [.lit (.bool false)], args := [d1, d2, d3] }
  | _ => none }
def FnExactAnnuityPayWrongFalsely : Prop := fnExactAnnuityPayRow.holds Try.pinned (OpenSpec.ofChange fnExactAnnuityPayWrong)

/-- 'laws.FnExactTimeReturn': WHATEVER THE INPUT: true; the input reads as it did. -/
def fnExactTimeReturnSpec : ChangeSpec := { name := "fnExactTimeReturn", fn := fun _ => fun
  | [d] => { results := [.lit (.bool true)], args := [d] }
  | _ => none }
def fnExactTimeReturnRow : OpenClaim := { program := "ytjefpcmegkeceab", sum := "0b748fd0a6f5f067bce1edb71a65a0f6dc980fdbf14b9513eec00f2cc7586e7f", func := "loop.example/g01393/laws.FnExactTimeReturn", spec := "fnExactTimeReturn", inPlace := ["math.Float64frombits", "math.Float64bits", "math.Float32frombits"], unfollowed := true, recurses := true, apart := false }
def FnExactTimeReturnSaid : Prop := fnExactTimeReturnRow.holds Try.pinned (OpenSpec.ofChange fnExactTimeReturnSpec)

/-- ITS FALSE NEIGHBOUR: 'it returns false'. Refute it at one input. -/
def fnExactTimeReturnWrong : ChangeSpec := { name := "fnExactTimeReturn", fn := fun _ => fun
  | [d] => { results := [.lit (.bool false)], args := [d] }
  | _ => none }
def FnExactTimeReturnWrongFalsely : Prop := fnExactTimeReturnRow.holds Try.pinned (OpenSpec.ofChange fnExactTimeReturnWrong)

/-- 'laws.FnExactValueOfFlows': WHATEVER THE INPUT: true; the input reads as it did. -/
def fnExactValueOfFlowsSpec : ChangeSpec := { name := "fnExactValueOfFlows", fn := fun _ => fun
  | [d1, d2] => { results := [.lit (.bool true)], args := [d1, d2] }
  | _ => none }
def fnExactValueOfFlowsRow : OpenClaim := { program := "ytjefpcmegkeceab", sum := "0b748fd0a6f5f067bce1edb71a65a0f6dc980fdbf14b9513eec00f2cc7586e7f", func := "loop.example/g01393/laws.FnExactValueOfFlows", spec := "fnExactValueOfFlows", unfollowed := true, recurses := true, apart := false }
def FnExactValueOfFlowsSaid : Prop := fnExactValueOfFlowsRow.holds Try.pinned (OpenSpec.ofChange fnExactValueOfFlowsSpec)

/-- ITS FALSE NEIGHBOUR: 'it returns false'. Refute it at one input. -/
def fnExactValueOfFlowsWrong : ChangeSpec := { name := "fnExactValueOfFlows", fn := fun _ => fun
  | [d1, d2] => { results := [.lit (.bool false)], args := [d1, d2] }
  | _ => none }
def FnExactValueOfFlowsWrongFalsely : Prop := fnExactValueOfFlowsRow.holds Try.pinned (OpenSpec.ofChange fnExactValueOfFlowsWrong)

/-- 'laws.FnExactInnerRate': WHATEVER THE INPUT: true; the input reads as it did. -/
def fnExactInnerRateSpec : ChangeSpec := { name := "fnExactInnerRate", fn := fun _ => fun
  | [d1, d2] => { results := [.lit (.bool true)], args := [d1, d2] }
  | _ => none }
def fnExactInnerRateRow : OpenClaim := { program := "ytjefpcmegkeceab", sum := "0b748fd0a6f5f067bce1edb71a65a0f6dc980fdbf14b9513eec00f2cc7586e7f", func := "loop.example/g01393/laws.FnExactInnerRate", spec := "fnExactInnerRate", unfollowed := true, recurses := true, apart := false }
def FnExactInnerRateSaid : Prop := fnExactInnerRateRow.holds Try.pinned (OpenSpec.ofChange fnExactInnerRateSpec)

/-- ITS FALSE NEIGHBOUR: 'it returns false'. Refute it at one input. -/
def fnExactInnerRateWrong : ChangeSpec := { name := "fnExactInnerRate", fn := fun _ => fun
  | [d1, d2] => { results := [.lit (.bool false)], args := [d1, d2] }
  | _ => none }
def FnExactInnerRateWrongFalsely : Prop := fnExactInnerRateRow.holds Try.pinned (OpenSpec.ofChange fnExactInnerRateWrong)

/-- 'laws.FnExactCountMonths': WHATEVER THE INPUT: true; the input reads as it did. -/
def fnExactCountMonthsSpec : ChangeSpec := { name := "fnExactCountMonths", fn := fun _ => fun
  | [d] => { results := [.lit (.bool true)], args := [d] }
  | _ => none }
def fnExactCountMonthsRow : OpenClaim := { program := "ytjefpcmegkeceab", sum := "0b748fd0a6f5f067bce1edb71a65a0f6dc980fdbf14b9513eec00f2cc7586e7f", func := "loop.example/g01393/laws.FnExactCountMonths", spec := "fnExactCountMonths", unfollowed := true, recurses := true, apart := false }
def FnExactCountMonthsSaid : Prop := fnExactCountMonthsRow.holds Try.pinned (OpenSpec.ofChange fnExactCountMonthsSpec)

/-- ITS FALSE NEIGHBOUR: 'it returns false'. Refute it at one input. -/
def fnExactCountMonthsWrong : ChangeSpec := { name := "fnExactCountMonths", fn := fun _ => fun
  | [d] => { results := [.lit (.bool false)], args := [d] }
  | _ => none }
def FnExactCountMonthsWrongFalsely : Prop := fnExactCountMonthsRow.holds Try.pinned (OpenSpec.ofChange fnExactCountMonthsWrong)

/-- 'laws.FnExactGapsOf': WHATEVER THE INPUT: true; the input reads as it did. -/
def fnExactGapsOfSpec : ChangeSpec := { name := "fnExactGapsOf", fn := fun _ => fun
  | [d] => { results := [.lit (.bool true)], args := [d] }
  | _ => none }
def fnExactGapsOfRow : OpenClaim := { program := "ytjefpcmegkeceab", sum := "0b748fd0a6f5f067bce1edb71a65a0f6dc980fdbf14b9513eec00f2cc7586e7f", func := "loop.example/g01393/laws.FnExactGapsOf", spec := "fnExactGapsOf", unfollowed := true, recurses := true, apart := false }
def FnExactGapsOfSaid : Prop := fnExactGapsOfRow.holds Try.pinned (OpenSpec.ofChange fnExactGapsOfSpec)

/-- ITS FALSE NEIGHBOUR: 'it returns false'. Refute it at one input. -/
def fnExactGapsOfWrong : ChangeSpec := { name := "fnExactGapsOf", fn := fun _ => fun
  | [d] => { results := [.lit (.bool false)], args := [d] }
  | _ => none }
def FnExactGapsOfWrongFalsely : Prop := fnExactGapsOfRow.holds Try.pinned (OpenSpec.ofChange fnExactGapsOfWrong)

/- THE SECOND FORM. 'bulk': how many values and letters a reading holds, each counted each time it is reached (what is shared counts as often as it is met; a slice's spare places count too). A statement '..UptoSaid' is the law's where the arguments, and the package variables that the reading takes, are together of bulk at most 1048576: NARROWER than '..Said'. Prove '..Said' where nothing that the law and all that it calls make is longer than what came in: it says more and counts as full. Else prove '..UptoSaid'. A law counts once. -/
mutual
def uptoBulk {H : Type} : DataW H → Nat
  | .lit (.string bytes) => bytes.length + 1
  | .lit _ => 1
  | .nil => 1
  | .ptr d => uptoBulk d + 1
  | .slice elems spare => uptoBulkAll elems + uptoBulkAll spare + 1
  | .agg parts => uptoBulkAll parts + 1
  | .iface _ d => uptoBulk d + 1
  | .map entries => uptoBulkEntries entries + 1
  | .held _ => 1
def uptoBulkAll {H : Type} : List (DataW H) → Nat
  | [] => 0
  | d :: r => uptoBulk d + uptoBulkAll r
def uptoBulkEntries {H : Type} : List (Lit × DataW H) → Nat
  | [] => 0
  | x :: r => uptoBulkEntry x + uptoBulkEntries r
def uptoBulkEntry {H : Type} : Lit × DataW H → Nat
  | (.string bytes, d) => bytes.length + uptoBulk d + 1
  | (_, d) => uptoBulk d + 1
 end
def uptoSmall : (H : Type) → List (DataW H) → Bool := fun _ ds => decide (uptoBulkAll ds ≤ 1048576)
def OpenSpec.upto (s : _root_.Go.ChangeSpec) : _root_.Go.OpenSpec := { _root_.Go.OpenSpec.ofChange s with cond := some uptoSmall }

/-- 'laws.FnExactAliveShares', WHERE WHAT IT READS IS OF BULK AT MOST 1048576: true; the input reads as it did. -/
def fnExactAliveSharesUptoRow : OpenClaim := { program := "ytjefpcmegkeceab", sum := "0b748fd0a6f5f067bce1edb71a65a0f6dc980fdbf14b9513eec00f2cc7586e7f", func := "loop.example/g01393/laws.FnExactAliveShares", spec := "fnExactAliveShares", unfollowed := true, recurses := true, apart := false, narrowed := true }
def FnExactAliveSharesUptoSaid : Prop := fnExactAliveSharesUptoRow.holds Try.pinned (OpenSpec.upto fnExactAliveSharesSpec)

/-- 'laws.FnExactYearsToLive', WHERE WHAT IT READS IS OF BULK AT MOST 1048576: true; the input reads as it did. -/
def fnExactYearsToLiveUptoRow : OpenClaim := { program := "ytjefpcmegkeceab", sum := "0b748fd0a6f5f067bce1edb71a65a0f6dc980fdbf14b9513eec00f2cc7586e7f", func := "loop.example/g01393/laws.FnExactYearsToLive", spec := "fnExactYearsToLive", unfollowed := true, recurses := true, apart := false, narrowed := true }
def FnExactYearsToLiveUptoSaid : Prop := fnExactYearsToLiveUptoRow.holds Try.pinned (OpenSpec.upto fnExactYearsToLiveSpec)

/-- 'laws.FnExactAnnuityValue', WHERE WHAT IT READS IS OF BULK AT MOST 1048576: true; the input reads as it did. -/
def fnExactAnnuityValueUptoRow : OpenClaim := { program := "ytjefpcmegkeceab", sum := "0b748fd0a6f5f067bce1edb71a65a0f6dc980fdbf14b9513eec00f2cc7586e7f", func := "loop.example/g01393/laws.FnExactAnnuityValue", spec := "fnExactAnnuityValue", unfollowed := true, recurses := true, apart := false, narrowed := true }
def FnExactAnnuityValueUptoSaid : Prop := fnExactAnnuityValueUptoRow.holds Try.pinned (OpenSpec.upto fnExactAnnuityValueSpec)

/-- 'laws.FnExactLaterValue', WHERE WHAT IT READS IS OF BULK AT MOST 1048576: true; the input reads as it did. -/
def fnExactLaterValueUptoRow : OpenClaim := { program := "ytjefpcmegkeceab", sum := "0b748fd0a6f5f067bce1edb71a65a0f6dc980fdbf14b9513eec00f2cc7586e7f", func := "loop.example/g01393/laws.FnExactLaterValue", spec := "fnExactLaterValue", unfollowed := true, recurses := true, apart := false, narrowed := true }
def FnExactLaterValueUptoSaid : Prop := fnExactLaterValueUptoRow.holds Try.pinned (OpenSpec.upto fnExactLaterValueSpec)

/-- 'laws.FnExactReserveRow', WHERE WHAT IT READS IS OF BULK AT MOST 1048576: true; the input reads as it did. -/
def fnExactReserveRowUptoRow : OpenClaim := { program := "ytjefpcmegkeceab", sum := "0b748fd0a6f5f067bce1edb71a65a0f6dc980fdbf14b9513eec00f2cc7586e7f", func := "loop.example/g01393/laws.FnExactReserveRow", spec := "fnExactReserveRow", unfollowed := true, recurses := true, apart := false, narrowed := true }
def FnExactReserveRowUptoSaid : Prop := fnExactReserveRowUptoRow.holds Try.pinned (OpenSpec.upto fnExactReserveRowSpec)

/-- 'laws.FnExactJointValue', WHERE WHAT IT READS IS OF BULK AT MOST 1048576: true; the input reads as it did. -/
def fnExactJointValueUptoRow : OpenClaim := { program := "ytjefpcmegkeceab", sum := "0b748fd0a6f5f067bce1edb71a65a0f6dc980fdbf14b9513eec00f2cc7586e7f", func := "loop.example/g01393/laws.FnExactJointValue", spec := "fnExactJointValue", unfollowed := true, recurses := true, apart := false, narrowed := true }
def FnExactJointValueUptoSaid : Prop := fnExactJointValueUptoRow.holds Try.pinned (OpenSpec.upto fnExactJointValueSpec)

/-- 'laws.FnExactAnnuityPay', WHERE WHAT IT READS IS OF BULK AT MOST 1048576: true; the input reads as it did. -/
def fnExactAnnuityPayUptoRow : OpenClaim := { program := "ytjefpcmegkeceab", sum := "0b748fd0a6f5f067bce1edb71a65a0f6dc980fdbf14b9513eec00f2cc7586e7f", func := "loop.example/g01393/laws.FnExactAnnuityPay", spec := "fnExactAnnuityPay", unfollowed := true, recurses := true, apart := false, narrowed := true }
def FnExactAnnuityPayUptoSaid : Prop := fnExactAnnuityPayUptoRow.holds Try.pinned (OpenSpec.upto fnExactAnnuityPaySpec)

/-- 'laws.FnExactTimeReturn', WHERE WHAT IT READS IS OF BULK AT MOST 1048576: true; the input reads as it did. -/
def fnExactTimeReturnUptoRow : OpenClaim := { program := "ytjefpcmegkeceab", sum := "0b748fd0a6f5f067bce1edb71a65a0f6dc980fdbf14b9513eec00f2cc7586e7f", func := "loop.example/g01393/laws.FnExactTimeReturn", spec := "fnExactTimeReturn", inPlace := ["math.Float64frombits", "math.Float64bits", "math.Float32frombits"], unfollowed := true, recurses := true, apart := false, narrowed := true }
def FnExactTimeReturnUptoSaid : Prop := fnExactTimeReturnUptoRow.holds Try.pinned (OpenSpec.upto fnExactTimeReturnSpec)

/-- 'laws.FnExactValueOfFlows', WHERE WHAT IT READS IS OF BULK AT MOST 1048576: true; the input reads as it did. -/
def fnExactValueOfFlowsUptoRow : OpenClaim := { program := "ytjefpcmegkeceab", sum := "0b748fd0a6f5f067bce1edb71a65a0f6dc980fdbf14b9513eec00f2cc7586e7f", func := "loop.example/g01393/laws.FnExactValueOfFlows", spec := "fnExactValueOfFlows", unfollowed := true, recurses := true, apart := false, narrowed := true }
def FnExactValueOfFlowsUptoSaid : Prop := fnExactValueOfFlowsUptoRow.holds Try.pinned (OpenSpec.upto fnExactValueOfFlowsSpec)

/-- 'laws.FnExactInnerRate', WHERE WHAT IT READS IS OF BULK AT MOST 1048576: true; the input reads as it did. -/
def fnExactInnerRateUptoRow : OpenClaim := { program := "ytjefpcmegkeceab", sum := "0b748fd0a6f5f067bce1edb71a65a0f6dc980fdbf14b9513eec00f2cc7586e7f", func := "loop.example/g01393/laws.FnExactInnerRate", spec := "fnExactInnerRate", unfollowed := true, recurses := true, apart := false, narrowed := true }
def FnExactInnerRateUptoSaid : Prop := fnExactInnerRateUptoRow.holds Try.pinned (OpenSpec.upto fnExactInnerRateSpec)

/-- 'laws.FnExactCountMonths', WHERE WHAT IT READS IS OF BULK AT MOST 1048576: true; the input reads as it did. -/
def fnExactCountMonthsUptoRow : OpenClaim := { program := "ytjefpcmegkeceab", sum := "0b748fd0a6f5f067bce1edb71a65a0f6dc980fdbf14b9513eec00f2cc7586e7f", func := "loop.example/g01393/laws.FnExactCountMonths", spec := "fnExactCountMonths", unfollowed := true, recurses := true, apart := false, narrowed := true }
def FnExactCountMonthsUptoSaid : Prop := fnExactCountMonthsUptoRow.holds Try.pinned (OpenSpec.upto fnExactCountMonthsSpec)

/-- 'laws.FnExactGapsOf', WHERE WHAT IT READS IS OF BULK AT MOST 1048576: true; the input reads as it did. -/
def fnExactGapsOfUptoRow : OpenClaim := { program := "ytjefpcmegkeceab", sum := "0b748fd0a6f5f067bce1edb71a65a0f6dc980fdbf14b9513eec00f2cc7586e7f", func := "loop.example/g01393/laws.FnExactGapsOf", spec := "fnExactGapsOf", unfollowed := true, recurses := true, apart := false, narrowed := true }
def FnExactGapsOfUptoSaid : Prop := fnExactGapsOfUptoRow.holds Try.pinned (OpenSpec.upto fnExactGapsOfSpec)

end Rows
end Go.Proofs.Ytjefpcmegkeceab
