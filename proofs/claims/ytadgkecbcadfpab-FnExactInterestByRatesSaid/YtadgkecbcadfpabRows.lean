/-
  No cell of these rows narrows 'for every input' (looked for: loops, veiled, ifaces, maps, wideKeys, modest, calm, conditions, laid).
  DERIVED. THE GIVEN ROWS OF THIS SEAT. 12 by the template 'for every input the law returns true; each argument reads behind the call as it read before'; 0 by the template 'total and deterministic' (their statements: YtadgkecbcadfpabTotals.lean).
  GIVEN WITH THE SEED: the statements are not yours to turn. If you find one false, say at which input.
  Laid BY PROGRAM, IN A SANDBOX (cutbox-rows.mjs): the forced cells as the released guide's own fill.sh prints them over the translation aac568d5b07d3f59… (all of the seat's roots in one cut). By AI agents, Wed Nov 11 2026. No macro, syntax, notation, axiom, sorry.
-/
import Derived.Test.YtadgkecbcadfpabChecked
import GoSem.Claim
import GoSem.ClaimJoined
import GoSem.ClaimMapViews
import Derived.JoinedTies
import Derived.KernelRfl
namespace Go.Proofs.Ytadgkecbcadfpab
/- THE CELL 'sum', in the pinned program and in every row, IS THE sha256 OF THE DUMP (.gsa) THAT YtadgkecbcadfpabProg.lean LOADS. Nothing in Lean hashes anything: it is a label: what it is worth is what the hold of that sum in a sandbox is worth. -/
noncomputable def Try.pinned : Pinned := { name := "ytadgkecbcadfpab", sum := "aac568d5b07d3f59e06d3c3b1d937c580f7e7784bb6a44257cdbd97c360a062f", checked := Try.checked }
namespace Rows
def none {H : Type} : Left H := { results := [], args := [] }

/-- 'laws.FnExactBalancesAt': WHATEVER THE INPUT: true; the input reads as it did. -/
def fnExactBalancesAtSpec : ChangeSpec := { name := "fnExactBalancesAt", fn := fun _ => fun
  | [d1, d2] => { results := [.lit (.bool true)], args := [d1, d2] }
  | _ => none }
def fnExactBalancesAtRow : OpenClaim := { program := "ytadgkecbcadfpab", sum := "aac568d5b07d3f59e06d3c3b1d937c580f7e7784bb6a44257cdbd97c360a062f", func := "loop.example/g01393/laws.FnExactBalancesAt", spec := "fnExactBalancesAt", apart := false }
def FnExactBalancesAtSaid : Prop := fnExactBalancesAtRow.holds Try.pinned (OpenSpec.ofChange fnExactBalancesAtSpec)

/-- ITS FALSE NEIGHBOUR: 'it returns false'. Refute it at one input. -/
def fnExactBalancesAtWrong : ChangeSpec := { name := "fnExactBalancesAt", fn := fun _ => fun
  | [d1, d2] => { results := [.lit (.bool false)], args := [d1, d2] }
  | _ => none }
def FnExactBalancesAtWrongFalsely : Prop := fnExactBalancesAtRow.holds Try.pinned (OpenSpec.ofChange fnExactBalancesAtWrong)

/-- 'laws.FnExactUndoEntry': WHATEVER THE INPUT: true; the input reads as it did. -/
def fnExactUndoEntrySpec : ChangeSpec := { name := "fnExactUndoEntry", fn := fun _ => fun
  | [d1, d2, d3] => { results := [.lit (.bool true)], args := [d1, d2, d3] }
  | _ => none }
def fnExactUndoEntryRow : OpenClaim := { program := "ytadgkecbcadfpab", sum := "aac568d5b07d3f59e06d3c3b1d937c580f7e7784bb6a44257cdbd97c360a062f", func := "loop.example/g01393/laws.FnExactUndoEntry", spec := "fnExactUndoEntry", apart := false }
def FnExactUndoEntrySaid : Prop := fnExactUndoEntryRow.holds Try.pinned (OpenSpec.ofChange fnExactUndoEntrySpec)

/-- ITS FALSE NEIGHBOUR: 'it returns false'. Refute it at one input. -/
def fnExactUndoEntryWrong : ChangeSpec := { name := "fnExactUndoEntry", fn := fun _ => fun
  | [d1, d2, d3] => { results := [.lit (.bool false)], args := [d1, d2, d3] }
  | _ => none }
def FnExactUndoEntryWrongFalsely : Prop := fnExactUndoEntryRow.holds Try.pinned (OpenSpec.ofChange fnExactUndoEntryWrong)

/-- 'laws.FnExactSettleAccounts': WHATEVER THE INPUT: true; the input reads as it did. -/
def fnExactSettleAccountsSpec : ChangeSpec := { name := "fnExactSettleAccounts", fn := fun _ => fun
  | [d] => { results := [.lit (.bool true)], args := [d] }
  | _ => none }
def fnExactSettleAccountsRow : OpenClaim := { program := "ytadgkecbcadfpab", sum := "aac568d5b07d3f59e06d3c3b1d937c580f7e7784bb6a44257cdbd97c360a062f", func := "loop.example/g01393/laws.FnExactSettleAccounts", spec := "fnExactSettleAccounts", unfollowed := true, recurses := true, leaving := true, apart := false }
def FnExactSettleAccountsSaid : Prop := fnExactSettleAccountsRow.holds Try.pinned (OpenSpec.ofChange fnExactSettleAccountsSpec)

/-- ITS FALSE NEIGHBOUR: 'it returns false'. Refute it at one input. -/
def fnExactSettleAccountsWrong : ChangeSpec := { name := "fnExactSettleAccounts", fn := fun _ => fun
  | [d] => { results := [.lit (.bool false)], args := [d] }
  | _ => none }
def FnExactSettleAccountsWrongFalsely : Prop := fnExactSettleAccountsRow.holds Try.pinned (OpenSpec.ofChange fnExactSettleAccountsWrong)

/-- 'laws.FnExactCarryLosses': WHATEVER THE INPUT: true; the input reads as it did. -/
def fnExactCarryLossesSpec : ChangeSpec := { name := "fnExactCarryLosses", fn := fun _ => fun
  | [d1, d2, d3] => { results := [.lit (.bool true)], args := [d1, d2, d3] }
  | _ => none }
def fnExactCarryLossesRow : OpenClaim := { program := "ytadgkecbcadfpab", sum := "aac568d5b07d3f59e06d3c3b1d937c580f7e7784bb6a44257cdbd97c360a062f", func := "loop.example/g01393/laws.FnExactCarryLosses", spec := "fnExactCarryLosses", unfollowed := true, recurses := true, leaving := true, apart := false }
def FnExactCarryLossesSaid : Prop := fnExactCarryLossesRow.holds Try.pinned (OpenSpec.ofChange fnExactCarryLossesSpec)

/-- ITS FALSE NEIGHBOUR: 'it returns false'. Refute it at one input. -/
def fnExactCarryLossesWrong : ChangeSpec := { name := "fnExactCarryLosses", fn := fun _ => fun
  | [d1, d2, d3] => { results := [.lit (.bool false)], args := [d1, d2, d3] }
  | _ => none }
def FnExactCarryLossesWrongFalsely : Prop := fnExactCarryLossesRow.holds Try.pinned (OpenSpec.ofChange fnExactCarryLossesWrong)

/-- 'laws.FnExactSplitCents': WHATEVER THE INPUT: true; the input reads as it did. -/
def fnExactSplitCentsSpec : ChangeSpec := { name := "fnExactSplitCents", fn := fun _ => fun
  | [d1, d2] => { results := [.lit (.bool true)], args := [d1, d2] }
  | _ => none }
def fnExactSplitCentsRow : OpenClaim := { program := "ytadgkecbcadfpab", sum := "aac568d5b07d3f59e06d3c3b1d937c580f7e7784bb6a44257cdbd97c360a062f", func := "loop.example/g01393/laws.FnExactSplitCents", spec := "fnExactSplitCents", unfollowed := true, recurses := true, named := ["math/bits.divideError", "math/bits.overflowError"], leaving := true, apart := false }
def FnExactSplitCentsSaid : Prop := fnExactSplitCentsRow.holds Try.pinned (OpenSpec.ofChange fnExactSplitCentsSpec)

/-- ITS FALSE NEIGHBOUR: 'it returns false'. Refute it at one input. -/
def fnExactSplitCentsWrong : ChangeSpec := { name := "fnExactSplitCents", fn := fun _ => fun
  | [d1, d2] => { results := [.lit (.bool false)], args := [d1, d2] }
  | _ => none }
def FnExactSplitCentsWrongFalsely : Prop := fnExactSplitCentsRow.holds Try.pinned (OpenSpec.ofChange fnExactSplitCentsWrong)

/-- 'laws.FnExactSplitInTurn': WHATEVER THE INPUT: true; the input reads as it did. -/
def fnExactSplitInTurnSpec : ChangeSpec := { name := "fnExactSplitInTurn", fn := fun _ => fun
  | [d1, d2] => { results := [.lit (.bool true)], args := [d1, d2] }
  | _ => none }
def fnExactSplitInTurnRow : OpenClaim := { program := "ytadgkecbcadfpab", sum := "aac568d5b07d3f59e06d3c3b1d937c580f7e7784bb6a44257cdbd97c360a062f", func := "loop.example/g01393/laws.FnExactSplitInTurn", spec := "fnExactSplitInTurn", unfollowed := true, recurses := true, leaving := true, apart := false }
def FnExactSplitInTurnSaid : Prop := fnExactSplitInTurnRow.holds Try.pinned (OpenSpec.ofChange fnExactSplitInTurnSpec)

/-- ITS FALSE NEIGHBOUR: 'it returns false'. Refute it at one input. -/
def fnExactSplitInTurnWrong : ChangeSpec := { name := "fnExactSplitInTurn", fn := fun _ => fun
  | [d1, d2] => { results := [.lit (.bool false)], args := [d1, d2] }
  | _ => none }
def FnExactSplitInTurnWrongFalsely : Prop := fnExactSplitInTurnRow.holds Try.pinned (OpenSpec.ofChange fnExactSplitInTurnWrong)

/-- 'laws.FnExactEvenParts': WHATEVER THE INPUT: true; the input reads as it did. -/
def fnExactEvenPartsSpec : ChangeSpec := { name := "fnExactEvenParts", fn := fun _ => fun
  | [d1, d2] => { results := [.lit (.bool true)], args := [d1, d2] }
  | _ => none }
def fnExactEvenPartsRow : OpenClaim := { program := "ytadgkecbcadfpab", sum := "aac568d5b07d3f59e06d3c3b1d937c580f7e7784bb6a44257cdbd97c360a062f", func := "loop.example/g01393/laws.FnExactEvenParts", spec := "fnExactEvenParts", unfollowed := true, recurses := true, named := ["math/bits.divideError", "math/bits.overflowError"], leaving := true, apart := false }
def FnExactEvenPartsSaid : Prop := fnExactEvenPartsRow.holds Try.pinned (OpenSpec.ofChange fnExactEvenPartsSpec)

/-- ITS FALSE NEIGHBOUR: 'it returns false'. Refute it at one input. -/
def fnExactEvenPartsWrong : ChangeSpec := { name := "fnExactEvenParts", fn := fun _ => fun
  | [d1, d2] => { results := [.lit (.bool false)], args := [d1, d2] }
  | _ => none }
def FnExactEvenPartsWrongFalsely : Prop := fnExactEvenPartsRow.holds Try.pinned (OpenSpec.ofChange fnExactEvenPartsWrong)

/-- 'laws.FnExactLoanTable': WHATEVER THE INPUT: true; the input reads as it did. -/
def fnExactLoanTableSpec : ChangeSpec := { name := "fnExactLoanTable", fn := fun _ => fun
  | [d1, d2, d3, d4] => { results := [.lit (.bool true)], args := [d1, d2, d3, d4] }
  | _ => none }
def fnExactLoanTableRow : OpenClaim := { program := "ytadgkecbcadfpab", sum := "aac568d5b07d3f59e06d3c3b1d937c580f7e7784bb6a44257cdbd97c360a062f", func := "loop.example/g01393/laws.FnExactLoanTable", spec := "fnExactLoanTable", apart := false }
def FnExactLoanTableSaid : Prop := fnExactLoanTableRow.holds Try.pinned (OpenSpec.ofChange fnExactLoanTableSpec)

/-- ITS FALSE NEIGHBOUR: 'it returns false'. Refute it at one input. -/
def fnExactLoanTableWrong : ChangeSpec := { name := "fnExactLoanTable", fn := fun _ => fun
  | [d1, d2, d3, d4] => { results := [.lit (.bool false)], args := [d1, d2, d3, d4] }
  | _ => none }
def FnExactLoanTableWrongFalsely : Prop := fnExactLoanTableRow.holds Try.pinned (OpenSpec.ofChange fnExactLoanTableWrong)

/-- 'laws.FnExactInterestByRates': WHATEVER THE INPUT: true; the input reads as it did. -/
def fnExactInterestByRatesSpec : ChangeSpec := { name := "fnExactInterestByRates", fn := fun _ => fun
  | [d1, d2, d3, d4, d5, d6] => { results := [.lit (.bool true)], args := [d1, d2, d3, d4, d5, d6] }
  | _ => none }
def fnExactInterestByRatesRow : OpenClaim := { program := "ytadgkecbcadfpab", sum := "aac568d5b07d3f59e06d3c3b1d937c580f7e7784bb6a44257cdbd97c360a062f", func := "loop.example/g01393/laws.FnExactInterestByRates", spec := "fnExactInterestByRates", unfollowed := true, recurses := true, leaving := true, apart := false }
def FnExactInterestByRatesSaid : Prop := fnExactInterestByRatesRow.holds Try.pinned (OpenSpec.ofChange fnExactInterestByRatesSpec)

/-- ITS FALSE NEIGHBOUR: 'it returns false'. Refute it at one input. -/
def fnExactInterestByRatesWrong : ChangeSpec := { name := "fnExactInterestByRates", fn := fun _ => fun
  | [d1, d2, d3, d4, d5, d6] => { results := [.lit (.bool false)], args := [d1, d2, d3, d4, d5, d6] }
  | _ => none }
def FnExactInterestByRatesWrongFalsely : Prop := fnExactInterestByRatesRow.holds Try.pinned (OpenSpec.ofChange fnExactInterestByRatesWrong)

/-- 'laws.FnExactMatchSums': WHATEVER THE INPUT: true; the input reads as it did. -/
def fnExactMatchSumsSpec : ChangeSpec := { name := "fnExactMatchSums", fn := fun _ => fun
  | [d1, d2] => { results := [.lit (.bool true)], args := [d1, d2] }
  | _ => none }
def fnExactMatchSumsRow : OpenClaim := { program := "ytadgkecbcadfpab", sum := "aac568d5b07d3f59e06d3c3b1d937c580f7e7784bb6a44257cdbd97c360a062f", func := "loop.example/g01393/laws.FnExactMatchSums", spec := "fnExactMatchSums", unfollowed := true, recurses := true, leaving := true, apart := false }
def FnExactMatchSumsSaid : Prop := fnExactMatchSumsRow.holds Try.pinned (OpenSpec.ofChange fnExactMatchSumsSpec)

/-- ITS FALSE NEIGHBOUR: 'it returns false'. Refute it at one input. -/
def fnExactMatchSumsWrong : ChangeSpec := { name := "fnExactMatchSums", fn := fun _ => fun
  | [d1, d2] => { results := [.lit (.bool false)], args := [d1, d2] }
  | _ => none }
def FnExactMatchSumsWrongFalsely : Prop := fnExactMatchSumsRow.holds Try.pinned (OpenSpec.ofChange fnExactMatchSumsWrong)

/-- 'laws.FnExactPayDebts': WHATEVER THE INPUT: true; the input reads as it did. -/
def fnExactPayDebtsSpec : ChangeSpec := { name := "fnExactPayDebts", fn := fun _ => fun
  | [d1, d2, d3] => { results := [.lit (.bool true)], args := [d1, d2, d3] }
  | _ => none }
def fnExactPayDebtsRow : OpenClaim := { program := "ytadgkecbcadfpab", sum := "aac568d5b07d3f59e06d3c3b1d937c580f7e7784bb6a44257cdbd97c360a062f", func := "loop.example/g01393/laws.FnExactPayDebts", spec := "fnExactPayDebts", unfollowed := true, recurses := true, named := ["math/bits.divideError", "math/bits.overflowError"], leaving := true, apart := false }
def FnExactPayDebtsSaid : Prop := fnExactPayDebtsRow.holds Try.pinned (OpenSpec.ofChange fnExactPayDebtsSpec)

/-- ITS FALSE NEIGHBOUR: 'it returns false'. Refute it at one input. -/
def fnExactPayDebtsWrong : ChangeSpec := { name := "fnExactPayDebts", fn := fun _ => fun
  | [d1, d2, d3] => { results := [.lit (.bool false)], args := [d1, d2, d3] }
  | _ => none }
def FnExactPayDebtsWrongFalsely : Prop := fnExactPayDebtsRow.holds Try.pinned (OpenSpec.ofChange fnExactPayDebtsWrong)

/-- 'laws.FnExactBalancesShared': WHATEVER THE INPUT: true; the input reads as it did. -/
def fnExactBalancesSharedSpec : ChangeSpec := { name := "fnExactBalancesShared", fn := fun _ => fun
  | [d1, d2, d3] => { results := [.lit (.bool true)], args := [d1, d2, d3] }
  | _ => none }
def fnExactBalancesSharedRow : OpenClaim := { program := "ytadgkecbcadfpab", sum := "aac568d5b07d3f59e06d3c3b1d937c580f7e7784bb6a44257cdbd97c360a062f", func := "loop.example/g01393/laws.FnExactBalancesShared", spec := "fnExactBalancesShared", inPlace := ["(*sync.WaitGroup).Add", "internal/race.ReleaseMerge", "internal/race.Disable", "internal/race.Enable", "internal/synctest.IsInBubble", "internal/synctest.Associate[sync.WaitGroup]", "sync.fatal", "sync/atomic.OrUint64", "sync/atomic.AddUint64", "internal/race.Read", "sync/atomic.LoadUint64", "sync/atomic.StoreUint64", "internal/synctest.Disassociate[sync.WaitGroup]", "sync.runtime_Semrelease", "(*sync.WaitGroup).Done", "(*sync.WaitGroup).Wait", "internal/race.Acquire", "internal/synctest.IsAssociated[sync.WaitGroup]", "sync/atomic.CompareAndSwapUint64", "internal/race.Write", "sync.runtime_SemacquireWaitGroup"], unfollowed := true, recurses := true, leaving := true, apart := false }
def FnExactBalancesSharedSaid : Prop := fnExactBalancesSharedRow.holds Try.pinned (OpenSpec.ofChange fnExactBalancesSharedSpec)

/-- ITS FALSE NEIGHBOUR: 'it returns false'. Refute it at one input. -/
def fnExactBalancesSharedWrong : ChangeSpec := { name := "fnExactBalancesShared", fn := fun _ => fun
  | [d1, d2, d3] => { results := [.lit (.bool false)], args := [d1, d2, d3] }
  | _ => none }
def FnExactBalancesSharedWrongFalsely : Prop := fnExactBalancesSharedRow.holds Try.pinned (OpenSpec.ofChange fnExactBalancesSharedWrong)

/- THE SECOND FORM. 'bulk': how many values and letters a reading holds, each counted each time it is reached (what is shared counts as often as it is met; a slice's spare places count too). A statement '..UptoSaid' is the law's where the arguments, and the package variables that the reading takes, are together of bulk at most 1048576: NARROWER than '..Said'. Prove '..Said' where nothing that the law and all that it calls make is longer than what came in: it says more and counts as full. Else prove '..UptoSaid'. A law counts once. -/
mutual
def uptoBulk {H : Type} : DataW H → Nat
  | .lit (.string bytes) => bytes.length + 1
  | .lit _ => 1
  | .nil => 1
  | .ptr d => uptoBulk d + 1
  | .slice elems spare => uptoBulkAll elems + uptoBulkAll spare + 1
  | .agg parts => uptoBulkAll parts + 1
  | .iface _ d => uptoBulk d + 1
  | .map entries => uptoBulkEntries entries + 1
  | .held _ => 1
def uptoBulkAll {H : Type} : List (DataW H) → Nat
  | [] => 0
  | d :: r => uptoBulk d + uptoBulkAll r
def uptoBulkEntries {H : Type} : List (Lit × DataW H) → Nat
  | [] => 0
  | x :: r => uptoBulkEntry x + uptoBulkEntries r
def uptoBulkEntry {H : Type} : Lit × DataW H → Nat
  | (.string bytes, d) => bytes.length + uptoBulk d + 1
  | (_, d) => uptoBulk d + 1
 end
def uptoSmall : (H : Type) → List (DataW H) → Bool := fun _ ds => decide (uptoBulkAll ds ≤ 1048576)
def OpenSpec.upto (s : _root_.Go.ChangeSpec) : _root_.Go.OpenSpec := { _root_.Go.OpenSpec.ofChange s with cond := some uptoSmall }

/-- 'laws.FnExactBalancesAt', WHERE WHAT IT READS IS OF BULK AT MOST 1048576: true; the input reads as it did. -/
def fnExactBalancesAtUptoRow : OpenClaim := { program := "ytadgkecbcadfpab", sum := "aac568d5b07d3f59e06d3c3b1d937c580f7e7784bb6a44257cdbd97c360a062f", func := "loop.example/g01393/laws.FnExactBalancesAt", spec := "fnExactBalancesAt", apart := false, narrowed := true }
def FnExactBalancesAtUptoSaid : Prop := fnExactBalancesAtUptoRow.holds Try.pinned (OpenSpec.upto fnExactBalancesAtSpec)

/-- 'laws.FnExactUndoEntry', WHERE WHAT IT READS IS OF BULK AT MOST 1048576: true; the input reads as it did. -/
def fnExactUndoEntryUptoRow : OpenClaim := { program := "ytadgkecbcadfpab", sum := "aac568d5b07d3f59e06d3c3b1d937c580f7e7784bb6a44257cdbd97c360a062f", func := "loop.example/g01393/laws.FnExactUndoEntry", spec := "fnExactUndoEntry", apart := false, narrowed := true }
def FnExactUndoEntryUptoSaid : Prop := fnExactUndoEntryUptoRow.holds Try.pinned (OpenSpec.upto fnExactUndoEntrySpec)

/-- 'laws.FnExactSettleAccounts', WHERE WHAT IT READS IS OF BULK AT MOST 1048576: true; the input reads as it did. -/
def fnExactSettleAccountsUptoRow : OpenClaim := { program := "ytadgkecbcadfpab", sum := "aac568d5b07d3f59e06d3c3b1d937c580f7e7784bb6a44257cdbd97c360a062f", func := "loop.example/g01393/laws.FnExactSettleAccounts", spec := "fnExactSettleAccounts", unfollowed := true, recurses := true, leaving := true, apart := false, narrowed := true }
def FnExactSettleAccountsUptoSaid : Prop := fnExactSettleAccountsUptoRow.holds Try.pinned (OpenSpec.upto fnExactSettleAccountsSpec)

/-- 'laws.FnExactCarryLosses', WHERE WHAT IT READS IS OF BULK AT MOST 1048576: true; the input reads as it did. -/
def fnExactCarryLossesUptoRow : OpenClaim := { program := "ytadgkecbcadfpab", sum := "aac568d5b07d3f59e06d3c3b1d937c580f7e7784bb6a44257cdbd97c360a062f", func := "loop.example/g01393/laws.FnExactCarryLosses", spec := "fnExactCarryLosses", unfollowed := true, recurses := true, leaving := true, apart := false, narrowed := true }
def FnExactCarryLossesUptoSaid : Prop := fnExactCarryLossesUptoRow.holds Try.pinned (OpenSpec.upto fnExactCarryLossesSpec)

/-- 'laws.FnExactSplitCents', WHERE WHAT IT READS IS OF BULK AT MOST 1048576: true; the input reads as it did. -/
def fnExactSplitCentsUptoRow : OpenClaim := { program := "ytadgkecbcadfpab", sum := "aac568d5b07d3f59e06d3c3b1d937c580f7e7784bb6a44257cdbd97c360a062f", func := "loop.example/g01393/laws.FnExactSplitCents", spec := "fnExactSplitCents", unfollowed := true, recurses := true, named := ["math/bits.divideError", "math/bits.overflowError"], leaving := true, apart := false, narrowed := true }
def FnExactSplitCentsUptoSaid : Prop := fnExactSplitCentsUptoRow.holds Try.pinned (OpenSpec.upto fnExactSplitCentsSpec)

/-- 'laws.FnExactSplitInTurn', WHERE WHAT IT READS IS OF BULK AT MOST 1048576: true; the input reads as it did. -/
def fnExactSplitInTurnUptoRow : OpenClaim := { program := "ytadgkecbcadfpab", sum := "aac568d5b07d3f59e06d3c3b1d937c580f7e7784bb6a44257cdbd97c360a062f", func := "loop.example/g01393/laws.FnExactSplitInTurn", spec := "fnExactSplitInTurn", unfollowed := true, recurses := true, leaving := true, apart := false, narrowed := true }
def FnExactSplitInTurnUptoSaid : Prop := fnExactSplitInTurnUptoRow.holds Try.pinned (OpenSpec.upto fnExactSplitInTurnSpec)

/-- 'laws.FnExactEvenParts', WHERE WHAT IT READS IS OF BULK AT MOST 1048576: true; the input reads as it did. -/
def fnExactEvenPartsUptoRow : OpenClaim := { program := "ytadgkecbcadfpab", sum := "aac568d5b07d3f59e06d3c3b1d937c580f7e7784bb6a44257cdbd97c360a062f", func := "loop.example/g01393/laws.FnExactEvenParts", spec := "fnExactEvenParts", unfollowed := true, recurses := true, named := ["math/bits.divideError", "math/bits.overflowError"], leaving := true, apart := false, narrowed := true }
def FnExactEvenPartsUptoSaid : Prop := fnExactEvenPartsUptoRow.holds Try.pinned (OpenSpec.upto fnExactEvenPartsSpec)

/-- 'laws.FnExactLoanTable', WHERE WHAT IT READS IS OF BULK AT MOST 1048576: true; the input reads as it did. -/
def fnExactLoanTableUptoRow : OpenClaim := { program := "ytadgkecbcadfpab", sum := "aac568d5b07d3f59e06d3c3b1d937c580f7e7784bb6a44257cdbd97c360a062f", func := "loop.example/g01393/laws.FnExactLoanTable", spec := "fnExactLoanTable", apart := false, narrowed := true }
def FnExactLoanTableUptoSaid : Prop := fnExactLoanTableUptoRow.holds Try.pinned (OpenSpec.upto fnExactLoanTableSpec)

/-- 'laws.FnExactInterestByRates', WHERE WHAT IT READS IS OF BULK AT MOST 1048576: true; the input reads as it did. -/
def fnExactInterestByRatesUptoRow : OpenClaim := { program := "ytadgkecbcadfpab", sum := "aac568d5b07d3f59e06d3c3b1d937c580f7e7784bb6a44257cdbd97c360a062f", func := "loop.example/g01393/laws.FnExactInterestByRates", spec := "fnExactInterestByRates", unfollowed := true, recurses := true, leaving := true, apart := false, narrowed := true }
def FnExactInterestByRatesUptoSaid : Prop := fnExactInterestByRatesUptoRow.holds Try.pinned (OpenSpec.upto fnExactInterestByRatesSpec)

/-- 'laws.FnExactMatchSums', WHERE WHAT IT READS IS OF BULK AT MOST 1048576: true; the input reads as it did. -/
def fnExactMatchSumsUptoRow : OpenClaim := { program := "ytadgkecbcadfpab", sum := "aac568d5b07d3f59e06d3c3b1d937c580f7e7784bb6a44257cdbd97c360a062f", func := "loop.example/g01393/laws.FnExactMatchSums", spec := "fnExactMatchSums", unfollowed := true, recurses := true, leaving := true, apart := false, narrowed := true }
def FnExactMatchSumsUptoSaid : Prop := fnExactMatchSumsUptoRow.holds Try.pinned (OpenSpec.upto fnExactMatchSumsSpec)

/-- 'laws.FnExactPayDebts', WHERE WHAT IT READS IS OF BULK AT MOST 1048576: true; the input reads as it did. -/
def fnExactPayDebtsUptoRow : OpenClaim := { program := "ytadgkecbcadfpab", sum := "aac568d5b07d3f59e06d3c3b1d937c580f7e7784bb6a44257cdbd97c360a062f", func := "loop.example/g01393/laws.FnExactPayDebts", spec := "fnExactPayDebts", unfollowed := true, recurses := true, named := ["math/bits.divideError", "math/bits.overflowError"], leaving := true, apart := false, narrowed := true }
def FnExactPayDebtsUptoSaid : Prop := fnExactPayDebtsUptoRow.holds Try.pinned (OpenSpec.upto fnExactPayDebtsSpec)

/-- 'laws.FnExactBalancesShared', WHERE WHAT IT READS IS OF BULK AT MOST 1048576: true; the input reads as it did. -/
def fnExactBalancesSharedUptoRow : OpenClaim := { program := "ytadgkecbcadfpab", sum := "aac568d5b07d3f59e06d3c3b1d937c580f7e7784bb6a44257cdbd97c360a062f", func := "loop.example/g01393/laws.FnExactBalancesShared", spec := "fnExactBalancesShared", inPlace := ["(*sync.WaitGroup).Add", "internal/race.ReleaseMerge", "internal/race.Disable", "internal/race.Enable", "internal/synctest.IsInBubble", "internal/synctest.Associate[sync.WaitGroup]", "sync.fatal", "sync/atomic.OrUint64", "sync/atomic.AddUint64", "internal/race.Read", "sync/atomic.LoadUint64", "sync/atomic.StoreUint64", "internal/synctest.Disassociate[sync.WaitGroup]", "sync.runtime_Semrelease", "(*sync.WaitGroup).Done", "(*sync.WaitGroup).Wait", "internal/race.Acquire", "internal/synctest.IsAssociated[sync.WaitGroup]", "sync/atomic.CompareAndSwapUint64", "internal/race.Write", "sync.runtime_SemacquireWaitGroup"], unfollowed := true, recurses := true, leaving := true, apart := false, narrowed := true }
def FnExactBalancesSharedUptoSaid : Prop := fnExactBalancesSharedUptoRow.holds Try.pinned (OpenSpec.upto fnExactBalancesSharedSpec)

end Rows
end Go.Proofs.Ytadgkecbcadfpab
