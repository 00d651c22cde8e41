/-
  No cell of these rows narrows 'for every input' (looked for: loops, veiled, ifaces, maps, wideKeys, modest, calm, conditions, laid).
  DERIVED. THE GIVEN ROWS OF THIS SEAT. 12 by the template 'for every input the law returns true; each argument reads behind the call as it read before'; 0 by the template 'total and deterministic' (their statements: YtggpfaokmkhhdaaTotals.lean).
  GIVEN WITH THE SEED: the statements are not yours to turn. If you find one false, say at which input.
  Laid BY PROGRAM, IN A SANDBOX (cutbox-rows.mjs): the forced cells as the released guide's own fill.sh prints them over the translation a67c975277bc4b75… (all of the seat's roots in one cut). By AI agents, Wed Nov 11 2026. No macro, syntax, notation, axiom, sorry.
-/
import Derived.Test.YtggpfaokmkhhdaaChecked
import GoSem.Claim
import GoSem.ClaimJoined
import GoSem.ClaimMapViews
import Derived.JoinedTies
import Derived.KernelRfl
namespace Go.Proofs.Ytggpfaokmkhhdaa
/- THE CELL 'sum', in the pinned program and in every row, IS THE sha256 OF THE DUMP (.gsa) THAT YtggpfaokmkhhdaaProg.lean LOADS. Nothing in Lean hashes anything: it is a label: what it is worth is what the hold of that sum in a sandbox is worth. -/
noncomputable def Try.pinned : Pinned := { name := "ytggpfaokmkhhdaa", sum := "a67c975277bc4b759ad42401a9238dafa8cf24e39c721564109c117aca1da070", checked := Try.checked }
namespace Rows
def none {H : Type} : Left H := { results := [], args := [] }

/-- 'laws.FnExactSplitCents': WHATEVER THE INPUT: true; the input reads as it did. -/
def fnExactSplitCentsSpec : ChangeSpec := { name := "fnExactSplitCents", fn := fun _ => fun
  | [d1, d2] => { results := [.lit (.bool true)], args := [d1, d2] }
  | _ => none }
def fnExactSplitCentsRow : OpenClaim := { program := "ytggpfaokmkhhdaa", sum := "a67c975277bc4b759ad42401a9238dafa8cf24e39c721564109c117aca1da070", func := "loop.example/g01393/laws.FnExactSplitCents", spec := "fnExactSplitCents", unfollowed := true, recurses := true, named := ["math/bits.divideError", "math/bits.overflowError"], apart := false }
def FnExactSplitCentsSaid : Prop := fnExactSplitCentsRow.holds Try.pinned (OpenSpec.ofChange fnExactSplitCentsSpec)

/-- ITS FALSE NEIGHBOUR: 'it returns false'. Refute it at one input. -/
def fnExactSplitCentsWrong : ChangeSpec := { name := "fnExactSplitCents", fn := fun _ => fun
  | [d1, d2] => { results := [.lit (.bool false)], args := [d1, d2] }
  | _ => none }
def FnExactSplitCentsWrongFalsely : Prop := fnExactSplitCentsRow.holds Try.pinned (OpenSpec.ofChange fnExactSplitCentsWrong)

/-- 'laws.FnExactSettleAccounts': WHATEVER THE INPUT: true; the input reads as it did. -/
def fnExactSettleAccountsSpec : ChangeSpec := { name := "fnExactSettleAccounts", fn := fun _ => fun
  | [d] => { results := [.lit (.bool true)], args := [d] }
  | _ => none }
def fnExactSettleAccountsRow : OpenClaim := { program := "ytggpfaokmkhhdaa", sum := "a67c975277bc4b759ad42401a9238dafa8cf24e39c721564109c117aca1da070", func := "loop.example/g01393/laws.FnExactSettleAccounts", spec := "fnExactSettleAccounts", unfollowed := true, recurses := true, apart := false }
def FnExactSettleAccountsSaid : Prop := fnExactSettleAccountsRow.holds Try.pinned (OpenSpec.ofChange fnExactSettleAccountsSpec)

/-- ITS FALSE NEIGHBOUR: 'it returns false'. Refute it at one input. -/
def fnExactSettleAccountsWrong : ChangeSpec := { name := "fnExactSettleAccounts", fn := fun _ => fun
  | [d] => { results := [.lit (.bool false)], args := [d] }
  | _ => none }
def FnExactSettleAccountsWrongFalsely : Prop := fnExactSettleAccountsRow.holds Try.pinned (OpenSpec.ofChange fnExactSettleAccountsWrong)

/-- 'laws.FnExactEvenParts': WHATEVER THE INPUT: true; the input reads as it did. -/
def fnExactEvenPartsSpec : ChangeSpec := { name := "fnExactEvenParts", fn := fun _ => fun
  | [d1, d2] => { results := [.lit (.bool true)], args := [d1, d2] }
  | _ => none }
def fnExactEvenPartsRow : OpenClaim := { program := "ytggpfaokmkhhdaa", sum := "a67c975277bc4b759ad42401a9238dafa8cf24e39c721564109c117aca1da070", func := "loop.example/g01393/laws.FnExactEvenParts", spec := "fnExactEvenParts", unfollowed := true, recurses := true, named := ["math/bits.divideError", "math/bits.overflowError"], apart := false }
def FnExactEvenPartsSaid : Prop := fnExactEvenPartsRow.holds Try.pinned (OpenSpec.ofChange fnExactEvenPartsSpec)

/-- ITS FALSE NEIGHBOUR: 'it returns false'. Refute it at one input. -/
def fnExactEvenPartsWrong : ChangeSpec := { name := "fnExactEvenParts", fn := fun _ => fun
  | [d1, d2] => { results := [.lit (.bool false)], args := [d1, d2] }
  | _ => none }
def FnExactEvenPartsWrongFalsely : Prop := fnExactEvenPartsRow.holds Try.pinned (OpenSpec.ofChange fnExactEvenPartsWrong)

/-- 'laws.FnExactCarryLosses': WHATEVER THE INPUT: true; the input reads as it did. -/
def fnExactCarryLossesSpec : ChangeSpec := { name := "fnExactCarryLosses", fn := fun _ => fun
  | [d1, d2, d3] => { results := [.lit (.bool true)], args := [d1, d2, d3] }
  | _ => none }
def fnExactCarryLossesRow : OpenClaim := { program := "ytggpfaokmkhhdaa", sum := "a67c975277bc4b759ad42401a9238dafa8cf24e39c721564109c117aca1da070", func := "loop.example/g01393/laws.FnExactCarryLosses", spec := "fnExactCarryLosses", unfollowed := true, recurses := true, apart := false }
def FnExactCarryLossesSaid : Prop := fnExactCarryLossesRow.holds Try.pinned (OpenSpec.ofChange fnExactCarryLossesSpec)

/-- ITS FALSE NEIGHBOUR: 'it returns false'. Refute it at one input. -/
def fnExactCarryLossesWrong : ChangeSpec := { name := "fnExactCarryLosses", fn := fun _ => fun
  | [d1, d2, d3] => { results := [.lit (.bool false)], args := [d1, d2, d3] }
  | _ => none }
def FnExactCarryLossesWrongFalsely : Prop := fnExactCarryLossesRow.holds Try.pinned (OpenSpec.ofChange fnExactCarryLossesWrong)

/-- 'laws.FnExactMatchSums': WHATEVER THE INPUT: true; the input reads as it did. -/
def fnExactMatchSumsSpec : ChangeSpec := { name := "fnExactMatchSums", fn := fun _ => fun
  | [d1, d2] => { results := [.lit (.bool true)], args := [d1, d2] }
  | _ => none }
def fnExactMatchSumsRow : OpenClaim := { program := "ytggpfaokmkhhdaa", sum := "a67c975277bc4b759ad42401a9238dafa8cf24e39c721564109c117aca1da070", func := "loop.example/g01393/laws.FnExactMatchSums", spec := "fnExactMatchSums", unfollowed := true, recurses := true, apart := false }
def FnExactMatchSumsSaid : Prop := fnExactMatchSumsRow.holds Try.pinned (OpenSpec.ofChange fnExactMatchSumsSpec)

/-- ITS FALSE NEIGHBOUR: 'it returns false'. Refute it at one input. -/
def fnExactMatchSumsWrong : ChangeSpec := { name := "fnExactMatchSums", fn := fun _ => fun
  | [d1, d2] => { results := [.lit (.bool false)], args := [d1, d2] }
  | _ => none }
def FnExactMatchSumsWrongFalsely : Prop := fnExactMatchSumsRow.holds Try.pinned (OpenSpec.ofChange fnExactMatchSumsWrong)

/-- 'laws.FnExactUndoEntry': WHATEVER THE INPUT: true; the input reads as it did. -/
def fnExactUndoEntrySpec : ChangeSpec := { name := "fnExactUndoEntry", fn := fun _ => fun
  | [d1, d2, d3] => { results := [.lit (.bool true)], args := [d1, d2, d3] }
  | _ => none }
def fnExactUndoEntryRow : OpenClaim := { program := "ytggpfaokmkhhdaa", sum := "a67c975277bc4b759ad42401a9238dafa8cf24e39c721564109c117aca1da070", func := "loop.example/g01393/laws.FnExactUndoEntry", spec := "fnExactUndoEntry", apart := false }
def FnExactUndoEntrySaid : Prop := fnExactUndoEntryRow.holds Try.pinned (OpenSpec.ofChange fnExactUndoEntrySpec)

/-- ITS FALSE NEIGHBOUR: 'it returns false'. Refute it at one input. -/
def fnExactUndoEntryWrong : ChangeSpec := { name := "fnExactUndoEntry", fn := fun _ => fun
  | [d1, d2, d3] => { results := [.lit (.bool false)], args := [d1, d2, d3] }
  | _ => none }
def FnExactUndoEntryWrongFalsely : Prop := fnExactUndoEntryRow.holds Try.pinned (OpenSpec.ofChange fnExactUndoEntryWrong)

/-- 'laws.FnExactCascadePrices': WHATEVER THE INPUT: true; the input reads as it did. -/
def fnExactCascadePricesSpec : ChangeSpec := { name := "fnExactCascadePrices", fn := fun _ => fun
  | [d1, d2, d3] => { results := [.lit (.bool true)], args := [d1, d2, d3] }
  | _ => none }
def fnExactCascadePricesRow : OpenClaim := { program := "ytggpfaokmkhhdaa", sum := "a67c975277bc4b759ad42401a9238dafa8cf24e39c721564109c117aca1da070", func := "loop.example/g01393/laws.FnExactCascadePrices", spec := "fnExactCascadePrices", unfollowed := true, recurses := true, apart := false }
def FnExactCascadePricesSaid : Prop := fnExactCascadePricesRow.holds Try.pinned (OpenSpec.ofChange fnExactCascadePricesSpec)

/-- ITS FALSE NEIGHBOUR: 'it returns false'. Refute it at one input. -/
def fnExactCascadePricesWrong : ChangeSpec := { name := "fnExactCascadePrices", fn := fun _ => fun
  | [d1, d2, d3] => { results := [.lit (.bool false)], args := [d1, d2, d3] }
  | _ => none }
def FnExactCascadePricesWrongFalsely : Prop := fnExactCascadePricesRow.holds Try.pinned (OpenSpec.ofChange fnExactCascadePricesWrong)

/-- 'laws.FnExactRateDues': WHATEVER THE INPUT: true; the input reads as it did. -/
def fnExactRateDuesSpec : ChangeSpec := { name := "fnExactRateDues", fn := fun _ => fun
  | [d1, d2, d3, d4] => { results := [.lit (.bool true)], args := [d1, d2, d3, d4] }
  | _ => none }
def fnExactRateDuesRow : OpenClaim := { program := "ytggpfaokmkhhdaa", sum := "a67c975277bc4b759ad42401a9238dafa8cf24e39c721564109c117aca1da070", func := "loop.example/g01393/laws.FnExactRateDues", spec := "fnExactRateDues", unfollowed := true, recurses := true, apart := false }
def FnExactRateDuesSaid : Prop := fnExactRateDuesRow.holds Try.pinned (OpenSpec.ofChange fnExactRateDuesSpec)

/-- ITS FALSE NEIGHBOUR: 'it returns false'. Refute it at one input. -/
def fnExactRateDuesWrong : ChangeSpec := { name := "fnExactRateDues", fn := fun _ => fun
  | [d1, d2, d3, d4] => { results := [.lit (.bool false)], args := [d1, d2, d3, d4] }
  | _ => none }
def FnExactRateDuesWrongFalsely : Prop := fnExactRateDuesRow.holds Try.pinned (OpenSpec.ofChange fnExactRateDuesWrong)

/-- 'laws.FnExactSpreadDues': WHATEVER THE INPUT: true; the input reads as it did. -/
def fnExactSpreadDuesSpec : ChangeSpec := { name := "fnExactSpreadDues", fn := fun _ => fun
  | [d1, d2, d3, d4] => { results := [.lit (.bool true)], args := [d1, d2, d3, d4] }
  | _ => none }
def fnExactSpreadDuesRow : OpenClaim := { program := "ytggpfaokmkhhdaa", sum := "a67c975277bc4b759ad42401a9238dafa8cf24e39c721564109c117aca1da070", func := "loop.example/g01393/laws.FnExactSpreadDues", spec := "fnExactSpreadDues", unfollowed := true, recurses := true, apart := false }
def FnExactSpreadDuesSaid : Prop := fnExactSpreadDuesRow.holds Try.pinned (OpenSpec.ofChange fnExactSpreadDuesSpec)

/-- ITS FALSE NEIGHBOUR: 'it returns false'. Refute it at one input. -/
def fnExactSpreadDuesWrong : ChangeSpec := { name := "fnExactSpreadDues", fn := fun _ => fun
  | [d1, d2, d3, d4] => { results := [.lit (.bool false)], args := [d1, d2, d3, d4] }
  | _ => none }
def FnExactSpreadDuesWrongFalsely : Prop := fnExactSpreadDuesRow.holds Try.pinned (OpenSpec.ofChange fnExactSpreadDuesWrong)

/-- 'laws.FnExactTrimScale': WHATEVER THE INPUT: true; the input reads as it did. -/
def fnExactTrimScaleSpec : ChangeSpec := { name := "fnExactTrimScale", fn := fun _ => fun
  | [d] => { results := [.lit (.bool true)], args := [d] }
  | _ => none }
def fnExactTrimScaleRow : OpenClaim := { program := "ytggpfaokmkhhdaa", sum := "a67c975277bc4b759ad42401a9238dafa8cf24e39c721564109c117aca1da070", func := "loop.example/g01393/laws.FnExactTrimScale", spec := "fnExactTrimScale", unfollowed := true, recurses := true, apart := false }
def FnExactTrimScaleSaid : Prop := fnExactTrimScaleRow.holds Try.pinned (OpenSpec.ofChange fnExactTrimScaleSpec)

/-- ITS FALSE NEIGHBOUR: 'it returns false'. Refute it at one input. -/
def fnExactTrimScaleWrong : ChangeSpec := { name := "fnExactTrimScale", fn := fun _ => fun
  | [d] => { results := [.lit (.bool false)], args := [d] }
  | _ => none }
def FnExactTrimScaleWrongFalsely : Prop := fnExactTrimScaleRow.holds Try.pinned (OpenSpec.ofChange fnExactTrimScaleWrong)

/-- 'laws.FnTreaties': WHATEVER THE INPUT: true; the input reads as it did. -/
def fnTreatiesSpec : ChangeSpec := { name := "fnTreaties", fn := fun _ => fun
  | [d1, d2] => { results := [.lit (.bool true)], args := [d1, d2] }
  | _ => none }
def fnTreatiesRow : OpenClaim := { program := "ytggpfaokmkhhdaa", sum := "a67c975277bc4b759ad42401a9238dafa8cf24e39c721564109c117aca1da070", func := "loop.example/g01393/laws.FnTreaties", spec := "fnTreaties", unfollowed := true, recurses := true, apart := false }
def FnTreatiesSaid : Prop := fnTreatiesRow.holds Try.pinned (OpenSpec.ofChange fnTreatiesSpec)

/-- ITS FALSE NEIGHBOUR: 'it returns false'. Refute it at one input. -/
def fnTreatiesWrong : ChangeSpec := { name := "fnTreaties", fn := fun _ => fun
  | [d1, d2] => { results := [.lit (.bool false)], args := [d1, d2] }
  | _ => none }
def FnTreatiesWrongFalsely : Prop := fnTreatiesRow.holds Try.pinned (OpenSpec.ofChange fnTreatiesWrong)

/-- 'laws.FnCurves': WHATEVER THE INPUT: true; the input reads as it did. -/
def fnCurvesSpec : ChangeSpec := { name := "fnCurves", fn := fun _ => fun
  | [d1, d2] => { results := [.lit (.bool true)], args := [d1, d2] }
  | _ => none }
def fnCurvesRow : OpenClaim := { program := "ytggpfaokmkhhdaa", sum := "a67c975277bc4b759ad42401a9238dafa8cf24e39c721564109c117aca1da070", func := "loop.example/g01393/laws.FnCurves", spec := "fnCurves", unfollowed := true, recurses := true, apart := false }
def FnCurvesSaid : Prop := fnCurvesRow.holds Try.pinned (OpenSpec.ofChange fnCurvesSpec)

/-- ITS FALSE NEIGHBOUR: 'it returns false'. Refute it at one input. -/
def fnCurvesWrong : ChangeSpec := { name := "fnCurves", fn := fun _ => fun
  | [d1, d2] => { results := [.lit (.bool false)], args := [d1, d2] }
  | _ => none }
def FnCurvesWrongFalsely : Prop := fnCurvesRow.holds Try.pinned (OpenSpec.ofChange fnCurvesWrong)

/- THE SECOND FORM. 'bulk': how many values and letters a reading holds, each counted each time it is reached (what is shared counts as often as it is met; a slice's spare places count too). A statement '..UptoSaid' is the law's where the arguments, and the package variables that the reading takes, are together of bulk at most 1048576: NARROWER than '..Said'. Prove '..Said' where nothing that the law and all that it calls make is longer than what came in: it says more and counts as full. Else prove '..UptoSaid'. A law counts once. -/
mutual
def uptoBulk {H : Type} : DataW H → Nat
  | .lit (.string bytes) => bytes.length + 1
  | .lit _ => 1
  | .nil => 1
  | .ptr d => uptoBulk d + 1
  | .slice elems spare => uptoBulkAll elems + uptoBulkAll spare + 1
  | .agg parts => uptoBulkAll parts + 1
  | .iface _ d => uptoBulk d + 1
  | .map entries => uptoBulkEntries entries + 1
  | .held _ => 1
def uptoBulkAll {H : Type} : List (DataW H) → Nat
  | [] => 0
  | d :: r => uptoBulk d + uptoBulkAll r
def uptoBulkEntries {H : Type} : List (Lit × DataW H) → Nat
  | [] => 0
  | x :: r => uptoBulkEntry x + uptoBulkEntries r
def uptoBulkEntry {H : Type} : Lit × DataW H → Nat
  | (.string bytes, d) => bytes.length + uptoBulk d + 1
  | (_, d) => uptoBulk d + 1
 end
def uptoSmall : (H : Type) → List (DataW H) → Bool := fun _ ds => decide (uptoBulkAll ds ≤ 1048576)
def OpenSpec.upto (s : _root_.Go.ChangeSpec) : _root_.Go.OpenSpec := { _root_.Go.OpenSpec.ofChange s with cond := some uptoSmall }

/-- 'laws.FnExactSplitCents', WHERE WHAT IT READS IS OF BULK AT MOST 1048576: true; the input reads as it did. -/
def fnExactSplitCentsUptoRow : OpenClaim := { program := "ytggpfaokmkhhdaa", sum := "a67c975277bc4b759ad42401a9238dafa8cf24e39c721564109c117aca1da070", func := "loop.example/g01393/laws.FnExactSplitCents", spec := "fnExactSplitCents", unfollowed := true, recurses := true, named := ["math/bits.divideError", "math/bits.overflowError"], apart := false, narrowed := true }
def FnExactSplitCentsUptoSaid : Prop := fnExactSplitCentsUptoRow.holds Try.pinned (OpenSpec.upto fnExactSplitCentsSpec)

/-- 'laws.FnExactSettleAccounts', WHERE WHAT IT READS IS OF BULK AT MOST 1048576: true; the input reads as it did. -/
def fnExactSettleAccountsUptoRow : OpenClaim := { program := "ytggpfaokmkhhdaa", sum := "a67c975277bc4b759ad42401a9238dafa8cf24e39c721564109c117aca1da070", func := "loop.example/g01393/laws.FnExactSettleAccounts", spec := "fnExactSettleAccounts", unfollowed := true, recurses := true, apart := false, narrowed := true }
def FnExactSettleAccountsUptoSaid : Prop := fnExactSettleAccountsUptoRow.holds Try.pinned (OpenSpec.upto fnExactSettleAccountsSpec)

/-- 'laws.FnExactEvenParts', WHERE WHAT IT READS IS OF BULK AT MOST 1048576: true; the input reads as it did. -/
def fnExactEvenPartsUptoRow : OpenClaim := { program := "ytggpfaokmkhhdaa", sum := "a67c975277bc4b759ad42401a9238dafa8cf24e39c721564109c117aca1da070", func := "loop.example/g01393/laws.FnExactEvenParts", spec := "fnExactEvenParts", unfollowed := true, recurses := true, named := ["math/bits.divideError", "math/bits.overflowError"], apart := false, narrowed := true }
def FnExactEvenPartsUptoSaid : Prop := fnExactEvenPartsUptoRow.holds Try.pinned (OpenSpec.upto fnExactEvenPartsSpec)

/-- 'laws.FnExactCarryLosses', WHERE WHAT IT READS IS OF BULK AT MOST 1048576: true; the input reads as it did. -/
def fnExactCarryLossesUptoRow : OpenClaim := { program := "ytggpfaokmkhhdaa", sum := "a67c975277bc4b759ad42401a9238dafa8cf24e39c721564109c117aca1da070", func := "loop.example/g01393/laws.FnExactCarryLosses", spec := "fnExactCarryLosses", unfollowed := true, recurses := true, apart := false, narrowed := true }
def FnExactCarryLossesUptoSaid : Prop := fnExactCarryLossesUptoRow.holds Try.pinned (OpenSpec.upto fnExactCarryLossesSpec)

/-- 'laws.FnExactMatchSums', WHERE WHAT IT READS IS OF BULK AT MOST 1048576: true; the input reads as it did. -/
def fnExactMatchSumsUptoRow : OpenClaim := { program := "ytggpfaokmkhhdaa", sum := "a67c975277bc4b759ad42401a9238dafa8cf24e39c721564109c117aca1da070", func := "loop.example/g01393/laws.FnExactMatchSums", spec := "fnExactMatchSums", unfollowed := true, recurses := true, apart := false, narrowed := true }
def FnExactMatchSumsUptoSaid : Prop := fnExactMatchSumsUptoRow.holds Try.pinned (OpenSpec.upto fnExactMatchSumsSpec)

/-- 'laws.FnExactUndoEntry', WHERE WHAT IT READS IS OF BULK AT MOST 1048576: true; the input reads as it did. -/
def fnExactUndoEntryUptoRow : OpenClaim := { program := "ytggpfaokmkhhdaa", sum := "a67c975277bc4b759ad42401a9238dafa8cf24e39c721564109c117aca1da070", func := "loop.example/g01393/laws.FnExactUndoEntry", spec := "fnExactUndoEntry", apart := false, narrowed := true }
def FnExactUndoEntryUptoSaid : Prop := fnExactUndoEntryUptoRow.holds Try.pinned (OpenSpec.upto fnExactUndoEntrySpec)

/-- 'laws.FnExactCascadePrices', WHERE WHAT IT READS IS OF BULK AT MOST 1048576: true; the input reads as it did. -/
def fnExactCascadePricesUptoRow : OpenClaim := { program := "ytggpfaokmkhhdaa", sum := "a67c975277bc4b759ad42401a9238dafa8cf24e39c721564109c117aca1da070", func := "loop.example/g01393/laws.FnExactCascadePrices", spec := "fnExactCascadePrices", unfollowed := true, recurses := true, apart := false, narrowed := true }
def FnExactCascadePricesUptoSaid : Prop := fnExactCascadePricesUptoRow.holds Try.pinned (OpenSpec.upto fnExactCascadePricesSpec)

/-- 'laws.FnExactRateDues', WHERE WHAT IT READS IS OF BULK AT MOST 1048576: true; the input reads as it did. -/
def fnExactRateDuesUptoRow : OpenClaim := { program := "ytggpfaokmkhhdaa", sum := "a67c975277bc4b759ad42401a9238dafa8cf24e39c721564109c117aca1da070", func := "loop.example/g01393/laws.FnExactRateDues", spec := "fnExactRateDues", unfollowed := true, recurses := true, apart := false, narrowed := true }
def FnExactRateDuesUptoSaid : Prop := fnExactRateDuesUptoRow.holds Try.pinned (OpenSpec.upto fnExactRateDuesSpec)

/-- 'laws.FnExactSpreadDues', WHERE WHAT IT READS IS OF BULK AT MOST 1048576: true; the input reads as it did. -/
def fnExactSpreadDuesUptoRow : OpenClaim := { program := "ytggpfaokmkhhdaa", sum := "a67c975277bc4b759ad42401a9238dafa8cf24e39c721564109c117aca1da070", func := "loop.example/g01393/laws.FnExactSpreadDues", spec := "fnExactSpreadDues", unfollowed := true, recurses := true, apart := false, narrowed := true }
def FnExactSpreadDuesUptoSaid : Prop := fnExactSpreadDuesUptoRow.holds Try.pinned (OpenSpec.upto fnExactSpreadDuesSpec)

/-- 'laws.FnExactTrimScale', WHERE WHAT IT READS IS OF BULK AT MOST 1048576: true; the input reads as it did. -/
def fnExactTrimScaleUptoRow : OpenClaim := { program := "ytggpfaokmkhhdaa", sum := "a67c975277bc4b759ad42401a9238dafa8cf24e39c721564109c117aca1da070", func := "loop.example/g01393/laws.FnExactTrimScale", spec := "fnExactTrimScale", unfollowed := true, recurses := true, apart := false, narrowed := true }
def FnExactTrimScaleUptoSaid : Prop := fnExactTrimScaleUptoRow.holds Try.pinned (OpenSpec.upto fnExactTrimScaleSpec)

/-- 'laws.FnTreaties', WHERE WHAT IT READS IS OF BULK AT MOST 1048576: true; the input reads as it did. -/
def fnTreatiesUptoRow : OpenClaim := { program := "ytggpfaokmkhhdaa", sum := "a67c975277bc4b759ad42401a9238dafa8cf24e39c721564109c117aca1da070", func := "loop.example/g01393/laws.FnTreaties", spec := "fnTreaties", unfollowed := true, recurses := true, apart := false, narrowed := true }
def FnTreatiesUptoSaid : Prop := fnTreatiesUptoRow.holds Try.pinned (OpenSpec.upto fnTreatiesSpec)

/-- 'laws.FnCurves', WHERE WHAT IT READS IS OF BULK AT MOST 1048576: true; the input reads as it did. -/
def fnCurvesUptoRow : OpenClaim := { program := "ytggpfaokmkhhdaa", sum := "a67c975277bc4b759ad42401a9238dafa8cf24e39c721564109c117aca1da070", func := "loop.example/g01393/laws.FnCurves", spec := "fnCurves", unfollowed := true, recurses := true, apart := false, narrowed := true }
def FnCurvesUptoSaid : Prop := fnCurvesUptoRow.holds Try.pinned (OpenSpec.upto fnCurvesSpec)

end Rows
end Go.Proofs.Ytggpfaokmkhhdaa
