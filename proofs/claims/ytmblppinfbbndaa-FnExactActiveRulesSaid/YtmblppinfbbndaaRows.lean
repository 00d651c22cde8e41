/-
  No cell of these rows narrows 'for every input' (looked for: loops, veiled, ifaces, maps, wideKeys, modest, calm, conditions, laid).
  DERIVED. THE GIVEN ROWS OF THIS SEAT. 12 by the template 'for every input the law returns true; each argument reads behind the call as it read before'; 0 by the template 'total and deterministic' (their statements: YtmblppinfbbndaaTotals.lean).
  GIVEN WITH THE SEED: the statements are not yours to turn. If you find one false, say at which input.
  Laid BY PROGRAM, IN A SANDBOX (cutbox-rows.mjs): the forced cells as the released guide's own fill.sh prints them over the translation 5018a5ad65313b8d… (all of the seat's roots in one cut). By AI agents, Wed Nov 11 2026. No macro, syntax, notation, axiom, sorry.
-/
import Derived.Test.YtmblppinfbbndaaChecked
import GoSem.Claim
import GoSem.ClaimJoined
import GoSem.ClaimMapViews
import Derived.JoinedTies
import Derived.KernelRfl
namespace Go.Proofs.Ytmblppinfbbndaa
/- THE CELL 'sum', in the pinned program and in every row, IS THE sha256 OF THE DUMP (.gsa) THAT YtmblppinfbbndaaProg.lean LOADS. Nothing in Lean hashes anything: it is a label: what it is worth is what the hold of that sum in a sandbox is worth. -/
noncomputable def Try.pinned : Pinned := { name := "ytmblppinfbbndaa", sum := "5018a5ad65313b8dd1269bfa0daf22dbb5afec05c9c100c1118e05bf250076d3", checked := Try.checked }
namespace Rows
def none {H : Type} : Left H := { results := [], args := [] }

/-- 'laws.FnExactValidRule': WHATEVER THE INPUT: true; the input reads as it did. -/
def fnExactValidRuleSpec : ChangeSpec := { name := "fnExactValidRule", fn := fun _ => fun
  | [d] => { results := [.lit (.bool true)], args := [d] }
  | _ => none }
def fnExactValidRuleRow : OpenClaim := { program := "ytmblppinfbbndaa", sum := "5018a5ad65313b8dd1269bfa0daf22dbb5afec05c9c100c1118e05bf250076d3", func := "loop.example/g01393/laws.FnExactValidRule", spec := "fnExactValidRule", apart := false }
def FnExactValidRuleSaid : Prop := fnExactValidRuleRow.holds Try.pinned (OpenSpec.ofChange fnExactValidRuleSpec)

/-- ITS FALSE NEIGHBOUR: 'it returns false'. Refute it at one input. -/
def fnExactValidRuleWrong : ChangeSpec := { name := "fnExactValidRule", fn := fun _ => fun
  | [d] => { results := [.lit (.bool false)], args := [d] }
  | _ => none }
def FnExactValidRuleWrongFalsely : Prop := fnExactValidRuleRow.holds Try.pinned (OpenSpec.ofChange fnExactValidRuleWrong)

/-- 'laws.FnExactAreRules': WHATEVER THE INPUT: true; the input reads as it did. -/
def fnExactAreRulesSpec : ChangeSpec := { name := "fnExactAreRules", fn := fun _ => fun
  | [d] => { results := [.lit (.bool true)], args := [d] }
  | _ => none }
def fnExactAreRulesRow : OpenClaim := { program := "ytmblppinfbbndaa", sum := "5018a5ad65313b8dd1269bfa0daf22dbb5afec05c9c100c1118e05bf250076d3", func := "loop.example/g01393/laws.FnExactAreRules", spec := "fnExactAreRules", unfollowed := true, recurses := true, apart := false }
def FnExactAreRulesSaid : Prop := fnExactAreRulesRow.holds Try.pinned (OpenSpec.ofChange fnExactAreRulesSpec)

/-- ITS FALSE NEIGHBOUR: 'it returns false'. Refute it at one input. -/
def fnExactAreRulesWrong : ChangeSpec := { name := "fnExactAreRules", fn := fun _ => fun
  | [d] => { results := [.lit (.bool false)], args := [d] }
  | _ => none }
def FnExactAreRulesWrongFalsely : Prop := fnExactAreRulesRow.holds Try.pinned (OpenSpec.ofChange fnExactAreRulesWrong)

/-- 'laws.FnExactSameRules': WHATEVER THE INPUT: true; the input reads as it did. -/
def fnExactSameRulesSpec : ChangeSpec := { name := "fnExactSameRules", fn := fun _ => fun
  | [d1, d2] => { results := [.lit (.bool true)], args := [d1, d2] }
  | _ => none }
def fnExactSameRulesRow : OpenClaim := { program := "ytmblppinfbbndaa", sum := "5018a5ad65313b8dd1269bfa0daf22dbb5afec05c9c100c1118e05bf250076d3", func := "loop.example/g01393/laws.FnExactSameRules", spec := "fnExactSameRules", unfollowed := true, recurses := true, apart := false }
def FnExactSameRulesSaid : Prop := fnExactSameRulesRow.holds Try.pinned (OpenSpec.ofChange fnExactSameRulesSpec)

/-- ITS FALSE NEIGHBOUR: 'it returns false'. Refute it at one input. -/
def fnExactSameRulesWrong : ChangeSpec := { name := "fnExactSameRules", fn := fun _ => fun
  | [d1, d2] => { results := [.lit (.bool false)], args := [d1, d2] }
  | _ => none }
def FnExactSameRulesWrongFalsely : Prop := fnExactSameRulesRow.holds Try.pinned (OpenSpec.ofChange fnExactSameRulesWrong)

/-- 'laws.FnExactAreRows': WHATEVER THE INPUT: true; the input reads as it did. -/
def fnExactAreRowsSpec : ChangeSpec := { name := "fnExactAreRows", fn := fun _ => fun
  | [d1, d2] => { results := [.lit (.bool true)], args := [d1, d2] }
  | _ => none }
def fnExactAreRowsRow : OpenClaim := { program := "ytmblppinfbbndaa", sum := "5018a5ad65313b8dd1269bfa0daf22dbb5afec05c9c100c1118e05bf250076d3", func := "loop.example/g01393/laws.FnExactAreRows", spec := "fnExactAreRows", unfollowed := true, recurses := true, apart := false }
def FnExactAreRowsSaid : Prop := fnExactAreRowsRow.holds Try.pinned (OpenSpec.ofChange fnExactAreRowsSpec)

/-- ITS FALSE NEIGHBOUR: 'it returns false'. Refute it at one input. -/
def fnExactAreRowsWrong : ChangeSpec := { name := "fnExactAreRows", fn := fun _ => fun
  | [d1, d2] => { results := [.lit (.bool false)], args := [d1, d2] }
  | _ => none }
def FnExactAreRowsWrongFalsely : Prop := fnExactAreRowsRow.holds Try.pinned (OpenSpec.ofChange fnExactAreRowsWrong)

/-- 'laws.FnExactRowAnswer': WHATEVER THE INPUT: true; the input reads as it did. -/
def fnExactRowAnswerSpec : ChangeSpec := { name := "fnExactRowAnswer", fn := fun _ => fun
  | [d1, d2, d3] => { results := [.lit (.bool true)], args := [d1, d2, d3] }
  | _ => none }
def fnExactRowAnswerRow : OpenClaim := { program := "ytmblppinfbbndaa", sum := "5018a5ad65313b8dd1269bfa0daf22dbb5afec05c9c100c1118e05bf250076d3", func := "loop.example/g01393/laws.FnExactRowAnswer", spec := "fnExactRowAnswer", unfollowed := true, recurses := true, apart := false }
def FnExactRowAnswerSaid : Prop := fnExactRowAnswerRow.holds Try.pinned (OpenSpec.ofChange fnExactRowAnswerSpec)

/-- ITS FALSE NEIGHBOUR: 'it returns false'. Refute it at one input. -/
def fnExactRowAnswerWrong : ChangeSpec := { name := "fnExactRowAnswer", fn := fun _ => fun
  | [d1, d2, d3] => { results := [.lit (.bool false)], args := [d1, d2, d3] }
  | _ => none }
def FnExactRowAnswerWrongFalsely : Prop := fnExactRowAnswerRow.holds Try.pinned (OpenSpec.ofChange fnExactRowAnswerWrong)

/-- 'laws.FnExactRowGaps': WHATEVER THE INPUT: true; the input reads as it did. -/
def fnExactRowGapsSpec : ChangeSpec := { name := "fnExactRowGaps", fn := fun _ => fun
  | [d1, d2] => { results := [.lit (.bool true)], args := [d1, d2] }
  | _ => none }
def fnExactRowGapsRow : OpenClaim := { program := "ytmblppinfbbndaa", sum := "5018a5ad65313b8dd1269bfa0daf22dbb5afec05c9c100c1118e05bf250076d3", func := "loop.example/g01393/laws.FnExactRowGaps", spec := "fnExactRowGaps", unfollowed := true, recurses := true, apart := false }
def FnExactRowGapsSaid : Prop := fnExactRowGapsRow.holds Try.pinned (OpenSpec.ofChange fnExactRowGapsSpec)

/-- ITS FALSE NEIGHBOUR: 'it returns false'. Refute it at one input. -/
def fnExactRowGapsWrong : ChangeSpec := { name := "fnExactRowGaps", fn := fun _ => fun
  | [d1, d2] => { results := [.lit (.bool false)], args := [d1, d2] }
  | _ => none }
def FnExactRowGapsWrongFalsely : Prop := fnExactRowGapsRow.holds Try.pinned (OpenSpec.ofChange fnExactRowGapsWrong)

/-- 'laws.FnExactRowClashes': WHATEVER THE INPUT: true; the input reads as it did. -/
def fnExactRowClashesSpec : ChangeSpec := { name := "fnExactRowClashes", fn := fun _ => fun
  | [d1, d2] => { results := [.lit (.bool true)], args := [d1, d2] }
  | _ => none }
def fnExactRowClashesRow : OpenClaim := { program := "ytmblppinfbbndaa", sum := "5018a5ad65313b8dd1269bfa0daf22dbb5afec05c9c100c1118e05bf250076d3", func := "loop.example/g01393/laws.FnExactRowClashes", spec := "fnExactRowClashes", unfollowed := true, recurses := true, apart := false }
def FnExactRowClashesSaid : Prop := fnExactRowClashesRow.holds Try.pinned (OpenSpec.ofChange fnExactRowClashesSpec)

/-- ITS FALSE NEIGHBOUR: 'it returns false'. Refute it at one input. -/
def fnExactRowClashesWrong : ChangeSpec := { name := "fnExactRowClashes", fn := fun _ => fun
  | [d1, d2] => { results := [.lit (.bool false)], args := [d1, d2] }
  | _ => none }
def FnExactRowClashesWrongFalsely : Prop := fnExactRowClashesRow.holds Try.pinned (OpenSpec.ofChange fnExactRowClashesWrong)

/-- 'laws.FnExactRowCounts': WHATEVER THE INPUT: true; the input reads as it did. -/
def fnExactRowCountsSpec : ChangeSpec := { name := "fnExactRowCounts", fn := fun _ => fun
  | [d1, d2] => { results := [.lit (.bool true)], args := [d1, d2] }
  | _ => none }
def fnExactRowCountsRow : OpenClaim := { program := "ytmblppinfbbndaa", sum := "5018a5ad65313b8dd1269bfa0daf22dbb5afec05c9c100c1118e05bf250076d3", func := "loop.example/g01393/laws.FnExactRowCounts", spec := "fnExactRowCounts", unfollowed := true, recurses := true, apart := false }
def FnExactRowCountsSaid : Prop := fnExactRowCountsRow.holds Try.pinned (OpenSpec.ofChange fnExactRowCountsSpec)

/-- ITS FALSE NEIGHBOUR: 'it returns false'. Refute it at one input. -/
def fnExactRowCountsWrong : ChangeSpec := { name := "fnExactRowCounts", fn := fun _ => fun
  | [d1, d2] => { results := [.lit (.bool false)], args := [d1, d2] }
  | _ => none }
def FnExactRowCountsWrongFalsely : Prop := fnExactRowCountsRow.holds Try.pinned (OpenSpec.ofChange fnExactRowCountsWrong)

/-- 'laws.FnExactFirstRows': WHATEVER THE INPUT: true; the input reads as it did. -/
def fnExactFirstRowsSpec : ChangeSpec := { name := "fnExactFirstRows", fn := fun _ => fun
  | [d1, d2] => { results := [.lit (.bool true)], args := [d1, d2] }
  | _ => none }
def fnExactFirstRowsRow : OpenClaim := { program := "ytmblppinfbbndaa", sum := "5018a5ad65313b8dd1269bfa0daf22dbb5afec05c9c100c1118e05bf250076d3", func := "loop.example/g01393/laws.FnExactFirstRows", spec := "fnExactFirstRows", unfollowed := true, recurses := true, apart := false }
def FnExactFirstRowsSaid : Prop := fnExactFirstRowsRow.holds Try.pinned (OpenSpec.ofChange fnExactFirstRowsSpec)

/-- ITS FALSE NEIGHBOUR: 'it returns false'. Refute it at one input. -/
def fnExactFirstRowsWrong : ChangeSpec := { name := "fnExactFirstRows", fn := fun _ => fun
  | [d1, d2] => { results := [.lit (.bool false)], args := [d1, d2] }
  | _ => none }
def FnExactFirstRowsWrongFalsely : Prop := fnExactFirstRowsRow.holds Try.pinned (OpenSpec.ofChange fnExactFirstRowsWrong)

/-- 'laws.FnExactActiveRules': WHATEVER THE INPUT: true; the input reads as it did. -/
def fnExactActiveRulesSpec : ChangeSpec := { name := "fnExactActiveRules", fn := fun _ => fun
  | [d1, d2] => { results := [.lit (.bool true)], args := [d1, d2] }
  | _ => none }
def fnExactActiveRulesRow : OpenClaim := { program := "ytmblppinfbbndaa", sum := "5018a5ad65313b8dd1269bfa0daf22dbb5afec05c9c100c1118e05bf250076d3", func := "loop.example/g01393/laws.FnExactActiveRules", spec := "fnExactActiveRules", unfollowed := true, recurses := true, apart := false }
def FnExactActiveRulesSaid : Prop := fnExactActiveRulesRow.holds Try.pinned (OpenSpec.ofChange fnExactActiveRulesSpec)

/-- ITS FALSE NEIGHBOUR: 'it returns false'. Refute it at one input. -/
def fnExactActiveRulesWrong : ChangeSpec := { name := "fnExactActiveRules", fn := fun _ => fun
  | [d1, d2] => { results := [.lit (.bool false)], args := [d1, d2] }
  | _ => none }
def FnExactActiveRulesWrongFalsely : Prop := fnExactActiveRulesRow.holds Try.pinned (OpenSpec.ofChange fnExactActiveRulesWrong)

/-- 'laws.FnExactClashesOf': WHATEVER THE INPUT: true; the input reads as it did. -/
def fnExactClashesOfSpec : ChangeSpec := { name := "fnExactClashesOf", fn := fun _ => fun
  | [d1, d2] => { results := [.lit (.bool true)], args := [d1, d2] }
  | _ => none }
def fnExactClashesOfRow : OpenClaim := { program := "ytmblppinfbbndaa", sum := "5018a5ad65313b8dd1269bfa0daf22dbb5afec05c9c100c1118e05bf250076d3", func := "loop.example/g01393/laws.FnExactClashesOf", spec := "fnExactClashesOf", unfollowed := true, recurses := true, apart := false }
def FnExactClashesOfSaid : Prop := fnExactClashesOfRow.holds Try.pinned (OpenSpec.ofChange fnExactClashesOfSpec)

/-- ITS FALSE NEIGHBOUR: 'it returns false'. Refute it at one input. -/
def fnExactClashesOfWrong : ChangeSpec := { name := "fnExactClashesOf", fn := fun _ => fun
  | [d1, d2] => { results := [.lit (.bool false)], args := [d1, d2] }
  | _ => none }
def FnExactClashesOfWrongFalsely : Prop := fnExactClashesOfRow.holds Try.pinned (OpenSpec.ofChange fnExactClashesOfWrong)

/-- 'laws.FnExactChangeDays': WHATEVER THE INPUT: true; the input reads as it did. -/
def fnExactChangeDaysSpec : ChangeSpec := { name := "fnExactChangeDays", fn := fun _ => fun
  | [d] => { results := [.lit (.bool true)], args := [d] }
  | _ => none }
def fnExactChangeDaysRow : OpenClaim := { program := "ytmblppinfbbndaa", sum := "5018a5ad65313b8dd1269bfa0daf22dbb5afec05c9c100c1118e05bf250076d3", func := "loop.example/g01393/laws.FnExactChangeDays", spec := "fnExactChangeDays", unfollowed := true, recurses := true, apart := false }
def FnExactChangeDaysSaid : Prop := fnExactChangeDaysRow.holds Try.pinned (OpenSpec.ofChange fnExactChangeDaysSpec)

/-- ITS FALSE NEIGHBOUR: 'it returns false'. Refute it at one input. -/
def fnExactChangeDaysWrong : ChangeSpec := { name := "fnExactChangeDays", fn := fun _ => fun
  | [d] => { results := [.lit (.bool false)], args := [d] }
  | _ => none }
def FnExactChangeDaysWrongFalsely : Prop := fnExactChangeDaysRow.holds Try.pinned (OpenSpec.ofChange fnExactChangeDaysWrong)

/- THE SECOND FORM. 'bulk': how many values and letters a reading holds, each counted each time it is reached (what is shared counts as often as it is met; a slice's spare places count too). A statement '..UptoSaid' is the law's where the arguments, and the package variables that the reading takes, are together of bulk at most 1048576: NARROWER than '..Said'. Prove '..Said' where nothing that the law and all that it calls make is longer than what came in: it says more and counts as full. Else prove '..UptoSaid'. A law counts once. -/
mutual
def uptoBulk {H : Type} : DataW H → Nat
  | .lit (.string bytes) => bytes.length + 1
  | .lit _ => 1
  | .nil => 1
  | .ptr d => uptoBulk d + 1
  | .slice elems spare => uptoBulkAll elems + uptoBulkAll spare + 1
  | .agg parts => uptoBulkAll parts + 1
  | .iface _ d => uptoBulk d + 1
  | .map entries => uptoBulkEntries entries + 1
  | .held _ => 1
def uptoBulkAll {H : Type} : List (DataW H) → Nat
  | [] => 0
  | d :: r => uptoBulk d + uptoBulkAll r
def uptoBulkEntries {H : Type} : List (Lit × DataW H) → Nat
  | [] => 0
  | x :: r => uptoBulkEntry x + uptoBulkEntries r
def uptoBulkEntry {H : Type} : Lit × DataW H → Nat
  | (.string bytes, d) => bytes.length + uptoBulk d + 1
  | (_, d) => uptoBulk d + 1
 end
def uptoSmall : (H : Type) → List (DataW H) → Bool := fun _ ds => decide (uptoBulkAll ds ≤ 1048576)
def OpenSpec.upto (s : _root_.Go.ChangeSpec) : _root_.Go.OpenSpec := { _root_.Go.OpenSpec.ofChange s with cond := some uptoSmall }

/-- 'laws.FnExactValidRule', WHERE WHAT IT READS IS OF BULK AT MOST 1048576: true; the input reads as it did. -/
def fnExactValidRuleUptoRow : OpenClaim := { program := "ytmblppinfbbndaa", sum := "5018a5ad65313b8dd1269bfa0daf22dbb5afec05c9c100c1118e05bf250076d3", func := "loop.example/g01393/laws.FnExactValidRule", spec := "fnExactValidRule", apart := false, narrowed := true }
def FnExactValidRuleUptoSaid : Prop := fnExactValidRuleUptoRow.holds Try.pinned (OpenSpec.upto fnExactValidRuleSpec)

/-- 'laws.FnExactAreRules', WHERE WHAT IT READS IS OF BULK AT MOST 1048576: true; the input reads as it did. -/
def fnExactAreRulesUptoRow : OpenClaim := { program := "ytmblppinfbbndaa", sum := "5018a5ad65313b8dd1269bfa0daf22dbb5afec05c9c100c1118e05bf250076d3", func := "loop.example/g01393/laws.FnExactAreRules", spec := "fnExactAreRules", unfollowed := true, recurses := true, apart := false, narrowed := true }
def FnExactAreRulesUptoSaid : Prop := fnExactAreRulesUptoRow.holds Try.pinned (OpenSpec.upto fnExactAreRulesSpec)

/-- 'laws.FnExactSameRules', WHERE WHAT IT READS IS OF BULK AT MOST 1048576: true; the input reads as it did. -/
def fnExactSameRulesUptoRow : OpenClaim := { program := "ytmblppinfbbndaa", sum := "5018a5ad65313b8dd1269bfa0daf22dbb5afec05c9c100c1118e05bf250076d3", func := "loop.example/g01393/laws.FnExactSameRules", spec := "fnExactSameRules", unfollowed := true, recurses := true, apart := false, narrowed := true }
def FnExactSameRulesUptoSaid : Prop := fnExactSameRulesUptoRow.holds Try.pinned (OpenSpec.upto fnExactSameRulesSpec)

/-- 'laws.FnExactAreRows', WHERE WHAT IT READS IS OF BULK AT MOST 1048576: true; the input reads as it did. -/
def fnExactAreRowsUptoRow : OpenClaim := { program := "ytmblppinfbbndaa", sum := "5018a5ad65313b8dd1269bfa0daf22dbb5afec05c9c100c1118e05bf250076d3", func := "loop.example/g01393/laws.FnExactAreRows", spec := "fnExactAreRows", unfollowed := true, recurses := true, apart := false, narrowed := true }
def FnExactAreRowsUptoSaid : Prop := fnExactAreRowsUptoRow.holds Try.pinned (OpenSpec.upto fnExactAreRowsSpec)

/-- 'laws.FnExactRowAnswer', WHERE WHAT IT READS IS OF BULK AT MOST 1048576: true; the input reads as it did. -/
def fnExactRowAnswerUptoRow : OpenClaim := { program := "ytmblppinfbbndaa", sum := "5018a5ad65313b8dd1269bfa0daf22dbb5afec05c9c100c1118e05bf250076d3", func := "loop.example/g01393/laws.FnExactRowAnswer", spec := "fnExactRowAnswer", unfollowed := true, recurses := true, apart := false, narrowed := true }
def FnExactRowAnswerUptoSaid : Prop := fnExactRowAnswerUptoRow.holds Try.pinned (OpenSpec.upto fnExactRowAnswerSpec)

/-- 'laws.FnExactRowGaps', WHERE WHAT IT READS IS OF BULK AT MOST 1048576: true; the input reads as it did. -/
def fnExactRowGapsUptoRow : OpenClaim := { program := "ytmblppinfbbndaa", sum := "5018a5ad65313b8dd1269bfa0daf22dbb5afec05c9c100c1118e05bf250076d3", func := "loop.example/g01393/laws.FnExactRowGaps", spec := "fnExactRowGaps", unfollowed := true, recurses := true, apart := false, narrowed := true }
def FnExactRowGapsUptoSaid : Prop := fnExactRowGapsUptoRow.holds Try.pinned (OpenSpec.upto fnExactRowGapsSpec)

/-- 'laws.FnExactRowClashes', WHERE WHAT IT READS IS OF BULK AT MOST 1048576: true; the input reads as it did. -/
def fnExactRowClashesUptoRow : OpenClaim := { program := "ytmblppinfbbndaa", sum := "5018a5ad65313b8dd1269bfa0daf22dbb5afec05c9c100c1118e05bf250076d3", func := "loop.example/g01393/laws.FnExactRowClashes", spec := "fnExactRowClashes", unfollowed := true, recurses := true, apart := false, narrowed := true }
def FnExactRowClashesUptoSaid : Prop := fnExactRowClashesUptoRow.holds Try.pinned (OpenSpec.upto fnExactRowClashesSpec)

/-- 'laws.FnExactRowCounts', WHERE WHAT IT READS IS OF BULK AT MOST 1048576: true; the input reads as it did. -/
def fnExactRowCountsUptoRow : OpenClaim := { program := "ytmblppinfbbndaa", sum := "5018a5ad65313b8dd1269bfa0daf22dbb5afec05c9c100c1118e05bf250076d3", func := "loop.example/g01393/laws.FnExactRowCounts", spec := "fnExactRowCounts", unfollowed := true, recurses := true, apart := false, narrowed := true }
def FnExactRowCountsUptoSaid : Prop := fnExactRowCountsUptoRow.holds Try.pinned (OpenSpec.upto fnExactRowCountsSpec)

/-- 'laws.FnExactFirstRows', WHERE WHAT IT READS IS OF BULK AT MOST 1048576: true; the input reads as it did. -/
def fnExactFirstRowsUptoRow : OpenClaim := { program := "ytmblppinfbbndaa", sum := "5018a5ad65313b8dd1269bfa0daf22dbb5afec05c9c100c1118e05bf250076d3", func := "loop.example/g01393/laws.FnExactFirstRows", spec := "fnExactFirstRows", unfollowed := true, recurses := true, apart := false, narrowed := true }
def FnExactFirstRowsUptoSaid : Prop := fnExactFirstRowsUptoRow.holds Try.pinned (OpenSpec.upto fnExactFirstRowsSpec)

/-- 'laws.FnExactActiveRules', WHERE WHAT IT READS IS OF BULK AT MOST 1048576: true; the input reads as it did. -/
def fnExactActiveRulesUptoRow : OpenClaim := { program := "ytmblppinfbbndaa", sum := "5018a5ad65313b8dd1269bfa0daf22dbb5afec05c9c100c1118e05bf250076d3", func := "loop.example/g01393/laws.FnExactActiveRules", spec := "fnExactActiveRules", unfollowed := true, recurses := true, apart := false, narrowed := true }
def FnExactActiveRulesUptoSaid : Prop := fnExactActiveRulesUptoRow.holds Try.pinned (OpenSpec.upto fnExactActiveRulesSpec)

/-- 'laws.FnExactClashesOf', WHERE WHAT IT READS IS OF BULK AT MOST 1048576: true; the input reads as it did. -/
def fnExactClashesOfUptoRow : OpenClaim := { program := "ytmblppinfbbndaa", sum := "5018a5ad65313b8dd1269bfa0daf22dbb5afec05c9c100c1118e05bf250076d3", func := "loop.example/g01393/laws.FnExactClashesOf", spec := "fnExactClashesOf", unfollowed := true, recurses := true, apart := false, narrowed := true }
def FnExactClashesOfUptoSaid : Prop := fnExactClashesOfUptoRow.holds Try.pinned (OpenSpec.upto fnExactClashesOfSpec)

/-- 'laws.FnExactChangeDays', WHERE WHAT IT READS IS OF BULK AT MOST 1048576: true; the input reads as it did. -/
def fnExactChangeDaysUptoRow : OpenClaim := { program := "ytmblppinfbbndaa", sum := "5018a5ad65313b8dd1269bfa0daf22dbb5afec05c9c100c1118e05bf250076d3", func := "loop.example/g01393/laws.FnExactChangeDays", spec := "fnExactChangeDays", unfollowed := true, recurses := true, apart := false, narrowed := true }
def FnExactChangeDaysUptoSaid : Prop := fnExactChangeDaysUptoRow.holds Try.pinned (OpenSpec.upto fnExactChangeDaysSpec)

end Rows
end Go.Proofs.Ytmblppinfbbndaa
