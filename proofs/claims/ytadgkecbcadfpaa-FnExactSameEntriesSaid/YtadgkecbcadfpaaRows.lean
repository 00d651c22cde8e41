/-
  No cell of these rows narrows 'for every input' (looked for: loops, veiled, ifaces, maps, wideKeys, modest, calm, conditions, laid).
  DERIVED. THE GIVEN ROWS OF THIS SEAT. 12 by the template 'for every input the law returns true; each argument reads behind the call as it read before'; 0 by the template 'total and deterministic' (their statements: YtadgkecbcadfpaaTotals.lean).
  GIVEN WITH THE SEED: the statements are not yours to turn. If you find one false, say at which input.
  Laid BY PROGRAM, IN A SANDBOX (cutbox-rows.mjs): the forced cells as the released guide's own fill.sh prints them over the translation 473abba35cba9461… (all of the seat's roots in one cut). By AI agents, Wed Nov 11 2026. No macro, syntax, notation, axiom, sorry.
-/
import Derived.Test.YtadgkecbcadfpaaChecked
import GoSem.Claim
import GoSem.ClaimJoined
import GoSem.ClaimMapViews
import Derived.JoinedTies
import Derived.KernelRfl
namespace Go.Proofs.Ytadgkecbcadfpaa
/- THE CELL 'sum', in the pinned program and in every row, IS THE sha256 OF THE DUMP (.gsa) THAT YtadgkecbcadfpaaProg.lean LOADS. Nothing in Lean hashes anything: it is a label: what it is worth is what the hold of that sum in a sandbox is worth. -/
noncomputable def Try.pinned : Pinned := { name := "ytadgkecbcadfpaa", sum := "473abba35cba9461a3f04e1f93ee2833c919ae1f255752b5295c918dc826ba30", checked := Try.checked }
namespace Rows
def none {H : Type} : Left H := { results := [], args := [] }

/-- 'laws.FnExactAreEntries': WHATEVER THE INPUT: true; the input reads as it did. -/
def fnExactAreEntriesSpec : ChangeSpec := { name := "fnExactAreEntries", fn := fun _ => fun
  | [d] => { results := [.lit (.bool true)], args := [d] }
  | _ => none }
def fnExactAreEntriesRow : OpenClaim := { program := "ytadgkecbcadfpaa", sum := "473abba35cba9461a3f04e1f93ee2833c919ae1f255752b5295c918dc826ba30", func := "loop.example/g01393/laws.FnExactAreEntries", spec := "fnExactAreEntries", apart := false }
def FnExactAreEntriesSaid : Prop := fnExactAreEntriesRow.holds Try.pinned (OpenSpec.ofChange fnExactAreEntriesSpec)

/-- ITS FALSE NEIGHBOUR: 'it returns false'. Refute it at one input. -/
def fnExactAreEntriesWrong : ChangeSpec := { name := "fnExactAreEntries", fn := fun _ => fun
  | [d] => { results := [.lit (.bool false)], args := [d] }
  | _ => none }
def FnExactAreEntriesWrongFalsely : Prop := fnExactAreEntriesRow.holds Try.pinned (OpenSpec.ofChange fnExactAreEntriesWrong)

/-- 'laws.FnExactSameEntries': WHATEVER THE INPUT: true; the input reads as it did. -/
def fnExactSameEntriesSpec : ChangeSpec := { name := "fnExactSameEntries", fn := fun _ => fun
  | [d1, d2] => { results := [.lit (.bool true)], args := [d1, d2] }
  | _ => none }
def fnExactSameEntriesRow : OpenClaim := { program := "ytadgkecbcadfpaa", sum := "473abba35cba9461a3f04e1f93ee2833c919ae1f255752b5295c918dc826ba30", func := "loop.example/g01393/laws.FnExactSameEntries", spec := "fnExactSameEntries", apart := false }
def FnExactSameEntriesSaid : Prop := fnExactSameEntriesRow.holds Try.pinned (OpenSpec.ofChange fnExactSameEntriesSpec)

/-- ITS FALSE NEIGHBOUR: 'it returns false'. Refute it at one input. -/
def fnExactSameEntriesWrong : ChangeSpec := { name := "fnExactSameEntries", fn := fun _ => fun
  | [d1, d2] => { results := [.lit (.bool false)], args := [d1, d2] }
  | _ => none }
def FnExactSameEntriesWrongFalsely : Prop := fnExactSameEntriesRow.holds Try.pinned (OpenSpec.ofChange fnExactSameEntriesWrong)

/-- 'laws.FnExactFirstShort': WHATEVER THE INPUT: true; the input reads as it did. -/
def fnExactFirstShortSpec : ChangeSpec := { name := "fnExactFirstShort", fn := fun _ => fun
  | [d1, d2] => { results := [.lit (.bool true)], args := [d1, d2] }
  | _ => none }
def fnExactFirstShortRow : OpenClaim := { program := "ytadgkecbcadfpaa", sum := "473abba35cba9461a3f04e1f93ee2833c919ae1f255752b5295c918dc826ba30", func := "loop.example/g01393/laws.FnExactFirstShort", spec := "fnExactFirstShort", apart := false }
def FnExactFirstShortSaid : Prop := fnExactFirstShortRow.holds Try.pinned (OpenSpec.ofChange fnExactFirstShortSpec)

/-- ITS FALSE NEIGHBOUR: 'it returns false'. Refute it at one input. -/
def fnExactFirstShortWrong : ChangeSpec := { name := "fnExactFirstShort", fn := fun _ => fun
  | [d1, d2] => { results := [.lit (.bool false)], args := [d1, d2] }
  | _ => none }
def FnExactFirstShortWrongFalsely : Prop := fnExactFirstShortRow.holds Try.pinned (OpenSpec.ofChange fnExactFirstShortWrong)

/-- 'laws.FnExactAreDebts': WHATEVER THE INPUT: true; the input reads as it did. -/
def fnExactAreDebtsSpec : ChangeSpec := { name := "fnExactAreDebts", fn := fun _ => fun
  | [d] => { results := [.lit (.bool true)], args := [d] }
  | _ => none }
def fnExactAreDebtsRow : OpenClaim := { program := "ytadgkecbcadfpaa", sum := "473abba35cba9461a3f04e1f93ee2833c919ae1f255752b5295c918dc826ba30", func := "loop.example/g01393/laws.FnExactAreDebts", spec := "fnExactAreDebts", unfollowed := true, recurses := true, apart := false }
def FnExactAreDebtsSaid : Prop := fnExactAreDebtsRow.holds Try.pinned (OpenSpec.ofChange fnExactAreDebtsSpec)

/-- ITS FALSE NEIGHBOUR: 'it returns false'. Refute it at one input. -/
def fnExactAreDebtsWrong : ChangeSpec := { name := "fnExactAreDebts", fn := fun _ => fun
  | [d] => { results := [.lit (.bool false)], args := [d] }
  | _ => none }
def FnExactAreDebtsWrongFalsely : Prop := fnExactAreDebtsRow.holds Try.pinned (OpenSpec.ofChange fnExactAreDebtsWrong)

/-- 'laws.FnExactRoundPart': WHATEVER THE INPUT: true; the input reads as it did. -/
def fnExactRoundPartSpec : ChangeSpec := { name := "fnExactRoundPart", fn := fun _ => fun
  | [d1, d2, d3, d4] => { results := [.lit (.bool true)], args := [d1, d2, d3, d4] }
  | _ => none }
def fnExactRoundPartRow : OpenClaim := { program := "ytadgkecbcadfpaa", sum := "473abba35cba9461a3f04e1f93ee2833c919ae1f255752b5295c918dc826ba30", func := "loop.example/g01393/laws.FnExactRoundPart", spec := "fnExactRoundPart", apart := false }
def FnExactRoundPartSaid : Prop := fnExactRoundPartRow.holds Try.pinned (OpenSpec.ofChange fnExactRoundPartSpec)

/-- ITS FALSE NEIGHBOUR: 'it returns false'. Refute it at one input. -/
def fnExactRoundPartWrong : ChangeSpec := { name := "fnExactRoundPart", fn := fun _ => fun
  | [d1, d2, d3, d4] => { results := [.lit (.bool false)], args := [d1, d2, d3, d4] }
  | _ => none }
def FnExactRoundPartWrongFalsely : Prop := fnExactRoundPartRow.holds Try.pinned (OpenSpec.ofChange fnExactRoundPartWrong)

/-- 'laws.FnExactDayOf': WHATEVER THE INPUT: true; the input reads as it did. -/
def fnExactDayOfSpec : ChangeSpec := { name := "fnExactDayOf", fn := fun _ => fun
  | [d1, d2, d3] => { results := [.lit (.bool true)], args := [d1, d2, d3] }
  | _ => none }
def fnExactDayOfRow : OpenClaim := { program := "ytadgkecbcadfpaa", sum := "473abba35cba9461a3f04e1f93ee2833c919ae1f255752b5295c918dc826ba30", func := "loop.example/g01393/laws.FnExactDayOf", spec := "fnExactDayOf", apart := false }
def FnExactDayOfSaid : Prop := fnExactDayOfRow.holds Try.pinned (OpenSpec.ofChange fnExactDayOfSpec)

/-- ITS FALSE NEIGHBOUR: 'it returns false'. Refute it at one input. -/
def fnExactDayOfWrong : ChangeSpec := { name := "fnExactDayOf", fn := fun _ => fun
  | [d1, d2, d3] => { results := [.lit (.bool false)], args := [d1, d2, d3] }
  | _ => none }
def FnExactDayOfWrongFalsely : Prop := fnExactDayOfRow.holds Try.pinned (OpenSpec.ofChange fnExactDayOfWrong)

/-- 'laws.FnExactDateOf': WHATEVER THE INPUT: true; the input reads as it did. -/
def fnExactDateOfSpec : ChangeSpec := { name := "fnExactDateOf", fn := fun _ => fun
  | [d] => { results := [.lit (.bool true)], args := [d] }
  | _ => none }
def fnExactDateOfRow : OpenClaim := { program := "ytadgkecbcadfpaa", sum := "473abba35cba9461a3f04e1f93ee2833c919ae1f255752b5295c918dc826ba30", func := "loop.example/g01393/laws.FnExactDateOf", spec := "fnExactDateOf", apart := false }
def FnExactDateOfSaid : Prop := fnExactDateOfRow.holds Try.pinned (OpenSpec.ofChange fnExactDateOfSpec)

/-- ITS FALSE NEIGHBOUR: 'it returns false'. Refute it at one input. -/
def fnExactDateOfWrong : ChangeSpec := { name := "fnExactDateOf", fn := fun _ => fun
  | [d] => { results := [.lit (.bool false)], args := [d] }
  | _ => none }
def FnExactDateOfWrongFalsely : Prop := fnExactDateOfRow.holds Try.pinned (OpenSpec.ofChange fnExactDateOfWrong)

/-- 'laws.FnExactDaysBetween': WHATEVER THE INPUT: true; the input reads as it did. -/
def fnExactDaysBetweenSpec : ChangeSpec := { name := "fnExactDaysBetween", fn := fun _ => fun
  | [d1, d2, d3] => { results := [.lit (.bool true)], args := [d1, d2, d3] }
  | _ => none }
def fnExactDaysBetweenRow : OpenClaim := { program := "ytadgkecbcadfpaa", sum := "473abba35cba9461a3f04e1f93ee2833c919ae1f255752b5295c918dc826ba30", func := "loop.example/g01393/laws.FnExactDaysBetween", spec := "fnExactDaysBetween", apart := false }
def FnExactDaysBetweenSaid : Prop := fnExactDaysBetweenRow.holds Try.pinned (OpenSpec.ofChange fnExactDaysBetweenSpec)

/-- ITS FALSE NEIGHBOUR: 'it returns false'. Refute it at one input. -/
def fnExactDaysBetweenWrong : ChangeSpec := { name := "fnExactDaysBetween", fn := fun _ => fun
  | [d1, d2, d3] => { results := [.lit (.bool false)], args := [d1, d2, d3] }
  | _ => none }
def FnExactDaysBetweenWrongFalsely : Prop := fnExactDaysBetweenRow.holds Try.pinned (OpenSpec.ofChange fnExactDaysBetweenWrong)

/-- 'laws.FnExactInterestOf': WHATEVER THE INPUT: true; the input reads as it did. -/
def fnExactInterestOfSpec : ChangeSpec := { name := "fnExactInterestOf", fn := fun _ => fun
  | [d1, d2, d3, d4, d5] => { results := [.lit (.bool true)], args := [d1, d2, d3, d4, d5] }
  | _ => none }
def fnExactInterestOfRow : OpenClaim := { program := "ytadgkecbcadfpaa", sum := "473abba35cba9461a3f04e1f93ee2833c919ae1f255752b5295c918dc826ba30", func := "loop.example/g01393/laws.FnExactInterestOf", spec := "fnExactInterestOf", apart := false }
def FnExactInterestOfSaid : Prop := fnExactInterestOfRow.holds Try.pinned (OpenSpec.ofChange fnExactInterestOfSpec)

/-- ITS FALSE NEIGHBOUR: 'it returns false'. Refute it at one input. -/
def fnExactInterestOfWrong : ChangeSpec := { name := "fnExactInterestOf", fn := fun _ => fun
  | [d1, d2, d3, d4, d5] => { results := [.lit (.bool false)], args := [d1, d2, d3, d4, d5] }
  | _ => none }
def FnExactInterestOfWrongFalsely : Prop := fnExactInterestOfRow.holds Try.pinned (OpenSpec.ofChange fnExactInterestOfWrong)

/-- 'laws.FnExactPenaltyOf': WHATEVER THE INPUT: true; the input reads as it did. -/
def fnExactPenaltyOfSpec : ChangeSpec := { name := "fnExactPenaltyOf", fn := fun _ => fun
  | [d1, d2, d3, d4, d5] => { results := [.lit (.bool true)], args := [d1, d2, d3, d4, d5] }
  | _ => none }
def fnExactPenaltyOfRow : OpenClaim := { program := "ytadgkecbcadfpaa", sum := "473abba35cba9461a3f04e1f93ee2833c919ae1f255752b5295c918dc826ba30", func := "loop.example/g01393/laws.FnExactPenaltyOf", spec := "fnExactPenaltyOf", apart := false }
def FnExactPenaltyOfSaid : Prop := fnExactPenaltyOfRow.holds Try.pinned (OpenSpec.ofChange fnExactPenaltyOfSpec)

/-- ITS FALSE NEIGHBOUR: 'it returns false'. Refute it at one input. -/
def fnExactPenaltyOfWrong : ChangeSpec := { name := "fnExactPenaltyOf", fn := fun _ => fun
  | [d1, d2, d3, d4, d5] => { results := [.lit (.bool false)], args := [d1, d2, d3, d4, d5] }
  | _ => none }
def FnExactPenaltyOfWrongFalsely : Prop := fnExactPenaltyOfRow.holds Try.pinned (OpenSpec.ofChange fnExactPenaltyOfWrong)

/-- 'laws.FnExactLoanPayment': WHATEVER THE INPUT: true; the input reads as it did. -/
def fnExactLoanPaymentSpec : ChangeSpec := { name := "fnExactLoanPayment", fn := fun _ => fun
  | [d1, d2, d3] => { results := [.lit (.bool true)], args := [d1, d2, d3] }
  | _ => none }
def fnExactLoanPaymentRow : OpenClaim := { program := "ytadgkecbcadfpaa", sum := "473abba35cba9461a3f04e1f93ee2833c919ae1f255752b5295c918dc826ba30", func := "loop.example/g01393/laws.FnExactLoanPayment", spec := "fnExactLoanPayment", unfollowed := true, recurses := true, apart := false }
def FnExactLoanPaymentSaid : Prop := fnExactLoanPaymentRow.holds Try.pinned (OpenSpec.ofChange fnExactLoanPaymentSpec)

/-- ITS FALSE NEIGHBOUR: 'it returns false'. Refute it at one input. -/
def fnExactLoanPaymentWrong : ChangeSpec := { name := "fnExactLoanPayment", fn := fun _ => fun
  | [d1, d2, d3] => { results := [.lit (.bool false)], args := [d1, d2, d3] }
  | _ => none }
def FnExactLoanPaymentWrongFalsely : Prop := fnExactLoanPaymentRow.holds Try.pinned (OpenSpec.ofChange fnExactLoanPaymentWrong)

/-- 'laws.FnExactLoanCount': WHATEVER THE INPUT: true; the input reads as it did. -/
def fnExactLoanCountSpec : ChangeSpec := { name := "fnExactLoanCount", fn := fun _ => fun
  | [d1, d2, d3] => { results := [.lit (.bool true)], args := [d1, d2, d3] }
  | _ => none }
def fnExactLoanCountRow : OpenClaim := { program := "ytadgkecbcadfpaa", sum := "473abba35cba9461a3f04e1f93ee2833c919ae1f255752b5295c918dc826ba30", func := "loop.example/g01393/laws.FnExactLoanCount", spec := "fnExactLoanCount", apart := false }
def FnExactLoanCountSaid : Prop := fnExactLoanCountRow.holds Try.pinned (OpenSpec.ofChange fnExactLoanCountSpec)

/-- ITS FALSE NEIGHBOUR: 'it returns false'. Refute it at one input. -/
def fnExactLoanCountWrong : ChangeSpec := { name := "fnExactLoanCount", fn := fun _ => fun
  | [d1, d2, d3] => { results := [.lit (.bool false)], args := [d1, d2, d3] }
  | _ => none }
def FnExactLoanCountWrongFalsely : Prop := fnExactLoanCountRow.holds Try.pinned (OpenSpec.ofChange fnExactLoanCountWrong)

/- THE SECOND FORM. 'bulk': how many values and letters a reading holds, each counted each time it is reached (what is shared counts as often as it is met; a slice's spare places count too). A statement '..UptoSaid' is the law's where the arguments, and the package variables that the reading takes, are together of bulk at most 1048576: NARROWER than '..Said'. Prove '..Said' where nothing that the law and all that it calls make is longer than what came in: it says more and counts as full. Else prove '..UptoSaid'. A law counts once. -/
mutual
def uptoBulk {H : Type} : DataW H → Nat
  | .lit (.string bytes) => bytes.length + 1
  | .lit _ => 1
  | .nil => 1
  | .ptr d => uptoBulk d + 1
  | .slice elems spare => uptoBulkAll elems + uptoBulkAll spare + 1
  | .agg parts => uptoBulkAll parts + 1
  | .iface _ d => uptoBulk d + 1
  | .map entries => uptoBulkEntries entries + 1
  | .held _ => 1
def uptoBulkAll {H : Type} : List (DataW H) → Nat
  | [] => 0
  | d :: r => uptoBulk d + uptoBulkAll r
def uptoBulkEntries {H : Type} : List (Lit × DataW H) → Nat
  | [] => 0
  | x :: r => uptoBulkEntry x + uptoBulkEntries r
def uptoBulkEntry {H : Type} : Lit × DataW H → Nat
  | (.string bytes, d) => bytes.length + uptoBulk d + 1
  | (_, d) => uptoBulk d + 1
 end
def uptoSmall : (H : Type) → List (DataW H) → Bool := fun _ ds => decide (uptoBulkAll ds ≤ 1048576)
def OpenSpec.upto (s : _root_.Go.ChangeSpec) : _root_.Go.OpenSpec := { _root_.Go.OpenSpec.ofChange s with cond := some uptoSmall }

/-- 'laws.FnExactAreEntries', WHERE WHAT IT READS IS OF BULK AT MOST 1048576: true; the input reads as it did. -/
def fnExactAreEntriesUptoRow : OpenClaim := { program := "ytadgkecbcadfpaa", sum := "473abba35cba9461a3f04e1f93ee2833c919ae1f255752b5295c918dc826ba30", func := "loop.example/g01393/laws.FnExactAreEntries", spec := "fnExactAreEntries", apart := false, narrowed := true }
def FnExactAreEntriesUptoSaid : Prop := fnExactAreEntriesUptoRow.holds Try.pinned (OpenSpec.upto fnExactAreEntriesSpec)

/-- 'laws.FnExactSameEntries', WHERE WHAT IT READS IS OF BULK AT MOST 1048576: true; the input reads as it did. -/
def fnExactSameEntriesUptoRow : OpenClaim := { program := "ytadgkecbcadfpaa", sum := "473abba35cba9461a3f04e1f93ee2833c919ae1f255752b5295c918dc826ba30", func := "loop.example/g01393/laws.FnExactSameEntries", spec := "fnExactSameEntries", apart := false, narrowed := true }
def FnExactSameEntriesUptoSaid : Prop := fnExactSameEntriesUptoRow.holds Try.pinned (OpenSpec.upto fnExactSameEntriesSpec)

/-- 'laws.FnExactFirstShort', WHERE WHAT IT READS IS OF BULK AT MOST 1048576: true; the input reads as it did. -/
def fnExactFirstShortUptoRow : OpenClaim := { program := "ytadgkecbcadfpaa", sum := "473abba35cba9461a3f04e1f93ee2833c919ae1f255752b5295c918dc826ba30", func := "loop.example/g01393/laws.FnExactFirstShort", spec := "fnExactFirstShort", apart := false, narrowed := true }
def FnExactFirstShortUptoSaid : Prop := fnExactFirstShortUptoRow.holds Try.pinned (OpenSpec.upto fnExactFirstShortSpec)

/-- 'laws.FnExactAreDebts', WHERE WHAT IT READS IS OF BULK AT MOST 1048576: true; the input reads as it did. -/
def fnExactAreDebtsUptoRow : OpenClaim := { program := "ytadgkecbcadfpaa", sum := "473abba35cba9461a3f04e1f93ee2833c919ae1f255752b5295c918dc826ba30", func := "loop.example/g01393/laws.FnExactAreDebts", spec := "fnExactAreDebts", unfollowed := true, recurses := true, apart := false, narrowed := true }
def FnExactAreDebtsUptoSaid : Prop := fnExactAreDebtsUptoRow.holds Try.pinned (OpenSpec.upto fnExactAreDebtsSpec)

/-- 'laws.FnExactRoundPart', WHERE WHAT IT READS IS OF BULK AT MOST 1048576: true; the input reads as it did. -/
def fnExactRoundPartUptoRow : OpenClaim := { program := "ytadgkecbcadfpaa", sum := "473abba35cba9461a3f04e1f93ee2833c919ae1f255752b5295c918dc826ba30", func := "loop.example/g01393/laws.FnExactRoundPart", spec := "fnExactRoundPart", apart := false, narrowed := true }
def FnExactRoundPartUptoSaid : Prop := fnExactRoundPartUptoRow.holds Try.pinned (OpenSpec.upto fnExactRoundPartSpec)

/-- 'laws.FnExactDayOf', WHERE WHAT IT READS IS OF BULK AT MOST 1048576: true; the input reads as it did. -/
def fnExactDayOfUptoRow : OpenClaim := { program := "ytadgkecbcadfpaa", sum := "473abba35cba9461a3f04e1f93ee2833c919ae1f255752b5295c918dc826ba30", func := "loop.example/g01393/laws.FnExactDayOf", spec := "fnExactDayOf", apart := false, narrowed := true }
def FnExactDayOfUptoSaid : Prop := fnExactDayOfUptoRow.holds Try.pinned (OpenSpec.upto fnExactDayOfSpec)

/-- 'laws.FnExactDateOf', WHERE WHAT IT READS IS OF BULK AT MOST 1048576: true; the input reads as it did. -/
def fnExactDateOfUptoRow : OpenClaim := { program := "ytadgkecbcadfpaa", sum := "473abba35cba9461a3f04e1f93ee2833c919ae1f255752b5295c918dc826ba30", func := "loop.example/g01393/laws.FnExactDateOf", spec := "fnExactDateOf", apart := false, narrowed := true }
def FnExactDateOfUptoSaid : Prop := fnExactDateOfUptoRow.holds Try.pinned (OpenSpec.upto fnExactDateOfSpec)

/-- 'laws.FnExactDaysBetween', WHERE WHAT IT READS IS OF BULK AT MOST 1048576: true; the input reads as it did. -/
def fnExactDaysBetweenUptoRow : OpenClaim := { program := "ytadgkecbcadfpaa", sum := "473abba35cba9461a3f04e1f93ee2833c919ae1f255752b5295c918dc826ba30", func := "loop.example/g01393/laws.FnExactDaysBetween", spec := "fnExactDaysBetween", apart := false, narrowed := true }
def FnExactDaysBetweenUptoSaid : Prop := fnExactDaysBetweenUptoRow.holds Try.pinned (OpenSpec.upto fnExactDaysBetweenSpec)

/-- 'laws.FnExactInterestOf', WHERE WHAT IT READS IS OF BULK AT MOST 1048576: true; the input reads as it did. -/
def fnExactInterestOfUptoRow : OpenClaim := { program := "ytadgkecbcadfpaa", sum := "473abba35cba9461a3f04e1f93ee2833c919ae1f255752b5295c918dc826ba30", func := "loop.example/g01393/laws.FnExactInterestOf", spec := "fnExactInterestOf", apart := false, narrowed := true }
def FnExactInterestOfUptoSaid : Prop := fnExactInterestOfUptoRow.holds Try.pinned (OpenSpec.upto fnExactInterestOfSpec)

/-- 'laws.FnExactPenaltyOf', WHERE WHAT IT READS IS OF BULK AT MOST 1048576: true; the input reads as it did. -/
def fnExactPenaltyOfUptoRow : OpenClaim := { program := "ytadgkecbcadfpaa", sum := "473abba35cba9461a3f04e1f93ee2833c919ae1f255752b5295c918dc826ba30", func := "loop.example/g01393/laws.FnExactPenaltyOf", spec := "fnExactPenaltyOf", apart := false, narrowed := true }
def FnExactPenaltyOfUptoSaid : Prop := fnExactPenaltyOfUptoRow.holds Try.pinned (OpenSpec.upto fnExactPenaltyOfSpec)

/-- 'laws.FnExactLoanPayment', WHERE WHAT IT READS IS OF BULK AT MOST 1048576: true; the input reads as it did. -/
def fnExactLoanPaymentUptoRow : OpenClaim := { program := "ytadgkecbcadfpaa", sum := "473abba35cba9461a3f04e1f93ee2833c919ae1f255752b5295c918dc826ba30", func := "loop.example/g01393/laws.FnExactLoanPayment", spec := "fnExactLoanPayment", unfollowed := true, recurses := true, apart := false, narrowed := true }
def FnExactLoanPaymentUptoSaid : Prop := fnExactLoanPaymentUptoRow.holds Try.pinned (OpenSpec.upto fnExactLoanPaymentSpec)

/-- 'laws.FnExactLoanCount', WHERE WHAT IT READS IS OF BULK AT MOST 1048576: true; the input reads as it did. -/
def fnExactLoanCountUptoRow : OpenClaim := { program := "ytadgkecbcadfpaa", sum := "473abba35cba9461a3f04e1f93ee2833c919ae1f255752b5295c918dc826ba30", func := "loop.example/g01393/laws.FnExactLoanCount", spec := "fnExactLoanCount", apart := false, narrowed := true }
def FnExactLoanCountUptoSaid : Prop := fnExactLoanCountUptoRow.holds Try.pinned (OpenSpec.upto fnExactLoanCountSpec)

end Rows
end Go.Proofs.Ytadgkecbcadfpaa
