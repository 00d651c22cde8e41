/-
  No cell of these rows narrows 'for every input' (looked for: loops, veiled, ifaces, maps, wideKeys, modest, calm, conditions, laid).
  DERIVED. THE GIVEN ROWS OF THIS SEAT. 12 by the template 'for every input the law returns true; each argument reads behind the call as it read before'; 0 by the template 'total and deterministic' (their statements: YtjndhcdanpnniaaTotals.lean).
  GIVEN WITH THE SEED: the statements are not yours to turn. If you find one false, say at which input.
  Laid BY PROGRAM, IN A SANDBOX (cutbox-rows.mjs): the forced cells as the released guide's own fill.sh prints them over the translation aa44ca13b0821921… (all of the seat's roots in one cut). By AI agents, Wed Nov 11 2026. No macro, syntax, notation, axiom, sorry.
-/
import Derived.Test.YtjndhcdanpnniaaChecked
import GoSem.Claim
import GoSem.ClaimJoined
import GoSem.ClaimMapViews
import Derived.JoinedTies
import Derived.KernelRfl
namespace Go.Proofs.Ytjndhcdanpnniaa
/- THE CELL 'sum', in the pinned program and in every row, IS THE sha256 OF THE DUMP (.gsa) THAT YtjndhcdanpnniaaProg.lean LOADS. Nothing in Lean hashes anything: it is a label: what it is worth is what the hold of that sum in a sandbox is worth. -/
noncomputable def Try.pinned : Pinned := { name := "ytjndhcdanpnniaa", sum := "aa44ca13b082192155928601dea94ee55860cfee3c6f243a64a24c07cc424db1", checked := Try.checked }
namespace Rows
def none {H : Type} : Left H := { results := [], args := [] }

/-- 'laws.FnParts': WHATEVER THE INPUT: true; the input reads as it did. -/
def fnPartsSpec : ChangeSpec := { name := "fnParts", fn := fun _ => fun
  | [d1, d2] => { results := [.lit (.bool true)], args := [d1, d2] }
  | _ => none }
def fnPartsRow : OpenClaim := { program := "ytjndhcdanpnniaa", sum := "aa44ca13b082192155928601dea94ee55860cfee3c6f243a64a24c07cc424db1", func := "loop.example/g01393/laws.FnParts", spec := "fnParts", unfollowed := true, recurses := true, named := ["math/bits.divideError", "math/bits.overflowError"], apart := false }
def FnPartsSaid : Prop := fnPartsRow.holds Try.pinned (OpenSpec.ofChange fnPartsSpec)

/-- ITS FALSE NEIGHBOUR: 'it returns false'. Refute it at one input. -/
def fnPartsWrong : ChangeSpec := { name := "fnParts", fn := fun _ => fun
  | [d1, d2] => { results := [.lit (.bool false)], args := [d1, d2] }
  | _ => none }
def FnPartsWrongFalsely : Prop := fnPartsRow.holds Try.pinned (OpenSpec.ofChange fnPartsWrong)

/-- 'laws.FnExactValidSaved': WHATEVER THE INPUT: true; the input reads as it did. -/
def fnExactValidSavedSpec : ChangeSpec := { name := "fnExactValidSaved", fn := fun _ => fun
  | [d] => { results := [.lit (.bool true)], args := [d] }
  | _ => none }
def fnExactValidSavedRow : OpenClaim := { program := "ytjndhcdanpnniaa", sum := "aa44ca13b082192155928601dea94ee55860cfee3c6f243a64a24c07cc424db1", func := "loop.example/g01393/laws.FnExactValidSaved", spec := "fnExactValidSaved", unfollowed := true, recurses := true, apart := false }
def FnExactValidSavedSaid : Prop := fnExactValidSavedRow.holds Try.pinned (OpenSpec.ofChange fnExactValidSavedSpec)

/-- ITS FALSE NEIGHBOUR: 'it returns false'. Refute it at one input. -/
def fnExactValidSavedWrong : ChangeSpec := { name := "fnExactValidSaved", fn := fun _ => fun
  | [d] => { results := [.lit (.bool false)], args := [d] }
  | _ => none }
def FnExactValidSavedWrongFalsely : Prop := fnExactValidSavedRow.holds Try.pinned (OpenSpec.ofChange fnExactValidSavedWrong)

/-- 'laws.FnExactSameSaved': WHATEVER THE INPUT: true; the input reads as it did. -/
def fnExactSameSavedSpec : ChangeSpec := { name := "fnExactSameSaved", fn := fun _ => fun
  | [d1, d2] => { results := [.lit (.bool true)], args := [d1, d2] }
  | _ => none }
def fnExactSameSavedRow : OpenClaim := { program := "ytjndhcdanpnniaa", sum := "aa44ca13b082192155928601dea94ee55860cfee3c6f243a64a24c07cc424db1", func := "loop.example/g01393/laws.FnExactSameSaved", spec := "fnExactSameSaved", unfollowed := true, recurses := true, apart := false }
def FnExactSameSavedSaid : Prop := fnExactSameSavedRow.holds Try.pinned (OpenSpec.ofChange fnExactSameSavedSpec)

/-- ITS FALSE NEIGHBOUR: 'it returns false'. Refute it at one input. -/
def fnExactSameSavedWrong : ChangeSpec := { name := "fnExactSameSaved", fn := fun _ => fun
  | [d1, d2] => { results := [.lit (.bool false)], args := [d1, d2] }
  | _ => none }
def FnExactSameSavedWrongFalsely : Prop := fnExactSameSavedRow.holds Try.pinned (OpenSpec.ofChange fnExactSameSavedWrong)

/-- 'laws.FnExactRepealRule': WHATEVER THE INPUT: true; the input reads as it did. -/
def fnExactRepealRuleSpec : ChangeSpec := { name := "fnExactRepealRule", fn := fun _ => fun
  | [d1, d2, d3] => { results := [.lit (.bool true)], args := [d1, d2, d3] }
  | _ => none }
def fnExactRepealRuleRow : OpenClaim := { program := "ytjndhcdanpnniaa", sum := "aa44ca13b082192155928601dea94ee55860cfee3c6f243a64a24c07cc424db1", func := "loop.example/g01393/laws.FnExactRepealRule", spec := "fnExactRepealRule", unfollowed := true, recurses := true, apart := false }
def FnExactRepealRuleSaid : Prop := fnExactRepealRuleRow.holds Try.pinned (OpenSpec.ofChange fnExactRepealRuleSpec)

/-- ITS FALSE NEIGHBOUR: 'it returns false'. Refute it at one input. -/
def fnExactRepealRuleWrong : ChangeSpec := { name := "fnExactRepealRule", fn := fun _ => fun
  | [d1, d2, d3] => { results := [.lit (.bool false)], args := [d1, d2, d3] }
  | _ => none }
def FnExactRepealRuleWrongFalsely : Prop := fnExactRepealRuleRow.holds Try.pinned (OpenSpec.ofChange fnExactRepealRuleWrong)

/-- 'laws.FnExactAmendRule': WHATEVER THE INPUT: true; the input reads as it did. -/
def fnExactAmendRuleSpec : ChangeSpec := { name := "fnExactAmendRule", fn := fun _ => fun
  | [d1, d2, d3, d4] => { results := [.lit (.bool true)], args := [d1, d2, d3, d4] }
  | _ => none }
def fnExactAmendRuleRow : OpenClaim := { program := "ytjndhcdanpnniaa", sum := "aa44ca13b082192155928601dea94ee55860cfee3c6f243a64a24c07cc424db1", func := "loop.example/g01393/laws.FnExactAmendRule", spec := "fnExactAmendRule", unfollowed := true, recurses := true, apart := false }
def FnExactAmendRuleSaid : Prop := fnExactAmendRuleRow.holds Try.pinned (OpenSpec.ofChange fnExactAmendRuleSpec)

/-- ITS FALSE NEIGHBOUR: 'it returns false'. Refute it at one input. -/
def fnExactAmendRuleWrong : ChangeSpec := { name := "fnExactAmendRule", fn := fun _ => fun
  | [d1, d2, d3, d4] => { results := [.lit (.bool false)], args := [d1, d2, d3, d4] }
  | _ => none }
def FnExactAmendRuleWrongFalsely : Prop := fnExactAmendRuleRow.holds Try.pinned (OpenSpec.ofChange fnExactAmendRuleWrong)

/-- 'laws.FnExactRulesAt': WHATEVER THE INPUT: true; the input reads as it did. -/
def fnExactRulesAtSpec : ChangeSpec := { name := "fnExactRulesAt", fn := fun _ => fun
  | [d1, d2] => { results := [.lit (.bool true)], args := [d1, d2] }
  | _ => none }
def fnExactRulesAtRow : OpenClaim := { program := "ytjndhcdanpnniaa", sum := "aa44ca13b082192155928601dea94ee55860cfee3c6f243a64a24c07cc424db1", func := "loop.example/g01393/laws.FnExactRulesAt", spec := "fnExactRulesAt", unfollowed := true, recurses := true, apart := false }
def FnExactRulesAtSaid : Prop := fnExactRulesAtRow.holds Try.pinned (OpenSpec.ofChange fnExactRulesAtSpec)

/-- ITS FALSE NEIGHBOUR: 'it returns false'. Refute it at one input. -/
def fnExactRulesAtWrong : ChangeSpec := { name := "fnExactRulesAt", fn := fun _ => fun
  | [d1, d2] => { results := [.lit (.bool false)], args := [d1, d2] }
  | _ => none }
def FnExactRulesAtWrongFalsely : Prop := fnExactRulesAtRow.holds Try.pinned (OpenSpec.ofChange fnExactRulesAtWrong)

/-- 'laws.FnRowsTold': WHATEVER THE INPUT: true; the input reads as it did. -/
def fnRowsToldSpec : ChangeSpec := { name := "fnRowsTold", fn := fun _ => fun
  | [d1, d2] => { results := [.lit (.bool true)], args := [d1, d2] }
  | _ => none }
def fnRowsToldRow : OpenClaim := { program := "ytjndhcdanpnniaa", sum := "aa44ca13b082192155928601dea94ee55860cfee3c6f243a64a24c07cc424db1", func := "loop.example/g01393/laws.FnRowsTold", spec := "fnRowsTold", unfollowed := true, recurses := true, apart := false }
def FnRowsToldSaid : Prop := fnRowsToldRow.holds Try.pinned (OpenSpec.ofChange fnRowsToldSpec)

/-- ITS FALSE NEIGHBOUR: 'it returns false'. Refute it at one input. -/
def fnRowsToldWrong : ChangeSpec := { name := "fnRowsTold", fn := fun _ => fun
  | [d1, d2] => { results := [.lit (.bool false)], args := [d1, d2] }
  | _ => none }
def FnRowsToldWrongFalsely : Prop := fnRowsToldRow.holds Try.pinned (OpenSpec.ofChange fnRowsToldWrong)

/-- 'laws.FnScalesOf': WHATEVER THE INPUT: true; the input reads as it did. -/
def fnScalesOfSpec : ChangeSpec := { name := "fnScalesOf", fn := fun _ => fun
  | [d1, d2] => { results := [.lit (.bool true)], args := [d1, d2] }
  | _ => none }
def fnScalesOfRow : OpenClaim := { program := "ytjndhcdanpnniaa", sum := "aa44ca13b082192155928601dea94ee55860cfee3c6f243a64a24c07cc424db1", func := "loop.example/g01393/laws.FnScalesOf", spec := "fnScalesOf", unfollowed := true, recurses := true, apart := false }
def FnScalesOfSaid : Prop := fnScalesOfRow.holds Try.pinned (OpenSpec.ofChange fnScalesOfSpec)

/-- ITS FALSE NEIGHBOUR: 'it returns false'. Refute it at one input. -/
def fnScalesOfWrong : ChangeSpec := { name := "fnScalesOf", fn := fun _ => fun
  | [d1, d2] => { results := [.lit (.bool false)], args := [d1, d2] }
  | _ => none }
def FnScalesOfWrongFalsely : Prop := fnScalesOfRow.holds Try.pinned (OpenSpec.ofChange fnScalesOfWrong)

/-- 'laws.FnExactAnswersOf': WHATEVER THE INPUT: true; the input reads as it did. -/
def fnExactAnswersOfSpec : ChangeSpec := { name := "fnExactAnswersOf", fn := fun _ => fun
  | [d1, d2, d3] => { results := [.lit (.bool true)], args := [d1, d2, d3] }
  | _ => none }
def fnExactAnswersOfRow : OpenClaim := { program := "ytjndhcdanpnniaa", sum := "aa44ca13b082192155928601dea94ee55860cfee3c6f243a64a24c07cc424db1", func := "loop.example/g01393/laws.FnExactAnswersOf", spec := "fnExactAnswersOf", unfollowed := true, recurses := true, apart := false }
def FnExactAnswersOfSaid : Prop := fnExactAnswersOfRow.holds Try.pinned (OpenSpec.ofChange fnExactAnswersOfSpec)

/-- ITS FALSE NEIGHBOUR: 'it returns false'. Refute it at one input. -/
def fnExactAnswersOfWrong : ChangeSpec := { name := "fnExactAnswersOf", fn := fun _ => fun
  | [d1, d2, d3] => { results := [.lit (.bool false)], args := [d1, d2, d3] }
  | _ => none }
def FnExactAnswersOfWrongFalsely : Prop := fnExactAnswersOfRow.holds Try.pinned (OpenSpec.ofChange fnExactAnswersOfWrong)

/-- 'laws.FnExactOpenOf': WHATEVER THE INPUT: true; the input reads as it did. -/
def fnExactOpenOfSpec : ChangeSpec := { name := "fnExactOpenOf", fn := fun _ => fun
  | [d1, d2, d3] => { results := [.lit (.bool true)], args := [d1, d2, d3] }
  | _ => none }
def fnExactOpenOfRow : OpenClaim := { program := "ytjndhcdanpnniaa", sum := "aa44ca13b082192155928601dea94ee55860cfee3c6f243a64a24c07cc424db1", func := "loop.example/g01393/laws.FnExactOpenOf", spec := "fnExactOpenOf", unfollowed := true, recurses := true, apart := false }
def FnExactOpenOfSaid : Prop := fnExactOpenOfRow.holds Try.pinned (OpenSpec.ofChange fnExactOpenOfSpec)

/-- ITS FALSE NEIGHBOUR: 'it returns false'. Refute it at one input. -/
def fnExactOpenOfWrong : ChangeSpec := { name := "fnExactOpenOf", fn := fun _ => fun
  | [d1, d2, d3] => { results := [.lit (.bool false)], args := [d1, d2, d3] }
  | _ => none }
def FnExactOpenOfWrongFalsely : Prop := fnExactOpenOfRow.holds Try.pinned (OpenSpec.ofChange fnExactOpenOfWrong)

/-- 'laws.FnExactIsProof': WHATEVER THE INPUT: true; the input reads as it did. -/
def fnExactIsProofSpec : ChangeSpec := { name := "fnExactIsProof", fn := fun _ => fun
  | [d1, d2, d3, d4, d5] => { results := [.lit (.bool true)], args := [d1, d2, d3, d4, d5] }
  | _ => none }
def fnExactIsProofRow : OpenClaim := { program := "ytjndhcdanpnniaa", sum := "aa44ca13b082192155928601dea94ee55860cfee3c6f243a64a24c07cc424db1", func := "loop.example/g01393/laws.FnExactIsProof", spec := "fnExactIsProof", unfollowed := true, recurses := true, apart := false }
def FnExactIsProofSaid : Prop := fnExactIsProofRow.holds Try.pinned (OpenSpec.ofChange fnExactIsProofSpec)

/-- ITS FALSE NEIGHBOUR: 'it returns false'. Refute it at one input. -/
def fnExactIsProofWrong : ChangeSpec := { name := "fnExactIsProof", fn := fun _ => fun
  | [d1, d2, d3, d4, d5] => { results := [.lit (.bool false)], args := [d1, d2, d3, d4, d5] }
  | _ => none }
def FnExactIsProofWrongFalsely : Prop := fnExactIsProofRow.holds Try.pinned (OpenSpec.ofChange fnExactIsProofWrong)

/-- 'laws.FnExactNeedsOf': WHATEVER THE INPUT: true; the input reads as it did. -/
def fnExactNeedsOfSpec : ChangeSpec := { name := "fnExactNeedsOf", fn := fun _ => fun
  | [d1, d2, d3] => { results := [.lit (.bool true)], args := [d1, d2, d3] }
  | _ => none }
def fnExactNeedsOfRow : OpenClaim := { program := "ytjndhcdanpnniaa", sum := "aa44ca13b082192155928601dea94ee55860cfee3c6f243a64a24c07cc424db1", func := "loop.example/g01393/laws.FnExactNeedsOf", spec := "fnExactNeedsOf", unfollowed := true, recurses := true, apart := false }
def FnExactNeedsOfSaid : Prop := fnExactNeedsOfRow.holds Try.pinned (OpenSpec.ofChange fnExactNeedsOfSpec)

/-- ITS FALSE NEIGHBOUR: 'it returns false'. Refute it at one input. -/
def fnExactNeedsOfWrong : ChangeSpec := { name := "fnExactNeedsOf", fn := fun _ => fun
  | [d1, d2, d3] => { results := [.lit (.bool false)], args := [d1, d2, d3] }
  | _ => none }
def FnExactNeedsOfWrongFalsely : Prop := fnExactNeedsOfRow.holds Try.pinned (OpenSpec.ofChange fnExactNeedsOfWrong)

/- THE SECOND FORM. 'bulk': how many values and letters a reading holds, each counted each time it is reached (what is shared counts as often as it is met; a slice's spare places count too). A statement '..UptoSaid' is the law's where the arguments, and the package variables that the reading takes, are together of bulk at most 1048576: NARROWER than '..Said'. Prove '..Said' where nothing that the law and all that it calls make is longer than what came in: it says more and counts as full. Else prove '..UptoSaid'. A law counts once. -/
mutual
def uptoBulk {H : Type} : DataW H → Nat
  | .lit (.string bytes) => bytes.length + 1
  | .lit _ => 1
  | .nil => 1
  | .ptr d => uptoBulk d + 1
  | .slice elems spare => uptoBulkAll elems + uptoBulkAll spare + 1
  | .agg parts => uptoBulkAll parts + 1
  | .iface _ d => uptoBulk d + 1
  | .map entries => uptoBulkEntries entries + 1
  | .held _ => 1
def uptoBulkAll {H : Type} : List (DataW H) → Nat
  | [] => 0
  | d :: r => uptoBulk d + uptoBulkAll r
def uptoBulkEntries {H : Type} : List (Lit × DataW H) → Nat
  | [] => 0
  | x :: r => uptoBulkEntry x + uptoBulkEntries r
def uptoBulkEntry {H : Type} : Lit × DataW H → Nat
  | (.string bytes, d) => bytes.length + uptoBulk d + 1
  | (_, d) => uptoBulk d + 1
 end
def uptoSmall : (H : Type) → List (DataW H) → Bool := fun _ ds => decide (uptoBulkAll ds ≤ 1048576)
def OpenSpec.upto (s : _root_.Go.ChangeSpec) : _root_.Go.OpenSpec := { _root_.Go.OpenSpec.ofChange s with cond := some uptoSmall }

/-- 'laws.FnParts', WHERE WHAT IT READS IS OF BULK AT MOST 1048576: true; the input reads as it did. -/
def fnPartsUptoRow : OpenClaim := { program := "ytjndhcdanpnniaa", sum := "aa44ca13b082192155928601dea94ee55860cfee3c6f243a64a24c07cc424db1", func := "loop.example/g01393/laws.FnParts", spec := "fnParts", unfollowed := true, recurses := true, named := ["math/bits.divideError", "math/bits.overflowError"], apart := false, narrowed := true }
def FnPartsUptoSaid : Prop := fnPartsUptoRow.holds Try.pinned (OpenSpec.upto fnPartsSpec)

/-- 'laws.FnExactValidSaved', WHERE WHAT IT READS IS OF BULK AT MOST 1048576: true; the input reads as it did. -/
def fnExactValidSavedUptoRow : OpenClaim := { program := "ytjndhcdanpnniaa", sum := "aa44ca13b082192155928601dea94ee55860cfee3c6f243a64a24c07cc424db1", func := "loop.example/g01393/laws.FnExactValidSaved", spec := "fnExactValidSaved", unfollowed := true, recurses := true, apart := false, narrowed := true }
def FnExactValidSavedUptoSaid : Prop := fnExactValidSavedUptoRow.holds Try.pinned (OpenSpec.upto fnExactValidSavedSpec)

/-- 'laws.FnExactSameSaved', WHERE WHAT IT READS IS OF BULK AT MOST 1048576: true; the input reads as it did. -/
def fnExactSameSavedUptoRow : OpenClaim := { program := "ytjndhcdanpnniaa", sum := "aa44ca13b082192155928601dea94ee55860cfee3c6f243a64a24c07cc424db1", func := "loop.example/g01393/laws.FnExactSameSaved", spec := "fnExactSameSaved", unfollowed := true, recurses := true, apart := false, narrowed := true }
def FnExactSameSavedUptoSaid : Prop := fnExactSameSavedUptoRow.holds Try.pinned (OpenSpec.upto fnExactSameSavedSpec)

/-- 'laws.FnExactRepealRule', WHERE WHAT IT READS IS OF BULK AT MOST 1048576: true; the input reads as it did. -/
def fnExactRepealRuleUptoRow : OpenClaim := { program := "ytjndhcdanpnniaa", sum := "aa44ca13b082192155928601dea94ee55860cfee3c6f243a64a24c07cc424db1", func := "loop.example/g01393/laws.FnExactRepealRule", spec := "fnExactRepealRule", unfollowed := true, recurses := true, apart := false, narrowed := true }
def FnExactRepealRuleUptoSaid : Prop := fnExactRepealRuleUptoRow.holds Try.pinned (OpenSpec.upto fnExactRepealRuleSpec)

/-- 'laws.FnExactAmendRule', WHERE WHAT IT READS IS OF BULK AT MOST 1048576: true; the input reads as it did. -/
def fnExactAmendRuleUptoRow : OpenClaim := { program := "ytjndhcdanpnniaa", sum := "aa44ca13b082192155928601dea94ee55860cfee3c6f243a64a24c07cc424db1", func := "loop.example/g01393/laws.FnExactAmendRule", spec := "fnExactAmendRule", unfollowed := true, recurses := true, apart := false, narrowed := true }
def FnExactAmendRuleUptoSaid : Prop := fnExactAmendRuleUptoRow.holds Try.pinned (OpenSpec.upto fnExactAmendRuleSpec)

/-- 'laws.FnExactRulesAt', WHERE WHAT IT READS IS OF BULK AT MOST 1048576: true; the input reads as it did. -/
def fnExactRulesAtUptoRow : OpenClaim := { program := "ytjndhcdanpnniaa", sum := "aa44ca13b082192155928601dea94ee55860cfee3c6f243a64a24c07cc424db1", func := "loop.example/g01393/laws.FnExactRulesAt", spec := "fnExactRulesAt", unfollowed := true, recurses := true, apart := false, narrowed := true }
def FnExactRulesAtUptoSaid : Prop := fnExactRulesAtUptoRow.holds Try.pinned (OpenSpec.upto fnExactRulesAtSpec)

/-- 'laws.FnRowsTold', WHERE WHAT IT READS IS OF BULK AT MOST 1048576: true; the input reads as it did. -/
def fnRowsToldUptoRow : OpenClaim := { program := "ytjndhcdanpnniaa", sum := "aa44ca13b082192155928601dea94ee55860cfee3c6f243a64a24c07cc424db1", func := "loop.example/g01393/laws.FnRowsTold", spec := "fnRowsTold", unfollowed := true, recurses := true, apart := false, narrowed := true }
def FnRowsToldUptoSaid : Prop := fnRowsToldUptoRow.holds Try.pinned (OpenSpec.upto fnRowsToldSpec)

/-- 'laws.FnScalesOf', WHERE WHAT IT READS IS OF BULK AT MOST 1048576: true; the input reads as it did. -/
def fnScalesOfUptoRow : OpenClaim := { program := "ytjndhcdanpnniaa", sum := "aa44ca13b082192155928601dea94ee55860cfee3c6f243a64a24c07cc424db1", func := "loop.example/g01393/laws.FnScalesOf", spec := "fnScalesOf", unfollowed := true, recurses := true, apart := false, narrowed := true }
def FnScalesOfUptoSaid : Prop := fnScalesOfUptoRow.holds Try.pinned (OpenSpec.upto fnScalesOfSpec)

/-- 'laws.FnExactAnswersOf', WHERE WHAT IT READS IS OF BULK AT MOST 1048576: true; the input reads as it did. -/
def fnExactAnswersOfUptoRow : OpenClaim := { program := "ytjndhcdanpnniaa", sum := "aa44ca13b082192155928601dea94ee55860cfee3c6f243a64a24c07cc424db1", func := "loop.example/g01393/laws.FnExactAnswersOf", spec := "fnExactAnswersOf", unfollowed := true, recurses := true, apart := false, narrowed := true }
def FnExactAnswersOfUptoSaid : Prop := fnExactAnswersOfUptoRow.holds Try.pinned (OpenSpec.upto fnExactAnswersOfSpec)

/-- 'laws.FnExactOpenOf', WHERE WHAT IT READS IS OF BULK AT MOST 1048576: true; the input reads as it did. -/
def fnExactOpenOfUptoRow : OpenClaim := { program := "ytjndhcdanpnniaa", sum := "aa44ca13b082192155928601dea94ee55860cfee3c6f243a64a24c07cc424db1", func := "loop.example/g01393/laws.FnExactOpenOf", spec := "fnExactOpenOf", unfollowed := true, recurses := true, apart := false, narrowed := true }
def FnExactOpenOfUptoSaid : Prop := fnExactOpenOfUptoRow.holds Try.pinned (OpenSpec.upto fnExactOpenOfSpec)

/-- 'laws.FnExactIsProof', WHERE WHAT IT READS IS OF BULK AT MOST 1048576: true; the input reads as it did. -/
def fnExactIsProofUptoRow : OpenClaim := { program := "ytjndhcdanpnniaa", sum := "aa44ca13b082192155928601dea94ee55860cfee3c6f243a64a24c07cc424db1", func := "loop.example/g01393/laws.FnExactIsProof", spec := "fnExactIsProof", unfollowed := true, recurses := true, apart := false, narrowed := true }
def FnExactIsProofUptoSaid : Prop := fnExactIsProofUptoRow.holds Try.pinned (OpenSpec.upto fnExactIsProofSpec)

/-- 'laws.FnExactNeedsOf', WHERE WHAT IT READS IS OF BULK AT MOST 1048576: true; the input reads as it did. -/
def fnExactNeedsOfUptoRow : OpenClaim := { program := "ytjndhcdanpnniaa", sum := "aa44ca13b082192155928601dea94ee55860cfee3c6f243a64a24c07cc424db1", func := "loop.example/g01393/laws.FnExactNeedsOf", spec := "fnExactNeedsOf", unfollowed := true, recurses := true, apart := false, narrowed := true }
def FnExactNeedsOfUptoSaid : Prop := fnExactNeedsOfUptoRow.holds Try.pinned (OpenSpec.upto fnExactNeedsOfSpec)

end Rows
end Go.Proofs.Ytjndhcdanpnniaa
