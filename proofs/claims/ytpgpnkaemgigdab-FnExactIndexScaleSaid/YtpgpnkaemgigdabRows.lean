/-
  No cell of these rows narrows 'for every input' (looked for: loops, veiled, ifaces, maps, wideKeys, modest, calm, conditions, laid).
  DERIVED. THE GIVEN ROWS OF THIS SEAT. 10 by the template 'for every input the law returns true; each argument reads behind the call as it read before'; 0 by the template 'total and deterministic' (their statements: YtpgpnkaemgigdabTotals.lean).
  GIVEN WITH THE SEED: the statements are not yours to turn. If you find one false, say at which input.
  Laid BY PROGRAM, IN A SANDBOX (cutbox-rows.mjs): the forced cells as the released guide's own fill.sh prints them over the translation 9baa0f97159cda53… (all of the seat's roots in one cut). By AI agents, Wed Nov 11 2026. No macro, syntax, notation, axiom, sorry.
-/
import Derived.Test.YtpgpnkaemgigdabChecked
import GoSem.Claim
import GoSem.ClaimJoined
import GoSem.ClaimMapViews
import Derived.JoinedTies
import Derived.KernelRfl
namespace Go.Proofs.Ytpgpnkaemgigdab
/- THE CELL 'sum', in the pinned program and in every row, IS THE sha256 OF THE DUMP (.gsa) THAT YtpgpnkaemgigdabProg.lean LOADS. Nothing in Lean hashes anything: it is a label: what it is worth is what the hold of that sum in a sandbox is worth. -/
noncomputable def Try.pinned : Pinned := { name := "ytpgpnkaemgigdab", sum := "9baa0f97159cda53a3efe7da32cf0647dc98feb572d8527788be5ab5389d7134", checked := Try.checked }
namespace Rows
def none {H : Type} : Left H := { results := [], args := [] }

/-- 'laws.FnExactLeastDue': WHATEVER THE INPUT: true; the input reads as it did. -/
def fnExactLeastDueSpec : ChangeSpec := { name := "fnExactLeastDue", fn := fun _ => fun
  | [d1, d2, d3, d4, d5] => { results := [.lit (.bool true)], args := [d1, d2, d3, d4, d5] }
  | _ => none }
def fnExactLeastDueRow : OpenClaim := { program := "ytpgpnkaemgigdab", sum := "9baa0f97159cda53a3efe7da32cf0647dc98feb572d8527788be5ab5389d7134", func := "loop.example/g01393/laws.FnExactLeastDue", spec := "fnExactLeastDue", unfollowed := true, recurses := true, apart := false }
def FnExactLeastDueSaid : Prop := fnExactLeastDueRow.holds Try.pinned (OpenSpec.ofChange fnExactLeastDueSpec)

/-- ITS FALSE NEIGHBOUR: 'it returns false'. Refute it at one input. -/
def fnExactLeastDueWrong : ChangeSpec := { name := "fnExactLeastDue", fn := fun _ => fun
  | [d1, d2, d3, d4, d5] => { results := [.lit (.bool false)], args := [d1, d2, d3, d4, d5] }
  | _ => none }
def FnExactLeastDueWrongFalsely : Prop := fnExactLeastDueRow.holds Try.pinned (OpenSpec.ofChange fnExactLeastDueWrong)

/-- 'laws.FnExactMixScale': WHATEVER THE INPUT: true; the input reads as it did. -/
def fnExactMixScaleSpec : ChangeSpec := { name := "fnExactMixScale", fn := fun _ => fun
  | [d1, d2] => { results := [.lit (.bool true)], args := [d1, d2] }
  | _ => none }
def fnExactMixScaleRow : OpenClaim := { program := "ytpgpnkaemgigdab", sum := "9baa0f97159cda53a3efe7da32cf0647dc98feb572d8527788be5ab5389d7134", func := "loop.example/g01393/laws.FnExactMixScale", spec := "fnExactMixScale", unfollowed := true, recurses := true, apart := false }
def FnExactMixScaleSaid : Prop := fnExactMixScaleRow.holds Try.pinned (OpenSpec.ofChange fnExactMixScaleSpec)

/-- ITS FALSE NEIGHBOUR: 'it returns false'. Refute it at one input. -/
def fnExactMixScaleWrong : ChangeSpec := { name := "fnExactMixScale", fn := fun _ => fun
  | [d1, d2] => { results := [.lit (.bool false)], args := [d1, d2] }
  | _ => none }
def FnExactMixScaleWrongFalsely : Prop := fnExactMixScaleRow.holds Try.pinned (OpenSpec.ofChange fnExactMixScaleWrong)

/-- 'laws.FnExactStretchScale': WHATEVER THE INPUT: true; the input reads as it did. -/
def fnExactStretchScaleSpec : ChangeSpec := { name := "fnExactStretchScale", fn := fun _ => fun
  | [d1, d2, d3] => { results := [.lit (.bool true)], args := [d1, d2, d3] }
  | _ => none }
def fnExactStretchScaleRow : OpenClaim := { program := "ytpgpnkaemgigdab", sum := "9baa0f97159cda53a3efe7da32cf0647dc98feb572d8527788be5ab5389d7134", func := "loop.example/g01393/laws.FnExactStretchScale", spec := "fnExactStretchScale", unfollowed := true, recurses := true, apart := false }
def FnExactStretchScaleSaid : Prop := fnExactStretchScaleRow.holds Try.pinned (OpenSpec.ofChange fnExactStretchScaleSpec)

/-- ITS FALSE NEIGHBOUR: 'it returns false'. Refute it at one input. -/
def fnExactStretchScaleWrong : ChangeSpec := { name := "fnExactStretchScale", fn := fun _ => fun
  | [d1, d2, d3] => { results := [.lit (.bool false)], args := [d1, d2, d3] }
  | _ => none }
def FnExactStretchScaleWrongFalsely : Prop := fnExactStretchScaleRow.holds Try.pinned (OpenSpec.ofChange fnExactStretchScaleWrong)

/-- 'laws.FnExactIndexScale': WHATEVER THE INPUT: true; the input reads as it did. -/
def fnExactIndexScaleSpec : ChangeSpec := { name := "fnExactIndexScale", fn := fun _ => fun
  | [d1, d2, d3] => { results := [.lit (.bool true)], args := [d1, d2, d3] }
  | _ => none }
def fnExactIndexScaleRow : OpenClaim := { program := "ytpgpnkaemgigdab", sum := "9baa0f97159cda53a3efe7da32cf0647dc98feb572d8527788be5ab5389d7134", func := "loop.example/g01393/laws.FnExactIndexScale", spec := "fnExactIndexScale", unfollowed := true, recurses := true, apart := false }
def FnExactIndexScaleSaid : Prop := fnExactIndexScaleRow.holds Try.pinned (OpenSpec.ofChange fnExactIndexScaleSpec)

/-- ITS FALSE NEIGHBOUR: 'it returns false'. Refute it at one input. -/
def fnExactIndexScaleWrong : ChangeSpec := { name := "fnExactIndexScale", fn := fun _ => fun
  | [d1, d2, d3] => { results := [.lit (.bool false)], args := [d1, d2, d3] }
  | _ => none }
def FnExactIndexScaleWrongFalsely : Prop := fnExactIndexScaleRow.holds Try.pinned (OpenSpec.ofChange fnExactIndexScaleWrong)

/-- 'laws.FnExactTrimScale': WHATEVER THE INPUT: true; the input reads as it did. -/
def fnExactTrimScaleSpec : ChangeSpec := { name := "fnExactTrimScale", fn := fun _ => fun
  | [d] => { results := [.lit (.bool true)], args := [d] }
  | _ => none }
def fnExactTrimScaleRow : OpenClaim := { program := "ytpgpnkaemgigdab", sum := "9baa0f97159cda53a3efe7da32cf0647dc98feb572d8527788be5ab5389d7134", func := "loop.example/g01393/laws.FnExactTrimScale", spec := "fnExactTrimScale", unfollowed := true, recurses := true, apart := false }
def FnExactTrimScaleSaid : Prop := fnExactTrimScaleRow.holds Try.pinned (OpenSpec.ofChange fnExactTrimScaleSpec)

/-- ITS FALSE NEIGHBOUR: 'it returns false'. Refute it at one input. -/
def fnExactTrimScaleWrong : ChangeSpec := { name := "fnExactTrimScale", fn := fun _ => fun
  | [d] => { results := [.lit (.bool false)], args := [d] }
  | _ => none }
def FnExactTrimScaleWrongFalsely : Prop := fnExactTrimScaleRow.holds Try.pinned (OpenSpec.ofChange fnExactTrimScaleWrong)

/-- 'laws.FnExactScaleOf': WHATEVER THE INPUT: true; the input reads as it did. -/
def fnExactScaleOfSpec : ChangeSpec := { name := "fnExactScaleOf", fn := fun _ => fun
  | [d1, d2, d3] => { results := [.lit (.bool true)], args := [d1, d2, d3] }
  | _ => none }
def fnExactScaleOfRow : OpenClaim := { program := "ytpgpnkaemgigdab", sum := "9baa0f97159cda53a3efe7da32cf0647dc98feb572d8527788be5ab5389d7134", func := "loop.example/g01393/laws.FnExactScaleOf", spec := "fnExactScaleOf", unfollowed := true, recurses := true, apart := false }
def FnExactScaleOfSaid : Prop := fnExactScaleOfRow.holds Try.pinned (OpenSpec.ofChange fnExactScaleOfSpec)

/-- ITS FALSE NEIGHBOUR: 'it returns false'. Refute it at one input. -/
def fnExactScaleOfWrong : ChangeSpec := { name := "fnExactScaleOf", fn := fun _ => fun
  | [d1, d2, d3] => { results := [.lit (.bool false)], args := [d1, d2, d3] }
  | _ => none }
def FnExactScaleOfWrongFalsely : Prop := fnExactScaleOfRow.holds Try.pinned (OpenSpec.ofChange fnExactScaleOfWrong)

/-- 'laws.FnExactJoinScales': WHATEVER THE INPUT: true; the input reads as it did. -/
def fnExactJoinScalesSpec : ChangeSpec := { name := "fnExactJoinScales", fn := fun _ => fun
  | [d1, d2] => { results := [.lit (.bool true)], args := [d1, d2] }
  | _ => none }
def fnExactJoinScalesRow : OpenClaim := { program := "ytpgpnkaemgigdab", sum := "9baa0f97159cda53a3efe7da32cf0647dc98feb572d8527788be5ab5389d7134", func := "loop.example/g01393/laws.FnExactJoinScales", spec := "fnExactJoinScales", unfollowed := true, recurses := true, apart := false }
def FnExactJoinScalesSaid : Prop := fnExactJoinScalesRow.holds Try.pinned (OpenSpec.ofChange fnExactJoinScalesSpec)

/-- ITS FALSE NEIGHBOUR: 'it returns false'. Refute it at one input. -/
def fnExactJoinScalesWrong : ChangeSpec := { name := "fnExactJoinScales", fn := fun _ => fun
  | [d1, d2] => { results := [.lit (.bool false)], args := [d1, d2] }
  | _ => none }
def FnExactJoinScalesWrongFalsely : Prop := fnExactJoinScalesRow.holds Try.pinned (OpenSpec.ofChange fnExactJoinScalesWrong)

/-- 'laws.FnExactWithholdSums': WHATEVER THE INPUT: true; the input reads as it did. -/
def fnExactWithholdSumsSpec : ChangeSpec := { name := "fnExactWithholdSums", fn := fun _ => fun
  | [d1, d2, d3] => { results := [.lit (.bool true)], args := [d1, d2, d3] }
  | _ => none }
def fnExactWithholdSumsRow : OpenClaim := { program := "ytpgpnkaemgigdab", sum := "9baa0f97159cda53a3efe7da32cf0647dc98feb572d8527788be5ab5389d7134", func := "loop.example/g01393/laws.FnExactWithholdSums", spec := "fnExactWithholdSums", unfollowed := true, recurses := true, apart := false }
def FnExactWithholdSumsSaid : Prop := fnExactWithholdSumsRow.holds Try.pinned (OpenSpec.ofChange fnExactWithholdSumsSpec)

/-- ITS FALSE NEIGHBOUR: 'it returns false'. Refute it at one input. -/
def fnExactWithholdSumsWrong : ChangeSpec := { name := "fnExactWithholdSums", fn := fun _ => fun
  | [d1, d2, d3] => { results := [.lit (.bool false)], args := [d1, d2, d3] }
  | _ => none }
def FnExactWithholdSumsWrongFalsely : Prop := fnExactWithholdSumsRow.holds Try.pinned (OpenSpec.ofChange fnExactWithholdSumsWrong)

/-- 'laws.FnExactWithholdYears': WHATEVER THE INPUT: true; the input reads as it did. -/
def fnExactWithholdYearsSpec : ChangeSpec := { name := "fnExactWithholdYears", fn := fun _ => fun
  | [d1, d2, d3] => { results := [.lit (.bool true)], args := [d1, d2, d3] }
  | _ => none }
def fnExactWithholdYearsRow : OpenClaim := { program := "ytpgpnkaemgigdab", sum := "9baa0f97159cda53a3efe7da32cf0647dc98feb572d8527788be5ab5389d7134", func := "loop.example/g01393/laws.FnExactWithholdYears", spec := "fnExactWithholdYears", unfollowed := true, recurses := true, apart := false }
def FnExactWithholdYearsSaid : Prop := fnExactWithholdYearsRow.holds Try.pinned (OpenSpec.ofChange fnExactWithholdYearsSpec)

/-- ITS FALSE NEIGHBOUR: 'it returns false'. Refute it at one input. -/
def fnExactWithholdYearsWrong : ChangeSpec := { name := "fnExactWithholdYears", fn := fun _ => fun
  | [d1, d2, d3] => { results := [.lit (.bool false)], args := [d1, d2, d3] }
  | _ => none }
def FnExactWithholdYearsWrongFalsely : Prop := fnExactWithholdYearsRow.holds Try.pinned (OpenSpec.ofChange fnExactWithholdYearsWrong)

/-- 'laws.FnExactRateCurve': WHATEVER THE INPUT: true; the input reads as it did. -/
def fnExactRateCurveSpec : ChangeSpec := { name := "fnExactRateCurve", fn := fun _ => fun
  | [d1, d2] => { results := [.lit (.bool true)], args := [d1, d2] }
  | _ => none }
def fnExactRateCurveRow : OpenClaim := { program := "ytpgpnkaemgigdab", sum := "9baa0f97159cda53a3efe7da32cf0647dc98feb572d8527788be5ab5389d7134", func := "loop.example/g01393/laws.FnExactRateCurve", spec := "fnExactRateCurve", unfollowed := true, recurses := true, apart := false }
def FnExactRateCurveSaid : Prop := fnExactRateCurveRow.holds Try.pinned (OpenSpec.ofChange fnExactRateCurveSpec)

/-- ITS FALSE NEIGHBOUR: 'it returns false'. Refute it at one input. -/
def fnExactRateCurveWrong : ChangeSpec := { name := "fnExactRateCurve", fn := fun _ => fun
  | [d1, d2] => { results := [.lit (.bool false)], args := [d1, d2] }
  | _ => none }
def FnExactRateCurveWrongFalsely : Prop := fnExactRateCurveRow.holds Try.pinned (OpenSpec.ofChange fnExactRateCurveWrong)

/- THE SECOND FORM. 'bulk': how many values and letters a reading holds, each counted each time it is reached (what is shared counts as often as it is met; a slice's spare places count too). A statement '..UptoSaid' is the law's where the arguments, and the package variables that the reading takes, are together of bulk at most 1048576: NARROWER than '..Said'. Prove '..Said' where nothing that the law and all that it calls make is longer than what came in: it says more and counts as full. Else prove '..UptoSaid'. A law counts once. -/
mutual
def uptoBulk {H : Type} : DataW H → Nat
  | .lit (.string bytes) => bytes.length + 1
  | .lit _ => 1
  | .nil => 1
  | .ptr d => uptoBulk d + 1
  | .slice elems spare => uptoBulkAll elems + uptoBulkAll spare + 1
  | .agg parts => uptoBulkAll parts + 1
  | .iface _ d => uptoBulk d + 1
  | .map entries => uptoBulkEntries entries + 1
  | .held _ => 1
def uptoBulkAll {H : Type} : List (DataW H) → Nat
  | [] => 0
  | d :: r => uptoBulk d + uptoBulkAll r
def uptoBulkEntries {H : Type} : List (Lit × DataW H) → Nat
  | [] => 0
  | x :: r => uptoBulkEntry x + uptoBulkEntries r
def uptoBulkEntry {H : Type} : Lit × DataW H → Nat
  | (.string bytes, d) => bytes.length + uptoBulk d + 1
  | (_, d) => uptoBulk d + 1
 end
def uptoSmall : (H : Type) → List (DataW H) → Bool := fun _ ds => decide (uptoBulkAll ds ≤ 1048576)
def OpenSpec.upto (s : _root_.Go.ChangeSpec) : _root_.Go.OpenSpec := { _root_.Go.OpenSpec.ofChange s with cond := some uptoSmall }

/-- 'laws.FnExactLeastDue', WHERE WHAT IT READS IS OF BULK AT MOST 1048576: true; the input reads as it did. -/
def fnExactLeastDueUptoRow : OpenClaim := { program := "ytpgpnkaemgigdab", sum := "9baa0f97159cda53a3efe7da32cf0647dc98feb572d8527788be5ab5389d7134", func := "loop.example/g01393/laws.FnExactLeastDue", spec := "fnExactLeastDue", unfollowed := true, recurses := true, apart := false, narrowed := true }
def FnExactLeastDueUptoSaid : Prop := fnExactLeastDueUptoRow.holds Try.pinned (OpenSpec.upto fnExactLeastDueSpec)

/-- 'laws.FnExactMixScale', WHERE WHAT IT READS IS OF BULK AT MOST 1048576: true; the input reads as it did. -/
def fnExactMixScaleUptoRow : OpenClaim := { program := "ytpgpnkaemgigdab", sum := "9baa0f97159cda53a3efe7da32cf0647dc98feb572d8527788be5ab5389d7134", func := "loop.example/g01393/laws.FnExactMixScale", spec := "fnExactMixScale", unfollowed := true, recurses := true, apart := false, narrowed := true }
def FnExactMixScaleUptoSaid : Prop := fnExactMixScaleUptoRow.holds Try.pinned (OpenSpec.upto fnExactMixScaleSpec)

/-- 'laws.FnExactStretchScale', WHERE WHAT IT READS IS OF BULK AT MOST 1048576: true; the input reads as it did. -/
def fnExactStretchScaleUptoRow : OpenClaim := { program := "ytpgpnkaemgigdab", sum := "9baa0f97159cda53a3efe7da32cf0647dc98feb572d8527788be5ab5389d7134", func := "loop.example/g01393/laws.FnExactStretchScale", spec := "fnExactStretchScale", unfollowed := true, recurses := true, apart := false, narrowed := true }
def FnExactStretchScaleUptoSaid : Prop := fnExactStretchScaleUptoRow.holds Try.pinned (OpenSpec.upto fnExactStretchScaleSpec)

/-- 'laws.FnExactIndexScale', WHERE WHAT IT READS IS OF BULK AT MOST 1048576: true; the input reads as it did. -/
def fnExactIndexScaleUptoRow : OpenClaim := { program := "ytpgpnkaemgigdab", sum := "9baa0f97159cda53a3efe7da32cf0647dc98feb572d8527788be5ab5389d7134", func := "loop.example/g01393/laws.FnExactIndexScale", spec := "fnExactIndexScale", unfollowed := true, recurses := true, apart := false, narrowed := true }
def FnExactIndexScaleUptoSaid : Prop := fnExactIndexScaleUptoRow.holds Try.pinned (OpenSpec.upto fnExactIndexScaleSpec)

/-- 'laws.FnExactTrimScale', WHERE WHAT IT READS IS OF BULK AT MOST 1048576: true; the input reads as it did. -/
def fnExactTrimScaleUptoRow : OpenClaim := { program := "ytpgpnkaemgigdab", sum := "9baa0f97159cda53a3efe7da32cf0647dc98feb572d8527788be5ab5389d7134", func := "loop.example/g01393/laws.FnExactTrimScale", spec := "fnExactTrimScale", unfollowed := true, recurses := true, apart := false, narrowed := true }
def FnExactTrimScaleUptoSaid : Prop := fnExactTrimScaleUptoRow.holds Try.pinned (OpenSpec.upto fnExactTrimScaleSpec)

/-- 'laws.FnExactScaleOf', WHERE WHAT IT READS IS OF BULK AT MOST 1048576: true; the input reads as it did. -/
def fnExactScaleOfUptoRow : OpenClaim := { program := "ytpgpnkaemgigdab", sum := "9baa0f97159cda53a3efe7da32cf0647dc98feb572d8527788be5ab5389d7134", func := "loop.example/g01393/laws.FnExactScaleOf", spec := "fnExactScaleOf", unfollowed := true, recurses := true, apart := false, narrowed := true }
def FnExactScaleOfUptoSaid : Prop := fnExactScaleOfUptoRow.holds Try.pinned (OpenSpec.upto fnExactScaleOfSpec)

/-- 'laws.FnExactJoinScales', WHERE WHAT IT READS IS OF BULK AT MOST 1048576: true; the input reads as it did. -/
def fnExactJoinScalesUptoRow : OpenClaim := { program := "ytpgpnkaemgigdab", sum := "9baa0f97159cda53a3efe7da32cf0647dc98feb572d8527788be5ab5389d7134", func := "loop.example/g01393/laws.FnExactJoinScales", spec := "fnExactJoinScales", unfollowed := true, recurses := true, apart := false, narrowed := true }
def FnExactJoinScalesUptoSaid : Prop := fnExactJoinScalesUptoRow.holds Try.pinned (OpenSpec.upto fnExactJoinScalesSpec)

/-- 'laws.FnExactWithholdSums', WHERE WHAT IT READS IS OF BULK AT MOST 1048576: true; the input reads as it did. -/
def fnExactWithholdSumsUptoRow : OpenClaim := { program := "ytpgpnkaemgigdab", sum := "9baa0f97159cda53a3efe7da32cf0647dc98feb572d8527788be5ab5389d7134", func := "loop.example/g01393/laws.FnExactWithholdSums", spec := "fnExactWithholdSums", unfollowed := true, recurses := true, apart := false, narrowed := true }
def FnExactWithholdSumsUptoSaid : Prop := fnExactWithholdSumsUptoRow.holds Try.pinned (OpenSpec.upto fnExactWithholdSumsSpec)

/-- 'laws.FnExactWithholdYears', WHERE WHAT IT READS IS OF BULK AT MOST 1048576: true; the input reads as it did. -/
def fnExactWithholdYearsUptoRow : OpenClaim := { program := "ytpgpnkaemgigdab", sum := "9baa0f97159cda53a3efe7da32cf0647dc98feb572d8527788be5ab5389d7134", func := "loop.example/g01393/laws.FnExactWithholdYears", spec := "fnExactWithholdYears", unfollowed := true, recurses := true, apart := false, narrowed := true }
def FnExactWithholdYearsUptoSaid : Prop := fnExactWithholdYearsUptoRow.holds Try.pinned (OpenSpec.upto fnExactWithholdYearsSpec)

/-- 'laws.FnExactRateCurve', WHERE WHAT IT READS IS OF BULK AT MOST 1048576: true; the input reads as it did. -/
def fnExactRateCurveUptoRow : OpenClaim := { program := "ytpgpnkaemgigdab", sum := "9baa0f97159cda53a3efe7da32cf0647dc98feb572d8527788be5ab5389d7134", func := "loop.example/g01393/laws.FnExactRateCurve", spec := "fnExactRateCurve", unfollowed := true, recurses := true, apart := false, narrowed := true }
def FnExactRateCurveUptoSaid : Prop := fnExactRateCurveUptoRow.holds Try.pinned (OpenSpec.upto fnExactRateCurveSpec)

end Rows
end Go.Proofs.Ytpgpnkaemgigdab
