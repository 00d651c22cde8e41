/- Numbers between two others, by both. -/
import Derived.Test.YtjndhcdanpnniaaRd
import Derived.Test.YtjndhcdanpnniaaC3
namespace Go.Proofs.Ytjndhcdanpnniaa
open Go.RowKit Go.Dues
def inB (x lo hi : Int) : Bool := decide (lo ≤ x ∧ x ≤ hi)
theorem inB_yes {x lo hi : Int} (h : lo ≤ x ∧ x ≤ hi) : inB x lo hi = true := decide_eq_true h
theorem inB_no {x lo hi : Int} (h : ¬ (lo ≤ x ∧ x ≤ hi)) : inB x lo hi = false := decide_eq_false h
theorem inB_iff {x lo hi : Int} : inB x lo hi = true ↔ lo ≤ x ∧ x ≤ hi := decide_eq_true_iff
theorem inB_niff {x lo hi : Int} : inB x lo hi = false ↔ ¬ (lo ≤ x ∧ x ≤ hi) := decide_eq_false_iff_not
theorem specIn_any (x lo hi : Int) (w : World) : Calls Try.prog 90 #[.int .i64 x, .int .i64 lo, .int .i64 hi] w fun e w' => e = .returned (.bool (inB x lo hi)) ∧ w = w' := by
  by_cases h0 : lo ≤ x
  · by_cases h1 : x ≤ hi
    · have HB := hide (inB_yes ⟨h0, h1⟩)
      go_enter Try.func90, Try.ntmps90
      go_wp2
      go_ret
      exact ⟨retb HB.out.symm, rfl⟩
    · have HB := hide (inB_no (x := x) (lo := lo) (hi := hi) (by omega))
      go_enter Try.func90, Try.ntmps90
      go_wp2
      go_ret
      exact ⟨retb HB.out.symm, rfl⟩
  · have HB := hide (inB_no (x := x) (lo := lo) (hi := hi) (by omega))
    go_enter Try.func90, Try.ntmps90
    go_wp2
    go_ret
    exact ⟨retb HB.out.symm, rfl⟩
theorem implWithin_any (x lo hi : Int) (w : World) : Calls Try.prog 92 #[.int .i64 x, .int .i64 lo, .int .i64 hi] w fun e w' => e = .returned (.bool (inB x lo hi)) ∧ w = w' := by
  by_cases h0 : lo ≤ x
  · by_cases h1 : x ≤ hi
    · have HB := hide (inB_yes ⟨h0, h1⟩)
      go_enter Try.func92, Try.ntmps92
      go_wp2
      go_ret
      exact ⟨retb HB.out.symm, rfl⟩
    · have HB := hide (inB_no (x := x) (lo := lo) (hi := hi) (by omega))
      go_enter Try.func92, Try.ntmps92
      go_wp2
      go_ret
      exact ⟨retb HB.out.symm, rfl⟩
  · have HB := hide (inB_no (x := x) (lo := lo) (hi := hi) (by omega))
    go_enter Try.func92, Try.ntmps92
    go_wp2
    go_ret
    exact ⟨retb HB.out.symm, rfl⟩
end Go.Proofs.Ytjndhcdanpnniaa
