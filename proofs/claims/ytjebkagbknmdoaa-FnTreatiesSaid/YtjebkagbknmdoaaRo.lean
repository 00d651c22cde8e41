/- RoundOf and its law. -/
import Derived.Test.YtjebkagbknmdoaaRd
import Derived.Test.YtjebkagbknmdoaaSlb
namespace Go.Proofs.Ytjebkagbknmdoaa
open Go.RowKit Go.Dues
def roundP (a b r : Int) : Prop := (0 ≤ a ∧ a ≤ 4000000000000000000) ∧ (1 ≤ b ∧ b ≤ 1000000000) ∧ (0 ≤ r ∧ r ≤ 3)
set_option maxHeartbeats 1000000 in
theorem implRoundOf_any (a b r : Int) (w : World) :
    Calls Try.prog 19 #[.int .i64 a, .int .i64 b, .int .i64 r] w fun e w' => e = .returned (.tuple #[.int .i64 (ifV (roundP a b r) (rnd a b r)), .bool (tru (roundP a b r))]) ∧ Below w.heap.size w w' := by
  by_cases ha : 0 ≤ a ∧ a ≤ 4000000000000000000
  · obtain ⟨ha0, ha1⟩ := ha
    by_cases hb : 1 ≤ b ∧ b ≤ 1000000000
    · obtain ⟨hb0, hb1⟩ := hb
      by_cases hr : 0 ≤ r ∧ r ≤ 3
      · have hrb := wayB_yes hr
        have HF := hide (show roundP a b r from ⟨⟨ha0, ha1⟩, ⟨hb0, hb1⟩, hr⟩)
        obtain ⟨hr0, hr1⟩ := hr
        go_enter Try.func19, Try.ntmps19
        go_wp2_with (first | (go_at_call 72; refine (implRound_any _ _).mono ?_; rintro e w' ⟨rfl, rfl⟩) | (go_at_call 74; refine (implRounded_any _ _ _ _ ha0 (by omega) hb0 (by omega) ⟨hr0, hr1⟩).mono ?_; rintro e w' ⟨rfl, q, rfl⟩))
        go_ret2
        exact ⟨ret_yes HF.out, Joins.below_draws _ _ _⟩
      · have hrb := wayB_no hr
        have HF := hide (show ¬ roundP a b r from fun h => hr h.2.2)
        clear hr
        go_enter Try.func19, Try.ntmps19
        go_wp2_with (first | (go_at_call 72; refine (implRound_any _ _).mono ?_; rintro e w' ⟨rfl, rfl⟩))
        go_ret2
        exact ⟨ret_no HF.out, Below.refl _ _⟩
    · have HF := hide (show ¬ roundP a b r from fun h => hb h.2.1)
      by_cases hb0 : 1 ≤ b
      · have hb1 : 1000000000 < b := by omega
        clear hb
        go_enter Try.func19, Try.ntmps19
        go_wp2
        go_ret2
        exact ⟨ret_no HF.out, Below.refl _ _⟩
      · clear hb
        go_enter Try.func19, Try.ntmps19
        go_wp2
        go_ret2
        exact ⟨ret_no HF.out, Below.refl _ _⟩
  · have HF := hide (show ¬ roundP a b r from fun h => ha h.1)
    by_cases ha0 : 0 ≤ a
    · have ha1 : 4000000000000000000 < a := by omega
      clear ha
      go_enter Try.func19, Try.ntmps19
      go_wp2
      go_ret2
      exact ⟨ret_no HF.out, Below.refl _ _⟩
    · clear ha
      go_enter Try.func19, Try.ntmps19
      go_wp2
      go_ret2
      exact ⟨ret_no HF.out, Below.refl _ _⟩
end Go.Proofs.Ytjebkagbknmdoaa
