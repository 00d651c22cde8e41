/- Days and dates, by both. -/
import Derived.Test.YtadgkecbcadfpabB3
import Derived.Deep.RegionWith
namespace Go.Proofs.Ytadgkecbcadfpab
open Go.RowKit Go.Dues
theorem vi {a b : Int} (h : a = b) : Value.int .i64 a = .int .i64 b := by rw [h]
def leapB (y : Int) : Bool := decide (y % 4 = 0)
theorem leapB_yes {y : Int} (h : y % 4 = 0) : leapB y = true := decide_eq_true h
theorem leapB_no {y : Int} (h : ¬ y % 4 = 0) : leapB y = false := decide_eq_false h
theorem yLen_yes {y : Int} (h : y % 4 = 0) : yLen y = 366 := by unfold yLen; rw [if_pos h]
theorem yLen_no {y : Int} (h : ¬ y % 4 = 0) : yLen y = 365 := by unfold yLen; rw [if_neg h]
theorem mLen_2y {y : Int} (h : y % 4 = 0) : mLen y 2 = 29 := by unfold mLen; rw [if_pos rfl, if_pos h]
theorem mLen_2n {y : Int} (h : ¬ y % 4 = 0) : mLen y 2 = 28 := by unfold mLen; rw [if_pos rfl, if_neg h]
theorem mLen_30 {y m : Int} (h : m = 4 ∨ m = 6 ∨ m = 9 ∨ m = 11) : mLen y m = 30 := by unfold mLen; rw [if_neg (by omega), if_pos h]
theorem mLen_31 {y m : Int} (h2 : m ≠ 2) (h : ¬ (m = 4 ∨ m = 6 ∨ m = 9 ∨ m = 11)) : mLen y m = 31 := by unfold mLen; rw [if_neg h2, if_neg h]
theorem specLeap_any (y : Int) (w : World) (hy : 0 ≤ y) : Calls Try.prog 170 #[.int .i64 y] w fun e w' => e = .returned (.bool (leapB y)) ∧ w = w' := by
  by_cases h : y % 4 = 0
  · have HB := hide (leapB_yes h)
    have g : (y % 4 == 0) = true := by rw [beq_iff_eq]; exact h
    clear h
    go_enter Try.func170, Try.ntmps170
    go_wp2
    go_ret
    exact ⟨retb HB.out.symm, rfl⟩
  · have HB := hide (leapB_no h)
    have g : (y % 4 == 0) = false := by rw [beq_eq_false_iff_ne]; exact h
    clear h
    go_enter Try.func170, Try.ntmps170
    go_wp2
    go_ret
    exact ⟨retb HB.out.symm, rfl⟩
theorem implLeap_any (y : Int) (w : World) (hy : 0 ≤ y) : Calls Try.prog 180 #[.int .i64 y] w fun e w' => e = .returned (.bool (leapB y)) ∧ w = w' := by
  by_cases h : y % 4 = 0
  · have HB := hide (leapB_yes h)
    have g : (y % 4 == 0) = true := by rw [beq_iff_eq]; exact h
    clear h
    go_enter Try.func180, Try.ntmps180
    go_wp2
    go_ret
    exact ⟨retb HB.out.symm, rfl⟩
  · have HB := hide (leapB_no h)
    have g : (y % 4 == 0) = false := by rw [beq_eq_false_iff_ne]; exact h
    clear h
    go_enter Try.func180, Try.ntmps180
    go_wp2
    go_ret
    exact ⟨retb HB.out.symm, rfl⟩
set_option maxHeartbeats 1000000 in
theorem specLong_any (y m : Int) (w : World) (hy : 0 ≤ y) : Calls Try.prog 171 #[.int .i64 y, .int .i64 m] w fun e w' => e = .returned (.int .i64 (mLen y m)) ∧ w = w' := by
  by_cases h2 : m = 2
  · subst h2
    by_cases h : y % 4 = 0
    · have HB := hide (mLen_2y h)
      have g := leapB_yes h
      clear h
      go_enter Try.func171, Try.ntmps171
      go_wp2_with (go_at_call 170; refine (specLeap_any _ _ (by omega)).mono ?_; rintro e w' ⟨rfl, rfl⟩)
      go_ret
      exact ⟨reti HB.out.symm, rfl⟩
    · have HB := hide (mLen_2n h)
      have g := leapB_no h
      clear h
      go_enter Try.func171, Try.ntmps171
      go_wp2_with (go_at_call 170; refine (specLeap_any _ _ (by omega)).mono ?_; rintro e w' ⟨rfl, rfl⟩)
      go_ret
      exact ⟨reti HB.out.symm, rfl⟩
  · by_cases h : m = 4 ∨ m = 6 ∨ m = 9 ∨ m = 11
    · have HB := hide (mLen_30 (y := y) h)
      rcases h with rfl | rfl | rfl | rfl
      · go_enter Try.func171, Try.ntmps171
        go_wp2
        go_ret
        exact ⟨reti HB.out.symm, rfl⟩
      · go_enter Try.func171, Try.ntmps171
        go_wp2
        go_ret
        exact ⟨reti HB.out.symm, rfl⟩
      · go_enter Try.func171, Try.ntmps171
        go_wp2
        go_ret
        exact ⟨reti HB.out.symm, rfl⟩
      · go_enter Try.func171, Try.ntmps171
        go_wp2
        go_ret
        exact ⟨reti HB.out.symm, rfl⟩
    · have HB := hide (mLen_31 (y := y) h2 h)
      have g2 : (m == 2) = false := by rw [beq_eq_false_iff_ne]; omega
      have g4 : (m == 4) = false := by rw [beq_eq_false_iff_ne]; omega
      have g6 : (m == 6) = false := by rw [beq_eq_false_iff_ne]; omega
      have g9 : (m == 9) = false := by rw [beq_eq_false_iff_ne]; omega
      have g11 : (m == 11) = false := by rw [beq_eq_false_iff_ne]; omega
      clear h h2
      go_enter Try.func171, Try.ntmps171
      go_wp2_with (go_at_call 170; refine (specLeap_any _ _ (by omega)).mono ?_; rintro e w' ⟨rfl, rfl⟩)
      go_ret
      exact ⟨reti HB.out.symm, rfl⟩
set_option maxHeartbeats 1000000 in
theorem implLong_any (y m : Int) (w : World) (hy : 0 ≤ y) : Calls Try.prog 174 #[.int .i64 y, .int .i64 m] w fun e w' => e = .returned (.int .i64 (mLen y m)) ∧ w = w' := by
  by_cases h2 : m = 2
  · subst h2
    by_cases h : y % 4 = 0
    · have HB := hide (mLen_2y h)
      have g := leapB_yes h
      clear h
      go_enter Try.func174, Try.ntmps174
      go_wp2_with (go_at_call 180; refine (implLeap_any _ _ (by omega)).mono ?_; rintro e w' ⟨rfl, rfl⟩)
      go_ret
      exact ⟨reti HB.out.symm, rfl⟩
    · have HB := hide (mLen_2n h)
      have g := leapB_no h
      clear h
      go_enter Try.func174, Try.ntmps174
      go_wp2_with (go_at_call 180; refine (implLeap_any _ _ (by omega)).mono ?_; rintro e w' ⟨rfl, rfl⟩)
      go_ret
      exact ⟨reti HB.out.symm, rfl⟩
  · by_cases h : m = 4 ∨ m = 6 ∨ m = 9 ∨ m = 11
    · have HB := hide (mLen_30 (y := y) h)
      rcases h with rfl | rfl | rfl | rfl
      · go_enter Try.func174, Try.ntmps174
        go_wp2
        go_ret
        exact ⟨reti HB.out.symm, rfl⟩
      · go_enter Try.func174, Try.ntmps174
        go_wp2
        go_ret
        exact ⟨reti HB.out.symm, rfl⟩
      · go_enter Try.func174, Try.ntmps174
        go_wp2
        go_ret
        exact ⟨reti HB.out.symm, rfl⟩
      · go_enter Try.func174, Try.ntmps174
        go_wp2
        go_ret
        exact ⟨reti HB.out.symm, rfl⟩
    · have HB := hide (mLen_31 (y := y) h2 h)
      have g2 : (m == 2) = false := by rw [beq_eq_false_iff_ne]; omega
      have g4 : (m == 4) = false := by rw [beq_eq_false_iff_ne]; omega
      have g6 : (m == 6) = false := by rw [beq_eq_false_iff_ne]; omega
      have g9 : (m == 9) = false := by rw [beq_eq_false_iff_ne]; omega
      have g11 : (m == 11) = false := by rw [beq_eq_false_iff_ne]; omega
      clear h h2
      go_enter Try.func174, Try.ntmps174
      go_wp2_with (go_at_call 180; refine (implLeap_any _ _ (by omega)).mono ?_; rintro e w' ⟨rfl, rfl⟩)
      go_ret
      exact ⟨reti HB.out.symm, rfl⟩
theorem implYear_any (y : Int) (w : World) (hy : 0 ≤ y) : Calls Try.prog 173 #[.int .i64 y] w fun e w' => e = .returned (.int .i64 (yLen y)) ∧ w = w' := by
  by_cases h : y % 4 = 0
  · have HB := hide (yLen_yes h)
    have g := leapB_yes h
    clear h
    go_enter Try.func173, Try.ntmps173
    go_wp2_with (go_at_call 180; refine (implLeap_any _ _ (by omega)).mono ?_; rintro e w' ⟨rfl, rfl⟩)
    go_ret
    exact ⟨reti HB.out.symm, rfl⟩
  · have HB := hide (yLen_no h)
    have g := leapB_no h
    clear h
    go_enter Try.func173, Try.ntmps173
    go_wp2_with (go_at_call 180; refine (implLeap_any _ _ (by omega)).mono ?_; rintro e w' ⟨rfl, rfl⟩)
    go_ret
    exact ⟨reti HB.out.symm, rfl⟩
end Go.Proofs.Ytadgkecbcadfpab
