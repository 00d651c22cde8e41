/- Days and dates, by both. -/
import Derived.Test.YtbcajjpgpjadaaaB3
import Derived.Deep.RegionWith
namespace Go.Proofs.Ytbcajjpgpjadaaa
open Go.RowKit Go.Dues
theorem vi {a b : Int} (h : a = b) : Value.int .i64 a = .int .i64 b := by rw [h]
def leapB (y : Int) : Bool := decide (y % 4 = 0)
theorem leapB_yes {y : Int} (h : y % 4 = 0) : leapB y = true := decide_eq_true h
theorem leapB_no {y : Int} (h : ¬ y % 4 = 0) : leapB y = false := decide_eq_false h
theorem yLen_yes {y : Int} (h : y % 4 = 0) : yLen y = 366 := by unfold yLen; rw [if_pos h]
theorem yLen_no {y : Int} (h : ¬ y % 4 = 0) : yLen y = 365 := by unfold yLen; rw [if_neg h]
theorem mLen_2y {y : Int} (h : y % 4 = 0) : mLen y 2 = 29 := by unfold mLen; rw [if_pos rfl, if_pos h]
theorem mLen_2n {y : Int} (h : ¬ y % 4 = 0) : mLen y 2 = 28 := by unfold mLen; rw [if_pos rfl, if_neg h]
theorem mLen_30 {y m : Int} (h : m = 4 ∨ m = 6 ∨ m = 9 ∨ m = 11) : mLen y m = 30 := by unfold mLen; rw [if_neg (by omega), if_pos h]
theorem mLen_31 {y m : Int} (h2 : m ≠ 2) (h : ¬ (m = 4 ∨ m = 6 ∨ m = 9 ∨ m = 11)) : mLen y m = 31 := by unfold mLen; rw [if_neg h2, if_neg h]
theorem specLeap_any (y : Int) (w : World) (hy : 0 ≤ y) : Calls Try.prog 190 #[.int .i64 y] w fun e w' => e = .returned (.bool (leapB y)) ∧ w = w' := by
  by_cases h : y % 4 = 0
  · have HB := hide (leapB_yes h)
    have g : (y % 4 == 0) = true := by rw [beq_iff_eq]; exact h
    clear h
    go_enter Try.func190, Try.ntmps190
    go_wp2
    go_ret
    exact ⟨retb HB.out.symm, rfl⟩
  · have HB := hide (leapB_no h)
    have g : (y % 4 == 0) = false := by rw [beq_eq_false_iff_ne]; exact h
    clear h
    go_enter Try.func190, Try.ntmps190
    go_wp2
    go_ret
    exact ⟨retb HB.out.symm, rfl⟩
theorem implLeap_any (y : Int) (w : World) (hy : 0 ≤ y) : Calls Try.prog 188 #[.int .i64 y] w fun e w' => e = .returned (.bool (leapB y)) ∧ w = w' := by
  by_cases h : y % 4 = 0
  · have HB := hide (leapB_yes h)
    have g : (y % 4 == 0) = true := by rw [beq_iff_eq]; exact h
    clear h
    go_enter Try.func188, Try.ntmps188
    go_wp2
    go_ret
    exact ⟨retb HB.out.symm, rfl⟩
  · have HB := hide (leapB_no h)
    have g : (y % 4 == 0) = false := by rw [beq_eq_false_iff_ne]; exact h
    clear h
    go_enter Try.func188, Try.ntmps188
    go_wp2
    go_ret
    exact ⟨retb HB.out.symm, rfl⟩
set_option maxHeartbeats 1000000 in
theorem specLong_any (y m : Int) (w : World) (hy : 0 ≤ y) : Calls Try.prog 191 #[.int .i64 y, .int .i64 m] w fun e w' => e = .returned (.int .i64 (mLen y m)) ∧ w = w' := by
  by_cases h2 : m = 2
  · subst h2
    by_cases h : y % 4 = 0
    · have HB := hide (mLen_2y h)
      have g := leapB_yes h
      clear h
      go_enter Try.func191, Try.ntmps191
      go_wp2_with (go_at_call 190; refine (specLeap_any _ _ (by omega)).mono ?_; rintro e w' ⟨rfl, rfl⟩)
      go_ret
      exact ⟨reti HB.out.symm, rfl⟩
    · have HB := hide (mLen_2n h)
      have g := leapB_no h
      clear h
      go_enter Try.func191, Try.ntmps191
      go_wp2_with (go_at_call 190; refine (specLeap_any _ _ (by omega)).mono ?_; rintro e w' ⟨rfl, rfl⟩)
      go_ret
      exact ⟨reti HB.out.symm, rfl⟩
  · by_cases h : m = 4 ∨ m = 6 ∨ m = 9 ∨ m = 11
    · have HB := hide (mLen_30 (y := y) h)
      rcases h with rfl | rfl | rfl | rfl
      · go_enter Try.func191, Try.ntmps191
        go_wp2
        go_ret
        exact ⟨reti HB.out.symm, rfl⟩
      · go_enter Try.func191, Try.ntmps191
        go_wp2
        go_ret
        exact ⟨reti HB.out.symm, rfl⟩
      · go_enter Try.func191, Try.ntmps191
        go_wp2
        go_ret
        exact ⟨reti HB.out.symm, rfl⟩
      · go_enter Try.func191, Try.ntmps191
        go_wp2
        go_ret
        exact ⟨reti HB.out.symm, rfl⟩
    · have HB := hide (mLen_31 (y := y) h2 h)
      have g2 : (m == 2) = false := by rw [beq_eq_false_iff_ne]; omega
      have g4 : (m == 4) = false := by rw [beq_eq_false_iff_ne]; omega
      have g6 : (m == 6) = false := by rw [beq_eq_false_iff_ne]; omega
      have g9 : (m == 9) = false := by rw [beq_eq_false_iff_ne]; omega
      have g11 : (m == 11) = false := by rw [beq_eq_false_iff_ne]; omega
      clear h h2
      go_enter Try.func191, Try.ntmps191
      go_wp2_with (go_at_call 190; refine (specLeap_any _ _ (by omega)).mono ?_; rintro e w' ⟨rfl, rfl⟩)
      go_ret
      exact ⟨reti HB.out.symm, rfl⟩
set_option maxHeartbeats 1000000 in
theorem implLong_any (y m : Int) (w : World) (hy : 0 ≤ y) : Calls Try.prog 97 #[.int .i64 y, .int .i64 m] w fun e w' => e = .returned (.int .i64 (mLen y m)) ∧ w = w' := by
  by_cases h2 : m = 2
  · subst h2
    by_cases h : y % 4 = 0
    · have HB := hide (mLen_2y h)
      have g := leapB_yes h
      clear h
      go_enter Try.func97, Try.ntmps97
      go_wp2_with (go_at_call 188; refine (implLeap_any _ _ (by omega)).mono ?_; rintro e w' ⟨rfl, rfl⟩)
      go_ret
      exact ⟨reti HB.out.symm, rfl⟩
    · have HB := hide (mLen_2n h)
      have g := leapB_no h
      clear h
      go_enter Try.func97, Try.ntmps97
      go_wp2_with (go_at_call 188; refine (implLeap_any _ _ (by omega)).mono ?_; rintro e w' ⟨rfl, rfl⟩)
      go_ret
      exact ⟨reti HB.out.symm, rfl⟩
  · by_cases h : m = 4 ∨ m = 6 ∨ m = 9 ∨ m = 11
    · have HB := hide (mLen_30 (y := y) h)
      rcases h with rfl | rfl | rfl | rfl
      · go_enter Try.func97, Try.ntmps97
        go_wp2
        go_ret
        exact ⟨reti HB.out.symm, rfl⟩
      · go_enter Try.func97, Try.ntmps97
        go_wp2
        go_ret
        exact ⟨reti HB.out.symm, rfl⟩
      · go_enter Try.func97, Try.ntmps97
        go_wp2
        go_ret
        exact ⟨reti HB.out.symm, rfl⟩
      · go_enter Try.func97, Try.ntmps97
        go_wp2
        go_ret
        exact ⟨reti HB.out.symm, rfl⟩
    · have HB := hide (mLen_31 (y := y) h2 h)
      have g2 : (m == 2) = false := by rw [beq_eq_false_iff_ne]; omega
      have g4 : (m == 4) = false := by rw [beq_eq_false_iff_ne]; omega
      have g6 : (m == 6) = false := by rw [beq_eq_false_iff_ne]; omega
      have g9 : (m == 9) = false := by rw [beq_eq_false_iff_ne]; omega
      have g11 : (m == 11) = false := by rw [beq_eq_false_iff_ne]; omega
      clear h h2
      go_enter Try.func97, Try.ntmps97
      go_wp2_with (go_at_call 188; refine (implLeap_any _ _ (by omega)).mono ?_; rintro e w' ⟨rfl, rfl⟩)
      go_ret
      exact ⟨reti HB.out.symm, rfl⟩
theorem implYear_any (y : Int) (w : World) (hy : 0 ≤ y) : Calls Try.prog 98 #[.int .i64 y] w fun e w' => e = .returned (.int .i64 (yLen y)) ∧ w = w' := by
  by_cases h : y % 4 = 0
  · have HB := hide (yLen_yes h)
    have g := leapB_yes h
    clear h
    go_enter Try.func98, Try.ntmps98
    go_wp2_with (go_at_call 188; refine (implLeap_any _ _ (by omega)).mono ?_; rintro e w' ⟨rfl, rfl⟩)
    go_ret
    exact ⟨reti HB.out.symm, rfl⟩
  · have HB := hide (yLen_no h)
    have g := leapB_no h
    clear h
    go_enter Try.func98, Try.ntmps98
    go_wp2_with (go_at_call 188; refine (implLeap_any _ _ (by omega)).mono ?_; rintro e w' ⟨rfl, rfl⟩)
    go_ret
    exact ⟨reti HB.out.symm, rfl⟩
set_option maxHeartbeats 2000000 in
theorem implDayOf_any (y : Int) (m : Int) (d : Int) (w : World) :
    Calls Try.prog 27 #[.int .i64 y, .int .i64 m, .int .i64 d] w fun e w' => e = .returned (.tuple #[.int .i64 (ifV (dayOfP y m d) (dayOfV y m d)), .bool (tru (dayOfP y m d))]) ∧ Below w.heap.size w w' := by
  cases g0 : inB y (2000) (2099)
  · have HH := hide (show ¬ dayOfP y m d from fun h => by rw [inB_yes (h.1)] at g0; cases g0)
    go_enter Try.func27, Try.ntmps27
    go_wp2_with (first | (go_at_call 96; refine (implWithin_any _ _ _ _).mono ?_; rintro e w' ⟨rfl, rfl⟩) | (go_at_call 97; refine (implLong_any _ _ _ (by omega)).mono ?_; rintro e w' ⟨rfl, rfl⟩))
    go_ret2
    exact ⟨ret_no HH.out, Below.refl _ _⟩
  obtain ⟨y0, y1⟩ := inB_iff.1 g0
  cases g1 : inB m (1) (12)
  · have HH := hide (show ¬ dayOfP y m d from fun h => by rw [inB_yes (h.2.1)] at g1; cases g1)
    go_enter Try.func27, Try.ntmps27
    go_wp2_with (first | (go_at_call 96; refine (implWithin_any _ _ _ _).mono ?_; rintro e w' ⟨rfl, rfl⟩) | (go_at_call 97; refine (implLong_any _ _ _ (by omega)).mono ?_; rintro e w' ⟨rfl, rfl⟩))
    go_ret2
    exact ⟨ret_no HH.out, Below.refl _ _⟩
  obtain ⟨m0, m1⟩ := inB_iff.1 g1
  cases g2 : inB d (1) (mLen y m)
  · have HH := hide (show ¬ dayOfP y m d from fun h => by rw [inB_yes (h.2.2)] at g2; cases g2)
    go_enter Try.func27, Try.ntmps27
    go_wp2_with (first | (go_at_call 96; refine (implWithin_any _ _ _ _).mono ?_; rintro e w' ⟨rfl, rfl⟩) | (go_at_call 97; refine (implLong_any _ _ _ (by omega)).mono ?_; rintro e w' ⟨rfl, rfl⟩))
    go_ret2
    exact ⟨ret_no HH.out, Below.refl _ _⟩
  obtain ⟨d0, d1⟩ := inB_iff.1 g2
  have HH := hide (show dayOfP y m d from ⟨⟨y0, y1⟩, ⟨m0, m1⟩, ⟨d0, d1⟩⟩)
  have hd := (mLen_bd y m).2
  have d2 : d ≤ 31 := by omega
  clear hd
  go_enter Try.func27, Try.ntmps27
  go_wp2_with (first | (go_at_call 96; refine (implWithin_any _ _ _ _).mono ?_; rintro e w' ⟨rfl, rfl⟩) | (go_at_call 97; refine (implLong_any _ _ _ (by omega)).mono ?_; rintro e w' ⟨rfl, rfl⟩))
  go_loop [8, 9] (fun o yy => ∃ (k : Nat) (v : Int), k ≤ (y - 2000).toNat ∧ yy = .int .i64 (2000 + k) ∧ o = .int .i64 v ∧ 0 ≤ v ∧ v ≤ 31 + 366 * k ∧ Hid (v = d - 1 + yDays k)) (fun _ yy => (y - intOf yy).toNat)
  case atStart => exact ⟨0, d - 1, by omega, rfl, rfl, by omega, by simp; omega, by show d - 1 = d - 1 + yDays 0; simp [yDays]⟩
  case round =>
    obtain ⟨k, v, hk, rfl, rfl, v0, v1, hv⟩ := hrel
    by_cases hlt : 2000 + (k : Int) < y
    · obtain ⟨l0, l1⟩ := yLen_bd (2000 + k)
      have HS := hide (yDays_succ k)
      go_wp2_with (go_at_call 98; refine (implYear_any _ _ (by omega)).mono ?_; rintro e w' ⟨rfl, rfl⟩)
      go_round
      case rel => exact ⟨k + 1, _, by omega, vi (by push_cast; omega), rfl, by omega, by push_cast; omega, by have h1 := HS.out; have h3 := hv.out; show _ = _; omega⟩
      case measure => simp [intOf]; omega
    · have HK := hide (show k = (y - 2000).toNat by omega)
      have hv2 : v ≤ 40000 := by omega
      clear v1
      go_wp2
      go_loop [8, 10] (fun o mm => ∃ (j : Nat) (u : Int), j ≤ (m - 1).toNat ∧ mm = .int .i64 (1 + j) ∧ o = .int .i64 u ∧ 0 ≤ u ∧ u ≤ 40000 + 31 * j ∧ Hid (u = v + mDays y j)) (fun _ mm => (m - intOf mm).toNat)
      case atStart => exact ⟨0, v, by omega, rfl, rfl, by omega, by simp; omega, by show v = v + mDays y 0; simp [mDays]⟩
      case round =>
        obtain ⟨j, u, hj, rfl, rfl, u0, u1, hu⟩ := hrel
        by_cases hlt2 : 1 + (j : Int) < m
        · obtain ⟨l0, l1⟩ := mLen_bd y (1 + j)
          have HS := hide (mDays_succ y j)
          go_wp2_with (go_at_call 97; refine (implLong_any _ _ _ (by omega)).mono ?_; rintro e w' ⟨rfl, rfl⟩)
          go_round
          case rel => exact ⟨j + 1, _, by omega, vi (by push_cast; omega), rfl, by omega, by push_cast; omega, by have h1 := HS.out; have h3 := hu.out; show _ = _; omega⟩
          case measure => simp [intOf]; omega
        · have HJ := hide (show j = (m - 1).toNat by omega)
          have HV := hide (show u = dayOfV y m d by unfold dayOfV; rw [← HK.out, ← HJ.out]; have h1 := hv.out; have h2 := hu.out; omega)
          go_wp2
          go_ret2
          exact ⟨ret_val HH.out HV.out, Below.refl _ _⟩
end Go.Proofs.Ytbcajjpgpjadaaa
