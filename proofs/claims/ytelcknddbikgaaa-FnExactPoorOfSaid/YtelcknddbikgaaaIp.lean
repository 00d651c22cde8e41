/- PoorOf, by both. -/
import Derived.Test.YtelcknddbikgaaaIh
namespace Go.Proofs.Ytelcknddbikgaaa
open Go.RowKit Go.Dues
def prP (x : Nat → Int) (n : Nat) (v : Int) : Prop := allP x n 1 64 0 1000000000 ∧ (0 ≤ v ∧ v ≤ 1000000000)
set_option maxRecDepth 100000 in
set_option maxHeartbeats 8000000 in
theorem specPoor_any (A : Option Addr) (n cc : Nat) (x : Nat → Int) (v : Int) (w : World) (hn_n : n ≤ maxLen) (hs_n : SL w A n (fun j => .int .i64 (x j))) :
    Calls Try.prog 29 #[.slice A n cc, .int .i64 v] w fun e w' => e = .returned (.tuple #[.int .i64 (ifV (prP x n v) (poN x v n)), .int .i64 (ifV (prP x n v) (poG x v n)), .bool (tru (prP x n v))]) ∧ Below w.heap.size w w' := by
  unfold maxLen at hn_n
  have HB0 := hide (Below.refl w.heap.size w)
  have HS0_0 := hide hs_n
  clear hs_n
  by_cases hall0 : allP x n 1 64 0 1000000000
  rotate_left
  · have HAT0 := hide (tru_no hall0)
    have HH := hide (show ¬ prP x n v from fun h => hall0 (h.1))
    clear hall0
    go_enter Try.func29, Try.ntmps29
    go_wp2_with (first | (go_at_call 60; refine (specIn_any _ _ _ _ ).mono ?_; rintro e w' ⟨rfl, rfl⟩))
    refine (specIncomes_any A n cc x _ (by unfold maxLen; omega) HS0_0.out).mono ?_
    rw [HAT0.out]
    rintro e W1 ⟨rfl, hbe⟩
    have HB1 : Hid (Below w.heap.size w W1) := by rw [← hbe]; exact HB0.out
    have HS0_1 : Hid (SL W1 A n (fun j => .int .i64 (x j))) := by rw [← hbe]; exact HS0_0.out
    clear hbe
    go_wp2_with (first | (go_at_call 60; refine (specIn_any _ _ _ _ ).mono ?_; rintro e w' ⟨rfl, rfl⟩))
    go_ret3
    exact ⟨ret_no9 HH.out, HB1.out⟩
  have HAT0 := hide (tru_yes hall0)
  have HAL0 := hide hall0
  clear hall0
  cases gg1 : inB v (0) (1000000000)
  · have HH := hide (show ¬ prP x n v from fun h => by rw [inB_yes (h.2)] at gg1; cases gg1)
    go_enter Try.func29, Try.ntmps29
    go_wp2_with (first | (go_at_call 60; refine (specIn_any _ _ _ _ ).mono ?_; rintro e w' ⟨rfl, rfl⟩))
    refine (specIncomes_any A n cc x _ (by unfold maxLen; omega) HS0_0.out).mono ?_
    rw [HAT0.out]
    rintro e W1 ⟨rfl, hbe⟩
    have HB1 : Hid (Below w.heap.size w W1) := by rw [← hbe]; exact HB0.out
    have HS0_1 : Hid (SL W1 A n (fun j => .int .i64 (x j))) := by rw [← hbe]; exact HS0_0.out
    clear hbe
    go_wp2_with (first | (go_at_call 60; refine (specIn_any _ _ _ _ ).mono ?_; rintro e w' ⟨rfl, rfl⟩))
    go_ret3
    exact ⟨ret_no9 HH.out, HB1.out⟩
  have HG1 := hide (inB_iff.1 gg1)
  have n64 := HAL0.out.1.2
  have n1 := HAL0.out.1.1
  have HH := hide (show prP x n v from ⟨HAL0.out, HG1.out⟩)
  have HGB := hide (fun k (hk : k ≤ n) => poG_bd (x := x) HG1.out HAL0.out.2 hk)
  obtain ⟨v0, v1⟩ := HG1.out
  go_enter Try.func29, Try.ntmps29
  go_wp2_with (first | (go_at_call 60; refine (specIn_any _ _ _ _ ).mono ?_; rintro e w' ⟨rfl, rfl⟩))
  refine (specIncomes_any A n cc x _ (by unfold maxLen; omega) HS0_0.out).mono ?_
  rw [HAT0.out]
  rintro e W1 ⟨rfl, hbe⟩
  have HB1 : Hid (Below w.heap.size w W1) := by rw [← hbe]; exact HB0.out
  have HS0_1 : Hid (SL W1 A n (fun j => .int .i64 (x j))) := by rw [← hbe]; exact HS0_0.out
  clear hbe
  go_wp2_with (first | (go_at_call 60; refine (specIn_any _ _ _ _ ).mono ?_; rintro e w' ⟨rfl, rfl⟩))
  clear gg1
  have HC := cells_a HS0_1.out
  go_loop [7, 8, 9, 20] (fun c g _ i => ∃ (k : Nat) (C G : Int), k ≤ n ∧ i = .int .i64 k ∧ c = .int .i64 C ∧ g = .int .i64 G ∧ 0 ≤ C ∧ C ≤ (k : Int) ∧ 0 ≤ G ∧ G ≤ 1000000000 * (k : Int) ∧ Hid (C = poN x v k) ∧ Hid (G = poG x v k)) (fun _ _ _ i => n - (intOf i).toNat)
  case atStart => exact ⟨0, 0, 0, Nat.zero_le _, rfl, rfl, rfl, Int.le_refl _, by simp, Int.le_refl _, by simp, rfl, rfl⟩
  case round =>
    obtain ⟨k, C, G, hk, rfl, rfl, rfl, C0, C1, G0, G1, hC, hG⟩ := hrel
    by_cases hlt : k < n
    · obtain ⟨b1, off, rfl, hb1, hxk⟩ := HC.out k hlt
      obtain ⟨x0, x1⟩ := HAL0.out.2 k hlt
      have hki : (k : Int) < (n : Int) := by omega
      by_cases hp : x k < v
      · have HN := hide (poN_yes (x := x) (l := v) hp)
        have HG := hide (poG_yes (x := x) (l := v) hp)
        obtain ⟨X, hX⟩ : ∃ X, x k = X := ⟨_, rfl⟩
        rw [hX] at hxk x0 x1 hp HG
        clear hX
        go_wp2
        go_round
        case rel => exact ⟨k + 1, _, _, by omega, by go_num, rfl, rfl, by omega, by push_cast; omega, by omega, by push_cast; omega, hide (by rw [HN.out, hC.out]), hide (by rw [HG.out, hG.out])⟩
        case measure => simp [intOf]; omega
      · have HN := hide (poN_no (x := x) (l := v) hp)
        have HG := hide (poG_no (x := x) (l := v) hp)
        obtain ⟨X, hX⟩ : ∃ X, x k = X := ⟨_, rfl⟩
        rw [hX] at hxk x0 x1 hp
        clear hX
        go_wp2
        go_round
        case rel => exact ⟨k + 1, _, _, by omega, by go_num, rfl, rfl, by omega, by push_cast; omega, by omega, by push_cast; omega, hide (by rw [HN.out, hC.out]), hide (by rw [HG.out, hG.out])⟩
        case measure => simp [intOf]; omega
    · have HN := hide (show k = n by omega)
      have HCV := hide (show C = poN x v n by rw [hC.out, HN.out])
      have HGV := hide (show G = poG x v n by rw [hG.out, HN.out])
      have hki : ¬ (k : Int) < (n : Int) := by omega
      go_wp2
      go_ret3
      exact ⟨ret_yes9 HH.out HCV.out HGV.out, HB1.out⟩
set_option maxRecDepth 100000 in
set_option maxHeartbeats 8000000 in
theorem implPoor_any (A : Option Addr) (n cc : Nat) (x : Nat → Int) (v : Int) (w : World) (hn_n : n ≤ maxLen) (hs_n : SL w A n (fun j => .int .i64 (x j))) :
    Calls Try.prog 30 #[.slice A n cc, .int .i64 v] w fun e w' => e = .returned (.tuple #[.int .i64 (ifV (prP x n v) (poN x v n)), .int .i64 (ifV (prP x n v) (poG x v n)), .bool (tru (prP x n v))]) ∧ Below w.heap.size w w' := by
  unfold maxLen at hn_n
  have HB0 := hide (Below.refl w.heap.size w)
  have HS0_0 := hide hs_n
  clear hs_n
  by_cases hall0 : allP x n 1 64 0 1000000000
  rotate_left
  · have HAT0 := hide (tru_no hall0)
    have HH := hide (show ¬ prP x n v from fun h => hall0 (h.1))
    clear hall0
    go_enter Try.func30, Try.ntmps30
    go_wp2_with (first | (go_at_call 62; refine (implWithin_any _ _ _ _ ).mono ?_; rintro e w' ⟨rfl, rfl⟩) | (go_at_call 17; go_in) | (go_at_call 53; go_in))
    refine (areAll_isIncome A n cc x 1 64 _ (by unfold maxLen; omega) HS0_0.out).mono ?_
    rw [HAT0.out]
    rintro e W1 ⟨rfl, hb⟩
    have HB1 := hide (HB0.out.trans (hb.mono HB0.out.size))
    have HS0_1 := hide (HS0_0.out.below hb)
    clear hb
    go_wp2_with (first | (go_at_call 62; refine (implWithin_any _ _ _ _ ).mono ?_; rintro e w' ⟨rfl, rfl⟩) | (go_at_call 17; go_in) | (go_at_call 53; go_in))
    go_ret3
    exact ⟨ret_no9 HH.out, HB1.out⟩
  have HAT0 := hide (tru_yes hall0)
  have HAL0 := hide hall0
  clear hall0
  cases gg1 : inB v (0) (1000000000)
  · have HH := hide (show ¬ prP x n v from fun h => by rw [inB_yes (h.2)] at gg1; cases gg1)
    go_enter Try.func30, Try.ntmps30
    go_wp2_with (first | (go_at_call 62; refine (implWithin_any _ _ _ _ ).mono ?_; rintro e w' ⟨rfl, rfl⟩) | (go_at_call 17; go_in) | (go_at_call 53; go_in))
    refine (areAll_isIncome A n cc x 1 64 _ (by unfold maxLen; omega) HS0_0.out).mono ?_
    rw [HAT0.out]
    rintro e W1 ⟨rfl, hb⟩
    have HB1 := hide (HB0.out.trans (hb.mono HB0.out.size))
    have HS0_1 := hide (HS0_0.out.below hb)
    clear hb
    go_wp2_with (first | (go_at_call 62; refine (implWithin_any _ _ _ _ ).mono ?_; rintro e w' ⟨rfl, rfl⟩) | (go_at_call 17; go_in) | (go_at_call 53; go_in))
    go_ret3
    exact ⟨ret_no9 HH.out, HB1.out⟩
  have HG1 := hide (inB_iff.1 gg1)
  have n64 := HAL0.out.1.2
  have n1 := HAL0.out.1.1
  have HH := hide (show prP x n v from ⟨HAL0.out, HG1.out⟩)
  have HGB := hide (fun k (hk : k ≤ n) => poG_bd (x := x) HG1.out HAL0.out.2 hk)
  obtain ⟨v0, v1⟩ := HG1.out
  go_enter Try.func30, Try.ntmps30
  go_wp2_with (first | (go_at_call 62; refine (implWithin_any _ _ _ _ ).mono ?_; rintro e w' ⟨rfl, rfl⟩) | (go_at_call 17; go_in) | (go_at_call 53; go_in))
  refine (areAll_isIncome A n cc x 1 64 _ (by unfold maxLen; omega) HS0_0.out).mono ?_
  rw [HAT0.out]
  rintro e W1 ⟨rfl, hb⟩
  have HB1 := hide (HB0.out.trans (hb.mono HB0.out.size))
  have HS0_1 := hide (HS0_0.out.below hb)
  clear hb
  go_wp2_with (first | (go_at_call 62; refine (implWithin_any _ _ _ _ ).mono ?_; rintro e w' ⟨rfl, rfl⟩) | (go_at_call 17; go_in) | (go_at_call 53; go_in))
  clear gg1
  have HC := cells_a HS0_1.out
  go_loop [7, 8, 10, 21] (fun c g _ i => ∃ (k : Nat) (C G : Int), k ≤ n ∧ i = .int .i64 k ∧ c = .int .i64 C ∧ g = .int .i64 G ∧ 0 ≤ C ∧ C ≤ (k : Int) ∧ 0 ≤ G ∧ G ≤ 1000000000 * (k : Int) ∧ Hid (C = poN x v k) ∧ Hid (G = poG x v k)) (fun _ _ _ i => n - (intOf i).toNat)
  case atStart => exact ⟨0, 0, 0, Nat.zero_le _, rfl, rfl, rfl, Int.le_refl _, by simp, Int.le_refl _, by simp, rfl, rfl⟩
  case round =>
    obtain ⟨k, C, G, hk, rfl, rfl, rfl, C0, C1, G0, G1, hC, hG⟩ := hrel
    by_cases hlt : k < n
    · obtain ⟨b1, off, rfl, hb1, hxk⟩ := HC.out k hlt
      obtain ⟨x0, x1⟩ := HAL0.out.2 k hlt
      have hki : (k : Int) < (n : Int) := by omega
      by_cases hp : x k < v
      · have HN := hide (poN_yes (x := x) (l := v) hp)
        have HG := hide (poG_yes (x := x) (l := v) hp)
        obtain ⟨X, hX⟩ : ∃ X, x k = X := ⟨_, rfl⟩
        rw [hX] at hxk x0 x1 hp HG
        clear hX
        go_wp2
        go_round
        case rel => exact ⟨k + 1, _, _, by omega, by go_num, rfl, rfl, by omega, by push_cast; omega, by omega, by push_cast; omega, hide (by rw [HN.out, hC.out]), hide (by rw [HG.out, hG.out])⟩
        case measure => simp [intOf]; omega
      · have HN := hide (poN_no (x := x) (l := v) hp)
        have HG := hide (poG_no (x := x) (l := v) hp)
        obtain ⟨X, hX⟩ : ∃ X, x k = X := ⟨_, rfl⟩
        rw [hX] at hxk x0 x1 hp
        clear hX
        go_wp2
        go_round
        case rel => exact ⟨k + 1, _, _, by omega, by go_num, rfl, rfl, by omega, by push_cast; omega, by omega, by push_cast; omega, hide (by rw [HN.out, hC.out]), hide (by rw [HG.out, hG.out])⟩
        case measure => simp [intOf]; omega
    · have HN := hide (show k = n by omega)
      have HCV := hide (show C = poN x v n by rw [hC.out, HN.out])
      have HGV := hide (show G = poG x v n by rw [hG.out, HN.out])
      have hki : ¬ (k : Int) < (n : Int) := by omega
      go_wp2
      go_ret3
      exact ⟨ret_yes9 HH.out HCV.out HGV.out, HB1.out⟩
end Go.Proofs.Ytelcknddbikgaaa
