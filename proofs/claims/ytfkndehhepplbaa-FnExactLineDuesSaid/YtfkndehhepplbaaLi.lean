/- Lists of amounts, by the reference; RefundShare, by both. -/
import Derived.Test.YtfkndehhepplbaaAl
import Derived.Test.YtfkndehhepplbaaC4
import Derived.Test.YtfkndehhepplbaaG1
import Derived.Test.YtfkndehhepplbaaP4
namespace Go.Proofs.Ytfkndehhepplbaa
open Go.RowKit Go.Dues
set_option maxRecDepth 100000 in
set_option maxHeartbeats 4000000 in
theorem specAmts_any (A : Option Addr) (n c : Nat) (x : Nat → Int) (most : Int) (w : World) (hn : n ≤ maxLen) (hs : SL w A n (fun j => .int .i64 (x j))) :
    Calls Try.prog 69 #[.slice A n c, .int .i64 most] w fun e w' => e = .returned (.bool (tru (allP x n 1 most 0 1000000000000))) ∧ w = w' := by
  unfold maxLen at hn
  have HC := cells_a hs
  clear hs
  by_cases hm : (n : Int) ≤ most
  · have hmd : decide ((n : Int) ≤ most) = true := decide_eq_true hm
    go_enter Try.func69, Try.ntmps69
    go_wp2
    go_loop [5] (fun i => ∃ k : Nat, k ≤ n ∧ i = .int .i64 k ∧ Hid (∀ j, j < k → 0 ≤ x j ∧ x j ≤ 1000000000000)) (fun i => n - (intOf i).toNat)
    case atStart => exact ⟨0, Nat.zero_le _, rfl, fun j hj => absurd hj (by omega)⟩
    case round =>
      obtain ⟨k, hk, rfl, hg⟩ := hrel
      by_cases hlt : k < n
      · obtain ⟨b1, off, rfl, hb1, hxk⟩ := HC.out k hlt
        cases hp : amtB (x k)
        · have HT := hide (tru_no (show ¬ allP x n 1 most 0 1000000000000 from fun h => by rw [amtB_yes (h.2 k hlt)] at hp; cases hp))
          go_wp2_with (go_at_call 50; refine (specCents_any _ _ ).mono ?_; rintro e w' ⟨rfl, rfl⟩)
          go_ret
          exact ⟨retBa HT.out.symm, rfl⟩
        · have HE := hide (amtB_iff.1 hp)
          go_wp2_with (go_at_call 50; refine (specCents_any _ _ ).mono ?_; rintro e w' ⟨rfl, rfl⟩)
          clear hp
          go_round
          case rel => exact ⟨k + 1, by omega, by go_num, by
            intro j hj
            by_cases hjk : j = k
            · subst hjk; exact HE.out
            · exact hg.out j (by omega)⟩
          case measure => simp [intOf]; omega
      · obtain rfl : k = n := by omega
        by_cases h1 : (1 : Int) ≤ (k : Int)
        · have h1d : decide ((1 : Int) ≤ (k : Int)) = true := decide_eq_true h1
          have HT := hide (tru_yes (show allP x k 1 most 0 1000000000000 from ⟨⟨h1, hm⟩, hg.out⟩))
          go_wp2
          go_ret
          exact ⟨retBa HT.out.symm, rfl⟩
        · have h1d : decide ((1 : Int) ≤ (k : Int)) = false := decide_eq_false h1
          have HT := hide (tru_no (show ¬ allP x k 1 most 0 1000000000000 from fun h => h1 h.1.1))
          go_wp2
          go_ret
          exact ⟨retBa HT.out.symm, rfl⟩
  · have hmd : decide ((n : Int) ≤ most) = false := decide_eq_false hm
    have HT := hide (tru_no (show ¬ allP x n 1 most 0 1000000000000 from fun h => hm h.1.2))
    by_cases h1 : (1 : Int) ≤ (n : Int)
    · have h1d : decide ((1 : Int) ≤ (n : Int)) = true := decide_eq_true h1
      go_enter Try.func69, Try.ntmps69
      go_wp2
      go_loop [5] (fun i => i = .int .i64 0) (fun _ => 0)
      case atStart => rfl
      case round =>
        obtain rfl := hrel
        have h0 : (0 : Int) < n := by omega
        go_wp2
        go_ret
        exact ⟨retBa HT.out.symm, rfl⟩
    · have h1d : decide ((1 : Int) ≤ (n : Int)) = false := decide_eq_false h1
      go_enter Try.func69, Try.ntmps69
      go_wp2
      go_loop [5] (fun i => i = .int .i64 0) (fun _ => 0)
      case atStart => rfl
      case round =>
        obtain rfl := hrel
        have h0 : ¬ (0 : Int) < n := by omega
        go_wp2
        go_ret
        exact ⟨retBa HT.out.symm, rfl⟩
def rfP (x : Nat → Int) (n : Nat) (a b : Int) : Prop := allP x n 1 32 0 1000000000000 ∧ (1 ≤ b ∧ b ≤ 10000) ∧ (0 ≤ a ∧ a ≤ b) ∧ psum x n * a / b ≤ 1000000000000
theorem rf_bd {x : Nat → Int} {n : Nat} {a b : Int} (h : allP x n 1 32 0 1000000000000) (hb : 1 ≤ b ∧ b ≤ 10000) (ha : 0 ≤ a ∧ a ≤ b) : (0 ≤ psum x n ∧ psum x n ≤ 32000000000000) ∧ (0 ≤ psum x n * a ∧ psum x n * a ≤ 320000000000000000) ∧ 0 ≤ psum x n * a / b ∧ psum x n * a / b ≤ psum x n * a := by
  have h1 := psum_top h.2 (Nat.le_refl n)
  have h2 := h.1.2
  have h3 := mul_bd (M := 32000000000000) (N := 10000) h1.1 (by omega) ha.1 (by omega)
  exact ⟨⟨h1.1, by omega⟩, ⟨h3.1, by omega⟩, Int.ediv_nonneg h3.1 (by omega), Int.ediv_le_self _ h3.1⟩
set_option maxRecDepth 100000 in
set_option maxHeartbeats 4000000 in
theorem specRefund_any (A : Option Addr) (n c : Nat) (x : Nat → Int) (a b : Int) (w : World) (hn : n ≤ maxLen) (hs : SL w A n (fun j => .int .i64 (x j))) :
    Calls Try.prog 31 #[.slice A n c, .int .i64 a, .int .i64 b] w fun e w' => e = .returned (.tuple #[.int .i64 (ifV (rfP x n a b) (psum x n * a / b)), .bool (tru (rfP x n a b))]) ∧ Below w.heap.size w w' := by
  unfold maxLen at hn
  have HA := hide (specAmts_any A n c x 32 w (by unfold maxLen; omega) hs)
  have HC := cells_a hs
  clear hs
  by_cases hall : allP x n 1 32 0 1000000000000
  · have HAT := hide (tru_yes hall)
    have HAL := hide hall
    have n32 := hall.1.2
    clear hall
    cases gb : inB b 1 10000
    · have HH := hide (show ¬ rfP x n a b from fun h => by rw [inB_yes h.2.1] at gb; cases gb)
      go_enter Try.func31, Try.ntmps31
      go_wp2_with fail
      refine HA.out.mono ?_
      rw [HAT.out]
      rintro e w1 ⟨rfl, rfl⟩
      go_wp2_with (first | (go_at_call 50; refine (specCents_any _ _ ).mono ?_; rintro e w' ⟨rfl, rfl⟩) | (go_at_call 58; refine (specRate_any _ _ ).mono ?_; rintro e w' ⟨rfl, rfl⟩) | (go_at_call 63; refine (specWay_any _ _ ).mono ?_; rintro e w' ⟨rfl, rfl⟩) | (go_at_call 57; refine (specIn_any _ _ _ _ ).mono ?_; rintro e w' ⟨rfl, rfl⟩))
      go_ret2
      exact ⟨ret_no HH.out, Below.refl _ _⟩
    cases ga : inB a 0 b
    · have HH := hide (show ¬ rfP x n a b from fun h => by rw [inB_yes h.2.2.1] at ga; cases ga)
      go_enter Try.func31, Try.ntmps31
      go_wp2_with fail
      refine HA.out.mono ?_
      rw [HAT.out]
      rintro e w1 ⟨rfl, rfl⟩
      go_wp2_with (first | (go_at_call 50; refine (specCents_any _ _ ).mono ?_; rintro e w' ⟨rfl, rfl⟩) | (go_at_call 58; refine (specRate_any _ _ ).mono ?_; rintro e w' ⟨rfl, rfl⟩) | (go_at_call 63; refine (specWay_any _ _ ).mono ?_; rintro e w' ⟨rfl, rfl⟩) | (go_at_call 57; refine (specIn_any _ _ _ _ ).mono ?_; rintro e w' ⟨rfl, rfl⟩))
      go_ret2
      exact ⟨ret_no HH.out, Below.refl _ _⟩
    obtain ⟨b0, b1⟩ := inB_iff.1 gb
    obtain ⟨a0, a1⟩ := inB_iff.1 ga
    obtain ⟨⟨s0, s1⟩, ⟨m0, m1⟩, q0, q1⟩ := rf_bd HAL.out ⟨b0, b1⟩ ⟨a0, a1⟩
    have hne : ¬ b = 0 := by omega
    have HQ := hide (show rfP x n a b ↔ psum x n * a / b ≤ 1000000000000 from ⟨fun h => h.2.2.2, fun h => ⟨HAL.out, ⟨b0, b1⟩, ⟨a0, a1⟩, h⟩⟩)
    go_enter Try.func31, Try.ntmps31
    go_wp2_with fail
    refine HA.out.mono ?_
    rw [HAT.out]
    rintro e w1 ⟨rfl, rfl⟩
    go_wp2_with (first | (go_at_call 57; refine (specIn_any _ _ _ _ ).mono ?_; rintro e w' ⟨rfl, rfl⟩))
    clear gb ga
    go_loop [8, 9] (fun s i => ∃ (k : Nat) (S : Int), k ≤ n ∧ i = .int .i64 k ∧ s = .int .i64 S ∧ 0 ≤ S ∧ S ≤ 1000000000000 * (k : Int) ∧ Hid (S = psum x k)) (fun _ i => n - (intOf i).toNat)
    case atStart => exact ⟨0, 0, Nat.zero_le _, rfl, rfl, by omega, by simp, rfl⟩
    case round =>
      obtain ⟨k, S, hk, rfl, rfl, S0, S1, hS⟩ := hrel
      by_cases hlt : k < n
      · obtain ⟨b1, off, rfl, hb1, hxk⟩ := HC.out k hlt
        obtain ⟨x0, x1⟩ := HAL.out.2 k hlt
        go_wp2
        go_round
        case rel => exact ⟨k + 1, _, by omega, by go_num, rfl, by omega, by push_cast; omega, by show S + x k = psum x (k + 1); rw [psum_succ, hS.out]⟩
        case measure => simp [intOf]; omega
      · obtain rfl : k = n := by omega
        obtain rfl := hS.out
        cases gq : amtB (psum x k * a / b)
        · have HH := hide (show ¬ rfP x k a b from fun h => by rw [amtB_yes ⟨q0, HQ.out.1 h⟩] at gq; cases gq)
          go_wp2_with (first | (go_at_call 50; refine (specCents_any _ _ ).mono ?_; rintro e w' ⟨rfl, rfl⟩) | (go_at_call 58; refine (specRate_any _ _ ).mono ?_; rintro e w' ⟨rfl, rfl⟩) | (go_at_call 63; refine (specWay_any _ _ ).mono ?_; rintro e w' ⟨rfl, rfl⟩) | (go_at_call 57; refine (specIn_any _ _ _ _ ).mono ?_; rintro e w' ⟨rfl, rfl⟩))
          go_ret2
          exact ⟨ret_no HH.out, Below.refl _ _⟩
        · have HH := hide (HQ.out.2 (amtB_iff.1 gq).2)
          go_wp2_with (first | (go_at_call 50; refine (specCents_any _ _ ).mono ?_; rintro e w' ⟨rfl, rfl⟩) | (go_at_call 58; refine (specRate_any _ _ ).mono ?_; rintro e w' ⟨rfl, rfl⟩) | (go_at_call 63; refine (specWay_any _ _ ).mono ?_; rintro e w' ⟨rfl, rfl⟩) | (go_at_call 57; refine (specIn_any _ _ _ _ ).mono ?_; rintro e w' ⟨rfl, rfl⟩))
          go_ret2
          exact ⟨ret_yes HH.out, Below.refl _ _⟩
  · have HAT := hide (tru_no hall)
    have HH := hide (show ¬ rfP x n a b from fun h => hall h.1)
    clear hall
    go_enter Try.func31, Try.ntmps31
    go_wp2_with fail
    refine HA.out.mono ?_
    rw [HAT.out]
    rintro e w1 ⟨rfl, rfl⟩
    go_wp2_with (first | (go_at_call 50; refine (specCents_any _ _ ).mono ?_; rintro e w' ⟨rfl, rfl⟩) | (go_at_call 58; refine (specRate_any _ _ ).mono ?_; rintro e w' ⟨rfl, rfl⟩) | (go_at_call 63; refine (specWay_any _ _ ).mono ?_; rintro e w' ⟨rfl, rfl⟩) | (go_at_call 57; refine (specIn_any _ _ _ _ ).mono ?_; rintro e w' ⟨rfl, rfl⟩))
    go_ret2
    exact ⟨ret_no HH.out, Below.refl _ _⟩
set_option maxRecDepth 100000 in
set_option maxHeartbeats 4000000 in
theorem implRefund_any (A : Option Addr) (n c : Nat) (x : Nat → Int) (a b : Int) (w : World) (hn : n ≤ maxLen) (hs : SL w A n (fun j => .int .i64 (x j))) :
    Calls Try.prog 33 #[.slice A n c, .int .i64 a, .int .i64 b] w fun e w' => e = .returned (.tuple #[.int .i64 (ifV (rfP x n a b) (psum x n * a / b)), .bool (tru (rfP x n a b))]) ∧ Below w.heap.size w w' := by
  unfold maxLen at hn
  have HA := hide (areAll_isAmount A n c x 1 32 w (by unfold maxLen; omega) hs)
  have HSL := hide hs
  clear hs
  by_cases hall : allP x n 1 32 0 1000000000000
  · have HAT := hide (tru_yes hall)
    have HAL := hide hall
    have n32 := hall.1.2
    clear hall
    cases gb : inB b 1 10000
    · have HH := hide (show ¬ rfP x n a b from fun h => by rw [inB_yes h.2.1] at gb; cases gb)
      go_enter Try.func33, Try.ntmps33
      go_wp2_with fail
      refine HA.out.mono ?_
      rw [HAT.out]
      rintro e w1 ⟨rfl, hb⟩
      have HB1 := hide hb
      have HS1 := hide (HSL.out.below hb)
      clear hb
      go_wp2_with (first | (go_at_call 53; refine (implAmount_any _ _ ).mono ?_; rintro e w' ⟨rfl, rfl⟩) | (go_at_call 61; refine (implWithin_any _ _ _ _ ).mono ?_; rintro e w' ⟨rfl, rfl⟩))
      go_ret2
      exact ⟨ret_no HH.out, HB1.out⟩
    cases ga : inB a 0 b
    · have HH := hide (show ¬ rfP x n a b from fun h => by rw [inB_yes h.2.2.1] at ga; cases ga)
      go_enter Try.func33, Try.ntmps33
      go_wp2_with fail
      refine HA.out.mono ?_
      rw [HAT.out]
      rintro e w1 ⟨rfl, hb⟩
      have HB1 := hide hb
      have HS1 := hide (HSL.out.below hb)
      clear hb
      go_wp2_with (first | (go_at_call 53; refine (implAmount_any _ _ ).mono ?_; rintro e w' ⟨rfl, rfl⟩) | (go_at_call 61; refine (implWithin_any _ _ _ _ ).mono ?_; rintro e w' ⟨rfl, rfl⟩))
      go_ret2
      exact ⟨ret_no HH.out, HB1.out⟩
    obtain ⟨b0, b1⟩ := inB_iff.1 gb
    obtain ⟨a0, a1⟩ := inB_iff.1 ga
    obtain ⟨⟨s0, s1⟩, ⟨m0, m1⟩, q0, q1⟩ := rf_bd HAL.out ⟨b0, b1⟩ ⟨a0, a1⟩
    have hne : ¬ b = 0 := by omega
    have HQ := hide (show rfP x n a b ↔ psum x n * a / b ≤ 1000000000000 from ⟨fun h => h.2.2.2, fun h => ⟨HAL.out, ⟨b0, b1⟩, ⟨a0, a1⟩, h⟩⟩)
    cases gq : amtB (psum x n * a / b)
    · have HH := hide (show ¬ rfP x n a b from fun h => by rw [amtB_yes ⟨q0, HQ.out.1 h⟩] at gq; cases gq)
      go_enter Try.func33, Try.ntmps33
      go_wp2_with fail
      refine HA.out.mono ?_
      rw [HAT.out]
      rintro e w1 ⟨rfl, hb⟩
      have HB1 := hide hb
      have HS1 := hide (HSL.out.below hb)
      clear hb
      go_wp2_with (first | (go_at_call 61; refine (implWithin_any _ _ _ _ ).mono ?_; rintro e w' ⟨rfl, rfl⟩))
      refine (sumBy_itself A n c x w1 (by omega) (fun j hj => by have := HAL.out.2 j hj; omega) HS1.out).mono ?_
      rintro e w' ⟨rfl, rfl⟩
      go_wp2_with (first | (go_at_call 53; refine (implAmount_any _ _ ).mono ?_; rintro e w' ⟨rfl, rfl⟩))
      go_ret2
      exact ⟨ret_no HH.out, HB1.out⟩
    · have HH := hide (HQ.out.2 (amtB_iff.1 gq).2)
      go_enter Try.func33, Try.ntmps33
      go_wp2_with fail
      refine HA.out.mono ?_
      rw [HAT.out]
      rintro e w1 ⟨rfl, hb⟩
      have HB1 := hide hb
      have HS1 := hide (HSL.out.below hb)
      clear hb
      go_wp2_with (first | (go_at_call 61; refine (implWithin_any _ _ _ _ ).mono ?_; rintro e w' ⟨rfl, rfl⟩))
      refine (sumBy_itself A n c x w1 (by omega) (fun j hj => by have := HAL.out.2 j hj; omega) HS1.out).mono ?_
      rintro e w' ⟨rfl, rfl⟩
      go_wp2_with (first | (go_at_call 53; refine (implAmount_any _ _ ).mono ?_; rintro e w' ⟨rfl, rfl⟩))
      go_ret2
      exact ⟨ret_yes HH.out, HB1.out⟩
  · have HAT := hide (tru_no hall)
    have HH := hide (show ¬ rfP x n a b from fun h => hall h.1)
    clear hall
    go_enter Try.func33, Try.ntmps33
    go_wp2_with fail
    refine HA.out.mono ?_
    rw [HAT.out]
    rintro e w1 ⟨rfl, hb⟩
    have HB1 := hide hb
    have HS1 := hide (HSL.out.below hb)
    clear hb
    go_wp2_with (first | (go_at_call 61; refine (implWithin_any _ _ _ _ ).mono ?_; rintro e w' ⟨rfl, rfl⟩))
    go_ret2
    exact ⟨ret_no HH.out, HB1.out⟩
end Go.Proofs.Ytfkndehhepplbaa
