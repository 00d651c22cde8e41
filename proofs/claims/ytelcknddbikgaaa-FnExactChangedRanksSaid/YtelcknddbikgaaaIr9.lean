/- ChangedRanks, by both. -/
import Derived.Test.YtelcknddbikgaaaIh
namespace Go.Proofs.Ytelcknddbikgaaa
open Go.RowKit Go.Dues
def rkP (x : Nat → Int) (n : Nat) (y : Nat → Int) (m : Nat) : Prop := allP x n 1 64 0 1000000000 ∧ allP y m 1 64 0 1000000000 ∧ m = n
set_option maxRecDepth 100000 in
set_option maxHeartbeats 8000000 in
theorem specRanks_any (A : Option Addr) (n cc : Nat) (x : Nat → Int) (A' : Option Addr) (m cm : Nat) (y : Nat → Int) (w : World) (hn_n : n ≤ maxLen) (hs_n : SL w A n (fun j => .int .i64 (x j))) (hn_m : m ≤ maxLen) (hs_m : SL w A' m (fun j => .int .i64 (y j))) :
    Calls Try.prog 31 #[.slice A n cc, .slice A' m cm] w fun e w' => e = .returned (.tuple #[.int .i64 (ifV (rkP x n y m) (crS x y n)), .bool (tru (rkP x n y m))]) ∧ Below w.heap.size w w' := by
  unfold maxLen at hn_n
  unfold maxLen at hn_m
  have HB0 := hide (Below.refl w.heap.size w)
  have HS0_0 := hide hs_n
  have HS1_0 := hide hs_m
  clear hs_n hs_m
  by_cases hall0 : allP x n 1 64 0 1000000000
  rotate_left
  · have HAT0 := hide (tru_no hall0)
    have HH := hide (show ¬ rkP x n y m from fun h => hall0 (h.1))
    clear hall0
    go_enter Try.func31, Try.ntmps31
    go_wp2_with (first | (go_at_call 60; refine (specIn_any _ _ _ _ ).mono ?_; rintro e w' ⟨rfl, rfl⟩))
    refine (specIncomes_any A n cc x _ (by unfold maxLen; omega) HS0_0.out).mono ?_
    rw [HAT0.out]
    rintro e W1 ⟨rfl, hbe⟩
    have HB1 : Hid (Below w.heap.size w W1) := by rw [← hbe]; exact HB0.out
    have HS0_1 : Hid (SL W1 A n (fun j => .int .i64 (x j))) := by rw [← hbe]; exact HS0_0.out
    have HS1_1 : Hid (SL W1 A' m (fun j => .int .i64 (y j))) := by rw [← hbe]; exact HS1_0.out
    clear hbe
    go_wp2_with (first | (go_at_call 60; refine (specIn_any _ _ _ _ ).mono ?_; rintro e w' ⟨rfl, rfl⟩))
    go_ret2
    exact ⟨ret_no HH.out, HB1.out⟩
  have HAT0 := hide (tru_yes hall0)
  have HAL0 := hide hall0
  clear hall0
  by_cases hall1 : allP y m 1 64 0 1000000000
  rotate_left
  · have HAT1 := hide (tru_no hall1)
    have HH := hide (show ¬ rkP x n y m from fun h => hall1 (h.2.1))
    clear hall1
    go_enter Try.func31, Try.ntmps31
    go_wp2_with (first | (go_at_call 60; refine (specIn_any _ _ _ _ ).mono ?_; rintro e w' ⟨rfl, rfl⟩))
    refine (specIncomes_any A n cc x _ (by unfold maxLen; omega) HS0_0.out).mono ?_
    rw [HAT0.out]
    rintro e W1 ⟨rfl, hbe⟩
    have HB1 : Hid (Below w.heap.size w W1) := by rw [← hbe]; exact HB0.out
    have HS0_1 : Hid (SL W1 A n (fun j => .int .i64 (x j))) := by rw [← hbe]; exact HS0_0.out
    have HS1_1 : Hid (SL W1 A' m (fun j => .int .i64 (y j))) := by rw [← hbe]; exact HS1_0.out
    clear hbe
    go_wp2_with (first | (go_at_call 60; refine (specIn_any _ _ _ _ ).mono ?_; rintro e w' ⟨rfl, rfl⟩))
    refine (specIncomes_any A' m cm y _ (by unfold maxLen; omega) HS1_1.out).mono ?_
    rw [HAT1.out]
    rintro e W2 ⟨rfl, hbe⟩
    have HB2 : Hid (Below w.heap.size w W2) := by rw [← hbe]; exact HB1.out
    have HS0_2 : Hid (SL W2 A n (fun j => .int .i64 (x j))) := by rw [← hbe]; exact HS0_1.out
    have HS1_2 : Hid (SL W2 A' m (fun j => .int .i64 (y j))) := by rw [← hbe]; exact HS1_1.out
    clear hbe
    go_wp2_with (first | (go_at_call 60; refine (specIn_any _ _ _ _ ).mono ?_; rintro e w' ⟨rfl, rfl⟩))
    go_ret2
    exact ⟨ret_no HH.out, HB2.out⟩
  have HAT1 := hide (tru_yes hall1)
  have HAL1 := hide hall1
  clear hall1
  by_cases heq2 : (m : Int) = (n : Int)
  rotate_left
  · have HH := hide (show ¬ rkP x n y m from fun h => heq2 (by rw [h.2.2]))
    have hne : ¬ n = m := fun hh => heq2 (by rw [hh])
    have hne2 : ¬ m = n := fun hh => heq2 (by rw [hh])
    go_enter Try.func31, Try.ntmps31
    go_wp2_with (first | (go_at_call 60; refine (specIn_any _ _ _ _ ).mono ?_; rintro e w' ⟨rfl, rfl⟩))
    refine (specIncomes_any A n cc x _ (by unfold maxLen; omega) HS0_0.out).mono ?_
    rw [HAT0.out]
    rintro e W1 ⟨rfl, hbe⟩
    have HB1 : Hid (Below w.heap.size w W1) := by rw [← hbe]; exact HB0.out
    have HS0_1 : Hid (SL W1 A n (fun j => .int .i64 (x j))) := by rw [← hbe]; exact HS0_0.out
    have HS1_1 : Hid (SL W1 A' m (fun j => .int .i64 (y j))) := by rw [← hbe]; exact HS1_0.out
    clear hbe
    go_wp2_with (first | (go_at_call 60; refine (specIn_any _ _ _ _ ).mono ?_; rintro e w' ⟨rfl, rfl⟩))
    refine (specIncomes_any A' m cm y _ (by unfold maxLen; omega) HS1_1.out).mono ?_
    rw [HAT1.out]
    rintro e W2 ⟨rfl, hbe⟩
    have HB2 : Hid (Below w.heap.size w W2) := by rw [← hbe]; exact HB1.out
    have HS0_2 : Hid (SL W2 A n (fun j => .int .i64 (x j))) := by rw [← hbe]; exact HS0_1.out
    have HS1_2 : Hid (SL W2 A' m (fun j => .int .i64 (y j))) := by rw [← hbe]; exact HS1_1.out
    clear hbe
    go_wp2_with (first | (go_at_call 60; refine (specIn_any _ _ _ _ ).mono ?_; rintro e w' ⟨rfl, rfl⟩))
    go_ret2
    exact ⟨ret_no HH.out, HB2.out⟩
  obtain rfl : n = m := by omega
  have n64 := HAL0.out.1.2
  have n1 := HAL0.out.1.1
  have HH := hide (show rkP x n y n from ⟨HAL0.out, HAL1.out, rfl⟩)
  have HU := hide (fun p (hp : p ≤ 64) => crS_bd x y (p := p) hp)
  go_enter Try.func31, Try.ntmps31
  go_wp2_with (first | (go_at_call 60; refine (specIn_any _ _ _ _ ).mono ?_; rintro e w' ⟨rfl, rfl⟩))
  refine (specIncomes_any A n cc x _ (by unfold maxLen; omega) HS0_0.out).mono ?_
  rw [HAT0.out]
  rintro e W1 ⟨rfl, hbe⟩
  have HB1 : Hid (Below w.heap.size w W1) := by rw [← hbe]; exact HB0.out
  have HS0_1 : Hid (SL W1 A n (fun j => .int .i64 (x j))) := by rw [← hbe]; exact HS0_0.out
  have HS1_1 : Hid (SL W1 A' n (fun j => .int .i64 (y j))) := by rw [← hbe]; exact HS1_0.out
  clear hbe
  go_wp2_with (first | (go_at_call 60; refine (specIn_any _ _ _ _ ).mono ?_; rintro e w' ⟨rfl, rfl⟩))
  refine (specIncomes_any A' n cm y _ (by unfold maxLen; omega) HS1_1.out).mono ?_
  rw [HAT1.out]
  rintro e W2 ⟨rfl, hbe⟩
  have HB2 : Hid (Below w.heap.size w W2) := by rw [← hbe]; exact HB1.out
  have HS0_2 : Hid (SL W2 A n (fun j => .int .i64 (x j))) := by rw [← hbe]; exact HS0_1.out
  have HS1_2 : Hid (SL W2 A' n (fun j => .int .i64 (y j))) := by rw [← hbe]; exact HS1_1.out
  clear hbe
  go_wp2_with (first | (go_at_call 60; refine (specIn_any _ _ _ _ ).mono ?_; rintro e w' ⟨rfl, rfl⟩))
  have HC := cells_a HS0_2.out
  have HC' := cells_a HS1_2.out
  go_loopw [6, 7, 8, 26] (fun s _ _ i wr => ∃ (p : Nat) (U : Int), p ≤ n ∧ i = .int .i64 p ∧ s = .int .i64 U ∧ 0 ≤ U ∧ U ≤ 64 * (p : Int) ∧ Hid (U = crS x y p) ∧ Hid (Below W2.heap.size W2 wr)) (fun _ _ _ i _ => n - (intOf i).toNat)
  case atStart => exact ⟨0, 0, Nat.zero_le _, rfl, rfl, Int.le_refl _, by simp, rfl, Below.refl _ _⟩
  case round =>
    obtain ⟨p, U, hp, rfl, rfl, U0, U1, hU, hbel⟩ := hrel
    by_cases hlt : p < n
    · obtain ⟨bx, off1, rfl, hbx, hxp⟩ := HC.out p hlt
      obtain ⟨by_, off2, rfl, hby, hyp⟩ := HC'.out p hlt
      have hpi : (p : Int) < (n : Int) := by omega
      go_wp2
      go_loopw [6, 8] (fun s k wr => ∃ (q : Nat) (V : Int), q ≤ p ∧ k = .int .i64 q ∧ s = .int .i64 V ∧ U ≤ V ∧ V ≤ U + (q : Int) ∧ Hid (V = U + psum (fun k => crI (x p) (x k) (y p) (y k)) q) ∧ Hid (Below W2.heap.size W2 wr)) (fun _ k _ => p - (intOf k).toNat)
      case atStart => exact ⟨0, U, Nat.zero_le _, rfl, rfl, Int.le_refl _, by simp, hide (by simp [psum]), hbel.out⟩
      case round =>
        clear hbel
        obtain ⟨q, V, hq, rfl, rfl, V0, V1, hV, hbel⟩ := hrel
        by_cases hlt2 : q < p
        · skip
          obtain ⟨bx', off1', he, hbx', hxq⟩ := HC.out q (by omega)
          injection he with he
          injection he with he he2
          subst he he2
          obtain ⟨by', off2', he, hby', hyq⟩ := HC'.out q (by omega)
          injection he with he
          injection he with he he2
          subst he he2
          have hxp2 := (hbel.out.cell (p := ⟨bx, off1 + p, none⟩) hbx).trans hxp
          have hxq2 := (hbel.out.cell (p := ⟨bx, off1 + q, none⟩) hbx).trans hxq
          have hyp2 := (hbel.out.cell (p := ⟨by_, off2 + p, none⟩) hby).trans hyp
          have hyq2 := (hbel.out.cell (p := ⟨by_, off2 + q, none⟩) hby).trans hyq
          obtain ⟨a0, a1⟩ := HAL0.out.2 p hlt
          obtain ⟨b0, b1⟩ := HAL0.out.2 q (by omega)
          obtain ⟨c0, c1⟩ := HAL1.out.2 p hlt
          obtain ⟨d0, d1⟩ := HAL1.out.2 q (by omega)
          obtain ⟨a, ha⟩ : ∃ a, x p = a := ⟨_, rfl⟩
          obtain ⟨b, hb⟩ : ∃ b, x q = b := ⟨_, rfl⟩
          obtain ⟨c, hc⟩ : ∃ c, y p = c := ⟨_, rfl⟩
          obtain ⟨d, hd⟩ : ∃ d, y q = d := ⟨_, rfl⟩
          rw [ha] at hxp2 a0 a1
          rw [hb] at hxq2 b0 b1
          rw [hc] at hyp2 c0 c1
          rw [hd] at hyq2 d0 d1
          have HVN := hide (show V + crI a b c d = U + psum (fun k => crI (x p) (x k) (y p) (y k)) (q + 1) by rw [psum_succ, hV.out, ha, hb, hc, hd]; omega)
          have hqi : (q : Int) < (p : Int) := by omega
          have hqn : (q : Int) < (n : Int) := by omega
          clear ha hb hc hd hxp hxq hyp hyq
          by_cases g1 : a < b
          · by_cases g2 : d < c
            · skip
              have qa : decide (a < b) = true := decide_eq_true (by omega)
              have qc : decide (d < c) = true := decide_eq_true (by omega)
              have qb : decide (b < a) = false := decide_eq_false (by omega)
              have qd : decide (c < d) = false := decide_eq_false (by omega)
              have HD := hide (show V + 1 = V + crI a b c d by unfold crI; rw [if_pos (by omega)])
              go_wp2
              go_quiet (fail)
              go_wp2
              go_roundw
              case rel => exact ⟨q + 1, _, by omega, by go_num, rfl, by omega, by push_cast; omega, hide (by have := HD.out; have := HVN.out; omega), bel_q hbel.out _⟩
              case measure => simp [intOf]; omega
            · skip
              have qa : decide (a < b) = true := decide_eq_true (by omega)
              have qc : decide (d < c) = false := decide_eq_false (by omega)
              have qb : decide (b < a) = false := decide_eq_false (by omega)
              have HD := hide (show V = V + crI a b c d by unfold crI; rw [if_neg (by omega), Int.add_zero])
              go_wp2
              go_quiet (fail)
              go_wp2
              go_roundw
              case rel => exact ⟨q + 1, _, by omega, by go_num, rfl, by omega, by push_cast; omega, hide (by have := HD.out; have := HVN.out; omega), bel_q hbel.out _⟩
              case measure => simp [intOf]; omega
          · by_cases g3 : b < a
            · by_cases g4 : c < d
              · skip
                have qa : decide (a < b) = false := decide_eq_false (by omega)
                have qb : decide (b < a) = true := decide_eq_true (by omega)
                have qd : decide (c < d) = true := decide_eq_true (by omega)
                have qc : decide (d < c) = false := decide_eq_false (by omega)
                have HD := hide (show V + 1 = V + crI a b c d by unfold crI; rw [if_pos (by omega)])
                go_wp2
                go_quiet (fail)
                go_wp2
                go_roundw
                case rel => exact ⟨q + 1, _, by omega, by go_num, rfl, by omega, by push_cast; omega, hide (by have := HD.out; have := HVN.out; omega), bel_q hbel.out _⟩
                case measure => simp [intOf]; omega
              · skip
                have qa : decide (a < b) = false := decide_eq_false (by omega)
                have qb : decide (b < a) = true := decide_eq_true (by omega)
                have qd : decide (c < d) = false := decide_eq_false (by omega)
                have HD := hide (show V = V + crI a b c d by unfold crI; rw [if_neg (by omega), Int.add_zero])
                go_wp2
                go_quiet (fail)
                go_wp2
                go_roundw
                case rel => exact ⟨q + 1, _, by omega, by go_num, rfl, by omega, by push_cast; omega, hide (by have := HD.out; have := HVN.out; omega), bel_q hbel.out _⟩
                case measure => simp [intOf]; omega
            · skip
              have qa : decide (a < b) = false := decide_eq_false (by omega)
              have qb : decide (b < a) = false := decide_eq_false (by omega)
              have HD := hide (show V = V + crI a b c d by unfold crI; rw [if_neg (by omega), Int.add_zero])
              go_wp2
              go_quiet (fail)
              go_wp2
              go_roundw
              case rel => exact ⟨q + 1, _, by omega, by go_num, rfl, by omega, by push_cast; omega, hide (by have := HD.out; have := HVN.out; omega), bel_q hbel.out _⟩
              case measure => simp [intOf]; omega
        · have HQ := hide (show q = p by omega)
          have hqi : ¬ (q : Int) < (p : Int) := by omega
          go_wp2
          go_roundw
          case rel => exact ⟨p + 1, V, by omega, by go_num, rfl, by omega, by push_cast; omega, hide (by rw [hV.out, hU.out, HQ.out]; rfl), hbel.out⟩
          case measure => simp [intOf]; omega
    · have HN := hide (show p = n by omega)
      have HUV := hide (show U = crS x y n by rw [hU.out, HN.out])
      have HBE := hide (HB2.out.trans (hbel.out.mono HB2.out.size))
      have hpi : ¬ (p : Int) < (n : Int) := by omega
      go_wp2
      go_ret2
      exact ⟨ret_val HH.out HUV.out, HBE.out⟩
set_option maxRecDepth 100000 in
set_option maxHeartbeats 8000000 in
theorem implRanks_any (A : Option Addr) (n cc : Nat) (x : Nat → Int) (A' : Option Addr) (m cm : Nat) (y : Nat → Int) (w : World) (hn_n : n ≤ maxLen) (hs_n : SL w A n (fun j => .int .i64 (x j))) (hn_m : m ≤ maxLen) (hs_m : SL w A' m (fun j => .int .i64 (y j))) :
    Calls Try.prog 32 #[.slice A n cc, .slice A' m cm] w fun e w' => e = .returned (.tuple #[.int .i64 (ifV (rkP x n y m) (crS x y n)), .bool (tru (rkP x n y m))]) ∧ Below w.heap.size w w' := by
  unfold maxLen at hn_n
  unfold maxLen at hn_m
  have HB0 := hide (Below.refl w.heap.size w)
  have HS0_0 := hide hs_n
  have HS1_0 := hide hs_m
  clear hs_n hs_m
  by_cases hall0 : allP x n 1 64 0 1000000000
  rotate_left
  · have HAT0 := hide (tru_no hall0)
    have HH := hide (show ¬ rkP x n y m from fun h => hall0 (h.1))
    clear hall0
    go_enter Try.func32, Try.ntmps32
    go_wp2_with (first | (go_at_call 62; refine (implWithin_any _ _ _ _ ).mono ?_; rintro e w' ⟨rfl, rfl⟩) | (go_at_call 17; go_in))
    refine (areAll_isIncome A n cc x 1 64 _ (by unfold maxLen; omega) HS0_0.out).mono ?_
    rw [HAT0.out]
    rintro e W1 ⟨rfl, hb⟩
    have HB1 := hide (HB0.out.trans (hb.mono HB0.out.size))
    have HS0_1 := hide (HS0_0.out.below hb)
    have HS1_1 := hide (HS1_0.out.below hb)
    clear hb
    go_wp2_with (first | (go_at_call 62; refine (implWithin_any _ _ _ _ ).mono ?_; rintro e w' ⟨rfl, rfl⟩) | (go_at_call 17; go_in))
    go_ret2
    exact ⟨ret_no HH.out, HB1.out⟩
  have HAT0 := hide (tru_yes hall0)
  have HAL0 := hide hall0
  clear hall0
  by_cases hall1 : allP y m 1 64 0 1000000000
  rotate_left
  · have HAT1 := hide (tru_no hall1)
    have HH := hide (show ¬ rkP x n y m from fun h => hall1 (h.2.1))
    clear hall1
    go_enter Try.func32, Try.ntmps32
    go_wp2_with (first | (go_at_call 62; refine (implWithin_any _ _ _ _ ).mono ?_; rintro e w' ⟨rfl, rfl⟩) | (go_at_call 17; go_in))
    refine (areAll_isIncome A n cc x 1 64 _ (by unfold maxLen; omega) HS0_0.out).mono ?_
    rw [HAT0.out]
    rintro e W1 ⟨rfl, hb⟩
    have HB1 := hide (HB0.out.trans (hb.mono HB0.out.size))
    have HS0_1 := hide (HS0_0.out.below hb)
    have HS1_1 := hide (HS1_0.out.below hb)
    clear hb
    go_wp2_with (first | (go_at_call 62; refine (implWithin_any _ _ _ _ ).mono ?_; rintro e w' ⟨rfl, rfl⟩) | (go_at_call 17; go_in))
    refine (areAll_isIncome A' m cm y 1 64 _ (by unfold maxLen; omega) HS1_1.out).mono ?_
    rw [HAT1.out]
    rintro e W2 ⟨rfl, hb⟩
    have HB2 := hide (HB1.out.trans (hb.mono HB1.out.size))
    have HS0_2 := hide (HS0_1.out.below hb)
    have HS1_2 := hide (HS1_1.out.below hb)
    clear hb
    go_wp2_with (first | (go_at_call 62; refine (implWithin_any _ _ _ _ ).mono ?_; rintro e w' ⟨rfl, rfl⟩) | (go_at_call 17; go_in))
    go_ret2
    exact ⟨ret_no HH.out, HB2.out⟩
  have HAT1 := hide (tru_yes hall1)
  have HAL1 := hide hall1
  clear hall1
  by_cases heq2 : (m : Int) = (n : Int)
  rotate_left
  · have HH := hide (show ¬ rkP x n y m from fun h => heq2 (by rw [h.2.2]))
    have hne : ¬ n = m := fun hh => heq2 (by rw [hh])
    have hne2 : ¬ m = n := fun hh => heq2 (by rw [hh])
    go_enter Try.func32, Try.ntmps32
    go_wp2_with (first | (go_at_call 62; refine (implWithin_any _ _ _ _ ).mono ?_; rintro e w' ⟨rfl, rfl⟩) | (go_at_call 17; go_in))
    refine (areAll_isIncome A n cc x 1 64 _ (by unfold maxLen; omega) HS0_0.out).mono ?_
    rw [HAT0.out]
    rintro e W1 ⟨rfl, hb⟩
    have HB1 := hide (HB0.out.trans (hb.mono HB0.out.size))
    have HS0_1 := hide (HS0_0.out.below hb)
    have HS1_1 := hide (HS1_0.out.below hb)
    clear hb
    go_wp2_with (first | (go_at_call 62; refine (implWithin_any _ _ _ _ ).mono ?_; rintro e w' ⟨rfl, rfl⟩) | (go_at_call 17; go_in))
    refine (areAll_isIncome A' m cm y 1 64 _ (by unfold maxLen; omega) HS1_1.out).mono ?_
    rw [HAT1.out]
    rintro e W2 ⟨rfl, hb⟩
    have HB2 := hide (HB1.out.trans (hb.mono HB1.out.size))
    have HS0_2 := hide (HS0_1.out.below hb)
    have HS1_2 := hide (HS1_1.out.below hb)
    clear hb
    go_wp2_with (first | (go_at_call 62; refine (implWithin_any _ _ _ _ ).mono ?_; rintro e w' ⟨rfl, rfl⟩) | (go_at_call 17; go_in))
    go_ret2
    exact ⟨ret_no HH.out, HB2.out⟩
  obtain rfl : n = m := by omega
  have n64 := HAL0.out.1.2
  have n1 := HAL0.out.1.1
  have HH := hide (show rkP x n y n from ⟨HAL0.out, HAL1.out, rfl⟩)
  have HU := hide (fun p (hp : p ≤ 64) => crS_bd x y (p := p) hp)
  go_enter Try.func32, Try.ntmps32
  go_wp2_with (first | (go_at_call 62; refine (implWithin_any _ _ _ _ ).mono ?_; rintro e w' ⟨rfl, rfl⟩) | (go_at_call 17; go_in))
  refine (areAll_isIncome A n cc x 1 64 _ (by unfold maxLen; omega) HS0_0.out).mono ?_
  rw [HAT0.out]
  rintro e W1 ⟨rfl, hb⟩
  have HB1 := hide (HB0.out.trans (hb.mono HB0.out.size))
  have HS0_1 := hide (HS0_0.out.below hb)
  have HS1_1 := hide (HS1_0.out.below hb)
  clear hb
  go_wp2_with (first | (go_at_call 62; refine (implWithin_any _ _ _ _ ).mono ?_; rintro e w' ⟨rfl, rfl⟩) | (go_at_call 17; go_in))
  refine (areAll_isIncome A' n cm y 1 64 _ (by unfold maxLen; omega) HS1_1.out).mono ?_
  rw [HAT1.out]
  rintro e W2 ⟨rfl, hb⟩
  have HB2 := hide (HB1.out.trans (hb.mono HB1.out.size))
  have HS0_2 := hide (HS0_1.out.below hb)
  have HS1_2 := hide (HS1_1.out.below hb)
  clear hb
  go_wp2_with (first | (go_at_call 62; refine (implWithin_any _ _ _ _ ).mono ?_; rintro e w' ⟨rfl, rfl⟩) | (go_at_call 17; go_in))
  have HC := cells_a HS0_2.out
  have HC' := cells_a HS1_2.out
  go_loopw [6, 7, 8, 26] (fun s _ _ i wr => ∃ (p : Nat) (U : Int), p ≤ n ∧ i = .int .i64 p ∧ s = .int .i64 U ∧ 0 ≤ U ∧ U ≤ 64 * (p : Int) ∧ Hid (U = crS x y p) ∧ Hid (Below W2.heap.size W2 wr)) (fun _ _ _ i _ => n - (intOf i).toNat)
  case atStart => exact ⟨0, 0, Nat.zero_le _, rfl, rfl, Int.le_refl _, by simp, rfl, Below.refl _ _⟩
  case round =>
    obtain ⟨p, U, hp, rfl, rfl, U0, U1, hU, hbel⟩ := hrel
    by_cases hlt : p < n
    · obtain ⟨bx, off1, rfl, hbx, hxp⟩ := HC.out p hlt
      obtain ⟨by_, off2, rfl, hby, hyp⟩ := HC'.out p hlt
      have hpi : (p : Int) < (n : Int) := by omega
      go_wp2
      go_loopw [6, 8, 30] (fun s _ k wr => ∃ (q : Nat) (V : Int), q ≤ p ∧ k = .int .i64 q ∧ s = .int .i64 V ∧ U ≤ V ∧ V ≤ U + (q : Int) ∧ Hid (V = U + psum (fun k => crI (x p) (x k) (y p) (y k)) q) ∧ Hid (Below W2.heap.size W2 wr)) (fun _ _ k _ => p - (intOf k).toNat)
      case atStart => exact ⟨0, U, Nat.zero_le _, rfl, rfl, Int.le_refl _, by simp, hide (by simp [psum]), hbel.out⟩
      case round =>
        clear hbel
        obtain ⟨q, V, hq, rfl, rfl, V0, V1, hV, hbel⟩ := hrel
        by_cases hlt2 : q < p
        · skip
          obtain ⟨bx', off1', he, hbx', hxq⟩ := HC.out q (by omega)
          injection he with he
          injection he with he he2
          subst he he2
          obtain ⟨by', off2', he, hby', hyq⟩ := HC'.out q (by omega)
          injection he with he
          injection he with he he2
          subst he he2
          have hxp2 := (hbel.out.cell (p := ⟨bx, off1 + p, none⟩) hbx).trans hxp
          have hxq2 := (hbel.out.cell (p := ⟨bx, off1 + q, none⟩) hbx).trans hxq
          have hyp2 := (hbel.out.cell (p := ⟨by_, off2 + p, none⟩) hby).trans hyp
          have hyq2 := (hbel.out.cell (p := ⟨by_, off2 + q, none⟩) hby).trans hyq
          obtain ⟨a0, a1⟩ := HAL0.out.2 p hlt
          obtain ⟨b0, b1⟩ := HAL0.out.2 q (by omega)
          obtain ⟨c0, c1⟩ := HAL1.out.2 p hlt
          obtain ⟨d0, d1⟩ := HAL1.out.2 q (by omega)
          obtain ⟨a, ha⟩ : ∃ a, x p = a := ⟨_, rfl⟩
          obtain ⟨b, hb⟩ : ∃ b, x q = b := ⟨_, rfl⟩
          obtain ⟨c, hc⟩ : ∃ c, y p = c := ⟨_, rfl⟩
          obtain ⟨d, hd⟩ : ∃ d, y q = d := ⟨_, rfl⟩
          rw [ha] at hxp2 a0 a1
          rw [hb] at hxq2 b0 b1
          rw [hc] at hyp2 c0 c1
          rw [hd] at hyq2 d0 d1
          have HVN := hide (show V + crI a b c d = U + psum (fun k => crI (x p) (x k) (y p) (y k)) (q + 1) by rw [psum_succ, hV.out, ha, hb, hc, hd]; omega)
          have hqi : (q : Int) < (p : Int) := by omega
          have hqn : (q : Int) < (n : Int) := by omega
          clear ha hb hc hd hxp hxq hyp hyq
          obtain ⟨m0, m1⟩ := cr_prod ⟨a0, a1⟩ ⟨b0, b1⟩ ⟨c0, c1⟩ ⟨d0, d1⟩
          have hiff := cr_mul (a := a) (b := b) (c := c) (d := d)
          by_cases hm : (a - b) * (c - d) < 0
          · have HD := hide (show V + 1 = V + crI a b c d by unfold crI; rw [if_pos (hiff.1 hm)])
            clear hiff
            go_wp2
            go_quiet (fail)
            go_wp2
            go_roundw
            case rel => first | exact ⟨_, _, _, _, _, _, _, _, _, _, _, _, _, _, _, _, _, _, _, _, _, _, _, _, _, _, ⟨q + 1, _, by omega, by go_num, rfl, by omega, by push_cast; omega, hide (by have := HD.out; have := HVN.out; omega), bel_q hbel.out _⟩, rfl⟩ | exact ⟨_, _, _, _, _, _, _, _, _, _, _, _, _, _, _, _, _, _, _, _, _, _, _, _, _, _, _, ⟨q + 1, _, by omega, by go_num, rfl, by omega, by push_cast; omega, hide (by have := HD.out; have := HVN.out; omega), bel_q hbel.out _⟩, rfl⟩ | exact ⟨_, _, _, _, _, _, _, _, _, _, _, _, _, _, _, _, _, _, _, _, _, _, _, _, _, _, _, _, ⟨q + 1, _, by omega, by go_num, rfl, by omega, by push_cast; omega, hide (by have := HD.out; have := HVN.out; omega), bel_q hbel.out _⟩, rfl⟩ | exact ⟨_, _, _, _, _, _, _, _, _, _, _, _, _, _, _, _, _, _, _, _, _, _, _, _, _, _, _, _, _, ⟨q + 1, _, by omega, by go_num, rfl, by omega, by push_cast; omega, hide (by have := HD.out; have := HVN.out; omega), bel_q hbel.out _⟩, rfl⟩ | exact ⟨_, _, _, _, _, _, _, _, _, _, _, _, _, _, _, _, _, _, _, _, _, _, _, _, _, _, _, _, _, _, ⟨q + 1, _, by omega, by go_num, rfl, by omega, by push_cast; omega, hide (by have := HD.out; have := HVN.out; omega), bel_q hbel.out _⟩, rfl⟩
            case measure => simp [intOf]; omega
          · have HD := hide (show V = V + crI a b c d by unfold crI; rw [if_neg (fun h => hm (hiff.2 h)), Int.add_zero])
            clear hiff
            go_wp2
            go_quiet (fail)
            go_wp2
            go_roundw
            case rel => first | exact ⟨_, _, _, _, _, _, _, _, _, _, _, _, _, _, _, _, _, _, _, _, _, _, _, _, _, _, ⟨q + 1, _, by omega, by go_num, rfl, by omega, by push_cast; omega, hide (by have := HD.out; have := HVN.out; omega), bel_q hbel.out _⟩, rfl⟩ | exact ⟨_, _, _, _, _, _, _, _, _, _, _, _, _, _, _, _, _, _, _, _, _, _, _, _, _, _, _, ⟨q + 1, _, by omega, by go_num, rfl, by omega, by push_cast; omega, hide (by have := HD.out; have := HVN.out; omega), bel_q hbel.out _⟩, rfl⟩ | exact ⟨_, _, _, _, _, _, _, _, _, _, _, _, _, _, _, _, _, _, _, _, _, _, _, _, _, _, _, _, ⟨q + 1, _, by omega, by go_num, rfl, by omega, by push_cast; omega, hide (by have := HD.out; have := HVN.out; omega), bel_q hbel.out _⟩, rfl⟩ | exact ⟨_, _, _, _, _, _, _, _, _, _, _, _, _, _, _, _, _, _, _, _, _, _, _, _, _, _, _, _, _, ⟨q + 1, _, by omega, by go_num, rfl, by omega, by push_cast; omega, hide (by have := HD.out; have := HVN.out; omega), bel_q hbel.out _⟩, rfl⟩ | exact ⟨_, _, _, _, _, _, _, _, _, _, _, _, _, _, _, _, _, _, _, _, _, _, _, _, _, _, _, _, _, _, ⟨q + 1, _, by omega, by go_num, rfl, by omega, by push_cast; omega, hide (by have := HD.out; have := HVN.out; omega), bel_q hbel.out _⟩, rfl⟩
            case measure => simp [intOf]; omega
        · have HQ := hide (show q = p by omega)
          have hqi : ¬ (q : Int) < (p : Int) := by omega
          go_wp2
          go_roundw
          case rel => exact ⟨p + 1, V, by omega, by go_num, rfl, by omega, by push_cast; omega, hide (by rw [hV.out, hU.out, HQ.out]; rfl), hbel.out⟩
          case measure => simp [intOf]; omega
    · have HN := hide (show p = n by omega)
      have HUV := hide (show U = crS x y n by rw [hU.out, HN.out])
      have HBE := hide (HB2.out.trans (hbel.out.mono HB2.out.size))
      have hpi : ¬ (p : Int) < (n : Int) := by omega
      go_wp2
      go_ret2
      exact ⟨ret_val HH.out HUV.out, HBE.out⟩
end Go.Proofs.Ytelcknddbikgaaa
