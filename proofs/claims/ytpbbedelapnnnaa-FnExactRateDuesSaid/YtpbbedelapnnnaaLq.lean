/- Lines, kinds and rates, by both. -/
import Derived.Test.YtpbbedelapnnnaaAl
import Derived.Test.YtpbbedelapnnnaaC4
import Derived.Test.YtpbbedelapnnnaaG1
import Derived.Test.YtpbbedelapnnnaaLi
namespace Go.Proofs.Ytpbbedelapnnnaa
open Go.RowKit Go.Dues
def ldP (x : Nat → Int) (n : Nat) (kd : Nat → Int) (n1 : Nat) (rt : Nat → Int) (n2 : Nat) (r : Int) : Prop :=
  allP x n 1 32 0 1000000000000 ∧ n1 = n ∧ (1 ≤ n2 ∧ n2 ≤ 16) ∧ (0 ≤ r ∧ r ≤ 3) ∧ (∀ j, j < n2 → 0 ≤ rt j ∧ rt j ≤ 10000) ∧ (∀ j, j < n1 → 0 ≤ kd j ∧ kd j ≤ (n2 : Int) - 1) ∧ psum x n ≤ 1000000000000
set_option maxRecDepth 100000 in
set_option maxHeartbeats 8000000 in
theorem specLines_any (A : Option Addr) (n c : Nat) (x : Nat → Int) (A1 : Option Addr) (n1 c1 : Nat) (kd : Nat → Int) (A2 : Option Addr) (n2 c2 : Nat) (rt : Nat → Int) (r : Int) (w : World) (hn : n ≤ maxLen) (hs : SL w A n (fun j => .int .i64 (x j))) (hn1 : n1 ≤ maxLen) (hs1 : SL w A1 n1 (fun j => .int .i64 (kd j))) (hn2 : n2 ≤ maxLen) (hs2 : SL w A2 n2 (fun j => .int .i64 (rt j))) :
    Calls Try.prog 129 #[.slice A n c, .slice A1 n1 c1, .slice A2 n2 c2, .int .i64 r] w fun e w' => e = .returned (.bool (tru (ldP x n kd n1 rt n2 r))) ∧ w = w' := by
  have HA := hide (specAmts_any A n c x 32 w hn hs)
  unfold maxLen at hn hn1 hn2
  have HC := cells_a hs
  have HC1 := cells_a hs1
  have HC2 := cells_a hs2
  clear hs hs1 hs2
  by_cases hall : allP x n 1 32 0 1000000000000
  rotate_left
  · have HAT := hide (tru_no hall)
    have HT := hide (tru_no (show ¬ ldP x n kd n1 rt n2 r from fun h => hall h.1))
    clear hall
    go_enter Try.func129, Try.ntmps129
    go_wp2_with fail
    refine HA.out.mono ?_
    rw [HAT.out]
    rintro e w' ⟨rfl, rfl⟩
    go_wp2_with (first | (go_at_call 199; refine (specWay_any _ _ ).mono ?_; rintro e w' ⟨rfl, rfl⟩))
    go_ret
    exact ⟨retBa HT.out.symm, rfl⟩
  have HAT := hide (tru_yes hall)
  have HAL := hide hall
  have n32 := hall.1.2
  have n0 := hall.1.1
  clear hall
  by_cases hk : n1 = n
  rotate_left
  · have HT := hide (tru_no (show ¬ ldP x n kd n1 rt n2 r from fun h => hk h.2.1))
    have hkb : ((n1 : Int) != (n : Int)) = true := by rw [bne_iff_ne]; omega
    clear hk
    go_enter Try.func129, Try.ntmps129
    go_wp2_with fail
    refine HA.out.mono ?_
    rw [HAT.out]
    rintro e w' ⟨rfl, rfl⟩
    go_wp2_with (first | (go_at_call 199; refine (specWay_any _ _ ).mono ?_; rintro e w' ⟨rfl, rfl⟩))
    go_ret
    exact ⟨retBa HT.out.symm, rfl⟩
  subst hk
  have hkb : ((n1 : Int) != (n1 : Int)) = false := by rw [bne_eq_false_iff_eq]
  by_cases h1 : (n2 : Int) < 1
  · have HT := hide (tru_no (show ¬ ldP x n1 kd n1 rt n2 r from fun h => by have := h.2.2.1.1; omega))
    go_enter Try.func129, Try.ntmps129
    go_wp2_with fail
    refine HA.out.mono ?_
    rw [HAT.out]
    rintro e w' ⟨rfl, rfl⟩
    go_wp2_with (first | (go_at_call 199; refine (specWay_any _ _ ).mono ?_; rintro e w' ⟨rfl, rfl⟩))
    go_ret
    exact ⟨retBa HT.out.symm, rfl⟩
  have h1d : decide ((n2 : Int) < 1) = false := decide_eq_false h1
  by_cases h2 : (16 : Int) < (n2 : Int)
  · have HT := hide (tru_no (show ¬ ldP x n1 kd n1 rt n2 r from fun h => by have := h.2.2.1.2; omega))
    go_enter Try.func129, Try.ntmps129
    go_wp2_with fail
    refine HA.out.mono ?_
    rw [HAT.out]
    rintro e w' ⟨rfl, rfl⟩
    go_wp2_with (first | (go_at_call 199; refine (specWay_any _ _ ).mono ?_; rintro e w' ⟨rfl, rfl⟩))
    go_ret
    exact ⟨retBa HT.out.symm, rfl⟩
  have h2d : decide ((16 : Int) < (n2 : Int)) = false := decide_eq_false h2
  cases gr : wayB r
  · have HT := hide (tru_no (show ¬ ldP x n1 kd n1 rt n2 r from fun h => by rw [wayB_yes h.2.2.2.1] at gr; cases gr))
    go_enter Try.func129, Try.ntmps129
    go_wp2_with fail
    refine HA.out.mono ?_
    rw [HAT.out]
    rintro e w' ⟨rfl, rfl⟩
    go_wp2_with (first | (go_at_call 199; refine (specWay_any _ _ ).mono ?_; rintro e w' ⟨rfl, rfl⟩))
    go_ret
    exact ⟨retBa HT.out.symm, rfl⟩
  have HW := hide (wayB_iff.1 gr)
  go_enter Try.func129, Try.ntmps129
  go_wp2_with fail
  refine HA.out.mono ?_
  rw [HAT.out]
  rintro e w' ⟨rfl, rfl⟩
  go_wp2_with (first | (go_at_call 199; refine (specWay_any _ _ ).mono ?_; rintro e w' ⟨rfl, rfl⟩))
  clear gr
  go_loop [9] (fun i => ∃ k : Nat, k ≤ n2 ∧ i = .int .i64 k ∧ Hid (∀ j, j < k → 0 ≤ rt j ∧ rt j ≤ 10000)) (fun i => n2 - (intOf i).toNat)
  case atStart => exact ⟨0, Nat.zero_le _, rfl, fun j hj => absurd hj (by omega)⟩
  case round =>
    obtain ⟨k, hk, rfl, hg⟩ := hrel
    by_cases hlt : k < n2
    · obtain ⟨b1, off, rfl, hb1, hxk⟩ := HC2.out k hlt
      cases hp : ratB (rt k)
      · have HT := hide (tru_no (show ¬ ldP x n1 kd n1 rt n2 r from fun h => by rw [ratB_yes (h.2.2.2.2.1 k hlt)] at hp; cases hp))
        go_wp2_with (first | (go_at_call 180; refine (specRate_any _ _ ).mono ?_; rintro e w' ⟨rfl, rfl⟩))
        go_ret
        exact ⟨retBa HT.out.symm, rfl⟩
      · have HE := hide (ratB_iff.1 hp)
        go_wp2_with (first | (go_at_call 180; refine (specRate_any _ _ ).mono ?_; rintro e w' ⟨rfl, rfl⟩))
        clear hp
        go_round
        case rel => exact ⟨k + 1, by omega, by go_num, by
          intro j hj
          by_cases hjk : j = k
          · subst hjk; exact HE.out
          · exact hg.out j (by omega)⟩
        case measure => simp [intOf]; omega
    · obtain rfl : n2 = k := by omega
      have HRT := hide hg.out
      clear hg
      go_wp2
      go_loop [10, 11] (fun s i => ∃ (k : Nat) (S : Int), k ≤ n1 ∧ i = .int .i64 k ∧ s = .int .i64 S ∧ 0 ≤ S ∧ S ≤ 1000000000000 * (k : Int) ∧ Hid (S = psum x k) ∧ Hid (∀ j, j < k → 0 ≤ kd j ∧ kd j ≤ (n2 : Int) - 1)) (fun _ i => n1 - (intOf i).toNat)
      case atStart => exact ⟨0, 0, Nat.zero_le _, rfl, rfl, by omega, by simp, rfl, fun j hj => absurd hj (by omega)⟩
      case round =>
        obtain ⟨k, S, hk, rfl, rfl, S0, S1, hS, hg⟩ := hrel
        by_cases hlt : k < n1
        · obtain ⟨b1, off, rfl, hb1, hxk⟩ := HC.out k hlt
          obtain ⟨b2, off2, rfl, hb2, hyk⟩ := HC1.out k hlt
          obtain ⟨x0, x1⟩ := HAL.out.2 k hlt
          cases hp : inB (kd k) 0 ((n2 : Int) - 1)
          · have HT := hide (tru_no (show ¬ ldP x n1 kd n1 rt n2 r from fun h => by rw [inB_yes (h.2.2.2.2.2.1 k hlt)] at hp; cases hp))
            go_wp2_with (first | (go_at_call 82; refine (specIn_any _ _ _ _ ).mono ?_; rintro e w' ⟨rfl, rfl⟩))
            go_ret
            exact ⟨retBa HT.out.symm, rfl⟩
          · have HE := hide (inB_iff.1 hp)
            go_wp2_with (first | (go_at_call 82; refine (specIn_any _ _ _ _ ).mono ?_; rintro e w' ⟨rfl, rfl⟩))
            clear hp
            go_round
            case rel => exact ⟨k + 1, _, by omega, by go_num, rfl, by omega, by push_cast; omega, (show S + x k = psum x (k + 1) by rw [psum_succ, hS.out]), by
              intro j hj
              by_cases hjk : j = k
              · subst hjk; exact HE.out
              · exact hg.out j (by omega)⟩
            case measure => simp [intOf]; omega
        · obtain rfl : n1 = k := by omega
          cases ga : amtB S
          · have HT := hide (tru_no (show ¬ ldP x n1 kd n1 rt n2 r from fun h => by rw [amtB_yes ⟨S0, by rw [hS.out]; exact h.2.2.2.2.2.2⟩] at ga; cases ga))
            go_wp2_with (first | (go_at_call 179; refine (specCents_any _ _ ).mono ?_; rintro e w' ⟨rfl, rfl⟩))
            go_ret
            exact ⟨retBa HT.out.symm, rfl⟩
          · have HT := hide (tru_yes (show ldP x n1 kd n1 rt n2 r from ⟨HAL.out, rfl, ⟨by omega, by omega⟩, HW.out, HRT.out, hg.out, by rw [← hS.out]; exact (amtB_iff.1 ga).2⟩))
            go_wp2_with (first | (go_at_call 179; refine (specCents_any _ _ ).mono ?_; rintro e w' ⟨rfl, rfl⟩))
            go_ret
            exact ⟨retBa HT.out.symm, rfl⟩
set_option maxRecDepth 100000 in
set_option maxHeartbeats 8000000 in
theorem implLines_any (A : Option Addr) (n c : Nat) (x : Nat → Int) (A1 : Option Addr) (n1 c1 : Nat) (kd : Nat → Int) (A2 : Option Addr) (n2 c2 : Nat) (rt : Nat → Int) (r : Int) (w : World) (hn : n ≤ maxLen) (hs : SL w A n (fun j => .int .i64 (x j))) (hn1 : n1 ≤ maxLen) (hs1 : SL w A1 n1 (fun j => .int .i64 (kd j))) (hn2 : n2 ≤ maxLen) (hs2 : SL w A2 n2 (fun j => .int .i64 (rt j))) :
    Calls Try.prog 131 #[.slice A n c, .slice A1 n1 c1, .slice A2 n2 c2, .int .i64 r] w fun e w' => e = .returned (.bool (tru (ldP x n kd n1 rt n2 r))) ∧ Below w.heap.size w w' := by
  obtain ⟨w0, hw0⟩ : ∃ u, u = w.alloc (.cells #[.slice A2 n2 c2] 42) := ⟨_, rfl⟩
  have HB0 : Hid (Below w.heap.size w w0) := by rw [hw0]; exact (Below.refl w.heap.size w).alloc (Nat.le_refl _) _
  have HX0 : Hid (w0.heap[w.heap.size]? = some (.cells #[.slice A2 n2 c2] 42)) := by rw [hw0]; exact blocks1 w _
  have HZ0 : Hid (w.heap.size < w0.heap.size) := by rw [hw0]; exact (by simp : w.heap.size < (w.alloc (.cells #[.slice A2 n2 c2] 42)).heap.size)
  have HSA := hide (hs.below HB0.out)
  have HSB := hide (hs1.below HB0.out)
  have HSC := hide (hs2.below HB0.out)
  have HA := hide (areAll_isAmount A n c x 1 32 w0 hn HSA.out)
  have HWW := hide hw0
  unfold maxLen at hn hn1 hn2
  clear hs hs1 hs2 hw0
  by_cases hall : allP x n 1 32 0 1000000000000
  rotate_left
  · have HAT := hide (tru_no hall)
    have HT := hide (tru_no (show ¬ ldP x n kd n1 rt n2 r from fun h => hall h.1))
    clear hall
    go_enter Try.func131, Try.ntmps131
    go_wp2_with fail
    rw [← HWW.out]
    clear HWW
    refine HA.out.mono ?_
    rw [HAT.out]
    rintro e w1 ⟨rfl, hb⟩
    have HB1 := hide (HB0.out.trans (hb.mono HB0.out.size))
    have HX1 := hide (blk_below hb HZ0.out HX0.out)
    have HZ1 := hide (Nat.lt_of_lt_of_le HZ0.out hb.size)
    have HS1 := hide (HSA.out.below hb)
    have HS11 := hide (HSB.out.below hb)
    have HS12 := hide (HSC.out.below hb)
    clear hb
    go_wp2
    go_ret
    exact ⟨retBa HT.out.symm, HB1.out⟩
  have HAT := hide (tru_yes hall)
  have HAL := hide hall
  have n32 := hall.1.2
  have n0 := hall.1.1
  have p0 := psum_top hall.2 (Nat.le_refl n)
  clear hall
  cases ga : amtB (psum x n)
  · have HT := hide (tru_no (show ¬ ldP x n kd n1 rt n2 r from fun h => by rw [amtB_yes ⟨p0.1, h.2.2.2.2.2.2⟩] at ga; cases ga))
    go_enter Try.func131, Try.ntmps131
    go_wp2_with fail
    rw [← HWW.out]
    clear HWW
    refine HA.out.mono ?_
    rw [HAT.out]
    rintro e w1 ⟨rfl, hb⟩
    have HB1 := hide (HB0.out.trans (hb.mono HB0.out.size))
    have HX1 := hide (blk_below hb HZ0.out HX0.out)
    have HZ1 := hide (Nat.lt_of_lt_of_le HZ0.out hb.size)
    have HS1 := hide (HSA.out.below hb)
    have HS11 := hide (HSB.out.below hb)
    have HS12 := hide (HSC.out.below hb)
    clear hb
    go_wp2_with fail
    refine (sumBy_itself A n c x w1 (by omega) (fun j hj => by have := HAL.out.2 j hj; omega) HS1.out).mono ?_
    rintro e w' ⟨rfl, rfl⟩
    have k0 := Joins.cell_of_block HX1.out 0
    simp at k0
    go_wp2_with (first | (go_at_call 202; refine (implAmount_any _ _ ).mono ?_; rintro e w' ⟨rfl, rfl⟩))
    go_ret
    exact ⟨retBa HT.out.symm, HB1.out⟩
  by_cases hrt : allP rt n2 1 16 0 10000
  rotate_left
  · have HRT := hide (tru_no hrt)
    have HT := hide (tru_no (show ¬ ldP x n kd n1 rt n2 r from fun h => hrt ⟨⟨by have := h.2.2.1.1; omega, by have := h.2.2.1.2; omega⟩, h.2.2.2.2.1⟩))
    clear hrt
    go_enter Try.func131, Try.ntmps131
    go_wp2_with fail
    rw [← HWW.out]
    clear HWW
    refine HA.out.mono ?_
    rw [HAT.out]
    rintro e w1 ⟨rfl, hb⟩
    have HB1 := hide (HB0.out.trans (hb.mono HB0.out.size))
    have HX1 := hide (blk_below hb HZ0.out HX0.out)
    have HZ1 := hide (Nat.lt_of_lt_of_le HZ0.out hb.size)
    have HS1 := hide (HSA.out.below hb)
    have HS11 := hide (HSB.out.below hb)
    have HS12 := hide (HSC.out.below hb)
    clear hb
    go_wp2_with fail
    refine (sumBy_itself A n c x w1 (by omega) (fun j hj => by have := HAL.out.2 j hj; omega) HS1.out).mono ?_
    rintro e w' ⟨rfl, rfl⟩
    have k0 := Joins.cell_of_block HX1.out 0
    simp at k0
    go_wp2_with (first | (go_at_call 202; refine (implAmount_any _ _ ).mono ?_; rintro e w' ⟨rfl, rfl⟩))
    refine (areAll_isRate A2 n2 c2 rt 1 16 w1 (by unfold maxLen; omega) HS12.out).mono ?_
    rw [HRT.out]
    rintro e w2 ⟨rfl, hb⟩
    have HB2 := hide (HB1.out.trans (hb.mono HB1.out.size))
    have HX2 := hide (blk_below hb HZ1.out HX1.out)
    have HS21 := hide (HS11.out.below hb)
    clear hb k0
    go_wp2
    go_ret
    exact ⟨retBa HT.out.symm, HB2.out⟩
  have HRT := hide (tru_yes hrt)
  have HRL := hide hrt
  have m16 := hrt.1.2
  have m0 := hrt.1.1
  clear hrt
  by_cases hkd : allP kd n1 (n : Int) (n : Int) 0 ((n2 : Int) - 1)
  rotate_left
  · have HKT := hide (tru_no hkd)
    have HT := hide (tru_no (show ¬ ldP x n kd n1 rt n2 r from fun h => hkd ⟨⟨by have := h.2.1; omega, by have := h.2.1; omega⟩, h.2.2.2.2.2.1⟩))
    clear hkd
    go_enter Try.func131, Try.ntmps131
    go_wp2_with fail
    rw [← HWW.out]
    clear HWW
    refine HA.out.mono ?_
    rw [HAT.out]
    rintro e w1 ⟨rfl, hb⟩
    have HB1 := hide (HB0.out.trans (hb.mono HB0.out.size))
    have HX1 := hide (blk_below hb HZ0.out HX0.out)
    have HZ1 := hide (Nat.lt_of_lt_of_le HZ0.out hb.size)
    have HS1 := hide (HSA.out.below hb)
    have HS11 := hide (HSB.out.below hb)
    have HS12 := hide (HSC.out.below hb)
    clear hb
    go_wp2_with fail
    refine (sumBy_itself A n c x w1 (by omega) (fun j hj => by have := HAL.out.2 j hj; omega) HS1.out).mono ?_
    rintro e w' ⟨rfl, rfl⟩
    have k0 := Joins.cell_of_block HX1.out 0
    simp at k0
    go_wp2_with (first | (go_at_call 202; refine (implAmount_any _ _ ).mono ?_; rintro e w' ⟨rfl, rfl⟩))
    refine (areAll_isRate A2 n2 c2 rt 1 16 w1 (by unfold maxLen; omega) HS12.out).mono ?_
    rw [HRT.out]
    rintro e w2 ⟨rfl, hb⟩
    have HB2 := hide (HB1.out.trans (hb.mono HB1.out.size))
    have HX2 := hide (blk_below hb HZ1.out HX1.out)
    have HS21 := hide (HS11.out.below hb)
    clear hb k0
    go_wp2_with fail
    refine (areAll_isKind w.heap.size A2 n2 c2 (by omega) A1 n1 c1 kd (n : Int) (n : Int) w2 (by unfold maxLen; omega) HS21.out HX2.out).mono ?_
    rw [HKT.out]
    rintro e w3 ⟨rfl, hb⟩
    have HB3 := hide (HB2.out.trans (hb.mono HB2.out.size))
    clear hb
    go_wp2
    go_ret
    exact ⟨retBa HT.out.symm, HB3.out⟩
  have HKT := hide (tru_yes hkd)
  have HKL := hide hkd
  clear hkd
  cases gr : wayB r
  · have HT := hide (tru_no (show ¬ ldP x n kd n1 rt n2 r from fun h => by rw [wayB_yes h.2.2.2.1] at gr; cases gr))
    go_enter Try.func131, Try.ntmps131
    go_wp2_with fail
    rw [← HWW.out]
    clear HWW
    refine HA.out.mono ?_
    rw [HAT.out]
    rintro e w1 ⟨rfl, hb⟩
    have HB1 := hide (HB0.out.trans (hb.mono HB0.out.size))
    have HX1 := hide (blk_below hb HZ0.out HX0.out)
    have HZ1 := hide (Nat.lt_of_lt_of_le HZ0.out hb.size)
    have HS1 := hide (HSA.out.below hb)
    have HS11 := hide (HSB.out.below hb)
    have HS12 := hide (HSC.out.below hb)
    clear hb
    go_wp2_with fail
    refine (sumBy_itself A n c x w1 (by omega) (fun j hj => by have := HAL.out.2 j hj; omega) HS1.out).mono ?_
    rintro e w' ⟨rfl, rfl⟩
    have k0 := Joins.cell_of_block HX1.out 0
    simp at k0
    go_wp2_with (first | (go_at_call 202; refine (implAmount_any _ _ ).mono ?_; rintro e w' ⟨rfl, rfl⟩))
    refine (areAll_isRate A2 n2 c2 rt 1 16 w1 (by unfold maxLen; omega) HS12.out).mono ?_
    rw [HRT.out]
    rintro e w2 ⟨rfl, hb⟩
    have HB2 := hide (HB1.out.trans (hb.mono HB1.out.size))
    have HX2 := hide (blk_below hb HZ1.out HX1.out)
    have HS21 := hide (HS11.out.below hb)
    clear hb k0
    go_wp2_with fail
    refine (areAll_isKind w.heap.size A2 n2 c2 (by omega) A1 n1 c1 kd (n : Int) (n : Int) w2 (by unfold maxLen; omega) HS21.out HX2.out).mono ?_
    rw [HKT.out]
    rintro e w3 ⟨rfl, hb⟩
    have HB3 := hide (HB2.out.trans (hb.mono HB2.out.size))
    clear hb
    go_wp2_with (first | (go_at_call 203; refine (implRound_any _ _ ).mono ?_; rintro e w' ⟨rfl, rfl⟩))
    go_ret
    exact ⟨retBa HT.out.symm, HB3.out⟩
  · have HT := hide (tru_yes (show ldP x n kd n1 rt n2 r from ⟨HAL.out, by have := HKL.out.1; omega, ⟨by omega, by omega⟩, wayB_iff.1 gr, HRL.out.2, HKL.out.2, (amtB_iff.1 ga).2⟩))
    go_enter Try.func131, Try.ntmps131
    go_wp2_with fail
    rw [← HWW.out]
    clear HWW
    refine HA.out.mono ?_
    rw [HAT.out]
    rintro e w1 ⟨rfl, hb⟩
    have HB1 := hide (HB0.out.trans (hb.mono HB0.out.size))
    have HX1 := hide (blk_below hb HZ0.out HX0.out)
    have HZ1 := hide (Nat.lt_of_lt_of_le HZ0.out hb.size)
    have HS1 := hide (HSA.out.below hb)
    have HS11 := hide (HSB.out.below hb)
    have HS12 := hide (HSC.out.below hb)
    clear hb
    go_wp2_with fail
    refine (sumBy_itself A n c x w1 (by omega) (fun j hj => by have := HAL.out.2 j hj; omega) HS1.out).mono ?_
    rintro e w' ⟨rfl, rfl⟩
    have k0 := Joins.cell_of_block HX1.out 0
    simp at k0
    go_wp2_with (first | (go_at_call 202; refine (implAmount_any _ _ ).mono ?_; rintro e w' ⟨rfl, rfl⟩))
    refine (areAll_isRate A2 n2 c2 rt 1 16 w1 (by unfold maxLen; omega) HS12.out).mono ?_
    rw [HRT.out]
    rintro e w2 ⟨rfl, hb⟩
    have HB2 := hide (HB1.out.trans (hb.mono HB1.out.size))
    have HX2 := hide (blk_below hb HZ1.out HX1.out)
    have HS21 := hide (HS11.out.below hb)
    clear hb k0
    go_wp2_with fail
    refine (areAll_isKind w.heap.size A2 n2 c2 (by omega) A1 n1 c1 kd (n : Int) (n : Int) w2 (by unfold maxLen; omega) HS21.out HX2.out).mono ?_
    rw [HKT.out]
    rintro e w3 ⟨rfl, hb⟩
    have HB3 := hide (HB2.out.trans (hb.mono HB2.out.size))
    clear hb
    go_wp2_with (first | (go_at_call 203; refine (implRound_any _ _ ).mono ?_; rintro e w' ⟨rfl, rfl⟩))
    go_ret
    exact ⟨retBa HT.out.symm, HB3.out⟩
end Go.Proofs.Ytpbbedelapnnnaa
