/- FundRun, by the program. -/
import Derived.Test.YtjefpcmegkeceaaFy
namespace Go.Proofs.Ytjefpcmegkeceaa
open Go.RowKit Go.Dues
set_option maxRecDepth 100000 in
set_option maxHeartbeats 8000000 in
theorem implFundRun_any (s : Int) (A : Option Addr) (n c : Nat) (x : Nat → Int) (A' : Option Addr) (m c' : Nat) (y : Nat → Int) (f : Int) (w : World) (hn_n : n ≤ maxLen) (hs_n : SL w A n (fun j => .int .i64 (x j))) (hn_m : m ≤ maxLen) (hs_m : SL w A' m (fun j => .int .i64 (y j))) :
    Calls Try.prog 34 #[.int .i64 s, .slice A n c, .slice A' m c', .int .i64 f] w fun e w' => Gave1 w w' e (fuP s x n y m f) (n) (fuV s x y f) := by
  obtain ⟨i0, hi, hz0, hz1, hz2⟩ := info_parts Try.info64
  unfold maxLen at hn_n
  unfold maxLen at hn_m
  obtain ⟨W0, hW⟩ : ∃ u, u = (((w.alloc (.cells #[.slice A n c] 22)).alloc (.cells #[.slice A' m c'] 22)).alloc (.cells #[.int .i64 f] 2)) := ⟨_, rfl⟩
  have HB0 : Hid (Below w.heap.size w W0) := by rw [hW]; exact ((((Below.refl w.heap.size w).alloc (Nat.le_refl _) _).alloc (by simp) _).alloc (by simp; omega) _)
  have HX0_0 : Hid (W0.heap[w.heap.size]? = some (.cells #[.slice A n c] 22)) := by rw [hW]; exact (blocks3 w _ _ _ ).1
  have HX1_0 : Hid (W0.heap[w.heap.size + 1]? = some (.cells #[.slice A' m c'] 22)) := by rw [hW]; exact (blocks3 w _ _ _ ).2.1
  have HX2_0 : Hid (W0.heap[w.heap.size + 1 + 1]? = some (.cells #[.int .i64 f] 2)) := by rw [hW]; exact (blocks3 w _ _ _ ).2.2
  have HS0_0 := hide (hs_n.below HB0.out)
  have HS1_0 := hide (hs_m.below HB0.out)
  clear hs_n hs_m
  have HWW := hide hW
  clear hW
  cases gg0 : amtB s
  · have HH := hide (show ¬ fuP s x n y m f from fun h => by rw [amtB_yes (h.1)] at gg0; cases gg0)
    go_enter Try.func34, Try.ntmps34
    go_wp2_with fail
    rw [← HWW.out]
    clear HWW
    refine (implAmount_any s W0).mono ?_
    rintro e w' ⟨rfl, rfl⟩
    have kx0 := Joins.cell_of_block HX0_0.out 0
    have kx1 := Joins.cell_of_block HX1_0.out 0
    have kx2 := Joins.cell_of_block HX2_0.out 0
    simp at kx0 kx1 kx2
    go_wp2_with (first | (go_at_call 69; refine (implAmount_any _ _ ).mono ?_; rintro e w' ⟨rfl, rfl⟩) | (go_at_call 53; refine (implRate_any _ _ ).mono ?_; rintro e w' ⟨rfl, rfl⟩) | (go_at_call 49; refine (implWithin_any _ _ _ _ ).mono ?_; rintro e w' ⟨rfl, rfl⟩) | (go_at_call 61; go_in) | (go_at_call 72; go_in))
    go_ret2
    exact gave1_no HH.out HB0.out
  have HG0 := hide (amtB_iff.1 gg0)
  by_cases hall1 : allP x n 1 60 0 1000000000000
  rotate_left
  · have HAT1 := hide (tru_no hall1)
    have HH := hide (show ¬ fuP s x n y m f from fun h => hall1 (h.2.1))
    clear hall1
    go_enter Try.func34, Try.ntmps34
    go_wp2_with fail
    rw [← HWW.out]
    clear HWW
    refine (implAmount_any s W0).mono ?_
    rintro e w' ⟨rfl, rfl⟩
    have kx0 := Joins.cell_of_block HX0_0.out 0
    have kx1 := Joins.cell_of_block HX1_0.out 0
    have kx2 := Joins.cell_of_block HX2_0.out 0
    simp at kx0 kx1 kx2
    go_wp2_with (first | (go_at_call 69; refine (implAmount_any _ _ ).mono ?_; rintro e w' ⟨rfl, rfl⟩) | (go_at_call 53; refine (implRate_any _ _ ).mono ?_; rintro e w' ⟨rfl, rfl⟩) | (go_at_call 49; refine (implWithin_any _ _ _ _ ).mono ?_; rintro e w' ⟨rfl, rfl⟩) | (go_at_call 61; go_in) | (go_at_call 72; go_in))
    refine (areAll_isAmount A n c x 1 60 _ (by unfold maxLen; omega) HS0_0.out).mono ?_
    rw [HAT1.out]
    rintro e W1 ⟨rfl, hb⟩
    have HB1 := hide (HB0.out.trans (hb.mono HB0.out.size))
    have HS0_1 := hide (HS0_0.out.below hb)
    have HS1_1 := hide (HS1_0.out.below hb)
    have HX0_1 := hide (blk_below hb (Array.getElem?_eq_some_iff.1 HX0_0.out).1 HX0_0.out)
    have HX1_1 := hide (blk_below hb (Array.getElem?_eq_some_iff.1 HX1_0.out).1 HX1_0.out)
    have HX2_1 := hide (blk_below hb (Array.getElem?_eq_some_iff.1 HX2_0.out).1 HX2_0.out)
    clear kx0 kx1 kx2
    have kx0 := Joins.cell_of_block HX0_1.out 0
    have kx1 := Joins.cell_of_block HX1_1.out 0
    have kx2 := Joins.cell_of_block HX2_1.out 0
    simp at kx0 kx1 kx2
    clear hb
    go_wp2_with (first | (go_at_call 69; refine (implAmount_any _ _ ).mono ?_; rintro e w' ⟨rfl, rfl⟩) | (go_at_call 53; refine (implRate_any _ _ ).mono ?_; rintro e w' ⟨rfl, rfl⟩) | (go_at_call 49; refine (implWithin_any _ _ _ _ ).mono ?_; rintro e w' ⟨rfl, rfl⟩) | (go_at_call 61; go_in) | (go_at_call 72; go_in))
    go_ret2
    exact gave1_no HH.out HB1.out
  have HAT1 := hide (tru_yes hall1)
  have HAL1 := hide hall1
  clear hall1
  by_cases hall2 : allP y m 1 60 (-9999) 10000
  rotate_left
  · have HAT2 := hide (tru_no hall2)
    have HH := hide (show ¬ fuP s x n y m f from fun h => hall2 (h.2.2.1))
    clear hall2
    go_enter Try.func34, Try.ntmps34
    go_wp2_with fail
    rw [← HWW.out]
    clear HWW
    refine (implAmount_any s W0).mono ?_
    rintro e w' ⟨rfl, rfl⟩
    have kx0 := Joins.cell_of_block HX0_0.out 0
    have kx1 := Joins.cell_of_block HX1_0.out 0
    have kx2 := Joins.cell_of_block HX2_0.out 0
    simp at kx0 kx1 kx2
    go_wp2_with (first | (go_at_call 69; refine (implAmount_any _ _ ).mono ?_; rintro e w' ⟨rfl, rfl⟩) | (go_at_call 53; refine (implRate_any _ _ ).mono ?_; rintro e w' ⟨rfl, rfl⟩) | (go_at_call 49; refine (implWithin_any _ _ _ _ ).mono ?_; rintro e w' ⟨rfl, rfl⟩) | (go_at_call 61; go_in) | (go_at_call 72; go_in))
    refine (areAll_isAmount A n c x 1 60 _ (by unfold maxLen; omega) HS0_0.out).mono ?_
    rw [HAT1.out]
    rintro e W1 ⟨rfl, hb⟩
    have HB1 := hide (HB0.out.trans (hb.mono HB0.out.size))
    have HS0_1 := hide (HS0_0.out.below hb)
    have HS1_1 := hide (HS1_0.out.below hb)
    have HX0_1 := hide (blk_below hb (Array.getElem?_eq_some_iff.1 HX0_0.out).1 HX0_0.out)
    have HX1_1 := hide (blk_below hb (Array.getElem?_eq_some_iff.1 HX1_0.out).1 HX1_0.out)
    have HX2_1 := hide (blk_below hb (Array.getElem?_eq_some_iff.1 HX2_0.out).1 HX2_0.out)
    clear kx0 kx1 kx2
    have kx0 := Joins.cell_of_block HX0_1.out 0
    have kx1 := Joins.cell_of_block HX1_1.out 0
    have kx2 := Joins.cell_of_block HX2_1.out 0
    simp at kx0 kx1 kx2
    clear hb
    go_wp2_with (first | (go_at_call 69; refine (implAmount_any _ _ ).mono ?_; rintro e w' ⟨rfl, rfl⟩) | (go_at_call 53; refine (implRate_any _ _ ).mono ?_; rintro e w' ⟨rfl, rfl⟩) | (go_at_call 49; refine (implWithin_any _ _ _ _ ).mono ?_; rintro e w' ⟨rfl, rfl⟩) | (go_at_call 61; go_in) | (go_at_call 72; go_in))
    refine (areAll_isFundRate A' m c' y 1 60 _ (by unfold maxLen; omega) HS1_1.out).mono ?_
    rw [HAT2.out]
    rintro e W2 ⟨rfl, hb⟩
    have HB2 := hide (HB1.out.trans (hb.mono HB1.out.size))
    have HS0_2 := hide (HS0_1.out.below hb)
    have HS1_2 := hide (HS1_1.out.below hb)
    have HX0_2 := hide (blk_below hb (Array.getElem?_eq_some_iff.1 HX0_1.out).1 HX0_1.out)
    have HX1_2 := hide (blk_below hb (Array.getElem?_eq_some_iff.1 HX1_1.out).1 HX1_1.out)
    have HX2_2 := hide (blk_below hb (Array.getElem?_eq_some_iff.1 HX2_1.out).1 HX2_1.out)
    clear kx0 kx1 kx2
    have kx0 := Joins.cell_of_block HX0_2.out 0
    have kx1 := Joins.cell_of_block HX1_2.out 0
    have kx2 := Joins.cell_of_block HX2_2.out 0
    simp at kx0 kx1 kx2
    clear hb
    go_wp2_with (first | (go_at_call 69; refine (implAmount_any _ _ ).mono ?_; rintro e w' ⟨rfl, rfl⟩) | (go_at_call 53; refine (implRate_any _ _ ).mono ?_; rintro e w' ⟨rfl, rfl⟩) | (go_at_call 49; refine (implWithin_any _ _ _ _ ).mono ?_; rintro e w' ⟨rfl, rfl⟩) | (go_at_call 61; go_in) | (go_at_call 72; go_in))
    go_ret2
    exact gave1_no HH.out HB2.out
  have HAT2 := hide (tru_yes hall2)
  have HAL2 := hide hall2
  clear hall2
  by_cases heq3 : (n : Int) = (m : Int)
  rotate_left
  · have HH := hide (show ¬ fuP s x n y m f from fun h => heq3 (h.2.2.2.1))
    have hne : ¬ n = m := fun hh => heq3 (by rw [hh])
    have hne' : ¬ m = n := fun hh => heq3 (by rw [hh])
    go_enter Try.func34, Try.ntmps34
    go_wp2_with fail
    rw [← HWW.out]
    clear HWW
    refine (implAmount_any s W0).mono ?_
    rintro e w' ⟨rfl, rfl⟩
    have kx0 := Joins.cell_of_block HX0_0.out 0
    have kx1 := Joins.cell_of_block HX1_0.out 0
    have kx2 := Joins.cell_of_block HX2_0.out 0
    simp at kx0 kx1 kx2
    go_wp2_with (first | (go_at_call 69; refine (implAmount_any _ _ ).mono ?_; rintro e w' ⟨rfl, rfl⟩) | (go_at_call 53; refine (implRate_any _ _ ).mono ?_; rintro e w' ⟨rfl, rfl⟩) | (go_at_call 49; refine (implWithin_any _ _ _ _ ).mono ?_; rintro e w' ⟨rfl, rfl⟩) | (go_at_call 61; go_in) | (go_at_call 72; go_in))
    refine (areAll_isAmount A n c x 1 60 _ (by unfold maxLen; omega) HS0_0.out).mono ?_
    rw [HAT1.out]
    rintro e W1 ⟨rfl, hb⟩
    have HB1 := hide (HB0.out.trans (hb.mono HB0.out.size))
    have HS0_1 := hide (HS0_0.out.below hb)
    have HS1_1 := hide (HS1_0.out.below hb)
    have HX0_1 := hide (blk_below hb (Array.getElem?_eq_some_iff.1 HX0_0.out).1 HX0_0.out)
    have HX1_1 := hide (blk_below hb (Array.getElem?_eq_some_iff.1 HX1_0.out).1 HX1_0.out)
    have HX2_1 := hide (blk_below hb (Array.getElem?_eq_some_iff.1 HX2_0.out).1 HX2_0.out)
    clear kx0 kx1 kx2
    have kx0 := Joins.cell_of_block HX0_1.out 0
    have kx1 := Joins.cell_of_block HX1_1.out 0
    have kx2 := Joins.cell_of_block HX2_1.out 0
    simp at kx0 kx1 kx2
    clear hb
    go_wp2_with (first | (go_at_call 69; refine (implAmount_any _ _ ).mono ?_; rintro e w' ⟨rfl, rfl⟩) | (go_at_call 53; refine (implRate_any _ _ ).mono ?_; rintro e w' ⟨rfl, rfl⟩) | (go_at_call 49; refine (implWithin_any _ _ _ _ ).mono ?_; rintro e w' ⟨rfl, rfl⟩) | (go_at_call 61; go_in) | (go_at_call 72; go_in))
    refine (areAll_isFundRate A' m c' y 1 60 _ (by unfold maxLen; omega) HS1_1.out).mono ?_
    rw [HAT2.out]
    rintro e W2 ⟨rfl, hb⟩
    have HB2 := hide (HB1.out.trans (hb.mono HB1.out.size))
    have HS0_2 := hide (HS0_1.out.below hb)
    have HS1_2 := hide (HS1_1.out.below hb)
    have HX0_2 := hide (blk_below hb (Array.getElem?_eq_some_iff.1 HX0_1.out).1 HX0_1.out)
    have HX1_2 := hide (blk_below hb (Array.getElem?_eq_some_iff.1 HX1_1.out).1 HX1_1.out)
    have HX2_2 := hide (blk_below hb (Array.getElem?_eq_some_iff.1 HX2_1.out).1 HX2_1.out)
    clear kx0 kx1 kx2
    have kx0 := Joins.cell_of_block HX0_2.out 0
    have kx1 := Joins.cell_of_block HX1_2.out 0
    have kx2 := Joins.cell_of_block HX2_2.out 0
    simp at kx0 kx1 kx2
    clear hb
    go_wp2_with (first | (go_at_call 69; refine (implAmount_any _ _ ).mono ?_; rintro e w' ⟨rfl, rfl⟩) | (go_at_call 53; refine (implRate_any _ _ ).mono ?_; rintro e w' ⟨rfl, rfl⟩) | (go_at_call 49; refine (implWithin_any _ _ _ _ ).mono ?_; rintro e w' ⟨rfl, rfl⟩) | (go_at_call 61; go_in) | (go_at_call 72; go_in))
    go_ret2
    exact gave1_no HH.out HB2.out
  obtain rfl : n = m := by omega
  cases gg4 : ratB f
  · have HH := hide (show ¬ fuP s x n y n f from fun h => by rw [ratB_yes (h.2.2.2.2.1)] at gg4; cases gg4)
    go_enter Try.func34, Try.ntmps34
    go_wp2_with fail
    rw [← HWW.out]
    clear HWW
    refine (implAmount_any s W0).mono ?_
    rintro e w' ⟨rfl, rfl⟩
    have kx0 := Joins.cell_of_block HX0_0.out 0
    have kx1 := Joins.cell_of_block HX1_0.out 0
    have kx2 := Joins.cell_of_block HX2_0.out 0
    simp at kx0 kx1 kx2
    go_wp2_with (first | (go_at_call 69; refine (implAmount_any _ _ ).mono ?_; rintro e w' ⟨rfl, rfl⟩) | (go_at_call 53; refine (implRate_any _ _ ).mono ?_; rintro e w' ⟨rfl, rfl⟩) | (go_at_call 49; refine (implWithin_any _ _ _ _ ).mono ?_; rintro e w' ⟨rfl, rfl⟩) | (go_at_call 61; go_in) | (go_at_call 72; go_in))
    refine (areAll_isAmount A n c x 1 60 _ (by unfold maxLen; omega) HS0_0.out).mono ?_
    rw [HAT1.out]
    rintro e W1 ⟨rfl, hb⟩
    have HB1 := hide (HB0.out.trans (hb.mono HB0.out.size))
    have HS0_1 := hide (HS0_0.out.below hb)
    have HS1_1 := hide (HS1_0.out.below hb)
    have HX0_1 := hide (blk_below hb (Array.getElem?_eq_some_iff.1 HX0_0.out).1 HX0_0.out)
    have HX1_1 := hide (blk_below hb (Array.getElem?_eq_some_iff.1 HX1_0.out).1 HX1_0.out)
    have HX2_1 := hide (blk_below hb (Array.getElem?_eq_some_iff.1 HX2_0.out).1 HX2_0.out)
    clear kx0 kx1 kx2
    have kx0 := Joins.cell_of_block HX0_1.out 0
    have kx1 := Joins.cell_of_block HX1_1.out 0
    have kx2 := Joins.cell_of_block HX2_1.out 0
    simp at kx0 kx1 kx2
    clear hb
    go_wp2_with (first | (go_at_call 69; refine (implAmount_any _ _ ).mono ?_; rintro e w' ⟨rfl, rfl⟩) | (go_at_call 53; refine (implRate_any _ _ ).mono ?_; rintro e w' ⟨rfl, rfl⟩) | (go_at_call 49; refine (implWithin_any _ _ _ _ ).mono ?_; rintro e w' ⟨rfl, rfl⟩) | (go_at_call 61; go_in) | (go_at_call 72; go_in))
    refine (areAll_isFundRate A' n c' y 1 60 _ (by unfold maxLen; omega) HS1_1.out).mono ?_
    rw [HAT2.out]
    rintro e W2 ⟨rfl, hb⟩
    have HB2 := hide (HB1.out.trans (hb.mono HB1.out.size))
    have HS0_2 := hide (HS0_1.out.below hb)
    have HS1_2 := hide (HS1_1.out.below hb)
    have HX0_2 := hide (blk_below hb (Array.getElem?_eq_some_iff.1 HX0_1.out).1 HX0_1.out)
    have HX1_2 := hide (blk_below hb (Array.getElem?_eq_some_iff.1 HX1_1.out).1 HX1_1.out)
    have HX2_2 := hide (blk_below hb (Array.getElem?_eq_some_iff.1 HX2_1.out).1 HX2_1.out)
    clear kx0 kx1 kx2
    have kx0 := Joins.cell_of_block HX0_2.out 0
    have kx1 := Joins.cell_of_block HX1_2.out 0
    have kx2 := Joins.cell_of_block HX2_2.out 0
    simp at kx0 kx1 kx2
    clear hb
    go_wp2_with (first | (go_at_call 69; refine (implAmount_any _ _ ).mono ?_; rintro e w' ⟨rfl, rfl⟩) | (go_at_call 53; refine (implRate_any _ _ ).mono ?_; rintro e w' ⟨rfl, rfl⟩) | (go_at_call 49; refine (implWithin_any _ _ _ _ ).mono ?_; rintro e w' ⟨rfl, rfl⟩) | (go_at_call 61; go_in) | (go_at_call 72; go_in))
    go_ret2
    exact gave1_no HH.out HB2.out
  have HG4 := hide (ratB_iff.1 gg4)
  have n60 := HAL1.out.1.2
  have n1 : 1 ≤ n := by have := HAL1.out.1.1; omega
  obtain ⟨s0, s1⟩ := HG0.out
  obtain ⟨f0, f1⟩ := HG4.out
  have HAX := hide HAL1.out.2
  have HAY := hide HAL2.out.2
  have HPQ := hide (show (fuP s x n y n f) = (frOk s x y f n) from propext ⟨fun h => h.2.2.2.2.2, fun h => ⟨HG0.out, HAL1.out, HAL2.out, rfl, HG4.out, h⟩⟩)
  go_enter Try.func34, Try.ntmps34
  go_wp2_with fail
  rw [← HWW.out]
  clear HWW
  refine (implAmount_any s W0).mono ?_
  rintro e w' ⟨rfl, rfl⟩
  have kx0 := Joins.cell_of_block HX0_0.out 0
  have kx1 := Joins.cell_of_block HX1_0.out 0
  have kx2 := Joins.cell_of_block HX2_0.out 0
  simp at kx0 kx1 kx2
  go_wp2_with (first | (go_at_call 69; refine (implAmount_any _ _ ).mono ?_; rintro e w' ⟨rfl, rfl⟩) | (go_at_call 53; refine (implRate_any _ _ ).mono ?_; rintro e w' ⟨rfl, rfl⟩) | (go_at_call 49; refine (implWithin_any _ _ _ _ ).mono ?_; rintro e w' ⟨rfl, rfl⟩) | (go_at_call 61; go_in) | (go_at_call 72; go_in))
  refine (areAll_isAmount A n c x 1 60 _ (by unfold maxLen; omega) HS0_0.out).mono ?_
  rw [HAT1.out]
  rintro e W1 ⟨rfl, hb⟩
  have HB1 := hide (HB0.out.trans (hb.mono HB0.out.size))
  have HS0_1 := hide (HS0_0.out.below hb)
  have HS1_1 := hide (HS1_0.out.below hb)
  have HX0_1 := hide (blk_below hb (Array.getElem?_eq_some_iff.1 HX0_0.out).1 HX0_0.out)
  have HX1_1 := hide (blk_below hb (Array.getElem?_eq_some_iff.1 HX1_0.out).1 HX1_0.out)
  have HX2_1 := hide (blk_below hb (Array.getElem?_eq_some_iff.1 HX2_0.out).1 HX2_0.out)
  clear kx0 kx1 kx2
  have kx0 := Joins.cell_of_block HX0_1.out 0
  have kx1 := Joins.cell_of_block HX1_1.out 0
  have kx2 := Joins.cell_of_block HX2_1.out 0
  simp at kx0 kx1 kx2
  clear hb
  go_wp2_with (first | (go_at_call 69; refine (implAmount_any _ _ ).mono ?_; rintro e w' ⟨rfl, rfl⟩) | (go_at_call 53; refine (implRate_any _ _ ).mono ?_; rintro e w' ⟨rfl, rfl⟩) | (go_at_call 49; refine (implWithin_any _ _ _ _ ).mono ?_; rintro e w' ⟨rfl, rfl⟩) | (go_at_call 61; go_in) | (go_at_call 72; go_in))
  refine (areAll_isFundRate A' n c' y 1 60 _ (by unfold maxLen; omega) HS1_1.out).mono ?_
  rw [HAT2.out]
  rintro e W2 ⟨rfl, hb⟩
  have HB2 := hide (HB1.out.trans (hb.mono HB1.out.size))
  have HS0_2 := hide (HS0_1.out.below hb)
  have HS1_2 := hide (HS1_1.out.below hb)
  have HX0_2 := hide (blk_below hb (Array.getElem?_eq_some_iff.1 HX0_1.out).1 HX0_1.out)
  have HX1_2 := hide (blk_below hb (Array.getElem?_eq_some_iff.1 HX1_1.out).1 HX1_1.out)
  have HX2_2 := hide (blk_below hb (Array.getElem?_eq_some_iff.1 HX2_1.out).1 HX2_1.out)
  clear kx0 kx1 kx2
  have kx0 := Joins.cell_of_block HX0_2.out 0
  have kx1 := Joins.cell_of_block HX1_2.out 0
  have kx2 := Joins.cell_of_block HX2_2.out 0
  simp at kx0 kx1 kx2
  clear hb
  go_wp2_with (first | (go_at_call 73; fail) | (go_at_call 69; refine (implAmount_any _ _ ).mono ?_; rintro e w' ⟨rfl, rfl⟩) | (go_at_call 53; refine (implRate_any _ _ ).mono ?_; rintro e w' ⟨rfl, rfl⟩) | (go_at_call 49; refine (implWithin_any _ _ _ _ ).mono ?_; rintro e w' ⟨rfl, rfl⟩) | (go_at_call 61; go_in) | (go_at_call 72; go_in))
  refine (fundYears_any _ _ _ A n c x A' c' y f s W2 HS0_2.out HS1_2.out HX0_2.out HX1_2.out HX2_2.out (by omega) s0 s1 HAX.out HAY.out f0 f1).mono ?_
  rintro e W3 ⟨G, d, rfl, ho, hb⟩
  have HB3 := hide (HB2.out.trans (hb.mono HB2.out.size))
  have HO := hide (ho.wide HB2.out.size (Nat.le_refl _))
  clear ho hb gg0 gg4
  obtain ⟨M, hM⟩ : ∃ M, lenV (frOk s x y f n) n = M := ⟨_, rfl⟩
  obtain ⟨B, hB⟩ : ∃ B, tru (frOk s x y f n) = B := ⟨_, rfl⟩
  rw [hM] at HO
  rw [hM, hB]
  have HMB := hide (And.intro hM hB)
  clear hM hB
  go_wp2
  go_ret2
  refine ⟨G, d, ?_, ?_, HB3.out⟩
  · rw [HPQ.out, HMB.out.1, HMB.out.2]; rfl
  · rw [HPQ.out, HMB.out.1]; exact HO.out
end Go.Proofs.Ytjefpcmegkeceaa
