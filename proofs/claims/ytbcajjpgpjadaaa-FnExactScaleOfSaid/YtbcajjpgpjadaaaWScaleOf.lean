/- The law FnExactScaleOf, walked. -/
import Derived.Test.YtbcajjpgpjadaaaSr8
import Derived.Test.YtbcajjpgpjadaaaMs
import Derived.Test.YtbcajjpgpjadaaaRow
import Derived.Deep.RegionHeld3
namespace Go.Proofs.Ytbcajjpgpjadaaa
open Go.RowKit Go.Dues
set_option maxHeartbeats 4000000 in
theorem lawScaleOf_any (A0 : Option Addr) (n0 c0 : Nat) (x0 : Nat → Int) (A1 : Option Addr) (n1 c1 : Nat) (x1 : Nat → Int) (v2 : Int) (w : World) (hm0 : n0 ≤ maxLen) (hs0 : SL w A0 n0 (fun j => .int .i64 (x0 j))) (hm1 : n1 ≤ maxLen) (hs1 : SL w A1 n1 (fun j => .int .i64 (x1 j))) (wv2 : -9223372036854775808 ≤ v2 ∧ v2 ≤ 9223372036854775807) :
    Calls Try.prog 8 #[.slice A0 n0 c0, .slice A1 n1 c1, .int .i64 v2] w fun e w' => e = .returned (.bool true) ∧ Below w.heap.size w w' := by
  have WV2 := hide wv2
  clear wv2
  unfold maxLen at hm0
  by_cases hbig0 : (1048576 : Int) < (n0 : Int)
  · clear hs0 hs1
    go_enter Try.func8, Try.ntmps8
    go_wp2
    go_ret
    exact ⟨rfl, (Below.refl w.heap.size w)⟩
  have hm0 : n0 ≤ maxLen := hm0
  have hn0 : n0 ≤ 1048576 := by omega
  unfold maxLen at hm1
  by_cases hbig1 : (1048576 : Int) < (n1 : Int)
  · clear hs0 hs1
    go_enter Try.func8, Try.ntmps8
    go_wp2
    go_ret
    exact ⟨rfl, (Below.refl w.heap.size w)⟩
  have hm1 : n1 ≤ maxLen := hm1
  have hn1 : n1 ≤ 1048576 := by omega
  have HS0 := hide hs0
  clear hs0
  have HS1 := hide hs1
  clear hs1
  obtain ⟨w0, hw0⟩ : ∃ u, u = w := ⟨_, rfl⟩
  have HB0 : Hid (Below w.heap.size w w0) := by rw [hw0]; exact (Below.refl w.heap.size w)
  have hs0 : w.heap.size ≤ w0.heap.size := by rw [hw0]; exact Nat.le_refl _
  have HW := hide hw0
  clear hw0
  go_enter Try.func8, Try.ntmps8
  go_wp2_with fail
  rw [← HW.out]
  clear HW
  refine (toIsW_any A0 n0 c0 x0 _ hn0 (HS0.out.below HB0.out)).mono ?_
  rintro e w1 ⟨gs0, rfl, hg1, hg2, hb, ho⟩
  have HOs0_1 := hide ho
  clear ho hg1 hg2
  have HB1 := hide (HB0.out.trans (hb.mono HB0.out.size))
  have hs1 : w0.heap.size ≤ w1.heap.size := hb.size
  clear hb
  go_wp2_with fail
  refine (toIsW_any A1 n1 c1 x1 _ hn1 (HS1.out.below HB1.out)).mono ?_
  rintro e w2 ⟨gs1, rfl, hg1, hg2, hb, ho⟩
  have HOs1_2 := hide ho
  clear ho hg1 hg2
  have HB2 := hide (HB1.out.trans (hb.mono HB1.out.size))
  have hs2 : w1.heap.size ≤ w2.heap.size := hb.size
  have HOs0_2 := hide (HOs0_1.out.below hb)
  clear HOs0_1
  clear hb
  go_wp2_with fail
  refine (specScaleOf_any _ n0 n0 x0 _ n1 n1 x1 v2 _ hm0 HOs0_2.out.sl hm1 HOs1_2.out.sl).mono ?_
  rintro e w3 ⟨W, Wc, W', Wc', rfl, ho, hb⟩
  have HOW_3 := hide ho
  clear ho
  have HB3 := hide (HB2.out.trans (hb.mono HB2.out.size))
  have hs3 : w2.heap.size ≤ w3.heap.size := hb.size
  have HOs0_3 := hide (HOs0_2.out.below hb)
  clear HOs0_2
  have HOs1_3 := hide (HOs1_2.out.below hb)
  clear HOs1_2
  clear hb
  clear HOs0_3
  clear HOs1_3
  obtain ⟨w4, hwe⟩ : ∃ u, u = w3.alloc (.cells #[.slice W (lenV (soP x0 n0 x1 n1 v2) n0) Wc, .slice W' (lenV (soP x0 n0 x1 n1 v2) n0) Wc'] 30) := ⟨_, rfl⟩
  have hb : Below w3.heap.size w3 w4 := by rw [hwe]; exact (Below.refl _ _).alloc (Nat.le_refl _) _
  have HXW_4 : Hid (w4.heap[w3.heap.size]? = some (.cells #[.slice W (lenV (soP x0 n0 x1 n1 v2) n0) Wc, .slice W' (lenV (soP x0 n0 x1 n1 v2) n0) Wc'] 30)) := by rw [hwe]; exact blocks1 w3 _
  have hsb4 : w3.heap.size + 1 ≤ w4.heap.size := by rw [hwe]; simp
  have HW := hide hwe
  clear hwe
  have HB4 := hide (HB3.out.trans (hb.mono HB3.out.size))
  have hs4 : w3.heap.size ≤ w4.heap.size := hb.size
  have HOW_4 := hide (HOW_3.out.below hb)
  clear HOW_3
  clear hb
  go_wp2_with fail
  rw [← HW.out]
  clear HW
  refine (toIsW_any A0 n0 c0 x0 _ hn0 (HS0.out.below HB4.out)).mono ?_
  rintro e w5 ⟨gx0_, rfl, hg1, hg2, hb, ho⟩
  have HOx0__5 := hide ho
  clear ho hg1 hg2
  have HB5 := hide (HB4.out.trans (hb.mono HB4.out.size))
  have hs5 : w4.heap.size ≤ w5.heap.size := hb.size
  have HXW_5 := hide (blk_below hb (by omega) HXW_4.out)
  clear HXW_4
  have HOW_5 := hide (HOW_4.out.below hb)
  clear HOW_4
  clear hb
  go_wp2_with fail
  refine (toIsW_any A1 n1 c1 x1 _ hn1 (HS1.out.below HB5.out)).mono ?_
  rintro e w6 ⟨gx1_, rfl, hg1, hg2, hb, ho⟩
  have HOx1__6 := hide ho
  clear ho hg1 hg2
  have HB6 := hide (HB5.out.trans (hb.mono HB5.out.size))
  have hs6 : w5.heap.size ≤ w6.heap.size := hb.size
  have HXW_6 := hide (blk_below hb (by omega) HXW_5.out)
  clear HXW_5
  have HOW_6 := hide (HOW_5.out.below hb)
  clear HOW_5
  have HOx0__6 := hide (HOx0__5.out.below hb)
  clear HOx0__5
  clear hb
  go_wp2_with fail
  refine (implScaleOf_any _ n0 n0 x0 _ n1 n1 x1 v2 _ hm0 HOx0__6.out.sl hm1 HOx1__6.out.sl).mono ?_
  rintro e w7 ⟨R, Rc, R', Rc', rfl, ho, hb⟩
  have HOR_7 := hide ho
  clear ho
  have HB7 := hide (HB6.out.trans (hb.mono HB6.out.size))
  have hs7 : w6.heap.size ≤ w7.heap.size := hb.size
  have HXW_7 := hide (blk_below hb (by omega) HXW_6.out)
  clear HXW_6
  have HOW_7 := hide (HOW_6.out.below hb)
  clear HOW_6
  have HOx0__7 := hide (HOx0__6.out.below hb)
  clear HOx0__6
  have HOx1__7 := hide (HOx1__6.out.below hb)
  clear HOx1__6
  clear hb
  obtain ⟨w8, hwe⟩ : ∃ u, u = w7.alloc (.cells #[.slice R (lenV (soP x0 n0 x1 n1 v2) n0) Rc, .slice R' (lenV (soP x0 n0 x1 n1 v2) n0) Rc'] 30) := ⟨_, rfl⟩
  have hb : Below w7.heap.size w7 w8 := by rw [hwe]; exact (Below.refl _ _).alloc (Nat.le_refl _) _
  have HXR_8 : Hid (w8.heap[w7.heap.size]? = some (.cells #[.slice R (lenV (soP x0 n0 x1 n1 v2) n0) Rc, .slice R' (lenV (soP x0 n0 x1 n1 v2) n0) Rc'] 30)) := by rw [hwe]; exact blocks1 w7 _
  have hsb8 : w7.heap.size + 1 ≤ w8.heap.size := by rw [hwe]; simp
  have HW := hide hwe
  clear hwe
  have HB8 := hide (HB7.out.trans (hb.mono HB7.out.size))
  have hs8 : w7.heap.size ≤ w8.heap.size := hb.size
  have HXW_8 := hide (blk_below hb (by omega) HXW_7.out)
  clear HXW_7
  have HOW_8 := hide (HOW_7.out.below hb)
  clear HOW_7
  have HOx0__8 := hide (HOx0__7.out.below hb)
  clear HOx0__7
  have HOx1__8 := hide (HOx1__7.out.below hb)
  clear HOx1__7
  have HOR_8 := hide (HOR_7.out.below hb)
  clear HOR_7
  clear hb
  have kR := Joins.cell_of_block HXR_8.out 0
  have kR' := Joins.cell_of_block HXR_8.out 1
  simp at kR kR'
  have iR := kR
  have iR' := kR'
  rw [HW.out] at iR iR'
  have kW := Joins.cell_of_block HXW_8.out 0
  have kW' := Joins.cell_of_block HXW_8.out 1
  simp at kW kW'
  have iW := kW
  have iW' := kW'
  rw [HW.out] at iW iW'
  go_wp2_with fail
  rw [← HW.out]
  clear HW
  clear iR iR' iW iW'
  refine (eqScale_any _ _ _ _ (lenV (soP x0 n0 x1 n1 v2) n0) _ (lenV (soP x0 n0 x1 n1 v2) n0) _ _ _ _ _ _ (by unfold maxLen; have := (show lenV (soP x0 n0 x1 n1 v2) n0 ≤ 1048576 from Nat.le_trans (lenV_le _ _) hn0); omega) (by unfold maxLen; have := (show lenV (soP x0 n0 x1 n1 v2) n0 ≤ 1048576 from Nat.le_trans (lenV_le _ _) hn0); omega) HOR_8.out.1.sl HOR_8.out.2.1.sl HOW_8.out.1.sl HOW_8.out.2.1.sl).mono ?_
  rintro e w9 ⟨rfl, hb⟩
  have HB9 := hide (HB8.out.trans (hb.mono HB8.out.size))
  have hs9 : w8.heap.size ≤ w9.heap.size := hb.size
  have HXW_9 := hide (blk_below hb (by omega) HXW_8.out)
  clear HXW_8
  have HXR_9 := hide (blk_below hb (by omega) HXR_8.out)
  clear HXR_8
  have HOW_9 := hide (HOW_8.out.below hb)
  clear HOW_8
  have HOx0__9 := hide (HOx0__8.out.below hb)
  clear HOx0__8
  have HOx1__9 := hide (HOx1__8.out.below hb)
  clear HOx1__8
  have HOR_9 := hide (HOR_8.out.below hb)
  clear HOR_8
  clear hb
  clear kR kR' kW kW'
  go_wp2_with fail
  refine (toIsW_any A0 n0 c0 x0 _ hn0 (HS0.out.below HB9.out)).mono ?_
  rintro e w10 ⟨gt, rfl, hg1, hg2, hb, ho⟩
  have HOt_10 := hide ho
  clear ho hg1 hg2
  have HB10 := hide (HB9.out.trans (hb.mono HB9.out.size))
  have hs10 : w9.heap.size ≤ w10.heap.size := hb.size
  have HXW_10 := hide (blk_below hb (by omega) HXW_9.out)
  clear HXW_9
  have HXR_10 := hide (blk_below hb (by omega) HXR_9.out)
  clear HXR_9
  have HOW_10 := hide (HOW_9.out.below hb)
  clear HOW_9
  have HOx0__10 := hide (HOx0__9.out.below hb)
  clear HOx0__9
  have HOx1__10 := hide (HOx1__9.out.below hb)
  clear HOx1__9
  have HOR_10 := hide (HOR_9.out.below hb)
  clear HOR_9
  clear hb
  go_wp2_with fail
  refine (eqIs_any _ _ n0 _ _ _ _ hm0 HOx0__10.out.sl HOt_10.out.sl).mono ?_
  rintro e w11 ⟨rfl, q, hq⟩
  have hb : Below w10.heap.size w10 w11 := by rw [hq]; exact bel_drewN (Below.refl _ _) _
  clear hq
  have HB11 := hide (HB10.out.trans (hb.mono HB10.out.size))
  have hs11 : w10.heap.size ≤ w11.heap.size := hb.size
  have HXW_11 := hide (blk_below hb (by omega) HXW_10.out)
  clear HXW_10
  have HXR_11 := hide (blk_below hb (by omega) HXR_10.out)
  clear HXR_10
  have HOW_11 := hide (HOW_10.out.below hb)
  clear HOW_10
  have HOx0__11 := hide (HOx0__10.out.below hb)
  clear HOx0__10
  have HOx1__11 := hide (HOx1__10.out.below hb)
  clear HOx1__10
  have HOR_11 := hide (HOR_10.out.below hb)
  clear HOR_10
  have HOt_11 := hide (HOt_10.out.below hb)
  clear HOt_10
  clear hb
  clear HOt_11
  go_wp2_with fail
  refine (toIsW_any A1 n1 c1 x1 _ hn1 (HS1.out.below HB11.out)).mono ?_
  rintro e w12 ⟨gt, rfl, hg1, hg2, hb, ho⟩
  have HOt_12 := hide ho
  clear ho hg1 hg2
  have HB12 := hide (HB11.out.trans (hb.mono HB11.out.size))
  have hs12 : w11.heap.size ≤ w12.heap.size := hb.size
  have HXW_12 := hide (blk_below hb (by omega) HXW_11.out)
  clear HXW_11
  have HXR_12 := hide (blk_below hb (by omega) HXR_11.out)
  clear HXR_11
  have HOW_12 := hide (HOW_11.out.below hb)
  clear HOW_11
  have HOx0__12 := hide (HOx0__11.out.below hb)
  clear HOx0__11
  have HOx1__12 := hide (HOx1__11.out.below hb)
  clear HOx1__11
  have HOR_12 := hide (HOR_11.out.below hb)
  clear HOR_11
  clear hb
  go_wp2_with fail
  refine (eqIs_any _ _ n1 _ _ _ _ hm1 HOx1__12.out.sl HOt_12.out.sl).mono ?_
  rintro e w13 ⟨rfl, q, hq⟩
  have hb : Below w12.heap.size w12 w13 := by rw [hq]; exact bel_drewN (Below.refl _ _) _
  clear hq
  have HB13 := hide (HB12.out.trans (hb.mono HB12.out.size))
  have hs13 : w12.heap.size ≤ w13.heap.size := hb.size
  have HXW_13 := hide (blk_below hb (by omega) HXW_12.out)
  clear HXW_12
  have HXR_13 := hide (blk_below hb (by omega) HXR_12.out)
  clear HXR_12
  have HOW_13 := hide (HOW_12.out.below hb)
  clear HOW_12
  have HOx0__13 := hide (HOx0__12.out.below hb)
  clear HOx0__12
  have HOx1__13 := hide (HOx1__12.out.below hb)
  clear HOx1__12
  have HOR_13 := hide (HOR_12.out.below hb)
  clear HOR_12
  have HOt_13 := hide (HOt_12.out.below hb)
  clear HOt_12
  clear hb
  clear HOt_13
  go_wp2_with fail
  refine (markIs_any _ n0 _ w4.heap.size w5.heap.size _ (1) _ (hn0) (by omega) (by omega) HOx0__13.out).mono ?_
  rintro e w14 ⟨rfl, ho, hw⟩
  have HOx0__14 := hide ho
  clear ho HOx0__13
  replace hw : Marked w4.heap.size w5.heap.size w13 w14 := marked_of hw
  have hs14 : w13.heap.size ≤ w14.heap.size := hw.size
  have HB14 := hide (HB13.out.trans (hw.bel (B := w.heap.size) (by omega) (by omega)))
  have HXW_14 := hide (blk_marked hw (by omega) (by omega) HXW_13.out)
  clear HXW_13
  have HXR_14 := hide (blk_marked hw (by omega) (by omega) HXR_13.out)
  clear HXR_13
  have HOW_14 := hide (HOW_13.out.marked hw (by omega))
  clear HOW_13
  have HOx1__14 := hide (HOx1__13.out.marked hw (by omega))
  clear HOx1__13
  have HOR_14 := hide (HOR_13.out.marked hw (by omega))
  clear HOR_13
  clear hw
  go_wp2_with fail
  refine (markIs_any _ n1 _ w5.heap.size w6.heap.size _ (1 + n0) _ (hn1) (by omega) (by omega) HOx1__14.out).mono ?_
  rintro e w15 ⟨rfl, ho, hw⟩
  have HOx1__15 := hide ho
  clear ho HOx1__14
  replace hw : Marked w5.heap.size w6.heap.size w14 w15 := marked_of hw
  have hs15 : w14.heap.size ≤ w15.heap.size := hw.size
  have HB15 := hide (HB14.out.trans (hw.bel (B := w.heap.size) (by omega) (by omega)))
  have HXW_15 := hide (blk_marked hw (by omega) (by omega) HXW_14.out)
  clear HXW_14
  have HXR_15 := hide (blk_marked hw (by omega) (by omega) HXR_14.out)
  clear HXR_14
  have HOW_15 := hide (HOW_14.out.marked hw (by omega))
  clear HOW_14
  have HOx0__15 := hide (HOx0__14.out.marked hw (by omega))
  clear HOx0__14
  have HOR_15 := hide (HOR_14.out.marked hw (by omega))
  clear HOR_14
  clear hw
  clear HOx0__15
  clear HOx1__15
  have kR := Joins.cell_of_block HXR_15.out 0
  have kR' := Joins.cell_of_block HXR_15.out 1
  simp at kR kR'
  have kW := Joins.cell_of_block HXW_15.out 0
  have kW' := Joins.cell_of_block HXW_15.out 1
  simp at kW kW'
  go_wp2_with fail
  refine (eqScale_any _ _ _ _ (lenV (soP x0 n0 x1 n1 v2) n0) _ (lenV (soP x0 n0 x1 n1 v2) n0) _ _ _ _ _ _ (by unfold maxLen; have := (show lenV (soP x0 n0 x1 n1 v2) n0 ≤ 1048576 from Nat.le_trans (lenV_le _ _) hn0); omega) (by unfold maxLen; have := (show lenV (soP x0 n0 x1 n1 v2) n0 ≤ 1048576 from Nat.le_trans (lenV_le _ _) hn0); omega) HOR_15.out.1.sl HOR_15.out.2.1.sl HOW_15.out.1.sl HOW_15.out.2.1.sl).mono ?_
  rintro e w16 ⟨rfl, hb⟩
  have HB16 := hide (HB15.out.trans (hb.mono HB15.out.size))
  have hs16 : w15.heap.size ≤ w16.heap.size := hb.size
  have HXW_16 := hide (blk_below hb (by omega) HXW_15.out)
  clear HXW_15
  have HXR_16 := hide (blk_below hb (by omega) HXR_15.out)
  clear HXR_15
  have HOW_16 := hide (HOW_15.out.below hb)
  clear HOW_15
  have HOR_16 := hide (HOR_15.out.below hb)
  clear HOR_15
  clear hb
  clear kR kR' kW kW'
  have hM := (show lenV (soP x0 n0 x1 n1 v2) n0 ≤ 1048576 from Nat.le_trans (lenV_le _ _) hn0)
  have hM := (show lenV (soP x0 n0 x1 n1 v2) n0 ≤ 1048576 from Nat.le_trans (lenV_le _ _) hn0)
  have kR := Joins.cell_of_block HXR_16.out 0
  have kR' := Joins.cell_of_block HXR_16.out 1
  simp at kR kR'
  go_wp2_with fail
  refine (markScale_any _ _ (lenV (soP x0 n0 x1 n1 v2) n0) _ (lenV (soP x0 n0 x1 n1 v2) n0) _ w6.heap.size w7.heap.size _ _ (1) _ (hM) (hM) (by omega) (by omega) HOR_16.out (by omega) (by omega)).mono ?_
  rintro e w17 ⟨rfl, ho, hw⟩
  have HOR_17 := hide ho
  clear ho HOR_16
  replace hw : Marked w6.heap.size w7.heap.size w16 w17 := marked_alloc hw
  have hs17 : w16.heap.size ≤ w17.heap.size := hw.size
  have HB17 := hide (HB16.out.trans (hw.bel (B := w.heap.size) (by omega) (by omega)))
  have HXW_17 := hide (blk_marked hw (by omega) (by omega) HXW_16.out)
  clear HXW_16
  have HXR_17 := hide (blk_marked hw (by omega) (by omega) HXR_16.out)
  clear HXR_16
  have HOW_17 := hide (HOW_16.out.marked hw (by omega))
  clear HOW_16
  clear hw
  clear kR kR'
  have kR := Joins.cell_of_block HXR_17.out 0
  have kR' := Joins.cell_of_block HXR_17.out 1
  simp at kR kR'
  go_wp2_with fail
  refine (heldScale_any _ _ (lenV (soP x0 n0 x1 n1 v2) n0) _ (lenV (soP x0 n0 x1 n1 v2) n0) _ 1 _ hM hM (by omega) (by omega) HOR_17.out.1.sl HOR_17.out.2.1.sl).mono ?_
  rintro e w18 ⟨rfl, hb⟩
  have HB18 := hide (HB17.out.trans (hb.mono HB17.out.size))
  have hs18 : w17.heap.size ≤ w18.heap.size := hb.size
  have HXW_18 := hide (blk_below hb (by omega) HXW_17.out)
  clear HXW_17
  have HXR_18 := hide (blk_below hb (by omega) HXR_17.out)
  clear HXR_17
  have HOW_18 := hide (HOW_17.out.below hb)
  clear HOW_17
  have HOR_18 := hide (HOR_17.out.below hb)
  clear HOR_17
  clear hb
  clear kR kR'
  go_wp2_with fail
  refine (toIsW_any A0 n0 c0 x0 _ hn0 (HS0.out.below HB18.out)).mono ?_
  rintro e w19 ⟨gh0_, rfl, hg1, hg2, hb, ho⟩
  have HOh0__19 := hide ho
  clear ho hg1 hg2
  have HB19 := hide (HB18.out.trans (hb.mono HB18.out.size))
  have hs19 : w18.heap.size ≤ w19.heap.size := hb.size
  have HXW_19 := hide (blk_below hb (by omega) HXW_18.out)
  clear HXW_18
  have HXR_19 := hide (blk_below hb (by omega) HXR_18.out)
  clear HXR_18
  have HOW_19 := hide (HOW_18.out.below hb)
  clear HOW_18
  have HOR_19 := hide (HOR_18.out.below hb)
  clear HOR_18
  clear hb
  go_wp2_with fail
  refine (toIsW_any A1 n1 c1 x1 _ hn1 (HS1.out.below HB19.out)).mono ?_
  rintro e w20 ⟨gh1_, rfl, hg1, hg2, hb, ho⟩
  have HOh1__20 := hide ho
  clear ho hg1 hg2
  have HB20 := hide (HB19.out.trans (hb.mono HB19.out.size))
  have hs20 : w19.heap.size ≤ w20.heap.size := hb.size
  have HXW_20 := hide (blk_below hb (by omega) HXW_19.out)
  clear HXW_19
  have HXR_20 := hide (blk_below hb (by omega) HXR_19.out)
  clear HXR_19
  have HOW_20 := hide (HOW_19.out.below hb)
  clear HOW_19
  have HOR_20 := hide (HOR_19.out.below hb)
  clear HOR_19
  have HOh0__20 := hide (HOh0__19.out.below hb)
  clear HOh0__19
  clear hb
  go_wp2_with fail
  refine (implScaleOf_any _ n0 n0 x0 _ n1 n1 x1 v2 _ hm0 HOh0__20.out.sl hm1 HOh1__20.out.sl).mono ?_
  rintro e w21 ⟨Q, Qc, Q', Qc', rfl, ho, hb⟩
  have HOQ_21 := hide ho
  clear ho
  have HB21 := hide (HB20.out.trans (hb.mono HB20.out.size))
  have hs21 : w20.heap.size ≤ w21.heap.size := hb.size
  have HXW_21 := hide (blk_below hb (by omega) HXW_20.out)
  clear HXW_20
  have HXR_21 := hide (blk_below hb (by omega) HXR_20.out)
  clear HXR_20
  have HOW_21 := hide (HOW_20.out.below hb)
  clear HOW_20
  have HOR_21 := hide (HOR_20.out.below hb)
  clear HOR_20
  have HOh0__21 := hide (HOh0__20.out.below hb)
  clear HOh0__20
  have HOh1__21 := hide (HOh1__20.out.below hb)
  clear HOh1__20
  clear hb
  clear HOh0__21
  clear HOh1__21
  obtain ⟨w22, hwe⟩ : ∃ u, u = w21.alloc (.cells #[.slice Q (lenV (soP x0 n0 x1 n1 v2) n0) Qc, .slice Q' (lenV (soP x0 n0 x1 n1 v2) n0) Qc'] 30) := ⟨_, rfl⟩
  have hb : Below w21.heap.size w21 w22 := by rw [hwe]; exact (Below.refl _ _).alloc (Nat.le_refl _) _
  have HXQ_22 : Hid (w22.heap[w21.heap.size]? = some (.cells #[.slice Q (lenV (soP x0 n0 x1 n1 v2) n0) Qc, .slice Q' (lenV (soP x0 n0 x1 n1 v2) n0) Qc'] 30)) := by rw [hwe]; exact blocks1 w21 _
  have hsb22 : w21.heap.size + 1 ≤ w22.heap.size := by rw [hwe]; simp
  have HW := hide hwe
  clear hwe
  have HB22 := hide (HB21.out.trans (hb.mono HB21.out.size))
  have hs22 : w21.heap.size ≤ w22.heap.size := hb.size
  have HXW_22 := hide (blk_below hb (by omega) HXW_21.out)
  clear HXW_21
  have HXR_22 := hide (blk_below hb (by omega) HXR_21.out)
  clear HXR_21
  have HOW_22 := hide (HOW_21.out.below hb)
  clear HOW_21
  have HOR_22 := hide (HOR_21.out.below hb)
  clear HOR_21
  have HOQ_22 := hide (HOQ_21.out.below hb)
  clear HOQ_21
  clear hb
  have kQ := Joins.cell_of_block HXQ_22.out 0
  have kQ' := Joins.cell_of_block HXQ_22.out 1
  simp at kQ kQ'
  have iQ := kQ
  have iQ' := kQ'
  rw [HW.out] at iQ iQ'
  have kW := Joins.cell_of_block HXW_22.out 0
  have kW' := Joins.cell_of_block HXW_22.out 1
  simp at kW kW'
  have iW := kW
  have iW' := kW'
  rw [HW.out] at iW iW'
  go_wp2_with fail
  rw [← HW.out]
  clear HW
  clear iQ iQ' iW iW'
  refine (eqScale_any _ _ _ _ (lenV (soP x0 n0 x1 n1 v2) n0) _ (lenV (soP x0 n0 x1 n1 v2) n0) _ _ _ _ _ _ (by unfold maxLen; have := (show lenV (soP x0 n0 x1 n1 v2) n0 ≤ 1048576 from Nat.le_trans (lenV_le _ _) hn0); omega) (by unfold maxLen; have := (show lenV (soP x0 n0 x1 n1 v2) n0 ≤ 1048576 from Nat.le_trans (lenV_le _ _) hn0); omega) HOQ_22.out.1.sl HOQ_22.out.2.1.sl HOW_22.out.1.sl HOW_22.out.2.1.sl).mono ?_
  rintro e w23 ⟨rfl, hb⟩
  have HB23 := hide (HB22.out.trans (hb.mono HB22.out.size))
  have hs23 : w22.heap.size ≤ w23.heap.size := hb.size
  have HXW_23 := hide (blk_below hb (by omega) HXW_22.out)
  clear HXW_22
  have HXR_23 := hide (blk_below hb (by omega) HXR_22.out)
  clear HXR_22
  have HXQ_23 := hide (blk_below hb (by omega) HXQ_22.out)
  clear HXQ_22
  have HOW_23 := hide (HOW_22.out.below hb)
  clear HOW_22
  have HOR_23 := hide (HOR_22.out.below hb)
  clear HOR_22
  have HOQ_23 := hide (HOQ_22.out.below hb)
  clear HOQ_22
  clear hb
  clear kQ kQ' kW kW'
  have kR := Joins.cell_of_block HXR_23.out 0
  have kR' := Joins.cell_of_block HXR_23.out 1
  simp at kR kR'
  go_wp2_with fail
  refine (heldScale_any _ _ (lenV (soP x0 n0 x1 n1 v2) n0) _ (lenV (soP x0 n0 x1 n1 v2) n0) _ 1 _ hM hM (by omega) (by omega) HOR_23.out.1.sl HOR_23.out.2.1.sl).mono ?_
  rintro e w24 ⟨rfl, hb⟩
  have HB24 := hide (HB23.out.trans (hb.mono HB23.out.size))
  have hs24 : w23.heap.size ≤ w24.heap.size := hb.size
  have HXW_24 := hide (blk_below hb (by omega) HXW_23.out)
  clear HXW_23
  have HXR_24 := hide (blk_below hb (by omega) HXR_23.out)
  clear HXR_23
  have HXQ_24 := hide (blk_below hb (by omega) HXQ_23.out)
  clear HXQ_23
  have HOW_24 := hide (HOW_23.out.below hb)
  clear HOW_23
  have HOR_24 := hide (HOR_23.out.below hb)
  clear HOR_23
  have HOQ_24 := hide (HOQ_23.out.below hb)
  clear HOQ_23
  clear hb
  clear kR kR'
  go_wp2_with fail
  go_ret
  exact ⟨rfl, HB24.out⟩
end Go.Proofs.Ytbcajjpgpjadaaa
