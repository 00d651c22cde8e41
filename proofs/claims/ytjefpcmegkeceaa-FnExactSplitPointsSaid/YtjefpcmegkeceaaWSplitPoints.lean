/- The law FnExactSplitPoints, walked. -/
import Derived.Test.YtjefpcmegkeceaaSoi
import Derived.Test.YtjefpcmegkeceaaGs
import Derived.Test.YtjefpcmegkeceaaMk
import Derived.Test.YtjefpcmegkeceaaRow
namespace Go.Proofs.Ytjefpcmegkeceaa
open Go.RowKit Go.Dues
set_option maxRecDepth 100000 in
set_option maxHeartbeats 4000000 in
theorem lawSplitPoints_any (A0 : Option Addr) (n0 c0 : Nat) (x0 : Nat → Int) (A1 : Option Addr) (n1 c1 : Nat) (x1 : Nat → Int) (v2 : Int) (v3 : Int) (w : World) (hm0 : n0 ≤ maxLen) (hs0 : SL w A0 n0 (fun j => .int .i64 (x0 j))) (hm1 : n1 ≤ maxLen) (hs1 : SL w A1 n1 (fun j => .int .i64 (x1 j))) (wv2 : -9223372036854775808 ≤ v2 ∧ v2 ≤ 9223372036854775807) (wv3 : -9223372036854775808 ≤ v3 ∧ v3 ≤ 9223372036854775807) :
    Calls Try.prog 7 #[.slice A0 n0 c0, .slice A1 n1 c1, .int .i64 v2, .int .i64 v3] w fun e w' => e = .returned (.bool true) ∧ Below w.heap.size w w' := by
  have WV2 := hide wv2
  clear wv2
  have WV3 := hide wv3
  clear wv3
  unfold maxLen at hm0
  by_cases hbig0 : (1048576 : Int) < (n0 : Int)
  · clear hs0 hs1
    go_enter Try.func7, Try.ntmps7
    go_wp2
    go_ret
    exact ⟨rfl, Below.refl _ _⟩
  have hm0 : n0 ≤ maxLen := hm0
  have hn0 : n0 ≤ 1048576 := by omega
  unfold maxLen at hm1
  by_cases hbig1 : (1048576 : Int) < (n1 : Int)
  · clear hs0 hs1
    go_enter Try.func7, Try.ntmps7
    go_wp2
    go_ret
    exact ⟨rfl, Below.refl _ _⟩
  have hm1 : n1 ≤ maxLen := hm1
  have hn1 : n1 ≤ 1048576 := by omega
  have HS0 := hide hs0
  clear hs0
  have HS1 := hide hs1
  clear hs1
  obtain ⟨w0, hw0⟩ : ∃ u, u = w := ⟨_, rfl⟩
  have HB0 : Hid (Below w.heap.size w w0) := by rw [hw0]; exact Below.refl _ _
  have hs0 : w.heap.size ≤ w0.heap.size := by rw [hw0]; exact Nat.le_refl _
  have HW := hide hw0
  clear hw0
  go_enter Try.func7, Try.ntmps7
  go_wp2_with fail
  rw [← HW.out]
  clear HW
  refine (toIsW_any A0 n0 c0 x0 _ hn0 (HS0.out.below HB0.out)).mono ?_
  rintro e w1 ⟨gs0, rfl, hg1, hg2, hb, ho⟩
  have HOs0_1 := hide ho
  clear ho hg1 hg2
  have HB1 := hide (HB0.out.trans (hb.mono HB0.out.size))
  have hs1 : w0.heap.size ≤ w1.heap.size := hb.size
  clear hb
  go_wp2_with fail
  refine (toIsW_any A1 n1 c1 x1 _ hn1 (HS1.out.below HB1.out)).mono ?_
  rintro e w2 ⟨gs1, rfl, hg1, hg2, hb, ho⟩
  have HOs1_2 := hide ho
  clear ho hg1 hg2
  have HB2 := hide (HB1.out.trans (hb.mono HB1.out.size))
  have hs2 : w1.heap.size ≤ w2.heap.size := hb.size
  have HOs0_2 := hide (HOs0_1.out.below hb)
  clear HOs0_1
  clear hb
  go_wp2_with fail
  refine (specSplitPoints_any _ n0 n0 x0 _ n1 n1 x1 v2 v3 _ hm0 HOs0_2.out.sl hm1 HOs1_2.out.sl).mono ?_
  intro e w3 hgave
  obtain ⟨W, Wc, W', Wc', lW, hW, lW', hW', rfl, ho, ho', e1W, e2W, e3W, e4W, e5W, e6W, e7W, hb⟩ := gave2_split7 hgave
  clear hgave
  have HOW_3 := hide ho
  have HOW'_3 := hide ho'
  clear ho ho'
  have HB3 := hide (HB2.out.trans (hb.mono HB2.out.size))
  have hs3 : w2.heap.size ≤ w3.heap.size := hb.size
  have HOs0_3 := hide (HOs0_2.out.below hb)
  clear HOs0_2
  have HOs1_3 := hide (HOs1_2.out.below hb)
  clear HOs1_2
  clear hb
  clear HOs0_3
  clear HOs1_3
  go_wp2_with fail
  refine (toIsW_any A0 n0 c0 x0 _ hn0 (HS0.out.below HB3.out)).mono ?_
  rintro e w4 ⟨gx0_, rfl, hg1, hg2, hb, ho⟩
  have HOx0__4 := hide ho
  clear ho hg1 hg2
  have HB4 := hide (HB3.out.trans (hb.mono HB3.out.size))
  have hs4 : w3.heap.size ≤ w4.heap.size := hb.size
  have HOW_4 := hide (HOW_3.out.below hb)
  clear HOW_3
  have HOW'_4 := hide (HOW'_3.out.below hb)
  clear HOW'_3
  clear hb
  go_wp2_with fail
  refine (toIsW_any A1 n1 c1 x1 _ hn1 (HS1.out.below HB4.out)).mono ?_
  rintro e w5 ⟨gx1_, rfl, hg1, hg2, hb, ho⟩
  have HOx1__5 := hide ho
  clear ho hg1 hg2
  have HB5 := hide (HB4.out.trans (hb.mono HB4.out.size))
  have hs5 : w4.heap.size ≤ w5.heap.size := hb.size
  have HOW_5 := hide (HOW_4.out.below hb)
  clear HOW_4
  have HOW'_5 := hide (HOW'_4.out.below hb)
  clear HOW'_4
  have HOx0__5 := hide (HOx0__4.out.below hb)
  clear HOx0__4
  clear hb
  go_wp2_with fail
  refine (implSplitPoints_any _ n0 n0 x0 _ n1 n1 x1 v2 v3 _ hm0 HOx0__5.out.sl hm1 HOx1__5.out.sl).mono ?_
  intro e w6 hgave
  obtain ⟨R, Rc, R', Rc', lR, hR, lR', hR', rfl, ho, ho', e1R, e2R, e3R, e4R, e5R, e6R, e7R, hb⟩ := gave2_split7 hgave
  clear hgave
  have HOR_6 := hide ho
  have HOR'_6 := hide ho'
  clear ho ho'
  have HB6 := hide (HB5.out.trans (hb.mono HB5.out.size))
  have hs6 : w5.heap.size ≤ w6.heap.size := hb.size
  have HOW_6 := hide (HOW_5.out.below hb)
  clear HOW_5
  have HOW'_6 := hide (HOW'_5.out.below hb)
  clear HOW'_5
  have HOx0__6 := hide (HOx0__5.out.below hb)
  clear HOx0__5
  have HOx1__6 := hide (HOx1__5.out.below hb)
  clear HOx1__5
  clear hb
  go_wp2_with fail
  refine (eqIs_any _ _ (lenV (soP x0 n0 x1 n1 v2 v3) n0) _ _ _ _ (by unfold maxLen; have := (show lenV (soP x0 n0 x1 n1 v2 v3) n0 ≤ 1048576 from Nat.le_trans (lenV_le _ _) hn0); omega) HOR_6.out.sl HOW_6.out.sl).mono ?_
  rintro e w7 ⟨rfl, q, hq⟩
  have hb : Below w6.heap.size w6 w7 := by rw [hq]; exact bel_drewN (Below.refl _ _) _
  clear hq
  have HB7 := hide (HB6.out.trans (hb.mono HB6.out.size))
  have hs7 : w6.heap.size ≤ w7.heap.size := hb.size
  have HOW_7 := hide (HOW_6.out.below hb)
  clear HOW_6
  have HOW'_7 := hide (HOW'_6.out.below hb)
  clear HOW'_6
  have HOx0__7 := hide (HOx0__6.out.below hb)
  clear HOx0__6
  have HOx1__7 := hide (HOx1__6.out.below hb)
  clear HOx1__6
  have HOR_7 := hide (HOR_6.out.below hb)
  clear HOR_6
  have HOR'_7 := hide (HOR'_6.out.below hb)
  clear HOR'_6
  clear hb
  go_wp2_with fail
  refine (eqIs_any _ _ (lenV (soP x0 n0 x1 n1 v2 v3) n0) _ _ _ _ (by unfold maxLen; have := (show lenV (soP x0 n0 x1 n1 v2 v3) n0 ≤ 1048576 from Nat.le_trans (lenV_le _ _) hn0); omega) HOR'_7.out.sl HOW'_7.out.sl).mono ?_
  rintro e w8 ⟨rfl, q, hq⟩
  have hb : Below w7.heap.size w7 w8 := by rw [hq]; exact bel_drewN (Below.refl _ _) _
  clear hq
  have HB8 := hide (HB7.out.trans (hb.mono HB7.out.size))
  have hs8 : w7.heap.size ≤ w8.heap.size := hb.size
  have HOW_8 := hide (HOW_7.out.below hb)
  clear HOW_7
  have HOW'_8 := hide (HOW'_7.out.below hb)
  clear HOW'_7
  have HOx0__8 := hide (HOx0__7.out.below hb)
  clear HOx0__7
  have HOx1__8 := hide (HOx1__7.out.below hb)
  clear HOx1__7
  have HOR_8 := hide (HOR_7.out.below hb)
  clear HOR_7
  have HOR'_8 := hide (HOR'_7.out.below hb)
  clear HOR'_7
  clear hb
  go_wp2_with fail
  refine (toIsW_any A0 n0 c0 x0 _ hn0 (HS0.out.below HB8.out)).mono ?_
  rintro e w9 ⟨gt, rfl, hg1, hg2, hb, ho⟩
  have HOt_9 := hide ho
  clear ho hg1 hg2
  have HB9 := hide (HB8.out.trans (hb.mono HB8.out.size))
  have hs9 : w8.heap.size ≤ w9.heap.size := hb.size
  have HOW_9 := hide (HOW_8.out.below hb)
  clear HOW_8
  have HOW'_9 := hide (HOW'_8.out.below hb)
  clear HOW'_8
  have HOx0__9 := hide (HOx0__8.out.below hb)
  clear HOx0__8
  have HOx1__9 := hide (HOx1__8.out.below hb)
  clear HOx1__8
  have HOR_9 := hide (HOR_8.out.below hb)
  clear HOR_8
  have HOR'_9 := hide (HOR'_8.out.below hb)
  clear HOR'_8
  clear hb
  go_wp2_with fail
  refine (eqIs_any _ _ n0 _ _ _ _ hm0 HOx0__9.out.sl HOt_9.out.sl).mono ?_
  rintro e w10 ⟨rfl, q, hq⟩
  have hb : Below w9.heap.size w9 w10 := by rw [hq]; exact bel_drewN (Below.refl _ _) _
  clear hq
  have HB10 := hide (HB9.out.trans (hb.mono HB9.out.size))
  have hs10 : w9.heap.size ≤ w10.heap.size := hb.size
  have HOW_10 := hide (HOW_9.out.below hb)
  clear HOW_9
  have HOW'_10 := hide (HOW'_9.out.below hb)
  clear HOW'_9
  have HOx0__10 := hide (HOx0__9.out.below hb)
  clear HOx0__9
  have HOx1__10 := hide (HOx1__9.out.below hb)
  clear HOx1__9
  have HOR_10 := hide (HOR_9.out.below hb)
  clear HOR_9
  have HOR'_10 := hide (HOR'_9.out.below hb)
  clear HOR'_9
  have HOt_10 := hide (HOt_9.out.below hb)
  clear HOt_9
  clear hb
  clear HOt_10
  go_wp2_with fail
  refine (toIsW_any A1 n1 c1 x1 _ hn1 (HS1.out.below HB10.out)).mono ?_
  rintro e w11 ⟨gt, rfl, hg1, hg2, hb, ho⟩
  have HOt_11 := hide ho
  clear ho hg1 hg2
  have HB11 := hide (HB10.out.trans (hb.mono HB10.out.size))
  have hs11 : w10.heap.size ≤ w11.heap.size := hb.size
  have HOW_11 := hide (HOW_10.out.below hb)
  clear HOW_10
  have HOW'_11 := hide (HOW'_10.out.below hb)
  clear HOW'_10
  have HOx0__11 := hide (HOx0__10.out.below hb)
  clear HOx0__10
  have HOx1__11 := hide (HOx1__10.out.below hb)
  clear HOx1__10
  have HOR_11 := hide (HOR_10.out.below hb)
  clear HOR_10
  have HOR'_11 := hide (HOR'_10.out.below hb)
  clear HOR'_10
  clear hb
  go_wp2_with fail
  refine (eqIs_any _ _ n1 _ _ _ _ hm1 HOx1__11.out.sl HOt_11.out.sl).mono ?_
  rintro e w12 ⟨rfl, q, hq⟩
  have hb : Below w11.heap.size w11 w12 := by rw [hq]; exact bel_drewN (Below.refl _ _) _
  clear hq
  have HB12 := hide (HB11.out.trans (hb.mono HB11.out.size))
  have hs12 : w11.heap.size ≤ w12.heap.size := hb.size
  have HOW_12 := hide (HOW_11.out.below hb)
  clear HOW_11
  have HOW'_12 := hide (HOW'_11.out.below hb)
  clear HOW'_11
  have HOx0__12 := hide (HOx0__11.out.below hb)
  clear HOx0__11
  have HOx1__12 := hide (HOx1__11.out.below hb)
  clear HOx1__11
  have HOR_12 := hide (HOR_11.out.below hb)
  clear HOR_11
  have HOR'_12 := hide (HOR'_11.out.below hb)
  clear HOR'_11
  have HOt_12 := hide (HOt_11.out.below hb)
  clear HOt_11
  clear hb
  clear HOt_12
  go_wp2_with fail
  refine (markIs_any _ n0 _ w3.heap.size w4.heap.size _ (1) _ (hn0) (by omega) (by omega) HOx0__12.out).mono ?_
  rintro e w13 ⟨rfl, ho, hw⟩
  have HOx0__13 := hide ho
  clear ho HOx0__12
  replace hw : Marked w3.heap.size w4.heap.size w12 w13 := marked_of hw
  have hs13 : w12.heap.size ≤ w13.heap.size := hw.size
  have HB13 := hide (HB12.out.trans (hw.bel (B := w.heap.size) (by omega) (by omega)))
  have HOW_13 := hide (HOW_12.out.marked hw (by omega))
  clear HOW_12
  have HOW'_13 := hide (HOW'_12.out.marked hw (by omega))
  clear HOW'_12
  have HOx1__13 := hide (HOx1__12.out.marked hw (by omega))
  clear HOx1__12
  have HOR_13 := hide (HOR_12.out.marked hw (by omega))
  clear HOR_12
  have HOR'_13 := hide (HOR'_12.out.marked hw (by omega))
  clear HOR'_12
  clear hw
  go_wp2_with fail
  refine (markIs_any _ n1 _ w4.heap.size w5.heap.size _ (1 + n0) _ (hn1) (by omega) (by omega) HOx1__13.out).mono ?_
  rintro e w14 ⟨rfl, ho, hw⟩
  have HOx1__14 := hide ho
  clear ho HOx1__13
  replace hw : Marked w4.heap.size w5.heap.size w13 w14 := marked_of hw
  have hs14 : w13.heap.size ≤ w14.heap.size := hw.size
  have HB14 := hide (HB13.out.trans (hw.bel (B := w.heap.size) (by omega) (by omega)))
  have HOW_14 := hide (HOW_13.out.marked hw (by omega))
  clear HOW_13
  have HOW'_14 := hide (HOW'_13.out.marked hw (by omega))
  clear HOW'_13
  have HOx0__14 := hide (HOx0__13.out.marked hw (by omega))
  clear HOx0__13
  have HOR_14 := hide (HOR_13.out.marked hw (by omega))
  clear HOR_13
  have HOR'_14 := hide (HOR'_13.out.marked hw (by omega))
  clear HOR'_13
  clear hw
  clear HOx0__14
  clear HOx1__14
  go_wp2_with fail
  refine (eqIs_any _ _ (lenV (soP x0 n0 x1 n1 v2 v3) n0) _ _ _ _ (by unfold maxLen; have := (show lenV (soP x0 n0 x1 n1 v2 v3) n0 ≤ 1048576 from Nat.le_trans (lenV_le _ _) hn0); omega) HOR_14.out.sl HOW_14.out.sl).mono ?_
  rintro e w15 ⟨rfl, q, hq⟩
  have hb : Below w14.heap.size w14 w15 := by rw [hq]; exact bel_drewN (Below.refl _ _) _
  clear hq
  have HB15 := hide (HB14.out.trans (hb.mono HB14.out.size))
  have hs15 : w14.heap.size ≤ w15.heap.size := hb.size
  have HOW_15 := hide (HOW_14.out.below hb)
  clear HOW_14
  have HOW'_15 := hide (HOW'_14.out.below hb)
  clear HOW'_14
  have HOR_15 := hide (HOR_14.out.below hb)
  clear HOR_14
  have HOR'_15 := hide (HOR'_14.out.below hb)
  clear HOR'_14
  clear hb
  go_wp2_with fail
  refine (eqIs_any _ _ (lenV (soP x0 n0 x1 n1 v2 v3) n0) _ _ _ _ (by unfold maxLen; have := (show lenV (soP x0 n0 x1 n1 v2 v3) n0 ≤ 1048576 from Nat.le_trans (lenV_le _ _) hn0); omega) HOR'_15.out.sl HOW'_15.out.sl).mono ?_
  rintro e w16 ⟨rfl, q, hq⟩
  have hb : Below w15.heap.size w15 w16 := by rw [hq]; exact bel_drewN (Below.refl _ _) _
  clear hq
  have HB16 := hide (HB15.out.trans (hb.mono HB15.out.size))
  have hs16 : w15.heap.size ≤ w16.heap.size := hb.size
  have HOW_16 := hide (HOW_15.out.below hb)
  clear HOW_15
  have HOW'_16 := hide (HOW'_15.out.below hb)
  clear HOW'_15
  have HOR_16 := hide (HOR_15.out.below hb)
  clear HOR_15
  have HOR'_16 := hide (HOR'_15.out.below hb)
  clear HOR'_15
  clear hb
  have hM0 := (show lenV (soP x0 n0 x1 n1 v2 v3) n0 ≤ 1048576 from Nat.le_trans (lenV_le _ _) hn0)
  have hM1 := (show lenV (soP x0 n0 x1 n1 v2 v3) n0 ≤ 1048576 from Nat.le_trans (lenV_le _ _) hn0)
  go_wp2_with fail
  refine (markIs_any _ (lenV (soP x0 n0 x1 n1 v2 v3) n0) _ lR hR _ (1) _ (hM0) (by omega) (by omega) HOR_16.out).mono ?_
  rintro e w17 ⟨rfl, ho, hw⟩
  have HOR_17 := hide ho
  clear ho HOR_16
  replace hw : Marked lR hR w16 w17 := marked_of hw
  have hs17 : w16.heap.size ≤ w17.heap.size := hw.size
  have HB17 := hide (HB16.out.trans (hw.bel (B := w.heap.size) (by omega) (by omega)))
  have HOW_17 := hide (HOW_16.out.marked hw (by omega))
  clear HOW_16
  have HOW'_17 := hide (HOW'_16.out.marked hw (by omega))
  clear HOW'_16
  have HOR'_17 := hide (HOR'_16.out.marked hw (by omega))
  clear HOR'_16
  clear hw
  go_wp2_with fail
  refine (markIs_any _ (lenV (soP x0 n0 x1 n1 v2 v3) n0) _ lR' hR' _ (1 + (lenV (soP x0 n0 x1 n1 v2 v3) n0)) _ (hM1) (by omega) (by omega) HOR'_17.out).mono ?_
  rintro e w18 ⟨rfl, ho, hw⟩
  have HOR'_18 := hide ho
  clear ho HOR'_17
  replace hw : Marked lR' hR' w17 w18 := marked_of hw
  have hs18 : w17.heap.size ≤ w18.heap.size := hw.size
  have HB18 := hide (HB17.out.trans (hw.bel (B := w.heap.size) (by omega) (by omega)))
  have HOW_18 := hide (HOW_17.out.marked hw (by omega))
  clear HOW_17
  have HOW'_18 := hide (HOW'_17.out.marked hw (by omega))
  clear HOW'_17
  have HOR_18 := hide (HOR_17.out.marked hw (by omega))
  clear HOR_17
  clear hw
  go_wp2_with fail
  refine (heldIs_any _ (lenV (soP x0 n0 x1 n1 v2 v3) n0) _ (1) _ hM0 (by omega) (by omega) HOR_18.out.sl).mono ?_
  rintro e w19 ⟨rfl, q, hq⟩
  have hb : Below w18.heap.size w18 w19 := by rw [hq]; exact bel_drewN (Below.refl _ _) _
  clear hq
  have HB19 := hide (HB18.out.trans (hb.mono HB18.out.size))
  have hs19 : w18.heap.size ≤ w19.heap.size := hb.size
  have HOW_19 := hide (HOW_18.out.below hb)
  clear HOW_18
  have HOW'_19 := hide (HOW'_18.out.below hb)
  clear HOW'_18
  have HOR_19 := hide (HOR_18.out.below hb)
  clear HOR_18
  have HOR'_19 := hide (HOR'_18.out.below hb)
  clear HOR'_18
  clear hb
  go_wp2_with fail
  refine (heldIs_any _ (lenV (soP x0 n0 x1 n1 v2 v3) n0) _ (1 + (lenV (soP x0 n0 x1 n1 v2 v3) n0)) _ hM1 (by omega) (by omega) HOR'_19.out.sl).mono ?_
  rintro e w20 ⟨rfl, q, hq⟩
  have hb : Below w19.heap.size w19 w20 := by rw [hq]; exact bel_drewN (Below.refl _ _) _
  clear hq
  have HB20 := hide (HB19.out.trans (hb.mono HB19.out.size))
  have hs20 : w19.heap.size ≤ w20.heap.size := hb.size
  have HOW_20 := hide (HOW_19.out.below hb)
  clear HOW_19
  have HOW'_20 := hide (HOW'_19.out.below hb)
  clear HOW'_19
  have HOR_20 := hide (HOR_19.out.below hb)
  clear HOR_19
  have HOR'_20 := hide (HOR'_19.out.below hb)
  clear HOR'_19
  clear hb
  go_wp2_with fail
  refine (toIsW_any A0 n0 c0 x0 _ hn0 (HS0.out.below HB20.out)).mono ?_
  rintro e w21 ⟨gh0_, rfl, hg1, hg2, hb, ho⟩
  have HOh0__21 := hide ho
  clear ho hg1 hg2
  have HB21 := hide (HB20.out.trans (hb.mono HB20.out.size))
  have hs21 : w20.heap.size ≤ w21.heap.size := hb.size
  have HOW_21 := hide (HOW_20.out.below hb)
  clear HOW_20
  have HOW'_21 := hide (HOW'_20.out.below hb)
  clear HOW'_20
  have HOR_21 := hide (HOR_20.out.below hb)
  clear HOR_20
  have HOR'_21 := hide (HOR'_20.out.below hb)
  clear HOR'_20
  clear hb
  go_wp2_with fail
  refine (toIsW_any A1 n1 c1 x1 _ hn1 (HS1.out.below HB21.out)).mono ?_
  rintro e w22 ⟨gh1_, rfl, hg1, hg2, hb, ho⟩
  have HOh1__22 := hide ho
  clear ho hg1 hg2
  have HB22 := hide (HB21.out.trans (hb.mono HB21.out.size))
  have hs22 : w21.heap.size ≤ w22.heap.size := hb.size
  have HOW_22 := hide (HOW_21.out.below hb)
  clear HOW_21
  have HOW'_22 := hide (HOW'_21.out.below hb)
  clear HOW'_21
  have HOR_22 := hide (HOR_21.out.below hb)
  clear HOR_21
  have HOR'_22 := hide (HOR'_21.out.below hb)
  clear HOR'_21
  have HOh0__22 := hide (HOh0__21.out.below hb)
  clear HOh0__21
  clear hb
  go_wp2_with fail
  refine (implSplitPoints_any _ n0 n0 x0 _ n1 n1 x1 v2 v3 _ hm0 HOh0__22.out.sl hm1 HOh1__22.out.sl).mono ?_
  intro e w23 hgave
  obtain ⟨Q, Qc, Q', Qc', lQ, hQ, lQ', hQ', rfl, ho, ho', e1Q, e2Q, e3Q, e4Q, e5Q, e6Q, e7Q, hb⟩ := gave2_split7 hgave
  clear hgave
  have HOQ_23 := hide ho
  have HOQ'_23 := hide ho'
  clear ho ho'
  have HB23 := hide (HB22.out.trans (hb.mono HB22.out.size))
  have hs23 : w22.heap.size ≤ w23.heap.size := hb.size
  have HOW_23 := hide (HOW_22.out.below hb)
  clear HOW_22
  have HOW'_23 := hide (HOW'_22.out.below hb)
  clear HOW'_22
  have HOR_23 := hide (HOR_22.out.below hb)
  clear HOR_22
  have HOR'_23 := hide (HOR'_22.out.below hb)
  clear HOR'_22
  have HOh0__23 := hide (HOh0__22.out.below hb)
  clear HOh0__22
  have HOh1__23 := hide (HOh1__22.out.below hb)
  clear HOh1__22
  clear hb
  clear HOh0__23
  clear HOh1__23
  go_wp2_with fail
  refine (eqIs_any _ _ (lenV (soP x0 n0 x1 n1 v2 v3) n0) _ _ _ _ (by unfold maxLen; have := (show lenV (soP x0 n0 x1 n1 v2 v3) n0 ≤ 1048576 from Nat.le_trans (lenV_le _ _) hn0); omega) HOQ_23.out.sl HOW_23.out.sl).mono ?_
  rintro e w24 ⟨rfl, q, hq⟩
  have hb : Below w23.heap.size w23 w24 := by rw [hq]; exact bel_drewN (Below.refl _ _) _
  clear hq
  have HB24 := hide (HB23.out.trans (hb.mono HB23.out.size))
  have hs24 : w23.heap.size ≤ w24.heap.size := hb.size
  have HOW_24 := hide (HOW_23.out.below hb)
  clear HOW_23
  have HOW'_24 := hide (HOW'_23.out.below hb)
  clear HOW'_23
  have HOR_24 := hide (HOR_23.out.below hb)
  clear HOR_23
  have HOR'_24 := hide (HOR'_23.out.below hb)
  clear HOR'_23
  have HOQ_24 := hide (HOQ_23.out.below hb)
  clear HOQ_23
  have HOQ'_24 := hide (HOQ'_23.out.below hb)
  clear HOQ'_23
  clear hb
  go_wp2_with fail
  refine (eqIs_any _ _ (lenV (soP x0 n0 x1 n1 v2 v3) n0) _ _ _ _ (by unfold maxLen; have := (show lenV (soP x0 n0 x1 n1 v2 v3) n0 ≤ 1048576 from Nat.le_trans (lenV_le _ _) hn0); omega) HOQ'_24.out.sl HOW'_24.out.sl).mono ?_
  rintro e w25 ⟨rfl, q, hq⟩
  have hb : Below w24.heap.size w24 w25 := by rw [hq]; exact bel_drewN (Below.refl _ _) _
  clear hq
  have HB25 := hide (HB24.out.trans (hb.mono HB24.out.size))
  have hs25 : w24.heap.size ≤ w25.heap.size := hb.size
  have HOW_25 := hide (HOW_24.out.below hb)
  clear HOW_24
  have HOW'_25 := hide (HOW'_24.out.below hb)
  clear HOW'_24
  have HOR_25 := hide (HOR_24.out.below hb)
  clear HOR_24
  have HOR'_25 := hide (HOR'_24.out.below hb)
  clear HOR'_24
  have HOQ_25 := hide (HOQ_24.out.below hb)
  clear HOQ_24
  have HOQ'_25 := hide (HOQ'_24.out.below hb)
  clear HOQ'_24
  clear hb
  go_wp2_with fail
  refine (heldIs_any _ (lenV (soP x0 n0 x1 n1 v2 v3) n0) _ (1) _ hM0 (by omega) (by omega) HOR_25.out.sl).mono ?_
  rintro e w26 ⟨rfl, q, hq⟩
  have hb : Below w25.heap.size w25 w26 := by rw [hq]; exact bel_drewN (Below.refl _ _) _
  clear hq
  have HB26 := hide (HB25.out.trans (hb.mono HB25.out.size))
  have hs26 : w25.heap.size ≤ w26.heap.size := hb.size
  have HOW_26 := hide (HOW_25.out.below hb)
  clear HOW_25
  have HOW'_26 := hide (HOW'_25.out.below hb)
  clear HOW'_25
  have HOR_26 := hide (HOR_25.out.below hb)
  clear HOR_25
  have HOR'_26 := hide (HOR'_25.out.below hb)
  clear HOR'_25
  have HOQ_26 := hide (HOQ_25.out.below hb)
  clear HOQ_25
  have HOQ'_26 := hide (HOQ'_25.out.below hb)
  clear HOQ'_25
  clear hb
  go_wp2_with fail
  refine (heldIs_any _ (lenV (soP x0 n0 x1 n1 v2 v3) n0) _ (1 + (lenV (soP x0 n0 x1 n1 v2 v3) n0)) _ hM1 (by omega) (by omega) HOR'_26.out.sl).mono ?_
  rintro e w27 ⟨rfl, q, hq⟩
  have hb : Below w26.heap.size w26 w27 := by rw [hq]; exact bel_drewN (Below.refl _ _) _
  clear hq
  have HB27 := hide (HB26.out.trans (hb.mono HB26.out.size))
  have hs27 : w26.heap.size ≤ w27.heap.size := hb.size
  have HOW_27 := hide (HOW_26.out.below hb)
  clear HOW_26
  have HOW'_27 := hide (HOW'_26.out.below hb)
  clear HOW'_26
  have HOR_27 := hide (HOR_26.out.below hb)
  clear HOR_26
  have HOR'_27 := hide (HOR'_26.out.below hb)
  clear HOR'_26
  have HOQ_27 := hide (HOQ_26.out.below hb)
  clear HOQ_26
  have HOQ'_27 := hide (HOQ'_26.out.below hb)
  clear HOQ'_26
  clear hb
  go_wp2_with fail
  go_ret
  exact ⟨rfl, HB27.out⟩
end Go.Proofs.Ytjefpcmegkeceaa
