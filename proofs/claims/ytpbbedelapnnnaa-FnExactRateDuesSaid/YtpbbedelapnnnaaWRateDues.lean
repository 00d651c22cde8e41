/- The law FnExactRateDues, walked. -/
import Derived.Test.YtpbbedelapnnnaaRj9
import Derived.Test.YtpbbedelapnnnaaMk
import Derived.Test.YtpbbedelapnnnaaRow
namespace Go.Proofs.Ytpbbedelapnnnaa
open Go.RowKit Go.Dues
set_option maxRecDepth 100000 in
set_option maxHeartbeats 4000000 in
theorem lawRateDues_any (A0 : Option Addr) (n0 c0 : Nat) (x0 : Nat → Int) (A1 : Option Addr) (n1 c1 : Nat) (x1 : Nat → Int) (A2 : Option Addr) (n2 c2 : Nat) (x2 : Nat → Int) (v3 : Int) (w : World) (hm0 : n0 ≤ maxLen) (hs0 : SL w A0 n0 (fun j => .int .i64 (x0 j))) (hm1 : n1 ≤ maxLen) (hs1 : SL w A1 n1 (fun j => .int .i64 (x1 j))) (hm2 : n2 ≤ maxLen) (hs2 : SL w A2 n2 (fun j => .int .i64 (x2 j))) (wv3 : -9223372036854775808 ≤ v3 ∧ v3 ≤ 9223372036854775807) :
    Calls Try.prog 8 #[.slice A0 n0 c0, .slice A1 n1 c1, .slice A2 n2 c2, .int .i64 v3] w fun e w' => e = .returned (.bool true) ∧ Below w.heap.size w w' := by
  have WV3 := hide wv3
  clear wv3
  unfold maxLen at hm0
  by_cases hbig0 : (1048576 : Int) < (n0 : Int)
  · clear hs0 hs1 hs2
    go_enter Try.func8, Try.ntmps8
    go_wp2
    go_ret
    exact ⟨rfl, Below.refl _ _⟩
  have hm0 : n0 ≤ maxLen := hm0
  have hn0 : n0 ≤ 1048576 := by omega
  unfold maxLen at hm1
  by_cases hbig1 : (1048576 : Int) < (n1 : Int)
  · clear hs0 hs1 hs2
    go_enter Try.func8, Try.ntmps8
    go_wp2
    go_ret
    exact ⟨rfl, Below.refl _ _⟩
  have hm1 : n1 ≤ maxLen := hm1
  have hn1 : n1 ≤ 1048576 := by omega
  unfold maxLen at hm2
  by_cases hbig2 : (1048576 : Int) < (n2 : Int)
  · clear hs0 hs1 hs2
    go_enter Try.func8, Try.ntmps8
    go_wp2
    go_ret
    exact ⟨rfl, Below.refl _ _⟩
  have hm2 : n2 ≤ maxLen := hm2
  have hn2 : n2 ≤ 1048576 := by omega
  have HS0 := hide hs0
  clear hs0
  have HS1 := hide hs1
  clear hs1
  have HS2 := hide hs2
  clear hs2
  obtain ⟨w0, hw0⟩ : ∃ u, u = w := ⟨_, rfl⟩
  have HB0 : Hid (Below w.heap.size w w0) := by rw [hw0]; exact Below.refl _ _
  have hs0 : w.heap.size ≤ w0.heap.size := by rw [hw0]; exact Nat.le_refl _
  have HW := hide hw0
  clear hw0
  go_enter Try.func8, Try.ntmps8
  go_wp2_with fail
  rw [← HW.out]
  clear HW
  refine (toIsW_any A0 n0 c0 x0 _ hn0 (HS0.out.below HB0.out)).mono ?_
  rintro e w1 ⟨gs0, rfl, hg1, hg2, hb, ho⟩
  have HOs0_1 := hide ho
  clear ho hg1 hg2
  have HB1 := hide (HB0.out.trans (hb.mono HB0.out.size))
  have hs1 : w0.heap.size ≤ w1.heap.size := hb.size
  clear hb
  go_wp2_with fail
  refine (toIsW_any A1 n1 c1 x1 _ hn1 (HS1.out.below HB1.out)).mono ?_
  rintro e w2 ⟨gs1, rfl, hg1, hg2, hb, ho⟩
  have HOs1_2 := hide ho
  clear ho hg1 hg2
  have HB2 := hide (HB1.out.trans (hb.mono HB1.out.size))
  have hs2 : w1.heap.size ≤ w2.heap.size := hb.size
  have HOs0_2 := hide (HOs0_1.out.below hb)
  clear HOs0_1
  clear hb
  go_wp2_with fail
  refine (toIsW_any A2 n2 c2 x2 _ hn2 (HS2.out.below HB2.out)).mono ?_
  rintro e w3 ⟨gs2, rfl, hg1, hg2, hb, ho⟩
  have HOs2_3 := hide ho
  clear ho hg1 hg2
  have HB3 := hide (HB2.out.trans (hb.mono HB2.out.size))
  have hs3 : w2.heap.size ≤ w3.heap.size := hb.size
  have HOs0_3 := hide (HOs0_2.out.below hb)
  clear HOs0_2
  have HOs1_3 := hide (HOs1_2.out.below hb)
  clear HOs1_2
  clear hb
  go_wp2_with fail
  refine (specRateDues_any _ n0 n0 x0 _ n1 n1 x1 _ n2 n2 x2 v3 _ hm0 HOs0_3.out.sl hm1 HOs1_3.out.sl hm2 HOs2_3.out.sl).mono ?_
  rintro e w4 ⟨W, Wc, rfl, ho, hb⟩
  have HOW_4 := hide ho
  clear ho
  have HB4 := hide (HB3.out.trans (hb.mono HB3.out.size))
  have hs4 : w3.heap.size ≤ w4.heap.size := hb.size
  have HOs0_4 := hide (HOs0_3.out.below hb)
  clear HOs0_3
  have HOs1_4 := hide (HOs1_3.out.below hb)
  clear HOs1_3
  have HOs2_4 := hide (HOs2_3.out.below hb)
  clear HOs2_3
  clear hb
  clear HOs0_4
  clear HOs1_4
  clear HOs2_4
  go_wp2_with fail
  refine (toIsW_any A0 n0 c0 x0 _ hn0 (HS0.out.below HB4.out)).mono ?_
  rintro e w5 ⟨gx0_, rfl, hg1, hg2, hb, ho⟩
  have HOx0__5 := hide ho
  clear ho hg1 hg2
  have HB5 := hide (HB4.out.trans (hb.mono HB4.out.size))
  have hs5 : w4.heap.size ≤ w5.heap.size := hb.size
  have HOW_5 := hide (HOW_4.out.below hb)
  clear HOW_4
  clear hb
  go_wp2_with fail
  refine (toIsW_any A1 n1 c1 x1 _ hn1 (HS1.out.below HB5.out)).mono ?_
  rintro e w6 ⟨gx1_, rfl, hg1, hg2, hb, ho⟩
  have HOx1__6 := hide ho
  clear ho hg1 hg2
  have HB6 := hide (HB5.out.trans (hb.mono HB5.out.size))
  have hs6 : w5.heap.size ≤ w6.heap.size := hb.size
  have HOW_6 := hide (HOW_5.out.below hb)
  clear HOW_5
  have HOx0__6 := hide (HOx0__5.out.below hb)
  clear HOx0__5
  clear hb
  go_wp2_with fail
  refine (toIsW_any A2 n2 c2 x2 _ hn2 (HS2.out.below HB6.out)).mono ?_
  rintro e w7 ⟨gx2_, rfl, hg1, hg2, hb, ho⟩
  have HOx2__7 := hide ho
  clear ho hg1 hg2
  have HB7 := hide (HB6.out.trans (hb.mono HB6.out.size))
  have hs7 : w6.heap.size ≤ w7.heap.size := hb.size
  have HOW_7 := hide (HOW_6.out.below hb)
  clear HOW_6
  have HOx0__7 := hide (HOx0__6.out.below hb)
  clear HOx0__6
  have HOx1__7 := hide (HOx1__6.out.below hb)
  clear HOx1__6
  clear hb
  go_wp2_with fail
  refine (implRateDues_any _ n0 n0 x0 _ n1 n1 x1 _ n2 n2 x2 v3 _ hm0 HOx0__7.out.sl hm1 HOx1__7.out.sl hm2 HOx2__7.out.sl).mono ?_
  rintro e w8 ⟨R, Rc, rfl, ho, hb⟩
  have HOR_8 := hide ho
  clear ho
  have HB8 := hide (HB7.out.trans (hb.mono HB7.out.size))
  have hs8 : w7.heap.size ≤ w8.heap.size := hb.size
  have HOW_8 := hide (HOW_7.out.below hb)
  clear HOW_7
  have HOx0__8 := hide (HOx0__7.out.below hb)
  clear HOx0__7
  have HOx1__8 := hide (HOx1__7.out.below hb)
  clear HOx1__7
  have HOx2__8 := hide (HOx2__7.out.below hb)
  clear HOx2__7
  clear hb
  go_wp2_with fail
  refine (eqIs_any _ _ (lenV (ldP x0 n0 x1 n1 x2 n2 v3) n2) _ _ _ _ (by unfold maxLen; have := (show lenV (ldP x0 n0 x1 n1 x2 n2 v3) n2 ≤ 1048576 from Nat.le_trans (lenV_le _ _) hn2); omega) HOR_8.out.sl HOW_8.out.sl).mono ?_
  rintro e w9 ⟨rfl, q, hq⟩
  have hb : Below w8.heap.size w8 w9 := by rw [hq]; exact bel_drewN (Below.refl _ _) _
  clear hq
  have HB9 := hide (HB8.out.trans (hb.mono HB8.out.size))
  have hs9 : w8.heap.size ≤ w9.heap.size := hb.size
  have HOW_9 := hide (HOW_8.out.below hb)
  clear HOW_8
  have HOx0__9 := hide (HOx0__8.out.below hb)
  clear HOx0__8
  have HOx1__9 := hide (HOx1__8.out.below hb)
  clear HOx1__8
  have HOx2__9 := hide (HOx2__8.out.below hb)
  clear HOx2__8
  have HOR_9 := hide (HOR_8.out.below hb)
  clear HOR_8
  clear hb
  go_wp2_with fail
  refine (toIsW_any A0 n0 c0 x0 _ hn0 (HS0.out.below HB9.out)).mono ?_
  rintro e w10 ⟨gt, rfl, hg1, hg2, hb, ho⟩
  have HOt_10 := hide ho
  clear ho hg1 hg2
  have HB10 := hide (HB9.out.trans (hb.mono HB9.out.size))
  have hs10 : w9.heap.size ≤ w10.heap.size := hb.size
  have HOW_10 := hide (HOW_9.out.below hb)
  clear HOW_9
  have HOx0__10 := hide (HOx0__9.out.below hb)
  clear HOx0__9
  have HOx1__10 := hide (HOx1__9.out.below hb)
  clear HOx1__9
  have HOx2__10 := hide (HOx2__9.out.below hb)
  clear HOx2__9
  have HOR_10 := hide (HOR_9.out.below hb)
  clear HOR_9
  clear hb
  go_wp2_with fail
  refine (eqIs_any _ _ n0 _ _ _ _ hm0 HOx0__10.out.sl HOt_10.out.sl).mono ?_
  rintro e w11 ⟨rfl, q, hq⟩
  have hb : Below w10.heap.size w10 w11 := by rw [hq]; exact bel_drewN (Below.refl _ _) _
  clear hq
  have HB11 := hide (HB10.out.trans (hb.mono HB10.out.size))
  have hs11 : w10.heap.size ≤ w11.heap.size := hb.size
  have HOW_11 := hide (HOW_10.out.below hb)
  clear HOW_10
  have HOx0__11 := hide (HOx0__10.out.below hb)
  clear HOx0__10
  have HOx1__11 := hide (HOx1__10.out.below hb)
  clear HOx1__10
  have HOx2__11 := hide (HOx2__10.out.below hb)
  clear HOx2__10
  have HOR_11 := hide (HOR_10.out.below hb)
  clear HOR_10
  have HOt_11 := hide (HOt_10.out.below hb)
  clear HOt_10
  clear hb
  clear HOt_11
  go_wp2_with fail
  refine (toIsW_any A1 n1 c1 x1 _ hn1 (HS1.out.below HB11.out)).mono ?_
  rintro e w12 ⟨gt, rfl, hg1, hg2, hb, ho⟩
  have HOt_12 := hide ho
  clear ho hg1 hg2
  have HB12 := hide (HB11.out.trans (hb.mono HB11.out.size))
  have hs12 : w11.heap.size ≤ w12.heap.size := hb.size
  have HOW_12 := hide (HOW_11.out.below hb)
  clear HOW_11
  have HOx0__12 := hide (HOx0__11.out.below hb)
  clear HOx0__11
  have HOx1__12 := hide (HOx1__11.out.below hb)
  clear HOx1__11
  have HOx2__12 := hide (HOx2__11.out.below hb)
  clear HOx2__11
  have HOR_12 := hide (HOR_11.out.below hb)
  clear HOR_11
  clear hb
  go_wp2_with fail
  refine (eqIs_any _ _ n1 _ _ _ _ hm1 HOx1__12.out.sl HOt_12.out.sl).mono ?_
  rintro e w13 ⟨rfl, q, hq⟩
  have hb : Below w12.heap.size w12 w13 := by rw [hq]; exact bel_drewN (Below.refl _ _) _
  clear hq
  have HB13 := hide (HB12.out.trans (hb.mono HB12.out.size))
  have hs13 : w12.heap.size ≤ w13.heap.size := hb.size
  have HOW_13 := hide (HOW_12.out.below hb)
  clear HOW_12
  have HOx0__13 := hide (HOx0__12.out.below hb)
  clear HOx0__12
  have HOx1__13 := hide (HOx1__12.out.below hb)
  clear HOx1__12
  have HOx2__13 := hide (HOx2__12.out.below hb)
  clear HOx2__12
  have HOR_13 := hide (HOR_12.out.below hb)
  clear HOR_12
  have HOt_13 := hide (HOt_12.out.below hb)
  clear HOt_12
  clear hb
  clear HOt_13
  go_wp2_with fail
  refine (toIsW_any A2 n2 c2 x2 _ hn2 (HS2.out.below HB13.out)).mono ?_
  rintro e w14 ⟨gt, rfl, hg1, hg2, hb, ho⟩
  have HOt_14 := hide ho
  clear ho hg1 hg2
  have HB14 := hide (HB13.out.trans (hb.mono HB13.out.size))
  have hs14 : w13.heap.size ≤ w14.heap.size := hb.size
  have HOW_14 := hide (HOW_13.out.below hb)
  clear HOW_13
  have HOx0__14 := hide (HOx0__13.out.below hb)
  clear HOx0__13
  have HOx1__14 := hide (HOx1__13.out.below hb)
  clear HOx1__13
  have HOx2__14 := hide (HOx2__13.out.below hb)
  clear HOx2__13
  have HOR_14 := hide (HOR_13.out.below hb)
  clear HOR_13
  clear hb
  go_wp2_with fail
  refine (eqIs_any _ _ n2 _ _ _ _ hm2 HOx2__14.out.sl HOt_14.out.sl).mono ?_
  rintro e w15 ⟨rfl, q, hq⟩
  have hb : Below w14.heap.size w14 w15 := by rw [hq]; exact bel_drewN (Below.refl _ _) _
  clear hq
  have HB15 := hide (HB14.out.trans (hb.mono HB14.out.size))
  have hs15 : w14.heap.size ≤ w15.heap.size := hb.size
  have HOW_15 := hide (HOW_14.out.below hb)
  clear HOW_14
  have HOx0__15 := hide (HOx0__14.out.below hb)
  clear HOx0__14
  have HOx1__15 := hide (HOx1__14.out.below hb)
  clear HOx1__14
  have HOx2__15 := hide (HOx2__14.out.below hb)
  clear HOx2__14
  have HOR_15 := hide (HOR_14.out.below hb)
  clear HOR_14
  have HOt_15 := hide (HOt_14.out.below hb)
  clear HOt_14
  clear hb
  clear HOt_15
  go_wp2_with fail
  refine (markIs_any _ n0 _ w4.heap.size w5.heap.size _ (1) _ (hn0) (by omega) (by omega) HOx0__15.out).mono ?_
  rintro e w16 ⟨rfl, ho, hw⟩
  have HOx0__16 := hide ho
  clear ho HOx0__15
  replace hw : Marked w4.heap.size w5.heap.size w15 w16 := marked_of hw
  have hs16 : w15.heap.size ≤ w16.heap.size := hw.size
  have HB16 := hide (HB15.out.trans (hw.bel (B := w.heap.size) (by omega) (by omega)))
  have HOW_16 := hide (HOW_15.out.marked hw (by omega))
  clear HOW_15
  have HOx1__16 := hide (HOx1__15.out.marked hw (by omega))
  clear HOx1__15
  have HOx2__16 := hide (HOx2__15.out.marked hw (by omega))
  clear HOx2__15
  have HOR_16 := hide (HOR_15.out.marked hw (by omega))
  clear HOR_15
  clear hw
  go_wp2_with fail
  refine (markIs_any _ n1 _ w5.heap.size w6.heap.size _ (1 + n0) _ (hn1) (by omega) (by omega) HOx1__16.out).mono ?_
  rintro e w17 ⟨rfl, ho, hw⟩
  have HOx1__17 := hide ho
  clear ho HOx1__16
  replace hw : Marked w5.heap.size w6.heap.size w16 w17 := marked_of hw
  have hs17 : w16.heap.size ≤ w17.heap.size := hw.size
  have HB17 := hide (HB16.out.trans (hw.bel (B := w.heap.size) (by omega) (by omega)))
  have HOW_17 := hide (HOW_16.out.marked hw (by omega))
  clear HOW_16
  have HOx0__17 := hide (HOx0__16.out.marked hw (by omega))
  clear HOx0__16
  have HOx2__17 := hide (HOx2__16.out.marked hw (by omega))
  clear HOx2__16
  have HOR_17 := hide (HOR_16.out.marked hw (by omega))
  clear HOR_16
  clear hw
  go_wp2_with fail
  refine (markIs_any _ n2 _ w6.heap.size w7.heap.size _ (1 + n0 + n1) _ (hn2) (by omega) (by omega) HOx2__17.out).mono ?_
  rintro e w18 ⟨rfl, ho, hw⟩
  have HOx2__18 := hide ho
  clear ho HOx2__17
  replace hw : Marked w6.heap.size w7.heap.size w17 w18 := marked_of hw
  have hs18 : w17.heap.size ≤ w18.heap.size := hw.size
  have HB18 := hide (HB17.out.trans (hw.bel (B := w.heap.size) (by omega) (by omega)))
  have HOW_18 := hide (HOW_17.out.marked hw (by omega))
  clear HOW_17
  have HOx0__18 := hide (HOx0__17.out.marked hw (by omega))
  clear HOx0__17
  have HOx1__18 := hide (HOx1__17.out.marked hw (by omega))
  clear HOx1__17
  have HOR_18 := hide (HOR_17.out.marked hw (by omega))
  clear HOR_17
  clear hw
  clear HOx0__18
  clear HOx1__18
  clear HOx2__18
  go_wp2_with fail
  refine (eqIs_any _ _ (lenV (ldP x0 n0 x1 n1 x2 n2 v3) n2) _ _ _ _ (by unfold maxLen; have := (show lenV (ldP x0 n0 x1 n1 x2 n2 v3) n2 ≤ 1048576 from Nat.le_trans (lenV_le _ _) hn2); omega) HOR_18.out.sl HOW_18.out.sl).mono ?_
  rintro e w19 ⟨rfl, q, hq⟩
  have hb : Below w18.heap.size w18 w19 := by rw [hq]; exact bel_drewN (Below.refl _ _) _
  clear hq
  have HB19 := hide (HB18.out.trans (hb.mono HB18.out.size))
  have hs19 : w18.heap.size ≤ w19.heap.size := hb.size
  have HOW_19 := hide (HOW_18.out.below hb)
  clear HOW_18
  have HOR_19 := hide (HOR_18.out.below hb)
  clear HOR_18
  clear hb
  have hM0 := (show lenV (ldP x0 n0 x1 n1 x2 n2 v3) n2 ≤ 1048576 from Nat.le_trans (lenV_le _ _) hn2)
  go_wp2_with fail
  refine (markIs_any _ (lenV (ldP x0 n0 x1 n1 x2 n2 v3) n2) _ w7.heap.size w8.heap.size _ (1) _ (hM0) (by omega) (by omega) HOR_19.out).mono ?_
  rintro e w20 ⟨rfl, ho, hw⟩
  have HOR_20 := hide ho
  clear ho HOR_19
  replace hw : Marked w7.heap.size w8.heap.size w19 w20 := marked_of hw
  have hs20 : w19.heap.size ≤ w20.heap.size := hw.size
  have HB20 := hide (HB19.out.trans (hw.bel (B := w.heap.size) (by omega) (by omega)))
  have HOW_20 := hide (HOW_19.out.marked hw (by omega))
  clear HOW_19
  clear hw
  go_wp2_with fail
  refine (heldIs_any _ (lenV (ldP x0 n0 x1 n1 x2 n2 v3) n2) _ (1) _ hM0 (by omega) (by omega) HOR_20.out.sl).mono ?_
  rintro e w21 ⟨rfl, q, hq⟩
  have hb : Below w20.heap.size w20 w21 := by rw [hq]; exact bel_drewN (Below.refl _ _) _
  clear hq
  have HB21 := hide (HB20.out.trans (hb.mono HB20.out.size))
  have hs21 : w20.heap.size ≤ w21.heap.size := hb.size
  have HOW_21 := hide (HOW_20.out.below hb)
  clear HOW_20
  have HOR_21 := hide (HOR_20.out.below hb)
  clear HOR_20
  clear hb
  go_wp2_with fail
  refine (toIsW_any A0 n0 c0 x0 _ hn0 (HS0.out.below HB21.out)).mono ?_
  rintro e w22 ⟨gh0_, rfl, hg1, hg2, hb, ho⟩
  have HOh0__22 := hide ho
  clear ho hg1 hg2
  have HB22 := hide (HB21.out.trans (hb.mono HB21.out.size))
  have hs22 : w21.heap.size ≤ w22.heap.size := hb.size
  have HOW_22 := hide (HOW_21.out.below hb)
  clear HOW_21
  have HOR_22 := hide (HOR_21.out.below hb)
  clear HOR_21
  clear hb
  go_wp2_with fail
  refine (toIsW_any A1 n1 c1 x1 _ hn1 (HS1.out.below HB22.out)).mono ?_
  rintro e w23 ⟨gh1_, rfl, hg1, hg2, hb, ho⟩
  have HOh1__23 := hide ho
  clear ho hg1 hg2
  have HB23 := hide (HB22.out.trans (hb.mono HB22.out.size))
  have hs23 : w22.heap.size ≤ w23.heap.size := hb.size
  have HOW_23 := hide (HOW_22.out.below hb)
  clear HOW_22
  have HOR_23 := hide (HOR_22.out.below hb)
  clear HOR_22
  have HOh0__23 := hide (HOh0__22.out.below hb)
  clear HOh0__22
  clear hb
  go_wp2_with fail
  refine (toIsW_any A2 n2 c2 x2 _ hn2 (HS2.out.below HB23.out)).mono ?_
  rintro e w24 ⟨gh2_, rfl, hg1, hg2, hb, ho⟩
  have HOh2__24 := hide ho
  clear ho hg1 hg2
  have HB24 := hide (HB23.out.trans (hb.mono HB23.out.size))
  have hs24 : w23.heap.size ≤ w24.heap.size := hb.size
  have HOW_24 := hide (HOW_23.out.below hb)
  clear HOW_23
  have HOR_24 := hide (HOR_23.out.below hb)
  clear HOR_23
  have HOh0__24 := hide (HOh0__23.out.below hb)
  clear HOh0__23
  have HOh1__24 := hide (HOh1__23.out.below hb)
  clear HOh1__23
  clear hb
  go_wp2_with fail
  refine (implRateDues_any _ n0 n0 x0 _ n1 n1 x1 _ n2 n2 x2 v3 _ hm0 HOh0__24.out.sl hm1 HOh1__24.out.sl hm2 HOh2__24.out.sl).mono ?_
  rintro e w25 ⟨Q, Qc, rfl, ho, hb⟩
  have HOQ_25 := hide ho
  clear ho
  have HB25 := hide (HB24.out.trans (hb.mono HB24.out.size))
  have hs25 : w24.heap.size ≤ w25.heap.size := hb.size
  have HOW_25 := hide (HOW_24.out.below hb)
  clear HOW_24
  have HOR_25 := hide (HOR_24.out.below hb)
  clear HOR_24
  have HOh0__25 := hide (HOh0__24.out.below hb)
  clear HOh0__24
  have HOh1__25 := hide (HOh1__24.out.below hb)
  clear HOh1__24
  have HOh2__25 := hide (HOh2__24.out.below hb)
  clear HOh2__24
  clear hb
  clear HOh0__25
  clear HOh1__25
  clear HOh2__25
  go_wp2_with fail
  refine (eqIs_any _ _ (lenV (ldP x0 n0 x1 n1 x2 n2 v3) n2) _ _ _ _ (by unfold maxLen; have := (show lenV (ldP x0 n0 x1 n1 x2 n2 v3) n2 ≤ 1048576 from Nat.le_trans (lenV_le _ _) hn2); omega) HOQ_25.out.sl HOW_25.out.sl).mono ?_
  rintro e w26 ⟨rfl, q, hq⟩
  have hb : Below w25.heap.size w25 w26 := by rw [hq]; exact bel_drewN (Below.refl _ _) _
  clear hq
  have HB26 := hide (HB25.out.trans (hb.mono HB25.out.size))
  have hs26 : w25.heap.size ≤ w26.heap.size := hb.size
  have HOW_26 := hide (HOW_25.out.below hb)
  clear HOW_25
  have HOR_26 := hide (HOR_25.out.below hb)
  clear HOR_25
  have HOQ_26 := hide (HOQ_25.out.below hb)
  clear HOQ_25
  clear hb
  go_wp2_with fail
  refine (heldIs_any _ (lenV (ldP x0 n0 x1 n1 x2 n2 v3) n2) _ (1) _ hM0 (by omega) (by omega) HOR_26.out.sl).mono ?_
  rintro e w27 ⟨rfl, q, hq⟩
  have hb : Below w26.heap.size w26 w27 := by rw [hq]; exact bel_drewN (Below.refl _ _) _
  clear hq
  have HB27 := hide (HB26.out.trans (hb.mono HB26.out.size))
  have hs27 : w26.heap.size ≤ w27.heap.size := hb.size
  have HOW_27 := hide (HOW_26.out.below hb)
  clear HOW_26
  have HOR_27 := hide (HOR_26.out.below hb)
  clear HOR_26
  have HOQ_27 := hide (HOQ_26.out.below hb)
  clear HOQ_26
  clear hb
  go_wp2_with fail
  go_ret
  exact ⟨rfl, HB27.out⟩
end Go.Proofs.Ytpbbedelapnnnaa
