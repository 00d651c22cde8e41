/- The law FnExactFundRun, walked. -/
import Derived.Test.YtjefpcmegkeceaaFui
import Derived.Test.YtjefpcmegkeceaaMk
import Derived.Test.YtjefpcmegkeceaaRow
namespace Go.Proofs.Ytjefpcmegkeceaa
open Go.RowKit Go.Dues
set_option maxRecDepth 100000 in
set_option maxHeartbeats 4000000 in
theorem lawFundRun_any (v0 : Int) (A1 : Option Addr) (n1 c1 : Nat) (x1 : Nat → Int) (A2 : Option Addr) (n2 c2 : Nat) (x2 : Nat → Int) (v3 : Int) (w : World) (hm1 : n1 ≤ maxLen) (hs1 : SL w A1 n1 (fun j => .int .i64 (x1 j))) (hm2 : n2 ≤ maxLen) (hs2 : SL w A2 n2 (fun j => .int .i64 (x2 j))) (wv0 : -9223372036854775808 ≤ v0 ∧ v0 ≤ 9223372036854775807) (wv3 : -9223372036854775808 ≤ v3 ∧ v3 ≤ 9223372036854775807) :
    Calls Try.prog 10 #[.int .i64 v0, .slice A1 n1 c1, .slice A2 n2 c2, .int .i64 v3] w fun e w' => e = .returned (.bool true) ∧ Below w.heap.size w w' := by
  have WV0 := hide wv0
  clear wv0
  have WV3 := hide wv3
  clear wv3
  unfold maxLen at hm1
  by_cases hbig1 : (1048576 : Int) < (n1 : Int)
  · clear hs1 hs2
    go_enter Try.func10, Try.ntmps10
    go_wp2
    go_ret
    exact ⟨rfl, Below.refl _ _⟩
  have hm1 : n1 ≤ maxLen := hm1
  have hn1 : n1 ≤ 1048576 := by omega
  unfold maxLen at hm2
  by_cases hbig2 : (1048576 : Int) < (n2 : Int)
  · clear hs1 hs2
    go_enter Try.func10, Try.ntmps10
    go_wp2
    go_ret
    exact ⟨rfl, Below.refl _ _⟩
  have hm2 : n2 ≤ maxLen := hm2
  have hn2 : n2 ≤ 1048576 := by omega
  have HS1 := hide hs1
  clear hs1
  have HS2 := hide hs2
  clear hs2
  obtain ⟨w0, hw0⟩ : ∃ u, u = w := ⟨_, rfl⟩
  have HB0 : Hid (Below w.heap.size w w0) := by rw [hw0]; exact Below.refl _ _
  have hs0 : w.heap.size ≤ w0.heap.size := by rw [hw0]; exact Nat.le_refl _
  have HW := hide hw0
  clear hw0
  go_enter Try.func10, Try.ntmps10
  go_wp2_with fail
  rw [← HW.out]
  clear HW
  refine (toIsW_any A1 n1 c1 x1 _ hn1 (HS1.out.below HB0.out)).mono ?_
  rintro e w1 ⟨gs1, rfl, hg1, hg2, hb, ho⟩
  have HOs1_1 := hide ho
  clear ho hg1 hg2
  have HB1 := hide (HB0.out.trans (hb.mono HB0.out.size))
  have hs1 : w0.heap.size ≤ w1.heap.size := hb.size
  clear hb
  go_wp2_with fail
  refine (toIsW_any A2 n2 c2 x2 _ hn2 (HS2.out.below HB1.out)).mono ?_
  rintro e w2 ⟨gs2, rfl, hg1, hg2, hb, ho⟩
  have HOs2_2 := hide ho
  clear ho hg1 hg2
  have HB2 := hide (HB1.out.trans (hb.mono HB1.out.size))
  have hs2 : w1.heap.size ≤ w2.heap.size := hb.size
  have HOs1_2 := hide (HOs1_1.out.below hb)
  clear HOs1_1
  clear hb
  go_wp2_with fail
  refine (specFundRun_any v0 _ n1 n1 x1 _ n2 n2 x2 v3 _ hm1 HOs1_2.out.sl hm2 HOs2_2.out.sl).mono ?_
  rintro e w3 ⟨W, Wc, rfl, ho, hb⟩
  have HOW_3 := hide ho
  clear ho
  have HB3 := hide (HB2.out.trans (hb.mono HB2.out.size))
  have hs3 : w2.heap.size ≤ w3.heap.size := hb.size
  have HOs1_3 := hide (HOs1_2.out.below hb)
  clear HOs1_2
  have HOs2_3 := hide (HOs2_2.out.below hb)
  clear HOs2_2
  clear hb
  clear HOs1_3
  clear HOs2_3
  go_wp2_with fail
  refine (toIsW_any A1 n1 c1 x1 _ hn1 (HS1.out.below HB3.out)).mono ?_
  rintro e w4 ⟨gx1_, rfl, hg1, hg2, hb, ho⟩
  have HOx1__4 := hide ho
  clear ho hg1 hg2
  have HB4 := hide (HB3.out.trans (hb.mono HB3.out.size))
  have hs4 : w3.heap.size ≤ w4.heap.size := hb.size
  have HOW_4 := hide (HOW_3.out.below hb)
  clear HOW_3
  clear hb
  go_wp2_with fail
  refine (toIsW_any A2 n2 c2 x2 _ hn2 (HS2.out.below HB4.out)).mono ?_
  rintro e w5 ⟨gx2_, rfl, hg1, hg2, hb, ho⟩
  have HOx2__5 := hide ho
  clear ho hg1 hg2
  have HB5 := hide (HB4.out.trans (hb.mono HB4.out.size))
  have hs5 : w4.heap.size ≤ w5.heap.size := hb.size
  have HOW_5 := hide (HOW_4.out.below hb)
  clear HOW_4
  have HOx1__5 := hide (HOx1__4.out.below hb)
  clear HOx1__4
  clear hb
  go_wp2_with fail
  refine (implFundRun_any v0 _ n1 n1 x1 _ n2 n2 x2 v3 _ hm1 HOx1__5.out.sl hm2 HOx2__5.out.sl).mono ?_
  rintro e w6 ⟨R, Rc, rfl, ho, hb⟩
  have HOR_6 := hide ho
  clear ho
  have HB6 := hide (HB5.out.trans (hb.mono HB5.out.size))
  have hs6 : w5.heap.size ≤ w6.heap.size := hb.size
  have HOW_6 := hide (HOW_5.out.below hb)
  clear HOW_5
  have HOx1__6 := hide (HOx1__5.out.below hb)
  clear HOx1__5
  have HOx2__6 := hide (HOx2__5.out.below hb)
  clear HOx2__5
  clear hb
  go_wp2_with fail
  refine (eqIs_any _ _ (lenV (fuP v0 x1 n1 x2 n2 v3) n1) _ _ _ _ (by unfold maxLen; have := (show lenV (fuP v0 x1 n1 x2 n2 v3) n1 ≤ 1048576 from Nat.le_trans (lenV_le _ _) hn1); omega) HOR_6.out.sl HOW_6.out.sl).mono ?_
  rintro e w7 ⟨rfl, q, hq⟩
  have hb : Below w6.heap.size w6 w7 := by rw [hq]; exact bel_drewN (Below.refl _ _) _
  clear hq
  have HB7 := hide (HB6.out.trans (hb.mono HB6.out.size))
  have hs7 : w6.heap.size ≤ w7.heap.size := hb.size
  have HOW_7 := hide (HOW_6.out.below hb)
  clear HOW_6
  have HOx1__7 := hide (HOx1__6.out.below hb)
  clear HOx1__6
  have HOx2__7 := hide (HOx2__6.out.below hb)
  clear HOx2__6
  have HOR_7 := hide (HOR_6.out.below hb)
  clear HOR_6
  clear hb
  go_wp2_with fail
  refine (toIsW_any A1 n1 c1 x1 _ hn1 (HS1.out.below HB7.out)).mono ?_
  rintro e w8 ⟨gt, rfl, hg1, hg2, hb, ho⟩
  have HOt_8 := hide ho
  clear ho hg1 hg2
  have HB8 := hide (HB7.out.trans (hb.mono HB7.out.size))
  have hs8 : w7.heap.size ≤ w8.heap.size := hb.size
  have HOW_8 := hide (HOW_7.out.below hb)
  clear HOW_7
  have HOx1__8 := hide (HOx1__7.out.below hb)
  clear HOx1__7
  have HOx2__8 := hide (HOx2__7.out.below hb)
  clear HOx2__7
  have HOR_8 := hide (HOR_7.out.below hb)
  clear HOR_7
  clear hb
  go_wp2_with fail
  refine (eqIs_any _ _ n1 _ _ _ _ hm1 HOx1__8.out.sl HOt_8.out.sl).mono ?_
  rintro e w9 ⟨rfl, q, hq⟩
  have hb : Below w8.heap.size w8 w9 := by rw [hq]; exact bel_drewN (Below.refl _ _) _
  clear hq
  have HB9 := hide (HB8.out.trans (hb.mono HB8.out.size))
  have hs9 : w8.heap.size ≤ w9.heap.size := hb.size
  have HOW_9 := hide (HOW_8.out.below hb)
  clear HOW_8
  have HOx1__9 := hide (HOx1__8.out.below hb)
  clear HOx1__8
  have HOx2__9 := hide (HOx2__8.out.below hb)
  clear HOx2__8
  have HOR_9 := hide (HOR_8.out.below hb)
  clear HOR_8
  have HOt_9 := hide (HOt_8.out.below hb)
  clear HOt_8
  clear hb
  clear HOt_9
  go_wp2_with fail
  refine (toIsW_any A2 n2 c2 x2 _ hn2 (HS2.out.below HB9.out)).mono ?_
  rintro e w10 ⟨gt, rfl, hg1, hg2, hb, ho⟩
  have HOt_10 := hide ho
  clear ho hg1 hg2
  have HB10 := hide (HB9.out.trans (hb.mono HB9.out.size))
  have hs10 : w9.heap.size ≤ w10.heap.size := hb.size
  have HOW_10 := hide (HOW_9.out.below hb)
  clear HOW_9
  have HOx1__10 := hide (HOx1__9.out.below hb)
  clear HOx1__9
  have HOx2__10 := hide (HOx2__9.out.below hb)
  clear HOx2__9
  have HOR_10 := hide (HOR_9.out.below hb)
  clear HOR_9
  clear hb
  go_wp2_with fail
  refine (eqIs_any _ _ n2 _ _ _ _ hm2 HOx2__10.out.sl HOt_10.out.sl).mono ?_
  rintro e w11 ⟨rfl, q, hq⟩
  have hb : Below w10.heap.size w10 w11 := by rw [hq]; exact bel_drewN (Below.refl _ _) _
  clear hq
  have HB11 := hide (HB10.out.trans (hb.mono HB10.out.size))
  have hs11 : w10.heap.size ≤ w11.heap.size := hb.size
  have HOW_11 := hide (HOW_10.out.below hb)
  clear HOW_10
  have HOx1__11 := hide (HOx1__10.out.below hb)
  clear HOx1__10
  have HOx2__11 := hide (HOx2__10.out.below hb)
  clear HOx2__10
  have HOR_11 := hide (HOR_10.out.below hb)
  clear HOR_10
  have HOt_11 := hide (HOt_10.out.below hb)
  clear HOt_10
  clear hb
  clear HOt_11
  go_wp2_with fail
  refine (markIs_any _ n1 _ w3.heap.size w4.heap.size _ (1) _ (hn1) (by omega) (by omega) HOx1__11.out).mono ?_
  rintro e w12 ⟨rfl, ho, hw⟩
  have HOx1__12 := hide ho
  clear ho HOx1__11
  replace hw : Marked w3.heap.size w4.heap.size w11 w12 := marked_of hw
  have hs12 : w11.heap.size ≤ w12.heap.size := hw.size
  have HB12 := hide (HB11.out.trans (hw.bel (B := w.heap.size) (by omega) (by omega)))
  have HOW_12 := hide (HOW_11.out.marked hw (by omega))
  clear HOW_11
  have HOx2__12 := hide (HOx2__11.out.marked hw (by omega))
  clear HOx2__11
  have HOR_12 := hide (HOR_11.out.marked hw (by omega))
  clear HOR_11
  clear hw
  go_wp2_with fail
  refine (markIs_any _ n2 _ w4.heap.size w5.heap.size _ (1 + n1) _ (hn2) (by omega) (by omega) HOx2__12.out).mono ?_
  rintro e w13 ⟨rfl, ho, hw⟩
  have HOx2__13 := hide ho
  clear ho HOx2__12
  replace hw : Marked w4.heap.size w5.heap.size w12 w13 := marked_of hw
  have hs13 : w12.heap.size ≤ w13.heap.size := hw.size
  have HB13 := hide (HB12.out.trans (hw.bel (B := w.heap.size) (by omega) (by omega)))
  have HOW_13 := hide (HOW_12.out.marked hw (by omega))
  clear HOW_12
  have HOx1__13 := hide (HOx1__12.out.marked hw (by omega))
  clear HOx1__12
  have HOR_13 := hide (HOR_12.out.marked hw (by omega))
  clear HOR_12
  clear hw
  clear HOx1__13
  clear HOx2__13
  go_wp2_with fail
  refine (eqIs_any _ _ (lenV (fuP v0 x1 n1 x2 n2 v3) n1) _ _ _ _ (by unfold maxLen; have := (show lenV (fuP v0 x1 n1 x2 n2 v3) n1 ≤ 1048576 from Nat.le_trans (lenV_le _ _) hn1); omega) HOR_13.out.sl HOW_13.out.sl).mono ?_
  rintro e w14 ⟨rfl, q, hq⟩
  have hb : Below w13.heap.size w13 w14 := by rw [hq]; exact bel_drewN (Below.refl _ _) _
  clear hq
  have HB14 := hide (HB13.out.trans (hb.mono HB13.out.size))
  have hs14 : w13.heap.size ≤ w14.heap.size := hb.size
  have HOW_14 := hide (HOW_13.out.below hb)
  clear HOW_13
  have HOR_14 := hide (HOR_13.out.below hb)
  clear HOR_13
  clear hb
  have hM0 := (show lenV (fuP v0 x1 n1 x2 n2 v3) n1 ≤ 1048576 from Nat.le_trans (lenV_le _ _) hn1)
  go_wp2_with fail
  refine (markIs_any _ (lenV (fuP v0 x1 n1 x2 n2 v3) n1) _ w5.heap.size w6.heap.size _ (1) _ (hM0) (by omega) (by omega) HOR_14.out).mono ?_
  rintro e w15 ⟨rfl, ho, hw⟩
  have HOR_15 := hide ho
  clear ho HOR_14
  replace hw : Marked w5.heap.size w6.heap.size w14 w15 := marked_of hw
  have hs15 : w14.heap.size ≤ w15.heap.size := hw.size
  have HB15 := hide (HB14.out.trans (hw.bel (B := w.heap.size) (by omega) (by omega)))
  have HOW_15 := hide (HOW_14.out.marked hw (by omega))
  clear HOW_14
  clear hw
  go_wp2_with fail
  refine (heldIs_any _ (lenV (fuP v0 x1 n1 x2 n2 v3) n1) _ (1) _ hM0 (by omega) (by omega) HOR_15.out.sl).mono ?_
  rintro e w16 ⟨rfl, q, hq⟩
  have hb : Below w15.heap.size w15 w16 := by rw [hq]; exact bel_drewN (Below.refl _ _) _
  clear hq
  have HB16 := hide (HB15.out.trans (hb.mono HB15.out.size))
  have hs16 : w15.heap.size ≤ w16.heap.size := hb.size
  have HOW_16 := hide (HOW_15.out.below hb)
  clear HOW_15
  have HOR_16 := hide (HOR_15.out.below hb)
  clear HOR_15
  clear hb
  go_wp2_with fail
  refine (toIsW_any A1 n1 c1 x1 _ hn1 (HS1.out.below HB16.out)).mono ?_
  rintro e w17 ⟨gh1_, rfl, hg1, hg2, hb, ho⟩
  have HOh1__17 := hide ho
  clear ho hg1 hg2
  have HB17 := hide (HB16.out.trans (hb.mono HB16.out.size))
  have hs17 : w16.heap.size ≤ w17.heap.size := hb.size
  have HOW_17 := hide (HOW_16.out.below hb)
  clear HOW_16
  have HOR_17 := hide (HOR_16.out.below hb)
  clear HOR_16
  clear hb
  go_wp2_with fail
  refine (toIsW_any A2 n2 c2 x2 _ hn2 (HS2.out.below HB17.out)).mono ?_
  rintro e w18 ⟨gh2_, rfl, hg1, hg2, hb, ho⟩
  have HOh2__18 := hide ho
  clear ho hg1 hg2
  have HB18 := hide (HB17.out.trans (hb.mono HB17.out.size))
  have hs18 : w17.heap.size ≤ w18.heap.size := hb.size
  have HOW_18 := hide (HOW_17.out.below hb)
  clear HOW_17
  have HOR_18 := hide (HOR_17.out.below hb)
  clear HOR_17
  have HOh1__18 := hide (HOh1__17.out.below hb)
  clear HOh1__17
  clear hb
  go_wp2_with fail
  refine (implFundRun_any v0 _ n1 n1 x1 _ n2 n2 x2 v3 _ hm1 HOh1__18.out.sl hm2 HOh2__18.out.sl).mono ?_
  rintro e w19 ⟨Q, Qc, rfl, ho, hb⟩
  have HOQ_19 := hide ho
  clear ho
  have HB19 := hide (HB18.out.trans (hb.mono HB18.out.size))
  have hs19 : w18.heap.size ≤ w19.heap.size := hb.size
  have HOW_19 := hide (HOW_18.out.below hb)
  clear HOW_18
  have HOR_19 := hide (HOR_18.out.below hb)
  clear HOR_18
  have HOh1__19 := hide (HOh1__18.out.below hb)
  clear HOh1__18
  have HOh2__19 := hide (HOh2__18.out.below hb)
  clear HOh2__18
  clear hb
  clear HOh1__19
  clear HOh2__19
  go_wp2_with fail
  refine (eqIs_any _ _ (lenV (fuP v0 x1 n1 x2 n2 v3) n1) _ _ _ _ (by unfold maxLen; have := (show lenV (fuP v0 x1 n1 x2 n2 v3) n1 ≤ 1048576 from Nat.le_trans (lenV_le _ _) hn1); omega) HOQ_19.out.sl HOW_19.out.sl).mono ?_
  rintro e w20 ⟨rfl, q, hq⟩
  have hb : Below w19.heap.size w19 w20 := by rw [hq]; exact bel_drewN (Below.refl _ _) _
  clear hq
  have HB20 := hide (HB19.out.trans (hb.mono HB19.out.size))
  have hs20 : w19.heap.size ≤ w20.heap.size := hb.size
  have HOW_20 := hide (HOW_19.out.below hb)
  clear HOW_19
  have HOR_20 := hide (HOR_19.out.below hb)
  clear HOR_19
  have HOQ_20 := hide (HOQ_19.out.below hb)
  clear HOQ_19
  clear hb
  go_wp2_with fail
  refine (heldIs_any _ (lenV (fuP v0 x1 n1 x2 n2 v3) n1) _ (1) _ hM0 (by omega) (by omega) HOR_20.out.sl).mono ?_
  rintro e w21 ⟨rfl, q, hq⟩
  have hb : Below w20.heap.size w20 w21 := by rw [hq]; exact bel_drewN (Below.refl _ _) _
  clear hq
  have HB21 := hide (HB20.out.trans (hb.mono HB20.out.size))
  have hs21 : w20.heap.size ≤ w21.heap.size := hb.size
  have HOW_21 := hide (HOW_20.out.below hb)
  clear HOW_20
  have HOR_21 := hide (HOR_20.out.below hb)
  clear HOR_20
  have HOQ_21 := hide (HOQ_20.out.below hb)
  clear HOQ_20
  clear hb
  go_wp2_with fail
  go_ret
  exact ⟨rfl, HB21.out⟩
end Go.Proofs.Ytjefpcmegkeceaa
