/- The law FnExactIndexPays, walked. -/
import Derived.Test.YtjefpcmegkeceaaIxi
import Derived.Test.YtjefpcmegkeceaaMk
import Derived.Test.YtjefpcmegkeceaaRow
namespace Go.Proofs.Ytjefpcmegkeceaa
open Go.RowKit Go.Dues
set_option maxRecDepth 100000 in
set_option maxHeartbeats 4000000 in
theorem lawIndexPays_any (A0 : Option Addr) (n0 c0 : Nat) (x0 : Nat → Int) (A1 : Option Addr) (n1 c1 : Nat) (x1 : Nat → Int) (w : World) (hm0 : n0 ≤ maxLen) (hs0 : SL w A0 n0 (fun j => .int .i64 (x0 j))) (hm1 : n1 ≤ maxLen) (hs1 : SL w A1 n1 (fun j => .int .i64 (x1 j))) :
    Calls Try.prog 12 #[.slice A0 n0 c0, .slice A1 n1 c1] w fun e w' => e = .returned (.bool true) ∧ Below w.heap.size w w' := by
  unfold maxLen at hm0
  by_cases hbig0 : (1048576 : Int) < (n0 : Int)
  · clear hs0 hs1
    go_enter Try.func12, Try.ntmps12
    go_wp2
    go_ret
    exact ⟨rfl, Below.refl _ _⟩
  have hm0 : n0 ≤ maxLen := hm0
  have hn0 : n0 ≤ 1048576 := by omega
  unfold maxLen at hm1
  by_cases hbig1 : (1048576 : Int) < (n1 : Int)
  · clear hs0 hs1
    go_enter Try.func12, Try.ntmps12
    go_wp2
    go_ret
    exact ⟨rfl, Below.refl _ _⟩
  have hm1 : n1 ≤ maxLen := hm1
  have hn1 : n1 ≤ 1048576 := by omega
  have HS0 := hide hs0
  clear hs0
  have HS1 := hide hs1
  clear hs1
  obtain ⟨w0, hw0⟩ : ∃ u, u = w := ⟨_, rfl⟩
  have HB0 : Hid (Below w.heap.size w w0) := by rw [hw0]; exact Below.refl _ _
  have hs0 : w.heap.size ≤ w0.heap.size := by rw [hw0]; exact Nat.le_refl _
  have HW := hide hw0
  clear hw0
  go_enter Try.func12, Try.ntmps12
  go_wp2_with fail
  rw [← HW.out]
  clear HW
  refine (toIsW_any A0 n0 c0 x0 _ hn0 (HS0.out.below HB0.out)).mono ?_
  rintro e w1 ⟨gs0, rfl, hg1, hg2, hb, ho⟩
  have HOs0_1 := hide ho
  clear ho hg1 hg2
  have HB1 := hide (HB0.out.trans (hb.mono HB0.out.size))
  have hs1 : w0.heap.size ≤ w1.heap.size := hb.size
  clear hb
  go_wp2_with fail
  refine (toIsW_any A1 n1 c1 x1 _ hn1 (HS1.out.below HB1.out)).mono ?_
  rintro e w2 ⟨gs1, rfl, hg1, hg2, hb, ho⟩
  have HOs1_2 := hide ho
  clear ho hg1 hg2
  have HB2 := hide (HB1.out.trans (hb.mono HB1.out.size))
  have hs2 : w1.heap.size ≤ w2.heap.size := hb.size
  have HOs0_2 := hide (HOs0_1.out.below hb)
  clear HOs0_1
  clear hb
  go_wp2_with fail
  refine (specIndexPays_any _ n0 n0 x0 _ n1 n1 x1 _ hm0 HOs0_2.out.sl hm1 HOs1_2.out.sl).mono ?_
  rintro e w3 ⟨W, Wc, rfl, ho, hb⟩
  have HOW_3 := hide ho
  clear ho
  have HB3 := hide (HB2.out.trans (hb.mono HB2.out.size))
  have hs3 : w2.heap.size ≤ w3.heap.size := hb.size
  have HOs0_3 := hide (HOs0_2.out.below hb)
  clear HOs0_2
  have HOs1_3 := hide (HOs1_2.out.below hb)
  clear HOs1_2
  clear hb
  clear HOs0_3
  clear HOs1_3
  go_wp2_with fail
  refine (toIsW_any A0 n0 c0 x0 _ hn0 (HS0.out.below HB3.out)).mono ?_
  rintro e w4 ⟨gx0_, rfl, hg1, hg2, hb, ho⟩
  have HOx0__4 := hide ho
  clear ho hg1 hg2
  have HB4 := hide (HB3.out.trans (hb.mono HB3.out.size))
  have hs4 : w3.heap.size ≤ w4.heap.size := hb.size
  have HOW_4 := hide (HOW_3.out.below hb)
  clear HOW_3
  clear hb
  go_wp2_with fail
  refine (toIsW_any A1 n1 c1 x1 _ hn1 (HS1.out.below HB4.out)).mono ?_
  rintro e w5 ⟨gx1_, rfl, hg1, hg2, hb, ho⟩
  have HOx1__5 := hide ho
  clear ho hg1 hg2
  have HB5 := hide (HB4.out.trans (hb.mono HB4.out.size))
  have hs5 : w4.heap.size ≤ w5.heap.size := hb.size
  have HOW_5 := hide (HOW_4.out.below hb)
  clear HOW_4
  have HOx0__5 := hide (HOx0__4.out.below hb)
  clear HOx0__4
  clear hb
  go_wp2_with fail
  refine (implIndexPays_any _ n0 n0 x0 _ n1 n1 x1 _ hm0 HOx0__5.out.sl hm1 HOx1__5.out.sl).mono ?_
  rintro e w6 ⟨R, Rc, rfl, ho, hb⟩
  have HOR_6 := hide ho
  clear ho
  have HB6 := hide (HB5.out.trans (hb.mono HB5.out.size))
  have hs6 : w5.heap.size ≤ w6.heap.size := hb.size
  have HOW_6 := hide (HOW_5.out.below hb)
  clear HOW_5
  have HOx0__6 := hide (HOx0__5.out.below hb)
  clear HOx0__5
  have HOx1__6 := hide (HOx1__5.out.below hb)
  clear HOx1__5
  clear hb
  go_wp2_with fail
  refine (eqIs_any _ _ (lenV (ixP x0 n0 x1 n1) n0) _ _ _ _ (by unfold maxLen; have := (show lenV (ixP x0 n0 x1 n1) n0 ≤ 1048576 from Nat.le_trans (lenV_le _ _) hn0); omega) HOR_6.out.sl HOW_6.out.sl).mono ?_
  rintro e w7 ⟨rfl, q, hq⟩
  have hb : Below w6.heap.size w6 w7 := by rw [hq]; exact bel_drewN (Below.refl _ _) _
  clear hq
  have HB7 := hide (HB6.out.trans (hb.mono HB6.out.size))
  have hs7 : w6.heap.size ≤ w7.heap.size := hb.size
  have HOW_7 := hide (HOW_6.out.below hb)
  clear HOW_6
  have HOx0__7 := hide (HOx0__6.out.below hb)
  clear HOx0__6
  have HOx1__7 := hide (HOx1__6.out.below hb)
  clear HOx1__6
  have HOR_7 := hide (HOR_6.out.below hb)
  clear HOR_6
  clear hb
  go_wp2_with fail
  refine (toIsW_any A0 n0 c0 x0 _ hn0 (HS0.out.below HB7.out)).mono ?_
  rintro e w8 ⟨gt, rfl, hg1, hg2, hb, ho⟩
  have HOt_8 := hide ho
  clear ho hg1 hg2
  have HB8 := hide (HB7.out.trans (hb.mono HB7.out.size))
  have hs8 : w7.heap.size ≤ w8.heap.size := hb.size
  have HOW_8 := hide (HOW_7.out.below hb)
  clear HOW_7
  have HOx0__8 := hide (HOx0__7.out.below hb)
  clear HOx0__7
  have HOx1__8 := hide (HOx1__7.out.below hb)
  clear HOx1__7
  have HOR_8 := hide (HOR_7.out.below hb)
  clear HOR_7
  clear hb
  go_wp2_with fail
  refine (eqIs_any _ _ n0 _ _ _ _ hm0 HOx0__8.out.sl HOt_8.out.sl).mono ?_
  rintro e w9 ⟨rfl, q, hq⟩
  have hb : Below w8.heap.size w8 w9 := by rw [hq]; exact bel_drewN (Below.refl _ _) _
  clear hq
  have HB9 := hide (HB8.out.trans (hb.mono HB8.out.size))
  have hs9 : w8.heap.size ≤ w9.heap.size := hb.size
  have HOW_9 := hide (HOW_8.out.below hb)
  clear HOW_8
  have HOx0__9 := hide (HOx0__8.out.below hb)
  clear HOx0__8
  have HOx1__9 := hide (HOx1__8.out.below hb)
  clear HOx1__8
  have HOR_9 := hide (HOR_8.out.below hb)
  clear HOR_8
  have HOt_9 := hide (HOt_8.out.below hb)
  clear HOt_8
  clear hb
  clear HOt_9
  go_wp2_with fail
  refine (toIsW_any A1 n1 c1 x1 _ hn1 (HS1.out.below HB9.out)).mono ?_
  rintro e w10 ⟨gt, rfl, hg1, hg2, hb, ho⟩
  have HOt_10 := hide ho
  clear ho hg1 hg2
  have HB10 := hide (HB9.out.trans (hb.mono HB9.out.size))
  have hs10 : w9.heap.size ≤ w10.heap.size := hb.size
  have HOW_10 := hide (HOW_9.out.below hb)
  clear HOW_9
  have HOx0__10 := hide (HOx0__9.out.below hb)
  clear HOx0__9
  have HOx1__10 := hide (HOx1__9.out.below hb)
  clear HOx1__9
  have HOR_10 := hide (HOR_9.out.below hb)
  clear HOR_9
  clear hb
  go_wp2_with fail
  refine (eqIs_any _ _ n1 _ _ _ _ hm1 HOx1__10.out.sl HOt_10.out.sl).mono ?_
  rintro e w11 ⟨rfl, q, hq⟩
  have hb : Below w10.heap.size w10 w11 := by rw [hq]; exact bel_drewN (Below.refl _ _) _
  clear hq
  have HB11 := hide (HB10.out.trans (hb.mono HB10.out.size))
  have hs11 : w10.heap.size ≤ w11.heap.size := hb.size
  have HOW_11 := hide (HOW_10.out.below hb)
  clear HOW_10
  have HOx0__11 := hide (HOx0__10.out.below hb)
  clear HOx0__10
  have HOx1__11 := hide (HOx1__10.out.below hb)
  clear HOx1__10
  have HOR_11 := hide (HOR_10.out.below hb)
  clear HOR_10
  have HOt_11 := hide (HOt_10.out.below hb)
  clear HOt_10
  clear hb
  clear HOt_11
  go_wp2_with fail
  refine (markIs_any _ n0 _ w3.heap.size w4.heap.size _ (1) _ (hn0) (by omega) (by omega) HOx0__11.out).mono ?_
  rintro e w12 ⟨rfl, ho, hw⟩
  have HOx0__12 := hide ho
  clear ho HOx0__11
  replace hw : Marked w3.heap.size w4.heap.size w11 w12 := marked_of hw
  have hs12 : w11.heap.size ≤ w12.heap.size := hw.size
  have HB12 := hide (HB11.out.trans (hw.bel (B := w.heap.size) (by omega) (by omega)))
  have HOW_12 := hide (HOW_11.out.marked hw (by omega))
  clear HOW_11
  have HOx1__12 := hide (HOx1__11.out.marked hw (by omega))
  clear HOx1__11
  have HOR_12 := hide (HOR_11.out.marked hw (by omega))
  clear HOR_11
  clear hw
  go_wp2_with fail
  refine (markIs_any _ n1 _ w4.heap.size w5.heap.size _ (1 + n0) _ (hn1) (by omega) (by omega) HOx1__12.out).mono ?_
  rintro e w13 ⟨rfl, ho, hw⟩
  have HOx1__13 := hide ho
  clear ho HOx1__12
  replace hw : Marked w4.heap.size w5.heap.size w12 w13 := marked_of hw
  have hs13 : w12.heap.size ≤ w13.heap.size := hw.size
  have HB13 := hide (HB12.out.trans (hw.bel (B := w.heap.size) (by omega) (by omega)))
  have HOW_13 := hide (HOW_12.out.marked hw (by omega))
  clear HOW_12
  have HOx0__13 := hide (HOx0__12.out.marked hw (by omega))
  clear HOx0__12
  have HOR_13 := hide (HOR_12.out.marked hw (by omega))
  clear HOR_12
  clear hw
  clear HOx0__13
  clear HOx1__13
  go_wp2_with fail
  refine (eqIs_any _ _ (lenV (ixP x0 n0 x1 n1) n0) _ _ _ _ (by unfold maxLen; have := (show lenV (ixP x0 n0 x1 n1) n0 ≤ 1048576 from Nat.le_trans (lenV_le _ _) hn0); omega) HOR_13.out.sl HOW_13.out.sl).mono ?_
  rintro e w14 ⟨rfl, q, hq⟩
  have hb : Below w13.heap.size w13 w14 := by rw [hq]; exact bel_drewN (Below.refl _ _) _
  clear hq
  have HB14 := hide (HB13.out.trans (hb.mono HB13.out.size))
  have hs14 : w13.heap.size ≤ w14.heap.size := hb.size
  have HOW_14 := hide (HOW_13.out.below hb)
  clear HOW_13
  have HOR_14 := hide (HOR_13.out.below hb)
  clear HOR_13
  clear hb
  have hM0 := (show lenV (ixP x0 n0 x1 n1) n0 ≤ 1048576 from Nat.le_trans (lenV_le _ _) hn0)
  go_wp2_with fail
  refine (markIs_any _ (lenV (ixP x0 n0 x1 n1) n0) _ w5.heap.size w6.heap.size _ (1) _ (hM0) (by omega) (by omega) HOR_14.out).mono ?_
  rintro e w15 ⟨rfl, ho, hw⟩
  have HOR_15 := hide ho
  clear ho HOR_14
  replace hw : Marked w5.heap.size w6.heap.size w14 w15 := marked_of hw
  have hs15 : w14.heap.size ≤ w15.heap.size := hw.size
  have HB15 := hide (HB14.out.trans (hw.bel (B := w.heap.size) (by omega) (by omega)))
  have HOW_15 := hide (HOW_14.out.marked hw (by omega))
  clear HOW_14
  clear hw
  go_wp2_with fail
  refine (heldIs_any _ (lenV (ixP x0 n0 x1 n1) n0) _ (1) _ hM0 (by omega) (by omega) HOR_15.out.sl).mono ?_
  rintro e w16 ⟨rfl, q, hq⟩
  have hb : Below w15.heap.size w15 w16 := by rw [hq]; exact bel_drewN (Below.refl _ _) _
  clear hq
  have HB16 := hide (HB15.out.trans (hb.mono HB15.out.size))
  have hs16 : w15.heap.size ≤ w16.heap.size := hb.size
  have HOW_16 := hide (HOW_15.out.below hb)
  clear HOW_15
  have HOR_16 := hide (HOR_15.out.below hb)
  clear HOR_15
  clear hb
  go_wp2_with fail
  refine (toIsW_any A0 n0 c0 x0 _ hn0 (HS0.out.below HB16.out)).mono ?_
  rintro e w17 ⟨gh0_, rfl, hg1, hg2, hb, ho⟩
  have HOh0__17 := hide ho
  clear ho hg1 hg2
  have HB17 := hide (HB16.out.trans (hb.mono HB16.out.size))
  have hs17 : w16.heap.size ≤ w17.heap.size := hb.size
  have HOW_17 := hide (HOW_16.out.below hb)
  clear HOW_16
  have HOR_17 := hide (HOR_16.out.below hb)
  clear HOR_16
  clear hb
  go_wp2_with fail
  refine (toIsW_any A1 n1 c1 x1 _ hn1 (HS1.out.below HB17.out)).mono ?_
  rintro e w18 ⟨gh1_, rfl, hg1, hg2, hb, ho⟩
  have HOh1__18 := hide ho
  clear ho hg1 hg2
  have HB18 := hide (HB17.out.trans (hb.mono HB17.out.size))
  have hs18 : w17.heap.size ≤ w18.heap.size := hb.size
  have HOW_18 := hide (HOW_17.out.below hb)
  clear HOW_17
  have HOR_18 := hide (HOR_17.out.below hb)
  clear HOR_17
  have HOh0__18 := hide (HOh0__17.out.below hb)
  clear HOh0__17
  clear hb
  go_wp2_with fail
  refine (implIndexPays_any _ n0 n0 x0 _ n1 n1 x1 _ hm0 HOh0__18.out.sl hm1 HOh1__18.out.sl).mono ?_
  rintro e w19 ⟨Q, Qc, rfl, ho, hb⟩
  have HOQ_19 := hide ho
  clear ho
  have HB19 := hide (HB18.out.trans (hb.mono HB18.out.size))
  have hs19 : w18.heap.size ≤ w19.heap.size := hb.size
  have HOW_19 := hide (HOW_18.out.below hb)
  clear HOW_18
  have HOR_19 := hide (HOR_18.out.below hb)
  clear HOR_18
  have HOh0__19 := hide (HOh0__18.out.below hb)
  clear HOh0__18
  have HOh1__19 := hide (HOh1__18.out.below hb)
  clear HOh1__18
  clear hb
  clear HOh0__19
  clear HOh1__19
  go_wp2_with fail
  refine (eqIs_any _ _ (lenV (ixP x0 n0 x1 n1) n0) _ _ _ _ (by unfold maxLen; have := (show lenV (ixP x0 n0 x1 n1) n0 ≤ 1048576 from Nat.le_trans (lenV_le _ _) hn0); omega) HOQ_19.out.sl HOW_19.out.sl).mono ?_
  rintro e w20 ⟨rfl, q, hq⟩
  have hb : Below w19.heap.size w19 w20 := by rw [hq]; exact bel_drewN (Below.refl _ _) _
  clear hq
  have HB20 := hide (HB19.out.trans (hb.mono HB19.out.size))
  have hs20 : w19.heap.size ≤ w20.heap.size := hb.size
  have HOW_20 := hide (HOW_19.out.below hb)
  clear HOW_19
  have HOR_20 := hide (HOR_19.out.below hb)
  clear HOR_19
  have HOQ_20 := hide (HOQ_19.out.below hb)
  clear HOQ_19
  clear hb
  go_wp2_with fail
  refine (heldIs_any _ (lenV (ixP x0 n0 x1 n1) n0) _ (1) _ hM0 (by omega) (by omega) HOR_20.out.sl).mono ?_
  rintro e w21 ⟨rfl, q, hq⟩
  have hb : Below w20.heap.size w20 w21 := by rw [hq]; exact bel_drewN (Below.refl _ _) _
  clear hq
  have HB21 := hide (HB20.out.trans (hb.mono HB20.out.size))
  have hs21 : w20.heap.size ≤ w21.heap.size := hb.size
  have HOW_21 := hide (HOW_20.out.below hb)
  clear HOW_20
  have HOR_21 := hide (HOR_20.out.below hb)
  clear HOR_20
  have HOQ_21 := hide (HOQ_20.out.below hb)
  clear HOQ_20
  clear hb
  go_wp2_with fail
  go_ret
  exact ⟨rfl, HB21.out⟩
end Go.Proofs.Ytjefpcmegkeceaa
