/- The law FnExactCarryLosses, walked. -/
import Derived.Test.YtggpfaokmkhhdaaCl
import Derived.Test.YtggpfaokmkhhdaaMk
import Derived.Test.YtggpfaokmkhhdaaRow
namespace Go.Proofs.Ytggpfaokmkhhdaa
open Go.RowKit Go.Dues
set_option maxRecDepth 100000 in
set_option maxHeartbeats 4000000 in
theorem lawCarryLosses_any (A0 : Option Addr) (n0 c0 : Nat) (x0 : Nat → Int) (v1 : Int) (v2 : Int) (w : World) (hm0 : n0 ≤ maxLen) (hs0 : SL w A0 n0 (fun j => .int .i64 (x0 j))) (wv1 : -9223372036854775808 ≤ v1 ∧ v1 ≤ 9223372036854775807) (wv2 : -9223372036854775808 ≤ v2 ∧ v2 ≤ 9223372036854775807) :
    Calls Try.prog 6 #[.slice A0 n0 c0, .int .i64 v1, .int .i64 v2] w fun e w' => e = .returned (.bool true) ∧ Below w.heap.size w w' := by
  have WV1 := hide wv1
  clear wv1
  have WV2 := hide wv2
  clear wv2
  unfold maxLen at hm0
  by_cases hbig0 : (1048576 : Int) < (n0 : Int)
  · clear hs0
    go_enter Try.func6, Try.ntmps6
    go_wp2
    go_ret
    exact ⟨rfl, Below.refl _ _⟩
  have hm0 : n0 ≤ maxLen := hm0
  have hn0 : n0 ≤ 1048576 := by omega
  have HS0 := hide hs0
  clear hs0
  obtain ⟨w0, hw0⟩ : ∃ u, u = w := ⟨_, rfl⟩
  have HB0 : Hid (Below w.heap.size w w0) := by rw [hw0]; exact Below.refl _ _
  have hs0 : w.heap.size ≤ w0.heap.size := by rw [hw0]; exact Nat.le_refl _
  have HW := hide hw0
  clear hw0
  go_enter Try.func6, Try.ntmps6
  go_wp2_with fail
  rw [← HW.out]
  clear HW
  refine (toIsW_any A0 n0 c0 x0 _ hn0 (HS0.out.below HB0.out)).mono ?_
  rintro e w1 ⟨gs0, rfl, hg1, hg2, hb, ho⟩
  have HOs0_1 := hide ho
  clear ho hg1 hg2
  have HB1 := hide (HB0.out.trans (hb.mono HB0.out.size))
  have hs1 : w0.heap.size ≤ w1.heap.size := hb.size
  clear hb
  go_wp2_with fail
  refine (specCarry_any _ n0 n0 x0 v1 v2 _ hn0 HOs0_1.out.sl).mono ?_
  intro e w2 hgave
  obtain ⟨W, Wc, W', Wc', lW, hW, lW', hW', rfl, ho, ho', e1W, e2W, e3W, e4W, e5W, e6W, e7W, hb⟩ := gave2_split2 hgave
  clear hgave
  have HOW_2 := hide ho
  have HOW'_2 := hide ho'
  clear ho ho'
  have HB2 := hide (HB1.out.trans (hb.mono HB1.out.size))
  have hs2 : w1.heap.size ≤ w2.heap.size := hb.size
  have HOs0_2 := hide (HOs0_1.out.below hb)
  clear HOs0_1
  clear hb
  clear HOs0_2
  go_wp2_with fail
  refine (toIsW_any A0 n0 c0 x0 _ hn0 (HS0.out.below HB2.out)).mono ?_
  rintro e w3 ⟨gx0_, rfl, hg1, hg2, hb, ho⟩
  have HOx0__3 := hide ho
  clear ho hg1 hg2
  have HB3 := hide (HB2.out.trans (hb.mono HB2.out.size))
  have hs3 : w2.heap.size ≤ w3.heap.size := hb.size
  have HOW_3 := hide (HOW_2.out.below hb)
  clear HOW_2
  have HOW'_3 := hide (HOW'_2.out.below hb)
  clear HOW'_2
  clear hb
  go_wp2_with fail
  refine (implCarry_any _ n0 n0 x0 v1 v2 _ hn0 HOx0__3.out.sl).mono ?_
  intro e w4 hgave
  obtain ⟨R, Rc, R', Rc', lR, hR, lR', hR', rfl, ho, ho', e1R, e2R, e3R, e4R, e5R, e6R, e7R, hb⟩ := gave2_split2 hgave
  clear hgave
  have HOR_4 := hide ho
  have HOR'_4 := hide ho'
  clear ho ho'
  have HB4 := hide (HB3.out.trans (hb.mono HB3.out.size))
  have hs4 : w3.heap.size ≤ w4.heap.size := hb.size
  have HOW_4 := hide (HOW_3.out.below hb)
  clear HOW_3
  have HOW'_4 := hide (HOW'_3.out.below hb)
  clear HOW'_3
  have HOx0__4 := hide (HOx0__3.out.below hb)
  clear HOx0__3
  clear hb
  go_wp2_with fail
  refine (eqIs_any _ _ (lenV (cvP x0 n0 v1 v2) n0) _ _ _ _ (by unfold maxLen; have := (show lenV (cvP x0 n0 v1 v2) n0 ≤ 1048576 from Nat.le_trans cv_len (by omega)); omega) HOR_4.out.sl HOW_4.out.sl).mono ?_
  rintro e w5 ⟨rfl, q, hq⟩
  have hb : Below w4.heap.size w4 w5 := by rw [hq]; exact bel_drewN (Below.refl _ _) _
  clear hq
  have HB5 := hide (HB4.out.trans (hb.mono HB4.out.size))
  have hs5 : w4.heap.size ≤ w5.heap.size := hb.size
  have HOW_5 := hide (HOW_4.out.below hb)
  clear HOW_4
  have HOW'_5 := hide (HOW'_4.out.below hb)
  clear HOW'_4
  have HOx0__5 := hide (HOx0__4.out.below hb)
  clear HOx0__4
  have HOR_5 := hide (HOR_4.out.below hb)
  clear HOR_4
  have HOR'_5 := hide (HOR'_4.out.below hb)
  clear HOR'_4
  clear hb
  go_wp2_with fail
  refine (eqIs_any _ _ (lenV (cvP x0 n0 v1 v2) n0) _ _ _ _ (by unfold maxLen; have := (show lenV (cvP x0 n0 v1 v2) n0 ≤ 1048576 from Nat.le_trans cv_len (by omega)); omega) HOR'_5.out.sl HOW'_5.out.sl).mono ?_
  rintro e w6 ⟨rfl, q, hq⟩
  have hb : Below w5.heap.size w5 w6 := by rw [hq]; exact bel_drewN (Below.refl _ _) _
  clear hq
  have HB6 := hide (HB5.out.trans (hb.mono HB5.out.size))
  have hs6 : w5.heap.size ≤ w6.heap.size := hb.size
  have HOW_6 := hide (HOW_5.out.below hb)
  clear HOW_5
  have HOW'_6 := hide (HOW'_5.out.below hb)
  clear HOW'_5
  have HOx0__6 := hide (HOx0__5.out.below hb)
  clear HOx0__5
  have HOR_6 := hide (HOR_5.out.below hb)
  clear HOR_5
  have HOR'_6 := hide (HOR'_5.out.below hb)
  clear HOR'_5
  clear hb
  go_wp2_with fail
  refine (toIsW_any A0 n0 c0 x0 _ hn0 (HS0.out.below HB6.out)).mono ?_
  rintro e w7 ⟨gt, rfl, hg1, hg2, hb, ho⟩
  have HOt_7 := hide ho
  clear ho hg1 hg2
  have HB7 := hide (HB6.out.trans (hb.mono HB6.out.size))
  have hs7 : w6.heap.size ≤ w7.heap.size := hb.size
  have HOW_7 := hide (HOW_6.out.below hb)
  clear HOW_6
  have HOW'_7 := hide (HOW'_6.out.below hb)
  clear HOW'_6
  have HOx0__7 := hide (HOx0__6.out.below hb)
  clear HOx0__6
  have HOR_7 := hide (HOR_6.out.below hb)
  clear HOR_6
  have HOR'_7 := hide (HOR'_6.out.below hb)
  clear HOR'_6
  clear hb
  go_wp2_with fail
  refine (eqIs_any _ _ n0 _ _ _ _ hm0 HOx0__7.out.sl HOt_7.out.sl).mono ?_
  rintro e w8 ⟨rfl, q, hq⟩
  have hb : Below w7.heap.size w7 w8 := by rw [hq]; exact bel_drewN (Below.refl _ _) _
  clear hq
  have HB8 := hide (HB7.out.trans (hb.mono HB7.out.size))
  have hs8 : w7.heap.size ≤ w8.heap.size := hb.size
  have HOW_8 := hide (HOW_7.out.below hb)
  clear HOW_7
  have HOW'_8 := hide (HOW'_7.out.below hb)
  clear HOW'_7
  have HOx0__8 := hide (HOx0__7.out.below hb)
  clear HOx0__7
  have HOR_8 := hide (HOR_7.out.below hb)
  clear HOR_7
  have HOR'_8 := hide (HOR'_7.out.below hb)
  clear HOR'_7
  have HOt_8 := hide (HOt_7.out.below hb)
  clear HOt_7
  clear hb
  clear HOt_8
  go_wp2_with fail
  refine (markIs_any _ n0 _ w2.heap.size w3.heap.size _ (1) _ (hn0) (by omega) (by omega) HOx0__8.out).mono ?_
  rintro e w9 ⟨rfl, ho, hw⟩
  have HOx0__9 := hide ho
  clear ho HOx0__8
  replace hw : Marked w2.heap.size w3.heap.size w8 w9 := marked_of hw
  have hs9 : w8.heap.size ≤ w9.heap.size := hw.size
  have HB9 := hide (HB8.out.trans (hw.bel (B := w.heap.size) (by omega) (by omega)))
  have HOW_9 := hide (HOW_8.out.marked hw (by omega))
  clear HOW_8
  have HOW'_9 := hide (HOW'_8.out.marked hw (by omega))
  clear HOW'_8
  have HOR_9 := hide (HOR_8.out.marked hw (by omega))
  clear HOR_8
  have HOR'_9 := hide (HOR'_8.out.marked hw (by omega))
  clear HOR'_8
  clear hw
  clear HOx0__9
  go_wp2_with fail
  refine (eqIs_any _ _ (lenV (cvP x0 n0 v1 v2) n0) _ _ _ _ (by unfold maxLen; have := (show lenV (cvP x0 n0 v1 v2) n0 ≤ 1048576 from Nat.le_trans cv_len (by omega)); omega) HOR_9.out.sl HOW_9.out.sl).mono ?_
  rintro e w10 ⟨rfl, q, hq⟩
  have hb : Below w9.heap.size w9 w10 := by rw [hq]; exact bel_drewN (Below.refl _ _) _
  clear hq
  have HB10 := hide (HB9.out.trans (hb.mono HB9.out.size))
  have hs10 : w9.heap.size ≤ w10.heap.size := hb.size
  have HOW_10 := hide (HOW_9.out.below hb)
  clear HOW_9
  have HOW'_10 := hide (HOW'_9.out.below hb)
  clear HOW'_9
  have HOR_10 := hide (HOR_9.out.below hb)
  clear HOR_9
  have HOR'_10 := hide (HOR'_9.out.below hb)
  clear HOR'_9
  clear hb
  go_wp2_with fail
  refine (eqIs_any _ _ (lenV (cvP x0 n0 v1 v2) n0) _ _ _ _ (by unfold maxLen; have := (show lenV (cvP x0 n0 v1 v2) n0 ≤ 1048576 from Nat.le_trans cv_len (by omega)); omega) HOR'_10.out.sl HOW'_10.out.sl).mono ?_
  rintro e w11 ⟨rfl, q, hq⟩
  have hb : Below w10.heap.size w10 w11 := by rw [hq]; exact bel_drewN (Below.refl _ _) _
  clear hq
  have HB11 := hide (HB10.out.trans (hb.mono HB10.out.size))
  have hs11 : w10.heap.size ≤ w11.heap.size := hb.size
  have HOW_11 := hide (HOW_10.out.below hb)
  clear HOW_10
  have HOW'_11 := hide (HOW'_10.out.below hb)
  clear HOW'_10
  have HOR_11 := hide (HOR_10.out.below hb)
  clear HOR_10
  have HOR'_11 := hide (HOR'_10.out.below hb)
  clear HOR'_10
  clear hb
  have hM0 := (show lenV (cvP x0 n0 v1 v2) n0 ≤ 1048576 from Nat.le_trans cv_len (by omega))
  have hM1 := (show lenV (cvP x0 n0 v1 v2) n0 ≤ 1048576 from Nat.le_trans cv_len (by omega))
  go_wp2_with fail
  refine (markIs_any _ (lenV (cvP x0 n0 v1 v2) n0) _ lR hR _ (1) _ (hM0) (by omega) (by omega) HOR_11.out).mono ?_
  rintro e w12 ⟨rfl, ho, hw⟩
  have HOR_12 := hide ho
  clear ho HOR_11
  replace hw : Marked lR hR w11 w12 := marked_of hw
  have hs12 : w11.heap.size ≤ w12.heap.size := hw.size
  have HB12 := hide (HB11.out.trans (hw.bel (B := w.heap.size) (by omega) (by omega)))
  have HOW_12 := hide (HOW_11.out.marked hw (by omega))
  clear HOW_11
  have HOW'_12 := hide (HOW'_11.out.marked hw (by omega))
  clear HOW'_11
  have HOR'_12 := hide (HOR'_11.out.marked hw (by omega))
  clear HOR'_11
  clear hw
  go_wp2_with fail
  refine (markIs_any _ (lenV (cvP x0 n0 v1 v2) n0) _ lR' hR' _ (1 + (lenV (cvP x0 n0 v1 v2) n0)) _ (hM1) (by omega) (by omega) HOR'_12.out).mono ?_
  rintro e w13 ⟨rfl, ho, hw⟩
  have HOR'_13 := hide ho
  clear ho HOR'_12
  replace hw : Marked lR' hR' w12 w13 := marked_of hw
  have hs13 : w12.heap.size ≤ w13.heap.size := hw.size
  have HB13 := hide (HB12.out.trans (hw.bel (B := w.heap.size) (by omega) (by omega)))
  have HOW_13 := hide (HOW_12.out.marked hw (by omega))
  clear HOW_12
  have HOW'_13 := hide (HOW'_12.out.marked hw (by omega))
  clear HOW'_12
  have HOR_13 := hide (HOR_12.out.marked hw (by omega))
  clear HOR_12
  clear hw
  go_wp2_with fail
  refine (heldIs_any _ (lenV (cvP x0 n0 v1 v2) n0) _ (1) _ hM0 (by omega) (by omega) HOR_13.out.sl).mono ?_
  rintro e w14 ⟨rfl, q, hq⟩
  have hb : Below w13.heap.size w13 w14 := by rw [hq]; exact bel_drewN (Below.refl _ _) _
  clear hq
  have HB14 := hide (HB13.out.trans (hb.mono HB13.out.size))
  have hs14 : w13.heap.size ≤ w14.heap.size := hb.size
  have HOW_14 := hide (HOW_13.out.below hb)
  clear HOW_13
  have HOW'_14 := hide (HOW'_13.out.below hb)
  clear HOW'_13
  have HOR_14 := hide (HOR_13.out.below hb)
  clear HOR_13
  have HOR'_14 := hide (HOR'_13.out.below hb)
  clear HOR'_13
  clear hb
  go_wp2_with fail
  refine (heldIs_any _ (lenV (cvP x0 n0 v1 v2) n0) _ (1 + (lenV (cvP x0 n0 v1 v2) n0)) _ hM1 (by omega) (by omega) HOR'_14.out.sl).mono ?_
  rintro e w15 ⟨rfl, q, hq⟩
  have hb : Below w14.heap.size w14 w15 := by rw [hq]; exact bel_drewN (Below.refl _ _) _
  clear hq
  have HB15 := hide (HB14.out.trans (hb.mono HB14.out.size))
  have hs15 : w14.heap.size ≤ w15.heap.size := hb.size
  have HOW_15 := hide (HOW_14.out.below hb)
  clear HOW_14
  have HOW'_15 := hide (HOW'_14.out.below hb)
  clear HOW'_14
  have HOR_15 := hide (HOR_14.out.below hb)
  clear HOR_14
  have HOR'_15 := hide (HOR'_14.out.below hb)
  clear HOR'_14
  clear hb
  go_wp2_with fail
  refine (toIsW_any A0 n0 c0 x0 _ hn0 (HS0.out.below HB15.out)).mono ?_
  rintro e w16 ⟨gh0_, rfl, hg1, hg2, hb, ho⟩
  have HOh0__16 := hide ho
  clear ho hg1 hg2
  have HB16 := hide (HB15.out.trans (hb.mono HB15.out.size))
  have hs16 : w15.heap.size ≤ w16.heap.size := hb.size
  have HOW_16 := hide (HOW_15.out.below hb)
  clear HOW_15
  have HOW'_16 := hide (HOW'_15.out.below hb)
  clear HOW'_15
  have HOR_16 := hide (HOR_15.out.below hb)
  clear HOR_15
  have HOR'_16 := hide (HOR'_15.out.below hb)
  clear HOR'_15
  clear hb
  go_wp2_with fail
  refine (implCarry_any _ n0 n0 x0 v1 v2 _ hn0 HOh0__16.out.sl).mono ?_
  intro e w17 hgave
  obtain ⟨Q, Qc, Q', Qc', lQ, hQ, lQ', hQ', rfl, ho, ho', e1Q, e2Q, e3Q, e4Q, e5Q, e6Q, e7Q, hb⟩ := gave2_split2 hgave
  clear hgave
  have HOQ_17 := hide ho
  have HOQ'_17 := hide ho'
  clear ho ho'
  have HB17 := hide (HB16.out.trans (hb.mono HB16.out.size))
  have hs17 : w16.heap.size ≤ w17.heap.size := hb.size
  have HOW_17 := hide (HOW_16.out.below hb)
  clear HOW_16
  have HOW'_17 := hide (HOW'_16.out.below hb)
  clear HOW'_16
  have HOR_17 := hide (HOR_16.out.below hb)
  clear HOR_16
  have HOR'_17 := hide (HOR'_16.out.below hb)
  clear HOR'_16
  have HOh0__17 := hide (HOh0__16.out.below hb)
  clear HOh0__16
  clear hb
  clear HOh0__17
  go_wp2_with fail
  refine (eqIs_any _ _ (lenV (cvP x0 n0 v1 v2) n0) _ _ _ _ (by unfold maxLen; have := (show lenV (cvP x0 n0 v1 v2) n0 ≤ 1048576 from Nat.le_trans cv_len (by omega)); omega) HOQ_17.out.sl HOW_17.out.sl).mono ?_
  rintro e w18 ⟨rfl, q, hq⟩
  have hb : Below w17.heap.size w17 w18 := by rw [hq]; exact bel_drewN (Below.refl _ _) _
  clear hq
  have HB18 := hide (HB17.out.trans (hb.mono HB17.out.size))
  have hs18 : w17.heap.size ≤ w18.heap.size := hb.size
  have HOW_18 := hide (HOW_17.out.below hb)
  clear HOW_17
  have HOW'_18 := hide (HOW'_17.out.below hb)
  clear HOW'_17
  have HOR_18 := hide (HOR_17.out.below hb)
  clear HOR_17
  have HOR'_18 := hide (HOR'_17.out.below hb)
  clear HOR'_17
  have HOQ_18 := hide (HOQ_17.out.below hb)
  clear HOQ_17
  have HOQ'_18 := hide (HOQ'_17.out.below hb)
  clear HOQ'_17
  clear hb
  go_wp2_with fail
  refine (eqIs_any _ _ (lenV (cvP x0 n0 v1 v2) n0) _ _ _ _ (by unfold maxLen; have := (show lenV (cvP x0 n0 v1 v2) n0 ≤ 1048576 from Nat.le_trans cv_len (by omega)); omega) HOQ'_18.out.sl HOW'_18.out.sl).mono ?_
  rintro e w19 ⟨rfl, q, hq⟩
  have hb : Below w18.heap.size w18 w19 := by rw [hq]; exact bel_drewN (Below.refl _ _) _
  clear hq
  have HB19 := hide (HB18.out.trans (hb.mono HB18.out.size))
  have hs19 : w18.heap.size ≤ w19.heap.size := hb.size
  have HOW_19 := hide (HOW_18.out.below hb)
  clear HOW_18
  have HOW'_19 := hide (HOW'_18.out.below hb)
  clear HOW'_18
  have HOR_19 := hide (HOR_18.out.below hb)
  clear HOR_18
  have HOR'_19 := hide (HOR'_18.out.below hb)
  clear HOR'_18
  have HOQ_19 := hide (HOQ_18.out.below hb)
  clear HOQ_18
  have HOQ'_19 := hide (HOQ'_18.out.below hb)
  clear HOQ'_18
  clear hb
  go_wp2_with fail
  refine (heldIs_any _ (lenV (cvP x0 n0 v1 v2) n0) _ (1) _ hM0 (by omega) (by omega) HOR_19.out.sl).mono ?_
  rintro e w20 ⟨rfl, q, hq⟩
  have hb : Below w19.heap.size w19 w20 := by rw [hq]; exact bel_drewN (Below.refl _ _) _
  clear hq
  have HB20 := hide (HB19.out.trans (hb.mono HB19.out.size))
  have hs20 : w19.heap.size ≤ w20.heap.size := hb.size
  have HOW_20 := hide (HOW_19.out.below hb)
  clear HOW_19
  have HOW'_20 := hide (HOW'_19.out.below hb)
  clear HOW'_19
  have HOR_20 := hide (HOR_19.out.below hb)
  clear HOR_19
  have HOR'_20 := hide (HOR'_19.out.below hb)
  clear HOR'_19
  have HOQ_20 := hide (HOQ_19.out.below hb)
  clear HOQ_19
  have HOQ'_20 := hide (HOQ'_19.out.below hb)
  clear HOQ'_19
  clear hb
  go_wp2_with fail
  refine (heldIs_any _ (lenV (cvP x0 n0 v1 v2) n0) _ (1 + (lenV (cvP x0 n0 v1 v2) n0)) _ hM1 (by omega) (by omega) HOR'_20.out.sl).mono ?_
  rintro e w21 ⟨rfl, q, hq⟩
  have hb : Below w20.heap.size w20 w21 := by rw [hq]; exact bel_drewN (Below.refl _ _) _
  clear hq
  have HB21 := hide (HB20.out.trans (hb.mono HB20.out.size))
  have hs21 : w20.heap.size ≤ w21.heap.size := hb.size
  have HOW_21 := hide (HOW_20.out.below hb)
  clear HOW_20
  have HOW'_21 := hide (HOW'_20.out.below hb)
  clear HOW'_20
  have HOR_21 := hide (HOR_20.out.below hb)
  clear HOR_20
  have HOR'_21 := hide (HOR'_20.out.below hb)
  clear HOR'_20
  have HOQ_21 := hide (HOQ_20.out.below hb)
  clear HOQ_20
  have HOQ'_21 := hide (HOQ'_20.out.below hb)
  clear HOQ'_20
  clear hb
  go_wp2_with fail
  go_ret
  exact ⟨rfl, HB21.out⟩
end Go.Proofs.Ytggpfaokmkhhdaa
