/- The law FnExactNeedsOf, walked. -/
import Derived.Test.YtjndhcdanpnniaaNf9
import Derived.Test.YtjndhcdanpnniaaRm
import Derived.Test.YtjndhcdanpnniaaMk
import Derived.Test.YtjndhcdanpnniaaRow
namespace Go.Proofs.Ytjndhcdanpnniaa
open Go.RowKit Go.Dues
set_option maxRecDepth 100000 in
set_option maxHeartbeats 4000000 in
theorem lawNeedsOf_any (A0 : Option Addr) (n0 c0 : Nat) (x0 : Nat → RV) (v1 : Int) (v2 : Int) (w : World) (hm0 : n0 ≤ maxLen) (hs0 : RS w A0 n0 x0) (hv0 : ∀ j, j < n0 → (x0 j).ok) (wv1 : -9223372036854775808 ≤ v1 ∧ v1 ≤ 9223372036854775807) (wv2 : -9223372036854775808 ≤ v2 ∧ v2 ≤ 9223372036854775807) :
    Calls Try.prog 14 #[.slice A0 n0 c0, .int .i64 v1, .int .i64 v2] w fun e w' => e = .returned (.bool true) ∧ Below w.heap.size w w' := by
  have WV1 := hide wv1
  clear wv1
  have WV2 := hide wv2
  clear wv2
  have HS0 := hide hs0
  clear hs0
  have HVM0 := hide (show ∀ j, j < n0 → (x0 j).n ≤ maxLen from fun j hj => (hv0 j hj).2.2.2.2.1)
  have HV0 := hide hv0
  clear hv0
  obtain ⟨w0, hw0⟩ : ∃ u, u = w := ⟨_, rfl⟩
  have HB0 : Hid (Below w.heap.size w w0) := by rw [hw0]; exact Below.refl _ _
  have hs0 : w.heap.size ≤ w0.heap.size := by rw [hw0]; exact Nat.le_refl _
  have HW := hide hw0
  clear hw0
  go_enter Try.func14, Try.ntmps14
  go_wp2_with fail
  rw [← HW.out]
  clear HW
  refine (szRuleS_any A0 n0 c0 x0 1048576 _ hm0 HVM0.out (HS0.out.below HB0.out) (by omega) (by omega)).mono ?_
  rintro e w1 ⟨q0, rfl, hq0, hb⟩
  have HB1 := hide (HB0.out.trans (hb.mono HB0.out.size))
  have hs1 : w0.heap.size ≤ w1.heap.size := hb.size
  clear hb
  rcases hq0 with ⟨hg0, hl0⟩ | rfl
  rotate_left
  · go_wp2_with fail
    go_ret
    exact ⟨rfl, HB1.out⟩
  have hn0 : n0 ≤ 1048576 := by omega
  have hr0 : rsum x0 n0 ≤ 1048576 := by omega
  have HVN0 := hide (show ∀ j, j < n0 → (x0 j).n ≤ 1048576 from fun j hj => Nat.le_trans (rsum_mono x0 j n0 hj) hr0)
  have hh0 : q0 ≤ 1048576 := by omega
  have hz0 : ¬ q0 < 0 := by omega
  have HL0 := hide hl0
  clear hl0
  go_wp2_with fail
  refine (toRuleS_any A0 n0 c0 x0 _ hn0 HVN0.out (HS0.out.below HB1.out)).mono ?_
  rintro e w2 ⟨gs0, rfl, hg1, hg2, hb, ho⟩
  have HOs0_2 := hide ho
  clear ho hg1 hg2
  have HB2 := hide (HB1.out.trans (hb.mono HB1.out.size))
  have hs2 : w1.heap.size ≤ w2.heap.size := hb.size
  clear hb
  go_wp2_with fail
  refine (specNeeds_any _ n0 n0 x0 v1 v2 _ hm0 HVM0.out HOs0_2.out.rs).mono ?_
  rintro e w3 ⟨W, Wc, rfl, ho, hb⟩
  have HOW_3 := hide ho
  clear ho
  have HB3 := hide (HB2.out.trans (hb.mono HB2.out.size))
  have hs3 : w2.heap.size ≤ w3.heap.size := hb.size
  have HOs0_3 := hide (HOs0_2.out.below hb)
  clear HOs0_2
  clear hb
  clear HOs0_3
  go_wp2_with fail
  refine (toRuleS_any A0 n0 c0 x0 _ hn0 HVN0.out (HS0.out.below HB3.out)).mono ?_
  rintro e w4 ⟨gx0_, rfl, hg1, hg2, hb, ho⟩
  have HOx0__4 := hide ho
  clear ho hg1 hg2
  have HB4 := hide (HB3.out.trans (hb.mono HB3.out.size))
  have hs4 : w3.heap.size ≤ w4.heap.size := hb.size
  have HOW_4 := hide (HOW_3.out.below hb)
  clear HOW_3
  clear hb
  go_wp2_with fail
  refine (implNeeds_any _ n0 n0 x0 v1 v2 _ hm0 HVM0.out HOx0__4.out.rs).mono ?_
  rintro e w5 ⟨R, Rc, rfl, ho, hb⟩
  have HOR_5 := hide ho
  clear ho
  have HB5 := hide (HB4.out.trans (hb.mono HB4.out.size))
  have hs5 : w4.heap.size ≤ w5.heap.size := hb.size
  have HOW_5 := hide (HOW_4.out.below hb)
  clear HOW_4
  have HOx0__5 := hide (HOx0__4.out.below hb)
  clear HOx0__4
  clear hb
  go_wp2_with fail
  refine (eqIs_any _ _ (lenV (needP x0 n0 v1 v2) (needL x0 n0 v1 v2).length) _ _ _ _ (by unfold maxLen; have := (show lenV (needP x0 n0 v1 v2) (needL x0 n0 v1 v2).length ≤ 1048576 from len_NeedsOf _ _ _ _); omega) HOR_5.out.sl HOW_5.out.sl).mono ?_
  rintro e w6 ⟨rfl, q, hq⟩
  have hb : Below w5.heap.size w5 w6 := by rw [hq]; exact bel_drewN (Below.refl _ _) _
  clear hq
  have HB6 := hide (HB5.out.trans (hb.mono HB5.out.size))
  have hs6 : w5.heap.size ≤ w6.heap.size := hb.size
  have HOW_6 := hide (HOW_5.out.below hb)
  clear HOW_5
  have HOx0__6 := hide (HOx0__5.out.below hb)
  clear HOx0__5
  have HOR_6 := hide (HOR_5.out.below hb)
  clear HOR_5
  clear hb
  go_wp2_with fail
  refine (toRuleS_any A0 n0 c0 x0 _ hn0 HVN0.out (HS0.out.below HB6.out)).mono ?_
  rintro e w7 ⟨gt, rfl, hg1, hg2, hb, ho⟩
  have HOt_7 := hide ho
  clear ho hg1 hg2
  have HB7 := hide (HB6.out.trans (hb.mono HB6.out.size))
  have hs7 : w6.heap.size ≤ w7.heap.size := hb.size
  have HOW_7 := hide (HOW_6.out.below hb)
  clear HOW_6
  have HOx0__7 := hide (HOx0__6.out.below hb)
  clear HOx0__6
  have HOR_7 := hide (HOR_6.out.below hb)
  clear HOR_6
  clear hb
  go_wp2_with fail
  refine (eqRuleS_any _ _ n0 _ _ x0 _ hm0 HVM0.out HOx0__7.out.rs HOt_7.out.rs).mono ?_
  rintro e w8 ⟨rfl, hb⟩
  have HB8 := hide (HB7.out.trans (hb.mono HB7.out.size))
  have hs8 : w7.heap.size ≤ w8.heap.size := hb.size
  have HOW_8 := hide (HOW_7.out.below hb)
  clear HOW_7
  have HOx0__8 := hide (HOx0__7.out.below hb)
  clear HOx0__7
  have HOR_8 := hide (HOR_7.out.below hb)
  clear HOR_7
  have HOt_8 := hide (HOt_7.out.below hb)
  clear HOt_7
  clear hb
  clear HOt_8
  go_wp2_with fail
  refine (markRuleS_any _ n0 _ w3.heap.size w4.heap.size x0 (1) _ hn0 hr0 HVN0.out (by omega) (by omega) (by omega) HOx0__8.out).mono ?_
  rintro e w9 ⟨rfl, _, hw⟩
  clear HOx0__8
  replace hw : Marked w3.heap.size w4.heap.size w8 w9 := marked_of hw
  have hs9 : w8.heap.size ≤ w9.heap.size := hw.size
  have HB9 := hide (HB8.out.trans (hw.bel (B := w.heap.size) (by omega) (by omega)))
  have HOW_9 := hide (HOW_8.out.marked hw (by omega))
  clear HOW_8
  have HOR_9 := hide (HOR_8.out.marked hw (by omega))
  clear HOR_8
  clear hw
  go_wp2_with fail
  refine (eqIs_any _ _ (lenV (needP x0 n0 v1 v2) (needL x0 n0 v1 v2).length) _ _ _ _ (by unfold maxLen; have := (show lenV (needP x0 n0 v1 v2) (needL x0 n0 v1 v2).length ≤ 1048576 from len_NeedsOf _ _ _ _); omega) HOR_9.out.sl HOW_9.out.sl).mono ?_
  rintro e w10 ⟨rfl, q, hq⟩
  have hb : Below w9.heap.size w9 w10 := by rw [hq]; exact bel_drewN (Below.refl _ _) _
  clear hq
  have HB10 := hide (HB9.out.trans (hb.mono HB9.out.size))
  have hs10 : w9.heap.size ≤ w10.heap.size := hb.size
  have HOW_10 := hide (HOW_9.out.below hb)
  clear HOW_9
  have HOR_10 := hide (HOR_9.out.below hb)
  clear HOR_9
  clear hb
  have hM0 := (show lenV (needP x0 n0 v1 v2) (needL x0 n0 v1 v2).length ≤ 1048576 from len_NeedsOf _ _ _ _)
  go_wp2_with fail
  refine (markIs_any _ (lenV (needP x0 n0 v1 v2) (needL x0 n0 v1 v2).length) _ w4.heap.size w5.heap.size _ (1) _ (hM0) (by omega) (by omega) HOR_10.out).mono ?_
  rintro e w11 ⟨rfl, ho, hw⟩
  have HOR_11 := hide ho
  clear ho HOR_10
  replace hw : Marked w4.heap.size w5.heap.size w10 w11 := marked_of hw
  have hs11 : w10.heap.size ≤ w11.heap.size := hw.size
  have HB11 := hide (HB10.out.trans (hw.bel (B := w.heap.size) (by omega) (by omega)))
  have HOW_11 := hide (HOW_10.out.marked hw (by omega))
  clear HOW_10
  clear hw
  go_wp2_with fail
  refine (heldIs_any _ (lenV (needP x0 n0 v1 v2) (needL x0 n0 v1 v2).length) _ (1) _ hM0 (by omega) (by omega) HOR_11.out.sl).mono ?_
  rintro e w12 ⟨rfl, q, hq⟩
  have hb : Below w11.heap.size w11 w12 := by rw [hq]; exact bel_drewN (Below.refl _ _) _
  clear hq
  have HB12 := hide (HB11.out.trans (hb.mono HB11.out.size))
  have hs12 : w11.heap.size ≤ w12.heap.size := hb.size
  have HOW_12 := hide (HOW_11.out.below hb)
  clear HOW_11
  have HOR_12 := hide (HOR_11.out.below hb)
  clear HOR_11
  clear hb
  go_wp2_with fail
  refine (toRuleS_any A0 n0 c0 x0 _ hn0 HVN0.out (HS0.out.below HB12.out)).mono ?_
  rintro e w13 ⟨gh0_, rfl, hg1, hg2, hb, ho⟩
  have HOh0__13 := hide ho
  clear ho hg1 hg2
  have HB13 := hide (HB12.out.trans (hb.mono HB12.out.size))
  have hs13 : w12.heap.size ≤ w13.heap.size := hb.size
  have HOW_13 := hide (HOW_12.out.below hb)
  clear HOW_12
  have HOR_13 := hide (HOR_12.out.below hb)
  clear HOR_12
  clear hb
  go_wp2_with fail
  refine (implNeeds_any _ n0 n0 x0 v1 v2 _ hm0 HVM0.out HOh0__13.out.rs).mono ?_
  rintro e w14 ⟨Q, Qc, rfl, ho, hb⟩
  have HOQ_14 := hide ho
  clear ho
  have HB14 := hide (HB13.out.trans (hb.mono HB13.out.size))
  have hs14 : w13.heap.size ≤ w14.heap.size := hb.size
  have HOW_14 := hide (HOW_13.out.below hb)
  clear HOW_13
  have HOR_14 := hide (HOR_13.out.below hb)
  clear HOR_13
  have HOh0__14 := hide (HOh0__13.out.below hb)
  clear HOh0__13
  clear hb
  clear HOh0__14
  go_wp2_with fail
  refine (eqIs_any _ _ (lenV (needP x0 n0 v1 v2) (needL x0 n0 v1 v2).length) _ _ _ _ (by unfold maxLen; have := (show lenV (needP x0 n0 v1 v2) (needL x0 n0 v1 v2).length ≤ 1048576 from len_NeedsOf _ _ _ _); omega) HOQ_14.out.sl HOW_14.out.sl).mono ?_
  rintro e w15 ⟨rfl, q, hq⟩
  have hb : Below w14.heap.size w14 w15 := by rw [hq]; exact bel_drewN (Below.refl _ _) _
  clear hq
  have HB15 := hide (HB14.out.trans (hb.mono HB14.out.size))
  have hs15 : w14.heap.size ≤ w15.heap.size := hb.size
  have HOW_15 := hide (HOW_14.out.below hb)
  clear HOW_14
  have HOR_15 := hide (HOR_14.out.below hb)
  clear HOR_14
  have HOQ_15 := hide (HOQ_14.out.below hb)
  clear HOQ_14
  clear hb
  go_wp2_with fail
  refine (heldIs_any _ (lenV (needP x0 n0 v1 v2) (needL x0 n0 v1 v2).length) _ (1) _ hM0 (by omega) (by omega) HOR_15.out.sl).mono ?_
  rintro e w16 ⟨rfl, q, hq⟩
  have hb : Below w15.heap.size w15 w16 := by rw [hq]; exact bel_drewN (Below.refl _ _) _
  clear hq
  have HB16 := hide (HB15.out.trans (hb.mono HB15.out.size))
  have hs16 : w15.heap.size ≤ w16.heap.size := hb.size
  have HOW_16 := hide (HOW_15.out.below hb)
  clear HOW_15
  have HOR_16 := hide (HOR_15.out.below hb)
  clear HOR_15
  have HOQ_16 := hide (HOQ_15.out.below hb)
  clear HOQ_15
  clear hb
  go_wp2_with fail
  go_ret
  exact ⟨rfl, HB16.out⟩
end Go.Proofs.Ytjndhcdanpnniaa
