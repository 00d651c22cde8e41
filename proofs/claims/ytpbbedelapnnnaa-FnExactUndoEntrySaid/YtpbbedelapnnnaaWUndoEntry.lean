/- The law FnExactUndoEntry, walked. -/
import Derived.Test.YtpbbedelapnnnaaUe
import Derived.Test.YtpbbedelapnnnaaMk
import Derived.Test.YtpbbedelapnnnaaRow
import Derived.Test.YtpbbedelapnnnaaOe
namespace Go.Proofs.Ytpbbedelapnnnaa
open Go.RowKit Go.Dues
set_option maxRecDepth 100000 in
set_option maxHeartbeats 4000000 in
theorem lawUndoEntry_any (A0 : Option Addr) (n0 c0 : Nat) (x0 : Nat → Int) (v1 : Int) (v2 : Int) (w : World) (hm0 : n0 ≤ maxLen) (hs0 : SL w A0 (n0 * 4) (fun j => .int .i64 (x0 j))) (wv1 : -9223372036854775808 ≤ v1 ∧ v1 ≤ 9223372036854775807) (wv2 : -9223372036854775808 ≤ v2 ∧ v2 ≤ 9223372036854775807) :
    Calls Try.prog 6 #[.slice A0 n0 c0, .int .i64 v1, .int .i64 v2] w fun e w' => e = .returned (.bool true) ∧ Below w.heap.size w w' := by
  have WV1 := hide wv1
  clear wv1
  have WV2 := hide wv2
  clear wv2
  have HS0 := hide hs0
  clear hs0
  obtain ⟨w0, hw0⟩ : ∃ u, u = w := ⟨_, rfl⟩
  have HB0 : Hid (Below w.heap.size w w0) := by rw [hw0]; exact Below.refl _ _
  have hs0 : w.heap.size ≤ w0.heap.size := by rw [hw0]; exact Nat.le_refl _
  have HW := hide hw0
  clear hw0
  go_enter Try.func6, Try.ntmps6
  go_wp2_with fail
  rw [← HW.out]
  clear HW
  refine (szEntry_any A0 n0 c0 1048576 _ hm0 (by omega) (by omega)).mono ?_
  rintro e w' ⟨q0, rfl, hq0, hq⟩
  obtain rfl := hq
  rcases hq0 with ⟨hl0, hr0⟩ | rfl
  rotate_left
  · go_wp2
    go_ret
    exact ⟨rfl, HB0.out⟩
  have hn0 : n0 ≤ 1048576 := by omega
  have hg0 : 0 ≤ q0 := by omega
  have hh0 : q0 ≤ 1048576 := by omega
  clear hr0
  go_wp2_with fail
  refine (toEntryS_any A0 n0 c0 x0 _ hn0 (HS0.out.below HB0.out)).mono ?_
  rintro e w1 ⟨gs0, rfl, hg1, hg2, hb, ho⟩
  have HOs0_1 := hide ho
  clear ho hg1 hg2
  have HB1 := hide (HB0.out.trans (hb.mono HB0.out.size))
  have hs1 : w0.heap.size ≤ w1.heap.size := hb.size
  clear hb
  go_wp2_with fail
  refine (specUndo_any _ n0 n0 x0 v1 v2 _ hn0 HOs0_1.out.sl WV1.out WV2.out).mono ?_
  rintro e w2 ⟨W, Wc, rfl, ho, hb⟩
  have HOW_2 := hide ho
  clear ho
  have HB2 := hide (HB1.out.trans (hb.mono HB1.out.size))
  have hs2 : w1.heap.size ≤ w2.heap.size := hb.size
  have HOs0_2 := hide (HOs0_1.out.below hb)
  clear HOs0_1
  clear hb
  clear HOs0_2
  go_wp2_with fail
  refine (toEntryS_any A0 n0 c0 x0 _ hn0 (HS0.out.below HB2.out)).mono ?_
  rintro e w3 ⟨gx0_, rfl, hg1, hg2, hb, ho⟩
  have HOx0__3 := hide ho
  clear ho hg1 hg2
  have HB3 := hide (HB2.out.trans (hb.mono HB2.out.size))
  have hs3 : w2.heap.size ≤ w3.heap.size := hb.size
  have HOW_3 := hide (HOW_2.out.below hb)
  clear HOW_2
  clear hb
  go_wp2_with fail
  refine (implUndo_any _ n0 n0 x0 v1 v2 _ hn0 HOx0__3.out.sl WV1.out WV2.out).mono ?_
  rintro e w4 ⟨R, Rc, rfl, ho, hb⟩
  have HOR_4 := hide ho
  clear ho
  have HB4 := hide (HB3.out.trans (hb.mono HB3.out.size))
  have hs4 : w3.heap.size ≤ w4.heap.size := hb.size
  have HOW_4 := hide (HOW_3.out.below hb)
  clear HOW_3
  have HOx0__4 := hide (HOx0__3.out.below hb)
  clear HOx0__3
  clear hb
  go_wp2_with fail
  refine (eqEntryS_any _ _ (lenV (ueP x0 n0 v1 v2) (n0 + 1)) _ _ _ _ (by unfold maxLen; have := (ue_len x0 n0 v1 v2); omega) HOR_4.out.sl HOW_4.out.sl).mono ?_
  rintro e w5 ⟨rfl, hb⟩
  have HB5 := hide (HB4.out.trans (hb.mono HB4.out.size))
  have hs5 : w4.heap.size ≤ w5.heap.size := hb.size
  have HOW_5 := hide (HOW_4.out.below hb)
  clear HOW_4
  have HOx0__5 := hide (HOx0__4.out.below hb)
  clear HOx0__4
  have HOR_5 := hide (HOR_4.out.below hb)
  clear HOR_4
  clear hb
  go_wp2_with fail
  refine (toEntryS_any A0 n0 c0 x0 _ hn0 (HS0.out.below HB5.out)).mono ?_
  rintro e w6 ⟨gt, rfl, hg1, hg2, hb, ho⟩
  have HOt_6 := hide ho
  clear ho hg1 hg2
  have HB6 := hide (HB5.out.trans (hb.mono HB5.out.size))
  have hs6 : w5.heap.size ≤ w6.heap.size := hb.size
  have HOW_6 := hide (HOW_5.out.below hb)
  clear HOW_5
  have HOx0__6 := hide (HOx0__5.out.below hb)
  clear HOx0__5
  have HOR_6 := hide (HOR_5.out.below hb)
  clear HOR_5
  clear hb
  go_wp2_with fail
  refine (eqEntryS_any _ _ n0 _ _ x0 _ hm0 HOx0__6.out.sl HOt_6.out.sl).mono ?_
  rintro e w7 ⟨rfl, hb⟩
  have HB7 := hide (HB6.out.trans (hb.mono HB6.out.size))
  have hs7 : w6.heap.size ≤ w7.heap.size := hb.size
  have HOW_7 := hide (HOW_6.out.below hb)
  clear HOW_6
  have HOx0__7 := hide (HOx0__6.out.below hb)
  clear HOx0__6
  have HOR_7 := hide (HOR_6.out.below hb)
  clear HOR_6
  have HOt_7 := hide (HOt_6.out.below hb)
  clear HOt_6
  clear hb
  clear HOt_7
  go_wp2_with fail
  refine (markEntryS_any _ n0 _ w2.heap.size w3.heap.size _ (1) _ hn0 (by omega) (by omega) HOx0__7.out).mono ?_
  rintro e w8 ⟨rfl, hw⟩
  clear HOx0__7
  replace hw : Marked w2.heap.size w3.heap.size w7 w8 := marked_of hw
  have hs8 : w7.heap.size ≤ w8.heap.size := hw.size
  have HB8 := hide (HB7.out.trans (hw.bel (B := w.heap.size) (by omega) (by omega)))
  have HOW_8 := hide (HOW_7.out.marked hw (by omega))
  clear HOW_7
  have HOR_8 := hide (HOR_7.out.marked hw (by omega))
  clear HOR_7
  clear hw
  go_wp2_with fail
  refine (eqEntryS_any _ _ (lenV (ueP x0 n0 v1 v2) (n0 + 1)) _ _ _ _ (by unfold maxLen; have := (ue_len x0 n0 v1 v2); omega) HOR_8.out.sl HOW_8.out.sl).mono ?_
  rintro e w9 ⟨rfl, hb⟩
  have HB9 := hide (HB8.out.trans (hb.mono HB8.out.size))
  have hs9 : w8.heap.size ≤ w9.heap.size := hb.size
  have HOW_9 := hide (HOW_8.out.below hb)
  clear HOW_8
  have HOR_9 := hide (HOR_8.out.below hb)
  clear HOR_8
  clear hb
  have hM0 := (ue_len x0 n0 v1 v2)
  go_wp2_with fail
  refine (markEntryH_any _ (lenV (ueP x0 n0 v1 v2) (n0 + 1)) _ w3.heap.size w4.heap.size _ (1) _ (hM0) (by omega) (by omega) HOR_9.out).mono ?_
  rintro e w10 ⟨rfl, ho, hw⟩
  have HOR_10 := hide ho
  clear ho HOR_9
  replace hw : Marked w3.heap.size w4.heap.size w9 w10 := marked_of hw
  have hs10 : w9.heap.size ≤ w10.heap.size := hw.size
  have HB10 := hide (HB9.out.trans (hw.bel (B := w.heap.size) (by omega) (by omega)))
  have HOW_10 := hide (HOW_9.out.marked hw (by omega))
  clear HOW_9
  clear hw
  go_wp2_with fail
  refine (heldEntryS_any _ (lenV (ueP x0 n0 v1 v2) (n0 + 1)) _ (1) _ hM0 (by omega) (by omega) HOR_10.out.sl).mono ?_
  rintro e w11 ⟨rfl, q, hq⟩
  have hb : Below w10.heap.size w10 w11 := by rw [hq]; exact bel_drewN (Below.refl _ _) _
  clear hq
  have HB11 := hide (HB10.out.trans (hb.mono HB10.out.size))
  have hs11 : w10.heap.size ≤ w11.heap.size := hb.size
  have HOW_11 := hide (HOW_10.out.below hb)
  clear HOW_10
  have HOR_11 := hide (HOR_10.out.below hb)
  clear HOR_10
  clear hb
  go_wp2_with fail
  refine (toEntryS_any A0 n0 c0 x0 _ hn0 (HS0.out.below HB11.out)).mono ?_
  rintro e w12 ⟨gh0_, rfl, hg1, hg2, hb, ho⟩
  have HOh0__12 := hide ho
  clear ho hg1 hg2
  have HB12 := hide (HB11.out.trans (hb.mono HB11.out.size))
  have hs12 : w11.heap.size ≤ w12.heap.size := hb.size
  have HOW_12 := hide (HOW_11.out.below hb)
  clear HOW_11
  have HOR_12 := hide (HOR_11.out.below hb)
  clear HOR_11
  clear hb
  go_wp2_with fail
  refine (implUndo_any _ n0 n0 x0 v1 v2 _ hn0 HOh0__12.out.sl WV1.out WV2.out).mono ?_
  rintro e w13 ⟨Q, Qc, rfl, ho, hb⟩
  have HOQ_13 := hide ho
  clear ho
  have HB13 := hide (HB12.out.trans (hb.mono HB12.out.size))
  have hs13 : w12.heap.size ≤ w13.heap.size := hb.size
  have HOW_13 := hide (HOW_12.out.below hb)
  clear HOW_12
  have HOR_13 := hide (HOR_12.out.below hb)
  clear HOR_12
  have HOh0__13 := hide (HOh0__12.out.below hb)
  clear HOh0__12
  clear hb
  clear HOh0__13
  go_wp2_with fail
  refine (eqEntryS_any _ _ (lenV (ueP x0 n0 v1 v2) (n0 + 1)) _ _ _ _ (by unfold maxLen; have := (ue_len x0 n0 v1 v2); omega) HOQ_13.out.sl HOW_13.out.sl).mono ?_
  rintro e w14 ⟨rfl, hb⟩
  have HB14 := hide (HB13.out.trans (hb.mono HB13.out.size))
  have hs14 : w13.heap.size ≤ w14.heap.size := hb.size
  have HOW_14 := hide (HOW_13.out.below hb)
  clear HOW_13
  have HOR_14 := hide (HOR_13.out.below hb)
  clear HOR_13
  have HOQ_14 := hide (HOQ_13.out.below hb)
  clear HOQ_13
  clear hb
  go_wp2_with fail
  refine (heldEntryS_any _ (lenV (ueP x0 n0 v1 v2) (n0 + 1)) _ (1) _ hM0 (by omega) (by omega) HOR_14.out.sl).mono ?_
  rintro e w15 ⟨rfl, q, hq⟩
  have hb : Below w14.heap.size w14 w15 := by rw [hq]; exact bel_drewN (Below.refl _ _) _
  clear hq
  have HB15 := hide (HB14.out.trans (hb.mono HB14.out.size))
  have hs15 : w14.heap.size ≤ w15.heap.size := hb.size
  have HOW_15 := hide (HOW_14.out.below hb)
  clear HOW_14
  have HOR_15 := hide (HOR_14.out.below hb)
  clear HOR_14
  have HOQ_15 := hide (HOQ_14.out.below hb)
  clear HOQ_14
  clear hb
  go_wp2_with fail
  go_ret
  exact ⟨rfl, HB15.out⟩
end Go.Proofs.Ytpbbedelapnnnaa
