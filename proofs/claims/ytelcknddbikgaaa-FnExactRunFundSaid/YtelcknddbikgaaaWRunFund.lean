/- The law FnExactRunFund, walked. -/
import Derived.Test.YtelcknddbikgaaaU8
import Derived.Test.YtelcknddbikgaaaPl
import Derived.Test.YtelcknddbikgaaaMf
import Derived.Test.YtelcknddbikgaaaRow
import Derived.Deep.RegionHeld3
namespace Go.Proofs.Ytelcknddbikgaaa
open Go.RowKit Go.Dues
set_option maxRecDepth 100000 in
set_option maxHeartbeats 8000000 in
theorem lawRunFund_any (v0 : Nat) (A1 : Option Addr) (n1 c1 : Nat) (x1 : Nat → Nat) (A2 : Option Addr) (n2 c2 : Nat) (x2 : Nat → Nat) (A3 : Option Addr) (n3 c3 : Nat) (x3 : Nat → Nat) (w : World) (hm1 : n1 ≤ maxLen) (hs1 : SL w A1 n1 (fun j => .float .f32 (x1 j))) (wx1 : ∀ j, j < n1 → (Lit.float .f32 (x1 j)).wf = true) (hm2 : n2 ≤ maxLen) (hs2 : SL w A2 n2 (fun j => .float .f32 (x2 j))) (wx2 : ∀ j, j < n2 → (Lit.float .f32 (x2 j)).wf = true) (hm3 : n3 ≤ maxLen) (hs3 : SL w A3 n3 (fun j => .float .f32 (x3 j))) (wx3 : ∀ j, j < n3 → (Lit.float .f32 (x3 j)).wf = true) (wv0 : v0 < 4294967296) :
    Calls Try.prog 13 #[.float .f32 v0, .slice A1 n1 c1, .slice A2 n2 c2, .slice A3 n3 c3] w fun e w' => e = .returned (.bool true) ∧ Below w.heap.size w w' := by
  skip
  have WV0 := hide wv0
  clear wv0
  unfold maxLen at hm1
  by_cases hbig1 : (1048576 : Int) < (n1 : Int)
  · clear hs1 wx1 hs2 wx2 hs3 wx3
    go_enter Try.func13, Try.ntmps13
    go_wp2
    go_ret
    exact ⟨rfl, Below.refl _ _⟩
  have hm1 : n1 ≤ maxLen := hm1
  have hn1 : n1 ≤ 1048576 := by omega
  unfold maxLen at hm2
  by_cases hbig2 : (1048576 : Int) < (n2 : Int)
  · clear hs1 wx1 hs2 wx2 hs3 wx3
    go_enter Try.func13, Try.ntmps13
    go_wp2
    go_ret
    exact ⟨rfl, Below.refl _ _⟩
  have hm2 : n2 ≤ maxLen := hm2
  have hn2 : n2 ≤ 1048576 := by omega
  unfold maxLen at hm3
  by_cases hbig3 : (1048576 : Int) < (n3 : Int)
  · clear hs1 wx1 hs2 wx2 hs3 wx3
    go_enter Try.func13, Try.ntmps13
    go_wp2
    go_ret
    exact ⟨rfl, Below.refl _ _⟩
  have hm3 : n3 ≤ maxLen := hm3
  have hn3 : n3 ≤ 1048576 := by omega
  have HS1 := hide hs1
  clear hs1
  have HS2 := hide hs2
  clear hs2
  have HS3 := hide hs3
  clear hs3
  have WX1 := hide wx1
  clear wx1
  have WX2 := hide wx2
  clear wx2
  have WX3 := hide wx3
  clear wx3
  obtain ⟨w0, hw0⟩ : ∃ u, u = w := ⟨_, rfl⟩
  have HB0 : Hid (Below w.heap.size w w0) := by rw [hw0]; exact (Below.refl w.heap.size w)
  have hs0 : w.heap.size ≤ w0.heap.size := HB0.out.size
  have HW := hide hw0
  clear hw0
  go_enter Try.func13, Try.ntmps13
  obtain ⟨L0, hL0⟩ : ∃ q, lenV (rfP v0 x1 n1 x2 n2 x3 n3) n1 = q := ⟨_, rfl⟩
  obtain ⟨T0, hT0⟩ : ∃ q, tru (rfP v0 x1 n1 x2 n2 x3 n3) = q := ⟨_, rfl⟩
  have hM0 : L0 ≤ 1048576 := by rw [← hL0]; exact Nat.le_trans (lenV_le _ _) hn1
  have HL0 := hide hL0
  clear hL0
  have HT0 := hide hT0
  clear hT0
  go_wp2_with fail
  rw [← HW.out]
  clear HW
  refine (toFlW_any A1 n1 c1 x1 _ hn1 (HS1.out.below HB0.out)).mono ?_
  rintro e w1 ⟨gs1_, rfl, hb, ho⟩
  have HN := hide ho
  clear ho
  have HB1 := hide (HB0.out.trans (hb.mono HB0.out.size))
  have hs1 : w0.heap.size ≤ w1.heap.size := hb.size
  clear hb
  have HOs1__1 := HN
  clear HN
  go_wp2_with fail
  refine (toFlW_any A2 n2 c2 x2 _ hn2 (HS2.out.below HB1.out)).mono ?_
  rintro e w2 ⟨gs2_, rfl, hb, ho⟩
  have HN := hide ho
  clear ho
  have HB2 := hide (HB1.out.trans (hb.mono HB1.out.size))
  have hs2 : w1.heap.size ≤ w2.heap.size := hb.size
  have HOs1__2 := hide (HOs1__1.out.below hb)
  clear HOs1__1
  clear hb
  have HOs2__2 := HN
  clear HN
  go_wp2_with fail
  refine (toFlW_any A3 n3 c3 x3 _ hn3 (HS3.out.below HB2.out)).mono ?_
  rintro e w3 ⟨gs3_, rfl, hb, ho⟩
  have HN := hide ho
  clear ho
  have HB3 := hide (HB2.out.trans (hb.mono HB2.out.size))
  have hs3 : w2.heap.size ≤ w3.heap.size := hb.size
  have HOs1__3 := hide (HOs1__2.out.below hb)
  clear HOs1__2
  have HOs2__3 := hide (HOs2__2.out.below hb)
  clear HOs2__2
  clear hb
  have HOs3__3 := HN
  clear HN
  go_wp2_with fail
  refine (specRunF_any v0 _ n1 n1 x1 _ n2 n2 x2 _ n3 n3 x3 w3 hm1 HOs1__3.out.sl WX1.out hm2 HOs2__3.out.sl WX2.out hm3 HOs3__3.out.sl WX3.out).mono ?_
  rintro e w4 ⟨W0, W0d, W0z, rfl, ho0, hz0, hb⟩
  (try rw [HL0.out])
  (try rw [HT0.out])
  (try rw [HL0.out] at ho0)
  (try rw [HL0.out] at hz0)
  (try rw [HT0.out] at ho0)
  (try rw [HT0.out] at hz0)
  have Qho0 := hide ho0
  clear ho0
  have Qhz0 := hide hz0
  clear hz0
  have HB4 := hide (HB3.out.trans (hb.mono HB3.out.size))
  have hs4 : w3.heap.size ≤ w4.heap.size := hb.size
  have HOs1__4 := hide (HOs1__3.out.below hb)
  clear HOs1__3
  have HOs2__4 := hide (HOs2__3.out.below hb)
  clear HOs2__3
  have HOs3__4 := hide (HOs3__3.out.below hb)
  clear HOs3__3
  clear hb
  have HOW0_4 := Qho0
  clear Qho0
  have HZW0 := Qhz0
  clear Qhz0
  clear HOs1__4
  clear HOs2__4
  clear HOs3__4
  go_wp2_with fail
  refine (toFlW_any A1 n1 c1 x1 _ hn1 (HS1.out.below HB4.out)).mono ?_
  rintro e w5 ⟨gx1_, rfl, hb, ho⟩
  have HN := hide ho
  clear ho
  have HB5 := hide (HB4.out.trans (hb.mono HB4.out.size))
  have hs5 : w4.heap.size ≤ w5.heap.size := hb.size
  have HOW0_5 := hide (HOW0_4.out.below hb)
  clear HOW0_4
  clear hb
  have HOx1__5 := HN
  clear HN
  go_wp2_with fail
  refine (toFlW_any A2 n2 c2 x2 _ hn2 (HS2.out.below HB5.out)).mono ?_
  rintro e w6 ⟨gx2_, rfl, hb, ho⟩
  have HN := hide ho
  clear ho
  have HB6 := hide (HB5.out.trans (hb.mono HB5.out.size))
  have hs6 : w5.heap.size ≤ w6.heap.size := hb.size
  have HOW0_6 := hide (HOW0_5.out.below hb)
  clear HOW0_5
  have HOx1__6 := hide (HOx1__5.out.below hb)
  clear HOx1__5
  clear hb
  have HOx2__6 := HN
  clear HN
  go_wp2_with fail
  refine (toFlW_any A3 n3 c3 x3 _ hn3 (HS3.out.below HB6.out)).mono ?_
  rintro e w7 ⟨gx3_, rfl, hb, ho⟩
  have HN := hide ho
  clear ho
  have HB7 := hide (HB6.out.trans (hb.mono HB6.out.size))
  have hs7 : w6.heap.size ≤ w7.heap.size := hb.size
  have HOW0_7 := hide (HOW0_6.out.below hb)
  clear HOW0_6
  have HOx1__7 := hide (HOx1__6.out.below hb)
  clear HOx1__6
  have HOx2__7 := hide (HOx2__6.out.below hb)
  clear HOx2__6
  clear hb
  have HOx3__7 := HN
  clear HN
  go_wp2_with fail
  refine (implRunF_any v0 _ n1 n1 x1 _ n2 n2 x2 _ n3 n3 x3 w7 hm1 HOx1__7.out.sl WX1.out hm2 HOx2__7.out.sl WX2.out hm3 HOx3__7.out.sl WX3.out).mono ?_
  rintro e w8 ⟨R0, R0d, R0z, rfl, ho0, hz0, hb⟩
  (try rw [HL0.out])
  (try rw [HT0.out])
  (try rw [HL0.out] at ho0)
  (try rw [HL0.out] at hz0)
  (try rw [HT0.out] at ho0)
  (try rw [HT0.out] at hz0)
  have Qho0 := hide ho0
  clear ho0
  have Qhz0 := hide hz0
  clear hz0
  have HB8 := hide (HB7.out.trans (hb.mono HB7.out.size))
  have hs8 : w7.heap.size ≤ w8.heap.size := hb.size
  have HOW0_8 := hide (HOW0_7.out.below hb)
  clear HOW0_7
  have HOx1__8 := hide (HOx1__7.out.below hb)
  clear HOx1__7
  have HOx2__8 := hide (HOx2__7.out.below hb)
  clear HOx2__7
  have HOx3__8 := hide (HOx3__7.out.below hb)
  clear HOx3__7
  clear hb
  have HOR0_8 := Qho0
  clear Qho0
  have HZR0 := Qhz0
  clear Qhz0
  go_wp2_with fail
  refine (eqFl_any _ _ L0 _ _ R0z W0z _ (by unfold maxLen; omega) HOR0_8.out.sl HOW0_8.out.sl (fun j hj => (HZR0.out j hj).trans (HZW0.out j hj).symm)).mono ?_
  rintro e w9 ⟨rfl, q, hq⟩
  have hb : Below w8.heap.size w8 w9 := by rw [hq]; first | exact bel_q (Below.refl _ _) _ | exact bel_q (bel_q (Below.refl _ _) _) _
  clear hq
  have HB9 := hide (HB8.out.trans (hb.mono HB8.out.size))
  have hs9 : w8.heap.size ≤ w9.heap.size := hb.size
  have HOW0_9 := hide (HOW0_8.out.below hb)
  clear HOW0_8
  have HOx1__9 := hide (HOx1__8.out.below hb)
  clear HOx1__8
  have HOx2__9 := hide (HOx2__8.out.below hb)
  clear HOx2__8
  have HOx3__9 := hide (HOx3__8.out.below hb)
  clear HOx3__8
  have HOR0_9 := hide (HOR0_8.out.below hb)
  clear HOR0_8
  clear hb
  go_wp2_with fail
  refine (toFlW_any A1 n1 c1 x1 _ hn1 (HS1.out.below HB9.out)).mono ?_
  rintro e w10 ⟨gt, rfl, hb, ho⟩
  have HN := hide ho
  clear ho
  have HB10 := hide (HB9.out.trans (hb.mono HB9.out.size))
  have hs10 : w9.heap.size ≤ w10.heap.size := hb.size
  have HOW0_10 := hide (HOW0_9.out.below hb)
  clear HOW0_9
  have HOx1__10 := hide (HOx1__9.out.below hb)
  clear HOx1__9
  have HOx2__10 := hide (HOx2__9.out.below hb)
  clear HOx2__9
  have HOx3__10 := hide (HOx3__9.out.below hb)
  clear HOx3__9
  have HOR0_10 := hide (HOR0_9.out.below hb)
  clear HOR0_9
  clear hb
  have HOt_10 := HN
  clear HN
  go_wp2_with fail
  refine (eqFl_any _ _ n1 n1 n1 x1 x1 _ hm1 HOx1__10.out.sl HOt_10.out.sl (fun _ _ => FS.refl _ _)).mono ?_
  rintro e w11 ⟨rfl, q, hq⟩
  have hb : Below w10.heap.size w10 w11 := by rw [hq]; first | exact bel_q (Below.refl _ _) _ | exact bel_q (bel_q (Below.refl _ _) _) _
  clear hq
  have HB11 := hide (HB10.out.trans (hb.mono HB10.out.size))
  have hs11 : w10.heap.size ≤ w11.heap.size := hb.size
  have HOW0_11 := hide (HOW0_10.out.below hb)
  clear HOW0_10
  have HOx1__11 := hide (HOx1__10.out.below hb)
  clear HOx1__10
  have HOx2__11 := hide (HOx2__10.out.below hb)
  clear HOx2__10
  have HOx3__11 := hide (HOx3__10.out.below hb)
  clear HOx3__10
  have HOR0_11 := hide (HOR0_10.out.below hb)
  clear HOR0_10
  have HOt_11 := hide (HOt_10.out.below hb)
  clear HOt_10
  clear hb
  clear HOt_11
  go_wp2_with fail
  refine (toFlW_any A2 n2 c2 x2 _ hn2 (HS2.out.below HB11.out)).mono ?_
  rintro e w12 ⟨gt, rfl, hb, ho⟩
  have HN := hide ho
  clear ho
  have HB12 := hide (HB11.out.trans (hb.mono HB11.out.size))
  have hs12 : w11.heap.size ≤ w12.heap.size := hb.size
  have HOW0_12 := hide (HOW0_11.out.below hb)
  clear HOW0_11
  have HOx1__12 := hide (HOx1__11.out.below hb)
  clear HOx1__11
  have HOx2__12 := hide (HOx2__11.out.below hb)
  clear HOx2__11
  have HOx3__12 := hide (HOx3__11.out.below hb)
  clear HOx3__11
  have HOR0_12 := hide (HOR0_11.out.below hb)
  clear HOR0_11
  clear hb
  have HOt_12 := HN
  clear HN
  go_wp2_with fail
  refine (eqFl_any _ _ n2 n2 n2 x2 x2 _ hm2 HOx2__12.out.sl HOt_12.out.sl (fun _ _ => FS.refl _ _)).mono ?_
  rintro e w13 ⟨rfl, q, hq⟩
  have hb : Below w12.heap.size w12 w13 := by rw [hq]; first | exact bel_q (Below.refl _ _) _ | exact bel_q (bel_q (Below.refl _ _) _) _
  clear hq
  have HB13 := hide (HB12.out.trans (hb.mono HB12.out.size))
  have hs13 : w12.heap.size ≤ w13.heap.size := hb.size
  have HOW0_13 := hide (HOW0_12.out.below hb)
  clear HOW0_12
  have HOx1__13 := hide (HOx1__12.out.below hb)
  clear HOx1__12
  have HOx2__13 := hide (HOx2__12.out.below hb)
  clear HOx2__12
  have HOx3__13 := hide (HOx3__12.out.below hb)
  clear HOx3__12
  have HOR0_13 := hide (HOR0_12.out.below hb)
  clear HOR0_12
  have HOt_13 := hide (HOt_12.out.below hb)
  clear HOt_12
  clear hb
  clear HOt_13
  go_wp2_with fail
  refine (toFlW_any A3 n3 c3 x3 _ hn3 (HS3.out.below HB13.out)).mono ?_
  rintro e w14 ⟨gt, rfl, hb, ho⟩
  have HN := hide ho
  clear ho
  have HB14 := hide (HB13.out.trans (hb.mono HB13.out.size))
  have hs14 : w13.heap.size ≤ w14.heap.size := hb.size
  have HOW0_14 := hide (HOW0_13.out.below hb)
  clear HOW0_13
  have HOx1__14 := hide (HOx1__13.out.below hb)
  clear HOx1__13
  have HOx2__14 := hide (HOx2__13.out.below hb)
  clear HOx2__13
  have HOx3__14 := hide (HOx3__13.out.below hb)
  clear HOx3__13
  have HOR0_14 := hide (HOR0_13.out.below hb)
  clear HOR0_13
  clear hb
  have HOt_14 := HN
  clear HN
  go_wp2_with fail
  refine (eqFl_any _ _ n3 n3 n3 x3 x3 _ hm3 HOx3__14.out.sl HOt_14.out.sl (fun _ _ => FS.refl _ _)).mono ?_
  rintro e w15 ⟨rfl, q, hq⟩
  have hb : Below w14.heap.size w14 w15 := by rw [hq]; first | exact bel_q (Below.refl _ _) _ | exact bel_q (bel_q (Below.refl _ _) _) _
  clear hq
  have HB15 := hide (HB14.out.trans (hb.mono HB14.out.size))
  have hs15 : w14.heap.size ≤ w15.heap.size := hb.size
  have HOW0_15 := hide (HOW0_14.out.below hb)
  clear HOW0_14
  have HOx1__15 := hide (HOx1__14.out.below hb)
  clear HOx1__14
  have HOx2__15 := hide (HOx2__14.out.below hb)
  clear HOx2__14
  have HOx3__15 := hide (HOx3__14.out.below hb)
  clear HOx3__14
  have HOR0_15 := hide (HOR0_14.out.below hb)
  clear HOR0_14
  have HOt_15 := hide (HOt_14.out.below hb)
  clear HOt_14
  clear hb
  clear HOt_15
  go_wp2_with fail
  refine (markFl_any _ n1 _ w4.heap.size w5.heap.size x1 (1) w15 hn1 (by omega) (by omega) HOx1__15.out).mono ?_
  rintro e w16 ⟨rfl, ho, hw⟩
  have HN := hide ho
  clear ho HOx1__15
  replace hw : Marked w4.heap.size w5.heap.size w15 w16 := marked_of hw
  have hs16 : w15.heap.size ≤ w16.heap.size := hw.size
  have HB16 := hide (HB15.out.trans (hw.bel (B := w.heap.size) (by omega) (by omega)))
  have HOW0_16 := hide (HOW0_15.out.marked hw (by omega))
  clear HOW0_15
  have HOx2__16 := hide (HOx2__15.out.marked hw (by omega))
  clear HOx2__15
  have HOx3__16 := hide (HOx3__15.out.marked hw (by omega))
  clear HOx3__15
  have HOR0_16 := hide (HOR0_15.out.marked hw (by omega))
  clear HOR0_15
  clear hw
  have HOx1__16 := HN
  clear HN
  go_wp2_with fail
  refine (markFl_any _ n2 _ w5.heap.size w6.heap.size x2 (1 + n1) w16 hn2 (by omega) (by omega) HOx2__16.out).mono ?_
  rintro e w17 ⟨rfl, ho, hw⟩
  have HN := hide ho
  clear ho HOx2__16
  replace hw : Marked w5.heap.size w6.heap.size w16 w17 := marked_of hw
  have hs17 : w16.heap.size ≤ w17.heap.size := hw.size
  have HB17 := hide (HB16.out.trans (hw.bel (B := w.heap.size) (by omega) (by omega)))
  have HOW0_17 := hide (HOW0_16.out.marked hw (by omega))
  clear HOW0_16
  have HOx1__17 := hide (HOx1__16.out.marked hw (by omega))
  clear HOx1__16
  have HOx3__17 := hide (HOx3__16.out.marked hw (by omega))
  clear HOx3__16
  have HOR0_17 := hide (HOR0_16.out.marked hw (by omega))
  clear HOR0_16
  clear hw
  have HOx2__17 := HN
  clear HN
  go_wp2_with fail
  refine (markFl_any _ n3 _ w6.heap.size w7.heap.size x3 (1 + n1 + n2) w17 hn3 (by omega) (by omega) HOx3__17.out).mono ?_
  rintro e w18 ⟨rfl, ho, hw⟩
  have HN := hide ho
  clear ho HOx3__17
  replace hw : Marked w6.heap.size w7.heap.size w17 w18 := marked_of hw
  have hs18 : w17.heap.size ≤ w18.heap.size := hw.size
  have HB18 := hide (HB17.out.trans (hw.bel (B := w.heap.size) (by omega) (by omega)))
  have HOW0_18 := hide (HOW0_17.out.marked hw (by omega))
  clear HOW0_17
  have HOx1__18 := hide (HOx1__17.out.marked hw (by omega))
  clear HOx1__17
  have HOx2__18 := hide (HOx2__17.out.marked hw (by omega))
  clear HOx2__17
  have HOR0_18 := hide (HOR0_17.out.marked hw (by omega))
  clear HOR0_17
  clear hw
  have HOx3__18 := HN
  clear HN
  clear HOx1__18
  clear HOx2__18
  clear HOx3__18
  go_wp2_with fail
  refine (eqFl_any _ _ L0 _ _ R0z W0z _ (by unfold maxLen; omega) HOR0_18.out.sl HOW0_18.out.sl (fun j hj => (HZR0.out j hj).trans (HZW0.out j hj).symm)).mono ?_
  rintro e w19 ⟨rfl, q, hq⟩
  have hb : Below w18.heap.size w18 w19 := by rw [hq]; first | exact bel_q (Below.refl _ _) _ | exact bel_q (bel_q (Below.refl _ _) _) _
  clear hq
  have HB19 := hide (HB18.out.trans (hb.mono HB18.out.size))
  have hs19 : w18.heap.size ≤ w19.heap.size := hb.size
  have HOW0_19 := hide (HOW0_18.out.below hb)
  clear HOW0_18
  have HOR0_19 := hide (HOR0_18.out.below hb)
  clear HOR0_18
  clear hb
  go_wp2_with fail
  refine (markFl_any _ L0 _ w7.heap.size w8.heap.size R0z (1) w19 hM0 (by omega) (by omega) HOR0_19.out).mono ?_
  rintro e w20 ⟨rfl, ho, hw⟩
  have HN := hide ho
  clear ho HOR0_19
  replace hw : Marked w7.heap.size w8.heap.size w19 w20 := marked_of hw
  have hs20 : w19.heap.size ≤ w20.heap.size := hw.size
  have HB20 := hide (HB19.out.trans (hw.bel (B := w.heap.size) (by omega) (by omega)))
  have HOW0_20 := hide (HOW0_19.out.marked hw (by omega))
  clear HOW0_19
  clear hw
  have HOR0_20 := HN
  clear HN
  go_wp2_with fail
  refine (heldFl_any _ L0 _ (1) _ hM0 (by omega) (by omega) HOR0_20.out.sl).mono ?_
  rintro e w21 ⟨rfl, q, hq⟩
  have hb : Below w20.heap.size w20 w21 := by rw [hq]; first | exact bel_q (Below.refl _ _) _ | exact bel_q (bel_q (Below.refl _ _) _) _
  clear hq
  have HB21 := hide (HB20.out.trans (hb.mono HB20.out.size))
  have hs21 : w20.heap.size ≤ w21.heap.size := hb.size
  have HOW0_21 := hide (HOW0_20.out.below hb)
  clear HOW0_20
  have HOR0_21 := hide (HOR0_20.out.below hb)
  clear HOR0_20
  clear hb
  go_wp2_with fail
  refine (toFlW_any A1 n1 c1 x1 _ hn1 (HS1.out.below HB21.out)).mono ?_
  rintro e w22 ⟨gh1_, rfl, hb, ho⟩
  have HN := hide ho
  clear ho
  have HB22 := hide (HB21.out.trans (hb.mono HB21.out.size))
  have hs22 : w21.heap.size ≤ w22.heap.size := hb.size
  have HOW0_22 := hide (HOW0_21.out.below hb)
  clear HOW0_21
  have HOR0_22 := hide (HOR0_21.out.below hb)
  clear HOR0_21
  clear hb
  have HOh1__22 := HN
  clear HN
  go_wp2_with fail
  refine (toFlW_any A2 n2 c2 x2 _ hn2 (HS2.out.below HB22.out)).mono ?_
  rintro e w23 ⟨gh2_, rfl, hb, ho⟩
  have HN := hide ho
  clear ho
  have HB23 := hide (HB22.out.trans (hb.mono HB22.out.size))
  have hs23 : w22.heap.size ≤ w23.heap.size := hb.size
  have HOW0_23 := hide (HOW0_22.out.below hb)
  clear HOW0_22
  have HOR0_23 := hide (HOR0_22.out.below hb)
  clear HOR0_22
  have HOh1__23 := hide (HOh1__22.out.below hb)
  clear HOh1__22
  clear hb
  have HOh2__23 := HN
  clear HN
  go_wp2_with fail
  refine (toFlW_any A3 n3 c3 x3 _ hn3 (HS3.out.below HB23.out)).mono ?_
  rintro e w24 ⟨gh3_, rfl, hb, ho⟩
  have HN := hide ho
  clear ho
  have HB24 := hide (HB23.out.trans (hb.mono HB23.out.size))
  have hs24 : w23.heap.size ≤ w24.heap.size := hb.size
  have HOW0_24 := hide (HOW0_23.out.below hb)
  clear HOW0_23
  have HOR0_24 := hide (HOR0_23.out.below hb)
  clear HOR0_23
  have HOh1__24 := hide (HOh1__23.out.below hb)
  clear HOh1__23
  have HOh2__24 := hide (HOh2__23.out.below hb)
  clear HOh2__23
  clear hb
  have HOh3__24 := HN
  clear HN
  go_wp2_with fail
  refine (implRunF_any v0 _ n1 n1 x1 _ n2 n2 x2 _ n3 n3 x3 w24 hm1 HOh1__24.out.sl WX1.out hm2 HOh2__24.out.sl WX2.out hm3 HOh3__24.out.sl WX3.out).mono ?_
  rintro e w25 ⟨Q0, Q0d, Q0z, rfl, ho0, hz0, hb⟩
  (try rw [HL0.out])
  (try rw [HT0.out])
  (try rw [HL0.out] at ho0)
  (try rw [HL0.out] at hz0)
  (try rw [HT0.out] at ho0)
  (try rw [HT0.out] at hz0)
  have Qho0 := hide ho0
  clear ho0
  have Qhz0 := hide hz0
  clear hz0
  have HB25 := hide (HB24.out.trans (hb.mono HB24.out.size))
  have hs25 : w24.heap.size ≤ w25.heap.size := hb.size
  have HOW0_25 := hide (HOW0_24.out.below hb)
  clear HOW0_24
  have HOR0_25 := hide (HOR0_24.out.below hb)
  clear HOR0_24
  have HOh1__25 := hide (HOh1__24.out.below hb)
  clear HOh1__24
  have HOh2__25 := hide (HOh2__24.out.below hb)
  clear HOh2__24
  have HOh3__25 := hide (HOh3__24.out.below hb)
  clear HOh3__24
  clear hb
  have HOQ0_25 := Qho0
  clear Qho0
  have HZQ0 := Qhz0
  clear Qhz0
  clear HOh1__25
  clear HOh2__25
  clear HOh3__25
  go_wp2_with fail
  refine (eqFl_any _ _ L0 _ _ Q0z W0z _ (by unfold maxLen; omega) HOQ0_25.out.sl HOW0_25.out.sl (fun j hj => (HZQ0.out j hj).trans (HZW0.out j hj).symm)).mono ?_
  rintro e w26 ⟨rfl, q, hq⟩
  have hb : Below w25.heap.size w25 w26 := by rw [hq]; first | exact bel_q (Below.refl _ _) _ | exact bel_q (bel_q (Below.refl _ _) _) _
  clear hq
  have HB26 := hide (HB25.out.trans (hb.mono HB25.out.size))
  have hs26 : w25.heap.size ≤ w26.heap.size := hb.size
  have HOW0_26 := hide (HOW0_25.out.below hb)
  clear HOW0_25
  have HOR0_26 := hide (HOR0_25.out.below hb)
  clear HOR0_25
  have HOQ0_26 := hide (HOQ0_25.out.below hb)
  clear HOQ0_25
  clear hb
  go_wp2_with fail
  refine (heldFl_any _ L0 _ (1) _ hM0 (by omega) (by omega) HOR0_26.out.sl).mono ?_
  rintro e w27 ⟨rfl, q, hq⟩
  have hb : Below w26.heap.size w26 w27 := by rw [hq]; first | exact bel_q (Below.refl _ _) _ | exact bel_q (bel_q (Below.refl _ _) _) _
  clear hq
  have HB27 := hide (HB26.out.trans (hb.mono HB26.out.size))
  have hs27 : w26.heap.size ≤ w27.heap.size := hb.size
  have HOW0_27 := hide (HOW0_26.out.below hb)
  clear HOW0_26
  have HOR0_27 := hide (HOR0_26.out.below hb)
  clear HOR0_26
  have HOQ0_27 := hide (HOQ0_26.out.below hb)
  clear HOQ0_26
  clear hb
  go_wp2_with fail
  go_ret
  exact ⟨rfl, HB27.out⟩
end Go.Proofs.Ytelcknddbikgaaa
