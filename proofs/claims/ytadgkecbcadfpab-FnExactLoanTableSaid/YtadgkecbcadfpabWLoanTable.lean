/- The law FnExactLoanTable, walked. -/
import Derived.Test.YtadgkecbcadfpabLt
import Derived.Test.YtadgkecbcadfpabMk
import Derived.Test.YtadgkecbcadfpabRow
namespace Go.Proofs.Ytadgkecbcadfpab
open Go.RowKit Go.Dues
set_option maxRecDepth 100000 in
set_option maxHeartbeats 4000000 in
theorem lawLoanTable_any (v0 : Int) (v1 : Int) (v2 : Int) (v3 : Int) (w : World) (wv0 : -9223372036854775808 ≤ v0 ∧ v0 ≤ 9223372036854775807) (wv1 : -9223372036854775808 ≤ v1 ∧ v1 ≤ 9223372036854775807) (wv2 : -9223372036854775808 ≤ v2 ∧ v2 ≤ 9223372036854775807) (wv3 : -9223372036854775808 ≤ v3 ∧ v3 ≤ 9223372036854775807) :
    Calls Try.prog 10 #[.int .i64 v0, .int .i64 v1, .int .i64 v2, .int .i64 v3] w fun e w' => e = .returned (.bool true) ∧ Below w.heap.size w w' := by
  have WV0 := hide wv0
  clear wv0
  have WV1 := hide wv1
  clear wv1
  have WV2 := hide wv2
  clear wv2
  have WV3 := hide wv3
  clear wv3
  obtain ⟨w0, hw0⟩ : ∃ u, u = w := ⟨_, rfl⟩
  have HB0 : Hid (Below w.heap.size w w0) := by rw [hw0]; exact Below.refl _ _
  have hs0 : w.heap.size ≤ w0.heap.size := by rw [hw0]; exact Nat.le_refl _
  have HW := hide hw0
  clear hw0
  go_enter Try.func10, Try.ntmps10
  go_wp2_with fail
  rw [← HW.out]
  clear HW
  refine (specLoanTable_any v0 v1 v2 v3 _ ).mono ?_
  intro e w1 hgave
  obtain ⟨W, Wc, W', Wc', lW, hW, lW', hW', rfl, ho, ho', e1W, e2W, e3W, e4W, e5W, e6W, e7W, hb⟩ := gave2_split hgave
  clear hgave
  have HOW_1 := hide ho
  have HOW'_1 := hide ho'
  clear ho ho'
  have HB1 := hide (HB0.out.trans (hb.mono HB0.out.size))
  have hs1 : w0.heap.size ≤ w1.heap.size := hb.size
  clear hb
  go_wp2_with fail
  refine (implLoanTable_any v0 v1 v2 v3 _ ).mono ?_
  intro e w2 hgave
  obtain ⟨R, Rc, R', Rc', lR, hR, lR', hR', rfl, ho, ho', e1R, e2R, e3R, e4R, e5R, e6R, e7R, hb⟩ := gave2_split hgave
  clear hgave
  have HOR_2 := hide ho
  have HOR'_2 := hide ho'
  clear ho ho'
  have HB2 := hide (HB1.out.trans (hb.mono HB1.out.size))
  have hs2 : w1.heap.size ≤ w2.heap.size := hb.size
  have HOW_2 := hide (HOW_1.out.below hb)
  clear HOW_1
  have HOW'_2 := hide (HOW'_1.out.below hb)
  clear HOW'_1
  clear hb
  go_wp2_with fail
  refine (eqIs_any _ _ (lenV (tabP v0 v1 v2 v3) v3.toNat) _ _ _ _ (by unfold maxLen; have := (show lenV (tabP v0 v1 v2 v3) v3.toNat ≤ 1048576 from len120 v3); omega) HOR_2.out.sl HOW_2.out.sl).mono ?_
  rintro e w3 ⟨rfl, q, hq⟩
  have hb : Below w2.heap.size w2 w3 := by rw [hq]; exact bel_drewN (Below.refl _ _) _
  clear hq
  have HB3 := hide (HB2.out.trans (hb.mono HB2.out.size))
  have hs3 : w2.heap.size ≤ w3.heap.size := hb.size
  have HOW_3 := hide (HOW_2.out.below hb)
  clear HOW_2
  have HOW'_3 := hide (HOW'_2.out.below hb)
  clear HOW'_2
  have HOR_3 := hide (HOR_2.out.below hb)
  clear HOR_2
  have HOR'_3 := hide (HOR'_2.out.below hb)
  clear HOR'_2
  clear hb
  go_wp2_with fail
  refine (eqIs_any _ _ (lenV (tabP v0 v1 v2 v3) v3.toNat) _ _ _ _ (by unfold maxLen; have := (show lenV (tabP v0 v1 v2 v3) v3.toNat ≤ 1048576 from len120 v3); omega) HOR'_3.out.sl HOW'_3.out.sl).mono ?_
  rintro e w4 ⟨rfl, q, hq⟩
  have hb : Below w3.heap.size w3 w4 := by rw [hq]; exact bel_drewN (Below.refl _ _) _
  clear hq
  have HB4 := hide (HB3.out.trans (hb.mono HB3.out.size))
  have hs4 : w3.heap.size ≤ w4.heap.size := hb.size
  have HOW_4 := hide (HOW_3.out.below hb)
  clear HOW_3
  have HOW'_4 := hide (HOW'_3.out.below hb)
  clear HOW'_3
  have HOR_4 := hide (HOR_3.out.below hb)
  clear HOR_3
  have HOR'_4 := hide (HOR'_3.out.below hb)
  clear HOR'_3
  clear hb
  have hM0 := (show lenV (tabP v0 v1 v2 v3) v3.toNat ≤ 1048576 from len120 v3)
  have hM1 := (show lenV (tabP v0 v1 v2 v3) v3.toNat ≤ 1048576 from len120 v3)
  go_wp2_with fail
  refine (markIs_any _ (lenV (tabP v0 v1 v2 v3) v3.toNat) _ lR hR _ (1) _ (hM0) (by omega) (by omega) HOR_4.out).mono ?_
  rintro e w5 ⟨rfl, ho, hw⟩
  have HOR_5 := hide ho
  clear ho HOR_4
  replace hw : Marked lR hR w4 w5 := marked_of hw
  have hs5 : w4.heap.size ≤ w5.heap.size := hw.size
  have HB5 := hide (HB4.out.trans (hw.bel (B := w.heap.size) (by omega) (by omega)))
  have HOW_5 := hide (HOW_4.out.marked hw (by omega))
  clear HOW_4
  have HOW'_5 := hide (HOW'_4.out.marked hw (by omega))
  clear HOW'_4
  have HOR'_5 := hide (HOR'_4.out.marked hw (by omega))
  clear HOR'_4
  clear hw
  go_wp2_with fail
  refine (markIs_any _ (lenV (tabP v0 v1 v2 v3) v3.toNat) _ lR' hR' _ (1 + (lenV (tabP v0 v1 v2 v3) v3.toNat)) _ (hM1) (by omega) (by omega) HOR'_5.out).mono ?_
  rintro e w6 ⟨rfl, ho, hw⟩
  have HOR'_6 := hide ho
  clear ho HOR'_5
  replace hw : Marked lR' hR' w5 w6 := marked_of hw
  have hs6 : w5.heap.size ≤ w6.heap.size := hw.size
  have HB6 := hide (HB5.out.trans (hw.bel (B := w.heap.size) (by omega) (by omega)))
  have HOW_6 := hide (HOW_5.out.marked hw (by omega))
  clear HOW_5
  have HOW'_6 := hide (HOW'_5.out.marked hw (by omega))
  clear HOW'_5
  have HOR_6 := hide (HOR_5.out.marked hw (by omega))
  clear HOR_5
  clear hw
  go_wp2_with fail
  refine (heldIs_any _ (lenV (tabP v0 v1 v2 v3) v3.toNat) _ (1) _ hM0 (by omega) (by omega) HOR_6.out.sl).mono ?_
  rintro e w7 ⟨rfl, q, hq⟩
  have hb : Below w6.heap.size w6 w7 := by rw [hq]; exact bel_drewN (Below.refl _ _) _
  clear hq
  have HB7 := hide (HB6.out.trans (hb.mono HB6.out.size))
  have hs7 : w6.heap.size ≤ w7.heap.size := hb.size
  have HOW_7 := hide (HOW_6.out.below hb)
  clear HOW_6
  have HOW'_7 := hide (HOW'_6.out.below hb)
  clear HOW'_6
  have HOR_7 := hide (HOR_6.out.below hb)
  clear HOR_6
  have HOR'_7 := hide (HOR'_6.out.below hb)
  clear HOR'_6
  clear hb
  go_wp2_with fail
  refine (heldIs_any _ (lenV (tabP v0 v1 v2 v3) v3.toNat) _ (1 + (lenV (tabP v0 v1 v2 v3) v3.toNat)) _ hM1 (by omega) (by omega) HOR'_7.out.sl).mono ?_
  rintro e w8 ⟨rfl, q, hq⟩
  have hb : Below w7.heap.size w7 w8 := by rw [hq]; exact bel_drewN (Below.refl _ _) _
  clear hq
  have HB8 := hide (HB7.out.trans (hb.mono HB7.out.size))
  have hs8 : w7.heap.size ≤ w8.heap.size := hb.size
  have HOW_8 := hide (HOW_7.out.below hb)
  clear HOW_7
  have HOW'_8 := hide (HOW'_7.out.below hb)
  clear HOW'_7
  have HOR_8 := hide (HOR_7.out.below hb)
  clear HOR_7
  have HOR'_8 := hide (HOR'_7.out.below hb)
  clear HOR'_7
  clear hb
  go_wp2_with fail
  refine (implLoanTable_any v0 v1 v2 v3 _ ).mono ?_
  intro e w9 hgave
  obtain ⟨Q, Qc, Q', Qc', lQ, hQ, lQ', hQ', rfl, ho, ho', e1Q, e2Q, e3Q, e4Q, e5Q, e6Q, e7Q, hb⟩ := gave2_split hgave
  clear hgave
  have HOQ_9 := hide ho
  have HOQ'_9 := hide ho'
  clear ho ho'
  have HB9 := hide (HB8.out.trans (hb.mono HB8.out.size))
  have hs9 : w8.heap.size ≤ w9.heap.size := hb.size
  have HOW_9 := hide (HOW_8.out.below hb)
  clear HOW_8
  have HOW'_9 := hide (HOW'_8.out.below hb)
  clear HOW'_8
  have HOR_9 := hide (HOR_8.out.below hb)
  clear HOR_8
  have HOR'_9 := hide (HOR'_8.out.below hb)
  clear HOR'_8
  clear hb
  go_wp2_with fail
  refine (eqIs_any _ _ (lenV (tabP v0 v1 v2 v3) v3.toNat) _ _ _ _ (by unfold maxLen; have := (show lenV (tabP v0 v1 v2 v3) v3.toNat ≤ 1048576 from len120 v3); omega) HOQ_9.out.sl HOW_9.out.sl).mono ?_
  rintro e w10 ⟨rfl, q, hq⟩
  have hb : Below w9.heap.size w9 w10 := by rw [hq]; exact bel_drewN (Below.refl _ _) _
  clear hq
  have HB10 := hide (HB9.out.trans (hb.mono HB9.out.size))
  have hs10 : w9.heap.size ≤ w10.heap.size := hb.size
  have HOW_10 := hide (HOW_9.out.below hb)
  clear HOW_9
  have HOW'_10 := hide (HOW'_9.out.below hb)
  clear HOW'_9
  have HOR_10 := hide (HOR_9.out.below hb)
  clear HOR_9
  have HOR'_10 := hide (HOR'_9.out.below hb)
  clear HOR'_9
  have HOQ_10 := hide (HOQ_9.out.below hb)
  clear HOQ_9
  have HOQ'_10 := hide (HOQ'_9.out.below hb)
  clear HOQ'_9
  clear hb
  go_wp2_with fail
  refine (eqIs_any _ _ (lenV (tabP v0 v1 v2 v3) v3.toNat) _ _ _ _ (by unfold maxLen; have := (show lenV (tabP v0 v1 v2 v3) v3.toNat ≤ 1048576 from len120 v3); omega) HOQ'_10.out.sl HOW'_10.out.sl).mono ?_
  rintro e w11 ⟨rfl, q, hq⟩
  have hb : Below w10.heap.size w10 w11 := by rw [hq]; exact bel_drewN (Below.refl _ _) _
  clear hq
  have HB11 := hide (HB10.out.trans (hb.mono HB10.out.size))
  have hs11 : w10.heap.size ≤ w11.heap.size := hb.size
  have HOW_11 := hide (HOW_10.out.below hb)
  clear HOW_10
  have HOW'_11 := hide (HOW'_10.out.below hb)
  clear HOW'_10
  have HOR_11 := hide (HOR_10.out.below hb)
  clear HOR_10
  have HOR'_11 := hide (HOR'_10.out.below hb)
  clear HOR'_10
  have HOQ_11 := hide (HOQ_10.out.below hb)
  clear HOQ_10
  have HOQ'_11 := hide (HOQ'_10.out.below hb)
  clear HOQ'_10
  clear hb
  go_wp2_with fail
  refine (heldIs_any _ (lenV (tabP v0 v1 v2 v3) v3.toNat) _ (1) _ hM0 (by omega) (by omega) HOR_11.out.sl).mono ?_
  rintro e w12 ⟨rfl, q, hq⟩
  have hb : Below w11.heap.size w11 w12 := by rw [hq]; exact bel_drewN (Below.refl _ _) _
  clear hq
  have HB12 := hide (HB11.out.trans (hb.mono HB11.out.size))
  have hs12 : w11.heap.size ≤ w12.heap.size := hb.size
  have HOW_12 := hide (HOW_11.out.below hb)
  clear HOW_11
  have HOW'_12 := hide (HOW'_11.out.below hb)
  clear HOW'_11
  have HOR_12 := hide (HOR_11.out.below hb)
  clear HOR_11
  have HOR'_12 := hide (HOR'_11.out.below hb)
  clear HOR'_11
  have HOQ_12 := hide (HOQ_11.out.below hb)
  clear HOQ_11
  have HOQ'_12 := hide (HOQ'_11.out.below hb)
  clear HOQ'_11
  clear hb
  go_wp2_with fail
  refine (heldIs_any _ (lenV (tabP v0 v1 v2 v3) v3.toNat) _ (1 + (lenV (tabP v0 v1 v2 v3) v3.toNat)) _ hM1 (by omega) (by omega) HOR'_12.out.sl).mono ?_
  rintro e w13 ⟨rfl, q, hq⟩
  have hb : Below w12.heap.size w12 w13 := by rw [hq]; exact bel_drewN (Below.refl _ _) _
  clear hq
  have HB13 := hide (HB12.out.trans (hb.mono HB12.out.size))
  have hs13 : w12.heap.size ≤ w13.heap.size := hb.size
  have HOW_13 := hide (HOW_12.out.below hb)
  clear HOW_12
  have HOW'_13 := hide (HOW'_12.out.below hb)
  clear HOW'_12
  have HOR_13 := hide (HOR_12.out.below hb)
  clear HOR_12
  have HOR'_13 := hide (HOR'_12.out.below hb)
  clear HOR'_12
  have HOQ_13 := hide (HOQ_12.out.below hb)
  clear HOQ_12
  have HOQ'_13 := hide (HOQ'_12.out.below hb)
  clear HOQ'_12
  clear hb
  go_wp2_with fail
  go_ret
  exact ⟨rfl, HB13.out⟩
end Go.Proofs.Ytadgkecbcadfpab
