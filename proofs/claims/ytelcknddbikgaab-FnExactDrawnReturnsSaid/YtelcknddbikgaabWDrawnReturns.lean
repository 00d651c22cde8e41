/- The law FnExactDrawnReturns, walked. -/
import Derived.Test.YtelcknddbikgaabDr7
import Derived.Test.YtelcknddbikgaabPl
import Derived.Test.YtelcknddbikgaabMf
import Derived.Test.YtelcknddbikgaabRow
import Derived.Deep.RegionHeld3
namespace Go.Proofs.Ytelcknddbikgaab
open Go.RowKit Go.Dues
set_option maxRecDepth 100000 in
set_option maxHeartbeats 8000000 in
theorem lawDrawnReturns_any (v0 : Nat) (v1 : Nat) (v2 : Int) (v3 : Int) (w : World) (wv0 : v0 < 4294967296) (wv1 : v1 < 4294967296) (wv2 : -9223372036854775808 ≤ v2 ∧ v2 ≤ 9223372036854775807) (wv3 : -9223372036854775808 ≤ v3 ∧ v3 ≤ 9223372036854775807) :
    Calls Try.prog 7 #[.float .f32 v0, .float .f32 v1, .int .i64 v2, .int .i64 v3] w fun e w' => e = .returned (.bool true) ∧ Below w.heap.size w w' := by
  skip
  have WV0 := hide wv0
  clear wv0
  have WV1 := hide wv1
  clear wv1
  have WV2 := hide wv2
  clear wv2
  have WV3 := hide wv3
  clear wv3
  obtain ⟨w0, hw0⟩ : ∃ u, u = w := ⟨_, rfl⟩
  have HB0 : Hid (Below w.heap.size w w0) := by rw [hw0]; exact (Below.refl w.heap.size w)
  have hs0 : w.heap.size ≤ w0.heap.size := HB0.out.size
  have HW := hide hw0
  clear hw0
  go_enter Try.func7, Try.ntmps7
  obtain ⟨L0, hL0⟩ : ∃ q, lenV (drP v0 v1 v2 v3) v3.toNat = q := ⟨_, rfl⟩
  obtain ⟨T0, hT0⟩ : ∃ q, tru (drP v0 v1 v2 v3) = q := ⟨_, rfl⟩
  have hM0 : L0 ≤ 1048576 := by rw [← hL0]; exact dr_len
  have HL0 := hide hL0
  clear hL0
  have HT0 := hide hT0
  clear hT0
  go_wp2_with fail
  rw [← HW.out]
  clear HW
  refine (specDrawn7_any v0 v1 v2 v3 w0 ).mono ?_
  rintro e w1 ⟨W0, W0d, W0z, rfl, ho0, hz0, hb⟩
  (try rw [HL0.out])
  (try rw [HT0.out])
  (try rw [HL0.out] at ho0)
  (try rw [HL0.out] at hz0)
  (try rw [HT0.out] at ho0)
  (try rw [HT0.out] at hz0)
  have Qho0 := hide ho0
  clear ho0
  have Qhz0 := hide hz0
  clear hz0
  have HB1 := hide (HB0.out.trans (hb.mono HB0.out.size))
  have hs1 : w0.heap.size ≤ w1.heap.size := hb.size
  clear hb
  have HOW0_1 := Qho0
  clear Qho0
  have HZW0 := Qhz0
  clear Qhz0
  go_wp2_with fail
  refine (implDrawn7_any v0 v1 v2 v3 w1 ).mono ?_
  rintro e w2 ⟨R0, R0d, R0z, rfl, ho0, hz0, hb⟩
  (try rw [HL0.out])
  (try rw [HT0.out])
  (try rw [HL0.out] at ho0)
  (try rw [HL0.out] at hz0)
  (try rw [HT0.out] at ho0)
  (try rw [HT0.out] at hz0)
  have Qho0 := hide ho0
  clear ho0
  have Qhz0 := hide hz0
  clear hz0
  have HB2 := hide (HB1.out.trans (hb.mono HB1.out.size))
  have hs2 : w1.heap.size ≤ w2.heap.size := hb.size
  have HOW0_2 := hide (HOW0_1.out.below hb)
  clear HOW0_1
  clear hb
  have HOR0_2 := Qho0
  clear Qho0
  have HZR0 := Qhz0
  clear Qhz0
  go_wp2_with fail
  refine (eqFl_any _ _ L0 _ _ R0z W0z _ (by unfold maxLen; omega) HOR0_2.out.sl HOW0_2.out.sl (fun j hj => (HZR0.out j hj).trans (HZW0.out j hj).symm)).mono ?_
  rintro e w3 ⟨rfl, q, hq⟩
  have hb : Below w2.heap.size w2 w3 := by rw [hq]; first | exact bel_q (Below.refl _ _) _ | exact bel_q (bel_q (Below.refl _ _) _) _
  clear hq
  have HB3 := hide (HB2.out.trans (hb.mono HB2.out.size))
  have hs3 : w2.heap.size ≤ w3.heap.size := hb.size
  have HOW0_3 := hide (HOW0_2.out.below hb)
  clear HOW0_2
  have HOR0_3 := hide (HOR0_2.out.below hb)
  clear HOR0_2
  clear hb
  go_wp2_with fail
  refine (markFl_any _ L0 _ w1.heap.size w2.heap.size R0z (1) w3 hM0 (by omega) (by omega) HOR0_3.out).mono ?_
  rintro e w4 ⟨rfl, ho, hw⟩
  have HN := hide ho
  clear ho HOR0_3
  replace hw : Marked w1.heap.size w2.heap.size w3 w4 := marked_of hw
  have hs4 : w3.heap.size ≤ w4.heap.size := hw.size
  have HB4 := hide (HB3.out.trans (hw.bel (B := w.heap.size) (by omega) (by omega)))
  have HOW0_4 := hide (HOW0_3.out.marked hw (by omega))
  clear HOW0_3
  clear hw
  have HOR0_4 := HN
  clear HN
  go_wp2_with fail
  refine (heldFl_any _ L0 _ (1) _ hM0 (by omega) (by omega) HOR0_4.out.sl).mono ?_
  rintro e w5 ⟨rfl, q, hq⟩
  have hb : Below w4.heap.size w4 w5 := by rw [hq]; first | exact bel_q (Below.refl _ _) _ | exact bel_q (bel_q (Below.refl _ _) _) _
  clear hq
  have HB5 := hide (HB4.out.trans (hb.mono HB4.out.size))
  have hs5 : w4.heap.size ≤ w5.heap.size := hb.size
  have HOW0_5 := hide (HOW0_4.out.below hb)
  clear HOW0_4
  have HOR0_5 := hide (HOR0_4.out.below hb)
  clear HOR0_4
  clear hb
  go_wp2_with fail
  refine (implDrawn7_any v0 v1 v2 v3 w5 ).mono ?_
  rintro e w6 ⟨Q0, Q0d, Q0z, rfl, ho0, hz0, hb⟩
  (try rw [HL0.out])
  (try rw [HT0.out])
  (try rw [HL0.out] at ho0)
  (try rw [HL0.out] at hz0)
  (try rw [HT0.out] at ho0)
  (try rw [HT0.out] at hz0)
  have Qho0 := hide ho0
  clear ho0
  have Qhz0 := hide hz0
  clear hz0
  have HB6 := hide (HB5.out.trans (hb.mono HB5.out.size))
  have hs6 : w5.heap.size ≤ w6.heap.size := hb.size
  have HOW0_6 := hide (HOW0_5.out.below hb)
  clear HOW0_5
  have HOR0_6 := hide (HOR0_5.out.below hb)
  clear HOR0_5
  clear hb
  have HOQ0_6 := Qho0
  clear Qho0
  have HZQ0 := Qhz0
  clear Qhz0
  go_wp2_with fail
  refine (eqFl_any _ _ L0 _ _ Q0z W0z _ (by unfold maxLen; omega) HOQ0_6.out.sl HOW0_6.out.sl (fun j hj => (HZQ0.out j hj).trans (HZW0.out j hj).symm)).mono ?_
  rintro e w7 ⟨rfl, q, hq⟩
  have hb : Below w6.heap.size w6 w7 := by rw [hq]; first | exact bel_q (Below.refl _ _) _ | exact bel_q (bel_q (Below.refl _ _) _) _
  clear hq
  have HB7 := hide (HB6.out.trans (hb.mono HB6.out.size))
  have hs7 : w6.heap.size ≤ w7.heap.size := hb.size
  have HOW0_7 := hide (HOW0_6.out.below hb)
  clear HOW0_6
  have HOR0_7 := hide (HOR0_6.out.below hb)
  clear HOR0_6
  have HOQ0_7 := hide (HOQ0_6.out.below hb)
  clear HOQ0_6
  clear hb
  go_wp2_with fail
  refine (heldFl_any _ L0 _ (1) _ hM0 (by omega) (by omega) HOR0_7.out.sl).mono ?_
  rintro e w8 ⟨rfl, q, hq⟩
  have hb : Below w7.heap.size w7 w8 := by rw [hq]; first | exact bel_q (Below.refl _ _) _ | exact bel_q (bel_q (Below.refl _ _) _) _
  clear hq
  have HB8 := hide (HB7.out.trans (hb.mono HB7.out.size))
  have hs8 : w7.heap.size ≤ w8.heap.size := hb.size
  have HOW0_8 := hide (HOW0_7.out.below hb)
  clear HOW0_7
  have HOR0_8 := hide (HOR0_7.out.below hb)
  clear HOR0_7
  have HOQ0_8 := hide (HOQ0_7.out.below hb)
  clear HOQ0_7
  clear hb
  go_wp2_with fail
  go_ret
  exact ⟨rfl, HB8.out⟩
end Go.Proofs.Ytelcknddbikgaab
