/- The law FnExactEvenParts, walked. -/
import Derived.Test.YtggpfaokmkhhdaaEv
import Derived.Test.YtggpfaokmkhhdaaMk
import Derived.Test.YtggpfaokmkhhdaaRow
namespace Go.Proofs.Ytggpfaokmkhhdaa
open Go.RowKit Go.Dues
set_option maxRecDepth 100000 in
set_option maxHeartbeats 4000000 in
theorem lawEvenParts_any (v0 : Int) (v1 : Int) (w : World) (wv0 : -9223372036854775808 ≤ v0 ∧ v0 ≤ 9223372036854775807) (wv1 : -9223372036854775808 ≤ v1 ∧ v1 ≤ 9223372036854775807) :
    Calls Try.prog 5 #[.int .i64 v0, .int .i64 v1] w fun e w' => e = .returned (.bool true) ∧ Below w.heap.size w w' := by
  have WV0 := hide wv0
  clear wv0
  have WV1 := hide wv1
  clear wv1
  obtain ⟨w0, hw0⟩ : ∃ u, u = w := ⟨_, rfl⟩
  have HB0 : Hid (Below w.heap.size w w0) := by rw [hw0]; exact Below.refl _ _
  have hs0 : w.heap.size ≤ w0.heap.size := by rw [hw0]; exact Nat.le_refl _
  have HW := hide hw0
  clear hw0
  go_enter Try.func5, Try.ntmps5
  go_wp2_with fail
  rw [← HW.out]
  clear HW
  refine (specEven_any v0 v1 _ ).mono ?_
  rintro e w1 ⟨W, Wc, rfl, ho, hb⟩
  have HOW_1 := hide ho
  clear ho
  have HB1 := hide (HB0.out.trans (hb.mono HB0.out.size))
  have hs1 : w0.heap.size ≤ w1.heap.size := hb.size
  clear hb
  go_wp2_with fail
  refine (implEven_any v0 v1 _ ).mono ?_
  rintro e w2 ⟨R, Rc, rfl, ho, hb⟩
  have HOR_2 := hide ho
  clear ho
  have HB2 := hide (HB1.out.trans (hb.mono HB1.out.size))
  have hs2 : w1.heap.size ≤ w2.heap.size := hb.size
  have HOW_2 := hide (HOW_1.out.below hb)
  clear HOW_1
  clear hb
  go_wp2_with fail
  refine (eqIs_any _ _ (lenV (evP v0 v1) v1.toNat) _ _ _ _ (by unfold maxLen; have := (show (lenV (evP v0 v1) v1.toNat) ≤ 1048576 from ev_len v1); omega) HOR_2.out.sl HOW_2.out.sl).mono ?_
  rintro e w3 ⟨rfl, q, hq⟩
  have hb : Below w2.heap.size w2 w3 := by rw [hq]; exact bel_drewN (Below.refl _ _) _
  clear hq
  have HB3 := hide (HB2.out.trans (hb.mono HB2.out.size))
  have hs3 : w2.heap.size ≤ w3.heap.size := hb.size
  have HOW_3 := hide (HOW_2.out.below hb)
  clear HOW_2
  have HOR_3 := hide (HOR_2.out.below hb)
  clear HOR_2
  clear hb
  have hM0 := (show (lenV (evP v0 v1) v1.toNat) ≤ 1048576 from ev_len v1)
  go_wp2_with fail
  refine (markIs_any _ (lenV (evP v0 v1) v1.toNat) _ w1.heap.size w2.heap.size _ (1) _ (hM0) (by omega) (by omega) HOR_3.out).mono ?_
  rintro e w4 ⟨rfl, ho, hw⟩
  have HOR_4 := hide ho
  clear ho HOR_3
  replace hw : Marked w1.heap.size w2.heap.size w3 w4 := marked_of hw
  have hs4 : w3.heap.size ≤ w4.heap.size := hw.size
  have HB4 := hide (HB3.out.trans (hw.bel (B := w.heap.size) (by omega) (by omega)))
  have HOW_4 := hide (HOW_3.out.marked hw (by omega))
  clear HOW_3
  clear hw
  go_wp2_with fail
  refine (heldIs_any _ (lenV (evP v0 v1) v1.toNat) _ (1) _ hM0 (by omega) (by omega) HOR_4.out.sl).mono ?_
  rintro e w5 ⟨rfl, q, hq⟩
  have hb : Below w4.heap.size w4 w5 := by rw [hq]; exact bel_drewN (Below.refl _ _) _
  clear hq
  have HB5 := hide (HB4.out.trans (hb.mono HB4.out.size))
  have hs5 : w4.heap.size ≤ w5.heap.size := hb.size
  have HOW_5 := hide (HOW_4.out.below hb)
  clear HOW_4
  have HOR_5 := hide (HOR_4.out.below hb)
  clear HOR_4
  clear hb
  go_wp2_with fail
  refine (implEven_any v0 v1 _ ).mono ?_
  rintro e w6 ⟨Q, Qc, rfl, ho, hb⟩
  have HOQ_6 := hide ho
  clear ho
  have HB6 := hide (HB5.out.trans (hb.mono HB5.out.size))
  have hs6 : w5.heap.size ≤ w6.heap.size := hb.size
  have HOW_6 := hide (HOW_5.out.below hb)
  clear HOW_5
  have HOR_6 := hide (HOR_5.out.below hb)
  clear HOR_5
  clear hb
  go_wp2_with fail
  refine (eqIs_any _ _ (lenV (evP v0 v1) v1.toNat) _ _ _ _ (by unfold maxLen; have := (show (lenV (evP v0 v1) v1.toNat) ≤ 1048576 from ev_len v1); omega) HOQ_6.out.sl HOW_6.out.sl).mono ?_
  rintro e w7 ⟨rfl, q, hq⟩
  have hb : Below w6.heap.size w6 w7 := by rw [hq]; exact bel_drewN (Below.refl _ _) _
  clear hq
  have HB7 := hide (HB6.out.trans (hb.mono HB6.out.size))
  have hs7 : w6.heap.size ≤ w7.heap.size := hb.size
  have HOW_7 := hide (HOW_6.out.below hb)
  clear HOW_6
  have HOR_7 := hide (HOR_6.out.below hb)
  clear HOR_6
  have HOQ_7 := hide (HOQ_6.out.below hb)
  clear HOQ_6
  clear hb
  go_wp2_with fail
  refine (heldIs_any _ (lenV (evP v0 v1) v1.toNat) _ (1) _ hM0 (by omega) (by omega) HOR_7.out.sl).mono ?_
  rintro e w8 ⟨rfl, q, hq⟩
  have hb : Below w7.heap.size w7 w8 := by rw [hq]; exact bel_drewN (Below.refl _ _) _
  clear hq
  have HB8 := hide (HB7.out.trans (hb.mono HB7.out.size))
  have hs8 : w7.heap.size ≤ w8.heap.size := hb.size
  have HOW_8 := hide (HOW_7.out.below hb)
  clear HOW_7
  have HOR_8 := hide (HOR_7.out.below hb)
  clear HOR_7
  have HOQ_8 := hide (HOQ_7.out.below hb)
  clear HOQ_7
  clear hb
  go_wp2_with fail
  go_ret
  exact ⟨rfl, HB8.out⟩
end Go.Proofs.Ytggpfaokmkhhdaa
