/- The law FnExactSameSaved, walked. -/
import Derived.Test.YtjndhcdanpnniaaSm9
import Derived.Test.YtjndhcdanpnniaaRow
namespace Go.Proofs.Ytjndhcdanpnniaa
open Go.RowKit Go.Dues
set_option maxRecDepth 100000 in
set_option maxHeartbeats 4000000 in
theorem lawSameSaved_any (A0 : Option Addr) (n0 c0 : Nat) (x0 : Nat → SV) (A1 : Option Addr) (n1 c1 : Nat) (x1 : Nat → SV) (w : World) (hm0 : n0 ≤ maxLen) (hs0 : SS w A0 n0 x0) (hv0 : ∀ j, j < n0 → (x0 j).ok) (hm1 : n1 ≤ maxLen) (hs1 : SS w A1 n1 x1) (hv1 : ∀ j, j < n1 → (x1 j).ok) :
    Calls Try.prog 5 #[.slice A0 n0 c0, .slice A1 n1 c1] w fun e w' => e = .returned (.bool true) ∧ Below w.heap.size w w' := by
  have HS0 := hide hs0
  clear hs0
  have HS1 := hide hs1
  clear hs1
  have HV0 := hide hv0
  clear hv0
  have HV1 := hide hv1
  clear hv1
  obtain ⟨w0, hw0⟩ : ∃ u, u = w := ⟨_, rfl⟩
  have HB0 : Hid (Below w.heap.size w w0) := by rw [hw0]; exact Below.refl _ _
  have hs0 : w.heap.size ≤ w0.heap.size := by rw [hw0]; exact Nat.le_refl _
  have HW := hide hw0
  clear hw0
  go_enter Try.func5, Try.ntmps5
  go_wp2_with fail
  rw [← HW.out]
  clear HW
  refine (szSavedS_any A0 n0 c0 x0 1048576 _ hm0 HV0.out (HS0.out.below HB0.out) (by omega) (by omega)).mono ?_
  rintro e w1 ⟨q0, rfl, hq0, hb⟩
  have HB1 := hide (HB0.out.trans (hb.mono HB0.out.size))
  have hs1 : w0.heap.size ≤ w1.heap.size := hb.size
  clear hb
  rcases hq0 with ⟨hg0, hl0⟩ | rfl
  rotate_left
  · go_wp2_with fail
    go_ret
    exact ⟨rfl, HB1.out⟩
  have hn0 : n0 ≤ 1048576 := by omega
  have hr0 : ssum x0 n0 ≤ 1048576 := by omega
  have HVN0 := hide (show ∀ j, j < n0 → svSum (x0 j) ≤ 1048576 from fun j hj => Nat.le_trans (ssum_mono x0 j n0 hj) hr0)
  have hh0 : q0 ≤ 1048576 := by omega
  have hz0 : ¬ q0 < 0 := by omega
  have HL0 := hide hl0
  clear hl0
  go_wp2_with fail
  refine (szSavedS_any A1 n1 c1 x1 q0 _ hm1 HV1.out (HS1.out.below HB1.out) hg0 hh0).mono ?_
  rintro e w2 ⟨q1, rfl, hq1, hb⟩
  have HB2 := hide (HB1.out.trans (hb.mono HB1.out.size))
  have hs2 : w1.heap.size ≤ w2.heap.size := hb.size
  clear hb
  rcases hq1 with ⟨hg1, hl1⟩ | rfl
  rotate_left
  · go_wp2_with fail
    go_ret
    exact ⟨rfl, HB2.out⟩
  have hn1 : n1 ≤ 1048576 := by omega
  have hr1 : ssum x1 n1 ≤ 1048576 := by omega
  have HVN1 := hide (show ∀ j, j < n1 → svSum (x1 j) ≤ 1048576 from fun j hj => Nat.le_trans (ssum_mono x1 j n1 hj) hr1)
  have hh1 : q1 ≤ 1048576 := by omega
  have hz1 : ¬ q1 < 0 := by omega
  have HL1 := hide hl1
  clear hl1
  go_wp2_with fail
  refine (toSavedS_any A0 n0 c0 x0 _ hn0 HVN0.out (HS0.out.below HB2.out)).mono ?_
  rintro e w3 ⟨gs0, rfl, ho, hb⟩
  have HOs0_3 := hide ho
  clear ho
  have HB3 := hide (HB2.out.trans (hb.mono HB2.out.size))
  have hs3 : w2.heap.size ≤ w3.heap.size := hb.size
  clear hb
  go_wp2_with fail
  refine (toSavedS_any A1 n1 c1 x1 _ hn1 HVN1.out (HS1.out.below HB3.out)).mono ?_
  rintro e w4 ⟨gs1, rfl, ho, hb⟩
  have HOs1_4 := hide ho
  clear ho
  have HB4 := hide (HB3.out.trans (hb.mono HB3.out.size))
  have hs4 : w3.heap.size ≤ w4.heap.size := hb.size
  have HOs0_4 := hide (HOs0_3.out.below hb)
  clear HOs0_3
  clear hb
  go_wp2_with fail
  refine (specSameSaved_any _ n0 n0 x0 _ n1 n1 x1 _ hm0 HV0.out HOs0_4.out hm1 HV1.out HOs1_4.out).mono ?_
  rintro e w5 ⟨rfl, hb⟩
  have HB5 := hide (HB4.out.trans (hb.mono HB4.out.size))
  have hs5 : w4.heap.size ≤ w5.heap.size := hb.size
  have HOs0_5 := hide (HOs0_4.out.below hb)
  clear HOs0_4
  have HOs1_5 := hide (HOs1_4.out.below hb)
  clear HOs1_4
  clear hb
  clear HOs0_5
  clear HOs1_5
  go_wp2_with fail
  refine (toSavedS_any A0 n0 c0 x0 _ hn0 HVN0.out (HS0.out.below HB5.out)).mono ?_
  rintro e w6 ⟨gx0_, rfl, ho, hb⟩
  have HOx0__6 := hide ho
  clear ho
  have HB6 := hide (HB5.out.trans (hb.mono HB5.out.size))
  have hs6 : w5.heap.size ≤ w6.heap.size := hb.size
  clear hb
  go_wp2_with fail
  refine (toSavedS_any A1 n1 c1 x1 _ hn1 HVN1.out (HS1.out.below HB6.out)).mono ?_
  rintro e w7 ⟨gx1_, rfl, ho, hb⟩
  have HOx1__7 := hide ho
  clear ho
  have HB7 := hide (HB6.out.trans (hb.mono HB6.out.size))
  have hs7 : w6.heap.size ≤ w7.heap.size := hb.size
  have HOx0__7 := hide (HOx0__6.out.below hb)
  clear HOx0__6
  clear hb
  go_wp2_with fail
  refine (implSameSaved_any _ n0 n0 x0 _ n1 n1 x1 _ hm0 HV0.out HOx0__7.out hm1 HV1.out HOx1__7.out).mono ?_
  rintro e w8 ⟨rfl, hb⟩
  have HB8 := hide (HB7.out.trans (hb.mono HB7.out.size))
  have hs8 : w7.heap.size ≤ w8.heap.size := hb.size
  have HOx0__8 := hide (HOx0__7.out.below hb)
  clear HOx0__7
  have HOx1__8 := hide (HOx1__7.out.below hb)
  clear HOx1__7
  clear hb
  go_wp2_with fail
  refine (toSavedS_any A0 n0 c0 x0 _ hn0 HVN0.out (HS0.out.below HB8.out)).mono ?_
  rintro e w9 ⟨gt, rfl, ho, hb⟩
  have HOt_9 := hide ho
  clear ho
  have HB9 := hide (HB8.out.trans (hb.mono HB8.out.size))
  have hs9 : w8.heap.size ≤ w9.heap.size := hb.size
  have HOx0__9 := hide (HOx0__8.out.below hb)
  clear HOx0__8
  have HOx1__9 := hide (HOx1__8.out.below hb)
  clear HOx1__8
  clear hb
  go_wp2_with fail
  refine (eqSavedS_any _ _ n0 _ _ x0 _ hm0 HV0.out HOx0__9.out HOt_9.out).mono ?_
  rintro e w10 ⟨rfl, hb⟩
  have HB10 := hide (HB9.out.trans (hb.mono HB9.out.size))
  have hs10 : w9.heap.size ≤ w10.heap.size := hb.size
  have HOx0__10 := hide (HOx0__9.out.below hb)
  clear HOx0__9
  have HOx1__10 := hide (HOx1__9.out.below hb)
  clear HOx1__9
  have HOt_10 := hide (HOt_9.out.below hb)
  clear HOt_9
  clear hb
  clear HOt_10
  go_wp2_with fail
  refine (toSavedS_any A1 n1 c1 x1 _ hn1 HVN1.out (HS1.out.below HB10.out)).mono ?_
  rintro e w11 ⟨gt, rfl, ho, hb⟩
  have HOt_11 := hide ho
  clear ho
  have HB11 := hide (HB10.out.trans (hb.mono HB10.out.size))
  have hs11 : w10.heap.size ≤ w11.heap.size := hb.size
  have HOx0__11 := hide (HOx0__10.out.below hb)
  clear HOx0__10
  have HOx1__11 := hide (HOx1__10.out.below hb)
  clear HOx1__10
  clear hb
  go_wp2_with fail
  refine (eqSavedS_any _ _ n1 _ _ x1 _ hm1 HV1.out HOx1__11.out HOt_11.out).mono ?_
  rintro e w12 ⟨rfl, hb⟩
  have HB12 := hide (HB11.out.trans (hb.mono HB11.out.size))
  have hs12 : w11.heap.size ≤ w12.heap.size := hb.size
  have HOx0__12 := hide (HOx0__11.out.below hb)
  clear HOx0__11
  have HOx1__12 := hide (HOx1__11.out.below hb)
  clear HOx1__11
  have HOt_12 := hide (HOt_11.out.below hb)
  clear HOt_11
  clear hb
  clear HOt_12
  go_wp2_with fail
  go_ret
  exact ⟨rfl, HB12.out⟩
end Go.Proofs.Ytjndhcdanpnniaa
