/- The law FnExactInterestByRates, walked. -/
import Derived.Test.YtadgkecbcadfpabIq
import Derived.Test.YtadgkecbcadfpabRow
import Derived.Test.YtadgkecbcadfpabLs
namespace Go.Proofs.Ytadgkecbcadfpab
open Go.RowKit Go.Dues
set_option maxRecDepth 100000 in
set_option maxHeartbeats 4000000 in
theorem lawInterestByRates_any (v0 : Int) (A1 : Option Addr) (n1 c1 : Nat) (x1 : Nat → Int) (A2 : Option Addr) (n2 c2 : Nat) (x2 : Nat → Int) (v3 : Int) (v4 : Int) (v5 : Int) (w : World) (hm1 : n1 ≤ maxLen) (hs1 : SL w A1 n1 (fun j => .int .i64 (x1 j))) (hm2 : n2 ≤ maxLen) (hs2 : SL w A2 n2 (fun j => .int .i64 (x2 j))) (wv0 : -9223372036854775808 ≤ v0 ∧ v0 ≤ 9223372036854775807) (wv3 : -9223372036854775808 ≤ v3 ∧ v3 ≤ 9223372036854775807) (wv4 : -9223372036854775808 ≤ v4 ∧ v4 ≤ 9223372036854775807) (wv5 : -9223372036854775808 ≤ v5 ∧ v5 ≤ 9223372036854775807) :
    Calls Try.prog 11 #[.int .i64 v0, .slice A1 n1 c1, .slice A2 n2 c2, .int .i64 v3, .int .i64 v4, .int .i64 v5] w fun e w' => e = .returned (.bool true) ∧ Below w.heap.size w w' := by
  have WV0 := hide wv0
  clear wv0
  have WV3 := hide wv3
  clear wv3
  have WV4 := hide wv4
  clear wv4
  have WV5 := hide wv5
  clear wv5
  unfold maxLen at hm1
  by_cases hbig1 : (1048576 : Int) < (n1 : Int)
  · clear hs1 hs2
    go_enter Try.func11, Try.ntmps11
    go_wp2
    go_ret
    exact ⟨rfl, Below.refl _ _⟩
  have hm1 : n1 ≤ maxLen := hm1
  have hn1 : n1 ≤ 1048576 := by omega
  unfold maxLen at hm2
  by_cases hbig2 : (1048576 : Int) < (n2 : Int)
  · clear hs1 hs2
    go_enter Try.func11, Try.ntmps11
    go_wp2
    go_ret
    exact ⟨rfl, Below.refl _ _⟩
  have hm2 : n2 ≤ maxLen := hm2
  have hn2 : n2 ≤ 1048576 := by omega
  have HS1 := hide hs1
  clear hs1
  have HS2 := hide hs2
  clear hs2
  obtain ⟨w0, hw0⟩ : ∃ u, u = w := ⟨_, rfl⟩
  have HB0 : Hid (Below w.heap.size w w0) := by rw [hw0]; exact Below.refl _ _
  have hs0 : w.heap.size ≤ w0.heap.size := by rw [hw0]; exact Nat.le_refl _
  have HW := hide hw0
  clear hw0
  go_enter Try.func11, Try.ntmps11
  go_wp2_with fail
  rw [← HW.out]
  clear HW
  refine (toIsW_any A1 n1 c1 x1 _ hn1 (HS1.out.below HB0.out)).mono ?_
  rintro e w1 ⟨gs1, rfl, hg1, hg2, hb, ho⟩
  have HOs1_1 := hide ho
  clear ho hg1 hg2
  have HB1 := hide (HB0.out.trans (hb.mono HB0.out.size))
  have hs1 : w0.heap.size ≤ w1.heap.size := hb.size
  clear hb
  go_wp2_with fail
  refine (toIsW_any A2 n2 c2 x2 _ hn2 (HS2.out.below HB1.out)).mono ?_
  rintro e w2 ⟨gs2, rfl, hg1, hg2, hb, ho⟩
  have HOs2_2 := hide ho
  clear ho hg1 hg2
  have HB2 := hide (HB1.out.trans (hb.mono HB1.out.size))
  have hs2 : w1.heap.size ≤ w2.heap.size := hb.size
  have HOs1_2 := hide (HOs1_1.out.below hb)
  clear HOs1_1
  clear hb
  go_wp2_with fail
  refine (specByRates_any v0 _ n1 n1 x1 _ n2 n2 x2 v3 v4 v5 _ hm1 HOs1_2.out.sl hm2 HOs2_2.out.sl).mono ?_
  rintro e w3 ⟨rfl, hb⟩
  have HB3 := hide (HB2.out.trans (hb.mono HB2.out.size))
  have hs3 : w2.heap.size ≤ w3.heap.size := hb.size
  have HOs1_3 := hide (HOs1_2.out.below hb)
  clear HOs1_2
  have HOs2_3 := hide (HOs2_2.out.below hb)
  clear HOs2_2
  clear hb
  clear HOs1_3
  clear HOs2_3
  go_wp2_with fail
  refine (toIsW_any A1 n1 c1 x1 _ hn1 (HS1.out.below HB3.out)).mono ?_
  rintro e w4 ⟨gx1_, rfl, hg1, hg2, hb, ho⟩
  have HOx1__4 := hide ho
  clear ho hg1 hg2
  have HB4 := hide (HB3.out.trans (hb.mono HB3.out.size))
  have hs4 : w3.heap.size ≤ w4.heap.size := hb.size
  clear hb
  go_wp2_with fail
  refine (toIsW_any A2 n2 c2 x2 _ hn2 (HS2.out.below HB4.out)).mono ?_
  rintro e w5 ⟨gx2_, rfl, hg1, hg2, hb, ho⟩
  have HOx2__5 := hide ho
  clear ho hg1 hg2
  have HB5 := hide (HB4.out.trans (hb.mono HB4.out.size))
  have hs5 : w4.heap.size ≤ w5.heap.size := hb.size
  have HOx1__5 := hide (HOx1__4.out.below hb)
  clear HOx1__4
  clear hb
  go_wp2_with fail
  refine (implByRates_any v0 _ n1 n1 x1 _ n2 n2 x2 v3 v4 v5 _ hm1 HOx1__5.out.sl hm2 HOx2__5.out.sl).mono ?_
  rintro e w6 ⟨rfl, hb⟩
  have HB6 := hide (HB5.out.trans (hb.mono HB5.out.size))
  have hs6 : w5.heap.size ≤ w6.heap.size := hb.size
  have HOx1__6 := hide (HOx1__5.out.below hb)
  clear HOx1__5
  have HOx2__6 := hide (HOx2__5.out.below hb)
  clear HOx2__5
  clear hb
  go_wp2_with fail
  refine (toIsW_any A1 n1 c1 x1 _ hn1 (HS1.out.below HB6.out)).mono ?_
  rintro e w7 ⟨gt, rfl, hg1, hg2, hb, ho⟩
  have HOt_7 := hide ho
  clear ho hg1 hg2
  have HB7 := hide (HB6.out.trans (hb.mono HB6.out.size))
  have hs7 : w6.heap.size ≤ w7.heap.size := hb.size
  have HOx1__7 := hide (HOx1__6.out.below hb)
  clear HOx1__6
  have HOx2__7 := hide (HOx2__6.out.below hb)
  clear HOx2__6
  clear hb
  go_wp2_with fail
  refine (eqIs_any _ _ n1 _ _ _ _ hm1 HOx1__7.out.sl HOt_7.out.sl).mono ?_
  rintro e w8 ⟨rfl, q, hq⟩
  have hb : Below w7.heap.size w7 w8 := by rw [hq]; exact bel_drewN (Below.refl _ _) _
  clear hq
  have HB8 := hide (HB7.out.trans (hb.mono HB7.out.size))
  have hs8 : w7.heap.size ≤ w8.heap.size := hb.size
  have HOx1__8 := hide (HOx1__7.out.below hb)
  clear HOx1__7
  have HOx2__8 := hide (HOx2__7.out.below hb)
  clear HOx2__7
  have HOt_8 := hide (HOt_7.out.below hb)
  clear HOt_7
  clear hb
  clear HOt_8
  go_wp2_with fail
  refine (toIsW_any A2 n2 c2 x2 _ hn2 (HS2.out.below HB8.out)).mono ?_
  rintro e w9 ⟨gt, rfl, hg1, hg2, hb, ho⟩
  have HOt_9 := hide ho
  clear ho hg1 hg2
  have HB9 := hide (HB8.out.trans (hb.mono HB8.out.size))
  have hs9 : w8.heap.size ≤ w9.heap.size := hb.size
  have HOx1__9 := hide (HOx1__8.out.below hb)
  clear HOx1__8
  have HOx2__9 := hide (HOx2__8.out.below hb)
  clear HOx2__8
  clear hb
  go_wp2_with fail
  refine (eqIs_any _ _ n2 _ _ _ _ hm2 HOx2__9.out.sl HOt_9.out.sl).mono ?_
  rintro e w10 ⟨rfl, q, hq⟩
  have hb : Below w9.heap.size w9 w10 := by rw [hq]; exact bel_drewN (Below.refl _ _) _
  clear hq
  have HB10 := hide (HB9.out.trans (hb.mono HB9.out.size))
  have hs10 : w9.heap.size ≤ w10.heap.size := hb.size
  have HOx1__10 := hide (HOx1__9.out.below hb)
  clear HOx1__9
  have HOx2__10 := hide (HOx2__9.out.below hb)
  clear HOx2__9
  have HOt_10 := hide (HOt_9.out.below hb)
  clear HOt_9
  clear hb
  clear HOt_10
  go_wp2_with fail
  go_ret
  exact ⟨rfl, HB10.out⟩
end Go.Proofs.Ytadgkecbcadfpab
